/- the document's Good; batches that are not too much; the reader's tags and digests; Two readers of the same bytes, side by side.; the reader's signs and envelopes; the reader's kinds and votes; the reader's votes; records: their cells, and the message that has all of one -/
import Derived.Test.YtinndbipomlokaaGreatJA0
import Derived.Test.YtinndbipomlokaaGreatJA9
import Derived.Test.YtinndbipomlokaaGreatJA4
import Derived.Deep.Cut
import Derived.Deep.DeepCutAuto
import Derived.Test.YtinndbipomlokaaGreatJA7
import Derived.Test.YtinndbipomlokaaGreatJA2
import Derived.WalkKit
import Derived.Deep.RegionHeld3
import Derived.Test.YtinndbipomlokaaGreatJA6
namespace Go.Proofs.YtinndbipomlokaaGreat
open Go.RowKit
open Sha Tal
set_option linter.unusedVariables false
set_option linter.unusedSimpArgs false
set_option maxRecDepth 100000 in
set_option maxHeartbeats 1000000 in
theorem xgood_any (m : Mg) (w : World) (om : m.ok) (am : m.At w) : Calls Tryz.prog 29 #[.agg m.ms.cells.toArray] w fun e w' => e = .returned (.bool m.good) ∧ Below w.heap.size w w' := by
 have hat : ∀ {w' : World} {b : Nat}, w'.rangeAt b 0 m.ms.cells → m.ms.at w' b := fun hr => om.ms.at hr
 have iq : (Tryz.prog.info? 63).map (·.size) = some m.ms.cells.length := by rw [om.ms.len]; exact iszM
 have con1 := fun h1 h8 w0 => xonly_any m om h1 h8 w0
 have csm1 := fun h1 h8 w0 (h0 : Below w.heap.size w w0) => xsame_any m m.bare w0 om (Mg.bare_ok om h1 h8) (am.below h0) ((Mg.bare_at am h1 h8).below h0)
 obtain ⟨G, hG⟩ : ∃ G, Hid (m.good = G) := ⟨_, hide rfl⟩
 obtain ⟨qb, hqb⟩ : ∃ q, Hid (m.bare.ms.cells = q) := ⟨_, hide rfl⟩
 rw [hG.out]
 simp only [hqb.out] at con1 csm1
 clear hqb
 obtain ⟨q, hq⟩ : ∃ q, Hid (m.ms.cells = q) := ⟨_, hide rfl⟩
 rw [hq.out] at iq ⊢
 simp only [hq.out] at hat con1 csm1
 clear hq
 obtain ⟨hB1, hR1, hs1⟩ := boxed_new w q 63
 have ck : (w.alloc (.cells q.toArray 63)).cell? ⟨w.heap.size, 0, none⟩ = some (.int .i64 m.k) := (hat hR1).k
 by_cases h1 : 1 ≤ m.k
 rotate_left
 ·have HG : Hid (G = false) := hide (by rw [← hG.out]; unfold Mg.good; rw [decide_eq_false (by omega), Bool.false_and])
  clear con1 csm1 hat
  have hk1 : m.k < 1 := by omega
  have hk1' : decide (m.k < 1) = true := decide_eq_true hk1
  go_enter Tryz.func29, Tryz.ntmps29
  go_upto_region 1 with fail
  refine hs_begin (S := (Below (w.alloc (.cells q.toArray 63)).drew.heap.size (w.alloc (.cells q.toArray 63)).drew)) 15 rfl (by kernel_rfl) ?_
  have hR8 := (World.rangeAt_drew _ _ _ _).2 hR1
  have hB8 := hB1.drew
  have hs8 : w.heap.size < (w.alloc (.cells q.toArray 63)).drew.heap.size := hs1
  replace ck : (w.alloc (.cells q.toArray 63)).drew.cell? ⟨w.heap.size, 0, none⟩ = some (.int .i64 m.k) := ck
  obtain ⟨w8, hw8⟩ : ∃ W, (w.alloc (.cells q.toArray 63)).drew = W := ⟨_, rfl⟩
  rw [hw8] at hR8 hB8 hs8 ck ⊢
  clear hw8 hR1 hB1 hs1
  have hS : (Below w8.heap.size w8) w8 := Below.refl _ _
  refine hs_t 0 5 (?_) rfl (by kernel_rfl) (by kernel_rfl) (by kernel_rfl) (by rfl) ?_ hS rfl ?_
  rotate_left
  ·intro w' hw
   go_simp
   try with_reducible rfl
  simp only [nz]
  refine hs_t 1 6 (.int .i64 m.k) rfl (by kernel_rfl) (by kernel_rfl) (by kernel_rfl) (by rfl) (fun w' hw => pl_one rfl rfl ((hw.cell (p := ⟨w.heap.size, 0, none⟩) hs8).trans ck) Tryz.underlying3 rfl) hS rfl ?_
  simp only [nz]
  refine hs_t 2 7 (.bool true) rfl (by kernel_rfl) (by kernel_rfl) (by kernel_rfl) (by rfl) (fun w' hw => by go_simp) hS rfl ?_
  simp only [nz]
  refine hs_t 3 8 (?_) rfl (by kernel_rfl) (by kernel_rfl) (by kernel_rfl) (by rfl) ?_ hS rfl ?_
  rotate_left
  ·intro w' hw
   go_simp
   try with_reducible rfl
  simp only [nz]
  refine hs_skip (i := 4) (d := some 9) rfl (by kernel_rfl) (by kernel_rfl) (by kernel_rfl) (by rfl) hS rfl ?_
  simp only [nz]
  refine hs_skip (i := 5) (d := some 10) rfl (by kernel_rfl) (by kernel_rfl) (by kernel_rfl) (by rfl) hS rfl ?_
  simp only [nz]
  refine hs_skip (i := 6) (d := some 11) rfl (by kernel_rfl) (by kernel_rfl) (by kernel_rfl) (by rfl) hS rfl ?_
  simp only [nz]
  refine hs_t 7 12 (?_) rfl (by kernel_rfl) (by kernel_rfl) (by kernel_rfl) (by rfl) ?_ hS rfl ?_
  rotate_left
  ·intro w' hw
   go_simp
   try with_reducible rfl
  simp only [nz]
  refine hs_t 8 13 (?_) rfl (by kernel_rfl) (by kernel_rfl) (by kernel_rfl) (by rfl) ?_ hS rfl ?_
  rotate_left
  ·intro w' hw
   go_simp
   try with_reducible rfl
  simp only [nz]
  refine hs_skip (i := 9) (d := some 14) rfl (by kernel_rfl) (by kernel_rfl) (by kernel_rfl) (by rfl) hS rfl ?_
  simp only [nz]
  refine hs_skip (i := 10) (d := some 15) rfl (by kernel_rfl) (by kernel_rfl) (by kernel_rfl) (by rfl) hS rfl ?_
  simp only [nz]
  refine hs_skip (i := 11) (d := some 16) rfl (by kernel_rfl) (by kernel_rfl) (by kernel_rfl) (by rfl) hS rfl ?_
  simp only [nz]
  refine hs_skip (i := 12) (d := some 17) rfl (by kernel_rfl) (by kernel_rfl) (by kernel_rfl) (by rfl) hS rfl ?_
  simp only [nz]
  refine hs_skip (i := 13) (d := some 18) rfl (by kernel_rfl) (by kernel_rfl) (by kernel_rfl) (by rfl) hS rfl ?_
  simp only [nz]
  refine hs_t 14 19 (?_) rfl (by kernel_rfl) (by kernel_rfl) (by kernel_rfl) (by rfl) ?_ hS rfl ?_
  rotate_left
  ·intro w' hw
   go_simp
   try with_reducible rfl
  simp only [nz]
  refine hs_done (by kernel_rfl) ?_
  go_wp2_with fail
  go_ret
  exact ⟨by rw [HG.out]; rfl, hB8⟩
 ·by_cases h8 : m.k ≤ 8
  rotate_left
  ·have HG : Hid (G = false) := hide (by rw [← hG.out]; unfold Mg.good; rw [decide_eq_false (by omega), Bool.false_and])
   clear con1 csm1 hat
   have hk1' : decide (m.k < 1) = false := decide_eq_false (by omega)
   have hk8 : 8 < m.k := by omega
   have hk8' : decide (8 < m.k) = true := decide_eq_true hk8
   go_enter Tryz.func29, Tryz.ntmps29
   go_upto_region 1 with fail
   refine hs_begin (S := (Below (w.alloc (.cells q.toArray 63)).drew.heap.size (w.alloc (.cells q.toArray 63)).drew)) 15 rfl (by kernel_rfl) ?_
   have hR8 := (World.rangeAt_drew _ _ _ _).2 hR1
   have hB8 := hB1.drew
   have hs8 : w.heap.size < (w.alloc (.cells q.toArray 63)).drew.heap.size := hs1
   replace ck : (w.alloc (.cells q.toArray 63)).drew.cell? ⟨w.heap.size, 0, none⟩ = some (.int .i64 m.k) := ck
   obtain ⟨w8, hw8⟩ : ∃ W, (w.alloc (.cells q.toArray 63)).drew = W := ⟨_, rfl⟩
   rw [hw8] at hR8 hB8 hs8 ck ⊢
   clear hw8 hR1 hB1 hs1
   have hS : (Below w8.heap.size w8) w8 := Below.refl _ _
   refine hs_t 0 5 (?_) rfl (by kernel_rfl) (by kernel_rfl) (by kernel_rfl) (by rfl) ?_ hS rfl ?_
   rotate_left
   ·intro w' hw
    go_simp
    try with_reducible rfl
   simp only [nz]
   refine hs_t 1 6 (.int .i64 m.k) rfl (by kernel_rfl) (by kernel_rfl) (by kernel_rfl) (by rfl) (fun w' hw => pl_one rfl rfl ((hw.cell (p := ⟨w.heap.size, 0, none⟩) hs8).trans ck) Tryz.underlying3 rfl) hS rfl ?_
   simp only [nz]
   refine hs_t 2 7 (.bool false) rfl (by kernel_rfl) (by kernel_rfl) (by kernel_rfl) (by rfl) (fun w' hw => by go_simp) hS rfl ?_
   simp only [nz]
   refine hs_t 3 8 (?_) rfl (by kernel_rfl) (by kernel_rfl) (by kernel_rfl) (by rfl) ?_ hS rfl ?_
   rotate_left
   ·intro w' hw
    go_simp
    try with_reducible rfl
   simp only [nz]
   refine hs_t 4 9 (?_) rfl (by kernel_rfl) (by kernel_rfl) (by kernel_rfl) (by rfl) ?_ hS rfl ?_
   rotate_left
   ·intro w' hw
    go_simp
    try with_reducible rfl
   simp only [nz]
   refine hs_t 5 10 (.int .i64 m.k) rfl (by kernel_rfl) (by kernel_rfl) (by kernel_rfl) (by rfl) (fun w' hw => pl_one rfl rfl ((hw.cell (p := ⟨w.heap.size, 0, none⟩) hs8).trans ck) Tryz.underlying3 rfl) hS rfl ?_
   simp only [nz]
   refine hs_t 6 11 (.bool true) rfl (by kernel_rfl) (by kernel_rfl) (by kernel_rfl) (by rfl) (fun w' hw => by go_simp) hS rfl ?_
   simp only [nz]
   refine hs_t 7 12 (?_) rfl (by kernel_rfl) (by kernel_rfl) (by kernel_rfl) (by rfl) ?_ hS rfl ?_
   rotate_left
   ·intro w' hw
    go_simp
    try with_reducible rfl
   simp only [nz]
   refine hs_t 8 13 (?_) rfl (by kernel_rfl) (by kernel_rfl) (by kernel_rfl) (by rfl) ?_ hS rfl ?_
   rotate_left
   ·intro w' hw
    go_simp
    try with_reducible rfl
   simp only [nz]
   refine hs_skip (i := 9) (d := some 14) rfl (by kernel_rfl) (by kernel_rfl) (by kernel_rfl) (by rfl) hS rfl ?_
   simp only [nz]
   refine hs_skip (i := 10) (d := some 15) rfl (by kernel_rfl) (by kernel_rfl) (by kernel_rfl) (by rfl) hS rfl ?_
   simp only [nz]
   refine hs_skip (i := 11) (d := some 16) rfl (by kernel_rfl) (by kernel_rfl) (by kernel_rfl) (by rfl) hS rfl ?_
   simp only [nz]
   refine hs_skip (i := 12) (d := some 17) rfl (by kernel_rfl) (by kernel_rfl) (by kernel_rfl) (by rfl) hS rfl ?_
   simp only [nz]
   refine hs_skip (i := 13) (d := some 18) rfl (by kernel_rfl) (by kernel_rfl) (by kernel_rfl) (by rfl) hS rfl ?_
   simp only [nz]
   refine hs_t 14 19 (?_) rfl (by kernel_rfl) (by kernel_rfl) (by kernel_rfl) (by rfl) ?_ hS rfl ?_
   rotate_left
   ·intro w' hw
    go_simp
    try with_reducible rfl
   simp only [nz]
   refine hs_done (by kernel_rfl) ?_
   go_wp2_with fail
   go_ret
   exact ⟨by rw [HG.out]; rfl, hB8⟩
  ·have HG0 : Hid (G = (Mg.B m m.bare && m.may)) := hide (by rw [← hG.out]; unfold Mg.good; rw [decide_eq_true ⟨h1, h8⟩, Bool.true_and])
   obtain ⟨sb, hsb⟩ : ∃ b, Mg.B m m.bare = b := ⟨_, rfl⟩
   rw [hsb] at HG0
   simp only [hsb] at csm1
   clear hsb
   have hk1' : decide (m.k < 1) = false := decide_eq_false (by omega)
   have hk8' : decide (8 < m.k) = false := decide_eq_false (by omega)
   cases sb
   ·have HG : Hid (G = false) := HG0
    clear hat
    go_enter Tryz.func29, Tryz.ntmps29
    go_upto_region 1 with fail
    refine hs_begin (S := (Below (w.alloc (.cells q.toArray 63)).drew.heap.size (w.alloc (.cells q.toArray 63)).drew)) 15 rfl (by kernel_rfl) ?_
    have hR8 := (World.rangeAt_drew _ _ _ _).2 hR1
    have hB8 := hB1.drew
    have hs8 : w.heap.size < (w.alloc (.cells q.toArray 63)).drew.heap.size := hs1
    replace ck : (w.alloc (.cells q.toArray 63)).drew.cell? ⟨w.heap.size, 0, none⟩ = some (.int .i64 m.k) := ck
    obtain ⟨w8, hw8⟩ : ∃ W, (w.alloc (.cells q.toArray 63)).drew = W := ⟨_, rfl⟩
    rw [hw8] at hR8 hB8 hs8 ck ⊢
    clear hw8 hR1 hB1 hs1
    have hS : (Below w8.heap.size w8) w8 := Below.refl _ _
    have con : ∀ w0, Calls Tryz.prog 58 #[.agg q.toArray] w0 (BareOk w0 qb) := con1 h1 h8
    have csm := fun w0 (h0 : Below w8.heap.size w8 w0) => csm1 h1 h8 w0 (hB8.trans (h0.mono hB8.size))
    refine hs_t 0 5 (?_) rfl (by kernel_rfl) (by kernel_rfl) (by kernel_rfl) (by rfl) ?_ hS rfl ?_
    rotate_left
    ·intro w' hw
     go_simp
     try with_reducible rfl
    simp only [nz]
    refine hs_t 1 6 (.int .i64 m.k) rfl (by kernel_rfl) (by kernel_rfl) (by kernel_rfl) (by rfl) (fun w' hw => pl_one rfl rfl ((hw.cell (p := ⟨w.heap.size, 0, none⟩) hs8).trans ck) Tryz.underlying3 rfl) hS rfl ?_
    simp only [nz]
    refine hs_t 2 7 (.bool false) rfl (by kernel_rfl) (by kernel_rfl) (by kernel_rfl) (by rfl) (fun w' hw => by go_simp) hS rfl ?_
    simp only [nz]
    refine hs_t 3 8 (?_) rfl (by kernel_rfl) (by kernel_rfl) (by kernel_rfl) (by rfl) ?_ hS rfl ?_
    rotate_left
    ·intro w' hw
     go_simp
     try with_reducible rfl
    simp only [nz]
    refine hs_t 4 9 (?_) rfl (by kernel_rfl) (by kernel_rfl) (by kernel_rfl) (by rfl) ?_ hS rfl ?_
    rotate_left
    ·intro w' hw
     go_simp
     try with_reducible rfl
    simp only [nz]
    refine hs_t 5 10 (.int .i64 m.k) rfl (by kernel_rfl) (by kernel_rfl) (by kernel_rfl) (by rfl) (fun w' hw => pl_one rfl rfl ((hw.cell (p := ⟨w.heap.size, 0, none⟩) hs8).trans ck) Tryz.underlying3 rfl) hS rfl ?_
    simp only [nz]
    refine hs_t 6 11 (.bool false) rfl (by kernel_rfl) (by kernel_rfl) (by kernel_rfl) (by rfl) (fun w' hw => by go_simp) hS rfl ?_
    simp only [nz]
    refine hs_t 7 12 (?_) rfl (by kernel_rfl) (by kernel_rfl) (by kernel_rfl) (by rfl) ?_ hS rfl ?_
    rotate_left
    ·intro w' hw
     go_simp
     try with_reducible rfl
    simp only [nz]
    refine hs_t 8 13 (?_) rfl (by kernel_rfl) (by kernel_rfl) (by kernel_rfl) (by rfl) ?_ hS rfl ?_
    rotate_left
    ·intro w' hw
     go_simp
     try with_reducible rfl
    simp only [nz]
    refine hs_t 9 14 (.agg q.toArray) rfl (by kernel_rfl) (by kernel_rfl) (by kernel_rfl) (by rfl) (fun w' hw => ex_mid rfl rfl (range_below hR8 hw hs8) Tryz.underlying63 rfl iq) hS rfl ?_
    simp only [nz]
    refine hs_t 10 15 (.agg q.toArray) rfl (by kernel_rfl) (by kernel_rfl) (by kernel_rfl) (by rfl) (fun w' hw => ex_mid rfl rfl (range_below hR8 hw hs8) Tryz.underlying63 rfl iq) hS rfl ?_
    simp only [nz]
    refine hs_call (i := 11) (d := some 16) rfl (by kernel_rfl) (by rfl) (by go_simp; first | done | exact ⟨rfl, rfl⟩ | with_reducible rfl) rfl ?_
    refine (con w8).mono ?_
    rintro _ w9 ⟨rfl, hb9⟩
    have hS : (Below w8.heap.size w8) w9 := hb9
    refine ⟨_, rfl, hS, ?_⟩
    simp only [nz]
    refine hs_call (i := 12) (d := some 17) rfl (by kernel_rfl) (by rfl) (by go_simp; first | done | exact ⟨rfl, rfl⟩ | with_reducible rfl) rfl ?_
    refine (csm w9 hS).mono ?_
    rintro _ w10 ⟨rfl, hb10⟩
    have hS : (Below w8.heap.size w8) w10 := hS.trans (hb10.mono hS.size)
    refine ⟨_, rfl, hS, ?_⟩
    simp only [nz]
    refine hs_t 13 18 (?_) rfl (by kernel_rfl) (by kernel_rfl) (by kernel_rfl) (by rfl) ?_ hS rfl ?_
    rotate_left
    ·intro w' hw
     go_simp
     try with_reducible rfl
    simp only [nz]
    refine hs_t 14 19 (?_) rfl (by kernel_rfl) (by kernel_rfl) (by kernel_rfl) (by rfl) ?_ hS rfl ?_
    rotate_left
    ·intro w' hw
     go_simp
     try with_reducible rfl
    simp only [nz]
    refine hs_done (by kernel_rfl) ?_
    go_wp2_with fail
    go_ret
    exact ⟨by rw [HG.out]; rfl, hB8.trans (hS.mono hB8.size)⟩
   ·have HG : Hid (G = m.may) := HG0
    obtain ⟨be, gE, hbe⟩ : ∃ b, (∀ w0, Calls Tryz.prog 59 #[.int .i64 m.e, .int .i64 1048576] w0 fun e w' => e = .returned (.bool b) ∧ w' = w0) ∧ Hid (inB m.e 1048576 = b) := ⟨_, fun w0 => upto_any _ _ w0, hide rfl⟩
    obtain ⟨bs, gS, hbs⟩ : ∃ b, (∀ w0, Calls Tryz.prog 59 #[.int .i64 m.s, .int .i64 1099511627776] w0 fun e w' => e = .returned (.bool b) ∧ w' = w0) ∧ Hid (inB m.s 1099511627776 = b) := ⟨_, fun w0 => upto_any _ _ w0, hide rfl⟩
    obtain ⟨bv, gV, hbv⟩ : ∃ b, (∀ w0, Calls Tryz.prog 59 #[.int .i64 m.v, .int .i64 1099511627776] w0 fun e w' => e = .returned (.bool b) ∧ w' = w0) ∧ Hid (inB m.v 1099511627776 = b) := ⟨_, fun w0 => upto_any _ _ w0, hide rfl⟩
    obtain ⟨bl, gL, hbl⟩ : ∃ b, (∀ w0, Calls Tryz.prog 59 #[.int .i64 m.l, .int .i64 64] w0 fun e w' => e = .returned (.bool b) ∧ w' = w0) ∧ Hid (inB m.l 64 = b) := ⟨_, fun w0 => upto_any _ _ w0, hide rfl⟩
    obtain ⟨b1, gCe, hb1⟩ : ∃ b, (∀ w0, Calls Tryz.prog 59 #[.int .i64 m.ce, .int .i64 1048576] w0 fun e w' => e = .returned (.bool b) ∧ w' = w0) ∧ Hid (inB m.ce 1048576 = b) := ⟨_, fun w0 => upto_any _ _ w0, hide rfl⟩
    obtain ⟨b2, gCv, hb2⟩ : ∃ b, (∀ w0, Calls Tryz.prog 59 #[.int .i64 m.cv, .int .i64 1099511627776] w0 fun e w' => e = .returned (.bool b) ∧ w' = w0) ∧ Hid (inB m.cv 1099511627776 = b) := ⟨_, fun w0 => upto_any _ _ w0, hide rfl⟩
    obtain ⟨b3, gCl, hb3⟩ : ∃ b, (∀ w0, Calls Tryz.prog 59 #[.int .i64 m.cl, .int .i64 64] w0 fun e w' => e = .returned (.bool b) ∧ w' = w0) ∧ Hid (inB m.cl 64 = b) := ⟨_, fun w0 => upto_any _ _ w0, hide rfl⟩
    obtain ⟨b4, gH, hb4⟩ : ∃ b, (∀ w0, Below w.heap.size w w0 → Calls Tryz.prog 60 #[m.he.val] w0 fun e w' => e = .returned (.bool b) ∧ Below w0.heap.size w0 w') ∧ Hid (mayL 4 Hd.may m.he.xs = b) := ⟨_, fun w0 h0 => xheld_any m.he w0 (am.he.below h0), hide rfl⟩
    obtain ⟨b5, gB, hb5⟩ : ∃ b, (∀ w0, Below w.heap.size w w0 → Calls Tryz.prog 61 #[.agg #[.bool m.q, m.rs.val]] w0 fun e w' => e = .returned (.bool b) ∧ Below w0.heap.size w0 w') ∧ Hid (batMay m.q m.rs = b) := ⟨_, fun w0 h0 => plain_any m.q m.rs w0 (am.rs.below h0), hide rfl⟩
    obtain ⟨b6, gNn, hb6⟩ : ∃ b, (∀ w0, Below w.heap.size w w0 → Calls Tryz.prog 62 #[m.ne.val] w0 fun e w' => e = .returned (.bool b) ∧ w' = w0) ∧ Hid (mayL 64 Ev.may m.ne.xs = b) := ⟨_, fun w0 h0 => xnews_any m.ne w0 (am.ne.below h0), hide rfl⟩
    obtain ⟨b7, gGg, hb7⟩ : ∃ b, (∀ w0, Below w.heap.size w w0 → Calls Tryz.prog 63 #[m.sg.val] w0 fun e w' => e = .returned (.bool b) ∧ w' = w0) ∧ Hid (sgsMay m.sg = b) := ⟨_, fun w0 h0 => xsigns_any m.sg w0 (am.sg.below h0), hide rfl⟩
    obtain ⟨b8, hb8⟩ : ∃ b, Hid (decide ((m.st.size : Int) ≤ 4194304) = b) := ⟨_, hide rfl⟩
    obtain ⟨B3, HB3⟩ : ∃ b, Hid ((((be && bs) && bv) && bl) = b) := ⟨_, hide rfl⟩
    obtain ⟨B5, HB5⟩ : ∃ b, Hid (((((B3 && b1) && b2) && b3) && b4) = b) := ⟨_, hide rfl⟩
    obtain ⟨B6, HB6⟩ : ∃ b, Hid (((((B5 && b5) && b6) && b7) && b8) = b) := ⟨_, hide rfl⟩
    have HM : Hid (m.may = ((if m.k = 2 then m.vt.may else true) && ((if m.k = 7 then certMay m.ct m.cs else true) && B6))) := hide (by
     rw [← HB6.out, ← HB5.out, ← HB3.out, ← hbe.out, ← hbs.out, ← hbv.out, ← hbl.out, ← hb1.out, ← hb2.out, ← hb3.out, ← hb4.out, ← hb5.out, ← hb6.out, ← hb7.out, ← hb8.out]
     unfold Mg.may Mg.mayL chgMay
     ac_rfl)
    rw [HM.out] at HG
    clear HM hbe hbs hbv hbl hb1 hb2 hb3 hb4 hb5 hb6 hb7
    obtain ⟨zc, hzl, hzc⟩ : ∃ z : List Value, z.length = 4 ∧ ∀ w' : World, (zeroValue 60).run Tryz.prog w' = .ok (.agg z.toArray) w' := ⟨_, rfl, zeroCh⟩
    have hix : (Tryz.prog.info? 28).map (·.size) = some m.vt.cells.length := by rw [om.vt.len]; exact iszVo
    have hic : (Tryz.prog.info? 31).map (·.size) = some (certL m.ct m.cs).length := by rw [show (certL m.ct m.cs).length = 37 by simp [certL, om.ct.len]]; exact iszCe
    go_enter Tryz.func29, Tryz.ntmps29
    go_upto_region 1 with fail
    refine hs_begin (S := (Below (w.alloc (.cells q.toArray 63)).drew.heap.size (w.alloc (.cells q.toArray 63)).drew)) 15 rfl (by kernel_rfl) ?_
    have hR8 := (World.rangeAt_drew _ _ _ _).2 hR1
    have hB8 := hB1.drew
    have hs8 : w.heap.size < (w.alloc (.cells q.toArray 63)).drew.heap.size := hs1
    replace ck : (w.alloc (.cells q.toArray 63)).drew.cell? ⟨w.heap.size, 0, none⟩ = some (.int .i64 m.k) := ck
    obtain ⟨w8, hw8⟩ : ∃ W, (w.alloc (.cells q.toArray 63)).drew = W := ⟨_, rfl⟩
    rw [hw8] at hR8 hB8 hs8 ck ⊢
    clear hw8 hR1 hB1 hs1
    have hS : (Below w8.heap.size w8) w8 := Below.refl _ _
    have con : ∀ w0, Calls Tryz.prog 58 #[.agg q.toArray] w0 (BareOk w0 qb) := con1 h1 h8
    have csm := fun w0 (h0 : Below w8.heap.size w8 w0) => csm1 h1 h8 w0 (hB8.trans (h0.mono hB8.size))
    refine hs_t 0 5 (?_) rfl (by kernel_rfl) (by kernel_rfl) (by kernel_rfl) (by rfl) ?_ hS rfl ?_
    rotate_left
    ·intro w' hw
     go_simp
     try with_reducible rfl
    simp only [nz]
    refine hs_t 1 6 (.int .i64 m.k) rfl (by kernel_rfl) (by kernel_rfl) (by kernel_rfl) (by rfl) (fun w' hw => pl_one rfl rfl ((hw.cell (p := ⟨w.heap.size, 0, none⟩) hs8).trans ck) Tryz.underlying3 rfl) hS rfl ?_
    simp only [nz]
    refine hs_t 2 7 (.bool false) rfl (by kernel_rfl) (by kernel_rfl) (by kernel_rfl) (by rfl) (fun w' hw => by go_simp) hS rfl ?_
    simp only [nz]
    refine hs_t 3 8 (?_) rfl (by kernel_rfl) (by kernel_rfl) (by kernel_rfl) (by rfl) ?_ hS rfl ?_
    rotate_left
    ·intro w' hw
     go_simp
     try with_reducible rfl
    simp only [nz]
    refine hs_t 4 9 (?_) rfl (by kernel_rfl) (by kernel_rfl) (by kernel_rfl) (by rfl) ?_ hS rfl ?_
    rotate_left
    ·intro w' hw
     go_simp
     try with_reducible rfl
    simp only [nz]
    refine hs_t 5 10 (.int .i64 m.k) rfl (by kernel_rfl) (by kernel_rfl) (by kernel_rfl) (by rfl) (fun w' hw => pl_one rfl rfl ((hw.cell (p := ⟨w.heap.size, 0, none⟩) hs8).trans ck) Tryz.underlying3 rfl) hS rfl ?_
    simp only [nz]
    refine hs_t 6 11 (.bool false) rfl (by kernel_rfl) (by kernel_rfl) (by kernel_rfl) (by rfl) (fun w' hw => by go_simp) hS rfl ?_
    simp only [nz]
    refine hs_t 7 12 (?_) rfl (by kernel_rfl) (by kernel_rfl) (by kernel_rfl) (by rfl) ?_ hS rfl ?_
    rotate_left
    ·intro w' hw
     go_simp
     try with_reducible rfl
    simp only [nz]
    refine hs_t 8 13 (?_) rfl (by kernel_rfl) (by kernel_rfl) (by kernel_rfl) (by rfl) ?_ hS rfl ?_
    rotate_left
    ·intro w' hw
     go_simp
     try with_reducible rfl
    simp only [nz]
    refine hs_t 9 14 (.agg q.toArray) rfl (by kernel_rfl) (by kernel_rfl) (by kernel_rfl) (by rfl) (fun w' hw => ex_mid rfl rfl (range_below hR8 hw hs8) Tryz.underlying63 rfl iq) hS rfl ?_
    simp only [nz]
    refine hs_t 10 15 (.agg q.toArray) rfl (by kernel_rfl) (by kernel_rfl) (by kernel_rfl) (by rfl) (fun w' hw => ex_mid rfl rfl (range_below hR8 hw hs8) Tryz.underlying63 rfl iq) hS rfl ?_
    simp only [nz]
    refine hs_call (i := 11) (d := some 16) rfl (by kernel_rfl) (by rfl) (by go_simp; first | done | exact ⟨rfl, rfl⟩ | with_reducible rfl) rfl ?_
    refine (con w8).mono ?_
    rintro _ w9 ⟨rfl, hb9⟩
    have hS : (Below w8.heap.size w8) w9 := hb9
    refine ⟨_, rfl, hS, ?_⟩
    simp only [nz]
    refine hs_call (i := 12) (d := some 17) rfl (by kernel_rfl) (by rfl) (by go_simp; first | done | exact ⟨rfl, rfl⟩ | with_reducible rfl) rfl ?_
    refine (csm w9 hS).mono ?_
    rintro _ w10 ⟨rfl, hb10⟩
    have hS : (Below w8.heap.size w8) w10 := hS.trans (hb10.mono hS.size)
    refine ⟨_, rfl, hS, ?_⟩
    simp only [nz]
    refine hs_t 13 18 (?_) rfl (by kernel_rfl) (by kernel_rfl) (by kernel_rfl) (by rfl) ?_ hS rfl ?_
    rotate_left
    ·intro w' hw
     go_simp
     try with_reducible rfl
    simp only [nz]
    refine hs_t 14 19 (?_) rfl (by kernel_rfl) (by kernel_rfl) (by kernel_rfl) (by rfl) ?_ hS rfl ?_
    rotate_left
    ·intro w' hw
     go_simp
     try with_reducible rfl
    simp only [nz]
    refine hs_done (by kernel_rfl) ?_
    have hB : Below w.heap.size w w10 := hB8.trans (hS.mono hB8.size)
    have hR := range_below hR8 hS hs8
    have hs : w.heap.size < w10.heap.size := Nat.lt_of_lt_of_le hs8 hS.size
    obtain ⟨W, hWW⟩ : ∃ W, w10 = W := ⟨_, rfl⟩
    rw [hWW] at hB hR hs ⊢
    clear hWW hb10 hS hb9 csm con hR8 hB8 hs8 ck
    have MA := hat hR
    have ce := MA.e
    have cs := MA.s
    have cv := MA.v
    have cl := MA.l
    go_upto_region 3 with fail
    go_cut [3] (fun v wx => v = .bool B3 ∧ wx = W)
    case first =>
     try simp only [Act.put]
     refine pl_begin ?_
     refine pl_t 20 (?_) (by rfl) ?_ rfl ?_
     rotate_left
     ·go_simp
      try with_reducible rfl
     simp only [nz]
     refine pl_t 21 (.int .i64 m.e) (by rfl) (pl_one rfl rfl ce Tryz.underlying3 rfl) rfl ?_
     simp only [nz]
     refine pl_call (d := some 22) (by rfl) (by go_simp; first | done | exact ⟨rfl, rfl⟩ | with_reducible rfl) rfl ?_
     refine (gE _).mono ?_
     rintro _ w9 ⟨rfl, hx⟩
     obtain rfl := hx.symm
     clear hx
     refine ⟨_, rfl, ?_⟩
     simp only [nz]
     cases be
     ·refine pl_t 23 (?_) (by rfl) ?_ rfl ?_
      rotate_left
      ·go_simp
       try with_reducible rfl
      simp only [nz]
      refine pl_skip (d := some 24) (by rfl) rfl ?_
      simp only [nz]
      refine pl_skip (d := some 25) (by rfl) rfl ?_
      simp only [nz]
      refine pl_skip (d := some 26) (by rfl) rfl ?_
      simp only [nz]
      refine pl_t 27 (?_) (by rfl) ?_ rfl ?_
      rotate_left
      ·go_simp
       try with_reducible rfl
      simp only [nz]
      refine pl_t 28 (?_) (by rfl) ?_ rfl ?_
      rotate_left
      ·go_simp
       try with_reducible rfl
      simp only [nz]
      refine pl_skip (d := some 29) (by rfl) rfl ?_
      simp only [nz]
      refine pl_skip (d := some 30) (by rfl) rfl ?_
      simp only [nz]
      refine pl_skip (d := some 31) (by rfl) rfl ?_
      simp only [nz]
      refine pl_t 32 (?_) (by rfl) ?_ rfl ?_
      rotate_left
      ·go_simp
       try with_reducible rfl
      simp only [nz]
      refine pl_t 33 (?_) (by rfl) ?_ rfl ?_
      rotate_left
      ·go_simp
       try with_reducible rfl
      simp only [nz]
      refine pl_skip (d := some 34) (by rfl) rfl ?_
      simp only [nz]
      refine pl_skip (d := some 35) (by rfl) rfl ?_
      simp only [nz]
      refine pl_skip (d := some 36) (by rfl) rfl ?_
      simp only [nz]
      refine pl_t 37 (?_) (by rfl) ?_ rfl ?_
      rotate_left
      ·go_simp
       try with_reducible rfl
      simp only [nz]
      refine pl_t 3 (?_) (by rfl) ?_ rfl ?_
      rotate_left
      ·go_simp
       try with_reducible rfl
      simp only [nz]
      refine pl_nil ?_
      go_wp2_with fail
      go_meet
      exact ⟨congrArg Value.bool (by have := HB3.out; simpa using this), rfl⟩
     ·refine pl_t 23 (?_) (by rfl) ?_ rfl ?_
      rotate_left
      ·go_simp
       try with_reducible rfl
      simp only [nz]
      refine pl_t 24 (?_) (by rfl) ?_ rfl ?_
      rotate_left
      ·go_simp
       try with_reducible rfl
      simp only [nz]
      refine pl_t 25 (.int .i64 m.s) (by rfl) (pl_one rfl rfl cs Tryz.underlying3 rfl) rfl ?_
      simp only [nz]
      refine pl_call (d := some 26) (by rfl) (by go_simp; first | done | exact ⟨rfl, rfl⟩ | with_reducible rfl) rfl ?_
      refine (gS _).mono ?_
      rintro _ w9 ⟨rfl, hx⟩
      obtain rfl := hx.symm
      clear hx
      refine ⟨_, rfl, ?_⟩
      simp only [nz]
      cases bs
      ·refine pl_t 27 (?_) (by rfl) ?_ rfl ?_
       rotate_left
       ·go_simp
        try with_reducible rfl
       simp only [nz]
       refine pl_t 28 (?_) (by rfl) ?_ rfl ?_
       rotate_left
       ·go_simp
        try with_reducible rfl
       simp only [nz]
       refine pl_skip (d := some 29) (by rfl) rfl ?_
       simp only [nz]
       refine pl_skip (d := some 30) (by rfl) rfl ?_
       simp only [nz]
       refine pl_skip (d := some 31) (by rfl) rfl ?_
       simp only [nz]
       refine pl_t 32 (?_) (by rfl) ?_ rfl ?_
       rotate_left
       ·go_simp
        try with_reducible rfl
       simp only [nz]
       refine pl_t 33 (?_) (by rfl) ?_ rfl ?_
       rotate_left
       ·go_simp
        try with_reducible rfl
       simp only [nz]
       refine pl_skip (d := some 34) (by rfl) rfl ?_
       simp only [nz]
       refine pl_skip (d := some 35) (by rfl) rfl ?_
       simp only [nz]
       refine pl_skip (d := some 36) (by rfl) rfl ?_
       simp only [nz]
       refine pl_t 37 (?_) (by rfl) ?_ rfl ?_
       rotate_left
       ·go_simp
        try with_reducible rfl
       simp only [nz]
       refine pl_t 3 (?_) (by rfl) ?_ rfl ?_
       rotate_left
       ·go_simp
        try with_reducible rfl
       simp only [nz]
       refine pl_nil ?_
       go_wp2_with fail
       go_meet
       exact ⟨congrArg Value.bool (by have := HB3.out; simpa using this), rfl⟩
      ·refine pl_t 27 (?_) (by rfl) ?_ rfl ?_
       rotate_left
       ·go_simp
        try with_reducible rfl
       simp only [nz]
       refine pl_t 28 (?_) (by rfl) ?_ rfl ?_
       rotate_left
       ·go_simp
        try with_reducible rfl
       simp only [nz]
       refine pl_t 29 (?_) (by rfl) ?_ rfl ?_
       rotate_left
       ·go_simp
        try with_reducible rfl
       simp only [nz]
       refine pl_t 30 (.int .i64 m.v) (by rfl) (pl_one rfl rfl cv Tryz.underlying3 rfl) rfl ?_
       simp only [nz]
       refine pl_call (d := some 31) (by rfl) (by go_simp; first | done | exact ⟨rfl, rfl⟩ | with_reducible rfl) rfl ?_
       refine (gV _).mono ?_
       rintro _ w9 ⟨rfl, hx⟩
       obtain rfl := hx.symm
       clear hx
       refine ⟨_, rfl, ?_⟩
       simp only [nz]
       cases bv
       ·refine pl_t 32 (?_) (by rfl) ?_ rfl ?_
        rotate_left
        ·go_simp
         try with_reducible rfl
        simp only [nz]
        refine pl_t 33 (?_) (by rfl) ?_ rfl ?_
        rotate_left
        ·go_simp
         try with_reducible rfl
        simp only [nz]
        refine pl_skip (d := some 34) (by rfl) rfl ?_
        simp only [nz]
        refine pl_skip (d := some 35) (by rfl) rfl ?_
        simp only [nz]
        refine pl_skip (d := some 36) (by rfl) rfl ?_
        simp only [nz]
        refine pl_t 37 (?_) (by rfl) ?_ rfl ?_
        rotate_left
        ·go_simp
         try with_reducible rfl
        simp only [nz]
        refine pl_t 3 (?_) (by rfl) ?_ rfl ?_
        rotate_left
        ·go_simp
         try with_reducible rfl
        simp only [nz]
        refine pl_nil ?_
        go_wp2_with fail
        go_meet
        exact ⟨congrArg Value.bool (by have := HB3.out; simpa using this), rfl⟩
       ·refine pl_t 32 (?_) (by rfl) ?_ rfl ?_
        rotate_left
        ·go_simp
         try with_reducible rfl
        simp only [nz]
        refine pl_t 33 (?_) (by rfl) ?_ rfl ?_
        rotate_left
        ·go_simp
         try with_reducible rfl
        simp only [nz]
        refine pl_t 34 (?_) (by rfl) ?_ rfl ?_
        rotate_left
        ·go_simp
         try with_reducible rfl
        simp only [nz]
        refine pl_t 35 (.int .i64 m.l) (by rfl) (pl_one rfl rfl cl Tryz.underlying3 rfl) rfl ?_
        simp only [nz]
        refine pl_call (d := some 36) (by rfl) (by go_simp; first | done | exact ⟨rfl, rfl⟩ | with_reducible rfl) rfl ?_
        refine (gL _).mono ?_
        rintro _ w9 ⟨rfl, hx⟩
        obtain rfl := hx.symm
        clear hx
        refine ⟨_, rfl, ?_⟩
        simp only [nz]
        cases bl
        ·refine pl_t 37 (?_) (by rfl) ?_ rfl ?_
         rotate_left
         ·go_simp
          try with_reducible rfl
         simp only [nz]
         refine pl_t 3 (?_) (by rfl) ?_ rfl ?_
         rotate_left
         ·go_simp
          try with_reducible rfl
         simp only [nz]
         refine pl_nil ?_
         go_wp2_with fail
         go_meet
         exact ⟨congrArg Value.bool (by have := HB3.out; simpa using this), rfl⟩
        ·refine pl_t 37 (?_) (by rfl) ?_ rfl ?_
         rotate_left
         ·go_simp
          try with_reducible rfl
         simp only [nz]
         refine pl_t 3 (?_) (by rfl) ?_ rfl ?_
         rotate_left
         ·go_simp
          try with_reducible rfl
         simp only [nz]
         refine pl_nil ?_
         go_wp2_with fail
         go_meet
         exact ⟨congrArg Value.bool (by have := HB3.out; simpa using this), rfl⟩
    case rest =>
     obtain ⟨rfl, hx⟩ := hcut
     obtain rfl := hx.symm
     clear hx gE gS gV gL ce cs cv cl HB3
     have rch := ms_chg MA
     obtain ⟨qc, hqc⟩ : ∃ q, Hid (([.int .i64 m.ce, .int .i64 m.cl, .int .i64 m.cv, m.he.val] : List Value) = q) := ⟨_, hide rfl⟩
     rw [hqc.out] at rch
     have hqcl : qc.length = 4 := by rw [← hqc.out]; rfl
     have hqc1 : ∀ v ∈ qc, v.oneCell' = true := by
      rw [← hqc.out]
      intro v hv
      simp only [List.mem_cons, List.not_mem_nil, or_false] at hv
      rcases hv with rfl | rfl | rfl | rfl <;> rfl
     go_upto_region 4 with fail
     try simp only [Act.put]
     refine pl_begin ?_
     refine pl_t 38 (?_) (by rfl) ?_ rfl ?_
     rotate_left
     ·go_simp
      try with_reducible rfl
     simp only [nz]
     refine pl_t 39 (.agg qc.toArray) (by rfl) (ex_mid rfl rfl rch Tryz.underlying60 rfl (by rw [hqcl]; exact iszCh)) rfl ?_
     simp only [nz]
     refine pl_run (d := some 4) (v := .pointer (some ⟨W.heap.size, 0, none⟩)) (w' := W.alloc (.cells zc.toArray 60)) (by rfl) (ex_alloc rfl (hzc _)) rfl ?_
     simp only [nz]
     refine pl_store (w' := (W.alloc (.cells zc.toArray 60)).setCells W.heap.size 0 qc) (by rfl) (ex_put (cs := qc.toArray) rfl rfl rfl (there_newN _ _ _ (by simp [hzl, hqcl])) (by simpa [hqcl] using iszCh) (all_one hqc1)) rfl ?_
     refine pl_nil ?_
     obtain ⟨hF1, hB3, -, -⟩ := fresh_store W zc.toArray 60 qc (by simp [hzl, hqcl])
     obtain ⟨X, hX⟩ : ∃ X, (W.alloc (.cells zc.toArray 60)).setCells W.heap.size 0 qc = X := ⟨_, rfl⟩
     rw [hX] at hF1 hB3 ⊢
     clear hX rch hqcl hqc1
     rw [← hqc.out] at hF1
     have d0 := hF1 0 _ rfl
     have d1 := hF1 1 _ rfl
     have d2 := hF1 2 _ rfl
     have d3 : X.cell? ⟨W.heap.size, 3, none⟩ = some (.slice m.he.a m.he.xs.length m.he.cap) := hF1 3 _ rfl
     simp only [Nat.zero_add, Nat.add_zero] at d0 d1 d2
     have hBX := hB.trans (hB3.mono hB.size)
     have hRX := range_below hR hB3 hs
     have hsX := Nat.lt_of_lt_of_le hs hB3.size
     have cH := gH X hBX
     clear hqc hF1 hB3 hB hR hs MA gH hzl hzc zc
     have HS : Below X.heap.size X X := Below.refl _ _
     go_upto_region 5 with fail
     go_cut [3] (fun v wx => v = .bool B5 ∧ Hid (Below X.heap.size X wx))
     case first =>
      try simp only [Act.put]
      refine pl_begin ?_
      refine pl_t 40 (?_) (by rfl) ?_ rfl ?_
      rotate_left
      ·go_simp
       try with_reducible rfl
      simp only [nz]
      refine pl_t 41 (?_) (by rfl) ?_ rfl ?_
      rotate_left
      ·go_simp
       try with_reducible rfl
      simp only [nz]
      cases B3
      ·refine pl_skip (d := some 42) (by rfl) rfl ?_
       simp only [nz]
       refine pl_skip (d := some 43) (by rfl) rfl ?_
       simp only [nz]
       refine pl_skip (d := some 44) (by rfl) rfl ?_
       simp only [nz]
       refine pl_t 45 (?_) (by rfl) ?_ rfl ?_
       rotate_left
       ·go_simp
        try with_reducible rfl
       simp only [nz]
       refine pl_t 46 (?_) (by rfl) ?_ rfl ?_
       rotate_left
       ·go_simp
        try with_reducible rfl
       simp only [nz]
       refine pl_skip (d := some 47) (by rfl) rfl ?_
       simp only [nz]
       refine pl_skip (d := some 48) (by rfl) rfl ?_
       simp only [nz]
       refine pl_skip (d := some 49) (by rfl) rfl ?_
       simp only [nz]
       refine pl_t 50 (?_) (by rfl) ?_ rfl ?_
       rotate_left
       ·go_simp
        try with_reducible rfl
       simp only [nz]
       refine pl_t 51 (?_) (by rfl) ?_ rfl ?_
       rotate_left
       ·go_simp
        try with_reducible rfl
       simp only [nz]
       refine pl_skip (d := some 52) (by rfl) rfl ?_
       simp only [nz]
       refine pl_skip (d := some 53) (by rfl) rfl ?_
       simp only [nz]
       refine pl_skip (d := some 54) (by rfl) rfl ?_
       simp only [nz]
       refine pl_t 55 (?_) (by rfl) ?_ rfl ?_
       rotate_left
       ·go_simp
        try with_reducible rfl
       simp only [nz]
       refine pl_t 56 (?_) (by rfl) ?_ rfl ?_
       rotate_left
       ·go_simp
        try with_reducible rfl
       simp only [nz]
       refine pl_skip (d := some 57) (by rfl) rfl ?_
       simp only [nz]
       refine pl_skip (d := some 58) (by rfl) rfl ?_
       simp only [nz]
       refine pl_skip (d := some 59) (by rfl) rfl ?_
       simp only [nz]
       refine pl_t 60 (?_) (by rfl) ?_ rfl ?_
       rotate_left
       ·go_simp
        try with_reducible rfl
       simp only [nz]
       refine pl_t 3 (?_) (by rfl) ?_ rfl ?_
       rotate_left
       ·go_simp
        try with_reducible rfl
       simp only [nz]
       refine pl_nil ?_
       go_wp2_with fail
       go_meet
       exact ⟨congrArg Value.bool (by have := HB5.out; simpa using this), hide HS⟩
      ·refine pl_t 42 (?_) (by rfl) ?_ rfl ?_
       rotate_left
       ·go_simp
        try with_reducible rfl
       simp only [nz]
       refine pl_t 43 (.int .i64 m.ce) (by rfl) (pl_one rfl rfl d0 Tryz.underlying3 rfl) rfl ?_
       simp only [nz]
       refine pl_call (d := some 44) (by rfl) (by go_simp; first | done | exact ⟨rfl, rfl⟩ | with_reducible rfl) rfl ?_
       refine (gCe _).mono ?_
       rintro _ w9 ⟨rfl, hx⟩
       obtain rfl := hx.symm
       clear hx
       refine ⟨_, rfl, ?_⟩
       simp only [nz]
       cases b1
       ·refine pl_t 45 (?_) (by rfl) ?_ rfl ?_
        rotate_left
        ·go_simp
         try with_reducible rfl
        simp only [nz]
        refine pl_t 46 (?_) (by rfl) ?_ rfl ?_
        rotate_left
        ·go_simp
         try with_reducible rfl
        simp only [nz]
        refine pl_skip (d := some 47) (by rfl) rfl ?_
        simp only [nz]
        refine pl_skip (d := some 48) (by rfl) rfl ?_
        simp only [nz]
        refine pl_skip (d := some 49) (by rfl) rfl ?_
        simp only [nz]
        refine pl_t 50 (?_) (by rfl) ?_ rfl ?_
        rotate_left
        ·go_simp
         try with_reducible rfl
        simp only [nz]
        refine pl_t 51 (?_) (by rfl) ?_ rfl ?_
        rotate_left
        ·go_simp
         try with_reducible rfl
        simp only [nz]
        refine pl_skip (d := some 52) (by rfl) rfl ?_
        simp only [nz]
        refine pl_skip (d := some 53) (by rfl) rfl ?_
        simp only [nz]
        refine pl_skip (d := some 54) (by rfl) rfl ?_
        simp only [nz]
        refine pl_t 55 (?_) (by rfl) ?_ rfl ?_
        rotate_left
        ·go_simp
         try with_reducible rfl
        simp only [nz]
        refine pl_t 56 (?_) (by rfl) ?_ rfl ?_
        rotate_left
        ·go_simp
         try with_reducible rfl
        simp only [nz]
        refine pl_skip (d := some 57) (by rfl) rfl ?_
        simp only [nz]
        refine pl_skip (d := some 58) (by rfl) rfl ?_
        simp only [nz]
        refine pl_skip (d := some 59) (by rfl) rfl ?_
        simp only [nz]
        refine pl_t 60 (?_) (by rfl) ?_ rfl ?_
        rotate_left
        ·go_simp
         try with_reducible rfl
        simp only [nz]
        refine pl_t 3 (?_) (by rfl) ?_ rfl ?_
        rotate_left
        ·go_simp
         try with_reducible rfl
        simp only [nz]
        refine pl_nil ?_
        go_wp2_with fail
        go_meet
        exact ⟨congrArg Value.bool (by have := HB5.out; simpa using this), hide HS⟩
       ·refine pl_t 45 (?_) (by rfl) ?_ rfl ?_
        rotate_left
        ·go_simp
         try with_reducible rfl
        simp only [nz]
        refine pl_t 46 (?_) (by rfl) ?_ rfl ?_
        rotate_left
        ·go_simp
         try with_reducible rfl
        simp only [nz]
        refine pl_t 47 (?_) (by rfl) ?_ rfl ?_
        rotate_left
        ·go_simp
         try with_reducible rfl
        simp only [nz]
        refine pl_t 48 (.int .i64 m.cv) (by rfl) (pl_one rfl rfl d2 Tryz.underlying3 rfl) rfl ?_
        simp only [nz]
        refine pl_call (d := some 49) (by rfl) (by go_simp; first | done | exact ⟨rfl, rfl⟩ | with_reducible rfl) rfl ?_
        refine (gCv _).mono ?_
        rintro _ w9 ⟨rfl, hx⟩
        obtain rfl := hx.symm
        clear hx
        refine ⟨_, rfl, ?_⟩
        simp only [nz]
        cases b2
        ·refine pl_t 50 (?_) (by rfl) ?_ rfl ?_
         rotate_left
         ·go_simp
          try with_reducible rfl
         simp only [nz]
         refine pl_t 51 (?_) (by rfl) ?_ rfl ?_
         rotate_left
         ·go_simp
          try with_reducible rfl
         simp only [nz]
         refine pl_skip (d := some 52) (by rfl) rfl ?_
         simp only [nz]
         refine pl_skip (d := some 53) (by rfl) rfl ?_
         simp only [nz]
         refine pl_skip (d := some 54) (by rfl) rfl ?_
         simp only [nz]
         refine pl_t 55 (?_) (by rfl) ?_ rfl ?_
         rotate_left
         ·go_simp
          try with_reducible rfl
         simp only [nz]
         refine pl_t 56 (?_) (by rfl) ?_ rfl ?_
         rotate_left
         ·go_simp
          try with_reducible rfl
         simp only [nz]
         refine pl_skip (d := some 57) (by rfl) rfl ?_
         simp only [nz]
         refine pl_skip (d := some 58) (by rfl) rfl ?_
         simp only [nz]
         refine pl_skip (d := some 59) (by rfl) rfl ?_
         simp only [nz]
         refine pl_t 60 (?_) (by rfl) ?_ rfl ?_
         rotate_left
         ·go_simp
          try with_reducible rfl
         simp only [nz]
         refine pl_t 3 (?_) (by rfl) ?_ rfl ?_
         rotate_left
         ·go_simp
          try with_reducible rfl
         simp only [nz]
         refine pl_nil ?_
         go_wp2_with fail
         go_meet
         exact ⟨congrArg Value.bool (by have := HB5.out; simpa using this), hide HS⟩
        ·refine pl_t 50 (?_) (by rfl) ?_ rfl ?_
         rotate_left
         ·go_simp
          try with_reducible rfl
         simp only [nz]
         refine pl_t 51 (?_) (by rfl) ?_ rfl ?_
         rotate_left
         ·go_simp
          try with_reducible rfl
         simp only [nz]
         refine pl_t 52 (?_) (by rfl) ?_ rfl ?_
         rotate_left
         ·go_simp
          try with_reducible rfl
         simp only [nz]
         refine pl_t 53 (.int .i64 m.cl) (by rfl) (pl_one rfl rfl d1 Tryz.underlying3 rfl) rfl ?_
         simp only [nz]
         refine pl_call (d := some 54) (by rfl) (by go_simp; first | done | exact ⟨rfl, rfl⟩ | with_reducible rfl) rfl ?_
         refine (gCl _).mono ?_
         rintro _ w9 ⟨rfl, hx⟩
         obtain rfl := hx.symm
         clear hx
         refine ⟨_, rfl, ?_⟩
         simp only [nz]
         cases b3
         ·refine pl_t 55 (?_) (by rfl) ?_ rfl ?_
          rotate_left
          ·go_simp
           try with_reducible rfl
          simp only [nz]
          refine pl_t 56 (?_) (by rfl) ?_ rfl ?_
          rotate_left
          ·go_simp
           try with_reducible rfl
          simp only [nz]
          refine pl_skip (d := some 57) (by rfl) rfl ?_
          simp only [nz]
          refine pl_skip (d := some 58) (by rfl) rfl ?_
          simp only [nz]
          refine pl_skip (d := some 59) (by rfl) rfl ?_
          simp only [nz]
          refine pl_t 60 (?_) (by rfl) ?_ rfl ?_
          rotate_left
          ·go_simp
           try with_reducible rfl
          simp only [nz]
          refine pl_t 3 (?_) (by rfl) ?_ rfl ?_
          rotate_left
          ·go_simp
           try with_reducible rfl
          simp only [nz]
          refine pl_nil ?_
          go_wp2_with fail
          go_meet
          exact ⟨congrArg Value.bool (by have := HB5.out; simpa using this), hide HS⟩
         ·refine pl_t 55 (?_) (by rfl) ?_ rfl ?_
          rotate_left
          ·go_simp
           try with_reducible rfl
          simp only [nz]
          refine pl_t 56 (?_) (by rfl) ?_ rfl ?_
          rotate_left
          ·go_simp
           try with_reducible rfl
          simp only [nz]
          refine pl_t 57 (?_) (by rfl) ?_ rfl ?_
          rotate_left
          ·go_simp
           try with_reducible rfl
          simp only [nz]
          refine pl_t 58 (.slice m.he.a m.he.xs.length m.he.cap) (by rfl) (pl_one rfl rfl d3 Tryz.underlying58 rfl) rfl ?_
          simp only [nz]
          refine pl_call (d := some 59) (by rfl) (by go_simp; first | done | exact ⟨rfl, rfl⟩ | with_reducible rfl) rfl ?_
          refine (cH).mono ?_
          rintro _ w9 ⟨rfl, hb9⟩
          replace HS := HS.trans (hb9.mono HS.size)
          clear hb9
          refine ⟨_, rfl, ?_⟩
          simp only [nz]
          cases b4
          ·refine pl_t 60 (?_) (by rfl) ?_ rfl ?_
           rotate_left
           ·go_simp
            try with_reducible rfl
           simp only [nz]
           refine pl_t 3 (?_) (by rfl) ?_ rfl ?_
           rotate_left
           ·go_simp
            try with_reducible rfl
           simp only [nz]
           refine pl_nil ?_
           go_wp2_with fail
           go_meet
           exact ⟨congrArg Value.bool (by have := HB5.out; simpa using this), hide HS⟩
          ·refine pl_t 60 (?_) (by rfl) ?_ rfl ?_
           rotate_left
           ·go_simp
            try with_reducible rfl
           simp only [nz]
           refine pl_t 3 (?_) (by rfl) ?_ rfl ?_
           rotate_left
           ·go_simp
            try with_reducible rfl
           simp only [nz]
           refine pl_nil ?_
           go_wp2_with fail
           go_meet
           exact ⟨congrArg Value.bool (by have := HB5.out; simpa using this), hide HS⟩
     case rest =>
      obtain ⟨rfl, HY⟩ := hcut
      obtain ⟨Y, hYY⟩ : ∃ Y, wc = Y := ⟨_, rfl⟩
      rw [hYY] at HY ⊢
      clear hYY gCe gCv gCl d0 d1 d2 d3 cH HB5
      have hBY := hBX.trans (HY.out.mono hBX.size)
      have hRY := range_below hRX HY.out hsX
      have hsY := Nat.lt_of_lt_of_le hsX HY.out.size
      have MA := hat hRY
      have rB := ms_bat MA
      have cN : Y.cell? ⟨w.heap.size, 47, none⟩ = some m.ne.val := MA.ne
      have cG : Y.cell? ⟨w.heap.size, 118, none⟩ = some m.sg.val := MA.sg
      have cT : Y.cell? ⟨w.heap.size, 117, none⟩ = some (.string m.st) := MA.st
      have cB := gB Y hBY
      have gN := fun w0 (h0 : Below Y.heap.size Y w0) => gNn w0 (hBY.trans (h0.mono hBY.size))
      have gG := fun w0 (h0 : Below Y.heap.size Y w0) => gGg w0 (hBY.trans (h0.mono hBY.size))
      clear MA HY HS hBX hRX hsX gB gNn gGg
      have HS : Below Y.heap.size Y Y := Below.refl _ _
      go_upto_region 6 with fail
      go_cut [3] (fun v wx => v = .bool B6 ∧ Hid (Below Y.heap.size Y wx))
      case first =>
       try simp only [Act.put]
       refine pl_begin ?_
       refine pl_t 61 (?_) (by rfl) ?_ rfl ?_
       rotate_left
       ·go_simp
        try with_reducible rfl
       simp only [nz]
       refine pl_t 62 (?_) (by rfl) ?_ rfl ?_
       rotate_left
       ·go_simp
        try with_reducible rfl
       simp only [nz]
       cases B5
       ·refine pl_skip (d := some 63) (by rfl) rfl ?_
        simp only [nz]
        refine pl_skip (d := some 64) (by rfl) rfl ?_
        simp only [nz]
        refine pl_skip (d := some 65) (by rfl) rfl ?_
        simp only [nz]
        refine pl_t 66 (?_) (by rfl) ?_ rfl ?_
        rotate_left
        ·go_simp
         try with_reducible rfl
        simp only [nz]
        refine pl_t 67 (?_) (by rfl) ?_ rfl ?_
        rotate_left
        ·go_simp
         try with_reducible rfl
        simp only [nz]
        refine pl_skip (d := some 68) (by rfl) rfl ?_
        simp only [nz]
        refine pl_skip (d := some 69) (by rfl) rfl ?_
        simp only [nz]
        refine pl_skip (d := some 70) (by rfl) rfl ?_
        simp only [nz]
        refine pl_t 71 (?_) (by rfl) ?_ rfl ?_
        rotate_left
        ·go_simp
         try with_reducible rfl
        simp only [nz]
        refine pl_t 72 (?_) (by rfl) ?_ rfl ?_
        rotate_left
        ·go_simp
         try with_reducible rfl
        simp only [nz]
        refine pl_skip (d := some 73) (by rfl) rfl ?_
        simp only [nz]
        refine pl_skip (d := some 74) (by rfl) rfl ?_
        simp only [nz]
        refine pl_skip (d := some 75) (by rfl) rfl ?_
        simp only [nz]
        refine pl_t 76 (?_) (by rfl) ?_ rfl ?_
        rotate_left
        ·go_simp
         try with_reducible rfl
        simp only [nz]
        refine pl_t 77 (?_) (by rfl) ?_ rfl ?_
        rotate_left
        ·go_simp
         try with_reducible rfl
        simp only [nz]
        refine pl_skip (d := some 78) (by rfl) rfl ?_
        simp only [nz]
        refine pl_skip (d := some 79) (by rfl) rfl ?_
        simp only [nz]
        refine pl_skip (d := some 80) (by rfl) rfl ?_
        simp only [nz]
        refine pl_skip (d := some 81) (by rfl) rfl ?_
        simp only [nz]
        refine pl_t 82 (?_) (by rfl) ?_ rfl ?_
        rotate_left
        ·go_simp
         try with_reducible rfl
        simp only [nz]
        refine pl_t 3 (?_) (by rfl) ?_ rfl ?_
        rotate_left
        ·go_simp
         try with_reducible rfl
        simp only [nz]
        refine pl_nil ?_
        go_wp2_with fail
        go_meet
        exact ⟨congrArg Value.bool (by have := HB6.out; simpa using this), hide HS⟩
       ·refine pl_t 63 (?_) (by rfl) ?_ rfl ?_
        rotate_left
        ·go_simp
         try with_reducible rfl
        simp only [nz]
        refine pl_t 64 (.agg ([.bool m.q, m.rs.val] : List Value).toArray) (by rfl) (ex_mid rfl rfl rB Tryz.underlying24 rfl iszBa) rfl ?_
        simp only [nz]
        refine pl_call (d := some 65) (by rfl) (by go_simp; first | done | exact ⟨rfl, rfl⟩ | with_reducible rfl) rfl ?_
        refine (cB).mono ?_
        rintro _ w9 ⟨rfl, hb9⟩
        replace HS := HS.trans (hb9.mono HS.size)
        clear hb9
        refine ⟨_, rfl, ?_⟩
        simp only [nz]
        cases b5
        ·refine pl_t 66 (?_) (by rfl) ?_ rfl ?_
         rotate_left
         ·go_simp
          try with_reducible rfl
         simp only [nz]
         refine pl_t 67 (?_) (by rfl) ?_ rfl ?_
         rotate_left
         ·go_simp
          try with_reducible rfl
         simp only [nz]
         refine pl_skip (d := some 68) (by rfl) rfl ?_
         simp only [nz]
         refine pl_skip (d := some 69) (by rfl) rfl ?_
         simp only [nz]
         refine pl_skip (d := some 70) (by rfl) rfl ?_
         simp only [nz]
         refine pl_t 71 (?_) (by rfl) ?_ rfl ?_
         rotate_left
         ·go_simp
          try with_reducible rfl
         simp only [nz]
         refine pl_t 72 (?_) (by rfl) ?_ rfl ?_
         rotate_left
         ·go_simp
          try with_reducible rfl
         simp only [nz]
         refine pl_skip (d := some 73) (by rfl) rfl ?_
         simp only [nz]
         refine pl_skip (d := some 74) (by rfl) rfl ?_
         simp only [nz]
         refine pl_skip (d := some 75) (by rfl) rfl ?_
         simp only [nz]
         refine pl_t 76 (?_) (by rfl) ?_ rfl ?_
         rotate_left
         ·go_simp
          try with_reducible rfl
         simp only [nz]
         refine pl_t 77 (?_) (by rfl) ?_ rfl ?_
         rotate_left
         ·go_simp
          try with_reducible rfl
         simp only [nz]
         refine pl_skip (d := some 78) (by rfl) rfl ?_
         simp only [nz]
         refine pl_skip (d := some 79) (by rfl) rfl ?_
         simp only [nz]
         refine pl_skip (d := some 80) (by rfl) rfl ?_
         simp only [nz]
         refine pl_skip (d := some 81) (by rfl) rfl ?_
         simp only [nz]
         refine pl_t 82 (?_) (by rfl) ?_ rfl ?_
         rotate_left
         ·go_simp
          try with_reducible rfl
         simp only [nz]
         refine pl_t 3 (?_) (by rfl) ?_ rfl ?_
         rotate_left
         ·go_simp
          try with_reducible rfl
         simp only [nz]
         refine pl_nil ?_
         go_wp2_with fail
         go_meet
         exact ⟨congrArg Value.bool (by have := HB6.out; simpa using this), hide HS⟩
        ·refine pl_t 66 (?_) (by rfl) ?_ rfl ?_
         rotate_left
         ·go_simp
          try with_reducible rfl
         simp only [nz]
         refine pl_t 67 (?_) (by rfl) ?_ rfl ?_
         rotate_left
         ·go_simp
          try with_reducible rfl
         simp only [nz]
         refine pl_t 68 (?_) (by rfl) ?_ rfl ?_
         rotate_left
         ·go_simp
          try with_reducible rfl
         simp only [nz]
         refine pl_t 69 (m.ne.val) (by rfl) (pl_one rfl rfl ((HS.cell (p := ⟨w.heap.size, 47, none⟩) hsY).trans cN) Tryz.underlying61 rfl) rfl ?_
         simp only [nz]
         refine pl_call (d := some 70) (by rfl) (by go_simp; first | done | exact ⟨rfl, rfl⟩ | with_reducible rfl) rfl ?_
         refine (gN w9 HS).mono ?_
         rintro _ w10 ⟨rfl, hx⟩
         obtain rfl := hx.symm
         clear hx
         refine ⟨_, rfl, ?_⟩
         simp only [nz]
         cases b6
         ·refine pl_t 71 (?_) (by rfl) ?_ rfl ?_
          rotate_left
          ·go_simp
           try with_reducible rfl
          simp only [nz]
          refine pl_t 72 (?_) (by rfl) ?_ rfl ?_
          rotate_left
          ·go_simp
           try with_reducible rfl
          simp only [nz]
          refine pl_skip (d := some 73) (by rfl) rfl ?_
          simp only [nz]
          refine pl_skip (d := some 74) (by rfl) rfl ?_
          simp only [nz]
          refine pl_skip (d := some 75) (by rfl) rfl ?_
          simp only [nz]
          refine pl_t 76 (?_) (by rfl) ?_ rfl ?_
          rotate_left
          ·go_simp
           try with_reducible rfl
          simp only [nz]
          refine pl_t 77 (?_) (by rfl) ?_ rfl ?_
          rotate_left
          ·go_simp
           try with_reducible rfl
          simp only [nz]
          refine pl_skip (d := some 78) (by rfl) rfl ?_
          simp only [nz]
          refine pl_skip (d := some 79) (by rfl) rfl ?_
          simp only [nz]
          refine pl_skip (d := some 80) (by rfl) rfl ?_
          simp only [nz]
          refine pl_skip (d := some 81) (by rfl) rfl ?_
          simp only [nz]
          refine pl_t 82 (?_) (by rfl) ?_ rfl ?_
          rotate_left
          ·go_simp
           try with_reducible rfl
          simp only [nz]
          refine pl_t 3 (?_) (by rfl) ?_ rfl ?_
          rotate_left
          ·go_simp
           try with_reducible rfl
          simp only [nz]
          refine pl_nil ?_
          go_wp2_with fail
          go_meet
          exact ⟨congrArg Value.bool (by have := HB6.out; simpa using this), hide HS⟩
         ·refine pl_t 71 (?_) (by rfl) ?_ rfl ?_
          rotate_left
          ·go_simp
           try with_reducible rfl
          simp only [nz]
          refine pl_t 72 (?_) (by rfl) ?_ rfl ?_
          rotate_left
          ·go_simp
           try with_reducible rfl
          simp only [nz]
          refine pl_t 73 (?_) (by rfl) ?_ rfl ?_
          rotate_left
          ·go_simp
           try with_reducible rfl
          simp only [nz]
          refine pl_t 74 (m.sg.val) (by rfl) (pl_one rfl rfl ((HS.cell (p := ⟨w.heap.size, 118, none⟩) hsY).trans cG) Tryz.underlying29 rfl) rfl ?_
          simp only [nz]
          refine pl_call (d := some 75) (by rfl) (by go_simp; first | done | exact ⟨rfl, rfl⟩ | with_reducible rfl) rfl ?_
          refine (gG w9 HS).mono ?_
          rintro _ w10 ⟨rfl, hx⟩
          obtain rfl := hx.symm
          clear hx
          refine ⟨_, rfl, ?_⟩
          simp only [nz]
          cases b7
          ·refine pl_t 76 (?_) (by rfl) ?_ rfl ?_
           rotate_left
           ·go_simp
            try with_reducible rfl
           simp only [nz]
           refine pl_t 77 (?_) (by rfl) ?_ rfl ?_
           rotate_left
           ·go_simp
            try with_reducible rfl
           simp only [nz]
           refine pl_skip (d := some 78) (by rfl) rfl ?_
           simp only [nz]
           refine pl_skip (d := some 79) (by rfl) rfl ?_
           simp only [nz]
           refine pl_skip (d := some 80) (by rfl) rfl ?_
           simp only [nz]
           refine pl_skip (d := some 81) (by rfl) rfl ?_
           simp only [nz]
           refine pl_t 82 (?_) (by rfl) ?_ rfl ?_
           rotate_left
           ·go_simp
            try with_reducible rfl
           simp only [nz]
           refine pl_t 3 (?_) (by rfl) ?_ rfl ?_
           rotate_left
           ·go_simp
            try with_reducible rfl
           simp only [nz]
           refine pl_nil ?_
           go_wp2_with fail
           go_meet
           exact ⟨congrArg Value.bool (by have := HB6.out; simpa using this), hide HS⟩
          ·refine pl_t 76 (?_) (by rfl) ?_ rfl ?_
           rotate_left
           ·go_simp
            try with_reducible rfl
           simp only [nz]
           refine pl_t 77 (?_) (by rfl) ?_ rfl ?_
           rotate_left
           ·go_simp
            try with_reducible rfl
           simp only [nz]
           refine pl_t 78 (?_) (by rfl) ?_ rfl ?_
           rotate_left
           ·go_simp
            try with_reducible rfl
           simp only [nz]
           refine pl_t 79 (.string m.st) (by rfl) (pl_one rfl rfl ((HS.cell (p := ⟨w.heap.size, 117, none⟩) hsY).trans cT) Tryz.underlying9 rfl) rfl ?_
           simp only [nz]
           refine pl_t 80 (?_) (by rfl) ?_ rfl ?_
           rotate_left
           ·go_simp
            try with_reducible rfl
           simp only [nz]
           refine pl_t 81 (.bool b8) (by rfl) (by rw [← hb8.out]; go_simp) rfl ?_
           simp only [nz]
           cases b8
           ·refine pl_t 82 (?_) (by rfl) ?_ rfl ?_
            rotate_left
            ·go_simp
             try with_reducible rfl
            simp only [nz]
            refine pl_t 3 (?_) (by rfl) ?_ rfl ?_
            rotate_left
            ·go_simp
             try with_reducible rfl
            simp only [nz]
            refine pl_nil ?_
            go_wp2_with fail
            go_meet
            exact ⟨congrArg Value.bool (by have := HB6.out; simpa using this), hide HS⟩
           ·refine pl_t 82 (?_) (by rfl) ?_ rfl ?_
            rotate_left
            ·go_simp
             try with_reducible rfl
            simp only [nz]
            refine pl_t 3 (?_) (by rfl) ?_ rfl ?_
            rotate_left
            ·go_simp
             try with_reducible rfl
            simp only [nz]
            refine pl_nil ?_
            go_wp2_with fail
            go_meet
            exact ⟨congrArg Value.bool (by have := HB6.out; simpa using this), hide HS⟩
      case rest =>
       obtain ⟨rfl, HZ⟩ := hcut
       obtain ⟨Z, hZZ⟩ : ∃ Z, wc = Z := ⟨_, rfl⟩
       rw [hZZ] at HZ ⊢
       clear hZZ rB cN cG cT cB gN gG HS HB6 hb8
       have hBZ := hBY.trans (HZ.out.mono hBY.size)
       have hRZ := range_below hRY HZ.out hsY
       clear HZ hBY hRY hsY
       have MA := hat hRZ
       have ck := MA.k
       have hkk : m.ms.k = m.k := rfl
       rw [hkk] at ck
       have HS : Below Z.heap.size Z Z := Below.refl _ _
       by_cases h2 : m.k = 2
       ·have h7 : m.k ≠ 7 := by omega
        rw [if_pos h2, if_neg h7] at HG
        rw [h2] at ck
        have gX := fun w0 => xvote_any m.vt w0
        obtain ⟨bx, hbx⟩ : ∃ b, m.vt.may = b := ⟨_, rfl⟩
        rw [hbx] at HG
        simp only [hbx] at gX
        have HG2 := HG
        have rV : Z.rangeAt w.heap.size 7 m.vt.cells := MA.vt
        clear HG hbx MA h2 h7 h1 h8 hkk hG
        go_upto_region 8 with fail
        try simp only [Act.put]
        refine pl_begin ?_
        refine pl_t 86 (?_) (by rfl) ?_ rfl ?_
        rotate_left
        ·go_simp
         try with_reducible rfl
        simp only [nz]
        refine pl_t 87 (?_) (by rfl) ?_ rfl ?_
        rotate_left
        ·go_simp
         try with_reducible rfl
        simp only [nz]
        cases B6
        ·refine pl_skip (d := some 88) (by rfl) rfl ?_
         simp only [nz]
         refine pl_skip (d := some 89) (by rfl) rfl ?_
         simp only [nz]
         refine pl_skip (d := some 90) (by rfl) rfl ?_
         simp only [nz]
         refine pl_t 91 (?_) (by rfl) ?_ rfl ?_
         rotate_left
         ·go_simp
          try with_reducible rfl
         simp only [nz]
         refine pl_t 2 (?_) (by rfl) ?_ rfl ?_
         rotate_left
         ·go_simp
          try with_reducible rfl
         simp only [nz]
         refine pl_nil ?_
         go_wp2_with fail
         go_ret
         exact ⟨by have := HG2.out; simp at this; subst this; rfl, hBZ.trans (HS.mono hBZ.size)⟩
        ·refine pl_t 88 (?_) (by rfl) ?_ rfl ?_
         rotate_left
         ·go_simp
          try with_reducible rfl
         simp only [nz]
         refine pl_t 89 (.agg m.vt.cells.toArray) (by rfl) (ex_mid rfl rfl rV Tryz.underlying28 rfl hix) rfl ?_
         simp only [nz]
         refine pl_call (d := some 90) (by rfl) (by go_simp; first | done | exact ⟨rfl, rfl⟩ | with_reducible rfl) rfl ?_
         refine (gX Z).mono ?_
         rintro _ w9 ⟨rfl, hb9⟩
         replace HS := HS.trans (hb9.mono HS.size)
         clear hb9
         refine ⟨_, rfl, ?_⟩
         simp only [nz]
         cases bx
         ·refine pl_t 91 (?_) (by rfl) ?_ rfl ?_
          rotate_left
          ·go_simp
           try with_reducible rfl
          simp only [nz]
          refine pl_t 2 (?_) (by rfl) ?_ rfl ?_
          rotate_left
          ·go_simp
           try with_reducible rfl
          simp only [nz]
          refine pl_nil ?_
          go_wp2_with fail
          go_ret
          exact ⟨by have := HG2.out; simp at this; subst this; rfl, hBZ.trans (HS.mono hBZ.size)⟩
         ·refine pl_t 91 (?_) (by rfl) ?_ rfl ?_
          rotate_left
          ·go_simp
           try with_reducible rfl
          simp only [nz]
          refine pl_t 2 (?_) (by rfl) ?_ rfl ?_
          rotate_left
          ·go_simp
           try with_reducible rfl
          simp only [nz]
          refine pl_nil ?_
          go_wp2_with fail
          go_ret
          exact ⟨by have := HG2.out; simp at this; subst this; rfl, hBZ.trans (HS.mono hBZ.size)⟩
       ·by_cases h7 : m.k = 7
        ·rw [if_neg h2, if_pos h7] at HG
         rw [h7] at ck
         have gT := fun w0 h0 => xcertMay_any m.ct m.cs w0 om.ct (am.cs.below (w' := w0) h0)
         obtain ⟨bx, hbx⟩ : ∃ b, certMay m.ct m.cs = b := ⟨_, rfl⟩
         rw [hbx] at HG
         simp only [hbx] at gT
         have HG2 := HG
         have rC : Z.rangeAt w.heap.size 80 (certL m.ct m.cs) := MA.ct
         clear HG hbx MA h2 h7 h1 h8 hkk hG
         go_upto_region 10 with fail
         try simp only [Act.put]
         refine pl_begin ?_
         refine pl_t 95 (?_) (by rfl) ?_ rfl ?_
         rotate_left
         ·go_simp
          try with_reducible rfl
         simp only [nz]
         refine pl_t 96 (?_) (by rfl) ?_ rfl ?_
         rotate_left
         ·go_simp
          try with_reducible rfl
         simp only [nz]
         cases B6
         ·refine pl_skip (d := some 97) (by rfl) rfl ?_
          simp only [nz]
          refine pl_skip (d := some 98) (by rfl) rfl ?_
          simp only [nz]
          refine pl_skip (d := some 99) (by rfl) rfl ?_
          simp only [nz]
          refine pl_t 100 (?_) (by rfl) ?_ rfl ?_
          rotate_left
          ·go_simp
           try with_reducible rfl
          simp only [nz]
          refine pl_t 2 (?_) (by rfl) ?_ rfl ?_
          rotate_left
          ·go_simp
           try with_reducible rfl
          simp only [nz]
          refine pl_nil ?_
          go_wp2_with fail
          go_ret
          exact ⟨by have := HG2.out; simp at this; subst this; rfl, hBZ.trans (HS.mono hBZ.size)⟩
         ·refine pl_t 97 (?_) (by rfl) ?_ rfl ?_
          rotate_left
          ·go_simp
           try with_reducible rfl
          simp only [nz]
          refine pl_t 98 (.agg (certL m.ct m.cs).toArray) (by rfl) (ex_mid rfl rfl rC Tryz.underlying31 rfl hic) rfl ?_
          simp only [nz]
          refine pl_call (d := some 99) (by rfl) (by go_simp; first | done | exact ⟨rfl, rfl⟩ | with_reducible rfl) rfl ?_
          refine (gT Z hBZ).mono ?_
          rintro _ w9 ⟨rfl, hb9⟩
          replace HS := HS.trans (hb9.mono HS.size)
          clear hb9
          refine ⟨_, rfl, ?_⟩
          simp only [nz]
          cases bx
          ·refine pl_t 100 (?_) (by rfl) ?_ rfl ?_
           rotate_left
           ·go_simp
            try with_reducible rfl
           simp only [nz]
           refine pl_t 2 (?_) (by rfl) ?_ rfl ?_
           rotate_left
           ·go_simp
            try with_reducible rfl
           simp only [nz]
           refine pl_nil ?_
           go_wp2_with fail
           go_ret
           exact ⟨by have := HG2.out; simp at this; subst this; rfl, hBZ.trans (HS.mono hBZ.size)⟩
          ·refine pl_t 100 (?_) (by rfl) ?_ rfl ?_
           rotate_left
           ·go_simp
            try with_reducible rfl
           simp only [nz]
           refine pl_t 2 (?_) (by rfl) ?_ rfl ?_
           rotate_left
           ·go_simp
            try with_reducible rfl
           simp only [nz]
           refine pl_nil ?_
           go_wp2_with fail
           go_ret
           exact ⟨by have := HG2.out; simp at this; subst this; rfl, hBZ.trans (HS.mono hBZ.size)⟩
        ·rw [if_neg h2, if_neg h7] at HG
         have n2 : (m.k == 2) = false := beq_eq_false_iff_ne.2 h2
         have n7 : (m.k == 7) = false := beq_eq_false_iff_ne.2 h7
         have hgb : G = B6 := by have := HG.out; simp at this; exact this
         subst hgb
         clear HG MA h1 h8 hkk hG
         go_wp2
         go_ret
         exact ⟨rfl, hBZ⟩
structure Bat where
  q : Bool
  a : Option Addr
  cap : Nat
  rs : List BRq
def Bat.cells (x : Bat) : List Value := [.bool x.q, .slice x.a x.rs.length x.cap]
def Bat.at (x : Bat) (w : World) : Prop := ReqsAt w x.a x.rs ∧ True ∧ True
theorem Bat.at.below {x : Bat} {w w' : World} (h : x.at w) (hb : Below w.heap.size w w') : x.at w' := ⟨h.1.below hb, h.2.1, h.2.2⟩
def BatsAt (w : World) (b : Nat) (xs : List Bat) : Prop := xs.length ≤ 2 ∧ (∀ x ∈ xs, x.at w) ∧ b < w.heap.size ∧ w.rangeAt b 0 (xs.flatMap Bat.cells)
theorem BatsAt.below {w w' : World} {b : Nat} {xs : List Bat} (h : BatsAt w b xs) (hb : Below w.heap.size w w') : BatsAt w' b xs :=
 ⟨h.1, fun x hx => (h.2.1 x hx).below hb, Nat.lt_of_lt_of_le h.2.2.1 hb.size, range_below h.2.2.2 hb h.2.2.1⟩
theorem BatsAt.cell {w : World} {b : Nat} {xs : List Bat} (h : BatsAt w b xs) (k : Nat) (hk : k < xs.length) : w.cell? ⟨b, k * 2 + 1, none⟩ = some (.slice xs[k].a xs[k].rs.length xs[k].cap) := by
 have h4 := h.2.2.2
 have h1 := h.1
 match xs, k, hk, h4 with
 | [x], 0, _, h4 => exact h4 1 _ rfl
 | [x, y], 0, _, h4 => exact h4 1 _ rfl
 | [x, y], 1, _, h4 => exact h4 3 _ rfl
 | x :: y :: z :: l, _, _, _ => simp at h1
theorem gb_onR {w W W' : World} {R B : Nat} (h : w.grownBy W (some R)) (hb : Below B W W') (hB : w.heap.size ≤ B) : w.grownBy W' (some R) :=
 ⟨hb.os.trans h.os, hb.tape.trans h.tape, hb.output.trans h.output, Nat.le_trans h.size hb.size, fun i hi hr => (hb.block i (by omega)).trans (h.block i hi hr)⟩
theorem gb_setsR (W : World) (b : Nat) : ∀ (vs : List Value) (o : Nat), W.grownBy (W.setCells b o vs) (some b) := by
 intro vs
 induction vs generalizing W with
 | nil => intro o; exact gb_refl _ _
 | cons v vs ih => intro o; exact gb_trans (gb_set W b o v) (ih _ (o + 1))
theorem range_gbR {w w' : World} {R b : Nat} {cs : List Value} (h : w.rangeAt b 0 cs) (hg : w.grownBy w' (some R)) (hb : b < w.heap.size) (hne : b ≠ R) : w'.rangeAt b 0 cs := fun j v hv => by
 rw [(@cell_block w w' b (0 + j) (hg.block b hb (by intro q; injection q with q; exact hne q))).1]
 exact h j v hv
theorem there_gbR {w w' : World} {R b n : Nat} (h : w.there b 0 n) (hg : w.grownBy w' (some R)) (hb : b < w.heap.size) (hne : b ≠ R) : w'.there b 0 n := fun j hj => by
 have hk := @cell_block w w' b (0 + j) (hg.block b hb (by intro q; injection q with q; exact hne q))
 exact ⟨by rw [hk.1]; exact (h j hj).1, by rw [hk.2]; exact (h j hj).2⟩
theorem numS_len (rest : List Int) (e most : Int) : (numS rest e most).2.1.length ≤ rest.length := by
 unfold numS
 split
 ·split
  ·split
   ·exact Nat.le_refl _
   ·show (rest.drop _).length ≤ _; rw [List.length_drop]; omega
  ·exact Nat.le_refl _
 ·exact Nat.le_refl _
def padN (n : Nat) (zs : List Int) : List Int := if zs.length = n then zs else List.replicate n 0
theorem blk_sets {w : World} {b q o : Nat} {vs : List Value} (h : q ≠ b) : (w.setCells b o vs).heap[q]? = w.heap[q]? := by
 by_cases hq : q < w.heap.size
 ·exact (gb_setsR w b vs o).block q hq (by intro e; injection e with e; exact h e)
 ·have h1 : w.heap.size ≤ q := by omega
  rw [Array.getElem?_eq_none (by rw [size_sets]; exact h1), Array.getElem?_eq_none h1]
theorem RdE.gb {w w' : World} {R : Nat} {e : Int} {r : Option Nat} (h : RdE w R e) (hg : w.grownBy w' r) (hr : some R ≠ r) : RdE w' R e :=
 h.below (hg.block R h.1 hr) hg.size
theorem St.gb {w w' : World} {R g : Nat} {rest : List Int} {e : Int} (h : St w R rest e) (hg : w.grownBy w' (some g)) (hr : R < g) : St w' R rest e := by
 refine ⟨h.1.gb hg (by intro q; injection q with q; omega), fun he => ?_⟩
 obtain ⟨a, cap, h0, hc, hm, hrow, hlt⟩ := h.2 he
 refine ⟨a, cap, (cell_block (hg.block R h.1.1 (by intro q; injection q with q; omega))).1.trans h0, hc, hm, hrow.gb hg (.inr (fun x hx => by have := hlt x hx; omega)), hlt⟩
theorem RSt.gb {B : Nat} {w w' : World} {X g : Nat} {rest : List Int} {e : Int} (h : RSt B w X rest e) (hg : w.grownBy w' (some g)) (hr : g < B ∧ g ≠ X ∨ X < g) : RSt B w' X rest e := by
 obtain ⟨zs, p, ⟨hX, ⟨a, cap, h0, hc, hm, hrow, hlt⟩, h1, h2, f0, f1, f2, hp, hl⟩, hd⟩ := h
 have hne : some X ≠ some g := by intro q; injection q with q; omega
 have hk := fun j => @cell_block w w' X j (hg.block X hX hne)
 exact ⟨zs, p, ⟨Nat.lt_of_lt_of_le hX hg.size, ⟨a, cap, (hk 0).1.trans h0, hc, hm, hrow.gb hg (.inr (fun x hx => by have := hlt x hx; omega)), hlt⟩, (hk 1).1.trans h1, (hk 2).1.trans h2, (hk 0).2.trans f0, (hk 1).2.trans f1, (hk 2).2.trans f2, hp, hl⟩, hd⟩
structure Kept (w : World) (R X : Nat) (W : World) : Prop where
  os : W.os = w.os
  tape : W.tape = w.tape
  output : W.output = w.output
  size : w.heap.size ≤ W.heap.size
  block : ∀ k, k < w.heap.size → k ≠ R → k ≠ X → W.heap[k]? = w.heap[k]?
theorem Kept.refl (w : World) (R X : Nat) : Kept w R X w := ⟨rfl, rfl, rfl, Nat.le_refl _, fun _ _ _ _ => rfl⟩
theorem Kept.gb {w W W' : World} {R X g : Nat} (h : Kept w R X W) (hg : W.grownBy W' (some g)) (hr : g = R ∨ g = X ∨ w.heap.size ≤ g) : Kept w R X W' :=
 ⟨hg.os.trans h.os, hg.tape.trans h.tape, hg.output.trans h.output, Nat.le_trans h.size hg.size, fun k hk k1 k2 => (hg.block k (Nat.lt_of_lt_of_le hk h.size) (by intro q; injection q with q; omega)).trans (h.block k hk k1 k2)⟩
theorem Kept.below {w W W' : World} {R X : Nat} (h : Kept w R X W) (hb : Below W.heap.size W W') : Kept w R X W' :=
 ⟨hb.os.trans h.os, hb.tape.trans h.tape, hb.output.trans h.output, Nat.le_trans h.size hb.size, fun k hk k1 k2 => (hb.block k (Nat.lt_of_lt_of_le hk h.size)).trans (h.block k hk k1 k2)⟩
structure Two (B : Nat) (w : World) (R X : Nat) (W : World) (rest : List Int) (e : Int) : Prop where
  own : St W R rest e
  doc : RSt B W X rest e
  kept : Kept w R X W
theorem Two.below {B : Nat} {w W W' : World} {R X : Nat} {rest : List Int} {e : Int} (h : Two B w R X W rest e) (hb : Below W.heap.size W W') : Two B w R X W' rest e :=
 ⟨h.own.below hb, h.doc.below hb, h.kept.below hb⟩
theorem Two.gb {B : Nat} {w W W' : World} {R X g : Nat} {rest : List Int} {e : Int} (h : Two B w R X W rest e) (hg : W.grownBy W' (some g)) (h1 : R < X) (h2 : X < g) (h3 : w.heap.size ≤ g) : Two B w R X W' rest e :=
 ⟨h.own.gb hg (by omega), h.doc.gb hg (.inr h2), h.kept.gb hg (.inr (.inr h3))⟩
theorem ex_build {P : Program} {o : Oper} {a : Act} {w : World} {t : TypeId} {parts : List (Nat × Operand)} {vs : List (Nat × Value)} {v : Value} (ho : o.op = .build t parts.toArray) (hv : (parts.map fun (x : Nat × Operand) => (x.1, a.eval x.2)) = vs)
  (hr : (Instr.build t vs.toArray).run P w = .ok v w) : (execOp a.eval o).run P w = .ok (.value v) w := by
 subst hv
 have e : Array.map (fun (x : Nat × Operand) => (x.1, a.eval x.2)) parts.toArray = (parts.map fun (x : Nat × Operand) => (x.1, a.eval x.2)).toArray := by simp
 unfold execOp
 simp only [ho]
 rw [show (Instr.build t (Array.map (fun x => match x with | (i, x) => (i, a.eval x)) parts.toArray)) = Instr.build t (parts.map fun (x : Nat × Operand) => (x.1, a.eval x.2)).toArray from congrArg _ e]
 simp only [Sem.run_bind, hr, Result.andThen_ok, Sem.run_pure]
def sgS (rest : List Int) (e : Int) : Sg × List Int × Int :=
  let x1 := numS rest e 64
  let x2 := rawS x1.2.1 x1.2.2 16
  (⟨x1.1, padN 16 x2.1⟩, x2.2.1, x2.2.2)
def evS (rest : List Int) (e : Int) : Ev × List Int × Int :=
  let x1 := numS rest e 64
  let x2 := textS x1.2.1 x1.2.2 4194304
  let x3 := rawS x2.2.1 x2.2.2 16
  (⟨x1.1, strOf x2.1, padN 16 x3.1⟩, x3.2.1, x3.2.2)
theorem there_part1 {w : World} {b n o m : Nat} (h : w.there b 0 n) (hm : o + m ≤ n) : w.there b o m := fun j hj => by
 have := h (o + j) (by omega)
 rwa [Nat.zero_add] at this
theorem ex_put1 {P : Program} {o : Oper} {a : Act} {w : World} {ty : TypeId} {x y : Operand} {b off n : Nat} {v : Value} (ho : o.op = .store ty x y) (hx : a.eval x = .pointer (some ⟨b, off, none⟩)) (hy : a.eval y = v) (ht : w.there b 0 n) (hn : off < n) (hi : (P.info? ty).map (·.size) = some 1) (hvc : v.cells = #[v]) (h1 : v.oneCell' = true) : (execOp a.eval o).run P w = .ok .skip (w.setCells b off [v]) := by
 refine exec_store ho hx hy ?_
 have e : storeVar ty ⟨b, off, none⟩ v = storeVar ty ⟨b, off, none⟩ (.agg #[v]) := by unfold storeVar; rw [hvc]; rfl
 rw [e, run_storeVar_mid w b off ty #[v] (there_part1 ht (by simp; omega)) hi (by simpa using h1)]
theorem Kept.of {w W : World} {R Q : Nat} (hg : w.grownBy W (some R)) : Kept w R Q W := (Kept.refl w R Q).gb hg (.inl rfl)
theorem Kept.trans {w W W' : World} {R Q : Nat} (h : Kept w R Q W) (k : Kept W R Q W') : Kept w R Q W' :=
 ⟨k.os.trans h.os, k.tape.trans h.tape, k.output.trans h.output, Nat.le_trans h.size k.size, fun i hi k1 k2 => (k.block i (Nat.lt_of_lt_of_le hi h.size) k1 k2).trans (h.block i hi k1 k2)⟩
theorem MrAt.zero {w : World} {Q R : Nat} {z : Bool} (h : MrAt w Q R z) : MrAt (w.setCells Q 1 [.bool true]) Q R true := by
 have h1 := h.lt
 have hT : w.there Q 1 [Value.bool true].length := fun j hj => by
  obtain rfl : j = 0 := by simp at hj; omega
  exact ⟨by show (w.cell? ⟨Q, 1, none⟩).isSome = true; rw [h.c1]; rfl, h.f1⟩
 refine ⟨by rw [size_sets]; exact h1, h.ne, ?_, ?_, ?_⟩
 ·have hr : w.rangeAt Q 0 [.pointer (some ⟨R, 0, none⟩)] := fun j v hv => by
   match j, hv with
   | 0, hv => cases hv; exact h.c0
  exact (World.rangeAt_setCells_apart hr Q 1 [.bool true] (.inr (.inl (by simp)))) 0 _ rfl
 ·exact World.rangeAt_setCells_same w Q 1 [.bool true] hT 0 _ rfl
 ·exact (World.there_setCells hT Q 1 [.bool true] 0 (by simp)).2
def kdZ (rest : List Int) (e most : Int) (z : Bool) : Bool := if (numS rest e most).1 == 0 then (if (numS rest e most).2.2 == 0 then true else z) else z
theorem Kept.blk {w W : World} {R Q b : Nat} (h : Kept w R Q W) (hb : b < w.heap.size) (h1 : b ≠ R) (h2 : b ≠ Q) : W.heap[b]? = w.heap[b]? := h.block b hb h1 h2
theorem range_blk {w w' : World} {b o : Nat} {cs : List Value} (h : w.rangeAt b o cs) (hb : w'.heap[b]? = w.heap[b]?) : w'.rangeAt b o cs := fun j v hv => by
 rw [(@cell_block w w' b (o + j) hb).1]
 exact h j v hv
structure VS (w : World) (Q R A B n : Nat) (q : List Value) (z : Bool) (W : World) : Prop where
  row : W.rangeAt B 0 q
  box : W.there B 0 n
  ans : W.there A 0 n
  kept : Kept w R Q W
  mr : MrAt W Q R z
  qt : W.there Q 0 2
  la : A < W.heap.size
  lb : B < W.heap.size
  na : w.heap.size ≤ A
  nb : w.heap.size ≤ B
  ne : A ≠ B
  rq : R < w.heap.size ∧ Q < w.heap.size
theorem VS.on {w W W' : World} {Q R A B n : Nat} {q : List Value} {z z' : Bool} (h : VS w Q R A B n q z W) (k : Kept W R Q W') (m : MrAt W' Q R z') (t : W'.there Q 0 2) : VS w Q R A B n q z' W' := by
 have h1 := h.na
 have h2 := h.nb
 have h3 := h.rq
 exact ⟨range_blk h.row (k.blk h.lb (by omega) (by omega)), there_blk h.box (k.blk h.lb (by omega) (by omega)), there_blk h.ans (k.blk h.la (by omega) (by omega)), h.kept.trans k, m, t, Nat.lt_of_lt_of_le h.la k.size, Nat.lt_of_lt_of_le h.lb k.size, h1, h2, h.ne, h3⟩
theorem VS.gb {w W W' : World} {Q R A B n : Nat} {q : List Value} {z : Bool} (h : VS w Q R A B n q z W) (g : W.grownBy W' (some R)) : VS w Q R A B n q z W' :=
 h.on (Kept.of g) (h.mr.gb g) (there_gbR h.qt g h.mr.lt (by have := h.mr.ne; omega))
theorem VS.drew {w W : World} {Q R A B n : Nat} {q : List Value} {z : Bool} (h : VS w Q R A B n q z W) : VS w Q R A B n q z W.drew :=
 ⟨(World.rangeAt_drew _ _ _ _).2 h.row, h.box, h.ans, h.kept.below ((Below.refl _ _).drew), h.mr.below ((Below.refl _ _).drew), h.qt, h.la, h.lb, h.na, h.nb, h.ne, h.rq⟩
theorem VS.st {w W : World} {Q R A B n o : Nat} {q vs rest : List Value} {z : Bool} {zs : List Int} {e : Int} (h : VS w Q R A B n q z W) (hs : St W R zs e) : St (W.setCells B o vs) R zs e :=
 hs.gb (gb_setsR W B vs o) (by have := h.nb; have := h.rq; omega)
def vtS (rest : List Int) (e : Int) : Vt × List Int × Int :=
  let x0 := numS rest e 2
  let x1 := numS x0.2.1 x0.2.2 1048576
  let x2 := numS x1.2.1 x1.2.2 1099511627776
  let x3 := numS x2.2.1 x2.2.2 1099511627776
  let x4 := rawS x3.2.1 x3.2.2 32
  (⟨x0.1, x1.1, x2.1, x3.1, padN 32 x4.1⟩, x4.2.1, x4.2.2)
theorem ex_boxR {P : Program} {o : Oper} {a : Act} {w : World} {t : TypeId} {x : Operand} {u : Array Value} (ho : o.op = .box t x) (hx : a.eval x = .agg u) : (execOp a.eval o).run P w = .ok (.value (.pointer (some ⟨w.heap.size, 0, none⟩))) (w.alloc (.cells u t)) := by
 unfold execOp
 simp [ho, hx, Instr.box, newVar, newRow, Value.cells]
structure Rc where
  k : Int
  l : Int
  v : Int
  s : Int
  q : Bool
  rs : Sl Rq
  ct : Vt
  cs : Sl Sg
  st : ByteArray
  sg : Sl Sg
def Rc.cells (r : Rc) : List Value := [.int .i64 r.k, .int .i64 r.l, .int .i64 r.v, .int .i64 r.s, .bool r.q, r.rs.val] ++ (certL r.ct r.cs ++ [.string r.st, r.sg.val])
structure Rc.At (r : Rc) (w : World) : Prop where
  rs : r.rs.At RqE w
  cs : r.cs.At SgE w
  sg : r.sg.At SgE w
theorem Rc.At.below {r : Rc} {w w' : World} (h : r.At w) (hb : Below w.heap.size w w') : r.At w' := ⟨h.rs.below hb, h.cs.below hb, h.sg.below hb⟩
theorem cert_len {v : Vt} {x : Sl Sg} (h : v.ok) : (certL v x).length = 37 := by have := h.len; simp [certL]; omega
theorem cert_one (v : Vt) (x : Sl Sg) : ∀ y ∈ certL v x, y.oneCell' = true := fun y hy => by
 rcases List.mem_append.1 hy with g | g
 ·exact Vt.one v y g
 ·rw [List.mem_singleton.1 g]; rfl
theorem Rc.len {r : Rc} (h : r.ct.ok) : r.cells.length = 45 := by
 unfold Rc.cells
 rw [List.length_append, List.length_append, cert_len h]
 rfl
theorem Rc.one (r : Rc) : ∀ v ∈ r.cells, v.oneCell' = true := fun v hv => by
 unfold Rc.cells at hv
 rcases List.mem_append.1 hv with g | g
 ·simp only [List.mem_cons, List.not_mem_nil, or_false] at g
  rcases g with rfl | rfl | rfl | rfl | rfl | rfl <;> rfl
 ·rcases List.mem_append.1 g with g | g
  ·exact cert_one _ _ v g
  ·simp only [List.mem_cons, List.not_mem_nil, or_false] at g
   rcases g with rfl | rfl <;> rfl
def Rc.whole (r : Rc) : Mg := ⟨r.k, 0, r.l, r.v, r.s, r.q, r.rs, Vt.zero, 0, 0, 0, ⟨none, 0, []⟩, ⟨none, 0, []⟩, zeros32, r.ct, r.cs, r.st, r.sg⟩
theorem Rc.whole_ok {r : Rc} (h : r.ct.ok) : r.whole.ok := ⟨Vt.zero_ok, h, zeros32_len, zeros32_byte⟩
theorem Rc.whole_at {r : Rc} {w : World} (h : r.At w) : r.whole.At w := ⟨h.rs, hds_none, RowsAt.none, h.cs, h.sg⟩
theorem fill_tail (P C Z : List Value) (sb : ByteArray) (g : Value) (hP : P.length = 80) (hC : C.length = 37) (hZ : Z.length = 37) (hg : g.cells = #[g]) :
  Instr.fill (placesM[·]?) (P ++ (Z ++ [Value.string ⟨#[]⟩, .slice none 0 0])).toArray [(10, .agg C.toArray), (11, .string sb), (12, g)] = some (P ++ (C ++ [Value.string sb, g])).toArray := by
 rw [fill_step (off := 80) (n := 37) (vs := C) rfl hZ hP rfl hC]
 have e1 : P ++ (C ++ [Value.string ⟨#[]⟩, .slice none 0 0]) = (P ++ C) ++ ([Value.string ⟨#[]⟩] ++ [Value.slice none 0 0]) := by simp
 rw [e1, fill_step (off := 117) (n := 1) (vs := [.string sb]) rfl rfl (by rw [List.length_append, hP, hC]) rfl rfl]
 have e2 : (P ++ C) ++ ([Value.string sb] ++ [Value.slice none 0 0]) = (P ++ C ++ [Value.string sb]) ++ ([Value.slice none 0 0] ++ []) := by simp
 rw [e2, fill_step (off := 118) (n := 1) (vs := [g]) rfl rfl (by rw [List.length_append, List.length_append, hP, hC]; rfl) hg rfl]
 simp [Instr.fill]
theorem zero_split : Ms.zero.cells = [Value.int .i64 0, .int .i64 0, .int .i64 0, .int .i64 0, .int .i64 0, .bool false, .slice none 0 0] ++ ((Vt.zero.cells ++ [.int .i64 0, .int .i64 0, .int .i64 0, .slice none 0 0, .slice none 0 0] ++ v8 zeros32) ++ ((Vt.zero.cells ++ [.slice none 0 0]) ++ [.string ⟨#[]⟩, .slice none 0 0])) := by rfl
set_option maxRecDepth 100000 in
theorem build_whole (r : Rc) (h : r.ct.ok) (w : World) : (Instr.build 63 #[(0, .int .i64 r.k), (2, .int .i64 r.l), (3, .int .i64 r.v), (4, .int .i64 r.s), (5, .agg #[.bool r.q, r.rs.val]), (10, .agg (certL r.ct r.cs).toArray), (11, .string r.st), (12, r.sg.val)]).run Tryz.prog w = .ok (.agg r.whole.ms.cells.toArray) w := by
 refine build_msg _ _ w ?_
 rw [zero_split]
 have hM : (Vt.zero.cells ++ [Value.int .i64 0, .int .i64 0, .int .i64 0, .slice none 0 0, .slice none 0 0] ++ v8 zeros32).length = 73 := by decide
 obtain ⟨M, hMe⟩ : ∃ M, Vt.zero.cells ++ [Value.int .i64 0, .int .i64 0, .int .i64 0, .slice none 0 0, .slice none 0 0] ++ v8 zeros32 = M := ⟨_, rfl⟩
 have hZ : (Vt.zero.cells ++ [Value.slice none 0 0]).length = 37 := by decide
 obtain ⟨Z, hZe⟩ : ∃ Z, Vt.zero.cells ++ [Value.slice none 0 0] = Z := ⟨_, rfl⟩
 rw [hMe] at hM
 rw [hZe] at hZ
 rw [hMe, hZe]
 show Instr.fill (placesM[·]?) (([] : List Value) ++ ([Value.int .i64 0] ++ _)).toArray _ = _
 rw [fill_step (off := 0) (n := 1) (vs := [.int .i64 r.k]) rfl rfl rfl rfl rfl]
 show Instr.fill (placesM[·]?) ([Value.int .i64 r.k, .int .i64 0] ++ ([Value.int .i64 0] ++ _)).toArray _ = _
 rw [fill_step (off := 2) (n := 1) (vs := [.int .i64 r.l]) rfl rfl rfl rfl rfl]
 show Instr.fill (placesM[·]?) ([Value.int .i64 r.k, .int .i64 0, .int .i64 r.l] ++ ([Value.int .i64 0] ++ _)).toArray _ = _
 rw [fill_step (off := 3) (n := 1) (vs := [.int .i64 r.v]) rfl rfl rfl rfl rfl]
 show Instr.fill (placesM[·]?) ([Value.int .i64 r.k, .int .i64 0, .int .i64 r.l, .int .i64 r.v] ++ ([Value.int .i64 0] ++ _)).toArray _ = _
 rw [fill_step (off := 4) (n := 1) (vs := [.int .i64 r.s]) rfl rfl rfl rfl rfl]
 show Instr.fill (placesM[·]?) ([Value.int .i64 r.k, .int .i64 0, .int .i64 r.l, .int .i64 r.v, .int .i64 r.s] ++ ([Value.bool false, .slice none 0 0] ++ _)).toArray _ = _
 rw [fill_step (off := 5) (n := 2) (vs := [.bool r.q, r.rs.val]) rfl rfl rfl rfl rfl]
 have e : [Value.int .i64 r.k, .int .i64 0, .int .i64 r.l, .int .i64 r.v, .int .i64 r.s] ++ ([Value.bool r.q, r.rs.val] ++ (M ++ (Z ++ [Value.string ⟨#[]⟩, .slice none 0 0]))) = ([Value.int .i64 r.k, .int .i64 0, .int .i64 r.l, .int .i64 r.v, .int .i64 r.s, .bool r.q, r.rs.val] ++ M) ++ (Z ++ [Value.string ⟨#[]⟩, .slice none 0 0]) := by simp
 show Instr.fill (placesM[·]?) ([Value.int .i64 r.k, .int .i64 0, .int .i64 r.l, .int .i64 r.v, .int .i64 r.s] ++ ([Value.bool r.q, r.rs.val] ++ (M ++ (Z ++ [Value.string ⟨#[]⟩, .slice none 0 0])))).toArray _ = _
 rw [e, fill_tail _ (certL r.ct r.cs) Z r.st r.sg.val (by rw [List.length_append, hM]; rfl) (cert_len h) hZ rfl, ← hMe]
 simp [Rc.whole, Mg.ms, Ms.cells, certL, Sl.val]
theorem iszRc : (Tryz.prog.info? 33).map (·.size) = some 45 := by kernel_rfl
theorem rc_parts {w : World} {b : Nat} {r : Rc} (h : r.ct.ok) (hr : w.rangeAt b 0 r.cells) : w.rangeAt b 4 [.bool r.q, r.rs.val] ∧ w.rangeAt b 6 (certL r.ct r.cs) ∧ w.cell? ⟨b, 43, none⟩ = some (.string r.st) ∧ w.cell? ⟨b, 44, none⟩ = some r.sg.val := by
 have hl := cert_len (x := r.cs) h
 have k : w.rangeAt b 6 (certL r.ct r.cs ++ [.string r.st, r.sg.val]) := range_right (cs := [.int .i64 r.k, .int .i64 r.l, .int .i64 r.v, .int .i64 r.s, .bool r.q, r.rs.val]) hr
 have k2 : w.rangeAt b (6 + (certL r.ct r.cs).length) [.string r.st, r.sg.val] := range_right k
 rw [hl] at k2
 refine ⟨?_, range_left k, k2 0 _ rfl, k2 1 _ rfl⟩
 have := range_left (ds := certL r.ct r.cs ++ [.string r.st, r.sg.val]) hr
 exact range_right (cs := [.int .i64 r.k, .int .i64 r.l, .int .i64 r.v, .int .i64 r.s]) (ds := [.bool r.q, r.rs.val]) this
set_option maxRecDepth 100000 in
set_option maxHeartbeats 1000000 in
theorem kwhole_any (r : Rc) (w : World) (h : r.ct.ok) : Calls Tryz.prog 31 #[.agg r.cells.toArray] w fun en w' => en = .returned (.agg r.whole.ms.cells.toArray) ∧ Below w.heap.size w w' := by
 obtain ⟨zc, hzl, hzr⟩ : ∃ z : List Value, z.length = 119 ∧ ∀ w : World, (zeroValue 63).run Tryz.prog w = .ok (.agg z.toArray) w := ⟨_, (Ms.plain_ok 0 0 0 Vt.zero_ok zeros32_len zeros32_byte).len, zeroM⟩
 have hic : (Tryz.prog.info? 31).map (·.size) = some (certL r.ct r.cs).length := by rw [cert_len h]; exact iszCe
 have hbs := fun w0 => build_whole r h w0
 have hpl := (Rc.whole_ok h).ms.len
 have hp1 := (Rc.whole_ok h).ms.one
 have hip : (Tryz.prog.info? 63).map (·.size) = some r.whole.ms.cells.length := by rw [hpl]; exact iszM
 obtain ⟨pc, hpc⟩ : ∃ p, Hid (r.whole.ms.cells = p) := ⟨_, hide rfl⟩
 simp only [hpc.out] at hbs hpl hp1 hip ⊢
 obtain ⟨hB1, hr0, hs1⟩ := boxed_new w r.cells 33
 obtain ⟨rc, hrc0⟩ : ∃ q, Hid (r.cells = q) := ⟨_, hide rfl⟩
 go_enter Tryz.func31, Tryz.ntmps31
 go_upto_region 0 with fail
 try simp only [Act.put]
 refine pl_begin ?_
 refine pl_run (d := some 1) (v := .pointer (some ⟨w.heap.size, 0, none⟩)) (w' := w.alloc (.cells r.cells.toArray 33)) (by rfl) (ex_boxR rfl rfl) rfl ?_
 simp only [nz]
 obtain ⟨W1, hW1⟩ : ∃ W, w.alloc (.cells r.cells.toArray 33) = W := ⟨_, rfl⟩
 rw [hW1] at hB1 hr0 hs1 ⊢
 clear hW1
 refine pl_run (d := some 2) (v := .pointer (some ⟨W1.heap.size, 0, none⟩)) (w' := W1.alloc (.cells zc.toArray 63)) (by rfl) (ex_alloc rfl (hzr _)) rfl ?_
 simp only [nz]
 refine pl_nil ?_
 obtain ⟨hB2, -, hs2⟩ := boxed_new W1 zc 63
 have ht2 := there_newN W1 zc.toArray 63 (n := 119) (by simp [hzl])
 obtain ⟨W2, hW2⟩ : ∃ W, W1.alloc (.cells zc.toArray 63) = W := ⟨_, rfl⟩
 rw [hW2] at hB2 hs2 ht2 ⊢
 clear hW2
 have hr1 := range_below hr0 hB2 hs1
 obtain ⟨hrb, hrc, hcs, hcg⟩ := rc_parts h hr1
 have hB3 := hB1.trans (hB2.mono hB1.size)
 go_upto_region 1 with fail
 try simp only [Act.put]
 refine pl_begin ?_
 refine pl_t 3 (?_) (by rfl) ?_ rfl ?_
 rotate_left
 ·go_simp
  try with_reducible rfl
 simp only [nz]
 refine pl_t 4 (.int .i64 r.k) (by rfl) (pl_one rfl rfl (hr1 0 _ rfl) Tryz.underlying3 rfl) rfl ?_
 simp only [nz]
 refine pl_t 5 (?_) (by rfl) ?_ rfl ?_
 rotate_left
 ·go_simp
  try with_reducible rfl
 simp only [nz]
 refine pl_t 6 (.int .i64 r.l) (by rfl) (pl_one rfl rfl (hr1 1 _ rfl) Tryz.underlying3 rfl) rfl ?_
 simp only [nz]
 refine pl_t 7 (?_) (by rfl) ?_ rfl ?_
 rotate_left
 ·go_simp
  try with_reducible rfl
 simp only [nz]
 refine pl_t 8 (.int .i64 r.v) (by rfl) (pl_one rfl rfl (hr1 2 _ rfl) Tryz.underlying3 rfl) rfl ?_
 simp only [nz]
 refine pl_t 9 (?_) (by rfl) ?_ rfl ?_
 rotate_left
 ·go_simp
  try with_reducible rfl
 simp only [nz]
 refine pl_t 10 (.int .i64 r.s) (by rfl) (pl_one rfl rfl (hr1 3 _ rfl) Tryz.underlying3 rfl) rfl ?_
 simp only [nz]
 refine pl_t 11 (?_) (by rfl) ?_ rfl ?_
 rotate_left
 ·go_simp
  try with_reducible rfl
 simp only [nz]
 refine pl_t 12 (.agg #[.bool r.q, r.rs.val]) (by rfl) (ex_mid rfl rfl hrb Tryz.underlying24 rfl iszBa) rfl ?_
 simp only [nz]
 refine pl_t 13 (?_) (by rfl) ?_ rfl ?_
 rotate_left
 ·go_simp
  try with_reducible rfl
 simp only [nz]
 refine pl_t 14 (.agg (certL r.ct r.cs).toArray) (by rfl) (ex_mid rfl rfl hrc Tryz.underlying31 rfl hic) rfl ?_
 simp only [nz]
 refine pl_t 15 (?_) (by rfl) ?_ rfl ?_
 rotate_left
 ·go_simp
  try with_reducible rfl
 simp only [nz]
 refine pl_t 16 (.string r.st) (by rfl) (pl_one rfl rfl hcs Tryz.underlying9 rfl) rfl ?_
 simp only [nz]
 refine pl_t 17 (?_) (by rfl) ?_ rfl ?_
 rotate_left
 ·go_simp
  try with_reducible rfl
 simp only [nz]
 refine pl_t 18 (r.sg.val) (by rfl) (pl_one rfl rfl hcg Tryz.underlying29 rfl) rfl ?_
 simp only [nz]
 refine pl_t 19 (.agg pc.toArray) (by rfl) (ex_build (parts := [(0, .tmp 4), (2, .tmp 6), (3, .tmp 8), (4, .tmp 10), (5, .tmp 12), (10, .tmp 14), (11, .tmp 16), (12, .tmp 18)]) rfl rfl (hbs _)) rfl ?_
 simp only [nz]
 refine pl_store (w' := W2.setCells W1.heap.size 0 pc) (by rfl) (ex_put (cs := pc.toArray) rfl rfl rfl (by simpa [hpl] using ht2) (by simpa using hip) (all_one hp1)) rfl ?_
 refine pl_nil ?_
 have hrs := run_loadVar_mid (P := Tryz.prog) (W2.setCells W1.heap.size 0 pc) W1.heap.size 0 63 pc _ (World.rangeAt_setCells_same W2 W1.heap.size 0 pc (by rw [hpl]; exact ht2)) Tryz.underlying63 rfl hip
 have HB := hide (below_sets (b := W1.heap.size) hB1.size pc 0 _ hB3)
 clear hr1 hrb hrc hcs hcg hB3 hr0 hB1 hB2 ht2
 go_wp2_with fail
 refine bodyPost_ret (v := .agg pc.toArray) ?_ rfl ⟨rfl, HB.out⟩
 simp [results, Tryz.results31, Act.put, asAddr, hrs]
end Go.Proofs.YtinndbipomlokaaGreat
