/- records: which may be, as the document says; it is what the program says; what was read is not too much; records: their bytes -/
import Derived.Test.YtinndbipomlokaaGreatJA0
import Derived.Test.YtinndbipomlokaaGreatJA11
import Derived.Test.YtinndbipomlokaaGreatJA12
import Derived.Test.YtinndbipomlokaaGreatJA10
import Derived.Test.YtinndbipomlokaaGreatJA8
namespace Go.Proofs.YtinndbipomlokaaGreat
open Go.RowKit
open Sha Tal
set_option linter.unusedVariables false
set_option linter.unusedSimpArgs false
def Rc.xgood (r : Rc) : Bool := decide (1 ≤ r.k ∧ r.k ≤ 5) && (Rc.B r r.bare && (r.xtold.good && inB r.v 1099511627776))
theorem mkK_cases (k : Int) : (k = 1 ∧ mkK k = 1) ∨ (k = 3 ∧ mkK k = 4) ∨ (k = 5 ∧ mkK k = 8) ∨ (k = 2 ∧ mkK k = 7) ∨ (k = 4 ∧ mkK k = 7) ∨ (mkK k = 0 ∧ ¬ (1 ≤ k ∧ k ≤ 5)) := by
 by_cases h1 : k = 1
 ·exact .inl ⟨h1, by rw [h1]; rfl⟩
 by_cases h3 : k = 3
 ·exact .inr (.inl ⟨h3, by rw [h3]; rfl⟩)
 by_cases h5 : k = 5
 ·exact .inr (.inr (.inl ⟨h5, by rw [h5]; rfl⟩))
 by_cases h2 : k = 2
 ·exact .inr (.inr (.inr (.inl ⟨h2, by rw [h2]; rfl⟩)))
 by_cases h4 : k = 4
 ·exact .inr (.inr (.inr (.inr (.inl ⟨h4, by rw [h4]; rfl⟩))))
 ·exact .inr (.inr (.inr (.inr (.inr ⟨by unfold mkK; rw [if_neg h1, if_neg h3, if_neg h5, if_neg h2, if_neg h4], by omega⟩))))
theorem Rc.told_k (r : Rc) : r.told.pure.k = mkK r.k := rfl
theorem Rc.told_x {r : Rc} (hk : 1 ≤ r.k ∧ r.k ≤ 5) (h : r.pure = r.bare.pure) : r.told.pure = r.xtold.pure := by
 have hs : r.k = 1 ∨ r.k = 2 ∨ r.k = 4 ∨ r.k = 3 ∨ r.k = 5 := by omega
 rw [Rc.told_pure, h]
 rcases hs with e | e | e | e | e
 ·rw [Rc.xtold1 e, Rc.bare1 e, e]; rfl
 ·rw [Rc.xtold7 (by omega) (by omega) (by omega), Rc.bare2 e, if_neg (by omega)]
  show Rp.mp _ (mkK r.k) r.v = _
  rw [e, show r.v = 0 by have := congrArg Rp.v h; rw [Rc.bare2 e] at this; exact this]
  rfl
 ·rw [Rc.xtold7 (by omega) (by omega) (by omega), Rc.bare4 e, if_neg (by omega)]
  show Rp.mp _ (mkK r.k) r.v = _
  rw [e, show r.v = 0 by have := congrArg Rp.v h; rw [Rc.bare4 e] at this; exact this]
  rfl
 ·rw [Rc.xtold3 e, Rc.bare3 e, e]; rfl
 ·rw [Rc.xtold5 e, Rc.bare5 e, if_neg (by omega)]
  show Rp.mp _ (mkK r.k) r.v = _
  rw [e, show r.v = 0 by have := congrArg Rp.v h; rw [Rc.bare5 e] at this; exact this]
  rfl
theorem Rc.told_bare {r : Rc} (h : r.told.pure.good) : (1 ≤ r.k ∧ r.k ≤ 5) ∧ r.pure = r.bare.pure := by
 have hk := Rc.told_k r
 rcases mkK_cases r.k with ⟨e, m⟩ | ⟨e, m⟩ | ⟨e, m⟩ | ⟨e, m⟩ | ⟨e, m⟩ | ⟨m, n⟩
 ·rw [m] at hk
  rcases h with h | h | h | h | h | h | h | h <;> (first | (have := h.1; omega) | skip)
  refine ⟨by omega, ?_⟩
  have o := h.2.2
  have hl : (0 : Int) = r.l := congrArg Mp.l o
  have hct : Vt.zero = r.ct := congrArg Mp.ct o
  have hcs : [] = r.cs.xs := congrArg Mp.cs o
  have hst : (⟨#[]⟩ : ByteArray) = r.st := congrArg Mp.st o
  have hsg : [] = r.sg.xs := congrArg Mp.sg o
  rw [Rc.bare1 e]
  show (⟨r.k, r.l, r.v, r.s, r.q, r.rs.xs, r.ct, r.cs.xs, r.st, r.sg.xs⟩ : Rp) = ⟨r.k, 0, r.v, r.s, r.q, r.rs.xs, Vt.zero, [], ⟨#[]⟩, []⟩
  rw [← hl, ← hct, ← hcs, ← hst, ← hsg]
 ·rw [m] at hk
  rcases h with h | h | h | h | h | h | h | h <;> (first | (have := h.1; omega) | skip)
  refine ⟨by omega, ?_⟩
  have o := h.2.2
  have hs : (0 : Int) = r.s := congrArg Mp.s o
  have hq : false = r.q := congrArg Mp.q o
  have hrs : [] = r.rs.xs := congrArg Mp.rs o
  have hct : Vt.zero = r.ct := congrArg Mp.ct o
  have hcs : [] = r.cs.xs := congrArg Mp.cs o
  have hst : (⟨#[]⟩ : ByteArray) = r.st := congrArg Mp.st o
  have hsg : [] = r.sg.xs := congrArg Mp.sg o
  rw [Rc.bare3 e]
  show (⟨r.k, r.l, r.v, r.s, r.q, r.rs.xs, r.ct, r.cs.xs, r.st, r.sg.xs⟩ : Rp) = ⟨r.k, r.l, r.v, 0, false, [], Vt.zero, [], ⟨#[]⟩, []⟩
  rw [← hs, ← hq, ← hrs, ← hct, ← hcs, ← hst, ← hsg]
 ·rw [m] at hk
  rcases h with h | h | h | h | h | h | h | h <;> (first | (have := h.1; omega) | skip)
  refine ⟨by omega, ?_⟩
  have o := h.2.2
  have hl : (0 : Int) = r.l := congrArg Mp.l o
  have hv : (0 : Int) = (if r.k = 1 then 0 else r.v) := congrArg Mp.v o
  rw [if_neg (by omega)] at hv
  have hs : (0 : Int) = r.s := congrArg Mp.s o
  have hq : false = r.q := congrArg Mp.q o
  have hrs : [] = r.rs.xs := congrArg Mp.rs o
  have hct : Vt.zero = r.ct := congrArg Mp.ct o
  have hcs : [] = r.cs.xs := congrArg Mp.cs o
  rw [Rc.bare5 e]
  show (⟨r.k, r.l, r.v, r.s, r.q, r.rs.xs, r.ct, r.cs.xs, r.st, r.sg.xs⟩ : Rp) = ⟨r.k, 0, 0, 0, false, [], Vt.zero, [], r.st, r.sg.xs⟩
  rw [← hl, ← hv, ← hs, ← hq, ← hrs, ← hct, ← hcs]
 ·rw [m] at hk
  rcases h with h | h | h | h | h | h | h | h <;> (first | (have := h.1; omega) | skip)
  refine ⟨by omega, ?_⟩
  have o := h.2.2
  have hl : (0 : Int) = r.l := congrArg Mp.l o
  have hv : (0 : Int) = (if r.k = 1 then 0 else r.v) := congrArg Mp.v o
  rw [if_neg (by omega)] at hv
  have hs : (0 : Int) = r.s := congrArg Mp.s o
  have hst : (⟨#[]⟩ : ByteArray) = r.st := congrArg Mp.st o
  have hsg : [] = r.sg.xs := congrArg Mp.sg o
  rw [Rc.bare2 e]
  show (⟨r.k, r.l, r.v, r.s, r.q, r.rs.xs, r.ct, r.cs.xs, r.st, r.sg.xs⟩ : Rp) = ⟨r.k, 0, 0, 0, r.q, r.rs.xs, r.ct, r.cs.xs, ⟨#[]⟩, []⟩
  rw [← hl, ← hv, ← hs, ← hst, ← hsg]
 ·rw [m] at hk
  rcases h with h | h | h | h | h | h | h | h <;> (first | (have := h.1; omega) | skip)
  refine ⟨by omega, ?_⟩
  have o := h.2.2
  have hl : (0 : Int) = r.l := congrArg Mp.l o
  have hv : (0 : Int) = (if r.k = 1 then 0 else r.v) := congrArg Mp.v o
  rw [if_neg (by omega)] at hv
  have hs : (0 : Int) = r.s := congrArg Mp.s o
  have hst : (⟨#[]⟩ : ByteArray) = r.st := congrArg Mp.st o
  have hsg : [] = r.sg.xs := congrArg Mp.sg o
  rw [Rc.bare4 e]
  show (⟨r.k, r.l, r.v, r.s, r.q, r.rs.xs, r.ct, r.cs.xs, r.st, r.sg.xs⟩ : Rp) = ⟨r.k, 0, 0, 0, r.q, r.rs.xs, r.ct, r.cs.xs, ⟨#[]⟩, []⟩
  rw [← hl, ← hv, ← hs, ← hst, ← hsg]
 ·rw [m] at hk
  rcases h with h | h | h | h | h | h | h | h <;> (have := h.1; omega)
theorem Rc.good_x {r : Rc} {w : World} (h : r.ct.ok) (am : r.At w) : r.xgood = r.good := by
 rw [Bool.eq_iff_iff]
 unfold Rc.xgood Rc.good
 simp only [Bool.and_eq_true, decide_eq_true_iff]
 constructor
 ·rintro ⟨hk, hb, hg, hv⟩
  refine ⟨hv, pure_good ?_⟩
  rw [Rc.told_x hk (Rc.B_pure hb)]
  exact good_pure (Rc.xtold_ok h) (Rc.xtold_at am) hg
 ·rintro ⟨hv, hg⟩
  have hp := good_pure (Rc.told_ok h) (Rc.told_at am) hg
  obtain ⟨hk, hb⟩ := Rc.told_bare hp
  refine ⟨hk, Rc.B_eqv hb, pure_good ?_, hv⟩
  rw [← Rc.told_x hk hb]
  exact hp
set_option maxRecDepth 100000 in
set_option maxHeartbeats 1000000 in
theorem xkgood_any (r : Rc) (w : World) (h : r.ct.ok) (am : r.At w) : Calls Tryz.prog 12 #[.agg r.cells.toArray] w fun e w' => e = .returned (.bool r.xgood) ∧ Below w.heap.size w w' := by
 have iq : (Tryz.prog.info? 33).map (·.size) = some r.cells.length := by rw [Rc.len h]; exact iszRc
 have con := fun w0 => xkonly_any r w0 h
 have csm := fun w0 (h0 : Below w.heap.size w w0) => xksame_any r r.bare w0 h (Rc.bare_ok h) (am.below h0) (Rc.bare_at (am.below h0))
 have ct := fun w0 => xktold_any r w0 h
 have cg := fun w0 (h0 : Below w.heap.size w w0) => xgood_any r.xtold w0 (Rc.xtold_ok h) (Rc.xtold_at (am.below h0))
 obtain ⟨hB1, hR1, hs1⟩ := boxed_new w r.cells 33
 have ck : (w.alloc (.cells r.cells.toArray 33)).cell? ⟨w.heap.size, 0, none⟩ = some (.int .i64 r.k) := hR1 0 _ rfl
 have cv : (w.alloc (.cells r.cells.toArray 33)).cell? ⟨w.heap.size, 2, none⟩ = some (.int .i64 r.v) := hR1 2 _ rfl
 obtain ⟨G, HG⟩ : ∃ G, Hid (r.xgood = G) := ⟨_, hide rfl⟩
 rw [HG.out]
 unfold Rc.xgood at HG
 obtain ⟨sb, hsb⟩ : ∃ b, Rc.B r r.bare = b := ⟨_, rfl⟩
 obtain ⟨gb, hgb⟩ : ∃ b, r.xtold.good = b := ⟨_, rfl⟩
 rw [hsb, hgb] at HG
 simp only [hsb] at csm
 simp only [hgb] at cg
 clear hsb hgb
 obtain ⟨qb, hqb⟩ : ∃ q, Hid (r.bare.cells = q) := ⟨_, hide rfl⟩
 obtain ⟨qm, hqm⟩ : ∃ q, Hid (r.xtold.ms.cells = q) := ⟨_, hide rfl⟩
 obtain ⟨q, hq⟩ : ∃ q, Hid (r.cells = q) := ⟨_, hide rfl⟩
 simp only [hq.out, hqb.out, hqm.out] at iq con csm ct cg hB1 hR1 hs1 ck cv ⊢
 clear hq hqb hqm am h
 have HG0 := HG
 clear HG
 go_enter Tryz.func12, Tryz.ntmps12
 go_upto_region 1 with fail
 refine hs_begin (S := (Below (w.alloc (.cells q.toArray 33)).drew.heap.size (w.alloc (.cells q.toArray 33)).drew)) 30 rfl (by kernel_rfl) ?_
 have hR8 := (World.rangeAt_drew _ _ _ _).2 hR1
 have hB8 := hB1.drew
 have hs8 : w.heap.size < (w.alloc (.cells q.toArray 33)).drew.heap.size := hs1
 replace ck : (w.alloc (.cells q.toArray 33)).drew.cell? ⟨w.heap.size, 0, none⟩ = some (.int .i64 r.k) := ck
 replace cv : (w.alloc (.cells q.toArray 33)).drew.cell? ⟨w.heap.size, 2, none⟩ = some (.int .i64 r.v) := cv
 obtain ⟨w8, hw8⟩ : ∃ W, (w.alloc (.cells q.toArray 33)).drew = W := ⟨_, rfl⟩
 rw [hw8] at hR8 hB8 hs8 ck cv ⊢
 clear hw8 hR1 hB1 hs1
 have hS : (Below w8.heap.size w8) w8 := Below.refl _ _
 by_cases h1 : 1 ≤ r.k
 rotate_left
 ·have HG : Hid (G = false) := hide (by rw [← HG0.out, decide_eq_false (by omega), Bool.false_and])
  clear HG0
  refine hs_t 0 3 (?_) rfl (by kernel_rfl) (by kernel_rfl) (by kernel_rfl) (by rfl) ?_ hS rfl ?_
  rotate_left
  ·intro w' hw
   go_simp
   try with_reducible rfl
  simp only [nz]
  refine hs_t 1 4 (.int .i64 r.k) rfl (by kernel_rfl) (by kernel_rfl) (by kernel_rfl) (by rfl) (fun w' hw => pl_one rfl rfl ((hw.cell (p := ⟨w.heap.size, 0, none⟩) hs8).trans ck) Tryz.underlying3 rfl) hS rfl ?_
  simp only [nz]
  refine hs_t 2 5 (.bool false) rfl (by kernel_rfl) (by kernel_rfl) (by kernel_rfl) (by rfl) (fun w' hw => by go_simp <;> (try simp) <;> (try omega)) hS rfl ?_
  simp only [nz]
  refine hs_t 3 6 (?_) rfl (by kernel_rfl) (by kernel_rfl) (by kernel_rfl) (by rfl) ?_ hS rfl ?_
  rotate_left
  ·intro w' hw
   go_simp
   try with_reducible rfl
  simp only [nz]
  refine hs_skip (i := 4) (d := some 7) rfl (by kernel_rfl) (by kernel_rfl) (by kernel_rfl) (by rfl) hS rfl ?_
  simp only [nz]
  refine hs_skip (i := 5) (d := some 8) rfl (by kernel_rfl) (by kernel_rfl) (by kernel_rfl) (by rfl) hS rfl ?_
  simp only [nz]
  refine hs_skip (i := 6) (d := some 9) rfl (by kernel_rfl) (by kernel_rfl) (by kernel_rfl) (by rfl) hS rfl ?_
  simp only [nz]
  refine hs_t 7 10 (?_) rfl (by kernel_rfl) (by kernel_rfl) (by kernel_rfl) (by rfl) ?_ hS rfl ?_
  rotate_left
  ·intro w' hw
   go_simp
   try with_reducible rfl
  simp only [nz]
  refine hs_t 8 11 (?_) rfl (by kernel_rfl) (by kernel_rfl) (by kernel_rfl) (by rfl) ?_ hS rfl ?_
  rotate_left
  ·intro w' hw
   go_simp
   try with_reducible rfl
  simp only [nz]
  refine hs_skip (i := 9) (d := some 12) rfl (by kernel_rfl) (by kernel_rfl) (by kernel_rfl) (by rfl) hS rfl ?_
  simp only [nz]
  refine hs_skip (i := 10) (d := some 13) rfl (by kernel_rfl) (by kernel_rfl) (by kernel_rfl) (by rfl) hS rfl ?_
  simp only [nz]
  refine hs_skip (i := 11) (d := some 14) rfl (by kernel_rfl) (by kernel_rfl) (by kernel_rfl) (by rfl) hS rfl ?_
  simp only [nz]
  refine hs_skip (i := 12) (d := some 15) rfl (by kernel_rfl) (by kernel_rfl) (by kernel_rfl) (by rfl) hS rfl ?_
  simp only [nz]
  refine hs_t 13 16 (?_) rfl (by kernel_rfl) (by kernel_rfl) (by kernel_rfl) (by rfl) ?_ hS rfl ?_
  rotate_left
  ·intro w' hw
   go_simp
   try with_reducible rfl
  simp only [nz]
  refine hs_t 14 17 (?_) rfl (by kernel_rfl) (by kernel_rfl) (by kernel_rfl) (by rfl) ?_ hS rfl ?_
  rotate_left
  ·intro w' hw
   go_simp
   try with_reducible rfl
  simp only [nz]
  refine hs_skip (i := 15) (d := some 18) rfl (by kernel_rfl) (by kernel_rfl) (by kernel_rfl) (by rfl) hS rfl ?_
  simp only [nz]
  refine hs_skip (i := 16) (d := some 19) rfl (by kernel_rfl) (by kernel_rfl) (by kernel_rfl) (by rfl) hS rfl ?_
  simp only [nz]
  refine hs_skip (i := 17) (d := some 20) rfl (by kernel_rfl) (by kernel_rfl) (by kernel_rfl) (by rfl) hS rfl ?_
  simp only [nz]
  refine hs_t 18 21 (?_) rfl (by kernel_rfl) (by kernel_rfl) (by kernel_rfl) (by rfl) ?_ hS rfl ?_
  rotate_left
  ·intro w' hw
   go_simp
   try with_reducible rfl
  simp only [nz]
  refine hs_t 19 22 (?_) rfl (by kernel_rfl) (by kernel_rfl) (by kernel_rfl) (by rfl) ?_ hS rfl ?_
  rotate_left
  ·intro w' hw
   go_simp
   try with_reducible rfl
  simp only [nz]
  refine hs_skip (i := 20) (d := some 23) rfl (by kernel_rfl) (by kernel_rfl) (by kernel_rfl) (by rfl) hS rfl ?_
  simp only [nz]
  refine hs_skip (i := 21) (d := some 24) rfl (by kernel_rfl) (by kernel_rfl) (by kernel_rfl) (by rfl) hS rfl ?_
  simp only [nz]
  refine hs_skip (i := 22) (d := some 25) rfl (by kernel_rfl) (by kernel_rfl) (by kernel_rfl) (by rfl) hS rfl ?_
  simp only [nz]
  refine hs_t 23 26 (?_) rfl (by kernel_rfl) (by kernel_rfl) (by kernel_rfl) (by rfl) ?_ hS rfl ?_
  rotate_left
  ·intro w' hw
   go_simp
   try with_reducible rfl
  simp only [nz]
  refine hs_t 24 27 (?_) rfl (by kernel_rfl) (by kernel_rfl) (by kernel_rfl) (by rfl) ?_ hS rfl ?_
  rotate_left
  ·intro w' hw
   go_simp
   try with_reducible rfl
  simp only [nz]
  refine hs_skip (i := 25) (d := some 28) rfl (by kernel_rfl) (by kernel_rfl) (by kernel_rfl) (by rfl) hS rfl ?_
  simp only [nz]
  refine hs_skip (i := 26) (d := some 29) rfl (by kernel_rfl) (by kernel_rfl) (by kernel_rfl) (by rfl) hS rfl ?_
  simp only [nz]
  refine hs_skip (i := 27) (d := some 30) rfl (by kernel_rfl) (by kernel_rfl) (by kernel_rfl) (by rfl) hS rfl ?_
  simp only [nz]
  refine hs_t 28 31 (?_) rfl (by kernel_rfl) (by kernel_rfl) (by kernel_rfl) (by rfl) ?_ hS rfl ?_
  rotate_left
  ·intro w' hw
   go_simp
   try with_reducible rfl
  simp only [nz]
  refine hs_t 29 2 (?_) rfl (by kernel_rfl) (by kernel_rfl) (by kernel_rfl) (by rfl) ?_ hS rfl ?_
  rotate_left
  ·intro w' hw
   go_simp
   try with_reducible rfl
  simp only [nz]
  refine hs_done (by kernel_rfl) ?_
  go_wp2_with fail
  go_ret
  exact ⟨by rw [HG.out]; try rfl, hB8.trans (hS.mono hB8.size)⟩
 by_cases h5 : r.k ≤ 5
 rotate_left
 ·have HG : Hid (G = false) := hide (by rw [← HG0.out, decide_eq_false (by omega), Bool.false_and])
  clear HG0
  refine hs_t 0 3 (?_) rfl (by kernel_rfl) (by kernel_rfl) (by kernel_rfl) (by rfl) ?_ hS rfl ?_
  rotate_left
  ·intro w' hw
   go_simp
   try with_reducible rfl
  simp only [nz]
  refine hs_t 1 4 (.int .i64 r.k) rfl (by kernel_rfl) (by kernel_rfl) (by kernel_rfl) (by rfl) (fun w' hw => pl_one rfl rfl ((hw.cell (p := ⟨w.heap.size, 0, none⟩) hs8).trans ck) Tryz.underlying3 rfl) hS rfl ?_
  simp only [nz]
  refine hs_t 2 5 (.bool true) rfl (by kernel_rfl) (by kernel_rfl) (by kernel_rfl) (by rfl) (fun w' hw => by go_simp <;> (try simp) <;> (try omega)) hS rfl ?_
  simp only [nz]
  refine hs_t 3 6 (?_) rfl (by kernel_rfl) (by kernel_rfl) (by kernel_rfl) (by rfl) ?_ hS rfl ?_
  rotate_left
  ·intro w' hw
   go_simp
   try with_reducible rfl
  simp only [nz]
  refine hs_t 4 7 (?_) rfl (by kernel_rfl) (by kernel_rfl) (by kernel_rfl) (by rfl) ?_ hS rfl ?_
  rotate_left
  ·intro w' hw
   go_simp
   try with_reducible rfl
  simp only [nz]
  refine hs_t 5 8 (.int .i64 r.k) rfl (by kernel_rfl) (by kernel_rfl) (by kernel_rfl) (by rfl) (fun w' hw => pl_one rfl rfl ((hw.cell (p := ⟨w.heap.size, 0, none⟩) hs8).trans ck) Tryz.underlying3 rfl) hS rfl ?_
  simp only [nz]
  refine hs_t 6 9 (.bool false) rfl (by kernel_rfl) (by kernel_rfl) (by kernel_rfl) (by rfl) (fun w' hw => by go_simp <;> (try simp) <;> (try omega)) hS rfl ?_
  simp only [nz]
  refine hs_t 7 10 (?_) rfl (by kernel_rfl) (by kernel_rfl) (by kernel_rfl) (by rfl) ?_ hS rfl ?_
  rotate_left
  ·intro w' hw
   go_simp
   try with_reducible rfl
  simp only [nz]
  refine hs_t 8 11 (?_) rfl (by kernel_rfl) (by kernel_rfl) (by kernel_rfl) (by rfl) ?_ hS rfl ?_
  rotate_left
  ·intro w' hw
   go_simp
   try with_reducible rfl
  simp only [nz]
  refine hs_skip (i := 9) (d := some 12) rfl (by kernel_rfl) (by kernel_rfl) (by kernel_rfl) (by rfl) hS rfl ?_
  simp only [nz]
  refine hs_skip (i := 10) (d := some 13) rfl (by kernel_rfl) (by kernel_rfl) (by kernel_rfl) (by rfl) hS rfl ?_
  simp only [nz]
  refine hs_skip (i := 11) (d := some 14) rfl (by kernel_rfl) (by kernel_rfl) (by kernel_rfl) (by rfl) hS rfl ?_
  simp only [nz]
  refine hs_skip (i := 12) (d := some 15) rfl (by kernel_rfl) (by kernel_rfl) (by kernel_rfl) (by rfl) hS rfl ?_
  simp only [nz]
  refine hs_t 13 16 (?_) rfl (by kernel_rfl) (by kernel_rfl) (by kernel_rfl) (by rfl) ?_ hS rfl ?_
  rotate_left
  ·intro w' hw
   go_simp
   try with_reducible rfl
  simp only [nz]
  refine hs_t 14 17 (?_) rfl (by kernel_rfl) (by kernel_rfl) (by kernel_rfl) (by rfl) ?_ hS rfl ?_
  rotate_left
  ·intro w' hw
   go_simp
   try with_reducible rfl
  simp only [nz]
  refine hs_skip (i := 15) (d := some 18) rfl (by kernel_rfl) (by kernel_rfl) (by kernel_rfl) (by rfl) hS rfl ?_
  simp only [nz]
  refine hs_skip (i := 16) (d := some 19) rfl (by kernel_rfl) (by kernel_rfl) (by kernel_rfl) (by rfl) hS rfl ?_
  simp only [nz]
  refine hs_skip (i := 17) (d := some 20) rfl (by kernel_rfl) (by kernel_rfl) (by kernel_rfl) (by rfl) hS rfl ?_
  simp only [nz]
  refine hs_t 18 21 (?_) rfl (by kernel_rfl) (by kernel_rfl) (by kernel_rfl) (by rfl) ?_ hS rfl ?_
  rotate_left
  ·intro w' hw
   go_simp
   try with_reducible rfl
  simp only [nz]
  refine hs_t 19 22 (?_) rfl (by kernel_rfl) (by kernel_rfl) (by kernel_rfl) (by rfl) ?_ hS rfl ?_
  rotate_left
  ·intro w' hw
   go_simp
   try with_reducible rfl
  simp only [nz]
  refine hs_skip (i := 20) (d := some 23) rfl (by kernel_rfl) (by kernel_rfl) (by kernel_rfl) (by rfl) hS rfl ?_
  simp only [nz]
  refine hs_skip (i := 21) (d := some 24) rfl (by kernel_rfl) (by kernel_rfl) (by kernel_rfl) (by rfl) hS rfl ?_
  simp only [nz]
  refine hs_skip (i := 22) (d := some 25) rfl (by kernel_rfl) (by kernel_rfl) (by kernel_rfl) (by rfl) hS rfl ?_
  simp only [nz]
  refine hs_t 23 26 (?_) rfl (by kernel_rfl) (by kernel_rfl) (by kernel_rfl) (by rfl) ?_ hS rfl ?_
  rotate_left
  ·intro w' hw
   go_simp
   try with_reducible rfl
  simp only [nz]
  refine hs_t 24 27 (?_) rfl (by kernel_rfl) (by kernel_rfl) (by kernel_rfl) (by rfl) ?_ hS rfl ?_
  rotate_left
  ·intro w' hw
   go_simp
   try with_reducible rfl
  simp only [nz]
  refine hs_skip (i := 25) (d := some 28) rfl (by kernel_rfl) (by kernel_rfl) (by kernel_rfl) (by rfl) hS rfl ?_
  simp only [nz]
  refine hs_skip (i := 26) (d := some 29) rfl (by kernel_rfl) (by kernel_rfl) (by kernel_rfl) (by rfl) hS rfl ?_
  simp only [nz]
  refine hs_skip (i := 27) (d := some 30) rfl (by kernel_rfl) (by kernel_rfl) (by kernel_rfl) (by rfl) hS rfl ?_
  simp only [nz]
  refine hs_t 28 31 (?_) rfl (by kernel_rfl) (by kernel_rfl) (by kernel_rfl) (by rfl) ?_ hS rfl ?_
  rotate_left
  ·intro w' hw
   go_simp
   try with_reducible rfl
  simp only [nz]
  refine hs_t 29 2 (?_) rfl (by kernel_rfl) (by kernel_rfl) (by kernel_rfl) (by rfl) ?_ hS rfl ?_
  rotate_left
  ·intro w' hw
   go_simp
   try with_reducible rfl
  simp only [nz]
  refine hs_done (by kernel_rfl) ?_
  go_wp2_with fail
  go_ret
  exact ⟨by rw [HG.out]; try rfl, hB8.trans (hS.mono hB8.size)⟩
 have HG1 : Hid ((sb && (gb && inB r.v 1099511627776)) = G) := hide (by rw [← HG0.out, decide_eq_true ⟨h1, h5⟩, Bool.true_and])
 clear HG0
 cases sb
 ·have HG : Hid (G = false) := hide (by rw [← HG1.out]; rfl)
  clear HG1
  refine hs_t 0 3 (?_) rfl (by kernel_rfl) (by kernel_rfl) (by kernel_rfl) (by rfl) ?_ hS rfl ?_
  rotate_left
  ·intro w' hw
   go_simp
   try with_reducible rfl
  simp only [nz]
  refine hs_t 1 4 (.int .i64 r.k) rfl (by kernel_rfl) (by kernel_rfl) (by kernel_rfl) (by rfl) (fun w' hw => pl_one rfl rfl ((hw.cell (p := ⟨w.heap.size, 0, none⟩) hs8).trans ck) Tryz.underlying3 rfl) hS rfl ?_
  simp only [nz]
  refine hs_t 2 5 (.bool true) rfl (by kernel_rfl) (by kernel_rfl) (by kernel_rfl) (by rfl) (fun w' hw => by go_simp <;> (try simp) <;> (try omega)) hS rfl ?_
  simp only [nz]
  refine hs_t 3 6 (?_) rfl (by kernel_rfl) (by kernel_rfl) (by kernel_rfl) (by rfl) ?_ hS rfl ?_
  rotate_left
  ·intro w' hw
   go_simp
   try with_reducible rfl
  simp only [nz]
  refine hs_t 4 7 (?_) rfl (by kernel_rfl) (by kernel_rfl) (by kernel_rfl) (by rfl) ?_ hS rfl ?_
  rotate_left
  ·intro w' hw
   go_simp
   try with_reducible rfl
  simp only [nz]
  refine hs_t 5 8 (.int .i64 r.k) rfl (by kernel_rfl) (by kernel_rfl) (by kernel_rfl) (by rfl) (fun w' hw => pl_one rfl rfl ((hw.cell (p := ⟨w.heap.size, 0, none⟩) hs8).trans ck) Tryz.underlying3 rfl) hS rfl ?_
  simp only [nz]
  refine hs_t 6 9 (.bool true) rfl (by kernel_rfl) (by kernel_rfl) (by kernel_rfl) (by rfl) (fun w' hw => by go_simp <;> (try simp) <;> (try omega)) hS rfl ?_
  simp only [nz]
  refine hs_t 7 10 (?_) rfl (by kernel_rfl) (by kernel_rfl) (by kernel_rfl) (by rfl) ?_ hS rfl ?_
  rotate_left
  ·intro w' hw
   go_simp
   try with_reducible rfl
  simp only [nz]
  refine hs_t 8 11 (?_) rfl (by kernel_rfl) (by kernel_rfl) (by kernel_rfl) (by rfl) ?_ hS rfl ?_
  rotate_left
  ·intro w' hw
   go_simp
   try with_reducible rfl
  simp only [nz]
  refine hs_t 9 12 (.agg q.toArray) rfl (by kernel_rfl) (by kernel_rfl) (by kernel_rfl) (by rfl) (fun w' hw => ex_mid rfl rfl (range_below hR8 hw hs8) Tryz.underlying33 rfl iq) hS rfl ?_
  simp only [nz]
  refine hs_t 10 13 (.agg q.toArray) rfl (by kernel_rfl) (by kernel_rfl) (by kernel_rfl) (by rfl) (fun w' hw => ex_mid rfl rfl (range_below hR8 hw hs8) Tryz.underlying33 rfl iq) hS rfl ?_
  simp only [nz]
  refine hs_call (i := 11) (d := some 14) rfl (by kernel_rfl) (by rfl) (by go_simp; first | done | exact ⟨rfl, rfl⟩ | with_reducible rfl) rfl ?_
  refine (con w8).mono ?_
  rintro _ w9 ⟨rfl, hb9⟩
  have hS : (Below w8.heap.size w8) w9 := hb9
  refine ⟨_, rfl, hS, ?_⟩
  simp only [nz]
  refine hs_call (i := 12) (d := some 15) rfl (by kernel_rfl) (by rfl) (by go_simp; first | done | exact ⟨rfl, rfl⟩ | with_reducible rfl) rfl ?_
  refine (csm w9 (hB8.trans (hS.mono hB8.size))).mono ?_
  rintro _ w10 ⟨rfl, hb10⟩
  have hS : (Below w8.heap.size w8) w10 := hS.trans (hb10.mono hS.size)
  refine ⟨_, rfl, hS, ?_⟩
  simp only [nz]
  refine hs_t 13 16 (?_) rfl (by kernel_rfl) (by kernel_rfl) (by kernel_rfl) (by rfl) ?_ hS rfl ?_
  rotate_left
  ·intro w' hw
   go_simp
   try with_reducible rfl
  simp only [nz]
  refine hs_t 14 17 (?_) rfl (by kernel_rfl) (by kernel_rfl) (by kernel_rfl) (by rfl) ?_ hS rfl ?_
  rotate_left
  ·intro w' hw
   go_simp
   try with_reducible rfl
  simp only [nz]
  refine hs_skip (i := 15) (d := some 18) rfl (by kernel_rfl) (by kernel_rfl) (by kernel_rfl) (by rfl) hS rfl ?_
  simp only [nz]
  refine hs_skip (i := 16) (d := some 19) rfl (by kernel_rfl) (by kernel_rfl) (by kernel_rfl) (by rfl) hS rfl ?_
  simp only [nz]
  refine hs_skip (i := 17) (d := some 20) rfl (by kernel_rfl) (by kernel_rfl) (by kernel_rfl) (by rfl) hS rfl ?_
  simp only [nz]
  refine hs_t 18 21 (?_) rfl (by kernel_rfl) (by kernel_rfl) (by kernel_rfl) (by rfl) ?_ hS rfl ?_
  rotate_left
  ·intro w' hw
   go_simp
   try with_reducible rfl
  simp only [nz]
  refine hs_t 19 22 (?_) rfl (by kernel_rfl) (by kernel_rfl) (by kernel_rfl) (by rfl) ?_ hS rfl ?_
  rotate_left
  ·intro w' hw
   go_simp
   try with_reducible rfl
  simp only [nz]
  refine hs_skip (i := 20) (d := some 23) rfl (by kernel_rfl) (by kernel_rfl) (by kernel_rfl) (by rfl) hS rfl ?_
  simp only [nz]
  refine hs_skip (i := 21) (d := some 24) rfl (by kernel_rfl) (by kernel_rfl) (by kernel_rfl) (by rfl) hS rfl ?_
  simp only [nz]
  refine hs_skip (i := 22) (d := some 25) rfl (by kernel_rfl) (by kernel_rfl) (by kernel_rfl) (by rfl) hS rfl ?_
  simp only [nz]
  refine hs_t 23 26 (?_) rfl (by kernel_rfl) (by kernel_rfl) (by kernel_rfl) (by rfl) ?_ hS rfl ?_
  rotate_left
  ·intro w' hw
   go_simp
   try with_reducible rfl
  simp only [nz]
  refine hs_t 24 27 (?_) rfl (by kernel_rfl) (by kernel_rfl) (by kernel_rfl) (by rfl) ?_ hS rfl ?_
  rotate_left
  ·intro w' hw
   go_simp
   try with_reducible rfl
  simp only [nz]
  refine hs_skip (i := 25) (d := some 28) rfl (by kernel_rfl) (by kernel_rfl) (by kernel_rfl) (by rfl) hS rfl ?_
  simp only [nz]
  refine hs_skip (i := 26) (d := some 29) rfl (by kernel_rfl) (by kernel_rfl) (by kernel_rfl) (by rfl) hS rfl ?_
  simp only [nz]
  refine hs_skip (i := 27) (d := some 30) rfl (by kernel_rfl) (by kernel_rfl) (by kernel_rfl) (by rfl) hS rfl ?_
  simp only [nz]
  refine hs_t 28 31 (?_) rfl (by kernel_rfl) (by kernel_rfl) (by kernel_rfl) (by rfl) ?_ hS rfl ?_
  rotate_left
  ·intro w' hw
   go_simp
   try with_reducible rfl
  simp only [nz]
  refine hs_t 29 2 (?_) rfl (by kernel_rfl) (by kernel_rfl) (by kernel_rfl) (by rfl) ?_ hS rfl ?_
  rotate_left
  ·intro w' hw
   go_simp
   try with_reducible rfl
  simp only [nz]
  refine hs_done (by kernel_rfl) ?_
  go_wp2_with fail
  go_ret
  exact ⟨by rw [HG.out]; try rfl, hB8.trans (hS.mono hB8.size)⟩
 cases gb
 ·have HG : Hid (G = false) := hide (by rw [← HG1.out]; rfl)
  clear HG1
  refine hs_t 0 3 (?_) rfl (by kernel_rfl) (by kernel_rfl) (by kernel_rfl) (by rfl) ?_ hS rfl ?_
  rotate_left
  ·intro w' hw
   go_simp
   try with_reducible rfl
  simp only [nz]
  refine hs_t 1 4 (.int .i64 r.k) rfl (by kernel_rfl) (by kernel_rfl) (by kernel_rfl) (by rfl) (fun w' hw => pl_one rfl rfl ((hw.cell (p := ⟨w.heap.size, 0, none⟩) hs8).trans ck) Tryz.underlying3 rfl) hS rfl ?_
  simp only [nz]
  refine hs_t 2 5 (.bool true) rfl (by kernel_rfl) (by kernel_rfl) (by kernel_rfl) (by rfl) (fun w' hw => by go_simp <;> (try simp) <;> (try omega)) hS rfl ?_
  simp only [nz]
  refine hs_t 3 6 (?_) rfl (by kernel_rfl) (by kernel_rfl) (by kernel_rfl) (by rfl) ?_ hS rfl ?_
  rotate_left
  ·intro w' hw
   go_simp
   try with_reducible rfl
  simp only [nz]
  refine hs_t 4 7 (?_) rfl (by kernel_rfl) (by kernel_rfl) (by kernel_rfl) (by rfl) ?_ hS rfl ?_
  rotate_left
  ·intro w' hw
   go_simp
   try with_reducible rfl
  simp only [nz]
  refine hs_t 5 8 (.int .i64 r.k) rfl (by kernel_rfl) (by kernel_rfl) (by kernel_rfl) (by rfl) (fun w' hw => pl_one rfl rfl ((hw.cell (p := ⟨w.heap.size, 0, none⟩) hs8).trans ck) Tryz.underlying3 rfl) hS rfl ?_
  simp only [nz]
  refine hs_t 6 9 (.bool true) rfl (by kernel_rfl) (by kernel_rfl) (by kernel_rfl) (by rfl) (fun w' hw => by go_simp <;> (try simp) <;> (try omega)) hS rfl ?_
  simp only [nz]
  refine hs_t 7 10 (?_) rfl (by kernel_rfl) (by kernel_rfl) (by kernel_rfl) (by rfl) ?_ hS rfl ?_
  rotate_left
  ·intro w' hw
   go_simp
   try with_reducible rfl
  simp only [nz]
  refine hs_t 8 11 (?_) rfl (by kernel_rfl) (by kernel_rfl) (by kernel_rfl) (by rfl) ?_ hS rfl ?_
  rotate_left
  ·intro w' hw
   go_simp
   try with_reducible rfl
  simp only [nz]
  refine hs_t 9 12 (.agg q.toArray) rfl (by kernel_rfl) (by kernel_rfl) (by kernel_rfl) (by rfl) (fun w' hw => ex_mid rfl rfl (range_below hR8 hw hs8) Tryz.underlying33 rfl iq) hS rfl ?_
  simp only [nz]
  refine hs_t 10 13 (.agg q.toArray) rfl (by kernel_rfl) (by kernel_rfl) (by kernel_rfl) (by rfl) (fun w' hw => ex_mid rfl rfl (range_below hR8 hw hs8) Tryz.underlying33 rfl iq) hS rfl ?_
  simp only [nz]
  refine hs_call (i := 11) (d := some 14) rfl (by kernel_rfl) (by rfl) (by go_simp; first | done | exact ⟨rfl, rfl⟩ | with_reducible rfl) rfl ?_
  refine (con w8).mono ?_
  rintro _ w9 ⟨rfl, hb9⟩
  have hS : (Below w8.heap.size w8) w9 := hb9
  refine ⟨_, rfl, hS, ?_⟩
  simp only [nz]
  refine hs_call (i := 12) (d := some 15) rfl (by kernel_rfl) (by rfl) (by go_simp; first | done | exact ⟨rfl, rfl⟩ | with_reducible rfl) rfl ?_
  refine (csm w9 (hB8.trans (hS.mono hB8.size))).mono ?_
  rintro _ w10 ⟨rfl, hb10⟩
  have hS : (Below w8.heap.size w8) w10 := hS.trans (hb10.mono hS.size)
  refine ⟨_, rfl, hS, ?_⟩
  simp only [nz]
  refine hs_t 13 16 (?_) rfl (by kernel_rfl) (by kernel_rfl) (by kernel_rfl) (by rfl) ?_ hS rfl ?_
  rotate_left
  ·intro w' hw
   go_simp
   try with_reducible rfl
  simp only [nz]
  refine hs_t 14 17 (?_) rfl (by kernel_rfl) (by kernel_rfl) (by kernel_rfl) (by rfl) ?_ hS rfl ?_
  rotate_left
  ·intro w' hw
   go_simp
   try with_reducible rfl
  simp only [nz]
  refine hs_t 15 18 (.agg q.toArray) rfl (by kernel_rfl) (by kernel_rfl) (by kernel_rfl) (by rfl) (fun w' hw => ex_mid rfl rfl (range_below hR8 hw hs8) Tryz.underlying33 rfl iq) hS rfl ?_
  simp only [nz]
  refine hs_call (i := 16) (d := some 19) rfl (by kernel_rfl) (by rfl) (by go_simp; first | done | exact ⟨rfl, rfl⟩ | with_reducible rfl) rfl ?_
  refine (ct w10).mono ?_
  rintro _ w11 ⟨rfl, hb11⟩
  have hS : (Below w8.heap.size w8) w11 := hS.trans (hb11.mono hS.size)
  refine ⟨_, rfl, hS, ?_⟩
  simp only [nz]
  refine hs_call (i := 17) (d := some 20) rfl (by kernel_rfl) (by rfl) (by go_simp; first | done | exact ⟨rfl, rfl⟩ | with_reducible rfl) rfl ?_
  refine (cg w11 (hB8.trans (hS.mono hB8.size))).mono ?_
  rintro _ w12 ⟨rfl, hb12⟩
  have hS : (Below w8.heap.size w8) w12 := hS.trans (hb12.mono hS.size)
  refine ⟨_, rfl, hS, ?_⟩
  simp only [nz]
  refine hs_t 18 21 (?_) rfl (by kernel_rfl) (by kernel_rfl) (by kernel_rfl) (by rfl) ?_ hS rfl ?_
  rotate_left
  ·intro w' hw
   go_simp
   try with_reducible rfl
  simp only [nz]
  refine hs_t 19 22 (?_) rfl (by kernel_rfl) (by kernel_rfl) (by kernel_rfl) (by rfl) ?_ hS rfl ?_
  rotate_left
  ·intro w' hw
   go_simp
   try with_reducible rfl
  simp only [nz]
  refine hs_skip (i := 20) (d := some 23) rfl (by kernel_rfl) (by kernel_rfl) (by kernel_rfl) (by rfl) hS rfl ?_
  simp only [nz]
  refine hs_skip (i := 21) (d := some 24) rfl (by kernel_rfl) (by kernel_rfl) (by kernel_rfl) (by rfl) hS rfl ?_
  simp only [nz]
  refine hs_skip (i := 22) (d := some 25) rfl (by kernel_rfl) (by kernel_rfl) (by kernel_rfl) (by rfl) hS rfl ?_
  simp only [nz]
  refine hs_t 23 26 (?_) rfl (by kernel_rfl) (by kernel_rfl) (by kernel_rfl) (by rfl) ?_ hS rfl ?_
  rotate_left
  ·intro w' hw
   go_simp
   try with_reducible rfl
  simp only [nz]
  refine hs_t 24 27 (?_) rfl (by kernel_rfl) (by kernel_rfl) (by kernel_rfl) (by rfl) ?_ hS rfl ?_
  rotate_left
  ·intro w' hw
   go_simp
   try with_reducible rfl
  simp only [nz]
  refine hs_skip (i := 25) (d := some 28) rfl (by kernel_rfl) (by kernel_rfl) (by kernel_rfl) (by rfl) hS rfl ?_
  simp only [nz]
  refine hs_skip (i := 26) (d := some 29) rfl (by kernel_rfl) (by kernel_rfl) (by kernel_rfl) (by rfl) hS rfl ?_
  simp only [nz]
  refine hs_skip (i := 27) (d := some 30) rfl (by kernel_rfl) (by kernel_rfl) (by kernel_rfl) (by rfl) hS rfl ?_
  simp only [nz]
  refine hs_t 28 31 (?_) rfl (by kernel_rfl) (by kernel_rfl) (by kernel_rfl) (by rfl) ?_ hS rfl ?_
  rotate_left
  ·intro w' hw
   go_simp
   try with_reducible rfl
  simp only [nz]
  refine hs_t 29 2 (?_) rfl (by kernel_rfl) (by kernel_rfl) (by kernel_rfl) (by rfl) ?_ hS rfl ?_
  rotate_left
  ·intro w' hw
   go_simp
   try with_reducible rfl
  simp only [nz]
  refine hs_done (by kernel_rfl) ?_
  go_wp2_with fail
  go_ret
  exact ⟨by rw [HG.out]; try rfl, hB8.trans (hS.mono hB8.size)⟩
 by_cases v0 : 0 ≤ r.v
 rotate_left
 ·have HG : Hid (G = false) := hide (by rw [← HG1.out]; exact decide_eq_false (by omega))
  clear HG1
  refine hs_t 0 3 (?_) rfl (by kernel_rfl) (by kernel_rfl) (by kernel_rfl) (by rfl) ?_ hS rfl ?_
  rotate_left
  ·intro w' hw
   go_simp
   try with_reducible rfl
  simp only [nz]
  refine hs_t 1 4 (.int .i64 r.k) rfl (by kernel_rfl) (by kernel_rfl) (by kernel_rfl) (by rfl) (fun w' hw => pl_one rfl rfl ((hw.cell (p := ⟨w.heap.size, 0, none⟩) hs8).trans ck) Tryz.underlying3 rfl) hS rfl ?_
  simp only [nz]
  refine hs_t 2 5 (.bool true) rfl (by kernel_rfl) (by kernel_rfl) (by kernel_rfl) (by rfl) (fun w' hw => by go_simp <;> (try simp) <;> (try omega)) hS rfl ?_
  simp only [nz]
  refine hs_t 3 6 (?_) rfl (by kernel_rfl) (by kernel_rfl) (by kernel_rfl) (by rfl) ?_ hS rfl ?_
  rotate_left
  ·intro w' hw
   go_simp
   try with_reducible rfl
  simp only [nz]
  refine hs_t 4 7 (?_) rfl (by kernel_rfl) (by kernel_rfl) (by kernel_rfl) (by rfl) ?_ hS rfl ?_
  rotate_left
  ·intro w' hw
   go_simp
   try with_reducible rfl
  simp only [nz]
  refine hs_t 5 8 (.int .i64 r.k) rfl (by kernel_rfl) (by kernel_rfl) (by kernel_rfl) (by rfl) (fun w' hw => pl_one rfl rfl ((hw.cell (p := ⟨w.heap.size, 0, none⟩) hs8).trans ck) Tryz.underlying3 rfl) hS rfl ?_
  simp only [nz]
  refine hs_t 6 9 (.bool true) rfl (by kernel_rfl) (by kernel_rfl) (by kernel_rfl) (by rfl) (fun w' hw => by go_simp <;> (try simp) <;> (try omega)) hS rfl ?_
  simp only [nz]
  refine hs_t 7 10 (?_) rfl (by kernel_rfl) (by kernel_rfl) (by kernel_rfl) (by rfl) ?_ hS rfl ?_
  rotate_left
  ·intro w' hw
   go_simp
   try with_reducible rfl
  simp only [nz]
  refine hs_t 8 11 (?_) rfl (by kernel_rfl) (by kernel_rfl) (by kernel_rfl) (by rfl) ?_ hS rfl ?_
  rotate_left
  ·intro w' hw
   go_simp
   try with_reducible rfl
  simp only [nz]
  refine hs_t 9 12 (.agg q.toArray) rfl (by kernel_rfl) (by kernel_rfl) (by kernel_rfl) (by rfl) (fun w' hw => ex_mid rfl rfl (range_below hR8 hw hs8) Tryz.underlying33 rfl iq) hS rfl ?_
  simp only [nz]
  refine hs_t 10 13 (.agg q.toArray) rfl (by kernel_rfl) (by kernel_rfl) (by kernel_rfl) (by rfl) (fun w' hw => ex_mid rfl rfl (range_below hR8 hw hs8) Tryz.underlying33 rfl iq) hS rfl ?_
  simp only [nz]
  refine hs_call (i := 11) (d := some 14) rfl (by kernel_rfl) (by rfl) (by go_simp; first | done | exact ⟨rfl, rfl⟩ | with_reducible rfl) rfl ?_
  refine (con w8).mono ?_
  rintro _ w9 ⟨rfl, hb9⟩
  have hS : (Below w8.heap.size w8) w9 := hb9
  refine ⟨_, rfl, hS, ?_⟩
  simp only [nz]
  refine hs_call (i := 12) (d := some 15) rfl (by kernel_rfl) (by rfl) (by go_simp; first | done | exact ⟨rfl, rfl⟩ | with_reducible rfl) rfl ?_
  refine (csm w9 (hB8.trans (hS.mono hB8.size))).mono ?_
  rintro _ w10 ⟨rfl, hb10⟩
  have hS : (Below w8.heap.size w8) w10 := hS.trans (hb10.mono hS.size)
  refine ⟨_, rfl, hS, ?_⟩
  simp only [nz]
  refine hs_t 13 16 (?_) rfl (by kernel_rfl) (by kernel_rfl) (by kernel_rfl) (by rfl) ?_ hS rfl ?_
  rotate_left
  ·intro w' hw
   go_simp
   try with_reducible rfl
  simp only [nz]
  refine hs_t 14 17 (?_) rfl (by kernel_rfl) (by kernel_rfl) (by kernel_rfl) (by rfl) ?_ hS rfl ?_
  rotate_left
  ·intro w' hw
   go_simp
   try with_reducible rfl
  simp only [nz]
  refine hs_t 15 18 (.agg q.toArray) rfl (by kernel_rfl) (by kernel_rfl) (by kernel_rfl) (by rfl) (fun w' hw => ex_mid rfl rfl (range_below hR8 hw hs8) Tryz.underlying33 rfl iq) hS rfl ?_
  simp only [nz]
  refine hs_call (i := 16) (d := some 19) rfl (by kernel_rfl) (by rfl) (by go_simp; first | done | exact ⟨rfl, rfl⟩ | with_reducible rfl) rfl ?_
  refine (ct w10).mono ?_
  rintro _ w11 ⟨rfl, hb11⟩
  have hS : (Below w8.heap.size w8) w11 := hS.trans (hb11.mono hS.size)
  refine ⟨_, rfl, hS, ?_⟩
  simp only [nz]
  refine hs_call (i := 17) (d := some 20) rfl (by kernel_rfl) (by rfl) (by go_simp; first | done | exact ⟨rfl, rfl⟩ | with_reducible rfl) rfl ?_
  refine (cg w11 (hB8.trans (hS.mono hB8.size))).mono ?_
  rintro _ w12 ⟨rfl, hb12⟩
  have hS : (Below w8.heap.size w8) w12 := hS.trans (hb12.mono hS.size)
  refine ⟨_, rfl, hS, ?_⟩
  simp only [nz]
  refine hs_t 18 21 (?_) rfl (by kernel_rfl) (by kernel_rfl) (by kernel_rfl) (by rfl) ?_ hS rfl ?_
  rotate_left
  ·intro w' hw
   go_simp
   try with_reducible rfl
  simp only [nz]
  refine hs_t 19 22 (?_) rfl (by kernel_rfl) (by kernel_rfl) (by kernel_rfl) (by rfl) ?_ hS rfl ?_
  rotate_left
  ·intro w' hw
   go_simp
   try with_reducible rfl
  simp only [nz]
  refine hs_t 20 23 (?_) rfl (by kernel_rfl) (by kernel_rfl) (by kernel_rfl) (by rfl) ?_ hS rfl ?_
  rotate_left
  ·intro w' hw
   go_simp
   try with_reducible rfl
  simp only [nz]
  refine hs_t 21 24 (.int .i64 r.v) rfl (by kernel_rfl) (by kernel_rfl) (by kernel_rfl) (by rfl) (fun w' hw => pl_one rfl rfl ((hw.cell (p := ⟨w.heap.size, 2, none⟩) hs8).trans cv) Tryz.underlying3 rfl) hS rfl ?_
  simp only [nz]
  refine hs_t 22 25 (.bool false) rfl (by kernel_rfl) (by kernel_rfl) (by kernel_rfl) (by rfl) (fun w' hw => by go_simp <;> (try simp) <;> (try omega)) hS rfl ?_
  simp only [nz]
  refine hs_t 23 26 (?_) rfl (by kernel_rfl) (by kernel_rfl) (by kernel_rfl) (by rfl) ?_ hS rfl ?_
  rotate_left
  ·intro w' hw
   go_simp
   try with_reducible rfl
  simp only [nz]
  refine hs_t 24 27 (?_) rfl (by kernel_rfl) (by kernel_rfl) (by kernel_rfl) (by rfl) ?_ hS rfl ?_
  rotate_left
  ·intro w' hw
   go_simp
   try with_reducible rfl
  simp only [nz]
  refine hs_skip (i := 25) (d := some 28) rfl (by kernel_rfl) (by kernel_rfl) (by kernel_rfl) (by rfl) hS rfl ?_
  simp only [nz]
  refine hs_skip (i := 26) (d := some 29) rfl (by kernel_rfl) (by kernel_rfl) (by kernel_rfl) (by rfl) hS rfl ?_
  simp only [nz]
  refine hs_skip (i := 27) (d := some 30) rfl (by kernel_rfl) (by kernel_rfl) (by kernel_rfl) (by rfl) hS rfl ?_
  simp only [nz]
  refine hs_t 28 31 (?_) rfl (by kernel_rfl) (by kernel_rfl) (by kernel_rfl) (by rfl) ?_ hS rfl ?_
  rotate_left
  ·intro w' hw
   go_simp
   try with_reducible rfl
  simp only [nz]
  refine hs_t 29 2 (?_) rfl (by kernel_rfl) (by kernel_rfl) (by kernel_rfl) (by rfl) ?_ hS rfl ?_
  rotate_left
  ·intro w' hw
   go_simp
   try with_reducible rfl
  simp only [nz]
  refine hs_done (by kernel_rfl) ?_
  go_wp2_with fail
  go_ret
  exact ⟨by rw [HG.out]; try rfl, hB8.trans (hS.mono hB8.size)⟩
 by_cases v1 : r.v ≤ 1099511627776
 rotate_left
 ·have HG : Hid (G = false) := hide (by rw [← HG1.out]; exact decide_eq_false (by omega))
  clear HG1
  refine hs_t 0 3 (?_) rfl (by kernel_rfl) (by kernel_rfl) (by kernel_rfl) (by rfl) ?_ hS rfl ?_
  rotate_left
  ·intro w' hw
   go_simp
   try with_reducible rfl
  simp only [nz]
  refine hs_t 1 4 (.int .i64 r.k) rfl (by kernel_rfl) (by kernel_rfl) (by kernel_rfl) (by rfl) (fun w' hw => pl_one rfl rfl ((hw.cell (p := ⟨w.heap.size, 0, none⟩) hs8).trans ck) Tryz.underlying3 rfl) hS rfl ?_
  simp only [nz]
  refine hs_t 2 5 (.bool true) rfl (by kernel_rfl) (by kernel_rfl) (by kernel_rfl) (by rfl) (fun w' hw => by go_simp <;> (try simp) <;> (try omega)) hS rfl ?_
  simp only [nz]
  refine hs_t 3 6 (?_) rfl (by kernel_rfl) (by kernel_rfl) (by kernel_rfl) (by rfl) ?_ hS rfl ?_
  rotate_left
  ·intro w' hw
   go_simp
   try with_reducible rfl
  simp only [nz]
  refine hs_t 4 7 (?_) rfl (by kernel_rfl) (by kernel_rfl) (by kernel_rfl) (by rfl) ?_ hS rfl ?_
  rotate_left
  ·intro w' hw
   go_simp
   try with_reducible rfl
  simp only [nz]
  refine hs_t 5 8 (.int .i64 r.k) rfl (by kernel_rfl) (by kernel_rfl) (by kernel_rfl) (by rfl) (fun w' hw => pl_one rfl rfl ((hw.cell (p := ⟨w.heap.size, 0, none⟩) hs8).trans ck) Tryz.underlying3 rfl) hS rfl ?_
  simp only [nz]
  refine hs_t 6 9 (.bool true) rfl (by kernel_rfl) (by kernel_rfl) (by kernel_rfl) (by rfl) (fun w' hw => by go_simp <;> (try simp) <;> (try omega)) hS rfl ?_
  simp only [nz]
  refine hs_t 7 10 (?_) rfl (by kernel_rfl) (by kernel_rfl) (by kernel_rfl) (by rfl) ?_ hS rfl ?_
  rotate_left
  ·intro w' hw
   go_simp
   try with_reducible rfl
  simp only [nz]
  refine hs_t 8 11 (?_) rfl (by kernel_rfl) (by kernel_rfl) (by kernel_rfl) (by rfl) ?_ hS rfl ?_
  rotate_left
  ·intro w' hw
   go_simp
   try with_reducible rfl
  simp only [nz]
  refine hs_t 9 12 (.agg q.toArray) rfl (by kernel_rfl) (by kernel_rfl) (by kernel_rfl) (by rfl) (fun w' hw => ex_mid rfl rfl (range_below hR8 hw hs8) Tryz.underlying33 rfl iq) hS rfl ?_
  simp only [nz]
  refine hs_t 10 13 (.agg q.toArray) rfl (by kernel_rfl) (by kernel_rfl) (by kernel_rfl) (by rfl) (fun w' hw => ex_mid rfl rfl (range_below hR8 hw hs8) Tryz.underlying33 rfl iq) hS rfl ?_
  simp only [nz]
  refine hs_call (i := 11) (d := some 14) rfl (by kernel_rfl) (by rfl) (by go_simp; first | done | exact ⟨rfl, rfl⟩ | with_reducible rfl) rfl ?_
  refine (con w8).mono ?_
  rintro _ w9 ⟨rfl, hb9⟩
  have hS : (Below w8.heap.size w8) w9 := hb9
  refine ⟨_, rfl, hS, ?_⟩
  simp only [nz]
  refine hs_call (i := 12) (d := some 15) rfl (by kernel_rfl) (by rfl) (by go_simp; first | done | exact ⟨rfl, rfl⟩ | with_reducible rfl) rfl ?_
  refine (csm w9 (hB8.trans (hS.mono hB8.size))).mono ?_
  rintro _ w10 ⟨rfl, hb10⟩
  have hS : (Below w8.heap.size w8) w10 := hS.trans (hb10.mono hS.size)
  refine ⟨_, rfl, hS, ?_⟩
  simp only [nz]
  refine hs_t 13 16 (?_) rfl (by kernel_rfl) (by kernel_rfl) (by kernel_rfl) (by rfl) ?_ hS rfl ?_
  rotate_left
  ·intro w' hw
   go_simp
   try with_reducible rfl
  simp only [nz]
  refine hs_t 14 17 (?_) rfl (by kernel_rfl) (by kernel_rfl) (by kernel_rfl) (by rfl) ?_ hS rfl ?_
  rotate_left
  ·intro w' hw
   go_simp
   try with_reducible rfl
  simp only [nz]
  refine hs_t 15 18 (.agg q.toArray) rfl (by kernel_rfl) (by kernel_rfl) (by kernel_rfl) (by rfl) (fun w' hw => ex_mid rfl rfl (range_below hR8 hw hs8) Tryz.underlying33 rfl iq) hS rfl ?_
  simp only [nz]
  refine hs_call (i := 16) (d := some 19) rfl (by kernel_rfl) (by rfl) (by go_simp; first | done | exact ⟨rfl, rfl⟩ | with_reducible rfl) rfl ?_
  refine (ct w10).mono ?_
  rintro _ w11 ⟨rfl, hb11⟩
  have hS : (Below w8.heap.size w8) w11 := hS.trans (hb11.mono hS.size)
  refine ⟨_, rfl, hS, ?_⟩
  simp only [nz]
  refine hs_call (i := 17) (d := some 20) rfl (by kernel_rfl) (by rfl) (by go_simp; first | done | exact ⟨rfl, rfl⟩ | with_reducible rfl) rfl ?_
  refine (cg w11 (hB8.trans (hS.mono hB8.size))).mono ?_
  rintro _ w12 ⟨rfl, hb12⟩
  have hS : (Below w8.heap.size w8) w12 := hS.trans (hb12.mono hS.size)
  refine ⟨_, rfl, hS, ?_⟩
  simp only [nz]
  refine hs_t 18 21 (?_) rfl (by kernel_rfl) (by kernel_rfl) (by kernel_rfl) (by rfl) ?_ hS rfl ?_
  rotate_left
  ·intro w' hw
   go_simp
   try with_reducible rfl
  simp only [nz]
  refine hs_t 19 22 (?_) rfl (by kernel_rfl) (by kernel_rfl) (by kernel_rfl) (by rfl) ?_ hS rfl ?_
  rotate_left
  ·intro w' hw
   go_simp
   try with_reducible rfl
  simp only [nz]
  refine hs_t 20 23 (?_) rfl (by kernel_rfl) (by kernel_rfl) (by kernel_rfl) (by rfl) ?_ hS rfl ?_
  rotate_left
  ·intro w' hw
   go_simp
   try with_reducible rfl
  simp only [nz]
  refine hs_t 21 24 (.int .i64 r.v) rfl (by kernel_rfl) (by kernel_rfl) (by kernel_rfl) (by rfl) (fun w' hw => pl_one rfl rfl ((hw.cell (p := ⟨w.heap.size, 2, none⟩) hs8).trans cv) Tryz.underlying3 rfl) hS rfl ?_
  simp only [nz]
  refine hs_t 22 25 (.bool true) rfl (by kernel_rfl) (by kernel_rfl) (by kernel_rfl) (by rfl) (fun w' hw => by go_simp <;> (try simp) <;> (try omega)) hS rfl ?_
  simp only [nz]
  refine hs_t 23 26 (?_) rfl (by kernel_rfl) (by kernel_rfl) (by kernel_rfl) (by rfl) ?_ hS rfl ?_
  rotate_left
  ·intro w' hw
   go_simp
   try with_reducible rfl
  simp only [nz]
  refine hs_t 24 27 (?_) rfl (by kernel_rfl) (by kernel_rfl) (by kernel_rfl) (by rfl) ?_ hS rfl ?_
  rotate_left
  ·intro w' hw
   go_simp
   try with_reducible rfl
  simp only [nz]
  refine hs_t 25 28 (?_) rfl (by kernel_rfl) (by kernel_rfl) (by kernel_rfl) (by rfl) ?_ hS rfl ?_
  rotate_left
  ·intro w' hw
   go_simp
   try with_reducible rfl
  simp only [nz]
  refine hs_t 26 29 (.int .i64 r.v) rfl (by kernel_rfl) (by kernel_rfl) (by kernel_rfl) (by rfl) (fun w' hw => pl_one rfl rfl ((hw.cell (p := ⟨w.heap.size, 2, none⟩) hs8).trans cv) Tryz.underlying3 rfl) hS rfl ?_
  simp only [nz]
  refine hs_t 27 30 (.bool false) rfl (by kernel_rfl) (by kernel_rfl) (by kernel_rfl) (by rfl) (fun w' hw => by go_simp <;> (try simp) <;> (try omega)) hS rfl ?_
  simp only [nz]
  refine hs_t 28 31 (?_) rfl (by kernel_rfl) (by kernel_rfl) (by kernel_rfl) (by rfl) ?_ hS rfl ?_
  rotate_left
  ·intro w' hw
   go_simp
   try with_reducible rfl
  simp only [nz]
  refine hs_t 29 2 (?_) rfl (by kernel_rfl) (by kernel_rfl) (by kernel_rfl) (by rfl) ?_ hS rfl ?_
  rotate_left
  ·intro w' hw
   go_simp
   try with_reducible rfl
  simp only [nz]
  refine hs_done (by kernel_rfl) ?_
  go_wp2_with fail
  go_ret
  exact ⟨by rw [HG.out]; try rfl, hB8.trans (hS.mono hB8.size)⟩
 ·have HG : Hid (G = true) := hide (by rw [← HG1.out]; exact decide_eq_true ⟨v0, v1⟩)
  clear HG1
  refine hs_t 0 3 (?_) rfl (by kernel_rfl) (by kernel_rfl) (by kernel_rfl) (by rfl) ?_ hS rfl ?_
  rotate_left
  ·intro w' hw
   go_simp
   try with_reducible rfl
  simp only [nz]
  refine hs_t 1 4 (.int .i64 r.k) rfl (by kernel_rfl) (by kernel_rfl) (by kernel_rfl) (by rfl) (fun w' hw => pl_one rfl rfl ((hw.cell (p := ⟨w.heap.size, 0, none⟩) hs8).trans ck) Tryz.underlying3 rfl) hS rfl ?_
  simp only [nz]
  refine hs_t 2 5 (.bool true) rfl (by kernel_rfl) (by kernel_rfl) (by kernel_rfl) (by rfl) (fun w' hw => by go_simp <;> (try simp) <;> (try omega)) hS rfl ?_
  simp only [nz]
  refine hs_t 3 6 (?_) rfl (by kernel_rfl) (by kernel_rfl) (by kernel_rfl) (by rfl) ?_ hS rfl ?_
  rotate_left
  ·intro w' hw
   go_simp
   try with_reducible rfl
  simp only [nz]
  refine hs_t 4 7 (?_) rfl (by kernel_rfl) (by kernel_rfl) (by kernel_rfl) (by rfl) ?_ hS rfl ?_
  rotate_left
  ·intro w' hw
   go_simp
   try with_reducible rfl
  simp only [nz]
  refine hs_t 5 8 (.int .i64 r.k) rfl (by kernel_rfl) (by kernel_rfl) (by kernel_rfl) (by rfl) (fun w' hw => pl_one rfl rfl ((hw.cell (p := ⟨w.heap.size, 0, none⟩) hs8).trans ck) Tryz.underlying3 rfl) hS rfl ?_
  simp only [nz]
  refine hs_t 6 9 (.bool true) rfl (by kernel_rfl) (by kernel_rfl) (by kernel_rfl) (by rfl) (fun w' hw => by go_simp <;> (try simp) <;> (try omega)) hS rfl ?_
  simp only [nz]
  refine hs_t 7 10 (?_) rfl (by kernel_rfl) (by kernel_rfl) (by kernel_rfl) (by rfl) ?_ hS rfl ?_
  rotate_left
  ·intro w' hw
   go_simp
   try with_reducible rfl
  simp only [nz]
  refine hs_t 8 11 (?_) rfl (by kernel_rfl) (by kernel_rfl) (by kernel_rfl) (by rfl) ?_ hS rfl ?_
  rotate_left
  ·intro w' hw
   go_simp
   try with_reducible rfl
  simp only [nz]
  refine hs_t 9 12 (.agg q.toArray) rfl (by kernel_rfl) (by kernel_rfl) (by kernel_rfl) (by rfl) (fun w' hw => ex_mid rfl rfl (range_below hR8 hw hs8) Tryz.underlying33 rfl iq) hS rfl ?_
  simp only [nz]
  refine hs_t 10 13 (.agg q.toArray) rfl (by kernel_rfl) (by kernel_rfl) (by kernel_rfl) (by rfl) (fun w' hw => ex_mid rfl rfl (range_below hR8 hw hs8) Tryz.underlying33 rfl iq) hS rfl ?_
  simp only [nz]
  refine hs_call (i := 11) (d := some 14) rfl (by kernel_rfl) (by rfl) (by go_simp; first | done | exact ⟨rfl, rfl⟩ | with_reducible rfl) rfl ?_
  refine (con w8).mono ?_
  rintro _ w9 ⟨rfl, hb9⟩
  have hS : (Below w8.heap.size w8) w9 := hb9
  refine ⟨_, rfl, hS, ?_⟩
  simp only [nz]
  refine hs_call (i := 12) (d := some 15) rfl (by kernel_rfl) (by rfl) (by go_simp; first | done | exact ⟨rfl, rfl⟩ | with_reducible rfl) rfl ?_
  refine (csm w9 (hB8.trans (hS.mono hB8.size))).mono ?_
  rintro _ w10 ⟨rfl, hb10⟩
  have hS : (Below w8.heap.size w8) w10 := hS.trans (hb10.mono hS.size)
  refine ⟨_, rfl, hS, ?_⟩
  simp only [nz]
  refine hs_t 13 16 (?_) rfl (by kernel_rfl) (by kernel_rfl) (by kernel_rfl) (by rfl) ?_ hS rfl ?_
  rotate_left
  ·intro w' hw
   go_simp
   try with_reducible rfl
  simp only [nz]
  refine hs_t 14 17 (?_) rfl (by kernel_rfl) (by kernel_rfl) (by kernel_rfl) (by rfl) ?_ hS rfl ?_
  rotate_left
  ·intro w' hw
   go_simp
   try with_reducible rfl
  simp only [nz]
  refine hs_t 15 18 (.agg q.toArray) rfl (by kernel_rfl) (by kernel_rfl) (by kernel_rfl) (by rfl) (fun w' hw => ex_mid rfl rfl (range_below hR8 hw hs8) Tryz.underlying33 rfl iq) hS rfl ?_
  simp only [nz]
  refine hs_call (i := 16) (d := some 19) rfl (by kernel_rfl) (by rfl) (by go_simp; first | done | exact ⟨rfl, rfl⟩ | with_reducible rfl) rfl ?_
  refine (ct w10).mono ?_
  rintro _ w11 ⟨rfl, hb11⟩
  have hS : (Below w8.heap.size w8) w11 := hS.trans (hb11.mono hS.size)
  refine ⟨_, rfl, hS, ?_⟩
  simp only [nz]
  refine hs_call (i := 17) (d := some 20) rfl (by kernel_rfl) (by rfl) (by go_simp; first | done | exact ⟨rfl, rfl⟩ | with_reducible rfl) rfl ?_
  refine (cg w11 (hB8.trans (hS.mono hB8.size))).mono ?_
  rintro _ w12 ⟨rfl, hb12⟩
  have hS : (Below w8.heap.size w8) w12 := hS.trans (hb12.mono hS.size)
  refine ⟨_, rfl, hS, ?_⟩
  simp only [nz]
  refine hs_t 18 21 (?_) rfl (by kernel_rfl) (by kernel_rfl) (by kernel_rfl) (by rfl) ?_ hS rfl ?_
  rotate_left
  ·intro w' hw
   go_simp
   try with_reducible rfl
  simp only [nz]
  refine hs_t 19 22 (?_) rfl (by kernel_rfl) (by kernel_rfl) (by kernel_rfl) (by rfl) ?_ hS rfl ?_
  rotate_left
  ·intro w' hw
   go_simp
   try with_reducible rfl
  simp only [nz]
  refine hs_t 20 23 (?_) rfl (by kernel_rfl) (by kernel_rfl) (by kernel_rfl) (by rfl) ?_ hS rfl ?_
  rotate_left
  ·intro w' hw
   go_simp
   try with_reducible rfl
  simp only [nz]
  refine hs_t 21 24 (.int .i64 r.v) rfl (by kernel_rfl) (by kernel_rfl) (by kernel_rfl) (by rfl) (fun w' hw => pl_one rfl rfl ((hw.cell (p := ⟨w.heap.size, 2, none⟩) hs8).trans cv) Tryz.underlying3 rfl) hS rfl ?_
  simp only [nz]
  refine hs_t 22 25 (.bool true) rfl (by kernel_rfl) (by kernel_rfl) (by kernel_rfl) (by rfl) (fun w' hw => by go_simp <;> (try simp) <;> (try omega)) hS rfl ?_
  simp only [nz]
  refine hs_t 23 26 (?_) rfl (by kernel_rfl) (by kernel_rfl) (by kernel_rfl) (by rfl) ?_ hS rfl ?_
  rotate_left
  ·intro w' hw
   go_simp
   try with_reducible rfl
  simp only [nz]
  refine hs_t 24 27 (?_) rfl (by kernel_rfl) (by kernel_rfl) (by kernel_rfl) (by rfl) ?_ hS rfl ?_
  rotate_left
  ·intro w' hw
   go_simp
   try with_reducible rfl
  simp only [nz]
  refine hs_t 25 28 (?_) rfl (by kernel_rfl) (by kernel_rfl) (by kernel_rfl) (by rfl) ?_ hS rfl ?_
  rotate_left
  ·intro w' hw
   go_simp
   try with_reducible rfl
  simp only [nz]
  refine hs_t 26 29 (.int .i64 r.v) rfl (by kernel_rfl) (by kernel_rfl) (by kernel_rfl) (by rfl) (fun w' hw => pl_one rfl rfl ((hw.cell (p := ⟨w.heap.size, 2, none⟩) hs8).trans cv) Tryz.underlying3 rfl) hS rfl ?_
  simp only [nz]
  refine hs_t 27 30 (.bool true) rfl (by kernel_rfl) (by kernel_rfl) (by kernel_rfl) (by rfl) (fun w' hw => by go_simp <;> (try simp) <;> (try omega)) hS rfl ?_
  simp only [nz]
  refine hs_t 28 31 (?_) rfl (by kernel_rfl) (by kernel_rfl) (by kernel_rfl) (by rfl) ?_ hS rfl ?_
  rotate_left
  ·intro w' hw
   go_simp
   try with_reducible rfl
  simp only [nz]
  refine hs_t 29 2 (?_) rfl (by kernel_rfl) (by kernel_rfl) (by kernel_rfl) (by rfl) ?_ hS rfl ?_
  rotate_left
  ·intro w' hw
   go_simp
   try with_reducible rfl
  simp only [nz]
  refine hs_done (by kernel_rfl) ?_
  go_wp2_with fail
  go_ret
  exact ⟨by rw [HG.out]; try rfl, hB8.trans (hS.mono hB8.size)⟩
theorem Bs.app {a b : List Int} (h : Bs a) (k : Bs b) : Bs (a ++ b) := fun z hz => (List.mem_append.1 hz).elim (h z) (k z)
theorem Bs.flat {α : Type} {f : α → List Int} {xs : List α} (h : ∀ x ∈ xs, Bs (f x)) : Bs (xs.flatMap f) := fun z hz => by
 obtain ⟨x, hx, hz⟩ := List.mem_flatMap.1 hz
 exact h x hx z hz
theorem put_bs {n m : Int} (h : 0 ≤ n ∧ n ≤ m) (hm : m ≤ 9223372036854775807) : Bs (putL n) := putL_byte n (by omega)
theorem len_bs (n : Nat) (m : Int) (h : (n : Int) ≤ m) (hm : m ≤ 9223372036854775807) : Bs (putL (n : Int)) := putL_byte n (by omega)
theorem text_bs {s : ByteArray} {m : Int} (h : (s.size : Int) ≤ m) (hm : m ≤ 9223372036854775807) : Bs (textL s) := (len_bs _ m h hm).app (strL_byte s)
theorem sg_bs {g : Sg} (h : sgOk g) : Bs (sgL g) := (put_bs h.1 (by decide)).app h.2.2
theorem ev_bs {g : Ev} (h : evOk g) : Bs (evL g) := (put_bs h.1 (by decide)).app ((text_bs h.2.1 (by decide)).app h.2.2.2)
theorem vt_bs {x : Vt} (h : vtOk x) : Bs (vtL x) := by
 obtain ⟨h1, h2, h3, h4, h5, h6⟩ := h
 refine Bs.app (Bs.flat fun n hn => ?_) h6
 simp only [List.mem_cons, List.not_mem_nil, or_false] at hn
 rcases hn with rfl | rfl | rfl | rfl
 ·exact put_bs (m := 2) ⟨by omega, by omega⟩ (by decide)
 ·exact put_bs h2 (by decide)
 ·exact put_bs h3 (by decide)
 ·exact put_bs h4 (by decide)
theorem rq_bs {r : Rq} (h : rqOk r) : Bs (rqL r) := (((put_bs h.1 (by decide)).app (put_bs h.2.1 (by decide))).app (text_bs h.2.2.1 (by decide))).app h.2.2.2.2
theorem ba_bs {c : Bool × List Rq} (h : baOk c) : Bs (baL c) := by
 obtain ⟨q, rs⟩ := c
 cases q
 ·have e : baL (false, rs) = putL ((rs.length : Int) + 1) ++ rs.flatMap rqL := by
   unfold baL batL
   rw [if_neg (show ¬ (false = true) by decide), List.length_map, List.flatMap_map]
   rfl
  rw [e]
  have h2 : rs.length ≤ 4 := h.2.1
  exact Bs.app (putL_byte _ (by omega)) (Bs.flat fun r hr => rq_bs (h.2.2 r hr))
 ·have e : baL (true, rs) = putL 0 := rfl
  rw [e]
  exact putL_byte 0 (by omega)
theorem sgs_bs {xs : List Sg} (h : (xs.length : Int) ≤ 64 ∧ ∀ x ∈ xs, sgOk x) : Bs (sgsL xs) := (len_bs _ 64 h.1 (by decide)).app (Bs.flat fun x hx => sg_bs (h.2 x hx))
theorem evs_bs {xs : List Ev} (h : (xs.length : Int) ≤ 64 ∧ ∀ x ∈ xs, evOk x) : Bs (evsL xs) := (len_bs _ 64 h.1 (by decide)).app (Bs.flat fun x hx => ev_bs (h.2 x hx))
theorem ce_bs {v : Vt} {xs : List Sg} (h : ceOk (v, xs)) : Bs (ctL v xs) := (vt_bs h.1).app (sgs_bs h.2)
theorem hp_bs {x : Hp} (h : hpOk x) : Bs (hpL x) := (ba_bs h.1).app (ce_bs h.2)
theorem cp_bs {c : Cp} (h : cpOk c) : Bs (cpL c) := (put_bs h.1 (by decide)).app ((put_bs h.2.1 (by decide)).app ((put_bs h.2.2.1 (by decide)).app ((len_bs _ 4 h.2.2.2.1 (by decide)).app (Bs.flat fun x hx => hp_bs (h.2.2.2.2 x hx)))))
theorem Mp.bytes_bs {m : Mp} (h : m.good) : Bs m.bytes := by
 rcases h with ⟨h, k⟩ | ⟨h, k⟩ | ⟨h, k⟩ | ⟨h, k⟩ | ⟨h, k⟩ | ⟨h, k⟩ | ⟨h, k⟩ | ⟨h, k⟩
 ·have e : m.bytes = putL 1 ++ body1 m := by unfold Mp.bytes; rw [h]; rfl
  rw [e]; exact (show Bs (putL 1) from putL_byte 1 (by omega)).app ((put_bs k.1.1 (by decide)).app ((put_bs k.1.2.1 (by decide)).app (ba_bs k.1.2.2)))
 ·have e : m.bytes = putL 2 ++ body2 m := by unfold Mp.bytes; rw [h]; rfl
  rw [e]; exact (show Bs (putL 2) from putL_byte 2 (by omega)).app (vt_bs k.1)
 ·have e : m.bytes = putL 3 ++ body3 m := by unfold Mp.bytes; rw [h]; rfl
  rw [e]; exact (show Bs (putL 3) from putL_byte 3 (by omega)).app (cp_bs k.1)
 ·have e : m.bytes = putL 4 ++ body4 m := by unfold Mp.bytes; rw [h]; rfl
  rw [e]; exact (show Bs (putL 4) from putL_byte 4 (by omega)).app ((put_bs k.1.1 (by decide)).app ((put_bs k.1.2.1 (by decide)).app ((put_bs k.1.2.2.1 (by decide)).app (evs_bs k.1.2.2.2))))
 ·have e : m.bytes = putL 5 ++ body5 m := by unfold Mp.bytes; rw [h]; rfl
  rw [e]; exact (show Bs (putL 5) from putL_byte 5 (by omega)).app ((put_bs k.1.1 (by decide)).app k.1.2.2)
 ·have e : m.bytes = putL 6 ++ body6 m := by unfold Mp.bytes; rw [h]; rfl
  rw [e]; exact (show Bs (putL 6) from putL_byte 6 (by omega)).app ((put_bs k.1.1 (by decide)).app (put_bs k.1.2 (by decide)))
 ·have e : m.bytes = putL 7 ++ body7 m := by unfold Mp.bytes; rw [h]; rfl
  rw [e]; exact (show Bs (putL 7) from putL_byte 7 (by omega)).app ((ba_bs k.1.1).app (ce_bs k.1.2))
 ·have e : m.bytes = putL 8 ++ body8 m := by unfold Mp.bytes; rw [h]; rfl
  rw [e]; exact (show Bs (putL 8) from putL_byte 8 (by omega)).app ((text_bs k.1.1 (by decide)).app (sgs_bs k.1.2))
theorem flat_part {α : Type} {f : α → List Int} {xs : List α} {x : α} (h : x ∈ xs) : (f x).length ≤ (xs.flatMap f).length := by
 induction xs with
 | nil => cases h
 | cons y ys ih =>
  rw [List.flatMap_cons, List.length_append]
  rcases List.mem_cons.1 h with rfl | h
  ·omega
  ·have := ih h; omega
theorem rs_few {q : Bool} {x : Sl Rq} (h : batMay q x = true) : x.xs.length ≤ 200 ∧ ∀ r ∈ x.xs, r.s.size ≤ 4000 := by
 unfold batMay at h
 cases q
 ·obtain ⟨h1, h2⟩ := mayL_iff.1 h
  refine ⟨by omega, fun r hr => ?_⟩
  have := h2 r hr
  unfold Rq.may at this
  rw [Bool.and_eq_true, Bool.and_eq_true] at this
  have := of_decide_eq_true this.2.2
  omega
 ·have e : x.xs.length = 0 := of_decide_eq_true h
  have e2 : x.xs = [] := List.eq_nil_of_length_eq_zero e
  exact ⟨by omega, fun r hr => by rw [e2] at hr; cases hr⟩
theorem fine_pure {x : Mg} (h : x.pure.good) (hl : x.bytes.length ≤ 40000) : x.Fine := by
 have hg := pure_good h
 unfold Mg.good at hg
 rw [Bool.and_eq_true, Bool.and_eq_true] at hg
 have hm := hg.2.2
 have hk := of_decide_eq_true hg.1
 unfold Mg.may Mg.mayL at hm
 simp only [Bool.and_eq_true] at hm
 obtain ⟨⟨e1, e2⟩, ⟨e3, e4⟩, e5, e6, e7, e8, e9, e10, e11⟩ := hm
 have b1 := (inB_iff.1 e1).2
 have b2 := (inB_iff.1 e2).2
 have b3 := (inB_iff.1 e3).2
 have b4 := (inB_iff.1 e4).2
 unfold chgMay at e8
 simp only [Bool.and_eq_true] at e8
 obtain ⟨⟨c1, c2, c3⟩, c4⟩ := e8
 have d1 := (inB_iff.1 c1).2
 have d2 := (inB_iff.1 c2).2
 have d3 := (inB_iff.1 c3).2
 obtain ⟨c5, c6⟩ := mayL_iff.1 c4
 obtain ⟨n1, n2⟩ := mayL_iff.1 e9
 have g1 := (mayL_iff.1 e11).1
 have hcs : x.cs.xs.length ≤ 1000 := by
  rcases h with ⟨_, k, o⟩ | ⟨_, k, o⟩ | ⟨_, k, o⟩ | ⟨_, k, o⟩ | ⟨_, k, o⟩ | ⟨_, k, o⟩ | ⟨_, k, o⟩ | ⟨_, k, o⟩
  case inr.inr.inr.inr.inr.inr.inl =>
   have := k.2.2.1
   have : ((x.cs.xs.length : Nat) : Int) ≤ 64 := this
   omega
  all_goals
   have e : [] = x.cs.xs := congrArg Mp.cs o
   rw [← e]
   simp
 have hne : ∀ g ∈ x.ne.xs, g.s.size ≤ 1000000 := by
  rcases h with ⟨_, k, o⟩ | ⟨_, k, o⟩ | ⟨_, k, o⟩ | ⟨h4, k, o⟩ | ⟨_, k, o⟩ | ⟨_, k, o⟩ | ⟨_, k, o⟩ | ⟨_, k, o⟩
  case inr.inr.inr.inl =>
   intro g hgm
   have h4 : x.k = 4 := h4
   have e : x.bytes = putL 4 ++ ([x.e, x.l, x.v].flatMap putL ++ evsL x.ne.xs) := by unfold Mg.bytes Mg.body; rw [h4]; rfl
   rw [e, List.length_append, List.length_append] at hl
   have h5 := flat_part (f := evL) hgm
   unfold evsL at hl
   rw [List.length_append] at hl
   have h6 : (strL g.s).length ≤ (evL g).length := by unfold evL textL; simp only [List.length_append]; omega
   rw [strL_length] at h6
   omega
  all_goals
   have e : [] = x.ne.xs := congrArg Mp.ne o
   rw [← e]
   intro g hgm
   cases hgm
 have hst : x.st.size ≤ 1000000 := by
  rcases h with ⟨_, k, o⟩ | ⟨_, k, o⟩ | ⟨_, k, o⟩ | ⟨_, k, o⟩ | ⟨_, k, o⟩ | ⟨_, k, o⟩ | ⟨_, k, o⟩ | ⟨h8, k, o⟩
  case inr.inr.inr.inr.inr.inr.inr =>
   have h8 : x.k = 8 := h8
   have e : x.bytes = putL 8 ++ (textL x.st ++ sgsL x.sg.xs) := by unfold Mg.bytes Mg.body; rw [h8]; rfl
   rw [e, List.length_append, List.length_append] at hl
   unfold textL at hl
   rw [List.length_append, strL_length] at hl
   omega
  all_goals
   have e : (⟨#[]⟩ : ByteArray) = x.st := congrArg Mp.st o
   rw [← e]
   decide
 exact ⟨by omega, by omega, by omega, by omega, by omega, by omega, by omega, (rs_few e7).1, (rs_few e7).2, by omega, fun g hgm => by
  have := c6 g hgm
  unfold Hd.may certMay at this
  simp only [Bool.and_eq_true] at this
  have s1 := (mayL_iff.1 this.2.2).1
  exact ⟨by omega, (rs_few this.1).1, (rs_few this.1).2⟩, by omega, hne, hcs, by omega, hst, hl⟩
def Rc.bytes (r : Rc) : List Int := if r.k = 1 then ((putL r.k ++ putL r.s) ++ putL r.v) ++ batL r.q (r.rs.xs.map BRq.of) else if r.k = 3 then (putL r.k ++ putL r.l) ++ putL r.v else putL r.k ++ textL (strOf r.told.bytes)
def Rc.Fine (r : Rc) : Prop := r.told.Fine ∧ r.v ≤ 9223372036854775807 ∧ 1 ≤ r.k ∧ r.k ≤ 5
def encZ (r : Rc) : List Int := if r.good then r.bytes else []
def encE (r : Rc) : Int := if r.good then 0 else 240
def EncR (r : Rc) (w : World) (e : Ending) (w' : World) : Prop := ∃ v, e = .returned (.tuple #[v, .int .i64 (encE r)]) ∧ Mine w' w.heap.size v (encZ r) ∧ Below w.heap.size w w'
theorem tput_on (a : Option Addr) (cap : Nat) (zs : List Int) (n : Int) (w : World) (h : RowAt w a zs) (hz : zs.length ≤ 1000000) (hn : n ≤ 9223372036854775807) : Calls Tryz.prog 47 #[.slice a zs.length cap, .int .i64 n] w fun e w' => FOn zs (putL n) w e w' := put_any a cap zs n w h (by omega) hn
theorem ttext_on (a : Option Addr) (cap : Nat) (zs : List Int) (s : ByteArray) (w : World) (h : RowAt w a zs) (hz : zs.length ≤ 1000000) (hs : s.size ≤ 1000000) : Calls Tryz.prog 50 #[.slice a zs.length cap, .string s] w fun e w' => FOn zs (textL s) w e w' := putText_any a cap zs s w h (by omega) (by omega)
theorem tbat_on (a0 : Option Addr) (cap0 : Nat) (zs : List Int) (q : Bool) (x : Sl Rq) (w : World) (h : RowAt w a0 zs) (hz : zs.length ≤ 90000) (hx : x.At RqE w) (hn : x.xs.length ≤ 200) (hs : ∀ r ∈ x.xs, r.s.size ≤ 4000) : Calls Tryz.prog 48 #[.slice a0 zs.length cap0, .agg #[.bool q, x.val]] w fun e w' => FOn zs (batL q (x.xs.map BRq.of)) w e w' := by
 have c := bput_any a0 cap0 zs q x.a x.cap (x.xs.map BRq.of) w h hz (reqs_at hx) (by rw [List.length_map]; exact hn) (fun r hr => by
  obtain ⟨y, hy, rfl⟩ := List.mem_map.1 hr
  exact hs y hy)
 unfold batV at c
 rw [List.length_map] at c
 exact c
theorem nil_mine (w : World) (B : Nat) : Mine w B (.slice none 0 0) [] := ⟨World.ownsRow_nil w B 5 1, fun z h => by cases h⟩
theorem Rc.told_bs {r : Rc} {w : World} (h : r.ct.ok) (am : r.At w) (hg : r.good = true) : r.told.bytes = r.told.pure.bytes ∧ Bs r.told.bytes := by
 unfold Rc.good at hg
 rw [Bool.and_eq_true] at hg
 have hp := good_pure (Rc.told_ok h) (Rc.told_at am) hg.2
 have e := bytes_pure r.told (Mg.good_k hg.2)
 exact ⟨e, by rw [e]; exact Mp.bytes_bs hp⟩
theorem strOf_len (zs : List Int) : (strOf zs).size = zs.length := strOf_size zs
theorem Rc.bytes_le {r : Rc} {w : World} (am : r.At w) (h : r.Fine) : r.bytes.length ≤ 3000000 := by
 obtain ⟨hf, hv, k1, k5⟩ := h
 have hs : r.s ≤ 9223372036854775807 := hf.s
 have hl : r.l ≤ 9223372036854775807 := hf.l
 have p1 := putL_le r.k (by omega)
 have p2 := putL_le r.s hs
 have p3 := putL_le r.v hv
 have p4 := putL_le r.l hl
 have hall := hf.all
 unfold Rc.bytes
 split
 ·have hb : (batL r.q (r.rs.xs.map BRq.of)).length ≤ 900000 := batL_le r.q (r.rs.xs.map BRq.of) (by rw [List.length_map]; exact hf.rn) (reqs_at am.rs).2.1 (fun y hy => by
   obtain ⟨z, hz, rfl⟩ := List.mem_map.1 hy
   exact hf.rs z hz)
  simp only [List.length_append]
  omega
 split
 ·simp only [List.length_append]
  omega
 ·have ht : (textL (strOf r.told.bytes)).length ≤ 41000 := by
   unfold textL
   rw [List.length_append, strL_length, strOf_len]
   have := putL_le ((strOf r.told.bytes).size : Int) (by rw [strOf_len]; omega)
   rw [strOf_len] at this
   omega
  simp only [List.length_append]
  omega
set_option maxRecDepth 100000 in
set_option maxHeartbeats 2000000 in
theorem kbytesOf_any (r : Rc) (w : World) (h : r.ct.ok) (am : r.At w) (hg : r.good = true) (hf : r.Fine) : Calls Tryz.prog 20 #[.agg r.cells.toArray] w fun e w' => ∃ v, e = .returned (.tuple #[v, .int .i64 0]) ∧ Mine w' w.heap.size v r.bytes ∧ Below w.heap.size w w' := by
 have hlen := Rc.bytes_le am hf
 obtain ⟨hf, hv0, k1, k5⟩ := hf
 have hs0 : r.s ≤ 9223372036854775807 := hf.s
 have hl0 : r.l ≤ 9223372036854775807 := hf.l
 have hk0 : r.k ≤ 9223372036854775807 := by omega
 have ic : (Tryz.prog.info? 33).map (·.size) = some r.cells.length := by rw [Rc.len h]; exact iszRc
 have hrn : r.rs.xs.length ≤ 200 := hf.rn
 have hrs : ∀ y ∈ r.rs.xs, y.s.size ≤ 4000 := hf.rs
 have hbl := strOf_len r.told.bytes
 have hal := hf.all
 have hts : (strOf r.told.bytes).size ≤ 40000 := by rw [hbl]; exact hal
 have cK := fun w0 => tput_on none 0 [] r.k w0 (nil_row w0) (by simp) hk0
 simp only [List.length_nil] at cK
 have cT := fun w0 => ktold_any r w0 h
 have cE := fun w0 (h0 : Below w.heap.size w w0) => enc_any r.told w0 (Rc.told_ok h) (Rc.told_at (am.below h0)) (fun _ => hf)
 have hgt : r.told.good = true := by unfold Rc.good at hg; rw [Bool.and_eq_true] at hg; exact hg.2
 rw [hgt] at cE
 have cB := fun a c zs w0 (h0 : Below w.heap.size w w0) h1 h2 => tbat_on a c zs r.q r.rs w0 h1 h2 (am.rs.below h0) hrn hrs
 obtain ⟨Z, hZ⟩ : ∃ Z, Hid (r.bytes = Z) := ⟨_, hide rfl⟩
 rw [hZ.out] at hlen ⊢
 obtain ⟨tb, htb⟩ : ∃ t, Hid (strOf r.told.bytes = t) := ⟨_, hide rfl⟩
 unfold encV at cE
 simp only [if_true] at cE
 simp only [htb.out] at cE hbl hts
 obtain ⟨L1, hL1⟩ : ∃ L, Hid (([] : List Int) ++ putL r.k = L) := ⟨_, hide rfl⟩
 have l1 : L1.length ≤ 9 := by rw [← hL1.out]; exact putL_le r.k hk0
 obtain ⟨L2, hL2⟩ : ∃ L, Hid (L1 ++ putL r.s = L) := ⟨_, hide rfl⟩
 have l2 : L2.length ≤ 18 := by rw [← hL2.out, List.length_append]; have := putL_le r.s hs0; omega
 obtain ⟨L3, hL3⟩ : ∃ L, Hid (L2 ++ putL r.v = L) := ⟨_, hide rfl⟩
 have l3 : L3.length ≤ 27 := by rw [← hL3.out, List.length_append]; have := putL_le r.v hv0; omega
 obtain ⟨M2, hM2⟩ : ∃ L, Hid (L1 ++ putL r.l = L) := ⟨_, hide rfl⟩
 have m2 : M2.length ≤ 18 := by rw [← hM2.out, List.length_append]; have := putL_le r.l hl0; omega
 obtain ⟨M3, hM3⟩ : ∃ L, Hid (M2 ++ putL r.v = L) := ⟨_, hide rfl⟩
 have m3 : M3.length ≤ 27 := by rw [← hM3.out, List.length_append]; have := putL_le r.v hv0; omega
 have z1 : r.k = 1 → Hid (L3 ++ batL r.q (r.rs.xs.map BRq.of) = Z) := fun e => hide (by rw [← hZ.out, ← hL3.out, ← hL2.out, ← hL1.out]; unfold Rc.bytes; rw [if_pos e]; simp)
 have z3 : r.k = 3 → Hid (M3 = Z) := fun e => hide (by rw [← hZ.out, ← hM3.out, ← hM2.out, ← hL1.out]; unfold Rc.bytes; rw [if_neg (by omega), if_pos e]; simp)
 have z7 : r.k ≠ 1 → r.k ≠ 3 → Hid (L1 ++ textL tb = Z) := fun e1 e3 => hide (by rw [← hZ.out, ← hL1.out, ← htb.out]; unfold Rc.bytes; rw [if_neg e1, if_neg e3]; simp)
 obtain ⟨hB1, hR1, hs1⟩ := boxed_new w r.cells 33
 have hp := fun {W : World} {b : Nat} (hR : W.rangeAt b 0 r.cells) => rc_parts h hR
 clear am hg hgt hal hZ htb
 go_enter Tryz.func20, Tryz.ntmps20
 go_upto_region 1 with fail
 obtain ⟨V0, hV0⟩ : ∃ q : World, w.alloc (.cells r.cells.toArray 33) = q := ⟨_, rfl⟩
 rw [hV0] at hB1 hR1 hs1 ⊢
 clear hV0
 have k0 : V0.cell? ⟨w.heap.size, 0, none⟩ = some (.int .i64 r.k) := hR1 0 _ rfl
 try simp only [Act.put]
 refine pl_begin ?_
 refine pl_t 7 (?_) (by rfl) ?_ rfl ?_
 rotate_left
 ·go_simp
  try with_reducible rfl
 simp only [nz]
 refine pl_t 8 (.int .i64 r.k) (by rfl) (pl_one rfl rfl k0 Tryz.underlying3 rfl) rfl ?_
 simp only [nz]
 refine pl_call (d := some 9) (by rfl) (by go_simp; first | done | exact ⟨rfl, rfl⟩ | with_reducible rfl) rfl ?_
 refine (cK V0).mono ?_
 rintro e9 w1 hf9
 obtain ⟨a1, c1, rfl, row1, mine1, hb9⟩ := FOn.row hf9 hL1.out (by omega)
 have hN1 : Below w.heap.size w w1 := hB1.trans (hb9.mono hB1.size)
 clear hf9
 refine ⟨_, rfl, ?_⟩
 simp only [nz]
 refine pl_t 4 (?_) (by rfl) ?_ rfl ?_
 rotate_left
 ·go_simp
  try with_reducible rfl
 simp only [nz]
 refine pl_nil ?_
 have hR := range_below hR1 hb9 hs1
 have hsw : w.heap.size < w1.heap.size := Nat.lt_of_lt_of_le hs1 hb9.size
 replace mine1 : Mine w1 w.heap.size (.slice a1 L1.length c1) L1 := ⟨owns_mono mine1.1 (Nat.le_of_lt hs1), mine1.2⟩
 clear hB1 hR1 hs1 k0 hb9 cK
 have hB1 := hN1
 have hs1 := hsw
 clear hN1 hsw
 have q0 : w1.cell? ⟨w.heap.size, 0, none⟩ = some (.int .i64 r.k) := hR 0 _ rfl
 have q1 : w1.cell? ⟨w.heap.size, 1, none⟩ = some (.int .i64 r.l) := hR 1 _ rfl
 have q2 : w1.cell? ⟨w.heap.size, 2, none⟩ = some (.int .i64 r.v) := hR 2 _ rfl
 have q3 : w1.cell? ⟨w.heap.size, 3, none⟩ = some (.int .i64 r.s) := hR 3 _ rfl
 go_upto_region 2 with fail
 try simp only [Act.put]
 refine pl_begin ?_
 refine pl_t 10 (?_) (by rfl) ?_ rfl ?_
 rotate_left
 ·go_simp
  try with_reducible rfl
 simp only [nz]
 refine pl_t 11 (.int .i64 r.k) (by rfl) (pl_one rfl rfl q0 Tryz.underlying3 rfl) rfl ?_
 simp only [nz]
 refine pl_nil ?_
 by_cases hk1 : r.k = 1
 ·have z := z1 hk1
  go_upto_region 3 with fail
  try simp only [Act.put]
  refine pl_begin ?_
  refine pl_t 13 (.bool true) (by rfl) (by go_simp <;> (try simp [*])) rfl ?_
  simp only [nz]
  refine pl_t 12 (?_) (by rfl) ?_ rfl ?_
  rotate_left
  ·go_simp
   try with_reducible rfl
  simp only [nz]
  refine pl_nil ?_
  clear z1 z3 z7 hM2 hM3 cT cE hL1
  go_upto_region 4 with fail
  refine hs_begin (S := (Below w1.drew.heap.size w1.drew)) 8 rfl (by kernel_rfl) ?_
  have hB8 := hB1.drew
  have hs8 : w.heap.size < w1.drew.heap.size := hs1
  replace row1 : RowAt w1.drew a1 L1 := row1.below (Below.refl _ _).drew
  have q1 : w1.drew.cell? ⟨w.heap.size, 1, none⟩ = some (.int .i64 r.l) := q1
  have q2 : w1.drew.cell? ⟨w.heap.size, 2, none⟩ = some (.int .i64 r.v) := q2
  have q3 : w1.drew.cell? ⟨w.heap.size, 3, none⟩ = some (.int .i64 r.s) := q3
  have hRd := (World.rangeAt_drew _ _ _ _).2 hR
  obtain ⟨w8, hw8⟩ : ∃ W, w1.drew = W := ⟨_, rfl⟩
  rw [hw8] at hB8 hs8 row1 q1 q2 q3 hRd ⊢
  clear hw8 hB1 hs1 hR mine1
  have hS : (Below w8.heap.size w8) w8 := Below.refl _ _
  refine hs_t 0 14 (?_) rfl (by kernel_rfl) (by kernel_rfl) (by kernel_rfl) (by rfl) ?_ hS rfl ?_
  rotate_left
  ·intro w' hw
   go_simp
   try with_reducible rfl
  simp only [nz]
  refine hs_t 1 15 (?_) rfl (by kernel_rfl) (by kernel_rfl) (by kernel_rfl) (by rfl) ?_ hS rfl ?_
  rotate_left
  ·intro w' hw
   go_simp
   try with_reducible rfl
  simp only [nz]
  refine hs_t 2 16 (.int .i64 r.s) rfl (by kernel_rfl) (by kernel_rfl) (by kernel_rfl) (by rfl) (fun w' hw => pl_one rfl rfl ((hw.cell (p := ⟨w.heap.size, 3, none⟩) hs8).trans q3) Tryz.underlying3 rfl) hS rfl ?_
  simp only [nz]
  refine hs_t 4 18 (?_) rfl (by kernel_rfl) (by kernel_rfl) (by kernel_rfl) (by rfl) ?_ hS rfl ?_
  rotate_left
  ·intro w' hw
   go_simp
   try with_reducible rfl
  simp only [nz]
  refine hs_t 5 19 (.int .i64 r.v) rfl (by kernel_rfl) (by kernel_rfl) (by kernel_rfl) (by rfl) (fun w' hw => pl_one rfl rfl ((hw.cell (p := ⟨w.heap.size, 2, none⟩) hs8).trans q2) Tryz.underlying3 rfl) hS rfl ?_
  simp only [nz]
  refine hs_call (i := 3) (d := some 17) rfl (by kernel_rfl) (by rfl) (by go_simp; first | done | exact ⟨rfl, rfl⟩ | with_reducible rfl) rfl ?_
  refine (tput_on a1 c1 L1 r.s w8 row1 (by omega) hs0).mono ?_
  rintro e9 w9 hf9
  obtain ⟨a2, c2, rfl, row2, mine2, hb9⟩ := FOn.row hf9 hL2.out (by omega)
  have hS : (Below w8.heap.size w8) w9 := hS.trans (hb9.mono hS.size)
  have hS9 := hS
  clear hf9 hb9
  refine ⟨_, rfl, hS, ?_⟩
  simp only [nz]
  refine hs_call (i := 6) (d := some 20) rfl (by kernel_rfl) (by rfl) (by go_simp; first | done | exact ⟨rfl, rfl⟩ | with_reducible rfl) rfl ?_
  refine (tput_on a2 c2 L2 r.v w9 row2 (by omega) hv0).mono ?_
  rintro e9 w10 hf9
  obtain ⟨a3, c3, rfl, row3, mine3, hb9⟩ := FOn.row hf9 hL3.out (by omega)
  have hS : (Below w8.heap.size w8) w10 := hS.trans (hb9.mono hS.size)
  clear hf9 hb9
  refine ⟨_, rfl, hS, ?_⟩
  simp only [nz]
  refine hs_t 7 4 (?_) rfl (by kernel_rfl) (by kernel_rfl) (by kernel_rfl) (by rfl) ?_ hS rfl ?_
  rotate_left
  ·intro w' hw
   go_simp
   try with_reducible rfl
  simp only [nz]
  refine hs_done (by kernel_rfl) ?_
  have rR := range_below hRd hS hs8
  have sR := Nat.lt_of_lt_of_le hs8 hS.size
  have BB := hB8.trans (hS.mono hB8.size)
  obtain ⟨rb, -, -, -⟩ := hp rR
  clear hp
  go_upto_region 5 with fail
  try simp only [Act.put]
  refine pl_begin ?_
  refine pl_t 21 (?_) (by rfl) ?_ rfl ?_
  rotate_left
  ·go_simp
   try with_reducible rfl
  simp only [nz]
  refine pl_t 22 (?_) (by rfl) ?_ rfl ?_
  rotate_left
  ·go_simp
   try with_reducible rfl
  simp only [nz]
  refine pl_t 23 (.agg #[.bool r.q, r.rs.val]) (by rfl) (ex_mid rfl rfl rb Tryz.underlying24 rfl iszBa) rfl ?_
  simp only [nz]
  refine pl_call (d := some 24) (by rfl) (by go_simp; first | done | exact ⟨rfl, rfl⟩ | with_reducible rfl) rfl ?_
  refine (cB a3 c3 L3 w10 BB row3 (by omega)).mono ?_
  rintro e9 w11 hf9
  obtain ⟨a4, c4, rfl, row4, mine4, hb9⟩ := FOn.row hf9 z.out (by omega)
  have hN4 : Below w.heap.size w w11 := BB.trans (hb9.mono BB.size)
  clear hf9
  refine ⟨_, rfl, ?_⟩
  simp only [nz]
  refine pl_t 2 (?_) (by rfl) ?_ rfl ?_
  rotate_left
  ·go_simp
   try with_reducible rfl
  simp only [nz]
  refine pl_t 3 (?_) (by rfl) ?_ rfl ?_
  rotate_left
  ·go_simp
   try with_reducible rfl
  simp only [nz]
  refine pl_nil ?_
  replace mine4 : Mine w11 w.heap.size (.slice a4 Z.length c4) Z := ⟨owns_mono mine4.1 BB.size, mine4.2⟩
  have HM := hide mine4
  clear mine4 row4 hb9
  go_wp2_with fail
  go_ret2
  exact ⟨_, rfl, HM.out, hN4⟩
 have n1 : (r.k == 1) = false := by simpa using hk1
 clear z1
 go_upto_region 3 with fail
 try simp only [Act.put]
 refine pl_begin ?_
 refine pl_t 13 (.bool false) (by rfl) (by go_simp <;> (try simp [*])) rfl ?_
 simp only [nz]
 refine pl_t 12 (?_) (by rfl) ?_ rfl ?_
 rotate_left
 ·go_simp
  try with_reducible rfl
 simp only [nz]
 refine pl_nil ?_
 by_cases hk3 : r.k = 3
 ·have z := z3 hk3
  go_upto_region 6 with fail
  try simp only [Act.put]
  refine pl_begin ?_
  refine pl_t 26 (.bool true) (by rfl) (by go_simp <;> (try simp [*])) rfl ?_
  simp only [nz]
  refine pl_t 25 (?_) (by rfl) ?_ rfl ?_
  rotate_left
  ·go_simp
   try with_reducible rfl
  simp only [nz]
  refine pl_nil ?_
  clear z3 z7 hL2 hL3 cT cE hL1 cB hp
  go_upto_region 7 with fail
  refine hs_begin (S := (Below w1.drew.heap.size w1.drew)) 9 rfl (by kernel_rfl) ?_
  have hB8 := hB1.drew
  have hs8 : w.heap.size < w1.drew.heap.size := hs1
  replace row1 : RowAt w1.drew a1 L1 := row1.below (Below.refl _ _).drew
  have q1 : w1.drew.cell? ⟨w.heap.size, 1, none⟩ = some (.int .i64 r.l) := q1
  have q2 : w1.drew.cell? ⟨w.heap.size, 2, none⟩ = some (.int .i64 r.v) := q2
  have q3 : w1.drew.cell? ⟨w.heap.size, 3, none⟩ = some (.int .i64 r.s) := q3
  have hRd := (World.rangeAt_drew _ _ _ _).2 hR
  obtain ⟨w8, hw8⟩ : ∃ W, w1.drew = W := ⟨_, rfl⟩
  rw [hw8] at hB8 hs8 row1 q1 q2 q3 hRd ⊢
  clear hw8 hB1 hs1 hR mine1
  have hS : (Below w8.heap.size w8) w8 := Below.refl _ _
  refine hs_t 0 27 (?_) rfl (by kernel_rfl) (by kernel_rfl) (by kernel_rfl) (by rfl) ?_ hS rfl ?_
  rotate_left
  ·intro w' hw
   go_simp
   try with_reducible rfl
  simp only [nz]
  refine hs_t 1 28 (?_) rfl (by kernel_rfl) (by kernel_rfl) (by kernel_rfl) (by rfl) ?_ hS rfl ?_
  rotate_left
  ·intro w' hw
   go_simp
   try with_reducible rfl
  simp only [nz]
  refine hs_t 2 29 (.int .i64 r.l) rfl (by kernel_rfl) (by kernel_rfl) (by kernel_rfl) (by rfl) (fun w' hw => pl_one rfl rfl ((hw.cell (p := ⟨w.heap.size, 1, none⟩) hs8).trans q1) Tryz.underlying3 rfl) hS rfl ?_
  simp only [nz]
  refine hs_t 4 31 (?_) rfl (by kernel_rfl) (by kernel_rfl) (by kernel_rfl) (by rfl) ?_ hS rfl ?_
  rotate_left
  ·intro w' hw
   go_simp
   try with_reducible rfl
  simp only [nz]
  refine hs_t 5 32 (.int .i64 r.v) rfl (by kernel_rfl) (by kernel_rfl) (by kernel_rfl) (by rfl) (fun w' hw => pl_one rfl rfl ((hw.cell (p := ⟨w.heap.size, 2, none⟩) hs8).trans q2) Tryz.underlying3 rfl) hS rfl ?_
  simp only [nz]
  refine hs_call (i := 3) (d := some 30) rfl (by kernel_rfl) (by rfl) (by go_simp; first | done | exact ⟨rfl, rfl⟩ | with_reducible rfl) rfl ?_
  refine (tput_on a1 c1 L1 r.l w8 row1 (by omega) hl0).mono ?_
  rintro e9 w9 hf9
  obtain ⟨a2, c2, rfl, row2, mine2, hb9⟩ := FOn.row hf9 hM2.out (by omega)
  have hS : (Below w8.heap.size w8) w9 := hS.trans (hb9.mono hS.size)
  have hS9 := hS
  clear hf9 hb9
  refine ⟨_, rfl, hS, ?_⟩
  simp only [nz]
  refine hs_call (i := 6) (d := some 33) rfl (by kernel_rfl) (by rfl) (by go_simp; first | done | exact ⟨rfl, rfl⟩ | with_reducible rfl) rfl ?_
  refine (tput_on a2 c2 M2 r.v w9 row2 (by omega) hv0).mono ?_
  rintro e9 w10 hf9
  obtain ⟨a3, c3, rfl, row3, mine3, hb9⟩ := FOn.row hf9 hM3.out (by omega)
  have hS : (Below w8.heap.size w8) w10 := hS.trans (hb9.mono hS.size)
  clear hf9 hb9
  refine ⟨_, rfl, hS, ?_⟩
  simp only [nz]
  refine hs_t 7 2 (?_) rfl (by kernel_rfl) (by kernel_rfl) (by kernel_rfl) (by rfl) ?_ hS rfl ?_
  rotate_left
  ·intro w' hw
   go_simp
   try with_reducible rfl
  simp only [nz]
  refine hs_t 8 3 (?_) rfl (by kernel_rfl) (by kernel_rfl) (by kernel_rfl) (by rfl) ?_ hS rfl ?_
  rotate_left
  ·intro w' hw
   go_simp
   try with_reducible rfl
  simp only [nz]
  refine hs_done (by kernel_rfl) ?_
  have BB := hB8.trans (hS.mono hB8.size)
  have HM : Hid (Mine w10 w.heap.size (.slice a3 Z.length c3) Z) := hide (by
   rw [← z.out]
   exact ⟨owns_mono mine3.1 (Nat.le_trans hB8.size hS9.size), mine3.2⟩)
  have e3 : M3.length = Z.length := congrArg List.length z.out
  clear mine3 mine2 row3 row2 row1
  go_wp2_with fail
  go_ret2
  exact ⟨_, rfl, by rw [e3]; exact HM.out, BB⟩
 have n3 : (r.k == 3) = false := by simpa using hk3
 have z := z7 hk1 hk3
 clear z3 z7 hL2 hL3 hM2 hM3 cB hp
 go_upto_region 6 with fail
 try simp only [Act.put]
 refine pl_begin ?_
 refine pl_t 26 (.bool false) (by rfl) (by go_simp <;> (try simp [*])) rfl ?_
 simp only [nz]
 refine pl_t 25 (?_) (by rfl) ?_ rfl ?_
 rotate_left
 ·go_simp
  try with_reducible rfl
 simp only [nz]
 refine pl_nil ?_
 go_upto_region 8 with fail
 try simp only [Act.put]
 refine pl_begin ?_
 refine pl_t 35 (.agg r.cells.toArray) (by rfl) (ex_mid rfl rfl hR Tryz.underlying33 rfl ic) rfl ?_
 simp only [nz]
 refine pl_call (d := some 36) (by rfl) (by go_simp; first | done | exact ⟨rfl, rfl⟩ | with_reducible rfl) rfl ?_
 refine (cT w1).mono ?_
 rintro _ w2 ⟨rfl, hb2⟩
 refine ⟨_, rfl, ?_⟩
 simp only [nz]
 refine pl_call (d := some 37) (by rfl) (by go_simp; first | done | exact ⟨rfl, rfl⟩ | with_reducible rfl) rfl ?_
 refine (cE w2 (hB1.trans (hb2.mono hB1.size))).mono ?_
 rintro _ w3 ⟨rfl, hb3⟩
 refine ⟨_, rfl, ?_⟩
 simp only [nz]
 refine pl_t 34 (?_) (by rfl) ?_ rfl ?_
 rotate_left
 ·go_simp
  try with_reducible rfl
 simp only [nz]
 refine pl_t 38 (?_) (by rfl) ?_ rfl ?_
 rotate_left
 ·go_simp
  try with_reducible rfl
 simp only [nz]
 refine pl_t 39 (?_) (by rfl) ?_ rfl ?_
 rotate_left
 ·go_simp
  try with_reducible rfl
 simp only [nz]
 refine pl_t 5 (?_) (by rfl) ?_ rfl ?_
 rotate_left
 ·go_simp
  try with_reducible rfl
 simp only [nz]
 refine pl_t 6 (?_) (by rfl) ?_ rfl ?_
 rotate_left
 ·go_simp
  try with_reducible rfl
 simp only [nz]
 refine pl_nil ?_
 have B3 := (hB1.trans (hb2.mono hB1.size)).trans (hb3.mono (Nat.le_trans hB1.size hb2.size))
 have row3 := (row1.below hb2).below hb3
 clear mine1 row1
 go_upto_region 9 with fail
 try simp only [Act.put]
 refine pl_begin ?_
 refine pl_t 40 (?_) (by rfl) ?_ rfl ?_
 rotate_left
 ·go_simp
  try with_reducible rfl
 simp only [nz]
 refine pl_t 41 (?_) (by rfl) ?_ rfl ?_
 rotate_left
 ·go_simp
  try with_reducible rfl
 simp only [nz]
 refine pl_call (d := some 42) (by rfl) (by go_simp; first | done | exact ⟨rfl, rfl⟩ | with_reducible rfl) rfl ?_
 refine (ttext_on a1 c1 L1 tb w3 row3 (by omega) (by omega)).mono ?_
 rintro e9 w4 hf9
 obtain ⟨a4, c4, rfl, row4, mine4, hb9⟩ := FOn.row hf9 z.out (by omega)
 have hN4 : Below w.heap.size w w4 := B3.trans (hb9.mono B3.size)
 clear hf9
 refine ⟨_, rfl, ?_⟩
 simp only [nz]
 refine pl_t 43 (?_) (by rfl) ?_ rfl ?_
 rotate_left
 ·go_simp
  try with_reducible rfl
 simp only [nz]
 refine pl_t 2 (?_) (by rfl) ?_ rfl ?_
 rotate_left
 ·go_simp
  try with_reducible rfl
 simp only [nz]
 refine pl_t 3 (?_) (by rfl) ?_ rfl ?_
 rotate_left
 ·go_simp
  try with_reducible rfl
 simp only [nz]
 refine pl_nil ?_
 replace mine4 : Mine w4 w.heap.size (.slice a4 Z.length c4) Z := ⟨owns_mono mine4.1 B3.size, mine4.2⟩
 have HM := hide mine4
 clear mine4 row4 hb9
 go_wp2_with fail
 go_ret2
 exact ⟨_, rfl, HM.out, hN4⟩
set_option maxRecDepth 100000 in
set_option maxHeartbeats 2000000 in
theorem kencode_any (r : Rc) (w : World) (h : r.ct.ok) (am : r.At w) (hf : r.good = true → r.Fine) : Calls Tryz.prog 9 #[.agg r.cells.toArray] w fun e w' => EncR r w e w' := by
 have ic : (Tryz.prog.info? 33).map (·.size) = some r.cells.length := by rw [Rc.len h]; exact iszRc
 have cG := fun w0 (h0 : Below w.heap.size w w0) => kgood_any r w0 h (am.below h0)
 have cB := fun hg w0 (h0 : Below w.heap.size w w0) => kbytesOf_any r w0 h (am.below h0) hg (hf hg)
 have hl := fun hg => Rc.bytes_le am (hf hg)
 obtain ⟨E, hE⟩ : ∃ E, Hid (encE r = E) := ⟨_, hide rfl⟩
 obtain ⟨Z, hZ⟩ : ∃ E, Hid (encZ r = E) := ⟨_, hide rfl⟩
 obtain ⟨Y, hY⟩ : ∃ E, Hid (r.bytes = E) := ⟨_, hide rfl⟩
 have e1 : r.good = true → E = 0 ∧ Z = Y := fun hg => by rw [← hE.out, ← hZ.out, ← hY.out]; unfold encE encZ; rw [if_pos hg, if_pos hg]; exact ⟨rfl, rfl⟩
 have e2 : r.good = false → E = 240 ∧ Z = [] := fun hg => by rw [← hE.out, ← hZ.out]; unfold encE encZ; rw [if_neg (by rw [hg]; decide), if_neg (by rw [hg]; decide)]; exact ⟨rfl, rfl⟩
 unfold EncR
 rw [hE.out, hZ.out]
 simp only [hY.out] at cB hl
 clear hE hZ hY
 obtain ⟨g, hg⟩ : ∃ g, Hid (r.good = g) := ⟨_, hide rfl⟩
 rw [hg.out] at hf e1 e2
 simp only [hg.out] at cG cB hl
 clear hg
 obtain ⟨hB1, hR1, hs1⟩ := boxed_new w r.cells 33
 go_enter Tryz.func9, Tryz.ntmps9
 go_upto_region 1 with fail
 obtain ⟨V0, hV0⟩ : ∃ q : World, w.alloc (.cells r.cells.toArray 33) = q := ⟨_, rfl⟩
 rw [hV0] at hB1 hR1 hs1 ⊢
 clear hV0
 try simp only [Act.put]
 refine pl_begin ?_
 refine pl_t 6 (.agg r.cells.toArray) (by rfl) (ex_mid rfl rfl hR1 Tryz.underlying33 rfl ic) rfl ?_
 simp only [nz]
 refine pl_call (d := some 7) (by rfl) (by go_simp; first | done | exact ⟨rfl, rfl⟩ | with_reducible rfl) rfl ?_
 refine (cG V0 hB1).mono ?_
 rintro _ w1 ⟨rfl, hb1⟩
 refine ⟨_, rfl, ?_⟩
 simp only [nz]
 cases g
 ·refine pl_t 8 (?_) (by rfl) ?_ rfl ?_
  rotate_left
  ·go_simp
   try with_reducible rfl
  simp only [nz]
  refine pl_nil ?_
  obtain ⟨rfl, rfl⟩ := e2 rfl
  have HB := hide (hB1.trans (hb1.mono hB1.size))
  clear hB1 hR1 hs1 hb1 cG cB hl e1 e2
  go_wp2_with fail
  go_ret2
  exact ⟨_, rfl, nil_mine _ _, HB.out⟩
 ·refine pl_t 8 (?_) (by rfl) ?_ rfl ?_
  rotate_left
  ·go_simp
   try with_reducible rfl
  simp only [nz]
  refine pl_nil ?_
  obtain ⟨rfl, rfl⟩ := e1 rfl
  have hb := hB1.trans (hb1.mono hB1.size)
  have hR := range_below hR1 hb1 hs1
  have hlz := hl rfl
  have cb := cB rfl
  clear hB1 hR1 hs1 hb1 cG cB hl e1 e2
  go_upto_region 3 with fail
  try simp only [Act.put]
  refine pl_begin ?_
  refine pl_t 10 (.agg r.cells.toArray) (by rfl) (ex_mid rfl rfl hR Tryz.underlying33 rfl ic) rfl ?_
  simp only [nz]
  refine pl_call (d := some 11) (by rfl) (by go_simp; first | done | exact ⟨rfl, rfl⟩ | with_reducible rfl) rfl ?_
  refine (cb w1 hb).mono ?_
  rintro _ w2 ⟨v2, rfl, mine2, hb2⟩
  obtain ⟨a2, c2, rfl, -, -, row2⟩ := mine2.rowAt (by unfold maxLen; omega)
  refine ⟨_, rfl, ?_⟩
  simp only [nz]
  refine pl_t 9 (?_) (by rfl) ?_ rfl ?_
  rotate_left
  ·go_simp
   try with_reducible rfl
  simp only [nz]
  refine pl_t 12 (?_) (by rfl) ?_ rfl ?_
  rotate_left
  ·go_simp
   try with_reducible rfl
  simp only [nz]
  refine pl_t 13 (?_) (by rfl) ?_ rfl ?_
  rotate_left
  ·go_simp
   try with_reducible rfl
  simp only [nz]
  refine pl_t 4 (?_) (by rfl) ?_ rfl ?_
  rotate_left
  ·go_simp
   try with_reducible rfl
  simp only [nz]
  refine pl_t 5 (?_) (by rfl) ?_ rfl ?_
  rotate_left
  ·go_simp
   try with_reducible rfl
  simp only [nz]
  refine pl_nil ?_
  have HM : Hid (Mine w2 w.heap.size (.slice a2 Z.length c2) Z) := hide ⟨owns_mono mine2.1 hb.size, mine2.2⟩
  have HB := hide (hb.trans (hb2.mono hb.size))
  clear mine2 row2 hb2 hb hR cb
  go_upto_region 4 with fail
  try simp only [Act.put]
  refine pl_begin ?_
  refine pl_t 15 (?_) (by rfl) ?_ rfl ?_
  rotate_left
  ·go_simp
   try with_reducible rfl
  simp only [nz]
  refine pl_t 16 (.bool false) (by rfl) (by go_simp) rfl ?_
  simp only [nz]
  refine pl_t 14 (?_) (by rfl) ?_ rfl ?_
  rotate_left
  ·go_simp
   try with_reducible rfl
  simp only [nz]
  refine pl_nil ?_
  go_upto_region 6 with fail
  try simp only [Act.put]
  refine pl_begin ?_
  refine pl_t 19 (?_) (by rfl) ?_ rfl ?_
  rotate_left
  ·go_simp
   try with_reducible rfl
  simp only [nz]
  refine pl_t 20 (?_) (by rfl) ?_ rfl ?_
  rotate_left
  ·go_simp
   try with_reducible rfl
  simp only [nz]
  refine pl_t 21 (.bool false) (by rfl) (by go_simp <;> (try simp) <;> (try omega)) rfl ?_
  simp only [nz]
  refine pl_t 18 (?_) (by rfl) ?_ rfl ?_
  rotate_left
  ·go_simp
   try with_reducible rfl
  simp only [nz]
  refine pl_nil ?_
  go_wp2_with fail
  go_ret2
  exact ⟨_, rfl, HM.out, HB.out⟩
end Go.Proofs.YtinndbipomlokaaGreat
