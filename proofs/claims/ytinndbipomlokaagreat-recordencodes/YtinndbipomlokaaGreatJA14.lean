/- records: the document's bytes; records: read out of bytes; records: Decode; records: the document's Decode; records that are not too much -/
import Derived.Test.YtinndbipomlokaaGreatJA0
import Derived.Test.YtinndbipomlokaaGreatJA13
import Derived.Test.YtinndbipomlokaaGreatJA11
import Derived.Test.YtinndbipomlokaaGreatJA12
import Derived.Test.YtinndbipomlokaaGreatJA2
import Derived.Test.YtinndbipomlokaaGreatJA10
namespace Go.Proofs.YtinndbipomlokaaGreat
open Go.RowKit
open Sha Tal
set_option linter.unusedVariables false
set_option linter.unusedSimpArgs false
theorem xbat_on (a0 : Option Addr) (cap0 : Nat) (zs : List Int) (q : Bool) (x : Sl Rq) (w : World) (h : RowAt w a0 zs) (hz : zs.length ≤ 90000) (hx : x.At RqE w) (hn : x.xs.length ≤ 200) (hs : ∀ r ∈ x.xs, r.s.size ≤ 4000) : Calls Tryz.prog 22 #[.slice a0 zs.length cap0, .agg #[.bool q, x.val]] w fun e w' => FOn zs (batL q (x.xs.map BRq.of)) w e w' := by
 have c := refBput_any a0 cap0 zs q x.a x.cap (x.xs.map BRq.of) w h hz (reqs_at hx) (by rw [List.length_map]; exact hn) (fun r hr => by
  obtain ⟨y, hy, rfl⟩ := List.mem_map.1 hr
  exact hs y hy)
 unfold batV at c
 rw [List.length_map] at c
 exact c
theorem Rc.xtold_bytes {r : Rc} {w : World} (h : r.ct.ok) (am : r.At w) (hg : r.good = true) (hf : r.Fine) : r.xtold.good = true ∧ r.xtold.bytes = r.told.bytes ∧ r.xtold.Fine := by
 have hx := (Rc.good_x h am).trans hg
 unfold Rc.xgood at hx
 simp only [Bool.and_eq_true, decide_eq_true_iff] at hx
 obtain ⟨hk, hb, hxg, hv⟩ := hx
 have hp := Rc.told_x hk (Rc.B_pure hb)
 have e1 := bytes_pure r.xtold (Mg.good_k hxg)
 have e2 := (Rc.told_bs h am hg).1
 have e : r.xtold.bytes = r.told.bytes := by rw [e1, e2, hp]
 exact ⟨hxg, e, fine_pure (good_pure (Rc.xtold_ok h) (Rc.xtold_at am) hxg) (by rw [e]; exact hf.1.all)⟩
set_option maxRecDepth 100000 in
set_option maxHeartbeats 2000000 in
theorem xkencode_any (r : Rc) (w : World) (h : r.ct.ok) (am : r.At w) (hf : r.good = true → r.Fine) : Calls Tryz.prog 10 #[.agg r.cells.toArray] w fun e w' => EncR r w e w' := by
 have ic : (Tryz.prog.info? 33).map (·.size) = some r.cells.length := by rw [Rc.len h]; exact iszRc
 have cG := fun w0 (h0 : Below w.heap.size w w0) => xkgood_any r w0 h (am.below h0)
 rw [Rc.good_x h am] at cG
 have hp := fun {W : World} {b : Nat} (hR : W.rangeAt b 0 r.cells) => rc_parts h hR
 obtain ⟨hB1, hR1, hs1⟩ := boxed_new w r.cells 33
 have hk7 : ∀ {W : World}, W.rangeAt w.heap.size 0 r.cells → W.cell? ⟨w.heap.size, 0, none⟩ = some (.int .i64 r.k) ∧ W.cell? ⟨w.heap.size, 1, none⟩ = some (.int .i64 r.l) ∧ W.cell? ⟨w.heap.size, 2, none⟩ = some (.int .i64 r.v) ∧ W.cell? ⟨w.heap.size, 3, none⟩ = some (.int .i64 r.s) := fun h => ⟨h 0 _ rfl, h 1 _ rfl, h 2 _ rfl, h 3 _ rfl⟩
 unfold EncR
 by_cases hg : r.good = true
 rotate_left
 ·have hgf : r.good = false := by simpa using hg
  have he : encE r = 240 := by unfold encE; rw [if_neg hg]
  have hz : encZ r = [] := by unfold encZ; rw [if_neg hg]
  rw [he, hz]
  rw [hgf] at cG
  clear hg hgf he hz hf hp hk7
  go_enter Tryz.func10, Tryz.ntmps10
  go_upto_region 1 with fail
  obtain ⟨V0, hV0⟩ : ∃ q : World, w.alloc (.cells r.cells.toArray 33) = q := ⟨_, rfl⟩
  rw [hV0] at hB1 hR1 hs1 ⊢
  clear hV0
  try simp only [Act.put]
  refine pl_begin ?_
  refine pl_t 7 (.agg r.cells.toArray) (by rfl) (ex_mid rfl rfl hR1 Tryz.underlying33 rfl ic) rfl ?_
  simp only [nz]
  refine pl_call (d := some 8) (by rfl) (by go_simp; first | done | exact ⟨rfl, rfl⟩ | with_reducible rfl) rfl ?_
  refine (cG V0 hB1).mono ?_
  rintro _ w1 ⟨rfl, hb1⟩
  refine ⟨_, rfl, ?_⟩
  simp only [nz]
  refine pl_t 9 (?_) (by rfl) ?_ rfl ?_
  rotate_left
  ·go_simp
   try with_reducible rfl
  simp only [nz]
  refine pl_nil ?_
  have HB := hide (hB1.trans (hb1.mono hB1.size))
  clear hB1 hR1 hs1 hb1 cG
  go_wp2_with fail
  go_ret2
  exact ⟨_, rfl, nil_mine _ _, HB.out⟩
 have hgf : r.good = true := hg
 have he : encE r = 0 := by unfold encE; rw [if_pos hg]
 have hz : encZ r = r.bytes := by unfold encZ; rw [if_pos hg]
 rw [he, hz]
 clear he hz
 have hF := hf hg
 have hlen := Rc.bytes_le am hF
 obtain ⟨hxg, hxb, hxf⟩ := Rc.xtold_bytes h am hg hF
 have cT := fun w0 => xktold_any r w0 h
 have cE := fun w0 (h0 : Below w.heap.size w w0) => xenc_any r.xtold w0 (Rc.xtold_ok h) (Rc.xtold_at (am.below h0)) (fun _ => hxf) (fun w1 h1 => xgood_any r.xtold w1 (Rc.xtold_ok h) (Rc.xtold_at (am.below (h0.trans (h1.mono h0.size)))))
 obtain ⟨hf', hv0, k1, k5⟩ := hF
 have hs0 : r.s ≤ 9223372036854775807 := hf'.s
 have hl0 : r.l ≤ 9223372036854775807 := hf'.l
 have hk0 : r.k ≤ 9223372036854775807 := by omega
 have hrn : r.rs.xs.length ≤ 200 := hf'.rn
 have hrs : ∀ y ∈ r.rs.xs, y.s.size ≤ 4000 := hf'.rs
 have hbl := strOf_len r.told.bytes
 have hal := hf'.all
 have hts : (strOf r.told.bytes).size ≤ 40000 := by rw [hbl]; exact hal
 have cK := fun w0 => xput_on none 0 [] r.k w0 (nil_row w0) (by simp) hk0
 simp only [List.length_nil] at cK
 rw [hxg, hxb] at cE
 have cB := fun a c zs w0 (h0 : Below w.heap.size w w0) h1 h2 => xbat_on a c zs r.q r.rs w0 h1 h2 (am.rs.below h0) hrn hrs
 rw [hgf] at cG
 obtain ⟨Z, hZ⟩ : ∃ Z, Hid (r.bytes = Z) := ⟨_, hide rfl⟩
 rw [hZ.out] at hlen ⊢
 obtain ⟨tb, htb⟩ : ∃ t, Hid (strOf r.told.bytes = t) := ⟨_, hide rfl⟩
 unfold encV at cE
 simp only [if_true] at cE
 simp only [htb.out] at cE hbl hts
 obtain ⟨L1, hL1⟩ : ∃ L, Hid (([] : List Int) ++ putL r.k = L) := ⟨_, hide rfl⟩
 have l1 : L1.length ≤ 9 := by rw [← hL1.out]; exact putL_le r.k hk0
 obtain ⟨L2, hL2⟩ : ∃ L, Hid (L1 ++ putL r.s = L) := ⟨_, hide rfl⟩
 have l2 : L2.length ≤ 18 := by rw [← hL2.out, List.length_append]; have := putL_le r.s hs0; omega
 obtain ⟨L3, hL3⟩ : ∃ L, Hid (L2 ++ putL r.v = L) := ⟨_, hide rfl⟩
 have l3 : L3.length ≤ 27 := by rw [← hL3.out, List.length_append]; have := putL_le r.v hv0; omega
 obtain ⟨M2, hM2⟩ : ∃ L, Hid (L1 ++ putL r.l = L) := ⟨_, hide rfl⟩
 have m2 : M2.length ≤ 18 := by rw [← hM2.out, List.length_append]; have := putL_le r.l hl0; omega
 obtain ⟨M3, hM3⟩ : ∃ L, Hid (M2 ++ putL r.v = L) := ⟨_, hide rfl⟩
 have m3 : M3.length ≤ 27 := by rw [← hM3.out, List.length_append]; have := putL_le r.v hv0; omega
 have z1 : r.k = 1 → Hid (L3 ++ batL r.q (r.rs.xs.map BRq.of) = Z) := fun e => hide (by rw [← hZ.out, ← hL3.out, ← hL2.out, ← hL1.out]; unfold Rc.bytes; rw [if_pos e]; simp)
 have z3 : r.k = 3 → Hid (M3 = Z) := fun e => hide (by rw [← hZ.out, ← hM3.out, ← hM2.out, ← hL1.out]; unfold Rc.bytes; rw [if_neg (by omega), if_pos e]; simp)
 have z7 : r.k ≠ 1 → r.k ≠ 3 → Hid (L1 ++ textL tb = Z) := fun e1 e3 => hide (by rw [← hZ.out, ← hL1.out, ← htb.out]; unfold Rc.bytes; rw [if_neg e1, if_neg e3]; simp)
 clear am hg hgf hal hZ htb hf hxg hxb hxf hf' hrn hrs
 go_enter Tryz.func10, Tryz.ntmps10
 go_upto_region 1 with fail
 obtain ⟨V0, hV0⟩ : ∃ q : World, w.alloc (.cells r.cells.toArray 33) = q := ⟨_, rfl⟩
 rw [hV0] at hB1 hR1 hs1 ⊢
 clear hV0
 try simp only [Act.put]
 refine pl_begin ?_
 refine pl_t 7 (.agg r.cells.toArray) (by rfl) (ex_mid rfl rfl hR1 Tryz.underlying33 rfl ic) rfl ?_
 simp only [nz]
 refine pl_call (d := some 8) (by rfl) (by go_simp; first | done | exact ⟨rfl, rfl⟩ | with_reducible rfl) rfl ?_
 refine (cG V0 hB1).mono ?_
 rintro _ v1 ⟨rfl, hb1⟩
 refine ⟨_, rfl, ?_⟩
 simp only [nz]
 refine pl_t 9 (?_) (by rfl) ?_ rfl ?_
 rotate_left
 ·go_simp
  try with_reducible rfl
 simp only [nz]
 refine pl_nil ?_
 have hR2 := range_below hR1 hb1 hs1
 have hB2 := hB1.trans (hb1.mono hB1.size)
 have hs2 := Nat.lt_of_lt_of_le hs1 hb1.size
 clear hB1 hR1 hs1 hb1 cG
 obtain ⟨k0, -, -, -⟩ := hk7 hR2
 go_upto_region 3 with fail
 try simp only [Act.put]
 refine pl_begin ?_
 refine pl_t 10 (?_) (by rfl) ?_ rfl ?_
 rotate_left
 ·go_simp
  try with_reducible rfl
 simp only [nz]
 refine pl_t 11 (.int .i64 r.k) (by rfl) (pl_one rfl rfl k0 Tryz.underlying3 rfl) rfl ?_
 simp only [nz]
 refine pl_call (d := some 12) (by rfl) (by go_simp; first | done | exact ⟨rfl, rfl⟩ | with_reducible rfl) rfl ?_
 refine (cK v1).mono ?_
 rintro e9 w1 hf9
 obtain ⟨a1, c1, rfl, row1, mine1, hb9⟩ := FOn.row hf9 hL1.out (by omega)
 have hN1 : Below w.heap.size w w1 := hB2.trans (hb9.mono hB2.size)
 clear hf9
 refine ⟨_, rfl, ?_⟩
 simp only [nz]
 refine pl_t 4 (?_) (by rfl) ?_ rfl ?_
 rotate_left
 ·go_simp
  try with_reducible rfl
 simp only [nz]
 refine pl_nil ?_
 have hR := range_below hR2 hb9 hs2
 have hsw : w.heap.size < w1.heap.size := Nat.lt_of_lt_of_le hs2 hb9.size
 replace mine1 : Mine w1 w.heap.size (.slice a1 L1.length c1) L1 := ⟨owns_mono mine1.1 (Nat.le_of_lt hs2), mine1.2⟩
 clear hB2 hR2 hs2 k0 hb9 cK
 have hB1 := hN1
 have hs1 := hsw
 clear hN1 hsw
 obtain ⟨q0, q1, q2, q3⟩ := hk7 hR
 clear hk7
 go_upto_region 4 with fail
 try simp only [Act.put]
 refine pl_begin ?_
 refine pl_t 13 (?_) (by rfl) ?_ rfl ?_
 rotate_left
 ·go_simp
  try with_reducible rfl
 simp only [nz]
 refine pl_t 14 (.int .i64 r.k) (by rfl) (pl_one rfl rfl q0 Tryz.underlying3 rfl) rfl ?_
 simp only [nz]
 refine pl_nil ?_
 by_cases hk1 : r.k = 1
 ·have z := z1 hk1
  go_upto_region 9 with fail
  try simp only [Act.put]
  refine pl_begin ?_
  refine pl_t 27 (.bool true) (by rfl) (by go_simp <;> (try simp [*])) rfl ?_
  simp only [nz]
  refine pl_t 26 (?_) (by rfl) ?_ rfl ?_
  rotate_left
  ·go_simp
   try with_reducible rfl
  simp only [nz]
  refine pl_nil ?_
  clear z1 z3 z7 hM2 hM3 cT cE hL1
  go_upto_region 10 with fail
  refine hs_begin (S := (Below w1.drew.heap.size w1.drew)) 11 rfl (by kernel_rfl) ?_
  have hB8 := hB1.drew
  have hs8 : w.heap.size < w1.drew.heap.size := hs1
  replace row1 : RowAt w1.drew a1 L1 := row1.below (Below.refl _ _).drew
  have q1 : w1.drew.cell? ⟨w.heap.size, 1, none⟩ = some (.int .i64 r.l) := q1
  have q2 : w1.drew.cell? ⟨w.heap.size, 2, none⟩ = some (.int .i64 r.v) := q2
  have q3 : w1.drew.cell? ⟨w.heap.size, 3, none⟩ = some (.int .i64 r.s) := q3
  have hRd := (World.rangeAt_drew _ _ _ _).2 hR
  obtain ⟨w8, hw8⟩ : ∃ W, w1.drew = W := ⟨_, rfl⟩
  rw [hw8] at hB8 hs8 row1 q1 q2 q3 hRd ⊢
  clear hw8 hB1 hs1 hR mine1
  have hS : (Below w8.heap.size w8) w8 := Below.refl _ _
  obtain ⟨rb8, -, -, -⟩ := hp hRd
  clear hp
  refine hs_t 0 28 (?_) rfl (by kernel_rfl) (by kernel_rfl) (by kernel_rfl) (by rfl) ?_ hS rfl ?_
  rotate_left
  ·intro w' hw
   go_simp
   try with_reducible rfl
  simp only [nz]
  refine hs_t 1 29 (?_) rfl (by kernel_rfl) (by kernel_rfl) (by kernel_rfl) (by rfl) ?_ hS rfl ?_
  rotate_left
  ·intro w' hw
   go_simp
   try with_reducible rfl
  simp only [nz]
  refine hs_t 2 30 (.int .i64 r.s) rfl (by kernel_rfl) (by kernel_rfl) (by kernel_rfl) (by rfl) (fun w' hw => pl_one rfl rfl ((hw.cell (p := ⟨w.heap.size, 3, none⟩) hs8).trans q3) Tryz.underlying3 rfl) hS rfl ?_
  simp only [nz]
  refine hs_t 4 32 (?_) rfl (by kernel_rfl) (by kernel_rfl) (by kernel_rfl) (by rfl) ?_ hS rfl ?_
  rotate_left
  ·intro w' hw
   go_simp
   try with_reducible rfl
  simp only [nz]
  refine hs_t 5 33 (.int .i64 r.v) rfl (by kernel_rfl) (by kernel_rfl) (by kernel_rfl) (by rfl) (fun w' hw => pl_one rfl rfl ((hw.cell (p := ⟨w.heap.size, 2, none⟩) hs8).trans q2) Tryz.underlying3 rfl) hS rfl ?_
  simp only [nz]
  refine hs_t 7 35 (?_) rfl (by kernel_rfl) (by kernel_rfl) (by kernel_rfl) (by rfl) ?_ hS rfl ?_
  rotate_left
  ·intro w' hw
   go_simp
   try with_reducible rfl
  simp only [nz]
  refine hs_t 8 36 (.agg #[.bool r.q, r.rs.val]) rfl (by kernel_rfl) (by kernel_rfl) (by kernel_rfl) (by rfl) (fun w' hw => ex_mid rfl rfl (range_below rb8 hw hs8) Tryz.underlying24 rfl iszBa) hS rfl ?_
  simp only [nz]
  refine hs_call (i := 3) (d := some 31) rfl (by kernel_rfl) (by rfl) (by go_simp; first | done | exact ⟨rfl, rfl⟩ | with_reducible rfl) rfl ?_
  refine (xput_on a1 c1 L1 r.s w8 row1 (by omega) hs0).mono ?_
  rintro e9 w9 hf9
  obtain ⟨a2, c2, rfl, row2, mine2, hb9⟩ := FOn.row hf9 hL2.out (by omega)
  have hS : (Below w8.heap.size w8) w9 := hS.trans (hb9.mono hS.size)
  have hS9 := hS
  clear hf9 hb9
  refine ⟨_, rfl, hS, ?_⟩
  simp only [nz]
  refine hs_call (i := 6) (d := some 34) rfl (by kernel_rfl) (by rfl) (by go_simp; first | done | exact ⟨rfl, rfl⟩ | with_reducible rfl) rfl ?_
  refine (xput_on a2 c2 L2 r.v w9 row2 (by omega) hv0).mono ?_
  rintro e9 w10 hf9
  obtain ⟨a3, c3, rfl, row3, mine3, hb9⟩ := FOn.row hf9 hL3.out (by omega)
  have hS : (Below w8.heap.size w8) w10 := hS.trans (hb9.mono hS.size)
  have hS10 := hS
  clear hf9 hb9
  refine ⟨_, rfl, hS, ?_⟩
  simp only [nz]
  refine hs_call (i := 9) (d := some 37) rfl (by kernel_rfl) (by rfl) (by go_simp; first | done | exact ⟨rfl, rfl⟩ | with_reducible rfl) rfl ?_
  refine (cB a3 c3 L3 w10 (hB8.trans (hS.mono hB8.size)) row3 (by omega)).mono ?_
  rintro e9 w11 hf9
  obtain ⟨a4, c4, rfl, row4, mine4, hb9⟩ := FOn.row hf9 z.out (by omega)
  have hS : (Below w8.heap.size w8) w11 := hS.trans (hb9.mono hS.size)
  clear hf9 hb9
  refine ⟨_, rfl, hS, ?_⟩
  simp only [nz]
  refine hs_t 10 4 (?_) rfl (by kernel_rfl) (by kernel_rfl) (by kernel_rfl) (by rfl) ?_ hS rfl ?_
  rotate_left
  ·intro w' hw
   go_simp
   try with_reducible rfl
  simp only [nz]
  refine hs_done (by kernel_rfl) ?_
  have BB := hB8.trans (hS.mono hB8.size)
  have HMM : Mine w11 w.heap.size (.slice a4 Z.length c4) Z := ⟨owns_mono mine4.1 (Nat.le_trans hB8.size hS10.size), mine4.2⟩
  have HM : Hid (Mine w11 w.heap.size (.slice a4 Z.length c4) Z) := hide HMM
  have HB := hide (BB)
  clear row4 mine4
  go_upto_region 13 with fail
  try simp only [Act.put]
  refine pl_begin ?_
  refine pl_t 47 (?_) (by rfl) ?_ rfl ?_
  rotate_left
  ·go_simp
   try with_reducible rfl
  simp only [nz]
  refine pl_t 48 (?_) (by rfl) ?_ rfl ?_
  rotate_left
  ·go_simp
   try with_reducible rfl
  simp only [nz]
  refine pl_t 49 (.bool false) (by rfl) (by go_simp <;> (try simp) <;> (try omega)) rfl ?_
  simp only [nz]
  refine pl_nil ?_
  go_wp2_with fail
  go_ret2
  exact ⟨_, rfl, HM.out, HB.out⟩
 have n1 : (r.k == 1) = false := by simpa using hk1
 clear z1
 go_upto_region 9 with fail
 try simp only [Act.put]
 refine pl_begin ?_
 refine pl_t 27 (.bool false) (by rfl) (by go_simp <;> (try simp [*])) rfl ?_
 simp only [nz]
 refine pl_t 26 (?_) (by rfl) ?_ rfl ?_
 rotate_left
 ·go_simp
  try with_reducible rfl
 simp only [nz]
 refine pl_nil ?_
 by_cases hk3 : r.k = 3
 ·have z := z3 hk3
  go_upto_region 11 with fail
  try simp only [Act.put]
  refine pl_begin ?_
  refine pl_t 39 (.bool true) (by rfl) (by go_simp <;> (try simp [*])) rfl ?_
  simp only [nz]
  refine pl_t 38 (?_) (by rfl) ?_ rfl ?_
  rotate_left
  ·go_simp
   try with_reducible rfl
  simp only [nz]
  refine pl_nil ?_
  clear z3 z7 hL2 hL3 cT cE hL1 cB hp
  go_upto_region 12 with fail
  refine hs_begin (S := (Below w1.drew.heap.size w1.drew)) 8 rfl (by kernel_rfl) ?_
  have hB8 := hB1.drew
  have hs8 : w.heap.size < w1.drew.heap.size := hs1
  replace row1 : RowAt w1.drew a1 L1 := row1.below (Below.refl _ _).drew
  have q1 : w1.drew.cell? ⟨w.heap.size, 1, none⟩ = some (.int .i64 r.l) := q1
  have q2 : w1.drew.cell? ⟨w.heap.size, 2, none⟩ = some (.int .i64 r.v) := q2
  have q3 : w1.drew.cell? ⟨w.heap.size, 3, none⟩ = some (.int .i64 r.s) := q3
  have hRd := (World.rangeAt_drew _ _ _ _).2 hR
  obtain ⟨w8, hw8⟩ : ∃ W, w1.drew = W := ⟨_, rfl⟩
  rw [hw8] at hB8 hs8 row1 q1 q2 q3 hRd ⊢
  clear hw8 hB1 hs1 hR mine1
  have hS : (Below w8.heap.size w8) w8 := Below.refl _ _
  refine hs_t 0 40 (?_) rfl (by kernel_rfl) (by kernel_rfl) (by kernel_rfl) (by rfl) ?_ hS rfl ?_
  rotate_left
  ·intro w' hw
   go_simp
   try with_reducible rfl
  simp only [nz]
  refine hs_t 1 41 (?_) rfl (by kernel_rfl) (by kernel_rfl) (by kernel_rfl) (by rfl) ?_ hS rfl ?_
  rotate_left
  ·intro w' hw
   go_simp
   try with_reducible rfl
  simp only [nz]
  refine hs_t 2 42 (.int .i64 r.l) rfl (by kernel_rfl) (by kernel_rfl) (by kernel_rfl) (by rfl) (fun w' hw => pl_one rfl rfl ((hw.cell (p := ⟨w.heap.size, 1, none⟩) hs8).trans q1) Tryz.underlying3 rfl) hS rfl ?_
  simp only [nz]
  refine hs_t 4 44 (?_) rfl (by kernel_rfl) (by kernel_rfl) (by kernel_rfl) (by rfl) ?_ hS rfl ?_
  rotate_left
  ·intro w' hw
   go_simp
   try with_reducible rfl
  simp only [nz]
  refine hs_t 5 45 (.int .i64 r.v) rfl (by kernel_rfl) (by kernel_rfl) (by kernel_rfl) (by rfl) (fun w' hw => pl_one rfl rfl ((hw.cell (p := ⟨w.heap.size, 2, none⟩) hs8).trans q2) Tryz.underlying3 rfl) hS rfl ?_
  simp only [nz]
  refine hs_call (i := 3) (d := some 43) rfl (by kernel_rfl) (by rfl) (by go_simp; first | done | exact ⟨rfl, rfl⟩ | with_reducible rfl) rfl ?_
  refine (xput_on a1 c1 L1 r.l w8 row1 (by omega) hl0).mono ?_
  rintro e9 w9 hf9
  obtain ⟨a2, c2, rfl, row2, mine2, hb9⟩ := FOn.row hf9 hM2.out (by omega)
  have hS : (Below w8.heap.size w8) w9 := hS.trans (hb9.mono hS.size)
  have hS9 := hS
  clear hf9 hb9
  refine ⟨_, rfl, hS, ?_⟩
  simp only [nz]
  refine hs_call (i := 6) (d := some 46) rfl (by kernel_rfl) (by rfl) (by go_simp; first | done | exact ⟨rfl, rfl⟩ | with_reducible rfl) rfl ?_
  refine (xput_on a2 c2 M2 r.v w9 row2 (by omega) hv0).mono ?_
  rintro e9 w10 hf9
  obtain ⟨a3, c3, rfl, row3, mine3, hb9⟩ := FOn.row hf9 hM3.out (by omega)
  have hS : (Below w8.heap.size w8) w10 := hS.trans (hb9.mono hS.size)
  have hS10 := hS
  clear hf9 hb9
  refine ⟨_, rfl, hS, ?_⟩
  simp only [nz]
  refine hs_t 7 4 (?_) rfl (by kernel_rfl) (by kernel_rfl) (by kernel_rfl) (by rfl) ?_ hS rfl ?_
  rotate_left
  ·intro w' hw
   go_simp
   try with_reducible rfl
  simp only [nz]
  refine hs_done (by kernel_rfl) ?_
  have BB := hB8.trans (hS.mono hB8.size)
  have hzz := z.out
  subst hzz
  have HMM : Mine w10 w.heap.size (.slice a3 M3.length c3) M3 := ⟨owns_mono mine3.1 (Nat.le_trans hB8.size hS9.size), mine3.2⟩
  have HM : Hid (Mine w10 w.heap.size (.slice a3 M3.length c3) M3) := hide HMM
  have HB := hide (BB)
  clear row3 mine3
  go_upto_region 13 with fail
  try simp only [Act.put]
  refine pl_begin ?_
  refine pl_t 47 (?_) (by rfl) ?_ rfl ?_
  rotate_left
  ·go_simp
   try with_reducible rfl
  simp only [nz]
  refine pl_t 48 (?_) (by rfl) ?_ rfl ?_
  rotate_left
  ·go_simp
   try with_reducible rfl
  simp only [nz]
  refine pl_t 49 (.bool false) (by rfl) (by go_simp <;> (try simp) <;> (try omega)) rfl ?_
  simp only [nz]
  refine pl_nil ?_
  go_wp2_with fail
  go_ret2
  exact ⟨_, rfl, HM.out, HB.out⟩
 have n3 : (r.k == 3) = false := by simpa using hk3
 have z := z7 hk1 hk3
 clear z3 z7 hL2 hL3 hM2 hM3 cB hp
 go_upto_region 11 with fail
 try simp only [Act.put]
 refine pl_begin ?_
 refine pl_t 39 (.bool false) (by rfl) (by go_simp <;> (try simp [*])) rfl ?_
 simp only [nz]
 refine pl_t 38 (?_) (by rfl) ?_ rfl ?_
 rotate_left
 ·go_simp
  try with_reducible rfl
 simp only [nz]
 refine pl_nil ?_
 go_upto_region 5 with fail
 try simp only [Act.put]
 refine pl_begin ?_
 refine pl_t 16 (.agg r.cells.toArray) (by rfl) (ex_mid rfl rfl hR Tryz.underlying33 rfl ic) rfl ?_
 simp only [nz]
 refine pl_call (d := some 17) (by rfl) (by go_simp; first | done | exact ⟨rfl, rfl⟩ | with_reducible rfl) rfl ?_
 refine (cT w1).mono ?_
 rintro _ w2 ⟨rfl, hb2⟩
 refine ⟨_, rfl, ?_⟩
 simp only [nz]
 refine pl_call (d := some 18) (by rfl) (by go_simp; first | done | exact ⟨rfl, rfl⟩ | with_reducible rfl) rfl ?_
 refine (cE w2 (hB1.trans (hb2.mono hB1.size))).mono ?_
 rintro _ w3 ⟨rfl, hb3⟩
 refine ⟨_, rfl, ?_⟩
 simp only [nz]
 refine pl_t 15 (?_) (by rfl) ?_ rfl ?_
 rotate_left
 ·go_simp
  try with_reducible rfl
 simp only [nz]
 refine pl_t 19 (?_) (by rfl) ?_ rfl ?_
 rotate_left
 ·go_simp
  try with_reducible rfl
 simp only [nz]
 refine pl_t 20 (?_) (by rfl) ?_ rfl ?_
 rotate_left
 ·go_simp
  try with_reducible rfl
 simp only [nz]
 refine pl_t 5 (?_) (by rfl) ?_ rfl ?_
 rotate_left
 ·go_simp
  try with_reducible rfl
 simp only [nz]
 refine pl_t 6 (?_) (by rfl) ?_ rfl ?_
 rotate_left
 ·go_simp
  try with_reducible rfl
 simp only [nz]
 refine pl_nil ?_
 have B3 := (hB1.trans (hb2.mono hB1.size)).trans (hb3.mono (Nat.le_trans hB1.size hb2.size))
 have row3 := (row1.below hb2).below hb3
 clear mine1 row1
 go_upto_region 6 with fail
 try simp only [Act.put]
 refine pl_begin ?_
 refine pl_t 21 (?_) (by rfl) ?_ rfl ?_
 rotate_left
 ·go_simp
  try with_reducible rfl
 simp only [nz]
 refine pl_t 22 (.bool false) (by rfl) (by go_simp) rfl ?_
 simp only [nz]
 refine pl_nil ?_
 go_upto_region 8 with fail
 try simp only [Act.put]
 refine pl_begin ?_
 refine pl_t 23 (?_) (by rfl) ?_ rfl ?_
 rotate_left
 ·go_simp
  try with_reducible rfl
 simp only [nz]
 refine pl_t 24 (?_) (by rfl) ?_ rfl ?_
 rotate_left
 ·go_simp
  try with_reducible rfl
 simp only [nz]
 refine pl_call (d := some 25) (by rfl) (by go_simp; first | done | exact ⟨rfl, rfl⟩ | with_reducible rfl) rfl ?_
 refine (xtext_on a1 c1 L1 tb w3 row3 (by omega) (by omega)).mono ?_
 rintro e9 w4 hf9
 obtain ⟨a4, c4, rfl, row4, mine4, hb9⟩ := FOn.row hf9 z.out (by omega)
 have hN4 : Below w.heap.size w w4 := B3.trans (hb9.mono B3.size)
 clear hf9
 refine ⟨_, rfl, ?_⟩
 simp only [nz]
 refine pl_t 4 (?_) (by rfl) ?_ rfl ?_
 rotate_left
 ·go_simp
  try with_reducible rfl
 simp only [nz]
 refine pl_nil ?_
 have HMM : Mine w4 w.heap.size (.slice a4 Z.length c4) Z := ⟨owns_mono mine4.1 B3.size, mine4.2⟩
 have HM : Hid (Mine w4 w.heap.size (.slice a4 Z.length c4) Z) := hide HMM
 have HB := hide (hN4)
 clear row4 mine4
 go_upto_region 13 with fail
 try simp only [Act.put]
 refine pl_begin ?_
 refine pl_t 47 (?_) (by rfl) ?_ rfl ?_
 rotate_left
 ·go_simp
  try with_reducible rfl
 simp only [nz]
 refine pl_t 48 (?_) (by rfl) ?_ rfl ?_
 rotate_left
 ·go_simp
  try with_reducible rfl
 simp only [nz]
 refine pl_t 49 (.bool false) (by rfl) (by go_simp <;> (try simp) <;> (try omega)) rfl ?_
 simp only [nz]
 refine pl_nil ?_
 go_wp2_with fail
 go_ret2
 exact ⟨_, rfl, HM.out, HB.out⟩
def Rp.zero (k : Int) : Rp := ⟨k, 0, 0, 0, false, [], Vt.zero, [], ⟨#[]⟩, []⟩
def krA (s : Xst) : (Rp × ByteArray) × Xst := (({ Rp.zero 1 with s := (xnuS 1099511627776 s).1, v := (xnuS 1099511627776 (xnuS 1099511627776 s).2).1, q := (xbaS (xnuS 1099511627776 (xnuS 1099511627776 s).2).2).1.1, rs := (xbaS (xnuS 1099511627776 (xnuS 1099511627776 s).2).2).1.2 }, ⟨#[]⟩), (xbaS (xnuS 1099511627776 (xnuS 1099511627776 s).2).2).2)
def krV (s : Xst) : (Rp × ByteArray) × Xst := (({ Rp.zero 3 with l := (xnuS 64 s).1, v := (xnuS 1099511627776 (xnuS 64 s).2).1 }, ⟨#[]⟩), (xnuS 1099511627776 (xnuS 64 s).2).2)
def krT (k : Int) (s : Xst) : (Rp × ByteArray) × Xst := ((Rp.zero k, (xtxS 4194304 s).1), (xtxS 4194304 s).2)
def krS (s : Xst) : (Rp × ByteArray) × Xst :=
  if (xnuS 5 s).1 = 1 then krA (xnuS 5 s).2
  else if (xnuS 5 s).1 = 3 then krV (xnuS 5 s).2
  else if (xnuS 5 s).1 = 2 ∨ (xnuS 5 s).1 = 4 ∨ (xnuS 5 s).1 = 5 then krT (xnuS 5 s).1 (xnuS 5 s).2
  else ((Rp.zero (xnuS 5 s).1, ⟨#[]⟩), (xnuS 5 s).2)
theorem pnumS (R : Nat) (most : Int) (s : Xst) (w : World) (h : St w R s.1 s.2) : Calls Tryz.prog 72 #[.pointer (some ⟨R, 0, none⟩), .int .i64 most] w fun en w' => en = .returned (.int .i64 (xnuS most s).1) ∧ St w' R (xnuS most s).2.1 (xnuS most s).2.2 ∧ w.grownBy w' (some R) := num_any R s.1 s.2 most w h
structure KR (w : World) (R X : Nat) (c : Rc) (s : Xst) (W : World) : Prop where
  own : W.rangeAt X 0 c.cells
  thX : W.there X 0 45
  st : St W R s.1 s.2
  gb : w.grownBy W (some R)
  lx : X < W.heap.size
  xw : w.heap.size ≤ X
  rx : R < w.heap.size
  ok : c.ct.ok
theorem KR.on {w W W' : World} {R X : Nat} {c : Rc} {s : Xst} (h : KR w R X c s W) (s' : Xst) (hs : St W' R s'.1 s'.2) (hg : W.grownBy W' (some R)) : KR w R X c s' W' := by
 have h1 := h.xw
 have h2 := h.rx
 have hb := hg.block X h.lx (by intro q; injection q with q; omega)
 exact ⟨range_blk h.own hb, there_blk h.thX hb, hs, gb_trans h.gb hg, Nat.lt_of_lt_of_le h.lx hg.size, h1, h2, h.ok⟩
theorem KR.put {w W : World} {R X : Nat} {c c' : Rc} {s : Xst} (h : KR w R X c s W) (hc : c'.ct.ok) (pre mid vs post : List Value) (e1 : c.cells = pre ++ (mid ++ post)) (e2 : c'.cells = pre ++ (vs ++ post)) (o : Nat) (ho : pre.length = o) (hl : vs.length = mid.length) (hn : o + vs.length ≤ 45) : KR w R X c' s (W.setCells X o vs) := by
 have h1 := h.xw
 have h2 := h.rx
 have hb : Below w.heap.size W (W.setCells X o vs) := below_sets h1 vs o _ (Below.refl _ _)
 exact ⟨by rw [e2]; exact range_put (by rw [← e1]; exact h.own) o ho (there_part1 h.thX hn) hl, World.there_setCells h.thX X o vs, h.st.belowN hb h2, ⟨hb.os.trans h.gb.os, hb.tape.trans h.gb.tape, hb.output.trans h.gb.output, Nat.le_trans h.gb.size hb.size, fun i hi hne => (hb.block i hi).trans (h.gb.block i hi hne)⟩, by rw [size_sets]; exact h.lx, h1, h2, hc⟩
theorem KR.k {w W : World} {R X : Nat} {c : Rc} {s : Xst} (h : KR w R X c s W) (x : Int) : KR w R X { c with k := x } s (W.setCells X 0 [.int .i64 x]) :=
 h.put (c' := { c with k := x }) h.ok [] [.int .i64 c.k] [.int .i64 x] _ rfl rfl 0 rfl rfl (by simp)
theorem KR.l {w W : World} {R X : Nat} {c : Rc} {s : Xst} (h : KR w R X c s W) (x : Int) : KR w R X { c with l := x } s (W.setCells X 1 [.int .i64 x]) :=
 h.put (c' := { c with l := x }) h.ok [.int .i64 c.k] [.int .i64 c.l] [.int .i64 x] _ rfl rfl 1 rfl rfl (by simp)
theorem KR.v {w W : World} {R X : Nat} {c : Rc} {s : Xst} (h : KR w R X c s W) (x : Int) : KR w R X { c with v := x } s (W.setCells X 2 [.int .i64 x]) :=
 h.put (c' := { c with v := x }) h.ok [.int .i64 c.k, .int .i64 c.l] [.int .i64 c.v] [.int .i64 x] _ rfl rfl 2 rfl rfl (by simp)
theorem KR.s {w W : World} {R X : Nat} {c : Rc} {s : Xst} (h : KR w R X c s W) (x : Int) : KR w R X { c with s := x } s (W.setCells X 3 [.int .i64 x]) :=
 h.put (c' := { c with s := x }) h.ok [.int .i64 c.k, .int .i64 c.l, .int .i64 c.v] [.int .i64 c.s] [.int .i64 x] _ rfl rfl 3 rfl rfl (by simp)
theorem KR.b {w W : World} {R X : Nat} {c : Rc} {s : Xst} (h : KR w R X c s W) (q : Bool) (x : Sl Rq) : KR w R X { c with q := q, rs := x } s (W.setCells X 4 [.bool q, x.val]) :=
 h.put (c' := { c with q := q, rs := x }) h.ok [.int .i64 c.k, .int .i64 c.l, .int .i64 c.v, .int .i64 c.s] [.bool c.q, c.rs.val] [.bool q, x.val] _ rfl rfl 4 rfl rfl (by simp)
def ReadK (w : World) (R : Nat) (p : (Rp × ByteArray) × Xst) (en : Ending) (w' : World) : Prop := ∃ c : Rc, en = .returned (.tuple #[.agg c.cells.toArray, .string p.1.2]) ∧ c.pure = p.1.1 ∧ c.ct.ok ∧ c.rs.At RqE w' ∧ c.cs = ⟨none, 0, []⟩ ∧ c.sg = ⟨none, 0, []⟩ ∧ c.rs.Bk (fun b => w.heap.size ≤ b) ∧ St w' R p.2.1 p.2.2 ∧ w.grownBy w' (some R)
theorem xnuS_len (most : Int) (s : Xst) : (xnuS most s).2.1.length ≤ s.1.length := numS_len _ _ _
def ofT (k : Int) (zs : List Int) : Rp × Int := if (decS zs).2 = 0 ∧ (decS zs).1.k = mkK k then (⟨k, 0, 0, 0, (decS zs).1.q, (decS zs).1.rs, (decS zs).1.ct, (decS zs).1.cs, (decS zs).1.st, (decS zs).1.sg⟩, 0) else (Rp.zero 0, 240)
def kdec (zs : List Int) : Rp × Int := if doneE (krS (zs, 0)).2.1 (krS (zs, 0)).2.2 ≠ 0 then (Rp.zero 0, doneE (krS (zs, 0)).2.1 (krS (zs, 0)).2.2) else if (krS (zs, 0)).1.1.k = 1 ∨ (krS (zs, 0)).1.1.k = 3 then ((krS (zs, 0)).1.1, 0) else ofT (krS (zs, 0)).1.1.k (strL (krS (zs, 0)).1.2)
def Rc.Bk (c : Rc) (P : Nat → Prop) : Prop := c.rs.Bk P ∧ c.cs.Bk P ∧ c.sg.Bk P
def DecK (w : World) (p : Rp × Int) (en : Ending) (w' : World) : Prop := ∃ c : Rc, en = .returned (.tuple #[.agg c.cells.toArray, .int .i64 p.2]) ∧ c.pure = p.1 ∧ c.ct.ok ∧ c.At w' ∧ c.Bk (fun b => w.heap.size ≤ b) ∧ Below w.heap.size w w'
theorem nil_bk {α : Type} {P : Nat → Prop} : (⟨none, 0, []⟩ : Sl α).Bk P := fun b h1 _ => absurd rfl h1
theorem Rc.At.put {c : Rc} {W : World} {B o : Nat} {vs : List Value} {P : Nat → Prop} (h : c.At W) (hb : c.Bk P) (hp : ∀ b, P b → b ≠ B) : c.At (W.setCells B o vs) := ⟨h.rs.put hb.1 hp, h.cs.put hb.2.1 hp, h.sg.put hb.2.2 hp⟩
theorem Rc.Bk.mono {c : Rc} {P P' : Nat → Prop} (h : c.Bk P) (hp : ∀ b, P b → P' b) : c.Bk P' := ⟨h.1.mono hp, h.2.1.mono hp, h.2.2.mono hp⟩
theorem build_rn (w : World) : (Instr.build 33 #[]).run Tryz.prog w = .ok (.agg (Rc.zero 0).cells.toArray) w := build_rec #[] _ w rfl
theorem deck_out {w W : World} {A : Nat} {c : Rc} {n : Int} {p : Rp × Int} {qc : List Value} (hq : c.cells = qc) (hA : A = w.heap.size) (hB : Below w.heap.size w W) (hn : n = p.2) (hp : c.pure = p.1) (ho : c.ct.ok) (ha : c.At W) (hb : c.Bk (fun b => w.heap.size < b)) : DecK w p (.returned (.tuple #[.agg qc.toArray, .int .i64 n])) (W.setCells A 0 qc) := by
 subst hq hn hA
 exact ⟨c, rfl, hp, ho, ha.put hb (fun b h => by omega), hb.mono (fun b h => by omega), below_sets (Nat.le_refl _) _ _ _ hB⟩
structure KX (D : Nat) (w : World) (R X : Nat) (c : Rc) (s : Xst) (W : World) : Prop where
  own : W.rangeAt X 0 c.cells
  thX : W.there X 0 45
  st : XR W D R s
  gb : w.grownBy W (some R)
  lx : X < W.heap.size
  xw : w.heap.size ≤ X
  rx : R < w.heap.size
  ok : c.ct.ok
theorem KX.on {w W W' : World} {D R X : Nat} {c : Rc} {s : Xst} (h : KX D w R X c s W) (s' : Xst) (hs : XR W' D R s') (hg : W.grownBy W' (some R)) : KX D w R X c s' W' := by
 have h1 := h.xw
 have h2 := h.rx
 have hb := hg.block X h.lx (by intro q; injection q with q; omega)
 exact ⟨range_blk h.own hb, there_blk h.thX hb, hs, gb_trans h.gb hg, Nat.lt_of_lt_of_le h.lx hg.size, h1, h2, h.ok⟩
theorem KX.put {w W : World} {D R X : Nat} {c c' : Rc} {s : Xst} (h : KX D w R X c s W) (hc : c'.ct.ok) (pre mid vs post : List Value) (e1 : c.cells = pre ++ (mid ++ post)) (e2 : c'.cells = pre ++ (vs ++ post)) (o : Nat) (ho : pre.length = o) (hl : vs.length = mid.length) (hn : o + vs.length ≤ 45) : KX D w R X c' s (W.setCells X o vs) := by
 have h1 := h.xw
 have h2 := h.rx
 have hb : Below w.heap.size W (W.setCells X o vs) := below_sets h1 vs o _ (Below.refl _ _)
 exact ⟨by rw [e2]; exact range_put (by rw [← e1]; exact h.own) o ho (there_part1 h.thX hn) hl, World.there_setCells h.thX X o vs, h.st.low hb h2, ⟨hb.os.trans h.gb.os, hb.tape.trans h.gb.tape, hb.output.trans h.gb.output, Nat.le_trans h.gb.size hb.size, fun i hi hne => (hb.block i hi).trans (h.gb.block i hi hne)⟩, by rw [size_sets]; exact h.lx, h1, h2, hc⟩
theorem KX.k {w W : World} {D R X : Nat} {c : Rc} {s : Xst} (h : KX D w R X c s W) (x : Int) : KX D w R X { c with k := x } s (W.setCells X 0 [.int .i64 x]) :=
 h.put (c' := { c with k := x }) h.ok [] [.int .i64 c.k] [.int .i64 x] _ rfl rfl 0 rfl rfl (by simp)
theorem KX.l {w W : World} {D R X : Nat} {c : Rc} {s : Xst} (h : KX D w R X c s W) (x : Int) : KX D w R X { c with l := x } s (W.setCells X 1 [.int .i64 x]) :=
 h.put (c' := { c with l := x }) h.ok [.int .i64 c.k] [.int .i64 c.l] [.int .i64 x] _ rfl rfl 1 rfl rfl (by simp)
theorem KX.v {w W : World} {D R X : Nat} {c : Rc} {s : Xst} (h : KX D w R X c s W) (x : Int) : KX D w R X { c with v := x } s (W.setCells X 2 [.int .i64 x]) :=
 h.put (c' := { c with v := x }) h.ok [.int .i64 c.k, .int .i64 c.l] [.int .i64 c.v] [.int .i64 x] _ rfl rfl 2 rfl rfl (by simp)
theorem KX.s {w W : World} {D R X : Nat} {c : Rc} {s : Xst} (h : KX D w R X c s W) (x : Int) : KX D w R X { c with s := x } s (W.setCells X 3 [.int .i64 x]) :=
 h.put (c' := { c with s := x }) h.ok [.int .i64 c.k, .int .i64 c.l, .int .i64 c.v] [.int .i64 c.s] [.int .i64 x] _ rfl rfl 3 rfl rfl (by simp)
theorem KX.b {w W : World} {D R X : Nat} {c : Rc} {s : Xst} (h : KX D w R X c s W) (q : Bool) (x : Sl Rq) : KX D w R X { c with q := q, rs := x } s (W.setCells X 4 [.bool q, x.val]) :=
 h.put (c' := { c with q := q, rs := x }) h.ok [.int .i64 c.k, .int .i64 c.l, .int .i64 c.v, .int .i64 c.s] [.bool c.q, c.rs.val] [.bool q, x.val] _ rfl rfl 4 rfl rfl (by simp)
theorem KX.c {D : Nat} {w W : World} {R X : Nat} {c : Rc} {s : Xst} (h : KX D w R X c s W) (y : Vt) (hy : y.ok) (x : Sl Sg) : KX D w R X { c with ct := y, cs := x } s (W.setCells X 6 (certL y x)) :=
 h.put (c' := { c with ct := y, cs := x }) hy [.int .i64 c.k, .int .i64 c.l, .int .i64 c.v, .int .i64 c.s, .bool c.q, c.rs.val] (certL c.ct c.cs) (certL y x) _ rfl rfl 6 rfl (by rw [cert_len h.ok, cert_len hy]) (by rw [cert_len hy]; decide)
theorem KX.t {D : Nat} {w W : World} {R X : Nat} {c : Rc} {s : Xst} (h : KX D w R X c s W) (x : ByteArray) : KX D w R X { c with st := x } s (W.setCells X 43 [.string x]) :=
 h.put (c' := { c with st := x }) h.ok ([.int .i64 c.k, .int .i64 c.l, .int .i64 c.v, .int .i64 c.s, .bool c.q, c.rs.val] ++ certL c.ct c.cs) [.string c.st] [.string x] [c.sg.val] (by simp [Rc.cells]) (by simp [Rc.cells]) 43 (by rw [List.length_append, cert_len h.ok]; rfl) rfl (by simp)
theorem KX.g {D : Nat} {w W : World} {R X : Nat} {c : Rc} {s : Xst} (h : KX D w R X c s W) (x : Sl Sg) : KX D w R X { c with sg := x } s (W.setCells X 44 [x.val]) :=
 h.put (c' := { c with sg := x }) h.ok ([.int .i64 c.k, .int .i64 c.l, .int .i64 c.v, .int .i64 c.s, .bool c.q, c.rs.val] ++ (certL c.ct c.cs ++ [.string c.st])) [c.sg.val] [x.val] [] (by simp [Rc.cells]) (by simp [Rc.cells]) 44 (by simp [cert_len h.ok]) rfl (by simp)
theorem KX.below {D : Nat} {w W W' : World} {R X : Nat} {c : Rc} {s : Xst} (h : KX D w R X c s W) (hb : Below W.heap.size W W') : KX D w R X c s W' :=
 ⟨range_below h.own hb h.lx, there_below h.thX hb h.lx, h.st.below hb, gb_trans h.gb ⟨hb.os, hb.tape, hb.output, hb.size, fun i hi _ => hb.block i hi⟩, Nat.lt_of_lt_of_le h.lx hb.size, h.xw, h.rx, h.ok⟩
def kfin (p : (Rp × ByteArray) × Xst) : Rp × Int := if doneE p.2.1 p.2.2 ≠ 0 then (Rp.zero 0, doneE p.2.1 p.2.2) else if p.1.1.k = 1 ∨ p.1.1.k = 3 then (p.1.1, 0) else ofT p.1.1.k (strL p.1.2)
theorem run_bs2 {P : Program} (t e : TypeId) (i : TypeInfo) (z : Value) (u v : List Value) (ht : P.underlying t = some (.slice e)) (hi : P.info? e = some i) (hz : i.zero = some z) (hs : i.size = u.length) (hv : v.length = u.length) (h0 : 0 < u.length) (hm : u.length ≤ 1000) (w : World) :
  (Instr.buildSlice t 2 #[(0, .agg u.toArray), (1, .agg v.toArray)]).run P w = .ok (.slice (some ⟨w.heap.size, 0, none⟩) 2 2) (w.alloc (.cells (u ++ v).toArray e)) := by
 have h1 : ¬ 2 ^ 24 < 2 * u.length := by omega
 have f1 : ∀ arr : Array Value, arr.size = 2 * u.length → List.foldl (fun (cs : Array Value) (x : Value × Nat) => cs.setIfInBounds x.snd x.fst) arr u.zipIdx = (u ++ arr.toList.drop u.length).toArray := fun arr h => by
  have := fold_at 0 u 0 arr (by omega)
  simpa using this
 have f2 : ∀ arr : Array Value, arr.size = 2 * u.length → List.foldl (fun (cs : Array Value) (x : Value × Nat) => cs.setIfInBounds (u.length + x.snd) x.fst) (u ++ arr.toList.drop u.length).toArray v.zipIdx = (u ++ v).toArray := fun arr h => by
  have hl : (u ++ arr.toList.drop u.length).length = 2 * u.length := by simp [h]; omega
  have := fold_at u.length v 0 (u ++ arr.toList.drop u.length).toArray (by simp only [List.size_toArray, hl]; omega)
  rw [this]
  congr 1
  simp only [Nat.add_zero, List.take_left]
  rw [List.drop_of_length_le (by rw [hl]; omega), List.append_nil]
 unfold Instr.buildSlice
 simp [run_underlying ht, sizeOf, zeroValue, typeInfo, hi, hz, hs, h1, Instr.fill, Value.cells, newRow]
 rw [if_neg (by omega), if_neg (by omega)]
 rw [f1 _ (by simp), f2 _ (by simp)]
 rw [if_neg (by simp [hv]; omega)]
 simp
def wtE (xs : List Ev) : Nat := (xs.map fun g => g.s.size).sum
def Mg.light (m : Mg) : Prop := m.st.size ≤ 6000 ∧ m.cs.xs.length ≤ 100 ∧ wtE m.ne.xs ≤ 6000
theorem flat_bound {α : Type} {f : α → List Int} {K : Nat} : ∀ (xs : List α), (∀ x ∈ xs, (f x).length ≤ K) → (xs.flatMap f).length ≤ xs.length * K
 | [], _ => by simp
 | x :: xs, h => by
  have h1 := h x (by simp)
  have h2 := flat_bound xs (fun y hy => h y (by simp [hy]))
  simp only [List.flatMap_cons, List.length_append, List.length_cons, Nat.add_mul, Nat.one_mul]
  omega
theorem inB_le {n m : Int} (h : inB n m = true) : 0 ≤ n ∧ n ≤ m := by
 unfold inB at h
 exact of_decide_eq_true h
theorem batMay_le {q : Bool} {x : Sl Rq} (h : batMay q x = true) : x.xs.length ≤ 4 ∧ ∀ r ∈ x.xs, r.s.size ≤ 64 := by
 unfold batMay at h
 split at h
 ·have := of_decide_eq_true h
  have e : x.xs = [] := List.eq_nil_of_length_eq_zero this
  rw [e]
  simp
 ·unfold mayL at h
  rw [Bool.and_eq_true] at h
  have h1 := of_decide_eq_true h.1
  refine ⟨by omega, fun r hr => ?_⟩
  have h2 := List.all_eq_true.1 h.2 r hr
  unfold Rq.may at h2
  rw [Bool.and_eq_true, Bool.and_eq_true] at h2
  have := of_decide_eq_true h2.2.2
  omega
theorem req_le {r : Rq} (h : r.ok) (hs : r.s.size ≤ 64) : (BRq.of r).bytes.length ≤ 120 := by
 have h1 := putL_le r.c h.ch
 have h2 := putL_le r.n h.nh
 have h3 := putL_le (r.s.size : Int) (by omega)
 have h4 := h.tl
 simp only [BRq.of, BRq.bytes, textL, List.length_append, strL_length]
 omega
theorem bat_le {q : Bool} {x : Sl Rq} {w : World} (hx : x.At RqE w) (hm : batMay q x = true) : (batL q (x.xs.map BRq.of)).length ≤ 500 := by
 obtain ⟨h1, h2⟩ := batMay_le hm
 unfold batL
 split
 ·have := putL_le 0 (by omega); omega
 ·have k := flat_bound (f := BRq.bytes) (K := 120) (x.xs.map BRq.of) (fun y hy => by
   obtain ⟨r, hr, rfl⟩ := List.mem_map.1 hy
   exact req_le (hx.2.1 r hr) (h2 r hr))
  rw [List.length_map] at k
  have p := putL_le (((x.xs.map BRq.of).length : Int) + 1) (by rw [List.length_map]; omega)
  rw [List.length_append]
  omega
theorem sgs_le {xs : List Sg} (h : ∀ g ∈ xs, g.ok) (hn : xs.length ≤ 100) : (sgsL xs).length ≤ 2600 := by
 have k := flat_bound (f := sgL) (K := 25) xs (fun g hg => by
  have h1 := putL_le g.n (h g hg).nh
  have h2 := (h g hg).tl
  unfold sgL
  rw [List.length_append]
  omega)
 have p := putL_le (xs.length : Int) (by omega)
 unfold sgsL
 rw [List.length_append]
 omega
theorem vt_le {x : Vt} (h : x.ok) : (vtL x).length ≤ 68 := by
 have h1 := putL_le x.k h.k
 have h2 := putL_le x.e h.e
 have h3 := putL_le x.v h.v
 have h4 := putL_le x.s h.s
 have h5 := h.dl
 simp only [vtL, List.flatMap_cons, List.flatMap_nil, List.append_nil, List.length_append]
 omega
theorem ct_le {x : Vt} {xs : List Sg} (hx : x.ok) (h : ∀ g ∈ xs, g.ok) (hn : xs.length ≤ 100) : (ctL x xs).length ≤ 2700 := by
 have h1 := vt_le hx
 have h2 := sgs_le h hn
 unfold ctL
 rw [List.length_append]
 omega
theorem sgsMay_le {x : Sl Sg} (h : sgsMay x = true) : x.xs.length ≤ 64 := by
 unfold sgsMay mayL at h
 rw [Bool.and_eq_true] at h
 have := of_decide_eq_true h.1
 omega
theorem hd_le {g : Hd} {w : World} (ho : g.vt.ok) (ha : g.At w) (hm : g.may = true) : (hdL g).length ≤ 3200 ∧ g.sg.xs.length ≤ 64 ∧ g.rs.xs.length ≤ 4 ∧ ∀ r ∈ g.rs.xs, r.s.size ≤ 64 := by
 unfold Hd.may certMay at hm
 rw [Bool.and_eq_true, Bool.and_eq_true] at hm
 obtain ⟨h1, _, h3⟩ := hm
 have hs := sgsMay_le h3
 have k1 := bat_le ha.1 h1
 have k2 := ct_le ho (ha.2.2.1) (by omega : g.sg.xs.length ≤ 100)
 obtain ⟨b1, b2⟩ := batMay_le h1
 refine ⟨?_, hs, b1, b2⟩
 unfold hdL
 rw [List.length_append]
 omega
theorem evs_le : ∀ (xs : List Ev), (∀ g ∈ xs, g.ok) → (∀ g ∈ xs, g.s.size ≤ 6000) → (xs.flatMap evL).length ≤ xs.length * 34 + wtE xs
 | [], _, _ => by simp
 | x :: xs, h, hs => by
  have h2 := evs_le xs (fun y hy => h y (by simp [hy])) (fun y hy => hs y (by simp [hy]))
  have h0 := h x (by simp)
  have h1 := putL_le x.n h0.nh
  have h4 := hs x (by simp)
  have h3 := putL_le (x.s.size : Int) (by omega)
  have h5 := h0.tl
  have hw : wtE (x :: xs) = x.s.size + wtE xs := by simp [wtE]
  rw [hw]
  simp only [List.flatMap_cons, List.length_append, List.length_cons, Nat.add_mul, Nat.one_mul, evL, textL, strL_length]
  omega
theorem wtE_mem : ∀ {xs : List Ev} {g : Ev}, g ∈ xs → g.s.size ≤ wtE xs
 | x :: xs, g, h => by
  have hw : wtE (x :: xs) = x.s.size + wtE xs := by simp [wtE]
  rcases List.mem_cons.1 h with rfl | h
  ·omega
  ·have := wtE_mem h; omega
theorem fine_of {m : Mg} {w : World} (om : m.ok) (am : m.At w) (hg : m.good = true) (hl : m.light) : m.Fine := by
 obtain ⟨h1, h8⟩ := Mg.good_k hg
 obtain ⟨l1, l2, l3⟩ := hl
 unfold Mg.good at hg
 rw [Bool.and_eq_true, Bool.and_eq_true] at hg
 have hm := hg.2.2
 clear hg
 unfold Mg.may Mg.mayL chgMay at hm
 simp only [Bool.and_eq_true] at hm
 obtain ⟨⟨a1, a2⟩, ⟨a3, a4⟩, a5, a6, a7, ⟨⟨c1, c2, c3⟩, c4⟩, a9, a10, a11⟩ := hm
 have e1 := inB_le a1
 have e2 := inB_le a2
 have e3 := inB_le a3
 have e4 := inB_le a4
 have e5 := inB_le c1
 have e6 := inB_le c2
 have e7 := inB_le c3
 clear a1 a2 a3 a4 a5 a6 c1 c2 c3
 obtain ⟨b1, b2⟩ := batMay_le a7
 have b3 := bat_le am.rs a7
 have s1 := sgsMay_le a11
 have s2 := sgs_le am.sg.2.1 (by omega : m.sg.xs.length ≤ 100)
 have s3 := ct_le om.ct am.cs.2.1 l2
 unfold mayL at c4 a9
 rw [Bool.and_eq_true] at c4 a9
 have d1 := of_decide_eq_true c4.1
 have d2 := of_decide_eq_true a9.1
 have hh := fun g (hgm : g ∈ m.he.xs) => hd_le (am.he.1.2.1 g hgm) (am.he.2 g hgm) (List.all_eq_true.1 c4.2 g hgm)
 have f1 := flat_bound (f := hdL) (K := 3200) m.he.xs (fun g hgm => (hh g hgm).1)
 have hs := fun g (hgm : g ∈ m.ne.xs) => Nat.le_trans (wtE_mem hgm) l3
 have f2 := evs_le m.ne.xs am.ne.2.1 hs
 have f3 := vt_le om.vt
 have p (n : Int) (hn : n ≤ 9223372036854775807) := putL_le n hn
 have pk := p m.k (by omega)
 have pe := p m.e (by omega)
 have ps := p m.s (by omega)
 have pl := p m.l (by omega)
 have pv := p m.v (by omega)
 have pc := p m.ce (by omega)
 have pd := p m.cl (by omega)
 have pf := p m.cv (by omega)
 have ph := p (m.he.xs.length : Int) (by omega)
 have pn := p (m.ne.xs.length : Int) (by omega)
 have pt := p (m.st.size : Int) (by omega)
 have dl := om.dl
 refine ⟨by omega, by omega, by omega, by omega, by omega, by omega, by omega, by omega, fun r hr => by have := b2 r hr; omega, by omega, fun g hgm => ?_, by omega, fun g hgm => by have := hs g hgm; omega, by omega, by omega, by omega, ?_⟩
 ·obtain ⟨_, q1, q2, q3⟩ := hh g hgm
  exact ⟨by omega, by omega, fun r hr => by have := q3 r hr; omega⟩
 ·unfold Mg.bytes
  rw [List.length_append]
  have hk : m.body.length ≤ 39000 := by
   unfold Mg.body
   split
   ·simp only [List.flatMap_cons, List.flatMap_nil, List.append_nil, List.length_append]; omega
   split
   ·omega
   split
   ·simp only [hdsL, List.flatMap_cons, List.flatMap_nil, List.append_nil, List.length_append]; omega
   split
   ·simp only [evsL, List.flatMap_cons, List.flatMap_nil, List.append_nil, List.length_append]; omega
   split
   ·simp only [List.length_append]; omega
   split
   ·simp only [List.flatMap_cons, List.flatMap_nil, List.append_nil, List.length_append]; omega
   split
   ·simp only [List.length_append]; omega
   ·simp only [textL, strL_length, List.length_append]; omega
  omega
def addTo4 (n m : Int) : Int := if n + m ≤ 4000 then n + m else 4001
set_option maxRecDepth 100000 in
set_option maxHeartbeats 400000 in
theorem add4000_any (n m : Int) (w : World) (h0 : 0 ≤ n) (h1 : n ≤ 4001) (h2 : 0 ≤ m) (h3 : m ≤ 9223372036854775807) :
  Calls Tryz.prog 46 #[.int .i64 n, .int .i64 m, .int .i64 4000] w fun e w' => e = .returned (.int .i64 (addTo4 n m)) ∧ w' = w := by
 by_cases c1 : 4000 < n
 ·have HA : Hid (addTo4 n m = 4001) := by show _ = _; unfold addTo4; rw [if_neg (by omega)]
  rw [HA.out]
  go_enter Tryz.func46, Tryz.ntmps46
  go_wp2
  go_ret
  exact ⟨rfl, rfl⟩
 ·by_cases c2 : 4000 < m
  ·have HA : Hid (addTo4 n m = 4001) := by show _ = _; unfold addTo4; rw [if_neg (by omega)]
   rw [HA.out]
   go_enter Tryz.func46, Tryz.ntmps46
   go_wp2
   go_ret
   exact ⟨rfl, rfl⟩
  ·by_cases c3 : 4000 - m < n
   ·have HA : Hid (addTo4 n m = 4001) := by show _ = _; unfold addTo4; rw [if_neg (by omega)]
    rw [HA.out]
    go_enter Tryz.func46, Tryz.ntmps46
    go_wp2
    go_ret
    exact ⟨rfl, rfl⟩
   ·have HA : Hid (addTo4 n m = n + m) := by show _ = _; unfold addTo4; rw [if_pos (by omega)]
    rw [HA.out]
    go_enter Tryz.func46, Tryz.ntmps46
    go_wp2
    go_ret
    exact ⟨rfl, rfl⟩
def wtR (rs : List BRq) : Nat := (rs.map fun r => 20 + r.s.size).sum
def wt (xs : List Bat) : Nat := (xs.map fun x => 5 + wtR x.rs).sum
theorem wtR_take (rs : List BRq) (k : Nat) (hk : k < rs.length) : wtR (rs.take (k + 1)) = wtR (rs.take k) + (20 + rs[k].s.size) := by
 unfold wtR
 rw [List.take_succ_eq_append_getElem hk]
 simp only [List.map_append, List.map_cons, List.map_nil, List.sum_append, List.sum_cons, List.sum_nil]
 omega
theorem wt_take (xs : List Bat) (k : Nat) (hk : k < xs.length) : wt (xs.take (k + 1)) = wt (xs.take k) + (5 + wtR xs[k].rs) := by
 unfold wt
 rw [List.take_succ_eq_append_getElem hk]
 simp only [List.map_append, List.map_cons, List.map_nil, List.sum_append, List.sum_cons, List.sum_nil]
 omega
set_option maxRecDepth 100000 in
set_option maxHeartbeats 2000000 in
theorem light_any (b cap : Nat) (xs : List Bat) (w : World) (h : BatsAt w b xs) :
  Calls Tryz.prog 19 #[.slice (some ⟨b, 0, none⟩) xs.length cap] w fun e w' => (e = .returned (.bool false) ∧ Below w.heap.size w w') ∨ (e = .returned (.bool true) ∧ Below w.heap.size w w' ∧ wt xs ≤ 4000) := by
 have hxl := h.1
 go_enter Tryz.func19, Tryz.ntmps19
 go_wp2
 go_loopw [3, 4] (fun nv iv wr => ∃ (k : Nat) (n : Int), k ≤ xs.length ∧ iv = .int .i64 (k : Int) ∧ nv = .int .i64 n ∧ 0 ≤ n ∧ n ≤ 4001 ∧ Hid (n ≤ 4000 → n = wt (xs.take k)) ∧ Below w.heap.size w wr) (fun _ iv _ => xs.length - (intOf iv).toNat)
 case atStart => exact ⟨0, 0, by omega, rfl, rfl, by omega, by omega, hide (fun _ => by simp [wt]), Below.refl _ _⟩
 case round =>
  obtain ⟨k, n, hk, rfl, rfl, h0, h1, HL, hbel⟩ := hrel
  obtain ⟨wo, rfl⟩ : ∃ wo, wo = wr := ⟨_, rfl⟩
  by_cases hlt : k < xs.length
  ·by_cases hn : n ≤ 4000
   ·have hW := h.below hbel
    have hc := hW.cell k hlt
    have hrow := (hW.2.1 xs[k] (List.getElem_mem hlt)).1
    have HT := hide (wt_take xs k hlt)
    obtain ⟨xa, hxa⟩ : ∃ xa, Hid (xs[k].a = xa) := ⟨_, hide rfl⟩
    obtain ⟨xc, hxc⟩ : ∃ xc, Hid (xs[k].cap = xc) := ⟨_, hide rfl⟩
    obtain ⟨xr, hxr⟩ : ∃ xr, Hid (xs[k].rs = xr) := ⟨_, hide rfl⟩
    rw [hxa.out, hxc.out, hxr.out] at hc
    rw [hxa.out, hxr.out] at hrow
    rw [hxr.out] at HT
    clear hxa hxc hxr
    have hrl := hrow.1
    unfold maxLen at hrl
    have hbw := hW.2.2.1
    have k1 : (k : Int) < xs.length := by omega
    have ca := add4000_any n 5 wo h0 h1 (by omega) (by omega)
    have HA : Hid (addTo4 n 5 ≤ 4001 ∧ 0 ≤ addTo4 n 5 ∧ (addTo4 n 5 ≤ 4000 → addTo4 n 5 = wt (xs.take k) + 5)) := by
     unfold addTo4
     have := HL.out hn
     split
     ·refine ⟨by omega, by omega, fun _ => by omega⟩
     ·refine ⟨by omega, by omega, fun h => by omega⟩
    obtain ⟨p, hp⟩ : ∃ p, Hid (addTo4 n 5 = p) := ⟨_, hide rfl⟩
    rw [hp.out] at ca HA
    clear hp
    go_wp2_with fail
    refine ca.mono ?_
    rintro e w1 ⟨rfl, hx⟩
    obtain rfl := hx.symm
    clear hx ca
    go_wp2
    go_loopw [3, 5] (fun nv jv wq => ∃ (j : Nat) (m : Int), j ≤ xr.length ∧ jv = .int .i64 (j : Int) ∧ nv = .int .i64 m ∧ 0 ≤ m ∧ m ≤ 4001 ∧ Hid (m ≤ 4000 → m = wt (xs.take k) + 5 + wtR (xr.take j)) ∧ Below wo.heap.size wo wq) (fun _ jv _ => xr.length - (intOf jv).toNat)
    case atStart => exact ⟨0, p, by omega, rfl, rfl, HA.out.2.1, HA.out.1, hide (fun q => by have := HA.out.2.2 q; simp [wtR]; omega), Below.refl _ _⟩
    case round =>
     obtain ⟨j, m, hj, rfl, rfl, m0, m1, HM, hbq⟩ := hrel
     have hcq := (hbq.cell (p := ⟨b, k * 2 + 1, none⟩) hbw).trans hc
     by_cases hjl : j < xr.length
     ·have j1 : (j : Int) < xr.length := by omega
      by_cases hm : m ≤ 4000
      ·obtain ⟨rb, off, rfl, hrb, hre⟩ := hrow.elem j hjl
       have HT2 := hide (wtR_take xr j hjl)
       obtain ⟨r, hr⟩ : ∃ r, Hid (xr[j] = r) := ⟨_, hide rfl⟩
       have hrs : r.s.size ≤ maxLen := by rw [← hr.out]; exact (hrow.2.1 _ (List.getElem_mem hjl)).sl
       unfold maxLen at hrs
       rw [hr.out] at hre HT2
       have hre2 : wo.cell? ⟨rb, off + j * 19 + 2, none⟩ = some (.string r.s) := hre 2 _ rfl
       clear hre hr
       have HA2 : Hid (addTo4 m 20 ≤ 4001 ∧ 0 ≤ addTo4 m 20 ∧ (addTo4 m 20 ≤ 4000 → addTo4 m 20 = wt (xs.take k) + 5 + wtR (xr.take j) + 20)) := by
        unfold addTo4
        have := HM.out hm
        split
        ·refine ⟨by omega, by omega, fun _ => by omega⟩
        ·refine ⟨by omega, by omega, fun h => by omega⟩
       have ca := fun w0 => add4000_any m 20 w0 m0 m1 (by omega) (by omega)
       obtain ⟨p2, hp2⟩ : ∃ p, Hid (addTo4 m 20 = p) := ⟨_, hide rfl⟩
       simp only [hp2.out] at ca
       rw [hp2.out] at HA2
       have cb := fun w0 => add4000_any p2 (r.s.size : Int) w0 HA2.out.2.1 HA2.out.1 (by omega) (by omega)
       have HA3 : Hid (addTo4 p2 r.s.size ≤ 4001 ∧ 0 ≤ addTo4 p2 r.s.size ∧ (addTo4 p2 r.s.size ≤ 4000 → addTo4 p2 r.s.size = wt (xs.take k) + 5 + wtR (xr.take (j + 1)))) := by
        unfold addTo4
        have := HA2.out
        have := HT2.out
        split
        ·refine ⟨by omega, by omega, fun _ => by have := HA2.out.2.2 (by omega); omega⟩
        ·refine ⟨by omega, by omega, fun h => by omega⟩
       obtain ⟨p3, hp3⟩ : ∃ p, Hid (addTo4 p2 r.s.size = p) := ⟨_, hide rfl⟩
       simp only [hp3.out] at cb
       rw [hp3.out] at HA3
       clear hp2 hp3 HT2 HA2
       go_wp2_with fail
       obtain ⟨w5, hw5⟩ : ∃ w5, wr.drew = w5 := ⟨_, rfl⟩
       have hB5 : Below wo.heap.size wo w5 := by rw [← hw5]; exact hbq.drew
       have c1 : ∀ w', Below w5.heap.size w5 w' → w'.cell? ⟨b, k * 2 + 1, none⟩ = some (.slice (some ⟨rb, off, none⟩) xr.length xc) := fun w' hw' => ((hB5.trans (hw'.mono hB5.size)).cell (p := ⟨b, k * 2 + 1, none⟩) hbw).trans hc
       have c2 : ∀ w', Below w5.heap.size w5 w' → w'.cell? ⟨rb, off + j * 19 + 2, none⟩ = some (.string r.s) := fun w' hw' => ((hB5.trans (hw'.mono hB5.size)).cell (p := ⟨rb, off + j * 19 + 2, none⟩) hrb).trans hre2
       refine hs_begin (S := (Below w5.heap.size w5)) 14 rfl (by kernel_rfl) ?_
       rw [hw5]
       clear hw5 hcq hbq
       have hS : (Below w5.heap.size w5) w5 := Below.refl _ _
       refine hs_t 0 32 (?_) rfl (by kernel_rfl) (by kernel_rfl) (by kernel_rfl) (by rfl) ?_ hS rfl ?_
       rotate_left
       ·intro w' hw
        go_simp
        try with_reducible rfl
       simp only [nz]
       refine hs_t 2 34 (?_) rfl (by kernel_rfl) (by kernel_rfl) (by kernel_rfl) (by rfl) ?_ hS rfl ?_
       rotate_left
       ·intro w' hw
        go_simp
        try with_reducible rfl
       simp only [nz]
       refine hs_t 3 35 (?_) rfl (by kernel_rfl) (by kernel_rfl) (by kernel_rfl) (by rfl) ?_ hS rfl ?_
       rotate_left
       ·intro w' hw
        go_simp
        try with_reducible rfl
       simp only [nz]
       refine hs_t 4 36 (?_) rfl (by kernel_rfl) (by kernel_rfl) (by kernel_rfl) (by rfl) ?_ hS rfl ?_
       rotate_left
       ·intro w' hw
        go_simp
        try with_reducible rfl
       simp only [nz]
       refine hs_t 5 37 (?_) rfl (by kernel_rfl) (by kernel_rfl) (by kernel_rfl) (by rfl) ?_ hS rfl ?_
       rotate_left
       ·intro w' hw
        go_simp
        try with_reducible rfl
       simp only [nz]
       refine hs_t 6 38 (?_) rfl (by kernel_rfl) (by kernel_rfl) (by kernel_rfl) (by rfl) ?_ hS rfl ?_
       rotate_left
       ·intro w' hw
        have hc := c1 w' hw
        go_simp
        try with_reducible rfl
       simp only [nz]
       refine hs_t 7 39 (?_) rfl (by kernel_rfl) (by kernel_rfl) (by kernel_rfl) (by rfl) ?_ hS rfl ?_
       rotate_left
       ·intro w' hw
        go_simp
        try with_reducible rfl
       simp only [nz]
       refine hs_t 8 40 (?_) rfl (by kernel_rfl) (by kernel_rfl) (by kernel_rfl) (by rfl) ?_ hS rfl ?_
       rotate_left
       ·intro w' hw
        go_simp
        try with_reducible rfl
       simp only [nz]
       refine hs_t 9 41 (?_) rfl (by kernel_rfl) (by kernel_rfl) (by kernel_rfl) (by rfl) ?_ hS rfl ?_
       rotate_left
       ·intro w' hw
        go_simp
        try with_reducible rfl
       simp only [nz]
       refine hs_t 10 42 (?_) rfl (by kernel_rfl) (by kernel_rfl) (by kernel_rfl) (by rfl) ?_ hS rfl ?_
       rotate_left
       ·intro w' hw
        have hc := c2 w' hw
        go_simp
        try with_reducible rfl
       simp only [nz]
       refine hs_t 11 43 (?_) rfl (by kernel_rfl) (by kernel_rfl) (by kernel_rfl) (by rfl) ?_ hS rfl ?_
       rotate_left
       ·intro w' hw
        go_simp
        try with_reducible rfl
       simp only [nz]
       refine hs_call (i := 1) (d := some 33) rfl (by kernel_rfl) (by rfl) (by go_simp; first | done | exact ⟨rfl, rfl⟩ | with_reducible rfl) rfl ?_
       refine (ca w5).mono ?_
       rintro e' w6 ⟨rfl, hx⟩
       obtain rfl := hx.symm
       refine ⟨_, rfl, hS, ?_⟩
       simp only [nz]
       refine hs_call (i := 12) (d := some 44) rfl (by kernel_rfl) (by rfl) (by go_simp; first | done | exact ⟨rfl, rfl⟩ | with_reducible rfl) rfl ?_
       refine (cb w5).mono ?_
       rintro e' w7 ⟨rfl, hx⟩
       obtain rfl := hx.symm
       refine ⟨_, rfl, hS, ?_⟩
       simp only [nz]
       refine hs_t 13 3 (?_) rfl (by kernel_rfl) (by kernel_rfl) (by kernel_rfl) (by rfl) ?_ hS rfl ?_
       rotate_left
       ·intro w' hw
        go_simp
        try with_reducible rfl
       simp only [nz]
       refine hs_done (by kernel_rfl) ?_
       go_wp2
       go_roundw
       case rel => exact ⟨j + 1, p3, by omega, by go_num, rfl, HA3.out.2.1, HA3.out.1, hide HA3.out.2.2, hB5⟩
       case measure => simp [intOf]; omega
      ·go_wp2
       go_roundw
       case rel => exact ⟨k + 1, m, by omega, by go_num, rfl, m0, m1, hide (fun q => absurd q hm), hbel.trans (hbq.mono hbel.size)⟩
       case measure => simp [intOf]; omega
     ·have hj' : j = xr.length := by omega
      have HF : Hid (m ≤ 4000 → m = wt (xs.take (k + 1))) := by
       intro hm
       have h1 := HM.out hm
       have h2 := HT.out
       rw [hj', List.take_length] at h1
       omega
      have j1 : ¬ (j : Int) < xr.length := by omega
      clear HM
      go_wp2
      go_roundw
      case rel => exact ⟨k + 1, m, by omega, by go_num, rfl, m0, m1, HF, hbel.trans (hbq.mono hbel.size)⟩
      case measure => simp [intOf]; omega
   ·go_wp2
    go_ret
    exact .inl ⟨rfl, hbel⟩
  ·have hk' : k = xs.length := by omega
   have HF : Hid (n ≤ 4000 → wt xs ≤ 4000) := by
    intro hn
    have := HL.out hn
    rw [hk', List.take_length] at this
    omega
   have k1 : ¬ (k : Int) < xs.length := by omega
   clear HL
   by_cases hn : n ≤ 4000
   ·go_wp2
    go_ret
    exact .inr ⟨rfl, hbel, HF.out hn⟩
   ·go_wp2
    go_ret
    exact .inl ⟨rfl, hbel⟩
def RcE : El Rc where
  f := Rc.cells
  k := 45
  ok := fun r => r.ct.ok
  len := fun r h => Rc.len h
  one := fun r => r.one
def RcsAt (w : World) (x : Sl Rc) : Prop := x.At RcE w ∧ ∀ r ∈ x.xs, r.At w
theorem RcsAt.below {w w' : World} {x : Sl Rc} (k : RcsAt w x) (hb : Below w.heap.size w w') : RcsAt w' x := ⟨k.1.below hb, fun h hh => (k.2 h hh).below hb⟩
def Rc.light (r : Rc) : Prop := r.st.size ≤ 4000 ∧ r.cs.xs.length ≤ 100 ∧ r.sg.xs.length ≤ 100
def LightK (x : Sl Rc) (w : World) (e : Ending) (w' : World) : Prop := ∃ b : Bool, e = .returned (.bool b) ∧ Below w.heap.size w w' ∧ (b = true → x.xs.length ≤ 100 ∧ ∀ r ∈ x.xs, r.light)
theorem run_bsB (q : Bool) (a : Option Addr) (n c : Nat) (w : World) : (Instr.buildSlice 86 1 #[(0, .agg #[.bool q, .slice a n c])]).run Tryz.prog w = .ok (.slice (some ⟨w.heap.size, 0, none⟩) 1 1) (w.alloc (.cells #[.bool q, .slice a n c] 24)) := by kernel_rfl
theorem light1_on (q : Bool) (x : Sl Rq) (w : World) (hx : x.At RqE w) : Calls Tryz.prog 19 #[.slice (some ⟨w.heap.size, 0, none⟩) 1 1] (w.alloc (.cells #[.bool q, .slice x.a x.xs.length x.cap] 24)) fun e w' => ∃ b : Bool, e = .returned (.bool b) ∧ Below w.heap.size w w' := by
 have hB : Below w.heap.size w (w.alloc (.cells #[.bool q, .slice x.a x.xs.length x.cap] 24)) := (Below.refl _ _).alloc (Nat.le_refl _) _
 have hR := range_new w #[.bool q, .slice x.a x.xs.length x.cap] 24
 have c := light_any w.heap.size 1 [⟨q, x.a, x.cap, x.xs.map BRq.of⟩] _ ⟨by simp, fun y hy => by
  simp only [List.mem_singleton] at hy
  subst hy
  exact ⟨reqs_at (Sl.At.below hx hB), trivial, trivial⟩, by simp, by simpa [Bat.cells] using hR⟩
 refine c.mono ?_
 rintro e w' (⟨rfl, hb⟩ | ⟨rfl, hb, -⟩)
 ·exact ⟨false, rfl, hB.trans (hb.mono hB.size)⟩
 ·exact ⟨true, rfl, hB.trans (hb.mono hB.size)⟩
theorem rc_cs {w : World} {b : Nat} {r : Rc} (h : r.ct.ok) (hr : w.rangeAt b 0 r.cells) : w.cell? ⟨b, 42, none⟩ = some (.slice r.cs.a r.cs.xs.length r.cs.cap) := by
 obtain ⟨_, kc, _, _⟩ := rc_parts h hr
 exact kc 36 _ (by unfold certL; rw [List.getElem?_append_right (by rw [h.len]; exact Nat.le_refl _), h.len]; rfl)
theorem fine_rc {r : Rc} {w : World} (h : r.ct.ok) (am : r.At w) (hl : r.light) (hg : r.good = true) : r.Fine := by
 have hg' := hg
 unfold Rc.good at hg'
 rw [Bool.and_eq_true] at hg'
 have hv := of_decide_eq_true hg'.1
 have hp := good_pure (Rc.told_ok h) (Rc.told_at am) hg'.2
 obtain ⟨hk, -⟩ := Rc.told_bare hp
 exact ⟨fine_of (Rc.told_ok h) (Rc.told_at am) hg'.2 ⟨Nat.le_trans hl.1 (by decide), hl.2.1, Nat.zero_le _⟩, by omega, hk.1, hk.2⟩
set_option maxRecDepth 100000 in
set_option maxHeartbeats 2000000 in
theorem light24_any (x : Sl Rc) (w : World) (h : RcsAt w x) : Calls Tryz.prog 7 #[x.val] w fun e w' => LightK x w e w' := by
 obtain ⟨zh, hzl, hzh⟩ : ∃ z : List Value, z.length = 45 ∧ ∀ w : World, (zeroValue 33).run Tryz.prog w = .ok (.agg z.toArray) w := ⟨_, Rc.len Vt.zero_ok, zeroRc⟩
 obtain ⟨xa, hxa⟩ : ∃ a, Hid (x.a = a) := ⟨_, hide rfl⟩
 have hxx : ∀ w', Below w.heap.size w w' → RowsAt RcE w' xa x.xs ∧ ∀ r ∈ x.xs, r.At w' := fun w' h0 => by rw [← hxa.out]; exact h.below h0
 unfold Sl.val
 rw [hxa.out]
 have hml : x.xs.length ≤ maxLen := h.1.1
 unfold maxLen at hml
 clear h hxa
 obtain ⟨p0, hp0⟩ : ∃ p, Hid (decide (100 < (x.xs.length : Int)) = p) := ⟨_, hide rfl⟩
 go_enter Tryz.func7, Tryz.ntmps7
 go_upto_region 1 with fail
 try simp only [Act.put]
 refine pl_begin ?_
 refine pl_t 5 (?_) (by rfl) ?_ rfl ?_
 rotate_left
 ·go_simp
  try with_reducible rfl
 simp only [nz]
 refine pl_t 6 (?_) (by rfl) ?_ rfl ?_
 rotate_left
 ·go_simp
  try with_reducible rfl
 simp only [nz]
 refine pl_t 7 (.bool p0) (by rfl) (by rw [← hp0.out]; go_simp) rfl ?_
 simp only [nz]
 refine pl_nil ?_
 cases p0
 rotate_left
 ·have HF : Hid (LightK x w (.returned (.bool true)) w → True) := hide (fun _ => trivial)
  have HG : Hid (LightK x w (.returned (.bool false)) w) := hide ⟨false, rfl, Below.refl _ _, fun h => by cases h⟩
  clear hxx hml hp0 HF
  go_wp2_with fail
  go_ret
  exact HG.out
 have hx100 : x.xs.length ≤ 100 := by have := of_decide_eq_false hp0.out; omega
 clear hp0 hml
 go_upto_region 3 with fail
 try simp only [Act.put]
 refine pl_begin ?_
 refine pl_t 8 (?_) (by rfl) ?_ rfl ?_
 rotate_left
 ·go_simp
  try with_reducible rfl
 simp only [nz]
 refine pl_t 9 (?_) (by rfl) ?_ rfl ?_
 rotate_left
 ·go_simp
  try with_reducible rfl
 simp only [nz]
 refine pl_t 10 (?_) (by rfl) ?_ rfl ?_
 rotate_left
 ·go_simp
  try with_reducible rfl
 simp only [nz]
 refine pl_nil ?_
 have HK0 : Hid (Below w.heap.size w w ∧ ∀ r ∈ x.xs.take 0, r.light) := hide ⟨Below.refl _ _, fun r hr => by simp at hr⟩
 go_wp2_with fail
 go_loopw [10] (fun iv wr => ∃ k : Nat, k ≤ x.xs.length ∧ iv = .int .i64 (k : Int) ∧ Hid (Below w.heap.size w wr ∧ ∀ r ∈ x.xs.take k, r.light)) (fun iv _ => x.xs.length - (intOf iv).toNat)
 case atStart => exact ⟨0, by omega, rfl, HK0⟩
 case round =>
  clear HK0
  obtain ⟨k, hk, rfl, HK⟩ := hrel
  obtain ⟨hBw, hlk⟩ := HK.out
  replace hlk := hide hlk
  clear HK
  by_cases hlt : k < x.xs.length
  ·have k1 : (k : Int) < x.xs.length := by omega
   have hgat := (hxx wr hBw).2 _ (List.getElem_mem hlt)
   have hok := (hxx wr hBw).1.2.1 _ (List.getElem_mem hlt)
   obtain ⟨b, off, rfl, hbb, hre⟩ := RowsAt.elem (hxx wr hBw).1 k hlt
   have hre : wr.rangeAt b (off + k * 45) (RcE.f x.xs[k]) := hre
   have hql : (RcE.f x.xs[k]).length = 45 := RcE.len _ hok
   have hiq : (Tryz.prog.info? 33).map (·.size) = some (RcE.f x.xs[k]).length := by rw [hql]; exact iszRc
   have hq1 := RcE.one x.xs[k]
   obtain ⟨g, hgg⟩ : ∃ g, Hid (x.xs[k] = g) := ⟨_, hide rfl⟩
   rw [hgg.out] at hre hiq hq1 hql hok hgat
   have hok : g.ct.ok := hok
   obtain ⟨q1, hqq⟩ : ∃ q, Hid (RcE.f g = q) := ⟨_, hide rfl⟩
   rw [hqq.out] at hre hiq hq1 hql
   go_upto_region 5 with fail
   try simp only [Act.put]
   refine pl_begin ?_
   refine pl_t 12 (?_) (by rfl) ?_ rfl ?_
   rotate_left
   ·go_simp
    try with_reducible rfl
   simp only [nz]
   refine pl_t 13 (.agg q1.toArray) (by rfl) (ex_mid rfl rfl hre Tryz.underlying33 rfl hiq) rfl ?_
   simp only [nz]
   refine pl_run (d := some 4) (v := .pointer (some ⟨wr.heap.size, 0, none⟩)) (w' := wr.alloc (.cells zh.toArray 33)) (by rfl) (ex_alloc rfl (hzh _)) rfl ?_
   simp only [nz]
   refine pl_store (w' := (wr.alloc (.cells zh.toArray 33)).setCells wr.heap.size 0 q1) (by rfl) (ex_put (cs := q1.toArray) rfl rfl rfl (there_newN _ _ _ (by simp [hzl, hql])) (by simpa using hiq) (all_one hq1)) rfl ?_
   refine pl_nil ?_
   obtain ⟨hF1, hF2, hF3, -⟩ := fresh_store wr zh.toArray 33 q1 (by simp [hzl, hql])
   have hs5 : wr.heap.size < ((wr.alloc (.cells zh.toArray 33)).setCells wr.heap.size 0 q1).heap.size := by rw [size_sets]; simp
   obtain ⟨w5, hw5⟩ : ∃ W, (wr.alloc (.cells zh.toArray 33)).setCells wr.heap.size 0 q1 = W := ⟨_, rfl⟩
   rw [hw5] at hF1 hF2 hF3 hs5 ⊢
   clear hw5
   rw [← hqq.out] at hF1
   have hF1 : w5.rangeAt wr.heap.size 0 g.cells := hF1
   obtain ⟨rG, -, c43, c44⟩ := rc_parts hok hF1
   have c42 := rc_cs hok hF1
   have hB5 := hBw.trans (hF2.mono hBw.size)
   have aG := hgat.rs.below hF2
   obtain ⟨p1, hp1⟩ : ∃ p, Hid (decide (100 < (g.cs.xs.length : Int)) = p) := ⟨_, hide rfl⟩
   obtain ⟨p2, hp2⟩ : ∃ p, Hid (decide (100 < (g.sg.xs.length : Int)) = p) := ⟨_, hide rfl⟩
   obtain ⟨p3, hp3⟩ : ∃ p, Hid (decide (4000 < (g.st.size : Int)) = p) := ⟨_, hide rfl⟩
   clear hqq hF1 hF2 hF3 hre hiq hq1 hql hBw hgat hxx
   go_upto_region 6 with fail
   try simp only [Act.put]
   refine pl_begin ?_
   refine pl_t 14 (?_) (by rfl) ?_ rfl ?_
   rotate_left
   ·go_simp
    try with_reducible rfl
   simp only [nz]
   refine pl_t 15 (.agg ([.bool g.q, g.rs.val] : List Value).toArray) (by rfl) (ex_mid rfl rfl rG Tryz.underlying24 rfl iszBa) rfl ?_
   simp only [nz]
   refine pl_run (d := some 16) (v := .slice (some ⟨w5.heap.size, 0, none⟩) 1 1) (w' := w5.alloc (.cells #[.bool g.q, .slice g.rs.a g.rs.xs.length g.rs.cap] 24)) (by rfl) (ex_bsi rfl rfl (run_bsB _ _ _ _ _)) rfl ?_
   simp only [nz]
   refine pl_call (d := some 17) (by rfl) (by go_simp; first | done | exact ⟨rfl, rfl⟩ | with_reducible rfl) rfl ?_
   refine (light1_on g.q g.rs w5 aG).mono ?_
   rintro _ w9 ⟨b0, rfl, HS⟩
   refine ⟨_, rfl, ?_⟩
   simp only [nz]
   cases b0
   ·refine pl_t 18 (?_) (by rfl) ?_ rfl ?_
    rotate_left
    ·go_simp
     try with_reducible rfl
    simp only [nz]
    refine pl_t 19 (?_) (by rfl) ?_ rfl ?_
    rotate_left
    ·go_simp
     try with_reducible rfl
    simp only [nz]
    refine pl_skip (d := some 20) (by rfl) rfl ?_
    simp only [nz]
    refine pl_skip (d := some 21) (by rfl) rfl ?_
    simp only [nz]
    refine pl_skip (d := some 22) (by rfl) rfl ?_
    simp only [nz]
    refine pl_skip (d := some 23) (by rfl) rfl ?_
    simp only [nz]
    refine pl_skip (d := some 24) (by rfl) rfl ?_
    simp only [nz]
    refine pl_t 25 (?_) (by rfl) ?_ rfl ?_
    rotate_left
    ·go_simp
     try with_reducible rfl
    simp only [nz]
    refine pl_t 26 (?_) (by rfl) ?_ rfl ?_
    rotate_left
    ·go_simp
     try with_reducible rfl
    simp only [nz]
    refine pl_skip (d := some 27) (by rfl) rfl ?_
    simp only [nz]
    refine pl_skip (d := some 28) (by rfl) rfl ?_
    simp only [nz]
    refine pl_skip (d := some 29) (by rfl) rfl ?_
    simp only [nz]
    refine pl_skip (d := some 30) (by rfl) rfl ?_
    simp only [nz]
    refine pl_t 31 (?_) (by rfl) ?_ rfl ?_
    rotate_left
    ·go_simp
     try with_reducible rfl
    simp only [nz]
    refine pl_t 32 (?_) (by rfl) ?_ rfl ?_
    rotate_left
    ·go_simp
     try with_reducible rfl
    simp only [nz]
    refine pl_skip (d := some 33) (by rfl) rfl ?_
    simp only [nz]
    refine pl_skip (d := some 34) (by rfl) rfl ?_
    simp only [nz]
    refine pl_skip (d := some 35) (by rfl) rfl ?_
    simp only [nz]
    refine pl_skip (d := some 36) (by rfl) rfl ?_
    simp only [nz]
    refine pl_t 37 (?_) (by rfl) ?_ rfl ?_
    rotate_left
    ·go_simp
     try with_reducible rfl
    simp only [nz]
    refine pl_nil ?_
    have HF : Hid (LightK x w (.returned (.bool false)) w9) := hide ⟨false, rfl, hB5.trans (HS.mono hB5.size), fun h => by cases h⟩
    go_wp2_with fail
    go_ret
    exact HF.out
   ·refine pl_t 18 (?_) (by rfl) ?_ rfl ?_
    rotate_left
    ·go_simp
     try with_reducible rfl
    simp only [nz]
    refine pl_t 19 (?_) (by rfl) ?_ rfl ?_
    rotate_left
    ·go_simp
     try with_reducible rfl
    simp only [nz]
    refine pl_t 20 (?_) (by rfl) ?_ rfl ?_
    rotate_left
    ·go_simp
     try with_reducible rfl
    simp only [nz]
    refine pl_t 21 (?_) (by rfl) ?_ rfl ?_
    rotate_left
    ·go_simp
     try with_reducible rfl
    simp only [nz]
    refine pl_t 22 (.slice g.cs.a g.cs.xs.length g.cs.cap) (by rfl) (pl_one rfl rfl ((HS.cell (p := ⟨wr.heap.size, 42, none⟩) hs5).trans c42) Tryz.underlying29 rfl) rfl ?_
    simp only [nz]
    refine pl_t 23 (?_) (by rfl) ?_ rfl ?_
    rotate_left
    ·go_simp
     try with_reducible rfl
    simp only [nz]
    refine pl_t 24 (.bool p1) (by rfl) (by rw [← hp1.out]; go_simp) rfl ?_
    simp only [nz]
    cases p1
    ·refine pl_t 25 (?_) (by rfl) ?_ rfl ?_
     rotate_left
     ·go_simp
      try with_reducible rfl
     simp only [nz]
     refine pl_t 26 (?_) (by rfl) ?_ rfl ?_
     rotate_left
     ·go_simp
      try with_reducible rfl
     simp only [nz]
     refine pl_t 27 (?_) (by rfl) ?_ rfl ?_
     rotate_left
     ·go_simp
      try with_reducible rfl
     simp only [nz]
     refine pl_t 28 (.slice g.sg.a g.sg.xs.length g.sg.cap) (by rfl) (pl_one rfl rfl ((HS.cell (p := ⟨wr.heap.size, 44, none⟩) hs5).trans c44) Tryz.underlying29 rfl) rfl ?_
     simp only [nz]
     refine pl_t 29 (?_) (by rfl) ?_ rfl ?_
     rotate_left
     ·go_simp
      try with_reducible rfl
     simp only [nz]
     refine pl_t 30 (.bool p2) (by rfl) (by rw [← hp2.out]; go_simp) rfl ?_
     simp only [nz]
     cases p2
     ·refine pl_t 31 (?_) (by rfl) ?_ rfl ?_
      rotate_left
      ·go_simp
       try with_reducible rfl
      simp only [nz]
      refine pl_t 32 (?_) (by rfl) ?_ rfl ?_
      rotate_left
      ·go_simp
       try with_reducible rfl
      simp only [nz]
      refine pl_t 33 (?_) (by rfl) ?_ rfl ?_
      rotate_left
      ·go_simp
       try with_reducible rfl
      simp only [nz]
      refine pl_t 34 (.string g.st) (by rfl) (pl_one rfl rfl ((HS.cell (p := ⟨wr.heap.size, 43, none⟩) hs5).trans c43) Tryz.underlying9 rfl) rfl ?_
      simp only [nz]
      refine pl_t 35 (?_) (by rfl) ?_ rfl ?_
      rotate_left
      ·go_simp
       try with_reducible rfl
      simp only [nz]
      refine pl_t 36 (.bool p3) (by rfl) (by rw [← hp3.out]; go_simp) rfl ?_
      simp only [nz]
      cases p3
      ·refine pl_t 37 (?_) (by rfl) ?_ rfl ?_
       rotate_left
       ·go_simp
        try with_reducible rfl
       simp only [nz]
       refine pl_nil ?_
       have HN : Hid (Below w.heap.size w w9 ∧ ∀ r ∈ x.xs.take (k + 1), r.light) := hide ⟨hB5.trans (HS.mono hB5.size), fun r hr => by
        rw [List.take_succ_eq_append_getElem hlt] at hr
        rcases List.mem_append.1 hr with hr | hr
        ·exact hlk.out r hr
        ·rw [List.mem_singleton.1 hr, hgg.out]
         have e1 := of_decide_eq_false hp1.out
         have e2 := of_decide_eq_false hp2.out
         have e3 := of_decide_eq_false hp3.out
         exact ⟨by omega, by omega, by omega⟩⟩
       clear HS hB5 c42 c43 c44 aG rG hlk hgg hp1 hp2 hp3
       go_wp2_with fail
       go_roundw
       case rel => exact ⟨k + 1, by omega, by go_num, HN⟩
       case measure => simp [intOf]; omega
      ·refine pl_t 37 (?_) (by rfl) ?_ rfl ?_
       rotate_left
       ·go_simp
        try with_reducible rfl
       simp only [nz]
       refine pl_nil ?_
       have HF : Hid (LightK x w (.returned (.bool false)) w9) := hide ⟨false, rfl, hB5.trans (HS.mono hB5.size), fun h => by cases h⟩
       go_wp2_with fail
       go_ret
       exact HF.out
     ·refine pl_t 31 (?_) (by rfl) ?_ rfl ?_
      rotate_left
      ·go_simp
       try with_reducible rfl
      simp only [nz]
      refine pl_t 32 (?_) (by rfl) ?_ rfl ?_
      rotate_left
      ·go_simp
       try with_reducible rfl
      simp only [nz]
      refine pl_skip (d := some 33) (by rfl) rfl ?_
      simp only [nz]
      refine pl_skip (d := some 34) (by rfl) rfl ?_
      simp only [nz]
      refine pl_skip (d := some 35) (by rfl) rfl ?_
      simp only [nz]
      refine pl_skip (d := some 36) (by rfl) rfl ?_
      simp only [nz]
      refine pl_t 37 (?_) (by rfl) ?_ rfl ?_
      rotate_left
      ·go_simp
       try with_reducible rfl
      simp only [nz]
      refine pl_nil ?_
      have HF : Hid (LightK x w (.returned (.bool false)) w9) := hide ⟨false, rfl, hB5.trans (HS.mono hB5.size), fun h => by cases h⟩
      go_wp2_with fail
      go_ret
      exact HF.out
    ·refine pl_t 25 (?_) (by rfl) ?_ rfl ?_
     rotate_left
     ·go_simp
      try with_reducible rfl
     simp only [nz]
     refine pl_t 26 (?_) (by rfl) ?_ rfl ?_
     rotate_left
     ·go_simp
      try with_reducible rfl
     simp only [nz]
     refine pl_skip (d := some 27) (by rfl) rfl ?_
     simp only [nz]
     refine pl_skip (d := some 28) (by rfl) rfl ?_
     simp only [nz]
     refine pl_skip (d := some 29) (by rfl) rfl ?_
     simp only [nz]
     refine pl_skip (d := some 30) (by rfl) rfl ?_
     simp only [nz]
     refine pl_t 31 (?_) (by rfl) ?_ rfl ?_
     rotate_left
     ·go_simp
      try with_reducible rfl
     simp only [nz]
     refine pl_t 32 (?_) (by rfl) ?_ rfl ?_
     rotate_left
     ·go_simp
      try with_reducible rfl
     simp only [nz]
     refine pl_skip (d := some 33) (by rfl) rfl ?_
     simp only [nz]
     refine pl_skip (d := some 34) (by rfl) rfl ?_
     simp only [nz]
     refine pl_skip (d := some 35) (by rfl) rfl ?_
     simp only [nz]
     refine pl_skip (d := some 36) (by rfl) rfl ?_
     simp only [nz]
     refine pl_t 37 (?_) (by rfl) ?_ rfl ?_
     rotate_left
     ·go_simp
      try with_reducible rfl
     simp only [nz]
     refine pl_nil ?_
     have HF : Hid (LightK x w (.returned (.bool false)) w9) := hide ⟨false, rfl, hB5.trans (HS.mono hB5.size), fun h => by cases h⟩
     go_wp2_with fail
     go_ret
     exact HF.out
  ·obtain rfl : k = x.xs.length := by omega
   have HF : Hid (LightK x w (.returned (.bool true)) wr) := hide ⟨true, rfl, hBw, fun _ => ⟨hx100, fun r hr => hlk.out r (by rw [List.take_length]; exact hr)⟩⟩
   clear hlk hxx
   go_wp2_with fail
   go_ret
   exact HF.out
end Go.Proofs.YtinndbipomlokaaGreat
