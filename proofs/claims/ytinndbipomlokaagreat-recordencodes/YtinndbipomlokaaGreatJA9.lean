/- the document's bytes of changes and of new views; Encode, the program's and the document's; the document's signs, news: which may be; the document's Plain; the document's held: which may be -/
import Derived.Test.YtinndbipomlokaaGreatJA0
import Derived.Test.YtinndbipomlokaaGreatJA8
import Derived.Test.YtinndbipomlokaaGreatJA6
import Derived.Test.YtinndbipomlokaaGreatJA2
namespace Go.Proofs.YtinndbipomlokaaGreat
open Go.RowKit
open Sha Tal
set_option linter.unusedVariables false
set_option linter.unusedSimpArgs false
theorem zeroCh (w : World) : (zeroValue 60).run Tryz.prog w = .ok (.agg ([.int .i64 0, .int .i64 0, .int .i64 0, .slice none 0 0] : List Value).toArray) w := by kernel_rfl
theorem four_le' {a b c d : Int} (h1 : a ≤ 9223372036854775807) (h2 : b ≤ 9223372036854775807) (h3 : c ≤ 9223372036854775807) (h4 : d ≤ 9223372036854775807) : ∀ z ∈ [a, b, c, d], z ≤ 9223372036854775807 := by
 intro n hn
 simp only [List.mem_cons, List.not_mem_nil, or_false] at hn
 rcases hn with rfl | rfl | rfl | rfl <;> assumption
theorem hd_parts {g : Hd} {w : World} {b o : Nat} (hv : g.vt.ok) (h : w.rangeAt b o g.cells) : w.rangeAt b o [.bool g.q, g.rs.val] ∧ w.rangeAt b (o + 2) (certL g.vt g.sg) := by
 have h : w.rangeAt b o ([.bool g.q, g.rs.val] ++ certL g.vt g.sg) := h
 exact ⟨range_left h, by simpa using range_right h⟩
theorem ev_parts {g : Ev} {w : World} {b o : Nat} (h : w.rangeAt b o g.cells) : w.cell? ⟨b, o, none⟩ = some (.int .i64 g.n) ∧ w.cell? ⟨b, o + 1, none⟩ = some (.string g.s) ∧ w.rangeAt b (o + 2) (v8 g.t) := by
 refine ⟨h 0 _ rfl, h 1 _ rfl, fun j u hj => ?_⟩
 have := h (2 + j) u (by rw [Nat.add_comm]; exact hj)
 rwa [← Nat.add_assoc] at this
set_option maxRecDepth 100000 in
set_option maxHeartbeats 400000 in
theorem xb3_on (m : Mg) (w : World) (om : m.ok) (am : m.At w) (hf : m.Fine) (hk : m.k = 3) : Calls Tryz.prog 53 #[.agg m.ms.cells.toArray] w fun e w' => FOn [] m.bytes w e w' := by
 have hall := hf.all
 have hbd : m.bytes = putL 3 ++ m.body := by unfold Mg.bytes; rw [hk]
 have hbody : m.body = [m.ce, m.cl, m.cv].flatMap putL ++ hdsL m.he.xs := by unfold Mg.body; rw [hk]; rfl
 rw [hbd, hbody] at hall
 simp only [List.length_append] at hall
 rw [hbd, hbody]
 clear hbd
 have hat : ∀ {w' : World} {b : Nat}, w'.rangeAt b 0 m.ms.cells → m.ms.at w' b := fun hr => om.ms.at hr
 have hkk : m.ms.k = 3 := hk
 obtain ⟨q, hq⟩ : ∃ q, Hid (m.ms.cells = q) := ⟨_, hide rfl⟩
 rw [hq.out]
 simp only [hq.out] at hat
 clear hq
 obtain ⟨hB1, hR1, hs1⟩ := boxed_new w q 63
 have cK := fun w' => xput_on none 0 [] 3 w' (nil_row w') (by simp) (by decide)
 simp only [List.length_nil] at cK
 obtain ⟨L1, hL1⟩ : ∃ L, Hid (([] : List Int) ++ putL 3 = L) := ⟨_, hide rfl⟩
 have HLl : Hid (L1.length = (putL 3).length) := hide (by rw [← hL1.out]; rfl)
 have hK9 : (putL 3).length ≤ 9 := by decide
 go_enter Tryz.func53, Tryz.ntmps53
 go_upto_region 1 with fail
 obtain ⟨w1, hw1⟩ : ∃ W, w.alloc (.cells q.toArray 63) = W := ⟨_, rfl⟩
 rw [hw1] at hB1 hR1 hs1 ⊢
 clear hw1
 have ck := (hat hR1).k
 rw [hkk] at ck
 try simp only [Act.put]
 refine pl_begin ?_
 refine pl_t 7 (?_) (by rfl) ?_ rfl ?_
 rotate_left
 ·go_simp
  try with_reducible rfl
 simp only [nz]
 refine pl_t 8 (.int .i64 3) (by rfl) (pl_one rfl rfl ck Tryz.underlying3 rfl) rfl ?_
 simp only [nz]
 refine pl_call (d := some 9) (by rfl) (by go_simp; first | done | exact ⟨rfl, rfl⟩ | with_reducible rfl) rfl ?_
 refine (cK w1).mono ?_
 rintro _ w2 hfin
 obtain ⟨a2, c2, rfl, row2, -, hB2⟩ := FOn.row hfin hL1.out (by have := HLl.out; omega)
 refine ⟨_, rfl, ?_⟩
 simp only [nz]
 refine pl_t 3 (?_) (by rfl) ?_ rfl ?_
 rotate_left
 ·go_simp
  try with_reducible rfl
 simp only [nz]
 refine pl_nil ?_
 have hBw2 := hB1.trans (hB2.mono hB1.size)
 have hR2 := range_below hR1 hB2 hs1
 have hs2 : w.heap.size < w2.heap.size := Nat.lt_of_lt_of_le hs1 hB2.size
 have MA := hat hR2
 have ck := MA.k
 rw [hkk] at ck
 clear cK
 have hxl := hf.hn
 obtain ⟨zc, hzl, hzc⟩ : ∃ z : List Value, z.length = 4 ∧ ∀ w' : World, (zeroValue 60).run Tryz.prog w' = .ok (.agg z.toArray) w' := ⟨_, rfl, zeroCh⟩
 obtain ⟨L2, hL2⟩ : ∃ L, Hid (L1 ++ [m.ce, m.cl, m.cv, (m.he.xs.length : Int)].flatMap putL = L) := ⟨_, hide rfl⟩
 have hL2l : Hid (L2.length + (m.he.xs.flatMap hdL).length ≤ 40000) := hide (by
  rw [← hL2.out, List.length_append, HLl.out]
  unfold hdsL at hall
  simp only [List.flatMap_cons, List.flatMap_nil, List.length_append, List.length_nil] at hall ⊢
  omega)
 have rch := ms_chg MA
 obtain ⟨qc, hqc⟩ : ∃ q, Hid (([.int .i64 m.ce, .int .i64 m.cl, .int .i64 m.cv, m.he.val] : List Value) = q) := ⟨_, hide rfl⟩
 rw [hqc.out] at rch
 have hqcl : qc.length = 4 := by rw [← hqc.out]; rfl
 have hqc1 : ∀ v ∈ qc, v.oneCell' = true := by
  rw [← hqc.out]
  intro v hv
  simp only [List.mem_cons, List.not_mem_nil, or_false] at hv
  rcases hv with rfl | rfl | rfl | rfl <;> rfl
 go_upto_region 8 with fail
 try simp only [Act.put]
 refine pl_begin ?_
 refine pl_t 32 (?_) (by rfl) ?_ rfl ?_
 rotate_left
 ·go_simp
  try with_reducible rfl
 simp only [nz]
 refine pl_t 33 (.agg qc.toArray) (by rfl) (ex_mid rfl rfl rch Tryz.underlying60 rfl (by rw [hqcl]; exact iszCh)) rfl ?_
 simp only [nz]
 refine pl_run (d := some 4) (v := .pointer (some ⟨w2.heap.size, 0, none⟩)) (w' := w2.alloc (.cells zc.toArray 60)) (by rfl) (ex_alloc rfl (hzc _)) rfl ?_
 simp only [nz]
 refine pl_store (w' := (w2.alloc (.cells zc.toArray 60)).setCells w2.heap.size 0 qc) (by rfl) (ex_put (cs := qc.toArray) rfl rfl rfl (there_newN _ _ _ (by simp [hzl, hqcl])) (by simpa [hqcl] using iszCh) (all_one hqc1)) rfl ?_
 refine pl_nil ?_
 obtain ⟨hF1, hB3, -, -⟩ := fresh_store w2 zc.toArray 60 qc (by simp [hzl, hqcl])
 have hs3 : w2.heap.size < ((w2.alloc (.cells zc.toArray 60)).setCells w2.heap.size 0 qc).heap.size := by rw [size_sets]; simp
 obtain ⟨w3, hw3⟩ : ∃ W, (w2.alloc (.cells zc.toArray 60)).setCells w2.heap.size 0 qc = W := ⟨_, rfl⟩
 rw [hw3] at hF1 hB3 hs3 ⊢
 clear hw3 rch hqcl hqc1
 rw [← hqc.out] at hF1
 have d0 := hF1 0 _ rfl
 have d1 := hF1 1 _ rfl
 have d2 := hF1 2 _ rfl
 have dbox : w3.cell? ⟨w2.heap.size, 3, none⟩ = some (.slice m.he.a m.he.xs.length m.he.cap) := by exact hF1 3 _ rfl
 simp only [Nat.zero_add, Nat.add_zero] at d0 d1 d2
 have hBw3 := hBw2.trans (hB3.mono hBw2.size)
 have row3 := row2.below hB3
 have cN := xnums_on a2 c2 L1 [m.ce, m.cl, m.cv, (m.he.xs.length : Int)] #[.int .i64 m.ce, .int .i64 m.cl, .int .i64 m.cv, .int .i64 (m.he.xs.length : Int)] 4 w3 row3 rfl rfl (by have := HLl.out; omega) (by omega) (by omega) (four_le' hf.ce hf.cl hf.cv (by omega))
 clear hqc hF1 MA
 go_upto_region 9 with fail
 try simp only [Act.put]
 refine pl_begin ?_
 refine pl_t 34 (?_) (by rfl) ?_ rfl ?_
 rotate_left
 ·go_simp
  try with_reducible rfl
 simp only [nz]
 refine pl_t 35 (?_) (by rfl) ?_ rfl ?_
 rotate_left
 ·go_simp
  try with_reducible rfl
 simp only [nz]
 refine pl_t 36 (.int .i64 m.ce) (by rfl) (pl_one rfl rfl d0 Tryz.underlying3 rfl) rfl ?_
 simp only [nz]
 refine pl_t 37 (?_) (by rfl) ?_ rfl ?_
 rotate_left
 ·go_simp
  try with_reducible rfl
 simp only [nz]
 refine pl_t 38 (.int .i64 m.cl) (by rfl) (pl_one rfl rfl d1 Tryz.underlying3 rfl) rfl ?_
 simp only [nz]
 refine pl_t 39 (?_) (by rfl) ?_ rfl ?_
 rotate_left
 ·go_simp
  try with_reducible rfl
 simp only [nz]
 refine pl_t 40 (.int .i64 m.cv) (by rfl) (pl_one rfl rfl d2 Tryz.underlying3 rfl) rfl ?_
 simp only [nz]
 refine pl_t 41 (?_) (by rfl) ?_ rfl ?_
 rotate_left
 ·go_simp
  try with_reducible rfl
 simp only [nz]
 refine pl_t 42 (.slice m.he.a m.he.xs.length m.he.cap) (by rfl) (pl_one rfl rfl dbox Tryz.underlying58 rfl) rfl ?_
 simp only [nz]
 refine pl_t 43 (?_) (by rfl) ?_ rfl ?_
 rotate_left
 ·go_simp
  try with_reducible rfl
 simp only [nz]
 refine pl_run (d := some 44) (v := .slice (some ⟨w3.heap.size, 0, none⟩) 4 4) (w' := w3.alloc (.cells #[.int .i64 m.ce, .int .i64 m.cl, .int .i64 m.cv, .int .i64 (m.he.xs.length : Int)] 3)) (by rfl) (ex_bsi4 rfl rfl rfl rfl rfl (run_bsi4 m.ce m.cl m.cv _ _)) rfl ?_
 simp only [nz]
 refine pl_call (d := some 45) (by rfl) (by go_simp; first | done | exact ⟨rfl, rfl⟩ | with_reducible rfl) rfl ?_
 refine (cN).mono ?_
 rintro _ w4 hfin
 obtain ⟨a4, c4, rfl, row4, m4, hB4⟩ := FOn.row hfin hL2.out (by have := hL2l.out; omega)
 refine ⟨_, rfl, ?_⟩
 simp only [nz]
 refine pl_t 3 (?_) (by rfl) ?_ rfl ?_
 rotate_left
 ·go_simp
  try with_reducible rfl
 simp only [nz]
 refine pl_nil ?_
 have hBw4 := hBw3.trans (hB4.mono hBw3.size)
 have hsw := hBw3.size
 clear cN d0 d1 d2 row4
 have hW4 := hBw4.size
 have HK0 : Hid (Mine w4 w3.heap.size (.slice a4 L2.length c4) (L2 ++ (m.he.xs.take 0).flatMap hdL) ∧ Below w3.heap.size w3 w4) := hide ⟨by simpa using m4, hB4⟩
 clear m4
 go_wp2_with fail
 go_loopw [3, 5] (fun ov iv wr => ∃ k : Nat, k ≤ m.he.xs.length ∧ iv = .int .i64 (k : Int) ∧ Hid (Mine wr w3.heap.size ov (L2 ++ (m.he.xs.take k).flatMap hdL) ∧ Below w3.heap.size w3 wr)) (fun _ iv _ => m.he.xs.length - (intOf iv).toNat)
 case atStart => exact ⟨0, by omega, rfl, HK0⟩
 case round =>
  clear HK0
  obtain ⟨k, hk', rfl, HK⟩ := hrel
  obtain ⟨hM, hB⟩ := HK.out
  clear HK
  have hBr := hBw3.trans (hB.mono hBw3.size)
  have hrs := hB.size
  have dl := (hB.cell (p := ⟨w2.heap.size, 3, none⟩) (by show w2.heap.size < w3.heap.size; omega)).trans dbox
  by_cases hlt : k < m.he.xs.length
  ·have k1 : (k : Int) < m.he.xs.length := by omega
   obtain ⟨b, off, hae, hbb, hre⟩ := RowsAt.elem ((am.he.below hBr).1) k hlt
   have hre : wr.rangeAt b (off + k * 39) (HdE.f m.he.xs[k]) := hre
   have hok := ((am.he.below hBr).1).2.1 _ (List.getElem_mem hlt)
   have hgat := (am.he.below hBr).2 _ (List.getElem_mem hlt)
   have hgf := hf.he _ (List.getElem_mem hlt)
   have HS : Hid ((m.he.xs.take (k + 1)).flatMap hdL = (m.he.xs.take k).flatMap hdL ++ hdL m.he.xs[k]) := hide (by rw [List.take_succ_eq_append_getElem hlt, List.flatMap_append]; simp)
   have hll : ((m.he.xs.take (k + 1)).flatMap hdL).length ≤ (m.he.xs.flatMap hdL).length := by
    have e : m.he.xs.flatMap hdL = (m.he.xs.take (k + 1)).flatMap hdL ++ (m.he.xs.drop (k + 1)).flatMap hdL := by rw [← List.flatMap_append, List.take_append_drop]
    rw [e, List.length_append]
    omega
   rw [HS.out, List.length_append] at hll
   obtain ⟨g, hgg⟩ : ∃ g, Hid (m.he.xs[k] = g) := ⟨_, hide rfl⟩
   rw [hgg.out] at hre hok HS hll hgat hgf
   clear hgg
   obtain ⟨L, hL⟩ : ∃ L, Hid (L2 ++ (m.he.xs.take k).flatMap hdL = L) := ⟨_, hide rfl⟩
   have hLl : L.length + (hdL g).length ≤ 40000 := by rw [← hL.out, List.length_append]; have := hL2l.out; omega
   rw [hL.out] at hM
   obtain ⟨av, cv, hve, _, _, hrow⟩ := hM.rowAt (by unfold maxLen; omega)
   rw [hve] at hM ⊢
   rw [hae] at dl
   have hic : (Tryz.prog.info? 31).map (·.size) = some (certL g.vt g.sg).length := by rw [show (certL g.vt g.sg).length = 37 by have : g.vt.ok := hok; simp [certL, this.len]]; exact iszCe
   have hdl : (hdL g).length = (batL g.q (g.rs.xs.map BRq.of)).length + (ctL g.vt g.sg.xs).length := by unfold hdL; rw [List.length_append]
   obtain ⟨L3, hL3⟩ : ∃ L3, Hid (L ++ batL g.q (g.rs.xs.map BRq.of) = L3) := ⟨_, hide rfl⟩
   have hL3l : L3.length + (ctL g.vt g.sg.xs).length ≤ 40000 := by rw [← hL3.out, List.length_append]; omega
   have hok : g.vt.ok := hok
   clear hdl
   go_upto_region 13 with fail
   refine hs_begin (S := (Below wr.drew.heap.size wr.drew)) 16 rfl (by kernel_rfl) ?_
   have hB8 : Below wr.heap.size wr wr.drew := (Below.refl _ _).drew
   obtain ⟨w8, hw8⟩ : ∃ W, wr.drew = W := ⟨_, rfl⟩
   rw [hw8] at hB8 ⊢
   clear hw8
   have row8 : RowAt w8 av L := hrow.below hB8
   have hr8 := range_below hre hB8 hbb
   have hb8s : b < w8.heap.size := Nat.lt_of_lt_of_le hbb hB8.size
   have hX8 : w2.heap.size < wr.heap.size := by omega
   have hX8' : w2.heap.size < w8.heap.size := Nat.lt_of_lt_of_le hX8 hB8.size
   have dl8 := (hB8.cell (p := ⟨w2.heap.size, 3, none⟩) hX8).trans dl
   have dE : ∀ w', Below w8.heap.size w8 w' → w'.cell? ⟨w2.heap.size, 3, none⟩ = some (.slice (some ⟨b, off, none⟩) m.he.xs.length m.he.cap) := fun w' hw => (hw.cell (p := ⟨w2.heap.size, 3, none⟩) hX8').trans dl8
   have rE : ∀ w', Below w8.heap.size w8 w' → w'.rangeAt b (off + k * 39) (g.cells) := fun w' hw => range_below hr8 hw hb8s
   have hBw8 := hBr.trans (hB8.mono hBr.size)
   have hb3w8 := hB.trans (hB8.mono hB.size)
   have hA8 : ∀ w', Below w8.heap.size w8 w' → Below wr.heap.size wr w' := fun w' hw => hB8.trans (hw.mono hB8.size)
   have hS : (Below w8.heap.size w8) w8 := Below.refl _ _
   have hbs8 := hb3w8.size
   clear hre hr8 hM hrow dl8
   refine hs_t 0 53 (?_) rfl (by kernel_rfl) (by kernel_rfl) (by kernel_rfl) (by rfl) ?_ hS rfl ?_
   rotate_left
   ·intro w' hw
    go_simp
    try with_reducible rfl
   simp only [nz]
   refine hs_t 1 54 (?_) rfl (by kernel_rfl) (by kernel_rfl) (by kernel_rfl) (by rfl) ?_ hS rfl ?_
   rotate_left
   ·intro w' hw
    go_simp
    try with_reducible rfl
   simp only [nz]
   refine hs_t 2 55 (.slice (some ⟨b, off, none⟩) m.he.xs.length m.he.cap) rfl (by kernel_rfl) (by kernel_rfl) (by kernel_rfl) (by rfl) (fun w' hw => pl_one rfl rfl (dE w' hw) Tryz.underlying58 rfl) hS rfl ?_
   simp only [nz]
   refine hs_t 3 56 (?_) rfl (by kernel_rfl) (by kernel_rfl) (by kernel_rfl) (by rfl) ?_ hS rfl ?_
   rotate_left
   ·intro w' hw
    go_simp
    try with_reducible rfl
   simp only [nz]
   refine hs_t 4 57 (?_) rfl (by kernel_rfl) (by kernel_rfl) (by kernel_rfl) (by rfl) ?_ hS rfl ?_
   rotate_left
   ·intro w' hw
    go_simp
    try with_reducible rfl
   simp only [nz]
   refine hs_t 5 58 (?_) rfl (by kernel_rfl) (by kernel_rfl) (by kernel_rfl) (by rfl) ?_ hS rfl ?_
   rotate_left
   ·intro w' hw
    go_simp
    try with_reducible rfl
   simp only [nz]
   refine hs_t 6 59 (.agg ([.bool g.q, g.rs.val] : List Value).toArray) rfl (by kernel_rfl) (by kernel_rfl) (by kernel_rfl) (by rfl) (fun w' hw => ex_mid rfl rfl (hd_parts hok (rE w' hw)).1 Tryz.underlying24 rfl iszBa) hS rfl ?_
   simp only [nz]
   refine hs_t 8 61 (?_) rfl (by kernel_rfl) (by kernel_rfl) (by kernel_rfl) (by rfl) ?_ hS rfl ?_
   rotate_left
   ·intro w' hw
    go_simp
    try with_reducible rfl
   simp only [nz]
   refine hs_t 9 62 (.slice (some ⟨b, off, none⟩) m.he.xs.length m.he.cap) rfl (by kernel_rfl) (by kernel_rfl) (by kernel_rfl) (by rfl) (fun w' hw => pl_one rfl rfl (dE w' hw) Tryz.underlying58 rfl) hS rfl ?_
   simp only [nz]
   refine hs_t 10 63 (?_) rfl (by kernel_rfl) (by kernel_rfl) (by kernel_rfl) (by rfl) ?_ hS rfl ?_
   rotate_left
   ·intro w' hw
    go_simp
    try with_reducible rfl
   simp only [nz]
   refine hs_t 11 64 (?_) rfl (by kernel_rfl) (by kernel_rfl) (by kernel_rfl) (by rfl) ?_ hS rfl ?_
   rotate_left
   ·intro w' hw
    go_simp
    try with_reducible rfl
   simp only [nz]
   refine hs_t 12 65 (?_) rfl (by kernel_rfl) (by kernel_rfl) (by kernel_rfl) (by rfl) ?_ hS rfl ?_
   rotate_left
   ·intro w' hw
    go_simp
    try with_reducible rfl
   simp only [nz]
   refine hs_t 13 66 (.agg (certL g.vt g.sg).toArray) rfl (by kernel_rfl) (by kernel_rfl) (by kernel_rfl) (by rfl) (fun w' hw => ex_mid rfl rfl (hd_parts hok (rE w' hw)).2 Tryz.underlying31 rfl hic) hS rfl ?_
   simp only [nz]
   refine hs_call (i := 7) (d := some 60) rfl (by kernel_rfl) (by rfl) (by go_simp; first | done | exact ⟨rfl, rfl⟩ | with_reducible rfl) rfl ?_
   refine (refB_on av cv L g.q g.rs w8 row8 (by omega) (hgat.1.below (hA8 w8 hS)) hgf.2.1 hgf.2.2).mono ?_
   intro _ w9 hfin
   obtain ⟨a9, c9, rfl, row9, -, hB9⟩ := FOn.row hfin hL3.out (by omega)
   have hS : (Below w8.heap.size w8) w9 := hB9
   have hbw9 := hS.size
   refine ⟨_, rfl, hS, ?_⟩
   simp only [nz]
   refine hs_call (i := 14) (d := some 67) rfl (by kernel_rfl) (by rfl) (by go_simp; first | done | exact ⟨rfl, rfl⟩ | with_reducible rfl) rfl ?_
   refine (xcertP_on a9 c9 L3 g.vt g.sg w9 row9 hok (hgat.2.below (hA8 w9 hS)) hgf.1 (by omega) (by omega)).mono ?_
   intro _ w10 hfin
   obtain ⟨v9, rfl, m9, hB10⟩ := hfin
   have hS : (Below w8.heap.size w8) w10 := hS.trans (hB10.mono hbw9)
   have hbw10 := hS.size
   refine ⟨_, rfl, hS, ?_⟩
   simp only [nz]
   refine hs_t 15 3 (?_) rfl (by kernel_rfl) (by kernel_rfl) (by kernel_rfl) (by rfl) ?_ hS rfl ?_
   rotate_left
   ·intro w' hw
    go_simp
    try with_reducible rfl
   simp only [nz]
   refine hs_done (by kernel_rfl) ?_
   have HN : Hid (Mine w10 w3.heap.size v9 (L2 ++ (m.he.xs.take (k + 1)).flatMap hdL) ∧ Below w3.heap.size w3 w10) := hide ⟨by
    have e : L2 ++ (m.he.xs.take (k + 1)).flatMap hdL = L3 ++ ctL g.vt g.sg.xs := by rw [HS.out, ← List.append_assoc, hL.out]; unfold hdL; rw [← List.append_assoc, hL3.out]
    rw [e]
    exact m9.mono' (by omega), hb3w8.trans (hS.mono hbs8)⟩
   clear m9
   go_wp2_with fail
   go_roundw
   case rel => exact ⟨k + 1, by omega, by go_num, HN⟩
   case measure => simp [intOf]; omega
  ·obtain rfl : k = m.he.xs.length := by omega
   rw [List.take_length] at hM
   have HF : Hid (FOn [] (putL 3 ++ ([m.ce, m.cl, m.cv].flatMap putL ++ hdsL m.he.xs)) w (.returned u3) wr) := hide ⟨_, rfl, by
    have e : ([] : List Int) ++ (putL 3 ++ ([m.ce, m.cl, m.cv].flatMap putL ++ hdsL m.he.xs)) = L2 ++ m.he.xs.flatMap hdL := by rw [← hL2.out, ← hL1.out]; simp [hdsL]
    rw [e]
    exact hM.mono' (by omega), hBr⟩
   go_wp2_with fail
   go_ret
   exact HF.out
set_option maxRecDepth 100000 in
set_option maxHeartbeats 400000 in
theorem xb4_on (m : Mg) (w : World) (om : m.ok) (am : m.At w) (hf : m.Fine) (hk : m.k = 4) : Calls Tryz.prog 53 #[.agg m.ms.cells.toArray] w fun e w' => FOn [] m.bytes w e w' := by
 have hall := hf.all
 have hbd : m.bytes = putL 4 ++ m.body := by unfold Mg.bytes; rw [hk]
 have hbody : m.body = [m.e, m.l, m.v].flatMap putL ++ evsL m.ne.xs := by unfold Mg.body; rw [hk]; rfl
 rw [hbd, hbody] at hall
 simp only [List.length_append] at hall
 rw [hbd, hbody]
 clear hbd
 have hat : ∀ {w' : World} {b : Nat}, w'.rangeAt b 0 m.ms.cells → m.ms.at w' b := fun hr => om.ms.at hr
 have hkk : m.ms.k = 4 := hk
 obtain ⟨q, hq⟩ : ∃ q, Hid (m.ms.cells = q) := ⟨_, hide rfl⟩
 rw [hq.out]
 simp only [hq.out] at hat
 clear hq
 obtain ⟨hB1, hR1, hs1⟩ := boxed_new w q 63
 have cK := fun w' => xput_on none 0 [] 4 w' (nil_row w') (by simp) (by decide)
 simp only [List.length_nil] at cK
 obtain ⟨L1, hL1⟩ : ∃ L, Hid (([] : List Int) ++ putL 4 = L) := ⟨_, hide rfl⟩
 have HLl : Hid (L1.length = (putL 4).length) := hide (by rw [← hL1.out]; rfl)
 have hK9 : (putL 4).length ≤ 9 := by decide
 go_enter Tryz.func53, Tryz.ntmps53
 go_upto_region 1 with fail
 obtain ⟨w1, hw1⟩ : ∃ W, w.alloc (.cells q.toArray 63) = W := ⟨_, rfl⟩
 rw [hw1] at hB1 hR1 hs1 ⊢
 clear hw1
 have ck := (hat hR1).k
 rw [hkk] at ck
 try simp only [Act.put]
 refine pl_begin ?_
 refine pl_t 7 (?_) (by rfl) ?_ rfl ?_
 rotate_left
 ·go_simp
  try with_reducible rfl
 simp only [nz]
 refine pl_t 8 (.int .i64 4) (by rfl) (pl_one rfl rfl ck Tryz.underlying3 rfl) rfl ?_
 simp only [nz]
 refine pl_call (d := some 9) (by rfl) (by go_simp; first | done | exact ⟨rfl, rfl⟩ | with_reducible rfl) rfl ?_
 refine (cK w1).mono ?_
 rintro _ w2 hfin
 obtain ⟨a2, c2, rfl, row2, -, hB2⟩ := FOn.row hfin hL1.out (by have := HLl.out; omega)
 refine ⟨_, rfl, ?_⟩
 simp only [nz]
 refine pl_t 3 (?_) (by rfl) ?_ rfl ?_
 rotate_left
 ·go_simp
  try with_reducible rfl
 simp only [nz]
 refine pl_nil ?_
 have hBw2 := hB1.trans (hB2.mono hB1.size)
 have hR2 := range_below hR1 hB2 hs1
 have hs2 : w.heap.size < w2.heap.size := Nat.lt_of_lt_of_le hs1 hB2.size
 have MA := hat hR2
 have ck := MA.k
 rw [hkk] at ck
 clear cK
 have hxl := hf.nn
 obtain ⟨L2, hL2⟩ : ∃ L, Hid (L1 ++ [m.e, m.l, m.v, (m.ne.xs.length : Int)].flatMap putL = L) := ⟨_, hide rfl⟩
 have hL2l : Hid (L2.length + (m.ne.xs.flatMap evL).length ≤ 40000) := hide (by
  rw [← hL2.out, List.length_append, HLl.out]
  unfold evsL at hall
  simp only [List.flatMap_cons, List.flatMap_nil, List.length_append, List.length_nil] at hall ⊢
  omega)
 obtain ⟨w3, hw3⟩ : ∃ W, w2 = W := ⟨_, rfl⟩
 rw [hw3] at MA hBw2 row2 hs2 ck ⊢
 clear hR2 hB2 hw3
 have d0 := MA.e
 have d1 := MA.l
 have d2 := MA.v
 have dbox : w3.cell? ⟨w.heap.size, 47, none⟩ = some (.slice m.ne.a m.ne.xs.length m.ne.cap) := MA.ne
 have hBw3 := hBw2
 have cN := xnums_on a2 c2 L1 [m.e, m.l, m.v, (m.ne.xs.length : Int)] #[.int .i64 m.e, .int .i64 m.l, .int .i64 m.v, .int .i64 (m.ne.xs.length : Int)] 4 w3 row2 rfl rfl (by have := HLl.out; omega) (by omega) (by omega) (four_le' hf.e hf.l hf.v (by omega))
 clear MA
 go_upto_region 15 with fail
 try simp only [Act.put]
 refine pl_begin ?_
 refine pl_t 70 (?_) (by rfl) ?_ rfl ?_
 rotate_left
 ·go_simp
  try with_reducible rfl
 simp only [nz]
 refine pl_t 71 (?_) (by rfl) ?_ rfl ?_
 rotate_left
 ·go_simp
  try with_reducible rfl
 simp only [nz]
 refine pl_t 72 (.int .i64 m.e) (by rfl) (pl_one rfl rfl d0 Tryz.underlying3 rfl) rfl ?_
 simp only [nz]
 refine pl_t 73 (?_) (by rfl) ?_ rfl ?_
 rotate_left
 ·go_simp
  try with_reducible rfl
 simp only [nz]
 refine pl_t 74 (.int .i64 m.l) (by rfl) (pl_one rfl rfl d1 Tryz.underlying3 rfl) rfl ?_
 simp only [nz]
 refine pl_t 75 (?_) (by rfl) ?_ rfl ?_
 rotate_left
 ·go_simp
  try with_reducible rfl
 simp only [nz]
 refine pl_t 76 (.int .i64 m.v) (by rfl) (pl_one rfl rfl d2 Tryz.underlying3 rfl) rfl ?_
 simp only [nz]
 refine pl_t 77 (?_) (by rfl) ?_ rfl ?_
 rotate_left
 ·go_simp
  try with_reducible rfl
 simp only [nz]
 refine pl_t 78 (.slice m.ne.a m.ne.xs.length m.ne.cap) (by rfl) (pl_one rfl rfl dbox Tryz.underlying61 rfl) rfl ?_
 simp only [nz]
 refine pl_t 79 (?_) (by rfl) ?_ rfl ?_
 rotate_left
 ·go_simp
  try with_reducible rfl
 simp only [nz]
 refine pl_run (d := some 80) (v := .slice (some ⟨w3.heap.size, 0, none⟩) 4 4) (w' := w3.alloc (.cells #[.int .i64 m.e, .int .i64 m.l, .int .i64 m.v, .int .i64 (m.ne.xs.length : Int)] 3)) (by rfl) (ex_bsi4 rfl rfl rfl rfl rfl (run_bsi4 m.e m.l m.v _ _)) rfl ?_
 simp only [nz]
 refine pl_call (d := some 81) (by rfl) (by go_simp; first | done | exact ⟨rfl, rfl⟩ | with_reducible rfl) rfl ?_
 refine (cN).mono ?_
 rintro _ w4 hfin
 obtain ⟨a4, c4, rfl, row4, m4, hB4⟩ := FOn.row hfin hL2.out (by have := hL2l.out; omega)
 refine ⟨_, rfl, ?_⟩
 simp only [nz]
 refine pl_t 3 (?_) (by rfl) ?_ rfl ?_
 rotate_left
 ·go_simp
  try with_reducible rfl
 simp only [nz]
 refine pl_nil ?_
 have hBw4 := hBw3.trans (hB4.mono hBw3.size)
 have hsw := hBw3.size
 clear cN d0 d1 d2 row4
 have hW4 := hBw4.size
 have HK0 : Hid (Mine w4 w3.heap.size (.slice a4 L2.length c4) (L2 ++ (m.ne.xs.take 0).flatMap evL) ∧ Below w3.heap.size w3 w4) := hide ⟨by simpa using m4, hB4⟩
 clear m4
 go_wp2_with fail
 go_loopw [3, 6] (fun ov iv wr => ∃ k : Nat, k ≤ m.ne.xs.length ∧ iv = .int .i64 (k : Int) ∧ Hid (Mine wr w3.heap.size ov (L2 ++ (m.ne.xs.take k).flatMap evL) ∧ Below w3.heap.size w3 wr)) (fun _ iv _ => m.ne.xs.length - (intOf iv).toNat)
 case atStart => exact ⟨0, by omega, rfl, HK0⟩
 case round =>
  clear HK0
  obtain ⟨k, hk', rfl, HK⟩ := hrel
  obtain ⟨hM, hB⟩ := HK.out
  clear HK
  have hBr := hBw3.trans (hB.mono hBw3.size)
  have hrs := hB.size
  have dl := (hB.cell (p := ⟨w.heap.size, 47, none⟩) (by show w.heap.size < w3.heap.size; omega)).trans dbox
  by_cases hlt : k < m.ne.xs.length
  ·have k1 : (k : Int) < m.ne.xs.length := by omega
   obtain ⟨b, off, hae, hbb, hre⟩ := RowsAt.elem (am.ne.below hBr) k hlt
   have hre : wr.rangeAt b (off + k * 18) (EvE.f m.ne.xs[k]) := hre
   have hok := (am.ne.below hBr).2.1 _ (List.getElem_mem hlt)
   have hgf := hf.ne _ (List.getElem_mem hlt)
   have HS : Hid ((m.ne.xs.take (k + 1)).flatMap evL = (m.ne.xs.take k).flatMap evL ++ evL m.ne.xs[k]) := hide (by rw [List.take_succ_eq_append_getElem hlt, List.flatMap_append]; simp)
   have hll : ((m.ne.xs.take (k + 1)).flatMap evL).length ≤ (m.ne.xs.flatMap evL).length := by
    have e : m.ne.xs.flatMap evL = (m.ne.xs.take (k + 1)).flatMap evL ++ (m.ne.xs.drop (k + 1)).flatMap evL := by rw [← List.flatMap_append, List.take_append_drop]
    rw [e, List.length_append]
    omega
   rw [HS.out, List.length_append] at hll
   obtain ⟨g, hgg⟩ : ∃ g, Hid (m.ne.xs[k] = g) := ⟨_, hide rfl⟩
   rw [hgg.out] at hre hok HS hll hgf
   clear hgg
   obtain ⟨L, hL⟩ : ∃ L, Hid (L2 ++ (m.ne.xs.take k).flatMap evL = L) := ⟨_, hide rfl⟩
   have hLl : L.length + (evL g).length ≤ 40000 := by rw [← hL.out, List.length_append]; have := hL2l.out; omega
   rw [hL.out] at hM
   obtain ⟨av, cv, hve, _, _, hrow⟩ := hM.rowAt (by unfold maxLen; omega)
   rw [hve] at hM ⊢
   rw [hae] at dl
   have hok : g.ok := hok
   have hit : (Tryz.prog.info? 89).map (·.size) = some (v8 g.t).length := by rw [v8_length, hok.tl]; exact iszTg
   have hel : (evL g).length = (putL g.n).length + ((textL g.s).length + g.t.length) := by unfold evL; simp only [List.length_append]
   obtain ⟨L3, hL3⟩ : ∃ L3, Hid (L ++ putL g.n = L3) := ⟨_, hide rfl⟩
   have hL3l : L3.length ≤ 40000 := by rw [← hL3.out, List.length_append]; omega
   obtain ⟨L4, hL4⟩ : ∃ L4, Hid (L3 ++ textL g.s = L4) := ⟨_, hide rfl⟩
   have hL4l : L4.length ≤ 40000 := by rw [← hL4.out, ← hL3.out]; simp only [List.length_append]; omega
   clear hel
   go_upto_region 19 with fail
   refine hs_begin (S := (Below wr.drew.heap.size wr.drew)) 23 rfl (by kernel_rfl) ?_
   have hB8 : Below wr.heap.size wr wr.drew := (Below.refl _ _).drew
   obtain ⟨w8, hw8⟩ : ∃ W, wr.drew = W := ⟨_, rfl⟩
   rw [hw8] at hB8 ⊢
   clear hw8
   have row8 : RowAt w8 av L := hrow.below hB8
   have hr8 := range_below hre hB8 hbb
   have hb8s : b < w8.heap.size := Nat.lt_of_lt_of_le hbb hB8.size
   have hX8 : w.heap.size < wr.heap.size := by omega
   have hX8' : w.heap.size < w8.heap.size := Nat.lt_of_lt_of_le hX8 hB8.size
   have dl8 := (hB8.cell (p := ⟨w.heap.size, 47, none⟩) hX8).trans dl
   have dE : ∀ w', Below w8.heap.size w8 w' → w'.cell? ⟨w.heap.size, 47, none⟩ = some (.slice (some ⟨b, off, none⟩) m.ne.xs.length m.ne.cap) := fun w' hw => (hw.cell (p := ⟨w.heap.size, 47, none⟩) hX8').trans dl8
   have rE : ∀ w', Below w8.heap.size w8 w' → w'.rangeAt b (off + k * 18) (g.cells) := fun w' hw => range_below hr8 hw hb8s
   have hBw8 := hBr.trans (hB8.mono hBr.size)
   have hb3w8 := hB.trans (hB8.mono hB.size)
   have hA8 : ∀ w', Below w8.heap.size w8 w' → Below wr.heap.size wr w' := fun w' hw => hB8.trans (hw.mono hB8.size)
   have hS : (Below w8.heap.size w8) w8 := Below.refl _ _
   have hbs8 := hb3w8.size
   clear hre hr8 hM hrow dl8
   refine hs_t 0 89 (?_) rfl (by kernel_rfl) (by kernel_rfl) (by kernel_rfl) (by rfl) ?_ hS rfl ?_
   rotate_left
   ·intro w' hw
    go_simp
    try with_reducible rfl
   simp only [nz]
   refine hs_t 1 90 (?_) rfl (by kernel_rfl) (by kernel_rfl) (by kernel_rfl) (by rfl) ?_ hS rfl ?_
   rotate_left
   ·intro w' hw
    go_simp
    try with_reducible rfl
   simp only [nz]
   refine hs_t 2 91 (.slice (some ⟨b, off, none⟩) m.ne.xs.length m.ne.cap) rfl (by kernel_rfl) (by kernel_rfl) (by kernel_rfl) (by rfl) (fun w' hw => pl_one rfl rfl (dE w' hw) Tryz.underlying61 rfl) hS rfl ?_
   simp only [nz]
   refine hs_t 3 92 (?_) rfl (by kernel_rfl) (by kernel_rfl) (by kernel_rfl) (by rfl) ?_ hS rfl ?_
   rotate_left
   ·intro w' hw
    go_simp
    try with_reducible rfl
   simp only [nz]
   refine hs_t 4 93 (?_) rfl (by kernel_rfl) (by kernel_rfl) (by kernel_rfl) (by rfl) ?_ hS rfl ?_
   rotate_left
   ·intro w' hw
    go_simp
    try with_reducible rfl
   simp only [nz]
   refine hs_t 5 94 (?_) rfl (by kernel_rfl) (by kernel_rfl) (by kernel_rfl) (by rfl) ?_ hS rfl ?_
   rotate_left
   ·intro w' hw
    go_simp
    try with_reducible rfl
   simp only [nz]
   refine hs_t 6 95 (.int .i64 g.n) rfl (by kernel_rfl) (by kernel_rfl) (by kernel_rfl) (by rfl) (fun w' hw => pl_one rfl rfl (ev_parts (rE w' hw)).1 Tryz.underlying3 rfl) hS rfl ?_
   simp only [nz]
   refine hs_t 8 97 (?_) rfl (by kernel_rfl) (by kernel_rfl) (by kernel_rfl) (by rfl) ?_ hS rfl ?_
   rotate_left
   ·intro w' hw
    go_simp
    try with_reducible rfl
   simp only [nz]
   refine hs_t 9 98 (.slice (some ⟨b, off, none⟩) m.ne.xs.length m.ne.cap) rfl (by kernel_rfl) (by kernel_rfl) (by kernel_rfl) (by rfl) (fun w' hw => pl_one rfl rfl (dE w' hw) Tryz.underlying61 rfl) hS rfl ?_
   simp only [nz]
   refine hs_t 10 99 (?_) rfl (by kernel_rfl) (by kernel_rfl) (by kernel_rfl) (by rfl) ?_ hS rfl ?_
   rotate_left
   ·intro w' hw
    go_simp
    try with_reducible rfl
   simp only [nz]
   refine hs_t 11 100 (?_) rfl (by kernel_rfl) (by kernel_rfl) (by kernel_rfl) (by rfl) ?_ hS rfl ?_
   rotate_left
   ·intro w' hw
    go_simp
    try with_reducible rfl
   simp only [nz]
   refine hs_t 12 101 (?_) rfl (by kernel_rfl) (by kernel_rfl) (by kernel_rfl) (by rfl) ?_ hS rfl ?_
   rotate_left
   ·intro w' hw
    go_simp
    try with_reducible rfl
   simp only [nz]
   refine hs_t 13 102 (.string g.s) rfl (by kernel_rfl) (by kernel_rfl) (by kernel_rfl) (by rfl) (fun w' hw => pl_one rfl rfl (ev_parts (rE w' hw)).2.1 Tryz.underlying9 rfl) hS rfl ?_
   simp only [nz]
   refine hs_t 15 104 (?_) rfl (by kernel_rfl) (by kernel_rfl) (by kernel_rfl) (by rfl) ?_ hS rfl ?_
   rotate_left
   ·intro w' hw
    go_simp
    try with_reducible rfl
   simp only [nz]
   refine hs_t 16 105 (.slice (some ⟨b, off, none⟩) m.ne.xs.length m.ne.cap) rfl (by kernel_rfl) (by kernel_rfl) (by kernel_rfl) (by rfl) (fun w' hw => pl_one rfl rfl (dE w' hw) Tryz.underlying61 rfl) hS rfl ?_
   simp only [nz]
   refine hs_t 17 106 (?_) rfl (by kernel_rfl) (by kernel_rfl) (by kernel_rfl) (by rfl) ?_ hS rfl ?_
   rotate_left
   ·intro w' hw
    go_simp
    try with_reducible rfl
   simp only [nz]
   refine hs_t 18 107 (?_) rfl (by kernel_rfl) (by kernel_rfl) (by kernel_rfl) (by rfl) ?_ hS rfl ?_
   rotate_left
   ·intro w' hw
    go_simp
    try with_reducible rfl
   simp only [nz]
   refine hs_t 19 108 (?_) rfl (by kernel_rfl) (by kernel_rfl) (by kernel_rfl) (by rfl) ?_ hS rfl ?_
   rotate_left
   ·intro w' hw
    go_simp
    try with_reducible rfl
   simp only [nz]
   refine hs_t 20 109 (.agg (v8 g.t).toArray) rfl (by kernel_rfl) (by kernel_rfl) (by kernel_rfl) (by rfl) (fun w' hw => ex_mid rfl rfl (ev_parts (rE w' hw)).2.2 Tryz.underlying89 rfl hit) hS rfl ?_
   simp only [nz]
   refine hs_call (i := 7) (d := some 96) rfl (by kernel_rfl) (by rfl) (by go_simp; first | done | exact ⟨rfl, rfl⟩ | with_reducible rfl) rfl ?_
   refine (xput_on av cv L g.n w8 row8 (by omega) hok.nh).mono ?_
   intro _ w9 hfin
   obtain ⟨a9, c9, rfl, row9, -, hB9⟩ := FOn.row hfin hL3.out (by omega)
   have hS : (Below w8.heap.size w8) w9 := hB9
   have hbw9 := hS.size
   refine ⟨_, rfl, hS, ?_⟩
   simp only [nz]
   refine hs_call (i := 14) (d := some 103) rfl (by kernel_rfl) (by rfl) (by go_simp; first | done | exact ⟨rfl, rfl⟩ | with_reducible rfl) rfl ?_
   refine (xtext_on a9 c9 L3 g.s w9 row9 (by omega) hgf).mono ?_
   intro _ w10 hfin
   obtain ⟨a10, c10, rfl, row10, m10, hB10⟩ := FOn.row hfin hL4.out (by omega)
   have hS : (Below w8.heap.size w8) w10 := hS.trans (hB10.mono hbw9)
   have hbw10 := hS.size
   refine ⟨_, rfl, hS, ?_⟩
   simp only [nz]
   refine hs_call (i := 21) (d := some 110) rfl (by kernel_rfl) (by rfl) (by go_simp; first | done | exact ⟨rfl, rfl⟩ | with_reducible rfl) rfl ?_
   refine (xtag_any w9.heap.size _ L4 g.t w10 m10 hB10.size (by omega) hok.tl hok.tb).mono ?_
   intro _ w11 hfin
   obtain ⟨v9, rfl, m9, o9, -⟩ := hfin
   have hB11 := off_below o9 m10 hbw9 hbw10
   have hS : (Below w8.heap.size w8) w11 := hS.trans hB11
   have hbw11 := hS.size
   refine ⟨_, rfl, hS, ?_⟩
   simp only [nz]
   refine hs_t 22 3 (?_) rfl (by kernel_rfl) (by kernel_rfl) (by kernel_rfl) (by rfl) ?_ hS rfl ?_
   rotate_left
   ·intro w' hw
    go_simp
    try with_reducible rfl
   simp only [nz]
   refine hs_done (by kernel_rfl) ?_
   have HN : Hid (Mine w11 w3.heap.size v9 (L2 ++ (m.ne.xs.take (k + 1)).flatMap evL) ∧ Below w3.heap.size w3 w11) := hide ⟨by
    have e : L2 ++ (m.ne.xs.take (k + 1)).flatMap evL = L4 ++ g.t := by rw [HS.out, ← List.append_assoc, hL.out]; unfold evL; rw [← List.append_assoc, hL3.out, ← List.append_assoc, hL4.out]
    rw [e]
    exact m9.mono' (by omega), hb3w8.trans (hS.mono hbs8)⟩
   clear m9
   go_wp2_with fail
   go_roundw
   case rel => exact ⟨k + 1, by omega, by go_num, HN⟩
   case measure => simp [intOf]; omega
  ·obtain rfl : k = m.ne.xs.length := by omega
   rw [List.take_length] at hM
   have HF : Hid (FOn [] (putL 4 ++ ([m.e, m.l, m.v].flatMap putL ++ evsL m.ne.xs)) w (.returned u3) wr) := hide ⟨_, rfl, by
    have e : ([] : List Int) ++ (putL 4 ++ ([m.e, m.l, m.v].flatMap putL ++ evsL m.ne.xs)) = L2 ++ m.ne.xs.flatMap evL := by rw [← hL2.out, ← hL1.out]; simp [evsL]
    rw [e]
    exact hM.mono' (by omega), hBr⟩
   go_wp2_with fail
   go_ret
   exact HF.out
theorem xbytes_on (m : Mg) (w : World) (om : m.ok) (am : m.At w) (hf : m.Fine) (h1 : 1 ≤ m.k) (h8 : m.k ≤ 8) : Calls Tryz.prog 53 #[.agg m.ms.cells.toArray] w fun e w' => FOn [] m.bytes w e w' := by
 have hk : m.k = 1 ∨ m.k = 2 ∨ m.k = 3 ∨ m.k = 4 ∨ m.k = 5 ∨ m.k = 6 ∨ m.k = 7 ∨ m.k = 8 := by omega
 rcases hk with hk | hk | hk | hk | hk | hk | hk | hk
 ·exact xb1_on m w om am hf hk
 ·exact xb2_on m w om am hf hk
 ·exact xb3_on m w om am hf hk
 ·exact xb4_on m w om am hf hk
 ·exact xb5_on m w om am hf hk
 ·exact xb6_on m w om am hf hk
 ·exact xb7_on m w om am hf hk
 ·exact xb8_on m w om am hf hk
set_option maxRecDepth 100000 in
set_option maxHeartbeats 4000000 in
theorem enc1 (q : List Value) (b : Bool) (zs : List Int) (w : World) (hq : q.length = 119)
  (hg : ∀ w0, Below w.heap.size w w0 → Calls Tryz.prog 26 #[.agg q.toArray] w0 fun e w' => e = .returned (.bool b) ∧ Below w0.heap.size w0 w') (hw : b = true → ∀ (X : Nat) (w0 : World), Below w.heap.size w w0 → w.heap.size ≤ X → WrAt w0 X (.slice none 0 0) [] false → Calls Tryz.prog 85 #[.pointer (some ⟨X, 0, none⟩), .agg q.toArray] w0 fun e w' => WrOn X (.slice none 0 0) [] zs w0 e w') :
  Calls Tryz.prog 49 #[.agg q.toArray] w fun e w' => e = .returned (encV b zs) ∧ Below w.heap.size w w' := by
 have hB : Below w.heap.size w (w.alloc (.cells q.toArray 63)) := (Below.refl _ _).alloc (Nat.le_refl _) _
 have hs : w.heap.size < (w.alloc (.cells q.toArray 63)).heap.size := by simp
 have hA : (w.alloc (.cells q.toArray 63)).rangeAt w.heap.size 0 q := by simpa using range_new w q.toArray 63
 have iq : (Tryz.prog.info? 63).map (·.size) = some q.length := by rw [hq]; exact iszM
 clear hq
 cases b
 ·show Calls Tryz.prog 49 #[.agg q.toArray] w fun e w' => e = .returned (.tuple #[.string ⟨#[]⟩, .int .i64 130]) ∧ Below w.heap.size w w'
  clear hw
  go_enter Tryz.func49, Tryz.ntmps49
  go_upto_region 1 with fail
  go_name_world w1 hw1
  rw [show w.alloc (.cells q.toArray 63) = w1 from hw1] at hB hs hA
  clear hw1
  go_wp2_with (refine wpList_load_mid rfl 63 _ rfl _ _ rfl q _ hA Tryz.underlying63 rfl iq ?_)
  refine (hg _ hB).mono ?_
  rintro e2 w2 ⟨rfl, hb2⟩
  have hB2 := hB.trans (hb2.mono (by omega))
  clear hA hg hB hb2
  go_wp2
  go_ret2
  exact ⟨rfl, hB2⟩
 ·show Calls Tryz.prog 49 #[.agg q.toArray] w fun e w' => e = .returned (.tuple #[.string (strOf zs), .int .i64 0]) ∧ Below w.heap.size w w'
  replace hw := hw rfl
  obtain ⟨sz, hsz⟩ : ∃ sz, Hid (strOf zs = sz) := ⟨_, hide rfl⟩
  rw [hsz.out]
  go_enter Tryz.func49, Tryz.ntmps49
  go_upto_region 1 with fail
  go_name_world w1 hw1
  rw [show w.alloc (.cells q.toArray 63) = w1 from hw1] at hB hs hA
  clear hw1
  go_wp2_with (refine wpList_load_mid rfl 63 _ rfl _ _ rfl q _ hA Tryz.underlying63 rfl iq ?_)
  refine (hg _ hB).mono ?_
  rintro e2 w2 ⟨rfl, hb2⟩
  have hB2 := hB.trans (hb2.mono (by omega))
  have hA2 := range_below hA hb2 hs
  have hs2 := Nat.lt_of_lt_of_le hs hb2.size
  clear hA hg hB hb2 hs
  go_upto_region 4 with fail
  have hN := wr_new w2
  have hB3 : Below w2.heap.size w2 (w2.alloc (.cells #[.slice none 0 0, .bool false] 127)) := (Below.refl _ _).alloc (Nat.le_refl _) _
  go_name_world w3 hw3
  rw [show w2.alloc (.cells #[.slice none 0 0, .bool false] 127) = w3 from hw3] at hN hB3
  clear hw3
  have hA3 := range_below hA2 hB3 hs2
  have hB4 := hB2.trans (hB3.mono (by omega))
  have cw := hw w2.heap.size w3 hB4 hB2.size hN
  have hs3 := hN.lt
  clear hA2 hB2 hB3 hw hN
  go_wp2_with (refine wpList_load_mid rfl 63 _ rfl _ _ rfl q _ hA3 Tryz.underlying63 rfl iq ?_)
  refine cw.mono ?_
  rintro e5 w5 ⟨v5, rfl, hW5, hO5, _⟩
  rw [List.nil_append] at hW5
  have c0 := hW5.c0
  have c1 := hW5.c1
  have hcs := mine_str hW5.me
  have hB5 := hB4.trans (hO5.below (n := w.heap.size) (by omega) (fun b hb hf => by
   rcases hf with hf | hf
   ·omega
   ·cases hf))
  obtain ⟨a5, cap5, rfl⟩ : ∃ a cap, v5 = .slice a zs.length cap := by
   rcases own_range hW5.me.1 with ⟨rfl, h0, _⟩ | ⟨g, cap, rfl, _⟩
   ·exact ⟨none, 0, by rw [h0]⟩
   ·exact ⟨_, cap, rfl⟩
  rw [hsz.out] at hcs
  clear hsz cw hW5 hO5 hA3 hB4
  go_wp2
  go_ret2
  exact ⟨rfl, hB5⟩
set_option maxRecDepth 100000 in
set_option maxHeartbeats 4000000 in
theorem xenc1 (q : List Value) (b : Bool) (zs : List Int) (w : World) (hq : q.length = 119) (hl : b = true → zs.length ≤ 40000)
  (hg : ∀ w0, Below w.heap.size w w0 → Calls Tryz.prog 29 #[.agg q.toArray] w0 fun e w' => e = .returned (.bool b) ∧ Below w0.heap.size w0 w') (ht : b = true → ∀ w0, Below w.heap.size w w0 → Calls Tryz.prog 53 #[.agg q.toArray] w0 fun e w' => FOn [] zs w0 e w') :
  Calls Tryz.prog 23 #[.agg q.toArray] w fun e w' => e = .returned (encV b zs) ∧ Below w.heap.size w w' := by
 have hB : Below w.heap.size w (w.alloc (.cells q.toArray 63)) := (Below.refl _ _).alloc (Nat.le_refl _) _
 have hs : w.heap.size < (w.alloc (.cells q.toArray 63)).heap.size := by simp
 have hA : (w.alloc (.cells q.toArray 63)).rangeAt w.heap.size 0 q := by simpa using range_new w q.toArray 63
 have iq : (Tryz.prog.info? 63).map (·.size) = some q.length := by rw [hq]; exact iszM
 clear hq
 cases b
 ·show Calls Tryz.prog 23 #[.agg q.toArray] w fun e w' => e = .returned (.tuple #[.string ⟨#[]⟩, .int .i64 130]) ∧ Below w.heap.size w w'
  clear ht hl
  go_enter Tryz.func23, Tryz.ntmps23
  go_upto_region 1 with fail
  go_name_world w1 hw1
  rw [show w.alloc (.cells q.toArray 63) = w1 from hw1] at hB hs hA
  clear hw1
  go_wp2_with (refine wpList_load_mid rfl 63 _ rfl _ _ rfl q _ hA Tryz.underlying63 rfl iq ?_)
  refine (hg _ hB).mono ?_
  rintro e2 w2 ⟨rfl, hb2⟩
  have hB2 := hB.trans (hb2.mono (by omega))
  clear hA hg hB hb2
  go_wp2
  go_ret2
  exact ⟨rfl, hB2⟩
 ·show Calls Tryz.prog 23 #[.agg q.toArray] w fun e w' => e = .returned (.tuple #[.string (strOf zs), .int .i64 0]) ∧ Below w.heap.size w w'
  replace ht := ht rfl
  replace hl := hl rfl
  obtain ⟨sz, hsz⟩ : ∃ sz, Hid (strOf zs = sz) := ⟨_, hide rfl⟩
  rw [hsz.out]
  go_enter Tryz.func23, Tryz.ntmps23
  go_upto_region 1 with fail
  go_name_world w1 hw1
  rw [show w.alloc (.cells q.toArray 63) = w1 from hw1] at hB hs hA
  clear hw1
  go_wp2_with (refine wpList_load_mid rfl 63 _ rfl _ _ rfl q _ hA Tryz.underlying63 rfl iq ?_)
  refine (hg _ hB).mono ?_
  rintro e2 w2 ⟨rfl, hb2⟩
  have hB2 := hB.trans (hb2.mono (by omega))
  have hA2 := range_below hA hb2 hs
  have hs2 := Nat.lt_of_lt_of_le hs hb2.size
  clear hA hg hB hb2 hs
  go_wp2_with (refine wpList_load_mid rfl 63 _ rfl _ _ rfl q _ hA2 Tryz.underlying63 rfl iq ?_)
  refine (ht _ hB2).mono ?_
  rintro e3 w3 ⟨v3, rfl, hM3, hb3⟩
  rw [List.nil_append] at hM3
  have hcs := mine_str hM3
  rw [hsz.out] at hcs
  have hB3 := hB2.trans (hb3.mono (by omega))
  obtain ⟨a5, cap5, rfl⟩ : ∃ a cap, v3 = .slice a zs.length cap := by
   rcases own_range hM3.1 with ⟨rfl, h0, _⟩ | ⟨g, cap, rfl, _⟩
   ·exact ⟨none, 0, by rw [h0]⟩
   ·exact ⟨_, cap, rfl⟩
  have hl' : (zs.length : Int) ≤ 40000 := by omega
  clear hl hsz hM3 hb3 hA2 hB2 ht
  go_wp2
  go_ret2
  exact ⟨rfl, hB3⟩
theorem Mg.good_k {m : Mg} (h : m.good = true) : 1 ≤ m.k ∧ m.k ≤ 8 := by
 unfold Mg.good at h
 rw [Bool.and_eq_true] at h
 exact of_decide_eq_true h.1
theorem enc_any (m : Mg) (w : World) (om : m.ok) (am : m.At w) (hf : m.good = true → m.Fine) : Calls Tryz.prog 49 #[.agg m.ms.cells.toArray] w fun e w' => e = .returned (encV m.good m.bytes) ∧ Below w.heap.size w w' :=
 enc1 m.ms.cells m.good m.bytes w om.ms.len (fun w0 h0 => good_any m w0 om (am.below h0)) (fun hg X w0 h0 hX hW => wmsg_on X _ [] m w w0 om am (hf hg) (Mg.good_k hg).1 (Mg.good_k hg).2 h0 hX hW (by simp))
theorem xenc_any (m : Mg) (w : World) (om : m.ok) (am : m.At w) (hf : m.good = true → m.Fine) (cg : ∀ w0, Below w.heap.size w w0 → Calls Tryz.prog 29 #[.agg m.ms.cells.toArray] w0 fun e w' => e = .returned (.bool m.good) ∧ Below w0.heap.size w0 w') : Calls Tryz.prog 23 #[.agg m.ms.cells.toArray] w fun e w' => e = .returned (encV m.good m.bytes) ∧ Below w.heap.size w w' :=
 xenc1 m.ms.cells m.good m.bytes w om.ms.len (fun hg => (hf hg).all) cg (fun hg w0 h0 => xbytes_on m w0 om (am.below h0) (hf hg) (Mg.good_k hg).1 (Mg.good_k hg).2)
set_option maxRecDepth 100000 in
set_option maxHeartbeats 4000000 in
theorem xsigns_any (x : Sl Sg) (w : World) (hx : x.At SgE w) : Calls Tryz.prog 63 #[x.val] w fun e w' => e = .returned (.bool (sgsMay x)) ∧ w' = w := by
 obtain ⟨a, cap, xs⟩ := x
 have hml : xs.length ≤ maxLen := hx.1
 unfold maxLen at hml
 simp only [Sl.val]
 have E : sgsMay ⟨a, cap, xs⟩ = (xs.all Sg.may && decide ((xs.length : Int) ≤ 64)) := by unfold sgsMay mayL; exact Bool.and_comm _ _
 rw [E]
 clear E
 obtain ⟨sb, hsb⟩ : ∃ sb, Hid (xs.all Sg.may = sb) := ⟨_, hide rfl⟩
 rw [hsb.out]
 go_enter Tryz.func63, Tryz.ntmps63
 go_wp2
 go_loopw [3] (fun iv wr' => ∃ k : Nat, k ≤ xs.length ∧ iv = .int .i64 (k : Int) ∧ Hid (∀ j (hj : j < xs.length), j < k → Sg.may xs[j] = true) ∧ wr' = w) (fun iv _ => xs.length - (intOf iv).toNat)
 case atStart => exact ⟨0, by omega, rfl, hide (fun j _ hj => absurd hj (by omega)), rfl⟩
 case round =>
  obtain ⟨k, hk, rfl, HM, rfl⟩ := hrel
  by_cases hlt : k < xs.length
  ·have k1 : (k : Int) < xs.length := by omega
   obtain ⟨b, off, rfl, hb, hre⟩ := RowsAt.elem hx k hlt
   have ck := hre 0 (.int .i64 xs[k].n) rfl
   simp only [Nat.add_zero] at ck
   change World.cell? _ ⟨b, off + k * 17, none⟩ = _ at ck
   have HT : Hid (inB xs[k].n 64 = true → ∀ j (hj : j < xs.length), j < k + 1 → Sg.may xs[j] = true) := hide (fun h j hj hjk => by
    by_cases e : j = k
    ·subst e; exact h
    ·exact HM.out j hj (by omega))
   have HF : Hid (inB xs[k].n 64 = false → sb = false) := hide (fun h => by
    rw [← hsb.out, List.all_eq_false]
    exact ⟨xs[k], List.getElem_mem hlt, by unfold Sg.may; rw [h]; simp⟩)
   obtain ⟨n, hn⟩ : ∃ n, Hid (xs[k].n = n) := ⟨_, hide rfl⟩
   rw [hn.out] at ck HT HF
   clear hn HM hre
   cases hp : inB n 64
   ·have HF' := hide (HF.out hp)
    clear HF HT hsb
    go_wp2_with (go_at_call 59; refine (upto_any _ _ _).mono ?_; rintro e1 w1 ⟨rfl, hx0⟩; obtain rfl := hx0.symm; clear hx0; rw [hp])
    go_ret
    exact ⟨by rw [HF'.out]; rfl, rfl⟩
   ·have HT' := hide (HT.out hp)
    clear HF HT
    go_wp2_with (go_at_call 59; refine (upto_any _ _ _).mono ?_; rintro e1 w1 ⟨rfl, hx0⟩; obtain rfl := hx0.symm; clear hx0; rw [hp])
    go_roundw
    case rel => exact ⟨k + 1, by omega, by go_num, HT', trivial⟩
    case measure => simp [intOf]; omega
  ·have k1 : ¬ (k : Int) < xs.length := by omega
   have HE : Hid (sb = true) := hide (by
    rw [← hsb.out, List.all_eq_true]
    intro y hy
    obtain ⟨j, hj, rfl⟩ := List.mem_iff_getElem.1 hy
    exact HM.out j hj (by omega))
   clear HM hsb
   go_wp2
   go_ret
   exact ⟨by rw [HE.out]; simp, rfl⟩
set_option maxRecDepth 100000 in
set_option maxHeartbeats 4000000 in
theorem xnews_any (x : Sl Ev) (w : World) (hx : x.At EvE w) : Calls Tryz.prog 62 #[x.val] w fun e w' => e = .returned (.bool (mayL 64 Ev.may x.xs)) ∧ w' = w := by
 obtain ⟨a, cap, xs⟩ := x
 have hml : xs.length ≤ maxLen := hx.1
 unfold maxLen at hml
 simp only [Sl.val]
 have E : mayL 64 Ev.may xs = (xs.all Ev.may && decide ((xs.length : Int) ≤ 64)) := by unfold mayL; exact Bool.and_comm _ _
 rw [E]
 clear E
 obtain ⟨sb, hsb⟩ : ∃ sb, Hid (xs.all Ev.may = sb) := ⟨_, hide rfl⟩
 rw [hsb.out]
 go_enter Tryz.func62, Tryz.ntmps62
 go_wp2
 go_loopw [3] (fun iv wr' => ∃ k : Nat, k ≤ xs.length ∧ iv = .int .i64 (k : Int) ∧ Hid (∀ j (hj : j < xs.length), j < k → Ev.may xs[j] = true) ∧ wr' = w) (fun iv _ => xs.length - (intOf iv).toNat)
 case atStart => exact ⟨0, by omega, rfl, hide (fun j _ hj => absurd hj (by omega)), rfl⟩
 case round =>
  obtain ⟨k, hk, rfl, HM, rfl⟩ := hrel
  by_cases hlt : k < xs.length
  ·have k1 : (k : Int) < xs.length := by omega
   obtain ⟨b, off, rfl, hb, hre⟩ := RowsAt.elem hx k hlt
   have ck := hre 0 (.int .i64 xs[k].n) rfl
   have ck1 := hre 1 (.string xs[k].s) rfl
   simp only [Nat.add_zero] at ck
   change World.cell? _ ⟨b, off + k * 18, none⟩ = _ at ck
   change World.cell? _ ⟨b, off + k * 18 + 1, none⟩ = _ at ck1
   have HT : Hid ((inB xs[k].n 64 && decide ((xs[k].s.size : Int) ≤ 4194304)) = true → ∀ j (hj : j < xs.length), j < k + 1 → Ev.may xs[j] = true) := hide (fun h j hj hjk => by
    by_cases e : j = k
    ·subst e; exact h
    ·exact HM.out j hj (by omega))
   have HF : Hid ((inB xs[k].n 64 && decide ((xs[k].s.size : Int) ≤ 4194304)) = false → sb = false) := hide (fun h => by
    rw [← hsb.out, List.all_eq_false]
    exact ⟨xs[k], List.getElem_mem hlt, by unfold Ev.may; rw [h]; simp⟩)
   obtain ⟨n, hn⟩ : ∃ n, Hid (xs[k].n = n) := ⟨_, hide rfl⟩
   obtain ⟨st, hs0⟩ : ∃ st, Hid (xs[k].s = st) := ⟨_, hide rfl⟩
   rw [hn.out] at ck
   rw [hs0.out] at ck1
   rw [hn.out, hs0.out] at HT HF
   clear hn hs0 HM hre
   cases hp : inB n 64
   ·have HF' := hide (HF.out (by rw [hp]; rfl))
    clear HF HT hsb ck1
    go_wp2_with (go_at_call 59; refine (upto_any _ _ _).mono ?_; rintro e1 w1 ⟨rfl, hx0⟩; obtain rfl := hx0.symm; clear hx0; rw [hp])
    go_ret
    exact ⟨by rw [HF'.out]; rfl, rfl⟩
   ·by_cases hz : (st.size : Int) ≤ 4194304
    ·have HT' := hide (HT.out (by rw [hp, decide_eq_true hz]; rfl))
     have hz' : ¬ (4194304 : Int) < st.size := by omega
     clear HF HT
     go_wp2_with (go_at_call 59; refine (upto_any _ _ _).mono ?_; rintro e1 w1 ⟨rfl, hx0⟩; obtain rfl := hx0.symm; clear hx0; rw [hp])
     go_roundw
     case rel => exact ⟨k + 1, by omega, by go_num, HT', trivial⟩
     case measure => simp [intOf]; omega
    ·have HF' := hide (HF.out (by rw [hp, decide_eq_false hz]; rfl))
     have hz' : (4194304 : Int) < st.size := by omega
     clear HF HT hsb
     go_wp2_with (go_at_call 59; refine (upto_any _ _ _).mono ?_; rintro e1 w1 ⟨rfl, hx0⟩; obtain rfl := hx0.symm; clear hx0; rw [hp])
     go_ret
     exact ⟨by rw [HF'.out]; rfl, rfl⟩
  ·have k1 : ¬ (k : Int) < xs.length := by omega
   have HE : Hid (sb = true) := hide (by
    rw [← hsb.out, List.all_eq_true]
    intro y hy
    obtain ⟨j, hj, rfl⟩ := List.mem_iff_getElem.1 hy
    exact HM.out j hj (by omega))
   clear HM hsb
   go_wp2
   go_ret
   exact ⟨by rw [HE.out]; simp, rfl⟩
theorem xsignsB_any (x : Sl Sg) (w : World) (hx : x.At SgE w) : Calls Tryz.prog 63 #[x.val] w fun e w' => e = .returned (.bool (sgsMay x)) ∧ Below w.heap.size w w' :=
 (xsigns_any x w hx).mono (fun _ _ h => ⟨h.1, by rw [h.2]; exact Below.refl _ _⟩)
set_option maxRecDepth 100000 in
set_option maxHeartbeats 2000000 in
theorem xcertMay_any (x : Vt) (s : Sl Sg) (w : World) (hx : x.ok) (hs : s.At SgE w) : Calls Tryz.prog 65 #[.agg (certL x s).toArray] w fun e w' => e = .returned (.bool (certMay x s)) ∧ Below w.heap.size w w' := by
 have hA : (w.alloc (.cells (certL x s).toArray 31)).rangeAt w.heap.size 0 (certL x s) := by simpa using range_new w (certL x s).toArray 31
 have hB : Below w.heap.size w (w.alloc (.cells (certL x s).toArray 31)) := (Below.refl _ _).alloc (Nat.le_refl _) _
 have hz : w.heap.size < (w.alloc (.cells (certL x s).toArray 31)).heap.size := by simp
 have r1 := range_left hA
 have c1 := range_right hA 0 _ rfl
 rw [hx.len] at c1
 simp only [Nat.zero_add, Nat.add_zero] at c1
 have ix : (Tryz.prog.info? 28).map (·.size) = some x.cells.length := by rw [hx.len]; exact iszV
 have cv := fun w0 => xvote_any x w0
 have cs := fun (w0 : World) (h0 : s.At SgE w0) => xsignsB_any s w0 h0
 have s1 := hs.below hB
 unfold certMay
 obtain ⟨W, hW⟩ : ∃ W, Hid (w.alloc (.cells (certL x s).toArray 31) = W) := ⟨_, hide rfl⟩
 rw [hW.out] at r1 c1 hB hz s1
 generalize certL x s = q at *
 generalize x.cells = u at *
 generalize x.may = b1 at *
 generalize sgsMay s = b2 at *
 have S2 := fun (w0 : World) (h0 : Below W.heap.size W w0) => cs w0 (s1.below h0)
 obtain ⟨a, cap, xs⟩ := s
 simp only [Sl.val] at c1 S2
 clear hA hx hs cs s1
 cases b1
 ·go_enter Tryz.func65, Tryz.ntmps65
  go_upto_region 1 with fail
  go_name_world w1 hw1
  obtain rfl : W = w1 := hW.out.symm.trans hw1
  clear hw1 hW S2
  go_wp2_with (refine wpList_load_mid rfl 28 _ rfl _ _ rfl u _ r1 Tryz.underlying28 rfl ix ?_)
  refine (cv _).mono ?_
  rintro e2 w2 ⟨rfl, hb2⟩
  have hB2 := hB.trans (hb2.mono (by omega))
  clear cv r1 c1 hb2
  go_wp2
  go_ret
  exact ⟨rfl, hB2⟩
 ·rw [Bool.true_and]
  go_enter Tryz.func65, Tryz.ntmps65
  go_upto_region 1 with fail
  go_name_world w1 hw1
  obtain rfl : W = w1 := hW.out.symm.trans hw1
  clear hw1 hW
  go_wp2_with (refine wpList_load_mid rfl 28 _ rfl _ _ rfl u _ r1 Tryz.underlying28 rfl ix ?_)
  refine (cv _).mono ?_
  rintro e2 w2 ⟨rfl, hb2⟩
  have hB2 := hB.trans (hb2.mono (by omega))
  have c2 := (hb2.cell (p := ⟨w.heap.size, 36, none⟩) hz).trans c1
  have C2 := S2 w2 hb2
  clear cv r1 c1 hb2 S2
  go_wp2_with fail
  refine C2.mono ?_
  rintro e3 w3 ⟨rfl, hb3⟩
  have hB3 := hB2.trans (hb3.mono hB2.size)
  clear C2 hb3
  go_wp2
  go_ret
  exact ⟨rfl, hB3⟩
theorem Rq.may_iff {g : Rq} : g.may = true ↔ (0 ≤ g.c ∧ g.c ≤ 8) ∧ (0 ≤ g.n ∧ g.n ≤ 1099511627776) ∧ (g.s.size : Int) ≤ 64 := by
 unfold Rq.may
 simp only [Bool.and_eq_true, inB_iff, decide_eq_true_eq]
set_option maxRecDepth 100000 in
set_option maxHeartbeats 8000000 in
theorem plain_any (q : Bool) (x : Sl Rq) (w : World) (hx : x.At RqE w) : Calls Tryz.prog 61 #[.agg #[.bool q, x.val]] w fun e w' => e = .returned (.bool (batMay q x)) ∧ Below w.heap.size w w' := by
 have hB0 : Below w.heap.size w (w.alloc (.cells #[.bool q, x.val] 24)) := (Below.refl _ w).alloc (Nat.le_refl _) _
 have hA : (w.alloc (.cells #[.bool q, x.val] 24)).rangeAt w.heap.size 0 [.bool q, x.val] := range_new w #[.bool q, x.val] 24
 have hz : w.heap.size < (w.alloc (.cells #[.bool q, x.val] 24)).heap.size := by simp
 have c0 := hA 0 _ rfl
 have c1 := hA 1 _ rfl
 simp only [Nat.zero_add, Nat.add_zero] at c0 c1
 have hml : x.xs.length ≤ maxLen := hx.1
 unfold maxLen at hml
 unfold batMay mayL
 have h1 := hx.below hB0
 obtain ⟨a, cap, xs⟩ := x
 simp only [Sl.val] at c1 hB0 hml hz h1 c0 ⊢
 have hR : RowsAt RqE _ a xs := h1
 obtain ⟨W, hW⟩ : ∃ W, Hid (w.alloc (.cells #[.bool q, .slice a xs.length cap] 24) = W) := ⟨_, hide rfl⟩
 clear h1
 rw [hW.out] at c0 c1 hB0 hz hR
 clear hx hA
 by_cases hbig : (4 : Int) < xs.length
 ·have E : (if q = true then decide (xs.length = 0) else decide ((xs.length : Int) ≤ 4) && xs.all Rq.may) = false := by
   cases q
   ·rw [if_neg (by simp), decide_eq_false (by omega)]; rfl
   ·rw [if_pos rfl, decide_eq_false (by omega)]
  rw [E]
  clear E
  go_enter Tryz.func61, Tryz.ntmps61
  go_upto_region 1 with fail
  go_name_world w1 hw1
  obtain rfl : W = w1 := hW.out.symm.trans hw1
  clear hw1 hW
  go_wp2
  go_ret
  exact ⟨rfl, hB0⟩
 ·have hbig' : (xs.length : Int) ≤ 4 := by omega
  cases q
  rotate_left
  ·rw [if_pos rfl]
   by_cases h0 : (0 : Int) < xs.length
   ·rw [decide_eq_false (by omega)]
    go_enter Tryz.func61, Tryz.ntmps61
    go_upto_region 1 with fail
    go_name_world w1 hw1
    obtain rfl : W = w1 := hW.out.symm.trans hw1
    clear hw1 hW
    go_wp2
    go_ret
    exact ⟨rfl, hB0⟩
   ·obtain rfl : xs = [] := List.eq_nil_of_length_eq_zero (by omega)
    rw [show decide (([] : List Rq).length = 0) = true from rfl]
    simp only [List.length_nil] at *
    go_enter Tryz.func61, Tryz.ntmps61
    go_upto_region 1 with fail
    go_name_world w1 hw1
    obtain rfl : W = w1 := hW.out.symm.trans hw1
    clear hw1 hW h0 hbig hbig'
    go_wp2
    go_loopw [3] (fun iv wr' => iv = .int .i64 0 ∧ wr' = W) (fun _ _ => 0)
    case atStart => exact ⟨rfl, rfl⟩
    case round =>
     obtain ⟨rfl, rfl⟩ := hrel
     go_wp2
     go_ret
     exact ⟨rfl, hB0⟩
  ·rw [if_neg (by simp), decide_eq_true hbig', Bool.true_and]
   obtain ⟨sb, hsb⟩ : ∃ sb, Hid (xs.all Rq.may = sb) := ⟨_, hide rfl⟩
   rw [hsb.out]
   go_enter Tryz.func61, Tryz.ntmps61
   go_upto_region 1 with fail
   go_name_world w1 hw1
   obtain rfl : W = w1 := hW.out.symm.trans hw1
   clear hw1 hW
   go_wp2
   clear hbig hbig'
   go_loopw [3] (fun iv wr' => ∃ k : Nat, k ≤ xs.length ∧ iv = .int .i64 (k : Int) ∧ Hid (∀ j (hj : j < xs.length), j < k → Rq.may xs[j] = true) ∧ Below W.heap.size W wr') (fun iv _ => xs.length - (intOf iv).toNat)
   case atStart => exact ⟨0, by omega, rfl, hide (fun j _ hj => absurd hj (by omega)), Below.refl _ _⟩
   case round =>
    obtain ⟨k, hk, rfl, HM, hBr⟩ := hrel
    have e1 := (hBr.cell (p := ⟨w.heap.size, 1, none⟩) hz).trans c1
    have hB := hB0.trans (hBr.mono (by omega))
    have hzr := Nat.lt_of_lt_of_le hz hBr.size
    by_cases hlt : k < xs.length
    ·have k1 : (k : Int) < xs.length := by omega
     obtain ⟨b, off, rfl, hb, hre⟩ := (RowsAt.below hR hBr).elem k hlt
     have hre : wr.rangeAt b (off + k * 19) xs[k].cells := hre
     have okx : RqE.ok xs[k] := hR.2.1 _ (List.getElem_mem hlt)
     have HT : Hid (Rq.may xs[k] = true → ∀ j (hj : j < xs.length), j < k + 1 → Rq.may xs[j] = true) := hide (fun h j hj hjk => by
      by_cases e : j = k
      ·subst e; exact h
      ·exact HM.out j hj (by omega))
     have HF : Hid (Rq.may xs[k] = false → sb = false) := hide (fun h => by
      rw [← hsb.out, List.all_eq_false]
      exact ⟨xs[k], List.getElem_mem hlt, by rw [h]; simp⟩)
     obtain ⟨gx, hX⟩ : ∃ g, Hid (xs[k] = g) := ⟨_, hide rfl⟩
     rw [hX.out] at hre okx HT HF
     clear hX HM
     have lu : gx.cells.length = 19 := RqE.len _ okx
     have ou : gx.cells.toArray.all (·.oneCell') = true := all_oneCell_toArray (RqE.one gx)
     have hcel : ∀ (w0 : World) (b0 : Nat), w0.rangeAt b0 0 gx.cells → w0.cell? ⟨b0, 0, none⟩ = some (.int .i64 gx.c) ∧ w0.cell? ⟨b0, 1, none⟩ = some (.int .i64 gx.n) ∧ w0.cell? ⟨b0, 2, none⟩ = some (.string gx.s) := fun w0 b0 hh => ⟨hh 0 _ rfl, hh 1 _ rfl, hh 2 _ rfl⟩
     have HB : Hid (Rq.may gx = true ↔ (0 ≤ gx.c ∧ gx.c ≤ 8) ∧ (0 ≤ gx.n ∧ gx.n ≤ 1099511627776) ∧ (gx.s.size : Int) ≤ 64) := hide Rq.may_iff
     generalize gx.cells = u at *
     generalize Rq.may gx = pb at *
     generalize gx.c = cc at *
     generalize gx.n = nn at *
     generalize gx.s = ss at *
     clear okx
     have iu : (Tryz.prog.info? 91).map (·.size) = some u.length := by rw [lu]; kernel_rfl
     have iA : (Tryz.prog.info? 91).map (·.size) = some u.toArray.size := by rw [List.size_toArray, lu]; kernel_rfl
     have zl : Rq.zero.cells.toArray.size = 19 := rfl
     obtain ⟨r5, hB5, hs5, _⟩ := fresh_store wr Rq.zero.cells.toArray 91 u (by rw [lu]; rfl)
     have hT5 : (wr.alloc (.cells Rq.zero.cells.toArray 91)).there wr.heap.size 0 u.toArray.size := by
      have := there_new wr Rq.zero.cells.toArray 91
      rw [zl] at this
      rw [show u.toArray.size = 19 by simpa using lu]
      exact this
     go_upto_region 7 with (first | (refine wpList_load_mid rfl 91 _ rfl _ _ rfl u _ hre Tryz.underlying91 rfl iu ?_) | (refine wpList_store_mid rfl 91 _ _ rfl _ _ u.toArray rfl rfl hT5 iA ou ?_))
     go_name_world w5 hw5
     rw [show (wr.alloc (.cells Rq.zero.cells.toArray 91)).setCells wr.heap.size 0 u = w5 from hw5] at r5 hB5 hs5
     have hB6 := hB.trans (hB5.mono hB.size)
     have hBW := hBr.trans (hB5.mono hBr.size)
     obtain ⟨f0, f1, f2⟩ := hcel _ _ r5
     clear hw5 hs5 hT5 hre hB5 r5 hcel
     by_cases p0 : 0 ≤ cc
     rotate_left
     ·have m0 : cc < 0 := by omega
      have HF' := hide (HF.out (by
       cases pb
       ·rfl
       ·have := HB.out.1 rfl; omega))
      clear HF HT hsb HB
      go_wp2
      go_ret
      exact ⟨by rw [HF'.out]; rfl, hB6⟩
     ·have m0 : ¬ cc < 0 := by omega
      by_cases p1 : cc ≤ 8
      rotate_left
      ·have m1 : 8 < cc := by omega
       have HF' := hide (HF.out (by
        cases pb
        ·rfl
        ·have := HB.out.1 rfl; omega))
       clear HF HT hsb HB
       go_wp2
       go_ret
       exact ⟨by rw [HF'.out]; rfl, hB6⟩
      ·have m1 : ¬ 8 < cc := by omega
       by_cases p2 : 0 ≤ nn
       rotate_left
       ·have m2 : nn < 0 := by omega
        have HF' := hide (HF.out (by
         cases pb
         ·rfl
         ·have := HB.out.1 rfl; omega))
        clear HF HT hsb HB
        go_wp2
        go_ret
        exact ⟨by rw [HF'.out]; rfl, hB6⟩
       ·have m2 : ¬ nn < 0 := by omega
        by_cases p3 : nn ≤ 1099511627776
        rotate_left
        ·have m3 : 1099511627776 < nn := by omega
         have HF' := hide (HF.out (by
          cases pb
          ·rfl
          ·have := HB.out.1 rfl; omega))
         clear HF HT hsb HB
         go_wp2
         go_ret
         exact ⟨by rw [HF'.out]; rfl, hB6⟩
        ·have m3 : ¬ 1099511627776 < nn := by omega
         by_cases p4 : (ss.size : Int) ≤ 64
         rotate_left
         ·have m4 : (64 : Int) < ss.size := by omega
          have HF' := hide (HF.out (by
           cases pb
           ·rfl
           ·have := HB.out.1 rfl; omega))
          clear HF HT hsb HB
          go_wp2
          go_ret
          exact ⟨by rw [HF'.out]; rfl, hB6⟩
         ·have m4 : ¬ (64 : Int) < ss.size := by omega
          have HT' := hide (HT.out (HB.out.2 ⟨⟨p0, p1⟩, ⟨p2, p3⟩, p4⟩))
          clear HF HT HB
          go_wp2
          go_roundw
          case rel => exact ⟨k + 1, by omega, by go_num, HT', hBW⟩
          case measure => simp [intOf]; omega
    ·have k1 : ¬ (k : Int) < xs.length := by omega
     have HE : Hid (sb = true) := hide (by
      rw [← hsb.out, List.all_eq_true]
      intro y hy
      obtain ⟨j, hj, rfl⟩ := List.mem_iff_getElem.1 hy
      exact HM.out j hj (by omega))
     clear HM hsb
     go_wp2
     go_ret
     exact ⟨by rw [HE.out]; rfl, hB⟩
set_option maxRecDepth 100000 in
set_option maxHeartbeats 8000000 in
theorem xheld_any (x : Sl Hd) (w : World) (hx : HdsAt w x) : Calls Tryz.prog 60 #[x.val] w fun e w' => e = .returned (.bool (mayL 4 Hd.may x.xs)) ∧ Below w.heap.size w w' := by
 obtain ⟨a, cap, xs⟩ := x
 have hml : xs.length ≤ maxLen := hx.1.1
 unfold maxLen at hml
 simp only [Sl.val]
 have E : mayL 4 Hd.may xs = (xs.all Hd.may && decide ((xs.length : Int) ≤ 4)) := by unfold mayL; exact Bool.and_comm _ _
 rw [E]
 clear E
 obtain ⟨sb, hsb⟩ : ∃ sb, Hid (xs.all Hd.may = sb) := ⟨_, hide rfl⟩
 rw [hsb.out]
 go_enter Tryz.func60, Tryz.ntmps60
 go_wp2
 go_loopw [3] (fun iv wr' => ∃ k : Nat, k ≤ xs.length ∧ iv = .int .i64 (k : Int) ∧ Hid (∀ j (hj : j < xs.length), j < k → Hd.may xs[j] = true) ∧ Below w.heap.size w wr') (fun iv _ => xs.length - (intOf iv).toNat)
 case atStart => exact ⟨0, by omega, rfl, hide (fun j _ hj => absurd hj (by omega)), Below.refl _ _⟩
 case round =>
  obtain ⟨k, hk, rfl, HM, hB⟩ := hrel
  by_cases hlt : k < xs.length
  ·have k1 : (k : Int) < xs.length := by omega
   obtain ⟨b, off, rfl, hb, hre⟩ := RowsAt.elem (hx.1.below hB) k hlt
   have hre : wr.rangeAt b (off + k * 39) xs[k].cells := hre
   have okx : xs[k].vt.ok := hx.1.2.1 _ (List.getElem_mem hlt)
   have atx := (hx.2 _ (List.getElem_mem hlt)).below hB
   have HT : Hid (Hd.may xs[k] = true → ∀ j (hj : j < xs.length), j < k + 1 → Hd.may xs[j] = true) := hide (fun h j hj hjk => by
    by_cases e : j = k
    ·subst e; exact h
    ·exact HM.out j hj (by omega))
   have HF : Hid (Hd.may xs[k] = false → sb = false) := hide (fun h => by
    rw [← hsb.out, List.all_eq_false]
    exact ⟨xs[k], List.getElem_mem hlt, by rw [h]; simp⟩)
   obtain ⟨gx, hX⟩ : ∃ g, Hid (xs[k] = g) := ⟨_, hide rfl⟩
   rw [hX.out] at hre okx atx HT HF
   clear hX HM
   unfold Hd.may at HT HF
   have c0 := hre 0 (.bool gx.q) rfl
   have c1 := hre 1 gx.rs.val rfl
   simp only [Nat.add_zero] at c0
   have rc : wr.rangeAt b (off + k * 39 + 2) (certL gx.vt gx.sg) := range_right (cs := [.bool gx.q, gx.rs.val]) hre
   have ic : (Tryz.prog.info? 31).map (·.size) = some (certL gx.vt gx.sg).length := by rw [show (certL gx.vt gx.sg).length = 37 by simp [certL, okx.len]]; exact iszC
   have G1 := plain_any gx.q gx.rs wr atx.1
   have g2 := fun (w0 : World) (h0 : Below wr.heap.size wr w0) => xcertMay_any gx.vt gx.sg w0 okx (atx.below h0).2
   generalize batMay gx.q gx.rs = b1 at *
   generalize certMay gx.vt gx.sg = b2 at *
   generalize certL gx.vt gx.sg = u at *
   simp only [Sl.val] at c1 G1
   clear okx atx hre
   go_wp2_with fail
   refine G1.mono ?_
   rintro e5 w5 ⟨rfl, hb5⟩
   have hB5 := hB.trans (hb5.mono hB.size)
   have rc5 := range_below rc hb5 hb
   have G2 := g2 w5 hb5
   clear G1 c0 c1 rc hb5 g2
   cases b1
   ·have HF' := hide (HF.out (Bool.false_and _))
    clear HF HT hsb G2
    go_wp2
    go_ret
    exact ⟨by rw [HF'.out]; rfl, hB5⟩
   ·go_wp2_with (refine wpList_load_g (by rfl) 31 _ rfl _ _ rfl u _ rc5 Tryz.underlying31 rfl ic ?_)
    refine G2.mono ?_
    rintro e6 w6 ⟨rfl, hb6⟩
    have hB6 := hB5.trans (hb6.mono hB5.size)
    clear G2 hb6 rc5
    cases b2
    ·have HF' := hide (HF.out (Bool.true_and _))
     clear HF HT hsb
     go_wp2
     go_ret
     exact ⟨by rw [HF'.out]; rfl, hB6⟩
    ·have HT' := hide (HT.out (Bool.true_and _))
     clear HF HT
     go_wp2
     go_roundw
     case rel => exact ⟨k + 1, by omega, by go_num, HT', hB6⟩
     case measure => simp [intOf]; omega
  ·have k1 : ¬ (k : Int) < xs.length := by omega
   have HE : Hid (sb = true) := hide (by
    rw [← hsb.out, List.all_eq_true]
    intro y hy
    obtain ⟨j, hj, rfl⟩ := List.mem_iff_getElem.1 hy
    exact HM.out j hj (by omega))
   clear HM hsb
   go_wp2
   go_ret
   exact ⟨by rw [HE.out]; simp, hB⟩
end Go.Proofs.YtinndbipomlokaaGreat
