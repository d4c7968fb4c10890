/- the document's bytes of changes and of new views; the document's comparisons of lists -/
import Derived.Test.YtgjalkbianpibaaGreatJE7
import Derived.Test.YtgjalkbianpibaaGreatJE6
namespace Go.Proofs.YtgjalkbianpibaaGreat
open Go.RowKit
open Sha Tal
set_option linter.unusedVariables false
set_option linter.unusedSimpArgs false
theorem zeroCh (w : World) : (zeroValue 31).run Tryz.prog w = .ok (.agg ([.int .i64 0, .int .i64 0, .int .i64 0, .slice none 0 0] : List Value).toArray) w := by kernel_rfl
theorem four_le' {a b c d : Int} (h1 : a ≤ 9223372036854775807) (h2 : b ≤ 9223372036854775807) (h3 : c ≤ 9223372036854775807) (h4 : d ≤ 9223372036854775807) : ∀ z ∈ [a, b, c, d], z ≤ 9223372036854775807 := by
  intro n hn
  simp only [List.mem_cons, List.not_mem_nil, or_false] at hn
  rcases hn with rfl | rfl | rfl | rfl <;> assumption
theorem hd_parts {g : Hd} {w : World} {b o : Nat} (hv : g.vt.ok) (h : w.rangeAt b o g.cells) : w.rangeAt b o [.bool g.q, g.rs.val] ∧ w.rangeAt b (o + 2) (certL g.vt g.sg) := by
  have h : w.rangeAt b o ([.bool g.q, g.rs.val] ++ certL g.vt g.sg) := h
  exact ⟨range_left h, by simpa using range_right h⟩
theorem ev_parts {g : Ev} {w : World} {b o : Nat} (h : w.rangeAt b o g.cells) : w.cell? ⟨b, o, none⟩ = some (.int .i64 g.n) ∧ w.cell? ⟨b, o + 1, none⟩ = some (.string g.s) ∧ w.rangeAt b (o + 2) (v8 g.t) := by
  refine ⟨h 0 _ rfl, h 1 _ rfl, fun j u hj => ?_⟩
  have := h (2 + j) u (by rw [Nat.add_comm]; exact hj)
  rwa [← Nat.add_assoc] at this
set_option maxRecDepth 100000 in
set_option maxHeartbeats 400000 in
theorem xb3_on (m : Mg) (w : World) (om : m.ok) (am : m.At w) (hf : m.Fine) (hk : m.k = 3) : Calls Tryz.prog 18 #[.agg m.ms.cells.toArray] w fun e w' => FOn [] m.bytes w e w' := by
  have hall := hf.all
  have hbd : m.bytes = putL 3 ++ m.body := by unfold Mg.bytes; rw [hk]
  have hbody : m.body = [m.ce, m.cl, m.cv].flatMap putL ++ hdsL m.he.xs := by unfold Mg.body; rw [hk]; rfl
  rw [hbd, hbody] at hall
  simp only [List.length_append] at hall
  rw [hbd, hbody]
  clear hbd
  have hat : ∀ {w' : World} {b : Nat}, w'.rangeAt b 0 m.ms.cells → m.ms.at w' b := fun hr => om.ms.at hr
  have hkk : m.ms.k = 3 := hk
  obtain ⟨q, hq⟩ : ∃ q, Hid (m.ms.cells = q) := ⟨_, hide rfl⟩
  rw [hq.out]
  simp only [hq.out] at hat
  clear hq
  obtain ⟨hB1, hR1, hs1⟩ := boxed_new w q 37
  have cK := fun w' => xput_on none 0 [] 3 w' (nil_row w') (by simp) (by decide)
  simp only [List.length_nil] at cK
  obtain ⟨L1, hL1⟩ : ∃ L, Hid (([] : List Int) ++ putL 3 = L) := ⟨_, hide rfl⟩
  have HLl : Hid (L1.length = (putL 3).length) := hide (by rw [← hL1.out]; rfl)
  have hK9 : (putL 3).length ≤ 9 := by decide
  go_enter Tryz.func18, Tryz.ntmps18
  go_upto_region 1 with fail
  obtain ⟨w1, hw1⟩ : ∃ W, w.alloc (.cells q.toArray 37) = W := ⟨_, rfl⟩
  rw [hw1] at hB1 hR1 hs1 ⊢
  clear hw1
  have ck := (hat hR1).k
  rw [hkk] at ck
  try simp only [Act.put]
  refine pl_begin ?_
  refine pl_take (d := some 7) (v := ?_) (by rfl) ?_ rfl ?_
  rotate_left
  · go_simp
    try with_reducible rfl
  simp only [Act.put, List.setIfInBounds_toArray, List.set_cons_zero, List.set_cons_succ]
  refine pl_take (d := some 8) (v := .int .i64 3) (by rfl) (pl_one rfl rfl ck Tryz.underlying3 rfl) rfl ?_
  simp only [Act.put, List.setIfInBounds_toArray, List.set_cons_zero, List.set_cons_succ]
  refine pl_call (d := some 9) (by rfl) (by go_simp; first | done | exact ⟨rfl, rfl⟩ | with_reducible rfl) rfl ?_
  refine (cK w1).mono ?_
  rintro _ w2 hfin
  obtain ⟨a2, c2, rfl, row2, -, hB2⟩ := FOn.row hfin hL1.out (by have := HLl.out; omega)
  refine ⟨_, rfl, ?_⟩
  simp only [Act.put, List.setIfInBounds_toArray, List.set_cons_zero, List.set_cons_succ]
  refine pl_take (d := some 3) (v := ?_) (by rfl) ?_ rfl ?_
  rotate_left
  · go_simp
    try with_reducible rfl
  simp only [Act.put, List.setIfInBounds_toArray, List.set_cons_zero, List.set_cons_succ]
  refine pl_nil ?_
  have hBw2 := hB1.trans (hB2.mono hB1.size)
  have hR2 := range_below hR1 hB2 hs1
  have hs2 : w.heap.size < w2.heap.size := Nat.lt_of_lt_of_le hs1 hB2.size
  have MA := hat hR2
  have ck := MA.k
  rw [hkk] at ck
  clear cK
  have hxl := hf.hn
  obtain ⟨zc, hzl, hzc⟩ : ∃ z : List Value, z.length = 4 ∧ ∀ w' : World, (zeroValue 31).run Tryz.prog w' = .ok (.agg z.toArray) w' := ⟨_, rfl, zeroCh⟩
  obtain ⟨L2, hL2⟩ : ∃ L, Hid (L1 ++ [m.ce, m.cl, m.cv, (m.he.xs.length : Int)].flatMap putL = L) := ⟨_, hide rfl⟩
  have hL2l : Hid (L2.length + (m.he.xs.flatMap hdL).length ≤ 40000) := hide (by
    rw [← hL2.out, List.length_append, HLl.out]
    unfold hdsL at hall
    simp only [List.flatMap_cons, List.flatMap_nil, List.length_append, List.length_nil] at hall ⊢
    omega)
  have rch := ms_chg MA
  obtain ⟨qc, hqc⟩ : ∃ q, Hid (([.int .i64 m.ce, .int .i64 m.cl, .int .i64 m.cv, m.he.val] : List Value) = q) := ⟨_, hide rfl⟩
  rw [hqc.out] at rch
  have hqcl : qc.length = 4 := by rw [← hqc.out]; rfl
  have hqc1 : ∀ v ∈ qc, v.oneCell' = true := by
    rw [← hqc.out]
    intro v hv
    simp only [List.mem_cons, List.not_mem_nil, or_false] at hv
    rcases hv with rfl | rfl | rfl | rfl <;> rfl
  go_upto_region 8 with fail
  try simp only [Act.put]
  refine pl_begin ?_
  refine pl_take (d := some 32) (v := ?_) (by rfl) ?_ rfl ?_
  rotate_left
  · go_simp
    try with_reducible rfl
  simp only [Act.put, List.setIfInBounds_toArray, List.set_cons_zero, List.set_cons_succ]
  refine pl_take (d := some 33) (v := .agg qc.toArray) (by rfl) (ex_mid rfl rfl rch Tryz.underlying31 rfl (by rw [hqcl]; exact iszCh)) rfl ?_
  simp only [Act.put, List.setIfInBounds_toArray, List.set_cons_zero, List.set_cons_succ]
  refine pl_run (d := some 4) (v := .pointer (some ⟨w2.heap.size, 0, none⟩)) (w' := w2.alloc (.cells zc.toArray 31)) (by rfl) (ex_alloc rfl (hzc _)) rfl ?_
  simp only [Act.put, List.setIfInBounds_toArray, List.set_cons_zero, List.set_cons_succ]
  refine pl_store (w' := (w2.alloc (.cells zc.toArray 31)).setCells w2.heap.size 0 qc) (by rfl) (ex_put (cs := qc.toArray) rfl rfl rfl (there_newN _ _ _ (by simp [hzl, hqcl])) (by simpa [hqcl] using iszCh) (all_one hqc1)) rfl ?_
  refine pl_nil ?_
  obtain ⟨hF1, hB3, -, -⟩ := fresh_store w2 zc.toArray 31 qc (by simp [hzl, hqcl])
  have hs3 : w2.heap.size < ((w2.alloc (.cells zc.toArray 31)).setCells w2.heap.size 0 qc).heap.size := by rw [size_sets]; simp
  obtain ⟨w3, hw3⟩ : ∃ W, (w2.alloc (.cells zc.toArray 31)).setCells w2.heap.size 0 qc = W := ⟨_, rfl⟩
  rw [hw3] at hF1 hB3 hs3 ⊢
  clear hw3 rch hqcl hqc1
  rw [← hqc.out] at hF1
  have d0 := hF1 0 _ rfl
  have d1 := hF1 1 _ rfl
  have d2 := hF1 2 _ rfl
  have dbox : w3.cell? ⟨w2.heap.size, 3, none⟩ = some (.slice m.he.a m.he.xs.length m.he.cap) := by exact hF1 3 _ rfl
  simp only [Nat.zero_add, Nat.add_zero] at d0 d1 d2
  have hBw3 := hBw2.trans (hB3.mono hBw2.size)
  have row3 := row2.below hB3
  have cN := xnums_on a2 c2 L1 [m.ce, m.cl, m.cv, (m.he.xs.length : Int)] #[.int .i64 m.ce, .int .i64 m.cl, .int .i64 m.cv, .int .i64 (m.he.xs.length : Int)] 4 w3 row3 rfl rfl (by have := HLl.out; omega) (by omega) (by omega) (four_le' hf.ce hf.cl hf.cv (by omega))
  clear hqc hF1 MA
  go_upto_region 9 with fail
  try simp only [Act.put]
  refine pl_begin ?_
  refine pl_take (d := some 34) (v := ?_) (by rfl) ?_ rfl ?_
  rotate_left
  · go_simp
    try with_reducible rfl
  simp only [Act.put, List.setIfInBounds_toArray, List.set_cons_zero, List.set_cons_succ]
  refine pl_take (d := some 35) (v := ?_) (by rfl) ?_ rfl ?_
  rotate_left
  · go_simp
    try with_reducible rfl
  simp only [Act.put, List.setIfInBounds_toArray, List.set_cons_zero, List.set_cons_succ]
  refine pl_take (d := some 36) (v := .int .i64 m.ce) (by rfl) (pl_one rfl rfl d0 Tryz.underlying3 rfl) rfl ?_
  simp only [Act.put, List.setIfInBounds_toArray, List.set_cons_zero, List.set_cons_succ]
  refine pl_take (d := some 37) (v := ?_) (by rfl) ?_ rfl ?_
  rotate_left
  · go_simp
    try with_reducible rfl
  simp only [Act.put, List.setIfInBounds_toArray, List.set_cons_zero, List.set_cons_succ]
  refine pl_take (d := some 38) (v := .int .i64 m.cl) (by rfl) (pl_one rfl rfl d1 Tryz.underlying3 rfl) rfl ?_
  simp only [Act.put, List.setIfInBounds_toArray, List.set_cons_zero, List.set_cons_succ]
  refine pl_take (d := some 39) (v := ?_) (by rfl) ?_ rfl ?_
  rotate_left
  · go_simp
    try with_reducible rfl
  simp only [Act.put, List.setIfInBounds_toArray, List.set_cons_zero, List.set_cons_succ]
  refine pl_take (d := some 40) (v := .int .i64 m.cv) (by rfl) (pl_one rfl rfl d2 Tryz.underlying3 rfl) rfl ?_
  simp only [Act.put, List.setIfInBounds_toArray, List.set_cons_zero, List.set_cons_succ]
  refine pl_take (d := some 41) (v := ?_) (by rfl) ?_ rfl ?_
  rotate_left
  · go_simp
    try with_reducible rfl
  simp only [Act.put, List.setIfInBounds_toArray, List.set_cons_zero, List.set_cons_succ]
  refine pl_take (d := some 42) (v := .slice m.he.a m.he.xs.length m.he.cap) (by rfl) (pl_one rfl rfl dbox Tryz.underlying29 rfl) rfl ?_
  simp only [Act.put, List.setIfInBounds_toArray, List.set_cons_zero, List.set_cons_succ]
  refine pl_take (d := some 43) (v := ?_) (by rfl) ?_ rfl ?_
  rotate_left
  · go_simp
    try with_reducible rfl
  simp only [Act.put, List.setIfInBounds_toArray, List.set_cons_zero, List.set_cons_succ]
  refine pl_run (d := some 44) (v := .slice (some ⟨w3.heap.size, 0, none⟩) 4 4) (w' := w3.alloc (.cells #[.int .i64 m.ce, .int .i64 m.cl, .int .i64 m.cv, .int .i64 (m.he.xs.length : Int)] 3)) (by rfl) (ex_bsi4 rfl rfl rfl rfl rfl (run_bsi4 m.ce m.cl m.cv _ _)) rfl ?_
  simp only [Act.put, List.setIfInBounds_toArray, List.set_cons_zero, List.set_cons_succ]
  refine pl_call (d := some 45) (by rfl) (by go_simp; first | done | exact ⟨rfl, rfl⟩ | with_reducible rfl) rfl ?_
  refine (cN).mono ?_
  rintro _ w4 hfin
  obtain ⟨a4, c4, rfl, row4, m4, hB4⟩ := FOn.row hfin hL2.out (by have := hL2l.out; omega)
  refine ⟨_, rfl, ?_⟩
  simp only [Act.put, List.setIfInBounds_toArray, List.set_cons_zero, List.set_cons_succ]
  refine pl_take (d := some 3) (v := ?_) (by rfl) ?_ rfl ?_
  rotate_left
  · go_simp
    try with_reducible rfl
  simp only [Act.put, List.setIfInBounds_toArray, List.set_cons_zero, List.set_cons_succ]
  refine pl_nil ?_
  have hBw4 := hBw3.trans (hB4.mono hBw3.size)
  have hsw := hBw3.size
  clear cN d0 d1 d2 row4
  have hW4 := hBw4.size
  have HK0 : Hid (Mine w4 w3.heap.size (.slice a4 L2.length c4) (L2 ++ (m.he.xs.take 0).flatMap hdL) ∧ Below w3.heap.size w3 w4) := hide ⟨by simpa using m4, hB4⟩
  clear m4
  go_wp2_with fail
  go_loopw [3, 5] (fun ov iv wr => ∃ k : Nat, k ≤ m.he.xs.length ∧ iv = .int .i64 (k : Int) ∧ Hid (Mine wr w3.heap.size ov (L2 ++ (m.he.xs.take k).flatMap hdL) ∧ Below w3.heap.size w3 wr)) (fun _ iv _ => m.he.xs.length - (intOf iv).toNat)
  case atStart => exact ⟨0, by omega, rfl, HK0⟩
  case round =>
    clear HK0
    obtain ⟨k, hk', rfl, HK⟩ := hrel
    obtain ⟨hM, hB⟩ := HK.out
    clear HK
    have hBr := hBw3.trans (hB.mono hBw3.size)
    have hrs := hB.size
    have dl := (hB.cell (p := ⟨w2.heap.size, 3, none⟩) (by show w2.heap.size < w3.heap.size; omega)).trans dbox
    by_cases hlt : k < m.he.xs.length
    · have k1 : (k : Int) < m.he.xs.length := by omega
      obtain ⟨b, off, hae, hbb, hre⟩ := RowsAt.elem ((am.he.below hBr).1) k hlt
      have hre : wr.rangeAt b (off + k * 39) (HdE.f m.he.xs[k]) := hre
      have hok := ((am.he.below hBr).1).2.1 _ (List.getElem_mem hlt)
      have hgat := (am.he.below hBr).2 _ (List.getElem_mem hlt)
      have hgf := hf.he _ (List.getElem_mem hlt)
      have HS : Hid ((m.he.xs.take (k + 1)).flatMap hdL = (m.he.xs.take k).flatMap hdL ++ hdL m.he.xs[k]) := hide (by rw [List.take_succ_eq_append_getElem hlt, List.flatMap_append]; simp)
      have hll : ((m.he.xs.take (k + 1)).flatMap hdL).length ≤ (m.he.xs.flatMap hdL).length := by
        have e : m.he.xs.flatMap hdL = (m.he.xs.take (k + 1)).flatMap hdL ++ (m.he.xs.drop (k + 1)).flatMap hdL := by rw [← List.flatMap_append, List.take_append_drop]
        rw [e, List.length_append]
        omega
      rw [HS.out, List.length_append] at hll
      obtain ⟨g, hgg⟩ : ∃ g, Hid (m.he.xs[k] = g) := ⟨_, hide rfl⟩
      rw [hgg.out] at hre hok HS hll hgat hgf
      clear hgg
      obtain ⟨L, hL⟩ : ∃ L, Hid (L2 ++ (m.he.xs.take k).flatMap hdL = L) := ⟨_, hide rfl⟩
      have hLl : L.length + (hdL g).length ≤ 40000 := by rw [← hL.out, List.length_append]; have := hL2l.out; omega
      rw [hL.out] at hM
      obtain ⟨av, cv, hve, _, _, hrow⟩ := hM.rowAt (by unfold maxLen; omega)
      rw [hve] at hM ⊢
      rw [hae] at dl
      have hic : (Tryz.prog.info? 35).map (·.size) = some (certL g.vt g.sg).length := by rw [show (certL g.vt g.sg).length = 37 by have : g.vt.ok := hok; simp [certL, this.len]]; exact iszCe
      have hdl : (hdL g).length = (batL g.q (g.rs.xs.map BRq.of)).length + (ctL g.vt g.sg.xs).length := by unfold hdL; rw [List.length_append]
      obtain ⟨L3, hL3⟩ : ∃ L3, Hid (L ++ batL g.q (g.rs.xs.map BRq.of) = L3) := ⟨_, hide rfl⟩
      have hL3l : L3.length + (ctL g.vt g.sg.xs).length ≤ 40000 := by rw [← hL3.out, List.length_append]; omega
      have hok : g.vt.ok := hok
      clear hdl
      go_upto_region 13 with fail
      refine hs_begin (S := (Below wr.drew.heap.size wr.drew)) 16 rfl (by kernel_rfl) ?_
      have hB8 : Below wr.heap.size wr wr.drew := (Below.refl _ _).drew
      obtain ⟨w8, hw8⟩ : ∃ W, wr.drew = W := ⟨_, rfl⟩
      rw [hw8] at hB8 ⊢
      clear hw8
      have row8 : RowAt w8 av L := hrow.below hB8
      have hr8 := range_below hre hB8 hbb
      have hb8s : b < w8.heap.size := Nat.lt_of_lt_of_le hbb hB8.size
      have hX8 : w2.heap.size < wr.heap.size := by omega
      have hX8' : w2.heap.size < w8.heap.size := Nat.lt_of_lt_of_le hX8 hB8.size
      have dl8 := (hB8.cell (p := ⟨w2.heap.size, 3, none⟩) hX8).trans dl
      have dE : ∀ w', Below w8.heap.size w8 w' → w'.cell? ⟨w2.heap.size, 3, none⟩ = some (.slice (some ⟨b, off, none⟩) m.he.xs.length m.he.cap) := fun w' hw => (hw.cell (p := ⟨w2.heap.size, 3, none⟩) hX8').trans dl8
      have rE : ∀ w', Below w8.heap.size w8 w' → w'.rangeAt b (off + k * 39) (g.cells) := fun w' hw => range_below hr8 hw hb8s
      have hBw8 := hBr.trans (hB8.mono hBr.size)
      have hb3w8 := hB.trans (hB8.mono hB.size)
      have hA8 : ∀ w', Below w8.heap.size w8 w' → Below wr.heap.size wr w' := fun w' hw => hB8.trans (hw.mono hB8.size)
      have hS : (Below w8.heap.size w8) w8 := Below.refl _ _
      have hbs8 := hb3w8.size
      clear hre hr8 hM hrow dl8
      refine hs_take (i := 0) (d := some 53) (v := ?_) rfl (by kernel_rfl) (by kernel_rfl) (by kernel_rfl) (by rfl) ?_ hS rfl ?_
      rotate_left
      · intro w' hw
        go_simp
        try with_reducible rfl
      simp only [Act.put, List.setIfInBounds_toArray, List.set_cons_zero, List.set_cons_succ]
      refine hs_take (i := 1) (d := some 54) (v := ?_) rfl (by kernel_rfl) (by kernel_rfl) (by kernel_rfl) (by rfl) ?_ hS rfl ?_
      rotate_left
      · intro w' hw
        go_simp
        try with_reducible rfl
      simp only [Act.put, List.setIfInBounds_toArray, List.set_cons_zero, List.set_cons_succ]
      refine hs_take (i := 2) (d := some 55) (v := .slice (some ⟨b, off, none⟩) m.he.xs.length m.he.cap) rfl (by kernel_rfl) (by kernel_rfl) (by kernel_rfl) (by rfl) (fun w' hw => pl_one rfl rfl (dE w' hw) Tryz.underlying29 rfl) hS rfl ?_
      simp only [Act.put, List.setIfInBounds_toArray, List.set_cons_zero, List.set_cons_succ]
      refine hs_take (i := 3) (d := some 56) (v := ?_) rfl (by kernel_rfl) (by kernel_rfl) (by kernel_rfl) (by rfl) ?_ hS rfl ?_
      rotate_left
      · intro w' hw
        go_simp
        try with_reducible rfl
      simp only [Act.put, List.setIfInBounds_toArray, List.set_cons_zero, List.set_cons_succ]
      refine hs_take (i := 4) (d := some 57) (v := ?_) rfl (by kernel_rfl) (by kernel_rfl) (by kernel_rfl) (by rfl) ?_ hS rfl ?_
      rotate_left
      · intro w' hw
        go_simp
        try with_reducible rfl
      simp only [Act.put, List.setIfInBounds_toArray, List.set_cons_zero, List.set_cons_succ]
      refine hs_take (i := 5) (d := some 58) (v := ?_) rfl (by kernel_rfl) (by kernel_rfl) (by kernel_rfl) (by rfl) ?_ hS rfl ?_
      rotate_left
      · intro w' hw
        go_simp
        try with_reducible rfl
      simp only [Act.put, List.setIfInBounds_toArray, List.set_cons_zero, List.set_cons_succ]
      refine hs_take (i := 6) (d := some 59) (v := .agg ([.bool g.q, g.rs.val] : List Value).toArray) rfl (by kernel_rfl) (by kernel_rfl) (by kernel_rfl) (by rfl) (fun w' hw => ex_mid rfl rfl (hd_parts hok (rE w' hw)).1 Tryz.underlying24 rfl iszBa) hS rfl ?_
      simp only [Act.put, List.setIfInBounds_toArray, List.set_cons_zero, List.set_cons_succ]
      refine hs_take (i := 8) (d := some 61) (v := ?_) rfl (by kernel_rfl) (by kernel_rfl) (by kernel_rfl) (by rfl) ?_ hS rfl ?_
      rotate_left
      · intro w' hw
        go_simp
        try with_reducible rfl
      simp only [Act.put, List.setIfInBounds_toArray, List.set_cons_zero, List.set_cons_succ]
      refine hs_take (i := 9) (d := some 62) (v := .slice (some ⟨b, off, none⟩) m.he.xs.length m.he.cap) rfl (by kernel_rfl) (by kernel_rfl) (by kernel_rfl) (by rfl) (fun w' hw => pl_one rfl rfl (dE w' hw) Tryz.underlying29 rfl) hS rfl ?_
      simp only [Act.put, List.setIfInBounds_toArray, List.set_cons_zero, List.set_cons_succ]
      refine hs_take (i := 10) (d := some 63) (v := ?_) rfl (by kernel_rfl) (by kernel_rfl) (by kernel_rfl) (by rfl) ?_ hS rfl ?_
      rotate_left
      · intro w' hw
        go_simp
        try with_reducible rfl
      simp only [Act.put, List.setIfInBounds_toArray, List.set_cons_zero, List.set_cons_succ]
      refine hs_take (i := 11) (d := some 64) (v := ?_) rfl (by kernel_rfl) (by kernel_rfl) (by kernel_rfl) (by rfl) ?_ hS rfl ?_
      rotate_left
      · intro w' hw
        go_simp
        try with_reducible rfl
      simp only [Act.put, List.setIfInBounds_toArray, List.set_cons_zero, List.set_cons_succ]
      refine hs_take (i := 12) (d := some 65) (v := ?_) rfl (by kernel_rfl) (by kernel_rfl) (by kernel_rfl) (by rfl) ?_ hS rfl ?_
      rotate_left
      · intro w' hw
        go_simp
        try with_reducible rfl
      simp only [Act.put, List.setIfInBounds_toArray, List.set_cons_zero, List.set_cons_succ]
      refine hs_take (i := 13) (d := some 66) (v := .agg (certL g.vt g.sg).toArray) rfl (by kernel_rfl) (by kernel_rfl) (by kernel_rfl) (by rfl) (fun w' hw => ex_mid rfl rfl (hd_parts hok (rE w' hw)).2 Tryz.underlying35 rfl hic) hS rfl ?_
      simp only [Act.put, List.setIfInBounds_toArray, List.set_cons_zero, List.set_cons_succ]
      refine hs_call (i := 7) (d := some 60) rfl (by kernel_rfl) (by rfl) (by go_simp; first | done | exact ⟨rfl, rfl⟩ | with_reducible rfl) rfl ?_
      refine (refB_on av cv L g.q g.rs w8 row8 (by omega) (hgat.1.below (hA8 w8 hS)) hgf.2.1 hgf.2.2).mono ?_
      intro _ w9 hfin
      obtain ⟨a9, c9, rfl, row9, -, hB9⟩ := FOn.row hfin hL3.out (by omega)
      have hS : (Below w8.heap.size w8) w9 := hB9
      have hbw9 := hS.size
      refine ⟨_, rfl, hS, ?_⟩
      simp only [Act.put, List.setIfInBounds_toArray, List.set_cons_zero, List.set_cons_succ]
      refine hs_call (i := 14) (d := some 67) rfl (by kernel_rfl) (by rfl) (by go_simp; first | done | exact ⟨rfl, rfl⟩ | with_reducible rfl) rfl ?_
      refine (xcertP_on a9 c9 L3 g.vt g.sg w9 row9 hok (hgat.2.below (hA8 w9 hS)) hgf.1 (by omega) (by omega)).mono ?_
      intro _ w10 hfin
      obtain ⟨v9, rfl, m9, hB10⟩ := hfin
      have hS : (Below w8.heap.size w8) w10 := hS.trans (hB10.mono hbw9)
      have hbw10 := hS.size
      refine ⟨_, rfl, hS, ?_⟩
      simp only [Act.put, List.setIfInBounds_toArray, List.set_cons_zero, List.set_cons_succ]
      refine hs_take (i := 15) (d := some 3) (v := ?_) rfl (by kernel_rfl) (by kernel_rfl) (by kernel_rfl) (by rfl) ?_ hS rfl ?_
      rotate_left
      · intro w' hw
        go_simp
        try with_reducible rfl
      simp only [Act.put, List.setIfInBounds_toArray, List.set_cons_zero, List.set_cons_succ]
      refine hs_done (by kernel_rfl) ?_
      have HN : Hid (Mine w10 w3.heap.size v9 (L2 ++ (m.he.xs.take (k + 1)).flatMap hdL) ∧ Below w3.heap.size w3 w10) := hide ⟨by
        have e : L2 ++ (m.he.xs.take (k + 1)).flatMap hdL = L3 ++ ctL g.vt g.sg.xs := by rw [HS.out, ← List.append_assoc, hL.out]; unfold hdL; rw [← List.append_assoc, hL3.out]
        rw [e]
        exact m9.mono' (by omega), hb3w8.trans (hS.mono hbs8)⟩
      clear m9
      go_wp2_with fail
      go_roundw
      case rel => exact ⟨k + 1, by omega, by go_num, HN⟩
      case measure => simp [intOf]; omega
    · obtain rfl : k = m.he.xs.length := by omega
      rw [List.take_length] at hM
      have HF : Hid (FOn [] (putL 3 ++ ([m.ce, m.cl, m.cv].flatMap putL ++ hdsL m.he.xs)) w (.returned u3) wr) := hide ⟨_, rfl, by
        have e : ([] : List Int) ++ (putL 3 ++ ([m.ce, m.cl, m.cv].flatMap putL ++ hdsL m.he.xs)) = L2 ++ m.he.xs.flatMap hdL := by rw [← hL2.out, ← hL1.out]; simp [hdsL]
        rw [e]
        exact hM.mono' (by omega), hBr⟩
      go_wp2_with fail
      go_ret
      exact HF.out
set_option maxRecDepth 100000 in
set_option maxHeartbeats 400000 in
theorem xb4_on (m : Mg) (w : World) (om : m.ok) (am : m.At w) (hf : m.Fine) (hk : m.k = 4) : Calls Tryz.prog 18 #[.agg m.ms.cells.toArray] w fun e w' => FOn [] m.bytes w e w' := by
  have hall := hf.all
  have hbd : m.bytes = putL 4 ++ m.body := by unfold Mg.bytes; rw [hk]
  have hbody : m.body = [m.e, m.l, m.v].flatMap putL ++ evsL m.ne.xs := by unfold Mg.body; rw [hk]; rfl
  rw [hbd, hbody] at hall
  simp only [List.length_append] at hall
  rw [hbd, hbody]
  clear hbd
  have hat : ∀ {w' : World} {b : Nat}, w'.rangeAt b 0 m.ms.cells → m.ms.at w' b := fun hr => om.ms.at hr
  have hkk : m.ms.k = 4 := hk
  obtain ⟨q, hq⟩ : ∃ q, Hid (m.ms.cells = q) := ⟨_, hide rfl⟩
  rw [hq.out]
  simp only [hq.out] at hat
  clear hq
  obtain ⟨hB1, hR1, hs1⟩ := boxed_new w q 37
  have cK := fun w' => xput_on none 0 [] 4 w' (nil_row w') (by simp) (by decide)
  simp only [List.length_nil] at cK
  obtain ⟨L1, hL1⟩ : ∃ L, Hid (([] : List Int) ++ putL 4 = L) := ⟨_, hide rfl⟩
  have HLl : Hid (L1.length = (putL 4).length) := hide (by rw [← hL1.out]; rfl)
  have hK9 : (putL 4).length ≤ 9 := by decide
  go_enter Tryz.func18, Tryz.ntmps18
  go_upto_region 1 with fail
  obtain ⟨w1, hw1⟩ : ∃ W, w.alloc (.cells q.toArray 37) = W := ⟨_, rfl⟩
  rw [hw1] at hB1 hR1 hs1 ⊢
  clear hw1
  have ck := (hat hR1).k
  rw [hkk] at ck
  try simp only [Act.put]
  refine pl_begin ?_
  refine pl_take (d := some 7) (v := ?_) (by rfl) ?_ rfl ?_
  rotate_left
  · go_simp
    try with_reducible rfl
  simp only [Act.put, List.setIfInBounds_toArray, List.set_cons_zero, List.set_cons_succ]
  refine pl_take (d := some 8) (v := .int .i64 4) (by rfl) (pl_one rfl rfl ck Tryz.underlying3 rfl) rfl ?_
  simp only [Act.put, List.setIfInBounds_toArray, List.set_cons_zero, List.set_cons_succ]
  refine pl_call (d := some 9) (by rfl) (by go_simp; first | done | exact ⟨rfl, rfl⟩ | with_reducible rfl) rfl ?_
  refine (cK w1).mono ?_
  rintro _ w2 hfin
  obtain ⟨a2, c2, rfl, row2, -, hB2⟩ := FOn.row hfin hL1.out (by have := HLl.out; omega)
  refine ⟨_, rfl, ?_⟩
  simp only [Act.put, List.setIfInBounds_toArray, List.set_cons_zero, List.set_cons_succ]
  refine pl_take (d := some 3) (v := ?_) (by rfl) ?_ rfl ?_
  rotate_left
  · go_simp
    try with_reducible rfl
  simp only [Act.put, List.setIfInBounds_toArray, List.set_cons_zero, List.set_cons_succ]
  refine pl_nil ?_
  have hBw2 := hB1.trans (hB2.mono hB1.size)
  have hR2 := range_below hR1 hB2 hs1
  have hs2 : w.heap.size < w2.heap.size := Nat.lt_of_lt_of_le hs1 hB2.size
  have MA := hat hR2
  have ck := MA.k
  rw [hkk] at ck
  clear cK
  have hxl := hf.nn
  obtain ⟨L2, hL2⟩ : ∃ L, Hid (L1 ++ [m.e, m.l, m.v, (m.ne.xs.length : Int)].flatMap putL = L) := ⟨_, hide rfl⟩
  have hL2l : Hid (L2.length + (m.ne.xs.flatMap evL).length ≤ 40000) := hide (by
    rw [← hL2.out, List.length_append, HLl.out]
    unfold evsL at hall
    simp only [List.flatMap_cons, List.flatMap_nil, List.length_append, List.length_nil] at hall ⊢
    omega)
  obtain ⟨w3, hw3⟩ : ∃ W, w2 = W := ⟨_, rfl⟩
  rw [hw3] at MA hBw2 row2 hs2 ck ⊢
  clear hR2 hB2 hw3
  have d0 := MA.e
  have d1 := MA.l
  have d2 := MA.v
  have dbox : w3.cell? ⟨w.heap.size, 47, none⟩ = some (.slice m.ne.a m.ne.xs.length m.ne.cap) := MA.ne
  have hBw3 := hBw2
  have cN := xnums_on a2 c2 L1 [m.e, m.l, m.v, (m.ne.xs.length : Int)] #[.int .i64 m.e, .int .i64 m.l, .int .i64 m.v, .int .i64 (m.ne.xs.length : Int)] 4 w3 row2 rfl rfl (by have := HLl.out; omega) (by omega) (by omega) (four_le' hf.e hf.l hf.v (by omega))
  clear MA
  go_upto_region 15 with fail
  try simp only [Act.put]
  refine pl_begin ?_
  refine pl_take (d := some 70) (v := ?_) (by rfl) ?_ rfl ?_
  rotate_left
  · go_simp
    try with_reducible rfl
  simp only [Act.put, List.setIfInBounds_toArray, List.set_cons_zero, List.set_cons_succ]
  refine pl_take (d := some 71) (v := ?_) (by rfl) ?_ rfl ?_
  rotate_left
  · go_simp
    try with_reducible rfl
  simp only [Act.put, List.setIfInBounds_toArray, List.set_cons_zero, List.set_cons_succ]
  refine pl_take (d := some 72) (v := .int .i64 m.e) (by rfl) (pl_one rfl rfl d0 Tryz.underlying3 rfl) rfl ?_
  simp only [Act.put, List.setIfInBounds_toArray, List.set_cons_zero, List.set_cons_succ]
  refine pl_take (d := some 73) (v := ?_) (by rfl) ?_ rfl ?_
  rotate_left
  · go_simp
    try with_reducible rfl
  simp only [Act.put, List.setIfInBounds_toArray, List.set_cons_zero, List.set_cons_succ]
  refine pl_take (d := some 74) (v := .int .i64 m.l) (by rfl) (pl_one rfl rfl d1 Tryz.underlying3 rfl) rfl ?_
  simp only [Act.put, List.setIfInBounds_toArray, List.set_cons_zero, List.set_cons_succ]
  refine pl_take (d := some 75) (v := ?_) (by rfl) ?_ rfl ?_
  rotate_left
  · go_simp
    try with_reducible rfl
  simp only [Act.put, List.setIfInBounds_toArray, List.set_cons_zero, List.set_cons_succ]
  refine pl_take (d := some 76) (v := .int .i64 m.v) (by rfl) (pl_one rfl rfl d2 Tryz.underlying3 rfl) rfl ?_
  simp only [Act.put, List.setIfInBounds_toArray, List.set_cons_zero, List.set_cons_succ]
  refine pl_take (d := some 77) (v := ?_) (by rfl) ?_ rfl ?_
  rotate_left
  · go_simp
    try with_reducible rfl
  simp only [Act.put, List.setIfInBounds_toArray, List.set_cons_zero, List.set_cons_succ]
  refine pl_take (d := some 78) (v := .slice m.ne.a m.ne.xs.length m.ne.cap) (by rfl) (pl_one rfl rfl dbox Tryz.underlying32 rfl) rfl ?_
  simp only [Act.put, List.setIfInBounds_toArray, List.set_cons_zero, List.set_cons_succ]
  refine pl_take (d := some 79) (v := ?_) (by rfl) ?_ rfl ?_
  rotate_left
  · go_simp
    try with_reducible rfl
  simp only [Act.put, List.setIfInBounds_toArray, List.set_cons_zero, List.set_cons_succ]
  refine pl_run (d := some 80) (v := .slice (some ⟨w3.heap.size, 0, none⟩) 4 4) (w' := w3.alloc (.cells #[.int .i64 m.e, .int .i64 m.l, .int .i64 m.v, .int .i64 (m.ne.xs.length : Int)] 3)) (by rfl) (ex_bsi4 rfl rfl rfl rfl rfl (run_bsi4 m.e m.l m.v _ _)) rfl ?_
  simp only [Act.put, List.setIfInBounds_toArray, List.set_cons_zero, List.set_cons_succ]
  refine pl_call (d := some 81) (by rfl) (by go_simp; first | done | exact ⟨rfl, rfl⟩ | with_reducible rfl) rfl ?_
  refine (cN).mono ?_
  rintro _ w4 hfin
  obtain ⟨a4, c4, rfl, row4, m4, hB4⟩ := FOn.row hfin hL2.out (by have := hL2l.out; omega)
  refine ⟨_, rfl, ?_⟩
  simp only [Act.put, List.setIfInBounds_toArray, List.set_cons_zero, List.set_cons_succ]
  refine pl_take (d := some 3) (v := ?_) (by rfl) ?_ rfl ?_
  rotate_left
  · go_simp
    try with_reducible rfl
  simp only [Act.put, List.setIfInBounds_toArray, List.set_cons_zero, List.set_cons_succ]
  refine pl_nil ?_
  have hBw4 := hBw3.trans (hB4.mono hBw3.size)
  have hsw := hBw3.size
  clear cN d0 d1 d2 row4
  have hW4 := hBw4.size
  have HK0 : Hid (Mine w4 w3.heap.size (.slice a4 L2.length c4) (L2 ++ (m.ne.xs.take 0).flatMap evL) ∧ Below w3.heap.size w3 w4) := hide ⟨by simpa using m4, hB4⟩
  clear m4
  go_wp2_with fail
  go_loopw [3, 6] (fun ov iv wr => ∃ k : Nat, k ≤ m.ne.xs.length ∧ iv = .int .i64 (k : Int) ∧ Hid (Mine wr w3.heap.size ov (L2 ++ (m.ne.xs.take k).flatMap evL) ∧ Below w3.heap.size w3 wr)) (fun _ iv _ => m.ne.xs.length - (intOf iv).toNat)
  case atStart => exact ⟨0, by omega, rfl, HK0⟩
  case round =>
    clear HK0
    obtain ⟨k, hk', rfl, HK⟩ := hrel
    obtain ⟨hM, hB⟩ := HK.out
    clear HK
    have hBr := hBw3.trans (hB.mono hBw3.size)
    have hrs := hB.size
    have dl := (hB.cell (p := ⟨w.heap.size, 47, none⟩) (by show w.heap.size < w3.heap.size; omega)).trans dbox
    by_cases hlt : k < m.ne.xs.length
    · have k1 : (k : Int) < m.ne.xs.length := by omega
      obtain ⟨b, off, hae, hbb, hre⟩ := RowsAt.elem (am.ne.below hBr) k hlt
      have hre : wr.rangeAt b (off + k * 18) (EvE.f m.ne.xs[k]) := hre
      have hok := (am.ne.below hBr).2.1 _ (List.getElem_mem hlt)
      have hgf := hf.ne _ (List.getElem_mem hlt)
      have HS : Hid ((m.ne.xs.take (k + 1)).flatMap evL = (m.ne.xs.take k).flatMap evL ++ evL m.ne.xs[k]) := hide (by rw [List.take_succ_eq_append_getElem hlt, List.flatMap_append]; simp)
      have hll : ((m.ne.xs.take (k + 1)).flatMap evL).length ≤ (m.ne.xs.flatMap evL).length := by
        have e : m.ne.xs.flatMap evL = (m.ne.xs.take (k + 1)).flatMap evL ++ (m.ne.xs.drop (k + 1)).flatMap evL := by rw [← List.flatMap_append, List.take_append_drop]
        rw [e, List.length_append]
        omega
      rw [HS.out, List.length_append] at hll
      obtain ⟨g, hgg⟩ : ∃ g, Hid (m.ne.xs[k] = g) := ⟨_, hide rfl⟩
      rw [hgg.out] at hre hok HS hll hgf
      clear hgg
      obtain ⟨L, hL⟩ : ∃ L, Hid (L2 ++ (m.ne.xs.take k).flatMap evL = L) := ⟨_, hide rfl⟩
      have hLl : L.length + (evL g).length ≤ 40000 := by rw [← hL.out, List.length_append]; have := hL2l.out; omega
      rw [hL.out] at hM
      obtain ⟨av, cv, hve, _, _, hrow⟩ := hM.rowAt (by unfold maxLen; omega)
      rw [hve] at hM ⊢
      rw [hae] at dl
      have hok : g.ok := hok
      have hit : (Tryz.prog.info? 55).map (·.size) = some (v8 g.t).length := by rw [v8_length, hok.tl]; exact iszTg
      have hel : (evL g).length = (putL g.n).length + ((textL g.s).length + g.t.length) := by unfold evL; simp only [List.length_append]
      obtain ⟨L3, hL3⟩ : ∃ L3, Hid (L ++ putL g.n = L3) := ⟨_, hide rfl⟩
      have hL3l : L3.length ≤ 40000 := by rw [← hL3.out, List.length_append]; omega
      obtain ⟨L4, hL4⟩ : ∃ L4, Hid (L3 ++ textL g.s = L4) := ⟨_, hide rfl⟩
      have hL4l : L4.length ≤ 40000 := by rw [← hL4.out, ← hL3.out]; simp only [List.length_append]; omega
      clear hel
      go_upto_region 19 with fail
      refine hs_begin (S := (Below wr.drew.heap.size wr.drew)) 23 rfl (by kernel_rfl) ?_
      have hB8 : Below wr.heap.size wr wr.drew := (Below.refl _ _).drew
      obtain ⟨w8, hw8⟩ : ∃ W, wr.drew = W := ⟨_, rfl⟩
      rw [hw8] at hB8 ⊢
      clear hw8
      have row8 : RowAt w8 av L := hrow.below hB8
      have hr8 := range_below hre hB8 hbb
      have hb8s : b < w8.heap.size := Nat.lt_of_lt_of_le hbb hB8.size
      have hX8 : w.heap.size < wr.heap.size := by omega
      have hX8' : w.heap.size < w8.heap.size := Nat.lt_of_lt_of_le hX8 hB8.size
      have dl8 := (hB8.cell (p := ⟨w.heap.size, 47, none⟩) hX8).trans dl
      have dE : ∀ w', Below w8.heap.size w8 w' → w'.cell? ⟨w.heap.size, 47, none⟩ = some (.slice (some ⟨b, off, none⟩) m.ne.xs.length m.ne.cap) := fun w' hw => (hw.cell (p := ⟨w.heap.size, 47, none⟩) hX8').trans dl8
      have rE : ∀ w', Below w8.heap.size w8 w' → w'.rangeAt b (off + k * 18) (g.cells) := fun w' hw => range_below hr8 hw hb8s
      have hBw8 := hBr.trans (hB8.mono hBr.size)
      have hb3w8 := hB.trans (hB8.mono hB.size)
      have hA8 : ∀ w', Below w8.heap.size w8 w' → Below wr.heap.size wr w' := fun w' hw => hB8.trans (hw.mono hB8.size)
      have hS : (Below w8.heap.size w8) w8 := Below.refl _ _
      have hbs8 := hb3w8.size
      clear hre hr8 hM hrow dl8
      refine hs_take (i := 0) (d := some 89) (v := ?_) rfl (by kernel_rfl) (by kernel_rfl) (by kernel_rfl) (by rfl) ?_ hS rfl ?_
      rotate_left
      · intro w' hw
        go_simp
        try with_reducible rfl
      simp only [Act.put, List.setIfInBounds_toArray, List.set_cons_zero, List.set_cons_succ]
      refine hs_take (i := 1) (d := some 90) (v := ?_) rfl (by kernel_rfl) (by kernel_rfl) (by kernel_rfl) (by rfl) ?_ hS rfl ?_
      rotate_left
      · intro w' hw
        go_simp
        try with_reducible rfl
      simp only [Act.put, List.setIfInBounds_toArray, List.set_cons_zero, List.set_cons_succ]
      refine hs_take (i := 2) (d := some 91) (v := .slice (some ⟨b, off, none⟩) m.ne.xs.length m.ne.cap) rfl (by kernel_rfl) (by kernel_rfl) (by kernel_rfl) (by rfl) (fun w' hw => pl_one rfl rfl (dE w' hw) Tryz.underlying32 rfl) hS rfl ?_
      simp only [Act.put, List.setIfInBounds_toArray, List.set_cons_zero, List.set_cons_succ]
      refine hs_take (i := 3) (d := some 92) (v := ?_) rfl (by kernel_rfl) (by kernel_rfl) (by kernel_rfl) (by rfl) ?_ hS rfl ?_
      rotate_left
      · intro w' hw
        go_simp
        try with_reducible rfl
      simp only [Act.put, List.setIfInBounds_toArray, List.set_cons_zero, List.set_cons_succ]
      refine hs_take (i := 4) (d := some 93) (v := ?_) rfl (by kernel_rfl) (by kernel_rfl) (by kernel_rfl) (by rfl) ?_ hS rfl ?_
      rotate_left
      · intro w' hw
        go_simp
        try with_reducible rfl
      simp only [Act.put, List.setIfInBounds_toArray, List.set_cons_zero, List.set_cons_succ]
      refine hs_take (i := 5) (d := some 94) (v := ?_) rfl (by kernel_rfl) (by kernel_rfl) (by kernel_rfl) (by rfl) ?_ hS rfl ?_
      rotate_left
      · intro w' hw
        go_simp
        try with_reducible rfl
      simp only [Act.put, List.setIfInBounds_toArray, List.set_cons_zero, List.set_cons_succ]
      refine hs_take (i := 6) (d := some 95) (v := .int .i64 g.n) rfl (by kernel_rfl) (by kernel_rfl) (by kernel_rfl) (by rfl) (fun w' hw => pl_one rfl rfl (ev_parts (rE w' hw)).1 Tryz.underlying3 rfl) hS rfl ?_
      simp only [Act.put, List.setIfInBounds_toArray, List.set_cons_zero, List.set_cons_succ]
      refine hs_take (i := 8) (d := some 97) (v := ?_) rfl (by kernel_rfl) (by kernel_rfl) (by kernel_rfl) (by rfl) ?_ hS rfl ?_
      rotate_left
      · intro w' hw
        go_simp
        try with_reducible rfl
      simp only [Act.put, List.setIfInBounds_toArray, List.set_cons_zero, List.set_cons_succ]
      refine hs_take (i := 9) (d := some 98) (v := .slice (some ⟨b, off, none⟩) m.ne.xs.length m.ne.cap) rfl (by kernel_rfl) (by kernel_rfl) (by kernel_rfl) (by rfl) (fun w' hw => pl_one rfl rfl (dE w' hw) Tryz.underlying32 rfl) hS rfl ?_
      simp only [Act.put, List.setIfInBounds_toArray, List.set_cons_zero, List.set_cons_succ]
      refine hs_take (i := 10) (d := some 99) (v := ?_) rfl (by kernel_rfl) (by kernel_rfl) (by kernel_rfl) (by rfl) ?_ hS rfl ?_
      rotate_left
      · intro w' hw
        go_simp
        try with_reducible rfl
      simp only [Act.put, List.setIfInBounds_toArray, List.set_cons_zero, List.set_cons_succ]
      refine hs_take (i := 11) (d := some 100) (v := ?_) rfl (by kernel_rfl) (by kernel_rfl) (by kernel_rfl) (by rfl) ?_ hS rfl ?_
      rotate_left
      · intro w' hw
        go_simp
        try with_reducible rfl
      simp only [Act.put, List.setIfInBounds_toArray, List.set_cons_zero, List.set_cons_succ]
      refine hs_take (i := 12) (d := some 101) (v := ?_) rfl (by kernel_rfl) (by kernel_rfl) (by kernel_rfl) (by rfl) ?_ hS rfl ?_
      rotate_left
      · intro w' hw
        go_simp
        try with_reducible rfl
      simp only [Act.put, List.setIfInBounds_toArray, List.set_cons_zero, List.set_cons_succ]
      refine hs_take (i := 13) (d := some 102) (v := .string g.s) rfl (by kernel_rfl) (by kernel_rfl) (by kernel_rfl) (by rfl) (fun w' hw => pl_one rfl rfl (ev_parts (rE w' hw)).2.1 Tryz.underlying9 rfl) hS rfl ?_
      simp only [Act.put, List.setIfInBounds_toArray, List.set_cons_zero, List.set_cons_succ]
      refine hs_take (i := 15) (d := some 104) (v := ?_) rfl (by kernel_rfl) (by kernel_rfl) (by kernel_rfl) (by rfl) ?_ hS rfl ?_
      rotate_left
      · intro w' hw
        go_simp
        try with_reducible rfl
      simp only [Act.put, List.setIfInBounds_toArray, List.set_cons_zero, List.set_cons_succ]
      refine hs_take (i := 16) (d := some 105) (v := .slice (some ⟨b, off, none⟩) m.ne.xs.length m.ne.cap) rfl (by kernel_rfl) (by kernel_rfl) (by kernel_rfl) (by rfl) (fun w' hw => pl_one rfl rfl (dE w' hw) Tryz.underlying32 rfl) hS rfl ?_
      simp only [Act.put, List.setIfInBounds_toArray, List.set_cons_zero, List.set_cons_succ]
      refine hs_take (i := 17) (d := some 106) (v := ?_) rfl (by kernel_rfl) (by kernel_rfl) (by kernel_rfl) (by rfl) ?_ hS rfl ?_
      rotate_left
      · intro w' hw
        go_simp
        try with_reducible rfl
      simp only [Act.put, List.setIfInBounds_toArray, List.set_cons_zero, List.set_cons_succ]
      refine hs_take (i := 18) (d := some 107) (v := ?_) rfl (by kernel_rfl) (by kernel_rfl) (by kernel_rfl) (by rfl) ?_ hS rfl ?_
      rotate_left
      · intro w' hw
        go_simp
        try with_reducible rfl
      simp only [Act.put, List.setIfInBounds_toArray, List.set_cons_zero, List.set_cons_succ]
      refine hs_take (i := 19) (d := some 108) (v := ?_) rfl (by kernel_rfl) (by kernel_rfl) (by kernel_rfl) (by rfl) ?_ hS rfl ?_
      rotate_left
      · intro w' hw
        go_simp
        try with_reducible rfl
      simp only [Act.put, List.setIfInBounds_toArray, List.set_cons_zero, List.set_cons_succ]
      refine hs_take (i := 20) (d := some 109) (v := .agg (v8 g.t).toArray) rfl (by kernel_rfl) (by kernel_rfl) (by kernel_rfl) (by rfl) (fun w' hw => ex_mid rfl rfl (ev_parts (rE w' hw)).2.2 Tryz.underlying55 rfl hit) hS rfl ?_
      simp only [Act.put, List.setIfInBounds_toArray, List.set_cons_zero, List.set_cons_succ]
      refine hs_call (i := 7) (d := some 96) rfl (by kernel_rfl) (by rfl) (by go_simp; first | done | exact ⟨rfl, rfl⟩ | with_reducible rfl) rfl ?_
      refine (xput_on av cv L g.n w8 row8 (by omega) hok.nh).mono ?_
      intro _ w9 hfin
      obtain ⟨a9, c9, rfl, row9, -, hB9⟩ := FOn.row hfin hL3.out (by omega)
      have hS : (Below w8.heap.size w8) w9 := hB9
      have hbw9 := hS.size
      refine ⟨_, rfl, hS, ?_⟩
      simp only [Act.put, List.setIfInBounds_toArray, List.set_cons_zero, List.set_cons_succ]
      refine hs_call (i := 14) (d := some 103) rfl (by kernel_rfl) (by rfl) (by go_simp; first | done | exact ⟨rfl, rfl⟩ | with_reducible rfl) rfl ?_
      refine (xtext_on a9 c9 L3 g.s w9 row9 (by omega) hgf).mono ?_
      intro _ w10 hfin
      obtain ⟨a10, c10, rfl, row10, m10, hB10⟩ := FOn.row hfin hL4.out (by omega)
      have hS : (Below w8.heap.size w8) w10 := hS.trans (hB10.mono hbw9)
      have hbw10 := hS.size
      refine ⟨_, rfl, hS, ?_⟩
      simp only [Act.put, List.setIfInBounds_toArray, List.set_cons_zero, List.set_cons_succ]
      refine hs_call (i := 21) (d := some 110) rfl (by kernel_rfl) (by rfl) (by go_simp; first | done | exact ⟨rfl, rfl⟩ | with_reducible rfl) rfl ?_
      refine (xtag_any w9.heap.size _ L4 g.t w10 m10 hB10.size (by omega) hok.tl hok.tb).mono ?_
      intro _ w11 hfin
      obtain ⟨v9, rfl, m9, o9, -⟩ := hfin
      have hB11 := off_below o9 m10 hbw9 hbw10
      have hS : (Below w8.heap.size w8) w11 := hS.trans hB11
      have hbw11 := hS.size
      refine ⟨_, rfl, hS, ?_⟩
      simp only [Act.put, List.setIfInBounds_toArray, List.set_cons_zero, List.set_cons_succ]
      refine hs_take (i := 22) (d := some 3) (v := ?_) rfl (by kernel_rfl) (by kernel_rfl) (by kernel_rfl) (by rfl) ?_ hS rfl ?_
      rotate_left
      · intro w' hw
        go_simp
        try with_reducible rfl
      simp only [Act.put, List.setIfInBounds_toArray, List.set_cons_zero, List.set_cons_succ]
      refine hs_done (by kernel_rfl) ?_
      have HN : Hid (Mine w11 w3.heap.size v9 (L2 ++ (m.ne.xs.take (k + 1)).flatMap evL) ∧ Below w3.heap.size w3 w11) := hide ⟨by
        have e : L2 ++ (m.ne.xs.take (k + 1)).flatMap evL = L4 ++ g.t := by rw [HS.out, ← List.append_assoc, hL.out]; unfold evL; rw [← List.append_assoc, hL3.out, ← List.append_assoc, hL4.out]
        rw [e]
        exact m9.mono' (by omega), hb3w8.trans (hS.mono hbs8)⟩
      clear m9
      go_wp2_with fail
      go_roundw
      case rel => exact ⟨k + 1, by omega, by go_num, HN⟩
      case measure => simp [intOf]; omega
    · obtain rfl : k = m.ne.xs.length := by omega
      rw [List.take_length] at hM
      have HF : Hid (FOn [] (putL 4 ++ ([m.e, m.l, m.v].flatMap putL ++ evsL m.ne.xs)) w (.returned u3) wr) := hide ⟨_, rfl, by
        have e : ([] : List Int) ++ (putL 4 ++ ([m.e, m.l, m.v].flatMap putL ++ evsL m.ne.xs)) = L2 ++ m.ne.xs.flatMap evL := by rw [← hL2.out, ← hL1.out]; simp [evsL]
        rw [e]
        exact hM.mono' (by omega), hBr⟩
      go_wp2_with fail
      go_ret
      exact HF.out
end Go.Proofs.YtgjalkbianpibaaGreat
namespace Go.Proofs.YtgjalkbianpibaaGreat
open Go.RowKit
open Sha Tal
set_option maxRecDepth 100000 in
set_option maxHeartbeats 2000000 in
theorem xequalS_any (a : Option Addr) (cap : Nat) (rs : List Sg) (a' : Option Addr) (cap' : Nat) (rs' : List Sg) (w : World) (h : RowsAt SgE w a rs) (h' : RowsAt SgE w a' rs') :
    Calls Tryz.prog 38 #[.slice a rs.length cap, .slice a' rs'.length cap'] w fun e w' => ((e = .returned (.bool true) ∧ rs = rs') ∨ (e = .returned (.bool false) ∧ ¬ rs = rs')) ∧ Below w.heap.size w w' := by
  have hml := h.1
  have hml' := h'.1
  unfold maxLen at hml hml'
  have hall := h.2.1
  have hall' := h'.2.1
  by_cases hlen : rs.length = rs'.length
  rotate_left
  · have e0 : ((rs.length : Int) == rs'.length) = false := by simp; omega
    have HL := hide hlen
    clear hlen
    go_enter Tryz.func38, Tryz.ntmps38
    go_wp2
    go_ret
    exact ⟨.inr ⟨rfl, fun hh => HL.out (by rw [hh])⟩, Below.refl _ _⟩
  · have e0 : ((rs.length : Int) == rs'.length) = true := by simp; omega
    have HL := hide hlen
    clear hlen
    go_enter Tryz.func38, Tryz.ntmps38
    go_wp2
    go_loopw [5] (fun iv wr => ∃ k : Nat, k ≤ rs.length ∧ iv = .int .i64 (k : Int) ∧ Hid (∀ j (hj : j < rs.length) (hj' : j < rs'.length), j < k → rs[j] = rs'[j]) ∧ Below w.heap.size w wr) (fun iv _ => rs.length - (intOf iv).toNat)
    case atStart => exact ⟨0, by omega, rfl, hide (fun j _ _ hj => absurd hj (by omega)), Below.refl _ _⟩
    case round =>
      clear e0
      obtain ⟨k, hk, rfl, HM, hB⟩ := hrel
      by_cases hlt : k < rs.length
      · have k1 : (k : Int) < rs.length := by omega
        have hlt' : k < rs'.length := by have := HL.out; omega
        have k1' : (k : Int) < rs'.length := by omega
        obtain ⟨b, off, rfl, hb, hre⟩ := (h.below hB).elem k hlt
        have hre : wr.rangeAt b (off + k * 17) rs[k].cells := hre
        obtain ⟨b', off', rfl, hb', hre'⟩ := (h'.below hB).elem k hlt'
        have hre' : wr.rangeAt b' (off' + k * 17) rs'[k].cells := hre'
        obtain ⟨r, hr⟩ : ∃ r, Hid (rs[k] = r) := ⟨_, hide rfl⟩
        obtain ⟨r', hr'⟩ : ∃ r', Hid (rs'[k] = r') := ⟨_, hide rfl⟩
        have hok : r.ok := by rw [← hr.out]; exact hall _ (List.getElem_mem hlt)
        have hok' : r'.ok := by rw [← hr'.out]; exact hall' _ (List.getElem_mem hlt')
        rw [hr.out] at hre
        rw [hr'.out] at hre'
        have HM' : Hid (r = r' → ∀ j (hj : j < rs.length) (hj' : j < rs'.length), j < k + 1 → rs[j] = rs'[j]) := hide (fun hp j hj hj' hjk => by
          by_cases e : j = k
          · subst e; rw [hr.out, hr'.out]; exact hp
          · exact HM.out j hj hj' (by omega))
        have HN' : Hid (r ≠ r' → rs ≠ rs') := hide (fun hp he => by
          apply hp
          rw [← hr.out, ← hr'.out]
          subst he
          rfl)
        clear hr hr' HM
        have hiu : (Tryz.prog.info? 78).map (·.size) = some r.cells.length := by rw [show r.cells.length = 17 from SgE.len r hok]; kernel_rfl
        have hiu' : (Tryz.prog.info? 78).map (·.size) = some r'.cells.length := by rw [show r'.cells.length = 17 from SgE.len r' hok']; kernel_rfl
        have hne := fun w0 => Sg.eq10 r r' hok hok' w0
        obtain ⟨u, hu⟩ : ∃ u, Hid (r.cells = u) := ⟨_, hide rfl⟩
        obtain ⟨u', hu'⟩ : ∃ u', Hid (r'.cells = u') := ⟨_, hide rfl⟩
        rw [hu.out] at hre hiu
        rw [hu'.out] at hre' hiu'
        simp only [hu.out, hu'.out] at hne
        clear hu hu' hok hok'
        by_cases hrr : r = r'
        · have e1 : Sg.B r r' = true := Sg.B_iff.2 hrr
          rw [e1] at hne
          have HR := hide hrr
          clear hrr e1
          go_upto_region 6 with fail
          obtain ⟨w5, hw5⟩ : ∃ w5, wr.drew = w5 := ⟨_, rfl⟩
          have hB5 : Below w.heap.size w w5 := by rw [← hw5]; exact hB.drew
          have hre5 : w5.rangeAt b (off + k * 17) u := by rw [← hw5]; exact (World.rangeAt_drew _ _ _ _).2 hre
          have hre5' : w5.rangeAt b' (off' + k * 17) u' := by rw [← hw5]; exact (World.rangeAt_drew _ _ _ _).2 hre'
          have hb5 : b < w5.heap.size := by rw [← hw5]; exact hb
          have hb5' : b' < w5.heap.size := by rw [← hw5]; exact hb'
          refine hs_begin (S := (Below w5.heap.size w5)) 9 rfl (by kernel_rfl) ?_
          rw [hw5]
          clear hw5 hB hre hre' hb hb'
          have hS : (Below w5.heap.size w5) w5 := Below.refl _ _
          refine hs_take (i := 0) (d := some 17) (v := ?_) rfl (by kernel_rfl) (by kernel_rfl) (by kernel_rfl) (by rfl) ?_ hS rfl ?_
          rotate_left
          · intro w' hw
            go_simp
            try with_reducible rfl
          simp only [Act.put, List.setIfInBounds_toArray, List.set_cons_zero, List.set_cons_succ]
          refine hs_take (i := 1) (d := some 18) (v := ?_) rfl (by kernel_rfl) (by kernel_rfl) (by kernel_rfl) (by rfl) ?_ hS rfl ?_
          rotate_left
          · intro w' hw
            go_simp
            try with_reducible rfl
          simp only [Act.put, List.setIfInBounds_toArray, List.set_cons_zero, List.set_cons_succ]
          refine hs_take (i := 2) (d := some 19) (v := ?_) rfl (by kernel_rfl) (by kernel_rfl) (by kernel_rfl) (by rfl) ?_ hS rfl ?_
          rotate_left
          · intro w' hw
            go_simp
            try with_reducible rfl
          simp only [Act.put, List.setIfInBounds_toArray, List.set_cons_zero, List.set_cons_succ]
          refine hs_take (i := 3) (d := some 20) (v := .agg u.toArray) rfl (by kernel_rfl) (by kernel_rfl) (by kernel_rfl) (by rfl) (fun w' hw => exec_loadC rfl rfl (run_loadVar_mid (P := Tryz.prog) w' b (off + k * 17) 78 u _ (range_below hre5 hw hb5) Tryz.underlying78 rfl hiu)) hS rfl ?_
          simp only [Act.put, List.setIfInBounds_toArray, List.set_cons_zero, List.set_cons_succ]
          refine hs_take (i := 4) (d := some 21) (v := ?_) rfl (by kernel_rfl) (by kernel_rfl) (by kernel_rfl) (by rfl) ?_ hS rfl ?_
          rotate_left
          · intro w' hw
            go_simp
            try with_reducible rfl
          simp only [Act.put, List.setIfInBounds_toArray, List.set_cons_zero, List.set_cons_succ]
          refine hs_take (i := 5) (d := some 22) (v := ?_) rfl (by kernel_rfl) (by kernel_rfl) (by kernel_rfl) (by rfl) ?_ hS rfl ?_
          rotate_left
          · intro w' hw
            go_simp
            try with_reducible rfl
          simp only [Act.put, List.setIfInBounds_toArray, List.set_cons_zero, List.set_cons_succ]
          refine hs_take (i := 6) (d := some 23) (v := ?_) rfl (by kernel_rfl) (by kernel_rfl) (by kernel_rfl) (by rfl) ?_ hS rfl ?_
          rotate_left
          · intro w' hw
            go_simp
            try with_reducible rfl
          simp only [Act.put, List.setIfInBounds_toArray, List.set_cons_zero, List.set_cons_succ]
          refine hs_take (i := 7) (d := some 24) (v := .agg u'.toArray) rfl (by kernel_rfl) (by kernel_rfl) (by kernel_rfl) (by rfl) (fun w' hw => exec_loadC rfl rfl (run_loadVar_mid (P := Tryz.prog) w' b' (off' + k * 17) 78 u' _ (range_below hre5' hw hb5') Tryz.underlying78 rfl hiu')) hS rfl ?_
          simp only [Act.put, List.setIfInBounds_toArray, List.set_cons_zero, List.set_cons_succ]
          refine hs_take (i := 8) (d := some 25) (v := .bool false) rfl (by kernel_rfl) (by kernel_rfl) (by kernel_rfl) (by rfl) (fun w' hw => by have hc := hne w'; go_simp) hS rfl ?_
          simp only [Act.put, List.setIfInBounds_toArray, List.set_cons_zero, List.set_cons_succ]
          refine hs_done (by kernel_rfl) ?_
          go_wp2
          go_roundw
          case rel => exact ⟨k + 1, by omega, by go_num, hide (HM'.out HR.out), hB5⟩
          case measure => simp [intOf]; omega
        · have e1 : Sg.B r r' = false := by
            cases hx : Sg.B r r'
            · rfl
            · exact absurd (Sg.B_iff.1 hx) hrr
          rw [e1] at hne
          have HR := hide hrr
          clear hrr e1
          go_upto_region 6 with fail
          obtain ⟨w5, hw5⟩ : ∃ w5, wr.drew = w5 := ⟨_, rfl⟩
          have hB5 : Below w.heap.size w w5 := by rw [← hw5]; exact hB.drew
          have hre5 : w5.rangeAt b (off + k * 17) u := by rw [← hw5]; exact (World.rangeAt_drew _ _ _ _).2 hre
          have hre5' : w5.rangeAt b' (off' + k * 17) u' := by rw [← hw5]; exact (World.rangeAt_drew _ _ _ _).2 hre'
          have hb5 : b < w5.heap.size := by rw [← hw5]; exact hb
          have hb5' : b' < w5.heap.size := by rw [← hw5]; exact hb'
          refine hs_begin (S := (Below w5.heap.size w5)) 9 rfl (by kernel_rfl) ?_
          rw [hw5]
          clear hw5 hB hre hre' hb hb'
          have hS : (Below w5.heap.size w5) w5 := Below.refl _ _
          refine hs_take (i := 0) (d := some 17) (v := ?_) rfl (by kernel_rfl) (by kernel_rfl) (by kernel_rfl) (by rfl) ?_ hS rfl ?_
          rotate_left
          · intro w' hw
            go_simp
            try with_reducible rfl
          simp only [Act.put, List.setIfInBounds_toArray, List.set_cons_zero, List.set_cons_succ]
          refine hs_take (i := 1) (d := some 18) (v := ?_) rfl (by kernel_rfl) (by kernel_rfl) (by kernel_rfl) (by rfl) ?_ hS rfl ?_
          rotate_left
          · intro w' hw
            go_simp
            try with_reducible rfl
          simp only [Act.put, List.setIfInBounds_toArray, List.set_cons_zero, List.set_cons_succ]
          refine hs_take (i := 2) (d := some 19) (v := ?_) rfl (by kernel_rfl) (by kernel_rfl) (by kernel_rfl) (by rfl) ?_ hS rfl ?_
          rotate_left
          · intro w' hw
            go_simp
            try with_reducible rfl
          simp only [Act.put, List.setIfInBounds_toArray, List.set_cons_zero, List.set_cons_succ]
          refine hs_take (i := 3) (d := some 20) (v := .agg u.toArray) rfl (by kernel_rfl) (by kernel_rfl) (by kernel_rfl) (by rfl) (fun w' hw => exec_loadC rfl rfl (run_loadVar_mid (P := Tryz.prog) w' b (off + k * 17) 78 u _ (range_below hre5 hw hb5) Tryz.underlying78 rfl hiu)) hS rfl ?_
          simp only [Act.put, List.setIfInBounds_toArray, List.set_cons_zero, List.set_cons_succ]
          refine hs_take (i := 4) (d := some 21) (v := ?_) rfl (by kernel_rfl) (by kernel_rfl) (by kernel_rfl) (by rfl) ?_ hS rfl ?_
          rotate_left
          · intro w' hw
            go_simp
            try with_reducible rfl
          simp only [Act.put, List.setIfInBounds_toArray, List.set_cons_zero, List.set_cons_succ]
          refine hs_take (i := 5) (d := some 22) (v := ?_) rfl (by kernel_rfl) (by kernel_rfl) (by kernel_rfl) (by rfl) ?_ hS rfl ?_
          rotate_left
          · intro w' hw
            go_simp
            try with_reducible rfl
          simp only [Act.put, List.setIfInBounds_toArray, List.set_cons_zero, List.set_cons_succ]
          refine hs_take (i := 6) (d := some 23) (v := ?_) rfl (by kernel_rfl) (by kernel_rfl) (by kernel_rfl) (by rfl) ?_ hS rfl ?_
          rotate_left
          · intro w' hw
            go_simp
            try with_reducible rfl
          simp only [Act.put, List.setIfInBounds_toArray, List.set_cons_zero, List.set_cons_succ]
          refine hs_take (i := 7) (d := some 24) (v := .agg u'.toArray) rfl (by kernel_rfl) (by kernel_rfl) (by kernel_rfl) (by rfl) (fun w' hw => exec_loadC rfl rfl (run_loadVar_mid (P := Tryz.prog) w' b' (off' + k * 17) 78 u' _ (range_below hre5' hw hb5') Tryz.underlying78 rfl hiu')) hS rfl ?_
          simp only [Act.put, List.setIfInBounds_toArray, List.set_cons_zero, List.set_cons_succ]
          refine hs_take (i := 8) (d := some 25) (v := .bool true) rfl (by kernel_rfl) (by kernel_rfl) (by kernel_rfl) (by rfl) (fun w' hw => by have hc := hne w'; go_simp) hS rfl ?_
          simp only [Act.put, List.setIfInBounds_toArray, List.set_cons_zero, List.set_cons_succ]
          refine hs_done (by kernel_rfl) ?_
          go_wp2
          go_ret
          exact ⟨.inr ⟨rfl, fun hh => HN'.out HR.out hh⟩, hB5⟩
      · have k1 : ¬ (k : Int) < rs.length := by omega
        have HE : Hid (rs = rs') := hide (List.ext_getElem HL.out (fun j hj hj' => HM.out j hj hj' (by omega)))
        clear HM
        go_wp2
        go_ret
        exact ⟨.inl ⟨rfl, HE.out⟩, hB⟩
theorem xequalS_anyB (a : Option Addr) (cap : Nat) (rs : List Sg) (a' : Option Addr) (cap' : Nat) (rs' : List Sg) (w : World) (h : RowsAt SgE w a rs) (h' : RowsAt SgE w a' rs') :
    Calls Tryz.prog 38 #[.slice a rs.length cap, .slice a' rs'.length cap'] w fun e w' => e = .returned (.bool (sameL Sg.B rs rs')) ∧ Below w.heap.size w w' := by
  refine (xequalS_any a cap rs a' cap' rs' w h h').mono ?_
  rintro e w1 ⟨hc, hb⟩
  have I := sameL_iff (fun x y => Sg.B_iff (x := x) (y := y)) rs rs'
  refine ⟨?_, hb⟩
  rcases hc with ⟨rfl, he⟩ | ⟨rfl, he⟩
  · rw [I.2 he]
  · cases hq : sameL Sg.B rs rs'
    · rfl
    · exact absurd (I.1 hq) he
set_option maxRecDepth 100000 in
set_option maxHeartbeats 2000000 in
theorem xequalE_any (a : Option Addr) (cap : Nat) (rs : List Ev) (a' : Option Addr) (cap' : Nat) (rs' : List Ev) (w : World) (h : RowsAt EvE w a rs) (h' : RowsAt EvE w a' rs') :
    Calls Tryz.prog 36 #[.slice a rs.length cap, .slice a' rs'.length cap'] w fun e w' => ((e = .returned (.bool true) ∧ rs = rs') ∨ (e = .returned (.bool false) ∧ ¬ rs = rs')) ∧ Below w.heap.size w w' := by
  have hml := h.1
  have hml' := h'.1
  unfold maxLen at hml hml'
  have hall := h.2.1
  have hall' := h'.2.1
  by_cases hlen : rs.length = rs'.length
  rotate_left
  · have e0 : ((rs.length : Int) == rs'.length) = false := by simp; omega
    have HL := hide hlen
    clear hlen
    go_enter Tryz.func36, Tryz.ntmps36
    go_wp2
    go_ret
    exact ⟨.inr ⟨rfl, fun hh => HL.out (by rw [hh])⟩, Below.refl _ _⟩
  · have e0 : ((rs.length : Int) == rs'.length) = true := by simp; omega
    have HL := hide hlen
    clear hlen
    go_enter Tryz.func36, Tryz.ntmps36
    go_wp2
    go_loopw [5] (fun iv wr => ∃ k : Nat, k ≤ rs.length ∧ iv = .int .i64 (k : Int) ∧ Hid (∀ j (hj : j < rs.length) (hj' : j < rs'.length), j < k → rs[j] = rs'[j]) ∧ Below w.heap.size w wr) (fun iv _ => rs.length - (intOf iv).toNat)
    case atStart => exact ⟨0, by omega, rfl, hide (fun j _ _ hj => absurd hj (by omega)), Below.refl _ _⟩
    case round =>
      clear e0
      obtain ⟨k, hk, rfl, HM, hB⟩ := hrel
      by_cases hlt : k < rs.length
      · have k1 : (k : Int) < rs.length := by omega
        have hlt' : k < rs'.length := by have := HL.out; omega
        have k1' : (k : Int) < rs'.length := by omega
        obtain ⟨b, off, rfl, hb, hre⟩ := (h.below hB).elem k hlt
        have hre : wr.rangeAt b (off + k * 18) rs[k].cells := hre
        obtain ⟨b', off', rfl, hb', hre'⟩ := (h'.below hB).elem k hlt'
        have hre' : wr.rangeAt b' (off' + k * 18) rs'[k].cells := hre'
        obtain ⟨r, hr⟩ : ∃ r, Hid (rs[k] = r) := ⟨_, hide rfl⟩
        obtain ⟨r', hr'⟩ : ∃ r', Hid (rs'[k] = r') := ⟨_, hide rfl⟩
        have hok : r.ok := by rw [← hr.out]; exact hall _ (List.getElem_mem hlt)
        have hok' : r'.ok := by rw [← hr'.out]; exact hall' _ (List.getElem_mem hlt')
        rw [hr.out] at hre
        rw [hr'.out] at hre'
        have HM' : Hid (r = r' → ∀ j (hj : j < rs.length) (hj' : j < rs'.length), j < k + 1 → rs[j] = rs'[j]) := hide (fun hp j hj hj' hjk => by
          by_cases e : j = k
          · subst e; rw [hr.out, hr'.out]; exact hp
          · exact HM.out j hj hj' (by omega))
        have HN' : Hid (r ≠ r' → rs ≠ rs') := hide (fun hp he => by
          apply hp
          rw [← hr.out, ← hr'.out]
          subst he
          rfl)
        clear hr hr' HM
        have hiu : (Tryz.prog.info? 57).map (·.size) = some r.cells.length := by rw [show r.cells.length = 18 from EvE.len r hok]; kernel_rfl
        have hiu' : (Tryz.prog.info? 57).map (·.size) = some r'.cells.length := by rw [show r'.cells.length = 18 from EvE.len r' hok']; kernel_rfl
        have hne := fun w0 => Ev.eq10 r r' hok hok' w0
        obtain ⟨u, hu⟩ : ∃ u, Hid (r.cells = u) := ⟨_, hide rfl⟩
        obtain ⟨u', hu'⟩ : ∃ u', Hid (r'.cells = u') := ⟨_, hide rfl⟩
        rw [hu.out] at hre hiu
        rw [hu'.out] at hre' hiu'
        simp only [hu.out, hu'.out] at hne
        clear hu hu' hok hok'
        by_cases hrr : r = r'
        · have e1 : Ev.B r r' = true := Ev.B_iff.2 hrr
          rw [e1] at hne
          have HR := hide hrr
          clear hrr e1
          go_upto_region 6 with fail
          obtain ⟨w5, hw5⟩ : ∃ w5, wr.drew = w5 := ⟨_, rfl⟩
          have hB5 : Below w.heap.size w w5 := by rw [← hw5]; exact hB.drew
          have hre5 : w5.rangeAt b (off + k * 18) u := by rw [← hw5]; exact (World.rangeAt_drew _ _ _ _).2 hre
          have hre5' : w5.rangeAt b' (off' + k * 18) u' := by rw [← hw5]; exact (World.rangeAt_drew _ _ _ _).2 hre'
          have hb5 : b < w5.heap.size := by rw [← hw5]; exact hb
          have hb5' : b' < w5.heap.size := by rw [← hw5]; exact hb'
          refine hs_begin (S := (Below w5.heap.size w5)) 9 rfl (by kernel_rfl) ?_
          rw [hw5]
          clear hw5 hB hre hre' hb hb'
          have hS : (Below w5.heap.size w5) w5 := Below.refl _ _
          refine hs_take (i := 0) (d := some 17) (v := ?_) rfl (by kernel_rfl) (by kernel_rfl) (by kernel_rfl) (by rfl) ?_ hS rfl ?_
          rotate_left
          · intro w' hw
            go_simp
            try with_reducible rfl
          simp only [Act.put, List.setIfInBounds_toArray, List.set_cons_zero, List.set_cons_succ]
          refine hs_take (i := 1) (d := some 18) (v := ?_) rfl (by kernel_rfl) (by kernel_rfl) (by kernel_rfl) (by rfl) ?_ hS rfl ?_
          rotate_left
          · intro w' hw
            go_simp
            try with_reducible rfl
          simp only [Act.put, List.setIfInBounds_toArray, List.set_cons_zero, List.set_cons_succ]
          refine hs_take (i := 2) (d := some 19) (v := ?_) rfl (by kernel_rfl) (by kernel_rfl) (by kernel_rfl) (by rfl) ?_ hS rfl ?_
          rotate_left
          · intro w' hw
            go_simp
            try with_reducible rfl
          simp only [Act.put, List.setIfInBounds_toArray, List.set_cons_zero, List.set_cons_succ]
          refine hs_take (i := 3) (d := some 20) (v := .agg u.toArray) rfl (by kernel_rfl) (by kernel_rfl) (by kernel_rfl) (by rfl) (fun w' hw => exec_loadC rfl rfl (run_loadVar_mid (P := Tryz.prog) w' b (off + k * 18) 57 u _ (range_below hre5 hw hb5) Tryz.underlying57 rfl hiu)) hS rfl ?_
          simp only [Act.put, List.setIfInBounds_toArray, List.set_cons_zero, List.set_cons_succ]
          refine hs_take (i := 4) (d := some 21) (v := ?_) rfl (by kernel_rfl) (by kernel_rfl) (by kernel_rfl) (by rfl) ?_ hS rfl ?_
          rotate_left
          · intro w' hw
            go_simp
            try with_reducible rfl
          simp only [Act.put, List.setIfInBounds_toArray, List.set_cons_zero, List.set_cons_succ]
          refine hs_take (i := 5) (d := some 22) (v := ?_) rfl (by kernel_rfl) (by kernel_rfl) (by kernel_rfl) (by rfl) ?_ hS rfl ?_
          rotate_left
          · intro w' hw
            go_simp
            try with_reducible rfl
          simp only [Act.put, List.setIfInBounds_toArray, List.set_cons_zero, List.set_cons_succ]
          refine hs_take (i := 6) (d := some 23) (v := ?_) rfl (by kernel_rfl) (by kernel_rfl) (by kernel_rfl) (by rfl) ?_ hS rfl ?_
          rotate_left
          · intro w' hw
            go_simp
            try with_reducible rfl
          simp only [Act.put, List.setIfInBounds_toArray, List.set_cons_zero, List.set_cons_succ]
          refine hs_take (i := 7) (d := some 24) (v := .agg u'.toArray) rfl (by kernel_rfl) (by kernel_rfl) (by kernel_rfl) (by rfl) (fun w' hw => exec_loadC rfl rfl (run_loadVar_mid (P := Tryz.prog) w' b' (off' + k * 18) 57 u' _ (range_below hre5' hw hb5') Tryz.underlying57 rfl hiu')) hS rfl ?_
          simp only [Act.put, List.setIfInBounds_toArray, List.set_cons_zero, List.set_cons_succ]
          refine hs_take (i := 8) (d := some 25) (v := .bool false) rfl (by kernel_rfl) (by kernel_rfl) (by kernel_rfl) (by rfl) (fun w' hw => by have hc := hne w'; go_simp) hS rfl ?_
          simp only [Act.put, List.setIfInBounds_toArray, List.set_cons_zero, List.set_cons_succ]
          refine hs_done (by kernel_rfl) ?_
          go_wp2
          go_roundw
          case rel => exact ⟨k + 1, by omega, by go_num, hide (HM'.out HR.out), hB5⟩
          case measure => simp [intOf]; omega
        · have e1 : Ev.B r r' = false := by
            cases hx : Ev.B r r'
            · rfl
            · exact absurd (Ev.B_iff.1 hx) hrr
          rw [e1] at hne
          have HR := hide hrr
          clear hrr e1
          go_upto_region 6 with fail
          obtain ⟨w5, hw5⟩ : ∃ w5, wr.drew = w5 := ⟨_, rfl⟩
          have hB5 : Below w.heap.size w w5 := by rw [← hw5]; exact hB.drew
          have hre5 : w5.rangeAt b (off + k * 18) u := by rw [← hw5]; exact (World.rangeAt_drew _ _ _ _).2 hre
          have hre5' : w5.rangeAt b' (off' + k * 18) u' := by rw [← hw5]; exact (World.rangeAt_drew _ _ _ _).2 hre'
          have hb5 : b < w5.heap.size := by rw [← hw5]; exact hb
          have hb5' : b' < w5.heap.size := by rw [← hw5]; exact hb'
          refine hs_begin (S := (Below w5.heap.size w5)) 9 rfl (by kernel_rfl) ?_
          rw [hw5]
          clear hw5 hB hre hre' hb hb'
          have hS : (Below w5.heap.size w5) w5 := Below.refl _ _
          refine hs_take (i := 0) (d := some 17) (v := ?_) rfl (by kernel_rfl) (by kernel_rfl) (by kernel_rfl) (by rfl) ?_ hS rfl ?_
          rotate_left
          · intro w' hw
            go_simp
            try with_reducible rfl
          simp only [Act.put, List.setIfInBounds_toArray, List.set_cons_zero, List.set_cons_succ]
          refine hs_take (i := 1) (d := some 18) (v := ?_) rfl (by kernel_rfl) (by kernel_rfl) (by kernel_rfl) (by rfl) ?_ hS rfl ?_
          rotate_left
          · intro w' hw
            go_simp
            try with_reducible rfl
          simp only [Act.put, List.setIfInBounds_toArray, List.set_cons_zero, List.set_cons_succ]
          refine hs_take (i := 2) (d := some 19) (v := ?_) rfl (by kernel_rfl) (by kernel_rfl) (by kernel_rfl) (by rfl) ?_ hS rfl ?_
          rotate_left
          · intro w' hw
            go_simp
            try with_reducible rfl
          simp only [Act.put, List.setIfInBounds_toArray, List.set_cons_zero, List.set_cons_succ]
          refine hs_take (i := 3) (d := some 20) (v := .agg u.toArray) rfl (by kernel_rfl) (by kernel_rfl) (by kernel_rfl) (by rfl) (fun w' hw => exec_loadC rfl rfl (run_loadVar_mid (P := Tryz.prog) w' b (off + k * 18) 57 u _ (range_below hre5 hw hb5) Tryz.underlying57 rfl hiu)) hS rfl ?_
          simp only [Act.put, List.setIfInBounds_toArray, List.set_cons_zero, List.set_cons_succ]
          refine hs_take (i := 4) (d := some 21) (v := ?_) rfl (by kernel_rfl) (by kernel_rfl) (by kernel_rfl) (by rfl) ?_ hS rfl ?_
          rotate_left
          · intro w' hw
            go_simp
            try with_reducible rfl
          simp only [Act.put, List.setIfInBounds_toArray, List.set_cons_zero, List.set_cons_succ]
          refine hs_take (i := 5) (d := some 22) (v := ?_) rfl (by kernel_rfl) (by kernel_rfl) (by kernel_rfl) (by rfl) ?_ hS rfl ?_
          rotate_left
          · intro w' hw
            go_simp
            try with_reducible rfl
          simp only [Act.put, List.setIfInBounds_toArray, List.set_cons_zero, List.set_cons_succ]
          refine hs_take (i := 6) (d := some 23) (v := ?_) rfl (by kernel_rfl) (by kernel_rfl) (by kernel_rfl) (by rfl) ?_ hS rfl ?_
          rotate_left
          · intro w' hw
            go_simp
            try with_reducible rfl
          simp only [Act.put, List.setIfInBounds_toArray, List.set_cons_zero, List.set_cons_succ]
          refine hs_take (i := 7) (d := some 24) (v := .agg u'.toArray) rfl (by kernel_rfl) (by kernel_rfl) (by kernel_rfl) (by rfl) (fun w' hw => exec_loadC rfl rfl (run_loadVar_mid (P := Tryz.prog) w' b' (off' + k * 18) 57 u' _ (range_below hre5' hw hb5') Tryz.underlying57 rfl hiu')) hS rfl ?_
          simp only [Act.put, List.setIfInBounds_toArray, List.set_cons_zero, List.set_cons_succ]
          refine hs_take (i := 8) (d := some 25) (v := .bool true) rfl (by kernel_rfl) (by kernel_rfl) (by kernel_rfl) (by rfl) (fun w' hw => by have hc := hne w'; go_simp) hS rfl ?_
          simp only [Act.put, List.setIfInBounds_toArray, List.set_cons_zero, List.set_cons_succ]
          refine hs_done (by kernel_rfl) ?_
          go_wp2
          go_ret
          exact ⟨.inr ⟨rfl, fun hh => HN'.out HR.out hh⟩, hB5⟩
      · have k1 : ¬ (k : Int) < rs.length := by omega
        have HE : Hid (rs = rs') := hide (List.ext_getElem HL.out (fun j hj hj' => HM.out j hj hj' (by omega)))
        clear HM
        go_wp2
        go_ret
        exact ⟨.inl ⟨rfl, HE.out⟩, hB⟩
theorem xequalE_anyB (a : Option Addr) (cap : Nat) (rs : List Ev) (a' : Option Addr) (cap' : Nat) (rs' : List Ev) (w : World) (h : RowsAt EvE w a rs) (h' : RowsAt EvE w a' rs') :
    Calls Tryz.prog 36 #[.slice a rs.length cap, .slice a' rs'.length cap'] w fun e w' => e = .returned (.bool (sameL Ev.B rs rs')) ∧ Below w.heap.size w w' := by
  refine (xequalE_any a cap rs a' cap' rs' w h h').mono ?_
  rintro e w1 ⟨hc, hb⟩
  have I := sameL_iff (fun x y => Ev.B_iff (x := x) (y := y)) rs rs'
  refine ⟨?_, hb⟩
  rcases hc with ⟨rfl, he⟩ | ⟨rfl, he⟩
  · rw [I.2 he]
  · cases hq : sameL Ev.B rs rs'
    · rfl
    · exact absurd (I.1 hq) he
set_option maxRecDepth 100000 in
set_option maxHeartbeats 2000000 in
theorem xscert_any (x y : Vt) (s t : Sl Sg) (w : World) (hx : x.ok) (hy : y.ok) (hs : s.At SgE w) (ht : t.At SgE w) : Calls Tryz.prog 37 #[.agg (certL x s).toArray, .agg (certL y t).toArray] w fun e w' => e = .returned (.bool (certB x s y t)) ∧ Below w.heap.size w w' := by
  obtain ⟨hA, hA', hB, hz⟩ := two_boxG (certL x s) (certL y t) 35 w
  have r1 := range_left hA
  have r1' := range_left hA'
  have c1 := range_right hA 0 _ rfl
  have c1' := range_right hA' 0 _ rfl
  rw [hx.len] at c1
  rw [hy.len] at c1'
  simp only [Nat.zero_add, Nat.add_zero] at c1 c1'
  have ix : (Tryz.prog.info? 28).map (·.size) = some x.cells.length := by rw [hx.len]; exact iszV
  have iy : (Tryz.prog.info? 28).map (·.size) = some y.cells.length := by rw [hy.len]; exact iszV
  have hq := eqInV x y hx.dl hy.dl
  obtain ⟨a, cap, rs⟩ := s
  obtain ⟨a', cap', rs'⟩ := t
  have ce := fun w0 h0 h1 => xequalS_anyB a cap rs a' cap' rs' w0 h0 h1
  have h1 : RowsAt SgE _ a rs := RowsAt.below hs hB
  have h1' : RowsAt SgE _ a' rs' := RowsAt.below ht hB
  have E : certB x ⟨a, cap, rs⟩ y ⟨a', cap', rs'⟩ = (vtB x y && sameL Sg.B rs rs') := rfl
  rw [E]
  simp only [Sl.val] at c1 c1'
  clear hA hA' hz hx hy E hs ht
  generalize certL x ⟨a, cap, rs⟩ = q at *
  generalize certL y ⟨a', cap', rs'⟩ = q' at *
  generalize x.cells = u at *
  generalize y.cells = u' at *
  generalize vtB x y = vb at *
  generalize sameL Sg.B rs rs' = sb at *
  cases vb
  · go_enter Tryz.func37, Tryz.ntmps37
    go_upto_region 1 with fail
    go_name_world w1 hw1
    rw [show (w.alloc (.cells q.toArray 35)).alloc (.cells q'.toArray 35) = w1 from hw1] at r1 r1' c1 c1' hB h1 h1'
    clear hw1 ce
    go_wp2_with (first | (refine wpList_load_mid rfl 28 _ rfl _ _ rfl u _ r1 Tryz.underlying28 rfl ix ?_) | (refine wpList_load_mid rfl 28 _ rfl _ _ rfl u' _ r1' Tryz.underlying28 rfl iy ?_))
    go_ret
    exact ⟨rfl, hB⟩
  · cases sb
    all_goals
      go_enter Tryz.func37, Tryz.ntmps37
      go_upto_region 1 with fail
      go_name_world w1 hw1
      rw [show (w.alloc (.cells q.toArray 35)).alloc (.cells q'.toArray 35) = w1 from hw1] at r1 r1' c1 c1' hB h1 h1'
      clear hw1
      go_wp2_with (first | (refine wpList_load_mid rfl 28 _ rfl _ _ rfl u _ r1 Tryz.underlying28 rfl ix ?_) | (refine wpList_load_mid rfl 28 _ rfl _ _ rfl u' _ r1' Tryz.underlying28 rfl iy ?_))
      refine (ce _ h1 h1').mono ?_
      rintro e2 w2 ⟨rfl, hb2⟩
      have hB2 := hB.trans (hb2.mono hB.size)
      clear ce h1 h1' hb2 c1 c1' r1 r1'
      go_wp2
      go_ret
      exact ⟨rfl, hB2⟩
set_option maxRecDepth 100000 in
set_option maxHeartbeats 4000000 in
theorem xbsame_any (q : Bool) (x : Sl Rq) (q' : Bool) (x' : Sl Rq) (w : World) (h : x.At RqE w) (h' : x'.At RqE w) :
    Calls Tryz.prog 35 #[.agg #[.bool q, x.val], .agg #[.bool q', x'.val]] w fun e w' => e = .returned (.bool (batB q x q' x')) ∧ Below w.heap.size w w' := by
  obtain ⟨a, cap, rs⟩ := x
  obtain ⟨a', cap', rs'⟩ := x'
  have hB0 : Below w.heap.size w ((w.alloc (.cells #[.bool q, .slice a rs.length cap] 24)).alloc (.cells #[.bool q', .slice a' rs'.length cap'] 24)) := ((Below.refl _ w).alloc (Nat.le_refl _) _).alloc (by simp) _
  obtain ⟨hA, hA', _, hz⟩ := two_boxG [.bool q, .slice a rs.length cap] [.bool q', .slice a' rs'.length cap'] 24 w
  have c0 := hA 0 _ rfl
  have c1 := hA 1 _ rfl
  have c0' := hA' 0 _ rfl
  have c1' := hA' 1 _ rfl
  simp only [Nat.zero_add, Nat.add_zero] at c0 c1 c0' c1'
  have h1 : RowsAt RqE _ a rs := RowsAt.below h hB0
  have h1' : RowsAt RqE _ a' rs' := RowsAt.below h' hB0
  have hml : rs.length ≤ maxLen := h1.1
  have hml' : rs'.length ≤ maxLen := h1'.1
  unfold maxLen at hml hml'
  have E : batB q ⟨a, cap, rs⟩ q' ⟨a', cap', rs'⟩ = ((q == q') && sameL Rq.B rs rs') := rfl
  rw [E]
  have hall := h1.2.1
  have hall' := h1'.2.1
  clear E h h' hA hA'
  simp only [Sl.val]
  obtain ⟨W, hW⟩ : ∃ W, Hid ((w.alloc (.cells #[.bool q, .slice a rs.length cap] 24)).alloc (.cells #[.bool q', .slice a' rs'.length cap'] 24) = W) := ⟨_, hide rfl⟩
  rw [hW.out] at hB0 h1 h1'
  change World.cell? ((w.alloc (.cells #[.bool q, .slice a rs.length cap] 24)).alloc (.cells #[.bool q', .slice a' rs'.length cap'] 24)) _ = _ at c0 c1 c0' c1'
  change w.heap.size + 2 ≤ ((w.alloc (.cells #[.bool q, .slice a rs.length cap] 24)).alloc (.cells #[.bool q', .slice a' rs'.length cap'] 24)).heap.size at hz
  rw [hW.out] at c0 c1 c0' c1' hz
  have ENTER : True := trivial
  by_cases hqq : q = q'
  rotate_left
  · have n1 : (q == q') = false := beq_eq_false_iff_ne.2 hqq
    rw [n1, Bool.false_and]
    clear ENTER
    cases q <;> cases q'
    case false.false | true.true => exact absurd rfl hqq
    all_goals
      clear hqq n1
      go_enter Tryz.func35, Tryz.ntmps35
      go_upto_region 1 with fail
      go_name_world w1 hw1
      obtain rfl : W = w1 := hW.out.symm.trans hw1
      clear hw1 hW
      go_wp2
      go_ret
      exact ⟨rfl, hB0⟩
  · subst hqq
    rw [show (q == q) = true by simp, Bool.true_and]
    clear ENTER
    by_cases hlen : rs.length = rs'.length
    rotate_left
    · rw [sameL_false hlen]
      have e0 : ((rs.length : Int) == rs'.length) = false := by simp; omega
      clear hlen
      cases q
      all_goals
        go_enter Tryz.func35, Tryz.ntmps35
        go_upto_region 1 with fail
        go_name_world w1 hw1
        obtain rfl : W = w1 := hW.out.symm.trans hw1
        clear hw1 hW
        go_wp2
        go_ret
        exact ⟨rfl, hB0⟩
    · have e0 : ((rs.length : Int) == rs'.length) = true := by simp; omega
      have HL := hide hlen
      clear hlen
      obtain ⟨sb, hsb⟩ : ∃ sb, Hid (sameL Rq.B rs rs' = sb) := ⟨_, hide rfl⟩
      rw [hsb.out]
      have I := hide (sameL_iff (fun x y => Rq.B_iff (x := x) (y := y)) rs rs')
      cases q
      all_goals
        go_enter Tryz.func35, Tryz.ntmps35
        go_upto_region 1 with fail
        go_name_world w1 hw1
        obtain rfl : W = w1 := hW.out.symm.trans hw1
        clear hw1 hW
        go_wp2
        go_loopw [5] (fun iv wr' => ∃ k : Nat, k ≤ rs.length ∧ iv = .int .i64 (k : Int) ∧ Hid (∀ j (hj : j < rs.length) (hj' : j < rs'.length), j < k → rs[j] = rs'[j]) ∧ Below W.heap.size W wr') (fun iv _ => rs.length - (intOf iv).toNat)
        case atStart => exact ⟨0, by omega, rfl, hide (fun j _ _ hj => absurd hj (by omega)), Below.refl _ _⟩
        case round =>
          clear e0
          rename ((rs.length : Int) != (rs'.length : Int)) = false => hne0
          clear hne0
          obtain ⟨k, hk, rfl, HM, hBr⟩ := hrel
          have hB := hB0.trans (hBr.mono (by omega))
          have hzr := Nat.le_trans hz hBr.size
          have e1 := (hBr.cell (p := ⟨w.heap.size, 1, none⟩) (show w.heap.size < W.heap.size by omega)).trans c1
          have e1' := (hBr.cell (p := ⟨w.heap.size + 1, 1, none⟩) (show w.heap.size + 1 < W.heap.size by omega)).trans c1'
          by_cases hlt : k < rs.length
          · have k1 : (k : Int) < rs.length := by omega
            have hlt' : k < rs'.length := by have := HL.out; omega
            have k1' : (k : Int) < rs'.length := by omega
            obtain ⟨b, off, rfl, hb, hre⟩ := (h1.below hBr).elem k hlt
            have hre : wr.rangeAt b (off + k * 19) rs[k].cells := hre
            obtain ⟨b', off', rfl, hb', hre'⟩ := (h1'.below hBr).elem k hlt'
            have hre' : wr.rangeAt b' (off' + k * 19) rs'[k].cells := hre'
            obtain ⟨r, hr⟩ : ∃ r, Hid (rs[k] = r) := ⟨_, hide rfl⟩
            obtain ⟨r', hr'⟩ : ∃ r', Hid (rs'[k] = r') := ⟨_, hide rfl⟩
            have hok : r.ok := by rw [← hr.out]; exact hall _ (List.getElem_mem hlt)
            have hok' : r'.ok := by rw [← hr'.out]; exact hall' _ (List.getElem_mem hlt')
            rw [hr.out] at hre
            rw [hr'.out] at hre'
            have HM' : Hid (r = r' → ∀ j (hj : j < rs.length) (hj' : j < rs'.length), j < k + 1 → rs[j] = rs'[j]) := hide (fun hp j hj hj' hjk => by
              by_cases e : j = k
              · subst e; rw [hr.out, hr'.out]; exact hp
              · exact HM.out j hj hj' (by omega))
            have HN' : Hid (r ≠ r' → sb = false) := hide (fun hp => by
              cases hsbv : sb
              · rfl
              · have : rs = rs' := I.out.1 (hsb.out.trans hsbv)
                exact absurd (by rw [← hr.out, ← hr'.out]; subst this; rfl) hp)
            clear hr hr' HM
            have hiu : (Tryz.prog.info? 93).map (·.size) = some r.cells.length := by rw [show r.cells.length = 19 from RqE.len r hok]; kernel_rfl
            have hiu' : (Tryz.prog.info? 93).map (·.size) = some r'.cells.length := by rw [show r'.cells.length = 19 from RqE.len r' hok']; kernel_rfl
            have hne := fun w0 => Rq.eq10 r r' hok hok' w0
            generalize r.cells = u at *
            generalize r'.cells = u' at *
            clear hok hok'
            by_cases hrr : r = r'
            · rw [Rq.B_iff.2 hrr] at hne
              have HT' := hide (HM'.out hrr)
              clear hrr HM' HN'
              go_upto_region 6 with fail
              obtain ⟨w5, hw5⟩ : ∃ w5, wr.drew = w5 := ⟨_, rfl⟩
              have hBd : Below wr.heap.size wr w5 := by rw [← hw5]; exact (Below.refl _ _).drew
              have hB5 := hB.trans (hBd.mono (by omega))
              have hre5 := range_below hre hBd hb
              have hre5' := range_below hre' hBd hb'
              have hb5 : b < w5.heap.size := Nat.lt_of_lt_of_le hb hBd.size
              have hb5' : b' < w5.heap.size := Nat.lt_of_lt_of_le hb' hBd.size
              have d1 := (hBd.cell (p := ⟨w.heap.size, 1, none⟩) (show w.heap.size < wr.heap.size by omega)).trans e1
              have d1' := (hBd.cell (p := ⟨w.heap.size + 1, 1, none⟩) (show w.heap.size + 1 < wr.heap.size by omega)).trans e1'
              have hz5 := Nat.le_trans hzr hBd.size
              have HBX : Hid (Below wr.heap.size wr w5) := hide hBd
              refine hs_begin (S := (Below w5.heap.size w5)) 11 rfl (by kernel_rfl) ?_
              rw [hw5]
              clear hw5 hre hre' hb hb' hBd e1 e1' hB hzr
              have hS : (Below w5.heap.size w5) w5 := Below.refl _ _
              refine hs_take (i := 0) (d := some 27) (v := ?_) rfl (by kernel_rfl) (by kernel_rfl) (by kernel_rfl) (by rfl) ?_ hS rfl ?_
              rotate_left
              · intro w' hw
                go_simp
                try with_reducible rfl
              simp only [Act.put, List.setIfInBounds_toArray, List.set_cons_zero, List.set_cons_succ]
              refine hs_take (i := 1) (d := some 28) (v := ?_) rfl (by kernel_rfl) (by kernel_rfl) (by kernel_rfl) (by rfl) ?_ hS rfl ?_
              rotate_left
              · intro w' hw
                have := (hw.cell (p := ⟨w.heap.size, 1, none⟩) (show w.heap.size < w5.heap.size by omega)).trans d1
                go_simp
                try with_reducible rfl
              simp only [Act.put, List.setIfInBounds_toArray, List.set_cons_zero, List.set_cons_succ]
              refine hs_take (i := 2) (d := some 29) (v := ?_) rfl (by kernel_rfl) (by kernel_rfl) (by kernel_rfl) (by rfl) ?_ hS rfl ?_
              rotate_left
              · intro w' hw
                go_simp
                try with_reducible rfl
              simp only [Act.put, List.setIfInBounds_toArray, List.set_cons_zero, List.set_cons_succ]
              refine hs_take (i := 3) (d := some 30) (v := ?_) rfl (by kernel_rfl) (by kernel_rfl) (by kernel_rfl) (by rfl) ?_ hS rfl ?_
              rotate_left
              · intro w' hw
                go_simp
                try with_reducible rfl
              simp only [Act.put, List.setIfInBounds_toArray, List.set_cons_zero, List.set_cons_succ]
              refine hs_take (i := 4) (d := some 31) (v := .agg u.toArray) rfl (by kernel_rfl) (by kernel_rfl) (by kernel_rfl) (by rfl) (fun w' hw => exec_loadC rfl rfl (run_loadVar_mid (P := Tryz.prog) w' b (off + k * 19) 93 u _ (range_below hre5 hw hb5) Tryz.underlying93 rfl hiu)) hS rfl ?_
              simp only [Act.put, List.setIfInBounds_toArray, List.set_cons_zero, List.set_cons_succ]
              refine hs_take (i := 5) (d := some 32) (v := ?_) rfl (by kernel_rfl) (by kernel_rfl) (by kernel_rfl) (by rfl) ?_ hS rfl ?_
              rotate_left
              · intro w' hw
                go_simp
                try with_reducible rfl
              simp only [Act.put, List.setIfInBounds_toArray, List.set_cons_zero, List.set_cons_succ]
              refine hs_take (i := 6) (d := some 33) (v := ?_) rfl (by kernel_rfl) (by kernel_rfl) (by kernel_rfl) (by rfl) ?_ hS rfl ?_
              rotate_left
              · intro w' hw
                have := (hw.cell (p := ⟨w.heap.size + 1, 1, none⟩) (show w.heap.size + 1 < w5.heap.size by omega)).trans d1'
                go_simp
                try with_reducible rfl
              simp only [Act.put, List.setIfInBounds_toArray, List.set_cons_zero, List.set_cons_succ]
              refine hs_take (i := 7) (d := some 34) (v := ?_) rfl (by kernel_rfl) (by kernel_rfl) (by kernel_rfl) (by rfl) ?_ hS rfl ?_
              rotate_left
              · intro w' hw
                go_simp
                try with_reducible rfl
              simp only [Act.put, List.setIfInBounds_toArray, List.set_cons_zero, List.set_cons_succ]
              refine hs_take (i := 8) (d := some 35) (v := ?_) rfl (by kernel_rfl) (by kernel_rfl) (by kernel_rfl) (by rfl) ?_ hS rfl ?_
              rotate_left
              · intro w' hw
                go_simp
                try with_reducible rfl
              simp only [Act.put, List.setIfInBounds_toArray, List.set_cons_zero, List.set_cons_succ]
              refine hs_take (i := 9) (d := some 36) (v := .agg u'.toArray) rfl (by kernel_rfl) (by kernel_rfl) (by kernel_rfl) (by rfl) (fun w' hw => exec_loadC rfl rfl (run_loadVar_mid (P := Tryz.prog) w' b' (off' + k * 19) 93 u' _ (range_below hre5' hw hb5') Tryz.underlying93 rfl hiu')) hS rfl ?_
              simp only [Act.put, List.setIfInBounds_toArray, List.set_cons_zero, List.set_cons_succ]
              refine hs_take (i := 10) (d := some 37) (v := .bool false) rfl (by kernel_rfl) (by kernel_rfl) (by kernel_rfl) (by rfl) (fun w' hw => by have hc := hne w'; go_simp) hS rfl ?_
              simp only [Act.put, List.setIfInBounds_toArray, List.set_cons_zero, List.set_cons_succ]
              refine hs_done (by kernel_rfl) ?_
              go_wp2
              go_roundw
              case rel => exact ⟨k + 1, by omega, by go_num, HT', hBr.trans (HBX.out.mono hBr.size)⟩
              case measure => simp [intOf]; omega
            · have hbf : Rq.B r r' = false := by
                cases hx : Rq.B r r'
                · rfl
                · exact absurd (Rq.B_iff.1 hx) hrr
              rw [hbf] at hne
              have HF' := HN'.out hrr
              clear hrr HM' HN' hbf hsb I
              go_upto_region 6 with fail
              obtain ⟨w5, hw5⟩ : ∃ w5, wr.drew = w5 := ⟨_, rfl⟩
              have hBd : Below wr.heap.size wr w5 := by rw [← hw5]; exact (Below.refl _ _).drew
              have hB5 := hB.trans (hBd.mono (by omega))
              have hre5 := range_below hre hBd hb
              have hre5' := range_below hre' hBd hb'
              have hb5 : b < w5.heap.size := Nat.lt_of_lt_of_le hb hBd.size
              have hb5' : b' < w5.heap.size := Nat.lt_of_lt_of_le hb' hBd.size
              have d1 := (hBd.cell (p := ⟨w.heap.size, 1, none⟩) (show w.heap.size < wr.heap.size by omega)).trans e1
              have d1' := (hBd.cell (p := ⟨w.heap.size + 1, 1, none⟩) (show w.heap.size + 1 < wr.heap.size by omega)).trans e1'
              have hz5 := Nat.le_trans hzr hBd.size
              have HBX : Hid (Below wr.heap.size wr w5) := hide hBd
              refine hs_begin (S := (Below w5.heap.size w5)) 11 rfl (by kernel_rfl) ?_
              rw [hw5]
              clear hw5 hre hre' hb hb' hBd e1 e1' hB hzr
              have hS : (Below w5.heap.size w5) w5 := Below.refl _ _
              refine hs_take (i := 0) (d := some 27) (v := ?_) rfl (by kernel_rfl) (by kernel_rfl) (by kernel_rfl) (by rfl) ?_ hS rfl ?_
              rotate_left
              · intro w' hw
                go_simp
                try with_reducible rfl
              simp only [Act.put, List.setIfInBounds_toArray, List.set_cons_zero, List.set_cons_succ]
              refine hs_take (i := 1) (d := some 28) (v := ?_) rfl (by kernel_rfl) (by kernel_rfl) (by kernel_rfl) (by rfl) ?_ hS rfl ?_
              rotate_left
              · intro w' hw
                have := (hw.cell (p := ⟨w.heap.size, 1, none⟩) (show w.heap.size < w5.heap.size by omega)).trans d1
                go_simp
                try with_reducible rfl
              simp only [Act.put, List.setIfInBounds_toArray, List.set_cons_zero, List.set_cons_succ]
              refine hs_take (i := 2) (d := some 29) (v := ?_) rfl (by kernel_rfl) (by kernel_rfl) (by kernel_rfl) (by rfl) ?_ hS rfl ?_
              rotate_left
              · intro w' hw
                go_simp
                try with_reducible rfl
              simp only [Act.put, List.setIfInBounds_toArray, List.set_cons_zero, List.set_cons_succ]
              refine hs_take (i := 3) (d := some 30) (v := ?_) rfl (by kernel_rfl) (by kernel_rfl) (by kernel_rfl) (by rfl) ?_ hS rfl ?_
              rotate_left
              · intro w' hw
                go_simp
                try with_reducible rfl
              simp only [Act.put, List.setIfInBounds_toArray, List.set_cons_zero, List.set_cons_succ]
              refine hs_take (i := 4) (d := some 31) (v := .agg u.toArray) rfl (by kernel_rfl) (by kernel_rfl) (by kernel_rfl) (by rfl) (fun w' hw => exec_loadC rfl rfl (run_loadVar_mid (P := Tryz.prog) w' b (off + k * 19) 93 u _ (range_below hre5 hw hb5) Tryz.underlying93 rfl hiu)) hS rfl ?_
              simp only [Act.put, List.setIfInBounds_toArray, List.set_cons_zero, List.set_cons_succ]
              refine hs_take (i := 5) (d := some 32) (v := ?_) rfl (by kernel_rfl) (by kernel_rfl) (by kernel_rfl) (by rfl) ?_ hS rfl ?_
              rotate_left
              · intro w' hw
                go_simp
                try with_reducible rfl
              simp only [Act.put, List.setIfInBounds_toArray, List.set_cons_zero, List.set_cons_succ]
              refine hs_take (i := 6) (d := some 33) (v := ?_) rfl (by kernel_rfl) (by kernel_rfl) (by kernel_rfl) (by rfl) ?_ hS rfl ?_
              rotate_left
              · intro w' hw
                have := (hw.cell (p := ⟨w.heap.size + 1, 1, none⟩) (show w.heap.size + 1 < w5.heap.size by omega)).trans d1'
                go_simp
                try with_reducible rfl
              simp only [Act.put, List.setIfInBounds_toArray, List.set_cons_zero, List.set_cons_succ]
              refine hs_take (i := 7) (d := some 34) (v := ?_) rfl (by kernel_rfl) (by kernel_rfl) (by kernel_rfl) (by rfl) ?_ hS rfl ?_
              rotate_left
              · intro w' hw
                go_simp
                try with_reducible rfl
              simp only [Act.put, List.setIfInBounds_toArray, List.set_cons_zero, List.set_cons_succ]
              refine hs_take (i := 8) (d := some 35) (v := ?_) rfl (by kernel_rfl) (by kernel_rfl) (by kernel_rfl) (by rfl) ?_ hS rfl ?_
              rotate_left
              · intro w' hw
                go_simp
                try with_reducible rfl
              simp only [Act.put, List.setIfInBounds_toArray, List.set_cons_zero, List.set_cons_succ]
              refine hs_take (i := 9) (d := some 36) (v := .agg u'.toArray) rfl (by kernel_rfl) (by kernel_rfl) (by kernel_rfl) (by rfl) (fun w' hw => exec_loadC rfl rfl (run_loadVar_mid (P := Tryz.prog) w' b' (off' + k * 19) 93 u' _ (range_below hre5' hw hb5') Tryz.underlying93 rfl hiu')) hS rfl ?_
              simp only [Act.put, List.setIfInBounds_toArray, List.set_cons_zero, List.set_cons_succ]
              refine hs_take (i := 10) (d := some 37) (v := .bool true) rfl (by kernel_rfl) (by kernel_rfl) (by kernel_rfl) (by rfl) (fun w' hw => by have hc := hne w'; go_simp) hS rfl ?_
              simp only [Act.put, List.setIfInBounds_toArray, List.set_cons_zero, List.set_cons_succ]
              refine hs_done (by kernel_rfl) ?_
              go_wp2
              go_ret
              exact ⟨by rw [HF']; rfl, hB5⟩
          · have k1 : ¬ (k : Int) < rs.length := by omega
            have HE : Hid (sb = true) := hide (by
              rw [← hsb.out]
              exact I.out.2 (List.ext_getElem HL.out (fun j hj hj' => HM.out j hj hj' (by omega))))
            clear HM hsb I
            go_wp2
            go_ret
            exact ⟨by rw [HE.out]; rfl, hB⟩
end Go.Proofs.YtgjalkbianpibaaGreat
