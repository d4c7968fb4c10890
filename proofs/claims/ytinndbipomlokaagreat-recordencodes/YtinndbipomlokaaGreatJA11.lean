/- records: which may be, which are the same; records: which may be; the document's reader: votes; batch.Get and request.Get; the reader's lists; the reader's certs, and what was held; the reader's lists of what was held; changes; the reader's changes; the document's reader: batches, signs, envelopes, certs; the document's reader: changes; messages, read; the program's Decode; the document's fields; the document's Decode; both Decodes are the same: what is pure; what is read comes back, and has one form: the words; messages come back, and have one form: what is pure; good messages: with and without their places; records: which are the same -/
import Derived.Test.YtinndbipomlokaaGreatJA0
import Derived.Test.YtinndbipomlokaaGreatJA10
import Derived.Laws.MakeOwn
import Derived.Test.YtinndbipomlokaaGreatJA2
import Derived.Test.YtinndbipomlokaaGreatJA6
import Derived.Test.YtinndbipomlokaaGreatJA4
namespace Go.Proofs.YtinndbipomlokaaGreat
open Go.RowKit
open Sha Tal
set_option linter.unusedVariables false
set_option linter.unusedSimpArgs false
def mkK (k : Int) : Int := if k = 1 then 1 else if k = 3 then 4 else if k = 5 then 8 else if k = 2 then 7 else if k = 4 then 7 else 0
set_option maxRecDepth 100000 in
set_option maxHeartbeats 1000000 in
theorem kmk_any (k : Int) (w : World) : Calls Tryz.prog 56 #[.int .i64 k] w fun en w' => en = .returned (.int .i64 (mkK k)) ∧ w' = w := by
 by_cases n1 : k = 1
 ·subst n1
  go_enter Tryz.func56, Tryz.ntmps56
  go_wp2_with fail
  go_ret
  exact ⟨rfl, rfl⟩
 by_cases n3 : k = 3
 ·subst n3
  go_enter Tryz.func56, Tryz.ntmps56
  go_wp2_with fail
  go_ret
  exact ⟨rfl, rfl⟩
 by_cases n5 : k = 5
 ·subst n5
  go_enter Tryz.func56, Tryz.ntmps56
  go_wp2_with fail
  go_ret
  exact ⟨rfl, rfl⟩
 by_cases n2 : k = 2
 ·subst n2
  go_enter Tryz.func56, Tryz.ntmps56
  go_wp2_with fail
  go_ret
  exact ⟨rfl, rfl⟩
 by_cases n4 : k = 4
 ·subst n4
  go_enter Tryz.func56, Tryz.ntmps56
  go_wp2_with fail
  go_ret
  exact ⟨rfl, rfl⟩
 have b1 : (k == 1) = false := by simpa using n1
 have b3 : (k == 3) = false := by simpa using n3
 have b5 : (k == 5) = false := by simpa using n5
 have b2 : (k == 2) = false := by simpa using n2
 have b4 : (k == 4) = false := by simpa using n4
 have e : mkK k = 0 := by unfold mkK; rw [if_neg n1, if_neg n3, if_neg n5, if_neg n2, if_neg n4]
 rw [e]
 clear n1 n2 n3 n4 n5 e
 go_enter Tryz.func56, Tryz.ntmps56
 go_wp2_with fail
 go_ret
 exact ⟨rfl, rfl⟩
def Rc.told (r : Rc) : Mg := { r.whole with k := mkK r.k, v := if r.k = 1 then 0 else r.v }
theorem Rc.told_ok {r : Rc} (h : r.ct.ok) : r.told.ok := ⟨Vt.zero_ok, h, zeros32_len, zeros32_byte⟩
theorem Rc.told_at {r : Rc} {w : World} (h : r.At w) : r.told.At w := ⟨h.rs, hds_none, RowsAt.none, h.cs, h.sg⟩
theorem put_k {c : Ms} {X : World} {b : Nat} (x : Int) (r : X.rangeAt b 0 c.cells) (ht : X.there b 0 1) : (X.setCells b 0 [.int .i64 x]).rangeAt b 0 { c with k := x }.cells :=
 range_put (pre := []) (mid := [.int .i64 c.k]) (vs := [.int .i64 x]) r 0 rfl ht rfl
set_option maxRecDepth 100000 in
set_option maxHeartbeats 1000000 in
theorem ktold_any (r : Rc) (w : World) (h : r.ct.ok) : Calls Tryz.prog 27 #[.agg r.cells.toArray] w fun en w' => en = .returned (.agg r.told.ms.cells.toArray) ∧ Below w.heap.size w w' := by
 obtain ⟨zc, hzl, hzr⟩ : ∃ z : List Value, z.length = 119 ∧ ∀ w : World, (zeroValue 63).run Tryz.prog w = .ok (.agg z.toArray) w := ⟨_, (Ms.plain_ok 0 0 0 Vt.zero_ok zeros32_len zeros32_byte).len, zeroM⟩
 have cw := fun w0 => kwhole_any r w0 h
 have hwl := (Rc.whole_ok h).ms.len
 have hwo := (Rc.whole_ok h).ms.one
 have hpl := (Rc.told_ok h).ms.len
 have hp1 := (Rc.told_ok h).ms.one
 have hip : (Tryz.prog.info? 63).map (·.size) = some r.told.ms.cells.length := by rw [hpl]; exact iszM
 have hirc : (Tryz.prog.info? 33).map (·.size) = some r.cells.length := by rw [Rc.len h]; exact iszRc
 obtain ⟨hB1, hr0, hs1⟩ := boxed_new w r.cells 33
 have hk0 : ∀ (w' : World) b, w'.rangeAt b 0 r.cells → w'.cell? ⟨b, 0, none⟩ = some (.int .i64 r.k) := fun w' b h => h 0 _ rfl
 obtain ⟨pc, hpc⟩ : ∃ p, Hid (r.told.ms.cells = p) := ⟨_, hide rfl⟩
 simp only [hpc.out] at hpl hp1 hip ⊢
 obtain ⟨rc, hrc0⟩ : ∃ q, Hid (r.cells = q) := ⟨_, hide rfl⟩
 simp only [hrc0.out] at cw hirc hB1 hr0 hs1 hk0 ⊢
 go_enter Tryz.func27, Tryz.ntmps27
 go_upto_region 0 with fail
 try simp only [Act.put]
 refine pl_begin ?_
 refine pl_run (d := some 1) (v := .pointer (some ⟨w.heap.size, 0, none⟩)) (w' := w.alloc (.cells rc.toArray 33)) (by rfl) (ex_boxR rfl rfl) rfl ?_
 simp only [nz]
 obtain ⟨W1, hW1⟩ : ∃ W, w.alloc (.cells rc.toArray 33) = W := ⟨_, rfl⟩
 rw [hW1] at hB1 hr0 hs1 ⊢
 clear hW1
 refine pl_run (d := some 2) (v := .pointer (some ⟨W1.heap.size, 0, none⟩)) (w' := W1.alloc (.cells zc.toArray 63)) (by rfl) (ex_alloc rfl (hzr _)) rfl ?_
 simp only [nz]
 refine pl_nil ?_
 obtain ⟨hB2, -, hs2⟩ := boxed_new W1 zc 63
 have ht2 := there_newN W1 zc.toArray 63 (n := 119) (by simp [hzl])
 obtain ⟨W2, hW2⟩ : ∃ W, W1.alloc (.cells zc.toArray 63) = W := ⟨_, rfl⟩
 rw [hW2] at hB2 hs2 ht2 ⊢
 clear hW2
 have hrr := range_below hr0 hB2 hs1
 have hB3 := hB1.trans (hB2.mono hB1.size)
 go_upto_region 1 with fail
 try simp only [Act.put]
 refine pl_begin ?_
 refine pl_t 4 (.agg rc.toArray) (by rfl) (ex_mid rfl rfl hrr Tryz.underlying33 rfl hirc) rfl ?_
 simp only [nz]
 refine pl_call (d := some 5) (by rfl) (by go_simp; first | done | exact ⟨rfl, rfl⟩ | with_reducible rfl) rfl ?_
 refine (cw W2).mono ?_
 rintro _ w3 ⟨rfl, hb3⟩
 refine ⟨_, rfl, ?_⟩
 simp only [nz]
 refine pl_run (d := some 3) (v := .pointer (some ⟨w3.heap.size, 0, none⟩)) (w' := w3.alloc (.cells zc.toArray 63)) (by rfl) (ex_alloc rfl (hzr _)) rfl ?_
 simp only [nz]
 refine pl_store (w' := (w3.alloc (.cells zc.toArray 63)).setCells w3.heap.size 0 r.whole.ms.cells) (by rfl) (ex_put (cs := r.whole.ms.cells.toArray) rfl rfl rfl (there_newN _ _ _ (by simp [hzl, hwl])) (by simpa [hwl] using iszM) (all_one hwo)) rfl ?_
 refine pl_nil ?_
 have hz3 := hb3.size
 obtain ⟨r4, hF4, hz4, -⟩ := fresh_store w3 zc.toArray 63 r.whole.ms.cells (by simp [hzl, hwl])
 have hT4 := World.there_setCells (there_newN w3 zc.toArray 63 (n := 119) (by simp [hzl])) w3.heap.size 0 r.whole.ms.cells
 obtain ⟨w4, hw4⟩ : ∃ W, (w3.alloc (.cells zc.toArray 63)).setCells w3.heap.size 0 r.whole.ms.cells = W := ⟨_, rfl⟩
 rw [hw4] at r4 hF4 hz4 hT4 ⊢
 clear hw4
 have hrr4 := range_below (range_below hrr hb3 (by omega)) hF4 (by omega)
 have hk4 := hk0 _ _ hrr4
 have ht4 := there_below (there_below ht2 hb3 hs2) hF4 (by omega)
 have B4 := (hB3.trans (hb3.mono hB3.size)).trans (hF4.mono (Nat.le_trans hB3.size hb3.size))
 go_upto_region 2 with fail
 try simp only [Act.put]
 refine pl_begin ?_
 refine pl_t 6 (?_) (by rfl) ?_ rfl ?_
 rotate_left
 ·go_simp
  try with_reducible rfl
 simp only [nz]
 refine pl_t 7 (.int .i64 r.k) (by rfl) (pl_one rfl rfl hk4 Tryz.underlying3 rfl) rfl ?_
 simp only [nz]
 refine pl_call (d := some 8) (by rfl) (by go_simp; first | done | exact ⟨rfl, rfl⟩ | with_reducible rfl) rfl ?_
 refine (kmk_any r.k w4).mono ?_
 rintro _ w5 ⟨rfl, hx⟩
 obtain rfl := hx.symm
 clear hx
 refine ⟨_, rfl, ?_⟩
 simp only [nz]
 refine pl_t 9 (?_) (by rfl) ?_ rfl ?_
 rotate_left
 ·go_simp
  try with_reducible rfl
 simp only [nz]
 refine pl_store (w' := w4.setCells w3.heap.size 0 [.int .i64 (mkK r.k)]) (by rfl) (ex_put1 (n := 119) rfl rfl rfl hT4 (by decide) iszI rfl rfl) rfl ?_
 refine pl_nil ?_
 have r6 := put_k (mkK r.k) r4 (there_part1 hT4 (by decide))
 have hT6 := World.there_setCells hT4 w3.heap.size 0 [.int .i64 (mkK r.k)]
 have ht6 := World.there_setCells ht4 w3.heap.size 0 [.int .i64 (mkK r.k)]
 have hrr6 := World.rangeAt_setCells_apart hrr4 w3.heap.size 0 [.int .i64 (mkK r.k)] (.inl (by omega))
 have B6 := below_sets (b := w3.heap.size) (by have := hB3.size; omega) [.int .i64 (mkK r.k)] 0 _ B4
 obtain ⟨w6, hw6⟩ : ∃ W, w4.setCells w3.heap.size 0 [.int .i64 (mkK r.k)] = W := ⟨_, rfl⟩
 rw [hw6] at r6 hT6 ht6 hrr6 B6 ⊢
 clear hw6 r4 hT4 ht4 hrr4 B4 hk4 hF4
 have hk6 := hk0 _ _ hrr6
 go_upto_region 3 with fail
 by_cases hk : r.k = 1
 ·try simp only [Act.put]
  refine pl_begin ?_
  refine pl_t 10 (?_) (by rfl) ?_ rfl ?_
  rotate_left
  ·go_simp
   try with_reducible rfl
  simp only [nz]
  refine pl_t 11 (.int .i64 r.k) (by rfl) (pl_one rfl rfl hk6 Tryz.underlying3 rfl) rfl ?_
  simp only [nz]
  refine pl_t 12 (.bool true) (by rfl) (by go_simp <;> (try simp [hk])) rfl ?_
  simp only [nz]
  refine pl_nil ?_
  have r7 := put_v 0 r6 (there_part1 hT6 (by decide))
  have ht7 := World.there_setCells ht6 w3.heap.size 3 [.int .i64 0]
  have B7 := below_sets (b := w3.heap.size) (by have := hB3.size; omega) [.int .i64 0] 3 _ B6
  go_upto_region 4 with fail
  try simp only [Act.put]
  refine pl_begin ?_
  refine pl_t 13 (?_) (by rfl) ?_ rfl ?_
  rotate_left
  ·go_simp
   try with_reducible rfl
  simp only [nz]
  refine pl_store (w' := w6.setCells w3.heap.size 3 [.int .i64 0]) (by rfl) (ex_put1 (n := 119) rfl rfl rfl hT6 (by decide) iszI rfl rfl) rfl ?_
  refine pl_nil ?_
  obtain ⟨w7, hw7⟩ : ∃ W, w6.setCells w3.heap.size 3 [.int .i64 0] = W := ⟨_, rfl⟩
  rw [hw7] at r7 ht7 B7 ⊢
  clear hw7
  have rpc : w7.rangeAt w3.heap.size 0 pc := by
   rw [← hpc.out]
   have e : r.told = { r.whole with k := mkK r.k, v := 0 } := by unfold Rc.told; rw [if_pos hk]
   rw [e]
   exact r7
  go_upto_region 5 with fail
  try simp only [Act.put]
  refine pl_begin ?_
  refine pl_t 14 (.agg pc.toArray) (by rfl) (ex_mid rfl rfl rpc Tryz.underlying63 rfl hip) rfl ?_
  simp only [nz]
  refine pl_store (w' := w7.setCells W1.heap.size 0 pc) (by rfl) (ex_put (cs := pc.toArray) rfl rfl rfl (by simpa [hpl] using ht7) (by simpa using hip) (all_one hp1)) rfl ?_
  refine pl_nil ?_
  have hrs := run_loadVar_mid (P := Tryz.prog) (w7.setCells W1.heap.size 0 pc) W1.heap.size 0 63 pc _ (World.rangeAt_setCells_same w7 W1.heap.size 0 pc (by rw [hpl]; exact ht7)) Tryz.underlying63 rfl hip
  have HB := hide (below_sets (b := W1.heap.size) hB1.size pc 0 _ B7)
  go_wp2_with fail
  refine bodyPost_ret (v := .agg pc.toArray) ?_ rfl ⟨rfl, HB.out⟩
  simp [results, Tryz.results27, Act.put, asAddr, hrs]
 ·try simp only [Act.put]
  refine pl_begin ?_
  refine pl_t 10 (?_) (by rfl) ?_ rfl ?_
  rotate_left
  ·go_simp
   try with_reducible rfl
  simp only [nz]
  refine pl_t 11 (.int .i64 r.k) (by rfl) (pl_one rfl rfl hk6 Tryz.underlying3 rfl) rfl ?_
  simp only [nz]
  refine pl_t 12 (.bool false) (by rfl) (by go_simp <;> (try simp [hk])) rfl ?_
  simp only [nz]
  refine pl_nil ?_
  have rpc : w6.rangeAt w3.heap.size 0 pc := by
   rw [← hpc.out]
   have e : r.told = { r.whole with k := mkK r.k } := by unfold Rc.told; rw [if_neg hk]; rfl
   rw [e]
   exact r6
  go_upto_region 5 with fail
  try simp only [Act.put]
  refine pl_begin ?_
  refine pl_t 14 (.agg pc.toArray) (by rfl) (ex_mid rfl rfl rpc Tryz.underlying63 rfl hip) rfl ?_
  simp only [nz]
  refine pl_store (w' := w6.setCells W1.heap.size 0 pc) (by rfl) (ex_put (cs := pc.toArray) rfl rfl rfl (by simpa [hpl] using ht6) (by simpa using hip) (all_one hp1)) rfl ?_
  refine pl_nil ?_
  have hrs := run_loadVar_mid (P := Tryz.prog) (w6.setCells W1.heap.size 0 pc) W1.heap.size 0 63 pc _ (World.rangeAt_setCells_same w6 W1.heap.size 0 pc (by rw [hpl]; exact ht6)) Tryz.underlying63 rfl hip
  have HB := hide (below_sets (b := W1.heap.size) hB1.size pc 0 _ B6)
  go_wp2_with fail
  refine bodyPost_ret (v := .agg pc.toArray) ?_ rfl ⟨rfl, HB.out⟩
  simp [results, Tryz.results27, Act.put, asAddr, hrs]
def Rc.good (r : Rc) : Bool := inB r.v 1099511627776 && r.told.good
set_option maxRecDepth 100000 in
set_option maxHeartbeats 1000000 in
theorem kgood_any (r : Rc) (w : World) (h : r.ct.ok) (am : r.At w) : Calls Tryz.prog 11 #[.agg r.cells.toArray] w fun en w' => en = .returned (.bool r.good) ∧ Below w.heap.size w w' := by
 have hirc : (Tryz.prog.info? 33).map (·.size) = some r.cells.length := by rw [Rc.len h]; exact iszRc
 obtain ⟨hB1, hr0, hs1⟩ := boxed_new w r.cells 33
 go_enter Tryz.func11, Tryz.ntmps11
 go_upto_region 0 with fail
 try simp only [Act.put]
 refine pl_begin ?_
 refine pl_run (d := some 1) (v := .pointer (some ⟨w.heap.size, 0, none⟩)) (w' := w.alloc (.cells r.cells.toArray 33)) (by rfl) (ex_boxR rfl rfl) rfl ?_
 simp only [nz]
 refine pl_t 2 (?_) (by rfl) ?_ rfl ?_
 rotate_left
 ·go_simp
  try with_reducible rfl
 simp only [nz]
 refine pl_nil ?_
 obtain ⟨W1, hW1⟩ : ∃ W, w.alloc (.cells r.cells.toArray 33) = W := ⟨_, rfl⟩
 rw [hW1] at hB1 hr0 hs1 ⊢
 clear hW1
 have hv : W1.cell? ⟨w.heap.size, 2, none⟩ = some (.int .i64 r.v) := hr0 2 _ rfl
 go_upto_region 1 with fail
 by_cases h0 : 0 ≤ r.v
 ·by_cases h1 : r.v ≤ 1099511627776
  ·try simp only [Act.put]
   refine pl_begin ?_
   refine pl_t 3 (?_) (by rfl) ?_ rfl ?_
   rotate_left
   ·go_simp
    try with_reducible rfl
   simp only [nz]
   refine pl_t 4 (.int .i64 r.v) (by rfl) (pl_one rfl rfl hv Tryz.underlying3 rfl) rfl ?_
   simp only [nz]
   refine pl_t 5 (.bool true) (by rfl) (by go_simp <;> (try simp) <;> (try omega)) rfl ?_
   simp only [nz]
   refine pl_t 6 (?_) (by rfl) ?_ rfl ?_
   rotate_left
   ·go_simp
    try with_reducible rfl
   simp only [nz]
   refine pl_t 7 (?_) (by rfl) ?_ rfl ?_
   rotate_left
   ·go_simp
    try with_reducible rfl
   simp only [nz]
   refine pl_t 8 (.int .i64 r.v) (by rfl) (pl_one rfl rfl hv Tryz.underlying3 rfl) rfl ?_
   simp only [nz]
   refine pl_t 9 (.bool true) (by rfl) (by go_simp <;> (try simp) <;> (try omega)) rfl ?_
   simp only [nz]
   refine pl_t 10 (?_) (by rfl) ?_ rfl ?_
   rotate_left
   ·go_simp
    try with_reducible rfl
   simp only [nz]
   refine pl_t 11 (?_) (by rfl) ?_ rfl ?_
   rotate_left
   ·go_simp
    try with_reducible rfl
   simp only [nz]
   refine pl_t 12 (.agg r.cells.toArray) (by rfl) (ex_mid rfl rfl hr0 Tryz.underlying33 rfl hirc) rfl ?_
   simp only [nz]
   refine pl_call (d := some 13) (by rfl) (by go_simp; first | done | exact ⟨rfl, rfl⟩ | with_reducible rfl) rfl ?_
   refine (ktold_any r W1 h).mono ?_
   rintro _ w2 ⟨rfl, hb2⟩
   refine ⟨_, rfl, ?_⟩
   simp only [nz]
   refine pl_call (d := some 14) (by rfl) (by go_simp; first | done | exact ⟨rfl, rfl⟩ | with_reducible rfl) rfl ?_
   refine (good_any r.told w2 (Rc.told_ok h) (Rc.told_at (am.below (hB1.trans (hb2.mono hB1.size))))).mono ?_
   rintro _ w3 ⟨rfl, hb3⟩
   refine ⟨_, rfl, ?_⟩
   simp only [nz]
   refine pl_t 15 (?_) (by rfl) ?_ rfl ?_
   rotate_left
   ·go_simp
    try with_reducible rfl
   simp only [nz]
   refine pl_t 2 (?_) (by rfl) ?_ rfl ?_
   rotate_left
   ·go_simp
    try with_reducible rfl
   simp only [nz]
   refine pl_nil ?_
   have hg : Hid (r.good = r.told.good) := hide (by unfold Rc.good; rw [show inB r.v 1099511627776 = true from decide_eq_true ⟨h0, h1⟩]; rfl)
   have HB := hide ((hB1.trans (hb2.mono hB1.size)).trans (hb3.mono (Nat.le_trans hB1.size hb2.size)))
   clear hr0 hB1 hv hb2 hb3
   go_wp2_with fail
   go_ret
   exact ⟨by rw [hg.out]; rfl, HB.out⟩
  ·try simp only [Act.put]
   refine pl_begin ?_
   refine pl_t 3 (?_) (by rfl) ?_ rfl ?_
   rotate_left
   ·go_simp
    try with_reducible rfl
   simp only [nz]
   refine pl_t 4 (.int .i64 r.v) (by rfl) (pl_one rfl rfl hv Tryz.underlying3 rfl) rfl ?_
   simp only [nz]
   refine pl_t 5 (.bool true) (by rfl) (by go_simp <;> (try simp) <;> (try omega)) rfl ?_
   simp only [nz]
   refine pl_t 6 (?_) (by rfl) ?_ rfl ?_
   rotate_left
   ·go_simp
    try with_reducible rfl
   simp only [nz]
   refine pl_t 7 (?_) (by rfl) ?_ rfl ?_
   rotate_left
   ·go_simp
    try with_reducible rfl
   simp only [nz]
   refine pl_t 8 (.int .i64 r.v) (by rfl) (pl_one rfl rfl hv Tryz.underlying3 rfl) rfl ?_
   simp only [nz]
   refine pl_t 9 (.bool false) (by rfl) (by go_simp <;> (try simp) <;> (try omega)) rfl ?_
   simp only [nz]
   refine pl_t 10 (?_) (by rfl) ?_ rfl ?_
   rotate_left
   ·go_simp
    try with_reducible rfl
   simp only [nz]
   refine pl_t 11 (?_) (by rfl) ?_ rfl ?_
   rotate_left
   ·go_simp
    try with_reducible rfl
   simp only [nz]
   refine pl_skip (d := some 12) (by rfl) rfl ?_
   simp only [nz]
   refine pl_skip (d := some 13) (by rfl) rfl ?_
   simp only [nz]
   refine pl_skip (d := some 14) (by rfl) rfl ?_
   simp only [nz]
   refine pl_t 15 (?_) (by rfl) ?_ rfl ?_
   rotate_left
   ·go_simp
    try with_reducible rfl
   simp only [nz]
   refine pl_t 2 (?_) (by rfl) ?_ rfl ?_
   rotate_left
   ·go_simp
    try with_reducible rfl
   simp only [nz]
   refine pl_nil ?_
   have hg : Hid (r.good = false) := hide (by unfold Rc.good; rw [show inB r.v 1099511627776 = false from decide_eq_false (fun q => h1 q.2)]; rfl)
   have HB := hide hB1
   clear hr0 hB1 hv
   go_wp2_with fail
   go_ret
   exact ⟨by rw [hg.out]; rfl, HB.out⟩
 ·try simp only [Act.put]
  refine pl_begin ?_
  refine pl_t 3 (?_) (by rfl) ?_ rfl ?_
  rotate_left
  ·go_simp
   try with_reducible rfl
  simp only [nz]
  refine pl_t 4 (.int .i64 r.v) (by rfl) (pl_one rfl rfl hv Tryz.underlying3 rfl) rfl ?_
  simp only [nz]
  refine pl_t 5 (.bool false) (by rfl) (by go_simp <;> (try simp) <;> (try omega)) rfl ?_
  simp only [nz]
  refine pl_t 6 (?_) (by rfl) ?_ rfl ?_
  rotate_left
  ·go_simp
   try with_reducible rfl
  simp only [nz]
  refine pl_skip (d := some 7) (by rfl) rfl ?_
  simp only [nz]
  refine pl_skip (d := some 8) (by rfl) rfl ?_
  simp only [nz]
  refine pl_skip (d := some 9) (by rfl) rfl ?_
  simp only [nz]
  refine pl_t 10 (?_) (by rfl) ?_ rfl ?_
  rotate_left
  ·go_simp
   try with_reducible rfl
  simp only [nz]
  refine pl_t 11 (?_) (by rfl) ?_ rfl ?_
  rotate_left
  ·go_simp
   try with_reducible rfl
  simp only [nz]
  refine pl_skip (d := some 12) (by rfl) rfl ?_
  simp only [nz]
  refine pl_skip (d := some 13) (by rfl) rfl ?_
  simp only [nz]
  refine pl_skip (d := some 14) (by rfl) rfl ?_
  simp only [nz]
  refine pl_t 15 (?_) (by rfl) ?_ rfl ?_
  rotate_left
  ·go_simp
   try with_reducible rfl
  simp only [nz]
  refine pl_t 2 (?_) (by rfl) ?_ rfl ?_
  rotate_left
  ·go_simp
   try with_reducible rfl
  simp only [nz]
  refine pl_nil ?_
  have hg : Hid (r.good = false) := hide (by unfold Rc.good; rw [show inB r.v 1099511627776 = false from decide_eq_false (fun q => h0 q.1)]; rfl)
  have HB := hide hB1
  clear hr0 hB1 hv
  go_wp2_with fail
  go_ret
  exact ⟨by rw [hg.out]; rfl, HB.out⟩
structure XS (w : World) (X A B n : Nat) (q : List Value) (W : World) : Prop where
  row : W.rangeAt B 0 q
  box : W.there B 0 n
  ans : W.there A 0 n
  grown : w.grownBy W (some X)
  la : A < W.heap.size
  lb : B < W.heap.size
  na : w.heap.size ≤ A
  nb : w.heap.size ≤ B
  ne : A ≠ B
  lx : X < w.heap.size
theorem XS.gb {w W W' : World} {X A B n : Nat} {q : List Value} (h : XS w X A B n q W) (g : W.grownBy W' (some X)) : XS w X A B n q W' := by
 have h1 := h.na
 have h2 := h.nb
 have h3 := h.lx
 exact ⟨range_gbR h.row g h.lb (by omega), there_gbR h.box g h.lb (by omega), there_gbR h.ans g h.la (by omega), gb_trans h.grown g, Nat.lt_of_lt_of_le h.la g.size, Nat.lt_of_lt_of_le h.lb g.size, h1, h2, h.ne, h3⟩
theorem XS.st {w W : World} {D X A B n o : Nat} {q vs : List Value} {zs : List Int} {e : Int} (h : XS w X A B n q W) (hs : RSt D W X zs e) : RSt D (W.setCells B o vs) X zs e :=
 hs.gb (gb_setsR W B vs o) (.inr (by have := h.nb; have := h.lx; omega))
theorem RSt.err {D X : Nat} {w : World} {zs : List Int} {e : Int} (h : RSt D w X zs e) : w.cell? ⟨X, 2, none⟩ = some (.int .i64 e) := by
 obtain ⟨_, _, hR, _⟩ := h
 exact hR.2.2.2.1
theorem RSt.bad {D X : Nat} {w : World} {zs : List Int} {e : Int} (h : RSt D w X zs e) (e' : Int) (he : e' ≠ 0) : RSt D (w.setCells X 2 [.int .i64 e']) X zs e' := by
 obtain ⟨a, p, hR, _⟩ := h
 exact ⟨a, p, hR.set2 e', fun h => absurd h he⟩
theorem RSt.there {D X : Nat} {w : World} {zs : List Int} {e : Int} (h : RSt D w X zs e) : w.there X 0 3 := by
 obtain ⟨_, _, hR, _⟩ := h
 obtain ⟨_, ⟨a, cap, c0, _⟩, c1, c2, f0, f1, f2, _⟩ := hR
 intro j hj
 match j, hj with
 | 0, _ => exact ⟨by show (w.cell? ⟨X, 0, none⟩).isSome = true; rw [c0]; rfl, f0⟩
 | 1, _ => exact ⟨by show (w.cell? ⟨X, 1, none⟩).isSome = true; rw [c1]; rfl, f1⟩
 | 2, _ => exact ⟨by show (w.cell? ⟨X, 2, none⟩).isSome = true; rw [c2]; rfl, f2⟩
def zeros16 : List Int := List.replicate 16 0
theorem strOf_aux : ∀ (zs : List Int) (r : ByteArray), (zs.foldl (fun r n => r.push (UInt8.ofNat n.toNat)) r).size = r.size + zs.length
 | [], r => by simp
 | z :: zs, r => by rw [List.foldl_cons, strOf_aux zs, ByteArray.size_push, List.length_cons]; omega
theorem strOf_size (zs : List Int) : (strOf zs).size = zs.length := by unfold strOf; rw [strOf_aux]; simp
structure GS (w : World) (R : Nat) (q : List Value) (W : World) : Prop where
  row : W.rangeAt (w.heap.size + 1) 0 q
  box : W.there (w.heap.size + 1) 0 19
  ans : W.there w.heap.size 0 19
  grown : w.grownBy W (some R)
  size : w.heap.size + 2 ≤ W.heap.size
theorem GS.gb {w W W' : World} {R : Nat} {q : List Value} (h : GS w R q W) (hR : R < w.heap.size) (hg : W.grownBy W' (some R)) : GS w R q W' := by
 have hs := h.size
 exact ⟨range_gbR h.row hg (by omega) (by omega), there_gbR h.box hg (by omega) (by omega), there_gbR h.ans hg (by omega) (by omega), gb_trans h.grown hg, Nat.le_trans hs hg.size⟩
theorem GS.drew {w W : World} {R : Nat} {q : List Value} (h : GS w R q W) : GS w R q W.drew :=
 ⟨(World.rangeAt_drew _ _ _ _).2 h.row, h.box, h.ans, gb_onR h.grown (Below.refl w.heap.size W).drew (Nat.le_refl _), h.size⟩
structure GotR where
  c : Int
  n : Int
  s : List Int
  t : List Int
  rest : List Int
  err : Int
def rgetR (rest : List Int) (e : Int) : GotR :=
  let x1 := numS rest e 8
  let x2 := numS x1.2.1 x1.2.2 1099511627776
  let x3 := textS x2.2.1 x2.2.2 64
  let x4 := rawS x3.2.1 x3.2.2 16
  ⟨x1.1, x2.1, x3.1, x4.1, x4.2.1, x4.2.2⟩
def noRq : BRq := ⟨0, 0, ⟨#[]⟩, zeros16⟩
def rqOf (g : GotR) : BRq := if g.err = 0 then ⟨g.c, g.n, strOf g.s, g.t⟩ else noRq
def getRs : Nat → List Int → Int → List BRq × List Int × Int
  | 0, rest, e => ([], rest, e)
  | k + 1, rest, e => ((getRs k rest e).1 ++ [rqOf (rgetR (getRs k rest e).2.1 (getRs k rest e).2.2)], (rgetR (getRs k rest e).2.1 (getRs k rest e).2.2).rest, (rgetR (getRs k rest e).2.1 (getRs k rest e).2.2).err)
structure GotB where
  q : Bool
  rs : List BRq
  rest : List Int
  err : Int
def getB (rest : List Int) (e : Int) : GotB :=
  if (numS rest e 5).1 = 0 then ⟨decide ((numS rest e 5).2.2 = 0), [], (numS rest e 5).2.1, (numS rest e 5).2.2⟩
  else ⟨false, if (getRs ((numS rest e 5).1 - 1).toNat (numS rest e 5).2.1 (numS rest e 5).2.2).2.2 = 0 then (getRs ((numS rest e 5).1 - 1).toNat (numS rest e 5).2.1 (numS rest e 5).2.2).1 else [],
    (getRs ((numS rest e 5).1 - 1).toNat (numS rest e 5).2.1 (numS rest e 5).2.2).2.1, (getRs ((numS rest e 5).1 - 1).toNat (numS rest e 5).2.1 (numS rest e 5).2.2).2.2⟩
def Bs (zs : List Int) : Prop := ∀ z ∈ zs, 0 ≤ z ∧ z < 256
theorem Bs.sub {zs : List Int} (h : Bs zs) (k : Nat) : Bs (zs.drop k) := fun z hz => h z (List.mem_of_mem_drop hz)
abbrev Rst := List Int × Int × Bool
def itG {α : Type} (one : Rst → α × Rst) (s : Rst) : Nat → List α × Rst
  | 0 => ([], s)
  | k + 1 => ((itG one s k).1 ++ [(one (itG one s k).2).1], (one (itG one s k).2).2)
def nuS (most : Int) (s : Rst) : Int × Rst := ((numS s.1 s.2.1 most).1, (numS s.1 s.2.1 most).2.1, (numS s.1 s.2.1 most).2.2, s.2.2)
def siS (s : Rst) : Sg × Rst := ((sgS s.1 s.2.1).1, (sgS s.1 s.2.1).2.1, (sgS s.1 s.2.1).2.2, s.2.2)
def enS (s : Rst) : Ev × Rst := ((evS s.1 s.2.1).1, (evS s.1 s.2.1).2.1, (evS s.1 s.2.1).2.2, s.2.2)
def voS (s : Rst) : Vt × Rst := ((vtS s.1 s.2.1).1, (vtS s.1 s.2.1).2.1, (vtS s.1 s.2.1).2.2, kdZ s.1 s.2.1 2 s.2.2)
def lsS {α : Type} (most : Int) (one : Rst → α × Rst) (s : Rst) : List α × Rst := itG one (nuS most s).2 (nuS most s).1.toNat
structure RS (w : World) (Q R : Nat) (s : Rst) : Prop where
  st : St w R s.1 s.2.1
  mr : MrAt w Q R s.2.2
  qt : w.there Q 0 2
theorem St.bs {w : World} {R : Nat} {rest : List Int} {e : Int} (h : St w R rest e) : e = 0 → Bs rest := fun he => by
 obtain ⟨a, cap, g1, g2, g3, g4, g5⟩ := h.2 he
 exact g4.2.1
theorem RS.gb {w w' : World} {Q R : Nat} {s : Rst} {r : List Int} {e : Int} (h : RS w Q R s) (hg : w.grownBy w' (some R)) (hs : St w' R r e) : RS w' Q R (r, e, s.2.2) :=
 ⟨hs, h.mr.gb hg, there_gbR h.qt hg h.mr.lt (by have := h.mr.ne; omega)⟩
theorem RS.low {w w' : World} {Q R n : Nat} {s : Rst} (h : RS w Q R s) (hb : Below n w w') (hQ : Q < n) : RS w' Q R s :=
 ⟨h.st.belowN hb (Nat.lt_trans h.mr.ne hQ), h.mr.at (hb.block Q hQ) hb.size, there_blk h.qt (hb.block Q hQ)⟩
theorem RS.below {w w' : World} {Q R : Nat} {s : Rst} (h : RS w Q R s) (hb : Below w.heap.size w w') : RS w' Q R s := h.low hb h.mr.lt
theorem Kept.low {w W W' : World} {R Q n : Nat} (h : Kept w R Q W) (hb : Below n W W') (hn : w.heap.size ≤ n) : Kept w R Q W' :=
 ⟨hb.os.trans h.os, hb.tape.trans h.tape, hb.output.trans h.output, Nat.le_trans h.size hb.size, fun i hi k1 k2 => (hb.block i (by omega)).trans (h.block i hi k1 k2)⟩
def Sl.Bk {α : Type} (x : Sl α) (P : Nat → Prop) : Prop := ∀ b, x.xs ≠ [] → x.a = some b → P b.block
theorem Sl.Bk.mono {α : Type} {x : Sl α} {P P' : Nat → Prop} (h : x.Bk P) (hp : ∀ b, P b → P' b) : x.Bk P' := fun b h1 h2 => hp _ (h b h1 h2)
theorem Sl.At.on {α : Type} {E : El α} {w w' : World} {x : Sl α} {P : Nat → Prop} (h : x.At E w) (hs : w.heap.size ≤ w'.heap.size) (hb : x.Bk P) (hp : ∀ b, P b → b < w.heap.size → w'.heap[b]? = w.heap[b]?) : x.At E w' := by
 refine ⟨h.1, h.2.1, ?_⟩
 by_cases h0 : x.xs = []
 ·exact .inl h0
 ·rcases h.2.2 with q | ⟨b, off, e, h1, h2⟩
  ·exact .inl q
  ·exact .inr ⟨b, off, e, Nat.lt_of_lt_of_le h1 hs, range_blk h2 (hp _ (hb _ h0 e) h1)⟩
theorem Sl.At.kept {α : Type} {E : El α} {w w' : World} {R Q n : Nat} {x : Sl α} {P : Nat → Prop} (h : x.At E w) (k : Kept w R Q w') (hR : R < n) (hQ : Q < n) (hb : x.Bk P) (hp : ∀ b, P b → n ≤ b) : x.At E w' :=
 h.on k.size hb (fun b hP hlt => k.block b hlt (by have := hp b hP; omega) (by have := hp b hP; omega))
def BRq.un (r : BRq) : Rq := ⟨r.c, r.n, r.s, r.t⟩
structure Hp where
  q : Bool
  rs : List Rq
  vt : Vt
  sg : List Sg
def Hd.pure (h : Hd) : Hp := ⟨h.q, h.rs.xs, h.vt, h.sg.xs⟩
def baS (s : Rst) : (Bool × List Rq) × Rst := (((getB s.1 s.2.1).q, (getB s.1 s.2.1).rs.map BRq.un), (getB s.1 s.2.1).rest, (getB s.1 s.2.1).err, s.2.2)
def ceS (s : Rst) : (Vt × List Sg) × Rst := (((voS s).1, (lsS 64 siS (voS s).2).1), (lsS 64 siS (voS s).2).2)
def heS (s : Rst) : Hp × Rst := (⟨(baS s).1.1, (baS s).1.2, (ceS (baS s).2).1.1, (ceS (baS s).2).1.2⟩, (ceS (baS s).2).2)
def Hd.Bk (h : Hd) (P : Nat → Prop) : Prop := h.rs.Bk P ∧ h.sg.Bk P
theorem Hd.Bk.mono {h : Hd} {P P' : Nat → Prop} (k : h.Bk P) (hp : ∀ b, P b → P' b) : h.Bk P' := ⟨k.1.mono hp, k.2.mono hp⟩
theorem Hd.At.on {w w' : World} {h : Hd} {P : Nat → Prop} (k : h.At w) (hs : w.heap.size ≤ w'.heap.size) (hb : h.Bk P) (hp : ∀ b, P b → b < w.heap.size → w'.heap[b]? = w.heap[b]?) : h.At w' := ⟨Sl.At.on k.1 hs hb.1 hp, Sl.At.on k.2 hs hb.2 hp⟩
def kiS (most : Int) (s : Rst) : Int × Rst := ((numS s.1 s.2.1 most).1, (numS s.1 s.2.1 most).2.1, (numS s.1 s.2.1 most).2.2, kdZ s.1 s.2.1 most s.2.2)
def dgS (s : Rst) : List Int × Rst := (padN 32 (rawS s.1 s.2.1 32).1, (rawS s.1 s.2.1 32).2.1, (rawS s.1 s.2.1 32).2.2, s.2.2)
def txS (most : Int) (s : Rst) : ByteArray × Rst := (strOf (textS s.1 s.2.1 most).1, (textS s.1 s.2.1 most).2.1, (textS s.1 s.2.1 most).2.2, s.2.2)
structure MV (w : World) (Q R A B n : Nat) (q : List Value) (s : Rst) (W : World) : Prop where
  row : W.rangeAt B 0 q
  box : W.there B 0 n
  ans : W.there A 0 n
  kept : Kept w R Q W
  rs : RS W Q R s
  la : A < W.heap.size
  lb : B < W.heap.size
  na : w.heap.size ≤ A
  nb : w.heap.size ≤ B
  ne : A ≠ B
  rq : R < w.heap.size ∧ Q < w.heap.size
theorem MV.on {w W W' : World} {Q R A B n : Nat} {q : List Value} {s s' : Rst} (h : MV w Q R A B n q s W) (k : Kept W R Q W') (S : RS W' Q R s') : MV w Q R A B n q s' W' := by
 have h1 := h.na
 have h2 := h.nb
 have h3 := h.rq
 exact ⟨range_blk h.row (k.blk h.lb (by omega) (by omega)), there_blk h.box (k.blk h.lb (by omega) (by omega)), there_blk h.ans (k.blk h.la (by omega) (by omega)), h.kept.trans k, S, Nat.lt_of_lt_of_le h.la k.size, Nat.lt_of_lt_of_le h.lb k.size, h1, h2, h.ne, h3⟩
theorem MV.drew {w W : World} {Q R A B n : Nat} {q : List Value} {s : Rst} (h : MV w Q R A B n q s W) : MV w Q R A B n q s W.drew :=
 ⟨(World.rangeAt_drew _ _ _ _).2 h.row, h.box, h.ans, h.kept.below ((Below.refl _ _).drew), h.rs.below ((Below.refl _ _).drew), h.la, h.lb, h.na, h.nb, h.ne, h.rq⟩
theorem MV.below {w W W' : World} {Q R A B n : Nat} {q : List Value} {s : Rst} (h : MV w Q R A B n q s W) (hb : Below W.heap.size W W') : MV w Q R A B n q s W' :=
 h.on ((Kept.refl W R Q).below hb) (h.rs.below hb)
theorem MV.part {w W : World} {Q R A B n : Nat} {q : List Value} {s : Rst} (h : MV w Q R A B n q s W) (o m : Nat) (hm : o + m ≤ n) : W.there B o m := there_part1 h.box hm
theorem Sl.At.put {α : Type} {E : El α} {W : World} {x : Sl α} {P : Nat → Prop} {B o : Nat} {vs : List Value} (h : x.At E W) (hb : x.Bk P) (hp : ∀ b, P b → b ≠ B) : x.At E (W.setCells B o vs) :=
 h.on (by rw [size_sets]; exact Nat.le_refl _) hb (fun b hP _ => blk_sets (hp b hP))
theorem HdsAt.put {W : World} {x : Sl Hd} {P : Nat → Prop} {B o : Nat} {vs : List Value} (h : HdsAt W x) (hb : x.Bk P) (hb2 : ∀ y ∈ x.xs, y.Bk P) (hp : ∀ b, P b → b ≠ B) : HdsAt (W.setCells B o vs) x :=
 ⟨Sl.At.put h.1 hb hp, fun y hy => (h.2 y hy).on (by rw [size_sets]; exact Nat.le_refl _) (hb2 y hy) (fun b hP _ => blk_sets (hp b hP))⟩
theorem HdsAt.kept {w w' : World} {R Q n : Nat} {x : Sl Hd} {P : Nat → Prop} (h : HdsAt w x) (k : Kept w R Q w') (hR : R < n) (hQ : Q < n) (hb : x.Bk P) (hb2 : ∀ y ∈ x.xs, y.Bk P) (hp : ∀ b, P b → n ≤ b) : HdsAt w' x :=
 ⟨Sl.At.kept h.1 k hR hQ hb hp, fun y hy => ⟨Sl.At.kept (h.2 y hy).1 k hR hQ (hb2 y hy).1 hp, Sl.At.kept (h.2 y hy).2 k hR hQ (hb2 y hy).2 hp⟩⟩
structure Cp where
  e : Int
  l : Int
  v : Int
  he : List Hp
def chS (s : Rst) : Cp × Rst :=
  (⟨(nuS 1048576 s).1, (nuS 64 (nuS 1048576 s).2).1, (nuS 1099511627776 (nuS 64 (nuS 1048576 s).2).2).1, (lsS 4 heS (nuS 1099511627776 (nuS 64 (nuS 1048576 s).2).2).2).1⟩, (lsS 4 heS (nuS 1099511627776 (nuS 64 (nuS 1048576 s).2).2).2).2)
theorem RSt.lt {D : Nat} {w : World} {R : Nat} {rest : List Int} {e : Int} (h : RSt D w R rest e) : R < w.heap.size := by
 obtain ⟨zs, p, hR, _⟩ := h
 exact hR.1
theorem rst_low {D : Nat} {w w' : World} {R B : Nat} {rest : List Int} {e : Int} (h : RSt D w R rest e) (hb : Below B w w') (hR : R < B) : RSt D w' R rest e := by
 have key : ∀ b, b < B → w'.heap[b]? = w.heap[b]? := fun b hbb => hb.block b hbb
 obtain ⟨zs, p, ⟨h0, ⟨a, cap, g1, g2, g3, g4, g5⟩, h2, h3, f0, f1, f2⟩, hd⟩ := h
 have cR := fun o => @cell_block w w' R o (key R hR)
 refine ⟨zs, p, ⟨Nat.lt_of_lt_of_le h0 hb.size, ⟨a, cap, by rw [(cR 0).1]; exact g1, g2, g3, ⟨g4.1, g4.2.1, ?_⟩, g5⟩, by rw [(cR 1).1]; exact h2, by rw [(cR 2).1]; exact h3, by rw [(cR 0).2]; exact f0, by rw [(cR 1).2]; exact f1, by rw [(cR 2).2]; exact f2⟩, hd⟩
 rcases g4.2.2 with g | ⟨b, off, rfl, g6, g7⟩
 ·exact .inl g
 ·have hbR := (g5 _ rfl).2
  exact .inr ⟨b, off, rfl, Nat.lt_of_lt_of_le g6 hb.size, fun j v hv => by rw [(@cell_block w w' b (off + j) (key b (by simp at hbR; omega))).1]; exact g7 j v hv⟩
abbrev Xst := List Int × Int
structure XR (w : World) (D X : Nat) (s : Xst) : Prop where
  st : RSt D w X s.1 s.2
  lx : X < w.heap.size
  ld : D ≤ X
theorem RSt.bs {D X : Nat} {w : World} {rest : List Int} {e : Int} (h : RSt D w X rest e) : e = 0 → Bs rest := fun he => by
 obtain ⟨zs, p, ⟨_, ⟨a, cap, _, _, _, hr, _⟩, _⟩, h2⟩ := h
 rw [← h2 he]
 exact Bs.sub (fun z hz => hr.2.1 z hz) _
theorem XR.gb {w w' : World} {D X : Nat} {s s' : Xst} (h : XR w D X s) (hg : w.grownBy w' (some X)) (hs : RSt D w' X s'.1 s'.2) : XR w' D X s' := ⟨hs, Nat.lt_of_lt_of_le h.lx hg.size, h.ld⟩
theorem XR.low {w w' : World} {D X n : Nat} {s : Xst} (h : XR w D X s) (hb : Below n w w') (hX : X < n) : XR w' D X s := ⟨rst_low h.st hb hX, Nat.lt_of_lt_of_le h.lx hb.size, h.ld⟩
theorem XR.below {w w' : World} {D X : Nat} {s : Xst} (h : XR w D X s) (hb : Below w.heap.size w w') : XR w' D X s := h.low hb h.lx
def xnuS (most : Int) (s : Xst) : Int × Xst := numS s.1 s.2 most
def xtxS (most : Int) (s : Xst) : ByteArray × Xst := (strOf (textS s.1 s.2 most).1, (textS s.1 s.2 most).2)
def xbaS (s : Xst) : (Bool × List Rq) × Xst := (((getB s.1 s.2).q, (getB s.1 s.2).rs.map BRq.un), (getB s.1 s.2).rest, (getB s.1 s.2).err)
structure XV (w : World) (X A B n : Nat) (q : List Value) (W : World) : Prop where
  row : W.rangeAt B 0 q
  box : W.there B 0 n
  ans : W.there A 0 n
  gr : w.grownBy W (some X)
  lb : B < W.heap.size
  na : w.heap.size ≤ A
  ab : A < B
  lx : X < w.heap.size
theorem XV.on {w W W' : World} {X A B n : Nat} {q : List Value} (h : XV w X A B n q W) (g : W.grownBy W' (some X)) : XV w X A B n q W' := by
 have h1 := h.na
 have h2 := h.ab
 have h3 := h.lx
 have h4 := h.lb
 exact ⟨range_gbR h.row g h.lb (by omega), there_gbR h.box g h.lb (by omega), there_gbR h.ans g (by omega) (by omega), gb_trans h.gr g, Nat.lt_of_lt_of_le h.lb g.size, h1, h2, h3⟩
theorem XV.low {w W W' : World} {X A B n m : Nat} {q : List Value} (h : XV w X A B n q W) (hb : Below m W W') (hm : B < m) : XV w X A B n q W' := by
 have h1 := h.na
 have h2 := h.ab
 exact ⟨range_blk h.row (hb.block B hm), there_blk h.box (hb.block B hm), there_blk h.ans (hb.block A (by omega)), gb_onR h.gr hb (by omega), Nat.lt_of_lt_of_le h.lb hb.size, h1, h2, h.lx⟩
theorem XV.part {w W : World} {X A B n : Nat} {q : List Value} (h : XV w X A B n q W) (o m : Nat) (hm : o + m ≤ n) : W.there B o m := there_part1 h.box hm
structure Mp where
  k : Int
  e : Int
  l : Int
  v : Int
  s : Int
  q : Bool
  rs : List Rq
  vt : Vt
  ce : Int
  cl : Int
  cv : Int
  he : List Hp
  ne : List Ev
  d : List Int
  ct : Vt
  cs : List Sg
  st : ByteArray
  sg : List Sg
def Mg.pure (m : Mg) : Mp := ⟨m.k, m.e, m.l, m.v, m.s, m.q, m.rs.xs, m.vt, m.ce, m.cl, m.cv, m.he.xs.map Hd.pure, m.ne.xs, m.d, m.ct, m.cs.xs, m.st, m.sg.xs⟩
def mg1 (s : Rst) : Mp × Rst := (⟨1, (nuS 1048576 s).1, 0, 0, (nuS 1099511627776 (nuS 1048576 s).2).1, (baS (nuS 1099511627776 (nuS 1048576 s).2).2).1.1, (baS (nuS 1099511627776 (nuS 1048576 s).2).2).1.2, Vt.zero, 0, 0, 0, [], [], zeros32, Vt.zero, [], ⟨#[]⟩, []⟩, (baS (nuS 1099511627776 (nuS 1048576 s).2).2).2)
def mg2 (s : Rst) : Mp × Rst := (⟨2, 0, 0, 0, 0, false, [], (voS s).1, 0, 0, 0, [], [], zeros32, Vt.zero, [], ⟨#[]⟩, []⟩, (voS s).2)
def mg3 (s : Rst) : Mp × Rst := (⟨3, 0, 0, 0, 0, false, [], Vt.zero, (chS s).1.e, (chS s).1.l, (chS s).1.v, (chS s).1.he, [], zeros32, Vt.zero, [], ⟨#[]⟩, []⟩, (chS s).2)
def mg4 (s : Rst) : Mp × Rst := (⟨4, (nuS 1048576 s).1, (nuS 64 (nuS 1048576 s).2).1, (nuS 1099511627776 (nuS 64 (nuS 1048576 s).2).2).1, 0, false, [], Vt.zero, 0, 0, 0, [], (lsS 64 enS (nuS 1099511627776 (nuS 64 (nuS 1048576 s).2).2).2).1, zeros32, Vt.zero, [], ⟨#[]⟩, []⟩, (lsS 64 enS (nuS 1099511627776 (nuS 64 (nuS 1048576 s).2).2).2).2)
def mg5 (s : Rst) : Mp × Rst := (⟨5, (nuS 1048576 s).1, 0, 0, 0, false, [], Vt.zero, 0, 0, 0, [], [], (dgS (nuS 1048576 s).2).1, Vt.zero, [], ⟨#[]⟩, []⟩, (dgS (nuS 1048576 s).2).2)
def mg6 (s : Rst) : Mp × Rst := (⟨6, (nuS 1048576 s).1, 0, 0, (nuS 1099511627776 (nuS 1048576 s).2).1, false, [], Vt.zero, 0, 0, 0, [], [], zeros32, Vt.zero, [], ⟨#[]⟩, []⟩, (nuS 1099511627776 (nuS 1048576 s).2).2)
def mg7 (s : Rst) : Mp × Rst := (⟨7, 0, 0, 0, 0, (baS s).1.1, (baS s).1.2, Vt.zero, 0, 0, 0, [], [], zeros32, (ceS (baS s).2).1.1, (ceS (baS s).2).1.2, ⟨#[]⟩, []⟩, (ceS (baS s).2).2)
def mg8 (s : Rst) : Mp × Rst := (⟨8, 0, 0, 0, 0, false, [], Vt.zero, 0, 0, 0, [], [], zeros32, Vt.zero, [], (txS 4194304 s).1, (lsS 64 siS (txS 4194304 s).2).1⟩, (lsS 64 siS (txS 4194304 s).2).2)
def mgF (k : Int) (s : Rst) : Mp × Rst := if k = 1 then mg1 s else if k = 2 then mg2 s else if k = 3 then mg3 s else if k = 4 then mg4 s else if k = 5 then mg5 s else if k = 6 then mg6 s else if k = 7 then mg7 s else if k = 8 then mg8 s else (⟨k, 0, 0, 0, 0, false, [], Vt.zero, 0, 0, 0, [], [], zeros32, Vt.zero, [], ⟨#[]⟩, []⟩, s)
def mgS (s : Rst) : Mp × Rst := mgF (kiS 8 s).1 (kiS 8 s).2
theorem iszSgs : (Tryz.prog.info? 29).map (·.size) = some 1 := by kernel_rfl
theorem iszStr : (Tryz.prog.info? 9).map (·.size) = some 1 := by kernel_rfl
def Mg.Bk (m : Mg) (P : Nat → Prop) : Prop := m.rs.Bk P ∧ m.he.Bk P ∧ (∀ y ∈ m.he.xs, y.Bk P) ∧ m.ne.Bk P ∧ m.cs.Bk P ∧ m.sg.Bk P
def faE (s : Rst) : Int := if s.2.2 = true then 130 else doneE s.1 s.2.1
def Mp.none : Mp := ⟨0, 0, 0, 0, 0, false, [], Vt.zero, 0, 0, 0, [], [], zeros32, Vt.zero, [], ⟨#[]⟩, []⟩
def decS (zs : List Int) : Mp × Int := if faE (mgS (zs, 0, false)).2 = 0 then ((mgS (zs, 0, false)).1, 0) else (Mp.none, faE (mgS (zs, 0, false)).2)
def Mg.none : Mg := ⟨0, 0, 0, 0, 0, false, ⟨Option.none, 0, []⟩, Vt.zero, 0, 0, 0, ⟨Option.none, 0, []⟩, ⟨Option.none, 0, []⟩, zeros32, Vt.zero, ⟨Option.none, 0, []⟩, ⟨#[]⟩, ⟨Option.none, 0, []⟩⟩
theorem Mg.At.put {m : Mg} {W : World} {n o : Nat} {vs : List Value} (h : m.At W) (k : Mg.Bk m (fun b => n < b)) : m.At (W.setCells n o vs) := by
 obtain ⟨k1, k2, k2', k3, k4, k5⟩ := k
 have f : ∀ b, n < b → b ≠ n := fun b hb => by omega
 exact ⟨h.rs.put k1 f, h.he.put k2 k2' f, h.ne.put k3 f, h.cs.put k4 f, h.sg.put k5 f⟩
structure XW (w : World) (D X A B n : Nat) (q : List Value) (s : Xst) (W : World) : Prop where
  row : W.rangeAt B 0 q
  box : W.there B 0 n
  ans : W.there A 0 n
  gr : w.grownBy W (some X)
  rs : XR W D X s
  la : A < W.heap.size
  lb : B < W.heap.size
  na : w.heap.size ≤ A
  nb : w.heap.size ≤ B
  ne : A ≠ B
  lx : X < w.heap.size
theorem XW.on {w W W' : World} {D X A B n : Nat} {q : List Value} {s s' : Xst} (h : XW w D X A B n q s W) (g : W.grownBy W' (some X)) (S : XR W' D X s') : XW w D X A B n q s' W' := by
 have h1 := h.na
 have h2 := h.nb
 have h3 := h.lx
 exact ⟨range_gbR h.row g h.lb (by omega), there_gbR h.box g h.lb (by omega), there_gbR h.ans g h.la (by omega), gb_trans h.gr g, S, Nat.lt_of_lt_of_le h.la g.size, Nat.lt_of_lt_of_le h.lb g.size, h1, h2, h.ne, h3⟩
theorem XW.part {w W : World} {D X A B n : Nat} {q : List Value} {s : Xst} (h : XW w D X A B n q s W) (o m : Nat) (hm : o + m ≤ n) : W.there B o m := there_part1 h.box hm
theorem exec_conv {P : Program} {o : Oper} {a : Act} {w w' : World} {t e : TypeId} {x : Operand} {v v' : Value} (ho : o.op = .convert t e x) (hx : a.eval x = v) (hr : (convert t e v).run P w = .ok v' w') : (execOp a.eval o).run P w = .ok (.value v') w' := by
 unfold execOp
 simp only [ho, hx, Sem.run_bind, hr, Result.andThen_ok, Sem.run_pure]
def cod (s : Rst) : Int := if s.2.2 = true then 130 else s.2.1
def Sim (s : Rst) (t : Xst) : Prop := (s = (t.1, 0, false) ∧ t.2 = 0) ∨ (cod s ≠ 0 ∧ t.2 = cod s)
structure Pair {α : Type} (f : Rst → α × Rst) (xf : Xst → α × Xst) : Prop where
  bad : ∀ s, cod s ≠ 0 → cod (f s).2 = cod s
  xbad : ∀ t, t.2 ≠ 0 → (xf t).2.2 = t.2
  ok : ∀ r, Sim (f (r, 0, false)).2 (xf (r, 0)).2 ∧ (cod (f (r, 0, false)).2 = 0 → (f (r, 0, false)).1 = (xf (r, 0)).1)
theorem Sim.good {s : Rst} {t : Xst} (h : Sim s t) (h0 : cod s = 0) : s = (t.1, 0, false) ∧ t.2 = 0 := by
 rcases h with h | h
 ·exact h
 ·exact absurd h0 h.1
theorem Pair.map {α β : Type} {f : Rst → α × Rst} {xf : Xst → α × Xst} (h : α → β) (p : Pair f xf) : Pair (fun s => (h (f s).1, (f s).2)) (fun t => (h (xf t).1, (xf t).2)) :=
 ⟨p.bad, p.xbad, fun r => ⟨(p.ok r).1, fun hc => by show h _ = h _; rw [(p.ok r).2 hc]⟩⟩
theorem Pair.pure {α : Type} (a : α) : Pair (fun s => (a, s)) (fun t => (a, t)) := ⟨fun _ _ => rfl, fun _ _ => rfl, fun r => ⟨.inl ⟨rfl, rfl⟩, fun _ => rfl⟩⟩
structure Codec {α : Type} (f : Rst → α × Rst) (enc : α → List Int) (ok : α → Prop) : Prop where
  bad : ∀ s, cod s ≠ 0 → cod (f s).2 = cod s
  back : ∀ a q, ok a → f (enc a ++ q, 0, false) = (a, q, 0, false)
  form : ∀ r, Bs r → cod (f (r, 0, false)).2 = 0 → ∃ a q, ok a ∧ f (r, 0, false) = (a, q, 0, false) ∧ r = enc a ++ q
theorem Bs.right {a q : List Int} (h : Bs (a ++ q)) : Bs q := fun z hz => h z (List.mem_append_right _ hz)
theorem Bs.left {a q : List Int} (h : Bs (a ++ q)) : Bs a := fun z hz => h z (List.mem_append_left _ hz)
theorem Codec.map {α β : Type} {f : Rst → α × Rst} {enc : α → List Int} {ok : α → Prop} (h : α → β) (g : β → α) (hg : ∀ a, g (h a) = a) (p : Codec f enc ok) : Codec (fun s => (h (f s).1, (f s).2)) (fun b => enc (g b)) (fun b => ok (g b) ∧ h (g b) = b) := by
 refine ⟨p.bad, fun b q hb => ?_, fun r hb hc => ?_⟩
 ·show (h (f (enc (g b) ++ q, 0, false)).1, (f (enc (g b) ++ q, 0, false)).2) = _
  rw [p.back _ q hb.1]
  show (h (g b), _) = _
  rw [hb.2]
 ·obtain ⟨a, q, k1, k2, k3⟩ := p.form r hb hc
  refine ⟨h a, q, ⟨by rw [hg]; exact k1, by rw [hg]⟩, ?_, by rw [hg]; exact k3⟩
  show (h (f (r, 0, false)).1, (f (r, 0, false)).2) = _
  rw [k2]
def sgOk (g : Sg) : Prop := (0 ≤ g.n ∧ g.n ≤ 64) ∧ (g.t.length = 16 ∧ Bs g.t)
def evOk (g : Ev) : Prop := (0 ≤ g.n ∧ g.n ≤ 64) ∧ ((g.s.size : Int) ≤ 4194304 ∧ (g.t.length = 16 ∧ Bs g.t))
def vtOk (x : Vt) : Prop := (1 ≤ x.k ∧ x.k ≤ 2) ∧ ((0 ≤ x.e ∧ x.e ≤ 1048576) ∧ ((0 ≤ x.v ∧ x.v ≤ 1099511627776) ∧ ((0 ≤ x.s ∧ x.s ≤ 1099511627776) ∧ (x.d.length = 32 ∧ Bs x.d))))
def rqOk (r : Rq) : Prop := (0 ≤ r.c ∧ r.c ≤ 8) ∧ ((0 ≤ r.n ∧ r.n ≤ 1099511627776) ∧ ((r.s.size : Int) ≤ 64 ∧ (r.t.length = 16 ∧ Bs r.t)))
def rqL (r : Rq) : List Int := (BRq.of r).bytes
def baL (c : Bool × List Rq) : List Int := batL c.1 (c.2.map BRq.of)
def baOk (c : Bool × List Rq) : Prop := (c.1 = true → c.2 = []) ∧ (c.2.length ≤ 4 ∧ ∀ r ∈ c.2, rqOk r)
def ceOk (c : Vt × List Sg) : Prop := vtOk c.1 ∧ ((c.2.length : Int) ≤ 64 ∧ ∀ x ∈ c.2, sgOk x)
def hpL (h : Hp) : List Int := baL (h.q, h.rs) ++ ctL h.vt h.sg
def hpOk (h : Hp) : Prop := baOk (h.q, h.rs) ∧ ceOk (h.vt, h.sg)
def cpL (c : Cp) : List Int := putL c.e ++ (putL c.l ++ (putL c.v ++ (putL c.he.length ++ c.he.flatMap hpL)))
def cpOk (c : Cp) : Prop := (0 ≤ c.e ∧ c.e ≤ 1048576) ∧ ((0 ≤ c.l ∧ c.l ≤ 64) ∧ ((0 ≤ c.v ∧ c.v ≤ 1099511627776) ∧ ((c.he.length : Int) ≤ 4 ∧ ∀ x ∈ c.he, hpOk x)))
def onlyP1 (c : Int × (Int × (Bool × List Rq))) : Mp := ⟨1, c.1, 0, 0, c.2.1, c.2.2.1, c.2.2.2, Vt.zero, 0, 0, 0, [], [], zeros32, Vt.zero, [], ⟨#[]⟩, []⟩
def body1 (m : Mp) : List Int := putL m.e ++ (putL m.s ++ baL (m.q, m.rs))
def kok1 (m : Mp) : Prop := ((0 ≤ m.e ∧ m.e ≤ 1048576) ∧ ((0 ≤ m.s ∧ m.s ≤ 1099511627776) ∧ baOk (m.q, m.rs))) ∧ onlyP1 (m.e, (m.s, (m.q, m.rs))) = m
def onlyP2 (c : Vt) : Mp := ⟨2, 0, 0, 0, 0, false, [], c, 0, 0, 0, [], [], zeros32, Vt.zero, [], ⟨#[]⟩, []⟩
def body2 (m : Mp) : List Int := vtL m.vt
def kok2 (m : Mp) : Prop := (vtOk m.vt) ∧ onlyP2 m.vt = m
def onlyP3 (c : Cp) : Mp := ⟨3, 0, 0, 0, 0, false, [], Vt.zero, c.e, c.l, c.v, c.he, [], zeros32, Vt.zero, [], ⟨#[]⟩, []⟩
def body3 (m : Mp) : List Int := cpL ⟨m.ce, m.cl, m.cv, m.he⟩
def kok3 (m : Mp) : Prop := (cpOk ⟨m.ce, m.cl, m.cv, m.he⟩) ∧ onlyP3 ⟨m.ce, m.cl, m.cv, m.he⟩ = m
def onlyP4 (c : Int × (Int × (Int × List Ev))) : Mp := ⟨4, c.1, c.2.1, c.2.2.1, 0, false, [], Vt.zero, 0, 0, 0, [], c.2.2.2, zeros32, Vt.zero, [], ⟨#[]⟩, []⟩
def body4 (m : Mp) : List Int := putL m.e ++ (putL m.l ++ (putL m.v ++ evsL m.ne))
def kok4 (m : Mp) : Prop := ((0 ≤ m.e ∧ m.e ≤ 1048576) ∧ ((0 ≤ m.l ∧ m.l ≤ 64) ∧ ((0 ≤ m.v ∧ m.v ≤ 1099511627776) ∧ ((m.ne.length : Int) ≤ 64 ∧ ∀ x ∈ m.ne, evOk x)))) ∧ onlyP4 (m.e, (m.l, (m.v, m.ne))) = m
def onlyP5 (c : Int × List Int) : Mp := ⟨5, c.1, 0, 0, 0, false, [], Vt.zero, 0, 0, 0, [], [], c.2, Vt.zero, [], ⟨#[]⟩, []⟩
def body5 (m : Mp) : List Int := putL m.e ++ m.d
def kok5 (m : Mp) : Prop := ((0 ≤ m.e ∧ m.e ≤ 1048576) ∧ (m.d.length = 32 ∧ Bs m.d)) ∧ onlyP5 (m.e, m.d) = m
def onlyP6 (c : Int × Int) : Mp := ⟨6, c.1, 0, 0, c.2, false, [], Vt.zero, 0, 0, 0, [], [], zeros32, Vt.zero, [], ⟨#[]⟩, []⟩
def body6 (m : Mp) : List Int := putL m.e ++ putL m.s
def kok6 (m : Mp) : Prop := ((0 ≤ m.e ∧ m.e ≤ 1048576) ∧ (0 ≤ m.s ∧ m.s ≤ 1099511627776)) ∧ onlyP6 (m.e, m.s) = m
def onlyP7 (c : (Bool × List Rq) × (Vt × List Sg)) : Mp := ⟨7, 0, 0, 0, 0, c.1.1, c.1.2, Vt.zero, 0, 0, 0, [], [], zeros32, c.2.1, c.2.2, ⟨#[]⟩, []⟩
def body7 (m : Mp) : List Int := baL (m.q, m.rs) ++ ctL m.ct m.cs
def kok7 (m : Mp) : Prop := (baOk (m.q, m.rs) ∧ ceOk (m.ct, m.cs)) ∧ onlyP7 ((m.q, m.rs), (m.ct, m.cs)) = m
def onlyP8 (c : ByteArray × List Sg) : Mp := ⟨8, 0, 0, 0, 0, false, [], Vt.zero, 0, 0, 0, [], [], zeros32, Vt.zero, [], c.1, c.2⟩
def body8 (m : Mp) : List Int := textL m.st ++ sgsL m.sg
def kok8 (m : Mp) : Prop := ((m.st.size : Int) ≤ 4194304 ∧ ((m.sg.length : Int) ≤ 64 ∧ ∀ x ∈ m.sg, sgOk x)) ∧ onlyP8 (m.st, m.sg) = m
def Mp.bytes (m : Mp) : List Int := putL m.k ++ (if m.k = 1 then body1 m else if m.k = 2 then body2 m else if m.k = 3 then body3 m else if m.k = 4 then body4 m else if m.k = 5 then body5 m else if m.k = 6 then body6 m else if m.k = 7 then body7 m else body8 m)
def Mp.good (m : Mp) : Prop := (m.k = 1 ∧ kok1 m) ∨ (m.k = 2 ∧ kok2 m) ∨ (m.k = 3 ∧ kok3 m) ∨ (m.k = 4 ∧ kok4 m) ∨ (m.k = 5 ∧ kok5 m) ∨ (m.k = 6 ∧ kok6 m) ∨ (m.k = 7 ∧ kok7 m) ∨ (m.k = 8 ∧ kok8 m)
theorem sameL_eqv {α β : Type} {B : α → α → Bool} {f : α → β} (h : ∀ x y, f x = f y → B x y = true) : ∀ xs ys : List α, xs.map f = ys.map f → sameL B xs ys = true
 | [], [], _ => rfl
 | x :: xs, y :: ys, e => by
  simp only [List.map_cons, List.cons.injEq] at e
  unfold sameL
  rw [h x y e.1, sameL_eqv h xs ys e.2]
  rfl
 | [], y :: ys, e => by cases e
 | x :: xs, [], e => by cases e
theorem certB_eqv {x y : Vt} {s t : Sl Sg} (h : x = y) (h2 : s.xs = t.xs) : certB x s y t = true := by
 unfold certB
 rw [vtB_iff.2 h, (sameL_iff (fun x y => Sg.B_iff) _ _).2 h2]
 rfl
theorem batB_eqv {q r : Bool} {x y : Sl Rq} (h : q = r) (h2 : x.xs = y.xs) : batB q x r y = true := by
 unfold batB
 rw [h, (sameL_iff (fun x y => Rq.B_iff) _ _).2 h2]
 simp
theorem Hd.B_eqv (x y : Hd) (h : x.pure = y.pure) : Hd.B x y = true := by
 unfold Hd.pure at h
 simp only [Hp.mk.injEq] at h
 obtain ⟨h1, h2, h3, h4⟩ := h
 unfold Hd.B
 rw [batB_eqv h1 h2, certB_eqv h3 h4]
 rfl
theorem Mg.B_eqv (a b : Mg) (h : a.pure = b.pure) : Mg.B a b = true := by
 unfold Mg.pure at h
 simp only [Mp.mk.injEq] at h
 obtain ⟨h1, h2, h3, h4, h5, h6, h7, h8, h9, h10, h11, h12, h13, h14, h15, h16, h17, h18⟩ := h
 unfold Mg.B Mg.nB Mg.fB Mg.lB chgB
 rw [vtB_iff.2 h8, batB_eqv h6 h7, certB_eqv h15 h16, (sameL_iff (fun x y => Ev.B_iff) _ _).2 h13, (sameL_iff (fun x y => Sg.B_iff) _ _).2 h18, sameL_eqv Hd.B_eqv _ _ h12, h1, h2, h3, h4, h5, h9, h10, h11, h14, h17]
 simp
theorem certB_pure {x y : Vt} {s t : Sl Sg} (h : certB x s y t = true) : x = y ∧ s.xs = t.xs := by
 unfold certB at h
 rw [Bool.and_eq_true] at h
 exact ⟨vtB_iff.1 h.1, (sameL_iff (fun x y => Sg.B_iff) _ _).1 h.2⟩
theorem batB_pure {q r : Bool} {x y : Sl Rq} (h : batB q x r y = true) : q = r ∧ x.xs = y.xs := by
 unfold batB at h
 rw [Bool.and_eq_true] at h
 exact ⟨by simpa using h.1, (sameL_iff (fun x y => Rq.B_iff) _ _).1 h.2⟩
theorem Hd.B_pure (x y : Hd) (h : Hd.B x y = true) : x.pure = y.pure := by
 unfold Hd.B at h
 rw [Bool.and_eq_true] at h
 obtain ⟨h1, h2⟩ := batB_pure h.1
 obtain ⟨h3, h4⟩ := certB_pure h.2
 unfold Hd.pure
 rw [h1, h2, h3, h4]
theorem sameL_pure {α β : Type} {B : α → α → Bool} {f : α → β} (h : ∀ x y, B x y = true → f x = f y) : ∀ xs ys : List α, sameL B xs ys = true → xs.map f = ys.map f
 | [], [], _ => rfl
 | x :: xs, y :: ys, e => by
  unfold sameL at e
  rw [Bool.and_eq_true] at e
  rw [List.map_cons, List.map_cons, h x y e.1, sameL_pure h xs ys e.2]
 | [], y :: ys, e => by cases e
 | x :: xs, [], e => by cases e
theorem Mg.B_pure (a b : Mg) (h : Mg.B a b = true) : a.pure = b.pure := by
 unfold Mg.B Mg.nB Mg.fB Mg.lB chgB at h
 simp only [Bool.and_eq_true, beq_iff_eq] at h
 obtain ⟨⟨h1, h2, h3, h4, h5⟩, ⟨h6, h7, h8⟩, h9, ⟨⟨h10, h11, h12⟩, h13⟩, h14, h15, h16⟩ := h
 obtain ⟨b1, b2⟩ := batB_pure h9
 obtain ⟨c1, c2⟩ := certB_pure h15
 unfold Mg.pure
 rw [h1, h2, h3, h4, h5, b1, b2, vtB_iff.1 h6, h10, h11, h12, sameL_pure Hd.B_pure _ _ h13, (sameL_iff (fun x y => Ev.B_iff) _ _).1 h14, h7, c1, c2, toList_iff.1 h8, (sameL_iff (fun x y => Sg.B_iff) _ _).1 h16]
theorem sg_may {g : Sg} (o : g.ok) : g.may = true → sgOk g := fun h => ⟨inB_iff.1 h, o.tl, o.tb⟩
theorem may_sg {g : Sg} (h : sgOk g) : g.may = true := inB_iff.2 h.1
theorem ev_may {g : Ev} (o : g.ok) (h : g.may = true) : evOk g := by
 unfold Ev.may at h
 rw [Bool.and_eq_true] at h
 exact ⟨inB_iff.1 h.1, of_decide_eq_true h.2, o.tl, o.tb⟩
theorem may_ev {g : Ev} (h : evOk g) : g.may = true := by
 unfold Ev.may
 rw [inB_iff.2 h.1, decide_eq_true h.2.1]
 rfl
theorem rq_may {g : Rq} (o : g.ok) (h : g.may = true) : rqOk g := by
 unfold Rq.may at h
 rw [Bool.and_eq_true, Bool.and_eq_true] at h
 exact ⟨inB_iff.1 h.1, inB_iff.1 h.2.1, of_decide_eq_true h.2.2, o.tl, o.tb⟩
theorem may_rq {g : Rq} (h : rqOk g) : g.may = true := by
 unfold Rq.may
 rw [inB_iff.2 h.1, inB_iff.2 h.2.1, decide_eq_true h.2.2.1]
 rfl
theorem vt_may {x : Vt} (o : x.ok) (h : x.may = true) : vtOk x := by
 unfold Vt.may at h
 simp only [Bool.and_eq_true, Bool.or_eq_true, decide_eq_true_eq] at h
 obtain ⟨h1, h2, h3, h4⟩ := h
 exact ⟨by omega, inB_iff.1 h2, inB_iff.1 h3, inB_iff.1 h4, o.dl, o.db⟩
theorem may_vt {x : Vt} (h : vtOk x) : x.may = true := by
 obtain ⟨h1, h2, h3, h4, _⟩ := h
 unfold Vt.may
 rw [inB_iff.2 h2, inB_iff.2 h3, inB_iff.2 h4]
 have : x.k = 1 ∨ x.k = 2 := by omega
 rcases this with q | q <;> simp [q]
theorem mayL_iff {α : Type} {most : Int} {p : α → Bool} {xs : List α} : mayL most p xs = true ↔ (xs.length : Int) ≤ most ∧ ∀ x ∈ xs, p x = true := by
 unfold mayL
 rw [Bool.and_eq_true, decide_eq_true_iff, List.all_eq_true]
theorem bat_may {q : Bool} {x : Sl Rq} (o : ∀ y ∈ x.xs, y.ok) (h : batMay q x = true) : baOk (q, x.xs) := by
 unfold batMay at h
 cases q
 ·obtain ⟨h1, h2⟩ := mayL_iff.1 h
  exact ⟨(fun e => by cases e), (by show x.xs.length ≤ 4; omega), fun r hr => rq_may (o r hr) (h2 r hr)⟩
 ·have e : x.xs = [] := List.eq_nil_of_length_eq_zero (of_decide_eq_true h)
  exact ⟨(fun _ => e), (by show x.xs.length ≤ 4; rw [e]; simp), fun r hr => by rw [show x.xs = [] from e] at hr; cases hr⟩
theorem may_bat {q : Bool} {x : Sl Rq} (h : baOk (q, x.xs)) : batMay q x = true := by
 unfold batMay
 cases q
 ·have h2 : x.xs.length ≤ 4 := h.2.1
  exact mayL_iff.2 ⟨by omega, fun r hr => may_rq (h.2.2 r hr)⟩
 ·have e : x.xs = [] := h.1 rfl
  rw [if_pos rfl, e]
  rfl
theorem sgs_may {x : Sl Sg} (o : ∀ y ∈ x.xs, y.ok) (h : sgsMay x = true) : (x.xs.length : Int) ≤ 64 ∧ ∀ y ∈ x.xs, sgOk y := by
 obtain ⟨h1, h2⟩ := mayL_iff.1 h
 exact ⟨h1, fun y hy => sg_may (o y hy) (h2 y hy)⟩
theorem may_sgs {x : Sl Sg} (h : (x.xs.length : Int) ≤ 64 ∧ ∀ y ∈ x.xs, sgOk y) : sgsMay x = true := mayL_iff.2 ⟨h.1, fun y hy => may_sg (h.2 y hy)⟩
theorem cert_may {v : Vt} {x : Sl Sg} (ov : v.ok) (o : ∀ y ∈ x.xs, y.ok) (h : certMay v x = true) : ceOk (v, x.xs) := by
 unfold certMay at h
 rw [Bool.and_eq_true] at h
 exact ⟨vt_may ov h.1, sgs_may o h.2⟩
theorem may_cert {v : Vt} {x : Sl Sg} (h : ceOk (v, x.xs)) : certMay v x = true := by
 unfold certMay
 rw [may_vt h.1, may_sgs h.2]
 rfl
theorem hd_may {h : Hd} {w : World} (ov : h.vt.ok) (a : h.At w) (k : h.may = true) : hpOk h.pure := by
 unfold Hd.may at k
 rw [Bool.and_eq_true] at k
 exact ⟨bat_may a.1.2.1 k.1, cert_may ov a.2.2.1 k.2⟩
theorem may_hd {h : Hd} (k : hpOk h.pure) : h.may = true := by
 unfold Hd.may
 rw [may_bat (q := h.q) (x := h.rs) k.1, may_cert (v := h.vt) (x := h.sg) k.2]
 rfl
theorem chg_may {a b c : Int} {x : Sl Hd} {w : World} (at_ : HdsAt w x) (h : chgMay a b c x = true) : cpOk ⟨a, b, c, x.xs.map Hd.pure⟩ := by
 unfold chgMay at h
 simp only [Bool.and_eq_true] at h
 obtain ⟨⟨h1, h2, h3⟩, h4⟩ := h
 obtain ⟨h5, h6⟩ := mayL_iff.1 h4
 refine ⟨inB_iff.1 h1, inB_iff.1 h2, inB_iff.1 h3, by show ((x.xs.map Hd.pure).length : Int) ≤ 4; rw [List.length_map]; exact h5, fun y hy => ?_⟩
 obtain ⟨g, hg, rfl⟩ := List.mem_map.1 hy
 exact hd_may (at_.1.2.1 g hg) (at_.2 g hg) (h6 g hg)
theorem may_chg {a b c : Int} {x : Sl Hd} (h : cpOk ⟨a, b, c, x.xs.map Hd.pure⟩) : chgMay a b c x = true := by
 obtain ⟨h1, h2, h3, h4, h5⟩ := h
 unfold chgMay
 rw [inB_iff.2 h1, inB_iff.2 h2, inB_iff.2 h3, mayL_iff.2 ⟨by have h4 : ((x.xs.map Hd.pure).length : Int) ≤ 4 := h4; rwa [List.length_map] at h4, fun g hg => may_hd (h5 _ (List.mem_map_of_mem hg))⟩]
 rfl
theorem hds_pure (xs : List Hd) : hdsL xs = putL ((xs.map Hd.pure).length) ++ (xs.map Hd.pure).flatMap hpL := by
 unfold hdsL
 rw [List.length_map, List.flatMap_map]
 rfl
theorem bytes_pure (m : Mg) (h : 1 ≤ m.k ∧ m.k ≤ 8) : m.bytes = m.pure.bytes := by
 have hk : m.k = 1 ∨ m.k = 2 ∨ m.k = 3 ∨ m.k = 4 ∨ m.k = 5 ∨ m.k = 6 ∨ m.k = 7 ∨ m.k = 8 := by omega
 show putL m.k ++ m.body = putL m.k ++ (if m.k = 1 then body1 m.pure else if m.k = 2 then body2 m.pure else if m.k = 3 then body3 m.pure else if m.k = 4 then body4 m.pure else if m.k = 5 then body5 m.pure else if m.k = 6 then body6 m.pure else if m.k = 7 then body7 m.pure else body8 m.pure)
 unfold Mg.body
 rcases hk with h | h | h | h | h | h | h | h <;> rw [h]
 ·have e : [m.e, m.s].flatMap putL ++ batL m.q (m.rs.xs.map BRq.of) = putL m.e ++ (putL m.s ++ baL (m.q, m.rs.xs)) := by simp [List.append_assoc, baL]
  exact congrArg (putL 1 ++ ·) e
 ·rfl
 ·have e : [m.ce, m.cl, m.cv].flatMap putL ++ hdsL m.he.xs = putL m.ce ++ (putL m.cl ++ (putL m.cv ++ (putL ((m.he.xs.map Hd.pure).length) ++ (m.he.xs.map Hd.pure).flatMap hpL))) := by rw [hds_pure]; simp [List.append_assoc]
  exact congrArg (putL 3 ++ ·) e
 ·have e : [m.e, m.l, m.v].flatMap putL ++ evsL m.ne.xs = putL m.e ++ (putL m.l ++ (putL m.v ++ evsL m.ne.xs)) := by simp [List.append_assoc]
  exact congrArg (putL 4 ++ ·) e
 ·rfl
 ·have e : [m.e, m.s].flatMap putL = putL m.e ++ putL m.s := by simp [List.append_assoc]
  exact congrArg (putL 6 ++ ·) e
 ·rfl
 ·rfl
theorem ev_all {x : Sl Ev} {w : World} (a : x.At EvE w) (h : mayL 64 Ev.may x.xs = true) : (x.xs.length : Int) ≤ 64 ∧ ∀ y ∈ x.xs, evOk y := by
 obtain ⟨h1, h2⟩ := mayL_iff.1 h
 exact ⟨h1, fun y hy => ev_may (a.2.1 y hy) (h2 y hy)⟩
theorem good_pure {m : Mg} {w : World} (om : m.ok) (am : m.At w) (hg : m.good = true) : m.pure.good := by
 unfold Mg.good at hg
 rw [Bool.and_eq_true, Bool.and_eq_true, decide_eq_true_iff] at hg
 obtain ⟨hk, hB, hm⟩ := hg
 have hp := Mg.B_pure _ _ hB
 unfold Mg.may Mg.mayL at hm
 simp only [Bool.and_eq_true] at hm
 obtain ⟨⟨e1, e2⟩, ⟨e3, e4⟩, e5, e6, e7, e8, e9, e10, e11⟩ := hm
 have hks : m.k = 1 ∨ m.k = 2 ∨ m.k = 3 ∨ m.k = 4 ∨ m.k = 5 ∨ m.k = 6 ∨ m.k = 7 ∨ m.k = 8 := by omega
 rcases hks with h | h | h | h | h | h | h | h
 ·rw [Mg.bare_1 h] at hp
  refine .inl ⟨h, ⟨inB_iff.1 e1, inB_iff.1 e4, bat_may am.rs.2.1 e7⟩, ?_⟩
  exact hp.symm
 ·rw [Mg.bare_2 h] at hp
  refine .inr (.inl ⟨h, vt_may om.vt (by rw [if_pos h] at e5; exact e5), ?_⟩)
  exact hp.symm
 ·rw [Mg.bare_3 h] at hp
  refine .inr (.inr (.inl ⟨h, chg_may am.he e8, ?_⟩))
  exact hp.symm
 ·rw [Mg.bare_4 h] at hp
  refine .inr (.inr (.inr (.inl ⟨h, ⟨inB_iff.1 e1, inB_iff.1 e2, inB_iff.1 e3, ev_all am.ne e9⟩, ?_⟩)))
  exact hp.symm
 ·rw [Mg.bare_5 h] at hp
  refine .inr (.inr (.inr (.inr (.inl ⟨h, ⟨inB_iff.1 e1, om.dl, om.db⟩, ?_⟩))))
  exact hp.symm
 ·rw [Mg.bare_6 h] at hp
  refine .inr (.inr (.inr (.inr (.inr (.inl ⟨h, ⟨inB_iff.1 e1, inB_iff.1 e4⟩, ?_⟩)))))
  exact hp.symm
 ·rw [Mg.bare_7 h] at hp
  refine .inr (.inr (.inr (.inr (.inr (.inr (.inl ⟨h, ⟨bat_may am.rs.2.1 e7, cert_may om.ct am.cs.2.1 (by rw [if_pos h] at e6; exact e6)⟩, ?_⟩))))))
  exact hp.symm
 ·rw [Mg.bare_8 h] at hp
  refine .inr (.inr (.inr (.inr (.inr (.inr (.inr (⟨h, ⟨of_decide_eq_true e10, sgs_may am.sg.2.1 e11⟩, ?_⟩)))))))
  exact hp.symm
theorem pure_good {x : Mg} (h : x.pure.good) : x.good = true := by
 rcases h with ⟨h, k, o⟩ | ⟨h, k, o⟩ | ⟨h, k, o⟩ | ⟨h, k, o⟩ | ⟨h, k, o⟩ | ⟨h, k, o⟩ | ⟨h, k, o⟩ | ⟨h, k, o⟩
 ·have hk : x.k = 1 := h
  have hp : x.pure = x.bare.pure := by rw [Mg.bare_1 hk]; exact o.symm
  have hB := Mg.B_eqv _ _ hp
  have o2 := o.symm
  unfold Mg.pure onlyP1 at o2
  simp only [Mp.mk.injEq, and_true, true_and] at o2
  unfold Mg.good
  rw [hB]
  have hd : decide (1 ≤ x.k ∧ x.k ≤ 8) = true := by rw [hk]; decide
  rw [hd]
  show x.may = true
  unfold Mg.may Mg.mayL
  rw [hk]
  obtain ⟨z_k, z_l, z_v, z_vt, z_ce, z_cl, z_cv, z_he, z_ne, z_d, z_ct, z_cs, z_st, z_sg⟩ := o2
  have w_e : inB x.e 1048576 = true := inB_iff.2 k.1
  have w_l : inB x.l 64 = true := by rw [z_l]; decide
  have w_v : inB x.v 1099511627776 = true := by rw [z_v]; decide
  have w_s : inB x.s 1099511627776 = true := inB_iff.2 k.2.1
  have w_b : batMay x.q x.rs = true := may_bat k.2.2
  have w_c : chgMay x.ce x.cl x.cv x.he = true := may_chg (by rw [z_ce, z_cl, z_cv, show x.he.xs.map Hd.pure = [] from z_he]; exact ⟨(by decide), (by decide), (by decide), (by simp), fun r hr => by cases hr⟩)
  have w_n : Go.Proofs.YtinndbipomlokaaGreat.mayL 64 Ev.may x.ne.xs = true := by rw [z_ne]; rfl
  have w_t : decide ((x.st.size : Int) ≤ 4194304) = true := by rw [z_st]; rfl
  have w_g : sgsMay x.sg = true := may_sgs (by rw [z_sg]; exact ⟨(by simp), fun r hr => by cases hr⟩)
  have w_2 : (if (1 : Int) = 2 then x.vt.may else true) = true := rfl
  have w_7 : (if (1 : Int) = 7 then certMay x.ct x.cs else true) = true := rfl
  rw [w_e, w_l, w_v, w_s, w_b, w_c, w_n, w_t, w_g, w_2, w_7]
  rfl
 ·have hk : x.k = 2 := h
  have hp : x.pure = x.bare.pure := by rw [Mg.bare_2 hk]; exact o.symm
  have hB := Mg.B_eqv _ _ hp
  have o2 := o.symm
  unfold Mg.pure onlyP2 at o2
  simp only [Mp.mk.injEq, and_true, true_and] at o2
  unfold Mg.good
  rw [hB]
  have hd : decide (1 ≤ x.k ∧ x.k ≤ 8) = true := by rw [hk]; decide
  rw [hd]
  show x.may = true
  unfold Mg.may Mg.mayL
  rw [hk]
  obtain ⟨z_k, z_e, z_l, z_v, z_s, z_q, z_rs, z_ce, z_cl, z_cv, z_he, z_ne, z_d, z_ct, z_cs, z_st, z_sg⟩ := o2
  have w_e : inB x.e 1048576 = true := by rw [z_e]; decide
  have w_l : inB x.l 64 = true := by rw [z_l]; decide
  have w_v : inB x.v 1099511627776 = true := by rw [z_v]; decide
  have w_s : inB x.s 1099511627776 = true := by rw [z_s]; decide
  have w_b : batMay x.q x.rs = true := may_bat (by rw [z_q, z_rs]; exact ⟨(fun e => by cases e), (by simp), fun r hr => by cases hr⟩)
  have w_c : chgMay x.ce x.cl x.cv x.he = true := may_chg (by rw [z_ce, z_cl, z_cv, show x.he.xs.map Hd.pure = [] from z_he]; exact ⟨(by decide), (by decide), (by decide), (by simp), fun r hr => by cases hr⟩)
  have w_n : Go.Proofs.YtinndbipomlokaaGreat.mayL 64 Ev.may x.ne.xs = true := by rw [z_ne]; rfl
  have w_t : decide ((x.st.size : Int) ≤ 4194304) = true := by rw [z_st]; rfl
  have w_g : sgsMay x.sg = true := may_sgs (by rw [z_sg]; exact ⟨(by simp), fun r hr => by cases hr⟩)
  have w_2 : (if (2 : Int) = 2 then x.vt.may else true) = true := may_vt k
  have w_7 : (if (2 : Int) = 7 then certMay x.ct x.cs else true) = true := rfl
  rw [w_e, w_l, w_v, w_s, w_b, w_c, w_n, w_t, w_g, w_2, w_7]
  rfl
 ·have hk : x.k = 3 := h
  have hp : x.pure = x.bare.pure := by rw [Mg.bare_3 hk]; exact o.symm
  have hB := Mg.B_eqv _ _ hp
  have o2 := o.symm
  unfold Mg.pure onlyP3 at o2
  simp only [Mp.mk.injEq, and_true, true_and] at o2
  unfold Mg.good
  rw [hB]
  have hd : decide (1 ≤ x.k ∧ x.k ≤ 8) = true := by rw [hk]; decide
  rw [hd]
  show x.may = true
  unfold Mg.may Mg.mayL
  rw [hk]
  obtain ⟨z_k, z_e, z_l, z_v, z_s, z_q, z_rs, z_vt, z_ne, z_d, z_ct, z_cs, z_st, z_sg⟩ := o2
  have w_e : inB x.e 1048576 = true := by rw [z_e]; decide
  have w_l : inB x.l 64 = true := by rw [z_l]; decide
  have w_v : inB x.v 1099511627776 = true := by rw [z_v]; decide
  have w_s : inB x.s 1099511627776 = true := by rw [z_s]; decide
  have w_b : batMay x.q x.rs = true := may_bat (by rw [z_q, z_rs]; exact ⟨(fun e => by cases e), (by simp), fun r hr => by cases hr⟩)
  have w_c : chgMay x.ce x.cl x.cv x.he = true := may_chg k
  have w_n : Go.Proofs.YtinndbipomlokaaGreat.mayL 64 Ev.may x.ne.xs = true := by rw [z_ne]; rfl
  have w_t : decide ((x.st.size : Int) ≤ 4194304) = true := by rw [z_st]; rfl
  have w_g : sgsMay x.sg = true := may_sgs (by rw [z_sg]; exact ⟨(by simp), fun r hr => by cases hr⟩)
  have w_2 : (if (3 : Int) = 2 then x.vt.may else true) = true := rfl
  have w_7 : (if (3 : Int) = 7 then certMay x.ct x.cs else true) = true := rfl
  rw [w_e, w_l, w_v, w_s, w_b, w_c, w_n, w_t, w_g, w_2, w_7]
  rfl
 ·have hk : x.k = 4 := h
  have hp : x.pure = x.bare.pure := by rw [Mg.bare_4 hk]; exact o.symm
  have hB := Mg.B_eqv _ _ hp
  have o2 := o.symm
  unfold Mg.pure onlyP4 at o2
  simp only [Mp.mk.injEq, and_true, true_and] at o2
  unfold Mg.good
  rw [hB]
  have hd : decide (1 ≤ x.k ∧ x.k ≤ 8) = true := by rw [hk]; decide
  rw [hd]
  show x.may = true
  unfold Mg.may Mg.mayL
  rw [hk]
  obtain ⟨z_k, z_s, z_q, z_rs, z_vt, z_ce, z_cl, z_cv, z_he, z_d, z_ct, z_cs, z_st, z_sg⟩ := o2
  have w_e : inB x.e 1048576 = true := inB_iff.2 k.1
  have w_l : inB x.l 64 = true := inB_iff.2 k.2.1
  have w_v : inB x.v 1099511627776 = true := inB_iff.2 k.2.2.1
  have w_s : inB x.s 1099511627776 = true := by rw [z_s]; decide
  have w_b : batMay x.q x.rs = true := may_bat (by rw [z_q, z_rs]; exact ⟨(fun e => by cases e), (by simp), fun r hr => by cases hr⟩)
  have w_c : chgMay x.ce x.cl x.cv x.he = true := may_chg (by rw [z_ce, z_cl, z_cv, show x.he.xs.map Hd.pure = [] from z_he]; exact ⟨(by decide), (by decide), (by decide), (by simp), fun r hr => by cases hr⟩)
  have w_n : Go.Proofs.YtinndbipomlokaaGreat.mayL 64 Ev.may x.ne.xs = true := mayL_iff.2 ⟨k.2.2.2.1, fun y hy => may_ev (k.2.2.2.2 y hy)⟩
  have w_t : decide ((x.st.size : Int) ≤ 4194304) = true := by rw [z_st]; rfl
  have w_g : sgsMay x.sg = true := may_sgs (by rw [z_sg]; exact ⟨(by simp), fun r hr => by cases hr⟩)
  have w_2 : (if (4 : Int) = 2 then x.vt.may else true) = true := rfl
  have w_7 : (if (4 : Int) = 7 then certMay x.ct x.cs else true) = true := rfl
  rw [w_e, w_l, w_v, w_s, w_b, w_c, w_n, w_t, w_g, w_2, w_7]
  rfl
 ·have hk : x.k = 5 := h
  have hp : x.pure = x.bare.pure := by rw [Mg.bare_5 hk]; exact o.symm
  have hB := Mg.B_eqv _ _ hp
  have o2 := o.symm
  unfold Mg.pure onlyP5 at o2
  simp only [Mp.mk.injEq, and_true, true_and] at o2
  unfold Mg.good
  rw [hB]
  have hd : decide (1 ≤ x.k ∧ x.k ≤ 8) = true := by rw [hk]; decide
  rw [hd]
  show x.may = true
  unfold Mg.may Mg.mayL
  rw [hk]
  obtain ⟨z_k, z_l, z_v, z_s, z_q, z_rs, z_vt, z_ce, z_cl, z_cv, z_he, z_ne, z_ct, z_cs, z_st, z_sg⟩ := o2
  have w_e : inB x.e 1048576 = true := inB_iff.2 k.1
  have w_l : inB x.l 64 = true := by rw [z_l]; decide
  have w_v : inB x.v 1099511627776 = true := by rw [z_v]; decide
  have w_s : inB x.s 1099511627776 = true := by rw [z_s]; decide
  have w_b : batMay x.q x.rs = true := may_bat (by rw [z_q, z_rs]; exact ⟨(fun e => by cases e), (by simp), fun r hr => by cases hr⟩)
  have w_c : chgMay x.ce x.cl x.cv x.he = true := may_chg (by rw [z_ce, z_cl, z_cv, show x.he.xs.map Hd.pure = [] from z_he]; exact ⟨(by decide), (by decide), (by decide), (by simp), fun r hr => by cases hr⟩)
  have w_n : Go.Proofs.YtinndbipomlokaaGreat.mayL 64 Ev.may x.ne.xs = true := by rw [z_ne]; rfl
  have w_t : decide ((x.st.size : Int) ≤ 4194304) = true := by rw [z_st]; rfl
  have w_g : sgsMay x.sg = true := may_sgs (by rw [z_sg]; exact ⟨(by simp), fun r hr => by cases hr⟩)
  have w_2 : (if (5 : Int) = 2 then x.vt.may else true) = true := rfl
  have w_7 : (if (5 : Int) = 7 then certMay x.ct x.cs else true) = true := rfl
  rw [w_e, w_l, w_v, w_s, w_b, w_c, w_n, w_t, w_g, w_2, w_7]
  rfl
 ·have hk : x.k = 6 := h
  have hp : x.pure = x.bare.pure := by rw [Mg.bare_6 hk]; exact o.symm
  have hB := Mg.B_eqv _ _ hp
  have o2 := o.symm
  unfold Mg.pure onlyP6 at o2
  simp only [Mp.mk.injEq, and_true, true_and] at o2
  unfold Mg.good
  rw [hB]
  have hd : decide (1 ≤ x.k ∧ x.k ≤ 8) = true := by rw [hk]; decide
  rw [hd]
  show x.may = true
  unfold Mg.may Mg.mayL
  rw [hk]
  obtain ⟨z_k, z_l, z_v, z_q, z_rs, z_vt, z_ce, z_cl, z_cv, z_he, z_ne, z_d, z_ct, z_cs, z_st, z_sg⟩ := o2
  have w_e : inB x.e 1048576 = true := inB_iff.2 k.1
  have w_l : inB x.l 64 = true := by rw [z_l]; decide
  have w_v : inB x.v 1099511627776 = true := by rw [z_v]; decide
  have w_s : inB x.s 1099511627776 = true := inB_iff.2 k.2
  have w_b : batMay x.q x.rs = true := may_bat (by rw [z_q, z_rs]; exact ⟨(fun e => by cases e), (by simp), fun r hr => by cases hr⟩)
  have w_c : chgMay x.ce x.cl x.cv x.he = true := may_chg (by rw [z_ce, z_cl, z_cv, show x.he.xs.map Hd.pure = [] from z_he]; exact ⟨(by decide), (by decide), (by decide), (by simp), fun r hr => by cases hr⟩)
  have w_n : Go.Proofs.YtinndbipomlokaaGreat.mayL 64 Ev.may x.ne.xs = true := by rw [z_ne]; rfl
  have w_t : decide ((x.st.size : Int) ≤ 4194304) = true := by rw [z_st]; rfl
  have w_g : sgsMay x.sg = true := may_sgs (by rw [z_sg]; exact ⟨(by simp), fun r hr => by cases hr⟩)
  have w_2 : (if (6 : Int) = 2 then x.vt.may else true) = true := rfl
  have w_7 : (if (6 : Int) = 7 then certMay x.ct x.cs else true) = true := rfl
  rw [w_e, w_l, w_v, w_s, w_b, w_c, w_n, w_t, w_g, w_2, w_7]
  rfl
 ·have hk : x.k = 7 := h
  have hp : x.pure = x.bare.pure := by rw [Mg.bare_7 hk]; exact o.symm
  have hB := Mg.B_eqv _ _ hp
  have o2 := o.symm
  unfold Mg.pure onlyP7 at o2
  simp only [Mp.mk.injEq, and_true, true_and] at o2
  unfold Mg.good
  rw [hB]
  have hd : decide (1 ≤ x.k ∧ x.k ≤ 8) = true := by rw [hk]; decide
  rw [hd]
  show x.may = true
  unfold Mg.may Mg.mayL
  rw [hk]
  obtain ⟨z_k, z_e, z_l, z_v, z_s, z_vt, z_ce, z_cl, z_cv, z_he, z_ne, z_d, z_st, z_sg⟩ := o2
  have w_e : inB x.e 1048576 = true := by rw [z_e]; decide
  have w_l : inB x.l 64 = true := by rw [z_l]; decide
  have w_v : inB x.v 1099511627776 = true := by rw [z_v]; decide
  have w_s : inB x.s 1099511627776 = true := by rw [z_s]; decide
  have w_b : batMay x.q x.rs = true := may_bat k.1
  have w_c : chgMay x.ce x.cl x.cv x.he = true := may_chg (by rw [z_ce, z_cl, z_cv, show x.he.xs.map Hd.pure = [] from z_he]; exact ⟨(by decide), (by decide), (by decide), (by simp), fun r hr => by cases hr⟩)
  have w_n : Go.Proofs.YtinndbipomlokaaGreat.mayL 64 Ev.may x.ne.xs = true := by rw [z_ne]; rfl
  have w_t : decide ((x.st.size : Int) ≤ 4194304) = true := by rw [z_st]; rfl
  have w_g : sgsMay x.sg = true := may_sgs (by rw [z_sg]; exact ⟨(by simp), fun r hr => by cases hr⟩)
  have w_2 : (if (7 : Int) = 2 then x.vt.may else true) = true := rfl
  have w_7 : (if (7 : Int) = 7 then certMay x.ct x.cs else true) = true := may_cert k.2
  rw [w_e, w_l, w_v, w_s, w_b, w_c, w_n, w_t, w_g, w_2, w_7]
  rfl
 ·have hk : x.k = 8 := h
  have hp : x.pure = x.bare.pure := by rw [Mg.bare_8 hk]; exact o.symm
  have hB := Mg.B_eqv _ _ hp
  have o2 := o.symm
  unfold Mg.pure onlyP8 at o2
  simp only [Mp.mk.injEq, and_true, true_and] at o2
  unfold Mg.good
  rw [hB]
  have hd : decide (1 ≤ x.k ∧ x.k ≤ 8) = true := by rw [hk]; decide
  rw [hd]
  show x.may = true
  unfold Mg.may Mg.mayL
  rw [hk]
  obtain ⟨z_k, z_e, z_l, z_v, z_s, z_q, z_rs, z_vt, z_ce, z_cl, z_cv, z_he, z_ne, z_d, z_ct, z_cs⟩ := o2
  have w_e : inB x.e 1048576 = true := by rw [z_e]; decide
  have w_l : inB x.l 64 = true := by rw [z_l]; decide
  have w_v : inB x.v 1099511627776 = true := by rw [z_v]; decide
  have w_s : inB x.s 1099511627776 = true := by rw [z_s]; decide
  have w_b : batMay x.q x.rs = true := may_bat (by rw [z_q, z_rs]; exact ⟨(fun e => by cases e), (by simp), fun r hr => by cases hr⟩)
  have w_c : chgMay x.ce x.cl x.cv x.he = true := may_chg (by rw [z_ce, z_cl, z_cv, show x.he.xs.map Hd.pure = [] from z_he]; exact ⟨(by decide), (by decide), (by decide), (by simp), fun r hr => by cases hr⟩)
  have w_n : Go.Proofs.YtinndbipomlokaaGreat.mayL 64 Ev.may x.ne.xs = true := by rw [z_ne]; rfl
  have w_t : decide ((x.st.size : Int) ≤ 4194304) = true := decide_eq_true k.1
  have w_g : sgsMay x.sg = true := may_sgs k.2
  have w_2 : (if (8 : Int) = 2 then x.vt.may else true) = true := rfl
  have w_7 : (if (8 : Int) = 7 then certMay x.ct x.cs else true) = true := rfl
  rw [w_e, w_l, w_v, w_s, w_b, w_c, w_n, w_t, w_g, w_2, w_7]
  rfl
structure Rp where
  k : Int
  l : Int
  v : Int
  s : Int
  q : Bool
  rs : List Rq
  ct : Vt
  cs : List Sg
  st : ByteArray
  sg : List Sg
def Rc.pure (r : Rc) : Rp := ⟨r.k, r.l, r.v, r.s, r.q, r.rs.xs, r.ct, r.cs.xs, r.st, r.sg.xs⟩
def Rp.mp (r : Rp) (k v : Int) : Mp := ⟨k, 0, r.l, v, r.s, r.q, r.rs, Vt.zero, 0, 0, 0, [], [], zeros32, r.ct, r.cs, r.st, r.sg⟩
theorem Rc.whole_pure (r : Rc) : r.whole.pure = r.pure.mp r.k r.v := rfl
theorem Rc.told_pure (r : Rc) : r.told.pure = r.pure.mp (mkK r.k) (if r.k = 1 then 0 else r.v) := rfl
def Rc.B (a b : Rc) : Bool := (a.k == b.k) && ((a.l == b.l) && ((a.v == b.v) && ((a.s == b.s) && ((a.st.toList == b.st.toList) && (batB a.q a.rs b.q b.rs && (certB a.ct a.cs b.ct b.cs && sameL Sg.B a.sg.xs b.sg.xs))))))
theorem Rc.B_whole (a b : Rc) : Mg.B a.whole b.whole = Rc.B a b := by
 have hv : vtB Vt.zero Vt.zero = true := vtB_iff.2 rfl
 have hh : sameL Hd.B ([] : List Hd) [] = true := rfl
 have he : sameL Ev.B ([] : List Ev) [] = true := rfl
 unfold Rc.B Mg.B Mg.nB Mg.fB Mg.lB chgB Rc.whole
 simp only [hv, hh, he, beq_self_eq_true, Bool.true_and]
 ac_rfl
theorem Rc.B_pure {a b : Rc} (h : Rc.B a b = true) : a.pure = b.pure := by
 rw [← Rc.B_whole] at h
 have e := Mg.B_pure _ _ h
 rw [Rc.whole_pure, Rc.whole_pure] at e
 unfold Rp.mp Rc.pure at e
 simp only [Mp.mk.injEq, true_and] at e
 unfold Rc.pure
 simp only [Rp.mk.injEq]
 obtain ⟨e1, e2, e3, e4, e5, e6, e7, e8, e9, e10⟩ := e
 exact ⟨e1, e2, e3, e4, e5, e6, e7, e8, e9, e10⟩
theorem Rc.B_eqv {a b : Rc} (h : a.pure = b.pure) : Rc.B a b = true := by
 rw [← Rc.B_whole]
 refine Mg.B_eqv _ _ ?_
 have hk : a.k = b.k := congrArg Rp.k h
 have hv : a.v = b.v := congrArg Rp.v h
 rw [Rc.whole_pure, Rc.whole_pure, h, hk, hv]
set_option maxRecDepth 100000 in
set_option maxHeartbeats 1000000 in
theorem ksame_any (a b : Rc) (w : World) (oa : a.ct.ok) (ob : b.ct.ok) (ha : a.At w) (hb : b.At w) : Calls Tryz.prog 13 #[.agg a.cells.toArray, .agg b.cells.toArray] w fun e w' => e = .returned (.bool (Rc.B a b)) ∧ Below w.heap.size w w' := by
 obtain ⟨hA, hA', hB, hs⟩ := two_boxG a.cells b.cells 33 w
 have ia : (Tryz.prog.info? 33).map (·.size) = some a.cells.length := by rw [Rc.len oa]; exact iszRc
 have ib : (Tryz.prog.info? 33).map (·.size) = some b.cells.length := by rw [Rc.len ob]; exact iszRc
 have ca := fun w0 => kwhole_any a w0 oa
 have cb := fun w0 => kwhole_any b w0 ob
 have cm := fun w0 (h0 : Below w.heap.size w w0) => msame_any a.whole b.whole w0 (Rc.whole_ok oa) (Rc.whole_ok ob) (Rc.whole_at (ha.below h0)) (Rc.whole_at (hb.below h0))
 simp only [Rc.B_whole] at cm
 obtain ⟨G, hG⟩ : ∃ G, Hid (Rc.B a b = G) := ⟨_, hide rfl⟩
 obtain ⟨qa, hqa⟩ : ∃ q, Hid (a.cells = q) := ⟨_, hide rfl⟩
 obtain ⟨qb, hqb⟩ : ∃ q, Hid (b.cells = q) := ⟨_, hide rfl⟩
 obtain ⟨ma, hma⟩ : ∃ q, Hid (a.whole.ms.cells = q) := ⟨_, hide rfl⟩
 obtain ⟨mb, hmb⟩ : ∃ q, Hid (b.whole.ms.cells = q) := ⟨_, hide rfl⟩
 simp only [hqa.out, hqb.out, hma.out, hmb.out, hG.out] at hA hA' hB hs ia ib ca cb cm ⊢
 clear hqa hqb hma hmb hG ha hb oa ob
 go_enter Tryz.func13, Tryz.ntmps13
 go_upto_region 1 with fail
 refine hs_begin (S := (Below ((w.alloc (.cells qa.toArray 33)).alloc (.cells qb.toArray 33)).drew.heap.size ((w.alloc (.cells qa.toArray 33)).alloc (.cells qb.toArray 33)).drew)) 6 rfl (by kernel_rfl) ?_
 have hA8 := (World.rangeAt_drew _ _ _ _).2 hA
 have hC8 := (World.rangeAt_drew _ _ _ _).2 hA'
 have hB8 := hB.drew
 have sC8 : w.heap.size + 1 < ((w.alloc (.cells qa.toArray 33)).alloc (.cells qb.toArray 33)).drew.heap.size := hs
 have sA8 : w.heap.size < ((w.alloc (.cells qa.toArray 33)).alloc (.cells qb.toArray 33)).drew.heap.size := Nat.lt_of_succ_lt sC8
 obtain ⟨w8, hw8⟩ : ∃ W, ((w.alloc (.cells qa.toArray 33)).alloc (.cells qb.toArray 33)).drew = W := ⟨_, rfl⟩
 rw [hw8] at hA8 hC8 hB8 sA8 sC8 ⊢
 clear hw8 hA hA' hB hs
 have hS : (Below w8.heap.size w8) w8 := Below.refl _ _
 refine hs_t 0 5 (.agg qa.toArray) rfl (by kernel_rfl) (by kernel_rfl) (by kernel_rfl) (by rfl) (fun w' hw => ex_mid rfl rfl (range_below hA8 hw sA8) Tryz.underlying33 rfl ia) hS rfl ?_
 simp only [nz]
 refine hs_t 2 7 (.agg qb.toArray) rfl (by kernel_rfl) (by kernel_rfl) (by kernel_rfl) (by rfl) (fun w' hw => ex_mid rfl rfl (range_below hC8 hw sC8) Tryz.underlying33 rfl ib) hS rfl ?_
 simp only [nz]
 refine hs_call (i := 1) (d := some 6) rfl (by kernel_rfl) (by rfl) (by go_simp; first | done | exact ⟨rfl, rfl⟩ | with_reducible rfl) rfl ?_
 refine (ca w8).mono ?_
 rintro _ w9 ⟨rfl, hb9⟩
 have hS : (Below w8.heap.size w8) w9 := hb9
 refine ⟨_, rfl, hS, ?_⟩
 simp only [nz]
 refine hs_call (i := 3) (d := some 8) rfl (by kernel_rfl) (by rfl) (by go_simp; first | done | exact ⟨rfl, rfl⟩ | with_reducible rfl) rfl ?_
 refine (cb w9).mono ?_
 rintro _ w10 ⟨rfl, hb10⟩
 have hS : (Below w8.heap.size w8) w10 := hS.trans (hb10.mono hS.size)
 refine ⟨_, rfl, hS, ?_⟩
 simp only [nz]
 refine hs_call (i := 4) (d := some 9) rfl (by kernel_rfl) (by rfl) (by go_simp; first | done | exact ⟨rfl, rfl⟩ | with_reducible rfl) rfl ?_
 refine (cm w10 (hB8.trans (hS.mono hB8.size))).mono ?_
 rintro _ w11 ⟨rfl, hb11⟩
 have hS : (Below w8.heap.size w8) w11 := hS.trans (hb11.mono hS.size)
 refine ⟨_, rfl, hS, ?_⟩
 simp only [nz]
 refine hs_t 5 4 (?_) rfl (by kernel_rfl) (by kernel_rfl) (by kernel_rfl) (by rfl) ?_ hS rfl ?_
 rotate_left
 ·intro w' hw
  go_simp
  try with_reducible rfl
 simp only [nz]
 refine hs_done (by kernel_rfl) ?_
 go_wp2_with fail
 go_ret
 exact ⟨rfl, hB8.trans (hS.mono hB8.size)⟩
set_option maxRecDepth 100000 in
set_option maxHeartbeats 1000000 in
theorem xksame_any (a b : Rc) (w : World) (oa : a.ct.ok) (ob : b.ct.ok) (ha : a.At w) (hb : b.At w) : Calls Tryz.prog 14 #[.agg a.cells.toArray, .agg b.cells.toArray] w fun e w' => e = .returned (.bool (Rc.B a b)) ∧ Below w.heap.size w w' := by
 obtain ⟨hA, hA', hB, hs⟩ := two_boxG a.cells b.cells 33 w
 have ia : (Tryz.prog.info? 33).map (·.size) = some a.cells.length := by rw [Rc.len oa]; exact iszRc
 have ib : (Tryz.prog.info? 33).map (·.size) = some b.cells.length := by rw [Rc.len ob]; exact iszRc
 have ic : (Tryz.prog.info? 31).map (·.size) = some (certL a.ct a.cs).length := by rw [cert_len oa]; exact iszCe
 have ic2 : (Tryz.prog.info? 31).map (·.size) = some (certL b.ct b.cs).length := by rw [cert_len ob]; exact iszCe
 obtain ⟨W, hW⟩ : ∃ W, Hid ((w.alloc (.cells a.cells.toArray 33)).alloc (.cells b.cells.toArray 33) = W) := ⟨_, hide rfl⟩
 rw [hW.out] at hA hA' hB hs
 obtain ⟨arb, arc, a43, a44⟩ := rc_parts oa hA
 obtain ⟨brb, brc, b43, b44⟩ := rc_parts ob hA'
 have a0 : W.cell? ⟨w.heap.size, 0, none⟩ = some (.int .i64 a.k) := hA 0 _ rfl
 have a1 : W.cell? ⟨w.heap.size, 1, none⟩ = some (.int .i64 a.l) := hA 1 _ rfl
 have a2 : W.cell? ⟨w.heap.size, 2, none⟩ = some (.int .i64 a.v) := hA 2 _ rfl
 have a3 : W.cell? ⟨w.heap.size, 3, none⟩ = some (.int .i64 a.s) := hA 3 _ rfl
 have b0 : W.cell? ⟨w.heap.size + 1, 0, none⟩ = some (.int .i64 b.k) := hA' 0 _ rfl
 have b1 : W.cell? ⟨w.heap.size + 1, 1, none⟩ = some (.int .i64 b.l) := hA' 1 _ rfl
 have b2 : W.cell? ⟨w.heap.size + 1, 2, none⟩ = some (.int .i64 b.v) := hA' 2 _ rfl
 have b3 : W.cell? ⟨w.heap.size + 1, 3, none⟩ = some (.int .i64 b.s) := hA' 3 _ rfl
 have gB := xbsame_any a.q a.rs b.q b.rs W (ha.rs.below hB) (hb.rs.below hB)
 have gC := fun w0 (h0 : Below W.heap.size W w0) => xscert_any a.ct b.ct a.cs b.cs w0 oa ob (ha.cs.below (hB.trans (h0.mono hB.size))) (hb.cs.below (hB.trans (h0.mono hB.size)))
 have gS := fun w0 (h0 : Below W.heap.size W w0) => xequalS_anyB a.sg.a a.sg.cap a.sg.xs b.sg.a b.sg.cap b.sg.xs w0 (ha.sg.below (hB.trans (h0.mono hB.size))) (hb.sg.below (hB.trans (h0.mono hB.size)))
 have sC : w.heap.size + 1 < W.heap.size := hs
 have sA : w.heap.size < W.heap.size := Nat.lt_of_succ_lt sC
 obtain ⟨G, HG⟩ : ∃ G, Hid (Rc.B a b = G) := ⟨_, hide rfl⟩
 rw [HG.out]
 unfold Rc.B at HG
 obtain ⟨b5, hb5⟩ : ∃ q, batB a.q a.rs b.q b.rs = q := ⟨_, rfl⟩
 obtain ⟨b6, hb6⟩ : ∃ q, certB a.ct a.cs b.ct b.cs = q := ⟨_, rfl⟩
 obtain ⟨b7, hb7⟩ : ∃ q, sameL Sg.B a.sg.xs b.sg.xs = q := ⟨_, rfl⟩
 rw [hb5, hb6, hb7] at HG
 simp only [hb5] at gB
 simp only [hb6] at gC
 simp only [hb7] at gS
 obtain ⟨p0, hp0⟩ : ∃ p, Hid ((!(a.k == b.k)) = p) := ⟨_, hide rfl⟩
 obtain ⟨p1, hp1⟩ : ∃ p, Hid ((!(a.l == b.l)) = p) := ⟨_, hide rfl⟩
 obtain ⟨p2, hp2⟩ : ∃ p, Hid ((!(a.v == b.v)) = p) := ⟨_, hide rfl⟩
 obtain ⟨p3, hp3⟩ : ∃ p, Hid ((!(a.s == b.s)) = p) := ⟨_, hide rfl⟩
 obtain ⟨p4, hp4⟩ : ∃ p, Hid ((!(a.st.toList == b.st.toList)) = p) := ⟨_, hide rfl⟩
 replace HG : Hid (((!p0) && ((!p1) && ((!p2) && ((!p3) && ((!p4) && (b5 && (b6 && b7))))))) = G) := hide (by
  rw [← HG.out, ← hp0.out, ← hp1.out, ← hp2.out, ← hp3.out, ← hp4.out]
  simp only [Bool.not_not])
 clear hA hA' hs ha hb oa ob hb5 hb6 hb7
 have HS : Below W.heap.size W W := Below.refl _ _
 go_enter Tryz.func14, Tryz.ntmps14
 go_upto_region 1 with fail
 rw [hW.out]
 clear hW
 try simp only [Act.put]
 refine pl_begin ?_
 refine pl_t 5 (?_) (by rfl) ?_ rfl ?_
 rotate_left
 ·go_simp
  try with_reducible rfl
 simp only [nz]
 refine pl_t 6 (.int .i64 a.k) (by rfl) (pl_one rfl rfl a0 Tryz.underlying3 rfl) rfl ?_
 simp only [nz]
 refine pl_t 7 (?_) (by rfl) ?_ rfl ?_
 rotate_left
 ·go_simp
  try with_reducible rfl
 simp only [nz]
 refine pl_t 8 (.int .i64 b.k) (by rfl) (pl_one rfl rfl b0 Tryz.underlying3 rfl) rfl ?_
 simp only [nz]
 refine pl_t 9 (.bool p0) (by rfl) (by have q := hp0.out; cases p0 <;> simp at q <;> go_simp <;> simp [q]) rfl ?_
 simp only [nz]
 cases p0
 ·refine pl_t 10 (?_) (by rfl) ?_ rfl ?_
  rotate_left
  ·go_simp
   try with_reducible rfl
  simp only [nz]
  refine pl_t 11 (?_) (by rfl) ?_ rfl ?_
  rotate_left
  ·go_simp
   try with_reducible rfl
  simp only [nz]
  refine pl_t 12 (.int .i64 a.l) (by rfl) (pl_one rfl rfl a1 Tryz.underlying3 rfl) rfl ?_
  simp only [nz]
  refine pl_t 13 (?_) (by rfl) ?_ rfl ?_
  rotate_left
  ·go_simp
   try with_reducible rfl
  simp only [nz]
  refine pl_t 14 (.int .i64 b.l) (by rfl) (pl_one rfl rfl b1 Tryz.underlying3 rfl) rfl ?_
  simp only [nz]
  refine pl_t 15 (.bool p1) (by rfl) (by have q := hp1.out; cases p1 <;> simp at q <;> go_simp <;> simp [q]) rfl ?_
  simp only [nz]
  cases p1
  ·refine pl_t 16 (?_) (by rfl) ?_ rfl ?_
   rotate_left
   ·go_simp
    try with_reducible rfl
   simp only [nz]
   refine pl_t 17 (?_) (by rfl) ?_ rfl ?_
   rotate_left
   ·go_simp
    try with_reducible rfl
   simp only [nz]
   refine pl_t 18 (?_) (by rfl) ?_ rfl ?_
   rotate_left
   ·go_simp
    try with_reducible rfl
   simp only [nz]
   refine pl_t 19 (.int .i64 a.v) (by rfl) (pl_one rfl rfl a2 Tryz.underlying3 rfl) rfl ?_
   simp only [nz]
   refine pl_t 20 (?_) (by rfl) ?_ rfl ?_
   rotate_left
   ·go_simp
    try with_reducible rfl
   simp only [nz]
   refine pl_t 21 (.int .i64 b.v) (by rfl) (pl_one rfl rfl b2 Tryz.underlying3 rfl) rfl ?_
   simp only [nz]
   refine pl_t 22 (.bool p2) (by rfl) (by have q := hp2.out; cases p2 <;> simp at q <;> go_simp <;> simp [q]) rfl ?_
   simp only [nz]
   cases p2
   ·refine pl_t 23 (?_) (by rfl) ?_ rfl ?_
    rotate_left
    ·go_simp
     try with_reducible rfl
    simp only [nz]
    refine pl_t 24 (?_) (by rfl) ?_ rfl ?_
    rotate_left
    ·go_simp
     try with_reducible rfl
    simp only [nz]
    refine pl_t 25 (?_) (by rfl) ?_ rfl ?_
    rotate_left
    ·go_simp
     try with_reducible rfl
    simp only [nz]
    refine pl_t 26 (.int .i64 a.s) (by rfl) (pl_one rfl rfl a3 Tryz.underlying3 rfl) rfl ?_
    simp only [nz]
    refine pl_t 27 (?_) (by rfl) ?_ rfl ?_
    rotate_left
    ·go_simp
     try with_reducible rfl
    simp only [nz]
    refine pl_t 28 (.int .i64 b.s) (by rfl) (pl_one rfl rfl b3 Tryz.underlying3 rfl) rfl ?_
    simp only [nz]
    refine pl_t 29 (.bool p3) (by rfl) (by have q := hp3.out; cases p3 <;> simp at q <;> go_simp <;> simp [q]) rfl ?_
    simp only [nz]
    cases p3
    ·refine pl_t 30 (?_) (by rfl) ?_ rfl ?_
     rotate_left
     ·go_simp
      try with_reducible rfl
     simp only [nz]
     refine pl_t 31 (?_) (by rfl) ?_ rfl ?_
     rotate_left
     ·go_simp
      try with_reducible rfl
     simp only [nz]
     refine pl_t 32 (?_) (by rfl) ?_ rfl ?_
     rotate_left
     ·go_simp
      try with_reducible rfl
     simp only [nz]
     refine pl_t 33 (.string a.st) (by rfl) (pl_one rfl rfl a43 Tryz.underlying9 rfl) rfl ?_
     simp only [nz]
     refine pl_t 34 (?_) (by rfl) ?_ rfl ?_
     rotate_left
     ·go_simp
      try with_reducible rfl
     simp only [nz]
     refine pl_t 35 (.string b.st) (by rfl) (pl_one rfl rfl b43 Tryz.underlying9 rfl) rfl ?_
     simp only [nz]
     refine pl_t 36 (.bool p4) (by rfl) (by have q := hp4.out; cases p4 <;> simp at q <;> go_simp <;> simp [q]) rfl ?_
     simp only [nz]
     cases p4
     ·refine pl_t 37 (?_) (by rfl) ?_ rfl ?_
      rotate_left
      ·go_simp
       try with_reducible rfl
      simp only [nz]
      refine pl_nil ?_
      go_upto_region 3 with fail
      try simp only [Act.put]
      refine pl_begin ?_
      refine pl_t 38 (?_) (by rfl) ?_ rfl ?_
      rotate_left
      ·go_simp
       try with_reducible rfl
      simp only [nz]
      refine pl_t 39 (.agg #[.bool a.q, a.rs.val]) (by rfl) (ex_mid rfl rfl arb Tryz.underlying24 rfl iszBa) rfl ?_
      simp only [nz]
      refine pl_t 40 (?_) (by rfl) ?_ rfl ?_
      rotate_left
      ·go_simp
       try with_reducible rfl
      simp only [nz]
      refine pl_t 41 (.agg #[.bool b.q, b.rs.val]) (by rfl) (ex_mid rfl rfl brb Tryz.underlying24 rfl iszBa) rfl ?_
      simp only [nz]
      refine pl_call (d := some 42) (by rfl) (by go_simp; first | done | exact ⟨rfl, rfl⟩ | with_reducible rfl) rfl ?_
      refine (gB).mono ?_
      rintro _ w9 ⟨rfl, hb9⟩
      replace HS := HS.trans (hb9.mono HS.size)
      clear hb9
      refine ⟨_, rfl, ?_⟩
      simp only [nz]
      cases b5
      ·refine pl_t 43 (?_) (by rfl) ?_ rfl ?_
       rotate_left
       ·go_simp
        try with_reducible rfl
       simp only [nz]
       refine pl_skip (d := some 44) (by rfl) rfl ?_
       simp only [nz]
       refine pl_skip (d := some 45) (by rfl) rfl ?_
       simp only [nz]
       refine pl_skip (d := some 46) (by rfl) rfl ?_
       simp only [nz]
       refine pl_skip (d := some 47) (by rfl) rfl ?_
       simp only [nz]
       refine pl_skip (d := some 48) (by rfl) rfl ?_
       simp only [nz]
       refine pl_t 49 (?_) (by rfl) ?_ rfl ?_
       rotate_left
       ·go_simp
        try with_reducible rfl
       simp only [nz]
       refine pl_t 50 (?_) (by rfl) ?_ rfl ?_
       rotate_left
       ·go_simp
        try with_reducible rfl
       simp only [nz]
       refine pl_skip (d := some 51) (by rfl) rfl ?_
       simp only [nz]
       refine pl_skip (d := some 52) (by rfl) rfl ?_
       simp only [nz]
       refine pl_skip (d := some 53) (by rfl) rfl ?_
       simp only [nz]
       refine pl_skip (d := some 54) (by rfl) rfl ?_
       simp only [nz]
       refine pl_skip (d := some 55) (by rfl) rfl ?_
       simp only [nz]
       refine pl_t 56 (?_) (by rfl) ?_ rfl ?_
       rotate_left
       ·go_simp
        try with_reducible rfl
       simp only [nz]
       refine pl_t 4 (?_) (by rfl) ?_ rfl ?_
       rotate_left
       ·go_simp
        try with_reducible rfl
       simp only [nz]
       refine pl_nil ?_
       go_wp2_with fail
       go_ret
       exact ⟨by have := HG.out; simp at this; subst this; rfl, hB.trans (HS.mono hB.size)⟩
      ·refine pl_t 43 (?_) (by rfl) ?_ rfl ?_
       rotate_left
       ·go_simp
        try with_reducible rfl
       simp only [nz]
       refine pl_t 44 (?_) (by rfl) ?_ rfl ?_
       rotate_left
       ·go_simp
        try with_reducible rfl
       simp only [nz]
       refine pl_t 45 (.agg (certL a.ct a.cs).toArray) (by rfl) (ex_mid rfl rfl (range_below arc HS sA) Tryz.underlying31 rfl ic) rfl ?_
       simp only [nz]
       refine pl_t 46 (?_) (by rfl) ?_ rfl ?_
       rotate_left
       ·go_simp
        try with_reducible rfl
       simp only [nz]
       refine pl_t 47 (.agg (certL b.ct b.cs).toArray) (by rfl) (ex_mid rfl rfl (range_below brc HS sC) Tryz.underlying31 rfl ic2) rfl ?_
       simp only [nz]
       refine pl_call (d := some 48) (by rfl) (by go_simp; first | done | exact ⟨rfl, rfl⟩ | with_reducible rfl) rfl ?_
       refine (gC w9 HS).mono ?_
       rintro _ w10 ⟨rfl, hb9⟩
       replace HS := HS.trans (hb9.mono HS.size)
       clear hb9
       refine ⟨_, rfl, ?_⟩
       simp only [nz]
       cases b6
       ·refine pl_t 49 (?_) (by rfl) ?_ rfl ?_
        rotate_left
        ·go_simp
         try with_reducible rfl
        simp only [nz]
        refine pl_t 50 (?_) (by rfl) ?_ rfl ?_
        rotate_left
        ·go_simp
         try with_reducible rfl
        simp only [nz]
        refine pl_skip (d := some 51) (by rfl) rfl ?_
        simp only [nz]
        refine pl_skip (d := some 52) (by rfl) rfl ?_
        simp only [nz]
        refine pl_skip (d := some 53) (by rfl) rfl ?_
        simp only [nz]
        refine pl_skip (d := some 54) (by rfl) rfl ?_
        simp only [nz]
        refine pl_skip (d := some 55) (by rfl) rfl ?_
        simp only [nz]
        refine pl_t 56 (?_) (by rfl) ?_ rfl ?_
        rotate_left
        ·go_simp
         try with_reducible rfl
        simp only [nz]
        refine pl_t 4 (?_) (by rfl) ?_ rfl ?_
        rotate_left
        ·go_simp
         try with_reducible rfl
        simp only [nz]
        refine pl_nil ?_
        go_wp2_with fail
        go_ret
        exact ⟨by have := HG.out; simp at this; subst this; rfl, hB.trans (HS.mono hB.size)⟩
       ·refine pl_t 49 (?_) (by rfl) ?_ rfl ?_
        rotate_left
        ·go_simp
         try with_reducible rfl
        simp only [nz]
        refine pl_t 50 (?_) (by rfl) ?_ rfl ?_
        rotate_left
        ·go_simp
         try with_reducible rfl
        simp only [nz]
        refine pl_t 51 (?_) (by rfl) ?_ rfl ?_
        rotate_left
        ·go_simp
         try with_reducible rfl
        simp only [nz]
        refine pl_t 52 (a.sg.val) (by rfl) (pl_one rfl rfl ((HS.cell (p := ⟨w.heap.size, 44, none⟩) sA).trans a44) Tryz.underlying29 rfl) rfl ?_
        simp only [nz]
        refine pl_t 53 (?_) (by rfl) ?_ rfl ?_
        rotate_left
        ·go_simp
         try with_reducible rfl
        simp only [nz]
        refine pl_t 54 (b.sg.val) (by rfl) (pl_one rfl rfl ((HS.cell (p := ⟨w.heap.size + 1, 44, none⟩) sC).trans b44) Tryz.underlying29 rfl) rfl ?_
        simp only [nz]
        refine pl_call (d := some 55) (by rfl) (by go_simp; first | done | exact ⟨rfl, rfl⟩ | with_reducible rfl) rfl ?_
        refine (gS w10 HS).mono ?_
        rintro _ w11 ⟨rfl, hb9⟩
        replace HS := HS.trans (hb9.mono HS.size)
        clear hb9
        refine ⟨_, rfl, ?_⟩
        simp only [nz]
        cases b7
        ·refine pl_t 56 (?_) (by rfl) ?_ rfl ?_
         rotate_left
         ·go_simp
          try with_reducible rfl
         simp only [nz]
         refine pl_t 4 (?_) (by rfl) ?_ rfl ?_
         rotate_left
         ·go_simp
          try with_reducible rfl
         simp only [nz]
         refine pl_nil ?_
         go_wp2_with fail
         go_ret
         exact ⟨by have := HG.out; simp at this; subst this; rfl, hB.trans (HS.mono hB.size)⟩
        ·refine pl_t 56 (?_) (by rfl) ?_ rfl ?_
         rotate_left
         ·go_simp
          try with_reducible rfl
         simp only [nz]
         refine pl_t 4 (?_) (by rfl) ?_ rfl ?_
         rotate_left
         ·go_simp
          try with_reducible rfl
         simp only [nz]
         refine pl_nil ?_
         go_wp2_with fail
         go_ret
         exact ⟨by have := HG.out; simp at this; subst this; rfl, hB.trans (HS.mono hB.size)⟩
     ·refine pl_t 37 (?_) (by rfl) ?_ rfl ?_
      rotate_left
      ·go_simp
       try with_reducible rfl
      simp only [nz]
      refine pl_nil ?_
      go_wp2_with fail
      go_ret
      exact ⟨by have := HG.out; simp at this; subst this; rfl, hB⟩
    ·refine pl_t 30 (?_) (by rfl) ?_ rfl ?_
     rotate_left
     ·go_simp
      try with_reducible rfl
     simp only [nz]
     refine pl_t 31 (?_) (by rfl) ?_ rfl ?_
     rotate_left
     ·go_simp
      try with_reducible rfl
     simp only [nz]
     refine pl_skip (d := some 32) (by rfl) rfl ?_
     simp only [nz]
     refine pl_skip (d := some 33) (by rfl) rfl ?_
     simp only [nz]
     refine pl_skip (d := some 34) (by rfl) rfl ?_
     simp only [nz]
     refine pl_skip (d := some 35) (by rfl) rfl ?_
     simp only [nz]
     refine pl_skip (d := some 36) (by rfl) rfl ?_
     simp only [nz]
     refine pl_t 37 (?_) (by rfl) ?_ rfl ?_
     rotate_left
     ·go_simp
      try with_reducible rfl
     simp only [nz]
     refine pl_nil ?_
     go_wp2_with fail
     go_ret
     exact ⟨by have := HG.out; simp at this; subst this; rfl, hB⟩
   ·refine pl_t 23 (?_) (by rfl) ?_ rfl ?_
    rotate_left
    ·go_simp
     try with_reducible rfl
    simp only [nz]
    refine pl_t 24 (?_) (by rfl) ?_ rfl ?_
    rotate_left
    ·go_simp
     try with_reducible rfl
    simp only [nz]
    refine pl_skip (d := some 25) (by rfl) rfl ?_
    simp only [nz]
    refine pl_skip (d := some 26) (by rfl) rfl ?_
    simp only [nz]
    refine pl_skip (d := some 27) (by rfl) rfl ?_
    simp only [nz]
    refine pl_skip (d := some 28) (by rfl) rfl ?_
    simp only [nz]
    refine pl_skip (d := some 29) (by rfl) rfl ?_
    simp only [nz]
    refine pl_t 30 (?_) (by rfl) ?_ rfl ?_
    rotate_left
    ·go_simp
     try with_reducible rfl
    simp only [nz]
    refine pl_t 31 (?_) (by rfl) ?_ rfl ?_
    rotate_left
    ·go_simp
     try with_reducible rfl
    simp only [nz]
    refine pl_skip (d := some 32) (by rfl) rfl ?_
    simp only [nz]
    refine pl_skip (d := some 33) (by rfl) rfl ?_
    simp only [nz]
    refine pl_skip (d := some 34) (by rfl) rfl ?_
    simp only [nz]
    refine pl_skip (d := some 35) (by rfl) rfl ?_
    simp only [nz]
    refine pl_skip (d := some 36) (by rfl) rfl ?_
    simp only [nz]
    refine pl_t 37 (?_) (by rfl) ?_ rfl ?_
    rotate_left
    ·go_simp
     try with_reducible rfl
    simp only [nz]
    refine pl_nil ?_
    go_wp2_with fail
    go_ret
    exact ⟨by have := HG.out; simp at this; subst this; rfl, hB⟩
  ·refine pl_t 16 (?_) (by rfl) ?_ rfl ?_
   rotate_left
   ·go_simp
    try with_reducible rfl
   simp only [nz]
   refine pl_t 17 (?_) (by rfl) ?_ rfl ?_
   rotate_left
   ·go_simp
    try with_reducible rfl
   simp only [nz]
   refine pl_skip (d := some 18) (by rfl) rfl ?_
   simp only [nz]
   refine pl_skip (d := some 19) (by rfl) rfl ?_
   simp only [nz]
   refine pl_skip (d := some 20) (by rfl) rfl ?_
   simp only [nz]
   refine pl_skip (d := some 21) (by rfl) rfl ?_
   simp only [nz]
   refine pl_skip (d := some 22) (by rfl) rfl ?_
   simp only [nz]
   refine pl_t 23 (?_) (by rfl) ?_ rfl ?_
   rotate_left
   ·go_simp
    try with_reducible rfl
   simp only [nz]
   refine pl_t 24 (?_) (by rfl) ?_ rfl ?_
   rotate_left
   ·go_simp
    try with_reducible rfl
   simp only [nz]
   refine pl_skip (d := some 25) (by rfl) rfl ?_
   simp only [nz]
   refine pl_skip (d := some 26) (by rfl) rfl ?_
   simp only [nz]
   refine pl_skip (d := some 27) (by rfl) rfl ?_
   simp only [nz]
   refine pl_skip (d := some 28) (by rfl) rfl ?_
   simp only [nz]
   refine pl_skip (d := some 29) (by rfl) rfl ?_
   simp only [nz]
   refine pl_t 30 (?_) (by rfl) ?_ rfl ?_
   rotate_left
   ·go_simp
    try with_reducible rfl
   simp only [nz]
   refine pl_t 31 (?_) (by rfl) ?_ rfl ?_
   rotate_left
   ·go_simp
    try with_reducible rfl
   simp only [nz]
   refine pl_skip (d := some 32) (by rfl) rfl ?_
   simp only [nz]
   refine pl_skip (d := some 33) (by rfl) rfl ?_
   simp only [nz]
   refine pl_skip (d := some 34) (by rfl) rfl ?_
   simp only [nz]
   refine pl_skip (d := some 35) (by rfl) rfl ?_
   simp only [nz]
   refine pl_skip (d := some 36) (by rfl) rfl ?_
   simp only [nz]
   refine pl_t 37 (?_) (by rfl) ?_ rfl ?_
   rotate_left
   ·go_simp
    try with_reducible rfl
   simp only [nz]
   refine pl_nil ?_
   go_wp2_with fail
   go_ret
   exact ⟨by have := HG.out; simp at this; subst this; rfl, hB⟩
 ·refine pl_t 10 (?_) (by rfl) ?_ rfl ?_
  rotate_left
  ·go_simp
   try with_reducible rfl
  simp only [nz]
  refine pl_skip (d := some 11) (by rfl) rfl ?_
  simp only [nz]
  refine pl_skip (d := some 12) (by rfl) rfl ?_
  simp only [nz]
  refine pl_skip (d := some 13) (by rfl) rfl ?_
  simp only [nz]
  refine pl_skip (d := some 14) (by rfl) rfl ?_
  simp only [nz]
  refine pl_skip (d := some 15) (by rfl) rfl ?_
  simp only [nz]
  refine pl_t 16 (?_) (by rfl) ?_ rfl ?_
  rotate_left
  ·go_simp
   try with_reducible rfl
  simp only [nz]
  refine pl_t 17 (?_) (by rfl) ?_ rfl ?_
  rotate_left
  ·go_simp
   try with_reducible rfl
  simp only [nz]
  refine pl_skip (d := some 18) (by rfl) rfl ?_
  simp only [nz]
  refine pl_skip (d := some 19) (by rfl) rfl ?_
  simp only [nz]
  refine pl_skip (d := some 20) (by rfl) rfl ?_
  simp only [nz]
  refine pl_skip (d := some 21) (by rfl) rfl ?_
  simp only [nz]
  refine pl_skip (d := some 22) (by rfl) rfl ?_
  simp only [nz]
  refine pl_t 23 (?_) (by rfl) ?_ rfl ?_
  rotate_left
  ·go_simp
   try with_reducible rfl
  simp only [nz]
  refine pl_t 24 (?_) (by rfl) ?_ rfl ?_
  rotate_left
  ·go_simp
   try with_reducible rfl
  simp only [nz]
  refine pl_skip (d := some 25) (by rfl) rfl ?_
  simp only [nz]
  refine pl_skip (d := some 26) (by rfl) rfl ?_
  simp only [nz]
  refine pl_skip (d := some 27) (by rfl) rfl ?_
  simp only [nz]
  refine pl_skip (d := some 28) (by rfl) rfl ?_
  simp only [nz]
  refine pl_skip (d := some 29) (by rfl) rfl ?_
  simp only [nz]
  refine pl_t 30 (?_) (by rfl) ?_ rfl ?_
  rotate_left
  ·go_simp
   try with_reducible rfl
  simp only [nz]
  refine pl_t 31 (?_) (by rfl) ?_ rfl ?_
  rotate_left
  ·go_simp
   try with_reducible rfl
  simp only [nz]
  refine pl_skip (d := some 32) (by rfl) rfl ?_
  simp only [nz]
  refine pl_skip (d := some 33) (by rfl) rfl ?_
  simp only [nz]
  refine pl_skip (d := some 34) (by rfl) rfl ?_
  simp only [nz]
  refine pl_skip (d := some 35) (by rfl) rfl ?_
  simp only [nz]
  refine pl_skip (d := some 36) (by rfl) rfl ?_
  simp only [nz]
  refine pl_t 37 (?_) (by rfl) ?_ rfl ?_
  rotate_left
  ·go_simp
   try with_reducible rfl
  simp only [nz]
  refine pl_nil ?_
  go_wp2_with fail
  go_ret
  exact ⟨by have := HG.out; simp at this; subst this; rfl, hB⟩
end Go.Proofs.YtinndbipomlokaaGreat
