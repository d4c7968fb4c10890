/- Parse (the program's); light; the example: Plain, First; First of the example -/
import Derived.Test.YtaaifcpanflejaaJB4
import Derived.Test.YtaaifcpanflejaaJB1
import Derived.Laws.ResultCell
namespace Go.Proofs.Ytaaifcpanflejaa
open Go.RowKit
open Sha Tal
set_option linter.unusedVariables false
set_option linter.unusedSimpArgs false
theorem strL_byte (s : ByteArray) : ∀ z ∈ strL s, 0 ≤ z ∧ z < 256 := by
  intro z hz
  obtain ⟨b, _, rfl⟩ := List.mem_map.1 hz
  have := b.toNat_lt
  omega
/-- a string's bytes, laid anew -/
theorem bytes_of (s : ByteArray) (hs : s.size ≤ 1099511627) (w : World) : ∃ c w1, (convert 9 46 (.string s)).run Try.prog w = .ok (.slice (some ⟨w.heap.size, 0, none⟩) (strL s).length c) w1 ∧ RowAt w1 (some ⟨w.heap.size, 0, none⟩) (strL s) ∧ Below w.heap.size w w1 := by
  refine ⟨grownCap w s.size 0 5, Lib.bytesWorld w 5 s, ?_, ?_, ?_⟩
  · rw [Lib.run_convert_string_bytes w 9 46 5 s Try.underlying9 Try.underlying46 Try.underlying5, strL_length]
  · refine ⟨by rw [strL_length]; unfold maxLen; omega, strL_byte s, .inr ⟨_, _, rfl, by rw [Lib.bytesWorld_size]; omega, fun j v hv => ?_⟩⟩
    have hj : j < s.size := by
      have := (List.getElem?_eq_some_iff.1 hv).1
      rwa [v8_length, strL_length] at this
    rw [Nat.zero_add, Lib.bytesWorld_cell w 5 s j hj, ← hv]
    have hj' : j < s.data.toList.length := by simpa using hj
    simp only [v8, strL, List.map_map, List.getElem?_map, List.getElem?_eq_getElem hj', List.getD_eq_getElem?_getD, Option.getD_some, Option.map_some, Function.comp]
  · exact ⟨rfl, rfl, rfl, by rw [Lib.bytesWorld_size]; omega, fun k hk => Lib.bytesWorld_at_old w 5 s k hk⟩
/-- what Done answers -/
def doneE (rest : List Int) (e : Int) : Int := if e = 0 then (if rest.length = 0 then 0 else 12) else e
set_option maxRecDepth 100000 in
set_option maxHeartbeats 2000000 in
theorem done_any (R : Nat) (rest : List Int) (e : Int) (w : World) (h : St w R rest e) : Calls Try.prog 17 #[.pointer (some ⟨R, 0, none⟩)] w fun en w' => en = .returned (.int .i64 (doneE rest e)) ∧ w' = w := by
  have ce := err_made R e w h.1
  by_cases he : e = 0
  · subst he
    obtain ⟨a, cap, h0, _⟩ := h.2 rfl
    have cl := left_any R a rest.length cap w h0
    have E : doneE rest 0 = if rest.length = 0 then 0 else 12 := by simp [doneE]
    rw [E]
    clear E h
    by_cases hr : rest.length = 0
    · rw [if_pos hr]
      rw [hr] at cl
      clear hr h0
      go_enter Try.func17, Try.ntmps17
      go_wp2_with fail
      refine ce.mono ?_
      rintro e1 w1 ⟨rfl, hx⟩
      obtain rfl := hx.symm
      clear hx
      go_wp2_with fail
      refine cl.mono ?_
      rintro e2 w2 ⟨rfl, hx⟩
      obtain rfl := hx.symm
      clear hx
      go_wp2
      go_ret
      exact ⟨rfl, rfl⟩
    · rw [if_neg hr]
      have hr' : (0 : Int) < rest.length := by omega
      obtain ⟨n, hn⟩ : ∃ n : Int, (rest.length : Int) = n := ⟨_, rfl⟩
      rw [hn] at cl hr'
      clear hr hn h0
      go_enter Try.func17, Try.ntmps17
      go_wp2_with fail
      refine ce.mono ?_
      rintro e1 w1 ⟨rfl, hx⟩
      obtain rfl := hx.symm
      clear hx
      go_wp2_with fail
      refine cl.mono ?_
      rintro e2 w2 ⟨rfl, hx⟩
      obtain rfl := hx.symm
      clear hx
      go_wp2
      go_ret
      exact ⟨rfl, rfl⟩
  · have E : doneE rest e = e := by simp [doneE, he]
    rw [E]
    have n1 : (e != 0) = true := bne_iff_ne.2 he
    clear E h he
    go_enter Try.func17, Try.ntmps17
    go_wp2_with fail
    refine ce.mono ?_
    rintro e1 w1 ⟨rfl, hx⟩
    obtain rfl := hx.symm
    clear hx
    go_wp2
    go_ret
    exact ⟨rfl, rfl⟩
theorem results_ct {fn : Func} {p u : Tmp} {ty : TypeId} (h : fn.results = #[.cell p ty, .tmp u]) (tmps : Array Value) (P : Program) (w : World) {a : Addr} {v : Value} (ha : tmps.getD p undef = .pointer (some a)) (hv : (loadVar ty a).run P w = .ok v w) : (results fn tmps).run P w = .ok (.tuple #[v, tmps.getD u undef]) w := by
  rw [results_cell_tmp h, ha]
  simp [asAddr, hv, Result.andThen]
theorem ex_build {P : Program} {o : Oper} {a : Act} {w : World} {t : TypeId} {parts : List (Nat × Operand)} {vs : List (Nat × Value)} {v : Value} (ho : o.op = .build t parts.toArray) (hv : (parts.map fun (x : Nat × Operand) => (x.1, a.eval x.2)) = vs)
    (hr : (Instr.build t vs.toArray).run P w = .ok v w) : (execOp a.eval o).run P w = .ok (.value v) w := by
  subst hv
  have e : Array.map (fun (x : Nat × Operand) => (x.1, a.eval x.2)) parts.toArray = (parts.map fun (x : Nat × Operand) => (x.1, a.eval x.2)).toArray := by simp
  unfold execOp
  simp only [ho]
  rw [show (Instr.build t (Array.map (fun x => match x with | (i, x) => (i, a.eval x)) parts.toArray)) = Instr.build t (parts.map fun (x : Nat × Operand) => (x.1, a.eval x.2)).toArray from congrArg _ e]
  simp only [Sem.run_bind, hr, Result.andThen_ok, Sem.run_pure]
theorem ex_conv {o : Oper} {a : Act} {w w' : World} {x : Operand} {s d : TypeId} {u v : Value} (ho : o.op = .convert s d x) (hx : a.eval x = u) (hc : (convert s d u).run Try.prog w = .ok v w') : (execOp a.eval o).run Try.prog w = .ok (.value v) w' := by
  unfold execOp
  simp [ho, hx, hc]
def Sp.zero : Sp := ⟨0, 0, 0, zeros32, [], []⟩
def Stt.zero : Stt := ⟨0, 0, 0, zeros32, ⟨none, 0, []⟩, ⟨none, 0, []⟩⟩
theorem Stt.zero_ok : Stt.zero.ok := ⟨by decide, by decide, by decide, by decide, by decide, by decide, by decide, by decide⟩
theorem Stt.zero_at (w : World) : Stt.zero.At w := ⟨RowsAt.none, RowsAt.none⟩
theorem Stt.zero_lo (n : Nat) : Stt.zero.Lo n := ⟨fun b hb => (by cases hb), fun b hb => (by cases hb)⟩
def Sp.good (c : Ld.Cfg) (p : Sp) : Bool := Stt.good c ⟨p.e, p.n, p.c, p.d, ⟨none, 0, p.ws⟩, ⟨none, 0, p.ps⟩⟩
theorem Stt.good_sp (c : Ld.Cfg) (s : Stt) : s.good c = s.sp.good c := rfl
def parseS (c : Ld.Cfg) (zs : List Int) : Sp × Int := if doneE (readS (zs, 0)).2.1 (readS (zs, 0)).2.2 ≠ 0 then (Sp.zero, doneE (readS (zs, 0)).2.1 (readS (zs, 0)).2.2) else if (readS (zs, 0)).1.good c = true then ((readS (zs, 0)).1, 0) else (Sp.zero, 220)
/-- what Parse answers -/
def ParsA (w : World) (p : Sp × Int) (en : Ending) (w' : World) : Prop := ∃ x : Stt, en = .returned (.tuple #[.agg x.cells.toArray, .int .i64 p.2]) ∧ x.sp = p.1 ∧ x.ok ∧ x.At w' ∧ x.Lo w.heap.size ∧ Below w.heap.size w w'
theorem pars_out {w W : World} {A : Nat} {x : Stt} {n : Int} {p : Sp × Int} {qc : List Value} (hq : x.cells = qc) (hA : w.heap.size ≤ A) (hB : Below w.heap.size w W) (hn : n = p.2) (hp : x.sp = p.1) (ho : x.ok) (ha : x.At W) (hl : x.Lo (A + 1)) : ParsA w p (.returned (.tuple #[.agg qc.toArray, .int .i64 n])) (W.setCells A 0 qc) := by
  subst hq hn
  exact ⟨x, rfl, hp, ho, ha.put hl (Nat.lt_succ_self _), hl.mono (by omega), below_sets hA _ _ _ hB⟩
theorem build_s0 (w : World) : (Instr.build 30 #[]).run Try.prog w = .ok (.agg Stt.zero.cells.toArray) w := by kernel_rfl
theorem zeroS0 (w : World) : (zeroValue 30).run Try.prog w = .ok (.agg Stt.zero.cells.toArray) w := by kernel_rfl
set_option maxRecDepth 100000 in
set_option maxHeartbeats 2000000 in
theorem sparse_any (c : Ld.Cfg) (sb : ByteArray) (w : World) (hs : sb.size ≤ 40000) : Calls Try.prog 6 #[.agg (cfgL c).toArray, .string sb] w fun en w' => ParsA w (parseS c (strL sb)) en w' := by
  obtain ⟨zc, hz0, hzl, hz1, hzr, hbn⟩ : ∃ z : List Value, Hid (z = Stt.zero.cells) ∧ z.length = 37 ∧ (∀ v ∈ z, v.oneCell' = true) ∧ (∀ w : World, (zeroValue 30).run Try.prog w = .ok (.agg z.toArray) w) ∧ (∀ w : World, (Instr.build 30 #[]).run Try.prog w = .ok (.agg z.toArray) w) := ⟨_, hide rfl, Stt.len Stt.zero_ok, Stt.one _, zeroS0, build_s0⟩
  obtain ⟨cap, hcv⟩ : ∃ cap : World → Nat, ∀ w0, ∃ w1, (convert 9 46 (.string sb)).run Try.prog w0 = .ok (.slice (some ⟨w0.heap.size, 0, none⟩) (strL sb).length (cap w0)) w1 ∧ RowAt w1 (some ⟨w0.heap.size, 0, none⟩) (strL sb) ∧ Below w0.heap.size w0 w1 := ⟨fun w0 => (bytes_of sb (by omega) w0).choose, fun w0 => (bytes_of sb (by omega) w0).choose_spec⟩
  have hll : (strL sb).length ≤ 40000 := by rw [strL_length]; exact hs
  unfold parseS
  generalize strL sb = zs at hcv hll ⊢
  have cR := fun a cap w0 h0 => read_any a cap zs w0 h0 (by omega)
  have cK := fun R w0 h0 => sread_any R (zs, 0) w0 h0 hll
  generalize readS (zs, 0) = p at cK ⊢
  obtain ⟨sp, rest, er⟩ := p
  simp only at cK ⊢
  have cD := fun R w0 h0 => done_any R rest er w0 h0
  obtain ⟨d, hd⟩ : ∃ d, doneE rest er = d := ⟨_, rfl⟩
  rw [hd]
  simp only [hd] at cD
  clear hd
  obtain ⟨PP, hPP⟩ : ∃ P, Hid ((if d ≠ 0 then (Sp.zero, d) else if sp.good c = true then (sp, 0) else (Sp.zero, 220)) = P) := ⟨_, hide rfl⟩
  rw [hPP.out]
  obtain ⟨hB0, hr0, hs0⟩ := boxed_new w (cfgL c) 23
  have iu := iszCf c
  have cG := fun (x : Stt) w0 h0 h1 => sgood_any c x w0 h0 h1
  have cG : ∀ (x : Stt) w0 (h0 : x.ok) (h1 : x.At w0), Calls Try.prog 10 #[.agg (cfgL c).toArray, .agg x.cells.toArray] w0 fun e w' => e = .returned (.bool (x.good c)) ∧ Below w0.heap.size w0 w' := cG
  obtain ⟨u, hu⟩ : ∃ u, Hid (cfgL c = u) := ⟨_, hide rfl⟩
  rw [hu.out] at hB0 hr0 hs0 iu
  simp only [hu.out] at cG ⊢
  go_enter Try.func6, Try.ntmps6
  go_upto_region 0 with fail
  try simp only [Act.put]
  refine pl_begin ?_
  refine pl_run (d := some 2) (v := .pointer (some ⟨w.heap.size, 0, none⟩)) (w' := w.alloc (.cells u.toArray 23)) (by rfl) (ex_boxR rfl rfl) rfl ?_
  simp only [Act.put, List.setIfInBounds_toArray, List.set_cons_zero, List.set_cons_succ]
  obtain ⟨W0, hW0⟩ : ∃ W, w.alloc (.cells u.toArray 23) = W := ⟨_, rfl⟩
  rw [hW0] at hB0 hr0 hs0 ⊢
  clear hW0
  obtain ⟨hB1, -, hs1⟩ := boxed_new W0 zc 30
  have ht1 := there_newN W0 zc.toArray 30 (n := 37) (by simp [hzl])
  refine pl_run (d := some 4) (v := .pointer (some ⟨W0.heap.size, 0, none⟩)) (w' := W0.alloc (.cells zc.toArray 30)) (by rfl) (ex_alloc rfl (hzr _)) rfl ?_
  simp only [Act.put, List.setIfInBounds_toArray, List.set_cons_zero, List.set_cons_succ]
  refine pl_take (d := some 5) (v := ?_) (by rfl) ?_ rfl ?_
  rotate_left
  · go_simp
    try with_reducible rfl
  simp only [Act.put, List.setIfInBounds_toArray, List.set_cons_zero, List.set_cons_succ]
  refine pl_nil ?_
  obtain ⟨W1, hW1⟩ : ∃ W, W0.alloc (.cells zc.toArray 30) = W := ⟨_, rfl⟩
  rw [hW1] at hB1 hs1 ht1 ⊢
  clear hW1
  have hr1 := range_below hr0 hB1 hs0
  have hB := hB0.trans (hB1.mono (by omega))
  obtain ⟨A, hA⟩ : ∃ X, W0.heap.size = X := ⟨_, rfl⟩
  obtain ⟨C, hC⟩ : ∃ X, w.heap.size = X := ⟨_, rfl⟩
  rw [hA] at hs1 ht1 hs0
  rw [hC] at hs0 hr1
  simp only [hA, hC]
  obtain ⟨wa, hcw, hra, hBa⟩ := hcv W1
  go_upto_region 1 with fail
  try simp only [Act.put]
  refine pl_begin ?_
  refine pl_take (d := some 9) (v := ?_) (by rfl) ?_ rfl ?_
  rotate_left
  · go_simp
    try with_reducible rfl
  simp only [Act.put, List.setIfInBounds_toArray, List.set_cons_zero, List.set_cons_succ]
  refine pl_run (d := some 10) (v := .slice (some ⟨W1.heap.size, 0, none⟩) zs.length (cap W1)) (w' := wa) (by rfl) (ex_conv rfl rfl hcw) rfl ?_
  simp only [Act.put, List.setIfInBounds_toArray, List.set_cons_zero, List.set_cons_succ]
  refine pl_call (d := some 11) (by rfl) (by go_simp; first | done | exact ⟨rfl, rfl⟩ | with_reducible rfl) rfl ?_
  refine (cR _ _ wa hra).mono ?_
  rintro _ w2 ⟨R, rfl, hRw, S2, hb2⟩
  refine ⟨_, rfl, ?_⟩
  simp only [Act.put, List.setIfInBounds_toArray, List.set_cons_zero, List.set_cons_succ]
  refine pl_take (d := some 6) (v := ?_) (by rfl) ?_ rfl ?_
  rotate_left
  · go_simp
    try with_reducible rfl
  simp only [Act.put, List.setIfInBounds_toArray, List.set_cons_zero, List.set_cons_succ]
  refine pl_nil ?_
  have hb12 := hBa.trans (hb2.mono hBa.size)
  have hT2 := there_below ht1 hb12 hs1
  have hr2 := range_below hr1 hb12 (by omega)
  have hB2 := hB.trans (hb12.mono hB.size)
  have hs2 := Nat.lt_of_lt_of_le hs1 hb12.size
  have hRA : A < R := by have := hBa.size; omega
  have hR2 : R < w2.heap.size := S2.1.1
  clear hcv hcw hra cR hBa hb2 hb12 ht1 hr1 hB hB0 hB1 hr0
  go_upto_region 2 with fail
  try simp only [Act.put]
  refine pl_begin ?_
  refine pl_take (d := some 12) (v := ?_) (by rfl) ?_ rfl ?_
  rotate_left
  · go_simp
    try with_reducible rfl
  simp only [Act.put, List.setIfInBounds_toArray, List.set_cons_zero, List.set_cons_succ]
  refine pl_call (d := some 13) (by rfl) (by go_simp; first | done | exact ⟨rfl, rfl⟩ | with_reducible rfl) rfl ?_
  refine (cK R w2 S2).mono ?_
  rintro _ w3 ⟨x, rfl, hxp, hxo, hxa, hxl, S3, hg3⟩
  refine ⟨_, rfl, ?_⟩
  simp only [Act.put, List.setIfInBounds_toArray, List.set_cons_zero, List.set_cons_succ]
  have hql : x.cells.length = 37 := Stt.len hxo
  have hq1 := Stt.one x
  have hiq : (Try.prog.info? 30).map (·.size) = some x.cells.length := by rw [hql]; exact iszSt
  refine pl_run (d := some 7) (v := .pointer (some ⟨w3.heap.size, 0, none⟩)) (w' := w3.alloc (.cells zc.toArray 30)) (by rfl) (ex_alloc rfl (hzr _)) rfl ?_
  simp only [Act.put, List.setIfInBounds_toArray, List.set_cons_zero, List.set_cons_succ]
  refine pl_store (w' := (w3.alloc (.cells zc.toArray 30)).setCells w3.heap.size 0 x.cells) (by rfl) (ex_put (cs := x.cells.toArray) rfl rfl rfl (there_newN _ _ _ (by simp [hzl, hql])) (by simpa using hiq) (all_one hq1)) rfl ?_
  refine pl_nil ?_
  obtain ⟨r4, hF2, hF3, -⟩ := fresh_store w3 zc.toArray 30 x.cells (by simp [hzl, hql])
  have hne : (some A : Option Nat) ≠ some R := by intro q; injection q with q; omega
  have hnc : (some C : Option Nat) ≠ some R := by intro q; injection q with q; omega
  have hT3 := there_blk hT2 (hg3.block A hs2 hne)
  have hr3 := range_blk hr2 (hg3.block C (by omega) hnc)
  have hB3 : Below w.heap.size w w3 := ⟨hg3.os.trans hB2.os, hg3.tape.trans hB2.tape, hg3.output.trans hB2.output, Nat.le_trans hB2.size hg3.size, fun i hi => (hg3.block i (Nat.lt_of_lt_of_le hi hB2.size) (by intro q; injection q with q; omega)).trans (hB2.block i hi)⟩
  have hs3 : A < w3.heap.size := Nat.lt_of_lt_of_le hs2 hg3.size
  have hT4 := there_below hT3 hF2 hs3
  have hr4 := range_below hr3 hF2 (by omega)
  have hB4 := hB3.trans (hF2.mono hB3.size)
  have S4 := S3.below hF2
  have hxa4 := hxa.below hF2
  obtain ⟨X, hX⟩ : ∃ X, w3.heap.size = X := ⟨_, rfl⟩
  simp only [hX] at r4 hF3 hs3 hT4 hr4 hB4 S4 hxa4 ⊢
  obtain ⟨w4, hw4⟩ : ∃ W, (w3.alloc (.cells zc.toArray 30)).setCells X 0 x.cells = W := ⟨_, rfl⟩
  simp only [hw4] at r4 hF3 hT4 hr4 hB4 S4 hxa4 ⊢
  have hX4 : X < w4.heap.size := by omega
  have HCC : Hid (x.sp = sp ∧ x.ok ∧ x.Lo (A + 1)) := hide ⟨hxp, hxo, hxl.mono (by omega)⟩
  have hgx : x.good c = sp.good c := by rw [Stt.good_sp, hxp]
  have cg := cG x
  clear hF2 hF3 hT3 hB3 hB2 hxp hxl S3 hg3 hw4 hX hne hnc hT2 hr2 hr3 S2 hs1 hs2 hRw cK hzr cG hxa
  rw [hgx] at cg
  clear hgx
  go_upto_region 3 with fail
  try simp only [Act.put]
  refine pl_begin ?_
  refine pl_take (d := some 14) (v := ?_) (by rfl) ?_ rfl ?_
  rotate_left
  · go_simp
    try with_reducible rfl
  simp only [Act.put, List.setIfInBounds_toArray, List.set_cons_zero, List.set_cons_succ]
  refine pl_call (d := some 15) (by rfl) (by go_simp; first | done | exact ⟨rfl, rfl⟩ | with_reducible rfl) rfl ?_
  refine (cD R w4 S4).mono ?_
  rintro _ w5 ⟨rfl, hx⟩
  obtain rfl := hx.symm
  clear hx
  refine ⟨_, rfl, ?_⟩
  simp only [Act.put, List.setIfInBounds_toArray, List.set_cons_zero, List.set_cons_succ]
  refine pl_take (d := some 8) (v := ?_) (by rfl) ?_ rfl ?_
  rotate_left
  · go_simp
    try with_reducible rfl
  simp only [Act.put, List.setIfInBounds_toArray, List.set_cons_zero, List.set_cons_succ]
  refine pl_nil ?_
  clear cD S4
  go_upto_region 4 with fail
  by_cases hd : d = 0
  rotate_left
  · have hdb : (d != 0) = true := by simpa using hd
    have HP : Hid (PP = (Sp.zero, d)) := hide (by rw [← hPP.out, if_pos hd])
    clear hPP hd cg hr4 iu
    try simp only [Act.put]
    refine pl_begin ?_
    refine pl_take (d := some 16) (v := ?_) (by rfl) ?_ rfl ?_
    rotate_left
    · go_simp
      try with_reducible rfl
    simp only [Act.put, List.setIfInBounds_toArray, List.set_cons_zero, List.set_cons_succ]
    refine pl_take (d := some 17) (v := .bool true) (by rfl) (by go_simp <;> (try simp [*])) rfl ?_
    simp only [Act.put, List.setIfInBounds_toArray, List.set_cons_zero, List.set_cons_succ]
    refine pl_nil ?_
    go_upto_region 5 with fail
    try simp only [Act.put]
    refine pl_begin ?_
    refine pl_take (d := some 18) (v := .agg zc.toArray) (by rfl) (ex_build (parts := []) rfl rfl (hbn _)) rfl ?_
    simp only [Act.put, List.setIfInBounds_toArray, List.set_cons_zero, List.set_cons_succ]
    refine pl_take (d := some 19) (v := ?_) (by rfl) ?_ rfl ?_
    rotate_left
    · go_simp
      try with_reducible rfl
    simp only [Act.put, List.setIfInBounds_toArray, List.set_cons_zero, List.set_cons_succ]
    refine pl_store (w' := w4.setCells A 0 zc) (by rfl) (ex_put (cs := zc.toArray) rfl rfl rfl (by simpa [hzl] using hT4) (by simpa [hzl] using iszSt) (all_one hz1)) rfl ?_
    refine pl_take (d := some 5) (v := ?_) (by rfl) ?_ rfl ?_
    rotate_left
    · go_simp
      try with_reducible rfl
    simp only [Act.put, List.setIfInBounds_toArray, List.set_cons_zero, List.set_cons_succ]
    refine pl_nil ?_
    have hrs := run_loadVar_mid (P := Try.prog) (w4.setCells A 0 zc) A 0 30 zc _ (World.rangeAt_setCells_same w4 A 0 zc (by rw [hzl]; exact hT4)) Try.underlying30 rfl (by rw [hzl]; exact iszSt)
    have HF : Hid (ParsA w PP (.returned (.tuple #[.agg zc.toArray, .int .i64 d])) (w4.setCells A 0 zc)) := hide (by
      rw [HP.out]
      exact pars_out (x := Stt.zero) hz0.out.symm (by omega) hB4 rfl rfl Stt.zero_ok (Stt.zero_at _) (Stt.zero_lo _))
    clear r4 hB4 hT4 hX4 HCC hxa4
    go_wp2_with fail
    refine bodyPost_ret (results_ct rfl _ _ _ rfl hrs) rfl ?_
    exact HF.out
  subst hd
  have gB : sp.good c = true ∨ sp.good c = false := by cases sp.good c <;> simp
  try simp only [Act.put]
  refine pl_begin ?_
  refine pl_take (d := some 16) (v := ?_) (by rfl) ?_ rfl ?_
  rotate_left
  · go_simp
    try with_reducible rfl
  simp only [Act.put, List.setIfInBounds_toArray, List.set_cons_zero, List.set_cons_succ]
  refine pl_take (d := some 17) (v := .bool false) (by rfl) (by go_simp) rfl ?_
  simp only [Act.put, List.setIfInBounds_toArray, List.set_cons_zero, List.set_cons_succ]
  refine pl_nil ?_
  obtain ⟨q, hq⟩ : ∃ q, Hid (x.cells = q) := ⟨_, hide rfl⟩
  rw [hq.out] at r4 hql hq1 hiq
  simp only [hq.out] at cg
  go_upto_region 6 with fail
  try simp only [Act.put]
  refine pl_begin ?_
  refine pl_take (d := some 20) (v := .agg u.toArray) (by rfl) (ex_mid rfl rfl hr4 Try.underlying23 rfl iu) rfl ?_
  simp only [Act.put, List.setIfInBounds_toArray, List.set_cons_zero, List.set_cons_succ]
  refine pl_take (d := some 21) (v := .agg q.toArray) (by rfl) (ex_mid rfl rfl r4 Try.underlying30 rfl hiq) rfl ?_
  simp only [Act.put, List.setIfInBounds_toArray, List.set_cons_zero, List.set_cons_succ]
  refine pl_call (d := some 22) (by rfl) (by go_simp; first | done | exact ⟨rfl, rfl⟩ | with_reducible rfl) rfl ?_
  refine (cg w4 hxo hxa4).mono ?_
  rintro _ w5 ⟨rfl, hb5⟩
  refine ⟨_, rfl, ?_⟩
  simp only [Act.put, List.setIfInBounds_toArray, List.set_cons_zero, List.set_cons_succ]
  have hT5 := there_below hT4 hb5 (by omega)
  have hr5 := range_below r4 hb5 hX4
  have hB5 := hB4.trans (hb5.mono hB4.size)
  have hxa5 := hxa4.below hb5
  clear hT4 r4 hB4 hxa4 hb5 cg hr4
  rcases gB with gB | gB
  · have HP : Hid (PP = (sp, 0)) := hide (by rw [← hPP.out, if_neg (by simp), if_pos gB])
    refine pl_take (d := some 23) (v := .bool false) (by rfl) (by go_simp <;> (try simp [*])) rfl ?_
    simp only [Act.put, List.setIfInBounds_toArray, List.set_cons_zero, List.set_cons_succ]
    refine pl_nil ?_
    clear hPP gB
    go_upto_region 8 with fail
    try simp only [Act.put]
    refine pl_begin ?_
    refine pl_take (d := some 25) (v := .agg q.toArray) (by rfl) (ex_mid rfl rfl hr5 Try.underlying30 rfl hiq) rfl ?_
    simp only [Act.put, List.setIfInBounds_toArray, List.set_cons_zero, List.set_cons_succ]
    refine pl_store (w' := w5.setCells A 0 q) (by rfl) (ex_put (cs := q.toArray) rfl rfl rfl (by simpa [hql] using hT5) (by simpa using hiq) (all_one hq1)) rfl ?_
    refine pl_take (d := some 5) (v := ?_) (by rfl) ?_ rfl ?_
    rotate_left
    · go_simp
      try with_reducible rfl
    simp only [Act.put, List.setIfInBounds_toArray, List.set_cons_zero, List.set_cons_succ]
    refine pl_nil ?_
    have hrs := run_loadVar_mid (P := Try.prog) (w5.setCells A 0 q) A 0 30 q _ (World.rangeAt_setCells_same w5 A 0 q (by rw [hql]; exact hT5)) Try.underlying30 rfl (by rw [hql]; exact iszSt)
    have HF : Hid (ParsA w PP (.returned (.tuple #[.agg q.toArray, .int .i64 0])) (w5.setCells A 0 q)) := hide (by
      rw [HP.out]
      exact pars_out (x := x) hq.out (by omega) hB5 rfl HCC.out.1 HCC.out.2.1 hxa5 HCC.out.2.2)
    clear hr5 hB5 hT5 hX4 HCC hxa5
    go_wp2_with fail
    refine bodyPost_ret (results_ct rfl _ _ _ rfl hrs) rfl ?_
    exact HF.out
  · have HP : Hid (PP = (Sp.zero, 220)) := hide (by rw [← hPP.out, if_neg (by simp), if_neg (by rw [gB]; simp)])
    refine pl_take (d := some 23) (v := .bool true) (by rfl) (by go_simp <;> (try simp [*])) rfl ?_
    simp only [Act.put, List.setIfInBounds_toArray, List.set_cons_zero, List.set_cons_succ]
    refine pl_nil ?_
    clear hPP gB
    go_upto_region 7 with fail
    try simp only [Act.put]
    refine pl_begin ?_
    refine pl_take (d := some 24) (v := .agg zc.toArray) (by rfl) (ex_build (parts := []) rfl rfl (hbn _)) rfl ?_
    simp only [Act.put, List.setIfInBounds_toArray, List.set_cons_zero, List.set_cons_succ]
    refine pl_store (w' := w5.setCells A 0 zc) (by rfl) (ex_put (cs := zc.toArray) rfl rfl rfl (by simpa [hzl] using hT5) (by simpa [hzl] using iszSt) (all_one hz1)) rfl ?_
    refine pl_take (d := some 5) (v := ?_) (by rfl) ?_ rfl ?_
    rotate_left
    · go_simp
      try with_reducible rfl
    simp only [Act.put, List.setIfInBounds_toArray, List.set_cons_zero, List.set_cons_succ]
    refine pl_nil ?_
    have hrs := run_loadVar_mid (P := Try.prog) (w5.setCells A 0 zc) A 0 30 zc _ (World.rangeAt_setCells_same w5 A 0 zc (by rw [hzl]; exact hT5)) Try.underlying30 rfl (by rw [hzl]; exact iszSt)
    have HF : Hid (ParsA w PP (.returned (.tuple #[.agg zc.toArray, .int .i64 220])) (w5.setCells A 0 zc)) := hide (by
      rw [HP.out]
      exact pars_out (x := Stt.zero) hz0.out.symm (by omega) hB5 rfl rfl Stt.zero_ok (Stt.zero_at _) (Stt.zero_lo _))
    clear hr5 hB5 hT5 hX4 HCC hxa5
    go_wp2_with fail
    refine bodyPost_ret (results_ct rfl _ _ _ rfl hrs) rfl ?_
    exact HF.out
end Go.Proofs.Ytaaifcpanflejaa
namespace Go.Proofs.Ytaaifcpanflejaa
open Go.RowKit
open Sha Tal
set_option linter.unusedVariables false
set_option linter.unusedSimpArgs false
def StE : El Stt where
  f := Stt.cells
  k := 37
  ok := Stt.ok
  len := fun _ h => Stt.len h
  one := fun y v hv => Stt.one y v hv
instance : Inhabited Stt := ⟨Stt.zero⟩
def litB (s : Stt) : Bool := decide (s.ws.xs.length ≤ 100) && decide (s.ps.xs.length ≤ 200)
theorem litB_iff {s : Stt} : litB s = true ↔ s.ws.xs.length ≤ 100 ∧ s.ps.xs.length ≤ 200 := by unfold litB; simp
set_option maxRecDepth 100000 in
set_option maxHeartbeats 2000000 in
theorem light22_any (x : Sl Stt) (w : World) (h : x.At StE w) (hx : ∀ y ∈ x.xs, y.ws.xs.length ≤ maxLen ∧ y.ps.xs.length ≤ maxLen) : Calls Try.prog 9 #[x.val] w fun e w' => e = .returned (.bool (x.xs.all litB)) ∧ Below w.heap.size w w' := by
  obtain ⟨zc, hzl, hzr⟩ : ∃ z : List Value, z.length = 37 ∧ (∀ w : World, (zeroValue 30).run Try.prog w = .ok (.agg z.toArray) w) := ⟨_, Stt.len Stt.zero_ok, zeroS0⟩
  obtain ⟨a, cap, xs⟩ := x
  have hm := h.1
  unfold maxLen at hm hx
  unfold Sl.val
  simp only at hm hx ⊢
  obtain ⟨g, hg⟩ : ∃ g, Hid (xs.all litB = g) := ⟨_, hide rfl⟩
  rw [hg.out]
  go_enter Try.func9, Try.ntmps9
  go_wp2_with fail
  go_loopw [7] (fun iv wr => ∃ k : Nat, k ≤ xs.length ∧ iv = .int .i64 (k : Int) ∧ Hid (Below w.heap.size w wr ∧ (xs.take k).all litB = true)) (fun iv _ => xs.length - (intOf iv).toNat)
  case atStart => exact ⟨0, by omega, rfl, hide ⟨Below.refl _ _, by simp⟩⟩
  case round =>
    obtain ⟨k, hk, rfl, HB⟩ := hrel
    by_cases hlt : k < xs.length
    · have k1 : (k : Int) < xs.length := by omega
      obtain ⟨b, off, hab, hb, hre⟩ := RowsAt.elem (h.below HB.out.1) k hlt
      have hab : a = some ⟨b, off, none⟩ := hab
      have hre : wr.rangeAt b (off + k * 37) (Stt.cells xs[k]) := hre
      have okx : Stt.ok xs[k] := h.2.1 _ (List.getElem_mem hlt)
      have lx := hx xs[k] (List.getElem_mem hlt)
      have HT : Hid ((xs.take (k + 1)).all litB = litB xs[k]) := hide (by
        rw [List.take_succ_eq_append_getElem hlt, List.all_append, HB.out.2]
        simp)
      have HF : Hid (litB xs[k] = false → g = false) := hide (fun e => by
        rw [← hg.out, ← Bool.not_eq_true, List.all_eq_true]
        exact fun q => by have := q _ (List.getElem_mem hlt); rw [e] at this; cases this)
      obtain ⟨y, hy⟩ : ∃ y, Hid (xs[k] = y) := ⟨_, hide rfl⟩
      rw [hy.out] at hre okx lx HT HF
      clear hy
      have hql : y.cells.length = 37 := Stt.len okx
      have hq1 := Stt.one y
      have hiq : (Try.prog.info? 30).map (·.size) = some y.cells.length := by rw [hql]; exact iszSt
      obtain ⟨q, hq⟩ : ∃ q, Hid (y.cells = q) := ⟨_, hide rfl⟩
      rw [hq.out] at hre hql hq1 hiq
      rw [hab]
      go_upto_region 3 with fail
      try simp only [Act.put]
      refine pl_begin ?_
      refine pl_take (d := some 9) (v := ?_) (by rfl) ?_ rfl ?_
      rotate_left
      · go_simp
        try with_reducible rfl
      simp only [Act.put, List.setIfInBounds_toArray, List.set_cons_zero, List.set_cons_succ]
      refine pl_take (d := some 10) (v := .agg q.toArray) (by rfl) (ex_mid rfl rfl hre Try.underlying30 rfl hiq) rfl ?_
      simp only [Act.put, List.setIfInBounds_toArray, List.set_cons_zero, List.set_cons_succ]
      refine pl_run (d := some 4) (v := .pointer (some ⟨wr.heap.size, 0, none⟩)) (w' := wr.alloc (.cells zc.toArray 30)) (by rfl) (ex_alloc rfl (hzr _)) rfl ?_
      simp only [Act.put, List.setIfInBounds_toArray, List.set_cons_zero, List.set_cons_succ]
      refine pl_store (w' := (wr.alloc (.cells zc.toArray 30)).setCells wr.heap.size 0 q) (by rfl) (ex_put (cs := q.toArray) rfl rfl rfl (there_newN _ _ _ (by simp [hzl, hql])) (by simpa using hiq) (all_one hq1)) rfl ?_
      refine pl_nil ?_
      obtain ⟨r5, hF2, hF3, -⟩ := fresh_store wr zc.toArray 30 q (by simp [hzl, hql])
      have HBB := hide (HB.out.1.trans (hF2.mono HB.out.1.size))
      obtain ⟨X, hX⟩ : ∃ X, wr.heap.size = X := ⟨_, rfl⟩
      rw [hX] at r5 HBB
      simp only [hX]
      obtain ⟨w5, hw5⟩ : ∃ W, (wr.alloc (.cells zc.toArray 30)).setCells X 0 q = W := ⟨_, rfl⟩
      rw [hw5] at r5 HBB ⊢
      rw [← hq.out] at r5
      have rp := st_parts okx r5
      have r35 := rp.ws
      have r36 := rp.ps
      clear rp r5 hF2 hF3 hw5 hX hre hql hq1 hiq hq HB hab hb
      obtain ⟨⟨wa, wc, wx⟩, hws⟩ : ∃ s, y.ws = s := ⟨_, rfl⟩
      obtain ⟨⟨pa, pc, px⟩, hps⟩ : ∃ s, y.ps = s := ⟨_, rfl⟩
      have hlb : litB y = (decide (wx.length ≤ 100) && decide (px.length ≤ 200)) := by unfold litB; rw [hws, hps]
      rw [hlb] at HT HF
      rw [hws] at r35
      rw [hps] at r36
      rw [hws, hps] at lx
      simp only [Sl.val] at r35 r36 lx
      clear hlb hws hps okx
      obtain ⟨wn, hwn⟩ : ∃ n, wx.length = n := ⟨_, rfl⟩
      obtain ⟨pn, hpn⟩ : ∃ n, px.length = n := ⟨_, rfl⟩
      rw [hwn] at HT HF r35 lx
      rw [hpn] at HT HF r36 lx
      clear hwn hpn
      go_upto_region 4 with fail
      by_cases l1 : wn ≤ 100
      rotate_left
      · have HA : Hid (g = false) := hide (HF.out (by simp [l1]))
        have l2 : (100 : Int) < wn := by omega
        clear HT HF l1
        try simp only [Act.put]
        refine pl_begin ?_
        refine pl_take (d := some 11) (v := ?_) (by rfl) ?_ rfl ?_
        rotate_left
        · go_simp
          try with_reducible rfl
        simp only [Act.put, List.setIfInBounds_toArray, List.set_cons_zero, List.set_cons_succ]
        refine pl_take (d := some 12) (v := .slice wa wn wc) (by rfl) (pl_one rfl rfl r35 Try.underlying27 rfl) rfl ?_
        simp only [Act.put, List.setIfInBounds_toArray, List.set_cons_zero, List.set_cons_succ]
        refine pl_take (d := some 13) (v := ?_) (by rfl) ?_ rfl ?_
        rotate_left
        · go_simp
          try with_reducible rfl
        simp only [Act.put, List.setIfInBounds_toArray, List.set_cons_zero, List.set_cons_succ]
        refine pl_take (d := some 14) (v := .bool true) (by rfl) (by go_simp <;> (try simp [*])) rfl ?_
        simp only [Act.put, List.setIfInBounds_toArray, List.set_cons_zero, List.set_cons_succ]
        refine pl_take (d := some 15) (v := ?_) (by rfl) ?_ rfl ?_
        rotate_left
        · go_simp
          try with_reducible rfl
        simp only [Act.put, List.setIfInBounds_toArray, List.set_cons_zero, List.set_cons_succ]
        refine pl_skip (d := some 16) (by rfl) rfl ?_
        simp only [Act.put, List.setIfInBounds_toArray, List.set_cons_zero, List.set_cons_succ]
        refine pl_skip (d := some 17) (by rfl) rfl ?_
        simp only [Act.put, List.setIfInBounds_toArray, List.set_cons_zero, List.set_cons_succ]
        refine pl_skip (d := some 18) (by rfl) rfl ?_
        simp only [Act.put, List.setIfInBounds_toArray, List.set_cons_zero, List.set_cons_succ]
        refine pl_skip (d := some 19) (by rfl) rfl ?_
        simp only [Act.put, List.setIfInBounds_toArray, List.set_cons_zero, List.set_cons_succ]
        refine pl_take (d := some 20) (v := ?_) (by rfl) ?_ rfl ?_
        rotate_left
        · go_simp
          try with_reducible rfl
        simp only [Act.put, List.setIfInBounds_toArray, List.set_cons_zero, List.set_cons_succ]
        refine pl_nil ?_
        clear r35 r36
        go_wp2_with fail
        go_ret
        exact ⟨by rw [HA.out]; rfl, HBB.out⟩
      · have l2 : ¬ (100 : Int) < wn := by omega
        by_cases l3 : pn ≤ 200
        rotate_left
        · have HA : Hid (g = false) := hide (HF.out (by simp [l3]))
          have l4 : (200 : Int) < pn := by omega
          clear HT HF l1 l3
          try simp only [Act.put]
          refine pl_begin ?_
          refine pl_take (d := some 11) (v := ?_) (by rfl) ?_ rfl ?_
          rotate_left
          · go_simp
            try with_reducible rfl
          simp only [Act.put, List.setIfInBounds_toArray, List.set_cons_zero, List.set_cons_succ]
          refine pl_take (d := some 12) (v := .slice wa wn wc) (by rfl) (pl_one rfl rfl r35 Try.underlying27 rfl) rfl ?_
          simp only [Act.put, List.setIfInBounds_toArray, List.set_cons_zero, List.set_cons_succ]
          refine pl_take (d := some 13) (v := ?_) (by rfl) ?_ rfl ?_
          rotate_left
          · go_simp
            try with_reducible rfl
          simp only [Act.put, List.setIfInBounds_toArray, List.set_cons_zero, List.set_cons_succ]
          refine pl_take (d := some 14) (v := .bool false) (by rfl) (by go_simp <;> (try simp [*])) rfl ?_
          simp only [Act.put, List.setIfInBounds_toArray, List.set_cons_zero, List.set_cons_succ]
          refine pl_take (d := some 15) (v := ?_) (by rfl) ?_ rfl ?_
          rotate_left
          · go_simp
            try with_reducible rfl
          simp only [Act.put, List.setIfInBounds_toArray, List.set_cons_zero, List.set_cons_succ]
          refine pl_take (d := some 16) (v := ?_) (by rfl) ?_ rfl ?_
          rotate_left
          · go_simp
            try with_reducible rfl
          simp only [Act.put, List.setIfInBounds_toArray, List.set_cons_zero, List.set_cons_succ]
          refine pl_take (d := some 17) (v := .slice pa pn pc) (by rfl) (pl_one rfl rfl r36 Try.underlying28 rfl) rfl ?_
          simp only [Act.put, List.setIfInBounds_toArray, List.set_cons_zero, List.set_cons_succ]
          refine pl_take (d := some 18) (v := ?_) (by rfl) ?_ rfl ?_
          rotate_left
          · go_simp
            try with_reducible rfl
          simp only [Act.put, List.setIfInBounds_toArray, List.set_cons_zero, List.set_cons_succ]
          refine pl_take (d := some 19) (v := .bool true) (by rfl) (by go_simp <;> (try simp [*])) rfl ?_
          simp only [Act.put, List.setIfInBounds_toArray, List.set_cons_zero, List.set_cons_succ]
          refine pl_take (d := some 20) (v := ?_) (by rfl) ?_ rfl ?_
          rotate_left
          · go_simp
            try with_reducible rfl
          simp only [Act.put, List.setIfInBounds_toArray, List.set_cons_zero, List.set_cons_succ]
          refine pl_nil ?_
          clear r35 r36
          go_wp2_with fail
          go_ret
          exact ⟨by rw [HA.out]; rfl, HBB.out⟩
        · have l4 : ¬ (200 : Int) < pn := by omega
          have HC : Hid (Below w.heap.size w w5 ∧ (xs.take (k + 1)).all litB = true) := hide ⟨HBB.out, by rw [HT.out]; simp [l1, l3]⟩
          clear HT HF l1 l3 HBB
          try simp only [Act.put]
          refine pl_begin ?_
          refine pl_take (d := some 11) (v := ?_) (by rfl) ?_ rfl ?_
          rotate_left
          · go_simp
            try with_reducible rfl
          simp only [Act.put, List.setIfInBounds_toArray, List.set_cons_zero, List.set_cons_succ]
          refine pl_take (d := some 12) (v := .slice wa wn wc) (by rfl) (pl_one rfl rfl r35 Try.underlying27 rfl) rfl ?_
          simp only [Act.put, List.setIfInBounds_toArray, List.set_cons_zero, List.set_cons_succ]
          refine pl_take (d := some 13) (v := ?_) (by rfl) ?_ rfl ?_
          rotate_left
          · go_simp
            try with_reducible rfl
          simp only [Act.put, List.setIfInBounds_toArray, List.set_cons_zero, List.set_cons_succ]
          refine pl_take (d := some 14) (v := .bool false) (by rfl) (by go_simp <;> (try simp [*])) rfl ?_
          simp only [Act.put, List.setIfInBounds_toArray, List.set_cons_zero, List.set_cons_succ]
          refine pl_take (d := some 15) (v := ?_) (by rfl) ?_ rfl ?_
          rotate_left
          · go_simp
            try with_reducible rfl
          simp only [Act.put, List.setIfInBounds_toArray, List.set_cons_zero, List.set_cons_succ]
          refine pl_take (d := some 16) (v := ?_) (by rfl) ?_ rfl ?_
          rotate_left
          · go_simp
            try with_reducible rfl
          simp only [Act.put, List.setIfInBounds_toArray, List.set_cons_zero, List.set_cons_succ]
          refine pl_take (d := some 17) (v := .slice pa pn pc) (by rfl) (pl_one rfl rfl r36 Try.underlying28 rfl) rfl ?_
          simp only [Act.put, List.setIfInBounds_toArray, List.set_cons_zero, List.set_cons_succ]
          refine pl_take (d := some 18) (v := ?_) (by rfl) ?_ rfl ?_
          rotate_left
          · go_simp
            try with_reducible rfl
          simp only [Act.put, List.setIfInBounds_toArray, List.set_cons_zero, List.set_cons_succ]
          refine pl_take (d := some 19) (v := .bool false) (by rfl) (by go_simp <;> (try simp [*])) rfl ?_
          simp only [Act.put, List.setIfInBounds_toArray, List.set_cons_zero, List.set_cons_succ]
          refine pl_take (d := some 20) (v := ?_) (by rfl) ?_ rfl ?_
          rotate_left
          · go_simp
            try with_reducible rfl
          simp only [Act.put, List.setIfInBounds_toArray, List.set_cons_zero, List.set_cons_succ]
          refine pl_nil ?_
          clear r35 r36
          go_wp2_with fail
          go_roundw
          case rel => exact ⟨k + 1, by omega, by go_num, HC⟩
          case measure => simp [intOf]; omega
    · obtain rfl : k = xs.length := by omega
      have k1 : ¬ ((xs.length : Int) < xs.length) := by omega
      have HA : Hid (g = true) := hide (by rw [← hg.out]; have := HB.out.2; rwa [List.take_length] at this)
      have HBB := hide HB.out.1
      clear HB
      go_wp2_with fail
      go_ret
      exact ⟨by rw [HA.out]; rfl, HBB.out⟩
end Go.Proofs.Ytaaifcpanflejaa
namespace Go.Proofs.Ytaaifcpanflejaa
open Go.RowKit
open Sha Tal
set_option linter.unusedVariables false
set_option linter.unusedSimpArgs false
theorem results_cell {fn : Func} {p : Tmp} {ty : TypeId} (h : fn.results = #[.cell p ty]) (tmps : Array Value) (P : Program) (w : World) {a : Addr} {v : Value} (ha : tmps.getD p undef = .pointer (some a)) (hv : (loadVar ty a).run P w = .ok v w) : (results fn tmps).run P w = .ok v w := by
  have e : (results fn tmps).run P w = ((asAddr (tmps.getD p undef)).run P w).andThen fun a w₁ => (loadVar ty a).run P w₁ := by
    simp only [results, h]
    simp [Sem.run_bind, Result.andThen]
  rw [e, ha]
  simp [asAddr, hv, Result.andThen]
theorem mul32_12 (w : World) : Calls Try.prog 67 #[.int .u32 1, .int .u32 2] w fun e w' => e = .returned (.tuple #[.int .u32 0, .int .u32 2]) ∧ w' = w := by
  go_enter Try.func67, Try.ntmps67
  go_wp2
  go_ret2
  exact ⟨rfl, rfl⟩
theorem mul64_12 (w : World) : Calls Try.prog 68 #[.int .u64 1, .int .u64 2] w fun e w' => e = .returned (.tuple #[.int .u64 0, .int .u64 2]) ∧ w' = w := by
  go_enter Try.func68, Try.ntmps68
  go_wp2
  go_ret2
  exact ⟨rfl, rfl⟩
theorem mul_12 (w : World) : Calls Try.prog 54 #[.int .u64 1, .int .u64 2] w fun e w' => e = .returned (.tuple #[.int .u64 0, .int .u64 2]) ∧ w' = w := by
  have c1 := fun w0 => mul64_12 w0
  have c2 := fun w0 => mul32_12 w0
  go_enter Try.func54, Try.ntmps54
  go_wp2_with fail
  refine (c1 _).mono ?_
  rintro e w1 ⟨rfl, hx⟩
  obtain rfl := hx
  go_wp2
  go_ret2
  exact ⟨rfl, rfl⟩
def cfg0 : Ld.Cfg := ⟨4, 2, 4, 4, 2, 2, 2, 12, 1, 100⟩
theorem zeroCf (w : World) : (zeroValue 23).run Try.prog w = .ok (.agg (cfgL ⟨0, 0, 0, 0, 0, 0, 0, 0, 0, 0⟩).toArray) w := by kernel_rfl
theorem build_c0 (w : World) : (Instr.build 23 #[(0, .int .i64 4), (1, .int .i64 2), (2, .int .i64 4), (3, .int .i64 4), (4, .int .i64 2), (5, .int .i64 2), (6, .int .i64 2), (7, .int .i64 12), (8, .int .i64 1), (9, .int .i64 100)]).run Try.prog w = .ok (.agg (cfgL cfg0).toArray) w := by kernel_rfl
theorem plain_val (w : World) : Calls Try.prog 12 #[] w fun e w' => e = .returned (.agg (cfgL cfg0).toArray) ∧ Below w.heap.size w w' := by
  have hzr := zeroCf
  have hbn := build_c0
  have hl0 : (cfgL ⟨0, 0, 0, 0, 0, 0, 0, 0, 0, 0⟩).length = 10 := rfl
  have hl1 : (cfgL cfg0).length = 10 := rfl
  have iu := iszCf cfg0
  have h1 : ∀ v ∈ cfgL cfg0, v.oneCell' = true := by decide
  generalize cfgL cfg0 = u at *
  generalize cfgL ⟨0, 0, 0, 0, 0, 0, 0, 0, 0, 0⟩ = z at *
  obtain ⟨r5, hF2, hF3, hT⟩ := fresh_store w z.toArray 23 u (by simp [hl0, hl1])
  have hth := there_newN w z.toArray 23 (n := 10) (by simp [hl0])
  go_enter Try.func12, Try.ntmps12
  go_upto_region 0 with fail
  try simp only [Act.put]
  refine pl_begin ?_
  refine pl_run (d := some 0) (v := .pointer (some ⟨w.heap.size, 0, none⟩)) (w' := w.alloc (.cells z.toArray 23)) (by rfl) (ex_alloc rfl (hzr _)) rfl ?_
  simp only [Act.put, List.setIfInBounds_toArray, List.set_cons_zero, List.set_cons_succ]
  refine pl_nil ?_
  go_upto_region 1 with fail
  try simp only [Act.put]
  refine pl_begin ?_
  refine pl_take (d := some 1) (v := .agg u.toArray) (by rfl) (ex_build (parts := [(0, .const (.int .i64 4)), (1, .const (.int .i64 2)), (2, .const (.int .i64 4)), (3, .const (.int .i64 4)), (4, .const (.int .i64 2)), (5, .const (.int .i64 2)), (6, .const (.int .i64 2)), (7, .const (.int .i64 12)), (8, .const (.int .i64 1)), (9, .const (.int .i64 100))]) rfl rfl (hbn _)) rfl ?_
  simp only [Act.put, List.setIfInBounds_toArray, List.set_cons_zero, List.set_cons_succ]
  refine pl_store (w' := (w.alloc (.cells z.toArray 23)).setCells w.heap.size 0 u) (by rfl) (ex_put (cs := u.toArray) rfl rfl rfl (by simpa [hl1] using hth) (by simpa using iu) (all_one h1)) rfl ?_
  refine pl_nil ?_
  have hrs := run_loadVar_mid (P := Try.prog) _ w.heap.size 0 23 u _ r5 Try.underlying23 rfl iu
  go_wp2_with fail
  refine bodyPost_ret (results_cell rfl _ _ _ rfl hrs) rfl ?_
  exact ⟨rfl, hF2⟩
theorem wnew_val (w : World) : Calls Try.prog 33 #[] w fun e w' => e = .returned (.agg (Wd.cells ⟨1, 0⟩).toArray) ∧ Below w.heap.size w w' := by
  go_enter Try.func33, Try.ntmps33
  go_wp2_with fail
  have hrs := run_loadVar_mid (P := Try.prog) _ w.heap.size 0 57 (Wd.cells ⟨1, 0⟩) _ (range_new w #[.int .i64 1, .int .u64 0] 57) Try.underlying57 rfl iszW
  exact bodyPost_ret (v := .agg (Wd.cells ⟨1, 0⟩).toArray) (results_cell rfl _ _ _ rfl hrs) rfl ⟨rfl, (Below.refl _ _).alloc (Nat.le_refl _) _⟩
theorem run_copy_wide {P : Program} (w : World) (dT sT ty elem : TypeId) (b o dLen dCap : Nat) (a : Addr) (sLen sCap k m : Nat) (cs : List Value)
    (hu : P.underlying dT = some (.slice elem)) (hs : (P.info? elem).map (·.size) = some k) (hm : Nat.min sLen dLen = m) (hn : cs.length = m * k)
    (hsrc : ∀ j v, cs[j]? = some v → w.cell? (a.add j) = some v) (ht : w.there b o cs.length) (h1 : ∀ v ∈ cs, v.oneCell' = true) :
    (Builtin.copy_ #[dT, sT] ty #[.slice (some ⟨b, o, none⟩) dLen dCap, .slice (some a) sLen sCap]).run P w = .ok (goInt m) (w.setCells b o cs) := by
  have hl := run_loadCells_list (P := P) w a cs hsrc
  have hst := run_storeCells_cells (P := P) b o cs 0 w (by simpa using fun j hj => (ht j hj).1) (by simpa using fun j hj => (ht j hj).2) h1
  cases hq : P.info? elem with
  | none => simp [hq] at hs
  | some i =>
    have hi : i.size = k := by simpa [hq] using hs
    rw [hn] at hl
    simp [Builtin.copy_, run_underlying hu, Builtin.lenOf, Builtin.firstCells, sizeOf, typeInfo, hq, hi, hm, hl, hst]
theorem mk2w (w : World) : (Instr.makeSlice 27 (.int .i64 2) (.int .i64 2)).run Try.prog w = .ok (.slice (some ⟨w.heap.size, 0, none⟩) 2 2) (w.alloc (.cells ([.int .i64 0, .int .u64 0, .int .i64 0, .int .u64 0] : List Value).toArray 57)) := by kernel_rfl
theorem mk4i (w : World) : (Instr.makeSlice 28 (.int .i64 4) (.int .i64 4)).run Try.prog w = .ok (.slice (some ⟨w.heap.size, 0, none⟩) 4 4) (w.alloc (.cells ([.int .i64 0, .int .i64 0, .int .i64 0, .int .i64 0] : List Value).toArray 3)) := by kernel_rfl
theorem ex_mkS {P : Program} {o : Oper} {a : Act} {w w' : World} {t : TypeId} {x y : Operand} {u v r : Value} (ho : o.op = .makeSlice t x y) (hx : a.eval x = u) (hy : a.eval y = v) (hr : (Instr.makeSlice t u v).run P w = .ok r w') : (execOp a.eval o).run P w = .ok (.value r) w' := by
  unfold execOp
  simp [ho, hx, hy, hr]
def w0L : List Value := Wd.cells ⟨1, 0⟩
set_option maxRecDepth 100000 in
set_option maxHeartbeats 1000000 in
theorem repeat_val (b cap : Nat) (w : World) (hr : w.rangeAt b 0 w0L) (hb : b < w.heap.size) : Calls Try.prog 32 #[.slice (some ⟨b, 0, none⟩) 1 cap, .int .i64 2] w fun e w' => ∃ g, e = .returned (.slice (some ⟨g, 0, none⟩) 2 2) ∧ w.heap.size ≤ g ∧ g < w'.heap.size ∧ w'.rangeAt g 0 (w0L ++ w0L) ∧ Below w.heap.size w w' := by
  have hl : w0L.length = 2 := rfl
  have h1 : ∀ v ∈ w0L, v.oneCell' = true := by decide
  have hmk := mk2w w
  obtain ⟨zz, hzz, hzl⟩ : ∃ z : List Value, z = [.int .i64 0, .int .u64 0, .int .i64 0, .int .u64 0] ∧ z.length = 4 := ⟨_, rfl, rfl⟩
  rw [← hzz] at hmk
  clear hzz
  have hth := there_newN w zz.toArray 57 (n := 4) (by simp [hzl])
  have hB1 : Below w.heap.size w (w.alloc (.cells zz.toArray 57)) := (Below.refl _ _).alloc (Nat.le_refl _) _
  have hr1 := range_below hr hB1 hb
  have hs1 : w.heap.size < (w.alloc (.cells zz.toArray 57)).heap.size := by simp
  generalize w0L = u at *
  obtain ⟨G, hG⟩ : ∃ x, w.heap.size = x := ⟨_, rfl⟩
  go_enter Try.func32, Try.ntmps32
  go_upto_region 1 with fail
  try simp only [Act.put]
  refine pl_begin ?_
  refine pl_take (d := some 9) (v := ?_) (by rfl) ?_ rfl ?_
  rotate_left
  · go_simp
    try with_reducible rfl
  simp only [Act.put, List.setIfInBounds_toArray, List.set_cons_zero, List.set_cons_succ]
  refine pl_take (d := some 10) (v := .bool false) (by rfl) (by go_simp) rfl ?_
  simp only [Act.put, List.setIfInBounds_toArray, List.set_cons_zero, List.set_cons_succ]
  refine pl_nil ?_
  go_upto_region 3 with fail
  try simp only [Act.put]
  refine pl_begin ?_
  refine pl_take (d := some 13) (v := ?_) (by rfl) ?_ rfl ?_
  rotate_left
  · go_simp
    try with_reducible rfl
  simp only [Act.put, List.setIfInBounds_toArray, List.set_cons_zero, List.set_cons_succ]
  refine pl_take (d := some 14) (v := ?_) (by rfl) ?_ rfl ?_
  rotate_left
  · go_simp
    try with_reducible rfl
  simp only [Act.put, List.setIfInBounds_toArray, List.set_cons_zero, List.set_cons_succ]
  refine pl_take (d := some 15) (v := ?_) (by rfl) ?_ rfl ?_
  rotate_left
  · go_simp
    try with_reducible rfl
  simp only [Act.put, List.setIfInBounds_toArray, List.set_cons_zero, List.set_cons_succ]
  refine pl_take (d := some 16) (v := ?_) (by rfl) ?_ rfl ?_
  rotate_left
  · go_simp
    try with_reducible rfl
  simp only [Act.put, List.setIfInBounds_toArray, List.set_cons_zero, List.set_cons_succ]
  refine pl_take (d := some 17) (v := ?_) (by rfl) ?_ rfl ?_
  rotate_left
  · go_simp
    try with_reducible rfl
  simp only [Act.put, List.setIfInBounds_toArray, List.set_cons_zero, List.set_cons_succ]
  refine pl_call (d := some 18) (by rfl) (by go_simp; first | done | exact ⟨rfl, rfl⟩ | with_reducible rfl) rfl ?_
  refine (mul_12 _).mono ?_
  rintro _ w ⟨rfl, hx⟩
  obtain rfl := hx.symm
  clear hx
  refine ⟨_, rfl, ?_⟩
  simp only [Act.put, List.setIfInBounds_toArray, List.set_cons_zero, List.set_cons_succ]
  refine pl_take (d := some 12) (v := ?_) (by rfl) ?_ rfl ?_
  rotate_left
  · go_simp
    try with_reducible rfl
  simp only [Act.put, List.setIfInBounds_toArray, List.set_cons_zero, List.set_cons_succ]
  refine pl_take (d := some 19) (v := ?_) (by rfl) ?_ rfl ?_
  rotate_left
  · go_simp
    try with_reducible rfl
  simp only [Act.put, List.setIfInBounds_toArray, List.set_cons_zero, List.set_cons_succ]
  refine pl_take (d := some 20) (v := ?_) (by rfl) ?_ rfl ?_
  rotate_left
  · go_simp
    try with_reducible rfl
  simp only [Act.put, List.setIfInBounds_toArray, List.set_cons_zero, List.set_cons_succ]
  refine pl_take (d := some 5) (v := ?_) (by rfl) ?_ rfl ?_
  rotate_left
  · go_simp
    try with_reducible rfl
  simp only [Act.put, List.setIfInBounds_toArray, List.set_cons_zero, List.set_cons_succ]
  refine pl_take (d := some 6) (v := ?_) (by rfl) ?_ rfl ?_
  rotate_left
  · go_simp
    try with_reducible rfl
  simp only [Act.put, List.setIfInBounds_toArray, List.set_cons_zero, List.set_cons_succ]
  refine pl_nil ?_
  go_upto_region 4 with fail
  try simp only [Act.put]
  refine pl_begin ?_
  refine pl_take (d := some 21) (v := ?_) (by rfl) ?_ rfl ?_
  rotate_left
  · go_simp
    try with_reducible rfl
  simp only [Act.put, List.setIfInBounds_toArray, List.set_cons_zero, List.set_cons_succ]
  refine pl_take (d := some 22) (v := .bool false) (by rfl) (by go_simp) rfl ?_
  simp only [Act.put, List.setIfInBounds_toArray, List.set_cons_zero, List.set_cons_succ]
  refine pl_take (d := some 23) (v := ?_) (by rfl) ?_ rfl ?_
  rotate_left
  · go_simp
    try with_reducible rfl
  simp only [Act.put, List.setIfInBounds_toArray, List.set_cons_zero, List.set_cons_succ]
  refine pl_take (d := some 24) (v := ?_) (by rfl) ?_ rfl ?_
  rotate_left
  · go_simp
    try with_reducible rfl
  simp only [Act.put, List.setIfInBounds_toArray, List.set_cons_zero, List.set_cons_succ]
  refine pl_take (d := some 25) (v := .bool false) (by rfl) (by go_simp) rfl ?_
  simp only [Act.put, List.setIfInBounds_toArray, List.set_cons_zero, List.set_cons_succ]
  refine pl_take (d := some 26) (v := ?_) (by rfl) ?_ rfl ?_
  rotate_left
  · go_simp
    try with_reducible rfl
  simp only [Act.put, List.setIfInBounds_toArray, List.set_cons_zero, List.set_cons_succ]
  refine pl_nil ?_
  go_upto_region 6 with fail
  try simp only [Act.put]
  refine pl_begin ?_
  refine pl_take (d := some 28) (v := ?_) (by rfl) ?_ rfl ?_
  rotate_left
  · go_simp
    try with_reducible rfl
  simp only [Act.put, List.setIfInBounds_toArray, List.set_cons_zero, List.set_cons_succ]
  refine pl_take (d := some 29) (v := ?_) (by rfl) ?_ rfl ?_
  rotate_left
  · go_simp
    try with_reducible rfl
  simp only [Act.put, List.setIfInBounds_toArray, List.set_cons_zero, List.set_cons_succ]
  refine pl_run (d := some 30) (v := .slice (some ⟨w.heap.size, 0, none⟩) 2 2) (w' := w.alloc (.cells zz.toArray 57)) (by rfl) (ex_mkS rfl rfl rfl hmk) rfl ?_
  simp only [Act.put, List.setIfInBounds_toArray, List.set_cons_zero, List.set_cons_succ]
  refine pl_take (d := some 7) (v := ?_) (by rfl) ?_ rfl ?_
  rotate_left
  · go_simp
    try with_reducible rfl
  simp only [Act.put, List.setIfInBounds_toArray, List.set_cons_zero, List.set_cons_succ]
  refine pl_nil ?_
  obtain ⟨W1, hW1⟩ : ∃ W, w.alloc (.cells zz.toArray 57) = W := ⟨_, rfl⟩
  rw [hW1] at hB1 hr1 hs1 hth ⊢
  rw [hG] at hth hs1 hB1
  have hcp : (Builtin.copy_ #[27, 27] 3 #[.slice (some ⟨G, 0, none⟩) 2 2, .slice (some ⟨b, 0, none⟩) 1 cap]).run Try.prog W1 = .ok (goInt (1 : Nat)) (W1.setCells G 0 u) :=
    run_copy_wide W1 _ _ _ 57 G 0 2 2 _ 1 cap 2 1 u Try.underlying27 iszW rfl (by rw [hl]) (fun j v hv => by rw [Addr.add_mid]; exact hr1 j v hv) (there_part1 hth (by rw [hl]; decide)) h1
  simp only [hG]
  clear hW1 hmk hr
  go_upto_region 7 with fail
  try simp only [Act.put]
  refine pl_begin ?_
  refine pl_take (d := some 31) (v := ?_) (by rfl) ?_ rfl ?_
  rotate_left
  · go_simp
    try with_reducible rfl
  simp only [Act.put, List.setIfInBounds_toArray, List.set_cons_zero, List.set_cons_succ]
  refine pl_take (d := some 32) (v := ?_) (by rfl) ?_ rfl ?_
  rotate_left
  · go_simp
    try with_reducible rfl
  simp only [Act.put, List.setIfInBounds_toArray, List.set_cons_zero, List.set_cons_succ]
  refine pl_run (d := some 33) (v := goInt (1 : Nat)) (w' := W1.setCells G 0 u) (by rfl) (exec_copy rfl rfl rfl hcp) rfl ?_
  simp only [Act.put, List.setIfInBounds_toArray, List.set_cons_zero, List.set_cons_succ]
  refine pl_take (d := some 8) (v := ?_) (by rfl) ?_ rfl ?_
  rotate_left
  · go_simp
    try with_reducible rfl
  simp only [Act.put, List.setIfInBounds_toArray, List.set_cons_zero, List.set_cons_succ]
  refine pl_nil ?_
  have hr2 : (W1.setCells G 0 u).rangeAt G 0 u := World.rangeAt_setCells_same W1 G 0 u (there_part1 hth (by rw [hl]; decide))
  have hth2 : (W1.setCells G 0 u).there G 0 4 := World.there_setCells hth _ _ _
  have hB2 : Below G w (W1.setCells G 0 u) := below_sets (Nat.le_refl _) _ _ _ hB1
  have hs2 : G < (W1.setCells G 0 u).heap.size := by rw [size_sets]; exact hs1
  obtain ⟨W2, hW2⟩ : ∃ W, W1.setCells G 0 u = W := ⟨_, rfl⟩
  rw [hW2] at hr2 hth2 hB2 hs2 ⊢
  clear hW2 hcp hr1 hth hB1 hs1
  have HI : Hid (W2.rangeAt G 0 u ∧ W2.there G 0 4 ∧ Below G w W2 ∧ G < W2.heap.size) := hide ⟨hr2, hth2, hB2, hs2⟩
  clear hr2 hth2 hB2 hs2
  go_wp2_with fail
  go_loopw [8] (fun iv wr => (iv = .int .i64 1 ∧ Hid (wr.rangeAt G 0 u ∧ wr.there G 0 4 ∧ Below G w wr ∧ G < wr.heap.size)) ∨ (iv = .int .i64 2 ∧ Hid (wr.rangeAt G 0 (u ++ u) ∧ Below G w wr ∧ G < wr.heap.size))) (fun iv _ => 2 - (intOf iv).toNat)
  case atStart => exact .inl ⟨rfl, HI⟩
  case round =>
    clear HI
    rcases hrel with ⟨rfl, HI⟩ | ⟨rfl, HI⟩
    · obtain ⟨hr3, hth3, hB3, hs3⟩ := HI.out
      clear HI
      go_upto_region 9 with fail
      have r8 : wr.drew.rangeAt G 0 u := (World.rangeAt_drew _ _ _ _).2 hr3
      have t8 : wr.drew.there G 0 4 := hth3
      have b8 : Below G w wr.drew := hB3.drew
      have s8 : G < wr.drew.heap.size := hs3
      obtain ⟨w8, hw8⟩ : ∃ W, wr.drew = W := ⟨_, rfl⟩
      refine hs_begin (S := (fun _ : World => True)) 10 rfl (by kernel_rfl) ?_
      rw [hw8] at r8 t8 b8 s8 ⊢
      clear hw8 hr3 hth3 hB3 hs3
      have hS : (fun _ : World => True) w8 := trivial
      have hcp : (Builtin.copy_ #[27, 27] 3 #[.slice (some ⟨G, 2, none⟩) 1 1, .slice (some ⟨G, 0, none⟩) 1 2]).run Try.prog w8 = .ok (goInt (1 : Nat)) (w8.setCells G 2 u) :=
        run_copy_wide w8 _ _ _ 57 G 2 1 1 _ 1 2 2 1 u Try.underlying27 iszW rfl (by rw [hl]) (fun j v hv => by rw [Addr.add_mid]; exact r8 j v hv) (there_part1 t8 (by rw [hl]; decide)) h1
      refine hs_take (i := 0) (d := some 38) (v := ?_) rfl (by kernel_rfl) (by kernel_rfl) (by kernel_rfl) (by rfl) ?_ hS rfl ?_
      rotate_left
      · intro w' hw
        go_simp
        try with_reducible rfl
      simp only [Act.put, List.setIfInBounds_toArray, List.set_cons_zero, List.set_cons_succ]
      refine hs_take (i := 1) (d := some 39) (v := ?_) rfl (by kernel_rfl) (by kernel_rfl) (by kernel_rfl) (by rfl) ?_ hS rfl ?_
      rotate_left
      · intro w' hw
        go_simp
        try with_reducible rfl
      simp only [Act.put, List.setIfInBounds_toArray, List.set_cons_zero, List.set_cons_succ]
      refine hs_take (i := 2) (d := some 40) (v := ?_) rfl (by kernel_rfl) (by kernel_rfl) (by kernel_rfl) (by rfl) ?_ hS rfl ?_
      rotate_left
      · intro w' hw
        go_simp
        try with_reducible rfl
      simp only [Act.put, List.setIfInBounds_toArray, List.set_cons_zero, List.set_cons_succ]
      refine hs_take (i := 3) (d := some 41) (v := .slice (some ⟨G, 2, none⟩) 1 1) rfl (by kernel_rfl) (by kernel_rfl) (by kernel_rfl) (by rfl) (fun w' hw => by go_simp) hS rfl ?_
      simp only [Act.put, List.setIfInBounds_toArray, List.set_cons_zero, List.set_cons_succ]
      refine hs_take (i := 4) (d := some 42) (v := ?_) rfl (by kernel_rfl) (by kernel_rfl) (by kernel_rfl) (by rfl) ?_ hS rfl ?_
      rotate_left
      · intro w' hw
        go_simp
        try with_reducible rfl
      simp only [Act.put, List.setIfInBounds_toArray, List.set_cons_zero, List.set_cons_succ]
      refine hs_take (i := 5) (d := some 43) (v := ?_) rfl (by kernel_rfl) (by kernel_rfl) (by kernel_rfl) (by rfl) ?_ hS rfl ?_
      rotate_left
      · intro w' hw
        go_simp
        try with_reducible rfl
      simp only [Act.put, List.setIfInBounds_toArray, List.set_cons_zero, List.set_cons_succ]
      refine hs_take (i := 6) (d := some 44) (v := .slice (some ⟨G, 0, none⟩) 1 2) rfl (by kernel_rfl) (by kernel_rfl) (by kernel_rfl) (by rfl) (fun w' hw => by go_simp) hS rfl ?_
      simp only [Act.put, List.setIfInBounds_toArray, List.set_cons_zero, List.set_cons_succ]
      refine hs_run (i := 7) (d := some 45) (v := goInt (1 : Nat)) (w' := w8.setCells G 2 u) rfl (by kernel_rfl) (by rfl) (exec_copy rfl rfl rfl hcp) rfl trivial ?_
      simp only [Act.put, List.setIfInBounds_toArray, List.set_cons_zero, List.set_cons_succ]
      have hS : (fun _ : World => True) (w8.setCells G 2 u) := trivial
      refine hs_take (i := 8) (d := some 46) (v := ?_) rfl (by kernel_rfl) (by kernel_rfl) (by kernel_rfl) (by rfl) ?_ hS rfl ?_
      rotate_left
      · intro w' hw
        go_simp
        try with_reducible rfl
      simp only [Act.put, List.setIfInBounds_toArray, List.set_cons_zero, List.set_cons_succ]
      refine hs_take (i := 9) (d := some 8) (v := ?_) rfl (by kernel_rfl) (by kernel_rfl) (by kernel_rfl) (by rfl) ?_ hS rfl ?_
      rotate_left
      · intro w' hw
        go_simp
        try with_reducible rfl
      simp only [Act.put, List.setIfInBounds_toArray, List.set_cons_zero, List.set_cons_succ]
      refine hs_done (by kernel_rfl) ?_
      have HE : Hid ((w8.setCells G 2 u).rangeAt G 0 (u ++ u) ∧ Below G w (w8.setCells G 2 u) ∧ G < (w8.setCells G 2 u).heap.size) := hide ⟨range_join (World.rangeAt_setCells_apart r8 _ _ _ (.inr (.inl (by rw [hl]; decide)))) (by rw [hl]; exact World.rangeAt_setCells_same _ _ _ _ (there_part1 t8 (by rw [hl]; decide))), below_sets (Nat.le_refl _) _ _ _ b8, by rw [size_sets]; exact s8⟩
      clear r8 t8 b8 s8 hcp hS
      go_wp2_with fail
      go_roundw
      case rel => exact .inr ⟨by go_num, HE⟩
      case measure => first | (simp [intOf]; decide) | simp [intOf]
    · have HH := hide HI.out
      clear HI
      go_wp2_with fail
      go_ret
      obtain ⟨h2, h3, h4⟩ := HH.out
      exact ⟨G, rfl, by omega, h4, h2, by rw [hG]; exact h3⟩
end Go.Proofs.Ytaaifcpanflejaa
namespace Go.Proofs.Ytaaifcpanflejaa
open Go.RowKit
open Sha Tal
set_option linter.unusedVariables false
set_option linter.unusedSimpArgs false
def sp0 : Sp := ⟨1, 1, 0, zeros32, [⟨1, 0⟩, ⟨1, 0⟩], [0, 0, 0, 0]⟩
def zs4 : List Value := [.int .i64 0, .int .i64 0, .int .i64 0, .int .i64 0]
theorem build_f (a b : Nat) (w : World) : (Instr.build 30 #[(0, .int .i64 1), (1, .int .i64 1), (4, .slice (some ⟨a, 0, none⟩) 2 2), (5, .slice (some ⟨b, 0, none⟩) 4 4)]).run Try.prog w = .ok (.agg (Stt.cells ⟨1, 1, 0, zeros32, ⟨some ⟨a, 0, none⟩, 2, [⟨1, 0⟩, ⟨1, 0⟩]⟩, ⟨some ⟨b, 0, none⟩, 4, [0, 0, 0, 0]⟩⟩).toArray) w := by kernel_rfl
theorem good_c0 : Ld.errC cfg0 = 0 := by decide
theorem x0_ok (a b : Nat) : Stt.ok ⟨1, 1, 0, zeros32, ⟨some ⟨a, 0, none⟩, 2, [⟨1, 0⟩, ⟨1, 0⟩]⟩, ⟨some ⟨b, 0, none⟩, 4, [0, 0, 0, 0]⟩⟩ := ⟨by simp, by simp, by simp, by simp, by simp, by simp, Stt.zero_ok.dl, Stt.zero_ok.db⟩
theorem x0_at {a b : Nat} {w : World} (ha : a < w.heap.size) (hb : b < w.heap.size) (h1 : w.rangeAt a 0 (w0L ++ w0L)) (h2 : w.rangeAt b 0 zs4) : Stt.At ⟨1, 1, 0, zeros32, ⟨some ⟨a, 0, none⟩, 2, [⟨1, 0⟩, ⟨1, 0⟩]⟩, ⟨some ⟨b, 0, none⟩, 4, [0, 0, 0, 0]⟩⟩ w := by
  refine ⟨⟨by simp [maxLen], fun y hy => ?_, .inr ⟨a, 0, rfl, ha, h1⟩⟩, ⟨by simp [maxLen], fun y hy => ?_, .inr ⟨b, 0, rfl, hb, h2⟩⟩⟩
  · simp only [List.mem_cons, List.not_mem_nil, or_false, or_self] at hy
    subst hy
    exact ⟨by simp, by simp, by simp⟩
  · simp only [List.mem_cons, List.not_mem_nil, or_false, or_self] at hy
    subst hy
    exact ⟨by simp, by simp⟩
def FirstA (w : World) (en : Ending) (w' : World) : Prop := ∃ x : Stt, en = .returned (.agg x.cells.toArray) ∧ x.sp = sp0 ∧ x.ok ∧ x.At w' ∧ Below w.heap.size w w'
set_option maxRecDepth 100000 in
set_option maxHeartbeats 2000000 in
theorem first_val (w : World) : Calls Try.prog 13 #[.agg (cfgL cfg0).toArray] w fun e w' => FirstA w e w' := by
  obtain ⟨zc, hzl, hzr⟩ : ∃ z : List Value, z.length = 37 ∧ (∀ w : World, (zeroValue 30).run Try.prog w = .ok (.agg z.toArray) w) := ⟨_, Stt.len Stt.zero_ok, zeroS0⟩
  have iu := iszCf cfg0
  have cg : ∀ w0, Calls Try.prog 26 #[.agg (cfgL cfg0).toArray] w0 fun e w' => e = .returned (.int .i64 0) ∧ Below w0.heap.size w0 w' := fun w0 => by
    have := Ld.lgood_any cfg0 w0
    rw [good_c0] at this
    exact this
  have hu0 : (cfgL cfg0)[0]? = some (.int .i64 4) := rfl
  have hu1 : (cfgL cfg0)[1]? = some (.int .i64 2) := rfl
  obtain ⟨hB0, hr0, hs0⟩ := boxed_new w (cfgL cfg0) 23
  generalize cfgL cfg0 = u at *
  go_enter Try.func13, Try.ntmps13
  go_upto_region 0 with fail
  try simp only [Act.put]
  refine pl_begin ?_
  refine pl_run (d := some 1) (v := .pointer (some ⟨w.heap.size, 0, none⟩)) (w' := w.alloc (.cells u.toArray 23)) (by rfl) (ex_boxR rfl rfl) rfl ?_
  simp only [Act.put, List.setIfInBounds_toArray, List.set_cons_zero, List.set_cons_succ]
  obtain ⟨W0, hW0⟩ : ∃ W, w.alloc (.cells u.toArray 23) = W := ⟨_, rfl⟩
  rw [hW0] at hB0 hr0 hs0 ⊢
  clear hW0
  obtain ⟨hB1, -, hs1⟩ := boxed_new W0 zc 30
  have ht1 := there_newN W0 zc.toArray 30 (n := 37) (by simp [hzl])
  refine pl_run (d := some 2) (v := .pointer (some ⟨W0.heap.size, 0, none⟩)) (w' := W0.alloc (.cells zc.toArray 30)) (by rfl) (ex_alloc rfl (hzr _)) rfl ?_
  simp only [Act.put, List.setIfInBounds_toArray, List.set_cons_zero, List.set_cons_succ]
  refine pl_nil ?_
  obtain ⟨W1, hW1⟩ : ∃ W, W0.alloc (.cells zc.toArray 30) = W := ⟨_, rfl⟩
  rw [hW1] at hB1 hs1 ht1 ⊢
  clear hW1
  have hr1 := range_below hr0 hB1 hs0
  have hB := hB0.trans (hB1.mono (by omega))
  obtain ⟨A, hA⟩ : ∃ X, W0.heap.size = X := ⟨_, rfl⟩
  obtain ⟨C, hC⟩ : ∃ X, w.heap.size = X := ⟨_, rfl⟩
  rw [hA] at hs1 ht1 hs0
  rw [hC] at hs0 hr1
  simp only [hA, hC]
  clear hr0 hB0 hB1 hA hzr
  go_upto_region 1 with fail
  try simp only [Act.put]
  refine pl_begin ?_
  refine pl_take (d := some 3) (v := .agg u.toArray) (by rfl) (ex_mid rfl rfl hr1 Try.underlying23 rfl iu) rfl ?_
  simp only [Act.put, List.setIfInBounds_toArray, List.set_cons_zero, List.set_cons_succ]
  refine pl_call (d := some 4) (by rfl) (by go_simp; first | done | exact ⟨rfl, rfl⟩ | with_reducible rfl) rfl ?_
  refine (cg W1).mono ?_
  rintro _ W2 ⟨rfl, hb2⟩
  refine ⟨_, rfl, ?_⟩
  simp only [Act.put, List.setIfInBounds_toArray, List.set_cons_zero, List.set_cons_succ]
  refine pl_take (d := some 5) (v := .bool false) (by rfl) (by go_simp) rfl ?_
  simp only [Act.put, List.setIfInBounds_toArray, List.set_cons_zero, List.set_cons_succ]
  refine pl_nil ?_
  have hr2 := range_below hr1 hb2 (by omega)
  have ht2 := there_below ht1 hb2 hs1
  have hB2 := hB.trans (hb2.mono hB.size)
  have hs2 := Nat.lt_of_lt_of_le hs1 hb2.size
  clear hr1 ht1 hB hs1 hb2 cg
  go_upto_region 3 with fail
  have r8 : W2.drew.rangeAt C 0 u := (World.rangeAt_drew _ _ _ _).2 hr2
  have tA8 : W2.drew.there A 0 37 := ht2
  have hB8 : Below w.heap.size w W2.drew := hB2.drew
  have sA8 : A < W2.drew.heap.size := hs2
  refine hs_begin (S := (Below A W2.drew)) 10 rfl (by kernel_rfl) ?_
  obtain ⟨w8, hw8⟩ : ∃ W, W2.drew = W := ⟨_, rfl⟩
  rw [hw8] at r8 tA8 hB8 sA8 ⊢
  clear hw8 hr2 ht2 hB2 hs2
  have hS : (Below A w8) w8 := Below.refl _ _
  have k0 : w8.cell? ⟨C, 0, none⟩ = some (.int .i64 4) := by simpa using r8 0 _ hu0
  have k1 : w8.cell? ⟨C, 1, none⟩ = some (.int .i64 2) := by simpa using r8 1 _ hu1
  clear r8 hu0 hu1
  refine hs_take (i := 2) (d := some 9) (v := ?_) rfl (by kernel_rfl) (by kernel_rfl) (by kernel_rfl) (by rfl) ?_ hS rfl ?_
  rotate_left
  · intro w' hw
    go_simp
    try with_reducible rfl
  simp only [Act.put, List.setIfInBounds_toArray, List.set_cons_zero, List.set_cons_succ]
  refine hs_take (i := 3) (d := some 10) (v := .int .i64 2) rfl (by kernel_rfl) (by kernel_rfl) (by kernel_rfl) (by rfl) (fun w' hw => pl_one rfl rfl ((hw.cell (p := ⟨C, 1, none⟩) hs0).trans k1) Try.underlying3 rfl) hS rfl ?_
  simp only [Act.put, List.setIfInBounds_toArray, List.set_cons_zero, List.set_cons_succ]
  refine hs_take (i := 5) (d := some 12) (v := ?_) rfl (by kernel_rfl) (by kernel_rfl) (by kernel_rfl) (by rfl) ?_ hS rfl ?_
  rotate_left
  · intro w' hw
    go_simp
    try with_reducible rfl
  simp only [Act.put, List.setIfInBounds_toArray, List.set_cons_zero, List.set_cons_succ]
  refine hs_take (i := 6) (d := some 13) (v := .int .i64 4) rfl (by kernel_rfl) (by kernel_rfl) (by kernel_rfl) (by rfl) (fun w' hw => pl_one rfl rfl ((hw.cell (p := ⟨C, 0, none⟩) hs0).trans k0) Try.underlying3 rfl) hS rfl ?_
  simp only [Act.put, List.setIfInBounds_toArray, List.set_cons_zero, List.set_cons_succ]
  refine hs_forkL (l := [0, 7]) (by kernel_rfl) (by simp) ?_
  intro ii hii
  simp only [List.mem_cons, List.not_mem_nil, or_false] at hii
  rcases hii with rfl | rfl
  · refine st_call (i := 0) (d := some 7) rfl (by rfl) (by go_simp; first | done | exact ⟨rfl, rfl⟩ | with_reducible rfl) rfl ?_
    refine (wnew_val w8).mono ?_
    rintro _ wa ⟨rfl, hb_wa⟩
    have hz := hb_wa.size
    have hS : (Below A w8) wa := hS.trans (hb_wa.mono (by have := hS.size; omega))
    refine ⟨_, rfl, hS, ?_⟩
    simp only [Act.put, List.setIfInBounds_toArray, List.set_cons_zero, List.set_cons_succ]
    refine hs_forkL (l := [1, 7]) (by kernel_rfl) (by simp) ?_
    intro ii hii
    simp only [List.mem_cons, List.not_mem_nil, or_false] at hii
    rcases hii with rfl | rfl
    · have hb_wb : Below wa.heap.size wa (wa.alloc (.cells (w0L).toArray 57)) := (Below.refl _ _).alloc (Nat.le_refl _) _
      have q1n := (boxed_new wa (w0L) 57).2.1
      have l1n := (boxed_new wa (w0L) 57).2.2
      have hS' : (Below A w8) (wa.alloc (.cells (w0L).toArray 57)) := hS.trans (hb_wb.mono (by have := hS.size; omega))
      refine st_run (i := 1) (d := some 8) (v := .slice (some ⟨wa.heap.size, 0, none⟩) 1 1) (w' := wa.alloc (.cells (w0L).toArray 57)) rfl (by rfl) (ex_bsi rfl rfl (run_bsw ⟨1, 0⟩ wa)) rfl hS' ?_
      simp only [Act.put, List.setIfInBounds_toArray, List.set_cons_zero, List.set_cons_succ]
      obtain ⟨wb, h_wb⟩ : ∃ W, wa.alloc (.cells (w0L).toArray 57) = W := ⟨_, rfl⟩
      rw [h_wb] at hb_wb q1n l1n hS' ⊢
      clear h_wb
      have hS : (Below A w8) wb := hS'
      clear hS'
      obtain ⟨q1b, q1e⟩ : ∃ x, wa.heap.size = x := ⟨_, rfl⟩
      rw [q1e] at q1n l1n
      simp only [q1e]
      have q1A : A < q1b := by have := hS.size; omega
      have q1 := q1n
      have l1 := l1n
      clear q1n l1n
      refine hs_forkL (l := [4, 7]) (by kernel_rfl) (by simp) ?_
      intro ii hii
      simp only [List.mem_cons, List.not_mem_nil, or_false] at hii
      rcases hii with rfl | rfl
      · refine st_call (i := 4) (d := some 11) rfl (by rfl) (by go_simp; first | done | exact ⟨rfl, rfl⟩ | with_reducible rfl) rfl ?_
        refine (repeat_val q1b 1 wb q1 l1).mono ?_
        rintro _ wc ⟨q4b, rfl, q4g, l4, q4, hb_wc⟩
        have q4A : A < q4b := by have := hS.size; omega
        have hz := hb_wc.size
        have hS : (Below A w8) wc := hS.trans (hb_wc.mono (by have := hS.size; omega))
        refine ⟨_, rfl, hS, ?_⟩
        simp only [Act.put, List.setIfInBounds_toArray, List.set_cons_zero, List.set_cons_succ]
        have q1 := range_below q1 hb_wc l1
        have l1 := Nat.lt_of_lt_of_le l1 hb_wc.size
        have hb_wd : Below wc.heap.size wc (wc.alloc (.cells (zs4).toArray 3)) := (Below.refl _ _).alloc (Nat.le_refl _) _
        have q7n := (boxed_new wc (zs4) 3).2.1
        have l7n := (boxed_new wc (zs4) 3).2.2
        have hS' : (Below A w8) (wc.alloc (.cells (zs4).toArray 3)) := hS.trans (hb_wd.mono (by have := hS.size; omega))
        refine hs_run (i := 7) (d := some 14) (v := .slice (some ⟨wc.heap.size, 0, none⟩) 4 4) (w' := wc.alloc (.cells (zs4).toArray 3)) rfl (by kernel_rfl) (by rfl) (ex_mkS rfl rfl rfl (mk4i wc)) rfl hS' ?_
        simp only [Act.put, List.setIfInBounds_toArray, List.set_cons_zero, List.set_cons_succ]
        obtain ⟨wd, h_wd⟩ : ∃ W, wc.alloc (.cells (zs4).toArray 3) = W := ⟨_, rfl⟩
        rw [h_wd] at hb_wd q7n l7n hS' ⊢
        clear h_wd
        have hS : (Below A w8) wd := hS'
        clear hS'
        have q1 := range_below q1 hb_wd l1
        have l1 := Nat.lt_of_lt_of_le l1 hb_wd.size
        have q4 := range_below q4 hb_wd l4
        have l4 := Nat.lt_of_lt_of_le l4 hb_wd.size
        obtain ⟨q7b, q7e⟩ : ∃ x, wc.heap.size = x := ⟨_, rfl⟩
        rw [q7e] at q7n l7n
        simp only [q7e]
        have q7A : A < q7b := by have := hS.size; omega
        have q7 := q7n
        have l7 := l7n
        clear q7n l7n
        have hBB : Below w8.heap.size w8 wd := (((hb_wa.trans (hb_wb.mono (by have := hb_wa.size; omega))).trans (hb_wc.mono (by have := (hb_wa.trans (hb_wb.mono (by have := hb_wa.size; omega))).size; omega))).trans (hb_wd.mono (by have := ((hb_wa.trans (hb_wb.mono (by have := hb_wa.size; omega))).trans (hb_wc.mono (by have := (hb_wa.trans (hb_wb.mono (by have := hb_wa.size; omega))).size; omega))).size; omega)))
        have xo := x0_ok q4b q7b
        have xa := x0_at l4 l7 q4 q7
        have hbf := build_f q4b q7b
        have xl : Stt.Lo ⟨1, 1, 0, zeros32, ⟨some ⟨q4b, 0, none⟩, 2, [⟨1, 0⟩, ⟨1, 0⟩]⟩, ⟨some ⟨q7b, 0, none⟩, 4, [0, 0, 0, 0]⟩⟩ (A + 1) := ⟨fun b hb => by cases hb; exact q4A, fun b hb => by cases hb; exact q7A⟩
        have xs : Stt.sp ⟨1, 1, 0, zeros32, ⟨some ⟨q4b, 0, none⟩, 2, [⟨1, 0⟩, ⟨1, 0⟩]⟩, ⟨some ⟨q7b, 0, none⟩, 4, [0, 0, 0, 0]⟩⟩ = sp0 := rfl
        generalize (⟨1, 1, 0, zeros32, ⟨some ⟨q4b, 0, none⟩, 2, [⟨1, 0⟩, ⟨1, 0⟩]⟩, ⟨some ⟨q7b, 0, none⟩, 4, [0, 0, 0, 0]⟩⟩ : Stt) = x at xo xa hbf xl xs
        have hql : x.cells.length = 37 := Stt.len xo
        have hq1 := Stt.one x
        have hiq : (Try.prog.info? 30).map (·.size) = some x.cells.length := by rw [hql]; exact iszSt
        obtain ⟨q, hq⟩ : ∃ q, Hid (x.cells = q) := ⟨_, hide rfl⟩
        rw [hq.out] at hql hq1 hiq
        simp only [hq.out] at hbf
        refine hs_take (i := 8) (d := some 15) (v := .agg q.toArray) rfl (by kernel_rfl) (by kernel_rfl) (by kernel_rfl) (by rfl) (fun w' hw => ex_build (parts := [(0, .const (.int .i64 1)), (1, .const (.int .i64 1)), (4, .tmp 11), (5, .tmp 14)]) rfl rfl (hbf _)) hS rfl ?_
        simp only [Act.put, List.setIfInBounds_toArray, List.set_cons_zero, List.set_cons_succ]
        have hth : wd.there A 0 q.length := by rw [hql]; exact there_blk tA8 (hBB.block A sA8)
        have hS2 : (Below A w8) (wd.setCells A 0 q) := below_sets (Nat.le_refl _) q 0 _ hS
        refine hs_store (i := 9) (w' := wd.setCells A 0 q) rfl (by kernel_rfl) (by rfl) (ex_put (cs := q.toArray) rfl rfl rfl (by simpa using hth) (by simpa using hiq) (all_one hq1)) rfl hS2 ?_
        refine hs_done (by kernel_rfl) ?_
        have hrs := run_loadVar_mid (P := Try.prog) (wd.setCells A 0 q) A 0 30 q _ (World.rangeAt_setCells_same wd A 0 q hth) Try.underlying30 rfl hiq
        have HF : Hid (FirstA w (.returned (.agg q.toArray)) (wd.setCells A 0 q)) := hide ⟨x, by rw [hq.out], xs, xo, xa.put xl (by omega), hB8.trans (hS2.mono (by omega))⟩
        clear xl xs xa xo hq hbf hiq hq1 hS hS2 hth q1 q4 q7 hBB
        go_wp2_with fail
        refine bodyPost_ret (results_cell rfl _ _ _ rfl hrs) rfl ?_
        exact HF.out
      · have hb_wc : Below wb.heap.size wb (wb.alloc (.cells (zs4).toArray 3)) := (Below.refl _ _).alloc (Nat.le_refl _) _
        have q7n := (boxed_new wb (zs4) 3).2.1
        have l7n := (boxed_new wb (zs4) 3).2.2
        have hS' : (Below A w8) (wb.alloc (.cells (zs4).toArray 3)) := hS.trans (hb_wc.mono (by have := hS.size; omega))
        refine st_run (i := 7) (d := some 14) (v := .slice (some ⟨wb.heap.size, 0, none⟩) 4 4) (w' := wb.alloc (.cells (zs4).toArray 3)) rfl (by rfl) (ex_mkS rfl rfl rfl (mk4i wb)) rfl hS' ?_
        simp only [Act.put, List.setIfInBounds_toArray, List.set_cons_zero, List.set_cons_succ]
        obtain ⟨wc, h_wc⟩ : ∃ W, wb.alloc (.cells (zs4).toArray 3) = W := ⟨_, rfl⟩
        rw [h_wc] at hb_wc q7n l7n hS' ⊢
        clear h_wc
        have hS : (Below A w8) wc := hS'
        clear hS'
        have q1 := range_below q1 hb_wc l1
        have l1 := Nat.lt_of_lt_of_le l1 hb_wc.size
        obtain ⟨q7b, q7e⟩ : ∃ x, wb.heap.size = x := ⟨_, rfl⟩
        rw [q7e] at q7n l7n
        simp only [q7e]
        have q7A : A < q7b := by have := hS.size; omega
        have q7 := q7n
        have l7 := l7n
        clear q7n l7n
        refine hs_call (i := 4) (d := some 11) rfl (by kernel_rfl) (by rfl) (by go_simp; first | done | exact ⟨rfl, rfl⟩ | with_reducible rfl) rfl ?_
        refine (repeat_val q1b 1 wc q1 l1).mono ?_
        rintro _ wd ⟨q4b, rfl, q4g, l4, q4, hb_wd⟩
        have q4A : A < q4b := by have := hS.size; omega
        have hz := hb_wd.size
        have hS : (Below A w8) wd := hS.trans (hb_wd.mono (by have := hS.size; omega))
        refine ⟨_, rfl, hS, ?_⟩
        simp only [Act.put, List.setIfInBounds_toArray, List.set_cons_zero, List.set_cons_succ]
        have q1 := range_below q1 hb_wd l1
        have l1 := Nat.lt_of_lt_of_le l1 hb_wd.size
        have q7 := range_below q7 hb_wd l7
        have l7 := Nat.lt_of_lt_of_le l7 hb_wd.size
        have hBB : Below w8.heap.size w8 wd := (((hb_wa.trans (hb_wb.mono (by have := hb_wa.size; omega))).trans (hb_wc.mono (by have := (hb_wa.trans (hb_wb.mono (by have := hb_wa.size; omega))).size; omega))).trans (hb_wd.mono (by have := ((hb_wa.trans (hb_wb.mono (by have := hb_wa.size; omega))).trans (hb_wc.mono (by have := (hb_wa.trans (hb_wb.mono (by have := hb_wa.size; omega))).size; omega))).size; omega)))
        have xo := x0_ok q4b q7b
        have xa := x0_at l4 l7 q4 q7
        have hbf := build_f q4b q7b
        have xl : Stt.Lo ⟨1, 1, 0, zeros32, ⟨some ⟨q4b, 0, none⟩, 2, [⟨1, 0⟩, ⟨1, 0⟩]⟩, ⟨some ⟨q7b, 0, none⟩, 4, [0, 0, 0, 0]⟩⟩ (A + 1) := ⟨fun b hb => by cases hb; exact q4A, fun b hb => by cases hb; exact q7A⟩
        have xs : Stt.sp ⟨1, 1, 0, zeros32, ⟨some ⟨q4b, 0, none⟩, 2, [⟨1, 0⟩, ⟨1, 0⟩]⟩, ⟨some ⟨q7b, 0, none⟩, 4, [0, 0, 0, 0]⟩⟩ = sp0 := rfl
        generalize (⟨1, 1, 0, zeros32, ⟨some ⟨q4b, 0, none⟩, 2, [⟨1, 0⟩, ⟨1, 0⟩]⟩, ⟨some ⟨q7b, 0, none⟩, 4, [0, 0, 0, 0]⟩⟩ : Stt) = x at xo xa hbf xl xs
        have hql : x.cells.length = 37 := Stt.len xo
        have hq1 := Stt.one x
        have hiq : (Try.prog.info? 30).map (·.size) = some x.cells.length := by rw [hql]; exact iszSt
        obtain ⟨q, hq⟩ : ∃ q, Hid (x.cells = q) := ⟨_, hide rfl⟩
        rw [hq.out] at hql hq1 hiq
        simp only [hq.out] at hbf
        refine hs_take (i := 8) (d := some 15) (v := .agg q.toArray) rfl (by kernel_rfl) (by kernel_rfl) (by kernel_rfl) (by rfl) (fun w' hw => ex_build (parts := [(0, .const (.int .i64 1)), (1, .const (.int .i64 1)), (4, .tmp 11), (5, .tmp 14)]) rfl rfl (hbf _)) hS rfl ?_
        simp only [Act.put, List.setIfInBounds_toArray, List.set_cons_zero, List.set_cons_succ]
        have hth : wd.there A 0 q.length := by rw [hql]; exact there_blk tA8 (hBB.block A sA8)
        have hS2 : (Below A w8) (wd.setCells A 0 q) := below_sets (Nat.le_refl _) q 0 _ hS
        refine hs_store (i := 9) (w' := wd.setCells A 0 q) rfl (by kernel_rfl) (by rfl) (ex_put (cs := q.toArray) rfl rfl rfl (by simpa using hth) (by simpa using hiq) (all_one hq1)) rfl hS2 ?_
        refine hs_done (by kernel_rfl) ?_
        have hrs := run_loadVar_mid (P := Try.prog) (wd.setCells A 0 q) A 0 30 q _ (World.rangeAt_setCells_same wd A 0 q hth) Try.underlying30 rfl hiq
        have HF : Hid (FirstA w (.returned (.agg q.toArray)) (wd.setCells A 0 q)) := hide ⟨x, by rw [hq.out], xs, xo, xa.put xl (by omega), hB8.trans (hS2.mono (by omega))⟩
        clear xl xs xa xo hq hbf hiq hq1 hS hS2 hth q1 q4 q7 hBB
        go_wp2_with fail
        refine bodyPost_ret (results_cell rfl _ _ _ rfl hrs) rfl ?_
        exact HF.out
    · have hb_wb : Below wa.heap.size wa (wa.alloc (.cells (zs4).toArray 3)) := (Below.refl _ _).alloc (Nat.le_refl _) _
      have q7n := (boxed_new wa (zs4) 3).2.1
      have l7n := (boxed_new wa (zs4) 3).2.2
      have hS' : (Below A w8) (wa.alloc (.cells (zs4).toArray 3)) := hS.trans (hb_wb.mono (by have := hS.size; omega))
      refine st_run (i := 7) (d := some 14) (v := .slice (some ⟨wa.heap.size, 0, none⟩) 4 4) (w' := wa.alloc (.cells (zs4).toArray 3)) rfl (by rfl) (ex_mkS rfl rfl rfl (mk4i wa)) rfl hS' ?_
      simp only [Act.put, List.setIfInBounds_toArray, List.set_cons_zero, List.set_cons_succ]
      obtain ⟨wb, h_wb⟩ : ∃ W, wa.alloc (.cells (zs4).toArray 3) = W := ⟨_, rfl⟩
      rw [h_wb] at hb_wb q7n l7n hS' ⊢
      clear h_wb
      have hS : (Below A w8) wb := hS'
      clear hS'
      obtain ⟨q7b, q7e⟩ : ∃ x, wa.heap.size = x := ⟨_, rfl⟩
      rw [q7e] at q7n l7n
      simp only [q7e]
      have q7A : A < q7b := by have := hS.size; omega
      have q7 := q7n
      have l7 := l7n
      clear q7n l7n
      have hb_wc : Below wb.heap.size wb (wb.alloc (.cells (w0L).toArray 57)) := (Below.refl _ _).alloc (Nat.le_refl _) _
      have q1n := (boxed_new wb (w0L) 57).2.1
      have l1n := (boxed_new wb (w0L) 57).2.2
      have hS' : (Below A w8) (wb.alloc (.cells (w0L).toArray 57)) := hS.trans (hb_wc.mono (by have := hS.size; omega))
      refine hs_run (i := 1) (d := some 8) (v := .slice (some ⟨wb.heap.size, 0, none⟩) 1 1) (w' := wb.alloc (.cells (w0L).toArray 57)) rfl (by kernel_rfl) (by rfl) (ex_bsi rfl rfl (run_bsw ⟨1, 0⟩ wb)) rfl hS' ?_
      simp only [Act.put, List.setIfInBounds_toArray, List.set_cons_zero, List.set_cons_succ]
      obtain ⟨wc, h_wc⟩ : ∃ W, wb.alloc (.cells (w0L).toArray 57) = W := ⟨_, rfl⟩
      rw [h_wc] at hb_wc q1n l1n hS' ⊢
      clear h_wc
      have hS : (Below A w8) wc := hS'
      clear hS'
      have q7 := range_below q7 hb_wc l7
      have l7 := Nat.lt_of_lt_of_le l7 hb_wc.size
      obtain ⟨q1b, q1e⟩ : ∃ x, wb.heap.size = x := ⟨_, rfl⟩
      rw [q1e] at q1n l1n
      simp only [q1e]
      have q1A : A < q1b := by have := hS.size; omega
      have q1 := q1n
      have l1 := l1n
      clear q1n l1n
      refine hs_call (i := 4) (d := some 11) rfl (by kernel_rfl) (by rfl) (by go_simp; first | done | exact ⟨rfl, rfl⟩ | with_reducible rfl) rfl ?_
      refine (repeat_val q1b 1 wc q1 l1).mono ?_
      rintro _ wd ⟨q4b, rfl, q4g, l4, q4, hb_wd⟩
      have q4A : A < q4b := by have := hS.size; omega
      have hz := hb_wd.size
      have hS : (Below A w8) wd := hS.trans (hb_wd.mono (by have := hS.size; omega))
      refine ⟨_, rfl, hS, ?_⟩
      simp only [Act.put, List.setIfInBounds_toArray, List.set_cons_zero, List.set_cons_succ]
      have q7 := range_below q7 hb_wd l7
      have l7 := Nat.lt_of_lt_of_le l7 hb_wd.size
      have q1 := range_below q1 hb_wd l1
      have l1 := Nat.lt_of_lt_of_le l1 hb_wd.size
      have hBB : Below w8.heap.size w8 wd := (((hb_wa.trans (hb_wb.mono (by have := hb_wa.size; omega))).trans (hb_wc.mono (by have := (hb_wa.trans (hb_wb.mono (by have := hb_wa.size; omega))).size; omega))).trans (hb_wd.mono (by have := ((hb_wa.trans (hb_wb.mono (by have := hb_wa.size; omega))).trans (hb_wc.mono (by have := (hb_wa.trans (hb_wb.mono (by have := hb_wa.size; omega))).size; omega))).size; omega)))
      have xo := x0_ok q4b q7b
      have xa := x0_at l4 l7 q4 q7
      have hbf := build_f q4b q7b
      have xl : Stt.Lo ⟨1, 1, 0, zeros32, ⟨some ⟨q4b, 0, none⟩, 2, [⟨1, 0⟩, ⟨1, 0⟩]⟩, ⟨some ⟨q7b, 0, none⟩, 4, [0, 0, 0, 0]⟩⟩ (A + 1) := ⟨fun b hb => by cases hb; exact q4A, fun b hb => by cases hb; exact q7A⟩
      have xs : Stt.sp ⟨1, 1, 0, zeros32, ⟨some ⟨q4b, 0, none⟩, 2, [⟨1, 0⟩, ⟨1, 0⟩]⟩, ⟨some ⟨q7b, 0, none⟩, 4, [0, 0, 0, 0]⟩⟩ = sp0 := rfl
      generalize (⟨1, 1, 0, zeros32, ⟨some ⟨q4b, 0, none⟩, 2, [⟨1, 0⟩, ⟨1, 0⟩]⟩, ⟨some ⟨q7b, 0, none⟩, 4, [0, 0, 0, 0]⟩⟩ : Stt) = x at xo xa hbf xl xs
      have hql : x.cells.length = 37 := Stt.len xo
      have hq1 := Stt.one x
      have hiq : (Try.prog.info? 30).map (·.size) = some x.cells.length := by rw [hql]; exact iszSt
      obtain ⟨q, hq⟩ : ∃ q, Hid (x.cells = q) := ⟨_, hide rfl⟩
      rw [hq.out] at hql hq1 hiq
      simp only [hq.out] at hbf
      refine hs_take (i := 8) (d := some 15) (v := .agg q.toArray) rfl (by kernel_rfl) (by kernel_rfl) (by kernel_rfl) (by rfl) (fun w' hw => ex_build (parts := [(0, .const (.int .i64 1)), (1, .const (.int .i64 1)), (4, .tmp 11), (5, .tmp 14)]) rfl rfl (hbf _)) hS rfl ?_
      simp only [Act.put, List.setIfInBounds_toArray, List.set_cons_zero, List.set_cons_succ]
      have hth : wd.there A 0 q.length := by rw [hql]; exact there_blk tA8 (hBB.block A sA8)
      have hS2 : (Below A w8) (wd.setCells A 0 q) := below_sets (Nat.le_refl _) q 0 _ hS
      refine hs_store (i := 9) (w' := wd.setCells A 0 q) rfl (by kernel_rfl) (by rfl) (ex_put (cs := q.toArray) rfl rfl rfl (by simpa using hth) (by simpa using hiq) (all_one hq1)) rfl hS2 ?_
      refine hs_done (by kernel_rfl) ?_
      have hrs := run_loadVar_mid (P := Try.prog) (wd.setCells A 0 q) A 0 30 q _ (World.rangeAt_setCells_same wd A 0 q hth) Try.underlying30 rfl hiq
      have HF : Hid (FirstA w (.returned (.agg q.toArray)) (wd.setCells A 0 q)) := hide ⟨x, by rw [hq.out], xs, xo, xa.put xl (by omega), hB8.trans (hS2.mono (by omega))⟩
      clear xl xs xa xo hq hbf hiq hq1 hS hS2 hth q1 q4 q7 hBB
      go_wp2_with fail
      refine bodyPost_ret (results_cell rfl _ _ _ rfl hrs) rfl ?_
      exact HF.out
  · have hb_wa : Below w8.heap.size w8 (w8.alloc (.cells (zs4).toArray 3)) := (Below.refl _ _).alloc (Nat.le_refl _) _
    have q7n := (boxed_new w8 (zs4) 3).2.1
    have l7n := (boxed_new w8 (zs4) 3).2.2
    have hS' : (Below A w8) (w8.alloc (.cells (zs4).toArray 3)) := hS.trans (hb_wa.mono (by have := hS.size; omega))
    refine st_run (i := 7) (d := some 14) (v := .slice (some ⟨w8.heap.size, 0, none⟩) 4 4) (w' := w8.alloc (.cells (zs4).toArray 3)) rfl (by rfl) (ex_mkS rfl rfl rfl (mk4i w8)) rfl hS' ?_
    simp only [Act.put, List.setIfInBounds_toArray, List.set_cons_zero, List.set_cons_succ]
    obtain ⟨wa, h_wa⟩ : ∃ W, w8.alloc (.cells (zs4).toArray 3) = W := ⟨_, rfl⟩
    rw [h_wa] at hb_wa q7n l7n hS' ⊢
    clear h_wa
    have hS : (Below A w8) wa := hS'
    clear hS'
    obtain ⟨q7b, q7e⟩ : ∃ x, w8.heap.size = x := ⟨_, rfl⟩
    rw [q7e] at q7n l7n
    simp only [q7e]
    have q7A : A < q7b := by have := hS.size; omega
    have q7 := q7n
    have l7 := l7n
    clear q7n l7n
    refine hs_call (i := 0) (d := some 7) rfl (by kernel_rfl) (by rfl) (by go_simp; first | done | exact ⟨rfl, rfl⟩ | with_reducible rfl) rfl ?_
    refine (wnew_val wa).mono ?_
    rintro _ wb ⟨rfl, hb_wb⟩
    have hz := hb_wb.size
    have hS : (Below A w8) wb := hS.trans (hb_wb.mono (by have := hS.size; omega))
    refine ⟨_, rfl, hS, ?_⟩
    simp only [Act.put, List.setIfInBounds_toArray, List.set_cons_zero, List.set_cons_succ]
    have q7 := range_below q7 hb_wb l7
    have l7 := Nat.lt_of_lt_of_le l7 hb_wb.size
    have hb_wc : Below wb.heap.size wb (wb.alloc (.cells (w0L).toArray 57)) := (Below.refl _ _).alloc (Nat.le_refl _) _
    have q1n := (boxed_new wb (w0L) 57).2.1
    have l1n := (boxed_new wb (w0L) 57).2.2
    have hS' : (Below A w8) (wb.alloc (.cells (w0L).toArray 57)) := hS.trans (hb_wc.mono (by have := hS.size; omega))
    refine hs_run (i := 1) (d := some 8) (v := .slice (some ⟨wb.heap.size, 0, none⟩) 1 1) (w' := wb.alloc (.cells (w0L).toArray 57)) rfl (by kernel_rfl) (by rfl) (ex_bsi rfl rfl (run_bsw ⟨1, 0⟩ wb)) rfl hS' ?_
    simp only [Act.put, List.setIfInBounds_toArray, List.set_cons_zero, List.set_cons_succ]
    obtain ⟨wc, h_wc⟩ : ∃ W, wb.alloc (.cells (w0L).toArray 57) = W := ⟨_, rfl⟩
    rw [h_wc] at hb_wc q1n l1n hS' ⊢
    clear h_wc
    have hS : (Below A w8) wc := hS'
    clear hS'
    have q7 := range_below q7 hb_wc l7
    have l7 := Nat.lt_of_lt_of_le l7 hb_wc.size
    obtain ⟨q1b, q1e⟩ : ∃ x, wb.heap.size = x := ⟨_, rfl⟩
    rw [q1e] at q1n l1n
    simp only [q1e]
    have q1A : A < q1b := by have := hS.size; omega
    have q1 := q1n
    have l1 := l1n
    clear q1n l1n
    refine hs_call (i := 4) (d := some 11) rfl (by kernel_rfl) (by rfl) (by go_simp; first | done | exact ⟨rfl, rfl⟩ | with_reducible rfl) rfl ?_
    refine (repeat_val q1b 1 wc q1 l1).mono ?_
    rintro _ wd ⟨q4b, rfl, q4g, l4, q4, hb_wd⟩
    have q4A : A < q4b := by have := hS.size; omega
    have hz := hb_wd.size
    have hS : (Below A w8) wd := hS.trans (hb_wd.mono (by have := hS.size; omega))
    refine ⟨_, rfl, hS, ?_⟩
    simp only [Act.put, List.setIfInBounds_toArray, List.set_cons_zero, List.set_cons_succ]
    have q7 := range_below q7 hb_wd l7
    have l7 := Nat.lt_of_lt_of_le l7 hb_wd.size
    have q1 := range_below q1 hb_wd l1
    have l1 := Nat.lt_of_lt_of_le l1 hb_wd.size
    have hBB : Below w8.heap.size w8 wd := (((hb_wa.trans (hb_wb.mono (by have := hb_wa.size; omega))).trans (hb_wc.mono (by have := (hb_wa.trans (hb_wb.mono (by have := hb_wa.size; omega))).size; omega))).trans (hb_wd.mono (by have := ((hb_wa.trans (hb_wb.mono (by have := hb_wa.size; omega))).trans (hb_wc.mono (by have := (hb_wa.trans (hb_wb.mono (by have := hb_wa.size; omega))).size; omega))).size; omega)))
    have xo := x0_ok q4b q7b
    have xa := x0_at l4 l7 q4 q7
    have hbf := build_f q4b q7b
    have xl : Stt.Lo ⟨1, 1, 0, zeros32, ⟨some ⟨q4b, 0, none⟩, 2, [⟨1, 0⟩, ⟨1, 0⟩]⟩, ⟨some ⟨q7b, 0, none⟩, 4, [0, 0, 0, 0]⟩⟩ (A + 1) := ⟨fun b hb => by cases hb; exact q4A, fun b hb => by cases hb; exact q7A⟩
    have xs : Stt.sp ⟨1, 1, 0, zeros32, ⟨some ⟨q4b, 0, none⟩, 2, [⟨1, 0⟩, ⟨1, 0⟩]⟩, ⟨some ⟨q7b, 0, none⟩, 4, [0, 0, 0, 0]⟩⟩ = sp0 := rfl
    generalize (⟨1, 1, 0, zeros32, ⟨some ⟨q4b, 0, none⟩, 2, [⟨1, 0⟩, ⟨1, 0⟩]⟩, ⟨some ⟨q7b, 0, none⟩, 4, [0, 0, 0, 0]⟩⟩ : Stt) = x at xo xa hbf xl xs
    have hql : x.cells.length = 37 := Stt.len xo
    have hq1 := Stt.one x
    have hiq : (Try.prog.info? 30).map (·.size) = some x.cells.length := by rw [hql]; exact iszSt
    obtain ⟨q, hq⟩ : ∃ q, Hid (x.cells = q) := ⟨_, hide rfl⟩
    rw [hq.out] at hql hq1 hiq
    simp only [hq.out] at hbf
    refine hs_take (i := 8) (d := some 15) (v := .agg q.toArray) rfl (by kernel_rfl) (by kernel_rfl) (by kernel_rfl) (by rfl) (fun w' hw => ex_build (parts := [(0, .const (.int .i64 1)), (1, .const (.int .i64 1)), (4, .tmp 11), (5, .tmp 14)]) rfl rfl (hbf _)) hS rfl ?_
    simp only [Act.put, List.setIfInBounds_toArray, List.set_cons_zero, List.set_cons_succ]
    have hth : wd.there A 0 q.length := by rw [hql]; exact there_blk tA8 (hBB.block A sA8)
    have hS2 : (Below A w8) (wd.setCells A 0 q) := below_sets (Nat.le_refl _) q 0 _ hS
    refine hs_store (i := 9) (w' := wd.setCells A 0 q) rfl (by kernel_rfl) (by rfl) (ex_put (cs := q.toArray) rfl rfl rfl (by simpa using hth) (by simpa using hiq) (all_one hq1)) rfl hS2 ?_
    refine hs_done (by kernel_rfl) ?_
    have hrs := run_loadVar_mid (P := Try.prog) (wd.setCells A 0 q) A 0 30 q _ (World.rangeAt_setCells_same wd A 0 q hth) Try.underlying30 rfl hiq
    have HF : Hid (FirstA w (.returned (.agg q.toArray)) (wd.setCells A 0 q)) := hide ⟨x, by rw [hq.out], xs, xo, xa.put xl (by omega), hB8.trans (hS2.mono (by omega))⟩
    clear xl xs xa xo hq hbf hiq hq1 hS hS2 hth q1 q4 q7 hBB
    go_wp2_with fail
    refine bodyPost_ret (results_cell rfl _ _ _ rfl hrs) rfl ?_
    exact HF.out
end Go.Proofs.Ytaaifcpanflejaa
