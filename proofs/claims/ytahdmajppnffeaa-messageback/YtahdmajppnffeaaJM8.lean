/- message's writer: messages of all kinds; the document's bytes: tags, signs, certs; the document's bytes of a message; the document's bytes of changes and of new views -/
import Derived.Test.YtahdmajppnffeaaJM7
import Derived.Test.YtahdmajppnffeaaJM3
namespace Go.Proofs.Ytahdmajppnffeaa
open Go.RowKit
open Sha Tal
set_option linter.unusedVariables false
set_option linter.unusedSimpArgs false
def Mg.body (m : Mg) : List Int :=
  if m.k = 1 then [m.e, m.s].flatMap putL ++ batL m.q (m.rs.xs.map BRq.of)
  else if m.k = 2 then vtL m.vt
  else if m.k = 3 then [m.ce, m.cl, m.cv].flatMap putL ++ hdsL m.he.xs
  else if m.k = 4 then [m.e, m.l, m.v].flatMap putL ++ evsL m.ne.xs
  else if m.k = 5 then putL m.e ++ m.d
  else if m.k = 6 then [m.e, m.s].flatMap putL
  else if m.k = 7 then batL m.q (m.rs.xs.map BRq.of) ++ ctL m.ct m.cs.xs
  else textL m.st ++ sgsL m.sg.xs
def Mg.bytes (m : Mg) : List Int := putL m.k ++ m.body
/-- a message that is not too much -/
structure Mg.Fine (m : Mg) : Prop where
  e : m.e ≤ 9223372036854775807
  l : m.l ≤ 9223372036854775807
  v : m.v ≤ 9223372036854775807
  s : m.s ≤ 9223372036854775807
  ce : m.ce ≤ 9223372036854775807
  cl : m.cl ≤ 9223372036854775807
  cv : m.cv ≤ 9223372036854775807
  rn : m.rs.xs.length ≤ 200
  rs : ∀ r ∈ m.rs.xs, r.s.size ≤ 4000
  hn : m.he.xs.length ≤ 1000
  he : ∀ g ∈ m.he.xs, g.sg.xs.length ≤ 1000 ∧ g.rs.xs.length ≤ 200 ∧ ∀ r ∈ g.rs.xs, r.s.size ≤ 4000
  nn : m.ne.xs.length ≤ 1000
  ne : ∀ g ∈ m.ne.xs, g.s.size ≤ 1000000
  cn : m.cs.xs.length ≤ 1000
  gn : m.sg.xs.length ≤ 1000
  st : m.st.size ≤ 1000000
  all : m.bytes.length ≤ 40000
theorem one_two_three {a b c : Int} (h1 : a ≤ 9223372036854775807) (h2 : b ≤ 9223372036854775807) (h3 : c ≤ 9223372036854775807) : ∀ z ∈ [a, b, c], z ≤ 9223372036854775807 := by
  intro n hn
  simp only [List.mem_cons, List.not_mem_nil, or_false] at hn
  rcases hn with rfl | rfl | rfl <;> assumption
set_option maxRecDepth 100000 in
set_option maxHeartbeats 2000000 in
theorem wm1_on (X : Nat) (v : Value) (zs : List Int) (m : Mg) (w0 w : World) (om : m.ok) (am : m.At w0) (hf : m.Fine) (hk : m.k = 1) (hb : Below w0.heap.size w0 w) (hX : w0.heap.size ≤ X) (h : WrAt w X v zs false) (hz : zs.length ≤ 100000) : Calls Try.prog 13 #[.pointer (some ⟨X, 0, none⟩), .agg m.ms.cells.toArray] w fun e w' => WrOn X v zs m.bytes w e w' := by
  have hall := hf.all
  have hbd : m.bytes = putL 1 ++ m.body := by unfold Mg.bytes; rw [hk]
  rw [hbd, List.length_append] at hall
  rw [hbd]
  clear hbd
  have hat : ∀ {w' : World} {b : Nat}, w'.rangeAt b 0 m.ms.cells → m.ms.at w' b := fun hr => om.ms.at hr
  have hkk : m.ms.k = 1 := hk
  have hbody : m.body = [m.e, m.s].flatMap putL ++ batL m.q (m.rs.xs.map BRq.of) := by unfold Mg.body; rw [hk]; rfl
  rw [hbody, List.length_append] at hall
  obtain ⟨q, hq⟩ : ∃ q, Hid (m.ms.cells = q) := ⟨_, hide rfl⟩
  rw [hq.out]
  simp only [hq.out] at hat
  clear hq
  obtain ⟨hB1, hR1, hs1⟩ := boxed_new w q 37
  go_enter Try.func13, Try.ntmps13
  go_upto_region 1 with fail
  obtain ⟨w1, hw1⟩ : ∃ W, w.alloc (.cells q.toArray 37) = W := ⟨_, rfl⟩
  rw [hw1] at hB1 hR1 hs1 ⊢
  have h1 := h.below hB1
  have hXl := h.lt
  clear hw1
  have MA := hat hR1
  have ck := MA.k
  rw [hkk] at ck
  try simp only [Act.put]
  refine pl_begin ?_
  refine pl_take (d := some 4) (v := ?_) (by rfl) ?_ rfl ?_
  rotate_left
  · go_simp
    try with_reducible rfl
  simp only [Act.put, List.setIfInBounds_toArray, List.set_cons_zero, List.set_cons_succ]
  refine pl_take (d := some 5) (v := ?_) (by rfl) ?_ rfl ?_
  rotate_left
  · go_simp
    try with_reducible rfl
  simp only [Act.put, List.setIfInBounds_toArray, List.set_cons_zero, List.set_cons_succ]
  refine pl_take (d := some 6) (v := .int .i64 1) (by rfl) (pl_one rfl rfl ck Try.underlying3 rfl) rfl ?_
  simp only [Act.put, List.setIfInBounds_toArray, List.set_cons_zero, List.set_cons_succ]
  refine pl_run (d := some 7) (v := .slice (some ⟨w1.heap.size, 0, none⟩) 1 1) (w' := w1.alloc (.cells #[.int .i64 1] 3)) (by rfl) (ex_bsi rfl rfl (run_bsi 1 _)) rfl ?_
  simp only [Act.put, List.setIfInBounds_toArray, List.set_cons_zero, List.set_cons_succ]
  refine pl_call (d := some 8) (by rfl) (by go_simp; first | done | exact ⟨rfl, rfl⟩ | with_reducible rfl) rfl ?_
  refine (nums_on X v zs [1] _ 1 w1 h1 rfl rfl (by omega) (one_le (by decide)) (by simp; omega)).mono ?_
  rintro _ w2 ⟨v2, rfl, hW2, hO2, hr2⟩
  refine ⟨_, rfl, ?_⟩
  simp only [Act.put, List.setIfInBounds_toArray, List.set_cons_zero, List.set_cons_succ]
  refine pl_nil ?_
  have hR2 := wr_kept h hs1 hO2 hR1
  have T := wr_trans (Off.of_below hB1) (rowon_refl w v) hO2 hr2
  have hb2 := hb.trans (wr_low h hX T.1)
  have hW2 : WrAt w2 X v2 (zs ++ putL 1) false := by simpa using hW2
  have MA := hat hR2
  have ck := MA.k
  rw [hkk] at ck
  have HF0 : ∀ {v' : Value} {e' : Ending} {w' wz : World}, Off (WrF X v) w wz → RowOn w v v' → WrOn X v' (zs ++ putL 1 ++ [m.e, m.s].flatMap putL) (batL m.q (m.rs.xs.map BRq.of)) wz e' w' → WrOn X v zs (putL 1 ++ m.body) w e' w' := fun o r q => by
    rw [hbody, ← List.append_assoc]
    rw [List.append_assoc zs] at q
    exact WrOn.next o r q
  have cN := nums_on X v2 (zs ++ putL 1) [m.e, m.s] #[.int .i64 m.e, .int .i64 m.s] 2 w2 hW2 rfl rfl (by omega) (two_le hf.e hf.s) (by rw [List.length_append]; omega)
  have cB := fun v' w' (hb' : Below w0.heap.size w0 w') (h' : WrAt w' X v' (zs ++ putL 1 ++ [m.e, m.s].flatMap putL) false) => wbatch_on X v' (zs ++ putL 1 ++ [m.e, m.s].flatMap putL) m.q m.rs w' (am.rs.below hb') h' hf.rn hf.rs (by simp only [List.length_append]; omega)
  have de := MA.e
  have ds := MA.s
  go_upto_region 4 with fail
  try simp only [Act.put]
  refine pl_begin ?_
  refine pl_take (d := some 13) (v := ?_) (by rfl) ?_ rfl ?_
  rotate_left
  · go_simp
    try with_reducible rfl
  simp only [Act.put, List.setIfInBounds_toArray, List.set_cons_zero, List.set_cons_succ]
  refine pl_take (d := some 14) (v := ?_) (by rfl) ?_ rfl ?_
  rotate_left
  · go_simp
    try with_reducible rfl
  simp only [Act.put, List.setIfInBounds_toArray, List.set_cons_zero, List.set_cons_succ]
  refine pl_take (d := some 15) (v := .int .i64 m.e) (by rfl) (pl_one rfl rfl de Try.underlying3 rfl) rfl ?_
  simp only [Act.put, List.setIfInBounds_toArray, List.set_cons_zero, List.set_cons_succ]
  refine pl_take (d := some 16) (v := ?_) (by rfl) ?_ rfl ?_
  rotate_left
  · go_simp
    try with_reducible rfl
  simp only [Act.put, List.setIfInBounds_toArray, List.set_cons_zero, List.set_cons_succ]
  refine pl_take (d := some 17) (v := .int .i64 m.s) (by rfl) (pl_one rfl rfl ds Try.underlying3 rfl) rfl ?_
  simp only [Act.put, List.setIfInBounds_toArray, List.set_cons_zero, List.set_cons_succ]
  refine pl_run (d := some 18) (v := .slice (some ⟨w2.heap.size, 0, none⟩) 2 2) (w' := w2.alloc (.cells #[.int .i64 m.e, .int .i64 m.s] 3)) (by rfl) (ex_bsi2 rfl rfl rfl (run_bsi2 m.e m.s _)) rfl ?_
  simp only [Act.put, List.setIfInBounds_toArray, List.set_cons_zero, List.set_cons_succ]
  refine pl_call (d := some 19) (by rfl) (by go_simp; first | done | exact ⟨rfl, rfl⟩ | with_reducible rfl) rfl ?_
  refine (cN).mono ?_
  rintro _ w3 ⟨v3, rfl, hW3, hO3, hr3⟩
  refine ⟨_, rfl, ?_⟩
  simp only [Act.put, List.setIfInBounds_toArray, List.set_cons_zero, List.set_cons_succ]
  refine pl_nil ?_
  have T12 := wr_trans hO2 hr2 hO3 hr3
  have hR3 := wr_kept h hs1 T12.1 hR1
  have T := wr_trans T.1 T.2 hO3 hr3
  have hb3 := hb.trans (wr_low h hX T.1)
  have MA := hat hR3
  have cB3 := cB v3 w3 hb3 hW3
  have rb : w3.rangeAt w.heap.size 5 [.bool m.q, m.rs.val] := fun j u hj => by
    rcases j with _ | _ | j
    · cases hj; exact MA.q
    · cases hj; exact MA.rs
    · cases hj
  clear cB cN
  go_upto_region 5 with fail
  try simp only [Act.put]
  refine pl_begin ?_
  refine pl_take (d := some 20) (v := ?_) (by rfl) ?_ rfl ?_
  rotate_left
  · go_simp
    try with_reducible rfl
  simp only [Act.put, List.setIfInBounds_toArray, List.set_cons_zero, List.set_cons_succ]
  refine pl_take (d := some 21) (v := ?_) (by rfl) ?_ rfl ?_
  rotate_left
  · go_simp
    try with_reducible rfl
  simp only [Act.put, List.setIfInBounds_toArray, List.set_cons_zero, List.set_cons_succ]
  refine pl_take (d := some 22) (v := .agg [.bool m.q, m.rs.val].toArray) (by rfl) (ex_mid rfl rfl rb Try.underlying24 rfl iszBa) rfl ?_
  simp only [Act.put, List.setIfInBounds_toArray, List.set_cons_zero, List.set_cons_succ]
  refine pl_call (d := some 23) (by rfl) (by go_simp; first | done | exact ⟨rfl, rfl⟩ | with_reducible rfl) rfl ?_
  refine (cB3).mono ?_
  rintro _ w4 hfin
  have HF := hide (HF0 T.1 T.2 hfin)
  obtain ⟨v9, rfl, g1, g2, g3⟩ := hfin
  refine ⟨_, rfl, ?_⟩
  simp only [Act.put, List.setIfInBounds_toArray, List.set_cons_zero, List.set_cons_succ]
  refine pl_nil ?_
  go_wp2_with fail
  go_end0
  exact HF.out
set_option maxRecDepth 100000 in
set_option maxHeartbeats 2000000 in
theorem wm2_on (X : Nat) (v : Value) (zs : List Int) (m : Mg) (w0 w : World) (om : m.ok) (am : m.At w0) (hf : m.Fine) (hk : m.k = 2) (hb : Below w0.heap.size w0 w) (hX : w0.heap.size ≤ X) (h : WrAt w X v zs false) (hz : zs.length ≤ 100000) : Calls Try.prog 13 #[.pointer (some ⟨X, 0, none⟩), .agg m.ms.cells.toArray] w fun e w' => WrOn X v zs m.bytes w e w' := by
  have hall := hf.all
  have hbd : m.bytes = putL 2 ++ m.body := by unfold Mg.bytes; rw [hk]
  rw [hbd, List.length_append] at hall
  rw [hbd]
  clear hbd
  have hat : ∀ {w' : World} {b : Nat}, w'.rangeAt b 0 m.ms.cells → m.ms.at w' b := fun hr => om.ms.at hr
  have hkk : m.ms.k = 2 := hk
  have hbody : m.body = vtL m.vt := by unfold Mg.body; rw [hk]; rfl
  rw [hbody] at hall
  obtain ⟨q, hq⟩ : ∃ q, Hid (m.ms.cells = q) := ⟨_, hide rfl⟩
  rw [hq.out]
  simp only [hq.out] at hat
  clear hq
  obtain ⟨hB1, hR1, hs1⟩ := boxed_new w q 37
  go_enter Try.func13, Try.ntmps13
  go_upto_region 1 with fail
  obtain ⟨w1, hw1⟩ : ∃ W, w.alloc (.cells q.toArray 37) = W := ⟨_, rfl⟩
  rw [hw1] at hB1 hR1 hs1 ⊢
  have h1 := h.below hB1
  have hXl := h.lt
  clear hw1
  have MA := hat hR1
  have ck := MA.k
  rw [hkk] at ck
  try simp only [Act.put]
  refine pl_begin ?_
  refine pl_take (d := some 4) (v := ?_) (by rfl) ?_ rfl ?_
  rotate_left
  · go_simp
    try with_reducible rfl
  simp only [Act.put, List.setIfInBounds_toArray, List.set_cons_zero, List.set_cons_succ]
  refine pl_take (d := some 5) (v := ?_) (by rfl) ?_ rfl ?_
  rotate_left
  · go_simp
    try with_reducible rfl
  simp only [Act.put, List.setIfInBounds_toArray, List.set_cons_zero, List.set_cons_succ]
  refine pl_take (d := some 6) (v := .int .i64 2) (by rfl) (pl_one rfl rfl ck Try.underlying3 rfl) rfl ?_
  simp only [Act.put, List.setIfInBounds_toArray, List.set_cons_zero, List.set_cons_succ]
  refine pl_run (d := some 7) (v := .slice (some ⟨w1.heap.size, 0, none⟩) 1 1) (w' := w1.alloc (.cells #[.int .i64 2] 3)) (by rfl) (ex_bsi rfl rfl (run_bsi 2 _)) rfl ?_
  simp only [Act.put, List.setIfInBounds_toArray, List.set_cons_zero, List.set_cons_succ]
  refine pl_call (d := some 8) (by rfl) (by go_simp; first | done | exact ⟨rfl, rfl⟩ | with_reducible rfl) rfl ?_
  refine (nums_on X v zs [2] _ 1 w1 h1 rfl rfl (by omega) (one_le (by decide)) (by simp; omega)).mono ?_
  rintro _ w2 ⟨v2, rfl, hW2, hO2, hr2⟩
  refine ⟨_, rfl, ?_⟩
  simp only [Act.put, List.setIfInBounds_toArray, List.set_cons_zero, List.set_cons_succ]
  refine pl_nil ?_
  have hR2 := wr_kept h hs1 hO2 hR1
  have T := wr_trans (Off.of_below hB1) (rowon_refl w v) hO2 hr2
  have hb2 := hb.trans (wr_low h hX T.1)
  have hW2 : WrAt w2 X v2 (zs ++ putL 2) false := by simpa using hW2
  have MA := hat hR2
  have ck := MA.k
  rw [hkk] at ck
  have HF0 : ∀ {v' : Value} {e' : Ending} {w' wz : World}, Off (WrF X v) w wz → RowOn w v v' → WrOn X v' (zs ++ putL 2) (vtL m.vt) wz e' w' → WrOn X v zs (putL 2 ++ m.body) w e' w' := fun o r q => by rw [hbody]; exact WrOn.next o r q
  have cV := wvote_on X v2 (zs ++ putL 2) m.vt w2 om.vt hW2 (by rw [List.length_append]; omega)
  have hix : (Try.prog.info? 28).map (·.size) = some m.vt.cells.length := by rw [om.vt.len]; exact iszVo
  have rv := MA.vt
  have rv : w2.rangeAt w.heap.size 7 m.vt.cells := rv
  go_upto_region 7 with fail
  try simp only [Act.put]
  refine pl_begin ?_
  refine pl_take (d := some 26) (v := ?_) (by rfl) ?_ rfl ?_
  rotate_left
  · go_simp
    try with_reducible rfl
  simp only [Act.put, List.setIfInBounds_toArray, List.set_cons_zero, List.set_cons_succ]
  refine pl_take (d := some 27) (v := ?_) (by rfl) ?_ rfl ?_
  rotate_left
  · go_simp
    try with_reducible rfl
  simp only [Act.put, List.setIfInBounds_toArray, List.set_cons_zero, List.set_cons_succ]
  refine pl_take (d := some 28) (v := .agg m.vt.cells.toArray) (by rfl) (ex_mid rfl rfl rv Try.underlying28 rfl hix) rfl ?_
  simp only [Act.put, List.setIfInBounds_toArray, List.set_cons_zero, List.set_cons_succ]
  refine pl_call (d := some 29) (by rfl) (by go_simp; first | done | exact ⟨rfl, rfl⟩ | with_reducible rfl) rfl ?_
  refine (cV).mono ?_
  rintro _ w4 hfin
  have HF := hide (HF0 T.1 T.2 hfin)
  obtain ⟨v9, rfl, g1, g2, g3⟩ := hfin
  refine ⟨_, rfl, ?_⟩
  simp only [Act.put, List.setIfInBounds_toArray, List.set_cons_zero, List.set_cons_succ]
  refine pl_nil ?_
  go_wp2_with fail
  go_end0
  exact HF.out
set_option maxRecDepth 100000 in
set_option maxHeartbeats 2000000 in
theorem wm3_on (X : Nat) (v : Value) (zs : List Int) (m : Mg) (w0 w : World) (om : m.ok) (am : m.At w0) (hf : m.Fine) (hk : m.k = 3) (hb : Below w0.heap.size w0 w) (hX : w0.heap.size ≤ X) (h : WrAt w X v zs false) (hz : zs.length ≤ 100000) : Calls Try.prog 13 #[.pointer (some ⟨X, 0, none⟩), .agg m.ms.cells.toArray] w fun e w' => WrOn X v zs m.bytes w e w' := by
  have hall := hf.all
  have hbd : m.bytes = putL 3 ++ m.body := by unfold Mg.bytes; rw [hk]
  rw [hbd, List.length_append] at hall
  rw [hbd]
  clear hbd
  have hat : ∀ {w' : World} {b : Nat}, w'.rangeAt b 0 m.ms.cells → m.ms.at w' b := fun hr => om.ms.at hr
  have hkk : m.ms.k = 3 := hk
  have hbody : m.body = [m.ce, m.cl, m.cv].flatMap putL ++ hdsL m.he.xs := by unfold Mg.body; rw [hk]; rfl
  rw [hbody] at hall
  obtain ⟨q, hq⟩ : ∃ q, Hid (m.ms.cells = q) := ⟨_, hide rfl⟩
  rw [hq.out]
  simp only [hq.out] at hat
  clear hq
  obtain ⟨hB1, hR1, hs1⟩ := boxed_new w q 37
  go_enter Try.func13, Try.ntmps13
  go_upto_region 1 with fail
  obtain ⟨w1, hw1⟩ : ∃ W, w.alloc (.cells q.toArray 37) = W := ⟨_, rfl⟩
  rw [hw1] at hB1 hR1 hs1 ⊢
  have h1 := h.below hB1
  have hXl := h.lt
  clear hw1
  have MA := hat hR1
  have ck := MA.k
  rw [hkk] at ck
  try simp only [Act.put]
  refine pl_begin ?_
  refine pl_take (d := some 4) (v := ?_) (by rfl) ?_ rfl ?_
  rotate_left
  · go_simp
    try with_reducible rfl
  simp only [Act.put, List.setIfInBounds_toArray, List.set_cons_zero, List.set_cons_succ]
  refine pl_take (d := some 5) (v := ?_) (by rfl) ?_ rfl ?_
  rotate_left
  · go_simp
    try with_reducible rfl
  simp only [Act.put, List.setIfInBounds_toArray, List.set_cons_zero, List.set_cons_succ]
  refine pl_take (d := some 6) (v := .int .i64 3) (by rfl) (pl_one rfl rfl ck Try.underlying3 rfl) rfl ?_
  simp only [Act.put, List.setIfInBounds_toArray, List.set_cons_zero, List.set_cons_succ]
  refine pl_run (d := some 7) (v := .slice (some ⟨w1.heap.size, 0, none⟩) 1 1) (w' := w1.alloc (.cells #[.int .i64 3] 3)) (by rfl) (ex_bsi rfl rfl (run_bsi 3 _)) rfl ?_
  simp only [Act.put, List.setIfInBounds_toArray, List.set_cons_zero, List.set_cons_succ]
  refine pl_call (d := some 8) (by rfl) (by go_simp; first | done | exact ⟨rfl, rfl⟩ | with_reducible rfl) rfl ?_
  refine (nums_on X v zs [3] _ 1 w1 h1 rfl rfl (by omega) (one_le (by decide)) (by simp; omega)).mono ?_
  rintro _ w2 ⟨v2, rfl, hW2, hO2, hr2⟩
  refine ⟨_, rfl, ?_⟩
  simp only [Act.put, List.setIfInBounds_toArray, List.set_cons_zero, List.set_cons_succ]
  refine pl_nil ?_
  have hR2 := wr_kept h hs1 hO2 hR1
  have T := wr_trans (Off.of_below hB1) (rowon_refl w v) hO2 hr2
  have hb2 := hb.trans (wr_low h hX T.1)
  have hW2 : WrAt w2 X v2 (zs ++ putL 3) false := by simpa using hW2
  have MA := hat hR2
  have ck := MA.k
  rw [hkk] at ck
  have HF0 : ∀ {v' : Value} {e' : Ending} {w' wz : World}, Off (WrF X v) w wz → RowOn w v v' → WrOn X v' (zs ++ putL 3) ([m.ce, m.cl, m.cv].flatMap putL ++ hdsL m.he.xs) wz e' w' → WrOn X v zs (putL 3 ++ m.body) w e' w' := fun o r q => by rw [hbody]; exact WrOn.next o r q
  have cV := wchange_on X v2 (zs ++ putL 3) m.ce m.cl m.cv m.he w0 w2 hf.ce hf.cl hf.cv am.he hb2 hX hf.hn hf.he hW2 (by rw [List.length_append]; omega)
  have rc : w2.rangeAt w.heap.size 43 [.int .i64 m.ce, .int .i64 m.cl, .int .i64 m.cv, m.he.val] := fun j u hj => by
    rcases j with _ | _ | _ | _ | j
    · cases hj; exact MA.ce
    · cases hj; exact MA.cl
    · cases hj; exact MA.cv
    · cases hj; exact MA.he
    · cases hj
  go_upto_region 9 with fail
  try simp only [Act.put]
  refine pl_begin ?_
  refine pl_take (d := some 32) (v := ?_) (by rfl) ?_ rfl ?_
  rotate_left
  · go_simp
    try with_reducible rfl
  simp only [Act.put, List.setIfInBounds_toArray, List.set_cons_zero, List.set_cons_succ]
  refine pl_take (d := some 33) (v := ?_) (by rfl) ?_ rfl ?_
  rotate_left
  · go_simp
    try with_reducible rfl
  simp only [Act.put, List.setIfInBounds_toArray, List.set_cons_zero, List.set_cons_succ]
  refine pl_take (d := some 34) (v := .agg [.int .i64 m.ce, .int .i64 m.cl, .int .i64 m.cv, m.he.val].toArray) (by rfl) (ex_mid rfl rfl rc Try.underlying31 rfl iszCh) rfl ?_
  simp only [Act.put, List.setIfInBounds_toArray, List.set_cons_zero, List.set_cons_succ]
  refine pl_call (d := some 35) (by rfl) (by go_simp; first | done | exact ⟨rfl, rfl⟩ | with_reducible rfl) rfl ?_
  refine (cV).mono ?_
  rintro _ w4 hfin
  have HF := hide (HF0 T.1 T.2 hfin)
  obtain ⟨v9, rfl, g1, g2, g3⟩ := hfin
  refine ⟨_, rfl, ?_⟩
  simp only [Act.put, List.setIfInBounds_toArray, List.set_cons_zero, List.set_cons_succ]
  refine pl_nil ?_
  go_wp2_with fail
  go_end0
  exact HF.out
set_option maxRecDepth 100000 in
set_option maxHeartbeats 2000000 in
theorem wm4_on (X : Nat) (v : Value) (zs : List Int) (m : Mg) (w0 w : World) (om : m.ok) (am : m.At w0) (hf : m.Fine) (hk : m.k = 4) (hb : Below w0.heap.size w0 w) (hX : w0.heap.size ≤ X) (h : WrAt w X v zs false) (hz : zs.length ≤ 100000) : Calls Try.prog 13 #[.pointer (some ⟨X, 0, none⟩), .agg m.ms.cells.toArray] w fun e w' => WrOn X v zs m.bytes w e w' := by
  have hall := hf.all
  have hbd : m.bytes = putL 4 ++ m.body := by unfold Mg.bytes; rw [hk]
  rw [hbd, List.length_append] at hall
  rw [hbd]
  clear hbd
  have hat : ∀ {w' : World} {b : Nat}, w'.rangeAt b 0 m.ms.cells → m.ms.at w' b := fun hr => om.ms.at hr
  have hkk : m.ms.k = 4 := hk
  have hbody : m.body = [m.e, m.l, m.v].flatMap putL ++ evsL m.ne.xs := by unfold Mg.body; rw [hk]; rfl
  rw [hbody, List.length_append] at hall
  obtain ⟨q, hq⟩ : ∃ q, Hid (m.ms.cells = q) := ⟨_, hide rfl⟩
  rw [hq.out]
  simp only [hq.out] at hat
  clear hq
  obtain ⟨hB1, hR1, hs1⟩ := boxed_new w q 37
  go_enter Try.func13, Try.ntmps13
  go_upto_region 1 with fail
  obtain ⟨w1, hw1⟩ : ∃ W, w.alloc (.cells q.toArray 37) = W := ⟨_, rfl⟩
  rw [hw1] at hB1 hR1 hs1 ⊢
  have h1 := h.below hB1
  have hXl := h.lt
  clear hw1
  have MA := hat hR1
  have ck := MA.k
  rw [hkk] at ck
  try simp only [Act.put]
  refine pl_begin ?_
  refine pl_take (d := some 4) (v := ?_) (by rfl) ?_ rfl ?_
  rotate_left
  · go_simp
    try with_reducible rfl
  simp only [Act.put, List.setIfInBounds_toArray, List.set_cons_zero, List.set_cons_succ]
  refine pl_take (d := some 5) (v := ?_) (by rfl) ?_ rfl ?_
  rotate_left
  · go_simp
    try with_reducible rfl
  simp only [Act.put, List.setIfInBounds_toArray, List.set_cons_zero, List.set_cons_succ]
  refine pl_take (d := some 6) (v := .int .i64 4) (by rfl) (pl_one rfl rfl ck Try.underlying3 rfl) rfl ?_
  simp only [Act.put, List.setIfInBounds_toArray, List.set_cons_zero, List.set_cons_succ]
  refine pl_run (d := some 7) (v := .slice (some ⟨w1.heap.size, 0, none⟩) 1 1) (w' := w1.alloc (.cells #[.int .i64 4] 3)) (by rfl) (ex_bsi rfl rfl (run_bsi 4 _)) rfl ?_
  simp only [Act.put, List.setIfInBounds_toArray, List.set_cons_zero, List.set_cons_succ]
  refine pl_call (d := some 8) (by rfl) (by go_simp; first | done | exact ⟨rfl, rfl⟩ | with_reducible rfl) rfl ?_
  refine (nums_on X v zs [4] _ 1 w1 h1 rfl rfl (by omega) (one_le (by decide)) (by simp; omega)).mono ?_
  rintro _ w2 ⟨v2, rfl, hW2, hO2, hr2⟩
  refine ⟨_, rfl, ?_⟩
  simp only [Act.put, List.setIfInBounds_toArray, List.set_cons_zero, List.set_cons_succ]
  refine pl_nil ?_
  have hR2 := wr_kept h hs1 hO2 hR1
  have T := wr_trans (Off.of_below hB1) (rowon_refl w v) hO2 hr2
  have hb2 := hb.trans (wr_low h hX T.1)
  have hW2 : WrAt w2 X v2 (zs ++ putL 4) false := by simpa using hW2
  have MA := hat hR2
  have ck := MA.k
  rw [hkk] at ck
  have HF0 : ∀ {v' : Value} {e' : Ending} {w' wz : World}, Off (WrF X v) w wz → RowOn w v v' → WrOn X v' (zs ++ putL 4 ++ [m.e, m.l, m.v].flatMap putL) (evsL m.ne.xs) wz e' w' → WrOn X v zs (putL 4 ++ m.body) w e' w' := fun o r q => by
    rw [hbody, ← List.append_assoc]
    rw [List.append_assoc zs] at q
    exact WrOn.next o r q
  have cN := nums_on X v2 (zs ++ putL 4) [m.e, m.l, m.v] #[.int .i64 m.e, .int .i64 m.l, .int .i64 m.v] 3 w2 hW2 rfl rfl (by omega) (one_two_three hf.e hf.l hf.v) (by rw [List.length_append]; omega)
  have cE := fun v' w' (hb' : Below w0.heap.size w0 w') (h' : WrAt w' X v' (zs ++ putL 4 ++ [m.e, m.l, m.v].flatMap putL) false) => wlistE_on X v' (zs ++ putL 4 ++ [m.e, m.l, m.v].flatMap putL) m.ne w0 w' am.ne hb' hX h' hf.nn (fun g hg v3 zs3 w3 _ h3 hl3 => wenv_on X v3 zs3 g (am.ne.2.1 g hg) (hf.ne g hg) w3 h3 hl3) (by unfold evsL at hall; simp only [List.length_append] at hall ⊢; omega)
  have de := MA.e
  have dl := MA.l
  have dv := MA.v
  go_upto_region 11 with fail
  try simp only [Act.put]
  refine pl_begin ?_
  refine pl_take (d := some 38) (v := ?_) (by rfl) ?_ rfl ?_
  rotate_left
  · go_simp
    try with_reducible rfl
  simp only [Act.put, List.setIfInBounds_toArray, List.set_cons_zero, List.set_cons_succ]
  refine pl_take (d := some 39) (v := ?_) (by rfl) ?_ rfl ?_
  rotate_left
  · go_simp
    try with_reducible rfl
  simp only [Act.put, List.setIfInBounds_toArray, List.set_cons_zero, List.set_cons_succ]
  refine pl_take (d := some 40) (v := .int .i64 m.e) (by rfl) (pl_one rfl rfl de Try.underlying3 rfl) rfl ?_
  simp only [Act.put, List.setIfInBounds_toArray, List.set_cons_zero, List.set_cons_succ]
  refine pl_take (d := some 41) (v := ?_) (by rfl) ?_ rfl ?_
  rotate_left
  · go_simp
    try with_reducible rfl
  simp only [Act.put, List.setIfInBounds_toArray, List.set_cons_zero, List.set_cons_succ]
  refine pl_take (d := some 42) (v := .int .i64 m.l) (by rfl) (pl_one rfl rfl dl Try.underlying3 rfl) rfl ?_
  simp only [Act.put, List.setIfInBounds_toArray, List.set_cons_zero, List.set_cons_succ]
  refine pl_take (d := some 43) (v := ?_) (by rfl) ?_ rfl ?_
  rotate_left
  · go_simp
    try with_reducible rfl
  simp only [Act.put, List.setIfInBounds_toArray, List.set_cons_zero, List.set_cons_succ]
  refine pl_take (d := some 44) (v := .int .i64 m.v) (by rfl) (pl_one rfl rfl dv Try.underlying3 rfl) rfl ?_
  simp only [Act.put, List.setIfInBounds_toArray, List.set_cons_zero, List.set_cons_succ]
  refine pl_run (d := some 45) (v := .slice (some ⟨w2.heap.size, 0, none⟩) 3 3) (w' := w2.alloc (.cells #[.int .i64 m.e, .int .i64 m.l, .int .i64 m.v] 3)) (by rfl) (ex_bsi3 rfl rfl rfl rfl (run_bsi3 m.e m.l m.v _)) rfl ?_
  simp only [Act.put, List.setIfInBounds_toArray, List.set_cons_zero, List.set_cons_succ]
  refine pl_call (d := some 46) (by rfl) (by go_simp; first | done | exact ⟨rfl, rfl⟩ | with_reducible rfl) rfl ?_
  refine (cN).mono ?_
  rintro _ w3 ⟨v3, rfl, hW3, hO3, hr3⟩
  refine ⟨_, rfl, ?_⟩
  simp only [Act.put, List.setIfInBounds_toArray, List.set_cons_zero, List.set_cons_succ]
  refine pl_nil ?_
  have T12 := wr_trans hO2 hr2 hO3 hr3
  have hR3 := wr_kept h hs1 T12.1 hR1
  have T := wr_trans T.1 T.2 hO3 hr3
  have hb3 := hb.trans (wr_low h hX T.1)
  have MA := hat hR3
  have cE3 := cE v3 w3 hb3 hW3
  have dn := MA.ne
  have dn : w3.cell? ⟨w.heap.size, 47, none⟩ = some m.ne.val := dn
  unfold evsL at HF0
  clear cE cN
  go_upto_region 12 with fail
  try simp only [Act.put]
  refine pl_begin ?_
  refine pl_take (d := some 47) (v := ?_) (by rfl) ?_ rfl ?_
  rotate_left
  · go_simp
    try with_reducible rfl
  simp only [Act.put, List.setIfInBounds_toArray, List.set_cons_zero, List.set_cons_succ]
  refine pl_take (d := some 48) (v := ?_) (by rfl) ?_ rfl ?_
  rotate_left
  · go_simp
    try with_reducible rfl
  simp only [Act.put, List.setIfInBounds_toArray, List.set_cons_zero, List.set_cons_succ]
  refine pl_take (d := some 49) (v := m.ne.val) (by rfl) (pl_one rfl rfl dn Try.underlying32 rfl) rfl ?_
  simp only [Act.put, List.setIfInBounds_toArray, List.set_cons_zero, List.set_cons_succ]
  refine pl_take (d := some 50) (v := ?_) (by rfl) ?_ rfl ?_
  rotate_left
  · go_simp
    try with_reducible rfl
  simp only [Act.put, List.setIfInBounds_toArray, List.set_cons_zero, List.set_cons_succ]
  refine pl_take (d := some 51) (v := ?_) (by rfl) ?_ rfl ?_
  rotate_left
  · go_simp
    try with_reducible rfl
  simp only [Act.put, List.setIfInBounds_toArray, List.set_cons_zero, List.set_cons_succ]
  refine pl_call (d := some 52) (by rfl) (by go_simp; first | done | exact ⟨rfl, rfl⟩ | with_reducible rfl) rfl ?_
  refine (cE3).mono ?_
  rintro _ w4 hfin
  have HF := hide (HF0 T.1 T.2 hfin)
  obtain ⟨v9, rfl, g1, g2, g3⟩ := hfin
  refine ⟨_, rfl, ?_⟩
  simp only [Act.put, List.setIfInBounds_toArray, List.set_cons_zero, List.set_cons_succ]
  refine pl_nil ?_
  go_wp2_with fail
  go_end0
  exact HF.out
set_option maxRecDepth 100000 in
set_option maxHeartbeats 2000000 in
theorem wm5_on (X : Nat) (v : Value) (zs : List Int) (m : Mg) (w0 w : World) (om : m.ok) (am : m.At w0) (hf : m.Fine) (hk : m.k = 5) (hb : Below w0.heap.size w0 w) (hX : w0.heap.size ≤ X) (h : WrAt w X v zs false) (hz : zs.length ≤ 100000) : Calls Try.prog 13 #[.pointer (some ⟨X, 0, none⟩), .agg m.ms.cells.toArray] w fun e w' => WrOn X v zs m.bytes w e w' := by
  have hall := hf.all
  have hbd : m.bytes = putL 5 ++ m.body := by unfold Mg.bytes; rw [hk]
  rw [hbd, List.length_append] at hall
  rw [hbd]
  clear hbd
  have hat : ∀ {w' : World} {b : Nat}, w'.rangeAt b 0 m.ms.cells → m.ms.at w' b := fun hr => om.ms.at hr
  have hkk : m.ms.k = 5 := hk
  have hbody : m.body = putL m.e ++ m.d := by unfold Mg.body; rw [hk]; rfl
  rw [hbody, List.length_append] at hall
  obtain ⟨q, hq⟩ : ∃ q, Hid (m.ms.cells = q) := ⟨_, hide rfl⟩
  rw [hq.out]
  simp only [hq.out] at hat
  clear hq
  obtain ⟨hB1, hR1, hs1⟩ := boxed_new w q 37
  go_enter Try.func13, Try.ntmps13
  go_upto_region 1 with fail
  obtain ⟨w1, hw1⟩ : ∃ W, w.alloc (.cells q.toArray 37) = W := ⟨_, rfl⟩
  rw [hw1] at hB1 hR1 hs1 ⊢
  have h1 := h.below hB1
  have hXl := h.lt
  clear hw1
  have MA := hat hR1
  have ck := MA.k
  rw [hkk] at ck
  try simp only [Act.put]
  refine pl_begin ?_
  refine pl_take (d := some 4) (v := ?_) (by rfl) ?_ rfl ?_
  rotate_left
  · go_simp
    try with_reducible rfl
  simp only [Act.put, List.setIfInBounds_toArray, List.set_cons_zero, List.set_cons_succ]
  refine pl_take (d := some 5) (v := ?_) (by rfl) ?_ rfl ?_
  rotate_left
  · go_simp
    try with_reducible rfl
  simp only [Act.put, List.setIfInBounds_toArray, List.set_cons_zero, List.set_cons_succ]
  refine pl_take (d := some 6) (v := .int .i64 5) (by rfl) (pl_one rfl rfl ck Try.underlying3 rfl) rfl ?_
  simp only [Act.put, List.setIfInBounds_toArray, List.set_cons_zero, List.set_cons_succ]
  refine pl_run (d := some 7) (v := .slice (some ⟨w1.heap.size, 0, none⟩) 1 1) (w' := w1.alloc (.cells #[.int .i64 5] 3)) (by rfl) (ex_bsi rfl rfl (run_bsi 5 _)) rfl ?_
  simp only [Act.put, List.setIfInBounds_toArray, List.set_cons_zero, List.set_cons_succ]
  refine pl_call (d := some 8) (by rfl) (by go_simp; first | done | exact ⟨rfl, rfl⟩ | with_reducible rfl) rfl ?_
  refine (nums_on X v zs [5] _ 1 w1 h1 rfl rfl (by omega) (one_le (by decide)) (by simp; omega)).mono ?_
  rintro _ w2 ⟨v2, rfl, hW2, hO2, hr2⟩
  refine ⟨_, rfl, ?_⟩
  simp only [Act.put, List.setIfInBounds_toArray, List.set_cons_zero, List.set_cons_succ]
  refine pl_nil ?_
  have hR2 := wr_kept h hs1 hO2 hR1
  have T := wr_trans (Off.of_below hB1) (rowon_refl w v) hO2 hr2
  have hb2 := hb.trans (wr_low h hX T.1)
  have hW2 : WrAt w2 X v2 (zs ++ putL 5) false := by simpa using hW2
  have MA := hat hR2
  have ck := MA.k
  rw [hkk] at ck
  have HF0 : ∀ {v' : Value} {e' : Ending} {w' wz : World}, Off (WrF X v) w wz → RowOn w v v' → WrOn X v' (zs ++ putL 5 ++ putL m.e) m.d wz e' w' → WrOn X v zs (putL 5 ++ m.body) w e' w' := fun o r q => by
    rw [hbody, ← List.append_assoc]
    rw [List.append_assoc zs] at q
    exact WrOn.next o r q
  have cN := nums_on X v2 (zs ++ putL 5) [m.e] #[.int .i64 m.e] 1 w2 hW2 rfl rfl (by omega) (one_le hf.e) (by simp; omega)
  have de := MA.e
  go_upto_region 14 with fail
  try simp only [Act.put]
  refine pl_begin ?_
  refine pl_take (d := some 55) (v := ?_) (by rfl) ?_ rfl ?_
  rotate_left
  · go_simp
    try with_reducible rfl
  simp only [Act.put, List.setIfInBounds_toArray, List.set_cons_zero, List.set_cons_succ]
  refine pl_take (d := some 56) (v := ?_) (by rfl) ?_ rfl ?_
  rotate_left
  · go_simp
    try with_reducible rfl
  simp only [Act.put, List.setIfInBounds_toArray, List.set_cons_zero, List.set_cons_succ]
  refine pl_take (d := some 57) (v := .int .i64 m.e) (by rfl) (pl_one rfl rfl de Try.underlying3 rfl) rfl ?_
  simp only [Act.put, List.setIfInBounds_toArray, List.set_cons_zero, List.set_cons_succ]
  refine pl_run (d := some 58) (v := .slice (some ⟨w2.heap.size, 0, none⟩) 1 1) (w' := w2.alloc (.cells #[.int .i64 m.e] 3)) (by rfl) (ex_bsi rfl rfl (run_bsi m.e _)) rfl ?_
  simp only [Act.put, List.setIfInBounds_toArray, List.set_cons_zero, List.set_cons_succ]
  refine pl_call (d := some 59) (by rfl) (by go_simp; first | done | exact ⟨rfl, rfl⟩ | with_reducible rfl) rfl ?_
  refine (cN).mono ?_
  rintro _ w3 ⟨v3, rfl, hW3, hO3, hr3⟩
  refine ⟨_, rfl, ?_⟩
  simp only [Act.put, List.setIfInBounds_toArray, List.set_cons_zero, List.set_cons_succ]
  refine pl_nil ?_
  have T12 := wr_trans hO2 hr2 hO3 hr3
  have hR3 := wr_kept h hs1 T12.1 hR1
  have T := wr_trans T.1 T.2 hO3 hr3
  have hb3 := hb.trans (wr_low h hX T.1)
  have MA := hat hR3
  have hW3 : WrAt w3 X v3 (zs ++ putL 5 ++ putL m.e) false := by simpa using hW3
  have rd := MA.d
  have rd : w3.rangeAt w.heap.size 48 (v8 m.d) := rd
  have hd32 := om.dl
  have hdb := om.db
  have hs3 := hO3.size
  have hs2 := hO2.size
  obtain ⟨Z, hZ⟩ : ∃ Z, Hid (w.heap.size = Z) := ⟨_, hide rfl⟩
  have hZX : Z ≠ X := by rw [← hZ.out]; omega
  have hZ3 : Z < w3.heap.size := by rw [← hZ.out]; omega
  rw [hZ.out] at rd ⊢
  have hrow : RowAt w3 (some ⟨Z, 48, none⟩) m.d := ⟨by rw [hd32]; decide, hdb, .inr ⟨_, _, rfl, hZ3, rd⟩⟩
  have cr := raw_on X v3 (zs ++ putL 5 ++ putL m.e) (some ⟨Z, 48, none⟩) 32 m.d w3 hW3 hrow (.inr (fun x hx => by cases hx; exact hZX)) (by simp only [List.length_append]; omega)
  rw [show m.d.length = 32 from hd32] at cr
  have HT := hide T
  clear cN MA hR3 hR2 hR1 hd32 T T12
  go_wp2_with fail
  refine cr.mono ?_
  intro _ w4 hfin
  have HF := hide (HF0 HT.out.1 HT.out.2 hfin)
  obtain ⟨v9, rfl, g1, g2, g3⟩ := hfin
  go_wp2_with fail
  go_end0
  exact HF.out
set_option maxRecDepth 100000 in
set_option maxHeartbeats 2000000 in
theorem wm6_on (X : Nat) (v : Value) (zs : List Int) (m : Mg) (w0 w : World) (om : m.ok) (am : m.At w0) (hf : m.Fine) (hk : m.k = 6) (hb : Below w0.heap.size w0 w) (hX : w0.heap.size ≤ X) (h : WrAt w X v zs false) (hz : zs.length ≤ 100000) : Calls Try.prog 13 #[.pointer (some ⟨X, 0, none⟩), .agg m.ms.cells.toArray] w fun e w' => WrOn X v zs m.bytes w e w' := by
  have hall := hf.all
  have hbd : m.bytes = putL 6 ++ m.body := by unfold Mg.bytes; rw [hk]
  rw [hbd, List.length_append] at hall
  rw [hbd]
  clear hbd
  have hat : ∀ {w' : World} {b : Nat}, w'.rangeAt b 0 m.ms.cells → m.ms.at w' b := fun hr => om.ms.at hr
  have hkk : m.ms.k = 6 := hk
  have hbody : m.body = [m.e, m.s].flatMap putL := by unfold Mg.body; rw [hk]; rfl
  rw [hbody] at hall
  obtain ⟨q, hq⟩ : ∃ q, Hid (m.ms.cells = q) := ⟨_, hide rfl⟩
  rw [hq.out]
  simp only [hq.out] at hat
  clear hq
  obtain ⟨hB1, hR1, hs1⟩ := boxed_new w q 37
  go_enter Try.func13, Try.ntmps13
  go_upto_region 1 with fail
  obtain ⟨w1, hw1⟩ : ∃ W, w.alloc (.cells q.toArray 37) = W := ⟨_, rfl⟩
  rw [hw1] at hB1 hR1 hs1 ⊢
  have h1 := h.below hB1
  have hXl := h.lt
  clear hw1
  have MA := hat hR1
  have ck := MA.k
  rw [hkk] at ck
  try simp only [Act.put]
  refine pl_begin ?_
  refine pl_take (d := some 4) (v := ?_) (by rfl) ?_ rfl ?_
  rotate_left
  · go_simp
    try with_reducible rfl
  simp only [Act.put, List.setIfInBounds_toArray, List.set_cons_zero, List.set_cons_succ]
  refine pl_take (d := some 5) (v := ?_) (by rfl) ?_ rfl ?_
  rotate_left
  · go_simp
    try with_reducible rfl
  simp only [Act.put, List.setIfInBounds_toArray, List.set_cons_zero, List.set_cons_succ]
  refine pl_take (d := some 6) (v := .int .i64 6) (by rfl) (pl_one rfl rfl ck Try.underlying3 rfl) rfl ?_
  simp only [Act.put, List.setIfInBounds_toArray, List.set_cons_zero, List.set_cons_succ]
  refine pl_run (d := some 7) (v := .slice (some ⟨w1.heap.size, 0, none⟩) 1 1) (w' := w1.alloc (.cells #[.int .i64 6] 3)) (by rfl) (ex_bsi rfl rfl (run_bsi 6 _)) rfl ?_
  simp only [Act.put, List.setIfInBounds_toArray, List.set_cons_zero, List.set_cons_succ]
  refine pl_call (d := some 8) (by rfl) (by go_simp; first | done | exact ⟨rfl, rfl⟩ | with_reducible rfl) rfl ?_
  refine (nums_on X v zs [6] _ 1 w1 h1 rfl rfl (by omega) (one_le (by decide)) (by simp; omega)).mono ?_
  rintro _ w2 ⟨v2, rfl, hW2, hO2, hr2⟩
  refine ⟨_, rfl, ?_⟩
  simp only [Act.put, List.setIfInBounds_toArray, List.set_cons_zero, List.set_cons_succ]
  refine pl_nil ?_
  have hR2 := wr_kept h hs1 hO2 hR1
  have T := wr_trans (Off.of_below hB1) (rowon_refl w v) hO2 hr2
  have hb2 := hb.trans (wr_low h hX T.1)
  have hW2 : WrAt w2 X v2 (zs ++ putL 6) false := by simpa using hW2
  have MA := hat hR2
  have ck := MA.k
  rw [hkk] at ck
  have HF0 : ∀ {v' : Value} {e' : Ending} {w' wz : World}, Off (WrF X v) w wz → RowOn w v v' → WrOn X v' (zs ++ putL 6) ([m.e, m.s].flatMap putL) wz e' w' → WrOn X v zs (putL 6 ++ m.body) w e' w' := fun o r q => by rw [hbody]; exact WrOn.next o r q
  have cN := nums_on X v2 (zs ++ putL 6) [m.e, m.s] #[.int .i64 m.e, .int .i64 m.s] 2 w2 hW2 rfl rfl (by omega) (two_le hf.e hf.s) (by rw [List.length_append]; omega)
  have de := MA.e
  have ds := MA.s
  go_upto_region 17 with fail
  try simp only [Act.put]
  refine pl_begin ?_
  refine pl_take (d := some 66) (v := ?_) (by rfl) ?_ rfl ?_
  rotate_left
  · go_simp
    try with_reducible rfl
  simp only [Act.put, List.setIfInBounds_toArray, List.set_cons_zero, List.set_cons_succ]
  refine pl_take (d := some 67) (v := ?_) (by rfl) ?_ rfl ?_
  rotate_left
  · go_simp
    try with_reducible rfl
  simp only [Act.put, List.setIfInBounds_toArray, List.set_cons_zero, List.set_cons_succ]
  refine pl_take (d := some 68) (v := .int .i64 m.e) (by rfl) (pl_one rfl rfl de Try.underlying3 rfl) rfl ?_
  simp only [Act.put, List.setIfInBounds_toArray, List.set_cons_zero, List.set_cons_succ]
  refine pl_take (d := some 69) (v := ?_) (by rfl) ?_ rfl ?_
  rotate_left
  · go_simp
    try with_reducible rfl
  simp only [Act.put, List.setIfInBounds_toArray, List.set_cons_zero, List.set_cons_succ]
  refine pl_take (d := some 70) (v := .int .i64 m.s) (by rfl) (pl_one rfl rfl ds Try.underlying3 rfl) rfl ?_
  simp only [Act.put, List.setIfInBounds_toArray, List.set_cons_zero, List.set_cons_succ]
  refine pl_run (d := some 71) (v := .slice (some ⟨w2.heap.size, 0, none⟩) 2 2) (w' := w2.alloc (.cells #[.int .i64 m.e, .int .i64 m.s] 3)) (by rfl) (ex_bsi2 rfl rfl rfl (run_bsi2 m.e m.s _)) rfl ?_
  simp only [Act.put, List.setIfInBounds_toArray, List.set_cons_zero, List.set_cons_succ]
  refine pl_call (d := some 72) (by rfl) (by go_simp; first | done | exact ⟨rfl, rfl⟩ | with_reducible rfl) rfl ?_
  refine (cN).mono ?_
  rintro _ w4 hfin
  have HF := hide (HF0 T.1 T.2 hfin)
  obtain ⟨v9, rfl, g1, g2, g3⟩ := hfin
  refine ⟨_, rfl, ?_⟩
  simp only [Act.put, List.setIfInBounds_toArray, List.set_cons_zero, List.set_cons_succ]
  refine pl_nil ?_
  go_wp2_with fail
  go_end0
  exact HF.out
set_option maxRecDepth 100000 in
set_option maxHeartbeats 2000000 in
theorem wm7_on (X : Nat) (v : Value) (zs : List Int) (m : Mg) (w0 w : World) (om : m.ok) (am : m.At w0) (hf : m.Fine) (hk : m.k = 7) (hb : Below w0.heap.size w0 w) (hX : w0.heap.size ≤ X) (h : WrAt w X v zs false) (hz : zs.length ≤ 100000) : Calls Try.prog 13 #[.pointer (some ⟨X, 0, none⟩), .agg m.ms.cells.toArray] w fun e w' => WrOn X v zs m.bytes w e w' := by
  have hall := hf.all
  have hbd : m.bytes = putL 7 ++ m.body := by unfold Mg.bytes; rw [hk]
  rw [hbd, List.length_append] at hall
  rw [hbd]
  clear hbd
  have hat : ∀ {w' : World} {b : Nat}, w'.rangeAt b 0 m.ms.cells → m.ms.at w' b := fun hr => om.ms.at hr
  have hkk : m.ms.k = 7 := hk
  have hbody : m.body = batL m.q (m.rs.xs.map BRq.of) ++ ctL m.ct m.cs.xs := by unfold Mg.body; rw [hk]; rfl
  rw [hbody, List.length_append] at hall
  obtain ⟨q, hq⟩ : ∃ q, Hid (m.ms.cells = q) := ⟨_, hide rfl⟩
  rw [hq.out]
  simp only [hq.out] at hat
  clear hq
  obtain ⟨hB1, hR1, hs1⟩ := boxed_new w q 37
  go_enter Try.func13, Try.ntmps13
  go_upto_region 1 with fail
  obtain ⟨w1, hw1⟩ : ∃ W, w.alloc (.cells q.toArray 37) = W := ⟨_, rfl⟩
  rw [hw1] at hB1 hR1 hs1 ⊢
  have h1 := h.below hB1
  have hXl := h.lt
  clear hw1
  have MA := hat hR1
  have ck := MA.k
  rw [hkk] at ck
  try simp only [Act.put]
  refine pl_begin ?_
  refine pl_take (d := some 4) (v := ?_) (by rfl) ?_ rfl ?_
  rotate_left
  · go_simp
    try with_reducible rfl
  simp only [Act.put, List.setIfInBounds_toArray, List.set_cons_zero, List.set_cons_succ]
  refine pl_take (d := some 5) (v := ?_) (by rfl) ?_ rfl ?_
  rotate_left
  · go_simp
    try with_reducible rfl
  simp only [Act.put, List.setIfInBounds_toArray, List.set_cons_zero, List.set_cons_succ]
  refine pl_take (d := some 6) (v := .int .i64 7) (by rfl) (pl_one rfl rfl ck Try.underlying3 rfl) rfl ?_
  simp only [Act.put, List.setIfInBounds_toArray, List.set_cons_zero, List.set_cons_succ]
  refine pl_run (d := some 7) (v := .slice (some ⟨w1.heap.size, 0, none⟩) 1 1) (w' := w1.alloc (.cells #[.int .i64 7] 3)) (by rfl) (ex_bsi rfl rfl (run_bsi 7 _)) rfl ?_
  simp only [Act.put, List.setIfInBounds_toArray, List.set_cons_zero, List.set_cons_succ]
  refine pl_call (d := some 8) (by rfl) (by go_simp; first | done | exact ⟨rfl, rfl⟩ | with_reducible rfl) rfl ?_
  refine (nums_on X v zs [7] _ 1 w1 h1 rfl rfl (by omega) (one_le (by decide)) (by simp; omega)).mono ?_
  rintro _ w2 ⟨v2, rfl, hW2, hO2, hr2⟩
  refine ⟨_, rfl, ?_⟩
  simp only [Act.put, List.setIfInBounds_toArray, List.set_cons_zero, List.set_cons_succ]
  refine pl_nil ?_
  have hR2 := wr_kept h hs1 hO2 hR1
  have T := wr_trans (Off.of_below hB1) (rowon_refl w v) hO2 hr2
  have hb2 := hb.trans (wr_low h hX T.1)
  have hW2 : WrAt w2 X v2 (zs ++ putL 7) false := by simpa using hW2
  have MA := hat hR2
  have ck := MA.k
  rw [hkk] at ck
  have HF0 : ∀ {v' : Value} {e' : Ending} {w' wz : World}, Off (WrF X v) w wz → RowOn w v v' → WrOn X v' (zs ++ putL 7 ++ batL m.q (m.rs.xs.map BRq.of)) (ctL m.ct m.cs.xs) wz e' w' → WrOn X v zs (putL 7 ++ m.body) w e' w' := fun o r q => by
    rw [hbody, ← List.append_assoc]
    rw [List.append_assoc zs] at q
    exact WrOn.next o r q
  have cB := wbatch_on X v2 (zs ++ putL 7) m.q m.rs w2 (am.rs.below hb2) hW2 hf.rn hf.rs (by simp only [List.length_append]; omega)
  have cC := fun v' w' (hb' : Below w0.heap.size w0 w') (h' : WrAt w' X v' (zs ++ putL 7 ++ batL m.q (m.rs.xs.map BRq.of)) false) => wcert_on X v' (zs ++ putL 7 ++ batL m.q (m.rs.xs.map BRq.of)) m.ct m.cs w0 w' om.ct am.cs hb' hX hf.cn h' (by simp only [List.length_append]; omega)
  have hic : (Try.prog.info? 35).map (·.size) = some (certL m.ct m.cs).length := by rw [show (certL m.ct m.cs).length = 37 by simp [certL, om.ct.len]]; exact iszCe
  have rb : w2.rangeAt w.heap.size 5 [.bool m.q, m.rs.val] := fun j u hj => by
    rcases j with _ | _ | j
    · cases hj; exact MA.q
    · cases hj; exact MA.rs
    · cases hj
  go_upto_region 19 with fail
  try simp only [Act.put]
  refine pl_begin ?_
  refine pl_take (d := some 75) (v := ?_) (by rfl) ?_ rfl ?_
  rotate_left
  · go_simp
    try with_reducible rfl
  simp only [Act.put, List.setIfInBounds_toArray, List.set_cons_zero, List.set_cons_succ]
  refine pl_take (d := some 76) (v := ?_) (by rfl) ?_ rfl ?_
  rotate_left
  · go_simp
    try with_reducible rfl
  simp only [Act.put, List.setIfInBounds_toArray, List.set_cons_zero, List.set_cons_succ]
  refine pl_take (d := some 77) (v := .agg [.bool m.q, m.rs.val].toArray) (by rfl) (ex_mid rfl rfl rb Try.underlying24 rfl iszBa) rfl ?_
  simp only [Act.put, List.setIfInBounds_toArray, List.set_cons_zero, List.set_cons_succ]
  refine pl_call (d := some 78) (by rfl) (by go_simp; first | done | exact ⟨rfl, rfl⟩ | with_reducible rfl) rfl ?_
  refine (cB).mono ?_
  rintro _ w3 ⟨v3, rfl, hW3, hO3, hr3⟩
  refine ⟨_, rfl, ?_⟩
  simp only [Act.put, List.setIfInBounds_toArray, List.set_cons_zero, List.set_cons_succ]
  refine pl_nil ?_
  have T12 := wr_trans hO2 hr2 hO3 hr3
  have hR3 := wr_kept h hs1 T12.1 hR1
  have T := wr_trans T.1 T.2 hO3 hr3
  have hb3 := hb.trans (wr_low h hX T.1)
  have MA := hat hR3
  have cC3 := cC v3 w3 hb3 hW3
  have rc := MA.ct
  have rc : w3.rangeAt w.heap.size 80 (certL m.ct m.cs) := rc
  clear cC cB
  go_upto_region 20 with fail
  try simp only [Act.put]
  refine pl_begin ?_
  refine pl_take (d := some 79) (v := ?_) (by rfl) ?_ rfl ?_
  rotate_left
  · go_simp
    try with_reducible rfl
  simp only [Act.put, List.setIfInBounds_toArray, List.set_cons_zero, List.set_cons_succ]
  refine pl_take (d := some 80) (v := ?_) (by rfl) ?_ rfl ?_
  rotate_left
  · go_simp
    try with_reducible rfl
  simp only [Act.put, List.setIfInBounds_toArray, List.set_cons_zero, List.set_cons_succ]
  refine pl_take (d := some 81) (v := .agg (certL m.ct m.cs).toArray) (by rfl) (ex_mid rfl rfl rc Try.underlying35 rfl hic) rfl ?_
  simp only [Act.put, List.setIfInBounds_toArray, List.set_cons_zero, List.set_cons_succ]
  refine pl_call (d := some 82) (by rfl) (by go_simp; first | done | exact ⟨rfl, rfl⟩ | with_reducible rfl) rfl ?_
  refine (cC3).mono ?_
  rintro _ w4 hfin
  have HF := hide (HF0 T.1 T.2 hfin)
  obtain ⟨v9, rfl, g1, g2, g3⟩ := hfin
  refine ⟨_, rfl, ?_⟩
  simp only [Act.put, List.setIfInBounds_toArray, List.set_cons_zero, List.set_cons_succ]
  refine pl_nil ?_
  go_wp2_with fail
  go_end0
  exact HF.out
set_option maxRecDepth 100000 in
set_option maxHeartbeats 2000000 in
theorem wm8_on (X : Nat) (v : Value) (zs : List Int) (m : Mg) (w0 w : World) (om : m.ok) (am : m.At w0) (hf : m.Fine) (hk : m.k = 8) (hb : Below w0.heap.size w0 w) (hX : w0.heap.size ≤ X) (h : WrAt w X v zs false) (hz : zs.length ≤ 100000) : Calls Try.prog 13 #[.pointer (some ⟨X, 0, none⟩), .agg m.ms.cells.toArray] w fun e w' => WrOn X v zs m.bytes w e w' := by
  have hall := hf.all
  have hbd : m.bytes = putL 8 ++ m.body := by unfold Mg.bytes; rw [hk]
  rw [hbd, List.length_append] at hall
  rw [hbd]
  clear hbd
  have hat : ∀ {w' : World} {b : Nat}, w'.rangeAt b 0 m.ms.cells → m.ms.at w' b := fun hr => om.ms.at hr
  have hkk : m.ms.k = 8 := hk
  have hbody : m.body = textL m.st ++ sgsL m.sg.xs := by unfold Mg.body; rw [hk]; rfl
  rw [hbody, List.length_append] at hall
  obtain ⟨q, hq⟩ : ∃ q, Hid (m.ms.cells = q) := ⟨_, hide rfl⟩
  rw [hq.out]
  simp only [hq.out] at hat
  clear hq
  obtain ⟨hB1, hR1, hs1⟩ := boxed_new w q 37
  go_enter Try.func13, Try.ntmps13
  go_upto_region 1 with fail
  obtain ⟨w1, hw1⟩ : ∃ W, w.alloc (.cells q.toArray 37) = W := ⟨_, rfl⟩
  rw [hw1] at hB1 hR1 hs1 ⊢
  have h1 := h.below hB1
  have hXl := h.lt
  clear hw1
  have MA := hat hR1
  have ck := MA.k
  rw [hkk] at ck
  try simp only [Act.put]
  refine pl_begin ?_
  refine pl_take (d := some 4) (v := ?_) (by rfl) ?_ rfl ?_
  rotate_left
  · go_simp
    try with_reducible rfl
  simp only [Act.put, List.setIfInBounds_toArray, List.set_cons_zero, List.set_cons_succ]
  refine pl_take (d := some 5) (v := ?_) (by rfl) ?_ rfl ?_
  rotate_left
  · go_simp
    try with_reducible rfl
  simp only [Act.put, List.setIfInBounds_toArray, List.set_cons_zero, List.set_cons_succ]
  refine pl_take (d := some 6) (v := .int .i64 8) (by rfl) (pl_one rfl rfl ck Try.underlying3 rfl) rfl ?_
  simp only [Act.put, List.setIfInBounds_toArray, List.set_cons_zero, List.set_cons_succ]
  refine pl_run (d := some 7) (v := .slice (some ⟨w1.heap.size, 0, none⟩) 1 1) (w' := w1.alloc (.cells #[.int .i64 8] 3)) (by rfl) (ex_bsi rfl rfl (run_bsi 8 _)) rfl ?_
  simp only [Act.put, List.setIfInBounds_toArray, List.set_cons_zero, List.set_cons_succ]
  refine pl_call (d := some 8) (by rfl) (by go_simp; first | done | exact ⟨rfl, rfl⟩ | with_reducible rfl) rfl ?_
  refine (nums_on X v zs [8] _ 1 w1 h1 rfl rfl (by omega) (one_le (by decide)) (by simp; omega)).mono ?_
  rintro _ w2 ⟨v2, rfl, hW2, hO2, hr2⟩
  refine ⟨_, rfl, ?_⟩
  simp only [Act.put, List.setIfInBounds_toArray, List.set_cons_zero, List.set_cons_succ]
  refine pl_nil ?_
  have hR2 := wr_kept h hs1 hO2 hR1
  have T := wr_trans (Off.of_below hB1) (rowon_refl w v) hO2 hr2
  have hb2 := hb.trans (wr_low h hX T.1)
  have hW2 : WrAt w2 X v2 (zs ++ putL 8) false := by simpa using hW2
  have MA := hat hR2
  have ck := MA.k
  rw [hkk] at ck
  have HF0 : ∀ {v' : Value} {e' : Ending} {w' wz : World}, Off (WrF X v) w wz → RowOn w v v' → WrOn X v' (zs ++ putL 8 ++ textL m.st) (sgsL m.sg.xs) wz e' w' → WrOn X v zs (putL 8 ++ m.body) w e' w' := fun o r q => by
    rw [hbody, ← List.append_assoc]
    rw [List.append_assoc zs] at q
    exact WrOn.next o r q
  have cT := wtext_on X v2 (zs ++ putL 8) m.st w2 hW2 hf.st (by simp only [List.length_append]; omega)
  have cG := fun v' w' (hb' : Below w0.heap.size w0 w') (h' : WrAt w' X v' (zs ++ putL 8 ++ textL m.st) false) => wlistS_on X v' (zs ++ putL 8 ++ textL m.st) m.sg w0 w' am.sg hb' hX h' hf.gn (fun g hg v3 zs3 w3 _ h3 hl3 => wsign_on X v3 zs3 g (am.sg.2.1 g hg) w3 h3 hl3) (by unfold sgsL at hall; simp only [List.length_append] at hall ⊢; omega)
  have dst := MA.st
  have dst : w2.cell? ⟨w.heap.size, 117, none⟩ = some (.string m.st) := dst
  go_upto_region 22 with fail
  try simp only [Act.put]
  refine pl_begin ?_
  refine pl_take (d := some 85) (v := ?_) (by rfl) ?_ rfl ?_
  rotate_left
  · go_simp
    try with_reducible rfl
  simp only [Act.put, List.setIfInBounds_toArray, List.set_cons_zero, List.set_cons_succ]
  refine pl_take (d := some 86) (v := ?_) (by rfl) ?_ rfl ?_
  rotate_left
  · go_simp
    try with_reducible rfl
  simp only [Act.put, List.setIfInBounds_toArray, List.set_cons_zero, List.set_cons_succ]
  refine pl_take (d := some 87) (v := .string m.st) (by rfl) (pl_one rfl rfl dst Try.underlying9 rfl) rfl ?_
  simp only [Act.put, List.setIfInBounds_toArray, List.set_cons_zero, List.set_cons_succ]
  refine pl_call (d := some 88) (by rfl) (by go_simp; first | done | exact ⟨rfl, rfl⟩ | with_reducible rfl) rfl ?_
  refine (cT).mono ?_
  rintro _ w3 ⟨v3, rfl, hW3, hO3, hr3⟩
  refine ⟨_, rfl, ?_⟩
  simp only [Act.put, List.setIfInBounds_toArray, List.set_cons_zero, List.set_cons_succ]
  refine pl_nil ?_
  have T12 := wr_trans hO2 hr2 hO3 hr3
  have hR3 := wr_kept h hs1 T12.1 hR1
  have T := wr_trans T.1 T.2 hO3 hr3
  have hb3 := hb.trans (wr_low h hX T.1)
  have MA := hat hR3
  have cG3 := cG v3 w3 hb3 hW3
  have dg := MA.sg
  have dg : w3.cell? ⟨w.heap.size, 118, none⟩ = some m.sg.val := dg
  unfold sgsL at HF0
  clear cG cT
  go_upto_region 23 with fail
  try simp only [Act.put]
  refine pl_begin ?_
  refine pl_take (d := some 89) (v := ?_) (by rfl) ?_ rfl ?_
  rotate_left
  · go_simp
    try with_reducible rfl
  simp only [Act.put, List.setIfInBounds_toArray, List.set_cons_zero, List.set_cons_succ]
  refine pl_take (d := some 90) (v := ?_) (by rfl) ?_ rfl ?_
  rotate_left
  · go_simp
    try with_reducible rfl
  simp only [Act.put, List.setIfInBounds_toArray, List.set_cons_zero, List.set_cons_succ]
  refine pl_take (d := some 91) (v := m.sg.val) (by rfl) (pl_one rfl rfl dg Try.underlying33 rfl) rfl ?_
  simp only [Act.put, List.setIfInBounds_toArray, List.set_cons_zero, List.set_cons_succ]
  refine pl_take (d := some 92) (v := ?_) (by rfl) ?_ rfl ?_
  rotate_left
  · go_simp
    try with_reducible rfl
  simp only [Act.put, List.setIfInBounds_toArray, List.set_cons_zero, List.set_cons_succ]
  refine pl_take (d := some 93) (v := ?_) (by rfl) ?_ rfl ?_
  rotate_left
  · go_simp
    try with_reducible rfl
  simp only [Act.put, List.setIfInBounds_toArray, List.set_cons_zero, List.set_cons_succ]
  refine pl_call (d := some 94) (by rfl) (by go_simp; first | done | exact ⟨rfl, rfl⟩ | with_reducible rfl) rfl ?_
  refine (cG3).mono ?_
  rintro _ w4 hfin
  have HF := hide (HF0 T.1 T.2 hfin)
  obtain ⟨v9, rfl, g1, g2, g3⟩ := hfin
  refine ⟨_, rfl, ?_⟩
  simp only [Act.put, List.setIfInBounds_toArray, List.set_cons_zero, List.set_cons_succ]
  refine pl_nil ?_
  go_wp2_with fail
  go_end0
  exact HF.out
theorem wmsg_on (X : Nat) (v : Value) (zs : List Int) (m : Mg) (w0 w : World) (om : m.ok) (am : m.At w0) (hf : m.Fine) (h1 : 1 ≤ m.k) (h8 : m.k ≤ 8) (hb : Below w0.heap.size w0 w) (hX : w0.heap.size ≤ X) (h : WrAt w X v zs false) (hz : zs.length ≤ 100000) : Calls Try.prog 13 #[.pointer (some ⟨X, 0, none⟩), .agg m.ms.cells.toArray] w fun e w' => WrOn X v zs m.bytes w e w' := by
  have hk : m.k = 1 ∨ m.k = 2 ∨ m.k = 3 ∨ m.k = 4 ∨ m.k = 5 ∨ m.k = 6 ∨ m.k = 7 ∨ m.k = 8 := by omega
  rcases hk with hk | hk | hk | hk | hk | hk | hk | hk
  · exact wm1_on X v zs m w0 w om am hf hk hb hX h hz
  · exact wm2_on X v zs m w0 w om am hf hk hb hX h hz
  · exact wm3_on X v zs m w0 w om am hf hk hb hX h hz
  · exact wm4_on X v zs m w0 w om am hf hk hb hX h hz
  · exact wm5_on X v zs m w0 w om am hf hk hb hX h hz
  · exact wm6_on X v zs m w0 w om am hf hk hb hX h hz
  · exact wm7_on X v zs m w0 w om am hf hk hb hX h hz
  · exact wm8_on X v zs m w0 w om am hf hk hb hX h hz
end Go.Proofs.Ytahdmajppnffeaa
namespace Go.Proofs.Ytahdmajppnffeaa
open Go.RowKit
open Sha Tal
set_option linter.unusedVariables false
set_option linter.unusedSimpArgs false
/-- what the document lays behind bytes, in memory of its own -/
def FOn (zs bs : List Int) (w : World) (e : Ending) (w' : World) : Prop := ∃ v, e = .returned v ∧ Mine w' w.heap.size v (zs ++ bs) ∧ Below w.heap.size w w'
theorem FOn.row {zs bs L : List Int} {w w' : World} {e : Ending} (h : FOn zs bs w e w') (hL : zs ++ bs = L) (hm : L.length ≤ 4000000) : ∃ a cap, e = .returned (.slice a L.length cap) ∧ RowAt w' a L ∧ Mine w' w.heap.size (.slice a L.length cap) L ∧ Below w.heap.size w w' := by
  subst hL
  obtain ⟨v, rfl, h1, h2⟩ := h
  obtain ⟨a, cap, rfl, _, _, hr⟩ := h1.rowAt (by unfold maxLen; omega)
  exact ⟨a, cap, rfl, hr, h1, h2⟩
end Go.Proofs.Ytahdmajppnffeaa
namespace Go.Proofs.Ytahdmajppnffeaa
open Go.RowKit
open Sha Tal
set_option linter.unusedVariables false
set_option linter.unusedSimpArgs false
theorem ms_bat {m : Mg} {w : World} {b : Nat} (h : m.ms.at w b) : w.rangeAt b 5 [.bool m.q, m.rs.val] := fun j u hj => by
  rcases j with _ | _ | j
  · cases hj; exact h.q
  · cases hj; exact h.rs
  · cases hj
end Go.Proofs.Ytahdmajppnffeaa
namespace Go.Proofs.Ytahdmajppnffeaa
open Go.RowKit
open Sha Tal
set_option linter.unusedVariables false
set_option linter.unusedSimpArgs false
theorem hd_parts {g : Hd} {w : World} {b o : Nat} (hv : g.vt.ok) (h : w.rangeAt b o g.cells) : w.rangeAt b o [.bool g.q, g.rs.val] ∧ w.rangeAt b (o + 2) (certL g.vt g.sg) := by
  have h : w.rangeAt b o ([.bool g.q, g.rs.val] ++ certL g.vt g.sg) := h
  exact ⟨range_left h, by simpa using range_right h⟩
end Go.Proofs.Ytahdmajppnffeaa
