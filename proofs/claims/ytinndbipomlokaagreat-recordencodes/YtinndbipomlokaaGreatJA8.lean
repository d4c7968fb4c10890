/- message's writer: messages of all kinds; the document's bytes: tags, signs, certs; the document's bytes of a message -/
import Derived.Test.YtinndbipomlokaaGreatJA0
import Derived.Test.YtinndbipomlokaaGreatJA7
import Derived.Test.YtinndbipomlokaaGreatJA3
import Derived.Test.YtinndbipomlokaaGreatJA2
namespace Go.Proofs.YtinndbipomlokaaGreat
open Go.RowKit
open Sha Tal
set_option linter.unusedVariables false
set_option linter.unusedSimpArgs false
def Mg.body (m : Mg) : List Int :=
  if m.k = 1 then [m.e, m.s].flatMap putL ++ batL m.q (m.rs.xs.map BRq.of)
  else if m.k = 2 then vtL m.vt
  else if m.k = 3 then [m.ce, m.cl, m.cv].flatMap putL ++ hdsL m.he.xs
  else if m.k = 4 then [m.e, m.l, m.v].flatMap putL ++ evsL m.ne.xs
  else if m.k = 5 then putL m.e ++ m.d
  else if m.k = 6 then [m.e, m.s].flatMap putL
  else if m.k = 7 then batL m.q (m.rs.xs.map BRq.of) ++ ctL m.ct m.cs.xs
  else textL m.st ++ sgsL m.sg.xs
def Mg.bytes (m : Mg) : List Int := putL m.k ++ m.body
structure Mg.Fine (m : Mg) : Prop where
  e : m.e ≤ 9223372036854775807
  l : m.l ≤ 9223372036854775807
  v : m.v ≤ 9223372036854775807
  s : m.s ≤ 9223372036854775807
  ce : m.ce ≤ 9223372036854775807
  cl : m.cl ≤ 9223372036854775807
  cv : m.cv ≤ 9223372036854775807
  rn : m.rs.xs.length ≤ 200
  rs : ∀ r ∈ m.rs.xs, r.s.size ≤ 4000
  hn : m.he.xs.length ≤ 1000
  he : ∀ g ∈ m.he.xs, g.sg.xs.length ≤ 1000 ∧ g.rs.xs.length ≤ 200 ∧ ∀ r ∈ g.rs.xs, r.s.size ≤ 4000
  nn : m.ne.xs.length ≤ 1000
  ne : ∀ g ∈ m.ne.xs, g.s.size ≤ 1000000
  cn : m.cs.xs.length ≤ 1000
  gn : m.sg.xs.length ≤ 1000
  st : m.st.size ≤ 1000000
  all : m.bytes.length ≤ 40000
theorem one_two_three {a b c : Int} (h1 : a ≤ 9223372036854775807) (h2 : b ≤ 9223372036854775807) (h3 : c ≤ 9223372036854775807) : ∀ z ∈ [a, b, c], z ≤ 9223372036854775807 := by
 intro n hn
 simp only [List.mem_cons, List.not_mem_nil, or_false] at hn
 rcases hn with rfl | rfl | rfl <;> assumption
set_option maxRecDepth 100000 in
set_option maxHeartbeats 2000000 in
theorem wm1_on (X : Nat) (v : Value) (zs : List Int) (m : Mg) (w0 w : World) (om : m.ok) (am : m.At w0) (hf : m.Fine) (hk : m.k = 1) (hb : Below w0.heap.size w0 w) (hX : w0.heap.size ≤ X) (h : WrAt w X v zs false) (hz : zs.length ≤ 100000) : Calls Tryz.prog 85 #[.pointer (some ⟨X, 0, none⟩), .agg m.ms.cells.toArray] w fun e w' => WrOn X v zs m.bytes w e w' := by
 have hall := hf.all
 have hbd : m.bytes = putL 1 ++ m.body := by unfold Mg.bytes; rw [hk]
 rw [hbd, List.length_append] at hall
 rw [hbd]
 clear hbd
 have hat : ∀ {w' : World} {b : Nat}, w'.rangeAt b 0 m.ms.cells → m.ms.at w' b := fun hr => om.ms.at hr
 have hkk : m.ms.k = 1 := hk
 have hbody : m.body = [m.e, m.s].flatMap putL ++ batL m.q (m.rs.xs.map BRq.of) := by unfold Mg.body; rw [hk]; rfl
 rw [hbody, List.length_append] at hall
 obtain ⟨q, hq⟩ : ∃ q, Hid (m.ms.cells = q) := ⟨_, hide rfl⟩
 rw [hq.out]
 simp only [hq.out] at hat
 clear hq
 obtain ⟨hB1, hR1, hs1⟩ := boxed_new w q 63
 go_enter Tryz.func85, Tryz.ntmps85
 go_upto_region 1 with fail
 obtain ⟨w1, hw1⟩ : ∃ W, w.alloc (.cells q.toArray 63) = W := ⟨_, rfl⟩
 rw [hw1] at hB1 hR1 hs1 ⊢
 have h1 := h.below hB1
 have hXl := h.lt
 clear hw1
 have MA := hat hR1
 have ck := MA.k
 rw [hkk] at ck
 try simp only [Act.put]
 refine pl_begin ?_
 refine pl_t 4 (?_) (by rfl) ?_ rfl ?_
 rotate_left
 ·go_simp
  try with_reducible rfl
 simp only [nz]
 refine pl_t 5 (?_) (by rfl) ?_ rfl ?_
 rotate_left
 ·go_simp
  try with_reducible rfl
 simp only [nz]
 refine pl_t 6 (.int .i64 1) (by rfl) (pl_one rfl rfl ck Tryz.underlying3 rfl) rfl ?_
 simp only [nz]
 refine pl_run (d := some 7) (v := .slice (some ⟨w1.heap.size, 0, none⟩) 1 1) (w' := w1.alloc (.cells #[.int .i64 1] 3)) (by rfl) (ex_bsi rfl rfl (run_bsi 1 _)) rfl ?_
 simp only [nz]
 refine pl_call (d := some 8) (by rfl) (by go_simp; first | done | exact ⟨rfl, rfl⟩ | with_reducible rfl) rfl ?_
 refine (nums_on X v zs [1] _ 1 w1 h1 rfl rfl (by omega) (one_le (by decide)) (by simp; omega)).mono ?_
 rintro _ w2 ⟨v2, rfl, hW2, hO2, hr2⟩
 refine ⟨_, rfl, ?_⟩
 simp only [nz]
 refine pl_nil ?_
 have hR2 := wr_kept h hs1 hO2 hR1
 have T := wr_trans (Off.of_below hB1) (rowon_refl w v) hO2 hr2
 have hb2 := hb.trans (wr_low h hX T.1)
 have hW2 : WrAt w2 X v2 (zs ++ putL 1) false := by simpa using hW2
 have MA := hat hR2
 have ck := MA.k
 rw [hkk] at ck
 have HF0 : ∀ {v' : Value} {e' : Ending} {w' wz : World}, Off (WrF X v) w wz → RowOn w v v' → WrOn X v' (zs ++ putL 1 ++ [m.e, m.s].flatMap putL) (batL m.q (m.rs.xs.map BRq.of)) wz e' w' → WrOn X v zs (putL 1 ++ m.body) w e' w' := fun o r q => by
  rw [hbody, ← List.append_assoc]
  rw [List.append_assoc zs] at q
  exact WrOn.next o r q
 have cN := nums_on X v2 (zs ++ putL 1) [m.e, m.s] #[.int .i64 m.e, .int .i64 m.s] 2 w2 hW2 rfl rfl (by omega) (two_le hf.e hf.s) (by rw [List.length_append]; omega)
 have cB := fun v' w' (hb' : Below w0.heap.size w0 w') (h' : WrAt w' X v' (zs ++ putL 1 ++ [m.e, m.s].flatMap putL) false) => wbatch_on X v' (zs ++ putL 1 ++ [m.e, m.s].flatMap putL) m.q m.rs w' (am.rs.below hb') h' hf.rn hf.rs (by simp only [List.length_append]; omega)
 have de := MA.e
 have ds := MA.s
 go_upto_region 4 with fail
 try simp only [Act.put]
 refine pl_begin ?_
 refine pl_t 13 (?_) (by rfl) ?_ rfl ?_
 rotate_left
 ·go_simp
  try with_reducible rfl
 simp only [nz]
 refine pl_t 14 (?_) (by rfl) ?_ rfl ?_
 rotate_left
 ·go_simp
  try with_reducible rfl
 simp only [nz]
 refine pl_t 15 (.int .i64 m.e) (by rfl) (pl_one rfl rfl de Tryz.underlying3 rfl) rfl ?_
 simp only [nz]
 refine pl_t 16 (?_) (by rfl) ?_ rfl ?_
 rotate_left
 ·go_simp
  try with_reducible rfl
 simp only [nz]
 refine pl_t 17 (.int .i64 m.s) (by rfl) (pl_one rfl rfl ds Tryz.underlying3 rfl) rfl ?_
 simp only [nz]
 refine pl_run (d := some 18) (v := .slice (some ⟨w2.heap.size, 0, none⟩) 2 2) (w' := w2.alloc (.cells #[.int .i64 m.e, .int .i64 m.s] 3)) (by rfl) (ex_bsi2 rfl rfl rfl (run_bsi2 m.e m.s _)) rfl ?_
 simp only [nz]
 refine pl_call (d := some 19) (by rfl) (by go_simp; first | done | exact ⟨rfl, rfl⟩ | with_reducible rfl) rfl ?_
 refine (cN).mono ?_
 rintro _ w3 ⟨v3, rfl, hW3, hO3, hr3⟩
 refine ⟨_, rfl, ?_⟩
 simp only [nz]
 refine pl_nil ?_
 have T12 := wr_trans hO2 hr2 hO3 hr3
 have hR3 := wr_kept h hs1 T12.1 hR1
 have T := wr_trans T.1 T.2 hO3 hr3
 have hb3 := hb.trans (wr_low h hX T.1)
 have MA := hat hR3
 have cB3 := cB v3 w3 hb3 hW3
 have rb : w3.rangeAt w.heap.size 5 [.bool m.q, m.rs.val] := fun j u hj => by
  rcases j with _ | _ | j
  ·cases hj; exact MA.q
  ·cases hj; exact MA.rs
  ·cases hj
 clear cB cN
 go_upto_region 5 with fail
 try simp only [Act.put]
 refine pl_begin ?_
 refine pl_t 20 (?_) (by rfl) ?_ rfl ?_
 rotate_left
 ·go_simp
  try with_reducible rfl
 simp only [nz]
 refine pl_t 21 (?_) (by rfl) ?_ rfl ?_
 rotate_left
 ·go_simp
  try with_reducible rfl
 simp only [nz]
 refine pl_t 22 (.agg [.bool m.q, m.rs.val].toArray) (by rfl) (ex_mid rfl rfl rb Tryz.underlying24 rfl iszBa) rfl ?_
 simp only [nz]
 refine pl_call (d := some 23) (by rfl) (by go_simp; first | done | exact ⟨rfl, rfl⟩ | with_reducible rfl) rfl ?_
 refine (cB3).mono ?_
 rintro _ w4 hfin
 have HF := hide (HF0 T.1 T.2 hfin)
 obtain ⟨v9, rfl, g1, g2, g3⟩ := hfin
 refine ⟨_, rfl, ?_⟩
 simp only [nz]
 refine pl_nil ?_
 go_wp2_with fail
 go_end0
 exact HF.out
set_option maxRecDepth 100000 in
set_option maxHeartbeats 2000000 in
theorem wm2_on (X : Nat) (v : Value) (zs : List Int) (m : Mg) (w0 w : World) (om : m.ok) (am : m.At w0) (hf : m.Fine) (hk : m.k = 2) (hb : Below w0.heap.size w0 w) (hX : w0.heap.size ≤ X) (h : WrAt w X v zs false) (hz : zs.length ≤ 100000) : Calls Tryz.prog 85 #[.pointer (some ⟨X, 0, none⟩), .agg m.ms.cells.toArray] w fun e w' => WrOn X v zs m.bytes w e w' := by
 have hall := hf.all
 have hbd : m.bytes = putL 2 ++ m.body := by unfold Mg.bytes; rw [hk]
 rw [hbd, List.length_append] at hall
 rw [hbd]
 clear hbd
 have hat : ∀ {w' : World} {b : Nat}, w'.rangeAt b 0 m.ms.cells → m.ms.at w' b := fun hr => om.ms.at hr
 have hkk : m.ms.k = 2 := hk
 have hbody : m.body = vtL m.vt := by unfold Mg.body; rw [hk]; rfl
 rw [hbody] at hall
 obtain ⟨q, hq⟩ : ∃ q, Hid (m.ms.cells = q) := ⟨_, hide rfl⟩
 rw [hq.out]
 simp only [hq.out] at hat
 clear hq
 obtain ⟨hB1, hR1, hs1⟩ := boxed_new w q 63
 go_enter Tryz.func85, Tryz.ntmps85
 go_upto_region 1 with fail
 obtain ⟨w1, hw1⟩ : ∃ W, w.alloc (.cells q.toArray 63) = W := ⟨_, rfl⟩
 rw [hw1] at hB1 hR1 hs1 ⊢
 have h1 := h.below hB1
 have hXl := h.lt
 clear hw1
 have MA := hat hR1
 have ck := MA.k
 rw [hkk] at ck
 try simp only [Act.put]
 refine pl_begin ?_
 refine pl_t 4 (?_) (by rfl) ?_ rfl ?_
 rotate_left
 ·go_simp
  try with_reducible rfl
 simp only [nz]
 refine pl_t 5 (?_) (by rfl) ?_ rfl ?_
 rotate_left
 ·go_simp
  try with_reducible rfl
 simp only [nz]
 refine pl_t 6 (.int .i64 2) (by rfl) (pl_one rfl rfl ck Tryz.underlying3 rfl) rfl ?_
 simp only [nz]
 refine pl_run (d := some 7) (v := .slice (some ⟨w1.heap.size, 0, none⟩) 1 1) (w' := w1.alloc (.cells #[.int .i64 2] 3)) (by rfl) (ex_bsi rfl rfl (run_bsi 2 _)) rfl ?_
 simp only [nz]
 refine pl_call (d := some 8) (by rfl) (by go_simp; first | done | exact ⟨rfl, rfl⟩ | with_reducible rfl) rfl ?_
 refine (nums_on X v zs [2] _ 1 w1 h1 rfl rfl (by omega) (one_le (by decide)) (by simp; omega)).mono ?_
 rintro _ w2 ⟨v2, rfl, hW2, hO2, hr2⟩
 refine ⟨_, rfl, ?_⟩
 simp only [nz]
 refine pl_nil ?_
 have hR2 := wr_kept h hs1 hO2 hR1
 have T := wr_trans (Off.of_below hB1) (rowon_refl w v) hO2 hr2
 have hb2 := hb.trans (wr_low h hX T.1)
 have hW2 : WrAt w2 X v2 (zs ++ putL 2) false := by simpa using hW2
 have MA := hat hR2
 have ck := MA.k
 rw [hkk] at ck
 have HF0 : ∀ {v' : Value} {e' : Ending} {w' wz : World}, Off (WrF X v) w wz → RowOn w v v' → WrOn X v' (zs ++ putL 2) (vtL m.vt) wz e' w' → WrOn X v zs (putL 2 ++ m.body) w e' w' := fun o r q => by rw [hbody]; exact WrOn.next o r q
 have cV := wvote_on X v2 (zs ++ putL 2) m.vt w2 om.vt hW2 (by rw [List.length_append]; omega)
 have hix : (Tryz.prog.info? 28).map (·.size) = some m.vt.cells.length := by rw [om.vt.len]; exact iszVo
 have rv := MA.vt
 have rv : w2.rangeAt w.heap.size 7 m.vt.cells := rv
 go_upto_region 7 with fail
 try simp only [Act.put]
 refine pl_begin ?_
 refine pl_t 26 (?_) (by rfl) ?_ rfl ?_
 rotate_left
 ·go_simp
  try with_reducible rfl
 simp only [nz]
 refine pl_t 27 (?_) (by rfl) ?_ rfl ?_
 rotate_left
 ·go_simp
  try with_reducible rfl
 simp only [nz]
 refine pl_t 28 (.agg m.vt.cells.toArray) (by rfl) (ex_mid rfl rfl rv Tryz.underlying28 rfl hix) rfl ?_
 simp only [nz]
 refine pl_call (d := some 29) (by rfl) (by go_simp; first | done | exact ⟨rfl, rfl⟩ | with_reducible rfl) rfl ?_
 refine (cV).mono ?_
 rintro _ w4 hfin
 have HF := hide (HF0 T.1 T.2 hfin)
 obtain ⟨v9, rfl, g1, g2, g3⟩ := hfin
 refine ⟨_, rfl, ?_⟩
 simp only [nz]
 refine pl_nil ?_
 go_wp2_with fail
 go_end0
 exact HF.out
set_option maxRecDepth 100000 in
set_option maxHeartbeats 2000000 in
theorem wm3_on (X : Nat) (v : Value) (zs : List Int) (m : Mg) (w0 w : World) (om : m.ok) (am : m.At w0) (hf : m.Fine) (hk : m.k = 3) (hb : Below w0.heap.size w0 w) (hX : w0.heap.size ≤ X) (h : WrAt w X v zs false) (hz : zs.length ≤ 100000) : Calls Tryz.prog 85 #[.pointer (some ⟨X, 0, none⟩), .agg m.ms.cells.toArray] w fun e w' => WrOn X v zs m.bytes w e w' := by
 have hall := hf.all
 have hbd : m.bytes = putL 3 ++ m.body := by unfold Mg.bytes; rw [hk]
 rw [hbd, List.length_append] at hall
 rw [hbd]
 clear hbd
 have hat : ∀ {w' : World} {b : Nat}, w'.rangeAt b 0 m.ms.cells → m.ms.at w' b := fun hr => om.ms.at hr
 have hkk : m.ms.k = 3 := hk
 have hbody : m.body = [m.ce, m.cl, m.cv].flatMap putL ++ hdsL m.he.xs := by unfold Mg.body; rw [hk]; rfl
 rw [hbody] at hall
 obtain ⟨q, hq⟩ : ∃ q, Hid (m.ms.cells = q) := ⟨_, hide rfl⟩
 rw [hq.out]
 simp only [hq.out] at hat
 clear hq
 obtain ⟨hB1, hR1, hs1⟩ := boxed_new w q 63
 go_enter Tryz.func85, Tryz.ntmps85
 go_upto_region 1 with fail
 obtain ⟨w1, hw1⟩ : ∃ W, w.alloc (.cells q.toArray 63) = W := ⟨_, rfl⟩
 rw [hw1] at hB1 hR1 hs1 ⊢
 have h1 := h.below hB1
 have hXl := h.lt
 clear hw1
 have MA := hat hR1
 have ck := MA.k
 rw [hkk] at ck
 try simp only [Act.put]
 refine pl_begin ?_
 refine pl_t 4 (?_) (by rfl) ?_ rfl ?_
 rotate_left
 ·go_simp
  try with_reducible rfl
 simp only [nz]
 refine pl_t 5 (?_) (by rfl) ?_ rfl ?_
 rotate_left
 ·go_simp
  try with_reducible rfl
 simp only [nz]
 refine pl_t 6 (.int .i64 3) (by rfl) (pl_one rfl rfl ck Tryz.underlying3 rfl) rfl ?_
 simp only [nz]
 refine pl_run (d := some 7) (v := .slice (some ⟨w1.heap.size, 0, none⟩) 1 1) (w' := w1.alloc (.cells #[.int .i64 3] 3)) (by rfl) (ex_bsi rfl rfl (run_bsi 3 _)) rfl ?_
 simp only [nz]
 refine pl_call (d := some 8) (by rfl) (by go_simp; first | done | exact ⟨rfl, rfl⟩ | with_reducible rfl) rfl ?_
 refine (nums_on X v zs [3] _ 1 w1 h1 rfl rfl (by omega) (one_le (by decide)) (by simp; omega)).mono ?_
 rintro _ w2 ⟨v2, rfl, hW2, hO2, hr2⟩
 refine ⟨_, rfl, ?_⟩
 simp only [nz]
 refine pl_nil ?_
 have hR2 := wr_kept h hs1 hO2 hR1
 have T := wr_trans (Off.of_below hB1) (rowon_refl w v) hO2 hr2
 have hb2 := hb.trans (wr_low h hX T.1)
 have hW2 : WrAt w2 X v2 (zs ++ putL 3) false := by simpa using hW2
 have MA := hat hR2
 have ck := MA.k
 rw [hkk] at ck
 have HF0 : ∀ {v' : Value} {e' : Ending} {w' wz : World}, Off (WrF X v) w wz → RowOn w v v' → WrOn X v' (zs ++ putL 3) ([m.ce, m.cl, m.cv].flatMap putL ++ hdsL m.he.xs) wz e' w' → WrOn X v zs (putL 3 ++ m.body) w e' w' := fun o r q => by rw [hbody]; exact WrOn.next o r q
 have cV := wchange_on X v2 (zs ++ putL 3) m.ce m.cl m.cv m.he w0 w2 hf.ce hf.cl hf.cv am.he hb2 hX hf.hn hf.he hW2 (by rw [List.length_append]; omega)
 have rc : w2.rangeAt w.heap.size 43 [.int .i64 m.ce, .int .i64 m.cl, .int .i64 m.cv, m.he.val] := fun j u hj => by
  rcases j with _ | _ | _ | _ | j
  ·cases hj; exact MA.ce
  ·cases hj; exact MA.cl
  ·cases hj; exact MA.cv
  ·cases hj; exact MA.he
  ·cases hj
 go_upto_region 9 with fail
 try simp only [Act.put]
 refine pl_begin ?_
 refine pl_t 32 (?_) (by rfl) ?_ rfl ?_
 rotate_left
 ·go_simp
  try with_reducible rfl
 simp only [nz]
 refine pl_t 33 (?_) (by rfl) ?_ rfl ?_
 rotate_left
 ·go_simp
  try with_reducible rfl
 simp only [nz]
 refine pl_t 34 (.agg [.int .i64 m.ce, .int .i64 m.cl, .int .i64 m.cv, m.he.val].toArray) (by rfl) (ex_mid rfl rfl rc Tryz.underlying60 rfl iszCh) rfl ?_
 simp only [nz]
 refine pl_call (d := some 35) (by rfl) (by go_simp; first | done | exact ⟨rfl, rfl⟩ | with_reducible rfl) rfl ?_
 refine (cV).mono ?_
 rintro _ w4 hfin
 have HF := hide (HF0 T.1 T.2 hfin)
 obtain ⟨v9, rfl, g1, g2, g3⟩ := hfin
 refine ⟨_, rfl, ?_⟩
 simp only [nz]
 refine pl_nil ?_
 go_wp2_with fail
 go_end0
 exact HF.out
set_option maxRecDepth 100000 in
set_option maxHeartbeats 2000000 in
theorem wm4_on (X : Nat) (v : Value) (zs : List Int) (m : Mg) (w0 w : World) (om : m.ok) (am : m.At w0) (hf : m.Fine) (hk : m.k = 4) (hb : Below w0.heap.size w0 w) (hX : w0.heap.size ≤ X) (h : WrAt w X v zs false) (hz : zs.length ≤ 100000) : Calls Tryz.prog 85 #[.pointer (some ⟨X, 0, none⟩), .agg m.ms.cells.toArray] w fun e w' => WrOn X v zs m.bytes w e w' := by
 have hall := hf.all
 have hbd : m.bytes = putL 4 ++ m.body := by unfold Mg.bytes; rw [hk]
 rw [hbd, List.length_append] at hall
 rw [hbd]
 clear hbd
 have hat : ∀ {w' : World} {b : Nat}, w'.rangeAt b 0 m.ms.cells → m.ms.at w' b := fun hr => om.ms.at hr
 have hkk : m.ms.k = 4 := hk
 have hbody : m.body = [m.e, m.l, m.v].flatMap putL ++ evsL m.ne.xs := by unfold Mg.body; rw [hk]; rfl
 rw [hbody, List.length_append] at hall
 obtain ⟨q, hq⟩ : ∃ q, Hid (m.ms.cells = q) := ⟨_, hide rfl⟩
 rw [hq.out]
 simp only [hq.out] at hat
 clear hq
 obtain ⟨hB1, hR1, hs1⟩ := boxed_new w q 63
 go_enter Tryz.func85, Tryz.ntmps85
 go_upto_region 1 with fail
 obtain ⟨w1, hw1⟩ : ∃ W, w.alloc (.cells q.toArray 63) = W := ⟨_, rfl⟩
 rw [hw1] at hB1 hR1 hs1 ⊢
 have h1 := h.below hB1
 have hXl := h.lt
 clear hw1
 have MA := hat hR1
 have ck := MA.k
 rw [hkk] at ck
 try simp only [Act.put]
 refine pl_begin ?_
 refine pl_t 4 (?_) (by rfl) ?_ rfl ?_
 rotate_left
 ·go_simp
  try with_reducible rfl
 simp only [nz]
 refine pl_t 5 (?_) (by rfl) ?_ rfl ?_
 rotate_left
 ·go_simp
  try with_reducible rfl
 simp only [nz]
 refine pl_t 6 (.int .i64 4) (by rfl) (pl_one rfl rfl ck Tryz.underlying3 rfl) rfl ?_
 simp only [nz]
 refine pl_run (d := some 7) (v := .slice (some ⟨w1.heap.size, 0, none⟩) 1 1) (w' := w1.alloc (.cells #[.int .i64 4] 3)) (by rfl) (ex_bsi rfl rfl (run_bsi 4 _)) rfl ?_
 simp only [nz]
 refine pl_call (d := some 8) (by rfl) (by go_simp; first | done | exact ⟨rfl, rfl⟩ | with_reducible rfl) rfl ?_
 refine (nums_on X v zs [4] _ 1 w1 h1 rfl rfl (by omega) (one_le (by decide)) (by simp; omega)).mono ?_
 rintro _ w2 ⟨v2, rfl, hW2, hO2, hr2⟩
 refine ⟨_, rfl, ?_⟩
 simp only [nz]
 refine pl_nil ?_
 have hR2 := wr_kept h hs1 hO2 hR1
 have T := wr_trans (Off.of_below hB1) (rowon_refl w v) hO2 hr2
 have hb2 := hb.trans (wr_low h hX T.1)
 have hW2 : WrAt w2 X v2 (zs ++ putL 4) false := by simpa using hW2
 have MA := hat hR2
 have ck := MA.k
 rw [hkk] at ck
 have HF0 : ∀ {v' : Value} {e' : Ending} {w' wz : World}, Off (WrF X v) w wz → RowOn w v v' → WrOn X v' (zs ++ putL 4 ++ [m.e, m.l, m.v].flatMap putL) (evsL m.ne.xs) wz e' w' → WrOn X v zs (putL 4 ++ m.body) w e' w' := fun o r q => by
  rw [hbody, ← List.append_assoc]
  rw [List.append_assoc zs] at q
  exact WrOn.next o r q
 have cN := nums_on X v2 (zs ++ putL 4) [m.e, m.l, m.v] #[.int .i64 m.e, .int .i64 m.l, .int .i64 m.v] 3 w2 hW2 rfl rfl (by omega) (one_two_three hf.e hf.l hf.v) (by rw [List.length_append]; omega)
 have cE := fun v' w' (hb' : Below w0.heap.size w0 w') (h' : WrAt w' X v' (zs ++ putL 4 ++ [m.e, m.l, m.v].flatMap putL) false) => wlistE_on X v' (zs ++ putL 4 ++ [m.e, m.l, m.v].flatMap putL) m.ne w0 w' am.ne hb' hX h' hf.nn (fun g hg v3 zs3 w3 _ h3 hl3 => wenv_on X v3 zs3 g (am.ne.2.1 g hg) (hf.ne g hg) w3 h3 hl3) (by unfold evsL at hall; simp only [List.length_append] at hall ⊢; omega)
 have de := MA.e
 have dl := MA.l
 have dv := MA.v
 go_upto_region 11 with fail
 try simp only [Act.put]
 refine pl_begin ?_
 refine pl_t 38 (?_) (by rfl) ?_ rfl ?_
 rotate_left
 ·go_simp
  try with_reducible rfl
 simp only [nz]
 refine pl_t 39 (?_) (by rfl) ?_ rfl ?_
 rotate_left
 ·go_simp
  try with_reducible rfl
 simp only [nz]
 refine pl_t 40 (.int .i64 m.e) (by rfl) (pl_one rfl rfl de Tryz.underlying3 rfl) rfl ?_
 simp only [nz]
 refine pl_t 41 (?_) (by rfl) ?_ rfl ?_
 rotate_left
 ·go_simp
  try with_reducible rfl
 simp only [nz]
 refine pl_t 42 (.int .i64 m.l) (by rfl) (pl_one rfl rfl dl Tryz.underlying3 rfl) rfl ?_
 simp only [nz]
 refine pl_t 43 (?_) (by rfl) ?_ rfl ?_
 rotate_left
 ·go_simp
  try with_reducible rfl
 simp only [nz]
 refine pl_t 44 (.int .i64 m.v) (by rfl) (pl_one rfl rfl dv Tryz.underlying3 rfl) rfl ?_
 simp only [nz]
 refine pl_run (d := some 45) (v := .slice (some ⟨w2.heap.size, 0, none⟩) 3 3) (w' := w2.alloc (.cells #[.int .i64 m.e, .int .i64 m.l, .int .i64 m.v] 3)) (by rfl) (ex_bsi3 rfl rfl rfl rfl (run_bsi3 m.e m.l m.v _)) rfl ?_
 simp only [nz]
 refine pl_call (d := some 46) (by rfl) (by go_simp; first | done | exact ⟨rfl, rfl⟩ | with_reducible rfl) rfl ?_
 refine (cN).mono ?_
 rintro _ w3 ⟨v3, rfl, hW3, hO3, hr3⟩
 refine ⟨_, rfl, ?_⟩
 simp only [nz]
 refine pl_nil ?_
 have T12 := wr_trans hO2 hr2 hO3 hr3
 have hR3 := wr_kept h hs1 T12.1 hR1
 have T := wr_trans T.1 T.2 hO3 hr3
 have hb3 := hb.trans (wr_low h hX T.1)
 have MA := hat hR3
 have cE3 := cE v3 w3 hb3 hW3
 have dn := MA.ne
 have dn : w3.cell? ⟨w.heap.size, 47, none⟩ = some m.ne.val := dn
 unfold evsL at HF0
 clear cE cN
 go_upto_region 12 with fail
 try simp only [Act.put]
 refine pl_begin ?_
 refine pl_t 47 (?_) (by rfl) ?_ rfl ?_
 rotate_left
 ·go_simp
  try with_reducible rfl
 simp only [nz]
 refine pl_t 48 (?_) (by rfl) ?_ rfl ?_
 rotate_left
 ·go_simp
  try with_reducible rfl
 simp only [nz]
 refine pl_t 49 (m.ne.val) (by rfl) (pl_one rfl rfl dn Tryz.underlying61 rfl) rfl ?_
 simp only [nz]
 refine pl_t 50 (?_) (by rfl) ?_ rfl ?_
 rotate_left
 ·go_simp
  try with_reducible rfl
 simp only [nz]
 refine pl_t 51 (?_) (by rfl) ?_ rfl ?_
 rotate_left
 ·go_simp
  try with_reducible rfl
 simp only [nz]
 refine pl_call (d := some 52) (by rfl) (by go_simp; first | done | exact ⟨rfl, rfl⟩ | with_reducible rfl) rfl ?_
 refine (cE3).mono ?_
 rintro _ w4 hfin
 have HF := hide (HF0 T.1 T.2 hfin)
 obtain ⟨v9, rfl, g1, g2, g3⟩ := hfin
 refine ⟨_, rfl, ?_⟩
 simp only [nz]
 refine pl_nil ?_
 go_wp2_with fail
 go_end0
 exact HF.out
set_option maxRecDepth 100000 in
set_option maxHeartbeats 2000000 in
theorem wm5_on (X : Nat) (v : Value) (zs : List Int) (m : Mg) (w0 w : World) (om : m.ok) (am : m.At w0) (hf : m.Fine) (hk : m.k = 5) (hb : Below w0.heap.size w0 w) (hX : w0.heap.size ≤ X) (h : WrAt w X v zs false) (hz : zs.length ≤ 100000) : Calls Tryz.prog 85 #[.pointer (some ⟨X, 0, none⟩), .agg m.ms.cells.toArray] w fun e w' => WrOn X v zs m.bytes w e w' := by
 have hall := hf.all
 have hbd : m.bytes = putL 5 ++ m.body := by unfold Mg.bytes; rw [hk]
 rw [hbd, List.length_append] at hall
 rw [hbd]
 clear hbd
 have hat : ∀ {w' : World} {b : Nat}, w'.rangeAt b 0 m.ms.cells → m.ms.at w' b := fun hr => om.ms.at hr
 have hkk : m.ms.k = 5 := hk
 have hbody : m.body = putL m.e ++ m.d := by unfold Mg.body; rw [hk]; rfl
 rw [hbody, List.length_append] at hall
 obtain ⟨q, hq⟩ : ∃ q, Hid (m.ms.cells = q) := ⟨_, hide rfl⟩
 rw [hq.out]
 simp only [hq.out] at hat
 clear hq
 obtain ⟨hB1, hR1, hs1⟩ := boxed_new w q 63
 go_enter Tryz.func85, Tryz.ntmps85
 go_upto_region 1 with fail
 obtain ⟨w1, hw1⟩ : ∃ W, w.alloc (.cells q.toArray 63) = W := ⟨_, rfl⟩
 rw [hw1] at hB1 hR1 hs1 ⊢
 have h1 := h.below hB1
 have hXl := h.lt
 clear hw1
 have MA := hat hR1
 have ck := MA.k
 rw [hkk] at ck
 try simp only [Act.put]
 refine pl_begin ?_
 refine pl_t 4 (?_) (by rfl) ?_ rfl ?_
 rotate_left
 ·go_simp
  try with_reducible rfl
 simp only [nz]
 refine pl_t 5 (?_) (by rfl) ?_ rfl ?_
 rotate_left
 ·go_simp
  try with_reducible rfl
 simp only [nz]
 refine pl_t 6 (.int .i64 5) (by rfl) (pl_one rfl rfl ck Tryz.underlying3 rfl) rfl ?_
 simp only [nz]
 refine pl_run (d := some 7) (v := .slice (some ⟨w1.heap.size, 0, none⟩) 1 1) (w' := w1.alloc (.cells #[.int .i64 5] 3)) (by rfl) (ex_bsi rfl rfl (run_bsi 5 _)) rfl ?_
 simp only [nz]
 refine pl_call (d := some 8) (by rfl) (by go_simp; first | done | exact ⟨rfl, rfl⟩ | with_reducible rfl) rfl ?_
 refine (nums_on X v zs [5] _ 1 w1 h1 rfl rfl (by omega) (one_le (by decide)) (by simp; omega)).mono ?_
 rintro _ w2 ⟨v2, rfl, hW2, hO2, hr2⟩
 refine ⟨_, rfl, ?_⟩
 simp only [nz]
 refine pl_nil ?_
 have hR2 := wr_kept h hs1 hO2 hR1
 have T := wr_trans (Off.of_below hB1) (rowon_refl w v) hO2 hr2
 have hb2 := hb.trans (wr_low h hX T.1)
 have hW2 : WrAt w2 X v2 (zs ++ putL 5) false := by simpa using hW2
 have MA := hat hR2
 have ck := MA.k
 rw [hkk] at ck
 have HF0 : ∀ {v' : Value} {e' : Ending} {w' wz : World}, Off (WrF X v) w wz → RowOn w v v' → WrOn X v' (zs ++ putL 5 ++ putL m.e) m.d wz e' w' → WrOn X v zs (putL 5 ++ m.body) w e' w' := fun o r q => by
  rw [hbody, ← List.append_assoc]
  rw [List.append_assoc zs] at q
  exact WrOn.next o r q
 have cN := nums_on X v2 (zs ++ putL 5) [m.e] #[.int .i64 m.e] 1 w2 hW2 rfl rfl (by omega) (one_le hf.e) (by simp; omega)
 have de := MA.e
 go_upto_region 14 with fail
 try simp only [Act.put]
 refine pl_begin ?_
 refine pl_t 55 (?_) (by rfl) ?_ rfl ?_
 rotate_left
 ·go_simp
  try with_reducible rfl
 simp only [nz]
 refine pl_t 56 (?_) (by rfl) ?_ rfl ?_
 rotate_left
 ·go_simp
  try with_reducible rfl
 simp only [nz]
 refine pl_t 57 (.int .i64 m.e) (by rfl) (pl_one rfl rfl de Tryz.underlying3 rfl) rfl ?_
 simp only [nz]
 refine pl_run (d := some 58) (v := .slice (some ⟨w2.heap.size, 0, none⟩) 1 1) (w' := w2.alloc (.cells #[.int .i64 m.e] 3)) (by rfl) (ex_bsi rfl rfl (run_bsi m.e _)) rfl ?_
 simp only [nz]
 refine pl_call (d := some 59) (by rfl) (by go_simp; first | done | exact ⟨rfl, rfl⟩ | with_reducible rfl) rfl ?_
 refine (cN).mono ?_
 rintro _ w3 ⟨v3, rfl, hW3, hO3, hr3⟩
 refine ⟨_, rfl, ?_⟩
 simp only [nz]
 refine pl_nil ?_
 have T12 := wr_trans hO2 hr2 hO3 hr3
 have hR3 := wr_kept h hs1 T12.1 hR1
 have T := wr_trans T.1 T.2 hO3 hr3
 have hb3 := hb.trans (wr_low h hX T.1)
 have MA := hat hR3
 have hW3 : WrAt w3 X v3 (zs ++ putL 5 ++ putL m.e) false := by simpa using hW3
 have rd := MA.d
 have rd : w3.rangeAt w.heap.size 48 (v8 m.d) := rd
 have hd32 := om.dl
 have hdb := om.db
 have hs3 := hO3.size
 have hs2 := hO2.size
 obtain ⟨Z, hZ⟩ : ∃ Z, Hid (w.heap.size = Z) := ⟨_, hide rfl⟩
 have hZX : Z ≠ X := by rw [← hZ.out]; omega
 have hZ3 : Z < w3.heap.size := by rw [← hZ.out]; omega
 rw [hZ.out] at rd ⊢
 have hrow : RowAt w3 (some ⟨Z, 48, none⟩) m.d := ⟨by rw [hd32]; decide, hdb, .inr ⟨_, _, rfl, hZ3, rd⟩⟩
 have cr := raw_on X v3 (zs ++ putL 5 ++ putL m.e) (some ⟨Z, 48, none⟩) 32 m.d w3 hW3 hrow (.inr (fun x hx => by cases hx; exact hZX)) (by simp only [List.length_append]; omega)
 rw [show m.d.length = 32 from hd32] at cr
 have HT := hide T
 clear cN MA hR3 hR2 hR1 hd32 T T12
 go_wp2_with fail
 refine cr.mono ?_
 intro _ w4 hfin
 have HF := hide (HF0 HT.out.1 HT.out.2 hfin)
 obtain ⟨v9, rfl, g1, g2, g3⟩ := hfin
 go_wp2_with fail
 go_end0
 exact HF.out
set_option maxRecDepth 100000 in
set_option maxHeartbeats 2000000 in
theorem wm6_on (X : Nat) (v : Value) (zs : List Int) (m : Mg) (w0 w : World) (om : m.ok) (am : m.At w0) (hf : m.Fine) (hk : m.k = 6) (hb : Below w0.heap.size w0 w) (hX : w0.heap.size ≤ X) (h : WrAt w X v zs false) (hz : zs.length ≤ 100000) : Calls Tryz.prog 85 #[.pointer (some ⟨X, 0, none⟩), .agg m.ms.cells.toArray] w fun e w' => WrOn X v zs m.bytes w e w' := by
 have hall := hf.all
 have hbd : m.bytes = putL 6 ++ m.body := by unfold Mg.bytes; rw [hk]
 rw [hbd, List.length_append] at hall
 rw [hbd]
 clear hbd
 have hat : ∀ {w' : World} {b : Nat}, w'.rangeAt b 0 m.ms.cells → m.ms.at w' b := fun hr => om.ms.at hr
 have hkk : m.ms.k = 6 := hk
 have hbody : m.body = [m.e, m.s].flatMap putL := by unfold Mg.body; rw [hk]; rfl
 rw [hbody] at hall
 obtain ⟨q, hq⟩ : ∃ q, Hid (m.ms.cells = q) := ⟨_, hide rfl⟩
 rw [hq.out]
 simp only [hq.out] at hat
 clear hq
 obtain ⟨hB1, hR1, hs1⟩ := boxed_new w q 63
 go_enter Tryz.func85, Tryz.ntmps85
 go_upto_region 1 with fail
 obtain ⟨w1, hw1⟩ : ∃ W, w.alloc (.cells q.toArray 63) = W := ⟨_, rfl⟩
 rw [hw1] at hB1 hR1 hs1 ⊢
 have h1 := h.below hB1
 have hXl := h.lt
 clear hw1
 have MA := hat hR1
 have ck := MA.k
 rw [hkk] at ck
 try simp only [Act.put]
 refine pl_begin ?_
 refine pl_t 4 (?_) (by rfl) ?_ rfl ?_
 rotate_left
 ·go_simp
  try with_reducible rfl
 simp only [nz]
 refine pl_t 5 (?_) (by rfl) ?_ rfl ?_
 rotate_left
 ·go_simp
  try with_reducible rfl
 simp only [nz]
 refine pl_t 6 (.int .i64 6) (by rfl) (pl_one rfl rfl ck Tryz.underlying3 rfl) rfl ?_
 simp only [nz]
 refine pl_run (d := some 7) (v := .slice (some ⟨w1.heap.size, 0, none⟩) 1 1) (w' := w1.alloc (.cells #[.int .i64 6] 3)) (by rfl) (ex_bsi rfl rfl (run_bsi 6 _)) rfl ?_
 simp only [nz]
 refine pl_call (d := some 8) (by rfl) (by go_simp; first | done | exact ⟨rfl, rfl⟩ | with_reducible rfl) rfl ?_
 refine (nums_on X v zs [6] _ 1 w1 h1 rfl rfl (by omega) (one_le (by decide)) (by simp; omega)).mono ?_
 rintro _ w2 ⟨v2, rfl, hW2, hO2, hr2⟩
 refine ⟨_, rfl, ?_⟩
 simp only [nz]
 refine pl_nil ?_
 have hR2 := wr_kept h hs1 hO2 hR1
 have T := wr_trans (Off.of_below hB1) (rowon_refl w v) hO2 hr2
 have hb2 := hb.trans (wr_low h hX T.1)
 have hW2 : WrAt w2 X v2 (zs ++ putL 6) false := by simpa using hW2
 have MA := hat hR2
 have ck := MA.k
 rw [hkk] at ck
 have HF0 : ∀ {v' : Value} {e' : Ending} {w' wz : World}, Off (WrF X v) w wz → RowOn w v v' → WrOn X v' (zs ++ putL 6) ([m.e, m.s].flatMap putL) wz e' w' → WrOn X v zs (putL 6 ++ m.body) w e' w' := fun o r q => by rw [hbody]; exact WrOn.next o r q
 have cN := nums_on X v2 (zs ++ putL 6) [m.e, m.s] #[.int .i64 m.e, .int .i64 m.s] 2 w2 hW2 rfl rfl (by omega) (two_le hf.e hf.s) (by rw [List.length_append]; omega)
 have de := MA.e
 have ds := MA.s
 go_upto_region 17 with fail
 try simp only [Act.put]
 refine pl_begin ?_
 refine pl_t 66 (?_) (by rfl) ?_ rfl ?_
 rotate_left
 ·go_simp
  try with_reducible rfl
 simp only [nz]
 refine pl_t 67 (?_) (by rfl) ?_ rfl ?_
 rotate_left
 ·go_simp
  try with_reducible rfl
 simp only [nz]
 refine pl_t 68 (.int .i64 m.e) (by rfl) (pl_one rfl rfl de Tryz.underlying3 rfl) rfl ?_
 simp only [nz]
 refine pl_t 69 (?_) (by rfl) ?_ rfl ?_
 rotate_left
 ·go_simp
  try with_reducible rfl
 simp only [nz]
 refine pl_t 70 (.int .i64 m.s) (by rfl) (pl_one rfl rfl ds Tryz.underlying3 rfl) rfl ?_
 simp only [nz]
 refine pl_run (d := some 71) (v := .slice (some ⟨w2.heap.size, 0, none⟩) 2 2) (w' := w2.alloc (.cells #[.int .i64 m.e, .int .i64 m.s] 3)) (by rfl) (ex_bsi2 rfl rfl rfl (run_bsi2 m.e m.s _)) rfl ?_
 simp only [nz]
 refine pl_call (d := some 72) (by rfl) (by go_simp; first | done | exact ⟨rfl, rfl⟩ | with_reducible rfl) rfl ?_
 refine (cN).mono ?_
 rintro _ w4 hfin
 have HF := hide (HF0 T.1 T.2 hfin)
 obtain ⟨v9, rfl, g1, g2, g3⟩ := hfin
 refine ⟨_, rfl, ?_⟩
 simp only [nz]
 refine pl_nil ?_
 go_wp2_with fail
 go_end0
 exact HF.out
set_option maxRecDepth 100000 in
set_option maxHeartbeats 2000000 in
theorem wm7_on (X : Nat) (v : Value) (zs : List Int) (m : Mg) (w0 w : World) (om : m.ok) (am : m.At w0) (hf : m.Fine) (hk : m.k = 7) (hb : Below w0.heap.size w0 w) (hX : w0.heap.size ≤ X) (h : WrAt w X v zs false) (hz : zs.length ≤ 100000) : Calls Tryz.prog 85 #[.pointer (some ⟨X, 0, none⟩), .agg m.ms.cells.toArray] w fun e w' => WrOn X v zs m.bytes w e w' := by
 have hall := hf.all
 have hbd : m.bytes = putL 7 ++ m.body := by unfold Mg.bytes; rw [hk]
 rw [hbd, List.length_append] at hall
 rw [hbd]
 clear hbd
 have hat : ∀ {w' : World} {b : Nat}, w'.rangeAt b 0 m.ms.cells → m.ms.at w' b := fun hr => om.ms.at hr
 have hkk : m.ms.k = 7 := hk
 have hbody : m.body = batL m.q (m.rs.xs.map BRq.of) ++ ctL m.ct m.cs.xs := by unfold Mg.body; rw [hk]; rfl
 rw [hbody, List.length_append] at hall
 obtain ⟨q, hq⟩ : ∃ q, Hid (m.ms.cells = q) := ⟨_, hide rfl⟩
 rw [hq.out]
 simp only [hq.out] at hat
 clear hq
 obtain ⟨hB1, hR1, hs1⟩ := boxed_new w q 63
 go_enter Tryz.func85, Tryz.ntmps85
 go_upto_region 1 with fail
 obtain ⟨w1, hw1⟩ : ∃ W, w.alloc (.cells q.toArray 63) = W := ⟨_, rfl⟩
 rw [hw1] at hB1 hR1 hs1 ⊢
 have h1 := h.below hB1
 have hXl := h.lt
 clear hw1
 have MA := hat hR1
 have ck := MA.k
 rw [hkk] at ck
 try simp only [Act.put]
 refine pl_begin ?_
 refine pl_t 4 (?_) (by rfl) ?_ rfl ?_
 rotate_left
 ·go_simp
  try with_reducible rfl
 simp only [nz]
 refine pl_t 5 (?_) (by rfl) ?_ rfl ?_
 rotate_left
 ·go_simp
  try with_reducible rfl
 simp only [nz]
 refine pl_t 6 (.int .i64 7) (by rfl) (pl_one rfl rfl ck Tryz.underlying3 rfl) rfl ?_
 simp only [nz]
 refine pl_run (d := some 7) (v := .slice (some ⟨w1.heap.size, 0, none⟩) 1 1) (w' := w1.alloc (.cells #[.int .i64 7] 3)) (by rfl) (ex_bsi rfl rfl (run_bsi 7 _)) rfl ?_
 simp only [nz]
 refine pl_call (d := some 8) (by rfl) (by go_simp; first | done | exact ⟨rfl, rfl⟩ | with_reducible rfl) rfl ?_
 refine (nums_on X v zs [7] _ 1 w1 h1 rfl rfl (by omega) (one_le (by decide)) (by simp; omega)).mono ?_
 rintro _ w2 ⟨v2, rfl, hW2, hO2, hr2⟩
 refine ⟨_, rfl, ?_⟩
 simp only [nz]
 refine pl_nil ?_
 have hR2 := wr_kept h hs1 hO2 hR1
 have T := wr_trans (Off.of_below hB1) (rowon_refl w v) hO2 hr2
 have hb2 := hb.trans (wr_low h hX T.1)
 have hW2 : WrAt w2 X v2 (zs ++ putL 7) false := by simpa using hW2
 have MA := hat hR2
 have ck := MA.k
 rw [hkk] at ck
 have HF0 : ∀ {v' : Value} {e' : Ending} {w' wz : World}, Off (WrF X v) w wz → RowOn w v v' → WrOn X v' (zs ++ putL 7 ++ batL m.q (m.rs.xs.map BRq.of)) (ctL m.ct m.cs.xs) wz e' w' → WrOn X v zs (putL 7 ++ m.body) w e' w' := fun o r q => by
  rw [hbody, ← List.append_assoc]
  rw [List.append_assoc zs] at q
  exact WrOn.next o r q
 have cB := wbatch_on X v2 (zs ++ putL 7) m.q m.rs w2 (am.rs.below hb2) hW2 hf.rn hf.rs (by simp only [List.length_append]; omega)
 have cC := fun v' w' (hb' : Below w0.heap.size w0 w') (h' : WrAt w' X v' (zs ++ putL 7 ++ batL m.q (m.rs.xs.map BRq.of)) false) => wcert_on X v' (zs ++ putL 7 ++ batL m.q (m.rs.xs.map BRq.of)) m.ct m.cs w0 w' om.ct am.cs hb' hX hf.cn h' (by simp only [List.length_append]; omega)
 have hic : (Tryz.prog.info? 31).map (·.size) = some (certL m.ct m.cs).length := by rw [show (certL m.ct m.cs).length = 37 by simp [certL, om.ct.len]]; exact iszCe
 have rb : w2.rangeAt w.heap.size 5 [.bool m.q, m.rs.val] := fun j u hj => by
  rcases j with _ | _ | j
  ·cases hj; exact MA.q
  ·cases hj; exact MA.rs
  ·cases hj
 go_upto_region 19 with fail
 try simp only [Act.put]
 refine pl_begin ?_
 refine pl_t 75 (?_) (by rfl) ?_ rfl ?_
 rotate_left
 ·go_simp
  try with_reducible rfl
 simp only [nz]
 refine pl_t 76 (?_) (by rfl) ?_ rfl ?_
 rotate_left
 ·go_simp
  try with_reducible rfl
 simp only [nz]
 refine pl_t 77 (.agg [.bool m.q, m.rs.val].toArray) (by rfl) (ex_mid rfl rfl rb Tryz.underlying24 rfl iszBa) rfl ?_
 simp only [nz]
 refine pl_call (d := some 78) (by rfl) (by go_simp; first | done | exact ⟨rfl, rfl⟩ | with_reducible rfl) rfl ?_
 refine (cB).mono ?_
 rintro _ w3 ⟨v3, rfl, hW3, hO3, hr3⟩
 refine ⟨_, rfl, ?_⟩
 simp only [nz]
 refine pl_nil ?_
 have T12 := wr_trans hO2 hr2 hO3 hr3
 have hR3 := wr_kept h hs1 T12.1 hR1
 have T := wr_trans T.1 T.2 hO3 hr3
 have hb3 := hb.trans (wr_low h hX T.1)
 have MA := hat hR3
 have cC3 := cC v3 w3 hb3 hW3
 have rc := MA.ct
 have rc : w3.rangeAt w.heap.size 80 (certL m.ct m.cs) := rc
 clear cC cB
 go_upto_region 20 with fail
 try simp only [Act.put]
 refine pl_begin ?_
 refine pl_t 79 (?_) (by rfl) ?_ rfl ?_
 rotate_left
 ·go_simp
  try with_reducible rfl
 simp only [nz]
 refine pl_t 80 (?_) (by rfl) ?_ rfl ?_
 rotate_left
 ·go_simp
  try with_reducible rfl
 simp only [nz]
 refine pl_t 81 (.agg (certL m.ct m.cs).toArray) (by rfl) (ex_mid rfl rfl rc Tryz.underlying31 rfl hic) rfl ?_
 simp only [nz]
 refine pl_call (d := some 82) (by rfl) (by go_simp; first | done | exact ⟨rfl, rfl⟩ | with_reducible rfl) rfl ?_
 refine (cC3).mono ?_
 rintro _ w4 hfin
 have HF := hide (HF0 T.1 T.2 hfin)
 obtain ⟨v9, rfl, g1, g2, g3⟩ := hfin
 refine ⟨_, rfl, ?_⟩
 simp only [nz]
 refine pl_nil ?_
 go_wp2_with fail
 go_end0
 exact HF.out
set_option maxRecDepth 100000 in
set_option maxHeartbeats 2000000 in
theorem wm8_on (X : Nat) (v : Value) (zs : List Int) (m : Mg) (w0 w : World) (om : m.ok) (am : m.At w0) (hf : m.Fine) (hk : m.k = 8) (hb : Below w0.heap.size w0 w) (hX : w0.heap.size ≤ X) (h : WrAt w X v zs false) (hz : zs.length ≤ 100000) : Calls Tryz.prog 85 #[.pointer (some ⟨X, 0, none⟩), .agg m.ms.cells.toArray] w fun e w' => WrOn X v zs m.bytes w e w' := by
 have hall := hf.all
 have hbd : m.bytes = putL 8 ++ m.body := by unfold Mg.bytes; rw [hk]
 rw [hbd, List.length_append] at hall
 rw [hbd]
 clear hbd
 have hat : ∀ {w' : World} {b : Nat}, w'.rangeAt b 0 m.ms.cells → m.ms.at w' b := fun hr => om.ms.at hr
 have hkk : m.ms.k = 8 := hk
 have hbody : m.body = textL m.st ++ sgsL m.sg.xs := by unfold Mg.body; rw [hk]; rfl
 rw [hbody, List.length_append] at hall
 obtain ⟨q, hq⟩ : ∃ q, Hid (m.ms.cells = q) := ⟨_, hide rfl⟩
 rw [hq.out]
 simp only [hq.out] at hat
 clear hq
 obtain ⟨hB1, hR1, hs1⟩ := boxed_new w q 63
 go_enter Tryz.func85, Tryz.ntmps85
 go_upto_region 1 with fail
 obtain ⟨w1, hw1⟩ : ∃ W, w.alloc (.cells q.toArray 63) = W := ⟨_, rfl⟩
 rw [hw1] at hB1 hR1 hs1 ⊢
 have h1 := h.below hB1
 have hXl := h.lt
 clear hw1
 have MA := hat hR1
 have ck := MA.k
 rw [hkk] at ck
 try simp only [Act.put]
 refine pl_begin ?_
 refine pl_t 4 (?_) (by rfl) ?_ rfl ?_
 rotate_left
 ·go_simp
  try with_reducible rfl
 simp only [nz]
 refine pl_t 5 (?_) (by rfl) ?_ rfl ?_
 rotate_left
 ·go_simp
  try with_reducible rfl
 simp only [nz]
 refine pl_t 6 (.int .i64 8) (by rfl) (pl_one rfl rfl ck Tryz.underlying3 rfl) rfl ?_
 simp only [nz]
 refine pl_run (d := some 7) (v := .slice (some ⟨w1.heap.size, 0, none⟩) 1 1) (w' := w1.alloc (.cells #[.int .i64 8] 3)) (by rfl) (ex_bsi rfl rfl (run_bsi 8 _)) rfl ?_
 simp only [nz]
 refine pl_call (d := some 8) (by rfl) (by go_simp; first | done | exact ⟨rfl, rfl⟩ | with_reducible rfl) rfl ?_
 refine (nums_on X v zs [8] _ 1 w1 h1 rfl rfl (by omega) (one_le (by decide)) (by simp; omega)).mono ?_
 rintro _ w2 ⟨v2, rfl, hW2, hO2, hr2⟩
 refine ⟨_, rfl, ?_⟩
 simp only [nz]
 refine pl_nil ?_
 have hR2 := wr_kept h hs1 hO2 hR1
 have T := wr_trans (Off.of_below hB1) (rowon_refl w v) hO2 hr2
 have hb2 := hb.trans (wr_low h hX T.1)
 have hW2 : WrAt w2 X v2 (zs ++ putL 8) false := by simpa using hW2
 have MA := hat hR2
 have ck := MA.k
 rw [hkk] at ck
 have HF0 : ∀ {v' : Value} {e' : Ending} {w' wz : World}, Off (WrF X v) w wz → RowOn w v v' → WrOn X v' (zs ++ putL 8 ++ textL m.st) (sgsL m.sg.xs) wz e' w' → WrOn X v zs (putL 8 ++ m.body) w e' w' := fun o r q => by
  rw [hbody, ← List.append_assoc]
  rw [List.append_assoc zs] at q
  exact WrOn.next o r q
 have cT := wtext_on X v2 (zs ++ putL 8) m.st w2 hW2 hf.st (by simp only [List.length_append]; omega)
 have cG := fun v' w' (hb' : Below w0.heap.size w0 w') (h' : WrAt w' X v' (zs ++ putL 8 ++ textL m.st) false) => wlistS_on X v' (zs ++ putL 8 ++ textL m.st) m.sg w0 w' am.sg hb' hX h' hf.gn (fun g hg v3 zs3 w3 _ h3 hl3 => wsign_on X v3 zs3 g (am.sg.2.1 g hg) w3 h3 hl3) (by unfold sgsL at hall; simp only [List.length_append] at hall ⊢; omega)
 have dst := MA.st
 have dst : w2.cell? ⟨w.heap.size, 117, none⟩ = some (.string m.st) := dst
 go_upto_region 22 with fail
 try simp only [Act.put]
 refine pl_begin ?_
 refine pl_t 85 (?_) (by rfl) ?_ rfl ?_
 rotate_left
 ·go_simp
  try with_reducible rfl
 simp only [nz]
 refine pl_t 86 (?_) (by rfl) ?_ rfl ?_
 rotate_left
 ·go_simp
  try with_reducible rfl
 simp only [nz]
 refine pl_t 87 (.string m.st) (by rfl) (pl_one rfl rfl dst Tryz.underlying9 rfl) rfl ?_
 simp only [nz]
 refine pl_call (d := some 88) (by rfl) (by go_simp; first | done | exact ⟨rfl, rfl⟩ | with_reducible rfl) rfl ?_
 refine (cT).mono ?_
 rintro _ w3 ⟨v3, rfl, hW3, hO3, hr3⟩
 refine ⟨_, rfl, ?_⟩
 simp only [nz]
 refine pl_nil ?_
 have T12 := wr_trans hO2 hr2 hO3 hr3
 have hR3 := wr_kept h hs1 T12.1 hR1
 have T := wr_trans T.1 T.2 hO3 hr3
 have hb3 := hb.trans (wr_low h hX T.1)
 have MA := hat hR3
 have cG3 := cG v3 w3 hb3 hW3
 have dg := MA.sg
 have dg : w3.cell? ⟨w.heap.size, 118, none⟩ = some m.sg.val := dg
 unfold sgsL at HF0
 clear cG cT
 go_upto_region 23 with fail
 try simp only [Act.put]
 refine pl_begin ?_
 refine pl_t 89 (?_) (by rfl) ?_ rfl ?_
 rotate_left
 ·go_simp
  try with_reducible rfl
 simp only [nz]
 refine pl_t 90 (?_) (by rfl) ?_ rfl ?_
 rotate_left
 ·go_simp
  try with_reducible rfl
 simp only [nz]
 refine pl_t 91 (m.sg.val) (by rfl) (pl_one rfl rfl dg Tryz.underlying29 rfl) rfl ?_
 simp only [nz]
 refine pl_t 92 (?_) (by rfl) ?_ rfl ?_
 rotate_left
 ·go_simp
  try with_reducible rfl
 simp only [nz]
 refine pl_t 93 (?_) (by rfl) ?_ rfl ?_
 rotate_left
 ·go_simp
  try with_reducible rfl
 simp only [nz]
 refine pl_call (d := some 94) (by rfl) (by go_simp; first | done | exact ⟨rfl, rfl⟩ | with_reducible rfl) rfl ?_
 refine (cG3).mono ?_
 rintro _ w4 hfin
 have HF := hide (HF0 T.1 T.2 hfin)
 obtain ⟨v9, rfl, g1, g2, g3⟩ := hfin
 refine ⟨_, rfl, ?_⟩
 simp only [nz]
 refine pl_nil ?_
 go_wp2_with fail
 go_end0
 exact HF.out
theorem wmsg_on (X : Nat) (v : Value) (zs : List Int) (m : Mg) (w0 w : World) (om : m.ok) (am : m.At w0) (hf : m.Fine) (h1 : 1 ≤ m.k) (h8 : m.k ≤ 8) (hb : Below w0.heap.size w0 w) (hX : w0.heap.size ≤ X) (h : WrAt w X v zs false) (hz : zs.length ≤ 100000) : Calls Tryz.prog 85 #[.pointer (some ⟨X, 0, none⟩), .agg m.ms.cells.toArray] w fun e w' => WrOn X v zs m.bytes w e w' := by
 have hk : m.k = 1 ∨ m.k = 2 ∨ m.k = 3 ∨ m.k = 4 ∨ m.k = 5 ∨ m.k = 6 ∨ m.k = 7 ∨ m.k = 8 := by omega
 rcases hk with hk | hk | hk | hk | hk | hk | hk | hk
 ·exact wm1_on X v zs m w0 w om am hf hk hb hX h hz
 ·exact wm2_on X v zs m w0 w om am hf hk hb hX h hz
 ·exact wm3_on X v zs m w0 w om am hf hk hb hX h hz
 ·exact wm4_on X v zs m w0 w om am hf hk hb hX h hz
 ·exact wm5_on X v zs m w0 w om am hf hk hb hX h hz
 ·exact wm6_on X v zs m w0 w om am hf hk hb hX h hz
 ·exact wm7_on X v zs m w0 w om am hf hk hb hX h hz
 ·exact wm8_on X v zs m w0 w om am hf hk hb hX h hz
set_option maxRecDepth 100000 in
set_option maxHeartbeats 2000000 in
theorem xtag_any (B : Nat) (v : Value) (zs d : List Int) (w : World) (h : Mine w B v zs) (hB : B ≤ w.heap.size) (hz : zs.length ≤ 10000000) (hd : d.length = 16) (hdb : ∀ z ∈ d, 0 ≤ z ∧ z < 256) :
  Calls Tryz.prog 89 #[v, .agg (v8 d).toArray] w fun e w' => ∃ v', e = .returned v' ∧ Mine w' B v' (zs ++ d) ∧ Off (ownF v) w w' ∧ RowOn w v v' := by
 obtain ⟨i0, hi, hz0, hz1, hz2⟩ := info_parts info8
 have hB1 : Below w.heap.size w (w.alloc (.cells (v8 d).toArray 89)) := (Below.refl _ _).alloc (Nat.le_refl _) _
 have hR1 := box_range w d 89
 have hs1 : w.heap.size < (w.alloc (.cells (v8 d).toArray 89)).heap.size := by simp
 have hown := h.from
 have h1 := h.below hB1
 have hO1 : Off (ownF v) w (w.alloc (.cells (v8 d).toArray 89)) := Off.of_below hB1
 obtain ⟨w1, hw1⟩ : ∃ w1, Hid (w.alloc (.cells (v8 d).toArray 89) = w1) := ⟨_, hide rfl⟩
 rw [hw1.out] at hB1 hR1 hs1 h1 hO1
 generalize hu : (v8 d).toArray = u at *
 go_enter Tryz.func89, Tryz.ntmps89
 go_upto_region 1 with fail
 rw [show w.alloc (.cells u 89) = w1 from hw1.out]
 clear hw1 hu h
 go_wp2_with fail
 go_loopw [0, 5] (fun oo iv wr' => ∃ (k : Nat) (o : Value), k ≤ 16 ∧ iv = .int .i64 (k : Int) ∧ o = oo ∧ Hid (Mine wr' B o (zs ++ d.take k) ∧ Off (ownF v) w1 wr' ∧ RowOn w1 v o)) (fun _ iv _ => 16 - (intOf iv).toNat)
 case atStart => exact ⟨0, _, by omega, rfl, rfl, hide ⟨by simpa using h1, Off.refl _ _, fun g hg => .inl hg⟩⟩
 case round =>
  clear h1
  obtain ⟨k, o, hk, rfl, ho, HK⟩ := hrel
  subst ho
  by_cases hlt : k < 16
  ·have k1 : (k : Int) < 16 := by omega
   obtain ⟨hM, hO, hRo⟩ := HK.out
   clear HK
   have hrow := range_at hR1 (hO.2 _ hs1 (fun hf => by have := (hown _ hf).2; omega))
   have ck : wr.cell? ⟨w.heap.size, k, none⟩ = some (.int .u8 (d.getD k 0)) := by
    have := hrow k (.int .u8 (d.getD k 0)) (by simp [v8, List.getElem?_eq_getElem (show k < d.length by omega)])
    rwa [Nat.zero_add] at this
   have hzk : 0 ≤ d.getD k 0 ∧ d.getD k 0 < 256 := hdb _ (by simp [List.getElem?_eq_getElem (show k < d.length by omega)])
   have HT : Hid (d.take (k + 1) = d.take k ++ [d.getD k 0]) := hide (by
    rw [List.take_add_one]; simp [List.getElem?_eq_getElem (show k < d.length by omega), List.getD_eq_getElem?_getD])
   have hlt2 : (d.take k).length = k := by rw [List.length_take]; omega
   obtain ⟨z, hzz⟩ : ∃ z, Hid (d.getD k 0 = z) := ⟨_, hide rfl⟩
   rw [hzz.out] at ck HT hzk
   obtain ⟨ys, hys⟩ : ∃ ys, Hid (zs ++ d.take k = ys) := ⟨_, hide rfl⟩
   have hyl : ys.length ≤ 10000016 := by rw [← hys.out, List.length_append, hlt2]; omega
   rw [hys.out] at hM
   have HY : Hid (zs ++ d.take (k + 1) = ys ++ [z]) := hide (by rw [HT.out, ← List.append_assoc, hys.out])
   have hBr : B ≤ wr.heap.size := by have := hO.size; omega
   clear hzz hys HT hlt2 hrow
   go_wp2_with (at_builtin; refine wpList_append_own_src2 _ rfl _ _ 36 36 rfl B 5 i0 (.int .u8 0) 1 1 Tryz.underlying36 hi hz0 hz1 hz2 rfl _ _ _ rfl (hM.1.alloc _) _ 1 _ rfl (b1_src _ _) ?c1 ?c2 ?c3 ?_)
   case c1 => unfold maxLen; omega
   case c2 => omega
   case c3 => simp; omega
   intro v5 w5 hown5 hgrow5 hon5
   have hM5 : Mine w5 B v5 (ys ++ [z]) := Mine.mk' _ hown5 (by simp) (by simp) (fun x hx => by
    rcases List.mem_append.1 hx with hx | hx
    ·exact hM.2 x hx
    ·rw [List.mem_singleton.1 hx]; exact hzk)
   have hBA : Below wr.heap.size wr (wr.alloc (.cells #[.int .u8 z] 5)) := (Below.refl _ _).alloc (Nat.le_refl _) _
   have hO5 : Off (ownF o) wr w5 := (Off.of_below (F := ownF o) hBA).trans (Off.of_grown (F := ownF o) hgrow5 (fun k hk => hk)) (fun _ _ q => q)
   have hR5 : RowOn wr o v5 := fun g hg => by
    rcases hon5 g hg with e | e
    ·exact .inl e
    ·have := hBA.size; exact .inr (by omega)
   have T := own_trans hO hRo hO5 hR5
   have T' := hide (And.intro hM5 T)
   clear hown5 hgrow5 hon5 hM5 hO5 hR5 T hM hO hRo hBA ck
   go_wp2_with fail
   go_roundw
   case rel => exact ⟨k + 1, _, by omega, by go_num, rfl, hide ⟨by rw [HY.out]; exact T'.out.1, T'.out.2.1, T'.out.2.2⟩⟩
   case measure => simp [intOf]; omega
  ·obtain rfl : k = 16 := by omega
   obtain ⟨hM, hO, hRo⟩ := HK.out
   clear HK
   go_wp2_with fail
   go_ret
   rw [List.take_of_length_le (by omega)] at hM
   refine ⟨_, rfl, hM, hO1.trans hO (fun _ _ q => q), fun g hg => ?_⟩
   rcases hRo g hg with e | e
   ·exact .inl e
   ·exact .inr (by omega)
def FOn (zs bs : List Int) (w : World) (e : Ending) (w' : World) : Prop := ∃ v, e = .returned v ∧ Mine w' w.heap.size v (zs ++ bs) ∧ Below w.heap.size w w'
theorem numsL_flat (ns : List Int) : numsL ns = ns.flatMap putL := by
 unfold numsL
 first | rfl | simp
theorem xput_on (a : Option Addr) (cap : Nat) (zs : List Int) (n : Int) (w : World) (h : RowAt w a zs) (hz : zs.length ≤ 1000000) (hn : n ≤ 9223372036854775807) : Calls Tryz.prog 21 #[.slice a zs.length cap, .int .i64 n] w fun e w' => FOn zs (putL n) w e w' := refPut_any a cap zs n w h (by omega) hn
theorem xtext_on (a : Option Addr) (cap : Nat) (zs : List Int) (st : ByteArray) (w : World) (h : RowAt w a zs) (hz : zs.length ≤ 1000000) (hs : st.size ≤ 1000000) : Calls Tryz.prog 25 #[.slice a zs.length cap, .string st] w fun e w' => FOn zs (textL st) w e w' := refPutText_any a cap zs st w h (by omega) (by omega)
theorem xvoteP_on (a : Option Addr) (cap : Nat) (zs : List Int) (x : Vt) (w : World) (h : RowAt w a zs) (hz : zs.length ≤ 1000000) (hx : x.ok) : Calls Tryz.prog 87 #[.slice a zs.length cap, .agg x.cells.toArray] w fun e w' => FOn zs (vtL x) w e w' :=
 (xputVote_any a cap zs x w h hz hx).mono (fun e w' ⟨v, q1, q2, q3⟩ => ⟨v, q1, by unfold vtL; rw [← numsL_flat, ← List.append_assoc]; exact q2, q3⟩)
theorem xnums_on (a : Option Addr) (cap : Nat) (zs ns : List Int) (arr : Array Value) (n : Nat) (w : World) (h : RowAt w a zs) (ha : arr = (ns.map (Value.int .i64)).toArray) (hc : ns.length = n) (hz : zs.length ≤ 1000000) (h0 : 0 < n) (hl : n ≤ 10) (hn : ∀ n ∈ ns, n ≤ 9223372036854775807) :
  Calls Tryz.prog 86 #[.slice a zs.length cap, .slice (some ⟨w.heap.size, 0, none⟩) n n] (w.alloc (.cells arr 3)) fun e w' => FOn zs (ns.flatMap putL) w e w' :=
 (xnums_new a cap zs ns arr n w h ha hc hz h0 hl hn).mono (fun e w' ⟨v, q1, q2, q3⟩ => ⟨v, q1, by rw [← numsL_flat]; exact q2, q3⟩)
theorem FOn.row {zs bs L : List Int} {w w' : World} {e : Ending} (h : FOn zs bs w e w') (hL : zs ++ bs = L) (hm : L.length ≤ 4000000) : ∃ a cap, e = .returned (.slice a L.length cap) ∧ RowAt w' a L ∧ Mine w' w.heap.size (.slice a L.length cap) L ∧ Below w.heap.size w w' := by
 subst hL
 obtain ⟨v, rfl, h1, h2⟩ := h
 obtain ⟨a, cap, rfl, _, _, hr⟩ := h1.rowAt (by unfold maxLen; omega)
 exact ⟨a, cap, rfl, hr, h1, h2⟩
set_option maxRecDepth 100000 in
set_option maxHeartbeats 1000000 in
theorem xsignsP_on (a0 : Option Addr) (cap0 : Nat) (zs : List Int) (x : Sl Sg) (w : World) (h : RowAt w a0 zs) (hx : x.At SgE w) (hxl : x.xs.length ≤ 1000) (hz : zs.length ≤ 100000) (hl : (sgsL x.xs).length ≤ 100000) : Calls Tryz.prog 91 #[.slice a0 zs.length cap0, x.val] w fun e w' => FOn zs (sgsL x.xs) w e w' := by
 obtain ⟨a, cap, xs⟩ := x
 simp only [Sl.val] at *
 have hx : RowsAt SgE w a xs := hx
 have cP0 := xput_on a0 cap0 zs (xs.length : Int) w h (by omega) (by omega)
 unfold sgsL at hl ⊢
 rw [List.length_append] at hl
 go_enter Tryz.func91, Tryz.ntmps91
 go_wp2_with fail
 refine cP0.mono ?_
 intro _ w1 hfin
 obtain ⟨v1, rfl, m1, hB1⟩ := hfin
 clear cP0
 have HK0 : Hid (Mine w1 w.heap.size v1 (zs ++ (putL (xs.length : Int) ++ (xs.take 0).flatMap sgL)) ∧ Below w.heap.size w w1) := hide ⟨by simpa using m1, hB1⟩
 clear m1 hB1
 go_wp2_with fail
 go_loopw [0, 5] (fun ov iv wr => ∃ k : Nat, k ≤ xs.length ∧ iv = .int .i64 (k : Int) ∧ Hid (Mine wr w.heap.size ov (zs ++ (putL (xs.length : Int) ++ (xs.take k).flatMap sgL)) ∧ Below w.heap.size w wr)) (fun _ iv _ => xs.length - (intOf iv).toNat)
 case atStart => exact ⟨0, by omega, rfl, HK0⟩
 case round =>
  clear HK0
  obtain ⟨k, hk, rfl, HK⟩ := hrel
  obtain ⟨hM, hB⟩ := HK.out
  clear HK
  by_cases hlt : k < xs.length
  ·have k1 : (k : Int) < xs.length := by omega
   obtain ⟨b, off, rfl, hbb, hre⟩ := RowsAt.elem (hx.below hB) k hlt
   have hre : wr.rangeAt b (off + k * 17) (Sg.cells xs[k]) := hre
   have hok : xs[k].ok := hx.2.1 _ (List.getElem_mem hlt)
   have HS : Hid ((xs.take (k + 1)).flatMap sgL = (xs.take k).flatMap sgL ++ sgL xs[k]) := hide (by rw [List.take_succ_eq_append_getElem hlt, List.flatMap_append]; simp)
   have hll : ((xs.take (k + 1)).flatMap sgL).length ≤ (xs.flatMap sgL).length := by
    have e : xs.flatMap sgL = (xs.take (k + 1)).flatMap sgL ++ (xs.drop (k + 1)).flatMap sgL := by rw [← List.flatMap_append, List.take_append_drop]
    rw [e, List.length_append]
    omega
   rw [HS.out, List.length_append] at hll
   obtain ⟨g, hgg⟩ : ∃ g, Hid (xs[k] = g) := ⟨_, hide rfl⟩
   rw [hgg.out] at hre hok HS hll
   clear hgg
   have hll2 : (putL g.n).length ≤ (sgL g).length := by unfold sgL; rw [List.length_append]; omega
   obtain ⟨L, hL⟩ : ∃ L, Hid (zs ++ (putL (xs.length : Int) ++ (xs.take k).flatMap sgL) = L) := ⟨_, hide rfl⟩
   have hLl : L.length + (sgL g).length ≤ 300000 := by rw [← hL.out]; simp only [List.length_append]; omega
   have HL2 : Hid (zs ++ (putL (xs.length : Int) ++ (xs.take (k + 1)).flatMap sgL) = L ++ putL g.n ++ g.t) := hide (by rw [HS.out, ← hL.out]; unfold sgL; simp only [List.append_assoc])
   rw [hL.out] at hM
   obtain ⟨av, cv, hve, _, _, hrow⟩ := hM.rowAt (by unfold maxLen; omega)
   rw [hve] at hM ⊢
   clear hL HS hll
   have hB8 : Below wr.heap.size wr wr.drew := (Below.refl _ _).drew
   have cP := fun w' (h' : RowAt w' av L) => xput_on av cv L g.n w' h' (by omega) hok.nh
   obtain ⟨L2, hL2⟩ : ∃ L2, Hid (L ++ putL g.n = L2) := ⟨_, hide rfl⟩
   have hL2l : L2.length ≤ 400000 := by rw [← hL2.out, List.length_append]; omega
   rw [hL2.out] at HL2
   have cT := fun w' (v' : Value) {B : Nat} (h' : Mine w' B v' L2) (hBs : B ≤ w'.heap.size) => xtag_any B v' L2 g.t w' h' hBs (by omega) hok.tl hok.tb
   have hit : (Tryz.prog.info? 89).map (·.size) = some (v8 g.t).length := by rw [v8_length, hok.tl]; exact iszTg
   go_upto_region 5 with fail
   refine hs_begin (S := (Below wr.drew.heap.size wr.drew)) 14 rfl (by kernel_rfl) ?_
   obtain ⟨w8, hw8⟩ : ∃ W, wr.drew = W := ⟨_, rfl⟩
   rw [hw8] at hB8 ⊢
   clear hw8
   have h8 : RowAt w8 av L := hrow.below hB8
   have hr8 := range_below hre hB8 hbb
   have hb8s : b < w8.heap.size := Nat.lt_of_lt_of_le hbb hB8.size
   have rE : ∀ w', Below w8.heap.size w8 w' → w'.cell? ⟨b, off + k * 17, none⟩ = some (.int .i64 g.n) ∧ w'.rangeAt b (off + k * 17 + 1) (v8 g.t) := fun w' hw => by
    have r := range_below hr8 hw hb8s
    refine ⟨by have := r 0 _ rfl; simpa using this, fun j u hj => ?_⟩
    have := r (1 + j) u (by rw [Nat.add_comm]; exact hj)
    rwa [← Nat.add_assoc] at this
   have hBw8 := hB.trans (hB8.mono hB.size)
   have hS : (Below w8.heap.size w8) w8 := Below.refl _ _
   clear hre hr8 hM hrow
   refine hs_t 0 16 (?_) rfl (by kernel_rfl) (by kernel_rfl) (by kernel_rfl) (by rfl) ?_ hS rfl ?_
   rotate_left
   ·intro w' hw
    go_simp
    try with_reducible rfl
   simp only [nz]
   refine hs_t 1 17 (?_) rfl (by kernel_rfl) (by kernel_rfl) (by kernel_rfl) (by rfl) ?_ hS rfl ?_
   rotate_left
   ·intro w' hw
    go_simp
    try with_reducible rfl
   simp only [nz]
   refine hs_t 2 18 (?_) rfl (by kernel_rfl) (by kernel_rfl) (by kernel_rfl) (by rfl) ?_ hS rfl ?_
   rotate_left
   ·intro w' hw
    go_simp
    try with_reducible rfl
   simp only [nz]
   refine hs_t 3 19 (?_) rfl (by kernel_rfl) (by kernel_rfl) (by kernel_rfl) (by rfl) ?_ hS rfl ?_
   rotate_left
   ·intro w' hw
    go_simp
    try with_reducible rfl
   simp only [nz]
   refine hs_t 4 20 (?_) rfl (by kernel_rfl) (by kernel_rfl) (by kernel_rfl) (by rfl) ?_ hS rfl ?_
   rotate_left
   ·intro w' hw
    go_simp
    try with_reducible rfl
   simp only [nz]
   refine hs_t 5 21 (.int .i64 g.n) rfl (by kernel_rfl) (by kernel_rfl) (by kernel_rfl) (by rfl) (fun w' hw => pl_one rfl rfl (rE w' hw).1 Tryz.underlying3 rfl) hS rfl ?_
   simp only [nz]
   refine hs_t 7 23 (?_) rfl (by kernel_rfl) (by kernel_rfl) (by kernel_rfl) (by rfl) ?_ hS rfl ?_
   rotate_left
   ·intro w' hw
    go_simp
    try with_reducible rfl
   simp only [nz]
   refine hs_t 8 24 (?_) rfl (by kernel_rfl) (by kernel_rfl) (by kernel_rfl) (by rfl) ?_ hS rfl ?_
   rotate_left
   ·intro w' hw
    go_simp
    try with_reducible rfl
   simp only [nz]
   refine hs_t 9 25 (?_) rfl (by kernel_rfl) (by kernel_rfl) (by kernel_rfl) (by rfl) ?_ hS rfl ?_
   rotate_left
   ·intro w' hw
    go_simp
    try with_reducible rfl
   simp only [nz]
   refine hs_t 10 26 (?_) rfl (by kernel_rfl) (by kernel_rfl) (by kernel_rfl) (by rfl) ?_ hS rfl ?_
   rotate_left
   ·intro w' hw
    go_simp
    try with_reducible rfl
   simp only [nz]
   refine hs_t 11 27 (.agg (v8 g.t).toArray) rfl (by kernel_rfl) (by kernel_rfl) (by kernel_rfl) (by rfl) (fun w' hw => ex_mid rfl rfl (rE w' hw).2 Tryz.underlying89 rfl hit) hS rfl ?_
   simp only [nz]
   refine hs_call (i := 6) (d := some 22) rfl (by kernel_rfl) (by rfl) (by go_simp; first | done | exact ⟨rfl, rfl⟩ | with_reducible rfl) rfl ?_
   refine (cP w8 h8).mono ?_
   intro _ w9 hfin
   obtain ⟨a9, c9, rfl, row9, m9, hB9⟩ := FOn.row hfin hL2.out (by omega)
   have hS : (Below w8.heap.size w8) w9 := hB9
   refine ⟨_, rfl, hS, ?_⟩
   simp only [nz]
   refine hs_call (i := 12) (d := some 28) rfl (by kernel_rfl) (by rfl) (by go_simp; first | done | exact ⟨rfl, rfl⟩ | with_reducible rfl) rfl ?_
   refine (cT w9 _ m9 hB9.size).mono ?_
   intro _ w10 hfin
   obtain ⟨v10, rfl, m10, o10, -⟩ := hfin
   have hB10 := off_below o10 m9 (Nat.le_refl _) hB9.size
   have hS : (Below w8.heap.size w8) w10 := hS.trans hB10
   refine ⟨_, rfl, hS, ?_⟩
   simp only [nz]
   refine hs_t 13 0 (?_) rfl (by kernel_rfl) (by kernel_rfl) (by kernel_rfl) (by rfl) ?_ hS rfl ?_
   rotate_left
   ·intro w' hw
    go_simp
    try with_reducible rfl
   simp only [nz]
   refine hs_done (by kernel_rfl) ?_
   have HN : Hid (Mine w10 w.heap.size v10 (zs ++ (putL (xs.length : Int) ++ (xs.take (k + 1)).flatMap sgL)) ∧ Below w.heap.size w w10) := hide ⟨by rw [HL2.out]; exact m10.mono' hBw8.size, hBw8.trans (hS.mono hBw8.size)⟩
   clear m10 o10 m9 row9
   go_wp2_with fail
   go_roundw
   case rel => exact ⟨k + 1, by omega, by go_num, HN⟩
   case measure => simp [intOf]; omega
  ·obtain rfl : k = xs.length := by omega
   rw [List.take_length] at hM
   have HF := hide (show FOn zs (putL (xs.length : Int) ++ xs.flatMap sgL) w (.returned u0) wr from ⟨_, rfl, hM, hB⟩)
   go_wp2_with fail
   go_ret
   exact HF.out
set_option maxRecDepth 100000 in
set_option maxHeartbeats 1000000 in
theorem xcertP_on (a0 : Option Addr) (cap0 : Nat) (zs : List Int) (x : Vt) (sg : Sl Sg) (w : World) (h : RowAt w a0 zs) (hx : x.ok) (hsg : sg.At SgE w) (hxl : sg.xs.length ≤ 1000) (hz : zs.length ≤ 40000) (hl : (ctL x sg.xs).length ≤ 40000) : Calls Tryz.prog 88 #[.slice a0 zs.length cap0, .agg (certL x sg).toArray] w fun e w' => FOn zs (ctL x sg.xs) w e w' := by
 have hx36 := hx.len
 have hix : (Tryz.prog.info? 28).map (·.size) = some x.cells.length := by rw [hx36]; exact iszVo
 unfold ctL at hl ⊢
 rw [List.length_append] at hl
 have cV := fun w' (h' : RowAt w' a0 zs) => xvoteP_on a0 cap0 zs x w' h' (by omega) hx
 obtain ⟨L2, hL2⟩ : ∃ L2, Hid (zs ++ vtL x = L2) := ⟨_, hide rfl⟩
 have hL2l : L2.length ≤ 100000 := by rw [← hL2.out, List.length_append]; omega
 have cG0 := fun a' c' w' (h' : RowAt w' a' L2) (hb' : Below w.heap.size w w') => xsignsP_on a' c' L2 sg w' h' (hsg.below hb') hxl hL2l (by omega)
 have q36 : ∀ {w' : World} {b : Nat}, w'.rangeAt b 0 (certL x sg) → w'.rangeAt b 0 x.cells ∧ w'.cell? ⟨b, 36, none⟩ = some sg.val := fun hr => by
  have r1 := range_left hr
  have r2 := range_right hr
  rw [hx36] at r2
  have := r2 0 _ rfl
  exact ⟨r1, by simpa using this⟩
 obtain ⟨q, hq⟩ : ∃ q, Hid (certL x sg = q) := ⟨_, hide rfl⟩
 rw [hq.out]
 simp only [hq.out] at q36
 generalize x.cells = u at *
 generalize vtL x = bv at *
 generalize sgsL sg.xs = bg at *
 obtain ⟨a, cap, xs⟩ := sg
 simp only [Sl.val] at *
 obtain ⟨hB1, hR1, hs1⟩ := boxed_new w q 31
 go_enter Tryz.func88, Tryz.ntmps88
 go_upto_region 1 with fail
 obtain ⟨w1, hw1⟩ : ∃ W, w.alloc (.cells q.toArray 31) = W := ⟨_, rfl⟩
 rw [hw1] at hB1 hR1 hs1 ⊢
 clear hw1
 refine hs_begin (S := (Below w1.drew.heap.size w1.drew)) 8 rfl (by kernel_rfl) ?_
 have hB8 : Below w.heap.size w w1.drew := hB1.drew
 have hR8 : w1.drew.rangeAt w.heap.size 0 q := (World.rangeAt_drew _ _ _ _).2 hR1
 have hs8 : w.heap.size < w1.drew.heap.size := hs1
 obtain ⟨w8, hw8⟩ : ∃ W, w1.drew = W := ⟨_, rfl⟩
 rw [hw8] at hB8 hR8 hs8 ⊢
 clear hw8 hB1 hR1 hs1
 have h8 := h.below hB8
 have cG := fun a' c' w' (h' : RowAt w' a' L2) (hb' : Below w8.heap.size w8 w') => cG0 a' c' w' h' (hB8.trans (hb'.mono hB8.size))
 have hS : (Below w8.heap.size w8) w8 := Below.refl _ _
 clear cG0
 refine hs_t 0 5 (?_) rfl (by kernel_rfl) (by kernel_rfl) (by kernel_rfl) (by rfl) ?_ hS rfl ?_
 rotate_left
 ·intro w' hw
  go_simp
  try with_reducible rfl
 simp only [nz]
 refine hs_t 1 6 (?_) rfl (by kernel_rfl) (by kernel_rfl) (by kernel_rfl) (by rfl) ?_ hS rfl ?_
 rotate_left
 ·intro w' hw
  go_simp
  try with_reducible rfl
 simp only [nz]
 refine hs_t 2 7 (.agg u.toArray) rfl (by kernel_rfl) (by kernel_rfl) (by kernel_rfl) (by rfl) (fun w' hw => ex_mid rfl rfl (q36 (range_below hR8 hw hs8)).1 Tryz.underlying28 rfl hix) hS rfl ?_
 simp only [nz]
 refine hs_t 4 9 (?_) rfl (by kernel_rfl) (by kernel_rfl) (by kernel_rfl) (by rfl) ?_ hS rfl ?_
 rotate_left
 ·intro w' hw
  go_simp
  try with_reducible rfl
 simp only [nz]
 refine hs_t 5 10 (.slice a xs.length cap) rfl (by kernel_rfl) (by kernel_rfl) (by kernel_rfl) (by rfl) (fun w' hw => pl_one rfl rfl (q36 (range_below hR8 hw hs8)).2 Tryz.underlying29 rfl) hS rfl ?_
 simp only [nz]
 refine hs_call (i := 3) (d := some 8) rfl (by kernel_rfl) (by rfl) (by go_simp; first | done | exact ⟨rfl, rfl⟩ | with_reducible rfl) rfl ?_
 refine (cV w8 h8).mono ?_
 intro _ w9 hfin
 obtain ⟨a9, c9, rfl, row9, m9, hB9⟩ := FOn.row hfin hL2.out (by omega)
 have hS : (Below w8.heap.size w8) w9 := hB9
 refine ⟨_, rfl, hS, ?_⟩
 simp only [nz]
 refine hs_call (i := 6) (d := some 11) rfl (by kernel_rfl) (by rfl) (by go_simp; first | done | exact ⟨rfl, rfl⟩ | with_reducible rfl) rfl ?_
 refine (cG a9 c9 w9 row9 hB9).mono ?_
 intro _ w10 hfin
 have HF := hide hfin
 obtain ⟨v10, rfl, m10, hB10⟩ := hfin
 have hS : (Below w8.heap.size w8) w10 := hS.trans (hB10.mono hB9.size)
 refine ⟨_, rfl, hS, ?_⟩
 simp only [nz]
 refine hs_t 7 4 (?_) rfl (by kernel_rfl) (by kernel_rfl) (by kernel_rfl) (by rfl) ?_ hS rfl ?_
 rotate_left
 ·intro w' hw
  go_simp
  try with_reducible rfl
 simp only [nz]
 refine hs_done (by kernel_rfl) ?_
 have HF2 : Hid (FOn zs (bv ++ bg) w (.returned v10) w10) := hide ⟨v10, rfl, by rw [← List.append_assoc, hL2.out]; exact m10.mono' (by have := hB8.size; have := hB9.size; omega), hB8.trans (hS.mono hB8.size)⟩
 go_wp2_with fail
 go_ret
 exact HF2.out
theorem run_bsi4 (x y z u : Int) (w : World) : (Instr.buildSlice 130 4 #[(0, .int .i64 x), (1, .int .i64 y), (2, .int .i64 z), (3, .int .i64 u)]).run Tryz.prog w = .ok (.slice (some ⟨w.heap.size, 0, none⟩) 4 4) (w.alloc (.cells #[.int .i64 x, .int .i64 y, .int .i64 z, .int .i64 u] 3)) := by kernel_rfl
theorem ex_bsi4 {P : Program} {o : Oper} {a : Act} {w w' : World} {t : TypeId} {x y z s : Operand} {u v q p r : Value} (ho : o.op = .buildSlice t 4 #[(0, x), (1, y), (2, z), (3, s)]) (hx : a.eval x = u) (hy : a.eval y = v) (hz : a.eval z = q) (hs : a.eval s = p) (hr : (Instr.buildSlice t 4 #[(0, u), (1, v), (2, q), (3, p)]).run P w = .ok r w') : (execOp a.eval o).run P w = .ok (.value r) w' := by
 unfold execOp
 simp [ho, hx, hy, hz, hs, hr]
theorem refB_on (a0 : Option Addr) (cap0 : Nat) (zs : List Int) (q : Bool) (x : Sl Rq) (w : World) (h : RowAt w a0 zs) (hz : zs.length ≤ 90000) (hx : x.At RqE w) (hn : x.xs.length ≤ 200) (hs : ∀ r ∈ x.xs, r.s.size ≤ 4000) : Calls Tryz.prog 22 #[.slice a0 zs.length cap0, .agg #[.bool q, x.val]] w fun e w' => FOn zs (batL q (x.xs.map BRq.of)) w e w' := by
 have c := refBput_any a0 cap0 zs q x.a x.cap (x.xs.map BRq.of) w h hz (reqs_at hx) (by rw [List.length_map]; exact hn) (fun r hr => by
  obtain ⟨y, hy, rfl⟩ := List.mem_map.1 hr
  exact hs y hy)
 rw [List.length_map] at c
 exact c
theorem iszDg : (Tryz.prog.info? 26).map (·.size) = some 32 := by kernel_rfl
theorem ms_bat {m : Mg} {w : World} {b : Nat} (h : m.ms.at w b) : w.rangeAt b 5 [.bool m.q, m.rs.val] := fun j u hj => by
 rcases j with _ | _ | j
 ·cases hj; exact h.q
 ·cases hj; exact h.rs
 ·cases hj
theorem ms_chg {m : Mg} {w : World} {b : Nat} (h : m.ms.at w b) : w.rangeAt b 43 [.int .i64 m.ce, .int .i64 m.cl, .int .i64 m.cv, m.he.val] := fun j u hj => by
 rcases j with _ | _ | _ | _ | j
 ·cases hj; exact h.ce
 ·cases hj; exact h.cl
 ·cases hj; exact h.cv
 ·cases hj; exact h.he
 ·cases hj
set_option maxRecDepth 100000 in
set_option maxHeartbeats 400000 in
theorem xb1_on (m : Mg) (w : World) (om : m.ok) (am : m.At w) (hf : m.Fine) (hk : m.k = 1) : Calls Tryz.prog 53 #[.agg m.ms.cells.toArray] w fun e w' => FOn [] m.bytes w e w' := by
 have hall := hf.all
 have hbd : m.bytes = putL 1 ++ m.body := by unfold Mg.bytes; rw [hk]
 have hbody : m.body = [m.e, m.s].flatMap putL ++ batL m.q (m.rs.xs.map BRq.of) := by unfold Mg.body; rw [hk]; rfl
 rw [hbd, hbody] at hall
 simp only [List.length_append] at hall
 rw [hbd, hbody]
 clear hbd
 have hat : ∀ {w' : World} {b : Nat}, w'.rangeAt b 0 m.ms.cells → m.ms.at w' b := fun hr => om.ms.at hr
 have hkk : m.ms.k = 1 := hk
 obtain ⟨q, hq⟩ : ∃ q, Hid (m.ms.cells = q) := ⟨_, hide rfl⟩
 rw [hq.out]
 simp only [hq.out] at hat
 clear hq
 obtain ⟨hB1, hR1, hs1⟩ := boxed_new w q 63
 have cK := fun w' => xput_on none 0 [] 1 w' (nil_row w') (by simp) (by decide)
 simp only [List.length_nil] at cK
 obtain ⟨L1, hL1⟩ : ∃ L, Hid (([] : List Int) ++ putL 1 = L) := ⟨_, hide rfl⟩
 have HLl : Hid (L1.length = (putL 1).length) := hide (by rw [← hL1.out]; rfl)
 have hK9 : (putL 1).length ≤ 9 := by decide
 go_enter Tryz.func53, Tryz.ntmps53
 go_upto_region 1 with fail
 obtain ⟨w1, hw1⟩ : ∃ W, w.alloc (.cells q.toArray 63) = W := ⟨_, rfl⟩
 rw [hw1] at hB1 hR1 hs1 ⊢
 clear hw1
 have ck := (hat hR1).k
 rw [hkk] at ck
 try simp only [Act.put]
 refine pl_begin ?_
 refine pl_t 7 (?_) (by rfl) ?_ rfl ?_
 rotate_left
 ·go_simp
  try with_reducible rfl
 simp only [nz]
 refine pl_t 8 (.int .i64 1) (by rfl) (pl_one rfl rfl ck Tryz.underlying3 rfl) rfl ?_
 simp only [nz]
 refine pl_call (d := some 9) (by rfl) (by go_simp; first | done | exact ⟨rfl, rfl⟩ | with_reducible rfl) rfl ?_
 refine (cK w1).mono ?_
 rintro _ w2 hfin
 obtain ⟨a2, c2, rfl, row2, -, hB2⟩ := FOn.row hfin hL1.out (by have := HLl.out; omega)
 refine ⟨_, rfl, ?_⟩
 simp only [nz]
 refine pl_t 3 (?_) (by rfl) ?_ rfl ?_
 rotate_left
 ·go_simp
  try with_reducible rfl
 simp only [nz]
 refine pl_nil ?_
 have hBw2 := hB1.trans (hB2.mono hB1.size)
 have hR2 := range_below hR1 hB2 hs1
 have hs2 : w.heap.size < w2.heap.size := Nat.lt_of_lt_of_le hs1 hB2.size
 have MA := hat hR2
 have ck := MA.k
 rw [hkk] at ck
 clear cK
 obtain ⟨L2, hL2⟩ : ∃ L, Hid (L1 ++ [m.e, m.s].flatMap putL = L) := ⟨_, hide rfl⟩
 have hL2l : L2.length ≤ 60000 := by rw [← hL2.out, List.length_append, HLl.out]; omega
 go_upto_region 4 with fail
 refine hs_begin (S := (Below w2.drew.heap.size w2.drew)) 11 rfl (by kernel_rfl) ?_
 have hBw8 : Below w.heap.size w w2.drew := hBw2.drew
 have hR8 : w2.drew.rangeAt w.heap.size 0 q := (World.rangeAt_drew _ _ _ _).2 hR2
 have hs8 : w.heap.size < w2.drew.heap.size := hs2
 have row8 : RowAt w2.drew a2 L1 := row2.below (Below.refl _ _).drew
 obtain ⟨w8, hw8⟩ : ∃ W, w2.drew = W := ⟨_, rfl⟩
 rw [hw8] at hBw8 hR8 hs8 row8 ⊢
 clear hw8 hR2 hs2 hBw2 row2 MA ck hB2 hR1 hB1
 have hM8 : ∀ w', Below w8.heap.size w8 w' → m.ms.at w' w.heap.size := fun w' hw => hat (range_below hR8 hw hs8)
 have hA8 : ∀ w', Below w8.heap.size w8 w' → m.At w' := fun w' hw => am.below (hBw8.trans (hw.mono hBw8.size))
 have hbs8 := hBw8.size
 have hS : (Below w8.heap.size w8) w8 := Below.refl _ _
 have cN := xnums_on a2 c2 L1 [m.e, m.s] #[.int .i64 m.e, .int .i64 m.s] 2 w8 row8 rfl rfl (by have := HLl.out; omega) (by omega) (by omega) (two_le hf.e hf.s)
 refine hs_t 0 14 (?_) rfl (by kernel_rfl) (by kernel_rfl) (by kernel_rfl) (by rfl) ?_ hS rfl ?_
 rotate_left
 ·intro w' hw
  go_simp
  try with_reducible rfl
 simp only [nz]
 refine hs_t 1 15 (?_) rfl (by kernel_rfl) (by kernel_rfl) (by kernel_rfl) (by rfl) ?_ hS rfl ?_
 rotate_left
 ·intro w' hw
  go_simp
  try with_reducible rfl
 simp only [nz]
 refine hs_t 2 16 (.int .i64 m.e) rfl (by kernel_rfl) (by kernel_rfl) (by kernel_rfl) (by rfl) (fun w' hw => pl_one rfl rfl (hM8 w' hw).e Tryz.underlying3 rfl) hS rfl ?_
 simp only [nz]
 refine hs_t 3 17 (?_) rfl (by kernel_rfl) (by kernel_rfl) (by kernel_rfl) (by rfl) ?_ hS rfl ?_
 rotate_left
 ·intro w' hw
  go_simp
  try with_reducible rfl
 simp only [nz]
 refine hs_t 4 18 (.int .i64 m.s) rfl (by kernel_rfl) (by kernel_rfl) (by kernel_rfl) (by rfl) (fun w' hw => pl_one rfl rfl (hM8 w' hw).s Tryz.underlying3 rfl) hS rfl ?_
 simp only [nz]
 refine hs_t 7 21 (?_) rfl (by kernel_rfl) (by kernel_rfl) (by kernel_rfl) (by rfl) ?_ hS rfl ?_
 rotate_left
 ·intro w' hw
  go_simp
  try with_reducible rfl
 simp only [nz]
 refine hs_t 8 22 (.agg ([.bool m.q, m.rs.val] : List Value).toArray) rfl (by kernel_rfl) (by kernel_rfl) (by kernel_rfl) (by rfl) (fun w' hw => ex_mid rfl rfl (ms_bat (hM8 w' hw)) Tryz.underlying24 rfl iszBa) hS rfl ?_
 simp only [nz]
 have hb5 : Below w8.heap.size w8 (w8.alloc (.cells #[.int .i64 m.e, .int .i64 m.s] 3)) := (Below.refl _ _).alloc (Nat.le_refl _) _
 refine hs_run (i := 5) (d := some 19) (v := .slice (some ⟨w8.heap.size, 0, none⟩) 2 2) (w' := w8.alloc (.cells #[.int .i64 m.e, .int .i64 m.s] 3)) rfl (by kernel_rfl) (by rfl) (ex_bsi2 rfl rfl rfl (run_bsi2 m.e m.s _)) rfl hb5 ?_
 simp only [nz]
 refine hs_call (i := 6) (d := some 20) rfl (by kernel_rfl) (by rfl) (by go_simp; first | done | exact ⟨rfl, rfl⟩ | with_reducible rfl) rfl ?_
 refine (cN).mono ?_
 intro _ w9 hfin
 obtain ⟨a9, c9, rfl, row9, -, hB9⟩ := FOn.row hfin hL2.out (by omega)
 have hS : (Below w8.heap.size w8) w9 := hB9
 have hbw9 := hS.size
 refine ⟨_, rfl, hS, ?_⟩
 simp only [nz]
 refine hs_call (i := 9) (d := some 23) rfl (by kernel_rfl) (by rfl) (by go_simp; first | done | exact ⟨rfl, rfl⟩ | with_reducible rfl) rfl ?_
 refine (refB_on a9 c9 L2 m.q m.rs w9 row9 (by omega) (hA8 w9 hS).rs hf.rn hf.rs).mono ?_
 intro _ w10 hfin
 obtain ⟨v9, rfl, m9, hB10⟩ := hfin
 have hS : (Below w8.heap.size w8) w10 := hS.trans (hB10.mono hbw9)
 have hbw10 := hS.size
 refine ⟨_, rfl, hS, ?_⟩
 simp only [nz]
 refine hs_t 10 3 (?_) rfl (by kernel_rfl) (by kernel_rfl) (by kernel_rfl) (by rfl) ?_ hS rfl ?_
 rotate_left
 ·intro w' hw
  go_simp
  try with_reducible rfl
 simp only [nz]
 refine hs_done (by kernel_rfl) ?_
 have HF : Hid (FOn [] (putL 1 ++ ([m.e, m.s].flatMap putL ++ batL m.q (m.rs.xs.map BRq.of))) w (.returned v9) w10) := hide ⟨v9, rfl, by
  have e : ([] : List Int) ++ (putL 1 ++ ([m.e, m.s].flatMap putL ++ batL m.q (m.rs.xs.map BRq.of))) = L2 ++ batL m.q (m.rs.xs.map BRq.of) := by rw [← hL2.out, ← hL1.out]; simp only [List.nil_append, List.append_assoc]
  rw [e]
  exact m9.mono' (by omega), hBw8.trans (hS.mono hbs8)⟩
 go_wp2_with fail
 go_ret
 exact HF.out
set_option maxRecDepth 100000 in
set_option maxHeartbeats 400000 in
theorem xb2_on (m : Mg) (w : World) (om : m.ok) (am : m.At w) (hf : m.Fine) (hk : m.k = 2) : Calls Tryz.prog 53 #[.agg m.ms.cells.toArray] w fun e w' => FOn [] m.bytes w e w' := by
 have hall := hf.all
 have hbd : m.bytes = putL 2 ++ m.body := by unfold Mg.bytes; rw [hk]
 have hbody : m.body = vtL m.vt := by unfold Mg.body; rw [hk]; rfl
 rw [hbd, hbody] at hall
 simp only [List.length_append] at hall
 rw [hbd, hbody]
 clear hbd
 have hat : ∀ {w' : World} {b : Nat}, w'.rangeAt b 0 m.ms.cells → m.ms.at w' b := fun hr => om.ms.at hr
 have hkk : m.ms.k = 2 := hk
 obtain ⟨q, hq⟩ : ∃ q, Hid (m.ms.cells = q) := ⟨_, hide rfl⟩
 rw [hq.out]
 simp only [hq.out] at hat
 clear hq
 obtain ⟨hB1, hR1, hs1⟩ := boxed_new w q 63
 have cK := fun w' => xput_on none 0 [] 2 w' (nil_row w') (by simp) (by decide)
 simp only [List.length_nil] at cK
 obtain ⟨L1, hL1⟩ : ∃ L, Hid (([] : List Int) ++ putL 2 = L) := ⟨_, hide rfl⟩
 have HLl : Hid (L1.length = (putL 2).length) := hide (by rw [← hL1.out]; rfl)
 have hK9 : (putL 2).length ≤ 9 := by decide
 go_enter Tryz.func53, Tryz.ntmps53
 go_upto_region 1 with fail
 obtain ⟨w1, hw1⟩ : ∃ W, w.alloc (.cells q.toArray 63) = W := ⟨_, rfl⟩
 rw [hw1] at hB1 hR1 hs1 ⊢
 clear hw1
 have ck := (hat hR1).k
 rw [hkk] at ck
 try simp only [Act.put]
 refine pl_begin ?_
 refine pl_t 7 (?_) (by rfl) ?_ rfl ?_
 rotate_left
 ·go_simp
  try with_reducible rfl
 simp only [nz]
 refine pl_t 8 (.int .i64 2) (by rfl) (pl_one rfl rfl ck Tryz.underlying3 rfl) rfl ?_
 simp only [nz]
 refine pl_call (d := some 9) (by rfl) (by go_simp; first | done | exact ⟨rfl, rfl⟩ | with_reducible rfl) rfl ?_
 refine (cK w1).mono ?_
 rintro _ w2 hfin
 obtain ⟨a2, c2, rfl, row2, -, hB2⟩ := FOn.row hfin hL1.out (by have := HLl.out; omega)
 refine ⟨_, rfl, ?_⟩
 simp only [nz]
 refine pl_t 3 (?_) (by rfl) ?_ rfl ?_
 rotate_left
 ·go_simp
  try with_reducible rfl
 simp only [nz]
 refine pl_nil ?_
 have hBw2 := hB1.trans (hB2.mono hB1.size)
 have hR2 := range_below hR1 hB2 hs1
 have hs2 : w.heap.size < w2.heap.size := Nat.lt_of_lt_of_le hs1 hB2.size
 have MA := hat hR2
 have ck := MA.k
 rw [hkk] at ck
 clear cK
 have hix : (Tryz.prog.info? 28).map (·.size) = some m.vt.cells.length := by rw [om.vt.len]; exact iszVo
 have rv : w2.rangeAt w.heap.size 7 m.vt.cells := MA.vt
 have cV := xvoteP_on a2 c2 L1 m.vt w2 row2 (by have := HLl.out; omega) om.vt
 go_upto_region 6 with fail
 try simp only [Act.put]
 refine pl_begin ?_
 refine pl_t 26 (?_) (by rfl) ?_ rfl ?_
 rotate_left
 ·go_simp
  try with_reducible rfl
 simp only [nz]
 refine pl_t 27 (?_) (by rfl) ?_ rfl ?_
 rotate_left
 ·go_simp
  try with_reducible rfl
 simp only [nz]
 refine pl_t 28 (.agg m.vt.cells.toArray) (by rfl) (ex_mid rfl rfl rv Tryz.underlying28 rfl hix) rfl ?_
 simp only [nz]
 refine pl_call (d := some 29) (by rfl) (by go_simp; first | done | exact ⟨rfl, rfl⟩ | with_reducible rfl) rfl ?_
 refine (cV).mono ?_
 rintro _ w3 hfin
 obtain ⟨v9, rfl, m9, hB3⟩ := hfin
 refine ⟨_, rfl, ?_⟩
 simp only [nz]
 refine pl_t 3 (?_) (by rfl) ?_ rfl ?_
 rotate_left
 ·go_simp
  try with_reducible rfl
 simp only [nz]
 refine pl_nil ?_
 have hbs2 := hBw2.size
 have HF : Hid (FOn [] (putL 2 ++ (vtL m.vt)) w (.returned v9) w3) := hide ⟨v9, rfl, by
  have e : ([] : List Int) ++ (putL 2 ++ (vtL m.vt)) = L1 ++ vtL m.vt := by rw [← hL1.out]; simp only [List.nil_append, List.append_assoc]
  rw [e]
  exact m9.mono' (by omega), hBw2.trans (hB3.mono hbs2)⟩
 go_wp2_with fail
 go_ret
 exact HF.out
set_option maxRecDepth 100000 in
set_option maxHeartbeats 400000 in
theorem xb5_on (m : Mg) (w : World) (om : m.ok) (am : m.At w) (hf : m.Fine) (hk : m.k = 5) : Calls Tryz.prog 53 #[.agg m.ms.cells.toArray] w fun e w' => FOn [] m.bytes w e w' := by
 have hall := hf.all
 have hbd : m.bytes = putL 5 ++ m.body := by unfold Mg.bytes; rw [hk]
 have hbody : m.body = putL m.e ++ m.d := by unfold Mg.body; rw [hk]; rfl
 rw [hbd, hbody] at hall
 simp only [List.length_append] at hall
 rw [hbd, hbody]
 clear hbd
 have hat : ∀ {w' : World} {b : Nat}, w'.rangeAt b 0 m.ms.cells → m.ms.at w' b := fun hr => om.ms.at hr
 have hkk : m.ms.k = 5 := hk
 obtain ⟨q, hq⟩ : ∃ q, Hid (m.ms.cells = q) := ⟨_, hide rfl⟩
 rw [hq.out]
 simp only [hq.out] at hat
 clear hq
 obtain ⟨hB1, hR1, hs1⟩ := boxed_new w q 63
 have cK := fun w' => xput_on none 0 [] 5 w' (nil_row w') (by simp) (by decide)
 simp only [List.length_nil] at cK
 obtain ⟨L1, hL1⟩ : ∃ L, Hid (([] : List Int) ++ putL 5 = L) := ⟨_, hide rfl⟩
 have HLl : Hid (L1.length = (putL 5).length) := hide (by rw [← hL1.out]; rfl)
 have hK9 : (putL 5).length ≤ 9 := by decide
 go_enter Tryz.func53, Tryz.ntmps53
 go_upto_region 1 with fail
 obtain ⟨w1, hw1⟩ : ∃ W, w.alloc (.cells q.toArray 63) = W := ⟨_, rfl⟩
 rw [hw1] at hB1 hR1 hs1 ⊢
 clear hw1
 have ck := (hat hR1).k
 rw [hkk] at ck
 try simp only [Act.put]
 refine pl_begin ?_
 refine pl_t 7 (?_) (by rfl) ?_ rfl ?_
 rotate_left
 ·go_simp
  try with_reducible rfl
 simp only [nz]
 refine pl_t 8 (.int .i64 5) (by rfl) (pl_one rfl rfl ck Tryz.underlying3 rfl) rfl ?_
 simp only [nz]
 refine pl_call (d := some 9) (by rfl) (by go_simp; first | done | exact ⟨rfl, rfl⟩ | with_reducible rfl) rfl ?_
 refine (cK w1).mono ?_
 rintro _ w2 hfin
 obtain ⟨a2, c2, rfl, row2, -, hB2⟩ := FOn.row hfin hL1.out (by have := HLl.out; omega)
 refine ⟨_, rfl, ?_⟩
 simp only [nz]
 refine pl_t 3 (?_) (by rfl) ?_ rfl ?_
 rotate_left
 ·go_simp
  try with_reducible rfl
 simp only [nz]
 refine pl_nil ?_
 have hBw2 := hB1.trans (hB2.mono hB1.size)
 have hR2 := range_below hR1 hB2 hs1
 have hs2 : w.heap.size < w2.heap.size := Nat.lt_of_lt_of_le hs1 hB2.size
 have MA := hat hR2
 have ck := MA.k
 rw [hkk] at ck
 clear cK
 obtain ⟨L2, hL2⟩ : ∃ L, Hid (L1 ++ putL m.e = L) := ⟨_, hide rfl⟩
 have hL2l : L2.length ≤ 60000 := by rw [← hL2.out, List.length_append, HLl.out]; omega
 have hid : (Tryz.prog.info? 26).map (·.size) = some (v8 m.d).length := by rw [v8_length, om.dl]; exact iszDg
 go_upto_region 21 with fail
 refine hs_begin (S := (Below w2.drew.heap.size w2.drew)) 8 rfl (by kernel_rfl) ?_
 have hBw8 : Below w.heap.size w w2.drew := hBw2.drew
 have hR8 : w2.drew.rangeAt w.heap.size 0 q := (World.rangeAt_drew _ _ _ _).2 hR2
 have hs8 : w.heap.size < w2.drew.heap.size := hs2
 have row8 : RowAt w2.drew a2 L1 := row2.below (Below.refl _ _).drew
 obtain ⟨w8, hw8⟩ : ∃ W, w2.drew = W := ⟨_, rfl⟩
 rw [hw8] at hBw8 hR8 hs8 row8 ⊢
 clear hw8 hR2 hs2 hBw2 row2 MA ck hB2 hR1 hB1
 have hM8 : ∀ w', Below w8.heap.size w8 w' → m.ms.at w' w.heap.size := fun w' hw => hat (range_below hR8 hw hs8)
 have hA8 : ∀ w', Below w8.heap.size w8 w' → m.At w' := fun w' hw => am.below (hBw8.trans (hw.mono hBw8.size))
 have hbs8 := hBw8.size
 have hS : (Below w8.heap.size w8) w8 := Below.refl _ _
 refine hs_t 0 113 (?_) rfl (by kernel_rfl) (by kernel_rfl) (by kernel_rfl) (by rfl) ?_ hS rfl ?_
 rotate_left
 ·intro w' hw
  go_simp
  try with_reducible rfl
 simp only [nz]
 refine hs_t 1 114 (?_) rfl (by kernel_rfl) (by kernel_rfl) (by kernel_rfl) (by rfl) ?_ hS rfl ?_
 rotate_left
 ·intro w' hw
  go_simp
  try with_reducible rfl
 simp only [nz]
 refine hs_t 2 115 (.int .i64 m.e) rfl (by kernel_rfl) (by kernel_rfl) (by kernel_rfl) (by rfl) (fun w' hw => pl_one rfl rfl (hM8 w' hw).e Tryz.underlying3 rfl) hS rfl ?_
 simp only [nz]
 refine hs_t 4 117 (?_) rfl (by kernel_rfl) (by kernel_rfl) (by kernel_rfl) (by rfl) ?_ hS rfl ?_
 rotate_left
 ·intro w' hw
  go_simp
  try with_reducible rfl
 simp only [nz]
 refine hs_t 5 118 (.agg (v8 m.d).toArray) rfl (by kernel_rfl) (by kernel_rfl) (by kernel_rfl) (by rfl) (fun w' hw => ex_mid rfl rfl (show w'.rangeAt w.heap.size 48 (v8 m.d) from (hM8 w' hw).d) Tryz.underlying26 rfl hid) hS rfl ?_
 simp only [nz]
 refine hs_call (i := 3) (d := some 116) rfl (by kernel_rfl) (by rfl) (by go_simp; first | done | exact ⟨rfl, rfl⟩ | with_reducible rfl) rfl ?_
 refine (xput_on a2 c2 L1 m.e w8 row8 (by have := HLl.out; omega) hf.e).mono ?_
 intro _ w9 hfin
 obtain ⟨a9, c9, rfl, row9, m8, hB9⟩ := FOn.row hfin hL2.out (by omega)
 have hS : (Below w8.heap.size w8) w9 := hB9
 have hbw9 := hS.size
 refine ⟨_, rfl, hS, ?_⟩
 simp only [nz]
 refine hs_call (i := 6) (d := some 119) rfl (by kernel_rfl) (by rfl) (by go_simp; first | done | exact ⟨rfl, rfl⟩ | with_reducible rfl) rfl ?_
 refine (xdig_any w8.heap.size _ L2 m.d w9 m8 hbw9 (by omega) om.dl om.db).mono ?_
 intro _ w10 hfin
 obtain ⟨v9, rfl, m9, o9, -⟩ := hfin
 have hB10 := off_below o9 m8 (Nat.le_refl _) hbw9
 have hS : (Below w8.heap.size w8) w10 := hS.trans hB10
 have hbw10 := hS.size
 refine ⟨_, rfl, hS, ?_⟩
 simp only [nz]
 refine hs_t 7 3 (?_) rfl (by kernel_rfl) (by kernel_rfl) (by kernel_rfl) (by rfl) ?_ hS rfl ?_
 rotate_left
 ·intro w' hw
  go_simp
  try with_reducible rfl
 simp only [nz]
 refine hs_done (by kernel_rfl) ?_
 have HF : Hid (FOn [] (putL 5 ++ (putL m.e ++ m.d)) w (.returned v9) w10) := hide ⟨v9, rfl, by
  have e : ([] : List Int) ++ (putL 5 ++ (putL m.e ++ m.d)) = L2 ++ m.d := by rw [← hL2.out, ← hL1.out]; simp only [List.nil_append, List.append_assoc]
  rw [e]
  exact m9.mono' (by omega), hBw8.trans (hS.mono hbs8)⟩
 go_wp2_with fail
 go_ret
 exact HF.out
set_option maxRecDepth 100000 in
set_option maxHeartbeats 400000 in
theorem xb6_on (m : Mg) (w : World) (om : m.ok) (am : m.At w) (hf : m.Fine) (hk : m.k = 6) : Calls Tryz.prog 53 #[.agg m.ms.cells.toArray] w fun e w' => FOn [] m.bytes w e w' := by
 have hall := hf.all
 have hbd : m.bytes = putL 6 ++ m.body := by unfold Mg.bytes; rw [hk]
 have hbody : m.body = [m.e, m.s].flatMap putL := by unfold Mg.body; rw [hk]; rfl
 rw [hbd, hbody] at hall
 simp only [List.length_append] at hall
 rw [hbd, hbody]
 clear hbd
 have hat : ∀ {w' : World} {b : Nat}, w'.rangeAt b 0 m.ms.cells → m.ms.at w' b := fun hr => om.ms.at hr
 have hkk : m.ms.k = 6 := hk
 obtain ⟨q, hq⟩ : ∃ q, Hid (m.ms.cells = q) := ⟨_, hide rfl⟩
 rw [hq.out]
 simp only [hq.out] at hat
 clear hq
 obtain ⟨hB1, hR1, hs1⟩ := boxed_new w q 63
 have cK := fun w' => xput_on none 0 [] 6 w' (nil_row w') (by simp) (by decide)
 simp only [List.length_nil] at cK
 obtain ⟨L1, hL1⟩ : ∃ L, Hid (([] : List Int) ++ putL 6 = L) := ⟨_, hide rfl⟩
 have HLl : Hid (L1.length = (putL 6).length) := hide (by rw [← hL1.out]; rfl)
 have hK9 : (putL 6).length ≤ 9 := by decide
 go_enter Tryz.func53, Tryz.ntmps53
 go_upto_region 1 with fail
 obtain ⟨w1, hw1⟩ : ∃ W, w.alloc (.cells q.toArray 63) = W := ⟨_, rfl⟩
 rw [hw1] at hB1 hR1 hs1 ⊢
 clear hw1
 have ck := (hat hR1).k
 rw [hkk] at ck
 try simp only [Act.put]
 refine pl_begin ?_
 refine pl_t 7 (?_) (by rfl) ?_ rfl ?_
 rotate_left
 ·go_simp
  try with_reducible rfl
 simp only [nz]
 refine pl_t 8 (.int .i64 6) (by rfl) (pl_one rfl rfl ck Tryz.underlying3 rfl) rfl ?_
 simp only [nz]
 refine pl_call (d := some 9) (by rfl) (by go_simp; first | done | exact ⟨rfl, rfl⟩ | with_reducible rfl) rfl ?_
 refine (cK w1).mono ?_
 rintro _ w2 hfin
 obtain ⟨a2, c2, rfl, row2, -, hB2⟩ := FOn.row hfin hL1.out (by have := HLl.out; omega)
 refine ⟨_, rfl, ?_⟩
 simp only [nz]
 refine pl_t 3 (?_) (by rfl) ?_ rfl ?_
 rotate_left
 ·go_simp
  try with_reducible rfl
 simp only [nz]
 refine pl_nil ?_
 have hBw2 := hB1.trans (hB2.mono hB1.size)
 have hR2 := range_below hR1 hB2 hs1
 have hs2 : w.heap.size < w2.heap.size := Nat.lt_of_lt_of_le hs1 hB2.size
 have MA := hat hR2
 have ck := MA.k
 rw [hkk] at ck
 clear cK
 have de := MA.e
 have ds := MA.s
 have cN := xnums_on a2 c2 L1 [m.e, m.s] #[.int .i64 m.e, .int .i64 m.s] 2 w2 row2 rfl rfl (by have := HLl.out; omega) (by omega) (by omega) (two_le hf.e hf.s)
 go_upto_region 23 with fail
 try simp only [Act.put]
 refine pl_begin ?_
 refine pl_t 122 (?_) (by rfl) ?_ rfl ?_
 rotate_left
 ·go_simp
  try with_reducible rfl
 simp only [nz]
 refine pl_t 123 (?_) (by rfl) ?_ rfl ?_
 rotate_left
 ·go_simp
  try with_reducible rfl
 simp only [nz]
 refine pl_t 124 (.int .i64 m.e) (by rfl) (pl_one rfl rfl de Tryz.underlying3 rfl) rfl ?_
 simp only [nz]
 refine pl_t 125 (?_) (by rfl) ?_ rfl ?_
 rotate_left
 ·go_simp
  try with_reducible rfl
 simp only [nz]
 refine pl_t 126 (.int .i64 m.s) (by rfl) (pl_one rfl rfl ds Tryz.underlying3 rfl) rfl ?_
 simp only [nz]
 refine pl_run (d := some 127) (v := .slice (some ⟨w2.heap.size, 0, none⟩) 2 2) (w' := w2.alloc (.cells #[.int .i64 m.e, .int .i64 m.s] 3)) (by rfl) (ex_bsi2 rfl rfl rfl (run_bsi2 m.e m.s _)) rfl ?_
 simp only [nz]
 refine pl_call (d := some 128) (by rfl) (by go_simp; first | done | exact ⟨rfl, rfl⟩ | with_reducible rfl) rfl ?_
 refine (cN).mono ?_
 rintro _ w3 hfin
 obtain ⟨v9, rfl, m9, hB3⟩ := hfin
 refine ⟨_, rfl, ?_⟩
 simp only [nz]
 refine pl_t 3 (?_) (by rfl) ?_ rfl ?_
 rotate_left
 ·go_simp
  try with_reducible rfl
 simp only [nz]
 refine pl_nil ?_
 have hbs2 := hBw2.size
 have HF : Hid (FOn [] (putL 6 ++ ([m.e, m.s].flatMap putL)) w (.returned v9) w3) := hide ⟨v9, rfl, by
  have e : ([] : List Int) ++ (putL 6 ++ ([m.e, m.s].flatMap putL)) = L1 ++ [m.e, m.s].flatMap putL := by rw [← hL1.out]; simp only [List.nil_append, List.append_assoc]
  rw [e]
  exact m9.mono' (by omega), hBw2.trans (hB3.mono hbs2)⟩
 go_wp2_with fail
 go_ret
 exact HF.out
set_option maxRecDepth 100000 in
set_option maxHeartbeats 400000 in
theorem xb7_on (m : Mg) (w : World) (om : m.ok) (am : m.At w) (hf : m.Fine) (hk : m.k = 7) : Calls Tryz.prog 53 #[.agg m.ms.cells.toArray] w fun e w' => FOn [] m.bytes w e w' := by
 have hall := hf.all
 have hbd : m.bytes = putL 7 ++ m.body := by unfold Mg.bytes; rw [hk]
 have hbody : m.body = batL m.q (m.rs.xs.map BRq.of) ++ ctL m.ct m.cs.xs := by unfold Mg.body; rw [hk]; rfl
 rw [hbd, hbody] at hall
 simp only [List.length_append] at hall
 rw [hbd, hbody]
 clear hbd
 have hat : ∀ {w' : World} {b : Nat}, w'.rangeAt b 0 m.ms.cells → m.ms.at w' b := fun hr => om.ms.at hr
 have hkk : m.ms.k = 7 := hk
 obtain ⟨q, hq⟩ : ∃ q, Hid (m.ms.cells = q) := ⟨_, hide rfl⟩
 rw [hq.out]
 simp only [hq.out] at hat
 clear hq
 obtain ⟨hB1, hR1, hs1⟩ := boxed_new w q 63
 have cK := fun w' => xput_on none 0 [] 7 w' (nil_row w') (by simp) (by decide)
 simp only [List.length_nil] at cK
 obtain ⟨L1, hL1⟩ : ∃ L, Hid (([] : List Int) ++ putL 7 = L) := ⟨_, hide rfl⟩
 have HLl : Hid (L1.length = (putL 7).length) := hide (by rw [← hL1.out]; rfl)
 have hK9 : (putL 7).length ≤ 9 := by decide
 go_enter Tryz.func53, Tryz.ntmps53
 go_upto_region 1 with fail
 obtain ⟨w1, hw1⟩ : ∃ W, w.alloc (.cells q.toArray 63) = W := ⟨_, rfl⟩
 rw [hw1] at hB1 hR1 hs1 ⊢
 clear hw1
 have ck := (hat hR1).k
 rw [hkk] at ck
 try simp only [Act.put]
 refine pl_begin ?_
 refine pl_t 7 (?_) (by rfl) ?_ rfl ?_
 rotate_left
 ·go_simp
  try with_reducible rfl
 simp only [nz]
 refine pl_t 8 (.int .i64 7) (by rfl) (pl_one rfl rfl ck Tryz.underlying3 rfl) rfl ?_
 simp only [nz]
 refine pl_call (d := some 9) (by rfl) (by go_simp; first | done | exact ⟨rfl, rfl⟩ | with_reducible rfl) rfl ?_
 refine (cK w1).mono ?_
 rintro _ w2 hfin
 obtain ⟨a2, c2, rfl, row2, -, hB2⟩ := FOn.row hfin hL1.out (by have := HLl.out; omega)
 refine ⟨_, rfl, ?_⟩
 simp only [nz]
 refine pl_t 3 (?_) (by rfl) ?_ rfl ?_
 rotate_left
 ·go_simp
  try with_reducible rfl
 simp only [nz]
 refine pl_nil ?_
 have hBw2 := hB1.trans (hB2.mono hB1.size)
 have hR2 := range_below hR1 hB2 hs1
 have hs2 : w.heap.size < w2.heap.size := Nat.lt_of_lt_of_le hs1 hB2.size
 have MA := hat hR2
 have ck := MA.k
 rw [hkk] at ck
 clear cK
 obtain ⟨L2, hL2⟩ : ∃ L, Hid (L1 ++ batL m.q (m.rs.xs.map BRq.of) = L) := ⟨_, hide rfl⟩
 have hL2l : L2.length ≤ 40000 := by rw [← hL2.out, List.length_append, HLl.out]; omega
 have hic : (Tryz.prog.info? 31).map (·.size) = some (certL m.ct m.cs).length := by rw [show (certL m.ct m.cs).length = 37 by simp [certL, om.ct.len]]; exact iszCe
 go_upto_region 25 with fail
 refine hs_begin (S := (Below w2.drew.heap.size w2.drew)) 8 rfl (by kernel_rfl) ?_
 have hBw8 : Below w.heap.size w w2.drew := hBw2.drew
 have hR8 : w2.drew.rangeAt w.heap.size 0 q := (World.rangeAt_drew _ _ _ _).2 hR2
 have hs8 : w.heap.size < w2.drew.heap.size := hs2
 have row8 : RowAt w2.drew a2 L1 := row2.below (Below.refl _ _).drew
 obtain ⟨w8, hw8⟩ : ∃ W, w2.drew = W := ⟨_, rfl⟩
 rw [hw8] at hBw8 hR8 hs8 row8 ⊢
 clear hw8 hR2 hs2 hBw2 row2 MA ck hB2 hR1 hB1
 have hM8 : ∀ w', Below w8.heap.size w8 w' → m.ms.at w' w.heap.size := fun w' hw => hat (range_below hR8 hw hs8)
 have hA8 : ∀ w', Below w8.heap.size w8 w' → m.At w' := fun w' hw => am.below (hBw8.trans (hw.mono hBw8.size))
 have hbs8 := hBw8.size
 have hS : (Below w8.heap.size w8) w8 := Below.refl _ _
 refine hs_t 0 131 (?_) rfl (by kernel_rfl) (by kernel_rfl) (by kernel_rfl) (by rfl) ?_ hS rfl ?_
 rotate_left
 ·intro w' hw
  go_simp
  try with_reducible rfl
 simp only [nz]
 refine hs_t 1 132 (?_) rfl (by kernel_rfl) (by kernel_rfl) (by kernel_rfl) (by rfl) ?_ hS rfl ?_
 rotate_left
 ·intro w' hw
  go_simp
  try with_reducible rfl
 simp only [nz]
 refine hs_t 2 133 (.agg ([.bool m.q, m.rs.val] : List Value).toArray) rfl (by kernel_rfl) (by kernel_rfl) (by kernel_rfl) (by rfl) (fun w' hw => ex_mid rfl rfl (ms_bat (hM8 w' hw)) Tryz.underlying24 rfl iszBa) hS rfl ?_
 simp only [nz]
 refine hs_t 4 135 (?_) rfl (by kernel_rfl) (by kernel_rfl) (by kernel_rfl) (by rfl) ?_ hS rfl ?_
 rotate_left
 ·intro w' hw
  go_simp
  try with_reducible rfl
 simp only [nz]
 refine hs_t 5 136 (.agg (certL m.ct m.cs).toArray) rfl (by kernel_rfl) (by kernel_rfl) (by kernel_rfl) (by rfl) (fun w' hw => ex_mid rfl rfl (show w'.rangeAt w.heap.size 80 (certL m.ct m.cs) from (hM8 w' hw).ct) Tryz.underlying31 rfl hic) hS rfl ?_
 simp only [nz]
 refine hs_call (i := 3) (d := some 134) rfl (by kernel_rfl) (by rfl) (by go_simp; first | done | exact ⟨rfl, rfl⟩ | with_reducible rfl) rfl ?_
 refine (refB_on a2 c2 L1 m.q m.rs w8 row8 (by have := HLl.out; omega) (hA8 w8 hS).rs hf.rn hf.rs).mono ?_
 intro _ w9 hfin
 obtain ⟨a9, c9, rfl, row9, -, hB9⟩ := FOn.row hfin hL2.out (by omega)
 have hS : (Below w8.heap.size w8) w9 := hB9
 have hbw9 := hS.size
 refine ⟨_, rfl, hS, ?_⟩
 simp only [nz]
 refine hs_call (i := 6) (d := some 137) rfl (by kernel_rfl) (by rfl) (by go_simp; first | done | exact ⟨rfl, rfl⟩ | with_reducible rfl) rfl ?_
 refine (xcertP_on a9 c9 L2 m.ct m.cs w9 row9 om.ct (hA8 w9 hS).cs hf.cn (by omega) (by omega)).mono ?_
 intro _ w10 hfin
 obtain ⟨v9, rfl, m9, hB10⟩ := hfin
 have hS : (Below w8.heap.size w8) w10 := hS.trans (hB10.mono hbw9)
 have hbw10 := hS.size
 refine ⟨_, rfl, hS, ?_⟩
 simp only [nz]
 refine hs_t 7 3 (?_) rfl (by kernel_rfl) (by kernel_rfl) (by kernel_rfl) (by rfl) ?_ hS rfl ?_
 rotate_left
 ·intro w' hw
  go_simp
  try with_reducible rfl
 simp only [nz]
 refine hs_done (by kernel_rfl) ?_
 have HF : Hid (FOn [] (putL 7 ++ (batL m.q (m.rs.xs.map BRq.of) ++ ctL m.ct m.cs.xs)) w (.returned v9) w10) := hide ⟨v9, rfl, by
  have e : ([] : List Int) ++ (putL 7 ++ (batL m.q (m.rs.xs.map BRq.of) ++ ctL m.ct m.cs.xs)) = L2 ++ ctL m.ct m.cs.xs := by rw [← hL2.out, ← hL1.out]; simp only [List.nil_append, List.append_assoc]
  rw [e]
  exact m9.mono' (by omega), hBw8.trans (hS.mono hbs8)⟩
 go_wp2_with fail
 go_ret
 exact HF.out
set_option maxRecDepth 100000 in
set_option maxHeartbeats 400000 in
theorem xb8_on (m : Mg) (w : World) (om : m.ok) (am : m.At w) (hf : m.Fine) (hk : m.k = 8) : Calls Tryz.prog 53 #[.agg m.ms.cells.toArray] w fun e w' => FOn [] m.bytes w e w' := by
 have hall := hf.all
 have hbd : m.bytes = putL 8 ++ m.body := by unfold Mg.bytes; rw [hk]
 have hbody : m.body = textL m.st ++ sgsL m.sg.xs := by unfold Mg.body; rw [hk]; rfl
 rw [hbd, hbody] at hall
 simp only [List.length_append] at hall
 rw [hbd, hbody]
 clear hbd
 have hat : ∀ {w' : World} {b : Nat}, w'.rangeAt b 0 m.ms.cells → m.ms.at w' b := fun hr => om.ms.at hr
 have hkk : m.ms.k = 8 := hk
 obtain ⟨q, hq⟩ : ∃ q, Hid (m.ms.cells = q) := ⟨_, hide rfl⟩
 rw [hq.out]
 simp only [hq.out] at hat
 clear hq
 obtain ⟨hB1, hR1, hs1⟩ := boxed_new w q 63
 have cK := fun w' => xput_on none 0 [] 8 w' (nil_row w') (by simp) (by decide)
 simp only [List.length_nil] at cK
 obtain ⟨L1, hL1⟩ : ∃ L, Hid (([] : List Int) ++ putL 8 = L) := ⟨_, hide rfl⟩
 have HLl : Hid (L1.length = (putL 8).length) := hide (by rw [← hL1.out]; rfl)
 have hK9 : (putL 8).length ≤ 9 := by decide
 go_enter Tryz.func53, Tryz.ntmps53
 go_upto_region 1 with fail
 obtain ⟨w1, hw1⟩ : ∃ W, w.alloc (.cells q.toArray 63) = W := ⟨_, rfl⟩
 rw [hw1] at hB1 hR1 hs1 ⊢
 clear hw1
 have ck := (hat hR1).k
 rw [hkk] at ck
 try simp only [Act.put]
 refine pl_begin ?_
 refine pl_t 7 (?_) (by rfl) ?_ rfl ?_
 rotate_left
 ·go_simp
  try with_reducible rfl
 simp only [nz]
 refine pl_t 8 (.int .i64 8) (by rfl) (pl_one rfl rfl ck Tryz.underlying3 rfl) rfl ?_
 simp only [nz]
 refine pl_call (d := some 9) (by rfl) (by go_simp; first | done | exact ⟨rfl, rfl⟩ | with_reducible rfl) rfl ?_
 refine (cK w1).mono ?_
 rintro _ w2 hfin
 obtain ⟨a2, c2, rfl, row2, -, hB2⟩ := FOn.row hfin hL1.out (by have := HLl.out; omega)
 refine ⟨_, rfl, ?_⟩
 simp only [nz]
 refine pl_t 3 (?_) (by rfl) ?_ rfl ?_
 rotate_left
 ·go_simp
  try with_reducible rfl
 simp only [nz]
 refine pl_nil ?_
 have hBw2 := hB1.trans (hB2.mono hB1.size)
 have hR2 := range_below hR1 hB2 hs1
 have hs2 : w.heap.size < w2.heap.size := Nat.lt_of_lt_of_le hs1 hB2.size
 have MA := hat hR2
 have ck := MA.k
 rw [hkk] at ck
 clear cK
 obtain ⟨L2, hL2⟩ : ∃ L, Hid (L1 ++ textL m.st = L) := ⟨_, hide rfl⟩
 have hL2l : L2.length ≤ 60000 := by rw [← hL2.out, List.length_append, HLl.out]; omega
 go_upto_region 27 with fail
 refine hs_begin (S := (Below w2.drew.heap.size w2.drew)) 8 rfl (by kernel_rfl) ?_
 have hBw8 : Below w.heap.size w w2.drew := hBw2.drew
 have hR8 : w2.drew.rangeAt w.heap.size 0 q := (World.rangeAt_drew _ _ _ _).2 hR2
 have hs8 : w.heap.size < w2.drew.heap.size := hs2
 have row8 : RowAt w2.drew a2 L1 := row2.below (Below.refl _ _).drew
 obtain ⟨w8, hw8⟩ : ∃ W, w2.drew = W := ⟨_, rfl⟩
 rw [hw8] at hBw8 hR8 hs8 row8 ⊢
 clear hw8 hR2 hs2 hBw2 row2 MA ck hB2 hR1 hB1
 have hM8 : ∀ w', Below w8.heap.size w8 w' → m.ms.at w' w.heap.size := fun w' hw => hat (range_below hR8 hw hs8)
 have hA8 : ∀ w', Below w8.heap.size w8 w' → m.At w' := fun w' hw => am.below (hBw8.trans (hw.mono hBw8.size))
 have hbs8 := hBw8.size
 have hS : (Below w8.heap.size w8) w8 := Below.refl _ _
 refine hs_t 0 140 (?_) rfl (by kernel_rfl) (by kernel_rfl) (by kernel_rfl) (by rfl) ?_ hS rfl ?_
 rotate_left
 ·intro w' hw
  go_simp
  try with_reducible rfl
 simp only [nz]
 refine hs_t 1 141 (?_) rfl (by kernel_rfl) (by kernel_rfl) (by kernel_rfl) (by rfl) ?_ hS rfl ?_
 rotate_left
 ·intro w' hw
  go_simp
  try with_reducible rfl
 simp only [nz]
 refine hs_t 2 142 (.string m.st) rfl (by kernel_rfl) (by kernel_rfl) (by kernel_rfl) (by rfl) (fun w' hw => pl_one rfl rfl (show w'.cell? ⟨w.heap.size, 117, none⟩ = some (.string m.st) from (hM8 w' hw).st) Tryz.underlying9 rfl) hS rfl ?_
 simp only [nz]
 refine hs_t 4 144 (?_) rfl (by kernel_rfl) (by kernel_rfl) (by kernel_rfl) (by rfl) ?_ hS rfl ?_
 rotate_left
 ·intro w' hw
  go_simp
  try with_reducible rfl
 simp only [nz]
 refine hs_t 5 145 (m.sg.val) rfl (by kernel_rfl) (by kernel_rfl) (by kernel_rfl) (by rfl) (fun w' hw => pl_one rfl rfl (show w'.cell? ⟨w.heap.size, 118, none⟩ = some m.sg.val from (hM8 w' hw).sg) Tryz.underlying29 rfl) hS rfl ?_
 simp only [nz]
 refine hs_call (i := 3) (d := some 143) rfl (by kernel_rfl) (by rfl) (by go_simp; first | done | exact ⟨rfl, rfl⟩ | with_reducible rfl) rfl ?_
 refine (xtext_on a2 c2 L1 m.st w8 row8 (by have := HLl.out; omega) hf.st).mono ?_
 intro _ w9 hfin
 obtain ⟨a9, c9, rfl, row9, -, hB9⟩ := FOn.row hfin hL2.out (by omega)
 have hS : (Below w8.heap.size w8) w9 := hB9
 have hbw9 := hS.size
 refine ⟨_, rfl, hS, ?_⟩
 simp only [nz]
 refine hs_call (i := 6) (d := some 146) rfl (by kernel_rfl) (by rfl) (by go_simp; first | done | exact ⟨rfl, rfl⟩ | with_reducible rfl) rfl ?_
 refine (xsignsP_on a9 c9 L2 m.sg w9 row9 (hA8 w9 hS).sg hf.gn (by omega) (by omega)).mono ?_
 intro _ w10 hfin
 obtain ⟨v9, rfl, m9, hB10⟩ := hfin
 have hS : (Below w8.heap.size w8) w10 := hS.trans (hB10.mono hbw9)
 have hbw10 := hS.size
 refine ⟨_, rfl, hS, ?_⟩
 simp only [nz]
 refine hs_t 7 3 (?_) rfl (by kernel_rfl) (by kernel_rfl) (by kernel_rfl) (by rfl) ?_ hS rfl ?_
 rotate_left
 ·intro w' hw
  go_simp
  try with_reducible rfl
 simp only [nz]
 refine hs_done (by kernel_rfl) ?_
 have HF : Hid (FOn [] (putL 8 ++ (textL m.st ++ sgsL m.sg.xs)) w (.returned v9) w10) := hide ⟨v9, rfl, by
  have e : ([] : List Int) ++ (putL 8 ++ (textL m.st ++ sgsL m.sg.xs)) = L2 ++ sgsL m.sg.xs := by rw [← hL2.out, ← hL1.out]; simp only [List.nil_append, List.append_assoc]
  rw [e]
  exact m9.mono' (by omega), hBw8.trans (hS.mono hbs8)⟩
 go_wp2_with fail
 go_ret
 exact HF.out
end Go.Proofs.YtinndbipomlokaaGreat
