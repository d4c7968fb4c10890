/- For all records and bytes, raddlelaw24.RecordBack returns true: a record that may be comes back from its bytes; what is decoded, encoded, is the same bytes. Conditions: none beyond the row's own. -/
import Derived.Test.YtinndbipomlokaaGreatJC0
import Derived.Test.YtinndbipomlokaaGreatJC13
import Derived.Test.YtinndbipomlokaaGreatJC6
import Derived.Test.YtinndbipomlokaaGreatJC3
import Derived.Test.YtinndbipomlokaaGreatJC5
import Derived.Deep.Cut
import Derived.Deep.DeepCutAuto
import Derived.Deep.Slices
import Derived.Test.YtinndbipomlokaaGreatRows
import Derived.ProofKit
import Derived.OpenShut
import Derived.ShutString
import Derived.ChangeOld
import Derived.Below
import Derived.Lib.LaidTab
import Derived.Test.YtinndbipomlokaaGreatJC12
import Derived.WalkKit
namespace Go.Proofs.YtinndbipomlokaaGreat
open Go.RowKit
open Sha Tal
set_option linter.unusedVariables false
set_option linter.unusedSimpArgs false
theorem rc_bat {r : Rc} (hg : r.good = true) : batMay r.q r.rs = true := by
 unfold Rc.good Mg.good Mg.may Mg.mayL at hg
 simp only [Bool.and_eq_true] at hg
 exact hg.2.2.2.2.2.2.2.1
theorem text_short {r : Rc} {w : World} (h : r.ct.ok) (am : r.At w) (hl : r.light) (hg : r.good = true) (n1 : r.k ≠ 1) (n3 : r.k ≠ 3) : r.told.bytes.length ≤ 10000 := by
 obtain ⟨hp, hv, hk, hb⟩ := Rc.pure_told h am hg
 have hm := rc_bat hg
 have hkk : mkK r.k = 7 ∨ mkK r.k = 8 := by
  rcases mkK_cases r.k with ⟨e, m⟩ | ⟨e, m⟩ | ⟨e, m⟩ | ⟨e, m⟩ | ⟨e, m⟩ | ⟨m, n⟩
  ·exact absurd e n1
  ·exact absurd e n3
  ·exact .inr m
  ·exact .inl m
  ·exact .inl m
  ·exact absurd hk n
 have hbat := bat_le am.rs hm
 have hct := ct_le h am.cs.2.1 hl.2.1
 have hsg := sgs_le am.sg.2.1 hl.2.2
 have hst := hl.1
 have e : r.told.k = mkK r.k := rfl
 have hbody : r.told.body.length ≤ 9000 := by
  unfold Mg.body
  rw [e]
  rcases hkk with q | q
  ·rw [q]
   show (batL r.q (r.rs.xs.map BRq.of) ++ ctL r.ct r.cs.xs).length ≤ 9000
   rw [List.length_append]
   omega
  ·rw [q]
   show (textL r.st ++ sgsL r.sg.xs).length ≤ 9000
   unfold textL
   have p := putL_le (r.st.size : Int) (by omega)
   simp only [List.length_append, strL_length]
   omega
 unfold Mg.bytes
 have p1 := putL_le r.told.k (by rw [e]; omega)
 rw [List.length_append]
 omega
theorem rc_le4 {r : Rc} {w : World} (h : r.ct.ok) (am : r.At w) (hl : r.light) (hg : r.good = true) : r.bytes.length ≤ 40000 := by
 have hf := fine_rc h am hl hg
 obtain ⟨hp, hv, hk, hb⟩ := Rc.pure_told h am hg
 obtain ⟨f1, f2, f3, f4⟩ := hf
 have p1 := putL_le r.k (by omega)
 have fs : r.s ≤ 9223372036854775807 := f1.s
 have fl : r.l ≤ 9223372036854775807 := f1.l
 have p2 := putL_le r.s fs
 have p3 := putL_le r.v f2
 have p4 := putL_le r.l fl
 unfold Rc.bytes
 split
 ·have hb := bat_le am.rs (rc_bat hg)
  simp only [List.length_append]
  omega
 split
 ·simp only [List.length_append]
  omega
 ·rename_i n1 n3
  have ht2 := text_short h am hl hg n1 n3
  have ht : (textL (strOf r.told.bytes)).length ≤ 9 + r.told.bytes.length := by
   unfold textL
   rw [List.length_append, strL_length, strOf_len]
   have := putL_le (r.told.bytes.length : Int) (by omega)
   omega
  simp only [List.length_append]
  omega
set_option maxRecDepth 100000 in
set_option maxHeartbeats 2000000 in
theorem back_walk (m : Rc) (a : Option Addr) (cap : Nat) (zs : List Int) (w : World) (om : m.ct.ok) (am : m.At w) (h : RowAt w a zs) : Calls Tryz.prog 5 #[.agg m.cells.toArray, .slice a zs.length cap] w fun e w' => e = .returned (.bool true) ∧ Below w.heap.size w w' := by
 obtain ⟨zc, hzl, hzr⟩ : ∃ z : List Value, z.length = 45 ∧ ∀ w : World, (zeroValue 33).run Tryz.prog w = .ok (.agg z.toArray) w := ⟨_, Rc.len Vt.zero_ok, zeroRc⟩
 have hml : zs.length ≤ maxLen := h.1
 unfold maxLen at hml
 have hbs : Bs zs := fun z hz => h.2.1 z hz
 obtain ⟨p0, hp0⟩ : ∃ p, Hid (decide (20000 < (zs.length : Int)) = p) := ⟨_, hide rfl⟩
 have hqal := Rc.len om
 have iq : (Tryz.prog.info? 33).map (·.size) = some m.cells.length := by rw [hqal]; exact iszRc
 obtain ⟨hB1, hRa, hs1⟩ := boxed_new w m.cells 33
 have cL1 := fun w0 (h0 : Below w.heap.size w w0) => light24_any ⟨some ⟨w0.heap.size, 0, none⟩, 1, [m]⟩ _ (rcs_one om (am.below' h0))
 have hlm : (∀ r ∈ [m], r.light) → m.light := fun h => h m (by simp)
 unfold LightK at cL1
 have hrow := h.below hB1
 obtain ⟨qa, hqa⟩ : ∃ q, m.cells = q := ⟨_, rfl⟩
 simp only [hqa] at cL1 iq hRa hB1 hs1 hqal hrow ⊢
 go_enter Tryz.func5, Tryz.ntmps5
 go_upto_region 1 with fail
 obtain ⟨W, hW⟩ : ∃ W, w.alloc (.cells qa.toArray 33) = W := ⟨_, rfl⟩
 rw [hW] at hRa hB1 hs1 hrow ⊢
 clear hW h
 have hsa : w.heap.size < W.heap.size := hs1
 have rowW := hrow
 have HS0 : Below W.heap.size W (W.alloc (.cells qa.toArray 33)) := (Below.refl _ _).alloc (Nat.le_refl _) _
 have cL : Calls Tryz.prog 7 #[.slice (some ⟨W.heap.size, 0, none⟩) 1 1] (W.alloc (.cells qa.toArray 33)) fun e w' => ∃ b : Bool, e = .returned (.bool b) ∧ Below (W.alloc (.cells qa.toArray 33)).heap.size (W.alloc (.cells qa.toArray 33)) w' ∧ (b = true → m.light) := (cL1 W hB1).mono (by
  rintro e w' ⟨b, h1, h2, h3⟩
  exact ⟨b, h1, h2, fun hb => hlm (h3 hb).2⟩)
 clear cL1 hlm hrow hs1
 try simp only [Act.put]
 refine pl_begin ?_
 refine pl_t 13 (.agg qa.toArray) (by rfl) (ex_mid rfl rfl hRa Tryz.underlying33 rfl iq) rfl ?_
 simp only [nz]
 refine pl_run (d := some 14) (v := .slice (some ⟨W.heap.size, 0, none⟩) 1 1) (w' := W.alloc (.cells qa.toArray 33)) (by rfl) (ex_bsi rfl rfl (bs1_rec hqal W)) rfl ?_
 simp only [nz]
 refine pl_call (d := some 15) (by rfl) (by go_simp; first | done | exact ⟨rfl, rfl⟩ | with_reducible rfl) rfl ?_
 refine (cL).mono ?_
 rintro _ w9 ⟨b, rfl, HSL, hlt⟩
 have HS := HS0.trans (HSL.mono HS0.size)
 clear HSL
 refine ⟨_, rfl, ?_⟩
 simp only [nz]
 have B9 : Below w.heap.size w w9 := hB1.trans (HS.mono hB1.size)
 cases b
 ·refine pl_t 16 (?_) (by rfl) ?_ rfl ?_
  rotate_left
  ·go_simp
   try with_reducible rfl
  simp only [nz]
  refine pl_t 17 (?_) (by rfl) ?_ rfl ?_
  rotate_left
  ·go_simp
   try with_reducible rfl
  simp only [nz]
  refine pl_skip (d := some 18) (by rfl) rfl ?_
  simp only [nz]
  refine pl_skip (d := some 19) (by rfl) rfl ?_
  simp only [nz]
  refine pl_skip (d := some 20) (by rfl) rfl ?_
  simp only [nz]
  refine pl_t 21 (?_) (by rfl) ?_ rfl ?_
  rotate_left
  ·go_simp
   try with_reducible rfl
  simp only [nz]
  refine pl_nil ?_
  go_upto_region 2 with fail
  try simp only [Act.put]
  refine pl_begin ?_
  refine pl_call (d := some 22) (by rfl) (by go_simp; first | done | exact ⟨rfl, rfl⟩ | with_reducible rfl) rfl ?_
  refine (lives24_any w9).mono ?_
  rintro _ wL ⟨rfl, hbL⟩
  refine ⟨_, rfl, ?_⟩
  simp only [nz]
  refine pl_t 4 (?_) (by rfl) ?_ rfl ?_
  rotate_left
  ·go_simp
   try with_reducible rfl
  simp only [nz]
  refine pl_nil ?_
  have HB := hide (B9.trans (hbL.mono B9.size))
  go_wp2_with fail
  go_ret
  exact ⟨rfl, HB.out⟩
 ·refine pl_t 16 (?_) (by rfl) ?_ rfl ?_
  rotate_left
  ·go_simp
   try with_reducible rfl
  simp only [nz]
  refine pl_t 17 (?_) (by rfl) ?_ rfl ?_
  rotate_left
  ·go_simp
   try with_reducible rfl
  simp only [nz]
  refine pl_t 18 (?_) (by rfl) ?_ rfl ?_
  rotate_left
  ·go_simp
   try with_reducible rfl
  simp only [nz]
  refine pl_t 19 (?_) (by rfl) ?_ rfl ?_
  rotate_left
  ·go_simp
   try with_reducible rfl
  simp only [nz]
  refine pl_t 20 (.bool p0) (by rfl) (by rw [← hp0.out]; go_simp) rfl ?_
  simp only [nz]
  refine pl_t 21 (?_) (by rfl) ?_ rfl ?_
  rotate_left
  ·go_simp
   try with_reducible rfl
  simp only [nz]
  refine pl_nil ?_
  cases p0
  rotate_left
  ·clear hp0
   go_upto_region 2 with fail
   try simp only [Act.put]
   refine pl_begin ?_
   refine pl_call (d := some 22) (by rfl) (by go_simp; first | done | exact ⟨rfl, rfl⟩ | with_reducible rfl) rfl ?_
   refine (lives24_any w9).mono ?_
   rintro _ wL ⟨rfl, hbL⟩
   refine ⟨_, rfl, ?_⟩
   simp only [nz]
   refine pl_t 4 (?_) (by rfl) ?_ rfl ?_
   rotate_left
   ·go_simp
    try with_reducible rfl
   simp only [nz]
   refine pl_nil ?_
   have HB := hide (B9.trans (hbL.mono B9.size))
   go_wp2_with fail
   go_ret
   exact ⟨rfl, HB.out⟩
  have hl : zs.length ≤ 40000 := by have := of_decide_eq_false hp0.out; omega
  have hlr := hlt rfl
  have hR9 := range_below hRa HS hsa
  have row9 := (rowW.below HS)
  have s9 := Nat.lt_of_lt_of_le hsa HS.size
  have hform := fun (h0 : (kdec zs).2 = 0) (c : Rc) (hc : c.pure = (kdec zs).1) => kdec_form hbs h0 hc hl
  have kB := fun w0 h0 => kdecode_any a cap zs w0 h0 hl
  have cE := kencode_any m w9 om (am.below' B9) (fun hg => fine_rc om am hlr hg)
  rw [hqa] at cE
  have hback := fun hg => kdec_back om am hg (fine_rc om am hlr hg).1.all
  have hble := fun hg => Rc.bytes_le am (fine_rc om am hlr hg)
  have hbl4 := fun hg => rc_le4 om am hlr hg
  unfold DecK at kB
  generalize kdec zs = PB at kB hform
  obtain ⟨rpb, erb⟩ := PB
  simp only at kB hform
  unfold EncR encZ encE at cE
  clear hp0 hlt HS hB1 hRa hsa rowW hbs hlr HS0
  by_cases hg : m.good = true
  rotate_left
  ·rw [if_neg hg, if_neg hg] at cE
   clear hback hble hbl4
   go_upto_region 3 with fail
   try simp only [Act.put]
   refine pl_begin ?_
   refine pl_t 24 (.agg qa.toArray) (by rfl) (ex_mid rfl rfl hR9 Tryz.underlying33 rfl iq) rfl ?_
   simp only [nz]
   refine pl_call (d := some 25) (by rfl) (by go_simp; first | done | exact ⟨rfl, rfl⟩ | with_reducible rfl) rfl ?_
   refine (cE).mono ?_
   rintro _ w1 ⟨v1, rfl, mine1, hb1⟩
   obtain ⟨a1, c1, rfl, -, -, row1⟩ := mine1.rowAt (by decide)
   refine ⟨_, rfl, ?_⟩
   simp only [nz]
   refine pl_t 23 (?_) (by rfl) ?_ rfl ?_
   rotate_left
   ·go_simp
    try with_reducible rfl
   simp only [nz]
   refine pl_t 26 (?_) (by rfl) ?_ rfl ?_
   rotate_left
   ·go_simp
    try with_reducible rfl
   simp only [nz]
   refine pl_t 27 (?_) (by rfl) ?_ rfl ?_
   rotate_left
   ·go_simp
    try with_reducible rfl
   simp only [nz]
   refine pl_t 5 (?_) (by rfl) ?_ rfl ?_
   rotate_left
   ·go_simp
    try with_reducible rfl
   simp only [nz]
   refine pl_t 6 (?_) (by rfl) ?_ rfl ?_
   rotate_left
   ·go_simp
    try with_reducible rfl
   simp only [nz]
   refine pl_nil ?_
   have B1 := B9.trans (hb1.mono B9.size)
   have w1row := row9.below hb1
   clear mine1 row1 cE hR9
   go_upto_region 4 with fail
   try simp only [Act.put]
   refine pl_begin ?_
   refine pl_t 28 (?_) (by rfl) ?_ rfl ?_
   rotate_left
   ·go_simp
    try with_reducible rfl
   simp only [nz]
   refine pl_t 29 (.bool false) (by rfl) (by go_simp) rfl ?_
   simp only [nz]
   refine pl_nil ?_
   clear hb1 row9
   have rowU := w1row
   have BU := B1
   obtain ⟨U, hU⟩ : ∃ U, w1 = U := ⟨_, rfl⟩
   rw [hU] at rowU BU ⊢
   clear hU
   go_upto_region 8 with fail
   try simp only [Act.put]
   refine pl_begin ?_
   refine pl_t 44 (?_) (by rfl) ?_ rfl ?_
   rotate_left
   ·go_simp
    try with_reducible rfl
   simp only [nz]
   refine pl_call (d := some 45) (by rfl) (by go_simp; first | done | exact ⟨rfl, rfl⟩ | with_reducible rfl) rfl ?_
   refine (kB U rowU).mono ?_
   rintro _ w5 ⟨d, rfl, dp, do_, da, db, hb5⟩
   refine ⟨_, rfl, ?_⟩
   simp only [nz]
   have dl : d.cells.length = 45 := Rc.len do_
   have d1 := Rc.one d
   have di : (Tryz.prog.info? 33).map (·.size) = some d.cells.length := by rw [dl]; exact iszRc
   refine pl_t 43 (?_) (by rfl) ?_ rfl ?_
   rotate_left
   ·go_simp
    try with_reducible rfl
   simp only [nz]
   refine pl_t 46 (?_) (by rfl) ?_ rfl ?_
   rotate_left
   ·go_simp
    try with_reducible rfl
   simp only [nz]
   refine pl_t 47 (?_) (by rfl) ?_ rfl ?_
   rotate_left
   ·go_simp
    try with_reducible rfl
   simp only [nz]
   refine pl_run (d := some 9) (v := .pointer (some ⟨w5.heap.size, 0, none⟩)) (w' := w5.alloc (.cells zc.toArray 33)) (by rfl) (ex_alloc rfl (hzr _)) rfl ?_
   simp only [nz]
   refine pl_store (w' := (w5.alloc (.cells zc.toArray 33)).setCells w5.heap.size 0 d.cells) (by rfl) (ex_put (cs := d.cells.toArray) rfl rfl rfl (there_newN _ _ _ (by simp [hzl, dl])) (by simpa using di) (all_one d1)) rfl ?_
   refine pl_t 10 (?_) (by rfl) ?_ rfl ?_
   rotate_left
   ·go_simp
    try with_reducible rfl
   simp only [nz]
   refine pl_nil ?_
   obtain ⟨dr, dF, dz, -⟩ := fresh_store w5 zc.toArray 33 d.cells (by simp [hzl, dl])
   replace da : d.At _ := da.below' dF
   have roww5 := (rowU.below hb5).below dF
   have dX := hb5.trans (dF.mono hb5.size)
   obtain ⟨dB, dBB⟩ : ∃ B, w5.heap.size = B := ⟨_, rfl⟩
   simp only [dBB] at dr dz da roww5 dX ⊢
   obtain ⟨w5V, hw5⟩ : ∃ W, (w5.alloc (.cells zc.toArray 33)).setCells dB 0 d.cells = W := ⟨_, rfl⟩
   simp only [hw5] at dr dz da roww5 dX ⊢
   have ds : dB < w5V.heap.size := by omega
   clear hw5 dF dBB
   have BD := BU.trans (dX.mono BU.size)
   go_upto_region 9 with fail
   by_cases he : erb = 0
   rotate_left
   ·have heb : (erb == 0) = false := by simpa using he
    try simp only [Act.put]
    refine pl_begin ?_
    refine pl_t 48 (?_) (by rfl) ?_ rfl ?_
    rotate_left
    ·go_simp
     try with_reducible rfl
    simp only [nz]
    refine pl_t 49 (.bool false) (by rfl) (by go_simp <;> (try simp [*])) rfl ?_
    simp only [nz]
    refine pl_nil ?_
    clear dr da db hb5 dX rowU
    go_upto_region 13 with fail
    try simp only [Act.put]
    refine pl_begin ?_
    refine pl_call (d := some 64) (by rfl) (by go_simp; first | done | exact ⟨rfl, rfl⟩ | with_reducible rfl) rfl ?_
    refine (lives24_any w5V).mono ?_
    rintro _ wL ⟨rfl, hbL⟩
    refine ⟨_, rfl, ?_⟩
    simp only [nz]
    refine pl_t 4 (?_) (by rfl) ?_ rfl ?_
    rotate_left
    ·go_simp
     try with_reducible rfl
    simp only [nz]
    refine pl_nil ?_
    have HB := hide (BD.trans (hbL.mono BD.size))
    go_wp2_with fail
    go_ret
    exact ⟨rfl, HB.out⟩
   subst he
   try simp only [Act.put]
   refine pl_begin ?_
   refine pl_t 48 (?_) (by rfl) ?_ rfl ?_
   rotate_left
   ·go_simp
    try with_reducible rfl
   simp only [nz]
   refine pl_t 49 (.bool true) (by rfl) (by go_simp) rfl ?_
   simp only [nz]
   refine pl_nil ?_
   obtain ⟨dgood, dbytes, dle⟩ := hform rfl d dp
   have dfine : d.Fine := by
    obtain ⟨p1, p2, p3, p4⟩ := Rc.pure_told do_ da dgood
    exact ⟨fine_pure p1 dle, by omega, p3.1, p3.2⟩
   have cE := kencode_any d w5V do_ da (fun _ => dfine)
   unfold EncR encZ encE at cE
   rw [if_pos dgood, if_pos dgood, dbytes] at cE
   clear dgood dbytes dle dfine da db
   obtain ⟨qd, hqd⟩ : ∃ q, d.cells = q := ⟨_, rfl⟩
   simp only [hqd] at cE dr di ⊢
   clear hqd
   go_upto_region 10 with fail
   try simp only [Act.put]
   refine pl_begin ?_
   refine pl_t 51 (.agg qd.toArray) (by rfl) (ex_mid rfl rfl dr Tryz.underlying33 rfl di) rfl ?_
   simp only [nz]
   refine pl_call (d := some 52) (by rfl) (by go_simp; first | done | exact ⟨rfl, rfl⟩ | with_reducible rfl) rfl ?_
   refine (cE).mono ?_
   rintro _ w6 ⟨v6, rfl, mine6, hb6⟩
   obtain ⟨a6, c6, rfl, -, -, row6⟩ := mine6.rowAt (by unfold maxLen; omega)
   refine ⟨_, rfl, ?_⟩
   simp only [nz]
   refine pl_t 50 (?_) (by rfl) ?_ rfl ?_
   rotate_left
   ·go_simp
    try with_reducible rfl
   simp only [nz]
   refine pl_t 53 (?_) (by rfl) ?_ rfl ?_
   rotate_left
   ·go_simp
    try with_reducible rfl
   simp only [nz]
   refine pl_t 54 (?_) (by rfl) ?_ rfl ?_
   rotate_left
   ·go_simp
    try with_reducible rfl
   simp only [nz]
   refine pl_t 11 (?_) (by rfl) ?_ rfl ?_
   rotate_left
   ·go_simp
    try with_reducible rfl
   simp only [nz]
   refine pl_t 12 (?_) (by rfl) ?_ rfl ?_
   rotate_left
   ·go_simp
    try with_reducible rfl
   simp only [nz]
   refine pl_nil ?_
   have BE := BD.trans (hb6.mono BD.size)
   have rowb := roww5.below hb6
   have hc1 := row_mine row6 c6
   have hc2 := row_mine rowb cap
   clear mine6 row6 rowb hb6 dr hb5 dX rowU cE
   go_upto_region 11 with fail
   try simp only [Act.put]
   refine pl_begin ?_
   refine pl_t 55 (?_) (by rfl) ?_ rfl ?_
   rotate_left
   ·go_simp
    try with_reducible rfl
   simp only [nz]
   refine pl_t 56 (.bool false) (by rfl) (by go_simp) rfl ?_
   simp only [nz]
   refine pl_t 57 (?_) (by rfl) ?_ rfl ?_
   rotate_left
   ·go_simp
    try with_reducible rfl
   simp only [nz]
   refine pl_t 58 (?_) (by rfl) ?_ rfl ?_
   rotate_left
   ·go_simp
    try with_reducible rfl
   simp only [nz]
   refine pl_t 59 (.string (strOf zs)) (by rfl) (exec_conv rfl rfl hc1) rfl ?_
   simp only [nz]
   refine pl_t 60 (?_) (by rfl) ?_ rfl ?_
   rotate_left
   ·go_simp
    try with_reducible rfl
   simp only [nz]
   refine pl_t 61 (.string (strOf zs)) (by rfl) (exec_conv rfl rfl hc2) rfl ?_
   simp only [nz]
   refine pl_t 62 (.bool false) (by rfl) (by go_simp) rfl ?_
   simp only [nz]
   refine pl_t 63 (?_) (by rfl) ?_ rfl ?_
   rotate_left
   ·go_simp
    try with_reducible rfl
   simp only [nz]
   refine pl_nil ?_
   go_upto_region 13 with fail
   try simp only [Act.put]
   refine pl_begin ?_
   refine pl_call (d := some 64) (by rfl) (by go_simp; first | done | exact ⟨rfl, rfl⟩ | with_reducible rfl) rfl ?_
   refine (lives24_any w6).mono ?_
   rintro _ wL ⟨rfl, hbL⟩
   refine ⟨_, rfl, ?_⟩
   simp only [nz]
   refine pl_t 4 (?_) (by rfl) ?_ rfl ?_
   rotate_left
   ·go_simp
    try with_reducible rfl
   simp only [nz]
   refine pl_nil ?_
   have HB := hide (BE.trans (hbL.mono BE.size))
   go_wp2_with fail
   go_ret
   exact ⟨rfl, HB.out⟩
  rw [if_pos hg, if_pos hg] at cE
  have hbk := hback hg
  have hb3 := hble hg
  have hb4 := hbl4 hg
  clear hback hble hbl4
  obtain ⟨Z, hZ⟩ : ∃ Z, m.bytes = Z := ⟨_, rfl⟩
  rw [hZ] at cE hbk hb3 hb4
  clear hZ
  have kA := fun a c w0 h0 => kdecode_any a c Z w0 h0 hb4
  unfold DecK at kA
  rw [hbk] at kA
  simp only at kA
  clear hbk
  go_upto_region 3 with fail
  try simp only [Act.put]
  refine pl_begin ?_
  refine pl_t 24 (.agg qa.toArray) (by rfl) (ex_mid rfl rfl hR9 Tryz.underlying33 rfl iq) rfl ?_
  simp only [nz]
  refine pl_call (d := some 25) (by rfl) (by go_simp; first | done | exact ⟨rfl, rfl⟩ | with_reducible rfl) rfl ?_
  refine (cE).mono ?_
  rintro _ w1 ⟨v1, rfl, mine1, hb1⟩
  obtain ⟨a1, c1, rfl, -, -, roww1⟩ := mine1.rowAt (by unfold maxLen; omega)
  refine ⟨_, rfl, ?_⟩
  simp only [nz]
  refine pl_t 23 (?_) (by rfl) ?_ rfl ?_
  rotate_left
  ·go_simp
   try with_reducible rfl
  simp only [nz]
  refine pl_t 26 (?_) (by rfl) ?_ rfl ?_
  rotate_left
  ·go_simp
   try with_reducible rfl
  simp only [nz]
  refine pl_t 27 (?_) (by rfl) ?_ rfl ?_
  rotate_left
  ·go_simp
   try with_reducible rfl
  simp only [nz]
  refine pl_t 5 (?_) (by rfl) ?_ rfl ?_
  rotate_left
  ·go_simp
   try with_reducible rfl
  simp only [nz]
  refine pl_t 6 (?_) (by rfl) ?_ rfl ?_
  rotate_left
  ·go_simp
   try with_reducible rfl
  simp only [nz]
  refine pl_nil ?_
  have B1 := B9.trans (hb1.mono B9.size)
  have rowb1 := row9.below hb1
  have hR1 := range_below hR9 hb1 s9
  have s1 := Nat.lt_of_lt_of_le s9 hb1.size
  clear mine1 cE hR9 row9 s9
  go_upto_region 4 with fail
  try simp only [Act.put]
  refine pl_begin ?_
  refine pl_t 28 (?_) (by rfl) ?_ rfl ?_
  rotate_left
  ·go_simp
   try with_reducible rfl
  simp only [nz]
  refine pl_t 29 (.bool true) (by rfl) (by go_simp) rfl ?_
  simp only [nz]
  refine pl_nil ?_
  go_upto_region 5 with fail
  try simp only [Act.put]
  refine pl_begin ?_
  refine pl_t 31 (?_) (by rfl) ?_ rfl ?_
  rotate_left
  ·go_simp
   try with_reducible rfl
  simp only [nz]
  refine pl_call (d := some 32) (by rfl) (by go_simp; first | done | exact ⟨rfl, rfl⟩ | with_reducible rfl) rfl ?_
  refine (kA a1 c1 w1 roww1).mono ?_
  rintro _ w2 ⟨c, rfl, cp, co, ca, cb, hb2⟩
  refine ⟨_, rfl, ?_⟩
  simp only [nz]
  have cl : c.cells.length = 45 := Rc.len co
  have c1 := Rc.one c
  have ci : (Tryz.prog.info? 33).map (·.size) = some c.cells.length := by rw [cl]; exact iszRc
  refine pl_t 30 (?_) (by rfl) ?_ rfl ?_
  rotate_left
  ·go_simp
   try with_reducible rfl
  simp only [nz]
  refine pl_t 33 (?_) (by rfl) ?_ rfl ?_
  rotate_left
  ·go_simp
   try with_reducible rfl
  simp only [nz]
  refine pl_t 34 (?_) (by rfl) ?_ rfl ?_
  rotate_left
  ·go_simp
   try with_reducible rfl
  simp only [nz]
  refine pl_run (d := some 7) (v := .pointer (some ⟨w2.heap.size, 0, none⟩)) (w' := w2.alloc (.cells zc.toArray 33)) (by rfl) (ex_alloc rfl (hzr _)) rfl ?_
  simp only [nz]
  refine pl_store (w' := (w2.alloc (.cells zc.toArray 33)).setCells w2.heap.size 0 c.cells) (by rfl) (ex_put (cs := c.cells.toArray) rfl rfl rfl (there_newN _ _ _ (by simp [hzl, cl])) (by simpa using ci) (all_one c1)) rfl ?_
  refine pl_t 8 (?_) (by rfl) ?_ rfl ?_
  rotate_left
  ·go_simp
   try with_reducible rfl
  simp only [nz]
  refine pl_nil ?_
  obtain ⟨cr, cF, cz, -⟩ := fresh_store w2 zc.toArray 33 c.cells (by simp [hzl, cl])
  replace ca : c.At _ := ca.below' cF
  have roww2 := (roww1.below hb2).below cF
  have cX := hb2.trans (cF.mono hb2.size)
  obtain ⟨cB, cBB⟩ : ∃ B, w2.heap.size = B := ⟨_, rfl⟩
  simp only [cBB] at cr cz ca roww2 cX ⊢
  obtain ⟨w2V, hw2⟩ : ∃ W, (w2.alloc (.cells zc.toArray 33)).setCells cB 0 c.cells = W := ⟨_, rfl⟩
  simp only [hw2] at cr cz ca roww2 cX ⊢
  have cs : cB < w2V.heap.size := by omega
  clear hw2 cF cBB
  have B2 := B1.trans (cX.mono B1.size)
  have hR2 := range_below hR1 cX s1
  have w2Vrow := rowb1.below cX
  have hBt : Rc.B c m = true := Rc.B_eqv cp
  have cS := xksame_any c m w2V co om ca (am.below' B2)
  rw [hBt, hqa] at cS
  obtain ⟨qc, hqc⟩ : ∃ q, c.cells = q := ⟨_, rfl⟩
  simp only [hqc] at cS cr ci ⊢
  clear hBt ca cX hb2 hb1 cb hqc hR1 rowb1 roww1 roww2
  go_upto_region 6 with fail
  try simp only [Act.put]
  refine pl_begin ?_
  refine pl_t 35 (?_) (by rfl) ?_ rfl ?_
  rotate_left
  ·go_simp
   try with_reducible rfl
  simp only [nz]
  refine pl_t 36 (.bool false) (by rfl) (by go_simp) rfl ?_
  simp only [nz]
  refine pl_t 37 (?_) (by rfl) ?_ rfl ?_
  rotate_left
  ·go_simp
   try with_reducible rfl
  simp only [nz]
  refine pl_t 38 (.agg qc.toArray) (by rfl) (ex_mid rfl rfl cr Tryz.underlying33 rfl ci) rfl ?_
  simp only [nz]
  refine pl_t 39 (.agg qa.toArray) (by rfl) (ex_mid rfl rfl hR2 Tryz.underlying33 rfl iq) rfl ?_
  simp only [nz]
  refine pl_call (d := some 40) (by rfl) (by go_simp; first | done | exact ⟨rfl, rfl⟩ | with_reducible rfl) rfl ?_
  refine (cS).mono ?_
  rintro _ w3 ⟨rfl, hb3b⟩
  refine ⟨_, rfl, ?_⟩
  simp only [nz]
  refine pl_t 41 (.bool false) (by rfl) (by go_simp) rfl ?_
  simp only [nz]
  refine pl_t 42 (?_) (by rfl) ?_ rfl ?_
  rotate_left
  ·go_simp
   try with_reducible rfl
  simp only [nz]
  refine pl_nil ?_
  have B3 := B2.trans (hb3b.mono B2.size)
  have w3row := w2Vrow.below hb3b
  clear hR2 cr cS w2Vrow hb3b
  have rowU := w3row
  have BU := B3
  obtain ⟨U, hU⟩ : ∃ U, w3 = U := ⟨_, rfl⟩
  rw [hU] at rowU BU ⊢
  clear hU
  go_upto_region 8 with fail
  try simp only [Act.put]
  refine pl_begin ?_
  refine pl_t 44 (?_) (by rfl) ?_ rfl ?_
  rotate_left
  ·go_simp
   try with_reducible rfl
  simp only [nz]
  refine pl_call (d := some 45) (by rfl) (by go_simp; first | done | exact ⟨rfl, rfl⟩ | with_reducible rfl) rfl ?_
  refine (kB U rowU).mono ?_
  rintro _ w5 ⟨d, rfl, dp, do_, da, db, hb5⟩
  refine ⟨_, rfl, ?_⟩
  simp only [nz]
  have dl : d.cells.length = 45 := Rc.len do_
  have d1 := Rc.one d
  have di : (Tryz.prog.info? 33).map (·.size) = some d.cells.length := by rw [dl]; exact iszRc
  refine pl_t 43 (?_) (by rfl) ?_ rfl ?_
  rotate_left
  ·go_simp
   try with_reducible rfl
  simp only [nz]
  refine pl_t 46 (?_) (by rfl) ?_ rfl ?_
  rotate_left
  ·go_simp
   try with_reducible rfl
  simp only [nz]
  refine pl_t 47 (?_) (by rfl) ?_ rfl ?_
  rotate_left
  ·go_simp
   try with_reducible rfl
  simp only [nz]
  refine pl_run (d := some 9) (v := .pointer (some ⟨w5.heap.size, 0, none⟩)) (w' := w5.alloc (.cells zc.toArray 33)) (by rfl) (ex_alloc rfl (hzr _)) rfl ?_
  simp only [nz]
  refine pl_store (w' := (w5.alloc (.cells zc.toArray 33)).setCells w5.heap.size 0 d.cells) (by rfl) (ex_put (cs := d.cells.toArray) rfl rfl rfl (there_newN _ _ _ (by simp [hzl, dl])) (by simpa using di) (all_one d1)) rfl ?_
  refine pl_t 10 (?_) (by rfl) ?_ rfl ?_
  rotate_left
  ·go_simp
   try with_reducible rfl
  simp only [nz]
  refine pl_nil ?_
  obtain ⟨dr, dF, dz, -⟩ := fresh_store w5 zc.toArray 33 d.cells (by simp [hzl, dl])
  replace da : d.At _ := da.below' dF
  have roww5 := (rowU.below hb5).below dF
  have dX := hb5.trans (dF.mono hb5.size)
  obtain ⟨dB, dBB⟩ : ∃ B, w5.heap.size = B := ⟨_, rfl⟩
  simp only [dBB] at dr dz da roww5 dX ⊢
  obtain ⟨w5V, hw5⟩ : ∃ W, (w5.alloc (.cells zc.toArray 33)).setCells dB 0 d.cells = W := ⟨_, rfl⟩
  simp only [hw5] at dr dz da roww5 dX ⊢
  have ds : dB < w5V.heap.size := by omega
  clear hw5 dF dBB
  have BD := BU.trans (dX.mono BU.size)
  go_upto_region 9 with fail
  by_cases he : erb = 0
  rotate_left
  ·have heb : (erb == 0) = false := by simpa using he
   try simp only [Act.put]
   refine pl_begin ?_
   refine pl_t 48 (?_) (by rfl) ?_ rfl ?_
   rotate_left
   ·go_simp
    try with_reducible rfl
   simp only [nz]
   refine pl_t 49 (.bool false) (by rfl) (by go_simp <;> (try simp [*])) rfl ?_
   simp only [nz]
   refine pl_nil ?_
   clear dr da db hb5 dX rowU
   go_upto_region 13 with fail
   try simp only [Act.put]
   refine pl_begin ?_
   refine pl_call (d := some 64) (by rfl) (by go_simp; first | done | exact ⟨rfl, rfl⟩ | with_reducible rfl) rfl ?_
   refine (lives24_any w5V).mono ?_
   rintro _ wL ⟨rfl, hbL⟩
   refine ⟨_, rfl, ?_⟩
   simp only [nz]
   refine pl_t 4 (?_) (by rfl) ?_ rfl ?_
   rotate_left
   ·go_simp
    try with_reducible rfl
   simp only [nz]
   refine pl_nil ?_
   have HB := hide (BD.trans (hbL.mono BD.size))
   go_wp2_with fail
   go_ret
   exact ⟨rfl, HB.out⟩
  subst he
  try simp only [Act.put]
  refine pl_begin ?_
  refine pl_t 48 (?_) (by rfl) ?_ rfl ?_
  rotate_left
  ·go_simp
   try with_reducible rfl
  simp only [nz]
  refine pl_t 49 (.bool true) (by rfl) (by go_simp) rfl ?_
  simp only [nz]
  refine pl_nil ?_
  obtain ⟨dgood, dbytes, dle⟩ := hform rfl d dp
  have dfine : d.Fine := by
   obtain ⟨p1, p2, p3, p4⟩ := Rc.pure_told do_ da dgood
   exact ⟨fine_pure p1 dle, by omega, p3.1, p3.2⟩
  have cE := kencode_any d w5V do_ da (fun _ => dfine)
  unfold EncR encZ encE at cE
  rw [if_pos dgood, if_pos dgood, dbytes] at cE
  clear dgood dbytes dle dfine da db
  obtain ⟨qd, hqd⟩ : ∃ q, d.cells = q := ⟨_, rfl⟩
  simp only [hqd] at cE dr di ⊢
  clear hqd
  go_upto_region 10 with fail
  try simp only [Act.put]
  refine pl_begin ?_
  refine pl_t 51 (.agg qd.toArray) (by rfl) (ex_mid rfl rfl dr Tryz.underlying33 rfl di) rfl ?_
  simp only [nz]
  refine pl_call (d := some 52) (by rfl) (by go_simp; first | done | exact ⟨rfl, rfl⟩ | with_reducible rfl) rfl ?_
  refine (cE).mono ?_
  rintro _ w6 ⟨v6, rfl, mine6, hb6⟩
  obtain ⟨a6, c6, rfl, -, -, row6⟩ := mine6.rowAt (by unfold maxLen; omega)
  refine ⟨_, rfl, ?_⟩
  simp only [nz]
  refine pl_t 50 (?_) (by rfl) ?_ rfl ?_
  rotate_left
  ·go_simp
   try with_reducible rfl
  simp only [nz]
  refine pl_t 53 (?_) (by rfl) ?_ rfl ?_
  rotate_left
  ·go_simp
   try with_reducible rfl
  simp only [nz]
  refine pl_t 54 (?_) (by rfl) ?_ rfl ?_
  rotate_left
  ·go_simp
   try with_reducible rfl
  simp only [nz]
  refine pl_t 11 (?_) (by rfl) ?_ rfl ?_
  rotate_left
  ·go_simp
   try with_reducible rfl
  simp only [nz]
  refine pl_t 12 (?_) (by rfl) ?_ rfl ?_
  rotate_left
  ·go_simp
   try with_reducible rfl
  simp only [nz]
  refine pl_nil ?_
  have BE := BD.trans (hb6.mono BD.size)
  have rowb := roww5.below hb6
  have hc1 := row_mine row6 c6
  have hc2 := row_mine rowb cap
  clear mine6 row6 rowb hb6 dr hb5 dX rowU cE
  go_upto_region 11 with fail
  try simp only [Act.put]
  refine pl_begin ?_
  refine pl_t 55 (?_) (by rfl) ?_ rfl ?_
  rotate_left
  ·go_simp
   try with_reducible rfl
  simp only [nz]
  refine pl_t 56 (.bool false) (by rfl) (by go_simp) rfl ?_
  simp only [nz]
  refine pl_t 57 (?_) (by rfl) ?_ rfl ?_
  rotate_left
  ·go_simp
   try with_reducible rfl
  simp only [nz]
  refine pl_t 58 (?_) (by rfl) ?_ rfl ?_
  rotate_left
  ·go_simp
   try with_reducible rfl
  simp only [nz]
  refine pl_t 59 (.string (strOf zs)) (by rfl) (exec_conv rfl rfl hc1) rfl ?_
  simp only [nz]
  refine pl_t 60 (?_) (by rfl) ?_ rfl ?_
  rotate_left
  ·go_simp
   try with_reducible rfl
  simp only [nz]
  refine pl_t 61 (.string (strOf zs)) (by rfl) (exec_conv rfl rfl hc2) rfl ?_
  simp only [nz]
  refine pl_t 62 (.bool false) (by rfl) (by go_simp) rfl ?_
  simp only [nz]
  refine pl_t 63 (?_) (by rfl) ?_ rfl ?_
  rotate_left
  ·go_simp
   try with_reducible rfl
  simp only [nz]
  refine pl_nil ?_
  go_upto_region 13 with fail
  try simp only [Act.put]
  refine pl_begin ?_
  refine pl_call (d := some 64) (by rfl) (by go_simp; first | done | exact ⟨rfl, rfl⟩ | with_reducible rfl) rfl ?_
  refine (lives24_any w6).mono ?_
  rintro _ wL ⟨rfl, hbL⟩
  refine ⟨_, rfl, ?_⟩
  simp only [nz]
  refine pl_t 4 (?_) (by rfl) ?_ rfl ?_
  rotate_left
  ·go_simp
   try with_reducible rfl
  simp only [nz]
  refine pl_nil ?_
  have HB := hide (BE.trans (hbL.mono BE.size))
  go_wp2_with fail
  go_ret
  exact ⟨rfl, HB.out⟩
end Go.Proofs.YtinndbipomlokaaGreat
namespace Go.Proofs.YtinndbipomlokaaGreat
open Go.ChangeShapes Go.WideShapes Go.ChangeAt Go.RowKit
open Sha Tal
set_option linter.unusedVariables false
set_option linter.constructorNameAsVariable false
theorem own : ownKnob Tryz.prog.godebug = none := by kernel_rfl
theorem laidOut : laidOutB Tryz.prog = true := by kernel_rfl
theorem wf64 {z : Int} (h : (Lit.int .i64 z).wf = true) : -9223372036854775808 ≤ z ∧ z ≤ 9223372036854775807 := by
 simp only [Lit.wf, Bool.and_eq_true, decide_eq_true_eq] at h
 exact h
theorem some_at {α : Type} {xs : List α} {n i : Nat} (hl : xs.length = n) (hi : i < n) : ∃ y, xs[i]? = some y := ⟨xs[i]'(by omega), List.getElem?_eq_getElem (by omega)⟩
theorem drop_one {α : Type} {l : List α} {o : Nat} {v : α} (h : (l.drop o).take 1 = [v]) : l[o]? = some v := by
 have := congrArg (·[0]?) h
 simpa [List.getElem?_take, List.getElem?_drop] using this
section
variable {H : Type} {enc : TypeId × Value → H} {W : World} {b : Nat} {sp : Nat → Bool} {held : Bool} {m : Nat}
theorem int_at {l : List Value} {o : Nat} {y : DataW H × List MemPlace} (h : DataW.trod enc Tryz.prog W b sp held m 3 ((l.drop o).take 1) = some y) : ∃ z, l[o]? = some (.int .i64 z) ∧ -9223372036854775808 ≤ z ∧ z ≤ 9223372036854775807 := by
 obtain ⟨z, hc, rfl, hw⟩ := DataW.trod_int Tryz.underlying3 h
 exact ⟨z, drop_one hc, wf64 hw⟩
theorem bytes_at {t n : Nat} {l : List Value} {y : DataW H × List MemPlace} (hu : Tryz.prog.underlying t = some (.array n 5)) (hct : Tryz.prog.cellsOf t = n) (h : DataW.trod enc Tryz.prog W b sp held m t l = some y) : ∃ zs : List Int, l = v8 zs ∧ zs.length = n ∧ ∀ z ∈ zs, 0 ≤ z ∧ z < 256 := by
 have hce : Tryz.prog.cellsOf 5 = 1 := by kernel_rfl
 cases m with
 | zero => simp [DataW.trod] at h
 | succ m =>
  simp only [DataW.trod, hu, hce, hct, Nat.mul_one] at h
  split at h
  ·rename_i hsz
   obtain ⟨xs, hm, hx⟩ := Option.map_eq_some_iff.1 h
   have key : ∀ i, i < n → ∃ z, l[i]? = some (.int .u8 z) ∧ 0 ≤ z ∧ z < 256 := fun i hi => by
    obtain ⟨y, hy, hf⟩ := Lib.mapM_at hm i i (by simp [hi])
    obtain ⟨z, hc, rfl, hw⟩ := DataW.trod_int Tryz.underlying5 hf
    refine ⟨z, drop_one hc, ?_⟩
    simp [Lit.wf, IntKind.min, IntKind.max, IntKind.signed, IntKind.bits] at hw
    omega
   have hln : l.length = n := by simpa using hsz
   refine ⟨l.map (fun v => match v with | .int _ z => z | _ => 0), ?_, by simpa using hln, ?_⟩
   ·apply List.ext_getElem?
    intro i
    by_cases hi : i < n
    ·obtain ⟨z, hz, _⟩ := key i hi
     simp only [v8, List.map_map, List.getElem?_map, hz, Option.map_some]
     rfl
    ·rw [List.getElem?_eq_none (by omega), List.getElem?_eq_none (by simp [v8]; omega)]
   ·intro z hz
    obtain ⟨u, hu, rfl⟩ := List.mem_map.1 hz
    obtain ⟨i, hi, rfl⟩ := List.mem_iff_getElem.1 hu
    obtain ⟨z, hz, hb⟩ := key i (by omega)
    rw [List.getElem?_eq_getElem hi] at hz
    rw [Option.some.inj hz]
    exact hb
  ·cases h
end
set_option maxRecDepth 100000 in
theorem vote_of {H : Type} {enc : TypeId × Value → H} {W : World} {b : Nat} {sp : Nat → Bool} {held : Bool} {fuel : Nat} {l : List Value} {x : DataW H × List MemPlace}
  (h : DataW.trod enc Tryz.prog W b sp held fuel 28 l = some x) : ∃ r : Vt, l = r.cells ∧ r.ok := by
 have hct : Tryz.prog.cellsOf 28 = 36 := by kernel_rfl
 have hci : Tryz.prog.cellsOf 3 = 1 := by kernel_rfl
 have hcg : Tryz.prog.cellsOf 26 = 32 := by kernel_rfl
 obtain ⟨xs, m, _, rfl, hcl, hl, hf⟩ := DataW.trod_struct Tryz.underlying28 h
 rw [hct] at hcl
 have hl : xs.length = 5 := hl
 have h0 : DataW.trod enc Tryz.prog W b sp held m 3 ((l.drop 0).take (Tryz.prog.cellsOf 3)) = xs[0]? := hf 0 _ rfl
 have h1 : DataW.trod enc Tryz.prog W b sp held m 3 ((l.drop 1).take (Tryz.prog.cellsOf 3)) = xs[1]? := hf 1 _ rfl
 have h2 : DataW.trod enc Tryz.prog W b sp held m 3 ((l.drop 2).take (Tryz.prog.cellsOf 3)) = xs[2]? := hf 2 _ rfl
 have h3 : DataW.trod enc Tryz.prog W b sp held m 3 ((l.drop 3).take (Tryz.prog.cellsOf 3)) = xs[3]? := hf 3 _ rfl
 have h4 : DataW.trod enc Tryz.prog W b sp held m 26 ((l.drop 4).take (Tryz.prog.cellsOf 26)) = xs[4]? := hf 4 _ rfl
 rw [hci] at h0 h1 h2 h3
 rw [hcg] at h4
 obtain ⟨y0, e0⟩ := some_at hl (show 0 < 5 by omega)
 obtain ⟨y1, e1⟩ := some_at hl (show 1 < 5 by omega)
 obtain ⟨y2, e2⟩ := some_at hl (show 2 < 5 by omega)
 obtain ⟨y3, e3⟩ := some_at hl (show 3 < 5 by omega)
 obtain ⟨y4, e4⟩ := some_at hl (show 4 < 5 by omega)
 obtain ⟨k, g0, _, b0⟩ := int_at (h0.trans e0)
 obtain ⟨ep, g1, _, b1⟩ := int_at (h1.trans e1)
 obtain ⟨vi, g2, _, b2⟩ := int_at (h2.trans e2)
 obtain ⟨sl, g3, _, b3⟩ := int_at (h3.trans e3)
 obtain ⟨d, g4, hd, hb⟩ := bytes_at Tryz.underlying26 hcg (h4.trans e4)
 refine ⟨⟨k, ep, vi, sl, d⟩, ?_, ⟨b0, b1, b2, b3, hd, hb⟩⟩
 show l = .int .i64 k :: .int .i64 ep :: .int .i64 vi :: .int .i64 sl :: v8 d
 match l, hcl with
 | a0 :: a1 :: a2 :: a3 :: l, hcl =>
  simp at g0 g1 g2 g3 hcl
  have : List.take 32 l = v8 d := g4
  rw [List.take_of_length_le (by omega)] at this
  subst g0 g1 g2 g3 this
  rfl
theorem cells_some {w : World} {base n : Nat} {x : Addr} {cs : List Value} (h : w.cells? base x n = some cs) : cs.length = n ∧ ∀ j v, cs[j]? = some v → w.cell? (x.add j) = some v := by
 unfold World.cells? at h
 split at h
 ·have hl := Lib.mapM_length h
  refine ⟨by simpa using hl, fun j v hv => ?_⟩
  have hj : j < n := by
   have := (List.getElem?_eq_some_iff.1 hv).1
   have : cs.length = n := by simpa using hl
   omega
  obtain ⟨y, hy, hf⟩ := Lib.mapM_at h j j (by simp [hj])
  rw [hv] at hy
  exact hf.trans hy.symm
 ·cases h
theorem flat_getA {α : Type} {f : α → List Value} {k : Nat} (hk : 0 < k) (R : Nat → α) : ∀ (n : Nat), (∀ i, i < n → (f (R i)).length = k) → ∀ j, j < n * k → (((List.range n).map R).flatMap f)[j]? = (f (R (j / k)))[j % k]? := by
 intro n
 induction n with
 | zero => intro _ j hj; omega
 | succ n ih =>
  intro hR j hj
  have hl : (((List.range n).map R).flatMap f).length = n * k := by
   have := flat_len_k (f := f) (k := k) (ys := (List.range n).map R) (fun y hy => by
    obtain ⟨i, hi, rfl⟩ := List.mem_map.1 hy
    exact hR i (by have := List.mem_range.1 hi; omega))
   simpa using this
  rw [List.range_succ, List.map_append, List.flatMap_append]
  by_cases h : j < n * k
  ·rw [List.getElem?_append_left (by omega), ih (fun i hi => hR i (by omega)) j h]
  ·rw [List.getElem?_append_right (by omega), hl]
   have e0 : j = (j - n * k) + k * n := by rw [Nat.mul_comm k n]; omega
   have hlt : j - n * k < k := by rw [Nat.add_mul, Nat.one_mul] at hj; omega
   have e1 : j / k = n := by rw [e0, Nat.add_mul_div_left _ _ hk, Nat.div_eq_of_lt hlt]; omega
   have e2 : j % k = j - n * k := by
    have := congrArg (· % k) e0
    simp only [Nat.add_mul_mod_self_left] at this
    rw [this, Nat.mod_eq_of_lt hlt]
   rw [e1, e2]
   simp
set_option maxRecDepth 100000 in
theorem rows_of {α : Type} [Inhabited α] (f : α → List Value) (ok : α → Prop) (k : Nat) (hk : 0 < k) (tl te : TypeId) (hu : Tryz.prog.underlying tl = some (.slice te)) (hct : Tryz.prog.cellsOf te = k) (hf : ∀ y, ok y → (f y).length = k)
  {H : Type} {enc : TypeId × Value → H} {W : World} {b : Nat} {sp : Nat → Bool} {held : Bool} {fuel : Nat} {l : List Value} {x : DataW H × List MemPlace}
  (hel : ∀ (m : Nat) (l : List Value) (z : DataW H × List MemPlace), DataW.trod enc Tryz.prog W b sp held m te l = some z → ∃ y, l = f y ∧ ok y)
  (h : DataW.trod enc Tryz.prog W b sp held fuel tl l = some x) : ∃ (a : Option Addr) (cap : Nat) (ys : List α), l = [.slice a ys.length cap] ∧ ys.length ≤ cap ∧ cap ≤ maxLen ∧ (∀ y ∈ ys, ok y) ∧ RowOf f W a ys := by
 rcases Deep.open_slice hu h with ⟨rfl, _⟩ | ⟨a, len, cap, m, n, D, Pl, rfl, hb, hlc, hcm, hm, _, hel2⟩
 ·exact ⟨none, 0, [], rfl, by simp, by simp, by simp, .inl rfl⟩
 ·rw [hct] at hel2
  have hml : len ≤ m := by rw [hm]; split <;> omega
  have key : ∀ i, i < len → ∃ y : α, W.cells? b (a.add (i * k)) k = some (f y) ∧ ok y := fun i hi => by
   obtain ⟨cs, h1, h2⟩ := hel2 i (by omega)
   obtain ⟨y, rfl, hy⟩ := hel _ _ _ h2
   exact ⟨y, h1, hy⟩
  obtain ⟨R, hR⟩ := Deep.choose_lt key
  refine ⟨some a, cap, (List.range len).map R, by simp, by simpa using hlc, hcm, ?_, ?_⟩
  ·intro y hy
   obtain ⟨i, hi, rfl⟩ := List.mem_map.1 hy
   exact (hR i (List.mem_range.1 hi)).2
  ·by_cases h0 : len = 0
   ·left; simp [h0]
   ·right
    obtain ⟨bb, off, spot⟩ := a
    have hlen0 := hf _ (hR 0 (by omega)).2
    have hc := (cells_some (hR 0 (by omega)).1).2 0 ((f (R 0))[0]'(by omega)) (List.getElem?_eq_getElem _)
    have hspot : spot = none := by simpa [Addr.add] using World.cell?_spot hc
    subst hspot
    refine ⟨bb, off, rfl, ?_, fun j v hv => ?_⟩
    ·have := World.block_lt_of_cell? W _ hc; simpa [Addr.add] using this
    ·have hj : j < len * k := by
      have := (List.getElem?_eq_some_iff.1 hv).1
      rw [flat_len_k (k := k)] at this
      ·simpa using this
      ·intro y hy
       obtain ⟨i, hi, rfl⟩ := List.mem_map.1 hy
       exact hf _ (hR i (List.mem_range.1 hi)).2
     rw [flat_getA hk R len (fun i hi => hf _ (hR i hi).2) j hj] at hv
     have hdm : j / k < len := (Nat.div_lt_iff_lt_mul hk).2 hj
     have := (cells_some (hR (j / k) hdm).1).2 _ _ hv
     rw [Addr.add_mid, Addr.add_mid] at this
     rw [← this]
     congr 2
     have := Nat.div_add_mod j k
     rw [Nat.mul_comm] at this
     omega
theorem take_cut {α : Type} (l : List α) (o n k : Nat) : (l.drop o).take (n + k) = (l.drop o).take n ++ (l.drop (o + n)).take k := by
 rw [List.take_add, List.drop_drop]
theorem take_whole {α : Type} {l : List α} {n : Nat} (h : l.length = n) : l = (l.drop 0).take n := by
 rw [List.drop_zero, List.take_of_length_le (by omega)]
set_option maxRecDepth 100000 in
theorem sign_of {H : Type} {enc : TypeId × Value → H} {W : World} {b : Nat} {sp : Nat → Bool} {held : Bool} {fuel : Nat} {l : List Value} {x : DataW H × List MemPlace}
  (h : DataW.trod enc Tryz.prog W b sp held fuel 110 l = some x) : ∃ r : Sg, l = SgE.f r ∧ SgE.ok r := by
 have hct : Tryz.prog.cellsOf 110 = 17 := by kernel_rfl
 obtain ⟨xs, m, _, rfl, hcl, hl, hf⟩ := DataW.trod_struct Tryz.underlying110 h
 rw [hct] at hcl
 have hl : xs.length = 2 := hl
 have h0 : DataW.trod enc Tryz.prog W b sp held m 3 ((l.drop 0).take (Tryz.prog.cellsOf 3)) = xs[0]? := hf 0 _ rfl
 rw [show Tryz.prog.cellsOf 3 = 1 by kernel_rfl] at h0
 obtain ⟨y0, e0⟩ := some_at hl (show 0 < 2 by omega)
 obtain ⟨z0, g0, _, wz0⟩ := DataW.trod_int Tryz.underlying3 (h0.trans e0)
 have bz0 := wf64 wz0
 have h1 : DataW.trod enc Tryz.prog W b sp held m 89 ((l.drop 1).take (Tryz.prog.cellsOf 89)) = xs[1]? := hf 1 _ rfl
 rw [show Tryz.prog.cellsOf 89 = 16 by kernel_rfl] at h1
 obtain ⟨y1, e1⟩ := some_at hl (show 1 < 2 by omega)
 obtain ⟨z1, g1, lz1, bz1⟩ := bytes_at Tryz.underlying89 (by kernel_rfl) (h1.trans e1)
 refine ⟨⟨z0, z1⟩, ?_, ⟨lz1, bz1, bz0.1, bz0.2⟩⟩
 have e := take_whole (n := 1 + (16)) hcl
 rw [take_cut, g0, g1] at e
 first | exact e | (rw [e]; rfl) | (rw [e]; simp)
set_option maxRecDepth 100000 in
theorem req_of {H : Type} {enc : TypeId × Value → H} {W : World} {b : Nat} {sp : Nat → Bool} {held : Bool} {fuel : Nat} {l : List Value} {x : DataW H × List MemPlace}
  (h : DataW.trod enc Tryz.prog W b sp held fuel 91 l = some x) : ∃ r : Rq, l = RqE.f r ∧ RqE.ok r := by
 have hct : Tryz.prog.cellsOf 91 = 19 := by kernel_rfl
 obtain ⟨xs, m, _, rfl, hcl, hl, hf⟩ := DataW.trod_struct Tryz.underlying91 h
 rw [hct] at hcl
 have hl : xs.length = 4 := hl
 have h0 : DataW.trod enc Tryz.prog W b sp held m 3 ((l.drop 0).take (Tryz.prog.cellsOf 3)) = xs[0]? := hf 0 _ rfl
 rw [show Tryz.prog.cellsOf 3 = 1 by kernel_rfl] at h0
 obtain ⟨y0, e0⟩ := some_at hl (show 0 < 4 by omega)
 obtain ⟨z0, g0, _, wz0⟩ := DataW.trod_int Tryz.underlying3 (h0.trans e0)
 have bz0 := wf64 wz0
 have h1 : DataW.trod enc Tryz.prog W b sp held m 3 ((l.drop 1).take (Tryz.prog.cellsOf 3)) = xs[1]? := hf 1 _ rfl
 rw [show Tryz.prog.cellsOf 3 = 1 by kernel_rfl] at h1
 obtain ⟨y1, e1⟩ := some_at hl (show 1 < 4 by omega)
 obtain ⟨z1, g1, _, wz1⟩ := DataW.trod_int Tryz.underlying3 (h1.trans e1)
 have bz1 := wf64 wz1
 have h2 : DataW.trod enc Tryz.prog W b sp held m 9 ((l.drop 2).take (Tryz.prog.cellsOf 9)) = xs[2]? := hf 2 _ rfl
 rw [show Tryz.prog.cellsOf 9 = 1 by kernel_rfl] at h2
 obtain ⟨y2, e2⟩ := some_at hl (show 2 < 4 by omega)
 obtain ⟨z2, g2, _, bz2⟩ := DataW.trod_string Tryz.underlying9 (h2.trans e2)
 have h3 : DataW.trod enc Tryz.prog W b sp held m 89 ((l.drop 3).take (Tryz.prog.cellsOf 89)) = xs[3]? := hf 3 _ rfl
 rw [show Tryz.prog.cellsOf 89 = 16 by kernel_rfl] at h3
 obtain ⟨y3, e3⟩ := some_at hl (show 3 < 4 by omega)
 obtain ⟨z3, g3, lz3, bz3⟩ := bytes_at Tryz.underlying89 (by kernel_rfl) (h3.trans e3)
 refine ⟨⟨z0, z1, z2, z3⟩, ?_, ⟨lz3, bz3, bz2, bz0.1, bz0.2, bz1.1, bz1.2⟩⟩
 have e := take_whole (n := 1 + (1 + (1 + (16)))) hcl
 rw [take_cut, take_cut, take_cut, g0, g1, g2, g3] at e
 first | exact e | (rw [e]; rfl) | (rw [e]; simp)
set_option maxRecDepth 100000 in
theorem signs_of {H : Type} {enc : TypeId × Value → H} {W : World} {b : Nat} {sp : Nat → Bool} {held : Bool} {fuel : Nat} {l : List Value} {x : DataW H × List MemPlace}
  (h : DataW.trod enc Tryz.prog W b sp held fuel 29 l = some x) : ∃ y : Sl Sg, l = [y.val] ∧ y.At SgE W := by
 obtain ⟨a, cap, ys, h1, h2, h3, h4, h5⟩ := rows_of SgE.f SgE.ok 17 (by decide) 29 110 Tryz.underlying29 (by kernel_rfl) SgE.len (fun m l z hz => sign_of hz) h
 exact ⟨⟨a, cap, ys⟩, h1, Nat.le_trans h2 h3, h4, h5⟩
set_option maxRecDepth 100000 in
theorem reqs_of {H : Type} {enc : TypeId × Value → H} {W : World} {b : Nat} {sp : Nat → Bool} {held : Bool} {fuel : Nat} {l : List Value} {x : DataW H × List MemPlace}
  (h : DataW.trod enc Tryz.prog W b sp held fuel 22 l = some x) : ∃ y : Sl Rq, l = [y.val] ∧ y.At RqE W := by
 obtain ⟨a, cap, ys, h1, h2, h3, h4, h5⟩ := rows_of RqE.f RqE.ok 19 (by decide) 22 91 Tryz.underlying22 (by kernel_rfl) RqE.len (fun m l z hz => req_of hz) h
 exact ⟨⟨a, cap, ys⟩, h1, Nat.le_trans h2 h3, h4, h5⟩
set_option maxRecDepth 100000 in
theorem batch_of {H : Type} {enc : TypeId × Value → H} {W : World} {b : Nat} {sp : Nat → Bool} {held : Bool} {fuel : Nat} {l : List Value} {x : DataW H × List MemPlace}
  (h : DataW.trod enc Tryz.prog W b sp held fuel 24 l = some x) : ∃ (q : Bool) (r : Sl Rq), l = [.bool q, r.val] ∧ r.At RqE W := by
 have hct : Tryz.prog.cellsOf 24 = 2 := by kernel_rfl
 obtain ⟨xs, m, _, rfl, hcl, hl, hf⟩ := DataW.trod_struct Tryz.underlying24 h
 rw [hct] at hcl
 have hl : xs.length = 2 := hl
 have h0 : DataW.trod enc Tryz.prog W b sp held m 4 ((l.drop 0).take (Tryz.prog.cellsOf 4)) = xs[0]? := hf 0 _ rfl
 rw [show Tryz.prog.cellsOf 4 = 1 by kernel_rfl] at h0
 obtain ⟨y0, e0⟩ := some_at hl (show 0 < 2 by omega)
 obtain ⟨z0, g0, _⟩ := DataW.trod_bool Tryz.underlying4 (h0.trans e0)
 have h1 : DataW.trod enc Tryz.prog W b sp held m 22 ((l.drop 1).take (Tryz.prog.cellsOf 22)) = xs[1]? := hf 1 _ rfl
 rw [show Tryz.prog.cellsOf 22 = 1 by kernel_rfl] at h1
 obtain ⟨y1, e1⟩ := some_at hl (show 1 < 2 by omega)
 obtain ⟨z1, g1, bz1⟩ := reqs_of (h1.trans e1)
 refine ⟨z0, z1, ?_, bz1⟩
 have e := take_whole (n := 1 + (1)) hcl
 rw [take_cut, g0, g1] at e
 first | exact e | (rw [e]; rfl) | (rw [e]; simp)
set_option maxRecDepth 100000 in
theorem cert_of {H : Type} {enc : TypeId × Value → H} {W : World} {b : Nat} {sp : Nat → Bool} {held : Bool} {fuel : Nat} {l : List Value} {x : DataW H × List MemPlace}
  (h : DataW.trod enc Tryz.prog W b sp held fuel 31 l = some x) : ∃ (v : Vt) (r : Sl Sg), l = certL v r ∧ v.ok ∧ r.At SgE W := by
 have hct : Tryz.prog.cellsOf 31 = 37 := by kernel_rfl
 obtain ⟨xs, m, _, rfl, hcl, hl, hf⟩ := DataW.trod_struct Tryz.underlying31 h
 rw [hct] at hcl
 have hl : xs.length = 2 := hl
 have h0 : DataW.trod enc Tryz.prog W b sp held m 28 ((l.drop 0).take (Tryz.prog.cellsOf 28)) = xs[0]? := hf 0 _ rfl
 rw [show Tryz.prog.cellsOf 28 = 36 by kernel_rfl] at h0
 obtain ⟨y0, e0⟩ := some_at hl (show 0 < 2 by omega)
 obtain ⟨z0, g0, bz0⟩ := vote_of (h0.trans e0)
 have h1 : DataW.trod enc Tryz.prog W b sp held m 29 ((l.drop 36).take (Tryz.prog.cellsOf 29)) = xs[1]? := hf 1 _ rfl
 rw [show Tryz.prog.cellsOf 29 = 1 by kernel_rfl] at h1
 obtain ⟨y1, e1⟩ := some_at hl (show 1 < 2 by omega)
 obtain ⟨z1, g1, bz1⟩ := signs_of (h1.trans e1)
 refine ⟨z0, z1, ?_, bz0, bz1⟩
 have e := take_whole (n := 36 + (1)) hcl
 rw [take_cut, g0, g1] at e
 first | exact e | (rw [e]; rfl) | (rw [e]; simp)
end Go.Proofs.YtinndbipomlokaaGreat
namespace Go.Proofs.YtinndbipomlokaaGreat
open Go.ChangeShapes Go.WideShapes Go.ChangeAt Go.RowKit
open Sha Tal
set_option linter.unusedVariables false
set_option linter.constructorNameAsVariable false
instance : Inhabited Rc := ⟨Rc.zero 0⟩
set_option maxRecDepth 100000 in
theorem bytesD_of {H : Type} {enc : TypeId × Value → H} {W : World} {b : Nat} {sp : Nat → Bool} {held : Bool} {fuel : Nat} {l : List Value} {x : DataW H × List MemPlace}
  (h : DataW.trod enc Tryz.prog W b sp held fuel 36 l = some x) : ∃ (a : Option Addr) (cap : Nat) (zs : List Int), l = [.slice a zs.length cap] ∧ zs.length ≤ cap ∧ cap ≤ maxLen ∧ RowAt W a zs := by
 obtain ⟨a, cap, zs, h1, h2, h3, h4, h5⟩ := rows_of (fun z : Int => [Value.int .u8 z]) (fun z => 0 ≤ z ∧ z < 256) 1 (by omega) 36 5 Tryz.underlying36 (by kernel_rfl) (fun _ _ => rfl) (fun m l z hz => by
  obtain ⟨c, hc, rfl, hw⟩ := DataW.trod_int Tryz.underlying5 hz
  refine ⟨c, by simpa using hc, ?_⟩
  simp [Lit.wf, IntKind.min, IntKind.max, IntKind.signed, IntKind.bits] at hw
  omega) h
 refine ⟨a, cap, zs, h1, h2, h3, by omega, h4, ?_⟩
 rcases h5 with h5 | ⟨b, off, rfl, h6, h7⟩
 ·exact .inl h5
 ·refine .inr ⟨b, off, rfl, h6, ?_⟩
  have e : ∀ ys : List Int, ys.flatMap (fun z : Int => [Value.int .u8 z]) = v8 ys := fun ys => by
   induction ys with
   | nil => rfl
   | cons z ys ih => rw [List.flatMap_cons, ih]; rfl
  rwa [e] at h7
set_option maxRecDepth 100000 in
theorem rec_of {H : Type} {enc : TypeId × Value → H} {W : World} {b : Nat} {sp : Nat → Bool} {held : Bool} {fuel : Nat} {l : List Value} {x : DataW H × List MemPlace}
  (h : DataW.trod enc Tryz.prog W b sp held fuel 33 l = some x) : ∃ r : Rc, l = RcE.f r ∧ (RcE.ok r ∧ r.At W) := by
 have hct : Tryz.prog.cellsOf 33 = 45 := by kernel_rfl
 obtain ⟨xs, m, _, rfl, hcl, hl, hf⟩ := DataW.trod_struct Tryz.underlying33 h
 rw [hct] at hcl
 have hl : xs.length = 8 := hl
 have h0 : DataW.trod enc Tryz.prog W b sp held m 3 ((l.drop 0).take (Tryz.prog.cellsOf 3)) = xs[0]? := hf 0 _ rfl
 rw [show Tryz.prog.cellsOf 3 = 1 by kernel_rfl] at h0
 obtain ⟨y0, e0⟩ := some_at hl (show 0 < 8 by omega)
 obtain ⟨z0, g0, _, wz0⟩ := DataW.trod_int Tryz.underlying3 (h0.trans e0)
 have bz0 := wf64 wz0
 have h1 : DataW.trod enc Tryz.prog W b sp held m 3 ((l.drop 1).take (Tryz.prog.cellsOf 3)) = xs[1]? := hf 1 _ rfl
 rw [show Tryz.prog.cellsOf 3 = 1 by kernel_rfl] at h1
 obtain ⟨y1, e1⟩ := some_at hl (show 1 < 8 by omega)
 obtain ⟨z1, g1, _, wz1⟩ := DataW.trod_int Tryz.underlying3 (h1.trans e1)
 have bz1 := wf64 wz1
 have h2 : DataW.trod enc Tryz.prog W b sp held m 3 ((l.drop 2).take (Tryz.prog.cellsOf 3)) = xs[2]? := hf 2 _ rfl
 rw [show Tryz.prog.cellsOf 3 = 1 by kernel_rfl] at h2
 obtain ⟨y2, e2⟩ := some_at hl (show 2 < 8 by omega)
 obtain ⟨z2, g2, _, wz2⟩ := DataW.trod_int Tryz.underlying3 (h2.trans e2)
 have bz2 := wf64 wz2
 have h3 : DataW.trod enc Tryz.prog W b sp held m 3 ((l.drop 3).take (Tryz.prog.cellsOf 3)) = xs[3]? := hf 3 _ rfl
 rw [show Tryz.prog.cellsOf 3 = 1 by kernel_rfl] at h3
 obtain ⟨y3, e3⟩ := some_at hl (show 3 < 8 by omega)
 obtain ⟨z3, g3, _, wz3⟩ := DataW.trod_int Tryz.underlying3 (h3.trans e3)
 have bz3 := wf64 wz3
 have h4 : DataW.trod enc Tryz.prog W b sp held m 24 ((l.drop 4).take (Tryz.prog.cellsOf 24)) = xs[4]? := hf 4 _ rfl
 rw [show Tryz.prog.cellsOf 24 = 2 by kernel_rfl] at h4
 obtain ⟨y4, e4⟩ := some_at hl (show 4 < 8 by omega)
 obtain ⟨q4, z4, g4, bz4⟩ := batch_of (h4.trans e4)
 have h5 : DataW.trod enc Tryz.prog W b sp held m 31 ((l.drop 6).take (Tryz.prog.cellsOf 31)) = xs[5]? := hf 5 _ rfl
 rw [show Tryz.prog.cellsOf 31 = 37 by kernel_rfl] at h5
 obtain ⟨y5, e5⟩ := some_at hl (show 5 < 8 by omega)
 obtain ⟨v5, z5, g5, bv5, bz5⟩ := cert_of (h5.trans e5)
 have h6 : DataW.trod enc Tryz.prog W b sp held m 9 ((l.drop 43).take (Tryz.prog.cellsOf 9)) = xs[6]? := hf 6 _ rfl
 rw [show Tryz.prog.cellsOf 9 = 1 by kernel_rfl] at h6
 obtain ⟨y6, e6⟩ := some_at hl (show 6 < 8 by omega)
 obtain ⟨z6, g6, _, bz6⟩ := DataW.trod_string Tryz.underlying9 (h6.trans e6)
 have h7 : DataW.trod enc Tryz.prog W b sp held m 29 ((l.drop 44).take (Tryz.prog.cellsOf 29)) = xs[7]? := hf 7 _ rfl
 rw [show Tryz.prog.cellsOf 29 = 1 by kernel_rfl] at h7
 obtain ⟨y7, e7⟩ := some_at hl (show 7 < 8 by omega)
 obtain ⟨z7, g7, bz7⟩ := signs_of (h7.trans e7)
 refine ⟨⟨z0, z1, z2, z3, q4, z4, v5, z5, z6, z7⟩, ?_, bv5, ⟨bz4, bz5, bz7⟩⟩
 have e := take_whole (n := 1 + (1 + (1 + (1 + (2 + (37 + (1 + (1)))))))) hcl
 rw [take_cut, take_cut, take_cut, take_cut, take_cut, take_cut, take_cut, g0, g1, g2, g3, g4, g5, g6, g7] at e
 rw [e]; simp [RcE, Rc.cells, certL, List.append_assoc]
set_option maxRecDepth 100000 in
theorem open_rec {H : Type} {enc : TypeId × Value → H} {W : World} {base b : Nat} {sp : Nat → Bool} {held : Bool} {fuel : Nat} {v : Value} {x : DataW H × List MemPlace} (hv : Value.okWide Tryz.prog W .any base 33 v)
  (h : DataW.trod enc Tryz.prog W b sp held fuel 33 v.cells.toList = some x) : ∃ m : Rc, v = .agg m.cells.toArray ∧ m.ct.ok ∧ m.At W := by
 unfold Value.okWide at hv
 rw [Tryz.underlying33] at hv
 obtain ⟨cs, rfl, hsz, _⟩ := hv
 obtain ⟨r, h1, h2, h3⟩ := rec_of h
 refine ⟨r, ?_, h2, h3⟩
 simp only [Value.cells] at h1
 have h4 : RcE.f r = r.cells := rfl
 rw [h4] at h1
 rw [← h1]
set_option maxRecDepth 100000 in
theorem open_bytesK {H : Type} {enc : TypeId × Value → H} {W : World} {base b : Nat} {sp : Nat → Bool} {held : Bool} {fuel : Nat} {v : Value} {x : DataW H × List MemPlace} (hv : Value.okWide Tryz.prog W .any base 36 v)
  (h : DataW.trod enc Tryz.prog W b sp held fuel 36 v.cells.toList = some x) : ∃ (a : Option Addr) (cap : Nat) (zs : List Int), v = .slice a zs.length cap ∧ zs.length ≤ cap ∧ cap ≤ maxLen ∧ RowAt W a zs := by
 obtain ⟨a0, len, cap, rfl⟩ := okWide_slice Tryz.underlying36 hv
 obtain ⟨a, cap', ys, h1, h2, h3, h4⟩ := bytesD_of h
 simp [Value.cells] at h1
 obtain ⟨rfl, rfl, rfl⟩ := h1
 exact ⟨a0, cap, ys, rfl, h2, h3, h4⟩
end Go.Proofs.YtinndbipomlokaaGreat
namespace Go.Proofs.YtinndbipomlokaaGreat.recordBack
open Go.ChangeShapes Go.WideShapes Go.ChangeAt Go.RowKit
open Go.ChangeMaps (open_string shut_string)
set_option linter.unusedVariables false
set_option maxRecDepth 100000 in
theorem lifted (os : Os) (started : os.Started) (H : Type) (enc : TypeId × Value → H) :
  ReturnsInHanded {} Tryz.checked os 5 .any (Rows.recordBackSpec.pre6 enc Tryz.prog Tryz.f5 Rows.recordBackRow.domain false) (Rows.recordBackSpec.post enc Tryz.prog Tryz.f5 false true false false) := by
 refine returnsInHanded_of_change (C := Tryz.checked) own started (by kernel_rfl) Tryz.func5
  (ChangeSpec.witness6 (enc := enc) (C := Tryz.checked) false ⟨#[], #[.agg #[.int .i64 0, .int .i64 0, .int .i64 0, .int .i64 0, .bool false, .slice none 0 0, .int .i64 0, .int .i64 0, .int .i64 0, .int .i64 0, .int .u8 0, .int .u8 0, .int .u8 0, .int .u8 0, .int .u8 0, .int .u8 0, .int .u8 0, .int .u8 0, .int .u8 0, .int .u8 0, .int .u8 0, .int .u8 0, .int .u8 0, .int .u8 0, .int .u8 0, .int .u8 0, .int .u8 0, .int .u8 0, .int .u8 0, .int .u8 0, .int .u8 0, .int .u8 0, .int .u8 0, .int .u8 0, .int .u8 0, .int .u8 0, .int .u8 0, .int .u8 0, .int .u8 0, .int .u8 0, .int .u8 0, .int .u8 0, .slice none 0 0, .string ⟨#[]⟩, .slice none 0 0], .slice none 0 0], []⟩ 8 (by kernel_rfl) (by kernel_rfl) (by kernel_rfl) (by kernel_rfl)) ?_
 intro W base args ds gs before hval0 hW hcnd _
 have hval : ∀ (j : Nat) t v, Tryz.f5.params[j]? = some t → args[j]? = some v → Value.okWide Tryz.prog W .any base t v := hval0
 have hW' := hW
 obtain ⟨p, q, hA0, hV, rfl, hfz, hnd⟩ := hW
 have hA : DataW.TrodAll enc Tryz.prog W 0 (fun _ => true) true Tryz.f5.params.toList args.toList ds p := hA0
 rw [Tryz.params5] at hA hval
 obtain ⟨v0, vs0, d0, ds0, p0, q0, hargs, rfl, rfl, h0, r0⟩ := trodAll_cons hA
 obtain ⟨v1, vs1, d1, ds1, p1, q1, rfl, rfl, rfl, h1, r1⟩ := trodAll_cons r0
 obtain ⟨rfl, rfl, rfl⟩ := trodAll_nil r1
 obtain rfl : args = #[v0, v1] := by cases args; simp_all
 obtain ⟨rfl, rfl⟩ := trodVars_none hV
 have k0 := h0
 have lt0 : ∀ x ∈ p0, x.block < W.heap.size := by obtain ⟨m, hm⟩ := k0; exact DataW.trod_lt m _ _ _ hm
 obtain ⟨fuel0, hf0⟩ := h0
 obtain ⟨x0, rfl, ok0, at0⟩ := open_rec (hval 0 33 v0 rfl rfl) hf0
 have k1 := h1
 have lt1 : ∀ x ∈ p1, x.block < W.heap.size := by obtain ⟨m, hm⟩ := k1; exact DataW.trod_lt m _ _ _ hm
 obtain ⟨fuel1, hf1⟩ := h1
 obtain ⟨al1, cl1, zs1, rfl, le1, lm1, row1⟩ := open_bytesK (hval 1 36 v1 rfl rfl) hf1
 clear hA0 hval0
 refine (back_walk x0 al1 cl1 zs1 W ok0 at0 row1).mono fun e W' ⟨he, bel⟩ => ?_
 subst he
 exact ⟨_, rfl, _, _, _, [], _, [], hW', trodAll_mk1 (shut_bool Tryz.underlying4 _), (trodAll_cons_mk (Below.trod laidOut (by kernel_rfl) (of_decide_eq_true (by kernel_rfl)) k0 bel lt0) (trodAll_cons_mk (Below.trod laidOut (by kernel_rfl) (of_decide_eq_true (by kernel_rfl)) k1 bel lt1) trodAll_mk0)), rfl, bel.frame _, fun h => by cases h⟩
theorem over : Rows.recordBackRow.holds Tryz.pinned (OpenSpec.ofChange Rows.recordBackSpec) :=
 OpenClaim.holds_of_wide 5 Tryz.f5 rfl rfl rfl rfl rfl rfl rfl ⟨rfl, rfl, rfl, rfl, rfl⟩ rfl rfl rfl rfl rfl (by kernel_rfl) Tryz.func5 (by kernel_rfl)
  (of_decide_eq_true (by kernel_rfl)) (by unfold Func.isWrapper; first | (rw [if_pos (by decide +kernel)]; kernel_rfl) | (rw [if_neg (by decide +kernel)]; exact ⟨rfl, rfl⟩))
  (fun os started H enc _ => lifted os started H enc)
end Go.Proofs.YtinndbipomlokaaGreat.recordBack
namespace Go.Proofs.YtinndbipomlokaaGreat
theorem recordBack_holds : Rows.RecordBackSaid := recordBack.over
#print axioms recordBack_holds
end Go.Proofs.YtinndbipomlokaaGreat
