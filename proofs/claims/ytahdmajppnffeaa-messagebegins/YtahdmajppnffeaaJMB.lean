/- MessageBegins: no beginning of a message's bytes is a message, nor is it with more bytes behind -/
import Derived.Test.YtahdmajppnffeaaJM22
import Derived.Test.YtahdmajppnffeaaJM14
import Derived.Test.YtahdmajppnffeaaJM21
import Derived.WalkKit
namespace Go.Proofs.Ytahdmajppnffeaa
open Go.RowKit
open Sha Tal
set_option linter.unusedVariables false
set_option linter.unusedSimpArgs false
theorem umodk (z : Int) (m : Nat) (h0 : 0 < m) (hm : m ≤ 65536) : ∃ p : Nat, p < m ∧ (IntKind.u64.wrap z).tmod (m : Int) = (p : Int) := by
  rw [IntKind.wrap_u64]
  have h0' : 0 ≤ z % 18446744073709551616 := Int.emod_nonneg _ (by decide)
  generalize z % 18446744073709551616 = q at h0'
  rw [Int.tmod_eq_emod_of_nonneg h0']
  have h1 := Int.emod_nonneg q (b := (m : Int)) (by omega)
  have h2 := Int.emod_lt_of_pos q (b := (m : Int)) (by omega)
  exact ⟨(q % (m : Int)).toNat, by omega, by omega⟩
theorem light_len {m : Mg} {w : World} (om : m.ok) (am : m.At w) (hg : m.good = true) (hl : m.light) : m.bytes.length ≤ 37000 := by
  obtain ⟨h1, h8⟩ := Mg.good_k hg
  obtain ⟨l1, l2, l3⟩ := hl
  unfold Mg.good at hg
  rw [Bool.and_eq_true, Bool.and_eq_true] at hg
  have hm := hg.2.2
  clear hg
  unfold Mg.may Mg.mayL chgMay at hm
  simp only [Bool.and_eq_true] at hm
  obtain ⟨⟨a1, a2⟩, ⟨a3, a4⟩, a5, a6, a7, ⟨⟨c1, c2, c3⟩, c4⟩, a9, a10, a11⟩ := hm
  have e1 := inB_le a1
  have e2 := inB_le a2
  have e3 := inB_le a3
  have e4 := inB_le a4
  have e5 := inB_le c1
  have e6 := inB_le c2
  have e7 := inB_le c3
  clear a1 a2 a3 a4 a5 a6 c1 c2 c3
  obtain ⟨b1, b2⟩ := batMay_le a7
  have b3 := bat_le am.rs a7
  have s1 := sgsMay_le a11
  have s2 := sgs_le am.sg.2.1 (by omega : m.sg.xs.length ≤ 100)
  have s3 := ct_le om.ct am.cs.2.1 l2
  unfold mayL at c4 a9
  rw [Bool.and_eq_true] at c4 a9
  have d1 := of_decide_eq_true c4.1
  have d2 := of_decide_eq_true a9.1
  have hh := fun g (hgm : g ∈ m.he.xs) => hd_le (am.he.1.2.1 g hgm) (am.he.2 g hgm) (List.all_eq_true.1 c4.2 g hgm)
  have f1 := flat_bound (f := hdL) (K := 3200) m.he.xs (fun g hgm => (hh g hgm).1)
  have hs := fun g (hgm : g ∈ m.ne.xs) => Nat.le_trans (wtE_mem hgm) l3
  have f2 := evs_le m.ne.xs am.ne.2.1 hs
  have f3 := vt_le om.vt
  have p (n : Int) (hn : n ≤ 9223372036854775807) := putL_le n hn
  have pk := p m.k (by omega)
  have pe := p m.e (by omega)
  have ps := p m.s (by omega)
  have pl := p m.l (by omega)
  have pv := p m.v (by omega)
  have pc := p m.ce (by omega)
  have pd := p m.cl (by omega)
  have pf := p m.cv (by omega)
  have ph := p (m.he.xs.length : Int) (by omega)
  have pn := p (m.ne.xs.length : Int) (by omega)
  have pt := p (m.st.size : Int) (by omega)
  have dl := om.dl
  unfold Mg.bytes
  rw [List.length_append]
  have hk : m.body.length ≤ 36900 := by
    unfold Mg.body
    split
    · simp only [List.flatMap_cons, List.flatMap_nil, List.append_nil, List.length_append]; omega
    split
    · omega
    split
    · simp only [hdsL, List.flatMap_cons, List.flatMap_nil, List.append_nil, List.length_append]; omega
    split
    · simp only [evsL, List.flatMap_cons, List.flatMap_nil, List.append_nil, List.length_append]; omega
    split
    · simp only [List.length_append]; omega
    split
    · simp only [List.flatMap_cons, List.flatMap_nil, List.append_nil, List.length_append]; omega
    split
    · simp only [List.length_append]; omega
    · simp only [textL, strL_length, List.length_append]; omega
  omega
theorem ex_box {P : Program} {o : Oper} {a : Act} {w : World} {t : TypeId} {x : Operand} {u : Array Value} (ho : o.op = .box t x) (hx : a.eval x = .agg u) : (execOp a.eval o).run P w = .ok (.value (.pointer (some ⟨w.heap.size, 0, none⟩))) (w.alloc (.cells u t)) := by
  unfold execOp
  simp [ho, hx, Instr.box, newVar, newRow, Value.cells]
theorem strL_take (s : ByteArray) (p : Nat) (hp : p ≤ s.size) : strL (s.extract 0 p) = (strL s).take p := by
  unfold strL
  rw [ByteArray.data_extract]
  simp [List.extract, List.map_take]
theorem strL_app (s t : ByteArray) : strL (s ++ t) = strL s ++ strL t := by
  unfold strL
  rw [ByteArray.data_append]
  simp
/-- no beginning of a message's bytes is a message -/
theorem dec_cut {m : Mp} (h : m.good) {p : Nat} (hp : p < m.bytes.length) : (decS (m.bytes.take p)).2 ≠ 0 := fun q => by
  have hb := Mp.bytes_bs h
  obtain ⟨g, e⟩ := dec_form (hb.subT p) q
  have h1 := dec_more g (m.bytes.drop p)
  rw [← e, List.take_append_drop, dec_back h] at h1
  have hl : (m.bytes.drop p).length ≠ 0 := by rw [List.length_drop]; omega
  rw [if_neg hl] at h1
  have := congrArg Prod.snd h1
  exact absurd this (show (0 : Int) ≠ 12 by decide)
theorem toList_len (s : ByteArray) : s.toList.length = s.size := by rw [← strOf_strL s, strOf_list, List.length_map, strOf_size]
theorem nil_list : (⟨#[]⟩ : ByteArray).toList = [] := List.eq_nil_of_length_eq_zero (by rw [toList_len]; rfl)
theorem putL_pos (n : Int) (h : 1 ≤ n ∧ n ≤ 8) : 0 < (putL n).length := by
  have e : putL n ≠ [] := fun e => by
    have := numS_back n 8 (by omega) (by omega) h.2 []
    rw [List.append_nil, e] at this
    have h1 : (numS [] 0 8).2.2 = 0 := congrArg (fun x => x.2.2) this
    exact absurd h1 (by decide)
  exact List.length_pos_iff.2 e
set_option maxRecDepth 100000 in
set_option maxHeartbeats 1000000 in
theorem begins_walk (m : Mg) (cut : Int) (more : ByteArray) (w : World) (om : m.ok) (am : m.At w) : Calls Try.prog 4 #[.agg m.ms.cells.toArray, .int .i64 cut, .string more] w fun en w' => en = .returned (.bool true) ∧ Below w.heap.size w w' := by
  obtain ⟨zc, hzl, hzr⟩ : ∃ z : List Value, z.length = 119 ∧ ∀ w : World, (zeroValue 37).run Try.prog w = .ok (.agg z.toArray) w := ⟨_, Mg.none_ok.ms.len, zeroM⟩
  have cLm := fun w0 (h0 : Below w.heap.size w w0) => light13_any m w0 om (am.below h0)
  have cEm := fun (hl : m.light) w0 (h0 : Below w.heap.size w w0) => enc_any m w0 om (am.below h0) (fun hg => fine_of om am hg hl)
  have hgp : m.good = true → m.bytes = m.pure.bytes ∧ m.pure.good ∧ Bs m.bytes := fun hg => by
    have hp := good_pure om am hg
    have hk : 1 ≤ m.k ∧ m.k ≤ 8 := by
      rcases hp with h | h | h | h | h | h | h | h <;> (have h1 : m.k = _ := h.1; omega)
    have e := bytes_pure m hk
    exact ⟨e, hp, by rw [e]; exact Mp.bytes_bs hp⟩
  have hfm : m.good = true → m.light → m.bytes.length ≤ 37000 := fun hg hl => light_len om am hg hl
  have ql1 := om.ms.len
  have qo1 := om.ms.one
  have qi1 : (Try.prog.info? 37).map (·.size) = some m.ms.cells.length := by rw [ql1]; exact iszM
  obtain ⟨q, hq1⟩ : ∃ q, Hid (m.ms.cells = q) := ⟨_, hide rfl⟩
  simp only [hq1.out] at ql1 qo1 qi1 cLm cEm ⊢
  obtain ⟨hB1, r1, hs1⟩ := boxed_new w q 37
  go_enter Try.func4, Try.ntmps4
  go_upto_region 0 with fail
  try simp only [Act.put]
  refine pl_begin ?_
  refine pl_run (d := some 3) (v := .pointer (some ⟨w.heap.size, 0, none⟩)) (w' := w.alloc (.cells q.toArray 37)) (by rfl) (ex_box rfl rfl) rfl ?_
  simp only [Act.put, List.setIfInBounds_toArray, List.set_cons_zero, List.set_cons_succ]
  refine pl_take (d := some 6) (v := ?_) (by rfl) ?_ rfl ?_
  rotate_left
  · go_simp
    try with_reducible rfl
  simp only [Act.put, List.setIfInBounds_toArray, List.set_cons_zero, List.set_cons_succ]
  refine pl_nil ?_
  obtain ⟨w1, hw1⟩ : ∃ W, w.alloc (.cells q.toArray 37) = W := ⟨_, rfl⟩
  rw [hw1] at hB1 r1 hs1 ⊢
  clear hw1
  have cL := cLm w1 hB1
  go_upto_region 1 with fail
  try simp only [Act.put]
  refine pl_begin ?_
  refine pl_take (d := some 13) (v := .agg q.toArray) (by rfl) (ex_mid rfl rfl r1 Try.underlying37 rfl qi1) rfl ?_
  simp only [Act.put, List.setIfInBounds_toArray, List.set_cons_zero, List.set_cons_succ]
  refine pl_call (d := some 14) (by rfl) (by go_simp; first | done | exact ⟨rfl, rfl⟩ | with_reducible rfl) rfl ?_
  refine (cL).mono ?_
  rintro _ w2 hLS
  obtain ⟨b, rfl, hb2, hlt⟩ := hLS
  refine ⟨_, rfl, ?_⟩
  simp only [Act.put, List.setIfInBounds_toArray, List.set_cons_zero, List.set_cons_succ]
  have B2 := hB1.trans (hb2.mono hB1.size)
  have r2' := range_below r1 hb2 hs1
  clear cL hb2
  cases b
  · refine pl_take (d := some 15) (v := ?_) (by rfl) ?_ rfl ?_
    rotate_left
    · go_simp
      try with_reducible rfl
    simp only [Act.put, List.setIfInBounds_toArray, List.set_cons_zero, List.set_cons_succ]
    refine pl_take (d := some 16) (v := ?_) (by rfl) ?_ rfl ?_
    rotate_left
    · go_simp
      try with_reducible rfl
    simp only [Act.put, List.setIfInBounds_toArray, List.set_cons_zero, List.set_cons_succ]
    refine pl_skip (d := some 17) (by rfl) rfl ?_
    simp only [Act.put, List.setIfInBounds_toArray, List.set_cons_zero, List.set_cons_succ]
    refine pl_skip (d := some 18) (by rfl) rfl ?_
    simp only [Act.put, List.setIfInBounds_toArray, List.set_cons_zero, List.set_cons_succ]
    refine pl_skip (d := some 19) (by rfl) rfl ?_
    simp only [Act.put, List.setIfInBounds_toArray, List.set_cons_zero, List.set_cons_succ]
    refine pl_take (d := some 20) (v := ?_) (by rfl) ?_ rfl ?_
    rotate_left
    · go_simp
      try with_reducible rfl
    simp only [Act.put, List.setIfInBounds_toArray, List.set_cons_zero, List.set_cons_succ]
    refine pl_nil ?_
    clear hlt
    go_upto_region 2 with fail
    try simp only [Act.put]
    refine pl_begin ?_
    refine pl_call (d := some 21) (by rfl) (by go_simp; first | done | exact ⟨rfl, rfl⟩ | with_reducible rfl) rfl ?_
    refine (lives13_any w2).mono ?_
    rintro _ wz ⟨rfl, hbz⟩
    refine ⟨_, rfl, ?_⟩
    simp only [Act.put, List.setIfInBounds_toArray, List.set_cons_zero, List.set_cons_succ]
    refine pl_take (d := some 6) (v := ?_) (by rfl) ?_ rfl ?_
    rotate_left
    · go_simp
      try with_reducible rfl
    simp only [Act.put, List.setIfInBounds_toArray, List.set_cons_zero, List.set_cons_succ]
    refine pl_nil ?_
    have HB := hide (B2.trans (hbz.mono B2.size))
    clear B2 hbz
    go_wp2_with fail
    go_ret
    exact ⟨rfl, HB.out⟩
  · refine pl_take (d := some 15) (v := ?_) (by rfl) ?_ rfl ?_
    rotate_left
    · go_simp
      try with_reducible rfl
    simp only [Act.put, List.setIfInBounds_toArray, List.set_cons_zero, List.set_cons_succ]
    refine pl_take (d := some 16) (v := ?_) (by rfl) ?_ rfl ?_
    rotate_left
    · go_simp
      try with_reducible rfl
    simp only [Act.put, List.setIfInBounds_toArray, List.set_cons_zero, List.set_cons_succ]
    refine pl_take (d := some 17) (v := ?_) (by rfl) ?_ rfl ?_
    rotate_left
    · go_simp
      try with_reducible rfl
    simp only [Act.put, List.setIfInBounds_toArray, List.set_cons_zero, List.set_cons_succ]
    refine pl_take (d := some 18) (v := ?_) (by rfl) ?_ rfl ?_
    rotate_left
    · go_simp
      try with_reducible rfl
    simp only [Act.put, List.setIfInBounds_toArray, List.set_cons_zero, List.set_cons_succ]
    by_cases hs : (more.size : Int) > 2000
    · refine pl_take (d := some 19) (v := .bool true) (by rfl) (by go_simp <;> (try simp) <;> (try omega)) rfl ?_
      simp only [Act.put, List.setIfInBounds_toArray, List.set_cons_zero, List.set_cons_succ]
      refine pl_take (d := some 20) (v := ?_) (by rfl) ?_ rfl ?_
      rotate_left
      · go_simp
        try with_reducible rfl
      simp only [Act.put, List.setIfInBounds_toArray, List.set_cons_zero, List.set_cons_succ]
      refine pl_nil ?_
      go_upto_region 2 with fail
      try simp only [Act.put]
      refine pl_begin ?_
      refine pl_call (d := some 21) (by rfl) (by go_simp; first | done | exact ⟨rfl, rfl⟩ | with_reducible rfl) rfl ?_
      refine (lives13_any w2).mono ?_
      rintro _ wz ⟨rfl, hbz⟩
      refine ⟨_, rfl, ?_⟩
      simp only [Act.put, List.setIfInBounds_toArray, List.set_cons_zero, List.set_cons_succ]
      refine pl_take (d := some 6) (v := ?_) (by rfl) ?_ rfl ?_
      rotate_left
      · go_simp
        try with_reducible rfl
      simp only [Act.put, List.setIfInBounds_toArray, List.set_cons_zero, List.set_cons_succ]
      refine pl_nil ?_
      have HB := hide (B2.trans (hbz.mono B2.size))
      clear B2 hbz
      go_wp2_with fail
      go_ret
      exact ⟨rfl, HB.out⟩
    · refine pl_take (d := some 19) (v := .bool false) (by rfl) (by go_simp <;> (try simp) <;> (try omega)) rfl ?_
      simp only [Act.put, List.setIfInBounds_toArray, List.set_cons_zero, List.set_cons_succ]
      refine pl_take (d := some 20) (v := ?_) (by rfl) ?_ rfl ?_
      rotate_left
      · go_simp
        try with_reducible rfl
      simp only [Act.put, List.setIfInBounds_toArray, List.set_cons_zero, List.set_cons_succ]
      refine pl_nil ?_
      have hlt := hlt rfl
      have cE := cEm hlt w2 B2
      go_upto_region 3 with fail
      cases hgd : m.good
      · rw [hgd] at cE
        unfold encV at cE
        rw [if_neg (by decide)] at cE
        try simp only [Act.put]
        refine pl_begin ?_
        refine pl_take (d := some 23) (v := .agg q.toArray) (by rfl) (ex_mid rfl rfl r2' Try.underlying37 rfl qi1) rfl ?_
        simp only [Act.put, List.setIfInBounds_toArray, List.set_cons_zero, List.set_cons_succ]
        refine pl_call (d := some 24) (by rfl) (by go_simp; first | done | exact ⟨rfl, rfl⟩ | with_reducible rfl) rfl ?_
        refine (cE).mono ?_
        rintro _ w3 ⟨rfl, hb3⟩
        refine ⟨_, rfl, ?_⟩
        simp only [Act.put, List.setIfInBounds_toArray, List.set_cons_zero, List.set_cons_succ]
        refine pl_take (d := some 22) (v := ?_) (by rfl) ?_ rfl ?_
        rotate_left
        · go_simp
          try with_reducible rfl
        simp only [Act.put, List.setIfInBounds_toArray, List.set_cons_zero, List.set_cons_succ]
        refine pl_take (d := some 25) (v := ?_) (by rfl) ?_ rfl ?_
        rotate_left
        · go_simp
          try with_reducible rfl
        simp only [Act.put, List.setIfInBounds_toArray, List.set_cons_zero, List.set_cons_succ]
        refine pl_take (d := some 26) (v := ?_) (by rfl) ?_ rfl ?_
        rotate_left
        · go_simp
          try with_reducible rfl
        simp only [Act.put, List.setIfInBounds_toArray, List.set_cons_zero, List.set_cons_succ]
        refine pl_take (d := some 7) (v := ?_) (by rfl) ?_ rfl ?_
        rotate_left
        · go_simp
          try with_reducible rfl
        simp only [Act.put, List.setIfInBounds_toArray, List.set_cons_zero, List.set_cons_succ]
        refine pl_take (d := some 8) (v := ?_) (by rfl) ?_ rfl ?_
        rotate_left
        · go_simp
          try with_reducible rfl
        simp only [Act.put, List.setIfInBounds_toArray, List.set_cons_zero, List.set_cons_succ]
        refine pl_nil ?_
        have B3 := B2.trans (hb3.mono B2.size)
        clear cE B2 hb3 r1 r2'
        go_upto_region 4 with fail
        try simp only [Act.put]
        refine pl_begin ?_
        refine pl_take (d := some 27) (v := ?_) (by rfl) ?_ rfl ?_
        rotate_left
        · go_simp
          try with_reducible rfl
        simp only [Act.put, List.setIfInBounds_toArray, List.set_cons_zero, List.set_cons_succ]
        refine pl_take (d := some 28) (v := .bool true) (by rfl) (by go_simp) rfl ?_
        simp only [Act.put, List.setIfInBounds_toArray, List.set_cons_zero, List.set_cons_succ]
        refine pl_take (d := some 29) (v := ?_) (by rfl) ?_ rfl ?_
        rotate_left
        · go_simp
          try with_reducible rfl
        simp only [Act.put, List.setIfInBounds_toArray, List.set_cons_zero, List.set_cons_succ]
        refine pl_skip (d := some 30) (by rfl) rfl ?_
        simp only [Act.put, List.setIfInBounds_toArray, List.set_cons_zero, List.set_cons_succ]
        refine pl_skip (d := some 31) (by rfl) rfl ?_
        simp only [Act.put, List.setIfInBounds_toArray, List.set_cons_zero, List.set_cons_succ]
        refine pl_take (d := some 32) (v := ?_) (by rfl) ?_ rfl ?_
        rotate_left
        · go_simp
          try with_reducible rfl
        simp only [Act.put, List.setIfInBounds_toArray, List.set_cons_zero, List.set_cons_succ]
        refine pl_nil ?_
        go_upto_region 5 with fail
        try simp only [Act.put]
        refine pl_begin ?_
        refine pl_take (d := some 33) (v := ?_) (by rfl) ?_ rfl ?_
        rotate_left
        · go_simp
          try with_reducible rfl
        simp only [Act.put, List.setIfInBounds_toArray, List.set_cons_zero, List.set_cons_succ]
        refine pl_take (d := some 34) (v := .bool true) (by rfl) (by go_simp) rfl ?_
        simp only [Act.put, List.setIfInBounds_toArray, List.set_cons_zero, List.set_cons_succ]
        refine pl_take (d := some 35) (v := ?_) (by rfl) ?_ rfl ?_
        rotate_left
        · go_simp
          try with_reducible rfl
        simp only [Act.put, List.setIfInBounds_toArray, List.set_cons_zero, List.set_cons_succ]
        refine pl_take (d := some 36) (v := ?_) (by rfl) ?_ rfl ?_
        rotate_left
        · go_simp
          try with_reducible rfl
        simp only [Act.put, List.setIfInBounds_toArray, List.set_cons_zero, List.set_cons_succ]
        refine pl_take (d := some 37) (v := .bool true) (by rfl) (by go_simp <;> (try simp)) rfl ?_
        simp only [Act.put, List.setIfInBounds_toArray, List.set_cons_zero, List.set_cons_succ]
        refine pl_take (d := some 38) (v := ?_) (by rfl) ?_ rfl ?_
        rotate_left
        · go_simp
          try with_reducible rfl
        simp only [Act.put, List.setIfInBounds_toArray, List.set_cons_zero, List.set_cons_succ]
        refine pl_take (d := some 39) (v := ?_) (by rfl) ?_ rfl ?_
        rotate_left
        · go_simp
          try with_reducible rfl
        simp only [Act.put, List.setIfInBounds_toArray, List.set_cons_zero, List.set_cons_succ]
        refine pl_call (d := some 40) (by rfl) (by go_simp; first | done | exact ⟨rfl, rfl⟩ | with_reducible rfl) rfl ?_
        refine (lives13_any w3).mono ?_
        rintro _ wz ⟨rfl, hbz⟩
        refine ⟨_, rfl, ?_⟩
        simp only [Act.put, List.setIfInBounds_toArray, List.set_cons_zero, List.set_cons_succ]
        refine pl_take (d := some 41) (v := ?_) (by rfl) ?_ rfl ?_
        rotate_left
        · go_simp
          try with_reducible rfl
        simp only [Act.put, List.setIfInBounds_toArray, List.set_cons_zero, List.set_cons_succ]
        refine pl_take (d := some 6) (v := ?_) (by rfl) ?_ rfl ?_
        rotate_left
        · go_simp
          try with_reducible rfl
        simp only [Act.put, List.setIfInBounds_toArray, List.set_cons_zero, List.set_cons_succ]
        refine pl_nil ?_
        have HB := hide (B3.trans (hbz.mono B3.size))
        clear B3 hbz
        go_wp2_with fail
        go_ret
        exact ⟨rfl, HB.out⟩
      · have hgp := hgp hgd
        have hfm := hfm hgd hlt
        rw [hgd] at cE
        have hSz : (strOf m.bytes).size = m.bytes.length := strOf_size _
        have hSl : strL (strOf m.bytes) = m.bytes := strL_strOf hgp.2.2
        have hS0 : 0 < m.bytes.length := by rw [hgp.1]; unfold Mp.bytes; rw [List.length_append]; have := putL_pos m.pure.k (by have := hgp.2.1; rcases this with h | h | h | h | h | h | h | h <;> (have h1 : m.pure.k = _ := h.1; omega)); omega
        obtain ⟨S, hSe⟩ : ∃ S, Hid (strOf m.bytes = S) := ⟨_, hide rfl⟩
        unfold encV at cE
        rw [if_pos rfl, hSe.out] at cE
        rw [hSe.out] at hSz hSl
        obtain ⟨p, hpl, en⟩ := umodk cut S.size (by omega) (by omega)
        have cd1 := fun w0 => decode_any (S.extract 0 p) (by rw [← strL_length, strL_take S p (by omega), List.length_take]; omega) w0
        have cd2 := fun w0 => decode_any (S ++ more) (by rw [← strL_length, strL_app, List.length_append, hSl, strL_length]; omega) w0
        have hc1 : (Go.Proofs.Ytahdmajppnffeaa.decS (strL (S.extract 0 p))).2 ≠ 0 := by
          rw [strL_take S p (by omega), hSl, hgp.1]
          exact dec_cut hgp.2.1 (by rw [← hgp.1]; omega)
        have hc2 : (Go.Proofs.Ytahdmajppnffeaa.decS (strL (S ++ more))).2 = if more.size = 0 then 0 else 12 := by
          rw [strL_app, hSl, hgp.1, dec_more hgp.2.1, strL_length]
          split <;> rfl
        obtain ⟨D1, hD1⟩ : ∃ d, Hid (Go.Proofs.Ytahdmajppnffeaa.decS (strL (S.extract 0 p)) = d) := ⟨_, hide rfl⟩
        obtain ⟨D2, hD2⟩ : ∃ d, Hid (Go.Proofs.Ytahdmajppnffeaa.decS (strL (S ++ more)) = d) := ⟨_, hide rfl⟩
        simp only [hD1.out] at cd1 hc1
        simp only [hD2.out] at cd2 hc2
        obtain ⟨m1, f⟩ := D1
        obtain ⟨m2, g⟩ := D2
        simp only at cd1 cd2 hc1 hc2
        replace hc2 := hide hc2
        have hne : (S.toList == (⟨#[]⟩ : ByteArray).toList) = false := by
          have : S.toList.length ≠ 0 := by rw [toList_len]; omega
          rw [nil_list]
          cases hSs : S.toList with
          | nil => rw [hSs] at this; exact absurd rfl this
          | cons a l => rfl
        try simp only [Act.put]
        refine pl_begin ?_
        refine pl_take (d := some 23) (v := .agg q.toArray) (by rfl) (ex_mid rfl rfl r2' Try.underlying37 rfl qi1) rfl ?_
        simp only [Act.put, List.setIfInBounds_toArray, List.set_cons_zero, List.set_cons_succ]
        refine pl_call (d := some 24) (by rfl) (by go_simp; first | done | exact ⟨rfl, rfl⟩ | with_reducible rfl) rfl ?_
        refine (cE).mono ?_
        rintro _ w3 ⟨rfl, hb3⟩
        refine ⟨_, rfl, ?_⟩
        simp only [Act.put, List.setIfInBounds_toArray, List.set_cons_zero, List.set_cons_succ]
        refine pl_take (d := some 22) (v := ?_) (by rfl) ?_ rfl ?_
        rotate_left
        · go_simp
          try with_reducible rfl
        simp only [Act.put, List.setIfInBounds_toArray, List.set_cons_zero, List.set_cons_succ]
        refine pl_take (d := some 25) (v := ?_) (by rfl) ?_ rfl ?_
        rotate_left
        · go_simp
          try with_reducible rfl
        simp only [Act.put, List.setIfInBounds_toArray, List.set_cons_zero, List.set_cons_succ]
        refine pl_take (d := some 26) (v := ?_) (by rfl) ?_ rfl ?_
        rotate_left
        · go_simp
          try with_reducible rfl
        simp only [Act.put, List.setIfInBounds_toArray, List.set_cons_zero, List.set_cons_succ]
        refine pl_take (d := some 7) (v := ?_) (by rfl) ?_ rfl ?_
        rotate_left
        · go_simp
          try with_reducible rfl
        simp only [Act.put, List.setIfInBounds_toArray, List.set_cons_zero, List.set_cons_succ]
        refine pl_take (d := some 8) (v := ?_) (by rfl) ?_ rfl ?_
        rotate_left
        · go_simp
          try with_reducible rfl
        simp only [Act.put, List.setIfInBounds_toArray, List.set_cons_zero, List.set_cons_succ]
        refine pl_nil ?_
        have B3 := B2.trans (hb3.mono B2.size)
        have hS64 : (S.size : Int) ≤ 40000 := by omega
        have hS1 : (0 : Int) < (S.size : Int) := by omega
        have hpS : (p : Int) ≤ (S.size : Int) := by omega
        have hmS : S.size + more.size ≤ 8388608 := by omega
        have hw : IntKind.u64.wrap (S.size : Int) = (S.size : Int) := by rw [IntKind.wrap_u64]; omega
        have hn0 : ¬ (S.size : Int) = 0 := by omega
        have hSe0 : ¬ S = ByteArray.empty := fun e => by rw [e] at hn0; exact hn0 rfl
        have hp1 : IntKind.u64.wrap (p : Int) = (p : Int) := by rw [IntKind.wrap_u64]; omega
        have hp2 : IntKind.i64.wrap (p : Int) = (p : Int) := by rw [IntKind.wrap_i64] <;> omega
        have hne2 : S.toList ≠ [] := fun e => by rw [e] at hne; exact absurd hne (by rw [nil_list]; decide)
        clear hSz hSl hgp hSe hD1 hD2 hS0
        clear cE B2 hb3 r1 r2'
        go_upto_region 4 with fail
        try simp only [Act.put]
        refine pl_begin ?_
        refine pl_take (d := some 27) (v := ?_) (by rfl) ?_ rfl ?_
        rotate_left
        · go_simp
          try with_reducible rfl
        simp only [Act.put, List.setIfInBounds_toArray, List.set_cons_zero, List.set_cons_succ]
        refine pl_take (d := some 28) (v := .bool false) (by rfl) (by go_simp) rfl ?_
        simp only [Act.put, List.setIfInBounds_toArray, List.set_cons_zero, List.set_cons_succ]
        refine pl_take (d := some 29) (v := ?_) (by rfl) ?_ rfl ?_
        rotate_left
        · go_simp
          try with_reducible rfl
        simp only [Act.put, List.setIfInBounds_toArray, List.set_cons_zero, List.set_cons_succ]
        refine pl_take (d := some 30) (v := ?_) (by rfl) ?_ rfl ?_
        rotate_left
        · go_simp
          try with_reducible rfl
        simp only [Act.put, List.setIfInBounds_toArray, List.set_cons_zero, List.set_cons_succ]
        refine pl_take (d := some 31) (v := .bool false) (by rfl) (by go_simp <;> (try simp [hne2])) rfl ?_
        simp only [Act.put, List.setIfInBounds_toArray, List.set_cons_zero, List.set_cons_succ]
        refine pl_take (d := some 32) (v := ?_) (by rfl) ?_ rfl ?_
        rotate_left
        · go_simp
          try with_reducible rfl
        simp only [Act.put, List.setIfInBounds_toArray, List.set_cons_zero, List.set_cons_succ]
        refine pl_nil ?_
        go_upto_region 6 with fail
        try simp only [Act.put]
        refine pl_begin ?_
        refine pl_take (d := some 43) (v := ?_) (by rfl) ?_ rfl ?_
        rotate_left
        · go_simp
          try with_reducible rfl
        simp only [Act.put, List.setIfInBounds_toArray, List.set_cons_zero, List.set_cons_succ]
        refine pl_take (d := some 44) (v := ?_) (by rfl) ?_ rfl ?_
        rotate_left
        · go_simp
          try with_reducible rfl
        simp only [Act.put, List.setIfInBounds_toArray, List.set_cons_zero, List.set_cons_succ]
        refine pl_take (d := some 45) (v := ?_) (by rfl) ?_ rfl ?_
        rotate_left
        · go_simp
          try with_reducible rfl
        simp only [Act.put, List.setIfInBounds_toArray, List.set_cons_zero, List.set_cons_succ]
        refine pl_take (d := some 46) (v := ?_) (by rfl) ?_ rfl ?_
        rotate_left
        · go_simp
          try with_reducible rfl
        simp only [Act.put, List.setIfInBounds_toArray, List.set_cons_zero, List.set_cons_succ]
        refine pl_take (d := some 47) (v := ?_) (by rfl) ?_ rfl ?_
        rotate_left
        · go_simp
          try with_reducible rfl
        simp only [Act.put, List.setIfInBounds_toArray, List.set_cons_zero, List.set_cons_succ]
        refine pl_take (d := some 48) (v := ?_) (by rfl) ?_ rfl ?_
        rotate_left
        · go_simp
          try with_reducible rfl
        simp only [Act.put, List.setIfInBounds_toArray, List.set_cons_zero, List.set_cons_succ]
        refine pl_take (d := some 49) (v := .int .u64 (p : Int)) (by rfl) (by go_simp <;> (first | done | exact hSe0 | simp [hw, hn0, en, hp1] | omega)) rfl ?_
        simp only [Act.put, List.setIfInBounds_toArray, List.set_cons_zero, List.set_cons_succ]
        refine pl_take (d := some 50) (v := .int .i64 (p : Int)) (by rfl) (by go_simp <;> (first | done | exact hp2 | simp [hp2] | omega)) rfl ?_
        simp only [Act.put, List.setIfInBounds_toArray, List.set_cons_zero, List.set_cons_succ]
        refine pl_take (d := some 51) (v := .string (S.extract 0 p)) (by rfl) (by go_simp <;> (try omega) <;> (intros; omega)) rfl ?_
        simp only [Act.put, List.setIfInBounds_toArray, List.set_cons_zero, List.set_cons_succ]
        refine pl_call (d := some 52) (by rfl) (by go_simp; first | done | exact ⟨rfl, rfl⟩ | with_reducible rfl) rfl ?_
        refine (cd1 w3).mono ?_
        rintro _ w4 ⟨x, rfl, hp3, hmo3, hA3, hB3, hb3⟩
        have ql3 := hmo3.ms.len
        have qo3 := hmo3.ms.one
        have qi3 : (Try.prog.info? 37).map (·.size) = some x.ms.cells.length := by rw [ql3]; exact iszM
        obtain ⟨u, hq3⟩ : ∃ q, Hid (x.ms.cells = q) := ⟨_, hide rfl⟩
        simp only [hq3.out] at ql3 qo3 qi3 ⊢
        refine ⟨_, rfl, ?_⟩
        simp only [Act.put, List.setIfInBounds_toArray, List.set_cons_zero, List.set_cons_succ]
        refine pl_take (d := some 42) (v := ?_) (by rfl) ?_ rfl ?_
        rotate_left
        · go_simp
          try with_reducible rfl
        simp only [Act.put, List.setIfInBounds_toArray, List.set_cons_zero, List.set_cons_succ]
        refine pl_take (d := some 53) (v := ?_) (by rfl) ?_ rfl ?_
        rotate_left
        · go_simp
          try with_reducible rfl
        simp only [Act.put, List.setIfInBounds_toArray, List.set_cons_zero, List.set_cons_succ]
        refine pl_take (d := some 54) (v := ?_) (by rfl) ?_ rfl ?_
        rotate_left
        · go_simp
          try with_reducible rfl
        simp only [Act.put, List.setIfInBounds_toArray, List.set_cons_zero, List.set_cons_succ]
        refine pl_run (d := some 9) (v := .pointer (some ⟨w4.heap.size, 0, none⟩)) (w' := w4.alloc (.cells zc.toArray 37)) (by rfl) (ex_alloc rfl (hzr _)) rfl ?_
        simp only [Act.put, List.setIfInBounds_toArray, List.set_cons_zero, List.set_cons_succ]
        refine pl_store (w' := (w4.alloc (.cells zc.toArray 37)).setCells w4.heap.size 0 u) (by rfl) (ex_put (cs := u.toArray) rfl rfl rfl (there_newN _ _ _ (by simp [hzl, ql3])) (by simpa using qi3) (all_one qo3)) rfl ?_
        refine pl_take (d := some 10) (v := ?_) (by rfl) ?_ rfl ?_
        rotate_left
        · go_simp
          try with_reducible rfl
        simp only [Act.put, List.setIfInBounds_toArray, List.set_cons_zero, List.set_cons_succ]
        refine pl_nil ?_
        obtain ⟨r3, hF3, -, -⟩ := fresh_store w4 zc.toArray 37 u (by simp [hzl, ql3])
        obtain ⟨w5, hw5⟩ : ∃ W, (w4.alloc (.cells zc.toArray 37)).setCells w4.heap.size 0 u = W := ⟨_, rfl⟩
        rw [hw5] at r3 hF3 ⊢
        clear hw5
        have B5 := (B3.trans (hb3.mono B3.size)).trans (hF3.mono (Nat.le_trans B3.size hb3.size))
        clear hb3 hF3 r3 B3 hA3 hB3 hp3 hmo3 hq3
        go_upto_region 7 with fail
        try simp only [Act.put]
        refine pl_begin ?_
        refine pl_take (d := some 56) (v := ?_) (by rfl) ?_ rfl ?_
        rotate_left
        · go_simp
          try with_reducible rfl
        simp only [Act.put, List.setIfInBounds_toArray, List.set_cons_zero, List.set_cons_succ]
        refine pl_take (d := some 57) (v := ?_) (by rfl) ?_ rfl ?_
        rotate_left
        · go_simp
          try with_reducible rfl
        simp only [Act.put, List.setIfInBounds_toArray, List.set_cons_zero, List.set_cons_succ]
        refine pl_take (d := some 58) (v := .string (S ++ more)) (by rfl) (by go_simp <;> (try omega)) rfl ?_
        simp only [Act.put, List.setIfInBounds_toArray, List.set_cons_zero, List.set_cons_succ]
        refine pl_call (d := some 59) (by rfl) (by go_simp; first | done | exact ⟨rfl, rfl⟩ | with_reducible rfl) rfl ?_
        refine (cd2 w5).mono ?_
        rintro _ w6 ⟨y, rfl, hp4, hmo4, hA4, hB4, hb4⟩
        have ql4 := hmo4.ms.len
        have qo4 := hmo4.ms.one
        have qi4 : (Try.prog.info? 37).map (·.size) = some y.ms.cells.length := by rw [ql4]; exact iszM
        obtain ⟨v, hq4⟩ : ∃ q, Hid (y.ms.cells = q) := ⟨_, hide rfl⟩
        simp only [hq4.out] at ql4 qo4 qi4 ⊢
        refine ⟨_, rfl, ?_⟩
        simp only [Act.put, List.setIfInBounds_toArray, List.set_cons_zero, List.set_cons_succ]
        refine pl_take (d := some 55) (v := ?_) (by rfl) ?_ rfl ?_
        rotate_left
        · go_simp
          try with_reducible rfl
        simp only [Act.put, List.setIfInBounds_toArray, List.set_cons_zero, List.set_cons_succ]
        refine pl_take (d := some 60) (v := ?_) (by rfl) ?_ rfl ?_
        rotate_left
        · go_simp
          try with_reducible rfl
        simp only [Act.put, List.setIfInBounds_toArray, List.set_cons_zero, List.set_cons_succ]
        refine pl_take (d := some 61) (v := ?_) (by rfl) ?_ rfl ?_
        rotate_left
        · go_simp
          try with_reducible rfl
        simp only [Act.put, List.setIfInBounds_toArray, List.set_cons_zero, List.set_cons_succ]
        refine pl_run (d := some 11) (v := .pointer (some ⟨w6.heap.size, 0, none⟩)) (w' := w6.alloc (.cells zc.toArray 37)) (by rfl) (ex_alloc rfl (hzr _)) rfl ?_
        simp only [Act.put, List.setIfInBounds_toArray, List.set_cons_zero, List.set_cons_succ]
        refine pl_store (w' := (w6.alloc (.cells zc.toArray 37)).setCells w6.heap.size 0 v) (by rfl) (ex_put (cs := v.toArray) rfl rfl rfl (there_newN _ _ _ (by simp [hzl, ql4])) (by simpa using qi4) (all_one qo4)) rfl ?_
        refine pl_take (d := some 12) (v := ?_) (by rfl) ?_ rfl ?_
        rotate_left
        · go_simp
          try with_reducible rfl
        simp only [Act.put, List.setIfInBounds_toArray, List.set_cons_zero, List.set_cons_succ]
        refine pl_nil ?_
        obtain ⟨r4, hF4, -, -⟩ := fresh_store w6 zc.toArray 37 v (by simp [hzl, ql4])
        obtain ⟨w7, hw7⟩ : ∃ W, (w6.alloc (.cells zc.toArray 37)).setCells w6.heap.size 0 v = W := ⟨_, rfl⟩
        rw [hw7] at r4 hF4 ⊢
        clear hw7
        have B7 := (B5.trans (hb4.mono B5.size)).trans (hF4.mono (Nat.le_trans B5.size hb4.size))
        clear hb4 hF4 r4 B5 hA4 hB4 hp4 hmo4 hq4 cd1 cd2
        have hf1 : (f != 0) = true := by simpa using hc1
        have hc2 := hc2.out
        have hmm : ((g == 0) == (more.toList == (⟨#[]⟩ : ByteArray).toList)) = true := by
          rw [nil_list]
          by_cases h0 : more.size = 0
          · rw [if_pos h0] at hc2
            have : more.toList = [] := List.eq_nil_of_length_eq_zero (by rw [toList_len]; exact h0)
            rw [hc2, this]
            rfl
          · rw [if_neg h0] at hc2
            have : more.toList ≠ [] := fun e => h0 (by rw [← toList_len, e]; rfl)
            rw [hc2]
            cases hm : more.toList with
            | nil => exact absurd hm this
            | cons a l => rfl
        obtain ⟨b2, hb2'⟩ : ∃ b, Hid ((more.toList == (⟨#[]⟩ : ByteArray).toList) = b) := ⟨_, hide rfl⟩
        obtain ⟨b1, hb1'⟩ : ∃ b, Hid ((g == 0) = b) := ⟨_, hide rfl⟩
        rw [hb1'.out, hb2'.out] at hmm
        clear hc2 hc1
        go_upto_region 8 with fail
        try simp only [Act.put]
        refine pl_begin ?_
        refine pl_take (d := some 62) (v := ?_) (by rfl) ?_ rfl ?_
        rotate_left
        · go_simp
          try with_reducible rfl
        simp only [Act.put, List.setIfInBounds_toArray, List.set_cons_zero, List.set_cons_succ]
        refine pl_take (d := some 63) (v := .bool true) (by rfl) (by rw [← hf1]; go_simp) rfl ?_
        simp only [Act.put, List.setIfInBounds_toArray, List.set_cons_zero, List.set_cons_succ]
        refine pl_take (d := some 64) (v := ?_) (by rfl) ?_ rfl ?_
        rotate_left
        · go_simp
          try with_reducible rfl
        simp only [Act.put, List.setIfInBounds_toArray, List.set_cons_zero, List.set_cons_succ]
        refine pl_take (d := some 65) (v := ?_) (by rfl) ?_ rfl ?_
        rotate_left
        · go_simp
          try with_reducible rfl
        simp only [Act.put, List.setIfInBounds_toArray, List.set_cons_zero, List.set_cons_succ]
        refine pl_take (d := some 66) (v := .bool b1) (by rfl) (by rw [← hb1'.out]; go_simp) rfl ?_
        simp only [Act.put, List.setIfInBounds_toArray, List.set_cons_zero, List.set_cons_succ]
        refine pl_take (d := some 67) (v := ?_) (by rfl) ?_ rfl ?_
        rotate_left
        · go_simp
          try with_reducible rfl
        simp only [Act.put, List.setIfInBounds_toArray, List.set_cons_zero, List.set_cons_succ]
        refine pl_take (d := some 68) (v := .bool b2) (by rfl) (by rw [← hb2'.out]; go_simp <;> (try simp)) rfl ?_
        simp only [Act.put, List.setIfInBounds_toArray, List.set_cons_zero, List.set_cons_succ]
        refine pl_take (d := some 69) (v := .bool true) (by rfl) (by rw [← hmm]; go_simp) rfl ?_
        simp only [Act.put, List.setIfInBounds_toArray, List.set_cons_zero, List.set_cons_succ]
        refine pl_take (d := some 70) (v := ?_) (by rfl) ?_ rfl ?_
        rotate_left
        · go_simp
          try with_reducible rfl
        simp only [Act.put, List.setIfInBounds_toArray, List.set_cons_zero, List.set_cons_succ]
        refine pl_take (d := some 71) (v := ?_) (by rfl) ?_ rfl ?_
        rotate_left
        · go_simp
          try with_reducible rfl
        simp only [Act.put, List.setIfInBounds_toArray, List.set_cons_zero, List.set_cons_succ]
        refine pl_call (d := some 72) (by rfl) (by go_simp; first | done | exact ⟨rfl, rfl⟩ | with_reducible rfl) rfl ?_
        refine (lives13_any w7).mono ?_
        rintro _ wz ⟨rfl, hbz⟩
        refine ⟨_, rfl, ?_⟩
        simp only [Act.put, List.setIfInBounds_toArray, List.set_cons_zero, List.set_cons_succ]
        refine pl_take (d := some 73) (v := ?_) (by rfl) ?_ rfl ?_
        rotate_left
        · go_simp
          try with_reducible rfl
        simp only [Act.put, List.setIfInBounds_toArray, List.set_cons_zero, List.set_cons_succ]
        refine pl_take (d := some 6) (v := ?_) (by rfl) ?_ rfl ?_
        rotate_left
        · go_simp
          try with_reducible rfl
        simp only [Act.put, List.setIfInBounds_toArray, List.set_cons_zero, List.set_cons_succ]
        refine pl_nil ?_
        have HB := hide (B7.trans (hbz.mono B7.size))
        clear B7 hbz
        go_wp2_with fail
        go_ret
        exact ⟨rfl, HB.out⟩
end Go.Proofs.Ytahdmajppnffeaa
namespace Go.Proofs.Ytahdmajppnffeaa.messageBegins
open Go.ChangeShapes Go.WideShapes Go.ChangeAt Go.RowKit
open Go.ChangeMaps (open_string shut_string)
set_option linter.unusedVariables false
set_option maxRecDepth 100000 in
theorem lifted (os : Os) (started : os.Started) (H : Type) (enc : TypeId × Value → H) :
    ReturnsInHanded {} Try.checked os 4 .any (Rows.messageBeginsSpec.pre6 enc Try.prog Try.f4 Rows.messageBeginsRow.domain false) (Rows.messageBeginsSpec.post enc Try.prog Try.f4 false true false false) := by
  refine returnsInHanded_of_change (C := Try.checked) own started (by kernel_rfl) Try.func4
    (ChangeSpec.witness6 (enc := enc) (C := Try.checked) false ⟨#[], #[.agg #[.int .i64 0, .int .i64 0, .int .i64 0, .int .i64 0, .int .i64 0, .bool false, .slice none 0 0, .int .i64 0, .int .i64 0, .int .i64 0, .int .i64 0, .int .u8 0, .int .u8 0, .int .u8 0, .int .u8 0, .int .u8 0, .int .u8 0, .int .u8 0, .int .u8 0, .int .u8 0, .int .u8 0, .int .u8 0, .int .u8 0, .int .u8 0, .int .u8 0, .int .u8 0, .int .u8 0, .int .u8 0, .int .u8 0, .int .u8 0, .int .u8 0, .int .u8 0, .int .u8 0, .int .u8 0, .int .u8 0, .int .u8 0, .int .u8 0, .int .u8 0, .int .u8 0, .int .u8 0, .int .u8 0, .int .u8 0, .int .u8 0, .int .i64 0, .int .i64 0, .int .i64 0, .slice none 0 0, .slice none 0 0, .int .u8 0, .int .u8 0, .int .u8 0, .int .u8 0, .int .u8 0, .int .u8 0, .int .u8 0, .int .u8 0, .int .u8 0, .int .u8 0, .int .u8 0, .int .u8 0, .int .u8 0, .int .u8 0, .int .u8 0, .int .u8 0, .int .u8 0, .int .u8 0, .int .u8 0, .int .u8 0, .int .u8 0, .int .u8 0, .int .u8 0, .int .u8 0, .int .u8 0, .int .u8 0, .int .u8 0, .int .u8 0, .int .u8 0, .int .u8 0, .int .u8 0, .int .u8 0, .int .i64 0, .int .i64 0, .int .i64 0, .int .i64 0, .int .u8 0, .int .u8 0, .int .u8 0, .int .u8 0, .int .u8 0, .int .u8 0, .int .u8 0, .int .u8 0, .int .u8 0, .int .u8 0, .int .u8 0, .int .u8 0, .int .u8 0, .int .u8 0, .int .u8 0, .int .u8 0, .int .u8 0, .int .u8 0, .int .u8 0, .int .u8 0, .int .u8 0, .int .u8 0, .int .u8 0, .int .u8 0, .int .u8 0, .int .u8 0, .int .u8 0, .int .u8 0, .int .u8 0, .int .u8 0, .int .u8 0, .int .u8 0, .slice none 0 0, .string ⟨#[]⟩, .slice none 0 0], .int .i64 0, .string ⟨#[]⟩], []⟩ 8 (by kernel_rfl) (by kernel_rfl) (by kernel_rfl) (by kernel_rfl)) ?_
  intro W base args ds gs before hval0 hW hcnd _
  have hval : ∀ (j : Nat) t v, Try.f4.params[j]? = some t → args[j]? = some v → Value.okWide Try.prog W .any base t v := hval0
  have hW' := hW
  obtain ⟨p, q, hA0, hV, rfl, hfz, hnd⟩ := hW
  have hA : DataW.TrodAll enc Try.prog W 0 (fun _ => true) true Try.f4.params.toList args.toList ds p := hA0
  rw [Try.params4] at hA hval
  obtain ⟨v0, vs0, d0, ds0, p0, q0, hargs, rfl, rfl, h0, r0⟩ := trodAll_cons hA
  obtain ⟨v1, vs1, d1, ds1, p1, q1, rfl, rfl, rfl, h1, r1⟩ := trodAll_cons r0
  obtain ⟨v2, vs2, d2, ds2, p2, q2, rfl, rfl, rfl, h2, r2⟩ := trodAll_cons r1
  obtain ⟨rfl, rfl, rfl⟩ := trodAll_nil r2
  obtain rfl : args = #[v0, v1, v2] := by cases args; simp_all
  obtain ⟨rfl, rfl⟩ := trodVars_none hV
  have k0 := h0
  have lt0 : ∀ x ∈ p0, x.block < W.heap.size := by obtain ⟨m, hm⟩ := k0; exact DataW.trod_lt m _ _ _ hm
  obtain ⟨fuel0, hf0⟩ := h0
  obtain ⟨x0, rfl, ok0, at0⟩ := open_msg (hval 0 37 v0 rfl rfl) hf0
  have k1 := h1
  have lt1 : ∀ x ∈ p1, x.block < W.heap.size := by obtain ⟨m, hm⟩ := k1; exact DataW.trod_lt m _ _ _ hm
  obtain ⟨a1, rfl, rfl, rfl, w1⟩ := open_int Try.underlying3 (hval 1 3 v1 rfl rfl) h1
  have k2 := h2
  have lt2 : ∀ x ∈ p2, x.block < W.heap.size := by obtain ⟨m, hm⟩ := k2; exact DataW.trod_lt m _ _ _ hm
  obtain ⟨s2, rfl, rfl, rfl, hs2⟩ := open_string Try.underlying9 (hval 2 9 v2 rfl rfl) h2
  clear hA0 hval0
  refine (begins_walk x0 a1 s2 W ok0 at0).mono fun e W' ⟨he, bel⟩ => ?_
  subst he
  exact ⟨_, rfl, _, _, _, [], _, [], hW', trodAll_mk1 (shut_bool Try.underlying4 _), (trodAll_cons_mk (Below.trod laidOut (by kernel_rfl) (of_decide_eq_true (by kernel_rfl)) k0 bel lt0) (trodAll_cons_mk (Below.trod laidOut (by kernel_rfl) (of_decide_eq_true (by kernel_rfl)) k1 bel lt1) (trodAll_cons_mk (Below.trod laidOut (by kernel_rfl) (of_decide_eq_true (by kernel_rfl)) k2 bel lt2) trodAll_mk0))), rfl, bel.frame _, fun h => by cases h⟩
theorem over : Rows.messageBeginsRow.holds Try.pinned (OpenSpec.ofChange Rows.messageBeginsSpec) :=
  OpenClaim.holds_of_wide 4 Try.f4 rfl rfl rfl rfl rfl rfl rfl ⟨rfl, rfl, rfl, rfl, rfl⟩ rfl rfl rfl rfl rfl (by kernel_rfl) Try.func4 (by kernel_rfl)
    (of_decide_eq_true (by kernel_rfl)) (by unfold Func.isWrapper; first | (rw [if_pos (by decide +kernel)]; kernel_rfl) | (rw [if_neg (by decide +kernel)]; exact ⟨rfl, rfl⟩))
    (fun os started H enc _ => lifted os started H enc)
end Go.Proofs.Ytahdmajppnffeaa.messageBegins
namespace Go.Proofs.Ytahdmajppnffeaa
theorem messageBegins_holds : Rows.MessageBeginsSaid := messageBegins.over
#print axioms messageBegins_holds
end Go.Proofs.Ytahdmajppnffeaa
