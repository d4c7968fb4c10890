/- MessageBack: a message that may be comes back from its bytes; what is read, encoded, is the same bytes -/
import Derived.Test.YtahdmajppnffeaaJM22
import Derived.Test.YtahdmajppnffeaaJM14
import Derived.Test.YtahdmajppnffeaaJM21
import Derived.WalkKit
namespace Go.Proofs.Ytahdmajppnffeaa
open Go.RowKit
open Sha Tal
set_option linter.unusedVariables false
set_option linter.unusedSimpArgs false
theorem ex_box {P : Program} {o : Oper} {a : Act} {w : World} {t : TypeId} {x : Operand} {u : Array Value} (ho : o.op = .box t x) (hx : a.eval x = .agg u) : (execOp a.eval o).run P w = .ok (.value (.pointer (some ⟨w.heap.size, 0, none⟩))) (w.alloc (.cells u t)) := by
  unfold execOp
  simp [ho, hx, Instr.box, newVar, newRow, Value.cells]
set_option maxRecDepth 100000 in
set_option maxHeartbeats 1000000 in
theorem back_walk (m : Mg) (sb : ByteArray) (w : World) (om : m.ok) (am : m.At w) : Calls Try.prog 3 #[.agg m.ms.cells.toArray, .string sb] w fun en w' => en = .returned (.bool true) ∧ Below w.heap.size w w' := by
  obtain ⟨zc, hzl, hzr⟩ : ∃ z : List Value, z.length = 119 ∧ ∀ w : World, (zeroValue 37).run Try.prog w = .ok (.agg z.toArray) w := ⟨_, Mg.none_ok.ms.len, zeroM⟩
  have cLm := fun w0 (h0 : Below w.heap.size w w0) => light13_any m w0 om (am.below h0)
  have cEm := fun (hl : m.light) w0 (h0 : Below w.heap.size w w0) => enc_any m w0 om (am.below h0) (fun hg => fine_of om am hg hl)
  have cSm := fun (x : Mg) w0 (h0 : Below w.heap.size w w0) (ox : x.ok) (ax : x.At w0) => xsame_any x m w0 ox om ax (am.below h0)
  have hdm : m.good = true → decS m.bytes = (m.pure, 0) ∧ Bs m.bytes := fun hg => by
    have hp := good_pure om am hg
    have hk : 1 ≤ m.k ∧ m.k ≤ 8 := by
      rcases hp with h | h | h | h | h | h | h | h <;> (have h1 : m.k = _ := h.1; omega)
    rw [bytes_pure m hk]
    exact ⟨dec_back hp, Mp.bytes_bs hp⟩
  have hfm : m.good = true → m.light → m.bytes.length ≤ 40000 := fun hg hl => (fine_of om am hg hl).all
  have ql1 := om.ms.len
  have qo1 := om.ms.one
  have qi1 : (Try.prog.info? 37).map (·.size) = some m.ms.cells.length := by rw [ql1]; exact iszM
  obtain ⟨q, hq1⟩ : ∃ q, Hid (m.ms.cells = q) := ⟨_, hide rfl⟩
  simp only [hq1.out] at ql1 qo1 qi1 cLm cEm cSm ⊢
  obtain ⟨hB1, r1, hs1⟩ := boxed_new w q 37
  go_enter Try.func3, Try.ntmps3
  go_upto_region 0 with fail
  try simp only [Act.put]
  refine pl_begin ?_
  refine pl_run (d := some 2) (v := .pointer (some ⟨w.heap.size, 0, none⟩)) (w' := w.alloc (.cells q.toArray 37)) (by rfl) (ex_box rfl rfl) rfl ?_
  simp only [Act.put, List.setIfInBounds_toArray, List.set_cons_zero, List.set_cons_succ]
  refine pl_take (d := some 4) (v := ?_) (by rfl) ?_ rfl ?_
  rotate_left
  · go_simp
    try with_reducible rfl
  simp only [Act.put, List.setIfInBounds_toArray, List.set_cons_zero, List.set_cons_succ]
  refine pl_nil ?_
  obtain ⟨w1, hw1⟩ : ∃ W, w.alloc (.cells q.toArray 37) = W := ⟨_, rfl⟩
  rw [hw1] at hB1 r1 hs1 ⊢
  clear hw1
  have cL := cLm w1 hB1
  go_upto_region 1 with fail
  try simp only [Act.put]
  refine pl_begin ?_
  refine pl_take (d := some 13) (v := .agg q.toArray) (by rfl) (ex_mid rfl rfl r1 Try.underlying37 rfl qi1) rfl ?_
  simp only [Act.put, List.setIfInBounds_toArray, List.set_cons_zero, List.set_cons_succ]
  refine pl_call (d := some 14) (by rfl) (by go_simp; first | done | exact ⟨rfl, rfl⟩ | with_reducible rfl) rfl ?_
  refine (cL).mono ?_
  rintro _ w2 hLS
  obtain ⟨b, rfl, hb2, hlt⟩ := hLS
  refine ⟨_, rfl, ?_⟩
  simp only [Act.put, List.setIfInBounds_toArray, List.set_cons_zero, List.set_cons_succ]
  have B2 := hB1.trans (hb2.mono hB1.size)
  have r2' := range_below r1 hb2 hs1
  have z1 := hb2.size
  have hs2' : w.heap.size < w2.heap.size := by omega
  clear cL hb2
  cases b
  · refine pl_take (d := some 15) (v := ?_) (by rfl) ?_ rfl ?_
    rotate_left
    · go_simp
      try with_reducible rfl
    simp only [Act.put, List.setIfInBounds_toArray, List.set_cons_zero, List.set_cons_succ]
    refine pl_take (d := some 16) (v := ?_) (by rfl) ?_ rfl ?_
    rotate_left
    · go_simp
      try with_reducible rfl
    simp only [Act.put, List.setIfInBounds_toArray, List.set_cons_zero, List.set_cons_succ]
    refine pl_skip (d := some 17) (by rfl) rfl ?_
    simp only [Act.put, List.setIfInBounds_toArray, List.set_cons_zero, List.set_cons_succ]
    refine pl_skip (d := some 18) (by rfl) rfl ?_
    simp only [Act.put, List.setIfInBounds_toArray, List.set_cons_zero, List.set_cons_succ]
    refine pl_skip (d := some 19) (by rfl) rfl ?_
    simp only [Act.put, List.setIfInBounds_toArray, List.set_cons_zero, List.set_cons_succ]
    refine pl_take (d := some 20) (v := ?_) (by rfl) ?_ rfl ?_
    rotate_left
    · go_simp
      try with_reducible rfl
    simp only [Act.put, List.setIfInBounds_toArray, List.set_cons_zero, List.set_cons_succ]
    refine pl_nil ?_
    clear hlt
    go_upto_region 2 with fail
    try simp only [Act.put]
    refine pl_begin ?_
    refine pl_call (d := some 21) (by rfl) (by go_simp; first | done | exact ⟨rfl, rfl⟩ | with_reducible rfl) rfl ?_
    refine (lives13_any w2).mono ?_
    rintro _ w3 ⟨rfl, hb3⟩
    refine ⟨_, rfl, ?_⟩
    simp only [Act.put, List.setIfInBounds_toArray, List.set_cons_zero, List.set_cons_succ]
    refine pl_take (d := some 4) (v := ?_) (by rfl) ?_ rfl ?_
    rotate_left
    · go_simp
      try with_reducible rfl
    simp only [Act.put, List.setIfInBounds_toArray, List.set_cons_zero, List.set_cons_succ]
    refine pl_nil ?_
    have HB := hide (B2.trans (hb3.mono B2.size))
    clear B2 hb3
    go_wp2_with fail
    go_ret
    exact ⟨rfl, HB.out⟩
  · refine pl_take (d := some 15) (v := ?_) (by rfl) ?_ rfl ?_
    rotate_left
    · go_simp
      try with_reducible rfl
    simp only [Act.put, List.setIfInBounds_toArray, List.set_cons_zero, List.set_cons_succ]
    refine pl_take (d := some 16) (v := ?_) (by rfl) ?_ rfl ?_
    rotate_left
    · go_simp
      try with_reducible rfl
    simp only [Act.put, List.setIfInBounds_toArray, List.set_cons_zero, List.set_cons_succ]
    refine pl_take (d := some 17) (v := ?_) (by rfl) ?_ rfl ?_
    rotate_left
    · go_simp
      try with_reducible rfl
    simp only [Act.put, List.setIfInBounds_toArray, List.set_cons_zero, List.set_cons_succ]
    refine pl_take (d := some 18) (v := ?_) (by rfl) ?_ rfl ?_
    rotate_left
    · go_simp
      try with_reducible rfl
    simp only [Act.put, List.setIfInBounds_toArray, List.set_cons_zero, List.set_cons_succ]
    by_cases hs : (sb.size : Int) > 20000
    · refine pl_take (d := some 19) (v := .bool true) (by rfl) (by go_simp <;> (try simp) <;> (try omega)) rfl ?_
      simp only [Act.put, List.setIfInBounds_toArray, List.set_cons_zero, List.set_cons_succ]
      refine pl_take (d := some 20) (v := ?_) (by rfl) ?_ rfl ?_
      rotate_left
      · go_simp
        try with_reducible rfl
      simp only [Act.put, List.setIfInBounds_toArray, List.set_cons_zero, List.set_cons_succ]
      refine pl_nil ?_
      go_upto_region 2 with fail
      try simp only [Act.put]
      refine pl_begin ?_
      refine pl_call (d := some 21) (by rfl) (by go_simp; first | done | exact ⟨rfl, rfl⟩ | with_reducible rfl) rfl ?_
      refine (lives13_any w2).mono ?_
      rintro _ w3 ⟨rfl, hb3⟩
      refine ⟨_, rfl, ?_⟩
      simp only [Act.put, List.setIfInBounds_toArray, List.set_cons_zero, List.set_cons_succ]
      refine pl_take (d := some 4) (v := ?_) (by rfl) ?_ rfl ?_
      rotate_left
      · go_simp
        try with_reducible rfl
      simp only [Act.put, List.setIfInBounds_toArray, List.set_cons_zero, List.set_cons_succ]
      refine pl_nil ?_
      have HB := hide (B2.trans (hb3.mono B2.size))
      clear B2 hb3
      go_wp2_with fail
      go_ret
      exact ⟨rfl, HB.out⟩
    · refine pl_take (d := some 19) (v := .bool false) (by rfl) (by go_simp <;> (try simp) <;> (try omega)) rfl ?_
      simp only [Act.put, List.setIfInBounds_toArray, List.set_cons_zero, List.set_cons_succ]
      refine pl_take (d := some 20) (v := ?_) (by rfl) ?_ rfl ?_
      rotate_left
      · go_simp
        try with_reducible rfl
      simp only [Act.put, List.setIfInBounds_toArray, List.set_cons_zero, List.set_cons_succ]
      refine pl_nil ?_
      have hlt := hlt rfl
      have cE := cEm hlt w2 B2
      have cd := fun w0 => decode_any sb (by omega) w0
      obtain ⟨ds, hds⟩ : ∃ d, Hid (decS (strL sb) = d) := ⟨_, hide rfl⟩
      simp only [hds.out] at cd
      obtain ⟨mp, fs⟩ := ds
      simp only at cd
      go_upto_region 3 with fail
      cases hgd : m.good
      · rw [hgd] at cE
        unfold encV at cE
        rw [if_neg (by decide)] at cE
        try simp only [Act.put]
        refine pl_begin ?_
        refine pl_take (d := some 23) (v := .agg q.toArray) (by rfl) (ex_mid rfl rfl r2' Try.underlying37 rfl qi1) rfl ?_
        simp only [Act.put, List.setIfInBounds_toArray, List.set_cons_zero, List.set_cons_succ]
        refine pl_call (d := some 24) (by rfl) (by go_simp; first | done | exact ⟨rfl, rfl⟩ | with_reducible rfl) rfl ?_
        refine (cE).mono ?_
        rintro _ w3 ⟨rfl, hb3⟩
        refine ⟨_, rfl, ?_⟩
        simp only [Act.put, List.setIfInBounds_toArray, List.set_cons_zero, List.set_cons_succ]
        refine pl_take (d := some 22) (v := ?_) (by rfl) ?_ rfl ?_
        rotate_left
        · go_simp
          try with_reducible rfl
        simp only [Act.put, List.setIfInBounds_toArray, List.set_cons_zero, List.set_cons_succ]
        refine pl_take (d := some 25) (v := ?_) (by rfl) ?_ rfl ?_
        rotate_left
        · go_simp
          try with_reducible rfl
        simp only [Act.put, List.setIfInBounds_toArray, List.set_cons_zero, List.set_cons_succ]
        refine pl_take (d := some 26) (v := ?_) (by rfl) ?_ rfl ?_
        rotate_left
        · go_simp
          try with_reducible rfl
        simp only [Act.put, List.setIfInBounds_toArray, List.set_cons_zero, List.set_cons_succ]
        refine pl_take (d := some 5) (v := ?_) (by rfl) ?_ rfl ?_
        rotate_left
        · go_simp
          try with_reducible rfl
        simp only [Act.put, List.setIfInBounds_toArray, List.set_cons_zero, List.set_cons_succ]
        refine pl_take (d := some 6) (v := ?_) (by rfl) ?_ rfl ?_
        rotate_left
        · go_simp
          try with_reducible rfl
        simp only [Act.put, List.setIfInBounds_toArray, List.set_cons_zero, List.set_cons_succ]
        refine pl_nil ?_
        have B3 := B2.trans (hb3.mono B2.size)
        clear cE B2 hb3 r1 r2'
        go_upto_region 8 with fail
        try simp only [Act.put]
        refine pl_begin ?_
        refine pl_take (d := some 43) (v := ?_) (by rfl) ?_ rfl ?_
        rotate_left
        · go_simp
          try with_reducible rfl
        simp only [Act.put, List.setIfInBounds_toArray, List.set_cons_zero, List.set_cons_succ]
        refine pl_call (d := some 44) (by rfl) (by go_simp; first | done | exact ⟨rfl, rfl⟩ | with_reducible rfl) rfl ?_
        refine (cd w3).mono ?_
        rintro _ w6 ⟨y, rfl, hp2, hmo2, hA2, hB2, hb2⟩
        have ql2 := hmo2.ms.len
        have qo2 := hmo2.ms.one
        have qi2 : (Try.prog.info? 37).map (·.size) = some y.ms.cells.length := by rw [ql2]; exact iszM
        obtain ⟨p, hq2⟩ : ∃ q, Hid (y.ms.cells = q) := ⟨_, hide rfl⟩
        simp only [hq2.out] at ql2 qo2 qi2 ⊢
        refine ⟨_, rfl, ?_⟩
        simp only [Act.put, List.setIfInBounds_toArray, List.set_cons_zero, List.set_cons_succ]
        refine pl_take (d := some 42) (v := ?_) (by rfl) ?_ rfl ?_
        rotate_left
        · go_simp
          try with_reducible rfl
        simp only [Act.put, List.setIfInBounds_toArray, List.set_cons_zero, List.set_cons_succ]
        refine pl_take (d := some 45) (v := ?_) (by rfl) ?_ rfl ?_
        rotate_left
        · go_simp
          try with_reducible rfl
        simp only [Act.put, List.setIfInBounds_toArray, List.set_cons_zero, List.set_cons_succ]
        refine pl_take (d := some 46) (v := ?_) (by rfl) ?_ rfl ?_
        rotate_left
        · go_simp
          try with_reducible rfl
        simp only [Act.put, List.setIfInBounds_toArray, List.set_cons_zero, List.set_cons_succ]
        refine pl_run (d := some 9) (v := .pointer (some ⟨w6.heap.size, 0, none⟩)) (w' := w6.alloc (.cells zc.toArray 37)) (by rfl) (ex_alloc rfl (hzr _)) rfl ?_
        simp only [Act.put, List.setIfInBounds_toArray, List.set_cons_zero, List.set_cons_succ]
        refine pl_store (w' := (w6.alloc (.cells zc.toArray 37)).setCells w6.heap.size 0 p) (by rfl) (ex_put (cs := p.toArray) rfl rfl rfl (there_newN _ _ _ (by simp [hzl, ql2])) (by simpa using qi2) (all_one qo2)) rfl ?_
        refine pl_take (d := some 10) (v := ?_) (by rfl) ?_ rfl ?_
        rotate_left
        · go_simp
          try with_reducible rfl
        simp only [Act.put, List.setIfInBounds_toArray, List.set_cons_zero, List.set_cons_succ]
        refine pl_nil ?_
        obtain ⟨r2, hF2, hz2, -⟩ := fresh_store w6 zc.toArray 37 p (by simp [hzl, ql2])
        obtain ⟨w7, hw7⟩ : ∃ W, (w6.alloc (.cells zc.toArray 37)).setCells w6.heap.size 0 p = W := ⟨_, rfl⟩
        rw [hw7] at r2 hF2 hz2 ⊢
        clear hw7
        have B7 := (B3.trans (hb2.mono B3.size)).trans (hF2.mono (Nat.le_trans B3.size hb2.size))
        have hA7 := hA2.below hF2
        have hs2 : w6.heap.size < w7.heap.size := by omega
        clear hb2 hB2 hA2 hF2 B3
        by_cases hf : fs = 0
        · have hfo := dec_form (strL_byte sb) (show (decS (strL sb)).2 = 0 by rw [hds.out]; exact hf)
          rw [hds.out] at hfo
          simp only at hfo
          have hyg : y.pure.good := by rw [hp2]; exact hfo.1
          have hyk : 1 ≤ y.k ∧ y.k ≤ 8 := by
            rcases hyg with h | h | h | h | h | h | h | h <;> (have h1 : y.k = _ := h.1; omega)
          have hyb : y.bytes = strL sb := by rw [bytes_pure y hyk, hp2]; exact hfo.2.symm
          have cE := enc_any y w7 hmo2 hA7 (fun _ => fine_pure hyg (by rw [hyb, strL_length]; omega))
          have cG := fun w0 (h0 : Below w7.heap.size w7 w0) => good_any y w0 hmo2 (hA7.below h0)
          rw [pure_good hyg] at cE
          simp only [pure_good hyg] at cG
          rw [hyb] at cE
          unfold encV at cE
          rw [if_pos rfl, strOf_strL, hq2.out] at cE
          simp only [hq2.out] at cG
          subst hf
          clear hfo hyg hyk hyb hA7 hp2 hmo2 hq2
          go_upto_region 10 with fail
          try simp only [Act.put]
          refine pl_begin ?_
          refine pl_take (d := some 50) (v := .agg p.toArray) (by rfl) (ex_mid rfl rfl r2 Try.underlying37 rfl qi2) rfl ?_
          simp only [Act.put, List.setIfInBounds_toArray, List.set_cons_zero, List.set_cons_succ]
          refine pl_call (d := some 51) (by rfl) (by go_simp; first | done | exact ⟨rfl, rfl⟩ | with_reducible rfl) rfl ?_
          refine (cE).mono ?_
          rintro _ w8 ⟨rfl, hb8⟩
          refine ⟨_, rfl, ?_⟩
          simp only [Act.put, List.setIfInBounds_toArray, List.set_cons_zero, List.set_cons_succ]
          refine pl_take (d := some 49) (v := ?_) (by rfl) ?_ rfl ?_
          rotate_left
          · go_simp
            try with_reducible rfl
          simp only [Act.put, List.setIfInBounds_toArray, List.set_cons_zero, List.set_cons_succ]
          refine pl_take (d := some 52) (v := ?_) (by rfl) ?_ rfl ?_
          rotate_left
          · go_simp
            try with_reducible rfl
          simp only [Act.put, List.setIfInBounds_toArray, List.set_cons_zero, List.set_cons_succ]
          refine pl_take (d := some 53) (v := ?_) (by rfl) ?_ rfl ?_
          rotate_left
          · go_simp
            try with_reducible rfl
          simp only [Act.put, List.setIfInBounds_toArray, List.set_cons_zero, List.set_cons_succ]
          refine pl_take (d := some 11) (v := ?_) (by rfl) ?_ rfl ?_
          rotate_left
          · go_simp
            try with_reducible rfl
          simp only [Act.put, List.setIfInBounds_toArray, List.set_cons_zero, List.set_cons_succ]
          refine pl_take (d := some 12) (v := ?_) (by rfl) ?_ rfl ?_
          rotate_left
          · go_simp
            try with_reducible rfl
          simp only [Act.put, List.setIfInBounds_toArray, List.set_cons_zero, List.set_cons_succ]
          refine pl_nil ?_
          have r8 := range_below r2 hb8 hs2
          have cG := cG w8 hb8
          have B8 := B7.trans (hb8.mono B7.size)
          clear cE B7 hb8
          go_upto_region 11 with fail
          try simp only [Act.put]
          refine pl_begin ?_
          refine pl_take (d := some 54) (v := ?_) (by rfl) ?_ rfl ?_
          rotate_left
          · go_simp
            try with_reducible rfl
          simp only [Act.put, List.setIfInBounds_toArray, List.set_cons_zero, List.set_cons_succ]
          refine pl_take (d := some 55) (v := .bool false) (by rfl) (by go_simp) rfl ?_
          simp only [Act.put, List.setIfInBounds_toArray, List.set_cons_zero, List.set_cons_succ]
          refine pl_take (d := some 56) (v := ?_) (by rfl) ?_ rfl ?_
          rotate_left
          · go_simp
            try with_reducible rfl
          simp only [Act.put, List.setIfInBounds_toArray, List.set_cons_zero, List.set_cons_succ]
          refine pl_take (d := some 57) (v := ?_) (by rfl) ?_ rfl ?_
          rotate_left
          · go_simp
            try with_reducible rfl
          simp only [Act.put, List.setIfInBounds_toArray, List.set_cons_zero, List.set_cons_succ]
          refine pl_take (d := some 58) (v := ?_) (by rfl) ?_ rfl ?_
          rotate_left
          · go_simp
            try with_reducible rfl
          simp only [Act.put, List.setIfInBounds_toArray, List.set_cons_zero, List.set_cons_succ]
          refine pl_take (d := some 59) (v := .bool false) (by rfl) (by go_simp <;> (try simp)) rfl ?_
          simp only [Act.put, List.setIfInBounds_toArray, List.set_cons_zero, List.set_cons_succ]
          refine pl_take (d := some 60) (v := ?_) (by rfl) ?_ rfl ?_
          rotate_left
          · go_simp
            try with_reducible rfl
          simp only [Act.put, List.setIfInBounds_toArray, List.set_cons_zero, List.set_cons_succ]
          refine pl_take (d := some 61) (v := ?_) (by rfl) ?_ rfl ?_
          rotate_left
          · go_simp
            try with_reducible rfl
          simp only [Act.put, List.setIfInBounds_toArray, List.set_cons_zero, List.set_cons_succ]
          refine pl_take (d := some 62) (v := .agg p.toArray) (by rfl) (ex_mid rfl rfl r8 Try.underlying37 rfl qi2) rfl ?_
          simp only [Act.put, List.setIfInBounds_toArray, List.set_cons_zero, List.set_cons_succ]
          refine pl_call (d := some 63) (by rfl) (by go_simp; first | done | exact ⟨rfl, rfl⟩ | with_reducible rfl) rfl ?_
          refine (cG).mono ?_
          rintro _ w9 ⟨rfl, hb9⟩
          refine ⟨_, rfl, ?_⟩
          simp only [Act.put, List.setIfInBounds_toArray, List.set_cons_zero, List.set_cons_succ]
          refine pl_take (d := some 64) (v := ?_) (by rfl) ?_ rfl ?_
          rotate_left
          · go_simp
            try with_reducible rfl
          simp only [Act.put, List.setIfInBounds_toArray, List.set_cons_zero, List.set_cons_succ]
          refine pl_take (d := some 65) (v := ?_) (by rfl) ?_ rfl ?_
          rotate_left
          · go_simp
            try with_reducible rfl
          simp only [Act.put, List.setIfInBounds_toArray, List.set_cons_zero, List.set_cons_succ]
          refine pl_nil ?_
          have B9 := B8.trans (hb9.mono B8.size)
          clear cG B8 hb9 r8
          go_upto_region 13 with fail
          try simp only [Act.put]
          refine pl_begin ?_
          refine pl_call (d := some 66) (by rfl) (by go_simp; first | done | exact ⟨rfl, rfl⟩ | with_reducible rfl) rfl ?_
          refine (lives13_any w9).mono ?_
          rintro _ wz ⟨rfl, hbz⟩
          refine ⟨_, rfl, ?_⟩
          simp only [Act.put, List.setIfInBounds_toArray, List.set_cons_zero, List.set_cons_succ]
          refine pl_take (d := some 4) (v := ?_) (by rfl) ?_ rfl ?_
          rotate_left
          · go_simp
            try with_reducible rfl
          simp only [Act.put, List.setIfInBounds_toArray, List.set_cons_zero, List.set_cons_succ]
          refine pl_nil ?_
          have HB := hide (B9.trans (hbz.mono B9.size))
          clear B9 hbz
          go_wp2_with fail
          go_ret
          exact ⟨rfl, HB.out⟩
        · have hfb : (fs == 0) = false := by simpa using hf
          clear hA7 hp2 hmo2 hq2
          go_upto_region 13 with fail
          try simp only [Act.put]
          refine pl_begin ?_
          refine pl_call (d := some 66) (by rfl) (by go_simp; first | done | exact ⟨rfl, rfl⟩ | with_reducible rfl) rfl ?_
          refine (lives13_any w7).mono ?_
          rintro _ wz ⟨rfl, hbz⟩
          refine ⟨_, rfl, ?_⟩
          simp only [Act.put, List.setIfInBounds_toArray, List.set_cons_zero, List.set_cons_succ]
          refine pl_take (d := some 4) (v := ?_) (by rfl) ?_ rfl ?_
          rotate_left
          · go_simp
            try with_reducible rfl
          simp only [Act.put, List.setIfInBounds_toArray, List.set_cons_zero, List.set_cons_succ]
          refine pl_nil ?_
          have HB := hide (B7.trans (hbz.mono B7.size))
          clear B7 hbz
          go_wp2_with fail
          go_ret
          exact ⟨rfl, HB.out⟩
      · have hdm := hdm hgd
        have hfm := hfm hgd hlt
        have hsz : (strOf m.bytes).size ≤ 40000 := by rw [strOf_size]; exact hfm
        have cd1 := fun w0 => decode_any (strOf m.bytes) hsz w0
        rw [strL_strOf hdm.2, hdm.1] at cd1
        simp only at cd1
        rw [hgd] at cE
        unfold encV at cE
        rw [if_pos rfl] at cE
        try simp only [Act.put]
        refine pl_begin ?_
        refine pl_take (d := some 23) (v := .agg q.toArray) (by rfl) (ex_mid rfl rfl r2' Try.underlying37 rfl qi1) rfl ?_
        simp only [Act.put, List.setIfInBounds_toArray, List.set_cons_zero, List.set_cons_succ]
        refine pl_call (d := some 24) (by rfl) (by go_simp; first | done | exact ⟨rfl, rfl⟩ | with_reducible rfl) rfl ?_
        refine (cE).mono ?_
        rintro _ w3 ⟨rfl, hb3⟩
        refine ⟨_, rfl, ?_⟩
        simp only [Act.put, List.setIfInBounds_toArray, List.set_cons_zero, List.set_cons_succ]
        refine pl_take (d := some 22) (v := ?_) (by rfl) ?_ rfl ?_
        rotate_left
        · go_simp
          try with_reducible rfl
        simp only [Act.put, List.setIfInBounds_toArray, List.set_cons_zero, List.set_cons_succ]
        refine pl_take (d := some 25) (v := ?_) (by rfl) ?_ rfl ?_
        rotate_left
        · go_simp
          try with_reducible rfl
        simp only [Act.put, List.setIfInBounds_toArray, List.set_cons_zero, List.set_cons_succ]
        refine pl_take (d := some 26) (v := ?_) (by rfl) ?_ rfl ?_
        rotate_left
        · go_simp
          try with_reducible rfl
        simp only [Act.put, List.setIfInBounds_toArray, List.set_cons_zero, List.set_cons_succ]
        refine pl_take (d := some 5) (v := ?_) (by rfl) ?_ rfl ?_
        rotate_left
        · go_simp
          try with_reducible rfl
        simp only [Act.put, List.setIfInBounds_toArray, List.set_cons_zero, List.set_cons_succ]
        refine pl_take (d := some 6) (v := ?_) (by rfl) ?_ rfl ?_
        rotate_left
        · go_simp
          try with_reducible rfl
        simp only [Act.put, List.setIfInBounds_toArray, List.set_cons_zero, List.set_cons_succ]
        refine pl_nil ?_
        have B3 := B2.trans (hb3.mono B2.size)
        have r3' := range_below r2' hb3 hs2'
        have z3 := hb3.size
        clear cE B2 hb3 r1 r2'
        go_upto_region 5 with fail
        try simp only [Act.put]
        refine pl_begin ?_
        refine pl_take (d := some 30) (v := ?_) (by rfl) ?_ rfl ?_
        rotate_left
        · go_simp
          try with_reducible rfl
        simp only [Act.put, List.setIfInBounds_toArray, List.set_cons_zero, List.set_cons_succ]
        refine pl_call (d := some 31) (by rfl) (by go_simp; first | done | exact ⟨rfl, rfl⟩ | with_reducible rfl) rfl ?_
        refine (cd1 w3).mono ?_
        rintro _ w4 ⟨x, rfl, hp3, hmo3, hA3, hB3, hb3⟩
        have ql3 := hmo3.ms.len
        have qo3 := hmo3.ms.one
        have qi3 : (Try.prog.info? 37).map (·.size) = some x.ms.cells.length := by rw [ql3]; exact iszM
        obtain ⟨u, hq3⟩ : ∃ q, Hid (x.ms.cells = q) := ⟨_, hide rfl⟩
        simp only [hq3.out] at ql3 qo3 qi3 ⊢
        refine ⟨_, rfl, ?_⟩
        simp only [Act.put, List.setIfInBounds_toArray, List.set_cons_zero, List.set_cons_succ]
        refine pl_take (d := some 29) (v := ?_) (by rfl) ?_ rfl ?_
        rotate_left
        · go_simp
          try with_reducible rfl
        simp only [Act.put, List.setIfInBounds_toArray, List.set_cons_zero, List.set_cons_succ]
        refine pl_take (d := some 32) (v := ?_) (by rfl) ?_ rfl ?_
        rotate_left
        · go_simp
          try with_reducible rfl
        simp only [Act.put, List.setIfInBounds_toArray, List.set_cons_zero, List.set_cons_succ]
        refine pl_take (d := some 33) (v := ?_) (by rfl) ?_ rfl ?_
        rotate_left
        · go_simp
          try with_reducible rfl
        simp only [Act.put, List.setIfInBounds_toArray, List.set_cons_zero, List.set_cons_succ]
        refine pl_run (d := some 7) (v := .pointer (some ⟨w4.heap.size, 0, none⟩)) (w' := w4.alloc (.cells zc.toArray 37)) (by rfl) (ex_alloc rfl (hzr _)) rfl ?_
        simp only [Act.put, List.setIfInBounds_toArray, List.set_cons_zero, List.set_cons_succ]
        refine pl_store (w' := (w4.alloc (.cells zc.toArray 37)).setCells w4.heap.size 0 u) (by rfl) (ex_put (cs := u.toArray) rfl rfl rfl (there_newN _ _ _ (by simp [hzl, ql3])) (by simpa using qi3) (all_one qo3)) rfl ?_
        refine pl_take (d := some 8) (v := ?_) (by rfl) ?_ rfl ?_
        rotate_left
        · go_simp
          try with_reducible rfl
        simp only [Act.put, List.setIfInBounds_toArray, List.set_cons_zero, List.set_cons_succ]
        refine pl_nil ?_
        obtain ⟨r3, hF3, hz3, -⟩ := fresh_store w4 zc.toArray 37 u (by simp [hzl, ql3])
        obtain ⟨w5, hw5⟩ : ∃ W, (w4.alloc (.cells zc.toArray 37)).setCells w4.heap.size 0 u = W := ⟨_, rfl⟩
        rw [hw5] at r3 hF3 hz3 ⊢
        clear hw5
        have z4 := hb3.size
        have r5 := range_below (range_below r3' hb3 (by omega)) hF3 (by omega)
        have B5 := (B3.trans (hb3.mono B3.size)).trans (hF3.mono (Nat.le_trans B3.size hb3.size))
        have cS := cSm x w5 B5 hmo3 (hA3.below hF3)
        rw [Mg.B_eqv x m hp3, hq3.out] at cS
        clear hF3 hb3 hA3 hB3 hp3 hmo3 hq3 cd1 B3 r3'
        go_upto_region 6 with fail
        try simp only [Act.put]
        refine pl_begin ?_
        refine pl_take (d := some 34) (v := ?_) (by rfl) ?_ rfl ?_
        rotate_left
        · go_simp
          try with_reducible rfl
        simp only [Act.put, List.setIfInBounds_toArray, List.set_cons_zero, List.set_cons_succ]
        refine pl_take (d := some 35) (v := .bool false) (by rfl) (by go_simp) rfl ?_
        simp only [Act.put, List.setIfInBounds_toArray, List.set_cons_zero, List.set_cons_succ]
        refine pl_take (d := some 36) (v := ?_) (by rfl) ?_ rfl ?_
        rotate_left
        · go_simp
          try with_reducible rfl
        simp only [Act.put, List.setIfInBounds_toArray, List.set_cons_zero, List.set_cons_succ]
        refine pl_take (d := some 37) (v := .agg u.toArray) (by rfl) (ex_mid rfl rfl r3 Try.underlying37 rfl qi3) rfl ?_
        simp only [Act.put, List.setIfInBounds_toArray, List.set_cons_zero, List.set_cons_succ]
        refine pl_take (d := some 38) (v := .agg q.toArray) (by rfl) (ex_mid rfl rfl r5 Try.underlying37 rfl qi1) rfl ?_
        simp only [Act.put, List.setIfInBounds_toArray, List.set_cons_zero, List.set_cons_succ]
        refine pl_call (d := some 39) (by rfl) (by go_simp; first | done | exact ⟨rfl, rfl⟩ | with_reducible rfl) rfl ?_
        refine (cS).mono ?_
        rintro _ wa ⟨rfl, hba⟩
        refine ⟨_, rfl, ?_⟩
        simp only [Act.put, List.setIfInBounds_toArray, List.set_cons_zero, List.set_cons_succ]
        refine pl_take (d := some 40) (v := ?_) (by rfl) ?_ rfl ?_
        rotate_left
        · go_simp
          try with_reducible rfl
        simp only [Act.put, List.setIfInBounds_toArray, List.set_cons_zero, List.set_cons_succ]
        refine pl_take (d := some 41) (v := ?_) (by rfl) ?_ rfl ?_
        rotate_left
        · go_simp
          try with_reducible rfl
        simp only [Act.put, List.setIfInBounds_toArray, List.set_cons_zero, List.set_cons_succ]
        refine pl_nil ?_
        have Ba := B5.trans (hba.mono B5.size)
        clear cS B5 hba r3 r5
        go_upto_region 8 with fail
        try simp only [Act.put]
        refine pl_begin ?_
        refine pl_take (d := some 43) (v := ?_) (by rfl) ?_ rfl ?_
        rotate_left
        · go_simp
          try with_reducible rfl
        simp only [Act.put, List.setIfInBounds_toArray, List.set_cons_zero, List.set_cons_succ]
        refine pl_call (d := some 44) (by rfl) (by go_simp; first | done | exact ⟨rfl, rfl⟩ | with_reducible rfl) rfl ?_
        refine (cd wa).mono ?_
        rintro _ w6 ⟨y, rfl, hp2, hmo2, hA2, hB2, hb2⟩
        have ql2 := hmo2.ms.len
        have qo2 := hmo2.ms.one
        have qi2 : (Try.prog.info? 37).map (·.size) = some y.ms.cells.length := by rw [ql2]; exact iszM
        obtain ⟨p, hq2⟩ : ∃ q, Hid (y.ms.cells = q) := ⟨_, hide rfl⟩
        simp only [hq2.out] at ql2 qo2 qi2 ⊢
        refine ⟨_, rfl, ?_⟩
        simp only [Act.put, List.setIfInBounds_toArray, List.set_cons_zero, List.set_cons_succ]
        refine pl_take (d := some 42) (v := ?_) (by rfl) ?_ rfl ?_
        rotate_left
        · go_simp
          try with_reducible rfl
        simp only [Act.put, List.setIfInBounds_toArray, List.set_cons_zero, List.set_cons_succ]
        refine pl_take (d := some 45) (v := ?_) (by rfl) ?_ rfl ?_
        rotate_left
        · go_simp
          try with_reducible rfl
        simp only [Act.put, List.setIfInBounds_toArray, List.set_cons_zero, List.set_cons_succ]
        refine pl_take (d := some 46) (v := ?_) (by rfl) ?_ rfl ?_
        rotate_left
        · go_simp
          try with_reducible rfl
        simp only [Act.put, List.setIfInBounds_toArray, List.set_cons_zero, List.set_cons_succ]
        refine pl_run (d := some 9) (v := .pointer (some ⟨w6.heap.size, 0, none⟩)) (w' := w6.alloc (.cells zc.toArray 37)) (by rfl) (ex_alloc rfl (hzr _)) rfl ?_
        simp only [Act.put, List.setIfInBounds_toArray, List.set_cons_zero, List.set_cons_succ]
        refine pl_store (w' := (w6.alloc (.cells zc.toArray 37)).setCells w6.heap.size 0 p) (by rfl) (ex_put (cs := p.toArray) rfl rfl rfl (there_newN _ _ _ (by simp [hzl, ql2])) (by simpa using qi2) (all_one qo2)) rfl ?_
        refine pl_take (d := some 10) (v := ?_) (by rfl) ?_ rfl ?_
        rotate_left
        · go_simp
          try with_reducible rfl
        simp only [Act.put, List.setIfInBounds_toArray, List.set_cons_zero, List.set_cons_succ]
        refine pl_nil ?_
        obtain ⟨r2, hF2, hz2, -⟩ := fresh_store w6 zc.toArray 37 p (by simp [hzl, ql2])
        obtain ⟨w7, hw7⟩ : ∃ W, (w6.alloc (.cells zc.toArray 37)).setCells w6.heap.size 0 p = W := ⟨_, rfl⟩
        rw [hw7] at r2 hF2 hz2 ⊢
        clear hw7
        have B7 := (Ba.trans (hb2.mono Ba.size)).trans (hF2.mono (Nat.le_trans Ba.size hb2.size))
        have hA7 := hA2.below hF2
        have hs2 : w6.heap.size < w7.heap.size := by omega
        clear hb2 hB2 hA2 hF2 Ba
        by_cases hf : fs = 0
        · have hfo := dec_form (strL_byte sb) (show (decS (strL sb)).2 = 0 by rw [hds.out]; exact hf)
          rw [hds.out] at hfo
          simp only at hfo
          have hyg : y.pure.good := by rw [hp2]; exact hfo.1
          have hyk : 1 ≤ y.k ∧ y.k ≤ 8 := by
            rcases hyg with h | h | h | h | h | h | h | h <;> (have h1 : y.k = _ := h.1; omega)
          have hyb : y.bytes = strL sb := by rw [bytes_pure y hyk, hp2]; exact hfo.2.symm
          have cE := enc_any y w7 hmo2 hA7 (fun _ => fine_pure hyg (by rw [hyb, strL_length]; omega))
          have cG := fun w0 (h0 : Below w7.heap.size w7 w0) => good_any y w0 hmo2 (hA7.below h0)
          rw [pure_good hyg] at cE
          simp only [pure_good hyg] at cG
          rw [hyb] at cE
          unfold encV at cE
          rw [if_pos rfl, strOf_strL, hq2.out] at cE
          simp only [hq2.out] at cG
          subst hf
          clear hfo hyg hyk hyb hA7 hp2 hmo2 hq2
          go_upto_region 10 with fail
          try simp only [Act.put]
          refine pl_begin ?_
          refine pl_take (d := some 50) (v := .agg p.toArray) (by rfl) (ex_mid rfl rfl r2 Try.underlying37 rfl qi2) rfl ?_
          simp only [Act.put, List.setIfInBounds_toArray, List.set_cons_zero, List.set_cons_succ]
          refine pl_call (d := some 51) (by rfl) (by go_simp; first | done | exact ⟨rfl, rfl⟩ | with_reducible rfl) rfl ?_
          refine (cE).mono ?_
          rintro _ w8 ⟨rfl, hb8⟩
          refine ⟨_, rfl, ?_⟩
          simp only [Act.put, List.setIfInBounds_toArray, List.set_cons_zero, List.set_cons_succ]
          refine pl_take (d := some 49) (v := ?_) (by rfl) ?_ rfl ?_
          rotate_left
          · go_simp
            try with_reducible rfl
          simp only [Act.put, List.setIfInBounds_toArray, List.set_cons_zero, List.set_cons_succ]
          refine pl_take (d := some 52) (v := ?_) (by rfl) ?_ rfl ?_
          rotate_left
          · go_simp
            try with_reducible rfl
          simp only [Act.put, List.setIfInBounds_toArray, List.set_cons_zero, List.set_cons_succ]
          refine pl_take (d := some 53) (v := ?_) (by rfl) ?_ rfl ?_
          rotate_left
          · go_simp
            try with_reducible rfl
          simp only [Act.put, List.setIfInBounds_toArray, List.set_cons_zero, List.set_cons_succ]
          refine pl_take (d := some 11) (v := ?_) (by rfl) ?_ rfl ?_
          rotate_left
          · go_simp
            try with_reducible rfl
          simp only [Act.put, List.setIfInBounds_toArray, List.set_cons_zero, List.set_cons_succ]
          refine pl_take (d := some 12) (v := ?_) (by rfl) ?_ rfl ?_
          rotate_left
          · go_simp
            try with_reducible rfl
          simp only [Act.put, List.setIfInBounds_toArray, List.set_cons_zero, List.set_cons_succ]
          refine pl_nil ?_
          have r8 := range_below r2 hb8 hs2
          have cG := cG w8 hb8
          have B8 := B7.trans (hb8.mono B7.size)
          clear cE B7 hb8
          go_upto_region 11 with fail
          try simp only [Act.put]
          refine pl_begin ?_
          refine pl_take (d := some 54) (v := ?_) (by rfl) ?_ rfl ?_
          rotate_left
          · go_simp
            try with_reducible rfl
          simp only [Act.put, List.setIfInBounds_toArray, List.set_cons_zero, List.set_cons_succ]
          refine pl_take (d := some 55) (v := .bool false) (by rfl) (by go_simp) rfl ?_
          simp only [Act.put, List.setIfInBounds_toArray, List.set_cons_zero, List.set_cons_succ]
          refine pl_take (d := some 56) (v := ?_) (by rfl) ?_ rfl ?_
          rotate_left
          · go_simp
            try with_reducible rfl
          simp only [Act.put, List.setIfInBounds_toArray, List.set_cons_zero, List.set_cons_succ]
          refine pl_take (d := some 57) (v := ?_) (by rfl) ?_ rfl ?_
          rotate_left
          · go_simp
            try with_reducible rfl
          simp only [Act.put, List.setIfInBounds_toArray, List.set_cons_zero, List.set_cons_succ]
          refine pl_take (d := some 58) (v := ?_) (by rfl) ?_ rfl ?_
          rotate_left
          · go_simp
            try with_reducible rfl
          simp only [Act.put, List.setIfInBounds_toArray, List.set_cons_zero, List.set_cons_succ]
          refine pl_take (d := some 59) (v := .bool false) (by rfl) (by go_simp <;> (try simp)) rfl ?_
          simp only [Act.put, List.setIfInBounds_toArray, List.set_cons_zero, List.set_cons_succ]
          refine pl_take (d := some 60) (v := ?_) (by rfl) ?_ rfl ?_
          rotate_left
          · go_simp
            try with_reducible rfl
          simp only [Act.put, List.setIfInBounds_toArray, List.set_cons_zero, List.set_cons_succ]
          refine pl_take (d := some 61) (v := ?_) (by rfl) ?_ rfl ?_
          rotate_left
          · go_simp
            try with_reducible rfl
          simp only [Act.put, List.setIfInBounds_toArray, List.set_cons_zero, List.set_cons_succ]
          refine pl_take (d := some 62) (v := .agg p.toArray) (by rfl) (ex_mid rfl rfl r8 Try.underlying37 rfl qi2) rfl ?_
          simp only [Act.put, List.setIfInBounds_toArray, List.set_cons_zero, List.set_cons_succ]
          refine pl_call (d := some 63) (by rfl) (by go_simp; first | done | exact ⟨rfl, rfl⟩ | with_reducible rfl) rfl ?_
          refine (cG).mono ?_
          rintro _ w9 ⟨rfl, hb9⟩
          refine ⟨_, rfl, ?_⟩
          simp only [Act.put, List.setIfInBounds_toArray, List.set_cons_zero, List.set_cons_succ]
          refine pl_take (d := some 64) (v := ?_) (by rfl) ?_ rfl ?_
          rotate_left
          · go_simp
            try with_reducible rfl
          simp only [Act.put, List.setIfInBounds_toArray, List.set_cons_zero, List.set_cons_succ]
          refine pl_take (d := some 65) (v := ?_) (by rfl) ?_ rfl ?_
          rotate_left
          · go_simp
            try with_reducible rfl
          simp only [Act.put, List.setIfInBounds_toArray, List.set_cons_zero, List.set_cons_succ]
          refine pl_nil ?_
          have B9 := B8.trans (hb9.mono B8.size)
          clear cG B8 hb9 r8
          go_upto_region 13 with fail
          try simp only [Act.put]
          refine pl_begin ?_
          refine pl_call (d := some 66) (by rfl) (by go_simp; first | done | exact ⟨rfl, rfl⟩ | with_reducible rfl) rfl ?_
          refine (lives13_any w9).mono ?_
          rintro _ wz ⟨rfl, hbz⟩
          refine ⟨_, rfl, ?_⟩
          simp only [Act.put, List.setIfInBounds_toArray, List.set_cons_zero, List.set_cons_succ]
          refine pl_take (d := some 4) (v := ?_) (by rfl) ?_ rfl ?_
          rotate_left
          · go_simp
            try with_reducible rfl
          simp only [Act.put, List.setIfInBounds_toArray, List.set_cons_zero, List.set_cons_succ]
          refine pl_nil ?_
          have HB := hide (B9.trans (hbz.mono B9.size))
          clear B9 hbz
          go_wp2_with fail
          go_ret
          exact ⟨rfl, HB.out⟩
        · have hfb : (fs == 0) = false := by simpa using hf
          clear hA7 hp2 hmo2 hq2
          go_upto_region 13 with fail
          try simp only [Act.put]
          refine pl_begin ?_
          refine pl_call (d := some 66) (by rfl) (by go_simp; first | done | exact ⟨rfl, rfl⟩ | with_reducible rfl) rfl ?_
          refine (lives13_any w7).mono ?_
          rintro _ wz ⟨rfl, hbz⟩
          refine ⟨_, rfl, ?_⟩
          simp only [Act.put, List.setIfInBounds_toArray, List.set_cons_zero, List.set_cons_succ]
          refine pl_take (d := some 4) (v := ?_) (by rfl) ?_ rfl ?_
          rotate_left
          · go_simp
            try with_reducible rfl
          simp only [Act.put, List.setIfInBounds_toArray, List.set_cons_zero, List.set_cons_succ]
          refine pl_nil ?_
          have HB := hide (B7.trans (hbz.mono B7.size))
          clear B7 hbz
          go_wp2_with fail
          go_ret
          exact ⟨rfl, HB.out⟩
end Go.Proofs.Ytahdmajppnffeaa
namespace Go.Proofs.Ytahdmajppnffeaa.messageBack
open Go.ChangeShapes Go.WideShapes Go.ChangeAt Go.RowKit
open Go.ChangeMaps (open_string shut_string)
set_option linter.unusedVariables false
set_option maxRecDepth 100000 in
theorem lifted (os : Os) (started : os.Started) (H : Type) (enc : TypeId × Value → H) :
    ReturnsInHanded {} Try.checked os 3 .any (Rows.messageBackSpec.pre6 enc Try.prog Try.f3 Rows.messageBackRow.domain false) (Rows.messageBackSpec.post enc Try.prog Try.f3 false true false false) := by
  refine returnsInHanded_of_change (C := Try.checked) own started (by kernel_rfl) Try.func3
    (ChangeSpec.witness6 (enc := enc) (C := Try.checked) false ⟨#[], #[.agg #[.int .i64 0, .int .i64 0, .int .i64 0, .int .i64 0, .int .i64 0, .bool false, .slice none 0 0, .int .i64 0, .int .i64 0, .int .i64 0, .int .i64 0, .int .u8 0, .int .u8 0, .int .u8 0, .int .u8 0, .int .u8 0, .int .u8 0, .int .u8 0, .int .u8 0, .int .u8 0, .int .u8 0, .int .u8 0, .int .u8 0, .int .u8 0, .int .u8 0, .int .u8 0, .int .u8 0, .int .u8 0, .int .u8 0, .int .u8 0, .int .u8 0, .int .u8 0, .int .u8 0, .int .u8 0, .int .u8 0, .int .u8 0, .int .u8 0, .int .u8 0, .int .u8 0, .int .u8 0, .int .u8 0, .int .u8 0, .int .u8 0, .int .i64 0, .int .i64 0, .int .i64 0, .slice none 0 0, .slice none 0 0, .int .u8 0, .int .u8 0, .int .u8 0, .int .u8 0, .int .u8 0, .int .u8 0, .int .u8 0, .int .u8 0, .int .u8 0, .int .u8 0, .int .u8 0, .int .u8 0, .int .u8 0, .int .u8 0, .int .u8 0, .int .u8 0, .int .u8 0, .int .u8 0, .int .u8 0, .int .u8 0, .int .u8 0, .int .u8 0, .int .u8 0, .int .u8 0, .int .u8 0, .int .u8 0, .int .u8 0, .int .u8 0, .int .u8 0, .int .u8 0, .int .u8 0, .int .u8 0, .int .i64 0, .int .i64 0, .int .i64 0, .int .i64 0, .int .u8 0, .int .u8 0, .int .u8 0, .int .u8 0, .int .u8 0, .int .u8 0, .int .u8 0, .int .u8 0, .int .u8 0, .int .u8 0, .int .u8 0, .int .u8 0, .int .u8 0, .int .u8 0, .int .u8 0, .int .u8 0, .int .u8 0, .int .u8 0, .int .u8 0, .int .u8 0, .int .u8 0, .int .u8 0, .int .u8 0, .int .u8 0, .int .u8 0, .int .u8 0, .int .u8 0, .int .u8 0, .int .u8 0, .int .u8 0, .int .u8 0, .int .u8 0, .slice none 0 0, .string ⟨#[]⟩, .slice none 0 0], .string ⟨#[]⟩], []⟩ 8 (by kernel_rfl) (by kernel_rfl) (by kernel_rfl) (by kernel_rfl)) ?_
  intro W base args ds gs before hval0 hW hcnd _
  have hval : ∀ (j : Nat) t v, Try.f3.params[j]? = some t → args[j]? = some v → Value.okWide Try.prog W .any base t v := hval0
  have hW' := hW
  obtain ⟨p, q, hA0, hV, rfl, hfz, hnd⟩ := hW
  have hA : DataW.TrodAll enc Try.prog W 0 (fun _ => true) true Try.f3.params.toList args.toList ds p := hA0
  rw [Try.params3] at hA hval
  obtain ⟨v0, vs0, d0, ds0, p0, q0, hargs, rfl, rfl, h0, r0⟩ := trodAll_cons hA
  obtain ⟨v1, vs1, d1, ds1, p1, q1, rfl, rfl, rfl, h1, r1⟩ := trodAll_cons r0
  obtain ⟨rfl, rfl, rfl⟩ := trodAll_nil r1
  obtain rfl : args = #[v0, v1] := by cases args; simp_all
  obtain ⟨rfl, rfl⟩ := trodVars_none hV
  have k0 := h0
  have lt0 : ∀ x ∈ p0, x.block < W.heap.size := by obtain ⟨m, hm⟩ := k0; exact DataW.trod_lt m _ _ _ hm
  obtain ⟨fuel0, hf0⟩ := h0
  obtain ⟨x0, rfl, ok0, at0⟩ := open_msg (hval 0 37 v0 rfl rfl) hf0
  have k1 := h1
  have lt1 : ∀ x ∈ p1, x.block < W.heap.size := by obtain ⟨m, hm⟩ := k1; exact DataW.trod_lt m _ _ _ hm
  obtain ⟨s1, rfl, rfl, rfl, hs1⟩ := open_string Try.underlying9 (hval 1 9 v1 rfl rfl) h1
  clear hA0 hval0
  refine (back_walk x0 s1 W ok0 at0).mono fun e W' ⟨he, bel⟩ => ?_
  subst he
  exact ⟨_, rfl, _, _, _, [], _, [], hW', trodAll_mk1 (shut_bool Try.underlying4 _), (trodAll_cons_mk (Below.trod laidOut (by kernel_rfl) (of_decide_eq_true (by kernel_rfl)) k0 bel lt0) (trodAll_cons_mk (Below.trod laidOut (by kernel_rfl) (of_decide_eq_true (by kernel_rfl)) k1 bel lt1) trodAll_mk0)), rfl, bel.frame _, fun h => by cases h⟩
theorem over : Rows.messageBackRow.holds Try.pinned (OpenSpec.ofChange Rows.messageBackSpec) :=
  OpenClaim.holds_of_wide 3 Try.f3 rfl rfl rfl rfl rfl rfl rfl ⟨rfl, rfl, rfl, rfl, rfl⟩ rfl rfl rfl rfl rfl (by kernel_rfl) Try.func3 (by kernel_rfl)
    (of_decide_eq_true (by kernel_rfl)) (by unfold Func.isWrapper; first | (rw [if_pos (by decide +kernel)]; kernel_rfl) | (rw [if_neg (by decide +kernel)]; exact ⟨rfl, rfl⟩))
    (fun os started H enc _ => lifted os started H enc)
end Go.Proofs.Ytahdmajppnffeaa.messageBack
namespace Go.Proofs.Ytahdmajppnffeaa
theorem messageBack_holds : Rows.MessageBackSaid := messageBack.over
#print axioms messageBack_holds
end Go.Proofs.Ytahdmajppnffeaa
