/- messages that are not too much; a good message that is not too much is fine -/
import Derived.Test.YtahdmajppnffeaaJM13
import Derived.Test.YtahdmajppnffeaaJM10
import Derived.Deep.Cut
import Derived.Deep.DeepCutAuto
namespace Go.Proofs.Ytahdmajppnffeaa
open Go.RowKit
open Sha Tal
set_option linter.unusedVariables false
set_option linter.unusedSimpArgs false
def wtE (xs : List Ev) : Nat := (xs.map fun g => g.s.size).sum
theorem wtE_take (xs : List Ev) (k : Nat) (hk : k < xs.length) : wtE (xs.take (k + 1)) = wtE (xs.take k) + xs[k].s.size := by
  unfold wtE
  rw [List.take_succ_eq_append_getElem hk]
  simp only [List.map_append, List.map_cons, List.map_nil, List.sum_append, List.sum_cons, List.sum_nil]
  omega
/-- a message that is not too much -/
def Mg.light (m : Mg) : Prop := m.st.size ≤ 6000 ∧ m.cs.xs.length ≤ 100 ∧ wtE m.ne.xs ≤ 6000
def LightS (m : Mg) (w : World) (e : Ending) (w' : World) : Prop := ∃ b : Bool, e = .returned (.bool b) ∧ Below w.heap.size w w' ∧ (b = true → m.light)
theorem run_bsb (q : Bool) (a : Option Addr) (n c : Nat) (w : World) : (Instr.buildSlice 71 1 #[(0, .agg #[.bool q, .slice a n c])]).run Try.prog w = .ok (.slice (some ⟨w.heap.size, 0, none⟩) 1 1) (w.alloc (.cells #[.bool q, .slice a n c] 24)) := by kernel_rfl
theorem light1_on (q : Bool) (x : Sl Rq) (w : World) (hx : x.At RqE w) : Calls Try.prog 11 #[.slice (some ⟨w.heap.size, 0, none⟩) 1 1] (w.alloc (.cells #[.bool q, .slice x.a x.xs.length x.cap] 24)) fun e w' => ∃ b : Bool, e = .returned (.bool b) ∧ Below w.heap.size w w' := by
  have hB : Below w.heap.size w (w.alloc (.cells #[.bool q, .slice x.a x.xs.length x.cap] 24)) := (Below.refl _ _).alloc (Nat.le_refl _) _
  have hR := range_new w #[.bool q, .slice x.a x.xs.length x.cap] 24
  have c := light_any w.heap.size 1 [⟨q, x.a, x.cap, x.xs.map BRq.of⟩] _ ⟨by simp, fun y hy => by
    simp only [List.mem_singleton] at hy
    subst hy
    exact ⟨reqs_at (Sl.At.below hx hB), trivial, trivial⟩, by simp, by simpa [Bat.cells] using hR⟩
  refine c.mono ?_
  rintro e w' (⟨rfl, hb⟩ | ⟨rfl, hb, -⟩)
  · exact ⟨false, rfl, hB.trans (hb.mono hB.size)⟩
  · exact ⟨true, rfl, hB.trans (hb.mono hB.size)⟩
def addTo6 (n m : Int) : Int := if n + m ≤ 6000 then n + m else 6001
set_option maxRecDepth 100000 in
set_option maxHeartbeats 600000 in
theorem add6000_any (n m : Int) (w : World) (h0 : 0 ≤ n) (h1 : n ≤ 6001) (h2 : 0 ≤ m) (h3 : m ≤ 9223372036854775807) :
    Calls Try.prog 12 #[.int .i64 n, .int .i64 m, .int .i64 6000] w fun e w' => e = .returned (.int .i64 (addTo6 n m)) ∧ w' = w := by
  by_cases c1 : 6000 < n
  · have HA : Hid (addTo6 n m = 6001) := by show _ = _; unfold addTo6; rw [if_neg (by omega)]
    rw [HA.out]
    go_enter Try.func12, Try.ntmps12
    go_wp2
    go_ret
    exact ⟨rfl, rfl⟩
  · by_cases c2 : 6000 < m
    · have HA : Hid (addTo6 n m = 6001) := by show _ = _; unfold addTo6; rw [if_neg (by omega)]
      rw [HA.out]
      go_enter Try.func12, Try.ntmps12
      go_wp2
      go_ret
      exact ⟨rfl, rfl⟩
    · by_cases c3 : 6000 - m < n
      · have HA : Hid (addTo6 n m = 6001) := by show _ = _; unfold addTo6; rw [if_neg (by omega)]
        rw [HA.out]
        go_enter Try.func12, Try.ntmps12
        go_wp2
        go_ret
        exact ⟨rfl, rfl⟩
      · have HA : Hid (addTo6 n m = n + m) := by show _ = _; unfold addTo6; rw [if_pos (by omega)]
        rw [HA.out]
        go_enter Try.func12, Try.ntmps12
        go_wp2
        go_ret
        exact ⟨rfl, rfl⟩
set_option maxRecDepth 100000 in
set_option maxHeartbeats 1000000 in
theorem light13_any (m : Mg) (w : World) (om : m.ok) (am : m.At w) : Calls Try.prog 5 #[.agg m.ms.cells.toArray] w fun e w' => LightS m w e w' := by
  obtain ⟨ha, hha⟩ : ∃ a, Hid (m.he.a = a) := ⟨_, hide rfl⟩
  obtain ⟨na, hna⟩ : ∃ a, Hid (m.ne.a = a) := ⟨_, hide rfl⟩
  have hhe : ∀ w', Below w.heap.size w w' → RowsAt HdE w' ha m.he.xs := fun w' h => by rw [← hha.out]; exact (am.he.below h).1
  have hne : ∀ w', Below w.heap.size w w' → RowsAt EvE w' na m.ne.xs := fun w' h => by rw [← hna.out]; exact am.ne.below h
  have hat : ∀ {w' : World} {b : Nat}, w'.rangeAt b 0 m.ms.cells → m.ms.at w' b := fun hr => om.ms.at hr
  obtain ⟨q, hq⟩ : ∃ q, Hid (m.ms.cells = q) := ⟨_, hide rfl⟩
  rw [hq.out]
  simp only [hq.out] at hat
  clear hq
  obtain ⟨p1, hp1⟩ : ∃ p, Hid (decide (6000 < (m.st.size : Int)) = p) := ⟨_, hide rfl⟩
  obtain ⟨p2, hp2⟩ : ∃ p, Hid (decide (100 < (m.sg.xs.length : Int)) = p) := ⟨_, hide rfl⟩
  obtain ⟨p3, hp3⟩ : ∃ p, Hid (decide (100 < (m.cs.xs.length : Int)) = p) := ⟨_, hide rfl⟩
  obtain ⟨p4, hp4⟩ : ∃ p, Hid (decide (20 < (m.he.xs.length : Int)) = p) := ⟨_, hide rfl⟩
  obtain ⟨p5, hp5⟩ : ∃ p, Hid (decide (100 < (m.ne.xs.length : Int)) = p) := ⟨_, hide rfl⟩
  obtain ⟨hB1, hR1, hs1⟩ := boxed_new w q 37
  go_enter Try.func5, Try.ntmps5
  go_upto_region 1 with fail
  obtain ⟨W, hW⟩ : ∃ W, w.alloc (.cells q.toArray 37) = W := ⟨_, rfl⟩
  rw [hW] at hB1 hR1 hs1 ⊢
  clear hW
  have MA := hat hR1
  have rB := ms_bat MA
  have aR := am.rs.below hB1
  have c117 : W.cell? ⟨w.heap.size, 117, none⟩ = some (.string m.st) := MA.st
  have c118 : W.cell? ⟨w.heap.size, 118, none⟩ = some (.slice m.sg.a m.sg.xs.length m.sg.cap) := MA.sg
  have c46 : W.cell? ⟨w.heap.size, 46, none⟩ = some (.slice ha m.he.xs.length m.he.cap) := by rw [← hha.out]; exact MA.he
  have c47 : W.cell? ⟨w.heap.size, 47, none⟩ = some (.slice na m.ne.xs.length m.ne.cap) := by rw [← hna.out]; exact MA.ne
  have c116 : W.cell? ⟨w.heap.size, 116, none⟩ = some (.slice m.cs.a m.cs.xs.length m.cs.cap) := MA.ct 36 _ (by rw [List.getElem?_append_right (by show m.ct.cells.length ≤ 36; rw [om.ct.len]; exact Nat.le_refl _)]; show [m.cs.val][36 - m.ct.cells.length]? = _; rw [om.ct.len]; rfl)
  have hhl := (hhe W hB1).1
  have hnl := (hne W hB1).1
  unfold maxLen at hhl hnl
  clear MA hha hna
  try simp only [Act.put]
  refine pl_begin ?_
  refine pl_take (d := some 8) (v := ?_) (by rfl) ?_ rfl ?_
  rotate_left
  · go_simp
    try with_reducible rfl
  simp only [Act.put, List.setIfInBounds_toArray, List.set_cons_zero, List.set_cons_succ]
  refine pl_take (d := some 9) (v := .agg ([.bool m.q, m.rs.val] : List Value).toArray) (by rfl) (ex_mid rfl rfl rB Try.underlying24 rfl iszBa) rfl ?_
  simp only [Act.put, List.setIfInBounds_toArray, List.set_cons_zero, List.set_cons_succ]
  refine pl_run (d := some 10) (v := .slice (some ⟨W.heap.size, 0, none⟩) 1 1) (w' := W.alloc (.cells #[.bool m.q, .slice m.rs.a m.rs.xs.length m.rs.cap] 24)) (by rfl) (ex_bsi rfl rfl (run_bsb _ _ _ _ _)) rfl ?_
  simp only [Act.put, List.setIfInBounds_toArray, List.set_cons_zero, List.set_cons_succ]
  refine pl_call (d := some 11) (by rfl) (by go_simp; first | done | exact ⟨rfl, rfl⟩ | with_reducible rfl) rfl ?_
  refine (light1_on m.q m.rs W aR).mono ?_
  rintro _ w9 ⟨b0, rfl, HS⟩
  refine ⟨_, rfl, ?_⟩
  simp only [Act.put, List.setIfInBounds_toArray, List.set_cons_zero, List.set_cons_succ]
  cases b0
  · refine pl_take (d := some 12) (v := ?_) (by rfl) ?_ rfl ?_
    rotate_left
    · go_simp
      try with_reducible rfl
    simp only [Act.put, List.setIfInBounds_toArray, List.set_cons_zero, List.set_cons_succ]
    refine pl_take (d := some 13) (v := ?_) (by rfl) ?_ rfl ?_
    rotate_left
    · go_simp
      try with_reducible rfl
    simp only [Act.put, List.setIfInBounds_toArray, List.set_cons_zero, List.set_cons_succ]
    refine pl_skip (d := some 14) (by rfl) rfl ?_
    simp only [Act.put, List.setIfInBounds_toArray, List.set_cons_zero, List.set_cons_succ]
    refine pl_skip (d := some 15) (by rfl) rfl ?_
    simp only [Act.put, List.setIfInBounds_toArray, List.set_cons_zero, List.set_cons_succ]
    refine pl_skip (d := some 16) (by rfl) rfl ?_
    simp only [Act.put, List.setIfInBounds_toArray, List.set_cons_zero, List.set_cons_succ]
    refine pl_skip (d := some 17) (by rfl) rfl ?_
    simp only [Act.put, List.setIfInBounds_toArray, List.set_cons_zero, List.set_cons_succ]
    refine pl_take (d := some 18) (v := ?_) (by rfl) ?_ rfl ?_
    rotate_left
    · go_simp
      try with_reducible rfl
    simp only [Act.put, List.setIfInBounds_toArray, List.set_cons_zero, List.set_cons_succ]
    refine pl_take (d := some 19) (v := ?_) (by rfl) ?_ rfl ?_
    rotate_left
    · go_simp
      try with_reducible rfl
    simp only [Act.put, List.setIfInBounds_toArray, List.set_cons_zero, List.set_cons_succ]
    refine pl_skip (d := some 20) (by rfl) rfl ?_
    simp only [Act.put, List.setIfInBounds_toArray, List.set_cons_zero, List.set_cons_succ]
    refine pl_skip (d := some 21) (by rfl) rfl ?_
    simp only [Act.put, List.setIfInBounds_toArray, List.set_cons_zero, List.set_cons_succ]
    refine pl_skip (d := some 22) (by rfl) rfl ?_
    simp only [Act.put, List.setIfInBounds_toArray, List.set_cons_zero, List.set_cons_succ]
    refine pl_skip (d := some 23) (by rfl) rfl ?_
    simp only [Act.put, List.setIfInBounds_toArray, List.set_cons_zero, List.set_cons_succ]
    refine pl_take (d := some 24) (v := ?_) (by rfl) ?_ rfl ?_
    rotate_left
    · go_simp
      try with_reducible rfl
    simp only [Act.put, List.setIfInBounds_toArray, List.set_cons_zero, List.set_cons_succ]
    refine pl_take (d := some 25) (v := ?_) (by rfl) ?_ rfl ?_
    rotate_left
    · go_simp
      try with_reducible rfl
    simp only [Act.put, List.setIfInBounds_toArray, List.set_cons_zero, List.set_cons_succ]
    refine pl_skip (d := some 26) (by rfl) rfl ?_
    simp only [Act.put, List.setIfInBounds_toArray, List.set_cons_zero, List.set_cons_succ]
    refine pl_skip (d := some 27) (by rfl) rfl ?_
    simp only [Act.put, List.setIfInBounds_toArray, List.set_cons_zero, List.set_cons_succ]
    refine pl_skip (d := some 28) (by rfl) rfl ?_
    simp only [Act.put, List.setIfInBounds_toArray, List.set_cons_zero, List.set_cons_succ]
    refine pl_skip (d := some 29) (by rfl) rfl ?_
    simp only [Act.put, List.setIfInBounds_toArray, List.set_cons_zero, List.set_cons_succ]
    refine pl_skip (d := some 30) (by rfl) rfl ?_
    simp only [Act.put, List.setIfInBounds_toArray, List.set_cons_zero, List.set_cons_succ]
    refine pl_take (d := some 31) (v := ?_) (by rfl) ?_ rfl ?_
    rotate_left
    · go_simp
      try with_reducible rfl
    simp only [Act.put, List.setIfInBounds_toArray, List.set_cons_zero, List.set_cons_succ]
    refine pl_take (d := some 32) (v := ?_) (by rfl) ?_ rfl ?_
    rotate_left
    · go_simp
      try with_reducible rfl
    simp only [Act.put, List.setIfInBounds_toArray, List.set_cons_zero, List.set_cons_succ]
    refine pl_skip (d := some 33) (by rfl) rfl ?_
    simp only [Act.put, List.setIfInBounds_toArray, List.set_cons_zero, List.set_cons_succ]
    refine pl_skip (d := some 34) (by rfl) rfl ?_
    simp only [Act.put, List.setIfInBounds_toArray, List.set_cons_zero, List.set_cons_succ]
    refine pl_skip (d := some 35) (by rfl) rfl ?_
    simp only [Act.put, List.setIfInBounds_toArray, List.set_cons_zero, List.set_cons_succ]
    refine pl_skip (d := some 36) (by rfl) rfl ?_
    simp only [Act.put, List.setIfInBounds_toArray, List.set_cons_zero, List.set_cons_succ]
    refine pl_skip (d := some 37) (by rfl) rfl ?_
    simp only [Act.put, List.setIfInBounds_toArray, List.set_cons_zero, List.set_cons_succ]
    refine pl_take (d := some 38) (v := ?_) (by rfl) ?_ rfl ?_
    rotate_left
    · go_simp
      try with_reducible rfl
    simp only [Act.put, List.setIfInBounds_toArray, List.set_cons_zero, List.set_cons_succ]
    refine pl_take (d := some 39) (v := ?_) (by rfl) ?_ rfl ?_
    rotate_left
    · go_simp
      try with_reducible rfl
    simp only [Act.put, List.setIfInBounds_toArray, List.set_cons_zero, List.set_cons_succ]
    refine pl_skip (d := some 40) (by rfl) rfl ?_
    simp only [Act.put, List.setIfInBounds_toArray, List.set_cons_zero, List.set_cons_succ]
    refine pl_skip (d := some 41) (by rfl) rfl ?_
    simp only [Act.put, List.setIfInBounds_toArray, List.set_cons_zero, List.set_cons_succ]
    refine pl_skip (d := some 42) (by rfl) rfl ?_
    simp only [Act.put, List.setIfInBounds_toArray, List.set_cons_zero, List.set_cons_succ]
    refine pl_skip (d := some 43) (by rfl) rfl ?_
    simp only [Act.put, List.setIfInBounds_toArray, List.set_cons_zero, List.set_cons_succ]
    refine pl_take (d := some 44) (v := ?_) (by rfl) ?_ rfl ?_
    rotate_left
    · go_simp
      try with_reducible rfl
    simp only [Act.put, List.setIfInBounds_toArray, List.set_cons_zero, List.set_cons_succ]
    refine pl_nil ?_
    go_wp2_with fail
    go_ret
    exact ⟨false, rfl, hB1.trans (HS.mono hB1.size), fun h => by cases h⟩
  · refine pl_take (d := some 12) (v := ?_) (by rfl) ?_ rfl ?_
    rotate_left
    · go_simp
      try with_reducible rfl
    simp only [Act.put, List.setIfInBounds_toArray, List.set_cons_zero, List.set_cons_succ]
    refine pl_take (d := some 13) (v := ?_) (by rfl) ?_ rfl ?_
    rotate_left
    · go_simp
      try with_reducible rfl
    simp only [Act.put, List.setIfInBounds_toArray, List.set_cons_zero, List.set_cons_succ]
    refine pl_take (d := some 14) (v := ?_) (by rfl) ?_ rfl ?_
    rotate_left
    · go_simp
      try with_reducible rfl
    simp only [Act.put, List.setIfInBounds_toArray, List.set_cons_zero, List.set_cons_succ]
    refine pl_take (d := some 15) (v := .string m.st) (by rfl) (pl_one rfl rfl ((HS.cell (p := ⟨w.heap.size, 117, none⟩) hs1).trans c117) Try.underlying9 rfl) rfl ?_
    simp only [Act.put, List.setIfInBounds_toArray, List.set_cons_zero, List.set_cons_succ]
    refine pl_take (d := some 16) (v := ?_) (by rfl) ?_ rfl ?_
    rotate_left
    · go_simp
      try with_reducible rfl
    simp only [Act.put, List.setIfInBounds_toArray, List.set_cons_zero, List.set_cons_succ]
    refine pl_take (d := some 17) (v := .bool p1) (by rfl) (by rw [← hp1.out]; go_simp) rfl ?_
    simp only [Act.put, List.setIfInBounds_toArray, List.set_cons_zero, List.set_cons_succ]
    cases p1
    · refine pl_take (d := some 18) (v := ?_) (by rfl) ?_ rfl ?_
      rotate_left
      · go_simp
        try with_reducible rfl
      simp only [Act.put, List.setIfInBounds_toArray, List.set_cons_zero, List.set_cons_succ]
      refine pl_take (d := some 19) (v := ?_) (by rfl) ?_ rfl ?_
      rotate_left
      · go_simp
        try with_reducible rfl
      simp only [Act.put, List.setIfInBounds_toArray, List.set_cons_zero, List.set_cons_succ]
      refine pl_take (d := some 20) (v := ?_) (by rfl) ?_ rfl ?_
      rotate_left
      · go_simp
        try with_reducible rfl
      simp only [Act.put, List.setIfInBounds_toArray, List.set_cons_zero, List.set_cons_succ]
      refine pl_take (d := some 21) (v := .slice m.sg.a m.sg.xs.length m.sg.cap) (by rfl) (pl_one rfl rfl ((HS.cell (p := ⟨w.heap.size, 118, none⟩) hs1).trans c118) Try.underlying33 rfl) rfl ?_
      simp only [Act.put, List.setIfInBounds_toArray, List.set_cons_zero, List.set_cons_succ]
      refine pl_take (d := some 22) (v := ?_) (by rfl) ?_ rfl ?_
      rotate_left
      · go_simp
        try with_reducible rfl
      simp only [Act.put, List.setIfInBounds_toArray, List.set_cons_zero, List.set_cons_succ]
      refine pl_take (d := some 23) (v := .bool p2) (by rfl) (by rw [← hp2.out]; go_simp) rfl ?_
      simp only [Act.put, List.setIfInBounds_toArray, List.set_cons_zero, List.set_cons_succ]
      cases p2
      · refine pl_take (d := some 24) (v := ?_) (by rfl) ?_ rfl ?_
        rotate_left
        · go_simp
          try with_reducible rfl
        simp only [Act.put, List.setIfInBounds_toArray, List.set_cons_zero, List.set_cons_succ]
        refine pl_take (d := some 25) (v := ?_) (by rfl) ?_ rfl ?_
        rotate_left
        · go_simp
          try with_reducible rfl
        simp only [Act.put, List.setIfInBounds_toArray, List.set_cons_zero, List.set_cons_succ]
        refine pl_take (d := some 26) (v := ?_) (by rfl) ?_ rfl ?_
        rotate_left
        · go_simp
          try with_reducible rfl
        simp only [Act.put, List.setIfInBounds_toArray, List.set_cons_zero, List.set_cons_succ]
        refine pl_take (d := some 27) (v := ?_) (by rfl) ?_ rfl ?_
        rotate_left
        · go_simp
          try with_reducible rfl
        simp only [Act.put, List.setIfInBounds_toArray, List.set_cons_zero, List.set_cons_succ]
        refine pl_take (d := some 28) (v := .slice m.cs.a m.cs.xs.length m.cs.cap) (by rfl) (pl_one rfl rfl ((HS.cell (p := ⟨w.heap.size, 116, none⟩) hs1).trans c116) Try.underlying33 rfl) rfl ?_
        simp only [Act.put, List.setIfInBounds_toArray, List.set_cons_zero, List.set_cons_succ]
        refine pl_take (d := some 29) (v := ?_) (by rfl) ?_ rfl ?_
        rotate_left
        · go_simp
          try with_reducible rfl
        simp only [Act.put, List.setIfInBounds_toArray, List.set_cons_zero, List.set_cons_succ]
        refine pl_take (d := some 30) (v := .bool p3) (by rfl) (by rw [← hp3.out]; go_simp) rfl ?_
        simp only [Act.put, List.setIfInBounds_toArray, List.set_cons_zero, List.set_cons_succ]
        cases p3
        · refine pl_take (d := some 31) (v := ?_) (by rfl) ?_ rfl ?_
          rotate_left
          · go_simp
            try with_reducible rfl
          simp only [Act.put, List.setIfInBounds_toArray, List.set_cons_zero, List.set_cons_succ]
          refine pl_take (d := some 32) (v := ?_) (by rfl) ?_ rfl ?_
          rotate_left
          · go_simp
            try with_reducible rfl
          simp only [Act.put, List.setIfInBounds_toArray, List.set_cons_zero, List.set_cons_succ]
          refine pl_take (d := some 33) (v := ?_) (by rfl) ?_ rfl ?_
          rotate_left
          · go_simp
            try with_reducible rfl
          simp only [Act.put, List.setIfInBounds_toArray, List.set_cons_zero, List.set_cons_succ]
          refine pl_take (d := some 34) (v := ?_) (by rfl) ?_ rfl ?_
          rotate_left
          · go_simp
            try with_reducible rfl
          simp only [Act.put, List.setIfInBounds_toArray, List.set_cons_zero, List.set_cons_succ]
          refine pl_take (d := some 35) (v := .slice ha m.he.xs.length m.he.cap) (by rfl) (pl_one rfl rfl ((HS.cell (p := ⟨w.heap.size, 46, none⟩) hs1).trans c46) Try.underlying29 rfl) rfl ?_
          simp only [Act.put, List.setIfInBounds_toArray, List.set_cons_zero, List.set_cons_succ]
          refine pl_take (d := some 36) (v := ?_) (by rfl) ?_ rfl ?_
          rotate_left
          · go_simp
            try with_reducible rfl
          simp only [Act.put, List.setIfInBounds_toArray, List.set_cons_zero, List.set_cons_succ]
          refine pl_take (d := some 37) (v := .bool p4) (by rfl) (by rw [← hp4.out]; go_simp) rfl ?_
          simp only [Act.put, List.setIfInBounds_toArray, List.set_cons_zero, List.set_cons_succ]
          cases p4
          · refine pl_take (d := some 38) (v := ?_) (by rfl) ?_ rfl ?_
            rotate_left
            · go_simp
              try with_reducible rfl
            simp only [Act.put, List.setIfInBounds_toArray, List.set_cons_zero, List.set_cons_succ]
            refine pl_take (d := some 39) (v := ?_) (by rfl) ?_ rfl ?_
            rotate_left
            · go_simp
              try with_reducible rfl
            simp only [Act.put, List.setIfInBounds_toArray, List.set_cons_zero, List.set_cons_succ]
            refine pl_take (d := some 40) (v := ?_) (by rfl) ?_ rfl ?_
            rotate_left
            · go_simp
              try with_reducible rfl
            simp only [Act.put, List.setIfInBounds_toArray, List.set_cons_zero, List.set_cons_succ]
            refine pl_take (d := some 41) (v := .slice na m.ne.xs.length m.ne.cap) (by rfl) (pl_one rfl rfl ((HS.cell (p := ⟨w.heap.size, 47, none⟩) hs1).trans c47) Try.underlying32 rfl) rfl ?_
            simp only [Act.put, List.setIfInBounds_toArray, List.set_cons_zero, List.set_cons_succ]
            refine pl_take (d := some 42) (v := ?_) (by rfl) ?_ rfl ?_
            rotate_left
            · go_simp
              try with_reducible rfl
            simp only [Act.put, List.setIfInBounds_toArray, List.set_cons_zero, List.set_cons_succ]
            refine pl_take (d := some 43) (v := .bool p5) (by rfl) (by rw [← hp5.out]; go_simp) rfl ?_
            simp only [Act.put, List.setIfInBounds_toArray, List.set_cons_zero, List.set_cons_succ]
            cases p5
            · refine pl_take (d := some 44) (v := ?_) (by rfl) ?_ rfl ?_
              rotate_left
              · go_simp
                try with_reducible rfl
              simp only [Act.put, List.setIfInBounds_toArray, List.set_cons_zero, List.set_cons_succ]
              refine pl_nil ?_
              obtain ⟨V, hVV⟩ : ∃ V, w9 = V := ⟨_, rfl⟩
              rw [hVV] at HS ⊢
              clear hVV
              have hst : m.st.size ≤ 6000 := by have := of_decide_eq_false hp1.out; omega
              have hcs : m.cs.xs.length ≤ 100 := by have := of_decide_eq_false hp3.out; omega
              have hBV := hB1.trans (HS.mono hB1.size)
              have hRV := range_below hR1 HS hs1
              have cH := (HS.cell (p := ⟨w.heap.size, 46, none⟩) hs1).trans c46
              have cNV := (HS.cell (p := ⟨w.heap.size, 47, none⟩) hs1).trans c47
              have hsV := Nat.lt_of_lt_of_le hs1 HS.size
              clear hp1 hp2 hp3 hp4 hp5 c117 c118 c116 c46 c47 rB aR hB1 hR1 HS
              obtain ⟨zh, hzl, hzh⟩ := zeroHd
              go_upto_region 4 with fail
              try simp only [Act.put]
              refine pl_begin ?_
              refine pl_take (d := some 45) (v := ?_) (by rfl) ?_ rfl ?_
              rotate_left
              · go_simp
                try with_reducible rfl
              simp only [Act.put, List.setIfInBounds_toArray, List.set_cons_zero, List.set_cons_succ]
              refine pl_take (d := some 46) (v := ?_) (by rfl) ?_ rfl ?_
              rotate_left
              · go_simp
                try with_reducible rfl
              simp only [Act.put, List.setIfInBounds_toArray, List.set_cons_zero, List.set_cons_succ]
              refine pl_take (d := some 47) (v := .slice ha m.he.xs.length m.he.cap) (by rfl) (pl_one rfl rfl cH Try.underlying29 rfl) rfl ?_
              simp only [Act.put, List.setIfInBounds_toArray, List.set_cons_zero, List.set_cons_succ]
              refine pl_take (d := some 48) (v := ?_) (by rfl) ?_ rfl ?_
              rotate_left
              · go_simp
                try with_reducible rfl
              simp only [Act.put, List.setIfInBounds_toArray, List.set_cons_zero, List.set_cons_succ]
              refine pl_take (d := some 49) (v := ?_) (by rfl) ?_ rfl ?_
              rotate_left
              · go_simp
                try with_reducible rfl
              simp only [Act.put, List.setIfInBounds_toArray, List.set_cons_zero, List.set_cons_succ]
              refine pl_nil ?_
              have HK0 : Hid (Below V.heap.size V V) := hide (Below.refl _ _)
              go_wp2_with fail
              go_loopw [49] (fun iv wr => ∃ k : Nat, k ≤ m.he.xs.length ∧ iv = .int .i64 (k : Int) ∧ Hid (Below V.heap.size V wr)) (fun iv _ => m.he.xs.length - (intOf iv).toNat)
              case atStart => exact ⟨0, by omega, rfl, HK0⟩
              case round =>
                clear HK0
                obtain ⟨k, hk, rfl, HK⟩ := hrel
                have hBr := HK.out
                clear HK
                have hBw := hBV.trans (hBr.mono hBV.size)
                by_cases hlt : k < m.he.xs.length
                · have k1 : (k : Int) < m.he.xs.length := by omega
                  have hgat := (am.he.below hBw).2 _ (List.getElem_mem hlt)
                  have hok := (hhe wr hBw).2.1 _ (List.getElem_mem hlt)
                  obtain ⟨b, off, rfl, hbb, hre⟩ := RowsAt.elem (hhe wr hBw) k hlt
                  have hre : wr.rangeAt b (off + k * 39) (HdE.f m.he.xs[k]) := hre
                  have hiq : (Try.prog.info? 51).map (·.size) = some (HdE.f m.he.xs[k]).length := by rw [HdE.len _ hok]; exact iszH
                  have hq1 := HdE.one m.he.xs[k]
                  have hql : (HdE.f m.he.xs[k]).length = 39 := HdE.len _ hok
                  obtain ⟨g, hgg⟩ : ∃ g, Hid (m.he.xs[k] = g) := ⟨_, hide rfl⟩
                  rw [hgg.out] at hre hiq hq1 hql hok hgat
                  clear hgg
                  have hok : g.vt.ok := hok
                  obtain ⟨q1, hqq⟩ : ∃ q, Hid (HdE.f g = q) := ⟨_, hide rfl⟩
                  rw [hqq.out] at hre hiq hq1 hql
                  go_upto_region 6 with fail
                  try simp only [Act.put]
                  refine pl_begin ?_
                  refine pl_take (d := some 51) (v := ?_) (by rfl) ?_ rfl ?_
                  rotate_left
                  · go_simp
                    try with_reducible rfl
                  simp only [Act.put, List.setIfInBounds_toArray, List.set_cons_zero, List.set_cons_succ]
                  refine pl_take (d := some 52) (v := .agg q1.toArray) (by rfl) (ex_mid rfl rfl hre Try.underlying51 rfl hiq) rfl ?_
                  simp only [Act.put, List.setIfInBounds_toArray, List.set_cons_zero, List.set_cons_succ]
                  refine pl_run (d := some 5) (v := .pointer (some ⟨wr.heap.size, 0, none⟩)) (w' := wr.alloc (.cells zh.toArray 51)) (by rfl) (ex_alloc rfl (hzh _)) rfl ?_
                  simp only [Act.put, List.setIfInBounds_toArray, List.set_cons_zero, List.set_cons_succ]
                  refine pl_store (w' := (wr.alloc (.cells zh.toArray 51)).setCells wr.heap.size 0 q1) (by rfl) (ex_put (cs := q1.toArray) rfl rfl rfl (there_newN _ _ _ (by simp [hzl, hql])) (by simpa using hiq) (all_one hq1)) rfl ?_
                  refine pl_nil ?_
                  obtain ⟨hF1, hF2, hF3, -⟩ := fresh_store wr zh.toArray 51 q1 (by simp [hzl, hql])
                  have hs5 : wr.heap.size < ((wr.alloc (.cells zh.toArray 51)).setCells wr.heap.size 0 q1).heap.size := by rw [size_sets]; simp
                  obtain ⟨w5, hw5⟩ : ∃ W, (wr.alloc (.cells zh.toArray 51)).setCells wr.heap.size 0 q1 = W := ⟨_, rfl⟩
                  rw [hw5] at hF1 hF2 hF3 hs5 ⊢
                  clear hw5
                  rw [← hqq.out] at hF1
                  have hF1 : w5.rangeAt wr.heap.size 0 g.cells := hF1
                  have rG := (hd_parts hok hF1).1
                  have rGc := (hd_parts hok hF1).2
                  have cg : w5.cell? ⟨wr.heap.size, 38, none⟩ = some (.slice g.sg.a g.sg.xs.length g.sg.cap) := rGc 36 _ (by unfold certL; rw [List.getElem?_append_right (by rw [hok.len]; exact Nat.le_refl _), hok.len]; rfl)
                  have hV5 := hBr.trans (hF2.mono hBr.size)
                  have hB5 := hBw.trans (hF2.mono hBw.size)
                  have aG := hgat.1.below hF2
                  obtain ⟨p6, hp6⟩ : ∃ p, Hid (decide (100 < (g.sg.xs.length : Int)) = p) := ⟨_, hide rfl⟩
                  clear hqq hF1 hF2 hF3 hre hiq hq1 hql hBr hgat rGc
                  go_upto_region 7 with fail
                  try simp only [Act.put]
                  refine pl_begin ?_
                  refine pl_take (d := some 53) (v := ?_) (by rfl) ?_ rfl ?_
                  rotate_left
                  · go_simp
                    try with_reducible rfl
                  simp only [Act.put, List.setIfInBounds_toArray, List.set_cons_zero, List.set_cons_succ]
                  refine pl_take (d := some 54) (v := .agg ([.bool g.q, g.rs.val] : List Value).toArray) (by rfl) (ex_mid rfl rfl rG Try.underlying24 rfl iszBa) rfl ?_
                  simp only [Act.put, List.setIfInBounds_toArray, List.set_cons_zero, List.set_cons_succ]
                  refine pl_run (d := some 55) (v := .slice (some ⟨w5.heap.size, 0, none⟩) 1 1) (w' := w5.alloc (.cells #[.bool g.q, .slice g.rs.a g.rs.xs.length g.rs.cap] 24)) (by rfl) (ex_bsi rfl rfl (run_bsb _ _ _ _ _)) rfl ?_
                  simp only [Act.put, List.setIfInBounds_toArray, List.set_cons_zero, List.set_cons_succ]
                  refine pl_call (d := some 56) (by rfl) (by go_simp; first | done | exact ⟨rfl, rfl⟩ | with_reducible rfl) rfl ?_
                  refine (light1_on g.q g.rs w5 aG).mono ?_
                  rintro _ w9 ⟨b0, rfl, HS⟩
                  refine ⟨_, rfl, ?_⟩
                  simp only [Act.put, List.setIfInBounds_toArray, List.set_cons_zero, List.set_cons_succ]
                  cases b0
                  · refine pl_take (d := some 57) (v := ?_) (by rfl) ?_ rfl ?_
                    rotate_left
                    · go_simp
                      try with_reducible rfl
                    simp only [Act.put, List.setIfInBounds_toArray, List.set_cons_zero, List.set_cons_succ]
                    refine pl_take (d := some 58) (v := ?_) (by rfl) ?_ rfl ?_
                    rotate_left
                    · go_simp
                      try with_reducible rfl
                    simp only [Act.put, List.setIfInBounds_toArray, List.set_cons_zero, List.set_cons_succ]
                    refine pl_skip (d := some 59) (by rfl) rfl ?_
                    simp only [Act.put, List.setIfInBounds_toArray, List.set_cons_zero, List.set_cons_succ]
                    refine pl_skip (d := some 60) (by rfl) rfl ?_
                    simp only [Act.put, List.setIfInBounds_toArray, List.set_cons_zero, List.set_cons_succ]
                    refine pl_skip (d := some 61) (by rfl) rfl ?_
                    simp only [Act.put, List.setIfInBounds_toArray, List.set_cons_zero, List.set_cons_succ]
                    refine pl_skip (d := some 62) (by rfl) rfl ?_
                    simp only [Act.put, List.setIfInBounds_toArray, List.set_cons_zero, List.set_cons_succ]
                    refine pl_skip (d := some 63) (by rfl) rfl ?_
                    simp only [Act.put, List.setIfInBounds_toArray, List.set_cons_zero, List.set_cons_succ]
                    refine pl_take (d := some 64) (v := ?_) (by rfl) ?_ rfl ?_
                    rotate_left
                    · go_simp
                      try with_reducible rfl
                    simp only [Act.put, List.setIfInBounds_toArray, List.set_cons_zero, List.set_cons_succ]
                    refine pl_nil ?_
                    go_wp2_with fail
                    go_ret
                    exact ⟨false, rfl, hB5.trans (HS.mono hB5.size), fun h => by cases h⟩
                  · refine pl_take (d := some 57) (v := ?_) (by rfl) ?_ rfl ?_
                    rotate_left
                    · go_simp
                      try with_reducible rfl
                    simp only [Act.put, List.setIfInBounds_toArray, List.set_cons_zero, List.set_cons_succ]
                    refine pl_take (d := some 58) (v := ?_) (by rfl) ?_ rfl ?_
                    rotate_left
                    · go_simp
                      try with_reducible rfl
                    simp only [Act.put, List.setIfInBounds_toArray, List.set_cons_zero, List.set_cons_succ]
                    refine pl_take (d := some 59) (v := ?_) (by rfl) ?_ rfl ?_
                    rotate_left
                    · go_simp
                      try with_reducible rfl
                    simp only [Act.put, List.setIfInBounds_toArray, List.set_cons_zero, List.set_cons_succ]
                    refine pl_take (d := some 60) (v := ?_) (by rfl) ?_ rfl ?_
                    rotate_left
                    · go_simp
                      try with_reducible rfl
                    simp only [Act.put, List.setIfInBounds_toArray, List.set_cons_zero, List.set_cons_succ]
                    refine pl_take (d := some 61) (v := .slice g.sg.a g.sg.xs.length g.sg.cap) (by rfl) (pl_one rfl rfl ((HS.cell (p := ⟨wr.heap.size, 38, none⟩) hs5).trans cg) Try.underlying33 rfl) rfl ?_
                    simp only [Act.put, List.setIfInBounds_toArray, List.set_cons_zero, List.set_cons_succ]
                    refine pl_take (d := some 62) (v := ?_) (by rfl) ?_ rfl ?_
                    rotate_left
                    · go_simp
                      try with_reducible rfl
                    simp only [Act.put, List.setIfInBounds_toArray, List.set_cons_zero, List.set_cons_succ]
                    refine pl_take (d := some 63) (v := .bool p6) (by rfl) (by rw [← hp6.out]; go_simp) rfl ?_
                    simp only [Act.put, List.setIfInBounds_toArray, List.set_cons_zero, List.set_cons_succ]
                    cases p6
                    · refine pl_take (d := some 64) (v := ?_) (by rfl) ?_ rfl ?_
                      rotate_left
                      · go_simp
                        try with_reducible rfl
                      simp only [Act.put, List.setIfInBounds_toArray, List.set_cons_zero, List.set_cons_succ]
                      refine pl_nil ?_
                      have HN : Hid (Below V.heap.size V w9) := hide (hV5.trans (HS.mono hV5.size))
                      clear HS hV5 hB5 cg aG rG
                      go_wp2_with fail
                      go_roundw
                      case rel => exact ⟨k + 1, by omega, by go_num, HN⟩
                      case measure => simp [intOf]; omega
                    · refine pl_take (d := some 64) (v := ?_) (by rfl) ?_ rfl ?_
                      rotate_left
                      · go_simp
                        try with_reducible rfl
                      simp only [Act.put, List.setIfInBounds_toArray, List.set_cons_zero, List.set_cons_succ]
                      refine pl_nil ?_
                      go_wp2_with fail
                      go_ret
                      exact ⟨false, rfl, hB5.trans (HS.mono hB5.size), fun h => by cases h⟩
                · obtain rfl : k = m.he.xs.length := by omega
                  have cN := (hBr.cell (p := ⟨w.heap.size, 47, none⟩) hsV).trans cNV
                  clear hzl hzh zh cH cNV hRV
                  obtain ⟨U, hUU⟩ : ∃ U, wr = U := ⟨_, rfl⟩
                  rw [hUU] at hBr hBw cN ⊢
                  clear hUU
                  have hBU := hBw
                  obtain ⟨ze, hzel, hze⟩ := zeroEv
                  go_upto_region 10 with fail
                  try simp only [Act.put]
                  refine pl_begin ?_
                  refine pl_take (d := some 66) (v := ?_) (by rfl) ?_ rfl ?_
                  rotate_left
                  · go_simp
                    try with_reducible rfl
                  simp only [Act.put, List.setIfInBounds_toArray, List.set_cons_zero, List.set_cons_succ]
                  refine pl_take (d := some 67) (v := .slice na m.ne.xs.length m.ne.cap) (by rfl) (pl_one rfl rfl cN Try.underlying32 rfl) rfl ?_
                  simp only [Act.put, List.setIfInBounds_toArray, List.set_cons_zero, List.set_cons_succ]
                  refine pl_take (d := some 68) (v := ?_) (by rfl) ?_ rfl ?_
                  rotate_left
                  · go_simp
                    try with_reducible rfl
                  simp only [Act.put, List.setIfInBounds_toArray, List.set_cons_zero, List.set_cons_succ]
                  refine pl_take (d := some 69) (v := ?_) (by rfl) ?_ rfl ?_
                  rotate_left
                  · go_simp
                    try with_reducible rfl
                  simp only [Act.put, List.setIfInBounds_toArray, List.set_cons_zero, List.set_cons_succ]
                  refine pl_nil ?_
                  have HE0 : Hid (wtE (m.ne.xs.take 0) ≤ 6000 ∧ Below U.heap.size U U) := hide ⟨by simp [wtE], Below.refl _ _⟩
                  go_wp2_with fail
                  go_loopw [3, 69] (fun nv iv wr => ∃ k : Nat, k ≤ m.ne.xs.length ∧ iv = .int .i64 (k : Int) ∧ nv = .int .i64 (wtE (m.ne.xs.take k) : Int) ∧ Hid (wtE (m.ne.xs.take k) ≤ 6000 ∧ Below U.heap.size U wr)) (fun _ iv _ => m.ne.xs.length - (intOf iv).toNat)
                  case atStart => exact ⟨0, by omega, rfl, by simp [wtE], HE0⟩
                  case round =>
                    clear HE0
                    obtain ⟨k, hk, rfl, rfl, HK⟩ := hrel
                    obtain ⟨hwk, hBr⟩ := HK.out
                    clear HK
                    have hBw := hBU.trans (hBr.mono hBU.size)
                    by_cases hlt : k < m.ne.xs.length
                    · have k1 : (k : Int) < m.ne.xs.length := by omega
                      have HW := hide (wtE_take m.ne.xs k hlt)
                      have hok := (hne wr hBw).2.1 _ (List.getElem_mem hlt)
                      obtain ⟨b, off, rfl, hbb, hre⟩ := RowsAt.elem (hne wr hBw) k hlt
                      have hre : wr.rangeAt b (off + k * 18) (EvE.f m.ne.xs[k]) := hre
                      have hiq : (Try.prog.info? 55).map (·.size) = some (EvE.f m.ne.xs[k]).length := by rw [EvE.len _ hok]; exact iszEv
                      have hq1 := EvE.one m.ne.xs[k]
                      have hql : (EvE.f m.ne.xs[k]).length = 18 := EvE.len _ hok
                      have hsl : m.ne.xs[k].s.size ≤ maxLen := hok.sl
                      unfold maxLen at hsl
                      obtain ⟨g, hgg⟩ : ∃ g, Hid (m.ne.xs[k] = g) := ⟨_, hide rfl⟩
                      rw [hgg.out] at hre hiq hq1 hql HW hsl
                      clear hgg hok
                      obtain ⟨q1, hqq⟩ : ∃ q, Hid (EvE.f g = q) := ⟨_, hide rfl⟩
                      rw [hqq.out] at hre hiq hq1 hql
                      go_upto_region 12 with fail
                      try simp only [Act.put]
                      refine pl_begin ?_
                      refine pl_take (d := some 71) (v := ?_) (by rfl) ?_ rfl ?_
                      rotate_left
                      · go_simp
                        try with_reducible rfl
                      simp only [Act.put, List.setIfInBounds_toArray, List.set_cons_zero, List.set_cons_succ]
                      refine pl_take (d := some 72) (v := .agg q1.toArray) (by rfl) (ex_mid rfl rfl hre Try.underlying55 rfl hiq) rfl ?_
                      simp only [Act.put, List.setIfInBounds_toArray, List.set_cons_zero, List.set_cons_succ]
                      refine pl_run (d := some 7) (v := .pointer (some ⟨wr.heap.size, 0, none⟩)) (w' := wr.alloc (.cells ze.toArray 55)) (by rfl) (ex_alloc rfl (hze _)) rfl ?_
                      simp only [Act.put, List.setIfInBounds_toArray, List.set_cons_zero, List.set_cons_succ]
                      refine pl_store (w' := (wr.alloc (.cells ze.toArray 55)).setCells wr.heap.size 0 q1) (by rfl) (ex_put (cs := q1.toArray) rfl rfl rfl (there_newN _ _ _ (by simp [hzel, hql])) (by simpa using hiq) (all_one hq1)) rfl ?_
                      refine pl_nil ?_
                      obtain ⟨hF1, hF2, hF3, -⟩ := fresh_store wr ze.toArray 55 q1 (by simp [hzel, hql])
                      obtain ⟨w5, hw5⟩ : ∃ W, (wr.alloc (.cells ze.toArray 55)).setCells wr.heap.size 0 q1 = W := ⟨_, rfl⟩
                      rw [hw5] at hF1 hF2 hF3 ⊢
                      clear hw5
                      rw [← hqq.out] at hF1
                      have cgs : w5.cell? ⟨wr.heap.size, 1, none⟩ = some (.string g.s) := by have := hF1 1 _ rfl; exact this
                      have hU5 := hBr.trans (hF2.mono hBr.size)
                      clear hqq hF1 hF2 hF3 hre hiq hq1 hql hBr
                      have cA := fun w0 => add6000_any (wtE (m.ne.xs.take k) : Int) (g.s.size : Int) w0 (by omega) (by omega) (by omega) (by omega)
                      obtain ⟨p, hp⟩ : ∃ p, Hid (addTo6 (wtE (m.ne.xs.take k) : Int) (g.s.size : Int) = p) := ⟨_, hide rfl⟩
                      simp only [hp.out] at cA
                      obtain ⟨t1, ht1⟩ : ∃ t, Hid (decide (6000 < p) = t) := ⟨_, hide rfl⟩
                      go_upto_region 13 with fail
                      try simp only [Act.put]
                      refine pl_begin ?_
                      refine pl_take (d := some 73) (v := ?_) (by rfl) ?_ rfl ?_
                      rotate_left
                      · go_simp
                        try with_reducible rfl
                      simp only [Act.put, List.setIfInBounds_toArray, List.set_cons_zero, List.set_cons_succ]
                      refine pl_take (d := some 74) (v := ?_) (by rfl) ?_ rfl ?_
                      rotate_left
                      · go_simp
                        try with_reducible rfl
                      simp only [Act.put, List.setIfInBounds_toArray, List.set_cons_zero, List.set_cons_succ]
                      refine pl_take (d := some 75) (v := .string g.s) (by rfl) (pl_one rfl rfl cgs Try.underlying9 rfl) rfl ?_
                      simp only [Act.put, List.setIfInBounds_toArray, List.set_cons_zero, List.set_cons_succ]
                      refine pl_take (d := some 76) (v := ?_) (by rfl) ?_ rfl ?_
                      rotate_left
                      · go_simp
                        try with_reducible rfl
                      simp only [Act.put, List.setIfInBounds_toArray, List.set_cons_zero, List.set_cons_succ]
                      refine pl_call (d := some 77) (by rfl) (by go_simp; first | done | exact ⟨rfl, rfl⟩ | with_reducible rfl) rfl ?_
                      refine (cA w5).mono ?_
                      rintro _ w9 ⟨rfl, hx⟩
                      obtain rfl := hx.symm
                      clear hx
                      refine ⟨_, rfl, ?_⟩
                      simp only [Act.put, List.setIfInBounds_toArray, List.set_cons_zero, List.set_cons_succ]
                      refine pl_take (d := some 3) (v := ?_) (by rfl) ?_ rfl ?_
                      rotate_left
                      · go_simp
                        try with_reducible rfl
                      simp only [Act.put, List.setIfInBounds_toArray, List.set_cons_zero, List.set_cons_succ]
                      refine pl_nil ?_
                      go_upto_region 14 with fail
                      try simp only [Act.put]
                      refine pl_begin ?_
                      refine pl_take (d := some 78) (v := ?_) (by rfl) ?_ rfl ?_
                      rotate_left
                      · go_simp
                        try with_reducible rfl
                      simp only [Act.put, List.setIfInBounds_toArray, List.set_cons_zero, List.set_cons_succ]
                      refine pl_take (d := some 79) (v := .bool t1) (by rfl) (by rw [← ht1.out]; go_simp) rfl ?_
                      simp only [Act.put, List.setIfInBounds_toArray, List.set_cons_zero, List.set_cons_succ]
                      refine pl_nil ?_
                      cases t1
                      · have hp6 : p ≤ 6000 := by have := of_decide_eq_false ht1.out; omega
                        have HP : Hid (p = (wtE (m.ne.xs.take (k + 1)) : Int) ∧ wtE (m.ne.xs.take (k + 1)) ≤ 6000 ∧ Below U.heap.size U w5) := by
                          have h1 := hp.out
                          have h2 := HW.out
                          unfold addTo6 at h1
                          split at h1
                          · exact hide ⟨by omega, by omega, hU5⟩
                          · omega
                        clear hp ht1 HW cA cgs hU5 hp6
                        go_wp2_with fail
                        go_roundw
                        case rel => exact ⟨k + 1, by omega, by go_num, congrArg (Value.int .i64) HP.out.1, hide HP.out.2⟩
                        case measure => simp [intOf]; omega
                      · have hB5 := hBU.trans (hU5.mono hBU.size)
                        clear hp HW cA cgs
                        go_wp2_with fail
                        go_ret
                        exact ⟨false, rfl, hB5, fun h => by cases h⟩
                    · obtain rfl : k = m.ne.xs.length := by omega
                      rw [List.take_length] at hwk
                      have HF : Hid (LightS m w (.returned (.bool true)) wr) := hide ⟨true, rfl, hBw, fun _ => ⟨hst, hcs, hwk⟩⟩
                      go_wp2_with fail
                      go_ret
                      exact HF.out
            · refine pl_take (d := some 44) (v := ?_) (by rfl) ?_ rfl ?_
              rotate_left
              · go_simp
                try with_reducible rfl
              simp only [Act.put, List.setIfInBounds_toArray, List.set_cons_zero, List.set_cons_succ]
              refine pl_nil ?_
              go_wp2_with fail
              go_ret
              exact ⟨false, rfl, hB1.trans (HS.mono hB1.size), fun h => by cases h⟩
          · refine pl_take (d := some 38) (v := ?_) (by rfl) ?_ rfl ?_
            rotate_left
            · go_simp
              try with_reducible rfl
            simp only [Act.put, List.setIfInBounds_toArray, List.set_cons_zero, List.set_cons_succ]
            refine pl_take (d := some 39) (v := ?_) (by rfl) ?_ rfl ?_
            rotate_left
            · go_simp
              try with_reducible rfl
            simp only [Act.put, List.setIfInBounds_toArray, List.set_cons_zero, List.set_cons_succ]
            refine pl_skip (d := some 40) (by rfl) rfl ?_
            simp only [Act.put, List.setIfInBounds_toArray, List.set_cons_zero, List.set_cons_succ]
            refine pl_skip (d := some 41) (by rfl) rfl ?_
            simp only [Act.put, List.setIfInBounds_toArray, List.set_cons_zero, List.set_cons_succ]
            refine pl_skip (d := some 42) (by rfl) rfl ?_
            simp only [Act.put, List.setIfInBounds_toArray, List.set_cons_zero, List.set_cons_succ]
            refine pl_skip (d := some 43) (by rfl) rfl ?_
            simp only [Act.put, List.setIfInBounds_toArray, List.set_cons_zero, List.set_cons_succ]
            refine pl_take (d := some 44) (v := ?_) (by rfl) ?_ rfl ?_
            rotate_left
            · go_simp
              try with_reducible rfl
            simp only [Act.put, List.setIfInBounds_toArray, List.set_cons_zero, List.set_cons_succ]
            refine pl_nil ?_
            go_wp2_with fail
            go_ret
            exact ⟨false, rfl, hB1.trans (HS.mono hB1.size), fun h => by cases h⟩
        · refine pl_take (d := some 31) (v := ?_) (by rfl) ?_ rfl ?_
          rotate_left
          · go_simp
            try with_reducible rfl
          simp only [Act.put, List.setIfInBounds_toArray, List.set_cons_zero, List.set_cons_succ]
          refine pl_take (d := some 32) (v := ?_) (by rfl) ?_ rfl ?_
          rotate_left
          · go_simp
            try with_reducible rfl
          simp only [Act.put, List.setIfInBounds_toArray, List.set_cons_zero, List.set_cons_succ]
          refine pl_skip (d := some 33) (by rfl) rfl ?_
          simp only [Act.put, List.setIfInBounds_toArray, List.set_cons_zero, List.set_cons_succ]
          refine pl_skip (d := some 34) (by rfl) rfl ?_
          simp only [Act.put, List.setIfInBounds_toArray, List.set_cons_zero, List.set_cons_succ]
          refine pl_skip (d := some 35) (by rfl) rfl ?_
          simp only [Act.put, List.setIfInBounds_toArray, List.set_cons_zero, List.set_cons_succ]
          refine pl_skip (d := some 36) (by rfl) rfl ?_
          simp only [Act.put, List.setIfInBounds_toArray, List.set_cons_zero, List.set_cons_succ]
          refine pl_skip (d := some 37) (by rfl) rfl ?_
          simp only [Act.put, List.setIfInBounds_toArray, List.set_cons_zero, List.set_cons_succ]
          refine pl_take (d := some 38) (v := ?_) (by rfl) ?_ rfl ?_
          rotate_left
          · go_simp
            try with_reducible rfl
          simp only [Act.put, List.setIfInBounds_toArray, List.set_cons_zero, List.set_cons_succ]
          refine pl_take (d := some 39) (v := ?_) (by rfl) ?_ rfl ?_
          rotate_left
          · go_simp
            try with_reducible rfl
          simp only [Act.put, List.setIfInBounds_toArray, List.set_cons_zero, List.set_cons_succ]
          refine pl_skip (d := some 40) (by rfl) rfl ?_
          simp only [Act.put, List.setIfInBounds_toArray, List.set_cons_zero, List.set_cons_succ]
          refine pl_skip (d := some 41) (by rfl) rfl ?_
          simp only [Act.put, List.setIfInBounds_toArray, List.set_cons_zero, List.set_cons_succ]
          refine pl_skip (d := some 42) (by rfl) rfl ?_
          simp only [Act.put, List.setIfInBounds_toArray, List.set_cons_zero, List.set_cons_succ]
          refine pl_skip (d := some 43) (by rfl) rfl ?_
          simp only [Act.put, List.setIfInBounds_toArray, List.set_cons_zero, List.set_cons_succ]
          refine pl_take (d := some 44) (v := ?_) (by rfl) ?_ rfl ?_
          rotate_left
          · go_simp
            try with_reducible rfl
          simp only [Act.put, List.setIfInBounds_toArray, List.set_cons_zero, List.set_cons_succ]
          refine pl_nil ?_
          go_wp2_with fail
          go_ret
          exact ⟨false, rfl, hB1.trans (HS.mono hB1.size), fun h => by cases h⟩
      · refine pl_take (d := some 24) (v := ?_) (by rfl) ?_ rfl ?_
        rotate_left
        · go_simp
          try with_reducible rfl
        simp only [Act.put, List.setIfInBounds_toArray, List.set_cons_zero, List.set_cons_succ]
        refine pl_take (d := some 25) (v := ?_) (by rfl) ?_ rfl ?_
        rotate_left
        · go_simp
          try with_reducible rfl
        simp only [Act.put, List.setIfInBounds_toArray, List.set_cons_zero, List.set_cons_succ]
        refine pl_skip (d := some 26) (by rfl) rfl ?_
        simp only [Act.put, List.setIfInBounds_toArray, List.set_cons_zero, List.set_cons_succ]
        refine pl_skip (d := some 27) (by rfl) rfl ?_
        simp only [Act.put, List.setIfInBounds_toArray, List.set_cons_zero, List.set_cons_succ]
        refine pl_skip (d := some 28) (by rfl) rfl ?_
        simp only [Act.put, List.setIfInBounds_toArray, List.set_cons_zero, List.set_cons_succ]
        refine pl_skip (d := some 29) (by rfl) rfl ?_
        simp only [Act.put, List.setIfInBounds_toArray, List.set_cons_zero, List.set_cons_succ]
        refine pl_skip (d := some 30) (by rfl) rfl ?_
        simp only [Act.put, List.setIfInBounds_toArray, List.set_cons_zero, List.set_cons_succ]
        refine pl_take (d := some 31) (v := ?_) (by rfl) ?_ rfl ?_
        rotate_left
        · go_simp
          try with_reducible rfl
        simp only [Act.put, List.setIfInBounds_toArray, List.set_cons_zero, List.set_cons_succ]
        refine pl_take (d := some 32) (v := ?_) (by rfl) ?_ rfl ?_
        rotate_left
        · go_simp
          try with_reducible rfl
        simp only [Act.put, List.setIfInBounds_toArray, List.set_cons_zero, List.set_cons_succ]
        refine pl_skip (d := some 33) (by rfl) rfl ?_
        simp only [Act.put, List.setIfInBounds_toArray, List.set_cons_zero, List.set_cons_succ]
        refine pl_skip (d := some 34) (by rfl) rfl ?_
        simp only [Act.put, List.setIfInBounds_toArray, List.set_cons_zero, List.set_cons_succ]
        refine pl_skip (d := some 35) (by rfl) rfl ?_
        simp only [Act.put, List.setIfInBounds_toArray, List.set_cons_zero, List.set_cons_succ]
        refine pl_skip (d := some 36) (by rfl) rfl ?_
        simp only [Act.put, List.setIfInBounds_toArray, List.set_cons_zero, List.set_cons_succ]
        refine pl_skip (d := some 37) (by rfl) rfl ?_
        simp only [Act.put, List.setIfInBounds_toArray, List.set_cons_zero, List.set_cons_succ]
        refine pl_take (d := some 38) (v := ?_) (by rfl) ?_ rfl ?_
        rotate_left
        · go_simp
          try with_reducible rfl
        simp only [Act.put, List.setIfInBounds_toArray, List.set_cons_zero, List.set_cons_succ]
        refine pl_take (d := some 39) (v := ?_) (by rfl) ?_ rfl ?_
        rotate_left
        · go_simp
          try with_reducible rfl
        simp only [Act.put, List.setIfInBounds_toArray, List.set_cons_zero, List.set_cons_succ]
        refine pl_skip (d := some 40) (by rfl) rfl ?_
        simp only [Act.put, List.setIfInBounds_toArray, List.set_cons_zero, List.set_cons_succ]
        refine pl_skip (d := some 41) (by rfl) rfl ?_
        simp only [Act.put, List.setIfInBounds_toArray, List.set_cons_zero, List.set_cons_succ]
        refine pl_skip (d := some 42) (by rfl) rfl ?_
        simp only [Act.put, List.setIfInBounds_toArray, List.set_cons_zero, List.set_cons_succ]
        refine pl_skip (d := some 43) (by rfl) rfl ?_
        simp only [Act.put, List.setIfInBounds_toArray, List.set_cons_zero, List.set_cons_succ]
        refine pl_take (d := some 44) (v := ?_) (by rfl) ?_ rfl ?_
        rotate_left
        · go_simp
          try with_reducible rfl
        simp only [Act.put, List.setIfInBounds_toArray, List.set_cons_zero, List.set_cons_succ]
        refine pl_nil ?_
        go_wp2_with fail
        go_ret
        exact ⟨false, rfl, hB1.trans (HS.mono hB1.size), fun h => by cases h⟩
    · refine pl_take (d := some 18) (v := ?_) (by rfl) ?_ rfl ?_
      rotate_left
      · go_simp
        try with_reducible rfl
      simp only [Act.put, List.setIfInBounds_toArray, List.set_cons_zero, List.set_cons_succ]
      refine pl_take (d := some 19) (v := ?_) (by rfl) ?_ rfl ?_
      rotate_left
      · go_simp
        try with_reducible rfl
      simp only [Act.put, List.setIfInBounds_toArray, List.set_cons_zero, List.set_cons_succ]
      refine pl_skip (d := some 20) (by rfl) rfl ?_
      simp only [Act.put, List.setIfInBounds_toArray, List.set_cons_zero, List.set_cons_succ]
      refine pl_skip (d := some 21) (by rfl) rfl ?_
      simp only [Act.put, List.setIfInBounds_toArray, List.set_cons_zero, List.set_cons_succ]
      refine pl_skip (d := some 22) (by rfl) rfl ?_
      simp only [Act.put, List.setIfInBounds_toArray, List.set_cons_zero, List.set_cons_succ]
      refine pl_skip (d := some 23) (by rfl) rfl ?_
      simp only [Act.put, List.setIfInBounds_toArray, List.set_cons_zero, List.set_cons_succ]
      refine pl_take (d := some 24) (v := ?_) (by rfl) ?_ rfl ?_
      rotate_left
      · go_simp
        try with_reducible rfl
      simp only [Act.put, List.setIfInBounds_toArray, List.set_cons_zero, List.set_cons_succ]
      refine pl_take (d := some 25) (v := ?_) (by rfl) ?_ rfl ?_
      rotate_left
      · go_simp
        try with_reducible rfl
      simp only [Act.put, List.setIfInBounds_toArray, List.set_cons_zero, List.set_cons_succ]
      refine pl_skip (d := some 26) (by rfl) rfl ?_
      simp only [Act.put, List.setIfInBounds_toArray, List.set_cons_zero, List.set_cons_succ]
      refine pl_skip (d := some 27) (by rfl) rfl ?_
      simp only [Act.put, List.setIfInBounds_toArray, List.set_cons_zero, List.set_cons_succ]
      refine pl_skip (d := some 28) (by rfl) rfl ?_
      simp only [Act.put, List.setIfInBounds_toArray, List.set_cons_zero, List.set_cons_succ]
      refine pl_skip (d := some 29) (by rfl) rfl ?_
      simp only [Act.put, List.setIfInBounds_toArray, List.set_cons_zero, List.set_cons_succ]
      refine pl_skip (d := some 30) (by rfl) rfl ?_
      simp only [Act.put, List.setIfInBounds_toArray, List.set_cons_zero, List.set_cons_succ]
      refine pl_take (d := some 31) (v := ?_) (by rfl) ?_ rfl ?_
      rotate_left
      · go_simp
        try with_reducible rfl
      simp only [Act.put, List.setIfInBounds_toArray, List.set_cons_zero, List.set_cons_succ]
      refine pl_take (d := some 32) (v := ?_) (by rfl) ?_ rfl ?_
      rotate_left
      · go_simp
        try with_reducible rfl
      simp only [Act.put, List.setIfInBounds_toArray, List.set_cons_zero, List.set_cons_succ]
      refine pl_skip (d := some 33) (by rfl) rfl ?_
      simp only [Act.put, List.setIfInBounds_toArray, List.set_cons_zero, List.set_cons_succ]
      refine pl_skip (d := some 34) (by rfl) rfl ?_
      simp only [Act.put, List.setIfInBounds_toArray, List.set_cons_zero, List.set_cons_succ]
      refine pl_skip (d := some 35) (by rfl) rfl ?_
      simp only [Act.put, List.setIfInBounds_toArray, List.set_cons_zero, List.set_cons_succ]
      refine pl_skip (d := some 36) (by rfl) rfl ?_
      simp only [Act.put, List.setIfInBounds_toArray, List.set_cons_zero, List.set_cons_succ]
      refine pl_skip (d := some 37) (by rfl) rfl ?_
      simp only [Act.put, List.setIfInBounds_toArray, List.set_cons_zero, List.set_cons_succ]
      refine pl_take (d := some 38) (v := ?_) (by rfl) ?_ rfl ?_
      rotate_left
      · go_simp
        try with_reducible rfl
      simp only [Act.put, List.setIfInBounds_toArray, List.set_cons_zero, List.set_cons_succ]
      refine pl_take (d := some 39) (v := ?_) (by rfl) ?_ rfl ?_
      rotate_left
      · go_simp
        try with_reducible rfl
      simp only [Act.put, List.setIfInBounds_toArray, List.set_cons_zero, List.set_cons_succ]
      refine pl_skip (d := some 40) (by rfl) rfl ?_
      simp only [Act.put, List.setIfInBounds_toArray, List.set_cons_zero, List.set_cons_succ]
      refine pl_skip (d := some 41) (by rfl) rfl ?_
      simp only [Act.put, List.setIfInBounds_toArray, List.set_cons_zero, List.set_cons_succ]
      refine pl_skip (d := some 42) (by rfl) rfl ?_
      simp only [Act.put, List.setIfInBounds_toArray, List.set_cons_zero, List.set_cons_succ]
      refine pl_skip (d := some 43) (by rfl) rfl ?_
      simp only [Act.put, List.setIfInBounds_toArray, List.set_cons_zero, List.set_cons_succ]
      refine pl_take (d := some 44) (v := ?_) (by rfl) ?_ rfl ?_
      rotate_left
      · go_simp
        try with_reducible rfl
      simp only [Act.put, List.setIfInBounds_toArray, List.set_cons_zero, List.set_cons_succ]
      refine pl_nil ?_
      go_wp2_with fail
      go_ret
      exact ⟨false, rfl, hB1.trans (HS.mono hB1.size), fun h => by cases h⟩
end Go.Proofs.Ytahdmajppnffeaa
namespace Go.Proofs.Ytahdmajppnffeaa
open Go.RowKit
open Sha Tal
set_option linter.unusedVariables false
theorem flat_bound {α : Type} {f : α → List Int} {K : Nat} : ∀ (xs : List α), (∀ x ∈ xs, (f x).length ≤ K) → (xs.flatMap f).length ≤ xs.length * K
  | [], _ => by simp
  | x :: xs, h => by
    have h1 := h x (by simp)
    have h2 := flat_bound xs (fun y hy => h y (by simp [hy]))
    simp only [List.flatMap_cons, List.length_append, List.length_cons, Nat.add_mul, Nat.one_mul]
    omega
theorem inB_le {n m : Int} (h : inB n m = true) : 0 ≤ n ∧ n ≤ m := by
  unfold inB at h
  exact of_decide_eq_true h
theorem batMay_le {q : Bool} {x : Sl Rq} (h : batMay q x = true) : x.xs.length ≤ 4 ∧ ∀ r ∈ x.xs, r.s.size ≤ 64 := by
  unfold batMay at h
  split at h
  · have := of_decide_eq_true h
    have e : x.xs = [] := List.eq_nil_of_length_eq_zero this
    rw [e]
    simp
  · unfold mayL at h
    rw [Bool.and_eq_true] at h
    have h1 := of_decide_eq_true h.1
    refine ⟨by omega, fun r hr => ?_⟩
    have h2 := List.all_eq_true.1 h.2 r hr
    unfold Rq.may at h2
    rw [Bool.and_eq_true, Bool.and_eq_true] at h2
    have := of_decide_eq_true h2.2.2
    omega
theorem req_le {r : Rq} (h : r.ok) (hs : r.s.size ≤ 64) : (BRq.of r).bytes.length ≤ 120 := by
  have h1 := putL_le r.c h.ch
  have h2 := putL_le r.n h.nh
  have h3 := putL_le (r.s.size : Int) (by omega)
  have h4 := h.tl
  simp only [BRq.of, BRq.bytes, textL, List.length_append, strL_length]
  omega
theorem bat_le {q : Bool} {x : Sl Rq} {w : World} (hx : x.At RqE w) (hm : batMay q x = true) : (batL q (x.xs.map BRq.of)).length ≤ 500 := by
  obtain ⟨h1, h2⟩ := batMay_le hm
  unfold batL
  split
  · have := putL_le 0 (by omega); omega
  · have k := flat_bound (f := BRq.bytes) (K := 120) (x.xs.map BRq.of) (fun y hy => by
      obtain ⟨r, hr, rfl⟩ := List.mem_map.1 hy
      exact req_le (hx.2.1 r hr) (h2 r hr))
    rw [List.length_map] at k
    have p := putL_le (((x.xs.map BRq.of).length : Int) + 1) (by rw [List.length_map]; omega)
    rw [List.length_append]
    omega
theorem sgs_le {xs : List Sg} (h : ∀ g ∈ xs, g.ok) (hn : xs.length ≤ 100) : (sgsL xs).length ≤ 2600 := by
  have k := flat_bound (f := sgL) (K := 25) xs (fun g hg => by
    have h1 := putL_le g.n (h g hg).nh
    have h2 := (h g hg).tl
    unfold sgL
    rw [List.length_append]
    omega)
  have p := putL_le (xs.length : Int) (by omega)
  unfold sgsL
  rw [List.length_append]
  omega
theorem vt_le {x : Vt} (h : x.ok) : (vtL x).length ≤ 68 := by
  have h1 := putL_le x.k h.k
  have h2 := putL_le x.e h.e
  have h3 := putL_le x.v h.v
  have h4 := putL_le x.s h.s
  have h5 := h.dl
  simp only [vtL, List.flatMap_cons, List.flatMap_nil, List.append_nil, List.length_append]
  omega
theorem ct_le {x : Vt} {xs : List Sg} (hx : x.ok) (h : ∀ g ∈ xs, g.ok) (hn : xs.length ≤ 100) : (ctL x xs).length ≤ 2700 := by
  have h1 := vt_le hx
  have h2 := sgs_le h hn
  unfold ctL
  rw [List.length_append]
  omega
theorem sgsMay_le {x : Sl Sg} (h : sgsMay x = true) : x.xs.length ≤ 64 := by
  unfold sgsMay mayL at h
  rw [Bool.and_eq_true] at h
  have := of_decide_eq_true h.1
  omega
theorem hd_le {g : Hd} {w : World} (ho : g.vt.ok) (ha : g.At w) (hm : g.may = true) : (hdL g).length ≤ 3200 ∧ g.sg.xs.length ≤ 64 ∧ g.rs.xs.length ≤ 4 ∧ ∀ r ∈ g.rs.xs, r.s.size ≤ 64 := by
  unfold Hd.may certMay at hm
  rw [Bool.and_eq_true, Bool.and_eq_true] at hm
  obtain ⟨h1, _, h3⟩ := hm
  have hs := sgsMay_le h3
  have k1 := bat_le ha.1 h1
  have k2 := ct_le ho (ha.2.2.1) (by omega : g.sg.xs.length ≤ 100)
  obtain ⟨b1, b2⟩ := batMay_le h1
  refine ⟨?_, hs, b1, b2⟩
  unfold hdL
  rw [List.length_append]
  omega
theorem evs_le : ∀ (xs : List Ev), (∀ g ∈ xs, g.ok) → (∀ g ∈ xs, g.s.size ≤ 6000) → (xs.flatMap evL).length ≤ xs.length * 34 + wtE xs
  | [], _, _ => by simp
  | x :: xs, h, hs => by
    have h2 := evs_le xs (fun y hy => h y (by simp [hy])) (fun y hy => hs y (by simp [hy]))
    have h0 := h x (by simp)
    have h1 := putL_le x.n h0.nh
    have h4 := hs x (by simp)
    have h3 := putL_le (x.s.size : Int) (by omega)
    have h5 := h0.tl
    have hw : wtE (x :: xs) = x.s.size + wtE xs := by simp [wtE]
    rw [hw]
    simp only [List.flatMap_cons, List.length_append, List.length_cons, Nat.add_mul, Nat.one_mul, evL, textL, strL_length]
    omega
theorem wtE_mem : ∀ {xs : List Ev} {g : Ev}, g ∈ xs → g.s.size ≤ wtE xs
  | x :: xs, g, h => by
    have hw : wtE (x :: xs) = x.s.size + wtE xs := by simp [wtE]
    rcases List.mem_cons.1 h with rfl | h
    · omega
    · have := wtE_mem h; omega
theorem fine_of {m : Mg} {w : World} (om : m.ok) (am : m.At w) (hg : m.good = true) (hl : m.light) : m.Fine := by
  obtain ⟨h1, h8⟩ := Mg.good_k hg
  obtain ⟨l1, l2, l3⟩ := hl
  unfold Mg.good at hg
  rw [Bool.and_eq_true, Bool.and_eq_true] at hg
  have hm := hg.2.2
  clear hg
  unfold Mg.may Mg.mayL chgMay at hm
  simp only [Bool.and_eq_true] at hm
  obtain ⟨⟨a1, a2⟩, ⟨a3, a4⟩, a5, a6, a7, ⟨⟨c1, c2, c3⟩, c4⟩, a9, a10, a11⟩ := hm
  have e1 := inB_le a1
  have e2 := inB_le a2
  have e3 := inB_le a3
  have e4 := inB_le a4
  have e5 := inB_le c1
  have e6 := inB_le c2
  have e7 := inB_le c3
  clear a1 a2 a3 a4 a5 a6 c1 c2 c3
  obtain ⟨b1, b2⟩ := batMay_le a7
  have b3 := bat_le am.rs a7
  have s1 := sgsMay_le a11
  have s2 := sgs_le am.sg.2.1 (by omega : m.sg.xs.length ≤ 100)
  have s3 := ct_le om.ct am.cs.2.1 l2
  unfold mayL at c4 a9
  rw [Bool.and_eq_true] at c4 a9
  have d1 := of_decide_eq_true c4.1
  have d2 := of_decide_eq_true a9.1
  have hh := fun g (hgm : g ∈ m.he.xs) => hd_le (am.he.1.2.1 g hgm) (am.he.2 g hgm) (List.all_eq_true.1 c4.2 g hgm)
  have f1 := flat_bound (f := hdL) (K := 3200) m.he.xs (fun g hgm => (hh g hgm).1)
  have hs := fun g (hgm : g ∈ m.ne.xs) => Nat.le_trans (wtE_mem hgm) l3
  have f2 := evs_le m.ne.xs am.ne.2.1 hs
  have f3 := vt_le om.vt
  have p (n : Int) (hn : n ≤ 9223372036854775807) := putL_le n hn
  have pk := p m.k (by omega)
  have pe := p m.e (by omega)
  have ps := p m.s (by omega)
  have pl := p m.l (by omega)
  have pv := p m.v (by omega)
  have pc := p m.ce (by omega)
  have pd := p m.cl (by omega)
  have pf := p m.cv (by omega)
  have ph := p (m.he.xs.length : Int) (by omega)
  have pn := p (m.ne.xs.length : Int) (by omega)
  have pt := p (m.st.size : Int) (by omega)
  have dl := om.dl
  refine ⟨by omega, by omega, by omega, by omega, by omega, by omega, by omega, by omega, fun r hr => by have := b2 r hr; omega, by omega, fun g hgm => ?_, by omega, fun g hgm => by have := hs g hgm; omega, by omega, by omega, by omega, ?_⟩
  · obtain ⟨_, q1, q2, q3⟩ := hh g hgm
    exact ⟨by omega, by omega, fun r hr => by have := q3 r hr; omega⟩
  · unfold Mg.bytes
    rw [List.length_append]
    have hk : m.body.length ≤ 39000 := by
      unfold Mg.body
      split
      · simp only [List.flatMap_cons, List.flatMap_nil, List.append_nil, List.length_append]; omega
      split
      · omega
      split
      · simp only [hdsL, List.flatMap_cons, List.flatMap_nil, List.append_nil, List.length_append]; omega
      split
      · simp only [evsL, List.flatMap_cons, List.flatMap_nil, List.append_nil, List.length_append]; omega
      split
      · simp only [List.length_append]; omega
      split
      · simp only [List.flatMap_cons, List.flatMap_nil, List.append_nil, List.length_append]; omega
      split
      · simp only [List.length_append]; omega
      · simp only [textL, strL_length, List.length_append]; omega
    omega
end Go.Proofs.Ytahdmajppnffeaa
