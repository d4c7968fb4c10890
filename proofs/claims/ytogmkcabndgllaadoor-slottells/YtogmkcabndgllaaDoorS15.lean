/- lists of signs compared -/
import Derived.Test.YtogmkcabndgllaaDoorSM
namespace Go.Proofs.YtogmkcabndgllaaDoor
open Go.RowKit
open Sha Tal
set_option linter.unusedVariables false
set_option maxRecDepth 100000 in
set_option maxHeartbeats 4000000 in
theorem equalS_any (a : Option Addr) (cap : Nat) (rs : List Sg) (a' : Option Addr) (cap' : Nat) (rs' : List Sg) (hl1 : rs.length ≤ 1000) (hl2 : rs'.length ≤ 1000) (w : World) (h : SigsAt w a rs) (h' : SigsAt w a' rs') :
    Calls Tryd.prog 46 #[.slice a rs.length cap, .slice a' rs'.length cap'] w fun e w' => ((e = .returned (.bool true) ∧ rs = rs') ∨ (e = .returned (.bool false) ∧ rs ≠ rs')) ∧ Below w.heap.size w w' := by
  have hall := h.2.1
  have hall' := h'.2.1
  by_cases hlen : rs.length = rs'.length
  rotate_left
  · have e0 : ((rs.length : Int) == rs'.length) = false := by simp; omega
    have HL := hide hlen
    clear hlen
    go_enter Tryd.func46, Tryd.ntmps46
    go_wp2
    go_ret
    exact ⟨.inr ⟨rfl, fun hh => HL.out (by rw [hh])⟩, Below.refl _ _⟩
  · have e0 : ((rs.length : Int) == rs'.length) = true := by simp; omega
    have HL := hide hlen
    clear hlen
    go_enter Tryd.func46, Tryd.ntmps46
    go_wp2
    go_loopw [13] (fun iv wr => ∃ k : Nat, k ≤ rs.length ∧ iv = .int .i64 (k : Int) ∧ Hid (∀ j (hj : j < rs.length) (hj' : j < rs'.length), j < k → rs[j] = rs'[j]) ∧ Below w.heap.size w wr) (fun iv _ => rs.length - (intOf iv).toNat)
    case atStart => exact ⟨0, by omega, rfl, hide (fun j _ _ hj => absurd hj (by omega)), Below.refl _ _⟩
    case round =>
      clear e0
      obtain ⟨k, hk, rfl, HM, hB⟩ := hrel
      by_cases hlt : k < rs.length
      · have k1 : (k : Int) < rs.length := by omega
        have hlt' : k < rs'.length := by have := HL.out; omega
        have k1' : (k : Int) < rs'.length := by omega
        obtain ⟨b, off, rfl, hb, hre⟩ := (h.below hB).elem k hlt
        obtain ⟨b', off', rfl, hb', hre'⟩ := (h'.below hB).elem k hlt'
        obtain ⟨r, hr⟩ : ∃ r, Hid (rs[k] = r) := ⟨_, hide rfl⟩
        obtain ⟨r', hr'⟩ : ∃ r', Hid (rs'[k] = r') := ⟨_, hide rfl⟩
        have hok : r.ok := by rw [← hr.out]; exact hall _ (List.getElem_mem hlt)
        have hok' : r'.ok := by rw [← hr'.out]; exact hall' _ (List.getElem_mem hlt')
        rw [hr.out] at hre
        rw [hr'.out] at hre'
        have HM' : Hid (r = r' → ∀ j (hj : j < rs.length) (hj' : j < rs'.length), j < k + 1 → rs[j] = rs'[j]) := hide (fun hp j hj hj' hjk => by
          by_cases e : j = k
          · subst e; rw [hr.out, hr'.out]; exact hp
          · exact HM.out j hj hj' (by omega))
        have HN' : Hid (r ≠ r' → rs ≠ rs') := hide (fun hp he => by
          apply hp
          rw [← hr.out, ← hr'.out]
          subst he
          rfl)
        clear hr hr' HM
        have hiu : (Tryd.prog.info? 101).map (·.size) = some r.cells.length := by rw [hok.length]; exact iszG
        have hiu' : (Tryd.prog.info? 101).map (·.size) = some r'.cells.length := by rw [hok'.length]; exact iszG
        have hne := fun w0 => neqS r r' hok hok' w0
        have hbb : ((r.n == r'.n) && (r.t == r'.t)) = decide (r = r') := by
          cases r; cases r'; simp [Bool.beq_eq_decide_eq]
        rw [hbb] at hne
        clear hbb
        obtain ⟨u, hu⟩ : ∃ u, Hid (r.cells = u) := ⟨_, hide rfl⟩
        obtain ⟨u', hu'⟩ : ∃ u', Hid (r'.cells = u') := ⟨_, hide rfl⟩
        rw [hu.out] at hre hiu
        rw [hu'.out] at hre' hiu'
        simp only [hu.out, hu'.out] at hne
        clear hu hu' hok hok'
        by_cases hrr : r = r'
        · have e1 : decide (r = r') = true := decide_eq_true hrr
          simp only [e1, Bool.not_true] at hne
          have HR := hide hrr
          clear hrr e1
          go_upto_region 6 with fail
          obtain ⟨w5, hw5⟩ : ∃ w5, wr.drew = w5 := ⟨_, rfl⟩
          have hB5 : Below w.heap.size w w5 := by rw [← hw5]; exact hB.drew
          have hre5 : w5.rangeAt b (off + k * 17) u := by rw [← hw5]; exact (World.rangeAt_drew _ _ _ _).2 hre
          have hre5' : w5.rangeAt b' (off' + k * 17) u' := by rw [← hw5]; exact (World.rangeAt_drew _ _ _ _).2 hre'
          have hb5 : b < w5.heap.size := by rw [← hw5]; exact hb
          have hb5' : b' < w5.heap.size := by rw [← hw5]; exact hb'
          refine hs_begin (S := (Below w5.heap.size w5)) 9 rfl (by kernel_rfl) ?_
          rw [hw5]
          clear hw5 hB hre hre' hb hb'
          have hS : (Below w5.heap.size w5) w5 := Below.refl _ _
          refine hs_take (i := 0) (d := some 16) (v := ?_) rfl (by kernel_rfl) (by kernel_rfl) (by kernel_rfl) (by rfl) ?_ hS rfl ?_
          rotate_left
          · intro w' hw
            go_simp
            try with_reducible rfl
          simp only [Act.put, List.setIfInBounds_toArray, List.set_cons_zero, List.set_cons_succ]
          refine hs_take (i := 1) (d := some 17) (v := ?_) rfl (by kernel_rfl) (by kernel_rfl) (by kernel_rfl) (by rfl) ?_ hS rfl ?_
          rotate_left
          · intro w' hw
            go_simp
            try with_reducible rfl
          simp only [Act.put, List.setIfInBounds_toArray, List.set_cons_zero, List.set_cons_succ]
          refine hs_take (i := 2) (d := some 18) (v := ?_) rfl (by kernel_rfl) (by kernel_rfl) (by kernel_rfl) (by rfl) ?_ hS rfl ?_
          rotate_left
          · intro w' hw
            go_simp
            try with_reducible rfl
          simp only [Act.put, List.setIfInBounds_toArray, List.set_cons_zero, List.set_cons_succ]
          refine hs_take (i := 3) (d := some 19) (v := .agg u.toArray) rfl (by kernel_rfl) (by kernel_rfl) (by kernel_rfl) (by rfl) (fun w' hw => ex_mid rfl rfl (range_below hre5 hw hb5) Tryd.underlying101 rfl hiu) hS rfl ?_
          simp only [Act.put, List.setIfInBounds_toArray, List.set_cons_zero, List.set_cons_succ]
          refine hs_take (i := 4) (d := some 20) (v := ?_) rfl (by kernel_rfl) (by kernel_rfl) (by kernel_rfl) (by rfl) ?_ hS rfl ?_
          rotate_left
          · intro w' hw
            go_simp
            try with_reducible rfl
          simp only [Act.put, List.setIfInBounds_toArray, List.set_cons_zero, List.set_cons_succ]
          refine hs_take (i := 5) (d := some 21) (v := ?_) rfl (by kernel_rfl) (by kernel_rfl) (by kernel_rfl) (by rfl) ?_ hS rfl ?_
          rotate_left
          · intro w' hw
            go_simp
            try with_reducible rfl
          simp only [Act.put, List.setIfInBounds_toArray, List.set_cons_zero, List.set_cons_succ]
          refine hs_take (i := 6) (d := some 22) (v := ?_) rfl (by kernel_rfl) (by kernel_rfl) (by kernel_rfl) (by rfl) ?_ hS rfl ?_
          rotate_left
          · intro w' hw
            go_simp
            try with_reducible rfl
          simp only [Act.put, List.setIfInBounds_toArray, List.set_cons_zero, List.set_cons_succ]
          refine hs_take (i := 7) (d := some 23) (v := .agg u'.toArray) rfl (by kernel_rfl) (by kernel_rfl) (by kernel_rfl) (by rfl) (fun w' hw => ex_mid rfl rfl (range_below hre5' hw hb5') Tryd.underlying101 rfl hiu') hS rfl ?_
          simp only [Act.put, List.setIfInBounds_toArray, List.set_cons_zero, List.set_cons_succ]
          refine hs_take (i := 8) (d := some 24) (v := .bool false) rfl (by kernel_rfl) (by kernel_rfl) (by kernel_rfl) (by rfl) (fun w' hw => ex_bin rfl rfl rfl (by kernel_rfl) (hne w')) hS rfl ?_
          simp only [Act.put, List.setIfInBounds_toArray, List.set_cons_zero, List.set_cons_succ]
          refine hs_done (by kernel_rfl) ?_
          have HM := hide (HM'.out HR.out)
          clear HM' HN' HR hS hre5 hre5' hne hiu hiu'
          go_wp2_with fail
          go_roundw
          case rel => first | exact ⟨k + 1, by omega, by go_num, HM, hB5⟩ | ((repeat apply Exists.intro); exact ⟨⟨k + 1, by omega, by go_num, HM, hB5⟩, rfl⟩)
          case measure => first | (simp [intOf]; omega) | omega
        · have e1 : decide (r = r') = false := decide_eq_false hrr
          simp only [e1, Bool.not_false] at hne
          have HR := hide (HN'.out hrr)
          clear hrr e1
          go_upto_region 6 with fail
          obtain ⟨w5, hw5⟩ : ∃ w5, wr.drew = w5 := ⟨_, rfl⟩
          have hB5 : Below w.heap.size w w5 := by rw [← hw5]; exact hB.drew
          have hre5 : w5.rangeAt b (off + k * 17) u := by rw [← hw5]; exact (World.rangeAt_drew _ _ _ _).2 hre
          have hre5' : w5.rangeAt b' (off' + k * 17) u' := by rw [← hw5]; exact (World.rangeAt_drew _ _ _ _).2 hre'
          have hb5 : b < w5.heap.size := by rw [← hw5]; exact hb
          have hb5' : b' < w5.heap.size := by rw [← hw5]; exact hb'
          refine hs_begin (S := (Below w5.heap.size w5)) 9 rfl (by kernel_rfl) ?_
          rw [hw5]
          clear hw5 hB hre hre' hb hb'
          have hS : (Below w5.heap.size w5) w5 := Below.refl _ _
          refine hs_take (i := 0) (d := some 16) (v := ?_) rfl (by kernel_rfl) (by kernel_rfl) (by kernel_rfl) (by rfl) ?_ hS rfl ?_
          rotate_left
          · intro w' hw
            go_simp
            try with_reducible rfl
          simp only [Act.put, List.setIfInBounds_toArray, List.set_cons_zero, List.set_cons_succ]
          refine hs_take (i := 1) (d := some 17) (v := ?_) rfl (by kernel_rfl) (by kernel_rfl) (by kernel_rfl) (by rfl) ?_ hS rfl ?_
          rotate_left
          · intro w' hw
            go_simp
            try with_reducible rfl
          simp only [Act.put, List.setIfInBounds_toArray, List.set_cons_zero, List.set_cons_succ]
          refine hs_take (i := 2) (d := some 18) (v := ?_) rfl (by kernel_rfl) (by kernel_rfl) (by kernel_rfl) (by rfl) ?_ hS rfl ?_
          rotate_left
          · intro w' hw
            go_simp
            try with_reducible rfl
          simp only [Act.put, List.setIfInBounds_toArray, List.set_cons_zero, List.set_cons_succ]
          refine hs_take (i := 3) (d := some 19) (v := .agg u.toArray) rfl (by kernel_rfl) (by kernel_rfl) (by kernel_rfl) (by rfl) (fun w' hw => ex_mid rfl rfl (range_below hre5 hw hb5) Tryd.underlying101 rfl hiu) hS rfl ?_
          simp only [Act.put, List.setIfInBounds_toArray, List.set_cons_zero, List.set_cons_succ]
          refine hs_take (i := 4) (d := some 20) (v := ?_) rfl (by kernel_rfl) (by kernel_rfl) (by kernel_rfl) (by rfl) ?_ hS rfl ?_
          rotate_left
          · intro w' hw
            go_simp
            try with_reducible rfl
          simp only [Act.put, List.setIfInBounds_toArray, List.set_cons_zero, List.set_cons_succ]
          refine hs_take (i := 5) (d := some 21) (v := ?_) rfl (by kernel_rfl) (by kernel_rfl) (by kernel_rfl) (by rfl) ?_ hS rfl ?_
          rotate_left
          · intro w' hw
            go_simp
            try with_reducible rfl
          simp only [Act.put, List.setIfInBounds_toArray, List.set_cons_zero, List.set_cons_succ]
          refine hs_take (i := 6) (d := some 22) (v := ?_) rfl (by kernel_rfl) (by kernel_rfl) (by kernel_rfl) (by rfl) ?_ hS rfl ?_
          rotate_left
          · intro w' hw
            go_simp
            try with_reducible rfl
          simp only [Act.put, List.setIfInBounds_toArray, List.set_cons_zero, List.set_cons_succ]
          refine hs_take (i := 7) (d := some 23) (v := .agg u'.toArray) rfl (by kernel_rfl) (by kernel_rfl) (by kernel_rfl) (by rfl) (fun w' hw => ex_mid rfl rfl (range_below hre5' hw hb5') Tryd.underlying101 rfl hiu') hS rfl ?_
          simp only [Act.put, List.setIfInBounds_toArray, List.set_cons_zero, List.set_cons_succ]
          refine hs_take (i := 8) (d := some 24) (v := .bool true) rfl (by kernel_rfl) (by kernel_rfl) (by kernel_rfl) (by rfl) (fun w' hw => ex_bin rfl rfl rfl (by kernel_rfl) (hne w')) hS rfl ?_
          simp only [Act.put, List.setIfInBounds_toArray, List.set_cons_zero, List.set_cons_succ]
          refine hs_done (by kernel_rfl) ?_
          clear HM' HN' hS hre5 hre5' hne hiu hiu'
          go_wp2_with fail
          go_ret
          exact ⟨.inr ⟨rfl, HR.out⟩, hB5⟩
      · obtain rfl : k = rs.length := by omega
        have HE : Hid (rs = rs') := hide (List.ext_getElem HL.out (fun j h1 h2 => HM.out j h1 h2 h1))
        clear HM HL
        go_wp2_with fail
        go_ret
        exact ⟨.inl ⟨rfl, HE.out⟩, hB⟩
set_option maxRecDepth 100000 in
set_option maxHeartbeats 4000000 in
theorem xsame5_gen (a : Option Addr) (cap : Nat) (rs : List Sg) (a' : Option Addr) (cap' : Nat) (rs' : List Sg) (hl1 : rs.length ≤ 1000) (hl2 : rs'.length ≤ 1000) (w : World) (h : SigsAt w a rs) (h' : SigsAt w a' rs') :
    Calls Tryd.prog 36 #[.slice a rs.length cap, .slice a' rs'.length cap'] w fun e w' => ((e = .returned (.bool true) ∧ rs = rs') ∨ (e = .returned (.bool false) ∧ rs ≠ rs')) ∧ Below w.heap.size w w' := by
  have hall := h.2.1
  have hall' := h'.2.1
  by_cases hlen : rs.length = rs'.length
  rotate_left
  · have e0 : ((rs.length : Int) == rs'.length) = false := by simp; omega
    have HL := hide hlen
    clear hlen
    go_enter Tryd.func36, Tryd.ntmps36
    go_wp2
    go_ret
    exact ⟨.inr ⟨rfl, fun hh => HL.out (by rw [hh])⟩, Below.refl _ _⟩
  · have e0 : ((rs.length : Int) == rs'.length) = true := by simp; omega
    have HL := hide hlen
    clear hlen
    go_enter Tryd.func36, Tryd.ntmps36
    go_wp2
    go_loopw [5] (fun iv wr => ∃ k : Nat, k ≤ rs.length ∧ iv = .int .i64 (k : Int) ∧ Hid (∀ j (hj : j < rs.length) (hj' : j < rs'.length), j < k → rs[j] = rs'[j]) ∧ Below w.heap.size w wr) (fun iv _ => rs.length - (intOf iv).toNat)
    case atStart => exact ⟨0, by omega, rfl, hide (fun j _ _ hj => absurd hj (by omega)), Below.refl _ _⟩
    case round =>
      clear e0
      obtain ⟨k, hk, rfl, HM, hB⟩ := hrel
      by_cases hlt : k < rs.length
      · have k1 : (k : Int) < rs.length := by omega
        have hlt' : k < rs'.length := by have := HL.out; omega
        have k1' : (k : Int) < rs'.length := by omega
        obtain ⟨b, off, rfl, hb, hre⟩ := (h.below hB).elem k hlt
        obtain ⟨b', off', rfl, hb', hre'⟩ := (h'.below hB).elem k hlt'
        obtain ⟨r, hr⟩ : ∃ r, Hid (rs[k] = r) := ⟨_, hide rfl⟩
        obtain ⟨r', hr'⟩ : ∃ r', Hid (rs'[k] = r') := ⟨_, hide rfl⟩
        have hok : r.ok := by rw [← hr.out]; exact hall _ (List.getElem_mem hlt)
        have hok' : r'.ok := by rw [← hr'.out]; exact hall' _ (List.getElem_mem hlt')
        rw [hr.out] at hre
        rw [hr'.out] at hre'
        have HM' : Hid (r = r' → ∀ j (hj : j < rs.length) (hj' : j < rs'.length), j < k + 1 → rs[j] = rs'[j]) := hide (fun hp j hj hj' hjk => by
          by_cases e : j = k
          · subst e; rw [hr.out, hr'.out]; exact hp
          · exact HM.out j hj hj' (by omega))
        have HN' : Hid (r ≠ r' → rs ≠ rs') := hide (fun hp he => by
          apply hp
          rw [← hr.out, ← hr'.out]
          subst he
          rfl)
        clear hr hr' HM
        have hiu : (Tryd.prog.info? 101).map (·.size) = some r.cells.length := by rw [hok.length]; exact iszG
        have hiu' : (Tryd.prog.info? 101).map (·.size) = some r'.cells.length := by rw [hok'.length]; exact iszG
        have hne := fun w0 => neqS r r' hok hok' w0
        have hbb : ((r.n == r'.n) && (r.t == r'.t)) = decide (r = r') := by
          cases r; cases r'; simp [Bool.beq_eq_decide_eq]
        rw [hbb] at hne
        clear hbb
        obtain ⟨u, hu⟩ : ∃ u, Hid (r.cells = u) := ⟨_, hide rfl⟩
        obtain ⟨u', hu'⟩ : ∃ u', Hid (r'.cells = u') := ⟨_, hide rfl⟩
        rw [hu.out] at hre hiu
        rw [hu'.out] at hre' hiu'
        simp only [hu.out, hu'.out] at hne
        clear hu hu' hok hok'
        by_cases hrr : r = r'
        · have e1 : decide (r = r') = true := decide_eq_true hrr
          simp only [e1, Bool.not_true] at hne
          have HR := hide hrr
          clear hrr e1
          go_upto_region 6 with fail
          obtain ⟨w5, hw5⟩ : ∃ w5, wr.drew = w5 := ⟨_, rfl⟩
          have hB5 : Below w.heap.size w w5 := by rw [← hw5]; exact hB.drew
          have hre5 : w5.rangeAt b (off + k * 17) u := by rw [← hw5]; exact (World.rangeAt_drew _ _ _ _).2 hre
          have hre5' : w5.rangeAt b' (off' + k * 17) u' := by rw [← hw5]; exact (World.rangeAt_drew _ _ _ _).2 hre'
          have hb5 : b < w5.heap.size := by rw [← hw5]; exact hb
          have hb5' : b' < w5.heap.size := by rw [← hw5]; exact hb'
          refine hs_begin (S := (Below w5.heap.size w5)) 9 rfl (by kernel_rfl) ?_
          rw [hw5]
          clear hw5 hB hre hre' hb hb'
          have hS : (Below w5.heap.size w5) w5 := Below.refl _ _
          refine hs_take (i := 0) (d := some 17) (v := ?_) rfl (by kernel_rfl) (by kernel_rfl) (by kernel_rfl) (by rfl) ?_ hS rfl ?_
          rotate_left
          · intro w' hw
            go_simp
            try with_reducible rfl
          simp only [Act.put, List.setIfInBounds_toArray, List.set_cons_zero, List.set_cons_succ]
          refine hs_take (i := 1) (d := some 18) (v := ?_) rfl (by kernel_rfl) (by kernel_rfl) (by kernel_rfl) (by rfl) ?_ hS rfl ?_
          rotate_left
          · intro w' hw
            go_simp
            try with_reducible rfl
          simp only [Act.put, List.setIfInBounds_toArray, List.set_cons_zero, List.set_cons_succ]
          refine hs_take (i := 2) (d := some 19) (v := ?_) rfl (by kernel_rfl) (by kernel_rfl) (by kernel_rfl) (by rfl) ?_ hS rfl ?_
          rotate_left
          · intro w' hw
            go_simp
            try with_reducible rfl
          simp only [Act.put, List.setIfInBounds_toArray, List.set_cons_zero, List.set_cons_succ]
          refine hs_take (i := 3) (d := some 20) (v := .agg u.toArray) rfl (by kernel_rfl) (by kernel_rfl) (by kernel_rfl) (by rfl) (fun w' hw => ex_mid rfl rfl (range_below hre5 hw hb5) Tryd.underlying101 rfl hiu) hS rfl ?_
          simp only [Act.put, List.setIfInBounds_toArray, List.set_cons_zero, List.set_cons_succ]
          refine hs_take (i := 4) (d := some 21) (v := ?_) rfl (by kernel_rfl) (by kernel_rfl) (by kernel_rfl) (by rfl) ?_ hS rfl ?_
          rotate_left
          · intro w' hw
            go_simp
            try with_reducible rfl
          simp only [Act.put, List.setIfInBounds_toArray, List.set_cons_zero, List.set_cons_succ]
          refine hs_take (i := 5) (d := some 22) (v := ?_) rfl (by kernel_rfl) (by kernel_rfl) (by kernel_rfl) (by rfl) ?_ hS rfl ?_
          rotate_left
          · intro w' hw
            go_simp
            try with_reducible rfl
          simp only [Act.put, List.setIfInBounds_toArray, List.set_cons_zero, List.set_cons_succ]
          refine hs_take (i := 6) (d := some 23) (v := ?_) rfl (by kernel_rfl) (by kernel_rfl) (by kernel_rfl) (by rfl) ?_ hS rfl ?_
          rotate_left
          · intro w' hw
            go_simp
            try with_reducible rfl
          simp only [Act.put, List.setIfInBounds_toArray, List.set_cons_zero, List.set_cons_succ]
          refine hs_take (i := 7) (d := some 24) (v := .agg u'.toArray) rfl (by kernel_rfl) (by kernel_rfl) (by kernel_rfl) (by rfl) (fun w' hw => ex_mid rfl rfl (range_below hre5' hw hb5') Tryd.underlying101 rfl hiu') hS rfl ?_
          simp only [Act.put, List.setIfInBounds_toArray, List.set_cons_zero, List.set_cons_succ]
          refine hs_take (i := 8) (d := some 25) (v := .bool false) rfl (by kernel_rfl) (by kernel_rfl) (by kernel_rfl) (by rfl) (fun w' hw => ex_bin rfl rfl rfl (by kernel_rfl) (hne w')) hS rfl ?_
          simp only [Act.put, List.setIfInBounds_toArray, List.set_cons_zero, List.set_cons_succ]
          refine hs_done (by kernel_rfl) ?_
          have HM := hide (HM'.out HR.out)
          clear HM' HN' HR hS hre5 hre5' hne hiu hiu'
          go_wp2_with fail
          go_roundw
          case rel => first | exact ⟨k + 1, by omega, by go_num, HM, hB5⟩ | ((repeat apply Exists.intro); exact ⟨⟨k + 1, by omega, by go_num, HM, hB5⟩, rfl⟩)
          case measure => first | (simp [intOf]; omega) | omega
        · have e1 : decide (r = r') = false := decide_eq_false hrr
          simp only [e1, Bool.not_false] at hne
          have HR := hide (HN'.out hrr)
          clear hrr e1
          go_upto_region 6 with fail
          obtain ⟨w5, hw5⟩ : ∃ w5, wr.drew = w5 := ⟨_, rfl⟩
          have hB5 : Below w.heap.size w w5 := by rw [← hw5]; exact hB.drew
          have hre5 : w5.rangeAt b (off + k * 17) u := by rw [← hw5]; exact (World.rangeAt_drew _ _ _ _).2 hre
          have hre5' : w5.rangeAt b' (off' + k * 17) u' := by rw [← hw5]; exact (World.rangeAt_drew _ _ _ _).2 hre'
          have hb5 : b < w5.heap.size := by rw [← hw5]; exact hb
          have hb5' : b' < w5.heap.size := by rw [← hw5]; exact hb'
          refine hs_begin (S := (Below w5.heap.size w5)) 9 rfl (by kernel_rfl) ?_
          rw [hw5]
          clear hw5 hB hre hre' hb hb'
          have hS : (Below w5.heap.size w5) w5 := Below.refl _ _
          refine hs_take (i := 0) (d := some 17) (v := ?_) rfl (by kernel_rfl) (by kernel_rfl) (by kernel_rfl) (by rfl) ?_ hS rfl ?_
          rotate_left
          · intro w' hw
            go_simp
            try with_reducible rfl
          simp only [Act.put, List.setIfInBounds_toArray, List.set_cons_zero, List.set_cons_succ]
          refine hs_take (i := 1) (d := some 18) (v := ?_) rfl (by kernel_rfl) (by kernel_rfl) (by kernel_rfl) (by rfl) ?_ hS rfl ?_
          rotate_left
          · intro w' hw
            go_simp
            try with_reducible rfl
          simp only [Act.put, List.setIfInBounds_toArray, List.set_cons_zero, List.set_cons_succ]
          refine hs_take (i := 2) (d := some 19) (v := ?_) rfl (by kernel_rfl) (by kernel_rfl) (by kernel_rfl) (by rfl) ?_ hS rfl ?_
          rotate_left
          · intro w' hw
            go_simp
            try with_reducible rfl
          simp only [Act.put, List.setIfInBounds_toArray, List.set_cons_zero, List.set_cons_succ]
          refine hs_take (i := 3) (d := some 20) (v := .agg u.toArray) rfl (by kernel_rfl) (by kernel_rfl) (by kernel_rfl) (by rfl) (fun w' hw => ex_mid rfl rfl (range_below hre5 hw hb5) Tryd.underlying101 rfl hiu) hS rfl ?_
          simp only [Act.put, List.setIfInBounds_toArray, List.set_cons_zero, List.set_cons_succ]
          refine hs_take (i := 4) (d := some 21) (v := ?_) rfl (by kernel_rfl) (by kernel_rfl) (by kernel_rfl) (by rfl) ?_ hS rfl ?_
          rotate_left
          · intro w' hw
            go_simp
            try with_reducible rfl
          simp only [Act.put, List.setIfInBounds_toArray, List.set_cons_zero, List.set_cons_succ]
          refine hs_take (i := 5) (d := some 22) (v := ?_) rfl (by kernel_rfl) (by kernel_rfl) (by kernel_rfl) (by rfl) ?_ hS rfl ?_
          rotate_left
          · intro w' hw
            go_simp
            try with_reducible rfl
          simp only [Act.put, List.setIfInBounds_toArray, List.set_cons_zero, List.set_cons_succ]
          refine hs_take (i := 6) (d := some 23) (v := ?_) rfl (by kernel_rfl) (by kernel_rfl) (by kernel_rfl) (by rfl) ?_ hS rfl ?_
          rotate_left
          · intro w' hw
            go_simp
            try with_reducible rfl
          simp only [Act.put, List.setIfInBounds_toArray, List.set_cons_zero, List.set_cons_succ]
          refine hs_take (i := 7) (d := some 24) (v := .agg u'.toArray) rfl (by kernel_rfl) (by kernel_rfl) (by kernel_rfl) (by rfl) (fun w' hw => ex_mid rfl rfl (range_below hre5' hw hb5') Tryd.underlying101 rfl hiu') hS rfl ?_
          simp only [Act.put, List.setIfInBounds_toArray, List.set_cons_zero, List.set_cons_succ]
          refine hs_take (i := 8) (d := some 25) (v := .bool true) rfl (by kernel_rfl) (by kernel_rfl) (by kernel_rfl) (by rfl) (fun w' hw => ex_bin rfl rfl rfl (by kernel_rfl) (hne w')) hS rfl ?_
          simp only [Act.put, List.setIfInBounds_toArray, List.set_cons_zero, List.set_cons_succ]
          refine hs_done (by kernel_rfl) ?_
          clear HM' HN' hS hre5 hre5' hne hiu hiu'
          go_wp2_with fail
          go_ret
          exact ⟨.inr ⟨rfl, HR.out⟩, hB5⟩
      · obtain rfl : k = rs.length := by omega
        have HE : Hid (rs = rs') := hide (List.ext_getElem HL.out (fun j h1 h2 => HM.out j h1 h2 h1))
        clear HM HL
        go_wp2_with fail
        go_ret
        exact ⟨.inl ⟨rfl, HE.out⟩, hB⟩
end Go.Proofs.YtogmkcabndgllaaDoor
