/- lists of windows compared; states compared; states compared, both; The document's reader: Read.; A region that draws its order: what only reads is taken as soon as it may come up, over worlds that have grown since the last call; behind each call the condition turns to the new world. One way through the region.; The document's reader: Raw.; Two readers of the same bytes, side by side.; window.Get: its contract; windows as bytes.; window.Put: its contract.; bytes laid behind those in a cell; a state's bytes: its numbers and its chain; bytesOf: up to the windows -/
import Derived.Test.YtaaifcpanflejaaJC3
import Derived.Deep.QuietTactic
import Derived.BigQuiet
import Derived.Test.YtaaifcpanflejaaJC2
import Derived.WalkKit
import Derived.Deep.RegionHeld3
import Derived.Deep.Upon
namespace Go.Proofs.Ytaaifcpanflejaa
open Go.RowKit
open Sha Tal
set_option linter.unusedVariables false
set_option linter.unusedSimpArgs false
theorem exec_loadC {P : Program} {o : Oper} {a : Act} {w : World} {ty : TypeId} {x : Operand} {b off : Nat} {v : Value} (ho : o.op = .load ty x) (hx : a.eval x = .pointer (some ⟨b, off, none⟩)) (hr : (loadVar ty ⟨b, off, none⟩).run P w = .ok v w) : (execOp a.eval o).run P w = .ok (.value v) w := by
  unfold execOp
  simp only [ho, hx, Instr.loadAt, Instr.sureAddr, Sem.run_bind, Sem.run_pure, Result.andThen_ok, hr]
set_option maxRecDepth 100000 in
set_option maxHeartbeats 2000000 in
theorem equalW_any (a : Option Addr) (cap : Nat) (rs : List Wd) (a' : Option Addr) (cap' : Nat) (rs' : List Wd) (w : World) (h : RowsAt WdE w a rs) (h' : RowsAt WdE w a' rs') :
    Calls Try.prog 34 #[.slice a rs.length cap, .slice a' rs'.length cap'] w fun e w' => ((e = .returned (.bool true) ∧ rs = rs') ∨ (e = .returned (.bool false) ∧ ¬ rs = rs')) ∧ Below w.heap.size w w' := by
  have hml := h.1
  have hml' := h'.1
  unfold maxLen at hml hml'
  have hall := h.2.1
  have hall' := h'.2.1
  by_cases hlen : rs.length = rs'.length
  rotate_left
  · have e0 : ((rs.length : Int) == rs'.length) = false := by simp; omega
    have HL := hide hlen
    clear hlen
    go_enter Try.func34, Try.ntmps34
    go_wp2
    go_ret
    exact ⟨.inr ⟨rfl, fun hh => HL.out (by rw [hh])⟩, Below.refl _ _⟩
  · have e0 : ((rs.length : Int) == rs'.length) = true := by simp; omega
    have HL := hide hlen
    clear hlen
    go_enter Try.func34, Try.ntmps34
    go_wp2
    go_loopw [13] (fun iv wr => ∃ k : Nat, k ≤ rs.length ∧ iv = .int .i64 (k : Int) ∧ Hid (∀ j (hj : j < rs.length) (hj' : j < rs'.length), j < k → rs[j] = rs'[j]) ∧ Below w.heap.size w wr) (fun iv _ => rs.length - (intOf iv).toNat)
    case atStart => exact ⟨0, by omega, rfl, hide (fun j _ _ hj => absurd hj (by omega)), Below.refl _ _⟩
    case round =>
      clear e0
      obtain ⟨k, hk, rfl, HM, hB⟩ := hrel
      by_cases hlt : k < rs.length
      · have k1 : (k : Int) < rs.length := by omega
        have hlt' : k < rs'.length := by have := HL.out; omega
        have k1' : (k : Int) < rs'.length := by omega
        obtain ⟨b, off, rfl, hb, hre⟩ := (h.below hB).elem k hlt
        have hre : wr.rangeAt b (off + k * 2) rs[k].cells := hre
        obtain ⟨b', off', rfl, hb', hre'⟩ := (h'.below hB).elem k hlt'
        have hre' : wr.rangeAt b' (off' + k * 2) rs'[k].cells := hre'
        obtain ⟨r, hr⟩ : ∃ r, Hid (rs[k] = r) := ⟨_, hide rfl⟩
        obtain ⟨r', hr'⟩ : ∃ r', Hid (rs'[k] = r') := ⟨_, hide rfl⟩
        have hok : r.ok := by rw [← hr.out]; exact hall _ (List.getElem_mem hlt)
        have hok' : r'.ok := by rw [← hr'.out]; exact hall' _ (List.getElem_mem hlt')
        rw [hr.out] at hre
        rw [hr'.out] at hre'
        have HM' : Hid (r = r' → ∀ j (hj : j < rs.length) (hj' : j < rs'.length), j < k + 1 → rs[j] = rs'[j]) := hide (fun hp j hj hj' hjk => by
          by_cases e : j = k
          · subst e; rw [hr.out, hr'.out]; exact hp
          · exact HM.out j hj hj' (by omega))
        have HN' : Hid (r ≠ r' → rs ≠ rs') := hide (fun hp he => by
          apply hp
          rw [← hr.out, ← hr'.out]
          subst he
          rfl)
        clear hr hr' HM
        have hiu : (Try.prog.info? 57).map (·.size) = some r.cells.length := by rw [show r.cells.length = 2 from WdE.len r hok]; kernel_rfl
        have hiu' : (Try.prog.info? 57).map (·.size) = some r'.cells.length := by rw [show r'.cells.length = 2 from WdE.len r' hok']; kernel_rfl
        have hne := fun w0 => Wd.eq10 r r' hok hok' w0
        obtain ⟨u, hu⟩ : ∃ u, Hid (r.cells = u) := ⟨_, hide rfl⟩
        obtain ⟨u', hu'⟩ : ∃ u', Hid (r'.cells = u') := ⟨_, hide rfl⟩
        rw [hu.out] at hre hiu
        rw [hu'.out] at hre' hiu'
        simp only [hu.out, hu'.out] at hne
        clear hu hu' hok hok'
        by_cases hrr : r = r'
        · have e1 : Wd.B r r' = true := Wd.B_iff.2 hrr
          rw [e1] at hne
          have HR := hide hrr
          clear hrr e1
          go_upto_region 6 with fail
          obtain ⟨w5, hw5⟩ : ∃ w5, wr.drew = w5 := ⟨_, rfl⟩
          have hB5 : Below w.heap.size w w5 := by rw [← hw5]; exact hB.drew
          have hre5 : w5.rangeAt b (off + k * 2) u := by rw [← hw5]; exact (World.rangeAt_drew _ _ _ _).2 hre
          have hre5' : w5.rangeAt b' (off' + k * 2) u' := by rw [← hw5]; exact (World.rangeAt_drew _ _ _ _).2 hre'
          have hb5 : b < w5.heap.size := by rw [← hw5]; exact hb
          have hb5' : b' < w5.heap.size := by rw [← hw5]; exact hb'
          refine hs_begin (S := (Below w5.heap.size w5)) 9 rfl (by kernel_rfl) ?_
          rw [hw5]
          clear hw5 hB hre hre' hb hb'
          have hS : (Below w5.heap.size w5) w5 := Below.refl _ _
          refine hs_take (i := 0) (d := some 16) (v := ?_) rfl (by kernel_rfl) (by kernel_rfl) (by kernel_rfl) (by rfl) ?_ hS rfl ?_
          rotate_left
          · intro w' hw
            go_simp
            try with_reducible rfl
          simp only [Act.put, List.setIfInBounds_toArray, List.set_cons_zero, List.set_cons_succ]
          refine hs_take (i := 1) (d := some 17) (v := ?_) rfl (by kernel_rfl) (by kernel_rfl) (by kernel_rfl) (by rfl) ?_ hS rfl ?_
          rotate_left
          · intro w' hw
            go_simp
            try with_reducible rfl
          simp only [Act.put, List.setIfInBounds_toArray, List.set_cons_zero, List.set_cons_succ]
          refine hs_take (i := 2) (d := some 18) (v := ?_) rfl (by kernel_rfl) (by kernel_rfl) (by kernel_rfl) (by rfl) ?_ hS rfl ?_
          rotate_left
          · intro w' hw
            go_simp
            try with_reducible rfl
          simp only [Act.put, List.setIfInBounds_toArray, List.set_cons_zero, List.set_cons_succ]
          refine hs_take (i := 3) (d := some 19) (v := .agg u.toArray) rfl (by kernel_rfl) (by kernel_rfl) (by kernel_rfl) (by rfl) (fun w' hw => exec_loadC rfl rfl (run_loadVar_mid (P := Try.prog) w' b (off + k * 2) 57 u _ (range_below hre5 hw hb5) Try.underlying57 rfl hiu)) hS rfl ?_
          simp only [Act.put, List.setIfInBounds_toArray, List.set_cons_zero, List.set_cons_succ]
          refine hs_take (i := 4) (d := some 20) (v := ?_) rfl (by kernel_rfl) (by kernel_rfl) (by kernel_rfl) (by rfl) ?_ hS rfl ?_
          rotate_left
          · intro w' hw
            go_simp
            try with_reducible rfl
          simp only [Act.put, List.setIfInBounds_toArray, List.set_cons_zero, List.set_cons_succ]
          refine hs_take (i := 5) (d := some 21) (v := ?_) rfl (by kernel_rfl) (by kernel_rfl) (by kernel_rfl) (by rfl) ?_ hS rfl ?_
          rotate_left
          · intro w' hw
            go_simp
            try with_reducible rfl
          simp only [Act.put, List.setIfInBounds_toArray, List.set_cons_zero, List.set_cons_succ]
          refine hs_take (i := 6) (d := some 22) (v := ?_) rfl (by kernel_rfl) (by kernel_rfl) (by kernel_rfl) (by rfl) ?_ hS rfl ?_
          rotate_left
          · intro w' hw
            go_simp
            try with_reducible rfl
          simp only [Act.put, List.setIfInBounds_toArray, List.set_cons_zero, List.set_cons_succ]
          refine hs_take (i := 7) (d := some 23) (v := .agg u'.toArray) rfl (by kernel_rfl) (by kernel_rfl) (by kernel_rfl) (by rfl) (fun w' hw => exec_loadC rfl rfl (run_loadVar_mid (P := Try.prog) w' b' (off' + k * 2) 57 u' _ (range_below hre5' hw hb5') Try.underlying57 rfl hiu')) hS rfl ?_
          simp only [Act.put, List.setIfInBounds_toArray, List.set_cons_zero, List.set_cons_succ]
          refine hs_take (i := 8) (d := some 24) (v := .bool false) rfl (by kernel_rfl) (by kernel_rfl) (by kernel_rfl) (by rfl) (fun w' hw => by have hc := hne w'; go_simp) hS rfl ?_
          simp only [Act.put, List.setIfInBounds_toArray, List.set_cons_zero, List.set_cons_succ]
          refine hs_done (by kernel_rfl) ?_
          go_wp2
          go_roundw
          case rel => exact ⟨k + 1, by omega, by go_num, hide (HM'.out HR.out), hB5⟩
          case measure => simp [intOf]; omega
        · have e1 : Wd.B r r' = false := by
            cases hx : Wd.B r r'
            · rfl
            · exact absurd (Wd.B_iff.1 hx) hrr
          rw [e1] at hne
          have HR := hide hrr
          clear hrr e1
          go_upto_region 6 with fail
          obtain ⟨w5, hw5⟩ : ∃ w5, wr.drew = w5 := ⟨_, rfl⟩
          have hB5 : Below w.heap.size w w5 := by rw [← hw5]; exact hB.drew
          have hre5 : w5.rangeAt b (off + k * 2) u := by rw [← hw5]; exact (World.rangeAt_drew _ _ _ _).2 hre
          have hre5' : w5.rangeAt b' (off' + k * 2) u' := by rw [← hw5]; exact (World.rangeAt_drew _ _ _ _).2 hre'
          have hb5 : b < w5.heap.size := by rw [← hw5]; exact hb
          have hb5' : b' < w5.heap.size := by rw [← hw5]; exact hb'
          refine hs_begin (S := (Below w5.heap.size w5)) 9 rfl (by kernel_rfl) ?_
          rw [hw5]
          clear hw5 hB hre hre' hb hb'
          have hS : (Below w5.heap.size w5) w5 := Below.refl _ _
          refine hs_take (i := 0) (d := some 16) (v := ?_) rfl (by kernel_rfl) (by kernel_rfl) (by kernel_rfl) (by rfl) ?_ hS rfl ?_
          rotate_left
          · intro w' hw
            go_simp
            try with_reducible rfl
          simp only [Act.put, List.setIfInBounds_toArray, List.set_cons_zero, List.set_cons_succ]
          refine hs_take (i := 1) (d := some 17) (v := ?_) rfl (by kernel_rfl) (by kernel_rfl) (by kernel_rfl) (by rfl) ?_ hS rfl ?_
          rotate_left
          · intro w' hw
            go_simp
            try with_reducible rfl
          simp only [Act.put, List.setIfInBounds_toArray, List.set_cons_zero, List.set_cons_succ]
          refine hs_take (i := 2) (d := some 18) (v := ?_) rfl (by kernel_rfl) (by kernel_rfl) (by kernel_rfl) (by rfl) ?_ hS rfl ?_
          rotate_left
          · intro w' hw
            go_simp
            try with_reducible rfl
          simp only [Act.put, List.setIfInBounds_toArray, List.set_cons_zero, List.set_cons_succ]
          refine hs_take (i := 3) (d := some 19) (v := .agg u.toArray) rfl (by kernel_rfl) (by kernel_rfl) (by kernel_rfl) (by rfl) (fun w' hw => exec_loadC rfl rfl (run_loadVar_mid (P := Try.prog) w' b (off + k * 2) 57 u _ (range_below hre5 hw hb5) Try.underlying57 rfl hiu)) hS rfl ?_
          simp only [Act.put, List.setIfInBounds_toArray, List.set_cons_zero, List.set_cons_succ]
          refine hs_take (i := 4) (d := some 20) (v := ?_) rfl (by kernel_rfl) (by kernel_rfl) (by kernel_rfl) (by rfl) ?_ hS rfl ?_
          rotate_left
          · intro w' hw
            go_simp
            try with_reducible rfl
          simp only [Act.put, List.setIfInBounds_toArray, List.set_cons_zero, List.set_cons_succ]
          refine hs_take (i := 5) (d := some 21) (v := ?_) rfl (by kernel_rfl) (by kernel_rfl) (by kernel_rfl) (by rfl) ?_ hS rfl ?_
          rotate_left
          · intro w' hw
            go_simp
            try with_reducible rfl
          simp only [Act.put, List.setIfInBounds_toArray, List.set_cons_zero, List.set_cons_succ]
          refine hs_take (i := 6) (d := some 22) (v := ?_) rfl (by kernel_rfl) (by kernel_rfl) (by kernel_rfl) (by rfl) ?_ hS rfl ?_
          rotate_left
          · intro w' hw
            go_simp
            try with_reducible rfl
          simp only [Act.put, List.setIfInBounds_toArray, List.set_cons_zero, List.set_cons_succ]
          refine hs_take (i := 7) (d := some 23) (v := .agg u'.toArray) rfl (by kernel_rfl) (by kernel_rfl) (by kernel_rfl) (by rfl) (fun w' hw => exec_loadC rfl rfl (run_loadVar_mid (P := Try.prog) w' b' (off' + k * 2) 57 u' _ (range_below hre5' hw hb5') Try.underlying57 rfl hiu')) hS rfl ?_
          simp only [Act.put, List.setIfInBounds_toArray, List.set_cons_zero, List.set_cons_succ]
          refine hs_take (i := 8) (d := some 24) (v := .bool true) rfl (by kernel_rfl) (by kernel_rfl) (by kernel_rfl) (by rfl) (fun w' hw => by have hc := hne w'; go_simp) hS rfl ?_
          simp only [Act.put, List.setIfInBounds_toArray, List.set_cons_zero, List.set_cons_succ]
          refine hs_done (by kernel_rfl) ?_
          go_wp2
          go_ret
          exact ⟨.inr ⟨rfl, fun hh => HN'.out HR.out hh⟩, hB5⟩
      · have k1 : ¬ (k : Int) < rs.length := by omega
        have HE : Hid (rs = rs') := hide (List.ext_getElem HL.out (fun j hj hj' => HM.out j hj hj' (by omega)))
        clear HM
        go_wp2
        go_ret
        exact ⟨.inl ⟨rfl, HE.out⟩, hB⟩
theorem equalW_anyB (a : Option Addr) (cap : Nat) (rs : List Wd) (a' : Option Addr) (cap' : Nat) (rs' : List Wd) (w : World) (h : RowsAt WdE w a rs) (h' : RowsAt WdE w a' rs') :
    Calls Try.prog 34 #[.slice a rs.length cap, .slice a' rs'.length cap'] w fun e w' => e = .returned (.bool (sameL Wd.B rs rs')) ∧ Below w.heap.size w w' := by
  refine (equalW_any a cap rs a' cap' rs' w h h').mono ?_
  rintro e w1 ⟨hc, hb⟩
  have I := sameL_iff (fun x y => Wd.B_iff (x := x) (y := y)) rs rs'
  refine ⟨?_, hb⟩
  rcases hc with ⟨rfl, he⟩ | ⟨rfl, he⟩
  · rw [I.2 he]
  · cases hq : sameL Wd.B rs rs'
    · rfl
    · exact absurd (I.1 hq) he
set_option maxRecDepth 100000 in
set_option maxHeartbeats 2000000 in
theorem xwins_any (a : Option Addr) (cap : Nat) (rs : List Wd) (a' : Option Addr) (cap' : Nat) (rs' : List Wd) (w : World) (h : RowsAt WdE w a rs) (h' : RowsAt WdE w a' rs') :
    Calls Try.prog 24 #[.slice a rs.length cap, .slice a' rs'.length cap'] w fun e w' => ((e = .returned (.bool true) ∧ rs = rs') ∨ (e = .returned (.bool false) ∧ ¬ rs = rs')) ∧ Below w.heap.size w w' := by
  have hml := h.1
  have hml' := h'.1
  unfold maxLen at hml hml'
  have hall := h.2.1
  have hall' := h'.2.1
  by_cases hlen : rs.length = rs'.length
  rotate_left
  · have e0 : ((rs.length : Int) == rs'.length) = false := by simp; omega
    have HL := hide hlen
    clear hlen
    go_enter Try.func24, Try.ntmps24
    go_wp2
    go_ret
    exact ⟨.inr ⟨rfl, fun hh => HL.out (by rw [hh])⟩, Below.refl _ _⟩
  · have e0 : ((rs.length : Int) == rs'.length) = true := by simp; omega
    have HL := hide hlen
    clear hlen
    go_enter Try.func24, Try.ntmps24
    go_wp2
    go_loopw [5] (fun iv wr => ∃ k : Nat, k ≤ rs.length ∧ iv = .int .i64 (k : Int) ∧ Hid (∀ j (hj : j < rs.length) (hj' : j < rs'.length), j < k → rs[j] = rs'[j]) ∧ Below w.heap.size w wr) (fun iv _ => rs.length - (intOf iv).toNat)
    case atStart => exact ⟨0, by omega, rfl, hide (fun j _ _ hj => absurd hj (by omega)), Below.refl _ _⟩
    case round =>
      clear e0
      obtain ⟨k, hk, rfl, HM, hB⟩ := hrel
      by_cases hlt : k < rs.length
      · have k1 : (k : Int) < rs.length := by omega
        have hlt' : k < rs'.length := by have := HL.out; omega
        have k1' : (k : Int) < rs'.length := by omega
        obtain ⟨b, off, rfl, hb, hre⟩ := (h.below hB).elem k hlt
        have hre : wr.rangeAt b (off + k * 2) rs[k].cells := hre
        obtain ⟨b', off', rfl, hb', hre'⟩ := (h'.below hB).elem k hlt'
        have hre' : wr.rangeAt b' (off' + k * 2) rs'[k].cells := hre'
        obtain ⟨r, hr⟩ : ∃ r, Hid (rs[k] = r) := ⟨_, hide rfl⟩
        obtain ⟨r', hr'⟩ : ∃ r', Hid (rs'[k] = r') := ⟨_, hide rfl⟩
        have hok : r.ok := by rw [← hr.out]; exact hall _ (List.getElem_mem hlt)
        have hok' : r'.ok := by rw [← hr'.out]; exact hall' _ (List.getElem_mem hlt')
        rw [hr.out] at hre
        rw [hr'.out] at hre'
        have HM' : Hid (r = r' → ∀ j (hj : j < rs.length) (hj' : j < rs'.length), j < k + 1 → rs[j] = rs'[j]) := hide (fun hp j hj hj' hjk => by
          by_cases e : j = k
          · subst e; rw [hr.out, hr'.out]; exact hp
          · exact HM.out j hj hj' (by omega))
        have HN' : Hid (r ≠ r' → rs ≠ rs') := hide (fun hp he => by
          apply hp
          rw [← hr.out, ← hr'.out]
          subst he
          rfl)
        clear hr hr' HM
        have hiu : (Try.prog.info? 57).map (·.size) = some r.cells.length := by rw [show r.cells.length = 2 from WdE.len r hok]; kernel_rfl
        have hiu' : (Try.prog.info? 57).map (·.size) = some r'.cells.length := by rw [show r'.cells.length = 2 from WdE.len r' hok']; kernel_rfl
        have hne := fun w0 => Wd.eq10 r r' hok hok' w0
        obtain ⟨u, hu⟩ : ∃ u, Hid (r.cells = u) := ⟨_, hide rfl⟩
        obtain ⟨u', hu'⟩ : ∃ u', Hid (r'.cells = u') := ⟨_, hide rfl⟩
        rw [hu.out] at hre hiu
        rw [hu'.out] at hre' hiu'
        simp only [hu.out, hu'.out] at hne
        clear hu hu' hok hok'
        by_cases hrr : r = r'
        · have e1 : Wd.B r r' = true := Wd.B_iff.2 hrr
          rw [e1] at hne
          have HR := hide hrr
          clear hrr e1
          go_upto_region 6 with fail
          obtain ⟨w5, hw5⟩ : ∃ w5, wr.drew = w5 := ⟨_, rfl⟩
          have hB5 : Below w.heap.size w w5 := by rw [← hw5]; exact hB.drew
          have hre5 : w5.rangeAt b (off + k * 2) u := by rw [← hw5]; exact (World.rangeAt_drew _ _ _ _).2 hre
          have hre5' : w5.rangeAt b' (off' + k * 2) u' := by rw [← hw5]; exact (World.rangeAt_drew _ _ _ _).2 hre'
          have hb5 : b < w5.heap.size := by rw [← hw5]; exact hb
          have hb5' : b' < w5.heap.size := by rw [← hw5]; exact hb'
          refine hs_begin (S := (Below w5.heap.size w5)) 9 rfl (by kernel_rfl) ?_
          rw [hw5]
          clear hw5 hB hre hre' hb hb'
          have hS : (Below w5.heap.size w5) w5 := Below.refl _ _
          refine hs_take (i := 0) (d := some 17) (v := ?_) rfl (by kernel_rfl) (by kernel_rfl) (by kernel_rfl) (by rfl) ?_ hS rfl ?_
          rotate_left
          · intro w' hw
            go_simp
            try with_reducible rfl
          simp only [Act.put, List.setIfInBounds_toArray, List.set_cons_zero, List.set_cons_succ]
          refine hs_take (i := 1) (d := some 18) (v := ?_) rfl (by kernel_rfl) (by kernel_rfl) (by kernel_rfl) (by rfl) ?_ hS rfl ?_
          rotate_left
          · intro w' hw
            go_simp
            try with_reducible rfl
          simp only [Act.put, List.setIfInBounds_toArray, List.set_cons_zero, List.set_cons_succ]
          refine hs_take (i := 2) (d := some 19) (v := ?_) rfl (by kernel_rfl) (by kernel_rfl) (by kernel_rfl) (by rfl) ?_ hS rfl ?_
          rotate_left
          · intro w' hw
            go_simp
            try with_reducible rfl
          simp only [Act.put, List.setIfInBounds_toArray, List.set_cons_zero, List.set_cons_succ]
          refine hs_take (i := 3) (d := some 20) (v := .agg u.toArray) rfl (by kernel_rfl) (by kernel_rfl) (by kernel_rfl) (by rfl) (fun w' hw => exec_loadC rfl rfl (run_loadVar_mid (P := Try.prog) w' b (off + k * 2) 57 u _ (range_below hre5 hw hb5) Try.underlying57 rfl hiu)) hS rfl ?_
          simp only [Act.put, List.setIfInBounds_toArray, List.set_cons_zero, List.set_cons_succ]
          refine hs_take (i := 4) (d := some 21) (v := ?_) rfl (by kernel_rfl) (by kernel_rfl) (by kernel_rfl) (by rfl) ?_ hS rfl ?_
          rotate_left
          · intro w' hw
            go_simp
            try with_reducible rfl
          simp only [Act.put, List.setIfInBounds_toArray, List.set_cons_zero, List.set_cons_succ]
          refine hs_take (i := 5) (d := some 22) (v := ?_) rfl (by kernel_rfl) (by kernel_rfl) (by kernel_rfl) (by rfl) ?_ hS rfl ?_
          rotate_left
          · intro w' hw
            go_simp
            try with_reducible rfl
          simp only [Act.put, List.setIfInBounds_toArray, List.set_cons_zero, List.set_cons_succ]
          refine hs_take (i := 6) (d := some 23) (v := ?_) rfl (by kernel_rfl) (by kernel_rfl) (by kernel_rfl) (by rfl) ?_ hS rfl ?_
          rotate_left
          · intro w' hw
            go_simp
            try with_reducible rfl
          simp only [Act.put, List.setIfInBounds_toArray, List.set_cons_zero, List.set_cons_succ]
          refine hs_take (i := 7) (d := some 24) (v := .agg u'.toArray) rfl (by kernel_rfl) (by kernel_rfl) (by kernel_rfl) (by rfl) (fun w' hw => exec_loadC rfl rfl (run_loadVar_mid (P := Try.prog) w' b' (off' + k * 2) 57 u' _ (range_below hre5' hw hb5') Try.underlying57 rfl hiu')) hS rfl ?_
          simp only [Act.put, List.setIfInBounds_toArray, List.set_cons_zero, List.set_cons_succ]
          refine hs_take (i := 8) (d := some 25) (v := .bool false) rfl (by kernel_rfl) (by kernel_rfl) (by kernel_rfl) (by rfl) (fun w' hw => by have hc := hne w'; go_simp) hS rfl ?_
          simp only [Act.put, List.setIfInBounds_toArray, List.set_cons_zero, List.set_cons_succ]
          refine hs_done (by kernel_rfl) ?_
          go_wp2
          go_roundw
          case rel => exact ⟨k + 1, by omega, by go_num, hide (HM'.out HR.out), hB5⟩
          case measure => simp [intOf]; omega
        · have e1 : Wd.B r r' = false := by
            cases hx : Wd.B r r'
            · rfl
            · exact absurd (Wd.B_iff.1 hx) hrr
          rw [e1] at hne
          have HR := hide hrr
          clear hrr e1
          go_upto_region 6 with fail
          obtain ⟨w5, hw5⟩ : ∃ w5, wr.drew = w5 := ⟨_, rfl⟩
          have hB5 : Below w.heap.size w w5 := by rw [← hw5]; exact hB.drew
          have hre5 : w5.rangeAt b (off + k * 2) u := by rw [← hw5]; exact (World.rangeAt_drew _ _ _ _).2 hre
          have hre5' : w5.rangeAt b' (off' + k * 2) u' := by rw [← hw5]; exact (World.rangeAt_drew _ _ _ _).2 hre'
          have hb5 : b < w5.heap.size := by rw [← hw5]; exact hb
          have hb5' : b' < w5.heap.size := by rw [← hw5]; exact hb'
          refine hs_begin (S := (Below w5.heap.size w5)) 9 rfl (by kernel_rfl) ?_
          rw [hw5]
          clear hw5 hB hre hre' hb hb'
          have hS : (Below w5.heap.size w5) w5 := Below.refl _ _
          refine hs_take (i := 0) (d := some 17) (v := ?_) rfl (by kernel_rfl) (by kernel_rfl) (by kernel_rfl) (by rfl) ?_ hS rfl ?_
          rotate_left
          · intro w' hw
            go_simp
            try with_reducible rfl
          simp only [Act.put, List.setIfInBounds_toArray, List.set_cons_zero, List.set_cons_succ]
          refine hs_take (i := 1) (d := some 18) (v := ?_) rfl (by kernel_rfl) (by kernel_rfl) (by kernel_rfl) (by rfl) ?_ hS rfl ?_
          rotate_left
          · intro w' hw
            go_simp
            try with_reducible rfl
          simp only [Act.put, List.setIfInBounds_toArray, List.set_cons_zero, List.set_cons_succ]
          refine hs_take (i := 2) (d := some 19) (v := ?_) rfl (by kernel_rfl) (by kernel_rfl) (by kernel_rfl) (by rfl) ?_ hS rfl ?_
          rotate_left
          · intro w' hw
            go_simp
            try with_reducible rfl
          simp only [Act.put, List.setIfInBounds_toArray, List.set_cons_zero, List.set_cons_succ]
          refine hs_take (i := 3) (d := some 20) (v := .agg u.toArray) rfl (by kernel_rfl) (by kernel_rfl) (by kernel_rfl) (by rfl) (fun w' hw => exec_loadC rfl rfl (run_loadVar_mid (P := Try.prog) w' b (off + k * 2) 57 u _ (range_below hre5 hw hb5) Try.underlying57 rfl hiu)) hS rfl ?_
          simp only [Act.put, List.setIfInBounds_toArray, List.set_cons_zero, List.set_cons_succ]
          refine hs_take (i := 4) (d := some 21) (v := ?_) rfl (by kernel_rfl) (by kernel_rfl) (by kernel_rfl) (by rfl) ?_ hS rfl ?_
          rotate_left
          · intro w' hw
            go_simp
            try with_reducible rfl
          simp only [Act.put, List.setIfInBounds_toArray, List.set_cons_zero, List.set_cons_succ]
          refine hs_take (i := 5) (d := some 22) (v := ?_) rfl (by kernel_rfl) (by kernel_rfl) (by kernel_rfl) (by rfl) ?_ hS rfl ?_
          rotate_left
          · intro w' hw
            go_simp
            try with_reducible rfl
          simp only [Act.put, List.setIfInBounds_toArray, List.set_cons_zero, List.set_cons_succ]
          refine hs_take (i := 6) (d := some 23) (v := ?_) rfl (by kernel_rfl) (by kernel_rfl) (by kernel_rfl) (by rfl) ?_ hS rfl ?_
          rotate_left
          · intro w' hw
            go_simp
            try with_reducible rfl
          simp only [Act.put, List.setIfInBounds_toArray, List.set_cons_zero, List.set_cons_succ]
          refine hs_take (i := 7) (d := some 24) (v := .agg u'.toArray) rfl (by kernel_rfl) (by kernel_rfl) (by kernel_rfl) (by rfl) (fun w' hw => exec_loadC rfl rfl (run_loadVar_mid (P := Try.prog) w' b' (off' + k * 2) 57 u' _ (range_below hre5' hw hb5') Try.underlying57 rfl hiu')) hS rfl ?_
          simp only [Act.put, List.setIfInBounds_toArray, List.set_cons_zero, List.set_cons_succ]
          refine hs_take (i := 8) (d := some 25) (v := .bool true) rfl (by kernel_rfl) (by kernel_rfl) (by kernel_rfl) (by rfl) (fun w' hw => by have hc := hne w'; go_simp) hS rfl ?_
          simp only [Act.put, List.setIfInBounds_toArray, List.set_cons_zero, List.set_cons_succ]
          refine hs_done (by kernel_rfl) ?_
          go_wp2
          go_ret
          exact ⟨.inr ⟨rfl, fun hh => HN'.out HR.out hh⟩, hB5⟩
      · have k1 : ¬ (k : Int) < rs.length := by omega
        have HE : Hid (rs = rs') := hide (List.ext_getElem HL.out (fun j hj hj' => HM.out j hj hj' (by omega)))
        clear HM
        go_wp2
        go_ret
        exact ⟨.inl ⟨rfl, HE.out⟩, hB⟩
theorem xwins_anyB (a : Option Addr) (cap : Nat) (rs : List Wd) (a' : Option Addr) (cap' : Nat) (rs' : List Wd) (w : World) (h : RowsAt WdE w a rs) (h' : RowsAt WdE w a' rs') :
    Calls Try.prog 24 #[.slice a rs.length cap, .slice a' rs'.length cap'] w fun e w' => e = .returned (.bool (sameL Wd.B rs rs')) ∧ Below w.heap.size w w' := by
  refine (xwins_any a cap rs a' cap' rs' w h h').mono ?_
  rintro e w1 ⟨hc, hb⟩
  have I := sameL_iff (fun x y => Wd.B_iff (x := x) (y := y)) rs rs'
  refine ⟨?_, hb⟩
  rcases hc with ⟨rfl, he⟩ | ⟨rfl, he⟩
  · rw [I.2 he]
  · cases hq : sameL Wd.B rs rs'
    · rfl
    · exact absurd (I.1 hq) he
end Go.Proofs.Ytaaifcpanflejaa
namespace Go.Proofs.Ytaaifcpanflejaa
open Go.RowKit
open Sha Tal
set_option linter.unusedVariables false
set_option linter.unusedSimpArgs false
theorem run_size {P : Program} {e : TypeId} {n : Nat} (h : (P.info? e).map (·.size) = some n) (w : World) : (sizeOf e).run P w = .ok n w := by
  cases hq : P.info? e with
  | none => simp [hq] at h
  | some i => simp [hq] at h; simp [sizeOf, typeInfo, hq, h]
theorem isz8 : (Try.prog.info? 5).map (·.size) = some 1 := by kernel_rfl
theorem all_range : ∀ (xs ys : List Int), xs.length = ys.length → ((List.range xs.length).all fun i => xs.getD i 0 == ys.getD i 0) = (xs == ys)
  | [], [], _ => rfl
  | x :: xs, y :: ys, h => by
    have ih := all_range xs ys (by simpa using h)
    rw [List.length_cons, List.range_succ_eq_map, List.all_cons, List.all_map]
    simp only [List.getD_cons_zero, Function.comp_def, List.getD_cons_succ, ih]
    simp [List.cons_beq_cons]
  | [], _ :: _, h => by simp at h
  | _ :: _, [], h => by simp at h
theorem run_equal8 {P : Program} (w : World) (d : Nat) (t e : TypeId) (n : Nat) (ht : P.underlying t = some (.array n e)) (he : P.underlying e = some (.int .u8)) (hsz : (P.info? e).map (·.size) = some 1)
    (xs ys : List Int) (hx : xs.length = n) (hy : ys.length = n) :
    (Op.equalIn (d + 2) t (.agg (v8 xs).toArray) (.agg (v8 ys).toArray)).run P w = .ok (xs == ys) w := by
  rw [← all_range xs ys (hx.trans hy.symm), hx, List.range_eq_range', Op.equalIn]
  simp only [Sem.run_bind, run_underlying ht, Result.andThen_ok, run_size hsz, Std.Legacy.Range.forIn_eq_forIn_range', Std.Legacy.Range.size, Nat.sub_zero, Nat.add_sub_cancel, Nat.div_one]
  have hl : ∀ i ∈ List.range' 0 n 1, i < n := fun i hi => by simpa using (List.mem_range'_1.1 hi).2
  generalize List.range' 0 n 1 = l at hl ⊢
  induction l with
  | nil => simp
  | cons i l ih =>
    have hi : i < n := hl i (by simp)
    have px : (part e (v8 xs).toArray (i * 1)).run P w = .ok (.int .u8 (xs.getD i 0)) w := by
      simp [part, isAgg, run_underlying he, v8, List.getElem?_eq_getElem (show i < xs.length by omega)]
    have py : (part e (v8 ys).toArray (i * 1)).run P w = .ok (.int .u8 (ys.getD i 0)) w := by
      simp [part, isAgg, run_underlying he, v8, List.getElem?_eq_getElem (show i < ys.length by omega)]
    have pe : (Op.equalIn (d + 1) e (.int .u8 (xs.getD i 0)) (.int .u8 (ys.getD i 0))).run P w = .ok (xs.getD i 0 == ys.getD i 0) w := run_equalIn_int w d e .u8 .u8 _ _ he
    simp only [List.forIn_cons, Sem.run_bind, px, py, pe, Result.andThen_ok, List.all_cons]
    cases hb : (xs.getD i 0 == ys.getD i 0)
    · simp
    · simp only [Bool.not_true, Bool.false_eq_true, if_false, Sem.run_pure, Result.andThen_ok, Bool.true_and]
      exact ih fun j hj => hl j (by simp [hj])
theorem below_drewN {n : Nat} {a w : World} (h : Below n a w) (k : Nat) : Below n a (w.drewN k) := ⟨h.os, h.tape, h.output, h.size, h.block⟩
set_option maxRecDepth 100000 in
set_option maxHeartbeats 1000000 in
theorem eqEqualI_any (x y : Sl Int) (w : World) (hx : x.At PnE w) (hy : y.At PnE w) : Calls Try.prog 35 #[x.val, y.val] w fun e w' => e = .returned (.bool (decide (x.xs = y.xs))) ∧ Below w.heap.size w w' := by
  obtain ⟨a, cap, xs⟩ := x
  obtain ⟨b, cap', ys⟩ := y
  simp only [Sl.val]
  have hml : xs.length ≤ maxLen := hx.1
  have hml' : ys.length ≤ maxLen := hy.1
  unfold maxLen at hml hml'
  obtain ⟨g, hg⟩ : ∃ g, Hid (decide (xs = ys) = g) := ⟨_, hide rfl⟩
  rw [hg.out]
  go_enter Try.func35, Try.ntmps35
  by_cases hlen : xs.length = ys.length
  rotate_left
  · obtain rfl : g = false := hg.out.symm.trans (decide_eq_false (fun q => hlen (by rw [q])))
    have e0 : ((xs.length : Int) != (ys.length : Int)) = true := by simp; omega
    clear hg hlen hx hy
    go_wp2
    go_ret
    exact ⟨rfl, Below.refl _ _⟩
  have e0 : ((xs.length : Int) != (ys.length : Int)) = false := by simp; omega
  have HL := hide hlen
  clear hlen
  go_wp2
  clear e0
  go_loopw [13] (fun kv wr => ∃ k : Nat, k ≤ xs.length ∧ kv = .int .i64 (k : Int) ∧ Hid (∀ j (hj : j < xs.length) (hj' : j < ys.length), j < k → xs[j] = ys[j]) ∧ Below w.heap.size w wr) (fun kv _ => xs.length - (intOf kv).toNat)
  case atStart => exact ⟨0, by omega, rfl, hide (fun j _ _ hj => absurd hj (by omega)), Below.refl _ _⟩
  case round =>
    obtain ⟨k, hk, rfl, HM, hB⟩ := hrel
    by_cases hlt : k < xs.length
    · have k1 : (k : Int) < xs.length := by omega
      have hlt' : k < ys.length := by have := HL.out; omega
      have k1' : (k : Int) < ys.length := by omega
      obtain ⟨b1, o1, rfl, hb1, hc1⟩ := RowsAt.elem (hx.below hB) k hlt
      obtain ⟨b2, o2, rfl, hb2, hc2⟩ := RowsAt.elem (hy.below hB) k hlt'
      have hc1 : wr.cell? ⟨b1, o1 + k, none⟩ = some (.int .i64 xs[k]) := by have := hc1 0 _ rfl; simpa [PnE] using this
      have hc2 : wr.cell? ⟨b2, o2 + k, none⟩ = some (.int .i64 ys[k]) := by have := hc2 0 _ rfl; simpa [PnE] using this
      have HT : Hid (xs[k] = ys[k] → ∀ j (hj : j < xs.length) (hj' : j < ys.length), j < k + 1 → xs[j] = ys[j]) := hide (fun hp j hj hj' hjk => by
        by_cases e : j = k
        · subst e; exact hp
        · exact HM.out j hj hj' (by omega))
      have HF : Hid (xs[k] ≠ ys[k] → g = false) := hide (fun hp => hg.out.symm.trans (decide_eq_false (fun q => hp (by subst q; rfl))))
      obtain ⟨z, hz⟩ : ∃ z, Hid (xs[k] = z) := ⟨_, hide rfl⟩
      obtain ⟨y, hy'⟩ : ∃ z, Hid (ys[k] = z) := ⟨_, hide rfl⟩
      rw [hz.out] at hc1 HT HF
      rw [hy'.out] at hc2 HT HF
      clear hz hy' HM hx hy hg HL
      by_cases hzy : z = y
      · subst hzy
        have HT' := hide (HT.out rfl)
        clear HT HF
        go_wp2
        go_quiet (fail)
        go_wp2
        go_roundw
        case rel => exact ⟨k + 1, by omega, by go_num, HT', below_drewN hB _⟩
        case measure => simp [intOf]; omega
      · have HF' := hide (HF.out hzy)
        have ne : (z != y) = true := by simpa using hzy
        have ne2 : (z == y) = false := by simpa using hzy
        clear HT HF hzy
        go_wp2
        go_quiet (fail)
        go_wp2
        go_ret
        exact ⟨by rw [HF'.out]; rfl, below_drewN hB _⟩
    · have k1 : ¬ (k : Int) < xs.length := by omega
      have HE : Hid (g = true) := hide (hg.out.symm.trans (decide_eq_true (List.ext_getElem HL.out (fun j h1 h2 => HM.out j h1 h2 (by omega)))))
      clear HM hg HL hx hy
      go_wp2
      go_ret
      exact ⟨by rw [HE.out]; rfl, hB⟩
set_option maxRecDepth 100000 in
set_option maxHeartbeats 1000000 in
theorem eqInts_any (x y : Sl Int) (w : World) (hx : x.At PnE w) (hy : y.At PnE w) : Calls Try.prog 25 #[x.val, y.val] w fun e w' => e = .returned (.bool (decide (x.xs = y.xs))) ∧ Below w.heap.size w w' := by
  obtain ⟨a, cap, xs⟩ := x
  obtain ⟨b, cap', ys⟩ := y
  simp only [Sl.val]
  have hml : xs.length ≤ maxLen := hx.1
  have hml' : ys.length ≤ maxLen := hy.1
  unfold maxLen at hml hml'
  obtain ⟨g, hg⟩ : ∃ g, Hid (decide (xs = ys) = g) := ⟨_, hide rfl⟩
  rw [hg.out]
  go_enter Try.func25, Try.ntmps25
  by_cases hlen : xs.length = ys.length
  rotate_left
  · obtain rfl : g = false := hg.out.symm.trans (decide_eq_false (fun q => hlen (by rw [q])))
    have e0 : ((xs.length : Int) != (ys.length : Int)) = true := by simp; omega
    clear hg hlen hx hy
    go_wp2
    go_ret
    exact ⟨rfl, Below.refl _ _⟩
  have e0 : ((xs.length : Int) != (ys.length : Int)) = false := by simp; omega
  have HL := hide hlen
  clear hlen
  go_wp2
  clear e0
  go_loopw [5] (fun kv wr => ∃ k : Nat, k ≤ xs.length ∧ kv = .int .i64 (k : Int) ∧ Hid (∀ j (hj : j < xs.length) (hj' : j < ys.length), j < k → xs[j] = ys[j]) ∧ Below w.heap.size w wr) (fun kv _ => xs.length - (intOf kv).toNat)
  case atStart => exact ⟨0, by omega, rfl, hide (fun j _ _ hj => absurd hj (by omega)), Below.refl _ _⟩
  case round =>
    obtain ⟨k, hk, rfl, HM, hB⟩ := hrel
    by_cases hlt : k < xs.length
    · have k1 : (k : Int) < xs.length := by omega
      have hlt' : k < ys.length := by have := HL.out; omega
      have k1' : (k : Int) < ys.length := by omega
      obtain ⟨b1, o1, rfl, hb1, hc1⟩ := RowsAt.elem (hx.below hB) k hlt
      obtain ⟨b2, o2, rfl, hb2, hc2⟩ := RowsAt.elem (hy.below hB) k hlt'
      have hc1 : wr.cell? ⟨b1, o1 + k, none⟩ = some (.int .i64 xs[k]) := by have := hc1 0 _ rfl; simpa [PnE] using this
      have hc2 : wr.cell? ⟨b2, o2 + k, none⟩ = some (.int .i64 ys[k]) := by have := hc2 0 _ rfl; simpa [PnE] using this
      have HT : Hid (xs[k] = ys[k] → ∀ j (hj : j < xs.length) (hj' : j < ys.length), j < k + 1 → xs[j] = ys[j]) := hide (fun hp j hj hj' hjk => by
        by_cases e : j = k
        · subst e; exact hp
        · exact HM.out j hj hj' (by omega))
      have HF : Hid (xs[k] ≠ ys[k] → g = false) := hide (fun hp => hg.out.symm.trans (decide_eq_false (fun q => hp (by subst q; rfl))))
      obtain ⟨z, hz⟩ : ∃ z, Hid (xs[k] = z) := ⟨_, hide rfl⟩
      obtain ⟨y, hy'⟩ : ∃ z, Hid (ys[k] = z) := ⟨_, hide rfl⟩
      rw [hz.out] at hc1 HT HF
      rw [hy'.out] at hc2 HT HF
      clear hz hy' HM hx hy hg HL
      by_cases hzy : z = y
      · subst hzy
        have HT' := hide (HT.out rfl)
        clear HT HF
        go_wp2
        go_quiet (fail)
        go_wp2
        go_roundw
        case rel => exact ⟨k + 1, by omega, by go_num, HT', below_drewN hB _⟩
        case measure => simp [intOf]; omega
      · have HF' := hide (HF.out hzy)
        have ne : (z != y) = true := by simpa using hzy
        have ne2 : (z == y) = false := by simpa using hzy
        clear HT HF hzy
        go_wp2
        go_quiet (fail)
        go_wp2
        go_ret
        exact ⟨by rw [HF'.out]; rfl, below_drewN hB _⟩
    · have k1 : ¬ (k : Int) < xs.length := by omega
      have HE : Hid (g = true) := hide (hg.out.symm.trans (decide_eq_true (List.ext_getElem HL.out (fun j h1 h2 => HM.out j h1 h2 (by omega)))))
      clear HM hg HL hx hy
      go_wp2
      go_ret
      exact ⟨by rw [HE.out]; rfl, hB⟩
end Go.Proofs.Ytaaifcpanflejaa
namespace Go.Proofs.Ytaaifcpanflejaa
open Go.RowKit
open Sha Tal
set_option linter.unusedVariables false
set_option linter.unusedSimpArgs false
def Stt.B (s t : Stt) : Bool := decide (s.e = t.e) && (decide (s.n = t.n) && (decide (s.c = t.c) && ((s.d == t.d) && (sameL Wd.B s.ws.xs t.ws.xs && decide (s.ps.xs = t.ps.xs)))))
theorem Stt.B_iff {s t : Stt} : s.B t = true ↔ s.e = t.e ∧ s.n = t.n ∧ s.c = t.c ∧ s.d = t.d ∧ s.ws.xs = t.ws.xs ∧ s.ps.xs = t.ps.xs := by
  unfold Stt.B
  simp only [Bool.and_eq_true, decide_eq_true_eq, beq_iff_eq, sameL_iff (fun x y => Wd.B_iff (x := x) (y := y))]
theorem wpList_load_g {P : Program} {ops : Array Oper} {rest : List Oper} {op : Oper} {a : Act} {w : World} {Q : Exit → Act → World → Prop} (hgd : Region.wanted op (yielded ops a.tmps) = true) (ty : TypeId) (x : Operand) (ho : op.op = .load ty x)
    (b o : Nat) (hx : a.eval x = .pointer (some ⟨b, o, none⟩)) (cs : List Value) (d : TypeDesc) (hc : w.rangeAt b o cs)
    (hu : P.underlying ty = some d) (hd : d.isRow = true) (hi : (P.info? ty).map (·.size) = some cs.length)
    (h : wpList P ops Q rest (a.put op.dst (.agg cs.toArray)) w) : wpList P ops Q (op :: rest) a w :=
  wpList_step fun _ hK => by rw [if_pos hgd]; exact wp_load_mid ty x ho b o hx cs d hc hu hd hi (hK _ _ h)
set_option maxRecDepth 100000 in
set_option maxHeartbeats 1000000 in
theorem ssame_any (s t : Stt) (w : World) (h : s.ok) (h' : t.ok) (hs : s.At w) (ht : t.At w) : Calls Try.prog 14 #[.agg s.cells.toArray, .agg t.cells.toArray] w fun e w' => e = .returned (.bool (s.B t)) ∧ Below w.heap.size w w' := by
  obtain ⟨hr, hr', hB, hz⟩ := two_boxG s.cells t.cells 30 w
  obtain ⟨pe, pn, pc, pd, pw, pp⟩ := st_parts h hr
  obtain ⟨pe', pn', pc', pd', pw', pp'⟩ := st_parts h' hr'
  have cw : ∀ w0, Below w.heap.size w w0 → Calls Try.prog 34 #[s.ws.val, t.ws.val] w0 fun e w' => e = .returned (.bool (sameL Wd.B s.ws.xs t.ws.xs)) ∧ Below w0.heap.size w0 w' := fun w0 hb0 => equalW_anyB _ _ _ _ _ _ w0 (hs.ws.below hb0) (ht.ws.below hb0)
  have ci : ∀ w0, Below w.heap.size w w0 → Calls Try.prog 35 #[s.ps.val, t.ps.val] w0 _ := fun w0 hb0 => eqEqualI_any s.ps t.ps w0 (hs.ps.below hb0) (ht.ps.below hb0)
  have hq : ∀ w0, (Op.equalIn 10000 26 (.agg (v8 s.d).toArray) (.agg (v8 t.d).toArray)).run Try.prog w0 = .ok (s.d == t.d) w0 := fun w0 => run_equal8 w0 9998 26 5 32 Try.underlying26 Try.underlying5 isz8 s.d t.d h.dl h'.dl
  have iu : (Try.prog.info? 26).map (·.size) = some (v8 s.d).length := by rw [v8_length, h.dl]; kernel_rfl
  have iu' : (Try.prog.info? 26).map (·.size) = some (v8 t.d).length := by rw [v8_length, h'.dl]; kernel_rfl
  obtain ⟨g, hg⟩ : ∃ g, Hid (s.B t = g) := ⟨_, hide rfl⟩
  rw [hg.out]
  unfold Stt.B at hg
  obtain ⟨W, hW⟩ : ∃ W, Hid ((w.alloc (.cells s.cells.toArray 30)).alloc (.cells t.cells.toArray 30) = W) := ⟨_, hide rfl⟩
  rw [hW.out] at hr hr' hB hz pe pn pc pd pw pp pe' pn' pc' pd' pw' pp'
  clear hr hr' hs ht h h'
  obtain ⟨E, N, C, D, ws, ps⟩ := s
  obtain ⟨E', N', C', D', ws', ps'⟩ := t
  simp only at *
  generalize sameL Wd.B ws.xs ws'.xs = bw at *
  generalize decide (ps.xs = ps'.xs) = bp at *
  generalize (D == D') = bd at *
  generalize v8 D = u at *
  generalize v8 D' = u' at *
  generalize Stt.cells _ = q at *
  generalize Stt.cells _ = q' at *
  simp only [Sl.val] at *
  go_enter Try.func14, Try.ntmps14
  go_upto_region 1 with fail
  go_name_world w1 hw1
  obtain rfl : W = w1 := hW.out.symm.trans hw1
  clear hw1 hW
  by_cases k1 : E = E'
  rotate_left
  · obtain rfl : g = false := by rw [← hg.out]; simp only [k1, decide_false, Bool.false_and, Bool.and_false]
    have e0 : (E != E') = true := by simpa using k1
    have e1 : (E == E') = false := by simpa using k1
    clear hg cw ci k1 hq
    go_wp2
    go_ret
    exact ⟨rfl, hB⟩
  subst k1
  by_cases k2 : N = N'
  rotate_left
  · obtain rfl : g = false := by rw [← hg.out]; simp only [k2, decide_false, Bool.false_and, Bool.and_false]
    have e0 : (N != N') = true := by simpa using k2
    have e1 : (N == N') = false := by simpa using k2
    clear hg cw ci k2 hq
    go_wp2
    go_ret
    exact ⟨rfl, hB⟩
  subst k2
  by_cases k3 : C = C'
  rotate_left
  · obtain rfl : g = false := by rw [← hg.out]; simp only [k3, decide_false, Bool.false_and, Bool.and_false]
    have e0 : (C != C') = true := by simpa using k3
    have e1 : (C == C') = false := by simpa using k3
    clear hg cw ci k3 hq
    go_wp2
    go_ret
    exact ⟨rfl, hB⟩
  subst k3
  have HG : Hid (g = (bd && (bw && bp))) := hide (by rw [← hg.out, show decide (E = E) = true from decide_eq_true rfl, show decide (N = N) = true from decide_eq_true rfl, show decide (C = C) = true from decide_eq_true rfl]; rfl)
  clear hg
  cases bd
  · have HG' := hide HG.out
    clear HG cw ci
    go_wp2_with (first | (refine wpList_load_g (by rfl) 26 _ rfl _ _ rfl u _ pd Try.underlying26 rfl iu ?_) | (refine wpList_load_g (by rfl) 26 _ rfl _ _ rfl u' _ pd' Try.underlying26 rfl iu' ?_))
    go_ret
    exact ⟨by rw [HG'.out]; rfl, hB⟩
  go_wp2_with (first | (refine wpList_load_g (by rfl) 26 _ rfl _ _ rfl u _ pd Try.underlying26 rfl iu ?_) | (refine wpList_load_g (by rfl) 26 _ rfl _ _ rfl u' _ pd' Try.underlying26 rfl iu' ?_))
  refine (cw _ hB).mono ?_
  rintro e2 w2 ⟨rfl, hb2⟩
  have pp := (hb2.cell (p := ⟨w.heap.size, 36, none⟩) (by simp; omega)).trans pp
  have pp' := (hb2.cell (p := ⟨w.heap.size + 1, 36, none⟩) (by simp; omega)).trans pp'
  have hB := hB.trans (hb2.mono (by omega))
  clear cw hb2 pd pd' hq iu iu' pe pn pc pw pe' pn' pc' pw'
  cases bw
  · have HG' := hide HG.out
    clear HG ci
    go_wp2
    go_ret
    exact ⟨by rw [HG'.out]; rfl, hB⟩
  go_wp2_with fail
  refine (ci _ hB).mono ?_
  rintro e3 w3 ⟨rfl, hb3⟩
  have hB := hB.trans (hb3.mono hB.size)
  clear ci hb3 pp pp'
  have HG' := hide HG.out
  clear HG
  cases bp
  · go_wp2
    go_ret
    exact ⟨by rw [HG'.out]; rfl, hB⟩
  · go_wp2
    go_ret
    exact ⟨by rw [HG'.out]; rfl, hB⟩
set_option maxRecDepth 100000 in
set_option maxHeartbeats 1000000 in
theorem xssame_any (s t : Stt) (w : World) (h : s.ok) (h' : t.ok) (hs : s.At w) (ht : t.At w) : Calls Try.prog 8 #[.agg s.cells.toArray, .agg t.cells.toArray] w fun e w' => e = .returned (.bool (s.B t)) ∧ Below w.heap.size w w' := by
  obtain ⟨hr, hr', hB, hz⟩ := two_boxG s.cells t.cells 30 w
  obtain ⟨pe, pn, pc, pd, pw, pp⟩ := st_parts h hr
  obtain ⟨pe', pn', pc', pd', pw', pp'⟩ := st_parts h' hr'
  have cw : ∀ w0, Below w.heap.size w w0 → Calls Try.prog 24 #[s.ws.val, t.ws.val] w0 fun e w' => e = .returned (.bool (sameL Wd.B s.ws.xs t.ws.xs)) ∧ Below w0.heap.size w0 w' := fun w0 hb0 => xwins_anyB _ _ _ _ _ _ w0 (hs.ws.below hb0) (ht.ws.below hb0)
  have ci : ∀ w0, Below w.heap.size w w0 → Calls Try.prog 25 #[s.ps.val, t.ps.val] w0 _ := fun w0 hb0 => eqInts_any s.ps t.ps w0 (hs.ps.below hb0) (ht.ps.below hb0)
  have hq : ∀ w0, (Op.equalIn 10000 26 (.agg (v8 s.d).toArray) (.agg (v8 t.d).toArray)).run Try.prog w0 = .ok (s.d == t.d) w0 := fun w0 => run_equal8 w0 9998 26 5 32 Try.underlying26 Try.underlying5 isz8 s.d t.d h.dl h'.dl
  have iu : (Try.prog.info? 26).map (·.size) = some (v8 s.d).length := by rw [v8_length, h.dl]; kernel_rfl
  have iu' : (Try.prog.info? 26).map (·.size) = some (v8 t.d).length := by rw [v8_length, h'.dl]; kernel_rfl
  obtain ⟨g, hg⟩ : ∃ g, Hid (s.B t = g) := ⟨_, hide rfl⟩
  rw [hg.out]
  unfold Stt.B at hg
  obtain ⟨W, hW⟩ : ∃ W, Hid ((w.alloc (.cells s.cells.toArray 30)).alloc (.cells t.cells.toArray 30) = W) := ⟨_, hide rfl⟩
  rw [hW.out] at hr hr' hB hz pe pn pc pd pw pp pe' pn' pc' pd' pw' pp'
  clear hr hr' hs ht h h'
  obtain ⟨E, N, C, D, ws, ps⟩ := s
  obtain ⟨E', N', C', D', ws', ps'⟩ := t
  simp only at *
  generalize sameL Wd.B ws.xs ws'.xs = bw at *
  generalize decide (ps.xs = ps'.xs) = bp at *
  generalize (D == D') = bd at *
  generalize v8 D = u at *
  generalize v8 D' = u' at *
  generalize Stt.cells _ = q at *
  generalize Stt.cells _ = q' at *
  simp only [Sl.val] at *
  go_enter Try.func8, Try.ntmps8
  go_upto_region 1 with fail
  go_name_world w1 hw1
  obtain rfl : W = w1 := hW.out.symm.trans hw1
  clear hw1 hW
  by_cases k1 : E = E'
  rotate_left
  · obtain rfl : g = false := by rw [← hg.out]; simp only [k1, decide_false, Bool.false_and, Bool.and_false]
    have e0 : (E != E') = true := by simpa using k1
    have e1 : (E == E') = false := by simpa using k1
    clear hg cw ci k1 hq
    go_wp2
    go_ret
    exact ⟨rfl, hB⟩
  subst k1
  by_cases k2 : N = N'
  rotate_left
  · obtain rfl : g = false := by rw [← hg.out]; simp only [k2, decide_false, Bool.false_and, Bool.and_false]
    have e0 : (N != N') = true := by simpa using k2
    have e1 : (N == N') = false := by simpa using k2
    clear hg cw ci k2 hq
    go_wp2
    go_ret
    exact ⟨rfl, hB⟩
  subst k2
  by_cases k3 : C = C'
  rotate_left
  · obtain rfl : g = false := by rw [← hg.out]; simp only [k3, decide_false, Bool.false_and, Bool.and_false]
    have e0 : (C != C') = true := by simpa using k3
    have e1 : (C == C') = false := by simpa using k3
    clear hg cw ci k3 hq
    go_wp2
    go_ret
    exact ⟨rfl, hB⟩
  subst k3
  have HG : Hid (g = (bd && (bw && bp))) := hide (by rw [← hg.out, show decide (E = E) = true from decide_eq_true rfl, show decide (N = N) = true from decide_eq_true rfl, show decide (C = C) = true from decide_eq_true rfl]; rfl)
  clear hg
  cases bd
  · have HG' := hide HG.out
    clear HG cw ci
    go_wp2_with (first | (refine wpList_load_g (by rfl) 26 _ rfl _ _ rfl u _ pd Try.underlying26 rfl iu ?_) | (refine wpList_load_g (by rfl) 26 _ rfl _ _ rfl u' _ pd' Try.underlying26 rfl iu' ?_))
    go_ret
    exact ⟨by rw [HG'.out]; rfl, hB⟩
  go_wp2_with (first | (refine wpList_load_g (by rfl) 26 _ rfl _ _ rfl u _ pd Try.underlying26 rfl iu ?_) | (refine wpList_load_g (by rfl) 26 _ rfl _ _ rfl u' _ pd' Try.underlying26 rfl iu' ?_))
  refine (cw _ hB).mono ?_
  rintro e2 w2 ⟨rfl, hb2⟩
  have pp := (hb2.cell (p := ⟨w.heap.size, 36, none⟩) (by simp; omega)).trans pp
  have pp' := (hb2.cell (p := ⟨w.heap.size + 1, 36, none⟩) (by simp; omega)).trans pp'
  have hB := hB.trans (hb2.mono (by omega))
  clear cw hb2 pd pd' hq iu iu' pe pn pc pw pe' pn' pc' pw'
  cases bw
  · have HG' := hide HG.out
    clear HG ci
    go_wp2
    go_ret
    exact ⟨by rw [HG'.out]; rfl, hB⟩
  go_wp2_with fail
  refine (ci _ hB).mono ?_
  rintro e3 w3 ⟨rfl, hb3⟩
  have hB := hB.trans (hb3.mono hB.size)
  clear ci hb3 pp pp'
  have HG' := hide HG.out
  clear HG
  cases bp
  · go_wp2
    go_ret
    exact ⟨by rw [HG'.out]; rfl, hB⟩
  · go_wp2
    go_ret
    exact ⟨by rw [HG'.out]; rfl, hB⟩
end Go.Proofs.Ytaaifcpanflejaa
namespace Go.Proofs.Ytaaifcpanflejaa
open Go.RowKit
open Sha Tal
set_option maxHeartbeats 800000 in
theorem refRead_any (a : Option Addr) (cap : Nat) (zs : List Int) (w : World) (h : RowAt w a zs) (hl : zs.length ≤ 40000) :
    Calls Try.prog 18 #[.slice a zs.length cap] w fun e w' => ∃ X, e = .returned (.pointer (some ⟨X, 0, none⟩)) ∧ w.heap.size ≤ X ∧ RSt w.heap.size w' X zs 0 ∧ Below w.heap.size w w' := by
  obtain ⟨i0, hi, hz0, hz1, hz2⟩ := info_parts info8
  go_enter Try.func18, Try.ntmps18
  go_wp2_with (at_builtin; refine wpList_append_own_src _ rfl _ _ 46 46 rfl w.heap.size 5 i0 (.int .u8 0) 1 1 Try.underlying46 hi hz0 hz1 hz2 rfl _ 0 [] rfl (World.ownsRow_made w #[] 0 (Nat.le_refl _) (by simp) (by simp)) (.slice a zs.length cap) zs.length (zs.map (Value.int .u8)) rfl ((h.below ((Below.refl _ _).alloc (Nat.le_refl _) _)).src cap) ?c1 ?c2 ?c3 ?_)
  case c1 => unfold maxLen; omega
  case c2 => omega
  case c3 => simp
  intro v' w1 hown hgrow
  have hb : Below w.heap.size w w1 := ((Below.refl _ _).alloc (Nat.le_refl _) _).grown hgrow (by simp) (fun k hk => by simp [Value.ownBlock] at hk; omega)
  have hmine : Mine w1 w.heap.size v' zs := ⟨by simpa using hown, h.2.1⟩
  clear hown hgrow
  obtain ⟨a', cap', rfl, hc1, hc2, hr⟩ := hmine.rowAt (by unfold maxLen; omega)
  have hblk : ∀ x, a' = some x → w.heap.size ≤ x.block ∧ x.block < w1.heap.size := fun x hx => hmine.1.lt x.block (by simp [hx, Value.ownBlock])
  have hb2 : Below w1.heap.size w1 (w1.alloc (.cells #[.slice a' zs.length cap', .int .i64 0, .int .i64 0] 54)) := (Below.refl _ _).alloc (Nat.le_refl _) _
  have hSt : RSt w.heap.size (w1.alloc (.cells #[.slice a' zs.length cap', .int .i64 0, .int .i64 0] 54)) w1.heap.size zs 0 := by
    have cs : ∀ j, (w1.alloc (.cells #[.slice a' zs.length cap', .int .i64 0, .int .i64 0] 54)).cell? ⟨w1.heap.size, j, none⟩ = (#[.slice a' zs.length cap', .int .i64 0, .int .i64 0] : Array Value)[j]? := fun j => World.cell?_alloc_at _ _ _ _ rfl
    have fs : ∀ j, (w1.alloc (.cells #[.slice a' zs.length cap', .int .i64 0, .int .i64 0] 54)).frozen? ⟨w1.heap.size, j, none⟩ = false := fun j => World.frozen?_alloc_at _ _ _ _ rfl
    exact ⟨zs, 0, ⟨by simp, ⟨a', cap', cs 0, hc1, hc2, hr.below hb2, hblk⟩, cs 1, cs 2, fs 0, fs 1, fs 2, Nat.zero_le _, hl⟩, fun _ => rfl⟩
  go_wp2_with fail
  go_ret
  exact ⟨_, rfl, hb.size, hSt, hb.trans (hb2.mono hb.size)⟩
end Go.Proofs.Ytaaifcpanflejaa
namespace Go.Proofs.Ytaaifcpanflejaa
open Go Go.RowKit
section
variable {P : Program} {ops : Array Oper} {Q : Exit → Act → World → Prop} {md : Region.Mode}

/-- whatever comes up from here on; w0: the world behind the last call -/
def Held (P : Program) (ops : Array Oper) (Q : Exit → Act → World → Prop) (w0 : World) (fuel : Nat) (listed : Array Bool) (a : Act) (w : World) : Prop :=
  wpAnyH P .any ops (NoPanic Q) (fun w' => Below w0.heap.size w0 w') fuel listed a w

theorem held_begin {id : Nat} {a : Act} {w : World} (n : Nat) (hn : ops.size = n) (hm : P.follows .mixedOrders = true) (h : Held P ops Q w.drew n (Array.replicate n false) a w.drew) : (Code.region id ops true).wp P Q a w := by
  subst hn
  exact wp_region_noPanic (wp_region_held hm h)
theorem held_take {i : Nat} {oi : Oper} {d : Option Nat} {v : Value} {fuel : Nat} {listed : Array Bool} {a : Act} {w w0 : World} (hi : ops[i]? = some oi)
    (hs : Region.noSelect ops = true) (hf : Region.free .any ops listed i = true) (hr : (Region.ready .any ops listed).contains i = true)
    (hw : Region.wanted oi (yielded ops a.tmps) = true) (hy : ∀ w', Below w0.heap.size w0 w' → (execOp a.eval oi).run P w' = .ok (.value v) w') (hS : Below w0.heap.size w0 w) (hdst : oi.dst = d)
    (h : Held P ops Q w0 fuel (listed.setIfInBounds i true) (a.put d v) w) : Held P ops Q w0 (fuel + 1) listed a w := by
  subst hdst
  exact wpAnyH_take hi hs hf hr (fun _ _ _ h => h) (Or.inl ⟨hw, hy⟩) hS h
/-- an operation that comes up alone and makes memory of its own (a builtin, a new variable): the condition stays -/
theorem held_run {i : Nat} {oi : Oper} {d : Option Nat} {v : Value} {fuel : Nat} {listed : Array Bool} {a : Act} {w w' w0 : World} (hi : ops[i]? = some oi)
    (hr : Region.ready .any ops listed = [i]) (hw : Region.wanted oi (yielded ops a.tmps) = true) (hy : (execOp a.eval oi).run P w = .ok (.value v) w') (hdst : oi.dst = d)
    (hS : Below w0.heap.size w0 w') (h : Held P ops Q w0 fuel (listed.setIfInBounds i true) (a.put d v) w') : Held P ops Q w0 (fuel + 1) listed a w := by
  subst hdst
  refine wpAnyH_all hr (by simp) ?_
  intro j hj
  obtain rfl : j = i := by simpa using hj
  unfold wpOp
  simp only [hi, hw, if_true]
  left
  unfold Oper.wp
  rw [hy]
  exact ⟨hS, h⟩
theorem exec_append {o : Oper} {a : Act} {w w' : World} {s x : Operand} {t tx : TypeId} {v xv v' : Value} (ho : o.op = .call { callee := .builtin .append, args := #[s, x], argTypes := #[t, tx] }) (hs : a.eval s = v) (hx : a.eval x = xv)
    (hr : (Builtin.append_ #[t, tx] o.type #[v, xv]).run P w = .ok v' w') : (execOp a.eval o).run P w = .ok (.value v') w' := by
  unfold execOp
  simp only [ho, resolve, invoke, builtin, Sem.run_bind, Sem.run_pure, Result.andThen_ok, List.map_toArray, List.map_cons, List.map_nil, hs, hx, hr]
theorem held_done {fuel : Nat} {listed : Array Bool} {a : Act} {w w0 : World} (hr : Region.ready .any ops listed = []) (h : Q .normal a w) : Held P ops Q w0 fuel listed a w :=
  wpAnyH_done hr (NoPanic.normal h) fuel
end
end Go.Proofs.Ytaaifcpanflejaa
namespace Go.Proofs.Ytaaifcpanflejaa
open Go.RowKit
open Sha Tal
variable {B : Nat}
set_option maxRecDepth 100000 in
set_option maxHeartbeats 1600000 in
theorem refRaw_good (X : Nat) (zs : List Int) (p : Nat) (w : World) (hR : Rf B w X zs p 0) (m : Nat) (hmc : p + m ≤ zs.length) :
    Calls Try.prog 20 #[.pointer (some ⟨X, 0, none⟩), .int .i64 (m : Int)] w fun en w' => ∃ v, en = .returned v ∧ Mine w' w.heap.size v ((zs.drop p).take m) ∧ RSt B w' X (zs.drop (p + m)) 0 ∧ w.grownBy w' (some X) := by
  obtain ⟨i0, hi, hz0, hz1, hz2⟩ := info_parts info8
  have hl5 := hR.2.2.2.2.2.2.2.2
  have hpl := hR.2.2.2.2.2.2.2.1
  have h2 := hR.2.2.2.1
  have f1 := hR.2.2.2.2.2.1
  have h1 := hR.2.2.1
  obtain ⟨a, cap, h0, hc, hm, hrow, hne⟩ := id hR.2.1
  unfold maxLen at hm
  have hfew : ¬ ((zs.length : Int) - p < m) := by omega
  have hn0 : ¬ ((m : Int) < 0) := by omega
  go_enter Try.func20, Try.ntmps20
  go_wp2_with fail
  go_quiet (fail)
  go_wp2_with fail
  have hwrap : IntKind.i64.wrap (p : Int) = p := by
    have e : (p : Int) % 2 ^ 64 = p := by omega
    simp only [IntKind.wrap, IntKind.bits, IntKind.signed, e]
    rw [if_neg (by simp; omega)]
  have hRf : Rf B ((w.drewN nq).setCell ⟨X, 1, none⟩ (.int .i64 ((p : Int) + m))) X zs (p + m) 0 := by
    have := (hR.drewN nq).set1 (p + m) hmc
    have e : ((p + m : Nat) : Int) = (p : Int) + m := by omega
    rw [e] at this; exact this
  have hgW : w.grownBy ((w.drewN nq).setCell ⟨X, 1, none⟩ (.int .i64 ((p : Int) + m))) (some X) := gb_trans (gbz_drewN w nq _) (gb_set _ X 1 _)
  have HC0 : ((w.drewN nq).setCell ⟨X, 1, none⟩ (.int .i64 ((p : Int) + m))).drew.cell? ⟨X, 0, none⟩ = some (.slice a zs.length cap) := by
    have : (w.drewN nq).cell? ⟨X, 0, none⟩ = some (.slice a zs.length cap) := by simpa using h0
    exact (World.cell?_setCell_other _ _ _ _ (by simp)).trans this
  generalize (w.drewN nq).setCell ⟨X, 1, none⟩ (.int .i64 ((p : Int) + m)) = W at *
  have hW : Below W.heap.size W W.drew := (Below.refl _ _).drew
  have hRd : Rf B W.drew X zs (p + m) 0 := hRf.below hW
  have hrd : RowAt W.drew a zs := (hrow.gb hgW (.inr (suc_ne hne))).below hW
  have hsz : w.heap.size ≤ W.drew.heap.size := hgW.size
  clear h0 h1 h2 f1 hrow
  have hk0 : ∀ w', Below W.drew.heap.size W.drew w' → w'.cell? ⟨X, 0, none⟩ = some (.slice a zs.length cap) := by
    intro w' hw
    have hb := (cell_block (j := 0) (hw.block X hRd.1)).1
    rw [hb]; exact HC0
  have hk1 : ∀ w', Below W.drew.heap.size W.drew w' → w'.cell? ⟨X, 1, none⟩ = some (.int .i64 ((p : Int) + m)) := by
    intro w' hw
    have hb := (cell_block (j := 1) (hw.block X hRd.1)).1
    have := hRd.2.2.1
    have e : ((p + m : Nat) : Int) = (p : Int) + m := by omega
    rw [hb, this, e]
  have hsrc : Src Try.prog 1 46 (.slice (cutA a cap p) m (cap - p)) m (((zs.drop p).take m).map (Value.int .u8)) (W.drew.alloc (.cells #[] 5)) := by
    have hr := (((hrd.drop p cap hpl hc).take m).below ((Below.refl _ _).alloc (Nat.le_refl _) (.cells #[] 5))).src (cap - p)
    have el : ((zs.drop p).take m).length = m := by rw [List.length_take, List.length_drop]; omega
    rw [el] at hr; exact hr
  refine held_begin 18 rfl (by kernel_rfl) ?_
  have hS := Below.refl (W.drew).heap.size W.drew
  refine held_take (i := 1) (d := some 40) (v := ?_) rfl (by kernel_rfl) (by kernel_rfl) (by kernel_rfl) (by rfl) ?_ (by assumption) rfl ?_
  rotate_left
  · intro w' hw
    go_simp
    try with_reducible rfl
  simp only [Act.put, List.setIfInBounds_toArray, List.set_cons_zero, List.set_cons_succ]
  refine held_take (i := 2) (d := some 41) (v := ?_) rfl (by kernel_rfl) (by kernel_rfl) (by kernel_rfl) (by rfl) ?_ (by assumption) rfl ?_
  rotate_left
  · intro w' hw
    go_simp
    try with_reducible rfl
  simp only [Act.put, List.setIfInBounds_toArray, List.set_cons_zero, List.set_cons_succ]
  refine held_take (i := 3) (d := some 42) (v := ?_) rfl (by kernel_rfl) (by kernel_rfl) (by kernel_rfl) (by rfl) ?_ (by assumption) rfl ?_
  rotate_left
  · intro w' hw
    go_simp
    try with_reducible rfl
  simp only [Act.put, List.setIfInBounds_toArray, List.set_cons_zero, List.set_cons_succ]
  refine held_take (i := 4) (d := some 43) (v := ?_) rfl (by kernel_rfl) (by kernel_rfl) (by kernel_rfl) (by rfl) ?_ (by assumption) rfl ?_
  rotate_left
  · intro w' hw
    have c0 := hk0 w' hw
    have c1 := hk1 w' hw
    go_simp
    try with_reducible rfl
  simp only [Act.put, List.setIfInBounds_toArray, List.set_cons_zero, List.set_cons_succ]
  refine held_take (i := 5) (d := some 44) (v := ?_) rfl (by kernel_rfl) (by kernel_rfl) (by kernel_rfl) (by rfl) ?_ (by assumption) rfl ?_
  rotate_left
  · intro w' hw
    go_simp
    try with_reducible rfl
  simp only [Act.put, List.setIfInBounds_toArray, List.set_cons_zero, List.set_cons_succ]
  refine held_take (i := 6) (d := some 45) (v := ?_) rfl (by kernel_rfl) (by kernel_rfl) (by kernel_rfl) (by rfl) ?_ (by assumption) rfl ?_
  rotate_left
  · intro w' hw
    go_simp
    try with_reducible rfl
  simp only [Act.put, List.setIfInBounds_toArray, List.set_cons_zero, List.set_cons_succ]
  refine held_take (i := 7) (d := some 46) (v := ?_) rfl (by kernel_rfl) (by kernel_rfl) (by kernel_rfl) (by rfl) ?_ (by assumption) rfl ?_
  rotate_left
  · intro w' hw
    go_simp
    try with_reducible rfl
  simp only [Act.put, List.setIfInBounds_toArray, List.set_cons_zero, List.set_cons_succ]
  refine held_take (i := 8) (d := some 47) (v := ?_) rfl (by kernel_rfl) (by kernel_rfl) (by kernel_rfl) (by rfl) ?_ (by assumption) rfl ?_
  rotate_left
  · intro w' hw
    have c0 := hk0 w' hw
    have c1 := hk1 w' hw
    go_simp
    try with_reducible rfl
  simp only [Act.put, List.setIfInBounds_toArray, List.set_cons_zero, List.set_cons_succ]
  refine held_take (i := 9) (d := some 48) (v := ?_) rfl (by kernel_rfl) (by kernel_rfl) (by kernel_rfl) (by rfl) ?_ (by assumption) rfl ?_
  rotate_left
  · intro w' hw
    go_simp
    try with_reducible rfl
  simp only [Act.put, List.setIfInBounds_toArray, List.set_cons_zero, List.set_cons_succ]
  refine held_take (i := 10) (d := some 49) (v := .int .i64 (p : Int)) rfl (by kernel_rfl) (by kernel_rfl) (by kernel_rfl) (by rfl) ?_ (by assumption) rfl ?_
  · intro w' hw
    go_simp
  simp only [Act.put, List.setIfInBounds_toArray, List.set_cons_zero, List.set_cons_succ]
  refine held_take (i := 11) (d := some 50) (v := ?_) rfl (by kernel_rfl) (by kernel_rfl) (by kernel_rfl) (by rfl) ?_ (by assumption) rfl ?_
  rotate_left
  · intro w' hw
    go_simp
    try with_reducible rfl
  simp only [Act.put, List.setIfInBounds_toArray, List.set_cons_zero, List.set_cons_succ]
  refine held_take (i := 12) (d := some 51) (v := ?_) rfl (by kernel_rfl) (by kernel_rfl) (by kernel_rfl) (by rfl) ?_ (by assumption) rfl ?_
  rotate_left
  · intro w' hw
    go_simp
    try with_reducible rfl
  simp only [Act.put, List.setIfInBounds_toArray, List.set_cons_zero, List.set_cons_succ]
  refine held_take (i := 13) (d := some 52) (v := ?_) rfl (by kernel_rfl) (by kernel_rfl) (by kernel_rfl) (by rfl) ?_ (by assumption) rfl ?_
  rotate_left
  · intro w' hw
    go_simp
    try with_reducible rfl
  simp only [Act.put, List.setIfInBounds_toArray, List.set_cons_zero, List.set_cons_succ]
  refine held_take (i := 14) (d := some 53) (v := ?_) rfl (by kernel_rfl) (by kernel_rfl) (by kernel_rfl) (by rfl) ?_ (by assumption) rfl ?_
  rotate_left
  · intro w' hw
    have c0 := hk0 w' hw
    have c1 := hk1 w' hw
    go_simp
    try with_reducible rfl
  simp only [Act.put, List.setIfInBounds_toArray, List.set_cons_zero, List.set_cons_succ]
  refine held_take (i := 15) (d := some 54) (v := .slice (cutA a cap p) m (cap - p)) rfl (by kernel_rfl) (by kernel_rfl) (by kernel_rfl) (by rfl) ?_ (by assumption) rfl ?_
  · intro w' hw
    go_simp
    rw [if_pos (by omega), if_pos (by omega)]
    have e1 : ((p : Int) + m).toNat - p = m := by omega
    rw [e1]
    simp only [cutA]
  simp only [Act.put, List.setIfInBounds_toArray, List.set_cons_zero, List.set_cons_succ]
  refine held_run (i := 0) (d := some 39) (v := .slice (some ⟨W.drew.heap.size, 0, none⟩) 0 0) (w' := W.drew.alloc (.cells #[] 5)) rfl (by kernel_rfl) (by rfl) (by go_simp; try with_reducible rfl) rfl ?_ ?_
  · exact (Below.refl _ _).alloc (Nat.le_refl _) _
  simp only [Act.put, List.setIfInBounds_toArray, List.set_cons_zero, List.set_cons_succ]
  obtain ⟨v', w', hrun, hown, hgrow⟩ := run_append_own_src (P := Try.prog) (W.drew.alloc (.cells #[] 5)) W.drew.heap.size 46 46 46 5 i0 (.int .u8 0) 1 1 Try.underlying46 hi hz0 hz1 hz2 rfl (.slice (some ⟨W.drew.heap.size, 0, none⟩) 0 0) 0 [] (World.ownsRow_made W.drew #[] 0 (Nat.le_refl _) (by simp) (by simp)) (.slice (cutA a cap p) m (cap - p)) m (((zs.drop p).take m).map (Value.int .u8)) hsrc (by unfold maxLen; omega) (by omega) (by simp)
  have hb1 : Below W.drew.heap.size W.drew w' := ((Below.refl _ _).alloc (Nat.le_refl _) _).grown hgrow (by simp) (fun k hk => by simp [Value.ownBlock] at hk; have : W.drew.heap.size = W.heap.size := rfl; omega)
  refine held_run (i := 16) (d := some 55) (v := v') (w' := w') rfl (by kernel_rfl) (by rfl) (exec_append rfl rfl rfl hrun) rfl hb1 ?_
  simp only [Act.put, List.setIfInBounds_toArray, List.set_cons_zero, List.set_cons_succ]
  refine held_take (i := 17) (d := some 4) (v := ?_) rfl (by kernel_rfl) (by kernel_rfl) (by kernel_rfl) (by rfl) ?_ (by assumption) rfl ?_
  rotate_left
  · intro w' hw
    go_simp
    try with_reducible rfl
  simp only [Act.put, List.setIfInBounds_toArray, List.set_cons_zero, List.set_cons_succ]
  refine held_done (by kernel_rfl) ?_
  go_wp2_with fail
  go_ret
  have el : ((zs.drop p).take m).length = m := by rw [List.length_take, List.length_drop]; omega
  have hM : Mine w' W.drew.heap.size v' ((zs.drop p).take m) := Mine.mk' _ hown (by rw [el]; omega) (by simp) (fun z hz => hrd.2.1 z (List.mem_of_mem_drop (List.mem_of_mem_take hz)))
  exact ⟨_, rfl, hM.mono' hsz, ⟨zs, p + m, hRd.below hb1, fun _ => rfl⟩, gb_trans hgW (gb_below (hW.trans hb1) _)⟩
set_option maxRecDepth 100000 in
set_option maxHeartbeats 1600000 in
theorem refRaw_any (X : Nat) (rest : List Int) (e n : Int) (w : World) (h : RSt B w X rest e) :
    Calls Try.prog 20 #[.pointer (some ⟨X, 0, none⟩), .int .i64 n] w fun en w' => ∃ v, en = .returned v ∧ Mine w' w.heap.size v (rawS rest e n).1 ∧ RSt B w' X (rawS rest e n).2.1 (rawS rest e n).2.2 ∧ w.grownBy w' (some X) := by
  obtain ⟨zs, p, hR, hd⟩ := h
  have hl5 := hR.2.2.2.2.2.2.2.2
  have hpl := hR.2.2.2.2.2.2.2.1
  by_cases he : e = 0
  · subst he
    have hd := hd rfl
    subst hd
    by_cases hn : n < 0
    · have HS : Hid (rawS (zs.drop p) 0 n = ([], zs.drop p, 2)) := by show _ = _; unfold rawS; rw [if_pos rfl, if_pos hn]
      have h2 := hR.2.2.2.1
      have f2 := hR.2.2.2.2.2.2.1
      go_enter Try.func20, Try.ntmps20
      go_wp2_with fail
      go_ret
      rw [HS.out]
      exact ⟨_, rfl, Mine.nil _ _, ⟨zs, p, hR.set2 2, fun h => by cases h⟩, gb_set _ X 2 _⟩
    · by_cases hf : (zs.length : Int) - p < n
      · have HS : Hid (rawS (zs.drop p) 0 n = ([], zs.drop p, 10)) := by show _ = _; unfold rawS; rw [if_pos rfl, if_neg hn, if_pos (by rw [List.length_drop]; omega)]
        have h2 := hR.2.2.2.1
        have h1 := hR.2.2.1
        have f2 := hR.2.2.2.2.2.2.1
        obtain ⟨a, cap, h0, hc, hm, hr⟩ := hR.rest
        go_enter Try.func20, Try.ntmps20
        go_wp2_with fail
        go_quiet (fail)
        go_wp2_with fail
        go_ret
        rw [HS.out]
        exact ⟨_, rfl, Mine.nil _ _, ⟨zs, p, (hR.drewN nq).set2 10, fun h => by cases h⟩, gb_trans (gbz_drewN w nq _) (gb_set _ X 2 _)⟩
      · obtain ⟨m, rfl⟩ := Int.eq_ofNat_of_zero_le (Int.not_lt.1 hn)
        have e1 : rawS (zs.drop p) 0 (m : Int) = ((zs.drop p).take m, zs.drop (p + m), 0) := by
          unfold rawS; rw [if_pos rfl, if_neg hn, if_neg (by rw [List.length_drop]; omega), Int.toNat_natCast, List.drop_drop]
        rw [e1]
        exact refRaw_good X zs p w hR m (by omega)
  · have HS : Hid (rawS rest e n = ([], rest, e)) := by show _ = _; unfold rawS; rw [if_neg he]
    have he' : (e == 0) = false := by simpa using he
    have h2 := hR.2.2.2.1
    go_enter Try.func20, Try.ntmps20
    go_wp2_with fail
    go_ret
    rw [HS.out]
    exact ⟨_, rfl, Mine.nil _ _, ⟨zs, p, hR, fun h => absurd h he⟩, gb_refl _ _⟩
end Go.Proofs.Ytaaifcpanflejaa
namespace Go.Proofs.Ytaaifcpanflejaa
open Go.RowKit
open Sha Tal
theorem RdE.gb {w w' : World} {R : Nat} {e : Int} {r : Option Nat} (h : RdE w R e) (hg : w.grownBy w' r) (hr : some R ≠ r) : RdE w' R e :=
  h.below (hg.block R h.1 hr) hg.size
/-- a reader stays where a block beyond it turns -/
theorem St.gb {w w' : World} {R g : Nat} {rest : List Int} {e : Int} (h : St w R rest e) (hg : w.grownBy w' (some g)) (hr : R < g) : St w' R rest e := by
  refine ⟨h.1.gb hg (by intro q; injection q with q; omega), fun he => ?_⟩
  obtain ⟨a, cap, h0, hc, hm, hrow, hlt⟩ := h.2 he
  refine ⟨a, cap, (cell_block (hg.block R h.1.1 (by intro q; injection q with q; omega))).1.trans h0, hc, hm, hrow.gb hg (.inr (fun x hx => by have := hlt x hx; omega)), hlt⟩
/-- the document's reader stays where a block turns that is not its own nor its bytes' -/
theorem RSt.gb {B : Nat} {w w' : World} {X g : Nat} {rest : List Int} {e : Int} (h : RSt B w X rest e) (hg : w.grownBy w' (some g)) (hr : g < B ∧ g ≠ X ∨ X < g) : RSt B w' X rest e := by
  obtain ⟨zs, p, ⟨hX, ⟨a, cap, h0, hc, hm, hrow, hlt⟩, h1, h2, f0, f1, f2, hp, hl⟩, hd⟩ := h
  have hne : some X ≠ some g := by intro q; injection q with q; omega
  have hk := fun j => @cell_block w w' X j (hg.block X hX hne)
  exact ⟨zs, p, ⟨Nat.lt_of_lt_of_le hX hg.size, ⟨a, cap, (hk 0).1.trans h0, hc, hm, hrow.gb hg (.inr (fun x hx => by have := hlt x hx; omega)), hlt⟩, (hk 1).1.trans h1, (hk 2).1.trans h2, (hk 0).2.trans f0, (hk 1).2.trans f1, (hk 2).2.trans f2, hp, hl⟩, hd⟩
/-- all blocks of w but R and X lie in W as they lay -/
structure Kept (w : World) (R X : Nat) (W : World) : Prop where
  os : W.os = w.os
  tape : W.tape = w.tape
  output : W.output = w.output
  size : w.heap.size ≤ W.heap.size
  block : ∀ k, k < w.heap.size → k ≠ R → k ≠ X → W.heap[k]? = w.heap[k]?
theorem Kept.refl (w : World) (R X : Nat) : Kept w R X w := ⟨rfl, rfl, rfl, Nat.le_refl _, fun _ _ _ _ => rfl⟩
theorem Kept.gb {w W W' : World} {R X g : Nat} (h : Kept w R X W) (hg : W.grownBy W' (some g)) (hr : g = R ∨ g = X ∨ w.heap.size ≤ g) : Kept w R X W' :=
  ⟨hg.os.trans h.os, hg.tape.trans h.tape, hg.output.trans h.output, Nat.le_trans h.size hg.size, fun k hk k1 k2 => (hg.block k (Nat.lt_of_lt_of_le hk h.size) (by intro q; injection q with q; omega)).trans (h.block k hk k1 k2)⟩
theorem Kept.below {w W W' : World} {R X : Nat} (h : Kept w R X W) (hb : Below W.heap.size W W') : Kept w R X W' :=
  ⟨hb.os.trans h.os, hb.tape.trans h.tape, hb.output.trans h.output, Nat.le_trans h.size hb.size, fun k hk k1 k2 => (hb.block k (Nat.lt_of_lt_of_le hk h.size)).trans (h.block k hk k1 k2)⟩
/-- both readers, at the same bytes with the same error -/
structure Two (B : Nat) (w : World) (R X : Nat) (W : World) (rest : List Int) (e : Int) : Prop where
  own : St W R rest e
  doc : RSt B W X rest e
  kept : Kept w R X W
theorem Two.below {B : Nat} {w W W' : World} {R X : Nat} {rest : List Int} {e : Int} (h : Two B w R X W rest e) (hb : Below W.heap.size W W') : Two B w R X W' rest e :=
  ⟨h.own.below hb, h.doc.below hb, h.kept.below hb⟩
theorem Two.gb {B : Nat} {w W W' : World} {R X g : Nat} {rest : List Int} {e : Int} (h : Two B w R X W rest e) (hg : W.grownBy W' (some g)) (h1 : R < X) (h2 : X < g) (h3 : w.heap.size ≤ g) : Two B w R X W' rest e :=
  ⟨h.own.gb hg (by omega), h.doc.gb hg (.inr h2), h.kept.gb hg (.inr (.inr h3))⟩
theorem numR_nonneg (zs : List Int) (hz : ∀ z ∈ zs, 0 ≤ z ∧ z < 256) : 0 ≤ (numR zs).1 := by
  cases zs with
  | nil => simp [numR]
  | cons k tl =>
    simp only [numR]
    split
    · simp
    · split
      · simp
      · split
        · have hb := val_bound (tl.take k.toNat) (fun z hzz => hz z (List.mem_cons_of_mem _ (List.mem_of_mem_take hzz)))
          simp only [valR]
          split
          · simp
          · exact hb.1
        · simp
end Go.Proofs.Ytaaifcpanflejaa
namespace Go.Proofs.Ytaaifcpanflejaa.Wn
set_option maxRecDepth 100000
open Go.RowKit
open Tal
def winL (B : Int) (m : Nat) : List Int := putL B ++ putL ((m / 4294967296 : Nat) : Int) ++ putL ((m % 4294967296 : Nat) : Int)
structure Got where
  base : Int
  high : Nat
  low : Nat
  rest : List Int
  err : Int
theorem numS_le (rest : List Int) (e most : Int) (h : 0 ≤ most) : (numS rest e most).1 ≤ most := by
  unfold numS
  split
  · split
    · split
      · exact h
      · show (numR rest).1 ≤ most; omega
    · exact h
  · exact h
def ByteL (e : Int) (rest : List Int) : Prop := e = 0 → ∀ z ∈ rest, 0 ≤ z ∧ z < 256
theorem numS_pos {rest : List Int} {e : Int} (most : Int) (hz : ByteL e rest) : 0 ≤ (numS rest e most).1 := by
  unfold numS
  split
  · rename_i he
    split
    · split
      · exact Int.le_refl _
      · exact numR_nonneg rest (hz he)
    · exact Int.le_refl _
  · exact Int.le_refl _
theorem numS_bytes {rest : List Int} {e : Int} (most : Int) (hz : ByteL e rest) : ByteL (numS rest e most).2.2 (numS rest e most).2.1 := by
  unfold numS
  split
  · rename_i he
    split
    · split
      · exact fun _ => hz he
      · exact fun _ z hm => hz he z (List.mem_of_mem_drop hm)
    · exact fun _ => hz he
  · rename_i he
    exact fun h => absurd h he
theorem St.bytes {w : World} {R : Nat} {rest : List Int} {e : Int} (h : St w R rest e) : ByteL e rest := by
  intro he
  obtain ⟨a, cap, _, _, _, hrow, _⟩ := h.2 he
  exact hrow.2.1
theorem or_hl (hi lo : Nat) (h : lo < 4294967296) (h2 : hi < 4294967296) : bits BinOp.or IntKind.u64 ((hi : Int) * 4294967296) (lo : Int) = ((hi * 4294967296 + lo : Nat) : Int) := by
  have e : ((hi : Int) * 4294967296) = ((hi * 4294967296 : Nat) : Int) := by omega
  rw [e, or_nat _ _ (by omega) (by omega)]
  congr 1
  have := Nat.two_pow_add_eq_or_of_lt (i := 32) (b := lo) (by omega) hi
  rw [show hi * 4294967296 = 2 ^ 32 * hi by omega, ← this]
/-- what Get tells, and where the reader stands behind it -/
def getR (rest : List Int) (e : Int) : Got :=
  ⟨(numS rest e 1099511627777).1,
   (numS (numS rest e 1099511627777).2.1 (numS rest e 1099511627777).2.2 4294967295).1.toNat,
   (numS (numS (numS rest e 1099511627777).2.1 (numS rest e 1099511627777).2.2 4294967295).2.1 (numS (numS rest e 1099511627777).2.1 (numS rest e 1099511627777).2.2 4294967295).2.2 4294967295).1.toNat,
   (numS (numS (numS rest e 1099511627777).2.1 (numS rest e 1099511627777).2.2 4294967295).2.1 (numS (numS rest e 1099511627777).2.1 (numS rest e 1099511627777).2.2 4294967295).2.2 4294967295).2.1,
   (numS (numS (numS rest e 1099511627777).2.1 (numS rest e 1099511627777).2.2 4294967295).2.1 (numS (numS rest e 1099511627777).2.1 (numS rest e 1099511627777).2.2 4294967295).2.2 4294967295).2.2⟩
def getOk (g : Got) : Bool := decide (g.err = 0) && goodW g.base (g.high * 4294967296 + g.low)
def getB (g : Got) : Int := if getOk g then g.base else 0
def getM (g : Got) : Nat := if getOk g then g.high * 4294967296 + g.low else 0
theorem there_gb {w w' : World} {R b n : Nat} (h : w.there b 0 n) (hg : w.grownBy w' (some R)) (hb : b < w.heap.size) (hne : b ≠ R) : w'.there b 0 n := fun j hj => by
  have hk := @cell_block w w' b (0 + j) (hg.block b hb (by intro q; injection q with q; exact hne q))
  exact ⟨by rw [hk.1]; exact (h j hj).1, by rw [hk.2]; exact (h j hj).2⟩
theorem gb_on {w W W' : World} {R B : Nat} (h : w.grownBy W (some R)) (hb : Below B W W') (hB : w.heap.size ≤ B) : w.grownBy W' (some R) :=
  ⟨hb.os.trans h.os, hb.tape.trans h.tape, hb.output.trans h.output, Nat.le_trans h.size hb.size, fun i hi hr => (hb.block i (by omega)).trans (h.block i hi hr)⟩
theorem St.on {w W W' : World} {R B : Nat} {rest : List Int} {e : Int} (h : St W R rest e) (hg : W.grownBy W' (some B)) (hR : R < B) (_ : w.heap.size ≤ B) : St W' R rest e := h.gb hg hR
theorem gb_sets (W : World) (b : Nat) : ∀ (vs : List Value) (o : Nat), W.grownBy (W.setCells b o vs) (some b) := by
  intro vs
  induction vs generalizing W with
  | nil => intro o; exact gb_refl _ _
  | cons v vs ih => intro o; exact gb_trans (gb_set W b o v) (ih _ (o + 1))
set_option maxHeartbeats 2000000 in
theorem wget_any (R : Nat) (rest : List Int) (e : Int) (w : World) (h : St w R rest e) :
    Calls Try.prog 39 #[.pointer (some ⟨R, 0, none⟩)] w fun en w' => en = .returned (winV (getB (getR rest e)) (getM (getR rest e) : Int)) ∧ St w' R (getR rest e).rest (getR rest e).err ∧ w.grownBy w' (some R) := by
  have hRw := h.1.1
  have hz := St.bytes h
  have p1 := numS_pos 1099511627777 hz
  have u1 := numS_le rest e 1099511627777 (by decide)
  have hz1 := numS_bytes 1099511627777 hz
  have bA : Below w.heap.size w (w.alloc (.cells #[.int .i64 0, .int .u64 0] 57)) := (Below.refl _ _).alloc (Nat.le_refl _) _
  have tA := there_new w #[.int .i64 0, .int .u64 0] 57
  have sA : (w.alloc (.cells #[.int .i64 0, .int .u64 0] 57)).heap.size = w.heap.size + 1 := World.size_alloc _ _
  have c1 := num_any R rest e 1099511627777 _ (h.below bA)
  have g0 := gb_below bA (some R)
  obtain ⟨G, hG⟩ : ∃ G, Hid (getR rest e = G) := ⟨_, rfl⟩
  have G1 : Hid (G.base = (numS rest e 1099511627777).1) := hide (by rw [← hG.out]; rfl)
  have G2 : Hid (G.high = (numS (numS rest e 1099511627777).2.1 (numS rest e 1099511627777).2.2 4294967295).1.toNat) := hide (by rw [← hG.out]; rfl)
  have G3 : Hid (G.low = (numS (numS (numS rest e 1099511627777).2.1 (numS rest e 1099511627777).2.2 4294967295).2.1 (numS (numS rest e 1099511627777).2.1 (numS rest e 1099511627777).2.2 4294967295).2.2 4294967295).1.toNat) := hide (by rw [← hG.out]; rfl)
  have G4 : Hid (G.rest = (numS (numS (numS rest e 1099511627777).2.1 (numS rest e 1099511627777).2.2 4294967295).2.1 (numS (numS rest e 1099511627777).2.1 (numS rest e 1099511627777).2.2 4294967295).2.2 4294967295).2.1) := hide (by rw [← hG.out]; rfl)
  have G5 : Hid (G.err = (numS (numS (numS rest e 1099511627777).2.1 (numS rest e 1099511627777).2.2 4294967295).2.1 (numS (numS rest e 1099511627777).2.1 (numS rest e 1099511627777).2.2 4294967295).2.2 4294967295).2.2) := hide (by rw [← hG.out]; rfl)
  rw [hG.out]
  clear hG
  obtain ⟨b0, hb0⟩ : ∃ x, Hid ((numS rest e 1099511627777).1 = x) := ⟨_, rfl⟩
  obtain ⟨r1, hr1⟩ : ∃ x, Hid ((numS rest e 1099511627777).2.1 = x) := ⟨_, rfl⟩
  obtain ⟨e1, he1⟩ : ∃ x, Hid ((numS rest e 1099511627777).2.2 = x) := ⟨_, rfl⟩
  rw [hb0.out] at p1 u1 G1
  rw [hr1.out, he1.out] at hz1 G2 G3 G4 G5
  rw [hb0.out, hr1.out, he1.out] at c1
  have p2 := numS_pos 4294967295 hz1
  have u2 := numS_le r1 e1 4294967295 (by decide)
  have hz2 := numS_bytes 4294967295 hz1
  obtain ⟨b1, hb1⟩ : ∃ x, Hid ((numS r1 e1 4294967295).1 = x) := ⟨_, rfl⟩
  obtain ⟨r2, hr2⟩ : ∃ x, Hid ((numS r1 e1 4294967295).2.1 = x) := ⟨_, rfl⟩
  obtain ⟨e2, he2⟩ : ∃ x, Hid ((numS r1 e1 4294967295).2.2 = x) := ⟨_, rfl⟩
  rw [hb1.out] at p2 u2 G2
  rw [hr2.out, he2.out] at hz2 G3 G4 G5
  have p3 := numS_pos 4294967295 hz2
  have u3 := numS_le r2 e2 4294967295 (by decide)
  obtain ⟨b2, hb2⟩ : ∃ x, Hid ((numS r2 e2 4294967295).1 = x) := ⟨_, rfl⟩
  obtain ⟨r3, hr3⟩ : ∃ x, Hid ((numS r2 e2 4294967295).2.1 = x) := ⟨_, rfl⟩
  obtain ⟨e3, he3⟩ : ∃ x, Hid ((numS r2 e2 4294967295).2.2 = x) := ⟨_, rfl⟩
  rw [hb2.out] at p3 u3 G3
  rw [hr3.out] at G4
  rw [he3.out] at G5
  clear hz hz1 hz2 h
  go_enter Try.func39, Try.ntmps39
  go_wp2_with fail
  obtain ⟨w0, hw0⟩ : ∃ w0, w.alloc (.cells #[.int .i64 0, .int .u64 0] 57) = w0 := ⟨_, rfl⟩
  rw [hw0] at c1 g0 tA sA
  rw [hw0]
  clear hw0 bA
  refine c1.mono ?_
  rintro en w1 ⟨rfl, s1, g1⟩
  have t1 := there_gb tA g1 (by omega) (by omega)
  have z1 := g1.size
  have gg1 := gb_trans g0 g1
  have c2 := num_any R r1 e1 4294967295 w1 s1
  rw [hb1.out, hr2.out, he2.out] at c2
  clear c1 g1 g0 tA
  go_wp2_with fail
  refine c2.mono ?_
  rintro en w2 ⟨rfl, s2, g2⟩
  have t2 := there_gb t1 g2 (by omega) (by omega)
  have z2 := g2.size
  have gg2 := gb_trans gg1 g2
  have c3 := num_any R r2 e2 4294967295 w2 s2
  rw [hb2.out, hr3.out, he3.out] at c3
  clear c2 g2 gg1 t1 s1
  go_wp2_with fail
  refine c3.mono ?_
  rintro en w3 ⟨rfl, s3, g3⟩
  have t3 := there_gb t2 g3 (by omega) (by omega)
  have z3 := g3.size
  have gg3 := gb_trans gg2 g3
  clear c3 g3 gg2 t2 s2
  obtain ⟨hi, rfl⟩ := Int.eq_ofNat_of_zero_le p2
  obtain ⟨lo, rfl⟩ := Int.eq_ofNat_of_zero_le p3
  have hor := or_hl hi lo (by omega) (by omega)
  have uh : IntKind.u64.wrap (hi : Int) = (hi : Int) := by rw [IntKind.wrap_u64]; omega
  have ul : IntKind.u64.wrap (lo : Int) = (lo : Int) := by rw [IntKind.wrap_u64]; omega
  have us : IntKind.u64.wrap ((hi : Int) * 4294967296) = (hi : Int) * 4294967296 := by rw [IntKind.wrap_u64]; omega
  -- END
  go_wp2_with fail
  obtain ⟨M, hM⟩ : ∃ M : Nat, Hid (M = hi * 4294967296 + lo) := ⟨_, rfl⟩
  have hMi : (hi : Int) * 4294967296 + (lo : Int) = (M : Int) := by rw [hM.out]; omega
  have hMlt : M < 2 ^ 64 := by rw [hM.out]; omega
  rw [hMi]
  have hok : Hid (getOk G = (decide (e3 = 0) && goodW b0 M)) := hide (by unfold getOk; rw [G1.out, G2.out, G3.out, G5.out, hM.out]; rfl)
  have hbs : Hid (getB G = if getOk G then b0 else 0) := hide (by unfold getB; rw [G1.out])
  have hms : Hid (getM G = if getOk G then M else 0) := hide (by unfold getM; rw [G2.out, G3.out, hM.out]; rfl)
  clear hor uh ul us hMi hM G1 G2 G3 p2 p3 u2 u3
  have b4 : Below w3.heap.size w3 (w3.alloc (.cells #[.int .i64 b0, .int .u64 (M : Int)] 57)) := (Below.refl _ _).alloc (Nat.le_refl _) _
  have s4 := s3.below b4
  have t4 := there_below t3 b4 (by omega)
  have gg4 := gb_on gg3 b4 (by omega)
  have v4 := range_new w3 #[.int .i64 b0, .int .u64 (M : Int)] 57
  have z4 : (w3.alloc (.cells #[.int .i64 b0, .int .u64 (M : Int)] 57)).heap.size = w3.heap.size + 1 := World.size_alloc _ _
  obtain ⟨P, hP⟩ : ∃ P, w3.heap.size = P := ⟨_, rfl⟩
  obtain ⟨w4, hw4⟩ : ∃ w4, w3.alloc (.cells #[.int .i64 b0, .int .u64 (M : Int)] 57) = w4 := ⟨_, rfl⟩
  rw [hw4] at s4 t4 gg4
  rw [hw4, hP] at v4 z4
  rw [hP] at z3
  rw [hw4, hP]
  clear s3 t3 gg3 b4 hP hw4
  have ce := err_made R e3 w4 s4.1
  by_cases he : e3 = 0
  · subst he
    have cg := good_any b0 M hMlt w4
    refine ce.mono ?_
    rintro en wx ⟨rfl, hx⟩
    obtain rfl := hx.symm
    clear hx ce
    have q0 : w4.cell? ⟨P, 0, none⟩ = some (.int .i64 b0) := v4 0 _ rfl
    have q1 : w4.cell? ⟨P, 1, none⟩ = some (.int .u64 (M : Int)) := v4 1 _ rfl
    cases hg : goodW b0 M with
    | false =>
      have EB : Hid (getB G = 0) := hide (by rw [hbs.out, hok.out, hg]; rfl)
      have EM : Hid (getM G = 0) := hide (by rw [hms.out, hok.out, hg]; rfl)
      rw [hg] at cg
      clear hok hbs hms hg
      go_wp2_with fail
      refine cg.mono ?_
      rintro en w5 ⟨rfl, b5⟩
      have t5 := there_below t4 b5 (by omega)
      have s5 := s4.below b5
      have gg5 := gb_on gg4 b5 (by omega)
      clear cg q0 q1 t4 s4 gg4 v4
      have hrs := win_load (win_set (B := 0) (m := 0) t5)
      have gf := gb_on gg5 (below_sets (B := w.heap.size) (b := w.heap.size) (Nat.le_refl _) (winC 0 0) 0 _ (Below.refl _ w5)) (Nat.le_refl _)
      have sf := s5.gb (gb_sets w5 w.heap.size (winC 0 0) 0) hRw
      go_wp2_with (refine wpList_store_mid (op := ⟨none, .store 57 (.tmp 2) (.tmp 29), _, _, _, none⟩) rfl 57 _ _ rfl _ _ #[.int .i64 0, .int .u64 0] rfl rfl t5 infoW (two_cells _ _) ?_)
      refine bodyPost_ret (v := winV 0 0) ?_ rfl ?_
      · simp [results, Try.results39, Act.put, asAddr, hrs]
      · exact ⟨by rw [EB.out, EM.out]; rfl, by rw [G4.out, G5.out]; exact sf, gf⟩
    | true =>
      have EB : Hid (getB G = b0) := hide (by rw [hbs.out, hok.out, hg]; rfl)
      have EM : Hid (getM G = M) := hide (by rw [hms.out, hok.out, hg]; rfl)
      rw [hg] at cg
      clear hok hbs hms hg
      go_wp2_with fail
      refine cg.mono ?_
      rintro en w5 ⟨rfl, b5⟩
      have t5 := there_below t4 b5 (by omega)
      have s5 := s4.below b5
      have gg5 := gb_on gg4 b5 (by omega)
      have v5 := range_below v4 b5 (by omega)
      clear cg q0 q1 t4 s4 gg4 v4
      have q0 : w5.cell? ⟨P, 0, none⟩ = some (.int .i64 b0) := v5 0 _ rfl
      have q1 : w5.cell? ⟨P, 1, none⟩ = some (.int .u64 (M : Int)) := v5 1 _ rfl
      have hrs := win_load (win_set (B := b0) (m := (M : Int)) t5)
      have gf := gb_on gg5 (below_sets (B := w.heap.size) (b := w.heap.size) (Nat.le_refl _) (winC b0 (M : Int)) 0 _ (Below.refl _ w5)) (Nat.le_refl _)
      have sf := s5.gb (gb_sets w5 w.heap.size (winC b0 (M : Int)) 0) hRw
      go_wp2_with (refine wpList_store_mid (op := ⟨none, .store 57 (.tmp 2) (.tmp 30), _, _, _, none⟩) rfl 57 _ _ rfl _ _ #[.int .i64 b0, .int .u64 (M : Int)] rfl rfl t5 infoW (two_cells _ _) ?_)
      refine bodyPost_ret (v := winV b0 (M : Int)) ?_ rfl ?_
      · simp [results, Try.results39, Act.put, asAddr, hrs]
      · exact ⟨by rw [EB.out, EM.out], by rw [G4.out, G5.out]; exact sf, gf⟩
  · have EB : Hid (getB G = 0) := hide (by rw [hbs.out, hok.out, decide_eq_false he]; rfl)
    have EM : Hid (getM G = 0) := hide (by rw [hms.out, hok.out, decide_eq_false he]; rfl)
    clear hok hbs hms
    refine ce.mono ?_
    rintro en w5 ⟨rfl, hx⟩
    obtain rfl := hx
    clear ce
    have t5 := t4
    have s5 := s4
    have gg5 := gg4
    clear t4 s4 gg4 v4
    have hrs := win_load (win_set (B := 0) (m := 0) t5)
    have gf := gb_on gg5 (below_sets (B := w.heap.size) (b := w.heap.size) (Nat.le_refl _) (winC 0 0) 0 _ (Below.refl _ w5)) (Nat.le_refl _)
    have sf := s5.gb (gb_sets w5 w.heap.size (winC 0 0) 0) hRw
    go_wp2_with (refine wpList_store_mid (op := ⟨none, .store 57 (.tmp 2) (.tmp 29), _, _, _, none⟩) rfl 57 _ _ rfl _ _ #[.int .i64 0, .int .u64 0] rfl rfl t5 infoW (two_cells _ _) ?_)
    refine bodyPost_ret (v := winV 0 0) ?_ rfl ?_
    · simp [results, Try.results39, Act.put, asAddr, hrs]
    · exact ⟨by rw [EB.out, EM.out]; rfl, by rw [G4.out, G5.out]; exact sf, gf⟩
end Go.Proofs.Ytaaifcpanflejaa.Wn
namespace Go.Proofs.Ytaaifcpanflejaa.Wn
set_option maxRecDepth 100000
open Go.RowKit
open Tal
theorem info5 : (Try.prog.info? 5).map (fun i => (i.zero, i.size, i.bytes)) = some (some (.int .u8 0), 1, 1) := by kernel_rfl
theorem and_low (m : Nat) (hm : m < 2 ^ 64) : bits BinOp.and IntKind.u64 (m : Int) 4294967295 = ((m % 4294967296 : Nat) : Int) := by
  have := and_nat m 4294967295 hm (by decide)
  rw [show ((4294967295 : Nat) : Int) = (4294967295 : Int) from rfl] at this
  rw [this]
  congr 1
  have := Nat.and_two_pow_sub_one_eq_mod m 32
  exact this
theorem nil_rowT (w : World) : RowAt w none [] := ⟨by simp, by simp, Or.inl rfl⟩
theorem slice_of {w : World} {b : Nat} {e : TypeId} {v : Value} {n : Nat} {xs : List Value} (h : w.ownsRow b e 1 v n xs) : ∃ a cp, v = .slice a n cp := by
  rcases h.2 with ⟨rfl, h0⟩ | ⟨g, cp, cur, rfl, _⟩
  · exact ⟨none, 0, by rw [h0]⟩
  · exact ⟨_, _, rfl⟩
set_option maxHeartbeats 2000000 in
theorem wput_any (a : Option Addr) (cap : Nat) (zs : List Int) (B : Int) (m : Nat) (w : World) (h : RowAt w a zs) (hz : zs.length ≤ 1000000) (hm : m < 2 ^ 64) (hB : B ≤ 9223372036854775807) :
    Calls Try.prog 53 #[.slice a zs.length cap, winV B (m : Int)] w fun e w' => ∃ v, e = .returned v ∧ Mine w' w.heap.size v (zs ++ winL B m) ∧ Below w.heap.size w w' := by
  obtain ⟨i0, hi, hz0, hz1, hz2⟩ := info_parts info5
  have hb0 := one_box (Below.refl (w.alloc (.cells #[.int .i64 B, .int .u64 (m : Int)] 57)).heap.size _)
  have hand := and_low m hm
  obtain ⟨H, hH⟩ : ∃ H, m / 4294967296 = H := ⟨_, rfl⟩
  obtain ⟨L, hL⟩ : ∃ L, m % 4294967296 = L := ⟨_, rfl⟩
  have hHb : H < 4294967296 := by omega
  have hLb : L < 4294967296 := by omega
  have hHi : (m : Int) / 4294967296 = (H : Int) := by omega
  have HW : Hid (winL B m = putL B ++ putL (H : Int) ++ putL (L : Int)) := hide (by unfold winL; rw [hH, hL])
  rw [hL] at hand
  have wH : IntKind.i64.wrap (H : Int) = (H : Int) := wrap_id _ (by omega) (by omega)
  have wL : IntKind.i64.wrap (L : Int) = (L : Int) := wrap_id _ (by omega) (by omega)
  have l1 := putL_length B (by omega)
  have l2 := putL_length (H : Int) (by omega)
  have l3 := putL_length (L : Int) (by omega)
  have c1 := fun w0 => put_any none 0 [] B w0 (nil_rowT w0) (by simp) hB
  have c2 := fun a cap w0 h0 => put_any a cap (putL B) (H : Int) w0 h0 (by omega) (by omega)
  have c3 := fun a cap w0 h0 => put_any a cap (putL B ++ putL (H : Int)) (L : Int) w0 h0 (by rw [List.length_append]; omega) (by omega)
  simp only [List.nil_append, List.length_nil] at c1
  obtain ⟨P1, hP1⟩ : ∃ P1, Hid (putL B = P1) := ⟨_, rfl⟩
  rw [hP1.out] at HW l1
  simp only [hP1.out] at c1 c2 c3
  obtain ⟨P2, hP2⟩ : ∃ P2, Hid (P1 ++ putL (H : Int) = P2) := ⟨_, rfl⟩
  have l4 : P2.length = P1.length + (putL (H : Int)).length := by rw [← hP2.out, List.length_append]
  rw [hP2.out] at HW
  simp only [hP2.out] at c2 c3
  obtain ⟨P3, hP3⟩ : ∃ P3, Hid (P2 ++ putL (L : Int) = P3) := ⟨_, rfl⟩
  have l5 : P3.length = P2.length + (putL (L : Int)).length := by rw [← hP3.out, List.length_append]
  rw [hP3.out] at HW
  simp only [hP3.out] at c3
  rw [HW.out]
  have lP3 : P3.length ≤ 27 := by omega
  have lP1 : P1.length ≤ 9 := by omega
  have lP2 : P2.length ≤ 18 := by omega
  clear HW hH hL hm l1 l2 l3 l4 l5
  go_enter Try.func53, Try.ntmps53
  go_wp2_with fail
  obtain ⟨w0, hw0⟩ : ∃ w0, w.alloc (.cells #[.int .i64 B, .int .u64 (m : Int)] 57) = w0 := ⟨_, rfl⟩
  rw [hw0] at hb0 ⊢
  clear hw0
  obtain ⟨hA, hB0, hsz⟩ := hb0
  refine (c1 w0).mono ?_
  rintro e w1 ⟨v1, rfl, m1, hb1⟩
  have hA1 := range_below hA hb1 hsz
  have hB1 := hB0.trans (hb1.mono hB0.size)
  have hs1 : w.heap.size < w1.heap.size := by have := hb1.size; omega
  obtain ⟨a1, cap1, rfl, _, _, row1⟩ := m1.rowAt (by unfold maxLen; omega)
  clear c1 m1 hA hB0 hb1 hsz
  have q1 : w1.cell? ⟨w.heap.size, 1, none⟩ = some (.int .u64 (m : Int)) := hA1 1 _ rfl
  go_wp2_with fail
  refine (c2 a1 cap1 w1 row1).mono ?_
  rintro e w2 ⟨v2, rfl, m2, hb2⟩
  have hA2 := range_below hA1 hb2 hs1
  have hB2 := hB1.trans (hb2.mono hB1.size)
  have hs2 : w.heap.size < w2.heap.size := by have := hb2.size; omega
  obtain ⟨a2, cap2, rfl, _, _, row2⟩ := m2.rowAt (by unfold maxLen; omega)
  clear c2 m2 hA1 hB1 hb2 hs1 q1
  have q1 : w2.cell? ⟨w.heap.size, 1, none⟩ = some (.int .u64 (m : Int)) := hA2 1 _ rfl
  go_wp2_with fail
  refine (c3 a2 cap2 w2 row2).mono ?_
  rintro e w3 ⟨v3, rfl, m3, hb3⟩
  have hB3 := hB2.trans (hb3.mono hB2.size)
  have mF := m3.2
  obtain ⟨a3, cap3, rfl, _, _, row3⟩ := m3.rowAt (by unfold maxLen; omega)
  clear c3 m3 hA2 hB2 hb3 hs2 q1
  go_wp2_with (first
    | refine wpList_make_own _ rfl _ _ 46 rfl w3.heap.size 5 i0 (.int .u8 0) 1 Try.underlying46 hi hz0 hz1 .i64 .i64 _ (zs.length + P3.length) rfl rfl ?d1 ?d2 ?d3 ?d4 ?_)
  case d1 => omega
  case d2 => rw [hz2]; omega
  case d3 => unfold maxLen; omega
  case d4 => exact Nat.le_refl _
  intro w4 hown4 hgrow4
  have hb4 : Below w3.heap.size w3 w4 := (Below.refl _ _).grown hgrow4 (Nat.le_refl _) (fun k hk => by cases hk)
  go_wp2_with (at_builtin; refine wpList_append_own_src _ rfl _ _ 46 46 rfl w3.heap.size 5 i0 (.int .u8 0) 1 1 Try.underlying46 hi hz0 hz1 hz2 rfl _ 0 [] rfl hown4 (.slice a zs.length cap) zs.length (zs.map (Value.int .u8)) rfl ((h.below (hB3.trans (hb4.mono hB3.size))).src cap) ?c1 ?c2 ?c3 ?_)
  case c1 => unfold maxLen; omega
  case c2 => omega
  case c3 => exact hb4.size
  intro v5 w5 hown5 hgrow5
  have hb5 := below_grown hb4 hb4.size hown4 hgrow5
  have hown5' : w5.ownsRow w3.heap.size 5 1 v5 zs.length (zs.map (Value.int .u8)) := by simpa using hown5
  obtain ⟨b5, cp5, rfl⟩ := slice_of hown5'
  clear hown4 hgrow4 hown5 hgrow5 hb4
  go_wp2_with (at_builtin; refine wpList_append_own_src _ rfl _ _ 46 46 rfl w3.heap.size 5 i0 (.int .u8 0) 1 1 Try.underlying46 hi hz0 hz1 hz2 rfl _ zs.length (zs.map (Value.int .u8)) rfl hown5' (.slice a3 P3.length cap3) P3.length (P3.map (Value.int .u8)) rfl ((row3.below hb5).src cap3) ?c1 ?c2 ?c3 ?_)
  case c1 => unfold maxLen; omega
  case c2 => omega
  case c3 => exact hb5.size
  intro v6 w6 hown6 hgrow6
  have hb6 := below_grown hb5 hb5.size hown5' hgrow6
  obtain ⟨b6, cp6, rfl⟩ := slice_of hown6
  have hB6 := hB3.trans (hb6.mono hB3.size)
  have M6 : Mine w6 w.heap.size (.slice b6 (zs.length + P3.length) cp6) (zs ++ P3) := (Mine.mk' (zs ++ P3) hown6 (by simp) (by simp) (fun z hz => by rcases List.mem_append.1 hz with q | q; exact h.2.1 z q; exact mF z q)).mono' hB3.size
  go_wp2_with fail
  go_ret
  exact ⟨_, rfl, M6, hB6⟩
end Go.Proofs.Ytaaifcpanflejaa.Wn
namespace Go.Proofs.Ytaaifcpanflejaa
open Go.RowKit
open Sha Tal
set_option linter.unusedVariables false
set_option linter.unusedSimpArgs false
section
variable {P : Program} {ops : Array Oper} {Q : Exit → Act → World → Prop}
/-- an operation that comes up alone and makes memory of its own -/
theorem hs_run {i : Nat} {S : World → Prop} {oi : Oper} {d : Option Nat} {v : Value} {fuel : Nat} {listed : Array Bool} {a : Act} {w w' : World} (hi : ops[i]? = some oi)
    (hr : Region.ready .any ops listed = [i]) (hw : Region.wanted oi (yielded ops a.tmps) = true) (hy : (execOp a.eval oi).run P w = .ok (.value v) w') (hdst : oi.dst = d)
    (hS : S w') (h : HeldS P ops Q S fuel (listed.setIfInBounds i true) (a.put d v) w') : HeldS P ops Q S (fuel + 1) listed a w := by
  subst hdst
  refine wpAnyH_all hr (by simp) ?_
  intro j hj
  obtain rfl : j = i := by simpa using hj
  unfold wpOp
  simp only [hi, hw, if_true]
  left
  unfold Oper.wp
  rw [hy]
  exact ⟨hS, h⟩
def StepS (P : Program) (ops : Array Oper) (Q : Exit → Act → World → Prop) (S : World → Prop) (fuel : Nat) (listed : Array Bool) (i : Nat) (a : Act) (w : World) : Prop :=
  wpOp P ops (NoPanic Q) i (fun a' w' => S w' ∧ wpAnyH P .any ops (NoPanic Q) S fuel (listed.setIfInBounds i true) a' w') a w
theorem hs_fork {i j : Nat} {S : World → Prop} {fuel : Nat} {listed : Array Bool} {a : Act} {w : World} (hr : Region.ready .any ops listed = [i, j])
    (h1 : StepS P ops Q S fuel listed i a w) (h2 : StepS P ops Q S fuel listed j a w) : HeldS P ops Q S (fuel + 1) listed a w := by
  refine wpAnyH_all hr (by simp) ?_
  intro k hk
  rcases List.mem_cons.1 hk with rfl | hk
  · exact h1
  · obtain rfl := List.mem_singleton.1 hk
    exact h2
theorem st_call {i : Nat} {S : World → Prop} {oi : Oper} {d : Option Nat} {f : FuncId} {args : Array Value} {fuel : Nat} {listed : Array Bool} {a : Act} {w : World} (hi : ops[i]? = some oi)
    (hw : Region.wanted oi (yielded ops a.tmps) = true) (hy : (execOp a.eval oi).run P w = .ok (.enter f args) w) (hdst : oi.dst = d)
    (h : Calls P f args w fun e w' => ∃ v, e = .returned v ∧ S w' ∧ HeldS P ops Q S fuel (listed.setIfInBounds i true) (a.put d v) w') : StepS P ops Q S fuel listed i a w := by
  subst hdst
  unfold StepS wpOp
  simp only [hi, hw, if_true]
  left
  unfold Oper.wp
  rw [hy]
  refine h.mono ?_
  rintro e w' ⟨v, rfl, hb, hk⟩
  exact ⟨hb, hk⟩
theorem st_run {i : Nat} {S : World → Prop} {oi : Oper} {d : Option Nat} {v : Value} {fuel : Nat} {listed : Array Bool} {a : Act} {w w' : World} (hi : ops[i]? = some oi)
    (hw : Region.wanted oi (yielded ops a.tmps) = true) (hy : (execOp a.eval oi).run P w = .ok (.value v) w') (hdst : oi.dst = d)
    (hS : S w') (h : HeldS P ops Q S fuel (listed.setIfInBounds i true) (a.put d v) w') : StepS P ops Q S fuel listed i a w := by
  subst hdst
  unfold StepS wpOp
  simp only [hi, hw, if_true]
  left
  unfold Oper.wp
  rw [hy]
  exact ⟨hS, h⟩
end
theorem there_part1 {w : World} {b n o m : Nat} (h : w.there b 0 n) (hm : o + m ≤ n) : w.there b o m := fun j hj => by
  have := h (o + j) (by omega)
  rwa [Nat.zero_add] at this
theorem ex_put1 {P : Program} {o : Oper} {a : Act} {w : World} {ty : TypeId} {x y : Operand} {b off n : Nat} {v : Value} (ho : o.op = .store ty x y) (hx : a.eval x = .pointer (some ⟨b, off, none⟩)) (hy : a.eval y = v) (ht : w.there b 0 n) (hn : off < n) (hi : (P.info? ty).map (·.size) = some 1) (hvc : v.cells = #[v]) (h1 : v.oneCell' = true) : (execOp a.eval o).run P w = .ok .skip (w.setCells b off [v]) := by
  refine exec_store ho hx hy ?_
  have e : storeVar ty ⟨b, off, none⟩ v = storeVar ty ⟨b, off, none⟩ (.agg #[v]) := by unfold storeVar; rw [hvc]; rfl
  rw [e, run_storeVar_mid w b off ty #[v] (there_part1 ht (by simp; omega)) hi (by simpa using h1)]
theorem own_cell {w : World} {B k n : Nat} {t : TypeId} {v : Value} {xs : List Value} (h : w.ownsRow B t k v n xs) : v.cells = #[v] ∧ v.oneCell' = true := by
  rcases h.2 with ⟨rfl, _⟩ | ⟨g, cap, cur, rfl, _⟩ <;> exact ⟨rfl, rfl⟩
/-- bytes that grow lie in a row of their own, which the cell O has -/
structure OutAt (w : World) (O : Nat) (v : Value) (zs : List Int) : Prop where
  lt : O < w.heap.size
  c0 : w.cell? ⟨O, 0, none⟩ = some v
  th : w.there O 0 1
  me : Mine w (O + 1) v zs
theorem OutAt.below {w w' : World} {O : Nat} {v : Value} {zs : List Int} (h : OutAt w O v zs) (hb : Below w.heap.size w w') : OutAt w' O v zs :=
  ⟨Nat.lt_of_lt_of_le h.lt hb.size, (hb.cell (p := ⟨O, 0, none⟩) h.lt).trans h.c0, fun j hj => ⟨by rw [hb.cell (p := ⟨O, 0 + j, none⟩) h.lt]; exact (h.th j hj).1, by rw [hb.frozen (p := ⟨O, 0 + j, none⟩) h.lt]; exact (h.th j hj).2⟩, h.me.below hb⟩
/-- more bytes behind them -/
theorem OutAt.more {w w2 : World} {O : Nat} {v v2 : Value} {zs bs : List Int} (h : OutAt w O v zs) (hg : w.grownBy w2 v.ownBlock) (hm : Mine w2 (O + 1) v2 bs) : OutAt (w2.setCells O 0 [v2]) O v2 bs ∧ Below O w (w2.setCells O 0 [v2]) := by
  have hX : w2.heap[O]? = w.heap[O]? := hg.block O h.lt (fun e => by have := (h.me.1.lt O e.symm).1; omega)
  have ht2 : w2.there O 0 1 := fun j hj => by
    have e1 : w2.cell? ⟨O, 0 + j, none⟩ = w.cell? ⟨O, 0 + j, none⟩ := by simp [World.cell?, hX]
    have e2 : w2.frozen? ⟨O, 0 + j, none⟩ = w.frozen? ⟨O, 0 + j, none⟩ := World.frozen?_of_block hX
    rw [e1, e2]; exact h.th j hj
  have hlt2 : O < w2.heap.size := Nat.lt_of_lt_of_le h.lt hg.size
  have hr : (w2.setCells O 0 [v2]).rangeAt O 0 [v2] := World.rangeAt_setCells_same w2 O 0 [v2] ht2
  refine ⟨⟨by rw [size_sets]; exact hlt2, by simpa using hr 0 _ rfl, World.there_setCells ht2 _ _ _, hm.far (fun g hg' => ?_)⟩, ?_⟩
  · have := (hm.1.lt g hg').1
    exact World.heap_setCells_other _ _ _ _ (hm.1.lt g hg').2 (by omega)
  · have h1 : Below O w w2 := (Below.refl O w).grown hg (Nat.le_of_lt h.lt) (fun k hk => by have := (h.me.1.lt k hk).1; omega)
    exact below_sets (Nat.le_refl _) _ _ _ h1
theorem iszBs : (Try.prog.info? 46).map (·.size) = some 1 := by kernel_rfl
set_option maxRecDepth 100000 in
set_option maxHeartbeats 1000000 in
theorem bput_any (O : Nat) (v : Value) (zs : List Int) (n : Int) (w : World) (h : OutAt w O v zs) (hn : n ≤ 9223372036854775807) (hz : zs.length ≤ 1000000) :
    Calls Try.prog 51 #[.int .i64 n, .pointer (some ⟨O, 0, none⟩)] w fun e w' => e = .returned (.tuple #[]) ∧ (∃ v', OutAt w' O v' (zs ++ putL n)) ∧ Below O w w' := by
  obtain ⟨i0, hi, hz0, hz1, hz2⟩ := info_parts Wn.info5
  have cp := fun w0 => put_any none 0 [] n w0 (nil_row w0) (by simp) hn
  simp only [List.nil_append, List.length_nil] at cp
  have hl9 : (putL n).length ≤ 9 := by have := putL_length n (by omega); omega
  generalize putL n = bs at *
  go_enter Try.func51, Try.ntmps51
  go_upto_region 0 with fail
  obtain ⟨w4, hw4⟩ : ∃ W, w.drew = W := ⟨_, rfl⟩
  have h4 : OutAt w4 O v zs := by rw [← hw4]; exact h.below ((Below.refl _ _).drew)
  have hB4 : Below O w w4 := by rw [← hw4]; exact (Below.refl _ _).drew
  refine hs_begin (S := fun _ => True) 5 rfl (by kernel_rfl) ?_
  rw [hw4]
  clear hw4
  have hS : (fun _ : World => True) w4 := trivial
  refine hs_take (i := 1) (d := some 4) (v := ?_) rfl (by kernel_rfl) (by kernel_rfl) (by kernel_rfl) (by rfl) ?_ hS rfl ?_
  rotate_left
  · intro w' hw
    go_simp
    try with_reducible rfl
  simp only [Act.put, List.setIfInBounds_toArray, List.set_cons_zero, List.set_cons_succ]
  refine hs_fork (i := 0) (j := 2) (by kernel_rfl) ?_ ?_
  · refine st_run (i := 0) (d := some 3) (v := v) (w' := w4) rfl (by rfl) (pl_one rfl rfl h4.c0 Try.underlying46 rfl) rfl trivial ?_
    simp only [Act.put, List.setIfInBounds_toArray, List.set_cons_zero, List.set_cons_succ]
    refine hs_call (i := 2) (d := some 5) rfl (by kernel_rfl) (by rfl) (by go_simp; first | done | exact ⟨rfl, rfl⟩ | with_reducible rfl) rfl ?_
    refine (cp w4).mono ?_
    rintro _ w5 ⟨v5, rfl, m5, hb5⟩
    refine ⟨_, rfl, trivial, ?_⟩
    simp only [Act.put, List.setIfInBounds_toArray, List.set_cons_zero, List.set_cons_succ]
    have h5 := h4.below hb5
    have hB5 : Below O w4 w5 := hb5.mono (Nat.le_of_lt h4.lt)
    obtain ⟨a5, cap5, rfl, _, _, row5⟩ := m5.rowAt (by unfold maxLen; omega)
    obtain ⟨v6, w6, hrun, hown, hgr⟩ := run_append_own_src (P := Try.prog) w5 (O + 1) 46 46 46 5 i0 (.int .u8 0) 1 1 Try.underlying46 hi hz0 hz1 hz2 rfl v zs.length _ h5.me.1 (.slice a5 bs.length cap5) bs.length (v8 bs) (row5.src cap5) (by unfold maxLen; omega) (by omega) (by have := h5.lt; omega)
    have hM : Mine w6 (O + 1) v6 (zs ++ bs) := Mine.mk' _ hown (by simp) (by simp [v8]) (fun z hz => by
      rcases List.mem_append.1 hz with hz | hz
      · exact h5.me.2 z hz
      · exact row5.2.1 z hz)
    obtain ⟨h7, hB7⟩ := h5.more hgr hM
    have ht6 : w6.there O 0 1 := fun j hj => by
      have hX : w6.heap[O]? = w5.heap[O]? := hgr.block O h5.lt (fun e => by have := (h5.me.1.lt O e.symm).1; omega)
      have e1 : w6.cell? ⟨O, 0 + j, none⟩ = w5.cell? ⟨O, 0 + j, none⟩ := by simp [World.cell?, hX]
      have e2 : w6.frozen? ⟨O, 0 + j, none⟩ = w5.frozen? ⟨O, 0 + j, none⟩ := World.frozen?_of_block hX
      rw [e1, e2]; exact h5.th j hj
    have hv6 := own_cell hown
    refine hs_run (i := 3) (d := some 6) (v := v6) (w' := w6) rfl (by kernel_rfl) (by rfl) (exec_append rfl rfl rfl hrun) rfl trivial ?_
    simp only [Act.put, List.setIfInBounds_toArray, List.set_cons_zero, List.set_cons_succ]
    refine hs_store (i := 4) (w' := w6.setCells O 0 [v6]) rfl (by kernel_rfl) (by rfl) (ex_put1 (n := 1) rfl rfl rfl ht6 (by decide) iszBs hv6.1 hv6.2) rfl trivial ?_
    refine hs_done (by kernel_rfl) ?_
    have HB := hide (hB4.trans (hB5.trans hB7))
    clear hM ht6 hrun hown hgr hv6 row5 hB4 hB5 hB7 cp h5 h4 h
    go_wp2_with fail
    go_end0
    exact ⟨rfl, ⟨_, h7⟩, HB.out⟩
  · refine st_call (i := 2) (d := some 5) rfl (by rfl) (by go_simp; first | done | exact ⟨rfl, rfl⟩ | with_reducible rfl) rfl ?_
    refine (cp w4).mono ?_
    rintro _ w5 ⟨v5, rfl, m5, hb5⟩
    refine ⟨_, rfl, trivial, ?_⟩
    simp only [Act.put, List.setIfInBounds_toArray, List.set_cons_zero, List.set_cons_succ]
    have h5 := h4.below hb5
    have hB5 : Below O w4 w5 := hb5.mono (Nat.le_of_lt h4.lt)
    refine hs_run (i := 0) (d := some 3) (v := v) (w' := w5) rfl (by kernel_rfl) (by rfl) (pl_one rfl rfl h5.c0 Try.underlying46 rfl) rfl trivial ?_
    simp only [Act.put, List.setIfInBounds_toArray, List.set_cons_zero, List.set_cons_succ]
    obtain ⟨a5, cap5, rfl, _, _, row5⟩ := m5.rowAt (by unfold maxLen; omega)
    obtain ⟨v6, w6, hrun, hown, hgr⟩ := run_append_own_src (P := Try.prog) w5 (O + 1) 46 46 46 5 i0 (.int .u8 0) 1 1 Try.underlying46 hi hz0 hz1 hz2 rfl v zs.length _ h5.me.1 (.slice a5 bs.length cap5) bs.length (v8 bs) (row5.src cap5) (by unfold maxLen; omega) (by omega) (by have := h5.lt; omega)
    have hM : Mine w6 (O + 1) v6 (zs ++ bs) := Mine.mk' _ hown (by simp) (by simp [v8]) (fun z hz => by
      rcases List.mem_append.1 hz with hz | hz
      · exact h5.me.2 z hz
      · exact row5.2.1 z hz)
    obtain ⟨h7, hB7⟩ := h5.more hgr hM
    have ht6 : w6.there O 0 1 := fun j hj => by
      have hX : w6.heap[O]? = w5.heap[O]? := hgr.block O h5.lt (fun e => by have := (h5.me.1.lt O e.symm).1; omega)
      have e1 : w6.cell? ⟨O, 0 + j, none⟩ = w5.cell? ⟨O, 0 + j, none⟩ := by simp [World.cell?, hX]
      have e2 : w6.frozen? ⟨O, 0 + j, none⟩ = w5.frozen? ⟨O, 0 + j, none⟩ := World.frozen?_of_block hX
      rw [e1, e2]; exact h5.th j hj
    have hv6 := own_cell hown
    refine hs_run (i := 3) (d := some 6) (v := v6) (w' := w6) rfl (by kernel_rfl) (by rfl) (exec_append rfl rfl rfl hrun) rfl trivial ?_
    simp only [Act.put, List.setIfInBounds_toArray, List.set_cons_zero, List.set_cons_succ]
    refine hs_store (i := 4) (w' := w6.setCells O 0 [v6]) rfl (by kernel_rfl) (by rfl) (ex_put1 (n := 1) rfl rfl rfl ht6 (by decide) iszBs hv6.1 hv6.2) rfl trivial ?_
    refine hs_done (by kernel_rfl) ?_
    have HB := hide (hB4.trans (hB5.trans hB7))
    clear hM ht6 hrun hown hgr hv6 row5 hB4 hB5 hB7 cp h5 h4 h
    go_wp2_with fail
    go_end0
    exact ⟨rfl, ⟨_, h7⟩, HB.out⟩
end Go.Proofs.Ytaaifcpanflejaa
namespace Go.Proofs.Ytaaifcpanflejaa
open Go.RowKit
open Sha Tal
set_option linter.unusedVariables false
set_option linter.unusedSimpArgs false
def Wd.bytes (x : Wd) : List Int := Wn.winL x.b x.m
def Stt.b1 (s : Stt) : List Int := putL s.e ++ putL s.n ++ putL s.c ++ s.d ++ putL (s.ws.xs.length : Int)
def Stt.b2 (s : Stt) (k : Nat) : List Int := s.b1 ++ (s.ws.xs.take k).flatMap Wd.bytes
def Stt.b3 (s : Stt) (k : Nat) : List Int := s.b2 s.ws.xs.length ++ putL (s.ps.xs.length : Int) ++ (s.ps.xs.take k).flatMap putL
def Stt.bytes (s : Stt) : List Int := s.b3 s.ps.xs.length
theorem putL9 (n : Int) (h : n ≤ 9223372036854775807) : (putL n).length ≤ 9 := by
  have := putL_length n (by omega)
  omega
theorem win27 (x : Wd) (h : x.ok) : x.bytes.length ≤ 27 := by
  have h1 := putL9 x.b h.hi
  have h2 := putL9 ((x.m / 4294967296 : Nat) : Int) (by have := h.ml; omega)
  have h3 := putL9 ((x.m % 4294967296 : Nat) : Int) (by have := h.ml; omega)
  unfold Wd.bytes Wn.winL
  rw [List.length_append, List.length_append]
  omega
theorem flat_leK {α : Type} {f : α → List Int} {K : Nat} : ∀ (xs : List α), (∀ x ∈ xs, (f x).length ≤ K) → (xs.flatMap f).length ≤ xs.length * K
  | [], _ => by simp
  | x :: xs, h => by
    have h1 := h x (by simp)
    have h2 := flat_leK xs (fun y hy => h y (by simp [hy]))
    rw [List.flatMap_cons, List.length_append, List.length_cons, Nat.add_mul]
    omega
theorem Stt.b1_le {s : Stt} (h : s.ok) (hw : s.ws.xs.length ≤ 100) : s.b1.length ≤ 100 := by
  have h1 := putL9 s.e h.e1
  have h2 := putL9 s.n h.n1
  have h3 := putL9 s.c h.c1
  have h4 := putL9 (s.ws.xs.length : Int) (by omega)
  have h5 := h.dl
  unfold Stt.b1
  simp only [List.length_append]
  omega
theorem Stt.b2_le {s : Stt} (h : s.ok) (hw : s.ws.xs.length ≤ 100) (ho : ∀ y ∈ s.ws.xs, y.ok) (k : Nat) : (s.b2 k).length ≤ 2800 := by
  have h1 := Stt.b1_le h hw
  have h2 := flat_leK (f := Wd.bytes) (K := 27) (s.ws.xs.take k) (fun x hx => win27 x (ho x (List.mem_of_mem_take hx)))
  have h3 : (s.ws.xs.take k).length ≤ 100 := by rw [List.length_take]; omega
  have h4 := Nat.mul_le_mul_right 27 h3
  unfold Stt.b2
  rw [List.length_append]
  omega
theorem Stt.b3_le {s : Stt} (h : s.ok) (hw : s.ws.xs.length ≤ 100) (hp : s.ps.xs.length ≤ 200) (ho : ∀ y ∈ s.ws.xs, y.ok) (hq : ∀ z ∈ s.ps.xs, PnOk z) (k : Nat) : (s.b3 k).length ≤ 5000 := by
  have h1 := Stt.b2_le h hw ho s.ws.xs.length
  have h2 := flat_leK (f := putL) (K := 9) (s.ps.xs.take k) (fun x hx => putL9 x (hq x (List.mem_of_mem_take hx)).hi)
  have h3 : (s.ps.xs.take k).length ≤ 200 := by rw [List.length_take]; omega
  have h4 := Nat.mul_le_mul_right 9 h3
  have h5 := putL9 (s.ps.xs.length : Int) (by omega)
  unfold Stt.b3
  simp only [List.length_append]
  omega
theorem Stt.b2_zero (s : Stt) : s.b2 0 = s.b1 := by simp [Stt.b2]
theorem Stt.b2_succ (s : Stt) (k : Nat) (hk : k < s.ws.xs.length) : s.b2 (k + 1) = s.b2 k ++ s.ws.xs[k].bytes := by
  unfold Stt.b2
  rw [List.take_succ_eq_append_getElem hk, List.flatMap_append, List.flatMap_cons, List.flatMap_nil, List.append_nil, ← List.append_assoc]
theorem Stt.b3_zero (s : Stt) : s.b3 0 = s.b2 s.ws.xs.length ++ putL (s.ps.xs.length : Int) := by simp [Stt.b3]
theorem Stt.b3_succ (s : Stt) (k : Nat) (hk : k < s.ps.xs.length) : s.b3 (k + 1) = s.b3 k ++ putL s.ps.xs[k] := by
  unfold Stt.b3
  rw [List.take_succ_eq_append_getElem hk, List.flatMap_append, List.flatMap_cons, List.flatMap_nil, List.append_nil, ← List.append_assoc]
end Go.Proofs.Ytaaifcpanflejaa
namespace Go.Proofs.Ytaaifcpanflejaa
open Go.RowKit
open Sha Tal
set_option linter.unusedVariables false
set_option linter.unusedSimpArgs false
/-- what stays while the bytes grow -/
structure Bo (w0 W : World) (s : Stt) (zs : List Int) : Prop where
  out : ∃ v, OutAt W (w0.heap.size + 1) v zs
  low : Below (w0.heap.size + 1) (w0.alloc (.cells s.cells.toArray 30)) W
theorem Bo.row {w0 W : World} {s : Stt} {zs : List Int} (h : Bo w0 W s zs) : W.rangeAt w0.heap.size 0 s.cells :=
  range_below (boxed_new w0 s.cells 30).2.1 h.low (by omega)
theorem Bo.size {w0 W : World} {s : Stt} {zs : List Int} (h : Bo w0 W s zs) : w0.heap.size + 2 ≤ W.heap.size := by
  obtain ⟨v, h⟩ := h.out
  have := h.lt
  omega
theorem Bo.below {w0 W : World} {s : Stt} {zs : List Int} (h : Bo w0 W s zs) : Below w0.heap.size w0 W :=
  (boxed_new w0 s.cells 30).1.trans (h.low.mono (by omega))
theorem Bo.next {w0 W W' : World} {s : Stt} {zs zs' : List Int} (h : Bo w0 W s zs) (ho : ∃ v, OutAt W' (w0.heap.size + 1) v zs') (hb : Below (w0.heap.size + 1) W W') : Bo w0 W' s zs' := ⟨ho, h.low.trans hb⟩
theorem Bo.more {w0 W W' : World} {s : Stt} {zs : List Int} (h : Bo w0 W s zs) (hb : Below W.heap.size W W') : Bo w0 W' s zs := by
  obtain ⟨v, h1⟩ := h.out
  exact ⟨⟨v, h1.below hb⟩, h.low.trans (hb.mono (by have := h1.lt; omega))⟩
theorem bo_new (w : World) (s : Stt) : Bo w ((w.alloc (.cells s.cells.toArray 30)).alloc (.cells #[.slice none 0 0] 46)) s [] := by
  have e1 : (w.alloc (.cells s.cells.toArray 30)).heap.size = w.heap.size + 1 := World.size_alloc _ _
  have h1 := range_new (w.alloc (.cells s.cells.toArray 30)) #[.slice none 0 0] 46
  have h2 := there_new (w.alloc (.cells s.cells.toArray 30)) #[.slice none 0 0] 46
  rw [e1] at h1 h2
  refine ⟨⟨.slice none 0 0, ⟨by rw [World.size_alloc, e1]; omega, h1 0 _ rfl, h2, Mine.nil _ _⟩⟩, ?_⟩
  exact (Below.refl _ _).alloc (by rw [e1]; exact Nat.le_refl _) _
theorem bo_put {w0 W : World} {s : Stt} {zs : List Int} (h : Bo w0 W s zs) (n : Int) (hn : n ≤ 9223372036854775807) (hz : zs.length ≤ 1000000) : Calls Try.prog 51 #[.int .i64 n, .pointer (some ⟨w0.heap.size + 1, 0, none⟩)] W fun e w' => e = .returned (.tuple #[]) ∧ Bo w0 w' s (zs ++ putL n) := by
  obtain ⟨v, h1⟩ := h.out
  exact (bput_any _ v zs n W h1 hn hz).mono (fun e w' ⟨q1, q2, q3⟩ => ⟨q1, h.next q2 q3⟩)
end Go.Proofs.Ytaaifcpanflejaa
