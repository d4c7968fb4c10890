/- the document's comparisons of lists -/
import Derived.Test.YtahdmajppnffeaaJM7
namespace Go.Proofs.Ytahdmajppnffeaa
open Go.RowKit
open Sha Tal
set_option maxRecDepth 100000 in
set_option maxHeartbeats 2000000 in
theorem xequalS_any (a : Option Addr) (cap : Nat) (rs : List Sg) (a' : Option Addr) (cap' : Nat) (rs' : List Sg) (w : World) (h : RowsAt SgE w a rs) (h' : RowsAt SgE w a' rs') :
    Calls Try.prog 21 #[.slice a rs.length cap, .slice a' rs'.length cap'] w fun e w' => ((e = .returned (.bool true) ∧ rs = rs') ∨ (e = .returned (.bool false) ∧ ¬ rs = rs')) ∧ Below w.heap.size w w' := by
  have hml := h.1
  have hml' := h'.1
  unfold maxLen at hml hml'
  have hall := h.2.1
  have hall' := h'.2.1
  by_cases hlen : rs.length = rs'.length
  rotate_left
  · have e0 : ((rs.length : Int) == rs'.length) = false := by simp; omega
    have HL := hide hlen
    clear hlen
    go_enter Try.func21, Try.ntmps21
    go_wp2
    go_ret
    exact ⟨.inr ⟨rfl, fun hh => HL.out (by rw [hh])⟩, Below.refl _ _⟩
  · have e0 : ((rs.length : Int) == rs'.length) = true := by simp; omega
    have HL := hide hlen
    clear hlen
    go_enter Try.func21, Try.ntmps21
    go_wp2
    go_loopw [5] (fun iv wr => ∃ k : Nat, k ≤ rs.length ∧ iv = .int .i64 (k : Int) ∧ Hid (∀ j (hj : j < rs.length) (hj' : j < rs'.length), j < k → rs[j] = rs'[j]) ∧ Below w.heap.size w wr) (fun iv _ => rs.length - (intOf iv).toNat)
    case atStart => exact ⟨0, by omega, rfl, hide (fun j _ _ hj => absurd hj (by omega)), Below.refl _ _⟩
    case round =>
      clear e0
      obtain ⟨k, hk, rfl, HM, hB⟩ := hrel
      by_cases hlt : k < rs.length
      · have k1 : (k : Int) < rs.length := by omega
        have hlt' : k < rs'.length := by have := HL.out; omega
        have k1' : (k : Int) < rs'.length := by omega
        obtain ⟨b, off, rfl, hb, hre⟩ := (h.below hB).elem k hlt
        have hre : wr.rangeAt b (off + k * 17) rs[k].cells := hre
        obtain ⟨b', off', rfl, hb', hre'⟩ := (h'.below hB).elem k hlt'
        have hre' : wr.rangeAt b' (off' + k * 17) rs'[k].cells := hre'
        obtain ⟨r, hr⟩ : ∃ r, Hid (rs[k] = r) := ⟨_, hide rfl⟩
        obtain ⟨r', hr'⟩ : ∃ r', Hid (rs'[k] = r') := ⟨_, hide rfl⟩
        have hok : r.ok := by rw [← hr.out]; exact hall _ (List.getElem_mem hlt)
        have hok' : r'.ok := by rw [← hr'.out]; exact hall' _ (List.getElem_mem hlt')
        rw [hr.out] at hre
        rw [hr'.out] at hre'
        have HM' : Hid (r = r' → ∀ j (hj : j < rs.length) (hj' : j < rs'.length), j < k + 1 → rs[j] = rs'[j]) := hide (fun hp j hj hj' hjk => by
          by_cases e : j = k
          · subst e; rw [hr.out, hr'.out]; exact hp
          · exact HM.out j hj hj' (by omega))
        have HN' : Hid (r ≠ r' → rs ≠ rs') := hide (fun hp he => by
          apply hp
          rw [← hr.out, ← hr'.out]
          subst he
          rfl)
        clear hr hr' HM
        have hiu : (Try.prog.info? 86).map (·.size) = some r.cells.length := by rw [show r.cells.length = 17 from SgE.len r hok]; kernel_rfl
        have hiu' : (Try.prog.info? 86).map (·.size) = some r'.cells.length := by rw [show r'.cells.length = 17 from SgE.len r' hok']; kernel_rfl
        have hne := fun w0 => Sg.eq10 r r' hok hok' w0
        obtain ⟨u, hu⟩ : ∃ u, Hid (r.cells = u) := ⟨_, hide rfl⟩
        obtain ⟨u', hu'⟩ : ∃ u', Hid (r'.cells = u') := ⟨_, hide rfl⟩
        rw [hu.out] at hre hiu
        rw [hu'.out] at hre' hiu'
        simp only [hu.out, hu'.out] at hne
        clear hu hu' hok hok'
        by_cases hrr : r = r'
        · have e1 : Sg.B r r' = true := Sg.B_iff.2 hrr
          rw [e1] at hne
          have HR := hide hrr
          clear hrr e1
          go_upto_region 6 with fail
          obtain ⟨w5, hw5⟩ : ∃ w5, wr.drew = w5 := ⟨_, rfl⟩
          have hB5 : Below w.heap.size w w5 := by rw [← hw5]; exact hB.drew
          have hre5 : w5.rangeAt b (off + k * 17) u := by rw [← hw5]; exact (World.rangeAt_drew _ _ _ _).2 hre
          have hre5' : w5.rangeAt b' (off' + k * 17) u' := by rw [← hw5]; exact (World.rangeAt_drew _ _ _ _).2 hre'
          have hb5 : b < w5.heap.size := by rw [← hw5]; exact hb
          have hb5' : b' < w5.heap.size := by rw [← hw5]; exact hb'
          refine hs_begin (S := (Below w5.heap.size w5)) 9 rfl (by kernel_rfl) ?_
          rw [hw5]
          clear hw5 hB hre hre' hb hb'
          have hS : (Below w5.heap.size w5) w5 := Below.refl _ _
          refine hs_take (i := 0) (d := some 17) (v := ?_) rfl (by kernel_rfl) (by kernel_rfl) (by kernel_rfl) (by rfl) ?_ hS rfl ?_
          rotate_left
          · intro w' hw
            go_simp
            try with_reducible rfl
          simp only [Act.put, List.setIfInBounds_toArray, List.set_cons_zero, List.set_cons_succ]
          refine hs_take (i := 1) (d := some 18) (v := ?_) rfl (by kernel_rfl) (by kernel_rfl) (by kernel_rfl) (by rfl) ?_ hS rfl ?_
          rotate_left
          · intro w' hw
            go_simp
            try with_reducible rfl
          simp only [Act.put, List.setIfInBounds_toArray, List.set_cons_zero, List.set_cons_succ]
          refine hs_take (i := 2) (d := some 19) (v := ?_) rfl (by kernel_rfl) (by kernel_rfl) (by kernel_rfl) (by rfl) ?_ hS rfl ?_
          rotate_left
          · intro w' hw
            go_simp
            try with_reducible rfl
          simp only [Act.put, List.setIfInBounds_toArray, List.set_cons_zero, List.set_cons_succ]
          refine hs_take (i := 3) (d := some 20) (v := .agg u.toArray) rfl (by kernel_rfl) (by kernel_rfl) (by kernel_rfl) (by rfl) (fun w' hw => exec_loadC rfl rfl (run_loadVar_mid (P := Try.prog) w' b (off + k * 17) 86 u _ (range_below hre5 hw hb5) Try.underlying86 rfl hiu)) hS rfl ?_
          simp only [Act.put, List.setIfInBounds_toArray, List.set_cons_zero, List.set_cons_succ]
          refine hs_take (i := 4) (d := some 21) (v := ?_) rfl (by kernel_rfl) (by kernel_rfl) (by kernel_rfl) (by rfl) ?_ hS rfl ?_
          rotate_left
          · intro w' hw
            go_simp
            try with_reducible rfl
          simp only [Act.put, List.setIfInBounds_toArray, List.set_cons_zero, List.set_cons_succ]
          refine hs_take (i := 5) (d := some 22) (v := ?_) rfl (by kernel_rfl) (by kernel_rfl) (by kernel_rfl) (by rfl) ?_ hS rfl ?_
          rotate_left
          · intro w' hw
            go_simp
            try with_reducible rfl
          simp only [Act.put, List.setIfInBounds_toArray, List.set_cons_zero, List.set_cons_succ]
          refine hs_take (i := 6) (d := some 23) (v := ?_) rfl (by kernel_rfl) (by kernel_rfl) (by kernel_rfl) (by rfl) ?_ hS rfl ?_
          rotate_left
          · intro w' hw
            go_simp
            try with_reducible rfl
          simp only [Act.put, List.setIfInBounds_toArray, List.set_cons_zero, List.set_cons_succ]
          refine hs_take (i := 7) (d := some 24) (v := .agg u'.toArray) rfl (by kernel_rfl) (by kernel_rfl) (by kernel_rfl) (by rfl) (fun w' hw => exec_loadC rfl rfl (run_loadVar_mid (P := Try.prog) w' b' (off' + k * 17) 86 u' _ (range_below hre5' hw hb5') Try.underlying86 rfl hiu')) hS rfl ?_
          simp only [Act.put, List.setIfInBounds_toArray, List.set_cons_zero, List.set_cons_succ]
          refine hs_take (i := 8) (d := some 25) (v := .bool false) rfl (by kernel_rfl) (by kernel_rfl) (by kernel_rfl) (by rfl) (fun w' hw => by have hc := hne w'; go_simp) hS rfl ?_
          simp only [Act.put, List.setIfInBounds_toArray, List.set_cons_zero, List.set_cons_succ]
          refine hs_done (by kernel_rfl) ?_
          go_wp2
          go_roundw
          case rel => exact ⟨k + 1, by omega, by go_num, hide (HM'.out HR.out), hB5⟩
          case measure => simp [intOf]; omega
        · have e1 : Sg.B r r' = false := by
            cases hx : Sg.B r r'
            · rfl
            · exact absurd (Sg.B_iff.1 hx) hrr
          rw [e1] at hne
          have HR := hide hrr
          clear hrr e1
          go_upto_region 6 with fail
          obtain ⟨w5, hw5⟩ : ∃ w5, wr.drew = w5 := ⟨_, rfl⟩
          have hB5 : Below w.heap.size w w5 := by rw [← hw5]; exact hB.drew
          have hre5 : w5.rangeAt b (off + k * 17) u := by rw [← hw5]; exact (World.rangeAt_drew _ _ _ _).2 hre
          have hre5' : w5.rangeAt b' (off' + k * 17) u' := by rw [← hw5]; exact (World.rangeAt_drew _ _ _ _).2 hre'
          have hb5 : b < w5.heap.size := by rw [← hw5]; exact hb
          have hb5' : b' < w5.heap.size := by rw [← hw5]; exact hb'
          refine hs_begin (S := (Below w5.heap.size w5)) 9 rfl (by kernel_rfl) ?_
          rw [hw5]
          clear hw5 hB hre hre' hb hb'
          have hS : (Below w5.heap.size w5) w5 := Below.refl _ _
          refine hs_take (i := 0) (d := some 17) (v := ?_) rfl (by kernel_rfl) (by kernel_rfl) (by kernel_rfl) (by rfl) ?_ hS rfl ?_
          rotate_left
          · intro w' hw
            go_simp
            try with_reducible rfl
          simp only [Act.put, List.setIfInBounds_toArray, List.set_cons_zero, List.set_cons_succ]
          refine hs_take (i := 1) (d := some 18) (v := ?_) rfl (by kernel_rfl) (by kernel_rfl) (by kernel_rfl) (by rfl) ?_ hS rfl ?_
          rotate_left
          · intro w' hw
            go_simp
            try with_reducible rfl
          simp only [Act.put, List.setIfInBounds_toArray, List.set_cons_zero, List.set_cons_succ]
          refine hs_take (i := 2) (d := some 19) (v := ?_) rfl (by kernel_rfl) (by kernel_rfl) (by kernel_rfl) (by rfl) ?_ hS rfl ?_
          rotate_left
          · intro w' hw
            go_simp
            try with_reducible rfl
          simp only [Act.put, List.setIfInBounds_toArray, List.set_cons_zero, List.set_cons_succ]
          refine hs_take (i := 3) (d := some 20) (v := .agg u.toArray) rfl (by kernel_rfl) (by kernel_rfl) (by kernel_rfl) (by rfl) (fun w' hw => exec_loadC rfl rfl (run_loadVar_mid (P := Try.prog) w' b (off + k * 17) 86 u _ (range_below hre5 hw hb5) Try.underlying86 rfl hiu)) hS rfl ?_
          simp only [Act.put, List.setIfInBounds_toArray, List.set_cons_zero, List.set_cons_succ]
          refine hs_take (i := 4) (d := some 21) (v := ?_) rfl (by kernel_rfl) (by kernel_rfl) (by kernel_rfl) (by rfl) ?_ hS rfl ?_
          rotate_left
          · intro w' hw
            go_simp
            try with_reducible rfl
          simp only [Act.put, List.setIfInBounds_toArray, List.set_cons_zero, List.set_cons_succ]
          refine hs_take (i := 5) (d := some 22) (v := ?_) rfl (by kernel_rfl) (by kernel_rfl) (by kernel_rfl) (by rfl) ?_ hS rfl ?_
          rotate_left
          · intro w' hw
            go_simp
            try with_reducible rfl
          simp only [Act.put, List.setIfInBounds_toArray, List.set_cons_zero, List.set_cons_succ]
          refine hs_take (i := 6) (d := some 23) (v := ?_) rfl (by kernel_rfl) (by kernel_rfl) (by kernel_rfl) (by rfl) ?_ hS rfl ?_
          rotate_left
          · intro w' hw
            go_simp
            try with_reducible rfl
          simp only [Act.put, List.setIfInBounds_toArray, List.set_cons_zero, List.set_cons_succ]
          refine hs_take (i := 7) (d := some 24) (v := .agg u'.toArray) rfl (by kernel_rfl) (by kernel_rfl) (by kernel_rfl) (by rfl) (fun w' hw => exec_loadC rfl rfl (run_loadVar_mid (P := Try.prog) w' b' (off' + k * 17) 86 u' _ (range_below hre5' hw hb5') Try.underlying86 rfl hiu')) hS rfl ?_
          simp only [Act.put, List.setIfInBounds_toArray, List.set_cons_zero, List.set_cons_succ]
          refine hs_take (i := 8) (d := some 25) (v := .bool true) rfl (by kernel_rfl) (by kernel_rfl) (by kernel_rfl) (by rfl) (fun w' hw => by have hc := hne w'; go_simp) hS rfl ?_
          simp only [Act.put, List.setIfInBounds_toArray, List.set_cons_zero, List.set_cons_succ]
          refine hs_done (by kernel_rfl) ?_
          go_wp2
          go_ret
          exact ⟨.inr ⟨rfl, fun hh => HN'.out HR.out hh⟩, hB5⟩
      · have k1 : ¬ (k : Int) < rs.length := by omega
        have HE : Hid (rs = rs') := hide (List.ext_getElem HL.out (fun j hj hj' => HM.out j hj hj' (by omega)))
        clear HM
        go_wp2
        go_ret
        exact ⟨.inl ⟨rfl, HE.out⟩, hB⟩
theorem xequalS_anyB (a : Option Addr) (cap : Nat) (rs : List Sg) (a' : Option Addr) (cap' : Nat) (rs' : List Sg) (w : World) (h : RowsAt SgE w a rs) (h' : RowsAt SgE w a' rs') :
    Calls Try.prog 21 #[.slice a rs.length cap, .slice a' rs'.length cap'] w fun e w' => e = .returned (.bool (sameL Sg.B rs rs')) ∧ Below w.heap.size w w' := by
  refine (xequalS_any a cap rs a' cap' rs' w h h').mono ?_
  rintro e w1 ⟨hc, hb⟩
  have I := sameL_iff (fun x y => Sg.B_iff (x := x) (y := y)) rs rs'
  refine ⟨?_, hb⟩
  rcases hc with ⟨rfl, he⟩ | ⟨rfl, he⟩
  · rw [I.2 he]
  · cases hq : sameL Sg.B rs rs'
    · rfl
    · exact absurd (I.1 hq) he
set_option maxRecDepth 100000 in
set_option maxHeartbeats 2000000 in
theorem xequalE_any (a : Option Addr) (cap : Nat) (rs : List Ev) (a' : Option Addr) (cap' : Nat) (rs' : List Ev) (w : World) (h : RowsAt EvE w a rs) (h' : RowsAt EvE w a' rs') :
    Calls Try.prog 19 #[.slice a rs.length cap, .slice a' rs'.length cap'] w fun e w' => ((e = .returned (.bool true) ∧ rs = rs') ∨ (e = .returned (.bool false) ∧ ¬ rs = rs')) ∧ Below w.heap.size w w' := by
  have hml := h.1
  have hml' := h'.1
  unfold maxLen at hml hml'
  have hall := h.2.1
  have hall' := h'.2.1
  by_cases hlen : rs.length = rs'.length
  rotate_left
  · have e0 : ((rs.length : Int) == rs'.length) = false := by simp; omega
    have HL := hide hlen
    clear hlen
    go_enter Try.func19, Try.ntmps19
    go_wp2
    go_ret
    exact ⟨.inr ⟨rfl, fun hh => HL.out (by rw [hh])⟩, Below.refl _ _⟩
  · have e0 : ((rs.length : Int) == rs'.length) = true := by simp; omega
    have HL := hide hlen
    clear hlen
    go_enter Try.func19, Try.ntmps19
    go_wp2
    go_loopw [5] (fun iv wr => ∃ k : Nat, k ≤ rs.length ∧ iv = .int .i64 (k : Int) ∧ Hid (∀ j (hj : j < rs.length) (hj' : j < rs'.length), j < k → rs[j] = rs'[j]) ∧ Below w.heap.size w wr) (fun iv _ => rs.length - (intOf iv).toNat)
    case atStart => exact ⟨0, by omega, rfl, hide (fun j _ _ hj => absurd hj (by omega)), Below.refl _ _⟩
    case round =>
      clear e0
      obtain ⟨k, hk, rfl, HM, hB⟩ := hrel
      by_cases hlt : k < rs.length
      · have k1 : (k : Int) < rs.length := by omega
        have hlt' : k < rs'.length := by have := HL.out; omega
        have k1' : (k : Int) < rs'.length := by omega
        obtain ⟨b, off, rfl, hb, hre⟩ := (h.below hB).elem k hlt
        have hre : wr.rangeAt b (off + k * 18) rs[k].cells := hre
        obtain ⟨b', off', rfl, hb', hre'⟩ := (h'.below hB).elem k hlt'
        have hre' : wr.rangeAt b' (off' + k * 18) rs'[k].cells := hre'
        obtain ⟨r, hr⟩ : ∃ r, Hid (rs[k] = r) := ⟨_, hide rfl⟩
        obtain ⟨r', hr'⟩ : ∃ r', Hid (rs'[k] = r') := ⟨_, hide rfl⟩
        have hok : r.ok := by rw [← hr.out]; exact hall _ (List.getElem_mem hlt)
        have hok' : r'.ok := by rw [← hr'.out]; exact hall' _ (List.getElem_mem hlt')
        rw [hr.out] at hre
        rw [hr'.out] at hre'
        have HM' : Hid (r = r' → ∀ j (hj : j < rs.length) (hj' : j < rs'.length), j < k + 1 → rs[j] = rs'[j]) := hide (fun hp j hj hj' hjk => by
          by_cases e : j = k
          · subst e; rw [hr.out, hr'.out]; exact hp
          · exact HM.out j hj hj' (by omega))
        have HN' : Hid (r ≠ r' → rs ≠ rs') := hide (fun hp he => by
          apply hp
          rw [← hr.out, ← hr'.out]
          subst he
          rfl)
        clear hr hr' HM
        have hiu : (Try.prog.info? 55).map (·.size) = some r.cells.length := by rw [show r.cells.length = 18 from EvE.len r hok]; kernel_rfl
        have hiu' : (Try.prog.info? 55).map (·.size) = some r'.cells.length := by rw [show r'.cells.length = 18 from EvE.len r' hok']; kernel_rfl
        have hne := fun w0 => Ev.eq10 r r' hok hok' w0
        obtain ⟨u, hu⟩ : ∃ u, Hid (r.cells = u) := ⟨_, hide rfl⟩
        obtain ⟨u', hu'⟩ : ∃ u', Hid (r'.cells = u') := ⟨_, hide rfl⟩
        rw [hu.out] at hre hiu
        rw [hu'.out] at hre' hiu'
        simp only [hu.out, hu'.out] at hne
        clear hu hu' hok hok'
        by_cases hrr : r = r'
        · have e1 : Ev.B r r' = true := Ev.B_iff.2 hrr
          rw [e1] at hne
          have HR := hide hrr
          clear hrr e1
          go_upto_region 6 with fail
          obtain ⟨w5, hw5⟩ : ∃ w5, wr.drew = w5 := ⟨_, rfl⟩
          have hB5 : Below w.heap.size w w5 := by rw [← hw5]; exact hB.drew
          have hre5 : w5.rangeAt b (off + k * 18) u := by rw [← hw5]; exact (World.rangeAt_drew _ _ _ _).2 hre
          have hre5' : w5.rangeAt b' (off' + k * 18) u' := by rw [← hw5]; exact (World.rangeAt_drew _ _ _ _).2 hre'
          have hb5 : b < w5.heap.size := by rw [← hw5]; exact hb
          have hb5' : b' < w5.heap.size := by rw [← hw5]; exact hb'
          refine hs_begin (S := (Below w5.heap.size w5)) 9 rfl (by kernel_rfl) ?_
          rw [hw5]
          clear hw5 hB hre hre' hb hb'
          have hS : (Below w5.heap.size w5) w5 := Below.refl _ _
          refine hs_take (i := 0) (d := some 17) (v := ?_) rfl (by kernel_rfl) (by kernel_rfl) (by kernel_rfl) (by rfl) ?_ hS rfl ?_
          rotate_left
          · intro w' hw
            go_simp
            try with_reducible rfl
          simp only [Act.put, List.setIfInBounds_toArray, List.set_cons_zero, List.set_cons_succ]
          refine hs_take (i := 1) (d := some 18) (v := ?_) rfl (by kernel_rfl) (by kernel_rfl) (by kernel_rfl) (by rfl) ?_ hS rfl ?_
          rotate_left
          · intro w' hw
            go_simp
            try with_reducible rfl
          simp only [Act.put, List.setIfInBounds_toArray, List.set_cons_zero, List.set_cons_succ]
          refine hs_take (i := 2) (d := some 19) (v := ?_) rfl (by kernel_rfl) (by kernel_rfl) (by kernel_rfl) (by rfl) ?_ hS rfl ?_
          rotate_left
          · intro w' hw
            go_simp
            try with_reducible rfl
          simp only [Act.put, List.setIfInBounds_toArray, List.set_cons_zero, List.set_cons_succ]
          refine hs_take (i := 3) (d := some 20) (v := .agg u.toArray) rfl (by kernel_rfl) (by kernel_rfl) (by kernel_rfl) (by rfl) (fun w' hw => exec_loadC rfl rfl (run_loadVar_mid (P := Try.prog) w' b (off + k * 18) 55 u _ (range_below hre5 hw hb5) Try.underlying55 rfl hiu)) hS rfl ?_
          simp only [Act.put, List.setIfInBounds_toArray, List.set_cons_zero, List.set_cons_succ]
          refine hs_take (i := 4) (d := some 21) (v := ?_) rfl (by kernel_rfl) (by kernel_rfl) (by kernel_rfl) (by rfl) ?_ hS rfl ?_
          rotate_left
          · intro w' hw
            go_simp
            try with_reducible rfl
          simp only [Act.put, List.setIfInBounds_toArray, List.set_cons_zero, List.set_cons_succ]
          refine hs_take (i := 5) (d := some 22) (v := ?_) rfl (by kernel_rfl) (by kernel_rfl) (by kernel_rfl) (by rfl) ?_ hS rfl ?_
          rotate_left
          · intro w' hw
            go_simp
            try with_reducible rfl
          simp only [Act.put, List.setIfInBounds_toArray, List.set_cons_zero, List.set_cons_succ]
          refine hs_take (i := 6) (d := some 23) (v := ?_) rfl (by kernel_rfl) (by kernel_rfl) (by kernel_rfl) (by rfl) ?_ hS rfl ?_
          rotate_left
          · intro w' hw
            go_simp
            try with_reducible rfl
          simp only [Act.put, List.setIfInBounds_toArray, List.set_cons_zero, List.set_cons_succ]
          refine hs_take (i := 7) (d := some 24) (v := .agg u'.toArray) rfl (by kernel_rfl) (by kernel_rfl) (by kernel_rfl) (by rfl) (fun w' hw => exec_loadC rfl rfl (run_loadVar_mid (P := Try.prog) w' b' (off' + k * 18) 55 u' _ (range_below hre5' hw hb5') Try.underlying55 rfl hiu')) hS rfl ?_
          simp only [Act.put, List.setIfInBounds_toArray, List.set_cons_zero, List.set_cons_succ]
          refine hs_take (i := 8) (d := some 25) (v := .bool false) rfl (by kernel_rfl) (by kernel_rfl) (by kernel_rfl) (by rfl) (fun w' hw => by have hc := hne w'; go_simp) hS rfl ?_
          simp only [Act.put, List.setIfInBounds_toArray, List.set_cons_zero, List.set_cons_succ]
          refine hs_done (by kernel_rfl) ?_
          go_wp2
          go_roundw
          case rel => exact ⟨k + 1, by omega, by go_num, hide (HM'.out HR.out), hB5⟩
          case measure => simp [intOf]; omega
        · have e1 : Ev.B r r' = false := by
            cases hx : Ev.B r r'
            · rfl
            · exact absurd (Ev.B_iff.1 hx) hrr
          rw [e1] at hne
          have HR := hide hrr
          clear hrr e1
          go_upto_region 6 with fail
          obtain ⟨w5, hw5⟩ : ∃ w5, wr.drew = w5 := ⟨_, rfl⟩
          have hB5 : Below w.heap.size w w5 := by rw [← hw5]; exact hB.drew
          have hre5 : w5.rangeAt b (off + k * 18) u := by rw [← hw5]; exact (World.rangeAt_drew _ _ _ _).2 hre
          have hre5' : w5.rangeAt b' (off' + k * 18) u' := by rw [← hw5]; exact (World.rangeAt_drew _ _ _ _).2 hre'
          have hb5 : b < w5.heap.size := by rw [← hw5]; exact hb
          have hb5' : b' < w5.heap.size := by rw [← hw5]; exact hb'
          refine hs_begin (S := (Below w5.heap.size w5)) 9 rfl (by kernel_rfl) ?_
          rw [hw5]
          clear hw5 hB hre hre' hb hb'
          have hS : (Below w5.heap.size w5) w5 := Below.refl _ _
          refine hs_take (i := 0) (d := some 17) (v := ?_) rfl (by kernel_rfl) (by kernel_rfl) (by kernel_rfl) (by rfl) ?_ hS rfl ?_
          rotate_left
          · intro w' hw
            go_simp
            try with_reducible rfl
          simp only [Act.put, List.setIfInBounds_toArray, List.set_cons_zero, List.set_cons_succ]
          refine hs_take (i := 1) (d := some 18) (v := ?_) rfl (by kernel_rfl) (by kernel_rfl) (by kernel_rfl) (by rfl) ?_ hS rfl ?_
          rotate_left
          · intro w' hw
            go_simp
            try with_reducible rfl
          simp only [Act.put, List.setIfInBounds_toArray, List.set_cons_zero, List.set_cons_succ]
          refine hs_take (i := 2) (d := some 19) (v := ?_) rfl (by kernel_rfl) (by kernel_rfl) (by kernel_rfl) (by rfl) ?_ hS rfl ?_
          rotate_left
          · intro w' hw
            go_simp
            try with_reducible rfl
          simp only [Act.put, List.setIfInBounds_toArray, List.set_cons_zero, List.set_cons_succ]
          refine hs_take (i := 3) (d := some 20) (v := .agg u.toArray) rfl (by kernel_rfl) (by kernel_rfl) (by kernel_rfl) (by rfl) (fun w' hw => exec_loadC rfl rfl (run_loadVar_mid (P := Try.prog) w' b (off + k * 18) 55 u _ (range_below hre5 hw hb5) Try.underlying55 rfl hiu)) hS rfl ?_
          simp only [Act.put, List.setIfInBounds_toArray, List.set_cons_zero, List.set_cons_succ]
          refine hs_take (i := 4) (d := some 21) (v := ?_) rfl (by kernel_rfl) (by kernel_rfl) (by kernel_rfl) (by rfl) ?_ hS rfl ?_
          rotate_left
          · intro w' hw
            go_simp
            try with_reducible rfl
          simp only [Act.put, List.setIfInBounds_toArray, List.set_cons_zero, List.set_cons_succ]
          refine hs_take (i := 5) (d := some 22) (v := ?_) rfl (by kernel_rfl) (by kernel_rfl) (by kernel_rfl) (by rfl) ?_ hS rfl ?_
          rotate_left
          · intro w' hw
            go_simp
            try with_reducible rfl
          simp only [Act.put, List.setIfInBounds_toArray, List.set_cons_zero, List.set_cons_succ]
          refine hs_take (i := 6) (d := some 23) (v := ?_) rfl (by kernel_rfl) (by kernel_rfl) (by kernel_rfl) (by rfl) ?_ hS rfl ?_
          rotate_left
          · intro w' hw
            go_simp
            try with_reducible rfl
          simp only [Act.put, List.setIfInBounds_toArray, List.set_cons_zero, List.set_cons_succ]
          refine hs_take (i := 7) (d := some 24) (v := .agg u'.toArray) rfl (by kernel_rfl) (by kernel_rfl) (by kernel_rfl) (by rfl) (fun w' hw => exec_loadC rfl rfl (run_loadVar_mid (P := Try.prog) w' b' (off' + k * 18) 55 u' _ (range_below hre5' hw hb5') Try.underlying55 rfl hiu')) hS rfl ?_
          simp only [Act.put, List.setIfInBounds_toArray, List.set_cons_zero, List.set_cons_succ]
          refine hs_take (i := 8) (d := some 25) (v := .bool true) rfl (by kernel_rfl) (by kernel_rfl) (by kernel_rfl) (by rfl) (fun w' hw => by have hc := hne w'; go_simp) hS rfl ?_
          simp only [Act.put, List.setIfInBounds_toArray, List.set_cons_zero, List.set_cons_succ]
          refine hs_done (by kernel_rfl) ?_
          go_wp2
          go_ret
          exact ⟨.inr ⟨rfl, fun hh => HN'.out HR.out hh⟩, hB5⟩
      · have k1 : ¬ (k : Int) < rs.length := by omega
        have HE : Hid (rs = rs') := hide (List.ext_getElem HL.out (fun j hj hj' => HM.out j hj hj' (by omega)))
        clear HM
        go_wp2
        go_ret
        exact ⟨.inl ⟨rfl, HE.out⟩, hB⟩
theorem xequalE_anyB (a : Option Addr) (cap : Nat) (rs : List Ev) (a' : Option Addr) (cap' : Nat) (rs' : List Ev) (w : World) (h : RowsAt EvE w a rs) (h' : RowsAt EvE w a' rs') :
    Calls Try.prog 19 #[.slice a rs.length cap, .slice a' rs'.length cap'] w fun e w' => e = .returned (.bool (sameL Ev.B rs rs')) ∧ Below w.heap.size w w' := by
  refine (xequalE_any a cap rs a' cap' rs' w h h').mono ?_
  rintro e w1 ⟨hc, hb⟩
  have I := sameL_iff (fun x y => Ev.B_iff (x := x) (y := y)) rs rs'
  refine ⟨?_, hb⟩
  rcases hc with ⟨rfl, he⟩ | ⟨rfl, he⟩
  · rw [I.2 he]
  · cases hq : sameL Ev.B rs rs'
    · rfl
    · exact absurd (I.1 hq) he
set_option maxRecDepth 100000 in
set_option maxHeartbeats 2000000 in
theorem xscert_any (x y : Vt) (s t : Sl Sg) (w : World) (hx : x.ok) (hy : y.ok) (hs : s.At SgE w) (ht : t.At SgE w) : Calls Try.prog 20 #[.agg (certL x s).toArray, .agg (certL y t).toArray] w fun e w' => e = .returned (.bool (certB x s y t)) ∧ Below w.heap.size w w' := by
  obtain ⟨hA, hA', hB, hz⟩ := two_boxG (certL x s) (certL y t) 35 w
  have r1 := range_left hA
  have r1' := range_left hA'
  have c1 := range_right hA 0 _ rfl
  have c1' := range_right hA' 0 _ rfl
  rw [hx.len] at c1
  rw [hy.len] at c1'
  simp only [Nat.zero_add, Nat.add_zero] at c1 c1'
  have ix : (Try.prog.info? 28).map (·.size) = some x.cells.length := by rw [hx.len]; exact iszV
  have iy : (Try.prog.info? 28).map (·.size) = some y.cells.length := by rw [hy.len]; exact iszV
  have hq := eqInV x y hx.dl hy.dl
  obtain ⟨a, cap, rs⟩ := s
  obtain ⟨a', cap', rs'⟩ := t
  have ce := fun w0 h0 h1 => xequalS_anyB a cap rs a' cap' rs' w0 h0 h1
  have h1 : RowsAt SgE _ a rs := RowsAt.below hs hB
  have h1' : RowsAt SgE _ a' rs' := RowsAt.below ht hB
  have E : certB x ⟨a, cap, rs⟩ y ⟨a', cap', rs'⟩ = (vtB x y && sameL Sg.B rs rs') := rfl
  rw [E]
  simp only [Sl.val] at c1 c1'
  clear hA hA' hz hx hy E hs ht
  generalize certL x ⟨a, cap, rs⟩ = q at *
  generalize certL y ⟨a', cap', rs'⟩ = q' at *
  generalize x.cells = u at *
  generalize y.cells = u' at *
  generalize vtB x y = vb at *
  generalize sameL Sg.B rs rs' = sb at *
  cases vb
  · go_enter Try.func20, Try.ntmps20
    go_upto_region 1 with fail
    go_name_world w1 hw1
    rw [show (w.alloc (.cells q.toArray 35)).alloc (.cells q'.toArray 35) = w1 from hw1] at r1 r1' c1 c1' hB h1 h1'
    clear hw1 ce
    go_wp2_with (first | (refine wpList_load_mid rfl 28 _ rfl _ _ rfl u _ r1 Try.underlying28 rfl ix ?_) | (refine wpList_load_mid rfl 28 _ rfl _ _ rfl u' _ r1' Try.underlying28 rfl iy ?_))
    go_ret
    exact ⟨rfl, hB⟩
  · cases sb
    all_goals
      go_enter Try.func20, Try.ntmps20
      go_upto_region 1 with fail
      go_name_world w1 hw1
      rw [show (w.alloc (.cells q.toArray 35)).alloc (.cells q'.toArray 35) = w1 from hw1] at r1 r1' c1 c1' hB h1 h1'
      clear hw1
      go_wp2_with (first | (refine wpList_load_mid rfl 28 _ rfl _ _ rfl u _ r1 Try.underlying28 rfl ix ?_) | (refine wpList_load_mid rfl 28 _ rfl _ _ rfl u' _ r1' Try.underlying28 rfl iy ?_))
      refine (ce _ h1 h1').mono ?_
      rintro e2 w2 ⟨rfl, hb2⟩
      have hB2 := hB.trans (hb2.mono hB.size)
      clear ce h1 h1' hb2 c1 c1' r1 r1'
      go_wp2
      go_ret
      exact ⟨rfl, hB2⟩
set_option maxRecDepth 100000 in
set_option maxHeartbeats 4000000 in
theorem xbsame_any (q : Bool) (x : Sl Rq) (q' : Bool) (x' : Sl Rq) (w : World) (h : x.At RqE w) (h' : x'.At RqE w) :
    Calls Try.prog 18 #[.agg #[.bool q, x.val], .agg #[.bool q', x'.val]] w fun e w' => e = .returned (.bool (batB q x q' x')) ∧ Below w.heap.size w w' := by
  obtain ⟨a, cap, rs⟩ := x
  obtain ⟨a', cap', rs'⟩ := x'
  have hB0 : Below w.heap.size w ((w.alloc (.cells #[.bool q, .slice a rs.length cap] 24)).alloc (.cells #[.bool q', .slice a' rs'.length cap'] 24)) := ((Below.refl _ w).alloc (Nat.le_refl _) _).alloc (by simp) _
  obtain ⟨hA, hA', _, hz⟩ := two_boxG [.bool q, .slice a rs.length cap] [.bool q', .slice a' rs'.length cap'] 24 w
  have c0 := hA 0 _ rfl
  have c1 := hA 1 _ rfl
  have c0' := hA' 0 _ rfl
  have c1' := hA' 1 _ rfl
  simp only [Nat.zero_add, Nat.add_zero] at c0 c1 c0' c1'
  have h1 : RowsAt RqE _ a rs := RowsAt.below h hB0
  have h1' : RowsAt RqE _ a' rs' := RowsAt.below h' hB0
  have hml : rs.length ≤ maxLen := h1.1
  have hml' : rs'.length ≤ maxLen := h1'.1
  unfold maxLen at hml hml'
  have E : batB q ⟨a, cap, rs⟩ q' ⟨a', cap', rs'⟩ = ((q == q') && sameL Rq.B rs rs') := rfl
  rw [E]
  have hall := h1.2.1
  have hall' := h1'.2.1
  clear E h h' hA hA'
  simp only [Sl.val]
  obtain ⟨W, hW⟩ : ∃ W, Hid ((w.alloc (.cells #[.bool q, .slice a rs.length cap] 24)).alloc (.cells #[.bool q', .slice a' rs'.length cap'] 24) = W) := ⟨_, hide rfl⟩
  rw [hW.out] at hB0 h1 h1'
  change World.cell? ((w.alloc (.cells #[.bool q, .slice a rs.length cap] 24)).alloc (.cells #[.bool q', .slice a' rs'.length cap'] 24)) _ = _ at c0 c1 c0' c1'
  change w.heap.size + 2 ≤ ((w.alloc (.cells #[.bool q, .slice a rs.length cap] 24)).alloc (.cells #[.bool q', .slice a' rs'.length cap'] 24)).heap.size at hz
  rw [hW.out] at c0 c1 c0' c1' hz
  have ENTER : True := trivial
  by_cases hqq : q = q'
  rotate_left
  · have n1 : (q == q') = false := beq_eq_false_iff_ne.2 hqq
    rw [n1, Bool.false_and]
    clear ENTER
    cases q <;> cases q'
    case false.false | true.true => exact absurd rfl hqq
    all_goals
      clear hqq n1
      go_enter Try.func18, Try.ntmps18
      go_upto_region 1 with fail
      go_name_world w1 hw1
      obtain rfl : W = w1 := hW.out.symm.trans hw1
      clear hw1 hW
      go_wp2
      go_ret
      exact ⟨rfl, hB0⟩
  · subst hqq
    rw [show (q == q) = true by simp, Bool.true_and]
    clear ENTER
    by_cases hlen : rs.length = rs'.length
    rotate_left
    · rw [sameL_false hlen]
      have e0 : ((rs.length : Int) == rs'.length) = false := by simp; omega
      clear hlen
      cases q
      all_goals
        go_enter Try.func18, Try.ntmps18
        go_upto_region 1 with fail
        go_name_world w1 hw1
        obtain rfl : W = w1 := hW.out.symm.trans hw1
        clear hw1 hW
        go_wp2
        go_ret
        exact ⟨rfl, hB0⟩
    · have e0 : ((rs.length : Int) == rs'.length) = true := by simp; omega
      have HL := hide hlen
      clear hlen
      obtain ⟨sb, hsb⟩ : ∃ sb, Hid (sameL Rq.B rs rs' = sb) := ⟨_, hide rfl⟩
      rw [hsb.out]
      have I := hide (sameL_iff (fun x y => Rq.B_iff (x := x) (y := y)) rs rs')
      cases q
      all_goals
        go_enter Try.func18, Try.ntmps18
        go_upto_region 1 with fail
        go_name_world w1 hw1
        obtain rfl : W = w1 := hW.out.symm.trans hw1
        clear hw1 hW
        go_wp2
        go_loopw [5] (fun iv wr' => ∃ k : Nat, k ≤ rs.length ∧ iv = .int .i64 (k : Int) ∧ Hid (∀ j (hj : j < rs.length) (hj' : j < rs'.length), j < k → rs[j] = rs'[j]) ∧ Below W.heap.size W wr') (fun iv _ => rs.length - (intOf iv).toNat)
        case atStart => exact ⟨0, by omega, rfl, hide (fun j _ _ hj => absurd hj (by omega)), Below.refl _ _⟩
        case round =>
          clear e0
          rename ((rs.length : Int) != (rs'.length : Int)) = false => hne0
          clear hne0
          obtain ⟨k, hk, rfl, HM, hBr⟩ := hrel
          have hB := hB0.trans (hBr.mono (by omega))
          have hzr := Nat.le_trans hz hBr.size
          have e1 := (hBr.cell (p := ⟨w.heap.size, 1, none⟩) (show w.heap.size < W.heap.size by omega)).trans c1
          have e1' := (hBr.cell (p := ⟨w.heap.size + 1, 1, none⟩) (show w.heap.size + 1 < W.heap.size by omega)).trans c1'
          by_cases hlt : k < rs.length
          · have k1 : (k : Int) < rs.length := by omega
            have hlt' : k < rs'.length := by have := HL.out; omega
            have k1' : (k : Int) < rs'.length := by omega
            obtain ⟨b, off, rfl, hb, hre⟩ := (h1.below hBr).elem k hlt
            have hre : wr.rangeAt b (off + k * 19) rs[k].cells := hre
            obtain ⟨b', off', rfl, hb', hre'⟩ := (h1'.below hBr).elem k hlt'
            have hre' : wr.rangeAt b' (off' + k * 19) rs'[k].cells := hre'
            obtain ⟨r, hr⟩ : ∃ r, Hid (rs[k] = r) := ⟨_, hide rfl⟩
            obtain ⟨r', hr'⟩ : ∃ r', Hid (rs'[k] = r') := ⟨_, hide rfl⟩
            have hok : r.ok := by rw [← hr.out]; exact hall _ (List.getElem_mem hlt)
            have hok' : r'.ok := by rw [← hr'.out]; exact hall' _ (List.getElem_mem hlt')
            rw [hr.out] at hre
            rw [hr'.out] at hre'
            have HM' : Hid (r = r' → ∀ j (hj : j < rs.length) (hj' : j < rs'.length), j < k + 1 → rs[j] = rs'[j]) := hide (fun hp j hj hj' hjk => by
              by_cases e : j = k
              · subst e; rw [hr.out, hr'.out]; exact hp
              · exact HM.out j hj hj' (by omega))
            have HN' : Hid (r ≠ r' → sb = false) := hide (fun hp => by
              cases hsbv : sb
              · rfl
              · have : rs = rs' := I.out.1 (hsb.out.trans hsbv)
                exact absurd (by rw [← hr.out, ← hr'.out]; subst this; rfl) hp)
            clear hr hr' HM
            have hiu : (Try.prog.info? 73).map (·.size) = some r.cells.length := by rw [show r.cells.length = 19 from RqE.len r hok]; kernel_rfl
            have hiu' : (Try.prog.info? 73).map (·.size) = some r'.cells.length := by rw [show r'.cells.length = 19 from RqE.len r' hok']; kernel_rfl
            have hne := fun w0 => Rq.eq10 r r' hok hok' w0
            generalize r.cells = u at *
            generalize r'.cells = u' at *
            clear hok hok'
            by_cases hrr : r = r'
            · rw [Rq.B_iff.2 hrr] at hne
              have HT' := hide (HM'.out hrr)
              clear hrr HM' HN'
              go_upto_region 6 with fail
              obtain ⟨w5, hw5⟩ : ∃ w5, wr.drew = w5 := ⟨_, rfl⟩
              have hBd : Below wr.heap.size wr w5 := by rw [← hw5]; exact (Below.refl _ _).drew
              have hB5 := hB.trans (hBd.mono (by omega))
              have hre5 := range_below hre hBd hb
              have hre5' := range_below hre' hBd hb'
              have hb5 : b < w5.heap.size := Nat.lt_of_lt_of_le hb hBd.size
              have hb5' : b' < w5.heap.size := Nat.lt_of_lt_of_le hb' hBd.size
              have d1 := (hBd.cell (p := ⟨w.heap.size, 1, none⟩) (show w.heap.size < wr.heap.size by omega)).trans e1
              have d1' := (hBd.cell (p := ⟨w.heap.size + 1, 1, none⟩) (show w.heap.size + 1 < wr.heap.size by omega)).trans e1'
              have hz5 := Nat.le_trans hzr hBd.size
              have HBX : Hid (Below wr.heap.size wr w5) := hide hBd
              refine hs_begin (S := (Below w5.heap.size w5)) 11 rfl (by kernel_rfl) ?_
              rw [hw5]
              clear hw5 hre hre' hb hb' hBd e1 e1' hB hzr
              have hS : (Below w5.heap.size w5) w5 := Below.refl _ _
              refine hs_take (i := 0) (d := some 27) (v := ?_) rfl (by kernel_rfl) (by kernel_rfl) (by kernel_rfl) (by rfl) ?_ hS rfl ?_
              rotate_left
              · intro w' hw
                go_simp
                try with_reducible rfl
              simp only [Act.put, List.setIfInBounds_toArray, List.set_cons_zero, List.set_cons_succ]
              refine hs_take (i := 1) (d := some 28) (v := ?_) rfl (by kernel_rfl) (by kernel_rfl) (by kernel_rfl) (by rfl) ?_ hS rfl ?_
              rotate_left
              · intro w' hw
                have := (hw.cell (p := ⟨w.heap.size, 1, none⟩) (show w.heap.size < w5.heap.size by omega)).trans d1
                go_simp
                try with_reducible rfl
              simp only [Act.put, List.setIfInBounds_toArray, List.set_cons_zero, List.set_cons_succ]
              refine hs_take (i := 2) (d := some 29) (v := ?_) rfl (by kernel_rfl) (by kernel_rfl) (by kernel_rfl) (by rfl) ?_ hS rfl ?_
              rotate_left
              · intro w' hw
                go_simp
                try with_reducible rfl
              simp only [Act.put, List.setIfInBounds_toArray, List.set_cons_zero, List.set_cons_succ]
              refine hs_take (i := 3) (d := some 30) (v := ?_) rfl (by kernel_rfl) (by kernel_rfl) (by kernel_rfl) (by rfl) ?_ hS rfl ?_
              rotate_left
              · intro w' hw
                go_simp
                try with_reducible rfl
              simp only [Act.put, List.setIfInBounds_toArray, List.set_cons_zero, List.set_cons_succ]
              refine hs_take (i := 4) (d := some 31) (v := .agg u.toArray) rfl (by kernel_rfl) (by kernel_rfl) (by kernel_rfl) (by rfl) (fun w' hw => exec_loadC rfl rfl (run_loadVar_mid (P := Try.prog) w' b (off + k * 19) 73 u _ (range_below hre5 hw hb5) Try.underlying73 rfl hiu)) hS rfl ?_
              simp only [Act.put, List.setIfInBounds_toArray, List.set_cons_zero, List.set_cons_succ]
              refine hs_take (i := 5) (d := some 32) (v := ?_) rfl (by kernel_rfl) (by kernel_rfl) (by kernel_rfl) (by rfl) ?_ hS rfl ?_
              rotate_left
              · intro w' hw
                go_simp
                try with_reducible rfl
              simp only [Act.put, List.setIfInBounds_toArray, List.set_cons_zero, List.set_cons_succ]
              refine hs_take (i := 6) (d := some 33) (v := ?_) rfl (by kernel_rfl) (by kernel_rfl) (by kernel_rfl) (by rfl) ?_ hS rfl ?_
              rotate_left
              · intro w' hw
                have := (hw.cell (p := ⟨w.heap.size + 1, 1, none⟩) (show w.heap.size + 1 < w5.heap.size by omega)).trans d1'
                go_simp
                try with_reducible rfl
              simp only [Act.put, List.setIfInBounds_toArray, List.set_cons_zero, List.set_cons_succ]
              refine hs_take (i := 7) (d := some 34) (v := ?_) rfl (by kernel_rfl) (by kernel_rfl) (by kernel_rfl) (by rfl) ?_ hS rfl ?_
              rotate_left
              · intro w' hw
                go_simp
                try with_reducible rfl
              simp only [Act.put, List.setIfInBounds_toArray, List.set_cons_zero, List.set_cons_succ]
              refine hs_take (i := 8) (d := some 35) (v := ?_) rfl (by kernel_rfl) (by kernel_rfl) (by kernel_rfl) (by rfl) ?_ hS rfl ?_
              rotate_left
              · intro w' hw
                go_simp
                try with_reducible rfl
              simp only [Act.put, List.setIfInBounds_toArray, List.set_cons_zero, List.set_cons_succ]
              refine hs_take (i := 9) (d := some 36) (v := .agg u'.toArray) rfl (by kernel_rfl) (by kernel_rfl) (by kernel_rfl) (by rfl) (fun w' hw => exec_loadC rfl rfl (run_loadVar_mid (P := Try.prog) w' b' (off' + k * 19) 73 u' _ (range_below hre5' hw hb5') Try.underlying73 rfl hiu')) hS rfl ?_
              simp only [Act.put, List.setIfInBounds_toArray, List.set_cons_zero, List.set_cons_succ]
              refine hs_take (i := 10) (d := some 37) (v := .bool false) rfl (by kernel_rfl) (by kernel_rfl) (by kernel_rfl) (by rfl) (fun w' hw => by have hc := hne w'; go_simp) hS rfl ?_
              simp only [Act.put, List.setIfInBounds_toArray, List.set_cons_zero, List.set_cons_succ]
              refine hs_done (by kernel_rfl) ?_
              go_wp2
              go_roundw
              case rel => exact ⟨k + 1, by omega, by go_num, HT', hBr.trans (HBX.out.mono hBr.size)⟩
              case measure => simp [intOf]; omega
            · have hbf : Rq.B r r' = false := by
                cases hx : Rq.B r r'
                · rfl
                · exact absurd (Rq.B_iff.1 hx) hrr
              rw [hbf] at hne
              have HF' := HN'.out hrr
              clear hrr HM' HN' hbf hsb I
              go_upto_region 6 with fail
              obtain ⟨w5, hw5⟩ : ∃ w5, wr.drew = w5 := ⟨_, rfl⟩
              have hBd : Below wr.heap.size wr w5 := by rw [← hw5]; exact (Below.refl _ _).drew
              have hB5 := hB.trans (hBd.mono (by omega))
              have hre5 := range_below hre hBd hb
              have hre5' := range_below hre' hBd hb'
              have hb5 : b < w5.heap.size := Nat.lt_of_lt_of_le hb hBd.size
              have hb5' : b' < w5.heap.size := Nat.lt_of_lt_of_le hb' hBd.size
              have d1 := (hBd.cell (p := ⟨w.heap.size, 1, none⟩) (show w.heap.size < wr.heap.size by omega)).trans e1
              have d1' := (hBd.cell (p := ⟨w.heap.size + 1, 1, none⟩) (show w.heap.size + 1 < wr.heap.size by omega)).trans e1'
              have hz5 := Nat.le_trans hzr hBd.size
              have HBX : Hid (Below wr.heap.size wr w5) := hide hBd
              refine hs_begin (S := (Below w5.heap.size w5)) 11 rfl (by kernel_rfl) ?_
              rw [hw5]
              clear hw5 hre hre' hb hb' hBd e1 e1' hB hzr
              have hS : (Below w5.heap.size w5) w5 := Below.refl _ _
              refine hs_take (i := 0) (d := some 27) (v := ?_) rfl (by kernel_rfl) (by kernel_rfl) (by kernel_rfl) (by rfl) ?_ hS rfl ?_
              rotate_left
              · intro w' hw
                go_simp
                try with_reducible rfl
              simp only [Act.put, List.setIfInBounds_toArray, List.set_cons_zero, List.set_cons_succ]
              refine hs_take (i := 1) (d := some 28) (v := ?_) rfl (by kernel_rfl) (by kernel_rfl) (by kernel_rfl) (by rfl) ?_ hS rfl ?_
              rotate_left
              · intro w' hw
                have := (hw.cell (p := ⟨w.heap.size, 1, none⟩) (show w.heap.size < w5.heap.size by omega)).trans d1
                go_simp
                try with_reducible rfl
              simp only [Act.put, List.setIfInBounds_toArray, List.set_cons_zero, List.set_cons_succ]
              refine hs_take (i := 2) (d := some 29) (v := ?_) rfl (by kernel_rfl) (by kernel_rfl) (by kernel_rfl) (by rfl) ?_ hS rfl ?_
              rotate_left
              · intro w' hw
                go_simp
                try with_reducible rfl
              simp only [Act.put, List.setIfInBounds_toArray, List.set_cons_zero, List.set_cons_succ]
              refine hs_take (i := 3) (d := some 30) (v := ?_) rfl (by kernel_rfl) (by kernel_rfl) (by kernel_rfl) (by rfl) ?_ hS rfl ?_
              rotate_left
              · intro w' hw
                go_simp
                try with_reducible rfl
              simp only [Act.put, List.setIfInBounds_toArray, List.set_cons_zero, List.set_cons_succ]
              refine hs_take (i := 4) (d := some 31) (v := .agg u.toArray) rfl (by kernel_rfl) (by kernel_rfl) (by kernel_rfl) (by rfl) (fun w' hw => exec_loadC rfl rfl (run_loadVar_mid (P := Try.prog) w' b (off + k * 19) 73 u _ (range_below hre5 hw hb5) Try.underlying73 rfl hiu)) hS rfl ?_
              simp only [Act.put, List.setIfInBounds_toArray, List.set_cons_zero, List.set_cons_succ]
              refine hs_take (i := 5) (d := some 32) (v := ?_) rfl (by kernel_rfl) (by kernel_rfl) (by kernel_rfl) (by rfl) ?_ hS rfl ?_
              rotate_left
              · intro w' hw
                go_simp
                try with_reducible rfl
              simp only [Act.put, List.setIfInBounds_toArray, List.set_cons_zero, List.set_cons_succ]
              refine hs_take (i := 6) (d := some 33) (v := ?_) rfl (by kernel_rfl) (by kernel_rfl) (by kernel_rfl) (by rfl) ?_ hS rfl ?_
              rotate_left
              · intro w' hw
                have := (hw.cell (p := ⟨w.heap.size + 1, 1, none⟩) (show w.heap.size + 1 < w5.heap.size by omega)).trans d1'
                go_simp
                try with_reducible rfl
              simp only [Act.put, List.setIfInBounds_toArray, List.set_cons_zero, List.set_cons_succ]
              refine hs_take (i := 7) (d := some 34) (v := ?_) rfl (by kernel_rfl) (by kernel_rfl) (by kernel_rfl) (by rfl) ?_ hS rfl ?_
              rotate_left
              · intro w' hw
                go_simp
                try with_reducible rfl
              simp only [Act.put, List.setIfInBounds_toArray, List.set_cons_zero, List.set_cons_succ]
              refine hs_take (i := 8) (d := some 35) (v := ?_) rfl (by kernel_rfl) (by kernel_rfl) (by kernel_rfl) (by rfl) ?_ hS rfl ?_
              rotate_left
              · intro w' hw
                go_simp
                try with_reducible rfl
              simp only [Act.put, List.setIfInBounds_toArray, List.set_cons_zero, List.set_cons_succ]
              refine hs_take (i := 9) (d := some 36) (v := .agg u'.toArray) rfl (by kernel_rfl) (by kernel_rfl) (by kernel_rfl) (by rfl) (fun w' hw => exec_loadC rfl rfl (run_loadVar_mid (P := Try.prog) w' b' (off' + k * 19) 73 u' _ (range_below hre5' hw hb5') Try.underlying73 rfl hiu')) hS rfl ?_
              simp only [Act.put, List.setIfInBounds_toArray, List.set_cons_zero, List.set_cons_succ]
              refine hs_take (i := 10) (d := some 37) (v := .bool true) rfl (by kernel_rfl) (by kernel_rfl) (by kernel_rfl) (by rfl) (fun w' hw => by have hc := hne w'; go_simp) hS rfl ?_
              simp only [Act.put, List.setIfInBounds_toArray, List.set_cons_zero, List.set_cons_succ]
              refine hs_done (by kernel_rfl) ?_
              go_wp2
              go_ret
              exact ⟨by rw [HF']; rfl, hB5⟩
          · have k1 : ¬ (k : Int) < rs.length := by omega
            have HE : Hid (sb = true) := hide (by
              rw [← hsb.out]
              exact I.out.2 (List.ext_getElem HL.out (fun j hj hj' => HM.out j hj hj' (by omega))))
            clear HM hsb I
            go_wp2
            go_ret
            exact ⟨by rw [HE.out]; rfl, hB⟩
end Go.Proofs.Ytahdmajppnffeaa
