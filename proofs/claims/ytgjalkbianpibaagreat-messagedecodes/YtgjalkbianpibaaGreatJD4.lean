/- the document's comparisons of lists; the document's SameHeld -/
import Derived.Test.YtgjalkbianpibaaGreatJD3
namespace Go.Proofs.YtgjalkbianpibaaGreat
open Go.RowKit
open Sha Tal
set_option maxRecDepth 100000 in
set_option maxHeartbeats 2000000 in
theorem xequalS_any (a : Option Addr) (cap : Nat) (rs : List Sg) (a' : Option Addr) (cap' : Nat) (rs' : List Sg) (w : World) (h : RowsAt SgE w a rs) (h' : RowsAt SgE w a' rs') :
    Calls Tryz.prog 38 #[.slice a rs.length cap, .slice a' rs'.length cap'] w fun e w' => ((e = .returned (.bool true) ∧ rs = rs') ∨ (e = .returned (.bool false) ∧ ¬ rs = rs')) ∧ Below w.heap.size w w' := by
  have hml := h.1
  have hml' := h'.1
  unfold maxLen at hml hml'
  have hall := h.2.1
  have hall' := h'.2.1
  by_cases hlen : rs.length = rs'.length
  rotate_left
  · have e0 : ((rs.length : Int) == rs'.length) = false := by simp; omega
    have HL := hide hlen
    clear hlen
    go_enter Tryz.func38, Tryz.ntmps38
    go_wp2
    go_ret
    exact ⟨.inr ⟨rfl, fun hh => HL.out (by rw [hh])⟩, Below.refl _ _⟩
  · have e0 : ((rs.length : Int) == rs'.length) = true := by simp; omega
    have HL := hide hlen
    clear hlen
    go_enter Tryz.func38, Tryz.ntmps38
    go_wp2
    go_loopw [5] (fun iv wr => ∃ k : Nat, k ≤ rs.length ∧ iv = .int .i64 (k : Int) ∧ Hid (∀ j (hj : j < rs.length) (hj' : j < rs'.length), j < k → rs[j] = rs'[j]) ∧ Below w.heap.size w wr) (fun iv _ => rs.length - (intOf iv).toNat)
    case atStart => exact ⟨0, by omega, rfl, hide (fun j _ _ hj => absurd hj (by omega)), Below.refl _ _⟩
    case round =>
      clear e0
      obtain ⟨k, hk, rfl, HM, hB⟩ := hrel
      by_cases hlt : k < rs.length
      · have k1 : (k : Int) < rs.length := by omega
        have hlt' : k < rs'.length := by have := HL.out; omega
        have k1' : (k : Int) < rs'.length := by omega
        obtain ⟨b, off, rfl, hb, hre⟩ := (h.below hB).elem k hlt
        have hre : wr.rangeAt b (off + k * 17) rs[k].cells := hre
        obtain ⟨b', off', rfl, hb', hre'⟩ := (h'.below hB).elem k hlt'
        have hre' : wr.rangeAt b' (off' + k * 17) rs'[k].cells := hre'
        obtain ⟨r, hr⟩ : ∃ r, Hid (rs[k] = r) := ⟨_, hide rfl⟩
        obtain ⟨r', hr'⟩ : ∃ r', Hid (rs'[k] = r') := ⟨_, hide rfl⟩
        have hok : r.ok := by rw [← hr.out]; exact hall _ (List.getElem_mem hlt)
        have hok' : r'.ok := by rw [← hr'.out]; exact hall' _ (List.getElem_mem hlt')
        rw [hr.out] at hre
        rw [hr'.out] at hre'
        have HM' : Hid (r = r' → ∀ j (hj : j < rs.length) (hj' : j < rs'.length), j < k + 1 → rs[j] = rs'[j]) := hide (fun hp j hj hj' hjk => by
          by_cases e : j = k
          · subst e; rw [hr.out, hr'.out]; exact hp
          · exact HM.out j hj hj' (by omega))
        have HN' : Hid (r ≠ r' → rs ≠ rs') := hide (fun hp he => by
          apply hp
          rw [← hr.out, ← hr'.out]
          subst he
          rfl)
        clear hr hr' HM
        have hiu : (Tryz.prog.info? 78).map (·.size) = some r.cells.length := by rw [show r.cells.length = 17 from SgE.len r hok]; kernel_rfl
        have hiu' : (Tryz.prog.info? 78).map (·.size) = some r'.cells.length := by rw [show r'.cells.length = 17 from SgE.len r' hok']; kernel_rfl
        have hne := fun w0 => Sg.eq10 r r' hok hok' w0
        obtain ⟨u, hu⟩ : ∃ u, Hid (r.cells = u) := ⟨_, hide rfl⟩
        obtain ⟨u', hu'⟩ : ∃ u', Hid (r'.cells = u') := ⟨_, hide rfl⟩
        rw [hu.out] at hre hiu
        rw [hu'.out] at hre' hiu'
        simp only [hu.out, hu'.out] at hne
        clear hu hu' hok hok'
        by_cases hrr : r = r'
        · have e1 : Sg.B r r' = true := Sg.B_iff.2 hrr
          rw [e1] at hne
          have HR := hide hrr
          clear hrr e1
          go_upto_region 6 with fail
          obtain ⟨w5, hw5⟩ : ∃ w5, wr.drew = w5 := ⟨_, rfl⟩
          have hB5 : Below w.heap.size w w5 := by rw [← hw5]; exact hB.drew
          have hre5 : w5.rangeAt b (off + k * 17) u := by rw [← hw5]; exact (World.rangeAt_drew _ _ _ _).2 hre
          have hre5' : w5.rangeAt b' (off' + k * 17) u' := by rw [← hw5]; exact (World.rangeAt_drew _ _ _ _).2 hre'
          have hb5 : b < w5.heap.size := by rw [← hw5]; exact hb
          have hb5' : b' < w5.heap.size := by rw [← hw5]; exact hb'
          refine hs_begin (S := (Below w5.heap.size w5)) 9 rfl (by kernel_rfl) ?_
          rw [hw5]
          clear hw5 hB hre hre' hb hb'
          have hS : (Below w5.heap.size w5) w5 := Below.refl _ _
          refine hs_take (i := 0) (d := some 17) (v := ?_) rfl (by kernel_rfl) (by kernel_rfl) (by kernel_rfl) (by rfl) ?_ hS rfl ?_
          rotate_left
          · intro w' hw
            go_simp
            try with_reducible rfl
          simp only [Act.put, List.setIfInBounds_toArray, List.set_cons_zero, List.set_cons_succ]
          refine hs_take (i := 1) (d := some 18) (v := ?_) rfl (by kernel_rfl) (by kernel_rfl) (by kernel_rfl) (by rfl) ?_ hS rfl ?_
          rotate_left
          · intro w' hw
            go_simp
            try with_reducible rfl
          simp only [Act.put, List.setIfInBounds_toArray, List.set_cons_zero, List.set_cons_succ]
          refine hs_take (i := 2) (d := some 19) (v := ?_) rfl (by kernel_rfl) (by kernel_rfl) (by kernel_rfl) (by rfl) ?_ hS rfl ?_
          rotate_left
          · intro w' hw
            go_simp
            try with_reducible rfl
          simp only [Act.put, List.setIfInBounds_toArray, List.set_cons_zero, List.set_cons_succ]
          refine hs_take (i := 3) (d := some 20) (v := .agg u.toArray) rfl (by kernel_rfl) (by kernel_rfl) (by kernel_rfl) (by rfl) (fun w' hw => exec_loadC rfl rfl (run_loadVar_mid (P := Tryz.prog) w' b (off + k * 17) 78 u _ (range_below hre5 hw hb5) Tryz.underlying78 rfl hiu)) hS rfl ?_
          simp only [Act.put, List.setIfInBounds_toArray, List.set_cons_zero, List.set_cons_succ]
          refine hs_take (i := 4) (d := some 21) (v := ?_) rfl (by kernel_rfl) (by kernel_rfl) (by kernel_rfl) (by rfl) ?_ hS rfl ?_
          rotate_left
          · intro w' hw
            go_simp
            try with_reducible rfl
          simp only [Act.put, List.setIfInBounds_toArray, List.set_cons_zero, List.set_cons_succ]
          refine hs_take (i := 5) (d := some 22) (v := ?_) rfl (by kernel_rfl) (by kernel_rfl) (by kernel_rfl) (by rfl) ?_ hS rfl ?_
          rotate_left
          · intro w' hw
            go_simp
            try with_reducible rfl
          simp only [Act.put, List.setIfInBounds_toArray, List.set_cons_zero, List.set_cons_succ]
          refine hs_take (i := 6) (d := some 23) (v := ?_) rfl (by kernel_rfl) (by kernel_rfl) (by kernel_rfl) (by rfl) ?_ hS rfl ?_
          rotate_left
          · intro w' hw
            go_simp
            try with_reducible rfl
          simp only [Act.put, List.setIfInBounds_toArray, List.set_cons_zero, List.set_cons_succ]
          refine hs_take (i := 7) (d := some 24) (v := .agg u'.toArray) rfl (by kernel_rfl) (by kernel_rfl) (by kernel_rfl) (by rfl) (fun w' hw => exec_loadC rfl rfl (run_loadVar_mid (P := Tryz.prog) w' b' (off' + k * 17) 78 u' _ (range_below hre5' hw hb5') Tryz.underlying78 rfl hiu')) hS rfl ?_
          simp only [Act.put, List.setIfInBounds_toArray, List.set_cons_zero, List.set_cons_succ]
          refine hs_take (i := 8) (d := some 25) (v := .bool false) rfl (by kernel_rfl) (by kernel_rfl) (by kernel_rfl) (by rfl) (fun w' hw => by have hc := hne w'; go_simp) hS rfl ?_
          simp only [Act.put, List.setIfInBounds_toArray, List.set_cons_zero, List.set_cons_succ]
          refine hs_done (by kernel_rfl) ?_
          go_wp2
          go_roundw
          case rel => exact ⟨k + 1, by omega, by go_num, hide (HM'.out HR.out), hB5⟩
          case measure => simp [intOf]; omega
        · have e1 : Sg.B r r' = false := by
            cases hx : Sg.B r r'
            · rfl
            · exact absurd (Sg.B_iff.1 hx) hrr
          rw [e1] at hne
          have HR := hide hrr
          clear hrr e1
          go_upto_region 6 with fail
          obtain ⟨w5, hw5⟩ : ∃ w5, wr.drew = w5 := ⟨_, rfl⟩
          have hB5 : Below w.heap.size w w5 := by rw [← hw5]; exact hB.drew
          have hre5 : w5.rangeAt b (off + k * 17) u := by rw [← hw5]; exact (World.rangeAt_drew _ _ _ _).2 hre
          have hre5' : w5.rangeAt b' (off' + k * 17) u' := by rw [← hw5]; exact (World.rangeAt_drew _ _ _ _).2 hre'
          have hb5 : b < w5.heap.size := by rw [← hw5]; exact hb
          have hb5' : b' < w5.heap.size := by rw [← hw5]; exact hb'
          refine hs_begin (S := (Below w5.heap.size w5)) 9 rfl (by kernel_rfl) ?_
          rw [hw5]
          clear hw5 hB hre hre' hb hb'
          have hS : (Below w5.heap.size w5) w5 := Below.refl _ _
          refine hs_take (i := 0) (d := some 17) (v := ?_) rfl (by kernel_rfl) (by kernel_rfl) (by kernel_rfl) (by rfl) ?_ hS rfl ?_
          rotate_left
          · intro w' hw
            go_simp
            try with_reducible rfl
          simp only [Act.put, List.setIfInBounds_toArray, List.set_cons_zero, List.set_cons_succ]
          refine hs_take (i := 1) (d := some 18) (v := ?_) rfl (by kernel_rfl) (by kernel_rfl) (by kernel_rfl) (by rfl) ?_ hS rfl ?_
          rotate_left
          · intro w' hw
            go_simp
            try with_reducible rfl
          simp only [Act.put, List.setIfInBounds_toArray, List.set_cons_zero, List.set_cons_succ]
          refine hs_take (i := 2) (d := some 19) (v := ?_) rfl (by kernel_rfl) (by kernel_rfl) (by kernel_rfl) (by rfl) ?_ hS rfl ?_
          rotate_left
          · intro w' hw
            go_simp
            try with_reducible rfl
          simp only [Act.put, List.setIfInBounds_toArray, List.set_cons_zero, List.set_cons_succ]
          refine hs_take (i := 3) (d := some 20) (v := .agg u.toArray) rfl (by kernel_rfl) (by kernel_rfl) (by kernel_rfl) (by rfl) (fun w' hw => exec_loadC rfl rfl (run_loadVar_mid (P := Tryz.prog) w' b (off + k * 17) 78 u _ (range_below hre5 hw hb5) Tryz.underlying78 rfl hiu)) hS rfl ?_
          simp only [Act.put, List.setIfInBounds_toArray, List.set_cons_zero, List.set_cons_succ]
          refine hs_take (i := 4) (d := some 21) (v := ?_) rfl (by kernel_rfl) (by kernel_rfl) (by kernel_rfl) (by rfl) ?_ hS rfl ?_
          rotate_left
          · intro w' hw
            go_simp
            try with_reducible rfl
          simp only [Act.put, List.setIfInBounds_toArray, List.set_cons_zero, List.set_cons_succ]
          refine hs_take (i := 5) (d := some 22) (v := ?_) rfl (by kernel_rfl) (by kernel_rfl) (by kernel_rfl) (by rfl) ?_ hS rfl ?_
          rotate_left
          · intro w' hw
            go_simp
            try with_reducible rfl
          simp only [Act.put, List.setIfInBounds_toArray, List.set_cons_zero, List.set_cons_succ]
          refine hs_take (i := 6) (d := some 23) (v := ?_) rfl (by kernel_rfl) (by kernel_rfl) (by kernel_rfl) (by rfl) ?_ hS rfl ?_
          rotate_left
          · intro w' hw
            go_simp
            try with_reducible rfl
          simp only [Act.put, List.setIfInBounds_toArray, List.set_cons_zero, List.set_cons_succ]
          refine hs_take (i := 7) (d := some 24) (v := .agg u'.toArray) rfl (by kernel_rfl) (by kernel_rfl) (by kernel_rfl) (by rfl) (fun w' hw => exec_loadC rfl rfl (run_loadVar_mid (P := Tryz.prog) w' b' (off' + k * 17) 78 u' _ (range_below hre5' hw hb5') Tryz.underlying78 rfl hiu')) hS rfl ?_
          simp only [Act.put, List.setIfInBounds_toArray, List.set_cons_zero, List.set_cons_succ]
          refine hs_take (i := 8) (d := some 25) (v := .bool true) rfl (by kernel_rfl) (by kernel_rfl) (by kernel_rfl) (by rfl) (fun w' hw => by have hc := hne w'; go_simp) hS rfl ?_
          simp only [Act.put, List.setIfInBounds_toArray, List.set_cons_zero, List.set_cons_succ]
          refine hs_done (by kernel_rfl) ?_
          go_wp2
          go_ret
          exact ⟨.inr ⟨rfl, fun hh => HN'.out HR.out hh⟩, hB5⟩
      · have k1 : ¬ (k : Int) < rs.length := by omega
        have HE : Hid (rs = rs') := hide (List.ext_getElem HL.out (fun j hj hj' => HM.out j hj hj' (by omega)))
        clear HM
        go_wp2
        go_ret
        exact ⟨.inl ⟨rfl, HE.out⟩, hB⟩
theorem xequalS_anyB (a : Option Addr) (cap : Nat) (rs : List Sg) (a' : Option Addr) (cap' : Nat) (rs' : List Sg) (w : World) (h : RowsAt SgE w a rs) (h' : RowsAt SgE w a' rs') :
    Calls Tryz.prog 38 #[.slice a rs.length cap, .slice a' rs'.length cap'] w fun e w' => e = .returned (.bool (sameL Sg.B rs rs')) ∧ Below w.heap.size w w' := by
  refine (xequalS_any a cap rs a' cap' rs' w h h').mono ?_
  rintro e w1 ⟨hc, hb⟩
  have I := sameL_iff (fun x y => Sg.B_iff (x := x) (y := y)) rs rs'
  refine ⟨?_, hb⟩
  rcases hc with ⟨rfl, he⟩ | ⟨rfl, he⟩
  · rw [I.2 he]
  · cases hq : sameL Sg.B rs rs'
    · rfl
    · exact absurd (I.1 hq) he
set_option maxRecDepth 100000 in
set_option maxHeartbeats 2000000 in
theorem xequalE_any (a : Option Addr) (cap : Nat) (rs : List Ev) (a' : Option Addr) (cap' : Nat) (rs' : List Ev) (w : World) (h : RowsAt EvE w a rs) (h' : RowsAt EvE w a' rs') :
    Calls Tryz.prog 36 #[.slice a rs.length cap, .slice a' rs'.length cap'] w fun e w' => ((e = .returned (.bool true) ∧ rs = rs') ∨ (e = .returned (.bool false) ∧ ¬ rs = rs')) ∧ Below w.heap.size w w' := by
  have hml := h.1
  have hml' := h'.1
  unfold maxLen at hml hml'
  have hall := h.2.1
  have hall' := h'.2.1
  by_cases hlen : rs.length = rs'.length
  rotate_left
  · have e0 : ((rs.length : Int) == rs'.length) = false := by simp; omega
    have HL := hide hlen
    clear hlen
    go_enter Tryz.func36, Tryz.ntmps36
    go_wp2
    go_ret
    exact ⟨.inr ⟨rfl, fun hh => HL.out (by rw [hh])⟩, Below.refl _ _⟩
  · have e0 : ((rs.length : Int) == rs'.length) = true := by simp; omega
    have HL := hide hlen
    clear hlen
    go_enter Tryz.func36, Tryz.ntmps36
    go_wp2
    go_loopw [5] (fun iv wr => ∃ k : Nat, k ≤ rs.length ∧ iv = .int .i64 (k : Int) ∧ Hid (∀ j (hj : j < rs.length) (hj' : j < rs'.length), j < k → rs[j] = rs'[j]) ∧ Below w.heap.size w wr) (fun iv _ => rs.length - (intOf iv).toNat)
    case atStart => exact ⟨0, by omega, rfl, hide (fun j _ _ hj => absurd hj (by omega)), Below.refl _ _⟩
    case round =>
      clear e0
      obtain ⟨k, hk, rfl, HM, hB⟩ := hrel
      by_cases hlt : k < rs.length
      · have k1 : (k : Int) < rs.length := by omega
        have hlt' : k < rs'.length := by have := HL.out; omega
        have k1' : (k : Int) < rs'.length := by omega
        obtain ⟨b, off, rfl, hb, hre⟩ := (h.below hB).elem k hlt
        have hre : wr.rangeAt b (off + k * 18) rs[k].cells := hre
        obtain ⟨b', off', rfl, hb', hre'⟩ := (h'.below hB).elem k hlt'
        have hre' : wr.rangeAt b' (off' + k * 18) rs'[k].cells := hre'
        obtain ⟨r, hr⟩ : ∃ r, Hid (rs[k] = r) := ⟨_, hide rfl⟩
        obtain ⟨r', hr'⟩ : ∃ r', Hid (rs'[k] = r') := ⟨_, hide rfl⟩
        have hok : r.ok := by rw [← hr.out]; exact hall _ (List.getElem_mem hlt)
        have hok' : r'.ok := by rw [← hr'.out]; exact hall' _ (List.getElem_mem hlt')
        rw [hr.out] at hre
        rw [hr'.out] at hre'
        have HM' : Hid (r = r' → ∀ j (hj : j < rs.length) (hj' : j < rs'.length), j < k + 1 → rs[j] = rs'[j]) := hide (fun hp j hj hj' hjk => by
          by_cases e : j = k
          · subst e; rw [hr.out, hr'.out]; exact hp
          · exact HM.out j hj hj' (by omega))
        have HN' : Hid (r ≠ r' → rs ≠ rs') := hide (fun hp he => by
          apply hp
          rw [← hr.out, ← hr'.out]
          subst he
          rfl)
        clear hr hr' HM
        have hiu : (Tryz.prog.info? 57).map (·.size) = some r.cells.length := by rw [show r.cells.length = 18 from EvE.len r hok]; kernel_rfl
        have hiu' : (Tryz.prog.info? 57).map (·.size) = some r'.cells.length := by rw [show r'.cells.length = 18 from EvE.len r' hok']; kernel_rfl
        have hne := fun w0 => Ev.eq10 r r' hok hok' w0
        obtain ⟨u, hu⟩ : ∃ u, Hid (r.cells = u) := ⟨_, hide rfl⟩
        obtain ⟨u', hu'⟩ : ∃ u', Hid (r'.cells = u') := ⟨_, hide rfl⟩
        rw [hu.out] at hre hiu
        rw [hu'.out] at hre' hiu'
        simp only [hu.out, hu'.out] at hne
        clear hu hu' hok hok'
        by_cases hrr : r = r'
        · have e1 : Ev.B r r' = true := Ev.B_iff.2 hrr
          rw [e1] at hne
          have HR := hide hrr
          clear hrr e1
          go_upto_region 6 with fail
          obtain ⟨w5, hw5⟩ : ∃ w5, wr.drew = w5 := ⟨_, rfl⟩
          have hB5 : Below w.heap.size w w5 := by rw [← hw5]; exact hB.drew
          have hre5 : w5.rangeAt b (off + k * 18) u := by rw [← hw5]; exact (World.rangeAt_drew _ _ _ _).2 hre
          have hre5' : w5.rangeAt b' (off' + k * 18) u' := by rw [← hw5]; exact (World.rangeAt_drew _ _ _ _).2 hre'
          have hb5 : b < w5.heap.size := by rw [← hw5]; exact hb
          have hb5' : b' < w5.heap.size := by rw [← hw5]; exact hb'
          refine hs_begin (S := (Below w5.heap.size w5)) 9 rfl (by kernel_rfl) ?_
          rw [hw5]
          clear hw5 hB hre hre' hb hb'
          have hS : (Below w5.heap.size w5) w5 := Below.refl _ _
          refine hs_take (i := 0) (d := some 17) (v := ?_) rfl (by kernel_rfl) (by kernel_rfl) (by kernel_rfl) (by rfl) ?_ hS rfl ?_
          rotate_left
          · intro w' hw
            go_simp
            try with_reducible rfl
          simp only [Act.put, List.setIfInBounds_toArray, List.set_cons_zero, List.set_cons_succ]
          refine hs_take (i := 1) (d := some 18) (v := ?_) rfl (by kernel_rfl) (by kernel_rfl) (by kernel_rfl) (by rfl) ?_ hS rfl ?_
          rotate_left
          · intro w' hw
            go_simp
            try with_reducible rfl
          simp only [Act.put, List.setIfInBounds_toArray, List.set_cons_zero, List.set_cons_succ]
          refine hs_take (i := 2) (d := some 19) (v := ?_) rfl (by kernel_rfl) (by kernel_rfl) (by kernel_rfl) (by rfl) ?_ hS rfl ?_
          rotate_left
          · intro w' hw
            go_simp
            try with_reducible rfl
          simp only [Act.put, List.setIfInBounds_toArray, List.set_cons_zero, List.set_cons_succ]
          refine hs_take (i := 3) (d := some 20) (v := .agg u.toArray) rfl (by kernel_rfl) (by kernel_rfl) (by kernel_rfl) (by rfl) (fun w' hw => exec_loadC rfl rfl (run_loadVar_mid (P := Tryz.prog) w' b (off + k * 18) 57 u _ (range_below hre5 hw hb5) Tryz.underlying57 rfl hiu)) hS rfl ?_
          simp only [Act.put, List.setIfInBounds_toArray, List.set_cons_zero, List.set_cons_succ]
          refine hs_take (i := 4) (d := some 21) (v := ?_) rfl (by kernel_rfl) (by kernel_rfl) (by kernel_rfl) (by rfl) ?_ hS rfl ?_
          rotate_left
          · intro w' hw
            go_simp
            try with_reducible rfl
          simp only [Act.put, List.setIfInBounds_toArray, List.set_cons_zero, List.set_cons_succ]
          refine hs_take (i := 5) (d := some 22) (v := ?_) rfl (by kernel_rfl) (by kernel_rfl) (by kernel_rfl) (by rfl) ?_ hS rfl ?_
          rotate_left
          · intro w' hw
            go_simp
            try with_reducible rfl
          simp only [Act.put, List.setIfInBounds_toArray, List.set_cons_zero, List.set_cons_succ]
          refine hs_take (i := 6) (d := some 23) (v := ?_) rfl (by kernel_rfl) (by kernel_rfl) (by kernel_rfl) (by rfl) ?_ hS rfl ?_
          rotate_left
          · intro w' hw
            go_simp
            try with_reducible rfl
          simp only [Act.put, List.setIfInBounds_toArray, List.set_cons_zero, List.set_cons_succ]
          refine hs_take (i := 7) (d := some 24) (v := .agg u'.toArray) rfl (by kernel_rfl) (by kernel_rfl) (by kernel_rfl) (by rfl) (fun w' hw => exec_loadC rfl rfl (run_loadVar_mid (P := Tryz.prog) w' b' (off' + k * 18) 57 u' _ (range_below hre5' hw hb5') Tryz.underlying57 rfl hiu')) hS rfl ?_
          simp only [Act.put, List.setIfInBounds_toArray, List.set_cons_zero, List.set_cons_succ]
          refine hs_take (i := 8) (d := some 25) (v := .bool false) rfl (by kernel_rfl) (by kernel_rfl) (by kernel_rfl) (by rfl) (fun w' hw => by have hc := hne w'; go_simp) hS rfl ?_
          simp only [Act.put, List.setIfInBounds_toArray, List.set_cons_zero, List.set_cons_succ]
          refine hs_done (by kernel_rfl) ?_
          go_wp2
          go_roundw
          case rel => exact ⟨k + 1, by omega, by go_num, hide (HM'.out HR.out), hB5⟩
          case measure => simp [intOf]; omega
        · have e1 : Ev.B r r' = false := by
            cases hx : Ev.B r r'
            · rfl
            · exact absurd (Ev.B_iff.1 hx) hrr
          rw [e1] at hne
          have HR := hide hrr
          clear hrr e1
          go_upto_region 6 with fail
          obtain ⟨w5, hw5⟩ : ∃ w5, wr.drew = w5 := ⟨_, rfl⟩
          have hB5 : Below w.heap.size w w5 := by rw [← hw5]; exact hB.drew
          have hre5 : w5.rangeAt b (off + k * 18) u := by rw [← hw5]; exact (World.rangeAt_drew _ _ _ _).2 hre
          have hre5' : w5.rangeAt b' (off' + k * 18) u' := by rw [← hw5]; exact (World.rangeAt_drew _ _ _ _).2 hre'
          have hb5 : b < w5.heap.size := by rw [← hw5]; exact hb
          have hb5' : b' < w5.heap.size := by rw [← hw5]; exact hb'
          refine hs_begin (S := (Below w5.heap.size w5)) 9 rfl (by kernel_rfl) ?_
          rw [hw5]
          clear hw5 hB hre hre' hb hb'
          have hS : (Below w5.heap.size w5) w5 := Below.refl _ _
          refine hs_take (i := 0) (d := some 17) (v := ?_) rfl (by kernel_rfl) (by kernel_rfl) (by kernel_rfl) (by rfl) ?_ hS rfl ?_
          rotate_left
          · intro w' hw
            go_simp
            try with_reducible rfl
          simp only [Act.put, List.setIfInBounds_toArray, List.set_cons_zero, List.set_cons_succ]
          refine hs_take (i := 1) (d := some 18) (v := ?_) rfl (by kernel_rfl) (by kernel_rfl) (by kernel_rfl) (by rfl) ?_ hS rfl ?_
          rotate_left
          · intro w' hw
            go_simp
            try with_reducible rfl
          simp only [Act.put, List.setIfInBounds_toArray, List.set_cons_zero, List.set_cons_succ]
          refine hs_take (i := 2) (d := some 19) (v := ?_) rfl (by kernel_rfl) (by kernel_rfl) (by kernel_rfl) (by rfl) ?_ hS rfl ?_
          rotate_left
          · intro w' hw
            go_simp
            try with_reducible rfl
          simp only [Act.put, List.setIfInBounds_toArray, List.set_cons_zero, List.set_cons_succ]
          refine hs_take (i := 3) (d := some 20) (v := .agg u.toArray) rfl (by kernel_rfl) (by kernel_rfl) (by kernel_rfl) (by rfl) (fun w' hw => exec_loadC rfl rfl (run_loadVar_mid (P := Tryz.prog) w' b (off + k * 18) 57 u _ (range_below hre5 hw hb5) Tryz.underlying57 rfl hiu)) hS rfl ?_
          simp only [Act.put, List.setIfInBounds_toArray, List.set_cons_zero, List.set_cons_succ]
          refine hs_take (i := 4) (d := some 21) (v := ?_) rfl (by kernel_rfl) (by kernel_rfl) (by kernel_rfl) (by rfl) ?_ hS rfl ?_
          rotate_left
          · intro w' hw
            go_simp
            try with_reducible rfl
          simp only [Act.put, List.setIfInBounds_toArray, List.set_cons_zero, List.set_cons_succ]
          refine hs_take (i := 5) (d := some 22) (v := ?_) rfl (by kernel_rfl) (by kernel_rfl) (by kernel_rfl) (by rfl) ?_ hS rfl ?_
          rotate_left
          · intro w' hw
            go_simp
            try with_reducible rfl
          simp only [Act.put, List.setIfInBounds_toArray, List.set_cons_zero, List.set_cons_succ]
          refine hs_take (i := 6) (d := some 23) (v := ?_) rfl (by kernel_rfl) (by kernel_rfl) (by kernel_rfl) (by rfl) ?_ hS rfl ?_
          rotate_left
          · intro w' hw
            go_simp
            try with_reducible rfl
          simp only [Act.put, List.setIfInBounds_toArray, List.set_cons_zero, List.set_cons_succ]
          refine hs_take (i := 7) (d := some 24) (v := .agg u'.toArray) rfl (by kernel_rfl) (by kernel_rfl) (by kernel_rfl) (by rfl) (fun w' hw => exec_loadC rfl rfl (run_loadVar_mid (P := Tryz.prog) w' b' (off' + k * 18) 57 u' _ (range_below hre5' hw hb5') Tryz.underlying57 rfl hiu')) hS rfl ?_
          simp only [Act.put, List.setIfInBounds_toArray, List.set_cons_zero, List.set_cons_succ]
          refine hs_take (i := 8) (d := some 25) (v := .bool true) rfl (by kernel_rfl) (by kernel_rfl) (by kernel_rfl) (by rfl) (fun w' hw => by have hc := hne w'; go_simp) hS rfl ?_
          simp only [Act.put, List.setIfInBounds_toArray, List.set_cons_zero, List.set_cons_succ]
          refine hs_done (by kernel_rfl) ?_
          go_wp2
          go_ret
          exact ⟨.inr ⟨rfl, fun hh => HN'.out HR.out hh⟩, hB5⟩
      · have k1 : ¬ (k : Int) < rs.length := by omega
        have HE : Hid (rs = rs') := hide (List.ext_getElem HL.out (fun j hj hj' => HM.out j hj hj' (by omega)))
        clear HM
        go_wp2
        go_ret
        exact ⟨.inl ⟨rfl, HE.out⟩, hB⟩
theorem xequalE_anyB (a : Option Addr) (cap : Nat) (rs : List Ev) (a' : Option Addr) (cap' : Nat) (rs' : List Ev) (w : World) (h : RowsAt EvE w a rs) (h' : RowsAt EvE w a' rs') :
    Calls Tryz.prog 36 #[.slice a rs.length cap, .slice a' rs'.length cap'] w fun e w' => e = .returned (.bool (sameL Ev.B rs rs')) ∧ Below w.heap.size w w' := by
  refine (xequalE_any a cap rs a' cap' rs' w h h').mono ?_
  rintro e w1 ⟨hc, hb⟩
  have I := sameL_iff (fun x y => Ev.B_iff (x := x) (y := y)) rs rs'
  refine ⟨?_, hb⟩
  rcases hc with ⟨rfl, he⟩ | ⟨rfl, he⟩
  · rw [I.2 he]
  · cases hq : sameL Ev.B rs rs'
    · rfl
    · exact absurd (I.1 hq) he
set_option maxRecDepth 100000 in
set_option maxHeartbeats 2000000 in
theorem xscert_any (x y : Vt) (s t : Sl Sg) (w : World) (hx : x.ok) (hy : y.ok) (hs : s.At SgE w) (ht : t.At SgE w) : Calls Tryz.prog 37 #[.agg (certL x s).toArray, .agg (certL y t).toArray] w fun e w' => e = .returned (.bool (certB x s y t)) ∧ Below w.heap.size w w' := by
  obtain ⟨hA, hA', hB, hz⟩ := two_boxG (certL x s) (certL y t) 35 w
  have r1 := range_left hA
  have r1' := range_left hA'
  have c1 := range_right hA 0 _ rfl
  have c1' := range_right hA' 0 _ rfl
  rw [hx.len] at c1
  rw [hy.len] at c1'
  simp only [Nat.zero_add, Nat.add_zero] at c1 c1'
  have ix : (Tryz.prog.info? 28).map (·.size) = some x.cells.length := by rw [hx.len]; exact iszV
  have iy : (Tryz.prog.info? 28).map (·.size) = some y.cells.length := by rw [hy.len]; exact iszV
  have hq := eqInV x y hx.dl hy.dl
  obtain ⟨a, cap, rs⟩ := s
  obtain ⟨a', cap', rs'⟩ := t
  have ce := fun w0 h0 h1 => xequalS_anyB a cap rs a' cap' rs' w0 h0 h1
  have h1 : RowsAt SgE _ a rs := RowsAt.below hs hB
  have h1' : RowsAt SgE _ a' rs' := RowsAt.below ht hB
  have E : certB x ⟨a, cap, rs⟩ y ⟨a', cap', rs'⟩ = (vtB x y && sameL Sg.B rs rs') := rfl
  rw [E]
  simp only [Sl.val] at c1 c1'
  clear hA hA' hz hx hy E hs ht
  generalize certL x ⟨a, cap, rs⟩ = q at *
  generalize certL y ⟨a', cap', rs'⟩ = q' at *
  generalize x.cells = u at *
  generalize y.cells = u' at *
  generalize vtB x y = vb at *
  generalize sameL Sg.B rs rs' = sb at *
  cases vb
  · go_enter Tryz.func37, Tryz.ntmps37
    go_upto_region 1 with fail
    go_name_world w1 hw1
    rw [show (w.alloc (.cells q.toArray 35)).alloc (.cells q'.toArray 35) = w1 from hw1] at r1 r1' c1 c1' hB h1 h1'
    clear hw1 ce
    go_wp2_with (first | (refine wpList_load_mid rfl 28 _ rfl _ _ rfl u _ r1 Tryz.underlying28 rfl ix ?_) | (refine wpList_load_mid rfl 28 _ rfl _ _ rfl u' _ r1' Tryz.underlying28 rfl iy ?_))
    go_ret
    exact ⟨rfl, hB⟩
  · cases sb
    all_goals
      go_enter Tryz.func37, Tryz.ntmps37
      go_upto_region 1 with fail
      go_name_world w1 hw1
      rw [show (w.alloc (.cells q.toArray 35)).alloc (.cells q'.toArray 35) = w1 from hw1] at r1 r1' c1 c1' hB h1 h1'
      clear hw1
      go_wp2_with (first | (refine wpList_load_mid rfl 28 _ rfl _ _ rfl u _ r1 Tryz.underlying28 rfl ix ?_) | (refine wpList_load_mid rfl 28 _ rfl _ _ rfl u' _ r1' Tryz.underlying28 rfl iy ?_))
      refine (ce _ h1 h1').mono ?_
      rintro e2 w2 ⟨rfl, hb2⟩
      have hB2 := hB.trans (hb2.mono hB.size)
      clear ce h1 h1' hb2 c1 c1' r1 r1'
      go_wp2
      go_ret
      exact ⟨rfl, hB2⟩
set_option maxRecDepth 100000 in
set_option maxHeartbeats 4000000 in
theorem xbsame_any (q : Bool) (x : Sl Rq) (q' : Bool) (x' : Sl Rq) (w : World) (h : x.At RqE w) (h' : x'.At RqE w) :
    Calls Tryz.prog 35 #[.agg #[.bool q, x.val], .agg #[.bool q', x'.val]] w fun e w' => e = .returned (.bool (batB q x q' x')) ∧ Below w.heap.size w w' := by
  obtain ⟨a, cap, rs⟩ := x
  obtain ⟨a', cap', rs'⟩ := x'
  have hB0 : Below w.heap.size w ((w.alloc (.cells #[.bool q, .slice a rs.length cap] 24)).alloc (.cells #[.bool q', .slice a' rs'.length cap'] 24)) := ((Below.refl _ w).alloc (Nat.le_refl _) _).alloc (by simp) _
  obtain ⟨hA, hA', _, hz⟩ := two_boxG [.bool q, .slice a rs.length cap] [.bool q', .slice a' rs'.length cap'] 24 w
  have c0 := hA 0 _ rfl
  have c1 := hA 1 _ rfl
  have c0' := hA' 0 _ rfl
  have c1' := hA' 1 _ rfl
  simp only [Nat.zero_add, Nat.add_zero] at c0 c1 c0' c1'
  have h1 : RowsAt RqE _ a rs := RowsAt.below h hB0
  have h1' : RowsAt RqE _ a' rs' := RowsAt.below h' hB0
  have hml : rs.length ≤ maxLen := h1.1
  have hml' : rs'.length ≤ maxLen := h1'.1
  unfold maxLen at hml hml'
  have E : batB q ⟨a, cap, rs⟩ q' ⟨a', cap', rs'⟩ = ((q == q') && sameL Rq.B rs rs') := rfl
  rw [E]
  have hall := h1.2.1
  have hall' := h1'.2.1
  clear E h h' hA hA'
  simp only [Sl.val]
  obtain ⟨W, hW⟩ : ∃ W, Hid ((w.alloc (.cells #[.bool q, .slice a rs.length cap] 24)).alloc (.cells #[.bool q', .slice a' rs'.length cap'] 24) = W) := ⟨_, hide rfl⟩
  rw [hW.out] at hB0 h1 h1'
  change World.cell? ((w.alloc (.cells #[.bool q, .slice a rs.length cap] 24)).alloc (.cells #[.bool q', .slice a' rs'.length cap'] 24)) _ = _ at c0 c1 c0' c1'
  change w.heap.size + 2 ≤ ((w.alloc (.cells #[.bool q, .slice a rs.length cap] 24)).alloc (.cells #[.bool q', .slice a' rs'.length cap'] 24)).heap.size at hz
  rw [hW.out] at c0 c1 c0' c1' hz
  have ENTER : True := trivial
  by_cases hqq : q = q'
  rotate_left
  · have n1 : (q == q') = false := beq_eq_false_iff_ne.2 hqq
    rw [n1, Bool.false_and]
    clear ENTER
    cases q <;> cases q'
    case false.false | true.true => exact absurd rfl hqq
    all_goals
      clear hqq n1
      go_enter Tryz.func35, Tryz.ntmps35
      go_upto_region 1 with fail
      go_name_world w1 hw1
      obtain rfl : W = w1 := hW.out.symm.trans hw1
      clear hw1 hW
      go_wp2
      go_ret
      exact ⟨rfl, hB0⟩
  · subst hqq
    rw [show (q == q) = true by simp, Bool.true_and]
    clear ENTER
    by_cases hlen : rs.length = rs'.length
    rotate_left
    · rw [sameL_false hlen]
      have e0 : ((rs.length : Int) == rs'.length) = false := by simp; omega
      clear hlen
      cases q
      all_goals
        go_enter Tryz.func35, Tryz.ntmps35
        go_upto_region 1 with fail
        go_name_world w1 hw1
        obtain rfl : W = w1 := hW.out.symm.trans hw1
        clear hw1 hW
        go_wp2
        go_ret
        exact ⟨rfl, hB0⟩
    · have e0 : ((rs.length : Int) == rs'.length) = true := by simp; omega
      have HL := hide hlen
      clear hlen
      obtain ⟨sb, hsb⟩ : ∃ sb, Hid (sameL Rq.B rs rs' = sb) := ⟨_, hide rfl⟩
      rw [hsb.out]
      have I := hide (sameL_iff (fun x y => Rq.B_iff (x := x) (y := y)) rs rs')
      cases q
      all_goals
        go_enter Tryz.func35, Tryz.ntmps35
        go_upto_region 1 with fail
        go_name_world w1 hw1
        obtain rfl : W = w1 := hW.out.symm.trans hw1
        clear hw1 hW
        go_wp2
        go_loopw [5] (fun iv wr' => ∃ k : Nat, k ≤ rs.length ∧ iv = .int .i64 (k : Int) ∧ Hid (∀ j (hj : j < rs.length) (hj' : j < rs'.length), j < k → rs[j] = rs'[j]) ∧ Below W.heap.size W wr') (fun iv _ => rs.length - (intOf iv).toNat)
        case atStart => exact ⟨0, by omega, rfl, hide (fun j _ _ hj => absurd hj (by omega)), Below.refl _ _⟩
        case round =>
          clear e0
          rename ((rs.length : Int) != (rs'.length : Int)) = false => hne0
          clear hne0
          obtain ⟨k, hk, rfl, HM, hBr⟩ := hrel
          have hB := hB0.trans (hBr.mono (by omega))
          have hzr := Nat.le_trans hz hBr.size
          have e1 := (hBr.cell (p := ⟨w.heap.size, 1, none⟩) (show w.heap.size < W.heap.size by omega)).trans c1
          have e1' := (hBr.cell (p := ⟨w.heap.size + 1, 1, none⟩) (show w.heap.size + 1 < W.heap.size by omega)).trans c1'
          by_cases hlt : k < rs.length
          · have k1 : (k : Int) < rs.length := by omega
            have hlt' : k < rs'.length := by have := HL.out; omega
            have k1' : (k : Int) < rs'.length := by omega
            obtain ⟨b, off, rfl, hb, hre⟩ := (h1.below hBr).elem k hlt
            have hre : wr.rangeAt b (off + k * 19) rs[k].cells := hre
            obtain ⟨b', off', rfl, hb', hre'⟩ := (h1'.below hBr).elem k hlt'
            have hre' : wr.rangeAt b' (off' + k * 19) rs'[k].cells := hre'
            obtain ⟨r, hr⟩ : ∃ r, Hid (rs[k] = r) := ⟨_, hide rfl⟩
            obtain ⟨r', hr'⟩ : ∃ r', Hid (rs'[k] = r') := ⟨_, hide rfl⟩
            have hok : r.ok := by rw [← hr.out]; exact hall _ (List.getElem_mem hlt)
            have hok' : r'.ok := by rw [← hr'.out]; exact hall' _ (List.getElem_mem hlt')
            rw [hr.out] at hre
            rw [hr'.out] at hre'
            have HM' : Hid (r = r' → ∀ j (hj : j < rs.length) (hj' : j < rs'.length), j < k + 1 → rs[j] = rs'[j]) := hide (fun hp j hj hj' hjk => by
              by_cases e : j = k
              · subst e; rw [hr.out, hr'.out]; exact hp
              · exact HM.out j hj hj' (by omega))
            have HN' : Hid (r ≠ r' → sb = false) := hide (fun hp => by
              cases hsbv : sb
              · rfl
              · have : rs = rs' := I.out.1 (hsb.out.trans hsbv)
                exact absurd (by rw [← hr.out, ← hr'.out]; subst this; rfl) hp)
            clear hr hr' HM
            have hiu : (Tryz.prog.info? 93).map (·.size) = some r.cells.length := by rw [show r.cells.length = 19 from RqE.len r hok]; kernel_rfl
            have hiu' : (Tryz.prog.info? 93).map (·.size) = some r'.cells.length := by rw [show r'.cells.length = 19 from RqE.len r' hok']; kernel_rfl
            have hne := fun w0 => Rq.eq10 r r' hok hok' w0
            generalize r.cells = u at *
            generalize r'.cells = u' at *
            clear hok hok'
            by_cases hrr : r = r'
            · rw [Rq.B_iff.2 hrr] at hne
              have HT' := hide (HM'.out hrr)
              clear hrr HM' HN'
              go_upto_region 6 with fail
              obtain ⟨w5, hw5⟩ : ∃ w5, wr.drew = w5 := ⟨_, rfl⟩
              have hBd : Below wr.heap.size wr w5 := by rw [← hw5]; exact (Below.refl _ _).drew
              have hB5 := hB.trans (hBd.mono (by omega))
              have hre5 := range_below hre hBd hb
              have hre5' := range_below hre' hBd hb'
              have hb5 : b < w5.heap.size := Nat.lt_of_lt_of_le hb hBd.size
              have hb5' : b' < w5.heap.size := Nat.lt_of_lt_of_le hb' hBd.size
              have d1 := (hBd.cell (p := ⟨w.heap.size, 1, none⟩) (show w.heap.size < wr.heap.size by omega)).trans e1
              have d1' := (hBd.cell (p := ⟨w.heap.size + 1, 1, none⟩) (show w.heap.size + 1 < wr.heap.size by omega)).trans e1'
              have hz5 := Nat.le_trans hzr hBd.size
              have HBX : Hid (Below wr.heap.size wr w5) := hide hBd
              refine hs_begin (S := (Below w5.heap.size w5)) 11 rfl (by kernel_rfl) ?_
              rw [hw5]
              clear hw5 hre hre' hb hb' hBd e1 e1' hB hzr
              have hS : (Below w5.heap.size w5) w5 := Below.refl _ _
              refine hs_take (i := 0) (d := some 27) (v := ?_) rfl (by kernel_rfl) (by kernel_rfl) (by kernel_rfl) (by rfl) ?_ hS rfl ?_
              rotate_left
              · intro w' hw
                go_simp
                try with_reducible rfl
              simp only [Act.put, List.setIfInBounds_toArray, List.set_cons_zero, List.set_cons_succ]
              refine hs_take (i := 1) (d := some 28) (v := ?_) rfl (by kernel_rfl) (by kernel_rfl) (by kernel_rfl) (by rfl) ?_ hS rfl ?_
              rotate_left
              · intro w' hw
                have := (hw.cell (p := ⟨w.heap.size, 1, none⟩) (show w.heap.size < w5.heap.size by omega)).trans d1
                go_simp
                try with_reducible rfl
              simp only [Act.put, List.setIfInBounds_toArray, List.set_cons_zero, List.set_cons_succ]
              refine hs_take (i := 2) (d := some 29) (v := ?_) rfl (by kernel_rfl) (by kernel_rfl) (by kernel_rfl) (by rfl) ?_ hS rfl ?_
              rotate_left
              · intro w' hw
                go_simp
                try with_reducible rfl
              simp only [Act.put, List.setIfInBounds_toArray, List.set_cons_zero, List.set_cons_succ]
              refine hs_take (i := 3) (d := some 30) (v := ?_) rfl (by kernel_rfl) (by kernel_rfl) (by kernel_rfl) (by rfl) ?_ hS rfl ?_
              rotate_left
              · intro w' hw
                go_simp
                try with_reducible rfl
              simp only [Act.put, List.setIfInBounds_toArray, List.set_cons_zero, List.set_cons_succ]
              refine hs_take (i := 4) (d := some 31) (v := .agg u.toArray) rfl (by kernel_rfl) (by kernel_rfl) (by kernel_rfl) (by rfl) (fun w' hw => exec_loadC rfl rfl (run_loadVar_mid (P := Tryz.prog) w' b (off + k * 19) 93 u _ (range_below hre5 hw hb5) Tryz.underlying93 rfl hiu)) hS rfl ?_
              simp only [Act.put, List.setIfInBounds_toArray, List.set_cons_zero, List.set_cons_succ]
              refine hs_take (i := 5) (d := some 32) (v := ?_) rfl (by kernel_rfl) (by kernel_rfl) (by kernel_rfl) (by rfl) ?_ hS rfl ?_
              rotate_left
              · intro w' hw
                go_simp
                try with_reducible rfl
              simp only [Act.put, List.setIfInBounds_toArray, List.set_cons_zero, List.set_cons_succ]
              refine hs_take (i := 6) (d := some 33) (v := ?_) rfl (by kernel_rfl) (by kernel_rfl) (by kernel_rfl) (by rfl) ?_ hS rfl ?_
              rotate_left
              · intro w' hw
                have := (hw.cell (p := ⟨w.heap.size + 1, 1, none⟩) (show w.heap.size + 1 < w5.heap.size by omega)).trans d1'
                go_simp
                try with_reducible rfl
              simp only [Act.put, List.setIfInBounds_toArray, List.set_cons_zero, List.set_cons_succ]
              refine hs_take (i := 7) (d := some 34) (v := ?_) rfl (by kernel_rfl) (by kernel_rfl) (by kernel_rfl) (by rfl) ?_ hS rfl ?_
              rotate_left
              · intro w' hw
                go_simp
                try with_reducible rfl
              simp only [Act.put, List.setIfInBounds_toArray, List.set_cons_zero, List.set_cons_succ]
              refine hs_take (i := 8) (d := some 35) (v := ?_) rfl (by kernel_rfl) (by kernel_rfl) (by kernel_rfl) (by rfl) ?_ hS rfl ?_
              rotate_left
              · intro w' hw
                go_simp
                try with_reducible rfl
              simp only [Act.put, List.setIfInBounds_toArray, List.set_cons_zero, List.set_cons_succ]
              refine hs_take (i := 9) (d := some 36) (v := .agg u'.toArray) rfl (by kernel_rfl) (by kernel_rfl) (by kernel_rfl) (by rfl) (fun w' hw => exec_loadC rfl rfl (run_loadVar_mid (P := Tryz.prog) w' b' (off' + k * 19) 93 u' _ (range_below hre5' hw hb5') Tryz.underlying93 rfl hiu')) hS rfl ?_
              simp only [Act.put, List.setIfInBounds_toArray, List.set_cons_zero, List.set_cons_succ]
              refine hs_take (i := 10) (d := some 37) (v := .bool false) rfl (by kernel_rfl) (by kernel_rfl) (by kernel_rfl) (by rfl) (fun w' hw => by have hc := hne w'; go_simp) hS rfl ?_
              simp only [Act.put, List.setIfInBounds_toArray, List.set_cons_zero, List.set_cons_succ]
              refine hs_done (by kernel_rfl) ?_
              go_wp2
              go_roundw
              case rel => exact ⟨k + 1, by omega, by go_num, HT', hBr.trans (HBX.out.mono hBr.size)⟩
              case measure => simp [intOf]; omega
            · have hbf : Rq.B r r' = false := by
                cases hx : Rq.B r r'
                · rfl
                · exact absurd (Rq.B_iff.1 hx) hrr
              rw [hbf] at hne
              have HF' := HN'.out hrr
              clear hrr HM' HN' hbf hsb I
              go_upto_region 6 with fail
              obtain ⟨w5, hw5⟩ : ∃ w5, wr.drew = w5 := ⟨_, rfl⟩
              have hBd : Below wr.heap.size wr w5 := by rw [← hw5]; exact (Below.refl _ _).drew
              have hB5 := hB.trans (hBd.mono (by omega))
              have hre5 := range_below hre hBd hb
              have hre5' := range_below hre' hBd hb'
              have hb5 : b < w5.heap.size := Nat.lt_of_lt_of_le hb hBd.size
              have hb5' : b' < w5.heap.size := Nat.lt_of_lt_of_le hb' hBd.size
              have d1 := (hBd.cell (p := ⟨w.heap.size, 1, none⟩) (show w.heap.size < wr.heap.size by omega)).trans e1
              have d1' := (hBd.cell (p := ⟨w.heap.size + 1, 1, none⟩) (show w.heap.size + 1 < wr.heap.size by omega)).trans e1'
              have hz5 := Nat.le_trans hzr hBd.size
              have HBX : Hid (Below wr.heap.size wr w5) := hide hBd
              refine hs_begin (S := (Below w5.heap.size w5)) 11 rfl (by kernel_rfl) ?_
              rw [hw5]
              clear hw5 hre hre' hb hb' hBd e1 e1' hB hzr
              have hS : (Below w5.heap.size w5) w5 := Below.refl _ _
              refine hs_take (i := 0) (d := some 27) (v := ?_) rfl (by kernel_rfl) (by kernel_rfl) (by kernel_rfl) (by rfl) ?_ hS rfl ?_
              rotate_left
              · intro w' hw
                go_simp
                try with_reducible rfl
              simp only [Act.put, List.setIfInBounds_toArray, List.set_cons_zero, List.set_cons_succ]
              refine hs_take (i := 1) (d := some 28) (v := ?_) rfl (by kernel_rfl) (by kernel_rfl) (by kernel_rfl) (by rfl) ?_ hS rfl ?_
              rotate_left
              · intro w' hw
                have := (hw.cell (p := ⟨w.heap.size, 1, none⟩) (show w.heap.size < w5.heap.size by omega)).trans d1
                go_simp
                try with_reducible rfl
              simp only [Act.put, List.setIfInBounds_toArray, List.set_cons_zero, List.set_cons_succ]
              refine hs_take (i := 2) (d := some 29) (v := ?_) rfl (by kernel_rfl) (by kernel_rfl) (by kernel_rfl) (by rfl) ?_ hS rfl ?_
              rotate_left
              · intro w' hw
                go_simp
                try with_reducible rfl
              simp only [Act.put, List.setIfInBounds_toArray, List.set_cons_zero, List.set_cons_succ]
              refine hs_take (i := 3) (d := some 30) (v := ?_) rfl (by kernel_rfl) (by kernel_rfl) (by kernel_rfl) (by rfl) ?_ hS rfl ?_
              rotate_left
              · intro w' hw
                go_simp
                try with_reducible rfl
              simp only [Act.put, List.setIfInBounds_toArray, List.set_cons_zero, List.set_cons_succ]
              refine hs_take (i := 4) (d := some 31) (v := .agg u.toArray) rfl (by kernel_rfl) (by kernel_rfl) (by kernel_rfl) (by rfl) (fun w' hw => exec_loadC rfl rfl (run_loadVar_mid (P := Tryz.prog) w' b (off + k * 19) 93 u _ (range_below hre5 hw hb5) Tryz.underlying93 rfl hiu)) hS rfl ?_
              simp only [Act.put, List.setIfInBounds_toArray, List.set_cons_zero, List.set_cons_succ]
              refine hs_take (i := 5) (d := some 32) (v := ?_) rfl (by kernel_rfl) (by kernel_rfl) (by kernel_rfl) (by rfl) ?_ hS rfl ?_
              rotate_left
              · intro w' hw
                go_simp
                try with_reducible rfl
              simp only [Act.put, List.setIfInBounds_toArray, List.set_cons_zero, List.set_cons_succ]
              refine hs_take (i := 6) (d := some 33) (v := ?_) rfl (by kernel_rfl) (by kernel_rfl) (by kernel_rfl) (by rfl) ?_ hS rfl ?_
              rotate_left
              · intro w' hw
                have := (hw.cell (p := ⟨w.heap.size + 1, 1, none⟩) (show w.heap.size + 1 < w5.heap.size by omega)).trans d1'
                go_simp
                try with_reducible rfl
              simp only [Act.put, List.setIfInBounds_toArray, List.set_cons_zero, List.set_cons_succ]
              refine hs_take (i := 7) (d := some 34) (v := ?_) rfl (by kernel_rfl) (by kernel_rfl) (by kernel_rfl) (by rfl) ?_ hS rfl ?_
              rotate_left
              · intro w' hw
                go_simp
                try with_reducible rfl
              simp only [Act.put, List.setIfInBounds_toArray, List.set_cons_zero, List.set_cons_succ]
              refine hs_take (i := 8) (d := some 35) (v := ?_) rfl (by kernel_rfl) (by kernel_rfl) (by kernel_rfl) (by rfl) ?_ hS rfl ?_
              rotate_left
              · intro w' hw
                go_simp
                try with_reducible rfl
              simp only [Act.put, List.setIfInBounds_toArray, List.set_cons_zero, List.set_cons_succ]
              refine hs_take (i := 9) (d := some 36) (v := .agg u'.toArray) rfl (by kernel_rfl) (by kernel_rfl) (by kernel_rfl) (by rfl) (fun w' hw => exec_loadC rfl rfl (run_loadVar_mid (P := Tryz.prog) w' b' (off' + k * 19) 93 u' _ (range_below hre5' hw hb5') Tryz.underlying93 rfl hiu')) hS rfl ?_
              simp only [Act.put, List.setIfInBounds_toArray, List.set_cons_zero, List.set_cons_succ]
              refine hs_take (i := 10) (d := some 37) (v := .bool true) rfl (by kernel_rfl) (by kernel_rfl) (by kernel_rfl) (by rfl) (fun w' hw => by have hc := hne w'; go_simp) hS rfl ?_
              simp only [Act.put, List.setIfInBounds_toArray, List.set_cons_zero, List.set_cons_succ]
              refine hs_done (by kernel_rfl) ?_
              go_wp2
              go_ret
              exact ⟨by rw [HF']; rfl, hB5⟩
          · have k1 : ¬ (k : Int) < rs.length := by omega
            have HE : Hid (sb = true) := hide (by
              rw [← hsb.out]
              exact I.out.2 (List.ext_getElem HL.out (fun j hj hj' => HM.out j hj hj' (by omega))))
            clear HM hsb I
            go_wp2
            go_ret
            exact ⟨by rw [HE.out]; rfl, hB⟩
end Go.Proofs.YtgjalkbianpibaaGreat
namespace Go.Proofs.YtgjalkbianpibaaGreat
open Go.RowKit
open Sha Tal
set_option maxRecDepth 100000 in
set_option maxHeartbeats 8000000 in
theorem xeqHeld_any (x y : Sl Hd) (w : World) (hx : HdsAt w x) (hy : HdsAt w y) :
    Calls Tryz.prog 34 #[x.val, y.val] w fun e w' => e = .returned (.bool (sameL Hd.B x.xs y.xs)) ∧ Below w.heap.size w w' := by
  obtain ⟨a, cap, xs⟩ := x
  obtain ⟨a', cap', ys⟩ := y
  have hml : xs.length ≤ maxLen := hx.1.1
  have hml' : ys.length ≤ maxLen := hy.1.1
  unfold maxLen at hml hml'
  simp only [Sl.val]
  by_cases hlen : xs.length = ys.length
  rotate_left
  · rw [sameL_false hlen]
    have e0 : ((xs.length : Int) == ys.length) = false := by simp; omega
    clear hlen
    go_enter Tryz.func34, Tryz.ntmps34
    go_wp2
    go_ret
    exact ⟨rfl, Below.refl _ _⟩
  · have e0 : ((xs.length : Int) == ys.length) = true := by simp; omega
    have HL := hide hlen
    clear hlen
    obtain ⟨sb, hsb⟩ : ∃ sb, Hid (sameL Hd.B xs ys = sb) := ⟨_, hide rfl⟩
    rw [hsb.out]
    go_enter Tryz.func34, Tryz.ntmps34
    go_wp2
    go_loopw [5] (fun iv wr' => ∃ k : Nat, k ≤ xs.length ∧ iv = .int .i64 (k : Int) ∧ Hid (∀ j, j < k → Hd.B (xs.getD j default) (ys.getD j default) = true) ∧ Below w.heap.size w wr') (fun iv _ => xs.length - (intOf iv).toNat)
    case atStart => exact ⟨0, by omega, rfl, hide (fun j hj => absurd hj (by omega)), Below.refl _ _⟩
    case round =>
      clear e0
      rename ((xs.length : Int) != (ys.length : Int)) = false => hne0
      clear hne0
      obtain ⟨k, hk, rfl, HM, hB⟩ := hrel
      by_cases hlt : k < xs.length
      · have k1 : (k : Int) < xs.length := by omega
        have hlt' : k < ys.length := by have := HL.out; omega
        have k1' : (k : Int) < ys.length := by omega
        obtain ⟨b, off, rfl, hb, hre⟩ := RowsAt.elem (hx.1.below hB) k hlt
        obtain ⟨b', off', rfl, hb', hre'⟩ := RowsAt.elem (hy.1.below hB) k hlt'
        have hre : wr.rangeAt b (off + k * 39) xs[k].cells := hre
        have hre' : wr.rangeAt b' (off' + k * 39) ys[k].cells := hre'
        have hgx : xs.getD k default = xs[k] := by rw [List.getD_eq_getElem?_getD, List.getElem?_eq_getElem hlt]; rfl
        have hgy : ys.getD k default = ys[k] := by rw [List.getD_eq_getElem?_getD, List.getElem?_eq_getElem hlt']; rfl
        have okx : xs[k].vt.ok := hx.1.2.1 _ (List.getElem_mem hlt)
        have oky : ys[k].vt.ok := hy.1.2.1 _ (List.getElem_mem hlt')
        have atx := (hx.2 _ (List.getElem_mem hlt)).below hB
        have aty := (hy.2 _ (List.getElem_mem hlt')).below hB
        obtain ⟨gx, hX⟩ : ∃ g, Hid (xs[k] = g) := ⟨_, hide rfl⟩
        obtain ⟨gy, hY⟩ : ∃ g, Hid (ys[k] = g) := ⟨_, hide rfl⟩
        rw [hX.out] at hre hgx okx atx
        rw [hY.out] at hre' hgy oky aty
        clear hX hY
        have HT : Hid (Hd.B gx gy = true → ∀ j, j < k + 1 → Hd.B (xs.getD j default) (ys.getD j default) = true) := hide (fun hp j hj => by
          by_cases e : j = k
          · subst e; rw [hgx, hgy]; exact hp
          · exact HM.out j (by omega))
        have HF : Hid (Hd.B gx gy = false → sb = false) := hide (fun hp => by
          rw [← hsb.out]
          exact sameL_not k hlt HL.out (by rw [hgx, hgy]; exact hp))
        have rb : wr.rangeAt b (off + k * 39) (#[.bool gx.q, .slice gx.rs.a gx.rs.xs.length gx.rs.cap] : Array Value).toList := range_left (cs := [.bool gx.q, gx.rs.val]) hre
        have rb' : wr.rangeAt b' (off' + k * 39) (#[.bool gy.q, .slice gy.rs.a gy.rs.xs.length gy.rs.cap] : Array Value).toList := range_left (cs := [.bool gy.q, gy.rs.val]) hre'
        have rc : wr.rangeAt b (off + k * 39 + 2) (certL gx.vt gx.sg) := range_right (cs := [.bool gx.q, gx.rs.val]) hre
        have rc' : wr.rangeAt b' (off' + k * 39 + 2) (certL gy.vt gy.sg) := range_right (cs := [.bool gy.q, gy.rs.val]) hre'
        have ic : (Tryz.prog.info? 35).map (·.size) = some (certL gx.vt gx.sg).length := by rw [show (certL gx.vt gx.sg).length = 37 by simp [certL, okx.len]]; exact iszC
        have ic' : (Tryz.prog.info? 35).map (·.size) = some (certL gy.vt gy.sg).length := by rw [show (certL gy.vt gy.sg).length = 37 by simp [certL, oky.len]]; exact iszC
        have g1 := fun (w0 : World) (h0 : Below wr.heap.size wr w0) => xbsame_any gx.q gx.rs gy.q gy.rs w0 (atx.below h0).1 (aty.below h0).1
        have g2 := fun (w0 : World) (h0 : Below wr.heap.size wr w0) => xscert_any gx.vt gy.vt gx.sg gy.sg w0 okx oky (atx.below h0).2 (aty.below h0).2
        simp only [Sl.val] at g1
        unfold Hd.B at HT HF
        have iB : (Tryz.prog.info? 24).map (·.size) = some (#[.bool gx.q, .slice gx.rs.a gx.rs.xs.length gx.rs.cap] : Array Value).toList.length := iszB
        have iB' : (Tryz.prog.info? 24).map (·.size) = some (#[.bool gy.q, .slice gy.rs.a gy.rs.xs.length gy.rs.cap] : Array Value).toList.length := iszB
        generalize batB gx.q gx.rs gy.q gy.rs = b1 at *
        generalize certB gx.vt gx.sg gy.vt gy.sg = b2 at *
        generalize certL gx.vt gx.sg = u at *
        generalize certL gy.vt gy.sg = u' at *
        generalize (#[.bool gx.q, .slice gx.rs.a gx.rs.xs.length gx.rs.cap] : Array Value) = vb at *
        generalize (#[.bool gy.q, .slice gy.rs.a gy.rs.xs.length gy.rs.cap] : Array Value) = vb' at *
        clear hgx hgy HM okx oky atx aty hre hre'
        cases b1
        · have HF' := hide (HF.out (Bool.false_and _))
          clear HF HT hsb
          go_upto_region 6 with fail
          obtain ⟨w5, hw5⟩ : ∃ w5, wr.drew = w5 := ⟨_, rfl⟩
          have hBd : Below wr.heap.size wr w5 := by rw [← hw5]; exact (Below.refl _ _).drew
          have hB5 := hB.trans (hBd.mono hB.size)
          have rb5 := range_below rb hBd hb
          have rb5' := range_below rb' hBd hb'
          have rc5 := range_below rc hBd hb
          have rc5' := range_below rc' hBd hb'
          have hb5 : b < w5.heap.size := Nat.lt_of_lt_of_le hb hBd.size
          have hb5' : b' < w5.heap.size := Nat.lt_of_lt_of_le hb' hBd.size
          have G1 := fun w0 (h0 : Below w5.heap.size w5 w0) => g1 w0 (hBd.trans (h0.mono hBd.size))
          have G2 := fun w0 (h0 : Below w5.heap.size w5 w0) => g2 w0 (hBd.trans (h0.mono hBd.size))
          refine hs_begin (S := (Below w5.heap.size w5)) 26 rfl (by kernel_rfl) ?_
          rw [hw5]
          clear hw5 rb rb' rc rc' hb hb' hBd hB g1 g2
          have hS : (Below w5.heap.size w5) w5 := Below.refl _ _
          refine hs_take (i := 0) (d := some 17) (v := ?_) rfl (by kernel_rfl) (by kernel_rfl) (by kernel_rfl) (by rfl) ?_ hS rfl ?_
          rotate_left
          · intro w' hw
            go_simp
            try with_reducible rfl
          simp only [Act.put, List.setIfInBounds_toArray, List.set_cons_zero, List.set_cons_succ]
          refine hs_take (i := 1) (d := some 18) (v := ?_) rfl (by kernel_rfl) (by kernel_rfl) (by kernel_rfl) (by rfl) ?_ hS rfl ?_
          rotate_left
          · intro w' hw
            go_simp
            try with_reducible rfl
          simp only [Act.put, List.setIfInBounds_toArray, List.set_cons_zero, List.set_cons_succ]
          refine hs_take (i := 2) (d := some 19) (v := ?_) rfl (by kernel_rfl) (by kernel_rfl) (by kernel_rfl) (by rfl) ?_ hS rfl ?_
          rotate_left
          · intro w' hw
            go_simp
            try with_reducible rfl
          simp only [Act.put, List.setIfInBounds_toArray, List.set_cons_zero, List.set_cons_succ]
          refine hs_take (i := 3) (d := some 20) (v := ?_) rfl (by kernel_rfl) (by kernel_rfl) (by kernel_rfl) (by rfl) ?_ hS rfl ?_
          rotate_left
          · intro w' hw
            go_simp
            try with_reducible rfl
          simp only [Act.put, List.setIfInBounds_toArray, List.set_cons_zero, List.set_cons_succ]
          refine hs_take (i := 4) (d := some 21) (v := .agg vb) rfl (by kernel_rfl) (by kernel_rfl) (by kernel_rfl) (by rfl) (fun w' hw => exec_loadC rfl rfl (run_loadVar_mid (P := Tryz.prog) w' b (off + k * 39) 24 vb.toList _ (range_below rb5 hw hb5) Tryz.underlying24 rfl iB)) hS rfl ?_
          simp only [Act.put, List.setIfInBounds_toArray, List.set_cons_zero, List.set_cons_succ]
          refine hs_take (i := 5) (d := some 22) (v := ?_) rfl (by kernel_rfl) (by kernel_rfl) (by kernel_rfl) (by rfl) ?_ hS rfl ?_
          rotate_left
          · intro w' hw
            go_simp
            try with_reducible rfl
          simp only [Act.put, List.setIfInBounds_toArray, List.set_cons_zero, List.set_cons_succ]
          refine hs_take (i := 6) (d := some 23) (v := ?_) rfl (by kernel_rfl) (by kernel_rfl) (by kernel_rfl) (by rfl) ?_ hS rfl ?_
          rotate_left
          · intro w' hw
            go_simp
            try with_reducible rfl
          simp only [Act.put, List.setIfInBounds_toArray, List.set_cons_zero, List.set_cons_succ]
          refine hs_take (i := 7) (d := some 24) (v := ?_) rfl (by kernel_rfl) (by kernel_rfl) (by kernel_rfl) (by rfl) ?_ hS rfl ?_
          rotate_left
          · intro w' hw
            go_simp
            try with_reducible rfl
          simp only [Act.put, List.setIfInBounds_toArray, List.set_cons_zero, List.set_cons_succ]
          refine hs_take (i := 8) (d := some 25) (v := ?_) rfl (by kernel_rfl) (by kernel_rfl) (by kernel_rfl) (by rfl) ?_ hS rfl ?_
          rotate_left
          · intro w' hw
            go_simp
            try with_reducible rfl
          simp only [Act.put, List.setIfInBounds_toArray, List.set_cons_zero, List.set_cons_succ]
          refine hs_take (i := 9) (d := some 26) (v := .agg vb') rfl (by kernel_rfl) (by kernel_rfl) (by kernel_rfl) (by rfl) (fun w' hw => exec_loadC rfl rfl (run_loadVar_mid (P := Tryz.prog) w' b' (off' + k * 39) 24 vb'.toList _ (range_below rb5' hw hb5') Tryz.underlying24 rfl iB')) hS rfl ?_
          simp only [Act.put, List.setIfInBounds_toArray, List.set_cons_zero, List.set_cons_succ]
          refine hs_call (i := 10) (d := some 27) rfl (by kernel_rfl) (by rfl) (by go_simp; first | done | exact ⟨rfl, rfl⟩ | with_reducible rfl) rfl ?_
          refine (G1 w5 hS).mono ?_
          rintro e' wn1 ⟨rfl, hb1⟩
          have hS : (Below w5.heap.size w5) wn1 := hS.trans (hb1.mono hS.size)
          refine ⟨_, rfl, hS, ?_⟩
          simp only [Act.put, List.setIfInBounds_toArray, List.set_cons_zero, List.set_cons_succ]
          refine hs_take (i := 11) (d := some 28) (v := ?_) rfl (by kernel_rfl) (by kernel_rfl) (by kernel_rfl) (by rfl) ?_ hS rfl ?_
          rotate_left
          · intro w' hw
            go_simp
            try with_reducible rfl
          simp only [Act.put, List.setIfInBounds_toArray, List.set_cons_zero, List.set_cons_succ]
          refine hs_take (i := 12) (d := some 29) (v := ?_) rfl (by kernel_rfl) (by kernel_rfl) (by kernel_rfl) (by rfl) ?_ hS rfl ?_
          rotate_left
          · intro w' hw
            go_simp
            try with_reducible rfl
          simp only [Act.put, List.setIfInBounds_toArray, List.set_cons_zero, List.set_cons_succ]
          refine hs_skip (i := 13) (d := some 30) rfl (by kernel_rfl) (by kernel_rfl) (by kernel_rfl) (by rfl) hS rfl ?_
          simp only [Act.put, List.setIfInBounds_toArray, List.set_cons_zero, List.set_cons_succ]
          refine hs_skip (i := 14) (d := some 31) rfl (by kernel_rfl) (by kernel_rfl) (by kernel_rfl) (by rfl) hS rfl ?_
          simp only [Act.put, List.setIfInBounds_toArray, List.set_cons_zero, List.set_cons_succ]
          refine hs_skip (i := 15) (d := some 32) rfl (by kernel_rfl) (by kernel_rfl) (by kernel_rfl) (by rfl) hS rfl ?_
          simp only [Act.put, List.setIfInBounds_toArray, List.set_cons_zero, List.set_cons_succ]
          refine hs_skip (i := 16) (d := some 33) rfl (by kernel_rfl) (by kernel_rfl) (by kernel_rfl) (by rfl) hS rfl ?_
          simp only [Act.put, List.setIfInBounds_toArray, List.set_cons_zero, List.set_cons_succ]
          refine hs_skip (i := 17) (d := some 34) rfl (by kernel_rfl) (by kernel_rfl) (by kernel_rfl) (by rfl) hS rfl ?_
          simp only [Act.put, List.setIfInBounds_toArray, List.set_cons_zero, List.set_cons_succ]
          refine hs_skip (i := 18) (d := some 35) rfl (by kernel_rfl) (by kernel_rfl) (by kernel_rfl) (by rfl) hS rfl ?_
          simp only [Act.put, List.setIfInBounds_toArray, List.set_cons_zero, List.set_cons_succ]
          refine hs_skip (i := 19) (d := some 36) rfl (by kernel_rfl) (by kernel_rfl) (by kernel_rfl) (by rfl) hS rfl ?_
          simp only [Act.put, List.setIfInBounds_toArray, List.set_cons_zero, List.set_cons_succ]
          refine hs_skip (i := 20) (d := some 37) rfl (by kernel_rfl) (by kernel_rfl) (by kernel_rfl) (by rfl) hS rfl ?_
          simp only [Act.put, List.setIfInBounds_toArray, List.set_cons_zero, List.set_cons_succ]
          refine hs_skip (i := 21) (d := some 38) rfl (by kernel_rfl) (by kernel_rfl) (by kernel_rfl) (by rfl) hS rfl ?_
          simp only [Act.put, List.setIfInBounds_toArray, List.set_cons_zero, List.set_cons_succ]
          refine hs_skip (i := 22) (d := some 39) rfl (by kernel_rfl) (by kernel_rfl) (by kernel_rfl) (by rfl) hS rfl ?_
          simp only [Act.put, List.setIfInBounds_toArray, List.set_cons_zero, List.set_cons_succ]
          refine hs_skip (i := 23) (d := some 40) rfl (by kernel_rfl) (by kernel_rfl) (by kernel_rfl) (by rfl) hS rfl ?_
          simp only [Act.put, List.setIfInBounds_toArray, List.set_cons_zero, List.set_cons_succ]
          refine hs_skip (i := 24) (d := some 41) rfl (by kernel_rfl) (by kernel_rfl) (by kernel_rfl) (by rfl) hS rfl ?_
          simp only [Act.put, List.setIfInBounds_toArray, List.set_cons_zero, List.set_cons_succ]
          refine hs_take (i := 25) (d := some 42) (v := ?_) rfl (by kernel_rfl) (by kernel_rfl) (by kernel_rfl) (by rfl) ?_ hS rfl ?_
          rotate_left
          · intro w' hw
            go_simp
            try with_reducible rfl
          simp only [Act.put, List.setIfInBounds_toArray, List.set_cons_zero, List.set_cons_succ]
          refine hs_done (by kernel_rfl) ?_
          go_wp2
          go_ret
          exact ⟨by rw [HF'.out]; rfl, hB5.trans (hS.mono hB5.size)⟩
        · cases b2
          · have HF' := hide (HF.out (Bool.true_and _))
            clear HF HT hsb
            go_upto_region 6 with fail
            obtain ⟨w5, hw5⟩ : ∃ w5, wr.drew = w5 := ⟨_, rfl⟩
            have hBd : Below wr.heap.size wr w5 := by rw [← hw5]; exact (Below.refl _ _).drew
            have hB5 := hB.trans (hBd.mono hB.size)
            have rb5 := range_below rb hBd hb
            have rb5' := range_below rb' hBd hb'
            have rc5 := range_below rc hBd hb
            have rc5' := range_below rc' hBd hb'
            have hb5 : b < w5.heap.size := Nat.lt_of_lt_of_le hb hBd.size
            have hb5' : b' < w5.heap.size := Nat.lt_of_lt_of_le hb' hBd.size
            have G1 := fun w0 (h0 : Below w5.heap.size w5 w0) => g1 w0 (hBd.trans (h0.mono hBd.size))
            have G2 := fun w0 (h0 : Below w5.heap.size w5 w0) => g2 w0 (hBd.trans (h0.mono hBd.size))
            refine hs_begin (S := (Below w5.heap.size w5)) 26 rfl (by kernel_rfl) ?_
            rw [hw5]
            clear hw5 rb rb' rc rc' hb hb' hBd hB g1 g2
            have hS : (Below w5.heap.size w5) w5 := Below.refl _ _
            refine hs_take (i := 0) (d := some 17) (v := ?_) rfl (by kernel_rfl) (by kernel_rfl) (by kernel_rfl) (by rfl) ?_ hS rfl ?_
            rotate_left
            · intro w' hw
              go_simp
              try with_reducible rfl
            simp only [Act.put, List.setIfInBounds_toArray, List.set_cons_zero, List.set_cons_succ]
            refine hs_take (i := 1) (d := some 18) (v := ?_) rfl (by kernel_rfl) (by kernel_rfl) (by kernel_rfl) (by rfl) ?_ hS rfl ?_
            rotate_left
            · intro w' hw
              go_simp
              try with_reducible rfl
            simp only [Act.put, List.setIfInBounds_toArray, List.set_cons_zero, List.set_cons_succ]
            refine hs_take (i := 2) (d := some 19) (v := ?_) rfl (by kernel_rfl) (by kernel_rfl) (by kernel_rfl) (by rfl) ?_ hS rfl ?_
            rotate_left
            · intro w' hw
              go_simp
              try with_reducible rfl
            simp only [Act.put, List.setIfInBounds_toArray, List.set_cons_zero, List.set_cons_succ]
            refine hs_take (i := 3) (d := some 20) (v := ?_) rfl (by kernel_rfl) (by kernel_rfl) (by kernel_rfl) (by rfl) ?_ hS rfl ?_
            rotate_left
            · intro w' hw
              go_simp
              try with_reducible rfl
            simp only [Act.put, List.setIfInBounds_toArray, List.set_cons_zero, List.set_cons_succ]
            refine hs_take (i := 4) (d := some 21) (v := .agg vb) rfl (by kernel_rfl) (by kernel_rfl) (by kernel_rfl) (by rfl) (fun w' hw => exec_loadC rfl rfl (run_loadVar_mid (P := Tryz.prog) w' b (off + k * 39) 24 vb.toList _ (range_below rb5 hw hb5) Tryz.underlying24 rfl iB)) hS rfl ?_
            simp only [Act.put, List.setIfInBounds_toArray, List.set_cons_zero, List.set_cons_succ]
            refine hs_take (i := 5) (d := some 22) (v := ?_) rfl (by kernel_rfl) (by kernel_rfl) (by kernel_rfl) (by rfl) ?_ hS rfl ?_
            rotate_left
            · intro w' hw
              go_simp
              try with_reducible rfl
            simp only [Act.put, List.setIfInBounds_toArray, List.set_cons_zero, List.set_cons_succ]
            refine hs_take (i := 6) (d := some 23) (v := ?_) rfl (by kernel_rfl) (by kernel_rfl) (by kernel_rfl) (by rfl) ?_ hS rfl ?_
            rotate_left
            · intro w' hw
              go_simp
              try with_reducible rfl
            simp only [Act.put, List.setIfInBounds_toArray, List.set_cons_zero, List.set_cons_succ]
            refine hs_take (i := 7) (d := some 24) (v := ?_) rfl (by kernel_rfl) (by kernel_rfl) (by kernel_rfl) (by rfl) ?_ hS rfl ?_
            rotate_left
            · intro w' hw
              go_simp
              try with_reducible rfl
            simp only [Act.put, List.setIfInBounds_toArray, List.set_cons_zero, List.set_cons_succ]
            refine hs_take (i := 8) (d := some 25) (v := ?_) rfl (by kernel_rfl) (by kernel_rfl) (by kernel_rfl) (by rfl) ?_ hS rfl ?_
            rotate_left
            · intro w' hw
              go_simp
              try with_reducible rfl
            simp only [Act.put, List.setIfInBounds_toArray, List.set_cons_zero, List.set_cons_succ]
            refine hs_take (i := 9) (d := some 26) (v := .agg vb') rfl (by kernel_rfl) (by kernel_rfl) (by kernel_rfl) (by rfl) (fun w' hw => exec_loadC rfl rfl (run_loadVar_mid (P := Tryz.prog) w' b' (off' + k * 39) 24 vb'.toList _ (range_below rb5' hw hb5') Tryz.underlying24 rfl iB')) hS rfl ?_
            simp only [Act.put, List.setIfInBounds_toArray, List.set_cons_zero, List.set_cons_succ]
            refine hs_call (i := 10) (d := some 27) rfl (by kernel_rfl) (by rfl) (by go_simp; first | done | exact ⟨rfl, rfl⟩ | with_reducible rfl) rfl ?_
            refine (G1 w5 hS).mono ?_
            rintro e' wn1 ⟨rfl, hb1⟩
            have hS : (Below w5.heap.size w5) wn1 := hS.trans (hb1.mono hS.size)
            refine ⟨_, rfl, hS, ?_⟩
            simp only [Act.put, List.setIfInBounds_toArray, List.set_cons_zero, List.set_cons_succ]
            refine hs_take (i := 11) (d := some 28) (v := ?_) rfl (by kernel_rfl) (by kernel_rfl) (by kernel_rfl) (by rfl) ?_ hS rfl ?_
            rotate_left
            · intro w' hw
              go_simp
              try with_reducible rfl
            simp only [Act.put, List.setIfInBounds_toArray, List.set_cons_zero, List.set_cons_succ]
            refine hs_take (i := 12) (d := some 29) (v := ?_) rfl (by kernel_rfl) (by kernel_rfl) (by kernel_rfl) (by rfl) ?_ hS rfl ?_
            rotate_left
            · intro w' hw
              go_simp
              try with_reducible rfl
            simp only [Act.put, List.setIfInBounds_toArray, List.set_cons_zero, List.set_cons_succ]
            refine hs_take (i := 13) (d := some 30) (v := ?_) rfl (by kernel_rfl) (by kernel_rfl) (by kernel_rfl) (by rfl) ?_ hS rfl ?_
            rotate_left
            · intro w' hw
              go_simp
              try with_reducible rfl
            simp only [Act.put, List.setIfInBounds_toArray, List.set_cons_zero, List.set_cons_succ]
            refine hs_take (i := 14) (d := some 31) (v := ?_) rfl (by kernel_rfl) (by kernel_rfl) (by kernel_rfl) (by rfl) ?_ hS rfl ?_
            rotate_left
            · intro w' hw
              go_simp
              try with_reducible rfl
            simp only [Act.put, List.setIfInBounds_toArray, List.set_cons_zero, List.set_cons_succ]
            refine hs_take (i := 15) (d := some 32) (v := ?_) rfl (by kernel_rfl) (by kernel_rfl) (by kernel_rfl) (by rfl) ?_ hS rfl ?_
            rotate_left
            · intro w' hw
              go_simp
              try with_reducible rfl
            simp only [Act.put, List.setIfInBounds_toArray, List.set_cons_zero, List.set_cons_succ]
            refine hs_take (i := 16) (d := some 33) (v := ?_) rfl (by kernel_rfl) (by kernel_rfl) (by kernel_rfl) (by rfl) ?_ hS rfl ?_
            rotate_left
            · intro w' hw
              go_simp
              try with_reducible rfl
            simp only [Act.put, List.setIfInBounds_toArray, List.set_cons_zero, List.set_cons_succ]
            refine hs_take (i := 17) (d := some 34) (v := .agg u.toArray) rfl (by kernel_rfl) (by kernel_rfl) (by kernel_rfl) (by rfl) (fun w' hw => exec_loadC rfl rfl (run_loadVar_mid (P := Tryz.prog) w' b (off + k * 39 + 2) 35 u _ (range_below rc5 hw hb5) Tryz.underlying35 rfl ic)) hS rfl ?_
            simp only [Act.put, List.setIfInBounds_toArray, List.set_cons_zero, List.set_cons_succ]
            refine hs_take (i := 18) (d := some 35) (v := ?_) rfl (by kernel_rfl) (by kernel_rfl) (by kernel_rfl) (by rfl) ?_ hS rfl ?_
            rotate_left
            · intro w' hw
              go_simp
              try with_reducible rfl
            simp only [Act.put, List.setIfInBounds_toArray, List.set_cons_zero, List.set_cons_succ]
            refine hs_take (i := 19) (d := some 36) (v := ?_) rfl (by kernel_rfl) (by kernel_rfl) (by kernel_rfl) (by rfl) ?_ hS rfl ?_
            rotate_left
            · intro w' hw
              go_simp
              try with_reducible rfl
            simp only [Act.put, List.setIfInBounds_toArray, List.set_cons_zero, List.set_cons_succ]
            refine hs_take (i := 20) (d := some 37) (v := ?_) rfl (by kernel_rfl) (by kernel_rfl) (by kernel_rfl) (by rfl) ?_ hS rfl ?_
            rotate_left
            · intro w' hw
              go_simp
              try with_reducible rfl
            simp only [Act.put, List.setIfInBounds_toArray, List.set_cons_zero, List.set_cons_succ]
            refine hs_take (i := 21) (d := some 38) (v := ?_) rfl (by kernel_rfl) (by kernel_rfl) (by kernel_rfl) (by rfl) ?_ hS rfl ?_
            rotate_left
            · intro w' hw
              go_simp
              try with_reducible rfl
            simp only [Act.put, List.setIfInBounds_toArray, List.set_cons_zero, List.set_cons_succ]
            refine hs_take (i := 22) (d := some 39) (v := .agg u'.toArray) rfl (by kernel_rfl) (by kernel_rfl) (by kernel_rfl) (by rfl) (fun w' hw => exec_loadC rfl rfl (run_loadVar_mid (P := Tryz.prog) w' b' (off' + k * 39 + 2) 35 u' _ (range_below rc5' hw hb5') Tryz.underlying35 rfl ic')) hS rfl ?_
            simp only [Act.put, List.setIfInBounds_toArray, List.set_cons_zero, List.set_cons_succ]
            refine hs_call (i := 23) (d := some 40) rfl (by kernel_rfl) (by rfl) (by go_simp; first | done | exact ⟨rfl, rfl⟩ | with_reducible rfl) rfl ?_
            refine (G2 wn1 hb1).mono ?_
            rintro e' wn2 ⟨rfl, hb2⟩
            have hS : (Below w5.heap.size w5) wn2 := hS.trans (hb2.mono hS.size)
            refine ⟨_, rfl, hS, ?_⟩
            simp only [Act.put, List.setIfInBounds_toArray, List.set_cons_zero, List.set_cons_succ]
            refine hs_take (i := 24) (d := some 41) (v := ?_) rfl (by kernel_rfl) (by kernel_rfl) (by kernel_rfl) (by rfl) ?_ hS rfl ?_
            rotate_left
            · intro w' hw
              go_simp
              try with_reducible rfl
            simp only [Act.put, List.setIfInBounds_toArray, List.set_cons_zero, List.set_cons_succ]
            refine hs_take (i := 25) (d := some 42) (v := ?_) rfl (by kernel_rfl) (by kernel_rfl) (by kernel_rfl) (by rfl) ?_ hS rfl ?_
            rotate_left
            · intro w' hw
              go_simp
              try with_reducible rfl
            simp only [Act.put, List.setIfInBounds_toArray, List.set_cons_zero, List.set_cons_succ]
            refine hs_done (by kernel_rfl) ?_
            go_wp2
            go_ret
            exact ⟨by rw [HF'.out]; rfl, hB5.trans (hS.mono hB5.size)⟩
          · have HT' := hide (HT.out (Bool.true_and _))
            clear HF HT
            go_upto_region 6 with fail
            obtain ⟨w5, hw5⟩ : ∃ w5, wr.drew = w5 := ⟨_, rfl⟩
            have hBd : Below wr.heap.size wr w5 := by rw [← hw5]; exact (Below.refl _ _).drew
            have hB5 := hB.trans (hBd.mono hB.size)
            have rb5 := range_below rb hBd hb
            have rb5' := range_below rb' hBd hb'
            have rc5 := range_below rc hBd hb
            have rc5' := range_below rc' hBd hb'
            have hb5 : b < w5.heap.size := Nat.lt_of_lt_of_le hb hBd.size
            have hb5' : b' < w5.heap.size := Nat.lt_of_lt_of_le hb' hBd.size
            have G1 := fun w0 (h0 : Below w5.heap.size w5 w0) => g1 w0 (hBd.trans (h0.mono hBd.size))
            have G2 := fun w0 (h0 : Below w5.heap.size w5 w0) => g2 w0 (hBd.trans (h0.mono hBd.size))
            refine hs_begin (S := (Below w5.heap.size w5)) 26 rfl (by kernel_rfl) ?_
            rw [hw5]
            clear hw5 rb rb' rc rc' hb hb' hBd hB g1 g2
            have hS : (Below w5.heap.size w5) w5 := Below.refl _ _
            refine hs_take (i := 0) (d := some 17) (v := ?_) rfl (by kernel_rfl) (by kernel_rfl) (by kernel_rfl) (by rfl) ?_ hS rfl ?_
            rotate_left
            · intro w' hw
              go_simp
              try with_reducible rfl
            simp only [Act.put, List.setIfInBounds_toArray, List.set_cons_zero, List.set_cons_succ]
            refine hs_take (i := 1) (d := some 18) (v := ?_) rfl (by kernel_rfl) (by kernel_rfl) (by kernel_rfl) (by rfl) ?_ hS rfl ?_
            rotate_left
            · intro w' hw
              go_simp
              try with_reducible rfl
            simp only [Act.put, List.setIfInBounds_toArray, List.set_cons_zero, List.set_cons_succ]
            refine hs_take (i := 2) (d := some 19) (v := ?_) rfl (by kernel_rfl) (by kernel_rfl) (by kernel_rfl) (by rfl) ?_ hS rfl ?_
            rotate_left
            · intro w' hw
              go_simp
              try with_reducible rfl
            simp only [Act.put, List.setIfInBounds_toArray, List.set_cons_zero, List.set_cons_succ]
            refine hs_take (i := 3) (d := some 20) (v := ?_) rfl (by kernel_rfl) (by kernel_rfl) (by kernel_rfl) (by rfl) ?_ hS rfl ?_
            rotate_left
            · intro w' hw
              go_simp
              try with_reducible rfl
            simp only [Act.put, List.setIfInBounds_toArray, List.set_cons_zero, List.set_cons_succ]
            refine hs_take (i := 4) (d := some 21) (v := .agg vb) rfl (by kernel_rfl) (by kernel_rfl) (by kernel_rfl) (by rfl) (fun w' hw => exec_loadC rfl rfl (run_loadVar_mid (P := Tryz.prog) w' b (off + k * 39) 24 vb.toList _ (range_below rb5 hw hb5) Tryz.underlying24 rfl iB)) hS rfl ?_
            simp only [Act.put, List.setIfInBounds_toArray, List.set_cons_zero, List.set_cons_succ]
            refine hs_take (i := 5) (d := some 22) (v := ?_) rfl (by kernel_rfl) (by kernel_rfl) (by kernel_rfl) (by rfl) ?_ hS rfl ?_
            rotate_left
            · intro w' hw
              go_simp
              try with_reducible rfl
            simp only [Act.put, List.setIfInBounds_toArray, List.set_cons_zero, List.set_cons_succ]
            refine hs_take (i := 6) (d := some 23) (v := ?_) rfl (by kernel_rfl) (by kernel_rfl) (by kernel_rfl) (by rfl) ?_ hS rfl ?_
            rotate_left
            · intro w' hw
              go_simp
              try with_reducible rfl
            simp only [Act.put, List.setIfInBounds_toArray, List.set_cons_zero, List.set_cons_succ]
            refine hs_take (i := 7) (d := some 24) (v := ?_) rfl (by kernel_rfl) (by kernel_rfl) (by kernel_rfl) (by rfl) ?_ hS rfl ?_
            rotate_left
            · intro w' hw
              go_simp
              try with_reducible rfl
            simp only [Act.put, List.setIfInBounds_toArray, List.set_cons_zero, List.set_cons_succ]
            refine hs_take (i := 8) (d := some 25) (v := ?_) rfl (by kernel_rfl) (by kernel_rfl) (by kernel_rfl) (by rfl) ?_ hS rfl ?_
            rotate_left
            · intro w' hw
              go_simp
              try with_reducible rfl
            simp only [Act.put, List.setIfInBounds_toArray, List.set_cons_zero, List.set_cons_succ]
            refine hs_take (i := 9) (d := some 26) (v := .agg vb') rfl (by kernel_rfl) (by kernel_rfl) (by kernel_rfl) (by rfl) (fun w' hw => exec_loadC rfl rfl (run_loadVar_mid (P := Tryz.prog) w' b' (off' + k * 39) 24 vb'.toList _ (range_below rb5' hw hb5') Tryz.underlying24 rfl iB')) hS rfl ?_
            simp only [Act.put, List.setIfInBounds_toArray, List.set_cons_zero, List.set_cons_succ]
            refine hs_call (i := 10) (d := some 27) rfl (by kernel_rfl) (by rfl) (by go_simp; first | done | exact ⟨rfl, rfl⟩ | with_reducible rfl) rfl ?_
            refine (G1 w5 hS).mono ?_
            rintro e' wn1 ⟨rfl, hb1⟩
            have hS : (Below w5.heap.size w5) wn1 := hS.trans (hb1.mono hS.size)
            refine ⟨_, rfl, hS, ?_⟩
            simp only [Act.put, List.setIfInBounds_toArray, List.set_cons_zero, List.set_cons_succ]
            refine hs_take (i := 11) (d := some 28) (v := ?_) rfl (by kernel_rfl) (by kernel_rfl) (by kernel_rfl) (by rfl) ?_ hS rfl ?_
            rotate_left
            · intro w' hw
              go_simp
              try with_reducible rfl
            simp only [Act.put, List.setIfInBounds_toArray, List.set_cons_zero, List.set_cons_succ]
            refine hs_take (i := 12) (d := some 29) (v := ?_) rfl (by kernel_rfl) (by kernel_rfl) (by kernel_rfl) (by rfl) ?_ hS rfl ?_
            rotate_left
            · intro w' hw
              go_simp
              try with_reducible rfl
            simp only [Act.put, List.setIfInBounds_toArray, List.set_cons_zero, List.set_cons_succ]
            refine hs_take (i := 13) (d := some 30) (v := ?_) rfl (by kernel_rfl) (by kernel_rfl) (by kernel_rfl) (by rfl) ?_ hS rfl ?_
            rotate_left
            · intro w' hw
              go_simp
              try with_reducible rfl
            simp only [Act.put, List.setIfInBounds_toArray, List.set_cons_zero, List.set_cons_succ]
            refine hs_take (i := 14) (d := some 31) (v := ?_) rfl (by kernel_rfl) (by kernel_rfl) (by kernel_rfl) (by rfl) ?_ hS rfl ?_
            rotate_left
            · intro w' hw
              go_simp
              try with_reducible rfl
            simp only [Act.put, List.setIfInBounds_toArray, List.set_cons_zero, List.set_cons_succ]
            refine hs_take (i := 15) (d := some 32) (v := ?_) rfl (by kernel_rfl) (by kernel_rfl) (by kernel_rfl) (by rfl) ?_ hS rfl ?_
            rotate_left
            · intro w' hw
              go_simp
              try with_reducible rfl
            simp only [Act.put, List.setIfInBounds_toArray, List.set_cons_zero, List.set_cons_succ]
            refine hs_take (i := 16) (d := some 33) (v := ?_) rfl (by kernel_rfl) (by kernel_rfl) (by kernel_rfl) (by rfl) ?_ hS rfl ?_
            rotate_left
            · intro w' hw
              go_simp
              try with_reducible rfl
            simp only [Act.put, List.setIfInBounds_toArray, List.set_cons_zero, List.set_cons_succ]
            refine hs_take (i := 17) (d := some 34) (v := .agg u.toArray) rfl (by kernel_rfl) (by kernel_rfl) (by kernel_rfl) (by rfl) (fun w' hw => exec_loadC rfl rfl (run_loadVar_mid (P := Tryz.prog) w' b (off + k * 39 + 2) 35 u _ (range_below rc5 hw hb5) Tryz.underlying35 rfl ic)) hS rfl ?_
            simp only [Act.put, List.setIfInBounds_toArray, List.set_cons_zero, List.set_cons_succ]
            refine hs_take (i := 18) (d := some 35) (v := ?_) rfl (by kernel_rfl) (by kernel_rfl) (by kernel_rfl) (by rfl) ?_ hS rfl ?_
            rotate_left
            · intro w' hw
              go_simp
              try with_reducible rfl
            simp only [Act.put, List.setIfInBounds_toArray, List.set_cons_zero, List.set_cons_succ]
            refine hs_take (i := 19) (d := some 36) (v := ?_) rfl (by kernel_rfl) (by kernel_rfl) (by kernel_rfl) (by rfl) ?_ hS rfl ?_
            rotate_left
            · intro w' hw
              go_simp
              try with_reducible rfl
            simp only [Act.put, List.setIfInBounds_toArray, List.set_cons_zero, List.set_cons_succ]
            refine hs_take (i := 20) (d := some 37) (v := ?_) rfl (by kernel_rfl) (by kernel_rfl) (by kernel_rfl) (by rfl) ?_ hS rfl ?_
            rotate_left
            · intro w' hw
              go_simp
              try with_reducible rfl
            simp only [Act.put, List.setIfInBounds_toArray, List.set_cons_zero, List.set_cons_succ]
            refine hs_take (i := 21) (d := some 38) (v := ?_) rfl (by kernel_rfl) (by kernel_rfl) (by kernel_rfl) (by rfl) ?_ hS rfl ?_
            rotate_left
            · intro w' hw
              go_simp
              try with_reducible rfl
            simp only [Act.put, List.setIfInBounds_toArray, List.set_cons_zero, List.set_cons_succ]
            refine hs_take (i := 22) (d := some 39) (v := .agg u'.toArray) rfl (by kernel_rfl) (by kernel_rfl) (by kernel_rfl) (by rfl) (fun w' hw => exec_loadC rfl rfl (run_loadVar_mid (P := Tryz.prog) w' b' (off' + k * 39 + 2) 35 u' _ (range_below rc5' hw hb5') Tryz.underlying35 rfl ic')) hS rfl ?_
            simp only [Act.put, List.setIfInBounds_toArray, List.set_cons_zero, List.set_cons_succ]
            refine hs_call (i := 23) (d := some 40) rfl (by kernel_rfl) (by rfl) (by go_simp; first | done | exact ⟨rfl, rfl⟩ | with_reducible rfl) rfl ?_
            refine (G2 wn1 hb1).mono ?_
            rintro e' wn2 ⟨rfl, hb2⟩
            have hS : (Below w5.heap.size w5) wn2 := hS.trans (hb2.mono hS.size)
            refine ⟨_, rfl, hS, ?_⟩
            simp only [Act.put, List.setIfInBounds_toArray, List.set_cons_zero, List.set_cons_succ]
            refine hs_take (i := 24) (d := some 41) (v := ?_) rfl (by kernel_rfl) (by kernel_rfl) (by kernel_rfl) (by rfl) ?_ hS rfl ?_
            rotate_left
            · intro w' hw
              go_simp
              try with_reducible rfl
            simp only [Act.put, List.setIfInBounds_toArray, List.set_cons_zero, List.set_cons_succ]
            refine hs_take (i := 25) (d := some 42) (v := ?_) rfl (by kernel_rfl) (by kernel_rfl) (by kernel_rfl) (by rfl) ?_ hS rfl ?_
            rotate_left
            · intro w' hw
              go_simp
              try with_reducible rfl
            simp only [Act.put, List.setIfInBounds_toArray, List.set_cons_zero, List.set_cons_succ]
            refine hs_done (by kernel_rfl) ?_
            have hBe := hB5.trans (hS.mono hB5.size)
            go_wp2
            go_roundw
            case rel => exact ⟨k + 1, by omega, by go_num, HT', hBe⟩
            case measure => simp [intOf]; omega
      · have k1 : ¬ (k : Int) < xs.length := by omega
        have HE : Hid (sb = true) := hide (by
          rw [← hsb.out]
          exact sameL_all HL.out (fun j hj => HM.out j (by omega)))
        clear HM hsb
        go_wp2
        go_ret
        exact ⟨by rw [HE.out]; rfl, hB⟩
end Go.Proofs.YtgjalkbianpibaaGreat
