/- the document's tape: Fail, Sync, Clear, Append -/
import Derived.Test.YtfkchnjbbbhmjaaR3
namespace Go.Proofs.Ytfkchnjbbbhmjaa
open Go.RowKit
set_option maxRecDepth 100000 in
set_option maxHeartbeats 2000000 in
theorem rfail_any (t : Rv) (M : Mt) (keep : Int) (w : World) (h : RefAt w t M) :
    Calls Try.prog 38 #[rptr t, .int .i64 keep] w fun e w' => e = .returned (.int .i64 (M.fail keep).1) ∧ RTurned w w' t (M.fail keep).2 := by
  have c2 := rgone_any t M keep w h
  have q5 := h.cell 5 rfl
  unfold Mt.fail
  unfold rptr at *
  by_cases hon : M.on = true
  · rw [if_pos hon]
    rw [hon] at q5
    generalize M.lose keep = M2 at *
    clear h hon
    go_enter Try.func38, Try.ntmps38
    go_wp2_with fail
    refine c2.mono ?_
    rintro e w' ⟨rfl, hw⟩
    clear c2
    go_wp2_with fail
    go_ret
    exact ⟨rfl, hw⟩
  · rw [if_neg hon]
    have hon : M.on = false := by simpa using hon
    rw [hon] at q5
    have HT : Hid (RTurned w w t M) := hide (RTurned.same h (Below.refl _ _))
    clear h hon c2
    go_enter Try.func38, Try.ntmps38
    go_wp2_with fail
    go_ret
    exact ⟨rfl, HT.out⟩
/-- may an operation be done? -/
def Mt.may (M : Mt) : Int × Mt := if M.pl = true ∧ M.af = 0 then (150, M.lose M.ke) else (0, M.count)
set_option maxRecDepth 100000 in
set_option maxHeartbeats 2000000 in
theorem rmay_any (t : Rv) (M : Mt) (w : World) (h : RefAt w t M) :
    Calls Try.prog 69 #[rptr t] w fun e w' => e = .returned (.int .i64 M.may.1) ∧ RTurned w w' t M.may.2 := by
  have q6 := h.cell 6 rfl
  have q7 := h.cell 7 rfl
  have q8 := h.cell 8 rfl
  have q9 := h.cell 9 rfl
  have f7 := h.fz 7 (by omega)
  have f9 := h.fz 9 (by omega)
  unfold Mt.may
  unfold rptr at *
  by_cases hpl : M.pl = true
  · rw [hpl] at q6
    rw [(h.px hpl).1] at q7
    rw [(h.px hpl).2] at q8
    by_cases haf : M.af = 0
    · rw [if_pos ⟨hpl, haf⟩]
      have c2 := rgone_any t M M.ke w h
      rw [haf] at q7
      unfold rptr at c2
      generalize M.lose M.ke = M2 at *
      obtain ⟨ke, hke⟩ : ∃ ke, Hid (M.ke = ke) := ⟨_, hide rfl⟩
      rw [hke.out] at c2 q8
      clear h hke haf hpl
      go_enter Try.func69, Try.ntmps69
      go_wp2_with fail
      refine c2.mono ?_
      rintro e w' ⟨rfl, hw⟩
      clear c2
      go_wp2_with fail
      go_ret
      exact ⟨rfl, hw⟩
    · rw [if_neg (fun q => haf q.2)]
      have hab := h.ok.pa hpl
      have hcn := h.ok.count (fun q => haf q.2)
      have hca : M.count.af = M.af - 1 := by simp only [Mt.count, hpl, if_true]
      have HX : Hid (RTurned w ((w.setCell ⟨t.r, 7, none⟩ (.int .i64 (M.af - 1))).setCell ⟨t.r, 9, none⟩ (.int .i64 (wrap64 (M.ops + 1)))) t M.count) := hide
        (RTurned.of_cells (t := t) (t' := { t with x := M.af - 1 }) (Below.refl _ _) (((CellsR.start h).set 7 _).set 9 _) rfl h.ra h.rb (fun x hx => .inl (.inr (.inl ⟨x, hx, rfl⟩))) (fun x hx => .inl (.inr (.inr ⟨x, hx, rfl⟩))) (fun _ => ⟨hca.symm, (h.px hpl).2⟩) hcn)
      obtain ⟨z, hz⟩ : ∃ z, Hid (M.af = z) := ⟨_, hide rfl⟩
      rw [hz.out] at q7 HX haf hab
      have hz0 : (z == 0) = false := by simpa using haf
      have hz1 : 0 < z := by omega
      have hz2 : z ≤ 9223372036854775807 := hab.2
      clear h hz hpl hab haf hcn hca
      go_enter Try.func69, Try.ntmps69
      go_wp2_with fail
      go_ret
      exact ⟨rfl, HX.out⟩
  · rw [if_neg (fun q => hpl q.1)]
    have hpl : M.pl = false := by simpa using hpl
    rw [hpl] at q6
    have hcn := h.ok.count (fun q => by rw [hpl] at q; cases q.1)
    have HX : Hid (RTurned w (w.setCell ⟨t.r, 9, none⟩ (.int .i64 (wrap64 (M.ops + 1)))) t M.count) := hide
      (RTurned.of_cells (t := t) (t' := t) (Below.refl _ _) ((CellsR.start h).set 9 _) rfl h.ra h.rb (fun x hx => .inl (.inr (.inl ⟨x, hx, rfl⟩))) (fun x hx => .inl (.inr (.inr ⟨x, hx, rfl⟩))) (fun q => by rw [show M.count.pl = M.pl from rfl, hpl] at q; cases q) hcn)
    clear h hpl hcn
    go_enter Try.func69, Try.ntmps69
    go_wp2_with fail
    go_ret
    exact ⟨rfl, HX.out⟩
theorem does_may (M : Mt) (k : Int) (f : Bool → Mt → Mt) (h : M.fault k = 0) : M.does k f = if M.may.1 = 0 then (0, f (decide (k = 1)) M.may.2) else M.may := by
  unfold Mt.does Mt.may
  rw [if_pos h]
  by_cases q : M.pl = true ∧ M.af = 0
  · rw [if_pos q, if_pos q, if_neg (by show ¬ ((150 : Int) = 0); omega)]
  · rw [if_neg q, if_neg q, if_pos rfl]
theorem may_ok {M : Mt} (h : M.ok) : M.may.2.ok := by
  unfold Mt.may
  split
  · exact h.lose _
  · rename_i hn; exact h.count hn
theorem may_or (M : Mt) : M.may.1 = 0 ∨ M.may.1 = 150 := by
  unfold Mt.may
  split
  · exact .inr rfl
  · exact .inl rfl
theorem may_same {M : Mt} (h : M.may.1 = 0) : M.may.2 = M.count := by
  unfold Mt.may at *
  split
  · rename_i q; rw [if_pos q] at h; cases h
  · rfl
set_option maxRecDepth 100000 in
set_option maxHeartbeats 2000000 in
theorem rSync_no (t : Rv) (M : Mt) (area : Int) (w : World) (h : RefAt w t M) (hfa : M.fault area ≠ 0) :
    Calls Try.prog 35 #[rptr t, .int .i64 area] w fun e w' => e = .returned (.int .i64 (M.sync area).1) ∧ RTurned w w' t (M.sync area).2 := by
  have c1 := rfault_any t M area w h
  have hd : M.sync area = (M.fault area, M) := by
    unfold Mt.sync Mt.does
    rw [if_neg hfa]
  rw [hd]
  have HT : Hid (RTurned w w t M) := hide (RTurned.same h (Below.refl _ _))
  obtain ⟨z, hz⟩ : ∃ z, Hid (M.fault area = z) := ⟨_, hide rfl⟩
  rw [hz.out] at c1 hfa ⊢
  have hz0 : (z == 0) = false := by simpa using hfa
  unfold rptr at *
  clear h hz hfa hd
  go_enter Try.func35, Try.ntmps35
  go_wp2_with fail
  refine c1.mono ?_
  rintro e w' ⟨rfl, hw⟩
  obtain rfl := hw.symm
  clear c1 hw
  go_wp2_with fail
  go_ret
  exact ⟨rfl, HT.out⟩
set_option maxRecDepth 100000 in
set_option maxHeartbeats 2000000 in
theorem rClear_no (t : Rv) (M : Mt) (area : Int) (w : World) (h : RefAt w t M) (hfa : M.fault area ≠ 0) :
    Calls Try.prog 36 #[rptr t, .int .i64 area] w fun e w' => e = .returned (.int .i64 (M.empty area).1) ∧ RTurned w w' t (M.empty area).2 := by
  have c1 := rfault_any t M area w h
  have hd : M.empty area = (M.fault area, M) := by
    unfold Mt.empty Mt.does
    rw [if_neg hfa]
  rw [hd]
  have HT : Hid (RTurned w w t M) := hide (RTurned.same h (Below.refl _ _))
  obtain ⟨z, hz⟩ : ∃ z, Hid (M.fault area = z) := ⟨_, hide rfl⟩
  rw [hz.out] at c1 hfa ⊢
  have hz0 : (z == 0) = false := by simpa using hfa
  unfold rptr at *
  clear h hz hfa hd
  go_enter Try.func36, Try.ntmps36
  go_wp2_with fail
  refine c1.mono ?_
  rintro e w' ⟨rfl, hw⟩
  obtain rfl := hw.symm
  clear c1 hw
  go_wp2_with fail
  go_ret
  exact ⟨rfl, HT.out⟩
set_option maxRecDepth 100000 in
set_option maxHeartbeats 2000000 in
theorem rAppend_no (t : Rv) (M : Mt) (area : Int) (a : Option Addr) (cap : Nat) (zs : List Int) (w : World) (h : RefAt w t M) (hfa : M.fault area ≠ 0) :
    Calls Try.prog 34 #[rptr t, .int .i64 area, .slice a zs.length cap] w fun e w' => e = .returned (.int .i64 (M.append area zs).1) ∧ RTurned w w' t (M.append area zs).2 := by
  have c1 := rfault_any t M area w h
  have hd : M.append area zs = (M.fault area, M) := by
    unfold Mt.append
    rw [if_neg hfa]
  rw [hd]
  have HT : Hid (RTurned w w t M) := hide (RTurned.same h (Below.refl _ _))
  obtain ⟨z, hz⟩ : ∃ z, Hid (M.fault area = z) := ⟨_, hide rfl⟩
  rw [hz.out] at c1 hfa ⊢
  have hz0 : (z == 0) = false := by simpa using hfa
  unfold rptr at *
  clear h hz hfa hd
  go_enter Try.func34, Try.ntmps34
  go_wp2_with fail
  refine c1.mono ?_
  rintro e w' ⟨rfl, hw⟩
  obtain rfl := hw.symm
  clear c1 hw
  go_wp2_with fail
  go_ret
  exact ⟨rfl, HT.out⟩
set_option maxRecDepth 100000 in
set_option maxHeartbeats 4000000 in
theorem rSync_0 (t : Rv) (M : Mt) (w : World) (h : RefAt w t M) (hon : M.on = true) :
    Calls Try.prog 35 #[rptr t, .int .i64 0] w fun e w' => e = .returned (.int .i64 (M.sync 0).1) ∧ RTurned w w' t (M.sync 0).2 := by
  have hfa : M.fault 0 = 0 := fault_on hon (by omega)
  have c1 := rfault_any t M 0 w h
  rw [hfa] at c1
  have hd := does_may M 0 Mt.settle hfa
  have hmo := may_or M
  have hms := fun q => may_same (M := M) q
  unfold Mt.sync
  rw [hd, show decide ((0 : Int) = 1) = false from rfl]
  clear hfa hd
  have c2 := fun w0 (hb : Below w.heap.size w w0) => rmay_any t M w0 (h.below hb)
  obtain ⟨me, hme⟩ : ∃ me, M.may = me := ⟨_, rfl⟩
  obtain ⟨mE, mM⟩ := me
  simp only [hme] at c2 hmo hms ⊢
  unfold rptr at *
  rcases hmo with rfl | rfl
  · rw [if_pos rfl]
    obtain rfl := hms rfl
    clear hme hms
    go_enter Try.func35, Try.ntmps35
    go_wp2_with fail
    refine c1.mono ?_
    rintro e w' ⟨rfl, hw⟩
    obtain rfl := hw.symm
    clear c1 hw
    go_wp2_with fail
    refine (c2 w (Below.refl _ _)).mono ?_
    rintro e w' ⟨rfl, ⟨r1, aa1, ca1, ab1, cb1, x1, y1⟩, p1, h1, o1, n1⟩
    obtain rfl : r1 = t.r := p1
    clear c2
    have HX : Hid (∀ W1, Below w'.heap.size w' W1 → RTurned w (W1.setCell ⟨t.r, 3, none⟩ (.int .i64 (M.count.a.length : Int))) t (M.count.settle false)) := hide (fun W1 hb =>
      RTurned.trans (t1 := ⟨t.r, aa1, ca1, ab1, cb1, x1, y1⟩) rfl o1 n1 (RTurned.of_cells (t := ⟨t.r, aa1, ca1, ab1, cb1, x1, y1⟩) (t' := ⟨t.r, aa1, ca1, ab1, cb1, x1, y1⟩) hb ((CellsR.start (h1.below hb)).set 3 _) rfl (h1.below hb).ra (h1.below hb).rb (fun x hx => .inl (.inr (.inl ⟨x, hx, rfl⟩))) (fun x hx => .inl (.inr (.inr ⟨x, hx, rfl⟩))) h1.px (h1.ok.settle false)))
    go_wp2_with fail
    obtain ⟨wX, hwX⟩ : ∃ wX, w'.drew = wX := ⟨_, rfl⟩
    have hBX : Below w'.heap.size w' wX := by rw [← hwX]; exact (Below.refl _ _).drew
    have hxX : wX.cell? ⟨t.r, 1, none⟩ = some (.slice aa1 M.count.a.length ca1) := (h1.below hBX).cell 1 rfl
    have hthX : wX.there t.r 0 11 := (h1.below hBX).th
    have hlX : M.count.a.length ≤ 1073741824 := by have := h1.ok.rm; have := h1.ok.rl; omega
    refine hs_begin (S := (fun w' : World => w'.cell? ⟨t.r, 1, none⟩ = some (.slice aa1 M.count.a.length ca1))) 13 rfl (by kernel_rfl) ?_
    rw [hwX]
    clear hwX
    have hS : (fun w' : World => w'.cell? ⟨t.r, 1, none⟩ = some (.slice aa1 M.count.a.length ca1)) wX := hxX
    refine hs_take (i := 0) (d := some 17) (v := ?_) rfl (by kernel_rfl) (by kernel_rfl) (by kernel_rfl) (by rfl) ?_ hS rfl ?_
    rotate_left
    · intro w' hw
      go_simp
      try with_reducible rfl
    simp only [Act.put, List.setIfInBounds_toArray, List.set_cons_zero, List.set_cons_succ]
    refine hs_take (i := 1) (d := some 18) (v := ?_) rfl (by kernel_rfl) (by kernel_rfl) (by kernel_rfl) (by rfl) ?_ hS rfl ?_
    rotate_left
    · intro w' hw
      go_simp
      try with_reducible rfl
    simp only [Act.put, List.setIfInBounds_toArray, List.set_cons_zero, List.set_cons_succ]
    refine hs_take (i := 2) (d := some 19) (v := ?_) rfl (by kernel_rfl) (by kernel_rfl) (by kernel_rfl) (by rfl) ?_ hS rfl ?_
    rotate_left
    · intro w' hw
      go_simp
      try with_reducible rfl
    simp only [Act.put, List.setIfInBounds_toArray, List.set_cons_zero, List.set_cons_succ]
    refine hs_take (i := 3) (d := some 20) (v := ?_) rfl (by kernel_rfl) (by kernel_rfl) (by kernel_rfl) (by rfl) ?_ hS rfl ?_
    rotate_left
    · intro w' hw
      go_simp
      try with_reducible rfl
    simp only [Act.put, List.setIfInBounds_toArray, List.set_cons_zero, List.set_cons_succ]
    refine hs_take (i := 4) (d := some 21) (v := ?_) rfl (by kernel_rfl) (by kernel_rfl) (by kernel_rfl) (by rfl) ?_ hS rfl ?_
    rotate_left
    · intro w' hw
      go_simp
      try with_reducible rfl
    simp only [Act.put, List.setIfInBounds_toArray, List.set_cons_zero, List.set_cons_succ]
    refine hs_take (i := 5) (d := some 22) (v := ?_) rfl (by kernel_rfl) (by kernel_rfl) (by kernel_rfl) (by rfl) ?_ hS rfl ?_
    rotate_left
    · intro w' hw
      go_simp
      try with_reducible rfl
    simp only [Act.put, List.setIfInBounds_toArray, List.set_cons_zero, List.set_cons_succ]
    refine hs_take (i := 6) (d := some 23) (v := ?_) rfl (by kernel_rfl) (by kernel_rfl) (by kernel_rfl) (by rfl) ?_ hS rfl ?_
    rotate_left
    · intro w' hw
      go_simp
      try with_reducible rfl
    simp only [Act.put, List.setIfInBounds_toArray, List.set_cons_zero, List.set_cons_succ]
    refine hs_take (i := 7) (d := some 24) (v := ?_) rfl (by kernel_rfl) (by kernel_rfl) (by kernel_rfl) (by rfl) ?_ hS rfl ?_
    rotate_left
    · intro w' hw
      have hc : w'.cell? ⟨t.r, 1, none⟩ = some (.slice aa1 M.count.a.length ca1) := hw
      go_simp
      try with_reducible rfl
    simp only [Act.put, List.setIfInBounds_toArray, List.set_cons_zero, List.set_cons_succ]
    refine hs_take (i := 8) (d := some 25) (v := ?_) rfl (by kernel_rfl) (by kernel_rfl) (by kernel_rfl) (by rfl) ?_ hS rfl ?_
    rotate_left
    · intro w' hw
      go_simp
      try with_reducible rfl
    simp only [Act.put, List.setIfInBounds_toArray, List.set_cons_zero, List.set_cons_succ]
    refine hs_take (i := 9) (d := some 26) (v := ?_) rfl (by kernel_rfl) (by kernel_rfl) (by kernel_rfl) (by rfl) ?_ hS rfl ?_
    rotate_left
    · intro w' hw
      go_simp
      try with_reducible rfl
    simp only [Act.put, List.setIfInBounds_toArray, List.set_cons_zero, List.set_cons_succ]
    refine hs_take (i := 10) (d := some 27) (v := ?_) rfl (by kernel_rfl) (by kernel_rfl) (by kernel_rfl) (by rfl) ?_ hS rfl ?_
    rotate_left
    · intro w' hw
      go_simp
      try with_reducible rfl
    simp only [Act.put, List.setIfInBounds_toArray, List.set_cons_zero, List.set_cons_succ]
    refine hs_take (i := 11) (d := some 28) (v := ?_) rfl (by kernel_rfl) (by kernel_rfl) (by kernel_rfl) (by rfl) ?_ hS rfl ?_
    rotate_left
    · intro w' hw
      go_simp
      try with_reducible rfl
    simp only [Act.put, List.setIfInBounds_toArray, List.set_cons_zero, List.set_cons_succ]
    have hst := run_store1 (P := Try.prog) wX t.r 3 3 (.int .i64 (M.count.a.length : Int)) (by have := there_part hthX 3 1 (by omega); rwa [Nat.zero_add] at this) iszI rfl
    refine hs_store (i := 12) rfl (by kernel_rfl) (by rfl) (exec_storeP rfl rfl rfl hst) rfl (set_there hS (by omega)) ?_
    refine hs_done (by kernel_rfl) ?_
    have HF := hide (HX.out wX hBX)
    clear HX hS hst h1 o1 n1 h
    go_wp2_with fail
    go_ret
    exact ⟨rfl, HF.out⟩
  · rw [if_neg (by omega)]
    clear hme hms
    go_enter Try.func35, Try.ntmps35
    go_wp2_with fail
    refine c1.mono ?_
    rintro e w' ⟨rfl, hw⟩
    obtain rfl := hw.symm
    clear c1 hw
    go_wp2_with fail
    refine (c2 w (Below.refl _ _)).mono ?_
    rintro e w' ⟨rfl, hw⟩
    clear c2
    go_wp2_with fail
    go_ret
    exact ⟨rfl, hw⟩
set_option maxRecDepth 100000 in
set_option maxHeartbeats 4000000 in
theorem rSync_1 (t : Rv) (M : Mt) (w : World) (h : RefAt w t M) (hon : M.on = true) :
    Calls Try.prog 35 #[rptr t, .int .i64 1] w fun e w' => e = .returned (.int .i64 (M.sync 1).1) ∧ RTurned w w' t (M.sync 1).2 := by
  have hfa : M.fault 1 = 0 := fault_on hon (by omega)
  have c1 := rfault_any t M 1 w h
  rw [hfa] at c1
  have hd := does_may M 1 Mt.settle hfa
  have hmo := may_or M
  have hms := fun q => may_same (M := M) q
  unfold Mt.sync
  rw [hd, show decide ((1 : Int) = 1) = true from rfl]
  clear hfa hd
  have c2 := fun w0 (hb : Below w.heap.size w w0) => rmay_any t M w0 (h.below hb)
  obtain ⟨me, hme⟩ : ∃ me, M.may = me := ⟨_, rfl⟩
  obtain ⟨mE, mM⟩ := me
  simp only [hme] at c2 hmo hms ⊢
  unfold rptr at *
  rcases hmo with rfl | rfl
  · rw [if_pos rfl]
    obtain rfl := hms rfl
    clear hme hms
    go_enter Try.func35, Try.ntmps35
    go_wp2_with fail
    refine c1.mono ?_
    rintro e w' ⟨rfl, hw⟩
    obtain rfl := hw.symm
    clear c1 hw
    go_wp2_with fail
    refine (c2 w (Below.refl _ _)).mono ?_
    rintro e w' ⟨rfl, ⟨r1, aa1, ca1, ab1, cb1, x1, y1⟩, p1, h1, o1, n1⟩
    obtain rfl : r1 = t.r := p1
    clear c2
    have HX : Hid (∀ W1, Below w'.heap.size w' W1 → RTurned w (W1.setCell ⟨t.r, 4, none⟩ (.int .i64 (M.count.b.length : Int))) t (M.count.settle true)) := hide (fun W1 hb =>
      RTurned.trans (t1 := ⟨t.r, aa1, ca1, ab1, cb1, x1, y1⟩) rfl o1 n1 (RTurned.of_cells (t := ⟨t.r, aa1, ca1, ab1, cb1, x1, y1⟩) (t' := ⟨t.r, aa1, ca1, ab1, cb1, x1, y1⟩) hb ((CellsR.start (h1.below hb)).set 4 _) rfl (h1.below hb).ra (h1.below hb).rb (fun x hx => .inl (.inr (.inl ⟨x, hx, rfl⟩))) (fun x hx => .inl (.inr (.inr ⟨x, hx, rfl⟩))) h1.px (h1.ok.settle true)))
    go_wp2_with fail
    obtain ⟨wX, hwX⟩ : ∃ wX, w'.drew = wX := ⟨_, rfl⟩
    have hBX : Below w'.heap.size w' wX := by rw [← hwX]; exact (Below.refl _ _).drew
    have hxX : wX.cell? ⟨t.r, 2, none⟩ = some (.slice ab1 M.count.b.length cb1) := (h1.below hBX).cell 2 rfl
    have hthX : wX.there t.r 0 11 := (h1.below hBX).th
    have hlX : M.count.b.length ≤ 1073741824 := by have := h1.ok.rm; have := h1.ok.rl; omega
    refine hs_begin (S := (fun w' : World => w'.cell? ⟨t.r, 2, none⟩ = some (.slice ab1 M.count.b.length cb1))) 13 rfl (by kernel_rfl) ?_
    rw [hwX]
    clear hwX
    have hS : (fun w' : World => w'.cell? ⟨t.r, 2, none⟩ = some (.slice ab1 M.count.b.length cb1)) wX := hxX
    refine hs_take (i := 0) (d := some 17) (v := ?_) rfl (by kernel_rfl) (by kernel_rfl) (by kernel_rfl) (by rfl) ?_ hS rfl ?_
    rotate_left
    · intro w' hw
      go_simp
      try with_reducible rfl
    simp only [Act.put, List.setIfInBounds_toArray, List.set_cons_zero, List.set_cons_succ]
    refine hs_take (i := 1) (d := some 18) (v := ?_) rfl (by kernel_rfl) (by kernel_rfl) (by kernel_rfl) (by rfl) ?_ hS rfl ?_
    rotate_left
    · intro w' hw
      go_simp
      try with_reducible rfl
    simp only [Act.put, List.setIfInBounds_toArray, List.set_cons_zero, List.set_cons_succ]
    refine hs_take (i := 2) (d := some 19) (v := ?_) rfl (by kernel_rfl) (by kernel_rfl) (by kernel_rfl) (by rfl) ?_ hS rfl ?_
    rotate_left
    · intro w' hw
      go_simp
      try with_reducible rfl
    simp only [Act.put, List.setIfInBounds_toArray, List.set_cons_zero, List.set_cons_succ]
    refine hs_take (i := 3) (d := some 20) (v := ?_) rfl (by kernel_rfl) (by kernel_rfl) (by kernel_rfl) (by rfl) ?_ hS rfl ?_
    rotate_left
    · intro w' hw
      go_simp
      try with_reducible rfl
    simp only [Act.put, List.setIfInBounds_toArray, List.set_cons_zero, List.set_cons_succ]
    refine hs_take (i := 4) (d := some 21) (v := ?_) rfl (by kernel_rfl) (by kernel_rfl) (by kernel_rfl) (by rfl) ?_ hS rfl ?_
    rotate_left
    · intro w' hw
      go_simp
      try with_reducible rfl
    simp only [Act.put, List.setIfInBounds_toArray, List.set_cons_zero, List.set_cons_succ]
    refine hs_take (i := 5) (d := some 22) (v := ?_) rfl (by kernel_rfl) (by kernel_rfl) (by kernel_rfl) (by rfl) ?_ hS rfl ?_
    rotate_left
    · intro w' hw
      go_simp
      try with_reducible rfl
    simp only [Act.put, List.setIfInBounds_toArray, List.set_cons_zero, List.set_cons_succ]
    refine hs_take (i := 6) (d := some 23) (v := ?_) rfl (by kernel_rfl) (by kernel_rfl) (by kernel_rfl) (by rfl) ?_ hS rfl ?_
    rotate_left
    · intro w' hw
      go_simp
      try with_reducible rfl
    simp only [Act.put, List.setIfInBounds_toArray, List.set_cons_zero, List.set_cons_succ]
    refine hs_take (i := 7) (d := some 24) (v := ?_) rfl (by kernel_rfl) (by kernel_rfl) (by kernel_rfl) (by rfl) ?_ hS rfl ?_
    rotate_left
    · intro w' hw
      have hc : w'.cell? ⟨t.r, 2, none⟩ = some (.slice ab1 M.count.b.length cb1) := hw
      go_simp
      try with_reducible rfl
    simp only [Act.put, List.setIfInBounds_toArray, List.set_cons_zero, List.set_cons_succ]
    refine hs_take (i := 8) (d := some 25) (v := ?_) rfl (by kernel_rfl) (by kernel_rfl) (by kernel_rfl) (by rfl) ?_ hS rfl ?_
    rotate_left
    · intro w' hw
      go_simp
      try with_reducible rfl
    simp only [Act.put, List.setIfInBounds_toArray, List.set_cons_zero, List.set_cons_succ]
    refine hs_take (i := 9) (d := some 26) (v := ?_) rfl (by kernel_rfl) (by kernel_rfl) (by kernel_rfl) (by rfl) ?_ hS rfl ?_
    rotate_left
    · intro w' hw
      go_simp
      try with_reducible rfl
    simp only [Act.put, List.setIfInBounds_toArray, List.set_cons_zero, List.set_cons_succ]
    refine hs_take (i := 10) (d := some 27) (v := ?_) rfl (by kernel_rfl) (by kernel_rfl) (by kernel_rfl) (by rfl) ?_ hS rfl ?_
    rotate_left
    · intro w' hw
      go_simp
      try with_reducible rfl
    simp only [Act.put, List.setIfInBounds_toArray, List.set_cons_zero, List.set_cons_succ]
    refine hs_take (i := 11) (d := some 28) (v := ?_) rfl (by kernel_rfl) (by kernel_rfl) (by kernel_rfl) (by rfl) ?_ hS rfl ?_
    rotate_left
    · intro w' hw
      go_simp
      try with_reducible rfl
    simp only [Act.put, List.setIfInBounds_toArray, List.set_cons_zero, List.set_cons_succ]
    have hst := run_store1 (P := Try.prog) wX t.r 4 3 (.int .i64 (M.count.b.length : Int)) (by have := there_part hthX 4 1 (by omega); rwa [Nat.zero_add] at this) iszI rfl
    refine hs_store (i := 12) rfl (by kernel_rfl) (by rfl) (exec_storeP rfl rfl rfl hst) rfl (set_there hS (by omega)) ?_
    refine hs_done (by kernel_rfl) ?_
    have HF := hide (HX.out wX hBX)
    clear HX hS hst h1 o1 n1 h
    go_wp2_with fail
    go_ret
    exact ⟨rfl, HF.out⟩
  · rw [if_neg (by omega)]
    clear hme hms
    go_enter Try.func35, Try.ntmps35
    go_wp2_with fail
    refine c1.mono ?_
    rintro e w' ⟨rfl, hw⟩
    obtain rfl := hw.symm
    clear c1 hw
    go_wp2_with fail
    refine (c2 w (Below.refl _ _)).mono ?_
    rintro e w' ⟨rfl, hw⟩
    clear c2
    go_wp2_with fail
    go_ret
    exact ⟨rfl, hw⟩
set_option maxRecDepth 100000 in
set_option maxHeartbeats 4000000 in
theorem rClear_0 (t : Rv) (M : Mt) (w : World) (h : RefAt w t M) (hon : M.on = true) :
    Calls Try.prog 36 #[rptr t, .int .i64 0] w fun e w' => e = .returned (.int .i64 (M.empty 0).1) ∧ RTurned w w' t (M.empty 0).2 := by
  have hfa : M.fault 0 = 0 := fault_on hon (by omega)
  have c1 := rfault_any t M 0 w h
  rw [hfa] at c1
  have hd := does_may M 0 Mt.clear hfa
  have hmo := may_or M
  have hms := fun q => may_same (M := M) q
  unfold Mt.empty
  rw [hd, show decide ((0 : Int) = 1) = false from rfl]
  clear hfa hd
  have c2 := fun w0 (hb : Below w.heap.size w w0) => rmay_any t M w0 (h.below hb)
  obtain ⟨me, hme⟩ : ∃ me, M.may = me := ⟨_, rfl⟩
  obtain ⟨mE, mM⟩ := me
  simp only [hme] at c2 hmo hms ⊢
  unfold rptr at *
  rcases hmo with rfl | rfl
  · rw [if_pos rfl]
    obtain rfl := hms rfl
    clear hme hms
    go_enter Try.func36, Try.ntmps36
    go_wp2_with fail
    refine c1.mono ?_
    rintro e w' ⟨rfl, hw⟩
    obtain rfl := hw.symm
    clear c1 hw
    go_wp2_with fail
    refine (c2 w (Below.refl _ _)).mono ?_
    rintro e w' ⟨rfl, ⟨r1, aa1, ca1, ab1, cb1, x1, y1⟩, p1, h1, o1, n1⟩
    obtain rfl : r1 = t.r := p1
    clear c2
    have q1 : w'.cell? ⟨t.r, 1, none⟩ = some (.slice aa1 M.count.a.length ca1) := h1.cell 1 rfl
    have q3 : w'.cell? ⟨t.r, 3, none⟩ = some (.int .i64 (M.count.sa : Int)) := h1.cell 3 rfl
    have f1 : w'.frozen? ⟨t.r, 1, none⟩ = false := h1.fz 1 (by omega)
    have f3 : w'.frozen? ⟨t.r, 3, none⟩ = false := h1.fz 3 (by omega)
    have HF : Hid (RTurned w ((w'.setCell ⟨t.r, 1, none⟩ (.slice none 0 0)).setCell ⟨t.r, 3, none⟩ (.int .i64 0)) t (M.count.clear false)) := hide
      (RTurned.trans (t1 := ⟨t.r, aa1, ca1, ab1, cb1, x1, y1⟩) rfl o1 n1 (RTurned.of_cells (t := ⟨t.r, aa1, ca1, ab1, cb1, x1, y1⟩) (t' := ⟨t.r, none, 0, ab1, cb1, x1, y1⟩) (Below.refl _ _) (((CellsR.start h1).set 1 _).set 3 _) rfl RowN.none h1.rb (fun x hx => by cases hx) (fun x hx => .inl (.inr (.inr ⟨x, hx, rfl⟩))) h1.px (h1.ok.clear false)))
    clear h1 o1 n1 h
    go_wp2_with fail
    go_ret
    exact ⟨rfl, HF.out⟩
  · rw [if_neg (by omega)]
    clear hme hms
    go_enter Try.func36, Try.ntmps36
    go_wp2_with fail
    refine c1.mono ?_
    rintro e w' ⟨rfl, hw⟩
    obtain rfl := hw.symm
    clear c1 hw
    go_wp2_with fail
    refine (c2 w (Below.refl _ _)).mono ?_
    rintro e w' ⟨rfl, hw⟩
    clear c2
    go_wp2_with fail
    go_ret
    exact ⟨rfl, hw⟩
set_option maxRecDepth 100000 in
set_option maxHeartbeats 4000000 in
theorem rClear_1 (t : Rv) (M : Mt) (w : World) (h : RefAt w t M) (hon : M.on = true) :
    Calls Try.prog 36 #[rptr t, .int .i64 1] w fun e w' => e = .returned (.int .i64 (M.empty 1).1) ∧ RTurned w w' t (M.empty 1).2 := by
  have hfa : M.fault 1 = 0 := fault_on hon (by omega)
  have c1 := rfault_any t M 1 w h
  rw [hfa] at c1
  have hd := does_may M 1 Mt.clear hfa
  have hmo := may_or M
  have hms := fun q => may_same (M := M) q
  unfold Mt.empty
  rw [hd, show decide ((1 : Int) = 1) = true from rfl]
  clear hfa hd
  have c2 := fun w0 (hb : Below w.heap.size w w0) => rmay_any t M w0 (h.below hb)
  obtain ⟨me, hme⟩ : ∃ me, M.may = me := ⟨_, rfl⟩
  obtain ⟨mE, mM⟩ := me
  simp only [hme] at c2 hmo hms ⊢
  unfold rptr at *
  rcases hmo with rfl | rfl
  · rw [if_pos rfl]
    obtain rfl := hms rfl
    clear hme hms
    go_enter Try.func36, Try.ntmps36
    go_wp2_with fail
    refine c1.mono ?_
    rintro e w' ⟨rfl, hw⟩
    obtain rfl := hw.symm
    clear c1 hw
    go_wp2_with fail
    refine (c2 w (Below.refl _ _)).mono ?_
    rintro e w' ⟨rfl, ⟨r1, aa1, ca1, ab1, cb1, x1, y1⟩, p1, h1, o1, n1⟩
    obtain rfl : r1 = t.r := p1
    clear c2
    have q1 : w'.cell? ⟨t.r, 2, none⟩ = some (.slice ab1 M.count.b.length cb1) := h1.cell 2 rfl
    have q3 : w'.cell? ⟨t.r, 4, none⟩ = some (.int .i64 (M.count.sb : Int)) := h1.cell 4 rfl
    have f1 : w'.frozen? ⟨t.r, 2, none⟩ = false := h1.fz 2 (by omega)
    have f3 : w'.frozen? ⟨t.r, 4, none⟩ = false := h1.fz 4 (by omega)
    have HF : Hid (RTurned w ((w'.setCell ⟨t.r, 2, none⟩ (.slice none 0 0)).setCell ⟨t.r, 4, none⟩ (.int .i64 0)) t (M.count.clear true)) := hide
      (RTurned.trans (t1 := ⟨t.r, aa1, ca1, ab1, cb1, x1, y1⟩) rfl o1 n1 (RTurned.of_cells (t := ⟨t.r, aa1, ca1, ab1, cb1, x1, y1⟩) (t' := ⟨t.r, aa1, ca1, none, 0, x1, y1⟩) (Below.refl _ _) (((CellsR.start h1).set 2 _).set 4 _) rfl h1.ra RowN.none (fun x hx => .inl (.inr (.inl ⟨x, hx, rfl⟩))) (fun x hx => by cases hx) h1.px (h1.ok.clear true)))
    clear h1 o1 n1 h
    go_wp2_with fail
    go_ret
    exact ⟨rfl, HF.out⟩
  · rw [if_neg (by omega)]
    clear hme hms
    go_enter Try.func36, Try.ntmps36
    go_wp2_with fail
    refine c1.mono ?_
    rintro e w' ⟨rfl, hw⟩
    obtain rfl := hw.symm
    clear c1 hw
    go_wp2_with fail
    refine (c2 w (Below.refl _ _)).mono ?_
    rintro e w' ⟨rfl, hw⟩
    clear c2
    go_wp2_with fail
    go_ret
    exact ⟨rfl, hw⟩
end Go.Proofs.Ytfkchnjbbbhmjaa
