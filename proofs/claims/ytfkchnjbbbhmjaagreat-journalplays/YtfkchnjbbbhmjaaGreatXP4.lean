/- the document's tape: Fail, Sync, Clear, Append; the document's tape: Append; an act done to both tapes; an Append done to both tapes; are both the same?; are both tapes the same? the walk of TapePlays; PLAIN MATHEMATICS OF THE CHECK SUM: bit steps on 24 bits, linear and one to one; four bits at once are the table's; byte steps; bursts. Imports nothing of the translation.; THE CLOSURE OF crc24.stepsFrom, BY ITS CONTRACT: a byte is one byte step of the sum in its box.; crc24.stepsFrom: the box and the table that its closure holds. -/
import Derived.Test.YtfkchnjbbbhmjaaGreatXP3
import Derived.Test.YtfkchnjbbbhmjaaGreatRows
import Derived.Test.YtfkchnjbbbhmjaaGreatChecked
import Derived.WalkKit
import Derived.WalkSpells
import Derived.RegionTactic
import Derived.ChangeAlike
import Derived.BigRegion
import Derived.Outline
namespace Go.Proofs.YtfkchnjbbbhmjaaGreat
open Go.RowKit
set_option maxRecDepth 100000 in
set_option maxHeartbeats 2000000 in
theorem rfail_any (t : Rv) (M : Mt) (keep : Int) (w : World) (h : RefAt w t M) :
    Calls Tryz.prog 28 #[rptr t, .int .i64 keep] w fun e w' => e = .returned (.int .i64 (M.fail keep).1) ∧ RTurned w w' t (M.fail keep).2 := by
  have c2 := rgone_any t M keep w h
  have q5 := h.cell 5 rfl
  unfold Mt.fail
  unfold rptr at *
  by_cases hon : M.on = true
  · rw [if_pos hon]
    rw [hon] at q5
    generalize M.lose keep = M2 at *
    clear h hon
    go_enter Tryz.func28, Tryz.ntmps28
    go_wp2_with fail
    refine c2.mono ?_
    rintro e w' ⟨rfl, hw⟩
    clear c2
    go_wp2_with fail
    go_ret
    exact ⟨rfl, hw⟩
  · rw [if_neg hon]
    have hon : M.on = false := by simpa using hon
    rw [hon] at q5
    have HT : Hid (RTurned w w t M) := hide (RTurned.same h (Below.refl _ _))
    clear h hon c2
    go_enter Tryz.func28, Tryz.ntmps28
    go_wp2_with fail
    go_ret
    exact ⟨rfl, HT.out⟩
/-- may an operation be done? -/
def Mt.may (M : Mt) : Int × Mt := if M.pl = true ∧ M.af = 0 then (150, M.lose M.ke) else (0, M.count)
set_option maxRecDepth 100000 in
set_option maxHeartbeats 2000000 in
theorem rmay_any (t : Rv) (M : Mt) (w : World) (h : RefAt w t M) :
    Calls Tryz.prog 59 #[rptr t] w fun e w' => e = .returned (.int .i64 M.may.1) ∧ RTurned w w' t M.may.2 := by
  have q6 := h.cell 6 rfl
  have q7 := h.cell 7 rfl
  have q8 := h.cell 8 rfl
  have q9 := h.cell 9 rfl
  have f7 := h.fz 7 (by omega)
  have f9 := h.fz 9 (by omega)
  unfold Mt.may
  unfold rptr at *
  by_cases hpl : M.pl = true
  · rw [hpl] at q6
    rw [(h.px hpl).1] at q7
    rw [(h.px hpl).2] at q8
    by_cases haf : M.af = 0
    · rw [if_pos ⟨hpl, haf⟩]
      have c2 := rgone_any t M M.ke w h
      rw [haf] at q7
      unfold rptr at c2
      generalize M.lose M.ke = M2 at *
      obtain ⟨ke, hke⟩ : ∃ ke, Hid (M.ke = ke) := ⟨_, hide rfl⟩
      rw [hke.out] at c2 q8
      clear h hke haf hpl
      go_enter Tryz.func59, Tryz.ntmps59
      go_wp2_with fail
      refine c2.mono ?_
      rintro e w' ⟨rfl, hw⟩
      clear c2
      go_wp2_with fail
      go_ret
      exact ⟨rfl, hw⟩
    · rw [if_neg (fun q => haf q.2)]
      have hab := h.ok.pa hpl
      have hcn := h.ok.count (fun q => haf q.2)
      have hca : M.count.af = M.af - 1 := by simp only [Mt.count, hpl, if_true]
      have HX : Hid (RTurned w ((w.setCell ⟨t.r, 7, none⟩ (.int .i64 (M.af - 1))).setCell ⟨t.r, 9, none⟩ (.int .i64 (wrap64 (M.ops + 1)))) t M.count) := hide
        (RTurned.of_cells (t := t) (t' := { t with x := M.af - 1 }) (Below.refl _ _) (((CellsR.start h).set 7 _).set 9 _) rfl h.ra h.rb (fun x hx => .inl (.inr (.inl ⟨x, hx, rfl⟩))) (fun x hx => .inl (.inr (.inr ⟨x, hx, rfl⟩))) (fun _ => ⟨hca.symm, (h.px hpl).2⟩) hcn)
      obtain ⟨z, hz⟩ : ∃ z, Hid (M.af = z) := ⟨_, hide rfl⟩
      rw [hz.out] at q7 HX haf hab
      have hz0 : (z == 0) = false := by simpa using haf
      have hz1 : 0 < z := by omega
      have hz2 : z ≤ 9223372036854775807 := hab.2
      clear h hz hpl hab haf hcn hca
      go_enter Tryz.func59, Tryz.ntmps59
      go_wp2_with fail
      go_ret
      exact ⟨rfl, HX.out⟩
  · rw [if_neg (fun q => hpl q.1)]
    have hpl : M.pl = false := by simpa using hpl
    rw [hpl] at q6
    have hcn := h.ok.count (fun q => by rw [hpl] at q; cases q.1)
    have HX : Hid (RTurned w (w.setCell ⟨t.r, 9, none⟩ (.int .i64 (wrap64 (M.ops + 1)))) t M.count) := hide
      (RTurned.of_cells (t := t) (t' := t) (Below.refl _ _) ((CellsR.start h).set 9 _) rfl h.ra h.rb (fun x hx => .inl (.inr (.inl ⟨x, hx, rfl⟩))) (fun x hx => .inl (.inr (.inr ⟨x, hx, rfl⟩))) (fun q => by rw [show M.count.pl = M.pl from rfl, hpl] at q; cases q) hcn)
    clear h hpl hcn
    go_enter Tryz.func59, Tryz.ntmps59
    go_wp2_with fail
    go_ret
    exact ⟨rfl, HX.out⟩
theorem does_may (M : Mt) (k : Int) (f : Bool → Mt → Mt) (h : M.fault k = 0) : M.does k f = if M.may.1 = 0 then (0, f (decide (k = 1)) M.may.2) else M.may := by
  unfold Mt.does Mt.may
  rw [if_pos h]
  by_cases q : M.pl = true ∧ M.af = 0
  · rw [if_pos q, if_pos q, if_neg (by show ¬ ((150 : Int) = 0); omega)]
  · rw [if_neg q, if_neg q, if_pos rfl]
theorem may_ok {M : Mt} (h : M.ok) : M.may.2.ok := by
  unfold Mt.may
  split
  · exact h.lose _
  · rename_i hn; exact h.count hn
theorem may_or (M : Mt) : M.may.1 = 0 ∨ M.may.1 = 150 := by
  unfold Mt.may
  split
  · exact .inr rfl
  · exact .inl rfl
theorem may_same {M : Mt} (h : M.may.1 = 0) : M.may.2 = M.count := by
  unfold Mt.may at *
  split
  · rename_i q; rw [if_pos q] at h; cases h
  · rfl
set_option maxRecDepth 100000 in
set_option maxHeartbeats 2000000 in
theorem rSync_no (t : Rv) (M : Mt) (area : Int) (w : World) (h : RefAt w t M) (hfa : M.fault area ≠ 0) :
    Calls Tryz.prog 63 #[rptr t, .int .i64 area] w fun e w' => e = .returned (.int .i64 (M.sync area).1) ∧ RTurned w w' t (M.sync area).2 := by
  have c1 := rfault_any t M area w h
  have hd : M.sync area = (M.fault area, M) := by
    unfold Mt.sync Mt.does
    rw [if_neg hfa]
  rw [hd]
  have HT : Hid (RTurned w w t M) := hide (RTurned.same h (Below.refl _ _))
  obtain ⟨z, hz⟩ : ∃ z, Hid (M.fault area = z) := ⟨_, hide rfl⟩
  rw [hz.out] at c1 hfa ⊢
  have hz0 : (z == 0) = false := by simpa using hfa
  unfold rptr at *
  clear h hz hfa hd
  go_enter Tryz.func63, Tryz.ntmps63
  go_wp2_with fail
  refine c1.mono ?_
  rintro e w' ⟨rfl, hw⟩
  obtain rfl := hw.symm
  clear c1 hw
  go_wp2_with fail
  go_ret
  exact ⟨rfl, HT.out⟩
set_option maxRecDepth 100000 in
set_option maxHeartbeats 2000000 in
theorem rClear_no (t : Rv) (M : Mt) (area : Int) (w : World) (h : RefAt w t M) (hfa : M.fault area ≠ 0) :
    Calls Tryz.prog 32 #[rptr t, .int .i64 area] w fun e w' => e = .returned (.int .i64 (M.empty area).1) ∧ RTurned w w' t (M.empty area).2 := by
  have c1 := rfault_any t M area w h
  have hd : M.empty area = (M.fault area, M) := by
    unfold Mt.empty Mt.does
    rw [if_neg hfa]
  rw [hd]
  have HT : Hid (RTurned w w t M) := hide (RTurned.same h (Below.refl _ _))
  obtain ⟨z, hz⟩ : ∃ z, Hid (M.fault area = z) := ⟨_, hide rfl⟩
  rw [hz.out] at c1 hfa ⊢
  have hz0 : (z == 0) = false := by simpa using hfa
  unfold rptr at *
  clear h hz hfa hd
  go_enter Tryz.func32, Tryz.ntmps32
  go_wp2_with fail
  refine c1.mono ?_
  rintro e w' ⟨rfl, hw⟩
  obtain rfl := hw.symm
  clear c1 hw
  go_wp2_with fail
  go_ret
  exact ⟨rfl, HT.out⟩
set_option maxRecDepth 100000 in
set_option maxHeartbeats 2000000 in
theorem rAppend_no (t : Rv) (M : Mt) (area : Int) (a : Option Addr) (cap : Nat) (zs : List Int) (w : World) (h : RefAt w t M) (hfa : M.fault area ≠ 0) :
    Calls Tryz.prog 30 #[rptr t, .int .i64 area, .slice a zs.length cap] w fun e w' => e = .returned (.int .i64 (M.append area zs).1) ∧ RTurned w w' t (M.append area zs).2 := by
  have c1 := rfault_any t M area w h
  have hd : M.append area zs = (M.fault area, M) := by
    unfold Mt.append
    rw [if_neg hfa]
  rw [hd]
  have HT : Hid (RTurned w w t M) := hide (RTurned.same h (Below.refl _ _))
  obtain ⟨z, hz⟩ : ∃ z, Hid (M.fault area = z) := ⟨_, hide rfl⟩
  rw [hz.out] at c1 hfa ⊢
  have hz0 : (z == 0) = false := by simpa using hfa
  unfold rptr at *
  clear h hz hfa hd
  go_enter Tryz.func30, Tryz.ntmps30
  go_wp2_with fail
  refine c1.mono ?_
  rintro e w' ⟨rfl, hw⟩
  obtain rfl := hw.symm
  clear c1 hw
  go_wp2_with fail
  go_ret
  exact ⟨rfl, HT.out⟩
set_option maxRecDepth 100000 in
set_option maxHeartbeats 4000000 in
theorem rSync_0 (t : Rv) (M : Mt) (w : World) (h : RefAt w t M) (hon : M.on = true) :
    Calls Tryz.prog 63 #[rptr t, .int .i64 0] w fun e w' => e = .returned (.int .i64 (M.sync 0).1) ∧ RTurned w w' t (M.sync 0).2 := by
  have hfa : M.fault 0 = 0 := fault_on hon (by omega)
  have c1 := rfault_any t M 0 w h
  rw [hfa] at c1
  have hd := does_may M 0 Mt.settle hfa
  have hmo := may_or M
  have hms := fun q => may_same (M := M) q
  unfold Mt.sync
  rw [hd, show decide ((0 : Int) = 1) = false from rfl]
  clear hfa hd
  have c2 := fun w0 (hb : Below w.heap.size w w0) => rmay_any t M w0 (h.below hb)
  obtain ⟨me, hme⟩ : ∃ me, M.may = me := ⟨_, rfl⟩
  obtain ⟨mE, mM⟩ := me
  simp only [hme] at c2 hmo hms ⊢
  unfold rptr at *
  rcases hmo with rfl | rfl
  · rw [if_pos rfl]
    obtain rfl := hms rfl
    clear hme hms
    go_enter Tryz.func63, Tryz.ntmps63
    go_wp2_with fail
    refine c1.mono ?_
    rintro e w' ⟨rfl, hw⟩
    obtain rfl := hw.symm
    clear c1 hw
    go_wp2_with fail
    refine (c2 w (Below.refl _ _)).mono ?_
    rintro e w' ⟨rfl, ⟨r1, aa1, ca1, ab1, cb1, x1, y1⟩, p1, h1, o1, n1⟩
    obtain rfl : r1 = t.r := p1
    clear c2
    have HX : Hid (∀ W1, Below w'.heap.size w' W1 → RTurned w (W1.setCell ⟨t.r, 3, none⟩ (.int .i64 (M.count.a.length : Int))) t (M.count.settle false)) := hide (fun W1 hb =>
      RTurned.trans (t1 := ⟨t.r, aa1, ca1, ab1, cb1, x1, y1⟩) rfl o1 n1 (RTurned.of_cells (t := ⟨t.r, aa1, ca1, ab1, cb1, x1, y1⟩) (t' := ⟨t.r, aa1, ca1, ab1, cb1, x1, y1⟩) hb ((CellsR.start (h1.below hb)).set 3 _) rfl (h1.below hb).ra (h1.below hb).rb (fun x hx => .inl (.inr (.inl ⟨x, hx, rfl⟩))) (fun x hx => .inl (.inr (.inr ⟨x, hx, rfl⟩))) h1.px (h1.ok.settle false)))
    go_wp2_with fail
    obtain ⟨wX, hwX⟩ : ∃ wX, w'.drew = wX := ⟨_, rfl⟩
    have hBX : Below w'.heap.size w' wX := by rw [← hwX]; exact (Below.refl _ _).drew
    have hxX : wX.cell? ⟨t.r, 1, none⟩ = some (.slice aa1 M.count.a.length ca1) := (h1.below hBX).cell 1 rfl
    have hthX : wX.there t.r 0 11 := (h1.below hBX).th
    have hlX : M.count.a.length ≤ 1073741824 := by have := h1.ok.rm; have := h1.ok.rl; omega
    refine hs_begin (S := (fun w' : World => w'.cell? ⟨t.r, 1, none⟩ = some (.slice aa1 M.count.a.length ca1))) 13 rfl (by kernel_rfl) ?_
    rw [hwX]
    clear hwX
    have hS : (fun w' : World => w'.cell? ⟨t.r, 1, none⟩ = some (.slice aa1 M.count.a.length ca1)) wX := hxX
    refine hs_take (i := 0) (d := some 17) (v := ?_) rfl (by kernel_rfl) (by kernel_rfl) (by kernel_rfl) (by rfl) ?_ hS rfl ?_
    rotate_left
    · intro w' hw
      go_simp
      try with_reducible rfl
    simp only [Act.put, List.setIfInBounds_toArray, List.set_cons_zero, List.set_cons_succ]
    refine hs_take (i := 1) (d := some 18) (v := ?_) rfl (by kernel_rfl) (by kernel_rfl) (by kernel_rfl) (by rfl) ?_ hS rfl ?_
    rotate_left
    · intro w' hw
      go_simp
      try with_reducible rfl
    simp only [Act.put, List.setIfInBounds_toArray, List.set_cons_zero, List.set_cons_succ]
    refine hs_take (i := 2) (d := some 19) (v := ?_) rfl (by kernel_rfl) (by kernel_rfl) (by kernel_rfl) (by rfl) ?_ hS rfl ?_
    rotate_left
    · intro w' hw
      go_simp
      try with_reducible rfl
    simp only [Act.put, List.setIfInBounds_toArray, List.set_cons_zero, List.set_cons_succ]
    refine hs_take (i := 3) (d := some 20) (v := ?_) rfl (by kernel_rfl) (by kernel_rfl) (by kernel_rfl) (by rfl) ?_ hS rfl ?_
    rotate_left
    · intro w' hw
      go_simp
      try with_reducible rfl
    simp only [Act.put, List.setIfInBounds_toArray, List.set_cons_zero, List.set_cons_succ]
    refine hs_take (i := 4) (d := some 21) (v := ?_) rfl (by kernel_rfl) (by kernel_rfl) (by kernel_rfl) (by rfl) ?_ hS rfl ?_
    rotate_left
    · intro w' hw
      go_simp
      try with_reducible rfl
    simp only [Act.put, List.setIfInBounds_toArray, List.set_cons_zero, List.set_cons_succ]
    refine hs_take (i := 5) (d := some 22) (v := ?_) rfl (by kernel_rfl) (by kernel_rfl) (by kernel_rfl) (by rfl) ?_ hS rfl ?_
    rotate_left
    · intro w' hw
      go_simp
      try with_reducible rfl
    simp only [Act.put, List.setIfInBounds_toArray, List.set_cons_zero, List.set_cons_succ]
    refine hs_take (i := 6) (d := some 23) (v := ?_) rfl (by kernel_rfl) (by kernel_rfl) (by kernel_rfl) (by rfl) ?_ hS rfl ?_
    rotate_left
    · intro w' hw
      go_simp
      try with_reducible rfl
    simp only [Act.put, List.setIfInBounds_toArray, List.set_cons_zero, List.set_cons_succ]
    refine hs_take (i := 7) (d := some 24) (v := ?_) rfl (by kernel_rfl) (by kernel_rfl) (by kernel_rfl) (by rfl) ?_ hS rfl ?_
    rotate_left
    · intro w' hw
      have hc : w'.cell? ⟨t.r, 1, none⟩ = some (.slice aa1 M.count.a.length ca1) := hw
      go_simp
      try with_reducible rfl
    simp only [Act.put, List.setIfInBounds_toArray, List.set_cons_zero, List.set_cons_succ]
    refine hs_take (i := 8) (d := some 25) (v := ?_) rfl (by kernel_rfl) (by kernel_rfl) (by kernel_rfl) (by rfl) ?_ hS rfl ?_
    rotate_left
    · intro w' hw
      go_simp
      try with_reducible rfl
    simp only [Act.put, List.setIfInBounds_toArray, List.set_cons_zero, List.set_cons_succ]
    refine hs_take (i := 9) (d := some 26) (v := ?_) rfl (by kernel_rfl) (by kernel_rfl) (by kernel_rfl) (by rfl) ?_ hS rfl ?_
    rotate_left
    · intro w' hw
      go_simp
      try with_reducible rfl
    simp only [Act.put, List.setIfInBounds_toArray, List.set_cons_zero, List.set_cons_succ]
    refine hs_take (i := 10) (d := some 27) (v := ?_) rfl (by kernel_rfl) (by kernel_rfl) (by kernel_rfl) (by rfl) ?_ hS rfl ?_
    rotate_left
    · intro w' hw
      go_simp
      try with_reducible rfl
    simp only [Act.put, List.setIfInBounds_toArray, List.set_cons_zero, List.set_cons_succ]
    refine hs_take (i := 11) (d := some 28) (v := ?_) rfl (by kernel_rfl) (by kernel_rfl) (by kernel_rfl) (by rfl) ?_ hS rfl ?_
    rotate_left
    · intro w' hw
      go_simp
      try with_reducible rfl
    simp only [Act.put, List.setIfInBounds_toArray, List.set_cons_zero, List.set_cons_succ]
    have hst := run_store1 (P := Tryz.prog) wX t.r 3 3 (.int .i64 (M.count.a.length : Int)) (by have := there_part hthX 3 1 (by omega); rwa [Nat.zero_add] at this) iszI rfl
    refine hs_store (i := 12) rfl (by kernel_rfl) (by rfl) (exec_storeP rfl rfl rfl hst) rfl (set_there hS (by omega)) ?_
    refine hs_done (by kernel_rfl) ?_
    have HF := hide (HX.out wX hBX)
    clear HX hS hst h1 o1 n1 h
    go_wp2_with fail
    go_ret
    exact ⟨rfl, HF.out⟩
  · rw [if_neg (by omega)]
    clear hme hms
    go_enter Tryz.func63, Tryz.ntmps63
    go_wp2_with fail
    refine c1.mono ?_
    rintro e w' ⟨rfl, hw⟩
    obtain rfl := hw.symm
    clear c1 hw
    go_wp2_with fail
    refine (c2 w (Below.refl _ _)).mono ?_
    rintro e w' ⟨rfl, hw⟩
    clear c2
    go_wp2_with fail
    go_ret
    exact ⟨rfl, hw⟩
set_option maxRecDepth 100000 in
set_option maxHeartbeats 4000000 in
theorem rSync_1 (t : Rv) (M : Mt) (w : World) (h : RefAt w t M) (hon : M.on = true) :
    Calls Tryz.prog 63 #[rptr t, .int .i64 1] w fun e w' => e = .returned (.int .i64 (M.sync 1).1) ∧ RTurned w w' t (M.sync 1).2 := by
  have hfa : M.fault 1 = 0 := fault_on hon (by omega)
  have c1 := rfault_any t M 1 w h
  rw [hfa] at c1
  have hd := does_may M 1 Mt.settle hfa
  have hmo := may_or M
  have hms := fun q => may_same (M := M) q
  unfold Mt.sync
  rw [hd, show decide ((1 : Int) = 1) = true from rfl]
  clear hfa hd
  have c2 := fun w0 (hb : Below w.heap.size w w0) => rmay_any t M w0 (h.below hb)
  obtain ⟨me, hme⟩ : ∃ me, M.may = me := ⟨_, rfl⟩
  obtain ⟨mE, mM⟩ := me
  simp only [hme] at c2 hmo hms ⊢
  unfold rptr at *
  rcases hmo with rfl | rfl
  · rw [if_pos rfl]
    obtain rfl := hms rfl
    clear hme hms
    go_enter Tryz.func63, Tryz.ntmps63
    go_wp2_with fail
    refine c1.mono ?_
    rintro e w' ⟨rfl, hw⟩
    obtain rfl := hw.symm
    clear c1 hw
    go_wp2_with fail
    refine (c2 w (Below.refl _ _)).mono ?_
    rintro e w' ⟨rfl, ⟨r1, aa1, ca1, ab1, cb1, x1, y1⟩, p1, h1, o1, n1⟩
    obtain rfl : r1 = t.r := p1
    clear c2
    have HX : Hid (∀ W1, Below w'.heap.size w' W1 → RTurned w (W1.setCell ⟨t.r, 4, none⟩ (.int .i64 (M.count.b.length : Int))) t (M.count.settle true)) := hide (fun W1 hb =>
      RTurned.trans (t1 := ⟨t.r, aa1, ca1, ab1, cb1, x1, y1⟩) rfl o1 n1 (RTurned.of_cells (t := ⟨t.r, aa1, ca1, ab1, cb1, x1, y1⟩) (t' := ⟨t.r, aa1, ca1, ab1, cb1, x1, y1⟩) hb ((CellsR.start (h1.below hb)).set 4 _) rfl (h1.below hb).ra (h1.below hb).rb (fun x hx => .inl (.inr (.inl ⟨x, hx, rfl⟩))) (fun x hx => .inl (.inr (.inr ⟨x, hx, rfl⟩))) h1.px (h1.ok.settle true)))
    go_wp2_with fail
    obtain ⟨wX, hwX⟩ : ∃ wX, w'.drew = wX := ⟨_, rfl⟩
    have hBX : Below w'.heap.size w' wX := by rw [← hwX]; exact (Below.refl _ _).drew
    have hxX : wX.cell? ⟨t.r, 2, none⟩ = some (.slice ab1 M.count.b.length cb1) := (h1.below hBX).cell 2 rfl
    have hthX : wX.there t.r 0 11 := (h1.below hBX).th
    have hlX : M.count.b.length ≤ 1073741824 := by have := h1.ok.rm; have := h1.ok.rl; omega
    refine hs_begin (S := (fun w' : World => w'.cell? ⟨t.r, 2, none⟩ = some (.slice ab1 M.count.b.length cb1))) 13 rfl (by kernel_rfl) ?_
    rw [hwX]
    clear hwX
    have hS : (fun w' : World => w'.cell? ⟨t.r, 2, none⟩ = some (.slice ab1 M.count.b.length cb1)) wX := hxX
    refine hs_take (i := 0) (d := some 17) (v := ?_) rfl (by kernel_rfl) (by kernel_rfl) (by kernel_rfl) (by rfl) ?_ hS rfl ?_
    rotate_left
    · intro w' hw
      go_simp
      try with_reducible rfl
    simp only [Act.put, List.setIfInBounds_toArray, List.set_cons_zero, List.set_cons_succ]
    refine hs_take (i := 1) (d := some 18) (v := ?_) rfl (by kernel_rfl) (by kernel_rfl) (by kernel_rfl) (by rfl) ?_ hS rfl ?_
    rotate_left
    · intro w' hw
      go_simp
      try with_reducible rfl
    simp only [Act.put, List.setIfInBounds_toArray, List.set_cons_zero, List.set_cons_succ]
    refine hs_take (i := 2) (d := some 19) (v := ?_) rfl (by kernel_rfl) (by kernel_rfl) (by kernel_rfl) (by rfl) ?_ hS rfl ?_
    rotate_left
    · intro w' hw
      go_simp
      try with_reducible rfl
    simp only [Act.put, List.setIfInBounds_toArray, List.set_cons_zero, List.set_cons_succ]
    refine hs_take (i := 3) (d := some 20) (v := ?_) rfl (by kernel_rfl) (by kernel_rfl) (by kernel_rfl) (by rfl) ?_ hS rfl ?_
    rotate_left
    · intro w' hw
      go_simp
      try with_reducible rfl
    simp only [Act.put, List.setIfInBounds_toArray, List.set_cons_zero, List.set_cons_succ]
    refine hs_take (i := 4) (d := some 21) (v := ?_) rfl (by kernel_rfl) (by kernel_rfl) (by kernel_rfl) (by rfl) ?_ hS rfl ?_
    rotate_left
    · intro w' hw
      go_simp
      try with_reducible rfl
    simp only [Act.put, List.setIfInBounds_toArray, List.set_cons_zero, List.set_cons_succ]
    refine hs_take (i := 5) (d := some 22) (v := ?_) rfl (by kernel_rfl) (by kernel_rfl) (by kernel_rfl) (by rfl) ?_ hS rfl ?_
    rotate_left
    · intro w' hw
      go_simp
      try with_reducible rfl
    simp only [Act.put, List.setIfInBounds_toArray, List.set_cons_zero, List.set_cons_succ]
    refine hs_take (i := 6) (d := some 23) (v := ?_) rfl (by kernel_rfl) (by kernel_rfl) (by kernel_rfl) (by rfl) ?_ hS rfl ?_
    rotate_left
    · intro w' hw
      go_simp
      try with_reducible rfl
    simp only [Act.put, List.setIfInBounds_toArray, List.set_cons_zero, List.set_cons_succ]
    refine hs_take (i := 7) (d := some 24) (v := ?_) rfl (by kernel_rfl) (by kernel_rfl) (by kernel_rfl) (by rfl) ?_ hS rfl ?_
    rotate_left
    · intro w' hw
      have hc : w'.cell? ⟨t.r, 2, none⟩ = some (.slice ab1 M.count.b.length cb1) := hw
      go_simp
      try with_reducible rfl
    simp only [Act.put, List.setIfInBounds_toArray, List.set_cons_zero, List.set_cons_succ]
    refine hs_take (i := 8) (d := some 25) (v := ?_) rfl (by kernel_rfl) (by kernel_rfl) (by kernel_rfl) (by rfl) ?_ hS rfl ?_
    rotate_left
    · intro w' hw
      go_simp
      try with_reducible rfl
    simp only [Act.put, List.setIfInBounds_toArray, List.set_cons_zero, List.set_cons_succ]
    refine hs_take (i := 9) (d := some 26) (v := ?_) rfl (by kernel_rfl) (by kernel_rfl) (by kernel_rfl) (by rfl) ?_ hS rfl ?_
    rotate_left
    · intro w' hw
      go_simp
      try with_reducible rfl
    simp only [Act.put, List.setIfInBounds_toArray, List.set_cons_zero, List.set_cons_succ]
    refine hs_take (i := 10) (d := some 27) (v := ?_) rfl (by kernel_rfl) (by kernel_rfl) (by kernel_rfl) (by rfl) ?_ hS rfl ?_
    rotate_left
    · intro w' hw
      go_simp
      try with_reducible rfl
    simp only [Act.put, List.setIfInBounds_toArray, List.set_cons_zero, List.set_cons_succ]
    refine hs_take (i := 11) (d := some 28) (v := ?_) rfl (by kernel_rfl) (by kernel_rfl) (by kernel_rfl) (by rfl) ?_ hS rfl ?_
    rotate_left
    · intro w' hw
      go_simp
      try with_reducible rfl
    simp only [Act.put, List.setIfInBounds_toArray, List.set_cons_zero, List.set_cons_succ]
    have hst := run_store1 (P := Tryz.prog) wX t.r 4 3 (.int .i64 (M.count.b.length : Int)) (by have := there_part hthX 4 1 (by omega); rwa [Nat.zero_add] at this) iszI rfl
    refine hs_store (i := 12) rfl (by kernel_rfl) (by rfl) (exec_storeP rfl rfl rfl hst) rfl (set_there hS (by omega)) ?_
    refine hs_done (by kernel_rfl) ?_
    have HF := hide (HX.out wX hBX)
    clear HX hS hst h1 o1 n1 h
    go_wp2_with fail
    go_ret
    exact ⟨rfl, HF.out⟩
  · rw [if_neg (by omega)]
    clear hme hms
    go_enter Tryz.func63, Tryz.ntmps63
    go_wp2_with fail
    refine c1.mono ?_
    rintro e w' ⟨rfl, hw⟩
    obtain rfl := hw.symm
    clear c1 hw
    go_wp2_with fail
    refine (c2 w (Below.refl _ _)).mono ?_
    rintro e w' ⟨rfl, hw⟩
    clear c2
    go_wp2_with fail
    go_ret
    exact ⟨rfl, hw⟩
set_option maxRecDepth 100000 in
set_option maxHeartbeats 4000000 in
theorem rClear_0 (t : Rv) (M : Mt) (w : World) (h : RefAt w t M) (hon : M.on = true) :
    Calls Tryz.prog 32 #[rptr t, .int .i64 0] w fun e w' => e = .returned (.int .i64 (M.empty 0).1) ∧ RTurned w w' t (M.empty 0).2 := by
  have hfa : M.fault 0 = 0 := fault_on hon (by omega)
  have c1 := rfault_any t M 0 w h
  rw [hfa] at c1
  have hd := does_may M 0 Mt.clear hfa
  have hmo := may_or M
  have hms := fun q => may_same (M := M) q
  unfold Mt.empty
  rw [hd, show decide ((0 : Int) = 1) = false from rfl]
  clear hfa hd
  have c2 := fun w0 (hb : Below w.heap.size w w0) => rmay_any t M w0 (h.below hb)
  obtain ⟨me, hme⟩ : ∃ me, M.may = me := ⟨_, rfl⟩
  obtain ⟨mE, mM⟩ := me
  simp only [hme] at c2 hmo hms ⊢
  unfold rptr at *
  rcases hmo with rfl | rfl
  · rw [if_pos rfl]
    obtain rfl := hms rfl
    clear hme hms
    go_enter Tryz.func32, Tryz.ntmps32
    go_wp2_with fail
    refine c1.mono ?_
    rintro e w' ⟨rfl, hw⟩
    obtain rfl := hw.symm
    clear c1 hw
    go_wp2_with fail
    refine (c2 w (Below.refl _ _)).mono ?_
    rintro e w' ⟨rfl, ⟨r1, aa1, ca1, ab1, cb1, x1, y1⟩, p1, h1, o1, n1⟩
    obtain rfl : r1 = t.r := p1
    clear c2
    have q1 : w'.cell? ⟨t.r, 1, none⟩ = some (.slice aa1 M.count.a.length ca1) := h1.cell 1 rfl
    have q3 : w'.cell? ⟨t.r, 3, none⟩ = some (.int .i64 (M.count.sa : Int)) := h1.cell 3 rfl
    have f1 : w'.frozen? ⟨t.r, 1, none⟩ = false := h1.fz 1 (by omega)
    have f3 : w'.frozen? ⟨t.r, 3, none⟩ = false := h1.fz 3 (by omega)
    have HF : Hid (RTurned w ((w'.setCell ⟨t.r, 1, none⟩ (.slice none 0 0)).setCell ⟨t.r, 3, none⟩ (.int .i64 0)) t (M.count.clear false)) := hide
      (RTurned.trans (t1 := ⟨t.r, aa1, ca1, ab1, cb1, x1, y1⟩) rfl o1 n1 (RTurned.of_cells (t := ⟨t.r, aa1, ca1, ab1, cb1, x1, y1⟩) (t' := ⟨t.r, none, 0, ab1, cb1, x1, y1⟩) (Below.refl _ _) (((CellsR.start h1).set 1 _).set 3 _) rfl RowN.none h1.rb (fun x hx => by cases hx) (fun x hx => .inl (.inr (.inr ⟨x, hx, rfl⟩))) h1.px (h1.ok.clear false)))
    clear h1 o1 n1 h
    go_wp2_with fail
    go_ret
    exact ⟨rfl, HF.out⟩
  · rw [if_neg (by omega)]
    clear hme hms
    go_enter Tryz.func32, Tryz.ntmps32
    go_wp2_with fail
    refine c1.mono ?_
    rintro e w' ⟨rfl, hw⟩
    obtain rfl := hw.symm
    clear c1 hw
    go_wp2_with fail
    refine (c2 w (Below.refl _ _)).mono ?_
    rintro e w' ⟨rfl, hw⟩
    clear c2
    go_wp2_with fail
    go_ret
    exact ⟨rfl, hw⟩
set_option maxRecDepth 100000 in
set_option maxHeartbeats 4000000 in
theorem rClear_1 (t : Rv) (M : Mt) (w : World) (h : RefAt w t M) (hon : M.on = true) :
    Calls Tryz.prog 32 #[rptr t, .int .i64 1] w fun e w' => e = .returned (.int .i64 (M.empty 1).1) ∧ RTurned w w' t (M.empty 1).2 := by
  have hfa : M.fault 1 = 0 := fault_on hon (by omega)
  have c1 := rfault_any t M 1 w h
  rw [hfa] at c1
  have hd := does_may M 1 Mt.clear hfa
  have hmo := may_or M
  have hms := fun q => may_same (M := M) q
  unfold Mt.empty
  rw [hd, show decide ((1 : Int) = 1) = true from rfl]
  clear hfa hd
  have c2 := fun w0 (hb : Below w.heap.size w w0) => rmay_any t M w0 (h.below hb)
  obtain ⟨me, hme⟩ : ∃ me, M.may = me := ⟨_, rfl⟩
  obtain ⟨mE, mM⟩ := me
  simp only [hme] at c2 hmo hms ⊢
  unfold rptr at *
  rcases hmo with rfl | rfl
  · rw [if_pos rfl]
    obtain rfl := hms rfl
    clear hme hms
    go_enter Tryz.func32, Tryz.ntmps32
    go_wp2_with fail
    refine c1.mono ?_
    rintro e w' ⟨rfl, hw⟩
    obtain rfl := hw.symm
    clear c1 hw
    go_wp2_with fail
    refine (c2 w (Below.refl _ _)).mono ?_
    rintro e w' ⟨rfl, ⟨r1, aa1, ca1, ab1, cb1, x1, y1⟩, p1, h1, o1, n1⟩
    obtain rfl : r1 = t.r := p1
    clear c2
    have q1 : w'.cell? ⟨t.r, 2, none⟩ = some (.slice ab1 M.count.b.length cb1) := h1.cell 2 rfl
    have q3 : w'.cell? ⟨t.r, 4, none⟩ = some (.int .i64 (M.count.sb : Int)) := h1.cell 4 rfl
    have f1 : w'.frozen? ⟨t.r, 2, none⟩ = false := h1.fz 2 (by omega)
    have f3 : w'.frozen? ⟨t.r, 4, none⟩ = false := h1.fz 4 (by omega)
    have HF : Hid (RTurned w ((w'.setCell ⟨t.r, 2, none⟩ (.slice none 0 0)).setCell ⟨t.r, 4, none⟩ (.int .i64 0)) t (M.count.clear true)) := hide
      (RTurned.trans (t1 := ⟨t.r, aa1, ca1, ab1, cb1, x1, y1⟩) rfl o1 n1 (RTurned.of_cells (t := ⟨t.r, aa1, ca1, ab1, cb1, x1, y1⟩) (t' := ⟨t.r, aa1, ca1, none, 0, x1, y1⟩) (Below.refl _ _) (((CellsR.start h1).set 2 _).set 4 _) rfl h1.ra RowN.none (fun x hx => .inl (.inr (.inl ⟨x, hx, rfl⟩))) (fun x hx => by cases hx) h1.px (h1.ok.clear true)))
    clear h1 o1 n1 h
    go_wp2_with fail
    go_ret
    exact ⟨rfl, HF.out⟩
  · rw [if_neg (by omega)]
    clear hme hms
    go_enter Tryz.func32, Tryz.ntmps32
    go_wp2_with fail
    refine c1.mono ?_
    rintro e w' ⟨rfl, hw⟩
    obtain rfl := hw.symm
    clear c1 hw
    go_wp2_with fail
    refine (c2 w (Below.refl _ _)).mono ?_
    rintro e w' ⟨rfl, hw⟩
    clear c2
    go_wp2_with fail
    go_ret
    exact ⟨rfl, hw⟩
end Go.Proofs.YtfkchnjbbbhmjaaGreat
namespace Go.Proofs.YtfkchnjbbbhmjaaGreat
open Go.RowKit
set_option maxRecDepth 100000 in
set_option maxHeartbeats 8000000 in
theorem rAppend_0 (t : Rv) (M : Mt) (a : Option Addr) (cap : Nat) (zs : List Int) (w : World) (h : RefAt w t M) (hon : M.on = true) (hz : RowAt w a zs) (hne : zs = [] ∨ ∀ x, a = some x → ¬ (x.block = t.r)) :
    Calls Tryz.prog 30 #[rptr t, .int .i64 0, .slice a zs.length cap] w fun e w' => e = .returned (.int .i64 (M.append 0 zs).1) ∧ RTurned w w' t (M.append 0 zs).2 := by
  have hfa : M.fault 0 = 0 := fault_on hon (by omega)
  have c1 := rfault_any t M 0 w h
  rw [hfa] at c1
  have hl : zs.length ≤ 9223372036854775807 := by have := hz.1; unfold maxLen at this; omega
  have cU := fun w0 (hb : Below w.heap.size w w0) => rused_any t M w0 (h.below hb)
  have q0 := fun w0 (hb : Below w.heap.size w w0) => (h.below hb).cell 0 rfl
  have hrm := h.ok.rm
  have hrl := h.ok.rl
  have hd := does_may M 0 (Mt.put zs) hfa
  have hmo := may_or M
  have hms := fun q => may_same (M := M) q
  have c2 := fun w0 (hb : Below w.heap.size w w0) => rmay_any t M w0 (h.below hb)
  have ap : M.append 0 zs = if M.room - ((M.a.length : Int) + M.b.length) < zs.length then (151, M) else M.does 0 (Mt.put zs) := if_pos hfa
  rw [ap]
  have HS : Hid (∀ w', Below w.heap.size w w' → RTurned w w' t M) := hide (fun w' hb => RTurned.same h hb)
  have hroomC : ¬ M.room - ((M.a.length : Int) + M.b.length) < zs.length → ¬ M.count.room - ((M.count.a.length : Int) + M.count.b.length) < zs.length := fun q => q
  obtain ⟨us, hus⟩ : ∃ us, Hid (((M.a.length : Int) + M.b.length) = us) := ⟨_, hide rfl⟩
  have hu0 : 0 ≤ us := by rw [← hus.out]; omega
  rw [hus.out] at hrm hroomC ⊢
  simp only [hus.out] at cU
  obtain ⟨rm, hrmE⟩ : ∃ rm, Hid (M.room = rm) := ⟨_, hide rfl⟩
  rw [hrmE.out] at hrm hrl hroomC ⊢
  have q0 : ∀ w0, Below w.heap.size w w0 → w0.cell? ⟨t.r, 0, none⟩ = some (.int .i64 rm) := fun w0 hb => by rw [← hrmE.out]; exact q0 w0 hb
  have hwr : IntKind.i64.wrap (rm - us) = rm - us := by rw [IntKind.wrap_i64]; omega
  unfold rptr at *
  clear ap
  by_cases hroom : rm - us < zs.length
  · rw [if_pos hroom]
    have HR := hide hroom
    clear hroom hroomC hd hmo hms c2 h hz hne
    go_enter Tryz.func30, Tryz.ntmps30
    go_wp2_with fail
    refine c1.mono ?_
    rintro e w' ⟨rfl, hw⟩
    obtain rfl := hw.symm
    clear c1 hw
    go_wp2_with fail
    obtain ⟨w8, hw8⟩ : ∃ w8, w.drew = w8 := ⟨_, rfl⟩
    have B8 : Below w.heap.size w w8 := by rw [← hw8]; exact (Below.refl _ _).drew
    have r8 : ∀ w', Below w8.heap.size w8 w' → w'.cell? ⟨t.r, 0, none⟩ = some (.int .i64 rm) := fun w' hw' => q0 w' (B8.trans (hw'.mono B8.size))
    refine hs_begin (S := (Below w8.heap.size w8)) 10 rfl (by kernel_rfl) ?_
    rw [hw8]
    clear hw8
    have hS : (Below w8.heap.size w8) w8 := Below.refl _ _
    refine hs_take (i := 0) (d := some 14) (v := ?_) rfl (by kernel_rfl) (by kernel_rfl) (by kernel_rfl) (by rfl) ?_ hS rfl ?_
    rotate_left
    · intro w' hw
      go_simp
      try with_reducible rfl
    simp only [Act.put, List.setIfInBounds_toArray, List.set_cons_zero, List.set_cons_succ]
    refine hs_take (i := 1) (d := some 15) (v := ?_) rfl (by kernel_rfl) (by kernel_rfl) (by kernel_rfl) (by rfl) ?_ hS rfl ?_
    rotate_left
    · intro w' hw
      go_simp
      try with_reducible rfl
    simp only [Act.put, List.setIfInBounds_toArray, List.set_cons_zero, List.set_cons_succ]
    refine hs_take (i := 2) (d := some 16) (v := ?_) rfl (by kernel_rfl) (by kernel_rfl) (by kernel_rfl) (by rfl) ?_ hS rfl ?_
    rotate_left
    · intro w' hw
      go_simp
      try with_reducible rfl
    simp only [Act.put, List.setIfInBounds_toArray, List.set_cons_zero, List.set_cons_succ]
    refine hs_take (i := 3) (d := some 17) (v := ?_) rfl (by kernel_rfl) (by kernel_rfl) (by kernel_rfl) (by rfl) ?_ hS rfl ?_
    rotate_left
    · intro w' hw
      go_simp
      try with_reducible rfl
    simp only [Act.put, List.setIfInBounds_toArray, List.set_cons_zero, List.set_cons_succ]
    refine hs_take (i := 4) (d := some 18) (v := ?_) rfl (by kernel_rfl) (by kernel_rfl) (by kernel_rfl) (by rfl) ?_ hS rfl ?_
    rotate_left
    · intro w' hw
      go_simp
      try with_reducible rfl
    simp only [Act.put, List.setIfInBounds_toArray, List.set_cons_zero, List.set_cons_succ]
    refine hs_take (i := 5) (d := some 19) (v := ?_) rfl (by kernel_rfl) (by kernel_rfl) (by kernel_rfl) (by rfl) ?_ hS rfl ?_
    rotate_left
    · intro w' hw
      have hc := r8 w' hw
      go_simp
      try with_reducible rfl
    simp only [Act.put, List.setIfInBounds_toArray, List.set_cons_zero, List.set_cons_succ]
    refine hs_take (i := 6) (d := some 20) (v := ?_) rfl (by kernel_rfl) (by kernel_rfl) (by kernel_rfl) (by rfl) ?_ hS rfl ?_
    rotate_left
    · intro w' hw
      go_simp
      try with_reducible rfl
    simp only [Act.put, List.setIfInBounds_toArray, List.set_cons_zero, List.set_cons_succ]
    refine hs_call (i := 7) (d := some 21) rfl (by kernel_rfl) (by rfl) (by go_simp; first | done | exact ⟨rfl, rfl⟩ | with_reducible rfl) rfl ?_
    refine (cU w8 B8).mono ?_
    rintro e' w9 ⟨rfl, hb9, -⟩
    have hS : (Below w8.heap.size w8) w9 := hb9
    refine ⟨_, rfl, hS, ?_⟩
    simp only [Act.put, List.setIfInBounds_toArray, List.set_cons_zero, List.set_cons_succ]
    refine hs_take (i := 8) (d := some 22) (v := ?_) rfl (by kernel_rfl) (by kernel_rfl) (by kernel_rfl) (by rfl) ?_ hS rfl ?_
    rotate_left
    · intro w' hw
      go_simp
      try with_reducible rfl
    simp only [Act.put, List.setIfInBounds_toArray, List.set_cons_zero, List.set_cons_succ]
    have hroom := HR.out
    refine hs_take (i := 9) (d := some 23) (v := .bool true) rfl (by kernel_rfl) (by kernel_rfl) (by kernel_rfl) (by rfl) (fun w' hw => by go_simp) hS rfl ?_
    simp only [Act.put, List.setIfInBounds_toArray, List.set_cons_zero, List.set_cons_succ]
    refine hs_done (by kernel_rfl) ?_
    have B9 := B8.trans (hS.mono B8.size)
    clear hroom hwr cU q0 r8 hS
    go_wp2_with fail
    go_ret
    exact ⟨rfl, HS.out _ B9⟩
  · rw [if_neg hroom, hd, show decide ((0 : Int) = 1) = false from rfl]
    have hroomC := hroomC hroom
    have HR := hide hroom
    obtain ⟨me, hme⟩ : ∃ me, M.may = me := ⟨_, rfl⟩
    obtain ⟨mE, mM⟩ := me
    simp only [hme] at c2 hmo hms ⊢
    clear hroom hd HS
    rcases hmo with rfl | rfl
    · rw [if_pos rfl]
      obtain rfl := hms rfl
      have HC := hide hroomC
      clear hme hms hroomC
      go_enter Tryz.func30, Tryz.ntmps30
      go_wp2_with fail
      refine c1.mono ?_
      rintro e w' ⟨rfl, hw⟩
      obtain rfl := hw.symm
      clear c1 hw
      go_wp2_with fail
      obtain ⟨w8, hw8⟩ : ∃ w8, w.drew = w8 := ⟨_, rfl⟩
      have B8 : Below w.heap.size w w8 := by rw [← hw8]; exact (Below.refl _ _).drew
      have r8 : ∀ w', Below w8.heap.size w8 w' → w'.cell? ⟨t.r, 0, none⟩ = some (.int .i64 rm) := fun w' hw' => q0 w' (B8.trans (hw'.mono B8.size))
      refine hs_begin (S := (Below w8.heap.size w8)) 10 rfl (by kernel_rfl) ?_
      rw [hw8]
      clear hw8
      have hS : (Below w8.heap.size w8) w8 := Below.refl _ _
      refine hs_take (i := 0) (d := some 14) (v := ?_) rfl (by kernel_rfl) (by kernel_rfl) (by kernel_rfl) (by rfl) ?_ hS rfl ?_
      rotate_left
      · intro w' hw
        go_simp
        try with_reducible rfl
      simp only [Act.put, List.setIfInBounds_toArray, List.set_cons_zero, List.set_cons_succ]
      refine hs_take (i := 1) (d := some 15) (v := ?_) rfl (by kernel_rfl) (by kernel_rfl) (by kernel_rfl) (by rfl) ?_ hS rfl ?_
      rotate_left
      · intro w' hw
        go_simp
        try with_reducible rfl
      simp only [Act.put, List.setIfInBounds_toArray, List.set_cons_zero, List.set_cons_succ]
      refine hs_take (i := 2) (d := some 16) (v := ?_) rfl (by kernel_rfl) (by kernel_rfl) (by kernel_rfl) (by rfl) ?_ hS rfl ?_
      rotate_left
      · intro w' hw
        go_simp
        try with_reducible rfl
      simp only [Act.put, List.setIfInBounds_toArray, List.set_cons_zero, List.set_cons_succ]
      refine hs_take (i := 3) (d := some 17) (v := ?_) rfl (by kernel_rfl) (by kernel_rfl) (by kernel_rfl) (by rfl) ?_ hS rfl ?_
      rotate_left
      · intro w' hw
        go_simp
        try with_reducible rfl
      simp only [Act.put, List.setIfInBounds_toArray, List.set_cons_zero, List.set_cons_succ]
      refine hs_take (i := 4) (d := some 18) (v := ?_) rfl (by kernel_rfl) (by kernel_rfl) (by kernel_rfl) (by rfl) ?_ hS rfl ?_
      rotate_left
      · intro w' hw
        go_simp
        try with_reducible rfl
      simp only [Act.put, List.setIfInBounds_toArray, List.set_cons_zero, List.set_cons_succ]
      refine hs_take (i := 5) (d := some 19) (v := ?_) rfl (by kernel_rfl) (by kernel_rfl) (by kernel_rfl) (by rfl) ?_ hS rfl ?_
      rotate_left
      · intro w' hw
        have hc := r8 w' hw
        go_simp
        try with_reducible rfl
      simp only [Act.put, List.setIfInBounds_toArray, List.set_cons_zero, List.set_cons_succ]
      refine hs_take (i := 6) (d := some 20) (v := ?_) rfl (by kernel_rfl) (by kernel_rfl) (by kernel_rfl) (by rfl) ?_ hS rfl ?_
      rotate_left
      · intro w' hw
        go_simp
        try with_reducible rfl
      simp only [Act.put, List.setIfInBounds_toArray, List.set_cons_zero, List.set_cons_succ]
      refine hs_call (i := 7) (d := some 21) rfl (by kernel_rfl) (by rfl) (by go_simp; first | done | exact ⟨rfl, rfl⟩ | with_reducible rfl) rfl ?_
      refine (cU w8 B8).mono ?_
      rintro e' w9 ⟨rfl, hb9, -⟩
      have hS : (Below w8.heap.size w8) w9 := hb9
      refine ⟨_, rfl, hS, ?_⟩
      simp only [Act.put, List.setIfInBounds_toArray, List.set_cons_zero, List.set_cons_succ]
      refine hs_take (i := 8) (d := some 22) (v := ?_) rfl (by kernel_rfl) (by kernel_rfl) (by kernel_rfl) (by rfl) ?_ hS rfl ?_
      rotate_left
      · intro w' hw
        go_simp
        try with_reducible rfl
      simp only [Act.put, List.setIfInBounds_toArray, List.set_cons_zero, List.set_cons_succ]
      have hroom := HR.out
      refine hs_take (i := 9) (d := some 23) (v := .bool false) rfl (by kernel_rfl) (by kernel_rfl) (by kernel_rfl) (by rfl) (fun w' hw => by go_simp) hS rfl ?_
      simp only [Act.put, List.setIfInBounds_toArray, List.set_cons_zero, List.set_cons_succ]
      refine hs_done (by kernel_rfl) ?_
      have B9 := B8.trans (hS.mono B8.size)
      have c3 := c2 _ B9
      clear hroom hwr cU q0 r8 hS c2
      go_wp2_with fail
      refine c3.mono ?_
      rintro e w' ⟨rfl, ⟨r1, aa1, ca1, ab1, cb1, x1, y1⟩, p1, h1, o1, n1⟩
      obtain rfl : r1 = t.r := p1
      have hroomC := HC.out
      clear c3
      have hok2 := h1.ok.put zs hz.2.1 (by have := hroomC; omega) false
      have hzz : ∀ z ∈ M.count.a ++ zs, 0 ≤ z ∧ z < 256 := hok2.za
      have hlen : M.count.a.length + zs.length ≤ 1073741824 := by
        have e1 := hok2.rm
        have e2 := hok2.rl
        simp only [Mt.put, Mt.setA, Mt.get, List.length_append] at e1 e2
        omega
      have hmm : 0 + M.count.a.length ≤ 100000000000 := by omega
      have HX : Hid (∀ W1 na ncap, Below w'.heap.size w' W1 → RowN W1 t.r na ncap (M.count.a ++ zs) → (∀ x, na = some x → w'.heap.size ≤ x.block) → RTurned w (W1.setCell ⟨t.r, 1, none⟩ (.slice na (M.count.a.length + zs.length) ncap)) t (Mt.put zs false M.count)) := hide (fun W1 na ncap hb hr hn => by
        have e : rcells ⟨t.r, na, ncap, ab1, cb1, x1, y1⟩ (Mt.put zs false M.count) = (rcells ⟨t.r, aa1, ca1, ab1, cb1, x1, y1⟩ M.count).set 1 (.slice na (M.count.a.length + zs.length) ncap) := by
          rw [← List.length_append]; rfl
        refine RTurned.trans (t1 := t) rfl (Off.of_below B9) (fun _ q => .inl q) (RTurned.trans (t1 := ⟨t.r, aa1, ca1, ab1, cb1, x1, y1⟩) rfl o1 n1 (RTurned.of_cells (t := ⟨t.r, aa1, ca1, ab1, cb1, x1, y1⟩) (t' := ⟨t.r, na, ncap, ab1, cb1, x1, y1⟩) hb ?_ rfl hr (h1.below hb).rb (fun x hx => .inr (hn x hx)) (fun x hx => .inl (.inr (.inr ⟨x, hx, rfl⟩))) h1.px hok2))
        rw [e]
        exact (CellsR.start (h1.below hb)).set 1 _)
      go_wp2_with fail
      obtain ⟨wX, hwX⟩ : ∃ wX, w'.drew = wX := ⟨_, rfl⟩
      have hBX : Below w'.heap.size w' wX := by rw [← hwX]; exact (Below.refl _ _).drew
      have hX := h1.below hBX
      have hbA : Below wX.heap.size wX (wX.alloc (.cells #[] 5)) := (Below.refl _ _).alloc (Nat.le_refl _) _
      have kB : ∀ W, Below wX.heap.size wX W → W.cell? ⟨t.r, 1, none⟩ = some (.slice aa1 M.count.a.length ca1) := fun W hW => (hX.below hW).cell 1 rfl
      have hrow : RowAt (wX.alloc (.cells #[] 5)) aa1 M.count.a := (hX.below hbA).ra.row
      have hzX : RowAt wX a zs := ((hz.below B9).off o1 hne).below hBX
      refine hs_begin (S := (fun _ : World => True)) 16 rfl (by kernel_rfl) ?_
      rw [hwX]
      clear hwX
      have hS : (fun _ : World => True) wX := trivial
      refine hs_take (i := 0) (d := some 29) (v := ?_) rfl (by kernel_rfl) (by kernel_rfl) (by kernel_rfl) (by rfl) ?_ hS rfl ?_
      rotate_left
      · intro w' hw
        go_simp
        try with_reducible rfl
      simp only [Act.put, List.setIfInBounds_toArray, List.set_cons_zero, List.set_cons_succ]
      refine hs_take (i := 1) (d := some 30) (v := ?_) rfl (by kernel_rfl) (by kernel_rfl) (by kernel_rfl) (by rfl) ?_ hS rfl ?_
      rotate_left
      · intro w' hw
        go_simp
        try with_reducible rfl
      simp only [Act.put, List.setIfInBounds_toArray, List.set_cons_zero, List.set_cons_succ]
      refine hs_take (i := 3) (d := some 32) (v := ?_) rfl (by kernel_rfl) (by kernel_rfl) (by kernel_rfl) (by rfl) ?_ hS rfl ?_
      rotate_left
      · intro w' hw
        go_simp
        try with_reducible rfl
      simp only [Act.put, List.setIfInBounds_toArray, List.set_cons_zero, List.set_cons_succ]
      refine hs_take (i := 4) (d := some 33) (v := ?_) rfl (by kernel_rfl) (by kernel_rfl) (by kernel_rfl) (by rfl) ?_ hS rfl ?_
      rotate_left
      · intro w' hw
        go_simp
        try with_reducible rfl
      simp only [Act.put, List.setIfInBounds_toArray, List.set_cons_zero, List.set_cons_succ]
      refine hs_take (i := 5) (d := some 34) (v := ?_) rfl (by kernel_rfl) (by kernel_rfl) (by kernel_rfl) (by rfl) ?_ hS rfl ?_
      rotate_left
      · intro w' hw
        go_simp
        try with_reducible rfl
      simp only [Act.put, List.setIfInBounds_toArray, List.set_cons_zero, List.set_cons_succ]
      refine hs_take (i := 6) (d := some 35) (v := ?_) rfl (by kernel_rfl) (by kernel_rfl) (by kernel_rfl) (by rfl) ?_ hS rfl ?_
      rotate_left
      · intro w' hw
        go_simp
        try with_reducible rfl
      simp only [Act.put, List.setIfInBounds_toArray, List.set_cons_zero, List.set_cons_succ]
      refine hs_take (i := 7) (d := some 36) (v := ?_) rfl (by kernel_rfl) (by kernel_rfl) (by kernel_rfl) (by rfl) ?_ hS rfl ?_
      rotate_left
      · intro w' hw
        go_simp
        try with_reducible rfl
      simp only [Act.put, List.setIfInBounds_toArray, List.set_cons_zero, List.set_cons_succ]
      refine hs_take (i := 10) (d := some 39) (v := ?_) rfl (by kernel_rfl) (by kernel_rfl) (by kernel_rfl) (by rfl) ?_ hS rfl ?_
      rotate_left
      · intro w' hw
        go_simp
        try with_reducible rfl
      simp only [Act.put, List.setIfInBounds_toArray, List.set_cons_zero, List.set_cons_succ]
      refine hs_take (i := 12) (d := some 41) (v := ?_) rfl (by kernel_rfl) (by kernel_rfl) (by kernel_rfl) (by rfl) ?_ hS rfl ?_
      rotate_left
      · intro w' hw
        go_simp
        try with_reducible rfl
      simp only [Act.put, List.setIfInBounds_toArray, List.set_cons_zero, List.set_cons_succ]
      refine hs_take (i := 13) (d := some 42) (v := ?_) rfl (by kernel_rfl) (by kernel_rfl) (by kernel_rfl) (by rfl) ?_ hS rfl ?_
      rotate_left
      · intro w' hw
        go_simp
        try with_reducible rfl
      simp only [Act.put, List.setIfInBounds_toArray, List.set_cons_zero, List.set_cons_succ]
      refine hs_forkL (l := [2, 8]) (by kernel_rfl) (by simp) ?_
      intro ii hii
      simp only [List.mem_cons, List.not_mem_nil, or_false] at hii
      rcases hii with rfl | rfl
      · refine st_runX (i := 2) (d := some 31) rfl (by rfl) rfl (ex_bs0 rfl) ?_
        rintro vB W' ⟨rfl, rfl⟩
        refine ⟨trivial, ?_⟩
        simp only [Act.put, List.setIfInBounds_toArray, List.set_cons_zero, List.set_cons_succ]
        refine hs_runX (i := 8) (d := some 37) rfl (by kernel_rfl) (by rfl) rfl (ex_load rfl rfl (kB _ hbA)) ?_
        rintro vA W' ⟨rfl, hx⟩
        obtain rfl := hx.symm
        clear hx
        refine ⟨trivial, ?_⟩
        simp only [Act.put, List.setIfInBounds_toArray, List.set_cons_zero, List.set_cons_succ]
        refine hs_runX (i := 9) (d := some 38) rfl (by kernel_rfl) (by rfl) rfl (ex_append rfl rfl rfl (owns_new0 wX) (by simp) hrow hmm) ?_
        rintro vC W' ⟨hownC, hgrC⟩
        have hBC := below_gr hbA (by simp) (owns_new0 wX) hgrC
        refine ⟨trivial, ?_⟩
        simp only [Act.put, List.setIfInBounds_toArray, List.set_cons_zero, List.set_cons_succ]
        refine hs_runX (i := 11) (d := some 40) rfl (by kernel_rfl) (by rfl) rfl (ex_append rfl rfl rfl hownC hBC.size (hzX.below hBC) (by omega)) ?_
        rintro vD W' ⟨hownD, hgrD⟩
        have hBD := below_gr hBC hBC.size hownC hgrD
        have hownD2 : W'.ownsRow wX.heap.size 5 1 vD (M.count.a.length + zs.length) (v8 (M.count.a ++ zs)) := by
          rw [v8_append]
          simpa using hownD
        refine ⟨trivial, ?_⟩
        simp only [Act.put, List.setIfInBounds_toArray, List.set_cons_zero, List.set_cons_succ]
        obtain ⟨na, ncap, rfl, hRN, hNB⟩ := row_new hownD2 List.length_append (R := t.r) hX.lt hzz (by omega)
        refine hs_take (i := 14) (d := some 43) (v := ?_) rfl (by kernel_rfl) (by kernel_rfl) (by kernel_rfl) (by rfl) ?_ hS rfl ?_
        rotate_left
        · intro w' hw
          go_simp
          try with_reducible rfl
        simp only [Act.put, List.setIfInBounds_toArray, List.set_cons_zero, List.set_cons_succ]
        have hth : W'.there t.r 0 11 := (hX.below hBD).th
        have hst := run_store1 (P := Tryz.prog) W' t.r 1 35 (.slice na (M.count.a.length + zs.length) ncap) (by have := there_part hth 1 1 (by omega); rwa [Nat.zero_add] at this) iszBs rfl
        refine hs_store (i := 15) rfl (by kernel_rfl) (by rfl) (exec_storeP rfl rfl rfl hst) rfl trivial ?_
        refine hs_done (by kernel_rfl) ?_
        have HF := hide (HX.out W' na ncap (hBX.trans (hBD.mono hBX.size)) hRN (fun x hx => Nat.le_trans hBX.size (hNB x hx)))
        clear HX hS hst hownD hownD2 hgrD hBD hRN hNB hownC hgrC hBC
        go_wp2_with fail
        go_ret
        exact ⟨rfl, HF.out⟩
      · refine st_runX (i := 8) (d := some 37) rfl (by rfl) rfl (ex_load rfl rfl (kB _ (Below.refl _ _))) ?_
        rintro vA W' ⟨rfl, hx⟩
        obtain rfl := hx.symm
        clear hx
        refine ⟨trivial, ?_⟩
        simp only [Act.put, List.setIfInBounds_toArray, List.set_cons_zero, List.set_cons_succ]
        refine hs_runX (i := 2) (d := some 31) rfl (by kernel_rfl) (by rfl) rfl (ex_bs0 rfl) ?_
        rintro vB W' ⟨rfl, rfl⟩
        refine ⟨trivial, ?_⟩
        simp only [Act.put, List.setIfInBounds_toArray, List.set_cons_zero, List.set_cons_succ]
        refine hs_runX (i := 9) (d := some 38) rfl (by kernel_rfl) (by rfl) rfl (ex_append rfl rfl rfl (owns_new0 wX) (by simp) hrow hmm) ?_
        rintro vC W' ⟨hownC, hgrC⟩
        have hBC := below_gr hbA (by simp) (owns_new0 wX) hgrC
        refine ⟨trivial, ?_⟩
        simp only [Act.put, List.setIfInBounds_toArray, List.set_cons_zero, List.set_cons_succ]
        refine hs_runX (i := 11) (d := some 40) rfl (by kernel_rfl) (by rfl) rfl (ex_append rfl rfl rfl hownC hBC.size (hzX.below hBC) (by omega)) ?_
        rintro vD W' ⟨hownD, hgrD⟩
        have hBD := below_gr hBC hBC.size hownC hgrD
        have hownD2 : W'.ownsRow wX.heap.size 5 1 vD (M.count.a.length + zs.length) (v8 (M.count.a ++ zs)) := by
          rw [v8_append]
          simpa using hownD
        refine ⟨trivial, ?_⟩
        simp only [Act.put, List.setIfInBounds_toArray, List.set_cons_zero, List.set_cons_succ]
        obtain ⟨na, ncap, rfl, hRN, hNB⟩ := row_new hownD2 List.length_append (R := t.r) hX.lt hzz (by omega)
        refine hs_take (i := 14) (d := some 43) (v := ?_) rfl (by kernel_rfl) (by kernel_rfl) (by kernel_rfl) (by rfl) ?_ hS rfl ?_
        rotate_left
        · intro w' hw
          go_simp
          try with_reducible rfl
        simp only [Act.put, List.setIfInBounds_toArray, List.set_cons_zero, List.set_cons_succ]
        have hth : W'.there t.r 0 11 := (hX.below hBD).th
        have hst := run_store1 (P := Tryz.prog) W' t.r 1 35 (.slice na (M.count.a.length + zs.length) ncap) (by have := there_part hth 1 1 (by omega); rwa [Nat.zero_add] at this) iszBs rfl
        refine hs_store (i := 15) rfl (by kernel_rfl) (by rfl) (exec_storeP rfl rfl rfl hst) rfl trivial ?_
        refine hs_done (by kernel_rfl) ?_
        have HF := hide (HX.out W' na ncap (hBX.trans (hBD.mono hBX.size)) hRN (fun x hx => Nat.le_trans hBX.size (hNB x hx)))
        clear HX hS hst hownD hownD2 hgrD hBD hRN hNB hownC hgrC hBC
        go_wp2_with fail
        go_ret
        exact ⟨rfl, HF.out⟩
    · rw [if_neg (by omega)]
      clear hme hms hroomC hz hne
      go_enter Tryz.func30, Tryz.ntmps30
      go_wp2_with fail
      refine c1.mono ?_
      rintro e w' ⟨rfl, hw⟩
      obtain rfl := hw.symm
      clear c1 hw
      go_wp2_with fail
      obtain ⟨w8, hw8⟩ : ∃ w8, w.drew = w8 := ⟨_, rfl⟩
      have B8 : Below w.heap.size w w8 := by rw [← hw8]; exact (Below.refl _ _).drew
      have r8 : ∀ w', Below w8.heap.size w8 w' → w'.cell? ⟨t.r, 0, none⟩ = some (.int .i64 rm) := fun w' hw' => q0 w' (B8.trans (hw'.mono B8.size))
      refine hs_begin (S := (Below w8.heap.size w8)) 10 rfl (by kernel_rfl) ?_
      rw [hw8]
      clear hw8
      have hS : (Below w8.heap.size w8) w8 := Below.refl _ _
      refine hs_take (i := 0) (d := some 14) (v := ?_) rfl (by kernel_rfl) (by kernel_rfl) (by kernel_rfl) (by rfl) ?_ hS rfl ?_
      rotate_left
      · intro w' hw
        go_simp
        try with_reducible rfl
      simp only [Act.put, List.setIfInBounds_toArray, List.set_cons_zero, List.set_cons_succ]
      refine hs_take (i := 1) (d := some 15) (v := ?_) rfl (by kernel_rfl) (by kernel_rfl) (by kernel_rfl) (by rfl) ?_ hS rfl ?_
      rotate_left
      · intro w' hw
        go_simp
        try with_reducible rfl
      simp only [Act.put, List.setIfInBounds_toArray, List.set_cons_zero, List.set_cons_succ]
      refine hs_take (i := 2) (d := some 16) (v := ?_) rfl (by kernel_rfl) (by kernel_rfl) (by kernel_rfl) (by rfl) ?_ hS rfl ?_
      rotate_left
      · intro w' hw
        go_simp
        try with_reducible rfl
      simp only [Act.put, List.setIfInBounds_toArray, List.set_cons_zero, List.set_cons_succ]
      refine hs_take (i := 3) (d := some 17) (v := ?_) rfl (by kernel_rfl) (by kernel_rfl) (by kernel_rfl) (by rfl) ?_ hS rfl ?_
      rotate_left
      · intro w' hw
        go_simp
        try with_reducible rfl
      simp only [Act.put, List.setIfInBounds_toArray, List.set_cons_zero, List.set_cons_succ]
      refine hs_take (i := 4) (d := some 18) (v := ?_) rfl (by kernel_rfl) (by kernel_rfl) (by kernel_rfl) (by rfl) ?_ hS rfl ?_
      rotate_left
      · intro w' hw
        go_simp
        try with_reducible rfl
      simp only [Act.put, List.setIfInBounds_toArray, List.set_cons_zero, List.set_cons_succ]
      refine hs_take (i := 5) (d := some 19) (v := ?_) rfl (by kernel_rfl) (by kernel_rfl) (by kernel_rfl) (by rfl) ?_ hS rfl ?_
      rotate_left
      · intro w' hw
        have hc := r8 w' hw
        go_simp
        try with_reducible rfl
      simp only [Act.put, List.setIfInBounds_toArray, List.set_cons_zero, List.set_cons_succ]
      refine hs_take (i := 6) (d := some 20) (v := ?_) rfl (by kernel_rfl) (by kernel_rfl) (by kernel_rfl) (by rfl) ?_ hS rfl ?_
      rotate_left
      · intro w' hw
        go_simp
        try with_reducible rfl
      simp only [Act.put, List.setIfInBounds_toArray, List.set_cons_zero, List.set_cons_succ]
      refine hs_call (i := 7) (d := some 21) rfl (by kernel_rfl) (by rfl) (by go_simp; first | done | exact ⟨rfl, rfl⟩ | with_reducible rfl) rfl ?_
      refine (cU w8 B8).mono ?_
      rintro e' w9 ⟨rfl, hb9, -⟩
      have hS : (Below w8.heap.size w8) w9 := hb9
      refine ⟨_, rfl, hS, ?_⟩
      simp only [Act.put, List.setIfInBounds_toArray, List.set_cons_zero, List.set_cons_succ]
      refine hs_take (i := 8) (d := some 22) (v := ?_) rfl (by kernel_rfl) (by kernel_rfl) (by kernel_rfl) (by rfl) ?_ hS rfl ?_
      rotate_left
      · intro w' hw
        go_simp
        try with_reducible rfl
      simp only [Act.put, List.setIfInBounds_toArray, List.set_cons_zero, List.set_cons_succ]
      have hroom := HR.out
      refine hs_take (i := 9) (d := some 23) (v := .bool false) rfl (by kernel_rfl) (by kernel_rfl) (by kernel_rfl) (by rfl) (fun w' hw => by go_simp) hS rfl ?_
      simp only [Act.put, List.setIfInBounds_toArray, List.set_cons_zero, List.set_cons_succ]
      refine hs_done (by kernel_rfl) ?_
      have B9 := B8.trans (hS.mono B8.size)
      have c3 := c2 _ B9
      clear hroom hwr cU q0 r8 hS c2
      go_wp2_with fail
      refine c3.mono ?_
      rintro e w' ⟨rfl, hw⟩
      have HF := hide (RTurned.trans (t1 := t) rfl (Off.of_below B9) (fun _ q => .inl q) hw)
      clear c3 hw
      go_wp2_with fail
      go_ret
      exact ⟨rfl, HF.out⟩
set_option maxRecDepth 100000 in
set_option maxHeartbeats 8000000 in
theorem rAppend_1 (t : Rv) (M : Mt) (a : Option Addr) (cap : Nat) (zs : List Int) (w : World) (h : RefAt w t M) (hon : M.on = true) (hz : RowAt w a zs) (hne : zs = [] ∨ ∀ x, a = some x → ¬ (x.block = t.r)) :
    Calls Tryz.prog 30 #[rptr t, .int .i64 1, .slice a zs.length cap] w fun e w' => e = .returned (.int .i64 (M.append 1 zs).1) ∧ RTurned w w' t (M.append 1 zs).2 := by
  have hfa : M.fault 1 = 0 := fault_on hon (by omega)
  have c1 := rfault_any t M 1 w h
  rw [hfa] at c1
  have hl : zs.length ≤ 9223372036854775807 := by have := hz.1; unfold maxLen at this; omega
  have cU := fun w0 (hb : Below w.heap.size w w0) => rused_any t M w0 (h.below hb)
  have q0 := fun w0 (hb : Below w.heap.size w w0) => (h.below hb).cell 0 rfl
  have hrm := h.ok.rm
  have hrl := h.ok.rl
  have hd := does_may M 1 (Mt.put zs) hfa
  have hmo := may_or M
  have hms := fun q => may_same (M := M) q
  have c2 := fun w0 (hb : Below w.heap.size w w0) => rmay_any t M w0 (h.below hb)
  have ap : M.append 1 zs = if M.room - ((M.a.length : Int) + M.b.length) < zs.length then (151, M) else M.does 1 (Mt.put zs) := if_pos hfa
  rw [ap]
  have HS : Hid (∀ w', Below w.heap.size w w' → RTurned w w' t M) := hide (fun w' hb => RTurned.same h hb)
  have hroomC : ¬ M.room - ((M.a.length : Int) + M.b.length) < zs.length → ¬ M.count.room - ((M.count.a.length : Int) + M.count.b.length) < zs.length := fun q => q
  obtain ⟨us, hus⟩ : ∃ us, Hid (((M.a.length : Int) + M.b.length) = us) := ⟨_, hide rfl⟩
  have hu0 : 0 ≤ us := by rw [← hus.out]; omega
  rw [hus.out] at hrm hroomC ⊢
  simp only [hus.out] at cU
  obtain ⟨rm, hrmE⟩ : ∃ rm, Hid (M.room = rm) := ⟨_, hide rfl⟩
  rw [hrmE.out] at hrm hrl hroomC ⊢
  have q0 : ∀ w0, Below w.heap.size w w0 → w0.cell? ⟨t.r, 0, none⟩ = some (.int .i64 rm) := fun w0 hb => by rw [← hrmE.out]; exact q0 w0 hb
  have hwr : IntKind.i64.wrap (rm - us) = rm - us := by rw [IntKind.wrap_i64]; omega
  unfold rptr at *
  clear ap
  by_cases hroom : rm - us < zs.length
  · rw [if_pos hroom]
    have HR := hide hroom
    clear hroom hroomC hd hmo hms c2 h hz hne
    go_enter Tryz.func30, Tryz.ntmps30
    go_wp2_with fail
    refine c1.mono ?_
    rintro e w' ⟨rfl, hw⟩
    obtain rfl := hw.symm
    clear c1 hw
    go_wp2_with fail
    obtain ⟨w8, hw8⟩ : ∃ w8, w.drew = w8 := ⟨_, rfl⟩
    have B8 : Below w.heap.size w w8 := by rw [← hw8]; exact (Below.refl _ _).drew
    have r8 : ∀ w', Below w8.heap.size w8 w' → w'.cell? ⟨t.r, 0, none⟩ = some (.int .i64 rm) := fun w' hw' => q0 w' (B8.trans (hw'.mono B8.size))
    refine hs_begin (S := (Below w8.heap.size w8)) 10 rfl (by kernel_rfl) ?_
    rw [hw8]
    clear hw8
    have hS : (Below w8.heap.size w8) w8 := Below.refl _ _
    refine hs_take (i := 0) (d := some 14) (v := ?_) rfl (by kernel_rfl) (by kernel_rfl) (by kernel_rfl) (by rfl) ?_ hS rfl ?_
    rotate_left
    · intro w' hw
      go_simp
      try with_reducible rfl
    simp only [Act.put, List.setIfInBounds_toArray, List.set_cons_zero, List.set_cons_succ]
    refine hs_take (i := 1) (d := some 15) (v := ?_) rfl (by kernel_rfl) (by kernel_rfl) (by kernel_rfl) (by rfl) ?_ hS rfl ?_
    rotate_left
    · intro w' hw
      go_simp
      try with_reducible rfl
    simp only [Act.put, List.setIfInBounds_toArray, List.set_cons_zero, List.set_cons_succ]
    refine hs_take (i := 2) (d := some 16) (v := ?_) rfl (by kernel_rfl) (by kernel_rfl) (by kernel_rfl) (by rfl) ?_ hS rfl ?_
    rotate_left
    · intro w' hw
      go_simp
      try with_reducible rfl
    simp only [Act.put, List.setIfInBounds_toArray, List.set_cons_zero, List.set_cons_succ]
    refine hs_take (i := 3) (d := some 17) (v := ?_) rfl (by kernel_rfl) (by kernel_rfl) (by kernel_rfl) (by rfl) ?_ hS rfl ?_
    rotate_left
    · intro w' hw
      go_simp
      try with_reducible rfl
    simp only [Act.put, List.setIfInBounds_toArray, List.set_cons_zero, List.set_cons_succ]
    refine hs_take (i := 4) (d := some 18) (v := ?_) rfl (by kernel_rfl) (by kernel_rfl) (by kernel_rfl) (by rfl) ?_ hS rfl ?_
    rotate_left
    · intro w' hw
      go_simp
      try with_reducible rfl
    simp only [Act.put, List.setIfInBounds_toArray, List.set_cons_zero, List.set_cons_succ]
    refine hs_take (i := 5) (d := some 19) (v := ?_) rfl (by kernel_rfl) (by kernel_rfl) (by kernel_rfl) (by rfl) ?_ hS rfl ?_
    rotate_left
    · intro w' hw
      have hc := r8 w' hw
      go_simp
      try with_reducible rfl
    simp only [Act.put, List.setIfInBounds_toArray, List.set_cons_zero, List.set_cons_succ]
    refine hs_take (i := 6) (d := some 20) (v := ?_) rfl (by kernel_rfl) (by kernel_rfl) (by kernel_rfl) (by rfl) ?_ hS rfl ?_
    rotate_left
    · intro w' hw
      go_simp
      try with_reducible rfl
    simp only [Act.put, List.setIfInBounds_toArray, List.set_cons_zero, List.set_cons_succ]
    refine hs_call (i := 7) (d := some 21) rfl (by kernel_rfl) (by rfl) (by go_simp; first | done | exact ⟨rfl, rfl⟩ | with_reducible rfl) rfl ?_
    refine (cU w8 B8).mono ?_
    rintro e' w9 ⟨rfl, hb9, -⟩
    have hS : (Below w8.heap.size w8) w9 := hb9
    refine ⟨_, rfl, hS, ?_⟩
    simp only [Act.put, List.setIfInBounds_toArray, List.set_cons_zero, List.set_cons_succ]
    refine hs_take (i := 8) (d := some 22) (v := ?_) rfl (by kernel_rfl) (by kernel_rfl) (by kernel_rfl) (by rfl) ?_ hS rfl ?_
    rotate_left
    · intro w' hw
      go_simp
      try with_reducible rfl
    simp only [Act.put, List.setIfInBounds_toArray, List.set_cons_zero, List.set_cons_succ]
    have hroom := HR.out
    refine hs_take (i := 9) (d := some 23) (v := .bool true) rfl (by kernel_rfl) (by kernel_rfl) (by kernel_rfl) (by rfl) (fun w' hw => by go_simp) hS rfl ?_
    simp only [Act.put, List.setIfInBounds_toArray, List.set_cons_zero, List.set_cons_succ]
    refine hs_done (by kernel_rfl) ?_
    have B9 := B8.trans (hS.mono B8.size)
    clear hroom hwr cU q0 r8 hS
    go_wp2_with fail
    go_ret
    exact ⟨rfl, HS.out _ B9⟩
  · rw [if_neg hroom, hd, show decide ((1 : Int) = 1) = true from rfl]
    have hroomC := hroomC hroom
    have HR := hide hroom
    obtain ⟨me, hme⟩ : ∃ me, M.may = me := ⟨_, rfl⟩
    obtain ⟨mE, mM⟩ := me
    simp only [hme] at c2 hmo hms ⊢
    clear hroom hd HS
    rcases hmo with rfl | rfl
    · rw [if_pos rfl]
      obtain rfl := hms rfl
      have HC := hide hroomC
      clear hme hms hroomC
      go_enter Tryz.func30, Tryz.ntmps30
      go_wp2_with fail
      refine c1.mono ?_
      rintro e w' ⟨rfl, hw⟩
      obtain rfl := hw.symm
      clear c1 hw
      go_wp2_with fail
      obtain ⟨w8, hw8⟩ : ∃ w8, w.drew = w8 := ⟨_, rfl⟩
      have B8 : Below w.heap.size w w8 := by rw [← hw8]; exact (Below.refl _ _).drew
      have r8 : ∀ w', Below w8.heap.size w8 w' → w'.cell? ⟨t.r, 0, none⟩ = some (.int .i64 rm) := fun w' hw' => q0 w' (B8.trans (hw'.mono B8.size))
      refine hs_begin (S := (Below w8.heap.size w8)) 10 rfl (by kernel_rfl) ?_
      rw [hw8]
      clear hw8
      have hS : (Below w8.heap.size w8) w8 := Below.refl _ _
      refine hs_take (i := 0) (d := some 14) (v := ?_) rfl (by kernel_rfl) (by kernel_rfl) (by kernel_rfl) (by rfl) ?_ hS rfl ?_
      rotate_left
      · intro w' hw
        go_simp
        try with_reducible rfl
      simp only [Act.put, List.setIfInBounds_toArray, List.set_cons_zero, List.set_cons_succ]
      refine hs_take (i := 1) (d := some 15) (v := ?_) rfl (by kernel_rfl) (by kernel_rfl) (by kernel_rfl) (by rfl) ?_ hS rfl ?_
      rotate_left
      · intro w' hw
        go_simp
        try with_reducible rfl
      simp only [Act.put, List.setIfInBounds_toArray, List.set_cons_zero, List.set_cons_succ]
      refine hs_take (i := 2) (d := some 16) (v := ?_) rfl (by kernel_rfl) (by kernel_rfl) (by kernel_rfl) (by rfl) ?_ hS rfl ?_
      rotate_left
      · intro w' hw
        go_simp
        try with_reducible rfl
      simp only [Act.put, List.setIfInBounds_toArray, List.set_cons_zero, List.set_cons_succ]
      refine hs_take (i := 3) (d := some 17) (v := ?_) rfl (by kernel_rfl) (by kernel_rfl) (by kernel_rfl) (by rfl) ?_ hS rfl ?_
      rotate_left
      · intro w' hw
        go_simp
        try with_reducible rfl
      simp only [Act.put, List.setIfInBounds_toArray, List.set_cons_zero, List.set_cons_succ]
      refine hs_take (i := 4) (d := some 18) (v := ?_) rfl (by kernel_rfl) (by kernel_rfl) (by kernel_rfl) (by rfl) ?_ hS rfl ?_
      rotate_left
      · intro w' hw
        go_simp
        try with_reducible rfl
      simp only [Act.put, List.setIfInBounds_toArray, List.set_cons_zero, List.set_cons_succ]
      refine hs_take (i := 5) (d := some 19) (v := ?_) rfl (by kernel_rfl) (by kernel_rfl) (by kernel_rfl) (by rfl) ?_ hS rfl ?_
      rotate_left
      · intro w' hw
        have hc := r8 w' hw
        go_simp
        try with_reducible rfl
      simp only [Act.put, List.setIfInBounds_toArray, List.set_cons_zero, List.set_cons_succ]
      refine hs_take (i := 6) (d := some 20) (v := ?_) rfl (by kernel_rfl) (by kernel_rfl) (by kernel_rfl) (by rfl) ?_ hS rfl ?_
      rotate_left
      · intro w' hw
        go_simp
        try with_reducible rfl
      simp only [Act.put, List.setIfInBounds_toArray, List.set_cons_zero, List.set_cons_succ]
      refine hs_call (i := 7) (d := some 21) rfl (by kernel_rfl) (by rfl) (by go_simp; first | done | exact ⟨rfl, rfl⟩ | with_reducible rfl) rfl ?_
      refine (cU w8 B8).mono ?_
      rintro e' w9 ⟨rfl, hb9, -⟩
      have hS : (Below w8.heap.size w8) w9 := hb9
      refine ⟨_, rfl, hS, ?_⟩
      simp only [Act.put, List.setIfInBounds_toArray, List.set_cons_zero, List.set_cons_succ]
      refine hs_take (i := 8) (d := some 22) (v := ?_) rfl (by kernel_rfl) (by kernel_rfl) (by kernel_rfl) (by rfl) ?_ hS rfl ?_
      rotate_left
      · intro w' hw
        go_simp
        try with_reducible rfl
      simp only [Act.put, List.setIfInBounds_toArray, List.set_cons_zero, List.set_cons_succ]
      have hroom := HR.out
      refine hs_take (i := 9) (d := some 23) (v := .bool false) rfl (by kernel_rfl) (by kernel_rfl) (by kernel_rfl) (by rfl) (fun w' hw => by go_simp) hS rfl ?_
      simp only [Act.put, List.setIfInBounds_toArray, List.set_cons_zero, List.set_cons_succ]
      refine hs_done (by kernel_rfl) ?_
      have B9 := B8.trans (hS.mono B8.size)
      have c3 := c2 _ B9
      clear hroom hwr cU q0 r8 hS c2
      go_wp2_with fail
      refine c3.mono ?_
      rintro e w' ⟨rfl, ⟨r1, aa1, ca1, ab1, cb1, x1, y1⟩, p1, h1, o1, n1⟩
      obtain rfl : r1 = t.r := p1
      have hroomC := HC.out
      clear c3
      have hok2 := h1.ok.put zs hz.2.1 (by have := hroomC; omega) true
      have hzz : ∀ z ∈ M.count.b ++ zs, 0 ≤ z ∧ z < 256 := hok2.zb
      have hlen : M.count.b.length + zs.length ≤ 1073741824 := by
        have e1 := hok2.rm
        have e2 := hok2.rl
        simp only [Mt.put, Mt.setA, Mt.get, List.length_append] at e1 e2
        omega
      have hmm : 0 + M.count.b.length ≤ 100000000000 := by omega
      have HX : Hid (∀ W1 na ncap, Below w'.heap.size w' W1 → RowN W1 t.r na ncap (M.count.b ++ zs) → (∀ x, na = some x → w'.heap.size ≤ x.block) → RTurned w (W1.setCell ⟨t.r, 2, none⟩ (.slice na (M.count.b.length + zs.length) ncap)) t (Mt.put zs true M.count)) := hide (fun W1 na ncap hb hr hn => by
        have e : rcells ⟨t.r, aa1, ca1, na, ncap, x1, y1⟩ (Mt.put zs true M.count) = (rcells ⟨t.r, aa1, ca1, ab1, cb1, x1, y1⟩ M.count).set 2 (.slice na (M.count.b.length + zs.length) ncap) := by
          rw [← List.length_append]; rfl
        refine RTurned.trans (t1 := t) rfl (Off.of_below B9) (fun _ q => .inl q) (RTurned.trans (t1 := ⟨t.r, aa1, ca1, ab1, cb1, x1, y1⟩) rfl o1 n1 (RTurned.of_cells (t := ⟨t.r, aa1, ca1, ab1, cb1, x1, y1⟩) (t' := ⟨t.r, aa1, ca1, na, ncap, x1, y1⟩) hb ?_ rfl (h1.below hb).ra hr (fun x hx => .inl (.inr (.inl ⟨x, hx, rfl⟩))) (fun x hx => .inr (hn x hx)) h1.px hok2))
        rw [e]
        exact (CellsR.start (h1.below hb)).set 2 _)
      go_wp2_with fail
      obtain ⟨wX, hwX⟩ : ∃ wX, w'.drew = wX := ⟨_, rfl⟩
      have hBX : Below w'.heap.size w' wX := by rw [← hwX]; exact (Below.refl _ _).drew
      have hX := h1.below hBX
      have hbA : Below wX.heap.size wX (wX.alloc (.cells #[] 5)) := (Below.refl _ _).alloc (Nat.le_refl _) _
      have kB : ∀ W, Below wX.heap.size wX W → W.cell? ⟨t.r, 2, none⟩ = some (.slice ab1 M.count.b.length cb1) := fun W hW => (hX.below hW).cell 2 rfl
      have hrow : RowAt (wX.alloc (.cells #[] 5)) ab1 M.count.b := (hX.below hbA).rb.row
      have hzX : RowAt wX a zs := ((hz.below B9).off o1 hne).below hBX
      refine hs_begin (S := (fun _ : World => True)) 16 rfl (by kernel_rfl) ?_
      rw [hwX]
      clear hwX
      have hS : (fun _ : World => True) wX := trivial
      refine hs_take (i := 0) (d := some 29) (v := ?_) rfl (by kernel_rfl) (by kernel_rfl) (by kernel_rfl) (by rfl) ?_ hS rfl ?_
      rotate_left
      · intro w' hw
        go_simp
        try with_reducible rfl
      simp only [Act.put, List.setIfInBounds_toArray, List.set_cons_zero, List.set_cons_succ]
      refine hs_take (i := 1) (d := some 30) (v := ?_) rfl (by kernel_rfl) (by kernel_rfl) (by kernel_rfl) (by rfl) ?_ hS rfl ?_
      rotate_left
      · intro w' hw
        go_simp
        try with_reducible rfl
      simp only [Act.put, List.setIfInBounds_toArray, List.set_cons_zero, List.set_cons_succ]
      refine hs_take (i := 3) (d := some 32) (v := ?_) rfl (by kernel_rfl) (by kernel_rfl) (by kernel_rfl) (by rfl) ?_ hS rfl ?_
      rotate_left
      · intro w' hw
        go_simp
        try with_reducible rfl
      simp only [Act.put, List.setIfInBounds_toArray, List.set_cons_zero, List.set_cons_succ]
      refine hs_take (i := 4) (d := some 33) (v := ?_) rfl (by kernel_rfl) (by kernel_rfl) (by kernel_rfl) (by rfl) ?_ hS rfl ?_
      rotate_left
      · intro w' hw
        go_simp
        try with_reducible rfl
      simp only [Act.put, List.setIfInBounds_toArray, List.set_cons_zero, List.set_cons_succ]
      refine hs_take (i := 5) (d := some 34) (v := ?_) rfl (by kernel_rfl) (by kernel_rfl) (by kernel_rfl) (by rfl) ?_ hS rfl ?_
      rotate_left
      · intro w' hw
        go_simp
        try with_reducible rfl
      simp only [Act.put, List.setIfInBounds_toArray, List.set_cons_zero, List.set_cons_succ]
      refine hs_take (i := 6) (d := some 35) (v := ?_) rfl (by kernel_rfl) (by kernel_rfl) (by kernel_rfl) (by rfl) ?_ hS rfl ?_
      rotate_left
      · intro w' hw
        go_simp
        try with_reducible rfl
      simp only [Act.put, List.setIfInBounds_toArray, List.set_cons_zero, List.set_cons_succ]
      refine hs_take (i := 7) (d := some 36) (v := ?_) rfl (by kernel_rfl) (by kernel_rfl) (by kernel_rfl) (by rfl) ?_ hS rfl ?_
      rotate_left
      · intro w' hw
        go_simp
        try with_reducible rfl
      simp only [Act.put, List.setIfInBounds_toArray, List.set_cons_zero, List.set_cons_succ]
      refine hs_take (i := 10) (d := some 39) (v := ?_) rfl (by kernel_rfl) (by kernel_rfl) (by kernel_rfl) (by rfl) ?_ hS rfl ?_
      rotate_left
      · intro w' hw
        go_simp
        try with_reducible rfl
      simp only [Act.put, List.setIfInBounds_toArray, List.set_cons_zero, List.set_cons_succ]
      refine hs_take (i := 12) (d := some 41) (v := ?_) rfl (by kernel_rfl) (by kernel_rfl) (by kernel_rfl) (by rfl) ?_ hS rfl ?_
      rotate_left
      · intro w' hw
        go_simp
        try with_reducible rfl
      simp only [Act.put, List.setIfInBounds_toArray, List.set_cons_zero, List.set_cons_succ]
      refine hs_take (i := 13) (d := some 42) (v := ?_) rfl (by kernel_rfl) (by kernel_rfl) (by kernel_rfl) (by rfl) ?_ hS rfl ?_
      rotate_left
      · intro w' hw
        go_simp
        try with_reducible rfl
      simp only [Act.put, List.setIfInBounds_toArray, List.set_cons_zero, List.set_cons_succ]
      refine hs_forkL (l := [2, 8]) (by kernel_rfl) (by simp) ?_
      intro ii hii
      simp only [List.mem_cons, List.not_mem_nil, or_false] at hii
      rcases hii with rfl | rfl
      · refine st_runX (i := 2) (d := some 31) rfl (by rfl) rfl (ex_bs0 rfl) ?_
        rintro vB W' ⟨rfl, rfl⟩
        refine ⟨trivial, ?_⟩
        simp only [Act.put, List.setIfInBounds_toArray, List.set_cons_zero, List.set_cons_succ]
        refine hs_runX (i := 8) (d := some 37) rfl (by kernel_rfl) (by rfl) rfl (ex_load rfl rfl (kB _ hbA)) ?_
        rintro vA W' ⟨rfl, hx⟩
        obtain rfl := hx.symm
        clear hx
        refine ⟨trivial, ?_⟩
        simp only [Act.put, List.setIfInBounds_toArray, List.set_cons_zero, List.set_cons_succ]
        refine hs_runX (i := 9) (d := some 38) rfl (by kernel_rfl) (by rfl) rfl (ex_append rfl rfl rfl (owns_new0 wX) (by simp) hrow hmm) ?_
        rintro vC W' ⟨hownC, hgrC⟩
        have hBC := below_gr hbA (by simp) (owns_new0 wX) hgrC
        refine ⟨trivial, ?_⟩
        simp only [Act.put, List.setIfInBounds_toArray, List.set_cons_zero, List.set_cons_succ]
        refine hs_runX (i := 11) (d := some 40) rfl (by kernel_rfl) (by rfl) rfl (ex_append rfl rfl rfl hownC hBC.size (hzX.below hBC) (by omega)) ?_
        rintro vD W' ⟨hownD, hgrD⟩
        have hBD := below_gr hBC hBC.size hownC hgrD
        have hownD2 : W'.ownsRow wX.heap.size 5 1 vD (M.count.b.length + zs.length) (v8 (M.count.b ++ zs)) := by
          rw [v8_append]
          simpa using hownD
        refine ⟨trivial, ?_⟩
        simp only [Act.put, List.setIfInBounds_toArray, List.set_cons_zero, List.set_cons_succ]
        obtain ⟨na, ncap, rfl, hRN, hNB⟩ := row_new hownD2 List.length_append (R := t.r) hX.lt hzz (by omega)
        refine hs_take (i := 14) (d := some 43) (v := ?_) rfl (by kernel_rfl) (by kernel_rfl) (by kernel_rfl) (by rfl) ?_ hS rfl ?_
        rotate_left
        · intro w' hw
          go_simp
          try with_reducible rfl
        simp only [Act.put, List.setIfInBounds_toArray, List.set_cons_zero, List.set_cons_succ]
        have hth : W'.there t.r 0 11 := (hX.below hBD).th
        have hst := run_store1 (P := Tryz.prog) W' t.r 2 35 (.slice na (M.count.b.length + zs.length) ncap) (by have := there_part hth 2 1 (by omega); rwa [Nat.zero_add] at this) iszBs rfl
        refine hs_store (i := 15) rfl (by kernel_rfl) (by rfl) (exec_storeP rfl rfl rfl hst) rfl trivial ?_
        refine hs_done (by kernel_rfl) ?_
        have HF := hide (HX.out W' na ncap (hBX.trans (hBD.mono hBX.size)) hRN (fun x hx => Nat.le_trans hBX.size (hNB x hx)))
        clear HX hS hst hownD hownD2 hgrD hBD hRN hNB hownC hgrC hBC
        go_wp2_with fail
        go_ret
        exact ⟨rfl, HF.out⟩
      · refine st_runX (i := 8) (d := some 37) rfl (by rfl) rfl (ex_load rfl rfl (kB _ (Below.refl _ _))) ?_
        rintro vA W' ⟨rfl, hx⟩
        obtain rfl := hx.symm
        clear hx
        refine ⟨trivial, ?_⟩
        simp only [Act.put, List.setIfInBounds_toArray, List.set_cons_zero, List.set_cons_succ]
        refine hs_runX (i := 2) (d := some 31) rfl (by kernel_rfl) (by rfl) rfl (ex_bs0 rfl) ?_
        rintro vB W' ⟨rfl, rfl⟩
        refine ⟨trivial, ?_⟩
        simp only [Act.put, List.setIfInBounds_toArray, List.set_cons_zero, List.set_cons_succ]
        refine hs_runX (i := 9) (d := some 38) rfl (by kernel_rfl) (by rfl) rfl (ex_append rfl rfl rfl (owns_new0 wX) (by simp) hrow hmm) ?_
        rintro vC W' ⟨hownC, hgrC⟩
        have hBC := below_gr hbA (by simp) (owns_new0 wX) hgrC
        refine ⟨trivial, ?_⟩
        simp only [Act.put, List.setIfInBounds_toArray, List.set_cons_zero, List.set_cons_succ]
        refine hs_runX (i := 11) (d := some 40) rfl (by kernel_rfl) (by rfl) rfl (ex_append rfl rfl rfl hownC hBC.size (hzX.below hBC) (by omega)) ?_
        rintro vD W' ⟨hownD, hgrD⟩
        have hBD := below_gr hBC hBC.size hownC hgrD
        have hownD2 : W'.ownsRow wX.heap.size 5 1 vD (M.count.b.length + zs.length) (v8 (M.count.b ++ zs)) := by
          rw [v8_append]
          simpa using hownD
        refine ⟨trivial, ?_⟩
        simp only [Act.put, List.setIfInBounds_toArray, List.set_cons_zero, List.set_cons_succ]
        obtain ⟨na, ncap, rfl, hRN, hNB⟩ := row_new hownD2 List.length_append (R := t.r) hX.lt hzz (by omega)
        refine hs_take (i := 14) (d := some 43) (v := ?_) rfl (by kernel_rfl) (by kernel_rfl) (by kernel_rfl) (by rfl) ?_ hS rfl ?_
        rotate_left
        · intro w' hw
          go_simp
          try with_reducible rfl
        simp only [Act.put, List.setIfInBounds_toArray, List.set_cons_zero, List.set_cons_succ]
        have hth : W'.there t.r 0 11 := (hX.below hBD).th
        have hst := run_store1 (P := Tryz.prog) W' t.r 2 35 (.slice na (M.count.b.length + zs.length) ncap) (by have := there_part hth 2 1 (by omega); rwa [Nat.zero_add] at this) iszBs rfl
        refine hs_store (i := 15) rfl (by kernel_rfl) (by rfl) (exec_storeP rfl rfl rfl hst) rfl trivial ?_
        refine hs_done (by kernel_rfl) ?_
        have HF := hide (HX.out W' na ncap (hBX.trans (hBD.mono hBX.size)) hRN (fun x hx => Nat.le_trans hBX.size (hNB x hx)))
        clear HX hS hst hownD hownD2 hgrD hBD hRN hNB hownC hgrC hBC
        go_wp2_with fail
        go_ret
        exact ⟨rfl, HF.out⟩
    · rw [if_neg (by omega)]
      clear hme hms hroomC hz hne
      go_enter Tryz.func30, Tryz.ntmps30
      go_wp2_with fail
      refine c1.mono ?_
      rintro e w' ⟨rfl, hw⟩
      obtain rfl := hw.symm
      clear c1 hw
      go_wp2_with fail
      obtain ⟨w8, hw8⟩ : ∃ w8, w.drew = w8 := ⟨_, rfl⟩
      have B8 : Below w.heap.size w w8 := by rw [← hw8]; exact (Below.refl _ _).drew
      have r8 : ∀ w', Below w8.heap.size w8 w' → w'.cell? ⟨t.r, 0, none⟩ = some (.int .i64 rm) := fun w' hw' => q0 w' (B8.trans (hw'.mono B8.size))
      refine hs_begin (S := (Below w8.heap.size w8)) 10 rfl (by kernel_rfl) ?_
      rw [hw8]
      clear hw8
      have hS : (Below w8.heap.size w8) w8 := Below.refl _ _
      refine hs_take (i := 0) (d := some 14) (v := ?_) rfl (by kernel_rfl) (by kernel_rfl) (by kernel_rfl) (by rfl) ?_ hS rfl ?_
      rotate_left
      · intro w' hw
        go_simp
        try with_reducible rfl
      simp only [Act.put, List.setIfInBounds_toArray, List.set_cons_zero, List.set_cons_succ]
      refine hs_take (i := 1) (d := some 15) (v := ?_) rfl (by kernel_rfl) (by kernel_rfl) (by kernel_rfl) (by rfl) ?_ hS rfl ?_
      rotate_left
      · intro w' hw
        go_simp
        try with_reducible rfl
      simp only [Act.put, List.setIfInBounds_toArray, List.set_cons_zero, List.set_cons_succ]
      refine hs_take (i := 2) (d := some 16) (v := ?_) rfl (by kernel_rfl) (by kernel_rfl) (by kernel_rfl) (by rfl) ?_ hS rfl ?_
      rotate_left
      · intro w' hw
        go_simp
        try with_reducible rfl
      simp only [Act.put, List.setIfInBounds_toArray, List.set_cons_zero, List.set_cons_succ]
      refine hs_take (i := 3) (d := some 17) (v := ?_) rfl (by kernel_rfl) (by kernel_rfl) (by kernel_rfl) (by rfl) ?_ hS rfl ?_
      rotate_left
      · intro w' hw
        go_simp
        try with_reducible rfl
      simp only [Act.put, List.setIfInBounds_toArray, List.set_cons_zero, List.set_cons_succ]
      refine hs_take (i := 4) (d := some 18) (v := ?_) rfl (by kernel_rfl) (by kernel_rfl) (by kernel_rfl) (by rfl) ?_ hS rfl ?_
      rotate_left
      · intro w' hw
        go_simp
        try with_reducible rfl
      simp only [Act.put, List.setIfInBounds_toArray, List.set_cons_zero, List.set_cons_succ]
      refine hs_take (i := 5) (d := some 19) (v := ?_) rfl (by kernel_rfl) (by kernel_rfl) (by kernel_rfl) (by rfl) ?_ hS rfl ?_
      rotate_left
      · intro w' hw
        have hc := r8 w' hw
        go_simp
        try with_reducible rfl
      simp only [Act.put, List.setIfInBounds_toArray, List.set_cons_zero, List.set_cons_succ]
      refine hs_take (i := 6) (d := some 20) (v := ?_) rfl (by kernel_rfl) (by kernel_rfl) (by kernel_rfl) (by rfl) ?_ hS rfl ?_
      rotate_left
      · intro w' hw
        go_simp
        try with_reducible rfl
      simp only [Act.put, List.setIfInBounds_toArray, List.set_cons_zero, List.set_cons_succ]
      refine hs_call (i := 7) (d := some 21) rfl (by kernel_rfl) (by rfl) (by go_simp; first | done | exact ⟨rfl, rfl⟩ | with_reducible rfl) rfl ?_
      refine (cU w8 B8).mono ?_
      rintro e' w9 ⟨rfl, hb9, -⟩
      have hS : (Below w8.heap.size w8) w9 := hb9
      refine ⟨_, rfl, hS, ?_⟩
      simp only [Act.put, List.setIfInBounds_toArray, List.set_cons_zero, List.set_cons_succ]
      refine hs_take (i := 8) (d := some 22) (v := ?_) rfl (by kernel_rfl) (by kernel_rfl) (by kernel_rfl) (by rfl) ?_ hS rfl ?_
      rotate_left
      · intro w' hw
        go_simp
        try with_reducible rfl
      simp only [Act.put, List.setIfInBounds_toArray, List.set_cons_zero, List.set_cons_succ]
      have hroom := HR.out
      refine hs_take (i := 9) (d := some 23) (v := .bool false) rfl (by kernel_rfl) (by kernel_rfl) (by kernel_rfl) (by rfl) (fun w' hw => by go_simp) hS rfl ?_
      simp only [Act.put, List.setIfInBounds_toArray, List.set_cons_zero, List.set_cons_succ]
      refine hs_done (by kernel_rfl) ?_
      have B9 := B8.trans (hS.mono B8.size)
      have c3 := c2 _ B9
      clear hroom hwr cU q0 r8 hS c2
      go_wp2_with fail
      refine c3.mono ?_
      rintro e w' ⟨rfl, hw⟩
      have HF := hide (RTurned.trans (t1 := t) rfl (Off.of_below B9) (fun _ q => .inl q) hw)
      clear c3 hw
      go_wp2_with fail
      go_ret
      exact ⟨rfl, HF.out⟩
theorem rsync_any (t : Rv) (M : Mt) (area : Int) (w : World) (h : RefAt w t M) :
    Calls Tryz.prog 63 #[rptr t, .int .i64 area] w fun e w' => e = .returned (.int .i64 (M.sync area).1) ∧ RTurned w w' t (M.sync area).2 := by
  by_cases hfa : M.fault area = 0
  · obtain ⟨rfl | rfl, hon⟩ := Mt.fault_ok hfa
    · exact rSync_0 t M w h hon
    · exact rSync_1 t M w h hon
  · exact rSync_no t M area w h hfa
theorem rclear_any (t : Rv) (M : Mt) (area : Int) (w : World) (h : RefAt w t M) :
    Calls Tryz.prog 32 #[rptr t, .int .i64 area] w fun e w' => e = .returned (.int .i64 (M.empty area).1) ∧ RTurned w w' t (M.empty area).2 := by
  by_cases hfa : M.fault area = 0
  · obtain ⟨rfl | rfl, hon⟩ := Mt.fault_ok hfa
    · exact rClear_0 t M w h hon
    · exact rClear_1 t M w h hon
  · exact rClear_no t M area w h hfa
theorem rappend_any (t : Rv) (M : Mt) (area : Int) (a : Option Addr) (cap : Nat) (zs : List Int) (w : World) (h : RefAt w t M) (hz : RowAt w a zs) (hne : zs = [] ∨ ∀ x, a = some x → ¬ (x.block = t.r)) :
    Calls Tryz.prog 30 #[rptr t, .int .i64 area, .slice a zs.length cap] w fun e w' => e = .returned (.int .i64 (M.append area zs).1) ∧ RTurned w w' t (M.append area zs).2 := by
  by_cases hfa : M.fault area = 0
  · obtain ⟨rfl | rfl, hon⟩ := Mt.fault_ok hfa
    · exact rAppend_0 t M a cap zs w h hon hz hne
    · exact rAppend_1 t M a cap zs w h hon hz hne
  · exact rAppend_no t M area a cap zs w h hfa
end Go.Proofs.YtfkchnjbbbhmjaaGreat
namespace Go.Proofs.YtfkchnjbbbhmjaaGreat
open Go.RowKit
set_option linter.unusedVariables false
/-- the program's tape and the document's, of one state; neither in a block of A -/
structure Two (A : Nat → Prop) (w : World) (t : Tv) (r : Rv) (M : Mt) : Prop where
  tp : TapeAt w t M
  rf : RefAt w r M
  d : ∀ b, t.own b → ¬ r.own b
  ta : ∀ b, t.own b → ¬ A b
  ra : ∀ b, r.own b → ¬ A b
theorem Two.below {A : Nat → Prop} {w w' : World} {t : Tv} {r : Rv} {M : Mt} (h : Two A w t r M) (hb : Below w.heap.size w w') : Two A w' t r M := ⟨h.tp.below hb, h.rf.below hb, h.d, h.ta, h.ra⟩
/-- both have gone on -/
structure Mid2 (A : Nat → Prop) (w w1 : World) (t t1 : Tv) (r : Rv) (M M1 : Mt) : Prop where
  p : t1.p = t.p
  tp : TapeAt w1 t1 M1
  rf : RefAt w1 r M
  d : ∀ b, t1.own b → ¬ r.own b
  ta : ∀ b, t1.own b → ¬ A b
  off : Off t.own w w1
  fresh : ∀ b, t1.own b → t.own b ∨ w.heap.size ≤ b
theorem Two.first {A : Nat → Prop} {w w1 : World} {t : Tv} {r : Rv} {M M1 : Mt} (h : Two A w t r M) (hA : ∀ b, A b → b < w.heap.size) (hT : Turned w w1 t M1) : ∃ t1, Mid2 A w w1 t t1 r M M1 := by
  obtain ⟨t1, e1, e2, e3, e4⟩ := hT
  refine ⟨t1, e1, e2, h.rf.off e3 (fun b q q1 => h.d b q1 q), fun b q q1 => ?_, fun b q q1 => ?_, e3, e4⟩
  · rcases e4 b q with q2 | q2
    · exact h.d b q2 q1
    · have := h.rf.own_lt q1; omega
  · rcases e4 b q with q2 | q2
    · exact h.ta b q2 q1
    · have := hA b q1; omega
/-- what both come to -/
def Next2 (A : Nat → Prop) (w w' : World) (t : Tv) (r : Rv) (M' : Mt) : Prop := ∃ t' r', t'.p = t.p ∧ r'.r = r.r ∧ Two A w' t' r' M' ∧ Off (fun b => ¬ A b) w w'
theorem Mid2.second {A : Nat → Prop} {w w1 w2 w3 : World} {t t1 : Tv} {r : Rv} {M1 : Mt} (hw : Off (fun b => ¬ A b) w w1) (hra : ∀ b, r.own b → ¬ A b) (hA : ∀ b, A b → b < w.heap.size) (hp : t1.p = t.p) (ht : TapeAt w2 t1 M1) (hd : ∀ b, t1.own b → ¬ r.own b) (hta : ∀ b, t1.own b → ¬ A b) (ho : Off (fun b => ¬ A b) w1 w2) (hR : RTurned w2 w3 r M1) : Next2 A w w3 t r M1 := by
  obtain ⟨r1, e1, e2, e3, e4⟩ := hR
  have hw2 : Off (fun b => ¬ A b) w w2 := hw.trans ho (fun _ _ q => q)
  refine ⟨t1, r1, hp, e1, ⟨ht.off e3 (fun b q q1 => hd b q (.inl q1)), e2, fun b q q1 => ?_, hta, fun b q q1 => ?_⟩, hw2.trans e3 (fun b _ q => by rw [q]; exact hra _ (.inl rfl))⟩
  · rcases e4 b q1 with q2 | q2
    · exact hd b q q2
    · have := ht.own_lt q; omega
  · rcases e4 b q with q2 | q2
    · exact hra b q2 q1
    · have := hA b q1; have := hw2.size; omega
/-- the state behind an act -/
def actM (M : Mt) (y : Ac) : Mt :=
  if y.kind = 0 then (M.append y.area y.zs).2 else if y.kind = 1 then (M.sync y.area).2 else if y.kind = 2 then (M.empty y.area).2 else if y.kind = 3 then (M.arm y.n y.keep).2 else if y.kind = 4 then (M.fail y.keep).2 else if y.kind = 5 then { M with on := true } else M
end Go.Proofs.YtfkchnjbbbhmjaaGreat
namespace Go.Proofs.YtfkchnjbbbhmjaaGreat
open Go.RowKit
end Go.Proofs.YtfkchnjbbbhmjaaGreat
namespace Go.Proofs.YtfkchnjbbbhmjaaGreat
open Go.RowKit
set_option linter.unusedVariables false
set_option maxRecDepth 100000 in
set_option maxHeartbeats 4000000 in
theorem same_any (t : Tv) (r : Rv) (M : Mt) (A : Nat → Prop) (w : World) (h : Two A w t r M) :
    Calls Tryz.prog 10 #[tptr t, rptr r] w fun e w' => e = .returned (.bool true) ∧ Below w.heap.size w w' := by
  have cC := counts_any t M w h.tp
  unfold tptr rptr at *
  go_enter Tryz.func10, Tryz.ntmps10
  go_wp2_with fail
  refine cC.mono ?_
  rintro e w1 ⟨rfl, hB1⟩
  clear cC
  go_wp2_with fail
  obtain ⟨w8, hw8⟩ : ∃ w8, w1.drew = w8 := ⟨_, rfl⟩
  have B8 : Below w.heap.size w w8 := by rw [← hw8]; exact hB1.drew
  have k8 := h.below B8
  obtain ⟨ob, hob⟩ : ∃ ob, Hid (M.on = ob) := ⟨_, hide rfl⟩
  have x5 : ∀ w', Below w8.heap.size w8 w' → w'.cell? ⟨r.r, 5, none⟩ = some (.bool (!ob)) := fun w' hw' => by rw [← hob.out]; exact (k8.below hw').rf.cell 5 rfl
  have x9 : ∀ w', Below w8.heap.size w8 w' → w'.cell? ⟨r.r, 9, none⟩ = some (.int .i64 M.ops) := fun w' hw' => (k8.below hw').rf.cell 9 rfl
  have x10 : ∀ w', Below w8.heap.size w8 w' → w'.cell? ⟨r.r, 10, none⟩ = some (.int .i64 M.fa) := fun w' hw' => (k8.below hw').rf.cell 10 rfl
  refine hs_begin (S := (Below w8.heap.size w8)) 30 rfl (by kernel_rfl) ?_
  rw [hw8]
  clear hw8
  have hS : (Below w8.heap.size w8) w8 := Below.refl _ _
  refine hs_take (i := 0) (d := some 17) (v := ?_) rfl (by kernel_rfl) (by kernel_rfl) (by kernel_rfl) (by rfl) ?_ hS rfl ?_
  rotate_left
  · intro w' hw
    go_simp
    try with_reducible rfl
  simp only [Act.put, List.setIfInBounds_toArray, List.set_cons_zero, List.set_cons_succ]
  refine hs_take (i := 2) (d := some 19) (v := ?_) rfl (by kernel_rfl) (by kernel_rfl) (by kernel_rfl) (by rfl) ?_ hS rfl ?_
  rotate_left
  · intro w' hw
    go_simp
    try with_reducible rfl
  simp only [Act.put, List.setIfInBounds_toArray, List.set_cons_zero, List.set_cons_succ]
  refine hs_take (i := 3) (d := some 20) (v := ?_) rfl (by kernel_rfl) (by kernel_rfl) (by kernel_rfl) (by rfl) ?_ hS rfl ?_
  rotate_left
  · intro w' hw
    go_simp
    try with_reducible rfl
  simp only [Act.put, List.setIfInBounds_toArray, List.set_cons_zero, List.set_cons_succ]
  refine hs_take (i := 4) (d := some 21) (v := ?_) rfl (by kernel_rfl) (by kernel_rfl) (by kernel_rfl) (by rfl) ?_ hS rfl ?_
  rotate_left
  · intro w' hw
    go_simp
    try with_reducible rfl
  simp only [Act.put, List.setIfInBounds_toArray, List.set_cons_zero, List.set_cons_succ]
  refine hs_take (i := 5) (d := some 22) (v := ?_) rfl (by kernel_rfl) (by kernel_rfl) (by kernel_rfl) (by rfl) ?_ hS rfl ?_
  rotate_left
  · intro w' hw
    have hc := x5 w' hw
    go_simp
    try with_reducible rfl
  simp only [Act.put, List.setIfInBounds_toArray, List.set_cons_zero, List.set_cons_succ]
  refine hs_call (i := 1) (d := some 18) rfl (by kernel_rfl) (by rfl) (by go_simp; first | done | exact ⟨rfl, rfl⟩ | with_reducible rfl) rfl ?_
  refine (on_any t M w8 (k8.below hS).tp).mono ?_
  rintro e' wB ⟨rfl, hx⟩
  have hS : (Below w8.heap.size w8) wB := by rw [hx]; exact hS
  refine ⟨_, rfl, hS, ?_⟩
  simp only [Act.put, List.setIfInBounds_toArray, List.set_cons_zero, List.set_cons_succ]
  obtain rfl := hx.symm
  clear hx
  rw [hob.out]
  refine hs_take (i := 6) (d := some 23) (v := .bool false) rfl (by kernel_rfl) (by kernel_rfl) (by kernel_rfl) (by rfl) (fun w' hw => by cases ob <;> go_simp) hS rfl ?_
  simp only [Act.put, List.setIfInBounds_toArray, List.set_cons_zero, List.set_cons_succ]
  refine hs_take (i := 7) (d := some 24) (v := .bool false) rfl (by kernel_rfl) (by kernel_rfl) (by kernel_rfl) (by rfl) (fun w' hw => by go_simp) hS rfl ?_
  simp only [Act.put, List.setIfInBounds_toArray, List.set_cons_zero, List.set_cons_succ]
  refine hs_take (i := 8) (d := some 25) (v := ?_) rfl (by kernel_rfl) (by kernel_rfl) (by kernel_rfl) (by rfl) ?_ hS rfl ?_
  rotate_left
  · intro w' hw
    go_simp
    try with_reducible rfl
  simp only [Act.put, List.setIfInBounds_toArray, List.set_cons_zero, List.set_cons_succ]
  refine hs_take (i := 10) (d := some 27) (v := ?_) rfl (by kernel_rfl) (by kernel_rfl) (by kernel_rfl) (by rfl) ?_ hS rfl ?_
  rotate_left
  · intro w' hw
    go_simp
    try with_reducible rfl
  simp only [Act.put, List.setIfInBounds_toArray, List.set_cons_zero, List.set_cons_succ]
  refine hs_call (i := 9) (d := some 26) rfl (by kernel_rfl) (by rfl) (by go_simp; first | done | exact ⟨rfl, rfl⟩ | with_reducible rfl) rfl ?_
  refine (used_any t M w8 (k8.below hS).tp).mono ?_
  rintro e' wB ⟨rfl, hx⟩
  have hS : (Below w8.heap.size w8) wB := by rw [hx]; exact hS
  refine ⟨_, rfl, hS, ?_⟩
  simp only [Act.put, List.setIfInBounds_toArray, List.set_cons_zero, List.set_cons_succ]
  obtain rfl := hx.symm
  clear hx
  refine hs_call (i := 11) (d := some 28) rfl (by kernel_rfl) (by rfl) (by go_simp; first | done | exact ⟨rfl, rfl⟩ | with_reducible rfl) rfl ?_
  refine (rused_any r M w8 (k8.below hS).rf).mono ?_
  rintro e' w9 ⟨rfl, hb9, -⟩
  have hS : (Below w8.heap.size w8) w9 := hb9
  refine ⟨_, rfl, hS, ?_⟩
  simp only [Act.put, List.setIfInBounds_toArray, List.set_cons_zero, List.set_cons_succ]
  refine hs_take (i := 12) (d := some 29) (v := .bool false) rfl (by kernel_rfl) (by kernel_rfl) (by kernel_rfl) (by rfl) (fun w' hw => by go_simp) hS rfl ?_
  simp only [Act.put, List.setIfInBounds_toArray, List.set_cons_zero, List.set_cons_succ]
  refine hs_take (i := 13) (d := some 30) (v := .bool false) rfl (by kernel_rfl) (by kernel_rfl) (by kernel_rfl) (by rfl) (fun w' hw => by go_simp) hS rfl ?_
  simp only [Act.put, List.setIfInBounds_toArray, List.set_cons_zero, List.set_cons_succ]
  refine hs_take (i := 14) (d := some 31) (v := .bool false) rfl (by kernel_rfl) (by kernel_rfl) (by kernel_rfl) (by rfl) (fun w' hw => by go_simp) hS rfl ?_
  simp only [Act.put, List.setIfInBounds_toArray, List.set_cons_zero, List.set_cons_succ]
  refine hs_take (i := 15) (d := some 32) (v := ?_) rfl (by kernel_rfl) (by kernel_rfl) (by kernel_rfl) (by rfl) ?_ hS rfl ?_
  rotate_left
  · intro w' hw
    go_simp
    try with_reducible rfl
  simp only [Act.put, List.setIfInBounds_toArray, List.set_cons_zero, List.set_cons_succ]
  refine hs_take (i := 16) (d := some 33) (v := ?_) rfl (by kernel_rfl) (by kernel_rfl) (by kernel_rfl) (by rfl) ?_ hS rfl ?_
  rotate_left
  · intro w' hw
    go_simp
    try with_reducible rfl
  simp only [Act.put, List.setIfInBounds_toArray, List.set_cons_zero, List.set_cons_succ]
  refine hs_take (i := 17) (d := some 34) (v := ?_) rfl (by kernel_rfl) (by kernel_rfl) (by kernel_rfl) (by rfl) ?_ hS rfl ?_
  rotate_left
  · intro w' hw
    go_simp
    try with_reducible rfl
  simp only [Act.put, List.setIfInBounds_toArray, List.set_cons_zero, List.set_cons_succ]
  refine hs_take (i := 18) (d := some 35) (v := ?_) rfl (by kernel_rfl) (by kernel_rfl) (by kernel_rfl) (by rfl) ?_ hS rfl ?_
  rotate_left
  · intro w' hw
    go_simp
    try with_reducible rfl
  simp only [Act.put, List.setIfInBounds_toArray, List.set_cons_zero, List.set_cons_succ]
  refine hs_take (i := 19) (d := some 36) (v := ?_) rfl (by kernel_rfl) (by kernel_rfl) (by kernel_rfl) (by rfl) ?_ hS rfl ?_
  rotate_left
  · intro w' hw
    have hc := x9 w' hw
    go_simp
    try with_reducible rfl
  simp only [Act.put, List.setIfInBounds_toArray, List.set_cons_zero, List.set_cons_succ]
  refine hs_take (i := 20) (d := some 37) (v := .bool false) rfl (by kernel_rfl) (by kernel_rfl) (by kernel_rfl) (by rfl) (fun w' hw => by go_simp) hS rfl ?_
  simp only [Act.put, List.setIfInBounds_toArray, List.set_cons_zero, List.set_cons_succ]
  refine hs_take (i := 21) (d := some 38) (v := .bool false) rfl (by kernel_rfl) (by kernel_rfl) (by kernel_rfl) (by rfl) (fun w' hw => by go_simp) hS rfl ?_
  simp only [Act.put, List.setIfInBounds_toArray, List.set_cons_zero, List.set_cons_succ]
  refine hs_take (i := 22) (d := some 39) (v := .bool false) rfl (by kernel_rfl) (by kernel_rfl) (by kernel_rfl) (by rfl) (fun w' hw => by go_simp) hS rfl ?_
  simp only [Act.put, List.setIfInBounds_toArray, List.set_cons_zero, List.set_cons_succ]
  refine hs_take (i := 23) (d := some 40) (v := ?_) rfl (by kernel_rfl) (by kernel_rfl) (by kernel_rfl) (by rfl) ?_ hS rfl ?_
  rotate_left
  · intro w' hw
    go_simp
    try with_reducible rfl
  simp only [Act.put, List.setIfInBounds_toArray, List.set_cons_zero, List.set_cons_succ]
  refine hs_take (i := 24) (d := some 41) (v := ?_) rfl (by kernel_rfl) (by kernel_rfl) (by kernel_rfl) (by rfl) ?_ hS rfl ?_
  rotate_left
  · intro w' hw
    go_simp
    try with_reducible rfl
  simp only [Act.put, List.setIfInBounds_toArray, List.set_cons_zero, List.set_cons_succ]
  refine hs_take (i := 25) (d := some 42) (v := ?_) rfl (by kernel_rfl) (by kernel_rfl) (by kernel_rfl) (by rfl) ?_ hS rfl ?_
  rotate_left
  · intro w' hw
    go_simp
    try with_reducible rfl
  simp only [Act.put, List.setIfInBounds_toArray, List.set_cons_zero, List.set_cons_succ]
  refine hs_take (i := 26) (d := some 43) (v := ?_) rfl (by kernel_rfl) (by kernel_rfl) (by kernel_rfl) (by rfl) ?_ hS rfl ?_
  rotate_left
  · intro w' hw
    go_simp
    try with_reducible rfl
  simp only [Act.put, List.setIfInBounds_toArray, List.set_cons_zero, List.set_cons_succ]
  refine hs_take (i := 27) (d := some 44) (v := ?_) rfl (by kernel_rfl) (by kernel_rfl) (by kernel_rfl) (by rfl) ?_ hS rfl ?_
  rotate_left
  · intro w' hw
    have hc := x10 w' hw
    go_simp
    try with_reducible rfl
  simp only [Act.put, List.setIfInBounds_toArray, List.set_cons_zero, List.set_cons_succ]
  refine hs_take (i := 28) (d := some 45) (v := .bool false) rfl (by kernel_rfl) (by kernel_rfl) (by kernel_rfl) (by rfl) (fun w' hw => by go_simp) hS rfl ?_
  simp only [Act.put, List.setIfInBounds_toArray, List.set_cons_zero, List.set_cons_succ]
  refine hs_take (i := 29) (d := some 46) (v := .bool false) rfl (by kernel_rfl) (by kernel_rfl) (by kernel_rfl) (by rfl) (fun w' hw => by go_simp) hS rfl ?_
  simp only [Act.put, List.setIfInBounds_toArray, List.set_cons_zero, List.set_cons_succ]
  refine hs_done (by kernel_rfl) ?_
  have B9 := B8.trans (hS.mono B8.size)
  clear hS x5 x9 x10 hb9 hob
  go_wp2_with fail
  go_loopw [7] (fun iv wr => ∃ z : Int, -1 ≤ z ∧ z ≤ 3 ∧ iv = .int .i64 z ∧ Below w.heap.size w wr) (fun iv _ => (3 - intOf iv).toNat)
  case atStart => exact ⟨-1, by omega, by omega, rfl, B9⟩
  case round =>
    clear B9
    obtain ⟨z, hz0, hz1, rfl, hB⟩ := hrel
    obtain ⟨wo, rfl⟩ : ∃ wo, wo = wr := ⟨_, rfl⟩
    by_cases hlt : z ≤ 2
    · have ho := h.below hB
      have cR : Calls Tryz.prog 41 #[.pointer (some ⟨t.p, 0, none⟩), .int .i64 z] wo fun e w' => ∃ a cap, e = .returned (.tuple #[.slice a (M.read z).length cap, .int .i64 (M.fault z)]) ∧ RowAt w' a (M.read z) ∧ Below wo.heap.size wo w' ∧ ∀ x, a = some x → wo.heap.size ≤ x.block ∧ x.block < w'.heap.size := live_read (A := fun _ => False) ⟨t, rfl, ho.tp, fun _ _ q => q⟩ z
      have cX := fun w0 (hb : Below wo.heap.size wo w0) => rread_any r M z w0 (ho.below hb).rf
      have cS := fun w0 (hb : Below wo.heap.size wo w0) => sure_any t M z w0 (ho.below hb).tp
      have cY := fun w0 (hb : Below wo.heap.size wo w0) => rsure_any r M z w0 (ho.below hb).rf
      obtain ⟨zr, hzr⟩ : ∃ zr, Hid (M.read z = zr) := ⟨_, hide rfl⟩
      obtain ⟨fz, hfz⟩ : ∃ fz, Hid (M.fault z = fz) := ⟨_, hide rfl⟩
      obtain ⟨sv, hsv⟩ : ∃ sv, Hid ((if z = 0 then (M.sa : Int) else if z = 1 then (M.sb : Int) else 0) = sv) := ⟨_, hide rfl⟩
      simp only [hzr.out, hfz.out] at cR cX
      simp only [hsv.out] at cS cY
      unfold tptr rptr at *
      go_wp2_with fail
      refine cR.mono ?_
      rintro e w2 ⟨ra, rc, rfl, hR2, hB2, -⟩
      clear cR
      have cX := cX w2 hB2
      go_wp2_with fail
      refine cX.mono ?_
      rintro e w3 ⟨sa2, sc2, rfl, hR3, hB3⟩
      clear cX
      have hB23 := hB2.trans (hB3.mono hB2.size)
      have kr1 := row_str (cap := rc) (hR2.below hB3)
      have kr2 := row_str (cap := sc2) hR3
      obtain ⟨st, hst⟩ : ∃ st, Hid (strOf zr = st) := ⟨_, hide rfl⟩
      rw [hst.out] at kr1 kr2
      have cS := cS w3 hB23
      have cY := cY w3 hB23
      go_wp2_with fail
      refine cS.mono ?_
      rintro e wq ⟨rfl, hx⟩
      obtain rfl := hx.symm
      clear hx cS
      go_wp2_with fail
      refine cY.mono ?_
      rintro e wq ⟨rfl, hx⟩
      obtain rfl := hx.symm
      clear hx cY kr1 kr2
      have hBn := hB.trans (hB23.mono hB.size)
      go_wp2_with fail
      go_roundw
      case rel => exact ⟨z + 1, by omega, by omega, by go_num, hBn⟩
      case measure => simp [intOf]; omega
    · have k1 : ¬ z ≤ 2 := hlt
      go_wp2_with fail
      go_ret
      exact ⟨rfl, hB⟩
end Go.Proofs.YtfkchnjbbbhmjaaGreat
namespace Go.Proofs.YtfkchnjbbbhmjaaGreat.Cr
namespace Crc

def poly : BitVec 24 := BitVec.ofNat 24 8801531
/-- one bit's stepB -/
def T (x : BitVec 24) : BitVec 24 := (x <<< 1) ^^^ (if x.msb then poly else (0 : BitVec 24))
def T4 (x : BitVec 24) : BitVec 24 := T (T (T (T x)))
def T8 (x : BitVec 24) : BitVec 24 := T4 (T4 x)
/-- a byte's stepB -/
def stepB (x : BitVec 24) (c : Int) : BitVec 24 := T8 (x ^^^ (BitVec.ofInt 24 c <<< 16))
def crc (x : BitVec 24) (zs : List Int) : BitVec 24 := zs.foldl stepB x

theorem xor_left_comm (x y z : BitVec 24) : x ^^^ (y ^^^ z) = y ^^^ (x ^^^ z) := by
  rw [← BitVec.xor_assoc, BitVec.xor_comm x y, BitVec.xor_assoc]
theorem xor_cancel (x y : BitVec 24) : x ^^^ (x ^^^ y) = y := by
  rw [← BitVec.xor_assoc, BitVec.xor_self, BitVec.zero_xor]

theorem T_xor (x y : BitVec 24) : T (x ^^^ y) = T x ^^^ T y := by
  unfold T
  rw [BitVec.shiftLeft_xor_distrib, BitVec.msb_xor]
  cases x.msb <;> cases y.msb <;> simp [BitVec.xor_assoc, BitVec.xor_comm, xor_left_comm, xor_cancel]
theorem T4_xor (x y : BitVec 24) : T4 (x ^^^ y) = T4 x ^^^ T4 y := by unfold T4; simp only [T_xor]
theorem T8_xor (x y : BitVec 24) : T8 (x ^^^ y) = T8 x ^^^ T8 y := by unfold T8; simp only [T4_xor]
theorem T_zero : T (0 : BitVec 24) = (0 : BitVec 24) := by decide
theorem T8_zero : T8 (0 : BitVec 24) = (0 : BitVec 24) := by decide

def tab : List Nat := [0, 8801531, 9098509, 825846, 9692897, 1419802, 1651692, 10452759, 10584377, 2608578, 2839604, 11344079, 3303384, 11807523, 12104405, 4128302]

theorem T_low (x : BitVec 24) (h : x.toNat < 8388608) : T x = x <<< 1 ∧ (x <<< 1).toNat = 2 * x.toNat := by
  have hm : x.msb = false := by rw [BitVec.msb_eq_decide]; simp; omega
  refine ⟨by simp [T, hm], ?_⟩
  rw [BitVec.toNat_shiftLeft]; simp [Nat.shiftLeft_eq]; omega

theorem T4_low (x : BitVec 24) (h : x.toNat < 1048576) : (T4 x).toNat = 16 * x.toNat := by
  obtain ⟨a1, b1⟩ := T_low x (by omega)
  obtain ⟨a2, b2⟩ := T_low (T x) (by rw [a1, b1]; omega)
  obtain ⟨a3, b3⟩ := T_low (T (T x)) (by rw [a2, b2, a1, b1]; omega)
  obtain ⟨a4, b4⟩ := T_low (T (T (T x))) (by rw [a3, b3, a2, b2, a1, b1]; omega)
  unfold T4
  rw [a4, b4, a3, b3, a2, b2, a1, b1]; omega

theorem T4_tab : ∀ i : Fin 16, (T4 (BitVec.ofNat 24 (i.val * 1048576))).toNat = tab.getD i.val 0 := by decide

/-- four bits at once -/
theorem T4_nib (x : BitVec 24) : (T4 x).toNat = (x.toNat % 1048576 * 16) ^^^ (tab.getD (x.toNat / 1048576) 0) := by
  have hx := x.isLt
  have hsplit : x = BitVec.ofNat 24 (x.toNat % 1048576) ^^^ BitVec.ofNat 24 (x.toNat / 1048576 * 1048576) := by
    apply BitVec.eq_of_toNat_eq
    rw [BitVec.toNat_xor, BitVec.toNat_ofNat, BitVec.toNat_ofNat, Nat.mod_eq_of_lt (show x.toNat % 1048576 < 2 ^ 24 by omega), Nat.mod_eq_of_lt (show x.toNat / 1048576 * 1048576 < 2 ^ 24 by omega)]
    have e := Nat.shiftLeft_add_eq_or_of_lt (b := x.toNat % 1048576) (i := 20) (by omega) (x.toNat / 1048576)
    have : (x.toNat / 1048576) <<< 20 = x.toNat / 1048576 * 1048576 := by rw [Nat.shiftLeft_eq]
    rw [this] at e
    apply Nat.eq_of_testBit_eq
    intro i
    rw [Nat.testBit_xor]
    have h1 : (x.toNat / 1048576 * 1048576).testBit i = (decide (20 ≤ i) && (x.toNat / 1048576).testBit (i - 20)) := by
      rw [← this, Nat.testBit_shiftLeft]
    have h2 : (x.toNat % 1048576).testBit i = (decide (i < 20) && x.toNat.testBit i) := by
      exact Nat.testBit_mod_two_pow x.toNat 20 i
    have h3 : (x.toNat / 1048576).testBit (i - 20) = x.toNat.testBit (i - 20 + 20) := by
      exact Nat.testBit_div_two_pow (n := 20) x.toNat (i - 20)
    rw [h1, h2, h3]
    by_cases hi : i < 20
    · have : ¬ 20 ≤ i := by omega
      simp [hi, this]
    · have h20 : 20 ≤ i := by omega
      have : i - 20 + 20 = i := by omega
      simp [hi, h20, this]
  have e := T4_xor (BitVec.ofNat 24 (x.toNat % 1048576)) (BitVec.ofNat 24 (x.toNat / 1048576 * 1048576))
  rw [← hsplit] at e
  rw [e, BitVec.toNat_xor, T4_low _ (by rw [BitVec.toNat_ofNat]; omega)]
  have h16 := T4_tab ⟨x.toNat / 1048576, by omega⟩
  simp only at h16
  rw [h16, BitVec.toNat_ofNat, Nat.mod_eq_of_lt (by omega)]
  congr 1; omega

theorem stepB_lt (x : BitVec 24) (c : Int) : (stepB x c).toNat < 16777216 := (stepB x c).isLt
theorem crc_append (x : BitVec 24) (a b : List Int) : crc x (a ++ b) = crc (crc x a) b := by simp [crc, List.foldl_append]

end Crc
end Go.Proofs.YtfkchnjbbbhmjaaGreat.Cr
namespace Go.Proofs.YtfkchnjbbbhmjaaGreat.Cr
open Go.RowKit
namespace Crc
theorem wrap_i64_small (n : Nat) (h : n < 9223372036854775808) : IntKind.i64.wrap (n : Int) = n := by
  rw [IntKind.wrap_i64]; omega
theorem ofInt64 (a : Nat) (ha : a < 9223372036854775808) : (BitVec.ofInt 64 (a : Int)).toNat = a := by
  rw [BitVec.ofInt_natCast, BitVec.toNat_ofNat]; exact Nat.mod_eq_of_lt (by omega)
theorem i64_xor (a b : Nat) (ha : a < 9223372036854775808) (hb : b < 9223372036854775808) : bits .xor .i64 (a : Int) (b : Int) = ((a ^^^ b : Nat) : Int) := by
  have hx : a ^^^ b < 2 ^ 63 := Nat.xor_lt_two_pow (by omega) (by omega)
  show IntKind.i64.wrap ((BitVec.ofInt 64 (a : Int) ^^^ BitVec.ofInt 64 (b : Int)).toNat : Int) = _
  rw [BitVec.toNat_xor, ofInt64 a ha, ofInt64 b hb]
  exact wrap_i64_small _ (by omega)
/-- the lowest 24 bits of any number -/
theorem i64_low24 (n : Int) : bits .and .i64 n 16777215 = n % 16777216 := by
  show IntKind.i64.wrap ((BitVec.ofInt 64 n &&& BitVec.ofInt 64 16777215).toNat : Int) = _
  have h2 : (BitVec.ofInt 64 16777215).toNat = 16777215 := by decide
  rw [BitVec.toNat_and, h2]
  have h3 : (BitVec.ofInt 64 n).toNat &&& 16777215 = (BitVec.ofInt 64 n).toNat % 16777216 := Nat.and_two_pow_sub_one_eq_mod _ 24
  rw [h3, wrap_i64_small _ (by omega), BitVec.toNat_ofInt]
  omega
def into (x : BitVec 24) (c : Int) : BitVec 24 := x ^^^ (BitVec.ofInt 24 c <<< 16)
theorem into_bits (x : BitVec 24) (c : Int) (h0 : 0 ≤ c) (h1 : c < 256) : bits .xor .i64 (x.toNat : Int) (c * 65536) = ((into x c).toNat : Int) := by
  obtain ⟨n, rfl⟩ := Int.eq_ofNat_of_zero_le h0
  have hx := x.isLt
  have e : ((n : Int) * 65536) = ((n * 65536 : Nat) : Int) := by omega
  rw [e, i64_xor _ _ (by omega) (by omega)]
  unfold into
  rw [BitVec.toNat_xor, BitVec.toNat_shiftLeft, BitVec.ofInt_natCast, BitVec.toNat_ofNat, Nat.shiftLeft_eq, Nat.mod_eq_of_lt (show n < 2 ^ 24 by omega), Nat.mod_eq_of_lt (show n * 2 ^ 16 < 2 ^ 24 by omega)]
theorem tab_lt (i : Nat) : tab.getD i 0 < 16777216 := by
  by_cases h : i < 16
  · have := (by decide : ∀ i : Fin 16, tab.getD i.val 0 < 16777216) ⟨i, h⟩
    exact this
  · rw [List.getD_eq_getElem?_getD, List.getElem?_eq_none (show tab.length ≤ i by simp [tab]; omega)]; decide
theorem nib_bits (z : BitVec 24) : bits .xor .i64 (bits .and .i64 ((z.toNat : Int) * 16) 16777215) ((tab[z.toNat / 1048576]?.getD 0 : Nat) : Int) = ((T4 z).toNat : Int) := by
  have hz := z.isLt
  rw [i64_low24]
  have e : ((z.toNat : Int) * 16) % 16777216 = ((z.toNat % 1048576 * 16 : Nat) : Int) := by omega
  have h2 := tab_lt (z.toNat / 1048576)
  rw [List.getD_eq_getElem?_getD] at h2
  rw [e, i64_xor _ _ (by omega) (by omega), T4_nib, List.getD_eq_getElem?_getD]
def nibs (k : Nat) (y : BitVec 24) : BitVec 24 := match k with | 0 => y | 1 => T4 y | _ => T8 y
end Crc
open Crc
set_option maxRecDepth 100000 in
set_option maxHeartbeats 2000000 in
theorem clos (B L : Nat) (x : BitVec 24) (c : Int) (w : World) (hc0 : 0 ≤ c) (hc1 : c < 256) (hBL : B < L)
   (hnow : w.cell? ⟨B, 0, none⟩ = some (.int .i64 (x.toNat : Int))) (hfz : w.frozen? ⟨B, 0, none⟩ = false)
   (htab : ∀ j, j < 16 → w.cell? ⟨L, j, none⟩ = some (.int .i64 ((tab.getD j 0 : Nat) : Int))) :
   Calls Tryz.prog 114 #[.int .u8 c, .pointer (some ⟨B, 0, none⟩), .pointer (some ⟨L, 0, none⟩)] w fun e w' => e = .returned (.int .i64 ((stepB x c).toNat : Int)) ∧ 
     w'.cell? ⟨B, 0, none⟩ = some (.int .i64 ((stepB x c).toNat : Int)) ∧ w'.frozen? ⟨B, 0, none⟩ = false ∧ (∀ j, j < 16 → w'.cell? ⟨L, j, none⟩ = some (.int .i64 ((tab.getD j 0 : Nat) : Int))) ∧ Below B w w' := by
  have hxl := x.isLt
  have e1 := into_bits x c hc0 hc1
  generalize hy : into x c = y at e1
  have HY : Hid (into x c = y) := hy
  clear hy
  have hyl := y.isLt
  go_enter Tryz.func114, Tryz.ntmps114
  go_wp2
  go_loopw [10] (fun i wr => ∃ k : Nat, k ≤ 2 ∧ i = .int .i64 k ∧ ∃ z, Hid (nibs k y = z) ∧ wr.cell? ⟨B, 0, none⟩ = some (.int .i64 (z.toNat : Int)) ∧ wr.frozen? ⟨B, 0, none⟩ = false ∧ (∀ j, j < 16 → wr.cell? ⟨L, j, none⟩ = some (.int .i64 ((tab.getD j 0 : Nat) : Int))) ∧ Below B w wr) (fun i _ => 2 - (intOf i).toNat)
  case atStart =>
    refine ⟨0, by omega, rfl, y, rfl, World.cell?_setCell_same _ _ _ hnow, (World.frozen?_setCell _ _ _ _).trans hfz, fun j hj => ?_, (Below.refl B w).setCell (p := ⟨B, 0, none⟩) (Nat.le_refl _) _⟩
    exact (World.cell?_setCell_other _ _ _ _ (by simp)).trans (htab j hj)
  case round =>
    obtain ⟨k, hk, rfl, z, hz, hn, hf, ht, hb⟩ := hrel
    have hzl := z.isLt
    have eN := nib_bits z
    by_cases hlt : k < 2
    · have hti := ht (z.toNat / 1048576) (by omega)
      go_wp2
      go_region
      go_wp2
      go_roundw
      case rel =>
        refine ⟨k + 1, by omega, by go_num, T4 z, ?_, World.cell?_setCell_same _ _ _ hn, (World.frozen?_setCell _ _ _ _).trans hf, fun j hj => ?_, (hb.setCell (p := ⟨B, 0, none⟩) (Nat.le_refl _) _).drew⟩
        · have := hz.out
          match k, hlt with
          | 0, _ => exact congrArg T4 this
          | 1, _ => exact congrArg T4 this
        · exact (World.cell?_setCell_other _ _ _ _ (by simp)).trans (ht j hj)
      case measure => simp [intOf]; omega
    · obtain rfl : k = 2 := by omega
      go_wp2
      go_ret
      have e : stepB x c = z := by
        have := hz.out; have h2 := HY.out; rw [← this, ← h2]; exact rfl
      rw [e]
      exact ⟨rfl, hn, hf, ht, hb⟩
end Go.Proofs.YtfkchnjbbbhmjaaGreat.Cr
namespace Go.Proofs.YtfkchnjbbbhmjaaGreat.Cr
open Go.RowKit
open Crc

/-- 'the box at B holds the sum, the table lies at B + 1' -/
def Boxed (B : Nat) (x : BitVec 24) (w : World) : Prop :=
  w.cell? ⟨B, 0, none⟩ = some (.int .i64 (x.toNat : Int)) ∧ w.frozen? ⟨B, 0, none⟩ = false ∧ (∀ j, j < 16 → w.cell? ⟨B + 1, j, none⟩ = some (.int .i64 ((tab.getD j 0 : Nat) : Int))) ∧ B + 2 ≤ w.heap.size

def fv (B : Nat) : Value := .func (.func 114) #[] #[.pointer (some ⟨B, 0, none⟩), .pointer (some ⟨B + 1, 0, none⟩)]

set_option maxRecDepth 100000 in
set_option maxHeartbeats 2000000 in
theorem stepsFrom_any (n : Int) (w : World) (x : BitVec 24) (hn : n = (x.toNat : Int)) :
   Calls Tryz.prog 99 #[.int .i64 n] w fun e w' => e = .returned (fv w.heap.size) ∧ Boxed w.heap.size x w' ∧ Below w.heap.size w w' := by
  have hmf : ∀ (fn : Fn) (first cap : Array Value) (w : World), (Instr.makeFunc fn first cap).run Tryz.prog w = .ok (.func fn first cap) w := fun _ _ _ _ => rfl
  subst hn
  go_enter Tryz.func99, Tryz.ntmps99
  go_wp2
  go_ret
  refine ⟨rfl, ⟨?_, ?_, ?_, by simp⟩, ((Below.refl _ _).alloc (Nat.le_refl _) _).alloc (by simp) _⟩
  · rw [World.cell?_alloc_past _ _ _ (by simp), World.cell?_alloc_at _ _ _ _ rfl]; rfl
  · rw [World.frozen?_alloc_past _ _ _ (by simp), World.frozen?_alloc_at _ _ _ _ rfl]
  · intro j hj
    rw [World.cell?_alloc_at _ _ _ _ (by simp)]
    match j, hj with
    | 0, _ => rfl
    | 1, _ => rfl
    | 2, _ => rfl
    | 3, _ => rfl
    | 4, _ => rfl
    | 5, _ => rfl
    | 6, _ => rfl
    | 7, _ => rfl
    | 8, _ => rfl
    | 9, _ => rfl
    | 10, _ => rfl
    | 11, _ => rfl
    | 12, _ => rfl
    | 13, _ => rfl
    | 14, _ => rfl
    | 15, _ => rfl
    | n + 16, h => omega

theorem crc_take (x : BitVec 24) (zs : List Int) (k : Nat) (h : k < zs.length) : crc x (zs.take (k + 1)) = stepB (crc x (zs.take k)) (zs.getD k 0) := by
  rw [List.take_succ_eq_append_getElem h, crc_append, List.getD_eq_getElem?_getD, List.getElem?_eq_getElem h]; rfl
theorem low_bits (n : Int) : bits .and .i64 n 16777215 = ((BitVec.ofInt 24 n).toNat : Int) := by
  rw [i64_low24, BitVec.toNat_ofInt]; omega
end Go.Proofs.YtfkchnjbbbhmjaaGreat.Cr
