/- a journal: Lay; a journal's Bytes; the journal's find; the journal's Open; frames that were laid are read back; a part of them is a part; a tape whose power may go: what an operation comes to -/
import Derived.Test.YtfkchnjbbbhmjabXB9
namespace Go.Proofs.Ytfkchnjbbbhmjab
open Go.RowKit
structure Jv.ok (j : Jv) : Prop where
  a0 : 0 ≤ j.ar
  a1 : j.ar ≤ 1
  t0 : 0 ≤ j.tu
  t1 : j.tu ≤ 1099511627776
/-- what Lay comes to: the error, the tape, the journal -/
structure LayR where
  e : Int
  M : Mt
  j : Jv
def layW (j : Jv) (r : Int × Mt) : LayR :=
  if r.1 = 0 then ⟨0, r.2, { j with ar := 1 - j.ar, tu := j.tu + 1 }⟩
  else if r.1 = 151 then if (r.2.empty (1 - j.ar)).1 = 0 then ⟨151, (r.2.empty (1 - j.ar)).2, j⟩ else ⟨(r.2.empty (1 - j.ar)).1, (r.2.empty (1 - j.ar)).2, j⟩
  else ⟨r.1, r.2, j⟩
def layM (M : Mt) (j : Jv) (rs : List Rc) : LayR :=
  if takesE (M.jon j.fs) rs = 0 then if 1099511627776 ≤ j.tu then ⟨2, M, j⟩ else layW j (writeM M (1 - j.ar) (j.tu + 1) (rs.map Rc.zs)) else ⟨takesE (M.jon j.fs) rs, M, j⟩
theorem takes_few {on : Bool} {rs : List Rc} (h : takesE on rs = 0) : ∀ r ∈ rs, r.zs.length ≤ 4194304 := by
  unfold takesE at h
  cases on
  · rw [if_neg (by simp)] at h; cases h
  · rw [if_pos rfl] at h
    split at h
    · assumption
    · cases h
theorem JAt.turned {w : World} {j : Jv} (h : JAt w j) (a t : Int) : JAt ((w.setCell ⟨j.q, 1, none⟩ (.int .i64 a)).setCell ⟨j.q, 2, none⟩ (.int .i64 t)) { j with ar := a, tu := t } := by
  have r1 := range_set h.c 1 (.int .i64 a)
  rw [Nat.zero_add] at r1
  have r2 := range_set r1 2 (.int .i64 t)
  rw [Nat.zero_add] at r2
  exact ⟨r2, there_set (there_set h.th _ _) _ _⟩
set_option maxRecDepth 100000 in
set_option maxHeartbeats 4000000 in
theorem jlay_any (j : Jv) (M : Mt) (A : Nat → Prop) (ra : Option Addr) (rc : Nat) (rs : List Rc) (w0 : World) (h : JAt w0 j) (hj : j.ok) (hT : Live A w0 j.p M) (hA : ∀ b, A b → b < w0.heap.size) (hAq : A j.q)
    (hr : RowOf Rc.cells w0 ra rs) (hl : rs.length ≤ maxLen) (hrA : rs = [] ∨ ∀ x, ra = some x → A x.block ∧ x.block ≠ j.q) (hrs : ∀ r ∈ rs, RowAt w0 r.a r.zs ∧ (r.zs = [] ∨ ∀ x, r.a = some x → A x.block)) :
    Calls Try.prog 18 #[jptr j, .slice ra rs.length rc] w0 fun e w' => e = .returned (.int .i64 (layM M j rs).e) ∧ Live A w' j.p (layM M j rs).M ∧ JAt w' (layM M j rs).j ∧ Off (fun b => b = j.q ∨ ¬ A b) w0 w' := by
  have cT := jtakes_any j M A ra rc rs w0 h hT hr hl
  have ha0 := hj.a0
  have ha1 := hj.a1
  have ht0 := hj.t0
  have ht1 := hj.t1
  have offm : ∀ {w w' : World}, Off (fun b => ¬ A b) w w' → Off (fun b => b = j.q ∨ ¬ A b) w w' := fun h => h.mono (fun _ _ q => .inr q)
  unfold layM
  unfold jptr at *
  by_cases hte : takesE (M.jon j.fs) rs = 0
  rotate_left
  · rw [if_neg hte]
    obtain ⟨te, htx⟩ : ∃ te, Hid (takesE (M.jon j.fs) rs = te) := ⟨_, hide rfl⟩
    rw [htx.out] at cT hte ⊢
    have hz0 : (te == 0) = false := by simpa using hte
    clear hte
    go_enter Try.func18, Try.ntmps18
    go_wp2_with fail
    refine cT.mono ?_
    rintro e w1 ⟨rfl, hB1⟩
    have HF := hide (And.intro (hT.below hB1) (And.intro (h.below hB1) (offm (Off.of_below (F := fun b => ¬ A b) hB1))))
    clear cT h hT
    go_wp2_with fail
    go_ret
    exact ⟨rfl, HF.out⟩
  · rw [if_pos hte]
    have hfew := takes_few hte
    rw [hte] at cT
    clear hte
    by_cases htm : 1099511627776 ≤ j.tu
    · rw [if_pos htm]
      go_enter Try.func18, Try.ntmps18
      go_wp2_with fail
      refine cT.mono ?_
      rintro e w1 ⟨rfl, hB1⟩
      have HF := hide (And.intro (hT.below hB1) (And.intro (h.below hB1) (offm (Off.of_below (F := fun b => ¬ A b) hB1))))
      have x2 := (h.below hB1).cell 2 rfl
      clear cT h hT
      go_wp2_with fail
      go_ret
      exact ⟨rfl, HF.out⟩
    · rw [if_neg htm]
      have hA1 : ∀ w1 : World, Below w0.heap.size w0 w1 → ∀ b, A b → b < w1.heap.size := fun w1 hb b hb' => Nat.lt_of_lt_of_le (hA b hb') hb.size
      have cW := fun w1 (hb : Below w0.heap.size w0 w1) => jwrite_any j M A (1 - j.ar) (j.tu + 1) ra rc rs w1 (h.below hb) (hT.below hb) (hA1 w1 hb) hAq (by omega) (hr.below hb) hl (hrA.imp id (fun q x hx => (q x hx).1)) (fun r hrm => ⟨(hrs r hrm).1.below hb, hfew r hrm, (hrs r hrm).2⟩)
      unfold jptr at cW
      obtain ⟨we, hwe⟩ : ∃ we, Hid (writeM M (1 - j.ar) (j.tu + 1) (rs.map Rc.zs) = we) := ⟨_, hide rfl⟩
      obtain ⟨wE, Mw⟩ := we
      simp only [hwe.out] at cW
      rw [hwe.out]
      clear hwe hfew
      obtain ⟨ot, hot⟩ : ∃ ot, Hid (1 - j.ar = ot) := ⟨_, hide rfl⟩
      obtain ⟨nt, hnt⟩ : ∃ nt, Hid (j.tu + 1 = nt) := ⟨_, hide rfl⟩
      have W1 : (1 : Int) - j.ar = ot := hot.out
      have W2 : j.tu + 1 = nt := hnt.out
      have LW : Hid (layW j (wE, Mw) = if wE = 0 then ⟨0, Mw, { j with ar := ot, tu := nt }⟩ else if wE = 151 then if (Mw.empty ot).1 = 0 then ⟨151, (Mw.empty ot).2, j⟩ else ⟨(Mw.empty ot).1, (Mw.empty ot).2, j⟩ else ⟨wE, Mw, j⟩) := hide (by unfold layW; rw [hot.out, hnt.out])
      rw [LW.out]
      simp only [hot.out, hnt.out] at cW
      clear LW hot hnt
      by_cases hw0 : wE = 0
      · subst hw0
        rw [if_pos rfl]
        go_enter Try.func18, Try.ntmps18
        go_wp2_with fail
        refine cT.mono ?_
        rintro e w1 ⟨rfl, hB1⟩
        clear cT
        have x1 := (h.below hB1).cell 1 rfl
        have x2 := (h.below hB1).cell 2 rfl
        go_wp2_with fail
        go_quiet (fail)
        have cW := cW (w1.drewN nq) (below_drewN hB1 _)
        go_wp2_with fail
        refine cW.mono ?_
        rintro e w3 ⟨rfl, hT3, hJ3, hO3⟩
        clear cW x1 x2
        have y1 := hJ3.cell 1 rfl
        have y2 := hJ3.cell 2 rfl
        have f1 : w3.frozen? ⟨j.q, 1, none⟩ = false := by have := (hJ3.th 1 (by omega)).2; rwa [Nat.zero_add] at this
        have f2 : w3.frozen? ⟨j.q, 2, none⟩ = false := by have := (hJ3.th 2 (by omega)).2; rwa [Nat.zero_add] at this
        have HF : Hid (Live A ((w3.setCell ⟨j.q, 1, none⟩ (.int .i64 ot)).setCell ⟨j.q, 2, none⟩ (.int .i64 nt)) j.p Mw ∧ JAt ((w3.setCell ⟨j.q, 1, none⟩ (.int .i64 ot)).setCell ⟨j.q, 2, none⟩ (.int .i64 nt)) { j with ar := ot, tu := nt } ∧ Off (fun b => b = j.q ∨ ¬ A b) w0 ((w3.setCell ⟨j.q, 1, none⟩ (.int .i64 ot)).setCell ⟨j.q, 2, none⟩ (.int .i64 nt))) := hide (by
          have o1 : Off (fun b => b = j.q) w3 ((w3.setCell ⟨j.q, 1, none⟩ (.int .i64 ot)).setCell ⟨j.q, 2, none⟩ (.int .i64 nt)) := (Off.of_setCell (F := fun b => b = j.q) w3 _ _ rfl).trans (Off.of_setCell (F := fun b => b = j.q) _ _ _ rfl) (fun _ _ q => q)
          exact ⟨hT3.off o1 (fun b q => by rw [q]; exact hAq), hJ3.turned ot nt, ((offm (Off.of_below (F := fun b => ¬ A b) (below_drewN hB1 _))).trans (offm hO3) (fun _ _ q => q)).trans (o1.mono (fun _ _ q => .inl q)) (fun _ _ q => q)⟩)
        clear hT3 hJ3 hO3 h hT
        go_wp2_with fail
        go_ret
        exact ⟨rfl, HF.out⟩
      · rw [if_neg hw0]
        have hz0 : (wE == 0) = false := by simpa using hw0
        by_cases hw1 : wE = 151
        · subst hw1
          rw [if_pos rfl]
          obtain ⟨ce, hce⟩ : ∃ ce, Hid (Mw.empty ot = ce) := ⟨_, hide rfl⟩
          obtain ⟨cE, Mc⟩ := ce
          rw [hce.out]
          by_cases hcE : cE = 0
          · subst hcE
            rw [if_pos rfl]
            clear hw0 hz0
            go_enter Try.func18, Try.ntmps18
            go_wp2_with fail
            refine cT.mono ?_
            rintro e w1 ⟨rfl, hB1⟩
            clear cT
            have x1 := (h.below hB1).cell 1 rfl
            have x2 := (h.below hB1).cell 2 rfl
            go_wp2_with fail
            go_quiet (fail)
            have cW := cW (w1.drewN nq) (below_drewN hB1 _)
            go_wp2_with fail
            refine cW.mono ?_
            rintro e w3 ⟨rfl, hT3, hJ3, hO3⟩
            clear cW x1 x2
            have y0 := hJ3.cell 0 rfl
            have hA3 : ∀ b, A b → b < w3.heap.size := fun b hb => by have := hA1 _ hB1 b hb; have := hO3.size; simp at this; omega
            have cC := live_clear hT3 hA3 ot
            rw [hce.out] at cC
            go_wp2_with fail
            refine cC.mono ?_
            rintro e w4 ⟨rfl, hT4, hO4⟩
            clear cC
            have HF := hide (And.intro hT4 (And.intro (hJ3.at (hO4.2 _ hJ3.lt (fun q => q hAq))) ((((offm (Off.of_below (F := fun b => ¬ A b) (below_drewN hB1 nq))).trans (offm hO3) (fun _ _ q => q)).trans (offm hO4) (fun _ _ q => q)))))
            clear hT4 hJ3 hO3 h hT hO4
            go_wp2_with fail
            go_ret
            exact ⟨rfl, HF.out⟩
          · rw [if_neg hcE]
            have hc0 : (cE == 0) = false := by simpa using hcE
            clear hw0 hz0 hcE
            go_enter Try.func18, Try.ntmps18
            go_wp2_with fail
            refine cT.mono ?_
            rintro e w1 ⟨rfl, hB1⟩
            clear cT
            have x1 := (h.below hB1).cell 1 rfl
            have x2 := (h.below hB1).cell 2 rfl
            go_wp2_with fail
            go_quiet (fail)
            have cW := cW (w1.drewN nq) (below_drewN hB1 _)
            go_wp2_with fail
            refine cW.mono ?_
            rintro e w3 ⟨rfl, hT3, hJ3, hO3⟩
            clear cW x1 x2
            have y0 := hJ3.cell 0 rfl
            have hA3 : ∀ b, A b → b < w3.heap.size := fun b hb => by have := hA1 _ hB1 b hb; have := hO3.size; simp at this; omega
            have cC := live_clear hT3 hA3 ot
            rw [hce.out] at cC
            go_wp2_with fail
            refine cC.mono ?_
            rintro e w4 ⟨rfl, hT4, hO4⟩
            clear cC
            have HF := hide (And.intro hT4 (And.intro (hJ3.at (hO4.2 _ hJ3.lt (fun q => q hAq))) ((((offm (Off.of_below (F := fun b => ¬ A b) (below_drewN hB1 nq))).trans (offm hO3) (fun _ _ q => q)).trans (offm hO4) (fun _ _ q => q)))))
            clear hT4 hJ3 hO3 h hT hO4
            go_wp2_with fail
            go_ret
            exact ⟨rfl, HF.out⟩
        · rw [if_neg hw1]
          have hz1 : (wE == 151) = false := by simpa using hw1
          clear hw0 hw1
          go_enter Try.func18, Try.ntmps18
          go_wp2_with fail
          refine cT.mono ?_
          rintro e w1 ⟨rfl, hB1⟩
          clear cT
          have x1 := (h.below hB1).cell 1 rfl
          have x2 := (h.below hB1).cell 2 rfl
          go_wp2_with fail
          go_quiet (fail)
          have cW := cW (w1.drewN nq) (below_drewN hB1 _)
          go_wp2_with fail
          refine cW.mono ?_
          rintro e w3 ⟨rfl, hT3, hJ3, hO3⟩
          have HF := hide (And.intro hT3 (And.intro hJ3 ((offm (Off.of_below (F := fun b => ¬ A b) (below_drewN hB1 nq))).trans (offm hO3) (fun _ _ q => q))))
          clear cW x1 x2 hT3 hJ3 hO3 h hT
          go_wp2_with fail
          go_ret
          exact ⟨rfl, HF.out⟩
end Go.Proofs.Ytfkchnjbbbhmjab
namespace Go.Proofs.Ytfkchnjbbbhmjab
open Go.RowKit
def Mt.sureOf (M : Mt) (area : Int) : Int := if area = 0 then (M.sa : Int) else if area = 1 then (M.sb : Int) else 0
def Mt.jbytes (M : Mt) (area : Int) : Int := if M.on then ((M.read area).length : Int) else M.sureOf area
set_option maxRecDepth 100000 in
set_option maxHeartbeats 4000000 in
theorem jbytes_any (j : Jv) (M : Mt) (A : Nat → Prop) (w : World) (h : JAt w j) (hT : Live A w j.p M) : Calls Try.prog 19 #[jptr j] w fun e w' => e = .returned (.int .i64 (M.jbytes j.ar)) ∧ Below w.heap.size w w' := by
  have cm := jmade_any j w h
  have h0 := h.cell 0 rfl
  have cO := live_on hT
  unfold jptr at *
  go_enter Try.func19, Try.ntmps19
  cases hon : M.on
  · rw [hon] at cO
    have HR : Hid (M.jbytes j.ar = M.sureOf j.ar) := hide (by unfold Mt.jbytes; rw [hon]; rfl)
    clear hon
    go_wp2_with fail
    refine cm.mono ?_
    rintro e w' ⟨rfl, hw⟩
    obtain rfl := hw.symm
    clear cm hw
    go_wp2_with fail
    refine cO.mono ?_
    rintro e w' ⟨rfl, hw⟩
    obtain rfl := hw.symm
    clear cO hw
    go_wp2_with fail
    obtain ⟨w8, hw8⟩ : ∃ w8, w.drew = w8 := ⟨_, rfl⟩
    have hB8 : Below w.heap.size w w8 := by rw [← hw8]; exact (Below.refl _ _).drew
    have k0 : ∀ w', Below w8.heap.size w8 w' → w'.cell? ⟨j.q, 0, none⟩ = some (.pointer (some ⟨j.p, 0, none⟩)) := fun w' hw => (h.below (hB8.trans (hw.mono hB8.size))).cell 0 rfl
    have k1 : ∀ w', Below w8.heap.size w8 w' → w'.cell? ⟨j.q, 1, none⟩ = some (.int .i64 j.ar) := fun w' hw => (h.below (hB8.trans (hw.mono hB8.size))).cell 1 rfl
    have cS := live_sure (hT.below hB8) j.ar
    have e0 : (if j.ar = 0 then (M.sa : Int) else if j.ar = 1 then (M.sb : Int) else 0) = M.sureOf j.ar := rfl
    rw [e0] at cS
    generalize M.sureOf j.ar = n at *
    clear hT h0 e0
    refine hs_begin (S := (Below w8.heap.size w8)) 10 rfl (by kernel_rfl) ?_
    rw [hw8]
    clear hw8
    have hS : (Below w8.heap.size w8) w8 := Below.refl _ _
    refine hs_take (i := 0) (d := some 14) (v := ?_) rfl (by kernel_rfl) (by kernel_rfl) (by kernel_rfl) (by rfl) ?_ hS rfl ?_
    rotate_left
    · intro w' hw
      go_simp
      try with_reducible rfl
    simp only [Act.put, List.setIfInBounds_toArray, List.set_cons_zero, List.set_cons_succ]
    refine hs_take (i := 1) (d := some 15) (v := ?_) rfl (by kernel_rfl) (by kernel_rfl) (by kernel_rfl) (by rfl) ?_ hS rfl ?_
    rotate_left
    · intro w' hw
      go_simp
      try with_reducible rfl
    simp only [Act.put, List.setIfInBounds_toArray, List.set_cons_zero, List.set_cons_succ]
    refine hs_take (i := 2) (d := some 16) (v := ?_) rfl (by kernel_rfl) (by kernel_rfl) (by kernel_rfl) (by rfl) ?_ hS rfl ?_
    rotate_left
    · intro w' hw
      go_simp
      try with_reducible rfl
    simp only [Act.put, List.setIfInBounds_toArray, List.set_cons_zero, List.set_cons_succ]
    refine hs_take (i := 3) (d := some 17) (v := ?_) rfl (by kernel_rfl) (by kernel_rfl) (by kernel_rfl) (by rfl) ?_ hS rfl ?_
    rotate_left
    · intro w' hw
      have := k0 w' hw
      go_simp
      try with_reducible rfl
    simp only [Act.put, List.setIfInBounds_toArray, List.set_cons_zero, List.set_cons_succ]
    refine hs_take (i := 4) (d := some 18) (v := ?_) rfl (by kernel_rfl) (by kernel_rfl) (by kernel_rfl) (by rfl) ?_ hS rfl ?_
    rotate_left
    · intro w' hw
      go_simp
      try with_reducible rfl
    simp only [Act.put, List.setIfInBounds_toArray, List.set_cons_zero, List.set_cons_succ]
    refine hs_take (i := 5) (d := some 19) (v := ?_) rfl (by kernel_rfl) (by kernel_rfl) (by kernel_rfl) (by rfl) ?_ hS rfl ?_
    rotate_left
    · intro w' hw
      go_simp
      try with_reducible rfl
    simp only [Act.put, List.setIfInBounds_toArray, List.set_cons_zero, List.set_cons_succ]
    refine hs_take (i := 6) (d := some 20) (v := ?_) rfl (by kernel_rfl) (by kernel_rfl) (by kernel_rfl) (by rfl) ?_ hS rfl ?_
    rotate_left
    · intro w' hw
      go_simp
      try with_reducible rfl
    simp only [Act.put, List.setIfInBounds_toArray, List.set_cons_zero, List.set_cons_succ]
    refine hs_take (i := 7) (d := some 21) (v := ?_) rfl (by kernel_rfl) (by kernel_rfl) (by kernel_rfl) (by rfl) ?_ hS rfl ?_
    rotate_left
    · intro w' hw
      have := k1 w' hw
      go_simp
      try with_reducible rfl
    simp only [Act.put, List.setIfInBounds_toArray, List.set_cons_zero, List.set_cons_succ]
    refine hs_call (i := 8) (d := some 22) rfl (by kernel_rfl) (by rfl) (by go_simp; first | done | exact ⟨rfl, rfl⟩ | with_reducible rfl) rfl ?_
    refine (cS).mono ?_
    rintro e' w9 ⟨rfl, hx⟩
    have hS : Below w8.heap.size w8 w9 := by rw [hx]; exact hS
    refine ⟨_, rfl, hS, ?_⟩
    simp only [Act.put, List.setIfInBounds_toArray, List.set_cons_zero, List.set_cons_succ]
    obtain rfl := hx.symm
    clear hx
    refine hs_take (i := 9) (d := some 2) (v := ?_) rfl (by kernel_rfl) (by kernel_rfl) (by kernel_rfl) (by rfl) ?_ hS rfl ?_
    rotate_left
    · intro w' hw
      go_simp
      try with_reducible rfl
    simp only [Act.put, List.setIfInBounds_toArray, List.set_cons_zero, List.set_cons_succ]
    refine hs_done (by kernel_rfl) ?_
    go_wp2
    go_ret
    rw [HR.out]
    exact ⟨rfl, hB8⟩
  · rw [hon] at cO
    have HR : Hid (M.jbytes j.ar = ((M.read j.ar).length : Int)) := hide (by unfold Mt.jbytes; rw [hon]; rfl)
    clear hon
    go_wp2_with fail
    refine cm.mono ?_
    rintro e w' ⟨rfl, hw⟩
    obtain rfl := hw.symm
    clear cm hw
    go_wp2_with fail
    refine cO.mono ?_
    rintro e w' ⟨rfl, hw⟩
    obtain rfl := hw.symm
    clear cO hw
    go_wp2_with fail
    obtain ⟨w8, hw8⟩ : ∃ w8, w.drew = w8 := ⟨_, rfl⟩
    have hB8 : Below w.heap.size w w8 := by rw [← hw8]; exact (Below.refl _ _).drew
    have k0 : ∀ w', Below w8.heap.size w8 w' → w'.cell? ⟨j.q, 0, none⟩ = some (.pointer (some ⟨j.p, 0, none⟩)) := fun w' hw => (h.below (hB8.trans (hw.mono hB8.size))).cell 0 rfl
    have k1 : ∀ w', Below w8.heap.size w8 w' → w'.cell? ⟨j.q, 1, none⟩ = some (.int .i64 j.ar) := fun w' hw => (h.below (hB8.trans (hw.mono hB8.size))).cell 1 rfl
    have cR := live_read (hT.below hB8) j.ar
    generalize M.read j.ar = zs at *
    clear hT h0
    refine hs_begin (S := (Below w8.heap.size w8)) 14 rfl (by kernel_rfl) ?_
    rw [hw8]
    clear hw8
    have hS : (Below w8.heap.size w8) w8 := Below.refl _ _
    refine hs_take (i := 0) (d := some 24) (v := ?_) rfl (by kernel_rfl) (by kernel_rfl) (by kernel_rfl) (by rfl) ?_ hS rfl ?_
    rotate_left
    · intro w' hw
      go_simp
      try with_reducible rfl
    simp only [Act.put, List.setIfInBounds_toArray, List.set_cons_zero, List.set_cons_succ]
    refine hs_take (i := 1) (d := some 25) (v := ?_) rfl (by kernel_rfl) (by kernel_rfl) (by kernel_rfl) (by rfl) ?_ hS rfl ?_
    rotate_left
    · intro w' hw
      go_simp
      try with_reducible rfl
    simp only [Act.put, List.setIfInBounds_toArray, List.set_cons_zero, List.set_cons_succ]
    refine hs_take (i := 2) (d := some 26) (v := ?_) rfl (by kernel_rfl) (by kernel_rfl) (by kernel_rfl) (by rfl) ?_ hS rfl ?_
    rotate_left
    · intro w' hw
      go_simp
      try with_reducible rfl
    simp only [Act.put, List.setIfInBounds_toArray, List.set_cons_zero, List.set_cons_succ]
    refine hs_take (i := 3) (d := some 27) (v := ?_) rfl (by kernel_rfl) (by kernel_rfl) (by kernel_rfl) (by rfl) ?_ hS rfl ?_
    rotate_left
    · intro w' hw
      have := k0 w' hw
      go_simp
      try with_reducible rfl
    simp only [Act.put, List.setIfInBounds_toArray, List.set_cons_zero, List.set_cons_succ]
    refine hs_take (i := 4) (d := some 28) (v := ?_) rfl (by kernel_rfl) (by kernel_rfl) (by kernel_rfl) (by rfl) ?_ hS rfl ?_
    rotate_left
    · intro w' hw
      go_simp
      try with_reducible rfl
    simp only [Act.put, List.setIfInBounds_toArray, List.set_cons_zero, List.set_cons_succ]
    refine hs_take (i := 5) (d := some 29) (v := ?_) rfl (by kernel_rfl) (by kernel_rfl) (by kernel_rfl) (by rfl) ?_ hS rfl ?_
    rotate_left
    · intro w' hw
      go_simp
      try with_reducible rfl
    simp only [Act.put, List.setIfInBounds_toArray, List.set_cons_zero, List.set_cons_succ]
    refine hs_take (i := 6) (d := some 30) (v := ?_) rfl (by kernel_rfl) (by kernel_rfl) (by kernel_rfl) (by rfl) ?_ hS rfl ?_
    rotate_left
    · intro w' hw
      go_simp
      try with_reducible rfl
    simp only [Act.put, List.setIfInBounds_toArray, List.set_cons_zero, List.set_cons_succ]
    refine hs_take (i := 7) (d := some 31) (v := ?_) rfl (by kernel_rfl) (by kernel_rfl) (by kernel_rfl) (by rfl) ?_ hS rfl ?_
    rotate_left
    · intro w' hw
      have := k1 w' hw
      go_simp
      try with_reducible rfl
    simp only [Act.put, List.setIfInBounds_toArray, List.set_cons_zero, List.set_cons_succ]
    refine hs_call (i := 8) (d := some 32) rfl (by kernel_rfl) (by rfl) (by go_simp; first | done | exact ⟨rfl, rfl⟩ | with_reducible rfl) rfl ?_
    refine (cR).mono ?_
    rintro e' w9 ⟨ra, rc, rfl, -, hB9, -⟩
    have hS : Below w8.heap.size w8 w9 := hB9
    refine ⟨_, rfl, hS, ?_⟩
    simp only [Act.put, List.setIfInBounds_toArray, List.set_cons_zero, List.set_cons_succ]
    refine hs_take (i := 9) (d := some 23) (v := ?_) rfl (by kernel_rfl) (by kernel_rfl) (by kernel_rfl) (by rfl) ?_ hS rfl ?_
    rotate_left
    · intro w' hw
      go_simp
      try with_reducible rfl
    simp only [Act.put, List.setIfInBounds_toArray, List.set_cons_zero, List.set_cons_succ]
    refine hs_take (i := 10) (d := some 33) (v := ?_) rfl (by kernel_rfl) (by kernel_rfl) (by kernel_rfl) (by rfl) ?_ hS rfl ?_
    rotate_left
    · intro w' hw
      go_simp
      try with_reducible rfl
    simp only [Act.put, List.setIfInBounds_toArray, List.set_cons_zero, List.set_cons_succ]
    refine hs_take (i := 11) (d := some 34) (v := ?_) rfl (by kernel_rfl) (by kernel_rfl) (by kernel_rfl) (by rfl) ?_ hS rfl ?_
    rotate_left
    · intro w' hw
      go_simp
      try with_reducible rfl
    simp only [Act.put, List.setIfInBounds_toArray, List.set_cons_zero, List.set_cons_succ]
    refine hs_take (i := 12) (d := some 3) (v := ?_) rfl (by kernel_rfl) (by kernel_rfl) (by kernel_rfl) (by rfl) ?_ hS rfl ?_
    rotate_left
    · intro w' hw
      go_simp
      try with_reducible rfl
    simp only [Act.put, List.setIfInBounds_toArray, List.set_cons_zero, List.set_cons_succ]
    refine hs_take (i := 13) (d := some 4) (v := ?_) rfl (by kernel_rfl) (by kernel_rfl) (by kernel_rfl) (by rfl) ?_ hS rfl ?_
    rotate_left
    · intro w' hw
      go_simp
      try with_reducible rfl
    simp only [Act.put, List.setIfInBounds_toArray, List.set_cons_zero, List.set_cons_succ]
    refine hs_done (by kernel_rfl) ?_
    go_wp2
    go_ret
    rw [HR.out]
    exact ⟨rfl, hB8.trans (hB9.mono hB8.size)⟩
end Go.Proofs.Ytfkchnjbbbhmjab
namespace Go.Proofs.Ytfkchnjbbbhmjab.Ty
open Go.RowKit
open Tal
/-- an area with a greater turn is the journal's: area, turn, records -/
def stepF (r : Int × Int × List (List Int)) (area : Int) (bs : List Int) : Int × Int × List (List Int) := if r.2.1 < turnW (framesW bs) then (area, turnW (framesW bs), recsW (framesW bs)) else r
def findK (M : Mt) : Nat → Int × Int × List (List Int)
  | 0 => (1, 0, [])
  | k + 1 => stepF (findK M k) (k : Int) (M.read (k : Int))
structure FoundOk (r : Int × Int × List (List Int)) : Prop where
  a0 : 0 ≤ r.1
  a1 : r.1 ≤ 1
  t0 : 0 ≤ r.2.1
  t1 : r.2.1 ≤ 1099511627776
theorem findK_ok {M : Mt} (h : M.ok) : ∀ k, k ≤ 2 → FoundOk (findK M k)
  | 0, _ => ⟨by simp [findK], by simp [findK], by simp [findK], by simp [findK]⟩
  | k + 1, hk => by
    have ih := findK_ok h k (by omega)
    have h1 := turnW_ge (framesW (M.read (k : Int))) (fun f hf => (frames_mem (Mt.read_ok h (k : Int)).1 f hf).2)
    unfold findK stepF
    split
    · exact ⟨by simp only; omega, by simp only; omega, by simp only; omega, by simp only; omega⟩
    · exact ih
theorem live_read2 {A : Nat → Prop} {w : World} {p : Nat} {M : Mt} (h : Live A w p M) (area : Int) :
    Calls Try.prog 36 #[.pointer (some ⟨p, 0, none⟩), .int .i64 area] w fun e w' => ∃ a cap, e = .returned (.tuple #[.slice a (M.read area).length cap, .int .i64 (M.fault area)]) ∧ RowAt w' a (M.read area) ∧ Below w.heap.size w w' ∧ (M.read area).length ≤ cap ∧ cap ≤ maxLen := by
  obtain ⟨t, rfl, h, k⟩ := h
  refine (tread_any t M area w h).mono ?_
  rintro e w' ⟨v, he, hw, hb⟩
  have hr := Mt.read_ok h.ok area
  have hm : (M.read area).length ≤ maxLen := by have := hr.2; unfold maxLen; omega
  rcases own_range hw with ⟨rfl, h0, _⟩ | ⟨g, cap, rfl, hb', hg, hn, hcm, hrr⟩
  · have e0 : M.read area = [] := List.eq_nil_of_length_eq_zero h0
    rw [e0]
    exact ⟨none, 0, he, ⟨by unfold maxLen; simp, by simp, .inl rfl⟩, hb, by simp, by unfold maxLen; omega⟩
  · exact ⟨_, cap, he, ⟨hm, hr.1, .inr ⟨g, 0, rfl, hg, hrr⟩⟩, hb, hn, hcm⟩
theorem ROwn.set {B : Nat} {w : World} {v : Value} {rs : List Rc} {q o : Nat} (h : ROwn B w v rs) (hq : q < B) (u : Value) : ROwn B (w.setCell ⟨q, o, none⟩ u) v rs := by
  have hg := gb_set w q o u
  have hv : v.ownBlock = none ∨ v.ownBlock ≠ some q := by
    cases hb : v.ownBlock with
    | none => exact .inl rfl
    | some g => right; intro e; cases e; have := (h.r.lt _ hb).1; omega
  refine ⟨h.r.kept hg hv, fun x hx => RowAt_gbo (h.rows x hx) hg (fun ad e1 e2 => ?_), h.len, fun x hx ad e => ?_⟩
  · cases e2; have := (h.off x hx ad e1).1; omega
  · exact ⟨(h.off x hx ad e).1, Nat.lt_of_lt_of_le (h.off x hx ad e).2.1 hg.size, (h.off x hx ad e).2.2⟩
theorem jat_new (w : World) (j : Jv) (h : j.q = w.heap.size) : JAt (w.alloc (.cells #[.pointer (some ⟨j.p, 0, none⟩), .int .i64 j.ar, .int .i64 j.tu, .int .i64 j.fs] 43)) j := by
  have h1 := range_new w #[.pointer (some ⟨j.p, 0, none⟩), .int .i64 j.ar, .int .i64 j.tu, .int .i64 j.fs] 43
  have h2 := there_new w #[.pointer (some ⟨j.p, 0, none⟩), .int .i64 j.ar, .int .i64 j.tu, .int .i64 j.fs] 43
  rw [← h] at h1 h2
  exact ⟨h1, h2⟩
set_option maxRecDepth 100000 in
set_option maxHeartbeats 8000000 in
theorem find_off (p : Nat) (M : Mt) (A : Nat → Prop) (w : World) (hT : Live A w p M) (hon : M.on = false) :
    Calls Try.prog 24 #[.pointer (some ⟨p, 0, none⟩)] w fun e w' => e = .returned (.tuple #[.pointer none, .slice none 0 0, .int .i64 150]) ∧ Below w.heap.size w w' := by
  have cC := live_counts hT
  have hf : M.fault 0 = 150 := by unfold Mt.fault; rw [if_pos (.inl rfl), hon]; rfl
  have HON := hide hon
  clear hon
  go_enter Try.func24, Try.ntmps24
  go_wp2_with fail
  refine cC.mono ?_
  rintro e w1 ⟨rfl, hB1⟩
  clear cC
  go_wp2_with fail
  go_loopw [8, 23] (fun _ iv wr => iv = .int .i64 0 ∧ Below w.heap.size w wr) (fun _ _ _ => 0)
  case atStart => exact ⟨rfl, hB1.alloc hB1.size _⟩
  case round =>
    obtain ⟨rfl, hB⟩ := hrel
    have cR := live_read2 (hT.below hB) 0
    rw [hf] at cR
    go_wp2_with fail
    refine cR.mono ?_
    rintro e w2 ⟨ra, rc, rfl, -, hB2, -, -⟩
    clear cR
    go_wp2
    go_ret3
    exact ⟨rfl, hB.trans (hB2.mono hB.size)⟩
set_option maxRecDepth 100000 in
set_option maxHeartbeats 8000000 in
theorem find_on (p : Nat) (M : Mt) (A : Nat → Prop) (w : World) (hT : Live A w p M) (hon : M.on = true) (hrm : M.room ≤ 100000000) :
    Calls Try.prog 24 #[.pointer (some ⟨p, 0, none⟩)] w fun e w' => (∃ q v rs, e = .returned (.tuple #[.pointer (some ⟨q, 0, none⟩), v, .int .i64 0]) ∧ JAt w' ⟨q, p, (findK M 2).1, (findK M 2).2.1, M.fa⟩ ∧ ROwn w.heap.size w' v rs ∧ rs.map Rc.zs = (findK M 2).2.2 ∧ w.heap.size ≤ q ∧ rs.length ≤ 100000000 ∧ (∀ g, v.ownBlock = some g → g ≠ q) ∧ (∀ x ∈ rs, ∀ ad, x.a = some ad → ad.block ≠ q)) ∧ Below w.heap.size w w' := by
  have hok := hT.ok
  have cC := live_counts hT
  have hf : ∀ k : Nat, k < 2 → M.fault (k : Int) = 0 := fun k hk => by
    unfold Mt.fault
    rw [if_pos (by omega), hon]
    rfl
  have hrl : ∀ k : Int, (M.read k).length ≤ 100000000 := fun k => by
    have := hok.rm
    unfold Mt.read
    split
    · cases decide (k = 1) <;> simp only [Mt.get] <;> omega
    · simp
  clear hon
  go_enter Try.func24, Try.ntmps24
  go_wp2_with fail
  refine cC.mono ?_
  rintro e w1 ⟨rfl, hB1⟩
  clear cC
  obtain ⟨q, hq⟩ : ∃ q, Hid (w1.heap.size = q) := ⟨_, hide rfl⟩
  have hqw : w.heap.size ≤ q := by rw [← hq.out]; exact hB1.size
  have hJ0 := jat_new w1 ⟨q, p, 1, 0, M.fa⟩ hq.out.symm
  have hB2 : Below w.heap.size w (w1.alloc (.cells #[.pointer (some ⟨p, 0, none⟩), .int .i64 1, .int .i64 0, .int .i64 M.fa] 43)) := hB1.alloc hB1.size _
  have hqs : q < (w1.alloc (.cells #[.pointer (some ⟨p, 0, none⟩), .int .i64 1, .int .i64 0, .int .i64 M.fa] 43)).heap.size := by rw [← hq.out]; simp
  go_wp2_with fail
  rw [hq.out]
  go_loopw [8, 23] (fun v iv wr => ∃ (k : Nat) (ar tu : Int) (rs : List Rc), k ≤ 2 ∧ iv = .int .i64 (k : Int) ∧ JAt wr ⟨q, p, ar, tu, M.fa⟩ ∧ ROwn (q + 1) wr v rs ∧ rs.length ≤ 100000000 ∧ Below w.heap.size w wr ∧ q < wr.heap.size ∧ Hid (findK M k = (ar, tu, rs.map Rc.zs))) (fun _ iv _ => 2 - (intOf iv).toNat)
  case atStart => exact ⟨0, 1, 0, [], by omega, rfl, hJ0, ROwn.nil _ _, by simp, hB2, hqs, hide rfl⟩
  case round =>
    clear hJ0 hB2 hqs
    obtain ⟨k, ar, tu, rs, hk, rfl, hJ, hW, hrn, hB, hqs, hF⟩ := hrel
    by_cases hlt : k < 2
    · have hkI : (k : Int) < 2 := by omega
      have cR := live_read2 (hT.below hB) (k : Int)
      rw [hf k hlt] at cR
      have hbl := hrl (k : Int)
      have hst : Hid (findK M (k + 1) = stepF (ar, tu, rs.map Rc.zs) (k : Int) (M.read (k : Int))) := hide (by rw [← hF.out]; rfl)
      obtain ⟨bs, hbs⟩ : ∃ bs, Hid (M.read (k : Int) = bs) := ⟨_, hide rfl⟩
      rw [hbs.out] at cR hbl hst
      go_wp2_with fail
      refine cR.mono ?_
      rintro e w2 ⟨ra, rc, rfl, hrow, hB2, hlc, hcm⟩
      clear cR
      have cN := contents_any ra rc bs w2 hrow hlc hcm hbl
      obtain ⟨tn, htn⟩ : ∃ tn, Hid (turnW (framesW bs) = tn) := ⟨_, hide rfl⟩
      rw [htn.out] at cN
      go_wp2_with fail
      refine cN.mono ?_
      rintro e w3 ⟨⟨v3, rs3, rfl, hW3, hz3, hl3⟩, hB3⟩
      clear cN
      have hB23 : Below wr.heap.size wr w3 := hB2.trans (hB3.mono hB2.size)
      have hJ3 := hJ.below hB23
      have x2 := hJ3.cell 2 rfl
      by_cases hgt : tu < tn
      · have x1 := hJ3.cell 1 rfl
        have f1 : w3.frozen? ⟨q, 1, none⟩ = false := by have := (hJ3.th 1 (by omega)).2; rwa [Nat.zero_add] at this
        have f2 : w3.frozen? ⟨q, 2, none⟩ = false := by have := (hJ3.th 2 (by omega)).2; rwa [Nat.zero_add] at this
        have hJ4 := hJ3.turned (k : Int) tn
        have hW4 := ((hW3.lower (show q + 1 ≤ w2.heap.size by have := hB2.size; omega)).set (q := q) (o := 1) (by omega) (.int .i64 (k : Int))).set (q := q) (o := 2) (by omega) (.int .i64 tn)
        have hB4 : Below w.heap.size w ((w3.setCell ⟨q, 1, none⟩ (.int .i64 (k : Int))).setCell ⟨q, 2, none⟩ (.int .i64 tn)) :=
          ((hB.trans (hB23.mono hB.size)).grown (gb_set w3 q 1 (.int .i64 (k : Int))) (Nat.le_trans hB.size hB23.size) (fun g e => by cases e; exact hqw)).grown (gb_set _ q 2 (.int .i64 tn)) (by have := hB23.size; have := hB.size; simp; omega) (fun g e => by cases e; exact hqw)
        have hq4 : q < ((w3.setCell ⟨q, 1, none⟩ (.int .i64 (k : Int))).setCell ⟨q, 2, none⟩ (.int .i64 tn)).heap.size := by have := hB23.size; simp; omega
        have hst4 : Hid (findK M (k + 1) = ((k : Int), tn, rs3.map Rc.zs)) := hide (by rw [hst.out]; unfold stepF; rw [htn.out, if_pos hgt, hz3])
        clear hW3 hJ3 hW hJ
        go_wp2
        go_roundw
        case rel => exact ⟨k + 1, (k : Int), tn, rs3, by omega, by go_num, hJ4, hW4, by omega, hB4, hq4, hst4⟩
        case measure => simp [intOf]; omega
      · have hst4 : Hid (findK M (k + 1) = (ar, tu, rs.map Rc.zs)) := hide (by rw [hst.out]; unfold stepF; rw [htn.out, if_neg hgt])
        have hW4 := hW.below hB23
        have hq4 : q < w3.heap.size := by have := hB23.size; omega
        have hB4 := hB.trans (hB23.mono hB.size)
        clear hW3 hW hJ
        go_wp2
        go_roundw
        case rel => exact ⟨k + 1, ar, tu, rs, by omega, by go_num, hJ3, hW4, hrn, hB4, hq4, hst4⟩
        case measure => simp [intOf]; omega
    · obtain rfl : k = 2 := by omega
      have e1 := hF.out
      have HJ : Hid (JAt wr ⟨q, p, (findK M 2).1, (findK M 2).2.1, M.fa⟩) := hide (by rw [e1]; exact hJ)
      have HZ : Hid (rs.map Rc.zs = (findK M 2).2.2) := hide (by rw [e1])
      clear e1 hF hJ
      go_wp2
      go_ret3
      exact ⟨⟨q, _, rs, rfl, HJ.out, hW.lower (by omega), HZ.out, hqw, hrn, fun g e => by have := (hW.r.lt g e).1; omega, fun x hx ad e => by have := (hW.off x hx ad e).1; omega⟩, hB⟩
end Go.Proofs.Ytfkchnjbbbhmjab.Ty
namespace Go.Proofs.Ytfkchnjbbbhmjab.Ty
open Go.RowKit
open Tal
def zR (zss : List (List Int)) : List Rc := zss.map (fun z => ⟨none, 0, z⟩)
theorem zR_zs (zss : List (List Int)) : (zR zss).map Rc.zs = zss := by
  unfold zR
  rw [List.map_map]
  exact List.map_id zss
theorem takesE_zs (on : Bool) {rs ss : List Rc} (h : rs.map Rc.zs = ss.map Rc.zs) : takesE on rs = takesE on ss := by
  have key : ∀ {rs ss : List Rc}, rs.map Rc.zs = ss.map Rc.zs → (∀ r ∈ rs, r.zs.length ≤ 4194304) → ∀ r ∈ ss, r.zs.length ≤ 4194304 := fun {rs ss} h hr r hm => by
    have : r.zs ∈ rs.map Rc.zs := by rw [h]; exact List.mem_map.2 ⟨r, hm, rfl⟩
    obtain ⟨x, hx, e⟩ := List.mem_map.1 this
    rw [← e]; exact hr x hx
  unfold takesE
  by_cases h1 : ∀ r ∈ rs, r.zs.length ≤ 4194304
  · rw [if_pos h1, if_pos (key h h1)]
  · rw [if_neg h1, if_neg (fun h2 => h1 (key h.symm h2))]
theorem layM_zs (M : Mt) (j : Jv) {rs ss : List Rc} (h : rs.map Rc.zs = ss.map Rc.zs) : layM M j rs = layM M j ss := by
  unfold layM
  rw [takesE_zs _ h, h]
/-- what Open comes to: the error, the tape, the journal -/
def openL (M : Mt) (q p : Nat) : LayR := layM M ⟨q, p, (findK M 2).1, (findK M 2).2.1, M.fa⟩ (zR (findK M 2).2.2)
theorem flat_val (rs : List Rc) : rs.flatMap Rc.cells = rs.map Rc.val := by
  induction rs with
  | nil => rfl
  | cons r rs ih => rw [List.flatMap_cons, ih]; rfl
theorem ROwn.off' {B : Nat} {w w' : World} {v : Value} {rs : List Rc} {F : Nat → Prop} (h : ROwn B w v rs) (ho : Off F w w') (h1 : ∀ g, v.ownBlock = some g → ¬ F g) (h2 : ∀ x ∈ rs, ∀ ad, x.a = some ad → ¬ F ad.block) : ROwn B w' v rs := by
  refine ⟨owns_at h.r (fun g q => ho.2 g (h.r.lt g q).2 (h1 g q)), fun x hx => ?_, h.len, fun x hx ad q => ⟨(h.off x hx ad q).1, Nat.lt_of_lt_of_le (h.off x hx ad q).2.1 ho.size, (h.off x hx ad q).2.2⟩⟩
  have hr := h.rows x hx
  refine ⟨hr.1, hr.2.1, ?_⟩
  rcases hr.2.2 with q | ⟨b, off, q, hb, hrr⟩
  · exact .inl q
  · exact .inr ⟨b, off, q, Nat.lt_of_lt_of_le hb ho.size, range_at hrr (ho.2 b hb (h2 x hx _ q))⟩
/-- what is there behind Open -/
structure Opened (A : Nat → Prop) (w w' : World) (p q : Nat) (M : Mt) (L : LayR) (zss : List (List Int)) (e : Ending) (A2 : Nat → Prop) : Prop where
  up : ∀ b, A b → A2 b
  own : A2 q
  lt : ∀ b, A2 b → b < w'.heap.size
  low : ∀ b, A2 b → A b ∨ w.heap.size ≤ b
  off : Off (fun b => ¬ A b) w w'
  q0 : w.heap.size ≤ q
  live : Live A2 w' p L.M
  said : (L.e ≠ 0 ∧ e = .returned (.tuple #[.pointer none, .slice none 0 0, .int .i64 L.e])) ∨
    (L.e = 0 ∧ JAt w' L.j ∧ ∃ v rs, e = .returned (.tuple #[.pointer (some ⟨q, 0, none⟩), v, .int .i64 0]) ∧ ROwn w.heap.size w' v rs ∧ rs.map Rc.zs = zss ∧ rs.length ≤ 100000000 ∧ (∀ x ∈ rs, ∀ ad, x.a = some ad → A2 ad.block) ∧ ∀ g, v.ownBlock = some g → A2 g)
set_option maxRecDepth 100000 in
set_option maxHeartbeats 8000000 in
theorem open_off (p : Nat) (M : Mt) (A : Nat → Prop) (w : World) (hT : Live A w p M) (hon : M.on = false) :
    Calls Try.prog 10 #[.pointer (some ⟨p, 0, none⟩)] w fun e w' => e = .returned (.tuple #[.pointer none, .slice none 0 0, .int .i64 150]) ∧ Below w.heap.size w w' := by
  have cF := find_off p M A w hT hon
  clear hon
  go_enter Try.func10, Try.ntmps10
  go_wp2_with fail
  refine cF.mono ?_
  rintro e w1 ⟨rfl, hB1⟩
  clear cF
  go_wp2
  go_ret3
  exact ⟨rfl, hB1⟩
set_option maxRecDepth 100000 in
set_option maxHeartbeats 8000000 in
theorem open_on (p : Nat) (M : Mt) (A : Nat → Prop) (w : World) (hT : Live A w p M) (hA : ∀ b, A b → b < w.heap.size) (hon : M.on = true) (hrm : M.room ≤ 100000000) :
    Calls Try.prog 10 #[.pointer (some ⟨p, 0, none⟩)] w fun e w' => ∃ q A2, Opened A w w' p q M (openL M q p) (findK M 2).2.2 e A2 := by
  have cF := find_on p M A w hT hon hrm
  have hfk := findK_ok hT.ok 2 (by omega)
  unfold openL
  generalize findK M 2 = fk at *
  obtain ⟨far, ftu, frz⟩ := fk
  simp only at cF
  clear hon
  go_enter Try.func10, Try.ntmps10
  go_wp2_with fail
  refine cF.mono ?_
  rintro e w1 ⟨⟨q, v, rs, rfl, hJ, hW, hzs, hq0, hrn, hvq, hxq⟩, hB1⟩
  clear cF
  obtain ⟨ra, rc, rfl, hR, hrc, hrb⟩ := hW.recs hrn
  have hrow : RowOf Rc.cells w1 ra rs := by
    rcases hR.at0 with h0 | ⟨b, off, e1, e2, e3⟩
    · exact .inl h0
    · exact .inr ⟨b, off, e1, e2, by rw [flat_val]; exact e3⟩
  have hT1 := hT.widen hB1
  have hA1 := More.lt (w1 := w1) hA hB1.size
  have hAq : More A w w1 q := .inr ⟨hq0, hJ.lt⟩
  have hEL : Hid (layM M ⟨q, p, far, ftu, M.fa⟩ rs = layM M ⟨q, p, far, ftu, M.fa⟩ (zR frz)) := hide (layM_zs M _ (by rw [hzs, zR_zs]))
  have cL := jlay_any ⟨q, p, far, ftu, M.fa⟩ M (More A w w1) ra rc rs w1 hJ ⟨hfk.a0, hfk.a1, hfk.t0, hfk.t1⟩ hT1 hA1 hAq hrow (by unfold maxLen; omega)
    (.inr (fun x hx => ⟨.inr (hrb x hx), hvq x.block (by simp [hx, Value.ownBlock])⟩)) (fun r hr => ⟨hW.rows r hr, .inr (fun x hx => .inr ⟨(hW.off r hr x hx).1, (hW.off r hr x hx).2.1⟩)⟩)
  rw [hEL.out] at cL
  unfold jptr at cL
  simp only at cL
  obtain ⟨L, hL⟩ : ∃ L, Hid (layM M ⟨q, p, far, ftu, M.fa⟩ (zR frz) = L) := ⟨_, hide rfl⟩
  rw [hL.out] at cL
  clear hEL
  have HR := hide (And.intro hJ (And.intro hW (And.intro hR (And.intro hrow hrb))))
  have hoA : ∀ {w2 : World}, Off (fun b => b = q ∨ ¬ More A w w1 b) w1 w2 → Off (fun b => ¬ A b) w w2 := fun h => (Off.of_below hB1).trans h (fun b hb hq => by
    rcases hq with hq | hq
    · intro q1; subst hq; omega
    · exact fun q1 => hq (.inl q1))
  clear hT hT1 hJ hW hR hrow hrb
  by_cases hLe : L.e = 0
  · rw [hLe] at cL
    go_wp2_with fail
    refine cL.mono ?_
    rintro e w2 ⟨rfl, hT2, hJ2, hO2⟩
    clear cL
    obtain ⟨kJ, kW, kR, kr, kb⟩ := HR.out
    have hW2 : ROwn w.heap.size w2 (.slice ra rs.length rc) rs := kW.off' hO2 (fun g e1 e2 => by
      rcases e2 with e2 | e2
      · exact hvq g e1 e2
      · exact e2 (.inr (kW.r.lt g e1))) (fun x hx ad e1 e2 => by
      rcases e2 with e2 | e2
      · exact hxq x hx ad e1 e2
      · exact e2 (.inr ⟨(kW.off x hx ad e1).1, (kW.off x hx ad e1).2.1⟩))
    have HF : Hid (Opened A w w2 p q M L frz (.returned (.tuple #[.pointer (some ⟨q, 0, none⟩), .slice ra rs.length rc, .int .i64 0])) (More A w w1)) := hide
      ⟨fun b h => .inl h, hAq, fun b h => Nat.lt_of_lt_of_le (hA1 b h) hO2.size, fun b h => h.imp id (fun h => h.1), hoA hO2, hq0, hT2, .inr ⟨hLe, hJ2, _, rs, rfl, hW2, hzs, hrn, fun x hx ad e1 => .inr ⟨(kW.off x hx ad e1).1, (kW.off x hx ad e1).2.1⟩, fun g e1 => .inr (kW.r.lt g e1)⟩⟩
    clear kJ kW kR kr kb hW2 hT2 hJ2 hO2
    go_wp2
    go_ret3
    exact ⟨q, _, by rw [hL.out]; exact HF.out⟩
  · have n0 : (L.e != 0) = true := bne_iff_ne.2 hLe
    go_wp2_with fail
    refine cL.mono ?_
    rintro e w2 ⟨rfl, hT2, hJ2, hO2⟩
    clear cL
    have HF : Hid (Opened A w w2 p q M L frz (.returned (.tuple #[.pointer none, .slice none 0 0, .int .i64 L.e])) (More A w w1)) := hide
      ⟨fun b h => .inl h, hAq, fun b h => Nat.lt_of_lt_of_le (hA1 b h) hO2.size, fun b h => h.imp id (fun h => h.1), hoA hO2, hq0, hT2, .inl ⟨hLe, rfl⟩⟩
    clear hT2 hJ2 hO2 hLe
    go_wp2
    go_ret3
    exact ⟨q, _, by rw [hL.out]; exact HF.out⟩
end Go.Proofs.Ytfkchnjbbbhmjab.Ty
namespace Go.Proofs.Ytfkchnjbbbhmjab.Ty
open Go.RowKit
open Tal
/-- what may be a frame -/
structure Gd (k : Int) (zs : List Int) : Prop where
  b : ∀ z ∈ zs, 0 ≤ z ∧ z < 256
  l : zs.length ≤ 4194304
  k : k = 68 ∨ (k = 71 ∧ turnN zs ≠ 0)
theorem sumL_len (b : List Int) : (sumL b).length = 3 := rfl
/-- the first frame of bytes that begin with a frame -/
theorem first_frame {k : Int} {zs : List Int} (h : Gd k zs) (more : List Int) : firstW (frameL k (strOf zs) ++ more) = some ⟨k, zs, (frameL k (strOf zs)).length⟩ := by
  have hs : (strOf zs).size = zs.length := strOf_size zs
  have hl := h.l
  have ht := textS_back (strOf zs) 4194304 (by rw [hs]; omega) (by rw [hs]; omega) more
  rw [strL_strOf h.b] at ht
  have e : frameL k (strOf zs) ++ more = sumL (kindL k (strOf zs)) ++ (k :: (textL (strOf zs) ++ more)) := by
    unfold frameL kindL; simp
  obtain ⟨s0, s1, s2, hsm⟩ : ∃ s0 s1 s2, sumL (kindL k (strOf zs)) = [s0, s1, s2] := ⟨_, _, _, rfl⟩
  have e2 : frameL k (strOf zs) ++ more = s0 :: s1 :: s2 :: k :: (textL (strOf zs) ++ more) := by rw [e, hsm]; rfl
  have hd : (frameL k (strOf zs) ++ more).drop 4 = textL (strOf zs) ++ more := by rw [e2]; rfl
  have hg : (frameL k (strOf zs) ++ more).getD 3 0 = k := by rw [e2]; rfl
  have hln : ¬ (frameL k (strOf zs) ++ more).length < 4 := by rw [e2]; simp
  have hn : (frameL k (strOf zs) ++ more).length - more.length = (frameL k (strOf zs)).length := by rw [List.length_append]; omega
  unfold firstW
  rw [if_neg hln, hd, hg, ht]
  simp only
  rw [if_neg (by
    rintro (q | ⟨q1, q2⟩)
    · exact q rfl
    · rcases h.k with q | ⟨q, -⟩
      · exact q1 q
      · exact q2 q), hn, List.take_left, if_neg (by simp), if_neg (by
    rintro ⟨q1, q2⟩
    rcases h.k with q | ⟨-, q⟩
    · rw [q] at q1; cases q1
    · exact q q2)]
theorem first_good {bs : List Int} {f : Fr} (hz : ∀ z ∈ bs, 0 ≤ z ∧ z < 256) (h : firstW bs = some f) : Gd f.k f.zs ∧ bs.take f.n = frameL f.k (strOf f.zs) ∧ f.n ≤ bs.length := by
  have hl := (firstW_len hz h).2
  have hk := firstW_kind h
  unfold firstW at h
  split at h
  · cases h
  · rename_i h4
    split at h
    · cases h
    · rename_i he
      split at h
      · cases h
      · rename_i hfr
        split at h
        · cases h
        · rename_i htn
          obtain ⟨rec, rest, er, hT⟩ : ∃ rec rest er, textS (bs.drop 4) 0 4194304 = (rec, rest, er) := ⟨_, _, _, rfl⟩
          rw [hT] at h he hfr htn
          simp only [Option.some.injEq] at h
          have her : er = 0 := by
            by_cases q : er = 0
            · exact q
            · exact absurd (.inl q) he
          subst her
          simp only at hfr htn
          have hf := textS_form (fun z q => hz z (List.mem_of_mem_drop q)) hT
          subst h
          simp only at hl hk ⊢
          obtain ⟨⟨pc, pn, hp⟩, -⟩ := textS_part (bs.drop 4) 0 4194304
          rw [hT] at hp
          simp only at hp
          have hb : ∀ z ∈ rec, 0 ≤ z ∧ z < 256 := fun z q => by
            rw [hp] at q
            exact hz z (List.mem_of_mem_drop (List.mem_of_mem_drop (List.mem_of_mem_take q)))
          have hle : rec.length ≤ 4194304 := by
            have hN := hT
            unfold textS at hN
            split at hN
            · split at hN
              · simp at hN
              · rename_i hm
                split at hN
                · simp at hN
                · simp only [Prod.mk.injEq, and_true] at hN
                  rw [← hN.1, List.length_take]
                  omega
            · simp only [Prod.mk.injEq] at hN
              rw [← hN.1]; simp
          refine ⟨⟨hb, hle, ?_⟩, ?_, hl⟩
          · rcases hk with q | q
            · exact .inl q
            · exact .inr ⟨q, fun q2 => htn ⟨q, q2⟩⟩
          · simp only [ne_eq, Decidable.not_not] at hfr
            exact hfr.symm
/-- the beginning of a frame is no frame -/
theorem first_part {k : Int} {zs p q : List Int} (h : Gd k zs) (hp : p ++ q = frameL k (strOf zs)) (hq : q ≠ []) (hz : ∀ z ∈ p, 0 ≤ z ∧ z < 256) : firstW p = none := by
  cases hf : firstW p with
  | none => rfl
  | some f =>
    obtain ⟨g1, g2, g3⟩ := first_good hz hf
    have e : frameL f.k (strOf f.zs) ++ (p.drop f.n ++ q) = frameL k (strOf zs) ++ [] := by
      rw [← g2, ← List.append_assoc, List.take_append_drop, hp, List.append_nil]
    have h1 := first_frame g1 (p.drop f.n ++ q)
    rw [e, first_frame h []] at h1
    simp only [Option.some.injEq, Fr.mk.injEq] at h1
    have h3 := h1.2.2
    rw [← g2, List.length_take] at h3
    have h4 := congrArg List.length hp
    rw [List.length_append] at h4
    have : 0 < q.length := List.length_pos_iff.2 hq
    omega
/-- frames, one behind the other -/
def catF (L : List (Int × List Int)) : List Int := L.flatMap fun x => frameL x.1 (strOf x.2)
theorem catF_cons (x : Int × List Int) (L : List (Int × List Int)) : catF (x :: L) = frameL x.1 (strOf x.2) ++ catF L := by simp [catF]
theorem catF_append (L K : List (Int × List Int)) : catF (L ++ K) = catF L ++ catF K := by simp [catF]
theorem frameL_ok {k : Int} {zs : List Int} (h : Gd k zs) : ∀ z ∈ frameL k (strOf zs), 0 ≤ z ∧ z < 256 := by
  intro z hz
  unfold frameL kindL at hz
  rcases List.mem_append.1 hz with q | q
  · exact sumL_ok _ z q
  · rcases List.mem_cons.1 q with rfl | q
    · rcases h.k with q | ⟨q, -⟩ <;> omega
    · unfold textL at q
      rcases List.mem_append.1 q with q | q
      · exact putL_byte _ (by rw [strOf_size]; have := h.l; omega) z q
      · exact strL_byte _ z q
theorem catF_ok {L : List (Int × List Int)} (h : ∀ x ∈ L, Gd x.1 x.2) : ∀ z ∈ catF L, 0 ≤ z ∧ z < 256 := by
  intro z hz
  obtain ⟨x, hx, q⟩ := List.mem_flatMap.1 hz
  exact frameL_ok (h x hx) z q
def Fr.of (x : Int × List Int) : Fr := ⟨x.1, x.2, (frameL x.1 (strOf x.2)).length⟩
theorem frames_one {x : Int × List Int} (h : Gd x.1 x.2) {more : List Int} (hm : ∀ z ∈ more, 0 ≤ z ∧ z < 256) : framesW (frameL x.1 (strOf x.2) ++ more) = Fr.of x :: framesW more := by
  have hz : ∀ z ∈ frameL x.1 (strOf x.2) ++ more, 0 ≤ z ∧ z < 256 := fun z hz => by
    rcases List.mem_append.1 hz with q | q
    · exact frameL_ok h z q
    · exact hm z q
  rw [framesW_step hz, first_frame h more]
  simp only [List.drop_left]
  rfl
theorem frames_cat {L : List (Int × List Int)} (h : ∀ x ∈ L, Gd x.1 x.2) {more : List Int} (hm : ∀ z ∈ more, 0 ≤ z ∧ z < 256) : framesW (catF L ++ more) = L.map Fr.of ++ framesW more := by
  induction L with
  | nil => simp [catF]
  | cons x L ih =>
    have h2 : ∀ x ∈ L, Gd x.1 x.2 := fun y hy => h y (by simp [hy])
    rw [catF_cons, List.append_assoc, frames_one (h x (by simp)) (fun z hz => by
      rcases List.mem_append.1 hz with q | q
      · exact catF_ok h2 z q
      · exact hm z q), ih h2]
    rfl
theorem framesW_nil : framesW [] = [] := rfl
theorem frames_all {L : List (Int × List Int)} (h : ∀ x ∈ L, Gd x.1 x.2) : framesW (catF L) = L.map Fr.of := by
  have := frames_cat h (more := []) (by simp)
  rwa [List.append_nil, framesW_nil, List.append_nil] at this
/-- of frames that were cut somewhere those ahead of the cut are left -/
theorem frames_take {L : List (Int × List Int)} (h : ∀ x ∈ L, Gd x.1 x.2) (n : Nat) (hn : n ≤ (catF L).length) : ∃ m, m ≤ L.length ∧ framesW ((catF L).take n) = (L.take m).map Fr.of ∧ (∀ i, i ≤ L.length → (catF (L.take i)).length ≤ n → i ≤ m) := by
  induction L generalizing n with
  | nil =>
    refine ⟨0, by simp, by simp [catF, framesW_nil], fun i hi _ => hi⟩
  | cons x L ih =>
    have hx := h x (by simp)
    have h2 : ∀ x ∈ L, Gd x.1 x.2 := fun y hy => h y (by simp [hy])
    rw [catF_cons] at hn ⊢
    rw [List.length_append] at hn
    by_cases hc : (frameL x.1 (strOf x.2)).length ≤ n
    · obtain ⟨m, m1, m2, m3⟩ := ih h2 (n - (frameL x.1 (strOf x.2)).length) (by omega)
      refine ⟨m + 1, by simpa using m1, ?_, fun i hi hl => ?_⟩
      · rw [List.take_append, List.take_of_length_le hc, frames_one hx (fun z hz => catF_ok h2 z (List.mem_of_mem_take hz)), m2]
        rfl
      · cases i with
        | zero => omega
        | succ i =>
          rw [List.take_succ_cons, catF_cons, List.length_append] at hl
          have := m3 i (by simpa using hi) (by omega)
          omega
    · have hlt : n < (frameL x.1 (strOf x.2)).length := by omega
      refine ⟨0, by simp, ?_, fun i hi hl => ?_⟩
      · have hz : ∀ z ∈ (frameL x.1 (strOf x.2) ++ catF L).take n, 0 ≤ z ∧ z < 256 := fun z hz => by
          rcases List.mem_append.1 (List.mem_of_mem_take hz) with q | q
          · exact frameL_ok hx z q
          · exact catF_ok h2 z q
        rw [framesW_step hz, List.take_append_of_le_length (by omega)] 
        rw [List.take_append_of_le_length (by omega)] at hz
        rw [first_part (q := (frameL x.1 (strOf x.2)).drop n) hx (List.take_append_drop _ _) (by
          intro q
          have := congrArg List.length q
          rw [List.length_drop] at this
          simp at this
          omega) hz]
        rfl
      · cases i with
        | zero => omega
        | succ i =>
          rw [List.take_succ_cons, catF_cons, List.length_append] at hl
          omega
end Go.Proofs.Ytfkchnjbbbhmjab.Ty
namespace Go.Proofs.Ytfkchnjbbbhmjab
open Go.RowKit
def ka (k : Bool) : Int := if k then 1 else 0
theorem ka_not (k : Bool) : 1 - ka k = ka (!k) := by cases k <;> rfl
theorem ka_ok (k : Bool) : ka k = 0 ∨ ka k = 1 := by cases k <;> simp [ka]
theorem ka_dec (k : Bool) : decide (ka k = 1) = k := by cases k <;> rfl
theorem get_set (M : Mt) (k : Bool) (xs : List Int) (s : Nat) : (M.setA k xs s).get k = xs ∧ (M.setA k xs s).sr k = s ∧ (M.setA k xs s).get (!k) = M.get (!k) ∧ (M.setA k xs s).sr (!k) = M.sr (!k) := by cases k <;> exact ⟨rfl, rfl, rfl, rfl⟩
theorem set_rest (M : Mt) (k : Bool) (xs : List Int) (s : Nat) : (M.setA k xs s).on = M.on ∧ (M.setA k xs s).pl = M.pl ∧ (M.setA k xs s).room = M.room ∧ (M.setA k xs s).fa = M.fa ∧ (M.setA k xs s).ke = M.ke := by cases k <;> exact ⟨rfl, rfl, rfl, rfl, rfl⟩
theorem get_count (M : Mt) (k : Bool) : M.count.get k = M.get k ∧ M.count.sr k = M.sr k := by cases k <;> exact ⟨rfl, rfl⟩
theorem get_lose (M : Mt) (keep : Int) (k : Bool) : (M.lose keep).get k = (M.get k).take (keptN keep (M.get k).length (M.sr k)) ∧ (M.lose keep).sr k = keptN keep (M.get k).length (M.sr k) := by cases k <;> exact ⟨rfl, rfl⟩
/-- there is power; an area and the other one -/
structure As (M : Mt) (R F keep : Int) (k : Bool) (x : List Int) (sx : Nat) (y : List Int) (sy : Nat) : Prop where
  on : M.on = true
  room : M.room = R
  fa : M.fa = F
  ke : M.pl = true → M.ke = keep
  x : M.get k = x
  sx : M.sr k = sx
  y : M.get (!k) = y
  sy : M.sr (!k) = sy
theorem As.other {M : Mt} {R F keep : Int} {k : Bool} {x y : List Int} {sx sy : Nat} (h : As M R F keep k x sx y sy) : As M R F keep (!k) y sy x sx :=
  ⟨h.on, h.room, h.fa, h.ke, h.y, h.sy, by rw [Bool.not_not]; exact h.x, by rw [Bool.not_not]; exact h.sx⟩
/-- power has gone -/
structure Lost (M : Mt) (R F keep : Int) (k : Bool) (x : List Int) (sx : Nat) (y : List Int) (sy : Nat) : Prop where
  on : M.on = false
  pl : M.pl = false
  room : M.room = R
  fa : M.fa = wrap64 (F + 1)
  x : M.get k = x.take (keptN keep x.length sx)
  y : M.get (!k) = y.take (keptN keep y.length sy)
theorem As.lose {M : Mt} {R F keep : Int} {k : Bool} {x y : List Int} {sx sy : Nat} (h : As M R F keep k x sx y sy) (ke : Int) : Lost (M.lose ke) R F ke k x sx y sy := by
  refine ⟨rfl, rfl, h.room, by rw [← h.fa]; rfl, ?_, ?_⟩
  · rw [(get_lose M ke k).1, h.x, h.sx]
  · rw [(get_lose M ke (!k)).1, h.y, h.sy]
theorem As.fault {M : Mt} {R F keep : Int} {k : Bool} {x y : List Int} {sx sy : Nat} (h : As M R F keep k x sx y sy) : M.fault (ka k) = 0 := by
  unfold Mt.fault
  rw [if_pos (ka_ok k), h.on]
  rfl
/-- what an operation comes to -/
def Came (M : Mt) (r : Int × Mt) (R F keep : Int) (k : Bool) (x : List Int) (sx : Nat) (x' : List Int) (sx' : Nat) (y : List Int) (sy : Nat) : Prop :=
  (∃ M', r = (0, M') ∧ As M' R F keep k x' sx' y sy ∧ (M.pl = false → M'.pl = false)) ∨ (M.pl = true ∧ ∃ M', r = (150, M') ∧ Lost M' R F keep k x sx y sy)
theorem As.does {M : Mt} {R F keep : Int} {k : Bool} {x y : List Int} {sx sy : Nat} (h : As M R F keep k x sx y sy) (f : Bool → Mt → Mt) {x' : List Int} {sx' : Nat}
    (hf : ∀ N : Mt, N.on = true → N.room = R → N.fa = F → (N.pl = true → N.ke = keep) → N.get k = x → N.sr k = sx → N.get (!k) = y → N.sr (!k) = sy → As (f k N) R F keep k x' sx' y sy ∧ ((f k N).pl = N.pl)) :
    Came M (M.does (ka k) f) R F keep k x sx x' sx' y sy := by
  unfold Mt.does
  rw [if_pos h.fault]
  by_cases hp : M.pl = true ∧ M.af = 0
  · rw [if_pos hp]
    right
    have hl := h.lose M.ke
    rw [h.ke hp.1] at hl
    exact ⟨hp.1, _, by rw [h.ke hp.1], hl⟩
  · rw [if_neg hp, ka_dec]
    left
    obtain ⟨h1, h2⟩ := hf M.count h.on h.room h.fa h.ke ((get_count M k).1.trans h.x) ((get_count M k).2.trans h.sx) ((get_count M (!k)).1.trans h.y) ((get_count M (!k)).2.trans h.sy)
    exact ⟨_, rfl, h1, fun q => h2.trans q⟩
theorem As.set {N : Mt} {R F keep : Int} {k : Bool} {y : List Int} {sy : Nat} (h1 : N.on = true) (h2 : N.room = R) (h3 : N.fa = F) (h4 : N.pl = true → N.ke = keep) (h5 : N.get (!k) = y) (h6 : N.sr (!k) = sy) (x : List Int) (s : Nat) : As (N.setA k x s) R F keep k x s y sy := by
  obtain ⟨a1, a2, a3, a4⟩ := get_set N k x s
  obtain ⟨b1, b2, b3, b4, b5⟩ := set_rest N k x s
  exact ⟨b1.trans h1, b3.trans h2, b4.trans h3, fun q => b5.trans (h4 (b2.symm.trans q)), a1, a2, a3.trans h5, a4.trans h6⟩
theorem As.empty {M : Mt} {R F keep : Int} {k : Bool} {x y : List Int} {sx sy : Nat} (h : As M R F keep k x sx y sy) : Came M (M.empty (ka k)) R F keep k x sx [] 0 y sy :=
  h.does _ fun N h1 h2 h3 h4 _ _ h7 h8 => ⟨As.set h1 h2 h3 h4 h7 h8 _ _, (set_rest N k _ _).2.1⟩
theorem As.sync {M : Mt} {R F keep : Int} {k : Bool} {x y : List Int} {sx sy : Nat} (h : As M R F keep k x sx y sy) : Came M (M.sync (ka k)) R F keep k x sx x x.length y sy :=
  h.does _ fun N h1 h2 h3 h4 h5 _ h7 h8 => ⟨by unfold Mt.settle; rw [h5]; exact As.set h1 h2 h3 h4 h7 h8 _ _, (set_rest N k _ _).2.1⟩
theorem As.len {M : Mt} {R F keep : Int} {k : Bool} {x y : List Int} {sx sy : Nat} (h : As M R F keep k x sx y sy) : (M.a.length : Int) + M.b.length = x.length + y.length := by
  have h1 := h.x
  have h2 := h.y
  cases k
  · simp only [Mt.get, Bool.not_false] at h1 h2; rw [h1, h2]
  · simp only [Mt.get, Bool.not_true] at h1 h2; rw [h1, h2]; omega
theorem As.append {M : Mt} {R F keep : Int} {k : Bool} {x y : List Int} {sx sy : Nat} (h : As M R F keep k x sx y sy) (zs : List Int) (hr : ((x ++ zs).length : Int) + y.length ≤ R) : Came M (M.append (ka k) zs) R F keep k x sx (x ++ zs) sx y sy := by
  unfold Mt.append
  rw [if_pos h.fault, h.len, h.room, if_neg (by rw [List.length_append] at hr; push_cast at hr; omega)]
  exact h.does _ fun N h1 h2 h3 h4 h5 h6 h7 h8 => ⟨by unfold Mt.put; rw [h5, h6]; exact As.set h1 h2 h3 h4 h7 h8 _ _, (set_rest N k _ _).2.1⟩
namespace Ty
open Tal
def recsF (zss : List (List Int)) : List (Int × List Int) := zss.map fun z => (68, z)
def turnF (t : Int) : Int × List Int := (71, putL t)
/-- while an area is filled anew: how it may end -/
def Filled (M : Mt) (r : Int × Mt) (R F keep : Int) (k : Bool) (L : List (Int × List Int)) (s : Nat) (y : List Int) (sy : Nat) : Prop :=
  (∃ M', r = (0, M') ∧ As M' R F keep k (catF L) s y sy ∧ (M.pl = false → M'.pl = false)) ∨ (M.pl = true ∧ ∃ M' n, r = (150, M') ∧ M'.on = false ∧ M'.pl = false ∧ M'.room = R ∧ M'.fa = wrap64 (F + 1) ∧ n ≤ (catF L).length ∧ M'.get k = (catF L).take n ∧ M'.get (!k) = y.take (keptN keep y.length sy))
theorem lay_recs {R F keep : Int} {k : Bool} {y : List Int} {sy : Nat} : ∀ (zss : List (List Int)) (M : Mt) (K : List (Int × List Int)), As M R F keep k (catF K) 0 y sy → ((catF (K ++ recsF zss)).length : Int) + y.length ≤ R → Filled M (layRecs (ka k) zss M) R F keep k (K ++ recsF zss) 0 y sy
  | [], M, K, h, _ => .inl ⟨M, rfl, by simpa [recsF] using h, id⟩
  | z :: zss, M, K, h, hr => by
    have e : K ++ recsF (z :: zss) = (K ++ [(68, z)]) ++ recsF zss := by simp [recsF]
    have e2 : catF (K ++ [(68, z)]) = catF K ++ frameL 68 (strOf z) := by rw [catF_append]; simp [catF]
    rw [e] at hr ⊢
    have hr2 : ((catF K ++ frameL 68 (strOf z)).length : Int) + y.length ≤ R := by
      rw [catF_append, e2] at hr
      rw [List.length_append] at hr
      push_cast at hr
      omega
    unfold layRecs
    rcases h.append (frameL 68 (strOf z)) hr2 with ⟨M', he, hA, hp⟩ | ⟨hp, M', he, hL⟩
    · rw [he]
      simp only
      rw [if_pos trivial]
      rw [← e2] at hA
      rcases lay_recs zss M' (K ++ [(68, z)]) hA hr with ⟨M2, q1, q2, q3⟩ | ⟨q0, q⟩
      · exact .inl ⟨M2, q1, q2, fun q => q3 (hp q)⟩
      · refine .inr ⟨?_, q⟩
        cases hq : M.pl with
        | true => rfl
        | false => rw [hp hq] at q0; cases q0
    · rw [he]
      simp only
      rw [if_neg (by omega)]
      refine .inr ⟨hp, M', keptN keep (catF K).length 0, rfl, hL.on, hL.pl, hL.room, hL.fa, ?_, ?_, hL.y⟩
      · have := keptN_le keep (n := (catF K).length) (s := 0) (by omega)
        rw [catF_append, e2, List.length_append, List.length_append]
        omega
      · rw [hL.x, catF_append, e2, List.append_assoc, List.take_append_of_le_length (keptN_le keep (by omega))]
/-- an area is filled anew -/
theorem fill {M : Mt} {R F keep : Int} {k : Bool} {x y : List Int} {sx sy : Nat} (h : As M R F keep k x sx y sy) (hx : x = [] ∨ M.pl = false) (t : Int) (zss : List (List Int)) (hr : ((catF (recsF zss ++ [turnF t])).length : Int) + y.length ≤ R) :
    Filled M (writeM M (ka k) t zss) R F keep k (recsF zss ++ [turnF t]) (catF (recsF zss ++ [turnF t])).length y sy := by
  have e1 : catF (recsF zss ++ [turnF t]) = catF (recsF zss) ++ frameL 71 (strOf (putL t)) := by rw [catF_append]; simp [catF, turnF]
  have hr1 : ((catF ([] ++ recsF zss)).length : Int) + y.length ≤ R := by
    rw [e1, List.length_append] at hr
    push_cast at hr
    simp only [List.nil_append]
    omega
  unfold writeM onward
  rcases h.empty with ⟨M1, he, hA, hp⟩ | ⟨hp, M1, he, hL⟩
  rotate_left
  · rw [he]
    simp only
    rw [if_neg (by omega)]
    refine .inr ⟨hp, M1, 0, rfl, hL.on, hL.pl, hL.room, hL.fa, by omega, ?_, hL.y⟩
    rcases hx with hx | hx
    · rw [hL.x, hx]; simp
    · rw [hx] at hp; cases hp
  rw [he]
  simp only
  rw [if_pos trivial]
  have hpn : ∀ {N : Mt}, (M.pl = false → N.pl = false) → N.pl = true → M.pl = true := fun h1 h2 => by
    cases hq : M.pl with
    | true => rfl
    | false => rw [h1 hq] at h2; cases h2
  rcases lay_recs zss M1 [] hA hr1 with ⟨M2, he2, hA2, hp2⟩ | ⟨hp2, M2, n, he2, q1, q2, q3, q4, q5, q6, q7⟩
  rotate_left
  · rw [he2]
    simp only
    rw [if_neg (by omega)]
    simp only [List.nil_append] at q5 q6
    refine .inr ⟨hpn hp hp2, M2, n, rfl, q1, q2, q3, q4, ?_, ?_, q7⟩
    · rw [e1, List.length_append]; omega
    · rw [q6, e1, List.take_append_of_le_length q5]
  rw [he2]
  simp only
  rw [if_pos trivial]
  simp only [List.nil_append] at hA2
  rcases hA2.append (frameL 71 (strOf (putL t))) (by rw [← e1]; exact hr) with ⟨M3, he3, hA3, hp3⟩ | ⟨hp3, M3, he3, hL⟩
  rotate_left
  · rw [he3]
    simp only
    rw [if_neg (by omega)]
    refine .inr ⟨hpn (fun q => hp2 (hp q)) hp3, M3, keptN keep (catF (recsF zss)).length 0, rfl, hL.on, hL.pl, hL.room, hL.fa, ?_, ?_, hL.y⟩
    · have := keptN_le keep (n := (catF (recsF zss)).length) (s := 0) (by omega)
      rw [e1, List.length_append]; omega
    · rw [hL.x, e1, List.take_append_of_le_length (keptN_le keep (by omega))]
  rw [he3]
  simp only
  rw [if_pos trivial]
  rw [← e1] at hA3
  rcases hA3.sync with ⟨M4, he4, hA4, hp4⟩ | ⟨hp4, M4, he4, hL⟩
  · exact .inl ⟨M4, he4, hA4, fun q => hp4 (hp3 (hp2 (hp q)))⟩
  · exact .inr ⟨hpn (fun q => hp3 (hp2 (hp q))) hp4, M4, keptN keep (catF (recsF zss ++ [turnF t])).length 0, he4, hL.on, hL.pl, hL.room, hL.fa, keptN_le keep (by omega), hL.x, hL.y⟩
end Ty
end Go.Proofs.Ytfkchnjbbbhmjab
