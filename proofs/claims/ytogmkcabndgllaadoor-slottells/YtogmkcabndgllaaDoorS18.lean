/- SlotTells: the walk -/
import Derived.Test.YtogmkcabndgllaaDoorS18h

import Derived.Deep.DeepCutAuto
import Derived.Deep.Cut
import Derived.Deep.CutRange
import Derived.Deep.CutBlock
namespace Go.Proofs.YtogmkcabndgllaaDoor
open Go.RowKit
open Sha Tal
set_option linter.unusedVariables false
set_option maxRecDepth 100000 in
theorem infoSl2 : (Tryd.prog.info? 37).map (fun i => (i.zero, i.size)) = some (some (.agg sl0.cells.toArray), 85) := by kernel_rfl
theorem bs_slot2 {u v : List Value} (hu : u.length = 85) (hv : v.length = 85) (w : World) : (Instr.buildSlice 67 2 #[(0, .agg u.toArray), (1, .agg v.toArray)]).run Tryd.prog w = .ok (.slice (some ⟨w.heap.size, 0, none⟩) 2 2) (w.alloc (.cells (u ++ v).toArray 37)) := by
  obtain ⟨i, hi, hzz⟩ := Option.map_eq_some_iff.1 infoSl2
  simp only [Prod.mk.injEq] at hzz
  obtain ⟨hz, hs⟩ := hzz
  exact run_bs2 67 37 i _ u v Tryd.underlying67 hi hz (by rw [hs, hu]) (by rw [hu, hv]) (by omega) (by omega) w
theorem ex_eqB {o : Oper} {a : Act} {w : World} {t2 : TypeId} {x y : Operand} {p q r : Bool} (ho : o.op = .binOp .eql 4 x y t2) (hx : a.eval x = .bool p) (hy : a.eval y = .bool q) (hr : (p == q) = r) : (execOp a.eval o).run Tryd.prog w = .ok (.value (.bool r)) w := by
  subst hr
  unfold execOp
  simp only [ho, hx, hy]
  cases p <;> cases q <;> kernel_rfl
theorem zero_Tbatch (w : World) : (zeroValue 24).run Tryd.prog w = .ok (.agg bat0.cells.toArray) w := by kernel_rfl
theorem infoBa : (Tryd.prog.info? 24).map (fun i => (i.zero, i.size)) = some (some (.agg bat0.cells.toArray), 2) := by kernel_rfl
theorem bs_bat1 (b : Bat) (w : World) : (Instr.buildSlice 68 1 #[(0, .agg b.cells.toArray)]).run Tryd.prog w = .ok (.slice (some ⟨w.heap.size, 0, none⟩) 1 1) (w.alloc (.cells b.cells.toArray 24)) := by
  obtain ⟨i, hi, hzz⟩ := Option.map_eq_some_iff.1 infoBa
  simp only [Prod.mk.injEq] at hzz
  obtain ⟨hz, hs⟩ := hzz
  exact run_bs1 68 24 i _ b.cells Tryd.underlying68 hi hz (by rw [hs]; rfl) (show 0 < 2 by decide) (show 2 ≤ 1000 by decide) w
theorem bats1 (w : World) (x : Bat) (h : x.at w) : BatsAt (w.alloc (.cells x.cells.toArray 24)) w.heap.size [x] := by
  have hb : Below w.heap.size w (w.alloc (.cells x.cells.toArray 24)) := (Below.refl _ _).alloc (Nat.le_refl _) _
  refine ⟨by simp, fun z hz => ?_, by simp, range_new w x.cells.toArray 24⟩
  obtain rfl := List.mem_singleton.1 hz
  exact h.below hb
theorem sl0_raw (w : World) : sl0.raw w := ⟨bat0_at w, bat0_at w, bat0_at w, ce0_at w, ce0_at w⟩
structure St (w : World) (s o : Sl) (b : Bat) (c : Ce) (X Y : Nat) (x : Sl) (W : World) : Prop where
  e : Env w s o b c W
  vx : Vr W w X 85 x.cells
  vy : Vr W w Y 85 x.cells
theorem St.below {w W W' : World} {s o : Sl} {b : Bat} {c : Ce} {X Y : Nat} {x : Sl} (h : St w s o b c X Y x W) (hb : Below W.heap.size W W') : St w s o b c X Y x W' := ⟨h.e.below hb, h.vx.below hb, h.vy.below hb⟩
/-- what is told of a slot that a call has made -/
structure Fine (w : World) (x : Sl) : Prop where
  r : x.raw w
  h : x.hc.ss.length ≤ 1000
  e : x.ec.ss.length ≤ 1000
theorem Fine.below {w w' : World} {x : Sl} (h : Fine w x) (hb : Below w.heap.size w w') : Fine w' x := ⟨h.r.below hb, h.h, h.e⟩
theorem fine0 (w : World) : Fine w sl0 := ⟨sl0_raw w, by decide, by decide⟩
theorem fine_acc {w : World} {s : Sl} {b : Bat} (h : Fine w s) (hb : b.at w) (v : Int) : Fine w (acceptP s v b).1 := by
  unfold acceptP
  split
  · exact fine0 w
  · split
    · split
      · exact h
      · exact fine0 w
    · exact ⟨⟨hb, h.r.hb, h.r.eb, h.r.hc, h.r.ec⟩, h.h, h.e⟩
theorem fine_hold {w : World} {s : Sl} {c : Ce} (h : Fine w s) (hc : c.at w) (hl : c.ss.length ≤ 1000) : Fine w (holdP s c).1 := by
  unfold holdP
  split
  · exact fine0 w
  · split
    · exact fine0 w
    · split
      · exact fine0 w
      · split
        · exact h
        · exact ⟨⟨h.r.b, h.r.b, h.r.eb, hc, h.r.ec⟩, hl, h.e⟩
theorem fine_dec {w : World} {s : Sl} {b : Bat} {c : Ce} (h : Fine w s) (hb : b.at w) (hc : c.at w) (hl : c.ss.length ≤ 1000) : Fine w (decideP s b c).1 := by
  unfold decideP
  split
  · exact fine0 w
  · split
    · split
      · exact h
      · exact fine0 w
    · exact ⟨⟨h.r.b, h.r.hb, hb, h.r.hc, hc⟩, h.h, hl⟩
theorem known_at {w : World} {s : Sl} {d : List Int} (h : s.raw w) : (knownP s d).1.at w := by
  unfold knownP
  split
  · exact h.eb
  · split
    · exact h.b
    · split
      · exact h.hb
      · exact (sl0_raw w).b
set_option maxRecDepth 100000 in
set_option maxHeartbeats 8000000 in
theorem tells_walk (s o : Sl) (view : Int) (b : Bat) (c : Ce) (w : World) (hG : Glob w) (hs : s.raw w) (ho : o.raw w) (hb : b.at w) (hc : c.at w) : Calls Tryd.prog 3 #[.agg s.cells.toArray, .agg o.cells.toArray, .int .i64 view, .agg b.cells.toArray, .agg c.cells.toArray] w fun e w' => e = .returned (.bool true) ∧ Below w.heap.size w w' := by
  have l1 : s.cells.length = 85 := Sl.len hs.vok
  have l2 : o.cells.length = 85 := Sl.len ho.vok
  have i1 : (Tryd.prog.info? 37).map (·.size) = some s.cells.length := by rw [l1]; exact iszTslot
  have i2 : (Tryd.prog.info? 37).map (·.size) = some o.cells.length := by rw [l2]; exact iszTslot
  have ib : (Tryd.prog.info? 24).map (·.size) = some b.cells.length := iszB
  have ic : (Tryd.prog.info? 31).map (·.size) = some c.cells.length := by rw [Ce.len hc.v]; exact iszCe
  go_enter Tryd.func3, Tryd.ntmps3
  go_upto_region 1 with fail
  go_name_world w1 hw1
  obtain ⟨hB1, hrs, hro, hrb, hrc, -, hsz⟩ := box4r hw1
  clear hw1
  have E1 : Env w s o b c w1 := ⟨hrs, hro, hrb, hrc, hB1, hsz⟩
  clear hrs hro hrb hrc hsz hB1
  go_cut [35] (fun v wx => ∃ q : Bool, v = .bool q ∧ Hid (Env w s o b c wx ∧ (q = false → s.small ∧ o.small ∧ b.lt ∧ c.ss.length ≤ 100)))
  case first =>
    as_aux_lemma =>
      try simp only [Act.put]
      refine pl_begin ?_
      refine pl_take (d := some 19) (v := .agg s.cells.toArray) (by rfl) (ex_mid rfl rfl E1.rs Tryd.underlying37 rfl i1) rfl ?_
      simp only [Act.put, List.setIfInBounds_toArray, List.set_cons_zero, List.set_cons_succ]
      refine pl_take (d := some 20) (v := .agg o.cells.toArray) (by rfl) (ex_mid rfl rfl E1.ro Tryd.underlying37 rfl i2) rfl ?_
      simp only [Act.put, List.setIfInBounds_toArray, List.set_cons_zero, List.set_cons_succ]
      refine pl_run (d := some 21) (by rfl) (ex_bs2 rfl rfl rfl (bs_slot2 l1 l2 _)) rfl ?_
      simp only [Act.put, List.setIfInBounds_toArray, List.set_cons_zero, List.set_cons_succ]
      have hb2 : Below w1.heap.size w1 (w1.alloc (.cells (s.cells ++ o.cells).toArray 37)) := (Below.refl _ _).alloc (Nat.le_refl _) _
      have hr2 : (w1.alloc (.cells (s.cells ++ o.cells).toArray 37)).rangeAt w1.heap.size 0 ([s, o].flatMap Sl.cells) := by
        have := range_new w1 (s.cells ++ o.cells).toArray 37
        simpa using this
      have E2 := E1.below hb2
      have hl2 : w1.heap.size < (w1.alloc (.cells (s.cells ++ o.cells).toArray 37)).heap.size := by simp
      have cl := light18_any w1.heap.size 2 [s, o] _ hl2 hr2 (fun x hx => by
        rcases List.mem_cons.1 hx with rfl | hx
        · exact hs.below E2.bl
        · obtain rfl := List.mem_singleton.1 hx
          exact ho.below E2.bl) (show 2 ≤ 2 by decide)
      simp only [List.length_cons, List.length_nil, Nat.zero_add, Nat.reduceAdd] at cl
      clear hr2 hl2 hb2 E1
      generalize w1.alloc (.cells (s.cells ++ o.cells).toArray 37) = w2 at *
      refine pl_call (d := some 22) (by rfl) (by go_simp; first | done | exact ⟨rfl, rfl⟩ | with_reducible rfl) rfl ?_
      refine cl.mono ?_
      rintro e' w3 hcase
      rcases hcase with ⟨rfl, hB⟩ | ⟨rfl, hB, hsm⟩
      · have E3 := hide (E2.below hB)
        clear E2 hB cl
        refine ⟨_, rfl, ?_⟩
        simp only [Act.put, List.setIfInBounds_toArray, List.set_cons_zero, List.set_cons_succ]
        refine pl_take (d := some 23) (v := ?_) (by rfl) ?_ rfl ?_
        rotate_left
        · go_simp
          try with_reducible rfl
        simp only [Act.put, List.setIfInBounds_toArray, List.set_cons_zero, List.set_cons_succ]
        refine pl_take (d := some 24) (v := ?_) (by rfl) ?_ rfl ?_
        rotate_left
        · go_simp
          try with_reducible rfl
        simp only [Act.put, List.setIfInBounds_toArray, List.set_cons_zero, List.set_cons_succ]
        refine pl_skip (d := some 25) (by rfl) rfl ?_
        simp only [Act.put, List.setIfInBounds_toArray, List.set_cons_zero, List.set_cons_succ]
        refine pl_skip (d := some 26) (by rfl) rfl ?_
        simp only [Act.put, List.setIfInBounds_toArray, List.set_cons_zero, List.set_cons_succ]
        refine pl_skip (d := some 27) (by rfl) rfl ?_
        simp only [Act.put, List.setIfInBounds_toArray, List.set_cons_zero, List.set_cons_succ]
        refine pl_skip (d := some 28) (by rfl) rfl ?_
        simp only [Act.put, List.setIfInBounds_toArray, List.set_cons_zero, List.set_cons_succ]
        refine pl_take (d := some 29) (v := ?_) (by rfl) ?_ rfl ?_
        rotate_left
        · go_simp
          try with_reducible rfl
        simp only [Act.put, List.setIfInBounds_toArray, List.set_cons_zero, List.set_cons_succ]
        refine pl_take (d := some 30) (v := ?_) (by rfl) ?_ rfl ?_
        rotate_left
        · go_simp
          try with_reducible rfl
        simp only [Act.put, List.setIfInBounds_toArray, List.set_cons_zero, List.set_cons_succ]
        refine pl_skip (d := some 31) (by rfl) rfl ?_
        simp only [Act.put, List.setIfInBounds_toArray, List.set_cons_zero, List.set_cons_succ]
        refine pl_skip (d := some 32) (by rfl) rfl ?_
        simp only [Act.put, List.setIfInBounds_toArray, List.set_cons_zero, List.set_cons_succ]
        refine pl_skip (d := some 33) (by rfl) rfl ?_
        simp only [Act.put, List.setIfInBounds_toArray, List.set_cons_zero, List.set_cons_succ]
        refine pl_skip (d := some 34) (by rfl) rfl ?_
        simp only [Act.put, List.setIfInBounds_toArray, List.set_cons_zero, List.set_cons_succ]
        refine pl_take (d := some 35) (v := ?_) (by rfl) ?_ rfl ?_
        rotate_left
        · go_simp
          try with_reducible rfl
        simp only [Act.put, List.setIfInBounds_toArray, List.set_cons_zero, List.set_cons_succ]
        refine pl_nil ?_
        go_wp2_with fail
        go_meet
        exact ⟨true, rfl, hide ⟨E3.out, fun q => by cases q⟩⟩
      · have E3 := E2.below hB
        clear E2 hB cl
        have HS := hide (⟨hsm s (by simp), hsm o (by simp)⟩ : s.small ∧ o.small)
        clear hsm
        refine ⟨_, rfl, ?_⟩
        simp only [Act.put, List.setIfInBounds_toArray, List.set_cons_zero, List.set_cons_succ]
        refine pl_take (d := some 23) (v := ?_) (by rfl) ?_ rfl ?_
        rotate_left
        · go_simp
          try with_reducible rfl
        simp only [Act.put, List.setIfInBounds_toArray, List.set_cons_zero, List.set_cons_succ]
        refine pl_take (d := some 24) (v := ?_) (by rfl) ?_ rfl ?_
        rotate_left
        · go_simp
          try with_reducible rfl
        simp only [Act.put, List.setIfInBounds_toArray, List.set_cons_zero, List.set_cons_succ]
        refine pl_take (d := some 25) (v := .agg b.cells.toArray) (by rfl) (ex_mid rfl rfl E3.rb Tryd.underlying24 rfl ib) rfl ?_
        simp only [Act.put, List.setIfInBounds_toArray, List.set_cons_zero, List.set_cons_succ]
        refine pl_run (d := some 26) (by rfl) (exec_bs1 rfl rfl (bs_bat1 b _)) rfl ?_
        simp only [Act.put, List.setIfInBounds_toArray, List.set_cons_zero, List.set_cons_succ]
        have hb4 : Below w3.heap.size w3 (w3.alloc (.cells b.cells.toArray 24)) := (Below.refl _ _).alloc (Nat.le_refl _) _
        have cb := light_any w3.heap.size 1 [b] _ (bats1 w3 b (hb.below E3.bl))
        simp only [List.length_cons, List.length_nil, Nat.zero_add] at cb
        have E4 := E3.below hb4
        clear hb4 E3
        generalize w3.alloc (.cells b.cells.toArray 24) = w4 at *
        refine pl_call (d := some 27) (by rfl) (by go_simp; first | done | exact ⟨rfl, rfl⟩ | with_reducible rfl) rfl ?_
        refine cb.mono ?_
        rintro e' w5 hcase
        rcases hcase with ⟨rfl, hB⟩ | ⟨rfl, hB, hwt⟩
        · have E3 := hide (E4.below hB)
          clear E4 hB cb
          refine ⟨_, rfl, ?_⟩
          simp only [Act.put, List.setIfInBounds_toArray, List.set_cons_zero, List.set_cons_succ]
          refine pl_take (d := some 28) (v := ?_) (by rfl) ?_ rfl ?_
          rotate_left
          · go_simp
            try with_reducible rfl
          simp only [Act.put, List.setIfInBounds_toArray, List.set_cons_zero, List.set_cons_succ]
          refine pl_take (d := some 29) (v := ?_) (by rfl) ?_ rfl ?_
          rotate_left
          · go_simp
            try with_reducible rfl
          simp only [Act.put, List.setIfInBounds_toArray, List.set_cons_zero, List.set_cons_succ]
          refine pl_take (d := some 30) (v := ?_) (by rfl) ?_ rfl ?_
          rotate_left
          · go_simp
            try with_reducible rfl
          simp only [Act.put, List.setIfInBounds_toArray, List.set_cons_zero, List.set_cons_succ]
          refine pl_skip (d := some 31) (by rfl) rfl ?_
          simp only [Act.put, List.setIfInBounds_toArray, List.set_cons_zero, List.set_cons_succ]
          refine pl_skip (d := some 32) (by rfl) rfl ?_
          simp only [Act.put, List.setIfInBounds_toArray, List.set_cons_zero, List.set_cons_succ]
          refine pl_skip (d := some 33) (by rfl) rfl ?_
          simp only [Act.put, List.setIfInBounds_toArray, List.set_cons_zero, List.set_cons_succ]
          refine pl_skip (d := some 34) (by rfl) rfl ?_
          simp only [Act.put, List.setIfInBounds_toArray, List.set_cons_zero, List.set_cons_succ]
          refine pl_take (d := some 35) (v := ?_) (by rfl) ?_ rfl ?_
          rotate_left
          · go_simp
            try with_reducible rfl
          simp only [Act.put, List.setIfInBounds_toArray, List.set_cons_zero, List.set_cons_succ]
          refine pl_nil ?_
          go_wp2_with fail
          go_meet
          exact ⟨true, rfl, hide ⟨E3.out, fun q => by cases q⟩⟩
        · have E5 := E4.below hB
          clear E4 hB cb
          have HL := hide (wt_mem (x := b) (by simp) hwt)
          clear hwt
          refine ⟨_, rfl, ?_⟩
          simp only [Act.put, List.setIfInBounds_toArray, List.set_cons_zero, List.set_cons_succ]
          refine pl_take (d := some 28) (v := ?_) (by rfl) ?_ rfl ?_
          rotate_left
          · go_simp
            try with_reducible rfl
          simp only [Act.put, List.setIfInBounds_toArray, List.set_cons_zero, List.set_cons_succ]
          refine pl_take (d := some 29) (v := ?_) (by rfl) ?_ rfl ?_
          rotate_left
          · go_simp
            try with_reducible rfl
          simp only [Act.put, List.setIfInBounds_toArray, List.set_cons_zero, List.set_cons_succ]
          refine pl_take (d := some 30) (v := ?_) (by rfl) ?_ rfl ?_
          rotate_left
          · go_simp
            try with_reducible rfl
          simp only [Act.put, List.setIfInBounds_toArray, List.set_cons_zero, List.set_cons_succ]
          refine pl_take (d := some 31) (v := ?_) (by rfl) ?_ rfl ?_
          rotate_left
          · go_simp
            try with_reducible rfl
          simp only [Act.put, List.setIfInBounds_toArray, List.set_cons_zero, List.set_cons_succ]
          have k36 := cert_sl hc.v E5.rc
          simp only [Nat.zero_add] at k36
          refine pl_take (d := some 32) (v := _) (by rfl) (pl_one rfl rfl k36 Tryd.underlying29 rfl) rfl ?_
          simp only [Act.put, List.setIfInBounds_toArray, List.set_cons_zero, List.set_cons_succ]
          refine pl_take (d := some 33) (v := ?_) (by rfl) ?_ rfl ?_
          rotate_left
          · go_simp
            try with_reducible rfl
          simp only [Act.put, List.setIfInBounds_toArray, List.set_cons_zero, List.set_cons_succ]
          by_cases h100 : (c.ss.length : Int) > 100
          · have hq : decide ((c.ss.length : Int) > 100) = true := decide_eq_true h100
            have E3 := hide E5
            clear E5 k36
            refine pl_take (d := some 34) (v := ?_) (by rfl) ?_ rfl ?_
            rotate_left
            · go_simp
              try with_reducible rfl
            simp only [Act.put, List.setIfInBounds_toArray, List.set_cons_zero, List.set_cons_succ]
            refine pl_take (d := some 35) (v := ?_) (by rfl) ?_ rfl ?_
            rotate_left
            · go_simp
              try with_reducible rfl
            simp only [Act.put, List.setIfInBounds_toArray, List.set_cons_zero, List.set_cons_succ]
            refine pl_nil ?_
            go_wp2_with fail
            go_meet
            exact ⟨true, rfl, hide ⟨E3.out, fun q => by cases q⟩⟩
          · have hq : decide ((c.ss.length : Int) > 100) = false := decide_eq_false h100
            have HC := hide (show c.ss.length ≤ 100 by omega)
            have E3 := hide E5
            clear E5 k36
            refine pl_take (d := some 34) (v := ?_) (by rfl) ?_ rfl ?_
            rotate_left
            · go_simp
              try with_reducible rfl
            simp only [Act.put, List.setIfInBounds_toArray, List.set_cons_zero, List.set_cons_succ]
            refine pl_take (d := some 35) (v := ?_) (by rfl) ?_ rfl ?_
            rotate_left
            · go_simp
              try with_reducible rfl
            simp only [Act.put, List.setIfInBounds_toArray, List.set_cons_zero, List.set_cons_succ]
            refine pl_nil ?_
            go_wp2_with fail
            go_meet
            exact ⟨false, rfl, hide ⟨E3.out, fun _ => ⟨HS.out.1, HS.out.2, HL.out, HC.out⟩⟩⟩
  case rest =>
    obtain ⟨q, rfl, HE⟩ := hcut
    obtain ⟨E, hsm⟩ := HE.out
    clear HE E1
    cases q
    rotate_left
    · clear hsm
      have cL := lives18_any wc (hG.below E.bl)
      go_wp2_with fail
      refine cL.mono ?_
      rintro _ wl ⟨rfl, hBl⟩
      go_wp2_with fail
      go_ret
      exact ⟨rfl, E.bl.trans (hBl.mono E.bl.size)⟩
    obtain ⟨h1, h2, h3, h4⟩ := hsm rfl
    clear hsm
    have hs1 : Fine w s := ⟨hs, by have := h1.hc; omega, by have := h1.ec; omega⟩
    have hF : Fine w (acceptP s view b).1 := fine_acc hs1 hb view
    have cp := fun w' (h : Below w.heap.size w w') => acc_any s view b w' (hG.below h) (h1.ok (hs.below h)) (hb.below h) h3
    have cr := fun w' (h : Below w.heap.size w w') => xacc_any s view b w' (h1.ok (hs.below h)) (hb.below h) h3
    obtain ⟨x, hx⟩ : ∃ x, Hid ((acceptP s view b).1 = x) := ⟨_, hide rfl⟩
    obtain ⟨er, her⟩ : ∃ er, Hid ((acceptP s view b).2 = er) := ⟨_, hide rfl⟩
    simp only [hx.out, her.out] at cp cr hF
    clear hx her
    have l85 : x.cells.length = 85 := Sl.len hF.r.vok
    have a85 : x.cells.toArray.size = 85 := by simpa using l85
    have ix : (Tryd.prog.info? 37).map (·.size) = some x.cells.length := by rw [l85]; exact iszTslot
    have ixa : (Tryd.prog.info? 37).map (·.size) = some x.cells.toArray.size := by rw [a85]; exact iszTslot
    have iy : (Tryd.prog.info? 44).map (·.size) = some x.cells.length := by rw [l85]; exact iszTxslot
    have iya : (Tryd.prog.info? 44).map (·.size) = some x.cells.toArray.size := by rw [a85]; exact iszTxslot
    have ox := all_oneS x.one
    go_upto_region 3 with fail
    try simp only [Act.put]
    refine pl_begin ?_
    refine pl_take (d := some 38) (v := .agg s.cells.toArray) (by rfl) (ex_mid rfl rfl E.rs Tryd.underlying37 rfl i1) rfl ?_
    simp only [Act.put, List.setIfInBounds_toArray, List.set_cons_zero, List.set_cons_succ]
    refine pl_take (d := some 39) (v := ?_) (by rfl) ?_ rfl ?_
    rotate_left
    · go_simp
      try with_reducible rfl
    simp only [Act.put, List.setIfInBounds_toArray, List.set_cons_zero, List.set_cons_succ]
    refine pl_take (d := some 40) (v := .agg b.cells.toArray) (by rfl) (ex_mid rfl rfl E.rb Tryd.underlying24 rfl ib) rfl ?_
    simp only [Act.put, List.setIfInBounds_toArray, List.set_cons_zero, List.set_cons_succ]
    refine pl_call (d := some 41) (by rfl) (by go_simp; first | done | exact ⟨rfl, rfl⟩ | with_reducible rfl) rfl ?_
    refine (cp _ E.bl).mono ?_
    rintro _ w2 ⟨rfl, hB2⟩
    have E2 := E.below hB2
    clear hB2 E
    refine ⟨_, rfl, ?_⟩
    simp only [Act.put, List.setIfInBounds_toArray, List.set_cons_zero, List.set_cons_succ]
    refine pl_take (d := some 37) (v := ?_) (by rfl) ?_ rfl ?_
    rotate_left
    · go_simp
      try with_reducible rfl
    simp only [Act.put, List.setIfInBounds_toArray, List.set_cons_zero, List.set_cons_succ]
    refine pl_take (d := some 42) (v := ?_) (by rfl) ?_ rfl ?_
    rotate_left
    · go_simp
      try with_reducible rfl
    simp only [Act.put, List.setIfInBounds_toArray, List.set_cons_zero, List.set_cons_succ]
    refine pl_take (d := some 43) (v := ?_) (by rfl) ?_ rfl ?_
    rotate_left
    · go_simp
      try with_reducible rfl
    simp only [Act.put, List.setIfInBounds_toArray, List.set_cons_zero, List.set_cons_succ]
    refine pl_run (d := some 11) (by rfl) (ex_alloc rfl (zero_Tslot _)) rfl ?_
    simp only [Act.put, List.setIfInBounds_toArray, List.set_cons_zero, List.set_cons_succ]
    have VX := Vr.new (w := w) (x := w2) sl0.cells.toArray 37 E2.sz
    have hb3 : Below w2.heap.size w2 (w2.alloc (.cells sl0.cells.toArray 37)) := (Below.refl _ _).alloc (Nat.le_refl _) _
    have E2 := E2.below hb3
    clear hb3
    rw [show sl0.cells.toArray.size = 85 from rfl] at VX
    obtain ⟨X, hXe⟩ : ∃ X, Hid (w2.heap.size = X) := ⟨_, hide rfl⟩
    obtain ⟨w3, hw3⟩ : ∃ w3, Hid (w2.alloc (.cells sl0.cells.toArray 37) = w3) := ⟨_, hide rfl⟩
    rw [hw3.out] at VX E2
    rw [hXe.out] at VX
    rw [show w2.alloc (.cells (Value.agg sl0.cells.toArray).cells 37) = w3 from hw3.out, hXe.out]
    clear hw3 hXe
    have hth : w3.there X 0 x.cells.toArray.size := by rw [a85]; exact VX.th
    refine pl_store (by rfl) (ex_put rfl rfl rfl hth ixa ox) rfl ?_
    have E := E2.set VX.ge 0 x.cells
    have VX := VX.put l85
    clear hth E2
    obtain ⟨w4, hw4⟩ : ∃ w4, Hid (w3.setCells X 0 x.cells = w4) := ⟨_, hide rfl⟩
    rw [hw4.out] at E VX
    rw [show w3.setCells X 0 x.cells.toArray.toList = w4 from hw4.out]
    clear hw4
    refine pl_take (d := some 12) (v := ?_) (by rfl) ?_ rfl ?_
    rotate_left
    · go_simp
      try with_reducible rfl
    simp only [Act.put, List.setIfInBounds_toArray, List.set_cons_zero, List.set_cons_succ]
    refine pl_nil ?_
    go_upto_region 4 with fail
    go_cut [13, 14] (fun p q wx => ∃ Y : Nat, p = .pointer (some ⟨Y, 0, none⟩) ∧ q = .int .i64 er ∧ Hid (St w s o b c X Y x wx ∧ X ≠ Y))
    case first =>
      obtain ⟨w8, hw8⟩ : ∃ w8, w4.drew = w8 := ⟨_, rfl⟩
      have hb8 : Below w4.heap.size w4 w8 := by rw [← hw8]; exact (Below.refl _ _).drew
      have hS := E.below hb8
      have VX := VX.below hb8
      clear E hb8
      try simp only [Act.put]
      refine hs_begin (S := (Env w s o b c)) 11 rfl (by kernel_rfl) ?_
      rw [hw8]
      clear hw8
      refine hs_take (i := 0) (d := some 45) (v := .agg s.cells.toArray) rfl (by kernel_rfl) (by kernel_rfl) (by kernel_rfl) (by rfl) (fun w' hw => ex_mid rfl rfl hw.rs Tryd.underlying37 rfl i1) hS rfl ?_
      simp only [Act.put, List.setIfInBounds_toArray, List.set_cons_zero, List.set_cons_succ]
      refine hs_take (i := 2) (d := some 47) (v := ?_) rfl (by kernel_rfl) (by kernel_rfl) (by kernel_rfl) (by rfl) ?_ hS rfl ?_
      rotate_left
      · intro w' hw
        go_simp
        try with_reducible rfl
      simp only [Act.put, List.setIfInBounds_toArray, List.set_cons_zero, List.set_cons_succ]
      refine hs_take (i := 3) (d := some 48) (v := .agg b.cells.toArray) rfl (by kernel_rfl) (by kernel_rfl) (by kernel_rfl) (by rfl) (fun w' hw => ex_mid rfl rfl hw.rb Tryd.underlying24 rfl ib) hS rfl ?_
      simp only [Act.put, List.setIfInBounds_toArray, List.set_cons_zero, List.set_cons_succ]
      refine hs_fork (i := 1) (j := 8) (by kernel_rfl) ?_ ?_
      · refine st_call (i := 1) (d := some 46) rfl (by rfl) (by go_simp; first | done | exact ⟨rfl, rfl⟩ | with_reducible rfl) rfl ?_
        refine (of_any s hs.vok w8).mono ?_
        rintro _ w9 ⟨rfl, hBn⟩
        have hS := hS.below hBn
        have VX := VX.below hBn
        clear hBn
        refine ⟨_, rfl, hS, ?_⟩
        simp only [Act.put, List.setIfInBounds_toArray, List.set_cons_zero, List.set_cons_succ]
        refine hs_fork (i := 4) (j := 8) (by kernel_rfl) ?_ ?_
        · refine st_call (i := 4) (d := some 49) rfl (by rfl) (by go_simp; first | done | exact ⟨rfl, rfl⟩ | with_reducible rfl) rfl ?_
          refine (cr _ hS.bl).mono ?_
          rintro _ w10 ⟨rfl, hBn⟩
          have hS := hS.below hBn
          have VX := VX.below hBn
          clear hBn
          refine ⟨_, rfl, hS, ?_⟩
          simp only [Act.put, List.setIfInBounds_toArray, List.set_cons_zero, List.set_cons_succ]
          refine hs_take (i := 5) (d := some 44) (v := ?_) rfl (by kernel_rfl) (by kernel_rfl) (by kernel_rfl) (by rfl) ?_ hS rfl ?_
          rotate_left
          · intro w' hw
            go_simp
            try with_reducible rfl
          simp only [Act.put, List.setIfInBounds_toArray, List.set_cons_zero, List.set_cons_succ]
          refine hs_take (i := 6) (d := some 50) (v := ?_) rfl (by kernel_rfl) (by kernel_rfl) (by kernel_rfl) (by rfl) ?_ hS rfl ?_
          rotate_left
          · intro w' hw
            go_simp
            try with_reducible rfl
          simp only [Act.put, List.setIfInBounds_toArray, List.set_cons_zero, List.set_cons_succ]
          refine hs_take (i := 7) (d := some 51) (v := ?_) rfl (by kernel_rfl) (by kernel_rfl) (by kernel_rfl) (by rfl) ?_ hS rfl ?_
          rotate_left
          · intro w' hw
            go_simp
            try with_reducible rfl
          simp only [Act.put, List.setIfInBounds_toArray, List.set_cons_zero, List.set_cons_succ]
          have VY := Vr.new (w := w) (x := w10) sl0.cells.toArray 44 hS.sz
          have hb3 : Below w10.heap.size w10 (w10.alloc (.cells sl0.cells.toArray 44)) := (Below.refl _ _).alloc (Nat.le_refl _) _
          have hS := hS.below hb3
          have hYX : X < w10.heap.size := VX.lt
          have VX := VX.below hb3
          rw [show sl0.cells.toArray.size = 85 from rfl] at VY
          refine hs_run (i := 8) (d := some 13) (v := .pointer (some ⟨w10.heap.size, 0, none⟩)) (w' := w10.alloc (.cells sl0.cells.toArray 44)) rfl (by kernel_rfl) (by rfl) (ex_alloc rfl (zero_Txslot _)) rfl hS ?_
          simp only [Act.put, List.setIfInBounds_toArray, List.set_cons_zero, List.set_cons_succ]
          obtain ⟨Y, hYe⟩ : ∃ Y, Hid (w10.heap.size = Y) := ⟨_, hide rfl⟩
          obtain ⟨w11, hwn⟩ : ∃ w11, Hid (w10.alloc (.cells sl0.cells.toArray 44) = w11) := ⟨_, hide rfl⟩
          rw [hwn.out] at VY hS hb3 VX
          rw [hYe.out] at VY hYX
          rw [hwn.out, hYe.out]
          have hXY : X ≠ Y := by omega
          clear hb3 hwn hYe hYX
          have hth : w11.there Y 0 x.cells.toArray.size := by rw [a85]; exact VY.th
          have hS2 := hS.set VY.ge 0 x.cells
          have VX := VX.apart hXY 0 x.cells
          have VY := VY.put l85
          refine hs_store (i := 9) (w' := w11.setCells Y 0 x.cells) rfl (by kernel_rfl) (by rfl) (ex_put rfl rfl rfl hth iya ox) rfl hS2 ?_
          clear hS hth
          have hS := hS2
          clear hS2
          refine hs_take (i := 10) (d := some 14) (v := ?_) rfl (by kernel_rfl) (by kernel_rfl) (by kernel_rfl) (by rfl) ?_ hS rfl ?_
          rotate_left
          · intro w' hw
            go_simp
            try with_reducible rfl
          simp only [Act.put, List.setIfInBounds_toArray, List.set_cons_zero, List.set_cons_succ]
          refine hs_done (by kernel_rfl) ?_
          have HM := hide (⟨⟨hS, VX, VY⟩, hXY⟩ : St w s o b c X Y x _ ∧ X ≠ Y)
          clear hS VX VY cr cp
          go_wp2_with fail
          go_meet
          exact ⟨Y, rfl, rfl, HM⟩
        · have VY := Vr.new (w := w) (x := w9) sl0.cells.toArray 44 hS.sz
          have hb3 : Below w9.heap.size w9 (w9.alloc (.cells sl0.cells.toArray 44)) := (Below.refl _ _).alloc (Nat.le_refl _) _
          have hS := hS.below hb3
          have hYX : X < w9.heap.size := VX.lt
          have VX := VX.below hb3
          rw [show sl0.cells.toArray.size = 85 from rfl] at VY
          refine st_run (i := 8) (d := some 13) (v := .pointer (some ⟨w9.heap.size, 0, none⟩)) (w' := w9.alloc (.cells sl0.cells.toArray 44)) rfl (by rfl) (ex_alloc rfl (zero_Txslot _)) rfl hS ?_
          simp only [Act.put, List.setIfInBounds_toArray, List.set_cons_zero, List.set_cons_succ]
          obtain ⟨Y, hYe⟩ : ∃ Y, Hid (w9.heap.size = Y) := ⟨_, hide rfl⟩
          obtain ⟨w10, hwn⟩ : ∃ w10, Hid (w9.alloc (.cells sl0.cells.toArray 44) = w10) := ⟨_, hide rfl⟩
          rw [hwn.out] at VY hS hb3 VX
          rw [hYe.out] at VY hYX
          rw [hwn.out, hYe.out]
          have hXY : X ≠ Y := by omega
          clear hb3 hwn hYe hYX
          refine hs_call (i := 4) (d := some 49) rfl (by kernel_rfl) (by rfl) (by go_simp; first | done | exact ⟨rfl, rfl⟩ | with_reducible rfl) rfl ?_
          refine (cr _ hS.bl).mono ?_
          rintro _ w11 ⟨rfl, hBn⟩
          have hS := hS.below hBn
          have VX := VX.below hBn
          have VY := VY.below hBn
          clear hBn
          refine ⟨_, rfl, hS, ?_⟩
          simp only [Act.put, List.setIfInBounds_toArray, List.set_cons_zero, List.set_cons_succ]
          refine hs_take (i := 5) (d := some 44) (v := ?_) rfl (by kernel_rfl) (by kernel_rfl) (by kernel_rfl) (by rfl) ?_ hS rfl ?_
          rotate_left
          · intro w' hw
            go_simp
            try with_reducible rfl
          simp only [Act.put, List.setIfInBounds_toArray, List.set_cons_zero, List.set_cons_succ]
          refine hs_take (i := 6) (d := some 50) (v := ?_) rfl (by kernel_rfl) (by kernel_rfl) (by kernel_rfl) (by rfl) ?_ hS rfl ?_
          rotate_left
          · intro w' hw
            go_simp
            try with_reducible rfl
          simp only [Act.put, List.setIfInBounds_toArray, List.set_cons_zero, List.set_cons_succ]
          refine hs_take (i := 7) (d := some 51) (v := ?_) rfl (by kernel_rfl) (by kernel_rfl) (by kernel_rfl) (by rfl) ?_ hS rfl ?_
          rotate_left
          · intro w' hw
            go_simp
            try with_reducible rfl
          simp only [Act.put, List.setIfInBounds_toArray, List.set_cons_zero, List.set_cons_succ]
          have hth : w11.there Y 0 x.cells.toArray.size := by rw [a85]; exact VY.th
          have hS2 := hS.set VY.ge 0 x.cells
          have VX := VX.apart hXY 0 x.cells
          have VY := VY.put l85
          refine hs_store (i := 9) (w' := w11.setCells Y 0 x.cells) rfl (by kernel_rfl) (by rfl) (ex_put rfl rfl rfl hth iya ox) rfl hS2 ?_
          clear hS hth
          have hS := hS2
          clear hS2
          refine hs_take (i := 10) (d := some 14) (v := ?_) rfl (by kernel_rfl) (by kernel_rfl) (by kernel_rfl) (by rfl) ?_ hS rfl ?_
          rotate_left
          · intro w' hw
            go_simp
            try with_reducible rfl
          simp only [Act.put, List.setIfInBounds_toArray, List.set_cons_zero, List.set_cons_succ]
          refine hs_done (by kernel_rfl) ?_
          have HM := hide (⟨⟨hS, VX, VY⟩, hXY⟩ : St w s o b c X Y x _ ∧ X ≠ Y)
          clear hS VX VY cr cp
          go_wp2_with fail
          go_meet
          exact ⟨Y, rfl, rfl, HM⟩
      · have VY := Vr.new (w := w) (x := w8) sl0.cells.toArray 44 hS.sz
        have hb3 : Below w8.heap.size w8 (w8.alloc (.cells sl0.cells.toArray 44)) := (Below.refl _ _).alloc (Nat.le_refl _) _
        have hS := hS.below hb3
        have hYX : X < w8.heap.size := VX.lt
        have VX := VX.below hb3
        rw [show sl0.cells.toArray.size = 85 from rfl] at VY
        refine st_run (i := 8) (d := some 13) (v := .pointer (some ⟨w8.heap.size, 0, none⟩)) (w' := w8.alloc (.cells sl0.cells.toArray 44)) rfl (by rfl) (ex_alloc rfl (zero_Txslot _)) rfl hS ?_
        simp only [Act.put, List.setIfInBounds_toArray, List.set_cons_zero, List.set_cons_succ]
        obtain ⟨Y, hYe⟩ : ∃ Y, Hid (w8.heap.size = Y) := ⟨_, hide rfl⟩
        obtain ⟨w9, hwn⟩ : ∃ w9, Hid (w8.alloc (.cells sl0.cells.toArray 44) = w9) := ⟨_, hide rfl⟩
        rw [hwn.out] at VY hS hb3 VX
        rw [hYe.out] at VY hYX
        rw [hwn.out, hYe.out]
        have hXY : X ≠ Y := by omega
        clear hb3 hwn hYe hYX
        refine hs_call (i := 1) (d := some 46) rfl (by kernel_rfl) (by rfl) (by go_simp; first | done | exact ⟨rfl, rfl⟩ | with_reducible rfl) rfl ?_
        refine (of_any s hs.vok w9).mono ?_
        rintro _ w10 ⟨rfl, hBn⟩
        have hS := hS.below hBn
        have VX := VX.below hBn
        have VY := VY.below hBn
        clear hBn
        refine ⟨_, rfl, hS, ?_⟩
        simp only [Act.put, List.setIfInBounds_toArray, List.set_cons_zero, List.set_cons_succ]
        refine hs_call (i := 4) (d := some 49) rfl (by kernel_rfl) (by rfl) (by go_simp; first | done | exact ⟨rfl, rfl⟩ | with_reducible rfl) rfl ?_
        refine (cr _ hS.bl).mono ?_
        rintro _ w11 ⟨rfl, hBn⟩
        have hS := hS.below hBn
        have VX := VX.below hBn
        have VY := VY.below hBn
        clear hBn
        refine ⟨_, rfl, hS, ?_⟩
        simp only [Act.put, List.setIfInBounds_toArray, List.set_cons_zero, List.set_cons_succ]
        refine hs_take (i := 5) (d := some 44) (v := ?_) rfl (by kernel_rfl) (by kernel_rfl) (by kernel_rfl) (by rfl) ?_ hS rfl ?_
        rotate_left
        · intro w' hw
          go_simp
          try with_reducible rfl
        simp only [Act.put, List.setIfInBounds_toArray, List.set_cons_zero, List.set_cons_succ]
        refine hs_take (i := 6) (d := some 50) (v := ?_) rfl (by kernel_rfl) (by kernel_rfl) (by kernel_rfl) (by rfl) ?_ hS rfl ?_
        rotate_left
        · intro w' hw
          go_simp
          try with_reducible rfl
        simp only [Act.put, List.setIfInBounds_toArray, List.set_cons_zero, List.set_cons_succ]
        refine hs_take (i := 7) (d := some 51) (v := ?_) rfl (by kernel_rfl) (by kernel_rfl) (by kernel_rfl) (by rfl) ?_ hS rfl ?_
        rotate_left
        · intro w' hw
          go_simp
          try with_reducible rfl
        simp only [Act.put, List.setIfInBounds_toArray, List.set_cons_zero, List.set_cons_succ]
        have hth : w11.there Y 0 x.cells.toArray.size := by rw [a85]; exact VY.th
        have hS2 := hS.set VY.ge 0 x.cells
        have VX := VX.apart hXY 0 x.cells
        have VY := VY.put l85
        refine hs_store (i := 9) (w' := w11.setCells Y 0 x.cells) rfl (by kernel_rfl) (by rfl) (ex_put rfl rfl rfl hth iya ox) rfl hS2 ?_
        clear hS hth
        have hS := hS2
        clear hS2
        refine hs_take (i := 10) (d := some 14) (v := ?_) rfl (by kernel_rfl) (by kernel_rfl) (by kernel_rfl) (by rfl) ?_ hS rfl ?_
        rotate_left
        · intro w' hw
          go_simp
          try with_reducible rfl
        simp only [Act.put, List.setIfInBounds_toArray, List.set_cons_zero, List.set_cons_succ]
        refine hs_done (by kernel_rfl) ?_
        have HM := hide (⟨⟨hS, VX, VY⟩, hXY⟩ : St w s o b c X Y x _ ∧ X ≠ Y)
        clear hS VX VY cr cp
        go_wp2_with fail
        go_meet
        exact ⟨Y, rfl, rfl, HM⟩
    case rest =>
      obtain ⟨Y, rfl, rfl, HM⟩ := hcut
      obtain ⟨hSt, hXY⟩ := HM.out
      clear HM E VX cp cr
      go_upto_region 5 with fail
      obtain ⟨w8, hw8⟩ : ∃ w8, wc.drew = w8 := ⟨_, rfl⟩
      have hb8 : Below wc.heap.size wc w8 := by rw [← hw8]; exact (Below.refl _ _).drew
      have hS := hSt.below hb8
      have hne := int_neq er
      clear hSt hb8
      try simp only [Act.put]
      refine hs_begin (S := (St w s o b c X Y x)) 10 rfl (by kernel_rfl) ?_
      rw [hw8]
      clear hw8
      refine hs_take (i := 0) (d := some 52) (v := .agg x.cells.toArray) rfl (by kernel_rfl) (by kernel_rfl) (by kernel_rfl) (by rfl) (fun w' hw => ex_mid rfl rfl hw.vx.r Tryd.underlying37 rfl ix) hS rfl ?_
      simp only [Act.put, List.setIfInBounds_toArray, List.set_cons_zero, List.set_cons_succ]
      refine hs_take (i := 2) (d := some 54) (v := .agg x.cells.toArray) rfl (by kernel_rfl) (by kernel_rfl) (by kernel_rfl) (by rfl) (fun w' hw => ex_mid rfl rfl hw.vy.r Tryd.underlying44 rfl iy) hS rfl ?_
      simp only [Act.put, List.setIfInBounds_toArray, List.set_cons_zero, List.set_cons_succ]
      refine hs_call (i := 1) (d := some 53) rfl (by kernel_rfl) (by rfl) (by go_simp; first | done | exact ⟨rfl, rfl⟩ | with_reducible rfl) rfl ?_
      refine (of_any x hF.r.vok w8).mono ?_
      rintro _ w9 ⟨rfl, hBn⟩
      have hS := hS.below hBn
      clear hBn
      refine ⟨_, rfl, hS, ?_⟩
      simp only [Act.put, List.setIfInBounds_toArray, List.set_cons_zero, List.set_cons_succ]
      refine hs_call (i := 3) (d := some 55) rfl (by kernel_rfl) (by rfl) (by go_simp; first | done | exact ⟨rfl, rfl⟩ | with_reducible rfl) rfl ?_
      refine (xslot_self x w9 (hF.r.below hS.e.bl) hF.h hF.e).mono ?_
      rintro _ w10 ⟨rfl, hBn⟩
      have hS := hS.below hBn
      clear hBn
      refine ⟨_, rfl, hS, ?_⟩
      simp only [Act.put, List.setIfInBounds_toArray, List.set_cons_zero, List.set_cons_succ]
      refine hs_take (i := 4) (d := some 56) (v := ?_) rfl (by kernel_rfl) (by kernel_rfl) (by kernel_rfl) (by rfl) ?_ hS rfl ?_
      rotate_left
      · intro w' hw
        go_simp
        try with_reducible rfl
      simp only [Act.put, List.setIfInBounds_toArray, List.set_cons_zero, List.set_cons_succ]
      refine hs_take (i := 5) (d := some 57) (v := ?_) rfl (by kernel_rfl) (by kernel_rfl) (by kernel_rfl) (by rfl) ?_ hS rfl ?_
      rotate_left
      · intro w' hw
        go_simp
        try with_reducible rfl
      simp only [Act.put, List.setIfInBounds_toArray, List.set_cons_zero, List.set_cons_succ]
      refine hs_take (i := 6) (d := some 58) (v := ?_) rfl (by kernel_rfl) (by kernel_rfl) (by kernel_rfl) (by rfl) ?_ hS rfl ?_
      rotate_left
      · intro w' hw
        go_simp
        try with_reducible rfl
      simp only [Act.put, List.setIfInBounds_toArray, List.set_cons_zero, List.set_cons_succ]
      refine hs_take (i := 7) (d := some 59) (v := ?_) rfl (by kernel_rfl) (by kernel_rfl) (by kernel_rfl) (by rfl) ?_ hS rfl ?_
      rotate_left
      · intro w' hw
        go_simp
        try with_reducible rfl
      simp only [Act.put, List.setIfInBounds_toArray, List.set_cons_zero, List.set_cons_succ]
      refine hs_take (i := 8) (d := some 60) (v := .bool false) rfl (by kernel_rfl) (by kernel_rfl) (by kernel_rfl) (by rfl) (fun w' hw => by go_simp) hS rfl ?_
      simp only [Act.put, List.setIfInBounds_toArray, List.set_cons_zero, List.set_cons_succ]
      refine hs_take (i := 9) (d := some 61) (v := ?_) rfl (by kernel_rfl) (by kernel_rfl) (by kernel_rfl) (by rfl) ?_ hS rfl ?_
      rotate_left
      · intro w' hw
        go_simp
        try with_reducible rfl
      simp only [Act.put, List.setIfInBounds_toArray, List.set_cons_zero, List.set_cons_succ]
      refine hs_done (by kernel_rfl) ?_
      have E := hS.e
      have VX := hS.vx
      have VY := hS.vy
      clear hS hne hF l85 a85 ix ixa iy iya ox
      have hF : Fine w (holdP s c).1 := fine_hold hs1 hc (by omega)
      have cp := fun w' (h : Below w.heap.size w w') => hold_any s c w' (hG.below h) (h1.ok (hs.below h)) (hc.below h)
      have cr := fun w' (h : Below w.heap.size w w') => xhold_any s c w' (h1.ok (hs.below h)) (hc.below h)
      obtain ⟨x, hx⟩ : ∃ x, Hid ((holdP s c).1 = x) := ⟨_, hide rfl⟩
      obtain ⟨er, her⟩ : ∃ er, Hid ((holdP s c).2 = er) := ⟨_, hide rfl⟩
      simp only [hx.out, her.out] at cp cr hF
      clear hx her
      have l85 : x.cells.length = 85 := Sl.len hF.r.vok
      have a85 : x.cells.toArray.size = 85 := by simpa using l85
      have ix : (Tryd.prog.info? 37).map (·.size) = some x.cells.length := by rw [l85]; exact iszTslot
      have ixa : (Tryd.prog.info? 37).map (·.size) = some x.cells.toArray.size := by rw [a85]; exact iszTslot
      have iy : (Tryd.prog.info? 44).map (·.size) = some x.cells.length := by rw [l85]; exact iszTxslot
      have iya : (Tryd.prog.info? 44).map (·.size) = some x.cells.toArray.size := by rw [a85]; exact iszTxslot
      have ox := all_oneS x.one
      go_upto_region 7 with fail
      try simp only [Act.put]
      refine pl_begin ?_
      refine pl_take (d := some 63) (v := .agg s.cells.toArray) (by rfl) (ex_mid rfl rfl E.rs Tryd.underlying37 rfl i1) rfl ?_
      simp only [Act.put, List.setIfInBounds_toArray, List.set_cons_zero, List.set_cons_succ]
      refine pl_take (d := some 64) (v := .agg c.cells.toArray) (by rfl) (ex_mid rfl rfl E.rc Tryd.underlying31 rfl ic) rfl ?_
      simp only [Act.put, List.setIfInBounds_toArray, List.set_cons_zero, List.set_cons_succ]
      refine pl_call (d := some 65) (by rfl) (by go_simp; first | done | exact ⟨rfl, rfl⟩ | with_reducible rfl) rfl ?_
      refine (cp _ E.bl).mono ?_
      rintro _ w2 ⟨rfl, hB2⟩
      have E2 := E.below hB2
      have VX := VX.below hB2
      have VY := VY.below hB2
      clear hB2 E
      refine ⟨_, rfl, ?_⟩
      simp only [Act.put, List.setIfInBounds_toArray, List.set_cons_zero, List.set_cons_succ]
      refine pl_take (d := some 62) (v := ?_) (by rfl) ?_ rfl ?_
      rotate_left
      · go_simp
        try with_reducible rfl
      simp only [Act.put, List.setIfInBounds_toArray, List.set_cons_zero, List.set_cons_succ]
      refine pl_take (d := some 66) (v := ?_) (by rfl) ?_ rfl ?_
      rotate_left
      · go_simp
        try with_reducible rfl
      simp only [Act.put, List.setIfInBounds_toArray, List.set_cons_zero, List.set_cons_succ]
      refine pl_take (d := some 67) (v := ?_) (by rfl) ?_ rfl ?_
      rotate_left
      · go_simp
        try with_reducible rfl
      simp only [Act.put, List.setIfInBounds_toArray, List.set_cons_zero, List.set_cons_succ]
      have hth : w2.there X 0 x.cells.toArray.size := by rw [a85]; exact VX.th
      refine pl_store (by rfl) (ex_put rfl rfl rfl hth ixa ox) rfl ?_
      have E := E2.set VX.ge 0 x.cells
      have VX := VX.put l85
      have VY := VY.apart (Ne.symm hXY) 0 x.cells
      clear hth E2
      obtain ⟨w4, hw4⟩ : ∃ w4, Hid (w2.setCells X 0 x.cells = w4) := ⟨_, hide rfl⟩
      rw [hw4.out] at E VX VY
      rw [show w2.setCells X 0 x.cells.toArray.toList = w4 from hw4.out]
      clear hw4
      refine pl_take (d := some 12) (v := ?_) (by rfl) ?_ rfl ?_
      rotate_left
      · go_simp
        try with_reducible rfl
      simp only [Act.put, List.setIfInBounds_toArray, List.set_cons_zero, List.set_cons_succ]
      refine pl_nil ?_
      go_upto_region 8 with fail
      obtain ⟨w8, hw8⟩ : ∃ w8, w4.drew = w8 := ⟨_, rfl⟩
      have hb8 : Below w4.heap.size w4 w8 := by rw [← hw8]; exact (Below.refl _ _).drew
      have hS := E.below hb8
      have VX := VX.below hb8
      have VY := VY.below hb8
      clear E hb8
      try simp only [Act.put]
      refine hs_begin (S := (Env w s o b c)) 9 rfl (by kernel_rfl) ?_
      rw [hw8]
      clear hw8
      refine hs_take (i := 0) (d := some 69) (v := .agg s.cells.toArray) rfl (by kernel_rfl) (by kernel_rfl) (by kernel_rfl) (by rfl) (fun w' hw => ex_mid rfl rfl hw.rs Tryd.underlying37 rfl i1) hS rfl ?_
      simp only [Act.put, List.setIfInBounds_toArray, List.set_cons_zero, List.set_cons_succ]
      refine hs_take (i := 2) (d := some 71) (v := .agg c.cells.toArray) rfl (by kernel_rfl) (by kernel_rfl) (by kernel_rfl) (by rfl) (fun w' hw => ex_mid rfl rfl hw.rc Tryd.underlying31 rfl ic) hS rfl ?_
      simp only [Act.put, List.setIfInBounds_toArray, List.set_cons_zero, List.set_cons_succ]
      refine hs_call (i := 1) (d := some 70) rfl (by kernel_rfl) (by rfl) (by go_simp; first | done | exact ⟨rfl, rfl⟩ | with_reducible rfl) rfl ?_
      refine (of_any s hs.vok w8).mono ?_
      rintro _ w9 ⟨rfl, hBn⟩
      have hS := hS.below hBn
      have VX := VX.below hBn
      have VY := VY.below hBn
      clear hBn
      refine ⟨_, rfl, hS, ?_⟩
      simp only [Act.put, List.setIfInBounds_toArray, List.set_cons_zero, List.set_cons_succ]
      refine hs_call (i := 3) (d := some 72) rfl (by kernel_rfl) (by rfl) (by go_simp; first | done | exact ⟨rfl, rfl⟩ | with_reducible rfl) rfl ?_
      refine (cr _ hS.bl).mono ?_
      rintro _ w10 ⟨rfl, hBn⟩
      have hS := hS.below hBn
      have VX := VX.below hBn
      have VY := VY.below hBn
      clear hBn
      refine ⟨_, rfl, hS, ?_⟩
      simp only [Act.put, List.setIfInBounds_toArray, List.set_cons_zero, List.set_cons_succ]
      refine hs_take (i := 4) (d := some 68) (v := ?_) rfl (by kernel_rfl) (by kernel_rfl) (by kernel_rfl) (by rfl) ?_ hS rfl ?_
      rotate_left
      · intro w' hw
        go_simp
        try with_reducible rfl
      simp only [Act.put, List.setIfInBounds_toArray, List.set_cons_zero, List.set_cons_succ]
      refine hs_take (i := 5) (d := some 73) (v := ?_) rfl (by kernel_rfl) (by kernel_rfl) (by kernel_rfl) (by rfl) ?_ hS rfl ?_
      rotate_left
      · intro w' hw
        go_simp
        try with_reducible rfl
      simp only [Act.put, List.setIfInBounds_toArray, List.set_cons_zero, List.set_cons_succ]
      refine hs_take (i := 6) (d := some 74) (v := ?_) rfl (by kernel_rfl) (by kernel_rfl) (by kernel_rfl) (by rfl) ?_ hS rfl ?_
      rotate_left
      · intro w' hw
        go_simp
        try with_reducible rfl
      simp only [Act.put, List.setIfInBounds_toArray, List.set_cons_zero, List.set_cons_succ]
      have hth : w10.there Y 0 x.cells.toArray.size := by rw [a85]; exact VY.th
      have hS2 := hS.set VY.ge 0 x.cells
      have VX := VX.apart hXY 0 x.cells
      have VY := VY.put l85
      refine hs_store (i := 7) (w' := w10.setCells Y 0 x.cells) rfl (by kernel_rfl) (by rfl) (ex_put rfl rfl rfl hth iya ox) rfl hS2 ?_
      clear hS hth
      have hS := hS2
      clear hS2
      refine hs_take (i := 8) (d := some 14) (v := ?_) rfl (by kernel_rfl) (by kernel_rfl) (by kernel_rfl) (by rfl) ?_ hS rfl ?_
      rotate_left
      · intro w' hw
        go_simp
        try with_reducible rfl
      simp only [Act.put, List.setIfInBounds_toArray, List.set_cons_zero, List.set_cons_succ]
      refine hs_done (by kernel_rfl) ?_
      have hSt : St w s o b c X Y x _ := ⟨hS, VX, VY⟩
      clear hS VX VY cr cp
      obtain ⟨w6, hw6⟩ : ∃ w6, Hid (w10.setCells Y 0 x.cells = w6) := ⟨_, hide rfl⟩
      rw [hw6.out] at hSt
      rw [hw6.out]
      clear hw6
      go_upto_region 9 with fail
      obtain ⟨w8, hw8⟩ : ∃ w8, w6.drew = w8 := ⟨_, rfl⟩
      have hb8 : Below w6.heap.size w6 w8 := by rw [← hw8]; exact (Below.refl _ _).drew
      have hS := hSt.below hb8
      have hne := int_neq er
      clear hSt hb8
      try simp only [Act.put]
      refine hs_begin (S := (St w s o b c X Y x)) 10 rfl (by kernel_rfl) ?_
      rw [hw8]
      clear hw8
      refine hs_take (i := 0) (d := some 75) (v := .agg x.cells.toArray) rfl (by kernel_rfl) (by kernel_rfl) (by kernel_rfl) (by rfl) (fun w' hw => ex_mid rfl rfl hw.vx.r Tryd.underlying37 rfl ix) hS rfl ?_
      simp only [Act.put, List.setIfInBounds_toArray, List.set_cons_zero, List.set_cons_succ]
      refine hs_take (i := 2) (d := some 77) (v := .agg x.cells.toArray) rfl (by kernel_rfl) (by kernel_rfl) (by kernel_rfl) (by rfl) (fun w' hw => ex_mid rfl rfl hw.vy.r Tryd.underlying44 rfl iy) hS rfl ?_
      simp only [Act.put, List.setIfInBounds_toArray, List.set_cons_zero, List.set_cons_succ]
      refine hs_call (i := 1) (d := some 76) rfl (by kernel_rfl) (by rfl) (by go_simp; first | done | exact ⟨rfl, rfl⟩ | with_reducible rfl) rfl ?_
      refine (of_any x hF.r.vok w8).mono ?_
      rintro _ w9 ⟨rfl, hBn⟩
      have hS := hS.below hBn
      clear hBn
      refine ⟨_, rfl, hS, ?_⟩
      simp only [Act.put, List.setIfInBounds_toArray, List.set_cons_zero, List.set_cons_succ]
      refine hs_call (i := 3) (d := some 78) rfl (by kernel_rfl) (by rfl) (by go_simp; first | done | exact ⟨rfl, rfl⟩ | with_reducible rfl) rfl ?_
      refine (xslot_self x w9 (hF.r.below hS.e.bl) hF.h hF.e).mono ?_
      rintro _ w10 ⟨rfl, hBn⟩
      have hS := hS.below hBn
      clear hBn
      refine ⟨_, rfl, hS, ?_⟩
      simp only [Act.put, List.setIfInBounds_toArray, List.set_cons_zero, List.set_cons_succ]
      refine hs_take (i := 4) (d := some 79) (v := ?_) rfl (by kernel_rfl) (by kernel_rfl) (by kernel_rfl) (by rfl) ?_ hS rfl ?_
      rotate_left
      · intro w' hw
        go_simp
        try with_reducible rfl
      simp only [Act.put, List.setIfInBounds_toArray, List.set_cons_zero, List.set_cons_succ]
      refine hs_take (i := 5) (d := some 80) (v := ?_) rfl (by kernel_rfl) (by kernel_rfl) (by kernel_rfl) (by rfl) ?_ hS rfl ?_
      rotate_left
      · intro w' hw
        go_simp
        try with_reducible rfl
      simp only [Act.put, List.setIfInBounds_toArray, List.set_cons_zero, List.set_cons_succ]
      refine hs_take (i := 6) (d := some 81) (v := ?_) rfl (by kernel_rfl) (by kernel_rfl) (by kernel_rfl) (by rfl) ?_ hS rfl ?_
      rotate_left
      · intro w' hw
        go_simp
        try with_reducible rfl
      simp only [Act.put, List.setIfInBounds_toArray, List.set_cons_zero, List.set_cons_succ]
      refine hs_take (i := 7) (d := some 82) (v := ?_) rfl (by kernel_rfl) (by kernel_rfl) (by kernel_rfl) (by rfl) ?_ hS rfl ?_
      rotate_left
      · intro w' hw
        go_simp
        try with_reducible rfl
      simp only [Act.put, List.setIfInBounds_toArray, List.set_cons_zero, List.set_cons_succ]
      refine hs_take (i := 8) (d := some 83) (v := .bool false) rfl (by kernel_rfl) (by kernel_rfl) (by kernel_rfl) (by rfl) (fun w' hw => by go_simp) hS rfl ?_
      simp only [Act.put, List.setIfInBounds_toArray, List.set_cons_zero, List.set_cons_succ]
      refine hs_take (i := 9) (d := some 84) (v := ?_) rfl (by kernel_rfl) (by kernel_rfl) (by kernel_rfl) (by rfl) ?_ hS rfl ?_
      rotate_left
      · intro w' hw
        go_simp
        try with_reducible rfl
      simp only [Act.put, List.setIfInBounds_toArray, List.set_cons_zero, List.set_cons_succ]
      refine hs_done (by kernel_rfl) ?_
      have E := hS.e
      have VX := hS.vx
      have VY := hS.vy
      clear hS hne hF l85 a85 ix ixa iy iya ox
      have hF : Fine w (decideP s b c).1 := fine_dec hs1 hb hc (by omega)
      have cp := fun w' (h : Below w.heap.size w w') => dec_any s b c w' (hG.below h) (h1.ok (hs.below h)) (hb.below h) h3 (hc.below h)
      have cr := fun w' (h : Below w.heap.size w w') => xdec_any s b c w' (h1.ok (hs.below h)) (hb.below h) h3 (hc.below h)
      obtain ⟨x, hx⟩ : ∃ x, Hid ((decideP s b c).1 = x) := ⟨_, hide rfl⟩
      obtain ⟨er, her⟩ : ∃ er, Hid ((decideP s b c).2 = er) := ⟨_, hide rfl⟩
      simp only [hx.out, her.out] at cp cr hF
      clear hx her
      have l85 : x.cells.length = 85 := Sl.len hF.r.vok
      have a85 : x.cells.toArray.size = 85 := by simpa using l85
      have ix : (Tryd.prog.info? 37).map (·.size) = some x.cells.length := by rw [l85]; exact iszTslot
      have ixa : (Tryd.prog.info? 37).map (·.size) = some x.cells.toArray.size := by rw [a85]; exact iszTslot
      have iy : (Tryd.prog.info? 44).map (·.size) = some x.cells.length := by rw [l85]; exact iszTxslot
      have iya : (Tryd.prog.info? 44).map (·.size) = some x.cells.toArray.size := by rw [a85]; exact iszTxslot
      have ox := all_oneS x.one
      go_upto_region 11 with fail
      try simp only [Act.put]
      refine pl_begin ?_
      refine pl_take (d := some 86) (v := .agg s.cells.toArray) (by rfl) (ex_mid rfl rfl E.rs Tryd.underlying37 rfl i1) rfl ?_
      simp only [Act.put, List.setIfInBounds_toArray, List.set_cons_zero, List.set_cons_succ]
      refine pl_take (d := some 87) (v := .agg b.cells.toArray) (by rfl) (ex_mid rfl rfl E.rb Tryd.underlying24 rfl ib) rfl ?_
      simp only [Act.put, List.setIfInBounds_toArray, List.set_cons_zero, List.set_cons_succ]
      refine pl_take (d := some 88) (v := .agg c.cells.toArray) (by rfl) (ex_mid rfl rfl E.rc Tryd.underlying31 rfl ic) rfl ?_
      simp only [Act.put, List.setIfInBounds_toArray, List.set_cons_zero, List.set_cons_succ]
      refine pl_call (d := some 89) (by rfl) (by go_simp; first | done | exact ⟨rfl, rfl⟩ | with_reducible rfl) rfl ?_
      refine (cp _ E.bl).mono ?_
      rintro _ w2 ⟨rfl, hB2⟩
      have E2 := E.below hB2
      have VX := VX.below hB2
      have VY := VY.below hB2
      clear hB2 E
      refine ⟨_, rfl, ?_⟩
      simp only [Act.put, List.setIfInBounds_toArray, List.set_cons_zero, List.set_cons_succ]
      refine pl_take (d := some 85) (v := ?_) (by rfl) ?_ rfl ?_
      rotate_left
      · go_simp
        try with_reducible rfl
      simp only [Act.put, List.setIfInBounds_toArray, List.set_cons_zero, List.set_cons_succ]
      refine pl_take (d := some 90) (v := ?_) (by rfl) ?_ rfl ?_
      rotate_left
      · go_simp
        try with_reducible rfl
      simp only [Act.put, List.setIfInBounds_toArray, List.set_cons_zero, List.set_cons_succ]
      refine pl_take (d := some 91) (v := ?_) (by rfl) ?_ rfl ?_
      rotate_left
      · go_simp
        try with_reducible rfl
      simp only [Act.put, List.setIfInBounds_toArray, List.set_cons_zero, List.set_cons_succ]
      have hth : w2.there X 0 x.cells.toArray.size := by rw [a85]; exact VX.th
      refine pl_store (by rfl) (ex_put rfl rfl rfl hth ixa ox) rfl ?_
      have E := E2.set VX.ge 0 x.cells
      have VX := VX.put l85
      have VY := VY.apart (Ne.symm hXY) 0 x.cells
      clear hth E2
      obtain ⟨w4, hw4⟩ : ∃ w4, Hid (w2.setCells X 0 x.cells = w4) := ⟨_, hide rfl⟩
      rw [hw4.out] at E VX VY
      rw [show w2.setCells X 0 x.cells.toArray.toList = w4 from hw4.out]
      clear hw4
      refine pl_take (d := some 12) (v := ?_) (by rfl) ?_ rfl ?_
      rotate_left
      · go_simp
        try with_reducible rfl
      simp only [Act.put, List.setIfInBounds_toArray, List.set_cons_zero, List.set_cons_succ]
      refine pl_nil ?_
      go_upto_region 12 with fail
      obtain ⟨w8, hw8⟩ : ∃ w8, w4.drew = w8 := ⟨_, rfl⟩
      have hb8 : Below w4.heap.size w4 w8 := by rw [← hw8]; exact (Below.refl _ _).drew
      have hS := E.below hb8
      have VX := VX.below hb8
      have VY := VY.below hb8
      clear E hb8
      try simp only [Act.put]
      refine hs_begin (S := (Env w s o b c)) 10 rfl (by kernel_rfl) ?_
      rw [hw8]
      clear hw8
      refine hs_take (i := 0) (d := some 93) (v := .agg s.cells.toArray) rfl (by kernel_rfl) (by kernel_rfl) (by kernel_rfl) (by rfl) (fun w' hw => ex_mid rfl rfl hw.rs Tryd.underlying37 rfl i1) hS rfl ?_
      simp only [Act.put, List.setIfInBounds_toArray, List.set_cons_zero, List.set_cons_succ]
      refine hs_take (i := 2) (d := some 95) (v := .agg b.cells.toArray) rfl (by kernel_rfl) (by kernel_rfl) (by kernel_rfl) (by rfl) (fun w' hw => ex_mid rfl rfl hw.rb Tryd.underlying24 rfl ib) hS rfl ?_
      simp only [Act.put, List.setIfInBounds_toArray, List.set_cons_zero, List.set_cons_succ]
      refine hs_take (i := 3) (d := some 96) (v := .agg c.cells.toArray) rfl (by kernel_rfl) (by kernel_rfl) (by kernel_rfl) (by rfl) (fun w' hw => ex_mid rfl rfl hw.rc Tryd.underlying31 rfl ic) hS rfl ?_
      simp only [Act.put, List.setIfInBounds_toArray, List.set_cons_zero, List.set_cons_succ]
      refine hs_call (i := 1) (d := some 94) rfl (by kernel_rfl) (by rfl) (by go_simp; first | done | exact ⟨rfl, rfl⟩ | with_reducible rfl) rfl ?_
      refine (of_any s hs.vok w8).mono ?_
      rintro _ w9 ⟨rfl, hBn⟩
      have hS := hS.below hBn
      have VX := VX.below hBn
      have VY := VY.below hBn
      clear hBn
      refine ⟨_, rfl, hS, ?_⟩
      simp only [Act.put, List.setIfInBounds_toArray, List.set_cons_zero, List.set_cons_succ]
      refine hs_call (i := 4) (d := some 97) rfl (by kernel_rfl) (by rfl) (by go_simp; first | done | exact ⟨rfl, rfl⟩ | with_reducible rfl) rfl ?_
      refine (cr _ hS.bl).mono ?_
      rintro _ w10 ⟨rfl, hBn⟩
      have hS := hS.below hBn
      have VX := VX.below hBn
      have VY := VY.below hBn
      clear hBn
      refine ⟨_, rfl, hS, ?_⟩
      simp only [Act.put, List.setIfInBounds_toArray, List.set_cons_zero, List.set_cons_succ]
      refine hs_take (i := 5) (d := some 92) (v := ?_) rfl (by kernel_rfl) (by kernel_rfl) (by kernel_rfl) (by rfl) ?_ hS rfl ?_
      rotate_left
      · intro w' hw
        go_simp
        try with_reducible rfl
      simp only [Act.put, List.setIfInBounds_toArray, List.set_cons_zero, List.set_cons_succ]
      refine hs_take (i := 6) (d := some 98) (v := ?_) rfl (by kernel_rfl) (by kernel_rfl) (by kernel_rfl) (by rfl) ?_ hS rfl ?_
      rotate_left
      · intro w' hw
        go_simp
        try with_reducible rfl
      simp only [Act.put, List.setIfInBounds_toArray, List.set_cons_zero, List.set_cons_succ]
      refine hs_take (i := 7) (d := some 99) (v := ?_) rfl (by kernel_rfl) (by kernel_rfl) (by kernel_rfl) (by rfl) ?_ hS rfl ?_
      rotate_left
      · intro w' hw
        go_simp
        try with_reducible rfl
      simp only [Act.put, List.setIfInBounds_toArray, List.set_cons_zero, List.set_cons_succ]
      have hth : w10.there Y 0 x.cells.toArray.size := by rw [a85]; exact VY.th
      have hS2 := hS.set VY.ge 0 x.cells
      have VX := VX.apart hXY 0 x.cells
      have VY := VY.put l85
      refine hs_store (i := 8) (w' := w10.setCells Y 0 x.cells) rfl (by kernel_rfl) (by rfl) (ex_put rfl rfl rfl hth iya ox) rfl hS2 ?_
      clear hS hth
      have hS := hS2
      clear hS2
      refine hs_take (i := 9) (d := some 14) (v := ?_) rfl (by kernel_rfl) (by kernel_rfl) (by kernel_rfl) (by rfl) ?_ hS rfl ?_
      rotate_left
      · intro w' hw
        go_simp
        try with_reducible rfl
      simp only [Act.put, List.setIfInBounds_toArray, List.set_cons_zero, List.set_cons_succ]
      refine hs_done (by kernel_rfl) ?_
      have hSt : St w s o b c X Y x _ := ⟨hS, VX, VY⟩
      clear hS VX VY cr cp
      obtain ⟨w6, hw6⟩ : ∃ w6, Hid (w10.setCells Y 0 x.cells = w6) := ⟨_, hide rfl⟩
      rw [hw6.out] at hSt
      rw [hw6.out]
      clear hw6
      go_upto_region 13 with fail
      obtain ⟨w8, hw8⟩ : ∃ w8, w6.drew = w8 := ⟨_, rfl⟩
      have hb8 : Below w6.heap.size w6 w8 := by rw [← hw8]; exact (Below.refl _ _).drew
      have hS := hSt.below hb8
      have hne := int_neq er
      clear hSt hb8
      try simp only [Act.put]
      refine hs_begin (S := (St w s o b c X Y x)) 10 rfl (by kernel_rfl) ?_
      rw [hw8]
      clear hw8
      refine hs_take (i := 0) (d := some 100) (v := .agg x.cells.toArray) rfl (by kernel_rfl) (by kernel_rfl) (by kernel_rfl) (by rfl) (fun w' hw => ex_mid rfl rfl hw.vx.r Tryd.underlying37 rfl ix) hS rfl ?_
      simp only [Act.put, List.setIfInBounds_toArray, List.set_cons_zero, List.set_cons_succ]
      refine hs_take (i := 2) (d := some 102) (v := .agg x.cells.toArray) rfl (by kernel_rfl) (by kernel_rfl) (by kernel_rfl) (by rfl) (fun w' hw => ex_mid rfl rfl hw.vy.r Tryd.underlying44 rfl iy) hS rfl ?_
      simp only [Act.put, List.setIfInBounds_toArray, List.set_cons_zero, List.set_cons_succ]
      refine hs_call (i := 1) (d := some 101) rfl (by kernel_rfl) (by rfl) (by go_simp; first | done | exact ⟨rfl, rfl⟩ | with_reducible rfl) rfl ?_
      refine (of_any x hF.r.vok w8).mono ?_
      rintro _ w9 ⟨rfl, hBn⟩
      have hS := hS.below hBn
      clear hBn
      refine ⟨_, rfl, hS, ?_⟩
      simp only [Act.put, List.setIfInBounds_toArray, List.set_cons_zero, List.set_cons_succ]
      refine hs_call (i := 3) (d := some 103) rfl (by kernel_rfl) (by rfl) (by go_simp; first | done | exact ⟨rfl, rfl⟩ | with_reducible rfl) rfl ?_
      refine (xslot_self x w9 (hF.r.below hS.e.bl) hF.h hF.e).mono ?_
      rintro _ w10 ⟨rfl, hBn⟩
      have hS := hS.below hBn
      clear hBn
      refine ⟨_, rfl, hS, ?_⟩
      simp only [Act.put, List.setIfInBounds_toArray, List.set_cons_zero, List.set_cons_succ]
      refine hs_take (i := 4) (d := some 104) (v := ?_) rfl (by kernel_rfl) (by kernel_rfl) (by kernel_rfl) (by rfl) ?_ hS rfl ?_
      rotate_left
      · intro w' hw
        go_simp
        try with_reducible rfl
      simp only [Act.put, List.setIfInBounds_toArray, List.set_cons_zero, List.set_cons_succ]
      refine hs_take (i := 5) (d := some 105) (v := ?_) rfl (by kernel_rfl) (by kernel_rfl) (by kernel_rfl) (by rfl) ?_ hS rfl ?_
      rotate_left
      · intro w' hw
        go_simp
        try with_reducible rfl
      simp only [Act.put, List.setIfInBounds_toArray, List.set_cons_zero, List.set_cons_succ]
      refine hs_take (i := 6) (d := some 106) (v := ?_) rfl (by kernel_rfl) (by kernel_rfl) (by kernel_rfl) (by rfl) ?_ hS rfl ?_
      rotate_left
      · intro w' hw
        go_simp
        try with_reducible rfl
      simp only [Act.put, List.setIfInBounds_toArray, List.set_cons_zero, List.set_cons_succ]
      refine hs_take (i := 7) (d := some 107) (v := ?_) rfl (by kernel_rfl) (by kernel_rfl) (by kernel_rfl) (by rfl) ?_ hS rfl ?_
      rotate_left
      · intro w' hw
        go_simp
        try with_reducible rfl
      simp only [Act.put, List.setIfInBounds_toArray, List.set_cons_zero, List.set_cons_succ]
      refine hs_take (i := 8) (d := some 108) (v := .bool false) rfl (by kernel_rfl) (by kernel_rfl) (by kernel_rfl) (by rfl) (fun w' hw => by go_simp) hS rfl ?_
      simp only [Act.put, List.setIfInBounds_toArray, List.set_cons_zero, List.set_cons_succ]
      refine hs_take (i := 9) (d := some 109) (v := ?_) rfl (by kernel_rfl) (by kernel_rfl) (by kernel_rfl) (by rfl) ?_ hS rfl ?_
      rotate_left
      · intro w' hw
        go_simp
        try with_reducible rfl
      simp only [Act.put, List.setIfInBounds_toArray, List.set_cons_zero, List.set_cons_succ]
      refine hs_done (by kernel_rfl) ?_
      have E := hS.e
      have VX := hS.vx
      have VY := hS.vy
      clear hS hne hF l85 a85 ix ixa iy iya ox
      clear VX VY hXY
      have hdl := hc.v.dl
      have iD : (Tryd.prog.info? 26).map (·.size) = some (v8 c.v.d).length := by rw [v8_length, hdl]; exact iszD
      have dg : ∀ {W : World}, W.rangeAt (w.heap.size + 1 + 1 + 1) 0 c.cells → W.rangeAt (w.heap.size + 1 + 1 + 1) 4 (v8 c.v.d) := fun h => by
        have := Vt.dig (range_left h)
        simpa using this
      have hkat := known_at (d := c.v.d) hs
      have cp := fun w' (h : Below w.heap.size w w') => known_any s c.v.d hdl w' (hG.below h) (h1.ok (hs.below h))
      have cr := fun w' (h : Below w.heap.size w w') => xknown_any s c.v.d hdl w' (h1.ok (hs.below h))
      obtain ⟨kb, hkb⟩ : ∃ x, Hid ((knownP s c.v.d).1 = x) := ⟨_, hide rfl⟩
      obtain ⟨kq, hkq⟩ : ∃ q, Hid ((knownP s c.v.d).2 = q) := ⟨_, hide rfl⟩
      simp only [hkb.out, hkq.out] at cp cr hkat
      clear hkb hkq
      have ik : (Tryd.prog.info? 24).map (·.size) = some kb.cells.length := iszB
      have ika : (Tryd.prog.info? 24).map (·.size) = some kb.cells.toArray.size := iszB
      have ok1 := all_oneS kb.one
      have k2 : kb.cells.length = 2 := rfl
      go_upto_region 15 with fail
      try simp only [Act.put]
      refine pl_begin ?_
      refine pl_take (d := some 111) (v := .agg s.cells.toArray) (by rfl) (ex_mid rfl rfl E.rs Tryd.underlying37 rfl i1) rfl ?_
      simp only [Act.put, List.setIfInBounds_toArray, List.set_cons_zero, List.set_cons_succ]
      refine pl_take (d := some 112) (v := ?_) (by rfl) ?_ rfl ?_
      rotate_left
      · go_simp
        try with_reducible rfl
      simp only [Act.put, List.setIfInBounds_toArray, List.set_cons_zero, List.set_cons_succ]
      refine pl_take (d := some 113) (v := ?_) (by rfl) ?_ rfl ?_
      rotate_left
      · go_simp
        try with_reducible rfl
      simp only [Act.put, List.setIfInBounds_toArray, List.set_cons_zero, List.set_cons_succ]
      refine pl_take (d := some 114) (v := .agg (v8 c.v.d).toArray) (by rfl) (ex_mid rfl rfl (dg E.rc) Tryd.underlying26 rfl iD) rfl ?_
      simp only [Act.put, List.setIfInBounds_toArray, List.set_cons_zero, List.set_cons_succ]
      refine pl_call (d := some 115) (by rfl) (by go_simp; first | done | exact ⟨rfl, rfl⟩ | with_reducible rfl) rfl ?_
      refine (cp _ E.bl).mono ?_
      rintro _ w2 ⟨rfl, hB2⟩
      have E2 := E.below hB2
      clear hB2 E cp
      refine ⟨_, rfl, ?_⟩
      simp only [Act.put, List.setIfInBounds_toArray, List.set_cons_zero, List.set_cons_succ]
      refine pl_take (d := some 110) (v := ?_) (by rfl) ?_ rfl ?_
      rotate_left
      · go_simp
        try with_reducible rfl
      simp only [Act.put, List.setIfInBounds_toArray, List.set_cons_zero, List.set_cons_succ]
      refine pl_take (d := some 116) (v := ?_) (by rfl) ?_ rfl ?_
      rotate_left
      · go_simp
        try with_reducible rfl
      simp only [Act.put, List.setIfInBounds_toArray, List.set_cons_zero, List.set_cons_succ]
      refine pl_take (d := some 117) (v := ?_) (by rfl) ?_ rfl ?_
      rotate_left
      · go_simp
        try with_reducible rfl
      simp only [Act.put, List.setIfInBounds_toArray, List.set_cons_zero, List.set_cons_succ]
      refine pl_run (d := some 15) (by rfl) (ex_alloc rfl (zero_Tbatch _)) rfl ?_
      simp only [Act.put, List.setIfInBounds_toArray, List.set_cons_zero, List.set_cons_succ]
      have VX := Vr.new (w := w) (x := w2) bat0.cells.toArray 24 E2.sz
      have hb3 : Below w2.heap.size w2 (w2.alloc (.cells bat0.cells.toArray 24)) := (Below.refl _ _).alloc (Nat.le_refl _) _
      have E2 := E2.below hb3
      clear hb3
      rw [show bat0.cells.toArray.size = 2 from rfl] at VX
      obtain ⟨X, hXe⟩ : ∃ X, Hid (w2.heap.size = X) := ⟨_, hide rfl⟩
      obtain ⟨w3, hw3⟩ : ∃ w3, Hid (w2.alloc (.cells bat0.cells.toArray 24) = w3) := ⟨_, hide rfl⟩
      rw [hw3.out] at VX E2
      rw [hXe.out] at VX
      rw [show w2.alloc (.cells (Value.agg bat0.cells.toArray).cells 24) = w3 from hw3.out, hXe.out]
      clear hw3 hXe
      have hth : w3.there X 0 kb.cells.toArray.size := VX.th
      refine pl_store (by rfl) (ex_put rfl rfl rfl hth ika ok1) rfl ?_
      have E := E2.set VX.ge 0 kb.cells
      have VX := VX.put k2
      clear hth E2
      obtain ⟨w4, hw4⟩ : ∃ w4, Hid (w3.setCells X 0 kb.cells = w4) := ⟨_, hide rfl⟩
      rw [hw4.out] at E VX
      rw [show w3.setCells X 0 kb.cells.toArray.toList = w4 from hw4.out]
      clear hw4
      refine pl_take (d := some 16) (v := ?_) (by rfl) ?_ rfl ?_
      rotate_left
      · go_simp
        try with_reducible rfl
      simp only [Act.put, List.setIfInBounds_toArray, List.set_cons_zero, List.set_cons_succ]
      refine pl_nil ?_
      go_upto_region 16 with fail
      go_cut [17, 18] (fun p q wx => ∃ Y : Nat, p = .pointer (some ⟨Y, 0, none⟩) ∧ q = .bool kq ∧ Hid (Env w s o b c wx ∧ Vr wx w X 2 kb.cells ∧ Vr wx w Y 2 kb.cells))
      case first =>
        obtain ⟨w8, hw8⟩ : ∃ w8, w4.drew = w8 := ⟨_, rfl⟩
        have hb8 : Below w4.heap.size w4 w8 := by rw [← hw8]; exact (Below.refl _ _).drew
        have hS := E.below hb8
        have VX := VX.below hb8
        clear E hb8
        try simp only [Act.put]
        refine hs_begin (S := (Env w s o b c)) 12 rfl (by kernel_rfl) ?_
        rw [hw8]
        clear hw8
        refine hs_take (i := 0) (d := some 119) (v := .agg s.cells.toArray) rfl (by kernel_rfl) (by kernel_rfl) (by kernel_rfl) (by rfl) (fun w' hw => ex_mid rfl rfl hw.rs Tryd.underlying37 rfl i1) hS rfl ?_
        simp only [Act.put, List.setIfInBounds_toArray, List.set_cons_zero, List.set_cons_succ]
        refine hs_take (i := 2) (d := some 121) (v := ?_) rfl (by kernel_rfl) (by kernel_rfl) (by kernel_rfl) (by rfl) ?_ hS rfl ?_
        rotate_left
        · intro w' hw
          go_simp
          try with_reducible rfl
        simp only [Act.put, List.setIfInBounds_toArray, List.set_cons_zero, List.set_cons_succ]
        refine hs_take (i := 3) (d := some 122) (v := ?_) rfl (by kernel_rfl) (by kernel_rfl) (by kernel_rfl) (by rfl) ?_ hS rfl ?_
        rotate_left
        · intro w' hw
          go_simp
          try with_reducible rfl
        simp only [Act.put, List.setIfInBounds_toArray, List.set_cons_zero, List.set_cons_succ]
        refine hs_take (i := 4) (d := some 123) (v := .agg (v8 c.v.d).toArray) rfl (by kernel_rfl) (by kernel_rfl) (by kernel_rfl) (by rfl) (fun w' hw => ex_mid rfl rfl (dg hw.rc) Tryd.underlying26 rfl iD) hS rfl ?_
        simp only [Act.put, List.setIfInBounds_toArray, List.set_cons_zero, List.set_cons_succ]
        refine hs_fork (i := 1) (j := 9) (by kernel_rfl) ?_ ?_
        · refine st_call (i := 1) (d := some 120) rfl (by rfl) (by go_simp; first | done | exact ⟨rfl, rfl⟩ | with_reducible rfl) rfl ?_
          refine (of_any s hs.vok w8).mono ?_
          rintro _ w9 ⟨rfl, hBn⟩
          have hS := hS.below hBn
          have VX := VX.below hBn
          clear hBn
          refine ⟨_, rfl, hS, ?_⟩
          simp only [Act.put, List.setIfInBounds_toArray, List.set_cons_zero, List.set_cons_succ]
          refine hs_fork (i := 5) (j := 9) (by kernel_rfl) ?_ ?_
          · refine st_call (i := 5) (d := some 124) rfl (by rfl) (by go_simp; first | done | exact ⟨rfl, rfl⟩ | with_reducible rfl) rfl ?_
            refine (cr _ hS.bl).mono ?_
            rintro _ w10 ⟨rfl, hBn⟩
            have hS := hS.below hBn
            have VX := VX.below hBn
            clear hBn
            refine ⟨_, rfl, hS, ?_⟩
            simp only [Act.put, List.setIfInBounds_toArray, List.set_cons_zero, List.set_cons_succ]
            refine hs_take (i := 6) (d := some 118) (v := ?_) rfl (by kernel_rfl) (by kernel_rfl) (by kernel_rfl) (by rfl) ?_ hS rfl ?_
            rotate_left
            · intro w' hw
              go_simp
              try with_reducible rfl
            simp only [Act.put, List.setIfInBounds_toArray, List.set_cons_zero, List.set_cons_succ]
            refine hs_take (i := 7) (d := some 125) (v := ?_) rfl (by kernel_rfl) (by kernel_rfl) (by kernel_rfl) (by rfl) ?_ hS rfl ?_
            rotate_left
            · intro w' hw
              go_simp
              try with_reducible rfl
            simp only [Act.put, List.setIfInBounds_toArray, List.set_cons_zero, List.set_cons_succ]
            refine hs_take (i := 8) (d := some 126) (v := ?_) rfl (by kernel_rfl) (by kernel_rfl) (by kernel_rfl) (by rfl) ?_ hS rfl ?_
            rotate_left
            · intro w' hw
              go_simp
              try with_reducible rfl
            simp only [Act.put, List.setIfInBounds_toArray, List.set_cons_zero, List.set_cons_succ]
            have VY := Vr.new (w := w) (x := w10) bat0.cells.toArray 24 hS.sz
            have hb3 : Below w10.heap.size w10 (w10.alloc (.cells bat0.cells.toArray 24)) := (Below.refl _ _).alloc (Nat.le_refl _) _
            have hS := hS.below hb3
            have hYX : X < w10.heap.size := VX.lt
            have VX := VX.below hb3
            rw [show bat0.cells.toArray.size = 2 from rfl] at VY
            refine hs_run (i := 9) (d := some 17) (v := .pointer (some ⟨w10.heap.size, 0, none⟩)) (w' := w10.alloc (.cells bat0.cells.toArray 24)) rfl (by kernel_rfl) (by rfl) (ex_alloc rfl (zero_Tbatch _)) rfl hS ?_
            simp only [Act.put, List.setIfInBounds_toArray, List.set_cons_zero, List.set_cons_succ]
            obtain ⟨Y, hYe⟩ : ∃ Y, Hid (w10.heap.size = Y) := ⟨_, hide rfl⟩
            obtain ⟨w11, hwn⟩ : ∃ w11, Hid (w10.alloc (.cells bat0.cells.toArray 24) = w11) := ⟨_, hide rfl⟩
            rw [hwn.out] at VY hS hb3 VX
            rw [hYe.out] at VY hYX
            rw [hwn.out, hYe.out]
            have hXY : X ≠ Y := by omega
            clear hb3 hwn hYe hYX
            have hth : w11.there Y 0 kb.cells.toArray.size := VY.th
            have hS2 := hS.set VY.ge 0 kb.cells
            have VX := VX.apart hXY 0 kb.cells
            have VY := VY.put k2
            refine hs_store (i := 10) (w' := w11.setCells Y 0 kb.cells) rfl (by kernel_rfl) (by rfl) (ex_put rfl rfl rfl hth ika ok1) rfl hS2 ?_
            clear hS hth
            have hS := hS2
            clear hS2
            refine hs_take (i := 11) (d := some 18) (v := ?_) rfl (by kernel_rfl) (by kernel_rfl) (by kernel_rfl) (by rfl) ?_ hS rfl ?_
            rotate_left
            · intro w' hw
              go_simp
              try with_reducible rfl
            simp only [Act.put, List.setIfInBounds_toArray, List.set_cons_zero, List.set_cons_succ]
            refine hs_done (by kernel_rfl) ?_
            have HM := hide (⟨hS, VX, VY⟩ : Env w s o b c _ ∧ Vr _ w X 2 kb.cells ∧ Vr _ w Y 2 kb.cells)
            clear hS VX VY cr
            go_wp2_with fail
            go_meet
            exact ⟨Y, rfl, rfl, HM⟩
          · have VY := Vr.new (w := w) (x := w9) bat0.cells.toArray 24 hS.sz
            have hb3 : Below w9.heap.size w9 (w9.alloc (.cells bat0.cells.toArray 24)) := (Below.refl _ _).alloc (Nat.le_refl _) _
            have hS := hS.below hb3
            have hYX : X < w9.heap.size := VX.lt
            have VX := VX.below hb3
            rw [show bat0.cells.toArray.size = 2 from rfl] at VY
            refine st_run (i := 9) (d := some 17) (v := .pointer (some ⟨w9.heap.size, 0, none⟩)) (w' := w9.alloc (.cells bat0.cells.toArray 24)) rfl (by rfl) (ex_alloc rfl (zero_Tbatch _)) rfl hS ?_
            simp only [Act.put, List.setIfInBounds_toArray, List.set_cons_zero, List.set_cons_succ]
            obtain ⟨Y, hYe⟩ : ∃ Y, Hid (w9.heap.size = Y) := ⟨_, hide rfl⟩
            obtain ⟨w10, hwn⟩ : ∃ w10, Hid (w9.alloc (.cells bat0.cells.toArray 24) = w10) := ⟨_, hide rfl⟩
            rw [hwn.out] at VY hS hb3 VX
            rw [hYe.out] at VY hYX
            rw [hwn.out, hYe.out]
            have hXY : X ≠ Y := by omega
            clear hb3 hwn hYe hYX
            refine hs_call (i := 5) (d := some 124) rfl (by kernel_rfl) (by rfl) (by go_simp; first | done | exact ⟨rfl, rfl⟩ | with_reducible rfl) rfl ?_
            refine (cr _ hS.bl).mono ?_
            rintro _ w11 ⟨rfl, hBn⟩
            have hS := hS.below hBn
            have VX := VX.below hBn
            have VY := VY.below hBn
            clear hBn
            refine ⟨_, rfl, hS, ?_⟩
            simp only [Act.put, List.setIfInBounds_toArray, List.set_cons_zero, List.set_cons_succ]
            refine hs_take (i := 6) (d := some 118) (v := ?_) rfl (by kernel_rfl) (by kernel_rfl) (by kernel_rfl) (by rfl) ?_ hS rfl ?_
            rotate_left
            · intro w' hw
              go_simp
              try with_reducible rfl
            simp only [Act.put, List.setIfInBounds_toArray, List.set_cons_zero, List.set_cons_succ]
            refine hs_take (i := 7) (d := some 125) (v := ?_) rfl (by kernel_rfl) (by kernel_rfl) (by kernel_rfl) (by rfl) ?_ hS rfl ?_
            rotate_left
            · intro w' hw
              go_simp
              try with_reducible rfl
            simp only [Act.put, List.setIfInBounds_toArray, List.set_cons_zero, List.set_cons_succ]
            refine hs_take (i := 8) (d := some 126) (v := ?_) rfl (by kernel_rfl) (by kernel_rfl) (by kernel_rfl) (by rfl) ?_ hS rfl ?_
            rotate_left
            · intro w' hw
              go_simp
              try with_reducible rfl
            simp only [Act.put, List.setIfInBounds_toArray, List.set_cons_zero, List.set_cons_succ]
            have hth : w11.there Y 0 kb.cells.toArray.size := VY.th
            have hS2 := hS.set VY.ge 0 kb.cells
            have VX := VX.apart hXY 0 kb.cells
            have VY := VY.put k2
            refine hs_store (i := 10) (w' := w11.setCells Y 0 kb.cells) rfl (by kernel_rfl) (by rfl) (ex_put rfl rfl rfl hth ika ok1) rfl hS2 ?_
            clear hS hth
            have hS := hS2
            clear hS2
            refine hs_take (i := 11) (d := some 18) (v := ?_) rfl (by kernel_rfl) (by kernel_rfl) (by kernel_rfl) (by rfl) ?_ hS rfl ?_
            rotate_left
            · intro w' hw
              go_simp
              try with_reducible rfl
            simp only [Act.put, List.setIfInBounds_toArray, List.set_cons_zero, List.set_cons_succ]
            refine hs_done (by kernel_rfl) ?_
            have HM := hide (⟨hS, VX, VY⟩ : Env w s o b c _ ∧ Vr _ w X 2 kb.cells ∧ Vr _ w Y 2 kb.cells)
            clear hS VX VY cr
            go_wp2_with fail
            go_meet
            exact ⟨Y, rfl, rfl, HM⟩
        · have VY := Vr.new (w := w) (x := w8) bat0.cells.toArray 24 hS.sz
          have hb3 : Below w8.heap.size w8 (w8.alloc (.cells bat0.cells.toArray 24)) := (Below.refl _ _).alloc (Nat.le_refl _) _
          have hS := hS.below hb3
          have hYX : X < w8.heap.size := VX.lt
          have VX := VX.below hb3
          rw [show bat0.cells.toArray.size = 2 from rfl] at VY
          refine st_run (i := 9) (d := some 17) (v := .pointer (some ⟨w8.heap.size, 0, none⟩)) (w' := w8.alloc (.cells bat0.cells.toArray 24)) rfl (by rfl) (ex_alloc rfl (zero_Tbatch _)) rfl hS ?_
          simp only [Act.put, List.setIfInBounds_toArray, List.set_cons_zero, List.set_cons_succ]
          obtain ⟨Y, hYe⟩ : ∃ Y, Hid (w8.heap.size = Y) := ⟨_, hide rfl⟩
          obtain ⟨w9, hwn⟩ : ∃ w9, Hid (w8.alloc (.cells bat0.cells.toArray 24) = w9) := ⟨_, hide rfl⟩
          rw [hwn.out] at VY hS hb3 VX
          rw [hYe.out] at VY hYX
          rw [hwn.out, hYe.out]
          have hXY : X ≠ Y := by omega
          clear hb3 hwn hYe hYX
          refine hs_call (i := 1) (d := some 120) rfl (by kernel_rfl) (by rfl) (by go_simp; first | done | exact ⟨rfl, rfl⟩ | with_reducible rfl) rfl ?_
          refine (of_any s hs.vok w9).mono ?_
          rintro _ w10 ⟨rfl, hBn⟩
          have hS := hS.below hBn
          have VX := VX.below hBn
          have VY := VY.below hBn
          clear hBn
          refine ⟨_, rfl, hS, ?_⟩
          simp only [Act.put, List.setIfInBounds_toArray, List.set_cons_zero, List.set_cons_succ]
          refine hs_call (i := 5) (d := some 124) rfl (by kernel_rfl) (by rfl) (by go_simp; first | done | exact ⟨rfl, rfl⟩ | with_reducible rfl) rfl ?_
          refine (cr _ hS.bl).mono ?_
          rintro _ w11 ⟨rfl, hBn⟩
          have hS := hS.below hBn
          have VX := VX.below hBn
          have VY := VY.below hBn
          clear hBn
          refine ⟨_, rfl, hS, ?_⟩
          simp only [Act.put, List.setIfInBounds_toArray, List.set_cons_zero, List.set_cons_succ]
          refine hs_take (i := 6) (d := some 118) (v := ?_) rfl (by kernel_rfl) (by kernel_rfl) (by kernel_rfl) (by rfl) ?_ hS rfl ?_
          rotate_left
          · intro w' hw
            go_simp
            try with_reducible rfl
          simp only [Act.put, List.setIfInBounds_toArray, List.set_cons_zero, List.set_cons_succ]
          refine hs_take (i := 7) (d := some 125) (v := ?_) rfl (by kernel_rfl) (by kernel_rfl) (by kernel_rfl) (by rfl) ?_ hS rfl ?_
          rotate_left
          · intro w' hw
            go_simp
            try with_reducible rfl
          simp only [Act.put, List.setIfInBounds_toArray, List.set_cons_zero, List.set_cons_succ]
          refine hs_take (i := 8) (d := some 126) (v := ?_) rfl (by kernel_rfl) (by kernel_rfl) (by kernel_rfl) (by rfl) ?_ hS rfl ?_
          rotate_left
          · intro w' hw
            go_simp
            try with_reducible rfl
          simp only [Act.put, List.setIfInBounds_toArray, List.set_cons_zero, List.set_cons_succ]
          have hth : w11.there Y 0 kb.cells.toArray.size := VY.th
          have hS2 := hS.set VY.ge 0 kb.cells
          have VX := VX.apart hXY 0 kb.cells
          have VY := VY.put k2
          refine hs_store (i := 10) (w' := w11.setCells Y 0 kb.cells) rfl (by kernel_rfl) (by rfl) (ex_put rfl rfl rfl hth ika ok1) rfl hS2 ?_
          clear hS hth
          have hS := hS2
          clear hS2
          refine hs_take (i := 11) (d := some 18) (v := ?_) rfl (by kernel_rfl) (by kernel_rfl) (by kernel_rfl) (by rfl) ?_ hS rfl ?_
          rotate_left
          · intro w' hw
            go_simp
            try with_reducible rfl
          simp only [Act.put, List.setIfInBounds_toArray, List.set_cons_zero, List.set_cons_succ]
          refine hs_done (by kernel_rfl) ?_
          have HM := hide (⟨hS, VX, VY⟩ : Env w s o b c _ ∧ Vr _ w X 2 kb.cells ∧ Vr _ w Y 2 kb.cells)
          clear hS VX VY cr
          go_wp2_with fail
          go_meet
          exact ⟨Y, rfl, rfl, HM⟩
      case rest =>
        obtain ⟨Y, rfl, rfl, HM⟩ := hcut
        obtain ⟨E, VX, VY⟩ := HM.out
        clear HM cr
        have ho1 : Fine w o := ⟨ho, by have := h2.hc; omega, by have := h2.ec; omega⟩
        go_upto_region 17 with fail
        obtain ⟨w8, hw8⟩ : ∃ w8, wc.drew = w8 := ⟨_, rfl⟩
        have hb8 : Below wc.heap.size wc w8 := by rw [← hw8]; exact (Below.refl _ _).drew
        have hS : (fun W => Env w s o b c W ∧ W.rangeAt X 0 kb.cells ∧ W.rangeAt Y 0 kb.cells) w8 := ⟨E.below hb8, (VX.below hb8).r, (VY.below hb8).r⟩
        have VX := (VX.below hb8).lt
        have VY := (VY.below hb8).lt
        clear E hb8
        try simp only [Act.put]
        refine hs_begin (S := (fun W => Env w s o b c W ∧ W.rangeAt X 0 kb.cells ∧ W.rangeAt Y 0 kb.cells)) 23 rfl (by kernel_rfl) ?_
        rw [hw8]
        clear hw8
        refine hs_take (i := 0) (d := some 127) (v := .agg kb.cells.toArray) rfl (by kernel_rfl) (by kernel_rfl) (by kernel_rfl) (by rfl) (fun w' hw => ex_mid rfl rfl hw.2.1 Tryd.underlying24 rfl ik) hS rfl ?_
        simp only [Act.put, List.setIfInBounds_toArray, List.set_cons_zero, List.set_cons_succ]
        refine hs_take (i := 1) (d := some 128) (v := .agg kb.cells.toArray) rfl (by kernel_rfl) (by kernel_rfl) (by kernel_rfl) (by rfl) (fun w' hw => ex_mid rfl rfl hw.2.2 Tryd.underlying24 rfl ik) hS rfl ?_
        simp only [Act.put, List.setIfInBounds_toArray, List.set_cons_zero, List.set_cons_succ]
        refine hs_call (i := 2) (d := some 129) rfl (by kernel_rfl) (by rfl) (by go_simp; first | done | exact ⟨rfl, rfl⟩ | with_reducible rfl) rfl ?_
        refine (same_self kb w8 (hkat.below hS.1.bl)).mono ?_
        rintro e' w9 ⟨rfl, hBn⟩
        have hS : (fun W => Env w s o b c W ∧ W.rangeAt X 0 kb.cells ∧ W.rangeAt Y 0 kb.cells) w9 := ⟨hS.1.below hBn, range_below hS.2.1 hBn VX, range_below hS.2.2 hBn VY⟩
        have VX := Nat.lt_of_lt_of_le VX hBn.size
        have VY := Nat.lt_of_lt_of_le VY hBn.size
        clear hBn
        refine ⟨_, rfl, hS, ?_⟩
        simp only [Act.put, List.setIfInBounds_toArray, List.set_cons_zero, List.set_cons_succ]
        refine hs_take (i := 3) (d := some 130) (v := ?_) rfl (by kernel_rfl) (by kernel_rfl) (by kernel_rfl) (by rfl) ?_ hS rfl ?_
        rotate_left
        · intro w' hw
          go_simp
          try with_reducible rfl
        simp only [Act.put, List.setIfInBounds_toArray, List.set_cons_zero, List.set_cons_succ]
        refine hs_take (i := 4) (d := some 131) (v := ?_) rfl (by kernel_rfl) (by kernel_rfl) (by kernel_rfl) (by rfl) ?_ hS rfl ?_
        rotate_left
        · intro w' hw
          go_simp
          try with_reducible rfl
        simp only [Act.put, List.setIfInBounds_toArray, List.set_cons_zero, List.set_cons_succ]
        refine hs_take (i := 5) (d := some 132) (v := ?_) rfl (by kernel_rfl) (by kernel_rfl) (by kernel_rfl) (by rfl) ?_ hS rfl ?_
        rotate_left
        · intro w' hw
          go_simp
          try with_reducible rfl
        simp only [Act.put, List.setIfInBounds_toArray, List.set_cons_zero, List.set_cons_succ]
        refine hs_take (i := 6) (d := some 133) (v := .bool true) rfl (by kernel_rfl) (by kernel_rfl) (by kernel_rfl) (by rfl) (fun w' hw => ex_eqB rfl rfl rfl (by simp)) hS rfl ?_
        simp only [Act.put, List.setIfInBounds_toArray, List.set_cons_zero, List.set_cons_succ]
        refine hs_take (i := 7) (d := some 134) (v := ?_) rfl (by kernel_rfl) (by kernel_rfl) (by kernel_rfl) (by rfl) ?_ hS rfl ?_
        rotate_left
        · intro w' hw
          go_simp
          try with_reducible rfl
        simp only [Act.put, List.setIfInBounds_toArray, List.set_cons_zero, List.set_cons_succ]
        refine hs_take (i := 8) (d := some 135) (v := ?_) rfl (by kernel_rfl) (by kernel_rfl) (by kernel_rfl) (by rfl) ?_ hS rfl ?_
        rotate_left
        · intro w' hw
          go_simp
          try with_reducible rfl
        simp only [Act.put, List.setIfInBounds_toArray, List.set_cons_zero, List.set_cons_succ]
        refine hs_take (i := 9) (d := some 136) (v := .agg s.cells.toArray) rfl (by kernel_rfl) (by kernel_rfl) (by kernel_rfl) (by rfl) (fun w' hw => ex_mid rfl rfl hw.1.rs Tryd.underlying37 rfl i1) hS rfl ?_
        simp only [Act.put, List.setIfInBounds_toArray, List.set_cons_zero, List.set_cons_succ]
        refine hs_take (i := 10) (d := some 137) (v := .agg o.cells.toArray) rfl (by kernel_rfl) (by kernel_rfl) (by kernel_rfl) (by rfl) (fun w' hw => ex_mid rfl rfl hw.1.ro Tryd.underlying37 rfl i2) hS rfl ?_
        simp only [Act.put, List.setIfInBounds_toArray, List.set_cons_zero, List.set_cons_succ]
        refine hs_take (i := 12) (d := some 139) (v := .agg s.cells.toArray) rfl (by kernel_rfl) (by kernel_rfl) (by kernel_rfl) (by rfl) (fun w' hw => ex_mid rfl rfl hw.1.rs Tryd.underlying37 rfl i1) hS rfl ?_
        simp only [Act.put, List.setIfInBounds_toArray, List.set_cons_zero, List.set_cons_succ]
        refine hs_take (i := 14) (d := some 141) (v := .agg o.cells.toArray) rfl (by kernel_rfl) (by kernel_rfl) (by kernel_rfl) (by rfl) (fun w' hw => ex_mid rfl rfl hw.1.ro Tryd.underlying37 rfl i2) hS rfl ?_
        simp only [Act.put, List.setIfInBounds_toArray, List.set_cons_zero, List.set_cons_succ]
        refine hs_call (i := 11) (d := some 138) rfl (by kernel_rfl) (by rfl) (by go_simp; first | done | exact ⟨rfl, rfl⟩ | with_reducible rfl) rfl ?_
        refine (same_slot s o _ (hs.below hS.1.bl) (ho.below hS.1.bl) hs1.h hs1.e ho1.h ho1.e).mono ?_
        rintro e' w11 ⟨hcase, hBn⟩
        have hS : (fun W => Env w s o b c W ∧ W.rangeAt X 0 kb.cells ∧ W.rangeAt Y 0 kb.cells) w11 := ⟨hS.1.below hBn, range_below hS.2.1 hBn VX, range_below hS.2.2 hBn VY⟩
        have VX := Nat.lt_of_lt_of_le VX hBn.size
        have VY := Nat.lt_of_lt_of_le VY hBn.size
        clear hBn
        rcases hcase with ⟨rfl, hX⟩ | ⟨rfl, hX⟩
        · refine ⟨_, rfl, hS, ?_⟩
          simp only [Act.put, List.setIfInBounds_toArray, List.set_cons_zero, List.set_cons_succ]
          refine hs_call (i := 13) (d := some 140) rfl (by kernel_rfl) (by rfl) (by go_simp; first | done | exact ⟨rfl, rfl⟩ | with_reducible rfl) rfl ?_
          refine (of_any s hs.vok _).mono ?_
          rintro e' w12 ⟨rfl, hBn⟩
          have hS : (fun W => Env w s o b c W ∧ W.rangeAt X 0 kb.cells ∧ W.rangeAt Y 0 kb.cells) w12 := ⟨hS.1.below hBn, range_below hS.2.1 hBn VX, range_below hS.2.2 hBn VY⟩
          have VX := Nat.lt_of_lt_of_le VX hBn.size
          have VY := Nat.lt_of_lt_of_le VY hBn.size
          clear hBn
          refine ⟨_, rfl, hS, ?_⟩
          simp only [Act.put, List.setIfInBounds_toArray, List.set_cons_zero, List.set_cons_succ]
          refine hs_call (i := 15) (d := some 142) rfl (by kernel_rfl) (by rfl) (by go_simp; first | done | exact ⟨rfl, rfl⟩ | with_reducible rfl) rfl ?_
          refine (of_any o ho.vok _).mono ?_
          rintro e' w13 ⟨rfl, hBn⟩
          have hS : (fun W => Env w s o b c W ∧ W.rangeAt X 0 kb.cells ∧ W.rangeAt Y 0 kb.cells) w13 := ⟨hS.1.below hBn, range_below hS.2.1 hBn VX, range_below hS.2.2 hBn VY⟩
          have VX := Nat.lt_of_lt_of_le VX hBn.size
          have VY := Nat.lt_of_lt_of_le VY hBn.size
          clear hBn
          refine ⟨_, rfl, hS, ?_⟩
          simp only [Act.put, List.setIfInBounds_toArray, List.set_cons_zero, List.set_cons_succ]
          refine hs_call (i := 16) (d := some 143) rfl (by kernel_rfl) (by rfl) (by go_simp; first | done | exact ⟨rfl, rfl⟩ | with_reducible rfl) rfl ?_
          refine (xsame_slot s o _ (hs.below hS.1.bl) (ho.below hS.1.bl) hs1.h hs1.e ho1.h ho1.e).mono ?_
          rintro e' w14 ⟨hcase, hBn⟩
          have hS : (fun W => Env w s o b c W ∧ W.rangeAt X 0 kb.cells ∧ W.rangeAt Y 0 kb.cells) w14 := ⟨hS.1.below hBn, range_below hS.2.1 hBn VX, range_below hS.2.2 hBn VY⟩
          have VX := Nat.lt_of_lt_of_le VX hBn.size
          have VY := Nat.lt_of_lt_of_le VY hBn.size
          clear hBn
          rcases hcase with ⟨rfl, hX2⟩ | ⟨rfl, hX2⟩
          · clear hX2 hX
            refine ⟨_, rfl, hS, ?_⟩
            simp only [Act.put, List.setIfInBounds_toArray, List.set_cons_zero, List.set_cons_succ]
            refine hs_take (i := 17) (d := some 144) (v := .bool true) rfl (by kernel_rfl) (by kernel_rfl) (by kernel_rfl) (by rfl) (fun w' hw => ex_eqB rfl rfl rfl rfl) hS rfl ?_
            simp only [Act.put, List.setIfInBounds_toArray, List.set_cons_zero, List.set_cons_succ]
            refine hs_take (i := 18) (d := some 145) (v := ?_) rfl (by kernel_rfl) (by kernel_rfl) (by kernel_rfl) (by rfl) ?_ hS rfl ?_
            rotate_left
            · intro w' hw
              go_simp
              try with_reducible rfl
            simp only [Act.put, List.setIfInBounds_toArray, List.set_cons_zero, List.set_cons_succ]
            refine hs_take (i := 19) (d := some 146) (v := ?_) rfl (by kernel_rfl) (by kernel_rfl) (by kernel_rfl) (by rfl) ?_ hS rfl ?_
            rotate_left
            · intro w' hw
              go_simp
              try with_reducible rfl
            simp only [Act.put, List.setIfInBounds_toArray, List.set_cons_zero, List.set_cons_succ]
            refine hs_call (i := 20) (d := some 147) rfl (by kernel_rfl) (by rfl) (by go_simp; first | done | exact ⟨rfl, rfl⟩ | with_reducible rfl) rfl ?_
            refine (lives18_any _ (hG.below hS.1.bl)).mono ?_
            rintro e' w16 ⟨rfl, hBn⟩
            have hS : (fun W => Env w s o b c W ∧ W.rangeAt X 0 kb.cells ∧ W.rangeAt Y 0 kb.cells) w16 := ⟨hS.1.below hBn, range_below hS.2.1 hBn VX, range_below hS.2.2 hBn VY⟩
            have VX := Nat.lt_of_lt_of_le VX hBn.size
            have VY := Nat.lt_of_lt_of_le VY hBn.size
            clear hBn
            refine ⟨_, rfl, hS, ?_⟩
            simp only [Act.put, List.setIfInBounds_toArray, List.set_cons_zero, List.set_cons_succ]
            refine hs_take (i := 21) (d := some 148) (v := ?_) rfl (by kernel_rfl) (by kernel_rfl) (by kernel_rfl) (by rfl) ?_ hS rfl ?_
            rotate_left
            · intro w' hw
              go_simp
              try with_reducible rfl
            simp only [Act.put, List.setIfInBounds_toArray, List.set_cons_zero, List.set_cons_succ]
            refine hs_take (i := 22) (d := some 10) (v := ?_) rfl (by kernel_rfl) (by kernel_rfl) (by kernel_rfl) (by rfl) ?_ hS rfl ?_
            rotate_left
            · intro w' hw
              go_simp
              try with_reducible rfl
            simp only [Act.put, List.setIfInBounds_toArray, List.set_cons_zero, List.set_cons_succ]
            refine hs_done (by kernel_rfl) ?_
            have hB := hS.1.bl
            clear hS VX VY
            go_wp2_with fail
            go_ret
            exact ⟨rfl, hB⟩
          · exact absurd hX hX2
        · refine ⟨_, rfl, hS, ?_⟩
          simp only [Act.put, List.setIfInBounds_toArray, List.set_cons_zero, List.set_cons_succ]
          refine hs_call (i := 13) (d := some 140) rfl (by kernel_rfl) (by rfl) (by go_simp; first | done | exact ⟨rfl, rfl⟩ | with_reducible rfl) rfl ?_
          refine (of_any s hs.vok _).mono ?_
          rintro e' w12 ⟨rfl, hBn⟩
          have hS : (fun W => Env w s o b c W ∧ W.rangeAt X 0 kb.cells ∧ W.rangeAt Y 0 kb.cells) w12 := ⟨hS.1.below hBn, range_below hS.2.1 hBn VX, range_below hS.2.2 hBn VY⟩
          have VX := Nat.lt_of_lt_of_le VX hBn.size
          have VY := Nat.lt_of_lt_of_le VY hBn.size
          clear hBn
          refine ⟨_, rfl, hS, ?_⟩
          simp only [Act.put, List.setIfInBounds_toArray, List.set_cons_zero, List.set_cons_succ]
          refine hs_call (i := 15) (d := some 142) rfl (by kernel_rfl) (by rfl) (by go_simp; first | done | exact ⟨rfl, rfl⟩ | with_reducible rfl) rfl ?_
          refine (of_any o ho.vok _).mono ?_
          rintro e' w13 ⟨rfl, hBn⟩
          have hS : (fun W => Env w s o b c W ∧ W.rangeAt X 0 kb.cells ∧ W.rangeAt Y 0 kb.cells) w13 := ⟨hS.1.below hBn, range_below hS.2.1 hBn VX, range_below hS.2.2 hBn VY⟩
          have VX := Nat.lt_of_lt_of_le VX hBn.size
          have VY := Nat.lt_of_lt_of_le VY hBn.size
          clear hBn
          refine ⟨_, rfl, hS, ?_⟩
          simp only [Act.put, List.setIfInBounds_toArray, List.set_cons_zero, List.set_cons_succ]
          refine hs_call (i := 16) (d := some 143) rfl (by kernel_rfl) (by rfl) (by go_simp; first | done | exact ⟨rfl, rfl⟩ | with_reducible rfl) rfl ?_
          refine (xsame_slot s o _ (hs.below hS.1.bl) (ho.below hS.1.bl) hs1.h hs1.e ho1.h ho1.e).mono ?_
          rintro e' w14 ⟨hcase, hBn⟩
          have hS : (fun W => Env w s o b c W ∧ W.rangeAt X 0 kb.cells ∧ W.rangeAt Y 0 kb.cells) w14 := ⟨hS.1.below hBn, range_below hS.2.1 hBn VX, range_below hS.2.2 hBn VY⟩
          have VX := Nat.lt_of_lt_of_le VX hBn.size
          have VY := Nat.lt_of_lt_of_le VY hBn.size
          clear hBn
          rcases hcase with ⟨rfl, hX2⟩ | ⟨rfl, hX2⟩
          · exact absurd hX2 hX
          · clear hX2 hX
            refine ⟨_, rfl, hS, ?_⟩
            simp only [Act.put, List.setIfInBounds_toArray, List.set_cons_zero, List.set_cons_succ]
            refine hs_take (i := 17) (d := some 144) (v := .bool true) rfl (by kernel_rfl) (by kernel_rfl) (by kernel_rfl) (by rfl) (fun w' hw => ex_eqB rfl rfl rfl rfl) hS rfl ?_
            simp only [Act.put, List.setIfInBounds_toArray, List.set_cons_zero, List.set_cons_succ]
            refine hs_take (i := 18) (d := some 145) (v := ?_) rfl (by kernel_rfl) (by kernel_rfl) (by kernel_rfl) (by rfl) ?_ hS rfl ?_
            rotate_left
            · intro w' hw
              go_simp
              try with_reducible rfl
            simp only [Act.put, List.setIfInBounds_toArray, List.set_cons_zero, List.set_cons_succ]
            refine hs_take (i := 19) (d := some 146) (v := ?_) rfl (by kernel_rfl) (by kernel_rfl) (by kernel_rfl) (by rfl) ?_ hS rfl ?_
            rotate_left
            · intro w' hw
              go_simp
              try with_reducible rfl
            simp only [Act.put, List.setIfInBounds_toArray, List.set_cons_zero, List.set_cons_succ]
            refine hs_call (i := 20) (d := some 147) rfl (by kernel_rfl) (by rfl) (by go_simp; first | done | exact ⟨rfl, rfl⟩ | with_reducible rfl) rfl ?_
            refine (lives18_any _ (hG.below hS.1.bl)).mono ?_
            rintro e' w16 ⟨rfl, hBn⟩
            have hS : (fun W => Env w s o b c W ∧ W.rangeAt X 0 kb.cells ∧ W.rangeAt Y 0 kb.cells) w16 := ⟨hS.1.below hBn, range_below hS.2.1 hBn VX, range_below hS.2.2 hBn VY⟩
            have VX := Nat.lt_of_lt_of_le VX hBn.size
            have VY := Nat.lt_of_lt_of_le VY hBn.size
            clear hBn
            refine ⟨_, rfl, hS, ?_⟩
            simp only [Act.put, List.setIfInBounds_toArray, List.set_cons_zero, List.set_cons_succ]
            refine hs_take (i := 21) (d := some 148) (v := ?_) rfl (by kernel_rfl) (by kernel_rfl) (by kernel_rfl) (by rfl) ?_ hS rfl ?_
            rotate_left
            · intro w' hw
              go_simp
              try with_reducible rfl
            simp only [Act.put, List.setIfInBounds_toArray, List.set_cons_zero, List.set_cons_succ]
            refine hs_take (i := 22) (d := some 10) (v := ?_) rfl (by kernel_rfl) (by kernel_rfl) (by kernel_rfl) (by rfl) ?_ hS rfl ?_
            rotate_left
            · intro w' hw
              go_simp
              try with_reducible rfl
            simp only [Act.put, List.setIfInBounds_toArray, List.set_cons_zero, List.set_cons_succ]
            refine hs_done (by kernel_rfl) ?_
            have hB := hS.1.bl
            clear hS VX VY
            go_wp2_with fail
            go_ret
            exact ⟨rfl, hB⟩
end Go.Proofs.YtogmkcabndgllaaDoor
