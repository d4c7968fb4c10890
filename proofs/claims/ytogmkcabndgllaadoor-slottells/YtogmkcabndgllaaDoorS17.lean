/- slots compared -/
import Derived.Test.YtogmkcabndgllaaDoorS16
namespace Go.Proofs.YtogmkcabndgllaaDoor
open Go.RowKit
open Sha Tal
set_option linter.unusedVariables false
theorem ex_neqB {o : Oper} {a : Act} {w : World} {t2 : TypeId} {x y : Operand} {p q r : Bool} (ho : o.op = .binOp .neq 4 x y t2) (hx : a.eval x = .bool p) (hy : a.eval y = .bool q) (hr : (p != q) = r) : (execOp a.eval o).run Tryd.prog w = .ok (.value (.bool r)) w := by
  subst hr
  unfold execOp
  simp only [ho, hx, hy]
  cases p <;> cases q <;> kernel_rfl
def eqSl (s t : Sl) : Prop := s.vw = t.vw ∧ s.is = t.is ∧ s.ho = t.ho ∧ s.de = t.de ∧ eqBt s.b t.b ∧ (eqBt s.hb t.hb ∧ eqCe s.hc t.hc) ∧ (s.es = t.es ∧ eqBt s.eb t.eb ∧ eqCe s.ec t.ec)
set_option maxRecDepth 100000 in
set_option maxHeartbeats 4000000 in
theorem xsame_held (X Y : Nat) (b b' : Bat) (c c' : Ce) (hlx : c.ss.length ≤ 1000) (hly : c'.ss.length ≤ 1000) (w : World) (hb : b.at w) (hb' : b'.at w) (hc : c.at w) (hc' : c'.at w) (hX : X < w.heap.size) (hY : Y < w.heap.size) (hx : w.rangeAt X 0 (heldC b c)) (hy : w.rangeAt Y 0 (heldC b' c')) : Calls Tryd.prog 25 #[.slice (some ⟨X, 0, none⟩) 1 1, .slice (some ⟨Y, 0, none⟩) 1 1] w fun e w' => Says (eqBt b b' ∧ eqCe c c') w e w' := by
  have ib : (Tryd.prog.info? 24).map (·.size) = some b.cells.length := iszB
  have ib' : (Tryd.prog.info? 24).map (·.size) = some b'.cells.length := iszB
  have ic : (Tryd.prog.info? 31).map (·.size) = some c.cells.length := by rw [Ce.len hc.v]; exact iszCe
  have ic' : (Tryd.prog.info? 31).map (·.size) = some c'.cells.length := by rw [Ce.len hc'.v]; exact iszCe
  obtain ⟨x0, x2⟩ := held_parts hx
  obtain ⟨y0, y2⟩ := held_parts hy
  simp only [Nat.zero_add] at x2 y2
  clear hx hy
  go_enter Tryd.func25, Tryd.ntmps25
  go_wp2_with fail
  go_loopw [5] (fun iv wr => ∃ i : Nat, i ≤ 1 ∧ iv = .int .i64 (i : Int) ∧ Hid (Below w.heap.size w wr) ∧ Hid (i = 1 → eqBt b b' ∧ eqCe c c')) (fun iv _ => 1 - (intOf iv).toNat)
  case atStart => exact ⟨0, by omega, rfl, hide (Below.refl _ _), hide (fun q => absurd q (by decide))⟩
  case round =>
    obtain ⟨i, hi, rfl, HB, HE⟩ := hrel
    have hB := HB.out
    clear HB
    by_cases hlt : i = 0
    · subst hlt
      clear HE
      have hs0 := hB.size
      go_upto_region 6 with fail
      obtain ⟨w8, hw8⟩ : ∃ w8, wr.drew = w8 := ⟨_, rfl⟩
      have hb8 : Below wr.heap.size wr w8 := by rw [← hw8]; exact (Below.refl _ _).drew
      have hB08 := hB.trans (hb8.mono hB.size)
      have hs8 := hB08.size
      have x0 := range_below x0 hB08 hX
      have x2 := range_below x2 hB08 hX
      have y0 := range_below y0 hB08 hY
      have y2 := range_below y2 hB08 hY
      have cs1 := b.xsame_any b' w8 (hb.below hB08) (hb'.below hB08)
      try simp only [Act.put]
      refine hs_begin (S := (Below w8.heap.size w8)) 26 rfl (by kernel_rfl) ?_
      rw [hw8]
      clear hw8 hB hb8
      have hS : (Below w8.heap.size w8) w8 := Below.refl _ _
      refine hs_take (i := 0) (d := some 17) (v := ?_) rfl (by kernel_rfl) (by kernel_rfl) (by kernel_rfl) (by rfl) ?_ hS rfl ?_
      rotate_left
      · intro w' hw
        go_simp
        try with_reducible rfl
      simp only [Act.put, List.setIfInBounds_toArray, List.set_cons_zero, List.set_cons_succ]
      refine hs_take (i := 1) (d := some 18) (v := ?_) rfl (by kernel_rfl) (by kernel_rfl) (by kernel_rfl) (by rfl) ?_ hS rfl ?_
      rotate_left
      · intro w' hw
        go_simp
        try with_reducible rfl
      simp only [Act.put, List.setIfInBounds_toArray, List.set_cons_zero, List.set_cons_succ]
      refine hs_take (i := 2) (d := some 19) (v := ?_) rfl (by kernel_rfl) (by kernel_rfl) (by kernel_rfl) (by rfl) ?_ hS rfl ?_
      rotate_left
      · intro w' hw
        go_simp
        try with_reducible rfl
      simp only [Act.put, List.setIfInBounds_toArray, List.set_cons_zero, List.set_cons_succ]
      refine hs_take (i := 3) (d := some 20) (v := ?_) rfl (by kernel_rfl) (by kernel_rfl) (by kernel_rfl) (by rfl) ?_ hS rfl ?_
      rotate_left
      · intro w' hw
        go_simp
        try with_reducible rfl
      simp only [Act.put, List.setIfInBounds_toArray, List.set_cons_zero, List.set_cons_succ]
      refine hs_take (i := 4) (d := some 21) (v := .agg b.cells.toArray) rfl (by kernel_rfl) (by kernel_rfl) (by kernel_rfl) (by rfl) (fun w' hw => ex_mid rfl rfl (range_below x0 hw (by omega)) Tryd.underlying24 rfl ib) hS rfl ?_
      simp only [Act.put, List.setIfInBounds_toArray, List.set_cons_zero, List.set_cons_succ]
      refine hs_take (i := 5) (d := some 22) (v := ?_) rfl (by kernel_rfl) (by kernel_rfl) (by kernel_rfl) (by rfl) ?_ hS rfl ?_
      rotate_left
      · intro w' hw
        go_simp
        try with_reducible rfl
      simp only [Act.put, List.setIfInBounds_toArray, List.set_cons_zero, List.set_cons_succ]
      refine hs_take (i := 6) (d := some 23) (v := ?_) rfl (by kernel_rfl) (by kernel_rfl) (by kernel_rfl) (by rfl) ?_ hS rfl ?_
      rotate_left
      · intro w' hw
        go_simp
        try with_reducible rfl
      simp only [Act.put, List.setIfInBounds_toArray, List.set_cons_zero, List.set_cons_succ]
      refine hs_take (i := 7) (d := some 24) (v := ?_) rfl (by kernel_rfl) (by kernel_rfl) (by kernel_rfl) (by rfl) ?_ hS rfl ?_
      rotate_left
      · intro w' hw
        go_simp
        try with_reducible rfl
      simp only [Act.put, List.setIfInBounds_toArray, List.set_cons_zero, List.set_cons_succ]
      refine hs_take (i := 8) (d := some 25) (v := ?_) rfl (by kernel_rfl) (by kernel_rfl) (by kernel_rfl) (by rfl) ?_ hS rfl ?_
      rotate_left
      · intro w' hw
        go_simp
        try with_reducible rfl
      simp only [Act.put, List.setIfInBounds_toArray, List.set_cons_zero, List.set_cons_succ]
      refine hs_take (i := 9) (d := some 26) (v := .agg b'.cells.toArray) rfl (by kernel_rfl) (by kernel_rfl) (by kernel_rfl) (by rfl) (fun w' hw => ex_mid rfl rfl (range_below y0 hw (by omega)) Tryd.underlying24 rfl ib') hS rfl ?_
      simp only [Act.put, List.setIfInBounds_toArray, List.set_cons_zero, List.set_cons_succ]
      refine hs_call (i := 10) (d := some 27) rfl (by kernel_rfl) (by rfl) (by go_simp; first | done | exact ⟨rfl, rfl⟩ | with_reducible rfl) rfl ?_
      refine cs1.mono ?_
      rintro e' w9 hsay
      obtain ⟨hcase, hB9⟩ := hsay
      have hS : (Below w8.heap.size w8) w9 := hB9
      rcases hcase with ⟨rfl, hX⟩ | ⟨rfl, hX⟩
      · have H0 := hide hX
        clear hX
        refine ⟨_, rfl, hS, ?_⟩
        simp only [Act.put, List.setIfInBounds_toArray, List.set_cons_zero, List.set_cons_succ]
        refine hs_take (i := 11) (d := some 28) (v := ?_) rfl (by kernel_rfl) (by kernel_rfl) (by kernel_rfl) (by rfl) ?_ hS rfl ?_
        rotate_left
        · intro w' hw
          go_simp
          try with_reducible rfl
        simp only [Act.put, List.setIfInBounds_toArray, List.set_cons_zero, List.set_cons_succ]
        refine hs_take (i := 12) (d := some 29) (v := ?_) rfl (by kernel_rfl) (by kernel_rfl) (by kernel_rfl) (by rfl) ?_ hS rfl ?_
        rotate_left
        · intro w' hw
          go_simp
          try with_reducible rfl
        simp only [Act.put, List.setIfInBounds_toArray, List.set_cons_zero, List.set_cons_succ]
        refine hs_take (i := 13) (d := some 30) (v := ?_) rfl (by kernel_rfl) (by kernel_rfl) (by kernel_rfl) (by rfl) ?_ hS rfl ?_
        rotate_left
        · intro w' hw
          go_simp
          try with_reducible rfl
        simp only [Act.put, List.setIfInBounds_toArray, List.set_cons_zero, List.set_cons_succ]
        refine hs_take (i := 14) (d := some 31) (v := ?_) rfl (by kernel_rfl) (by kernel_rfl) (by kernel_rfl) (by rfl) ?_ hS rfl ?_
        rotate_left
        · intro w' hw
          go_simp
          try with_reducible rfl
        simp only [Act.put, List.setIfInBounds_toArray, List.set_cons_zero, List.set_cons_succ]
        refine hs_take (i := 15) (d := some 32) (v := ?_) rfl (by kernel_rfl) (by kernel_rfl) (by kernel_rfl) (by rfl) ?_ hS rfl ?_
        rotate_left
        · intro w' hw
          go_simp
          try with_reducible rfl
        simp only [Act.put, List.setIfInBounds_toArray, List.set_cons_zero, List.set_cons_succ]
        refine hs_take (i := 16) (d := some 33) (v := ?_) rfl (by kernel_rfl) (by kernel_rfl) (by kernel_rfl) (by rfl) ?_ hS rfl ?_
        rotate_left
        · intro w' hw
          go_simp
          try with_reducible rfl
        simp only [Act.put, List.setIfInBounds_toArray, List.set_cons_zero, List.set_cons_succ]
        refine hs_take (i := 17) (d := some 34) (v := .agg c.cells.toArray) rfl (by kernel_rfl) (by kernel_rfl) (by kernel_rfl) (by rfl) (fun w' hw => ex_mid rfl rfl (range_below x2 hw (by omega)) Tryd.underlying31 rfl ic) hS rfl ?_
        simp only [Act.put, List.setIfInBounds_toArray, List.set_cons_zero, List.set_cons_succ]
        refine hs_take (i := 18) (d := some 35) (v := ?_) rfl (by kernel_rfl) (by kernel_rfl) (by kernel_rfl) (by rfl) ?_ hS rfl ?_
        rotate_left
        · intro w' hw
          go_simp
          try with_reducible rfl
        simp only [Act.put, List.setIfInBounds_toArray, List.set_cons_zero, List.set_cons_succ]
        refine hs_take (i := 19) (d := some 36) (v := ?_) rfl (by kernel_rfl) (by kernel_rfl) (by kernel_rfl) (by rfl) ?_ hS rfl ?_
        rotate_left
        · intro w' hw
          go_simp
          try with_reducible rfl
        simp only [Act.put, List.setIfInBounds_toArray, List.set_cons_zero, List.set_cons_succ]
        refine hs_take (i := 20) (d := some 37) (v := ?_) rfl (by kernel_rfl) (by kernel_rfl) (by kernel_rfl) (by rfl) ?_ hS rfl ?_
        rotate_left
        · intro w' hw
          go_simp
          try with_reducible rfl
        simp only [Act.put, List.setIfInBounds_toArray, List.set_cons_zero, List.set_cons_succ]
        refine hs_take (i := 21) (d := some 38) (v := ?_) rfl (by kernel_rfl) (by kernel_rfl) (by kernel_rfl) (by rfl) ?_ hS rfl ?_
        rotate_left
        · intro w' hw
          go_simp
          try with_reducible rfl
        simp only [Act.put, List.setIfInBounds_toArray, List.set_cons_zero, List.set_cons_succ]
        refine hs_take (i := 22) (d := some 39) (v := .agg c'.cells.toArray) rfl (by kernel_rfl) (by kernel_rfl) (by kernel_rfl) (by rfl) (fun w' hw => ex_mid rfl rfl (range_below y2 hw (by omega)) Tryd.underlying31 rfl ic') hS rfl ?_
        simp only [Act.put, List.setIfInBounds_toArray, List.set_cons_zero, List.set_cons_succ]
        have cs2 := xsame_cert c c' hlx hly w9 ((hc.below hB08).below hB9) ((hc'.below hB08).below hB9)
        refine hs_call (i := 23) (d := some 40) rfl (by kernel_rfl) (by rfl) (by go_simp; first | done | exact ⟨rfl, rfl⟩ | with_reducible rfl) rfl ?_
        refine cs2.mono ?_
        rintro e' w10 hsay
        obtain ⟨hcase, hB10⟩ := hsay
        have hS : (Below w8.heap.size w8) w10 := hB9.trans (hB10.mono hB9.size)
        rcases hcase with ⟨rfl, hX⟩ | ⟨rfl, hX⟩
        · have H1 := hide hX
          clear hX
          refine ⟨_, rfl, hS, ?_⟩
          simp only [Act.put, List.setIfInBounds_toArray, List.set_cons_zero, List.set_cons_succ]
          refine hs_take (i := 24) (d := some 41) (v := ?_) rfl (by kernel_rfl) (by kernel_rfl) (by kernel_rfl) (by rfl) ?_ hS rfl ?_
          rotate_left
          · intro w' hw
            go_simp
            try with_reducible rfl
          simp only [Act.put, List.setIfInBounds_toArray, List.set_cons_zero, List.set_cons_succ]
          refine hs_take (i := 25) (d := some 42) (v := ?_) rfl (by kernel_rfl) (by kernel_rfl) (by kernel_rfl) (by rfl) ?_ hS rfl ?_
          rotate_left
          · intro w' hw
            go_simp
            try with_reducible rfl
          simp only [Act.put, List.setIfInBounds_toArray, List.set_cons_zero, List.set_cons_succ]
          refine hs_done (by kernel_rfl) ?_
          have HB := hide (hB08.trans (hS.mono hB08.size))
          clear hS hB9 hB10 cs1 x0 x2 y0 y2 hB08
          have HE := hide (⟨H0.out, H1.out⟩ : eqBt b b' ∧ eqCe c c')
          go_wp2_with fail
          go_roundw
          case rel => exact ⟨1, by omega, rfl, HB, hide (fun _ => HE.out)⟩
          case measure => simp [intOf]
        · have H1 := hide hX
          clear hX
          refine ⟨_, rfl, hS, ?_⟩
          simp only [Act.put, List.setIfInBounds_toArray, List.set_cons_zero, List.set_cons_succ]
          refine hs_take (i := 24) (d := some 41) (v := ?_) rfl (by kernel_rfl) (by kernel_rfl) (by kernel_rfl) (by rfl) ?_ hS rfl ?_
          rotate_left
          · intro w' hw
            go_simp
            try with_reducible rfl
          simp only [Act.put, List.setIfInBounds_toArray, List.set_cons_zero, List.set_cons_succ]
          refine hs_take (i := 25) (d := some 42) (v := ?_) rfl (by kernel_rfl) (by kernel_rfl) (by kernel_rfl) (by rfl) ?_ hS rfl ?_
          rotate_left
          · intro w' hw
            go_simp
            try with_reducible rfl
          simp only [Act.put, List.setIfInBounds_toArray, List.set_cons_zero, List.set_cons_succ]
          refine hs_done (by kernel_rfl) ?_
          have HB := hide (hB08.trans (hS.mono hB08.size))
          clear hS hB9 hB10 cs1 x0 x2 y0 y2 hB08
          go_wp2_with fail
          go_ret
          exact Says.no (fun q => H1.out q.2) HB.out
      · have H0 := hide hX
        clear hX
        refine ⟨_, rfl, hS, ?_⟩
        simp only [Act.put, List.setIfInBounds_toArray, List.set_cons_zero, List.set_cons_succ]
        refine hs_take (i := 11) (d := some 28) (v := ?_) rfl (by kernel_rfl) (by kernel_rfl) (by kernel_rfl) (by rfl) ?_ hS rfl ?_
        rotate_left
        · intro w' hw
          go_simp
          try with_reducible rfl
        simp only [Act.put, List.setIfInBounds_toArray, List.set_cons_zero, List.set_cons_succ]
        refine hs_take (i := 12) (d := some 29) (v := ?_) rfl (by kernel_rfl) (by kernel_rfl) (by kernel_rfl) (by rfl) ?_ hS rfl ?_
        rotate_left
        · intro w' hw
          go_simp
          try with_reducible rfl
        simp only [Act.put, List.setIfInBounds_toArray, List.set_cons_zero, List.set_cons_succ]
        refine hs_skip (i := 13) (d := some 30) rfl (by kernel_rfl) (by kernel_rfl) (by kernel_rfl) (by rfl) hS rfl ?_
        simp only [Act.put, List.setIfInBounds_toArray, List.set_cons_zero, List.set_cons_succ]
        refine hs_skip (i := 14) (d := some 31) rfl (by kernel_rfl) (by kernel_rfl) (by kernel_rfl) (by rfl) hS rfl ?_
        simp only [Act.put, List.setIfInBounds_toArray, List.set_cons_zero, List.set_cons_succ]
        refine hs_skip (i := 15) (d := some 32) rfl (by kernel_rfl) (by kernel_rfl) (by kernel_rfl) (by rfl) hS rfl ?_
        simp only [Act.put, List.setIfInBounds_toArray, List.set_cons_zero, List.set_cons_succ]
        refine hs_skip (i := 16) (d := some 33) rfl (by kernel_rfl) (by kernel_rfl) (by kernel_rfl) (by rfl) hS rfl ?_
        simp only [Act.put, List.setIfInBounds_toArray, List.set_cons_zero, List.set_cons_succ]
        refine hs_skip (i := 17) (d := some 34) rfl (by kernel_rfl) (by kernel_rfl) (by kernel_rfl) (by rfl) hS rfl ?_
        simp only [Act.put, List.setIfInBounds_toArray, List.set_cons_zero, List.set_cons_succ]
        refine hs_skip (i := 18) (d := some 35) rfl (by kernel_rfl) (by kernel_rfl) (by kernel_rfl) (by rfl) hS rfl ?_
        simp only [Act.put, List.setIfInBounds_toArray, List.set_cons_zero, List.set_cons_succ]
        refine hs_skip (i := 19) (d := some 36) rfl (by kernel_rfl) (by kernel_rfl) (by kernel_rfl) (by rfl) hS rfl ?_
        simp only [Act.put, List.setIfInBounds_toArray, List.set_cons_zero, List.set_cons_succ]
        refine hs_skip (i := 20) (d := some 37) rfl (by kernel_rfl) (by kernel_rfl) (by kernel_rfl) (by rfl) hS rfl ?_
        simp only [Act.put, List.setIfInBounds_toArray, List.set_cons_zero, List.set_cons_succ]
        refine hs_skip (i := 21) (d := some 38) rfl (by kernel_rfl) (by kernel_rfl) (by kernel_rfl) (by rfl) hS rfl ?_
        simp only [Act.put, List.setIfInBounds_toArray, List.set_cons_zero, List.set_cons_succ]
        refine hs_skip (i := 22) (d := some 39) rfl (by kernel_rfl) (by kernel_rfl) (by kernel_rfl) (by rfl) hS rfl ?_
        simp only [Act.put, List.setIfInBounds_toArray, List.set_cons_zero, List.set_cons_succ]
        refine hs_skip (i := 23) (d := some 40) rfl (by kernel_rfl) (by kernel_rfl) (by kernel_rfl) (by rfl) hS rfl ?_
        simp only [Act.put, List.setIfInBounds_toArray, List.set_cons_zero, List.set_cons_succ]
        refine hs_skip (i := 24) (d := some 41) rfl (by kernel_rfl) (by kernel_rfl) (by kernel_rfl) (by rfl) hS rfl ?_
        simp only [Act.put, List.setIfInBounds_toArray, List.set_cons_zero, List.set_cons_succ]
        refine hs_take (i := 25) (d := some 42) (v := ?_) rfl (by kernel_rfl) (by kernel_rfl) (by kernel_rfl) (by rfl) ?_ hS rfl ?_
        rotate_left
        · intro w' hw
          go_simp
          try with_reducible rfl
        simp only [Act.put, List.setIfInBounds_toArray, List.set_cons_zero, List.set_cons_succ]
        refine hs_done (by kernel_rfl) ?_
        have HB := hide (hB08.trans (hS.mono hB08.size))
        clear hS hB9 cs1 x0 x2 y0 y2 hB08
        go_wp2_with fail
        go_ret
        exact Says.no (fun q => H0.out q.1) HB.out
    · obtain rfl : i = 1 := by omega
      have HE' := hide (HE.out rfl)
      clear HE
      go_wp2_with fail
      go_ret
      exact Says.yes HE'.out hB
set_option maxRecDepth 100000 in
set_option maxHeartbeats 8000000 in
theorem same_slot (s t : Sl) (w : World) (hs : s.raw w) (ht : t.raw w) (h1 : s.hc.ss.length ≤ 1000) (h2 : s.ec.ss.length ≤ 1000) (h1' : t.hc.ss.length ≤ 1000) (h2' : t.ec.ss.length ≤ 1000) : Calls Tryd.prog 19 #[.agg s.cells.toArray, .agg t.cells.toArray] w fun e w' => Says (eqSl s t) w e w' := by
  have hb0 := two_box (w := w) s.cells t.cells 37 37
  have ib : (Tryd.prog.info? 24).map (·.size) = some s.b.cells.length := iszB
  have ib' : (Tryd.prog.info? 24).map (·.size) = some t.b.cells.length := iszB
  have ih : (Tryd.prog.info? 33).map (·.size) = some (heldC s.hb s.hc).length := by rw [heldC_len hs.vok.h]; exact iszHe
  have ih' : (Tryd.prog.info? 33).map (·.size) = some (heldC t.hb t.hc).length := by rw [heldC_len ht.vok.h]; exact iszHe
  have ie : (Tryd.prog.info? 35).map (·.size) = some (entC s.es s.eb s.ec).length := by rw [entC_len hs.vok.e]; exact iszEn
  have ie' : (Tryd.prog.info? 35).map (·.size) = some (entC t.es t.eb t.ec).length := by rw [entC_len ht.vok.e]; exact iszEn
  have l39 := heldC_len (b := s.hb) hs.vok.h
  have l39' := heldC_len (b := t.hb) ht.vok.h
  have pX : ∀ {w' : World} {Z : Nat}, w'.rangeAt Z 0 s.cells → SlParts w' Z s := fun h => Sl.parts hs.vok h
  have pY : ∀ {w' : World} {Z : Nat}, w'.rangeAt Z 0 t.cells → SlParts w' Z t := fun h => Sl.parts ht.vok h
  obtain ⟨u, hu⟩ : ∃ u, Hid (s.cells = u) := ⟨_, hide rfl⟩
  obtain ⟨v, hv⟩ : ∃ v, Hid (t.cells = v) := ⟨_, hide rfl⟩
  simp only [hu.out] at pX
  simp only [hv.out] at pY
  rw [hu.out, hv.out] at hb0 ⊢
  clear hu hv
  go_enter Tryd.func19, Tryd.ntmps19
  go_upto_region 1 with fail
  go_name_world w1 hw1
  rw [hw1] at hb0
  clear hw1
  obtain ⟨hB1, hR1, hR2, hsz1⟩ := hb0
  have A := pX hR1
  have B := pY hR2
  clear pX pY hR1 hR2
  have hS : Below w1.heap.size w1 w1 := Below.refl _ _
  try simp only [Act.put]
  refine pl_begin ?_
  refine pl_take (d := some 5) (v := ?_) (by rfl) ?_ rfl ?_
  rotate_left
  · go_simp
    try with_reducible rfl
  simp only [Act.put, List.setIfInBounds_toArray, List.set_cons_zero, List.set_cons_succ]
  refine pl_take (d := some 6) (v := _) (by rfl) (pl_one rfl rfl ((hS.cell (p := ⟨w.heap.size, 0, none⟩) (by simp only; omega)).trans A.vw) Tryd.underlying3 rfl) rfl ?_
  simp only [Act.put, List.setIfInBounds_toArray, List.set_cons_zero, List.set_cons_succ]
  refine pl_take (d := some 7) (v := ?_) (by rfl) ?_ rfl ?_
  rotate_left
  · go_simp
    try with_reducible rfl
  simp only [Act.put, List.setIfInBounds_toArray, List.set_cons_zero, List.set_cons_succ]
  refine pl_take (d := some 8) (v := _) (by rfl) (pl_one rfl rfl ((hS.cell (p := ⟨w.heap.size + 1, 0, none⟩) (by simp only; omega)).trans B.vw) Tryd.underlying3 rfl) rfl ?_
  simp only [Act.put, List.setIfInBounds_toArray, List.set_cons_zero, List.set_cons_succ]
  by_cases hX : s.vw = t.vw
  · have hq : (s.vw != t.vw) = false := by simpa using hX
    have H0 := hide hX
    clear hX
    refine pl_take (d := some 9) (v := ?_) (by rfl) ?_ rfl ?_
    rotate_left
    · go_simp
      try with_reducible rfl
    simp only [Act.put, List.setIfInBounds_toArray, List.set_cons_zero, List.set_cons_succ]
    clear hq
    refine pl_take (d := some 10) (v := ?_) (by rfl) ?_ rfl ?_
    rotate_left
    · go_simp
      try with_reducible rfl
    simp only [Act.put, List.setIfInBounds_toArray, List.set_cons_zero, List.set_cons_succ]
    refine pl_take (d := some 11) (v := ?_) (by rfl) ?_ rfl ?_
    rotate_left
    · go_simp
      try with_reducible rfl
    simp only [Act.put, List.setIfInBounds_toArray, List.set_cons_zero, List.set_cons_succ]
    refine pl_take (d := some 12) (v := _) (by rfl) (pl_one rfl rfl ((hS.cell (p := ⟨w.heap.size, 3, none⟩) (by simp only; omega)).trans A.is) Tryd.underlying4 rfl) rfl ?_
    simp only [Act.put, List.setIfInBounds_toArray, List.set_cons_zero, List.set_cons_succ]
    refine pl_take (d := some 13) (v := ?_) (by rfl) ?_ rfl ?_
    rotate_left
    · go_simp
      try with_reducible rfl
    simp only [Act.put, List.setIfInBounds_toArray, List.set_cons_zero, List.set_cons_succ]
    refine pl_take (d := some 14) (v := _) (by rfl) (pl_one rfl rfl ((hS.cell (p := ⟨w.heap.size + 1, 3, none⟩) (by simp only; omega)).trans B.is) Tryd.underlying4 rfl) rfl ?_
    simp only [Act.put, List.setIfInBounds_toArray, List.set_cons_zero, List.set_cons_succ]
    by_cases hX : s.is = t.is
    · have hq : (s.is != t.is) = false := by simpa using hX
      have H1 := hide hX
      clear hX
      refine pl_take (d := some 15) (v := .bool false) (by rfl) (ex_neqB rfl rfl rfl hq) rfl ?_
      simp only [Act.put, List.setIfInBounds_toArray, List.set_cons_zero, List.set_cons_succ]
      clear hq
      refine pl_take (d := some 16) (v := ?_) (by rfl) ?_ rfl ?_
      rotate_left
      · go_simp
        try with_reducible rfl
      simp only [Act.put, List.setIfInBounds_toArray, List.set_cons_zero, List.set_cons_succ]
      refine pl_take (d := some 17) (v := ?_) (by rfl) ?_ rfl ?_
      rotate_left
      · go_simp
        try with_reducible rfl
      simp only [Act.put, List.setIfInBounds_toArray, List.set_cons_zero, List.set_cons_succ]
      refine pl_take (d := some 18) (v := ?_) (by rfl) ?_ rfl ?_
      rotate_left
      · go_simp
        try with_reducible rfl
      simp only [Act.put, List.setIfInBounds_toArray, List.set_cons_zero, List.set_cons_succ]
      refine pl_take (d := some 19) (v := _) (by rfl) (pl_one rfl rfl ((hS.cell (p := ⟨w.heap.size, 43, none⟩) (by simp only; omega)).trans A.ho) Tryd.underlying4 rfl) rfl ?_
      simp only [Act.put, List.setIfInBounds_toArray, List.set_cons_zero, List.set_cons_succ]
      refine pl_take (d := some 20) (v := ?_) (by rfl) ?_ rfl ?_
      rotate_left
      · go_simp
        try with_reducible rfl
      simp only [Act.put, List.setIfInBounds_toArray, List.set_cons_zero, List.set_cons_succ]
      refine pl_take (d := some 21) (v := _) (by rfl) (pl_one rfl rfl ((hS.cell (p := ⟨w.heap.size + 1, 43, none⟩) (by simp only; omega)).trans B.ho) Tryd.underlying4 rfl) rfl ?_
      simp only [Act.put, List.setIfInBounds_toArray, List.set_cons_zero, List.set_cons_succ]
      by_cases hX : s.ho = t.ho
      · have hq : (s.ho != t.ho) = false := by simpa using hX
        have H2 := hide hX
        clear hX
        refine pl_take (d := some 22) (v := .bool false) (by rfl) (ex_neqB rfl rfl rfl hq) rfl ?_
        simp only [Act.put, List.setIfInBounds_toArray, List.set_cons_zero, List.set_cons_succ]
        clear hq
        refine pl_take (d := some 23) (v := ?_) (by rfl) ?_ rfl ?_
        rotate_left
        · go_simp
          try with_reducible rfl
        simp only [Act.put, List.setIfInBounds_toArray, List.set_cons_zero, List.set_cons_succ]
        refine pl_take (d := some 24) (v := ?_) (by rfl) ?_ rfl ?_
        rotate_left
        · go_simp
          try with_reducible rfl
        simp only [Act.put, List.setIfInBounds_toArray, List.set_cons_zero, List.set_cons_succ]
        refine pl_take (d := some 25) (v := ?_) (by rfl) ?_ rfl ?_
        rotate_left
        · go_simp
          try with_reducible rfl
        simp only [Act.put, List.setIfInBounds_toArray, List.set_cons_zero, List.set_cons_succ]
        refine pl_take (d := some 26) (v := _) (by rfl) (pl_one rfl rfl ((hS.cell (p := ⟨w.heap.size, 84, none⟩) (by simp only; omega)).trans A.de) Tryd.underlying4 rfl) rfl ?_
        simp only [Act.put, List.setIfInBounds_toArray, List.set_cons_zero, List.set_cons_succ]
        refine pl_take (d := some 27) (v := ?_) (by rfl) ?_ rfl ?_
        rotate_left
        · go_simp
          try with_reducible rfl
        simp only [Act.put, List.setIfInBounds_toArray, List.set_cons_zero, List.set_cons_succ]
        refine pl_take (d := some 28) (v := _) (by rfl) (pl_one rfl rfl ((hS.cell (p := ⟨w.heap.size + 1, 84, none⟩) (by simp only; omega)).trans B.de) Tryd.underlying4 rfl) rfl ?_
        simp only [Act.put, List.setIfInBounds_toArray, List.set_cons_zero, List.set_cons_succ]
        by_cases hX : s.de = t.de
        · have hq : (s.de != t.de) = false := by simpa using hX
          have H3 := hide hX
          clear hX
          refine pl_take (d := some 29) (v := .bool false) (by rfl) (ex_neqB rfl rfl rfl hq) rfl ?_
          simp only [Act.put, List.setIfInBounds_toArray, List.set_cons_zero, List.set_cons_succ]
          clear hq
          refine pl_take (d := some 30) (v := ?_) (by rfl) ?_ rfl ?_
          rotate_left
          · go_simp
            try with_reducible rfl
          simp only [Act.put, List.setIfInBounds_toArray, List.set_cons_zero, List.set_cons_succ]
          refine pl_nil ?_
          go_upto_region 3 with fail
          try simp only [Act.put]
          refine pl_begin ?_
          refine pl_take (d := some 31) (v := ?_) (by rfl) ?_ rfl ?_
          rotate_left
          · go_simp
            try with_reducible rfl
          simp only [Act.put, List.setIfInBounds_toArray, List.set_cons_zero, List.set_cons_succ]
          refine pl_take (d := some 32) (v := .agg (s.b.cells).toArray) (by rfl) (ex_mid rfl rfl (range_below A.b hS (by omega)) Tryd.underlying24 rfl ib) rfl ?_
          simp only [Act.put, List.setIfInBounds_toArray, List.set_cons_zero, List.set_cons_succ]
          refine pl_take (d := some 33) (v := ?_) (by rfl) ?_ rfl ?_
          rotate_left
          · go_simp
            try with_reducible rfl
          simp only [Act.put, List.setIfInBounds_toArray, List.set_cons_zero, List.set_cons_succ]
          refine pl_take (d := some 34) (v := .agg (t.b.cells).toArray) (by rfl) (ex_mid rfl rfl (range_below B.b hS (by omega)) Tryd.underlying24 rfl ib') rfl ?_
          simp only [Act.put, List.setIfInBounds_toArray, List.set_cons_zero, List.set_cons_succ]
          refine pl_call (d := some 35) (by rfl) (by go_simp; first | done | exact ⟨rfl, rfl⟩ | with_reducible rfl) rfl ?_
          refine (s.b.same_any t.b _ ((hs.b.below hB1).below hS) ((ht.b.below hB1).below hS)).mono ?_
          rintro e' v0 hsay
          obtain ⟨hcase, hBx⟩ := hsay
          have hS := hS.trans (hBx.mono hS.size)
          clear hBx
          rcases hcase with ⟨rfl, hX⟩ | ⟨rfl, hX⟩
          · have G0 := hide hX
            clear hX
            refine ⟨_, rfl, ?_⟩
            simp only [Act.put, List.setIfInBounds_toArray, List.set_cons_zero, List.set_cons_succ]
            refine pl_take (d := some 36) (v := ?_) (by rfl) ?_ rfl ?_
            rotate_left
            · go_simp
              try with_reducible rfl
            simp only [Act.put, List.setIfInBounds_toArray, List.set_cons_zero, List.set_cons_succ]
            refine pl_take (d := some 37) (v := ?_) (by rfl) ?_ rfl ?_
            rotate_left
            · go_simp
              try with_reducible rfl
            simp only [Act.put, List.setIfInBounds_toArray, List.set_cons_zero, List.set_cons_succ]
            refine pl_take (d := some 38) (v := .agg (heldC s.hb s.hc).toArray) (by rfl) (ex_mid rfl rfl (range_below A.h hS (by omega)) Tryd.underlying33 rfl ih) rfl ?_
            simp only [Act.put, List.setIfInBounds_toArray, List.set_cons_zero, List.set_cons_succ]
            refine pl_take (d := some 39) (v := ?_) (by rfl) ?_ rfl ?_
            rotate_left
            · go_simp
              try with_reducible rfl
            simp only [Act.put, List.setIfInBounds_toArray, List.set_cons_zero, List.set_cons_succ]
            refine pl_take (d := some 40) (v := .agg (heldC t.hb t.hc).toArray) (by rfl) (ex_mid rfl rfl (range_below B.h hS (by omega)) Tryd.underlying33 rfl ih') rfl ?_
            simp only [Act.put, List.setIfInBounds_toArray, List.set_cons_zero, List.set_cons_succ]
            refine pl_call (d := some 41) (by rfl) (by go_simp; first | done | exact ⟨rfl, rfl⟩ | with_reducible rfl) rfl ?_
            refine (same_held s.hb t.hb s.hc t.hc h1 h1' _ ((hs.hb.below hB1).below hS) ((ht.hb.below hB1).below hS) ((hs.hc.below hB1).below hS) ((ht.hc.below hB1).below hS)).mono ?_
            rintro e' v1 hsay
            obtain ⟨hcase, hBx⟩ := hsay
            have hS := hS.trans (hBx.mono hS.size)
            clear hBx
            rcases hcase with ⟨rfl, hX⟩ | ⟨rfl, hX⟩
            · have G1 := hide hX
              clear hX
              refine ⟨_, rfl, ?_⟩
              simp only [Act.put, List.setIfInBounds_toArray, List.set_cons_zero, List.set_cons_succ]
              refine pl_take (d := some 42) (v := ?_) (by rfl) ?_ rfl ?_
              rotate_left
              · go_simp
                try with_reducible rfl
              simp only [Act.put, List.setIfInBounds_toArray, List.set_cons_zero, List.set_cons_succ]
              refine pl_take (d := some 43) (v := ?_) (by rfl) ?_ rfl ?_
              rotate_left
              · go_simp
                try with_reducible rfl
              simp only [Act.put, List.setIfInBounds_toArray, List.set_cons_zero, List.set_cons_succ]
              refine pl_take (d := some 44) (v := ?_) (by rfl) ?_ rfl ?_
              rotate_left
              · go_simp
                try with_reducible rfl
              simp only [Act.put, List.setIfInBounds_toArray, List.set_cons_zero, List.set_cons_succ]
              refine pl_take (d := some 45) (v := .agg (entC s.es s.eb s.ec).toArray) (by rfl) (ex_mid rfl rfl (range_below A.e hS (by omega)) Tryd.underlying35 rfl ie) rfl ?_
              simp only [Act.put, List.setIfInBounds_toArray, List.set_cons_zero, List.set_cons_succ]
              refine pl_take (d := some 46) (v := ?_) (by rfl) ?_ rfl ?_
              rotate_left
              · go_simp
                try with_reducible rfl
              simp only [Act.put, List.setIfInBounds_toArray, List.set_cons_zero, List.set_cons_succ]
              refine pl_take (d := some 47) (v := .agg (entC t.es t.eb t.ec).toArray) (by rfl) (ex_mid rfl rfl (range_below B.e hS (by omega)) Tryd.underlying35 rfl ie') rfl ?_
              simp only [Act.put, List.setIfInBounds_toArray, List.set_cons_zero, List.set_cons_succ]
              refine pl_call (d := some 48) (by rfl) (by go_simp; first | done | exact ⟨rfl, rfl⟩ | with_reducible rfl) rfl ?_
              refine (same_entry s.es t.es s.eb t.eb s.ec t.ec h2 h2' _ ((hs.eb.below hB1).below hS) ((ht.eb.below hB1).below hS) ((hs.ec.below hB1).below hS) ((ht.ec.below hB1).below hS)).mono ?_
              rintro e' v2 hsay
              obtain ⟨hcase, hBx⟩ := hsay
              have hS := hS.trans (hBx.mono hS.size)
              clear hBx
              rcases hcase with ⟨rfl, hX⟩ | ⟨rfl, hX⟩
              · have G2 := hide hX
                clear hX
                refine ⟨_, rfl, ?_⟩
                simp only [Act.put, List.setIfInBounds_toArray, List.set_cons_zero, List.set_cons_succ]
                refine pl_take (d := some 49) (v := ?_) (by rfl) ?_ rfl ?_
                rotate_left
                · go_simp
                  try with_reducible rfl
                simp only [Act.put, List.setIfInBounds_toArray, List.set_cons_zero, List.set_cons_succ]
                refine pl_take (d := some 4) (v := ?_) (by rfl) ?_ rfl ?_
                rotate_left
                · go_simp
                  try with_reducible rfl
                simp only [Act.put, List.setIfInBounds_toArray, List.set_cons_zero, List.set_cons_succ]
                refine pl_nil ?_
                go_wp2_with fail
                go_ret
                exact Says.yes ⟨H0.out, H1.out, H2.out, H3.out, G0.out, G1.out, G2.out⟩ (hB1.trans (hS.mono hB1.size))
              · have G2 := hide hX
                clear hX
                refine ⟨_, rfl, ?_⟩
                simp only [Act.put, List.setIfInBounds_toArray, List.set_cons_zero, List.set_cons_succ]
                refine pl_take (d := some 49) (v := ?_) (by rfl) ?_ rfl ?_
                rotate_left
                · go_simp
                  try with_reducible rfl
                simp only [Act.put, List.setIfInBounds_toArray, List.set_cons_zero, List.set_cons_succ]
                refine pl_take (d := some 4) (v := ?_) (by rfl) ?_ rfl ?_
                rotate_left
                · go_simp
                  try with_reducible rfl
                simp only [Act.put, List.setIfInBounds_toArray, List.set_cons_zero, List.set_cons_succ]
                refine pl_nil ?_
                go_wp2_with fail
                go_ret
                exact Says.no (fun q => G2.out q.2.2.2.2.2.2) (hB1.trans (hS.mono hB1.size))
            · have G1 := hide hX
              clear hX
              refine ⟨_, rfl, ?_⟩
              simp only [Act.put, List.setIfInBounds_toArray, List.set_cons_zero, List.set_cons_succ]
              refine pl_take (d := some 42) (v := ?_) (by rfl) ?_ rfl ?_
              rotate_left
              · go_simp
                try with_reducible rfl
              simp only [Act.put, List.setIfInBounds_toArray, List.set_cons_zero, List.set_cons_succ]
              refine pl_take (d := some 43) (v := ?_) (by rfl) ?_ rfl ?_
              rotate_left
              · go_simp
                try with_reducible rfl
              simp only [Act.put, List.setIfInBounds_toArray, List.set_cons_zero, List.set_cons_succ]
              refine pl_skip (d := some 44) (by rfl) rfl ?_
              simp only [Act.put, List.setIfInBounds_toArray, List.set_cons_zero, List.set_cons_succ]
              refine pl_skip (d := some 45) (by rfl) rfl ?_
              simp only [Act.put, List.setIfInBounds_toArray, List.set_cons_zero, List.set_cons_succ]
              refine pl_skip (d := some 46) (by rfl) rfl ?_
              simp only [Act.put, List.setIfInBounds_toArray, List.set_cons_zero, List.set_cons_succ]
              refine pl_skip (d := some 47) (by rfl) rfl ?_
              simp only [Act.put, List.setIfInBounds_toArray, List.set_cons_zero, List.set_cons_succ]
              refine pl_skip (d := some 48) (by rfl) rfl ?_
              simp only [Act.put, List.setIfInBounds_toArray, List.set_cons_zero, List.set_cons_succ]
              refine pl_take (d := some 49) (v := ?_) (by rfl) ?_ rfl ?_
              rotate_left
              · go_simp
                try with_reducible rfl
              simp only [Act.put, List.setIfInBounds_toArray, List.set_cons_zero, List.set_cons_succ]
              refine pl_take (d := some 4) (v := ?_) (by rfl) ?_ rfl ?_
              rotate_left
              · go_simp
                try with_reducible rfl
              simp only [Act.put, List.setIfInBounds_toArray, List.set_cons_zero, List.set_cons_succ]
              refine pl_nil ?_
              go_wp2_with fail
              go_ret
              exact Says.no (fun q => G1.out q.2.2.2.2.2.1) (hB1.trans (hS.mono hB1.size))
          · have G0 := hide hX
            clear hX
            refine ⟨_, rfl, ?_⟩
            simp only [Act.put, List.setIfInBounds_toArray, List.set_cons_zero, List.set_cons_succ]
            refine pl_take (d := some 36) (v := ?_) (by rfl) ?_ rfl ?_
            rotate_left
            · go_simp
              try with_reducible rfl
            simp only [Act.put, List.setIfInBounds_toArray, List.set_cons_zero, List.set_cons_succ]
            refine pl_skip (d := some 37) (by rfl) rfl ?_
            simp only [Act.put, List.setIfInBounds_toArray, List.set_cons_zero, List.set_cons_succ]
            refine pl_skip (d := some 38) (by rfl) rfl ?_
            simp only [Act.put, List.setIfInBounds_toArray, List.set_cons_zero, List.set_cons_succ]
            refine pl_skip (d := some 39) (by rfl) rfl ?_
            simp only [Act.put, List.setIfInBounds_toArray, List.set_cons_zero, List.set_cons_succ]
            refine pl_skip (d := some 40) (by rfl) rfl ?_
            simp only [Act.put, List.setIfInBounds_toArray, List.set_cons_zero, List.set_cons_succ]
            refine pl_skip (d := some 41) (by rfl) rfl ?_
            simp only [Act.put, List.setIfInBounds_toArray, List.set_cons_zero, List.set_cons_succ]
            refine pl_take (d := some 42) (v := ?_) (by rfl) ?_ rfl ?_
            rotate_left
            · go_simp
              try with_reducible rfl
            simp only [Act.put, List.setIfInBounds_toArray, List.set_cons_zero, List.set_cons_succ]
            refine pl_take (d := some 43) (v := ?_) (by rfl) ?_ rfl ?_
            rotate_left
            · go_simp
              try with_reducible rfl
            simp only [Act.put, List.setIfInBounds_toArray, List.set_cons_zero, List.set_cons_succ]
            refine pl_skip (d := some 44) (by rfl) rfl ?_
            simp only [Act.put, List.setIfInBounds_toArray, List.set_cons_zero, List.set_cons_succ]
            refine pl_skip (d := some 45) (by rfl) rfl ?_
            simp only [Act.put, List.setIfInBounds_toArray, List.set_cons_zero, List.set_cons_succ]
            refine pl_skip (d := some 46) (by rfl) rfl ?_
            simp only [Act.put, List.setIfInBounds_toArray, List.set_cons_zero, List.set_cons_succ]
            refine pl_skip (d := some 47) (by rfl) rfl ?_
            simp only [Act.put, List.setIfInBounds_toArray, List.set_cons_zero, List.set_cons_succ]
            refine pl_skip (d := some 48) (by rfl) rfl ?_
            simp only [Act.put, List.setIfInBounds_toArray, List.set_cons_zero, List.set_cons_succ]
            refine pl_take (d := some 49) (v := ?_) (by rfl) ?_ rfl ?_
            rotate_left
            · go_simp
              try with_reducible rfl
            simp only [Act.put, List.setIfInBounds_toArray, List.set_cons_zero, List.set_cons_succ]
            refine pl_take (d := some 4) (v := ?_) (by rfl) ?_ rfl ?_
            rotate_left
            · go_simp
              try with_reducible rfl
            simp only [Act.put, List.setIfInBounds_toArray, List.set_cons_zero, List.set_cons_succ]
            refine pl_nil ?_
            go_wp2_with fail
            go_ret
            exact Says.no (fun q => G0.out q.2.2.2.2.1) (hB1.trans (hS.mono hB1.size))
        · have hq : (s.de != t.de) = true := by simpa using hX
          have H3 := hide hX
          clear hX
          refine pl_take (d := some 29) (v := .bool true) (by rfl) (ex_neqB rfl rfl rfl hq) rfl ?_
          simp only [Act.put, List.setIfInBounds_toArray, List.set_cons_zero, List.set_cons_succ]
          clear hq
          refine pl_take (d := some 30) (v := ?_) (by rfl) ?_ rfl ?_
          rotate_left
          · go_simp
            try with_reducible rfl
          simp only [Act.put, List.setIfInBounds_toArray, List.set_cons_zero, List.set_cons_succ]
          refine pl_nil ?_
          go_wp2_with fail
          go_ret
          exact Says.no (fun q => H3.out q.2.2.2.1) (hB1.trans (hS.mono hB1.size))
      · have hq : (s.ho != t.ho) = true := by simpa using hX
        have H2 := hide hX
        clear hX
        refine pl_take (d := some 22) (v := .bool true) (by rfl) (ex_neqB rfl rfl rfl hq) rfl ?_
        simp only [Act.put, List.setIfInBounds_toArray, List.set_cons_zero, List.set_cons_succ]
        clear hq
        refine pl_take (d := some 23) (v := ?_) (by rfl) ?_ rfl ?_
        rotate_left
        · go_simp
          try with_reducible rfl
        simp only [Act.put, List.setIfInBounds_toArray, List.set_cons_zero, List.set_cons_succ]
        refine pl_take (d := some 24) (v := ?_) (by rfl) ?_ rfl ?_
        rotate_left
        · go_simp
          try with_reducible rfl
        simp only [Act.put, List.setIfInBounds_toArray, List.set_cons_zero, List.set_cons_succ]
        refine pl_skip (d := some 25) (by rfl) rfl ?_
        simp only [Act.put, List.setIfInBounds_toArray, List.set_cons_zero, List.set_cons_succ]
        refine pl_skip (d := some 26) (by rfl) rfl ?_
        simp only [Act.put, List.setIfInBounds_toArray, List.set_cons_zero, List.set_cons_succ]
        refine pl_skip (d := some 27) (by rfl) rfl ?_
        simp only [Act.put, List.setIfInBounds_toArray, List.set_cons_zero, List.set_cons_succ]
        refine pl_skip (d := some 28) (by rfl) rfl ?_
        simp only [Act.put, List.setIfInBounds_toArray, List.set_cons_zero, List.set_cons_succ]
        refine pl_skip (d := some 29) (by rfl) rfl ?_
        simp only [Act.put, List.setIfInBounds_toArray, List.set_cons_zero, List.set_cons_succ]
        refine pl_take (d := some 30) (v := ?_) (by rfl) ?_ rfl ?_
        rotate_left
        · go_simp
          try with_reducible rfl
        simp only [Act.put, List.setIfInBounds_toArray, List.set_cons_zero, List.set_cons_succ]
        refine pl_nil ?_
        go_wp2_with fail
        go_ret
        exact Says.no (fun q => H2.out q.2.2.1) (hB1.trans (hS.mono hB1.size))
    · have hq : (s.is != t.is) = true := by simpa using hX
      have H1 := hide hX
      clear hX
      refine pl_take (d := some 15) (v := .bool true) (by rfl) (ex_neqB rfl rfl rfl hq) rfl ?_
      simp only [Act.put, List.setIfInBounds_toArray, List.set_cons_zero, List.set_cons_succ]
      clear hq
      refine pl_take (d := some 16) (v := ?_) (by rfl) ?_ rfl ?_
      rotate_left
      · go_simp
        try with_reducible rfl
      simp only [Act.put, List.setIfInBounds_toArray, List.set_cons_zero, List.set_cons_succ]
      refine pl_take (d := some 17) (v := ?_) (by rfl) ?_ rfl ?_
      rotate_left
      · go_simp
        try with_reducible rfl
      simp only [Act.put, List.setIfInBounds_toArray, List.set_cons_zero, List.set_cons_succ]
      refine pl_skip (d := some 18) (by rfl) rfl ?_
      simp only [Act.put, List.setIfInBounds_toArray, List.set_cons_zero, List.set_cons_succ]
      refine pl_skip (d := some 19) (by rfl) rfl ?_
      simp only [Act.put, List.setIfInBounds_toArray, List.set_cons_zero, List.set_cons_succ]
      refine pl_skip (d := some 20) (by rfl) rfl ?_
      simp only [Act.put, List.setIfInBounds_toArray, List.set_cons_zero, List.set_cons_succ]
      refine pl_skip (d := some 21) (by rfl) rfl ?_
      simp only [Act.put, List.setIfInBounds_toArray, List.set_cons_zero, List.set_cons_succ]
      refine pl_skip (d := some 22) (by rfl) rfl ?_
      simp only [Act.put, List.setIfInBounds_toArray, List.set_cons_zero, List.set_cons_succ]
      refine pl_take (d := some 23) (v := ?_) (by rfl) ?_ rfl ?_
      rotate_left
      · go_simp
        try with_reducible rfl
      simp only [Act.put, List.setIfInBounds_toArray, List.set_cons_zero, List.set_cons_succ]
      refine pl_take (d := some 24) (v := ?_) (by rfl) ?_ rfl ?_
      rotate_left
      · go_simp
        try with_reducible rfl
      simp only [Act.put, List.setIfInBounds_toArray, List.set_cons_zero, List.set_cons_succ]
      refine pl_skip (d := some 25) (by rfl) rfl ?_
      simp only [Act.put, List.setIfInBounds_toArray, List.set_cons_zero, List.set_cons_succ]
      refine pl_skip (d := some 26) (by rfl) rfl ?_
      simp only [Act.put, List.setIfInBounds_toArray, List.set_cons_zero, List.set_cons_succ]
      refine pl_skip (d := some 27) (by rfl) rfl ?_
      simp only [Act.put, List.setIfInBounds_toArray, List.set_cons_zero, List.set_cons_succ]
      refine pl_skip (d := some 28) (by rfl) rfl ?_
      simp only [Act.put, List.setIfInBounds_toArray, List.set_cons_zero, List.set_cons_succ]
      refine pl_skip (d := some 29) (by rfl) rfl ?_
      simp only [Act.put, List.setIfInBounds_toArray, List.set_cons_zero, List.set_cons_succ]
      refine pl_take (d := some 30) (v := ?_) (by rfl) ?_ rfl ?_
      rotate_left
      · go_simp
        try with_reducible rfl
      simp only [Act.put, List.setIfInBounds_toArray, List.set_cons_zero, List.set_cons_succ]
      refine pl_nil ?_
      go_wp2_with fail
      go_ret
      exact Says.no (fun q => H1.out q.2.1) (hB1.trans (hS.mono hB1.size))
  · have hq : (s.vw != t.vw) = true := by simpa using hX
    have H0 := hide hX
    clear hX
    refine pl_take (d := some 9) (v := ?_) (by rfl) ?_ rfl ?_
    rotate_left
    · go_simp
      try with_reducible rfl
    simp only [Act.put, List.setIfInBounds_toArray, List.set_cons_zero, List.set_cons_succ]
    clear hq
    refine pl_take (d := some 10) (v := ?_) (by rfl) ?_ rfl ?_
    rotate_left
    · go_simp
      try with_reducible rfl
    simp only [Act.put, List.setIfInBounds_toArray, List.set_cons_zero, List.set_cons_succ]
    refine pl_skip (d := some 11) (by rfl) rfl ?_
    simp only [Act.put, List.setIfInBounds_toArray, List.set_cons_zero, List.set_cons_succ]
    refine pl_skip (d := some 12) (by rfl) rfl ?_
    simp only [Act.put, List.setIfInBounds_toArray, List.set_cons_zero, List.set_cons_succ]
    refine pl_skip (d := some 13) (by rfl) rfl ?_
    simp only [Act.put, List.setIfInBounds_toArray, List.set_cons_zero, List.set_cons_succ]
    refine pl_skip (d := some 14) (by rfl) rfl ?_
    simp only [Act.put, List.setIfInBounds_toArray, List.set_cons_zero, List.set_cons_succ]
    refine pl_skip (d := some 15) (by rfl) rfl ?_
    simp only [Act.put, List.setIfInBounds_toArray, List.set_cons_zero, List.set_cons_succ]
    refine pl_take (d := some 16) (v := ?_) (by rfl) ?_ rfl ?_
    rotate_left
    · go_simp
      try with_reducible rfl
    simp only [Act.put, List.setIfInBounds_toArray, List.set_cons_zero, List.set_cons_succ]
    refine pl_take (d := some 17) (v := ?_) (by rfl) ?_ rfl ?_
    rotate_left
    · go_simp
      try with_reducible rfl
    simp only [Act.put, List.setIfInBounds_toArray, List.set_cons_zero, List.set_cons_succ]
    refine pl_skip (d := some 18) (by rfl) rfl ?_
    simp only [Act.put, List.setIfInBounds_toArray, List.set_cons_zero, List.set_cons_succ]
    refine pl_skip (d := some 19) (by rfl) rfl ?_
    simp only [Act.put, List.setIfInBounds_toArray, List.set_cons_zero, List.set_cons_succ]
    refine pl_skip (d := some 20) (by rfl) rfl ?_
    simp only [Act.put, List.setIfInBounds_toArray, List.set_cons_zero, List.set_cons_succ]
    refine pl_skip (d := some 21) (by rfl) rfl ?_
    simp only [Act.put, List.setIfInBounds_toArray, List.set_cons_zero, List.set_cons_succ]
    refine pl_skip (d := some 22) (by rfl) rfl ?_
    simp only [Act.put, List.setIfInBounds_toArray, List.set_cons_zero, List.set_cons_succ]
    refine pl_take (d := some 23) (v := ?_) (by rfl) ?_ rfl ?_
    rotate_left
    · go_simp
      try with_reducible rfl
    simp only [Act.put, List.setIfInBounds_toArray, List.set_cons_zero, List.set_cons_succ]
    refine pl_take (d := some 24) (v := ?_) (by rfl) ?_ rfl ?_
    rotate_left
    · go_simp
      try with_reducible rfl
    simp only [Act.put, List.setIfInBounds_toArray, List.set_cons_zero, List.set_cons_succ]
    refine pl_skip (d := some 25) (by rfl) rfl ?_
    simp only [Act.put, List.setIfInBounds_toArray, List.set_cons_zero, List.set_cons_succ]
    refine pl_skip (d := some 26) (by rfl) rfl ?_
    simp only [Act.put, List.setIfInBounds_toArray, List.set_cons_zero, List.set_cons_succ]
    refine pl_skip (d := some 27) (by rfl) rfl ?_
    simp only [Act.put, List.setIfInBounds_toArray, List.set_cons_zero, List.set_cons_succ]
    refine pl_skip (d := some 28) (by rfl) rfl ?_
    simp only [Act.put, List.setIfInBounds_toArray, List.set_cons_zero, List.set_cons_succ]
    refine pl_skip (d := some 29) (by rfl) rfl ?_
    simp only [Act.put, List.setIfInBounds_toArray, List.set_cons_zero, List.set_cons_succ]
    refine pl_take (d := some 30) (v := ?_) (by rfl) ?_ rfl ?_
    rotate_left
    · go_simp
      try with_reducible rfl
    simp only [Act.put, List.setIfInBounds_toArray, List.set_cons_zero, List.set_cons_succ]
    refine pl_nil ?_
    go_wp2_with fail
    go_ret
    exact Says.no (fun q => H0.out q.1) (hB1.trans (hS.mono hB1.size))
set_option maxRecDepth 100000 in
set_option maxHeartbeats 8000000 in
theorem xsame_slot (s t : Sl) (w : World) (hs : s.raw w) (ht : t.raw w) (h1 : s.hc.ss.length ≤ 1000) (h2 : s.ec.ss.length ≤ 1000) (h1' : t.hc.ss.length ≤ 1000) (h2' : t.ec.ss.length ≤ 1000) : Calls Tryd.prog 11 #[.agg s.cells.toArray, .agg t.cells.toArray] w fun e w' => Says (eqSl s t) w e w' := by
  have hb0 := two_box (w := w) s.cells t.cells 44 44
  have ib : (Tryd.prog.info? 24).map (·.size) = some s.b.cells.length := iszB
  have ib' : (Tryd.prog.info? 24).map (·.size) = some t.b.cells.length := iszB
  have ih : (Tryd.prog.info? 33).map (·.size) = some (heldC s.hb s.hc).length := by rw [heldC_len hs.vok.h]; exact iszHe
  have ih' : (Tryd.prog.info? 33).map (·.size) = some (heldC t.hb t.hc).length := by rw [heldC_len ht.vok.h]; exact iszHe
  have ie : (Tryd.prog.info? 35).map (·.size) = some (entC s.es s.eb s.ec).length := by rw [entC_len hs.vok.e]; exact iszEn
  have ie' : (Tryd.prog.info? 35).map (·.size) = some (entC t.es t.eb t.ec).length := by rw [entC_len ht.vok.e]; exact iszEn
  have l39 := heldC_len (b := s.hb) hs.vok.h
  have l39' := heldC_len (b := t.hb) ht.vok.h
  have pX : ∀ {w' : World} {Z : Nat}, w'.rangeAt Z 0 s.cells → SlParts w' Z s := fun h => Sl.parts hs.vok h
  have pY : ∀ {w' : World} {Z : Nat}, w'.rangeAt Z 0 t.cells → SlParts w' Z t := fun h => Sl.parts ht.vok h
  obtain ⟨u, hu⟩ : ∃ u, Hid (s.cells = u) := ⟨_, hide rfl⟩
  obtain ⟨v, hv⟩ : ∃ v, Hid (t.cells = v) := ⟨_, hide rfl⟩
  simp only [hu.out] at pX
  simp only [hv.out] at pY
  rw [hu.out, hv.out] at hb0 ⊢
  clear hu hv
  go_enter Tryd.func11, Tryd.ntmps11
  go_upto_region 1 with fail
  go_name_world w1 hw1
  rw [hw1] at hb0
  clear hw1
  obtain ⟨hB1, hR1, hR2, hsz1⟩ := hb0
  have A := pX hR1
  have B := pY hR2
  clear pX pY hR1 hR2
  have hS : Below w1.heap.size w1 w1 := Below.refl _ _
  try simp only [Act.put]
  refine pl_begin ?_
  refine pl_take (d := some 5) (v := ?_) (by rfl) ?_ rfl ?_
  rotate_left
  · go_simp
    try with_reducible rfl
  simp only [Act.put, List.setIfInBounds_toArray, List.set_cons_zero, List.set_cons_succ]
  refine pl_take (d := some 6) (v := _) (by rfl) (pl_one rfl rfl ((hS.cell (p := ⟨w.heap.size, 0, none⟩) (by simp only; omega)).trans A.vw) Tryd.underlying3 rfl) rfl ?_
  simp only [Act.put, List.setIfInBounds_toArray, List.set_cons_zero, List.set_cons_succ]
  refine pl_take (d := some 7) (v := ?_) (by rfl) ?_ rfl ?_
  rotate_left
  · go_simp
    try with_reducible rfl
  simp only [Act.put, List.setIfInBounds_toArray, List.set_cons_zero, List.set_cons_succ]
  refine pl_take (d := some 8) (v := _) (by rfl) (pl_one rfl rfl ((hS.cell (p := ⟨w.heap.size + 1, 0, none⟩) (by simp only; omega)).trans B.vw) Tryd.underlying3 rfl) rfl ?_
  simp only [Act.put, List.setIfInBounds_toArray, List.set_cons_zero, List.set_cons_succ]
  by_cases hX : s.vw = t.vw
  · have hq : (s.vw != t.vw) = false := by simpa using hX
    have H0 := hide hX
    clear hX
    refine pl_take (d := some 9) (v := ?_) (by rfl) ?_ rfl ?_
    rotate_left
    · go_simp
      try with_reducible rfl
    simp only [Act.put, List.setIfInBounds_toArray, List.set_cons_zero, List.set_cons_succ]
    clear hq
    refine pl_take (d := some 10) (v := ?_) (by rfl) ?_ rfl ?_
    rotate_left
    · go_simp
      try with_reducible rfl
    simp only [Act.put, List.setIfInBounds_toArray, List.set_cons_zero, List.set_cons_succ]
    refine pl_take (d := some 11) (v := ?_) (by rfl) ?_ rfl ?_
    rotate_left
    · go_simp
      try with_reducible rfl
    simp only [Act.put, List.setIfInBounds_toArray, List.set_cons_zero, List.set_cons_succ]
    refine pl_take (d := some 12) (v := _) (by rfl) (pl_one rfl rfl ((hS.cell (p := ⟨w.heap.size, 3, none⟩) (by simp only; omega)).trans A.is) Tryd.underlying4 rfl) rfl ?_
    simp only [Act.put, List.setIfInBounds_toArray, List.set_cons_zero, List.set_cons_succ]
    refine pl_take (d := some 13) (v := ?_) (by rfl) ?_ rfl ?_
    rotate_left
    · go_simp
      try with_reducible rfl
    simp only [Act.put, List.setIfInBounds_toArray, List.set_cons_zero, List.set_cons_succ]
    refine pl_take (d := some 14) (v := _) (by rfl) (pl_one rfl rfl ((hS.cell (p := ⟨w.heap.size + 1, 3, none⟩) (by simp only; omega)).trans B.is) Tryd.underlying4 rfl) rfl ?_
    simp only [Act.put, List.setIfInBounds_toArray, List.set_cons_zero, List.set_cons_succ]
    by_cases hX : s.is = t.is
    · have hq : (s.is != t.is) = false := by simpa using hX
      have H1 := hide hX
      clear hX
      refine pl_take (d := some 15) (v := .bool false) (by rfl) (ex_neqB rfl rfl rfl hq) rfl ?_
      simp only [Act.put, List.setIfInBounds_toArray, List.set_cons_zero, List.set_cons_succ]
      clear hq
      refine pl_take (d := some 16) (v := ?_) (by rfl) ?_ rfl ?_
      rotate_left
      · go_simp
        try with_reducible rfl
      simp only [Act.put, List.setIfInBounds_toArray, List.set_cons_zero, List.set_cons_succ]
      refine pl_take (d := some 17) (v := ?_) (by rfl) ?_ rfl ?_
      rotate_left
      · go_simp
        try with_reducible rfl
      simp only [Act.put, List.setIfInBounds_toArray, List.set_cons_zero, List.set_cons_succ]
      refine pl_take (d := some 18) (v := ?_) (by rfl) ?_ rfl ?_
      rotate_left
      · go_simp
        try with_reducible rfl
      simp only [Act.put, List.setIfInBounds_toArray, List.set_cons_zero, List.set_cons_succ]
      refine pl_take (d := some 19) (v := _) (by rfl) (pl_one rfl rfl ((hS.cell (p := ⟨w.heap.size, 43, none⟩) (by simp only; omega)).trans A.ho) Tryd.underlying4 rfl) rfl ?_
      simp only [Act.put, List.setIfInBounds_toArray, List.set_cons_zero, List.set_cons_succ]
      refine pl_take (d := some 20) (v := ?_) (by rfl) ?_ rfl ?_
      rotate_left
      · go_simp
        try with_reducible rfl
      simp only [Act.put, List.setIfInBounds_toArray, List.set_cons_zero, List.set_cons_succ]
      refine pl_take (d := some 21) (v := _) (by rfl) (pl_one rfl rfl ((hS.cell (p := ⟨w.heap.size + 1, 43, none⟩) (by simp only; omega)).trans B.ho) Tryd.underlying4 rfl) rfl ?_
      simp only [Act.put, List.setIfInBounds_toArray, List.set_cons_zero, List.set_cons_succ]
      by_cases hX : s.ho = t.ho
      · have hq : (s.ho != t.ho) = false := by simpa using hX
        have H2 := hide hX
        clear hX
        refine pl_take (d := some 22) (v := .bool false) (by rfl) (ex_neqB rfl rfl rfl hq) rfl ?_
        simp only [Act.put, List.setIfInBounds_toArray, List.set_cons_zero, List.set_cons_succ]
        clear hq
        refine pl_take (d := some 23) (v := ?_) (by rfl) ?_ rfl ?_
        rotate_left
        · go_simp
          try with_reducible rfl
        simp only [Act.put, List.setIfInBounds_toArray, List.set_cons_zero, List.set_cons_succ]
        refine pl_take (d := some 24) (v := ?_) (by rfl) ?_ rfl ?_
        rotate_left
        · go_simp
          try with_reducible rfl
        simp only [Act.put, List.setIfInBounds_toArray, List.set_cons_zero, List.set_cons_succ]
        refine pl_take (d := some 25) (v := ?_) (by rfl) ?_ rfl ?_
        rotate_left
        · go_simp
          try with_reducible rfl
        simp only [Act.put, List.setIfInBounds_toArray, List.set_cons_zero, List.set_cons_succ]
        refine pl_take (d := some 26) (v := _) (by rfl) (pl_one rfl rfl ((hS.cell (p := ⟨w.heap.size, 84, none⟩) (by simp only; omega)).trans A.de) Tryd.underlying4 rfl) rfl ?_
        simp only [Act.put, List.setIfInBounds_toArray, List.set_cons_zero, List.set_cons_succ]
        refine pl_take (d := some 27) (v := ?_) (by rfl) ?_ rfl ?_
        rotate_left
        · go_simp
          try with_reducible rfl
        simp only [Act.put, List.setIfInBounds_toArray, List.set_cons_zero, List.set_cons_succ]
        refine pl_take (d := some 28) (v := _) (by rfl) (pl_one rfl rfl ((hS.cell (p := ⟨w.heap.size + 1, 84, none⟩) (by simp only; omega)).trans B.de) Tryd.underlying4 rfl) rfl ?_
        simp only [Act.put, List.setIfInBounds_toArray, List.set_cons_zero, List.set_cons_succ]
        by_cases hX : s.de = t.de
        · have hq : (s.de != t.de) = false := by simpa using hX
          have H3 := hide hX
          clear hX
          refine pl_take (d := some 29) (v := .bool false) (by rfl) (ex_neqB rfl rfl rfl hq) rfl ?_
          simp only [Act.put, List.setIfInBounds_toArray, List.set_cons_zero, List.set_cons_succ]
          clear hq
          refine pl_take (d := some 30) (v := ?_) (by rfl) ?_ rfl ?_
          rotate_left
          · go_simp
            try with_reducible rfl
          simp only [Act.put, List.setIfInBounds_toArray, List.set_cons_zero, List.set_cons_succ]
          refine pl_nil ?_
          go_upto_region 3 with fail
          try simp only [Act.put]
          refine pl_begin ?_
          refine pl_take (d := some 31) (v := ?_) (by rfl) ?_ rfl ?_
          rotate_left
          · go_simp
            try with_reducible rfl
          simp only [Act.put, List.setIfInBounds_toArray, List.set_cons_zero, List.set_cons_succ]
          refine pl_take (d := some 32) (v := .agg (s.b.cells).toArray) (by rfl) (ex_mid rfl rfl (range_below A.b hS (by omega)) Tryd.underlying24 rfl ib) rfl ?_
          simp only [Act.put, List.setIfInBounds_toArray, List.set_cons_zero, List.set_cons_succ]
          refine pl_take (d := some 33) (v := ?_) (by rfl) ?_ rfl ?_
          rotate_left
          · go_simp
            try with_reducible rfl
          simp only [Act.put, List.setIfInBounds_toArray, List.set_cons_zero, List.set_cons_succ]
          refine pl_take (d := some 34) (v := .agg (t.b.cells).toArray) (by rfl) (ex_mid rfl rfl (range_below B.b hS (by omega)) Tryd.underlying24 rfl ib') rfl ?_
          simp only [Act.put, List.setIfInBounds_toArray, List.set_cons_zero, List.set_cons_succ]
          refine pl_call (d := some 35) (by rfl) (by go_simp; first | done | exact ⟨rfl, rfl⟩ | with_reducible rfl) rfl ?_
          refine (s.b.xsame_any t.b _ ((hs.b.below hB1).below hS) ((ht.b.below hB1).below hS)).mono ?_
          rintro e' v0 hsay
          obtain ⟨hcase, hBx⟩ := hsay
          have hS := hS.trans (hBx.mono hS.size)
          clear hBx
          rcases hcase with ⟨rfl, hX⟩ | ⟨rfl, hX⟩
          · have G0 := hide hX
            clear hX
            refine ⟨_, rfl, ?_⟩
            simp only [Act.put, List.setIfInBounds_toArray, List.set_cons_zero, List.set_cons_succ]
            refine pl_take (d := some 36) (v := ?_) (by rfl) ?_ rfl ?_
            rotate_left
            · go_simp
              try with_reducible rfl
            simp only [Act.put, List.setIfInBounds_toArray, List.set_cons_zero, List.set_cons_succ]
            refine pl_take (d := some 37) (v := ?_) (by rfl) ?_ rfl ?_
            rotate_left
            · go_simp
              try with_reducible rfl
            simp only [Act.put, List.setIfInBounds_toArray, List.set_cons_zero, List.set_cons_succ]
            refine pl_take (d := some 38) (v := .agg (heldC s.hb s.hc).toArray) (by rfl) (ex_mid rfl rfl (range_below A.h hS (by omega)) Tryd.underlying33 rfl ih) rfl ?_
            simp only [Act.put, List.setIfInBounds_toArray, List.set_cons_zero, List.set_cons_succ]
            refine pl_run (d := some 39) (by rfl) (exec_bs1 rfl rfl (hbs1 l39 _)) rfl ?_
            simp only [Act.put, List.setIfInBounds_toArray, List.set_cons_zero, List.set_cons_succ]
            refine pl_take (d := some 40) (v := ?_) (by rfl) ?_ rfl ?_
            rotate_left
            · go_simp
              try with_reducible rfl
            simp only [Act.put, List.setIfInBounds_toArray, List.set_cons_zero, List.set_cons_succ]
            refine pl_take (d := some 41) (v := .agg (heldC t.hb t.hc).toArray) (by rfl) (ex_mid rfl rfl (range_below (range_below B.h hS (by omega)) ((Below.refl _ _).alloc (Nat.le_refl _) _) (by have := hS.size; omega)) Tryd.underlying33 rfl ih') rfl ?_
            simp only [Act.put, List.setIfInBounds_toArray, List.set_cons_zero, List.set_cons_succ]
            refine pl_run (d := some 42) (by rfl) (exec_bs1 rfl rfl (hbs1 l39' _)) rfl ?_
            simp only [Act.put, List.setIfInBounds_toArray, List.set_cons_zero, List.set_cons_succ]
            have hb1 : Below v0.heap.size v0 (v0.alloc (.cells (heldC s.hb s.hc).toArray 33)) := (Below.refl _ _).alloc (Nat.le_refl _) _
            have hb2 : Below (v0.alloc (.cells (heldC s.hb s.hc).toArray 33)).heap.size (v0.alloc (.cells (heldC s.hb s.hc).toArray 33)) ((v0.alloc (.cells (heldC s.hb s.hc).toArray 33)).alloc (.cells (heldC t.hb t.hc).toArray 33)) := (Below.refl _ _).alloc (Nat.le_refl _) _
            have m1 := range_below (range_new v0 (heldC s.hb s.hc).toArray 33) hb2 (by simp)
            have m2 := range_new (v0.alloc (.cells (heldC s.hb s.hc).toArray 33)) (heldC t.hb t.hc).toArray 33
            have hz := hS.size
            have hS := hS.trans ((hb1.trans (hb2.mono (by simp))).mono hS.size)
            have hl1 : v0.heap.size < ((v0.alloc (.cells (heldC s.hb s.hc).toArray 33)).alloc (.cells (heldC t.hb t.hc).toArray 33)).heap.size := by simp; omega
            have hl2 : v0.heap.size + 1 < ((v0.alloc (.cells (heldC s.hb s.hc).toArray 33)).alloc (.cells (heldC t.hb t.hc).toArray 33)).heap.size := by simp
            have ch := xsame_held v0.heap.size (v0.heap.size + 1) s.hb t.hb s.hc t.hc h1 h1' _ ((hs.hb.below hB1).below hS) ((ht.hb.below hB1).below hS) ((hs.hc.below hB1).below hS) ((ht.hc.below hB1).below hS) hl1 hl2 (by simpa using m1) (by simpa using m2)
            clear m1 m2 hb1 hb2 hl1 hl2
            refine pl_call (d := some 43) (by rfl) (by go_simp; first | done | exact ⟨rfl, rfl⟩ | with_reducible rfl) rfl ?_
            refine ch.mono ?_
            rintro e' v1 hsay
            obtain ⟨hcase, hBx⟩ := hsay
            have hS := hS.trans (hBx.mono hS.size)
            clear hBx
            rcases hcase with ⟨rfl, hX⟩ | ⟨rfl, hX⟩
            · have G1 := hide hX
              clear hX
              refine ⟨_, rfl, ?_⟩
              simp only [Act.put, List.setIfInBounds_toArray, List.set_cons_zero, List.set_cons_succ]
              refine pl_take (d := some 44) (v := ?_) (by rfl) ?_ rfl ?_
              rotate_left
              · go_simp
                try with_reducible rfl
              simp only [Act.put, List.setIfInBounds_toArray, List.set_cons_zero, List.set_cons_succ]
              refine pl_take (d := some 45) (v := ?_) (by rfl) ?_ rfl ?_
              rotate_left
              · go_simp
                try with_reducible rfl
              simp only [Act.put, List.setIfInBounds_toArray, List.set_cons_zero, List.set_cons_succ]
              refine pl_take (d := some 46) (v := ?_) (by rfl) ?_ rfl ?_
              rotate_left
              · go_simp
                try with_reducible rfl
              simp only [Act.put, List.setIfInBounds_toArray, List.set_cons_zero, List.set_cons_succ]
              refine pl_take (d := some 47) (v := .agg (entC s.es s.eb s.ec).toArray) (by rfl) (ex_mid rfl rfl (range_below A.e hS (by omega)) Tryd.underlying35 rfl ie) rfl ?_
              simp only [Act.put, List.setIfInBounds_toArray, List.set_cons_zero, List.set_cons_succ]
              refine pl_take (d := some 48) (v := ?_) (by rfl) ?_ rfl ?_
              rotate_left
              · go_simp
                try with_reducible rfl
              simp only [Act.put, List.setIfInBounds_toArray, List.set_cons_zero, List.set_cons_succ]
              refine pl_take (d := some 49) (v := .agg (entC t.es t.eb t.ec).toArray) (by rfl) (ex_mid rfl rfl (range_below B.e hS (by omega)) Tryd.underlying35 rfl ie') rfl ?_
              simp only [Act.put, List.setIfInBounds_toArray, List.set_cons_zero, List.set_cons_succ]
              refine pl_call (d := some 50) (by rfl) (by go_simp; first | done | exact ⟨rfl, rfl⟩ | with_reducible rfl) rfl ?_
              refine (xsame_entry s.es t.es s.eb t.eb s.ec t.ec h2 h2' _ ((hs.eb.below hB1).below hS) ((ht.eb.below hB1).below hS) ((hs.ec.below hB1).below hS) ((ht.ec.below hB1).below hS)).mono ?_
              rintro e' v2 hsay
              obtain ⟨hcase, hBx⟩ := hsay
              have hS := hS.trans (hBx.mono hS.size)
              clear hBx
              rcases hcase with ⟨rfl, hX⟩ | ⟨rfl, hX⟩
              · have G2 := hide hX
                clear hX
                refine ⟨_, rfl, ?_⟩
                simp only [Act.put, List.setIfInBounds_toArray, List.set_cons_zero, List.set_cons_succ]
                refine pl_take (d := some 51) (v := ?_) (by rfl) ?_ rfl ?_
                rotate_left
                · go_simp
                  try with_reducible rfl
                simp only [Act.put, List.setIfInBounds_toArray, List.set_cons_zero, List.set_cons_succ]
                refine pl_take (d := some 4) (v := ?_) (by rfl) ?_ rfl ?_
                rotate_left
                · go_simp
                  try with_reducible rfl
                simp only [Act.put, List.setIfInBounds_toArray, List.set_cons_zero, List.set_cons_succ]
                refine pl_nil ?_
                go_wp2_with fail
                go_ret
                exact Says.yes ⟨H0.out, H1.out, H2.out, H3.out, G0.out, G1.out, G2.out⟩ (hB1.trans (hS.mono hB1.size))
              · have G2 := hide hX
                clear hX
                refine ⟨_, rfl, ?_⟩
                simp only [Act.put, List.setIfInBounds_toArray, List.set_cons_zero, List.set_cons_succ]
                refine pl_take (d := some 51) (v := ?_) (by rfl) ?_ rfl ?_
                rotate_left
                · go_simp
                  try with_reducible rfl
                simp only [Act.put, List.setIfInBounds_toArray, List.set_cons_zero, List.set_cons_succ]
                refine pl_take (d := some 4) (v := ?_) (by rfl) ?_ rfl ?_
                rotate_left
                · go_simp
                  try with_reducible rfl
                simp only [Act.put, List.setIfInBounds_toArray, List.set_cons_zero, List.set_cons_succ]
                refine pl_nil ?_
                go_wp2_with fail
                go_ret
                exact Says.no (fun q => G2.out q.2.2.2.2.2.2) (hB1.trans (hS.mono hB1.size))
            · have G1 := hide hX
              clear hX
              refine ⟨_, rfl, ?_⟩
              simp only [Act.put, List.setIfInBounds_toArray, List.set_cons_zero, List.set_cons_succ]
              refine pl_take (d := some 44) (v := ?_) (by rfl) ?_ rfl ?_
              rotate_left
              · go_simp
                try with_reducible rfl
              simp only [Act.put, List.setIfInBounds_toArray, List.set_cons_zero, List.set_cons_succ]
              refine pl_take (d := some 45) (v := ?_) (by rfl) ?_ rfl ?_
              rotate_left
              · go_simp
                try with_reducible rfl
              simp only [Act.put, List.setIfInBounds_toArray, List.set_cons_zero, List.set_cons_succ]
              refine pl_skip (d := some 46) (by rfl) rfl ?_
              simp only [Act.put, List.setIfInBounds_toArray, List.set_cons_zero, List.set_cons_succ]
              refine pl_skip (d := some 47) (by rfl) rfl ?_
              simp only [Act.put, List.setIfInBounds_toArray, List.set_cons_zero, List.set_cons_succ]
              refine pl_skip (d := some 48) (by rfl) rfl ?_
              simp only [Act.put, List.setIfInBounds_toArray, List.set_cons_zero, List.set_cons_succ]
              refine pl_skip (d := some 49) (by rfl) rfl ?_
              simp only [Act.put, List.setIfInBounds_toArray, List.set_cons_zero, List.set_cons_succ]
              refine pl_skip (d := some 50) (by rfl) rfl ?_
              simp only [Act.put, List.setIfInBounds_toArray, List.set_cons_zero, List.set_cons_succ]
              refine pl_take (d := some 51) (v := ?_) (by rfl) ?_ rfl ?_
              rotate_left
              · go_simp
                try with_reducible rfl
              simp only [Act.put, List.setIfInBounds_toArray, List.set_cons_zero, List.set_cons_succ]
              refine pl_take (d := some 4) (v := ?_) (by rfl) ?_ rfl ?_
              rotate_left
              · go_simp
                try with_reducible rfl
              simp only [Act.put, List.setIfInBounds_toArray, List.set_cons_zero, List.set_cons_succ]
              refine pl_nil ?_
              go_wp2_with fail
              go_ret
              exact Says.no (fun q => G1.out q.2.2.2.2.2.1) (hB1.trans (hS.mono hB1.size))
          · have G0 := hide hX
            clear hX
            refine ⟨_, rfl, ?_⟩
            simp only [Act.put, List.setIfInBounds_toArray, List.set_cons_zero, List.set_cons_succ]
            refine pl_take (d := some 36) (v := ?_) (by rfl) ?_ rfl ?_
            rotate_left
            · go_simp
              try with_reducible rfl
            simp only [Act.put, List.setIfInBounds_toArray, List.set_cons_zero, List.set_cons_succ]
            refine pl_skip (d := some 37) (by rfl) rfl ?_
            simp only [Act.put, List.setIfInBounds_toArray, List.set_cons_zero, List.set_cons_succ]
            refine pl_skip (d := some 38) (by rfl) rfl ?_
            simp only [Act.put, List.setIfInBounds_toArray, List.set_cons_zero, List.set_cons_succ]
            refine pl_skip (d := some 39) (by rfl) rfl ?_
            simp only [Act.put, List.setIfInBounds_toArray, List.set_cons_zero, List.set_cons_succ]
            refine pl_skip (d := some 40) (by rfl) rfl ?_
            simp only [Act.put, List.setIfInBounds_toArray, List.set_cons_zero, List.set_cons_succ]
            refine pl_skip (d := some 41) (by rfl) rfl ?_
            simp only [Act.put, List.setIfInBounds_toArray, List.set_cons_zero, List.set_cons_succ]
            refine pl_skip (d := some 42) (by rfl) rfl ?_
            simp only [Act.put, List.setIfInBounds_toArray, List.set_cons_zero, List.set_cons_succ]
            refine pl_skip (d := some 43) (by rfl) rfl ?_
            simp only [Act.put, List.setIfInBounds_toArray, List.set_cons_zero, List.set_cons_succ]
            refine pl_take (d := some 44) (v := ?_) (by rfl) ?_ rfl ?_
            rotate_left
            · go_simp
              try with_reducible rfl
            simp only [Act.put, List.setIfInBounds_toArray, List.set_cons_zero, List.set_cons_succ]
            refine pl_take (d := some 45) (v := ?_) (by rfl) ?_ rfl ?_
            rotate_left
            · go_simp
              try with_reducible rfl
            simp only [Act.put, List.setIfInBounds_toArray, List.set_cons_zero, List.set_cons_succ]
            refine pl_skip (d := some 46) (by rfl) rfl ?_
            simp only [Act.put, List.setIfInBounds_toArray, List.set_cons_zero, List.set_cons_succ]
            refine pl_skip (d := some 47) (by rfl) rfl ?_
            simp only [Act.put, List.setIfInBounds_toArray, List.set_cons_zero, List.set_cons_succ]
            refine pl_skip (d := some 48) (by rfl) rfl ?_
            simp only [Act.put, List.setIfInBounds_toArray, List.set_cons_zero, List.set_cons_succ]
            refine pl_skip (d := some 49) (by rfl) rfl ?_
            simp only [Act.put, List.setIfInBounds_toArray, List.set_cons_zero, List.set_cons_succ]
            refine pl_skip (d := some 50) (by rfl) rfl ?_
            simp only [Act.put, List.setIfInBounds_toArray, List.set_cons_zero, List.set_cons_succ]
            refine pl_take (d := some 51) (v := ?_) (by rfl) ?_ rfl ?_
            rotate_left
            · go_simp
              try with_reducible rfl
            simp only [Act.put, List.setIfInBounds_toArray, List.set_cons_zero, List.set_cons_succ]
            refine pl_take (d := some 4) (v := ?_) (by rfl) ?_ rfl ?_
            rotate_left
            · go_simp
              try with_reducible rfl
            simp only [Act.put, List.setIfInBounds_toArray, List.set_cons_zero, List.set_cons_succ]
            refine pl_nil ?_
            go_wp2_with fail
            go_ret
            exact Says.no (fun q => G0.out q.2.2.2.2.1) (hB1.trans (hS.mono hB1.size))
        · have hq : (s.de != t.de) = true := by simpa using hX
          have H3 := hide hX
          clear hX
          refine pl_take (d := some 29) (v := .bool true) (by rfl) (ex_neqB rfl rfl rfl hq) rfl ?_
          simp only [Act.put, List.setIfInBounds_toArray, List.set_cons_zero, List.set_cons_succ]
          clear hq
          refine pl_take (d := some 30) (v := ?_) (by rfl) ?_ rfl ?_
          rotate_left
          · go_simp
            try with_reducible rfl
          simp only [Act.put, List.setIfInBounds_toArray, List.set_cons_zero, List.set_cons_succ]
          refine pl_nil ?_
          go_wp2_with fail
          go_ret
          exact Says.no (fun q => H3.out q.2.2.2.1) (hB1.trans (hS.mono hB1.size))
      · have hq : (s.ho != t.ho) = true := by simpa using hX
        have H2 := hide hX
        clear hX
        refine pl_take (d := some 22) (v := .bool true) (by rfl) (ex_neqB rfl rfl rfl hq) rfl ?_
        simp only [Act.put, List.setIfInBounds_toArray, List.set_cons_zero, List.set_cons_succ]
        clear hq
        refine pl_take (d := some 23) (v := ?_) (by rfl) ?_ rfl ?_
        rotate_left
        · go_simp
          try with_reducible rfl
        simp only [Act.put, List.setIfInBounds_toArray, List.set_cons_zero, List.set_cons_succ]
        refine pl_take (d := some 24) (v := ?_) (by rfl) ?_ rfl ?_
        rotate_left
        · go_simp
          try with_reducible rfl
        simp only [Act.put, List.setIfInBounds_toArray, List.set_cons_zero, List.set_cons_succ]
        refine pl_skip (d := some 25) (by rfl) rfl ?_
        simp only [Act.put, List.setIfInBounds_toArray, List.set_cons_zero, List.set_cons_succ]
        refine pl_skip (d := some 26) (by rfl) rfl ?_
        simp only [Act.put, List.setIfInBounds_toArray, List.set_cons_zero, List.set_cons_succ]
        refine pl_skip (d := some 27) (by rfl) rfl ?_
        simp only [Act.put, List.setIfInBounds_toArray, List.set_cons_zero, List.set_cons_succ]
        refine pl_skip (d := some 28) (by rfl) rfl ?_
        simp only [Act.put, List.setIfInBounds_toArray, List.set_cons_zero, List.set_cons_succ]
        refine pl_skip (d := some 29) (by rfl) rfl ?_
        simp only [Act.put, List.setIfInBounds_toArray, List.set_cons_zero, List.set_cons_succ]
        refine pl_take (d := some 30) (v := ?_) (by rfl) ?_ rfl ?_
        rotate_left
        · go_simp
          try with_reducible rfl
        simp only [Act.put, List.setIfInBounds_toArray, List.set_cons_zero, List.set_cons_succ]
        refine pl_nil ?_
        go_wp2_with fail
        go_ret
        exact Says.no (fun q => H2.out q.2.2.1) (hB1.trans (hS.mono hB1.size))
    · have hq : (s.is != t.is) = true := by simpa using hX
      have H1 := hide hX
      clear hX
      refine pl_take (d := some 15) (v := .bool true) (by rfl) (ex_neqB rfl rfl rfl hq) rfl ?_
      simp only [Act.put, List.setIfInBounds_toArray, List.set_cons_zero, List.set_cons_succ]
      clear hq
      refine pl_take (d := some 16) (v := ?_) (by rfl) ?_ rfl ?_
      rotate_left
      · go_simp
        try with_reducible rfl
      simp only [Act.put, List.setIfInBounds_toArray, List.set_cons_zero, List.set_cons_succ]
      refine pl_take (d := some 17) (v := ?_) (by rfl) ?_ rfl ?_
      rotate_left
      · go_simp
        try with_reducible rfl
      simp only [Act.put, List.setIfInBounds_toArray, List.set_cons_zero, List.set_cons_succ]
      refine pl_skip (d := some 18) (by rfl) rfl ?_
      simp only [Act.put, List.setIfInBounds_toArray, List.set_cons_zero, List.set_cons_succ]
      refine pl_skip (d := some 19) (by rfl) rfl ?_
      simp only [Act.put, List.setIfInBounds_toArray, List.set_cons_zero, List.set_cons_succ]
      refine pl_skip (d := some 20) (by rfl) rfl ?_
      simp only [Act.put, List.setIfInBounds_toArray, List.set_cons_zero, List.set_cons_succ]
      refine pl_skip (d := some 21) (by rfl) rfl ?_
      simp only [Act.put, List.setIfInBounds_toArray, List.set_cons_zero, List.set_cons_succ]
      refine pl_skip (d := some 22) (by rfl) rfl ?_
      simp only [Act.put, List.setIfInBounds_toArray, List.set_cons_zero, List.set_cons_succ]
      refine pl_take (d := some 23) (v := ?_) (by rfl) ?_ rfl ?_
      rotate_left
      · go_simp
        try with_reducible rfl
      simp only [Act.put, List.setIfInBounds_toArray, List.set_cons_zero, List.set_cons_succ]
      refine pl_take (d := some 24) (v := ?_) (by rfl) ?_ rfl ?_
      rotate_left
      · go_simp
        try with_reducible rfl
      simp only [Act.put, List.setIfInBounds_toArray, List.set_cons_zero, List.set_cons_succ]
      refine pl_skip (d := some 25) (by rfl) rfl ?_
      simp only [Act.put, List.setIfInBounds_toArray, List.set_cons_zero, List.set_cons_succ]
      refine pl_skip (d := some 26) (by rfl) rfl ?_
      simp only [Act.put, List.setIfInBounds_toArray, List.set_cons_zero, List.set_cons_succ]
      refine pl_skip (d := some 27) (by rfl) rfl ?_
      simp only [Act.put, List.setIfInBounds_toArray, List.set_cons_zero, List.set_cons_succ]
      refine pl_skip (d := some 28) (by rfl) rfl ?_
      simp only [Act.put, List.setIfInBounds_toArray, List.set_cons_zero, List.set_cons_succ]
      refine pl_skip (d := some 29) (by rfl) rfl ?_
      simp only [Act.put, List.setIfInBounds_toArray, List.set_cons_zero, List.set_cons_succ]
      refine pl_take (d := some 30) (v := ?_) (by rfl) ?_ rfl ?_
      rotate_left
      · go_simp
        try with_reducible rfl
      simp only [Act.put, List.setIfInBounds_toArray, List.set_cons_zero, List.set_cons_succ]
      refine pl_nil ?_
      go_wp2_with fail
      go_ret
      exact Says.no (fun q => H1.out q.2.1) (hB1.trans (hS.mono hB1.size))
  · have hq : (s.vw != t.vw) = true := by simpa using hX
    have H0 := hide hX
    clear hX
    refine pl_take (d := some 9) (v := ?_) (by rfl) ?_ rfl ?_
    rotate_left
    · go_simp
      try with_reducible rfl
    simp only [Act.put, List.setIfInBounds_toArray, List.set_cons_zero, List.set_cons_succ]
    clear hq
    refine pl_take (d := some 10) (v := ?_) (by rfl) ?_ rfl ?_
    rotate_left
    · go_simp
      try with_reducible rfl
    simp only [Act.put, List.setIfInBounds_toArray, List.set_cons_zero, List.set_cons_succ]
    refine pl_skip (d := some 11) (by rfl) rfl ?_
    simp only [Act.put, List.setIfInBounds_toArray, List.set_cons_zero, List.set_cons_succ]
    refine pl_skip (d := some 12) (by rfl) rfl ?_
    simp only [Act.put, List.setIfInBounds_toArray, List.set_cons_zero, List.set_cons_succ]
    refine pl_skip (d := some 13) (by rfl) rfl ?_
    simp only [Act.put, List.setIfInBounds_toArray, List.set_cons_zero, List.set_cons_succ]
    refine pl_skip (d := some 14) (by rfl) rfl ?_
    simp only [Act.put, List.setIfInBounds_toArray, List.set_cons_zero, List.set_cons_succ]
    refine pl_skip (d := some 15) (by rfl) rfl ?_
    simp only [Act.put, List.setIfInBounds_toArray, List.set_cons_zero, List.set_cons_succ]
    refine pl_take (d := some 16) (v := ?_) (by rfl) ?_ rfl ?_
    rotate_left
    · go_simp
      try with_reducible rfl
    simp only [Act.put, List.setIfInBounds_toArray, List.set_cons_zero, List.set_cons_succ]
    refine pl_take (d := some 17) (v := ?_) (by rfl) ?_ rfl ?_
    rotate_left
    · go_simp
      try with_reducible rfl
    simp only [Act.put, List.setIfInBounds_toArray, List.set_cons_zero, List.set_cons_succ]
    refine pl_skip (d := some 18) (by rfl) rfl ?_
    simp only [Act.put, List.setIfInBounds_toArray, List.set_cons_zero, List.set_cons_succ]
    refine pl_skip (d := some 19) (by rfl) rfl ?_
    simp only [Act.put, List.setIfInBounds_toArray, List.set_cons_zero, List.set_cons_succ]
    refine pl_skip (d := some 20) (by rfl) rfl ?_
    simp only [Act.put, List.setIfInBounds_toArray, List.set_cons_zero, List.set_cons_succ]
    refine pl_skip (d := some 21) (by rfl) rfl ?_
    simp only [Act.put, List.setIfInBounds_toArray, List.set_cons_zero, List.set_cons_succ]
    refine pl_skip (d := some 22) (by rfl) rfl ?_
    simp only [Act.put, List.setIfInBounds_toArray, List.set_cons_zero, List.set_cons_succ]
    refine pl_take (d := some 23) (v := ?_) (by rfl) ?_ rfl ?_
    rotate_left
    · go_simp
      try with_reducible rfl
    simp only [Act.put, List.setIfInBounds_toArray, List.set_cons_zero, List.set_cons_succ]
    refine pl_take (d := some 24) (v := ?_) (by rfl) ?_ rfl ?_
    rotate_left
    · go_simp
      try with_reducible rfl
    simp only [Act.put, List.setIfInBounds_toArray, List.set_cons_zero, List.set_cons_succ]
    refine pl_skip (d := some 25) (by rfl) rfl ?_
    simp only [Act.put, List.setIfInBounds_toArray, List.set_cons_zero, List.set_cons_succ]
    refine pl_skip (d := some 26) (by rfl) rfl ?_
    simp only [Act.put, List.setIfInBounds_toArray, List.set_cons_zero, List.set_cons_succ]
    refine pl_skip (d := some 27) (by rfl) rfl ?_
    simp only [Act.put, List.setIfInBounds_toArray, List.set_cons_zero, List.set_cons_succ]
    refine pl_skip (d := some 28) (by rfl) rfl ?_
    simp only [Act.put, List.setIfInBounds_toArray, List.set_cons_zero, List.set_cons_succ]
    refine pl_skip (d := some 29) (by rfl) rfl ?_
    simp only [Act.put, List.setIfInBounds_toArray, List.set_cons_zero, List.set_cons_succ]
    refine pl_take (d := some 30) (v := ?_) (by rfl) ?_ rfl ?_
    rotate_left
    · go_simp
      try with_reducible rfl
    simp only [Act.put, List.setIfInBounds_toArray, List.set_cons_zero, List.set_cons_succ]
    refine pl_nil ?_
    go_wp2_with fail
    go_ret
    exact Says.no (fun q => H0.out q.1) (hB1.trans (hS.mono hB1.size))
end Go.Proofs.YtogmkcabndgllaaDoor
