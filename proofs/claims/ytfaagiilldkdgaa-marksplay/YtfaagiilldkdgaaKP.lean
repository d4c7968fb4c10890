/- MarksPlay: the walk -/
import Derived.Test.YtfaagiilldkdgaaK12
namespace Go.Proofs.Ytfaagiilldkdgaa
open Go.RowKit
set_option linter.unusedVariables false
set_option linter.unusedSimpArgs false
def Two (w : World) (B b X E D T n k : Nat) (wr : World) : Prop := ∃ mm, MkAt wr B b k (n : Int) mm ∧ XAt wr X E D T n mm ∧ Below w.heap.size w wr
def SPl (Z : Nat) (q : List Value) (x : World) : Prop := x.rangeAt Z 0 q
theorem mm_out {w : World} {B b k n : Nat} {mm : Int → Option Mk} (h : MkAt w B b k (n : Int) mm) {z : Int} (hz : z < 0 ∨ (n : Int) ≤ z) : wasOf mm z = mk0 := by
  cases hm : mm z with
  | none => exact was_none hm
  | some x =>
    have := h.ok z x hm
    omega
set_option maxRecDepth 100000 in
set_option maxHeartbeats 8000000 in
theorem play_walk (nodes : Int) (al : Option Addr) (cl : Nat) (ys : List Ac) (need : Int) (w : World) (hok : ∀ y ∈ ys, y.ok) (hrow : RowOf Ac.cells w al ys) :
    Calls Try.prog 3 #[.int .i64 nodes, .slice al ys.length cl, .int .i64 need] w fun e w' => e = .returned (.bool true) ∧ Below w.heap.size w w' := by
  obtain ⟨za, hza50, hza⟩ := zeroAc
  have hzd0 := zeroDg
  obtain ⟨zd, hzdz⟩ : ∃ u, Hid (v8 d0 = u) := ⟨_, hide rfl⟩
  have hzd32 : zd.length = 32 := by rw [← hzdz.out]; decide
  have hzd : ∀ w' : World, (zeroValue 29).run Try.prog w' = .ok (.agg zd.toArray) w' := by rw [← hzdz.out]; exact hzd0
  clear hzd0 hzdz
  cases hgd : Nq.goodB nodes with
  | false =>
    have cN := new_no nodes w hgd
    have cX := xnew_no nodes w hgd
    have cL := lives_any w
    clear hgd hzd
    go_enter Try.func3, Try.ntmps3
    go_wp2_with fail
    refine cN.mono ?_
    rintro _ w1 ⟨rfl, hx⟩
    obtain rfl := hx.symm
    clear hx cN
    go_wp2_with fail
    refine cX.mono ?_
    rintro _ w1 ⟨rfl, hx⟩
    obtain rfl := hx.symm
    clear hx cX
    go_wp2_with fail
    refine cL.mono ?_
    rintro _ w2 ⟨rfl, hB2⟩
    go_wp2_with fail
    go_ret
    exact ⟨rfl, hB2⟩
  | true =>
    have hg := Nq.goodB_true hgd
    obtain ⟨n, rfl⟩ := Int.eq_ofNat_of_zero_le (show 0 ≤ nodes by omega)
    have hn4 : 4 ≤ n ∧ n ≤ 64 := ⟨by omega, by omega⟩
    have cN := new_yesX (n : Int) w hgd
    have cX := fun w' => xnew_yes n w' hgd
    clear hgd hg
    go_enter Try.func3, Try.ntmps3
    go_wp2_with fail
    refine cN.mono ?_
    rintro _ w1 ⟨B, b, rfl, hk1, hbw, hB1⟩
    clear cN
    go_wp2_with fail
    refine (cX w1).mono ?_
    rintro _ w2 ⟨X, E, D, T, rfl, hx2, g1, g2, g3, g4, hB2⟩
    clear cX
    have hk2 := hk1.below hB2
    have hbl2 := hB1.trans (hB2.mono hB1.size)
    have hBl := hk1.lt
    have hbl := hk1.mp.lt
    clear hk1
    by_cases hl : 200 < ys.length
    · have hlI : (200 : Int) < (ys.length : Int) := by omega
      have cL := lives_any w2
      go_wp2_with fail
      refine cL.mono ?_
      rintro _ w3 ⟨rfl, hB3⟩
      go_wp2_with fail
      go_ret
      exact ⟨rfl, hbl2.trans (hB3.mono hbl2.size)⟩
    · have hlI : ¬ (200 : Int) < (ys.length : Int) := by omega
      have hst : Hid (Two w B b X E D T n 0 w2) := hide ⟨_, hk2, hx2, hbl2⟩
      obtain ⟨q1, q2, q3, q4, q5, q6⟩ := hx2.ne
      have hB1s := hB1.size
      clear hk2 hx2 hbl2 hB2
      go_wp2_with fail
      go_loopw [33] (fun iv wr => ∃ i : Nat, i ≤ ys.length ∧ iv = .int .i64 (i : Int) ∧ Hid (Two w B b X E D T n i wr)) (fun iv _ => ys.length - (intOf iv).toNat)
      case atStart => exact ⟨0, by omega, rfl, hst⟩
      case round =>
        clear hst
        obtain ⟨i, hi, rfl, HS⟩ := hrel
        obtain ⟨mm, hM, hXx, hBB⟩ := HS.out
        clear HS
        by_cases hlt : i < ys.length
        · have hiI : (i : Int) < (ys.length : Int) := by omega
          obtain ⟨ab, aoff, rfl, habl, hAr⟩ := (hrow.below hBB).elem (fun y hy => (hok y hy).len) i hlt
          have hx := hok _ (List.getElem_mem hlt)
          obtain ⟨x, hxe⟩ : ∃ x, Hid (ys[i] = x) := ⟨_, hide rfl⟩
          rw [hxe.out] at hAr hx
          clear hxe
          have hq50 : x.cells.length = 50 := hx.len
          have hq1 := x.one
          have hiA : (Try.prog.info? 33).map (·.size) = some x.cells.length := by rw [hx.len]; exact iszA
          have hiD : (Try.prog.info? 29).map (·.size) = some (v8 x.x.d).length := by rw [v8_length, hx.x.dl]; exact iszD
          have hiT : (Try.prog.info? 31).map (·.size) = some (v8 x.x.t).length := by rw [v8_length, hx.x.tl]; exact iszT
          have pR : ∀ w' : World, w'.rangeAt wr.heap.size 0 x.cells → w'.cell? ⟨wr.heap.size, 0, none⟩ = some (.int .i64 x.n) ∧ w'.cell? ⟨wr.heap.size, 1, none⟩ = some (.int .i64 x.x.e) ∧ w'.rangeAt wr.heap.size 2 (v8 x.x.d) ∧ w'.rangeAt wr.heap.size 34 (v8 x.x.t) := fun w' hr => by
            have := Ac.parts hx hr
            simpa using this
          have cA := fun w' (h : MkAt w' B b i (n : Int) mm) => add_any B b i (n : Int) mm x.n x.x hx.x w' h (by omega)
          have cX := fun w' (h : XAt w' X E D T n mm) => xadd_any X E D T n mm x.n x.x hx.x w' h
          obtain ⟨mm2, hmm2⟩ : ∃ st2, Hid (addM (n : Int) mm x.n x.x = st2) := ⟨_, hide rfl⟩
          obtain ⟨ee, hee⟩ : ∃ st2, Hid (addE (n : Int) mm x.n x.x = st2) := ⟨_, hide rfl⟩
          simp only [hmm2.out, hee.out] at cA cX
          have cS := fun w' (h : MkAt w' B b (i + 1) (n : Int) mm2) => signs_any x.x.e x.x.d hx.x.dl need B b (i + 1) (n : Int) mm2 w' h
          have cY := fun w' (h : XAt w' X E D T n mm2) => xsigns_any X E D T n mm2 x.x.e x.x.d hx.x.dl need w' h
          have hsl : (signsP (n : Int) mm2 x.x.e x.x.d need).length ≤ 1000 := by
            unfold signsP
            have := sgs_len mm2 x.x.e x.x.d (n : Int).toNat
            split
            · simp
            · rw [List.length_take]
              omega
          generalize signsP (n : Int) mm2 x.x.e x.x.d need = rs at *
          obtain ⟨n0, e, d, t⟩ := x
          simp only at *
          obtain ⟨u, hu⟩ : ∃ u, Hid (v8 d = u) := ⟨_, hide rfl⟩
          obtain ⟨g, hg⟩ : ∃ g, Hid (v8 t = g) := ⟨_, hide rfl⟩
          obtain ⟨qc, hqc⟩ : ∃ q, Hid ((Ac.mk n0 ⟨e, d, t⟩).cells = q) := ⟨_, hide rfl⟩
          simp only [hu.out, hg.out, hqc.out] at cA cX cS cY pR hiD hiT hAr hq50 hq1 hiA
          clear hg hqc hx hu hmm2 hee
          have hbs := hBB.size
          have lX := hXx.lt
          have lE := hXx.ltE
          have lD := hXx.ltD
          have lT := hXx.ltT
          have lB := hM.lt
          have lb := hM.mp.lt
          go_upto_region 8 with fail
          try simp only [Act.put]
          refine pl_begin ?_
          refine pl_take (d := some 35) (v := ?_) (by rfl) ?_ rfl ?_
          rotate_left
          · go_simp
            try with_reducible rfl
          simp only [Act.put, List.setIfInBounds_toArray, List.set_cons_zero, List.set_cons_succ]
          refine pl_take (d := some 36) (v := .agg qc.toArray) (by rfl) (ex_mid rfl rfl hAr Try.underlying33 rfl hiA) rfl ?_
          simp only [Act.put, List.setIfInBounds_toArray, List.set_cons_zero, List.set_cons_succ]
          refine pl_run (d := some 10) (v := .pointer (some ⟨wr.heap.size, 0, none⟩)) (w' := wr.alloc (.cells za.toArray 33)) (by rfl) (ex_alloc rfl (hza _)) rfl ?_
          simp only [Act.put, List.setIfInBounds_toArray, List.set_cons_zero, List.set_cons_succ]
          refine pl_store (w' := (wr.alloc (.cells za.toArray 33)).setCells wr.heap.size 0 qc) (by rfl) (ex_put (cs := qc.toArray) rfl rfl rfl (there_newN _ _ _ (by simp [hza50, hq50])) (by simpa using hiA) (all_one hq1)) rfl ?_
          refine pl_nil ?_
          obtain ⟨w7, hw7⟩ : ∃ W, (wr.alloc (.cells za.toArray 33)).setCells wr.heap.size 0 qc = W := ⟨_, rfl⟩
          obtain ⟨hBw7, hRw7, hltw7, -⟩ := one_filled hw7 (by simp [hza50, hq50])
          rw [hw7]
          clear hw7
          have hM := hM.below hBw7
          have hXx := hXx.below hBw7
          have hBB := hBB.trans (hBw7.mono hbs)
          have hbs := hBB.size
          have hZs := hltw7
          go_upto_region 9 with fail
          have hS : SPl wr.heap.size qc w7.drew := (World.rangeAt_drew _ _ _ _).2 hRw7
          refine hs_begin (S := SPl wr.heap.size qc) 48 rfl (by kernel_rfl) ?_
          have hM := hM.drew
          have hXx := hXx.below (Below.refl _ _).drew
          have hBB := hBB.drew
          have hbs := hBB.size
          have hZs : wr.heap.size < w7.drew.heap.size := hZs
          obtain ⟨w8, hw8⟩ : ∃ W, w7.drew = W := ⟨_, rfl⟩
          rw [hw8] at hS hM hXx hBB hbs hZs ⊢
          clear hw8 hRw7 hltw7 hBw7 hAr hiA hq50 hq1
          refine hs_take (i := 0) (d := some 37) (v := ?_) rfl (by kernel_rfl) (by kernel_rfl) (by kernel_rfl) (by rfl) ?_ hS rfl ?_
          rotate_left
          · intro w' hw
            go_simp
            try with_reducible rfl
          simp only [Act.put, List.setIfInBounds_toArray, List.set_cons_zero, List.set_cons_succ]
          refine hs_take (i := 1) (d := some 38) (v := ?_) rfl (by kernel_rfl) (by kernel_rfl) (by kernel_rfl) (by rfl) ?_ hS rfl ?_
          rotate_left
          · intro w' hw
            go_simp
            try with_reducible rfl
          simp only [Act.put, List.setIfInBounds_toArray, List.set_cons_zero, List.set_cons_succ]
          refine hs_take (i := 2) (d := some 39) (v := .int .i64 n0) rfl (by kernel_rfl) (by kernel_rfl) (by kernel_rfl) (by rfl) (fun w' hw => pl_one rfl rfl (pR w' hw).1 Try.underlying3 rfl) hS rfl ?_
          simp only [Act.put, List.setIfInBounds_toArray, List.set_cons_zero, List.set_cons_succ]
          refine hs_take (i := 3) (d := some 40) (v := ?_) rfl (by kernel_rfl) (by kernel_rfl) (by kernel_rfl) (by rfl) ?_ hS rfl ?_
          rotate_left
          · intro w' hw
            go_simp
            try with_reducible rfl
          simp only [Act.put, List.setIfInBounds_toArray, List.set_cons_zero, List.set_cons_succ]
          refine hs_take (i := 4) (d := some 41) (v := .int .i64 e) rfl (by kernel_rfl) (by kernel_rfl) (by kernel_rfl) (by rfl) (fun w' hw => pl_one rfl rfl (pR w' hw).2.1 Try.underlying3 rfl) hS rfl ?_
          simp only [Act.put, List.setIfInBounds_toArray, List.set_cons_zero, List.set_cons_succ]
          refine hs_take (i := 5) (d := some 42) (v := ?_) rfl (by kernel_rfl) (by kernel_rfl) (by kernel_rfl) (by rfl) ?_ hS rfl ?_
          rotate_left
          · intro w' hw
            go_simp
            try with_reducible rfl
          simp only [Act.put, List.setIfInBounds_toArray, List.set_cons_zero, List.set_cons_succ]
          refine hs_take (i := 6) (d := some 43) (v := .agg u.toArray) rfl (by kernel_rfl) (by kernel_rfl) (by kernel_rfl) (by rfl) (fun w' hw => ex_mid rfl rfl (pR w' hw).2.2.1 Try.underlying29 rfl hiD) hS rfl ?_
          simp only [Act.put, List.setIfInBounds_toArray, List.set_cons_zero, List.set_cons_succ]
          refine hs_take (i := 7) (d := some 44) (v := ?_) rfl (by kernel_rfl) (by kernel_rfl) (by kernel_rfl) (by rfl) ?_ hS rfl ?_
          rotate_left
          · intro w' hw
            go_simp
            try with_reducible rfl
          simp only [Act.put, List.setIfInBounds_toArray, List.set_cons_zero, List.set_cons_succ]
          refine hs_take (i := 8) (d := some 45) (v := .agg g.toArray) rfl (by kernel_rfl) (by kernel_rfl) (by kernel_rfl) (by rfl) (fun w' hw => ex_mid rfl rfl (pR w' hw).2.2.2 Try.underlying31 rfl hiT) hS rfl ?_
          simp only [Act.put, List.setIfInBounds_toArray, List.set_cons_zero, List.set_cons_succ]
          refine hs_take (i := 10) (d := some 47) (v := ?_) rfl (by kernel_rfl) (by kernel_rfl) (by kernel_rfl) (by rfl) ?_ hS rfl ?_
          rotate_left
          · intro w' hw
            go_simp
            try with_reducible rfl
          simp only [Act.put, List.setIfInBounds_toArray, List.set_cons_zero, List.set_cons_succ]
          refine hs_take (i := 11) (d := some 48) (v := ?_) rfl (by kernel_rfl) (by kernel_rfl) (by kernel_rfl) (by rfl) ?_ hS rfl ?_
          rotate_left
          · intro w' hw
            go_simp
            try with_reducible rfl
          simp only [Act.put, List.setIfInBounds_toArray, List.set_cons_zero, List.set_cons_succ]
          refine hs_take (i := 12) (d := some 49) (v := .int .i64 n0) rfl (by kernel_rfl) (by kernel_rfl) (by kernel_rfl) (by rfl) (fun w' hw => pl_one rfl rfl (pR w' hw).1 Try.underlying3 rfl) hS rfl ?_
          simp only [Act.put, List.setIfInBounds_toArray, List.set_cons_zero, List.set_cons_succ]
          refine hs_take (i := 13) (d := some 50) (v := ?_) rfl (by kernel_rfl) (by kernel_rfl) (by kernel_rfl) (by rfl) ?_ hS rfl ?_
          rotate_left
          · intro w' hw
            go_simp
            try with_reducible rfl
          simp only [Act.put, List.setIfInBounds_toArray, List.set_cons_zero, List.set_cons_succ]
          refine hs_take (i := 14) (d := some 51) (v := .int .i64 e) rfl (by kernel_rfl) (by kernel_rfl) (by kernel_rfl) (by rfl) (fun w' hw => pl_one rfl rfl (pR w' hw).2.1 Try.underlying3 rfl) hS rfl ?_
          simp only [Act.put, List.setIfInBounds_toArray, List.set_cons_zero, List.set_cons_succ]
          refine hs_take (i := 15) (d := some 52) (v := ?_) rfl (by kernel_rfl) (by kernel_rfl) (by kernel_rfl) (by rfl) ?_ hS rfl ?_
          rotate_left
          · intro w' hw
            go_simp
            try with_reducible rfl
          simp only [Act.put, List.setIfInBounds_toArray, List.set_cons_zero, List.set_cons_succ]
          refine hs_take (i := 16) (d := some 53) (v := .agg u.toArray) rfl (by kernel_rfl) (by kernel_rfl) (by kernel_rfl) (by rfl) (fun w' hw => ex_mid rfl rfl (pR w' hw).2.2.1 Try.underlying29 rfl hiD) hS rfl ?_
          simp only [Act.put, List.setIfInBounds_toArray, List.set_cons_zero, List.set_cons_succ]
          refine hs_take (i := 17) (d := some 54) (v := ?_) rfl (by kernel_rfl) (by kernel_rfl) (by kernel_rfl) (by rfl) ?_ hS rfl ?_
          rotate_left
          · intro w' hw
            go_simp
            try with_reducible rfl
          simp only [Act.put, List.setIfInBounds_toArray, List.set_cons_zero, List.set_cons_succ]
          refine hs_take (i := 18) (d := some 55) (v := .agg g.toArray) rfl (by kernel_rfl) (by kernel_rfl) (by kernel_rfl) (by rfl) (fun w' hw => ex_mid rfl rfl (pR w' hw).2.2.2 Try.underlying31 rfl hiT) hS rfl ?_
          simp only [Act.put, List.setIfInBounds_toArray, List.set_cons_zero, List.set_cons_succ]
          refine hs_call (i := 9) (d := some 46) rfl (by kernel_rfl) (by rfl) (by go_simp; first | done | exact ⟨rfl, rfl⟩ | with_reducible rfl) rfl ?_
          refine (cA w8 hM).mono ?_
          rintro _ w9 ⟨rfl, hM9, hO9⟩
          have hS : SPl wr.heap.size qc w9 := range_at hS (hO9.2 _ hZs (by omega))
          have hXx := hXx.off hO9 (by omega) (by omega) (by omega) (by omega)
          have hBB := hBB.trans (hO9.below hbs (fun z hz q => by omega))
          have hbs := hBB.size
          have hZs : wr.heap.size < w9.heap.size := Nat.lt_of_lt_of_le hZs hO9.size
          have hM := hM9
          clear hM9 hO9
          refine ⟨_, rfl, hS, ?_⟩
          simp only [Act.put, List.setIfInBounds_toArray, List.set_cons_zero, List.set_cons_succ]
          refine hs_call (i := 19) (d := some 56) rfl (by kernel_rfl) (by rfl) (by go_simp; first | done | exact ⟨rfl, rfl⟩ | with_reducible rfl) rfl ?_
          refine (cX w9 hXx).mono ?_
          rintro _ w10 ⟨rfl, hX10, hO10⟩
          have hS : SPl wr.heap.size qc w10 := range_at hS (hO10.2 _ hZs (by unfold F3; omega))
          have hM := hM.off hO10 (by unfold F3; omega) (by unfold F3; omega)
          have hBB := hBB.trans (hO10.below hbs (fun z hz q => by unfold F3 at q; omega))
          have hbs := hBB.size
          have hZs : wr.heap.size < w10.heap.size := Nat.lt_of_lt_of_le hZs hO10.size
          have hXx := hX10
          clear hX10 hO10
          refine ⟨_, rfl, hS, ?_⟩
          simp only [Act.put, List.setIfInBounds_toArray, List.set_cons_zero, List.set_cons_succ]
          refine hs_take (i := 20) (d := some 57) (v := .bool false) rfl (by kernel_rfl) (by kernel_rfl) (by kernel_rfl) (by rfl) (fun w' hw => by go_simp) hS rfl ?_
          simp only [Act.put, List.setIfInBounds_toArray, List.set_cons_zero, List.set_cons_succ]
          refine hs_take (i := 21) (d := some 58) (v := ?_) rfl (by kernel_rfl) (by kernel_rfl) (by kernel_rfl) (by rfl) ?_ hS rfl ?_
          rotate_left
          · intro w' hw
            go_simp
            try with_reducible rfl
          simp only [Act.put, List.setIfInBounds_toArray, List.set_cons_zero, List.set_cons_succ]
          refine hs_take (i := 22) (d := some 59) (v := ?_) rfl (by kernel_rfl) (by kernel_rfl) (by kernel_rfl) (by rfl) ?_ hS rfl ?_
          rotate_left
          · intro w' hw
            go_simp
            try with_reducible rfl
          simp only [Act.put, List.setIfInBounds_toArray, List.set_cons_zero, List.set_cons_succ]
          refine hs_take (i := 23) (d := some 60) (v := ?_) rfl (by kernel_rfl) (by kernel_rfl) (by kernel_rfl) (by rfl) ?_ hS rfl ?_
          rotate_left
          · intro w' hw
            go_simp
            try with_reducible rfl
          simp only [Act.put, List.setIfInBounds_toArray, List.set_cons_zero, List.set_cons_succ]
          refine hs_take (i := 25) (d := some 62) (v := ?_) rfl (by kernel_rfl) (by kernel_rfl) (by kernel_rfl) (by rfl) ?_ hS rfl ?_
          rotate_left
          · intro w' hw
            go_simp
            try with_reducible rfl
          simp only [Act.put, List.setIfInBounds_toArray, List.set_cons_zero, List.set_cons_succ]
          refine hs_take (i := 26) (d := some 63) (v := ?_) rfl (by kernel_rfl) (by kernel_rfl) (by kernel_rfl) (by rfl) ?_ hS rfl ?_
          rotate_left
          · intro w' hw
            go_simp
            try with_reducible rfl
          simp only [Act.put, List.setIfInBounds_toArray, List.set_cons_zero, List.set_cons_succ]
          refine hs_call (i := 24) (d := some 61) rfl (by kernel_rfl) (by rfl) (by go_simp; first | done | exact ⟨rfl, rfl⟩ | with_reducible rfl) rfl ?_
          refine (last_any B b _ _ mm2 need w10 hM).mono ?_
          rintro _ w11 ⟨rfl, hB11⟩
          have hS : SPl wr.heap.size qc w11 := range_below hS hB11 (by omega)
          have hM := hM.below hB11
          have hXx := hXx.below hB11
          have hBB := hBB.trans (hB11.mono hbs)
          have hbs := hBB.size
          have hZs : wr.heap.size < w11.heap.size := Nat.lt_of_lt_of_le hZs hB11.size
          clear hB11
          refine ⟨_, rfl, hS, ?_⟩
          simp only [Act.put, List.setIfInBounds_toArray, List.set_cons_zero, List.set_cons_succ]
          refine hs_call (i := 27) (d := some 64) rfl (by kernel_rfl) (by rfl) (by go_simp; first | done | exact ⟨rfl, rfl⟩ | with_reducible rfl) rfl ?_
          refine (xlast_any X E D T n mm2 need w11 hXx).mono ?_
          rintro _ w12 ⟨rfl, hB12⟩
          have hS : SPl wr.heap.size qc w12 := range_below hS hB12 (by omega)
          have hM := hM.below hB12
          have hXx := hXx.below hB12
          have hBB := hBB.trans (hB12.mono hbs)
          have hbs := hBB.size
          have hZs : wr.heap.size < w12.heap.size := Nat.lt_of_lt_of_le hZs hB12.size
          clear hB12
          refine ⟨_, rfl, hS, ?_⟩
          simp only [Act.put, List.setIfInBounds_toArray, List.set_cons_zero, List.set_cons_succ]
          refine hs_take (i := 28) (d := some 65) (v := .bool false) rfl (by kernel_rfl) (by kernel_rfl) (by kernel_rfl) (by rfl) (fun w' hw => by go_simp) hS rfl ?_
          simp only [Act.put, List.setIfInBounds_toArray, List.set_cons_zero, List.set_cons_succ]
          refine hs_take (i := 29) (d := some 66) (v := ?_) rfl (by kernel_rfl) (by kernel_rfl) (by kernel_rfl) (by rfl) ?_ hS rfl ?_
          rotate_left
          · intro w' hw
            go_simp
            try with_reducible rfl
          simp only [Act.put, List.setIfInBounds_toArray, List.set_cons_zero, List.set_cons_succ]
          refine hs_take (i := 30) (d := some 67) (v := ?_) rfl (by kernel_rfl) (by kernel_rfl) (by kernel_rfl) (by rfl) ?_ hS rfl ?_
          rotate_left
          · intro w' hw
            go_simp
            try with_reducible rfl
          simp only [Act.put, List.setIfInBounds_toArray, List.set_cons_zero, List.set_cons_succ]
          refine hs_take (i := 31) (d := some 68) (v := ?_) rfl (by kernel_rfl) (by kernel_rfl) (by kernel_rfl) (by rfl) ?_ hS rfl ?_
          rotate_left
          · intro w' hw
            go_simp
            try with_reducible rfl
          simp only [Act.put, List.setIfInBounds_toArray, List.set_cons_zero, List.set_cons_succ]
          refine hs_take (i := 32) (d := some 69) (v := ?_) rfl (by kernel_rfl) (by kernel_rfl) (by kernel_rfl) (by rfl) ?_ hS rfl ?_
          rotate_left
          · intro w' hw
            go_simp
            try with_reducible rfl
          simp only [Act.put, List.setIfInBounds_toArray, List.set_cons_zero, List.set_cons_succ]
          refine hs_take (i := 33) (d := some 70) (v := .int .i64 e) rfl (by kernel_rfl) (by kernel_rfl) (by kernel_rfl) (by rfl) (fun w' hw => pl_one rfl rfl (pR w' hw).2.1 Try.underlying3 rfl) hS rfl ?_
          simp only [Act.put, List.setIfInBounds_toArray, List.set_cons_zero, List.set_cons_succ]
          refine hs_take (i := 34) (d := some 71) (v := ?_) rfl (by kernel_rfl) (by kernel_rfl) (by kernel_rfl) (by rfl) ?_ hS rfl ?_
          rotate_left
          · intro w' hw
            go_simp
            try with_reducible rfl
          simp only [Act.put, List.setIfInBounds_toArray, List.set_cons_zero, List.set_cons_succ]
          refine hs_take (i := 35) (d := some 72) (v := .agg u.toArray) rfl (by kernel_rfl) (by kernel_rfl) (by kernel_rfl) (by rfl) (fun w' hw => ex_mid rfl rfl (pR w' hw).2.2.1 Try.underlying29 rfl hiD) hS rfl ?_
          simp only [Act.put, List.setIfInBounds_toArray, List.set_cons_zero, List.set_cons_succ]
          refine hs_take (i := 36) (d := some 73) (v := ?_) rfl (by kernel_rfl) (by kernel_rfl) (by kernel_rfl) (by rfl) ?_ hS rfl ?_
          rotate_left
          · intro w' hw
            go_simp
            try with_reducible rfl
          simp only [Act.put, List.setIfInBounds_toArray, List.set_cons_zero, List.set_cons_succ]
          refine hs_take (i := 38) (d := some 75) (v := ?_) rfl (by kernel_rfl) (by kernel_rfl) (by kernel_rfl) (by rfl) ?_ hS rfl ?_
          rotate_left
          · intro w' hw
            go_simp
            try with_reducible rfl
          simp only [Act.put, List.setIfInBounds_toArray, List.set_cons_zero, List.set_cons_succ]
          refine hs_take (i := 39) (d := some 76) (v := ?_) rfl (by kernel_rfl) (by kernel_rfl) (by kernel_rfl) (by rfl) ?_ hS rfl ?_
          rotate_left
          · intro w' hw
            go_simp
            try with_reducible rfl
          simp only [Act.put, List.setIfInBounds_toArray, List.set_cons_zero, List.set_cons_succ]
          refine hs_take (i := 40) (d := some 77) (v := .int .i64 e) rfl (by kernel_rfl) (by kernel_rfl) (by kernel_rfl) (by rfl) (fun w' hw => pl_one rfl rfl (pR w' hw).2.1 Try.underlying3 rfl) hS rfl ?_
          simp only [Act.put, List.setIfInBounds_toArray, List.set_cons_zero, List.set_cons_succ]
          refine hs_take (i := 41) (d := some 78) (v := ?_) rfl (by kernel_rfl) (by kernel_rfl) (by kernel_rfl) (by rfl) ?_ hS rfl ?_
          rotate_left
          · intro w' hw
            go_simp
            try with_reducible rfl
          simp only [Act.put, List.setIfInBounds_toArray, List.set_cons_zero, List.set_cons_succ]
          refine hs_take (i := 42) (d := some 79) (v := .agg u.toArray) rfl (by kernel_rfl) (by kernel_rfl) (by kernel_rfl) (by rfl) (fun w' hw => ex_mid rfl rfl (pR w' hw).2.2.1 Try.underlying29 rfl hiD) hS rfl ?_
          simp only [Act.put, List.setIfInBounds_toArray, List.set_cons_zero, List.set_cons_succ]
          refine hs_take (i := 43) (d := some 80) (v := ?_) rfl (by kernel_rfl) (by kernel_rfl) (by kernel_rfl) (by rfl) ?_ hS rfl ?_
          rotate_left
          · intro w' hw
            go_simp
            try with_reducible rfl
          simp only [Act.put, List.setIfInBounds_toArray, List.set_cons_zero, List.set_cons_succ]
          refine hs_call (i := 37) (d := some 74) rfl (by kernel_rfl) (by rfl) (by go_simp; first | done | exact ⟨rfl, rfl⟩ | with_reducible rfl) rfl ?_
          refine (cS w12 hM).mono ?_
          rintro _ w13 ⟨a13, c13, rfl, hs13, hc13, hB13⟩
          have hS : SPl wr.heap.size qc w13 := range_below hS hB13 (by omega)
          have hM := hM.below hB13
          have hXx := hXx.below hB13
          have hBB := hBB.trans (hB13.mono hbs)
          have hbs := hBB.size
          have hZs : wr.heap.size < w13.heap.size := Nat.lt_of_lt_of_le hZs hB13.size
          clear hB13
          refine ⟨_, rfl, hS, ?_⟩
          simp only [Act.put, List.setIfInBounds_toArray, List.set_cons_zero, List.set_cons_succ]
          refine hs_call (i := 44) (d := some 81) rfl (by kernel_rfl) (by rfl) (by go_simp; first | done | exact ⟨rfl, rfl⟩ | with_reducible rfl) rfl ?_
          refine (cY w13 hXx).mono ?_
          rintro _ w14 ⟨a14, c14, rfl, hs14, hc14, hB14⟩
          have hS : SPl wr.heap.size qc w14 := range_below hS hB14 (by omega)
          have hM := hM.below hB14
          have hXx := hXx.below hB14
          have hBB := hBB.trans (hB14.mono hbs)
          have hbs := hBB.size
          have hZs : wr.heap.size < w14.heap.size := Nat.lt_of_lt_of_le hZs hB14.size
          have hs13 := hs13.below hB14
          clear hB14
          refine ⟨_, rfl, hS, ?_⟩
          simp only [Act.put, List.setIfInBounds_toArray, List.set_cons_zero, List.set_cons_succ]
          refine hs_call (i := 45) (d := some 82) rfl (by kernel_rfl) (by rfl) (by go_simp; first | done | exact ⟨rfl, rfl⟩ | with_reducible rfl) rfl ?_
          refine (xsame5_any a13 a14 c13 c14 _ hsl w14 hs13 hs14).mono ?_
          rintro _ w15 ⟨rfl, hB15⟩
          have hS : SPl wr.heap.size qc w15 := range_below hS hB15 (by omega)
          have hM := hM.below hB15
          have hXx := hXx.below hB15
          have hBB := hBB.trans (hB15.mono hbs)
          have hbs := hBB.size
          have hZs : wr.heap.size < w15.heap.size := Nat.lt_of_lt_of_le hZs hB15.size
          clear hB15 hs13 hs14
          refine ⟨_, rfl, hS, ?_⟩
          simp only [Act.put, List.setIfInBounds_toArray, List.set_cons_zero, List.set_cons_succ]
          refine hs_take (i := 46) (d := some 83) (v := .bool false) rfl (by kernel_rfl) (by kernel_rfl) (by kernel_rfl) (by rfl) (fun w' hw => by go_simp) hS rfl ?_
          simp only [Act.put, List.setIfInBounds_toArray, List.set_cons_zero, List.set_cons_succ]
          refine hs_take (i := 47) (d := some 84) (v := .bool false) rfl (by kernel_rfl) (by kernel_rfl) (by kernel_rfl) (by rfl) (fun w' hw => by go_simp) hS rfl ?_
          simp only [Act.put, List.setIfInBounds_toArray, List.set_cons_zero, List.set_cons_succ]
          refine hs_done (by kernel_rfl) ?_
          clear cA cX cS cY pR hS hiD hiT
          obtain ⟨W0, hW0⟩ : ∃ W0, w15 = W0 := ⟨_, rfl⟩
          rw [hW0] at hM hXx hBB hbs hZs ⊢
          clear hW0
          go_wp2_with fail
          go_loopw [11] (fun iv wq => ∃ z : Int, -1 ≤ z ∧ z ≤ (n : Int) + 1 ∧ iv = .int .i64 z ∧ Hid (Below W0.heap.size W0 wq)) (fun iv _ => ((n : Int) + 1 - intOf iv).toNat)
          case atStart => exact ⟨-1, by omega, by omega, rfl, hide (Below.refl _ _)⟩
          case round =>
            obtain ⟨z, hz1, hz2, rfl, HBq⟩ := hrel
            have hBq := HBq.out
            clear HBq
            by_cases hzn : z ≤ (n : Int)
            · have hz64 : I64 z := by unfold I64; omega
              have hM := hM.below hBq
              have hXx := hXx.below hBq
              by_cases hzo : z < 0
              · have hbd := build_d0
                have hyz := mm_out hM (z := z) (by omega)
                have hof := of_yes B b _ _ mm2 z hz64 wr hM
                have e1 : (mm2 z).getD mk0 = wasOf mm2 z := rfl
                rw [e1, hyz] at hof
                have hnn := fun w' => neqD d0 d0 (by decide) (by decide) w'
                have hb0 : (!(d0 == d0)) = false := by decide
                simp only [hb0] at hnn
                have hyd32 : (v8 d0).length = 32 := by decide
                have hyd1 := v8_one d0
                have hiyd : (Try.prog.info? 29).map (·.size) = some (v8 d0).length := by rw [hyd32]; exact iszD
                have hof : Calls Try.prog 16 #[.pointer (some ⟨B, 0, none⟩), .int .i64 z] wr fun e w' => e = .returned (.tuple #[.int .i64 0, .agg (v8 d0).toArray]) ∧ Below wr.heap.size wr w' := hof
                obtain ⟨yd, hyd⟩ : ∃ u, Hid (v8 d0 = u) := ⟨_, hide rfl⟩
                simp only [hyd.out] at hof hbd hnn hyd32 hyd1 hiyd
                clear hyd hyz e1 hb0
                go_upto_region 14 with fail
                try simp only [Act.put]
                refine pl_begin ?_
                refine pl_take (d := some 91) (v := ?_) (by rfl) ?_ rfl ?_
                rotate_left
                · go_simp
                  try with_reducible rfl
                simp only [Act.put, List.setIfInBounds_toArray, List.set_cons_zero, List.set_cons_succ]
                refine pl_take (d := some 92) (v := ?_) (by rfl) ?_ rfl ?_
                rotate_left
                · go_simp
                  try with_reducible rfl
                simp only [Act.put, List.setIfInBounds_toArray, List.set_cons_zero, List.set_cons_succ]
                refine pl_call (d := some 93) (by rfl) (by go_simp; first | done | exact ⟨rfl, rfl⟩ | with_reducible rfl) rfl ?_
                refine (hof).mono ?_
                rintro _ w17 ⟨rfl, hB17⟩
                refine ⟨_, rfl, ?_⟩
                simp only [Act.put, List.setIfInBounds_toArray, List.set_cons_zero, List.set_cons_succ]
                refine pl_take (d := some 90) (v := ?_) (by rfl) ?_ rfl ?_
                rotate_left
                · go_simp
                  try with_reducible rfl
                simp only [Act.put, List.setIfInBounds_toArray, List.set_cons_zero, List.set_cons_succ]
                refine pl_take (d := some 94) (v := ?_) (by rfl) ?_ rfl ?_
                rotate_left
                · go_simp
                  try with_reducible rfl
                simp only [Act.put, List.setIfInBounds_toArray, List.set_cons_zero, List.set_cons_succ]
                refine pl_take (d := some 95) (v := ?_) (by rfl) ?_ rfl ?_
                rotate_left
                · go_simp
                  try with_reducible rfl
                simp only [Act.put, List.setIfInBounds_toArray, List.set_cons_zero, List.set_cons_succ]
                refine pl_run (d := some 13) (v := .pointer (some ⟨w17.heap.size, 0, none⟩)) (w' := w17.alloc (.cells zd.toArray 29)) (by rfl) (ex_alloc rfl (hzd _)) rfl ?_
                simp only [Act.put, List.setIfInBounds_toArray, List.set_cons_zero, List.set_cons_succ]
                refine pl_take (d := some 12) (v := ?_) (by rfl) ?_ rfl ?_
                rotate_left
                · go_simp
                  try with_reducible rfl
                simp only [Act.put, List.setIfInBounds_toArray, List.set_cons_zero, List.set_cons_succ]
                refine pl_store (w' := (w17.alloc (.cells zd.toArray 29)).setCells w17.heap.size 0 yd) (by rfl) (ex_put (cs := yd.toArray) rfl rfl rfl (there_newN _ _ _ (by simp [hzd32, hyd32])) (by simpa using hiyd) (all_one hyd1)) rfl ?_
                refine pl_nil ?_
                obtain ⟨hF1, hF2, hF3, -⟩ := fresh_store w17 zd.toArray 29 yd (by simp [hzd32, hyd32])
                obtain ⟨w18, hw18⟩ : ∃ W, (w17.alloc (.cells zd.toArray 29)).setCells w17.heap.size 0 yd = W := ⟨_, rfl⟩
                rw [hw18] at hF1 hF2 hF3 ⊢
                clear hw18
                have hB18 := hB17.trans (hF2.mono hB17.size)
                have hB19 := hB18
                go_upto_region 16 with fail
                try simp only [Act.put]
                refine pl_begin ?_
                refine pl_take (d := some 103) (v := ?_) (by rfl) ?_ rfl ?_
                rotate_left
                · go_simp
                  try with_reducible rfl
                simp only [Act.put, List.setIfInBounds_toArray, List.set_cons_zero, List.set_cons_succ]
                refine pl_take (d := some 104) (v := .bool false) (by rfl) (by go_simp) rfl ?_
                simp only [Act.put, List.setIfInBounds_toArray, List.set_cons_zero, List.set_cons_succ]
                refine pl_take (d := some 105) (v := ?_) (by rfl) ?_ rfl ?_
                rotate_left
                · go_simp
                  try with_reducible rfl
                simp only [Act.put, List.setIfInBounds_toArray, List.set_cons_zero, List.set_cons_succ]
                refine pl_take (d := some 106) (v := .agg yd.toArray) (by rfl) (ex_mid rfl rfl hF1 Try.underlying29 rfl hiyd) rfl ?_
                simp only [Act.put, List.setIfInBounds_toArray, List.set_cons_zero, List.set_cons_succ]
                refine pl_take (d := some 107) (v := .agg yd.toArray) (by rfl) (ex_build (parts := []) rfl rfl (hbd w18)) rfl ?_
                simp only [Act.put, List.setIfInBounds_toArray, List.set_cons_zero, List.set_cons_succ]
                refine pl_take (d := some 108) (v := .bool false) (by rfl) (ex_bin rfl rfl rfl (by kernel_rfl) (hnn w18)) rfl ?_
                simp only [Act.put, List.setIfInBounds_toArray, List.set_cons_zero, List.set_cons_succ]
                refine pl_take (d := some 109) (v := .bool false) (by rfl) (by go_simp) rfl ?_
                simp only [Act.put, List.setIfInBounds_toArray, List.set_cons_zero, List.set_cons_succ]
                refine pl_nil ?_
                have HN := hide (hBq.trans (hB19.mono hBq.size))
                go_wp2_with fail
                go_roundw
                case rel => exact ⟨z + 1, by omega, by omega, by go_num, HN⟩
                case measure => simp [intOf]; omega
              · by_cases hzo2 : (n : Int) ≤ z
                · have hbd := build_d0
                  have hyz := mm_out hM (z := z) (by omega)
                  have hof := of_yes B b _ _ mm2 z hz64 wr hM
                  have e1 : (mm2 z).getD mk0 = wasOf mm2 z := rfl
                  rw [e1, hyz] at hof
                  have hnn := fun w' => neqD d0 d0 (by decide) (by decide) w'
                  have hb0 : (!(d0 == d0)) = false := by decide
                  simp only [hb0] at hnn
                  have hyd32 : (v8 d0).length = 32 := by decide
                  have hyd1 := v8_one d0
                  have hiyd : (Try.prog.info? 29).map (·.size) = some (v8 d0).length := by rw [hyd32]; exact iszD
                  have hof : Calls Try.prog 16 #[.pointer (some ⟨B, 0, none⟩), .int .i64 z] wr fun e w' => e = .returned (.tuple #[.int .i64 0, .agg (v8 d0).toArray]) ∧ Below wr.heap.size wr w' := hof
                  obtain ⟨yd, hyd⟩ : ∃ u, Hid (v8 d0 = u) := ⟨_, hide rfl⟩
                  simp only [hyd.out] at hof hbd hnn hyd32 hyd1 hiyd
                  clear hyd hyz e1 hb0
                  go_upto_region 14 with fail
                  try simp only [Act.put]
                  refine pl_begin ?_
                  refine pl_take (d := some 91) (v := ?_) (by rfl) ?_ rfl ?_
                  rotate_left
                  · go_simp
                    try with_reducible rfl
                  simp only [Act.put, List.setIfInBounds_toArray, List.set_cons_zero, List.set_cons_succ]
                  refine pl_take (d := some 92) (v := ?_) (by rfl) ?_ rfl ?_
                  rotate_left
                  · go_simp
                    try with_reducible rfl
                  simp only [Act.put, List.setIfInBounds_toArray, List.set_cons_zero, List.set_cons_succ]
                  refine pl_call (d := some 93) (by rfl) (by go_simp; first | done | exact ⟨rfl, rfl⟩ | with_reducible rfl) rfl ?_
                  refine (hof).mono ?_
                  rintro _ w17 ⟨rfl, hB17⟩
                  refine ⟨_, rfl, ?_⟩
                  simp only [Act.put, List.setIfInBounds_toArray, List.set_cons_zero, List.set_cons_succ]
                  refine pl_take (d := some 90) (v := ?_) (by rfl) ?_ rfl ?_
                  rotate_left
                  · go_simp
                    try with_reducible rfl
                  simp only [Act.put, List.setIfInBounds_toArray, List.set_cons_zero, List.set_cons_succ]
                  refine pl_take (d := some 94) (v := ?_) (by rfl) ?_ rfl ?_
                  rotate_left
                  · go_simp
                    try with_reducible rfl
                  simp only [Act.put, List.setIfInBounds_toArray, List.set_cons_zero, List.set_cons_succ]
                  refine pl_take (d := some 95) (v := ?_) (by rfl) ?_ rfl ?_
                  rotate_left
                  · go_simp
                    try with_reducible rfl
                  simp only [Act.put, List.setIfInBounds_toArray, List.set_cons_zero, List.set_cons_succ]
                  refine pl_run (d := some 13) (v := .pointer (some ⟨w17.heap.size, 0, none⟩)) (w' := w17.alloc (.cells zd.toArray 29)) (by rfl) (ex_alloc rfl (hzd _)) rfl ?_
                  simp only [Act.put, List.setIfInBounds_toArray, List.set_cons_zero, List.set_cons_succ]
                  refine pl_take (d := some 12) (v := ?_) (by rfl) ?_ rfl ?_
                  rotate_left
                  · go_simp
                    try with_reducible rfl
                  simp only [Act.put, List.setIfInBounds_toArray, List.set_cons_zero, List.set_cons_succ]
                  refine pl_store (w' := (w17.alloc (.cells zd.toArray 29)).setCells w17.heap.size 0 yd) (by rfl) (ex_put (cs := yd.toArray) rfl rfl rfl (there_newN _ _ _ (by simp [hzd32, hyd32])) (by simpa using hiyd) (all_one hyd1)) rfl ?_
                  refine pl_nil ?_
                  obtain ⟨hF1, hF2, hF3, -⟩ := fresh_store w17 zd.toArray 29 yd (by simp [hzd32, hyd32])
                  obtain ⟨w18, hw18⟩ : ∃ W, (w17.alloc (.cells zd.toArray 29)).setCells w17.heap.size 0 yd = W := ⟨_, rfl⟩
                  rw [hw18] at hF1 hF2 hF3 ⊢
                  clear hw18
                  have hB18 := hB17.trans (hF2.mono hB17.size)
                  have hB19 := hB18
                  go_upto_region 16 with fail
                  try simp only [Act.put]
                  refine pl_begin ?_
                  refine pl_take (d := some 103) (v := ?_) (by rfl) ?_ rfl ?_
                  rotate_left
                  · go_simp
                    try with_reducible rfl
                  simp only [Act.put, List.setIfInBounds_toArray, List.set_cons_zero, List.set_cons_succ]
                  refine pl_take (d := some 104) (v := .bool false) (by rfl) (by go_simp) rfl ?_
                  simp only [Act.put, List.setIfInBounds_toArray, List.set_cons_zero, List.set_cons_succ]
                  refine pl_take (d := some 105) (v := ?_) (by rfl) ?_ rfl ?_
                  rotate_left
                  · go_simp
                    try with_reducible rfl
                  simp only [Act.put, List.setIfInBounds_toArray, List.set_cons_zero, List.set_cons_succ]
                  refine pl_take (d := some 106) (v := .agg yd.toArray) (by rfl) (ex_mid rfl rfl hF1 Try.underlying29 rfl hiyd) rfl ?_
                  simp only [Act.put, List.setIfInBounds_toArray, List.set_cons_zero, List.set_cons_succ]
                  refine pl_take (d := some 107) (v := .agg yd.toArray) (by rfl) (ex_build (parts := []) rfl rfl (hbd w18)) rfl ?_
                  simp only [Act.put, List.setIfInBounds_toArray, List.set_cons_zero, List.set_cons_succ]
                  refine pl_take (d := some 108) (v := .bool false) (by rfl) (ex_bin rfl rfl rfl (by kernel_rfl) (hnn w18)) rfl ?_
                  simp only [Act.put, List.setIfInBounds_toArray, List.set_cons_zero, List.set_cons_succ]
                  refine pl_take (d := some 109) (v := .bool false) (by rfl) (by go_simp) rfl ?_
                  simp only [Act.put, List.setIfInBounds_toArray, List.set_cons_zero, List.set_cons_succ]
                  refine pl_nil ?_
                  have HN := hide (hBq.trans (hB19.mono hBq.size))
                  go_wp2_with fail
                  go_roundw
                  case rel => exact ⟨z + 1, by omega, by omega, by go_num, HN⟩
                  case measure => simp [intOf]; omega
                · obtain ⟨i2, rfl⟩ := Int.eq_ofNat_of_zero_le (show 0 ≤ z by omega)
                  have hi2 : i2 < n := by omega
                  have hof := of_yes B b _ _ mm2 (i2 : Int) hz64 wr hM
                  have e1 : (mm2 (i2 : Int)).getD mk0 = wasOf mm2 (i2 : Int) := rfl
                  rw [e1] at hof
                  have hyo := hXx.was (i2 : Int)
                  have hrE : ∀ w', XAt w' X E D T n mm2 → w'.cell? ⟨E, i2, none⟩ = some (.int .i64 (wasOf mm2 (i2 : Int)).e) := fun w' q => q.rE i2 hi2
                  have hrD : ∀ w', XAt w' X E D T n mm2 → w'.rangeAt D (i2 * 32) (v8 (wasOf mm2 (i2 : Int)).d) := fun w' q => q.rD i2 hi2
                  generalize wasOf mm2 (i2 : Int) = yy at *
                  clear e1
                  obtain ⟨ye, yd0, yt⟩ := yy
                  simp only at *
                  have hnn := fun w' => neqD yd0 yd0 hyo.dl hyo.dl w'
                  have hb0 : (!(yd0 == yd0)) = false := by simp
                  simp only [hb0] at hnn
                  have hyd32 : (v8 yd0).length = 32 := by rw [v8_length]; exact hyo.dl
                  have hyd1 := v8_one yd0
                  have hiyd : (Try.prog.info? 29).map (·.size) = some (v8 yd0).length := by rw [hyd32]; exact iszD
                  obtain ⟨yd, hyd⟩ : ∃ u, Hid (v8 yd0 = u) := ⟨_, hide rfl⟩
                  simp only [hyd.out] at hof hrD hnn hyd32 hyd1 hiyd
                  clear hyd hb0 hyo
                  go_upto_region 14 with fail
                  try simp only [Act.put]
                  refine pl_begin ?_
                  refine pl_take (d := some 91) (v := ?_) (by rfl) ?_ rfl ?_
                  rotate_left
                  · go_simp
                    try with_reducible rfl
                  simp only [Act.put, List.setIfInBounds_toArray, List.set_cons_zero, List.set_cons_succ]
                  refine pl_take (d := some 92) (v := ?_) (by rfl) ?_ rfl ?_
                  rotate_left
                  · go_simp
                    try with_reducible rfl
                  simp only [Act.put, List.setIfInBounds_toArray, List.set_cons_zero, List.set_cons_succ]
                  refine pl_call (d := some 93) (by rfl) (by go_simp; first | done | exact ⟨rfl, rfl⟩ | with_reducible rfl) rfl ?_
                  refine (hof).mono ?_
                  rintro _ w17 ⟨rfl, hB17⟩
                  refine ⟨_, rfl, ?_⟩
                  simp only [Act.put, List.setIfInBounds_toArray, List.set_cons_zero, List.set_cons_succ]
                  refine pl_take (d := some 90) (v := ?_) (by rfl) ?_ rfl ?_
                  rotate_left
                  · go_simp
                    try with_reducible rfl
                  simp only [Act.put, List.setIfInBounds_toArray, List.set_cons_zero, List.set_cons_succ]
                  refine pl_take (d := some 94) (v := ?_) (by rfl) ?_ rfl ?_
                  rotate_left
                  · go_simp
                    try with_reducible rfl
                  simp only [Act.put, List.setIfInBounds_toArray, List.set_cons_zero, List.set_cons_succ]
                  refine pl_take (d := some 95) (v := ?_) (by rfl) ?_ rfl ?_
                  rotate_left
                  · go_simp
                    try with_reducible rfl
                  simp only [Act.put, List.setIfInBounds_toArray, List.set_cons_zero, List.set_cons_succ]
                  refine pl_run (d := some 13) (v := .pointer (some ⟨w17.heap.size, 0, none⟩)) (w' := w17.alloc (.cells zd.toArray 29)) (by rfl) (ex_alloc rfl (hzd _)) rfl ?_
                  simp only [Act.put, List.setIfInBounds_toArray, List.set_cons_zero, List.set_cons_succ]
                  refine pl_take (d := some 12) (v := ?_) (by rfl) ?_ rfl ?_
                  rotate_left
                  · go_simp
                    try with_reducible rfl
                  simp only [Act.put, List.setIfInBounds_toArray, List.set_cons_zero, List.set_cons_succ]
                  refine pl_store (w' := (w17.alloc (.cells zd.toArray 29)).setCells w17.heap.size 0 yd) (by rfl) (ex_put (cs := yd.toArray) rfl rfl rfl (there_newN _ _ _ (by simp [hzd32, hyd32])) (by simpa using hiyd) (all_one hyd1)) rfl ?_
                  refine pl_nil ?_
                  obtain ⟨hF1, hF2, hF3, -⟩ := fresh_store w17 zd.toArray 29 yd (by simp [hzd32, hyd32])
                  obtain ⟨w18, hw18⟩ : ∃ W, (w17.alloc (.cells zd.toArray 29)).setCells w17.heap.size 0 yd = W := ⟨_, rfl⟩
                  rw [hw18] at hF1 hF2 hF3 ⊢
                  clear hw18
                  have hB18 := hB17.trans (hF2.mono hB17.size)
                  have hX18 := hXx.below hB18
                  go_upto_region 18 with fail
                  have hS : SXs X E D T n mm2 w17.heap.size yd w18.drew := ⟨hX18.below (Below.refl _ _).drew, (World.rangeAt_drew _ _ _ _).2 hF1⟩
                  have hB19 := hB18.drew
                  refine hs_begin (S := SXs X E D T n mm2 w17.heap.size yd) 20 rfl (by kernel_rfl) ?_
                  obtain ⟨w19, hw19⟩ : ∃ W, w18.drew = W := ⟨_, rfl⟩
                  rw [hw19] at hS hB19 ⊢
                  clear hw19
                  refine hs_take (i := 0) (d := some 110) (v := ?_) rfl (by kernel_rfl) (by kernel_rfl) (by kernel_rfl) (by rfl) ?_ hS rfl ?_
                  rotate_left
                  · intro w' hw
                    go_simp
                    try with_reducible rfl
                  simp only [Act.put, List.setIfInBounds_toArray, List.set_cons_zero, List.set_cons_succ]
                  refine hs_take (i := 1) (d := some 111) (v := ?_) rfl (by kernel_rfl) (by kernel_rfl) (by kernel_rfl) (by rfl) ?_ hS rfl ?_
                  rotate_left
                  · intro w' hw
                    go_simp
                    try with_reducible rfl
                  simp only [Act.put, List.setIfInBounds_toArray, List.set_cons_zero, List.set_cons_succ]
                  refine hs_take (i := 2) (d := some 112) (v := ?_) rfl (by kernel_rfl) (by kernel_rfl) (by kernel_rfl) (by rfl) ?_ hS rfl ?_
                  rotate_left
                  · intro w' hw
                    go_simp
                    try with_reducible rfl
                  simp only [Act.put, List.setIfInBounds_toArray, List.set_cons_zero, List.set_cons_succ]
                  refine hs_take (i := 3) (d := some 113) (v := ?_) rfl (by kernel_rfl) (by kernel_rfl) (by kernel_rfl) (by rfl) ?_ hS rfl ?_
                  rotate_left
                  · intro w' hw
                    go_simp
                    try with_reducible rfl
                  simp only [Act.put, List.setIfInBounds_toArray, List.set_cons_zero, List.set_cons_succ]
                  refine hs_take (i := 4) (d := some 114) (v := .slice (some ⟨E, 0, none⟩) n n) rfl (by kernel_rfl) (by kernel_rfl) (by kernel_rfl) (by rfl) (fun w' hw => pl_one rfl rfl hw.1.c1 Try.underlying43 rfl) hS rfl ?_
                  simp only [Act.put, List.setIfInBounds_toArray, List.set_cons_zero, List.set_cons_succ]
                  refine hs_take (i := 5) (d := some 115) (v := ?_) rfl (by kernel_rfl) (by kernel_rfl) (by kernel_rfl) (by rfl) ?_ hS rfl ?_
                  rotate_left
                  · intro w' hw
                    go_simp
                    try with_reducible rfl
                  simp only [Act.put, List.setIfInBounds_toArray, List.set_cons_zero, List.set_cons_succ]
                  refine hs_take (i := 6) (d := some 116) (v := ?_) rfl (by kernel_rfl) (by kernel_rfl) (by kernel_rfl) (by rfl) ?_ hS rfl ?_
                  rotate_left
                  · intro w' hw
                    go_simp
                    try with_reducible rfl
                  simp only [Act.put, List.setIfInBounds_toArray, List.set_cons_zero, List.set_cons_succ]
                  refine hs_take (i := 7) (d := some 117) (v := .int .i64 ye) rfl (by kernel_rfl) (by kernel_rfl) (by kernel_rfl) (by rfl) (fun w' hw => pl_one rfl rfl (hrE w' hw.1) Try.underlying3 rfl) hS rfl ?_
                  simp only [Act.put, List.setIfInBounds_toArray, List.set_cons_zero, List.set_cons_succ]
                  refine hs_take (i := 8) (d := some 118) (v := .bool false) rfl (by kernel_rfl) (by kernel_rfl) (by kernel_rfl) (by rfl) (fun w' hw => by go_simp) hS rfl ?_
                  simp only [Act.put, List.setIfInBounds_toArray, List.set_cons_zero, List.set_cons_succ]
                  refine hs_take (i := 9) (d := some 119) (v := ?_) rfl (by kernel_rfl) (by kernel_rfl) (by kernel_rfl) (by rfl) ?_ hS rfl ?_
                  rotate_left
                  · intro w' hw
                    go_simp
                    try with_reducible rfl
                  simp only [Act.put, List.setIfInBounds_toArray, List.set_cons_zero, List.set_cons_succ]
                  refine hs_take (i := 10) (d := some 120) (v := .agg yd.toArray) rfl (by kernel_rfl) (by kernel_rfl) (by kernel_rfl) (by rfl) (fun w' hw => ex_mid rfl rfl hw.2 Try.underlying29 rfl hiyd) hS rfl ?_
                  simp only [Act.put, List.setIfInBounds_toArray, List.set_cons_zero, List.set_cons_succ]
                  refine hs_take (i := 11) (d := some 121) (v := ?_) rfl (by kernel_rfl) (by kernel_rfl) (by kernel_rfl) (by rfl) ?_ hS rfl ?_
                  rotate_left
                  · intro w' hw
                    go_simp
                    try with_reducible rfl
                  simp only [Act.put, List.setIfInBounds_toArray, List.set_cons_zero, List.set_cons_succ]
                  refine hs_take (i := 12) (d := some 122) (v := ?_) rfl (by kernel_rfl) (by kernel_rfl) (by kernel_rfl) (by rfl) ?_ hS rfl ?_
                  rotate_left
                  · intro w' hw
                    go_simp
                    try with_reducible rfl
                  simp only [Act.put, List.setIfInBounds_toArray, List.set_cons_zero, List.set_cons_succ]
                  refine hs_take (i := 13) (d := some 123) (v := ?_) rfl (by kernel_rfl) (by kernel_rfl) (by kernel_rfl) (by rfl) ?_ hS rfl ?_
                  rotate_left
                  · intro w' hw
                    go_simp
                    try with_reducible rfl
                  simp only [Act.put, List.setIfInBounds_toArray, List.set_cons_zero, List.set_cons_succ]
                  refine hs_take (i := 14) (d := some 124) (v := .slice (some ⟨D, 0, none⟩) n n) rfl (by kernel_rfl) (by kernel_rfl) (by kernel_rfl) (by rfl) (fun w' hw => pl_one rfl rfl hw.1.c2 Try.underlying44 rfl) hS rfl ?_
                  simp only [Act.put, List.setIfInBounds_toArray, List.set_cons_zero, List.set_cons_succ]
                  refine hs_take (i := 15) (d := some 125) (v := ?_) rfl (by kernel_rfl) (by kernel_rfl) (by kernel_rfl) (by rfl) ?_ hS rfl ?_
                  rotate_left
                  · intro w' hw
                    go_simp
                    try with_reducible rfl
                  simp only [Act.put, List.setIfInBounds_toArray, List.set_cons_zero, List.set_cons_succ]
                  refine hs_take (i := 16) (d := some 126) (v := ?_) rfl (by kernel_rfl) (by kernel_rfl) (by kernel_rfl) (by rfl) ?_ hS rfl ?_
                  rotate_left
                  · intro w' hw
                    go_simp
                    try with_reducible rfl
                  simp only [Act.put, List.setIfInBounds_toArray, List.set_cons_zero, List.set_cons_succ]
                  refine hs_take (i := 17) (d := some 127) (v := .agg yd.toArray) rfl (by kernel_rfl) (by kernel_rfl) (by kernel_rfl) (by rfl) (fun w' hw => ex_mid rfl rfl (hrD w' hw.1) Try.underlying29 rfl hiyd) hS rfl ?_
                  simp only [Act.put, List.setIfInBounds_toArray, List.set_cons_zero, List.set_cons_succ]
                  refine hs_take (i := 18) (d := some 128) (v := .bool false) rfl (by kernel_rfl) (by kernel_rfl) (by kernel_rfl) (by rfl) (fun w' hw => ex_bin rfl rfl rfl (by kernel_rfl) (hnn w')) hS rfl ?_
                  simp only [Act.put, List.setIfInBounds_toArray, List.set_cons_zero, List.set_cons_succ]
                  refine hs_take (i := 19) (d := some 129) (v := .bool false) rfl (by kernel_rfl) (by kernel_rfl) (by kernel_rfl) (by rfl) (fun w' hw => by go_simp) hS rfl ?_
                  simp only [Act.put, List.setIfInBounds_toArray, List.set_cons_zero, List.set_cons_succ]
                  refine hs_done (by kernel_rfl) ?_
                  have HN := hide (hBq.trans (hB19.mono hBq.size))
                  go_wp2_with fail
                  go_roundw
                  case rel => exact ⟨(i2 : Int) + 1, by omega, by omega, by go_num, HN⟩
                  case measure => simp [intOf]; omega
            · have HT := hide (show Two w B b X E D T n (i + 1) _ from ⟨mm2, hM.below hBq, hXx.below hBq, hBB.trans (hBq.mono hbs)⟩)
              go_wp2_with fail
              go_roundw
              case rel => exact ⟨i + 1, by omega, by go_num, HT⟩
              case measure => simp [intOf]; omega
        · obtain rfl : i = ys.length := by omega
          have cL := lives_any wr
          go_wp2_with fail
          refine cL.mono ?_
          rintro _ wl ⟨rfl, hBl⟩
          go_wp2_with fail
          go_ret
          exact ⟨rfl, hBB.trans (hBl.mono hBB.size)⟩
end Go.Proofs.Ytfaagiilldkdgaa
