/- VotesPlay: the walk -/
import Derived.Test.YtogmkcabndgllaaV35
import Derived.Test.YtogmkcabndgllaaV30
import Derived.Test.YtogmkcabndgllaaV28
import Derived.Test.YtogmkcabndgllaaV18
namespace Go.Proofs.Ytogmkcabndgllaa
open Go.RowKit
theorem XAt.offB {w w' : World} {X : Nat} {a : Option Addr} {cap : Nat} {N N' : Int} {st st' : List On} {B b : Nat} (h : XAt w X a cap N st) (hb : BookAt w B b N' st') (ho : Off (fun z => z = b) w w') (hne : X ≠ b) : XAt w' X a cap N st := by
  have hX := ho.2 X h.lt hne
  refine ⟨Nat.lt_of_lt_of_le h.lt ho.size, ?_, ?_, ?_, h.le, h.ne, fun j hj => ?_, h.bk⟩
  · rw [← h.c0]; simp [World.cell?, hX]
  · rw [← h.c1]; simp [World.cell?, hX]
  · rcases h.row with q | ⟨b2, off, rfl, q1, q2⟩
    · exact .inl q
    · cases st with
      | nil => exact .inl rfl
      | cons x r =>
        have hn : b2 ≠ b := by
          rintro rfl
          obtain ⟨D, ⟨es, cl, h1, _⟩, _⟩ := hb.m
          have := q2 0 (.int .i64 x.n) rfl
          simp [World.cell?, h1] at this
        exact .inr ⟨b2, off, rfl, Nat.lt_of_lt_of_le q1 ho.size, range_at q2 (ho.2 b2 q1 hn)⟩
  · have := h.th j hj
    simpa [World.cell?, World.frozen?, hX] using this
theorem BookAt.offX {w w' : World} {B b X : Nat} {N : Int} {st : List On} (h : BookAt w B b N st) (ho : Off (fun z => z = X) w w') (h1 : B ≠ X) (h2 : b ≠ X) : BookAt w' B b N st :=
  h.at ho.size (ho.2 B h.lt h1) (ho.2 b h.m.lt h2)
theorem certs_len {N : Int} {st : List On} (hb : Bk N st) (v : Vt) (need : Int) : ((certOf N st v need).getD []).length ≤ 1000 := by
  unfold certOf
  split
  · simp
  · have h1 : (signsL N.toNat st v).length ≤ N.toNat := by
      unfold signsL
      exact Nat.le_trans (List.length_filterMap_le _ _) (by simp)
    have h2 := hb.good
    simp only [Option.getD_some, List.length_take]
    omega
theorem count_vt0 {N : Int} {st : List On} (hb : Bk N st) : countL st vt0 = 0 := by
  unfold countL
  rw [List.length_eq_zero_iff, List.filter_eq_nil_iff]
  intro x hx he
  have := hb.kind x hx
  have he : x.v = vt0 := by simpa using he
  rw [he] at this
  unfold vt0 at this
  simp at this
theorem best_same {N : Int} {st : List On} (hb : Bk N st) {k need : Int} {o1 o2 : Option Vt} (h1 : Top (Cand st k need) o1) (h2 : Top (fun v => Cand st k need v ∧ 1 ≤ need) o2) :
    cvOf (o1.getD vt0) (certOf N st (o1.getD vt0) need) = o2.getD vt0 ∧ (certOf N st (o1.getD vt0) need).getD [] = (certOf N st (o2.getD vt0) need).getD [] ∧ (certOf N st (o1.getD vt0) need).isSome = o2.isSome := by
  by_cases hn : 1 ≤ need
  · obtain rfl : o1 = o2 := Top.unique h1 (h2.congr (fun u => ⟨fun q => q.1, fun q => ⟨q, hn⟩⟩))
    refine ⟨?_, rfl, ?_⟩
    · cases o1 with
      | none =>
        have := count_vt0 hb
        simp [certOf, cvOf, this]
      | some v =>
        have := h1.1.2.2
        have : ¬ (need < 1 ∨ (countL st v : Int) < need) := by omega
        simp [certOf, cvOf, this]
    · cases o1 with
      | none =>
        have := count_vt0 hb
        have : need < 1 ∨ (countL st vt0 : Int) < need := by omega
        simp [certOf, this]
      | some v =>
        have := h1.1.2.2
        have : ¬ (need < 1 ∨ (countL st v : Int) < need) := by omega
        simp [certOf, this]
  · have hc : ∀ v, certOf N st v need = none := fun v => by unfold certOf; rw [if_pos (by omega)]
    obtain rfl : o2 = none := by
      cases o2 with
      | none => rfl
      | some v => exact absurd h2.1.2 hn
    simp [hc, cvOf]
theorem ex_load_midV {P : Program} {op : Oper} {a : Act} {ty : TypeId} {x : Operand} (ho : op.op = .load ty x) {b o : Nat} (hx : a.eval x = .pointer (some ⟨b, o, none⟩)) {cs : List Value} {d : TypeDesc} {w : World} (hr : w.rangeAt b o cs) (hu : P.underlying ty = some d) (hd : d.isRow = true) (hi : (P.info? ty).map (·.size) = some cs.length) : (execOp a.eval op).run P w = .ok (.value (.agg cs.toArray)) w := by
  unfold execOp
  simp only [ho, hx, Instr.loadAt, Instr.sureAddr, Sem.run_bind, Sem.run_pure, Result.andThen_ok, run_loadVar_mid w b o ty cs d hr hu hd hi]
set_option maxRecDepth 100000 in
set_option maxHeartbeats 16000000 in
theorem play_walk (N : Int) (al : Option Addr) (cl : Nat) (ys : List On) (need : Int) (w : World) (hok : ∀ y ∈ ys, y.ok) (hrow : RowOf On.cells w al ys) :
    Calls Try.prog 3 #[.int .i64 N, .slice al ys.length cl, .int .i64 need] w fun e w' => e = .returned (.bool true) ∧ Below w.heap.size w w' := by
  cases hg : goodB N with
  | false =>
    have cN := new_no N w hg
    have cX := xnew_no N w hg
    have cL := lives_any w
    clear hg
    go_enter Try.func3, Try.ntmps3
    go_wp2_with fail
    refine cN.mono ?_
    rintro _ w1 ⟨rfl, hw1⟩
    obtain rfl := hw1.symm
    clear hw1
    go_wp2_with fail
    refine cX.mono ?_
    rintro _ w2 ⟨rfl, hw2⟩
    obtain rfl := hw2.symm
    clear hw2
    go_wp2_with fail
    refine cL.mono ?_
    rintro _ w3 ⟨rfl, hB3⟩
    go_wp2_with fail
    go_ret
    exact ⟨rfl, hB3⟩
  | true =>
  have cN := new_yesX N w hg
  have cX := fun w' => xnew_yes N w' hg
  clear hg
  go_enter Try.func3, Try.ntmps3
  go_wp2_with fail
  refine cN.mono ?_
  rintro _ w1 ⟨B, b, rfl, hk1, hbw, hB1⟩
  clear cN
  go_wp2_with fail
  refine (cX w1).mono ?_
  rintro _ w2 ⟨X, rfl, hX2, hXw, hB2⟩
  clear cX
  have hXB : X ≠ B := by have := hk1.lt; omega
  have hXb : X ≠ b := by have := hk1.m.lt; omega
  have hk2 := hk1.below hB2
  have hs1 := hB1.size
  have hB2 := hB1.trans (hB2.mono hs1)
  have hs2 := hB2.size
  have hXw2 : w.heap.size ≤ X := by omega
  clear hk1 hB1 hXw hs1
  by_cases hl : 200 < ys.length
  · have hlI : (200 : Int) < (ys.length : Int) := by omega
    have cL := lives_any w2
    go_wp2_with fail
    refine cL.mono ?_
    rintro _ w3 ⟨rfl, hB3⟩
    go_wp2_with fail
    go_ret
    exact ⟨rfl, hB2.trans (hB3.mono hs2)⟩
  · have hlI : ¬ (200 : Int) < (ys.length : Int) := by omega
    have hst : Hid (∃ (st : List On) (a : Option Addr) (cap : Nat), BookAt w2 B b N st ∧ XAt w2 X a cap N st ∧ st.length ≤ 0 ∧ Below w.heap.size w w2) := hide ⟨[], none, 0, hk2, hX2, Nat.le_refl _, hB2⟩
    clear hk2 hX2 hB2 hs2
    go_wp2_with fail
    go_loopw [45] (fun iv wr => ∃ i : Nat, i ≤ ys.length ∧ iv = .int .i64 (i : Int) ∧ Hid (∃ (st : List On) (a : Option Addr) (cap : Nat), BookAt wr B b N st ∧ XAt wr X a cap N st ∧ st.length ≤ i ∧ Below w.heap.size w wr)) (fun iv _ => ys.length - (intOf iv).toNat)
    case atStart => exact ⟨0, by omega, rfl, hst⟩
    case round =>
      clear hst
      obtain ⟨i, hi, rfl, HS⟩ := hrel
      obtain ⟨st, a, cap, hk, hX, hsl, hBB⟩ := HS.out
      clear HS
      by_cases hlt : i < ys.length
      · have hiI : (i : Int) < (ys.length : Int) := by omega
        obtain ⟨ab, aoff, rfl, habl, hAr⟩ := (hrow.below hBB).elem (fun y hy => (hok y hy).len) i hlt
        have hx := hok _ (List.getElem_mem hlt)
        obtain ⟨x, hxe⟩ : ∃ x, Hid (ys[i] = x) := ⟨_, hide rfl⟩
        rw [hxe.out] at hAr hx
        clear hxe
        have hq53 : x.cells.toArray.size = 53 := by simpa using hx.len
        have hq1 := all_one x.one
        have hiA : (Try.prog.info? 35).map (·.size) = some x.cells.length := by rw [hx.len]; exact iszA
        have hiA2 : (Try.prog.info? 35).map (·.size) = some x.cells.toArray.size := by rw [hq53]; exact iszA
        have hiV : (Try.prog.info? 31).map (·.size) = some x.v.cells.length := by rw [hx.v.len]; exact iszV
        have hiT : (Try.prog.info? 33).map (·.size) = some (v8 x.t).length := by rw [v8_length, hx.tl]; exact iszT
        have hu36 := hx.v.len
        have pR : ∀ w' : World, w'.rangeAt wr.heap.size 0 x.cells → w'.cell? ⟨wr.heap.size, 0, none⟩ = some (.int .i64 x.n) ∧ w'.cell? ⟨wr.heap.size, 1, none⟩ = some (.int .i64 x.v.k) ∧ w'.rangeAt wr.heap.size 1 x.v.cells ∧ w'.rangeAt wr.heap.size 37 (v8 x.t) := fun w' hr => by
          obtain ⟨q1, q2, q3⟩ := On.parts hx hr
          rw [Nat.zero_add] at q2 q3
          exact ⟨q1, q2 0 _ rfl, q2, q3⟩
        have hbk2 := hk.bk.add hx
        have hlen2 := add_len N st x
        have cA := fun w' (h : BookAt w' B b N st) => add_any B b N st x hx w' h (by omega)
        have cX := fun w' a cap (h : XAt w' X a cap N st) => xadd_any X a cap N st x hx w' h (by omega)
        obtain ⟨st2, hst2⟩ : ∃ st2, Hid (addL N st x = st2) := ⟨_, hide rfl⟩
        obtain ⟨ee, hee⟩ : ∃ ee, Hid (addE N st x = ee) := ⟨_, hide rfl⟩
        rw [hst2.out] at hlen2 hbk2
        simp only [hst2.out, hee.out] at cA cX
        clear hst2 hee
        have hl2 : st2.length < 1000000 := by omega
        have cN := fun w' (h : BookAt w' B b N st2) => count_any B b N st2 x.v hx.v w' h hl2
        have cXN := fun w' a cap (h : XAt w' X a cap N st2) => xcount_any X a cap N st2 x.v hx.v w' h hl2
        obtain ⟨cn, hcn⟩ : ∃ cn : Nat, Hid (countL st2 x.v = cn) := ⟨_, hide rfl⟩
        simp only [hcn.out] at cN cXN
        clear hcn
        have cO := fun w' (h : BookAt w' B b N st2) => of_yes B b N st2 x.v.k x.n hx.v.k hx.n w' h
        have cXO := fun w' a cap (h : XAt w' X a cap N st2) => xof_any X a cap N st2 x.v.k x.n w' h hl2
        have hy := find_ok hbk2 x.v.k x.n
        obtain ⟨y, hye⟩ : ∃ y, Hid ((find st2 x.v.k x.n).getD on0 = y) := ⟨_, hide rfl⟩
        obtain ⟨yi, hyi⟩ : ∃ yi, Hid ((find st2 x.v.k x.n).isSome = yi) := ⟨_, hide rfl⟩
        simp only [hye.out, hyi.out] at cO cXO
        rw [hye.out] at hy
        clear hye hyi
        have hneqV : ∀ w : World, (binOp .neq 31 (.agg y.v.cells.toArray) (.agg y.v.cells.toArray)).run Try.prog w = .ok (.bool false) w := fun w => by rw [neqV y.v y.v hy.v hy.v]; simp
        have hneqT : ∀ w : World, (binOp .neq 33 (.agg (v8 y.t).toArray) (.agg (v8 y.t).toArray)).run Try.prog w = .ok (.bool false) w := fun w => by rw [neqT _ _ hy.tl hy.tl]; simp
        have hyu2 : y.v.cells.toArray.size = 36 := by simpa using hy.v.len
        have hyo := all_one y.v.one
        have hiyV : (Try.prog.info? 31).map (·.size) = some y.v.cells.length := by rw [hy.v.len]; exact iszV
        have hiyV2 : (Try.prog.info? 31).map (·.size) = some y.v.cells.toArray.size := by rw [hyu2]; exact iszV
        have hyt2 : (v8 y.t).toArray.size = 16 := by simpa using hy.tl
        have hyto := all_one (v8_one y.t)
        have hiyT : (Try.prog.info? 33).map (·.size) = some (v8 y.t).length := by rw [v8_length, hy.tl]; exact iszT
        have hiyT2 : (Try.prog.info? 33).map (·.size) = some (v8 y.t).toArray.size := by rw [hyt2]; exact iszT
        obtain ⟨yu, hyu⟩ : ∃ yu, Hid (y.v.cells = yu) := ⟨_, hide rfl⟩
        obtain ⟨yt, hyt⟩ : ∃ yt, Hid (v8 y.t = yt) := ⟨_, hide rfl⟩
        simp only [hyu.out, hyt.out] at cO cXO hneqV hneqT hyu2 hyo hiyV hiyV2 hyt2 hyto hiyT hiyT2
        clear hyu hyt hy
        have cC := fun w' (h : BookAt w' B b N st2) => cert_any B b N st2 x.v hx.v need w' h hl2
        have cXC := fun w' a cap (h : XAt w' X a cap N st2) => xcert_any X a cap N st2 x.v hx.v need w' h hl2
        have hrl := certs_len hbk2 x.v need
        have hcv : (cvOf x.v (certOf N st2 x.v need)).ok := by unfold cvOf; split <;> first | exact hx.v | exact vt0_ok
        obtain ⟨rs, hrs⟩ : ∃ rs, Hid ((certOf N st2 x.v need).getD [] = rs) := ⟨_, hide rfl⟩
        obtain ⟨cb, hcb⟩ : ∃ cb, Hid ((certOf N st2 x.v need).isSome = cb) := ⟨_, hide rfl⟩
        obtain ⟨cv, hcvE⟩ : ∃ cv, Hid (cvOf x.v (certOf N st2 x.v need) = cv) := ⟨_, hide rfl⟩
        simp only [hrs.out, hcb.out, hcvE.out] at cC cXC
        rw [hrs.out] at hrl
        rw [hcvE.out] at hcv
        clear hrs hcb hcvE
        have cS := fun a1 a2 c1 c2 w' (h1 : SigsAt w' a1 rs) (h2 : SigsAt w' a2 rs) => xsamecert_any cv hcv a1 a2 c1 c2 rs hrl w' h1 h2
        have hcv36 := hcv.len
        have hcvo := cv.one
        obtain ⟨cu, hcu⟩ : ∃ cu, Hid (cv.cells = cu) := ⟨_, hide rfl⟩
        simp only [hcu.out] at cC cXC cS hcv36 hcvo
        clear hcu hcv
        obtain ⟨n, v, t⟩ := x
        simp only at *
        obtain ⟨k, ep, vw, sl, d⟩ := v
        simp only at *
        obtain ⟨u, hu⟩ : ∃ u, Hid ((Vt.mk k ep vw sl d).cells = u) := ⟨_, hide rfl⟩
        obtain ⟨g, hg⟩ : ∃ g, Hid (v8 t = g) := ⟨_, hide rfl⟩
        obtain ⟨qc, hqc⟩ : ∃ q, Hid ((On.mk n ⟨k, ep, vw, sl, d⟩ t).cells = q) := ⟨_, hide rfl⟩
        simp only [hu.out, hg.out, hqc.out] at cA cX cN cXN cC cXC pR hiV hiT hu36
        rw [hqc.out] at hAr hq53 hq1 hiA hiA2
        clear hg hqc hx hu
        have hbs := hBB.size
        have hAb : wr.heap.size ≠ b := by have := hk.m.lt; omega
        have hAX : wr.heap.size ≠ X := by have := hX.lt; omega
        go_upto_region 9 with (first
          | (refine wpList_load_mid rfl 35 _ rfl _ _ rfl qc _ hAr Try.underlying35 rfl hiA ?_)
          | (refine wpList_store_mid rfl 35 _ _ rfl _ 0 qc.toArray rfl rfl (there_newN _ _ _ hq53.symm) hiA2 hq1 ?_))
        go_name_world w2 hw2
        obtain ⟨hB2, hR, hlt2, -⟩ := one_filled hw2 (by simpa using hq53)
        clear hw2
        have hR := hR
        have hk := hk.below hB2
        have hX := hX.below hB2
        have hBB := hBB.trans (hB2.mono hbs)
        have hbs := hBB.size
        have hz := hB2.size
        clear hB2
        clear hAr
        obtain ⟨w8, hw8⟩ : ∃ w8, w2.drew = w8 := ⟨_, rfl⟩
        have hB8 : Below w2.heap.size w2 w8 := by rw [← hw8]; exact (Below.refl _ _).drew
        have hR := range_below hR hB8 (by omega)
        have hlt8 : wr.heap.size < w8.heap.size := by have := hB8.size; omega
        have hk := hk.below hB8
        have hX := hX.below hB8
        have hBB := hBB.trans (hB8.mono hbs)
        have hbs := hBB.size
        have hz := hB8.size
        clear hB8
        have pO : ∀ w' : World, Off (fun z => z = b ∨ z = X) w8 w' → w'.rangeAt wr.heap.size 0 qc := fun w' ho => range_at hR (ho.2 _ hlt8 (by rintro (q | q) <;> omega))
        try simp only [Act.put]
        refine hs_begin (S := (Off (fun z => z = b ∨ z = X) w8)) 28 rfl (by kernel_rfl) ?_
        rw [hw8]
        clear hw8
        have hS : (Off (fun z => z = b ∨ z = X) w8) w8 := Off.refl _ _
        refine hs_take (i := 0) (d := some 49) (v := ?_) rfl (by kernel_rfl) (by kernel_rfl) (by kernel_rfl) (by rfl) ?_ hS rfl ?_
        rotate_left
        · intro w' hw
          go_simp
          try with_reducible rfl
        simp only [Act.put, List.setIfInBounds_toArray, List.set_cons_zero, List.set_cons_succ]
        refine hs_take (i := 1) (d := some 50) (v := ?_) rfl (by kernel_rfl) (by kernel_rfl) (by kernel_rfl) (by rfl) ?_ hS rfl ?_
        rotate_left
        · intro w' hw
          go_simp
          try with_reducible rfl
        simp only [Act.put, List.setIfInBounds_toArray, List.set_cons_zero, List.set_cons_succ]
        refine hs_take (i := 2) (d := some 51) (v := ?_) rfl (by kernel_rfl) (by kernel_rfl) (by kernel_rfl) (by rfl) ?_ hS rfl ?_
        rotate_left
        · intro w' hw
          obtain ⟨r0, r1, r2, r3⟩ := pR w' (pO w' hw)
          go_simp
          try with_reducible rfl
        simp only [Act.put, List.setIfInBounds_toArray, List.set_cons_zero, List.set_cons_succ]
        refine hs_take (i := 3) (d := some 52) (v := ?_) rfl (by kernel_rfl) (by kernel_rfl) (by kernel_rfl) (by rfl) ?_ hS rfl ?_
        rotate_left
        · intro w' hw
          go_simp
          try with_reducible rfl
        simp only [Act.put, List.setIfInBounds_toArray, List.set_cons_zero, List.set_cons_succ]
        refine hs_take (i := 4) (d := some 53) (v := .agg u.toArray) rfl (by kernel_rfl) (by kernel_rfl) (by kernel_rfl) (by rfl) (fun w' hw => ex_load_midV rfl rfl (pR w' (pO w' hw)).2.2.1 Try.underlying31 rfl hiV) hS rfl ?_
        simp only [Act.put, List.setIfInBounds_toArray, List.set_cons_zero, List.set_cons_succ]
        refine hs_take (i := 5) (d := some 54) (v := ?_) rfl (by kernel_rfl) (by kernel_rfl) (by kernel_rfl) (by rfl) ?_ hS rfl ?_
        rotate_left
        · intro w' hw
          go_simp
          try with_reducible rfl
        simp only [Act.put, List.setIfInBounds_toArray, List.set_cons_zero, List.set_cons_succ]
        refine hs_take (i := 6) (d := some 55) (v := .agg g.toArray) rfl (by kernel_rfl) (by kernel_rfl) (by kernel_rfl) (by rfl) (fun w' hw => ex_load_midV rfl rfl (pR w' (pO w' hw)).2.2.2 Try.underlying33 rfl hiT) hS rfl ?_
        simp only [Act.put, List.setIfInBounds_toArray, List.set_cons_zero, List.set_cons_succ]
        refine hs_take (i := 8) (d := some 57) (v := ?_) rfl (by kernel_rfl) (by kernel_rfl) (by kernel_rfl) (by rfl) ?_ hS rfl ?_
        rotate_left
        · intro w' hw
          go_simp
          try with_reducible rfl
        simp only [Act.put, List.setIfInBounds_toArray, List.set_cons_zero, List.set_cons_succ]
        refine hs_take (i := 9) (d := some 58) (v := ?_) rfl (by kernel_rfl) (by kernel_rfl) (by kernel_rfl) (by rfl) ?_ hS rfl ?_
        rotate_left
        · intro w' hw
          go_simp
          try with_reducible rfl
        simp only [Act.put, List.setIfInBounds_toArray, List.set_cons_zero, List.set_cons_succ]
        refine hs_take (i := 10) (d := some 59) (v := ?_) rfl (by kernel_rfl) (by kernel_rfl) (by kernel_rfl) (by rfl) ?_ hS rfl ?_
        rotate_left
        · intro w' hw
          obtain ⟨r0, r1, r2, r3⟩ := pR w' (pO w' hw)
          go_simp
          try with_reducible rfl
        simp only [Act.put, List.setIfInBounds_toArray, List.set_cons_zero, List.set_cons_succ]
        refine hs_take (i := 11) (d := some 60) (v := ?_) rfl (by kernel_rfl) (by kernel_rfl) (by kernel_rfl) (by rfl) ?_ hS rfl ?_
        rotate_left
        · intro w' hw
          go_simp
          try with_reducible rfl
        simp only [Act.put, List.setIfInBounds_toArray, List.set_cons_zero, List.set_cons_succ]
        refine hs_take (i := 12) (d := some 61) (v := .agg u.toArray) rfl (by kernel_rfl) (by kernel_rfl) (by kernel_rfl) (by rfl) (fun w' hw => ex_load_midV rfl rfl (pR w' (pO w' hw)).2.2.1 Try.underlying31 rfl hiV) hS rfl ?_
        simp only [Act.put, List.setIfInBounds_toArray, List.set_cons_zero, List.set_cons_succ]
        refine hs_take (i := 13) (d := some 62) (v := ?_) rfl (by kernel_rfl) (by kernel_rfl) (by kernel_rfl) (by rfl) ?_ hS rfl ?_
        rotate_left
        · intro w' hw
          go_simp
          try with_reducible rfl
        simp only [Act.put, List.setIfInBounds_toArray, List.set_cons_zero, List.set_cons_succ]
        refine hs_take (i := 14) (d := some 63) (v := .agg g.toArray) rfl (by kernel_rfl) (by kernel_rfl) (by kernel_rfl) (by rfl) (fun w' hw => ex_load_midV rfl rfl (pR w' (pO w' hw)).2.2.2 Try.underlying33 rfl hiT) hS rfl ?_
        simp only [Act.put, List.setIfInBounds_toArray, List.set_cons_zero, List.set_cons_succ]
        refine hs_call (i := 7) (d := some 56) rfl (by kernel_rfl) (by rfl) (by go_simp; first | done | exact ⟨rfl, rfl⟩ | with_reducible rfl) rfl ?_
        refine (cA w8 hk).mono ?_
        rintro e' w9 ⟨rfl, hk9, hO9⟩
        have hS : (Off (fun z => z = b ∨ z = X) w8) w9 := hO9.mono (fun z _ q => .inl q)
        refine ⟨_, rfl, hS, ?_⟩
        simp only [Act.put, List.setIfInBounds_toArray, List.set_cons_zero, List.set_cons_succ]
        have hX9 := hX.offB hk hO9 hXb
        refine hs_call (i := 15) (d := some 64) rfl (by kernel_rfl) (by rfl) (by go_simp; first | done | exact ⟨rfl, rfl⟩ | with_reducible rfl) rfl ?_
        refine (cX w9 _ _ hX9).mono ?_
        rintro e' w10 ⟨rfl, a2, cap2, hX10, hO10⟩
        have hS : (Off (fun z => z = b ∨ z = X) w8) w10 := hS.trans hO10 (fun z _ q => .inr q)
        refine ⟨_, rfl, hS, ?_⟩
        simp only [Act.put, List.setIfInBounds_toArray, List.set_cons_zero, List.set_cons_succ]
        have hk10 := hk9.offX hO10 (Ne.symm hXB) (Ne.symm hXb)
        refine hs_take (i := 16) (d := some 65) (v := .bool false) rfl (by kernel_rfl) (by kernel_rfl) (by kernel_rfl) (by rfl) (fun w' hw => by go_simp) hS rfl ?_
        simp only [Act.put, List.setIfInBounds_toArray, List.set_cons_zero, List.set_cons_succ]
        refine hs_take (i := 17) (d := some 66) (v := ?_) rfl (by kernel_rfl) (by kernel_rfl) (by kernel_rfl) (by rfl) ?_ hS rfl ?_
        rotate_left
        · intro w' hw
          go_simp
          try with_reducible rfl
        simp only [Act.put, List.setIfInBounds_toArray, List.set_cons_zero, List.set_cons_succ]
        refine hs_take (i := 18) (d := some 67) (v := ?_) rfl (by kernel_rfl) (by kernel_rfl) (by kernel_rfl) (by rfl) ?_ hS rfl ?_
        rotate_left
        · intro w' hw
          go_simp
          try with_reducible rfl
        simp only [Act.put, List.setIfInBounds_toArray, List.set_cons_zero, List.set_cons_succ]
        refine hs_take (i := 19) (d := some 68) (v := ?_) rfl (by kernel_rfl) (by kernel_rfl) (by kernel_rfl) (by rfl) ?_ hS rfl ?_
        rotate_left
        · intro w' hw
          go_simp
          try with_reducible rfl
        simp only [Act.put, List.setIfInBounds_toArray, List.set_cons_zero, List.set_cons_succ]
        refine hs_take (i := 20) (d := some 69) (v := .agg u.toArray) rfl (by kernel_rfl) (by kernel_rfl) (by kernel_rfl) (by rfl) (fun w' hw => ex_load_midV rfl rfl (pR w' (pO w' hw)).2.2.1 Try.underlying31 rfl hiV) hS rfl ?_
        simp only [Act.put, List.setIfInBounds_toArray, List.set_cons_zero, List.set_cons_succ]
        refine hs_take (i := 22) (d := some 71) (v := ?_) rfl (by kernel_rfl) (by kernel_rfl) (by kernel_rfl) (by rfl) ?_ hS rfl ?_
        rotate_left
        · intro w' hw
          go_simp
          try with_reducible rfl
        simp only [Act.put, List.setIfInBounds_toArray, List.set_cons_zero, List.set_cons_succ]
        refine hs_take (i := 23) (d := some 72) (v := ?_) rfl (by kernel_rfl) (by kernel_rfl) (by kernel_rfl) (by rfl) ?_ hS rfl ?_
        rotate_left
        · intro w' hw
          go_simp
          try with_reducible rfl
        simp only [Act.put, List.setIfInBounds_toArray, List.set_cons_zero, List.set_cons_succ]
        refine hs_take (i := 24) (d := some 73) (v := .agg u.toArray) rfl (by kernel_rfl) (by kernel_rfl) (by kernel_rfl) (by rfl) (fun w' hw => ex_load_midV rfl rfl (pR w' (pO w' hw)).2.2.1 Try.underlying31 rfl hiV) hS rfl ?_
        simp only [Act.put, List.setIfInBounds_toArray, List.set_cons_zero, List.set_cons_succ]
        refine hs_call (i := 21) (d := some 70) rfl (by kernel_rfl) (by rfl) (by go_simp; first | done | exact ⟨rfl, rfl⟩ | with_reducible rfl) rfl ?_
        refine (cN w10 hk10).mono ?_
        rintro e' w11 ⟨rfl, hB11⟩
        have hS : (Off (fun z => z = b ∨ z = X) w8) w11 := hS.below_r hB11
        refine ⟨_, rfl, hS, ?_⟩
        simp only [Act.put, List.setIfInBounds_toArray, List.set_cons_zero, List.set_cons_succ]
        have hX11 := hX10.below hB11
        refine hs_call (i := 25) (d := some 74) rfl (by kernel_rfl) (by rfl) (by go_simp; first | done | exact ⟨rfl, rfl⟩ | with_reducible rfl) rfl ?_
        refine (cXN w11 _ _ hX11).mono ?_
        rintro e' w12 ⟨rfl, hB12⟩
        have hS : (Off (fun z => z = b ∨ z = X) w8) w12 := hS.below_r hB12
        refine ⟨_, rfl, hS, ?_⟩
        simp only [Act.put, List.setIfInBounds_toArray, List.set_cons_zero, List.set_cons_succ]
        refine hs_take (i := 26) (d := some 75) (v := .bool false) rfl (by kernel_rfl) (by kernel_rfl) (by kernel_rfl) (by rfl) (fun w' hw => by go_simp) hS rfl ?_
        simp only [Act.put, List.setIfInBounds_toArray, List.set_cons_zero, List.set_cons_succ]
        refine hs_take (i := 27) (d := some 76) (v := ?_) rfl (by kernel_rfl) (by kernel_rfl) (by kernel_rfl) (by rfl) ?_ hS rfl ?_
        rotate_left
        · intro w' hw
          go_simp
          try with_reducible rfl
        simp only [Act.put, List.setIfInBounds_toArray, List.set_cons_zero, List.set_cons_succ]
        refine hs_done (by kernel_rfl) ?_
        have hk := hk10.below (hB11.trans (hB12.mono hB11.size))
        have hX := hX11.below hB12
        have hR := pO _ hS
        have hBB : Below w.heap.size w w12 := hBB.trans (hS.below hbs (fun z hz q => by rcases q with q | q <;> omega))
        have hbs := hBB.size
        have hlt12 : wr.heap.size < w12.heap.size := by have := hS.size; omega
        clear hk9 hk10 hX9 hX10 hX11 hS pO hO9 hO10 hB11 hB12 cA cX cN cXN hz
        obtain ⟨r0, r1, r2, r3⟩ := pR w12 hR
        go_wp2_with fail
        refine (cO w12 hk).mono ?_
        rintro _ w13 ⟨rfl, hBa⟩
        have hk := hk.below hBa
        have hX := hX.below hBa
        have hR := range_below hR hBa (by omega)
        have hBB := hBB.trans (hBa.mono hbs)
        have hbs := hBB.size
        have hz := hBa.size
        clear hBa
        clear cO r0 r1 r2 r3
        go_upto_region 12 with (first
          | (refine wpList_store_mid rfl 31 _ _ rfl _ 0 yu.toArray rfl rfl (two_thereA _ _ _ _ _ hyu2.symm) hiyV2 hyo ?_)
          | (refine wpList_store_mid rfl 33 _ _ rfl _ 0 yt.toArray rfl rfl (two_thereB _ _ _ _ _ _ hyt2.symm) hiyT2 hyto ?_))
        go_name_world w14 hw14
        obtain ⟨hBa, hV1, hT1⟩ := two_filled2 hw14 (by simpa using hyu2) (by simpa using hyt2)
        clear hw14
        have hsz : w13.heap.size + 1 < w14.heap.size := Z3 hBa hT1 (Nat.lt_of_lt_of_eq (by decide : 0 < 16) (by simpa using hyt2.symm))
        have hk := hk.below hBa
        have hX := hX.below hBa
        have hR := range_below hR hBa (by omega)
        have hBB := hBB.trans (hBa.mono hbs)
        have hbs := hBB.size
        have hz := hBa.size
        clear hBa
        obtain ⟨r0, r1, r2, r3⟩ := pR w14 hR
        go_wp2_with fail
        refine (cXO w14 _ _ hX).mono ?_
        rintro _ w15 ⟨rfl, hBa⟩
        have hk := hk.below hBa
        have hX := hX.below hBa
        have hR := range_below hR hBa (by omega)
        have hV1 := range_below hV1 hBa (by omega)
        have hT1 := range_below hT1 hBa (by omega)
        have hBB := hBB.trans (hBa.mono hbs)
        have hbs := hBB.size
        have hz := hBa.size
        clear hBa
        clear cXO r0 r1 r2 r3
        go_upto_region 13 with (first
          | (refine wpList_store_mid rfl 31 _ _ rfl _ 0 yu.toArray rfl rfl (two_thereA _ _ _ _ _ hyu2.symm) hiyV2 hyo ?_)
          | (refine wpList_store_mid rfl 33 _ _ rfl _ 0 yt.toArray rfl rfl (two_thereB _ _ _ _ _ _ hyt2.symm) hiyT2 hyto ?_))
        go_name_world w16 hw16
        obtain ⟨hBa, hV2, hT2⟩ := two_filled2 hw16 (by simpa using hyu2) (by simpa using hyt2)
        clear hw16
        have hsz2 : w15.heap.size + 1 < w16.heap.size := Z3 hBa hT2 (Nat.lt_of_lt_of_eq (by decide : 0 < 16) (by simpa using hyt2.symm))
        have hk := hk.below hBa
        have hX := hX.below hBa
        have hR := range_below hR hBa (by omega)
        have hV1 := range_below hV1 hBa (by omega)
        have hT1 := range_below hT1 hBa (by omega)
        have hBB := hBB.trans (hBa.mono hbs)
        have hbs := hBB.size
        have hz := hBa.size
        clear hBa
        obtain ⟨r0, r1, r2, r3⟩ := pR w16 hR
        go_wp2_with (refine wpList_load_mid rfl 31 _ rfl _ _ rfl u _ r2 Try.underlying31 rfl hiV ?_)
        refine (cC w16 hk).mono ?_
        rintro _ w17 ⟨ca1, cp1, rfl, hsg1, -, -, hBa⟩
        have hk := hk.below hBa
        have hX := hX.below hBa
        have hR := range_below hR hBa (by omega)
        have hV1 := range_below hV1 hBa (by omega)
        have hT1 := range_below hT1 hBa (by omega)
        have hV2 := range_below hV2 hBa (by omega)
        have hT2 := range_below hT2 hBa (by omega)
        have hBB := hBB.trans (hBa.mono hbs)
        have hbs := hBB.size
        have hz := hBa.size
        clear hBa
        clear cC r0 r1 r2 r3
        have hc37 : (cu ++ [Value.slice ca1 rs.length cp1]).toArray.size = 37 := by simp [hcv36]
        have hc1 : (cu ++ [Value.slice ca1 rs.length cp1]).toArray.all (·.oneCell') = true := cert_one _ hcvo
        have hic : (Try.prog.info? 44).map (·.size) = some (cu ++ [Value.slice ca1 rs.length cp1]).toArray.size := by rw [hc37]; exact iszCt
        have hic1 : (Try.prog.info? 44).map (·.size) = some (cu ++ [Value.slice ca1 rs.length cp1]).length := by rw [← List.size_toArray, hc37]; exact iszCt
        obtain ⟨cc1, hcc1⟩ : ∃ cc, Hid (cu ++ [Value.slice ca1 rs.length cp1] = cc) := ⟨_, hide rfl⟩
        rw [hcc1.out] at hc37 hc1 hic hic1 ⊢
        go_upto_region 14 with (refine wpList_store_mid rfl 44 _ _ rfl _ 0 cc1.toArray rfl rfl (there_newN _ _ _ hc37.symm) hic hc1 ?_)
        go_name_world w18 hw18
        obtain ⟨hBc, hC1, hltc, -⟩ := one_filled hw18 (by simpa using hc37)
        clear hw18 hc37 hc1 hic
        have hk := hk.below hBc
        have hX := hX.below hBc
        have hR := range_below hR hBc (by omega)
        have hV1 := range_below hV1 hBc (by omega)
        have hT1 := range_below hT1 hBc (by omega)
        have hV2 := range_below hV2 hBc (by omega)
        have hT2 := range_below hT2 hBc (by omega)
        have hsg1 := hsg1.below hBc
        have hBB := hBB.trans (hBc.mono hbs)
        have hbs := hBB.size
        have hz := hBc.size
        clear hBc
        have hltc1 := hltc
        obtain ⟨r0, r1, r2, r3⟩ := pR w18 hR
        go_wp2_with (refine wpList_load_mid rfl 31 _ rfl _ _ rfl u _ r2 Try.underlying31 rfl hiV ?_)
        refine (cXC w18 _ _ hX).mono ?_
        rintro _ w19 ⟨ca2, cp2, rfl, hsg2, -, hBa⟩
        have hk := hk.below hBa
        have hX := hX.below hBa
        have hR := range_below hR hBa (by omega)
        have hV1 := range_below hV1 hBa (by omega)
        have hT1 := range_below hT1 hBa (by omega)
        have hV2 := range_below hV2 hBa (by omega)
        have hT2 := range_below hT2 hBa (by omega)
        have hC1 := range_below hC1 hBa (by omega)
        have hsg1 := hsg1.below hBa
        have hBB := hBB.trans (hBa.mono hbs)
        have hbs := hBB.size
        have hz := hBa.size
        clear hBa
        clear cXC r0 r1 r2 r3
        have hc37 : (cu ++ [Value.slice ca2 rs.length cp2]).toArray.size = 37 := by simp [hcv36]
        have hc1 : (cu ++ [Value.slice ca2 rs.length cp2]).toArray.all (·.oneCell') = true := cert_one _ hcvo
        have hic : (Try.prog.info? 44).map (·.size) = some (cu ++ [Value.slice ca2 rs.length cp2]).toArray.size := by rw [hc37]; exact iszCt
        have hic2 : (Try.prog.info? 44).map (·.size) = some (cu ++ [Value.slice ca2 rs.length cp2]).length := by rw [← List.size_toArray, hc37]; exact iszCt
        obtain ⟨cc2, hcc2⟩ : ∃ cc, Hid (cu ++ [Value.slice ca2 rs.length cp2] = cc) := ⟨_, hide rfl⟩
        rw [hcc2.out] at hc37 hc1 hic hic2 ⊢
        go_upto_region 15 with (refine wpList_store_mid rfl 44 _ _ rfl _ 0 cc2.toArray rfl rfl (there_newN _ _ _ hc37.symm) hic hc1 ?_)
        go_name_world w20 hw20
        obtain ⟨hBc, hC2, hltc, -⟩ := one_filled hw20 (by simpa using hc37)
        clear hw20 hc37 hc1 hic
        have hk := hk.below hBc
        have hX := hX.below hBc
        have hV1 := range_below hV1 hBc (by omega)
        have hT1 := range_below hT1 hBc (by omega)
        have hV2 := range_below hV2 hBc (by omega)
        have hT2 := range_below hT2 hBc (by omega)
        have hC1 := range_below hC1 hBc (by omega)
        have hsg1 := hsg1.below hBc
        have hsg2 := hsg2.below hBc
        have hBB := hBB.trans (hBc.mono hbs)
        have hbs := hBB.size
        have hz := hBc.size
        clear hBc
        have cS1 := cS ca1 ca2 cp1 cp2 w20 hsg1 hsg2
        rw [hcc1.out, hcc2.out] at cS1
        clear cS hcc1 hcc2 hsg1 hsg2 hR hcvo hcv36 hiA hiA2 hq53 hq1 hAb hAX pR hu36
        try simp only [Act.put]
        refine wp_region_list ?_
        refine wpList_load_g (by rfl) 31 _ rfl _ _ rfl yu _ hV1 Try.underlying31 rfl hiyV ?_
        refine wpList_load_g (by rfl) 31 _ rfl _ _ rfl yu _ hV2 Try.underlying31 rfl hiyV ?_
        refine wpList_step fun K hK => ?_
        go_simp
        try rw [hneqV]
        try go_simp
        refine hK _ _ ?_
        clear hK K
        refine wpList_step fun K hK => ?_
        go_simp
        refine hK _ _ ?_
        clear hK K
        refine wpList_load_g (by rfl) 33 _ rfl _ _ rfl yt _ hT1 Try.underlying33 rfl hiyT ?_
        refine wpList_load_g (by rfl) 33 _ rfl _ _ rfl yt _ hT2 Try.underlying33 rfl hiyT ?_
        refine wpList_step fun K hK => ?_
        go_simp
        try rw [hneqT]
        try go_simp
        refine hK _ _ ?_
        clear hK K
        refine wpList_step fun K hK => ?_
        go_simp
        refine hK _ _ ?_
        clear hK K
        refine wpList_step fun K hK => ?_
        go_simp
        refine hK _ _ ?_
        clear hK K
        refine wpList_step fun K hK => ?_
        go_simp
        refine hK _ _ ?_
        clear hK K
        refine wpList_step fun K hK => ?_
        go_simp
        refine hK _ _ ?_
        clear hK K
        refine wpList_step fun K hK => ?_
        go_simp
        refine hK _ _ ?_
        clear hK K
        refine wpList_step fun K hK => ?_
        go_simp
        refine hK _ _ ?_
        clear hK K
        refine wpList_step fun K hK => ?_
        go_simp
        refine hK _ _ ?_
        clear hK K
        refine wpList_load_g (by rfl) 44 _ rfl _ _ rfl cc1 _ hC1 Try.underlying44 rfl hic1 ?_
        refine wpList_load_g (by rfl) 44 _ rfl _ _ rfl cc2 _ hC2 Try.underlying44 rfl hic2 ?_
        clear hV1 hV2 hT1 hT2 hC1 hC2 hneqV hneqT hyo hyto hyu2 hyt2 hiyV hiyV2 hiyT hiyT2 hic1 hic2
        go_wp2_with fail
        refine cS1.mono ?_
        rintro _ w21 ⟨rfl, hBa⟩
        clear cS1
        have hk := hk.below hBa
        have hX := hX.below hBa
        have hBB := hBB.trans (hBa.mono hbs)
        have hbs := hBB.size
        have hz := hBa.size
        clear hBa
        clear hlt8 hlt12 hsz hsz2 hltc hltc1 hz hlt2
        go_wp2_with fail
        go_loopw [21] (fun iv wi => ∃ kd : Nat, kd ≤ 4 ∧ iv = .int .i64 (kd : Int) ∧ Hid (Below w21.heap.size w21 wi)) (fun iv _ => 4 - (intOf iv).toNat)
        case atStart => exact ⟨0, by omega, rfl, hide (Below.refl _ _)⟩
        case round =>
          obtain ⟨kd, hkd, rfl, HB⟩ := hrel
          have hBi := HB.out
          clear HB
          by_cases hkl : kd ≤ 3
          · have hkI : (kd : Int) ≤ 3 := by omega
            have hki := hk.below hBi
            have cB := best_any B b N st2 (kd : Int) need wr hki hl2
            have hbi := hBi.size
            go_wp2_with fail
            refine cB.mono ?_
            rintro _ w22 ⟨o1, ht1, hoo, ca1, cp1, rfl, hsg1, -, -, hBa⟩
            clear cB
            have hcv : (cvOf (o1.getD vt0) (certOf N st2 (o1.getD vt0) need)).ok := by unfold cvOf; split <;> first | exact hoo | exact vt0_ok
            have hrl := certs_len hbk2 (o1.getD vt0) need
            have HBS : Hid (∀ o2, Top (fun v => Cand st2 (kd : Int) need v ∧ 1 ≤ need) o2 → cvOf (o1.getD vt0) (certOf N st2 (o1.getD vt0) need) = o2.getD vt0 ∧ (certOf N st2 (o1.getD vt0) need).getD [] = (certOf N st2 (o2.getD vt0) need).getD [] ∧ (certOf N st2 (o1.getD vt0) need).isSome = o2.isSome) := hide (fun o2 h => best_same hbk2 ht1 h)
            obtain ⟨rs, hrs⟩ : ∃ rs, Hid ((certOf N st2 (o1.getD vt0) need).getD [] = rs) := ⟨_, hide rfl⟩
            obtain ⟨cb, hcb⟩ : ∃ cb, Hid ((certOf N st2 (o1.getD vt0) need).isSome = cb) := ⟨_, hide rfl⟩
            obtain ⟨cv, hcvE⟩ : ∃ cv, Hid (cvOf (o1.getD vt0) (certOf N st2 (o1.getD vt0) need) = cv) := ⟨_, hide rfl⟩
            rw [hrs.out, hcb.out, hcvE.out] at HBS
            rw [hrs.out] at hrl hsg1 ⊢
            rw [hcb.out]
            rw [hcvE.out] at hcv ⊢
            clear hrs hcb hcvE ht1 hoo
            have cS := fun a1 a2 c1 c2 w' (h1 : SigsAt w' a1 rs) (h2 : SigsAt w' a2 rs) => xsamecert_any cv hcv a1 a2 c1 c2 rs hrl w' h1 h2
            have hcv36 := hcv.len
            have hcvo := cv.one
            obtain ⟨cu, hcu⟩ : ∃ cu, Hid (cv.cells = cu) := ⟨_, hide rfl⟩
            simp only [hcu.out] at cS hcv36 hcvo ⊢
            clear hcv
            have hBi := hBi.trans (hBa.mono hbi)
            have hbi := hBi.size
            have hz := hBa.size
            clear hBa hki
            have hc37 : (cu ++ [Value.slice ca1 rs.length cp1]).toArray.size = 37 := by simp [hcv36]
            have hc1 : (cu ++ [Value.slice ca1 rs.length cp1]).toArray.all (·.oneCell') = true := cert_one _ hcvo
            have hic : (Try.prog.info? 44).map (·.size) = some (cu ++ [Value.slice ca1 rs.length cp1]).toArray.size := by rw [hc37]; exact iszCt
            have hic1 : (Try.prog.info? 44).map (·.size) = some (cu ++ [Value.slice ca1 rs.length cp1]).length := by rw [← List.size_toArray, hc37]; exact iszCt
            obtain ⟨cc1, hcc1⟩ : ∃ cc, Hid (cu ++ [Value.slice ca1 rs.length cp1] = cc) := ⟨_, hide rfl⟩
            rw [hcc1.out] at hc37 hc1 hic hic1 ⊢
            go_upto_region 21 with (refine wpList_store_mid rfl 44 _ _ rfl _ 0 cc1.toArray rfl rfl (there_newN _ _ _ hc37.symm) hic hc1 ?_)
            go_name_world w23 hw23
            obtain ⟨hBc, hC1, hltc, -⟩ := one_filled hw23 (by simpa using hc37)
            clear hw23 hc37 hc1 hic
            have hsg1 := hsg1.below hBc
            have hBi := hBi.trans (hBc.mono hbi)
            have hbi := hBi.size
            have hlt1 := hltc
            clear hBc
            have hXi := hX.below hBi
            have cXB := xbest_any X _ _ N st2 (kd : Int) need w23 hXi hl2
            go_wp2_with fail
            refine cXB.mono ?_
            rintro _ w24 ⟨o2, ht2, ca2, cp2, rfl, hsg2, hBa⟩
            clear cXB hXi
            obtain ⟨e1, e2, e3⟩ := HBS.out o2 ht2
            clear HBS ht2
            rw [← e2] at hsg2 ⊢
            rw [← e1, ← e3]
            rw [hcu.out]
            clear hcu e1 e2 e3
            have hsg1 := hsg1.below hBa
            have hC1 := range_below hC1 hBa (by omega)
            have hBi := hBi.trans (hBa.mono hbi)
            have hbi := hBi.size
            have hz2 := hBa.size
            clear hBa
            have hc37 : (cu ++ [Value.slice ca2 rs.length cp2]).toArray.size = 37 := by simp [hcv36]
            have hc1 : (cu ++ [Value.slice ca2 rs.length cp2]).toArray.all (·.oneCell') = true := cert_one _ hcvo
            have hic : (Try.prog.info? 44).map (·.size) = some (cu ++ [Value.slice ca2 rs.length cp2]).toArray.size := by rw [hc37]; exact iszCt
            have hic2 : (Try.prog.info? 44).map (·.size) = some (cu ++ [Value.slice ca2 rs.length cp2]).length := by rw [← List.size_toArray, hc37]; exact iszCt
            obtain ⟨cc2, hcc2⟩ : ∃ cc, Hid (cu ++ [Value.slice ca2 rs.length cp2] = cc) := ⟨_, hide rfl⟩
            rw [hcc2.out] at hc37 hc1 hic hic2 ⊢
            go_upto_region 22 with (refine wpList_store_mid rfl 44 _ _ rfl _ 0 cc2.toArray rfl rfl (there_newN _ _ _ hc37.symm) hic hc1 ?_)
            go_name_world w25 hw25
            obtain ⟨hBc, hC2, hltc, -⟩ := one_filled hw25 (by simpa using hc37)
            clear hw25 hc37 hc1 hic
            have hsg1 := hsg1.below hBc
            have hsg2 := hsg2.below hBc
            have hC1 := range_below hC1 hBc (by omega)
            have hBi := hBi.trans (hBc.mono hbi)
            have hbi := hBi.size
            clear hBc
            have cS1 := cS ca1 ca2 cp1 cp2 w25 hsg1 hsg2
            rw [hcc1.out, hcc2.out] at cS1
            clear cS hcc1 hcc2 hsg1 hsg2 hcvo hcv36
            go_wp2_with (first
              | (refine wpList_load_mid rfl 44 _ rfl w22.heap.size 0 rfl cc1 _ hC1 Try.underlying44 rfl hic1 ?_)
              | (refine wpList_load_mid rfl 44 _ rfl w24.heap.size 0 rfl cc2 _ hC2 Try.underlying44 rfl hic2 ?_))
            refine cS1.mono ?_
            rintro _ w26 ⟨rfl, hBa⟩
            have HI := hide (hBi.trans (hBa.mono hbi))
            clear cS1 hBi hBa hC1 hC2 hic1 hic2
            go_wp2_with fail
            go_roundw
            case rel => exact ⟨kd + 1, by omega, by go_num, HI⟩
            case measure => simp [intOf]; omega
          · obtain rfl : kd = 4 := by omega
            have HR : Hid (∃ (st : List On) (a : Option Addr) (cap : Nat), BookAt wr B b N st ∧ XAt wr X a cap N st ∧ st.length ≤ i + 1 ∧ Below w.heap.size w wr) := hide ⟨st2, _, _, hk.below hBi, hX.below hBi, by omega, hBB.trans (hBi.mono hbs)⟩
            clear hk hX hBB hBi
            go_wp2_with fail
            go_roundw
            case rel => exact ⟨i + 1, by omega, by go_num, HR⟩
            case measure => simp [intOf]; omega
      · obtain rfl : i = ys.length := by omega
        have cL := lives_any wr
        have hbs := hBB.size
        go_wp2_with fail
        refine cL.mono ?_
        rintro _ w3 ⟨rfl, hB3⟩
        go_wp2_with fail
        go_ret
        exact ⟨rfl, hBB.trans (hB3.mono hbs)⟩
end Go.Proofs.Ytogmkcabndgllaa
