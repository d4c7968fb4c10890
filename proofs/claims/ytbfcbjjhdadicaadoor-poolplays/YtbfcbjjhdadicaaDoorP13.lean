/- pool.In, Sweep, Clear -/
import Derived.Test.YtbfcbjjhdadicaaDoorP12
import Derived.Test.YtbfcbjjhdadicaaDoorP9
import Derived.Test.YtbfcbjjhdadicaaDoorJW
namespace Go.Proofs.YtbfcbjjhdadicaaDoor
open Go.RowKit
open Sha Tal
theorem ReqsAt.src {w : World} {a : Addr} {rs : List Rq} (h : ReqsAt w (some a) rs) (cap : Nat) : Src Tryd.prog 19 43 (.slice (some a) rs.length cap) rs.length (flatR rs) w := by
  refine Src.ofSlice _ Tryd.underlying43 a rs.length cap _ (flatR_length h.2.1) ?_ (flatR_one rs)
  intro j u hu
  rcases h.2.2 with rfl | ⟨b, off, he, h1, h2⟩
  · simp [flatR] at hu
  · cases he
    rw [Addr.add_mid]
    exact h2 j u hu
set_option maxRecDepth 100000 in
set_option maxHeartbeats 2000000 in
theorem clone_any (a : Option Addr) (cap : Nat) (rs : List Rq) (w : World) (h : ReqsAt w a rs) (hn : rs.length ≤ 100000) :
    Calls Tryd.prog 33 #[.slice a rs.length cap] w fun e w' => ∃ v, e = .returned v ∧ w'.ownsRow w.heap.size 35 19 v rs.length (flatR rs) ∧ Below w.heap.size w w' := by
  cases a with
  | none =>
    have hnil : rs = [] := by
      rcases h.2.2 with q | ⟨b, off, hx, _⟩
      · exact q
      · cases hx
    subst hnil
    have hn := fun w => Lib.run_eql_slice_nil (P := Tryd.prog) w 43 35 none 0 cap 0 0 Tryd.underlying43
    go_enter Tryd.func33, Tryd.ntmps33
    go_wp2
    go_ret
    exact ⟨_, rfl, World.ownsRow_nil _ _ _ _, Below.refl _ _⟩
  | some x =>
    obtain ⟨i, hi, hzz⟩ := Option.map_eq_some_iff.1 infoR
    simp only [Prod.mk.injEq] at hzz
    obtain ⟨hz, hs, hb⟩ := hzz
    have hb1 : Below w.heap.size w (w.alloc (.cells #[] 35)) := (Below.refl _ _).alloc (Nat.le_refl _) _
    have hown1 : (w.alloc (.cells #[] 35)).ownsRow w.heap.size 35 19 (.slice (some ⟨w.heap.size, 0, none⟩) 0 0) 0 [] :=
      ⟨rfl, .inr ⟨w.heap.size, 0, #[], rfl, Nat.le_refl _, heap_alloc_new w _, Nat.le_refl _, by unfold maxLen; omega, rfl, rfl⟩⟩
    have hsrc := (h.below hb1).src cap
    obtain ⟨v2, w2, hrun, hown2, hgrow2, -⟩ := run_append_own_src2 (P := Tryd.prog) (w.alloc (.cells #[] 35)) w.heap.size 43 43 43 35 i _ 19 48 Tryd.underlying43 hi hz hs hb (by rfl) _ 0 [] hown1 _ rs.length (flatR rs) hsrc (by unfold maxLen; omega) (by omega) hb1.size
    have hb2 : Below w.heap.size w w2 := hb1.grown hgrow2 hb1.size (fun k hk => (hown1.lt k hk).1)
    have hn := fun w => Lib.run_eql_slice_nil (P := Tryd.prog) w 43 35 (some x) rs.length cap 0 0 Tryd.underlying43
    clear hi hz hs hb
    go_enter Tryd.func33, Tryd.ntmps33
    go_wp2_with (at_builtin; refine wpList_append_run rfl _ _ 43 43 rfl _ _ v2 w2 rfl rfl hrun ?_)
    go_ret
    exact ⟨_, rfl, by simpa using hown2, hb2⟩
def inL (ls : List (List Rq)) (z : Int) : List Rq := if 0 ≤ z ∧ z < (ls.length : Int) then ls.getD z.toNat [] else []
set_option maxRecDepth 100000 in
set_option maxHeartbeats 2000000 in
theorem pin_any (P : Pl) (room : Nat) (ls : List (List Rq)) (z : Int) (w : World) (h : PoolAt w P room ls) :
    Calls Tryd.prog 17 #[ptr P, .int .i64 z] w fun e w' => ∃ v, e = .returned v ∧ w'.ownsRow w.heap.size 35 19 v (inL ls z).length (flatR (inL ls z)) ∧ Below w.heap.size w w' := by
  have cm := made_any P room ls w h.R
  have cB := isB_any P room ls z w h.R
  have q1 := h.R.c1
  by_cases hin : 0 ≤ z ∧ z < (ls.length : Int)
  · have HL : Hid (inL ls z = ls.getD z.toNat []) := hide (by unfold inL; rw [if_pos hin])
    rw [decide_eq_true hin] at cB
    obtain ⟨Z, rfl⟩ := Int.eq_ofNat_of_zero_le hin.1
    have hZ : Z < ls.length := by omega
    have hZI : (Z : Int) < (ls.length : Int) := by omega
    obtain ⟨l, hl⟩ : ∃ l, ls[Z]? = some l := ⟨ls[Z], List.getElem?_eq_getElem hZ⟩
    have HL2 : Hid (inL ls (Z : Int) = l) := hide (by rw [HL.out]; simp [List.getD, hl])
    rw [HL2.out]
    obtain ⟨v, hv⟩ : ∃ v, P.vs[Z]? = some v := ⟨P.vs[Z]'(by rw [h.R.vl]; exact hZ), List.getElem?_eq_getElem _⟩
    have hrk := h.R.rok l (List.mem_of_getElem? hl)
    have hlf : l.length ≤ 16 := Nat.le_trans (h.R.few l (List.mem_of_getElem? hl)) h.R.room
    obtain ⟨la, lcap, rfl, hlc, hlm, hRA, -⟩ := own_reqs0 (h.R.rows Z v l hv hl) hrk (by unfold maxLen; omega)
    have qo : w.cell? ⟨P.o, Z, none⟩ = some (.slice la l.length lcap) := by
      have := h.R.oc Z _ hv
      rwa [Nat.zero_add] at this
    have cc := clone_any la lcap l w hRA (by omega)
    clear HL HL2 hin hRA
    unfold ptr at cm cB ⊢
    go_enter Tryd.func17, Tryd.ntmps17
    go_wp2_with fail
    refine cm.mono ?_
    rintro e w' ⟨rfl, hw⟩
    obtain rfl := hw.symm
    clear cm hw
    go_wp2_with fail
    refine cB.mono ?_
    rintro e w' ⟨rfl, hw⟩
    obtain rfl := hw.symm
    clear cB hw
    go_wp2_with fail
    refine cc.mono ?_
    rintro e w2 ⟨v, rfl, ho, hb⟩
    clear cc
    go_wp2_with fail
    go_ret
    exact ⟨_, rfl, ho, hb⟩
  · have HL : Hid (inL ls z = []) := hide (by unfold inL; rw [if_neg hin])
    rw [decide_eq_false hin] at cB
    rw [HL.out]
    clear HL hin
    unfold ptr at cm cB ⊢
    go_enter Tryd.func17, Tryd.ntmps17
    go_wp2_with fail
    refine cm.mono ?_
    rintro e w' ⟨rfl, hw⟩
    obtain rfl := hw.symm
    clear cm hw
    go_wp2_with fail
    refine cB.mono ?_
    rintro e w' ⟨rfl, hw⟩
    obtain rfl := hw.symm
    clear cB hw
    go_wp2_with fail
    go_ret
    exact ⟨_, rfl, World.ownsRow_nil _ _ _ _, Below.refl _ _⟩
def doneQ (q : Int × Int) (n : Int) : Bool := Wn.doneW q.1 q.2.toNat n
def leftR (ws : List (Int × Int)) (r : Rq) : Bool := match ws[r.c.toNat]? with
  | none => true
  | some q => !doneQ q r.n
theorem done_q (q : Int × Int) (hq : winOk q) (n : Int) (hn : n ≤ 9223372036854775807) (w : World) :
    Calls Tryd.prog 24 #[.agg (winL q).toArray, .int .i64 n] w fun e w' => e = .returned (.bool (doneQ q n)) ∧ Below w.heap.size w w' := by
  have h := Wn.done_any q.1 q.2.toNat (by have := hq.2; omega) n hn w
  rw [Int.toNat_of_nonneg hq.2.1] at h
  exact h
set_option maxRecDepth 100000 in
set_option maxHeartbeats 2000000 in
theorem sweep1_any (ws : List (Int × Int)) (a : Option Addr) (cap X : Nat) (r : Rq) (w : World) (hr : r.ok) (h0 : 0 ≤ r.c) (hX : X < w.heap.size) (hc : w.cell? ⟨X, 0, none⟩ = some (.slice a ws.length cap)) (hw : RowOf winL w a ws) (hok : ∀ q ∈ ws, winOk q) :
    Calls Tryd.prog 39 (#[.agg r.cells.toArray] ++ #[.pointer (some ⟨X, 0, none⟩)]) w fun e w' => e = .returned (.bool (leftR ws r)) ∧ Below w.heap.size w w' := by
  have hB1 : Below w.heap.size w (w.alloc (.cells r.cells.toArray 35)) := (Below.refl _ _).alloc (Nat.le_refl _) _
  have hR1 : (w.alloc (.cells r.cells.toArray 35)).rangeAt w.heap.size 0 r.cells := by simpa using range_new w r.cells.toArray 35
  have hXW : w.heap.size < (w.alloc (.cells r.cells.toArray 35)).heap.size := by simp
  obtain ⟨C, hC⟩ := Int.eq_ofNat_of_zero_le h0
  have hch := hr.ch
  have hnh := hr.nh
  obtain ⟨u, hu⟩ : ∃ u, Hid (r.cells = u) := ⟨_, hide rfl⟩
  rw [hu.out] at hB1 hR1 hXW ⊢
  obtain ⟨W1, hW1⟩ : ∃ W1, w.alloc (.cells u.toArray 35) = W1 := ⟨_, rfl⟩
  rw [hW1] at hB1 hR1 hXW
  show Calls Tryd.prog 39 #[.agg u.toArray, .pointer (some ⟨X, 0, none⟩)] w _
  go_enter Tryd.func39, Tryd.ntmps39
  go_upto_region 1 with fail
  obtain ⟨w8, hw8⟩ : ∃ w8, W1.drew = w8 := ⟨_, rfl⟩
  have hB8 : Below w.heap.size w w8 := by rw [← hw8]; exact hB1.drew
  have hR8 : w8.rangeAt w.heap.size 0 u := by rw [← hw8]; exact (World.rangeAt_drew _ _ _ _).2 hR1
  have hX8 : w.heap.size < w8.heap.size := by rw [← hw8]; exact hXW
  rw [← hu.out] at hR8
  have x0 : ∀ w', Below w8.heap.size w8 w' → w'.cell? ⟨w.heap.size, 0, none⟩ = some (.int .i64 (C : Int)) := fun w' hw' => by rw [← hC]; exact (reqL_0 (range_below hR8 hw' hX8)).1
  have x1 : ∀ w', Below w8.heap.size w8 w' → w'.cell? ⟨w.heap.size, 1, none⟩ = some (.int .i64 r.n) := fun w' hw' => (reqL_0 (range_below hR8 hw' hX8)).2.1
  have xc : ∀ w', Below w8.heap.size w8 w' → w'.cell? ⟨X, 0, none⟩ = some (.slice a ws.length cap) := fun w' hw' => cell_at hc ((hB8.trans (hw'.mono hB8.size)).block X hX)
  have HV : Hid (leftR ws r = match ws[C]? with | none => true | some q => !doneQ q r.n) := hide (by unfold leftR; rw [hC]; rfl)
  by_cases hlt : C < ws.length
  · obtain ⟨wb, woff, rfl, hwb, hre⟩ := (hw.below hB8).elem (k := 2) (fun _ _ => rfl) C hlt
    have hqk := hok _ (List.getElem_mem hlt)
    rw [List.getElem?_eq_getElem hlt] at HV
    obtain ⟨q, hq⟩ : ∃ q, Hid (ws[C] = q) := ⟨_, hide rfl⟩
    rw [hq.out] at hre hqk HV
    have HV2 : Hid (leftR ws r = !doneQ q r.n) := hide HV.out
    have hge : ¬ (ws.length : Int) ≤ (C : Int) := by omega
    have hCI : (C : Int) < (ws.length : Int) := by omega
    have kw : ∀ w', Below w8.heap.size w8 w' → w'.rangeAt wb (woff + C * 2) (winL q) := fun w' hw' => range_below hre hw' hwb
    have hiw : (Tryd.prog.info? 69).map (·.size) = some (winL q).length := by kernel_rfl
    have cd := done_q q hqk r.n hnh
    generalize doneQ q r.n = D at *
    clear HV hre
    refine hs_begin (S := (Below w8.heap.size w8)) 17 rfl (by kernel_rfl) ?_
    rw [hw8]
    have hS : (Below w8.heap.size w8) w8 := Below.refl _ _
    refine hs_take (i := 0) (d := some 4) (v := ?_) rfl (by kernel_rfl) (by kernel_rfl) (by kernel_rfl) (by rfl) ?_ hS rfl ?_
    rotate_left
    · intro w' hw
      go_simp
      try with_reducible rfl
    simp only [Act.put, List.setIfInBounds_toArray, List.set_cons_zero, List.set_cons_succ]
    refine hs_take (i := 1) (d := some 5) (v := ?_) rfl (by kernel_rfl) (by kernel_rfl) (by kernel_rfl) (by rfl) ?_ hS rfl ?_
    rotate_left
    · intro w' hw
      have hc := x0 w' hw
      go_simp
      try with_reducible rfl
    simp only [Act.put, List.setIfInBounds_toArray, List.set_cons_zero, List.set_cons_succ]
    refine hs_take (i := 2) (d := some 6) (v := ?_) rfl (by kernel_rfl) (by kernel_rfl) (by kernel_rfl) (by rfl) ?_ hS rfl ?_
    rotate_left
    · intro w' hw
      have hc := xc w' hw
      go_simp
      try with_reducible rfl
    simp only [Act.put, List.setIfInBounds_toArray, List.set_cons_zero, List.set_cons_succ]
    refine hs_take (i := 3) (d := some 7) (v := ?_) rfl (by kernel_rfl) (by kernel_rfl) (by kernel_rfl) (by rfl) ?_ hS rfl ?_
    rotate_left
    · intro w' hw
      go_simp
      try with_reducible rfl
    simp only [Act.put, List.setIfInBounds_toArray, List.set_cons_zero, List.set_cons_succ]
    refine hs_take (i := 4) (d := some 8) (v := .bool false) rfl (by kernel_rfl) (by kernel_rfl) (by kernel_rfl) (by rfl) (fun w' hw => by go_simp) hS rfl ?_
    simp only [Act.put, List.setIfInBounds_toArray, List.set_cons_zero, List.set_cons_succ]
    refine hs_take (i := 5) (d := some 9) (v := ?_) rfl (by kernel_rfl) (by kernel_rfl) (by kernel_rfl) (by rfl) ?_ hS rfl ?_
    rotate_left
    · intro w' hw
      go_simp
      try with_reducible rfl
    simp only [Act.put, List.setIfInBounds_toArray, List.set_cons_zero, List.set_cons_succ]
    refine hs_take (i := 6) (d := some 10) (v := ?_) rfl (by kernel_rfl) (by kernel_rfl) (by kernel_rfl) (by rfl) ?_ hS rfl ?_
    rotate_left
    · intro w' hw
      have hc := xc w' hw
      go_simp
      try with_reducible rfl
    simp only [Act.put, List.setIfInBounds_toArray, List.set_cons_zero, List.set_cons_succ]
    refine hs_take (i := 7) (d := some 11) (v := ?_) rfl (by kernel_rfl) (by kernel_rfl) (by kernel_rfl) (by rfl) ?_ hS rfl ?_
    rotate_left
    · intro w' hw
      go_simp
      try with_reducible rfl
    simp only [Act.put, List.setIfInBounds_toArray, List.set_cons_zero, List.set_cons_succ]
    refine hs_take (i := 8) (d := some 12) (v := ?_) rfl (by kernel_rfl) (by kernel_rfl) (by kernel_rfl) (by rfl) ?_ hS rfl ?_
    rotate_left
    · intro w' hw
      have hc := x0 w' hw
      go_simp
      try with_reducible rfl
    simp only [Act.put, List.setIfInBounds_toArray, List.set_cons_zero, List.set_cons_succ]
    refine hs_take (i := 9) (d := some 13) (v := ?_) rfl (by kernel_rfl) (by kernel_rfl) (by kernel_rfl) (by rfl) ?_ hS rfl ?_
    rotate_left
    · intro w' hw
      go_simp
      try with_reducible rfl
    simp only [Act.put, List.setIfInBounds_toArray, List.set_cons_zero, List.set_cons_succ]
    refine hs_take (i := 11) (d := some 15) (v := ?_) rfl (by kernel_rfl) (by kernel_rfl) (by kernel_rfl) (by rfl) ?_ hS rfl ?_
    rotate_left
    · intro w' hw
      go_simp
      try with_reducible rfl
    simp only [Act.put, List.setIfInBounds_toArray, List.set_cons_zero, List.set_cons_succ]
    refine hs_take (i := 12) (d := some 16) (v := ?_) rfl (by kernel_rfl) (by kernel_rfl) (by kernel_rfl) (by rfl) ?_ hS rfl ?_
    rotate_left
    · intro w' hw
      have hc := x1 w' hw
      go_simp
      try with_reducible rfl
    simp only [Act.put, List.setIfInBounds_toArray, List.set_cons_zero, List.set_cons_succ]
    refine hs_take (i := 10) (d := some 14) (v := .agg (winL q).toArray) rfl (by kernel_rfl) (by kernel_rfl) (by kernel_rfl) (by rfl) (fun w' hw => exec_load rfl rfl (run_loadVar_mid (P := Tryd.prog) w' wb (woff + C * 2) 69 (winL q) _ (kw w' hw) Tryd.underlying69 rfl hiw)) hS rfl ?_
    simp only [Act.put, List.setIfInBounds_toArray, List.set_cons_zero, List.set_cons_succ]
    refine hs_call (i := 13) (d := some 17) rfl (by kernel_rfl) (by rfl) (by go_simp; first | done | exact ⟨rfl, rfl⟩ | with_reducible rfl) rfl ?_
    refine (cd w8).mono ?_
    rintro e' wA ⟨rfl, hbA⟩
    have hS : (Below w8.heap.size w8) wA := hbA
    refine ⟨_, rfl, hS, ?_⟩
    simp only [Act.put, List.setIfInBounds_toArray, List.set_cons_zero, List.set_cons_succ]
    refine hs_take (i := 14) (d := some 18) (v := ?_) rfl (by kernel_rfl) (by kernel_rfl) (by kernel_rfl) (by rfl) ?_ hS rfl ?_
    rotate_left
    · intro w' hw
      go_simp
      try with_reducible rfl
    simp only [Act.put, List.setIfInBounds_toArray, List.set_cons_zero, List.set_cons_succ]
    refine hs_take (i := 15) (d := some 19) (v := ?_) rfl (by kernel_rfl) (by kernel_rfl) (by kernel_rfl) (by rfl) ?_ hS rfl ?_
    rotate_left
    · intro w' hw
      go_simp
      try with_reducible rfl
    simp only [Act.put, List.setIfInBounds_toArray, List.set_cons_zero, List.set_cons_succ]
    refine hs_take (i := 16) (d := some 3) (v := ?_) rfl (by kernel_rfl) (by kernel_rfl) (by kernel_rfl) (by rfl) ?_ hS rfl ?_
    rotate_left
    · intro w' hw
      go_simp
      try with_reducible rfl
    simp only [Act.put, List.setIfInBounds_toArray, List.set_cons_zero, List.set_cons_succ]
    refine hs_done (by kernel_rfl) ?_
    go_wp2_with fail
    go_ret
    exact ⟨by rw [HV2.out]; rfl, hB8.trans (hS.mono hB8.size)⟩
  · rw [List.getElem?_eq_none (by omega)] at HV
    have HV2 : Hid (leftR ws r = true) := hide HV.out
    have hge : (ws.length : Int) ≤ (C : Int) := by omega
    clear HV
    refine hs_begin (S := (Below w8.heap.size w8)) 17 rfl (by kernel_rfl) ?_
    rw [hw8]
    have hS : (Below w8.heap.size w8) w8 := Below.refl _ _
    refine hs_take (i := 0) (d := some 4) (v := ?_) rfl (by kernel_rfl) (by kernel_rfl) (by kernel_rfl) (by rfl) ?_ hS rfl ?_
    rotate_left
    · intro w' hw
      go_simp
      try with_reducible rfl
    simp only [Act.put, List.setIfInBounds_toArray, List.set_cons_zero, List.set_cons_succ]
    refine hs_take (i := 1) (d := some 5) (v := ?_) rfl (by kernel_rfl) (by kernel_rfl) (by kernel_rfl) (by rfl) ?_ hS rfl ?_
    rotate_left
    · intro w' hw
      have hc := x0 w' hw
      go_simp
      try with_reducible rfl
    simp only [Act.put, List.setIfInBounds_toArray, List.set_cons_zero, List.set_cons_succ]
    refine hs_take (i := 2) (d := some 6) (v := ?_) rfl (by kernel_rfl) (by kernel_rfl) (by kernel_rfl) (by rfl) ?_ hS rfl ?_
    rotate_left
    · intro w' hw
      have hc := xc w' hw
      go_simp
      try with_reducible rfl
    simp only [Act.put, List.setIfInBounds_toArray, List.set_cons_zero, List.set_cons_succ]
    refine hs_take (i := 3) (d := some 7) (v := ?_) rfl (by kernel_rfl) (by kernel_rfl) (by kernel_rfl) (by rfl) ?_ hS rfl ?_
    rotate_left
    · intro w' hw
      go_simp
      try with_reducible rfl
    simp only [Act.put, List.setIfInBounds_toArray, List.set_cons_zero, List.set_cons_succ]
    refine hs_take (i := 4) (d := some 8) (v := .bool true) rfl (by kernel_rfl) (by kernel_rfl) (by kernel_rfl) (by rfl) (fun w' hw => by go_simp) hS rfl ?_
    simp only [Act.put, List.setIfInBounds_toArray, List.set_cons_zero, List.set_cons_succ]
    refine hs_take (i := 5) (d := some 9) (v := ?_) rfl (by kernel_rfl) (by kernel_rfl) (by kernel_rfl) (by rfl) ?_ hS rfl ?_
    rotate_left
    · intro w' hw
      go_simp
      try with_reducible rfl
    simp only [Act.put, List.setIfInBounds_toArray, List.set_cons_zero, List.set_cons_succ]
    refine hs_skip (i := 6) (d := some 10) rfl (by kernel_rfl) (by kernel_rfl) (by kernel_rfl) (by rfl) hS rfl ?_
    simp only [Act.put, List.setIfInBounds_toArray, List.set_cons_zero, List.set_cons_succ]
    refine hs_skip (i := 7) (d := some 11) rfl (by kernel_rfl) (by kernel_rfl) (by kernel_rfl) (by rfl) hS rfl ?_
    simp only [Act.put, List.setIfInBounds_toArray, List.set_cons_zero, List.set_cons_succ]
    refine hs_skip (i := 8) (d := some 12) rfl (by kernel_rfl) (by kernel_rfl) (by kernel_rfl) (by rfl) hS rfl ?_
    simp only [Act.put, List.setIfInBounds_toArray, List.set_cons_zero, List.set_cons_succ]
    refine hs_skip (i := 9) (d := some 13) rfl (by kernel_rfl) (by kernel_rfl) (by kernel_rfl) (by rfl) hS rfl ?_
    simp only [Act.put, List.setIfInBounds_toArray, List.set_cons_zero, List.set_cons_succ]
    refine hs_skip (i := 10) (d := some 14) rfl (by kernel_rfl) (by kernel_rfl) (by kernel_rfl) (by rfl) hS rfl ?_
    simp only [Act.put, List.setIfInBounds_toArray, List.set_cons_zero, List.set_cons_succ]
    refine hs_skip (i := 11) (d := some 15) rfl (by kernel_rfl) (by kernel_rfl) (by kernel_rfl) (by rfl) hS rfl ?_
    simp only [Act.put, List.setIfInBounds_toArray, List.set_cons_zero, List.set_cons_succ]
    refine hs_skip (i := 12) (d := some 16) rfl (by kernel_rfl) (by kernel_rfl) (by kernel_rfl) (by rfl) hS rfl ?_
    simp only [Act.put, List.setIfInBounds_toArray, List.set_cons_zero, List.set_cons_succ]
    refine hs_skip (i := 13) (d := some 17) rfl (by kernel_rfl) (by kernel_rfl) (by kernel_rfl) (by rfl) hS rfl ?_
    simp only [Act.put, List.setIfInBounds_toArray, List.set_cons_zero, List.set_cons_succ]
    refine hs_skip (i := 14) (d := some 18) rfl (by kernel_rfl) (by kernel_rfl) (by kernel_rfl) (by rfl) hS rfl ?_
    simp only [Act.put, List.setIfInBounds_toArray, List.set_cons_zero, List.set_cons_succ]
    refine hs_take (i := 15) (d := some 19) (v := .bool true) rfl (by kernel_rfl) (by kernel_rfl) (by kernel_rfl) (by rfl) (fun w' hw => by go_simp) hS rfl ?_
    simp only [Act.put, List.setIfInBounds_toArray, List.set_cons_zero, List.set_cons_succ]
    refine hs_take (i := 16) (d := some 3) (v := ?_) rfl (by kernel_rfl) (by kernel_rfl) (by kernel_rfl) (by rfl) ?_ hS rfl ?_
    rotate_left
    · intro w' hw
      go_simp
      try with_reducible rfl
    simp only [Act.put, List.setIfInBounds_toArray, List.set_cons_zero, List.set_cons_succ]
    refine hs_done (by kernel_rfl) ?_
    go_wp2_with fail
    go_ret
    exact ⟨by rw [HV2.out]; rfl, hB8⟩
theorem call_sweep1 : ∀ args w, (callFunc 39 args).run Tryd.prog w = .ok (.enter 39 args) w := enters_of Tryd.func39 (by kernel_rfl) rfl
theorem call_clear1 : ∀ args w, (callFunc 42 args).run Tryd.prog w = .ok (.enter 42 args) w := enters_of Tryd.func42 (by kernel_rfl) rfl
set_option maxRecDepth 100000 in
set_option maxHeartbeats 2000000 in
theorem psweep_any (P : Pl) (room : Nat) (ls : List (List Rq)) (a : Option Addr) (cap : Nat) (ws : List (Int × Int)) (w : World) (h : PoolAt w P room ls) (hw : RowOf winL w a ws) (hok : ∀ q ∈ ws, winOk q) (hap : ws = [] ∨ ∀ x, a = some x → ¬ P.own x.block) :
    Calls Tryd.prog 20 #[ptr P, .slice a ws.length cap] w fun e w' => ∃ N : Nat, e = .returned (.int .i64 (N : Int)) ∧ N + (flatP (ls.map (List.filter (leftR ws)))).length = (flatP ls).length ∧ ∃ Q : Pl, Q.p = P.p ∧ PoolAt w' Q room (ls.map (List.filter (leftR ws))) ∧ Off P.own w w' ∧ ∀ b, Q.own b → P.own b ∨ w.heap.size ≤ b := by
  have hB1 : Below w.heap.size w (w.alloc (.cells #[.slice a ws.length cap] 38)) := (Below.refl _ _).alloc (Nat.le_refl _) _
  have hc1 : (w.alloc (.cells #[.slice a ws.length cap] 38)).cell? ⟨w.heap.size, 0, none⟩ = some (.slice a ws.length cap) := (range_new w #[.slice a ws.length cap] 38) 0 _ rfl
  have hs1 : w.heap.size < (w.alloc (.cells #[.slice a ws.length cap] 38)).heap.size := by simp
  obtain ⟨W1, hW1⟩ : ∃ W1, w.alloc (.cells #[.slice a ws.length cap] 38) = W1 := ⟨_, rfl⟩
  rw [hW1] at hB1 hc1 hs1
  have h1 := h.below hB1
  have cm := made_any P room ls W1 h1.R
  have hnX : ¬ P.own w.heap.size := fun q => by have := h.R.own_lt q; omega
  have ck := keep_any P room ls 39 call_sweep1 #[.pointer (some ⟨w.heap.size, 0, none⟩)] (leftR ws) W1 h1 (fun r W hr h0 _ hoff => by
    have hrow : RowOf winL W a ws := by
      rcases hap with hap | hap
      · exact .inl hap
      · rcases hw.below hB1 with q | ⟨b, off, rfl, hb, hr2⟩
        · exact .inl q
        · exact .inr ⟨b, off, rfl, Nat.lt_of_lt_of_le hb hoff.size, range_at hr2 (hoff.2 b hb (hap _ rfl))⟩
    exact sweep1_any ws a cap w.heap.size r W hr h0 (Nat.lt_of_lt_of_le hs1 hoff.size) (cell_at hc1 (hoff.2 _ hs1 hnX)) hrow hok)
  unfold ptr at cm ck ⊢
  clear hc1 hs1
  go_enter Tryd.func20, Tryd.ntmps20
  go_wp2_with fail
  refine cm.mono ?_
  rintro e w' ⟨rfl, hx⟩
  obtain rfl := hx.symm
  clear cm hx
  go_wp2_with fail
  refine ck.mono ?_
  rintro e w2 ⟨N, rfl, hN, Q, hp, hq, hoff, hown⟩
  clear ck
  go_wp2_with fail
  go_ret
  exact ⟨N, rfl, hN, Q, hp, hq, (Off.of_below (F := P.own) hB1).trans hoff (fun _ _ q => q), fun b hb => (hown b hb).imp id (fun q => Nat.le_trans hB1.size q)⟩
set_option maxRecDepth 100000 in
theorem clear1_any (r : Rq) (w : World) : Calls Tryd.prog 42 (#[.agg r.cells.toArray] ++ #[]) w fun e w' => e = .returned (.bool false) ∧ Below w.heap.size w w' := by
  have hB1 : Below w.heap.size w (w.alloc (.cells r.cells.toArray 35)) := (Below.refl _ _).alloc (Nat.le_refl _) _
  obtain ⟨u, hu⟩ : ∃ u, Hid (r.cells = u) := ⟨_, hide rfl⟩
  rw [hu.out] at hB1 ⊢
  show Calls Tryd.prog 42 #[.agg u.toArray] w _
  go_enter Tryd.func42, Tryd.ntmps42
  go_wp2_with fail
  go_ret
  exact ⟨rfl, hB1⟩
set_option maxRecDepth 100000 in
set_option maxHeartbeats 2000000 in
theorem pclear_any (P : Pl) (room : Nat) (ls : List (List Rq)) (w : World) (h : PoolAt w P room ls) :
    Calls Tryd.prog 22 #[ptr P] w fun e w' => e = .returned (.int .i64 0) ∧ ∃ Q : Pl, Q.p = P.p ∧ PoolAt w' Q room (ls.map (List.filter (fun _ => false))) ∧ Off P.own w w' ∧ ∀ b, Q.own b → P.own b ∨ w.heap.size ≤ b := by
  have cm := made_any P room ls w h.R
  have ck := keep_any P room ls 42 call_clear1 #[] (fun _ => false) w h (fun r W _ _ _ _ => clear1_any r W)
  unfold ptr at cm ck ⊢
  go_enter Tryd.func22, Tryd.ntmps22
  go_wp2_with fail
  refine cm.mono ?_
  rintro e w' ⟨rfl, hx⟩
  obtain rfl := hx.symm
  clear cm hx
  go_wp2_with fail
  refine ck.mono ?_
  rintro e w2 ⟨N, rfl, -, Q, hp, hq, hoff, hown⟩
  clear ck
  go_wp2_with fail
  go_ret
  exact ⟨rfl, Q, hp, hq, hoff, hown⟩
theorem psweep_in {w0 w : World} {P : Pl} {room : Nat} {ls : List (List Rq)} (h : PoolIn w0 w P room ls) {a : Option Addr} {cap : Nat} {ws : List (Int × Int)} (hw : RowOf winL w0 a ws) (hok : ∀ q ∈ ws, winOk q) :
    Calls Tryd.prog 20 #[ptr P, .slice a ws.length cap] w fun e w' => ∃ N : Nat, e = .returned (.int .i64 (N : Int)) ∧ N + (flatP (ls.map (List.filter (leftR ws)))).length = (flatP ls).length ∧ ∃ Q : Pl, ptr Q = ptr P ∧ PoolIn w0 w' Q room (ls.map (List.filter (leftR ws))) ∧ Off P.own w w' ∧ ∀ b, Q.own b → P.own b ∨ w.heap.size ≤ b := by
  have hap : ws = [] ∨ ∀ x, a = some x → ¬ P.own x.block := by
    rcases hw with q | ⟨b, off, rfl, hb, -⟩
    · exact .inl q
    · refine .inr (fun x hx hq => ?_)
      cases hx
      have := h.own _ hq
      simp only at this
      omega
  refine (psweep_any P room ls a cap ws w h.at_ (hw.below h.b) hok hap).mono ?_
  rintro e w' ⟨N, he, hN, Q, hp, hq, hoff, hown⟩
  refine ⟨N, he, hN, Q, by unfold ptr; rw [hp], ⟨hq, h.b.trans (hoff.below h.b.size (fun b hb hx => by have := h.own b hx; omega)), fun b hb => ?_⟩, hoff, hown⟩
  rcases hown b hb with q | q
  · exact h.own b q
  · have := h.b.size; omega
theorem pclear_in {w0 w : World} {P : Pl} {room : Nat} {ls : List (List Rq)} (h : PoolIn w0 w P room ls) :
    Calls Tryd.prog 22 #[ptr P] w fun e w' => e = .returned (.int .i64 0) ∧ ∃ Q : Pl, ptr Q = ptr P ∧ PoolIn w0 w' Q room (ls.map (List.filter (fun _ => false))) ∧ Off P.own w w' ∧ ∀ b, Q.own b → P.own b ∨ w.heap.size ≤ b := by
  refine (pclear_any P room ls w h.at_).mono ?_
  rintro e w' ⟨he, Q, hp, hq, hoff, hown⟩
  refine ⟨he, Q, by unfold ptr; rw [hp], ⟨hq, h.b.trans (hoff.below h.b.size (fun b hb hx => by have := h.own b hx; omega)), fun b hb => ?_⟩, hoff, hown⟩
  rcases hown b hb with q | q
  · exact h.own b q
  · have := h.b.size; omega
end Go.Proofs.YtbfcbjjhdadicaaDoor
