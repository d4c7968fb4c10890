/- leaders.Penalize: a contract. -/
import Derived.Test.YtnndlgdlligjbaaLBuckets
import Derived.Test.YtnndlgdlligjbaaLRound
import Derived.Laws.MakeOwn
import Derived.Maps.OwnIn
import Derived.Test.YtnndlgdlligjbaaFork
import Derived.Laws.EntriesVeiled
namespace Go.Proofs.Ytnndlgdlligjbaa
open Go.RowKit Go.Shelf
attribute [local go_sem] Oper.semAt_some
theorem penalL_no {c : Cfg} {x : Int} {zs bad : List Int} (h : mayC c x = false) : penalL c x zs bad = [] := by simp [penalL, h]
theorem penalL_yes {c : Cfg} {x : Int} {zs bad : List Int} (h : mayC c x = true) {N : Nat} (hn : c.n = (N : Int)) : penalL c x zs bad = penalN (x + 1 + c.pe) zs bad N := by simp [penalL, h, hn]
theorem make0 (N : Nat) (h : N ≤ 64) (w : World) : (Instr.makeSlice 24 (.int .i64 0) (.int .i64 (N : Int))).run Try.prog w = .ok (.slice (some ⟨w.heap.size, 0, none⟩) 0 N) (w.alloc (.cells (madeCells #[.int .i64 0] N) 3)) := by
  obtain ⟨i0, hi, hz0, hz1, hz2⟩ := info_parts info3
  have := run_make (P := Try.prog) w 24 3 i0 (.int .i64 0) Try.underlying24 hi hz0 .i64 .i64 0 (N : Int) (by omega) (by omega) (by rw [hz2]; omega) (by omega)
  rw [hz1] at this
  simpa [Value.cells] using this
theorem made_own (w : World) (N : Nat) (h : N ≤ 64) : (w.alloc (.cells (madeCells #[.int .i64 0] N) 3)).ownsRow w.heap.size 3 1 (.slice (some ⟨w.heap.size, 0, none⟩) 0 N) 0 [] := by
  refine ⟨by simp, .inr ⟨w.heap.size, N, _, rfl, Nat.le_refl _, World.alloc_heap_new w _, by omega, by unfold maxLen; omega, by rw [size_madeCells]; omega, by simp⟩⟩
/-- what the loop has told of the nodes so far -/
def penOf (x : Int) (zs bad : List Int) (N : Nat) (pre : List Nat) : List Int := pre.map fun (k : Nat) => if amB N (memB bad) (k : Int) = true then x else penI zs k
theorem penOf_snoc (x : Int) (zs bad : List Int) (N : Nat) (pre : List Nat) (k : Nat) : penOf x zs bad N (pre ++ [k]) = penOf x zs bad N pre ++ [if amB N (memB bad) (k : Int) = true then x else penI zs k] := by simp [penOf]
theorem penOf_all (x : Int) (zs bad : List Int) (N : Nat) : penOf x zs bad N (List.range N) = penalN x zs bad N := by
  unfold penOf penalN
  apply List.map_congr_left
  intro k hk
  rw [amB_in (List.mem_range.1 hk)]
  simp [memB]
def ivals (l : List Int) : List Value := l.map (Value.int .i64)
theorem ivals_snoc (l : List Int) (x : Int) : ivals (l ++ [x]) = ivals l ++ [Value.int .i64 x] := by simp [ivals]
theorem exec_append {P : Program} {o : Oper} {a : Act} {w w' : World} {s x : Operand} {t tx : TypeId} {v xv v' : Value} (ho : o.op = .call { callee := .builtin .append, args := #[s, x], argTypes := #[t, tx] }) (hv : a.eval s = v) (hx : a.eval x = xv)
    (hr : (Builtin.append_ #[t, tx] o.type #[v, xv]).run P w = .ok v' w') : (execOp a.eval o).run P w = .ok (.value v') w' := by
  unfold execOp
  simp only [ho, resolve, invoke, builtin, Sem.run_bind, Sem.run_pure, Result.andThen_ok, List.map_toArray, List.map_cons, List.map_nil, hv, hx, hr]
theorem appended_keeps2 {W w1 : World} {B : Nat} {v v' : Value} {tmp : Obj} (hgrow : (W.alloc tmp).grownBy w1 v.ownBlock) {K : Nat} (hK : v.ownBlock ≠ some K) (hne : K ≠ B) : KeepsAt K W (w1.setCell ⟨B, 0, none⟩ v') := by
  intro hb
  have e1 : (w1.setCell ⟨B, 0, none⟩ v').heap[K]? = w1.heap[K]? := (grownBy_setCell' w1 B v').block K (by have := hgrow.size; simp at this; omega) (by simp; exact hne)
  have e2 : w1.heap[K]? = (W.alloc tmp).heap[K]? := hgrow.block K (by simp; omega) hK.symm
  rw [e1, e2]
  exact Below.heap_alloc W tmp K hb
def RowOk (p q : Nat) (v : Value) : Prop := ∀ g, v.ownBlock = some g → g = p ∨ q ≤ g
theorem RowOk.ne {p q : Nat} {v : Value} (h : RowOk p q v) {K : Nat} (h1 : K ≠ p) (h2 : K < q) : v.ownBlock ≠ some K := fun e => by
  rcases h K e with h | h <;> omega
theorem RowOk.next {p q n : Nat} {v v' : Value} (h : RowOk p q v) (hn : v'.ownBlock = v.ownBlock ∨ v'.ownBlock = some n) (hq : q ≤ n) : RowOk p q v' := fun g hg => by
  rcases hn with e | e
  · exact h g (e ▸ hg)
  · rw [e] at hg; cases hg; exact .inr hq
theorem penOf_yes {x : Int} {zs bad : List Int} {N : Nat} {pre : List Nat} {k : Nat} (h : amB N (memB bad) (k : Int) = true) : penOf x zs bad N (pre ++ [k]) = penOf x zs bad N pre ++ [x] := by rw [penOf_snoc, if_pos h]
theorem penOf_no {x : Int} {zs bad : List Int} {N : Nat} {pre : List Nat} {k : Nat} (h : amB N (memB bad) (k : Int) = false) : penOf x zs bad N (pre ++ [k]) = penOf x zs bad N pre ++ [penI zs k] := by rw [penOf_snoc, if_neg (by rw [h]; simp)]
theorem penOf_len (x : Int) (zs bad : List Int) (N : Nat) (pre : List Nat) : (penOf x zs bad N pre).length = pre.length := by simp [penOf]
set_option maxRecDepth 100000 in
set_option maxHeartbeats 4000000 in
theorem penalize_in (F : Fence) (hFw : Hid (F = Fence.wide)) (h19 : F.fn 19) (h34 : F.fn 34) (h43 : F.fn 43) (h45 : F.fn 45) (h54 : F.fn 54) (h55 : F.fn 55) (h37 : F.fn 37) (hro : F.round = none)
    (c : Cfg) (x : Int) (a : Option Addr) (cap : Nat) (zs : List Int) (a2 : Option Addr) (cap2 : Nat) (bad : List Int) (w : World) (hr : RowI w a zs) (hr2 : RowI w a2 bad) (hl2 : bad.length ≤ 100000) :
    CallsIn F 8 Try.prog 19 #[(.agg #[.int .i64 c.n, .int .i64 c.cl, .int .i64 c.wi, .int .i64 c.bu, .int .i64 c.ca, .int .i64 c.sl, .int .i64 c.rq, .int .i64 c.ti, .int .i64 c.pe, .int .i64 c.la]), .int .i64 x, .slice a zs.length cap, .slice a2 bad.length cap2] w fun e w' => ∃ v, e = .returned v ∧ w'.ownsRow w.heap.size 3 1 v (penalL c x zs bad).length (ivals (penalL c x zs bad)) ∧ Below w.heap.size w w' := by
  obtain ⟨i0, hi, hz0, hz1, hz2⟩ := info_parts info3
  have hB3 : Below w.heap.size w (((w.alloc (.cells #[.int .i64 c.n, .int .i64 c.cl, .int .i64 c.wi, .int .i64 c.bu, .int .i64 c.ca, .int .i64 c.sl, .int .i64 c.rq, .int .i64 c.ti, .int .i64 c.pe, .int .i64 c.la] 23)).alloc (.cells #[.int .i64 x] 3)).alloc (.cells #[.slice a zs.length cap] 24)) := (((Below.refl _ w).alloc (Nat.le_refl _) _).alloc (by simp) _).alloc (by simp; omega) _
  have k0 := ((CfgAt.new w c).alloc (.cells #[.int .i64 x] 3)).alloc (.cells #[.slice a zs.length cap] 24)
  have k1 := (Boxed.new (w.alloc (.cells #[.int .i64 c.n, .int .i64 c.cl, .int .i64 c.wi, .int .i64 c.bu, .int .i64 c.ca, .int .i64 c.sl, .int .i64 c.rq, .int .i64 c.ti, .int .i64 c.pe, .int .i64 c.la] 23)) 3 (.int .i64 x)).alloc (.cells #[.slice a zs.length cap] 24)
  have k2 := Boxed.new ((w.alloc (.cells #[.int .i64 c.n, .int .i64 c.cl, .int .i64 c.wi, .int .i64 c.bu, .int .i64 c.ca, .int .i64 c.sl, .int .i64 c.rq, .int .i64 c.ti, .int .i64 c.pe, .int .i64 c.la] 23)).alloc (.cells #[.int .i64 x] 3)) 24 (.slice a zs.length cap)
  have hs3 : (((w.alloc (.cells #[.int .i64 c.n, .int .i64 c.cl, .int .i64 c.wi, .int .i64 c.bu, .int .i64 c.ca, .int .i64 c.sl, .int .i64 c.rq, .int .i64 c.ti, .int .i64 c.pe, .int .i64 c.la] 23)).alloc (.cells #[.int .i64 x] 3)).alloc (.cells #[.slice a zs.length cap] 24)).heap.size = w.heap.size + 3 := by simp only [World.size_alloc]
  simp only [World.size_alloc] at k1 k2
  have c1 := fun w => callsIn_of (n := 8 - 1) (mayBe_any c x w) F hFw.out
  refine callsIn_of_wp_marks Try.func19 rfl h19 ?_ hro
  simp only [Try.ntmps19, List.size_toArray, List.length_cons, List.length_nil, Nat.reduceAdd, Nat.reduceSub, Array.replicate_succ, Array.replicate_zero, List.push_toArray, List.append_toArray, List.nil_append, List.cons_append]
  gi_wp2_with (gi_at_call 34; fail)
  obtain ⟨w3, hw3⟩ : ∃ w3, ((w.alloc (.cells #[.int .i64 c.n, .int .i64 c.cl, .int .i64 c.wi, .int .i64 c.bu, .int .i64 c.ca, .int .i64 c.sl, .int .i64 c.rq, .int .i64 c.ti, .int .i64 c.pe, .int .i64 c.la] 23)).alloc (.cells #[.int .i64 x] 3)).alloc (.cells #[.slice a zs.length cap] 24) = w3 := ⟨_, rfl⟩
  rw [hw3] at hB3 k0 k1 k2 hs3 ⊢
  clear hw3
  cases hm : mayC c x
  · have HL := hide (penalL_no (zs := zs) (bad := bad) hm)
    simp only [hm] at c1
    clear hm
    refine (c1 w3).mono ?_
    rintro e w4 ⟨rfl, hb4⟩
    gi_wp2
    refine ⟨_, results_tmp rfl _ _ _, _, rfl, by rw [HL.out]; exact World.ownsRow_nil _ _ _ _, hB3.trans (hb4.mono (by omega))⟩
  · simp only [hm] at c1
    obtain ⟨hg, N, B, E, ok, rfl, hE1, hE2⟩ := mayC_ok hm
    have HL := hide (penalL_yes (zs := zs) (bad := bad) hm ok.n)
    have hN1 : 1 ≤ N := by have := ok.n4; omega
    have hN64 := ok.n64
    have hpe := ok.pe
    refine (c1 w3).mono ?_
    rintro e w4 ⟨rfl, hb4⟩
    have hB4 : Below w.heap.size w w4 := hB3.trans (hb4.mono (by omega))
    have k4 := k0.below hb4
    obtain ⟨q0, -, -, -, -, -, -, -, -, -⟩ := k4.cells
    rw [ok.n] at q0
    have q1 := boxed_below k1 hb4
    have q2 := boxed_below k2 hb4
    have hs4 : w.heap.size + 3 ≤ w4.heap.size := by have := hb4.size; omega
    have HN := hide ok.n
    clear k0 k1 k2 hb4 hs3 c1 hm ok hg hB3
    have cA := callsIn_of (n := 8 - 1) (among_any N hN1 hN64 a2 cap2 bad w4 (hr2.below hB4) hl2) F hFw.out
    gi_wp2_with (gi_at_call 43; fail)
    refine cA.mono ?_
    rintro e w5 ⟨rfl, hA, hb5⟩
    have hB5 : Below w.heap.size w w5 := hB4.trans (hb5.mono (by omega))
    have k5 := k4.below hb5
    have q0 := (hb5.cell (p := ⟨w.heap.size, 0, none⟩) (by show w.heap.size < _; omega)).trans q0
    have q1 := boxed_below q1 hb5
    have q2 := boxed_below q2 hb5
    have hmk := fun w => make0 N hN64 w
    have bA : Below w5.heap.size w5 (w5.alloc (.cells #[(.func (.func 54) #[] #[.pointer (some ⟨w4.heap.size, 0, none⟩), .pointer (some ⟨w4.heap.size + 1 + 1, 0, none⟩)])] 53)) := (Below.refl _ w5).alloc (Nat.le_refl _) _
    have bM : Below w5.heap.size w5 ((w5.alloc (.cells #[(.func (.func 54) #[] #[.pointer (some ⟨w4.heap.size, 0, none⟩), .pointer (some ⟨w4.heap.size + 1 + 1, 0, none⟩)])] 53)).alloc (.cells (madeCells #[.int .i64 0] N) 3)) := bA.alloc (by simp) _
    have bB : Below w5.heap.size w5 (((w5.alloc (.cells #[(.func (.func 54) #[] #[.pointer (some ⟨w4.heap.size, 0, none⟩), .pointer (some ⟨w4.heap.size + 1 + 1, 0, none⟩)])] 53)).alloc (.cells (madeCells #[.int .i64 0] N) 3)).alloc (.cells #[.slice (some ⟨w5.heap.size + 1, 0, none⟩) 0 N] 24)) := bM.alloc (by simp; omega) _
    have lt5 : w.heap.size < w5.heap.size := by have := hb5.size; omega
    have qA := (bA.cell (p := ⟨w.heap.size, 0, none⟩) lt5).trans q0
    have qB := (bB.cell (p := ⟨w.heap.size, 0, none⟩) lt5).trans q0
    have cF := fun w => from_in F 7 h45 hro (N : Int) 0 w
    gi_wp2_with (gi_at_call 45; refine (cF _).mono ?_; rintro e w6 ⟨rfl, rfl⟩)
    obtain ⟨hcn, hcf⟩ := two_new (((w5.alloc (.cells #[(.func (.func 54) #[] #[.pointer (some ⟨w4.heap.size, 0, none⟩), .pointer (some ⟨w4.heap.size + 1 + 1, 0, none⟩)])] 53)).alloc (.cells (madeCells #[.int .i64 0] N) 3)).alloc (.cells #[.slice (some ⟨w5.heap.size + 1, 0, none⟩) 0 N] 24)) (N : Int) 0
    have bS : Boxed (((((w5.alloc (.cells #[(.func (.func 54) #[] #[.pointer (some ⟨w4.heap.size, 0, none⟩), .pointer (some ⟨w4.heap.size + 1 + 1, 0, none⟩)])] 53)).alloc (.cells (madeCells #[.int .i64 0] N) 3)).alloc (.cells #[.slice (some ⟨w5.heap.size + 1, 0, none⟩) 0 N] 24)).alloc (.cells #[.int .i64 (N : Int)] 3)).alloc (.cells #[.int .i64 0] 3)) w5.heap.size 53 (.func (.func 54) #[] #[.pointer (some ⟨w4.heap.size, 0, none⟩), .pointer (some ⟨w4.heap.size + 1 + 1, 0, none⟩)]) := ((((Boxed.new w5 53 (.func (.func 54) #[] #[.pointer (some ⟨w4.heap.size, 0, none⟩), .pointer (some ⟨w4.heap.size + 1 + 1, 0, none⟩)])).alloc _).alloc _).alloc _).alloc _
    have bO : Boxed (((((w5.alloc (.cells #[(.func (.func 54) #[] #[.pointer (some ⟨w4.heap.size, 0, none⟩), .pointer (some ⟨w4.heap.size + 1 + 1, 0, none⟩)])] 53)).alloc (.cells (madeCells #[.int .i64 0] N) 3)).alloc (.cells #[.slice (some ⟨w5.heap.size + 1, 0, none⟩) 0 N] 24)).alloc (.cells #[.int .i64 (N : Int)] 3)).alloc (.cells #[.int .i64 0] 3)) (w5.heap.size + 1 + 1) 24 (.slice (some ⟨w5.heap.size + 1, 0, none⟩) 0 N) := by
      have := ((Boxed.new ((w5.alloc (.cells #[(.func (.func 54) #[] #[.pointer (some ⟨w4.heap.size, 0, none⟩), .pointer (some ⟨w4.heap.size + 1 + 1, 0, none⟩)])] 53)).alloc (.cells (madeCells #[.int .i64 0] N) 3)) 24 (.slice (some ⟨w5.heap.size + 1, 0, none⟩) 0 N)).alloc (.cells #[.int .i64 (N : Int)] 3)).alloc (.cells #[.int .i64 0] 3)
      rwa [World.size_alloc, World.size_alloc] at this
    have hO : (((((w5.alloc (.cells #[(.func (.func 54) #[] #[.pointer (some ⟨w4.heap.size, 0, none⟩), .pointer (some ⟨w4.heap.size + 1 + 1, 0, none⟩)])] 53)).alloc (.cells (madeCells #[.int .i64 0] N) 3)).alloc (.cells #[.slice (some ⟨w5.heap.size + 1, 0, none⟩) 0 N] 24)).alloc (.cells #[.int .i64 (N : Int)] 3)).alloc (.cells #[.int .i64 0] 3)).ownsRow (w5.heap.size + 1) 3 1 (.slice (some ⟨w5.heap.size + 1, 0, none⟩) 0 N) 0 [] := by
      have := (((made_own (w5.alloc (.cells #[(.func (.func 54) #[] #[.pointer (some ⟨w4.heap.size, 0, none⟩), .pointer (some ⟨w4.heap.size + 1 + 1, 0, none⟩)])] 53)) N hN64).alloc (.cells #[.slice (some ⟨w5.heap.size + 1, 0, none⟩) 0 N] 24)).alloc (.cells #[.int .i64 (N : Int)] 3)).alloc (.cells #[.int .i64 0] 3)
      rwa [World.size_alloc] at this
    have b6 : Below w5.heap.size w5 (((((w5.alloc (.cells #[(.func (.func 54) #[] #[.pointer (some ⟨w4.heap.size, 0, none⟩), .pointer (some ⟨w4.heap.size + 1 + 1, 0, none⟩)])] 53)).alloc (.cells (madeCells #[.int .i64 0] N) 3)).alloc (.cells #[.slice (some ⟨w5.heap.size + 1, 0, none⟩) 0 N] 24)).alloc (.cells #[.int .i64 (N : Int)] 3)).alloc (.cells #[.int .i64 0] 3)) := (bB.alloc (by simp; omega) _).alloc (by simp; omega) _
    have hs6 : (((((w5.alloc (.cells #[(.func (.func 54) #[] #[.pointer (some ⟨w4.heap.size, 0, none⟩), .pointer (some ⟨w4.heap.size + 1 + 1, 0, none⟩)])] 53)).alloc (.cells (madeCells #[.int .i64 0] N) 3)).alloc (.cells #[.slice (some ⟨w5.heap.size + 1, 0, none⟩) 0 N] 24)).alloc (.cells #[.int .i64 (N : Int)] 3)).alloc (.cells #[.int .i64 0] 3)).heap.size = w5.heap.size + 5 := by simp only [World.size_alloc]
    simp only [World.size_alloc] at hcn hcf
    obtain ⟨w6, hw6⟩ : ∃ w6, (((((w5.alloc (.cells #[(.func (.func 54) #[] #[.pointer (some ⟨w4.heap.size, 0, none⟩), .pointer (some ⟨w4.heap.size + 1 + 1, 0, none⟩)])] 53)).alloc (.cells (madeCells #[.int .i64 0] N) 3)).alloc (.cells #[.slice (some ⟨w5.heap.size + 1, 0, none⟩) 0 N] 24)).alloc (.cells #[.int .i64 (N : Int)] 3)).alloc (.cells #[.int .i64 0] 3)) = w6 := ⟨_, rfl⟩
    rw [hw6] at hcn hcf bS bO hO b6 hs6 ⊢
    clear hw6 bA bM bB qA qB hmk cF cA q0
    have H6 := hide hs6
    have l1 : w5.heap.size + 1 ≤ w6.heap.size := by omega
    have l2 : w5.heap.size + 1 + 1 < w6.heap.size := by omega
    have l3 : w5.heap.size + 1 + 1 + 1 < w6.heap.size := by omega
    have l4 : w5.heap.size + 1 + 1 + 1 + 1 < w6.heap.size := by omega
    have hs5 : w4.heap.size + 1 + 1 < w5.heap.size := hA.2.2.1
    clear hs6
    refine wpIn_rangeFunc_ownG hro (by decide) (gf := 55) (lb := #[.pointer (some ⟨w5.heap.size + 1 + 1 + 1, 0, none⟩), .pointer (some ⟨w5.heap.size + 1 + 1 + 1 + 1, 0, none⟩)]) rfl h55 (enters_of Try.func55 (by kernel_rfl) rfl)
      (from_stops F 7 h55 hro (by decide) (w5.heap.size + 1 + 1 + 1) (w5.heap.size + 1 + 1 + 1 + 1) N 0 hN1 hN64 (by decide) w6 l3 l4 hcn hcf) (fun h k => h.tr k) (keeps2_b l3 l4) (Below.refl _ _) (fun _ => rfl)
      (fun pre W => (∃ v, Boxed W (w5.heap.size + 1 + 1) 24 v ∧ W.ownsRow (w5.heap.size + 1) 3 1 v (penOf ((E : Int) + 1 + c.pe) zs bad N pre).length (ivals (penOf ((E : Int) + 1 + c.pe) zs bad N pre)) ∧ RowOk (w5.heap.size + 1) w6.heap.size v) ∧ Below (w5.heap.size + 1) w6 W ∧ w6.heap.size ≤ W.heap.size)
      (fun _ _ _ => False)
      (OwnFrom.and (Own.from (holdsRow_own (w5.heap.size + 1) (w5.heap.size + 1 + 1) 24 3 1 (fun pre : List Nat => (penOf ((E : Int) + 1 + c.pe) zs bad N pre).length) (fun pre => ivals (penOf ((E : Int) + 1 + c.pe) zs bad N pre)) (fun _ v => RowOk (w5.heap.size + 1) w6.heap.size v)) _) (OwnFrom.and (ownFrom_below l1 l1) (fun _ _ _ _ hs hg _ => Nat.le_trans hs hg.size)))
      (fun _ _ _ _ _ hs _ _ => hs)
      ⟨⟨_, bO, hO, fun g hg => .inl (by simpa [Value.ownBlock] using hg.symm)⟩, Below.refl _ _, Nat.le_refl _⟩
      (fun x => { tmps := #[.agg #[.int .i64 c.n, .int .i64 c.cl, .int .i64 c.wi, .int .i64 c.bu, .int .i64 c.ca, .int .i64 c.sl, .int .i64 c.rq, .int .i64 c.ti, .int .i64 c.pe, .int .i64 c.la], .int .i64 (E : Int), .slice a zs.length cap, .slice a2 bad.length cap2, .pointer (some ⟨w.heap.size, 0, none⟩), .pointer (some ⟨w.heap.size + 1, 0, none⟩), .pointer (some ⟨w.heap.size + 1 + 1, 0, none⟩), undef, .slice none 0 0, .pointer (some ⟨w5.heap.size, 0, none⟩), .pointer (some ⟨w5.heap.size + 1 + 1, 0, none⟩), .int .i64 (x : Int), .agg #[.int .i64 c.n, .int .i64 c.cl, .int .i64 c.wi, .int .i64 c.bu, .int .i64 c.ca, .int .i64 c.sl, .int .i64 c.rq, .int .i64 c.ti, .int .i64 c.pe, .int .i64 c.la], .int .i64 (E : Int), .bool true, .bool false, .pointer (some ⟨w.heap.size, 0, none⟩), .int .i64 (N : Int), .slice a2 bad.length cap2, (.func (.func 54) #[] #[.pointer (some ⟨w4.heap.size, 0, none⟩), .pointer (some ⟨w4.heap.size + 1 + 1, 0, none⟩)]), .pointer (some ⟨w.heap.size, 0, none⟩), .int .i64 (N : Int), .slice (some ⟨w5.heap.size + 1, 0, none⟩) 0 N, .pointer (some ⟨w.heap.size, 0, none⟩), .int .i64 (N : Int), .func (.func 55) #[] #[.pointer (some ⟨w5.heap.size + 1 + 1 + 1, 0, none⟩), .pointer (some ⟨w5.heap.size + 1 + 1 + 1 + 1, 0, none⟩)], .int .i64 (x : Int), undef, undef, undef, undef, undef, undef, undef, undef, undef, undef, undef, undef, undef, undef, undef, undef, undef, undef], defers := [] }) ?assign ?body ?done ?stop
    case assign =>
      intro l x W K hK
      gi_wp2
      exact hK
    case body =>
      rintro l pre x W ⟨⟨v, hv, hrow, hG⟩, hB, hge⟩ hlt
      have hBw5 : Below w5.heap.size w5 W := b6.trans (hB.mono (by omega))
      have hcm : W.cell? ⟨w5.heap.size, 0, none⟩ = some (.func (.func 54) #[] #[.pointer (some ⟨w4.heap.size, 0, none⟩), .pointer (some ⟨w4.heap.size + 1 + 1, 0, none⟩)]) := (hB.cell (p := ⟨w5.heap.size, 0, none⟩) (by simp)).trans bS.cell
      have cp := among1_any w4.heap.size N hN1 hN64 (memB bad) (x : Int) W (hA.belowN hBw5 hs5)
      have hlen : (penOf ((E : Int) + 1 + c.pe) zs bad N pre).length ≤ 64 := by rw [penOf_len]; omega
      obtain ⟨va, vcap, rfl⟩ := ownsRow_slice hrow
      cases hb : amB N (memB bad) (x : Int)
      · have HS := hide (penOf_no (x := (E : Int) + 1 + c.pe) (zs := zs) (pre := pre) hb)
        rw [hb] at cp
        have cq := CallsIn.inRound l (callsIn_of (n := 8 - 1 - 1 - 1) cp F hFw.out)
        clear hb cp
        gi_wp2_with (gi_at_call 54; refine cq.mono ?_; rintro e w7 ⟨rfl, hx⟩; obtain rfl := hx.symm; clear hx)
        obtain rfl := hFw.out
        have hcpn := (hBw5.cell (p := ⟨w.heap.size + 1 + 1, 0, none⟩) q2.lt).trans q2.cell
        obtain ⟨w8, hw8⟩ : ∃ w8, W.drew = w8 := ⟨_, rfl⟩
        refine hi_begin (S := (fun W : World => W.cell? ⟨w.heap.size + 1 + 1, 0, none⟩ = some (.slice a zs.length cap))) 7 rfl (by kernel_rfl) (by kernel_rfl) (fun ⟨_, _, h⟩ => h) ?_
        have hB8 : Below W.heap.size W w8 := by rw [← hw8]; exact (Below.refl _ W).drew
        have hS : (fun W : World => W.cell? ⟨w.heap.size + 1 + 1, 0, none⟩ = some (.slice a zs.length cap)) w8 := by rw [← hw8]; exact hcpn
        rw [hw8]
        clear hw8
        have cP := penalty_any a cap zs x w8 (hr.below ((hB5.trans (hBw5.mono (by omega))).trans (hB8.mono (by have := hB5.size; have := hBw5.size; omega))))
        have hv8 := boxed_below hv hB8
        have hrow8 := ownsRow_below hrow hB8
        have hge8 := Nat.le_trans hge hB8.size
        have hc8 := hv8.cell
        generalize penI zs x = y at *
        generalize penOf ((E : Int) + 1 + c.pe) zs bad N pre = pl at *
        obtain ⟨v', w9, hrun, hown', hgrow, hnew⟩ := run_append_own_src2 (P := Try.prog) (w8.alloc (.cells #[.int .i64 y] 3)) (w5.heap.size + 1) 24 24 24 3 i0 (.int .i64 0) 1 8 Try.underlying24 hi hz0 hz1 hz2 rfl _ pl.length (ivals pl) (hrow8.alloc _) (.slice (some ⟨w8.heap.size, 0, none⟩) 1 1) 1 [.int .i64 y] (src_one _ _) (by unfold maxLen; omega) (by omega) (by simp; omega)
        obtain ⟨g', cap', rfl⟩ := ownsRow_succ hown'
        obtain ⟨hv1, hv2, hr2, hk2, hb2⟩ := hv8.appended (by decide) hrow8 (by omega) (by omega) hown' hgrow
        have hc1 := hv1.cell
        have hf1 := hv1.frozen
        have lq5 : w.heap.size + 1 + 1 < w5.heap.size := q2.lt
        have lq : w.heap.size + 1 + 1 < w8.heap.size := by have := hBw5.size; have := hB8.size; omega
        have hSa : (fun W : World => W.cell? ⟨w.heap.size + 1 + 1, 0, none⟩ = some (.slice a zs.length cap)) (w8.alloc (.cells #[.int .i64 y] 3)) := (World.cell?_alloc_lt _ _ _ lq).trans hS
        have hS9 : (fun W : World => W.cell? ⟨w.heap.size + 1 + 1, 0, none⟩ = some (.slice a zs.length cap)) w9 := by
          have e1 : w9.cell? ⟨w.heap.size + 1 + 1, 0, none⟩ = (w8.alloc (.cells #[.int .i64 y] 3)).cell? ⟨w.heap.size + 1 + 1, 0, none⟩ := World.cell?_of_block (hgrow.block (w.heap.size + 1 + 1) (by simp; omega) (hG.ne (by omega) (by omega)).symm)
          exact e1.trans hSa
        have hSf : (fun W : World => W.cell? ⟨w.heap.size + 1 + 1, 0, none⟩ = some (.slice a zs.length cap)) (w9.setCell ⟨w5.heap.size + 1 + 1, 0, none⟩ (.slice (some ⟨g', 0, none⟩) (pl.length + 1) cap')) := (World.cell?_setCell_far _ _ _ _ (by simp; omega)).trans hS9
        have hfin : KeepsFrom w6.heap.size W (w9.setCell ⟨w5.heap.size + 1 + 1, 0, none⟩ (.slice (some ⟨g', 0, none⟩) (pl.length + 1) cap')) ∧ Keeps2 (w5.heap.size + 1 + 1 + 1) (w5.heap.size + 1 + 1 + 1 + 1) W (w9.setCell ⟨w5.heap.size + 1 + 1, 0, none⟩ (.slice (some ⟨g', 0, none⟩) (pl.length + 1) cap')) ∧ ((∃ v, Boxed (w9.setCell ⟨w5.heap.size + 1 + 1, 0, none⟩ (.slice (some ⟨g', 0, none⟩) (pl.length + 1) cap')) (w5.heap.size + 1 + 1) 24 v ∧ (w9.setCell ⟨w5.heap.size + 1 + 1, 0, none⟩ (.slice (some ⟨g', 0, none⟩) (pl.length + 1) cap')).ownsRow (w5.heap.size + 1) 3 1 v (penOf ((E : Int) + 1 + c.pe) zs bad N (pre ++ [x])).length (ivals (penOf ((E : Int) + 1 + c.pe) zs bad N (pre ++ [x]))) ∧ RowOk (w5.heap.size + 1) w6.heap.size v) ∧ Below (w5.heap.size + 1) w6 (w9.setCell ⟨w5.heap.size + 1 + 1, 0, none⟩ (.slice (some ⟨g', 0, none⟩) (pl.length + 1) cap')) ∧ w6.heap.size ≤ (w9.setCell ⟨w5.heap.size + 1 + 1, 0, none⟩ (.slice (some ⟨g', 0, none⟩) (pl.length + 1) cap')).heap.size) := by
          refine ⟨(((KeepsOthers.of_grownBy (gb_below hB8) (fun j o e => by cases e)).trans hk2).from _), ⟨(KeepsAt.of_below hB8).tr (appended_keeps2 hgrow (hG.ne (by omega) l3) (by omega)), (KeepsAt.of_below hB8).tr (appended_keeps2 hgrow (hG.ne (by omega) l4) (by omega))⟩, ⟨_, hv2, by rw [HS.out, ivals_snoc]; simpa using hr2, fun g hg => ?_⟩, (hB.trans (hB8.mono (by omega))).trans hb2, Nat.le_trans hge8 hb2.size⟩
          rcases hnew g hg with h | h
          · exact hG g h
          · rw [World.size_alloc] at h; exact .inr (by omega)
        clear hb2 hk2 hv2 hr2 hnew hown' hrow8 hrow hB8
        refine hs_take (i := 1) (d := some 39) (v := ?_) rfl (by kernel_rfl) (by kernel_rfl) (by kernel_rfl) (by rfl) ?_ hS rfl ?_
        rotate_left
        · intro w' hw
          have q : w'.cell? ⟨w.heap.size + 1 + 1, 0, none⟩ = some (.slice a zs.length cap) := hw
          go_simp
          try with_reducible rfl
        simp only [Act.put, List.setIfInBounds_toArray, List.set_cons_zero, List.set_cons_succ]
        refine hs_take (i := 2) (d := some 40) (v := ?_) rfl (by kernel_rfl) (by kernel_rfl) (by kernel_rfl) (by rfl) ?_ hS rfl ?_
        rotate_left
        · intro w' hw
          go_simp
          try with_reducible rfl
        simp only [Act.put, List.setIfInBounds_toArray, List.set_cons_zero, List.set_cons_succ]
        refine hs_fork (i := 0) (j := 3) (by kernel_rfl) ?_ ?_
        · refine st_run (i := 0) (d := some 38) (v := .slice va pl.length vcap) (w' := w8) rfl (by rfl) (by have q := hc8; go_simp) rfl hS ?_
          simp only [Act.put, List.setIfInBounds_toArray, List.set_cons_zero, List.set_cons_succ]
          refine hs_call (i := 3) (d := some 41) rfl (by kernel_rfl) (by rfl) (by go_simp; first | done | exact ⟨rfl, rfl⟩ | with_reducible rfl) rfl ?_
          refine cP.mono ?_
          rintro e' wn ⟨rfl, hx⟩
          obtain rfl := hx.symm
          clear hx
          refine ⟨_, rfl, hS, ?_⟩
          simp only [Act.put, List.setIfInBounds_toArray, List.set_cons_zero, List.set_cons_succ]
          refine hs_run (i := 4) (d := some 42) (v := .slice (some ⟨w8.heap.size, 0, none⟩) 1 1) (w' := (w8.alloc (.cells #[.int .i64 y] 3))) rfl (by kernel_rfl) (by rfl) (by go_simp) rfl hSa ?_
          simp only [Act.put, List.setIfInBounds_toArray, List.set_cons_zero, List.set_cons_succ]
          refine hs_run (i := 5) (d := some 43) (v := .slice (some ⟨g', 0, none⟩) (pl.length + 1) cap') (w' := w9) rfl (by kernel_rfl) (by rfl) (exec_append rfl rfl rfl hrun) rfl hS9 ?_
          simp only [Act.put, List.setIfInBounds_toArray, List.set_cons_zero, List.set_cons_succ]
          refine hs_store (i := 6) (w' := (w9.setCell ⟨w5.heap.size + 1 + 1, 0, none⟩ (.slice (some ⟨g', 0, none⟩) (pl.length + 1) cap'))) rfl (by kernel_rfl) (by rfl) (by go_simp) rfl hSf ?_
          refine hs_done (by kernel_rfl) ?_
          gi_wp2
          exact hfin
        · refine st_call (i := 3) (d := some 41) rfl (by rfl) (by go_simp; first | done | exact ⟨rfl, rfl⟩ | with_reducible rfl) rfl ?_
          refine cP.mono ?_
          rintro e' wn ⟨rfl, hx⟩
          obtain rfl := hx.symm
          clear hx
          refine ⟨_, rfl, hS, ?_⟩
          simp only [Act.put, List.setIfInBounds_toArray, List.set_cons_zero, List.set_cons_succ]
          refine hs_fork (i := 0) (j := 4) (by kernel_rfl) ?_ ?_
          · refine st_run (i := 0) (d := some 38) (v := .slice va pl.length vcap) (w' := w8) rfl (by rfl) (by have q := hc8; go_simp) rfl hS ?_
            simp only [Act.put, List.setIfInBounds_toArray, List.set_cons_zero, List.set_cons_succ]
            refine hs_run (i := 4) (d := some 42) (v := .slice (some ⟨w8.heap.size, 0, none⟩) 1 1) (w' := (w8.alloc (.cells #[.int .i64 y] 3))) rfl (by kernel_rfl) (by rfl) (by go_simp) rfl hSa ?_
            simp only [Act.put, List.setIfInBounds_toArray, List.set_cons_zero, List.set_cons_succ]
            refine hs_run (i := 5) (d := some 43) (v := .slice (some ⟨g', 0, none⟩) (pl.length + 1) cap') (w' := w9) rfl (by kernel_rfl) (by rfl) (exec_append rfl rfl rfl hrun) rfl hS9 ?_
            simp only [Act.put, List.setIfInBounds_toArray, List.set_cons_zero, List.set_cons_succ]
            refine hs_store (i := 6) (w' := (w9.setCell ⟨w5.heap.size + 1 + 1, 0, none⟩ (.slice (some ⟨g', 0, none⟩) (pl.length + 1) cap'))) rfl (by kernel_rfl) (by rfl) (by go_simp) rfl hSf ?_
            refine hs_done (by kernel_rfl) ?_
            gi_wp2
            exact hfin
          · refine st_run (i := 4) (d := some 42) (v := .slice (some ⟨w8.heap.size, 0, none⟩) 1 1) (w' := (w8.alloc (.cells #[.int .i64 y] 3))) rfl (by rfl) (by go_simp) rfl hSa ?_
            simp only [Act.put, List.setIfInBounds_toArray, List.set_cons_zero, List.set_cons_succ]
            refine hs_run (i := 0) (d := some 38) (v := .slice va pl.length vcap) (w' := (w8.alloc (.cells #[.int .i64 y] 3))) rfl (by kernel_rfl) (by rfl) (by have q := (hv8.alloc (.cells #[.int .i64 y] 3)).cell; go_simp) rfl hSa ?_
            simp only [Act.put, List.setIfInBounds_toArray, List.set_cons_zero, List.set_cons_succ]
            refine hs_run (i := 5) (d := some 43) (v := .slice (some ⟨g', 0, none⟩) (pl.length + 1) cap') (w' := w9) rfl (by kernel_rfl) (by rfl) (exec_append rfl rfl rfl hrun) rfl hS9 ?_
            simp only [Act.put, List.setIfInBounds_toArray, List.set_cons_zero, List.set_cons_succ]
            refine hs_store (i := 6) (w' := (w9.setCell ⟨w5.heap.size + 1 + 1, 0, none⟩ (.slice (some ⟨g', 0, none⟩) (pl.length + 1) cap'))) rfl (by kernel_rfl) (by rfl) (by go_simp) rfl hSf ?_
            refine hs_done (by kernel_rfl) ?_
            gi_wp2
            exact hfin
      · have HS := hide (penOf_yes (x := (E : Int) + 1 + c.pe) (zs := zs) (pre := pre) hb)
        rw [hb] at cp
        have cq := CallsIn.inRound l (callsIn_of (n := 8 - 1 - 1 - 1) cp F hFw.out)
        have hce := (hBw5.cell (p := ⟨w.heap.size + 1, 0, none⟩) q1.lt).trans q1.cell
        obtain ⟨-, -, -, -, -, -, -, -, hcp, -⟩ := (k5.below hBw5).cells
        have hc := hv.cell
        clear hb cp
        generalize penOf ((E : Int) + 1 + c.pe) zs bad N pre = pl at *
        gi_wp2_with (first | (gi_at_call 54; refine cq.mono ?_; rintro e w7 ⟨rfl, hx⟩; obtain rfl := hx.symm; clear hx) | (gi_at_builtin; refine wpListIn_append_own_at _ rfl _ _ 24 rfl (w5.heap.size + 1) 3 i0 (.int .i64 0) 1 8 Try.underlying24 hi hz0 hz1 hz2 rfl (by decide) _ _ _ rfl (hrow.alloc _) ⟨W.heap.size, 0, none⟩ 1 1 [.int .i64 ((E : Int) + 1 + c.pe)] rfl rfl (cell_one_new _ _ _) (by simp [Value.oneCell']) (by unfold maxLen; omega) (by omega) (by simp; omega) ?_; intro v' w8 hown' hgrow _ hnew; obtain ⟨g', cap', rfl⟩ := ownsRow_succ hown'; obtain ⟨hv1, hv2, hr2, hk2, hb2⟩ := hv.appended (by decide) hrow (by omega) (by omega) hown' hgrow; have hc1 := hv1.cell; have hf1 := hv1.frozen))
        refine ⟨hk2.from _, ⟨appended_keeps2 hgrow (hG.ne (by omega) l3) (by omega), appended_keeps2 hgrow (hG.ne (by omega) l4) (by omega)⟩, ⟨_, hv2, by rw [HS.out, ivals_snoc]; simpa using hr2, hG.next hnew (by simp; omega)⟩, hB.trans hb2, Nat.le_trans hge hb2.size⟩
    case done =>
      rintro D ys W hD rfl ⟨⟨v, hv, hrow, -⟩, hB, hge⟩ hK
      have hc := hv.cell
      gi_wp2
      refine ⟨by simp, .inl ⟨_, _, rfl, run_takeDeferred hK, ?_⟩⟩
      rw [roundF_zero, penOf_all] at hrow
      refine ⟨_, results_tmp rfl _ _ _, v, rfl, ?_, ((hB5.trans (b6.mono (by omega))).trans (hB.mono (by omega))).trans (belowK_b (w := w) (Nat.le_refl _) W D _ _ (by omega) hK rfl rfl)⟩
      rw [HL.out]
      exact ownsRow_low (by omega) (ownsRow_putObj hrow _ hK rfl)
    case stop =>
      rintro D c pre W _ _ h _
      exact h.elim
theorem penalize_any (c : Cfg) (x : Int) (a : Option Addr) (cap : Nat) (zs : List Int) (a2 : Option Addr) (cap2 : Nat) (bad : List Int) (w : World) (hr : RowI w a zs) (hr2 : RowI w a2 bad) (hl2 : bad.length ≤ 100000) :
    Calls Try.prog 19 #[(.agg #[.int .i64 c.n, .int .i64 c.cl, .int .i64 c.wi, .int .i64 c.bu, .int .i64 c.ca, .int .i64 c.sl, .int .i64 c.rq, .int .i64 c.ti, .int .i64 c.pe, .int .i64 c.la]), .int .i64 x, .slice a zs.length cap, .slice a2 bad.length cap2] w fun e w' => ∃ v, e = .returned v ∧ w'.ownsRow w.heap.size 3 1 v (penalL c x zs bad).length (ivals (penalL c x zs bad)) ∧ Below w.heap.size w w' :=
  (callsIn_wide (n := 8)).1 (penalize_in _ (hide rfl) trivial trivial trivial trivial trivial trivial trivial rfl c x a cap zs a2 cap2 bad w hr hr2 hl2)
end Go.Proofs.Ytnndlgdlligjbaa
