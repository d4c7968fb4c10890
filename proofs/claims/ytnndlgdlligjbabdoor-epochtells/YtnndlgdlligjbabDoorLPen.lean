/- leaders.Penalize: a contract. -/
import Derived.Test.YtnndlgdlligjbabDoorLBuckets
import Derived.Test.YtnndlgdlligjbabDoorLRound
import Derived.Laws.MakeOwn
import Derived.Maps.OwnIn
import Derived.Test.YtnndlgdlligjbabDoorFork
import Derived.Laws.EntriesVeiled
namespace Go.Proofs.YtnndlgdlligjbabDoor.Ld
open Go.RowKit Go.Shelf
attribute [local go_sem] Oper.semAt_some
theorem penalL_no {c : Cfg} {x : Int} {zs bad : List Int} (h : mayC c x = false) : penalL c x zs bad = [] := by simp [penalL, h]
theorem penalL_yes {c : Cfg} {x : Int} {zs bad : List Int} (h : mayC c x = true) {N : Nat} (hn : c.n = (N : Int)) : penalL c x zs bad = penalN (x + 1 + c.pe) zs bad N := by simp [penalL, h, hn]
theorem make0 (N : Nat) (h : N ≤ 64) (w : World) : (Instr.makeSlice 24 (.int .i64 0) (.int .i64 (N : Int))).run Tryd.prog w = .ok (.slice (some ⟨w.heap.size, 0, none⟩) 0 N) (w.alloc (.cells (madeCells #[.int .i64 0] N) 3)) := by
  obtain ⟨i0, hi, hz0, hz1, hz2⟩ := info_parts info3
  have := run_make (P := Tryd.prog) w 24 3 i0 (.int .i64 0) Tryd.underlying24 hi hz0 .i64 .i64 0 (N : Int) (by omega) (by omega) (by rw [hz2]; omega) (by omega)
  rw [hz1] at this
  simpa [Value.cells] using this
theorem made_own (w : World) (N : Nat) (h : N ≤ 64) : (w.alloc (.cells (madeCells #[.int .i64 0] N) 3)).ownsRow w.heap.size 3 1 (.slice (some ⟨w.heap.size, 0, none⟩) 0 N) 0 [] := by
  refine ⟨by simp, .inr ⟨w.heap.size, N, _, rfl, Nat.le_refl _, World.alloc_heap_new w _, by omega, by unfold maxLen; omega, by rw [size_madeCells]; omega, by simp⟩⟩
/-- what the loop has told of the nodes so far -/
def penOf (x : Int) (zs bad : List Int) (N : Nat) (pre : List Nat) : List Int := pre.map fun (k : Nat) => if amB N (memB bad) (k : Int) = true then x else penI zs k
theorem penOf_snoc (x : Int) (zs bad : List Int) (N : Nat) (pre : List Nat) (k : Nat) : penOf x zs bad N (pre ++ [k]) = penOf x zs bad N pre ++ [if amB N (memB bad) (k : Int) = true then x else penI zs k] := by simp [penOf]
theorem penOf_all (x : Int) (zs bad : List Int) (N : Nat) : penOf x zs bad N (List.range N) = penalN x zs bad N := by
  unfold penOf penalN
  apply List.map_congr_left
  intro k hk
  rw [amB_in (List.mem_range.1 hk)]
  simp [memB]
def ivals (l : List Int) : List Value := l.map (Value.int .i64)
theorem ivals_snoc (l : List Int) (x : Int) : ivals (l ++ [x]) = ivals l ++ [Value.int .i64 x] := by simp [ivals]
theorem exec_append {P : Program} {o : Oper} {a : Act} {w w' : World} {s x : Operand} {t tx : TypeId} {v xv v' : Value} (ho : o.op = .call { callee := .builtin .append, args := #[s, x], argTypes := #[t, tx] }) (hv : a.eval s = v) (hx : a.eval x = xv)
    (hr : (Builtin.append_ #[t, tx] o.type #[v, xv]).run P w = .ok v' w') : (execOp a.eval o).run P w = .ok (.value v') w' := by
  unfold execOp
  simp only [ho, resolve, invoke, builtin, Sem.run_bind, Sem.run_pure, Result.andThen_ok, List.map_toArray, List.map_cons, List.map_nil, hv, hx, hr]
theorem appended_keeps2 {W w1 : World} {B : Nat} {v v' : Value} {tmp : Obj} (hgrow : (W.alloc tmp).grownBy w1 v.ownBlock) {K : Nat} (hK : v.ownBlock ≠ some K) (hne : K ≠ B) : KeepsAt K W (w1.setCell ⟨B, 0, none⟩ v') := by
  intro hb
  have e1 : (w1.setCell ⟨B, 0, none⟩ v').heap[K]? = w1.heap[K]? := (grownBy_setCell' w1 B v').block K (by have := hgrow.size; simp at this; omega) (by simp; exact hne)
  have e2 : w1.heap[K]? = (W.alloc tmp).heap[K]? := hgrow.block K (by simp; omega) hK.symm
  rw [e1, e2]
  exact Below.heap_alloc W tmp K hb
def RowOk (p q : Nat) (v : Value) : Prop := ∀ g, v.ownBlock = some g → g = p ∨ q ≤ g
theorem RowOk.ne {p q : Nat} {v : Value} (h : RowOk p q v) {K : Nat} (h1 : K ≠ p) (h2 : K < q) : v.ownBlock ≠ some K := fun e => by
  rcases h K e with h | h <;> omega
theorem RowOk.next {p q n : Nat} {v v' : Value} (h : RowOk p q v) (hn : v'.ownBlock = v.ownBlock ∨ v'.ownBlock = some n) (hq : q ≤ n) : RowOk p q v' := fun g hg => by
  rcases hn with e | e
  · exact h g (e ▸ hg)
  · rw [e] at hg; cases hg; exact .inr hq
theorem penOf_yes {x : Int} {zs bad : List Int} {N : Nat} {pre : List Nat} {k : Nat} (h : amB N (memB bad) (k : Int) = true) : penOf x zs bad N (pre ++ [k]) = penOf x zs bad N pre ++ [x] := by rw [penOf_snoc, if_pos h]
theorem penOf_no {x : Int} {zs bad : List Int} {N : Nat} {pre : List Nat} {k : Nat} (h : amB N (memB bad) (k : Int) = false) : penOf x zs bad N (pre ++ [k]) = penOf x zs bad N pre ++ [penI zs k] := by rw [penOf_snoc, if_neg (by rw [h]; simp)]
theorem penOf_len (x : Int) (zs bad : List Int) (N : Nat) (pre : List Nat) : (penOf x zs bad N pre).length = pre.length := by simp [penOf]
end Go.Proofs.YtnndlgdlligjbabDoor.Ld
