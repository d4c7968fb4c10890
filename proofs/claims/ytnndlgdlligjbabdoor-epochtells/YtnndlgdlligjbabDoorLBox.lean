/- a config that lies in a box. -/
import Derived.Test.YtnndlgdlligjbabDoorLOwn
import Derived.Test.YtnndlgdlligjbabDoorHeld
import Derived.Laws.Rows
namespace Go.Proofs.YtnndlgdlligjbabDoor.Ld
open Go.RowKit Go.Shelf
def CfgAt (W : World) (B : Nat) (c : Cfg) : Prop := W.heap[B]? = some (.cells #[.int .i64 c.n, .int .i64 c.cl, .int .i64 c.wi, .int .i64 c.bu, .int .i64 c.ca, .int .i64 c.sl, .int .i64 c.rq, .int .i64 c.ti, .int .i64 c.pe, .int .i64 c.la] 23 (0, 0))
theorem CfgAt.lt {W : World} {B : Nat} {c : Cfg} (h : CfgAt W B c) : B < W.heap.size := (Array.getElem?_eq_some_iff.1 h).1
theorem CfgAt.new (w : World) (c : Cfg) : CfgAt (w.alloc (.cells #[.int .i64 c.n, .int .i64 c.cl, .int .i64 c.wi, .int .i64 c.bu, .int .i64 c.ca, .int .i64 c.sl, .int .i64 c.rq, .int .i64 c.ti, .int .i64 c.pe, .int .i64 c.la] 23)) w.heap.size c := World.alloc_heap_new w _
theorem CfgAt.below {W W' : World} {B : Nat} {c : Cfg} (h : CfgAt W B c) (hb : Below W.heap.size W W') : CfgAt W' B c := (hb.block B h.lt).trans h
theorem CfgAt.belowN {W W' : World} {B n₀ : Nat} {c : Cfg} (h : CfgAt W B c) (hb : Below n₀ W W') (hn : B < n₀) : CfgAt W' B c := (hb.block B hn).trans h
theorem CfgAt.alloc {W : World} {B : Nat} {c : Cfg} (h : CfgAt W B c) (o : Obj) : CfgAt (W.alloc o) B c := (Below.heap_alloc W o B h.lt).trans h
theorem CfgAt.cells {W : World} {B : Nat} {c : Cfg} (h : CfgAt W B c) : W.cell? ⟨B, 0, none⟩ = some (.int .i64 c.n) ∧ W.cell? ⟨B, 1, none⟩ = some (.int .i64 c.cl) ∧ W.cell? ⟨B, 2, none⟩ = some (.int .i64 c.wi) ∧ W.cell? ⟨B, 3, none⟩ = some (.int .i64 c.bu) ∧ W.cell? ⟨B, 4, none⟩ = some (.int .i64 c.ca) ∧ W.cell? ⟨B, 5, none⟩ = some (.int .i64 c.sl) ∧ W.cell? ⟨B, 6, none⟩ = some (.int .i64 c.rq) ∧ W.cell? ⟨B, 7, none⟩ = some (.int .i64 c.ti) ∧ W.cell? ⟨B, 8, none⟩ = some (.int .i64 c.pe) ∧ W.cell? ⟨B, 9, none⟩ = some (.int .i64 c.la) := by
  have h' : W.heap[B]? = some (.cells #[.int .i64 c.n, .int .i64 c.cl, .int .i64 c.wi, .int .i64 c.bu, .int .i64 c.ca, .int .i64 c.sl, .int .i64 c.rq, .int .i64 c.ti, .int .i64 c.pe, .int .i64 c.la] 23 (0, 0)) := h
  simp [World.cell?, h']
theorem exec_load {P : Program} {o : Oper} {a : Act} {w : World} {ty : TypeId} {x : Operand} {b off : Nat} {v : Value} (ho : o.op = .load ty x) (hx : a.eval x = .pointer (some ⟨b, off, none⟩)) (hr : (loadVar ty ⟨b, off, none⟩).run P w = .ok v w) : (execOp a.eval o).run P w = .ok (.value v) w := by
  unfold execOp
  simp only [ho, hx, Instr.loadAt, Instr.sureAddr, Sem.run_bind, Sem.run_pure, Result.andThen_ok, hr]
theorem info_cfg : (Tryd.prog.info? 23).map (·.size) = some 10 := by kernel_rfl
theorem CfgAt.load {W : World} {B : Nat} {c : Cfg} (h : CfgAt W B c) : (loadVar 23 ⟨B, 0, none⟩).run Tryd.prog W = .ok (.agg #[.int .i64 c.n, .int .i64 c.cl, .int .i64 c.wi, .int .i64 c.bu, .int .i64 c.ca, .int .i64 c.sl, .int .i64 c.rq, .int .i64 c.ti, .int .i64 c.pe, .int .i64 c.la]) W :=
  run_loadVar_row W B 23 23 #[.int .i64 c.n, .int .i64 c.cl, .int .i64 c.wi, .int .i64 c.bu, .int .i64 c.ca, .int .i64 c.sl, .int .i64 c.rq, .int .i64 c.ti, .int .i64 c.pe, .int .i64 c.la] (0, 0) _ h Tryd.underlying23 rfl info_cfg
end Go.Proofs.YtnndlgdlligjbabDoor.Ld
