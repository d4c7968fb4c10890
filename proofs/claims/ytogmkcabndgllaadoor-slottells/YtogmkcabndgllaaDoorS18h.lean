/- SlotTells: what its walk leans on -/
import Derived.Test.YtogmkcabndgllaaDoorS10
import Derived.Test.YtogmkcabndgllaaDoorS11
import Derived.Test.YtogmkcabndgllaaDoorS12
import Derived.Test.YtogmkcabndgllaaDoorS14
import Derived.Test.YtogmkcabndgllaaDoorS17
import Derived.Test.YtogmkcabndgllaaDoorS7
import Derived.Test.YtogmkcabndgllaaDoorS9h
namespace Go.Proofs.YtogmkcabndgllaaDoor
open Go.RowKit
open Sha Tal
set_option linter.unusedVariables false
theorem run_bs2 {P : Program} (t e : TypeId) (i : TypeInfo) (z : Value) (u v : List Value) (ht : P.underlying t = some (.slice e)) (hi : P.info? e = some i) (hz : i.zero = some z) (hs : i.size = u.length) (hv : v.length = u.length) (h0 : 0 < u.length) (hm : u.length ≤ 1000) (w : World) :
    (Instr.buildSlice t 2 #[(0, .agg u.toArray), (1, .agg v.toArray)]).run P w = .ok (.slice (some ⟨w.heap.size, 0, none⟩) 2 2) (w.alloc (.cells (u ++ v).toArray e)) := by
  have h1 : ¬ 2 ^ 24 < 2 * u.length := by omega
  have f1 : ∀ arr : Array Value, arr.size = 2 * u.length → List.foldl (fun (cs : Array Value) (x : Value × Nat) => cs.setIfInBounds x.snd x.fst) arr u.zipIdx = (u ++ arr.toList.drop u.length).toArray := fun arr h => by
    have := fold_at 0 u 0 arr (by omega)
    simpa using this
  have f2 : ∀ arr : Array Value, arr.size = 2 * u.length → List.foldl (fun (cs : Array Value) (x : Value × Nat) => cs.setIfInBounds (u.length + x.snd) x.fst) (u ++ arr.toList.drop u.length).toArray v.zipIdx = (u ++ v).toArray := fun arr h => by
    have hl : (u ++ arr.toList.drop u.length).length = 2 * u.length := by simp [h]; omega
    have := fold_at u.length v 0 (u ++ arr.toList.drop u.length).toArray (by simp only [List.size_toArray, hl]; omega)
    rw [this]
    congr 1
    simp only [Nat.add_zero, List.take_left]
    rw [List.drop_of_length_le (by rw [hl]; omega), List.append_nil]
  unfold Instr.buildSlice
  simp [run_underlying ht, sizeOf, zeroValue, typeInfo, hi, hz, hs, h1, Instr.fill, Value.cells, newRow]
  rw [if_neg (by omega), if_neg (by omega)]
  rw [f1 _ (by simp), f2 _ (by simp)]
  rw [if_neg (by simp [hv]; omega)]
  simp
theorem ex_bs2 {P : Program} {o : Oper} {a : Act} {w w' : World} {t : TypeId} {x y : Operand} {u v r : Value} (ho : o.op = .buildSlice t 2 #[(0, x), (1, y)]) (hx : a.eval x = u) (hy : a.eval y = v) (hr : (Instr.buildSlice t 2 #[(0, u), (1, v)]).run P w = .ok r w') : (execOp a.eval o).run P w = .ok (.value r) w' := by
  unfold execOp
  simp [ho, hx, hy, hr]
theorem ex_alloc {P : Program} {o : Oper} {a : Act} {w : World} {t : TypeId} {z : Value} (ho : o.op = .alloc t) (hz : (zeroValue t).run P w = .ok z w) : (execOp a.eval o).run P w = .ok (.value (.pointer (some ⟨w.heap.size, 0, none⟩))) (w.alloc (.cells z.cells t)) := by
  unfold execOp
  simp [ho, hz, Instr.alloc, newVar, newRow]
section
variable {P : Program} {ops : Array Oper} {Q : Exit → Act → World → Prop}
theorem pl_store {o : Oper} {rest : List Oper} {a : Act} {w w' : World} (hw : Region.wanted o (yielded ops a.tmps) = true) (hy : (execOp a.eval o).run P w = .ok .skip w') (hd : o.dst = none)
    (h : Pl P ops Q rest a w') : Pl P ops Q (o :: rest) a w := by
  refine ⟨wpList_step fun K hK => ?_⟩
  rw [if_pos hw]
  unfold Oper.wp
  rw [hy, Oper.upon_skip, hd]
  exact hK _ _ h.out
end
structure Env (w : World) (s o : Sl) (b : Bat) (c : Ce) (x : World) : Prop where
  rs : x.rangeAt w.heap.size 0 s.cells
  ro : x.rangeAt (w.heap.size + 1) 0 o.cells
  rb : x.rangeAt (w.heap.size + 1 + 1) 0 b.cells
  rc : x.rangeAt (w.heap.size + 1 + 1 + 1) 0 c.cells
  bl : Below w.heap.size w x
  sz : w.heap.size + 4 ≤ x.heap.size
theorem Env.below {w x x' : World} {s o : Sl} {b : Bat} {c : Ce} (h : Env w s o b c x) (hb : Below x.heap.size x x') : Env w s o b c x' := by
  have hs := h.sz
  exact ⟨range_below h.rs hb (by omega), range_below h.ro hb (by omega), range_below h.rb hb (by omega), range_below h.rc hb (by omega), h.bl.trans (hb.mono h.bl.size), Nat.le_trans hs hb.size⟩
theorem Env.set {w x : World} {s o : Sl} {b : Bat} {c : Ce} (h : Env w s o b c x) {Z : Nat} (hZ : w.heap.size + 4 ≤ Z) (off : Nat) (cs : List Value) : Env w s o b c (x.setCells Z off cs) :=
  ⟨World.rangeAt_setCells_apart h.rs _ _ _ (.inl (by omega)), World.rangeAt_setCells_apart h.ro _ _ _ (.inl (by omega)), World.rangeAt_setCells_apart h.rb _ _ _ (.inl (by omega)), World.rangeAt_setCells_apart h.rc _ _ _ (.inl (by omega)), below_sets (by omega) _ _ _ h.bl, by rw [setCells_size]; exact h.sz⟩
/-- a variable of one's own, of so many cells, and what lies in it -/
structure Vr (x : World) (w : World) (Z n : Nat) (cs : List Value) : Prop where
  ge : w.heap.size + 4 ≤ Z
  lt : Z < x.heap.size
  th : x.there Z 0 n
  r : x.rangeAt Z 0 cs
theorem Vr.below {x x' w : World} {Z n : Nat} {cs : List Value} (h : Vr x w Z n cs) (hb : Below x.heap.size x x') : Vr x' w Z n cs :=
  ⟨h.ge, Nat.lt_of_lt_of_le h.lt hb.size, there_below h.th hb h.lt, range_below h.r hb h.lt⟩
theorem Vr.put {x w : World} {Z n : Nat} {cs cs' : List Value} (h : Vr x w Z n cs) (hl : cs'.length = n) : Vr (x.setCells Z 0 cs') w Z n cs' :=
  ⟨h.ge, by rw [setCells_size]; exact h.lt, World.there_setCells h.th _ _ _, World.rangeAt_setCells_same _ _ _ _ (by rw [hl]; exact h.th)⟩
theorem Vr.apart {x w : World} {Z Y n : Nat} {cs : List Value} (h : Vr x w Z n cs) (hne : Z ≠ Y) (off : Nat) (cs' : List Value) : Vr (x.setCells Y off cs') w Z n cs :=
  ⟨h.ge, by rw [setCells_size]; exact h.lt, World.there_setCells h.th _ _ _, World.rangeAt_setCells_apart h.r _ _ _ (.inl hne)⟩
theorem Vr.new {w x : World} (z : Array Value) (t : TypeId) (h : w.heap.size + 4 ≤ x.heap.size) : Vr (x.alloc (.cells z t)) w x.heap.size z.size z.toList :=
  ⟨h, by simp, there_new x z t, range_new x z t⟩
theorem int_neq (x : Int) : (x != x) = false := by simp
end Go.Proofs.YtogmkcabndgllaaDoor
