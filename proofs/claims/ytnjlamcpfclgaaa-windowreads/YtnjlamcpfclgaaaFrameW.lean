/- a window by value -/
import Derived.Test.YtnjlamcpfclgaaaWArr
import Derived.Test.YtnjlamcpfclgaaaRows
import Derived.ProofKit
import Derived.OpenShut
import Derived.ShutString
import Derived.ChangeOld
import Derived.Below
namespace Go.Proofs.Ytnjlamcpfclgaaa
open Go.ChangeShapes Go.WideShapes Go.ChangeAt Go.RowKit
theorem wf64 {z : Int} (h : (Lit.int .i64 z).wf = true) : -9223372036854775808 ≤ z ∧ z ≤ 9223372036854775807 := by
  simp only [Lit.wf, Bool.and_eq_true, decide_eq_true_eq] at h
  exact h
theorem wfu64 {z : Int} (h : (Lit.int .u64 z).wf = true) : ∃ m : Nat, z = (m : Int) ∧ m < 2 ^ 64 := by
  simp only [Lit.wf, Bool.and_eq_true, decide_eq_true_eq] at h
  have h0 : 0 ≤ z := h.1
  have h1 : z ≤ 18446744073709551615 := h.2
  exact ⟨z.toNat, by omega, by omega⟩
theorem some_at {α : Type} {xs : List α} {n i : Nat} (hl : xs.length = n) (hi : i < n) : ∃ y, xs[i]? = some y := ⟨xs[i]'(by omega), List.getElem?_eq_getElem (by omega)⟩
theorem drop_one {α : Type} {l : List α} {o : Nat} {v : α} (h : (l.drop o).take 1 = [v]) : l[o]? = some v := by
  have := congrArg (·[0]?) h
  simpa [List.getElem?_take, List.getElem?_drop] using this
set_option maxRecDepth 100000 in
theorem open_win {H : Type} {enc : TypeId × Value → H} {W : World} {base b : Nat} {sp : Nat → Bool} {held : Bool} {fuel : Nat} {v : Value} {x : DataW H × List MemPlace} (hv : Value.okWide Try.prog W .any base 24 v)
    (h : DataW.trod enc Try.prog W b sp held fuel 24 v.cells.toList = some x) : ∃ (B : Int) (m : Nat), v = winV B (m : Int) ∧ m < 2 ^ 64 ∧ (-9223372036854775808 ≤ B ∧ B ≤ 9223372036854775807) := by
  unfold Value.okWide at hv
  rw [Try.underlying24] at hv
  obtain ⟨cs, rfl, hsz, _⟩ := hv
  have hct : Try.prog.cellsOf 24 = 2 := by kernel_rfl
  have hci : Try.prog.cellsOf 3 = 1 := by kernel_rfl
  have hcs : Try.prog.cellsOf 22 = 1 := by kernel_rfl
  rw [hct] at hsz
  obtain ⟨xs, m, _, rfl, _, hl, hf⟩ := DataW.trod_struct Try.underlying24 h
  have hl : xs.length = 2 := hl
  simp only [Value.cells] at hf
  have h0 : DataW.trod enc Try.prog W b sp held m 3 ((cs.toList.drop 0).take (Try.prog.cellsOf 3)) = xs[0]? := hf 0 _ rfl
  have h1 : DataW.trod enc Try.prog W b sp held m 22 ((cs.toList.drop 1).take (Try.prog.cellsOf 22)) = xs[1]? := hf 1 _ rfl
  rw [hci] at h0
  rw [hcs] at h1
  obtain ⟨y0, e0⟩ := some_at hl (show 0 < 2 by omega)
  obtain ⟨y1, e1⟩ := some_at hl (show 1 < 2 by omega)
  obtain ⟨B, g0, rfl, hw0⟩ := DataW.trod_int Try.underlying3 (h0.trans e0)
  obtain ⟨M, g1, rfl, hw1⟩ := DataW.trod_int Try.underlying22 (h1.trans e1)
  obtain ⟨mm, rfl, hmm⟩ := wfu64 hw1
  refine ⟨B, mm, ?_, hmm, wf64 hw0⟩
  have g0 := drop_one g0
  have g1 := drop_one g1
  congr 1
  apply Array.ext'
  show cs.toList = winC B (mm : Int)
  have hcl : cs.toList.length = 2 := by simpa using hsz
  generalize cs.toList = l at *
  match l, hcl with
  | [a0, a1], _ =>
    simp at g0 g1
    subst g0 g1
    rfl
end Go.Proofs.Ytnjlamcpfclgaaa
