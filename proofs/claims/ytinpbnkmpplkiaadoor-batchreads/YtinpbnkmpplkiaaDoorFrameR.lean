/- a request by value; what is asked for, by value -/
import Derived.Test.YtinpbnkmpplkiaaDoorFrameT
import Derived.Test.YtinpbnkmpplkiaaDoorRq8
import Derived.OpenShut
namespace Go.Proofs.YtinpbnkmpplkiaaDoor
open Go.ChangeShapes Go.WideShapes Go.ChangeAt Go.RowKit
open Sha
theorem wf64 {z : Int} (h : (Lit.int .i64 z).wf = true) : -9223372036854775808 ≤ z ∧ z ≤ 9223372036854775807 := by
  simp only [Lit.wf, Bool.and_eq_true, decide_eq_true_eq] at h
  exact h
theorem some_at {α : Type} {xs : List α} {n i : Nat} (hl : xs.length = n) (hi : i < n) : ∃ y, xs[i]? = some y := ⟨xs[i]'(by omega), List.getElem?_eq_getElem (by omega)⟩
theorem drop_one {α : Type} {l : List α} {o : Nat} {v : α} (h : (l.drop o).take 1 = [v]) : l[o]? = some v := by
  have := congrArg (·[0]?) h
  simpa [List.getElem?_take, List.getElem?_drop] using this
section
variable {H : Type} {enc : TypeId × Value → H} {W : World} {b : Nat} {sp : Nat → Bool} {held : Bool} {m : Nat}
theorem int_at {l : List Value} {o : Nat} {y : DataW H × List MemPlace} (h : DataW.trod enc Tryd.prog W b sp held m 3 ((l.drop o).take 1) = some y) : ∃ z, l[o]? = some (.int .i64 z) ∧ -9223372036854775808 ≤ z ∧ z ≤ 9223372036854775807 := by
  obtain ⟨z, hc, rfl, hw⟩ := DataW.trod_int Tryd.underlying3 h
  exact ⟨z, drop_one hc, wf64 hw⟩
theorem str_at {l : List Value} {o : Nat} {y : DataW H × List MemPlace} (h : DataW.trod enc Tryd.prog W b sp held m 9 ((l.drop o).take 1) = some y) : ∃ s, l[o]? = some (.string s) ∧ s.size ≤ maxLen := by
  obtain ⟨z, hc, rfl, hw⟩ := DataW.trod_string Tryd.underlying9 h
  exact ⟨z, drop_one hc, hw⟩
set_option maxRecDepth 100000 in
theorem tag_at {l : List Value} {y : DataW H × List MemPlace} (h : DataW.trod enc Tryd.prog W b sp held m 58 l = some y) : ∃ zs : List Int, l = v8 zs ∧ zs.length = 16 ∧ ∀ z ∈ zs, 0 ≤ z ∧ z < 256 := by
  have hct : Tryd.prog.cellsOf 58 = 16 := by kernel_rfl
  have hce : Tryd.prog.cellsOf 5 = 1 := by kernel_rfl
  cases m with
  | zero => simp [DataW.trod] at h
  | succ m =>
    simp only [DataW.trod, Tryd.underlying58, hce, hct, Nat.mul_one] at h
    split at h
    · rename_i hsz
      obtain ⟨xs, hm, hx⟩ := Option.map_eq_some_iff.1 h
      have key : ∀ i, i < 16 → ∃ z, l[i]? = some (.int .u8 z) ∧ 0 ≤ z ∧ z < 256 := fun i hi => by
        obtain ⟨y, hy, hf⟩ := Lib.mapM_at hm i i (by simp [hi])
        obtain ⟨z, hc, rfl, hw⟩ := DataW.trod_int Tryd.underlying5 hf
        refine ⟨z, drop_one hc, ?_⟩
        simp [Lit.wf, IntKind.min, IntKind.max, IntKind.signed, IntKind.bits] at hw
        omega
      refine ⟨l.map (fun v => match v with | .int _ z => z | _ => 0), ?_, by simpa using hsz, ?_⟩
      · apply List.ext_getElem?
        intro i
        by_cases hi : i < 16
        · obtain ⟨z, hz, _⟩ := key i hi
          simp only [v8, List.map_map, List.getElem?_map, hz, Option.map_some]
          rfl
        · rw [List.getElem?_eq_none (by omega), List.getElem?_eq_none (by simp [v8]; omega)]
      · intro z hz
        obtain ⟨u, hu, rfl⟩ := List.mem_map.1 hz
        obtain ⟨i, hi, rfl⟩ := List.mem_iff_getElem.1 hu
        obtain ⟨z, hz, hb⟩ := key i (by simpa [hsz] using hi)
        rw [List.getElem?_eq_getElem hi] at hz
        rw [Option.some.inj hz]
        exact hb
    · cases h
end
set_option maxRecDepth 100000 in
theorem open_req {H : Type} {enc : TypeId × Value → H} {W : World} {base b : Nat} {sp : Nat → Bool} {held : Bool} {fuel : Nat} {v : Value} {x : DataW H × List MemPlace} (hv : Value.okWide Tryd.prog W .any base 60 v)
    (h : DataW.trod enc Tryd.prog W b sp held fuel 60 v.cells.toList = some x) : ∃ (c n : Int) (s : ByteArray) (t : List Int), v = .agg (reqL c n s t).toArray ∧ t.length = 16 ∧ (∀ z ∈ t, 0 ≤ z ∧ z < 256) ∧ s.size ≤ maxLen ∧ (-9223372036854775808 ≤ c ∧ c ≤ 9223372036854775807) ∧ (-9223372036854775808 ≤ n ∧ n ≤ 9223372036854775807) := by
  unfold Value.okWide at hv
  rw [Tryd.underlying60] at hv
  obtain ⟨cs, rfl, hsz, _⟩ := hv
  have hct : Tryd.prog.cellsOf 60 = 19 := by kernel_rfl
  have hci : Tryd.prog.cellsOf 3 = 1 := by kernel_rfl
  have hcs : Tryd.prog.cellsOf 9 = 1 := by kernel_rfl
  have hcg : Tryd.prog.cellsOf 58 = 16 := by kernel_rfl
  rw [hct] at hsz
  obtain ⟨xs, m, _, rfl, _, hl, hf⟩ := DataW.trod_struct Tryd.underlying60 h
  have hl : xs.length = 4 := hl
  simp only [Value.cells] at hf
  have h0 : DataW.trod enc Tryd.prog W b sp held m 3 ((cs.toList.drop 0).take (Tryd.prog.cellsOf 3)) = xs[0]? := hf 0 _ rfl
  have h1 : DataW.trod enc Tryd.prog W b sp held m 3 ((cs.toList.drop 1).take (Tryd.prog.cellsOf 3)) = xs[1]? := hf 1 _ rfl
  have h2 : DataW.trod enc Tryd.prog W b sp held m 9 ((cs.toList.drop 2).take (Tryd.prog.cellsOf 9)) = xs[2]? := hf 2 _ rfl
  have h3 : DataW.trod enc Tryd.prog W b sp held m 58 ((cs.toList.drop 3).take (Tryd.prog.cellsOf 58)) = xs[3]? := hf 3 _ rfl
  rw [hci] at h0 h1
  rw [hcs] at h2
  rw [hcg] at h3
  obtain ⟨y0, e0⟩ := some_at hl (show 0 < 4 by omega)
  obtain ⟨y1, e1⟩ := some_at hl (show 1 < 4 by omega)
  obtain ⟨y2, e2⟩ := some_at hl (show 2 < 4 by omega)
  obtain ⟨y3, e3⟩ := some_at hl (show 3 < 4 by omega)
  obtain ⟨c, g0, bc⟩ := int_at (h0.trans e0)
  obtain ⟨n, g1, bn⟩ := int_at (h1.trans e1)
  obtain ⟨s, g2, hs⟩ := str_at (h2.trans e2)
  obtain ⟨t, g3, ht, hb⟩ := tag_at (h3.trans e3)
  refine ⟨c, n, s, t, ?_, ht, hb, hs, bc, bn⟩
  congr 1
  apply Array.ext'
  show cs.toList = reqL c n s t
  have hcl : cs.toList.length = 19 := by simpa using hsz
  generalize cs.toList = l at *
  match l, hcl with
  | a0 :: a1 :: a2 :: l, hcl =>
    simp at g0 g1 g2 hcl
    have : List.take 16 l = v8 t := g3
    rw [List.take_of_length_le (by omega)] at this
    subst g0 g1 g2 this
    rfl
end Go.Proofs.YtinpbnkmpplkiaaDoor
