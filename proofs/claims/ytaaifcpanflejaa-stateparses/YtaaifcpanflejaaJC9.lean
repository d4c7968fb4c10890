/- StateParses: any text is the state that the document says, or has its error; without any condition -/
import Derived.Test.YtaaifcpanflejaaJC6
import Derived.Deep.Slices
import Derived.Test.YtaaifcpanflejaaRows
import Derived.ProofKit
import Derived.OpenShut
import Derived.ShutString
import Derived.ChangeOld
import Derived.Below
import Derived.Lib.LaidTab
import Derived.Test.YtaaifcpanflejaaJC8
import Derived.WalkKit
namespace Go.Proofs.Ytaaifcpanflejaa
open Go.ChangeShapes Go.WideShapes Go.ChangeAt Go.RowKit
open Sha Tal
set_option linter.unusedVariables false
set_option linter.constructorNameAsVariable false
theorem own : ownKnob Try.prog.godebug = none := by kernel_rfl
theorem laidOut : laidOutB Try.prog = true := by kernel_rfl
theorem some_at {α : Type} {xs : List α} {n i : Nat} (hl : xs.length = n) (hi : i < n) : ∃ y, xs[i]? = some y := ⟨xs[i]'(by omega), List.getElem?_eq_getElem (by omega)⟩
theorem drop_one {α : Type} {l : List α} {o : Nat} {v : α} (h : (l.drop o).take 1 = [v]) : l[o]? = some v := by
  have := congrArg (·[0]?) h
  simpa [List.getElem?_take, List.getElem?_drop] using this
section
variable {H : Type} {enc : TypeId × Value → H} {W : World} {b : Nat} {sp : Nat → Bool} {held : Bool} {m : Nat}
end
set_option maxRecDepth 100000 in
theorem open_cfg {H : Type} {enc : TypeId × Value → H} {W : World} {base b : Nat} {sp : Nat → Bool} {held : Bool} {fuel : Nat} {v : Value} {x : DataW H × List MemPlace} (hv : Value.okWide Try.prog W .any base 23 v)
    (h : DataW.trod enc Try.prog W b sp held fuel 23 v.cells.toList = some x) : ∃ c : Ld.Cfg, v = (.agg #[.int .i64 c.n, .int .i64 c.cl, .int .i64 c.wi, .int .i64 c.bu, .int .i64 c.ca, .int .i64 c.sl, .int .i64 c.rq, .int .i64 c.ti, .int .i64 c.pe, .int .i64 c.la]) := by
  unfold Value.okWide at hv
  rw [Try.underlying23] at hv
  obtain ⟨cs, rfl, hsz, _⟩ := hv
  have hct : Try.prog.cellsOf 23 = 10 := by kernel_rfl
  have hci : Try.prog.cellsOf 3 = 1 := by kernel_rfl
  rw [hct] at hsz
  obtain ⟨xs, m, _, rfl, _, hl, hf⟩ := DataW.trod_struct Try.underlying23 h
  have hl : xs.length = 10 := hl
  simp only [Value.cells] at hf
  have h0 : DataW.trod enc Try.prog W b sp held m 3 ((cs.toList.drop 0).take (Try.prog.cellsOf 3)) = xs[0]? := hf 0 _ rfl
  rw [hci] at h0
  obtain ⟨y0, e0⟩ := some_at hl (show 0 < 10 by omega)
  obtain ⟨B0, g0, rfl, hw0⟩ := DataW.trod_int Try.underlying3 (h0.trans e0)
  have g0 := drop_one g0
  have h1 : DataW.trod enc Try.prog W b sp held m 3 ((cs.toList.drop 1).take (Try.prog.cellsOf 3)) = xs[1]? := hf 1 _ rfl
  rw [hci] at h1
  obtain ⟨y1, e1⟩ := some_at hl (show 1 < 10 by omega)
  obtain ⟨B1, g1, rfl, hw1⟩ := DataW.trod_int Try.underlying3 (h1.trans e1)
  have g1 := drop_one g1
  have h2 : DataW.trod enc Try.prog W b sp held m 3 ((cs.toList.drop 2).take (Try.prog.cellsOf 3)) = xs[2]? := hf 2 _ rfl
  rw [hci] at h2
  obtain ⟨y2, e2⟩ := some_at hl (show 2 < 10 by omega)
  obtain ⟨B2, g2, rfl, hw2⟩ := DataW.trod_int Try.underlying3 (h2.trans e2)
  have g2 := drop_one g2
  have h3 : DataW.trod enc Try.prog W b sp held m 3 ((cs.toList.drop 3).take (Try.prog.cellsOf 3)) = xs[3]? := hf 3 _ rfl
  rw [hci] at h3
  obtain ⟨y3, e3⟩ := some_at hl (show 3 < 10 by omega)
  obtain ⟨B3, g3, rfl, hw3⟩ := DataW.trod_int Try.underlying3 (h3.trans e3)
  have g3 := drop_one g3
  have h4 : DataW.trod enc Try.prog W b sp held m 3 ((cs.toList.drop 4).take (Try.prog.cellsOf 3)) = xs[4]? := hf 4 _ rfl
  rw [hci] at h4
  obtain ⟨y4, e4⟩ := some_at hl (show 4 < 10 by omega)
  obtain ⟨B4, g4, rfl, hw4⟩ := DataW.trod_int Try.underlying3 (h4.trans e4)
  have g4 := drop_one g4
  have h5 : DataW.trod enc Try.prog W b sp held m 3 ((cs.toList.drop 5).take (Try.prog.cellsOf 3)) = xs[5]? := hf 5 _ rfl
  rw [hci] at h5
  obtain ⟨y5, e5⟩ := some_at hl (show 5 < 10 by omega)
  obtain ⟨B5, g5, rfl, hw5⟩ := DataW.trod_int Try.underlying3 (h5.trans e5)
  have g5 := drop_one g5
  have h6 : DataW.trod enc Try.prog W b sp held m 3 ((cs.toList.drop 6).take (Try.prog.cellsOf 3)) = xs[6]? := hf 6 _ rfl
  rw [hci] at h6
  obtain ⟨y6, e6⟩ := some_at hl (show 6 < 10 by omega)
  obtain ⟨B6, g6, rfl, hw6⟩ := DataW.trod_int Try.underlying3 (h6.trans e6)
  have g6 := drop_one g6
  have h7 : DataW.trod enc Try.prog W b sp held m 3 ((cs.toList.drop 7).take (Try.prog.cellsOf 3)) = xs[7]? := hf 7 _ rfl
  rw [hci] at h7
  obtain ⟨y7, e7⟩ := some_at hl (show 7 < 10 by omega)
  obtain ⟨B7, g7, rfl, hw7⟩ := DataW.trod_int Try.underlying3 (h7.trans e7)
  have g7 := drop_one g7
  have h8 : DataW.trod enc Try.prog W b sp held m 3 ((cs.toList.drop 8).take (Try.prog.cellsOf 3)) = xs[8]? := hf 8 _ rfl
  rw [hci] at h8
  obtain ⟨y8, e8⟩ := some_at hl (show 8 < 10 by omega)
  obtain ⟨B8, g8, rfl, hw8⟩ := DataW.trod_int Try.underlying3 (h8.trans e8)
  have g8 := drop_one g8
  have h9 : DataW.trod enc Try.prog W b sp held m 3 ((cs.toList.drop 9).take (Try.prog.cellsOf 3)) = xs[9]? := hf 9 _ rfl
  rw [hci] at h9
  obtain ⟨y9, e9⟩ := some_at hl (show 9 < 10 by omega)
  obtain ⟨B9, g9, rfl, hw9⟩ := DataW.trod_int Try.underlying3 (h9.trans e9)
  have g9 := drop_one g9
  refine ⟨⟨B0, B1, B2, B3, B4, B5, B6, B7, B8, B9⟩, ?_⟩
  congr 1
  apply Array.ext'
  have hcl : cs.toList.length = 10 := by simpa using hsz
  generalize cs.toList = l at *
  match l, hcl with
  | [a0, a1, a2, a3, a4, a5, a6, a7, a8, a9], _ =>
    simp at g0 g1 g2 g3 g4 g5 g6 g7 g8 g9
    subst g0 g1 g2 g3 g4 g5 g6 g7 g8 g9
    rfl
end Go.Proofs.Ytaaifcpanflejaa
namespace Go.Proofs.Ytaaifcpanflejaa.stateParses
open Go.ChangeShapes Go.WideShapes Go.ChangeAt Go.RowKit
open Go.ChangeMaps (open_string shut_string)
set_option linter.unusedVariables false
set_option maxRecDepth 100000 in
theorem lifted (os : Os) (started : os.Started) (H : Type) (enc : TypeId × Value → H) :
    ReturnsInHanded {} Try.checked os 3 .any (Rows.stateParsesSpec.pre6 enc Try.prog Try.f3 Rows.stateParsesRow.domain false) (Rows.stateParsesSpec.post enc Try.prog Try.f3 false true false false) := by
  refine returnsInHanded_of_change (C := Try.checked) own started (by kernel_rfl) Try.func3
    (ChangeSpec.witness6 (enc := enc) (C := Try.checked) false ⟨#[], #[.agg #[.int .i64 0, .int .i64 0, .int .i64 0, .int .i64 0, .int .i64 0, .int .i64 0, .int .i64 0, .int .i64 0, .int .i64 0, .int .i64 0], .string ⟨#[]⟩], []⟩ 8 (by kernel_rfl) (by kernel_rfl) (by kernel_rfl) (by kernel_rfl)) ?_
  intro W base args ds gs before hval0 hW hcnd _
  have hval : ∀ (j : Nat) t v, Try.f3.params[j]? = some t → args[j]? = some v → Value.okWide Try.prog W .any base t v := hval0
  have hW' := hW
  obtain ⟨p, q, hA0, hV, rfl, hfz, hnd⟩ := hW
  have hA : DataW.TrodAll enc Try.prog W 0 (fun _ => true) true Try.f3.params.toList args.toList ds p := hA0
  rw [Try.params3] at hA hval
  obtain ⟨v0, vs0, d0, ds0, p0, q0, hargs, rfl, rfl, h0, r0⟩ := trodAll_cons hA
  obtain ⟨v1, vs1, d1, ds1, p1, q1, rfl, rfl, rfl, h1, r1⟩ := trodAll_cons r0
  obtain ⟨rfl, rfl, rfl⟩ := trodAll_nil r1
  obtain rfl : args = #[v0, v1] := by cases args; simp_all
  obtain ⟨rfl, rfl⟩ := trodVars_none hV
  have k0 := h0
  have lt0 : ∀ x ∈ p0, x.block < W.heap.size := by obtain ⟨m, hm⟩ := k0; exact DataW.trod_lt m _ _ _ hm
  obtain ⟨fuel0, hf0⟩ := h0
  obtain ⟨x0, rfl⟩ := open_cfg (hval 0 23 v0 rfl rfl) hf0
  have k1 := h1
  have lt1 : ∀ x ∈ p1, x.block < W.heap.size := by obtain ⟨m, hm⟩ := k1; exact DataW.trod_lt m _ _ _ hm
  obtain ⟨s1, rfl, rfl, rfl, hs1⟩ := open_string Try.underlying9 (hval 1 9 v1 rfl rfl) h1
  clear hA0 hval0
  refine (stateParses_walk x0 s1 W (by have h := hs1; unfold maxLen at h; simp at h; omega)).mono fun e W' ⟨he, bel⟩ => ?_
  subst he
  exact ⟨_, rfl, _, _, _, [], _, [], hW', trodAll_mk1 (shut_bool Try.underlying4 _), (trodAll_cons_mk (Below.trod laidOut (by kernel_rfl) (of_decide_eq_true (by kernel_rfl)) k0 bel lt0) (trodAll_cons_mk (Below.trod laidOut (by kernel_rfl) (of_decide_eq_true (by kernel_rfl)) k1 bel lt1) trodAll_mk0)), rfl, bel.frame _, fun h => by cases h⟩
theorem over : Rows.stateParsesRow.holds Try.pinned (OpenSpec.ofChange Rows.stateParsesSpec) :=
  OpenClaim.holds_of_wide 3 Try.f3 rfl rfl rfl rfl rfl rfl rfl ⟨rfl, rfl, rfl, rfl, rfl⟩ rfl rfl rfl rfl rfl (by kernel_rfl) Try.func3 (by kernel_rfl)
    (of_decide_eq_true (by kernel_rfl)) (by unfold Func.isWrapper; first | (rw [if_pos (by decide +kernel)]; kernel_rfl) | (rw [if_neg (by decide +kernel)]; exact ⟨rfl, rfl⟩))
    (fun os started H enc _ => lifted os started H enc)
end Go.Proofs.Ytaaifcpanflejaa.stateParses
namespace Go.Proofs.Ytaaifcpanflejaa
theorem stateParses_holds : Rows.StateParsesSaid := stateParses.over
#print axioms stateParses_holds
end Go.Proofs.Ytaaifcpanflejaa
