/- acts and requests by value -/
import Derived.Test.YtbfcbjjhdadicaaDoorP9
import Derived.Test.YtbfcbjjhdadicaaDoorFrame
namespace Go.Proofs.YtbfcbjjhdadicaaDoor
open Go.ChangeShapes Go.WideShapes Go.ChangeAt Go.RowKit
open Sha Tal
set_option maxRecDepth 100000 in
theorem agg_of {W : World} {base : Nat} {t : TypeId} {fs : Array Field} {v : Value} (hu : Tryd.prog.underlying t = some (.struct fs)) (hv : Value.okWide Tryd.prog W .any base t v) : ∃ cs : Array Value, v = .agg cs := by
  unfold Value.okWide at hv
  rw [hu] at hv
  obtain ⟨cs, rfl, _⟩ := hv
  exact ⟨cs, rfl⟩
set_option maxRecDepth 100000 in
theorem open_act {H : Type} {enc : TypeId × Value → H} {W : World} {base b : Nat} {sp : Nat → Bool} {held : Bool} {fuel : Nat} {v : Value} {x : DataW H × List MemPlace} (hv : Value.okWide Tryd.prog W .any base 40 v)
    (h : DataW.trod enc Tryd.prog W b sp held fuel 40 v.cells.toList = some x) : ∃ A : Ac, v = .agg A.cells.toArray ∧ A.ok W := by
  obtain ⟨cs, rfl⟩ := agg_of Tryd.underlying40 hv
  obtain ⟨A, hA, ok⟩ := act_of h
  refine ⟨A, ?_, ok⟩
  rw [← hA]
  simp [Value.cells]
set_option maxRecDepth 100000 in
theorem open_rq {H : Type} {enc : TypeId × Value → H} {W : World} {base b : Nat} {sp : Nat → Bool} {held : Bool} {fuel : Nat} {v : Value} {x : DataW H × List MemPlace} (hv : Value.okWide Tryd.prog W .any base 35 v)
    (h : DataW.trod enc Tryd.prog W b sp held fuel 35 v.cells.toList = some x) : ∃ r : Rq, v = .agg r.cells.toArray ∧ r.ok := by
  obtain ⟨cs, rfl⟩ := agg_of Tryd.underlying35 hv
  obtain ⟨r, hr, ok⟩ := req_of h
  refine ⟨r, ?_, ok⟩
  rw [← hr]
  simp [Value.cells]
set_option maxRecDepth 100000 in
theorem acts_of {H : Type} {enc : TypeId × Value → H} {W : World} {b : Nat} {sp : Nat → Bool} {held : Bool} {fuel : Nat} {l : List Value} {x : DataW H × List MemPlace}
    (h : DataW.trod enc Tryd.prog W b sp held fuel 22 l = some x) : ∃ (a : Option Addr) (cap : Nat) (ys : List Ac), l = [.slice a ys.length cap] ∧ ys.length ≤ cap ∧ cap ≤ maxLen ∧ (∀ y ∈ ys, y.ok W) ∧ RowOf Ac.cells W a ys :=
  rows_of Ac.cells (Ac.ok W) 24 (by omega) 22 40 Tryd.underlying22 (by kernel_rfl) (fun _ h => h.length) (fun _ _ _ hz => act_of hz) h
set_option maxRecDepth 100000 in
theorem wins_of {H : Type} {enc : TypeId × Value → H} {W : World} {b : Nat} {sp : Nat → Bool} {held : Bool} {fuel : Nat} {l : List Value} {x : DataW H × List MemPlace}
    (h : DataW.trod enc Tryd.prog W b sp held fuel 38 l = some x) : ∃ (a : Option Addr) (cap : Nat) (ys : List (Int × Int)), l = [.slice a ys.length cap] ∧ ys.length ≤ cap ∧ cap ≤ maxLen ∧ (∀ y ∈ ys, winOk y) ∧ RowOf winL W a ys :=
  rows_of winL winOk 2 (by omega) 38 69 Tryd.underlying38 (by kernel_rfl) (fun _ _ => rfl) (fun _ _ _ hz => win_of hz) h
set_option maxRecDepth 100000 in
theorem reqs_of2 {H : Type} {enc : TypeId × Value → H} {W : World} {b : Nat} {sp : Nat → Bool} {held : Bool} {fuel : Nat} {l : List Value} {x : DataW H × List MemPlace}
    (h : DataW.trod enc Tryd.prog W b sp held fuel 43 l = some x) : ∃ (a : Option Addr) (cap : Nat) (ys : List Rq), l = [.slice a ys.length cap] ∧ ys.length ≤ cap ∧ cap ≤ maxLen ∧ (∀ y ∈ ys, y.ok) ∧ RowOf Rq.cells W a ys :=
  rows_of Rq.cells Rq.ok 19 (by omega) 43 35 Tryd.underlying43 (by kernel_rfl) (fun _ h => h.length) (fun _ _ _ hz => req_of hz) h
end Go.Proofs.YtbfcbjjhdadicaaDoor
