/- What a law of this seat is told: the package's tables, a digest by value; the card. -/
import Derived.Test.YtogmkcabndgllaaDoorBase
import Derived.Test.YtogmkcabndgllaaDoorRows
import Derived.Test.YtogmkcabndgllaaDoorCards
import Derived.Test.YtogmkcabndgllaaDoorTie
import Derived.ProofKit
import Derived.OpenShut
import Derived.ShutString
import Derived.ChangeOld
import Derived.LaidMore
import Derived.Stop.Joined
import Derived.Lib.LaidTab
import Derived.Below
namespace Go.Proofs.YtogmkcabndgllaaDoor
open Go.ChangeShapes Go.WideShapes Go.ChangeAt Go.RowKit
open Sha
theorem own : ownKnob Tryd.prog.godebug = none := by kernel_rfl
theorem laidOut : laidOutB Tryd.prog = true := by kernel_rfl
def laid2 {H : Type} : List (String × DataW H) := [("raddle/digest.starts", Rows.laid_raddle_digest_starts), ("raddle/digest.roots", Rows.laid_raddle_digest_roots)]
theorem gS : Tryd.prog.globalNamed "raddle/digest.starts" = some 0 := by kernel_rfl
theorem gR : Tryd.prog.globalNamed "raddle/digest.roots" = some 1 := by kernel_rfl
theorem tS : (Tryd.prog.globals[0]?).map (·.type) = some 87 := by kernel_rfl
theorem tR : (Tryd.prog.globals[1]?).map (·.type) = some 102 := by kernel_rfl
theorem door_met (os : Os) (args : Array Value) : laidMetH Tryd.prog laid2 ((World.doorLaid Tryd.prog 400 os).forCall (fun _ _ => 0) ⟨#[], args, []⟩).memory :=
  laidMetH_of_parts3 (fuel := 8) (laidMet_of_run' 8 (by kernel_rfl) (by kernel_rfl)) (by kernel_rfl) (by kernel_rfl)
def startZ : List Int := (list init).map fun x => (x.toNat : Int)
def rootZ : List Int := kl.map fun x => (x.toNat : Int)
theorem starts_tab {H : Type} : (Rows.laid_raddle_digest_starts : DataW H) = Lib.tabData .u32 startZ := by kernel_rfl
theorem roots_tab {H : Type} : (Rows.laid_raddle_digest_roots : DataW H) = Lib.tabData .u32 rootZ := by kernel_rfl
/-- WHAT THE CONDITION GIVES THE WALKS. -/
theorem glob_of {W : World} (h : laidMetH Tryd.prog laid2 W) : Glob W := by
  rw [MakeChecks.laidMetH_plain _ _ _ (by kernel_rfl)] at h
  obtain ⟨ps, ⟨g0, t0, cs0, f0, p0, q0, hg0, ht0, hv0, hd0, ⟨g1, t1, cs1, f1, p1, q1, hg1, ht1, hv1, hd1, _, _⟩, _⟩, _, _⟩ := h
  obtain rfl := Option.some.inj (gS.symm.trans hg0)
  obtain rfl := Option.some.inj (gR.symm.trans hg1)
  obtain rfl := Option.some.inj (tS.symm.trans ht0)
  obtain rfl := Option.some.inj (tR.symm.trans ht1)
  rw [starts_tab] at hd0
  rw [roots_tab] at hd1
  have e0 := Lib.cells_of_tab Tryd.underlying87 Tryd.underlying86 (by kernel_rfl) (by kernel_rfl) hd0
  have e1 := Lib.cells_of_tab Tryd.underlying102 Tryd.underlying86 (by kernel_rfl) (by kernel_rfl) hd1
  have r0 : W.rangeAt 0 0 (v32 (list init)) := fun j v hv => by
    have := World.var?_cell hg0 hv0 j
    rw [Nat.zero_add, this, ← Array.getElem?_toList, e0]
    simpa [startZ, v32] using hv
  have r1 : W.rangeAt 1 0 (v32 kl) := fun j v hv => by
    have := World.var?_cell hg1 hv1 j
    rw [Nat.zero_add, this, ← Array.getElem?_toList, e1]
    simpa [rootZ, v32] using hv
  refine ⟨r0, r1, ?_⟩
  have := World.block_lt_of_cell? W _ (r1 0 _ rfl)
  exact this
set_option maxRecDepth 100000 in
/-- a digest by value -/
theorem open_digest {H : Type} {enc : TypeId × Value → H} {W : World} {base b : Nat} {sp : Nat → Bool} {held : Bool} {fuel : Nat} {v : Value} {x : DataW H × List MemPlace} (hv : Value.okWide Tryd.prog W .any base 26 v)
    (h : DataW.trod enc Tryd.prog W b sp held fuel 26 v.cells.toList = some x) : ∃ zs : List Int, v = .agg (v8 zs).toArray ∧ zs.length = 32 ∧ ∀ z ∈ zs, 0 ≤ z ∧ z < 256 := by
  unfold Value.okWide at hv
  rw [Tryd.underlying26] at hv
  obtain ⟨cs, rfl, hsz, _⟩ := hv
  have hct : Tryd.prog.cellsOf 26 = 32 := by kernel_rfl
  have hce : Tryd.prog.cellsOf 5 = 1 := by kernel_rfl
  rw [hct] at hsz
  cases fuel with
  | zero => simp [DataW.trod] at h
  | succ fuel =>
    simp only [DataW.trod, Tryd.underlying26, hce, hct, Nat.mul_one, Value.cells] at h
    split at h
    · obtain ⟨xs, hm, hx⟩ := Option.map_eq_some_iff.1 h
      have key : ∀ i, i < 32 → ∃ z, cs.toList[i]? = some (.int .u8 z) ∧ 0 ≤ z ∧ z < 256 := fun i hi => by
        obtain ⟨y, hy, hf⟩ := Lib.mapM_at hm i i (by simp [hi])
        obtain ⟨z, hc, rfl, hw⟩ := DataW.trod_int Tryd.underlying5 hf
        refine ⟨z, ?_, ?_⟩
        · have := congrArg (·[0]?) hc
          simpa [List.getElem?_take, List.getElem?_drop] using this
        · simp [Lit.wf, IntKind.min, IntKind.max, IntKind.signed, IntKind.bits] at hw
          omega
      refine ⟨cs.toList.map (fun v => match v with | .int _ z => z | _ => 0), ?_, by simpa using hsz, ?_⟩
      · congr 1
        apply Array.ext'
        apply List.ext_getElem?
        intro i
        by_cases hi : i < 32
        · obtain ⟨z, hz, _⟩ := key i hi
          simp only [v8, List.map_map, List.getElem?_map, hz, Option.map_some]
          rfl
        · rw [List.getElem?_eq_none (by simp; omega), List.getElem?_eq_none (by simp [v8]; omega)]
      · intro z hz
        obtain ⟨u, hu, rfl⟩ := List.mem_map.1 hz
        obtain ⟨i, hi, rfl⟩ := List.mem_iff_getElem.1 hu
        obtain ⟨z, hz, hb⟩ := key i (by simpa [hsz] using hi)
        rw [List.getElem?_eq_getElem hi] at hz
        rw [Option.some.inj hz]
        exact hb
    · cases h
end Go.Proofs.YtogmkcabndgllaaDoor
