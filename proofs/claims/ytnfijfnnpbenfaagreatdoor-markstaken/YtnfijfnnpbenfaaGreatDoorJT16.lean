/- MarksTaken: a state that a quorum signed is taken with their signs; with another text it is refused, as long as macs and digests are unlike; without any conditi -/
import Derived.Test.YtnfijfnnpbenfaaGreatDoorJT6
import Derived.Test.YtnfijfnnpbenfaaGreatDoorJT9
import Derived.ProofKit
import Derived.OpenShut
import Derived.ShutString
import Derived.ChangeOld
import Derived.Below
import Derived.Test.YtnfijfnnpbenfaaGreatDoorJT8
import Derived.Deep.Slices
import Derived.Test.YtnfijfnnpbenfaaGreatDoorRows
import Derived.Lib.LaidTab
import Derived.Test.YtnfijfnnpbenfaaGreatDoorJT15
namespace Go.Proofs.YtnfijfnnpbenfaaGreatDoor
open Go.ChangeShapes Go.WideShapes Go.ChangeAt Go.RowKit
theorem wf64 {z : Int} (h : (Lit.int .i64 z).wf = true) : -9223372036854775808 ≤ z ∧ z ≤ 9223372036854775807 := by
 simp only [Lit.wf, Bool.and_eq_true, decide_eq_true_eq] at h
 exact h
theorem some_at {α : Type} {xs : List α} {n i : Nat} (hl : xs.length = n) (hi : i < n) : ∃ y, xs[i]? = some y := ⟨xs[i]'(by omega), List.getElem?_eq_getElem (by omega)⟩
theorem drop_one {α : Type} {l : List α} {o : Nat} {v : α} (h : (l.drop o).take 1 = [v]) : l[o]? = some v := by
 have := congrArg (·[0]?) h
 simpa [List.getElem?_take, List.getElem?_drop] using this
set_option maxRecDepth 100000 in
theorem open_cfg {H : Type} {enc : TypeId × Value → H} {W : World} {base b : Nat} {sp : Nat → Bool} {held : Bool} {fuel : Nat} {v : Value} {x : DataW H × List MemPlace} (hv : Value.okWide Tryz.prog W .any base 23 v)
  (h : DataW.trod enc Tryz.prog W b sp held fuel 23 v.cells.toList = some x) : ∃ c : Ld.Cfg, v = (.agg #[.int .i64 c.n, .int .i64 c.cl, .int .i64 c.wi, .int .i64 c.bu, .int .i64 c.ca, .int .i64 c.sl, .int .i64 c.rq, .int .i64 c.ti, .int .i64 c.pe, .int .i64 c.la]) := by
 unfold Value.okWide at hv
 rw [Tryz.underlying23] at hv
 obtain ⟨cs, rfl, hsz, _⟩ := hv
 have hct : Tryz.prog.cellsOf 23 = 10 := by kernel_rfl
 have hci : Tryz.prog.cellsOf 3 = 1 := by kernel_rfl
 rw [hct] at hsz
 obtain ⟨xs, m, _, rfl, _, hl, hf⟩ := DataW.trod_struct Tryz.underlying23 h
 have hl : xs.length = 10 := hl
 simp only [Value.cells] at hf
 have h0 : DataW.trod enc Tryz.prog W b sp held m 3 ((cs.toList.drop 0).take (Tryz.prog.cellsOf 3)) = xs[0]? := hf 0 _ rfl
 rw [hci] at h0
 obtain ⟨y0, e0⟩ := some_at hl (show 0 < 10 by omega)
 obtain ⟨B0, g0, rfl, hw0⟩ := DataW.trod_int Tryz.underlying3 (h0.trans e0)
 have g0 := drop_one g0
 have h1 : DataW.trod enc Tryz.prog W b sp held m 3 ((cs.toList.drop 1).take (Tryz.prog.cellsOf 3)) = xs[1]? := hf 1 _ rfl
 rw [hci] at h1
 obtain ⟨y1, e1⟩ := some_at hl (show 1 < 10 by omega)
 obtain ⟨B1, g1, rfl, hw1⟩ := DataW.trod_int Tryz.underlying3 (h1.trans e1)
 have g1 := drop_one g1
 have h2 : DataW.trod enc Tryz.prog W b sp held m 3 ((cs.toList.drop 2).take (Tryz.prog.cellsOf 3)) = xs[2]? := hf 2 _ rfl
 rw [hci] at h2
 obtain ⟨y2, e2⟩ := some_at hl (show 2 < 10 by omega)
 obtain ⟨B2, g2, rfl, hw2⟩ := DataW.trod_int Tryz.underlying3 (h2.trans e2)
 have g2 := drop_one g2
 have h3 : DataW.trod enc Tryz.prog W b sp held m 3 ((cs.toList.drop 3).take (Tryz.prog.cellsOf 3)) = xs[3]? := hf 3 _ rfl
 rw [hci] at h3
 obtain ⟨y3, e3⟩ := some_at hl (show 3 < 10 by omega)
 obtain ⟨B3, g3, rfl, hw3⟩ := DataW.trod_int Tryz.underlying3 (h3.trans e3)
 have g3 := drop_one g3
 have h4 : DataW.trod enc Tryz.prog W b sp held m 3 ((cs.toList.drop 4).take (Tryz.prog.cellsOf 3)) = xs[4]? := hf 4 _ rfl
 rw [hci] at h4
 obtain ⟨y4, e4⟩ := some_at hl (show 4 < 10 by omega)
 obtain ⟨B4, g4, rfl, hw4⟩ := DataW.trod_int Tryz.underlying3 (h4.trans e4)
 have g4 := drop_one g4
 have h5 : DataW.trod enc Tryz.prog W b sp held m 3 ((cs.toList.drop 5).take (Tryz.prog.cellsOf 3)) = xs[5]? := hf 5 _ rfl
 rw [hci] at h5
 obtain ⟨y5, e5⟩ := some_at hl (show 5 < 10 by omega)
 obtain ⟨B5, g5, rfl, hw5⟩ := DataW.trod_int Tryz.underlying3 (h5.trans e5)
 have g5 := drop_one g5
 have h6 : DataW.trod enc Tryz.prog W b sp held m 3 ((cs.toList.drop 6).take (Tryz.prog.cellsOf 3)) = xs[6]? := hf 6 _ rfl
 rw [hci] at h6
 obtain ⟨y6, e6⟩ := some_at hl (show 6 < 10 by omega)
 obtain ⟨B6, g6, rfl, hw6⟩ := DataW.trod_int Tryz.underlying3 (h6.trans e6)
 have g6 := drop_one g6
 have h7 : DataW.trod enc Tryz.prog W b sp held m 3 ((cs.toList.drop 7).take (Tryz.prog.cellsOf 3)) = xs[7]? := hf 7 _ rfl
 rw [hci] at h7
 obtain ⟨y7, e7⟩ := some_at hl (show 7 < 10 by omega)
 obtain ⟨B7, g7, rfl, hw7⟩ := DataW.trod_int Tryz.underlying3 (h7.trans e7)
 have g7 := drop_one g7
 have h8 : DataW.trod enc Tryz.prog W b sp held m 3 ((cs.toList.drop 8).take (Tryz.prog.cellsOf 3)) = xs[8]? := hf 8 _ rfl
 rw [hci] at h8
 obtain ⟨y8, e8⟩ := some_at hl (show 8 < 10 by omega)
 obtain ⟨B8, g8, rfl, hw8⟩ := DataW.trod_int Tryz.underlying3 (h8.trans e8)
 have g8 := drop_one g8
 have h9 : DataW.trod enc Tryz.prog W b sp held m 3 ((cs.toList.drop 9).take (Tryz.prog.cellsOf 3)) = xs[9]? := hf 9 _ rfl
 rw [hci] at h9
 obtain ⟨y9, e9⟩ := some_at hl (show 9 < 10 by omega)
 obtain ⟨B9, g9, rfl, hw9⟩ := DataW.trod_int Tryz.underlying3 (h9.trans e9)
 have g9 := drop_one g9
 refine ⟨⟨B0, B1, B2, B3, B4, B5, B6, B7, B8, B9⟩, ?_⟩
 congr 1
 apply Array.ext'
 have hcl : cs.toList.length = 10 := by simpa using hsz
 generalize cs.toList = l at *
 match l, hcl with
 | [a0, a1, a2, a3, a4, a5, a6, a7, a8, a9], _ =>
  simp at g0 g1 g2 g3 g4 g5 g6 g7 g8 g9
  subst g0 g1 g2 g3 g4 g5 g6 g7 g8 g9
  rfl
open Sha Tal
set_option linter.unusedVariables false
set_option linter.constructorNameAsVariable false
section
variable {H : Type} {enc : TypeId × Value → H} {W : World} {b : Nat} {sp : Nat → Bool} {held : Bool} {m : Nat}
theorem bytes_at {t n : Nat} {l : List Value} {y : DataW H × List MemPlace} (hu : Tryz.prog.underlying t = some (.array n 5)) (hct : Tryz.prog.cellsOf t = n) (h : DataW.trod enc Tryz.prog W b sp held m t l = some y) : ∃ zs : List Int, l = v8 zs ∧ zs.length = n ∧ ∀ z ∈ zs, 0 ≤ z ∧ z < 256 := by
  have hce : Tryz.prog.cellsOf 5 = 1 := by kernel_rfl
  cases m with
  | zero => simp [DataW.trod] at h
  | succ m =>
    simp only [DataW.trod, hu, hce, hct, Nat.mul_one] at h
    split at h
    · rename_i hsz
      obtain ⟨xs, hm, hx⟩ := Option.map_eq_some_iff.1 h
      have key : ∀ i, i < n → ∃ z, l[i]? = some (.int .u8 z) ∧ 0 ≤ z ∧ z < 256 := fun i hi => by
        obtain ⟨y, hy, hf⟩ := Lib.mapM_at hm i i (by simp [hi])
        obtain ⟨z, hc, rfl, hw⟩ := DataW.trod_int Tryz.underlying5 hf
        refine ⟨z, drop_one hc, ?_⟩
        simp [Lit.wf, IntKind.min, IntKind.max, IntKind.signed, IntKind.bits] at hw
        omega
      have hln : l.length = n := by simpa using hsz
      refine ⟨l.map (fun v => match v with | .int _ z => z | _ => 0), ?_, by simpa using hln, ?_⟩
      · apply List.ext_getElem?
        intro i
        by_cases hi : i < n
        · obtain ⟨z, hz, _⟩ := key i hi
          simp only [v8, List.map_map, List.getElem?_map, hz, Option.map_some]
          rfl
        · rw [List.getElem?_eq_none (by omega), List.getElem?_eq_none (by simp [v8]; omega)]
      · intro z hz
        obtain ⟨u, hu, rfl⟩ := List.mem_map.1 hz
        obtain ⟨i, hi, rfl⟩ := List.mem_iff_getElem.1 hu
        obtain ⟨z, hz, hb⟩ := key i (by omega)
        rw [List.getElem?_eq_getElem hi] at hz
        rw [Option.some.inj hz]
        exact hb
    · cases h
end
theorem cells_some {w : World} {base n : Nat} {x : Addr} {cs : List Value} (h : w.cells? base x n = some cs) : cs.length = n ∧ ∀ j v, cs[j]? = some v → w.cell? (x.add j) = some v := by
 unfold World.cells? at h
 split at h
 ·have hl := Lib.mapM_length h
  refine ⟨by simpa using hl, fun j v hv => ?_⟩
  have hj : j < n := by
   have := (List.getElem?_eq_some_iff.1 hv).1
   have : cs.length = n := by simpa using hl
   omega
  obtain ⟨y, hy, hf⟩ := Lib.mapM_at h j j (by simp [hj])
  rw [hv] at hy
  exact hf.trans hy.symm
 ·cases h
theorem flat_getA {α : Type} {f : α → List Value} {k : Nat} (hk : 0 < k) (R : Nat → α) : ∀ (n : Nat), (∀ i, i < n → (f (R i)).length = k) → ∀ j, j < n * k → (((List.range n).map R).flatMap f)[j]? = (f (R (j / k)))[j % k]? := by
  intro n
  induction n with
  | zero => intro _ j hj; omega
  | succ n ih =>
    intro hR j hj
    have hl : (((List.range n).map R).flatMap f).length = n * k := by
      have := flat_len_k (f := f) (k := k) (ys := (List.range n).map R) (fun y hy => by
        obtain ⟨i, hi, rfl⟩ := List.mem_map.1 hy
        exact hR i (by have := List.mem_range.1 hi; omega))
      simpa using this
    rw [List.range_succ, List.map_append, List.flatMap_append]
    by_cases h : j < n * k
    · rw [List.getElem?_append_left (by omega), ih (fun i hi => hR i (by omega)) j h]
    · rw [List.getElem?_append_right (by omega), hl]
      have e0 : j = (j - n * k) + k * n := by rw [Nat.mul_comm k n]; omega
      have hlt : j - n * k < k := by rw [Nat.add_mul, Nat.one_mul] at hj; omega
      have e1 : j / k = n := by rw [e0, Nat.add_mul_div_left _ _ hk, Nat.div_eq_of_lt hlt]; omega
      have e2 : j % k = j - n * k := by
        have := congrArg (· % k) e0
        simp only [Nat.add_mul_mod_self_left] at this
        rw [this, Nat.mod_eq_of_lt hlt]
      rw [e1, e2]
      simp
set_option maxRecDepth 100000 in
theorem rows_of {α : Type} [Inhabited α] (f : α → List Value) (ok : α → Prop) (k : Nat) (hk : 0 < k) (tl te : TypeId) (hu : Tryz.prog.underlying tl = some (.slice te)) (hct : Tryz.prog.cellsOf te = k) (hf : ∀ y, ok y → (f y).length = k)
  {H : Type} {enc : TypeId × Value → H} {W : World} {b : Nat} {sp : Nat → Bool} {held : Bool} {fuel : Nat} {l : List Value} {x : DataW H × List MemPlace}
  (hel : ∀ (m : Nat) (l : List Value) (z : DataW H × List MemPlace), DataW.trod enc Tryz.prog W b sp held m te l = some z → ∃ y, l = f y ∧ ok y)
  (h : DataW.trod enc Tryz.prog W b sp held fuel tl l = some x) : ∃ (a : Option Addr) (cap : Nat) (ys : List α), l = [.slice a ys.length cap] ∧ ys.length ≤ cap ∧ cap ≤ maxLen ∧ (∀ y ∈ ys, ok y) ∧ RowOf f W a ys := by
 rcases Deep.open_slice hu h with ⟨rfl, _⟩ | ⟨a, len, cap, m, n, D, Pl, rfl, hb, hlc, hcm, hm, _, hel2⟩
 ·exact ⟨none, 0, [], rfl, by simp, by simp, by simp, .inl rfl⟩
 ·rw [hct] at hel2
  have hml : len ≤ m := by rw [hm]; split <;> omega
  have key : ∀ i, i < len → ∃ y : α, W.cells? b (a.add (i * k)) k = some (f y) ∧ ok y := fun i hi => by
   obtain ⟨cs, h1, h2⟩ := hel2 i (by omega)
   obtain ⟨y, rfl, hy⟩ := hel _ _ _ h2
   exact ⟨y, h1, hy⟩
  obtain ⟨R, hR⟩ := Deep.choose_lt key
  refine ⟨some a, cap, (List.range len).map R, by simp, by simpa using hlc, hcm, ?_, ?_⟩
  ·intro y hy
   obtain ⟨i, hi, rfl⟩ := List.mem_map.1 hy
   exact (hR i (List.mem_range.1 hi)).2
  ·by_cases h0 : len = 0
   ·left; simp [h0]
   ·right
    obtain ⟨bb, off, spot⟩ := a
    have hlen0 := hf _ (hR 0 (by omega)).2
    have hc := (cells_some (hR 0 (by omega)).1).2 0 ((f (R 0))[0]'(by omega)) (List.getElem?_eq_getElem _)
    have hspot : spot = none := by simpa [Addr.add] using World.cell?_spot hc
    subst hspot
    refine ⟨bb, off, rfl, ?_, fun j v hv => ?_⟩
    ·have := World.block_lt_of_cell? W _ hc; simpa [Addr.add] using this
    ·have hj : j < len * k := by
      have := (List.getElem?_eq_some_iff.1 hv).1
      rw [flat_len_k (k := k)] at this
      ·simpa using this
      ·intro y hy
       obtain ⟨i, hi, rfl⟩ := List.mem_map.1 hy
       exact hf _ (hR i (List.mem_range.1 hi)).2
     rw [flat_getA hk R len (fun i hi => hf _ (hR i hi).2) j hj] at hv
     have hdm : j / k < len := (Nat.div_lt_iff_lt_mul hk).2 hj
     have := (cells_some (hR (j / k) hdm).1).2 _ _ hv
     rw [Addr.add_mid, Addr.add_mid] at this
     rw [← this]
     congr 2
     have := Nat.div_add_mod j k
     rw [Nat.mul_comm] at this
     omega
theorem take_cut {α : Type} (l : List α) (o n k : Nat) : (l.drop o).take (n + k) = (l.drop o).take n ++ (l.drop (o + n)).take k := by
 rw [List.take_add, List.drop_drop]
theorem take_whole {α : Type} {l : List α} {n : Nat} (h : l.length = n) : l = (l.drop 0).take n := by
 rw [List.drop_zero, List.take_of_length_le (by omega)]
theorem wfu64 {z : Int} (h : (Lit.int .u64 z).wf = true) : ∃ m : Nat, z = (m : Int) ∧ m < 2 ^ 64 := by
 simp only [Lit.wf, Bool.and_eq_true, decide_eq_true_eq] at h
 have h0 : 0 ≤ z := h.1
 have h1 : z ≤ 18446744073709551615 := h.2
 exact ⟨z.toNat, by omega, by omega⟩
set_option maxRecDepth 100000 in
theorem win_of {H : Type} {enc : TypeId × Value → H} {W : World} {b : Nat} {sp : Nat → Bool} {held : Bool} {fuel : Nat} {l : List Value} {x : DataW H × List MemPlace}
  (h : DataW.trod enc Tryz.prog W b sp held fuel 79 l = some x) : ∃ r : Wd, l = WdE.f r ∧ WdE.ok r := by
 have hct : Tryz.prog.cellsOf 79 = 2 := by kernel_rfl
 obtain ⟨xs, m, _, rfl, hcl, hl, hf⟩ := DataW.trod_struct Tryz.underlying79 h
 rw [hct] at hcl
 have hl : xs.length = 2 := hl
 have h0 : DataW.trod enc Tryz.prog W b sp held m 3 ((l.drop 0).take (Tryz.prog.cellsOf 3)) = xs[0]? := hf 0 _ rfl
 rw [show Tryz.prog.cellsOf 3 = 1 by kernel_rfl] at h0
 obtain ⟨y0, e0⟩ := some_at hl (show 0 < 2 by omega)
 obtain ⟨z0, g0, _, wz0⟩ := DataW.trod_int Tryz.underlying3 (h0.trans e0)
 have bz0 := wf64 wz0
 have h1 : DataW.trod enc Tryz.prog W b sp held m 77 ((l.drop 1).take (Tryz.prog.cellsOf 77)) = xs[1]? := hf 1 _ rfl
 rw [show Tryz.prog.cellsOf 77 = 1 by kernel_rfl] at h1
 obtain ⟨y1, e1⟩ := some_at hl (show 1 < 2 by omega)
 obtain ⟨zz1, g1, _, wz1⟩ := DataW.trod_int Tryz.underlying77 (h1.trans e1)
 obtain ⟨z1, rfl, bz1⟩ := wfu64 wz1
 refine ⟨⟨z0, z1⟩, ?_, ⟨bz0.1, bz0.2, bz1⟩⟩
 have e := take_whole (n := 1 + (1)) hcl
 rw [take_cut, g0, g1] at e
 first | exact e | (rw [e]; rfl) | (rw [e]; simp)
set_option maxRecDepth 100000 in
theorem pn_of {H : Type} {enc : TypeId × Value → H} {W : World} {b : Nat} {sp : Nat → Bool} {held : Bool} {fuel : Nat} {l : List Value} {x : DataW H × List MemPlace}
  (h : DataW.trod enc Tryz.prog W b sp held fuel 3 l = some x) : ∃ r : Int, l = PnE.f r ∧ PnE.ok r := by
 obtain ⟨z, g, _, wz⟩ := DataW.trod_int Tryz.underlying3 h
 have bz := wf64 wz
 exact ⟨z, g, ⟨bz.1, bz.2⟩⟩
set_option maxRecDepth 100000 in
theorem wins_of {H : Type} {enc : TypeId × Value → H} {W : World} {b : Nat} {sp : Nat → Bool} {held : Bool} {fuel : Nat} {l : List Value} {x : DataW H × List MemPlace}
  (h : DataW.trod enc Tryz.prog W b sp held fuel 33 l = some x) : ∃ y : Sl Wd, l = [y.val] ∧ y.At WdE W := by
 obtain ⟨a, cap, ys, h1, h2, h3, h4, h5⟩ := rows_of WdE.f WdE.ok 2 (by decide) 33 79 Tryz.underlying33 (by kernel_rfl) WdE.len (fun m l z hz => win_of hz) h
 exact ⟨⟨a, cap, ys⟩, h1, Nat.le_trans h2 h3, h4, h5⟩
set_option maxRecDepth 100000 in
theorem ints_of {H : Type} {enc : TypeId × Value → H} {W : World} {b : Nat} {sp : Nat → Bool} {held : Bool} {fuel : Nat} {l : List Value} {x : DataW H × List MemPlace}
  (h : DataW.trod enc Tryz.prog W b sp held fuel 34 l = some x) : ∃ y : Sl Int, l = [y.val] ∧ y.At PnE W := by
 obtain ⟨a, cap, ys, h1, h2, h3, h4, h5⟩ := rows_of PnE.f PnE.ok 1 (by decide) 34 3 Tryz.underlying34 (by kernel_rfl) PnE.len (fun m l z hz => pn_of hz) h
 exact ⟨⟨a, cap, ys⟩, h1, Nat.le_trans h2 h3, h4, h5⟩
set_option maxRecDepth 100000 in
theorem state_of {H : Type} {enc : TypeId × Value → H} {W : World} {b : Nat} {sp : Nat → Bool} {held : Bool} {fuel : Nat} {l : List Value} {x : DataW H × List MemPlace}
  (h : DataW.trod enc Tryz.prog W b sp held fuel 36 l = some x) : ∃ r : Stt, l = r.cells ∧ r.ok ∧ r.At W := by
 have hct : Tryz.prog.cellsOf 36 = 37 := by kernel_rfl
 obtain ⟨xs, m, _, rfl, hcl, hl, hf⟩ := DataW.trod_struct Tryz.underlying36 h
 rw [hct] at hcl
 have hl : xs.length = 6 := hl
 have h0 : DataW.trod enc Tryz.prog W b sp held m 3 ((l.drop 0).take (Tryz.prog.cellsOf 3)) = xs[0]? := hf 0 _ rfl
 rw [show Tryz.prog.cellsOf 3 = 1 by kernel_rfl] at h0
 obtain ⟨y0, e0⟩ := some_at hl (show 0 < 6 by omega)
 obtain ⟨z0, g0, _, wz0⟩ := DataW.trod_int Tryz.underlying3 (h0.trans e0)
 have bz0 := wf64 wz0
 have h1 : DataW.trod enc Tryz.prog W b sp held m 3 ((l.drop 1).take (Tryz.prog.cellsOf 3)) = xs[1]? := hf 1 _ rfl
 rw [show Tryz.prog.cellsOf 3 = 1 by kernel_rfl] at h1
 obtain ⟨y1, e1⟩ := some_at hl (show 1 < 6 by omega)
 obtain ⟨z1, g1, _, wz1⟩ := DataW.trod_int Tryz.underlying3 (h1.trans e1)
 have bz1 := wf64 wz1
 have h2 : DataW.trod enc Tryz.prog W b sp held m 3 ((l.drop 2).take (Tryz.prog.cellsOf 3)) = xs[2]? := hf 2 _ rfl
 rw [show Tryz.prog.cellsOf 3 = 1 by kernel_rfl] at h2
 obtain ⟨y2, e2⟩ := some_at hl (show 2 < 6 by omega)
 obtain ⟨z2, g2, _, wz2⟩ := DataW.trod_int Tryz.underlying3 (h2.trans e2)
 have bz2 := wf64 wz2
 have h3 : DataW.trod enc Tryz.prog W b sp held m 32 ((l.drop 3).take (Tryz.prog.cellsOf 32)) = xs[3]? := hf 3 _ rfl
 rw [show Tryz.prog.cellsOf 32 = 32 by kernel_rfl] at h3
 obtain ⟨y3, e3⟩ := some_at hl (show 3 < 6 by omega)
 obtain ⟨z3, g3, lz3, bz3⟩ := bytes_at Tryz.underlying32 (by kernel_rfl) (h3.trans e3)
 have h4 : DataW.trod enc Tryz.prog W b sp held m 33 ((l.drop 35).take (Tryz.prog.cellsOf 33)) = xs[4]? := hf 4 _ rfl
 rw [show Tryz.prog.cellsOf 33 = 1 by kernel_rfl] at h4
 obtain ⟨y4, e4⟩ := some_at hl (show 4 < 6 by omega)
 obtain ⟨z4, g4, bz4⟩ := wins_of (h4.trans e4)
 have h5 : DataW.trod enc Tryz.prog W b sp held m 34 ((l.drop 36).take (Tryz.prog.cellsOf 34)) = xs[5]? := hf 5 _ rfl
 rw [show Tryz.prog.cellsOf 34 = 1 by kernel_rfl] at h5
 obtain ⟨y5, e5⟩ := some_at hl (show 5 < 6 by omega)
 obtain ⟨z5, g5, bz5⟩ := ints_of (h5.trans e5)
 refine ⟨⟨z0, z1, z2, z3, z4, z5⟩, ?_, ⟨bz0.1, bz0.2, bz1.1, bz1.2, bz2.1, bz2.2, lz3, bz3⟩, ⟨bz4, bz5⟩⟩
 have e := take_whole (n := 1 + (1 + (1 + (32 + (1 + (1)))))) hcl
 rw [take_cut, take_cut, take_cut, take_cut, take_cut, g0, g1, g2, g3, g4, g5] at e
 rw [e]; simp [Stt.cells]
set_option maxRecDepth 100000 in
theorem open_state {H : Type} {enc : TypeId × Value → H} {W : World} {base b : Nat} {sp : Nat → Bool} {held : Bool} {fuel : Nat} {v : Value} {x : DataW H × List MemPlace} (hv : Value.okWide Tryz.prog W .any base 36 v)
  (h : DataW.trod enc Tryz.prog W b sp held fuel 36 v.cells.toList = some x) : ∃ m : Stt, v = .agg m.cells.toArray ∧ m.ok ∧ m.At W := by
 unfold Value.okWide at hv
 rw [Tryz.underlying36] at hv
 obtain ⟨cs, rfl, hsz, _⟩ := hv
 obtain ⟨r, h1, h2, h3⟩ := state_of h
 refine ⟨r, ?_, h2, h3⟩
 simp only [Value.cells] at h1
 rw [← h1]
end Go.Proofs.YtnfijfnnpbenfaaGreatDoor
namespace Go.Proofs.YtnfijfnnpbenfaaGreatDoor.marksTaken
open Go.ChangeShapes Go.WideShapes Go.ChangeAt Go.RowKit
open Go.ChangeMaps (open_string shut_string)
set_option linter.unusedVariables false
set_option maxRecDepth 100000 in
theorem lifted (os : Os) (started : os.Started) (H : Type) (enc : TypeId × Value → H) :
  ReturnsInHanded {} Tryz.checked os 4 .any (fun w args => (Rows.marksTakenSpec.pre enc Tryz.prog Tryz.f4 [] false w args ∧ laidMetH Tryz.prog laid2 w) ∧ sizedMet enc Tryz.prog Tryz.f4 (OpenSpec.ofChange Rows.marksTakenSpec) false w args)
   (Rows.marksTakenSpec.post enc Tryz.prog Tryz.f4 false true false false) := by
 refine returnsInHanded_of_change_and (C := Tryz.checked) (X := fun w _ => laidMetH Tryz.prog laid2 w) (fun _ _ _ hh h => h.of_heap hh) own started (by kernel_rfl) Tryz.func4
  (ChangeSpec.witness_shaped (enc := enc) (C := Tryz.checked) (os := os) (X := fun w _ => laidMetH Tryz.prog laid2 w) false (World.doorLaid Tryz.prog 400 os) #[.agg #[.int .i64 0, .int .i64 0, .int .i64 0, .int .i64 0, .int .i64 0, .int .i64 0, .int .i64 0, .int .i64 0, .int .i64 0, .int .i64 0], .agg #[.int .i64 0, .int .i64 0, .int .i64 0, .int .u8 0, .int .u8 0, .int .u8 0, .int .u8 0, .int .u8 0, .int .u8 0, .int .u8 0, .int .u8 0, .int .u8 0, .int .u8 0, .int .u8 0, .int .u8 0, .int .u8 0, .int .u8 0, .int .u8 0, .int .u8 0, .int .u8 0, .int .u8 0, .int .u8 0, .int .u8 0, .int .u8 0, .int .u8 0, .int .u8 0, .int .u8 0, .int .u8 0, .int .u8 0, .int .u8 0, .int .u8 0, .int .u8 0, .int .u8 0, .int .u8 0, .int .u8 0, .slice none 0 0, .slice none 0 0], .slice none 0 0, .int .i64 0, .int .u8 0] 8 rfl (World.shaped_of_RefB (by kernel_rfl) (by kernel_rfl)) (by kernel_rfl) (by kernel_rfl) (by kernel_rfl) (door_met os _)) ?_
 intro W base args ds gs before hval0 hW _ _ hL _
 have hval : ∀ (j : Nat) t v, Tryz.f4.params[j]? = some t → args[j]? = some v → Value.okWide Tryz.prog W .any base t v := hval0
 have hW' := hW
 obtain ⟨p, q, hA0, hV, rfl, hfz, hnd⟩ := hW
 have hA : DataW.TrodAll enc Tryz.prog W 0 (fun _ => true) true Tryz.f4.params.toList args.toList ds p := hA0
 rw [Tryz.params4] at hA hval
 obtain ⟨v0, vs0, d0, ds0, p0, q0, hargs, rfl, rfl, h0, r0⟩ := trodAll_cons hA
 obtain ⟨v1, vs1, d1, ds1, p1, q1, rfl, rfl, rfl, h1, r1⟩ := trodAll_cons r0
 obtain ⟨v2, vs2, d2, ds2, p2, q2, rfl, rfl, rfl, h2, r2⟩ := trodAll_cons r1
 obtain ⟨v3, vs3, d3, ds3, p3, q3, rfl, rfl, rfl, h3, r3⟩ := trodAll_cons r2
 obtain ⟨v4, vs4, d4, ds4, p4, q4, rfl, rfl, rfl, h4, r4⟩ := trodAll_cons r3
 obtain ⟨rfl, rfl, rfl⟩ := trodAll_nil r4
 obtain rfl : args = #[v0, v1, v2, v3, v4] := by cases args; simp_all
 obtain ⟨rfl, rfl⟩ := trodVars_none hV
 have k0 := h0
 have lt0 : ∀ x ∈ p0, x.block < W.heap.size := by obtain ⟨m, hm⟩ := k0; exact DataW.trod_lt m _ _ _ hm
 have k1 := h1
 have lt1 : ∀ x ∈ p1, x.block < W.heap.size := by obtain ⟨m, hm⟩ := k1; exact DataW.trod_lt m _ _ _ hm
 have k2 := h2
 have lt2 : ∀ x ∈ p2, x.block < W.heap.size := by obtain ⟨m, hm⟩ := k2; exact DataW.trod_lt m _ _ _ hm
 have k3 := h3
 have lt3 : ∀ x ∈ p3, x.block < W.heap.size := by obtain ⟨m, hm⟩ := k3; exact DataW.trod_lt m _ _ _ hm
 have k4 := h4
 have lt4 : ∀ x ∈ p4, x.block < W.heap.size := by obtain ⟨m, hm⟩ := k4; exact DataW.trod_lt m _ _ _ hm
 obtain ⟨fuel0, hf0⟩ := h0
 obtain ⟨x0, rfl⟩ := open_cfg (hval 0 23 v0 rfl rfl) hf0
 obtain ⟨fuel1, hf1⟩ := h1
 obtain ⟨x1, rfl, ok1, at1⟩ := open_state (hval 1 36 v1 rfl rfl) hf1
 obtain ⟨al2, len2, cl2, rfl⟩ := okWide_slice Tryz.underlying34 (hval 2 34 v2 rfl rfl)
 obtain ⟨fuel2, hf2⟩ := h2
 obtain ⟨⟨a2, cap2, zs2⟩, hcs2, at2⟩ := ints_of hf2
 simp [Value.cells, Sl.val] at hcs2
 obtain ⟨rfl, rfl, rfl⟩ := hcs2
 obtain ⟨n3, rfl, rfl, rfl, hn3⟩ := open_int Tryz.underlying3 (hval 3 3 v3 rfl rfl) h3
 obtain ⟨n4, rfl, rfl, rfl, hn4⟩ := open_int Tryz.underlying5 (hval 4 5 v4 rfl rfl) h4
 have hG := glob_of hL
 clear hA0 hval0
 refine (marksTaken_walk x0 x1 _ _ zs2 n3 n4 W hG ok1 at1 at2 (by have h := hn4; simp only [Lit.wf, Bool.and_eq_true, decide_eq_true_eq] at h; have h0 : 0 ≤ n4 := h.1; exact h0) (by have h := hn4; simp only [Lit.wf, Bool.and_eq_true, decide_eq_true_eq] at h; have h0 : n4 ≤ 255 := h.2; omega)).mono fun e W' ⟨he, bel⟩ => ?_
 subst he
 exact ⟨_, rfl, _, _, _, [], _, [], hW', trodAll_mk1 (shut_bool Tryz.underlying4 _), (trodAll_cons_mk (Below.trod laidOut (by kernel_rfl) (of_decide_eq_true (by kernel_rfl)) k0 bel lt0) (trodAll_cons_mk (Below.trod laidOut (by kernel_rfl) (of_decide_eq_true (by kernel_rfl)) k1 bel lt1) (trodAll_cons_mk (Below.trod laidOut (by kernel_rfl) (of_decide_eq_true (by kernel_rfl)) k2 bel lt2) (trodAll_cons_mk (Below.trod laidOut (by kernel_rfl) (of_decide_eq_true (by kernel_rfl)) k3 bel lt3) (trodAll_cons_mk (Below.trod laidOut (by kernel_rfl) (of_decide_eq_true (by kernel_rfl)) k4 bel lt4) trodAll_mk0))))), rfl, bel.frame _, fun h => by cases h⟩
theorem over : Rows.MarksTakenSaid :=
 OpenClaim.holds_of_wide 4 Tryz.f4 rfl rfl rfl rfl rfl rfl rfl ⟨rfl, rfl, rfl, rfl, rfl⟩ rfl rfl rfl rfl rfl (by kernel_rfl) Tryz.func4 (by kernel_rfl)
  (of_decide_eq_true (by kernel_rfl)) (by unfold Func.isWrapper; first | (rw [if_pos (by decide +kernel)]; kernel_rfl) | (rw [if_neg (by decide +kernel)]; exact ⟨rfl, rfl⟩))
  (fun os started H enc _ => lifted os started H enc)
end Go.Proofs.YtnfijfnnpbenfaaGreatDoor.marksTaken
namespace Go.Proofs.YtnfijfnnpbenfaaGreatDoor
theorem marksTaken_card : Rows.MarksTakenCardSaid :=
 Claim7.holds_tied_plain_at .later [] [.data, .data] true (true, "bc6c1c11db28975c3c744163b9822c57feb0aae8a6c61f6f004e6c45b9e60295") false
  marksTaken.over (fun _ h => by cases h) (by kernel_rfl) (fun _ h => by cases h) marksTaken_row_tie rfl ⟨rfl, rfl⟩ (by kernel_rfl) rfl
  (fun f fn hf hfn => by
   obtain rfl : f = 4 := Option.some.inj ((show Tryz.prog.funcNamed "raddle/raddlelaw23.MarksTaken" = some 4 by kernel_rfl).symm.trans hf) |>.symm
   obtain rfl : fn = Tryz.f4 := (Option.some.inj (Tryz.func4.symm.trans hfn)).symm
   exact ⟨by kernel_rfl, fun j t ht => by
    rw [Tryz.params4] at ht
    rcases j with _ | _ | _ | _ | _ | j
    ·obtain rfl : t = 23 := by simpa using ht.symm
     exact (show Tryz.prog.wantsStandIn 23 = false by kernel_rfl)
    ·obtain rfl : t = 36 := by simpa using ht.symm
     exact (show Tryz.prog.wantsStandIn 36 = false by kernel_rfl)
    ·obtain rfl : t = 34 := by simpa using ht.symm
     exact (show Tryz.prog.wantsStandIn 34 = false by kernel_rfl)
    ·obtain rfl : t = 3 := by simpa using ht.symm
     exact (show Tryz.prog.wantsStandIn 3 = false by kernel_rfl)
    ·obtain rfl : t = 5 := by simpa using ht.symm
     exact (show Tryz.prog.wantsStandIn 5 = false by kernel_rfl)
    ·simp at ht⟩)
  (by kernel_rfl)
#print axioms marksTaken_card
end Go.Proofs.YtnfijfnnpbenfaaGreatDoor
