/- MessageEncodes: what Encode tells, and Same -/
import Derived.Test.YtgjalkbianpibaaGreatJE13
import Derived.Deep.Slices
import Derived.Test.YtgjalkbianpibaaGreatRows
import Derived.ProofKit
import Derived.OpenShut
import Derived.ShutString
import Derived.ChangeOld
import Derived.Below
import Derived.Lib.LaidTab
import Derived.WalkKit
namespace Go.Proofs.YtgjalkbianpibaaGreat
open Go.ChangeShapes Go.WideShapes Go.ChangeAt Go.RowKit
open Sha Tal
set_option linter.unusedVariables false
set_option linter.constructorNameAsVariable false
theorem own : ownKnob Tryz.prog.godebug = none := by kernel_rfl
theorem laidOut : laidOutB Tryz.prog = true := by kernel_rfl
theorem wf64 {z : Int} (h : (Lit.int .i64 z).wf = true) : -9223372036854775808 ≤ z ∧ z ≤ 9223372036854775807 := by
  simp only [Lit.wf, Bool.and_eq_true, decide_eq_true_eq] at h
  exact h
theorem some_at {α : Type} {xs : List α} {n i : Nat} (hl : xs.length = n) (hi : i < n) : ∃ y, xs[i]? = some y := ⟨xs[i]'(by omega), List.getElem?_eq_getElem (by omega)⟩
theorem drop_one {α : Type} {l : List α} {o : Nat} {v : α} (h : (l.drop o).take 1 = [v]) : l[o]? = some v := by
  have := congrArg (·[0]?) h
  simpa [List.getElem?_take, List.getElem?_drop] using this
section
variable {H : Type} {enc : TypeId × Value → H} {W : World} {b : Nat} {sp : Nat → Bool} {held : Bool} {m : Nat}
theorem int_at {l : List Value} {o : Nat} {y : DataW H × List MemPlace} (h : DataW.trod enc Tryz.prog W b sp held m 3 ((l.drop o).take 1) = some y) : ∃ z, l[o]? = some (.int .i64 z) ∧ -9223372036854775808 ≤ z ∧ z ≤ 9223372036854775807 := by
  obtain ⟨z, hc, rfl, hw⟩ := DataW.trod_int Tryz.underlying3 h
  exact ⟨z, drop_one hc, wf64 hw⟩
theorem bytes_at {t n : Nat} {l : List Value} {y : DataW H × List MemPlace} (hu : Tryz.prog.underlying t = some (.array n 5)) (hct : Tryz.prog.cellsOf t = n) (h : DataW.trod enc Tryz.prog W b sp held m t l = some y) : ∃ zs : List Int, l = v8 zs ∧ zs.length = n ∧ ∀ z ∈ zs, 0 ≤ z ∧ z < 256 := by
  have hce : Tryz.prog.cellsOf 5 = 1 := by kernel_rfl
  cases m with
  | zero => simp [DataW.trod] at h
  | succ m =>
    simp only [DataW.trod, hu, hce, hct, Nat.mul_one] at h
    split at h
    · rename_i hsz
      obtain ⟨xs, hm, hx⟩ := Option.map_eq_some_iff.1 h
      have key : ∀ i, i < n → ∃ z, l[i]? = some (.int .u8 z) ∧ 0 ≤ z ∧ z < 256 := fun i hi => by
        obtain ⟨y, hy, hf⟩ := Lib.mapM_at hm i i (by simp [hi])
        obtain ⟨z, hc, rfl, hw⟩ := DataW.trod_int Tryz.underlying5 hf
        refine ⟨z, drop_one hc, ?_⟩
        simp [Lit.wf, IntKind.min, IntKind.max, IntKind.signed, IntKind.bits] at hw
        omega
      have hln : l.length = n := by simpa using hsz
      refine ⟨l.map (fun v => match v with | .int _ z => z | _ => 0), ?_, by simpa using hln, ?_⟩
      · apply List.ext_getElem?
        intro i
        by_cases hi : i < n
        · obtain ⟨z, hz, _⟩ := key i hi
          simp only [v8, List.map_map, List.getElem?_map, hz, Option.map_some]
          rfl
        · rw [List.getElem?_eq_none (by omega), List.getElem?_eq_none (by simp [v8]; omega)]
      · intro z hz
        obtain ⟨u, hu, rfl⟩ := List.mem_map.1 hz
        obtain ⟨i, hi, rfl⟩ := List.mem_iff_getElem.1 hu
        obtain ⟨z, hz, hb⟩ := key i (by omega)
        rw [List.getElem?_eq_getElem hi] at hz
        rw [Option.some.inj hz]
        exact hb
    · cases h
end
set_option maxRecDepth 100000 in
theorem vote_of {H : Type} {enc : TypeId × Value → H} {W : World} {b : Nat} {sp : Nat → Bool} {held : Bool} {fuel : Nat} {l : List Value} {x : DataW H × List MemPlace}
    (h : DataW.trod enc Tryz.prog W b sp held fuel 28 l = some x) : ∃ r : Vt, l = r.cells ∧ r.ok := by
  have hct : Tryz.prog.cellsOf 28 = 36 := by kernel_rfl
  have hci : Tryz.prog.cellsOf 3 = 1 := by kernel_rfl
  have hcg : Tryz.prog.cellsOf 26 = 32 := by kernel_rfl
  obtain ⟨xs, m, _, rfl, hcl, hl, hf⟩ := DataW.trod_struct Tryz.underlying28 h
  rw [hct] at hcl
  have hl : xs.length = 5 := hl
  have h0 : DataW.trod enc Tryz.prog W b sp held m 3 ((l.drop 0).take (Tryz.prog.cellsOf 3)) = xs[0]? := hf 0 _ rfl
  have h1 : DataW.trod enc Tryz.prog W b sp held m 3 ((l.drop 1).take (Tryz.prog.cellsOf 3)) = xs[1]? := hf 1 _ rfl
  have h2 : DataW.trod enc Tryz.prog W b sp held m 3 ((l.drop 2).take (Tryz.prog.cellsOf 3)) = xs[2]? := hf 2 _ rfl
  have h3 : DataW.trod enc Tryz.prog W b sp held m 3 ((l.drop 3).take (Tryz.prog.cellsOf 3)) = xs[3]? := hf 3 _ rfl
  have h4 : DataW.trod enc Tryz.prog W b sp held m 26 ((l.drop 4).take (Tryz.prog.cellsOf 26)) = xs[4]? := hf 4 _ rfl
  rw [hci] at h0 h1 h2 h3
  rw [hcg] at h4
  obtain ⟨y0, e0⟩ := some_at hl (show 0 < 5 by omega)
  obtain ⟨y1, e1⟩ := some_at hl (show 1 < 5 by omega)
  obtain ⟨y2, e2⟩ := some_at hl (show 2 < 5 by omega)
  obtain ⟨y3, e3⟩ := some_at hl (show 3 < 5 by omega)
  obtain ⟨y4, e4⟩ := some_at hl (show 4 < 5 by omega)
  obtain ⟨k, g0, _, b0⟩ := int_at (h0.trans e0)
  obtain ⟨ep, g1, _, b1⟩ := int_at (h1.trans e1)
  obtain ⟨vi, g2, _, b2⟩ := int_at (h2.trans e2)
  obtain ⟨sl, g3, _, b3⟩ := int_at (h3.trans e3)
  obtain ⟨d, g4, hd, hb⟩ := bytes_at Tryz.underlying26 hcg (h4.trans e4)
  refine ⟨⟨k, ep, vi, sl, d⟩, ?_, ⟨b0, b1, b2, b3, hd, hb⟩⟩
  show l = .int .i64 k :: .int .i64 ep :: .int .i64 vi :: .int .i64 sl :: v8 d
  match l, hcl with
  | a0 :: a1 :: a2 :: a3 :: l, hcl =>
    simp at g0 g1 g2 g3 hcl
    have : List.take 32 l = v8 d := g4
    rw [List.take_of_length_le (by omega)] at this
    subst g0 g1 g2 g3 this
    rfl
set_option maxRecDepth 100000 in
theorem open_vote {H : Type} {enc : TypeId × Value → H} {W : World} {base b : Nat} {sp : Nat → Bool} {held : Bool} {fuel : Nat} {v : Value} {x : DataW H × List MemPlace} (hv : Value.okWide Tryz.prog W .any base 28 v)
    (h : DataW.trod enc Tryz.prog W b sp held fuel 28 v.cells.toList = some x) : ∃ r : Vt, v = .agg r.cells.toArray ∧ r.ok := by
  unfold Value.okWide at hv
  rw [Tryz.underlying28] at hv
  obtain ⟨cs, rfl, hsz, _⟩ := hv
  obtain ⟨r, h1, h2⟩ := vote_of h
  refine ⟨r, ?_, h2⟩
  simp only [Value.cells] at h1
  rw [← h1]
theorem cells_some {w : World} {base n : Nat} {x : Addr} {cs : List Value} (h : w.cells? base x n = some cs) : cs.length = n ∧ ∀ j v, cs[j]? = some v → w.cell? (x.add j) = some v := by
  unfold World.cells? at h
  split at h
  · have hl := Lib.mapM_length h
    refine ⟨by simpa using hl, fun j v hv => ?_⟩
    have hj : j < n := by
      have := (List.getElem?_eq_some_iff.1 hv).1
      have : cs.length = n := by simpa using hl
      omega
    obtain ⟨y, hy, hf⟩ := Lib.mapM_at h j j (by simp [hj])
    rw [hv] at hy
    exact hf.trans hy.symm
  · cases h
theorem flat_getA {α : Type} {f : α → List Value} {k : Nat} (hk : 0 < k) (R : Nat → α) : ∀ (n : Nat), (∀ i, i < n → (f (R i)).length = k) → ∀ j, j < n * k → (((List.range n).map R).flatMap f)[j]? = (f (R (j / k)))[j % k]? := by
  intro n
  induction n with
  | zero => intro _ j hj; omega
  | succ n ih =>
    intro hR j hj
    have hl : (((List.range n).map R).flatMap f).length = n * k := by
      have := flat_len_k (f := f) (k := k) (ys := (List.range n).map R) (fun y hy => by
        obtain ⟨i, hi, rfl⟩ := List.mem_map.1 hy
        exact hR i (by have := List.mem_range.1 hi; omega))
      simpa using this
    rw [List.range_succ, List.map_append, List.flatMap_append]
    by_cases h : j < n * k
    · rw [List.getElem?_append_left (by omega), ih (fun i hi => hR i (by omega)) j h]
    · rw [List.getElem?_append_right (by omega), hl]
      have e0 : j = (j - n * k) + k * n := by rw [Nat.mul_comm k n]; omega
      have hlt : j - n * k < k := by rw [Nat.add_mul, Nat.one_mul] at hj; omega
      have e1 : j / k = n := by rw [e0, Nat.add_mul_div_left _ _ hk, Nat.div_eq_of_lt hlt]; omega
      have e2 : j % k = j - n * k := by
        have := congrArg (· % k) e0
        simp only [Nat.add_mul_mod_self_left] at this
        rw [this, Nat.mod_eq_of_lt hlt]
      rw [e1, e2]
      simp
set_option maxRecDepth 100000 in
theorem rows_of {α : Type} [Inhabited α] (f : α → List Value) (ok : α → Prop) (k : Nat) (hk : 0 < k) (tl te : TypeId) (hu : Tryz.prog.underlying tl = some (.slice te)) (hct : Tryz.prog.cellsOf te = k) (hf : ∀ y, ok y → (f y).length = k)
    {H : Type} {enc : TypeId × Value → H} {W : World} {b : Nat} {sp : Nat → Bool} {held : Bool} {fuel : Nat} {l : List Value} {x : DataW H × List MemPlace}
    (hel : ∀ (m : Nat) (l : List Value) (z : DataW H × List MemPlace), DataW.trod enc Tryz.prog W b sp held m te l = some z → ∃ y, l = f y ∧ ok y)
    (h : DataW.trod enc Tryz.prog W b sp held fuel tl l = some x) : ∃ (a : Option Addr) (cap : Nat) (ys : List α), l = [.slice a ys.length cap] ∧ ys.length ≤ cap ∧ cap ≤ maxLen ∧ (∀ y ∈ ys, ok y) ∧ RowOf f W a ys := by
  rcases Deep.open_slice hu h with ⟨rfl, _⟩ | ⟨a, len, cap, m, n, D, Pl, rfl, hb, hlc, hcm, hm, _, hel2⟩
  · exact ⟨none, 0, [], rfl, by simp, by simp, by simp, .inl rfl⟩
  · rw [hct] at hel2
    have hml : len ≤ m := by rw [hm]; split <;> omega
    have key : ∀ i, i < len → ∃ y : α, W.cells? b (a.add (i * k)) k = some (f y) ∧ ok y := fun i hi => by
      obtain ⟨cs, h1, h2⟩ := hel2 i (by omega)
      obtain ⟨y, rfl, hy⟩ := hel _ _ _ h2
      exact ⟨y, h1, hy⟩
    obtain ⟨R, hR⟩ := Deep.choose_lt key
    refine ⟨some a, cap, (List.range len).map R, by simp, by simpa using hlc, hcm, ?_, ?_⟩
    · intro y hy
      obtain ⟨i, hi, rfl⟩ := List.mem_map.1 hy
      exact (hR i (List.mem_range.1 hi)).2
    · by_cases h0 : len = 0
      · left; simp [h0]
      · right
        obtain ⟨bb, off, spot⟩ := a
        have hlen0 := hf _ (hR 0 (by omega)).2
        have hc := (cells_some (hR 0 (by omega)).1).2 0 ((f (R 0))[0]'(by omega)) (List.getElem?_eq_getElem _)
        have hspot : spot = none := by simpa [Addr.add] using World.cell?_spot hc
        subst hspot
        refine ⟨bb, off, rfl, ?_, fun j v hv => ?_⟩
        · have := World.block_lt_of_cell? W _ hc; simpa [Addr.add] using this
        · have hj : j < len * k := by
            have := (List.getElem?_eq_some_iff.1 hv).1
            rw [flat_len_k (k := k)] at this
            · simpa using this
            · intro y hy
              obtain ⟨i, hi, rfl⟩ := List.mem_map.1 hy
              exact hf _ (hR i (List.mem_range.1 hi)).2
          rw [flat_getA hk R len (fun i hi => hf _ (hR i hi).2) j hj] at hv
          have hdm : j / k < len := (Nat.div_lt_iff_lt_mul hk).2 hj
          have := (cells_some (hR (j / k) hdm).1).2 _ _ hv
          rw [Addr.add_mid, Addr.add_mid] at this
          rw [← this]
          congr 2
          have := Nat.div_add_mod j k
          rw [Nat.mul_comm] at this
          omega
theorem take_cut {α : Type} (l : List α) (o n k : Nat) : (l.drop o).take (n + k) = (l.drop o).take n ++ (l.drop (o + n)).take k := by
  rw [List.take_add, List.drop_drop]
theorem take_whole {α : Type} {l : List α} {n : Nat} (h : l.length = n) : l = (l.drop 0).take n := by
  rw [List.drop_zero, List.take_of_length_le (by omega)]
set_option maxRecDepth 100000 in
theorem sign_of {H : Type} {enc : TypeId × Value → H} {W : World} {b : Nat} {sp : Nat → Bool} {held : Bool} {fuel : Nat} {l : List Value} {x : DataW H × List MemPlace}
    (h : DataW.trod enc Tryz.prog W b sp held fuel 78 l = some x) : ∃ r : Sg, l = SgE.f r ∧ SgE.ok r := by
  have hct : Tryz.prog.cellsOf 78 = 17 := by kernel_rfl
  obtain ⟨xs, m, _, rfl, hcl, hl, hf⟩ := DataW.trod_struct Tryz.underlying78 h
  rw [hct] at hcl
  have hl : xs.length = 2 := hl
  have h0 : DataW.trod enc Tryz.prog W b sp held m 3 ((l.drop 0).take (Tryz.prog.cellsOf 3)) = xs[0]? := hf 0 _ rfl
  rw [show Tryz.prog.cellsOf 3 = 1 by kernel_rfl] at h0
  obtain ⟨y0, e0⟩ := some_at hl (show 0 < 2 by omega)
  obtain ⟨z0, g0, _, wz0⟩ := DataW.trod_int Tryz.underlying3 (h0.trans e0)
  have bz0 := wf64 wz0
  have h1 : DataW.trod enc Tryz.prog W b sp held m 55 ((l.drop 1).take (Tryz.prog.cellsOf 55)) = xs[1]? := hf 1 _ rfl
  rw [show Tryz.prog.cellsOf 55 = 16 by kernel_rfl] at h1
  obtain ⟨y1, e1⟩ := some_at hl (show 1 < 2 by omega)
  obtain ⟨z1, g1, lz1, bz1⟩ := bytes_at Tryz.underlying55 (by kernel_rfl) (h1.trans e1)
  refine ⟨⟨z0, z1⟩, ?_, ⟨lz1, bz1, bz0.1, bz0.2⟩⟩
  have e := take_whole (n := 1 + (16)) hcl
  rw [take_cut, g0, g1] at e
  first | exact e | (rw [e]; rfl) | (rw [e]; simp)
set_option maxRecDepth 100000 in
theorem env_of {H : Type} {enc : TypeId × Value → H} {W : World} {b : Nat} {sp : Nat → Bool} {held : Bool} {fuel : Nat} {l : List Value} {x : DataW H × List MemPlace}
    (h : DataW.trod enc Tryz.prog W b sp held fuel 57 l = some x) : ∃ r : Ev, l = EvE.f r ∧ EvE.ok r := by
  have hct : Tryz.prog.cellsOf 57 = 18 := by kernel_rfl
  obtain ⟨xs, m, _, rfl, hcl, hl, hf⟩ := DataW.trod_struct Tryz.underlying57 h
  rw [hct] at hcl
  have hl : xs.length = 3 := hl
  have h0 : DataW.trod enc Tryz.prog W b sp held m 3 ((l.drop 0).take (Tryz.prog.cellsOf 3)) = xs[0]? := hf 0 _ rfl
  rw [show Tryz.prog.cellsOf 3 = 1 by kernel_rfl] at h0
  obtain ⟨y0, e0⟩ := some_at hl (show 0 < 3 by omega)
  obtain ⟨z0, g0, _, wz0⟩ := DataW.trod_int Tryz.underlying3 (h0.trans e0)
  have bz0 := wf64 wz0
  have h1 : DataW.trod enc Tryz.prog W b sp held m 9 ((l.drop 1).take (Tryz.prog.cellsOf 9)) = xs[1]? := hf 1 _ rfl
  rw [show Tryz.prog.cellsOf 9 = 1 by kernel_rfl] at h1
  obtain ⟨y1, e1⟩ := some_at hl (show 1 < 3 by omega)
  obtain ⟨z1, g1, _, bz1⟩ := DataW.trod_string Tryz.underlying9 (h1.trans e1)
  have h2 : DataW.trod enc Tryz.prog W b sp held m 55 ((l.drop 2).take (Tryz.prog.cellsOf 55)) = xs[2]? := hf 2 _ rfl
  rw [show Tryz.prog.cellsOf 55 = 16 by kernel_rfl] at h2
  obtain ⟨y2, e2⟩ := some_at hl (show 2 < 3 by omega)
  obtain ⟨z2, g2, lz2, bz2⟩ := bytes_at Tryz.underlying55 (by kernel_rfl) (h2.trans e2)
  refine ⟨⟨z0, z1, z2⟩, ?_, ⟨lz2, bz2, bz1, bz0.1, bz0.2⟩⟩
  have e := take_whole (n := 1 + (1 + (16))) hcl
  rw [take_cut, take_cut, g0, g1, g2] at e
  first | exact e | (rw [e]; rfl) | (rw [e]; simp)
set_option maxRecDepth 100000 in
theorem req_of {H : Type} {enc : TypeId × Value → H} {W : World} {b : Nat} {sp : Nat → Bool} {held : Bool} {fuel : Nat} {l : List Value} {x : DataW H × List MemPlace}
    (h : DataW.trod enc Tryz.prog W b sp held fuel 93 l = some x) : ∃ r : Rq, l = RqE.f r ∧ RqE.ok r := by
  have hct : Tryz.prog.cellsOf 93 = 19 := by kernel_rfl
  obtain ⟨xs, m, _, rfl, hcl, hl, hf⟩ := DataW.trod_struct Tryz.underlying93 h
  rw [hct] at hcl
  have hl : xs.length = 4 := hl
  have h0 : DataW.trod enc Tryz.prog W b sp held m 3 ((l.drop 0).take (Tryz.prog.cellsOf 3)) = xs[0]? := hf 0 _ rfl
  rw [show Tryz.prog.cellsOf 3 = 1 by kernel_rfl] at h0
  obtain ⟨y0, e0⟩ := some_at hl (show 0 < 4 by omega)
  obtain ⟨z0, g0, _, wz0⟩ := DataW.trod_int Tryz.underlying3 (h0.trans e0)
  have bz0 := wf64 wz0
  have h1 : DataW.trod enc Tryz.prog W b sp held m 3 ((l.drop 1).take (Tryz.prog.cellsOf 3)) = xs[1]? := hf 1 _ rfl
  rw [show Tryz.prog.cellsOf 3 = 1 by kernel_rfl] at h1
  obtain ⟨y1, e1⟩ := some_at hl (show 1 < 4 by omega)
  obtain ⟨z1, g1, _, wz1⟩ := DataW.trod_int Tryz.underlying3 (h1.trans e1)
  have bz1 := wf64 wz1
  have h2 : DataW.trod enc Tryz.prog W b sp held m 9 ((l.drop 2).take (Tryz.prog.cellsOf 9)) = xs[2]? := hf 2 _ rfl
  rw [show Tryz.prog.cellsOf 9 = 1 by kernel_rfl] at h2
  obtain ⟨y2, e2⟩ := some_at hl (show 2 < 4 by omega)
  obtain ⟨z2, g2, _, bz2⟩ := DataW.trod_string Tryz.underlying9 (h2.trans e2)
  have h3 : DataW.trod enc Tryz.prog W b sp held m 55 ((l.drop 3).take (Tryz.prog.cellsOf 55)) = xs[3]? := hf 3 _ rfl
  rw [show Tryz.prog.cellsOf 55 = 16 by kernel_rfl] at h3
  obtain ⟨y3, e3⟩ := some_at hl (show 3 < 4 by omega)
  obtain ⟨z3, g3, lz3, bz3⟩ := bytes_at Tryz.underlying55 (by kernel_rfl) (h3.trans e3)
  refine ⟨⟨z0, z1, z2, z3⟩, ?_, ⟨lz3, bz3, bz2, bz0.1, bz0.2, bz1.1, bz1.2⟩⟩
  have e := take_whole (n := 1 + (1 + (1 + (16)))) hcl
  rw [take_cut, take_cut, take_cut, g0, g1, g2, g3] at e
  first | exact e | (rw [e]; rfl) | (rw [e]; simp)
set_option maxRecDepth 100000 in
theorem signs_of {H : Type} {enc : TypeId × Value → H} {W : World} {b : Nat} {sp : Nat → Bool} {held : Bool} {fuel : Nat} {l : List Value} {x : DataW H × List MemPlace}
    (h : DataW.trod enc Tryz.prog W b sp held fuel 33 l = some x) : ∃ y : Sl Sg, l = [y.val] ∧ y.At SgE W := by
  obtain ⟨a, cap, ys, h1, h2, h3, h4, h5⟩ := rows_of SgE.f SgE.ok 17 (by decide) 33 78 Tryz.underlying33 (by kernel_rfl) SgE.len (fun m l z hz => sign_of hz) h
  exact ⟨⟨a, cap, ys⟩, h1, Nat.le_trans h2 h3, h4, h5⟩
set_option maxRecDepth 100000 in
theorem envs_of {H : Type} {enc : TypeId × Value → H} {W : World} {b : Nat} {sp : Nat → Bool} {held : Bool} {fuel : Nat} {l : List Value} {x : DataW H × List MemPlace}
    (h : DataW.trod enc Tryz.prog W b sp held fuel 32 l = some x) : ∃ y : Sl Ev, l = [y.val] ∧ y.At EvE W := by
  obtain ⟨a, cap, ys, h1, h2, h3, h4, h5⟩ := rows_of EvE.f EvE.ok 18 (by decide) 32 57 Tryz.underlying32 (by kernel_rfl) EvE.len (fun m l z hz => env_of hz) h
  exact ⟨⟨a, cap, ys⟩, h1, Nat.le_trans h2 h3, h4, h5⟩
set_option maxRecDepth 100000 in
theorem reqs_of {H : Type} {enc : TypeId × Value → H} {W : World} {b : Nat} {sp : Nat → Bool} {held : Bool} {fuel : Nat} {l : List Value} {x : DataW H × List MemPlace}
    (h : DataW.trod enc Tryz.prog W b sp held fuel 22 l = some x) : ∃ y : Sl Rq, l = [y.val] ∧ y.At RqE W := by
  obtain ⟨a, cap, ys, h1, h2, h3, h4, h5⟩ := rows_of RqE.f RqE.ok 19 (by decide) 22 93 Tryz.underlying22 (by kernel_rfl) RqE.len (fun m l z hz => req_of hz) h
  exact ⟨⟨a, cap, ys⟩, h1, Nat.le_trans h2 h3, h4, h5⟩
set_option maxRecDepth 100000 in
theorem batch_of {H : Type} {enc : TypeId × Value → H} {W : World} {b : Nat} {sp : Nat → Bool} {held : Bool} {fuel : Nat} {l : List Value} {x : DataW H × List MemPlace}
    (h : DataW.trod enc Tryz.prog W b sp held fuel 24 l = some x) : ∃ (q : Bool) (r : Sl Rq), l = [.bool q, r.val] ∧ r.At RqE W := by
  have hct : Tryz.prog.cellsOf 24 = 2 := by kernel_rfl
  obtain ⟨xs, m, _, rfl, hcl, hl, hf⟩ := DataW.trod_struct Tryz.underlying24 h
  rw [hct] at hcl
  have hl : xs.length = 2 := hl
  have h0 : DataW.trod enc Tryz.prog W b sp held m 4 ((l.drop 0).take (Tryz.prog.cellsOf 4)) = xs[0]? := hf 0 _ rfl
  rw [show Tryz.prog.cellsOf 4 = 1 by kernel_rfl] at h0
  obtain ⟨y0, e0⟩ := some_at hl (show 0 < 2 by omega)
  obtain ⟨z0, g0, _⟩ := DataW.trod_bool Tryz.underlying4 (h0.trans e0)
  have h1 : DataW.trod enc Tryz.prog W b sp held m 22 ((l.drop 1).take (Tryz.prog.cellsOf 22)) = xs[1]? := hf 1 _ rfl
  rw [show Tryz.prog.cellsOf 22 = 1 by kernel_rfl] at h1
  obtain ⟨y1, e1⟩ := some_at hl (show 1 < 2 by omega)
  obtain ⟨z1, g1, bz1⟩ := reqs_of (h1.trans e1)
  refine ⟨z0, z1, ?_, bz1⟩
  have e := take_whole (n := 1 + (1)) hcl
  rw [take_cut, g0, g1] at e
  first | exact e | (rw [e]; rfl) | (rw [e]; simp)
set_option maxRecDepth 100000 in
theorem cert_of {H : Type} {enc : TypeId × Value → H} {W : World} {b : Nat} {sp : Nat → Bool} {held : Bool} {fuel : Nat} {l : List Value} {x : DataW H × List MemPlace}
    (h : DataW.trod enc Tryz.prog W b sp held fuel 35 l = some x) : ∃ (v : Vt) (r : Sl Sg), l = certL v r ∧ v.ok ∧ r.At SgE W := by
  have hct : Tryz.prog.cellsOf 35 = 37 := by kernel_rfl
  obtain ⟨xs, m, _, rfl, hcl, hl, hf⟩ := DataW.trod_struct Tryz.underlying35 h
  rw [hct] at hcl
  have hl : xs.length = 2 := hl
  have h0 : DataW.trod enc Tryz.prog W b sp held m 28 ((l.drop 0).take (Tryz.prog.cellsOf 28)) = xs[0]? := hf 0 _ rfl
  rw [show Tryz.prog.cellsOf 28 = 36 by kernel_rfl] at h0
  obtain ⟨y0, e0⟩ := some_at hl (show 0 < 2 by omega)
  obtain ⟨z0, g0, bz0⟩ := vote_of (h0.trans e0)
  have h1 : DataW.trod enc Tryz.prog W b sp held m 33 ((l.drop 36).take (Tryz.prog.cellsOf 33)) = xs[1]? := hf 1 _ rfl
  rw [show Tryz.prog.cellsOf 33 = 1 by kernel_rfl] at h1
  obtain ⟨y1, e1⟩ := some_at hl (show 1 < 2 by omega)
  obtain ⟨z1, g1, bz1⟩ := signs_of (h1.trans e1)
  refine ⟨z0, z1, ?_, bz0, bz1⟩
  have e := take_whole (n := 36 + (1)) hcl
  rw [take_cut, g0, g1] at e
  first | exact e | (rw [e]; rfl) | (rw [e]; simp)
set_option maxRecDepth 100000 in
theorem held_of {H : Type} {enc : TypeId × Value → H} {W : World} {b : Nat} {sp : Nat → Bool} {held : Bool} {fuel : Nat} {l : List Value} {x : DataW H × List MemPlace}
    (h : DataW.trod enc Tryz.prog W b sp held fuel 53 l = some x) : ∃ r : Hd, l = HdE.f r ∧ (HdE.ok r ∧ r.At W) := by
  have hct : Tryz.prog.cellsOf 53 = 39 := by kernel_rfl
  obtain ⟨xs, m, _, rfl, hcl, hl, hf⟩ := DataW.trod_struct Tryz.underlying53 h
  rw [hct] at hcl
  have hl : xs.length = 2 := hl
  have h0 : DataW.trod enc Tryz.prog W b sp held m 24 ((l.drop 0).take (Tryz.prog.cellsOf 24)) = xs[0]? := hf 0 _ rfl
  rw [show Tryz.prog.cellsOf 24 = 2 by kernel_rfl] at h0
  obtain ⟨y0, e0⟩ := some_at hl (show 0 < 2 by omega)
  obtain ⟨q0, z0, g0, bz0⟩ := batch_of (h0.trans e0)
  have h1 : DataW.trod enc Tryz.prog W b sp held m 35 ((l.drop 2).take (Tryz.prog.cellsOf 35)) = xs[1]? := hf 1 _ rfl
  rw [show Tryz.prog.cellsOf 35 = 37 by kernel_rfl] at h1
  obtain ⟨y1, e1⟩ := some_at hl (show 1 < 2 by omega)
  obtain ⟨v1, z1, g1, bv1, bz1⟩ := cert_of (h1.trans e1)
  refine ⟨⟨q0, z0, v1, z1⟩, ?_, bv1, bz0, bz1⟩
  have e := take_whole (n := 2 + (37)) hcl
  rw [take_cut, g0, g1] at e
  first | exact e | (rw [e]; rfl) | (rw [e]; simp)
set_option maxRecDepth 100000 in
theorem helds_of {H : Type} {enc : TypeId × Value → H} {W : World} {b : Nat} {sp : Nat → Bool} {held : Bool} {fuel : Nat} {l : List Value} {x : DataW H × List MemPlace}
    (h : DataW.trod enc Tryz.prog W b sp held fuel 29 l = some x) : ∃ y : Sl Hd, l = [y.val] ∧ HdsAt W y := by
  obtain ⟨a, cap, ys, h1, h2, h3, h4, h5⟩ := rows_of HdE.f (fun r => HdE.ok r ∧ r.At W) 39 (by decide) 29 53 Tryz.underlying29 (by kernel_rfl) (fun y hy => HdE.len y hy.1) (fun m l z hz => held_of hz) h
  exact ⟨⟨a, cap, ys⟩, h1, ⟨Nat.le_trans h2 h3, fun y hy => (h4 y hy).1, h5⟩, fun y hy => (h4 y hy).2⟩
set_option maxRecDepth 100000 in
theorem change_of {H : Type} {enc : TypeId × Value → H} {W : World} {b : Nat} {sp : Nat → Bool} {held : Bool} {fuel : Nat} {l : List Value} {x : DataW H × List MemPlace}
    (h : DataW.trod enc Tryz.prog W b sp held fuel 31 l = some x) : ∃ (a c d : Int) (r : Sl Hd), l = [.int .i64 a, .int .i64 c, .int .i64 d, r.val] ∧ HdsAt W r := by
  have hct : Tryz.prog.cellsOf 31 = 4 := by kernel_rfl
  obtain ⟨xs, m, _, rfl, hcl, hl, hf⟩ := DataW.trod_struct Tryz.underlying31 h
  rw [hct] at hcl
  have hl : xs.length = 4 := hl
  have h0 : DataW.trod enc Tryz.prog W b sp held m 3 ((l.drop 0).take (Tryz.prog.cellsOf 3)) = xs[0]? := hf 0 _ rfl
  rw [show Tryz.prog.cellsOf 3 = 1 by kernel_rfl] at h0
  obtain ⟨y0, e0⟩ := some_at hl (show 0 < 4 by omega)
  obtain ⟨z0, g0, _, wz0⟩ := DataW.trod_int Tryz.underlying3 (h0.trans e0)
  have bz0 := wf64 wz0
  have h1 : DataW.trod enc Tryz.prog W b sp held m 3 ((l.drop 1).take (Tryz.prog.cellsOf 3)) = xs[1]? := hf 1 _ rfl
  rw [show Tryz.prog.cellsOf 3 = 1 by kernel_rfl] at h1
  obtain ⟨y1, e1⟩ := some_at hl (show 1 < 4 by omega)
  obtain ⟨z1, g1, _, wz1⟩ := DataW.trod_int Tryz.underlying3 (h1.trans e1)
  have bz1 := wf64 wz1
  have h2 : DataW.trod enc Tryz.prog W b sp held m 3 ((l.drop 2).take (Tryz.prog.cellsOf 3)) = xs[2]? := hf 2 _ rfl
  rw [show Tryz.prog.cellsOf 3 = 1 by kernel_rfl] at h2
  obtain ⟨y2, e2⟩ := some_at hl (show 2 < 4 by omega)
  obtain ⟨z2, g2, _, wz2⟩ := DataW.trod_int Tryz.underlying3 (h2.trans e2)
  have bz2 := wf64 wz2
  have h3 : DataW.trod enc Tryz.prog W b sp held m 29 ((l.drop 3).take (Tryz.prog.cellsOf 29)) = xs[3]? := hf 3 _ rfl
  rw [show Tryz.prog.cellsOf 29 = 1 by kernel_rfl] at h3
  obtain ⟨y3, e3⟩ := some_at hl (show 3 < 4 by omega)
  obtain ⟨z3, g3, bz3⟩ := helds_of (h3.trans e3)
  refine ⟨z0, z1, z2, z3, ?_, bz3⟩
  have e := take_whole (n := 1 + (1 + (1 + (1)))) hcl
  rw [take_cut, take_cut, take_cut, g0, g1, g2, g3] at e
  first | exact e | (rw [e]; rfl) | (rw [e]; simp)
set_option maxRecDepth 100000 in
theorem msg_of {H : Type} {enc : TypeId × Value → H} {W : World} {b : Nat} {sp : Nat → Bool} {held : Bool} {fuel : Nat} {l : List Value} {x : DataW H × List MemPlace}
    (h : DataW.trod enc Tryz.prog W b sp held fuel 37 l = some x) : ∃ m : Mg, l = m.ms.cells ∧ m.ok ∧ m.At W := by
  have hct : Tryz.prog.cellsOf 37 = 119 := by kernel_rfl
  obtain ⟨xs, m, _, rfl, hcl, hl, hf⟩ := DataW.trod_struct Tryz.underlying37 h
  rw [hct] at hcl
  have hl : xs.length = 13 := hl
  have h0 : DataW.trod enc Tryz.prog W b sp held m 3 ((l.drop 0).take (Tryz.prog.cellsOf 3)) = xs[0]? := hf 0 _ rfl
  rw [show Tryz.prog.cellsOf 3 = 1 by kernel_rfl] at h0
  obtain ⟨y0, e0⟩ := some_at hl (show 0 < 13 by omega)
  obtain ⟨z0, g0, _, wz0⟩ := DataW.trod_int Tryz.underlying3 (h0.trans e0)
  have bz0 := wf64 wz0
  have h1 : DataW.trod enc Tryz.prog W b sp held m 3 ((l.drop 1).take (Tryz.prog.cellsOf 3)) = xs[1]? := hf 1 _ rfl
  rw [show Tryz.prog.cellsOf 3 = 1 by kernel_rfl] at h1
  obtain ⟨y1, e1⟩ := some_at hl (show 1 < 13 by omega)
  obtain ⟨z1, g1, _, wz1⟩ := DataW.trod_int Tryz.underlying3 (h1.trans e1)
  have bz1 := wf64 wz1
  have h2 : DataW.trod enc Tryz.prog W b sp held m 3 ((l.drop 2).take (Tryz.prog.cellsOf 3)) = xs[2]? := hf 2 _ rfl
  rw [show Tryz.prog.cellsOf 3 = 1 by kernel_rfl] at h2
  obtain ⟨y2, e2⟩ := some_at hl (show 2 < 13 by omega)
  obtain ⟨z2, g2, _, wz2⟩ := DataW.trod_int Tryz.underlying3 (h2.trans e2)
  have bz2 := wf64 wz2
  have h3 : DataW.trod enc Tryz.prog W b sp held m 3 ((l.drop 3).take (Tryz.prog.cellsOf 3)) = xs[3]? := hf 3 _ rfl
  rw [show Tryz.prog.cellsOf 3 = 1 by kernel_rfl] at h3
  obtain ⟨y3, e3⟩ := some_at hl (show 3 < 13 by omega)
  obtain ⟨z3, g3, _, wz3⟩ := DataW.trod_int Tryz.underlying3 (h3.trans e3)
  have bz3 := wf64 wz3
  have h4 : DataW.trod enc Tryz.prog W b sp held m 3 ((l.drop 4).take (Tryz.prog.cellsOf 3)) = xs[4]? := hf 4 _ rfl
  rw [show Tryz.prog.cellsOf 3 = 1 by kernel_rfl] at h4
  obtain ⟨y4, e4⟩ := some_at hl (show 4 < 13 by omega)
  obtain ⟨z4, g4, _, wz4⟩ := DataW.trod_int Tryz.underlying3 (h4.trans e4)
  have bz4 := wf64 wz4
  have h5 : DataW.trod enc Tryz.prog W b sp held m 24 ((l.drop 5).take (Tryz.prog.cellsOf 24)) = xs[5]? := hf 5 _ rfl
  rw [show Tryz.prog.cellsOf 24 = 2 by kernel_rfl] at h5
  obtain ⟨y5, e5⟩ := some_at hl (show 5 < 13 by omega)
  obtain ⟨q5, z5, g5, bz5⟩ := batch_of (h5.trans e5)
  have h6 : DataW.trod enc Tryz.prog W b sp held m 28 ((l.drop 7).take (Tryz.prog.cellsOf 28)) = xs[6]? := hf 6 _ rfl
  rw [show Tryz.prog.cellsOf 28 = 36 by kernel_rfl] at h6
  obtain ⟨y6, e6⟩ := some_at hl (show 6 < 13 by omega)
  obtain ⟨z6, g6, bz6⟩ := vote_of (h6.trans e6)
  have h7 : DataW.trod enc Tryz.prog W b sp held m 31 ((l.drop 43).take (Tryz.prog.cellsOf 31)) = xs[7]? := hf 7 _ rfl
  rw [show Tryz.prog.cellsOf 31 = 4 by kernel_rfl] at h7
  obtain ⟨y7, e7⟩ := some_at hl (show 7 < 13 by omega)
  obtain ⟨ca7, cb7, cc7, z7, g7, bz7⟩ := change_of (h7.trans e7)
  have h8 : DataW.trod enc Tryz.prog W b sp held m 32 ((l.drop 47).take (Tryz.prog.cellsOf 32)) = xs[8]? := hf 8 _ rfl
  rw [show Tryz.prog.cellsOf 32 = 1 by kernel_rfl] at h8
  obtain ⟨y8, e8⟩ := some_at hl (show 8 < 13 by omega)
  obtain ⟨z8, g8, bz8⟩ := envs_of (h8.trans e8)
  have h9 : DataW.trod enc Tryz.prog W b sp held m 26 ((l.drop 48).take (Tryz.prog.cellsOf 26)) = xs[9]? := hf 9 _ rfl
  rw [show Tryz.prog.cellsOf 26 = 32 by kernel_rfl] at h9
  obtain ⟨y9, e9⟩ := some_at hl (show 9 < 13 by omega)
  obtain ⟨z9, g9, lz9, bz9⟩ := bytes_at Tryz.underlying26 (by kernel_rfl) (h9.trans e9)
  have h10 : DataW.trod enc Tryz.prog W b sp held m 35 ((l.drop 80).take (Tryz.prog.cellsOf 35)) = xs[10]? := hf 10 _ rfl
  rw [show Tryz.prog.cellsOf 35 = 37 by kernel_rfl] at h10
  obtain ⟨y10, e10⟩ := some_at hl (show 10 < 13 by omega)
  obtain ⟨v10, z10, g10, bv10, bz10⟩ := cert_of (h10.trans e10)
  have h11 : DataW.trod enc Tryz.prog W b sp held m 9 ((l.drop 117).take (Tryz.prog.cellsOf 9)) = xs[11]? := hf 11 _ rfl
  rw [show Tryz.prog.cellsOf 9 = 1 by kernel_rfl] at h11
  obtain ⟨y11, e11⟩ := some_at hl (show 11 < 13 by omega)
  obtain ⟨z11, g11, _, bz11⟩ := DataW.trod_string Tryz.underlying9 (h11.trans e11)
  have h12 : DataW.trod enc Tryz.prog W b sp held m 33 ((l.drop 118).take (Tryz.prog.cellsOf 33)) = xs[12]? := hf 12 _ rfl
  rw [show Tryz.prog.cellsOf 33 = 1 by kernel_rfl] at h12
  obtain ⟨y12, e12⟩ := some_at hl (show 12 < 13 by omega)
  obtain ⟨z12, g12, bz12⟩ := signs_of (h12.trans e12)
  refine ⟨⟨z0, z1, z2, z3, z4, q5, z5, z6, ca7, cb7, cc7, z7, z8, z9, v10, z10, z11, z12⟩, ?_, ⟨bz6, bv10, lz9, bz9⟩, ⟨bz5, bz7, bz8, bz10, bz12⟩⟩
  have e := take_whole (n := 1 + (1 + (1 + (1 + (1 + (2 + (36 + (4 + (1 + (32 + (37 + (1 + (1))))))))))))) hcl
  rw [take_cut, take_cut, take_cut, take_cut, take_cut, take_cut, take_cut, take_cut, take_cut, take_cut, take_cut, take_cut, g0, g1, g2, g3, g4, g5, g6, g7, g8, g9, g10, g11, g12] at e
  rw [e]; simp [Mg.ms, Ms.cells, certL, List.append_assoc]
set_option maxRecDepth 100000 in
theorem open_msg {H : Type} {enc : TypeId × Value → H} {W : World} {base b : Nat} {sp : Nat → Bool} {held : Bool} {fuel : Nat} {v : Value} {x : DataW H × List MemPlace} (hv : Value.okWide Tryz.prog W .any base 37 v)
    (h : DataW.trod enc Tryz.prog W b sp held fuel 37 v.cells.toList = some x) : ∃ m : Mg, v = .agg m.ms.cells.toArray ∧ m.ok ∧ m.At W := by
  unfold Value.okWide at hv
  rw [Tryz.underlying37] at hv
  obtain ⟨cs, rfl, hsz, _⟩ := hv
  obtain ⟨r, h1, h2, h3⟩ := msg_of h
  refine ⟨r, ?_, h2, h3⟩
  simp only [Value.cells] at h1
  rw [← h1]
end Go.Proofs.YtgjalkbianpibaaGreat
namespace Go.Proofs.YtgjalkbianpibaaGreat.messageEncodes
open Go.ChangeShapes Go.WideShapes Go.ChangeAt Go.RowKit
open Go.ChangeMaps (open_string shut_string)
set_option linter.unusedVariables false
set_option maxRecDepth 100000 in
theorem lifted (os : Os) (started : os.Started) (H : Type) (enc : TypeId × Value → H) :
    ReturnsInHanded {} Tryz.checked os 3 .any (Rows.messageEncodesSpec.pre6 enc Tryz.prog Tryz.f3 Rows.messageEncodesRow.domain false) (Rows.messageEncodesSpec.post enc Tryz.prog Tryz.f3 false true false false) := by
  refine returnsInHanded_of_change (C := Tryz.checked) own started (by kernel_rfl) Tryz.func3
    (ChangeSpec.witness6 (enc := enc) (C := Tryz.checked) false ⟨#[], #[.agg #[.int .i64 0, .int .i64 0, .int .i64 0, .int .i64 0, .int .i64 0, .bool false, .slice none 0 0, .int .i64 0, .int .i64 0, .int .i64 0, .int .i64 0, .int .u8 0, .int .u8 0, .int .u8 0, .int .u8 0, .int .u8 0, .int .u8 0, .int .u8 0, .int .u8 0, .int .u8 0, .int .u8 0, .int .u8 0, .int .u8 0, .int .u8 0, .int .u8 0, .int .u8 0, .int .u8 0, .int .u8 0, .int .u8 0, .int .u8 0, .int .u8 0, .int .u8 0, .int .u8 0, .int .u8 0, .int .u8 0, .int .u8 0, .int .u8 0, .int .u8 0, .int .u8 0, .int .u8 0, .int .u8 0, .int .u8 0, .int .u8 0, .int .i64 0, .int .i64 0, .int .i64 0, .slice none 0 0, .slice none 0 0, .int .u8 0, .int .u8 0, .int .u8 0, .int .u8 0, .int .u8 0, .int .u8 0, .int .u8 0, .int .u8 0, .int .u8 0, .int .u8 0, .int .u8 0, .int .u8 0, .int .u8 0, .int .u8 0, .int .u8 0, .int .u8 0, .int .u8 0, .int .u8 0, .int .u8 0, .int .u8 0, .int .u8 0, .int .u8 0, .int .u8 0, .int .u8 0, .int .u8 0, .int .u8 0, .int .u8 0, .int .u8 0, .int .u8 0, .int .u8 0, .int .u8 0, .int .u8 0, .int .i64 0, .int .i64 0, .int .i64 0, .int .i64 0, .int .u8 0, .int .u8 0, .int .u8 0, .int .u8 0, .int .u8 0, .int .u8 0, .int .u8 0, .int .u8 0, .int .u8 0, .int .u8 0, .int .u8 0, .int .u8 0, .int .u8 0, .int .u8 0, .int .u8 0, .int .u8 0, .int .u8 0, .int .u8 0, .int .u8 0, .int .u8 0, .int .u8 0, .int .u8 0, .int .u8 0, .int .u8 0, .int .u8 0, .int .u8 0, .int .u8 0, .int .u8 0, .int .u8 0, .int .u8 0, .int .u8 0, .int .u8 0, .slice none 0 0, .string ⟨#[]⟩, .slice none 0 0], .agg #[.int .i64 0, .int .i64 0, .int .i64 0, .int .i64 0, .int .i64 0, .bool false, .slice none 0 0, .int .i64 0, .int .i64 0, .int .i64 0, .int .i64 0, .int .u8 0, .int .u8 0, .int .u8 0, .int .u8 0, .int .u8 0, .int .u8 0, .int .u8 0, .int .u8 0, .int .u8 0, .int .u8 0, .int .u8 0, .int .u8 0, .int .u8 0, .int .u8 0, .int .u8 0, .int .u8 0, .int .u8 0, .int .u8 0, .int .u8 0, .int .u8 0, .int .u8 0, .int .u8 0, .int .u8 0, .int .u8 0, .int .u8 0, .int .u8 0, .int .u8 0, .int .u8 0, .int .u8 0, .int .u8 0, .int .u8 0, .int .u8 0, .int .i64 0, .int .i64 0, .int .i64 0, .slice none 0 0, .slice none 0 0, .int .u8 0, .int .u8 0, .int .u8 0, .int .u8 0, .int .u8 0, .int .u8 0, .int .u8 0, .int .u8 0, .int .u8 0, .int .u8 0, .int .u8 0, .int .u8 0, .int .u8 0, .int .u8 0, .int .u8 0, .int .u8 0, .int .u8 0, .int .u8 0, .int .u8 0, .int .u8 0, .int .u8 0, .int .u8 0, .int .u8 0, .int .u8 0, .int .u8 0, .int .u8 0, .int .u8 0, .int .u8 0, .int .u8 0, .int .u8 0, .int .u8 0, .int .u8 0, .int .i64 0, .int .i64 0, .int .i64 0, .int .i64 0, .int .u8 0, .int .u8 0, .int .u8 0, .int .u8 0, .int .u8 0, .int .u8 0, .int .u8 0, .int .u8 0, .int .u8 0, .int .u8 0, .int .u8 0, .int .u8 0, .int .u8 0, .int .u8 0, .int .u8 0, .int .u8 0, .int .u8 0, .int .u8 0, .int .u8 0, .int .u8 0, .int .u8 0, .int .u8 0, .int .u8 0, .int .u8 0, .int .u8 0, .int .u8 0, .int .u8 0, .int .u8 0, .int .u8 0, .int .u8 0, .int .u8 0, .int .u8 0, .slice none 0 0, .string ⟨#[]⟩, .slice none 0 0]], []⟩ 8 (by kernel_rfl) (by kernel_rfl) (by kernel_rfl) (by kernel_rfl)) ?_
  intro W base args ds gs before hval0 hW hcnd _
  have hval : ∀ (j : Nat) t v, Tryz.f3.params[j]? = some t → args[j]? = some v → Value.okWide Tryz.prog W .any base t v := hval0
  have hW' := hW
  obtain ⟨p, q, hA0, hV, rfl, hfz, hnd⟩ := hW
  have hA : DataW.TrodAll enc Tryz.prog W 0 (fun _ => true) true Tryz.f3.params.toList args.toList ds p := hA0
  rw [Tryz.params3] at hA hval
  obtain ⟨v0, vs0, d0, ds0, p0, q0, hargs, rfl, rfl, h0, r0⟩ := trodAll_cons hA
  obtain ⟨v1, vs1, d1, ds1, p1, q1, rfl, rfl, rfl, h1, r1⟩ := trodAll_cons r0
  obtain ⟨rfl, rfl, rfl⟩ := trodAll_nil r1
  obtain rfl : args = #[v0, v1] := by cases args; simp_all
  obtain ⟨rfl, rfl⟩ := trodVars_none hV
  have k0 := h0
  have lt0 : ∀ x ∈ p0, x.block < W.heap.size := by obtain ⟨m, hm⟩ := k0; exact DataW.trod_lt m _ _ _ hm
  obtain ⟨fuel0, hf0⟩ := h0
  obtain ⟨x0, rfl, ok0, at0⟩ := open_msg (hval 0 37 v0 rfl rfl) hf0
  have k1 := h1
  have lt1 : ∀ x ∈ p1, x.block < W.heap.size := by obtain ⟨m, hm⟩ := k1; exact DataW.trod_lt m _ _ _ hm
  obtain ⟨fuel1, hf1⟩ := h1
  obtain ⟨x1, rfl, ok1, at1⟩ := open_msg (hval 1 37 v1 rfl rfl) hf1
  clear hA0 hval0
  refine (encodes_walk x0 x1 W ok0 ok1 at0 at1).mono fun e W' ⟨he, bel⟩ => ?_
  subst he
  exact ⟨_, rfl, _, _, _, [], _, [], hW', trodAll_mk1 (shut_bool Tryz.underlying4 _), (trodAll_cons_mk (Below.trod laidOut (by kernel_rfl) (of_decide_eq_true (by kernel_rfl)) k0 bel lt0) (trodAll_cons_mk (Below.trod laidOut (by kernel_rfl) (of_decide_eq_true (by kernel_rfl)) k1 bel lt1) trodAll_mk0)), rfl, bel.frame _, fun h => by cases h⟩
theorem over : Rows.messageEncodesRow.holds Tryz.pinned (OpenSpec.ofChange Rows.messageEncodesSpec) :=
  OpenClaim.holds_of_wide 3 Tryz.f3 rfl rfl rfl rfl rfl rfl rfl ⟨rfl, rfl, rfl, rfl, rfl⟩ rfl rfl rfl rfl rfl (by kernel_rfl) Tryz.func3 (by kernel_rfl)
    (of_decide_eq_true (by kernel_rfl)) (by unfold Func.isWrapper; first | (rw [if_pos (by decide +kernel)]; kernel_rfl) | (rw [if_neg (by decide +kernel)]; exact ⟨rfl, rfl⟩))
    (fun os started H enc _ => lifted os started H enc)
end Go.Proofs.YtgjalkbianpibaaGreat.messageEncodes
namespace Go.Proofs.YtgjalkbianpibaaGreat
theorem messageEncodes_holds : Rows.MessageEncodesSaid := messageEncodes.over
#print axioms messageEncodes_holds
end Go.Proofs.YtgjalkbianpibaaGreat
