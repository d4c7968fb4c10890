/- slots, certs among the arguments -/
import Derived.Test.YtogmkcabndgllaaDoorJB
import Derived.Deep.Slices
import Derived.Lib.LaidTab
namespace Go.Proofs.YtogmkcabndgllaaDoor
open Go.ChangeShapes Go.WideShapes Go.ChangeAt Go.RowKit
open Sha Tal
set_option linter.constructorNameAsVariable false
def RowOf {α : Type} (f : α → List Value) (w : World) (a : Option Addr) (ys : List α) : Prop := ys = [] ∨ ∃ b off, a = some ⟨b, off, none⟩ ∧ b < w.heap.size ∧ w.rangeAt b off (ys.flatMap f)
theorem flat_len_k {α : Type} {f : α → List Value} {k : Nat} {ys : List α} (h : ∀ y ∈ ys, (f y).length = k) : (ys.flatMap f).length = ys.length * k := by
  induction ys with
  | nil => simp
  | cons y ys ih =>
    have h1 := h y (by simp)
    have h2 := ih (fun x hx => h x (by simp [hx]))
    simp only [List.flatMap_cons, List.length_append, List.length_cons, Nat.add_mul, Nat.one_mul]
    omega
theorem RowOf.below {α : Type} {f : α → List Value} {w w' : World} {a : Option Addr} {ys : List α} (h : RowOf f w a ys) (hb : Below w.heap.size w w') : RowOf f w' a ys := by
  rcases h with h | ⟨b, off, rfl, h1, h2⟩
  · exact .inl h
  · exact .inr ⟨b, off, rfl, Nat.lt_of_lt_of_le h1 hb.size, range_below h2 hb h1⟩
theorem RowOf.elem {α : Type} {f : α → List Value} {k : Nat} {w : World} {a : Option Addr} {ys : List α} (h : RowOf f w a ys) (hk : ∀ y ∈ ys, (f y).length = k) (i : Nat) (hi : i < ys.length) : ∃ b off, a = some ⟨b, off, none⟩ ∧ b < w.heap.size ∧ w.rangeAt b (off + i * k) (f ys[i]) := by
  rcases h with h0 | ⟨b, off, rfl, h1, h2⟩
  · subst h0; simp at hi
  · refine ⟨b, off, rfl, h1, ?_⟩
    have e : ys.take i ++ (ys[i] :: ys.drop (i + 1)) = ys := by rw [← List.drop_eq_getElem_cons hi, List.take_append_drop]
    have e2 : ys.flatMap f = (ys.take i).flatMap f ++ f ys[i] ++ (ys.drop (i + 1)).flatMap f := by
      have := congrArg (List.flatMap f) e
      rw [← this]
      simp only [List.flatMap_append, List.flatMap_cons, List.append_assoc]
    rw [e2] at h2
    have h3 := range_part h2
    rwa [flat_len_k (fun y hy => hk y (List.mem_of_mem_take hy)), List.length_take, Nat.min_eq_left (by omega)] at h3
theorem flat_get {α : Type} {f : α → List Value} {k : Nat} (hk : 0 < k) (R : Nat → α) : ∀ (n : Nat), (∀ i, i < n → (f (R i)).length = k) → ∀ j, j < n * k → (((List.range n).map R).flatMap f)[j]? = (f (R (j / k)))[j % k]? := by
  intro n
  induction n with
  | zero => intro _ j hj; omega
  | succ n ih =>
    intro hR j hj
    have hl : (((List.range n).map R).flatMap f).length = n * k := by
      have := flat_len_k (f := f) (k := k) (ys := (List.range n).map R) (fun y hy => by
        obtain ⟨i, hi, rfl⟩ := List.mem_map.1 hy
        exact hR i (by have := List.mem_range.1 hi; omega))
      simpa using this
    rw [List.range_succ, List.map_append, List.flatMap_append]
    by_cases h : j < n * k
    · rw [List.getElem?_append_left (by omega), ih (fun i hi => hR i (by omega)) j h]
    · rw [List.getElem?_append_right (by omega), hl]
      have e0 : j = (j - n * k) + k * n := by rw [Nat.mul_comm k n]; omega
      have hlt : j - n * k < k := by rw [Nat.add_mul, Nat.one_mul] at hj; omega
      have e1 : j / k = n := by rw [e0, Nat.add_mul_div_left _ _ hk, Nat.div_eq_of_lt hlt]; omega
      have e2 : j % k = j - n * k := by
        have := congrArg (· % k) e0
        simp only [Nat.add_mul_mod_self_left] at this
        rw [this, Nat.mod_eq_of_lt hlt]
      rw [e1, e2]
      simp
set_option maxRecDepth 100000 in
theorem rows_of {α : Type} [Inhabited α] (f : α → List Value) (ok : α → Prop) (k : Nat) (hk : 0 < k) (tl te : TypeId) (hu : Tryd.prog.underlying tl = some (.slice te)) (hct : Tryd.prog.cellsOf te = k) (hf : ∀ y, ok y → (f y).length = k)
    {H : Type} {enc : TypeId × Value → H} {W : World} {b : Nat} {sp : Nat → Bool} {held : Bool} {fuel : Nat} {l : List Value} {x : DataW H × List MemPlace}
    (hel : ∀ (m : Nat) (l : List Value) (z : DataW H × List MemPlace), DataW.trod enc Tryd.prog W b sp held m te l = some z → ∃ y, l = f y ∧ ok y)
    (h : DataW.trod enc Tryd.prog W b sp held fuel tl l = some x) : ∃ (a : Option Addr) (cap : Nat) (ys : List α), l = [.slice a ys.length cap] ∧ ys.length ≤ cap ∧ cap ≤ maxLen ∧ (∀ y ∈ ys, ok y) ∧ RowOf f W a ys := by
  rcases Deep.open_slice hu h with ⟨rfl, _⟩ | ⟨a, len, cap, m, n, D, Pl, rfl, hb, hlc, hcm, hm, _, hel2⟩
  · exact ⟨none, 0, [], rfl, by simp, by simp, by simp, .inl rfl⟩
  · rw [hct] at hel2
    have hml : len ≤ m := by rw [hm]; split <;> omega
    have key : ∀ i, i < len → ∃ y : α, W.cells? b (a.add (i * k)) k = some (f y) ∧ ok y := fun i hi => by
      obtain ⟨cs, h1, h2⟩ := hel2 i (by omega)
      obtain ⟨y, rfl, hy⟩ := hel _ _ _ h2
      exact ⟨y, h1, hy⟩
    obtain ⟨R, hR⟩ := Deep.choose_lt key
    refine ⟨some a, cap, (List.range len).map R, by simp, by simpa using hlc, hcm, ?_, ?_⟩
    · intro y hy
      obtain ⟨i, hi, rfl⟩ := List.mem_map.1 hy
      exact (hR i (List.mem_range.1 hi)).2
    · by_cases h0 : len = 0
      · left; simp [h0]
      · right
        obtain ⟨bb, off, spot⟩ := a
        have hlen0 := hf _ (hR 0 (by omega)).2
        have hc := (cells_some (hR 0 (by omega)).1).2 0 ((f (R 0))[0]'(by omega)) (List.getElem?_eq_getElem _)
        have hspot : spot = none := by simpa [Addr.add] using World.cell?_spot hc
        subst hspot
        refine ⟨bb, off, rfl, ?_, fun j v hv => ?_⟩
        · have := World.block_lt_of_cell? W _ hc; simpa [Addr.add] using this
        · have hj : j < len * k := by
            have := (List.getElem?_eq_some_iff.1 hv).1
            rw [flat_len_k (k := k)] at this
            · simpa using this
            · intro y hy
              obtain ⟨i, hi, rfl⟩ := List.mem_map.1 hy
              exact hf _ (hR i (List.mem_range.1 hi)).2
          rw [flat_get hk R len (fun i hi => hf _ (hR i hi).2) j hj] at hv
          have hdm : j / k < len := (Nat.div_lt_iff_lt_mul hk).2 hj
          have := (cells_some (hR (j / k) hdm).1).2 _ _ hv
          rw [Addr.add_mid, Addr.add_mid] at this
          rw [← this]
          congr 2
          have := Nat.div_add_mod j k
          rw [Nat.mul_comm] at this
          omega
section
variable {H : Type} {enc : TypeId × Value → H} {W : World} {b : Nat} {sp : Nat → Bool} {held : Bool} {m : Nat}
theorem bytes_at {t n : Nat} {l : List Value} {y : DataW H × List MemPlace} (hu : Tryd.prog.underlying t = some (.array n 5)) (hct : Tryd.prog.cellsOf t = n) (h : DataW.trod enc Tryd.prog W b sp held m t l = some y) : ∃ zs : List Int, l = v8 zs ∧ zs.length = n ∧ ∀ z ∈ zs, 0 ≤ z ∧ z < 256 := by
  have hce : Tryd.prog.cellsOf 5 = 1 := by kernel_rfl
  cases m with
  | zero => simp [DataW.trod] at h
  | succ m =>
    simp only [DataW.trod, hu, hce, hct, Nat.mul_one] at h
    split at h
    · rename_i hsz
      obtain ⟨xs, hm, hx⟩ := Option.map_eq_some_iff.1 h
      have key : ∀ i, i < n → ∃ z, l[i]? = some (.int .u8 z) ∧ 0 ≤ z ∧ z < 256 := fun i hi => by
        obtain ⟨y, hy, hf⟩ := Lib.mapM_at hm i i (by simp [hi])
        obtain ⟨z, hc, rfl, hw⟩ := DataW.trod_int Tryd.underlying5 hf
        refine ⟨z, drop_one hc, ?_⟩
        simp [Lit.wf, IntKind.min, IntKind.max, IntKind.signed, IntKind.bits] at hw
        omega
      have hln : l.length = n := by simpa using hsz
      refine ⟨l.map (fun v => match v with | .int _ z => z | _ => 0), ?_, by simpa using hln, ?_⟩
      · apply List.ext_getElem?
        intro i
        by_cases hi : i < n
        · obtain ⟨z, hz, _⟩ := key i hi
          simp only [v8, List.map_map, List.getElem?_map, hz, Option.map_some]
          rfl
        · rw [List.getElem?_eq_none (by omega), List.getElem?_eq_none (by simp [v8]; omega)]
      · intro z hz
        obtain ⟨u, hu, rfl⟩ := List.mem_map.1 hz
        obtain ⟨i, hi, rfl⟩ := List.mem_iff_getElem.1 hu
        obtain ⟨z, hz, hb⟩ := key i (by omega)
        rw [List.getElem?_eq_getElem hi] at hz
        rw [Option.some.inj hz]
        exact hb
    · cases h
end
set_option maxRecDepth 100000 in
theorem vote_of {H : Type} {enc : TypeId × Value → H} {W : World} {b : Nat} {sp : Nat → Bool} {held : Bool} {fuel : Nat} {l : List Value} {x : DataW H × List MemPlace}
    (h : DataW.trod enc Tryd.prog W b sp held fuel 28 l = some x) : ∃ r : Vt, l = r.cells ∧ r.ok := by
  have hct : Tryd.prog.cellsOf 28 = 36 := by kernel_rfl
  have hci : Tryd.prog.cellsOf 3 = 1 := by kernel_rfl
  have hcg : Tryd.prog.cellsOf 26 = 32 := by kernel_rfl
  obtain ⟨xs, m, _, rfl, hcl, hl, hf⟩ := DataW.trod_struct Tryd.underlying28 h
  rw [hct] at hcl
  have hl : xs.length = 5 := hl
  have h0 : DataW.trod enc Tryd.prog W b sp held m 3 ((l.drop 0).take (Tryd.prog.cellsOf 3)) = xs[0]? := hf 0 _ rfl
  have h1 : DataW.trod enc Tryd.prog W b sp held m 3 ((l.drop 1).take (Tryd.prog.cellsOf 3)) = xs[1]? := hf 1 _ rfl
  have h2 : DataW.trod enc Tryd.prog W b sp held m 3 ((l.drop 2).take (Tryd.prog.cellsOf 3)) = xs[2]? := hf 2 _ rfl
  have h3 : DataW.trod enc Tryd.prog W b sp held m 3 ((l.drop 3).take (Tryd.prog.cellsOf 3)) = xs[3]? := hf 3 _ rfl
  have h4 : DataW.trod enc Tryd.prog W b sp held m 26 ((l.drop 4).take (Tryd.prog.cellsOf 26)) = xs[4]? := hf 4 _ rfl
  rw [hci] at h0 h1 h2 h3
  rw [hcg] at h4
  obtain ⟨y0, e0⟩ := some_at hl (show 0 < 5 by omega)
  obtain ⟨y1, e1⟩ := some_at hl (show 1 < 5 by omega)
  obtain ⟨y2, e2⟩ := some_at hl (show 2 < 5 by omega)
  obtain ⟨y3, e3⟩ := some_at hl (show 3 < 5 by omega)
  obtain ⟨y4, e4⟩ := some_at hl (show 4 < 5 by omega)
  obtain ⟨k, g0, b0⟩ := int_at (h0.trans e0)
  obtain ⟨ep, g1, b1⟩ := int_at (h1.trans e1)
  obtain ⟨vi, g2, b2⟩ := int_at (h2.trans e2)
  obtain ⟨sl, g3, b3⟩ := int_at (h3.trans e3)
  obtain ⟨d, g4, hd, hb⟩ := bytes_at Tryd.underlying26 hcg (h4.trans e4)
  refine ⟨⟨k, ep, vi, sl, d⟩, ?_, ⟨b0, b1, b2, b3, hd, hb⟩⟩
  show l = .int .i64 k :: .int .i64 ep :: .int .i64 vi :: .int .i64 sl :: v8 d
  match l, hcl with
  | a0 :: a1 :: a2 :: a3 :: l, hcl =>
    simp at g0 g1 g2 g3 hcl
    have : List.take 32 l = v8 d := g4
    rw [List.take_of_length_le (by omega)] at this
    subst g0 g1 g2 g3 this
    rfl
set_option maxRecDepth 100000 in
theorem sign_of {H : Type} {enc : TypeId × Value → H} {W : World} {b : Nat} {sp : Nat → Bool} {held : Bool} {fuel : Nat} {l : List Value} {x : DataW H × List MemPlace}
    (h : DataW.trod enc Tryd.prog W b sp held fuel 101 l = some x) : ∃ r : Sg, l = r.cells ∧ r.ok := by
  have hct : Tryd.prog.cellsOf 101 = 17 := by kernel_rfl
  have hci : Tryd.prog.cellsOf 3 = 1 := by kernel_rfl
  have hcg : Tryd.prog.cellsOf 71 = 16 := by kernel_rfl
  obtain ⟨xs, m, _, rfl, hcl, hl, hf⟩ := DataW.trod_struct Tryd.underlying101 h
  rw [hct] at hcl
  have hl : xs.length = 2 := hl
  have h0 : DataW.trod enc Tryd.prog W b sp held m 3 ((l.drop 0).take (Tryd.prog.cellsOf 3)) = xs[0]? := hf 0 _ rfl
  have h3 : DataW.trod enc Tryd.prog W b sp held m 71 ((l.drop 1).take (Tryd.prog.cellsOf 71)) = xs[1]? := hf 1 _ rfl
  rw [hci] at h0
  rw [hcg] at h3
  obtain ⟨y0, e0⟩ := some_at hl (show 0 < 2 by omega)
  obtain ⟨y3, e3⟩ := some_at hl (show 1 < 2 by omega)
  obtain ⟨n, g0, bn⟩ := int_at (h0.trans e0)
  obtain ⟨t, g3, ht, hb⟩ := tag_at (h3.trans e3)
  refine ⟨⟨n, t⟩, ?_, ⟨ht, hb, bn⟩⟩
  show l = .int .i64 n :: v8 t
  match l, hcl with
  | a0 :: l, hcl =>
    simp at g0 hcl
    have : List.take 16 l = v8 t := g3
    rw [List.take_of_length_le (by omega)] at this
    subst g0 this
    rfl
theorem take_cut {α : Type} (l : List α) (o n k : Nat) : (l.drop o).take (n + k) = (l.drop o).take n ++ (l.drop (o + n)).take k := by
  rw [List.take_add, List.drop_drop]
theorem take_whole {α : Type} {l : List α} {n : Nat} (h : l.length = n) : l = (l.drop 0).take n := by
  rw [List.drop_zero, List.take_of_length_le (by omega)]
set_option maxRecDepth 100000 in
theorem signs_of {H : Type} {enc : TypeId × Value → H} {W : World} {b : Nat} {sp : Nat → Bool} {held : Bool} {fuel : Nat} {l : List Value} {x : DataW H × List MemPlace}
    (h : DataW.trod enc Tryd.prog W b sp held fuel 29 l = some x) : ∃ (a : Option Addr) (cap : Nat) (ys : List Sg), l = [.slice a ys.length cap] ∧ ys.length ≤ cap ∧ cap ≤ maxLen ∧ SigsAt W a ys := by
  obtain ⟨a, cap, ys, h1, h2, h3, h4, h5⟩ := rows_of Sg.cells Sg.ok 17 (by decide) 29 101 Tryd.underlying29 (by kernel_rfl) (fun y hy => hy.length) (fun m l z hz => sign_of hz) h
  exact ⟨a, cap, ys, h1, h2, h3, Nat.le_trans h2 h3, h4, h5⟩
set_option maxRecDepth 100000 in
theorem bat_of {H : Type} {enc : TypeId × Value → H} {W : World} {b : Nat} {sp : Nat → Bool} {held : Bool} {fuel : Nat} {l : List Value} {x : DataW H × List MemPlace}
    (h : DataW.trod enc Tryd.prog W b sp held fuel 24 l = some x) : ∃ y : Bat, l = y.cells ∧ y.at W := by
  have hct : Tryd.prog.cellsOf 24 = 2 := by kernel_rfl
  have hci : Tryd.prog.cellsOf 4 = 1 := by kernel_rfl
  have hcs : Tryd.prog.cellsOf 22 = 1 := by kernel_rfl
  obtain ⟨xs, m, _, rfl, hcl, hl, hf⟩ := DataW.trod_struct Tryd.underlying24 h
  rw [hct] at hcl
  have hl : xs.length = 2 := hl
  have h0 : DataW.trod enc Tryd.prog W b sp held m 4 ((l.drop 0).take (Tryd.prog.cellsOf 4)) = xs[0]? := hf 0 _ rfl
  have h1 : DataW.trod enc Tryd.prog W b sp held m 22 ((l.drop 1).take (Tryd.prog.cellsOf 22)) = xs[1]? := hf 1 _ rfl
  rw [hci] at h0
  rw [hcs] at h1
  obtain ⟨y0, e0⟩ := some_at hl (show 0 < 2 by omega)
  obtain ⟨y1, e1⟩ := some_at hl (show 1 < 2 by omega)
  obtain ⟨q, g0, _⟩ := DataW.trod_bool Tryd.underlying4 (h0.trans e0)
  obtain ⟨a, cap, rs, g1, k1, k2, k3⟩ := reqs_of (h1.trans e1)
  refine ⟨⟨q, a, cap, rs⟩, ?_, k3, k1, k2⟩
  have e := take_whole (n := 1 + 1) hcl
  rw [take_cut, g0, g1] at e
  exact e
set_option maxRecDepth 100000 in
theorem cert_of {H : Type} {enc : TypeId × Value → H} {W : World} {b : Nat} {sp : Nat → Bool} {held : Bool} {fuel : Nat} {l : List Value} {x : DataW H × List MemPlace}
    (h : DataW.trod enc Tryd.prog W b sp held fuel 31 l = some x) : ∃ y : Ce, l = y.cells ∧ y.at W := by
  have hct : Tryd.prog.cellsOf 31 = 37 := by kernel_rfl
  have hci : Tryd.prog.cellsOf 28 = 36 := by kernel_rfl
  have hcs : Tryd.prog.cellsOf 29 = 1 := by kernel_rfl
  obtain ⟨xs, m, _, rfl, hcl, hl, hf⟩ := DataW.trod_struct Tryd.underlying31 h
  rw [hct] at hcl
  have hl : xs.length = 2 := hl
  have h0 : DataW.trod enc Tryd.prog W b sp held m 28 ((l.drop 0).take (Tryd.prog.cellsOf 28)) = xs[0]? := hf 0 _ rfl
  have h1 : DataW.trod enc Tryd.prog W b sp held m 29 ((l.drop 36).take (Tryd.prog.cellsOf 29)) = xs[1]? := hf 1 _ rfl
  rw [hci] at h0
  rw [hcs] at h1
  obtain ⟨y0, e0⟩ := some_at hl (show 0 < 2 by omega)
  obtain ⟨y1, e1⟩ := some_at hl (show 1 < 2 by omega)
  obtain ⟨v, g0, hv⟩ := vote_of (h0.trans e0)
  obtain ⟨a, cap, rs, g1, k1, k2, k3⟩ := signs_of (h1.trans e1)
  refine ⟨⟨v, a, cap, rs⟩, ?_, hv, k3, k1, k2⟩
  have e := take_whole (n := 36 + 1) hcl
  rw [take_cut, g0, g1] at e
  exact e
set_option maxRecDepth 100000 in
theorem held_of {H : Type} {enc : TypeId × Value → H} {W : World} {b : Nat} {sp : Nat → Bool} {held : Bool} {fuel : Nat} {l : List Value} {x : DataW H × List MemPlace}
    (h : DataW.trod enc Tryd.prog W b sp held fuel 33 l = some x) : ∃ (y : Bat) (c : Ce), l = heldC y c ∧ y.at W ∧ c.at W := by
  have hct : Tryd.prog.cellsOf 33 = 39 := by kernel_rfl
  have hci : Tryd.prog.cellsOf 24 = 2 := by kernel_rfl
  have hcs : Tryd.prog.cellsOf 31 = 37 := by kernel_rfl
  obtain ⟨xs, m, _, rfl, hcl, hl, hf⟩ := DataW.trod_struct Tryd.underlying33 h
  rw [hct] at hcl
  have hl : xs.length = 2 := hl
  have h0 : DataW.trod enc Tryd.prog W b sp held m 24 ((l.drop 0).take (Tryd.prog.cellsOf 24)) = xs[0]? := hf 0 _ rfl
  have h1 : DataW.trod enc Tryd.prog W b sp held m 31 ((l.drop 2).take (Tryd.prog.cellsOf 31)) = xs[1]? := hf 1 _ rfl
  rw [hci] at h0
  rw [hcs] at h1
  obtain ⟨y0, e0⟩ := some_at hl (show 0 < 2 by omega)
  obtain ⟨y1, e1⟩ := some_at hl (show 1 < 2 by omega)
  obtain ⟨v, g0, hv⟩ := bat_of (h0.trans e0)
  obtain ⟨c, g1, hc⟩ := cert_of (h1.trans e1)
  refine ⟨v, c, ?_, hv, hc⟩
  have e := take_whole (n := 2 + 37) hcl
  rw [take_cut, g0, g1] at e
  exact e
set_option maxRecDepth 100000 in
theorem ent_of {H : Type} {enc : TypeId × Value → H} {W : World} {b : Nat} {sp : Nat → Bool} {held : Bool} {fuel : Nat} {l : List Value} {x : DataW H × List MemPlace}
    (h : DataW.trod enc Tryd.prog W b sp held fuel 35 l = some x) : ∃ (n : Int) (y : Bat) (c : Ce), l = entC n y c ∧ y.at W ∧ c.at W := by
  have hct : Tryd.prog.cellsOf 35 = 40 := by kernel_rfl
  have hcn : Tryd.prog.cellsOf 3 = 1 := by kernel_rfl
  have hci : Tryd.prog.cellsOf 24 = 2 := by kernel_rfl
  have hcs : Tryd.prog.cellsOf 31 = 37 := by kernel_rfl
  obtain ⟨xs, m, _, rfl, hcl, hl, hf⟩ := DataW.trod_struct Tryd.underlying35 h
  rw [hct] at hcl
  have hl : xs.length = 3 := hl
  have h0 : DataW.trod enc Tryd.prog W b sp held m 3 ((l.drop 0).take (Tryd.prog.cellsOf 3)) = xs[0]? := hf 0 _ rfl
  have h1 : DataW.trod enc Tryd.prog W b sp held m 24 ((l.drop 1).take (Tryd.prog.cellsOf 24)) = xs[1]? := hf 1 _ rfl
  have h2 : DataW.trod enc Tryd.prog W b sp held m 31 ((l.drop 3).take (Tryd.prog.cellsOf 31)) = xs[2]? := hf 2 _ rfl
  rw [hcn] at h0
  rw [hci] at h1
  rw [hcs] at h2
  obtain ⟨y0, e0⟩ := some_at hl (show 0 < 3 by omega)
  obtain ⟨y1, e1⟩ := some_at hl (show 1 < 3 by omega)
  obtain ⟨y2, e2⟩ := some_at hl (show 2 < 3 by omega)
  obtain ⟨z, g0, _, _⟩ := DataW.trod_int Tryd.underlying3 (h0.trans e0)
  obtain ⟨v, g1, hv⟩ := bat_of (h1.trans e1)
  obtain ⟨c, g2, hc⟩ := cert_of (h2.trans e2)
  refine ⟨z, v, c, ?_, hv, hc⟩
  have e := take_whole (n := 1 + (2 + 37)) hcl
  rw [take_cut, take_cut, g0, g1, g2] at e
  exact e
/-- a slot, as far as it lies in memory -/
structure Sl.raw (s : Sl) (w : World) : Prop where
  b : s.b.at w
  hb : s.hb.at w
  eb : s.eb.at w
  hc : s.hc.at w
  ec : s.ec.at w
theorem Sl.raw.below {s : Sl} {w w' : World} (h : s.raw w) (hb : Below w.heap.size w w') : s.raw w' := ⟨h.b.below hb, h.hb.below hb, h.eb.below hb, h.hc.below hb, h.ec.below hb⟩
theorem Sl.raw.vok {s : Sl} {w : World} (h : s.raw w) : s.vok := ⟨h.hc.v, h.ec.v⟩
theorem Sl.raw.ok {s : Sl} {w : World} (h : s.raw w) (h1 : s.b.lt) (h2 : s.hb.lt) (h3 : s.eb.lt) : s.ok w := ⟨h.b, h1, h.hb, h2, h.eb, h3, h.hc, h.ec⟩
set_option maxRecDepth 100000 in
theorem slot_of {H : Type} {enc : TypeId × Value → H} {W : World} {b : Nat} {sp : Nat → Bool} {held : Bool} {fuel : Nat} {l : List Value} {x : DataW H × List MemPlace}
    (h : DataW.trod enc Tryd.prog W b sp held fuel 37 l = some x) : ∃ s : Sl, l = s.cells ∧ s.raw W := by
  have hct : Tryd.prog.cellsOf 37 = 85 := by kernel_rfl
  have hcn : Tryd.prog.cellsOf 3 = 1 := by kernel_rfl
  have hcb : Tryd.prog.cellsOf 4 = 1 := by kernel_rfl
  have hci : Tryd.prog.cellsOf 24 = 2 := by kernel_rfl
  have hch : Tryd.prog.cellsOf 33 = 39 := by kernel_rfl
  have hce : Tryd.prog.cellsOf 35 = 40 := by kernel_rfl
  obtain ⟨xs, m, _, rfl, hcl, hl, hf⟩ := DataW.trod_struct Tryd.underlying37 h
  rw [hct] at hcl
  have hl : xs.length = 7 := hl
  have h0 : DataW.trod enc Tryd.prog W b sp held m 3 ((l.drop 0).take (Tryd.prog.cellsOf 3)) = xs[0]? := hf 0 _ rfl
  have h1 : DataW.trod enc Tryd.prog W b sp held m 24 ((l.drop 1).take (Tryd.prog.cellsOf 24)) = xs[1]? := hf 1 _ rfl
  have h2 : DataW.trod enc Tryd.prog W b sp held m 4 ((l.drop 3).take (Tryd.prog.cellsOf 4)) = xs[2]? := hf 2 _ rfl
  have h3 : DataW.trod enc Tryd.prog W b sp held m 33 ((l.drop 4).take (Tryd.prog.cellsOf 33)) = xs[3]? := hf 3 _ rfl
  have h4 : DataW.trod enc Tryd.prog W b sp held m 4 ((l.drop 43).take (Tryd.prog.cellsOf 4)) = xs[4]? := hf 4 _ rfl
  have h5 : DataW.trod enc Tryd.prog W b sp held m 35 ((l.drop 44).take (Tryd.prog.cellsOf 35)) = xs[5]? := hf 5 _ rfl
  have h6 : DataW.trod enc Tryd.prog W b sp held m 4 ((l.drop 84).take (Tryd.prog.cellsOf 4)) = xs[6]? := hf 6 _ rfl
  rw [hcn] at h0
  rw [hci] at h1
  rw [hcb] at h2 h4 h6
  rw [hch] at h3
  rw [hce] at h5
  obtain ⟨y0, e0⟩ := some_at hl (show 0 < 7 by omega)
  obtain ⟨y1, e1⟩ := some_at hl (show 1 < 7 by omega)
  obtain ⟨y2, e2⟩ := some_at hl (show 2 < 7 by omega)
  obtain ⟨y3, e3⟩ := some_at hl (show 3 < 7 by omega)
  obtain ⟨y4, e4⟩ := some_at hl (show 4 < 7 by omega)
  obtain ⟨y5, e5⟩ := some_at hl (show 5 < 7 by omega)
  obtain ⟨y6, e6⟩ := some_at hl (show 6 < 7 by omega)
  obtain ⟨z, g0, _, _⟩ := DataW.trod_int Tryd.underlying3 (h0.trans e0)
  obtain ⟨v, g1, hv⟩ := bat_of (h1.trans e1)
  obtain ⟨q2, g2, _⟩ := DataW.trod_bool Tryd.underlying4 (h2.trans e2)
  obtain ⟨hb, hc, g3, hhb, hhc⟩ := held_of (h3.trans e3)
  obtain ⟨q4, g4, _⟩ := DataW.trod_bool Tryd.underlying4 (h4.trans e4)
  obtain ⟨n, eb, ec, g5, heb, hec⟩ := ent_of (h5.trans e5)
  obtain ⟨q6, g6, _⟩ := DataW.trod_bool Tryd.underlying4 (h6.trans e6)
  refine ⟨⟨z, v, q2, hb, hc, q4, n, eb, ec, q6⟩, ?_, hv, hhb, heb, hhc, hec⟩
  have e := take_whole (n := 1 + (2 + (1 + (39 + (1 + (40 + 1)))))) hcl
  rw [take_cut l 0, take_cut l (0 + 1), take_cut l (0 + 1 + 2), take_cut l (0 + 1 + 2 + 1), take_cut l (0 + 1 + 2 + 1 + 39), take_cut l (0 + 1 + 2 + 1 + 39 + 1)] at e
  simp only [Nat.zero_add, Nat.reduceAdd] at e
  rw [List.drop_zero] at e g0
  rw [g0, g1, g2, g3, g4, g5, g6] at e
  exact e
set_option maxRecDepth 100000 in
theorem agg_of {W : World} {base : Nat} {t : TypeId} {fs : Array Field} {v : Value} (hu : Tryd.prog.underlying t = some (.struct fs)) (hv : Value.okWide Tryd.prog W .any base t v) : ∃ cs : Array Value, v = .agg cs := by
  unfold Value.okWide at hv
  rw [hu] at hv
  obtain ⟨cs, rfl, _⟩ := hv
  exact ⟨cs, rfl⟩
set_option maxRecDepth 100000 in
theorem open_bat {H : Type} {enc : TypeId × Value → H} {W : World} {base b : Nat} {sp : Nat → Bool} {held : Bool} {fuel : Nat} {v : Value} {x : DataW H × List MemPlace} (hv : Value.okWide Tryd.prog W .any base 24 v)
    (h : DataW.trod enc Tryd.prog W b sp held fuel 24 v.cells.toList = some x) : ∃ r : Bat, v = .agg r.cells.toArray ∧ r.at W := by
  obtain ⟨cs, rfl⟩ := agg_of Tryd.underlying24 hv
  obtain ⟨r, h1, h2⟩ := bat_of h
  exact ⟨r, by rw [← h1]; rfl, h2⟩
set_option maxRecDepth 100000 in
theorem open_cert {H : Type} {enc : TypeId × Value → H} {W : World} {base b : Nat} {sp : Nat → Bool} {held : Bool} {fuel : Nat} {v : Value} {x : DataW H × List MemPlace} (hv : Value.okWide Tryd.prog W .any base 31 v)
    (h : DataW.trod enc Tryd.prog W b sp held fuel 31 v.cells.toList = some x) : ∃ r : Ce, v = .agg r.cells.toArray ∧ r.at W := by
  obtain ⟨cs, rfl⟩ := agg_of Tryd.underlying31 hv
  obtain ⟨r, h1, h2⟩ := cert_of h
  exact ⟨r, by rw [← h1]; rfl, h2⟩
set_option maxRecDepth 100000 in
theorem open_slot {H : Type} {enc : TypeId × Value → H} {W : World} {base b : Nat} {sp : Nat → Bool} {held : Bool} {fuel : Nat} {v : Value} {x : DataW H × List MemPlace} (hv : Value.okWide Tryd.prog W .any base 37 v)
    (h : DataW.trod enc Tryd.prog W b sp held fuel 37 v.cells.toList = some x) : ∃ r : Sl, v = .agg r.cells.toArray ∧ r.raw W := by
  obtain ⟨cs, rfl⟩ := agg_of Tryd.underlying37 hv
  obtain ⟨r, h1, h2⟩ := slot_of h
  exact ⟨r, by rw [← h1]; rfl, h2⟩
end Go.Proofs.YtogmkcabndgllaaDoor
