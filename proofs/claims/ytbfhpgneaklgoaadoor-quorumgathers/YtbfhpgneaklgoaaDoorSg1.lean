/- rows of signs -/
import Derived.Test.YtbfhpgneaklgoaaDoorSBase
import Derived.OpenShut
import Derived.Lib.LaidTab
import Derived.Deep.Slices
namespace Go.Proofs.YtbfhpgneaklgoaaDoor
open Go.ChangeShapes Go.WideShapes Go.ChangeAt Go.RowKit
theorem wf64 {z : Int} (h : (Lit.int .i64 z).wf = true) : -9223372036854775808 ≤ z ∧ z ≤ 9223372036854775807 := by
  simp only [Lit.wf, Bool.and_eq_true, decide_eq_true_eq] at h
  exact h
theorem some_at {α : Type} {xs : List α} {n i : Nat} (hl : xs.length = n) (hi : i < n) : ∃ y, xs[i]? = some y := ⟨xs[i]'(by omega), List.getElem?_eq_getElem (by omega)⟩
theorem drop_one {α : Type} {l : List α} {o : Nat} {v : α} (h : (l.drop o).take 1 = [v]) : l[o]? = some v := by
  have := congrArg (·[0]?) h
  simpa [List.getElem?_take, List.getElem?_drop] using this
section
variable {H : Type} {enc : TypeId × Value → H} {W : World} {b : Nat} {sp : Nat → Bool} {held : Bool} {m : Nat}
theorem int_at {l : List Value} {o : Nat} {y : DataW H × List MemPlace} (h : DataW.trod enc Tryd.prog W b sp held m 3 ((l.drop o).take 1) = some y) : ∃ z, l[o]? = some (.int .i64 z) ∧ -9223372036854775808 ≤ z ∧ z ≤ 9223372036854775807 := by
  obtain ⟨z, hc, rfl, hw⟩ := DataW.trod_int Tryd.underlying3 h
  exact ⟨z, drop_one hc, wf64 hw⟩
set_option maxRecDepth 100000 in
theorem tag_at {l : List Value} {y : DataW H × List MemPlace} (h : DataW.trod enc Tryd.prog W b sp held m 38 l = some y) : ∃ zs : List Int, l = v8 zs ∧ zs.length = 16 ∧ ∀ z ∈ zs, 0 ≤ z ∧ z < 256 := by
  have hct : Tryd.prog.cellsOf 38 = 16 := by kernel_rfl
  have hce : Tryd.prog.cellsOf 5 = 1 := by kernel_rfl
  cases m with
  | zero => simp [DataW.trod] at h
  | succ m =>
    simp only [DataW.trod, Tryd.underlying38, hce, hct, Nat.mul_one] at h
    split at h
    · rename_i hsz
      obtain ⟨xs, hm, hx⟩ := Option.map_eq_some_iff.1 h
      have key : ∀ i, i < 16 → ∃ z, l[i]? = some (.int .u8 z) ∧ 0 ≤ z ∧ z < 256 := fun i hi => by
        obtain ⟨y, hy, hf⟩ := Lib.mapM_at hm i i (by simp [hi])
        obtain ⟨z, hc, rfl, hw⟩ := DataW.trod_int Tryd.underlying5 hf
        refine ⟨z, drop_one hc, ?_⟩
        simp [Lit.wf, IntKind.min, IntKind.max, IntKind.signed, IntKind.bits] at hw
        omega
      refine ⟨l.map (fun v => match v with | .int _ z => z | _ => 0), ?_, by simpa using hsz, ?_⟩
      · apply List.ext_getElem?
        intro i
        by_cases hi : i < 16
        · obtain ⟨z, hz, _⟩ := key i hi
          simp only [v8, List.map_map, List.getElem?_map, hz, Option.map_some]
          rfl
        · rw [List.getElem?_eq_none (by omega), List.getElem?_eq_none (by simp [v8]; omega)]
      · intro z hz
        obtain ⟨u, hu, rfl⟩ := List.mem_map.1 hz
        obtain ⟨i, hi, rfl⟩ := List.mem_iff_getElem.1 hu
        obtain ⟨z, hz, hb⟩ := key i (by simpa [hsz] using hi)
        rw [List.getElem?_eq_getElem hi] at hz
        rw [Option.some.inj hz]
        exact hb
    · cases h
end

structure Sg where
  n : Int
  t : List Int
deriving Inhabited
structure Sg.ok (r : Sg) : Prop where
  tl : r.t.length = 16
  tb : ∀ z ∈ r.t, 0 ≤ z ∧ z < 256
  nl : -9223372036854775808 ≤ r.n
  nh : r.n ≤ 9223372036854775807
def Sg.cells (r : Sg) : List Value := .int .i64 r.n :: v8 r.t
theorem Sg.ok.length {r : Sg} (h : r.ok) : r.cells.length = 17 := by
  have := h.tl
  simp [Sg.cells, v8]
  omega
theorem Sg.one (r : Sg) : ∀ v ∈ r.cells, v.oneCell' = true := by
  intro v hv
  rcases List.mem_cons.1 hv with rfl | hv
  · rfl
  · exact v8_one r.t v hv
theorem Sg.first {w : World} {b o : Nat} {r : Sg} (h : w.rangeAt b o r.cells) : w.cell? ⟨b, o, none⟩ = some (.int .i64 r.n) := h 0 _ rfl
def flatS (rs : List Sg) : List Value := rs.flatMap Sg.cells
theorem flatS_length {rs : List Sg} (h : ∀ r ∈ rs, r.ok) : (flatS rs).length = rs.length * 17 := by
  induction rs with
  | nil => rfl
  | cons r rs ih =>
    have h1 := (h r (by simp)).length
    have h2 := ih (fun x hx => h x (by simp [hx]))
    simp only [flatS, List.flatMap_cons, List.length_append, List.length_cons] at *
    omega
theorem flatS_append (a b : List Sg) : flatS (a ++ b) = flatS a ++ flatS b := by simp [flatS]
theorem flatS_one (rs : List Sg) : ∀ v ∈ flatS rs, v.oneCell' = true := fun v hv => by
  obtain ⟨r, _, h⟩ := List.mem_flatMap.1 hv
  exact r.one v h
/-- a slice of requests -/
def SigsAt (w : World) (a : Option Addr) (rs : List Sg) : Prop :=
  rs.length ≤ maxLen ∧ (∀ r ∈ rs, r.ok) ∧ (rs = [] ∨ ∃ b off, a = some ⟨b, off, none⟩ ∧ b < w.heap.size ∧ w.rangeAt b off (flatS rs))
theorem SigsAt.below {w w' : World} {a : Option Addr} {rs : List Sg} (h : SigsAt w a rs) (hb : Below w.heap.size w w') : SigsAt w' a rs := by
  refine ⟨h.1, h.2.1, ?_⟩
  rcases h.2.2 with h | ⟨b, off, rfl, h1, h2⟩
  · exact Or.inl h
  · exact Or.inr ⟨b, off, rfl, Nat.lt_of_lt_of_le h1 hb.size, range_below h2 hb h1⟩
theorem SigsAt.belowN {w w' : World} {a : Option Addr} {rs : List Sg} {n : Nat} (h : SigsAt w a rs) (hb : Below n w w') (hn : ∀ x, a = some x → x.block < n) : SigsAt w' a rs := by
  refine ⟨h.1, h.2.1, ?_⟩
  rcases h.2.2 with h | ⟨b, off, rfl, h1, h2⟩
  · exact Or.inl h
  · exact Or.inr ⟨b, off, rfl, Nat.lt_of_lt_of_le h1 hb.size, range_below h2 hb (hn _ rfl)⟩
theorem SigsAt.drew {w : World} {a : Option Addr} {rs : List Sg} (h : SigsAt w a rs) : SigsAt w.drew a rs := by
  refine ⟨h.1, h.2.1, ?_⟩
  rcases h.2.2 with h | ⟨b, off, rfl, h1, h2⟩
  · exact Or.inl h
  · exact Or.inr ⟨b, off, rfl, h1, (World.rangeAt_drew _ _ _ _).2 h2⟩
theorem flatS_split (rs : List Sg) (i : Nat) (hi : i < rs.length) : flatS rs = flatS (rs.take i) ++ rs[i].cells ++ flatS (rs.drop (i + 1)) := by
  have e : rs.take i ++ (rs[i] :: rs.drop (i + 1)) = rs := by rw [← List.drop_eq_getElem_cons hi, List.take_append_drop]
  have e2 := congrArg flatS e
  rw [← e2]
  simp only [flatS, List.flatMap_append, List.flatMap_cons, List.append_assoc]
theorem SigsAt.elem {w : World} {a : Option Addr} {rs : List Sg} (h : SigsAt w a rs) (i : Nat) (hi : i < rs.length) : ∃ b off, a = some ⟨b, off, none⟩ ∧ b < w.heap.size ∧ w.rangeAt b (off + i * 17) rs[i].cells := by
  rcases h.2.2 with h0 | ⟨b, off, rfl, h1, h2⟩
  · subst h0; simp at hi
  · refine ⟨b, off, rfl, h1, ?_⟩
    rw [flatS_split rs i hi] at h2
    have h3 := range_part h2
    rwa [flatS_length (fun r hr => h.2.1 r (List.mem_of_mem_take hr)), List.length_take, Nat.min_eq_left (by omega)] at h3
theorem SigsAt.none {w : World} {a : Option Addr} : SigsAt w a [] := ⟨by simp, by simp, .inl rfl⟩
set_option maxRecDepth 100000 in
theorem sign_of {H : Type} {enc : TypeId × Value → H} {W : World} {b : Nat} {sp : Nat → Bool} {held : Bool} {fuel : Nat} {l : List Value} {x : DataW H × List MemPlace}
    (h : DataW.trod enc Tryd.prog W b sp held fuel 43 l = some x) : ∃ r : Sg, l = r.cells ∧ r.ok := by
  have hct : Tryd.prog.cellsOf 43 = 17 := by kernel_rfl
  have hci : Tryd.prog.cellsOf 3 = 1 := by kernel_rfl
  have hcg : Tryd.prog.cellsOf 38 = 16 := by kernel_rfl
  obtain ⟨xs, m, _, rfl, hcl, hl, hf⟩ := DataW.trod_struct Tryd.underlying43 h
  rw [hct] at hcl
  have hl : xs.length = 2 := hl
  have h0 : DataW.trod enc Tryd.prog W b sp held m 3 ((l.drop 0).take (Tryd.prog.cellsOf 3)) = xs[0]? := hf 0 _ rfl
  have h3 : DataW.trod enc Tryd.prog W b sp held m 38 ((l.drop 1).take (Tryd.prog.cellsOf 38)) = xs[1]? := hf 1 _ rfl
  rw [hci] at h0
  rw [hcg] at h3
  obtain ⟨y0, e0⟩ := some_at hl (show 0 < 2 by omega)
  obtain ⟨y3, e3⟩ := some_at hl (show 1 < 2 by omega)
  obtain ⟨n, g0, bn⟩ := int_at (h0.trans e0)
  obtain ⟨t, g3, ht, hb⟩ := tag_at (h3.trans e3)
  refine ⟨⟨n, t⟩, ?_, ⟨ht, hb, bn.1, bn.2⟩⟩
  show l = .int .i64 n :: v8 t
  match l, hcl with
  | a0 :: l, hcl =>
    simp at g0 hcl
    have : List.take 16 l = v8 t := g3
    rw [List.take_of_length_le (by omega)] at this
    subst g0 this
    rfl
set_option maxRecDepth 100000 in
theorem open_sign {H : Type} {enc : TypeId × Value → H} {W : World} {base b : Nat} {sp : Nat → Bool} {held : Bool} {fuel : Nat} {v : Value} {x : DataW H × List MemPlace} (hv : Value.okWide Tryd.prog W .any base 43 v)
    (h : DataW.trod enc Tryd.prog W b sp held fuel 43 v.cells.toList = some x) : ∃ r : Sg, v = .agg r.cells.toArray ∧ r.ok := by
  unfold Value.okWide at hv
  rw [Tryd.underlying43] at hv
  obtain ⟨cs, rfl, hsz, _⟩ := hv
  obtain ⟨r, h1, h2⟩ := sign_of h
  refine ⟨r, ?_, h2⟩
  congr 1
  apply Array.ext'
  exact h1
theorem cells_some {w : World} {base n : Nat} {x : Addr} {cs : List Value} (h : w.cells? base x n = some cs) : cs.length = n ∧ ∀ j v, cs[j]? = some v → w.cell? (x.add j) = some v := by
  unfold World.cells? at h
  split at h
  · have hl := Lib.mapM_length h
    refine ⟨by simpa using hl, fun j v hv => ?_⟩
    have hj : j < n := by
      have := (List.getElem?_eq_some_iff.1 hv).1
      have : cs.length = n := by simpa using hl
      omega
    obtain ⟨y, hy, hf⟩ := Lib.mapM_at h j j (by simp [hj])
    rw [hv] at hy
    exact hf.trans hy.symm
  · cases h
theorem flatS_get (R : Nat → Sg) (hR : ∀ i, (R i).cells.length = 17) : ∀ (n j : Nat), j < n * 17 → (flatS ((List.range n).map R))[j]? = (R (j / 17)).cells[j % 17]? := by
  intro n
  induction n with
  | zero => intro j hj; omega
  | succ n ih =>
    intro j hj
    have hl : (flatS ((List.range n).map R)).length = n * 17 := by
      clear ih hj
      induction n with
      | zero => rfl
      | succ n ih => rw [List.range_succ, List.map_append, flatS_append, List.length_append, ih]; simp [flatS, hR]; omega
    rw [List.range_succ, List.map_append, flatS_append]
    by_cases h : j < n * 17
    · rw [List.getElem?_append_left (by omega), ih j h]
    · rw [List.getElem?_append_right (by omega), hl]
      have e1 : j / 17 = n := by omega
      have e2 : j % 17 = j - n * 17 := by omega
      rw [e1, e2]
      simp [flatS]
set_option maxRecDepth 100000 in
theorem signs_of {H : Type} {enc : TypeId × Value → H} {W : World} {b : Nat} {sp : Nat → Bool} {held : Bool} {fuel : Nat} {l : List Value} {x : DataW H × List MemPlace}
    (h : DataW.trod enc Tryd.prog W b sp held fuel 22 l = some x) : ∃ (a : Option Addr) (cap : Nat) (rs : List Sg), l = [.slice a rs.length cap] ∧ rs.length ≤ cap ∧ cap ≤ maxLen ∧ SigsAt W a rs := by
  have hct : Tryd.prog.cellsOf 43 = 17 := by kernel_rfl
  rcases Deep.open_slice Tryd.underlying22 h with ⟨rfl, _⟩ | ⟨a, len, cap, m, n, D, Pl, rfl, hb, hlc, hcm, hm, _, hel⟩
  · exact ⟨none, 0, [], rfl, by simp, by simp, SigsAt.none⟩
  · rw [hct] at hel
    have hml : len ≤ m := by rw [hm]; split <;> omega
    have key : ∀ i, i < len → ∃ r : Sg, W.cells? b (a.add (i * 17)) 17 = some r.cells ∧ r.ok := fun i hi => by
      obtain ⟨cs, h1, h2⟩ := hel i (by omega)
      obtain ⟨r, rfl, hr⟩ := sign_of h2
      exact ⟨r, h1, hr⟩
    obtain ⟨R0, hR0⟩ := Deep.choose_lt key
    obtain ⟨R, hRe⟩ : ∃ R : Nat → Sg, R = fun i => if i < len then R0 i else ⟨0, List.replicate 16 0⟩ := ⟨_, rfl⟩
    have hR : ∀ i, i < len → W.cells? b (a.add (i * 17)) 17 = some (R i).cells ∧ (R i).ok := fun i hi => by
      rw [hRe]; simp only [hi, if_true]; exact hR0 i hi
    have hRl : ∀ i, (R i).cells.length = 17 := fun i => by
      by_cases hi : i < len
      · exact (hR i hi).2.length
      · rw [hRe]; simp [hi, Sg.cells, v8]
    refine ⟨some a, cap, (List.range len).map R, by simp, by simpa using hlc, hcm, by simp; omega, ?_, ?_⟩
    · intro r hr
      obtain ⟨i, hi, rfl⟩ := List.mem_map.1 hr
      exact (hR i (List.mem_range.1 hi)).2
    · by_cases h0 : len = 0
      · left; simp [h0]
      · right
        obtain ⟨bb, off, spot⟩ := a
        have hc := (cells_some (hR 0 (by omega)).1).2 0 (.int .i64 (R 0).n) rfl
        have hspot : spot = none := by simpa [Addr.add] using World.cell?_spot hc
        subst hspot
        refine ⟨bb, off, rfl, ?_, fun j v hv => ?_⟩
        · have := World.block_lt_of_cell? W _ hc; simpa [Addr.add] using this
        · have hj : j < len * 17 := by
            have := (List.getElem?_eq_some_iff.1 hv).1
            rw [flatS_length] at this
            · simpa using this
            · intro r hr
              obtain ⟨i, hi, rfl⟩ := List.mem_map.1 hr
              exact (hR i (List.mem_range.1 hi)).2
          rw [flatS_get R hRl len j hj] at hv
          have := (cells_some (hR (j / 17) (by omega)).1).2 _ _ hv
          rw [Addr.add_mid, Addr.add_mid] at this
          rw [← this]
          congr 2
          omega
end Go.Proofs.YtbfhpgneaklgoaaDoor
