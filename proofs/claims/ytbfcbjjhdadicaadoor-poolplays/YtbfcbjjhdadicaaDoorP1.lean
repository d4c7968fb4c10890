/- requests, rows of them, batches by value -/
import Derived.Test.YtbfcbjjhdadicaaDoorBucket
import Derived.Test.YtbfcbjjhdadicaaDoorP0
import Derived.Test.YtbfcbjjhdadicaaDoorHeld
import Derived.Test.YtbfcbjjhdadicaaDoorFork
import Derived.Test.YtbfcbjjhdadicaaDoorFrame
import Derived.OpenShut
import Derived.Deep.Slices
namespace Go.Proofs.YtbfcbjjhdadicaaDoor
open Go.ChangeShapes Go.WideShapes Go.ChangeAt Go.RowKit
open Sha Tal
def reqL (c n : Int) (s : ByteArray) (t : List Int) : List Value := .int .i64 c :: .int .i64 n :: .string s :: v8 t
theorem req_cells (w : World) (c n : Int) (s : ByteArray) (t : List Int) : (w.alloc (.cells (reqL c n s t).toArray 35)).rangeAt w.heap.size 0 (reqL c n s t) := by
  have := range_new w (reqL c n s t).toArray 35
  simpa using this
theorem reqL_0 {w : World} {b : Nat} {c n : Int} {s : ByteArray} {t : List Int} (h : w.rangeAt b 0 (reqL c n s t)) : w.cell? ⟨b, 0, none⟩ = some (.int .i64 c) ∧ w.cell? ⟨b, 1, none⟩ = some (.int .i64 n) ∧ w.cell? ⟨b, 2, none⟩ = some (.string s) :=
  ⟨h 0 _ rfl, h 1 _ rfl, h 2 _ rfl⟩
theorem reqL_one (c n : Int) (s : ByteArray) (t : List Int) : ∀ v ∈ reqL c n s t, v.oneCell' = true := by
  intro v hv
  simp only [reqL, List.mem_cons] at hv
  rcases hv with rfl | rfl | rfl | hv
  · rfl
  · rfl
  · rfl
  · exact v8_one t v hv
theorem wf64 {z : Int} (h : (Lit.int .i64 z).wf = true) : -9223372036854775808 ≤ z ∧ z ≤ 9223372036854775807 := by
  simp only [Lit.wf, Bool.and_eq_true, decide_eq_true_eq] at h
  exact h
theorem some_at {α : Type} {xs : List α} {n i : Nat} (hl : xs.length = n) (hi : i < n) : ∃ y, xs[i]? = some y := ⟨xs[i]'(by omega), List.getElem?_eq_getElem (by omega)⟩
theorem drop_one {α : Type} {l : List α} {o : Nat} {v : α} (h : (l.drop o).take 1 = [v]) : l[o]? = some v := by
  have := congrArg (·[0]?) h
  simpa [List.getElem?_take, List.getElem?_drop] using this
section
variable {H : Type} {enc : TypeId × Value → H} {W : World} {b : Nat} {sp : Nat → Bool} {held : Bool} {m : Nat}
theorem int_at {l : List Value} {o : Nat} {y : DataW H × List MemPlace} (h : DataW.trod enc Tryd.prog W b sp held m 3 ((l.drop o).take 1) = some y) : ∃ z, l[o]? = some (.int .i64 z) ∧ -9223372036854775808 ≤ z ∧ z ≤ 9223372036854775807 := by
  obtain ⟨z, hc, rfl, hw⟩ := DataW.trod_int Tryd.underlying3 h
  exact ⟨z, drop_one hc, wf64 hw⟩
theorem str_at {l : List Value} {o : Nat} {y : DataW H × List MemPlace} (h : DataW.trod enc Tryd.prog W b sp held m 9 ((l.drop o).take 1) = some y) : ∃ s, l[o]? = some (.string s) ∧ s.size ≤ maxLen := by
  obtain ⟨z, hc, rfl, hw⟩ := DataW.trod_string Tryd.underlying9 h
  exact ⟨z, drop_one hc, hw⟩
set_option maxRecDepth 100000 in
theorem tag_at {l : List Value} {y : DataW H × List MemPlace} (h : DataW.trod enc Tryd.prog W b sp held m 33 l = some y) : ∃ zs : List Int, l = v8 zs ∧ zs.length = 16 ∧ ∀ z ∈ zs, 0 ≤ z ∧ z < 256 := by
  have hct : Tryd.prog.cellsOf 33 = 16 := by kernel_rfl
  have hce : Tryd.prog.cellsOf 5 = 1 := by kernel_rfl
  cases m with
  | zero => simp [DataW.trod] at h
  | succ m =>
    simp only [DataW.trod, Tryd.underlying33, hce, hct, Nat.mul_one] at h
    split at h
    · rename_i hsz
      obtain ⟨xs, hm, hx⟩ := Option.map_eq_some_iff.1 h
      have key : ∀ i, i < 16 → ∃ z, l[i]? = some (.int .u8 z) ∧ 0 ≤ z ∧ z < 256 := fun i hi => by
        obtain ⟨y, hy, hf⟩ := Lib.mapM_at hm i i (by simp [hi])
        obtain ⟨z, hc, rfl, hw⟩ := DataW.trod_int Tryd.underlying5 hf
        refine ⟨z, drop_one hc, ?_⟩
        simp [Lit.wf, IntKind.min, IntKind.max, IntKind.signed, IntKind.bits] at hw
        omega
      refine ⟨l.map (fun v => match v with | .int _ z => z | _ => 0), ?_, by simpa using hsz, ?_⟩
      · apply List.ext_getElem?
        intro i
        by_cases hi : i < 16
        · obtain ⟨z, hz, _⟩ := key i hi
          simp only [v8, List.map_map, List.getElem?_map, hz, Option.map_some]
          rfl
        · rw [List.getElem?_eq_none (by omega), List.getElem?_eq_none (by simp [v8]; omega)]
      · intro z hz
        obtain ⟨u, hu, rfl⟩ := List.mem_map.1 hz
        obtain ⟨i, hi, rfl⟩ := List.mem_iff_getElem.1 hu
        obtain ⟨z, hz, hb⟩ := key i (by simpa [hsz] using hi)
        rw [List.getElem?_eq_getElem hi] at hz
        rw [Option.some.inj hz]
        exact hb
    · cases h
end
structure Rq where
  c : Int
  n : Int
  s : ByteArray
  t : List Int
deriving Inhabited
structure Rq.ok (r : Rq) : Prop where
  tl : r.t.length = 16
  tb : ∀ z ∈ r.t, 0 ≤ z ∧ z < 256
  sl : r.s.size ≤ maxLen
  cl : -9223372036854775808 ≤ r.c
  ch : r.c ≤ 9223372036854775807
  nl : -9223372036854775808 ≤ r.n
  nh : r.n ≤ 9223372036854775807
def Rq.cells (r : Rq) : List Value := reqL r.c r.n r.s r.t
theorem Rq.ok.length {r : Rq} (h : r.ok) : r.cells.length = 19 := by
  have := h.tl
  simp [Rq.cells, reqL, v8]
  omega
theorem Rq.one (r : Rq) : ∀ v ∈ r.cells, v.oneCell' = true := reqL_one _ _ _ _
def flatR (rs : List Rq) : List Value := rs.flatMap Rq.cells
theorem flatR_length {rs : List Rq} (h : ∀ r ∈ rs, r.ok) : (flatR rs).length = rs.length * 19 := by
  induction rs with
  | nil => rfl
  | cons r rs ih =>
    have h1 := (h r (by simp)).length
    have h2 := ih (fun x hx => h x (by simp [hx]))
    simp only [flatR, List.flatMap_cons, List.length_append, List.length_cons] at *
    omega
theorem flatR_append (a b : List Rq) : flatR (a ++ b) = flatR a ++ flatR b := by simp [flatR]
theorem flatR_one (rs : List Rq) : ∀ v ∈ flatR rs, v.oneCell' = true := fun v hv => by
  obtain ⟨r, _, h⟩ := List.mem_flatMap.1 hv
  exact r.one v h
/-- a slice of requests -/
def ReqsAt (w : World) (a : Option Addr) (rs : List Rq) : Prop :=
  rs.length ≤ maxLen ∧ (∀ r ∈ rs, r.ok) ∧ (rs = [] ∨ ∃ b off, a = some ⟨b, off, none⟩ ∧ b < w.heap.size ∧ w.rangeAt b off (flatR rs))
theorem ReqsAt.below {w w' : World} {a : Option Addr} {rs : List Rq} (h : ReqsAt w a rs) (hb : Below w.heap.size w w') : ReqsAt w' a rs := by
  refine ⟨h.1, h.2.1, ?_⟩
  rcases h.2.2 with h | ⟨b, off, rfl, h1, h2⟩
  · exact Or.inl h
  · exact Or.inr ⟨b, off, rfl, Nat.lt_of_lt_of_le h1 hb.size, range_below h2 hb h1⟩
theorem ReqsAt.belowN {w w' : World} {a : Option Addr} {rs : List Rq} {n : Nat} (h : ReqsAt w a rs) (hb : Below n w w') (hn : ∀ x, a = some x → x.block < n) : ReqsAt w' a rs := by
  refine ⟨h.1, h.2.1, ?_⟩
  rcases h.2.2 with h | ⟨b, off, rfl, h1, h2⟩
  · exact Or.inl h
  · exact Or.inr ⟨b, off, rfl, Nat.lt_of_lt_of_le h1 hb.size, range_below h2 hb (hn _ rfl)⟩
theorem ReqsAt.drew {w : World} {a : Option Addr} {rs : List Rq} (h : ReqsAt w a rs) : ReqsAt w.drew a rs := by
  refine ⟨h.1, h.2.1, ?_⟩
  rcases h.2.2 with h | ⟨b, off, rfl, h1, h2⟩
  · exact Or.inl h
  · exact Or.inr ⟨b, off, rfl, h1, (World.rangeAt_drew _ _ _ _).2 h2⟩
theorem flatR_split (rs : List Rq) (i : Nat) (hi : i < rs.length) : flatR rs = flatR (rs.take i) ++ rs[i].cells ++ flatR (rs.drop (i + 1)) := by
  have e : rs.take i ++ (rs[i] :: rs.drop (i + 1)) = rs := by rw [← List.drop_eq_getElem_cons hi, List.take_append_drop]
  have e2 := congrArg flatR e
  rw [← e2]
  simp only [flatR, List.flatMap_append, List.flatMap_cons, List.append_assoc]
theorem ReqsAt.elem {w : World} {a : Option Addr} {rs : List Rq} (h : ReqsAt w a rs) (i : Nat) (hi : i < rs.length) : ∃ b off, a = some ⟨b, off, none⟩ ∧ b < w.heap.size ∧ w.rangeAt b (off + i * 19) rs[i].cells := by
  rcases h.2.2 with h0 | ⟨b, off, rfl, h1, h2⟩
  · subst h0; simp at hi
  · refine ⟨b, off, rfl, h1, ?_⟩
    rw [flatR_split rs i hi] at h2
    have h3 := range_part h2
    rwa [flatR_length (fun r hr => h.2.1 r (List.mem_of_mem_take hr)), List.length_take, Nat.min_eq_left (by omega)] at h3
theorem ReqsAt.none {w : World} {a : Option Addr} : ReqsAt w a [] := ⟨by simp, by simp, .inl rfl⟩
set_option maxRecDepth 100000 in
theorem req_of {H : Type} {enc : TypeId × Value → H} {W : World} {b : Nat} {sp : Nat → Bool} {held : Bool} {fuel : Nat} {l : List Value} {x : DataW H × List MemPlace}
    (h : DataW.trod enc Tryd.prog W b sp held fuel 35 l = some x) : ∃ r : Rq, l = r.cells ∧ r.ok := by
  have hct : Tryd.prog.cellsOf 35 = 19 := by kernel_rfl
  have hci : Tryd.prog.cellsOf 3 = 1 := by kernel_rfl
  have hcs : Tryd.prog.cellsOf 9 = 1 := by kernel_rfl
  have hcg : Tryd.prog.cellsOf 33 = 16 := by kernel_rfl
  obtain ⟨xs, m, _, rfl, hcl, hl, hf⟩ := DataW.trod_struct Tryd.underlying35 h
  rw [hct] at hcl
  have hl : xs.length = 4 := hl
  have h0 : DataW.trod enc Tryd.prog W b sp held m 3 ((l.drop 0).take (Tryd.prog.cellsOf 3)) = xs[0]? := hf 0 _ rfl
  have h1 : DataW.trod enc Tryd.prog W b sp held m 3 ((l.drop 1).take (Tryd.prog.cellsOf 3)) = xs[1]? := hf 1 _ rfl
  have h2 : DataW.trod enc Tryd.prog W b sp held m 9 ((l.drop 2).take (Tryd.prog.cellsOf 9)) = xs[2]? := hf 2 _ rfl
  have h3 : DataW.trod enc Tryd.prog W b sp held m 33 ((l.drop 3).take (Tryd.prog.cellsOf 33)) = xs[3]? := hf 3 _ rfl
  rw [hci] at h0 h1
  rw [hcs] at h2
  rw [hcg] at h3
  obtain ⟨y0, e0⟩ := some_at hl (show 0 < 4 by omega)
  obtain ⟨y1, e1⟩ := some_at hl (show 1 < 4 by omega)
  obtain ⟨y2, e2⟩ := some_at hl (show 2 < 4 by omega)
  obtain ⟨y3, e3⟩ := some_at hl (show 3 < 4 by omega)
  obtain ⟨c, g0, bc⟩ := int_at (h0.trans e0)
  obtain ⟨n, g1, bn⟩ := int_at (h1.trans e1)
  obtain ⟨s, g2, hs⟩ := str_at (h2.trans e2)
  obtain ⟨t, g3, ht, hb⟩ := tag_at (h3.trans e3)
  refine ⟨⟨c, n, s, t⟩, ?_, ⟨ht, hb, hs, bc.1, bc.2, bn.1, bn.2⟩⟩
  show l = reqL c n s t
  match l, hcl with
  | a0 :: a1 :: a2 :: l, hcl =>
    simp at g0 g1 g2 hcl
    have : List.take 16 l = v8 t := g3
    rw [List.take_of_length_le (by omega)] at this
    subst g0 g1 g2 this
    rfl
theorem cells_some {w : World} {base n : Nat} {x : Addr} {cs : List Value} (h : w.cells? base x n = some cs) : cs.length = n ∧ ∀ j v, cs[j]? = some v → w.cell? (x.add j) = some v := by
  unfold World.cells? at h
  split at h
  · have hl := Lib.mapM_length h
    refine ⟨by simpa using hl, fun j v hv => ?_⟩
    have hj : j < n := by
      have := (List.getElem?_eq_some_iff.1 hv).1
      have : cs.length = n := by simpa using hl
      omega
    obtain ⟨y, hy, hf⟩ := Lib.mapM_at h j j (by simp [hj])
    rw [hv] at hy
    exact hf.trans hy.symm
  · cases h
theorem flatR_get (R : Nat → Rq) (hR : ∀ i, (R i).cells.length = 19) : ∀ (n j : Nat), j < n * 19 → (flatR ((List.range n).map R))[j]? = (R (j / 19)).cells[j % 19]? := by
  intro n
  induction n with
  | zero => intro j hj; omega
  | succ n ih =>
    intro j hj
    have hl : (flatR ((List.range n).map R)).length = n * 19 := by
      clear ih hj
      induction n with
      | zero => rfl
      | succ n ih => rw [List.range_succ, List.map_append, flatR_append, List.length_append, ih]; simp [flatR, hR]; omega
    rw [List.range_succ, List.map_append, flatR_append]
    by_cases h : j < n * 19
    · rw [List.getElem?_append_left (by omega), ih j h]
    · rw [List.getElem?_append_right (by omega), hl]
      have e1 : j / 19 = n := by omega
      have e2 : j % 19 = j - n * 19 := by omega
      rw [e1, e2]
      simp [flatR]
set_option maxRecDepth 100000 in
theorem reqs_of {H : Type} {enc : TypeId × Value → H} {W : World} {b : Nat} {sp : Nat → Bool} {held : Bool} {fuel : Nat} {l : List Value} {x : DataW H × List MemPlace}
    (h : DataW.trod enc Tryd.prog W b sp held fuel 43 l = some x) : ∃ (a : Option Addr) (cap : Nat) (rs : List Rq), l = [.slice a rs.length cap] ∧ rs.length ≤ cap ∧ cap ≤ maxLen ∧ ReqsAt W a rs := by
  have hct : Tryd.prog.cellsOf 35 = 19 := by kernel_rfl
  rcases Deep.open_slice Tryd.underlying43 h with ⟨rfl, _⟩ | ⟨a, len, cap, m, n, D, Pl, rfl, hb, hlc, hcm, hm, _, hel⟩
  · exact ⟨none, 0, [], rfl, by simp, by simp, ReqsAt.none⟩
  · rw [hct] at hel
    have hml : len ≤ m := by rw [hm]; split <;> omega
    have key : ∀ i, i < len → ∃ r : Rq, W.cells? b (a.add (i * 19)) 19 = some r.cells ∧ r.ok := fun i hi => by
      obtain ⟨cs, h1, h2⟩ := hel i (by omega)
      obtain ⟨r, rfl, hr⟩ := req_of h2
      exact ⟨r, h1, hr⟩
    obtain ⟨R0, hR0⟩ := Deep.choose_lt key
    obtain ⟨R, hRe⟩ : ∃ R : Nat → Rq, R = fun i => if i < len then R0 i else ⟨0, 0, ⟨#[]⟩, List.replicate 16 0⟩ := ⟨_, rfl⟩
    have hR : ∀ i, i < len → W.cells? b (a.add (i * 19)) 19 = some (R i).cells ∧ (R i).ok := fun i hi => by
      rw [hRe]; simp only [hi, if_true]; exact hR0 i hi
    have hRl : ∀ i, (R i).cells.length = 19 := fun i => by
      by_cases hi : i < len
      · exact (hR i hi).2.length
      · rw [hRe]; simp [hi, Rq.cells, reqL, v8]
    refine ⟨some a, cap, (List.range len).map R, by simp, by simpa using hlc, hcm, by simp; omega, ?_, ?_⟩
    · intro r hr
      obtain ⟨i, hi, rfl⟩ := List.mem_map.1 hr
      exact (hR i (List.mem_range.1 hi)).2
    · by_cases h0 : len = 0
      · left; simp [h0]
      · right
        obtain ⟨bb, off, spot⟩ := a
        have hc := (cells_some (hR 0 (by omega)).1).2 0 (.int .i64 (R 0).c) rfl
        have hspot : spot = none := by simpa [Addr.add] using World.cell?_spot hc
        subst hspot
        refine ⟨bb, off, rfl, ?_, fun j v hv => ?_⟩
        · have := World.block_lt_of_cell? W _ hc; simpa [Addr.add] using this
        · have hj : j < len * 19 := by
            have := (List.getElem?_eq_some_iff.1 hv).1
            rw [flatR_length] at this
            · simpa using this
            · intro r hr
              obtain ⟨i, hi, rfl⟩ := List.mem_map.1 hr
              exact (hR i (List.mem_range.1 hi)).2
          rw [flatR_get R hRl len j hj] at hv
          have := (cells_some (hR (j / 19) (by omega)).1).2 _ _ hv
          rw [Addr.add_mid, Addr.add_mid] at this
          rw [← this]
          congr 2
          omega
def batV (b : Bool) (a : Option Addr) (n cap : Nat) : Value := .agg #[.bool b, .slice a n cap]
set_option maxRecDepth 100000 in
theorem open_batch {H : Type} {enc : TypeId × Value → H} {W : World} {base b : Nat} {sp : Nat → Bool} {held : Bool} {fuel : Nat} {v : Value} {x : DataW H × List MemPlace} (hv : Value.okWide Tryd.prog W .any base 54 v)
    (h : DataW.trod enc Tryd.prog W b sp held fuel 54 v.cells.toList = some x) : ∃ (q : Bool) (a : Option Addr) (cap : Nat) (rs : List Rq), v = batV q a rs.length cap ∧ rs.length ≤ cap ∧ cap ≤ maxLen ∧ ReqsAt W a rs := by
  unfold Value.okWide at hv
  rw [Tryd.underlying54] at hv
  obtain ⟨cs, rfl, hsz, _⟩ := hv
  have hct : Tryd.prog.cellsOf 54 = 2 := by kernel_rfl
  have hci : Tryd.prog.cellsOf 4 = 1 := by kernel_rfl
  have hcs : Tryd.prog.cellsOf 43 = 1 := by kernel_rfl
  rw [hct] at hsz
  obtain ⟨xs, m, _, rfl, _, hl, hf⟩ := DataW.trod_struct Tryd.underlying54 h
  have hl : xs.length = 2 := hl
  simp only [Value.cells] at hf
  have h0 : DataW.trod enc Tryd.prog W b sp held m 4 ((cs.toList.drop 0).take (Tryd.prog.cellsOf 4)) = xs[0]? := hf 0 _ rfl
  have h1 : DataW.trod enc Tryd.prog W b sp held m 43 ((cs.toList.drop 1).take (Tryd.prog.cellsOf 43)) = xs[1]? := hf 1 _ rfl
  rw [hci] at h0
  rw [hcs] at h1
  obtain ⟨y0, e0⟩ := some_at hl (show 0 < 2 by omega)
  obtain ⟨y1, e1⟩ := some_at hl (show 1 < 2 by omega)
  obtain ⟨q, g0, _⟩ := DataW.trod_bool Tryd.underlying4 (h0.trans e0)
  obtain ⟨a, cap, rs, g1, k1, k2, k3⟩ := reqs_of (h1.trans e1)
  refine ⟨q, a, cap, rs, ?_, k1, k2, k3⟩
  unfold batV
  congr 1
  apply Array.ext'
  have hcl : cs.toList.length = 2 := by simpa using hsz
  have g0 := drop_one g0
  have g1 := drop_one g1
  generalize cs.toList = l at *
  match l, hcl with
  | [a0, a1], _ =>
    simp at g0 g1
    subst g0 g1
    rfl
end Go.Proofs.YtbfcbjjhdadicaaDoor
