/- rows of whatever; acts; raddlelaw15.Light: are acts not more than are looked at?; tapes that no call made; the walk of TapeNobody -/
import Derived.Test.YtfkchnjbbbhmjaaXF3
import Derived.ProofKit
import Derived.OpenShut
import Derived.ShutString
import Derived.ChangeOld
import Derived.Deep.Slices
import Derived.Lib.LaidTab
namespace Go.Proofs.Ytfkchnjbbbhmjaa
open Go.ChangeShapes Go.WideShapes Go.ChangeAt Go.RowKit
theorem own : ownKnob Try.prog.godebug = none := by kernel_rfl
theorem laidOut : laidOutB Try.prog = true := by kernel_rfl
theorem wf64 {z : Int} (h : (Lit.int .i64 z).wf = true) : -9223372036854775808 ≤ z ∧ z ≤ 9223372036854775807 := by
  simp only [Lit.wf, Bool.and_eq_true, decide_eq_true_eq] at h
  exact h
theorem some_at {α : Type} {xs : List α} {n i : Nat} (hl : xs.length = n) (hi : i < n) : ∃ y, xs[i]? = some y := ⟨xs[i]'(by omega), List.getElem?_eq_getElem (by omega)⟩
theorem drop_one {α : Type} {l : List α} {o : Nat} {v : α} (h : (l.drop o).take 1 = [v]) : l[o]? = some v := by
  have := congrArg (·[0]?) h
  simpa [List.getElem?_take, List.getElem?_drop] using this
theorem cells_some {w : World} {base n : Nat} {x : Addr} {cs : List Value} (h : w.cells? base x n = some cs) : cs.length = n ∧ ∀ j v, cs[j]? = some v → w.cell? (x.add j) = some v := by
  unfold World.cells? at h
  split at h
  · have hl := Lib.mapM_length h
    refine ⟨by simpa using hl, fun j v hv => ?_⟩
    have hj : j < n := by
      have := (List.getElem?_eq_some_iff.1 hv).1
      have : cs.length = n := by simpa using hl
      omega
    obtain ⟨y, hy, hf⟩ := Lib.mapM_at h j j (by simp [hj])
    rw [hv] at hy
    exact hf.trans hy.symm
  · cases h
section
variable {H : Type} {enc : TypeId × Value → H} {W : World} {b : Nat} {sp : Nat → Bool} {held : Bool} {m : Nat}
theorem int_at {l : List Value} {o : Nat} {y : DataW H × List MemPlace} (h : DataW.trod enc Try.prog W b sp held m 3 ((l.drop o).take 1) = some y) : ∃ z, l[o]? = some (.int .i64 z) ∧ -9223372036854775808 ≤ z ∧ z ≤ 9223372036854775807 := by
  obtain ⟨z, hc, rfl, hw⟩ := DataW.trod_int Try.underlying3 h
  exact ⟨z, drop_one hc, wf64 hw⟩
end
/-- a slice whose elements' cells are f's -/
def RowOf {α : Type} (f : α → List Value) (w : World) (a : Option Addr) (ys : List α) : Prop := ys = [] ∨ ∃ b off, a = some ⟨b, off, none⟩ ∧ b < w.heap.size ∧ w.rangeAt b off (ys.flatMap f)
theorem RowOf.below {α : Type} {f : α → List Value} {w w' : World} {a : Option Addr} {ys : List α} (h : RowOf f w a ys) (hb : Below w.heap.size w w') : RowOf f w' a ys := by
  rcases h with h | ⟨b, off, rfl, h1, h2⟩
  · exact .inl h
  · exact .inr ⟨b, off, rfl, Nat.lt_of_lt_of_le h1 hb.size, range_below h2 hb h1⟩
theorem flat_len_k {α : Type} {f : α → List Value} {k : Nat} {ys : List α} (h : ∀ y ∈ ys, (f y).length = k) : (ys.flatMap f).length = ys.length * k := by
  induction ys with
  | nil => simp
  | cons y ys ih =>
    have h1 := h y (by simp)
    have h2 := ih (fun x hx => h x (by simp [hx]))
    simp only [List.flatMap_cons, List.length_append, List.length_cons, Nat.add_mul, Nat.one_mul]
    omega
theorem RowOf.elem {α : Type} {f : α → List Value} {k : Nat} {w : World} {a : Option Addr} {ys : List α} (h : RowOf f w a ys) (hk : ∀ y ∈ ys, (f y).length = k) (i : Nat) (hi : i < ys.length) : ∃ b off, a = some ⟨b, off, none⟩ ∧ b < w.heap.size ∧ w.rangeAt b (off + i * k) (f ys[i]) := by
  rcases h with h0 | ⟨b, off, rfl, h1, h2⟩
  · subst h0; simp at hi
  · refine ⟨b, off, rfl, h1, ?_⟩
    have e : ys.take i ++ (ys[i] :: ys.drop (i + 1)) = ys := by rw [← List.drop_eq_getElem_cons hi, List.take_append_drop]
    have e2 : ys.flatMap f = (ys.take i).flatMap f ++ f ys[i] ++ (ys.drop (i + 1)).flatMap f := by
      have := congrArg (List.flatMap f) e
      rw [← this]
      simp only [List.flatMap_append, List.flatMap_cons, List.append_assoc]
    rw [e2] at h2
    have h3 := range_part h2
    rwa [flat_len_k (fun y hy => hk y (List.mem_of_mem_take hy)), List.length_take, Nat.min_eq_left (by omega)] at h3
theorem flat_get {α : Type} {f : α → List Value} {k : Nat} (hk : 0 < k) (R : Nat → α) : ∀ (n : Nat), (∀ i, i < n → (f (R i)).length = k) → ∀ j, j < n * k → (((List.range n).map R).flatMap f)[j]? = (f (R (j / k)))[j % k]? := by
  intro n
  induction n with
  | zero => intro _ j hj; omega
  | succ n ih =>
    intro hR j hj
    have hl : (((List.range n).map R).flatMap f).length = n * k := by
      have := flat_len_k (f := f) (k := k) (ys := (List.range n).map R) (fun y hy => by
        obtain ⟨i, hi, rfl⟩ := List.mem_map.1 hy
        exact hR i (by have := List.mem_range.1 hi; omega))
      simpa using this
    rw [List.range_succ, List.map_append, List.flatMap_append]
    by_cases h : j < n * k
    · rw [List.getElem?_append_left (by omega), ih (fun i hi => hR i (by omega)) j h]
    · rw [List.getElem?_append_right (by omega), hl]
      have e0 : j = (j - n * k) + k * n := by rw [Nat.mul_comm k n]; omega
      have hlt : j - n * k < k := by rw [Nat.add_mul, Nat.one_mul] at hj; omega
      have e1 : j / k = n := by rw [e0, Nat.add_mul_div_left _ _ hk, Nat.div_eq_of_lt hlt]; omega
      have e2 : j % k = j - n * k := by
        have := congrArg (· % k) e0
        simp only [Nat.add_mul_mod_self_left] at this
        rw [this, Nat.mod_eq_of_lt hlt]
      rw [e1, e2]
      simp
set_option maxRecDepth 100000 in
theorem rows_of {α : Type} [Inhabited α] (f : α → List Value) (ok : α → Prop) (k : Nat) (hk : 0 < k) (tl te : TypeId) (hu : Try.prog.underlying tl = some (.slice te)) (hct : Try.prog.cellsOf te = k) (hf : ∀ y, ok y → (f y).length = k)
    {H : Type} {enc : TypeId × Value → H} {W : World} {b : Nat} {sp : Nat → Bool} {held : Bool} {fuel : Nat} {l : List Value} {x : DataW H × List MemPlace}
    (hel : ∀ (m : Nat) (l : List Value) (z : DataW H × List MemPlace), DataW.trod enc Try.prog W b sp held m te l = some z → ∃ y, l = f y ∧ ok y)
    (h : DataW.trod enc Try.prog W b sp held fuel tl l = some x) : ∃ (a : Option Addr) (cap : Nat) (ys : List α), l = [.slice a ys.length cap] ∧ ys.length ≤ cap ∧ cap ≤ maxLen ∧ (∀ y ∈ ys, ok y) ∧ RowOf f W a ys := by
  rcases Deep.open_slice hu h with ⟨rfl, _⟩ | ⟨a, len, cap, m, n, D, Pl, rfl, hb, hlc, hcm, hm, _, hel2⟩
  · exact ⟨none, 0, [], rfl, by simp, by simp, by simp, .inl rfl⟩
  · rw [hct] at hel2
    have hml : len ≤ m := by rw [hm]; split <;> omega
    have key : ∀ i, i < len → ∃ y : α, W.cells? b (a.add (i * k)) k = some (f y) ∧ ok y := fun i hi => by
      obtain ⟨cs, h1, h2⟩ := hel2 i (by omega)
      obtain ⟨y, rfl, hy⟩ := hel _ _ _ h2
      exact ⟨y, h1, hy⟩
    obtain ⟨R, hR⟩ := Deep.choose_lt key
    refine ⟨some a, cap, (List.range len).map R, by simp, by simpa using hlc, hcm, ?_, ?_⟩
    · intro y hy
      obtain ⟨i, hi, rfl⟩ := List.mem_map.1 hy
      exact (hR i (List.mem_range.1 hi)).2
    · by_cases h0 : len = 0
      · left; simp [h0]
      · right
        obtain ⟨bb, off, spot⟩ := a
        have hlen0 := hf _ (hR 0 (by omega)).2
        have hc := (cells_some (hR 0 (by omega)).1).2 0 ((f (R 0))[0]'(by omega)) (List.getElem?_eq_getElem _)
        have hspot : spot = none := by simpa [Addr.add] using World.cell?_spot hc
        subst hspot
        refine ⟨bb, off, rfl, ?_, fun j v hv => ?_⟩
        · have := World.block_lt_of_cell? W _ hc; simpa [Addr.add] using this
        · have hj : j < len * k := by
            have := (List.getElem?_eq_some_iff.1 hv).1
            rw [flat_len_k (k := k)] at this
            · simpa using this
            · intro y hy
              obtain ⟨i, hi, rfl⟩ := List.mem_map.1 hy
              exact hf _ (hR i (List.mem_range.1 hi)).2
          rw [flat_get hk R len (fun i hi => hf _ (hR i hi).2) j hj] at hv
          have hdm : j / k < len := (Nat.div_lt_iff_lt_mul hk).2 hj
          have := (cells_some (hR (j / k) hdm).1).2 _ _ hv
          rw [Addr.add_mid, Addr.add_mid] at this
          rw [← this]
          congr 2
          have := Nat.div_add_mod j k
          rw [Nat.mul_comm] at this
          omega
def I64 (z : Int) : Prop := -9223372036854775808 ≤ z ∧ z ≤ 9223372036854775807
set_option maxRecDepth 100000 in
theorem bytes_of {H : Type} {enc : TypeId × Value → H} {W : World} {b : Nat} {sp : Nat → Bool} {held : Bool} {fuel : Nat} {l : List Value} {x : DataW H × List MemPlace}
    (h : DataW.trod enc Try.prog W b sp held fuel 29 l = some x) : ∃ (a : Option Addr) (cap : Nat) (zs : List Int), l = [.slice a zs.length cap] ∧ zs.length ≤ cap ∧ cap ≤ maxLen ∧ RowAt W a zs := by
  obtain ⟨a, cap, zs, h1, h2, h3, h4, h5⟩ := rows_of (fun z : Int => [Value.int .u8 z]) (fun z => 0 ≤ z ∧ z < 256) 1 (by omega) 29 5 Try.underlying29 (by kernel_rfl) (fun _ _ => rfl) (fun m l z hz => by
    obtain ⟨c, hc, rfl, hw⟩ := DataW.trod_int Try.underlying5 hz
    refine ⟨c, by simpa using hc, ?_⟩
    simp [Lit.wf, IntKind.min, IntKind.max, IntKind.signed, IntKind.bits] at hw
    omega) h
  refine ⟨a, cap, zs, h1, h2, h3, by omega, h4, ?_⟩
  rcases h5 with h5 | ⟨b, off, rfl, h6, h7⟩
  · exact .inl h5
  · refine .inr ⟨b, off, rfl, h6, ?_⟩
    have e : ∀ ys : List Int, ys.flatMap (fun z : Int => [Value.int .u8 z]) = v8 ys := fun ys => by
      induction ys with
      | nil => rfl
      | cons z ys ih => rw [List.flatMap_cons, ih]; rfl
    rwa [e] at h7
/-- acts -/
structure Ac where
  kind : Int
  area : Int
  da : Option Addr
  dc : Nat
  zs : List Int
  n : Int
  keep : Int
deriving Inhabited
def Ac.cells (A : Ac) : List Value := [.int .i64 A.kind, .int .i64 A.area, .slice A.da A.zs.length A.dc, .int .i64 A.n, .int .i64 A.keep]
structure Ac.ok (W : World) (A : Ac) : Prop where
  r : RowAt W A.da A.zs
  rl : A.zs.length ≤ A.dc
  rm : A.dc ≤ maxLen
  n : I64 A.n
  keep : I64 A.keep
  area : I64 A.area
  kind : I64 A.kind
theorem Ac.one (A : Ac) : ∀ v ∈ A.cells, v.oneCell' = true := by
  intro v hv
  simp only [Ac.cells, List.mem_cons, List.not_mem_nil, or_false] at hv
  rcases hv with rfl | rfl | rfl | rfl | rfl
  all_goals rfl
set_option maxRecDepth 100000 in
theorem act_of {H : Type} {enc : TypeId × Value → H} {W : World} {b : Nat} {sp : Nat → Bool} {held : Bool} {fuel : Nat} {l : List Value} {x : DataW H × List MemPlace}
    (h : DataW.trod enc Try.prog W b sp held fuel 31 l = some x) : ∃ A : Ac, l = A.cells ∧ A.ok W := by
  have hct : Try.prog.cellsOf 31 = 5 := by kernel_rfl
  have c3 : Try.prog.cellsOf 3 = 1 := by kernel_rfl
  have cb : Try.prog.cellsOf 29 = 1 := by kernel_rfl
  obtain ⟨xs, m, _, rfl, hcl, hl, hf⟩ := DataW.trod_struct Try.underlying31 h
  rw [hct] at hcl
  have hl : xs.length = 5 := hl
  have h0 : DataW.trod enc Try.prog W b sp held m 3 ((l.drop 0).take (Try.prog.cellsOf 3)) = xs[0]? := hf 0 _ rfl
  have h1 : DataW.trod enc Try.prog W b sp held m 3 ((l.drop 1).take (Try.prog.cellsOf 3)) = xs[1]? := hf 1 _ rfl
  have h2 : DataW.trod enc Try.prog W b sp held m 29 ((l.drop 2).take (Try.prog.cellsOf 29)) = xs[2]? := hf 2 _ rfl
  have h3 : DataW.trod enc Try.prog W b sp held m 3 ((l.drop 3).take (Try.prog.cellsOf 3)) = xs[3]? := hf 3 _ rfl
  have h4 : DataW.trod enc Try.prog W b sp held m 3 ((l.drop 4).take (Try.prog.cellsOf 3)) = xs[4]? := hf 4 _ rfl
  rw [c3] at h0 h1 h3 h4
  rw [cb] at h2
  obtain ⟨y0, e0⟩ := some_at hl (show 0 < 5 by omega)
  obtain ⟨y1, e1⟩ := some_at hl (show 1 < 5 by omega)
  obtain ⟨y2, e2⟩ := some_at hl (show 2 < 5 by omega)
  obtain ⟨y3, e3⟩ := some_at hl (show 3 < 5 by omega)
  obtain ⟨y4, e4⟩ := some_at hl (show 4 < 5 by omega)
  obtain ⟨kd, g0, b0⟩ := int_at (h0.trans e0)
  obtain ⟨ar, g1, b1⟩ := int_at (h1.trans e1)
  obtain ⟨da, dc, zs, g2, k1, k2, k3⟩ := bytes_of (h2.trans e2)
  obtain ⟨n, g3, b3⟩ := int_at (h3.trans e3)
  obtain ⟨ke, g4, b4⟩ := int_at (h4.trans e4)
  refine ⟨⟨kd, ar, da, dc, zs, n, ke⟩, ?_, ⟨k3, k1, k2, b3, b4, b1, b0⟩⟩
  have g2 := drop_one g2
  match l, hcl with
  | [a0, a1, a2, a3, a4], _ =>
    simp at g0 g1 g2 g3 g4
    subst g0 g1 g2 g3 g4
    rfl
set_option maxRecDepth 100000 in
theorem open_act {H : Type} {enc : TypeId × Value → H} {W : World} {base b : Nat} {sp : Nat → Bool} {held : Bool} {fuel : Nat} {v : Value} {x : DataW H × List MemPlace} (hv : Value.okWide Try.prog W .any base 31 v)
    (h : DataW.trod enc Try.prog W b sp held fuel 31 v.cells.toList = some x) : ∃ A : Ac, v = .agg A.cells.toArray ∧ A.ok W := by
  unfold Value.okWide at hv
  rw [Try.underlying31] at hv
  obtain ⟨cs, rfl, hsz, _⟩ := hv
  obtain ⟨A, h1, h2⟩ := act_of h
  refine ⟨A, ?_, h2⟩
  simp only [Value.cells] at h1
  rw [← h1]
set_option maxRecDepth 100000 in
theorem acts_of {H : Type} {enc : TypeId × Value → H} {W : World} {b : Nat} {sp : Nat → Bool} {held : Bool} {fuel : Nat} {l : List Value} {x : DataW H × List MemPlace}
    (h : DataW.trod enc Try.prog W b sp held fuel 22 l = some x) : ∃ (a : Option Addr) (cap : Nat) (ys : List Ac), l = [.slice a ys.length cap] ∧ ys.length ≤ cap ∧ cap ≤ maxLen ∧ (∀ y ∈ ys, y.ok W) ∧ RowOf Ac.cells W a ys :=
  rows_of Ac.cells (Ac.ok W) 5 (by omega) 22 31 Try.underlying22 (by kernel_rfl) (fun _ _ => rfl) (fun m l z hz => act_of hz) h
set_option maxRecDepth 100000 in
theorem open_acts {H : Type} {enc : TypeId × Value → H} {W : World} {base b : Nat} {sp : Nat → Bool} {held : Bool} {fuel : Nat} {v : Value} {x : DataW H × List MemPlace} (hv : Value.okWide Try.prog W .any base 22 v)
    (h : DataW.trod enc Try.prog W b sp held fuel 22 v.cells.toList = some x) : ∃ (a : Option Addr) (cap : Nat) (ys : List Ac), v = .slice a ys.length cap ∧ ys.length ≤ cap ∧ cap ≤ maxLen ∧ (∀ y ∈ ys, y.ok W) ∧ RowOf Ac.cells W a ys := by
  obtain ⟨a0, len, cap, rfl⟩ := okWide_slice Try.underlying22 hv
  obtain ⟨a, cap', ys, h1, h2, h3, h4, h5⟩ := acts_of h
  simp [Value.cells] at h1
  obtain ⟨rfl, rfl, rfl⟩ := h1
  exact ⟨a0, cap, ys, rfl, h2, h3, h4, h5⟩
end Go.Proofs.Ytfkchnjbbbhmjaa
namespace Go.Proofs.Ytfkchnjbbbhmjaa
open Go.RowKit
def addTo (n m : Int) : Int := if n + m ≤ 20000 then n + m else 20001
set_option maxRecDepth 100000 in
set_option maxHeartbeats 400000 in
theorem addCap_any (n m : Int) (w : World) (h0 : 0 ≤ n) (h1 : n ≤ 20001) (h2 : 0 ≤ m) (h3 : m ≤ 9223372036854775807) :
    Calls Try.prog 33 #[.int .i64 n, .int .i64 m, .int .i64 20000] w fun e w' => e = .returned (.int .i64 (addTo n m)) ∧ w' = w := by
  by_cases c1 : 20000 < n
  · have HA : Hid (addTo n m = 20001) := by show _ = _; unfold addTo; rw [if_neg (by omega)]
    rw [HA.out]
    go_enter Try.func33, Try.ntmps33
    go_wp2
    go_ret
    exact ⟨rfl, rfl⟩
  · by_cases c2 : 20000 < m
    · have HA : Hid (addTo n m = 20001) := by show _ = _; unfold addTo; rw [if_neg (by omega)]
      rw [HA.out]
      go_enter Try.func33, Try.ntmps33
      go_wp2
      go_ret
      exact ⟨rfl, rfl⟩
    · by_cases c3 : 20000 - m < n
      · have HA : Hid (addTo n m = 20001) := by show _ = _; unfold addTo; rw [if_neg (by omega)]
        rw [HA.out]
        go_enter Try.func33, Try.ntmps33
        go_wp2
        go_ret
        exact ⟨rfl, rfl⟩
      · have HA : Hid (addTo n m = n + m) := by show _ = _; unfold addTo; rw [if_pos (by omega)]
        rw [HA.out]
        go_enter Try.func33, Try.ntmps33
        go_wp2
        go_ret
        exact ⟨rfl, rfl⟩
def wtA (ys : List Ac) : Nat := (ys.map fun y => 20 + y.zs.length).sum
theorem wtA_take (ys : List Ac) (k : Nat) (hk : k < ys.length) : wtA (ys.take (k + 1)) = wtA (ys.take k) + (20 + ys[k].zs.length) := by
  unfold wtA
  rw [List.take_succ_eq_append_getElem hk]
  simp only [List.map_append, List.map_cons, List.map_nil, List.sum_append, List.sum_cons, List.sum_nil]
  omega
theorem Ac.ok.below {W W' : World} {A : Ac} (h : A.ok W) (hb : Below W.heap.size W W') : A.ok W' := ⟨h.r.below hb, h.rl, h.rm, h.n, h.keep, h.area, h.kind⟩
set_option maxRecDepth 100000 in
set_option maxHeartbeats 2000000 in
theorem Light_any (a : Option Addr) (cap : Nat) (ys : List Ac) (w : World) (hl : ys.length ≤ maxLen) (ho : ∀ y ∈ ys, y.ok w) (h : RowOf Ac.cells w a ys) :
    Calls Try.prog 10 #[.slice a ys.length cap] w fun e w' => (e = .returned (.bool false) ∧ Below w.heap.size w w') ∨ (e = .returned (.bool true) ∧ Below w.heap.size w w' ∧ wtA ys ≤ 20000) := by
  unfold maxLen at hl
  go_enter Try.func10, Try.ntmps10
  go_wp2
  go_loopw [3, 4] (fun nv iv wr => ∃ (k : Nat) (n : Int), k ≤ ys.length ∧ iv = .int .i64 (k : Int) ∧ nv = .int .i64 n ∧ 0 ≤ n ∧ n ≤ 20001 ∧ Hid (n ≤ 20000 → n = wtA (ys.take k)) ∧ Below w.heap.size w wr) (fun _ iv _ => ys.length - (intOf iv).toNat)
  case atStart => exact ⟨0, 0, by omega, rfl, rfl, by omega, by omega, hide (fun _ => by simp [wtA]), Below.refl _ _⟩
  case round =>
    obtain ⟨k, n, hk, rfl, rfl, h0, h1, HL, hbel⟩ := hrel
    obtain ⟨wo, rfl⟩ : ∃ wo, wo = wr := ⟨_, rfl⟩
    by_cases hlt : k < ys.length
    · by_cases hn : n ≤ 20000
      · obtain ⟨rb, off, rfl, hrb, hre⟩ := h.elem (k := 5) (fun _ _ => rfl) k hlt
        have HT := hide (wtA_take ys k hlt)
        have hzl := (ho _ (List.getElem_mem hlt)).r.1
        obtain ⟨y, hy⟩ : ∃ y, Hid (ys[k] = y) := ⟨_, hide rfl⟩
        rw [hy.out] at hre HT hzl
        unfold maxLen at hzl
        have hre2 : w.cell? ⟨rb, off + k * 5 + 2, none⟩ = some (.slice y.da y.zs.length y.dc) := hre 2 _ rfl
        clear hre hy
        have k1 : (k : Int) < ys.length := by omega
        have HA2 : Hid (addTo n 20 ≤ 20001 ∧ 0 ≤ addTo n 20 ∧ (addTo n 20 ≤ 20000 → addTo n 20 = wtA (ys.take k) + 20)) := by
          unfold addTo
          have := HL.out hn
          split
          · refine ⟨by omega, by omega, fun _ => by omega⟩
          · refine ⟨by omega, by omega, fun h => by omega⟩
        have ca := fun w0 => addCap_any n 20 w0 h0 h1 (by omega) (by omega)
        obtain ⟨p2, hp2⟩ : ∃ p, Hid (addTo n 20 = p) := ⟨_, hide rfl⟩
        simp only [hp2.out] at ca
        rw [hp2.out] at HA2
        have cb := fun w0 => addCap_any p2 (y.zs.length : Int) w0 HA2.out.2.1 HA2.out.1 (by omega) (by omega)
        have HA3 : Hid (addTo p2 y.zs.length ≤ 20001 ∧ 0 ≤ addTo p2 y.zs.length ∧ (addTo p2 y.zs.length ≤ 20000 → addTo p2 y.zs.length = wtA (ys.take (k + 1)))) := by
          unfold addTo
          have := HA2.out
          have := HT.out
          split
          · refine ⟨by omega, by omega, fun _ => by have := HA2.out.2.2 (by omega); omega⟩
          · refine ⟨by omega, by omega, fun h => by omega⟩
        obtain ⟨p3, hp3⟩ : ∃ p, Hid (addTo p2 y.zs.length = p) := ⟨_, hide rfl⟩
        simp only [hp3.out] at cb
        rw [hp3.out] at HA3
        clear hp2 hp3 HT HA2
        go_wp2_with fail
        obtain ⟨w5, hw5⟩ : ∃ w5, wo.drew = w5 := ⟨_, rfl⟩
        have hB5 : Below w.heap.size w w5 := by rw [← hw5]; exact hbel.drew
        have c2 : ∀ w', Below w5.heap.size w5 w' → w'.cell? ⟨rb, off + k * 5 + 2, none⟩ = some (.slice y.da y.zs.length y.dc) := fun w' hw' => ((hB5.trans (hw'.mono hB5.size)).cell (p := ⟨rb, off + k * 5 + 2, none⟩) hrb).trans hre2
        refine hs_begin (S := (Below w5.heap.size w5)) 10 rfl (by kernel_rfl) ?_
        rw [hw5]
        clear hw5
        have hS : (Below w5.heap.size w5) w5 := Below.refl _ _
        refine hs_take (i := 0) (d := some 15) (v := ?_) rfl (by kernel_rfl) (by kernel_rfl) (by kernel_rfl) (by rfl) ?_ hS rfl ?_
        rotate_left
        · intro w' hw
          go_simp
          try with_reducible rfl
        simp only [Act.put, List.setIfInBounds_toArray, List.set_cons_zero, List.set_cons_succ]
        refine hs_take (i := 2) (d := some 17) (v := ?_) rfl (by kernel_rfl) (by kernel_rfl) (by kernel_rfl) (by rfl) ?_ hS rfl ?_
        rotate_left
        · intro w' hw
          go_simp
          try with_reducible rfl
        simp only [Act.put, List.setIfInBounds_toArray, List.set_cons_zero, List.set_cons_succ]
        refine hs_take (i := 3) (d := some 18) (v := ?_) rfl (by kernel_rfl) (by kernel_rfl) (by kernel_rfl) (by rfl) ?_ hS rfl ?_
        rotate_left
        · intro w' hw
          go_simp
          try with_reducible rfl
        simp only [Act.put, List.setIfInBounds_toArray, List.set_cons_zero, List.set_cons_succ]
        refine hs_take (i := 4) (d := some 19) (v := ?_) rfl (by kernel_rfl) (by kernel_rfl) (by kernel_rfl) (by rfl) ?_ hS rfl ?_
        rotate_left
        · intro w' hw
          go_simp
          try with_reducible rfl
        simp only [Act.put, List.setIfInBounds_toArray, List.set_cons_zero, List.set_cons_succ]
        refine hs_take (i := 5) (d := some 20) (v := ?_) rfl (by kernel_rfl) (by kernel_rfl) (by kernel_rfl) (by rfl) ?_ hS rfl ?_
        rotate_left
        · intro w' hw
          go_simp
          try with_reducible rfl
        simp only [Act.put, List.setIfInBounds_toArray, List.set_cons_zero, List.set_cons_succ]
        refine hs_take (i := 6) (d := some 21) (v := ?_) rfl (by kernel_rfl) (by kernel_rfl) (by kernel_rfl) (by rfl) ?_ hS rfl ?_
        rotate_left
        · intro w' hw
          have hc := c2 w' hw
          go_simp
          try with_reducible rfl
        simp only [Act.put, List.setIfInBounds_toArray, List.set_cons_zero, List.set_cons_succ]
        refine hs_take (i := 7) (d := some 22) (v := ?_) rfl (by kernel_rfl) (by kernel_rfl) (by kernel_rfl) (by rfl) ?_ hS rfl ?_
        rotate_left
        · intro w' hw
          go_simp
          try with_reducible rfl
        simp only [Act.put, List.setIfInBounds_toArray, List.set_cons_zero, List.set_cons_succ]
        refine hs_call (i := 1) (d := some 16) rfl (by kernel_rfl) (by rfl) (by go_simp; first | done | exact ⟨rfl, rfl⟩ | with_reducible rfl) rfl ?_
        refine (ca w5).mono ?_
        rintro e' w6 ⟨rfl, hx⟩
        have hS : (Below w5.heap.size w5) w6 := by rw [hx]; exact hS
        refine ⟨_, rfl, hS, ?_⟩
        simp only [Act.put, List.setIfInBounds_toArray, List.set_cons_zero, List.set_cons_succ]
        obtain rfl := hx.symm
        clear hx
        refine hs_call (i := 8) (d := some 23) rfl (by kernel_rfl) (by rfl) (by go_simp; first | done | exact ⟨rfl, rfl⟩ | with_reducible rfl) rfl ?_
        refine (cb w5).mono ?_
        rintro e' w7 ⟨rfl, hx⟩
        have hS : (Below w5.heap.size w5) w7 := by rw [hx]; exact hS
        refine ⟨_, rfl, hS, ?_⟩
        simp only [Act.put, List.setIfInBounds_toArray, List.set_cons_zero, List.set_cons_succ]
        obtain rfl := hx.symm
        clear hx
        refine hs_take (i := 9) (d := some 3) (v := ?_) rfl (by kernel_rfl) (by kernel_rfl) (by kernel_rfl) (by rfl) ?_ hS rfl ?_
        rotate_left
        · intro w' hw
          go_simp
          try with_reducible rfl
        simp only [Act.put, List.setIfInBounds_toArray, List.set_cons_zero, List.set_cons_succ]
        refine hs_done (by kernel_rfl) ?_
        go_wp2
        go_roundw
        case rel => exact ⟨k + 1, p3, by omega, by go_num, rfl, HA3.out.2.1, HA3.out.1, hide HA3.out.2.2, hB5⟩
        case measure => simp [intOf]; omega
      · go_wp2
        go_ret
        exact .inl ⟨rfl, hbel⟩
    · have hk' : k = ys.length := by omega
      have HF : Hid (n ≤ 20000 → wtA ys ≤ 20000) := by
        intro hn
        have := HL.out hn
        rw [hk', List.take_length] at this
        omega
      have k1 : ¬ (k : Int) < ys.length := by omega
      clear HL
      by_cases hn : n ≤ 20000
      · go_wp2
        go_ret
        exact .inr ⟨rfl, hbel, HF.out hn⟩
      · go_wp2
        go_ret
        exact .inl ⟨rfl, hbel⟩
theorem wtA_len (ys : List Ac) : ys.length * 20 ≤ wtA ys := by
  induction ys with
  | nil => simp [wtA]
  | cons y ys ih => simp only [wtA, List.map_cons, List.sum_cons, List.length_cons] at *; omega
theorem wtA_mem {ys : List Ac} {y : Ac} (h : y ∈ ys) : 20 + y.zs.length ≤ wtA ys := by
  induction ys with
  | nil => cases h
  | cons x ys ih =>
    simp only [wtA, List.map_cons, List.sum_cons] at *
    rcases List.mem_cons.1 h with rfl | h
    · omega
    · have := ih h; omega
end Go.Proofs.Ytfkchnjbbbhmjaa
namespace Go.Proofs.Ytfkchnjbbbhmjaa
open Go.RowKit
def Unmade (w : World) (pv : Value) : Prop := pv = .pointer none ∨ ∃ b, pv = .pointer (some ⟨b, 0, none⟩) ∧ b < w.heap.size ∧ w.cell? ⟨b, 0, none⟩ = some (.bool false)
theorem Unmade.below {w w' : World} {pv : Value} (h : Unmade w pv) (hb : Below w.heap.size w w') : Unmade w' pv := by
  rcases h with h | ⟨b, h1, h2, h3⟩
  · exact .inl h
  · exact .inr ⟨b, h1, Nat.lt_of_lt_of_le h2 hb.size, cell_at h3 (hb.block b h2)⟩
set_option maxRecDepth 100000 in
set_option maxHeartbeats 2000000 in
theorem made_no (pv : Value) (w : World) (h : Unmade w pv) :
    Calls Try.prog 50 #[pv] w fun e w' => e = .returned (.bool false) ∧ w' = w := by
  rcases h with rfl | ⟨b, rfl, hb, h1⟩
  all_goals
    go_enter Try.func50, Try.ntmps50
    go_wp2_with fail
    go_ret
    exact ⟨rfl, rfl⟩
set_option maxRecDepth 100000 in
set_option maxHeartbeats 2000000 in
theorem reach_no (n : Int) (pv : Value) (w : World) (h : Unmade w pv) :
    Calls Try.prog 42 #[pv, .int .i64 n] w fun e w' => e = .returned (.int .i64 1) ∧ w' = w := by
  have cm := made_no pv w h
  rcases h with rfl | ⟨b, rfl, hb, h1⟩
  all_goals
    go_enter Try.func42, Try.ntmps42
    go_wp2_with fail
    refine cm.mono ?_
    rintro e w' ⟨rfl, hw⟩
    obtain rfl := hw.symm
    clear cm hw
    go_wp2_with fail
    go_ret
    exact ⟨rfl, rfl⟩
set_option maxRecDepth 100000 in
set_option maxHeartbeats 2000000 in
theorem op_no (n : Int) (f : Value) (pv : Value) (w : World) (h : Unmade w pv) :
    Calls Try.prog 43 #[pv, .int .i64 n, f] w fun e w' => e = .returned (.int .i64 1) ∧ w' = w := by
  have cm := reach_no n pv w h
  rcases h with rfl | ⟨b, rfl, hb, h1⟩
  all_goals
    go_enter Try.func43, Try.ntmps43
    go_wp2_with fail
    refine cm.mono ?_
    rintro e w' ⟨rfl, hw⟩
    obtain rfl := hw.symm
    clear cm hw
    go_wp2_with fail
    go_ret
    exact ⟨rfl, rfl⟩
set_option maxRecDepth 100000 in
set_option maxHeartbeats 2000000 in
theorem sync_no (n : Int) (pv : Value) (w : World) (h : Unmade w pv) :
    Calls Try.prog 15 #[pv, .int .i64 n] w fun e w' => e = .returned (.int .i64 1) ∧ w' = w := by
  have cm := op_no n (.func (.func 46) #[] #[]) pv w h
  rcases h with rfl | ⟨b, rfl, hb, h1⟩
  all_goals
    go_enter Try.func15, Try.ntmps15
    go_wp2_with fail
    refine cm.mono ?_
    rintro e w' ⟨rfl, hw⟩
    obtain rfl := hw.symm
    clear cm hw
    go_wp2_with fail
    go_ret
    exact ⟨rfl, rfl⟩
set_option maxRecDepth 100000 in
set_option maxHeartbeats 2000000 in
theorem clear_no (n : Int) (pv : Value) (w : World) (h : Unmade w pv) :
    Calls Try.prog 16 #[pv, .int .i64 n] w fun e w' => e = .returned (.int .i64 1) ∧ w' = w := by
  have cm := op_no n (.func (.func 48) #[] #[]) pv w h
  rcases h with rfl | ⟨b, rfl, hb, h1⟩
  all_goals
    go_enter Try.func16, Try.ntmps16
    go_wp2_with fail
    refine cm.mono ?_
    rintro e w' ⟨rfl, hw⟩
    obtain rfl := hw.symm
    clear cm hw
    go_wp2_with fail
    go_ret
    exact ⟨rfl, rfl⟩
set_option maxRecDepth 100000 in
set_option maxHeartbeats 2000000 in
theorem read_no (n : Int) (pv : Value) (w : World) (h : Unmade w pv) :
    Calls Try.prog 19 #[pv, .int .i64 n] w fun e w' => e = .returned (.tuple #[.slice none 0 0, .int .i64 1]) ∧ w' = w := by
  have cm := reach_no n pv w h
  rcases h with rfl | ⟨b, rfl, hb, h1⟩
  all_goals
    go_enter Try.func19, Try.ntmps19
    go_wp2_with fail
    refine cm.mono ?_
    rintro e w' ⟨rfl, hw⟩
    obtain rfl := hw.symm
    clear cm hw
    go_wp2_with fail
    go_ret2
    exact ⟨rfl, rfl⟩
set_option maxRecDepth 100000 in
set_option maxHeartbeats 2000000 in
theorem counts_no (pv : Value) (w : World) (h : Unmade w pv) :
    Calls Try.prog 23 #[pv] w fun e w' => e = .returned (.tuple #[.int .i64 0, .int .i64 0]) ∧ w' = w := by
  have cm := made_no pv w h
  rcases h with rfl | ⟨b, rfl, hb, h1⟩
  all_goals
    go_enter Try.func23, Try.ntmps23
    go_wp2_with fail
    refine cm.mono ?_
    rintro e w' ⟨rfl, hw⟩
    obtain rfl := hw.symm
    clear cm hw
    go_wp2_with fail
    go_ret2
    exact ⟨rfl, rfl⟩
set_option maxRecDepth 100000 in
set_option maxHeartbeats 2000000 in
theorem arm_no (n k : Int) (pv : Value) (w : World) (h : Unmade w pv) :
    Calls Try.prog 24 #[pv, .int .i64 n, .int .i64 k] w fun e w' => e = .returned (.int .i64 1) ∧ w' = w := by
  have cm := made_no pv w h
  rcases h with rfl | ⟨b, rfl, hb, h1⟩
  all_goals
    go_enter Try.func24, Try.ntmps24
    go_wp2_with fail
    refine cm.mono ?_
    rintro e w' ⟨rfl, hw⟩
    obtain rfl := hw.symm
    clear cm hw
    go_wp2_with fail
    go_ret
    exact ⟨rfl, rfl⟩
set_option maxRecDepth 100000 in
set_option maxHeartbeats 2000000 in
theorem fail_no (k : Int) (pv : Value) (w : World) (h : Unmade w pv) :
    Calls Try.prog 17 #[pv, .int .i64 k] w fun e w' => e = .returned (.int .i64 1) ∧ w' = w := by
  have cm := made_no pv w h
  rcases h with rfl | ⟨b, rfl, hb, h1⟩
  all_goals
    go_enter Try.func17, Try.ntmps17
    go_wp2_with fail
    refine cm.mono ?_
    rintro e w' ⟨rfl, hw⟩
    obtain rfl := hw.symm
    clear cm hw
    go_wp2_with fail
    go_ret
    exact ⟨rfl, rfl⟩
set_option maxRecDepth 100000 in
set_option maxHeartbeats 2000000 in
theorem power_no (pv : Value) (w : World) (h : Unmade w pv) :
    Calls Try.prog 18 #[pv] w fun e w' => e = .returned (.int .i64 1) ∧ w' = w := by
  have cm := made_no pv w h
  rcases h with rfl | ⟨b, rfl, hb, h1⟩
  all_goals
    go_enter Try.func18, Try.ntmps18
    go_wp2_with fail
    refine cm.mono ?_
    rintro e w' ⟨rfl, hw⟩
    obtain rfl := hw.symm
    clear cm hw
    go_wp2_with fail
    go_ret
    exact ⟨rfl, rfl⟩
set_option maxRecDepth 100000 in
set_option maxHeartbeats 2000000 in
theorem on_no (pv : Value) (w : World) (h : Unmade w pv) :
    Calls Try.prog 25 #[pv] w fun e w' => e = .returned (.bool false) ∧ w' = w := by
  have cm := made_no pv w h
  rcases h with rfl | ⟨b, rfl, hb, h1⟩
  all_goals
    go_enter Try.func25, Try.ntmps25
    go_wp2_with fail
    refine cm.mono ?_
    rintro e w' ⟨rfl, hw⟩
    obtain rfl := hw.symm
    clear cm hw
    go_wp2_with fail
    go_ret
    exact ⟨rfl, rfl⟩
set_option maxRecDepth 100000 in
set_option maxHeartbeats 2000000 in
theorem used_no (pv : Value) (w : World) (h : Unmade w pv) :
    Calls Try.prog 22 #[pv] w fun e w' => e = .returned (.int .i64 0) ∧ w' = w := by
  have cm := made_no pv w h
  rcases h with rfl | ⟨b, rfl, hb, h1⟩
  all_goals
    go_enter Try.func22, Try.ntmps22
    go_wp2_with fail
    refine cm.mono ?_
    rintro e w' ⟨rfl, hw⟩
    obtain rfl := hw.symm
    clear cm hw
    go_wp2_with fail
    go_ret
    exact ⟨rfl, rfl⟩
set_option maxRecDepth 100000 in
set_option maxHeartbeats 2000000 in
theorem sure_no (n : Int) (pv : Value) (w : World) (h : Unmade w pv) :
    Calls Try.prog 21 #[pv, .int .i64 n] w fun e w' => e = .returned (.int .i64 0) ∧ w' = w := by
  have cm := made_no pv w h
  rcases h with rfl | ⟨b, rfl, hb, h1⟩
  all_goals
    go_enter Try.func21, Try.ntmps21
    go_wp2_with fail
    refine cm.mono ?_
    rintro e w' ⟨rfl, hw⟩
    obtain rfl := hw.symm
    clear cm hw
    go_wp2_with fail
    go_ret
    exact ⟨rfl, rfl⟩
set_option maxRecDepth 100000 in
set_option maxHeartbeats 2000000 in
theorem append_no (n : Int) (a : Option Addr) (len cap : Nat) (pv : Value) (w : World) (h : Unmade w pv) :
    Calls Try.prog 14 #[pv, .int .i64 n, .slice a len cap] w fun e w' => e = .returned (.int .i64 1) ∧ Below w.heap.size w w' := by
  have hB1 : Below w.heap.size w (w.alloc (.cells #[.slice a len cap] 29)) := (Below.refl _ _).alloc (Nat.le_refl _) _
  have cm := reach_no n pv _ (h.below hB1)
  rcases h with rfl | ⟨b, rfl, hb, h1⟩
  all_goals
    go_enter Try.func14, Try.ntmps14
    go_wp2_with fail
    refine cm.mono ?_
    rintro e w' ⟨rfl, hw⟩
    obtain rfl := hw.symm
    clear cm hw
    go_wp2_with fail
    go_ret
    exact ⟨rfl, hB1⟩
structure ActBox (w : World) (X : Nat) (A : Ac) : Prop where
  lt : X < w.heap.size
  all : w.rangeAt X 0 A.cells
theorem ActBox.below {w w' : World} {X : Nat} {A : Ac} (h : ActBox w X A) (hb : Below w.heap.size w w') : ActBox w' X A := ⟨Nat.lt_of_lt_of_le h.lt hb.size, range_below h.all hb h.lt⟩
theorem act_cells {w : World} {X o : Nat} {A : Ac} (h : w.rangeAt X o A.cells) : w.cell? ⟨X, o, none⟩ = some (.int .i64 A.kind) ∧ w.cell? ⟨X, o + 1, none⟩ = some (.int .i64 A.area) ∧ w.cell? ⟨X, o + 2, none⟩ = some (.slice A.da A.zs.length A.dc) ∧ w.cell? ⟨X, o + 3, none⟩ = some (.int .i64 A.n) ∧ w.cell? ⟨X, o + 4, none⟩ = some (.int .i64 A.keep) :=
  ⟨h 0 _ rfl, h 1 _ rfl, h 2 _ rfl, h 3 _ rfl, h 4 _ rfl⟩
theorem cell_lt {w : World} {b o : Nat} {v : Value} (h : w.cell? ⟨b, o, none⟩ = some v) : b < w.heap.size := World.block_lt_of_cell? w _ h
set_option maxRecDepth 100000 in
set_option maxHeartbeats 4000000 in
theorem nobody_walk (A : Ac) (w : World) :
    Calls Try.prog 6 #[.agg A.cells.toArray] w fun e w' => e = .returned (.bool true) ∧ Below w.heap.size w w' := by
  have cL := fun w0 => lives_any w0
  have hB1 : Below w.heap.size w (w.alloc (.cells A.cells.toArray 31)) := (Below.refl _ _).alloc (Nat.le_refl _) _
  have hX1 : ActBox (w.alloc (.cells A.cells.toArray 31)) w.heap.size A := ⟨by simp, by simpa using range_new w A.cells.toArray 31⟩
  have cAppend := fun pv w0 h0 => append_no A.area A.da A.zs.length A.dc pv w0 h0
  have cSync := fun pv w0 h0 => sync_no A.area pv w0 h0
  have cClear := fun pv w0 h0 => clear_no A.area pv w0 h0
  have cRead := fun pv w0 h0 => read_no A.area pv w0 h0
  have cCounts := fun pv w0 h0 => counts_no pv w0 h0
  have cArm := fun pv w0 h0 => arm_no A.n A.keep pv w0 h0
  have cFail := fun pv w0 h0 => fail_no A.keep pv w0 h0
  have cPower := fun pv w0 h0 => power_no pv w0 h0
  have cOn := fun pv w0 h0 => on_no pv w0 h0
  have cUsed := fun pv w0 h0 => used_no pv w0 h0
  have cSure := fun pv w0 h0 => sure_no A.area pv w0 h0
  obtain ⟨cs, hcs⟩ : ∃ cs, Hid (A.cells = cs) := ⟨_, hide rfl⟩
  rw [hcs.out] at hB1 hX1 ⊢
  go_enter Try.func6, Try.ntmps6
  go_upto_region 1 with fail
  obtain ⟨w1, hw1⟩ : ∃ w1, w.alloc (.cells cs.toArray 31) = w1 := ⟨_, rfl⟩
  rw [hw1] at hB1 hX1 ⊢
  clear hw1
  obtain ⟨ZT, hZT⟩ : ∃ ZT, (#[.bool false, .bool false, .int .i64 0, .slice none 0 0, .int .i64 0, .slice none 0 0, .int .i64 0, .bool false, .int .i64 0, .int .i64 0, .int .i64 0, .int .i64 0] : Array Value) = ZT := ⟨_, rfl⟩
  have hz0 : ZT.toList[0]? = some (.bool false) := by rw [← hZT]; rfl
  have hBB : Below w1.heap.size w1 ((w1.alloc (.cells ZT 55)).alloc (.cells #[.pointer none, .pointer (some ⟨w1.heap.size, 0, none⟩)] 23)) := ((Below.refl _ _).alloc (Nat.le_refl _) _).alloc (by simp) _
  have hRP : ((w1.alloc (.cells ZT 55)).alloc (.cells #[.pointer none, .pointer (some ⟨w1.heap.size, 0, none⟩)] 23)).rangeAt (w1.heap.size + 1) 0 [.pointer none, .pointer (some ⟨w1.heap.size, 0, none⟩)] := by
    have := range_new (w1.alloc (.cells ZT 55)) #[.pointer none, .pointer (some ⟨w1.heap.size, 0, none⟩)] 23
    simpa using this
  have hUP : Unmade ((w1.alloc (.cells ZT 55)).alloc (.cells #[.pointer none, .pointer (some ⟨w1.heap.size, 0, none⟩)] 23)) (.pointer (some ⟨w1.heap.size, 0, none⟩)) := by
    have h1 := range_new w1 ZT 55
    refine .inr ⟨_, rfl, by simp; omega, ?_⟩
    exact cell_at (h1 0 _ hz0) (Below.heap_alloc _ _ _ (by simp))
  rw [← hZT] at hBB hRP hUP
  clear hz0 hZT
  go_wp2_with fail
  obtain ⟨w2, hw2⟩ : ∃ w2, (w1.alloc (.cells #[.bool false, .bool false, .int .i64 0, .slice none 0 0, .int .i64 0, .slice none 0 0, .int .i64 0, .bool false, .int .i64 0, .int .i64 0, .int .i64 0, .int .i64 0] 55)).alloc (.cells #[.pointer none, .pointer (some ⟨w1.heap.size, 0, none⟩)] 23) = w2 := ⟨_, rfl⟩
  rw [hw2] at hBB hRP hUP ⊢
  clear hw2
  have hX2 := hX1.below hBB
  have hB2 : Below w.heap.size w w2 := hB1.trans (hBB.mono hB1.size)
  have hRl : w1.heap.size + 1 < w2.heap.size := cell_lt (hRP 0 _ rfl)
  go_loopw [13] (fun iv wr => ∃ k : Nat, k ≤ 2 ∧ iv = .int .i64 (k : Int) ∧ Below w2.heap.size w2 wr) (fun iv _ => 2 - (intOf iv).toNat)
  case atStart => exact ⟨0, by omega, rfl, Below.refl _ _⟩
  case round =>
    obtain ⟨k, hk, rfl, hB⟩ := hrel
    by_cases hlt : k < 2
    · obtain ⟨pv, hpv, hU⟩ : ∃ pv, wr.cell? ⟨w1.heap.size + 1, k, none⟩ = some pv ∧ Unmade wr pv := by
        have hR := range_below hRP hB hRl
        have hkk : k = 0 ∨ k = 1 := by omega
        rcases hkk with rfl | rfl
        · exact ⟨_, hR 0 _ rfl, .inl rfl⟩
        · exact ⟨_, hR 1 _ rfl, hUP.below hB⟩
      have hltI : (k : Int) < 2 := by omega
      have y1 : wr.cell? ⟨w.heap.size, 1, none⟩ = some (.int .i64 A.area) := (act_cells (hX2.below hB).all).2.1
      have cRead := cRead pv wr hU
      have cCounts := cCounts pv wr hU
      go_wp2_with fail
      refine cRead.mono ?_
      rintro e wq ⟨rfl, hx⟩
      obtain rfl := hx.symm
      clear hx cRead
      go_wp2_with fail
      refine cCounts.mono ?_
      rintro e wq ⟨rfl, hx⟩
      obtain rfl := hx.symm
      clear hx cCounts y1
      go_wp2_with fail
      obtain ⟨w8, hw8⟩ : ∃ w8, wr.drew = w8 := ⟨_, rfl⟩
      have hB8 : Below w2.heap.size w2 w8 := by rw [← hw8]; exact hB.drew
      have hX8 := hX2.below hB8
      have ku : ∀ w', Below w8.heap.size w8 w' → Unmade w' pv := fun w' hw' => (by rw [← hw8] at hw'; exact hU.below ⟨hw'.os, hw'.tape, hw'.output, hw'.size, hw'.block⟩)
      have KC := fun w' (hw' : Below w8.heap.size w8 w') => act_cells ((hX8.below hw').all)
      have x1 := fun w' hw' => (KC w' hw').2.1
      have x2 := fun w' hw' => (KC w' hw').2.2.1
      have x3 := fun w' hw' => (KC w' hw').2.2.2.1
      have x4 := fun w' hw' => (KC w' hw').2.2.2.2
      simp only [Nat.zero_add] at x1 x2 x3 x4
      have cAppend := cAppend pv
      have cSync := cSync pv
      have cClear := cClear pv
      have cArm := cArm pv
      have cFail := cFail pv
      have cPower := cPower pv
      have cOn := cOn pv
      have cUsed := cUsed pv
      have cSure := cSure pv
      clear KC hX8 hpv
      refine hs_begin (S := (Below w8.heap.size w8)) 64 rfl (by kernel_rfl) ?_
      rw [hw8]
      clear hw8
      have hS : (Below w8.heap.size w8) w8 := Below.refl _ _
      refine hs_take (i := 0) (d := some 29) (v := ?_) rfl (by kernel_rfl) (by kernel_rfl) (by kernel_rfl) (by rfl) ?_ hS rfl ?_
      rotate_left
      · intro w' hw
        go_simp
        try with_reducible rfl
      simp only [Act.put, List.setIfInBounds_toArray, List.set_cons_zero, List.set_cons_succ]
      refine hs_take (i := 1) (d := some 30) (v := ?_) rfl (by kernel_rfl) (by kernel_rfl) (by kernel_rfl) (by rfl) ?_ hS rfl ?_
      rotate_left
      · intro w' hw
        go_simp
        try with_reducible rfl
      simp only [Act.put, List.setIfInBounds_toArray, List.set_cons_zero, List.set_cons_succ]
      refine hs_take (i := 2) (d := some 31) (v := ?_) rfl (by kernel_rfl) (by kernel_rfl) (by kernel_rfl) (by rfl) ?_ hS rfl ?_
      rotate_left
      · intro w' hw
        have hc := x1 w' hw
        go_simp
        try with_reducible rfl
      simp only [Act.put, List.setIfInBounds_toArray, List.set_cons_zero, List.set_cons_succ]
      refine hs_take (i := 3) (d := some 32) (v := ?_) rfl (by kernel_rfl) (by kernel_rfl) (by kernel_rfl) (by rfl) ?_ hS rfl ?_
      rotate_left
      · intro w' hw
        go_simp
        try with_reducible rfl
      simp only [Act.put, List.setIfInBounds_toArray, List.set_cons_zero, List.set_cons_succ]
      refine hs_take (i := 4) (d := some 33) (v := ?_) rfl (by kernel_rfl) (by kernel_rfl) (by kernel_rfl) (by rfl) ?_ hS rfl ?_
      rotate_left
      · intro w' hw
        have hc := x2 w' hw
        go_simp
        try with_reducible rfl
      simp only [Act.put, List.setIfInBounds_toArray, List.set_cons_zero, List.set_cons_succ]
      refine hs_call (i := 5) (d := some 34) rfl (by kernel_rfl) (by rfl) (by go_simp; first | done | exact ⟨rfl, rfl⟩ | with_reducible rfl) rfl ?_
      refine (cAppend w8 (ku w8 hS)).mono ?_
      rintro e' wA ⟨rfl, hb⟩
      have hS : (Below w8.heap.size w8) wA := hb
      refine ⟨_, rfl, hS, ?_⟩
      simp only [Act.put, List.setIfInBounds_toArray, List.set_cons_zero, List.set_cons_succ]
      refine hs_take (i := 6) (d := some 35) (v := .bool false) rfl (by kernel_rfl) (by kernel_rfl) (by kernel_rfl) (by rfl) (fun w' hw => by go_simp) hS rfl ?_
      simp only [Act.put, List.setIfInBounds_toArray, List.set_cons_zero, List.set_cons_succ]
      refine hs_take (i := 7) (d := some 36) (v := .bool false) rfl (by kernel_rfl) (by kernel_rfl) (by kernel_rfl) (by rfl) (fun w' hw => by go_simp) hS rfl ?_
      simp only [Act.put, List.setIfInBounds_toArray, List.set_cons_zero, List.set_cons_succ]
      refine hs_take (i := 8) (d := some 37) (v := ?_) rfl (by kernel_rfl) (by kernel_rfl) (by kernel_rfl) (by rfl) ?_ hS rfl ?_
      rotate_left
      · intro w' hw
        go_simp
        try with_reducible rfl
      simp only [Act.put, List.setIfInBounds_toArray, List.set_cons_zero, List.set_cons_succ]
      refine hs_take (i := 9) (d := some 38) (v := ?_) rfl (by kernel_rfl) (by kernel_rfl) (by kernel_rfl) (by rfl) ?_ hS rfl ?_
      rotate_left
      · intro w' hw
        go_simp
        try with_reducible rfl
      simp only [Act.put, List.setIfInBounds_toArray, List.set_cons_zero, List.set_cons_succ]
      refine hs_take (i := 10) (d := some 39) (v := ?_) rfl (by kernel_rfl) (by kernel_rfl) (by kernel_rfl) (by rfl) ?_ hS rfl ?_
      rotate_left
      · intro w' hw
        have hc := x1 w' hw
        go_simp
        try with_reducible rfl
      simp only [Act.put, List.setIfInBounds_toArray, List.set_cons_zero, List.set_cons_succ]
      refine hs_call (i := 11) (d := some 40) rfl (by kernel_rfl) (by rfl) (by go_simp; first | done | exact ⟨rfl, rfl⟩ | with_reducible rfl) rfl ?_
      refine (cSync wA (ku wA hS)).mono ?_
      rintro e' wB ⟨rfl, hx⟩
      have hS : (Below w8.heap.size w8) wB := by rw [hx]; exact hS
      refine ⟨_, rfl, hS, ?_⟩
      simp only [Act.put, List.setIfInBounds_toArray, List.set_cons_zero, List.set_cons_succ]
      obtain rfl := hx.symm
      clear hx
      refine hs_take (i := 12) (d := some 41) (v := .bool false) rfl (by kernel_rfl) (by kernel_rfl) (by kernel_rfl) (by rfl) (fun w' hw => by go_simp) hS rfl ?_
      simp only [Act.put, List.setIfInBounds_toArray, List.set_cons_zero, List.set_cons_succ]
      refine hs_take (i := 13) (d := some 42) (v := .bool false) rfl (by kernel_rfl) (by kernel_rfl) (by kernel_rfl) (by rfl) (fun w' hw => by go_simp) hS rfl ?_
      simp only [Act.put, List.setIfInBounds_toArray, List.set_cons_zero, List.set_cons_succ]
      refine hs_take (i := 14) (d := some 43) (v := .bool false) rfl (by kernel_rfl) (by kernel_rfl) (by kernel_rfl) (by rfl) (fun w' hw => by go_simp) hS rfl ?_
      simp only [Act.put, List.setIfInBounds_toArray, List.set_cons_zero, List.set_cons_succ]
      refine hs_take (i := 15) (d := some 44) (v := ?_) rfl (by kernel_rfl) (by kernel_rfl) (by kernel_rfl) (by rfl) ?_ hS rfl ?_
      rotate_left
      · intro w' hw
        go_simp
        try with_reducible rfl
      simp only [Act.put, List.setIfInBounds_toArray, List.set_cons_zero, List.set_cons_succ]
      refine hs_take (i := 16) (d := some 45) (v := ?_) rfl (by kernel_rfl) (by kernel_rfl) (by kernel_rfl) (by rfl) ?_ hS rfl ?_
      rotate_left
      · intro w' hw
        go_simp
        try with_reducible rfl
      simp only [Act.put, List.setIfInBounds_toArray, List.set_cons_zero, List.set_cons_succ]
      refine hs_take (i := 17) (d := some 46) (v := ?_) rfl (by kernel_rfl) (by kernel_rfl) (by kernel_rfl) (by rfl) ?_ hS rfl ?_
      rotate_left
      · intro w' hw
        have hc := x1 w' hw
        go_simp
        try with_reducible rfl
      simp only [Act.put, List.setIfInBounds_toArray, List.set_cons_zero, List.set_cons_succ]
      refine hs_call (i := 18) (d := some 47) rfl (by kernel_rfl) (by rfl) (by go_simp; first | done | exact ⟨rfl, rfl⟩ | with_reducible rfl) rfl ?_
      refine (cClear wA (ku wA hS)).mono ?_
      rintro e' wB ⟨rfl, hx⟩
      have hS : (Below w8.heap.size w8) wB := by rw [hx]; exact hS
      refine ⟨_, rfl, hS, ?_⟩
      simp only [Act.put, List.setIfInBounds_toArray, List.set_cons_zero, List.set_cons_succ]
      obtain rfl := hx.symm
      clear hx
      refine hs_take (i := 19) (d := some 48) (v := .bool false) rfl (by kernel_rfl) (by kernel_rfl) (by kernel_rfl) (by rfl) (fun w' hw => by go_simp) hS rfl ?_
      simp only [Act.put, List.setIfInBounds_toArray, List.set_cons_zero, List.set_cons_succ]
      refine hs_take (i := 20) (d := some 49) (v := .bool false) rfl (by kernel_rfl) (by kernel_rfl) (by kernel_rfl) (by rfl) (fun w' hw => by go_simp) hS rfl ?_
      simp only [Act.put, List.setIfInBounds_toArray, List.set_cons_zero, List.set_cons_succ]
      refine hs_take (i := 21) (d := some 50) (v := .bool false) rfl (by kernel_rfl) (by kernel_rfl) (by kernel_rfl) (by rfl) (fun w' hw => by go_simp) hS rfl ?_
      simp only [Act.put, List.setIfInBounds_toArray, List.set_cons_zero, List.set_cons_succ]
      refine hs_take (i := 22) (d := some 51) (v := ?_) rfl (by kernel_rfl) (by kernel_rfl) (by kernel_rfl) (by rfl) ?_ hS rfl ?_
      rotate_left
      · intro w' hw
        go_simp
        try with_reducible rfl
      simp only [Act.put, List.setIfInBounds_toArray, List.set_cons_zero, List.set_cons_succ]
      refine hs_take (i := 23) (d := some 52) (v := .bool false) rfl (by kernel_rfl) (by kernel_rfl) (by kernel_rfl) (by rfl) (fun w' hw => by go_simp) hS rfl ?_
      simp only [Act.put, List.setIfInBounds_toArray, List.set_cons_zero, List.set_cons_succ]
      refine hs_take (i := 24) (d := some 53) (v := .bool false) rfl (by kernel_rfl) (by kernel_rfl) (by kernel_rfl) (by rfl) (fun w' hw => by go_simp) hS rfl ?_
      simp only [Act.put, List.setIfInBounds_toArray, List.set_cons_zero, List.set_cons_succ]
      refine hs_take (i := 25) (d := some 54) (v := .bool false) rfl (by kernel_rfl) (by kernel_rfl) (by kernel_rfl) (by rfl) (fun w' hw => by go_simp) hS rfl ?_
      simp only [Act.put, List.setIfInBounds_toArray, List.set_cons_zero, List.set_cons_succ]
      refine hs_take (i := 26) (d := some 55) (v := ?_) rfl (by kernel_rfl) (by kernel_rfl) (by kernel_rfl) (by rfl) ?_ hS rfl ?_
      rotate_left
      · intro w' hw
        go_simp
        try with_reducible rfl
      simp only [Act.put, List.setIfInBounds_toArray, List.set_cons_zero, List.set_cons_succ]
      refine hs_take (i := 27) (d := some 56) (v := ?_) rfl (by kernel_rfl) (by kernel_rfl) (by kernel_rfl) (by rfl) ?_ hS rfl ?_
      rotate_left
      · intro w' hw
        go_simp
        try with_reducible rfl
      simp only [Act.put, List.setIfInBounds_toArray, List.set_cons_zero, List.set_cons_succ]
      refine hs_take (i := 28) (d := some 57) (v := ?_) rfl (by kernel_rfl) (by kernel_rfl) (by kernel_rfl) (by rfl) ?_ hS rfl ?_
      rotate_left
      · intro w' hw
        have hc := x3 w' hw
        go_simp
        try with_reducible rfl
      simp only [Act.put, List.setIfInBounds_toArray, List.set_cons_zero, List.set_cons_succ]
      refine hs_take (i := 29) (d := some 58) (v := ?_) rfl (by kernel_rfl) (by kernel_rfl) (by kernel_rfl) (by rfl) ?_ hS rfl ?_
      rotate_left
      · intro w' hw
        go_simp
        try with_reducible rfl
      simp only [Act.put, List.setIfInBounds_toArray, List.set_cons_zero, List.set_cons_succ]
      refine hs_take (i := 30) (d := some 59) (v := ?_) rfl (by kernel_rfl) (by kernel_rfl) (by kernel_rfl) (by rfl) ?_ hS rfl ?_
      rotate_left
      · intro w' hw
        have hc := x4 w' hw
        go_simp
        try with_reducible rfl
      simp only [Act.put, List.setIfInBounds_toArray, List.set_cons_zero, List.set_cons_succ]
      refine hs_call (i := 31) (d := some 60) rfl (by kernel_rfl) (by rfl) (by go_simp; first | done | exact ⟨rfl, rfl⟩ | with_reducible rfl) rfl ?_
      refine (cArm wA (ku wA hS)).mono ?_
      rintro e' wB ⟨rfl, hx⟩
      have hS : (Below w8.heap.size w8) wB := by rw [hx]; exact hS
      refine ⟨_, rfl, hS, ?_⟩
      simp only [Act.put, List.setIfInBounds_toArray, List.set_cons_zero, List.set_cons_succ]
      obtain rfl := hx.symm
      clear hx
      refine hs_take (i := 32) (d := some 61) (v := .bool false) rfl (by kernel_rfl) (by kernel_rfl) (by kernel_rfl) (by rfl) (fun w' hw => by go_simp) hS rfl ?_
      simp only [Act.put, List.setIfInBounds_toArray, List.set_cons_zero, List.set_cons_succ]
      refine hs_take (i := 33) (d := some 62) (v := .bool false) rfl (by kernel_rfl) (by kernel_rfl) (by kernel_rfl) (by rfl) (fun w' hw => by go_simp) hS rfl ?_
      simp only [Act.put, List.setIfInBounds_toArray, List.set_cons_zero, List.set_cons_succ]
      refine hs_take (i := 34) (d := some 63) (v := .bool false) rfl (by kernel_rfl) (by kernel_rfl) (by kernel_rfl) (by rfl) (fun w' hw => by go_simp) hS rfl ?_
      simp only [Act.put, List.setIfInBounds_toArray, List.set_cons_zero, List.set_cons_succ]
      refine hs_take (i := 35) (d := some 64) (v := ?_) rfl (by kernel_rfl) (by kernel_rfl) (by kernel_rfl) (by rfl) ?_ hS rfl ?_
      rotate_left
      · intro w' hw
        go_simp
        try with_reducible rfl
      simp only [Act.put, List.setIfInBounds_toArray, List.set_cons_zero, List.set_cons_succ]
      refine hs_take (i := 36) (d := some 65) (v := ?_) rfl (by kernel_rfl) (by kernel_rfl) (by kernel_rfl) (by rfl) ?_ hS rfl ?_
      rotate_left
      · intro w' hw
        go_simp
        try with_reducible rfl
      simp only [Act.put, List.setIfInBounds_toArray, List.set_cons_zero, List.set_cons_succ]
      refine hs_take (i := 37) (d := some 66) (v := ?_) rfl (by kernel_rfl) (by kernel_rfl) (by kernel_rfl) (by rfl) ?_ hS rfl ?_
      rotate_left
      · intro w' hw
        have hc := x4 w' hw
        go_simp
        try with_reducible rfl
      simp only [Act.put, List.setIfInBounds_toArray, List.set_cons_zero, List.set_cons_succ]
      refine hs_call (i := 38) (d := some 67) rfl (by kernel_rfl) (by rfl) (by go_simp; first | done | exact ⟨rfl, rfl⟩ | with_reducible rfl) rfl ?_
      refine (cFail wA (ku wA hS)).mono ?_
      rintro e' wB ⟨rfl, hx⟩
      have hS : (Below w8.heap.size w8) wB := by rw [hx]; exact hS
      refine ⟨_, rfl, hS, ?_⟩
      simp only [Act.put, List.setIfInBounds_toArray, List.set_cons_zero, List.set_cons_succ]
      obtain rfl := hx.symm
      clear hx
      refine hs_take (i := 39) (d := some 68) (v := .bool false) rfl (by kernel_rfl) (by kernel_rfl) (by kernel_rfl) (by rfl) (fun w' hw => by go_simp) hS rfl ?_
      simp only [Act.put, List.setIfInBounds_toArray, List.set_cons_zero, List.set_cons_succ]
      refine hs_take (i := 40) (d := some 69) (v := .bool false) rfl (by kernel_rfl) (by kernel_rfl) (by kernel_rfl) (by rfl) (fun w' hw => by go_simp) hS rfl ?_
      simp only [Act.put, List.setIfInBounds_toArray, List.set_cons_zero, List.set_cons_succ]
      refine hs_take (i := 41) (d := some 70) (v := .bool false) rfl (by kernel_rfl) (by kernel_rfl) (by kernel_rfl) (by rfl) (fun w' hw => by go_simp) hS rfl ?_
      simp only [Act.put, List.setIfInBounds_toArray, List.set_cons_zero, List.set_cons_succ]
      refine hs_take (i := 42) (d := some 71) (v := ?_) rfl (by kernel_rfl) (by kernel_rfl) (by kernel_rfl) (by rfl) ?_ hS rfl ?_
      rotate_left
      · intro w' hw
        go_simp
        try with_reducible rfl
      simp only [Act.put, List.setIfInBounds_toArray, List.set_cons_zero, List.set_cons_succ]
      refine hs_call (i := 43) (d := some 72) rfl (by kernel_rfl) (by rfl) (by go_simp; first | done | exact ⟨rfl, rfl⟩ | with_reducible rfl) rfl ?_
      refine (cPower wA (ku wA hS)).mono ?_
      rintro e' wB ⟨rfl, hx⟩
      have hS : (Below w8.heap.size w8) wB := by rw [hx]; exact hS
      refine ⟨_, rfl, hS, ?_⟩
      simp only [Act.put, List.setIfInBounds_toArray, List.set_cons_zero, List.set_cons_succ]
      obtain rfl := hx.symm
      clear hx
      refine hs_take (i := 44) (d := some 73) (v := .bool false) rfl (by kernel_rfl) (by kernel_rfl) (by kernel_rfl) (by rfl) (fun w' hw => by go_simp) hS rfl ?_
      simp only [Act.put, List.setIfInBounds_toArray, List.set_cons_zero, List.set_cons_succ]
      refine hs_take (i := 45) (d := some 74) (v := .bool false) rfl (by kernel_rfl) (by kernel_rfl) (by kernel_rfl) (by rfl) (fun w' hw => by go_simp) hS rfl ?_
      simp only [Act.put, List.setIfInBounds_toArray, List.set_cons_zero, List.set_cons_succ]
      refine hs_take (i := 46) (d := some 75) (v := .bool false) rfl (by kernel_rfl) (by kernel_rfl) (by kernel_rfl) (by rfl) (fun w' hw => by go_simp) hS rfl ?_
      simp only [Act.put, List.setIfInBounds_toArray, List.set_cons_zero, List.set_cons_succ]
      refine hs_take (i := 47) (d := some 76) (v := ?_) rfl (by kernel_rfl) (by kernel_rfl) (by kernel_rfl) (by rfl) ?_ hS rfl ?_
      rotate_left
      · intro w' hw
        go_simp
        try with_reducible rfl
      simp only [Act.put, List.setIfInBounds_toArray, List.set_cons_zero, List.set_cons_succ]
      refine hs_call (i := 48) (d := some 77) rfl (by kernel_rfl) (by rfl) (by go_simp; first | done | exact ⟨rfl, rfl⟩ | with_reducible rfl) rfl ?_
      refine (cOn wA (ku wA hS)).mono ?_
      rintro e' wB ⟨rfl, hx⟩
      have hS : (Below w8.heap.size w8) wB := by rw [hx]; exact hS
      refine ⟨_, rfl, hS, ?_⟩
      simp only [Act.put, List.setIfInBounds_toArray, List.set_cons_zero, List.set_cons_succ]
      obtain rfl := hx.symm
      clear hx
      refine hs_take (i := 49) (d := some 78) (v := .bool false) rfl (by kernel_rfl) (by kernel_rfl) (by kernel_rfl) (by rfl) (fun w' hw => by go_simp) hS rfl ?_
      simp only [Act.put, List.setIfInBounds_toArray, List.set_cons_zero, List.set_cons_succ]
      refine hs_take (i := 50) (d := some 79) (v := .bool false) rfl (by kernel_rfl) (by kernel_rfl) (by kernel_rfl) (by rfl) (fun w' hw => by go_simp) hS rfl ?_
      simp only [Act.put, List.setIfInBounds_toArray, List.set_cons_zero, List.set_cons_succ]
      refine hs_take (i := 51) (d := some 80) (v := ?_) rfl (by kernel_rfl) (by kernel_rfl) (by kernel_rfl) (by rfl) ?_ hS rfl ?_
      rotate_left
      · intro w' hw
        go_simp
        try with_reducible rfl
      simp only [Act.put, List.setIfInBounds_toArray, List.set_cons_zero, List.set_cons_succ]
      refine hs_take (i := 53) (d := some 82) (v := ?_) rfl (by kernel_rfl) (by kernel_rfl) (by kernel_rfl) (by rfl) ?_ hS rfl ?_
      rotate_left
      · intro w' hw
        go_simp
        try with_reducible rfl
      simp only [Act.put, List.setIfInBounds_toArray, List.set_cons_zero, List.set_cons_succ]
      refine hs_take (i := 54) (d := some 83) (v := ?_) rfl (by kernel_rfl) (by kernel_rfl) (by kernel_rfl) (by rfl) ?_ hS rfl ?_
      rotate_left
      · intro w' hw
        go_simp
        try with_reducible rfl
      simp only [Act.put, List.setIfInBounds_toArray, List.set_cons_zero, List.set_cons_succ]
      refine hs_take (i := 55) (d := some 84) (v := ?_) rfl (by kernel_rfl) (by kernel_rfl) (by kernel_rfl) (by rfl) ?_ hS rfl ?_
      rotate_left
      · intro w' hw
        have hc := x1 w' hw
        go_simp
        try with_reducible rfl
      simp only [Act.put, List.setIfInBounds_toArray, List.set_cons_zero, List.set_cons_succ]
      refine hs_take (i := 58) (d := some 87) (v := ?_) rfl (by kernel_rfl) (by kernel_rfl) (by kernel_rfl) (by rfl) ?_ hS rfl ?_
      rotate_left
      · intro w' hw
        go_simp
        try with_reducible rfl
      simp only [Act.put, List.setIfInBounds_toArray, List.set_cons_zero, List.set_cons_succ]
      refine hs_take (i := 60) (d := some 89) (v := ?_) rfl (by kernel_rfl) (by kernel_rfl) (by kernel_rfl) (by rfl) ?_ hS rfl ?_
      rotate_left
      · intro w' hw
        go_simp
        try with_reducible rfl
      simp only [Act.put, List.setIfInBounds_toArray, List.set_cons_zero, List.set_cons_succ]
      refine hs_call (i := 52) (d := some 81) rfl (by kernel_rfl) (by rfl) (by go_simp; first | done | exact ⟨rfl, rfl⟩ | with_reducible rfl) rfl ?_
      refine (cUsed wA (ku wA hS)).mono ?_
      rintro e' wB ⟨rfl, hx⟩
      have hS : (Below w8.heap.size w8) wB := by rw [hx]; exact hS
      refine ⟨_, rfl, hS, ?_⟩
      simp only [Act.put, List.setIfInBounds_toArray, List.set_cons_zero, List.set_cons_succ]
      obtain rfl := hx.symm
      clear hx
      refine hs_call (i := 56) (d := some 85) rfl (by kernel_rfl) (by rfl) (by go_simp; first | done | exact ⟨rfl, rfl⟩ | with_reducible rfl) rfl ?_
      refine (cSure wA (ku wA hS)).mono ?_
      rintro e' wB ⟨rfl, hx⟩
      have hS : (Below w8.heap.size w8) wB := by rw [hx]; exact hS
      refine ⟨_, rfl, hS, ?_⟩
      simp only [Act.put, List.setIfInBounds_toArray, List.set_cons_zero, List.set_cons_succ]
      obtain rfl := hx.symm
      clear hx
      refine hs_take (i := 57) (d := some 86) (v := .int .i64 0) rfl (by kernel_rfl) (by kernel_rfl) (by kernel_rfl) (by rfl) (fun w' hw => by go_simp; rfl) hS rfl ?_
      simp only [Act.put, List.setIfInBounds_toArray, List.set_cons_zero, List.set_cons_succ]
      refine hs_take (i := 59) (d := some 88) (v := .int .i64 0) rfl (by kernel_rfl) (by kernel_rfl) (by kernel_rfl) (by rfl) (fun w' hw => by go_simp; rfl) hS rfl ?_
      simp only [Act.put, List.setIfInBounds_toArray, List.set_cons_zero, List.set_cons_succ]
      refine hs_take (i := 61) (d := some 90) (v := .int .i64 0) rfl (by kernel_rfl) (by kernel_rfl) (by kernel_rfl) (by rfl) (fun w' hw => by go_simp; rfl) hS rfl ?_
      simp only [Act.put, List.setIfInBounds_toArray, List.set_cons_zero, List.set_cons_succ]
      refine hs_take (i := 62) (d := some 91) (v := .bool false) rfl (by kernel_rfl) (by kernel_rfl) (by kernel_rfl) (by rfl) (fun w' hw => by go_simp) hS rfl ?_
      simp only [Act.put, List.setIfInBounds_toArray, List.set_cons_zero, List.set_cons_succ]
      refine hs_take (i := 63) (d := some 92) (v := .bool false) rfl (by kernel_rfl) (by kernel_rfl) (by kernel_rfl) (by rfl) (fun w' hw => by go_simp) hS rfl ?_
      simp only [Act.put, List.setIfInBounds_toArray, List.set_cons_zero, List.set_cons_succ]
      refine hs_done (by kernel_rfl) ?_
      have hBA := hB8.trans (hS.mono hB8.size)
      go_wp2_with fail
      go_roundw
      case rel => exact ⟨k + 1, by omega, by go_num, hBA⟩
      case measure => simp [intOf]; omega
    · have k1 : ¬ (k : Int) < 2 := by omega
      have hBr := hB2.trans (hB.mono hB2.size)
      have cL := cL wr
      go_wp2_with fail
      refine cL.mono ?_
      rintro e w9 ⟨rfl, hb9⟩
      clear cL
      go_wp2_with fail
      go_ret
      exact ⟨rfl, hBr.trans (hb9.mono hBr.size)⟩
end Go.Proofs.Ytfkchnjbbbhmjaa
