/- rows of whatever; windows, batches, acts -/
import Derived.Test.YtbfcbjjhdadicaaDoorP3
import Derived.Test.YtbfcbjjhdadicaaDoorPX
namespace Go.Proofs.YtbfcbjjhdadicaaDoor
open Go.ChangeShapes Go.WideShapes Go.ChangeAt Go.RowKit
open Sha Tal
/-- a slice whose elements' cells are f's -/
def RowOf {α : Type} (f : α → List Value) (w : World) (a : Option Addr) (ys : List α) : Prop := ys = [] ∨ ∃ b off, a = some ⟨b, off, none⟩ ∧ b < w.heap.size ∧ w.rangeAt b off (ys.flatMap f)
theorem RowOf.below {α : Type} {f : α → List Value} {w w' : World} {a : Option Addr} {ys : List α} (h : RowOf f w a ys) (hb : Below w.heap.size w w') : RowOf f w' a ys := by
  rcases h with h | ⟨b, off, rfl, h1, h2⟩
  · exact .inl h
  · exact .inr ⟨b, off, rfl, Nat.lt_of_lt_of_le h1 hb.size, range_below h2 hb h1⟩
theorem flat_len_k {α : Type} {f : α → List Value} {k : Nat} {ys : List α} (h : ∀ y ∈ ys, (f y).length = k) : (ys.flatMap f).length = ys.length * k := by
  induction ys with
  | nil => simp
  | cons y ys ih =>
    have h1 := h y (by simp)
    have h2 := ih (fun x hx => h x (by simp [hx]))
    simp only [List.flatMap_cons, List.length_append, List.length_cons, Nat.add_mul, Nat.one_mul]
    omega
theorem RowOf.elem {α : Type} {f : α → List Value} {k : Nat} {w : World} {a : Option Addr} {ys : List α} (h : RowOf f w a ys) (hk : ∀ y ∈ ys, (f y).length = k) (i : Nat) (hi : i < ys.length) : ∃ b off, a = some ⟨b, off, none⟩ ∧ b < w.heap.size ∧ w.rangeAt b (off + i * k) (f ys[i]) := by
  rcases h with h0 | ⟨b, off, rfl, h1, h2⟩
  · subst h0; simp at hi
  · refine ⟨b, off, rfl, h1, ?_⟩
    have e : ys.take i ++ (ys[i] :: ys.drop (i + 1)) = ys := by rw [← List.drop_eq_getElem_cons hi, List.take_append_drop]
    have e2 : ys.flatMap f = (ys.take i).flatMap f ++ f ys[i] ++ (ys.drop (i + 1)).flatMap f := by
      have := congrArg (List.flatMap f) e
      rw [← this]
      simp only [List.flatMap_append, List.flatMap_cons, List.append_assoc]
    rw [e2] at h2
    have h3 := range_part h2
    rwa [flat_len_k (fun y hy => hk y (List.mem_of_mem_take hy)), List.length_take, Nat.min_eq_left (by omega)] at h3
theorem flat_get {α : Type} {f : α → List Value} {k : Nat} (hk : 0 < k) (R : Nat → α) : ∀ (n : Nat), (∀ i, i < n → (f (R i)).length = k) → ∀ j, j < n * k → (((List.range n).map R).flatMap f)[j]? = (f (R (j / k)))[j % k]? := by
  intro n
  induction n with
  | zero => intro _ j hj; omega
  | succ n ih =>
    intro hR j hj
    have hl : (((List.range n).map R).flatMap f).length = n * k := by
      have := flat_len_k (f := f) (k := k) (ys := (List.range n).map R) (fun y hy => by
        obtain ⟨i, hi, rfl⟩ := List.mem_map.1 hy
        exact hR i (by have := List.mem_range.1 hi; omega))
      simpa using this
    rw [List.range_succ, List.map_append, List.flatMap_append]
    by_cases h : j < n * k
    · rw [List.getElem?_append_left (by omega), ih (fun i hi => hR i (by omega)) j h]
    · rw [List.getElem?_append_right (by omega), hl]
      have e0 : j = (j - n * k) + k * n := by rw [Nat.mul_comm k n]; omega
      have hlt : j - n * k < k := by rw [Nat.add_mul, Nat.one_mul] at hj; omega
      have e1 : j / k = n := by rw [e0, Nat.add_mul_div_left _ _ hk, Nat.div_eq_of_lt hlt]; omega
      have e2 : j % k = j - n * k := by
        have := congrArg (· % k) e0
        simp only [Nat.add_mul_mod_self_left] at this
        rw [this, Nat.mod_eq_of_lt hlt]
      rw [e1, e2]
      simp
set_option maxRecDepth 100000 in
theorem rows_of {α : Type} [Inhabited α] (f : α → List Value) (ok : α → Prop) (k : Nat) (hk : 0 < k) (tl te : TypeId) (hu : Tryd.prog.underlying tl = some (.slice te)) (hct : Tryd.prog.cellsOf te = k) (hf : ∀ y, ok y → (f y).length = k)
    {H : Type} {enc : TypeId × Value → H} {W : World} {b : Nat} {sp : Nat → Bool} {held : Bool} {fuel : Nat} {l : List Value} {x : DataW H × List MemPlace}
    (hel : ∀ (m : Nat) (l : List Value) (z : DataW H × List MemPlace), DataW.trod enc Tryd.prog W b sp held m te l = some z → ∃ y, l = f y ∧ ok y)
    (h : DataW.trod enc Tryd.prog W b sp held fuel tl l = some x) : ∃ (a : Option Addr) (cap : Nat) (ys : List α), l = [.slice a ys.length cap] ∧ ys.length ≤ cap ∧ cap ≤ maxLen ∧ (∀ y ∈ ys, ok y) ∧ RowOf f W a ys := by
  rcases Deep.open_slice hu h with ⟨rfl, _⟩ | ⟨a, len, cap, m, n, D, Pl, rfl, hb, hlc, hcm, hm, _, hel2⟩
  · exact ⟨none, 0, [], rfl, by simp, by simp, by simp, .inl rfl⟩
  · rw [hct] at hel2
    have hml : len ≤ m := by rw [hm]; split <;> omega
    have key : ∀ i, i < len → ∃ y : α, W.cells? b (a.add (i * k)) k = some (f y) ∧ ok y := fun i hi => by
      obtain ⟨cs, h1, h2⟩ := hel2 i (by omega)
      obtain ⟨y, rfl, hy⟩ := hel _ _ _ h2
      exact ⟨y, h1, hy⟩
    obtain ⟨R, hR⟩ := Deep.choose_lt key
    refine ⟨some a, cap, (List.range len).map R, by simp, by simpa using hlc, hcm, ?_, ?_⟩
    · intro y hy
      obtain ⟨i, hi, rfl⟩ := List.mem_map.1 hy
      exact (hR i (List.mem_range.1 hi)).2
    · by_cases h0 : len = 0
      · left; simp [h0]
      · right
        obtain ⟨bb, off, spot⟩ := a
        have hlen0 := hf _ (hR 0 (by omega)).2
        have hc := (cells_some (hR 0 (by omega)).1).2 0 ((f (R 0))[0]'(by omega)) (List.getElem?_eq_getElem _)
        have hspot : spot = none := by simpa [Addr.add] using World.cell?_spot hc
        subst hspot
        refine ⟨bb, off, rfl, ?_, fun j v hv => ?_⟩
        · have := World.block_lt_of_cell? W _ hc; simpa [Addr.add] using this
        · have hj : j < len * k := by
            have := (List.getElem?_eq_some_iff.1 hv).1
            rw [flat_len_k (k := k)] at this
            · simpa using this
            · intro y hy
              obtain ⟨i, hi, rfl⟩ := List.mem_map.1 hy
              exact hf _ (hR i (List.mem_range.1 hi)).2
          rw [flat_get hk R len (fun i hi => hf _ (hR i hi).2) j hj] at hv
          have hdm : j / k < len := (Nat.div_lt_iff_lt_mul hk).2 hj
          have := (cells_some (hR (j / k) hdm).1).2 _ _ hv
          rw [Addr.add_mid, Addr.add_mid] at this
          rw [← this]
          congr 2
          have := Nat.div_add_mod j k
          rw [Nat.mul_comm] at this
          omega
/-- windows -/
def winL (p : Int × Int) : List Value := [.int .i64 p.1, .int .u64 p.2]
def winOk (p : Int × Int) : Prop := I64 p.1 ∧ 0 ≤ p.2 ∧ p.2 < 18446744073709551616
set_option maxRecDepth 100000 in
theorem win_of {H : Type} {enc : TypeId × Value → H} {W : World} {b : Nat} {sp : Nat → Bool} {held : Bool} {fuel : Nat} {l : List Value} {x : DataW H × List MemPlace}
    (h : DataW.trod enc Tryd.prog W b sp held fuel 69 l = some x) : ∃ p, l = winL p ∧ winOk p := by
  have hct : Tryd.prog.cellsOf 69 = 2 := by kernel_rfl
  have hci : Tryd.prog.cellsOf 3 = 1 := by kernel_rfl
  have hcu : Tryd.prog.cellsOf 67 = 1 := by kernel_rfl
  obtain ⟨xs, m, _, rfl, hcl, hl, hf⟩ := DataW.trod_struct Tryd.underlying69 h
  rw [hct] at hcl
  have hl : xs.length = 2 := hl
  have h0 : DataW.trod enc Tryd.prog W b sp held m 3 ((l.drop 0).take (Tryd.prog.cellsOf 3)) = xs[0]? := hf 0 _ rfl
  have h1 : DataW.trod enc Tryd.prog W b sp held m 67 ((l.drop 1).take (Tryd.prog.cellsOf 67)) = xs[1]? := hf 1 _ rfl
  rw [hci] at h0
  rw [hcu] at h1
  obtain ⟨y0, e0⟩ := some_at hl (show 0 < 2 by omega)
  obtain ⟨y1, e1⟩ := some_at hl (show 1 < 2 by omega)
  obtain ⟨c, g0, bc⟩ := int_at (h0.trans e0)
  obtain ⟨z, hc, rfl, hw⟩ := DataW.trod_int Tryd.underlying67 (h1.trans e1)
  have g1 := drop_one hc
  refine ⟨(c, z), ?_, bc, ?_⟩
  · match l, hcl with
    | [a0, a1], _ =>
      simp at g0 g1
      subst g0 g1
      rfl
  · simp [Lit.wf, IntKind.min, IntKind.max, IntKind.signed, IntKind.bits] at hw
    omega
/-- batches -/
structure Bx where
  q : Bool
  a : Option Addr
  cap : Nat
  rs : List Rq
deriving Inhabited
def Bx.cells (x : Bx) : List Value := [.bool x.q, .slice x.a x.rs.length x.cap]
def Bx.ok (W : World) (x : Bx) : Prop := x.rs.length ≤ x.cap ∧ x.cap ≤ maxLen ∧ ReqsAt W x.a x.rs
set_option maxRecDepth 100000 in
theorem bat_of {H : Type} {enc : TypeId × Value → H} {W : World} {b : Nat} {sp : Nat → Bool} {held : Bool} {fuel : Nat} {l : List Value} {x : DataW H × List MemPlace}
    (h : DataW.trod enc Tryd.prog W b sp held fuel 54 l = some x) : ∃ y : Bx, l = y.cells ∧ y.ok W := by
  have hct : Tryd.prog.cellsOf 54 = 2 := by kernel_rfl
  have hci : Tryd.prog.cellsOf 4 = 1 := by kernel_rfl
  have hcs : Tryd.prog.cellsOf 43 = 1 := by kernel_rfl
  obtain ⟨xs, m, _, rfl, hcl, hl, hf⟩ := DataW.trod_struct Tryd.underlying54 h
  rw [hct] at hcl
  have hl : xs.length = 2 := hl
  have h0 : DataW.trod enc Tryd.prog W b sp held m 4 ((l.drop 0).take (Tryd.prog.cellsOf 4)) = xs[0]? := hf 0 _ rfl
  have h1 : DataW.trod enc Tryd.prog W b sp held m 43 ((l.drop 1).take (Tryd.prog.cellsOf 43)) = xs[1]? := hf 1 _ rfl
  rw [hci] at h0
  rw [hcs] at h1
  obtain ⟨y0, e0⟩ := some_at hl (show 0 < 2 by omega)
  obtain ⟨y1, e1⟩ := some_at hl (show 1 < 2 by omega)
  obtain ⟨q, g0, _⟩ := DataW.trod_bool Tryd.underlying4 (h0.trans e0)
  obtain ⟨a, cap, rs, g1, k1, k2, k3⟩ := reqs_of (h1.trans e1)
  refine ⟨⟨q, a, cap, rs⟩, ?_, k1, k2, k3⟩
  have g0 := drop_one g0
  have g1 := drop_one g1
  match l, hcl with
  | [a0, a1], _ =>
    simp at g0 g1
    subst g0 g1
    rfl
/-- acts -/
structure Ac where
  kind : Int
  r : Rq
  ba : Option Addr
  bc : Nat
  bz : List Int
  most : Int
  ua : Option Addr
  uc : Nat
  us : List Bx
  wa : Option Addr
  wc : Nat
  ws : List (Int × Int)
deriving Inhabited
def Ac.cells (A : Ac) : List Value := .int .i64 A.kind :: (A.r.cells ++ [.slice A.ba A.bz.length A.bc, .int .i64 A.most, .slice A.ua A.us.length A.uc, .slice A.wa A.ws.length A.wc])
structure Ac.ok (W : World) (A : Ac) : Prop where
  r : A.r.ok
  b : IntsAt W A.ba A.bz
  bl : A.bz.length ≤ A.bc
  bm : A.bc ≤ maxLen
  m : I64 A.most
  u : RowOf Bx.cells W A.ua A.us
  uo : ∀ x ∈ A.us, x.ok W
  ul : A.us.length ≤ A.uc
  um : A.uc ≤ maxLen
  w : RowOf winL W A.wa A.ws
  wo : ∀ p ∈ A.ws, winOk p
  wl : A.ws.length ≤ A.wc
  wm : A.wc ≤ maxLen
  bi : ∀ z ∈ A.bz, I64 z
  ki : I64 A.kind
theorem Ac.ok.length {W : World} {A : Ac} (h : A.ok W) : A.cells.length = 24 := by
  have := h.r.length
  simp [Ac.cells]
  omega
theorem Ac.one (A : Ac) : ∀ v ∈ A.cells, v.oneCell' = true := by
  intro v hv
  simp only [Ac.cells, List.mem_cons, List.mem_append, List.not_mem_nil, or_false] at hv
  rcases hv with rfl | hv | rfl | rfl | rfl | rfl
  · rfl
  · exact A.r.one v hv
  all_goals rfl
set_option maxRecDepth 100000 in
theorem ints_of {H : Type} {enc : TypeId × Value → H} {W : World} {b : Nat} {sp : Nat → Bool} {held : Bool} {fuel : Nat} {l : List Value} {x : DataW H × List MemPlace}
    (h : DataW.trod enc Tryd.prog W b sp held fuel 36 l = some x) : ∃ (a : Option Addr) (cap : Nat) (zs : List Int), l = [.slice a zs.length cap] ∧ zs.length ≤ cap ∧ cap ≤ maxLen ∧ (∀ z ∈ zs, I64 z) ∧ IntsAt W a zs := by
  obtain ⟨a, cap, zs, h1, h2, h3, h4, h5⟩ := rows_of (fun z : Int => [Value.int .i64 z]) I64 1 (by omega) 36 3 Tryd.underlying36 (by kernel_rfl) (fun _ _ => rfl) (fun m l z hz => by
    obtain ⟨c, hc, rfl, hw⟩ := DataW.trod_int Tryd.underlying3 hz
    refine ⟨c, ?_, wf64 hw⟩
    simpa using hc) h
  refine ⟨a, cap, zs, h1, h2, h3, h4, ?_⟩
  rcases h5 with h5 | ⟨b, off, rfl, h6, h7⟩
  · exact .inl h5
  · refine .inr ⟨b, off, rfl, h6, ?_⟩
    have e : ∀ ys : List Int, ys.flatMap (fun z : Int => [Value.int .i64 z]) = intsV ys := fun ys => by
      induction ys with
      | nil => rfl
      | cons z ys ih => rw [List.flatMap_cons, ih]; rfl
    rwa [e] at h7
set_option maxRecDepth 100000 in
theorem act_of {H : Type} {enc : TypeId × Value → H} {W : World} {b : Nat} {sp : Nat → Bool} {held : Bool} {fuel : Nat} {l : List Value} {x : DataW H × List MemPlace}
    (h : DataW.trod enc Tryd.prog W b sp held fuel 40 l = some x) : ∃ A : Ac, l = A.cells ∧ A.ok W := by
  have hct : Tryd.prog.cellsOf 40 = 24 := by kernel_rfl
  have c3 : Tryd.prog.cellsOf 3 = 1 := by kernel_rfl
  have cr : Tryd.prog.cellsOf 35 = 19 := by kernel_rfl
  have ci : Tryd.prog.cellsOf 36 = 1 := by kernel_rfl
  have cb : Tryd.prog.cellsOf 37 = 1 := by kernel_rfl
  have cw : Tryd.prog.cellsOf 38 = 1 := by kernel_rfl
  obtain ⟨xs, m, _, rfl, hcl, hl, hf⟩ := DataW.trod_struct Tryd.underlying40 h
  rw [hct] at hcl
  have hl : xs.length = 6 := hl
  have h0 : DataW.trod enc Tryd.prog W b sp held m 3 ((l.drop 0).take (Tryd.prog.cellsOf 3)) = xs[0]? := hf 0 _ rfl
  have h1 : DataW.trod enc Tryd.prog W b sp held m 35 ((l.drop 1).take (Tryd.prog.cellsOf 35)) = xs[1]? := hf 1 _ rfl
  have h2 : DataW.trod enc Tryd.prog W b sp held m 36 ((l.drop 20).take (Tryd.prog.cellsOf 36)) = xs[2]? := hf 2 _ rfl
  have h3 : DataW.trod enc Tryd.prog W b sp held m 3 ((l.drop 21).take (Tryd.prog.cellsOf 3)) = xs[3]? := hf 3 _ rfl
  have h4 : DataW.trod enc Tryd.prog W b sp held m 37 ((l.drop 22).take (Tryd.prog.cellsOf 37)) = xs[4]? := hf 4 _ rfl
  have h5 : DataW.trod enc Tryd.prog W b sp held m 38 ((l.drop 23).take (Tryd.prog.cellsOf 38)) = xs[5]? := hf 5 _ rfl
  rw [c3] at h0 h3
  rw [cr] at h1
  rw [ci] at h2
  rw [cb] at h4
  rw [cw] at h5
  obtain ⟨y0, e0⟩ := some_at hl (show 0 < 6 by omega)
  obtain ⟨y1, e1⟩ := some_at hl (show 1 < 6 by omega)
  obtain ⟨y2, e2⟩ := some_at hl (show 2 < 6 by omega)
  obtain ⟨y3, e3⟩ := some_at hl (show 3 < 6 by omega)
  obtain ⟨y4, e4⟩ := some_at hl (show 4 < 6 by omega)
  obtain ⟨y5, e5⟩ := some_at hl (show 5 < 6 by omega)
  obtain ⟨kd, g0, bk⟩ := int_at (h0.trans e0)
  obtain ⟨r, g1, hr⟩ := req_of (h1.trans e1)
  obtain ⟨ba, bc, bz, g2, b1, b2, b3, b4⟩ := ints_of (h2.trans e2)
  obtain ⟨mo, g3, bm⟩ := int_at (h3.trans e3)
  obtain ⟨ua, uc, us, g4, u1, u2, u3, u4⟩ := rows_of Bx.cells (Bx.ok W) 2 (by omega) 37 54 Tryd.underlying37 (by kernel_rfl) (fun _ _ => rfl) (fun m l z hz => bat_of hz) (h4.trans e4)
  obtain ⟨wa, wc, ws, g5, w1, w2, w3, w4⟩ := rows_of winL winOk 2 (by omega) 38 69 Tryd.underlying38 (by kernel_rfl) (fun _ _ => rfl) (fun m l z hz => win_of hz) (h5.trans e5)
  refine ⟨⟨kd, r, ba, bc, bz, mo, ua, uc, us, wa, wc, ws⟩, ?_, ⟨hr, b4, b1, b2, bm, u4, u3, u1, u2, w4, w3, w1, w2, b3, bk⟩⟩
  have g2 := drop_one g2
  have g4 := drop_one g4
  have g5 := drop_one g5
  have hrl := hr.length
  show l = .int .i64 kd :: (r.cells ++ [.slice ba bz.length bc, .int .i64 mo, .slice ua us.length uc, .slice wa ws.length wc])
  match l, hcl with
  | a0 :: l, hcl =>
    simp only [List.getElem?_cons_zero, Option.some.injEq] at g0
    subst g0
    simp only [List.drop_succ_cons, List.drop_zero] at g1
    simp only [List.getElem?_cons_succ] at g2 g3 g4 g5
    congr 1
    rw [← g1]
    simp only [List.length_cons] at hcl
    apply List.ext_getElem?
    intro i
    by_cases hi : i < 19
    · rw [List.getElem?_append_left (by rw [List.length_take]; omega), List.getElem?_take_of_lt hi]
    · rw [List.getElem?_append_right (by rw [List.length_take]; omega), List.length_take, Nat.min_eq_left (by omega)]
      by_cases h19 : i = 19
      · subst h19; rw [g2]; rfl
      · by_cases h20 : i = 20
        · subst h20; rw [g3]; rfl
        · by_cases h21 : i = 21
          · subst h21; rw [g4]; rfl
          · by_cases h22 : i = 22
            · subst h22; rw [g5]; rfl
            · rw [List.getElem?_eq_none (by omega), List.getElem?_eq_none (by simp; omega)]
end Go.Proofs.YtbfcbjjhdadicaaDoor
