/- rows of requests; batches by value batches: their bytes, which may be read again, which are the same: no two unlike ones have the same bytes raddlelaw07.Light: are batches not more than are looked at? batches: their bytes batch.Put, the document's Put; batch.Digest, the document's the document's Plain and Same of batches the document's Same of batches batch.Digest, the document's Digest raddlelaw07.lives: the chapter's example holds -/
import Derived.Test.YtinpbnkmpplkiaaDoorFrameR
import Derived.Deep.Slices
import Derived.Test.YtinpbnkmpplkiaaDoorJRB
import Derived.Test.YtinpbnkmpplkiaaDoorRefSum
import Derived.Lib.SlBytesConst
namespace Go.Proofs.YtinpbnkmpplkiaaDoor
open Go.ChangeShapes Go.WideShapes Go.ChangeAt Go.RowKit
open Sha Tal
structure Rq where
  c : Int
  n : Int
  s : ByteArray
  t : List Int
deriving Inhabited
structure Rq.ok (r : Rq) : Prop where
  tl : r.t.length = 16
  tb : ∀ z ∈ r.t, 0 ≤ z ∧ z < 256
  sl : r.s.size ≤ maxLen
  cl : -9223372036854775808 ≤ r.c
  ch : r.c ≤ 9223372036854775807
  nl : -9223372036854775808 ≤ r.n
  nh : r.n ≤ 9223372036854775807
def Rq.cells (r : Rq) : List Value := reqL r.c r.n r.s r.t
theorem Rq.ok.length {r : Rq} (h : r.ok) : r.cells.length = 19 := by
  have := h.tl
  simp [Rq.cells, reqL, v8]
  omega
theorem Rq.one (r : Rq) : ∀ v ∈ r.cells, v.oneCell' = true := reqL_one _ _ _ _
def flatR (rs : List Rq) : List Value := rs.flatMap Rq.cells
theorem flatR_length {rs : List Rq} (h : ∀ r ∈ rs, r.ok) : (flatR rs).length = rs.length * 19 := by
  induction rs with
  | nil => rfl
  | cons r rs ih =>
    have h1 := (h r (by simp)).length
    have h2 := ih (fun x hx => h x (by simp [hx]))
    simp only [flatR, List.flatMap_cons, List.length_append, List.length_cons] at *
    omega
theorem flatR_append (a b : List Rq) : flatR (a ++ b) = flatR a ++ flatR b := by simp [flatR]
theorem flatR_one (rs : List Rq) : ∀ v ∈ flatR rs, v.oneCell' = true := fun v hv => by
  obtain ⟨r, _, h⟩ := List.mem_flatMap.1 hv
  exact r.one v h
/-- a slice of requests -/
def ReqsAt (w : World) (a : Option Addr) (rs : List Rq) : Prop :=
  rs.length ≤ maxLen ∧ (∀ r ∈ rs, r.ok) ∧ (rs = [] ∨ ∃ b off, a = some ⟨b, off, none⟩ ∧ b < w.heap.size ∧ w.rangeAt b off (flatR rs))
theorem ReqsAt.below {w w' : World} {a : Option Addr} {rs : List Rq} (h : ReqsAt w a rs) (hb : Below w.heap.size w w') : ReqsAt w' a rs := by
  refine ⟨h.1, h.2.1, ?_⟩
  rcases h.2.2 with h | ⟨b, off, rfl, h1, h2⟩
  · exact Or.inl h
  · exact Or.inr ⟨b, off, rfl, Nat.lt_of_lt_of_le h1 hb.size, range_below h2 hb h1⟩
theorem ReqsAt.belowN {w w' : World} {a : Option Addr} {rs : List Rq} {n : Nat} (h : ReqsAt w a rs) (hb : Below n w w') (hn : ∀ x, a = some x → x.block < n) : ReqsAt w' a rs := by
  refine ⟨h.1, h.2.1, ?_⟩
  rcases h.2.2 with h | ⟨b, off, rfl, h1, h2⟩
  · exact Or.inl h
  · exact Or.inr ⟨b, off, rfl, Nat.lt_of_lt_of_le h1 hb.size, range_below h2 hb (hn _ rfl)⟩
theorem ReqsAt.drew {w : World} {a : Option Addr} {rs : List Rq} (h : ReqsAt w a rs) : ReqsAt w.drew a rs := by
  refine ⟨h.1, h.2.1, ?_⟩
  rcases h.2.2 with h | ⟨b, off, rfl, h1, h2⟩
  · exact Or.inl h
  · exact Or.inr ⟨b, off, rfl, h1, (World.rangeAt_drew _ _ _ _).2 h2⟩
theorem flatR_split (rs : List Rq) (i : Nat) (hi : i < rs.length) : flatR rs = flatR (rs.take i) ++ rs[i].cells ++ flatR (rs.drop (i + 1)) := by
  have e : rs.take i ++ (rs[i] :: rs.drop (i + 1)) = rs := by rw [← List.drop_eq_getElem_cons hi, List.take_append_drop]
  have e2 := congrArg flatR e
  rw [← e2]
  simp only [flatR, List.flatMap_append, List.flatMap_cons, List.append_assoc]
theorem ReqsAt.elem {w : World} {a : Option Addr} {rs : List Rq} (h : ReqsAt w a rs) (i : Nat) (hi : i < rs.length) : ∃ b off, a = some ⟨b, off, none⟩ ∧ b < w.heap.size ∧ w.rangeAt b (off + i * 19) rs[i].cells := by
  rcases h.2.2 with h0 | ⟨b, off, rfl, h1, h2⟩
  · subst h0; simp at hi
  · refine ⟨b, off, rfl, h1, ?_⟩
    rw [flatR_split rs i hi] at h2
    have h3 := range_part h2
    rwa [flatR_length (fun r hr => h.2.1 r (List.mem_of_mem_take hr)), List.length_take, Nat.min_eq_left (by omega)] at h3
theorem ReqsAt.none {w : World} {a : Option Addr} : ReqsAt w a [] := ⟨by simp, by simp, .inl rfl⟩
set_option maxRecDepth 100000 in
theorem req_of {H : Type} {enc : TypeId × Value → H} {W : World} {b : Nat} {sp : Nat → Bool} {held : Bool} {fuel : Nat} {l : List Value} {x : DataW H × List MemPlace}
    (h : DataW.trod enc Tryd.prog W b sp held fuel 60 l = some x) : ∃ r : Rq, l = r.cells ∧ r.ok := by
  have hct : Tryd.prog.cellsOf 60 = 19 := by kernel_rfl
  have hci : Tryd.prog.cellsOf 3 = 1 := by kernel_rfl
  have hcs : Tryd.prog.cellsOf 9 = 1 := by kernel_rfl
  have hcg : Tryd.prog.cellsOf 58 = 16 := by kernel_rfl
  obtain ⟨xs, m, _, rfl, hcl, hl, hf⟩ := DataW.trod_struct Tryd.underlying60 h
  rw [hct] at hcl
  have hl : xs.length = 4 := hl
  have h0 : DataW.trod enc Tryd.prog W b sp held m 3 ((l.drop 0).take (Tryd.prog.cellsOf 3)) = xs[0]? := hf 0 _ rfl
  have h1 : DataW.trod enc Tryd.prog W b sp held m 3 ((l.drop 1).take (Tryd.prog.cellsOf 3)) = xs[1]? := hf 1 _ rfl
  have h2 : DataW.trod enc Tryd.prog W b sp held m 9 ((l.drop 2).take (Tryd.prog.cellsOf 9)) = xs[2]? := hf 2 _ rfl
  have h3 : DataW.trod enc Tryd.prog W b sp held m 58 ((l.drop 3).take (Tryd.prog.cellsOf 58)) = xs[3]? := hf 3 _ rfl
  rw [hci] at h0 h1
  rw [hcs] at h2
  rw [hcg] at h3
  obtain ⟨y0, e0⟩ := some_at hl (show 0 < 4 by omega)
  obtain ⟨y1, e1⟩ := some_at hl (show 1 < 4 by omega)
  obtain ⟨y2, e2⟩ := some_at hl (show 2 < 4 by omega)
  obtain ⟨y3, e3⟩ := some_at hl (show 3 < 4 by omega)
  obtain ⟨c, g0, bc⟩ := int_at (h0.trans e0)
  obtain ⟨n, g1, bn⟩ := int_at (h1.trans e1)
  obtain ⟨s, g2, hs⟩ := str_at (h2.trans e2)
  obtain ⟨t, g3, ht, hb⟩ := tag_at (h3.trans e3)
  refine ⟨⟨c, n, s, t⟩, ?_, ⟨ht, hb, hs, bc.1, bc.2, bn.1, bn.2⟩⟩
  show l = reqL c n s t
  match l, hcl with
  | a0 :: a1 :: a2 :: l, hcl =>
    simp at g0 g1 g2 hcl
    have : List.take 16 l = v8 t := g3
    rw [List.take_of_length_le (by omega)] at this
    subst g0 g1 g2 this
    rfl
theorem cells_some {w : World} {base n : Nat} {x : Addr} {cs : List Value} (h : w.cells? base x n = some cs) : cs.length = n ∧ ∀ j v, cs[j]? = some v → w.cell? (x.add j) = some v := by
  unfold World.cells? at h
  split at h
  · have hl := Lib.mapM_length h
    refine ⟨by simpa using hl, fun j v hv => ?_⟩
    have hj : j < n := by
      have := (List.getElem?_eq_some_iff.1 hv).1
      have : cs.length = n := by simpa using hl
      omega
    obtain ⟨y, hy, hf⟩ := Lib.mapM_at h j j (by simp [hj])
    rw [hv] at hy
    exact hf.trans hy.symm
  · cases h
theorem flatR_get (R : Nat → Rq) (hR : ∀ i, (R i).cells.length = 19) : ∀ (n j : Nat), j < n * 19 → (flatR ((List.range n).map R))[j]? = (R (j / 19)).cells[j % 19]? := by
  intro n
  induction n with
  | zero => intro j hj; omega
  | succ n ih =>
    intro j hj
    have hl : (flatR ((List.range n).map R)).length = n * 19 := by
      clear ih hj
      induction n with
      | zero => rfl
      | succ n ih => rw [List.range_succ, List.map_append, flatR_append, List.length_append, ih]; simp [flatR, hR]; omega
    rw [List.range_succ, List.map_append, flatR_append]
    by_cases h : j < n * 19
    · rw [List.getElem?_append_left (by omega), ih j h]
    · rw [List.getElem?_append_right (by omega), hl]
      have e1 : j / 19 = n := by omega
      have e2 : j % 19 = j - n * 19 := by omega
      rw [e1, e2]
      simp [flatR]
set_option maxRecDepth 100000 in
theorem reqs_of {H : Type} {enc : TypeId × Value → H} {W : World} {b : Nat} {sp : Nat → Bool} {held : Bool} {fuel : Nat} {l : List Value} {x : DataW H × List MemPlace}
    (h : DataW.trod enc Tryd.prog W b sp held fuel 22 l = some x) : ∃ (a : Option Addr) (cap : Nat) (rs : List Rq), l = [.slice a rs.length cap] ∧ rs.length ≤ cap ∧ cap ≤ maxLen ∧ ReqsAt W a rs := by
  have hct : Tryd.prog.cellsOf 60 = 19 := by kernel_rfl
  rcases Deep.open_slice Tryd.underlying22 h with ⟨rfl, _⟩ | ⟨a, len, cap, m, n, D, Pl, rfl, hb, hlc, hcm, hm, _, hel⟩
  · exact ⟨none, 0, [], rfl, by simp, by simp, ReqsAt.none⟩
  · rw [hct] at hel
    have hml : len ≤ m := by rw [hm]; split <;> omega
    have key : ∀ i, i < len → ∃ r : Rq, W.cells? b (a.add (i * 19)) 19 = some r.cells ∧ r.ok := fun i hi => by
      obtain ⟨cs, h1, h2⟩ := hel i (by omega)
      obtain ⟨r, rfl, hr⟩ := req_of h2
      exact ⟨r, h1, hr⟩
    obtain ⟨R0, hR0⟩ := Deep.choose_lt key
    obtain ⟨R, hRe⟩ : ∃ R : Nat → Rq, R = fun i => if i < len then R0 i else ⟨0, 0, ⟨#[]⟩, List.replicate 16 0⟩ := ⟨_, rfl⟩
    have hR : ∀ i, i < len → W.cells? b (a.add (i * 19)) 19 = some (R i).cells ∧ (R i).ok := fun i hi => by
      rw [hRe]; simp only [hi, if_true]; exact hR0 i hi
    have hRl : ∀ i, (R i).cells.length = 19 := fun i => by
      by_cases hi : i < len
      · exact (hR i hi).2.length
      · rw [hRe]; simp [hi, Rq.cells, reqL, v8]
    refine ⟨some a, cap, (List.range len).map R, by simp, by simpa using hlc, hcm, by simp; omega, ?_, ?_⟩
    · intro r hr
      obtain ⟨i, hi, rfl⟩ := List.mem_map.1 hr
      exact (hR i (List.mem_range.1 hi)).2
    · by_cases h0 : len = 0
      · left; simp [h0]
      · right
        obtain ⟨bb, off, spot⟩ := a
        have hc := (cells_some (hR 0 (by omega)).1).2 0 (.int .i64 (R 0).c) rfl
        have hspot : spot = none := by simpa [Addr.add] using World.cell?_spot hc
        subst hspot
        refine ⟨bb, off, rfl, ?_, fun j v hv => ?_⟩
        · have := World.block_lt_of_cell? W _ hc; simpa [Addr.add] using this
        · have hj : j < len * 19 := by
            have := (List.getElem?_eq_some_iff.1 hv).1
            rw [flatR_length] at this
            · simpa using this
            · intro r hr
              obtain ⟨i, hi, rfl⟩ := List.mem_map.1 hr
              exact (hR i (List.mem_range.1 hi)).2
          rw [flatR_get R hRl len j hj] at hv
          have := (cells_some (hR (j / 19) (by omega)).1).2 _ _ hv
          rw [Addr.add_mid, Addr.add_mid] at this
          rw [← this]
          congr 2
          omega
def batV (b : Bool) (a : Option Addr) (n cap : Nat) : Value := .agg #[.bool b, .slice a n cap]
set_option maxRecDepth 100000 in
theorem open_batch {H : Type} {enc : TypeId × Value → H} {W : World} {base b : Nat} {sp : Nat → Bool} {held : Bool} {fuel : Nat} {v : Value} {x : DataW H × List MemPlace} (hv : Value.okWide Tryd.prog W .any base 24 v)
    (h : DataW.trod enc Tryd.prog W b sp held fuel 24 v.cells.toList = some x) : ∃ (q : Bool) (a : Option Addr) (cap : Nat) (rs : List Rq), v = batV q a rs.length cap ∧ rs.length ≤ cap ∧ cap ≤ maxLen ∧ ReqsAt W a rs := by
  unfold Value.okWide at hv
  rw [Tryd.underlying24] at hv
  obtain ⟨cs, rfl, hsz, _⟩ := hv
  have hct : Tryd.prog.cellsOf 24 = 2 := by kernel_rfl
  have hci : Tryd.prog.cellsOf 4 = 1 := by kernel_rfl
  have hcs : Tryd.prog.cellsOf 22 = 1 := by kernel_rfl
  rw [hct] at hsz
  obtain ⟨xs, m, _, rfl, _, hl, hf⟩ := DataW.trod_struct Tryd.underlying24 h
  have hl : xs.length = 2 := hl
  simp only [Value.cells] at hf
  have h0 : DataW.trod enc Tryd.prog W b sp held m 4 ((cs.toList.drop 0).take (Tryd.prog.cellsOf 4)) = xs[0]? := hf 0 _ rfl
  have h1 : DataW.trod enc Tryd.prog W b sp held m 22 ((cs.toList.drop 1).take (Tryd.prog.cellsOf 22)) = xs[1]? := hf 1 _ rfl
  rw [hci] at h0
  rw [hcs] at h1
  obtain ⟨y0, e0⟩ := some_at hl (show 0 < 2 by omega)
  obtain ⟨y1, e1⟩ := some_at hl (show 1 < 2 by omega)
  obtain ⟨q, g0, _⟩ := DataW.trod_bool Tryd.underlying4 (h0.trans e0)
  obtain ⟨a, cap, rs, g1, k1, k2, k3⟩ := reqs_of (h1.trans e1)
  refine ⟨q, a, cap, rs, ?_, k1, k2, k3⟩
  unfold batV
  congr 1
  apply Array.ext'
  have hcl : cs.toList.length = 2 := by simpa using hsz
  have g0 := drop_one g0
  have g1 := drop_one g1
  generalize cs.toList = l at *
  match l, hcl with
  | [a0, a1], _ =>
    simp at g0 g1
    subst g0 g1
    rfl
end Go.Proofs.YtinpbnkmpplkiaaDoor
namespace Go.Proofs.YtinpbnkmpplkiaaDoor
open Sha Tal
def Rq.bytes (r : Rq) : List Int := putL r.c ++ putL r.n ++ textL r.s ++ r.t
def batL (q : Bool) (rs : List Rq) : List Int := if q then putL 0 else putL ((rs.length : Int) + 1) ++ rs.flatMap Rq.bytes
structure Rq.plain (r : Rq) : Prop where
  c0 : 0 ≤ r.c
  c1 : r.c ≤ 8
  n0 : 0 ≤ r.n
  n1 : r.n ≤ 1099511627776
  s1 : r.s.size ≤ 64
structure plainB (q : Bool) (rs : List Rq) : Prop where
  few : rs.length ≤ 4
  noop : q = true → rs = []
  all : ∀ r ∈ rs, r.plain
theorem rget_plain (r : Rq) (tail : List Int) (h : r.plain) (ht : r.t.length = 16) : rgetR (r.bytes ++ tail) 0 = ⟨r.c, r.n, strL r.s, r.t, tail, 0⟩ := by
  obtain ⟨c, n, s, t⟩ := r
  obtain ⟨c0, c1, n0, n1, hs⟩ := h
  simp only at c0 c1 n0 n1 hs ht ⊢
  unfold Rq.bytes
  have e1 : numS (putL c ++ putL n ++ textL s ++ t ++ tail) 0 8 = (c, putL n ++ (textL s ++ (t ++ tail)), 0) := by
    rw [List.append_assoc, List.append_assoc, List.append_assoc]
    exact numS_back c 8 (by omega) (by omega) (by omega) _
  have e2 := numS_back n 1099511627776 (by omega) (by omega) (by omega) (textL s ++ (t ++ tail))
  have e3 := textS_back s 64 (by omega) (by omega) (t ++ tail)
  have e4 : rawS (t ++ tail) 0 16 = (t, tail, 0) := by
    unfold rawS
    rw [if_pos rfl, if_neg (by decide), if_neg (by rw [List.length_append, ht]; omega)]
    show ((t ++ tail).take 16, (t ++ tail).drop 16, (0 : Int)) = _
    rw [← ht, List.take_left, List.drop_left]
  unfold rgetR
  simp only [e1, e2, e3, e4]
theorem strL_inj {s s' : ByteArray} (h : strL s = strL s') : s = s' := by
  rw [← strOf_strL s, ← strOf_strL s', h]
theorem flat_inj : ∀ (rs rs' : List Rq), rs.length = rs'.length → (∀ r ∈ rs, r.plain) → (∀ r ∈ rs', r.plain) → (∀ r ∈ rs, r.ok) → (∀ r ∈ rs', r.ok) → rs.flatMap Rq.bytes = rs'.flatMap Rq.bytes → rs = rs'
  | [], [], _, _, _, _, _, _ => rfl
  | r :: rs, r' :: rs', hl, h1, h2, h3, h4, he => by
    rw [List.flatMap_cons, List.flatMap_cons] at he
    have k1 := rget_plain r (rs.flatMap Rq.bytes) (h1 r (by simp)) (h3 r (by simp)).tl
    have k2 := rget_plain r' (rs'.flatMap Rq.bytes) (h2 r' (by simp)) (h4 r' (by simp)).tl
    rw [he, k2] at k1
    injection k1 with g1 g2 g3 g4 g5
    have g3 := strL_inj g3
    have ih := flat_inj rs rs' (by simpa using hl) (fun x hx => h1 x (by simp [hx])) (fun x hx => h2 x (by simp [hx])) (fun x hx => h3 x (by simp [hx])) (fun x hx => h4 x (by simp [hx])) g5.symm
    obtain ⟨c, n, s, t⟩ := r
    obtain ⟨c', n', s', t'⟩ := r'
    simp only at g1 g2 g3 g4
    rw [g1, g2, g3, g4, ih]
theorem bat_num (q : Bool) (rs : List Rq) (h : plainB q rs) : numS (batL q rs) 0 9223372036854775807 = (if q then 0 else (rs.length : Int) + 1, if q then [] else rs.flatMap Rq.bytes, 0) := by
  unfold batL
  have hf := h.few
  cases q with
  | true =>
    have := numS_back 0 9223372036854775807 (by omega) (by omega) (by omega) []
    simpa using this
  | false =>
    have := numS_back ((rs.length : Int) + 1) 9223372036854775807 (by omega) (by omega) (by omega) (rs.flatMap Rq.bytes)
    simpa using this
theorem bat_inj {q q' : Bool} {rs rs' : List Rq} (h : plainB q rs) (h' : plainB q' rs') (ho : ∀ r ∈ rs, r.ok) (ho' : ∀ r ∈ rs', r.ok) (he : batL q rs = batL q' rs') : q = q' ∧ rs = rs' := by
  have k := bat_num q rs h
  have k' := bat_num q' rs' h'
  rw [he, k'] at k
  injection k with k1 k2
  injection k2 with k2 _
  have hf := h.few
  have hf' := h'.few
  cases q <;> cases q'
  · simp at k1 k2
    exact ⟨rfl, flat_inj rs rs' (by omega) h.all h'.all ho ho' k2.symm⟩
  · simp at k1; omega
  · simp at k1; omega
  · exact ⟨rfl, by rw [h.noop rfl, h'.noop rfl]⟩
def rqB (r r' : Rq) : Bool := reqB r.c r.n r.s r.t r'.c r'.n r'.s r'.t
theorem rqB_iff {r r' : Rq} : rqB r r' = true ↔ r = r' := by
  obtain ⟨c, n, s, t⟩ := r
  obtain ⟨c', n', s', t'⟩ := r'
  constructor
  · intro h
    simp only [rqB, reqB, Bool.and_eq_true, beq_iff_eq] at h
    obtain ⟨rfl, rfl, h3, rfl⟩ := h
    rw [ByteArray.toList_eq, ByteArray.toList_eq] at h3
    rw [ByteArray.ext (Array.toList_inj.mp h3)]
  · rintro ⟨⟩
    exact reqB_same _ _ _ _
end Go.Proofs.YtinpbnkmpplkiaaDoor
namespace Go.Proofs.YtinpbnkmpplkiaaDoor
open Go.RowKit
open Sha Tal
def addTo4 (n m : Int) : Int := if n + m ≤ 4000 then n + m else 4001
set_option maxRecDepth 100000 in
set_option maxHeartbeats 400000 in
theorem add4000_any (n m : Int) (w : World) (h0 : 0 ≤ n) (h1 : n ≤ 4001) (h2 : 0 ≤ m) (h3 : m ≤ 9223372036854775807) :
    Calls Tryd.prog 34 #[.int .i64 n, .int .i64 m, .int .i64 4000] w fun e w' => e = .returned (.int .i64 (addTo4 n m)) ∧ w' = w := by
  by_cases c1 : 4000 < n
  · have HA : Hid (addTo4 n m = 4001) := by show _ = _; unfold addTo4; rw [if_neg (by omega)]
    rw [HA.out]
    go_enter Tryd.func34, Tryd.ntmps34
    go_wp2
    go_ret
    exact ⟨rfl, rfl⟩
  · by_cases c2 : 4000 < m
    · have HA : Hid (addTo4 n m = 4001) := by show _ = _; unfold addTo4; rw [if_neg (by omega)]
      rw [HA.out]
      go_enter Tryd.func34, Tryd.ntmps34
      go_wp2
      go_ret
      exact ⟨rfl, rfl⟩
    · by_cases c3 : 4000 - m < n
      · have HA : Hid (addTo4 n m = 4001) := by show _ = _; unfold addTo4; rw [if_neg (by omega)]
        rw [HA.out]
        go_enter Tryd.func34, Tryd.ntmps34
        go_wp2
        go_ret
        exact ⟨rfl, rfl⟩
      · have HA : Hid (addTo4 n m = n + m) := by show _ = _; unfold addTo4; rw [if_pos (by omega)]
        rw [HA.out]
        go_enter Tryd.func34, Tryd.ntmps34
        go_wp2
        go_ret
        exact ⟨rfl, rfl⟩
structure Bat where
  q : Bool
  a : Option Addr
  cap : Nat
  rs : List Rq
def Bat.cells (x : Bat) : List Value := [.bool x.q, .slice x.a x.rs.length x.cap]
def Bat.at (x : Bat) (w : World) : Prop := ReqsAt w x.a x.rs ∧ x.rs.length ≤ x.cap ∧ x.cap ≤ maxLen
theorem Bat.at.below {x : Bat} {w w' : World} (h : x.at w) (hb : Below w.heap.size w w') : x.at w' := ⟨h.1.below hb, h.2.1, h.2.2⟩
def BatsAt (w : World) (b : Nat) (xs : List Bat) : Prop := xs.length ≤ 2 ∧ (∀ x ∈ xs, x.at w) ∧ b < w.heap.size ∧ w.rangeAt b 0 (xs.flatMap Bat.cells)
theorem BatsAt.below {w w' : World} {b : Nat} {xs : List Bat} (h : BatsAt w b xs) (hb : Below w.heap.size w w') : BatsAt w' b xs :=
  ⟨h.1, fun x hx => (h.2.1 x hx).below hb, Nat.lt_of_lt_of_le h.2.2.1 hb.size, range_below h.2.2.2 hb h.2.2.1⟩
theorem BatsAt.cell {w : World} {b : Nat} {xs : List Bat} (h : BatsAt w b xs) (k : Nat) (hk : k < xs.length) : w.cell? ⟨b, k * 2 + 1, none⟩ = some (.slice xs[k].a xs[k].rs.length xs[k].cap) := by
  have h4 := h.2.2.2
  have h1 := h.1
  match xs, k, hk, h4 with
  | [x], 0, _, h4 => exact h4 1 _ rfl
  | [x, y], 0, _, h4 => exact h4 1 _ rfl
  | [x, y], 1, _, h4 => exact h4 3 _ rfl
  | x :: y :: z :: l, _, _, _ => simp at h1
def wtR (rs : List Rq) : Nat := (rs.map fun r => 20 + r.s.size).sum
def wt (xs : List Bat) : Nat := (xs.map fun x => 5 + wtR x.rs).sum
theorem wtR_take (rs : List Rq) (k : Nat) (hk : k < rs.length) : wtR (rs.take (k + 1)) = wtR (rs.take k) + (20 + rs[k].s.size) := by
  unfold wtR
  rw [List.take_succ_eq_append_getElem hk]
  simp only [List.map_append, List.map_cons, List.map_nil, List.sum_append, List.sum_cons, List.sum_nil]
  omega
theorem wt_take (xs : List Bat) (k : Nat) (hk : k < xs.length) : wt (xs.take (k + 1)) = wt (xs.take k) + (5 + wtR xs[k].rs) := by
  unfold wt
  rw [List.take_succ_eq_append_getElem hk]
  simp only [List.map_append, List.map_cons, List.map_nil, List.sum_append, List.sum_cons, List.sum_nil]
  omega
set_option maxRecDepth 100000 in
set_option maxHeartbeats 2000000 in
theorem light_any (b cap : Nat) (xs : List Bat) (w : World) (h : BatsAt w b xs) :
    Calls Tryd.prog 9 #[.slice (some ⟨b, 0, none⟩) xs.length cap] w fun e w' => (e = .returned (.bool false) ∧ Below w.heap.size w w') ∨ (e = .returned (.bool true) ∧ Below w.heap.size w w' ∧ wt xs ≤ 4000) := by
  have hxl := h.1
  go_enter Tryd.func9, Tryd.ntmps9
  go_wp2
  go_loopw [3, 4] (fun nv iv wr => ∃ (k : Nat) (n : Int), k ≤ xs.length ∧ iv = .int .i64 (k : Int) ∧ nv = .int .i64 n ∧ 0 ≤ n ∧ n ≤ 4001 ∧ Hid (n ≤ 4000 → n = wt (xs.take k)) ∧ Below w.heap.size w wr) (fun _ iv _ => xs.length - (intOf iv).toNat)
  case atStart => exact ⟨0, 0, by omega, rfl, rfl, by omega, by omega, hide (fun _ => by simp [wt]), Below.refl _ _⟩
  case round =>
    obtain ⟨k, n, hk, rfl, rfl, h0, h1, HL, hbel⟩ := hrel
    obtain ⟨wo, rfl⟩ : ∃ wo, wo = wr := ⟨_, rfl⟩
    by_cases hlt : k < xs.length
    · by_cases hn : n ≤ 4000
      · have hW := h.below hbel
        have hc := hW.cell k hlt
        have hrow := (hW.2.1 xs[k] (List.getElem_mem hlt)).1
        have HT := hide (wt_take xs k hlt)
        obtain ⟨xa, hxa⟩ : ∃ xa, Hid (xs[k].a = xa) := ⟨_, hide rfl⟩
        obtain ⟨xc, hxc⟩ : ∃ xc, Hid (xs[k].cap = xc) := ⟨_, hide rfl⟩
        obtain ⟨xr, hxr⟩ : ∃ xr, Hid (xs[k].rs = xr) := ⟨_, hide rfl⟩
        rw [hxa.out, hxc.out, hxr.out] at hc
        rw [hxa.out, hxr.out] at hrow
        rw [hxr.out] at HT
        clear hxa hxc hxr
        have hrl := hrow.1
        unfold maxLen at hrl
        have hbw := hW.2.2.1
        have k1 : (k : Int) < xs.length := by omega
        have ca := add4000_any n 5 wo h0 h1 (by omega) (by omega)
        have HA : Hid (addTo4 n 5 ≤ 4001 ∧ 0 ≤ addTo4 n 5 ∧ (addTo4 n 5 ≤ 4000 → addTo4 n 5 = wt (xs.take k) + 5)) := by
          unfold addTo4
          have := HL.out hn
          split
          · refine ⟨by omega, by omega, fun _ => by omega⟩
          · refine ⟨by omega, by omega, fun h => by omega⟩
        obtain ⟨p, hp⟩ : ∃ p, Hid (addTo4 n 5 = p) := ⟨_, hide rfl⟩
        rw [hp.out] at ca HA
        clear hp
        go_wp2_with fail
        refine ca.mono ?_
        rintro e w1 ⟨rfl, hx⟩
        obtain rfl := hx.symm
        clear hx ca
        go_wp2
        go_loopw [3, 5] (fun nv jv wq => ∃ (j : Nat) (m : Int), j ≤ xr.length ∧ jv = .int .i64 (j : Int) ∧ nv = .int .i64 m ∧ 0 ≤ m ∧ m ≤ 4001 ∧ Hid (m ≤ 4000 → m = wt (xs.take k) + 5 + wtR (xr.take j)) ∧ Below wo.heap.size wo wq) (fun _ jv _ => xr.length - (intOf jv).toNat)
        case atStart => exact ⟨0, p, by omega, rfl, rfl, HA.out.2.1, HA.out.1, hide (fun q => by have := HA.out.2.2 q; simp [wtR]; omega), Below.refl _ _⟩
        case round =>
          obtain ⟨j, m, hj, rfl, rfl, m0, m1, HM, hbq⟩ := hrel
          have hcq := (hbq.cell (p := ⟨b, k * 2 + 1, none⟩) hbw).trans hc
          by_cases hjl : j < xr.length
          · have j1 : (j : Int) < xr.length := by omega
            by_cases hm : m ≤ 4000
            · obtain ⟨rb, off, rfl, hrb, hre⟩ := hrow.elem j hjl
              have HT2 := hide (wtR_take xr j hjl)
              obtain ⟨r, hr⟩ : ∃ r, Hid (xr[j] = r) := ⟨_, hide rfl⟩
              have hrs : r.s.size ≤ maxLen := by rw [← hr.out]; exact (hrow.2.1 _ (List.getElem_mem hjl)).sl
              unfold maxLen at hrs
              rw [hr.out] at hre HT2
              have hre2 : wo.cell? ⟨rb, off + j * 19 + 2, none⟩ = some (.string r.s) := hre 2 _ rfl
              clear hre hr
              have HA2 : Hid (addTo4 m 20 ≤ 4001 ∧ 0 ≤ addTo4 m 20 ∧ (addTo4 m 20 ≤ 4000 → addTo4 m 20 = wt (xs.take k) + 5 + wtR (xr.take j) + 20)) := by
                unfold addTo4
                have := HM.out hm
                split
                · refine ⟨by omega, by omega, fun _ => by omega⟩
                · refine ⟨by omega, by omega, fun h => by omega⟩
              have ca := fun w0 => add4000_any m 20 w0 m0 m1 (by omega) (by omega)
              obtain ⟨p2, hp2⟩ : ∃ p, Hid (addTo4 m 20 = p) := ⟨_, hide rfl⟩
              simp only [hp2.out] at ca
              rw [hp2.out] at HA2
              have cb := fun w0 => add4000_any p2 (r.s.size : Int) w0 HA2.out.2.1 HA2.out.1 (by omega) (by omega)
              have HA3 : Hid (addTo4 p2 r.s.size ≤ 4001 ∧ 0 ≤ addTo4 p2 r.s.size ∧ (addTo4 p2 r.s.size ≤ 4000 → addTo4 p2 r.s.size = wt (xs.take k) + 5 + wtR (xr.take (j + 1)))) := by
                unfold addTo4
                have := HA2.out
                have := HT2.out
                split
                · refine ⟨by omega, by omega, fun _ => by have := HA2.out.2.2 (by omega); omega⟩
                · refine ⟨by omega, by omega, fun h => by omega⟩
              obtain ⟨p3, hp3⟩ : ∃ p, Hid (addTo4 p2 r.s.size = p) := ⟨_, hide rfl⟩
              simp only [hp3.out] at cb
              rw [hp3.out] at HA3
              clear hp2 hp3 HT2 HA2
              go_wp2_with fail
              obtain ⟨w5, hw5⟩ : ∃ w5, wr.drew = w5 := ⟨_, rfl⟩
              have hB5 : Below wo.heap.size wo w5 := by rw [← hw5]; exact hbq.drew
              have c1 : ∀ w', Below w5.heap.size w5 w' → w'.cell? ⟨b, k * 2 + 1, none⟩ = some (.slice (some ⟨rb, off, none⟩) xr.length xc) := fun w' hw' => ((hB5.trans (hw'.mono hB5.size)).cell (p := ⟨b, k * 2 + 1, none⟩) hbw).trans hc
              have c2 : ∀ w', Below w5.heap.size w5 w' → w'.cell? ⟨rb, off + j * 19 + 2, none⟩ = some (.string r.s) := fun w' hw' => ((hB5.trans (hw'.mono hB5.size)).cell (p := ⟨rb, off + j * 19 + 2, none⟩) hrb).trans hre2
              refine hs_begin (S := (Below w5.heap.size w5)) 14 rfl (by kernel_rfl) ?_
              rw [hw5]
              clear hw5 hcq hbq
              have hS : (Below w5.heap.size w5) w5 := Below.refl _ _
              refine hs_take (i := 0) (d := some 32) (v := ?_) rfl (by kernel_rfl) (by kernel_rfl) (by kernel_rfl) (by rfl) ?_ hS rfl ?_
              rotate_left
              · intro w' hw
                go_simp
                try with_reducible rfl
              simp only [Act.put, List.setIfInBounds_toArray, List.set_cons_zero, List.set_cons_succ]
              refine hs_take (i := 2) (d := some 34) (v := ?_) rfl (by kernel_rfl) (by kernel_rfl) (by kernel_rfl) (by rfl) ?_ hS rfl ?_
              rotate_left
              · intro w' hw
                go_simp
                try with_reducible rfl
              simp only [Act.put, List.setIfInBounds_toArray, List.set_cons_zero, List.set_cons_succ]
              refine hs_take (i := 3) (d := some 35) (v := ?_) rfl (by kernel_rfl) (by kernel_rfl) (by kernel_rfl) (by rfl) ?_ hS rfl ?_
              rotate_left
              · intro w' hw
                go_simp
                try with_reducible rfl
              simp only [Act.put, List.setIfInBounds_toArray, List.set_cons_zero, List.set_cons_succ]
              refine hs_take (i := 4) (d := some 36) (v := ?_) rfl (by kernel_rfl) (by kernel_rfl) (by kernel_rfl) (by rfl) ?_ hS rfl ?_
              rotate_left
              · intro w' hw
                go_simp
                try with_reducible rfl
              simp only [Act.put, List.setIfInBounds_toArray, List.set_cons_zero, List.set_cons_succ]
              refine hs_take (i := 5) (d := some 37) (v := ?_) rfl (by kernel_rfl) (by kernel_rfl) (by kernel_rfl) (by rfl) ?_ hS rfl ?_
              rotate_left
              · intro w' hw
                go_simp
                try with_reducible rfl
              simp only [Act.put, List.setIfInBounds_toArray, List.set_cons_zero, List.set_cons_succ]
              refine hs_take (i := 6) (d := some 38) (v := ?_) rfl (by kernel_rfl) (by kernel_rfl) (by kernel_rfl) (by rfl) ?_ hS rfl ?_
              rotate_left
              · intro w' hw
                have hc := c1 w' hw
                go_simp
                try with_reducible rfl
              simp only [Act.put, List.setIfInBounds_toArray, List.set_cons_zero, List.set_cons_succ]
              refine hs_take (i := 7) (d := some 39) (v := ?_) rfl (by kernel_rfl) (by kernel_rfl) (by kernel_rfl) (by rfl) ?_ hS rfl ?_
              rotate_left
              · intro w' hw
                go_simp
                try with_reducible rfl
              simp only [Act.put, List.setIfInBounds_toArray, List.set_cons_zero, List.set_cons_succ]
              refine hs_take (i := 8) (d := some 40) (v := ?_) rfl (by kernel_rfl) (by kernel_rfl) (by kernel_rfl) (by rfl) ?_ hS rfl ?_
              rotate_left
              · intro w' hw
                go_simp
                try with_reducible rfl
              simp only [Act.put, List.setIfInBounds_toArray, List.set_cons_zero, List.set_cons_succ]
              refine hs_take (i := 9) (d := some 41) (v := ?_) rfl (by kernel_rfl) (by kernel_rfl) (by kernel_rfl) (by rfl) ?_ hS rfl ?_
              rotate_left
              · intro w' hw
                go_simp
                try with_reducible rfl
              simp only [Act.put, List.setIfInBounds_toArray, List.set_cons_zero, List.set_cons_succ]
              refine hs_take (i := 10) (d := some 42) (v := ?_) rfl (by kernel_rfl) (by kernel_rfl) (by kernel_rfl) (by rfl) ?_ hS rfl ?_
              rotate_left
              · intro w' hw
                have hc := c2 w' hw
                go_simp
                try with_reducible rfl
              simp only [Act.put, List.setIfInBounds_toArray, List.set_cons_zero, List.set_cons_succ]
              refine hs_take (i := 11) (d := some 43) (v := ?_) rfl (by kernel_rfl) (by kernel_rfl) (by kernel_rfl) (by rfl) ?_ hS rfl ?_
              rotate_left
              · intro w' hw
                go_simp
                try with_reducible rfl
              simp only [Act.put, List.setIfInBounds_toArray, List.set_cons_zero, List.set_cons_succ]
              refine hs_call (i := 1) (d := some 33) rfl (by kernel_rfl) (by rfl) (by go_simp; first | done | exact ⟨rfl, rfl⟩ | with_reducible rfl) rfl ?_
              refine (ca w5).mono ?_
              rintro e' w6 ⟨rfl, hx⟩
              obtain rfl := hx.symm
              refine ⟨_, rfl, hS, ?_⟩
              simp only [Act.put, List.setIfInBounds_toArray, List.set_cons_zero, List.set_cons_succ]
              refine hs_call (i := 12) (d := some 44) rfl (by kernel_rfl) (by rfl) (by go_simp; first | done | exact ⟨rfl, rfl⟩ | with_reducible rfl) rfl ?_
              refine (cb w5).mono ?_
              rintro e' w7 ⟨rfl, hx⟩
              obtain rfl := hx.symm
              refine ⟨_, rfl, hS, ?_⟩
              simp only [Act.put, List.setIfInBounds_toArray, List.set_cons_zero, List.set_cons_succ]
              refine hs_take (i := 13) (d := some 3) (v := ?_) rfl (by kernel_rfl) (by kernel_rfl) (by kernel_rfl) (by rfl) ?_ hS rfl ?_
              rotate_left
              · intro w' hw
                go_simp
                try with_reducible rfl
              simp only [Act.put, List.setIfInBounds_toArray, List.set_cons_zero, List.set_cons_succ]
              refine hs_done (by kernel_rfl) ?_
              go_wp2
              go_roundw
              case rel => exact ⟨j + 1, p3, by omega, by go_num, rfl, HA3.out.2.1, HA3.out.1, hide HA3.out.2.2, hB5⟩
              case measure => simp [intOf]; omega
            · go_wp2
              go_roundw
              case rel => exact ⟨k + 1, m, by omega, by go_num, rfl, m0, m1, hide (fun q => absurd q hm), hbel.trans (hbq.mono hbel.size)⟩
              case measure => simp [intOf]; omega
          · have hj' : j = xr.length := by omega
            have HF : Hid (m ≤ 4000 → m = wt (xs.take (k + 1))) := by
              intro hm
              have h1 := HM.out hm
              have h2 := HT.out
              rw [hj', List.take_length] at h1
              omega
            have j1 : ¬ (j : Int) < xr.length := by omega
            clear HM
            go_wp2
            go_roundw
            case rel => exact ⟨k + 1, m, by omega, by go_num, rfl, m0, m1, HF, hbel.trans (hbq.mono hbel.size)⟩
            case measure => simp [intOf]; omega
      · go_wp2
        go_ret
        exact .inl ⟨rfl, hbel⟩
    · have hk' : k = xs.length := by omega
      have HF : Hid (n ≤ 4000 → wt xs ≤ 4000) := by
        intro hn
        have := HL.out hn
        rw [hk', List.take_length] at this
        omega
      have k1 : ¬ (k : Int) < xs.length := by omega
      clear HL
      by_cases hn : n ≤ 4000
      · go_wp2
        go_ret
        exact .inr ⟨rfl, hbel, HF.out hn⟩
      · go_wp2
        go_ret
        exact .inl ⟨rfl, hbel⟩
end Go.Proofs.YtinpbnkmpplkiaaDoor
namespace Go.Proofs.YtinpbnkmpplkiaaDoor
open Go.RowKit
open Sha Tal
theorem Rq.ok.isz {r : Rq} (h : r.ok) : (Tryd.prog.info? 60).map (·.size) = some r.cells.length := by rw [h.length]; exact iszR
theorem Rq.ok.iszA {r : Rq} (h : r.ok) : (Tryd.prog.info? 60).map (·.size) = some r.cells.toArray.size := by rw [List.size_toArray, h.length]; exact iszR
theorem Rq.ok.blank {r : Rq} (h : r.ok) (w : World) : (w.alloc (.cells #[.int .i64 0, .int .i64 0, .string ⟨#[]⟩, .int .u8 0, .int .u8 0, .int .u8 0, .int .u8 0, .int .u8 0, .int .u8 0, .int .u8 0, .int .u8 0, .int .u8 0, .int .u8 0, .int .u8 0, .int .u8 0, .int .u8 0, .int .u8 0, .int .u8 0, .int .u8 0] 60)).there w.heap.size 0 r.cells.toArray.size := by
  have := there_new w #[.int .i64 0, .int .i64 0, .string ⟨#[]⟩, .int .u8 0, .int .u8 0, .int .u8 0, .int .u8 0, .int .u8 0, .int .u8 0, .int .u8 0, .int .u8 0, .int .u8 0, .int .u8 0, .int .u8 0, .int .u8 0, .int .u8 0, .int .u8 0, .int .u8 0, .int .u8 0] 60
  have e : r.cells.toArray.size = 19 := by rw [List.size_toArray, h.length]
  rw [e]; exact this
def BatBox (w : World) (b : Nat) (q : Bool) (a : Option Addr) (n cap : Nat) : Prop := b < w.heap.size ∧ w.cell? ⟨b, 0, none⟩ = some (.bool q) ∧ w.cell? ⟨b, 1, none⟩ = some (.slice a n cap) ∧ w.rangeAt b 0 [.bool q, .slice a n cap]
theorem BatBox.below {w w' : World} {b : Nat} {q : Bool} {a : Option Addr} {n cap : Nat} (h : BatBox w b q a n cap) (hb : Below w.heap.size w w') : BatBox w' b q a n cap :=
  ⟨Nat.lt_of_lt_of_le h.1 hb.size, (hb.cell (p := ⟨b, 0, none⟩) h.1).trans h.2.1, (hb.cell (p := ⟨b, 1, none⟩) h.1).trans h.2.2.1, range_below h.2.2.2 hb h.1⟩
theorem BatBox.mk (w : World) (q : Bool) (a : Option Addr) (n cap : Nat) : BatBox (w.alloc (.cells #[.bool q, .slice a n cap] 24)) w.heap.size q a n cap := by
  have := range_new w #[.bool q, .slice a n cap] 24
  exact ⟨by simp, this 0 _ rfl, this 1 _ rfl, this⟩
theorem iszB : (Tryd.prog.info? 24).map (·.size) = some 2 := by kernel_rfl
def batP (rs : List Rq) (k : Nat) : List Int := putL ((rs.length : Int) + 1) ++ (rs.take k).flatMap Rq.bytes
theorem batP_succ (rs : List Rq) (k : Nat) (hk : k < rs.length) : batP rs (k + 1) = batP rs k ++ rs[k].bytes := by
  unfold batP
  rw [List.take_succ_eq_append_getElem hk]
  simp only [List.flatMap_append, List.flatMap_cons, List.flatMap_nil, List.append_nil, List.append_assoc]
theorem batP_all (rs : List Rq) : batP rs rs.length = batL false rs := by unfold batP batL; simp
theorem putL_le (n : Int) (h : n ≤ 9223372036854775807) : (putL n).length ≤ 9 := by
  have := putL_length n (by omega)
  omega
theorem bytes_le {r : Rq} (h : r.ok) (hs : r.s.size ≤ 4000) : r.bytes.length ≤ 4100 := by
  have h1 := putL_le r.c h.ch
  have h2 := putL_le r.n h.nh
  have h3 := putL_le (r.s.size : Int) (by omega)
  have h4 := h.tl
  simp only [Rq.bytes, textL, List.length_append, strL_length]
  omega
theorem flat_le : ∀ (rs : List Rq), (∀ r ∈ rs, r.ok) → (∀ r ∈ rs, r.s.size ≤ 4000) → (rs.flatMap Rq.bytes).length ≤ rs.length * 4100
  | [], _, _ => by simp
  | r :: rs, h1, h2 => by
    have k1 := bytes_le (h1 r (by simp)) (h2 r (by simp))
    have k2 := flat_le rs (fun x hx => h1 x (by simp [hx])) (fun x hx => h2 x (by simp [hx]))
    simp only [List.flatMap_cons, List.length_append, List.length_cons]
    omega
theorem batP_le (rs : List Rq) (k : Nat) (hn : rs.length ≤ 200) (h1 : ∀ r ∈ rs, r.ok) (h2 : ∀ r ∈ rs, r.s.size ≤ 4000) : (batP rs k).length ≤ 900000 := by
  have k1 := putL_le ((rs.length : Int) + 1) (by omega)
  have k2 := flat_le (rs.take k) (fun x hx => h1 x (List.mem_of_mem_take hx)) (fun x hx => h2 x (List.mem_of_mem_take hx))
  have k3 : (rs.take k).length ≤ 200 := by rw [List.length_take]; omega
  have k4 : (rs.take k).length * 4100 ≤ 200 * 4100 := Nat.mul_le_mul_right _ k3
  simp only [batP, List.length_append]
  omega
theorem batL_le (q : Bool) (rs : List Rq) (hn : rs.length ≤ 200) (h1 : ∀ r ∈ rs, r.ok) (h2 : ∀ r ∈ rs, r.s.size ≤ 4000) : (batL q rs).length ≤ 900000 := by
  cases q with
  | false => rw [← batP_all]; exact batP_le rs _ hn h1 h2
  | true => have := putL_le 0 (by omega); simp only [batL, if_true]; omega
theorem Rq.ok.put {r : Rq} (h : r.ok) (hs : r.s.size ≤ 4000) (w : World) : Calls Tryd.prog 64 #[.slice none 0 0, .agg r.cells.toArray] w fun e w' => ∃ v, e = .returned v ∧ Mine w' w.heap.size v r.bytes ∧ Below w.heap.size w w' := by
  have := rput_any none 0 [] r.c r.n r.s r.t w (nil_row w) (by simp) h.tl h.tb h.ch h.nh (by omega)
  simpa only [List.nil_append, List.length_nil, Rq.bytes, Rq.cells] using this
theorem Rq.ok.refPut {r : Rq} (h : r.ok) (hs : r.s.size ≤ 4000) (a : Option Addr) (cap : Nat) (zs : List Int) (w : World) (hr : RowAt w a zs) (hz : zs.length ≤ 1000000) : Calls Tryd.prog 45 #[.slice a zs.length cap, .agg r.cells.toArray] w fun e w' => ∃ v, e = .returned v ∧ Mine w' w.heap.size v (zs ++ r.bytes) ∧ Below w.heap.size w w' := by
  have := refRPut_any a cap zs r.c r.n r.s r.t w hr hz h.tl h.tb h.ch h.nh (by omega)
  simpa only [Rq.bytes, Rq.cells, List.append_assoc] using this
set_option maxRecDepth 100000 in
set_option maxHeartbeats 2000000 in
theorem bytesOf_any (q : Bool) (a : Option Addr) (cap : Nat) (rs : List Rq) (w : World) (h : ReqsAt w a rs) (hn : rs.length ≤ 200) (hs : ∀ r ∈ rs, r.s.size ≤ 4000) :
    Calls Tryd.prog 43 #[batV q a rs.length cap] w fun e w' => ∃ v, e = .returned v ∧ Mine w' w.heap.size v (batL q rs) ∧ Below w.heap.size w w' := by
  obtain ⟨i0, hi, hz0, hz1, hz2⟩ := info_parts info8
  unfold batV
  have hB1 : Below w.heap.size w (w.alloc (.cells #[.bool q, .slice a rs.length cap] 24)) := (Below.refl _ _).alloc (Nat.le_refl _) _
  have hb1 := BatBox.mk w q a rs.length cap
  cases q with
  | true =>
    have cp := fun w0 => put_any none 0 [] 0 w0 (nil_row w0) (by simp) (by omega)
    simp only [List.nil_append, List.length_nil] at cp
    have hL : Hid (batL true rs = putL 0) := by show _ = _; simp [batL]
    rw [hL.out]
    go_enter Tryd.func43, Tryd.ntmps43
    go_upto_region 1 with fail
    go_name_world w1 hw1
    rw [hw1] at hB1 hb1
    clear hw1
    obtain ⟨_, c0, c1, _⟩ := hb1
    go_wp2_with fail
    refine (cp w1).mono ?_
    rintro e w2 ⟨v2, rfl, m2, hw2⟩
    go_wp2_with fail
    go_ret
    exact ⟨_, rfl, m2.mono' hB1.size, hB1.trans (hw2.mono hB1.size)⟩
  | false =>
    have hall := h.2.1
    have hle := fun k => batP_le rs k hn hall hs
    have cp := fun w0 => put_any none 0 [] ((rs.length : Int) + 1) w0 (nil_row w0) (by simp) (by omega)
    simp only [List.nil_append, List.length_nil] at cp
    have h1 := h.below hB1
    go_enter Tryd.func43, Tryd.ntmps43
    go_upto_region 1 with fail
    go_name_world w1 hw1
    rw [hw1] at hB1 hb1 h1
    clear hw1
    obtain ⟨_, c0, c1, _⟩ := hb1
    go_wp2_with fail
    refine (cp w1).mono ?_
    rintro e w2 ⟨v2, rfl, m2, hw2⟩
    have c1' := (hw2.cell (p := ⟨w.heap.size, 1, none⟩) (by omega)).trans c1
    clear cp
    go_wp2
    go_loopw [3, 17] (fun ov iv wr => ∃ k : Nat, k ≤ rs.length ∧ iv = .int .i64 (k : Int) ∧ Hid (Mine wr w1.heap.size ov (batP rs k)) ∧ Below w1.heap.size w1 wr) (fun _ iv _ => rs.length - (intOf iv).toNat)
    case atStart => exact ⟨0, by omega, rfl, hide (by simpa [batP] using m2), hw2⟩
    case round =>
      clear c1' m2 hw2
      obtain ⟨k, hk, rfl, HM, hB⟩ := hrel
      by_cases hlt : k < rs.length
      · have k1 : (k : Int) < rs.length := by omega
        have hrow := h1.below hB
        have HS := hide (batP_succ rs k hlt)
        have hlen := hle k
        obtain ⟨b, off, rfl, hb, hre⟩ := hrow.elem k hlt
        obtain ⟨r, hr⟩ : ∃ r, Hid (rs[k] = r) := ⟨_, hide rfl⟩
        have hok : r.ok := by rw [← hr.out]; exact hall _ (List.getElem_mem hlt)
        have hrs : r.s.size ≤ 4000 := by rw [← hr.out]; exact hs _ (List.getElem_mem hlt)
        rw [hr.out] at hre HS
        clear hr hrow
        have hiq := hok.isz
        have hiA := hok.iszA
        have hN := hok.blank wr
        have h1c := all_oneCell_toArray r.one
        have hbl := bytes_le hok hrs
        have cpr := fun w0 => hok.put hrs w0
        have F := fresh_store wr #[.int .i64 0, .int .i64 0, .string ⟨#[]⟩, .int .u8 0, .int .u8 0, .int .u8 0, .int .u8 0, .int .u8 0, .int .u8 0, .int .u8 0, .int .u8 0, .int .u8 0, .int .u8 0, .int .u8 0, .int .u8 0, .int .u8 0, .int .u8 0, .int .u8 0, .int .u8 0] 60 r.cells (by rw [hok.length]; rfl)
        obtain ⟨q, hq⟩ : ∃ q, Hid (r.cells = q) := ⟨_, hide rfl⟩
        rw [hq.out] at hre hiq hiA hN h1c F
        simp only [hq.out] at cpr
        obtain ⟨bs, hbs⟩ : ∃ bs, Hid (r.bytes = bs) := ⟨_, hide rfl⟩
        simp only [hbs.out] at cpr
        rw [hbs.out] at HS hbl
        clear hq hbs hok hrs
        go_upto_region 6 with fail
        try simp only [Act.put]
        refine wp_region_list ?_
        refine wpList_step fun K hK => ?_
        go_simp
        refine hK _ _ ?_
        clear hK K
        refine wpList_load_mid rfl 60 _ rfl _ _ rfl q _ hre Tryd.underlying60 rfl hiq ?_
        go_upto_region 7 with (refine wpList_store_mid (op := ⟨none, .store 60 (.tmp 5) (.tmp 20), _, _, _, none⟩) rfl 60 _ _ rfl _ _ q.toArray rfl rfl hN hiA h1c ?_)
        go_name_world w3 hw3
        rw [show (wr.alloc (.cells #[.int .i64 0, .int .i64 0, .string ⟨#[]⟩, .int .u8 0, .int .u8 0, .int .u8 0, .int .u8 0, .int .u8 0, .int .u8 0, .int .u8 0, .int .u8 0, .int .u8 0, .int .u8 0, .int .u8 0, .int .u8 0, .int .u8 0, .int .u8 0, .int .u8 0, .int .u8 0] 60)).setCells wr.heap.size 0 q = w3 from hw3] at F
        clear hw3 hN
        obtain ⟨hR3, hF3, hz3, _⟩ := F
        have hB3 := hB.trans (hF3.mono hB.size)
        have HM3 := hide (HM.out.below hF3)
        clear HM hF3 hre
        try simp only [Act.put]
        refine wp_region_list ?_
        refine wpList_step fun K hK => ?_
        go_simp
        refine hK _ _ ?_
        clear hK K
        refine wpList_load_mid rfl 60 _ rfl _ _ rfl q _ hR3 Tryd.underlying60 rfl hiq ?_
        go_wp2_with fail
        refine (cpr w3).mono ?_
        rintro e w4 ⟨v4, rfl, m4, hw4⟩
        have hB4 := hB3.trans (hw4.mono hB3.size)
        have m3 := HM3.out.below hw4
        obtain ⟨a4, cap4, rfl, _, _, row4⟩ := m4.rowAt (by unfold maxLen; omega)
        clear HM3 cpr
        go_wp2_with (at_builtin; refine wpList_append_own_src _ rfl _ _ 39 39 rfl w1.heap.size 5 i0 (.int .u8 0) 1 1 Tryd.underlying39 hi hz0 hz1 hz2 rfl _ (batP rs k).length ((batP rs k).map (Value.int .u8)) rfl m3.1 (.slice a4 bs.length cap4) bs.length (v8 bs) rfl (row4.src cap4) ?c1 ?c2 ?c3 ?_)
        case c1 => unfold maxLen; omega
        case c2 => omega
        case c3 => exact hB4.size
        intro v5 w5 hown5 hgrow5
        have hB5 := below_grown hB4 hB4.size m3.1 hgrow5
        have mbs := m4.2
        have mbp := m3.2
        clear m3 m4 row4 hgrow5
        go_wp2
        go_roundw
        case rel =>
          refine ⟨k + 1, by omega, by go_num, hide ?_, hB5⟩
          rw [HS.out]
          exact Mine.mk' (batP rs k ++ bs) hown5 (by simp) (by simp [v8]) (by
            intro z hz'
            rcases List.mem_append.1 hz' with hz' | hz'
            · exact mbp z hz'
            · exact mbs z hz')
        case measure => simp [intOf]; omega
      · obtain rfl : k = rs.length := by omega
        go_wp2
        go_ret
        exact ⟨_, rfl, by rw [← batP_all]; exact HM.out.mono' hB1.size, hB1.trans (hB.mono hB1.size)⟩
set_option maxRecDepth 100000 in
theorem none_any (w : World) : Calls Tryd.prog 17 #[] w fun e w' => e = .returned (batV true none 0 0) ∧ Below w.heap.size w w' := by
  have F := fresh_store w #[.bool false, .slice none 0 0] 24 [.bool true, .slice none 0 0] rfl
  have hN : (w.alloc (.cells #[.bool false, .slice none 0 0] 24)).there w.heap.size 0 2 := there_new w #[.bool false, .slice none 0 0] 24
  have hrs := run_loadVar_mid (P := Tryd.prog) _ w.heap.size 0 24 [.bool true, .slice none 0 0] _ F.1 Tryd.underlying24 rfl iszB
  have hB := F.2.1
  go_enter Tryd.func17, Tryd.ntmps17
  go_upto_region 1 with fail
  try simp only [Act.put]
  refine wp_region_list ?_
  refine wpList_step fun K hK => ?_
  go_simp
  refine hK _ _ ?_
  clear hK K
  refine wpList_store_mid rfl 24 _ _ rfl _ _ #[.bool true, .slice none 0 0] rfl rfl hN iszB (by simp [Value.oneCell']) ?_
  go_wp2
  exact bodyPost_ret (v := .agg #[.bool true, .slice none 0 0]) (by simp [results, Tryd.results17, asAddr, hrs, Act.put]) rfl ⟨rfl, hB⟩
end Go.Proofs.YtinpbnkmpplkiaaDoor
namespace Go.Proofs.YtinpbnkmpplkiaaDoor
open Go.RowKit
open Sha Tal
theorem batI (q : Bool) (a : Option Addr) (n cap : Nat) : (Tryd.prog.info? 24).map (·.size) = some [Value.bool q, .slice a n cap].length := iszB
set_option maxRecDepth 100000 in
set_option maxHeartbeats 2000000 in
theorem bput_any (a0 : Option Addr) (cap0 : Nat) (zs : List Int) (q : Bool) (a : Option Addr) (cap : Nat) (rs : List Rq) (w : World) (h0 : RowAt w a0 zs) (hzl : zs.length ≤ 3000) (h : ReqsAt w a rs) (hn : rs.length ≤ 200) (hs : ∀ r ∈ rs, r.s.size ≤ 4000) :
    Calls Tryd.prog 23 #[.slice a0 zs.length cap0, batV q a rs.length cap] w fun e w' => ∃ v, e = .returned v ∧ Mine w' w.heap.size v (zs ++ batL q rs) ∧ Below w.heap.size w w' := by
  obtain ⟨i0, hi, hz0, hz1, hz2⟩ := info_parts info8
  have lF := batL_le q rs hn h.2.1 hs
  have cf := fun w0 h0 => bytesOf_any q a cap rs w0 h0 hn hs
  unfold batV at cf ⊢
  obtain ⟨F, hF⟩ : ∃ F, Hid (batL q rs = F) := ⟨_, hide rfl⟩
  rw [hF.out] at lF ⊢
  simp only [hF.out] at cf
  clear hF
  have hB1 : Below w.heap.size w (w.alloc (.cells #[.bool q, .slice a rs.length cap] 24)) := (Below.refl _ _).alloc (Nat.le_refl _) _
  have hb1 := BatBox.mk w q a rs.length cap
  have h1 := h.below hB1
  have hib := batI q a rs.length cap
  go_enter Tryd.func23, Tryd.ntmps23
  go_upto_region 1 with fail
  go_name_world w1 hw1
  rw [hw1] at hB1 hb1 h1
  clear hw1
  try simp only [Act.put]
  refine wp_region_list ?_
  refine wpList_load_mid rfl 24 _ rfl _ _ rfl [.bool q, .slice a rs.length cap] _ hb1.2.2.2 Tryd.underlying24 rfl hib ?_
  go_wp2_with fail
  refine (cf w1 h1).mono ?_
  rintro e w2 ⟨v2, rfl, m2, hw2⟩
  have hB2 := hB1.trans (hw2.mono hB1.size)
  obtain ⟨a2, cap2, rfl, _, _, row2⟩ := m2.rowAt (by unfold maxLen; omega)
  have mF := m2.2
  clear cf m2 hw2 hb1 h1 hib h
  go_wp2_with (first
    | refine wpList_make_own _ rfl _ _ 39 rfl w2.heap.size 5 i0 (.int .u8 0) 1 Tryd.underlying39 hi hz0 hz1 .i64 .i64 _ (zs.length + F.length) rfl rfl ?d1 ?d2 ?d3 ?d4 ?_)
  case d1 => omega
  case d2 => rw [hz2]; omega
  case d3 => unfold maxLen; omega
  case d4 => exact Nat.le_refl _
  intro w3 hown3 hgrow3
  have hb3 : Below w2.heap.size w2 w3 := (Below.refl _ _).grown hgrow3 (Nat.le_refl _) (fun k hk => by cases hk)
  go_wp2_with (at_builtin; refine wpList_append_own_src _ rfl _ _ 39 39 rfl w2.heap.size 5 i0 (.int .u8 0) 1 1 Tryd.underlying39 hi hz0 hz1 hz2 rfl _ 0 [] rfl hown3 (.slice a0 zs.length cap0) zs.length (v8 zs) rfl ((h0.below (hB2.trans (hb3.mono hB2.size))).src cap0) ?c1 ?c2 ?c3 ?_)
  case c1 => unfold maxLen; omega
  case c2 => omega
  case c3 => exact hb3.size
  intro v4 w4 hown4 hgrow4
  have hb4 := below_grown hb3 hb3.size hown3 hgrow4
  have hown4' : w4.ownsRow w2.heap.size 5 1 v4 zs.length (v8 zs) := by simpa using hown4
  obtain ⟨b4, cp4, rfl⟩ : ∃ b cp, v4 = .slice b zs.length cp := by
    rcases hown4'.2 with ⟨rfl, h0⟩ | ⟨g, cp, cur, rfl, _⟩
    · exact ⟨none, 0, by rw [h0]⟩
    · exact ⟨_, _, rfl⟩
  clear hown3 hgrow3 hown4 hgrow4 hb3
  go_wp2_with (at_builtin; refine wpList_append_own_src _ rfl _ _ 39 39 rfl w2.heap.size 5 i0 (.int .u8 0) 1 1 Tryd.underlying39 hi hz0 hz1 hz2 rfl _ zs.length (v8 zs) rfl hown4' (.slice a2 F.length cap2) F.length (v8 F) rfl ((row2.below hb4).src cap2) ?c1 ?c2 ?c3 ?_)
  case c1 => unfold maxLen; omega
  case c2 => omega
  case c3 => exact hb4.size
  intro v5 w5 hown5 hgrow5
  have hb5 := below_grown hb4 hb4.size hown4' hgrow5
  go_wp2_with fail
  go_ret
  refine ⟨_, rfl, ?_, hB2.trans (hb5.mono hB2.size)⟩
  have hm := Mine.mk' (zs ++ F) hown5 (by simp) (by simp [v8]) (by
    intro z hz'
    rcases List.mem_append.1 hz' with hz' | hz'
    · exact h0.2.1 z hz'
    · exact mF z hz')
  exact hm.mono' hB2.size
set_option maxRecDepth 100000 in
set_option maxHeartbeats 2000000 in
theorem refBput_any (a0 : Option Addr) (cap0 : Nat) (zs : List Int) (q : Bool) (a : Option Addr) (cap : Nat) (rs : List Rq) (w : World) (h0 : RowAt w a0 zs) (hzl : zs.length ≤ 3000) (h : ReqsAt w a rs) (hn : rs.length ≤ 200) (hs : ∀ r ∈ rs, r.s.size ≤ 4000) :
    Calls Tryd.prog 24 #[.slice a0 zs.length cap0, batV q a rs.length cap] w fun e w' => ∃ v, e = .returned v ∧ Mine w' w.heap.size v (zs ++ batL q rs) ∧ Below w.heap.size w w' := by
  unfold batV
  have hB1 : Below w.heap.size w (w.alloc (.cells #[.bool q, .slice a rs.length cap] 24)) := (Below.refl _ _).alloc (Nat.le_refl _) _
  have hb1 := BatBox.mk w q a rs.length cap
  cases q with
  | true =>
    have cp := fun w0 h0 => refPut_any a0 cap0 zs 0 w0 h0 (by omega) (by omega)
    have hL : Hid (batL true rs = putL 0) := by show _ = _; simp [batL]
    rw [hL.out]
    go_enter Tryd.func24, Tryd.ntmps24
    go_upto_region 1 with fail
    go_name_world w1 hw1
    rw [hw1] at hB1 hb1
    clear hw1
    obtain ⟨_, c0, c1, _⟩ := hb1
    go_wp2_with fail
    refine (cp w1 (h0.below hB1)).mono ?_
    rintro e w2 ⟨v2, rfl, m2, hw2⟩
    go_wp2_with fail
    go_ret
    exact ⟨_, rfl, m2.mono' hB1.size, hB1.trans (hw2.mono hB1.size)⟩
  | false =>
    have hall := h.2.1
    have hle := fun k => batP_le rs k hn hall hs
    have cp := fun w0 h0 => refPut_any a0 cap0 zs ((rs.length : Int) + 1) w0 h0 (by omega) (by omega)
    have h1 := h.below hB1
    go_enter Tryd.func24, Tryd.ntmps24
    go_upto_region 1 with fail
    go_name_world w1 hw1
    rw [hw1] at hB1 hb1 h1
    clear hw1
    obtain ⟨hX, c0, c1, _⟩ := hb1
    obtain ⟨X, hXe⟩ : ∃ X, Hid (w.heap.size = X) := ⟨_, hide rfl⟩
    rw [hXe.out] at hX c0 c1 ⊢
    go_wp2_with fail
    refine (cp w1 (h0.below hB1)).mono ?_
    rintro e w2 ⟨v2, rfl, m2, hw2⟩
    clear cp
    go_wp2
    go_loopw [0, 5] (fun ov iv wr => ∃ k : Nat, k ≤ rs.length ∧ iv = .int .i64 (k : Int) ∧ Hid (Mine wr w1.heap.size ov (zs ++ batP rs k)) ∧ Below w1.heap.size w1 wr) (fun _ iv _ => rs.length - (intOf iv).toNat)
    case atStart => exact ⟨0, by omega, rfl, hide (by simpa [batP] using m2), hw2⟩
    case round =>
      clear m2 hw2 c0
      obtain ⟨k, hk, rfl, HM, hB⟩ := hrel
      have c1' := (hB.cell (p := ⟨X, 1, none⟩) hX).trans c1
      by_cases hlt : k < rs.length
      · have k1 : (k : Int) < rs.length := by omega
        have hrow := h1.below hB
        have HS := hide (batP_succ rs k hlt)
        have hlen := hle k
        obtain ⟨b, off, rfl, hb, hre⟩ := hrow.elem k hlt
        obtain ⟨r, hr⟩ : ∃ r, Hid (rs[k] = r) := ⟨_, hide rfl⟩
        have hok : r.ok := by rw [← hr.out]; exact hall _ (List.getElem_mem hlt)
        have hrs : r.s.size ≤ 4000 := by rw [← hr.out]; exact hs _ (List.getElem_mem hlt)
        rw [hr.out] at hre HS
        clear hr hrow
        have hiq := hok.isz
        have hlz : (zs ++ batP rs k).length ≤ 1000000 := by rw [List.length_append]; omega
        obtain ⟨ys, hys⟩ : ∃ ys, Hid (zs ++ batP rs k = ys) := ⟨_, hide rfl⟩
        rw [hys.out] at HM hlz
        obtain ⟨ay, capy, rfl, _, _, rowy⟩ := HM.out.rowAt (by unfold maxLen; omega)
        have cpr := hok.refPut hrs ay capy ys wr rowy hlz
        obtain ⟨q, hq⟩ : ∃ q, Hid (r.cells = q) := ⟨_, hide rfl⟩
        rw [hq.out] at hre hiq cpr
        have HS' : Hid (zs ++ batP rs (k + 1) = ys ++ r.bytes) := hide (by rw [HS.out, ← hys.out, List.append_assoc])
        obtain ⟨bs, hbs⟩ : ∃ bs, Hid (r.bytes = bs) := ⟨_, hide rfl⟩
        rw [hbs.out] at HS' cpr
        clear hq hbs hok hrs HS hys HM hlz rowy
        go_upto_region 7 with fail
        try simp only [Act.put]
        refine wp_region_list ?_
        refine wpList_step fun K hK => ?_
        go_simp
        refine hK _ _ ?_
        clear hK K
        refine wpList_step fun K hK => ?_
        go_simp
        refine hK _ _ ?_
        clear hK K
        refine wpList_step fun K hK => ?_
        go_simp
        refine hK _ _ ?_
        clear hK K
        refine wpList_step fun K hK => ?_
        go_simp
        refine hK _ _ ?_
        clear hK K
        refine wpList_step fun K hK => ?_
        go_simp
        refine hK _ _ ?_
        clear hK K
        refine wpList_load_mid rfl 60 _ rfl _ _ rfl q _ hre Tryd.underlying60 rfl hiq ?_
        go_wp2_with fail
        refine cpr.mono ?_
        rintro e w4 ⟨v4, rfl, m4, hw4⟩
        have hB4 := hB.trans (hw4.mono hB.size)
        have m5 := hide (m4.mono' hB.size)
        clear cpr m4
        go_wp2
        go_roundw
        case rel => exact ⟨k + 1, by omega, by go_num, hide (by rw [HS'.out]; exact m5.out), hB4⟩
        case measure => simp [intOf]; omega
      · obtain rfl : k = rs.length := by omega
        go_wp2
        go_ret
        exact ⟨_, rfl, by rw [← batP_all]; exact HM.out.mono' hB1.size, hB1.trans (hB.mono hB1.size)⟩
end Go.Proofs.YtinpbnkmpplkiaaDoor
namespace Go.Proofs.YtinpbnkmpplkiaaDoor
open Go.RowKit
open Sha Tal
def eqBat (q : Bool) (rs : List Rq) (q' : Bool) (rs' : List Rq) : Prop := q = q' ∧ rs = rs'
theorem neqReq (r r' : Rq) (h : r.ok) (h' : r'.ok) (w : World) :
    (binOp .neq 60 (.agg r.cells.toArray) (.agg r'.cells.toArray)).run Tryd.prog w = .ok (.bool (!(rqB r r'))) w := by
  unfold Rq.cells
  rw [run_neq_struct, reqEqIn 9997 r.c r.n r.s r.t r'.c r'.n r'.s r'.t h.tl h'.tl]; rfl
theorem Rq.not_plain {r : Rq} (h : ¬ r.plain) : r.c < 0 ∨ (¬ r.c < 0 ∧ 8 < r.c) ∨ (¬ r.c < 0 ∧ ¬ 8 < r.c ∧ r.n < 0) ∨ (¬ r.c < 0 ∧ ¬ 8 < r.c ∧ ¬ r.n < 0 ∧ 1099511627776 < r.n) ∨ (¬ r.c < 0 ∧ ¬ 8 < r.c ∧ ¬ r.n < 0 ∧ ¬ 1099511627776 < r.n ∧ (64 : Int) < r.s.size) := by
  by_cases h1 : r.c < 0
  · exact .inl h1
  by_cases h2 : 8 < r.c
  · exact .inr (.inl ⟨h1, h2⟩)
  by_cases h3 : r.n < 0
  · exact .inr (.inr (.inl ⟨h1, h2, h3⟩))
  by_cases h4 : 1099511627776 < r.n
  · exact .inr (.inr (.inr (.inl ⟨h1, h2, h3, h4⟩)))
  by_cases h5 : (64 : Int) < r.s.size
  · exact .inr (.inr (.inr (.inr ⟨h1, h2, h3, h4, h5⟩)))
  exact absurd ⟨by omega, by omega, by omega, by omega, by omega⟩ h
set_option maxRecDepth 100000 in
set_option maxHeartbeats 2000000 in
theorem plain_any (q : Bool) (a : Option Addr) (cap : Nat) (rs : List Rq) (w : World) (h : ReqsAt w a rs) :
    Calls Tryd.prog 32 #[batV q a rs.length cap] w fun e w' => (e = .returned (.bool true) ∧ Below w.heap.size w w' ∧ plainB q rs) ∨ (e = .returned (.bool false) ∧ Below w.heap.size w w') := by
  unfold batV
  have hB1 : Below w.heap.size w (w.alloc (.cells #[.bool q, .slice a rs.length cap] 24)) := (Below.refl _ _).alloc (Nat.le_refl _) _
  have hb1 := BatBox.mk w q a rs.length cap
  have hml := h.1
  unfold maxLen at hml
  have hall := h.2.1
  have h1 := h.below hB1
  go_enter Tryd.func32, Tryd.ntmps32
  go_upto_region 1 with fail
  go_name_world w1 hw1
  rw [hw1] at hB1 hb1 h1
  clear hw1
  obtain ⟨hX, c0, c1, _⟩ := hb1
  obtain ⟨X, hXe⟩ : ∃ X, Hid (w.heap.size = X) := ⟨_, hide rfl⟩
  rw [hXe.out] at hX c0 c1 ⊢
  by_cases h4 : (4 : Int) < rs.length
  · go_wp2
    go_ret
    exact .inr ⟨rfl, hB1⟩
  by_cases hq : q = true ∧ (0 : Int) < rs.length
  · obtain ⟨rfl, hq⟩ := hq
    go_wp2
    go_ret
    exact .inr ⟨rfl, hB1⟩
  have hqq : q = false ∨ (q = true ∧ rs = []) := by
    cases q
    · exact .inl rfl
    · exact .inr ⟨rfl, List.eq_nil_of_length_eq_zero (by have : ¬ (0 : Int) < rs.length := fun hl => hq ⟨rfl, hl⟩; omega)⟩
  have HP : Hid ((∀ r ∈ rs, r.plain) → plainB q rs) := hide (fun hh => ⟨by omega, fun h0 => by
    rcases hqq with h1 | h1
    · rw [h1] at h0; cases h0
    · exact h1.2, hh⟩)
  clear hq
  rcases hqq with rfl | ⟨rfl, rfl⟩
  rotate_left
  · go_wp2
    go_loopw [3] (fun iv wr => iv = .int .i64 0 ∧ Below w1.heap.size w1 wr) (fun _ _ => 0)
    case atStart => exact ⟨rfl, Below.refl _ _⟩
    case round =>
      clear c0
      obtain ⟨rfl, hB⟩ := hrel
      have c1' := (hB.cell (p := ⟨X, 1, none⟩) hX).trans c1
      go_wp2
      go_ret
      exact .inl ⟨rfl, hB1.trans (hB.mono hB1.size), HP.out (by simp)⟩
  · go_wp2
    go_loopw [3] (fun iv wr => ∃ k : Nat, k ≤ rs.length ∧ iv = .int .i64 (k : Int) ∧ Hid (∀ j (hj : j < rs.length), j < k → rs[j].plain) ∧ Below w1.heap.size w1 wr) (fun iv _ => rs.length - (intOf iv).toNat)
    case atStart => exact ⟨0, by omega, rfl, hide (fun j _ hj => absurd hj (by omega)), Below.refl _ _⟩
    case round =>
      clear c0
      obtain ⟨k, hk, rfl, HM, hB⟩ := hrel
      have c1' := (hB.cell (p := ⟨X, 1, none⟩) hX).trans c1
      by_cases hlt : k < rs.length
      · have k1 : (k : Int) < rs.length := by omega
        have hrow := h1.below hB
        obtain ⟨b, off, rfl, hb, hre⟩ := hrow.elem k hlt
        obtain ⟨r, hr⟩ : ∃ r, Hid (rs[k] = r) := ⟨_, hide rfl⟩
        have hok : r.ok := by rw [← hr.out]; exact hall _ (List.getElem_mem hlt)
        rw [hr.out] at hre
        have HM' : Hid (r.plain → ∀ j (hj : j < rs.length), j < k + 1 → rs[j].plain) := hide (fun hp j hj hjk => by
          by_cases e : j = k
          · subst e; rw [hr.out]; exact hp
          · exact HM.out j hj (by omega))
        clear hr hrow HM
        have hiq := hok.isz
        have hiA := hok.iszA
        have hN := hok.blank wr
        have h1c := all_oneCell_toArray r.one
        have hsl := hok.sl
        unfold maxLen at hsl
        have F := fresh_store wr #[.int .i64 0, .int .i64 0, .string ⟨#[]⟩, .int .u8 0, .int .u8 0, .int .u8 0, .int .u8 0, .int .u8 0, .int .u8 0, .int .u8 0, .int .u8 0, .int .u8 0, .int .u8 0, .int .u8 0, .int .u8 0, .int .u8 0, .int .u8 0, .int .u8 0, .int .u8 0] 60 r.cells (by rw [hok.length]; rfl)
        have hcel := fun (w0 : World) (b0 : Nat) (hh : w0.rangeAt b0 0 r.cells) => reqL_0 hh
        obtain ⟨q, hq⟩ : ∃ q, Hid (r.cells = q) := ⟨_, hide rfl⟩
        rw [hq.out] at hre hiq hiA hN h1c F
        simp only [hq.out] at hcel
        clear hq hok
        go_upto_region 6 with fail
        try simp only [Act.put]
        refine wp_region_list ?_
        refine wpList_step fun K hK => ?_
        go_simp
        refine hK _ _ ?_
        clear hK K
        refine wpList_step fun K hK => ?_
        go_simp
        refine hK _ _ ?_
        clear hK K
        refine wpList_step fun K hK => ?_
        go_simp
        refine hK _ _ ?_
        clear hK K
        refine wpList_step fun K hK => ?_
        go_simp
        refine hK _ _ ?_
        clear hK K
        refine wpList_load_mid rfl 60 _ rfl _ _ rfl q _ hre Tryd.underlying60 rfl hiq ?_
        go_upto_region 7 with (refine wpList_store_mid (op := ⟨none, .store 60 (.tmp 4) (.tmp 30), _, _, _, none⟩) rfl 60 _ _ rfl _ _ q.toArray rfl rfl hN hiA h1c ?_)
        go_name_world w3 hw3
        rw [show (wr.alloc (.cells #[.int .i64 0, .int .i64 0, .string ⟨#[]⟩, .int .u8 0, .int .u8 0, .int .u8 0, .int .u8 0, .int .u8 0, .int .u8 0, .int .u8 0, .int .u8 0, .int .u8 0, .int .u8 0, .int .u8 0, .int .u8 0, .int .u8 0, .int .u8 0, .int .u8 0, .int .u8 0] 60)).setCells wr.heap.size 0 q = w3 from hw3] at F
        clear hw3 hN
        obtain ⟨hR3, hF3, hz3, _⟩ := F
        have hB3 := hB.trans (hF3.mono hB.size)
        have hfin := hB1.trans (hB3.mono hB1.size)
        obtain ⟨d0, d1, d2⟩ := hcel w3 _ hR3
        clear hF3 hre hcel hR3 h1c hiq hiA
        by_cases hp : r.plain
        · have p0 : ¬ r.c < 0 := by have := hp.c0; omega
          have p1 : ¬ 8 < r.c := by have := hp.c1; omega
          have p2 : ¬ r.n < 0 := by have := hp.n0; omega
          have p3 : ¬ 1099511627776 < r.n := by have := hp.n1; omega
          have p4 : ¬ (64 : Int) < r.s.size := by have := hp.s1; omega
          go_wp2
          go_roundw
          case rel => exact ⟨k + 1, by omega, by go_num, hide (HM'.out hp), hB3⟩
          case measure => simp [intOf]; omega
        · rcases Rq.not_plain hp with p0 | ⟨p0, p1⟩ | ⟨p0, p1, p2⟩ | ⟨p0, p1, p2, p3⟩ | ⟨p0, p1, p2, p3, p4⟩
          all_goals
            go_wp2
            go_ret
            exact .inr ⟨rfl, hfin⟩
      · obtain rfl : k = rs.length := by omega
        go_wp2
        go_ret
        exact .inl ⟨rfl, hB1.trans (hB.mono hB1.size), HP.out (fun r hr => by
          obtain ⟨j, hj, rfl⟩ := List.mem_iff_getElem.1 hr
          exact HM.out j hj hj)⟩
end Go.Proofs.YtinpbnkmpplkiaaDoor
namespace Go.Proofs.YtinpbnkmpplkiaaDoor
open Go.RowKit
open Sha Tal
set_option maxRecDepth 100000 in
set_option maxHeartbeats 2000000 in
theorem refBSame_any (q : Bool) (a : Option Addr) (cap : Nat) (rs : List Rq) (q' : Bool) (a' : Option Addr) (cap' : Nat) (rs' : List Rq) (w : World) (h : ReqsAt w a rs) (h' : ReqsAt w a' rs') :
    Calls Tryd.prog 16 #[batV q a rs.length cap, batV q' a' rs'.length cap'] w fun e w' => ((e = .returned (.bool true) ∧ eqBat q rs q' rs') ∨ (e = .returned (.bool false) ∧ ¬ eqBat q rs q' rs')) ∧ Below w.heap.size w w' := by
  unfold batV
  have hB1 : Below w.heap.size w ((w.alloc (.cells #[.bool q, .slice a rs.length cap] 24)).alloc (.cells #[.bool q', .slice a' rs'.length cap'] 24)) := ((Below.refl _ _).alloc (Nat.le_refl _) _).alloc (by simp) _
  have hbx := BatBox.mk w q a rs.length cap
  have hby := BatBox.mk (w.alloc (.cells #[.bool q, .slice a rs.length cap] 24)) q' a' rs'.length cap'
  have hbx := hbx.below ((Below.refl _ _).alloc (Nat.le_refl _) (.cells #[.bool q', .slice a' rs'.length cap'] 24))
  rw [World.size_alloc] at hby
  have hml := h.1
  have hml' := h'.1
  unfold maxLen at hml hml'
  have hall := h.2.1
  have hall' := h'.2.1
  have h1 := h.below hB1
  have h1' := h'.below hB1
  go_enter Tryd.func16, Tryd.ntmps16
  go_upto_region 1 with fail
  go_name_world w1 hw1
  rw [hw1] at hB1 hbx hby h1 h1'
  clear hw1
  obtain ⟨hX, c0, c1, _⟩ := hbx
  obtain ⟨hY, d0, d1, _⟩ := hby
  obtain ⟨X, hXe⟩ : ∃ X, Hid (w.heap.size = X) := ⟨_, hide rfl⟩
  obtain ⟨Y, hYe⟩ : ∃ Y, Hid (w.heap.size + 1 = Y) := ⟨_, hide rfl⟩
  rw [hYe.out] at hY d0 d1 ⊢
  rw [hXe.out] at hX c0 c1 ⊢
  by_cases hq : q = q'
  · by_cases hlen : rs.length = rs'.length
    · subst hq
      have HL := hide hlen
      have e0 : ((rs.length : Int) == rs'.length) = true := by simp; omega
      clear hlen
      cases q
      all_goals
        go_wp2
        go_loopw [5] (fun iv wr => ∃ k : Nat, k ≤ rs.length ∧ iv = .int .i64 (k : Int) ∧ Hid (∀ j (hj : j < rs.length) (hj' : j < rs'.length), j < k → rs[j] = rs'[j]) ∧ Below w1.heap.size w1 wr) (fun iv _ => rs.length - (intOf iv).toNat)
        case atStart => exact ⟨0, by omega, rfl, hide (fun j _ _ hj => absurd hj (by omega)), Below.refl _ _⟩
        case round =>
          clear c0 d0 e0
          obtain ⟨k, hk, rfl, HM, hB⟩ := hrel
          have c1' := (hB.cell (p := ⟨X, 1, none⟩) hX).trans c1
          by_cases hlt : k < rs.length
          · have k1 : (k : Int) < rs.length := by omega
            have hlt' : k < rs'.length := by have := HL.out; omega
            have k1' : (k : Int) < rs'.length := by omega
            obtain ⟨b, off, rfl, hb, hre⟩ := (h1.below hB).elem k hlt
            obtain ⟨b', off', rfl, hb', hre'⟩ := (h1'.below hB).elem k hlt'
            obtain ⟨r, hr⟩ : ∃ r, Hid (rs[k] = r) := ⟨_, hide rfl⟩
            obtain ⟨r', hr'⟩ : ∃ r', Hid (rs'[k] = r') := ⟨_, hide rfl⟩
            have hok : r.ok := by rw [← hr.out]; exact hall _ (List.getElem_mem hlt)
            have hok' : r'.ok := by rw [← hr'.out]; exact hall' _ (List.getElem_mem hlt')
            rw [hr.out] at hre
            rw [hr'.out] at hre'
            have HM' : Hid (r = r' → ∀ j (hj : j < rs.length) (hj' : j < rs'.length), j < k + 1 → rs[j] = rs'[j]) := hide (fun hp j hj hj' hjk => by
              by_cases e : j = k
              · subst e; rw [hr.out, hr'.out]; exact hp
              · exact HM.out j hj hj' (by omega))
            have HN' : Hid (r ≠ r' → rs ≠ rs') := hide (fun hp he => by
              apply hp
              rw [← hr.out, ← hr'.out]
              subst he
              rfl)
            clear hr hr' HM
            have hiu := hok.isz
            have hiu' := hok'.isz
            have hne := fun w0 => neqReq r r' hok hok' w0
            obtain ⟨u, hu⟩ : ∃ u, Hid (r.cells = u) := ⟨_, hide rfl⟩
            obtain ⟨u', hu'⟩ : ∃ u', Hid (r'.cells = u') := ⟨_, hide rfl⟩
            rw [hu.out] at hre hiu
            rw [hu'.out] at hre' hiu'
            simp only [hu.out, hu'.out] at hne
            clear hu hu' hok hok'
            by_cases hrr : r = r'
            · have e1 : rqB r r' = true := rqB_iff.2 hrr
              rw [e1] at hne
              simp only [Bool.not_true] at hne
              have HR := hide hrr
              clear hrr e1
              go_upto_region 6 with fail
              obtain ⟨w5, hw5⟩ : ∃ w5, wr.drew = w5 := ⟨_, rfl⟩
              have hB5 : Below w1.heap.size w1 w5 := by rw [← hw5]; exact hB.drew
              have hre5 : w5.rangeAt b (off + k * 19) u := by rw [← hw5]; exact (World.rangeAt_drew _ _ _ _).2 hre
              have hre5' : w5.rangeAt b' (off' + k * 19) u' := by rw [← hw5]; exact (World.rangeAt_drew _ _ _ _).2 hre'
              have hb5 : b < w5.heap.size := by rw [← hw5]; exact hb
              have hb5' : b' < w5.heap.size := by rw [← hw5]; exact hb'
              have c1 : ∀ w', Below w5.heap.size w5 w' → w'.cell? ⟨X, 1, none⟩ = some (.slice (some ⟨b, off, none⟩) rs.length cap) := fun w' hw' => ((hB5.trans (hw'.mono hB5.size)).cell (p := ⟨X, 1, none⟩) hX).trans c1
              have c2 : ∀ w', Below w5.heap.size w5 w' → w'.cell? ⟨Y, 1, none⟩ = some (.slice (some ⟨b', off', none⟩) rs'.length cap') := fun w' hw' => ((hB5.trans (hw'.mono hB5.size)).cell (p := ⟨Y, 1, none⟩) hY).trans d1
              refine hs_begin (S := (Below w5.heap.size w5)) 11 rfl (by kernel_rfl) ?_
              rw [hw5]
              clear hw5 c1' hB hre hre' hb hb'
              have hS : (Below w5.heap.size w5) w5 := Below.refl _ _
              refine hs_take (i := 0) (d := some 27) (v := ?_) rfl (by kernel_rfl) (by kernel_rfl) (by kernel_rfl) (by rfl) ?_ hS rfl ?_
              rotate_left
              · intro w' hw
                go_simp
                try with_reducible rfl
              simp only [Act.put, List.setIfInBounds_toArray, List.set_cons_zero, List.set_cons_succ]
              refine hs_take (i := 1) (d := some 28) (v := ?_) rfl (by kernel_rfl) (by kernel_rfl) (by kernel_rfl) (by rfl) ?_ hS rfl ?_
              rotate_left
              · intro w' hw
                have hc := c1 w' hw
                go_simp
                try with_reducible rfl
              simp only [Act.put, List.setIfInBounds_toArray, List.set_cons_zero, List.set_cons_succ]
              refine hs_take (i := 2) (d := some 29) (v := ?_) rfl (by kernel_rfl) (by kernel_rfl) (by kernel_rfl) (by rfl) ?_ hS rfl ?_
              rotate_left
              · intro w' hw
                go_simp
                try with_reducible rfl
              simp only [Act.put, List.setIfInBounds_toArray, List.set_cons_zero, List.set_cons_succ]
              refine hs_take (i := 3) (d := some 30) (v := ?_) rfl (by kernel_rfl) (by kernel_rfl) (by kernel_rfl) (by rfl) ?_ hS rfl ?_
              rotate_left
              · intro w' hw
                go_simp
                try with_reducible rfl
              simp only [Act.put, List.setIfInBounds_toArray, List.set_cons_zero, List.set_cons_succ]
              refine hs_take (i := 4) (d := some 31) (v := .agg u.toArray) rfl (by kernel_rfl) (by kernel_rfl) (by kernel_rfl) (by rfl) (fun w' hw => exec_load rfl rfl (run_loadVar_mid (P := Tryd.prog) w' b (off + k * 19) 60 u _ (range_below hre5 hw hb5) Tryd.underlying60 rfl hiu)) hS rfl ?_
              simp only [Act.put, List.setIfInBounds_toArray, List.set_cons_zero, List.set_cons_succ]
              refine hs_take (i := 5) (d := some 32) (v := ?_) rfl (by kernel_rfl) (by kernel_rfl) (by kernel_rfl) (by rfl) ?_ hS rfl ?_
              rotate_left
              · intro w' hw
                go_simp
                try with_reducible rfl
              simp only [Act.put, List.setIfInBounds_toArray, List.set_cons_zero, List.set_cons_succ]
              refine hs_take (i := 6) (d := some 33) (v := ?_) rfl (by kernel_rfl) (by kernel_rfl) (by kernel_rfl) (by rfl) ?_ hS rfl ?_
              rotate_left
              · intro w' hw
                have hc := c2 w' hw
                go_simp
                try with_reducible rfl
              simp only [Act.put, List.setIfInBounds_toArray, List.set_cons_zero, List.set_cons_succ]
              refine hs_take (i := 7) (d := some 34) (v := ?_) rfl (by kernel_rfl) (by kernel_rfl) (by kernel_rfl) (by rfl) ?_ hS rfl ?_
              rotate_left
              · intro w' hw
                go_simp
                try with_reducible rfl
              simp only [Act.put, List.setIfInBounds_toArray, List.set_cons_zero, List.set_cons_succ]
              refine hs_take (i := 8) (d := some 35) (v := ?_) rfl (by kernel_rfl) (by kernel_rfl) (by kernel_rfl) (by rfl) ?_ hS rfl ?_
              rotate_left
              · intro w' hw
                go_simp
                try with_reducible rfl
              simp only [Act.put, List.setIfInBounds_toArray, List.set_cons_zero, List.set_cons_succ]
              refine hs_take (i := 9) (d := some 36) (v := .agg u'.toArray) rfl (by kernel_rfl) (by kernel_rfl) (by kernel_rfl) (by rfl) (fun w' hw => exec_load rfl rfl (run_loadVar_mid (P := Tryd.prog) w' b' (off' + k * 19) 60 u' _ (range_below hre5' hw hb5') Tryd.underlying60 rfl hiu')) hS rfl ?_
              simp only [Act.put, List.setIfInBounds_toArray, List.set_cons_zero, List.set_cons_succ]
              refine hs_take (i := 10) (d := some 37) (v := .bool false) rfl (by kernel_rfl) (by kernel_rfl) (by kernel_rfl) (by rfl) (fun w' hw => by have hc := hne w'; go_simp) hS rfl ?_
              simp only [Act.put, List.setIfInBounds_toArray, List.set_cons_zero, List.set_cons_succ]
              refine hs_done (by kernel_rfl) ?_
              go_wp2
              go_roundw
              case rel => exact ⟨k + 1, by omega, by go_num, hide (HM'.out HR.out), hB5⟩
              case measure => simp [intOf]; omega
            · have e1 : rqB r r' = false := by
                cases hx : rqB r r'
                · rfl
                · exact absurd (rqB_iff.1 hx) hrr
              rw [e1] at hne
              simp only [Bool.not_false] at hne
              have HR := hide hrr
              clear hrr e1
              go_upto_region 6 with fail
              obtain ⟨w5, hw5⟩ : ∃ w5, wr.drew = w5 := ⟨_, rfl⟩
              have hB5 : Below w1.heap.size w1 w5 := by rw [← hw5]; exact hB.drew
              have hre5 : w5.rangeAt b (off + k * 19) u := by rw [← hw5]; exact (World.rangeAt_drew _ _ _ _).2 hre
              have hre5' : w5.rangeAt b' (off' + k * 19) u' := by rw [← hw5]; exact (World.rangeAt_drew _ _ _ _).2 hre'
              have hb5 : b < w5.heap.size := by rw [← hw5]; exact hb
              have hb5' : b' < w5.heap.size := by rw [← hw5]; exact hb'
              have c1 : ∀ w', Below w5.heap.size w5 w' → w'.cell? ⟨X, 1, none⟩ = some (.slice (some ⟨b, off, none⟩) rs.length cap) := fun w' hw' => ((hB5.trans (hw'.mono hB5.size)).cell (p := ⟨X, 1, none⟩) hX).trans c1
              have c2 : ∀ w', Below w5.heap.size w5 w' → w'.cell? ⟨Y, 1, none⟩ = some (.slice (some ⟨b', off', none⟩) rs'.length cap') := fun w' hw' => ((hB5.trans (hw'.mono hB5.size)).cell (p := ⟨Y, 1, none⟩) hY).trans d1
              refine hs_begin (S := (Below w5.heap.size w5)) 11 rfl (by kernel_rfl) ?_
              rw [hw5]
              clear hw5 c1' hB hre hre' hb hb'
              have hS : (Below w5.heap.size w5) w5 := Below.refl _ _
              refine hs_take (i := 0) (d := some 27) (v := ?_) rfl (by kernel_rfl) (by kernel_rfl) (by kernel_rfl) (by rfl) ?_ hS rfl ?_
              rotate_left
              · intro w' hw
                go_simp
                try with_reducible rfl
              simp only [Act.put, List.setIfInBounds_toArray, List.set_cons_zero, List.set_cons_succ]
              refine hs_take (i := 1) (d := some 28) (v := ?_) rfl (by kernel_rfl) (by kernel_rfl) (by kernel_rfl) (by rfl) ?_ hS rfl ?_
              rotate_left
              · intro w' hw
                have hc := c1 w' hw
                go_simp
                try with_reducible rfl
              simp only [Act.put, List.setIfInBounds_toArray, List.set_cons_zero, List.set_cons_succ]
              refine hs_take (i := 2) (d := some 29) (v := ?_) rfl (by kernel_rfl) (by kernel_rfl) (by kernel_rfl) (by rfl) ?_ hS rfl ?_
              rotate_left
              · intro w' hw
                go_simp
                try with_reducible rfl
              simp only [Act.put, List.setIfInBounds_toArray, List.set_cons_zero, List.set_cons_succ]
              refine hs_take (i := 3) (d := some 30) (v := ?_) rfl (by kernel_rfl) (by kernel_rfl) (by kernel_rfl) (by rfl) ?_ hS rfl ?_
              rotate_left
              · intro w' hw
                go_simp
                try with_reducible rfl
              simp only [Act.put, List.setIfInBounds_toArray, List.set_cons_zero, List.set_cons_succ]
              refine hs_take (i := 4) (d := some 31) (v := .agg u.toArray) rfl (by kernel_rfl) (by kernel_rfl) (by kernel_rfl) (by rfl) (fun w' hw => exec_load rfl rfl (run_loadVar_mid (P := Tryd.prog) w' b (off + k * 19) 60 u _ (range_below hre5 hw hb5) Tryd.underlying60 rfl hiu)) hS rfl ?_
              simp only [Act.put, List.setIfInBounds_toArray, List.set_cons_zero, List.set_cons_succ]
              refine hs_take (i := 5) (d := some 32) (v := ?_) rfl (by kernel_rfl) (by kernel_rfl) (by kernel_rfl) (by rfl) ?_ hS rfl ?_
              rotate_left
              · intro w' hw
                go_simp
                try with_reducible rfl
              simp only [Act.put, List.setIfInBounds_toArray, List.set_cons_zero, List.set_cons_succ]
              refine hs_take (i := 6) (d := some 33) (v := ?_) rfl (by kernel_rfl) (by kernel_rfl) (by kernel_rfl) (by rfl) ?_ hS rfl ?_
              rotate_left
              · intro w' hw
                have hc := c2 w' hw
                go_simp
                try with_reducible rfl
              simp only [Act.put, List.setIfInBounds_toArray, List.set_cons_zero, List.set_cons_succ]
              refine hs_take (i := 7) (d := some 34) (v := ?_) rfl (by kernel_rfl) (by kernel_rfl) (by kernel_rfl) (by rfl) ?_ hS rfl ?_
              rotate_left
              · intro w' hw
                go_simp
                try with_reducible rfl
              simp only [Act.put, List.setIfInBounds_toArray, List.set_cons_zero, List.set_cons_succ]
              refine hs_take (i := 8) (d := some 35) (v := ?_) rfl (by kernel_rfl) (by kernel_rfl) (by kernel_rfl) (by rfl) ?_ hS rfl ?_
              rotate_left
              · intro w' hw
                go_simp
                try with_reducible rfl
              simp only [Act.put, List.setIfInBounds_toArray, List.set_cons_zero, List.set_cons_succ]
              refine hs_take (i := 9) (d := some 36) (v := .agg u'.toArray) rfl (by kernel_rfl) (by kernel_rfl) (by kernel_rfl) (by rfl) (fun w' hw => exec_load rfl rfl (run_loadVar_mid (P := Tryd.prog) w' b' (off' + k * 19) 60 u' _ (range_below hre5' hw hb5') Tryd.underlying60 rfl hiu')) hS rfl ?_
              simp only [Act.put, List.setIfInBounds_toArray, List.set_cons_zero, List.set_cons_succ]
              refine hs_take (i := 10) (d := some 37) (v := .bool true) rfl (by kernel_rfl) (by kernel_rfl) (by kernel_rfl) (by rfl) (fun w' hw => by have hc := hne w'; go_simp) hS rfl ?_
              simp only [Act.put, List.setIfInBounds_toArray, List.set_cons_zero, List.set_cons_succ]
              refine hs_done (by kernel_rfl) ?_
              go_wp2
              go_ret
              exact ⟨.inr ⟨rfl, fun hh => HN'.out HR.out hh.2⟩, hB1.trans (hB5.mono hB1.size)⟩
          · have k1 : ¬ (k : Int) < rs.length := by omega
            have HE : Hid (rs = rs') := hide (List.ext_getElem HL.out (fun j hj hj' => HM.out j hj hj' (by omega)))
            clear HM
            go_wp2
            go_ret
            exact ⟨.inl ⟨rfl, ⟨rfl, HE.out⟩⟩, hB1.trans (hB.mono hB1.size)⟩
    · have e0 : ((rs.length : Int) == rs'.length) = false := by simp; omega
      subst hq
      have HL := hide hlen
      clear hlen
      cases q
      all_goals
        go_wp2
        go_ret
        exact ⟨.inr ⟨rfl, fun hh => HL.out (by rw [hh.2])⟩, hB1⟩
  · have HQ := hide hq
    clear hq
    cases q <;> cases q'
    · exact absurd rfl HQ.out
    · go_wp2
      go_ret
      exact ⟨.inr ⟨rfl, fun hh => HQ.out hh.1⟩, hB1⟩
    · go_wp2
      go_ret
      exact ⟨.inr ⟨rfl, fun hh => HQ.out hh.1⟩, hB1⟩
    · exact absurd rfl HQ.out
end Go.Proofs.YtinpbnkmpplkiaaDoor
namespace Go.Proofs.YtinpbnkmpplkiaaDoor
open Go.RowKit
open Sha Tal
def digB (q : Bool) (rs : List Rq) : List Int := sha (66 :: batL q rs)
theorem parts2 (w : World) (p q : Part) (hp : p.at w) (hq : q.at w) : PartsAt (w.alloc (.cells #[p.val, q.val] 39)) (some ⟨w.heap.size, 0, none⟩) [p, q] := by
  have hb : Below w.heap.size w (w.alloc (.cells #[p.val, q.val] 39)) := (Below.refl _ _).alloc (Nat.le_refl _) _
  refine ⟨by unfold maxLen; simp, fun x hx => ?_, Or.inr ⟨w.heap.size, 0, rfl, by simp, range_new w #[p.val, q.val] 39⟩⟩
  rcases List.mem_cons.1 hx with rfl | hx
  · exact hp.below hb
  · obtain rfl := List.mem_singleton.1 hx
    exact hq.below hb
theorem row66 (w : World) : RowAt (w.alloc (.cells #[.int .u8 66] 5)) (some ⟨w.heap.size, 0, none⟩) [66] :=
  ⟨by unfold maxLen; simp, by simp, Or.inr ⟨_, _, rfl, by simp, range_new w #[.int .u8 66] 5⟩⟩
theorem load32 {w : World} {b o : Nat} {t : List Int} (h : t.length = 32) (hr : w.rangeAt b o (v8 t)) : (loadVar 46 ⟨b, o, none⟩).run Tryd.prog w = .ok (.agg (v8 t).toArray) w :=
  run_loadVar_mid (P := Tryd.prog) w b o 46 (v8 t) _ hr Tryd.underlying46 rfl (by simpa using info24 t h)
theorem batL_pos (q : Bool) (rs : List Rq) : 0 < (batL q rs).length := by
  unfold batL
  cases q with
  | true => exact (by decide : 0 < (putL 0).length)
  | false =>
    have : 0 < (putL ((rs.length : Int) + 1)).length := by
      unfold putL
      rw [if_neg (by omega)]
      simp [numB]
    simp only [Bool.false_eq_true, if_false, List.length_append]
    omega
theorem wpList_append_run {P : Program} {ops : Array Oper} {rest : List Oper} {o : Oper} {a : Act} {w : World} {Q : Exit → Act → World → Prop} (hgd : o.guard = none) (s x : Operand) (t tx : TypeId)
    (ho : o.op = .call { callee := .builtin .append, args := #[s, x], argTypes := #[t, tx] }) (v xv v' : Value) (w' : World) (hv : a.eval s = v) (hx : a.eval x = xv)
    (hr : (Builtin.append_ #[t, tx] o.type #[v, xv]).run P w = .ok v' w') (h : wpList P ops Q rest (a.put o.dst v') w') : wpList P ops Q (o :: rest) a w := by
  refine wpList_plain hgd fun K hK => ?_
  unfold Oper.wp execOp
  simp only [ho, resolve, invoke, builtin, Sem.run_bind, Sem.run_pure, Result.andThen_ok, List.map_toArray, List.map_cons, List.map_nil, hv, hx, hr]
  exact hK _ _ h
theorem append66 (w : World) (b : Nat) (F : List Int) (a : Option Addr) (cap : Nat) (hrow : w.rangeAt b 0 (v8 [66])) (hF : RowAt w a F) (h0 : 0 < F.length) (hl : F.length ≤ 1000000) :
    ∃ v' w', (Builtin.append_ #[39, 39] 39 #[.slice (some ⟨b, 0, none⟩) 1 1, .slice a F.length cap]).run Tryd.prog w = .ok v' w' ∧ Mine w' w.heap.size v' (66 :: F) ∧ Below w.heap.size w w' := by
  obtain ⟨i, hi, hz, hsz, hby⟩ := info_parts info8
  have hs := hF.src cap
  have holds : ∀ j u, (v8 [66])[j]? = some u → w.drew.cell? ((⟨b, 0, none⟩ : Addr).add j) = some u := fun j u hu => by rw [Addr.add_mid]; exact hrow j u hu
  have h63' : ((1 + F.length : Nat) : Int) ≤ 9223372036854775807 := by omega
  have hr := run_append_grow_src (P := Tryd.prog) w 39 39 39 5 i (.int .u8 0) Tryd.underlying39 hi hz (some ⟨b, 0, none⟩) 1 1 (v8 [66]) (run_firstCells_some w.drew i.size 1 ⟨b, 0, none⟩ 1 1 (v8 [66]) (by rw [hsz]; rfl) holds) (.slice a F.length cap) F.length (v8 F) (by rw [hsz]; exact hs) (by omega) h63' (growslice_fits (by omega) (by rw [hby]; omega))
  refine ⟨_, _, hr, ?_, ?_⟩
  · have hge := grownCap_ge w (1 + F.length) 1 5
    have hcm : grownCap w (1 + F.length) 1 5 ≤ maxLen := grownCap_le_maxLen w (1 + F.length) 1 5 (by unfold maxLen; omega)
    have hlen : (v8 [66] ++ v8 F).length = 1 + F.length := by simp [v8]; omega
    have hown : (w.drew.alloc (.cells ((v8 [66] ++ v8 F).toArray ++ Builtin.zeroCells (Value.int .u8 0).cells (grownCap w (1 + F.length) 1 5 - (1 + F.length))) 5)).ownsRow w.heap.size 5 1
        (.slice (some ⟨w.heap.size, 0, none⟩) (1 + F.length) (grownCap w (1 + F.length) 1 5)) (1 + F.length) (v8 [66] ++ v8 F) := by
      refine ⟨by rw [hlen]; omega, .inr ⟨w.heap.size, _, _, rfl, Nat.le_refl _, heap_alloc_new w.drew _, hge, hcm, ?_, ?_⟩⟩
      · simp only [Array.size_append, List.size_toArray, size_zeroCells, hlen]
        show 1 + F.length + (grownCap w (1 + F.length) 1 5 - (1 + F.length)) * 1 = _
        omega
      · simp only [Array.toList_append]
        rw [show (1 + F.length) * 1 = (v8 [66] ++ v8 F).length by rw [hlen]; omega]
        exact List.take_left
    exact Mine.mk' (66 :: F) hown (by simp; omega) (by simp [v8]) (by
      intro z hz'
      rcases List.mem_cons.1 hz' with rfl | hz'
      · omega
      · exact hF.2.1 z hz')
  · exact ((Below.refl _ _).drew).alloc (by simp) _
set_option maxRecDepth 100000 in
set_option maxHeartbeats 2000000 in
theorem bdig_any (q : Bool) (a : Option Addr) (cap : Nat) (rs : List Rq) (w : World) (hG : Glob w) (h : ReqsAt w a rs) (hn : rs.length ≤ 200) (hs : ∀ r ∈ rs, r.s.size ≤ 4000) :
    Calls Tryd.prog 25 #[batV q a rs.length cap] w fun e w' => e = .returned (.agg (v8 (digB q rs)).toArray) ∧ Below w.heap.size w w' := by
  have lF := batL_le q rs hn h.2.1 hs
  have cf := fun w0 h0 => bytesOf_any q a cap rs w0 h0 hn hs
  unfold batV at cf ⊢
  obtain ⟨m, hm⟩ : ∃ m, Hid (digB q rs = m) := ⟨_, hide rfl⟩
  have hml : m.length = 32 := by rw [← hm.out]; exact sha_length _
  rw [hm.out]
  have HM : Hid (sha (66 :: batL q rs) = m) := hm
  obtain ⟨F, hF⟩ : ∃ F, Hid (batL q rs = F) := ⟨_, hide rfl⟩
  have hF0 := batL_pos q rs
  rw [hF.out] at lF HM hF0
  simp only [hF.out] at cf
  clear hF hm
  have hB1 : Below w.heap.size w ((w.alloc (.cells #[.bool q, .slice a rs.length cap] 24)).alloc (.cells (Array.replicate 32 (.int .u8 0)) 46)) := ((Below.refl _ _).alloc (Nat.le_refl _) _).alloc (by simp) _
  have hb1 := (BatBox.mk w q a rs.length cap).below ((Below.refl _ _).alloc (Nat.le_refl _) (.cells (Array.replicate 32 (.int .u8 0)) 46))
  have hT1 := (new_bytes (w.alloc (.cells #[.bool q, .slice a rs.length cap] 24)) 32 46).2
  rw [World.size_alloc] at hT1
  have hs1 : w.heap.size + 1 < ((w.alloc (.cells #[.bool q, .slice a rs.length cap] 24)).alloc (.cells (Array.replicate 32 (.int .u8 0)) 46)).heap.size := by simp
  have h1 := h.below hB1
  have hib := batI q a rs.length cap
  go_enter Tryd.func25, Tryd.ntmps25
  go_upto_region 1 with fail
  go_name_world w1 hw1
  rw [show (w.alloc (.cells #[.bool q, .slice a rs.length cap] 24)).alloc (.cells (Array.replicate 32 (.int .u8 0)) 46) = w1 from hw1] at hB1 hb1 h1 hT1 hs1
  clear hw1
  obtain ⟨X, hXe⟩ : ∃ X, Hid (w.heap.size = X) := ⟨_, hide rfl⟩
  obtain ⟨Y, hYe⟩ : ∃ Y, Hid (w.heap.size + 1 = Y) := ⟨_, hide rfl⟩
  have hwY : w.heap.size ≤ Y := by rw [← hYe.out]; omega
  rw [hYe.out] at hT1 hs1 ⊢
  rw [hXe.out] at hb1 ⊢
  have hB2' : Below w1.heap.size w1 (w1.alloc (.cells #[.int .u8 66] 5)) := (Below.refl _ _).alloc (Nat.le_refl _) _
  have row2 := row66 w1
  try simp only [Act.put]
  refine wp_region_list ?_
  refine wpList_step fun K hK => ?_
  go_simp
  refine hK _ _ ?_
  clear hK K
  obtain ⟨w2, hw2⟩ : ∃ w2, w1.alloc (.cells #[.int .u8 66] 5) = w2 := ⟨_, rfl⟩
  rw [hw2] at hB2' row2 ⊢
  clear hw2
  have hb2 := hb1.below hB2'
  have h2 := h1.below hB2'
  have hB2 := hB1.trans (hB2'.mono hB1.size)
  have hT2 := there_below hT1 hB2' hs1
  have hs2 := Nat.lt_of_lt_of_le hs1 hB2'.size
  refine wpList_load_mid rfl 24 _ rfl _ _ rfl [.bool q, .slice a rs.length cap] _ hb2.2.2.2 Tryd.underlying24 rfl hib ?_
  go_wp2_with fail
  refine (cf w2 h2).mono ?_
  rintro e w3 ⟨v3, rfl, m3, hw3⟩
  have hB3 := hB2.trans (hw3.mono hB2.size)
  have hT3 := there_below hT2 hw3 hs2
  have hs3 := Nat.lt_of_lt_of_le hs2 hw3.size
  have row3 := row2.below hw3
  obtain ⟨a3, cap3, rfl, hc3, hm3, rowF⟩ := m3.rowAt (by unfold maxLen; omega)
  have hP := parts2 w3 ⟨some ⟨w1.heap.size, 0, none⟩, 1, [66]⟩ ⟨a3, cap3, F⟩ ⟨row3, by simp, by show 1 ≤ maxLen; unfold maxLen; omega⟩ ⟨rowF, hc3, hm3⟩
  have hcat : cat [(⟨some ⟨w1.heap.size, 0, none⟩, 1, [66]⟩ : Part), ⟨a3, cap3, F⟩] = 66 :: F := by simp [cat]
  have hB4' : Below w3.heap.size w3 (w3.alloc (.cells #[.slice (some ⟨w1.heap.size, 0, none⟩) 1 1, .slice a3 F.length cap3] 39)) := (Below.refl _ _).alloc (Nat.le_refl _) _
  have hB4 := hB3.trans (hB4'.mono hB3.size)
  have cs := sum_any (some ⟨w3.heap.size, 0, none⟩) 2 _ (w3.alloc (.cells #[.slice (some ⟨w1.heap.size, 0, none⟩) 1 1, .slice a3 F.length cap3] 39)) (hG.below hB4) hP (by rw [hcat]; simp; omega)
  rw [hcat, HM.out] at cs
  simp only [List.length_cons, List.length_nil, Nat.zero_add] at cs
  have hT4 := there_below hT3 hB4' hs3
  have hs4 := Nat.lt_of_lt_of_le hs3 hB4'.size
  clear cf h1 h2 hb1 hb2 hP hcat row2 row3 rowF m3
  go_wp2_with fail
  refine cs.mono ?_
  rintro e w5 ⟨rfl, hw5⟩
  clear cs
  have hB5 := hB4.trans (hw5.mono hB4.size)
  have hT5' := there_below hT4 hw5 hs4
  have hT5 : w5.there Y 0 (v8 m).toArray.size := by
    have e : (v8 m).toArray.size = 32 := by rw [List.size_toArray, v8_length, hml]
    rw [e]; exact hT5'
  have hi := info24 m hml
  have h1c := all_oneCell_toArray (v8_one m)
  have hRr := World.rangeAt_setCells_same w5 Y 0 (v8 m) (by rw [v8_length, hml]; exact hT5')
  have hBl := below_sets hwY (v8 m) 0 w5 hB5
  have hrs := load32 hml hRr
  clear hB4' hB2' hB4 hw5 hw3
  go_wp2_with (refine wpList_store_mid (op := ⟨none, .store 46 (.tmp 2) (.tmp 7), _, _, _, none⟩) rfl 46 _ _ rfl _ _ (v8 m).toArray rfl rfl hT5 hi h1c ?_)
  exact bodyPost_ret (v := .agg (v8 m).toArray) (by simp [results, Tryd.results25, asAddr, hrs, Act.put]) rfl ⟨rfl, hBl⟩
set_option maxRecDepth 100000 in
set_option maxHeartbeats 2000000 in
theorem refBdig_any (q : Bool) (a : Option Addr) (cap : Nat) (rs : List Rq) (w : World) (h : ReqsAt w a rs) (hn : rs.length ≤ 200) (hs : ∀ r ∈ rs, r.s.size ≤ 4000) :
    Calls Tryd.prog 26 #[batV q a rs.length cap] w fun e w' => e = .returned (.agg (v8 (digB q rs)).toArray) ∧ Below w.heap.size w w' := by
  obtain ⟨i0, hii, hz0, hz1, hz2⟩ := info_parts info8
  have lF := batL_le q rs hn h.2.1 hs
  have cf := fun w0 h0 => refBput_any none 0 [] q a cap rs w0 (nil_row w0) (by simp) h0 hn hs
  simp only [List.nil_append, List.length_nil] at cf
  unfold batV at cf ⊢
  obtain ⟨m, hm⟩ : ∃ m, Hid (digB q rs = m) := ⟨_, hide rfl⟩
  have hml : m.length = 32 := by rw [← hm.out]; exact sha_length _
  rw [hm.out]
  have HM : Hid (sha (66 :: batL q rs) = m) := hm
  obtain ⟨F, hF⟩ : ∃ F, Hid (batL q rs = F) := ⟨_, hide rfl⟩
  have hF0 := batL_pos q rs
  rw [hF.out] at lF HM hF0
  simp only [hF.out] at cf
  clear hF hm
  have hB1 : Below w.heap.size w ((w.alloc (.cells #[.bool q, .slice a rs.length cap] 24)).alloc (.cells (Array.replicate 32 (.int .u8 0)) 46)) := ((Below.refl _ _).alloc (Nat.le_refl _) _).alloc (by simp) _
  have hb1 := (BatBox.mk w q a rs.length cap).below ((Below.refl _ _).alloc (Nat.le_refl _) (.cells (Array.replicate 32 (.int .u8 0)) 46))
  have hT1 := (new_bytes (w.alloc (.cells #[.bool q, .slice a rs.length cap] 24)) 32 46).2
  rw [World.size_alloc] at hT1
  have hs1 : w.heap.size + 1 < ((w.alloc (.cells #[.bool q, .slice a rs.length cap] 24)).alloc (.cells (Array.replicate 32 (.int .u8 0)) 46)).heap.size := by simp
  have h1 := h.below hB1
  have hib := batI q a rs.length cap
  go_enter Tryd.func26, Tryd.ntmps26
  go_upto_region 1 with fail
  go_name_world w1 hw1
  rw [show (w.alloc (.cells #[.bool q, .slice a rs.length cap] 24)).alloc (.cells (Array.replicate 32 (.int .u8 0)) 46) = w1 from hw1] at hB1 hb1 h1 hT1 hs1
  clear hw1
  obtain ⟨X, hXe⟩ : ∃ X, Hid (w.heap.size = X) := ⟨_, hide rfl⟩
  obtain ⟨Y, hYe⟩ : ∃ Y, Hid (w.heap.size + 1 = Y) := ⟨_, hide rfl⟩
  have hwY : w.heap.size ≤ Y := by rw [← hYe.out]; omega
  rw [hYe.out] at hT1 hs1 ⊢
  rw [hXe.out] at hb1 ⊢
  have hcv := Lib.run_convert_bytes_const (P := Tryd.prog) w1 39 5 #[.int .u8 66] 1 1 Tryd.underlying39 Tryd.underlying5
  have hB2' : Below w1.heap.size w1 (w1.alloc (.cells #[.int .u8 66] 5 (1, 2))) := (Below.refl _ _).alloc (Nat.le_refl _) _
  have row2 : (w1.alloc (.cells #[.int .u8 66] 5 (1, 2))).rangeAt w1.heap.size 0 (v8 [66]) := range_mark w1 #[.int .u8 66] 5 (1, 2)
  have hsz2 : w1.heap.size < (w1.alloc (.cells #[.int .u8 66] 5 (1, 2))).heap.size := by simp
  try simp only [Act.put]
  refine wp_region_list ?_
  refine wpList_step fun K hK => ?_
  go_simp
  refine hK _ _ ?_
  clear hK K
  refine wpList_step fun K hK => ?_
  go_simp
  refine hK _ _ ?_
  clear hK K
  clear hcv
  obtain ⟨w2, hw2⟩ : ∃ w2, w1.alloc (.cells #[.int .u8 66] 5 (1, 2)) = w2 := ⟨_, rfl⟩
  rw [hw2] at hB2' row2 hsz2 ⊢
  clear hw2
  have hb2 := hb1.below hB2'
  have h2 := h1.below hB2'
  have hB2 := hB1.trans (hB2'.mono hB1.size)
  have hT2 := there_below hT1 hB2' hs1
  have hs2 := Nat.lt_of_lt_of_le hs1 hB2'.size
  refine wpList_load_mid rfl 24 _ rfl _ _ rfl [.bool q, .slice a rs.length cap] _ hb2.2.2.2 Tryd.underlying24 rfl hib ?_
  go_wp2_with fail
  refine (cf w2 h2).mono ?_
  rintro e w3 ⟨v3, rfl, m3, hw3⟩
  have hB3 := hB2.trans (hw3.mono hB2.size)
  have hT3 := there_below hT2 hw3 hs2
  have hs3 := Nat.lt_of_lt_of_le hs2 hw3.size
  have row3 := range_below row2 hw3 hsz2
  obtain ⟨a3, cap3, rfl, hc3, hm3, rowF⟩ := m3.rowAt (by unfold maxLen; omega)
  obtain ⟨v4, w4, hr4, m4, hw4⟩ := append66 w3 w1.heap.size F a3 cap3 row3 rowF hF0 (by omega)
  obtain ⟨a4, cap4, rfl, hc4, hm4, row4⟩ := m4.rowAt (by unfold maxLen; simp; omega)
  have hB4 := hB3.trans (hw4.mono hB3.size)
  have hT4 := there_below hT3 hw4 hs3
  have hs4 := Nat.lt_of_lt_of_le hs3 hw4.size
  have cs := refSum_any a4 cap4 (66 :: F) w4 row4 (by simp; omega)
  rw [HM.out] at cs
  obtain ⟨G, hG⟩ : ∃ G, Hid (66 :: F = G) := ⟨_, hide rfl⟩
  rw [hG.out] at cs hr4
  clear cf h1 h2 hb1 hb2 row2 row3 rowF m3 m4 row4
  go_wp2_with (at_builtin; refine wpList_append_run rfl _ _ 39 39 rfl _ _ _ _ rfl rfl hr4 ?_)
  refine cs.mono ?_
  rintro e w5 ⟨rfl, hw5⟩
  clear cs
  have hB5 := hB4.trans (hw5.mono hB4.size)
  have hT5' := there_below hT4 hw5 hs4
  have hT5 : w5.there Y 0 (v8 m).toArray.size := by
    have e : (v8 m).toArray.size = 32 := by rw [List.size_toArray, v8_length, hml]
    rw [e]; exact hT5'
  have hi := info24 m hml
  have h1c := all_oneCell_toArray (v8_one m)
  have hRr := World.rangeAt_setCells_same w5 Y 0 (v8 m) (by rw [v8_length, hml]; exact hT5')
  have hBl := below_sets hwY (v8 m) 0 w5 hB5
  have hrs := load32 hml hRr
  clear hB2' hB4 hw5 hw3 hw4
  go_wp2_with (refine wpList_store_mid (op := ⟨none, .store 46 (.tmp 2) (.tmp 8), _, _, _, none⟩) rfl 46 _ _ rfl _ _ (v8 m).toArray rfl rfl hT5 hi h1c ?_)
  exact bodyPost_ret (v := .agg (v8 m).toArray) (by simp [results, Tryd.results26, asAddr, hrs, Act.put]) rfl ⟨rfl, hBl⟩
end Go.Proofs.YtinpbnkmpplkiaaDoor
namespace Go.Proofs.YtinpbnkmpplkiaaDoor
open Go.RowKit
open Sha Tal
theorem row_conv {w : World} {a : Option Addr} {zs : List Int} (cap : Nat) (h : RowAt w a zs) (h0 : 0 < zs.length) : (convert 39 9 (.slice a zs.length cap)).run Tryd.prog w = .ok (.string (strOf zs)) w := by
  rcases h.2.2 with rfl | ⟨b, off, rfl, _, hr⟩
  · simp at h0
  · exact row_str hr
theorem bat0 : batL true [] = [0] := by decide
theorem bat1 : batL false [] = [1, 1] := by decide
theorem str0 : strOf [0] = ⟨#[0]⟩ := by decide
theorem str1 : strOf [1, 1] = ⟨#[1, 1]⟩ := by decide
theorem dig01 : (digB true [] == digB false []) = false := by decide +kernel
theorem eqIn46 (xs ys : List Int) (hx : xs.length = 32) (hy : ys.length = 32) (w : World) : (Op.equalIn 10000 46 (.agg (v8 xs).toArray) (.agg (v8 ys).toArray)).run Tryd.prog w = .ok (xs == ys) w :=
  run_equal8 w 9998 46 5 32 Tryd.underlying46 Tryd.underlying5 isz8 xs ys hx hy
set_option maxRecDepth 100000 in
set_option maxHeartbeats 2000000 in
theorem lives7_any (w : World) (hG : Glob w) : Calls Tryd.prog 10 #[] w fun e w' => e = .returned (.bool true) ∧ Below w.heap.size w w' := by
  have c1 := fun w0 => bput_any none 0 [] true none 0 [] w0 (nil_row w0) (by simp) ReqsAt.none (by simp) (by simp)
  have c2 := fun w0 => bput_any none 0 [] false none 0 [] w0 (nil_row w0) (by simp) ReqsAt.none (by simp) (by simp)
  have d1 := fun w0 hg => bdig_any true none 0 [] w0 hg ReqsAt.none (by simp) (by simp)
  have d2 := fun w0 hg => bdig_any false none 0 [] w0 hg ReqsAt.none (by simp) (by simp)
  have cn := fun w0 => none_any w0
  simp only [List.nil_append, List.length_nil, bat0, bat1] at c1 c2 d1 d2
  have hne := fun w0 => eqIn46 (digB true []) (digB false []) (sha_length _) (sha_length _) w0
  simp only [dig01] at hne
  unfold batV at c1 c2 d1 d2 cn
  obtain ⟨D1, hD1⟩ : ∃ D, Hid (digB true [] = D) := ⟨_, hide rfl⟩
  obtain ⟨D2, hD2⟩ : ∃ D, Hid (digB false [] = D) := ⟨_, hide rfl⟩
  simp only [hD1.out, hD2.out] at d1 d2 hne
  clear hD1 hD2
  obtain ⟨z0, hz0⟩ : ∃ z, Hid (([0] : List Int) = z) := ⟨_, hide rfl⟩
  obtain ⟨z1, hz1⟩ : ∃ z, Hid (([1, 1] : List Int) = z) := ⟨_, hide rfl⟩
  simp only [hz0.out, hz1.out] at c1 c2
  have l0 : z0.length = 1 := by rw [← hz0.out]; rfl
  have l1 : z1.length = 2 := by rw [← hz1.out]; rfl
  have s0 : strOf z0 = ⟨#[0]⟩ := by rw [← hz0.out]; exact str0
  have s1 : strOf z1 = ⟨#[1, 1]⟩ := by rw [← hz1.out]; exact str1
  have hl0 := hide l0
  have hl1 := hide l1
  clear l0 l1 hz0 hz1
  go_enter Tryd.func10, Tryd.ntmps10
  go_wp2_with fail
  refine (cn w).mono ?_
  rintro e w1 ⟨rfl, hw1⟩
  go_wp2_with fail
  refine (c1 w1).mono ?_
  rintro e w2 ⟨v2, rfl, m2, hw2⟩
  have hB2 := hw1.trans (hw2.mono hw1.size)
  obtain ⟨a2, cap2, rfl, _, _, row2⟩ := m2.rowAt (by rw [hl0.out]; unfold maxLen; omega)
  have hcv := row_conv cap2 row2 (by rw [hl0.out]; omega)
  rw [s0] at hcv
  clear m2 row2 c1 hw1 hw2
  go_wp2_with fail
  refine (c2 w2).mono ?_
  rintro e w3 ⟨v3, rfl, m3, hw3⟩
  have hB3 := hB2.trans (hw3.mono hB2.size)
  obtain ⟨a3, cap3, rfl, _, _, row3⟩ := m3.rowAt (by rw [hl1.out]; unfold maxLen; omega)
  have hcv3 := row_conv cap3 row3 (by rw [hl1.out]; omega)
  rw [s1] at hcv3
  clear m3 row3 c2 hcv hw3 hB2
  go_wp2_with fail
  refine (cn w3).mono ?_
  rintro e w4 ⟨rfl, hw4⟩
  have hB4 := hB3.trans (hw4.mono hB3.size)
  go_wp2_with fail
  refine (d1 w4 (hG.below hB4)).mono ?_
  rintro e w5 ⟨rfl, hw5⟩
  have hB5 := hB4.trans (hw5.mono hB4.size)
  go_wp2_with fail
  refine (d2 w5 (hG.below hB5)).mono ?_
  rintro e w6 ⟨rfl, hw6⟩
  have hB6 := hB5.trans (hw6.mono hB5.size)
  have hn6 := hne w6
  clear hne d1 d2 cn hcv3
  go_wp2_with fail
  go_ret
  exact ⟨rfl, hB6⟩
end Go.Proofs.YtinpbnkmpplkiaaDoor
