/- SlotOnce: its acts; what the walk leans on -/
import Derived.Test.YtogmkcabndgllaaDoorSP
import Derived.Test.YtogmkcabndgllaaDoorSArgs
import Derived.Deep.Upon
namespace Go.Proofs.YtogmkcabndgllaaDoor
open Go.ChangeShapes Go.WideShapes Go.ChangeAt Go.RowKit
open Sha Tal
set_option linter.unusedVariables false
structure Ax where
  k : Int
  v : Int
  b : Bat
  c : Ce
instance : Inhabited Ax := ⟨⟨0, 0, bat0, ce0⟩⟩
def Ax.cells (a : Ax) : List Value := [.int .i64 a.k] ++ ([.int .i64 a.v] ++ (a.b.cells ++ a.c.cells))
structure Ax.at (a : Ax) (w : World) : Prop where
  k : I64 a.k
  v : I64 a.v
  b : a.b.at w
  c : a.c.at w
theorem Ax.at.below {a : Ax} {w w' : World} (h : a.at w) (hb : Below w.heap.size w w') : a.at w' := ⟨h.k, h.v, h.b.below hb, h.c.below hb⟩
theorem Ax.len {a : Ax} {w : World} (h : a.at w) : a.cells.length = 41 := by simp [Ax.cells, Ce.len h.c.v, Bat.cells]
theorem Ax.one (a : Ax) : ∀ v ∈ a.cells, v.oneCell' = true := by
  intro v hv
  simp only [Ax.cells, List.mem_append, List.mem_singleton] at hv
  rcases hv with rfl | rfl | q | q
  · rfl
  · rfl
  · exact a.b.one v q
  · exact a.c.one v q
theorem Ax.parts {a : Ax} {w : World} {Z : Nat} (h : w.rangeAt Z 0 a.cells) : w.cell? ⟨Z, 0, none⟩ = some (.int .i64 a.k) ∧ w.cell? ⟨Z, 1, none⟩ = some (.int .i64 a.v) ∧ w.rangeAt Z 2 a.b.cells ∧ w.rangeAt Z 4 a.c.cells := by
  have h1 := range_right h
  simp only [List.length_cons, List.length_nil, Nat.zero_add] at h1
  have h2 := range_right h1
  simp only [List.length_cons, List.length_nil, Nat.zero_add, Nat.reduceAdd] at h2
  have h3 := range_right h2
  simp only [Bat.cells, List.length_cons, List.length_nil, Nat.zero_add, Nat.reduceAdd] at h3
  exact ⟨h 0 _ rfl, h1 0 _ rfl, range_left h2, h3⟩
set_option maxRecDepth 100000 in
theorem ax_of {H : Type} {enc : TypeId × Value → H} {W : World} {b : Nat} {sp : Nat → Bool} {held : Bool} {fuel : Nat} {l : List Value} {x : DataW H × List MemPlace}
    (h : DataW.trod enc Tryd.prog W b sp held fuel 61 l = some x) : ∃ a : Ax, l = a.cells ∧ a.at W := by
  have hct : Tryd.prog.cellsOf 61 = 41 := by kernel_rfl
  have hcn : Tryd.prog.cellsOf 3 = 1 := by kernel_rfl
  have hci : Tryd.prog.cellsOf 24 = 2 := by kernel_rfl
  have hcs : Tryd.prog.cellsOf 31 = 37 := by kernel_rfl
  obtain ⟨xs, m, _, rfl, hcl, hl, hf⟩ := DataW.trod_struct Tryd.underlying61 h
  rw [hct] at hcl
  have hl : xs.length = 4 := hl
  have h0 : DataW.trod enc Tryd.prog W b sp held m 3 ((l.drop 0).take (Tryd.prog.cellsOf 3)) = xs[0]? := hf 0 _ rfl
  have h1 : DataW.trod enc Tryd.prog W b sp held m 3 ((l.drop 1).take (Tryd.prog.cellsOf 3)) = xs[1]? := hf 1 _ rfl
  have h2 : DataW.trod enc Tryd.prog W b sp held m 24 ((l.drop 2).take (Tryd.prog.cellsOf 24)) = xs[2]? := hf 2 _ rfl
  have h3 : DataW.trod enc Tryd.prog W b sp held m 31 ((l.drop 4).take (Tryd.prog.cellsOf 31)) = xs[3]? := hf 3 _ rfl
  rw [hcn] at h0 h1
  rw [hci] at h2
  rw [hcs] at h3
  obtain ⟨y0, e0⟩ := some_at hl (show 0 < 4 by omega)
  obtain ⟨y1, e1⟩ := some_at hl (show 1 < 4 by omega)
  obtain ⟨y2, e2⟩ := some_at hl (show 2 < 4 by omega)
  obtain ⟨y3, e3⟩ := some_at hl (show 3 < 4 by omega)
  obtain ⟨z0, g0, _, w0⟩ := DataW.trod_int Tryd.underlying3 (h0.trans e0)
  obtain ⟨z1, g1, _, w1⟩ := DataW.trod_int Tryd.underlying3 (h1.trans e1)
  obtain ⟨v, g2, hv⟩ := bat_of (h2.trans e2)
  obtain ⟨c, g3, hc⟩ := cert_of (h3.trans e3)
  refine ⟨⟨z0, z1, v, c⟩, ?_, wf64 w0, wf64 w1, hv, hc⟩
  have e := take_whole (n := 1 + (1 + (2 + 37))) hcl
  rw [take_cut, take_cut, take_cut, g0, g1, g2, g3] at e
  exact e
set_option maxRecDepth 100000 in
theorem axs_of {H : Type} {enc : TypeId × Value → H} {W : World} {b : Nat} {sp : Nat → Bool} {held : Bool} {fuel : Nat} {l : List Value} {x : DataW H × List MemPlace}
    (h : DataW.trod enc Tryd.prog W b sp held fuel 59 l = some x) : ∃ (a : Option Addr) (cap : Nat) (ys : List Ax), l = [.slice a ys.length cap] ∧ ys.length ≤ cap ∧ cap ≤ maxLen ∧ (∀ y ∈ ys, y.at W) ∧ RowOf Ax.cells W a ys :=
  rows_of Ax.cells (fun y => y.at W) 41 (by decide) 59 61 Tryd.underlying59 (by kernel_rfl) (fun y hy => Ax.len hy) (fun m l z hz => ax_of hz) h
/-- an act that is not too great -/
structure Ax.small (a : Ax) : Prop where
  b : a.b.lt
  c : a.c.ss.length ≤ 100
theorem one_bat (w : World) (x : Bat) (h : x.at w) : BatsAt (w.alloc (.cells #[.bool x.q, .slice x.a x.rs.length x.cap] 24)) w.heap.size [x] := by
  have hb : Below w.heap.size w (w.alloc (.cells #[.bool x.q, .slice x.a x.rs.length x.cap] 24)) := (Below.refl _ _).alloc (Nat.le_refl _) _
  refine ⟨by simp, fun z hz => ?_, by simp, range_new w #[.bool x.q, .slice x.a x.rs.length x.cap] 24⟩
  obtain rfl := List.mem_singleton.1 hz
  exact h.below hb
/-- the slot so far, the one that an act has made, the digests that were met -/
structure Mid18 (w : World) (S M X : Nat) (s x : Sl) (m : Int → Option (List Int)) (n : Nat) (wx : World) : Prop where
  s : SlAt wx S s
  x : SlAt wx X x
  m : MapD wx M n m
  b : Below w.heap.size w wx
theorem Mid18.below {w : World} {S M X : Nat} {s x : Sl} {m : Int → Option (List Int)} {n : Nat} {wx w' : World} (h : Mid18 w S M X s x m n wx) (hb : Below wx.heap.size wx w') : Mid18 w S M X s x m n w' :=
  ⟨h.s.below hb, h.x.below hb, h.m.below hb, h.b.trans (hb.mono h.b.size)⟩
theorem SlAt.put {w : World} {Z : Nat} {s x : Sl} (h : SlAt w Z s) (hx : x.vok) : SlAt (w.setCells Z 0 x.cells) Z x :=
  ⟨by rw [setCells_size]; exact h.lt, World.there_setCells h.th _ _ _, World.rangeAt_setCells_same _ _ _ _ (by rw [Sl.len hx]; exact h.th)⟩
theorem SlAt.apart {w : World} {Z X : Nat} {s : Sl} (h : SlAt w Z s) (hne : Z ≠ X) (cs : List Value) : SlAt (w.setCells X 0 cs) Z s :=
  ⟨by rw [setCells_size]; exact h.lt, World.there_setCells h.th _ _ _, World.rangeAt_setCells_apart h.r _ _ _ (.inl hne)⟩
theorem MapD.apart {w : World} {M X n : Nat} {m : Int → Option (List Int)} (h : MapD w M n m) (hne : M ≠ X) (cs : List Value) : MapD (w.setCells X 0 cs) M n m :=
  h.at (World.heap_setCells_other w X 0 cs h.lt hne)
theorem iszA18 : (Tryd.prog.info? 61).map (·.size) = some 41 := by kernel_rfl
theorem SlAt.at {w w' : World} {Z : Nat} {s : Sl} (h : SlAt w Z s) (hs : w.heap.size ≤ w'.heap.size) (hb : w'.heap[Z]? = w.heap[Z]?) : SlAt w' Z s := by
  refine ⟨Nat.lt_of_lt_of_le h.lt hs, fun j hj => ?_, fun j v hv => ?_⟩
  · have := h.th j hj
    simpa [World.cell?, World.frozen?, hb] using this
  · have := h.r j v hv
    rw [← this]
    simp [World.cell?, hb]
theorem MapD.mono {w : World} {b n n' : Nat} {m : Int → Option (List Int)} (h : MapD w b n m) (hn : n ≤ n') : MapD w b n' m := by
  obtain ⟨D, ⟨es, cl, h1, h2, h3, h4⟩, h5⟩ := h
  exact ⟨D, ⟨es, cl, h1, h2, Nat.le_trans h3 hn, h4⟩, h5⟩
theorem Mid18.stored {w : World} {S M X : Nat} {s x : Sl} {m m' : Int → Option (List Int)} {n k : Nat} {wx w' : World} (h : Mid18 w S M X s x m n wx) (hm : MapD w' M k m') (hg : wx.grownBy w' (some M)) (h1 : S ≠ M) (h2 : X ≠ M) (h3 : w.heap.size ≤ M) : Mid18 w S M X s x m' k w' :=
  ⟨h.s.at hg.size (hg.block S h.s.lt (by simpa using h1)), h.x.at hg.size (hg.block X h.x.lt (by simpa using h2)), hm,
    h.b.trans ⟨hg.os, hg.tape, hg.output, hg.size, fun k hk => hg.block k (Nat.lt_of_lt_of_le hk h.b.size) (by simp; omega)⟩⟩
theorem metX_not {m : Int → Option (List Int)} {x : Sl} (h : x.is = false) : metX m x = m := by unfold metX; rw [if_neg (by simp [h])]
theorem metX_is {m : Int → Option (List Int)} {x : Sl} (h : x.is = true) : metX m x = putM m x.vw x.b.dig := by unfold metX; rw [if_pos h]
end Go.Proofs.YtogmkcabndgllaaDoor
