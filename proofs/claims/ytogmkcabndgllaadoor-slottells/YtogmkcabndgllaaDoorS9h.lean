/- SlotDecides: the walk -/
import Derived.Test.YtogmkcabndgllaaDoorS6
import Derived.Test.YtogmkcabndgllaaDoorS5
namespace Go.Proofs.YtogmkcabndgllaaDoor
open Go.RowKit
open Sha Tal
set_option linter.unusedVariables false
theorem box4r {w w1 : World} {q r u v : List Value} {t1 t2 t3 t4 : TypeId} (h : (((w.alloc (.cells q.toArray t1)).alloc (.cells r.toArray t2)).alloc (.cells u.toArray t3)).alloc (.cells v.toArray t4) = w1) :
    Below w.heap.size w w1 ∧ w1.rangeAt w.heap.size 0 q ∧ w1.rangeAt (w.heap.size + 1) 0 r ∧ w1.rangeAt (w.heap.size + 1 + 1) 0 u ∧ w1.rangeAt (w.heap.size + 1 + 1 + 1) 0 v ∧ w1.there (w.heap.size + 1 + 1 + 1) 0 v.toArray.size ∧ w.heap.size + 4 ≤ w1.heap.size := by
  obtain ⟨h1, h2, h3, h4, h5, h6, h7⟩ := box4 h
  refine ⟨h1, h2, h4, h5, ?_, h6, h7⟩
  subst h
  have r3 := range_new (((w.alloc (.cells q.toArray t1)).alloc (.cells r.toArray t2)).alloc (.cells u.toArray t3)) v.toArray t4
  simp only [World.size_alloc] at r3
  simpa using r3
def Ce.withD (c : Ce) (d : List Int) : Ce := { c with v := { c.v with d := d } }
def Ce.withK (c : Ce) (k : Int) : Ce := { c with v := { c.v with k := k } }
theorem Ce.withD_at {c : Ce} {d : List Int} {w : World} (h : c.at w) (hd : d.length = 32) (hb : B8 d) : (c.withD d).at w := ⟨⟨h.v.k, h.v.e, h.v.v, h.v.s, hd, hb⟩, h.s, h.le, h.cm⟩
theorem Ce.withK_at {c : Ce} {k : Int} {w : World} (h : c.at w) (hk : I64 k) : (c.withK k).at w := ⟨⟨hk, h.v.e, h.v.v, h.v.s, h.v.dl, h.v.db⟩, h.s, h.le, h.cm⟩
theorem ce_putD {w : World} {Z : Nat} {c : Ce} {d : List Int} (hr : w.rangeAt Z 0 c.cells) (ht : w.there Z 0 37) (hl : d.length = c.v.d.length) (h32 : c.v.d.length = 32) : (w.setCells Z 4 (v8 d)).rangeAt Z 0 (c.withD d).cells := by
  have := box_put (w := w) (Z := Z) (n := 37) (pre := [.int .i64 c.v.k, .int .i64 c.v.e, .int .i64 c.v.v, .int .i64 c.v.s]) (mid := v8 c.v.d) (mid' := v8 d) (post := [.slice c.a c.ss.length c.cap]) (by rw [v8_length, v8_length, hl]) (by simpa [Ce.cells, Vt.cells] using hr) ht (by simp [h32])
  simpa [Ce.cells, Vt.cells, Ce.withD] using this
theorem ce_putK {w : World} {Z : Nat} {c : Ce} {k : Int} (hr : w.rangeAt Z 0 c.cells) (ht : w.there Z 0 37) : (w.setCells Z 0 [.int .i64 k]).rangeAt Z 0 (c.withK k).cells := by
  have := box_put (w := w) (Z := Z) (n := 37) (pre := []) (mid := [.int .i64 c.v.k]) (mid' := [.int .i64 k]) (post := [.int .i64 c.v.e, .int .i64 c.v.v, .int .i64 c.v.s] ++ (v8 c.v.d ++ [.slice c.a c.ss.length c.cap])) rfl (by simpa [Ce.cells, Vt.cells] using hr) ht (by simp)
  simpa [Ce.cells, Vt.cells, Ce.withK] using this
set_option maxRecDepth 100000 in
theorem infoSl : (Tryd.prog.info? 37).map (fun i => (i.zero, i.size)) = some (some (.agg sl0.cells.toArray), 85) := by kernel_rfl
theorem bs_slot {u : List Value} (hu : u.length = 85) (w : World) : (Instr.buildSlice 67 1 #[(0, .agg u.toArray)]).run Tryd.prog w = .ok (.slice (some ⟨w.heap.size, 0, none⟩) 1 1) (w.alloc (.cells u.toArray 37)) := by
  obtain ⟨i, hi, hzz⟩ := Option.map_eq_some_iff.1 infoSl
  simp only [Prod.mk.injEq] at hzz
  obtain ⟨hz, hs⟩ := hzz
  exact run_bs1 67 37 i _ u Tryd.underlying67 hi hz (by rw [hs, hu]) (by omega) (by omega) w
/-- what is decided -/
def slD (s : Sl) (b : Bat) (c : Ce) : Sl := { s with es := c.v.s, eb := b, ec := c, de := true }
theorem dec1 {s : Sl} {b : Bat} {c : Ce} (hk : c.v.k = 2) (hd : c.v.d = b.dig) (hde : s.de = false) : decideP s b c = (slD s b c, 0) := by
  unfold decideP
  rw [if_neg (by simp [hk, hd]), if_neg (by simp [hde])]
  rfl
theorem dec2 {s : Sl} {b o : Bat} {c c' : Ce} (hk : c'.v.k = 2) (hd : c'.v.d = o.dig) : decideP (slD s b c) o c' = if b.dig = o.dig then (slD s b c, 0) else (sl0, 181) := by
  unfold decideP
  rw [if_neg (by simp [hk, hd]), if_pos (show (slD s b c).de = true from rfl)]
  rfl
theorem slD_raw {s : Sl} {b : Bat} {c : Ce} {w : World} (h : s.raw w) (hb : b.at w) (hc : c.at w) : (slD s b c).raw w := ⟨h.b, h.hb, hb, h.hc, hc⟩
end Go.Proofs.YtogmkcabndgllaaDoor
