/- SlotHolds: the walk -/
import Derived.Test.YtogmkcabndgllaaDoorS7
namespace Go.Proofs.YtogmkcabndgllaaDoor
open Go.RowKit
open Sha Tal
set_option linter.unusedVariables false
theorem box3r {w w1 : World} {q r u : List Value} {t1 t2 t3 : TypeId} (h : ((w.alloc (.cells q.toArray t1)).alloc (.cells r.toArray t2)).alloc (.cells u.toArray t3) = w1) :
    Below w.heap.size w w1 ∧ w1.rangeAt w.heap.size 0 q ∧ w1.rangeAt (w.heap.size + 1) 0 r ∧ w1.rangeAt (w.heap.size + 1 + 1) 0 u ∧ w.heap.size + 3 ≤ w1.heap.size := by
  obtain ⟨h1, h2, h3, h4, h5, h6⟩ := box3 h
  refine ⟨h1, h2, h4, ?_, h6⟩
  subst h
  have r3 := range_new ((w.alloc (.cells q.toArray t1)).alloc (.cells r.toArray t2)) u.toArray t3
  simp only [World.size_alloc] at r3
  simpa using r3
theorem wtR_le : ∀ (rs : List Rq), rs.length * 20 ≤ wtR rs ∧ ∀ r ∈ rs, r.s.size ≤ wtR rs
  | [] => ⟨by simp [wtR], by simp⟩
  | r :: rs => by
    have ih := wtR_le rs
    have e : wtR (r :: rs) = 20 + r.s.size + wtR rs := by simp [wtR]
    refine ⟨by rw [e]; simp; omega, fun x hx => ?_⟩
    rw [e]
    rcases List.mem_cons.1 hx with rfl | hx
    · omega
    · have := ih.2 x hx; omega
theorem lt_of_wt {x : Bat} (h : wtR x.rs ≤ 4000) : x.lt := by
  have := wtR_le x.rs
  exact ⟨by omega, fun r hr => by have := this.2 r hr; omega⟩
theorem wt_mem {xs : List Bat} {x : Bat} (hx : x ∈ xs) (h : wt xs ≤ 4000) : x.lt := by
  refine lt_of_wt ?_
  unfold wt at h
  induction xs with
  | nil => cases hx
  | cons y r ih =>
    simp only [List.map_cons, List.sum_cons] at h
    rcases List.mem_cons.1 hx with rfl | hx
    · omega
    · exact ih hx (by omega)
theorem two_bats (w : World) (x y : Bat) (h : x.at w) (h' : y.at w) :
    BatsAt (w.alloc (.cells #[.bool x.q, .slice x.a x.rs.length x.cap, .bool y.q, .slice y.a y.rs.length y.cap] 24)) w.heap.size [x, y] := by
  have hb : Below w.heap.size w (w.alloc (.cells #[.bool x.q, .slice x.a x.rs.length x.cap, .bool y.q, .slice y.a y.rs.length y.cap] 24)) := (Below.refl _ _).alloc (Nat.le_refl _) _
  refine ⟨by simp, fun z hz => ?_, by simp, range_new w #[.bool x.q, .slice x.a x.rs.length x.cap, .bool y.q, .slice y.a y.rs.length y.cap] 24⟩
  rcases List.mem_cons.1 hz with rfl | hz
  · exact h.below hb
  · obtain rfl := List.mem_singleton.1 hz
    exact h'.below hb
theorem same_self (x : Bat) (w : World) (h : x.at w) : Calls Tryd.prog 18 #[.agg x.cells.toArray, .agg x.cells.toArray] w fun e w' => e = .returned (.bool true) ∧ Below w.heap.size w w' :=
  (refBSame_any x.q x.a x.cap x.rs x.q x.a x.cap x.rs w h.1 h.1).mono (fun e w' ⟨q, hb⟩ => by
    rcases q with ⟨q, _⟩ | ⟨_, q⟩
    · exact ⟨q, hb⟩
    · exact absurd ⟨rfl, rfl⟩ q)
/-- what the Hold of an accepted slot is -/
theorem holdA {v : Int} {b : Bat} {c : Ce} : holdP (slA v b) c = (if c.v.k ≠ 1 then (sl0, 181) else if c.v.v ≠ v then (sl0, 180) else if c.v.d ≠ b.dig then (sl0, 181) else ({ slA v b with hb := b, hc := c, ho := true }, 0)) := by
  unfold holdP
  by_cases h1 : c.v.k = 1
  · by_cases h2 : c.v.v = v
    · by_cases h3 : c.v.d = b.dig
      · simp [h1, h2, h3, slA, sl0]
      · simp [h1, h2, h3, slA, sl0]
    · simp [h1, h2, slA, sl0]
  · simp [h1]
theorem accA {v : Int} (hv : ¬ v < 0) {b o : Bat} : acceptP (slA v b) v o = if b.dig = o.dig then (slA v b, 0) else (sl0, 181) := by
  unfold acceptP
  rw [if_neg (by simp [slA]; omega), if_pos ⟨rfl, rfl⟩]
  rfl
end Go.Proofs.YtogmkcabndgllaaDoor
