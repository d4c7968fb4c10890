/- quorum.Nth: the contract; the chapter's example. -/
import Derived.Test.YtfaagiilldkdgaaIter
namespace Go.Proofs.Ytfaagiilldkdgaa.Nq
open Go.RowKit
theorem RowI.vals {w : World} {a : Option Addr} {zs : List Int} (h : RowI w a zs) : ValsAt w.heap.size w a zs := h.2
theorem nth_at (zs : List Int) (i : Nat) (h1 : 1 ≤ i) (h2 : i ≤ zs.length) : (zs.mergeSort (fun x y => decide (x ≤ y)))[zs.length - i]? = some (nth zs i) := by
  have hp : (zs.mergeSort (fun x y => decide (x ≤ y))).Perm zs := List.mergeSort_perm _ _
  have hl := hp.length_eq
  have hs : (zs.mergeSort (fun x y => decide (x ≤ y))).Pairwise (· ≤ ·) := by
    have := List.pairwise_mergeSort (le := fun x y : Int => decide (x ≤ y)) (fun a b c h1 h2 => by simp at *; omega) (fun a b => by simp; omega) zs
    simpa using this
  rw [nth_sorted zs _ hp hs i h1 h2]
  conv => lhs; rw [← hl]
  exact List.getElem?_eq_getElem (by omega)
theorem own_some {w : World} {base : Nat} {e : TypeId} {v : Value} {n : Nat} {xs : List Value} (h : w.ownsRow base e 1 v n xs) (hn : 0 < n) : ∃ g cap, v = .slice (some ⟨g, 0, none⟩) n cap := by
  rcases h.2 with ⟨rfl, hz⟩ | ⟨g, cap', cur, rfl, _⟩
  · omega
  · exact ⟨g, cap', rfl⟩
theorem own_cell {w : World} {base : Nat} {e : TypeId} {g n cap : Nat} {ts : List Int} {p : Nat} {x : Int} (h : w.ownsRow base e 1 (.slice (some ⟨g, 0, none⟩) n cap) n (ts.map (Value.int .i64))) (hp : ts[p]? = some x) : w.cell? ⟨g, p, none⟩ = some (.int .i64 x) := by
  have := h.cells (g := g) rfl p (.int .i64 x) (by rw [List.getElem?_map, hp]; rfl)
  by_cases h0 : p = 0
  · rw [h0] at this ⊢; simpa [Addr.add] using this
  · simpa [Addr.add, h0] using this
set_option maxHeartbeats 1000000 in
theorem nth_any (a : Option Addr) (cap : Nat) (zs : List Int) (i : Int) (w : World) (hr : RowI w a zs) (hb : zs.length * 8 ≤ 140737488351232) :
    Calls Try.prog 22 #[.slice a zs.length cap, .int .i64 i] w fun e w' => e = .returned (.int .i64 (nth zs i)) ∧ Below w.heap.size w w' := by
  by_cases h1 : i < 1
  · go_enter Try.func22, Try.ntmps22
    go_wp2
    go_ret
    exact ⟨ret_int (by rw [nth_none zs i (Or.inl h1)]), Below.refl _ _⟩
  · by_cases h2 : (zs.length : Int) < i
    · go_enter Try.func22, Try.ntmps22
      go_wp2
      go_ret
      exact ⟨ret_int (by rw [nth_none zs i (Or.inr h2)]), Below.refl _ _⟩
    · obtain ⟨k, rfl⟩ := Int.eq_ofNat_of_zero_le (show 0 ≤ i by omega)
      have hn := hide (nth_at zs k (by omega) (by omega))
      generalize nth zs (k : Int) = x at hn ⊢
      have hB0 : Below w.heap.size w (w.alloc (.cells #[.slice a zs.length cap] 43)) := (Below.refl _ w).alloc (Nat.le_refl _) _
      have cs := sorted_any w.heap.size a cap zs hb (w.alloc (.cells #[.slice a zs.length cap] 43)) (by simp) (by rw [World.cell?_alloc_at _ _ _ _ rfl]; rfl) ((hr.below hB0).vals)
      have ei : (zs.length : Int) - k = ((zs.length - k : Nat) : Int) := by omega
      clear hr
      go_enter Try.func22, Try.ntmps22
      go_wp2_with (first | (go_at_call 27; refine (values_any a zs.length cap _).mono ?_; rintro e w1 ⟨rfl, rfl⟩) | (go_at_call 26; refine cs.mono ?_; clear cs; rintro e w2 ⟨v, rfl, hrow, hw2⟩; obtain ⟨g, cap', rfl⟩ := own_some hrow (by omega); have hcell : w2.cell? ⟨g, zs.length - k, none⟩ = some (.int .i64 x) := own_cell hrow hn.out; clear hrow))
      go_ret
      exact ⟨rfl, hB0.trans (hw2.mono (by simp))⟩
def lit3 : List Int := [3, 9, 5]
theorem nth_lit : nth lit3 2 = 5 := by decide
end Go.Proofs.Ytfaagiilldkdgaa.Nq
