/- leaders.among, among$1: contracts. -/
import Derived.Test.YtnndlgdlligjbabDoorLNodes
namespace Go.Proofs.YtnndlgdlligjbabDoor.Ld
open Go.RowKit Go.Shelf Go.Deep
/-- what among made: two boxes, and a row that tells of each node whether it stands in the list -/
def AmongAt (W : World) (s N : Nat) (p : Nat → Bool) : Prop :=
  W.cell? ⟨s, 0, none⟩ = some (.int .i64 (N : Int)) ∧ W.cell? ⟨s + 1 + 1, 0, none⟩ = some (.slice (some ⟨s + 1, 0, none⟩) N N) ∧ s + 1 + 1 < W.heap.size ∧ ∀ j, j < N → W.cell? ⟨s + 1, j, none⟩ = some (.bool (p j))
theorem AmongAt.below {W W' : World} {s N : Nat} {p : Nat → Bool} (h : AmongAt W s N p) (hb : Below W.heap.size W W') : AmongAt W' s N p := by
  obtain ⟨h1, h2, h3, h4⟩ := h
  exact ⟨(hb.cell (p := ⟨s, 0, none⟩) (by show s < _; omega)).trans h1, (hb.cell (p := ⟨s + 1 + 1, 0, none⟩) h3).trans h2, Nat.lt_of_lt_of_le h3 hb.size, fun j hj => (hb.cell (p := ⟨s + 1, j, none⟩) (by show s + 1 < _; omega)).trans (h4 j hj)⟩
theorem AmongAt.belowN {W W' : World} {s N n₀ : Nat} {p : Nat → Bool} (h : AmongAt W s N p) (hb : Below n₀ W W') (hn : s + 1 + 1 < n₀) : AmongAt W' s N p := by
  obtain ⟨h1, h2, h3, h4⟩ := h
  exact ⟨(hb.cell (p := ⟨s, 0, none⟩) (by show s < _; omega)).trans h1, (hb.cell (p := ⟨s + 1 + 1, 0, none⟩) hn).trans h2, Nat.lt_of_lt_of_le h3 hb.size, fun j hj => (hb.cell (p := ⟨s + 1, j, none⟩) (by show s + 1 < _; omega)).trans (h4 j hj)⟩
/-- the closure's caught places -/
def capsA (s : Nat) : Array Value := #[.pointer (some ⟨s, 0, none⟩), .pointer (some ⟨s + 1 + 1, 0, none⟩)]
def amB (N : Nat) (p : Nat → Bool) (x : Int) : Bool := inB x 0 ((N : Int) - 1) && p x.toNat
theorem amB_in {N : Nat} {p : Nat → Bool} {k : Nat} (h : k < N) : amB N p (k : Int) = p k := by
  unfold amB; rw [inB_mk (by omega)]; simp
theorem amB_out {N : Nat} {p : Nat → Bool} {x : Int} (h : ¬ (0 ≤ x ∧ x < N)) : amB N p x = false := by
  unfold amB; rw [inB_no (by omega)]; rfl
set_option maxHeartbeats 1000000 in
theorem among1_any (s N : Nat) (hN : 1 ≤ N) (hN64 : N ≤ 64) (p : Nat → Bool) (x : Int) (w : World) (h : AmongAt w s N p) :
    Calls Tryd.prog 61 #[.int .i64 x, .pointer (some ⟨s, 0, none⟩), .pointer (some ⟨s + 1 + 1, 0, none⟩)] w fun e w' => e = .returned (.bool (amB N p x)) ∧ w' = w := by
  obtain ⟨h1, h2, h3, h4⟩ := h
  have c1 := fun w => within_any x 0 ((N : Int) - 1) w
  by_cases hx : 0 ≤ x ∧ x < N
  · obtain ⟨K, rfl⟩ := Int.eq_ofNat_of_zero_le hx.1
    have hK : K < N := by omega
    have hK' : (K : Int) < N := by omega
    rw [amB_in hK]
    simp only [inB_mk (show (0 : Int) ≤ (K : Int) ∧ (K : Int) ≤ (N : Int) - 1 from by omega)] at c1
    have hc := h4 K hK
    generalize p K = b at *
    clear h4 hx
    go_enter Tryd.func61, Tryd.ntmps61
    go_wp2_with (go_at_call 40; refine (c1 _).mono ?_; rintro e w1 ⟨rfl, hx⟩; obtain rfl := hx.symm; clear hx)
    go_ret
    exact ⟨rfl, rfl⟩
  · rw [amB_out hx]
    simp only [inB_no (show ¬ ((0 : Int) ≤ x ∧ x ≤ (N : Int) - 1) from by omega)] at c1
    clear h4
    go_enter Tryd.func61, Tryd.ntmps61
    go_wp2_with (go_at_call 40; refine (c1 _).mono ?_; rintro e w1 ⟨rfl, hx⟩; obtain rfl := hx.symm; clear hx)
    go_ret
    exact ⟨rfl, rfl⟩
theorem bools_set {w : World} {b t m : Nat} {f g : Nat → Bool} (h : w.rowIs b t m fun j => .bool (f j)) (p : Nat) (hg : ∀ j, j < m → g j = if j = p then true else f j) : (w.setCell ⟨b, p, none⟩ (.bool true)).rowIs b t m fun j => .bool (g j) := by
  refine (h.set p (.bool true)).congr ?_
  intro j hj
  show (if j = p then _ else _) = _
  rw [hg j hj]
  split <;> rfl
theorem mem_take_succ {zs : List Int} {k : Nat} (h : k < zs.length) (j : Int) : (j ∈ zs.take (k + 1)) ↔ j ∈ zs.take k ∨ j = zs[k] := by
  rw [List.take_succ_eq_append_getElem h, List.mem_append, List.mem_singleton]
set_option maxRecDepth 100000 in
set_option maxHeartbeats 2000000 in
theorem among_any (N : Nat) (hN : 1 ≤ N) (hN64 : N ≤ 64) (a : Option Addr) (cap : Nat) (zs : List Int) (w : World) (hr : RowI w a zs) (hl : zs.length ≤ 100000) :
    Calls Tryd.prog 46 #[.int .i64 (N : Int), .slice a zs.length cap] w fun e w' => e = .returned (.func (.func 61) #[] #[.pointer (some ⟨w.heap.size, 0, none⟩), .pointer (some ⟨w.heap.size + 1 + 1, 0, none⟩)]) ∧ AmongAt w' w.heap.size N (memB zs) ∧ Below w.heap.size w w' := by
  have c1 := fun x w => within_any x 0 ((N : Int) - 1) w
  have hmk := fun w => run_make_row' (P := Tryd.prog) 78 4 (.bool false) 1 Tryd.underlying78 info4 rfl .i64 .i64 N (by omega) (by omega) w
  go_enter Tryd.func46, Tryd.ntmps46
  go_wp2_with fail
  have b0 := ((Boxed.new w 3 (.int .i64 (N : Int))).alloc (.cells (madeCells #[.bool false] N) 4)).alloc (.cells #[.slice (some ⟨w.heap.size + 1, 0, none⟩) N N] 78)
  have r0 := (World.rowIs_made (w.alloc (.cells #[.int .i64 (N : Int)] 3)) (.bool false) N 4).alloc (.cells #[.slice (some ⟨w.heap.size + 1, 0, none⟩) N N] 78)
  have b2 := Boxed.new ((w.alloc (.cells #[.int .i64 (N : Int)] 3)).alloc (.cells (madeCells #[.bool false] N) 4)) 78 (.slice (some ⟨w.heap.size + 1, 0, none⟩) N N)
  have hB0 : Below w.heap.size w (((w.alloc (.cells #[.int .i64 (N : Int)] 3)).alloc (.cells (madeCells #[.bool false] N) 4)).alloc (.cells #[.slice (some ⟨w.heap.size + 1, 0, none⟩) N N] 78)) := (((Below.refl _ w).alloc (Nat.le_refl _) _).alloc (by simp) _).alloc (by simp; omega) _
  simp only [World.size_alloc] at r0 b2
  obtain ⟨w3, hw3⟩ : ∃ w3, ((w.alloc (.cells #[.int .i64 (N : Int)] 3)).alloc (.cells (madeCells #[.bool false] N) 4)).alloc (.cells #[.slice (some ⟨w.heap.size + 1, 0, none⟩) N N] 78) = w3 := ⟨_, rfl⟩
  rw [hw3] at b0 r0 b2 hB0 ⊢
  clear hw3 hmk
  go_loopw [12] (fun iv wr => ∃ k : Nat, k ≤ zs.length ∧ iv = .int .i64 (k : Int) ∧ wr.rowIs (w.heap.size + 1) 4 N (fun j => .bool (decide ((j : Int) ∈ zs.take k))) ∧ Boxed wr w.heap.size 3 (.int .i64 (N : Int)) ∧ Boxed wr (w.heap.size + 1 + 1) 78 (.slice (some ⟨w.heap.size + 1, 0, none⟩) N N) ∧ Below w.heap.size w wr) (fun iv _ => zs.length - (intOf iv).toNat)
  case atStart => exact ⟨0, by omega, rfl, r0.congr (fun j _ => by simp), b0, b2, hB0⟩
  case round =>
    clear b0 r0 b2 hB0
    obtain ⟨k, hk, rfl, r0, b0, b2, hB0⟩ := hrel
    have hc0 := b0.cell
    have hc2 := b2.cell
    by_cases hlt : k < zs.length
    · obtain ⟨b, off, rfl, hcx⟩ := rowI_cell hr hB0 hlt
      have k1 : (k : Int) < zs.length := by omega
      have HM := hide (mem_take_succ hlt)
      generalize zs[k] = x at *
      have c1 := fun w => c1 x w
      by_cases hx : 0 ≤ x ∧ x < N
      · obtain ⟨K, rfl⟩ := Int.eq_ofNat_of_zero_le hx.1
        have hK : K < N := by omega
        have hK' : (K : Int) < N := by omega
        simp only [inB_mk (show (0 : Int) ≤ (K : Int) ∧ (K : Int) ≤ (N : Int) - 1 from by omega)] at c1
        have hcK := r0.cell hK
        have hfK := r0.frozen K
        have hB1 : Below w.heap.size w (wr.setCell ⟨w.heap.size + 1, K, none⟩ (.bool true)) := hB0.setCell (p := ⟨w.heap.size + 1, K, none⟩) (by simp) _
        have r1 : (wr.setCell ⟨w.heap.size + 1, K, none⟩ (.bool true)).rowIs (w.heap.size + 1) 4 N (fun j => .bool (decide ((j : Int) ∈ zs.take (k + 1)))) := bools_set r0 K (fun j hj => by
          have := HM.out (j : Int)
          by_cases e : j = K
          · subst e; simp [this]
          · have : ((j : Int) ∈ zs.take (k + 1)) ↔ (j : Int) ∈ zs.take k := by rw [this]; constructor; (rintro (h | h); exact h; omega); exact Or.inl
            simp [this, e])
        have b01 : Boxed (wr.setCell ⟨w.heap.size + 1, K, none⟩ (.bool true)) w.heap.size 3 (.int .i64 (N : Int)) := Eq.trans (blk_setCell_other _ _ _ _ (by simp)) b0
        have b21 : Boxed (wr.setCell ⟨w.heap.size + 1, K, none⟩ (.bool true)) (w.heap.size + 1 + 1) 78 (.slice (some ⟨w.heap.size + 1, 0, none⟩) N N) := Eq.trans (blk_setCell_other _ _ _ _ (by simp)) b2
        clear hx r0 b0 b2 hB0
        go_wp2_with (go_at_call 40; refine (c1 _).mono ?_; rintro e w1 ⟨rfl, hx⟩; obtain rfl := hx.symm; clear hx)
        go_roundw
        case rel => exact ⟨k + 1, by omega, by go_num, r1, b01, b21, hB1⟩
        case measure => simp [intOf]; omega
      · simp only [inB_no (show ¬ ((0 : Int) ≤ x ∧ x ≤ (N : Int) - 1) from by omega)] at c1
        have r1 : wr.rowIs (w.heap.size + 1) 4 N (fun j => .bool (decide ((j : Int) ∈ zs.take (k + 1)))) := r0.congr (fun j hj => by
          have h1 := HM.out (j : Int)
          have : ((j : Int) ∈ zs.take (k + 1)) ↔ (j : Int) ∈ zs.take k := by rw [h1]; constructor; (rintro (h | h); exact h; omega); exact Or.inl
          simp [this])
        clear r0
        go_wp2_with (go_at_call 40; refine (c1 _).mono ?_; rintro e w1 ⟨rfl, hx⟩; obtain rfl := hx.symm; clear hx)
        go_roundw
        case rel => exact ⟨k + 1, by omega, by go_num, r1, b0, b2, hB0⟩
        case measure => simp [intOf]; omega
    · obtain rfl : k = zs.length := by omega
      go_wp2_with fail
      go_ret
      exact ⟨rfl, ⟨hc0, hc2, b2.lt, fun j hj => by rw [r0.cell hj, List.take_length]; rfl⟩, hB0⟩
end Go.Proofs.YtnndlgdlligjbabDoor.Ld
