/- Ints at two rows that hold the same; raddlelaw11.Plain, lives: contracts. -/
import Derived.Test.YtnndlgdlligjbaaLRef2
namespace Go.Proofs.Ytnndlgdlligjbaa
open Go.RowKit Go.Shelf
set_option maxHeartbeats 1000000 in
/-- the very same numbers: at two rows that hold the same -/
theorem ints_same (a b : Option Addr) (cap cap' : Nat) (zs : List Int) (w : World) (hr : RowI w a zs) (hs : RowI w b zs) (hb : zs.length ≤ 100000) :
    Calls Try.prog 12 #[.slice a zs.length cap, .slice b zs.length cap'] w fun e w' => e = .returned (.bool true) ∧ Below w.heap.size w w' := by
  go_enter Try.func12, Try.ntmps12
  go_wp2
  go_loopw [5] (fun kv wr => ∃ k : Nat, k ≤ zs.length ∧ kv = .int .i64 (k : Int) ∧ Below w.heap.size w wr) (fun kv _ => zs.length - (intOf kv).toNat)
  case atStart => exact ⟨0, by omega, rfl, Below.refl _ _⟩
  case round =>
    obtain ⟨k, hk, rfl, hbel⟩ := hrel
    by_cases hlt : k < zs.length
    · obtain ⟨b1, off1, rfl, hbb1, hcc1⟩ : ∃ b off, a = some ⟨b, off, none⟩ ∧ b < w.heap.size ∧ ∀ j, j < zs.length → w.cell? ⟨b, off + j, none⟩ = some (.int .i64 (zs[j]?.getD 0)) := by
        rcases hr.2 with rfl | h
        · simp at hlt
        · exact h
      obtain ⟨b2, off2, rfl, hbb2, hcc2⟩ : ∃ b' off, b = some ⟨b', off, none⟩ ∧ b' < w.heap.size ∧ ∀ j, j < zs.length → w.cell? ⟨b', off + j, none⟩ = some (.int .i64 (zs[j]?.getD 0)) := by
        rcases hs.2 with rfl | h
        · simp at hlt
        · exact h
      have hc1 := (hbel.cell (p := ⟨b1, off1 + k, none⟩) hbb1).trans (hcc1 k hlt)
      have hc2 := (hbel.cell (p := ⟨b2, off2 + k, none⟩) hbb2).trans (hcc2 k hlt)
      have k1 : (k : Int) < zs.length := by omega
      clear hcc1 hcc2 hr hs
      generalize zs[k]?.getD 0 = x at *
      go_wp2
      go_quiet (fail)
      go_wp2
      go_roundw
      case rel => exact ⟨k + 1, by omega, by go_num, below_drewN hbel _⟩
      case measure => simp [intOf]; omega
    · obtain rfl : k = zs.length := by omega
      go_wp2
      go_ret
      exact ⟨rfl, hbel⟩
def c0 : Cfg := ⟨4, 2, 4, 4, 2, 2, 2, 12, 1, 100⟩
theorem ex_list : listL c0 1 [] = [0, 1, 2, 3] := by decide
theorem ex_own0 : ownerI c0 1 [0, 1, 2, 3] 0 = 1 := by decide
theorem ex_own3 : ownerI c0 1 [0, 1, 2, 3] 3 = 0 := by decide
theorem ex_buckets : bucketsL c0 1 [0, 2, 3] 2 = [1, 0] := by decide
theorem ex_good : errC c0 = 0 := by decide
theorem ints_0123 : ints [0, 1, 2, 3] = [0, 1, 2, 3] := by decide
theorem ints_10 : ints [1, 0] = [1, 0] := by decide
set_option maxHeartbeats 1000000 in
theorem plain_any (w : World) : Calls Try.prog 29 #[] w fun e w' => e = .returned (.agg #[.int .i64 4, .int .i64 2, .int .i64 4, .int .i64 4, .int .i64 2, .int .i64 2, .int .i64 2, .int .i64 12, .int .i64 1, .int .i64 100]) ∧ Below w.heap.size w w' := by
  go_enter Try.func29, Try.ntmps29
  go_wp2_with fail
  refine bodyPost_ret (results_cell rfl _ _ _ rfl (CfgAt.load (c := c0) (World.alloc_heap_new w _))) rfl ?_
  exact ⟨rfl, (Below.refl _ _).alloc (Nat.le_refl _) _⟩
theorem row_new (w : World) (zs : List Int) (hl : zs.length ≤ 64) : RowI (w.alloc (.cells (zs.map (Value.int .i64)).toArray 3)) (some ⟨w.heap.size, 0, none⟩) zs := by
  refine ⟨by unfold maxLen; omega, .inr ⟨w.heap.size, 0, rfl, by simp, fun j hj => ?_⟩⟩
  have hc : (w.alloc (.cells (zs.map (Value.int .i64)).toArray 3)).heap[w.heap.size]? = some (.cells (zs.map (Value.int .i64)).toArray 3 (0, 0)) := World.alloc_heap_new w _
  generalize w.alloc (.cells (zs.map (Value.int .i64)).toArray 3) = w1 at hc
  simp [World.cell?, hc, hj]
set_option maxRecDepth 100000 in
set_option maxHeartbeats 2000000 in
theorem lives11_any (w : World) : Calls Try.prog 9 #[] w fun e w' => e = .returned (.bool true) ∧ Below w.heap.size w w' := by
  have c1 := fun w => plain_any w
  have c2 : ∀ w, Calls Try.prog 13 #[.agg #[.int .i64 4, .int .i64 2, .int .i64 4, .int .i64 4, .int .i64 2, .int .i64 2, .int .i64 2, .int .i64 12, .int .i64 1, .int .i64 100], .int .i64 1, .slice none 0 0] w fun e w' => ∃ v, e = .returned v ∧ w'.ownsRow w.heap.size 3 1 v 4 (vals [0, 1, 2, 3]) ∧ Below w.heap.size w w' := fun w => by
    have := list_any c0 1 none 0 [] w ⟨by decide, .inl rfl⟩
    rw [ex_list] at this
    exact this
  have c3 : ∀ w, Calls Try.prog 10 #[.agg #[.int .i64 4, .int .i64 2, .int .i64 4, .int .i64 4, .int .i64 2, .int .i64 2, .int .i64 2, .int .i64 12, .int .i64 1, .int .i64 100]] w fun e w' => e = .returned (.int .i64 0) ∧ Below w.heap.size w w' := fun w => by
    have := lgood_any c0 w
    rw [ex_good] at this
    exact this
  have c4 : ∀ w a cap, RowI w a [0, 1, 2, 3] → Calls Try.prog 15 #[.agg #[.int .i64 4, .int .i64 2, .int .i64 4, .int .i64 4, .int .i64 2, .int .i64 2, .int .i64 2, .int .i64 12, .int .i64 1, .int .i64 100], .int .i64 1, .slice a 4 cap, .int .i64 0] w fun e w' => e = .returned (.int .i64 1) ∧ Below w.heap.size w w' := fun w a cap h => by
    have := lOwner_any c0 1 a cap [0, 1, 2, 3] 0 w h (by decide)
    rw [ex_own0] at this
    exact this
  have c5 : ∀ w a cap, RowI w a [0, 1, 2, 3] → Calls Try.prog 15 #[.agg #[.int .i64 4, .int .i64 2, .int .i64 4, .int .i64 4, .int .i64 2, .int .i64 2, .int .i64 2, .int .i64 12, .int .i64 1, .int .i64 100], .int .i64 1, .slice a 4 cap, .int .i64 3] w fun e w' => e = .returned (.int .i64 0) ∧ Below w.heap.size w w' := fun w a cap h => by
    have := lOwner_any c0 1 a cap [0, 1, 2, 3] 3 w h (by decide)
    rw [ex_own3] at this
    exact this
  have c6 : ∀ w a cap, RowI w a [0, 2, 3] → Calls Try.prog 17 #[.agg #[.int .i64 4, .int .i64 2, .int .i64 4, .int .i64 4, .int .i64 2, .int .i64 2, .int .i64 2, .int .i64 12, .int .i64 1, .int .i64 100], .int .i64 1, .slice a 3 cap, .int .i64 2] w fun e w' => ∃ v, e = .returned v ∧ w'.ownsRow w.heap.size 3 1 v 2 (vals [1, 0]) ∧ Below w.heap.size w w' := fun w a cap h => by
    have := buckets_any c0 1 a cap [0, 2, 3] 2 w h (by decide)
    rw [ex_buckets] at this
    exact this
  go_enter Try.func9, Try.ntmps9
  go_wp2_with fail
  refine (c1 w).mono ?_
  rintro e w1 ⟨rfl, hb1⟩
  go_wp2_with fail
  have k2 : CfgAt (w1.alloc (.cells #[.int .i64 4, .int .i64 2, .int .i64 4, .int .i64 4, .int .i64 2, .int .i64 2, .int .i64 2, .int .i64 12, .int .i64 1, .int .i64 100] 23)) w1.heap.size c0 := World.alloc_heap_new w1 _
  have hb2 : Below w.heap.size w (w1.alloc (.cells #[.int .i64 4, .int .i64 2, .int .i64 4, .int .i64 4, .int .i64 2, .int .i64 2, .int .i64 2, .int .i64 12, .int .i64 1, .int .i64 100] 23)) := hb1.alloc hb1.size _
  have hl2 : w.heap.size ≤ w1.heap.size := hb1.size
  obtain ⟨w2, hw2⟩ : ∃ w2, w1.alloc (.cells #[.int .i64 4, .int .i64 2, .int .i64 4, .int .i64 4, .int .i64 2, .int .i64 2, .int .i64 2, .int .i64 12, .int .i64 1, .int .i64 100] 23) = w2 := ⟨_, rfl⟩
  rw [hw2] at k2 hb2 ⊢
  clear hw2
  refine (c2 w2).mono ?_
  rintro e w3 ⟨v, rfl, hrow, hb3'⟩
  obtain ⟨a, cap, rfl, hr3⟩ := own_set (l := [0, 1, 2, 3]) hrow (by decide)
  rw [ints_0123] at hr3
  have k3 := k2.below hb3'
  have hb3 := hb2.trans (hb3'.mono hb2.size)
  obtain ⟨p0, p1, p2, p3, p4, p5, p6, p7, p8, p9⟩ := k3.cells
  simp only [c0] at p0 p1 p2 p3 p4 p5 p6 p7 p8 p9
  go_wp2_with fail
  refine (c3 w3).mono ?_
  rintro e w4 ⟨rfl, hb4'⟩
  have hb4 := hb3.trans (hb4'.mono hb3.size)
  have k4 := k3.below hb4'
  have hr4 := hr3.below hb4'
  clear p0 p1 p2 p3 p4 p5 p6 p7 p8 p9
  go_wp2_with fail
  have hr5 := row_new w4 [0, 1, 2, 3] (by decide)
  have hb5' : Below w4.heap.size w4 (w4.alloc (.cells ([0, 1, 2, 3].map (Value.int .i64)).toArray 3)) := (Below.refl _ _).alloc (Nat.le_refl _) _
  have cI := ints_same a (some ⟨w4.heap.size, 0, none⟩) cap 4 [0, 1, 2, 3] _ (hr4.below hb5') hr5 (by decide)
  refine Calls.mono cI ?_
  rintro e w5 ⟨rfl, hb6'⟩
  have hb5 := hb4.trans ((hb5'.trans (hb6'.mono hb5'.size)).mono hb4.size)
  have k5 := k4.below (hb5'.trans (hb6'.mono hb5'.size))
  have hr5 := hr4.below (hb5'.trans (hb6'.mono hb5'.size))
  clear cI
  obtain ⟨p0, p1, p2, p3, p4, p5, p6, p7, p8, p9⟩ := k5.cells
  simp only [c0] at p0 p1 p2 p3 p4 p5 p6 p7 p8 p9
  go_wp2_with fail
  refine (c4 w5 _ _ hr5).mono ?_
  rintro e w6 ⟨rfl, hb6'⟩
  have hb6 := hb5.trans (hb6'.mono hb5.size)
  have k6 := k5.below hb6'
  have hr6 := hr5.below hb6'
  clear p0 p1 p2 p3 p4 p5 p6 p7 p8 p9
  obtain ⟨p0, p1, p2, p3, p4, p5, p6, p7, p8, p9⟩ := k6.cells
  simp only [c0] at p0 p1 p2 p3 p4 p5 p6 p7 p8 p9
  go_wp2_with fail
  refine (c5 w6 _ _ hr6).mono ?_
  rintro e w7 ⟨rfl, hb7'⟩
  have hb7 := hb6.trans (hb7'.mono hb6.size)
  have k7 := k6.below hb7'
  clear p0 p1 p2 p3 p4 p5 p6 p7 p8 p9
  obtain ⟨p0, p1, p2, p3, p4, p5, p6, p7, p8, p9⟩ := k7.cells
  simp only [c0] at p0 p1 p2 p3 p4 p5 p6 p7 p8 p9
  go_wp2_with fail
  have hr8 := row_new w7 [0, 2, 3] (by decide)
  have hb8' : Below w7.heap.size w7 (w7.alloc (.cells ([0, 2, 3].map (Value.int .i64)).toArray 3)) := (Below.refl _ _).alloc (Nat.le_refl _) _
  refine Calls.mono (c6 _ _ 3 hr8) ?_
  rintro e w9 ⟨v, rfl, hrow9, hb9'⟩
  obtain ⟨a9, cap9, rfl, hr9⟩ := own_set (l := [1, 0]) hrow9 (by decide)
  rw [ints_10] at hr9
  have hb9 := hb7.trans ((hb8'.trans (hb9'.mono hb8'.size)).mono hb7.size)
  go_wp2_with fail
  have hr10 := row_new w9 [1, 0] (by decide)
  have hb10' : Below w9.heap.size w9 (w9.alloc (.cells ([1, 0].map (Value.int .i64)).toArray 3)) := (Below.refl _ _).alloc (Nat.le_refl _) _
  have cI := ints_same a9 (some ⟨w9.heap.size, 0, none⟩) cap9 2 [1, 0] _ (hr9.below hb10') hr10 (by decide)
  refine Calls.mono cI ?_
  rintro e w10 ⟨rfl, hb11'⟩
  have hb11 := hb9.trans ((hb10'.trans (hb11'.mono hb10'.size)).mono hb9.size)
  go_wp2_with fail
  go_ret
  exact ⟨rfl, hb11⟩
end Go.Proofs.Ytnndlgdlligjbaa
