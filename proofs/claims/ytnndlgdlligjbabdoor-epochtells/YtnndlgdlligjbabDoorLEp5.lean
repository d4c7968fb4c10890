/- raddlelaw12.lives: the chapter's example holds. -/
import Derived.Test.YtnndlgdlligjbabDoorLEp4
namespace Go.Proofs.YtnndlgdlligjbabDoor.Ld
open Go.RowKit Go.Shelf
theorem ex_newF : newF c0 3 9 [] = 0 := by decide
theorem ex_lead : ints (listL c0 3 []) = [0, 1, 2, 3] := by decide
theorem ex_goodE : goodE c0 3 9 [0, 1, 2, 3] = true := by decide
theorem ex_end : endE c0 3 9 [0, 1, 2, 3] = 17 := by decide
theorem ex_own : ownE c0 3 9 [0, 1, 2, 3] 10 = 1 := by decide
theorem ex_slots : slotsE c0 3 9 [0, 1, 2, 3] 1 = [10, 14] := by decide
theorem ex_prim : primE c0 3 9 [0, 1, 2, 3] 3 2 = 1 := by decide
theorem hlen4 : ([0, 1, 2, 3] : List Int).length = 4 := rfl
set_option maxRecDepth 100000 in
set_option maxHeartbeats 4000000 in
theorem lives12_any (w : World) : Calls Tryd.prog 5 #[] w fun e w' => e = .returned (.bool true) ∧ Below w.heap.size w w' := by
  have fin : ∀ {W W' : World}, Below w.heap.size w W → Below W.heap.size W W' → Below w.heap.size w W' := fun h k => h.trans (k.mono h.size)
  have c1 := fun w => plain_any w
  have c2 : ∀ w, Calls Tryd.prog 22 #[.agg #[.int .i64 4, .int .i64 2, .int .i64 4, .int .i64 4, .int .i64 2, .int .i64 2, .int .i64 2, .int .i64 12, .int .i64 1, .int .i64 100], .int .i64 3, .int .i64 9, .slice none 0 0] w fun e w' => ∃ a cap, e = .returned (.tuple #[.agg #[.int .i64 4, .int .i64 2, .int .i64 4, .int .i64 4, .int .i64 2, .int .i64 2, .int .i64 2, .int .i64 12, .int .i64 1, .int .i64 100, .int .i64 3, .int .i64 9, .slice a 4 cap], .int .i64 0]) ∧ RowI w' a [0, 1, 2, 3] ∧ Below w.heap.size w w' := fun w => by
    have := enew_any c0 3 9 none 0 [] w ⟨by decide, .inl rfl⟩
    refine Calls.mono this ?_
    rintro e w' ⟨v, rfl, hn, hb⟩
    rcases hn with ⟨_, a, cap, rfl, hr⟩ | ⟨h, _⟩
    · rw [ex_lead] at hr
      refine ⟨a, cap, ?_, hr, hb⟩
      rw [ex_newF, ex_lead]
      rfl
    · exact absurd ex_newF h
  have c3 : ∀ w a cap, RowI w a [0, 1, 2, 3] → Calls Tryd.prog 7 #[.agg #[.int .i64 4, .int .i64 2, .int .i64 4, .int .i64 4, .int .i64 2, .int .i64 2, .int .i64 2, .int .i64 12, .int .i64 1, .int .i64 100, .int .i64 3, .int .i64 9, .slice a 4 cap]] w fun e w' => e = .returned (.bool true) ∧ Below w.heap.size w w' := fun w a cap h => by
    have := egood_any c0 3 9 a cap [0, 1, 2, 3] w h (by decide)
    rw [ex_goodE] at this
    exact this
  have c4 : ∀ w a cap, RowI w a [0, 1, 2, 3] → Calls Tryd.prog 11 #[.agg #[.int .i64 4, .int .i64 2, .int .i64 4, .int .i64 4, .int .i64 2, .int .i64 2, .int .i64 2, .int .i64 12, .int .i64 1, .int .i64 100, .int .i64 3, .int .i64 9, .slice a 4 cap]] w fun e w' => e = .returned (.int .i64 17) ∧ Below w.heap.size w w' := fun w a cap h => by
    have := eend_any c0 3 9 a cap [0, 1, 2, 3] w h (by decide)
    rw [ex_end] at this
    exact this
  have c5 : ∀ w a cap, RowI w a [0, 1, 2, 3] → Calls Tryd.prog 13 #[.agg #[.int .i64 4, .int .i64 2, .int .i64 4, .int .i64 4, .int .i64 2, .int .i64 2, .int .i64 2, .int .i64 12, .int .i64 1, .int .i64 100, .int .i64 3, .int .i64 9, .slice a 4 cap], .int .i64 10] w fun e w' => e = .returned (.int .i64 1) ∧ Below w.heap.size w w' := fun w a cap h => by
    have := eowner_any c0 3 9 a cap [0, 1, 2, 3] 10 w h (by decide)
    rw [ex_own] at this
    exact this
  have c6 : ∀ w a cap, RowI w a [0, 1, 2, 3] → Calls Tryd.prog 16 #[.agg #[.int .i64 4, .int .i64 2, .int .i64 4, .int .i64 4, .int .i64 2, .int .i64 2, .int .i64 2, .int .i64 12, .int .i64 1, .int .i64 100, .int .i64 3, .int .i64 9, .slice a 4 cap], .int .i64 1] w fun e w' => ∃ v, e = .returned v ∧ w'.ownsRow w.heap.size 3 1 v 2 (ivals [10, 14]) ∧ Below w.heap.size w w' := fun w a cap h => by
    have := slots_any c0 3 9 a cap [0, 1, 2, 3] 1 w h (by decide)
    rw [ex_slots] at this
    exact this
  have c7 : ∀ w a cap, RowI w a [0, 1, 2, 3] → Calls Tryd.prog 18 #[.agg #[.int .i64 4, .int .i64 2, .int .i64 4, .int .i64 4, .int .i64 2, .int .i64 2, .int .i64 2, .int .i64 12, .int .i64 1, .int .i64 100, .int .i64 3, .int .i64 9, .slice a 4 cap], .int .i64 3, .int .i64 2] w fun e w' => e = .returned (.int .i64 1) ∧ Below w.heap.size w w' := fun w a cap h => by
    have := primary_any c0 3 9 a cap [0, 1, 2, 3] 3 2 w h (by decide)
    rw [ex_prim] at this
    exact this
  go_enter Tryd.func5, Tryd.ntmps5
  go_wp2_with fail
  refine (c1 w).mono ?_
  rintro e w1 ⟨rfl, hb1⟩
  go_wp2_with fail
  refine (c2 w1).mono ?_
  rintro e w2 ⟨a, cap, rfl, hr2, hb2⟩
  have hB2 := fin hb1 hb2
  have b3 : Below w2.heap.size w2 (w2.alloc (.cells #[.int .i64 0, .int .i64 0, .int .i64 0, .int .i64 0, .int .i64 0, .int .i64 0, .int .i64 0, .int .i64 0, .int .i64 0, .int .i64 0, .int .i64 0, .int .i64 0, .slice none 0 0] 26)) := (Below.refl _ _).alloc (Nat.le_refl _) _
  have zf : EpAt ((w2.alloc (.cells #[.int .i64 0, .int .i64 0, .int .i64 0, .int .i64 0, .int .i64 0, .int .i64 0, .int .i64 0, .int .i64 0, .int .i64 0, .int .i64 0, .int .i64 0, .int .i64 0, .slice none 0 0] 26)).setRow w2.heap.size #[.int .i64 4, .int .i64 2, .int .i64 4, .int .i64 4, .int .i64 2, .int .i64 2, .int .i64 2, .int .i64 12, .int .i64 1, .int .i64 100, .int .i64 3, .int .i64 9, .slice a 4 cap]) w2.heap.size c0 3 9 a cap [0, 1, 2, 3] := setRow_heap _ w2.heap.size _ _ _ _ (World.alloc_heap_new w2 _)
  have b4 : Below w2.heap.size w2 ((w2.alloc (.cells #[.int .i64 0, .int .i64 0, .int .i64 0, .int .i64 0, .int .i64 0, .int .i64 0, .int .i64 0, .int .i64 0, .int .i64 0, .int .i64 0, .int .i64 0, .int .i64 0, .slice none 0 0] 26)).setRow w2.heap.size #[.int .i64 4, .int .i64 2, .int .i64 4, .int .i64 4, .int .i64 2, .int .i64 2, .int .i64 2, .int .i64 12, .int .i64 1, .int .i64 100, .int .i64 3, .int .i64 9, .slice a 4 cap]) := b3.trans (setRow_below (Nat.le_refl _))
  obtain ⟨w3, hw3⟩ : ∃ w3, (w2.alloc (.cells #[.int .i64 0, .int .i64 0, .int .i64 0, .int .i64 0, .int .i64 0, .int .i64 0, .int .i64 0, .int .i64 0, .int .i64 0, .int .i64 0, .int .i64 0, .int .i64 0, .slice none 0 0] 26)).setRow w2.heap.size #[.int .i64 4, .int .i64 2, .int .i64 4, .int .i64 4, .int .i64 2, .int .i64 2, .int .i64 2, .int .i64 12, .int .i64 1, .int .i64 100, .int .i64 3, .int .i64 9, .slice a 4 cap] = w3 := ⟨_, rfl⟩
  rw [hw3] at zf b4
  have hB3 := fin hB2 b4
  have hr3 := hr2.below b4
  obtain ⟨p0, p1, p2, p3, p4, p5, p6, p7, p8, p9, pn, ps, pl⟩ := zf.cells
  simp only [c0, hlen4] at p0 p1 p2 p3 p4 p5 p6 p7 p8 p9 pn ps pl
  go_wp2_with (refine wpList_store_row rfl 26 _ _ rfl rfl w2.heap.size 26 _ #[.int .i64 4, .int .i64 2, .int .i64 4, .int .i64 4, .int .i64 2, .int .i64 2, .int .i64 2, .int .i64 12, .int .i64 1, .int .i64 100, .int .i64 3, .int .i64 9, .slice a 4 cap] rfl rfl (World.alloc_heap_new w2 _) (by kernel_rfl) rfl (by simp [Value.oneCell']) ?_)
  clear hw3
  refine (c3 w3 a cap hr3).mono ?_
  rintro e w4 ⟨rfl, hb4⟩
  have e4 := zf.below hb4
  have hr4 := hr3.below hb4
  have hB4 := fin hB3 hb4
  clear p0 p1 p2 p3 p4 p5 p6 p7 p8 p9 pn ps pl
  obtain ⟨p0, p1, p2, p3, p4, p5, p6, p7, p8, p9, pn, ps, pl⟩ := e4.cells
  simp only [c0, hlen4] at p0 p1 p2 p3 p4 p5 p6 p7 p8 p9 pn ps pl
  go_wp2_with fail
  refine (c4 w4 a cap hr4).mono ?_
  rintro e w5 ⟨rfl, hb5⟩
  have e5 := e4.below hb5
  have hr5 := hr4.below hb5
  have hB5 := fin hB4 hb5
  clear p0 p1 p2 p3 p4 p5 p6 p7 p8 p9 pn ps pl
  obtain ⟨p0, p1, p2, p3, p4, p5, p6, p7, p8, p9, pn, ps, pl⟩ := e5.cells
  simp only [c0, hlen4] at p0 p1 p2 p3 p4 p5 p6 p7 p8 p9 pn ps pl
  go_wp2_with fail
  refine (c5 w5 a cap hr5).mono ?_
  rintro e w6 ⟨rfl, hb6⟩
  have e6 := e5.below hb6
  have hr6 := hr5.below hb6
  have hB6 := fin hB5 hb6
  clear p0 p1 p2 p3 p4 p5 p6 p7 p8 p9 pn ps pl
  obtain ⟨p0, p1, p2, p3, p4, p5, p6, p7, p8, p9, pn, ps, pl⟩ := e6.cells
  simp only [c0, hlen4] at p0 p1 p2 p3 p4 p5 p6 p7 p8 p9 pn ps pl
  go_wp2_with fail
  refine (c6 w6 a cap hr6).mono ?_
  rintro e w7 ⟨v, rfl, hrow, hb7⟩
  obtain ⟨a7, cap7, rfl, hr7⟩ := own_rowI (zs := [10, 14]) hrow (by decide)
  have e7 := e6.below hb7
  have hrr7 := hr6.below hb7
  have hB7 := fin hB6 hb7
  clear p0 p1 p2 p3 p4 p5 p6 p7 p8 p9 pn ps pl
  go_wp2_with fail
  have hr8 := row_new w7 [10, 14] (by decide)
  have hb8' : Below w7.heap.size w7 (w7.alloc (.cells ([10, 14].map (Value.int .i64)).toArray 3)) := (Below.refl _ _).alloc (Nat.le_refl _) _
  have cI := ints_same a7 (some ⟨w7.heap.size, 0, none⟩) cap7 2 [10, 14] _ (hr7.below hb8') hr8 (by decide)
  refine Calls.mono cI ?_
  rintro e w8 ⟨rfl, hb8⟩
  have hb88 : Below w7.heap.size w7 w8 := hb8'.trans (hb8.mono hb8'.size)
  have e8 := e7.below hb88
  have hr9 := hrr7.below hb88
  have hB8 := fin hB7 hb88
  clear cI hb8 hr8
  obtain ⟨p0, p1, p2, p3, p4, p5, p6, p7, p8, p9, pn, ps, pl⟩ := e8.cells
  simp only [c0, hlen4] at p0 p1 p2 p3 p4 p5 p6 p7 p8 p9 pn ps pl
  go_wp2_with fail
  refine (c7 w8 a cap hr9).mono ?_
  rintro e w9 ⟨rfl, hb9⟩
  go_wp2_with fail
  go_ret
  exact ⟨rfl, fin hB8 hb9⟩
end Go.Proofs.YtnndlgdlligjbabDoor.Ld
