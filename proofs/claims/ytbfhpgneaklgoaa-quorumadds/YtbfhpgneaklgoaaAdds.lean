/- the law of Add and Nodes: the walk -/
import Derived.Test.YtbfhpgneaklgoaaSg7
namespace Go.Proofs.Ytbfhpgneaklgoaa
open Go.RowKit Go.Shelf
attribute [local go_sem] Oper.semAt_some
set_option maxRecDepth 100000 in
set_option maxHeartbeats 4000000 in
theorem adds_any (a : Option Addr) (cap : Nat) (rs : List Sg) (s : Sg) (w : World) (h : SigsAt w a rs) (hc : rs.length ≤ cap) (hm : cap ≤ maxLen) (hs : s.ok) :
    Calls Try.prog 4 #[.slice a rs.length cap, .agg s.cells.toArray] w fun e w' => e = .returned (.bool true) ∧ Below w.heap.size w w' := by
  obtain ⟨i1, hi1, hiz, his, hib⟩ := info_parts infoS
  have hm' := hm
  unfold maxLen at hm
  have hall := h.2.1
  have hB1 : Below w.heap.size w (w.alloc (.cells s.cells.toArray 29)) := (Below.refl _ _).alloc (Nat.le_refl _) _
  have hR1 : (w.alloc (.cells s.cells.toArray 29)).rangeAt w.heap.size 0 s.cells := by simpa using range_new w s.cells.toArray 29
  have hz1 : w.heap.size < (w.alloc (.cells s.cells.toArray 29)).heap.size := by simp
  have hiq := hs.isz
  have hul := hs.length
  have cq := fun a' cap' w0 hX h0 h1 h2 => qadd_any a' cap' rs s w0 hX h0 h1 hs h2
  have cr := fun w0 hX h2 => refQAdd_any a cap rs s w0 hX hs h2
  have hal : (addS rs s).length ≤ rs.length + 1 := by
    unfold addS; split
    · omega
    · rw [insS_length]; exact Nat.le_refl _
  obtain ⟨L, hLe⟩ : ∃ L, Hid (addS rs s = L) := ⟨_, hide rfl⟩
  rw [hLe.out] at hal
  simp only [hLe.out] at cq cr
  obtain ⟨u, hu⟩ : ∃ u, Hid (s.cells = u) := ⟨_, hide rfl⟩
  rw [hu.out] at hB1 hR1 hz1 hiq hul ⊢
  simp only [hu.out] at cq cr
  clear hu hLe
  go_enter Try.func4, Try.ntmps4
  go_upto_region 1 with fail
  go_name_world w1 hw1
  rw [hw1] at hB1 hR1 hz1
  clear hw1
  obtain ⟨X, hX⟩ : ∃ X, Hid (w.heap.size = X) := ⟨_, hide rfl⟩
  rw [hX.out] at hR1 hz1 ⊢
  have h1 := h.below hB1
  by_cases hbig : 500 < rs.length
  · have k1 : (500 : Int) < (rs.length : Int) := by omega
    go_wp2_with (go_at_call 15; refine (lives_any _).mono ?_; rintro e w2 ⟨rfl, hw2⟩)
    go_ret
    exact ⟨rfl, hB1.trans (hw2.mono (by rw [hX.out]; omega))⟩
  have k1 : ¬ (500 : Int) < (rs.length : Int) := by omega
  go_upto_region 3 with fail
  have hizz := zS_ok.isz
  have hneq := fun w0 => neqSg zS zS zS_ok zS_ok w0
  rw [show sgB zS zS = true from sgB_iff.2 rfl] at hneq
  simp only [Bool.not_true] at hneq
  have hzc := zS_cells
  have hrr := room_row w1 rs hall
  obtain ⟨hn1, hn2, hn3, hn4, hn5⟩ := hrr
  have hth := hn5
  have hsrc := (h1.below ((Below.refl _ w1).alloc (Nat.le_refl _) (.cells (madeCells #[.int .i64 0, .int .u8 0, .int .u8 0, .int .u8 0, .int .u8 0, .int .u8 0, .int .u8 0, .int .u8 0, .int .u8 0, .int .u8 0, .int .u8 0, .int .u8 0, .int .u8 0, .int .u8 0, .int .u8 0, .int .u8 0, .int .u8 0] ((rs.length + 5) * 17)) 29))).src cap
  clear hn5
  have hrow : SigsAt ((w1.alloc (.cells (madeCells #[.int .i64 0, .int .u8 0, .int .u8 0, .int .u8 0, .int .u8 0, .int .u8 0, .int .u8 0, .int .u8 0, .int .u8 0, .int .u8 0, .int .u8 0, .int .u8 0, .int .u8 0, .int .u8 0, .int .u8 0, .int .u8 0, .int .u8 0] ((rs.length + 5) * 17)) 29)).setCells w1.heap.size 0 (flatS rs)) (some ⟨w1.heap.size, 0, none⟩) rs := ⟨by unfold maxLen; omega, hall, .inr ⟨_, _, rfl, by rw [hn4]; omega, hn1⟩⟩
  clear hn1
  obtain ⟨w2, hw2⟩ : ∃ w2, Hid ((w1.alloc (.cells (madeCells #[.int .i64 0, .int .u8 0, .int .u8 0, .int .u8 0, .int .u8 0, .int .u8 0, .int .u8 0, .int .u8 0, .int .u8 0, .int .u8 0, .int .u8 0, .int .u8 0, .int .u8 0, .int .u8 0, .int .u8 0, .int .u8 0, .int .u8 0] ((rs.length + 5) * 17)) 29)).setCells w1.heap.size 0 (flatS rs) = w2) := ⟨_, hide rfl⟩
  rw [hw2.out] at hn2 hn3 hn4 hrow
  go_upto_region 4 with (first
    | (at_make; refine wpList_make_at rfl _ _ 25 rfl 29 i1 (.agg #[.int .i64 0, .int .u8 0, .int .u8 0, .int .u8 0, .int .u8 0, .int .u8 0, .int .u8 0, .int .u8 0, .int .u8 0, .int .u8 0, .int .u8 0, .int .u8 0, .int .u8 0, .int .u8 0, .int .u8 0, .int .u8 0, .int .u8 0]) 17 Try.underlying25 hi1 hiz his _ _ _ (rs.length + 5) rfl rfl (by omega) (by rw [hib]; omega) (by unfold maxLen; omega) #[.int .i64 0, .int .u8 0, .int .u8 0, .int .u8 0, .int .u8 0, .int .u8 0, .int .u8 0, .int .u8 0, .int .u8 0, .int .u8 0, .int .u8 0, .int .u8 0, .int .u8 0, .int .u8 0, .int .u8 0, .int .u8 0, .int .u8 0] rfl ?_)
    | (at_builtin; go_loud (refine wpList_append_at rfl _ _ 25 25 rfl 29 i1 17 Try.underlying25 hi1 his w1.heap.size (rs.length + 5) rfl _ rs.length (flatS rs) rfl hsrc (by omega) hth ?_); rw [hw2.out]; clear hw2 hsrc hth))
  have hw12 : w1.heap.size < w2.heap.size := by omega
  have hB2 := hB1.trans (hn3.mono hB1.size)
  have hR2 := range_below hR1 hn3 hz1
  have hz2 : X < w2.heap.size := by omega
  have h2 := h.below hB2
  obtain ⟨A, hA⟩ : ∃ A, Hid (w1.heap.size = A) := ⟨_, hide rfl⟩
  rw [hA.out] at hn2 hrow hw12 ⊢
  clear hR1 hz1 hB1 h1 hn4 hn3 hA
  try simp only [Act.put]
  refine wp_region_list ?_
  refine wpList_step fun K hK => ?_
  go_simp
  refine hK _ _ ?_
  clear hK K
  refine wpList_load_mid rfl 29 _ rfl _ _ rfl u _ hR2 Try.underlying29 rfl hiq ?_
  go_wp2_with fail
  refine (cq _ _ w2 hrow (by omega) (by unfold maxLen; omega) (by omega)).mono ?_
  rintro e w3 ⟨v3, rfl, ho3, hw3⟩
  obtain ⟨a3, cap3, rfl, hl3, hm3, hs3, -⟩ := ho3.sigs (by unfold maxLen; omega)
  have hB3 := hB2.trans (hw3.mono hB2.size)
  have hR3 := range_below hR2 hw3 hz2
  have hz3 := Nat.lt_of_lt_of_le hz2 hw3.size
  have h3 := h.below hB3
  have hn3 := range_below hn2 hw3 hw12
  have hw13 := Nat.lt_of_lt_of_le hw12 hw3.size
  have hrow3 := hrow.below hw3
  clear cq ho3 hw3 hB2 hR2 hz2 h2 hn2 hw12 hrow
  go_upto_region 5 with fail
  try simp only [Act.put]
  refine wp_region_list ?_
  refine wpList_step fun K hK => ?_
  go_simp
  refine hK _ _ ?_
  clear hK K
  refine wpList_step fun K hK => ?_
  go_simp
  refine hK _ _ ?_
  clear hK K
  refine wpList_load_mid rfl 29 _ rfl _ _ rfl u _ hR3 Try.underlying29 rfl hiq ?_
  go_wp2_with fail
  refine (cr w3 h3 (by omega)).mono ?_
  rintro e w4 ⟨v4, rfl, ho4, hw4⟩
  obtain ⟨a4, cap4, rfl, hl4, hm4, hs4, -⟩ := ho4.sigs (by unfold maxLen; omega)
  have hB4 := hB3.trans (hw4.mono hB3.size)
  have h4 := h.below hB4
  have hn4 := range_below hn3 hw4 hw13
  have hw14 := Nat.lt_of_lt_of_le hw13 hw4.size
  have hrow4 := hrow3.below hw4
  have hs34 := hs3.below hw4
  clear cr ho4 hw4 hB3 hR3 hz3 h3 hn3 hw13 hrow3 hs3
  go_wp2_with fail
  refine (sameS_any a3 cap3 L a4 cap4 L w4 hs34 hs4).mono ?_
  rintro e w5 ⟨⟨rfl, -⟩ | ⟨rfl, hf⟩, hw5⟩
  rotate_left
  · exact (hf rfl).elim
  have hB5 := hB4.trans (hw5.mono hB4.size)
  have h5 := h.below hB5
  have hn5 := range_below hn4 hw5 hw14
  have hw15 := Nat.lt_of_lt_of_le hw14 hw5.size
  have hrow5 := hrow4.below hw5
  clear hw5 hB4 h4 hn4 hw14 hrow4 hs34 hs4
  go_wp2_with fail
  refine (sameS_any (some ⟨A, 0, none⟩) (rs.length + 5) rs a cap rs w5 hrow5 h5).mono ?_
  rintro e w6 ⟨⟨rfl, -⟩ | ⟨rfl, hf⟩, hw6⟩
  rotate_left
  · exact (hf rfl).elim
  have hB6 := hB5.trans (hw6.mono hB5.size)
  have h6 := h.below hB6
  have hn6 := range_below hn5 hw6 hw15
  have hw16 := Nat.lt_of_lt_of_le hw15 hw6.size
  clear hw6 hB5 h5 hn5 hw15 hrow5
  simp only []
  go_step
  have hwr : IntKind.i64.wrap ((rs.length : Int) + 1) = (rs.length : Int) + 1 := by rw [IntKind.wrap_i64]; omega
  have htn : ((rs.length : Int) + 1).toNat = rs.length + 1 := by omega
  have hcnd : 0 ≤ (rs.length : Int) + 1 ∧ (rs.length : Int) + 1 ≤ (rs.length : Int) + 5 := by omega
  have hgt : (rs.length : Int) < (rs.length : Int) + 1 := by omega
  refine wpList_step fun K hK => ?_
  go_simp
  try simp only [hwr]
  refine hK _ _ ?_
  clear hK K
  refine wpList_step fun K hK => ?_
  go_simp
  try simp only [hwr]
  refine hK _ _ ?_
  clear hK K
  refine wpList_step fun K hK => ?_
  go_simp
  try simp only [hwr]
  refine hK _ _ ?_
  clear hK K
  refine wpList_step fun K hK => ?_
  go_simp
  try simp only [hwr]
  refine hK _ _ ?_
  clear hK K
  refine wpList_step fun K hK => ?_
  go_simp
  try simp only [hwr]
  refine hK _ _ ?_
  clear hK K
  refine wpList_step fun K hK => ?_
  go_simp
  try simp only [hwr]
  refine hK _ _ ?_
  clear hK K
  refine wpList_step fun K hK => ?_
  go_simp
  try simp only [hwr]
  refine hK _ _ ?_
  clear hK K
  refine wpList_step fun K hK => ?_
  go_simp
  try simp only [hwr]
  refine hK _ _ ?_
  clear hK K
  refine wpList_step fun K hK => ?_
  go_simp
  try simp only [hwr]
  refine hK _ _ ?_
  clear hK K
  refine wpList_step fun K hK => ?_
  go_simp
  try simp only [hwr]
  refine hK _ _ ?_
  clear hK K
  refine wpList_step fun K hK => ?_
  go_simp
  try simp only [hwr]
  refine hK _ _ ?_
  clear hK K
  refine wpList_step fun K hK => ?_
  go_simp
  try simp only [hwr]
  refine hK _ _ ?_
  clear hK K
  refine wpList_step fun K hK => ?_
  go_simp
  try simp only [hwr]
  refine hK _ _ ?_
  clear hK K
  refine wpList_step fun K hK => ?_
  go_simp
  try simp only [hwr]
  refine hK _ _ ?_
  clear hK K
  refine wpList_step fun K hK => ?_
  go_simp
  try simp only [hwr]
  refine hK _ _ ?_
  clear hK K
  refine wpList_step fun K hK => ?_
  go_simp
  try simp only [hwr]
  refine hK _ _ ?_
  clear hK K
  refine wpList_step fun K hK => ?_
  go_simp
  try simp only [hwr]
  refine hK _ _ ?_
  clear hK K
  refine wpList_step fun K hK => ?_
  go_simp
  try simp only [hwr]
  refine hK _ _ ?_
  clear hK K
  refine wpList_step fun K hK => ?_
  go_simp
  try simp only [hwr]
  refine hK _ _ ?_
  clear hK K
  refine wpList_step fun K hK => ?_
  go_simp
  try simp only [hwr]
  refine hK _ _ ?_
  clear hK K
  refine wpList_step fun K hK => ?_
  go_simp
  try simp only [hwr]
  refine hK _ _ ?_
  clear hK K
  rw [hzc] at hn6 hizz
  simp only [hzc] at hneq
  refine wpList_load_mid_g rfl 29 _ rfl A (rs.length * 17) rfl _ _ hn6 Try.underlying29 rfl hizz ?_
  refine wpList_step fun K hK => ?_
  go_simp
  try simp only [hwr]
  refine hK _ _ ?_
  clear hK K
  refine wpList_step fun K hK => ?_
  go_simp
  try simp only [hwr]
  refine hK _ _ ?_
  clear hK K
  refine wpList_step fun K hK => ?_
  go_simp
  try simp only [hwr]
  refine hK _ _ ?_
  clear hK K
  clear hn6 hw16 hneq hizz hzc hwr htn hcnd hgt
  go_wp2_with (go_at_call 19; refine (nodes_any a cap rs (by omega) w6 h6).mono ?_; rintro e w7 ⟨v7, rfl, ho7, hw7⟩; obtain ⟨g7, c7, rfl, hsh⟩ := nodes_shape ho7; clear ho7)
  have hB7 := hB6.trans (hw7.mono hB6.size)
  have h7 := h.below hB7
  clear hB6 h6 hw7
  go_loopw [67] (fun iv wr => ∃ k : Nat, k ≤ rs.length ∧ iv = .int .i64 (k : Int) ∧ Below w7.heap.size w7 wr) (fun iv _ => rs.length - (intOf iv).toNat)
  case atStart => exact ⟨0, by omega, rfl, Below.refl _ _⟩
  case round =>
    obtain ⟨k, hk, rfl, hbel⟩ := hrel
    by_cases hlt : k < rs.length
    · have k1 : (k : Int) < rs.length := by omega
      obtain ⟨b, off, rfl, hb, hre⟩ := (h7.below hbel).elem k hlt
      obtain ⟨b', rfl, hb', hcc⟩ := hsh.resolve_left (fun e => by subst e; simp at hlt)
      have hx := (hbel.cell (p := ⟨b', k, none⟩) hb').trans (hcc k hlt)
      have hy := Sg.first hre
      clear hcc hre hsh h7
      generalize rs[k].n = x at *
      go_wp2
      go_quiet (fail)
      go_wp2
      exact ⟨⟨k + 1, by omega, by go_num, below_drewN hbel _⟩, by simp [intOf]; omega⟩
    · obtain rfl : k = rs.length := by omega
      go_wp2_with (go_at_call 15; refine (lives_any _).mono ?_; rintro e w8 ⟨rfl, hw8⟩)
      go_ret
      exact ⟨rfl, hB7.trans ((hbel.trans (hw8.mono hbel.size)).mono hB7.size)⟩
end Go.Proofs.Ytbfhpgneaklgoaa
