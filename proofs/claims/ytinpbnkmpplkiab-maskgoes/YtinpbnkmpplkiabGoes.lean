/- The law of a mask's numbers: the walk of MaskGoes. -/
import Derived.Test.YtinpbnkmpplkiabWalks
import Derived.Test.YtinpbnkmpplkiabHeld
namespace Go.Proofs.Ytinpbnkmpplkiab
open Go.RowKit Go.Shelf
attribute [local go_sem] Oper.semAt_some
theorem boxed_own {β : Type} (B : Nat) (t : TypeId) (v : β → Value) : Own (fun (s : β) W => Boxed W B t (v s)) := by
  intro s X Y row hv hg hrow
  refine hv.kept hg (fun e => ?_)
  obtain ⟨o, ho, hc⟩ := hrow B e.symm
  rw [show X.heap[B]? = _ from hv] at ho; cases ho; cases hc
set_option maxRecDepth 100000 in
set_option maxHeartbeats 2000000 in
theorem goes_walk (m : Nat) (hm : m < 2 ^ 64) (leave : Int) (w : World) :
    Calls Try.prog 4 #[.int .u64 (m : Int), .int .i64 leave] w fun e w' => e = .returned (.bool true) ∧ Below w.heap.size w w' := by
  obtain ⟨N, hN, eN⟩ := umodc leave 65 (by decide) (by decide)
  have cA := all_iter_in Fence.wide (8 - 1) trivial rfl m
  refine (callsIn_wide (n := 8)).1 ?_
  refine callsIn_of_wp_marks Try.func4 rfl trivial ?_ rfl
  simp only [Try.ntmps4, List.size_toArray, List.length_cons, List.length_nil, Nat.reduceAdd, Nat.reduceSub, Array.replicate_succ, Array.replicate_zero, List.push_toArray, List.append_toArray, List.nil_append, List.cons_append]
  gi_wp2_with fail
  refine ⟨trivial, ?_⟩
  refine (cA w).mono ?_
  rintro e w0 ⟨rfl, rfl⟩
  -- LOOP
  gi_wp2_with fail
  rw [eN]
  clear eN
  have c9 := many_any m hm
  have ca := all_any m hm
  have cr := refList_any m hm
  have hlm := setUp_len m 64
  have hc0 := boxU m w
  have hB1 : Below w.heap.size w (w.alloc (.cells #[.int .u64 (m : Int)] 22)) := (Below.refl _ _).alloc (Nat.le_refl _) _
  have hs1 : (w.alloc (.cells #[.int .u64 (m : Int)] 22)).heap.size = w.heap.size + 1 := World.size_alloc _ _
  obtain ⟨w1, hw1⟩ : ∃ w1, w.alloc (.cells #[.int .u64 (m : Int)] 22) = w1 := ⟨_, rfl⟩
  rw [hw1] at hc0 hB1 hs1 ⊢
  clear hw1 cA
  have hB2 : Below w.heap.size w (w1.alloc (.cells #[.int .i64 (N : Int)] 3)) := hB1.alloc (by omega) _
  have hB12 : Below w1.heap.size w1 (w1.alloc (.cells #[.int .i64 (N : Int)] 3)) := (Below.refl _ _).alloc (Nat.le_refl _) _
  have hn2 : (w1.alloc (.cells #[.int .i64 (N : Int)] 3)).cell? ⟨w1.heap.size, 0, none⟩ = some (.int .i64 (N : Int)) := (Boxed.new w1 3 (.int .i64 (N : Int))).cell
  have hc2 : (w1.alloc (.cells #[.int .i64 (N : Int)] 3)).cell? ⟨w.heap.size, 0, none⟩ = some (.int .u64 (m : Int)) := (hB12.cell (p := ⟨w.heap.size, 0, none⟩) (show w.heap.size < w1.heap.size by omega)).trans hc0
  have hs2 : (w1.alloc (.cells #[.int .i64 (N : Int)] 3)).heap.size = w.heap.size + 1 + 1 := by rw [World.size_alloc, hs1]
  rw [hs1] at hn2
  obtain ⟨w2, hw2⟩ : ∃ w2, w1.alloc (.cells #[.int .i64 (N : Int)] 3) = w2 := ⟨_, rfl⟩
  rw [hw2] at hB2 hn2 hc2 hs2 ⊢
  clear hw2 hB1 hB12 hc0 hs1
  have bO := Boxed.new w2 3 (.int .i64 0)
  have hB0 : Below w2.heap.size w2 (w2.alloc (.cells #[.int .i64 0] 3)) := (Below.refl _ w2).alloc (Nat.le_refl _) _
  have hc3 := (hB0.cell (p := ⟨w.heap.size, 0, none⟩) (show w.heap.size < w2.heap.size by omega)).trans hc2
  rw [hs2] at bO hB0
  have HS2 := hide hs2
  clear hs2
  refine wpIn_rangeFunc_ownG (F := Fence.wide) (n := 8) rfl (by decide) (gf := 29) (lb := #[.pointer (some ⟨w.heap.size, 0, none⟩)]) rfl trivial (enters_of Try.func29 (by kernel_rfl) rfl)
    (all_stops Fence.wide (8 - 1) trivial trivial trivial rfl (by decide) w.heap.size (w.heap.size + 1 + 1) m hm _ (by omega) (by have := HS2.out; simp; omega) hc3) belowK_t (belowK_b (by have := HS2.out; simp; omega)) (Below.refl _ _) (fun _ => rfl)
    (fun pre W => Boxed W (w.heap.size + 1 + 1) 3 (.int .i64 (pre.length : Int)) ∧ Below (w.heap.size + 1 + 1) w2 W ∧ Hid (pre.length ≤ N))
    (fun c pre W => Boxed W (w.heap.size + 1 + 1) 3 (.int .i64 (N : Int)) ∧ Below (w.heap.size + 1 + 1) w2 W ∧ c = .exit 0 ∧ pre.length = N + 1)
    (OwnFrom.and (Own.from (boxed_own _ _ _) _) (OwnFrom.and (ownFrom_below (by have := HS2.out; omega) (by have := HS2.out; simp; omega)) (fun _ _ _ _ hs _ _ => hs)))
    (fun c => OwnFrom.and (Own.from (boxed_own _ _ _) _) (OwnFrom.and (ownFrom_below (by have := HS2.out; omega) (by have := HS2.out; simp; omega)) (fun _ _ _ _ hs _ _ => hs)))
    ⟨bO, hB0, hide (Nat.zero_le _)⟩
    (fun x => { tmps := #[.int .u64 (m : Int), .int .i64 leave, undef, undef, .bool false, .func (.func 29) #[] #[.pointer (some ⟨w.heap.size, 0, none⟩)], .pointer (some ⟨w.heap.size + 1, 0, none⟩), .pointer (some ⟨w.heap.size + 1 + 1, 0, none⟩), .int .u64 (m : Int), .func (.func 29) #[] #[.pointer (some ⟨w.heap.size, 0, none⟩)], .int .i64 leave, .int .u64 (IntKind.u64.wrap leave), .int .u64 ((IntKind.u64.wrap leave).tmod 65), .int .i64 (N : Int), .func (.func 29) #[] #[.pointer (some ⟨w.heap.size, 0, none⟩)], .int .i64 (x : Int), undef, undef, undef, undef, undef, undef, undef, undef, undef, undef, undef, undef, undef, undef, undef, undef, undef, undef, undef, undef, undef, undef, undef, undef, undef, undef, undef, undef], defers := [] }) ?assign ?body ?done ?stop
  case assign =>
    intro l x W K hK
    gi_wp2
    exact hK
  case body =>
    rintro l pre x W ⟨hv, hB, HN⟩ hlt
    have hc := hv.cell
    have hf := hv.frozen
    have hcn : W.cell? ⟨w.heap.size + 1, 0, none⟩ = some (.int .i64 (N : Int)) := (hB.cell (p := ⟨w.heap.size + 1, 0, none⟩) (by simp)).trans hn2
    by_cases he : pre.length = N
    · have he' : (pre.length : Int) = (N : Int) := by omega
      rw [he'] at hc hv
      gi_wp2_with fail
      exact ⟨KeepsFrom.refl _ _, hv, hB, rfl, by simp; omega⟩
    · have he' : ¬ (pre.length : Int) = (N : Int) := by omega
      have hlt' : (pre.length : Int) < 64 := by omega
      gi_wp2_with fail
      have hv2 := hv.set (.int .i64 ((pre.length : Int) + 1))
      exact ⟨(KeepsOthers.setCell _ _ _).from _, (Below.refl _ W).setCell (p := ⟨w.heap.size + 1 + 1, 0, none⟩) (Nat.le_refl _) _, by simpa using hv2, hB.setCell (p := ⟨w.heap.size + 1 + 1, 0, none⟩) (Nat.le_refl _) _, hide (by have := HN.out; simp; omega)⟩
  case done =>
    rintro D ys W hD rfl ⟨hv, hB, HN⟩ hK
    have hck := hv.cell
    have hcn : W.cell? ⟨w.heap.size + 1, 0, none⟩ = some (.int .i64 (N : Int)) := (hB.cell (p := ⟨w.heap.size + 1, 0, none⟩) (by simp)).trans hn2
    have hBw : Below w.heap.size w W := hB2.trans (hB.mono (by omega))
    have hlt8 : w.heap.size + 1 + 1 < W.drew.heap.size := hv.lt
    have hDw : w.heap.size ≤ D := by have := HS2.out; simp at hD; omega
    obtain ⟨K, hKe⟩ : ∃ K, (setN m).length = K := ⟨_, rfl⟩
    simp only [hKe] at c9
    rw [hKe] at hck HN
    have hKN : (K : Int) ≤ (N : Int) := by have := HN.out; omega
    have HKE := hide hKe
    clear hv hB HN hKe
    gi_wp2_with fail
    obtain ⟨w8, hw8⟩ : ∃ w8, W.drew = w8 := ⟨_, rfl⟩
    refine wpIn_wide.2 ?_
    refine hs_begin (S := (Below w8.heap.size w8)) 24 rfl (by kernel_rfl) ?_
    have hck8 : w8.cell? ⟨w.heap.size + 1 + 1, 0, none⟩ = some (.int .i64 (K : Int)) := by rw [← hw8]; exact hck
    have hcn8 : w8.cell? ⟨w.heap.size + 1, 0, none⟩ = some (.int .i64 (N : Int)) := by rw [← hw8]; exact hcn
    have hB8 : Below w.heap.size w w8 := by rw [← hw8]; exact (Below.drew hBw)
    have hK8 : w8.heap[D]? = some (.deferred (some [])) := by rw [← hw8]; exact hK
    have hl8 : w.heap.size + 1 + 1 < w8.heap.size := by rw [← hw8]; exact hlt8
    rw [hw8]
    clear hw8 hck hcn hBw hK hlt8
    have hS : (Below w8.heap.size w8) w8 := Below.refl _ _
    have hl8' : w.heap.size + 1 < w8.heap.size := by omega
    refine hs_take (i := 0) (d := some 21) (v := ?_) rfl (by kernel_rfl) (by kernel_rfl) (by kernel_rfl) (by rfl) ?_ hS rfl ?_
    rotate_left
    · intro w' hw
      have q1 := (hw.cell (p := ⟨w.heap.size + 1 + 1, 0, none⟩) hl8).trans hck8
      go_simp
      try with_reducible rfl
    simp only [Act.put, List.setIfInBounds_toArray, List.set_cons_zero, List.set_cons_succ]
    refine hs_take (i := 1) (d := some 22) (v := ?_) rfl (by kernel_rfl) (by kernel_rfl) (by kernel_rfl) (by rfl) ?_ hS rfl ?_
    rotate_left
    · intro w' hw
      have q1 := (hw.cell (p := ⟨w.heap.size + 1, 0, none⟩) hl8').trans hcn8
      go_simp
      try with_reducible rfl
    simp only [Act.put, List.setIfInBounds_toArray, List.set_cons_zero, List.set_cons_succ]
    refine hs_take (i := 2) (d := some 23) (v := ?_) rfl (by kernel_rfl) (by kernel_rfl) (by kernel_rfl) (by rfl) ?_ hS rfl ?_
    rotate_left
    · intro w' hw
      go_simp
      try with_reducible rfl
    simp only [Act.put, List.setIfInBounds_toArray, List.set_cons_zero, List.set_cons_succ]
    clear hck8 hcn8
    refine hs_call (i := 3) (d := some 24) rfl (by kernel_rfl) (by rfl) (by go_simp; first | done | exact ⟨rfl, rfl⟩ | with_reducible rfl) rfl ?_
    refine (c9 w8).mono ?_
    rintro e' w9 ⟨rfl, hw9⟩
    have hS : (Below w8.heap.size w8) w9 := hS.trans (hw9.mono hS.size)
    refine ⟨_, rfl, hS, ?_⟩
    simp only [Act.put, List.setIfInBounds_toArray, List.set_cons_zero, List.set_cons_succ]
    refine hs_take (i := 4) (d := some 25) (v := .int .i64 (K : Int)) rfl (by kernel_rfl) (by kernel_rfl) (by kernel_rfl) (by rfl) (fun w' hw => by go_simp; first | done | omega | (intro _; omega)) hS rfl ?_
    simp only [Act.put, List.setIfInBounds_toArray, List.set_cons_zero, List.set_cons_succ]
    refine hs_take (i := 5) (d := some 26) (v := .bool true) rfl (by kernel_rfl) (by kernel_rfl) (by kernel_rfl) (by rfl) (fun w' hw => by go_simp) hS rfl ?_
    simp only [Act.put, List.setIfInBounds_toArray, List.set_cons_zero, List.set_cons_succ]
    refine hs_take (i := 6) (d := some 27) (v := ?_) rfl (by kernel_rfl) (by kernel_rfl) (by kernel_rfl) (by rfl) ?_ hS rfl ?_
    rotate_left
    · intro w' hw
      go_simp
      try with_reducible rfl
    simp only [Act.put, List.setIfInBounds_toArray, List.set_cons_zero, List.set_cons_succ]
    refine hs_take (i := 7) (d := some 28) (v := ?_) rfl (by kernel_rfl) (by kernel_rfl) (by kernel_rfl) (by rfl) ?_ hS rfl ?_
    rotate_left
    · intro w' hw
      go_simp
      try with_reducible rfl
    simp only [Act.put, List.setIfInBounds_toArray, List.set_cons_zero, List.set_cons_succ]
    refine hs_take (i := 9) (d := some 30) (v := ?_) rfl (by kernel_rfl) (by kernel_rfl) (by kernel_rfl) (by rfl) ?_ hS rfl ?_
    rotate_left
    · intro w' hw
      go_simp
      try with_reducible rfl
    simp only [Act.put, List.setIfInBounds_toArray, List.set_cons_zero, List.set_cons_succ]
    refine hs_call (i := 8) (d := some 29) rfl (by kernel_rfl) (by rfl) (by go_simp; first | done | exact ⟨rfl, rfl⟩ | with_reducible rfl) rfl ?_
    refine (ca w9).mono ?_
    rintro e' w10 ⟨v1, rfl, hrow1, hw10⟩
    have hS : (Below w8.heap.size w8) w10 := hS.trans (hw10.mono hS.size)
    refine ⟨_, rfl, hS, ?_⟩
    simp only [Act.put, List.setIfInBounds_toArray, List.set_cons_zero, List.set_cons_succ]
    obtain ⟨a1, cap1, rfl, hr1⟩ := own_set hrow1 hlm
    refine hs_call (i := 10) (d := some 31) rfl (by kernel_rfl) (by rfl) (by go_simp; first | done | exact ⟨rfl, rfl⟩ | with_reducible rfl) rfl ?_
    refine (cr w10).mono ?_
    rintro e' w11 ⟨v2, rfl, hrow2, hw11⟩
    have hS : (Below w8.heap.size w8) w11 := hS.trans (hw11.mono hS.size)
    refine ⟨_, rfl, hS, ?_⟩
    simp only [Act.put, List.setIfInBounds_toArray, List.set_cons_zero, List.set_cons_succ]
    obtain ⟨a2, cap2, rfl, hr2⟩ := own_set hrow2 hlm
    have ci := ints_same a1 a2 cap1 cap2 (ints (setN m)) w11 (hr1.below hw11) hr2 (by rw [ints_length]; unfold setN; omega)
    rw [ints_length] at ci
    clear hrow1 hrow2 hr1 hr2
    refine hs_call (i := 11) (d := some 32) rfl (by kernel_rfl) (by rfl) (by go_simp; first | done | exact ⟨rfl, rfl⟩ | with_reducible rfl) rfl ?_
    refine (ci).mono ?_
    rintro e' w12 ⟨rfl, hw12⟩
    have hS : (Below w8.heap.size w8) w12 := hS.trans (hw12.mono hS.size)
    refine ⟨_, rfl, hS, ?_⟩
    simp only [Act.put, List.setIfInBounds_toArray, List.set_cons_zero, List.set_cons_succ]
    clear ci
    refine hs_take (i := 12) (d := some 33) (v := ?_) rfl (by kernel_rfl) (by kernel_rfl) (by kernel_rfl) (by rfl) ?_ hS rfl ?_
    rotate_left
    · intro w' hw
      go_simp
      try with_reducible rfl
    simp only [Act.put, List.setIfInBounds_toArray, List.set_cons_zero, List.set_cons_succ]
    refine hs_take (i := 13) (d := some 34) (v := ?_) rfl (by kernel_rfl) (by kernel_rfl) (by kernel_rfl) (by rfl) ?_ hS rfl ?_
    rotate_left
    · intro w' hw
      go_simp
      try with_reducible rfl
    simp only [Act.put, List.setIfInBounds_toArray, List.set_cons_zero, List.set_cons_succ]
    refine hs_take (i := 14) (d := some 35) (v := ?_) rfl (by kernel_rfl) (by kernel_rfl) (by kernel_rfl) (by rfl) ?_ hS rfl ?_
    rotate_left
    · intro w' hw
      go_simp
      try with_reducible rfl
    simp only [Act.put, List.setIfInBounds_toArray, List.set_cons_zero, List.set_cons_succ]
    refine hs_take (i := 16) (d := some 37) (v := ?_) rfl (by kernel_rfl) (by kernel_rfl) (by kernel_rfl) (by rfl) ?_ hS rfl ?_
    rotate_left
    · intro w' hw
      go_simp
      try with_reducible rfl
    simp only [Act.put, List.setIfInBounds_toArray, List.set_cons_zero, List.set_cons_succ]
    refine hs_call (i := 15) (d := some 36) rfl (by kernel_rfl) (by rfl) (by go_simp; first | done | exact ⟨rfl, rfl⟩ | with_reducible rfl) rfl ?_
    refine (ca w12).mono ?_
    rintro e' w13 ⟨v1, rfl, hrow1, hw13⟩
    have hS : (Below w8.heap.size w8) w13 := hS.trans (hw13.mono hS.size)
    refine ⟨_, rfl, hS, ?_⟩
    simp only [Act.put, List.setIfInBounds_toArray, List.set_cons_zero, List.set_cons_succ]
    obtain ⟨a1, cap1, rfl, hr1⟩ := own_set hrow1 hlm
    refine hs_call (i := 17) (d := some 38) rfl (by kernel_rfl) (by rfl) (by go_simp; first | done | exact ⟨rfl, rfl⟩ | with_reducible rfl) rfl ?_
    refine (ca w13).mono ?_
    rintro e' w14 ⟨v2, rfl, hrow2, hw14⟩
    have hS : (Below w8.heap.size w8) w14 := hS.trans (hw14.mono hS.size)
    refine ⟨_, rfl, hS, ?_⟩
    simp only [Act.put, List.setIfInBounds_toArray, List.set_cons_zero, List.set_cons_succ]
    obtain ⟨a2, cap2, rfl, hr2⟩ := own_set hrow2 hlm
    have ci := ints_same a1 a2 cap1 cap2 (ints (setN m)) w14 (hr1.below hw14) hr2 (by rw [ints_length]; unfold setN; omega)
    rw [ints_length] at ci
    clear hrow1 hrow2 hr1 hr2
    refine hs_call (i := 18) (d := some 39) rfl (by kernel_rfl) (by rfl) (by go_simp; first | done | exact ⟨rfl, rfl⟩ | with_reducible rfl) rfl ?_
    refine (ci).mono ?_
    rintro e' w15 ⟨rfl, hw15⟩
    have hS : (Below w8.heap.size w8) w15 := hS.trans (hw15.mono hS.size)
    refine ⟨_, rfl, hS, ?_⟩
    simp only [Act.put, List.setIfInBounds_toArray, List.set_cons_zero, List.set_cons_succ]
    clear ci
    refine hs_take (i := 19) (d := some 40) (v := ?_) rfl (by kernel_rfl) (by kernel_rfl) (by kernel_rfl) (by rfl) ?_ hS rfl ?_
    rotate_left
    · intro w' hw
      go_simp
      try with_reducible rfl
    simp only [Act.put, List.setIfInBounds_toArray, List.set_cons_zero, List.set_cons_succ]
    refine hs_take (i := 20) (d := some 41) (v := ?_) rfl (by kernel_rfl) (by kernel_rfl) (by kernel_rfl) (by rfl) ?_ hS rfl ?_
    rotate_left
    · intro w' hw
      go_simp
      try with_reducible rfl
    simp only [Act.put, List.setIfInBounds_toArray, List.set_cons_zero, List.set_cons_succ]
    refine hs_call (i := 21) (d := some 42) rfl (by kernel_rfl) (by rfl) (by go_simp; first | done | exact ⟨rfl, rfl⟩ | with_reducible rfl) rfl ?_
    refine (lives_any w15).mono ?_
    rintro e' w16 ⟨rfl, hw16⟩
    have hS : (Below w8.heap.size w8) w16 := hS.trans (hw16.mono hS.size)
    refine ⟨_, rfl, hS, ?_⟩
    simp only [Act.put, List.setIfInBounds_toArray, List.set_cons_zero, List.set_cons_succ]
    refine hs_take (i := 22) (d := some 43) (v := ?_) rfl (by kernel_rfl) (by kernel_rfl) (by kernel_rfl) (by rfl) ?_ hS rfl ?_
    rotate_left
    · intro w' hw
      go_simp
      try with_reducible rfl
    simp only [Act.put, List.setIfInBounds_toArray, List.set_cons_zero, List.set_cons_succ]
    refine hs_take (i := 23) (d := some 4) (v := ?_) rfl (by kernel_rfl) (by kernel_rfl) (by kernel_rfl) (by rfl) ?_ hS rfl ?_
    rotate_left
    · intro w' hw
      go_simp
      try with_reducible rfl
    simp only [Act.put, List.setIfInBounds_toArray, List.set_cons_zero, List.set_cons_succ]
    refine hs_done (by kernel_rfl) ?_
    have hDl : D < w8.heap.size := (Array.getElem?_eq_some_iff.1 hK8).1
    have hKf : w16.heap[D]? = some (.deferred (some [])) := (hS.block D hDl).trans hK8
    have hBf : Below w.heap.size w w16 := hB8.trans (hS.mono hB8.size)
    gi_wp2_with fail
    refine ⟨by simp, .inl ⟨_, _, rfl, run_takeDeferred hKf, ?_⟩⟩
    exact ⟨_, results_tmp rfl _ _ _, rfl, hBf.trans (belowK_b (w := w) (Nat.le_refl _) w16 D _ _ (by omega) hKf rfl rfl)⟩
  case stop =>
    rintro D c pre W hD hpre ⟨hv, hB, rfl, hlen⟩ hK
    have hck := hv.cell
    have hcn : W.cell? ⟨w.heap.size + 1, 0, none⟩ = some (.int .i64 (N : Int)) := (hB.cell (p := ⟨w.heap.size + 1, 0, none⟩) (by simp)).trans hn2
    have hBw : Below w.heap.size w W := hB2.trans (hB.mono (by omega))
    have hlt8 : w.heap.size + 1 + 1 < W.drew.heap.size := hv.lt
    have hDw : w.heap.size ≤ D := by have := HS2.out; simp at hD; omega
    have hpl := hpre.length_le
    obtain ⟨L, hKe⟩ : ∃ L, (setN m).length = L := ⟨_, rfl⟩
    simp only [hKe] at c9
    rw [hKe] at hpl
    have hKN : ¬ (L : Int) < (N : Int) := by omega
    have HKE := hide hKe
    clear hv hB hKe hlen hpl hpre
    gi_wp2_with fail
    obtain ⟨w8, hw8⟩ : ∃ w8, W.drew = w8 := ⟨_, rfl⟩
    refine wpIn_wide.2 ?_
    refine hs_begin (S := (Below w8.heap.size w8)) 24 rfl (by kernel_rfl) ?_
    have hck8 : w8.cell? ⟨w.heap.size + 1 + 1, 0, none⟩ = some (.int .i64 (N : Int)) := by rw [← hw8]; exact hck
    have hcn8 : w8.cell? ⟨w.heap.size + 1, 0, none⟩ = some (.int .i64 (N : Int)) := by rw [← hw8]; exact hcn
    have hB8 : Below w.heap.size w w8 := by rw [← hw8]; exact (Below.drew hBw)
    have hK8 : w8.heap[D]? = some (.deferred (some [])) := by rw [← hw8]; exact hK
    have hl8 : w.heap.size + 1 + 1 < w8.heap.size := by rw [← hw8]; exact hlt8
    rw [hw8]
    clear hw8 hck hcn hBw hK hlt8
    have hS : (Below w8.heap.size w8) w8 := Below.refl _ _
    have hl8' : w.heap.size + 1 < w8.heap.size := by omega
    refine hs_take (i := 0) (d := some 21) (v := ?_) rfl (by kernel_rfl) (by kernel_rfl) (by kernel_rfl) (by rfl) ?_ hS rfl ?_
    rotate_left
    · intro w' hw
      have q1 := (hw.cell (p := ⟨w.heap.size + 1 + 1, 0, none⟩) hl8).trans hck8
      go_simp
      try with_reducible rfl
    simp only [Act.put, List.setIfInBounds_toArray, List.set_cons_zero, List.set_cons_succ]
    refine hs_take (i := 1) (d := some 22) (v := ?_) rfl (by kernel_rfl) (by kernel_rfl) (by kernel_rfl) (by rfl) ?_ hS rfl ?_
    rotate_left
    · intro w' hw
      have q1 := (hw.cell (p := ⟨w.heap.size + 1, 0, none⟩) hl8').trans hcn8
      go_simp
      try with_reducible rfl
    simp only [Act.put, List.setIfInBounds_toArray, List.set_cons_zero, List.set_cons_succ]
    refine hs_take (i := 2) (d := some 23) (v := ?_) rfl (by kernel_rfl) (by kernel_rfl) (by kernel_rfl) (by rfl) ?_ hS rfl ?_
    rotate_left
    · intro w' hw
      go_simp
      try with_reducible rfl
    simp only [Act.put, List.setIfInBounds_toArray, List.set_cons_zero, List.set_cons_succ]
    clear hck8 hcn8
    refine hs_call (i := 3) (d := some 24) rfl (by kernel_rfl) (by rfl) (by go_simp; first | done | exact ⟨rfl, rfl⟩ | with_reducible rfl) rfl ?_
    refine (c9 w8).mono ?_
    rintro e' w9 ⟨rfl, hw9⟩
    have hS : (Below w8.heap.size w8) w9 := hS.trans (hw9.mono hS.size)
    refine ⟨_, rfl, hS, ?_⟩
    simp only [Act.put, List.setIfInBounds_toArray, List.set_cons_zero, List.set_cons_succ]
    refine hs_take (i := 4) (d := some 25) (v := .int .i64 (N : Int)) rfl (by kernel_rfl) (by kernel_rfl) (by kernel_rfl) (by rfl) (fun w' hw => by go_simp; first | done | omega | (intro _; omega)) hS rfl ?_
    simp only [Act.put, List.setIfInBounds_toArray, List.set_cons_zero, List.set_cons_succ]
    refine hs_take (i := 5) (d := some 26) (v := .bool true) rfl (by kernel_rfl) (by kernel_rfl) (by kernel_rfl) (by rfl) (fun w' hw => by go_simp) hS rfl ?_
    simp only [Act.put, List.setIfInBounds_toArray, List.set_cons_zero, List.set_cons_succ]
    refine hs_take (i := 6) (d := some 27) (v := ?_) rfl (by kernel_rfl) (by kernel_rfl) (by kernel_rfl) (by rfl) ?_ hS rfl ?_
    rotate_left
    · intro w' hw
      go_simp
      try with_reducible rfl
    simp only [Act.put, List.setIfInBounds_toArray, List.set_cons_zero, List.set_cons_succ]
    refine hs_take (i := 7) (d := some 28) (v := ?_) rfl (by kernel_rfl) (by kernel_rfl) (by kernel_rfl) (by rfl) ?_ hS rfl ?_
    rotate_left
    · intro w' hw
      go_simp
      try with_reducible rfl
    simp only [Act.put, List.setIfInBounds_toArray, List.set_cons_zero, List.set_cons_succ]
    refine hs_take (i := 9) (d := some 30) (v := ?_) rfl (by kernel_rfl) (by kernel_rfl) (by kernel_rfl) (by rfl) ?_ hS rfl ?_
    rotate_left
    · intro w' hw
      go_simp
      try with_reducible rfl
    simp only [Act.put, List.setIfInBounds_toArray, List.set_cons_zero, List.set_cons_succ]
    refine hs_call (i := 8) (d := some 29) rfl (by kernel_rfl) (by rfl) (by go_simp; first | done | exact ⟨rfl, rfl⟩ | with_reducible rfl) rfl ?_
    refine (ca w9).mono ?_
    rintro e' w10 ⟨v1, rfl, hrow1, hw10⟩
    have hS : (Below w8.heap.size w8) w10 := hS.trans (hw10.mono hS.size)
    refine ⟨_, rfl, hS, ?_⟩
    simp only [Act.put, List.setIfInBounds_toArray, List.set_cons_zero, List.set_cons_succ]
    obtain ⟨a1, cap1, rfl, hr1⟩ := own_set hrow1 hlm
    refine hs_call (i := 10) (d := some 31) rfl (by kernel_rfl) (by rfl) (by go_simp; first | done | exact ⟨rfl, rfl⟩ | with_reducible rfl) rfl ?_
    refine (cr w10).mono ?_
    rintro e' w11 ⟨v2, rfl, hrow2, hw11⟩
    have hS : (Below w8.heap.size w8) w11 := hS.trans (hw11.mono hS.size)
    refine ⟨_, rfl, hS, ?_⟩
    simp only [Act.put, List.setIfInBounds_toArray, List.set_cons_zero, List.set_cons_succ]
    obtain ⟨a2, cap2, rfl, hr2⟩ := own_set hrow2 hlm
    have ci := ints_same a1 a2 cap1 cap2 (ints (setN m)) w11 (hr1.below hw11) hr2 (by rw [ints_length]; unfold setN; omega)
    rw [ints_length] at ci
    clear hrow1 hrow2 hr1 hr2
    refine hs_call (i := 11) (d := some 32) rfl (by kernel_rfl) (by rfl) (by go_simp; first | done | exact ⟨rfl, rfl⟩ | with_reducible rfl) rfl ?_
    refine (ci).mono ?_
    rintro e' w12 ⟨rfl, hw12⟩
    have hS : (Below w8.heap.size w8) w12 := hS.trans (hw12.mono hS.size)
    refine ⟨_, rfl, hS, ?_⟩
    simp only [Act.put, List.setIfInBounds_toArray, List.set_cons_zero, List.set_cons_succ]
    clear ci
    refine hs_take (i := 12) (d := some 33) (v := ?_) rfl (by kernel_rfl) (by kernel_rfl) (by kernel_rfl) (by rfl) ?_ hS rfl ?_
    rotate_left
    · intro w' hw
      go_simp
      try with_reducible rfl
    simp only [Act.put, List.setIfInBounds_toArray, List.set_cons_zero, List.set_cons_succ]
    refine hs_take (i := 13) (d := some 34) (v := ?_) rfl (by kernel_rfl) (by kernel_rfl) (by kernel_rfl) (by rfl) ?_ hS rfl ?_
    rotate_left
    · intro w' hw
      go_simp
      try with_reducible rfl
    simp only [Act.put, List.setIfInBounds_toArray, List.set_cons_zero, List.set_cons_succ]
    refine hs_take (i := 14) (d := some 35) (v := ?_) rfl (by kernel_rfl) (by kernel_rfl) (by kernel_rfl) (by rfl) ?_ hS rfl ?_
    rotate_left
    · intro w' hw
      go_simp
      try with_reducible rfl
    simp only [Act.put, List.setIfInBounds_toArray, List.set_cons_zero, List.set_cons_succ]
    refine hs_take (i := 16) (d := some 37) (v := ?_) rfl (by kernel_rfl) (by kernel_rfl) (by kernel_rfl) (by rfl) ?_ hS rfl ?_
    rotate_left
    · intro w' hw
      go_simp
      try with_reducible rfl
    simp only [Act.put, List.setIfInBounds_toArray, List.set_cons_zero, List.set_cons_succ]
    refine hs_call (i := 15) (d := some 36) rfl (by kernel_rfl) (by rfl) (by go_simp; first | done | exact ⟨rfl, rfl⟩ | with_reducible rfl) rfl ?_
    refine (ca w12).mono ?_
    rintro e' w13 ⟨v1, rfl, hrow1, hw13⟩
    have hS : (Below w8.heap.size w8) w13 := hS.trans (hw13.mono hS.size)
    refine ⟨_, rfl, hS, ?_⟩
    simp only [Act.put, List.setIfInBounds_toArray, List.set_cons_zero, List.set_cons_succ]
    obtain ⟨a1, cap1, rfl, hr1⟩ := own_set hrow1 hlm
    refine hs_call (i := 17) (d := some 38) rfl (by kernel_rfl) (by rfl) (by go_simp; first | done | exact ⟨rfl, rfl⟩ | with_reducible rfl) rfl ?_
    refine (ca w13).mono ?_
    rintro e' w14 ⟨v2, rfl, hrow2, hw14⟩
    have hS : (Below w8.heap.size w8) w14 := hS.trans (hw14.mono hS.size)
    refine ⟨_, rfl, hS, ?_⟩
    simp only [Act.put, List.setIfInBounds_toArray, List.set_cons_zero, List.set_cons_succ]
    obtain ⟨a2, cap2, rfl, hr2⟩ := own_set hrow2 hlm
    have ci := ints_same a1 a2 cap1 cap2 (ints (setN m)) w14 (hr1.below hw14) hr2 (by rw [ints_length]; unfold setN; omega)
    rw [ints_length] at ci
    clear hrow1 hrow2 hr1 hr2
    refine hs_call (i := 18) (d := some 39) rfl (by kernel_rfl) (by rfl) (by go_simp; first | done | exact ⟨rfl, rfl⟩ | with_reducible rfl) rfl ?_
    refine (ci).mono ?_
    rintro e' w15 ⟨rfl, hw15⟩
    have hS : (Below w8.heap.size w8) w15 := hS.trans (hw15.mono hS.size)
    refine ⟨_, rfl, hS, ?_⟩
    simp only [Act.put, List.setIfInBounds_toArray, List.set_cons_zero, List.set_cons_succ]
    clear ci
    refine hs_take (i := 19) (d := some 40) (v := ?_) rfl (by kernel_rfl) (by kernel_rfl) (by kernel_rfl) (by rfl) ?_ hS rfl ?_
    rotate_left
    · intro w' hw
      go_simp
      try with_reducible rfl
    simp only [Act.put, List.setIfInBounds_toArray, List.set_cons_zero, List.set_cons_succ]
    refine hs_take (i := 20) (d := some 41) (v := ?_) rfl (by kernel_rfl) (by kernel_rfl) (by kernel_rfl) (by rfl) ?_ hS rfl ?_
    rotate_left
    · intro w' hw
      go_simp
      try with_reducible rfl
    simp only [Act.put, List.setIfInBounds_toArray, List.set_cons_zero, List.set_cons_succ]
    refine hs_call (i := 21) (d := some 42) rfl (by kernel_rfl) (by rfl) (by go_simp; first | done | exact ⟨rfl, rfl⟩ | with_reducible rfl) rfl ?_
    refine (lives_any w15).mono ?_
    rintro e' w16 ⟨rfl, hw16⟩
    have hS : (Below w8.heap.size w8) w16 := hS.trans (hw16.mono hS.size)
    refine ⟨_, rfl, hS, ?_⟩
    simp only [Act.put, List.setIfInBounds_toArray, List.set_cons_zero, List.set_cons_succ]
    refine hs_take (i := 22) (d := some 43) (v := ?_) rfl (by kernel_rfl) (by kernel_rfl) (by kernel_rfl) (by rfl) ?_ hS rfl ?_
    rotate_left
    · intro w' hw
      go_simp
      try with_reducible rfl
    simp only [Act.put, List.setIfInBounds_toArray, List.set_cons_zero, List.set_cons_succ]
    refine hs_take (i := 23) (d := some 4) (v := ?_) rfl (by kernel_rfl) (by kernel_rfl) (by kernel_rfl) (by rfl) ?_ hS rfl ?_
    rotate_left
    · intro w' hw
      go_simp
      try with_reducible rfl
    simp only [Act.put, List.setIfInBounds_toArray, List.set_cons_zero, List.set_cons_succ]
    refine hs_done (by kernel_rfl) ?_
    have hDl : D < w8.heap.size := (Array.getElem?_eq_some_iff.1 hK8).1
    have hKf : w16.heap[D]? = some (.deferred (some [])) := (hS.block D hDl).trans hK8
    have hBf : Below w.heap.size w w16 := hB8.trans (hS.mono hB8.size)
    gi_wp2_with fail
    refine ⟨by simp, .inl ⟨_, _, rfl, run_takeDeferred hKf, ?_⟩⟩
    exact ⟨_, results_tmp rfl _ _ _, rfl, hBf.trans (belowK_b (w := w) (Nat.le_refl _) w16 D _ _ (by omega) hKf rfl rfl)⟩
end Go.Proofs.Ytinpbnkmpplkiab
