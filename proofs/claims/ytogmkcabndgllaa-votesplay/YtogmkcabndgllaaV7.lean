/- Add: what is put in -/
import Derived.Test.YtogmkcabndgllaaV6
namespace Go.Proofs.Ytogmkcabndgllaa
open Go.RowKit
def SAd (w : World) (B b : Nat) (u t : List Value) (x : World) : Prop := x.cell? ⟨B, 1, none⟩ = some (.map (some b)) ∧ x.rangeAt w.heap.size 0 u ∧ x.rangeAt (w.heap.size + 1) 0 t
theorem SAd.grown {w x y : World} {B b : Nat} {u t : List Value} (h : SAd w B b u t x) (hg : x.grownBy y (some b)) (hB : B < x.heap.size) (hne : b ≠ B) (hb : b < w.heap.size) (h1 : w.heap.size < x.heap.size) (h2 : w.heap.size + 1 < x.heap.size) : SAd w B b u t y := by
  have e : ∀ z, z < x.heap.size → z ≠ b → y.heap[z]? = x.heap[z]? := fun z hz hn => hg.block z hz (fun q => hn (by injection q))
  refine ⟨?_, range_at h.2.1 (e _ h1 (by omega)), range_at h.2.2 (e _ h2 (by omega))⟩
  rw [← h.1]
  simp [World.cell?, e B hB (fun q => hne q.symm)]
theorem add_done {w w8 w9 : World} {B b : Nat} {N : Int} {st : List On} {x : On} (h : BookAt w B b N st) (hx : x.ok) (hn : (0 ≤ x.n ∧ x.n < N) ∧ (x.v.k = 1 ∨ x.v.k = 2)) (h8 : BookAt w8 B b N st) (hm : MapB w9 b (putL st x)) (hg : w8.grownBy w9 (some b)) (hb : Below w.heap.size w w8) :
    BookAt w9 B b N (putL st x) ∧ Off (fun z => z = b) w w9 := by
  have hne := h.ne
  have hB : w9.heap[B]? = w8.heap[B]? := hg.block B h8.lt (fun e => hne (by injection e with e; exact e.symm))
  refine ⟨⟨Nat.lt_of_lt_of_le h8.lt hg.size, ?_, ?_, hm, h.bk.put hx hn.1 hn.2⟩, (Off.of_below hb).trans (Off.of_grown hg (fun k hk => by injection hk with hk; exact hk.symm)) (fun _ _ q => q)⟩
  · rw [← h8.c0]; simp [World.cell?, hB]
  · rw [← h8.c1]; simp [World.cell?, hB]
set_option maxRecDepth 100000 in
set_option maxHeartbeats 2000000 in
theorem add_d (B b : Nat) (N : Int) (st : List On) (x : On) (hx : x.ok) (w : World) (h : BookAt w B b N st) (hn : 0 ≤ x.n) (hn2 : x.n < N) (hk1 : x.v.k = 1 ∨ x.v.k = 2) (hlen : st.length < 1000000) (hfind : find st x.v.k x.n = none) : Calls Try.prog 10 #[.pointer (some ⟨B, 0, none⟩), .int .i64 x.n, .agg x.v.cells.toArray, .agg (v8 x.t).toArray] w fun e w' => e = .returned (.int .i64 0) ∧ BookAt w' B b N (putL st x) ∧ Off (fun z => z = b) w w' := by
  have hnn : (0 ≤ x.n ∧ x.n < N) ∧ (x.v.k = 1 ∨ x.v.k = 2) := ⟨⟨hn, hn2⟩, hk1⟩
  have hx1 : x.v.cells.toArray.size = 36 := by simpa using hx.v.len
  have hT1 : (v8 x.t).toArray.size = 16 := by simpa using hx.tl
  have hiV : (Try.prog.info? 31).map (·.size) = some x.v.cells.length := by rw [hx.v.len]; exact iszV
  have hiT : (Try.prog.info? 33).map (·.size) = some (v8 x.t).length := by rw [v8_length, hx.tl]; exact iszT
  obtain ⟨n, xv, xt⟩ := x
  obtain ⟨k, ep, vw, sl, d⟩ := xv
  obtain ⟨u, hu⟩ : ∃ u, Hid ((Vt.mk k ep vw sl d).cells = u) := ⟨_, hide rfl⟩
  simp only at *
  have hb0 := two_box (w := w) (Vt.mk k ep vw sl d).cells (v8 xt) 31 33
  rw [hu.out] at hb0
  have c0k : (u)[0]? = some (.int .i64 k) := by rw [← hu.out]; rfl
  have c2v : (u)[2]? = some (.int .i64 vw) := by rw [← hu.out]; rfl
  have heqU := fun (z : Vt) (hz : z.ok) w => eqV z ⟨k, ep, vw, sl, d⟩ hz hx.v w
  simp only [hu.out] at heqU
  rw [hu.out] at hx1 hiV ⊢
  go_enter Try.func10, Try.ntmps10
  go_upto_region 1 with fail
  go_name_world w1 hw1
  rw [hw1] at hb0
  clear hw1
  obtain ⟨hB1, hR1, hR2, hsz1⟩ := hb0
  have k0 := hR1 0 _ c0k
  have k2 := hR1 2 _ c2v
  simp only [Nat.zero_add] at k0 k2
  have h1 := h.below hB1
  have cM := isMade_yes B b N st w1 h1
  have b0 := h1.c0
  have b1 := h1.c1
  go_wp2_with fail
  refine cM.mono ?_
  rintro _ wx ⟨rfl, hxx⟩
  obtain rfl := hxx.symm
  clear hxx cM
  have hkk : (k != 1) = false ∨ ((k != 1) = true ∧ (k != 2) = false) := by rcases hk1 with rfl | rfl <;> simp
  clear hk1
  rcases hkk with hkk | ⟨hkk, hkk2⟩
  all_goals
    have cO := of_yes B b N st k n hx.v.k hx.n w1 h1
    have hy := find_ok h.bk k n
    rw [hfind] at cO hy
    simp only [Option.getD_none, Option.isSome_none] at cO hy
    go_wp2_with fail
    refine cO.mono ?_
    rintro _ w2 ⟨rfl, hB2⟩
    clear cO
    have h2 := h1.below hB2
    have hR1 := range_below hR1 hB2 (by omega)
    have hR2 := range_below hR2 hB2 (by omega)
    have k0 := hR1 0 _ c0k
    have k2 := hR1 2 _ c2v
    simp only [Nat.zero_add] at k0 k2
    clear h1
    have hsz2 := hB2.size
    have q36 : on0.v.cells.toArray.size = 36 := by simpa using hy.v.len
    have q16 : (v8 on0.t).toArray.size = 16 := by simpa using hy.tl
    have q1 := all_one on0.v.one
    have q2 := all_one (v8_one on0.t)
    have iq1 : (Try.prog.info? 31).map (·.size) = some on0.v.cells.toArray.size := by rw [q36]; exact iszV
    have iq2 : (Try.prog.info? 33).map (·.size) = some (v8 on0.t).toArray.size := by rw [q16]; exact iszT
    have iq3 : (Try.prog.info? 31).map (·.size) = some on0.v.cells.length := by rw [hy.v.len]; exact iszV
    have y2 : (on0.v.cells)[2]? = some (.int .i64 on0.v.v) := rfl
    have heq := heqU on0.v hy.v
    obtain ⟨yc, hyc⟩ : ∃ yc, Hid (on0.v.cells = yc) := ⟨_, hide rfl⟩
    obtain ⟨yt, hyt⟩ : ∃ yt, Hid (v8 on0.t = yt) := ⟨_, hide rfl⟩
    rw [hyc.out] at q36 q1 iq1 iq3 y2 ⊢
    simp only [hyc.out] at heq
    rw [hyt.out] at q16 q2 iq2 ⊢
    obtain ⟨yv, hyv⟩ : ∃ yv, Hid (on0.v.v = yv) := ⟨_, hide rfl⟩
    rw [hyv.out] at y2
    go_upto_region 8 with (first
      | (refine wpList_store_mid rfl 31 _ _ rfl _ 0 yc.toArray rfl rfl (two_thereA _ _ _ _ _ q36.symm) iq1 q1 ?_)
      | (refine wpList_store_mid rfl 33 _ _ rfl _ 0 yt.toArray rfl rfl (two_thereB _ _ _ _ _ _ q16.symm) iq2 q2 ?_))
    go_name_world w3 hw3
    have hF := two_filled hw3 (by simpa using q36) (by simpa using q16)
    obtain ⟨hB3, hY⟩ := hF
    have hY2 := hY 2 _ y2
    simp only [Nat.zero_add] at hY2
    clear hw3
    have hR1 := range_below hR1 hB3 (by omega)
    have hR2 := range_below hR2 hB3 (by omega)
    have k0 := hR1 0 _ c0k
    have k2 := hR1 2 _ c2v
    simp only [Nat.zero_add] at k0 k2
    have h3 := h2.below hB3
    have hbl : Below w.heap.size w w3 := hB1.trans ((hB2.trans (hB3.mono hsz2)).mono (by omega))
    clear h2
    go_wp2_with fail
    have hkk0 : ∀ w' : World, w'.rangeAt w.heap.size 0 u → w'.cell? ⟨w.heap.size, 0, none⟩ = some (.int .i64 k) := fun w' hw => by
      have := hw 0 _ c0k
      simpa using this
    obtain ⟨w8, hw8⟩ : ∃ w8, w3.drew = w8 := ⟨_, rfl⟩
    have h8 : BookAt w8 B b N st := by rw [← hw8]; exact h3.below (Below.refl _ _).drew
    have hb8 : Below w.heap.size w w8 := by rw [← hw8]; exact hbl.drew
    have hS : SAd w B b u (v8 xt) w8 := by
      refine ⟨h8.c1, ?_, ?_⟩
      · rw [← hw8]; exact (World.rangeAt_drew _ _ _ _).2 hR1
      · rw [← hw8]; exact (World.rangeAt_drew _ _ _ _).2 hR2
    have hbw := h.m.lt
    have hs8 : w.heap.size + 2 ≤ w8.heap.size := by
      rw [← hw8]
      have := hB3.size
      show w.heap.size + 2 ≤ w3.heap.size
      omega
    clear h3 hR1 hR2 hbl k0 k2 b0 b1 hY hY2
    refine hs_begin (S := SAd w B b u (v8 xt)) 12 rfl (by kernel_rfl) ?_
    rw [hw8]
    clear hw8
    refine hs_take (i := 0) (d := some 70) (v := ?_) rfl (by kernel_rfl) (by kernel_rfl) (by kernel_rfl) (by rfl) ?_ hS rfl ?_
    rotate_left
    · intro w' hw
      go_simp
      try with_reducible rfl
    simp only [Act.put, List.setIfInBounds_toArray, List.set_cons_zero, List.set_cons_succ]
    refine hs_take (i := 1) (d := some 71) (v := ?_) rfl (by kernel_rfl) (by kernel_rfl) (by kernel_rfl) (by rfl) ?_ hS rfl ?_
    rotate_left
    · intro w' hw
      go_simp
      try with_reducible rfl
    simp only [Act.put, List.setIfInBounds_toArray, List.set_cons_zero, List.set_cons_succ]
    refine hs_take (i := 2) (d := some 72) (v := ?_) rfl (by kernel_rfl) (by kernel_rfl) (by kernel_rfl) (by rfl) ?_ hS rfl ?_
    rotate_left
    · intro w' hw
      go_simp
      try with_reducible rfl
    simp only [Act.put, List.setIfInBounds_toArray, List.set_cons_zero, List.set_cons_succ]
    refine hs_take (i := 3) (d := some 73) (v := ?_) rfl (by kernel_rfl) (by kernel_rfl) (by kernel_rfl) (by rfl) ?_ hS rfl ?_
    rotate_left
    · intro w' hw
      have := hw.1
      go_simp
      try with_reducible rfl
    simp only [Act.put, List.setIfInBounds_toArray, List.set_cons_zero, List.set_cons_succ]
    refine hs_take (i := 4) (d := some 74) (v := ?_) rfl (by kernel_rfl) (by kernel_rfl) (by kernel_rfl) (by rfl) ?_ hS rfl ?_
    rotate_left
    · intro w' hw
      go_simp
      try with_reducible rfl
    simp only [Act.put, List.setIfInBounds_toArray, List.set_cons_zero, List.set_cons_succ]
    refine hs_take (i := 5) (d := some 75) (v := ?_) rfl (by kernel_rfl) (by kernel_rfl) (by kernel_rfl) (by rfl) ?_ hS rfl ?_
    rotate_left
    · intro w' hw
      have := hkk0 w' hw.2.1
      go_simp
      try with_reducible rfl
    simp only [Act.put, List.setIfInBounds_toArray, List.set_cons_zero, List.set_cons_succ]
    refine hs_take (i := 6) (d := some 76) (v := ?_) rfl (by kernel_rfl) (by kernel_rfl) (by kernel_rfl) (by rfl) ?_ hS rfl ?_
    rotate_left
    · intro w' hw
      go_simp
      try with_reducible rfl
    simp only [Act.put, List.setIfInBounds_toArray, List.set_cons_zero, List.set_cons_succ]
    refine hs_take (i := 7) (d := some 77) (v := ?_) rfl (by kernel_rfl) (by kernel_rfl) (by kernel_rfl) (by rfl) ?_ hS rfl ?_
    rotate_left
    · intro w' hw
      go_simp
      try with_reducible rfl
    simp only [Act.put, List.setIfInBounds_toArray, List.set_cons_zero, List.set_cons_succ]
    refine hs_take (i := 8) (d := some 78) (v := .agg u.toArray) rfl (by kernel_rfl) (by kernel_rfl) (by kernel_rfl) (by rfl) (fun w' hw => exec_load rfl rfl (run_loadVar_mid (P := Try.prog) w' w.heap.size 0 31 u _ hw.2.1 Try.underlying31 rfl hiV)) hS rfl ?_
    simp only [Act.put, List.setIfInBounds_toArray, List.set_cons_zero, List.set_cons_succ]
    refine hs_take (i := 9) (d := some 79) (v := .agg (v8 xt).toArray) rfl (by kernel_rfl) (by kernel_rfl) (by kernel_rfl) (by rfl) (fun w' hw => exec_load rfl rfl (run_loadVar_mid (P := Try.prog) w' (w.heap.size + 1) 0 33 (v8 xt) _ hw.2.2 Try.underlying33 rfl hiT)) hS rfl ?_
    simp only [Act.put, List.setIfInBounds_toArray, List.set_cons_zero, List.set_cons_succ]
    refine hs_take (i := 10) (d := some 80) (v := .agg (u ++ v8 xt).toArray) rfl (by kernel_rfl) (by kernel_rfl) (by kernel_rfl) (by rfl) (fun w' hw => ex_build rfl rfl (build_signed u (v8 xt) (by simpa using hx1) (by simpa using hT1) w')) hS rfl ?_
    simp only [Act.put, List.setIfInBounds_toArray, List.set_cons_zero, List.set_cons_succ]
    obtain ⟨w9, hrun, hm9, hg9⟩ := h8.m.store h8.bk ⟨n, ⟨k, ep, vw, sl, d⟩, xt⟩ hx hlen
    unfold On.sig at hrun
    simp only at hrun
    rw [hu.out] at hrun
    have hS9 : SAd w B b u (v8 xt) w9 := SAd.grown hS hg9 h8.lt h8.ne hbw (by have := hb8.size; omega) (by omega)
    refine hs_store (i := 11) (w' := w9) rfl (by kernel_rfl) (by rfl) (ex_update rfl rfl rfl rfl hrun) rfl hS9 ?_
    refine hs_done (by kernel_rfl) ?_
    go_wp2_with fail
    go_ret
    exact ⟨rfl, add_done h hx hnn h8 hm9 hg9 hb8⟩
set_option maxRecDepth 100000 in
set_option maxHeartbeats 2000000 in
theorem add_h (B b : Nat) (N : Int) (st : List On) (x : On) (hx : x.ok) (w : World) (h : BookAt w B b N st) (hn : 0 ≤ x.n) (hn2 : x.n < N) (hk1 : x.v.k = 1 ∨ x.v.k = 2) (hlen : st.length < 1000000) (y : On) (hfind : find st x.v.k x.n = some y) (hv : ¬ y.v = x.v) (hw : y.v.v < x.v.v) : Calls Try.prog 10 #[.pointer (some ⟨B, 0, none⟩), .int .i64 x.n, .agg x.v.cells.toArray, .agg (v8 x.t).toArray] w fun e w' => e = .returned (.int .i64 0) ∧ BookAt w' B b N (putL st x) ∧ Off (fun z => z = b) w w' := by
  have hnn : (0 ≤ x.n ∧ x.n < N) ∧ (x.v.k = 1 ∨ x.v.k = 2) := ⟨⟨hn, hn2⟩, hk1⟩
  have hx1 : x.v.cells.toArray.size = 36 := by simpa using hx.v.len
  have hT1 : (v8 x.t).toArray.size = 16 := by simpa using hx.tl
  have hiV : (Try.prog.info? 31).map (·.size) = some x.v.cells.length := by rw [hx.v.len]; exact iszV
  have hiT : (Try.prog.info? 33).map (·.size) = some (v8 x.t).length := by rw [v8_length, hx.tl]; exact iszT
  obtain ⟨n, xv, xt⟩ := x
  obtain ⟨k, ep, vw, sl, d⟩ := xv
  obtain ⟨u, hu⟩ : ∃ u, Hid ((Vt.mk k ep vw sl d).cells = u) := ⟨_, hide rfl⟩
  simp only at *
  have hb0 := two_box (w := w) (Vt.mk k ep vw sl d).cells (v8 xt) 31 33
  rw [hu.out] at hb0
  have c0k : (u)[0]? = some (.int .i64 k) := by rw [← hu.out]; rfl
  have c2v : (u)[2]? = some (.int .i64 vw) := by rw [← hu.out]; rfl
  have heqU := fun (z : Vt) (hz : z.ok) w => eqV z ⟨k, ep, vw, sl, d⟩ hz hx.v w
  simp only [hu.out] at heqU
  rw [hu.out] at hx1 hiV ⊢
  go_enter Try.func10, Try.ntmps10
  go_upto_region 1 with fail
  go_name_world w1 hw1
  rw [hw1] at hb0
  clear hw1
  obtain ⟨hB1, hR1, hR2, hsz1⟩ := hb0
  have k0 := hR1 0 _ c0k
  have k2 := hR1 2 _ c2v
  simp only [Nat.zero_add] at k0 k2
  have h1 := h.below hB1
  have cM := isMade_yes B b N st w1 h1
  have b0 := h1.c0
  have b1 := h1.c1
  go_wp2_with fail
  refine cM.mono ?_
  rintro _ wx ⟨rfl, hxx⟩
  obtain rfl := hxx.symm
  clear hxx cM
  have hkk : (k != 1) = false ∨ ((k != 1) = true ∧ (k != 2) = false) := by rcases hk1 with rfl | rfl <;> simp
  clear hk1
  rcases hkk with hkk | ⟨hkk, hkk2⟩
  all_goals
    have cO := of_yes B b N st k n hx.v.k hx.n w1 h1
    have hy := find_ok h.bk k n
    rw [hfind] at cO hy
    simp only [Option.getD_some, Option.isSome_some] at cO hy
    go_wp2_with fail
    refine cO.mono ?_
    rintro _ w2 ⟨rfl, hB2⟩
    clear cO
    have h2 := h1.below hB2
    have hR1 := range_below hR1 hB2 (by omega)
    have hR2 := range_below hR2 hB2 (by omega)
    have k0 := hR1 0 _ c0k
    have k2 := hR1 2 _ c2v
    simp only [Nat.zero_add] at k0 k2
    clear h1
    have hsz2 := hB2.size
    have q36 : y.v.cells.toArray.size = 36 := by simpa using hy.v.len
    have q16 : (v8 y.t).toArray.size = 16 := by simpa using hy.tl
    have q1 := all_one y.v.one
    have q2 := all_one (v8_one y.t)
    have iq1 : (Try.prog.info? 31).map (·.size) = some y.v.cells.toArray.size := by rw [q36]; exact iszV
    have iq2 : (Try.prog.info? 33).map (·.size) = some (v8 y.t).toArray.size := by rw [q16]; exact iszT
    have iq3 : (Try.prog.info? 31).map (·.size) = some y.v.cells.length := by rw [hy.v.len]; exact iszV
    have y2 : (y.v.cells)[2]? = some (.int .i64 y.v.v) := rfl
    have heq := heqU y.v hy.v
    obtain ⟨yc, hyc⟩ : ∃ yc, Hid (y.v.cells = yc) := ⟨_, hide rfl⟩
    obtain ⟨yt, hyt⟩ : ∃ yt, Hid (v8 y.t = yt) := ⟨_, hide rfl⟩
    rw [hyc.out] at q36 q1 iq1 iq3 y2 ⊢
    simp only [hyc.out] at heq
    rw [hyt.out] at q16 q2 iq2 ⊢
    obtain ⟨yv, hyv⟩ : ∃ yv, Hid (y.v.v = yv) := ⟨_, hide rfl⟩
    rw [hyv.out] at y2
    go_upto_region 8 with (first
      | (refine wpList_store_mid rfl 31 _ _ rfl _ 0 yc.toArray rfl rfl (two_thereA _ _ _ _ _ q36.symm) iq1 q1 ?_)
      | (refine wpList_store_mid rfl 33 _ _ rfl _ 0 yt.toArray rfl rfl (two_thereB _ _ _ _ _ _ q16.symm) iq2 q2 ?_))
    go_name_world w3 hw3
    have hF := two_filled hw3 (by simpa using q36) (by simpa using q16)
    obtain ⟨hB3, hY⟩ := hF
    have hY2 := hY 2 _ y2
    simp only [Nat.zero_add] at hY2
    clear hw3
    have hR1 := range_below hR1 hB3 (by omega)
    have hR2 := range_below hR2 hB3 (by omega)
    have k0 := hR1 0 _ c0k
    have k2 := hR1 2 _ c2v
    simp only [Nat.zero_add] at k0 k2
    have h3 := h2.below hB3
    have hbl : Below w.heap.size w w3 := hB1.trans ((hB2.trans (hB3.mono hsz2)).mono (by omega))
    clear h2
    have hde : decide (y.v = ⟨k, ep, vw, sl, d⟩) = false := decide_eq_false hv
    simp only [hde] at heq
    clear hv hde
    rw [hyv.out] at hw
    have hne : (yv == vw) = false := by simp; omega
    have hng : ¬ vw < yv := by omega
    have hle : yv ≤ vw := by omega
    try simp only [Act.put]
    refine wp_region_list ?_
    refine wpList_step fun K hK => ?_
    go_simp
    refine hK _ _ ?_
    clear hK K
    refine wpList_step fun K hK => ?_
    go_simp
    refine hK _ _ ?_
    clear hK K
    refine wpList_load_g (by rfl) 31 _ rfl _ _ rfl yc _ hY Try.underlying31 rfl iq3 ?_
    refine wpList_load_g (by rfl) 31 _ rfl _ _ rfl u _ hR1 Try.underlying31 rfl hiV ?_
    refine wpList_step fun K hK => ?_
    go_simp
    try rw [heq]
    try go_simp
    refine hK _ _ ?_
    clear hK K
    refine wpList_step fun K hK => ?_
    go_simp
    refine hK _ _ ?_
    clear hK K
    refine wpList_step fun K hK => ?_
    go_simp
    refine hK _ _ ?_
    clear hK K
    go_wp2_with fail
    have hkk0 : ∀ w' : World, w'.rangeAt w.heap.size 0 u → w'.cell? ⟨w.heap.size, 0, none⟩ = some (.int .i64 k) := fun w' hw => by
      have := hw 0 _ c0k
      simpa using this
    obtain ⟨w8, hw8⟩ : ∃ w8, w3.drew = w8 := ⟨_, rfl⟩
    have h8 : BookAt w8 B b N st := by rw [← hw8]; exact h3.below (Below.refl _ _).drew
    have hb8 : Below w.heap.size w w8 := by rw [← hw8]; exact hbl.drew
    have hS : SAd w B b u (v8 xt) w8 := by
      refine ⟨h8.c1, ?_, ?_⟩
      · rw [← hw8]; exact (World.rangeAt_drew _ _ _ _).2 hR1
      · rw [← hw8]; exact (World.rangeAt_drew _ _ _ _).2 hR2
    have hbw := h.m.lt
    have hs8 : w.heap.size + 2 ≤ w8.heap.size := by
      rw [← hw8]
      have := hB3.size
      show w.heap.size + 2 ≤ w3.heap.size
      omega
    clear h3 hR1 hR2 hbl k0 k2 b0 b1 hY hY2
    refine hs_begin (S := SAd w B b u (v8 xt)) 12 rfl (by kernel_rfl) ?_
    rw [hw8]
    clear hw8
    refine hs_take (i := 0) (d := some 70) (v := ?_) rfl (by kernel_rfl) (by kernel_rfl) (by kernel_rfl) (by rfl) ?_ hS rfl ?_
    rotate_left
    · intro w' hw
      go_simp
      try with_reducible rfl
    simp only [Act.put, List.setIfInBounds_toArray, List.set_cons_zero, List.set_cons_succ]
    refine hs_take (i := 1) (d := some 71) (v := ?_) rfl (by kernel_rfl) (by kernel_rfl) (by kernel_rfl) (by rfl) ?_ hS rfl ?_
    rotate_left
    · intro w' hw
      go_simp
      try with_reducible rfl
    simp only [Act.put, List.setIfInBounds_toArray, List.set_cons_zero, List.set_cons_succ]
    refine hs_take (i := 2) (d := some 72) (v := ?_) rfl (by kernel_rfl) (by kernel_rfl) (by kernel_rfl) (by rfl) ?_ hS rfl ?_
    rotate_left
    · intro w' hw
      go_simp
      try with_reducible rfl
    simp only [Act.put, List.setIfInBounds_toArray, List.set_cons_zero, List.set_cons_succ]
    refine hs_take (i := 3) (d := some 73) (v := ?_) rfl (by kernel_rfl) (by kernel_rfl) (by kernel_rfl) (by rfl) ?_ hS rfl ?_
    rotate_left
    · intro w' hw
      have := hw.1
      go_simp
      try with_reducible rfl
    simp only [Act.put, List.setIfInBounds_toArray, List.set_cons_zero, List.set_cons_succ]
    refine hs_take (i := 4) (d := some 74) (v := ?_) rfl (by kernel_rfl) (by kernel_rfl) (by kernel_rfl) (by rfl) ?_ hS rfl ?_
    rotate_left
    · intro w' hw
      go_simp
      try with_reducible rfl
    simp only [Act.put, List.setIfInBounds_toArray, List.set_cons_zero, List.set_cons_succ]
    refine hs_take (i := 5) (d := some 75) (v := ?_) rfl (by kernel_rfl) (by kernel_rfl) (by kernel_rfl) (by rfl) ?_ hS rfl ?_
    rotate_left
    · intro w' hw
      have := hkk0 w' hw.2.1
      go_simp
      try with_reducible rfl
    simp only [Act.put, List.setIfInBounds_toArray, List.set_cons_zero, List.set_cons_succ]
    refine hs_take (i := 6) (d := some 76) (v := ?_) rfl (by kernel_rfl) (by kernel_rfl) (by kernel_rfl) (by rfl) ?_ hS rfl ?_
    rotate_left
    · intro w' hw
      go_simp
      try with_reducible rfl
    simp only [Act.put, List.setIfInBounds_toArray, List.set_cons_zero, List.set_cons_succ]
    refine hs_take (i := 7) (d := some 77) (v := ?_) rfl (by kernel_rfl) (by kernel_rfl) (by kernel_rfl) (by rfl) ?_ hS rfl ?_
    rotate_left
    · intro w' hw
      go_simp
      try with_reducible rfl
    simp only [Act.put, List.setIfInBounds_toArray, List.set_cons_zero, List.set_cons_succ]
    refine hs_take (i := 8) (d := some 78) (v := .agg u.toArray) rfl (by kernel_rfl) (by kernel_rfl) (by kernel_rfl) (by rfl) (fun w' hw => exec_load rfl rfl (run_loadVar_mid (P := Try.prog) w' w.heap.size 0 31 u _ hw.2.1 Try.underlying31 rfl hiV)) hS rfl ?_
    simp only [Act.put, List.setIfInBounds_toArray, List.set_cons_zero, List.set_cons_succ]
    refine hs_take (i := 9) (d := some 79) (v := .agg (v8 xt).toArray) rfl (by kernel_rfl) (by kernel_rfl) (by kernel_rfl) (by rfl) (fun w' hw => exec_load rfl rfl (run_loadVar_mid (P := Try.prog) w' (w.heap.size + 1) 0 33 (v8 xt) _ hw.2.2 Try.underlying33 rfl hiT)) hS rfl ?_
    simp only [Act.put, List.setIfInBounds_toArray, List.set_cons_zero, List.set_cons_succ]
    refine hs_take (i := 10) (d := some 80) (v := .agg (u ++ v8 xt).toArray) rfl (by kernel_rfl) (by kernel_rfl) (by kernel_rfl) (by rfl) (fun w' hw => ex_build rfl rfl (build_signed u (v8 xt) (by simpa using hx1) (by simpa using hT1) w')) hS rfl ?_
    simp only [Act.put, List.setIfInBounds_toArray, List.set_cons_zero, List.set_cons_succ]
    obtain ⟨w9, hrun, hm9, hg9⟩ := h8.m.store h8.bk ⟨n, ⟨k, ep, vw, sl, d⟩, xt⟩ hx hlen
    unfold On.sig at hrun
    simp only at hrun
    rw [hu.out] at hrun
    have hS9 : SAd w B b u (v8 xt) w9 := SAd.grown hS hg9 h8.lt h8.ne hbw (by have := hb8.size; omega) (by omega)
    refine hs_store (i := 11) (w' := w9) rfl (by kernel_rfl) (by rfl) (ex_update rfl rfl rfl rfl hrun) rfl hS9 ?_
    refine hs_done (by kernel_rfl) ?_
    go_wp2_with fail
    go_ret
    exact ⟨rfl, add_done h hx hnn h8 hm9 hg9 hb8⟩
end Go.Proofs.Ytogmkcabndgllaa
