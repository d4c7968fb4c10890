/- The law WindowOnce: its walk. -/
import Derived.Test.YtnjlamcpfclgaaaWOrd2
import Derived.Test.YtnjlamcpfclgaaaWFork
namespace Go.Proofs.Ytnjlamcpfclgaaa
open Go.RowKit
theorem done_new {B : Int} {m : Nat} {n : Int} (hm : m < 2 ^ 64) (h : askW B m 64 n = 0) (x : Int) : doneW (setB B (mkM B m n)) (setM (mkM B m n)) x = (doneW B m x || decide (n = x)) := by
  obtain ⟨hg, h1, h2, h3, h4, h5, h6⟩ := ask_ok h
  rw [done_in (mark_good hm h), done_in hg, mark_in hm h]
  by_cases e : n = x
  · subst e; simp [h1]
  · have : ¬ (x = n) := fun q => e q.symm
    simp [e, this]
theorem done_old {B : Int} {m : Nat} {n : Int} (h : askW B m 64 n = 0) : doneW B m n = false := by
  obtain ⟨hg, h1, h2, h3, h4, h5, h6⟩ := ask_ok h
  rw [done_in hg, h3]; simp
theorem ask_again {B : Int} {m : Nat} {n : Int} (hm : m < 2 ^ 64) (h : askW B m 64 n = 0) : askW (setB B (mkM B m n)) (setM (mkM B m n)) 64 n = 90 := by
  obtain ⟨hg, h1, h2, h3, h4, h5, h6⟩ := ask_ok h
  have hd := done_new hm h n
  rw [show (doneW B m n || decide (n = n)) = true by simp] at hd
  unfold askW
  rw [if_pos ⟨mark_good hm h, by decide, by decide, h1, h2⟩, hd]; rfl
theorem count_bound (B : Int) (m : Nat) : 0 ≤ countW B m ∧ countW B m ≤ 1099511627840 := by
  unfold countW
  have hl : (setN m).length ≤ 64 := setUp_len m 64
  split
  · rename_i h
    have := good_B h
    omega
  · omega
/-- the law's own window, and the one that is marked, in their boxes -/
structure On (w : World) (B m B' m' : Int) (X : Nat) (W : World) : Prop where
  own : W.rangeAt w.heap.size 0 (winC B m)
  row : W.rangeAt X 0 (winC B' m')
  box : W.there X 0 2
  below : Below w.heap.size w W
  size : w.heap.size < X ∧ X < W.heap.size
theorem On.on {w W W' : World} {B m B' m' : Int} {X : Nat} (h : On w B m B' m' X W) (hb : Below W.heap.size W W') : On w B m B' m' X W' := by
  have hs := h.size
  exact ⟨range_below h.own hb (by omega), range_below h.row hb (by omega), there_below h.box hb (by omega), h.below.trans (hb.mono (by omega)), by have := hb.size; omega⟩
theorem On.set {w W : World} {B m B' m' : Int} {X : Nat} (h : On w B m B' m' X W) (B2 m2 : Int) : On w B m B2 m2 X (W.setCells X 0 (winC B2 m2)) := by
  have hs := h.size
  exact ⟨win_apart h.own (by omega), win_set h.box, there_sets h.box, below_sets (by omega) _ 0 _ h.below, by rw [size_sets]; exact hs⟩
theorem exec_alloc_win (w : World) {a : Act} {o : Oper} (h : o.op = Op.alloc 24 := by rfl) : (execOp a.eval o).run Try.prog w = .ok (.value (.pointer (some ⟨w.heap.size, 0, none⟩))) (w.alloc (.cells #[.int .i64 0, .int .u64 0] 24)) := by
  unfold execOp
  rw [h]
  go_simp
set_option maxHeartbeats 16000000 in
theorem once_walk (B : Int) (m : Nat) (hm : m < 2 ^ 64) (a : Option Addr) (cap : Nat) (zs : List Int) (num : Int) (hnum : num ≤ 9223372036854775807) (w : World) (hr : RowI w a zs) (hw : ∀ z ∈ zs, z ≤ 9223372036854775807) :
    Calls Try.prog 6 #[winV B (m : Int), .slice a zs.length cap, .int .i64 num] w fun e w' => e = .returned (.bool true) ∧ Below w.heap.size w w' := by
  have hb0 := one_box (Below.refl (w.alloc (.cells #[.int .i64 B, .int .u64 (m : Int)] 24)).heap.size _)
  by_cases hlong : 200 < zs.length
  · have hli : (200 : Int) < zs.length := by omega
    go_enter Try.func6, Try.ntmps6
    go_wp2_with fail
    refine (lives_any _).mono ?_
    rintro e w1 ⟨rfl, hb1⟩
    obtain ⟨_, hB1, _⟩ := one_box hb1
    go_wp2_with fail
    go_ret
    exact ⟨rfl, hB1⟩
  · have c1 := done_any B m hm num hnum
    have hl2 : (zs.length : Int) ≤ 200 := by omega
    have hcb := count_bound B m
    obtain ⟨D, hD⟩ : ∃ D, Hid (doneW B m num = D) := ⟨_, rfl⟩
    rw [hD.out] at c1
    go_enter Try.func6, Try.ntmps6
    go_wp2_with fail
    obtain ⟨w1, hw1⟩ : ∃ w1, w.alloc (.cells #[.int .i64 B, .int .u64 (m : Int)] 24) = w1 := ⟨_, rfl⟩
    rw [hw1] at hb0 ⊢
    clear hw1
    obtain ⟨hA, hB1, hz⟩ := hb0
    obtain ⟨w8, hw8⟩ : ∃ w8, w1.drew = w8 := ⟨_, rfl⟩
    refine hs_begin (S := (fun W => W.rangeAt w.heap.size 0 (winC B (m : Int)))) 7 rfl (by kernel_rfl) ?_
    have hS : (w8).rangeAt w.heap.size 0 (winC B (m : Int)) := by rw [← hw8]; exact hA
    have hB8 : Below w.heap.size w w8 := by rw [← hw8]; exact (Below.drew hB1)
    have hz8 : w.heap.size < w8.heap.size := by rw [← hw8]; exact hz
    rw [hw8]
    clear hA hB1 hz
    refine hs_take (i := 0) (d := some 20) (v := winV B (m : Int)) rfl (by kernel_rfl) (by kernel_rfl) (by kernel_rfl) (by rfl) (fun w' hw => exec_load rfl rfl (win_load hw)) hS rfl ?_
    simp only [Act.put, List.setIfInBounds_toArray, List.set_cons_zero, List.set_cons_succ]
    refine hs_take (i := 1) (d := some 21) (v := winV B (m : Int)) rfl (by kernel_rfl) (by kernel_rfl) (by kernel_rfl) (by rfl) (fun w' hw => exec_load rfl rfl (win_load hw)) hS rfl ?_
    simp only [Act.put, List.setIfInBounds_toArray, List.set_cons_zero, List.set_cons_succ]
    refine hs_take (i := 2) (d := some 22) (v := ?_) rfl (by kernel_rfl) (by kernel_rfl) (by kernel_rfl) (by rfl) ?_ hS rfl ?_
    rotate_left
    · intro w' hw
      go_simp
      try with_reducible rfl
    simp only [Act.put, List.setIfInBounds_toArray, List.set_cons_zero, List.set_cons_succ]
    refine hs_fork (i := 3) (j := 4) (by kernel_rfl) ?_ ?_
    · refine st_call (i := 3) (d := some 23) rfl (by rfl) (by go_simp; first | done | exact ⟨rfl, rfl⟩ | with_reducible rfl) rfl ?_
      refine (c1 w8).mono ?_
      rintro e' w9 ⟨rfl, hw9⟩
      have hS : (fun W => W.rangeAt w.heap.size 0 (winC B (m : Int))) w9 := range_below hS hw9 hz8
      refine ⟨_, rfl, hS, ?_⟩
      simp only [Act.put, List.setIfInBounds_toArray, List.set_cons_zero, List.set_cons_succ]
      have hB9 := hB8.trans (hw9.mono hB8.size)
      have hz9 : w.heap.size < w9.heap.size := by have := hw9.size; omega
      clear c1 hw9 hB8 hz8
      have bA : Below w9.heap.size w9 (w9.alloc (.cells #[.int .i64 0, .int .u64 0] 24)) := (Below.refl _ _).alloc (Nat.le_refl _) _
      have hTA := there_new w9 #[.int .i64 0, .int .u64 0] 24
      have hsA : (w9.alloc (.cells #[.int .i64 0, .int .u64 0] 24)).heap.size = w9.heap.size + 1 := World.size_alloc _ _
      have hS : (fun W => W.rangeAt w.heap.size 0 (winC B (m : Int))) (w9.alloc (.cells #[.int .i64 0, .int .u64 0] 24)) := range_below hS bA hz9
      refine hs_run (i := 4) (d := some 7) (v := .pointer (some ⟨w9.heap.size, 0, none⟩)) (w' := (w9.alloc (.cells #[.int .i64 0, .int .u64 0] 24))) rfl (by kernel_rfl) (by rfl) (exec_alloc_win w9) rfl hS ?_
      simp only [Act.put, List.setIfInBounds_toArray, List.set_cons_zero, List.set_cons_succ]
      obtain ⟨wA, hwA⟩ : ∃ wA, w9.alloc (.cells #[.int .i64 0, .int .u64 0] 24) = wA := ⟨_, rfl⟩
      rw [hwA] at hS bA hTA hsA ⊢
      clear hwA
      have hBA := hB9.trans (bA.mono hB9.size)
      clear bA hB9
      obtain ⟨X, hX⟩ : ∃ X, w9.heap.size = X := ⟨_, rfl⟩
      rw [hX] at hTA hsA hz9 ⊢
      clear hX
      have hsX : X < wA.heap.size := by omega
      have hOn : On w B (m : Int) B (m : Int) X (wA.setCells X 0 (winC B (m : Int))) := ⟨win_apart hS (by omega), win_set hTA, there_sets hTA, below_sets (by omega) _ 0 _ hBA, ⟨hz9, by rw [size_sets]; omega⟩⟩
      refine hs_store (i := 5) (w' := wA.setCells X 0 (winC B (m : Int))) rfl (by kernel_rfl) (by rfl) (exec_store rfl rfl rfl (win_store hTA)) rfl hOn.own ?_
      have hS := hOn.own
      refine hs_take (i := 6) (d := some 8) (v := ?_) rfl (by kernel_rfl) (by kernel_rfl) (by kernel_rfl) (by rfl) ?_ hS rfl ?_
      rotate_left
      · intro w' hw
        go_simp
        try with_reducible rfl
      simp only [Act.put, List.setIfInBounds_toArray, List.set_cons_zero, List.set_cons_succ]
      refine hs_done (by kernel_rfl) ?_
      obtain ⟨w2, hw2⟩ : ∃ w2, wA.setCells X 0 (winC B (m : Int)) = w2 := ⟨_, rfl⟩
      rw [hw2] at hOn ⊢
      clear hw2 hS hBA hTA
      go_wp2_with fail
      go_loopw [8, 9, 26] (fun dv nv kv wr => ∃ (k n : Nat) (B' : Int) (m' : Nat) (d : Bool), k ≤ zs.length ∧ n ≤ k ∧ kv = .int .i64 (k : Int) ∧ nv = .int .i64 (n : Int) ∧ dv = .bool d ∧ On w B (m : Int) B' (m' : Int) X wr ∧ Hid (m' < 2 ^ 64) ∧ Hid (doneW B' m' num = d) ∧ Hid (countW B' m' = countW B m + (n : Int))) (fun _ _ kv _ => zs.length - (intOf kv).toNat)
      case atStart => exact ⟨0, 0, B, m, D, Nat.zero_le _, Nat.zero_le _, rfl, rfl, rfl, hOn, hide hm, hD, hide (by simp)⟩
      case round =>
        obtain ⟨k, n, B', m', d, hk, hnk, rfl, rfl, rfl, hO, hm', Hd, Hc⟩ := hrel
        have hsz := hO.size
        by_cases hlt : k < zs.length
        · obtain ⟨b, off, rfl, hcx⟩ := rowI_cell hr hO.below hlt
          have hn := hw _ (List.getElem_mem hlt)
          have hkl : (k : Int) < zs.length := by omega
          have c1 := mark_any B' m' hm'.out zs[k] hn
          have q0 : wr.cell? ⟨X, 0, none⟩ = some (.int .i64 B') := hO.row 0 _ rfl
          have q1 : wr.cell? ⟨X, 1, none⟩ = some (.int .u64 (m' : Int)) := hO.row 1 _ rfl
          by_cases he : askW B' m' 64 zs[k] = 0
          · have eB : markB B' m' zs[k] = setB B' (mkM B' m' zs[k]) := by unfold markB; rw [if_pos he]
            have eM : markM B' m' zs[k] = setM (mkM B' m' zs[k]) := by unfold markM; rw [if_pos he]
            have hm2 := markM_lt (B := B') hm'.out zs[k]
            have e1 := done_old he
            have e2 : doneW (markB B' m' zs[k]) (markM B' m' zs[k]) zs[k] = true := by rw [eB, eM, done_new hm'.out he]; simp
            have e3 : goodW (markB B' m' zs[k]) (markM B' m' zs[k]) = true := by rw [eB, eM]; exact mark_good hm'.out he
            have e4 : askW (markB B' m' zs[k]) (markM B' m' zs[k]) 64 zs[k] = 90 := by rw [eB, eM]; exact ask_again hm'.out he
            have Hd2 : Hid (doneW (markB B' m' zs[k]) (markM B' m' zs[k]) num = (d || decide (zs[k] = num))) := hide (by rw [eB, eM, done_new hm'.out he, Hd.out])
            have Hc2 : Hid (countW (markB B' m' zs[k]) (markM B' m' zs[k]) = countW B m + ((n + 1 : Nat) : Int)) := hide (by rw [eB, eM, mark_count hm'.out he, Hc.out]; omega)
            have c2 := done_any B' m' hm'.out zs[k] hn
            have c3 := done_any (markB B' m' zs[k]) (markM B' m' zs[k]) hm2 zs[k] hn
            have c4 := good_any (markB B' m' zs[k]) (markM B' m' zs[k]) hm2
            have c5 := mark_any (markB B' m' zs[k]) (markM B' m' zs[k]) hm2 zs[k] hn
            rw [e4] at c5
            rw [e3] at c4
            rw [e2] at c3
            rw [e1] at c2
            rw [he] at c1
            have Hm2 := hide hm2
            clear e1 e2 e3 e4 eB eM he hm2
            generalize zs[k] = x at *
            generalize markB B' m' x = B2 at *
            generalize markM B' m' x = m2 at *
            obtain ⟨B3, hB3⟩ : ∃ B3, Hid (markB B2 m2 x = B3) := ⟨_, rfl⟩
            obtain ⟨m3, hm3⟩ : ∃ m3, Hid (markM B2 m2 x = m3) := ⟨_, rfl⟩
            rw [hB3.out, hm3.out] at c5
            clear hB3 hm3
            go_wp2_with fail
            refine (c1 _).mono ?_
            rintro e w3 ⟨rfl, hb3⟩
            clear c1 hcx q0 q1
            have hO3 := hO.on hb3
            have hs3 := hO3.size
            have hO4 := hO3.on ((Below.refl _ _).alloc (Nat.le_refl _) (.cells #[.int .i64 B2, .int .u64 (m2 : Int)] 24))
            have hV4 := range_new w3 #[.int .i64 B2, .int .u64 (m2 : Int)] 24
            have hsv : w3.heap.size < (w3.alloc (.cells #[.int .i64 B2, .int .u64 (m2 : Int)] 24)).heap.size := by rw [World.size_alloc]; omega
            obtain ⟨V, hV⟩ : ∃ V, w3.heap.size = V := ⟨_, rfl⟩
            obtain ⟨w4, hw4⟩ : ∃ w4, w3.alloc (.cells #[.int .i64 B2, .int .u64 (m2 : Int)] 24) = w4 := ⟨_, rfl⟩
            rw [hw4, hV] at hV4
            rw [hw4] at hO4
            rw [hw4, hV] at hsv
            have hXV : X < V := by omega
            have q0 : w4.cell? ⟨X, 0, none⟩ = some (.int .i64 B') := hO4.row 0 _ rfl
            have q1 : w4.cell? ⟨X, 1, none⟩ = some (.int .u64 (m' : Int)) := hO4.row 1 _ rfl
            go_wp2_with fail
            refine (c2 _).mono ?_
            rintro e w5 ⟨rfl, hb5⟩
            clear c2 q0 q1 hw4 hV hO3
            have hO5 := hO4.on hb5
            have hV5 := range_below hV4 hb5 hsv
            have hs5 : V < w5.heap.size := by have := hb5.size; omega
            have q0 : w5.cell? ⟨V, 0, none⟩ = some (.int .i64 B2) := hV5 0 _ rfl
            have q1 : w5.cell? ⟨V, 1, none⟩ = some (.int .u64 (m2 : Int)) := hV5 1 _ rfl
            go_wp2_with fail
            refine (c3 _).mono ?_
            rintro e w6 ⟨rfl, hb6⟩
            clear c3 q0 q1 hO4 hV4 hb5
            have hO6 := hO5.on hb6
            have hV6 := range_below hV5 hb6 hs5
            have hs6 : V < w6.heap.size := by have := hb6.size; omega
            have q0 : w6.cell? ⟨V, 0, none⟩ = some (.int .i64 B2) := hV6 0 _ rfl
            have q1 : w6.cell? ⟨V, 1, none⟩ = some (.int .u64 (m2 : Int)) := hV6 1 _ rfl
            go_wp2_with fail
            refine (c4 _).mono ?_
            rintro e w7 ⟨rfl, hb7⟩
            clear c4 q0 q1 hO5 hV5 hb6
            have hO7 := hO6.on hb7
            have hV7 := range_below hV6 hb7 hs6
            have hs7 : V < w7.heap.size := by have := hb7.size; omega
            have q0 : w7.cell? ⟨V, 0, none⟩ = some (.int .i64 B2) := hV7 0 _ rfl
            have q1 : w7.cell? ⟨V, 1, none⟩ = some (.int .u64 (m2 : Int)) := hV7 1 _ rfl
            go_wp2_with fail
            refine (c5 _).mono ?_
            rintro e w8 ⟨rfl, hb8⟩
            clear c5 q0 q1 hO6 hV6 hb7
            have bN : Below w8.heap.size w8 (w8.alloc (.cells #[.int .i64 B3, .int .u64 (m3 : Int)] 24)) := (Below.refl _ _).alloc (Nat.le_refl _) _
            have hs8 : V < w8.heap.size := by have := hb8.size; omega
            have hO8 := (hO7.on hb8).on bN
            have hV8 := range_below (range_below hV7 hb8 hs7) bN hs8
            obtain ⟨wB, hwB⟩ : ∃ wB, w8.alloc (.cells #[.int .i64 B3, .int .u64 (m3 : Int)] 24) = wB := ⟨_, rfl⟩
            rw [hwB] at hO8 hV8
            have q0 : wB.cell? ⟨V, 0, none⟩ = some (.int .i64 B2) := hV8 0 _ rfl
            have q1 : wB.cell? ⟨V, 1, none⟩ = some (.int .u64 (m2 : Int)) := hV8 1 _ rfl
            have hO9 := hO8.set B2 (m2 : Int)
            have hbx := hO8.box
            clear hO7 hV7 hb8 bN hO8 hV8
            cases d with
            | true =>
              go_wp2_with (refine wpList_store_mid (op := ⟨none, .store 24 (.tmp 7) (.tmp 62), _, _, _, none⟩) rfl 24 _ _ rfl _ _ #[.int .i64 B2, .int .u64 (m2 : Int)] rfl rfl hbx infoW (two_cells _ _) ?_)
              go_roundw
              case rel => exact ⟨k + 1, n + 1, B2, m2, true, by omega, by omega, by go_num, by go_num, rfl, hO9, Hm2, Hd2, Hc2⟩
              case measure => simp [intOf]; omega
            | false =>
              go_wp2_with (refine wpList_store_mid (op := ⟨none, .store 24 (.tmp 7) (.tmp 62), _, _, _, none⟩) rfl 24 _ _ rfl _ _ #[.int .i64 B2, .int .u64 (m2 : Int)] rfl rfl hbx infoW (two_cells _ _) ?_)
              go_roundw
              case rel => exact ⟨k + 1, n + 1, B2, m2, decide (x = num), by omega, by omega, by go_num, by go_num, rfl, hO9, Hm2, hide (by rw [Hd2.out, Bool.false_or]), Hc2⟩
              case measure => simp [intOf]; omega
          · generalize zs[k] = x at *
            generalize markB B' m' x = B2 at *
            generalize markM B' m' x = m2 at *
            generalize askW B' m' 64 x = er at *
            go_wp2_with fail
            refine (c1 _).mono ?_
            rintro e w3 ⟨rfl, hb3⟩
            clear c1 hcx q0 q1
            have hO4 := (hO.on hb3).on ((Below.refl _ _).alloc (Nat.le_refl _) (.cells #[.int .i64 B2, .int .u64 (m2 : Int)] 24))
            go_wp2_with fail
            go_roundw
            case rel => exact ⟨k + 1, n, B', m', d, by omega, by omega, by go_num, rfl, rfl, hO4, hm', Hd, Hc⟩
            case measure => simp [intOf]; omega
        · obtain rfl : k = zs.length := by omega
          have cd := done_any B' m' hm'.out num hnum
          have cc := count_any B' m' hm'.out
          have co := count_any B m hm
          have hcb' := count_bound B' m'
          rw [Hd.out] at cd
          rw [Hc.out] at cc hcb'
          generalize countW B m = C at *
          clear hm Hd Hc hm' hr hw
          go_wp2_with fail
          obtain ⟨wC, hwC⟩ : ∃ wC, wr.drew = wC := ⟨_, rfl⟩
          have hSS : wC.rangeAt X 0 (winC B' (m' : Int)) ∧ wC.rangeAt w.heap.size 0 (winC B (m : Int)) ∧ Below w.heap.size w wC ∧ X < wC.heap.size := by rw [← hwC]; exact ⟨hO.row, hO.own, hO.below.drew, hsz.2⟩
          refine hs_begin (S := (fun W => W.rangeAt X 0 (winC B' (m' : Int)) ∧ W.rangeAt w.heap.size 0 (winC B (m : Int)) ∧ Below w.heap.size w W ∧ X < W.heap.size)) 22 rfl (by kernel_rfl) ?_
          rw [hwC]
          clear hwC hO
          have hS : (fun W => W.rangeAt X 0 (winC B' (m' : Int)) ∧ W.rangeAt w.heap.size 0 (winC B (m : Int)) ∧ Below w.heap.size w W ∧ X < W.heap.size) wC := hSS
          clear hSS
          refine hs_take (i := 0) (d := some 70) (v := winV B' (m' : Int)) rfl (by kernel_rfl) (by kernel_rfl) (by kernel_rfl) (by rfl) (fun w' hw => exec_load rfl rfl (win_load hw.1)) hS rfl ?_
          simp only [Act.put, List.setIfInBounds_toArray, List.set_cons_zero, List.set_cons_succ]
          refine hs_take (i := 1) (d := some 71) (v := ?_) rfl (by kernel_rfl) (by kernel_rfl) (by kernel_rfl) (by rfl) ?_ hS rfl ?_
          rotate_left
          · intro w' hw
            go_simp
            try with_reducible rfl
          simp only [Act.put, List.setIfInBounds_toArray, List.set_cons_zero, List.set_cons_succ]
          refine hs_take (i := 3) (d := some 73) (v := ?_) rfl (by kernel_rfl) (by kernel_rfl) (by kernel_rfl) (by rfl) ?_ hS rfl ?_
          rotate_left
          · intro w' hw
            go_simp
            try with_reducible rfl
          simp only [Act.put, List.setIfInBounds_toArray, List.set_cons_zero, List.set_cons_succ]
          refine hs_call (i := 2) (d := some 72) rfl (by kernel_rfl) (by rfl) (by go_simp; first | done | exact ⟨rfl, rfl⟩ | with_reducible rfl) rfl ?_
          refine (cd wC).mono ?_
          rintro e' wD ⟨rfl, hx⟩
          have hS : (fun W => W.rangeAt X 0 (winC B' (m' : Int)) ∧ W.rangeAt w.heap.size 0 (winC B (m : Int)) ∧ Below w.heap.size w W ∧ X < W.heap.size) wD := ⟨range_below hS.1 hx hS.2.2.2, range_below hS.2.1 hx (by have := hS.2.2.2; omega), hS.2.2.1.trans (hx.mono hS.2.2.1.size), by have := hx.size; have := hS.2.2.2; omega⟩
          refine ⟨_, rfl, hS, ?_⟩
          simp only [Act.put, List.setIfInBounds_toArray, List.set_cons_zero, List.set_cons_succ]
          clear hx
          refine hs_take (i := 4) (d := some 74) (v := .bool true) rfl (by kernel_rfl) (by kernel_rfl) (by kernel_rfl) (by rfl) (fun w' hw => by go_simp; first | done | simp) hS rfl ?_
          simp only [Act.put, List.setIfInBounds_toArray, List.set_cons_zero, List.set_cons_succ]
          refine hs_take (i := 5) (d := some 75) (v := ?_) rfl (by kernel_rfl) (by kernel_rfl) (by kernel_rfl) (by rfl) ?_ hS rfl ?_
          rotate_left
          · intro w' hw
            go_simp
            try with_reducible rfl
          simp only [Act.put, List.setIfInBounds_toArray, List.set_cons_zero, List.set_cons_succ]
          refine hs_take (i := 6) (d := some 76) (v := ?_) rfl (by kernel_rfl) (by kernel_rfl) (by kernel_rfl) (by rfl) ?_ hS rfl ?_
          rotate_left
          · intro w' hw
            go_simp
            try with_reducible rfl
          simp only [Act.put, List.setIfInBounds_toArray, List.set_cons_zero, List.set_cons_succ]
          by_cases hn0 : n = 0
          · subst hn0
            refine hs_take (i := 7) (d := some 77) (v := .bool true) rfl (by kernel_rfl) (by kernel_rfl) (by kernel_rfl) (by rfl) (fun w' hw => by go_simp; first | done | simp | omega) hS rfl ?_
            simp only [Act.put, List.setIfInBounds_toArray, List.set_cons_zero, List.set_cons_succ]
            refine hs_take (i := 8) (d := some 78) (v := ?_) rfl (by kernel_rfl) (by kernel_rfl) (by kernel_rfl) (by rfl) ?_ hS rfl ?_
            rotate_left
            · intro w' hw
              go_simp
              try with_reducible rfl
            simp only [Act.put, List.setIfInBounds_toArray, List.set_cons_zero, List.set_cons_succ]
            refine hs_skip (i := 9) (d := some 79) rfl (by kernel_rfl) (by kernel_rfl) (by kernel_rfl) (by rfl) hS rfl ?_
            simp only [Act.put, List.setIfInBounds_toArray, List.set_cons_zero, List.set_cons_succ]
            refine hs_skip (i := 10) (d := some 80) rfl (by kernel_rfl) (by kernel_rfl) (by kernel_rfl) (by rfl) hS rfl ?_
            simp only [Act.put, List.setIfInBounds_toArray, List.set_cons_zero, List.set_cons_succ]
            refine hs_skip (i := 11) (d := some 81) rfl (by kernel_rfl) (by kernel_rfl) (by kernel_rfl) (by rfl) hS rfl ?_
            simp only [Act.put, List.setIfInBounds_toArray, List.set_cons_zero, List.set_cons_succ]
            refine hs_skip (i := 12) (d := some 82) rfl (by kernel_rfl) (by kernel_rfl) (by kernel_rfl) (by rfl) hS rfl ?_
            simp only [Act.put, List.setIfInBounds_toArray, List.set_cons_zero, List.set_cons_succ]
            refine hs_skip (i := 13) (d := some 83) rfl (by kernel_rfl) (by kernel_rfl) (by kernel_rfl) (by rfl) hS rfl ?_
            simp only [Act.put, List.setIfInBounds_toArray, List.set_cons_zero, List.set_cons_succ]
            refine hs_skip (i := 14) (d := some 84) rfl (by kernel_rfl) (by kernel_rfl) (by kernel_rfl) (by rfl) hS rfl ?_
            simp only [Act.put, List.setIfInBounds_toArray, List.set_cons_zero, List.set_cons_succ]
            refine hs_skip (i := 15) (d := some 85) rfl (by kernel_rfl) (by kernel_rfl) (by kernel_rfl) (by rfl) hS rfl ?_
            simp only [Act.put, List.setIfInBounds_toArray, List.set_cons_zero, List.set_cons_succ]
            refine hs_take (i := 16) (d := some 86) (v := ?_) rfl (by kernel_rfl) (by kernel_rfl) (by kernel_rfl) (by rfl) ?_ hS rfl ?_
            rotate_left
            · intro w' hw
              go_simp
              try with_reducible rfl
            simp only [Act.put, List.setIfInBounds_toArray, List.set_cons_zero, List.set_cons_succ]
            refine hs_take (i := 17) (d := some 87) (v := ?_) rfl (by kernel_rfl) (by kernel_rfl) (by kernel_rfl) (by rfl) ?_ hS rfl ?_
            rotate_left
            · intro w' hw
              go_simp
              try with_reducible rfl
            simp only [Act.put, List.setIfInBounds_toArray, List.set_cons_zero, List.set_cons_succ]
            refine hs_take (i := 18) (d := some 88) (v := ?_) rfl (by kernel_rfl) (by kernel_rfl) (by kernel_rfl) (by rfl) ?_ hS rfl ?_
            rotate_left
            · intro w' hw
              go_simp
              try with_reducible rfl
            simp only [Act.put, List.setIfInBounds_toArray, List.set_cons_zero, List.set_cons_succ]
            refine hs_call (i := 19) (d := some 89) rfl (by kernel_rfl) (by rfl) (by go_simp; first | done | exact ⟨rfl, rfl⟩ | with_reducible rfl) rfl ?_
            refine (lives_any wD).mono ?_
            rintro e' wF ⟨rfl, hx⟩
            have hS : (fun W => W.rangeAt X 0 (winC B' (m' : Int)) ∧ W.rangeAt w.heap.size 0 (winC B (m : Int)) ∧ Below w.heap.size w W ∧ X < W.heap.size) wF := ⟨range_below hS.1 hx hS.2.2.2, range_below hS.2.1 hx (by have := hS.2.2.2; omega), hS.2.2.1.trans (hx.mono hS.2.2.1.size), by have := hx.size; have := hS.2.2.2; omega⟩
            refine ⟨_, rfl, hS, ?_⟩
            simp only [Act.put, List.setIfInBounds_toArray, List.set_cons_zero, List.set_cons_succ]
            refine hs_take (i := 20) (d := some 90) (v := ?_) rfl (by kernel_rfl) (by kernel_rfl) (by kernel_rfl) (by rfl) ?_ hS rfl ?_
            rotate_left
            · intro w' hw
              go_simp
              try with_reducible rfl
            simp only [Act.put, List.setIfInBounds_toArray, List.set_cons_zero, List.set_cons_succ]
            refine hs_take (i := 21) (d := some 6) (v := ?_) rfl (by kernel_rfl) (by kernel_rfl) (by kernel_rfl) (by rfl) ?_ hS rfl ?_
            rotate_left
            · intro w' hw
              go_simp
              try with_reducible rfl
            simp only [Act.put, List.setIfInBounds_toArray, List.set_cons_zero, List.set_cons_succ]
            refine hs_done (by kernel_rfl) ?_
            go_wp2_with fail
            go_ret
            exact ⟨rfl, hS.2.2.1⟩
          · have hn1 : ¬ ((n : Int) = 0) := by omega
            refine hs_take (i := 7) (d := some 77) (v := .bool false) rfl (by kernel_rfl) (by kernel_rfl) (by kernel_rfl) (by rfl) (fun w' hw => by go_simp; first | done | omega | (simp; omega)) hS rfl ?_
            simp only [Act.put, List.setIfInBounds_toArray, List.set_cons_zero, List.set_cons_succ]
            refine hs_take (i := 8) (d := some 78) (v := ?_) rfl (by kernel_rfl) (by kernel_rfl) (by kernel_rfl) (by rfl) ?_ hS rfl ?_
            rotate_left
            · intro w' hw
              go_simp
              try with_reducible rfl
            simp only [Act.put, List.setIfInBounds_toArray, List.set_cons_zero, List.set_cons_succ]
            refine hs_take (i := 9) (d := some 79) (v := winV B' (m' : Int)) rfl (by kernel_rfl) (by kernel_rfl) (by kernel_rfl) (by rfl) (fun w' hw => exec_load rfl rfl (win_load hw.1)) hS rfl ?_
            simp only [Act.put, List.setIfInBounds_toArray, List.set_cons_zero, List.set_cons_succ]
            refine hs_take (i := 11) (d := some 81) (v := winV B (m : Int)) rfl (by kernel_rfl) (by kernel_rfl) (by kernel_rfl) (by rfl) (fun w' hw => exec_load rfl rfl (win_load hw.2.1)) hS rfl ?_
            simp only [Act.put, List.setIfInBounds_toArray, List.set_cons_zero, List.set_cons_succ]
            refine hs_take (i := 13) (d := some 83) (v := ?_) rfl (by kernel_rfl) (by kernel_rfl) (by kernel_rfl) (by rfl) ?_ hS rfl ?_
            rotate_left
            · intro w' hw
              go_simp
              try with_reducible rfl
            simp only [Act.put, List.setIfInBounds_toArray, List.set_cons_zero, List.set_cons_succ]
            refine hs_call (i := 10) (d := some 80) rfl (by kernel_rfl) (by rfl) (by go_simp; first | done | exact ⟨rfl, rfl⟩ | with_reducible rfl) rfl ?_
            refine (cc wD).mono ?_
            rintro e' wE ⟨rfl, hx⟩
            have hS : (fun W => W.rangeAt X 0 (winC B' (m' : Int)) ∧ W.rangeAt w.heap.size 0 (winC B (m : Int)) ∧ Below w.heap.size w W ∧ X < W.heap.size) wE := ⟨range_below hS.1 hx hS.2.2.2, range_below hS.2.1 hx (by have := hS.2.2.2; omega), hS.2.2.1.trans (hx.mono hS.2.2.1.size), by have := hx.size; have := hS.2.2.2; omega⟩
            refine ⟨_, rfl, hS, ?_⟩
            simp only [Act.put, List.setIfInBounds_toArray, List.set_cons_zero, List.set_cons_succ]
            clear hx
            refine hs_call (i := 12) (d := some 82) rfl (by kernel_rfl) (by rfl) (by go_simp; first | done | exact ⟨rfl, rfl⟩ | with_reducible rfl) rfl ?_
            refine (co wE).mono ?_
            rintro e' wD2 ⟨rfl, hx⟩
            have hS : (fun W => W.rangeAt X 0 (winC B' (m' : Int)) ∧ W.rangeAt w.heap.size 0 (winC B (m : Int)) ∧ Below w.heap.size w W ∧ X < W.heap.size) wD2 := ⟨range_below hS.1 hx hS.2.2.2, range_below hS.2.1 hx (by have := hS.2.2.2; omega), hS.2.2.1.trans (hx.mono hS.2.2.1.size), by have := hx.size; have := hS.2.2.2; omega⟩
            refine ⟨_, rfl, hS, ?_⟩
            simp only [Act.put, List.setIfInBounds_toArray, List.set_cons_zero, List.set_cons_succ]
            clear hx
            refine hs_take (i := 14) (d := some 84) (v := .int .i64 (C + (n : Int))) rfl (by kernel_rfl) (by kernel_rfl) (by kernel_rfl) (by rfl) (fun w' hw => by go_simp; exact wrap_id _ (by omega) (by omega)) hS rfl ?_
            simp only [Act.put, List.setIfInBounds_toArray, List.set_cons_zero, List.set_cons_succ]
            refine hs_take (i := 15) (d := some 85) (v := .bool true) rfl (by kernel_rfl) (by kernel_rfl) (by kernel_rfl) (by rfl) (fun w' hw => by go_simp; first | done | simp) hS rfl ?_
            simp only [Act.put, List.setIfInBounds_toArray, List.set_cons_zero, List.set_cons_succ]
            refine hs_take (i := 16) (d := some 86) (v := ?_) rfl (by kernel_rfl) (by kernel_rfl) (by kernel_rfl) (by rfl) ?_ hS rfl ?_
            rotate_left
            · intro w' hw
              go_simp
              try with_reducible rfl
            simp only [Act.put, List.setIfInBounds_toArray, List.set_cons_zero, List.set_cons_succ]
            refine hs_take (i := 17) (d := some 87) (v := ?_) rfl (by kernel_rfl) (by kernel_rfl) (by kernel_rfl) (by rfl) ?_ hS rfl ?_
            rotate_left
            · intro w' hw
              go_simp
              try with_reducible rfl
            simp only [Act.put, List.setIfInBounds_toArray, List.set_cons_zero, List.set_cons_succ]
            refine hs_take (i := 18) (d := some 88) (v := ?_) rfl (by kernel_rfl) (by kernel_rfl) (by kernel_rfl) (by rfl) ?_ hS rfl ?_
            rotate_left
            · intro w' hw
              go_simp
              try with_reducible rfl
            simp only [Act.put, List.setIfInBounds_toArray, List.set_cons_zero, List.set_cons_succ]
            refine hs_call (i := 19) (d := some 89) rfl (by kernel_rfl) (by rfl) (by go_simp; first | done | exact ⟨rfl, rfl⟩ | with_reducible rfl) rfl ?_
            refine (lives_any wD2).mono ?_
            rintro e' wF ⟨rfl, hx⟩
            have hS : (fun W => W.rangeAt X 0 (winC B' (m' : Int)) ∧ W.rangeAt w.heap.size 0 (winC B (m : Int)) ∧ Below w.heap.size w W ∧ X < W.heap.size) wF := ⟨range_below hS.1 hx hS.2.2.2, range_below hS.2.1 hx (by have := hS.2.2.2; omega), hS.2.2.1.trans (hx.mono hS.2.2.1.size), by have := hx.size; have := hS.2.2.2; omega⟩
            refine ⟨_, rfl, hS, ?_⟩
            simp only [Act.put, List.setIfInBounds_toArray, List.set_cons_zero, List.set_cons_succ]
            refine hs_take (i := 20) (d := some 90) (v := ?_) rfl (by kernel_rfl) (by kernel_rfl) (by kernel_rfl) (by rfl) ?_ hS rfl ?_
            rotate_left
            · intro w' hw
              go_simp
              try with_reducible rfl
            simp only [Act.put, List.setIfInBounds_toArray, List.set_cons_zero, List.set_cons_succ]
            refine hs_take (i := 21) (d := some 6) (v := ?_) rfl (by kernel_rfl) (by kernel_rfl) (by kernel_rfl) (by rfl) ?_ hS rfl ?_
            rotate_left
            · intro w' hw
              go_simp
              try with_reducible rfl
            simp only [Act.put, List.setIfInBounds_toArray, List.set_cons_zero, List.set_cons_succ]
            refine hs_done (by kernel_rfl) ?_
            go_wp2_with fail
            go_ret
            exact ⟨rfl, hS.2.2.1⟩
    · have bA : Below w8.heap.size w8 (w8.alloc (.cells #[.int .i64 0, .int .u64 0] 24)) := (Below.refl _ _).alloc (Nat.le_refl _) _
      have hTA := there_new w8 #[.int .i64 0, .int .u64 0] 24
      have hsA : (w8.alloc (.cells #[.int .i64 0, .int .u64 0] 24)).heap.size = w8.heap.size + 1 := World.size_alloc _ _
      have hS : (fun W => W.rangeAt w.heap.size 0 (winC B (m : Int))) (w8.alloc (.cells #[.int .i64 0, .int .u64 0] 24)) := range_below hS bA hz8
      refine st_run (i := 4) (d := some 7) (v := .pointer (some ⟨w8.heap.size, 0, none⟩)) (w' := (w8.alloc (.cells #[.int .i64 0, .int .u64 0] 24))) rfl (by rfl) (exec_alloc_win w8) rfl hS ?_
      simp only [Act.put, List.setIfInBounds_toArray, List.set_cons_zero, List.set_cons_succ]
      obtain ⟨w9, hw9⟩ : ∃ w9, w8.alloc (.cells #[.int .i64 0, .int .u64 0] 24) = w9 := ⟨_, rfl⟩
      rw [hw9] at hS bA hTA hsA ⊢
      clear hw9
      have hB9 := hB8.trans (bA.mono hB8.size)
      obtain ⟨X, hX⟩ : ∃ X, w8.heap.size = X := ⟨_, rfl⟩
      rw [hX] at hTA hsA hz8 ⊢
      clear hX bA hB8
      have hz9 := hz8
      clear hz8
      refine hs_call (i := 3) (d := some 23) rfl (by kernel_rfl) (by rfl) (by go_simp; first | done | exact ⟨rfl, rfl⟩ | with_reducible rfl) rfl ?_
      refine (c1 w9).mono ?_
      rintro e' wA ⟨rfl, hwA⟩
      have hS : (fun W => W.rangeAt w.heap.size 0 (winC B (m : Int))) wA := range_below hS hwA (by omega)
      refine ⟨_, rfl, hS, ?_⟩
      simp only [Act.put, List.setIfInBounds_toArray, List.set_cons_zero, List.set_cons_succ]
      have hBA := hB9.trans (hwA.mono hB9.size)
      have hTA := there_below hTA hwA (by omega)
      have hsX : X < wA.heap.size := by have := hwA.size; omega
      clear c1 hwA hB9 hsA
      have hOn : On w B (m : Int) B (m : Int) X (wA.setCells X 0 (winC B (m : Int))) := ⟨win_apart hS (by omega), win_set hTA, there_sets hTA, below_sets (by omega) _ 0 _ hBA, ⟨hz9, by rw [size_sets]; omega⟩⟩
      refine hs_store (i := 5) (w' := wA.setCells X 0 (winC B (m : Int))) rfl (by kernel_rfl) (by rfl) (exec_store rfl rfl rfl (win_store hTA)) rfl hOn.own ?_
      have hS := hOn.own
      refine hs_take (i := 6) (d := some 8) (v := ?_) rfl (by kernel_rfl) (by kernel_rfl) (by kernel_rfl) (by rfl) ?_ hS rfl ?_
      rotate_left
      · intro w' hw
        go_simp
        try with_reducible rfl
      simp only [Act.put, List.setIfInBounds_toArray, List.set_cons_zero, List.set_cons_succ]
      refine hs_done (by kernel_rfl) ?_
      obtain ⟨w2, hw2⟩ : ∃ w2, wA.setCells X 0 (winC B (m : Int)) = w2 := ⟨_, rfl⟩
      rw [hw2] at hOn ⊢
      clear hw2 hS hBA hTA
      go_wp2_with fail
      go_loopw [8, 9, 26] (fun dv nv kv wr => ∃ (k n : Nat) (B' : Int) (m' : Nat) (d : Bool), k ≤ zs.length ∧ n ≤ k ∧ kv = .int .i64 (k : Int) ∧ nv = .int .i64 (n : Int) ∧ dv = .bool d ∧ On w B (m : Int) B' (m' : Int) X wr ∧ Hid (m' < 2 ^ 64) ∧ Hid (doneW B' m' num = d) ∧ Hid (countW B' m' = countW B m + (n : Int))) (fun _ _ kv _ => zs.length - (intOf kv).toNat)
      case atStart => exact ⟨0, 0, B, m, D, Nat.zero_le _, Nat.zero_le _, rfl, rfl, rfl, hOn, hide hm, hD, hide (by simp)⟩
      case round =>
        obtain ⟨k, n, B', m', d, hk, hnk, rfl, rfl, rfl, hO, hm', Hd, Hc⟩ := hrel
        have hsz := hO.size
        by_cases hlt : k < zs.length
        · obtain ⟨b, off, rfl, hcx⟩ := rowI_cell hr hO.below hlt
          have hn := hw _ (List.getElem_mem hlt)
          have hkl : (k : Int) < zs.length := by omega
          have c1 := mark_any B' m' hm'.out zs[k] hn
          have q0 : wr.cell? ⟨X, 0, none⟩ = some (.int .i64 B') := hO.row 0 _ rfl
          have q1 : wr.cell? ⟨X, 1, none⟩ = some (.int .u64 (m' : Int)) := hO.row 1 _ rfl
          by_cases he : askW B' m' 64 zs[k] = 0
          · have eB : markB B' m' zs[k] = setB B' (mkM B' m' zs[k]) := by unfold markB; rw [if_pos he]
            have eM : markM B' m' zs[k] = setM (mkM B' m' zs[k]) := by unfold markM; rw [if_pos he]
            have hm2 := markM_lt (B := B') hm'.out zs[k]
            have e1 := done_old he
            have e2 : doneW (markB B' m' zs[k]) (markM B' m' zs[k]) zs[k] = true := by rw [eB, eM, done_new hm'.out he]; simp
            have e3 : goodW (markB B' m' zs[k]) (markM B' m' zs[k]) = true := by rw [eB, eM]; exact mark_good hm'.out he
            have e4 : askW (markB B' m' zs[k]) (markM B' m' zs[k]) 64 zs[k] = 90 := by rw [eB, eM]; exact ask_again hm'.out he
            have Hd2 : Hid (doneW (markB B' m' zs[k]) (markM B' m' zs[k]) num = (d || decide (zs[k] = num))) := hide (by rw [eB, eM, done_new hm'.out he, Hd.out])
            have Hc2 : Hid (countW (markB B' m' zs[k]) (markM B' m' zs[k]) = countW B m + ((n + 1 : Nat) : Int)) := hide (by rw [eB, eM, mark_count hm'.out he, Hc.out]; omega)
            have c2 := done_any B' m' hm'.out zs[k] hn
            have c3 := done_any (markB B' m' zs[k]) (markM B' m' zs[k]) hm2 zs[k] hn
            have c4 := good_any (markB B' m' zs[k]) (markM B' m' zs[k]) hm2
            have c5 := mark_any (markB B' m' zs[k]) (markM B' m' zs[k]) hm2 zs[k] hn
            rw [e4] at c5
            rw [e3] at c4
            rw [e2] at c3
            rw [e1] at c2
            rw [he] at c1
            have Hm2 := hide hm2
            clear e1 e2 e3 e4 eB eM he hm2
            generalize zs[k] = x at *
            generalize markB B' m' x = B2 at *
            generalize markM B' m' x = m2 at *
            obtain ⟨B3, hB3⟩ : ∃ B3, Hid (markB B2 m2 x = B3) := ⟨_, rfl⟩
            obtain ⟨m3, hm3⟩ : ∃ m3, Hid (markM B2 m2 x = m3) := ⟨_, rfl⟩
            rw [hB3.out, hm3.out] at c5
            clear hB3 hm3
            go_wp2_with fail
            refine (c1 _).mono ?_
            rintro e w3 ⟨rfl, hb3⟩
            clear c1 hcx q0 q1
            have hO3 := hO.on hb3
            have hs3 := hO3.size
            have hO4 := hO3.on ((Below.refl _ _).alloc (Nat.le_refl _) (.cells #[.int .i64 B2, .int .u64 (m2 : Int)] 24))
            have hV4 := range_new w3 #[.int .i64 B2, .int .u64 (m2 : Int)] 24
            have hsv : w3.heap.size < (w3.alloc (.cells #[.int .i64 B2, .int .u64 (m2 : Int)] 24)).heap.size := by rw [World.size_alloc]; omega
            obtain ⟨V, hV⟩ : ∃ V, w3.heap.size = V := ⟨_, rfl⟩
            obtain ⟨w4, hw4⟩ : ∃ w4, w3.alloc (.cells #[.int .i64 B2, .int .u64 (m2 : Int)] 24) = w4 := ⟨_, rfl⟩
            rw [hw4, hV] at hV4
            rw [hw4] at hO4
            rw [hw4, hV] at hsv
            have hXV : X < V := by omega
            have q0 : w4.cell? ⟨X, 0, none⟩ = some (.int .i64 B') := hO4.row 0 _ rfl
            have q1 : w4.cell? ⟨X, 1, none⟩ = some (.int .u64 (m' : Int)) := hO4.row 1 _ rfl
            go_wp2_with fail
            refine (c2 _).mono ?_
            rintro e w5 ⟨rfl, hb5⟩
            clear c2 q0 q1 hw4 hV hO3
            have hO5 := hO4.on hb5
            have hV5 := range_below hV4 hb5 hsv
            have hs5 : V < w5.heap.size := by have := hb5.size; omega
            have q0 : w5.cell? ⟨V, 0, none⟩ = some (.int .i64 B2) := hV5 0 _ rfl
            have q1 : w5.cell? ⟨V, 1, none⟩ = some (.int .u64 (m2 : Int)) := hV5 1 _ rfl
            go_wp2_with fail
            refine (c3 _).mono ?_
            rintro e w6 ⟨rfl, hb6⟩
            clear c3 q0 q1 hO4 hV4 hb5
            have hO6 := hO5.on hb6
            have hV6 := range_below hV5 hb6 hs5
            have hs6 : V < w6.heap.size := by have := hb6.size; omega
            have q0 : w6.cell? ⟨V, 0, none⟩ = some (.int .i64 B2) := hV6 0 _ rfl
            have q1 : w6.cell? ⟨V, 1, none⟩ = some (.int .u64 (m2 : Int)) := hV6 1 _ rfl
            go_wp2_with fail
            refine (c4 _).mono ?_
            rintro e w7 ⟨rfl, hb7⟩
            clear c4 q0 q1 hO5 hV5 hb6
            have hO7 := hO6.on hb7
            have hV7 := range_below hV6 hb7 hs6
            have hs7 : V < w7.heap.size := by have := hb7.size; omega
            have q0 : w7.cell? ⟨V, 0, none⟩ = some (.int .i64 B2) := hV7 0 _ rfl
            have q1 : w7.cell? ⟨V, 1, none⟩ = some (.int .u64 (m2 : Int)) := hV7 1 _ rfl
            go_wp2_with fail
            refine (c5 _).mono ?_
            rintro e w8 ⟨rfl, hb8⟩
            clear c5 q0 q1 hO6 hV6 hb7
            have bN : Below w8.heap.size w8 (w8.alloc (.cells #[.int .i64 B3, .int .u64 (m3 : Int)] 24)) := (Below.refl _ _).alloc (Nat.le_refl _) _
            have hs8 : V < w8.heap.size := by have := hb8.size; omega
            have hO8 := (hO7.on hb8).on bN
            have hV8 := range_below (range_below hV7 hb8 hs7) bN hs8
            obtain ⟨wB, hwB⟩ : ∃ wB, w8.alloc (.cells #[.int .i64 B3, .int .u64 (m3 : Int)] 24) = wB := ⟨_, rfl⟩
            rw [hwB] at hO8 hV8
            have q0 : wB.cell? ⟨V, 0, none⟩ = some (.int .i64 B2) := hV8 0 _ rfl
            have q1 : wB.cell? ⟨V, 1, none⟩ = some (.int .u64 (m2 : Int)) := hV8 1 _ rfl
            have hO9 := hO8.set B2 (m2 : Int)
            have hbx := hO8.box
            clear hO7 hV7 hb8 bN hO8 hV8
            cases d with
            | true =>
              go_wp2_with (refine wpList_store_mid (op := ⟨none, .store 24 (.tmp 7) (.tmp 62), _, _, _, none⟩) rfl 24 _ _ rfl _ _ #[.int .i64 B2, .int .u64 (m2 : Int)] rfl rfl hbx infoW (two_cells _ _) ?_)
              go_roundw
              case rel => exact ⟨k + 1, n + 1, B2, m2, true, by omega, by omega, by go_num, by go_num, rfl, hO9, Hm2, Hd2, Hc2⟩
              case measure => simp [intOf]; omega
            | false =>
              go_wp2_with (refine wpList_store_mid (op := ⟨none, .store 24 (.tmp 7) (.tmp 62), _, _, _, none⟩) rfl 24 _ _ rfl _ _ #[.int .i64 B2, .int .u64 (m2 : Int)] rfl rfl hbx infoW (two_cells _ _) ?_)
              go_roundw
              case rel => exact ⟨k + 1, n + 1, B2, m2, decide (x = num), by omega, by omega, by go_num, by go_num, rfl, hO9, Hm2, hide (by rw [Hd2.out, Bool.false_or]), Hc2⟩
              case measure => simp [intOf]; omega
          · generalize zs[k] = x at *
            generalize markB B' m' x = B2 at *
            generalize markM B' m' x = m2 at *
            generalize askW B' m' 64 x = er at *
            go_wp2_with fail
            refine (c1 _).mono ?_
            rintro e w3 ⟨rfl, hb3⟩
            clear c1 hcx q0 q1
            have hO4 := (hO.on hb3).on ((Below.refl _ _).alloc (Nat.le_refl _) (.cells #[.int .i64 B2, .int .u64 (m2 : Int)] 24))
            go_wp2_with fail
            go_roundw
            case rel => exact ⟨k + 1, n, B', m', d, by omega, by omega, by go_num, rfl, rfl, hO4, hm', Hd, Hc⟩
            case measure => simp [intOf]; omega
        · obtain rfl : k = zs.length := by omega
          have cd := done_any B' m' hm'.out num hnum
          have cc := count_any B' m' hm'.out
          have co := count_any B m hm
          have hcb' := count_bound B' m'
          rw [Hd.out] at cd
          rw [Hc.out] at cc hcb'
          generalize countW B m = C at *
          clear hm Hd Hc hm' hr hw
          go_wp2_with fail
          obtain ⟨wC, hwC⟩ : ∃ wC, wr.drew = wC := ⟨_, rfl⟩
          have hSS : wC.rangeAt X 0 (winC B' (m' : Int)) ∧ wC.rangeAt w.heap.size 0 (winC B (m : Int)) ∧ Below w.heap.size w wC ∧ X < wC.heap.size := by rw [← hwC]; exact ⟨hO.row, hO.own, hO.below.drew, hsz.2⟩
          refine hs_begin (S := (fun W => W.rangeAt X 0 (winC B' (m' : Int)) ∧ W.rangeAt w.heap.size 0 (winC B (m : Int)) ∧ Below w.heap.size w W ∧ X < W.heap.size)) 22 rfl (by kernel_rfl) ?_
          rw [hwC]
          clear hwC hO
          have hS : (fun W => W.rangeAt X 0 (winC B' (m' : Int)) ∧ W.rangeAt w.heap.size 0 (winC B (m : Int)) ∧ Below w.heap.size w W ∧ X < W.heap.size) wC := hSS
          clear hSS
          refine hs_take (i := 0) (d := some 70) (v := winV B' (m' : Int)) rfl (by kernel_rfl) (by kernel_rfl) (by kernel_rfl) (by rfl) (fun w' hw => exec_load rfl rfl (win_load hw.1)) hS rfl ?_
          simp only [Act.put, List.setIfInBounds_toArray, List.set_cons_zero, List.set_cons_succ]
          refine hs_take (i := 1) (d := some 71) (v := ?_) rfl (by kernel_rfl) (by kernel_rfl) (by kernel_rfl) (by rfl) ?_ hS rfl ?_
          rotate_left
          · intro w' hw
            go_simp
            try with_reducible rfl
          simp only [Act.put, List.setIfInBounds_toArray, List.set_cons_zero, List.set_cons_succ]
          refine hs_take (i := 3) (d := some 73) (v := ?_) rfl (by kernel_rfl) (by kernel_rfl) (by kernel_rfl) (by rfl) ?_ hS rfl ?_
          rotate_left
          · intro w' hw
            go_simp
            try with_reducible rfl
          simp only [Act.put, List.setIfInBounds_toArray, List.set_cons_zero, List.set_cons_succ]
          refine hs_call (i := 2) (d := some 72) rfl (by kernel_rfl) (by rfl) (by go_simp; first | done | exact ⟨rfl, rfl⟩ | with_reducible rfl) rfl ?_
          refine (cd wC).mono ?_
          rintro e' wD ⟨rfl, hx⟩
          have hS : (fun W => W.rangeAt X 0 (winC B' (m' : Int)) ∧ W.rangeAt w.heap.size 0 (winC B (m : Int)) ∧ Below w.heap.size w W ∧ X < W.heap.size) wD := ⟨range_below hS.1 hx hS.2.2.2, range_below hS.2.1 hx (by have := hS.2.2.2; omega), hS.2.2.1.trans (hx.mono hS.2.2.1.size), by have := hx.size; have := hS.2.2.2; omega⟩
          refine ⟨_, rfl, hS, ?_⟩
          simp only [Act.put, List.setIfInBounds_toArray, List.set_cons_zero, List.set_cons_succ]
          clear hx
          refine hs_take (i := 4) (d := some 74) (v := .bool true) rfl (by kernel_rfl) (by kernel_rfl) (by kernel_rfl) (by rfl) (fun w' hw => by go_simp; first | done | simp) hS rfl ?_
          simp only [Act.put, List.setIfInBounds_toArray, List.set_cons_zero, List.set_cons_succ]
          refine hs_take (i := 5) (d := some 75) (v := ?_) rfl (by kernel_rfl) (by kernel_rfl) (by kernel_rfl) (by rfl) ?_ hS rfl ?_
          rotate_left
          · intro w' hw
            go_simp
            try with_reducible rfl
          simp only [Act.put, List.setIfInBounds_toArray, List.set_cons_zero, List.set_cons_succ]
          refine hs_take (i := 6) (d := some 76) (v := ?_) rfl (by kernel_rfl) (by kernel_rfl) (by kernel_rfl) (by rfl) ?_ hS rfl ?_
          rotate_left
          · intro w' hw
            go_simp
            try with_reducible rfl
          simp only [Act.put, List.setIfInBounds_toArray, List.set_cons_zero, List.set_cons_succ]
          by_cases hn0 : n = 0
          · subst hn0
            refine hs_take (i := 7) (d := some 77) (v := .bool true) rfl (by kernel_rfl) (by kernel_rfl) (by kernel_rfl) (by rfl) (fun w' hw => by go_simp; first | done | simp | omega) hS rfl ?_
            simp only [Act.put, List.setIfInBounds_toArray, List.set_cons_zero, List.set_cons_succ]
            refine hs_take (i := 8) (d := some 78) (v := ?_) rfl (by kernel_rfl) (by kernel_rfl) (by kernel_rfl) (by rfl) ?_ hS rfl ?_
            rotate_left
            · intro w' hw
              go_simp
              try with_reducible rfl
            simp only [Act.put, List.setIfInBounds_toArray, List.set_cons_zero, List.set_cons_succ]
            refine hs_skip (i := 9) (d := some 79) rfl (by kernel_rfl) (by kernel_rfl) (by kernel_rfl) (by rfl) hS rfl ?_
            simp only [Act.put, List.setIfInBounds_toArray, List.set_cons_zero, List.set_cons_succ]
            refine hs_skip (i := 10) (d := some 80) rfl (by kernel_rfl) (by kernel_rfl) (by kernel_rfl) (by rfl) hS rfl ?_
            simp only [Act.put, List.setIfInBounds_toArray, List.set_cons_zero, List.set_cons_succ]
            refine hs_skip (i := 11) (d := some 81) rfl (by kernel_rfl) (by kernel_rfl) (by kernel_rfl) (by rfl) hS rfl ?_
            simp only [Act.put, List.setIfInBounds_toArray, List.set_cons_zero, List.set_cons_succ]
            refine hs_skip (i := 12) (d := some 82) rfl (by kernel_rfl) (by kernel_rfl) (by kernel_rfl) (by rfl) hS rfl ?_
            simp only [Act.put, List.setIfInBounds_toArray, List.set_cons_zero, List.set_cons_succ]
            refine hs_skip (i := 13) (d := some 83) rfl (by kernel_rfl) (by kernel_rfl) (by kernel_rfl) (by rfl) hS rfl ?_
            simp only [Act.put, List.setIfInBounds_toArray, List.set_cons_zero, List.set_cons_succ]
            refine hs_skip (i := 14) (d := some 84) rfl (by kernel_rfl) (by kernel_rfl) (by kernel_rfl) (by rfl) hS rfl ?_
            simp only [Act.put, List.setIfInBounds_toArray, List.set_cons_zero, List.set_cons_succ]
            refine hs_skip (i := 15) (d := some 85) rfl (by kernel_rfl) (by kernel_rfl) (by kernel_rfl) (by rfl) hS rfl ?_
            simp only [Act.put, List.setIfInBounds_toArray, List.set_cons_zero, List.set_cons_succ]
            refine hs_take (i := 16) (d := some 86) (v := ?_) rfl (by kernel_rfl) (by kernel_rfl) (by kernel_rfl) (by rfl) ?_ hS rfl ?_
            rotate_left
            · intro w' hw
              go_simp
              try with_reducible rfl
            simp only [Act.put, List.setIfInBounds_toArray, List.set_cons_zero, List.set_cons_succ]
            refine hs_take (i := 17) (d := some 87) (v := ?_) rfl (by kernel_rfl) (by kernel_rfl) (by kernel_rfl) (by rfl) ?_ hS rfl ?_
            rotate_left
            · intro w' hw
              go_simp
              try with_reducible rfl
            simp only [Act.put, List.setIfInBounds_toArray, List.set_cons_zero, List.set_cons_succ]
            refine hs_take (i := 18) (d := some 88) (v := ?_) rfl (by kernel_rfl) (by kernel_rfl) (by kernel_rfl) (by rfl) ?_ hS rfl ?_
            rotate_left
            · intro w' hw
              go_simp
              try with_reducible rfl
            simp only [Act.put, List.setIfInBounds_toArray, List.set_cons_zero, List.set_cons_succ]
            refine hs_call (i := 19) (d := some 89) rfl (by kernel_rfl) (by rfl) (by go_simp; first | done | exact ⟨rfl, rfl⟩ | with_reducible rfl) rfl ?_
            refine (lives_any wD).mono ?_
            rintro e' wF ⟨rfl, hx⟩
            have hS : (fun W => W.rangeAt X 0 (winC B' (m' : Int)) ∧ W.rangeAt w.heap.size 0 (winC B (m : Int)) ∧ Below w.heap.size w W ∧ X < W.heap.size) wF := ⟨range_below hS.1 hx hS.2.2.2, range_below hS.2.1 hx (by have := hS.2.2.2; omega), hS.2.2.1.trans (hx.mono hS.2.2.1.size), by have := hx.size; have := hS.2.2.2; omega⟩
            refine ⟨_, rfl, hS, ?_⟩
            simp only [Act.put, List.setIfInBounds_toArray, List.set_cons_zero, List.set_cons_succ]
            refine hs_take (i := 20) (d := some 90) (v := ?_) rfl (by kernel_rfl) (by kernel_rfl) (by kernel_rfl) (by rfl) ?_ hS rfl ?_
            rotate_left
            · intro w' hw
              go_simp
              try with_reducible rfl
            simp only [Act.put, List.setIfInBounds_toArray, List.set_cons_zero, List.set_cons_succ]
            refine hs_take (i := 21) (d := some 6) (v := ?_) rfl (by kernel_rfl) (by kernel_rfl) (by kernel_rfl) (by rfl) ?_ hS rfl ?_
            rotate_left
            · intro w' hw
              go_simp
              try with_reducible rfl
            simp only [Act.put, List.setIfInBounds_toArray, List.set_cons_zero, List.set_cons_succ]
            refine hs_done (by kernel_rfl) ?_
            go_wp2_with fail
            go_ret
            exact ⟨rfl, hS.2.2.1⟩
          · have hn1 : ¬ ((n : Int) = 0) := by omega
            refine hs_take (i := 7) (d := some 77) (v := .bool false) rfl (by kernel_rfl) (by kernel_rfl) (by kernel_rfl) (by rfl) (fun w' hw => by go_simp; first | done | omega | (simp; omega)) hS rfl ?_
            simp only [Act.put, List.setIfInBounds_toArray, List.set_cons_zero, List.set_cons_succ]
            refine hs_take (i := 8) (d := some 78) (v := ?_) rfl (by kernel_rfl) (by kernel_rfl) (by kernel_rfl) (by rfl) ?_ hS rfl ?_
            rotate_left
            · intro w' hw
              go_simp
              try with_reducible rfl
            simp only [Act.put, List.setIfInBounds_toArray, List.set_cons_zero, List.set_cons_succ]
            refine hs_take (i := 9) (d := some 79) (v := winV B' (m' : Int)) rfl (by kernel_rfl) (by kernel_rfl) (by kernel_rfl) (by rfl) (fun w' hw => exec_load rfl rfl (win_load hw.1)) hS rfl ?_
            simp only [Act.put, List.setIfInBounds_toArray, List.set_cons_zero, List.set_cons_succ]
            refine hs_take (i := 11) (d := some 81) (v := winV B (m : Int)) rfl (by kernel_rfl) (by kernel_rfl) (by kernel_rfl) (by rfl) (fun w' hw => exec_load rfl rfl (win_load hw.2.1)) hS rfl ?_
            simp only [Act.put, List.setIfInBounds_toArray, List.set_cons_zero, List.set_cons_succ]
            refine hs_take (i := 13) (d := some 83) (v := ?_) rfl (by kernel_rfl) (by kernel_rfl) (by kernel_rfl) (by rfl) ?_ hS rfl ?_
            rotate_left
            · intro w' hw
              go_simp
              try with_reducible rfl
            simp only [Act.put, List.setIfInBounds_toArray, List.set_cons_zero, List.set_cons_succ]
            refine hs_call (i := 10) (d := some 80) rfl (by kernel_rfl) (by rfl) (by go_simp; first | done | exact ⟨rfl, rfl⟩ | with_reducible rfl) rfl ?_
            refine (cc wD).mono ?_
            rintro e' wE ⟨rfl, hx⟩
            have hS : (fun W => W.rangeAt X 0 (winC B' (m' : Int)) ∧ W.rangeAt w.heap.size 0 (winC B (m : Int)) ∧ Below w.heap.size w W ∧ X < W.heap.size) wE := ⟨range_below hS.1 hx hS.2.2.2, range_below hS.2.1 hx (by have := hS.2.2.2; omega), hS.2.2.1.trans (hx.mono hS.2.2.1.size), by have := hx.size; have := hS.2.2.2; omega⟩
            refine ⟨_, rfl, hS, ?_⟩
            simp only [Act.put, List.setIfInBounds_toArray, List.set_cons_zero, List.set_cons_succ]
            clear hx
            refine hs_call (i := 12) (d := some 82) rfl (by kernel_rfl) (by rfl) (by go_simp; first | done | exact ⟨rfl, rfl⟩ | with_reducible rfl) rfl ?_
            refine (co wE).mono ?_
            rintro e' wD2 ⟨rfl, hx⟩
            have hS : (fun W => W.rangeAt X 0 (winC B' (m' : Int)) ∧ W.rangeAt w.heap.size 0 (winC B (m : Int)) ∧ Below w.heap.size w W ∧ X < W.heap.size) wD2 := ⟨range_below hS.1 hx hS.2.2.2, range_below hS.2.1 hx (by have := hS.2.2.2; omega), hS.2.2.1.trans (hx.mono hS.2.2.1.size), by have := hx.size; have := hS.2.2.2; omega⟩
            refine ⟨_, rfl, hS, ?_⟩
            simp only [Act.put, List.setIfInBounds_toArray, List.set_cons_zero, List.set_cons_succ]
            clear hx
            refine hs_take (i := 14) (d := some 84) (v := .int .i64 (C + (n : Int))) rfl (by kernel_rfl) (by kernel_rfl) (by kernel_rfl) (by rfl) (fun w' hw => by go_simp; exact wrap_id _ (by omega) (by omega)) hS rfl ?_
            simp only [Act.put, List.setIfInBounds_toArray, List.set_cons_zero, List.set_cons_succ]
            refine hs_take (i := 15) (d := some 85) (v := .bool true) rfl (by kernel_rfl) (by kernel_rfl) (by kernel_rfl) (by rfl) (fun w' hw => by go_simp; first | done | simp) hS rfl ?_
            simp only [Act.put, List.setIfInBounds_toArray, List.set_cons_zero, List.set_cons_succ]
            refine hs_take (i := 16) (d := some 86) (v := ?_) rfl (by kernel_rfl) (by kernel_rfl) (by kernel_rfl) (by rfl) ?_ hS rfl ?_
            rotate_left
            · intro w' hw
              go_simp
              try with_reducible rfl
            simp only [Act.put, List.setIfInBounds_toArray, List.set_cons_zero, List.set_cons_succ]
            refine hs_take (i := 17) (d := some 87) (v := ?_) rfl (by kernel_rfl) (by kernel_rfl) (by kernel_rfl) (by rfl) ?_ hS rfl ?_
            rotate_left
            · intro w' hw
              go_simp
              try with_reducible rfl
            simp only [Act.put, List.setIfInBounds_toArray, List.set_cons_zero, List.set_cons_succ]
            refine hs_take (i := 18) (d := some 88) (v := ?_) rfl (by kernel_rfl) (by kernel_rfl) (by kernel_rfl) (by rfl) ?_ hS rfl ?_
            rotate_left
            · intro w' hw
              go_simp
              try with_reducible rfl
            simp only [Act.put, List.setIfInBounds_toArray, List.set_cons_zero, List.set_cons_succ]
            refine hs_call (i := 19) (d := some 89) rfl (by kernel_rfl) (by rfl) (by go_simp; first | done | exact ⟨rfl, rfl⟩ | with_reducible rfl) rfl ?_
            refine (lives_any wD2).mono ?_
            rintro e' wF ⟨rfl, hx⟩
            have hS : (fun W => W.rangeAt X 0 (winC B' (m' : Int)) ∧ W.rangeAt w.heap.size 0 (winC B (m : Int)) ∧ Below w.heap.size w W ∧ X < W.heap.size) wF := ⟨range_below hS.1 hx hS.2.2.2, range_below hS.2.1 hx (by have := hS.2.2.2; omega), hS.2.2.1.trans (hx.mono hS.2.2.1.size), by have := hx.size; have := hS.2.2.2; omega⟩
            refine ⟨_, rfl, hS, ?_⟩
            simp only [Act.put, List.setIfInBounds_toArray, List.set_cons_zero, List.set_cons_succ]
            refine hs_take (i := 20) (d := some 90) (v := ?_) rfl (by kernel_rfl) (by kernel_rfl) (by kernel_rfl) (by rfl) ?_ hS rfl ?_
            rotate_left
            · intro w' hw
              go_simp
              try with_reducible rfl
            simp only [Act.put, List.setIfInBounds_toArray, List.set_cons_zero, List.set_cons_succ]
            refine hs_take (i := 21) (d := some 6) (v := ?_) rfl (by kernel_rfl) (by kernel_rfl) (by kernel_rfl) (by rfl) ?_ hS rfl ?_
            rotate_left
            · intro w' hw
              go_simp
              try with_reducible rfl
            simp only [Act.put, List.setIfInBounds_toArray, List.set_cons_zero, List.set_cons_succ]
            refine hs_done (by kernel_rfl) ?_
            go_wp2_with fail
            go_ret
            exact ⟨rfl, hS.2.2.1⟩
end Go.Proofs.Ytnjlamcpfclgaaa
