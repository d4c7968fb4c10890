/- the walk of EpochTurn -/
import Derived.Test.YtnndlgdlligjbabLEp5
namespace Go.Proofs.Ytnndlgdlligjbab
open Go.RowKit Go.Shelf
theorem umodn (z : Int) (m : Nat) (h0 : 0 < m) (hm : m ≤ 100) : ∃ p : Nat, p < m ∧ wrap64 ((IntKind.u64.wrap z).tmod (m : Int)) = (p : Int) := by
  rw [IntKind.wrap_u64]
  have h0' : 0 ≤ z % 18446744073709551616 := Int.emod_nonneg _ (by decide)
  generalize z % 18446744073709551616 = q at h0'
  rw [Int.tmod_eq_emod_of_nonneg h0']
  have h1 := Int.emod_nonneg q (b := (m : Int)) (by omega)
  have h2 := Int.emod_lt_of_pos q (b := (m : Int)) (by omega)
  refine ⟨(q % (m : Int)).toNat, by omega, ?_⟩
  generalize q % (m : Int) = r at h1 h2
  simp only [wrap64]
  omega
theorem umodI (z : Int) : ∃ Q : Int, 0 ≤ Q ∧ Q < 1099511627676 ∧ wrap64 ((IntKind.u64.wrap z).tmod 1099511627676) = Q := by
  rw [IntKind.wrap_u64]
  have h0' : 0 ≤ z % 18446744073709551616 := Int.emod_nonneg _ (by decide)
  generalize z % 18446744073709551616 = q at h0'
  rw [Int.tmod_eq_emod_of_nonneg h0']
  have h1 := Int.emod_nonneg q (b := 1099511627676) (by decide)
  have h2 := Int.emod_lt_of_pos q (b := 1099511627676) (by decide)
  refine ⟨_, h1, h2, ?_⟩
  generalize q % 1099511627676 = r at h1 h2
  simp only [wrap64]
  omega
theorem mod_two {x N : Nat} (h : x < N + N) : x % N = if x < N then x else x - N := by
  split
  · exact Nat.mod_eq_of_lt (by assumption)
  · rw [Nat.mod_eq_sub_mod (by omega), Nat.mod_eq_of_lt (by omega)]
theorem mod_cancel {a b E N : Nat} (ha : a < N) (hb : b < N) (h : (a + E) % N = (b + E) % N) : a = b := by
  have hE := Nat.mod_lt E (show 0 < N by omega)
  have h2 : (a + E % N) % N = (b + E % N) % N := by rw [Nat.add_mod_mod, Nat.add_mod_mod]; exact h
  generalize E % N = r at *
  rw [mod_two (x := a + r) (by omega), mod_two (x := b + r) (by omega)] at h2
  split at h2 <;> split at h2 <;> omega
theorem round_new {N f k : Nat} (hk : k < N) : (f + k) % N ∉ roundF N f k := by
  intro h
  simp only [roundF, List.mem_map, List.mem_range] at h
  obtain ⟨i, hi, e⟩ := h
  have := mod_cancel (a := i) (b := k) (E := f) (N := N) (by omega) hk (by rw [Nat.add_comm i f, Nat.add_comm k f]; exact e)
  omega
theorem bools_setT {w : World} {b t m : Nat} {f g : Nat → Bool} (h : w.rowIs b t m fun j => .bool (f j)) (p : Nat) (hg : ∀ j, j < m → g j = if j = p then true else f j) : (w.setCell ⟨b, p, none⟩ (.bool true)).rowIs b t m fun j => .bool (g j) := by
  refine (h.set p (.bool true)).congr ?_
  intro j hj
  show (if j = p then _ else _) = _
  rw [hg j hj]
  split <;> rfl
set_option maxRecDepth 100000 in
set_option maxHeartbeats 4000000 in
theorem turn_walk (c : Cfg) (n s : Int) (a : Option Addr) (cap : Nat) (zs : List Int) (y v : Int) (w : World) (hr : RowI w a zs) :
    Calls Try.prog 4 #[(.agg #[.int .i64 c.n, .int .i64 c.cl, .int .i64 c.wi, .int .i64 c.bu, .int .i64 c.ca, .int .i64 c.sl, .int .i64 c.rq, .int .i64 c.ti, .int .i64 c.pe, .int .i64 c.la, .int .i64 n, .int .i64 s, .slice a zs.length cap]), .int .i64 y, .int .i64 v] w fun e w' => e = .returned (.bool true) ∧ Below w.heap.size w w' := by
  have hB1 : Below w.heap.size w (w.alloc (.cells #[.int .i64 c.n, .int .i64 c.cl, .int .i64 c.wi, .int .i64 c.bu, .int .i64 c.ca, .int .i64 c.sl, .int .i64 c.rq, .int .i64 c.ti, .int .i64 c.pe, .int .i64 c.la, .int .i64 n, .int .i64 s, .slice a zs.length cap] 26)) := (Below.refl _ w).alloc (Nat.le_refl _) _
  have k0 := EpAt.new w c n s a cap zs
  have fin : ∀ {W W' : World}, Below w.heap.size w W → Below W.heap.size W W' → Below w.heap.size w W' := fun h k => h.trans (k.mono h.size)
  by_cases hl : 100 < zs.length
  · have hl' : (100 : Int) < (zs.length : Int) := by omega
    clear hr k0
    go_enter Try.func4, Try.ntmps4
    go_wp2_with fail
    refine (lives12_any _).mono ?_
    rintro e w9 ⟨rfl, hb9⟩
    go_wp2_with fail
    go_ret
    exact ⟨rfl, fin hB1 hb9⟩
  have d0 : decide ((100 : Int) < (zs.length : Int)) = false := decide_eq_false (by omega)
  have d00 : decide (100 < zs.length) = false := decide_eq_false (by omega)
  have c1 := fun w h => egood_any c n s a cap zs w h (by omega)
  go_enter Try.func4, Try.ntmps4
  go_wp2_with fail
  obtain ⟨w1, hw1⟩ : ∃ w1, w.alloc (.cells #[.int .i64 c.n, .int .i64 c.cl, .int .i64 c.wi, .int .i64 c.bu, .int .i64 c.ca, .int .i64 c.sl, .int .i64 c.rq, .int .i64 c.ti, .int .i64 c.pe, .int .i64 c.la, .int .i64 n, .int .i64 s, .slice a zs.length cap] 26) = w1 := ⟨_, rfl⟩
  rw [hw1] at hB1 k0 ⊢
  clear hw1
  cases hm : goodE c n s zs
  · simp only [hm] at c1
    refine (c1 w1 (hr.below hB1)).mono ?_
    rintro e w4 ⟨rfl, hb4⟩
    have hB4 := fin hB1 hb4
    clear hm c1 k0 hB1 hb4 hr
    go_wp2_with fail
    refine (lives12_any _).mono ?_
    rintro e w9 ⟨rfl, hb9⟩
    go_wp2_with fail
    go_ret
    exact ⟨rfl, fin hB4 hb9⟩
  · simp only [hm] at c1
    obtain ⟨N, B, S, M, ok, hMe⟩ := epOk hm
    have HG := hide hm
    have HOK := hide ok
    have hN1 : 1 ≤ N := by have := ok.cfg.n4; omega
    have hN64 := ok.cfg.n64
    have h0 := ok.len
    have h64 := ok.len64
    refine (c1 w1 (hr.below hB1)).mono ?_
    rintro e w4 ⟨rfl, hb4⟩
    have hB4 := fin hB1 hb4
    have k4 := k0.below hb4
    obtain ⟨p, hp, ep⟩ := umodn y zs.length h0 (by omega)
    obtain ⟨Q, hQ0, hQ1, eQ0⟩ := umodI v
    have eQ := hide eQ0
    clear eQ0
    obtain ⟨q, hqQ⟩ : ∃ q : Nat, Hid (Q.toNat = q) := ⟨_, hide rfl⟩
    have hpI : (p : Int) < (zs.length : Int) := by omega
    obtain ⟨b, off, rfl, hcz⟩ := rowI_cell hr hB4 hp
    obtain ⟨mm, hmm⟩ := Int.eq_ofNat_of_zero_le (ok.mem (List.getElem_mem hp)).1
    have hmN := (ok.mem (List.getElem_mem hp)).2
    have hmem : Hid ((mm : Int) ∈ zs) := hide (by have := List.getElem_mem hp; rw [hmm] at this; exact this)
    have hmm2 : zs[p] = (mm : Int) := hmm
    rw [hmm2] at hcz hmN
    obtain ⟨-, -, -, -, -, -, -, -, -, -, -, -, pl⟩ := k4.cells
    have hlne : ¬ (zs.length : Int) = 0 := by omega
    have hl100 : zs.length ≤ 100 := by omega
    clear hm c1 ok hMe k0 hB1 hb4 hmm hmm2 hl
    go_wp2_with fail
    go_quiet (fail)
    obtain ⟨w6, hw6⟩ : ∃ w6, w4.drewN nq = w6 := ⟨_, rfl⟩
    have hb6 : Below w4.heap.size w4 w6 := by rw [← hw6]; exact below_drewN (Below.refl _ _) _
    rw [hw6]
    have hB6 := fin hB4 hb6
    have k6 := k4.below hb6
    clear hw6 hb6 k4 hB4 pl hcz d0 d00 ep hlne
    obtain ⟨q0, -, -, -, -, -, -, -, -, -, -, -, -⟩ := k6.cells
    rw [HOK.out.cfg.n] at q0
    have hmk := run_make_row' (P := Try.prog) 33 4 (.bool false) 1 Try.underlying33 info4 rfl .i64 .i64 N (by omega) (by omega) w6
    have r0 := World.rowIs_made w6 (.bool false) N 4
    have hb7 : Below w6.heap.size w6 (w6.alloc (.cells (madeCells #[.bool false] N) 4)) := (Below.refl _ _).alloc (Nat.le_refl _) _
    have r1 : (w6.alloc (.cells (madeCells #[.bool false] N) 4)).rowIs w6.heap.size 4 N (fun j => .bool (decide (j ∈ roundF N (mm + q) 0))) := r0.congr (fun j _ => by simp [roundF])
    go_wp2_with fail
    simp only [eQ.out]
    obtain ⟨w7, hw7⟩ : ∃ w7, w6.alloc (.cells (madeCells #[.bool false] N) 4) = w7 := ⟨_, rfl⟩
    rw [hw7] at r1 hb7 ⊢
    clear hw7 hmk r0 q0 eQ
    go_loopw [44] (fun iv wr => ∃ k : Nat, k ≤ N ∧ iv = .int .i64 (k : Int) ∧ wr.rowIs w6.heap.size 4 N (fun j => .bool (decide (j ∈ roundF N (mm + q) k))) ∧ Below w6.heap.size w6 wr) (fun iv _ => N - (intOf iv).toNat)
    case atStart => exact ⟨0, by omega, rfl, r1, hb7⟩
    case round =>
      obtain ⟨k, hk, rfl, R, hb⟩ := hrel
      have hBr := fin hB6 hb
      by_cases hkN : k < N
      · have cP := primary_any c n s (some ⟨b, off, none⟩) cap zs (mm : Int) (Q + (k : Int)) wr (hr.below hBr) (by omega)
        have hpe : primE c n s zs (mm : Int) (Q + (k : Int)) = (((mm + q + k) % N : Nat) : Int) := by
          rw [primE_yes ⟨HG.out, hmem.out, by omega, by omega⟩, HOK.out.cfg.n]
          have e1 : (mm : Int) + (Q + (k : Int)) = ((mm + q + k : Nat) : Int) := by have := hqQ.out; omega
          rw [e1]; simp
        rw [hpe] at cP
        have hT := Nat.mod_lt (mm + q + k) (show 0 < N by omega)
        have hnew := hide (round_new (f := mm + q) hkN)
        have hsn := hide (roundF_snoc N (mm + q) k)
        obtain ⟨T, hTe⟩ : ∃ T, Hid ((mm + q + k) % N = T) := ⟨_, hide rfl⟩
        rw [hTe.out] at cP hT hnew hsn
        have hcell := R.cell hT
        rw [decide_eq_false hnew.out] at hcell
        have R1 : (wr.setCell ⟨w6.heap.size, T, none⟩ (.bool true)).rowIs w6.heap.size 4 N (fun j => .bool (decide (j ∈ roundF N (mm + q) (k + 1)))) := bools_setT R T (fun j _ => by
          rw [hsn.out]
          by_cases e : j = T
          · subst e; simp
          · simp [e])
        clear R1
        have d1 : decide ((T : Int) < 0) = false := decide_eq_false (by omega)
        have d2 : decide ((N : Int) ≤ (T : Int)) = false := decide_eq_false (by omega)
        have d3 : decide (N ≤ T) = false := decide_eq_false (by omega)
        have hTI : (T : Int) < (N : Int) := by omega
        obtain ⟨p0, p1, p2, p3, p4, p5, p6, p7, p8, p9, pn, ps, pl⟩ := (k6.below hb).cells
        go_wp2_with fail
        refine cP.mono ?_
        rintro e w8 ⟨rfl, hb8⟩
        have hb8' : Below w6.heap.size w6 w8 := hb.trans (hb8.mono hb.size)
        have R8 := R.of_block (hb8.block _ R.lt)
        have hcell8 := (hb8.cell (p := ⟨w6.heap.size, T, none⟩) R.lt).trans hcell
        have hfr8 := R8.frozen T
        have R9 : (w8.setCell ⟨w6.heap.size, T, none⟩ (.bool true)).rowIs w6.heap.size 4 N (fun j => .bool (decide (j ∈ roundF N (mm + q) (k + 1)))) := bools_setT R8 T (fun j _ => by
          rw [hsn.out]
          by_cases e : j = T
          · subst e; simp
          · simp [e])
        have hb9 : Below w6.heap.size w6 (w8.setCell ⟨w6.heap.size, T, none⟩ (.bool true)) := hb8'.setCell (p := ⟨w6.heap.size, T, none⟩) (Nat.le_refl _) _
        clear cP hcell R R8 hb8
        clear p0 p1 p2 p3 p4 p5 p6 p7 p8 p9 pn ps pl
        go_wp2_with fail
        go_roundw
        case rel => exact ⟨k + 1, by omega, by go_num, R9, hb9⟩
        case measure => simp [intOf]; omega
      · obtain rfl : k = N := by omega
        go_wp2_with fail
        refine (lives12_any _).mono ?_
        rintro e w9 ⟨rfl, hb9⟩
        go_wp2_with fail
        go_ret
        exact ⟨rfl, fin hBr hb9⟩
end Go.Proofs.Ytnndlgdlligjbab
