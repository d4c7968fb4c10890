/- epoch: an epoch that lies in a box; many, risingNodes, Good: contracts. -/
import Derived.Test.YtnndlgdlligjbabDoorLLives
namespace Go.Proofs.YtnndlgdlligjbabDoor.Ld
open Go.RowKit Go.Shelf
/-- all are nodes, each above the one ahead -/
def risingF (N : Int) : Int → List Int → Bool
  | _, [] => true
  | ahead, x :: xs => decide (ahead < x ∧ x < N) && risingF N x xs
def risingB (N : Int) (zs : List Int) : Bool := risingF N (-1) zs
theorem risingF_step {N ahead : Int} {zs : List Int} {k : Nat} (h : k < zs.length) : risingF N ahead (zs.drop k) = (decide (ahead < zs[k] ∧ zs[k] < N) && risingF N zs[k] (zs.drop (k + 1))) := by
  rw [List.drop_eq_getElem_cons h]; rfl
theorem risingF_end {N ahead : Int} {zs : List Int} : risingF N ahead (zs.drop zs.length) = true := by rw [List.drop_length]; rfl
def goodE (c : Cfg) (n s : Int) (zs : List Int) : Bool := goodC c && decide (1 ≤ n ∧ n ≤ c.la) && decide (0 < zs.length) && risingB c.n zs && decide (1 ≤ s ∧ s ≤ 1099511627776 - (zs.length : Int) * c.sl)
/-- what a good epoch says -/
structure EpOk (c : Cfg) (n s : Int) (zs : List Int) (N B S M : Nat) : Prop where
  cfg : CfgOk c N B
  num : 1 ≤ n ∧ n ≤ c.la
  len : 0 < zs.length
  up : risingB c.n zs = true
  sl : c.sl = (S : Int)
  s1 : 1 ≤ S ∧ S ≤ 4
  many : (zs.length : Int) * c.sl = (M : Int)
  start : 1 ≤ s ∧ s ≤ 1099511627776 - (M : Int)
theorem mul_cast (l S : Nat) : (l : Int) * (S : Int) = ((l * S : Nat) : Int) := by simp
theorem epOk {c : Cfg} {n s : Int} {zs : List Int} (h : goodE c n s zs = true) : ∃ N B S M, EpOk c n s zs N B S M ∧ M = zs.length * S := by
  simp only [goodE, Bool.and_eq_true, decide_eq_true_eq] at h
  obtain ⟨⟨⟨⟨h1, h2⟩, h3⟩, h4⟩, h5⟩ := h
  obtain ⟨N, B, ok⟩ := cfgOk h1
  have hs := ok.sl
  obtain ⟨S, hS⟩ := Int.eq_ofNat_of_zero_le (show 0 ≤ c.sl by omega)
  have hS : c.sl = (S : Int) := hS
  refine ⟨N, B, S, zs.length * S, ⟨ok, h2, h3, h4, hS, by omega, by rw [hS]; exact mul_cast _ _, ?_⟩, rfl⟩
  rw [hS, mul_cast] at h5
  exact h5
theorem risingF_all {N : Int} : ∀ {zs : List Int} {ahead : Int}, risingF N ahead zs = true → ∀ i (h : i < zs.length), ahead < zs[i] ∧ zs[i] < N
  | [], _, _, i, h => absurd h (Nat.not_lt_zero _)
  | x :: xs, ahead, hr, 0, _ => by
    simp only [risingF, Bool.and_eq_true, decide_eq_true_eq] at hr
    exact hr.1
  | x :: xs, ahead, hr, i + 1, h => by
    simp only [risingF, Bool.and_eq_true, decide_eq_true_eq] at hr
    have := risingF_all hr.2 i (by simpa using h)
    simp only [List.getElem_cons_succ]
    omega
theorem risingF_lt {N : Int} : ∀ {zs : List Int} {ahead : Int}, risingF N ahead zs = true → ∀ i j (hi : i < j) (hj : j < zs.length), zs[i] < zs[j]
  | [], _, _, _, j, _, h => absurd h (Nat.not_lt_zero _)
  | x :: xs, ahead, hr, 0, j + 1, _, h => by
    simp only [risingF, Bool.and_eq_true, decide_eq_true_eq] at hr
    have := risingF_all hr.2 j (by simpa using h)
    simpa using this.1
  | x :: xs, ahead, hr, i + 1, j + 1, hi, h => by
    simp only [risingF, Bool.and_eq_true, decide_eq_true_eq] at hr
    have := risingF_lt hr.2 i j (by omega) (by simpa using h)
    simpa using this
def EpAt (W : World) (B : Nat) (c : Cfg) (n s : Int) (a : Option Addr) (cap : Nat) (zs : List Int) : Prop := W.heap[B]? = some (.cells #[.int .i64 c.n, .int .i64 c.cl, .int .i64 c.wi, .int .i64 c.bu, .int .i64 c.ca, .int .i64 c.sl, .int .i64 c.rq, .int .i64 c.ti, .int .i64 c.pe, .int .i64 c.la, .int .i64 n, .int .i64 s, .slice a zs.length cap] 26 (0, 0))
theorem EpAt.lt {W : World} {B : Nat} {c : Cfg} {n s : Int} {a : Option Addr} {cap : Nat} {zs : List Int} (h : EpAt W B c n s a cap zs) : B < W.heap.size := (Array.getElem?_eq_some_iff.1 h).1
theorem EpAt.new (w : World) (c : Cfg) (n s : Int) (a : Option Addr) (cap : Nat) (zs : List Int) : EpAt (w.alloc (.cells #[.int .i64 c.n, .int .i64 c.cl, .int .i64 c.wi, .int .i64 c.bu, .int .i64 c.ca, .int .i64 c.sl, .int .i64 c.rq, .int .i64 c.ti, .int .i64 c.pe, .int .i64 c.la, .int .i64 n, .int .i64 s, .slice a zs.length cap] 26)) w.heap.size c n s a cap zs := World.alloc_heap_new w _
theorem EpAt.below {W W' : World} {B : Nat} {c : Cfg} {n s : Int} {a : Option Addr} {cap : Nat} {zs : List Int} (h : EpAt W B c n s a cap zs) (hb : Below W.heap.size W W') : EpAt W' B c n s a cap zs := (hb.block B h.lt).trans h
theorem EpAt.cells {W : World} {B : Nat} {c : Cfg} {n s : Int} {a : Option Addr} {cap : Nat} {zs : List Int} (h : EpAt W B c n s a cap zs) : W.cell? ⟨B, 0, none⟩ = some (.int .i64 c.n) ∧ W.cell? ⟨B, 1, none⟩ = some (.int .i64 c.cl) ∧ W.cell? ⟨B, 2, none⟩ = some (.int .i64 c.wi) ∧ W.cell? ⟨B, 3, none⟩ = some (.int .i64 c.bu) ∧ W.cell? ⟨B, 4, none⟩ = some (.int .i64 c.ca) ∧ W.cell? ⟨B, 5, none⟩ = some (.int .i64 c.sl) ∧ W.cell? ⟨B, 6, none⟩ = some (.int .i64 c.rq) ∧ W.cell? ⟨B, 7, none⟩ = some (.int .i64 c.ti) ∧ W.cell? ⟨B, 8, none⟩ = some (.int .i64 c.pe) ∧ W.cell? ⟨B, 9, none⟩ = some (.int .i64 c.la) ∧ W.cell? ⟨B, 10, none⟩ = some (.int .i64 n) ∧ W.cell? ⟨B, 11, none⟩ = some (.int .i64 s) ∧ W.cell? ⟨B, 12, none⟩ = some (.slice a zs.length cap) := by
  have h' : W.heap[B]? = some (.cells #[.int .i64 c.n, .int .i64 c.cl, .int .i64 c.wi, .int .i64 c.bu, .int .i64 c.ca, .int .i64 c.sl, .int .i64 c.rq, .int .i64 c.ti, .int .i64 c.pe, .int .i64 c.la, .int .i64 n, .int .i64 s, .slice a zs.length cap] 26 (0, 0)) := h
  simp [World.cell?, h']
theorem EpAt.load {W : World} {B : Nat} {c : Cfg} {n s : Int} {a : Option Addr} {cap : Nat} {zs : List Int} (h : EpAt W B c n s a cap zs) : (loadVar 26 ⟨B, 0, none⟩).run Tryd.prog W = .ok (.agg #[.int .i64 c.n, .int .i64 c.cl, .int .i64 c.wi, .int .i64 c.bu, .int .i64 c.ca, .int .i64 c.sl, .int .i64 c.rq, .int .i64 c.ti, .int .i64 c.pe, .int .i64 c.la, .int .i64 n, .int .i64 s, .slice a zs.length cap]) W :=
  run_loadVar_row W B 26 26 #[.int .i64 c.n, .int .i64 c.cl, .int .i64 c.wi, .int .i64 c.bu, .int .i64 c.ca, .int .i64 c.sl, .int .i64 c.rq, .int .i64 c.ti, .int .i64 c.pe, .int .i64 c.la, .int .i64 n, .int .i64 s, .slice a zs.length cap] (0, 0) _ h Tryd.underlying26 rfl (by kernel_rfl)
def REpAt (W : World) (B : Nat) (c : Cfg) (n s : Int) (a : Option Addr) (cap : Nat) (zs : List Int) : Prop := W.heap[B]? = some (.cells #[.int .i64 c.n, .int .i64 c.cl, .int .i64 c.wi, .int .i64 c.bu, .int .i64 c.ca, .int .i64 c.sl, .int .i64 c.rq, .int .i64 c.ti, .int .i64 c.pe, .int .i64 c.la, .int .i64 n, .int .i64 s, .slice a zs.length cap] 28 (0, 0))
theorem REpAt.lt {W : World} {B : Nat} {c : Cfg} {n s : Int} {a : Option Addr} {cap : Nat} {zs : List Int} (h : REpAt W B c n s a cap zs) : B < W.heap.size := (Array.getElem?_eq_some_iff.1 h).1
theorem REpAt.new (w : World) (c : Cfg) (n s : Int) (a : Option Addr) (cap : Nat) (zs : List Int) : REpAt (w.alloc (.cells #[.int .i64 c.n, .int .i64 c.cl, .int .i64 c.wi, .int .i64 c.bu, .int .i64 c.ca, .int .i64 c.sl, .int .i64 c.rq, .int .i64 c.ti, .int .i64 c.pe, .int .i64 c.la, .int .i64 n, .int .i64 s, .slice a zs.length cap] 28)) w.heap.size c n s a cap zs := World.alloc_heap_new w _
theorem REpAt.below {W W' : World} {B : Nat} {c : Cfg} {n s : Int} {a : Option Addr} {cap : Nat} {zs : List Int} (h : REpAt W B c n s a cap zs) (hb : Below W.heap.size W W') : REpAt W' B c n s a cap zs := (hb.block B h.lt).trans h
theorem REpAt.cells {W : World} {B : Nat} {c : Cfg} {n s : Int} {a : Option Addr} {cap : Nat} {zs : List Int} (h : REpAt W B c n s a cap zs) : W.cell? ⟨B, 0, none⟩ = some (.int .i64 c.n) ∧ W.cell? ⟨B, 1, none⟩ = some (.int .i64 c.cl) ∧ W.cell? ⟨B, 2, none⟩ = some (.int .i64 c.wi) ∧ W.cell? ⟨B, 3, none⟩ = some (.int .i64 c.bu) ∧ W.cell? ⟨B, 4, none⟩ = some (.int .i64 c.ca) ∧ W.cell? ⟨B, 5, none⟩ = some (.int .i64 c.sl) ∧ W.cell? ⟨B, 6, none⟩ = some (.int .i64 c.rq) ∧ W.cell? ⟨B, 7, none⟩ = some (.int .i64 c.ti) ∧ W.cell? ⟨B, 8, none⟩ = some (.int .i64 c.pe) ∧ W.cell? ⟨B, 9, none⟩ = some (.int .i64 c.la) ∧ W.cell? ⟨B, 10, none⟩ = some (.int .i64 n) ∧ W.cell? ⟨B, 11, none⟩ = some (.int .i64 s) ∧ W.cell? ⟨B, 12, none⟩ = some (.slice a zs.length cap) := by
  have h' : W.heap[B]? = some (.cells #[.int .i64 c.n, .int .i64 c.cl, .int .i64 c.wi, .int .i64 c.bu, .int .i64 c.ca, .int .i64 c.sl, .int .i64 c.rq, .int .i64 c.ti, .int .i64 c.pe, .int .i64 c.la, .int .i64 n, .int .i64 s, .slice a zs.length cap] 28 (0, 0)) := h
  simp [World.cell?, h']
theorem REpAt.load {W : World} {B : Nat} {c : Cfg} {n s : Int} {a : Option Addr} {cap : Nat} {zs : List Int} (h : REpAt W B c n s a cap zs) : (loadVar 28 ⟨B, 0, none⟩).run Tryd.prog W = .ok (.agg #[.int .i64 c.n, .int .i64 c.cl, .int .i64 c.wi, .int .i64 c.bu, .int .i64 c.ca, .int .i64 c.sl, .int .i64 c.rq, .int .i64 c.ti, .int .i64 c.pe, .int .i64 c.la, .int .i64 n, .int .i64 s, .slice a zs.length cap]) W :=
  run_loadVar_row W B 28 28 #[.int .i64 c.n, .int .i64 c.cl, .int .i64 c.wi, .int .i64 c.bu, .int .i64 c.ca, .int .i64 c.sl, .int .i64 c.rq, .int .i64 c.ti, .int .i64 c.pe, .int .i64 c.la, .int .i64 n, .int .i64 s, .slice a zs.length cap] (0, 0) _ h Tryd.underlying28 rfl (by kernel_rfl)
set_option maxRecDepth 100000 in
set_option maxHeartbeats 4000000 in
theorem many_any (c : Cfg) (n s : Int) (a : Option Addr) (cap : Nat) (zs : List Int) (M : Nat) (hM : (zs.length : Int) * c.sl = (M : Int)) (hM2 : M ≤ 1000000) (w : World) :
    Calls Tryd.prog 26 #[(.agg #[.int .i64 c.n, .int .i64 c.cl, .int .i64 c.wi, .int .i64 c.bu, .int .i64 c.ca, .int .i64 c.sl, .int .i64 c.rq, .int .i64 c.ti, .int .i64 c.pe, .int .i64 c.la, .int .i64 n, .int .i64 s, .slice a zs.length cap])] w fun e w' => e = .returned (.int .i64 (M : Int)) ∧ Below w.heap.size w w' := by
  have hB1 : Below w.heap.size w (w.alloc (.cells #[.int .i64 c.n, .int .i64 c.cl, .int .i64 c.wi, .int .i64 c.bu, .int .i64 c.ca, .int .i64 c.sl, .int .i64 c.rq, .int .i64 c.ti, .int .i64 c.pe, .int .i64 c.la, .int .i64 n, .int .i64 s, .slice a zs.length cap] 26)) := (Below.refl _ w).alloc (Nat.le_refl _) _
  go_enter Tryd.func26, Tryd.ntmps26
  go_wp2_with fail
  go_ret
  exact ⟨rfl, hB1⟩
set_option maxHeartbeats 1000000 in
theorem rising_any (a : Option Addr) (cap : Nat) (zs : List Int) (N : Int) (w : World) (hr : RowI w a zs) (hl : zs.length ≤ 100000) :
    Calls Tryd.prog 25 #[.slice a zs.length cap, .int .i64 N] w fun e w' => e = .returned (.bool (risingB N zs)) ∧ w' = w := by
  go_enter Tryd.func25, Tryd.ntmps25
  go_wp2
  go_loop [5, 10] (fun av iv => ∃ (k : Nat) (h : Int), k ≤ zs.length ∧ iv = .int .i64 (k : Int) ∧ av = .int .i64 h ∧ Hid (risingB N zs = risingF N h (zs.drop k))) (fun _ iv => zs.length - (intOf iv).toNat)
  case atStart => exact ⟨0, -1, by omega, rfl, rfl, hide rfl⟩
  case round =>
    obtain ⟨k, h, hk, rfl, rfl, HR⟩ := hrel
    by_cases hlt : k < zs.length
    · obtain ⟨b, off, rfl, hc⟩ := rowI_cell hr (Below.refl _ _) hlt
      have k1 : (k : Int) < zs.length := by omega
      have HS := hide (risingF_step (N := N) (ahead := h) hlt)
      generalize zs[k] = x at *
      by_cases h1 : h < x
      · have d1 : decide (x ≤ h) = false := decide_eq_false (by omega)
        by_cases h2 : x < N
        · have d2 : decide (N ≤ x) = false := decide_eq_false (by omega)
          go_wp2
          go_round
          case rel => exact ⟨k + 1, x, by omega, by go_num, rfl, hide (by rw [HR.out, HS.out, decide_eq_true ⟨h1, h2⟩, Bool.true_and])⟩
          case measure => simp [intOf]; omega
        · have d2 : decide (N ≤ x) = true := decide_eq_true (by omega)
          go_wp2
          go_ret
          exact ⟨ret_bool (by rw [HR.out, HS.out, decide_eq_false (by omega), Bool.false_and]), rfl⟩
      · have d1 : decide (x ≤ h) = true := decide_eq_true (by omega)
        go_wp2
        go_ret
        exact ⟨ret_bool (by rw [HR.out, HS.out, decide_eq_false (by omega), Bool.false_and]), rfl⟩
    · obtain rfl : k = zs.length := by omega
      go_wp2
      go_ret
      exact ⟨ret_bool (by rw [HR.out, risingF_end]), rfl⟩
set_option maxRecDepth 100000 in
set_option maxHeartbeats 4000000 in
theorem egood_any (c : Cfg) (n s : Int) (a : Option Addr) (cap : Nat) (zs : List Int) (w : World) (hr : RowI w a zs) (hl : zs.length ≤ 100000) :
    Calls Tryd.prog 7 #[(.agg #[.int .i64 c.n, .int .i64 c.cl, .int .i64 c.wi, .int .i64 c.bu, .int .i64 c.ca, .int .i64 c.sl, .int .i64 c.rq, .int .i64 c.ti, .int .i64 c.pe, .int .i64 c.la, .int .i64 n, .int .i64 s, .slice a zs.length cap])] w fun e w' => e = .returned (.bool (goodE c n s zs)) ∧ Below w.heap.size w w' := by
  have hB1 : Below w.heap.size w (w.alloc (.cells #[.int .i64 c.n, .int .i64 c.cl, .int .i64 c.wi, .int .i64 c.bu, .int .i64 c.ca, .int .i64 c.sl, .int .i64 c.rq, .int .i64 c.ti, .int .i64 c.pe, .int .i64 c.la, .int .i64 n, .int .i64 s, .slice a zs.length cap] 26)) := (Below.refl _ w).alloc (Nat.le_refl _) _
  have k0 := EpAt.new w c n s a cap zs
  have fin : ∀ {W W' : World}, Below w.heap.size w W → Below W.heap.size W W' → Below w.heap.size w W' := fun h k => h.trans (k.mono h.size)
  have c1 := fun w => lgood_any c w
  have HG : Hid (goodE c n s zs = (goodC c && decide (1 ≤ n ∧ n ≤ c.la) && decide (0 < zs.length) && risingB c.n zs && decide (1 ≤ s ∧ s ≤ 1099511627776 - (zs.length : Int) * c.sl))) := hide rfl
  go_enter Tryd.func7, Tryd.ntmps7
  go_wp2_with fail
  obtain ⟨w1, hw1⟩ : ∃ w1, w.alloc (.cells #[.int .i64 c.n, .int .i64 c.cl, .int .i64 c.wi, .int .i64 c.bu, .int .i64 c.ca, .int .i64 c.sl, .int .i64 c.rq, .int .i64 c.ti, .int .i64 c.pe, .int .i64 c.la, .int .i64 n, .int .i64 s, .slice a zs.length cap] 26) = w1 := ⟨_, rfl⟩
  rw [hw1] at hB1 k0 ⊢
  clear hw1
  cases hm : goodC c
  · simp only [errC_no hm] at c1
    rw [hm] at HG
    refine (c1 w1).mono ?_
    rintro e w4 ⟨rfl, hb4⟩
    clear hm c1
    go_wp2_with fail
    go_ret
    exact ⟨ret_bool (by rw [HG.out]; simp), fin hB1 hb4⟩
  · simp only [errC_yes hm] at c1
    rw [hm] at HG
    obtain ⟨N, B, ok⟩ := cfgOk hm
    have hsl := ok.sl
    refine (c1 w1).mono ?_
    rintro e w4 ⟨rfl, hb4⟩
    have hB4 := fin hB1 hb4
    have k4 := k0.below hb4
    obtain ⟨p0, p1, p2, p3, p4, p5, p6, p7, p8, p9, pn, ps, pl⟩ := k4.cells
    clear hm c1 ok hb4 k0 hB1
    by_cases hn : 1 ≤ n ∧ n ≤ c.la
    · have d1 : decide (n < 1) = false := decide_eq_false (by omega)
      have d2 : decide (c.la < n) = false := decide_eq_false (by omega)
      rw [decide_eq_true hn] at HG
      by_cases hz : 0 < zs.length
      · have d3 : ((zs.length : Int) == 0) = false := by rw [beq_eq_false_iff_ne]; omega
        have cR := rising_any a cap zs c.n w4 (hr.below hB4) hl
        rw [decide_eq_true hz] at HG
        cases hu : risingB c.n zs
        · rw [hu] at cR HG
          go_wp2_with (go_at_call 25; refine cR.mono ?_; rintro e w5 ⟨rfl, hx⟩; obtain rfl := hx.symm; clear hx)
          go_ret
          exact ⟨ret_bool (by rw [HG.out]; simp), hB4⟩
        · rw [hu] at cR HG
          obtain ⟨S, hS⟩ := Int.eq_ofNat_of_zero_le (show 0 ≤ c.sl by omega)
          have hmul : (zs.length : Int) * c.sl = ((zs.length * S : Nat) : Int) := by rw [show c.sl = (S : Int) from hS]; exact mul_cast _ _
          have hM2 : zs.length * S ≤ 400000 := by
            have : S ≤ 4 := by omega
            exact Nat.le_trans (Nat.mul_le_mul hl this) (by decide)
          obtain ⟨M, hM⟩ : ∃ M, zs.length * S = M := ⟨_, rfl⟩
          rw [hM] at hmul hM2
          have cM := fun w => many_any c n s a cap zs M hmul (by omega) w
          rw [hmul] at HG
          clear hmul hM hS hu
          by_cases hs : 1 ≤ s
          · have d5 : decide (1 ≤ s) = true := decide_eq_true hs
            go_wp2_with (go_at_call 25; refine cR.mono ?_; rintro e w5 ⟨rfl, hx⟩; obtain rfl := hx.symm; clear hx)
            obtain ⟨w8, hw8⟩ : ∃ w8, w4.drew = w8 := ⟨_, rfl⟩
            refine hs_begin (S := (Below w8.heap.size w8)) 12 rfl (by kernel_rfl) ?_
            have k8 : EpAt w8 w.heap.size c n s a cap zs := by rw [← hw8]; exact k4
            have hB8 : Below w.heap.size w w8 := by rw [← hw8]; exact hB4.drew
            rw [hw8]
            clear hw8
            have hS : (Below w8.heap.size w8) w8 := Below.refl _ _
            clear p0 p1 p2 p3 p4 p5 p6 p7 p8 p9 pn ps pl
            clear d1 d2 d3 d5 k4 hB4
            refine hs_take (i := 0) (d := some 34) (v := ?_) rfl (by kernel_rfl) (by kernel_rfl) (by kernel_rfl) (by rfl) ?_ hS rfl ?_
            rotate_left
            · intro w' hw
              go_simp
              try with_reducible rfl
            simp only [Act.put, List.setIfInBounds_toArray, List.set_cons_zero, List.set_cons_succ]
            refine hs_take (i := 1) (d := some 35) (v := .int .i64 s) rfl (by kernel_rfl) (by kernel_rfl) (by kernel_rfl) (by rfl) (fun w' hw => by have q := (k8.below hw).cells; obtain ⟨-, -, -, -, -, -, -, -, -, -, -, q, -⟩ := q; go_simp) hS rfl ?_
            simp only [Act.put, List.setIfInBounds_toArray, List.set_cons_zero, List.set_cons_succ]
            refine hs_take (i := 2) (d := some 36) (v := .bool true) rfl (by kernel_rfl) (by kernel_rfl) (by kernel_rfl) (by rfl) (fun w' hw => by go_simp) hS rfl ?_
            simp only [Act.put, List.setIfInBounds_toArray, List.set_cons_zero, List.set_cons_succ]
            refine hs_take (i := 3) (d := some 37) (v := ?_) rfl (by kernel_rfl) (by kernel_rfl) (by kernel_rfl) (by rfl) ?_ hS rfl ?_
            rotate_left
            · intro w' hw
              go_simp
              try with_reducible rfl
            simp only [Act.put, List.setIfInBounds_toArray, List.set_cons_zero, List.set_cons_succ]
            refine hs_take (i := 4) (d := some 38) (v := ?_) rfl (by kernel_rfl) (by kernel_rfl) (by kernel_rfl) (by rfl) ?_ hS rfl ?_
            rotate_left
            · intro w' hw
              go_simp
              try with_reducible rfl
            simp only [Act.put, List.setIfInBounds_toArray, List.set_cons_zero, List.set_cons_succ]
            refine hs_take (i := 5) (d := some 39) (v := .int .i64 s) rfl (by kernel_rfl) (by kernel_rfl) (by kernel_rfl) (by rfl) (fun w' hw => by have q := (k8.below hw).cells; obtain ⟨-, -, -, -, -, -, -, -, -, -, -, q, -⟩ := q; go_simp) hS rfl ?_
            simp only [Act.put, List.setIfInBounds_toArray, List.set_cons_zero, List.set_cons_succ]
            refine hs_take (i := 6) (d := some 40) (v := .agg #[.int .i64 c.n, .int .i64 c.cl, .int .i64 c.wi, .int .i64 c.bu, .int .i64 c.ca, .int .i64 c.sl, .int .i64 c.rq, .int .i64 c.ti, .int .i64 c.pe, .int .i64 c.la, .int .i64 n, .int .i64 s, .slice a zs.length cap]) rfl (by kernel_rfl) (by kernel_rfl) (by kernel_rfl) (by rfl) (fun w' hw => exec_load rfl rfl (k8.below hw).load) hS rfl ?_
            simp only [Act.put, List.setIfInBounds_toArray, List.set_cons_zero, List.set_cons_succ]
            refine hs_call (i := 7) (d := some 41) rfl (by kernel_rfl) (by rfl) (by go_simp; first | done | exact ⟨rfl, rfl⟩ | with_reducible rfl) rfl ?_
            refine (cM w8).mono ?_
            rintro e' w9 ⟨rfl, hw9⟩
            have hS : (Below w8.heap.size w8) w9 := hS.trans (hw9.mono hS.size)
            refine ⟨_, rfl, hS, ?_⟩
            simp only [Act.put, List.setIfInBounds_toArray, List.set_cons_zero, List.set_cons_succ]
            refine hs_take (i := 8) (d := some 42) (v := .int .i64 (1099511627776 - (M : Int))) rfl (by kernel_rfl) (by kernel_rfl) (by kernel_rfl) (by rfl) (fun w' hw => by go_simp; rw [IntKind.wrap_i64]; omega) hS rfl ?_
            simp only [Act.put, List.setIfInBounds_toArray, List.set_cons_zero, List.set_cons_succ]
            refine hs_take (i := 9) (d := some 43) (v := .bool (decide (s ≤ 1099511627776 - (M : Int)))) rfl (by kernel_rfl) (by kernel_rfl) (by kernel_rfl) (by rfl) (fun w' hw => by go_simp) hS rfl ?_
            simp only [Act.put, List.setIfInBounds_toArray, List.set_cons_zero, List.set_cons_succ]
            refine hs_take (i := 10) (d := some 44) (v := .bool (decide (s ≤ 1099511627776 - (M : Int)))) rfl (by kernel_rfl) (by kernel_rfl) (by kernel_rfl) (by rfl) (fun w' hw => by go_simp) hS rfl ?_
            simp only [Act.put, List.setIfInBounds_toArray, List.set_cons_zero, List.set_cons_succ]
            refine hs_take (i := 11) (d := some 2) (v := ?_) rfl (by kernel_rfl) (by kernel_rfl) (by kernel_rfl) (by rfl) ?_ hS rfl ?_
            rotate_left
            · intro w' hw
              go_simp
              try with_reducible rfl
            simp only [Act.put, List.setIfInBounds_toArray, List.set_cons_zero, List.set_cons_succ]
            refine hs_done (by kernel_rfl) ?_
            go_wp2_with fail
            go_ret
            refine ⟨ret_bool ?_, fin hB8 hS⟩
            rw [HG.out]
            simp [hs]
          · have d5 : decide (1 ≤ s) = false := decide_eq_false hs
            go_wp2_with (go_at_call 25; refine cR.mono ?_; rintro e w5 ⟨rfl, hx⟩; obtain rfl := hx.symm; clear hx)
            obtain ⟨w8, hw8⟩ : ∃ w8, w4.drew = w8 := ⟨_, rfl⟩
            refine hs_begin (S := (Below w8.heap.size w8)) 12 rfl (by kernel_rfl) ?_
            have k8 : EpAt w8 w.heap.size c n s a cap zs := by rw [← hw8]; exact k4
            have hB8 : Below w.heap.size w w8 := by rw [← hw8]; exact hB4.drew
            rw [hw8]
            clear hw8
            have hS : (Below w8.heap.size w8) w8 := Below.refl _ _
            clear p0 p1 p2 p3 p4 p5 p6 p7 p8 p9 pn ps pl
            clear d1 d2 d3 d5 k4 hB4
            refine hs_take (i := 0) (d := some 34) (v := ?_) rfl (by kernel_rfl) (by kernel_rfl) (by kernel_rfl) (by rfl) ?_ hS rfl ?_
            rotate_left
            · intro w' hw
              go_simp
              try with_reducible rfl
            simp only [Act.put, List.setIfInBounds_toArray, List.set_cons_zero, List.set_cons_succ]
            refine hs_take (i := 1) (d := some 35) (v := .int .i64 s) rfl (by kernel_rfl) (by kernel_rfl) (by kernel_rfl) (by rfl) (fun w' hw => by have q := (k8.below hw).cells; obtain ⟨-, -, -, -, -, -, -, -, -, -, -, q, -⟩ := q; go_simp) hS rfl ?_
            simp only [Act.put, List.setIfInBounds_toArray, List.set_cons_zero, List.set_cons_succ]
            refine hs_take (i := 2) (d := some 36) (v := .bool false) rfl (by kernel_rfl) (by kernel_rfl) (by kernel_rfl) (by rfl) (fun w' hw => by go_simp) hS rfl ?_
            simp only [Act.put, List.setIfInBounds_toArray, List.set_cons_zero, List.set_cons_succ]
            refine hs_take (i := 3) (d := some 37) (v := ?_) rfl (by kernel_rfl) (by kernel_rfl) (by kernel_rfl) (by rfl) ?_ hS rfl ?_
            rotate_left
            · intro w' hw
              go_simp
              try with_reducible rfl
            simp only [Act.put, List.setIfInBounds_toArray, List.set_cons_zero, List.set_cons_succ]
            refine hs_skip (i := 4) (d := some 38) rfl (by kernel_rfl) (by kernel_rfl) (by kernel_rfl) (by rfl) hS rfl ?_
            simp only [Act.put, List.setIfInBounds_toArray, List.set_cons_zero, List.set_cons_succ]
            refine hs_skip (i := 5) (d := some 39) rfl (by kernel_rfl) (by kernel_rfl) (by kernel_rfl) (by rfl) hS rfl ?_
            simp only [Act.put, List.setIfInBounds_toArray, List.set_cons_zero, List.set_cons_succ]
            refine hs_skip (i := 6) (d := some 40) rfl (by kernel_rfl) (by kernel_rfl) (by kernel_rfl) (by rfl) hS rfl ?_
            simp only [Act.put, List.setIfInBounds_toArray, List.set_cons_zero, List.set_cons_succ]
            refine hs_skip (i := 7) (d := some 41) rfl (by kernel_rfl) (by kernel_rfl) (by kernel_rfl) (by rfl) hS rfl ?_
            simp only [Act.put, List.setIfInBounds_toArray, List.set_cons_zero, List.set_cons_succ]
            refine hs_skip (i := 8) (d := some 42) rfl (by kernel_rfl) (by kernel_rfl) (by kernel_rfl) (by rfl) hS rfl ?_
            simp only [Act.put, List.setIfInBounds_toArray, List.set_cons_zero, List.set_cons_succ]
            refine hs_skip (i := 9) (d := some 43) rfl (by kernel_rfl) (by kernel_rfl) (by kernel_rfl) (by rfl) hS rfl ?_
            simp only [Act.put, List.setIfInBounds_toArray, List.set_cons_zero, List.set_cons_succ]
            refine hs_take (i := 10) (d := some 44) (v := .bool false) rfl (by kernel_rfl) (by kernel_rfl) (by kernel_rfl) (by rfl) (fun w' hw => by go_simp) hS rfl ?_
            simp only [Act.put, List.setIfInBounds_toArray, List.set_cons_zero, List.set_cons_succ]
            refine hs_take (i := 11) (d := some 2) (v := ?_) rfl (by kernel_rfl) (by kernel_rfl) (by kernel_rfl) (by rfl) ?_ hS rfl ?_
            rotate_left
            · intro w' hw
              go_simp
              try with_reducible rfl
            simp only [Act.put, List.setIfInBounds_toArray, List.set_cons_zero, List.set_cons_succ]
            refine hs_done (by kernel_rfl) ?_
            go_wp2_with fail
            go_ret
            refine ⟨ret_bool ?_, fin hB8 hS⟩
            rw [HG.out, decide_eq_false (by omega)]; rfl
      · have d3 : ((zs.length : Int) == 0) = true := by rw [beq_iff_eq]; omega
        go_wp2_with fail
        go_ret
        exact ⟨ret_bool (by rw [HG.out, decide_eq_false hz]; simp), hB4⟩
    · by_cases hn1 : n < 1
      · have d1 : decide (n < 1) = true := decide_eq_true hn1
        go_wp2_with fail
        go_ret
        exact ⟨ret_bool (by rw [HG.out, decide_eq_false hn]; simp), hB4⟩
      · have d1 : decide (n < 1) = false := decide_eq_false hn1
        have d2 : decide (c.la < n) = true := decide_eq_true (by omega)
        go_wp2_with fail
        go_ret
        exact ⟨ret_bool (by rw [HG.out, decide_eq_false hn]; simp), hB4⟩
end Go.Proofs.YtnndlgdlligjbabDoor.Ld
