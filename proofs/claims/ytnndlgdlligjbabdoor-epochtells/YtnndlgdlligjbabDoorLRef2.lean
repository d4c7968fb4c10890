/- the document's Owner, Buckets: contracts. -/
import Derived.Test.YtnndlgdlligjbabDoorLRef1
namespace Go.Proofs.YtnndlgdlligjbabDoor.Ld
open Go.RowKit Go.Shelf
theorem ownI_at {N E b k : Nat} {zs : List Int} (hk : k < N) (h : ∀ j, j < k → memB zs ((b + E + j) % N) = false) (hp : memB zs ((b + E + k) % N) = true) : ownI N E zs b = (((b + E + k) % N : Nat) : Int) := by
  unfold ownI
  rw [own_mod, own_at hk (fun x hx => ?_) hp]
  · rfl
  · simp only [roundF, List.mem_map, List.mem_range] at hx
    obtain ⟨j, hj, rfl⟩ := hx
    exact h j hj
theorem ownI_none {N E b : Nat} {zs : List Int} (h : ∀ j, j < N → memB zs ((b + E + j) % N) = false) : ownI N E zs b = -1 := by
  unfold ownI
  rw [own_mod, own_no (fun x hx => ?_)]
  · rfl
  · simp only [roundF, List.mem_map, List.mem_range] at hx
    obtain ⟨j, hj, rfl⟩ := hx
    exact h j hj
/-- the document's way: those whose owner the node is, and whose turn it is -/
def firstR (N e : Nat) (l : List Int) (node : Nat) (k : Nat) : List Nat := (List.range k).filter fun b => decide ((b + e) % N = node ∧ ownI N e l b = (node : Int))
theorem firstR_yes {N E Y k : Nat} {zs : List Int} (h : (k + E) % N = Y) (h2 : ownI N E zs k = (Y : Int)) : firstR N E zs Y (k + 1) = firstR N E zs Y k ++ [k] := filter_yes _ _ (decide_eq_true ⟨h, h2⟩)
theorem firstR_no1 {N E Y k : Nat} {zs : List Int} (h : ¬ (k + E) % N = Y) : firstR N E zs Y (k + 1) = firstR N E zs Y k := filter_no _ _ (decide_eq_false (fun hh => h hh.1))
theorem firstR_no2 {N E Y k : Nat} {zs : List Int} (h : ¬ ownI N E zs k = (Y : Int)) : firstR N E zs Y (k + 1) = firstR N E zs Y k := filter_no _ _ (decide_eq_false (fun hh => h hh.2))
theorem ownI_lead {N E b Y : Nat} {zs : List Int} (h : ownI N E zs b = (Y : Int)) (hN : 1 ≤ N) : Y < N ∧ (Y : Int) ∈ zs := by
  unfold ownI at h
  cases ho : ownO N (memB zs) ((b + E) % N) with
  | none => rw [ho] at h; simp [optI] at h
  | some j =>
    rw [ho] at h
    have hj : j = Y := by simp [optI] at h; omega
    subst hj
    have := own_some ho
    exact ⟨this.2 hN, by simpa [memB] using this.1⟩
theorem filter_nil {p : Nat → Bool} {l : List Nat} (h : ∀ x ∈ l, p x = false) : l.filter p = [] := by
  rw [List.filter_eq_nil_iff]; intro x hx; rw [h x hx]; simp
theorem filter_same {p q : Nat → Bool} {l : List Nat} (h : ∀ x ∈ l, p x = q x) : l.filter p = l.filter q := List.filter_congr h
theorem bucketsL_ref {c : Cfg} {N B E Y : Nat} {zs : List Int} (h : mayC c (E : Int) = true) (ok : CfgOk c N B) : bucketsL c (E : Int) zs (Y : Int) = firstR N E zs Y B ++ otherU N E zs Y B := by
  have hN : 1 ≤ N := by have := ok.n4; omega
  by_cases hl : Y < N ∧ (Y : Int) ∈ zs
  · rw [bucketsL_yes h ok.n ok.b hl.1 hl.2]
    unfold bucketsN
    congr 1
    refine filter_same fun b _ => decide_eq_decide.2 ⟨fun h1 => ⟨h1, ?_⟩, fun h1 => h1.1⟩
    unfold ownI
    rw [own_mod, own_first (by omega) (by rw [h1]; exact decide_eq_true hl.2), h1]
    rfl
  · rw [bucketsL_out (fun hh => hl ⟨by have := ok.n; omega, hh.2.2⟩)]
    have e1 : firstR N E zs Y B = [] := filter_nil fun b _ => decide_eq_false (fun hh => hl (ownI_lead hh.2 hN))
    have e2 : otherU N E zs Y B = [] := filter_nil fun b _ => decide_eq_false (fun hh => hl (ownI_lead hh.2 hN))
    rw [e1, e2]; rfl
theorem rem3 (b e k N : Nat) : ((b : Int) + (e : Int) + (k : Int)) % (N : Int) = (((b + e + k) % N : Nat) : Int) := by simp
theorem rem2 (b e N : Nat) : ((b : Int) + (e : Int)) % (N : Int) = (((b + e) % N : Nat) : Int) := by simp
set_option maxRecDepth 100000 in
set_option maxHeartbeats 4000000 in
theorem rowner_any (c : Cfg) (x : Int) (a : Option Addr) (cap : Nat) (zs : List Int) (y : Int) (w : World) (hr : RowI w a zs) (hl : zs.length ≤ 100000) :
    Calls Tryd.prog 36 #[(.agg #[.int .i64 c.n, .int .i64 c.cl, .int .i64 c.wi, .int .i64 c.bu, .int .i64 c.ca, .int .i64 c.sl, .int .i64 c.rq, .int .i64 c.ti, .int .i64 c.pe, .int .i64 c.la]), .int .i64 x, .slice a zs.length cap, .int .i64 y] w fun e w' => e = .returned (.int .i64 (ownerI c x zs y)) ∧ Below w.heap.size w w' := by
  obtain ⟨i0, hi, hz0, hz1, hz2⟩ := info_parts info3
  have hB1 : Below w.heap.size w (w.alloc (.cells #[.int .i64 c.n, .int .i64 c.cl, .int .i64 c.wi, .int .i64 c.bu, .int .i64 c.ca, .int .i64 c.sl, .int .i64 c.rq, .int .i64 c.ti, .int .i64 c.pe, .int .i64 c.la] 23)) := (Below.refl _ w).alloc (Nat.le_refl _) _
  have k0 := CfgAt.new w c
  have hs1 : (w.alloc (.cells #[.int .i64 c.n, .int .i64 c.cl, .int .i64 c.wi, .int .i64 c.bu, .int .i64 c.ca, .int .i64 c.sl, .int .i64 c.rq, .int .i64 c.ti, .int .i64 c.pe, .int .i64 c.la] 23)).heap.size = w.heap.size + 1 := by simp only [World.size_alloc]
  have c1 := fun w => rmay_any c x w
  go_enter Tryd.func36, Tryd.ntmps36
  go_wp2_with fail
  obtain ⟨w1, hw1⟩ : ∃ w1, w.alloc (.cells #[.int .i64 c.n, .int .i64 c.cl, .int .i64 c.wi, .int .i64 c.bu, .int .i64 c.ca, .int .i64 c.sl, .int .i64 c.rq, .int .i64 c.ti, .int .i64 c.pe, .int .i64 c.la] 23) = w1 := ⟨_, rfl⟩
  rw [hw1] at hB1 k0 hs1 ⊢
  clear hw1
  cases hm : mayC c x
  · have HL := hide (ownerI_no (zs := zs) (b := y) hm)
    simp only [hm] at c1
    clear hm
    refine (c1 w1).mono ?_
    rintro e w4 ⟨rfl, hb4⟩
    go_wp2_with fail
    go_ret
    exact ⟨ret_int (by rw [HL.out]), hB1.trans (hb4.mono (by omega))⟩
  · simp only [hm] at c1
    obtain ⟨hg, N, B, E, ok, rfl, hE1, hE2⟩ := mayC_ok hm
    have hN1 : 1 ≤ N := by have := ok.n4; omega
    have hN64 := ok.n64
    have hBN : B ≤ N := ok.bn
    have hpe := ok.pe
    refine (c1 w1).mono ?_
    rintro e w4 ⟨rfl, hb4⟩
    have k4 := k0.below hb4
    have hB4 : Below w.heap.size w w4 := hB1.trans (hb4.mono (by omega))
    have HM := hide hm
    have HOK := hide ok
    have hs4 : w.heap.size < w4.heap.size := k4.lt
    clear hm ok hg c1 hb4 k0 hs1 hB1
    have hbu : c.bu = (B : Int) := HOK.out.b
    obtain ⟨q0, -, -, q3, -, -, -, -, -, -⟩ := k4.cells
    rw [HOK.out.n] at q0
    rw [hbu] at q3
    by_cases hy : 0 ≤ y ∧ y < (B : Int)
    · obtain ⟨b, rfl⟩ := Int.eq_ofNat_of_zero_le hy.1
      have hbB : b < B := by omega
      have hbB' : (b : Int) < (B : Int) := by omega
      have HL := hide (ownerI_yes (zs := zs) HM.out HOK.out.n (show (b : Int) < c.bu by omega))
      have hn0 : decide ((b : Int) < 0) = false := decide_eq_false (by omega)
      have hn1 : decide (B ≤ b) = false := decide_eq_false (by omega)
      clear hy hbu
      go_wp2_with fail
      go_loopw [9] (fun iv wr => ∃ k : Nat, k ≤ N ∧ iv = .int .i64 (k : Int) ∧ Hid (∀ j, j < k → memB zs ((b + E + j) % N) = false) ∧ Below w4.heap.size w4 wr) (fun iv _ => N - (intOf iv).toNat)
      case atStart => exact ⟨0, by omega, rfl, hide (fun j h => by omega), Below.refl _ _⟩
      case round =>
        obtain ⟨k, hk, rfl, HN, hb⟩ := hrel
        obtain ⟨q0, -, -, -, -, -, -, -, -, -⟩ := (k4.below hb).cells
        rw [HOK.out.n] at q0
        have hBr : Below w.heap.size w wr := hB4.trans (hb.mono (by omega))
        by_cases hlt : k < N
        · have cI := rIn_any a cap zs (((b + E + k) % N : Nat) : Int) wr (hr.below hBr) hl
          have e3 := rem3 b E k N
          have HA := fun h => ownI_at (zs := zs) hlt HN.out h
          have HB : Hid (memB zs ((b + E + k) % N) = decide ((((b + E + k) % N : Nat) : Int) ∈ zs)) := hide rfl
          obtain ⟨T, hT⟩ : ∃ T, Hid ((b + E + k) % N = T) := ⟨_, hide rfl⟩
          rw [hT.out] at cI e3 HA HB
          by_cases hin : (T : Int) ∈ zs
          · rw [decide_eq_true hin] at cI
            have HA := hide (HA (by rw [HB.out, decide_eq_true hin]))
            clear hin HB hT
            go_wp2_with (go_at_call 33; refine cI.mono ?_; rintro e w8 ⟨rfl, hx⟩; obtain rfl := hx.symm; clear hx)
            go_ret
            exact ⟨ret_int (by rw [HL.out, HA.out]), hBr⟩
          · rw [decide_eq_false hin] at cI
            have HF : Hid (memB zs ((b + E + k) % N) = false) := hide (by rw [hT.out, HB.out, decide_eq_false hin])
            have HN2 : Hid (∀ j, j < k + 1 → memB zs ((b + E + j) % N) = false) := hide (fun j hj => by
              rcases Nat.lt_or_eq_of_le (Nat.lt_succ_iff.1 hj) with h | rfl
              · exact HN.out j h
              · exact HF.out)
            clear hin HB hT HA
            go_wp2_with (go_at_call 33; refine cI.mono ?_; rintro e w8 ⟨rfl, hx⟩; obtain rfl := hx.symm; clear hx)
            go_roundw
            case rel => first | exact ⟨k + 1, by omega, by go_num, HN2, hb⟩ | ((repeat apply Exists.intro); exact ⟨⟨k + 1, by omega, by go_num, HN2, hb⟩, rfl⟩)
            case measure => simp [intOf]; omega
        · obtain rfl : k = N := by omega
          have HA := hide (ownI_none (zs := zs) HN.out)
          go_wp2_with fail
          go_ret
          exact ⟨ret_int (by rw [HL.out, HA.out]), hBr⟩
    · have HL := hide (ownerI_out (x := (E : Int)) (zs := zs) (show ¬ (0 ≤ y ∧ y < c.bu) by omega))
      by_cases hy0 : y < 0
      · clear hy hbu
        go_wp2_with fail
        go_ret
        exact ⟨ret_int (by rw [HL.out]), hB4⟩
      · have hyB : ¬ y < (B : Int) := by omega
        clear hy hbu
        go_wp2_with fail
        go_ret
        exact ⟨ret_int (by rw [HL.out]), hB4⟩
end Go.Proofs.YtnndlgdlligjbabDoor.Ld
