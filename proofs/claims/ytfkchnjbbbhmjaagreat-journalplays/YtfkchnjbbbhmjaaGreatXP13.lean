/- raddlelaw16.light: are acts not more than are looked at? -/
import Derived.Test.YtfkchnjbbbhmjaaGreatXP12
namespace Go.Proofs.YtfkchnjbbbhmjaaGreat.Ty
open Go.RowKit
open Tal
theorem iszV' (y : Av) : (Tryz.prog.info? 38).map (·.size) = some y.cells.length := by kernel_rfl
theorem Av.one' (y : Av) : ∀ v ∈ y.cells, v.oneCell' = true := by
  intro v hv
  simp only [Av.cells, List.mem_cons, List.not_mem_nil, or_false] at hv
  rcases hv with rfl | rfl | rfl | rfl | rfl <;> rfl
theorem addTo_in {n m : Int} (h0 : 0 ≤ n) (h2 : 0 ≤ m) : 0 ≤ addTo n m ∧ addTo n m ≤ 8001 := by
  unfold addTo
  split <;> omega
theorem flatv (rs : List Rc) : rs.flatMap Rc.cells = rs.map Rc.val := by
  induction rs with
  | nil => rfl
  | cons r rs ih => rw [List.flatMap_cons, ih]; rfl
theorem recs_bel {w w' : World} {a : Option Addr} {rs : List Rc} (h : Recs w a rs) (hb : Below w.heap.size w w') : Recs w' a rs := by
  refine ⟨h.le, ?_, fun x hx => (h.rows x hx).below hb⟩
  rcases h.at0 with z | ⟨b, off, e1, e2, e3⟩
  · exact .inl z
  · exact .inr ⟨b, off, e1, Nat.lt_of_lt_of_le e2 hb.size, range_at e3 (hb.block b e2)⟩
theorem recs_av {w : World} {ra : Option Addr} {rs : List Rc} (hl : rs.length ≤ 100000000) (hr : RowOf Rc.cells w ra rs) (hk : ∀ y ∈ rs, y.ok w) : Recs w ra rs := by
  refine ⟨hl, ?_, fun x hx => (hk x hx).row⟩
  rcases hr with z | ⟨b, off, e1, e2, e3⟩
  · exact .inl z
  · exact .inr ⟨b, off, e1, e2, by rw [← flatv]; exact e3⟩
set_option maxRecDepth 100000 in
set_option maxHeartbeats 16000000 in
theorem light16_any (a : Option Addr) (cap : Nat) (ys : List Av) (w : World) (ho : ∀ y ∈ ys, y.op w) (h : RowOf Av.cells w a ys) :
    Calls Tryz.prog 4 #[.slice a ys.length cap] w fun e w' => (e = .returned (.bool false) ∧ Below w.heap.size w w') ∨ (e = .returned (.bool true) ∧ Below w.heap.size w w' ∧ ∀ y ∈ ys, y.rs.length ≤ 100) := by
  by_cases hbig : 100 < ys.length
  · have hbI : (100 : Int) < (ys.length : Int) := by omega
    go_enter Tryz.func4, Tryz.ntmps4
    go_wp2
    go_ret
    exact .inl ⟨rfl, Below.refl _ _⟩
  have hnI : ¬ (100 : Int) < (ys.length : Int) := by omega
  go_enter Tryz.func4, Tryz.ntmps4
  go_wp2
  go_loopw [3, 13] (fun nv iv wr => ∃ (k : Nat) (n : Int), k ≤ ys.length ∧ iv = .int .i64 (k : Int) ∧ nv = .int .i64 n ∧ 0 ≤ n ∧ n ≤ 8001 ∧ Hid (∀ y ∈ ys.take k, y.rs.length ≤ 100) ∧ Below w.heap.size w wr) (fun _ iv _ => ys.length - (intOf iv).toNat)
  case atStart => exact ⟨0, 0, by omega, rfl, rfl, by omega, by omega, hide (by simp), Below.refl _ _⟩
  case round =>
    obtain ⟨k, n, hk, rfl, rfl, h0, h1, HL, hB⟩ := hrel
    obtain ⟨wo, rfl⟩ : ∃ wo, wo = wr := ⟨_, rfl⟩
    by_cases hlt : k < ys.length
    · have hltI : (k : Int) < (ys.length : Int) := by omega
      obtain ⟨rb, off, rfl, hrb, hre0⟩ := h.elem (k := 5) (fun _ _ => rfl) k hlt
      have hyo := ho _ (List.getElem_mem hlt)
      have hre := range_below hre0 hB hrb
      have HT : Hid (ys[k].rs.length ≤ 100 → ∀ y ∈ ys.take (k + 1), y.rs.length ≤ 100) := hide (fun h1 y hy => by
        rw [List.take_succ_eq_append_getElem hlt] at hy
        rcases List.mem_append.1 hy with z | z
        · exact HL.out y z
        · rw [List.mem_singleton.1 z]; exact h1)
      clear hre0
      obtain ⟨y, hy⟩ : ∃ y, Hid (ys[k] = y) := ⟨_, hide rfl⟩
      rw [hy.out] at hre hyo HT
      clear hy
      obtain ⟨u, hu⟩ : ∃ u, Hid (y.cells = u) := ⟨_, hide rfl⟩
      rw [hu.out] at hre
      have F := fresh_store wo #[.int .i64 0, .slice none 0 0, .slice none 0 0, .int .i64 0, .int .i64 0] 38 u (by rw [← hu.out]; rfl)
      have hN : (wo.alloc (.cells #[.int .i64 0, .slice none 0 0, .slice none 0 0, .int .i64 0, .int .i64 0] 38)).there wo.heap.size 0 u.toArray.size := by
        have := there_new wo #[.int .i64 0, .slice none 0 0, .slice none 0 0, .int .i64 0, .int .i64 0] 38
        have e5 : u.toArray.size = 5 := by rw [← hu.out]; rfl
        rw [e5]; exact this
      have hiq : (Tryz.prog.info? 38).map (·.size) = some u.length := by rw [← hu.out]; exact iszV' y
      have hiA : (Tryz.prog.info? 38).map (·.size) = some u.toArray.size := by rw [← hu.out]; exact iszV' y
      have h1c : u.toArray.all (·.oneCell') = true := by rw [← hu.out]; exact all_oneCell_toArray (Av.one' y)
      go_upto_region 6 with fail
      try simp only [Act.put]
      refine wp_region_list ?_
      refine wpList_step fun K hK => ?_
      go_simp
      refine hK _ _ ?_
      clear hK K
      refine wpList_load_mid rfl 38 _ rfl _ _ rfl u _ hre Tryz.underlying38 rfl hiq ?_
      go_upto_region 7 with (refine wpList_store_mid (op := ⟨none, .store 38 (.tmp 5) (.tmp 16), _, _, _, none⟩) rfl 38 _ _ rfl _ _ u.toArray rfl rfl hN hiA h1c ?_)
      go_name_world w3 hw3
      rw [show (wo.alloc (.cells #[.int .i64 0, .slice none 0 0, .slice none 0 0, .int .i64 0, .int .i64 0] 38)).setCells wo.heap.size 0 u = w3 from hw3] at F
      clear hw3 hN hiA h1c hiq
      obtain ⟨hR3, hF3, hz3, -⟩ := F
      rw [← hu.out] at hR3
      obtain ⟨-, y1, y2, -, -⟩ := av_cells hR3
      have B3 := hB.trans (hF3.mono hB.size)
      clear hu hR3 hre
      have hX3 : wo.heap.size < w3.heap.size := by omega
      clear hz3
      by_cases hrl : 100 < y.rs.length
      · have hrI : (100 : Int) < (y.rs.length : Int) := by omega
        go_wp2_with fail
        go_ret
        exact .inl ⟨rfl, B3⟩
      have hrI : ¬ (100 : Int) < (y.rs.length : Int) := by omega
      have HR := hide (HT.out (by omega))
      clear HT
      have hrow3 := hyo.row.below B3
      have hzl := hyo.row.1
      unfold maxLen at hzl
      have hbA : Below w3.heap.size w3 (w3.alloc (.cells #[.slice y.rd.a y.rd.zs.length y.rd.cap] 35)) := (Below.refl _ _).alloc (Nat.le_refl _) _
      have hrg := range_new w3 #[.slice y.rd.a y.rd.zs.length y.rd.cap] 35
      have hRec : Recs (w3.alloc (.cells #[.slice y.rd.a y.rd.zs.length y.rd.cap] 35)) (some ⟨w3.heap.size, 0, none⟩) [y.rd] := ⟨by simp, .inr ⟨_, 0, rfl, by simp, hrg⟩, by
        intro x hx
        rw [List.mem_singleton.1 hx]
        exact hrow3.below hbA⟩
      have cA := Light16_any (some ⟨w3.heap.size, 0, none⟩) 1 [y.rd] _ hRec
      simp only [List.length_cons, List.length_nil, Nat.zero_add] at cA
      clear hrg hRec hrow3
      go_wp2_with fail
      refine cA.mono ?_
      rintro e w4 (⟨rfl, hB4⟩ | ⟨rfl, hB4, hwt⟩)
      · clear cA
        have hBn := B3.trans ((hbA.trans (hB4.mono hbA.size)).mono B3.size)
        go_wp2_with fail
        go_ret
        exact .inl ⟨rfl, hBn⟩
      clear cA
      have hzs : y.rd.zs.length ≤ 8000 := by simp [wtR] at hwt; omega
      clear hwt hzl
      have B34 := hbA.trans (hB4.mono hbA.size)
      have B4 := B3.trans (B34.mono B3.size)
      have y14 := cell_at y1 (B34.block _ hX3)
      have y24 := cell_at y2 (B34.block _ hX3)
      clear y1 y2 hbA hB4
      have hRs : ∀ w', Below w.heap.size w w' → Recs w' y.ra y.rs := fun w' hb => recs_bel (recs_av (by omega) hyo.rows hyo.each) hb
      have cB := Light16_any y.ra y.rc y.rs w4 (hRs w4 B4)
      have hs34 := B34.size
      go_wp2_with fail
      refine cB.mono ?_
      rintro e w5 (⟨rfl, hB5⟩ | ⟨rfl, hB5, -⟩)
      · clear cB
        have hBn := B4.trans (hB5.mono B4.size)
        go_wp2_with fail
        go_ret
        exact .inl ⟨rfl, hBn⟩
      clear cB
      have B5 := B4.trans (hB5.mono B4.size)
      have y15 := cell_at y14 (hB5.block _ (by omega))
      have y25 := cell_at y24 (hB5.block _ (by omega))
      have hX5 : wo.heap.size < w5.heap.size := by have := hB5.size; omega
      clear y14 y24 hB5 B4 B34 B3 hs34 hX3
      have c9 := addCap_any n (20 + 20 * (y.rs.length : Int) + (y.rd.zs.length : Int)) w5 h0 h1 (by omega) (by omega)
      have hin := addTo_in (m := 20 + 20 * (y.rs.length : Int) + (y.rd.zs.length : Int)) h0 (by omega)
      generalize addTo n (20 + 20 * (y.rs.length : Int) + (y.rd.zs.length : Int)) = n2 at *
      go_wp2_with fail
      refine c9.mono ?_
      rintro e w6 ⟨rfl, hx⟩
      obtain rfl := hx.symm
      clear c9 hx
      obtain ⟨i20, i21⟩ := hin
      go_wp2_with fail
      go_loopw [3, 48] (fun nv iv wr => ∃ (i : Nat) (m : Int), i ≤ y.rs.length ∧ iv = .int .i64 (i : Int) ∧ nv = .int .i64 m ∧ 0 ≤ m ∧ m ≤ 8001 ∧ Below w.heap.size w wr) (fun _ iv _ => y.rs.length - (intOf iv).toNat)
      case atStart => exact ⟨0, n2, by omega, rfl, rfl, i20, i21, B5⟩
      case round =>
        obtain ⟨i, m, hi, rfl, rfl, m0, m1, hBi⟩ := hrel
        obtain ⟨wi, rfl⟩ : ∃ wi, wi = wr := ⟨_, rfl⟩
        by_cases hli : i < y.rs.length
        · have hliI : (i : Int) < (y.rs.length : Int) := by omega
          obtain ⟨b1, o1, hA1, hb1, hc1, hr1⟩ := (hRs wi hBi).get i hli
          have hzi := hr1.1
          unfold maxLen at hzi
          have c7 := addCap_any m (y.rs[i].zs.length : Int) wi m0 m1 (by omega) (by omega)
          have hin := addTo_in (m := (y.rs[i].zs.length : Int)) m0 (by omega)
          obtain ⟨m2, hm2⟩ : ∃ m2, Hid (addTo m (y.rs[i].zs.length : Int) = m2) := ⟨_, hide rfl⟩
          rw [hm2.out] at c7 hin
          clear hr1 hm2
          rw [hA1]
          go_wp2_with fail
          refine c7.mono ?_
          rintro e w7 ⟨rfl, hx⟩
          obtain rfl := hx.symm
          clear c7 hx
          go_wp2_with fail
          go_roundw
          case rel => exact ⟨i + 1, m2, by omega, by go_num, rfl, hin.1, hin.2, hBi⟩
          case measure => simp [intOf]; omega
        · have hliI : ¬ (i : Int) < (y.rs.length : Int) := by omega
          go_wp2_with fail
          go_roundw
          case rel => exact ⟨k + 1, m, by omega, by go_num, rfl, m0, m1, HR, hBi⟩
          case measure => simp [intOf]; omega
    · have k1 : ¬ (k : Int) < (ys.length : Int) := by omega
      have HF : Hid (∀ y ∈ ys, y.rs.length ≤ 100) := hide (fun y hy => HL.out y (by rw [List.take_of_length_le (by omega)]; exact hy))
      by_cases hn : n ≤ 8000
      · go_wp2_with fail
        go_ret
        exact .inr ⟨rfl, hB, HF.out⟩
      · go_wp2_with fail
        go_ret
        exact .inl ⟨rfl, hB⟩
end Go.Proofs.YtfkchnjbbbhmjaaGreat.Ty
