/- window.Mark: its contract. -/
import Derived.Test.YtnjlamcpfclgaaaWA2
namespace Go.Proofs.Ytnjlamcpfclgaaa
open Go.RowKit
theorem there_set {w : World} {b o n : Nat} (h : w.there b o n) (p : Addr) (v : Value) : (w.setCell p v).there b o n := by
  intro j hj
  obtain ⟨h1, h2⟩ := h j hj
  refine ⟨?_, by rw [World.frozen?_setCell]; exact h2⟩
  by_cases e : (⟨b, o + j, none⟩ : Addr) = p
  · subst e
    obtain ⟨u, hu⟩ := Option.isSome_iff_exists.1 h1
    rw [World.cell?_setCell_same _ _ _ hu]; rfl
  · rw [World.cell?_setCell_other _ _ _ _ (fun q => e (by first | exact q | exact q.symm))]; exact h1
theorem two_cells (B m : Int) : (#[Value.int .i64 B, Value.int .u64 m].all fun x => x.oneCell') = true := by simp [Value.oneCell']
set_option maxHeartbeats 1000000 in
theorem mark_any (B : Int) (m : Nat) (hm : m < 2 ^ 64) (n : Int) (hn : n ≤ 9223372036854775807) (w : World) : Calls Try.prog 8 #[winV B (m : Int), .int .i64 n] w fun e w' => e = .returned (.tuple #[winV (markB B m n) (markM B m n : Int), .int .i64 (askW B m 64 n)]) ∧ Below w.heap.size w w' := by
  have c1 := ask_any B m hm 64 n hn
  by_cases he : askW B m 64 n = 0
  · have HB : Hid (markB B m n = setB B (mkM B m n)) := by show _ = _; unfold markB; rw [if_pos he]
    have HM : Hid (markM B m n = setM (mkM B m n)) := by show _ = _; unfold markM; rw [if_pos he]
    have hgd := ask_ok he
    have hb12 := good_B hgd.1
    have hnn := hgd.2.1
    have hnn2 := hgd.2.2.1
    rw [HB.out, HM.out]
    have c2 := with_any m hm (n - B)
    have HW : Hid (mkM B m n = withN m (n - B)) := rfl
    rw [← HW.out] at c2
    have hm2 : mkM B m n < 2 ^ 64 := withN_lt hm _
    have c3 := settled_any B (mkM B m n) hm2 (by omega) (by omega)
    generalize mkM B m n = m2 at *
    generalize setB B m2 = B3 at *
    generalize setM m2 = m3 at *
    rw [he] at c1
    rw [he]
    clear hm HB HM HW hgd he hm2
    go_enter Try.func8, Try.ntmps8
    go_wp2_with fail
    refine (c1 _).mono ?_
    rintro e w1 ⟨rfl, hb⟩
    clear c1
    obtain ⟨hA, hT, hB1, hz⟩ := two_box hb
    have f1 : w1.frozen? ⟨w.heap.size, 1, none⟩ = false := (two_box_there hb 1 (by decide)).2
    clear hb
    have q0 : w1.cell? ⟨w.heap.size, 0, none⟩ = some (.int .i64 B) := hA 0 _ rfl
    have q1 : w1.cell? ⟨w.heap.size, 1, none⟩ = some (.int .u64 (m : Int)) := hA 1 _ rfl
    go_wp2_with (go_at_call 30; refine (c2 _).mono ?_; rintro e w2 ⟨rfl, hx⟩; obtain rfl := hx.symm; clear hx)
    have hS2 : (w1.setCell ⟨w.heap.size, 1, none⟩ (.int .u64 (m2 : Int))).heap.size = w1.heap.size := by simp [World.setCell]
    have hT2 := there_set hT ⟨w.heap.size, 1, none⟩ (.int .u64 (m2 : Int))
    have hB2 : Below w.heap.size w (w1.setCell ⟨w.heap.size, 1, none⟩ (.int .u64 (m2 : Int))) := hB1.setCell (p := ⟨w.heap.size, 1, none⟩) (Nat.le_refl _) _
    refine (c3 _).mono ?_
    rintro e w3 ⟨rfl, hb3⟩
    clear c3 c2
    have hT3 := there_below hT2 hb3 (by omega)
    have hB3 := hB2.trans (hb3.mono (by omega))
    clear hT2 hB2 hb3 hT hA q0 q1
    have hrs := win_load (win_set (B := B3) (m := (m3 : Int)) hT3)
    go_wp2_with (refine wpList_store_mid (op := ⟨none, .store 24 (.tmp 4) (.tmp 23), _, _, _, none⟩) rfl 24 _ _ rfl _ _ #[.int .i64 B3, .int .u64 (m3 : Int)] rfl rfl hT3 infoW (two_cells _ _) ?_)
    exact bodyPost_ret (v := .tuple #[winV B3 (m3 : Int), .int .i64 0]) (by simp [results, Try.results8, asAddr, hrs]) rfl ⟨rfl, below_sets (by omega) _ 0 _ hB3⟩
  · have HB : Hid (markB B m n = 0) := by show _ = _; unfold markB; rw [if_neg he]
    have HM : Hid (markM B m n = 0) := by show _ = _; unfold markM; rw [if_neg he]
    rw [HB.out, HM.out]
    generalize askW B m 64 n = er at *
    clear hm HB HM
    go_enter Try.func8, Try.ntmps8
    go_wp2_with fail
    refine (c1 _).mono ?_
    rintro e w1 ⟨rfl, hb⟩
    clear c1
    obtain ⟨hA, hT3, hB3, hz⟩ := two_box hb
    clear hb
    have hrs := win_load (win_set (B := 0) (m := 0) hT3)
    go_wp2_with (refine wpList_store_mid (op := ⟨none, .store 24 (.tmp 4) (.tmp 12), _, _, _, none⟩) rfl 24 _ _ rfl _ _ #[.int .i64 0, .int .u64 0] rfl rfl hT3 infoW (two_cells _ _) ?_)
    exact bodyPost_ret (v := .tuple #[winV 0 0, .int .i64 er]) (by simp [results, Try.results8, asAddr, hrs]) rfl ⟨rfl, below_sets (by omega) _ 0 _ hB3⟩
end Go.Proofs.Ytnjlamcpfclgaaa
