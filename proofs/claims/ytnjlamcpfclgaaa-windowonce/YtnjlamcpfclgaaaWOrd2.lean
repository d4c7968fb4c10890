/- raddlelaw09.marked: its contract. -/
import Derived.Test.YtnjlamcpfclgaaaWOrd
namespace Go.Proofs.Ytnjlamcpfclgaaa
open Go.RowKit
theorem marks_step {B : Int} {m : Nat} {l : List Int} {k : Nat} (hk : k < l.length) : marks B m (l.drop k) = if askW B m 64 l[k] = 0 then marks (setB B (mkM B m l[k])) (setM (mkM B m l[k])) (l.drop (k + 1)) else (B, m, false) := by
  rw [List.drop_eq_getElem_cons hk, marks]
theorem marks_end {B : Int} {m : Nat} {l : List Int} : marks B m (l.drop l.length) = (B, m, true) := by
  rw [List.drop_length, marks]
/-- the box of a window that is marked, and the answer's behind it -/
structure Mk (w : World) (B m : Int) (W : World) : Prop where
  row : W.rangeAt w.heap.size 0 (winC B m)
  box : W.there w.heap.size 0 2
  ans : W.there (w.heap.size + 1) 0 2
  below : Below w.heap.size w W
  size : w.heap.size + 2 ≤ W.heap.size
theorem Mk.on {w W W' : World} {B m : Int} (h : Mk w B m W) (hb : Below W.heap.size W W') : Mk w B m W' := by
  have hs := h.size
  exact ⟨range_below h.row hb (by omega), there_below h.box hb (by omega), there_below h.ans hb (by omega), h.below.trans (hb.mono (by omega)), by have := hb.size; omega⟩
theorem there_sets {w : World} {b o n c p : Nat} {vs : List Value} (h : w.there b o n) : (w.setCells c p vs).there b o n :=
  World.there_setCells h c p vs
theorem Mk.set {w W : World} {B m : Int} (h : Mk w B m W) (B' m' : Int) : Mk w B' m' (W.setCells w.heap.size 0 (winC B' m')) :=
  ⟨win_set h.box, there_sets h.box, there_sets h.ans, below_sets (Nat.le_refl _) _ 0 _ h.below, by rw [size_sets]; exact h.size⟩
set_option maxHeartbeats 2000000 in
theorem marked_any (B : Int) (m : Nat) (hm : m < 2 ^ 64) (a : Option Addr) (cap : Nat) (zs : List Int) (w : World) (hr : RowI w a zs) (hl : zs.length ≤ 200) (hw : ∀ z ∈ zs, z ≤ 9223372036854775807) :
    Calls Try.prog 29 #[winV B (m : Int), .slice a zs.length cap] w fun e w' => e = .returned (.tuple #[winV (marks B m zs).1 ((marks B m zs).2.1 : Int), .bool (marks B m zs).2.2]) ∧ Below w.heap.size w w' := by
  obtain ⟨R, hR⟩ : ∃ R, Hid (marks B m zs = R) := ⟨_, rfl⟩
  rw [hR.out]
  have hb0 := two_box (Below.refl ((w.alloc (.cells #[.int .i64 B, .int .u64 (m : Int)] 24)).alloc (.cells #[.int .i64 0, .int .u64 0] 24)).heap.size _)
  have hb1 := two_box_there (Below.refl ((w.alloc (.cells #[.int .i64 B, .int .u64 (m : Int)] 24)).alloc (.cells #[.int .i64 0, .int .u64 0] 24)).heap.size _)
  have hM0 : Mk w B (m : Int) ((w.alloc (.cells #[.int .i64 B, .int .u64 (m : Int)] 24)).alloc (.cells #[.int .i64 0, .int .u64 0] 24)) := ⟨hb0.1, hb1, hb0.2.1, hb0.2.2.1, hb0.2.2.2⟩
  clear hb0 hb1
  go_enter Try.func29, Try.ntmps29
  go_wp2_with fail
  obtain ⟨w0, hw0⟩ : ∃ w0, (w.alloc (.cells #[.int .i64 B, .int .u64 (m : Int)] 24)).alloc (.cells #[.int .i64 0, .int .u64 0] 24) = w0 := ⟨_, rfl⟩
  rw [hw0] at hM0 ⊢
  clear hw0
  go_loopw [12] (fun kv wr => ∃ (k : Nat) (B' : Int) (m' : Nat), k ≤ zs.length ∧ kv = .int .i64 (k : Int) ∧ Mk w B' (m' : Int) wr ∧ Hid (m' < 2 ^ 64) ∧ Hid (marks B' m' (zs.drop k) = R)) (fun kv _ => zs.length - (intOf kv).toNat)
  case atStart => exact ⟨0, B, m, Nat.zero_le _, rfl, hM0, hide hm, hide (by rw [List.drop_zero]; exact hR.out)⟩
  case round =>
    obtain ⟨k, B', m', hk, rfl, hM, hm', HR⟩ := hrel
    by_cases hlt : k < zs.length
    · have HS := hide (marks_step (B := B') (m := m') hlt)
      obtain ⟨b, off, rfl, hcx⟩ := rowI_cell hr hM.below hlt
      have hn := hw _ (List.getElem_mem hlt)
      have hkl : (k : Int) < zs.length := by omega
      have c1 := mark_any B' m' hm'.out zs[k] hn
      have hm2 := hide (markM_lt (B := B') hm'.out zs[k])
      have q0 : wr.cell? ⟨w.heap.size, 0, none⟩ = some (.int .i64 B') := hM.row 0 _ rfl
      have q1 : wr.cell? ⟨w.heap.size, 1, none⟩ = some (.int .u64 (m' : Int)) := hM.row 1 _ rfl
      by_cases he : askW B' m' 64 zs[k] = 0
      · have HR2 : Hid (marks (markB B' m' zs[k]) (markM B' m' zs[k]) (zs.drop (k + 1)) = R) := hide (by rw [← HR.out, HS.out, if_pos he]; unfold markB markM; rw [if_pos he, if_pos he])
        rw [he] at c1
        generalize zs[k] = x at *
        generalize markB B' m' x = B2 at *
        generalize markM B' m' x = m2 at *
        clear HS he HR
        go_wp2_with fail
        refine (c1 _).mono ?_
        rintro e w2 ⟨rfl, hb2⟩
        clear c1 hcx q0 q1
        have hb3 : Below w2.heap.size w2 (w2.alloc (.cells #[.int .i64 B2, .int .u64 (m2 : Int)] 24)) := (Below.refl _ _).alloc (Nat.le_refl _) _
        have hM3 := (hM.on hb2).on hb3
        have hM4 := hM3.set B2 (m2 : Int)
        have hbx := hM3.box
        go_wp2_with (refine wpList_store_mid (op := ⟨none, .store 24 (.tmp 2) (.tmp 25), _, _, _, none⟩) rfl 24 _ _ rfl _ _ #[.int .i64 B2, .int .u64 (m2 : Int)] rfl rfl hbx infoW (two_cells _ _) ?_)
        go_roundw
        case rel => exact ⟨k + 1, B2, m2, by omega, by go_num, hM4, hm2, HR2⟩
        case measure => simp [intOf]; omega
      · have HR2 : Hid ((B', m', false) = R) := hide (by rw [← HR.out, HS.out, if_neg he])
        generalize zs[k] = x at *
        generalize markB B' m' x = B2 at *
        generalize markM B' m' x = m2 at *
        generalize askW B' m' 64 x = er at *
        clear HS HR
        go_wp2_with fail
        refine (c1 _).mono ?_
        rintro e w2 ⟨rfl, hb2⟩
        clear c1 hcx q0 q1
        have hb3 : Below w2.heap.size w2 (w2.alloc (.cells #[.int .i64 B2, .int .u64 (m2 : Int)] 24)) := (Below.refl _ _).alloc (Nat.le_refl _) _
        have hM3 := (hM.on hb2).on hb3
        obtain ⟨w3, hw3⟩ : ∃ w3, w2.alloc (.cells #[.int .i64 B2, .int .u64 (m2 : Int)] 24) = w3 := ⟨_, rfl⟩
        rw [hw3] at hM3
        have q0 : w3.cell? ⟨w.heap.size, 0, none⟩ = some (.int .i64 B') := hM3.row 0 _ rfl
        have q1 : w3.cell? ⟨w.heap.size, 1, none⟩ = some (.int .u64 (m' : Int)) := hM3.row 1 _ rfl
        have han := hM3.ans
        have hrs := win_load (win_set (B := B') (m := (m' : Int)) han)
        go_wp2_with (refine wpList_store_mid (op := ⟨none, .store 24 (.tmp 4) (.tmp 24), _, _, _, none⟩) rfl 24 _ _ rfl _ _ #[.int .i64 B', .int .u64 (m' : Int)] rfl rfl han infoW (two_cells _ _) ?_)
        (try simp only [Exit.inBlock, Exit.then])
        refine bodyPost_ret (v := .tuple #[winV B' (m' : Int), .bool false]) ?_ rfl ?_
        · simp [results, Try.results29, asAddr, hrs]
        · exact ⟨by rw [← HR2.out], below_sets (by omega) _ 0 _ hM3.below⟩
    · obtain rfl : k = zs.length := by omega
      have HR2 : Hid ((B', m', true) = R) := hide (by rw [← HR.out, marks_end])
      have q0 : wr.cell? ⟨w.heap.size, 0, none⟩ = some (.int .i64 B') := hM.row 0 _ rfl
      have q1 : wr.cell? ⟨w.heap.size, 1, none⟩ = some (.int .u64 (m' : Int)) := hM.row 1 _ rfl
      have han := hM.ans
      have hrs := win_load (win_set (B := B') (m := (m' : Int)) han)
      go_wp2_with (refine wpList_store_mid (op := ⟨none, .store 24 (.tmp 4) (.tmp 27), _, _, _, none⟩) rfl 24 _ _ rfl _ _ #[.int .i64 B', .int .u64 (m' : Int)] rfl rfl han infoW (two_cells _ _) ?_)
      exact bodyPost_ret (v := .tuple #[winV B' (m' : Int), .bool true]) (by simp [results, Try.results29, asAddr, hrs]) rfl ⟨by rw [← HR2.out], below_sets (by omega) _ 0 _ hM.below⟩
end Go.Proofs.Ytnjlamcpfclgaaa
