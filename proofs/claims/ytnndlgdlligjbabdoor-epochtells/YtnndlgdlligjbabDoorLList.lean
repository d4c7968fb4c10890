/- leaders.List: a contract. -/
import Derived.Test.YtnndlgdlligjbabDoorLBox
namespace Go.Proofs.YtnndlgdlligjbabDoor.Ld
open Go.RowKit Go.Shelf
theorem listL_no {c : Cfg} {x : Int} {zs : List Int} (h : mayC c x = false) : listL c x zs = [] := by simp [listL, h]
theorem listL_yes {c : Cfg} {x : Int} {zs : List Int} (h : mayC c x = true) {N : Nat} (hn : c.n = (N : Int)) : listL c x zs = listN N x zs := by simp [listL, h, hn]
theorem listN_few {N : Nat} {x : Int} {zs : List Int} (h : (freeU zs x N).length < N / 3 + 1) : listN N x zs = List.range N := by simp [listN, h]
theorem listN_many {N : Nat} {x : Int} {zs : List Int} (h : ¬ (freeU zs x N).length < N / 3 + 1) : listN N x zs = freeU zs x N := by simp [listN, h]
theorem someI_nat {N : Nat} (h4 : 4 ≤ N) (h64 : N ≤ 64) (h3 : N % 3 = 1) : someI (N : Int) = ((N / 3 + 1 : Nat) : Int) := by
  rw [someI_g (goodB_mk (by omega))]; omega
theorem filter_true (N : Nat) : (List.range N).filter (fun _ => true) = List.range N := by simp
set_option maxRecDepth 100000 in
set_option maxHeartbeats 4000000 in
theorem list_any (c : Cfg) (x : Int) (a : Option Addr) (cap : Nat) (zs : List Int) (w : World) (hr : RowI w a zs) :
    Calls Tryd.prog 38 #[(.agg #[.int .i64 c.n, .int .i64 c.cl, .int .i64 c.wi, .int .i64 c.bu, .int .i64 c.ca, .int .i64 c.sl, .int .i64 c.rq, .int .i64 c.ti, .int .i64 c.pe, .int .i64 c.la]), .int .i64 x, .slice a zs.length cap] w fun e w' => ∃ v, e = .returned v ∧ w'.ownsRow w.heap.size 3 1 v (listL c x zs).length (vals (listL c x zs)) ∧ Below w.heap.size w w' := by
  have hB3 : Below w.heap.size w (((w.alloc (.cells #[.int .i64 c.n, .int .i64 c.cl, .int .i64 c.wi, .int .i64 c.bu, .int .i64 c.ca, .int .i64 c.sl, .int .i64 c.rq, .int .i64 c.ti, .int .i64 c.pe, .int .i64 c.la] 23)).alloc (.cells #[.int .i64 x] 3)).alloc (.cells #[.slice a zs.length cap] 24)) := (((Below.refl _ w).alloc (Nat.le_refl _) _).alloc (by simp) _).alloc (by simp; omega) _
  have k0 := ((CfgAt.new w c).alloc (.cells #[.int .i64 x] 3)).alloc (.cells #[.slice a zs.length cap] 24)
  have k1 := (Boxed.new (w.alloc (.cells #[.int .i64 c.n, .int .i64 c.cl, .int .i64 c.wi, .int .i64 c.bu, .int .i64 c.ca, .int .i64 c.sl, .int .i64 c.rq, .int .i64 c.ti, .int .i64 c.pe, .int .i64 c.la] 23)) 3 (.int .i64 x)).alloc (.cells #[.slice a zs.length cap] 24)
  have k2 := Boxed.new ((w.alloc (.cells #[.int .i64 c.n, .int .i64 c.cl, .int .i64 c.wi, .int .i64 c.bu, .int .i64 c.ca, .int .i64 c.sl, .int .i64 c.rq, .int .i64 c.ti, .int .i64 c.pe, .int .i64 c.la] 23)).alloc (.cells #[.int .i64 x] 3)) 24 (.slice a zs.length cap)
  have hs3 : (((w.alloc (.cells #[.int .i64 c.n, .int .i64 c.cl, .int .i64 c.wi, .int .i64 c.bu, .int .i64 c.ca, .int .i64 c.sl, .int .i64 c.rq, .int .i64 c.ti, .int .i64 c.pe, .int .i64 c.la] 23)).alloc (.cells #[.int .i64 x] 3)).alloc (.cells #[.slice a zs.length cap] 24)).heap.size = w.heap.size + 3 := by simp only [World.size_alloc]
  simp only [World.size_alloc] at k1 k2
  have c1 := fun w => mayBe_any c x w
  have hB3' := hB3
  go_enter Tryd.func38, Tryd.ntmps38
  go_wp2_with fail
  obtain ⟨w3, hw3⟩ : ∃ w3, ((w.alloc (.cells #[.int .i64 c.n, .int .i64 c.cl, .int .i64 c.wi, .int .i64 c.bu, .int .i64 c.ca, .int .i64 c.sl, .int .i64 c.rq, .int .i64 c.ti, .int .i64 c.pe, .int .i64 c.la] 23)).alloc (.cells #[.int .i64 x] 3)).alloc (.cells #[.slice a zs.length cap] 24) = w3 := ⟨_, rfl⟩
  rw [hw3] at hB3 k0 k1 k2 hs3 ⊢
  clear hw3 hB3'
  cases hm : mayC c x
  · have HL := hide (listL_no (zs := zs) hm)
    simp only [hm] at c1
    clear hm
    refine (c1 w3).mono ?_
    rintro e w4 ⟨rfl, hb4⟩
    go_wp2_with fail
    go_ret
    exact ⟨_, rfl, by rw [HL.out]; exact World.ownsRow_nil _ _ _ _, hB3.trans (hb4.mono (by omega))⟩
  · obtain ⟨hg, N, B, E, ok, rfl, hE1, hE2⟩ := mayC_ok hm
    have HL := hide (listL_yes (zs := zs) hm ok.n)
    simp only [hm] at c1
    clear hm
    refine (c1 w3).mono ?_
    rintro e w4 ⟨rfl, hb4⟩
    have hB4 : Below w.heap.size w w4 := hB3.trans (hb4.mono (by omega))
    have q0 := (k0.below hb4).cells.1
    have q1 := boxed_below k1 hb4
    have q2 := boxed_below k2 hb4
    have hs4 : w.heap.size + 3 ≤ w4.heap.size := by have := hb4.size; omega
    clear k0 k1 k2 hb4 hs3 c1
    have hn := ok.n
    rw [hn] at q0
    have cN := nodesThat_any N (by have := ok.n4; omega) ok.n64 56 (enters_of Tryd.func56 (by kernel_rfl) rfl) #[.pointer (some ⟨w.heap.size + 1 + 1, 0, none⟩), .pointer (some ⟨w.heap.size + 1, 0, none⟩)] (fun k => decide (penI zs k ≤ (E : Int))) w4
      (fun k W hW => list1_any (w.heap.size + 1 + 1) (w.heap.size + 1) a cap zs (E : Int) k W ((hr.below hB4).below hW) ((hW.cell (p := ⟨w.heap.size + 1 + 1, 0, none⟩) q2.lt).trans q2.cell) ((hW.cell (p := ⟨w.heap.size + 1, 0, none⟩) q1.lt).trans q1.cell))
    have cS := fun w => some_any (N : Int) w
    simp only [someI_nat ok.n4 ok.n64 ok.n3] at cS
    have hq : Hid (freeU zs (E : Int) N = (List.range N).filter (fun k => decide (penI zs k ≤ (E : Int)))) := hide rfl
    have hlen : ((List.range N).filter (fun k => decide (penI zs k ≤ (E : Int)))).length ≤ 64 := Nat.le_trans (filter_le _ _) ok.n64
    rw [← hq.out] at cN hlen
    clear hq q1 q2 hn
    have HN := hide (ok.n)
    have hN1 : 1 ≤ N := by have := ok.n4; omega
    have hN64 := ok.n64
    clear ok hg
    go_wp2_with fail
    refine cN.mono ?_
    rintro e w5 ⟨v, rfl, hrow, hb5⟩
    obtain ⟨va, vcap, rfl⟩ := ownsRow_slice hrow
    have q5 := (hb5.cell (p := ⟨w.heap.size, 0, none⟩) (by show w.heap.size < _; omega)).trans q0
    have hB5 : Below w.heap.size w w5 := hB4.trans (hb5.mono (by omega))
    by_cases hfew : (freeU zs (E : Int) N).length < N / 3 + 1
    · have HF := hide (listN_few hfew)
      have hfew' : ((freeU zs (E : Int) N).length : Int) < ((N / 3 + 1 : Nat) : Int) := by omega
      clear hfew
      generalize (freeU zs (E : Int) N).length = fl at *
      generalize ((N / 3 + 1 : Nat) : Int) = so at *
      have cM := nodesThat_any N hN1 hN64 59 (enters_of Tryd.func59 (by kernel_rfl) rfl) #[] (fun _ => true) w5 (fun k W hW => (list2_any (k : Int) W).mono fun e w' ⟨he, hw⟩ => ⟨he, hw ▸ Below.refl _ _⟩)
      rw [filter_true] at cM
      obtain ⟨rn, hrn⟩ : ∃ rn, Hid (List.range N = rn) := ⟨_, hide rfl⟩
      rw [hrn.out] at cM
      go_wp2_with (go_at_call 58; refine (cS _).mono ?_; rintro e w6 ⟨rfl, hx⟩; obtain rfl := hx.symm; clear hx)
      refine cM.mono ?_
      rintro e w6 ⟨v, rfl, hrow6, hb6⟩
      obtain ⟨va6, vcap6, rfl⟩ := ownsRow_slice hrow6
      go_wp2_with fail
      go_ret
      exact ⟨_, rfl, by rw [HL.out, HF.out, hrn.out]; exact ownsRow_low (base := w5.heap.size) (by have := hb5.size; omega) hrow6, hB5.trans (hb6.mono (by have := hb5.size; omega))⟩
    · have HF := hide (listN_many hfew)
      have hfew' : ¬ ((freeU zs (E : Int) N).length : Int) < ((N / 3 + 1 : Nat) : Int) := by omega
      clear hfew
      generalize ((N / 3 + 1 : Nat) : Int) = so at *
      generalize freeU zs (E : Int) N = fl at *
      go_wp2_with (go_at_call 58; refine (cS _).mono ?_; rintro e w6 ⟨rfl, hx⟩; obtain rfl := hx.symm; clear hx)
      go_ret
      exact ⟨_, rfl, by rw [HL.out, HF.out]; exact ownsRow_low (base := w4.heap.size) (by omega) hrow, hB5⟩
end Go.Proofs.YtnndlgdlligjbabDoor.Ld
