/- leaders.nodesThat: a contract. -/
import Derived.Test.YtnndlgdlligjbabDoorLKeep
namespace Go.Proofs.YtnndlgdlligjbabDoor.Ld
open Go.RowKit Go.Shelf
attribute [local go_sem] Oper.semAt_some
theorem from_stops (F : Fence) (n : Nat) (h29 : F.fn 72) (hro : F.round = none) (hn : 2 ≤ n) (Bn Bf : Nat) (N f : Nat) (hN : 1 ≤ N) (hN64 : N ≤ 64) (hf : f ≤ 2000000) (w : World) (hBn : Bn < w.heap.size) (hBf : Bf < w.heap.size)
    (hcn : w.cell? ⟨Bn, 0, none⟩ = some (.int .i64 (N : Int))) (hcf : w.cell? ⟨Bf, 0, none⟩ = some (.int .i64 (f : Int))) :
    SeqStopsK F n Tryd.prog 72 #[.pointer (some ⟨Bn, 0, none⟩), .pointer (some ⟨Bf, 0, none⟩)] (fun x : Nat => #[Value.int .i64 (x : Int)]) (Keeps2 Bn Bf) (fun ys => ys = roundF N f N) (fun pre => pre <+: roundF N f N) 64 w := fun l J Jx W hW _ _ hY h0 =>
  from1_in F n h29 hro hn N f hN hN64 hf l Bn Bf (Keeps2 Bn Bf) (Keeps2.rf Bn Bf) (fun h k => h.tr k) (fun h e => h.1.cell e) (fun h e => h.2.cell e) J Jx hY W ((hW.cell (p := ⟨Bn, 0, none⟩) hBn).trans hcn) ((hW.cell (p := ⟨Bf, 0, none⟩) hBf).trans hcf) h0
theorem two_new (w : World) (N f : Int) : ((w.alloc (.cells #[.int .i64 N] 3)).alloc (.cells #[.int .i64 f] 3)).cell? ⟨w.heap.size, 0, none⟩ = some (.int .i64 N) ∧ ((w.alloc (.cells #[.int .i64 N] 3)).alloc (.cells #[.int .i64 f] 3)).cell? ⟨w.heap.size + 1, 0, none⟩ = some (.int .i64 f) := by
  refine ⟨((Boxed.new w 3 (.int .i64 N)).alloc _).cell, ?_⟩
  have := (Boxed.new (w.alloc (.cells #[.int .i64 N] 3)) 3 (.int .i64 f)).cell
  rwa [World.size_alloc] at this
theorem filter_snoc_yes {p : Nat → Bool} {pre : List Nat} {x : Nat} (h : p x = true) : (pre ++ [x]).filter p = pre.filter p ++ [x] := by simp [List.filter_append, h]
theorem filter_snoc_no {p : Nat → Bool} {pre : List Nat} {x : Nat} (h : p x = false) : (pre ++ [x]).filter p = pre.filter p := by simp [List.filter_append, h]
theorem callsIn_of {f n : Nat} {args : Array Value} {w : World} {Q : Ending → World → Prop} (h : Calls Tryd.prog f args w Q) (F : Fence) (hF : F = Fence.wide) : CallsIn F n Tryd.prog f args w Q := by subst hF; exact (callsIn_wide (n := n)).2 h
set_option maxRecDepth 100000 in
set_option maxHeartbeats 2000000 in
theorem nodesThat_in (F : Fence) (hFw : Hid (F = Fence.wide)) (h35 : F.fn 55) (h45 : F.fn 60) (h55 : F.fn 72) (hro : F.round = none) (N : Nat) (hN : 1 ≤ N) (hN64 : N ≤ 64) (g : Nat) (hg : F.fn g) (eg : ∀ args w, (callFunc g args).run Tryd.prog w = .ok (.enter g args) w) (caps : Array Value) (p : Nat → Bool) (w : World)
    (hp : ∀ (x : Nat) (W : World), Below w.heap.size w W → Calls Tryd.prog g (#[.int .i64 (x : Int)] ++ caps) W fun e W' => e = .returned (.bool (p x)) ∧ Below W.heap.size W W') :
    CallsIn F 8 Tryd.prog 55 #[.int .i64 (N : Int), .func (.func g) #[] caps] w fun e W' => ∃ v, e = .returned v ∧ W'.ownsRow w.heap.size 3 1 v ((List.range N).filter p).length (vals ((List.range N).filter p)) ∧ Below w.heap.size w W' := by
  obtain ⟨i0, hi, hz0, hz1, hz2⟩ := info_parts info3
  have cA := fun w => from_in F 7 h45 hro (N : Int) 0 w
  refine callsIn_of_wp_marks Tryd.func55 rfl h35 ?_ hro
  simp only [Tryd.ntmps55, List.size_toArray, List.length_cons, List.length_nil, Nat.reduceAdd, Nat.reduceSub, Array.replicate_succ, Array.replicate_zero, List.push_toArray, List.append_toArray, List.nil_append, List.cons_append]
  gi_wp2_with (gi_at_call 60; refine (cA _).mono ?_; rintro e w2 ⟨rfl, rfl⟩)
  clear cA
  have bM0 := (Boxed.new w 59 (.func (.func g) #[] caps))
  have hB1 : Below w.heap.size w (w.alloc (.cells #[.func (.func g) #[] caps] 59)) := (Below.refl _ w).alloc (Nat.le_refl _) _
  have hs1 : (w.alloc (.cells #[.func (.func g) #[] caps] 59)).heap.size = w.heap.size + 1 := World.size_alloc _ _
  obtain ⟨w1, hw1⟩ : ∃ w1, w.alloc (.cells #[.func (.func g) #[] caps] 59) = w1 := ⟨_, rfl⟩
  rw [hw1] at bM0 hB1 hs1 ⊢
  clear hw1
  have bM := bM0.alloc (.cells #[.slice none 0 0] 24)
  have bO := Boxed.new w1 24 (.slice none 0 0)
  have hB2 : Below w.heap.size w (w1.alloc (.cells #[.slice none 0 0] 24)) := hB1.alloc (by omega) _
  have hs2 : (w1.alloc (.cells #[.slice none 0 0] 24)).heap.size = w.heap.size + 1 + 1 := by rw [World.size_alloc, hs1]
  obtain ⟨w2, hw2⟩ : ∃ w2, w1.alloc (.cells #[.slice none 0 0] 24) = w2 := ⟨_, rfl⟩
  rw [hs1] at bO
  rw [hw2] at bM bO hB2 hs2 ⊢
  clear hw2 bM0 hB1
  obtain ⟨hcn, hcf⟩ := two_new w2 (N : Int) 0
  have bM3 := (bM.alloc (.cells #[.int .i64 (N : Int)] 3)).alloc (.cells #[.int .i64 0] 3)
  have bO3 := (bO.alloc (.cells #[.int .i64 (N : Int)] 3)).alloc (.cells #[.int .i64 0] 3)
  have hB3 : Below w.heap.size w ((w2.alloc (.cells #[.int .i64 (N : Int)] 3)).alloc (.cells #[.int .i64 0] 3)) := (hB2.alloc (by omega) _).alloc (by simp; omega) _
  have hs3 : ((w2.alloc (.cells #[.int .i64 (N : Int)] 3)).alloc (.cells #[.int .i64 0] 3)).heap.size = w.heap.size + 4 := by rw [World.size_alloc, World.size_alloc, hs2]
  rw [hs2] at hcn hcf
  obtain ⟨w3, hw3⟩ : ∃ w3, (w2.alloc (.cells #[.int .i64 (N : Int)] 3)).alloc (.cells #[.int .i64 0] 3) = w3 := ⟨_, rfl⟩
  rw [hw3] at hcn hcf bM3 bO3 hB3 hs3 ⊢
  clear hw3 bM bO hB2 hs2 hs1
  have H3 := hide hs3
  have l0 : w.heap.size + 1 ≤ w3.heap.size := by omega
  have l1 : w.heap.size < w3.heap.size := by omega
  have l2 : w.heap.size + 1 + 1 < w3.heap.size := by omega
  have l3 : w.heap.size + 1 + 1 + 1 < w3.heap.size := by omega
  clear hs3
  refine wpIn_rangeFunc_ownG hro (by decide) (gf := 72) (lb := #[.pointer (some ⟨w.heap.size + 1 + 1, 0, none⟩), .pointer (some ⟨w.heap.size + 1 + 1 + 1, 0, none⟩)]) rfl h55 (enters_of Tryd.func72 (by kernel_rfl) rfl)
    (from_stops F 7 h55 hro (by decide) (w.heap.size + 1 + 1) (w.heap.size + 1 + 1 + 1) N 0 hN hN64 (by decide) w3 l2 l3 hcn hcf) (fun h k => h.tr k) (keeps2_b l2 l3) (Below.refl _ _) (fun _ => rfl)
    (fun pre W => (∃ v, Boxed W (w.heap.size + 1) 24 v ∧ W.ownsRow w3.heap.size 3 1 v (pre.filter p).length (vals (pre.filter p)) ∧ True) ∧ Below (w.heap.size + 1) w3 W ∧ w3.heap.size ≤ W.heap.size)
    (fun _ _ _ => False)
    (OwnFrom.and (Own.from (holdsRow_own w3.heap.size (w.heap.size + 1) 24 3 1 (fun pre : List Nat => (pre.filter p).length) (fun pre => vals (pre.filter p)) (fun _ _ => True)) _) (OwnFrom.and (ownFrom_below l0 l0) (fun _ _ _ _ hs hg _ => Nat.le_trans hs hg.size)))
    (fun _ _ _ _ _ hs _ _ => hs)
    ⟨⟨_, bO3, World.ownsRow_nil _ _ _ _, trivial⟩, Below.refl _ _, Nat.le_refl _⟩
    (fun x => { tmps := #[.int .i64 (N : Int), .func (.func g) #[] caps, undef, .pointer (some ⟨w.heap.size, 0, none⟩), .slice none 0 0, .pointer (some ⟨w.heap.size + 1, 0, none⟩), .int .i64 (x : Int), .int .i64 (N : Int), .func (.func 72) #[] #[.pointer (some ⟨w.heap.size + 1 + 1, 0, none⟩), .pointer (some ⟨w.heap.size + 1 + 1 + 1, 0, none⟩)], .int .i64 (x : Int), undef, undef, undef, undef, undef, undef, undef, undef], defers := [] }) ?assign ?body ?done ?stop
  case assign =>
    intro l x W K hK
    gi_wp2
    exact hK
  case body =>
    rintro l pre x W ⟨⟨v, hv, hrow, -⟩, hB, hge⟩ hlt
    have hcm : W.cell? ⟨w.heap.size, 0, none⟩ = some (.func (.func g) #[] caps) := (hB.cell (p := ⟨w.heap.size, 0, none⟩) (by simp)).trans bM3.cell
    have hBw : Below w.heap.size w W := hB3.trans (hB.mono (by omega))
    have cp := hp x W hBw
    obtain ⟨va, vcap, rfl⟩ := ownsRow_slice hrow
    have hlen : (pre.filter p).length ≤ pre.length := List.length_filter_le _ _
    cases hb : p x
    · have HF := hide (filter_snoc_no (pre := pre) hb)
      rw [hb] at cp
      have cq := CallsIn.inRound l (callsIn_of (n := 8 - 1 - 1 - 1) cp F hFw.out)
      clear hb cp hp
      gi_wp2
      refine cq.mono ?_
      rintro e w5 ⟨rfl, hb5⟩
      gi_wp2
      exact ⟨(KeepsOthers.of_grownBy (gb_below hb5) (fun j o e => by cases e)).from _, ⟨KeepsAt.of_below hb5, KeepsAt.of_below hb5⟩, ⟨_, boxed_below hv hb5, by rw [HF.out]; exact ownsRow_below hrow hb5, trivial⟩, hB.trans (hb5.mono (by omega)), Nat.le_trans hge hb5.size⟩
    · have HF := hide (filter_snoc_yes (pre := pre) hb)
      rw [hb] at cp
      have cq := CallsIn.inRound l (callsIn_of (n := 8 - 1 - 1 - 1) cp F hFw.out)
      clear hb cp hp
      generalize pre.filter p = fl at *
      gi_wp2
      refine cq.mono ?_
      rintro e w5 ⟨rfl, hb5⟩
      have hv5 := boxed_below hv hb5
      have hrow5 := ownsRow_below hrow hb5
      have hge5 := Nat.le_trans hge hb5.size
      have hc := hv5.cell
      have hk5 : KeepsOthers W w5 := KeepsOthers.of_grownBy (gb_below hb5) (fun j o e => by cases e)
      gi_wp2_with (gi_at_builtin; refine wpListIn_append_own _ rfl _ _ 24 rfl w3.heap.size 3 i0 (.int .i64 0) 1 8 Tryd.underlying24 hi hz0 hz1 hz2 rfl (by decide) _ _ _ rfl (hrow5.alloc _) ⟨w5.heap.size, 0, none⟩ 1 1 [.int .i64 (x : Int)] rfl rfl (cell_one_new _ _ _) (by simp [Value.oneCell']) (by unfold maxLen; omega) (by omega) (by simp; omega) ?_; intro v' w2 hown' hgrow _; obtain ⟨g', cap', rfl⟩ := ownsRow_succ hown'; obtain ⟨hv1, hv2, hr2, hk2, hb2⟩ := appended_box hv5 (by decide) hrow5 hge5 l0 hown' hgrow; have hc1 := hv1.cell; have hf1 := hv1.frozen)
      refine ⟨(hk5.trans hk2).from _, ⟨(KeepsAt.of_below hb5).tr (appended_keeps hrow5 hgrow l2 (by omega)), (KeepsAt.of_below hb5).tr (appended_keeps hrow5 hgrow l3 (by omega))⟩, ⟨_, hv2, by rw [HF.out, vals_snoc]; simpa using hr2, trivial⟩, (hB.trans (hb5.mono (by omega))).trans hb2, Nat.le_trans hge5 hb2.size⟩
  case done =>
    rintro D ys W hD rfl ⟨⟨v, hv, hrow, -⟩, hB, hge⟩ hK
    have hc := hv.cell
    gi_wp2
    refine ⟨by simp, .inl ⟨_, _, rfl, run_takeDeferred hK, ?_⟩⟩
    rw [roundF_zero] at hrow
    exact ⟨_, results_tmp rfl _ _ _, v, rfl, ownsRow_low (Nat.le_of_lt l1) (ownsRow_putObj hrow _ hK rfl), (hB3.trans (hB.mono (by omega))).trans (belowK_b (w := w) (Nat.le_refl _) W D _ _ (by omega) hK rfl rfl)⟩
  case stop =>
    rintro D c pre W _ _ h _
    exact h.elim
theorem nodesThat_any (N : Nat) (hN : 1 ≤ N) (hN64 : N ≤ 64) (g : Nat) (eg : ∀ args w, (callFunc g args).run Tryd.prog w = .ok (.enter g args) w) (caps : Array Value) (p : Nat → Bool) (w : World)
    (hp : ∀ (x : Nat) (W : World), Below w.heap.size w W → Calls Tryd.prog g (#[.int .i64 (x : Int)] ++ caps) W fun e W' => e = .returned (.bool (p x)) ∧ Below W.heap.size W W') :
    Calls Tryd.prog 55 #[.int .i64 (N : Int), .func (.func g) #[] caps] w fun e W' => ∃ v, e = .returned v ∧ W'.ownsRow w.heap.size 3 1 v ((List.range N).filter p).length (vals ((List.range N).filter p)) ∧ Below w.heap.size w W' :=
  (callsIn_wide (n := 8)).1 (nodesThat_in _ (hide rfl) trivial trivial trivial rfl N hN hN64 g trivial eg caps p w hp)
end Go.Proofs.YtnndlgdlligjbabDoor.Ld
