/- leaders.owner: a contract. -/
import Derived.Test.YtnndlgdlligjbabDoorLAmong
namespace Go.Proofs.YtnndlgdlligjbabDoor.Ld
open Go.RowKit Go.Shelf
attribute [local go_sem] Oper.semAt_some
theorem boxed_own {β : Type} (B : Nat) (t : TypeId) (f : β → Value) (G : β → Prop) : Own (fun s W => Boxed W B t (f s) ∧ G s) := by
  rintro s X Y row ⟨hv, hG⟩ hg hrow
  refine ⟨hv.kept hg (fun e' => ?_), hG⟩
  obtain ⟨o, ho, hc⟩ := hrow B e'.symm
  rw [show X.heap[B]? = _ from hv] at ho; cases ho; cases hc
theorem boxed_putObj {W : World} {B : Nat} {t : TypeId} {v : Value} (h : Boxed W B t v) {l : Nat} (o' : Obj) (hne : B ≠ l) : Boxed (W.putObj l o') B t v := h.kept (grownBy_putObj' W l o') (by simpa using hne)
theorem results_cell {fn : Func} {p : Tmp} {ty : TypeId} (h : fn.results = #[.cell p ty]) (tmps : Array Value) (P : Program) (w : World) {a : Addr} {v : Value} (ha : tmps.getD p undef = .pointer (some a)) (hv : (loadVar ty a).run P w = .ok v w) : (results fn tmps).run P w = .ok v w := by
  have e : (results fn tmps).run P w = ((asAddr (tmps.getD p undef)).run P w).andThen fun a w₁ => (loadVar ty a).run P w₁ := by
    simp only [results, h]
    simp [Sem.run_bind, Result.andThen]
  rw [e, ha]
  simp [asAddr, hv, Result.andThen]
theorem load3 (w : World) (B : Nat) (x : Int) (hc : w.cell? ⟨B, 0, none⟩ = some (.int .i64 x)) : (loadVar 3 ⟨B, 0, none⟩).run Tryd.prog w = .ok (.int .i64 x) w := by
  simp [go_sem, loadVar, hc]
def lastN (pre : List Nat) : Nat := pre.getLast?.getD 0
theorem lastN_snoc (l : List Nat) (x : Nat) : lastN (l ++ [x]) = x := by simp [lastN]
theorem own_stop {N f : Nat} {p : Nat → Bool} {l : List Nat} {x : Nat} (hpre : l ++ [x] <+: roundF N f N) (hl : ∀ y ∈ l, p y = false) (hx : p x = true) : ownO N p f = some x := by
  obtain ⟨r, hr⟩ := hpre
  unfold ownO
  rw [← hr, List.append_assoc, List.find?_append, find_none hl, Option.none_or]
  simp [hx]
set_option maxRecDepth 100000 in
set_option maxHeartbeats 2000000 in
theorem lowner_in (F : Fence) (hFw : Hid (F = Fence.wide)) (h42 : F.fn 45) (h45 : F.fn 60) (h55 : F.fn 72) (hro : F.round = none) (c : Cfg) (N : Nat) (hn : c.n = (N : Int)) (hN : 1 ≤ N) (hN64 : N ≤ 64) (f : Nat) (hf : f ≤ 2000000) (g : Nat) (hg : F.fn g) (eg : ∀ args w, (callFunc g args).run Tryd.prog w = .ok (.enter g args) w) (caps : Array Value) (p : Nat → Bool) (w : World)
    (hp : ∀ (x : Nat) (W : World), Below w.heap.size w W → Calls Tryd.prog g (#[.int .i64 (x : Int)] ++ caps) W fun e W' => e = .returned (.bool (p x)) ∧ Below W.heap.size W W') :
    CallsIn F 8 Tryd.prog 45 #[(.agg #[.int .i64 c.n, .int .i64 c.cl, .int .i64 c.wi, .int .i64 c.bu, .int .i64 c.ca, .int .i64 c.sl, .int .i64 c.rq, .int .i64 c.ti, .int .i64 c.pe, .int .i64 c.la]), .func (.func g) #[] caps, .int .i64 (f : Int)] w fun e W' => e = .returned (.int .i64 (optI (ownO N p f))) ∧ Below w.heap.size w W' := by
  rw [hn]
  clear hn
  have cA := fun w => from_in F 7 h45 hro (N : Int) (f : Int) w
  refine callsIn_of_wp_marks Tryd.func45 rfl h42 ?_ hro
  simp only [Tryd.ntmps45, List.size_toArray, List.length_cons, List.length_nil, Nat.reduceAdd, Nat.reduceSub, Array.replicate_succ, Array.replicate_zero, List.push_toArray, List.append_toArray, List.nil_append, List.cons_append]
  gi_wp2_with (gi_at_call 60; refine (cA _).mono ?_; rintro e w2 ⟨rfl, rfl⟩)
  clear cA
  have bG : Boxed (((((w.alloc (.cells #[.int .i64 (N : Int), .int .i64 c.cl, .int .i64 c.wi, .int .i64 c.bu, .int .i64 c.ca, .int .i64 c.sl, .int .i64 c.rq, .int .i64 c.ti, .int .i64 c.pe, .int .i64 c.la] 23)).alloc (.cells #[.func (.func g) #[] caps] 59)).alloc (.cells #[.int .i64 0] 3)).alloc (.cells #[.int .i64 (N : Int)] 3)).alloc (.cells #[.int .i64 (f : Int)] 3)) (w.heap.size + 1) 59 (.func (.func g) #[] caps) := by
    have := (((Boxed.new (w.alloc (.cells #[.int .i64 (N : Int), .int .i64 c.cl, .int .i64 c.wi, .int .i64 c.bu, .int .i64 c.ca, .int .i64 c.sl, .int .i64 c.rq, .int .i64 c.ti, .int .i64 c.pe, .int .i64 c.la] 23)) 59 (.func (.func g) #[] caps)).alloc (.cells #[.int .i64 0] 3)).alloc (.cells #[.int .i64 (N : Int)] 3)).alloc (.cells #[.int .i64 (f : Int)] 3)
    rwa [World.size_alloc] at this
  have bR : Boxed (((((w.alloc (.cells #[.int .i64 (N : Int), .int .i64 c.cl, .int .i64 c.wi, .int .i64 c.bu, .int .i64 c.ca, .int .i64 c.sl, .int .i64 c.rq, .int .i64 c.ti, .int .i64 c.pe, .int .i64 c.la] 23)).alloc (.cells #[.func (.func g) #[] caps] 59)).alloc (.cells #[.int .i64 0] 3)).alloc (.cells #[.int .i64 (N : Int)] 3)).alloc (.cells #[.int .i64 (f : Int)] 3)) (w.heap.size + 1 + 1) 3 (.int .i64 0) := by
    have := ((Boxed.new ((w.alloc (.cells #[.int .i64 (N : Int), .int .i64 c.cl, .int .i64 c.wi, .int .i64 c.bu, .int .i64 c.ca, .int .i64 c.sl, .int .i64 c.rq, .int .i64 c.ti, .int .i64 c.pe, .int .i64 c.la] 23)).alloc (.cells #[.func (.func g) #[] caps] 59)) 3 (.int .i64 0)).alloc (.cells #[.int .i64 (N : Int)] 3)).alloc (.cells #[.int .i64 (f : Int)] 3)
    rwa [World.size_alloc, World.size_alloc] at this
  obtain ⟨hcn, hcf⟩ := two_new (((w.alloc (.cells #[.int .i64 (N : Int), .int .i64 c.cl, .int .i64 c.wi, .int .i64 c.bu, .int .i64 c.ca, .int .i64 c.sl, .int .i64 c.rq, .int .i64 c.ti, .int .i64 c.pe, .int .i64 c.la] 23)).alloc (.cells #[.func (.func g) #[] caps] 59)).alloc (.cells #[.int .i64 0] 3)) (N : Int) (f : Int)
  have hB5 : Below w.heap.size w (((((w.alloc (.cells #[.int .i64 (N : Int), .int .i64 c.cl, .int .i64 c.wi, .int .i64 c.bu, .int .i64 c.ca, .int .i64 c.sl, .int .i64 c.rq, .int .i64 c.ti, .int .i64 c.pe, .int .i64 c.la] 23)).alloc (.cells #[.func (.func g) #[] caps] 59)).alloc (.cells #[.int .i64 0] 3)).alloc (.cells #[.int .i64 (N : Int)] 3)).alloc (.cells #[.int .i64 (f : Int)] 3)) := (((((Below.refl _ w).alloc (Nat.le_refl _) _).alloc (by simp) _).alloc (by simp; omega) _).alloc (by simp; omega) _).alloc (by simp; omega) _
  have hs5 : (((((w.alloc (.cells #[.int .i64 (N : Int), .int .i64 c.cl, .int .i64 c.wi, .int .i64 c.bu, .int .i64 c.ca, .int .i64 c.sl, .int .i64 c.rq, .int .i64 c.ti, .int .i64 c.pe, .int .i64 c.la] 23)).alloc (.cells #[.func (.func g) #[] caps] 59)).alloc (.cells #[.int .i64 0] 3)).alloc (.cells #[.int .i64 (N : Int)] 3)).alloc (.cells #[.int .i64 (f : Int)] 3)).heap.size = w.heap.size + 5 := by simp only [World.size_alloc]
  simp only [World.size_alloc] at hcn hcf
  obtain ⟨w5, hw5⟩ : ∃ w5, (((((w.alloc (.cells #[.int .i64 (N : Int), .int .i64 c.cl, .int .i64 c.wi, .int .i64 c.bu, .int .i64 c.ca, .int .i64 c.sl, .int .i64 c.rq, .int .i64 c.ti, .int .i64 c.pe, .int .i64 c.la] 23)).alloc (.cells #[.func (.func g) #[] caps] 59)).alloc (.cells #[.int .i64 0] 3)).alloc (.cells #[.int .i64 (N : Int)] 3)).alloc (.cells #[.int .i64 (f : Int)] 3)) = w5 := ⟨_, rfl⟩
  rw [hw5] at hcn hcf bG bR hB5 hs5 ⊢
  clear hw5
  have H5 := hide hs5
  have l1 : w.heap.size + 1 < w5.heap.size := by omega
  have l2 : w.heap.size + 1 + 1 < w5.heap.size := by omega
  have l3 : w.heap.size + 1 + 1 + 1 < w5.heap.size := by omega
  have l4 : w.heap.size + 1 + 1 + 1 + 1 < w5.heap.size := by omega
  clear hs5
  have hret := bR
  refine wpIn_rangeFunc_ownG hro (by decide) (gf := 72) (lb := #[.pointer (some ⟨w.heap.size + 1 + 1 + 1, 0, none⟩), .pointer (some ⟨w.heap.size + 1 + 1 + 1 + 1, 0, none⟩)]) rfl h55 (enters_of Tryd.func72 (by kernel_rfl) rfl)
    (from_stops F 7 h55 hro (by decide) (w.heap.size + 1 + 1 + 1) (w.heap.size + 1 + 1 + 1 + 1) N f hN hN64 hf w5 l3 l4 hcn hcf) (fun h k => h.tr k) (keeps2_b l3 l4) (Below.refl _ _) (fun _ => rfl)
    (fun pre W => (Boxed W (w.heap.size + 1 + 1) 3 (.int .i64 0) ∧ ∀ y ∈ pre, p y = false) ∧ Below (w.heap.size + 1 + 1) w5 W ∧ w5.heap.size ≤ W.heap.size)
    (fun c pre W => (Boxed W (w.heap.size + 1 + 1) 3 (.int .i64 (lastN pre : Int)) ∧ (c = .ret ∧ ∃ l x, pre = l ++ [x] ∧ (∀ y ∈ l, p y = false) ∧ p x = true)) ∧ Below (w.heap.size + 1 + 1) w5 W ∧ w5.heap.size ≤ W.heap.size)
    (OwnFrom.and (Own.from (boxed_own (w.heap.size + 1 + 1) 3 (fun _ => .int .i64 0) (fun pre : List Nat => ∀ y ∈ pre, p y = false)) _) (OwnFrom.and (ownFrom_below (Nat.le_of_lt l2) (Nat.le_of_lt l2)) (fun _ _ _ _ hs hg _ => Nat.le_trans hs hg.size)))
    (fun c => OwnFrom.and (Own.from (boxed_own (w.heap.size + 1 + 1) 3 (fun pre : List Nat => .int .i64 (lastN pre : Int)) (fun pre : List Nat => c = .ret ∧ ∃ l x, pre = l ++ [x] ∧ (∀ y ∈ l, p y = false) ∧ p x = true)) _) (OwnFrom.and (ownFrom_below (Nat.le_of_lt l2) (Nat.le_of_lt l2)) (fun _ _ _ _ hs hg _ => Nat.le_trans hs hg.size)))
    ⟨⟨bR, by simp⟩, Below.refl _ _, Nat.le_refl _⟩
    (fun x => { tmps := #[.agg #[.int .i64 (N : Int), .int .i64 c.cl, .int .i64 c.wi, .int .i64 c.bu, .int .i64 c.ca, .int .i64 c.sl, .int .i64 c.rq, .int .i64 c.ti, .int .i64 c.pe, .int .i64 c.la], .func (.func g) #[] caps, .int .i64 (f : Int), .pointer (some ⟨w.heap.size, 0, none⟩), .pointer (some ⟨w.heap.size + 1, 0, none⟩), undef, .pointer (some ⟨w.heap.size + 1 + 1, 0, none⟩), .int .i64 (x : Int), .pointer (some ⟨w.heap.size, 0, none⟩), .int .i64 (N : Int), .int .i64 (f : Int), .func (.func 72) #[] #[.pointer (some ⟨w.heap.size + 1 + 1 + 1, 0, none⟩), .pointer (some ⟨w.heap.size + 1 + 1 + 1 + 1, 0, none⟩)], .int .i64 (x : Int), undef, undef, undef, undef], defers := [] }) ?assign ?body ?done ?stop
  case assign =>
    intro l x W K hK
    gi_wp2
    exact hK
  case body =>
    rintro l pre x W ⟨⟨hv, hno⟩, hB, hge⟩ hlt
    have hcm : W.cell? ⟨w.heap.size + 1, 0, none⟩ = some (.func (.func g) #[] caps) := (hB.cell (p := ⟨w.heap.size + 1, 0, none⟩) (by simp)).trans bG.cell
    have hBw : Below w.heap.size w W := hB5.trans (hB.mono (by omega))
    have cp := hp x W hBw
    have HN := hide hno
    clear hno
    cases hb : p x
    · have HB := hide hb
      rw [hb] at cp
      have cq := CallsIn.inRound l (callsIn_of (n := 8 - 1 - 1 - 1) cp F hFw.out)
      clear hb cp hp
      gi_wp2
      refine cq.mono ?_
      rintro e w6 ⟨rfl, hb6⟩
      gi_wp2
      refine ⟨(KeepsOthers.of_grownBy (gb_below hb6) (fun j o e => by cases e)).from _, ⟨KeepsAt.of_below hb6, KeepsAt.of_below hb6⟩, ⟨boxed_below hv hb6, fun y hy => ?_⟩, hB.trans (hb6.mono (by omega)), Nat.le_trans hge hb6.size⟩
      rcases List.mem_append.1 hy with h | h
      · exact HN.out y h
      · rw [List.mem_singleton.1 h]; exact HB.out
    · have HB := hide hb
      rw [hb] at cp
      have cq := CallsIn.inRound l (callsIn_of (n := 8 - 1 - 1 - 1) cp F hFw.out)
      clear hb cp hp
      gi_wp2
      refine cq.mono ?_
      rintro e w6 ⟨rfl, hb6⟩
      have hv6 := boxed_below hv hb6
      have hc6 := hv6.cell
      have hf6 := hv6.frozen
      have hk6 : KeepsOthers W w6 := KeepsOthers.of_grownBy (gb_below hb6) (fun j o e => by cases e)
      gi_wp2
      refine ⟨(hk6.trans (KeepsOthers.setCell w6 _ _)).from _, ⟨by rw [lastN_snoc]; exact hv6.set _, rfl, pre, x, rfl, HN.out, HB.out⟩, (hB.trans (hb6.mono (by omega))).trans ((Below.refl _ w6).setCell (p := ⟨w.heap.size + 1 + 1, 0, none⟩) (Nat.le_refl _) _), Nat.le_trans hge (Nat.le_trans hb6.size (by simp))⟩
  case done =>
    rintro D ys W hD rfl ⟨⟨hv, hno⟩, hB, hge⟩ hK
    have hc := hv.cell
    have hf := hv.frozen
    have HO := hide (own_no hno)
    clear hno
    gi_wp2
    have hne : w.heap.size + 1 + 1 ≠ D := by omega
    have hv2 := boxed_putObj (hv.set (.int .i64 (-1))) (.deferred none) hne
    have hK2 : (W.setCell ⟨w.heap.size + 1 + 1, 0, none⟩ (.int .i64 (-1))).heap[D]? = some (.deferred (some [])) := (Go.Deep.blk_setCell_other _ _ _ _ (by simpa using hne.symm)).trans hK
    refine ⟨by simp, .inl ⟨_, _, rfl, run_takeDeferred hK2, ?_⟩⟩
    refine ⟨_, results_cell rfl _ _ _ rfl (load3 _ _ _ hv2.cell), ret_int (by rw [HO.out]; rfl), ?_⟩
    exact ((hB5.trans (hB.mono (by omega))).trans ((Below.refl _ W).setCell (p := ⟨w.heap.size + 1 + 1, 0, none⟩) (by simp; omega) _)).trans (belowK_b (w := w) (Nat.le_refl _) _ D _ _ (by omega) hK2 rfl rfl)
  case stop =>
    rintro D c pre W hD hpre ⟨⟨hv, rfl, l, x, rfl, hno, hyes⟩, hB, hge⟩ hK
    have HO := hide (own_stop hpre hno hyes)
    rw [lastN_snoc] at hv
    have hc := hv.cell
    clear hno hyes
    gi_wp2
    have hne : w.heap.size + 1 + 1 ≠ D := by omega
    have hv2 := boxed_putObj hv (.deferred none) hne
    refine ⟨by simp, .inl ⟨_, _, rfl, run_takeDeferred hK, ?_⟩⟩
    refine ⟨_, results_cell rfl _ _ _ rfl (load3 _ _ _ hv2.cell), ret_int (by rw [HO.out]; rfl), ?_⟩
    exact (hB5.trans (hB.mono (by omega))).trans (belowK_b (w := w) (Nat.le_refl _) _ D _ _ (by omega) hK rfl rfl)
theorem lowner_any (c : Cfg) (N : Nat) (hn : c.n = (N : Int)) (hN : 1 ≤ N) (hN64 : N ≤ 64) (f : Nat) (hf : f ≤ 2000000) (g : Nat) (eg : ∀ args w, (callFunc g args).run Tryd.prog w = .ok (.enter g args) w) (caps : Array Value) (p : Nat → Bool) (w : World)
    (hp : ∀ (x : Nat) (W : World), Below w.heap.size w W → Calls Tryd.prog g (#[.int .i64 (x : Int)] ++ caps) W fun e W' => e = .returned (.bool (p x)) ∧ Below W.heap.size W W') :
    Calls Tryd.prog 45 #[(.agg #[.int .i64 c.n, .int .i64 c.cl, .int .i64 c.wi, .int .i64 c.bu, .int .i64 c.ca, .int .i64 c.sl, .int .i64 c.rq, .int .i64 c.ti, .int .i64 c.pe, .int .i64 c.la]), .func (.func g) #[] caps, .int .i64 (f : Int)] w fun e W' => e = .returned (.int .i64 (optI (ownO N p f))) ∧ Below w.heap.size w W' :=
  (callsIn_wide (n := 8)).1 (lowner_in _ (hide rfl) trivial trivial trivial rfl c N hn hN hN64 f hf g trivial eg caps p w hp)
theorem own_congr {N f : Nat} {p q : Nat → Bool} (h : ∀ k, k < N → p k = q k) (hN : 1 ≤ N) : ownO N p f = ownO N q f := by
  unfold ownO
  have : ∀ l : List Nat, (∀ x ∈ l, p x = q x) → l.find? p = l.find? q := by
    intro l
    induction l with
    | nil => intro _; rfl
    | cons x l ih =>
      intro hl
      have h1 := hl x (by simp)
      have h2 := ih (fun y hy => hl y (by simp [hy]))
      cases hx : q x
      · rw [List.find?_cons_of_neg (by rw [h1, hx]; simp), List.find?_cons_of_neg (by rw [hx]; simp), h2]
      · rw [List.find?_cons_of_pos (by rw [h1, hx]), List.find?_cons_of_pos hx]
  refine this _ fun x hx => h x ?_
  simp only [roundF, List.mem_map] at hx
  obtain ⟨i, _, rfl⟩ := hx
  exact Nat.mod_lt _ hN
/-- among's closure in owner -/
theorem owner_among (c : Cfg) (N : Nat) (hn : c.n = (N : Int)) (hN : 1 ≤ N) (hN64 : N ≤ 64) (f : Nat) (hf : f ≤ 2000000) (s : Nat) (p : Nat → Bool) (w : World) (h : AmongAt w s N p) :
    Calls Tryd.prog 45 #[(.agg #[.int .i64 c.n, .int .i64 c.cl, .int .i64 c.wi, .int .i64 c.bu, .int .i64 c.ca, .int .i64 c.sl, .int .i64 c.rq, .int .i64 c.ti, .int .i64 c.pe, .int .i64 c.la]), .func (.func 61) #[] #[.pointer (some ⟨s, 0, none⟩), .pointer (some ⟨s + 1 + 1, 0, none⟩)], .int .i64 (f : Int)] w fun e W' => e = .returned (.int .i64 (optI (ownO N p f))) ∧ Below w.heap.size w W' := by
  have := lowner_any c N hn hN hN64 f hf 61 (enters_of Tryd.func61 (by kernel_rfl) rfl) #[.pointer (some ⟨s, 0, none⟩), .pointer (some ⟨s + 1 + 1, 0, none⟩)] (fun k => amB N p (k : Int)) w
    (fun x W hW => (among1_any s N hN hN64 p (x : Int) W (h.below hW)).mono fun e w' ⟨he, hw⟩ => ⟨he, hw ▸ Below.refl _ _⟩)
  rwa [own_congr (q := p) (fun k hk => amB_in hk) hN] at this
end Go.Proofs.YtnndlgdlligjbabDoor.Ld
