/- raddlelaw08.all, the document's List, Ones, Of, Down; mask.Of; Ints; lives: contracts. -/
import Derived.Test.YtinpbnkmpplkiabCounts
import Derived.Deep.QuietTactic
import Derived.BigQuiet
import Derived.Test.YtinpbnkmpplkiabAppend
namespace Go.Proofs.Ytinpbnkmpplkiab
open Go.RowKit Go.Shelf
attribute [local go_sem] Oper.semAt_some
/-- a row of one's own that lies beyond a box below it: the box between stays -/
theorem boxed_appended_at {W w1 : World} {n₀ B : Nat} {t e : TypeId} {size : Nat} {v v' : Value} {k m : Nat} {xs ys : List Value} {tmp : Obj}
    (hv : Boxed W B t v) (hte : t ≠ e) (hrow : W.ownsRow n₀ e size v k xs) (hn₀ : n₀ ≤ W.heap.size) (hB : B ≤ n₀)
    (hown' : w1.ownsRow n₀ e size v' m ys) (hgrow : (W.alloc tmp).grownBy w1 v.ownBlock) (hK : B + 1 < n₀) :
    Boxed w1 B t v ∧ Boxed (w1.setCell ⟨B, 0, none⟩ v') B t v' ∧ (w1.setCell ⟨B, 0, none⟩ v').ownsRow n₀ e size v' m ys ∧ KeepsOthers W (w1.setCell ⟨B, 0, none⟩ v') ∧ Below B W (w1.setCell ⟨B, 0, none⟩ v') ∧ KeepsAt (B + 1) W (w1.setCell ⟨B, 0, none⟩ v') := by
  obtain ⟨a1, a2, a3, a4, a5⟩ := hv.appended hte (ownsRow_low hB hrow) (Nat.le_trans hB hn₀) (Nat.le_refl _) (ownsRow_low hB hown') hgrow
  refine ⟨a1, a2, hown'.kept (grownBy_setCell' w1 B v') (.inr (a1.not_row hte hown').symm), a4, a5, fun hb => ?_⟩
  have e1 : (w1.setCell ⟨B, 0, none⟩ v').heap[B + 1]? = w1.heap[B + 1]? := (grownBy_setCell' w1 B v').block (B + 1) (by have := hgrow.size; simp at this; omega) (by simp)
  have e2 : w1.heap[B + 1]? = (W.alloc tmp).heap[B + 1]? := by
    refine hgrow.block (B + 1) (by simp; omega) ?_
    rcases hrow.2 with ⟨rfl, _⟩ | ⟨g, cap, cur, rfl, hb', _⟩
    · simp [Value.ownBlock]
    · simp [Value.ownBlock]; omega
  rw [e1, e2]
  exact Below.heap_alloc W tmp (B + 1) hb
set_option maxRecDepth 100000 in
set_option maxHeartbeats 2000000 in
theorem all_in (F : Fence) (n : Nat) (h21 : F.fn 21) (h19 : F.fn 19) (h29 : F.fn 29) (h8 : F.fn 8) (h24 : F.fn 24) (hro : F.round = none) (hn : 4 ≤ n) (m : Nat) (hm : m < 2 ^ 64) (w : World) :
    CallsIn F n Try.prog 21 #[.int .u64 (m : Int)] w fun e W' => ∃ v, e = .returned v ∧ W'.ownsRow w.heap.size 3 1 v (setN m).length (vals (setN m)) ∧ Below w.heap.size w W' := by
  have h1 : 1 ≤ n := by omega
  have h1' : 1 ≤ n - 1 - 1 := by omega
  obtain ⟨i0, hi, hz0, hz1, hz2⟩ := info_parts info3
  have cA := all_iter_in F (n - 1) h19 hro m
  refine callsIn_of_wp_marks Try.func21 rfl h21 ?_ hro
  simp only [Try.ntmps21, List.size_toArray, List.length_cons, List.length_nil, Nat.reduceAdd, Nat.reduceSub, Array.replicate_succ, Array.replicate_zero, List.push_toArray, List.append_toArray, List.nil_append, List.cons_append]
  gi_wp2_with (gi_at_call 19; refine (cA _).mono ?_; rintro e w2 ⟨rfl, rfl⟩)
  clear cA
  have bO0 := Boxed.new w 26 (.slice none 0 0)
  have hB00 : Below w.heap.size w (w.alloc (.cells #[.slice none 0 0] 26)) := (Below.refl _ w).alloc (Nat.le_refl _) _
  have hsz : (w.alloc (.cells #[.slice none 0 0] 26)).heap.size = w.heap.size + 1 := World.size_alloc _ _
  obtain ⟨w1, hw1⟩ : ∃ w1, w.alloc (.cells #[.slice none 0 0] 26) = w1 := ⟨_, rfl⟩
  rw [hw1] at bO0 hB00 hsz ⊢
  clear hw1
  have HSZ := hide hsz
  have bO := bO0.alloc (.cells #[.int .u64 (m : Int)] 22)
  have hc2 := boxU m w1
  have hB0 : Below w.heap.size w (w1.alloc (.cells #[.int .u64 (m : Int)] 22)) := hB00.alloc (by omega) _
  rw [hsz] at hc2
  clear hsz
  have h2s : (w1.alloc (.cells #[.int .u64 (m : Int)] 22)).heap.size = w.heap.size + 2 := by rw [World.size_alloc, HSZ.out]
  obtain ⟨w3, hw3⟩ : ∃ w3, w1.alloc (.cells #[.int .u64 (m : Int)] 22) = w3 := ⟨_, rfl⟩
  rw [hw3] at bO hc2 hB0 h2s ⊢
  have H2S := hide h2s
  clear hw3 bO0 hB00 h2s
  have hbs : w.heap.size + 1 < w3.heap.size := by have := H2S.out; omega
  have hws : w.heap.size ≤ w3.heap.size := by omega
  refine wpIn_rangeFunc_ownG hro h1 (gf := 29) (lb := #[.pointer (some ⟨w.heap.size + 1, 0, none⟩)]) rfl h29 (enters_of Try.func29 (by kernel_rfl) rfl)
    (all_stopsK F (n - 1) h29 h8 h24 hro (by omega) (w.heap.size + 1) m hm w3 hbs hc2) (fun h k => h.tr k) (keepsAt_b hbs) (Below.refl _ _) (fun _ => rfl)
    (fun pre W => (∃ v, Boxed W w.heap.size 26 v ∧ W.ownsRow w3.heap.size 3 1 v pre.length (vals pre) ∧ True) ∧ Below w.heap.size w W ∧ w3.heap.size ≤ W.heap.size)
    (fun _ _ _ => False)
    (OwnFrom.and (Own.from (holdsRow_own w3.heap.size w.heap.size 26 3 1 (fun pre : List Nat => pre.length) (fun pre => vals pre) (fun _ _ => True)) _) (OwnFrom.and (ownFrom_below (Nat.le_refl _) hws) (fun _ _ _ _ hs hg _ => Nat.le_trans hs hg.size)))
    (fun _ _ _ _ _ hs _ _ => hs)
    ⟨⟨_, bO, World.ownsRow_nil _ _ _ _, trivial⟩, hB0, Nat.le_refl _⟩
    (fun x => { tmps := #[.int .u64 (m : Int), undef, .slice none 0 0, .pointer (some ⟨w.heap.size, 0, none⟩), .int .i64 (x : Int), .int .u64 (m : Int), .func (.func 29) #[] #[.pointer (some ⟨w.heap.size + 1, 0, none⟩)], .int .i64 (x : Int), undef, undef, undef, undef, undef], defers := [] }) ?assign ?body ?done ?stop
  case assign =>
    intro l x W K hK
    gi_wp2
    exact hK
  case body =>
    rintro l pre x W ⟨⟨v, hv, hrow, -⟩, hB, hge⟩ hlt
    have hc := hv.cell
    gi_wp2_with (gi_at_builtin; refine wpListIn_append_own _ rfl _ _ 26 rfl w3.heap.size 3 i0 (.int .i64 0) 1 8 Try.underlying26 hi hz0 hz1 hz2 rfl (by decide) _ _ _ rfl (hrow.alloc _) ⟨W.heap.size, 0, none⟩ 1 1 [.int .i64 (x : Int)] rfl rfl (cell_one_new _ _ _) (by simp [Value.oneCell']) (by unfold maxLen; omega) (by omega) (by simp; omega) ?_; intro v' w2 hown' hgrow _; obtain ⟨g', cap', rfl⟩ := ownsRow_succ hown'; obtain ⟨hv1, hv2, hr2, hk2, hb2, hb3⟩ := boxed_appended_at hv (by decide) hrow hge hws hown' hgrow hbs; have hc1 := hv1.cell; have hf1 := hv1.frozen)
    exact ⟨hk2.from _, hb3, ⟨_, hv2, by rw [vals_snoc]; simpa using hr2, trivial⟩, hB.trans hb2, Nat.le_trans hge hb2.size⟩
  case done =>
    rintro D ys W hD rfl ⟨⟨v, hv, hrow, -⟩, hB, hge⟩ hK
    have hc := hv.cell
    gi_wp2
    refine ⟨by simp, .inl ⟨_, _, rfl, run_takeDeferred hK, ?_⟩⟩
    exact ⟨_, results_tmp rfl _ _ _, v, rfl, ownsRow_low hws (ownsRow_putObj hrow _ hK rfl), hB.trans (belowK_b (w := w) (Nat.le_refl _) W D _ _ (by omega) hK rfl rfl)⟩
  case stop =>
    rintro D c pre W _ _ h _
    exact h.elim
theorem all_any (m : Nat) (hm : m < 2 ^ 64) (w : World) :
    Calls Try.prog 21 #[.int .u64 (m : Int)] w fun e W' => ∃ v, e = .returned v ∧ W'.ownsRow w.heap.size 3 1 v (setN m).length (vals (setN m)) ∧ Below w.heap.size w W' :=
  (callsIn_wide (n := 8)).1 (all_in _ 8 trivial trivial trivial trivial trivial rfl (by decide) m hm w)
end Go.Proofs.Ytinpbnkmpplkiab
