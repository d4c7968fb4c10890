/- quorum.Nodes -/
import Derived.Test.YtbfhpgneaklgoaaSg5
import Derived.Test.YtbfhpgneaklgoaaAppend
namespace Go.Proofs.Ytbfhpgneaklgoaa
open Go.RowKit Go.Shelf
attribute [local go_sem] Oper.semAt_some
def nodesOf (rs : List Sg) : List Value := rs.map (fun r => Value.int .i64 r.n)
theorem nodes_prs (rs : List Sg) : (prs rs).map (fun x => Value.int .i64 x.2) = nodesOf rs := by
  refine List.ext_getElem (by simp [prs, nodesOf]) fun i h1 h2 => ?_
  simp only [prs, List.length_map, List.length_range] at h1
  simp [prs, nodesOf, List.getElem?_eq_getElem h1]
theorem SigsAt.lo {w : World} {a : Option Addr} {rs : List Sg} (h : SigsAt w a rs) : rs = [] ∨ ∀ x, a = some x → x.block < w.heap.size := by
  rcases h.2.2 with h | ⟨b, off, rfl, h1, h2⟩
  · exact Or.inl h
  · exact Or.inr fun x e => by cases e; exact h1
theorem boxed_own {β : Type} (B : Nat) (t : TypeId) (v : Value) : Own (fun (_ : β) W => Boxed W B t v) := by
  rintro s X Y row hv hg hrow
  refine hv.kept hg (fun e' => ?_)
  obtain ⟨o, ho, hc⟩ := hrow B e'.symm
  rw [show X.heap[B]? = _ from hv] at ho; cases ho; cases hc
theorem boxed_stays {W w1 : World} {n₀ B Bs : Nat} {u e : TypeId} {size : Nat} {v v' x : Value} {k : Nat} {xs : List Value} {tmp : Obj}
    (hs : Boxed W Bs u x) (hue : u ≠ e) (hrow : W.ownsRow n₀ e size v k xs) (hgrow : (W.alloc tmp).grownBy w1 v.ownBlock) (hne : Bs ≠ B) :
    Boxed (w1.setCell ⟨B, 0, none⟩ v') Bs u x :=
  ((hs.alloc tmp).kept hgrow (hs.not_row hue hrow)).other hne v'
set_option maxRecDepth 100000 in
set_option maxHeartbeats 2000000 in
theorem nodes_in (F : Fence) (n : Nat) (h21 : F.fn 19) (h19 : F.fn 28) (h29 : F.fn 32) (hro : F.round = none) (hn : 3 ≤ n) (a : Option Addr) (cap : Nat) (rs : List Sg) (hlr : rs.length ≤ 100000) (w : World) (hat : SigsAt w a rs) :
    CallsIn F n Try.prog 19 #[.slice a rs.length cap] w fun e W' => ∃ v, e = .returned v ∧ W'.ownsRow w.heap.size 3 1 v rs.length (nodesOf rs) ∧ Below w.heap.size w W' := by
  have h1 : 1 ≤ n := by omega
  have h1' : 1 ≤ n - 1 - 1 := by omega
  obtain ⟨i0, hi, hz0, hz1, hz2⟩ := info_parts info3
  have cA := signers_in F (n - 1) h19 hro a rs.length cap
  have HAT := hide hat
  clear hat
  refine callsIn_of_wp_marks Try.func19 rfl h21 ?_ hro
  simp only [Try.ntmps19, List.size_toArray, List.length_cons, List.length_nil, Nat.reduceAdd, Nat.reduceSub, Array.replicate_succ, Array.replicate_zero, List.push_toArray, List.append_toArray, List.nil_append, List.cons_append]
  gi_wp2_with (first
    | (gi_at_make; refine wpListIn_make_own _ rfl _ _ 32 rfl w.heap.size 3 i0 (.int .i64 0) 1 Try.underlying32 hi hz0 hz1 _ _ _ rs.length rfl rfl rfl (by rw [hz2]; omega) (by unfold maxLen; omega) (Nat.le_refl _) ?_; intro w1 hown0 hg0)
    | (gi_at_call 28; refine (cA _).mono ?_; rintro e w2 ⟨rfl, rfl⟩))
  clear cA
  have hw1 : w.heap.size + 1 ≤ w1.heap.size := by
    rcases hown0.2 with ⟨h, _⟩ | ⟨g, c, cur, h, _, hgb, _⟩
    · cases h
    · cases h; exact (Array.getElem?_eq_some_iff.1 hgb).1
  have hB1 : Below w.heap.size w w1 := (Below.refl _ w).grown hg0 (Nat.le_refl _) (fun k e => by cases e)
  have hown2 := (hown0.alloc (.cells #[Value.slice (some ⟨w.heap.size, 0, none⟩) 0 rs.length] 32)).alloc (.cells #[Value.slice a rs.length cap] 25)
  have bO := (Boxed.new w1 32 (Value.slice (some ⟨w.heap.size, 0, none⟩) 0 rs.length)).alloc (.cells #[Value.slice a rs.length cap] 25)
  have bS := Boxed.new (w1.alloc (.cells #[Value.slice (some ⟨w.heap.size, 0, none⟩) 0 rs.length] 32)) 25 (Value.slice a rs.length cap)
  have hB3 : Below w.heap.size w ((w1.alloc (.cells #[Value.slice (some ⟨w.heap.size, 0, none⟩) 0 rs.length] 32)).alloc (.cells #[Value.slice a rs.length cap] 25)) := (hB1.alloc (by omega) _).alloc (by simp; omega) _
  have hsz : ((w1.alloc (.cells #[Value.slice (some ⟨w.heap.size, 0, none⟩) 0 rs.length] 32)).alloc (.cells #[Value.slice a rs.length cap] 25)).heap.size = w1.heap.size + 2 := by simp
  rw [World.size_alloc] at bS
  obtain ⟨w3, hw3⟩ : ∃ w3, Hid ((w1.alloc (.cells #[Value.slice (some ⟨w.heap.size, 0, none⟩) 0 rs.length] 32)).alloc (.cells #[Value.slice a rs.length cap] 25) = w3) := ⟨_, hide rfl⟩
  rw [hw3.out] at hown2 bO bS hB3 hsz ⊢
  have HSZ := hide hsz
  obtain ⟨B, hB⟩ : ∃ B, Hid (w1.heap.size = B) := ⟨_, hide rfl⟩
  rw [hB.out] at bO bS hsz hw1 ⊢
  clear hw3 hown0 hB1 hg0
  have hbs : B + 1 < w3.heap.size := by omega
  have hws : w.heap.size ≤ w3.heap.size := by omega
  have hwB : w.heap.size ≤ B := by omega
  clear hsz
  refine wpIn_rangeFunc_ownG hro h1 (gf := 32) (lb := #[.pointer (some ⟨B + 1, 0, none⟩)]) rfl h29 (enters_of Try.func32 (by kernel_rfl) rfl)
    (signers_stops F (n - 1) h29 hro (by omega) (B + 1) w.heap.size a cap rs hlr w3 hbs hws bS.cell (HAT.out.below hB3) HAT.out.lo) (fun h k => h.tr k) (keepsB_b hws hbs) (Below.refl _ _) (fun _ => rfl)
    (fun pre W => (∃ v, Boxed W B 32 v ∧ W.ownsRow w.heap.size 3 1 v pre.length (pre.map (fun x => Value.int .i64 x.2)) ∧ True) ∧ Below w.heap.size w W ∧ Boxed W (B + 1) 25 (.slice a rs.length cap))
    (fun _ _ _ => False)
    (OwnFrom.and (Own.from (holdsRow_own w.heap.size B 32 3 1 (fun pre : List (Int × Int) => pre.length) (fun pre => pre.map (fun x => Value.int .i64 x.2)) (fun _ _ => True)) _) (OwnFrom.and (ownFrom_below (Nat.le_refl _) hws) (Own.from (boxed_own (B + 1) 25 (.slice a rs.length cap)) _)))
    (fun _ _ _ _ _ hs _ _ => hs)
    ⟨⟨_, bO, hown2, trivial⟩, hB3, bS⟩
    (fun x => { tmps := #[.slice a rs.length cap, undef, .slice none 0 0, .pointer (some ⟨B, 0, none⟩), undef, .int .i64 x.2, .slice a rs.length cap, .int .i64 (rs.length : Int), .slice (some ⟨w.heap.size, 0, none⟩) 0 rs.length, .slice a rs.length cap, .func (.func 32) #[] #[.pointer (some ⟨B + 1, 0, none⟩)], .int .i64 x.1, .int .i64 x.2, undef, undef, undef, undef, undef], defers := [] }) ?assign ?body ?done ?stop
  case assign =>
    intro l x W K hK
    gi_wp2
    exact hK
  case body =>
    rintro l pre ⟨x1, x⟩ W ⟨⟨v, hv, hrow, -⟩, hB, hS⟩ hlt
    have hc := hv.cell
    have hWs : w.heap.size ≤ W.heap.size := hB.size
    gi_wp2_with (gi_at_builtin; refine wpListIn_append_own _ rfl _ _ 32 rfl w.heap.size 3 i0 (.int .i64 0) 1 8 Try.underlying32 hi hz0 hz1 hz2 rfl (by decide) _ _ _ rfl (hrow.alloc _) ⟨W.heap.size, 0, none⟩ 1 1 [.int .i64 (x : Int)] rfl rfl (cell_one_new _ _ _) (by simp [Value.oneCell']) (by unfold maxLen; omega) (by omega) (by simp; omega) ?_; intro v' w2 hown' hgrow _; obtain ⟨g', cap', rfl⟩ := ownsRow_succ hown'; obtain ⟨hv1, hv2, hr2, hk2, hb2⟩ := hv.appended (by decide) hrow hWs hwB hown' hgrow; have hs2 := boxed_stays (B := B) (v' := .slice (some ⟨g', 0, none⟩) (pre.length + 1) cap') hS (by decide) hrow hgrow (by omega); have hc1 := hv1.cell; have hf1 := hv1.frozen)
    refine ⟨hk2.from _, ⟨hb2, fun _ => hs2.trans hS.symm⟩, ?_, hB.trans hb2, hs2⟩
    rw [List.length_append, List.map_append]
    exact ⟨_, hv2, hr2⟩
  case done =>
    rintro D ys W hD rfl ⟨⟨v, hv, hrow, -⟩, hB, hS⟩ hK
    have hc := hv.cell
    gi_wp2
    refine ⟨by simp, .inl ⟨_, _, rfl, run_takeDeferred hK, ?_⟩⟩
    rw [nodes_prs, prs_length] at hrow
    exact ⟨_, results_tmp rfl _ _ _, v, rfl, ownsRow_putObj hrow _ hK rfl, hB.trans (belowK_b (w := w) (Nat.le_refl _) W D _ _ (by omega) hK rfl rfl)⟩
  case stop =>
    rintro D c pre W _ _ h _
    exact h.elim
theorem nodes_any (a : Option Addr) (cap : Nat) (rs : List Sg) (hlr : rs.length ≤ 100000) (w : World) (hat : SigsAt w a rs) :
    Calls Try.prog 19 #[.slice a rs.length cap] w fun e W' => ∃ v, e = .returned v ∧ W'.ownsRow w.heap.size 3 1 v rs.length (nodesOf rs) ∧ Below w.heap.size w W' :=
  (callsIn_wide (n := 8)).1 (nodes_in _ 8 trivial trivial trivial rfl (by decide) a cap rs hlr w hat)
end Go.Proofs.Ytbfhpgneaklgoaa
