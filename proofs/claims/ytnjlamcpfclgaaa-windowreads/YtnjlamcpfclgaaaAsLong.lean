/- mask.asLong over a mask's numbers; raddlelaw08.all: contracts. -/
import Derived.Test.YtnjlamcpfclgaaaSeq
namespace Go.Proofs.Ytnjlamcpfclgaaa
open Go.RowKit Go.Shelf
attribute [local go_sem] Oper.semAt_some
theorem all_stops (F : Fence) (n : Nat) (h29 : F.fn 60) (h8 : F.fn 38) (h24 : F.fn 46) (hro : F.round = none) (hn : 2 ≤ n) (Bs n₀ : Nat) (m : Nat) (hm : m < 2 ^ 64) (w : World) (hBs : Bs < n₀) (hn₀ : n₀ ≤ w.heap.size)
    (hc : w.cell? ⟨Bs, 0, none⟩ = some (.int .u64 (m : Int))) :
    SeqStopsK F n Try.prog 60 #[.pointer (some ⟨Bs, 0, none⟩)] (fun x : Nat => #[Value.int .i64 (x : Int)]) (Below n₀) (fun ys => ys = setN m) (fun pre => pre <+: setN m) 64 w := fun l J Jx W hW _ _ hY h0 =>
  all1_in F n h29 h8 h24 hro hn m l Bs (Below n₀) (fun A => Below.refl _ A) (fun h k => h.trans k) (fun h e => (h.cell (p := ⟨Bs, 0, none⟩) hBs).trans e) hm J Jx hY W ((hW.cell (p := ⟨Bs, 0, none⟩) (by simp; omega)).trans hc) h0
/-- the block Bs lies as it lay -/
def KeepsAt (Bs : Nat) (A B : World) : Prop := Bs < A.heap.size → B.heap[Bs]? = A.heap[Bs]?
theorem KeepsAt.cell {Bs : Nat} {A B : World} (h : KeepsAt Bs A B) {v : Value} (e : A.cell? ⟨Bs, 0, none⟩ = some v) : B.cell? ⟨Bs, 0, none⟩ = some v := by
  have hb : Bs < A.heap.size := by
    rcases Nat.lt_or_ge Bs A.heap.size with h' | h'
    · exact h'
    · simp [World.cell?, h'] at e
  simp only [World.cell?, h hb] at e ⊢
  exact e
theorem KeepsAt.tr {Bs : Nat} {A B C : World} (h : KeepsAt Bs A B) (k : KeepsAt Bs B C) : KeepsAt Bs A C := by
  intro hb
  have h1 := h hb
  have : Bs < B.heap.size := by
    rcases Nat.lt_or_ge Bs B.heap.size with h' | h'
    · exact h'
    · rw [Array.getElem?_eq_none h', Array.getElem?_eq_getElem hb] at h1; cases h1
  rw [k this, h1]
theorem all_stopsK (F : Fence) (n : Nat) (h29 : F.fn 60) (h8 : F.fn 38) (h24 : F.fn 46) (hro : F.round = none) (hn : 2 ≤ n) (Bs : Nat) (m : Nat) (hm : m < 2 ^ 64) (w : World) (hBs : Bs < w.heap.size)
    (hc : w.cell? ⟨Bs, 0, none⟩ = some (.int .u64 (m : Int))) :
    SeqStopsK F n Try.prog 60 #[.pointer (some ⟨Bs, 0, none⟩)] (fun x : Nat => #[Value.int .i64 (x : Int)]) (KeepsAt Bs) (fun ys => ys = setN m) (fun pre => pre <+: setN m) 64 w := fun l J Jx W hW _ _ hY h0 =>
  all1_in F n h29 h8 h24 hro hn m l Bs (KeepsAt Bs) (fun _ _ => rfl) (fun h k => h.tr k) (fun h e => h.cell e) hm J Jx hY W ((hW.cell (p := ⟨Bs, 0, none⟩) (by simp; omega)).trans hc) h0
theorem keepsAt_b {Bs : Nat} {w : World} (hn : Bs < w.heap.size) (W : World) (l : Nat) (o o' : Obj) (hl : w.heap.size ≤ l) (_ : W.heap[l]? = some o) (_ : o.isCells = false) (_ : o.isWalk = false) : KeepsAt Bs W (W.putObj l o') :=
  fun _ => World.putObj_heap_other (by omega)
/-- each fits at its place -/
def Fits (p : Nat → Nat → Bool) (l : List Nat) : Prop := ∀ k (h : k < l.length), p k l[k] = true
theorem Fits.nil (p : Nat → Nat → Bool) : Fits p [] := fun _ h => absurd h (Nat.not_lt_zero _)
theorem Fits.snoc {p : Nat → Nat → Bool} {l : List Nat} {x : Nat} (h : Fits p l) (hx : p l.length x = true) : Fits p (l ++ [x]) := by
  intro k hk
  rw [List.length_append, List.length_singleton] at hk
  rcases Nat.lt_or_eq_of_le (Nat.lt_succ_iff.1 hk) with h' | rfl
  · rw [List.getElem_append_left h']; exact h k h'
  · simpa using hx
def vals (l : List Nat) : List Value := l.map fun (x : Nat) => Value.int .i64 (x : Int)
/-- what asLong lists -/
def Longest (p : Nat → Nat → Bool) (all l : List Nat) : Prop := Fits p l ∧ (l = all ∨ ∃ x, l ++ [x] <+: all ∧ p l.length x = false)
theorem vals_snoc (l : List Nat) (x : Nat) : vals (l ++ [x]) = vals l ++ [Value.int .i64 (x : Int)] := by simp [vals]
theorem ownsRow_low {W : World} {base base' : Nat} {e : TypeId} {size : Nat} {v : Value} {k : Nat} {xs : List Value} (hb : base' ≤ base) (h : W.ownsRow base e size v k xs) : W.ownsRow base' e size v k xs := by
  refine ⟨h.1, ?_⟩
  rcases h.2 with h | ⟨g, cap, cur, e1, e2, e3⟩
  · exact .inl h
  · exact .inr ⟨g, cap, cur, e1, Nat.le_trans hb e2, e3⟩
theorem ownsRow_slice {W : World} {base : Nat} {e : TypeId} {size : Nat} {v : Value} {k : Nat} {xs : List Value} (h : W.ownsRow base e size v k xs) : ∃ a cap, v = .slice a k cap := by
  rcases h.2 with ⟨rfl, rfl⟩ | ⟨g, cap, cur, rfl, _⟩
  · exact ⟨none, 0, rfl⟩
  · exact ⟨_, _, rfl⟩
set_option maxRecDepth 100000 in
set_option maxHeartbeats 2000000 in
theorem asLongO_in (F : Fence) (n : Nat) (h26 : F.fn 49) (h29 : F.fn 60) (h8 : F.fn 38) (h24 : F.fn 46) (hro : F.round = none) (hn : 4 ≤ n) (hg : F.fn 59) (p : Nat → Nat → Bool)
    (hp : ∀ (k x : Nat) (W : World), CallsIn F (n - 1 - 1 - 1) Try.prog 59 #[.int .i64 (k : Int), .int .i64 (x : Int)] W fun e W' => e = .returned (.bool (p k x)) ∧ W' = W)
    (Bs : Nat) (m : Nat) (hm : m < 2 ^ 64) (w : World) (hBs : Bs < w.heap.size) (hcB : w.cell? ⟨Bs, 0, none⟩ = some (.int .u64 (m : Int))) :
    CallsIn F n Try.prog 49 #[.func (.func 60) #[] #[.pointer (some ⟨Bs, 0, none⟩)], .func (.func 59) #[] #[]] w fun e W' => ∃ v l, e = .returned v ∧ Longest p (setN m) l ∧ W'.ownsRow w.heap.size 3 1 v l.length (vals l) ∧ Below w.heap.size w W' := by
  have h1 : 1 ≤ n := by omega
  have h1' : 1 ≤ n - 1 - 1 := by omega
  obtain ⟨i0, hi, hz0, hz1, hz2⟩ := info_parts info3
  refine callsIn_of_wp_marks Try.func49 rfl h26 ?_ hro
  simp only [Try.ntmps49, List.size_toArray, List.length_cons, List.length_nil, Nat.reduceAdd, Nat.reduceSub, Array.replicate_succ, Array.replicate_zero, List.push_toArray, List.append_toArray, List.nil_append, List.cons_append]
  gi_wp2
  have hfit0 : (w.alloc (.cells #[.func (.func 59) #[] #[]] 74)).cell? ⟨w.heap.size, 0, none⟩ = some (.func (.func 59) #[] #[]) := (Boxed.new w 74 (.func (.func 59) #[] #[])).cell
  have hBw : Below w.heap.size w (w.alloc (.cells #[.func (.func 59) #[] #[]] 74)) := (Below.refl _ w).alloc (Nat.le_refl _) _
  have hsz : (w.alloc (.cells #[.func (.func 59) #[] #[]] 74)).heap.size = w.heap.size + 1 := World.size_alloc _ _
  obtain ⟨w1, hw1⟩ : ∃ w1, w.alloc (.cells #[.func (.func 59) #[] #[]] 74) = w1 := ⟨_, rfl⟩
  rw [hw1] at hfit0 hBw hsz ⊢
  clear hw1
  rw [← hsz]
  have HSZ := hide hsz
  clear hsz
  have hbs1 : Bs < w1.heap.size := by have := HSZ.out; omega
  have hfl : w.heap.size < w1.heap.size := by have := HSZ.out; omega
  have hc1 : w1.cell? ⟨Bs, 0, none⟩ = some (.int .u64 (m : Int)) := (hBw.cell (p := ⟨Bs, 0, none⟩) hBs).trans hcB
  have bO := Boxed.new w1 51 (.slice none 0 0)
  have hB0 : Below w1.heap.size w1 (w1.alloc (.cells #[.slice none 0 0] 51)) := (Below.refl _ w1).alloc (Nat.le_refl _) _
  have hc2 : (w1.alloc (.cells #[.slice none 0 0] 51)).cell? ⟨Bs, 0, none⟩ = some (.int .u64 (m : Int)) := (hB0.cell (p := ⟨Bs, 0, none⟩) hbs1).trans hc1
  refine wpIn_rangeFunc_ownG hro h1 (gf := 60) (lb := #[.pointer (some ⟨Bs, 0, none⟩)]) rfl h29 (enters_of Try.func60 (by kernel_rfl) rfl)
    (all_stops F (n - 1) h29 h8 h24 hro (by omega) Bs w1.heap.size m hm _ hbs1 (by simp) hc2) belowK_t (belowK_b (by simp)) (Below.refl _ _) (fun _ => rfl)
    (fun pre W => (∃ v, Boxed W w1.heap.size 51 v ∧ W.ownsRow w1.heap.size 3 1 v pre.length (vals pre) ∧ Fits p pre) ∧ Below w1.heap.size w1 W)
    (fun c pre W => (∃ v, Boxed W w1.heap.size 51 v ∧ W.ownsRow w1.heap.size 3 1 v pre.dropLast.length (vals pre.dropLast) ∧ (c = .exit 0 ∧ ∃ l x, pre = l ++ [x] ∧ Fits p l ∧ p l.length x = false)) ∧ Below w1.heap.size w1 W)
    (OwnFrom.and (Own.from (holdsRow_own w1.heap.size w1.heap.size 51 3 1 (fun pre : List Nat => pre.length) (fun pre => vals pre) (fun pre _ => Fits p pre)) _) (ownFrom_below (Nat.le_refl _) (by simp)))
    (fun c => OwnFrom.and (Own.from (holdsRow_own w1.heap.size w1.heap.size 51 3 1 (fun pre : List Nat => pre.dropLast.length) (fun pre => vals pre.dropLast) (fun pre _ => c = .exit 0 ∧ ∃ l x, pre = l ++ [x] ∧ Fits p l ∧ p l.length x = false)) _) (ownFrom_below (Nat.le_refl _) (by simp)))
    ⟨⟨_, bO, World.ownsRow_nil _ _ _ _, Fits.nil p⟩, hB0⟩
    (fun x => { tmps := #[.func (.func 60) #[] #[.pointer (some ⟨Bs, 0, none⟩)], .func (.func 59) #[] #[], undef, .pointer (some ⟨w.heap.size, 0, none⟩), .slice none 0 0, .pointer (some ⟨w1.heap.size, 0, none⟩), .int .i64 (x : Int), .func (.func 60) #[] #[.pointer (some ⟨Bs, 0, none⟩)], .int .i64 (x : Int), undef, undef, undef, undef, undef, undef, undef, undef, undef, undef, undef], defers := [] }) ?assign ?body ?done ?stop
  case assign =>
    intro l x W K hK
    gi_wp2
    exact hK
  case body =>
    rintro l pre x W ⟨⟨v, hv, hrow, hfits⟩, hB⟩ hlt
    have hc := hv.cell
    have hcf : W.cell? ⟨w.heap.size, 0, none⟩ = some (.func (.func 59) #[] #[]) := (hB.cell (p := ⟨w.heap.size, 0, none⟩) hfl).trans hfit0
    obtain ⟨va, vcap, rfl⟩ := ownsRow_slice hrow
    have cp := fun W => hp pre.length x W
    cases hb : p pre.length x
    · simp only [hb] at cp
      have HB := hide hb
      clear hb
      gi_wp2_with (gi_at_call 59; refine (CallsIn.inRound l (cp _)).mono ?_; rintro e w5 ⟨rfl, hx⟩; obtain rfl := hx.symm; clear hx)
      exact ⟨KeepsFrom.refl _ _, ⟨_, hv, by simpa using hrow, rfl, pre, x, rfl, hfits, HB.out⟩, hB⟩
    · simp only [hb] at cp
      have HB := hide hb
      clear hb
      gi_wp2_with (first | (gi_at_call 59; refine (CallsIn.inRound l (cp _)).mono ?_; rintro e w5 ⟨rfl, hx⟩; obtain rfl := hx.symm; clear hx) | (gi_at_builtin; refine wpListIn_append_own _ rfl _ _ 51 rfl w1.heap.size 3 i0 (.int .i64 0) 1 8 Try.underlying51 hi hz0 hz1 hz2 rfl (by decide) _ _ _ rfl (hrow.alloc _) ⟨W.heap.size, 0, none⟩ 1 1 [.int .i64 (x : Int)] rfl rfl (cell_one_new _ _ _) (by simp [Value.oneCell']) (by unfold maxLen; omega) (by omega) (by have := hB.size; simp; omega) ?_; intro v' w2 hown' hgrow _; obtain ⟨g', cap', rfl⟩ := ownsRow_succ hown'; obtain ⟨hv1, hv2, hr2, hk2, hb2⟩ := hv.appended (by decide) hrow hB.size (Nat.le_refl _) hown' hgrow; have hc1 := hv1.cell; have hf1 := hv1.frozen))
      exact ⟨hk2.from _, hb2, ⟨_, hv2, by rw [vals_snoc]; simpa using hr2, hfits.snoc HB.out⟩, hB.trans hb2⟩
  case done =>
    rintro D ys W hD rfl ⟨⟨v, hv, hrow, hfits⟩, hB⟩ hK
    have hc := hv.cell
    gi_wp2
    refine ⟨by simp, .inl ⟨_, _, rfl, run_takeDeferred hK, ?_⟩⟩
    exact ⟨_, results_tmp rfl _ _ _, v, setN m, rfl, ⟨hfits, .inl rfl⟩, ownsRow_low (Nat.le_of_lt hfl) (ownsRow_putObj hrow _ hK rfl), hBw.trans ((hB.trans (belowK_b (w := w1) (Nat.le_refl _) W D _ _ (by simp at hD; omega) hK rfl rfl)).mono (Nat.le_of_lt hfl))⟩
  case stop =>
    rintro D c pre W hD hpre ⟨⟨v, hv, hrow, rfl, l, x, rfl, hfits, hno⟩, hB⟩ hK
    have hc := hv.cell
    rw [List.dropLast_concat] at hrow
    gi_wp2
    refine ⟨by simp, .inl ⟨_, _, rfl, run_takeDeferred hK, ?_⟩⟩
    exact ⟨_, results_tmp rfl _ _ _, v, l, rfl, ⟨hfits, .inr ⟨x, hpre, hno⟩⟩, ownsRow_low (Nat.le_of_lt hfl) (ownsRow_putObj hrow _ hK rfl), hBw.trans ((hB.trans (belowK_b (w := w1) (Nat.le_refl _) W D _ _ (by simp at hD; omega) hK rfl rfl)).mono (Nat.le_of_lt hfl))⟩
set_option maxRecDepth 100000 in
set_option maxHeartbeats 2000000 in
theorem asLongM_in (F : Fence) (n : Nat) (h26 : F.fn 49) (h29 : F.fn 60) (h8 : F.fn 38) (h24 : F.fn 46) (hro : F.round = none) (hn : 4 ≤ n) (hg : F.fn 51) (p : Nat → Nat → Bool)
    (hp : ∀ (k x : Nat) (W : World), CallsIn F (n - 1 - 1 - 1) Try.prog 51 #[.int .i64 (k : Int), .int .i64 (x : Int)] W fun e W' => e = .returned (.bool (p k x)) ∧ W' = W)
    (Bs : Nat) (m : Nat) (hm : m < 2 ^ 64) (w : World) (hBs : Bs < w.heap.size) (hcB : w.cell? ⟨Bs, 0, none⟩ = some (.int .u64 (m : Int))) :
    CallsIn F n Try.prog 49 #[.func (.func 60) #[] #[.pointer (some ⟨Bs, 0, none⟩)], .func (.func 51) #[] #[]] w fun e W' => ∃ v l, e = .returned v ∧ Longest p (setN m) l ∧ W'.ownsRow w.heap.size 3 1 v l.length (vals l) ∧ Below w.heap.size w W' := by
  have h1 : 1 ≤ n := by omega
  have h1' : 1 ≤ n - 1 - 1 := by omega
  obtain ⟨i0, hi, hz0, hz1, hz2⟩ := info_parts info3
  refine callsIn_of_wp_marks Try.func49 rfl h26 ?_ hro
  simp only [Try.ntmps49, List.size_toArray, List.length_cons, List.length_nil, Nat.reduceAdd, Nat.reduceSub, Array.replicate_succ, Array.replicate_zero, List.push_toArray, List.append_toArray, List.nil_append, List.cons_append]
  gi_wp2
  have hfit0 : (w.alloc (.cells #[.func (.func 51) #[] #[]] 74)).cell? ⟨w.heap.size, 0, none⟩ = some (.func (.func 51) #[] #[]) := (Boxed.new w 74 (.func (.func 51) #[] #[])).cell
  have hBw : Below w.heap.size w (w.alloc (.cells #[.func (.func 51) #[] #[]] 74)) := (Below.refl _ w).alloc (Nat.le_refl _) _
  have hsz : (w.alloc (.cells #[.func (.func 51) #[] #[]] 74)).heap.size = w.heap.size + 1 := World.size_alloc _ _
  obtain ⟨w1, hw1⟩ : ∃ w1, w.alloc (.cells #[.func (.func 51) #[] #[]] 74) = w1 := ⟨_, rfl⟩
  rw [hw1] at hfit0 hBw hsz ⊢
  clear hw1
  rw [← hsz]
  have HSZ := hide hsz
  clear hsz
  have hbs1 : Bs < w1.heap.size := by have := HSZ.out; omega
  have hfl : w.heap.size < w1.heap.size := by have := HSZ.out; omega
  have hc1 : w1.cell? ⟨Bs, 0, none⟩ = some (.int .u64 (m : Int)) := (hBw.cell (p := ⟨Bs, 0, none⟩) hBs).trans hcB
  have bO := Boxed.new w1 51 (.slice none 0 0)
  have hB0 : Below w1.heap.size w1 (w1.alloc (.cells #[.slice none 0 0] 51)) := (Below.refl _ w1).alloc (Nat.le_refl _) _
  have hc2 : (w1.alloc (.cells #[.slice none 0 0] 51)).cell? ⟨Bs, 0, none⟩ = some (.int .u64 (m : Int)) := (hB0.cell (p := ⟨Bs, 0, none⟩) hbs1).trans hc1
  refine wpIn_rangeFunc_ownG hro h1 (gf := 60) (lb := #[.pointer (some ⟨Bs, 0, none⟩)]) rfl h29 (enters_of Try.func60 (by kernel_rfl) rfl)
    (all_stops F (n - 1) h29 h8 h24 hro (by omega) Bs w1.heap.size m hm _ hbs1 (by simp) hc2) belowK_t (belowK_b (by simp)) (Below.refl _ _) (fun _ => rfl)
    (fun pre W => (∃ v, Boxed W w1.heap.size 51 v ∧ W.ownsRow w1.heap.size 3 1 v pre.length (vals pre) ∧ Fits p pre) ∧ Below w1.heap.size w1 W)
    (fun c pre W => (∃ v, Boxed W w1.heap.size 51 v ∧ W.ownsRow w1.heap.size 3 1 v pre.dropLast.length (vals pre.dropLast) ∧ (c = .exit 0 ∧ ∃ l x, pre = l ++ [x] ∧ Fits p l ∧ p l.length x = false)) ∧ Below w1.heap.size w1 W)
    (OwnFrom.and (Own.from (holdsRow_own w1.heap.size w1.heap.size 51 3 1 (fun pre : List Nat => pre.length) (fun pre => vals pre) (fun pre _ => Fits p pre)) _) (ownFrom_below (Nat.le_refl _) (by simp)))
    (fun c => OwnFrom.and (Own.from (holdsRow_own w1.heap.size w1.heap.size 51 3 1 (fun pre : List Nat => pre.dropLast.length) (fun pre => vals pre.dropLast) (fun pre _ => c = .exit 0 ∧ ∃ l x, pre = l ++ [x] ∧ Fits p l ∧ p l.length x = false)) _) (ownFrom_below (Nat.le_refl _) (by simp)))
    ⟨⟨_, bO, World.ownsRow_nil _ _ _ _, Fits.nil p⟩, hB0⟩
    (fun x => { tmps := #[.func (.func 60) #[] #[.pointer (some ⟨Bs, 0, none⟩)], .func (.func 51) #[] #[], undef, .pointer (some ⟨w.heap.size, 0, none⟩), .slice none 0 0, .pointer (some ⟨w1.heap.size, 0, none⟩), .int .i64 (x : Int), .func (.func 60) #[] #[.pointer (some ⟨Bs, 0, none⟩)], .int .i64 (x : Int), undef, undef, undef, undef, undef, undef, undef, undef, undef, undef, undef], defers := [] }) ?assign ?body ?done ?stop
  case assign =>
    intro l x W K hK
    gi_wp2
    exact hK
  case body =>
    rintro l pre x W ⟨⟨v, hv, hrow, hfits⟩, hB⟩ hlt
    have hc := hv.cell
    have hcf : W.cell? ⟨w.heap.size, 0, none⟩ = some (.func (.func 51) #[] #[]) := (hB.cell (p := ⟨w.heap.size, 0, none⟩) hfl).trans hfit0
    obtain ⟨va, vcap, rfl⟩ := ownsRow_slice hrow
    have cp := fun W => hp pre.length x W
    cases hb : p pre.length x
    · simp only [hb] at cp
      have HB := hide hb
      clear hb
      gi_wp2_with (gi_at_call 51; refine (CallsIn.inRound l (cp _)).mono ?_; rintro e w5 ⟨rfl, hx⟩; obtain rfl := hx.symm; clear hx)
      exact ⟨KeepsFrom.refl _ _, ⟨_, hv, by simpa using hrow, rfl, pre, x, rfl, hfits, HB.out⟩, hB⟩
    · simp only [hb] at cp
      have HB := hide hb
      clear hb
      gi_wp2_with (first | (gi_at_call 51; refine (CallsIn.inRound l (cp _)).mono ?_; rintro e w5 ⟨rfl, hx⟩; obtain rfl := hx.symm; clear hx) | (gi_at_builtin; refine wpListIn_append_own _ rfl _ _ 51 rfl w1.heap.size 3 i0 (.int .i64 0) 1 8 Try.underlying51 hi hz0 hz1 hz2 rfl (by decide) _ _ _ rfl (hrow.alloc _) ⟨W.heap.size, 0, none⟩ 1 1 [.int .i64 (x : Int)] rfl rfl (cell_one_new _ _ _) (by simp [Value.oneCell']) (by unfold maxLen; omega) (by omega) (by have := hB.size; simp; omega) ?_; intro v' w2 hown' hgrow _; obtain ⟨g', cap', rfl⟩ := ownsRow_succ hown'; obtain ⟨hv1, hv2, hr2, hk2, hb2⟩ := hv.appended (by decide) hrow hB.size (Nat.le_refl _) hown' hgrow; have hc1 := hv1.cell; have hf1 := hv1.frozen))
      exact ⟨hk2.from _, hb2, ⟨_, hv2, by rw [vals_snoc]; simpa using hr2, hfits.snoc HB.out⟩, hB.trans hb2⟩
  case done =>
    rintro D ys W hD rfl ⟨⟨v, hv, hrow, hfits⟩, hB⟩ hK
    have hc := hv.cell
    gi_wp2
    refine ⟨by simp, .inl ⟨_, _, rfl, run_takeDeferred hK, ?_⟩⟩
    exact ⟨_, results_tmp rfl _ _ _, v, setN m, rfl, ⟨hfits, .inl rfl⟩, ownsRow_low (Nat.le_of_lt hfl) (ownsRow_putObj hrow _ hK rfl), hBw.trans ((hB.trans (belowK_b (w := w1) (Nat.le_refl _) W D _ _ (by simp at hD; omega) hK rfl rfl)).mono (Nat.le_of_lt hfl))⟩
  case stop =>
    rintro D c pre W hD hpre ⟨⟨v, hv, hrow, rfl, l, x, rfl, hfits, hno⟩, hB⟩ hK
    have hc := hv.cell
    rw [List.dropLast_concat] at hrow
    gi_wp2
    refine ⟨by simp, .inl ⟨_, _, rfl, run_takeDeferred hK, ?_⟩⟩
    exact ⟨_, results_tmp rfl _ _ _, v, l, rfl, ⟨hfits, .inr ⟨x, hpre, hno⟩⟩, ownsRow_low (Nat.le_of_lt hfl) (ownsRow_putObj hrow _ hK rfl), hBw.trans ((hB.trans (belowK_b (w := w1) (Nat.le_refl _) W D _ _ (by simp at hD; omega) hK rfl rfl)).mono (Nat.le_of_lt hfl))⟩
end Go.Proofs.Ytnjlamcpfclgaaa
