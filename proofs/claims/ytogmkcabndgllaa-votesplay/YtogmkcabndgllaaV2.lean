/- what a book of votes keeps, told without memory -/
import Derived.Test.YtogmkcabndgllaaV1
namespace Go.Proofs.Ytogmkcabndgllaa
def find (st : List On) (k n : Int) : Option On := st.find? (fun x => decide (x.v.k = k ∧ x.n = n))
def Uniq (st : List On) : Prop := st.Pairwise (fun x y => ¬ (x.v.k = y.v.k ∧ x.n = y.n))
structure Bk (N : Int) (st : List On) : Prop where
  good : 4 ≤ N ∧ N ≤ 64
  ok : ∀ x ∈ st, x.ok
  node : ∀ x ∈ st, 0 ≤ x.n ∧ x.n < N
  kind : ∀ x ∈ st, x.v.k = 1 ∨ x.v.k = 2
  uniq : Uniq st
def putL (st : List On) (x : On) : List On := if (find st x.v.k x.n).isSome then st.map (fun y => if y.v.k = x.v.k ∧ y.n = x.n then x else y) else st ++ [x]
theorem find_none {st : List On} {k n : Int} (h : find st k n = none) : ∀ x ∈ st, ¬ (x.v.k = k ∧ x.n = n) := by
  intro x hx
  have := List.find?_eq_none.1 h x hx
  simpa using this
theorem find_some {st : List On} {k n : Int} {x : On} (h : find st k n = some x) : x ∈ st ∧ x.v.k = k ∧ x.n = n := by
  refine ⟨List.mem_of_find?_eq_some h, ?_⟩
  have := List.find?_some h
  simpa using this
theorem find_mem {st : List On} (hu : Uniq st) {x : On} (hx : x ∈ st) : find st x.v.k x.n = some x := by
  induction st with
  | nil => cases hx
  | cons a r ih =>
    obtain ⟨h1, h2⟩ := List.pairwise_cons.1 hu
    rcases List.mem_cons.1 hx with rfl | hx
    · simp [find]
    · have hne := h1 x hx
      unfold find
      rw [List.find?_cons, decide_eq_false hne]
      exact ih h2 hx
theorem find_iff {st : List On} (hu : Uniq st) {x : On} {k n : Int} : find st k n = some x ↔ x ∈ st ∧ x.v.k = k ∧ x.n = n :=
  ⟨find_some, fun ⟨h, h1, h2⟩ => by rw [← h1, ← h2]; exact find_mem hu h⟩
theorem find_put (st : List On) (x : On) (k n : Int) : find (putL st x) k n = if k = x.v.k ∧ n = x.n then some x else find st k n := by
  unfold putL
  cases hf : find st x.v.k x.n with
  | none =>
    simp only [Option.isSome_none, Bool.false_eq_true, if_false]
    unfold find
    rw [List.find?_append]
    by_cases h : k = x.v.k ∧ n = x.n
    · rw [if_pos h]
      obtain ⟨rfl, rfl⟩ := h
      have : List.find? (fun y : On => decide (y.v.k = x.v.k ∧ y.n = x.n)) st = none := hf
      rw [this]
      simp
    · rw [if_neg h]
      have h2 : ¬ (x.v.k = k ∧ x.n = n) := fun q => h ⟨q.1.symm, q.2.symm⟩
      rw [List.find?_cons, decide_eq_false h2]
      cases List.find? (fun y : On => decide (y.v.k = k ∧ y.n = n)) st <;> rfl
  | some y0 =>
    simp only [Option.isSome_some, if_true]
    have hm := find_some hf
    unfold find
    rw [List.find?_map]
    by_cases h : k = x.v.k ∧ n = x.n
    · rw [if_pos h]
      obtain ⟨rfl, rfl⟩ := h
      have hf' : List.find? (fun y : On => decide (y.v.k = x.v.k ∧ y.n = x.n)) st = some y0 := hf
      have e : ((fun y : On => decide (y.v.k = x.v.k ∧ y.n = x.n)) ∘ fun y => if y.v.k = x.v.k ∧ y.n = x.n then x else y) = (fun y : On => decide (y.v.k = x.v.k ∧ y.n = x.n)) := by
        funext y
        simp only [Function.comp]
        by_cases q : y.v.k = x.v.k ∧ y.n = x.n
        · simp only [q, and_self, if_true]
        · simp only [q, if_false]
      rw [e, hf', Option.map_some, if_pos hm.2]
    · rw [if_neg h]
      have e : ((fun y : On => decide (y.v.k = k ∧ y.n = n)) ∘ fun y => if y.v.k = x.v.k ∧ y.n = x.n then x else y) = (fun y : On => decide (y.v.k = k ∧ y.n = n)) := by
        funext y
        simp only [Function.comp]
        by_cases q : y.v.k = x.v.k ∧ y.n = x.n
        · have h2 : ¬ (x.v.k = k ∧ x.n = n) := fun q => h ⟨q.1.symm, q.2.symm⟩
          have h3 : ¬ (y.v.k = k ∧ y.n = n) := fun r => h2 ⟨q.1 ▸ r.1, q.2 ▸ r.2⟩
          rw [decide_eq_false h3, decide_eq_false_iff_not, if_pos q]
          exact h2
        · simp only [q, if_false]
      rw [e]
      cases hq : List.find? (fun y : On => decide (y.v.k = k ∧ y.n = n)) st with
      | none => rfl
      | some y =>
        have := List.find?_some hq
        have h3 : y.v.k = k ∧ y.n = n := by simpa using this
        have : ¬ (y.v.k = x.v.k ∧ y.n = x.n) := fun q => h ⟨h3.1 ▸ q.1, h3.2 ▸ q.2⟩
        rw [Option.map_some, if_neg this]
theorem put_mem {st : List On} {x y : On} (h : y ∈ putL st x) : y = x ∨ y ∈ st := by
  unfold putL at h
  split at h
  · obtain ⟨z, hz, rfl⟩ := List.mem_map.1 h
    split
    · exact .inl rfl
    · exact .inr hz
  · rcases List.mem_append.1 h with h | h
    · exact .inr h
    · exact .inl (by simpa using h)
theorem put_uniq {st : List On} (hu : Uniq st) (x : On) : Uniq (putL st x) := by
  unfold putL
  split
  · unfold Uniq
    rw [List.pairwise_map]
    refine hu.imp (fun {a b} hab => ?_)
    intro hc
    apply hab
    split at hc <;> split at hc
    · rename_i q1 q2
      exact ⟨q1.1.trans q2.1.symm, q1.2.trans q2.2.symm⟩
    · rename_i q1 q2
      exact absurd ⟨hc.1.symm, hc.2.symm⟩ q2
    · rename_i q1 q2
      exact absurd hc q1
    · exact hc
  · rename_i hn
    have hn : find st x.v.k x.n = none := by
      cases h : find st x.v.k x.n with
      | none => rfl
      | some y => rw [h] at hn; simp at hn
    refine List.pairwise_append.2 ⟨hu, by simp, fun a ha b hb => ?_⟩
    simp only [List.mem_singleton] at hb
    subst hb
    exact find_none hn a ha
theorem put_len (st : List On) (x : On) : (putL st x).length ≤ st.length + 1 := by
  unfold putL
  split <;> simp
def addE (N : Int) (st : List On) (x : On) : Int :=
  if x.n < 0 ∨ N ≤ x.n then 2 else if x.v.k ≠ 1 ∧ x.v.k ≠ 2 then 2 else
    match find st x.v.k x.n with
    | none => 0
    | some y => if y.v = x.v then 0 else if y.v.v = x.v.v then 181 else if x.v.v < y.v.v then 90 else 0
def addL (N : Int) (st : List On) (x : On) : List On :=
  if addE N st x ≠ 0 then st else
    match find st x.v.k x.n with
    | none => putL st x
    | some y => if y.v = x.v then st else putL st x
theorem Bk.put {N : Int} {st : List On} (h : Bk N st) {x : On} (hx : x.ok) (hn : 0 ≤ x.n ∧ x.n < N) (hk : x.v.k = 1 ∨ x.v.k = 2) : Bk N (putL st x) :=
  ⟨h.good, fun y hy => (put_mem hy).elim (fun e => e ▸ hx) (h.ok y), fun y hy => (put_mem hy).elim (fun e => e ▸ hn) (h.node y), fun y hy => (put_mem hy).elim (fun e => e ▸ hk) (h.kind y), put_uniq h.uniq x⟩
theorem Bk.add {N : Int} {st : List On} (h : Bk N st) {x : On} (hx : x.ok) : Bk N (addL N st x) := by
  unfold addL
  split
  · exact h
  · rename_i he
    have he : addE N st x = 0 := by simpa using he
    have hp : 0 ≤ x.n ∧ x.n < N ∧ (x.v.k = 1 ∨ x.v.k = 2) := by
      unfold addE at he
      split at he
      · cases he
      · split at he
        · cases he
        · omega
    split
    · exact h.put hx ⟨hp.1, hp.2.1⟩ hp.2.2
    · split
      · exact h
      · exact h.put hx ⟨hp.1, hp.2.1⟩ hp.2.2
theorem add_len (N : Int) (st : List On) (x : On) : (addL N st x).length ≤ st.length + 1 := by
  unfold addL
  split
  · omega
  · split
    · exact put_len _ _
    · split
      · omega
      · exact put_len _ _
/-- how many have a vote, and their signs -/
def sgOf (st : List On) (v : Vt) (n : Nat) : Option Sg := match find st v.k n with | some x => if x.v = v then some ⟨n, x.t⟩ else none | none => none
def signsL (N : Nat) (st : List On) (v : Vt) : List Sg := (List.range N).filterMap (sgOf st v)
def countL (st : List On) (v : Vt) : Nat := (st.filter (fun x => decide (x.v = v))).length
theorem signs_succ (N : Nat) (st : List On) (v : Vt) : signsL (N + 1) st v = signsL N st v ++ (match sgOf st v N with | some s => [s] | none => []) := by
  unfold signsL
  rw [List.range_succ, List.filterMap_append]
  simp only [List.filterMap_cons, List.filterMap_nil]
  cases sgOf st v N <;> rfl
theorem sg_some {st : List On} {v : Vt} {n : Nat} {s : Sg} (h : sgOf st v n = some s) : ∃ x ∈ st, x.v = v ∧ x.n = n ∧ s = ⟨x.n, x.t⟩ := by
  unfold sgOf at h
  cases hf : find st v.k n with
  | none => rw [hf] at h; cases h
  | some x =>
    rw [hf] at h
    obtain ⟨h1, h2, h3⟩ := find_some hf
    simp only at h
    split at h
    · rename_i hv
      refine ⟨x, h1, hv, h3, ?_⟩
      rw [h3]
      exact (Option.some.inj h).symm
    · cases h
theorem sg_of {st : List On} (hu : Uniq st) {x : On} (hx : x ∈ st) {n : Nat} (hn : x.n = n) : sgOf st x.v n = some ⟨x.n, x.t⟩ := by
  unfold sgOf
  rw [← hn, find_mem hu hx]
  simp
theorem sub_len {α : Type} [DecidableEq α] : ∀ (l m : List α), l.Nodup → (∀ x ∈ l, x ∈ m) → l.length ≤ m.length
  | [], _, _, _ => Nat.zero_le _
  | a :: l, m, hn, hs => by
    obtain ⟨h1, h2⟩ := List.nodup_cons.1 hn
    have hm := hs a (by simp)
    have := sub_len l (m.erase a) h2 (fun x hx => (List.mem_erase_of_ne (fun (e : x = a) => h1 (e ▸ hx))).2 (hs x (by simp [hx])))
    rw [List.length_erase_of_mem hm] at this
    have : 0 < m.length := List.length_pos_of_mem hm
    simp only [List.length_cons]
    omega
theorem nodup_range (N : Nat) : (List.range N).Nodup := List.nodup_range
theorem count_signs {N : Int} {st : List On} (h : Bk N st) (v : Vt) : countL st v = (signsL N.toNat st v).length := by
  have hN := h.good
  -- both as lists of nodes
  have e1 : (signsL N.toNat st v).length = ((List.range N.toNat).filter (fun n => (sgOf st v n).isSome)).length := by
    unfold signsL
    induction N.toNat with
    | zero => rfl
    | succ m ih =>
      rw [List.range_succ, List.filterMap_append, List.filter_append, List.length_append, List.length_append, ih]
      simp only [List.filterMap_cons, List.filterMap_nil, List.filter_cons, List.filter_nil]
      cases sgOf st v m <;> simp
  have e2 : countL st v = ((st.filter (fun x => decide (x.v = v))).map (fun x => x.n.toNat)).length := by unfold countL; simp
  rw [e1, e2]
  have hmem : ∀ n : Nat, n ∈ (st.filter (fun x => decide (x.v = v))).map (fun x => x.n.toNat) ↔ n ∈ (List.range N.toNat).filter (fun n => (sgOf st v n).isSome) := by
    intro n
    constructor
    · intro hn
      obtain ⟨x, hx, rfl⟩ := List.mem_map.1 hn
      obtain ⟨hx, hv⟩ := List.mem_filter.1 hx
      have hv : x.v = v := by simpa using hv
      have := h.node x hx
      refine List.mem_filter.2 ⟨List.mem_range.2 (by omega), ?_⟩
      rw [← hv, sg_of h.uniq hx (by omega)]
      rfl
    · intro hn
      obtain ⟨_, hs⟩ := List.mem_filter.1 hn
      obtain ⟨s, hs⟩ := Option.isSome_iff_exists.1 hs
      obtain ⟨x, hx, hv, hxn, _⟩ := sg_some hs
      exact List.mem_map.2 ⟨x, List.mem_filter.2 ⟨hx, by simpa using hv⟩, by rw [hxn]; simp⟩
  have n1 : ((st.filter (fun x => decide (x.v = v))).map (fun x => x.n.toNat)).Nodup := by
    unfold List.Nodup
    rw [List.pairwise_map]
    have := h.uniq.filter (fun x => decide (x.v = v))
    refine List.Pairwise.imp_of_mem ?_ this
    intro a b ha hb hab
    obtain ⟨ha1, ha2⟩ := List.mem_filter.1 ha
    obtain ⟨hb1, hb2⟩ := List.mem_filter.1 hb
    have ha2 : a.v = v := by simpa using ha2
    have hb2 : b.v = v := by simpa using hb2
    have g1 := h.node a ha1
    have g2 := h.node b hb1
    intro he
    apply hab
    rw [ha2, hb2]
    exact ⟨rfl, by omega⟩
  have n2 : ((List.range N.toNat).filter (fun n => (sgOf st v n).isSome)).Nodup := (nodup_range _).filter _
  exact Nat.le_antisymm (sub_len _ _ n1 (fun x hx => (hmem x).1 hx)) (sub_len _ _ n2 (fun x hx => (hmem x).2 hx))
theorem signs_le (N : Nat) (st : List On) (v : Vt) : (signsL N st v).length ≤ N := by
  have := List.length_filterMap_le (sgOf st v) (List.range N)
  simpa [signsL] using this
theorem signs_mem {N : Nat} {st : List On} {v : Vt} {s : Sg} (h : s ∈ signsL N st v) : ∃ x ∈ st, x.v = v ∧ s = ⟨x.n, x.t⟩ := by
  obtain ⟨n, _, hs⟩ := List.mem_filterMap.1 h
  obtain ⟨x, hx, hv, _, e⟩ := sg_some hs
  exact ⟨x, hx, hv, e⟩
theorem signs_ok {N : Int} {st : List On} (hb : Bk N st) {M : Nat} {v : Vt} : ∀ s ∈ signsL M st v, s.ok := by
  intro s hs
  obtain ⟨x, hx, _, rfl⟩ := signs_mem hs
  exact ⟨(hb.ok x hx).tl, (hb.ok x hx).tb, (hb.ok x hx).n⟩
theorem count_zero {N : Int} {st : List On} (h : Bk N st) {v : Vt} (hk : v.k ≠ 1 ∧ v.k ≠ 2) : countL st v = 0 := by
  unfold countL
  rw [List.length_eq_zero_iff, List.filter_eq_nil_iff]
  intro x hx
  have := h.kind x hx
  simp only [decide_eq_true_eq]
  intro e
  rw [e] at this
  omega
/-- the order of votes -/
def lexI : List Int → List Int → Bool
  | [], [] => false
  | [], _ :: _ => true
  | _ :: _, [] => false
  | a :: x, b :: y => decide (a < b) || (decide (a = b) && lexI x y)
theorem lexI_asym : ∀ (x y : List Int), lexI x y = true → lexI y x = false
  | [], [], _ => rfl
  | [], _ :: _, _ => rfl
  | _ :: _, [], h => by simp [lexI] at h
  | a :: x, b :: y, h => by
    have ih := lexI_asym x y
    simp only [lexI, Bool.or_eq_true, decide_eq_true_eq, Bool.and_eq_true, Bool.or_eq_false_iff, decide_eq_false_iff_not, Bool.and_eq_false_iff] at h ⊢
    rcases h with h | ⟨rfl, h⟩
    · exact ⟨by omega, .inl (by omega)⟩
    · exact ⟨by omega, .inr (ih h)⟩
theorem lexI_total : ∀ (x y : List Int), x.length = y.length → lexI x y = false → x ≠ y → lexI y x = true
  | [], [], _, _, h => absurd rfl h
  | [], _ :: _, h, _, _ => by simp at h
  | _ :: _, [], h, _, _ => by simp at h
  | a :: x, b :: y, hl, h, hne => by
    have ih := lexI_total x y (by simpa using hl)
    simp only [lexI, Bool.or_eq_false_iff, decide_eq_false_iff_not, Bool.and_eq_false_iff] at h
    obtain ⟨h1, h2⟩ := h
    by_cases e : a = b
    · subst e
      rcases h2 with h2 | h2
      · exact absurd rfl h2
      · rw [lexI, ih h2 (fun q => hne (by rw [q]))]
        simp
    · have : b < a := by omega
      simp [lexI, this]
theorem lexI_trans : ∀ (x y z : List Int), lexI x y = true → lexI y z = true → lexI x z = true
  | [], [], _, h, _ => by simp [lexI] at h
  | [], _ :: _, [], _, h => by simp [lexI] at h
  | [], _ :: _, _ :: _, _, _ => rfl
  | _ :: _, [], _, h, _ => by simp [lexI] at h
  | _ :: _, _ :: _, [], _, h => by simp [lexI] at h
  | a :: x, b :: y, c :: z, h, k => by
    have ih := lexI_trans x y z
    simp only [lexI, Bool.or_eq_true, decide_eq_true_eq, Bool.and_eq_true] at h k ⊢
    rcases h with h | ⟨rfl, h⟩
    · rcases k with k | ⟨rfl, k⟩
      · left; omega
      · left; exact h
    · rcases k with k | ⟨rfl, k⟩
      · left; exact k
      · right; exact ⟨rfl, ih h k⟩
theorem lexI_self (x : List Int) : lexI x x = false := by
  induction x with
  | nil => rfl
  | cons a x ih => simp [lexI, ih]
def aheadB (v w : Vt) : Bool := if v.v ≠ w.v then decide (w.v < v.v) else if v.d ≠ w.d then lexI v.d w.d else if v.e ≠ w.e then decide (v.e < w.e) else decide (v.s < w.s)
theorem ahead_asym {v w : Vt} (h : aheadB v w = true) : aheadB w v = false := by
  unfold aheadB at *
  by_cases h1 : v.v = w.v
  · rw [if_neg (by simp [h1])] at h ⊢
    by_cases h2 : v.d = w.d
    · rw [if_neg (by simp [h2])] at h ⊢
      by_cases h3 : v.e = w.e
      · rw [if_neg (by simp [h3])] at h ⊢
        simp only [decide_eq_true_eq] at h
        simp; omega
      · rw [if_pos h3] at h
        rw [if_pos (fun q => h3 q.symm)]
        simp only [decide_eq_true_eq] at h
        simp; omega
    · rw [if_pos h2] at h
      rw [if_pos (fun q => h2 q.symm)]
      exact lexI_asym _ _ h
  · rw [if_pos h1] at h
    rw [if_pos (fun q => h1 q.symm)]
    simp only [decide_eq_true_eq] at h
    simp; omega
theorem ahead_total {v w : Vt} (hk : v.k = w.k) (hd : v.d.length = w.d.length) (h : aheadB v w = false) : v = w ∨ aheadB w v = true := by
  unfold aheadB at *
  by_cases h1 : v.v = w.v
  · rw [if_neg (by simp [h1])] at h ⊢
    by_cases h2 : v.d = w.d
    · rw [if_neg (by simp [h2])] at h ⊢
      by_cases h3 : v.e = w.e
      · rw [if_neg (by simp [h3])] at h ⊢
        by_cases h4 : v.s = w.s
        · left
          obtain ⟨a, b, c, d, e⟩ := v
          obtain ⟨a', b', c', d', e'⟩ := w
          simp_all
        · right
          simp only [decide_eq_false_iff_not] at h
          simp; omega
      · rw [if_pos h3] at h
        rw [if_pos (fun q => h3 q.symm)]
        simp only [decide_eq_false_iff_not] at h
        right
        simp; omega
    · rw [if_pos h2] at h
      rw [if_pos (fun q => h2 q.symm)]
      right
      exact lexI_total _ _ hd h h2
  · rw [if_pos h1] at h
    rw [if_pos (fun q => h1 q.symm)]
    simp only [decide_eq_false_iff_not] at h
    right
    simp; omega
theorem ahead_trans {u v w : Vt} (h : aheadB u v = true) (k : aheadB v w = true) : aheadB u w = true := by
  unfold aheadB at *
  by_cases h1 : u.v = v.v
  · rw [if_neg (by simp [h1])] at h
    by_cases k1 : v.v = w.v
    · rw [if_neg (by simp [k1])] at k
      rw [if_neg (by simp [h1, k1])]
      by_cases h2 : u.d = v.d
      · rw [if_neg (by simp [h2])] at h
        by_cases k2 : v.d = w.d
        · rw [if_neg (by simp [k2])] at k
          rw [if_neg (by simp [h2, k2])]
          by_cases h3 : u.e = v.e
          · rw [if_neg (by simp [h3])] at h
            by_cases k3 : v.e = w.e
            · rw [if_neg (by simp [k3])] at k
              rw [if_neg (by simp [h3, k3])]
              simp only [decide_eq_true_eq] at *
              omega
            · rw [if_pos k3] at k
              rw [if_pos (by rw [h3]; exact k3), h3]
              exact k
          · rw [if_pos h3] at h
            by_cases k3 : v.e = w.e
            · rw [← k3, if_pos h3]
              exact h
            · rw [if_pos k3] at k
              simp only [decide_eq_true_eq] at *
              rw [if_pos (by omega)]
              simp; omega
        · rw [if_pos k2] at k
          rw [h2, if_pos k2]
          exact k
      · rw [if_pos h2] at h
        by_cases k2 : v.d = w.d
        · rw [← k2, if_pos h2]
          exact h
        · rw [if_pos k2] at k
          have := lexI_trans _ _ _ h k
          have hne : u.d ≠ w.d := fun e => by rw [e, lexI_self] at this; cases this
          rw [if_pos hne]
          exact this
    · rw [if_pos k1] at k
      rw [h1, if_pos k1]
      exact k
  · rw [if_pos h1] at h
    by_cases k1 : v.v = w.v
    · rw [← k1, if_pos h1]
      exact h
    · rw [if_pos k1] at k
      simp only [decide_eq_true_eq] at *
      rw [if_pos (by omega)]
      simp; omega
/-- the best one of some votes -/
def Top (P : Vt → Prop) (o : Option Vt) : Prop := match o with | none => ∀ v, ¬ P v | some b => P b ∧ ∀ u, P u → u = b ∨ aheadB b u = true
theorem Top.unique {P : Vt → Prop} {o o' : Option Vt} (h : Top P o) (k : Top P o') : o = o' := by
  cases o with
  | none =>
    cases o' with
    | none => rfl
    | some b => exact absurd k.1 (h b)
  | some a =>
    cases o' with
    | none => exact absurd h.1 (k a)
    | some b =>
      rcases h.2 b k.1 with rfl | h1
      · rfl
      · rcases k.2 a h.1 with rfl | h2
        · rfl
        · rw [ahead_asym h1] at h2; cases h2
def topStep (o : Option Vt) (v : Vt) : Option Vt := match o with | none => some v | some b => if aheadB v b then some v else some b
theorem Top.step {P : Vt → Prop} {o : Option Vt} (h : Top P o) (v : Vt) (hk : ∀ u, P u → u.k = v.k ∧ u.d.length = v.d.length) : Top (fun u => P u ∨ u = v) (topStep o v) := by
  cases o with
  | none => exact ⟨.inr rfl, fun u hu => hu.elim (fun q => absurd q (h u)) .inl⟩
  | some b =>
    unfold topStep
    simp only
    by_cases ha : aheadB v b = true
    · rw [if_pos ha]
      refine ⟨.inr rfl, fun u hu => ?_⟩
      rcases hu with hu | hu
      · rcases h.2 u hu with rfl | h1
        · exact .inr ha
        · exact .inr (ahead_trans ha h1)
      · exact .inl hu
    · rw [if_neg ha]
      refine ⟨.inl h.1, fun u hu => ?_⟩
      rcases hu with hu | rfl
      · exact h.2 u hu
      · have hb := hk b h.1
        rcases ahead_total hb.1.symm hb.2.symm (by simpa using ha) with e | e
        · exact .inl e
        · exact .inr e
theorem Top.congr {P Q : Vt → Prop} {o : Option Vt} (h : Top P o) (he : ∀ u, P u ↔ Q u) : Top Q o := by
  cases o with
  | none => exact fun v hv => h v ((he v).2 hv)
  | some b => exact ⟨(he b).1 h.1, fun u hu => h.2 u ((he u).2 hu)⟩
/-- whose vote could be a cert -/
def Cand (st : List On) (k : Int) (need : Int) (v : Vt) : Prop := v.k = k ∧ (∃ x ∈ st, x.v = v) ∧ need ≤ (countL st v : Int)
end Go.Proofs.Ytogmkcabndgllaa
