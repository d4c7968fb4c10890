/- counts: how many have a vote -/
import Derived.Test.YtogmkcabndgllaaV8
import Derived.WideKeyEntry
namespace Go.Proofs.Ytogmkcabndgllaa
open Go.RowKit
/-- how many of a list -/
def cntP (st : List On) (p : On → Bool) (v : Vt) : Nat := (st.filter (fun x => p x && decide (x.v = v))).length
def MapC (w : World) (M n : Nat) (st : List On) (p : On → Bool) : Prop :=
  ∃ D : DataW Unit, w.ownsMap Try.prog 31 (plainElem Try.prog 3) M n D ∧ (∀ v : Vt, v.ok → D.atKey (klV v) (.lit (.int .i64 0)) = .lit (.int .i64 (cntP st p v))) ∧ ∀ kl, Maps.has D kl = true ↔ ∃ x ∈ st, p x = true ∧ kl = klV x.v
theorem MapC.lt {w : World} {M n : Nat} {st : List On} {p : On → Bool} (h : MapC w M n st p) : M < w.heap.size := by
  obtain ⟨D, h, _⟩ := h
  exact h.lt
theorem MapC.at {w w' : World} {M n : Nat} {st : List On} {p : On → Bool} (h : MapC w M n st p) (hb : w'.heap[M]? = w.heap[M]?) : MapC w' M n st p := by
  obtain ⟨D, ⟨es, cl, h1, h2⟩, h3⟩ := h
  exact ⟨D, ⟨es, cl, by rw [hb]; exact h1, h2⟩, h3⟩
theorem MapC.congr {w : World} {M n : Nat} {st : List On} {p q : On → Bool} (h : MapC w M n st p) (he : ∀ x ∈ st, p x = q x) : MapC w M n st q := by
  obtain ⟨D, h1, h2, h3⟩ := h
  refine ⟨D, h1, fun v hv => ?_, fun kl => ?_⟩
  · rw [h2 v hv]
    have : cntP st p v = cntP st q v := by
      unfold cntP
      congr 1
      apply List.filter_congr
      intro x hx
      rw [he x hx]
    rw [this]
  · rw [h3]
    constructor
    · rintro ⟨x, hx, hp, hk⟩; exact ⟨x, hx, (he x hx) ▸ hp, hk⟩
    · rintro ⟨x, hx, hp, hk⟩; exact ⟨x, hx, (he x hx).symm ▸ hp, hk⟩
theorem MapC.made (w : World) (st : List On) (p : On → Bool) (hp : ∀ x ∈ st, p x = false) : MapC (w.alloc (.map #[] 0)) w.heap.size 0 st p := by
  refine ⟨_, World.ownsMap_made w Try.prog 31 _, fun v hv => ?_, fun kl => ?_⟩
  · have : cntP st p v = 0 := by
      unfold cntP
      rw [List.length_eq_zero_iff, List.filter_eq_nil_iff]
      intro x hx
      rw [hp x hx]
      simp
    rw [this]
    rfl
  · simp only [Maps.has, List.any_nil, Bool.false_eq_true, false_iff]
    rintro ⟨x, hx, h, _⟩
    rw [hp x hx] at h
    cases h
theorem zeroI (w : World) : (zeroValue 3).run Try.prog w = .ok (.int .i64 0) w := by kernel_rfl
theorem cnt_le (st : List On) (p : On → Bool) (v : Vt) : cntP st p v ≤ st.length := List.length_filter_le _ _
theorem MapC.look {w : World} {M n : Nat} {st : List On} {p : On → Bool} (h : MapC w M n st p) (v : Vt) (hv : v.ok) :
    (Instr.lookup 68 (.map (some M)) (.agg v.cells.toArray) false).run Try.prog w = .ok (.int .i64 (cntP st p v)) w := by
  obtain ⟨D, hown, hat, hhas⟩ := h
  obtain ⟨c, hrun, h1, _⟩ := hown.lookup_int lawV Try.underlying68 Try.underlying3 (zeroI w) (key_vote v hv)
  rw [hat v hv] at h1
  rw [hrun]
  injection h1 with h1
  injection h1 with _ h1
  rw [h1]
/-- one more is counted -/
def withX (p : On → Bool) (x : On) : On → Bool := fun y => p y || decide (y.v.k = x.v.k ∧ y.n = x.n)
theorem cnt_with {st : List On} (hu : Uniq st) {p : On → Bool} {x : On} (hx : x ∈ st) (hp : p x = false) (v : Vt) : cntP st (withX p x) v = cntP st p v + (if x.v = v then 1 else 0) := by
  unfold cntP withX
  induction st with
  | nil => cases hx
  | cons a r ih =>
    obtain ⟨h1, h2⟩ := List.pairwise_cons.1 hu
    rcases List.mem_cons.1 hx with rfl | hx
    · have e : ∀ y ∈ r, (p y || decide (y.v.k = x.v.k ∧ y.n = x.n)) = p y := fun y hy => by
        have := h1 y hy
        have h3 : ¬ (y.v.k = x.v.k ∧ y.n = x.n) := fun q => this ⟨q.1.symm, q.2.symm⟩
        rw [decide_eq_false h3, Bool.or_false]
      have e2 : r.filter (fun y => (p y || decide (y.v.k = x.v.k ∧ y.n = x.n)) && decide (y.v = v)) = r.filter (fun y => p y && decide (y.v = v)) := List.filter_congr (fun y hy => by rw [e y hy])
      simp only [List.filter_cons, hp, and_self, decide_true, Bool.or_true, Bool.true_and, Bool.false_and, Bool.false_eq_true, if_false, e2]
      by_cases hv : x.v = v
      · simp [hv]
      · simp [hv]
    · have hne := h1 x hx
      have ih := ih h2 hx
      simp only [List.filter_cons, decide_eq_false hne, Bool.or_false]
      split
      · simp only [List.length_cons]
        omega
      · exact ih
theorem cnt_one {st : List On} {p : On → Bool} {x : On} (hx : x ∈ st) (hp : p x = true) : 0 < cntP st p x.v := by
  unfold cntP
  exact List.length_pos_of_mem (List.mem_filter.2 ⟨hx, by simp [hp]⟩)
theorem MapC.store {w : World} {M n : Nat} {st : List On} {p : On → Bool} (h : MapC w M n st p) (hu : Uniq st) (ho : ∀ y ∈ st, y.ok) (x : On) (hx : x ∈ st) (hp : p x = false) (hl : st.length < 1000000) (hn : n < 1000000) :
    ∃ w', (Instr.mapUpdate 68 (.map (some M)) (.agg x.v.cells.toArray) (.int .i64 ((cntP st p x.v : Int) + 1))).run Try.prog w = .ok () w' ∧ MapC w' M (n + 1) st (withX p x) ∧ w.grownBy w' (some M) := by
  obtain ⟨D, hown, hat, hhas⟩ := h
  have hxo := (ho x hx).v
  have hkey := key_vote x.v hxo
  have hc := cnt_le st p x.v
  have hw : (Lit.int .i64 ((cntP st p x.v : Int) + 1)).wf = true := by
    simp only [Lit.wf, Bool.and_eq_true, decide_eq_true_eq]
    constructor
    · show (-9223372036854775808 : Int) ≤ _; omega
    · show _ ≤ (9223372036854775807 : Int); omega
  obtain ⟨w', hrun, h1, h2⟩ := hown.store lawV Try.underlying68 (by unfold maxLen; omega) hkey (plainElem_int Try.underlying3 hw)
  refine ⟨w', hrun, ⟨_, h1, fun v hv => ?_, fun kl => ?_⟩, h2.grown⟩
  · rw [cnt_with hu hx hp]
    by_cases he : x.v = v
    · subst he
      rw [Maps.atKey_put_same hown.isMap (lawV.key hkey), if_pos rfl]
      rfl
    · rw [Maps.atKey_put_other (fun q => he (klV_inj hv hxo q).symm), hat v hv, if_neg he]
      rfl
  · by_cases he : kl = klV x.v
    · subst he
      rw [Maps.has_put_same hown.isMap (lawV.key hkey)]
      exact ⟨fun _ => ⟨x, hx, by simp [withX], rfl⟩, fun _ => rfl⟩
    · rw [Maps.has_put_other he, hhas]
      constructor
      · rintro ⟨y, hy, hpy, rfl⟩; exact ⟨y, hy, by simp [withX, hpy], rfl⟩
      · rintro ⟨y, hy, hpy, rfl⟩
        simp only [withX, Bool.or_eq_true, decide_eq_true_eq] at hpy
        rcases hpy with hpy | hpy
        · exact ⟨y, hy, hpy, rfl⟩
        · have : y = x := by
            have q1 := find_mem hu hy
            have q2 := find_mem hu hx
            rw [hpy.1, hpy.2, q2] at q1
            exact (Option.some.inj q1).symm
          subst this
          exact absurd rfl he
end Go.Proofs.Ytogmkcabndgllaa
