/- Plain mathematics of the i-th greatest number. -/
namespace Go.Proofs.Ytfaagiilldkdgaa.Nq
def above (l : List Int) (x : Int) : Nat := l.countP (fun y => decide (x < y))
def same (l : List Int) (x : Int) : Nat := l.countP (fun y => decide (y = x))
def isNth (l : List Int) (i x : Int) : Bool := decide ((above l x : Int) < i) && decide (i ≤ (above l x : Int) + (same l x : Int))
/-- the document's own answer: the first of the list that is the i-th greatest; 0 where there is none -/
def nthFrom (l : List Int) (i : Int) (m : List Int) : Int := (m.find? (isNth l i)).getD 0
def nth (l : List Int) (i : Int) : Int := nthFrom l i l
theorem above_same (l : List Int) (x : Int) : above l x + same l x = l.countP (fun y => decide (x ≤ y)) := by
  unfold above same
  induction l with
  | nil => rfl
  | cons a l ih =>
    simp only [List.countP_cons, decide_eq_true_eq]
    rcases Int.lt_trichotomy a x with h | h | h
    · rw [if_neg (by omega), if_neg (by omega), if_neg (by omega)]; omega
    · rw [if_neg (by omega), if_pos h, if_pos (by omega)]; omega
    · rw [if_pos (by omega), if_neg (by omega), if_pos (by omega)]; omega
theorem above_le (l : List Int) (x : Int) : above l x + same l x ≤ l.length := by
  rw [above_same]; exact List.countP_le_length
theorem above_anti (l : List Int) (x y : Int) (h : x < y) : above l y + same l y ≤ above l x := by
  rw [above_same]; unfold above
  refine List.countP_mono_left ?_
  intro z _ hz
  simp at hz ⊢; omega
theorem isNth_unique (l : List Int) (i x y : Int) (hx : isNth l i x = true) (hy : isNth l i y = true) : x = y := by
  simp only [isNth, Bool.and_eq_true, decide_eq_true_eq] at hx hy
  rcases Int.lt_trichotomy x y with h | h | h
  · have := above_anti l x y h; omega
  · exact h
  · have := above_anti l y x h; omega
theorem above_perm {l m : List Int} (h : l.Perm m) (x : Int) : above l x = above m x := h.countP_eq _
theorem same_perm {l m : List Int} (h : l.Perm m) (x : Int) : same l x = same m x := h.countP_eq _
theorem nth_none (l : List Int) (i : Int) (h : i < 1 ∨ (l.length : Int) < i) : nth l i = 0 := by
  unfold nth nthFrom
  have : l.find? (isNth l i) = none := by
    rw [List.find?_eq_none]
    intro x _
    have := above_le l x
    simp only [isNth, Bool.and_eq_true, decide_eq_true_eq]
    omega
  rw [this]; rfl
theorem sorted_isNth (s : List Int) (hs : s.Pairwise (· ≤ ·)) (p : Nat) (hp : p < s.length) : isNth s ((s.length : Int) - p) s[p] = true := by
  have h1 : above s s[p] ≤ s.length - (p + 1) := by
    unfold above
    have e : s = s.take (p + 1) ++ s.drop (p + 1) := (List.take_append_drop _ _).symm
    have z : (s.take (p + 1)).countP (fun y => decide (s[p] < y)) = 0 := by
      rw [List.countP_eq_zero]
      intro y hy
      obtain ⟨k, hk, rfl⟩ := List.getElem_of_mem hy
      simp only [List.length_take] at hk
      have hk' : k ≤ p := by omega
      simp only [List.getElem_take, decide_eq_true_eq]
      rcases Nat.lt_or_eq_of_le hk' with h | rfl
      · have := List.pairwise_iff_getElem.1 hs k p (by omega) hp h; omega
      · omega
    have c : s.countP (fun y => decide (s[p] < y)) = (s.take (p + 1)).countP (fun y => decide (s[p] < y)) + (s.drop (p + 1)).countP (fun y => decide (s[p] < y)) := by
      rw [← List.countP_append, List.take_append_drop]
    rw [c, z]
    have := List.countP_le_length (p := fun y => decide (s[p] < y)) (l := s.drop (p + 1))
    simp only [List.length_drop] at this
    omega
  have h2 : s.length - p ≤ above s s[p] + same s s[p] := by
    rw [above_same]
    have c : s.countP (fun y => decide (s[p] ≤ y)) = (s.take p).countP (fun y => decide (s[p] ≤ y)) + (s.drop p).countP (fun y => decide (s[p] ≤ y)) := by
      rw [← List.countP_append, List.take_append_drop]
    have z : (s.drop p).countP (fun y => decide (s[p] ≤ y)) = (s.drop p).length := by
      rw [List.countP_eq_length]
      intro y hy
      obtain ⟨k, hk, rfl⟩ := List.getElem_of_mem hy
      simp only [List.length_drop] at hk
      simp only [List.getElem_drop, decide_eq_true_eq]
      rcases Nat.eq_zero_or_pos k with rfl | h
      · simp
      · exact List.pairwise_iff_getElem.1 hs p (p + k) hp (by omega) (by omega)
    rw [c, z, List.length_drop]; omega
  simp only [isNth, Bool.and_eq_true, decide_eq_true_eq]
  omega
/-- the i-th greatest stands at that place of the sorted list -/
theorem nth_sorted (l s : List Int) (hp : s.Perm l) (hs : s.Pairwise (· ≤ ·)) (i : Nat) (h1 : 1 ≤ i) (h2 : i ≤ l.length) : nth l i = s[s.length - i]'(by have := hp.length_eq; omega) := by
  have hl := hp.length_eq
  have hn := sorted_isNth s hs (s.length - i) (by omega)
  have e : ((s.length : Int) - ((s.length - i : Nat) : Int)) = (i : Int) := by omega
  rw [e] at hn
  have hn' : isNth l i s[s.length - i] = true := by
    unfold isNth at hn ⊢; rwa [above_perm hp, same_perm hp] at hn
  unfold nth nthFrom
  cases hf : l.find? (isNth l i) with
  | none =>
    rw [List.find?_eq_none] at hf
    exact absurd hn' (hf _ (hp.mem_iff.1 (List.getElem_mem _)))
  | some y =>
    have := List.find?_some hf
    exact isNth_unique l i _ _ this hn'
end Go.Proofs.Ytfaagiilldkdgaa.Nq
