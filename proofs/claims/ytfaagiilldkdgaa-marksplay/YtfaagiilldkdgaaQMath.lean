/- Plain mathematics of quorums: two lists of bools of one length. -/
namespace Go.Proofs.Ytfaagiilldkdgaa.Nq
theorem both_count : ∀ (xs ys : List Bool), xs.length = ys.length → xs.count true + ys.count true ≤ xs.length + (List.zipWith (fun a b => a && b) xs ys).count true
  | [], [], _ => by simp
  | x :: xs, y :: ys, h => by
    have := both_count xs ys (by simpa using h)
    cases x <;> cases y <;> simp_all <;> omega
  | [], _ :: _, h => by simp at h
  | _ :: _, [], h => by simp at h
theorem count_set_true (xs : List Bool) (i : Nat) (hi : i < xs.length) (h : xs[i] = false) : (xs.set i true).count true = xs.count true + 1 := by
  have := List.count_set (a := true) (b := true) (i := i) (l := xs) hi
  simp [h] at this
  exact this
theorem all_true_count (xs : List Bool) (h : ∀ r (hr : r < xs.length), xs[r] = true) : xs.count true = xs.length := by
  rw [List.count_eq_length]
  intro b hb
  obtain ⟨i, hi, rfl⟩ := List.getElem_of_mem hb
  exact (h i hi).symm
theorem residue (la n r : Nat) (hr : r < n) : ∃ j, la ≤ j ∧ j < la + n ∧ j % n = r := by
  have e := Nat.div_add_mod la n
  have hm := Nat.mod_lt la (show 0 < n by omega)
  generalize hq : la / n = q at e
  generalize hs : la % n = s at e hm
  by_cases h : s ≤ r
  · exact ⟨n * q + r, by omega, by omega, by rw [Nat.mul_add_mod, Nat.mod_eq_of_lt hr]⟩
  · refine ⟨n * (q + 1) + r, ?_, ?_, by rw [Nat.mul_add_mod, Nat.mod_eq_of_lt hr]⟩
    · rw [Nat.mul_add]; omega
    · rw [Nat.mul_add]; omega
end Go.Proofs.Ytfaagiilldkdgaa.Nq
