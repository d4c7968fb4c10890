/- pool.keep: what is left -/
import Derived.Test.YtbfcbjjhdadicaaDoorP8
namespace Go.Proofs.YtbfcbjjhdadicaaDoor
open Go.RowKit
open Sha Tal
def midL (ls : List (List Rq)) (p : Rq → Bool) (b : Nat) : List (List Rq) := (ls.take b).map (List.filter p) ++ ls.drop b
theorem mid_zero (ls : List (List Rq)) (p : Rq → Bool) : midL ls p 0 = ls := by simp [midL]
theorem mid_end (ls : List (List Rq)) (p : Rq → Bool) : midL ls p ls.length = ls.map (List.filter p) := by simp [midL]
theorem mid_len (ls : List (List Rq)) (p : Rq → Bool) (b : Nat) : (midL ls p b).length = ls.length := by simp [midL]; omega
theorem mid_get {ls : List (List Rq)} {p : Rq → Bool} {b : Nat} {l : List Rq} (hl : ls[b]? = some l) : (midL ls p b)[b]? = some l := by
  have hb := (List.getElem?_eq_some_iff.1 hl).1
  unfold midL
  rw [List.getElem?_append_right (by simp; omega)]
  simp only [List.length_map, List.length_take, Nat.min_eq_left (Nat.le_of_lt hb), Nat.sub_self, List.getElem?_drop, Nat.add_zero]
  exact hl
theorem mid_step {ls : List (List Rq)} {p : Rq → Bool} {b : Nat} {l : List Rq} (hl : ls[b]? = some l) : (midL ls p b).set b (l.filter p) = midL ls p (b + 1) := by
  have hb := (List.getElem?_eq_some_iff.1 hl).1
  have hlb : ls[b] = l := (List.getElem?_eq_some_iff.1 hl).2
  unfold midL
  rw [List.set_append_right _ _ (by simp; omega)]
  simp only [List.length_map, List.length_take, Nat.min_eq_left (Nat.le_of_lt hb), Nat.sub_self]
  rw [List.drop_eq_getElem_cons hb, List.set_cons_zero, List.take_succ_eq_append_getElem hb, List.map_append, hlb]
  simp
theorem mid_same {ls : List (List Rq)} {p : Rq → Bool} {b : Nat} {l : List Rq} (hl : ls[b]? = some l) : (midL ls p b).set b l = midL ls p b := by
  apply List.ext_getElem?
  intro i
  rw [List.getElem?_set]
  split
  · rename_i h
    subst h
    rw [if_pos (by rw [mid_len]; exact (List.getElem?_eq_some_iff.1 hl).1), mid_get hl]
  · rfl
theorem flat_out {L : List (List Rq)} {i : Nat} (hi : i < L.length) (X Y : List Rq) (r : Rq) : (flatP (L.set i (X ++ r :: Y))).Perm (pk r :: flatP (L.set i (X ++ Y))) := by
  induction L generalizing i with
  | nil => simp at hi
  | cons a L ih =>
    cases i with
    | zero =>
      simp only [flatP, List.set_cons_zero, List.flatten_cons, List.map_append, List.append_assoc, List.map_cons, List.cons_append]
      exact List.perm_middle
    | succ i =>
      have := ih (i := i) (by simpa using hi)
      simp only [flatP, List.set_cons_succ, List.flatten_cons, List.map_append] at this ⊢
      exact (List.Perm.append_left _ this).trans List.perm_middle
theorem pairs_del {w w' : World} {b N : Nat} {c n : Int} {S : List (Int × Int)} {D : DataW Unit} (hc : I64 c) (hn : I64 n) (hown : w.ownsMap Tryd.prog 75 unitElem b N D) (hsz : Maps.size D = ((c, n) :: S).length) (hD : ∀ c' n' : Int, I64 c' → I64 n' → Maps.has D (klP c' n') = decide ((c', n') ∈ (c, n) :: S)) (hx : (c, n) ∉ S)
    (h : w'.ownsMap Tryd.prog 75 unitElem b N (D.del (klP c n))) : PairsAt w' b S := by
  refine PairsAt.tight h ?_ ?_
  · have h1 := Maps.size_del (k := klP c n) (hown.tidy lawP)
    rw [hD c n hc hn] at h1
    simp at h1 hsz
    omega
  · intro c' n' hc' hn'
    by_cases he : c' = c ∧ n' = n
    · obtain ⟨rfl, rfl⟩ := he
      rw [Maps.has_del_same]
      simp [hx]
    · have hne : klP c' n' ≠ klP c n := fun hk => he (kl_inj hc' hn' hc hn hk)
      rw [Maps.has_del_other hne, hD c' n' hc' hn']
      have h3 : (c', n') ≠ (c, n) := fun h4 => he (by simpa using h4)
      simp [h3]
theorem exec_delete {w : World} {o : Oper} {a : Act} {m x : Operand} {b : Nat} {c n : Int} {S : List (Int × Int)} (ho : o.op = .call { callee := .builtin .delete, args := #[m, x], argTypes := #[59, 75] }) (hm : a.eval m = .map (some b)) (hx : a.eval x = .agg #[.int .i64 c, .int .i64 n])
    (hc : I64 c) (hn : I64 n) (h : PairsAt w b ((c, n) :: S)) (hS : (c, n) ∉ S) : ∃ w', (execOp a.eval o).run Tryd.prog w = .ok (.value (.tuple #[])) w' ∧ PairsAt w' b S ∧ w.grownBy w' (some b) := by
  obtain ⟨D, hown, hsz, hD⟩ := h
  obtain ⟨w', hrun, r1, r2⟩ := hown.drop lawP Tryd.underlying59 (key_pair c n hc hn) o.type
  refine ⟨w', ?_, pairs_del hc hn hown hsz hD hS r1, r2.grown⟩
  unfold execOp
  simp [ho, resolve, invoke, builtin, hm, hx, hrun]
end Go.Proofs.YtbfcbjjhdadicaaDoor
