/- small words on pools -/
import Derived.Test.YtbfcbjjhdadicaaDoorP16
namespace Go.Proofs.YtbfcbjjhdadicaaDoor
open Go.RowKit
open Sha Tal
theorem fld0 (v : Value) (w : World) : (Instr.field 54 (.agg #[.bool false, v]) 0).run Tryd.prog w = .ok (.bool false) w := by kernel_rfl
theorem umod16 (z : Int) : ∃ k : Nat, 1 ≤ k ∧ k ≤ 16 ∧ wrap64 (1 + wrap64 ((IntKind.u64.wrap z).tmod 16)) = (k : Int) := by
  rw [IntKind.wrap_u64]
  have h0 : 0 ≤ z % 18446744073709551616 := Int.emod_nonneg _ (by decide)
  generalize z % 18446744073709551616 = q at h0
  rw [Int.tmod_eq_emod_of_nonneg h0]
  have h1 := Int.emod_nonneg q (b := 16) (by omega)
  have h2 := Int.emod_lt_of_pos q (b := 16) (by omega)
  generalize q % 16 = r at h1 h2
  refine ⟨(1 + r).toNat, by omega, by omega, ?_⟩
  simp only [wrap64]
  omega
theorem flat_nodup {ls : List (List Rq)} (h : (flatP ls).Nodup) {l : List Rq} (hl : l ∈ ls) : (l.map pk).Nodup := by
  unfold flatP at h
  induction ls with
  | nil => cases hl
  | cons a ls ih =>
    rw [List.flatten_cons, List.map_append] at h
    have h2 := List.nodup_append.1 h
    rcases List.mem_cons.1 hl with rfl | hl
    · exact h2.1
    · exact ih h2.2.1 hl
theorem flat_take {ls : List (List Rq)} {b : Nat} {l : List Rq} (hl : ls[b]? = some l) : (flatP (ls.take b)).length + l.length = (flatP (ls.take (b + 1))).length := by
  have hb := (List.getElem?_eq_some_iff.1 hl).1
  have he : ls[b] = l := (List.getElem?_eq_some_iff.1 hl).2
  rw [List.take_succ_eq_append_getElem hb, he]
  simp [flatP]
theorem flat_take_le (ls : List (List Rq)) (b : Nat) : (flatP (ls.take b)).length ≤ (flatP ls).length := by
  have : ls = ls.take b ++ ls.drop b := (List.take_append_drop b ls).symm
  have e : (flatP ls).length = (flatP (ls.take b)).length + (flatP (ls.drop b)).length := by
    have := congrArg (fun x => (flatP x).length) this
    simp only [flatP, List.flatten_append, List.map_append, List.length_append] at this ⊢
    exact this
  omega
theorem nodup_ne {l : List Rq} (h : (l.map pk).Nodup) {i j : Nat} (hj : j < i) (hi : i < l.length) : pk l[i] ≠ pk (l[j]'(by omega)) := by
  intro he
  have := (List.getElem_inj (i := i) (j := j) (h₀ := by simpa using hi) (h₁ := by simp; omega) h).1 (by simpa using he)
  omega
theorem add_zero {room : Nat} {ls : List (List Rq)} {r : Rq} (h : addE room ls r = 0) : ¬ pk r ∈ flatP ls ∧ addL room ls r = ls.set (bkt ls.length r) (ls.getD (bkt ls.length r) [] ++ [r]) := by
  refine ⟨fun hm => ?_, by unfold addL; rw [if_pos h]⟩
  unfold addE at h
  split at h
  · omega
  · first | omega | (rw [if_pos hm] at h; omega)
theorem add_grow {room : Nat} {ls : List (List Rq)} {r : Rq} (hk : 0 < ls.length) (h : addE room ls r = 0) : (flatP (addL room ls r)).length = (flatP ls).length + 1 ∧ pk r ∈ flatP (addL room ls r) := by
  have hb := (bkt_lt r hk).1
  have hl : ls[bkt ls.length r]? = some (ls.getD (bkt ls.length r) []) := by simp [List.getD, hb]
  have hp := flat_perm hl r
  rw [(add_zero h).2]
  exact ⟨by rw [← hp.length_eq]; simp, hp.mem_iff.1 (by simp)⟩
end Go.Proofs.YtbfcbjjhdadicaaDoor
