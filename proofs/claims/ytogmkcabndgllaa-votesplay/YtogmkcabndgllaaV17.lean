/- what a cert has in it, told without memory -/
import Derived.Test.YtogmkcabndgllaaV16
namespace Go.Proofs.Ytogmkcabndgllaa
open Go.RowKit
theorem umodc (z : Int) (m : Nat) (h0 : 0 < m) (hm : m ≤ 65536) : ∃ p : Nat, p < m ∧ wrap64 ((IntKind.u64.wrap z).tmod (m : Int)) = (p : Int) := by
  rw [IntKind.wrap_u64]
  have h0' : 0 ≤ z % 18446744073709551616 := Int.emod_nonneg _ (by decide)
  generalize z % 18446744073709551616 = q at h0'
  rw [Int.tmod_eq_emod_of_nonneg h0']
  have h1 := Int.emod_nonneg q (b := (m : Int)) (by omega)
  have h2 := Int.emod_lt_of_pos q (b := (m : Int)) (by omega)
  refine ⟨(q % (m : Int)).toNat, by omega, ?_⟩
  generalize q % (m : Int) = r at h1 h2
  simp only [wrap64]
  omega
theorem new_yesX (n : Int) (w : World) (h : goodB n = true) : Calls Try.prog 7 #[.int .i64 n] w fun e w' => ∃ B b, e = .returned (.pointer (some ⟨B, 0, none⟩)) ∧ BookAt w' B b n [] ∧ w.heap.size ≤ b ∧ Below w.heap.size w w' := by
  refine (new_yes n w h).mono ?_
  rintro e w' ⟨rfl, h1, h2⟩
  exact ⟨_, _, rfl, h1, Nat.le_refl _, h2⟩
theorem signs_rise (st : List On) (v : Vt) : ∀ N : Nat, (signsL N st v).Pairwise (fun a b => a.n < b.n) ∧ ∀ s ∈ signsL N st v, 0 ≤ s.n ∧ s.n < N
  | 0 => ⟨List.Pairwise.nil, by simp [signsL]⟩
  | N + 1 => by
    obtain ⟨h1, h2⟩ := signs_rise st v N
    rw [signs_succ]
    cases hs : sgOf st v N with
    | none =>
      simp only [List.append_nil]
      exact ⟨h1, fun s hs => by have := h2 s hs; omega⟩
    | some s =>
      obtain ⟨x, _, _, hn, rfl⟩ := sg_some hs
      refine ⟨List.pairwise_append.2 ⟨h1, by simp, fun a ha b hb => ?_⟩, fun s hs => ?_⟩
      · simp only [List.mem_singleton] at hb
        subst hb
        have := (h2 a ha).2
        simp only
        omega
      · rcases List.mem_append.1 hs with q | q
        · have := h2 s q; omega
        · simp only [List.mem_singleton] at q
          subst q
          simp only
          omega
/-- what is asked of a cert's signs -/
structure Goods (st : List On) (v : Vt) (rs : List Sg) : Prop where
  rise : rs.Pairwise (fun a b => a.n < b.n)
  pos : ∀ s ∈ rs, 0 ≤ s.n
  of : ∀ s ∈ rs, ∃ x, find st v.k s.n = some x ∧ x.v = v ∧ x.t = s.t
theorem goods_of {N : Int} {st : List On} (hb : Bk N st) (v : Vt) (nd : Nat) : Goods st v ((signsL N.toNat st v).take nd) := by
  obtain ⟨h1, h2⟩ := signs_rise st v N.toNat
  refine ⟨h1.sublist (List.take_sublist _ _), fun s hs => (h2 s (List.mem_of_mem_take hs)).1, fun s hs => ?_⟩
  obtain ⟨x, hx, hv, rfl⟩ := signs_mem (List.mem_of_mem_take hs)
  refine ⟨x, ?_, hv, rfl⟩
  rw [← hv]
  exact find_mem hb.uniq hx
/-- the node ahead of a place -/
def lastN (rs : List Sg) (j : Nat) : Int := if h : 0 < j ∧ j ≤ rs.length then (rs[j - 1]'(by omega)).n else -1
theorem last_zero (rs : List Sg) : lastN rs 0 = -1 := by simp [lastN]
theorem last_succ (rs : List Sg) (j : Nat) (h : j < rs.length) : lastN rs (j + 1) = rs[j].n := by
  unfold lastN
  rw [dif_pos ⟨by omega, by omega⟩]
  rfl
theorem last_lt {st : List On} {v : Vt} {rs : List Sg} (h : Goods st v rs) (j : Nat) (hj : j < rs.length) : lastN rs j < rs[j].n := by
  unfold lastN
  split
  · rename_i q
    exact List.pairwise_iff_getElem.1 h.rise (j - 1) j (by omega) hj (by omega)
  · have := h.pos _ (List.getElem_mem hj)
    omega
theorem cert_len {N : Int} {st : List On} (hb : Bk N st) {v : Vt} {nd : Nat} (h : (nd : Int) ≤ countL st v) : ((signsL N.toNat st v).take nd).length = nd := by
  have := count_signs hb v
  rw [List.length_take]
  omega
theorem certOf_none {N : Int} {st : List On} {v : Vt} {need : Int} (h : need < 1 ∨ (countL st v : Int) < need) : certOf N st v need = none := by unfold certOf; rw [if_pos h]
theorem certOf_some {N : Int} {st : List On} {v : Vt} {nd : Nat} (h1 : 1 ≤ nd) (h2 : (nd : Int) ≤ countL st v) : certOf N st v (nd : Int) = some ((signsL N.toNat st v).take nd) := by
  unfold certOf
  rw [if_neg (by omega)]
  simp
end Go.Proofs.Ytogmkcabndgllaa
