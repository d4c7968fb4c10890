/- What was read, put again; Left. -/
import Derived.Test.YtnjlamcpfclgaaaTyRead
namespace Go.Proofs.Ytnjlamcpfclgaaa.Ty
open Go.RowKit
namespace Tal
theorem digs_val (ds : List Int) (hz : ∀ z ∈ ds, 0 ≤ z ∧ z < 256) (hh : ds.head? ≠ some 0) (hv : val ds ≤ 9223372036854775807) : digs (val ds).toNat = ds := by
  have key : ∀ k, k ≤ ds.length → val (ds.take k) ≤ 9223372036854775807 → digs (val (ds.take k)).toNat = ds.take k := by
    intro k
    induction k with
    | zero => intro _ _; simp [val, digs_zero]
    | succ k ih =>
      intro hk hle
      have hlt : k < ds.length := by omega
      have e := val_take ds k hlt
      have hb := val_bound (ds.take k) (fun z h => hz z (List.mem_of_mem_take h))
      have hd : 0 ≤ ds.getD k 0 ∧ ds.getD k 0 < 256 := by
        rw [List.getD_eq_getElem?_getD, List.getElem?_eq_getElem hlt]; exact hz _ (List.getElem_mem hlt)
      have hi := ih (by omega) (by omega)
      have hpos : 0 < val (ds.take (k + 1)) := by
        by_cases h0 : k = 0
        · subst h0
          have : val (ds.take 0) = 0 := by simp [val]
          rw [e, this]
          cases ds with
          | nil => simp at hlt
          | cons x tl => simp at hh hd ⊢; omega
        · have : 0 < val (ds.take k) := by
            rcases Int.lt_or_eq_of_le hb.1 with h | h
            · exact h
            · rw [← h] at hi
              have hl := congrArg List.length hi
              rw [List.length_take_of_le (by omega)] at hl
              have : (digs (0 : Int).toNat).length = 0 := by decide
              omega
          omega
      have ht : ds.take (k + 1) = ds.take k ++ [ds.getD k 0] := by
        rw [List.take_succ_eq_append_getElem hlt, List.getD_eq_getElem?_getD, List.getElem?_eq_getElem hlt]; rfl
      have e1 : (val (ds.take (k + 1))).toNat / 256 = (val (ds.take k)).toNat := by omega
      have e2 : ((((val (ds.take (k + 1))).toNat % 256 : Nat)) : Int) = ds.getD k 0 := by omega
      rw [digs_succ _ (by omega) (by omega), e1, e2, hi, ht]
  have := key ds.length (Nat.le_refl _)
  rw [List.take_length] at this
  exact this hv
/-- what was read as a number, put again, is what was read -/
theorem numR_form (zs : List Int) (hz : ∀ z ∈ zs, 0 ≤ z ∧ z < 256) (h : (numR zs).2.2 = 0) :
    putL (numR zs).1 = zs.take (numR zs).2.1 ∧ (numR zs).2.1 ≤ zs.length ∧ 0 ≤ (numR zs).1 ∧ (numR zs).1 ≤ 9223372036854775807 := by
  cases zs with
  | nil => simp [numR] at h
  | cons k tl =>
    have hk := hz k (by simp)
    by_cases h8 : 8 < k
    · simp [numR, h8] at h
    · by_cases hl : (tl.length : Int) < k
      · simp [numR, h8, hl] at h
      · by_cases hv : (valR (tl.take k.toNat)).2 = 0
        · have e : numR (k :: tl) = ((valR (tl.take k.toNat)).1, 1 + k.toNat, 0) := by simp only [numR, if_neg h8, if_neg hl, if_pos hv]
          rw [e]
          have hds : ∀ z ∈ tl.take k.toNat, 0 ≤ z ∧ z < 256 := fun z h => hz z (by simp [List.mem_of_mem_take h])
          have hb := val_bound _ hds
          have hnot : ¬ ((tl.take k.toNat).head? = some 0 ∨ 9223372036854775807 < val (tl.take k.toNat)) := by
            intro hc; unfold valR at hv; rw [if_pos hc] at hv; cases hv
          have e1 : (valR (tl.take k.toNat)).1 = val (tl.take k.toNat) := by unfold valR; rw [if_neg hnot]
          have hlen : (tl.take k.toNat).length = k.toNat := List.length_take_of_le (by omega)
          have hd := digs_val (tl.take k.toNat) hds (fun h => hnot (Or.inl h)) (by omega)
          have hw : (wid (val (tl.take k.toNat)).toNat : Int) = k := by
            rw [← digs_length, hd, hlen]; omega
          simp only [e1]
          refine ⟨?_, by simp; omega, hb.1, by omega⟩
          unfold putL
          rw [if_neg (by omega), numB, hd, hw, Nat.add_comm]
          rfl
        · simp only [numR, if_neg h8, if_neg hl, if_neg hv] at h
          exact absurd h hv
end Tal
open Tal
set_option maxHeartbeats 400000 in
theorem leftR_any (R : Nat) (rest : List Int) (e : Int) (w : World) (h : St w R rest e) :
    Calls Try.prog 27 #[.pointer (some ⟨R, 0, none⟩)] w fun en w' => en = .returned (.int .i64 (if e = 0 then (rest.length : Int) else 0)) ∧ w' = w := by
  obtain ⟨hE, hR⟩ := h
  by_cases he : e = 0
  · subst he
    obtain ⟨a, cap, h0, _⟩ := hR rfl
    go_enter Try.func27, Try.ntmps27
    go_wp2_with fail
    refine (err_made R 0 w hE).mono ?_
    rintro en w1 ⟨rfl, rfl⟩
    go_wp2_with fail
    refine (left_any R a rest.length cap w1 h0).mono ?_
    rintro en w2 ⟨rfl, rfl⟩
    go_wp2_with fail
    go_ret
    exact ⟨rfl, rfl⟩
  · have he' : (e == 0) = false := by simpa using he
    go_enter Try.func27, Try.ntmps27
    go_wp2_with fail
    refine (err_made R e w hE).mono ?_
    rintro en w1 ⟨rfl, rfl⟩
    go_wp2_with fail
    go_ret
    exact ⟨rfl, rfl⟩
end Go.Proofs.Ytnjlamcpfclgaaa.Ty
