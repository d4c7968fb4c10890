/- The place a reader is at: number. -/
import Derived.Test.YtnjlamcpfclgaaaTyReader
namespace Go.Proofs.Ytnjlamcpfclgaaa.Ty
open Go.RowKit
open Tal
/-- what stands at the beginning of bytes: the number, how many bytes it took, the error -/
def numR : List Int → Int × Nat × Int
  | [] => (0, 0, 10)
  | k :: tl => if 8 < k then (0, 0, 11) else if (tl.length : Int) < k then (0, 0, 10) else
      if (valR (tl.take k.toNat)).2 = 0 then ((valR (tl.take k.toNat)).1, 1 + k.toNat, 0) else (0, 0, (valR (tl.take k.toNat)).2)
theorem valR_err (ds : List Int) (h : (valR ds).2 ≠ 0) : valR ds = (0, 11) := by
  unfold valR at h ⊢
  split
  · rfl
  · rename_i hh; rw [if_neg hh] at h; exact absurd rfl h
theorem Rest.cell {w : World} {R : Nat} {rest : List Int} (h : Rest w R rest) : ∃ a cap, w.cell? ⟨R, 0, none⟩ = some (.slice a rest.length cap) ∧ rest.length ≤ cap ∧ cap ≤ maxLen ∧ RowAt w a rest ∧ ∀ x, a = some x → x.block < R := h
set_option maxHeartbeats 1600000 in
theorem number_any (R : Nat) (e0 : Int) (rest : List Int) (w : World) (hE : RdE w R e0) (hR : Rest w R rest) :
    Calls Try.prog 56 #[.pointer (some ⟨R, 0, none⟩)] w fun en w' => en = .returned (.tuple #[.int .i64 (numR rest).1, .int .i64 (numR rest).2.2]) ∧ RdE w' R e0 ∧ w.grownBy w' (some R) ∧ ((numR rest).2.2 = 0 → Rest w' R (rest.drop (numR rest).2.1)) := by
  obtain ⟨a, cap, h0, hc, hm, hrow, hlt⟩ := hR
  have hne := lt_ne hlt
  have f0 := hE.2.2.2.2.1
  cases rest with
  | nil =>
    have h0' : w.cell? ⟨R, 0, none⟩ = some (.slice a 0 cap) := h0
    go_enter Try.func56, Try.ntmps56
    go_wp2_with fail
    refine (left_any R a 0 cap w h0').mono ?_
    rintro e w1 ⟨rfl, rfl⟩
    go_wp2
    go_ret2
    exact ⟨rfl, hE, gb_refl _ _, fun h => by cases h⟩
  | cons k tl =>
    obtain ⟨b, off, rfl, hb, hcb, hk0, hk1⟩ := hrow.get 0 (by simp)
    have hk : (k :: tl).getD 0 0 = k := rfl
    rw [hk] at hcb hk0 hk1
    have hbR : b ≠ R := hne _ rfl
    have hcb1 : (w.setCell ⟨R, 0, none⟩ (.slice (cutA (some ⟨b, off, none⟩) cap 1) ((k :: tl).length - 1) (cap - 1))).cell? ⟨b, off, none⟩ = some (.int .u8 k) :=
      (World.cell?_setCell_other _ _ _ _ (by intro hx; injection hx with hx1; exact hbR hx1.symm)).trans (by simpa using hcb)
    have hE1 := hE.set0 (cutA (some ⟨b, off, none⟩) cap 1) ((k :: tl).length - 1) (cap - 1)
    have hg1 := gb_set w R 0 (.slice (cutA (some ⟨b, off, none⟩) cap 1) ((k :: tl).length - 1) (cap - 1))
    have hr1 := (hrow.drop 1 cap (by simp) hc).gb hg1 (cutA_ne hne)
    have h01 : (w.setCell ⟨R, 0, none⟩ (.slice (cutA (some ⟨b, off, none⟩) cap 1) ((k :: tl).length - 1) (cap - 1))).cell? ⟨R, 0, none⟩ = some (.slice (cutA (some ⟨b, off, none⟩) cap 1) ((k :: tl).length - 1) (cap - 1)) := World.cell?_setCell_same _ _ _ h0
    have hlen : (k :: tl).length - 1 = tl.length := by simp
    rw [hlen] at hE1 hg1 hr1 h01 hcb1
    generalize hW1 : w.setCell ⟨R, 0, none⟩ (.slice (cutA (some ⟨b, off, none⟩) cap 1) tl.length (cap - 1)) = W1 at *
    have c1 := take_any R (some ⟨b, off, none⟩) 1 (k :: tl).length cap w h0 f0 (by simp) hc hm
    rw [hlen, hW1] at c1
    have HW1 : Hid (w.setCell ⟨R, 0, none⟩ (.slice (cutA (some ⟨b, off, none⟩) cap 1) tl.length (cap - 1)) = W1) := hW1
    clear hW1
    have hpos : (((k :: tl).length : Int) == 0) = false := by simp; omega
    have hnm := cutA_ne (cap := cap) (n := 1) hne
    have hltm := cutA_lt (cap := cap) (n := 1) hlt
    generalize hA1 : cutA (some ⟨b, off, none⟩) cap 1 = A1 at *
    clear hA1
    have cl := left_any R (some ⟨b, off, none⟩) (k :: tl).length cap w h0
    go_enter Try.func56, Try.ntmps56
    go_wp2_with fail
    refine cl.mono ?_
    rintro e w1 ⟨rfl, rfl⟩
    clear cl
    go_wp2_with fail
    refine c1.mono ?_
    rintro e w2 ⟨rfl, rfl⟩
    clear c1
    by_cases hk8 : 8 < k
    · have HN : Hid (numR (k :: tl) = (0, 0, 11)) := by show _ = _; simp [numR, hk8]
      go_wp2_with fail
      go_ret2
      rw [HN.out]
      exact ⟨rfl, hE1, hg1, fun h => by cases h⟩
    · by_cases hkl : (tl.length : Int) < k
      · have HN : Hid (numR (k :: tl) = (0, 0, 10)) := by show _ = _; simp [numR, hk8, hkl]
        go_wp2_with fail
        refine (left_any R A1 tl.length (cap - 1) w2 h01).mono ?_
        rintro e w3 ⟨rfl, rfl⟩
        go_wp2_with fail
        go_ret2
        rw [HN.out]
        exact ⟨rfl, hE1, hg1, fun h => by cases h⟩
      · obtain ⟨q, hqk⟩ : ∃ q : Nat, k.toNat = q := ⟨_, rfl⟩
        have hkq : (q : Int) = k := by omega
        have hq : q ≤ tl.length := by omega
        have hcl : tl.length ≤ cap - 1 := by simp at hc; omega
        have c2 := take_any R A1 q tl.length (cap - 1) w2 h01 hE1.2.2.2.2.1 hq hcl (by omega)
        rw [hkq] at c2
        have hE2 := hE1.set0 (cutA A1 (cap - 1) q) (tl.length - q) (cap - 1 - q)
        have hg2 := gb_set w2 R 0 (.slice (cutA A1 (cap - 1) q) (tl.length - q) (cap - 1 - q))
        have hr1' : RowAt w2 A1 tl := by simpa using hr1
        have hr2 := (hr1'.take q).gb hg2 hnm
        have hr3 := (hr1'.drop q (cap - 1) hq hcl)
        have h02 : (w2.setCell ⟨R, 0, none⟩ (.slice (cutA A1 (cap - 1) q) (tl.length - q) (cap - 1 - q))).cell? ⟨R, 0, none⟩ = some (.slice (cutA A1 (cap - 1) q) (tl.length - q) (cap - 1 - q)) := World.cell?_setCell_same _ _ _ h01
        have hRest : Rest (w2.setCell ⟨R, 0, none⟩ (.slice (cutA A1 (cap - 1) q) (tl.length - q) (cap - 1 - q))) R (tl.drop q) := by
          refine ⟨cutA A1 (cap - 1) q, cap - 1 - q, by rw [List.length_drop]; exact h02, by rw [List.length_drop]; omega, by omega, ?_, ?_⟩
          · exact hr3.gb hg2 (cutA_ne hnm)
          · exact cutA_lt hltm
        generalize w2.setCell ⟨R, 0, none⟩ (.slice (cutA A1 (cap - 1) q) (tl.length - q) (cap - 1 - q)) = W2 at *
        have hqt : (tl.take q).length = q := List.length_take_of_le hq
        have c3 := value_any A1 (cap - 1) (tl.take q) W2 hr2 (by omega)
        rw [hqt] at c3
        have HN : Hid (numR (k :: tl) = if (valR (tl.take q)).2 = 0 then ((valR (tl.take q)).1, 1 + q, 0) else (0, 0, (valR (tl.take q)).2)) := by
          show _ = _
          simp only [numR, if_neg hk8, if_neg hkl, hqk]
        clear hr1 hr2 hr3 hqt hqk hkq
        go_wp2_with fail
        refine (left_any R A1 tl.length (cap - 1) w2 h01).mono ?_
        rintro e w3 ⟨rfl, rfl⟩
        go_wp2_with fail
        refine c2.mono ?_
        rintro e w4 ⟨rfl, rfl⟩
        clear c2
        go_wp2_with fail
        refine c3.mono ?_
        rintro e w5 ⟨rfl, rfl⟩
        clear c3
        go_wp2_with fail
        go_ret2
        refine ⟨?_, hE2, gb_trans hg1 hg2, ?_⟩
        · rw [HN.out]
          by_cases hv : (valR (tl.take q)).2 = 0
          · rw [if_pos hv, hv]; exact rfl
          · rw [if_neg hv, valR_err _ hv]; exact rfl
        · rw [HN.out]
          by_cases hv : (valR (tl.take q)).2 = 0
          · rw [if_pos hv]; intro _; rw [Nat.add_comm]; exact hRest
          · rw [if_neg hv]; intro h; exact absurd h hv
end Go.Proofs.Ytnjlamcpfclgaaa.Ty
