/- The readers: Text, Left, Done of the document's, Done of the program's. -/
import Derived.Test.YtiihfjoikoogfaaRefTextZ
namespace Go.Proofs.Ytiihfjoikoogfaa
open Go.RowKit
open Tal
variable {B : Nat}
set_option maxHeartbeats 1600000 in
theorem refText_any (X : Nat) (rest : List Int) (e most : Int) (w : World) (h : RSt B w X rest e) :
    Calls Try.prog 21 #[.pointer (some ⟨X, 0, none⟩), .int .i64 most] w fun en w' => en = .returned (.string (strOf (textS rest e most).1)) ∧ RSt B w' X (textS rest e most).2.1 (textS rest e most).2.2 ∧ w.grownBy w' (some X) := by
  obtain ⟨zs, p, hR, hd⟩ := h
  by_cases he : e = 0
  · subst he
    have hd := hd rfl
    subst hd
    obtain ⟨a, cap, h0, hc, hm, hr⟩ := hR.rest
    have hz := hr.2.1
    have hN := numS_max (zs.drop p) hz
    have hform := numR_form (zs.drop p) hz
    rw [List.length_drop] at hform
    have hpl := hR.2.2.2.2.2.2.2.1
    obtain ⟨v, c, er, hn⟩ : ∃ v c er, numR (zs.drop p) = (v, c, er) := ⟨_, _, _, rfl⟩
    rw [hn] at hN hform
    simp only at hN hform
    by_cases her : er = 0
    · subst her
      obtain ⟨_, hcl, hv0, hv1⟩ := hform rfl
      rw [if_pos rfl] at hN
      obtain ⟨m, rfl⟩ := Int.eq_ofNat_of_zero_le hv0
      by_cases hmost : most < (m : Int)
      · have e1 : textS (zs.drop p) 0 most = ([], zs.drop p, 3) := by unfold textS; rw [hN]; simp [hmost]
        rw [e1]
        refine (refText_bad X zs p most w hR m c 0 3 hn (Or.inr (Or.inl ⟨rfl, hmost, rfl⟩)) (fun _ => hcl)).mono ?_
        rintro en w1 ⟨rfl, h1, h2⟩
        exact ⟨rfl, h1.other (by omega) _, h2⟩
      · by_cases hfew : (zs.length : Int) - p - c < m
        · have e1 : textS (zs.drop p) 0 most = ([], zs.drop p, 10) := by
            unfold textS; rw [hN]
            have : (((zs.drop p).drop c).length : Int) < m := by rw [List.length_drop, List.length_drop]; omega
            simp only [if_pos trivial, if_neg hmost, if_pos this]
          rw [e1]
          refine (refText_bad X zs p most w hR m c 0 10 hn (Or.inr (Or.inr ⟨rfl, hmost, hfew, rfl⟩)) (fun _ => hcl)).mono ?_
          rintro en w1 ⟨rfl, h1, h2⟩
          exact ⟨rfl, h1.other (by omega) _, h2⟩
        · have e1 : textS (zs.drop p) 0 most = ((zs.drop (p + c)).take m, zs.drop (p + c + m), 0) := by
            unfold textS; rw [hN]
            have : ¬ ((((zs.drop p).drop c).length : Int) < m) := by rw [List.length_drop, List.length_drop]; omega
            simp only [if_pos trivial, if_neg hmost]
            rw [if_neg this]
            simp only [Int.toNat_natCast, List.drop_drop]
          rw [e1]
          exact refText_good X zs p most w hR m c hn hmost (by omega)
    · rw [if_neg her] at hN
      have e1 : textS (zs.drop p) 0 most = ([], zs.drop p, er) := by unfold textS; rw [hN]; simp [her]
      rw [e1]
      refine (refText_bad X zs p most w hR v c er er hn (Or.inl ⟨her, rfl⟩) (fun h => absurd h her)).mono ?_
      rintro en w1 ⟨rfl, h1, h2⟩
      exact ⟨rfl, h1.other her _, h2⟩
  · have HS : Hid (textS rest e most = ([], rest, e)) := by
      show _ = _
      have : numS rest e 9223372036854775807 = (0, rest, e) := by simp [numS, he]
      unfold textS; rw [this]; simp [he]
    have he' : (e == 0) = false := by simpa using he
    obtain ⟨_, _, _, h2, _⟩ := id hR
    go_enter Try.func21, Try.ntmps21
    go_wp2_with fail
    go_ret
    rw [HS.out]
    exact ⟨rfl, ⟨zs, p, hR, fun h => absurd h he⟩, gb_refl _ _⟩
set_option maxHeartbeats 800000 in
theorem refLeft_any (X : Nat) (rest : List Int) (e : Int) (w : World) (h : RSt B w X rest e) :
    Calls Try.prog 25 #[.pointer (some ⟨X, 0, none⟩)] w fun en w' => en = .returned (.int .i64 (if e = 0 then (rest.length : Int) else 0)) ∧ ∃ k, w' = w.drewN k := by
  obtain ⟨zs, p, hR, hd⟩ := h
  have h2 := hR.2.2.2.1
  have h1 := hR.2.2.1
  have hpl := hR.2.2.2.2.2.2.2.1
  have hl5 := hR.2.2.2.2.2.2.2.2
  obtain ⟨a, cap, h0, hc, hm, hr⟩ := hR.rest
  by_cases he : e = 0
  · subst he
    have hd := hd rfl
    have HI : Hid ((if (0 : Int) = 0 then (rest.length : Int) else 0) = (zs.length : Int) - p) := by show _ = _; rw [if_pos rfl, ← hd, List.length_drop]; omega
    generalize (if (0 : Int) = 0 then (rest.length : Int) else 0) = q at *
    clear hd
    go_enter Try.func25, Try.ntmps25
    go_wp2_with fail
    go_quiet (fail)
    go_wp2_with fail
    go_ret
    rw [HI.out]
    exact ⟨rfl, _, rfl⟩
  · have he' : (e == 0) = false := by simpa using he
    have HI : Hid ((if e = 0 then (rest.length : Int) else 0) = 0) := if_neg he
    generalize (if e = 0 then (rest.length : Int) else 0) = q at *
    go_enter Try.func25, Try.ntmps25
    go_wp2_with fail
    go_ret
    rw [HI.out]
    exact ⟨rfl, 0, rfl⟩
/-- what Done tells -/
def doneR (rest : List Int) (e : Int) : Int := if e = 0 then (if rest.length = 0 then 0 else 12) else e
set_option maxHeartbeats 800000 in
theorem refDone_any (X : Nat) (rest : List Int) (e : Int) (w : World) (h : RSt B w X rest e) :
    Calls Try.prog 28 #[.pointer (some ⟨X, 0, none⟩)] w fun en w' => en = .returned (.int .i64 (doneR rest e)) ∧ ∃ k, w' = w.drewN k := by
  obtain ⟨zs, p, hR, hd⟩ := h
  have h2 := hR.2.2.2.1
  have h1 := hR.2.2.1
  have hpl := hR.2.2.2.2.2.2.2.1
  have hl5 := hR.2.2.2.2.2.2.2.2
  obtain ⟨a, cap, h0, hc, hm, hr⟩ := hR.rest
  by_cases he : e = 0
  · subst he
    have hd := hd rfl
    by_cases hp : p < zs.length
    · have HI : Hid (doneR rest 0 = 12) := by show _ = _; unfold doneR; rw [if_pos rfl, if_neg (by rw [← hd, List.length_drop]; omega)]
      clear hd
      go_enter Try.func28, Try.ntmps28
      go_wp2_with fail
      go_quiet (fail)
      go_wp2_with fail
      go_ret
      rw [HI.out]
      exact ⟨rfl, _, rfl⟩
    · have HI : Hid (doneR rest 0 = 0) := by show _ = _; unfold doneR; rw [if_pos rfl, if_pos (by rw [← hd, List.length_drop]; omega)]
      clear hd
      go_enter Try.func28, Try.ntmps28
      go_wp2_with fail
      go_quiet (fail)
      go_wp2_with fail
      go_ret
      rw [HI.out]
      exact ⟨rfl, _, rfl⟩
  · have he' : (e == 0) = false := by simpa using he
    have HI : Hid (doneR rest e = e) := by show _ = _; unfold doneR; rw [if_neg he]
    go_enter Try.func28, Try.ntmps28
    go_wp2_with fail
    go_ret
    rw [HI.out]
    exact ⟨rfl, 0, rfl⟩
set_option maxHeartbeats 800000 in
theorem doneC_any (R : Nat) (rest : List Int) (e : Int) (w : World) (h : St w R rest e) :
    Calls Try.prog 27 #[.pointer (some ⟨R, 0, none⟩)] w fun en w' => en = .returned (.int .i64 (doneR rest e)) ∧ w' = w := by
  obtain ⟨hE, hR⟩ := h
  by_cases he : e = 0
  · subst he
    obtain ⟨a, cap, h0, _⟩ := hR rfl
    by_cases hp : rest.length = 0
    · have HI : Hid (doneR rest 0 = 0) := by show _ = _; unfold doneR; rw [if_pos rfl, if_pos hp]
      have hp' : ¬ (0 : Int) < rest.length := by omega
      have HP : Hid (rest.length = 0) := hp
      clear hp
      go_enter Try.func27, Try.ntmps27
      go_wp2_with fail
      refine (err_made R 0 w hE).mono ?_
      rintro en w1 ⟨rfl, rfl⟩
      go_wp2_with fail
      refine (left_any R a rest.length cap w1 h0).mono ?_
      rintro en w2 ⟨rfl, rfl⟩
      go_wp2_with fail
      go_ret
      rw [HI.out]
      exact ⟨rfl, rfl⟩
    · have HI : Hid (doneR rest 0 = 12) := by show _ = _; unfold doneR; rw [if_pos rfl, if_neg hp]
      have hp' : (0 : Int) < rest.length := by omega
      go_enter Try.func27, Try.ntmps27
      go_wp2_with fail
      refine (err_made R 0 w hE).mono ?_
      rintro en w1 ⟨rfl, rfl⟩
      go_wp2_with fail
      refine (left_any R a rest.length cap w1 h0).mono ?_
      rintro en w2 ⟨rfl, rfl⟩
      go_wp2_with fail
      go_ret
      rw [HI.out]
      exact ⟨rfl, rfl⟩
  · have he' : (e == 0) = false := by simpa using he
    have HI : Hid (doneR rest e = e) := by show _ = _; unfold doneR; rw [if_neg he]
    go_enter Try.func27, Try.ntmps27
    go_wp2_with fail
    refine (err_made R e w hE).mono ?_
    rintro en w1 ⟨rfl, rfl⟩
    go_wp2_with fail
    go_ret
    rw [HI.out]
    exact ⟨rfl, rfl⟩
end Go.Proofs.Ytiihfjoikoogfaa
