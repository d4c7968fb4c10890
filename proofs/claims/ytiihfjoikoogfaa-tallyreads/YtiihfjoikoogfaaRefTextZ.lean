/- The document's reader: Text. -/
import Derived.Test.YtiihfjoikoogfaaRefNumZ
namespace Go.Proofs.Ytiihfjoikoogfaa
open Go.RowKit
open Tal
variable {B : Nat}
theorem numS_max (rest : List Int) (hz : ∀ z ∈ rest, 0 ≤ z ∧ z < 256) : numS rest 0 9223372036854775807 = if (numR rest).2.2 = 0 then ((numR rest).1, rest.drop (numR rest).2.1, 0) else (0, rest, (numR rest).2.2) := by
  unfold numS
  rw [if_pos rfl]
  by_cases h : (numR rest).2.2 = 0
  · have := (numR_form rest hz h).2.2.2
    rw [if_pos h, if_pos h, if_neg (by omega)]
  · rw [if_neg h, if_neg h]
set_option maxHeartbeats 1600000 in
theorem refText_bad (X : Nat) (zs : List Int) (p : Nat) (most : Int) (w : World) (hR : Rf B w X zs p 0) (v : Int) (c : Nat) (er er' : Int)
    (hn : numR (zs.drop p) = (v, c, er)) (h : (er ≠ 0 ∧ er' = er) ∨ (er = 0 ∧ most < v ∧ er' = 3) ∨ (er = 0 ∧ ¬ most < v ∧ (zs.length : Int) - p - c < v ∧ er' = 10)) (hcl : er = 0 → c ≤ zs.length - p) :
    Calls Try.prog 21 #[.pointer (some ⟨X, 0, none⟩), .int .i64 most] w fun en w' => en = .returned (.string ⟨#[]⟩) ∧ RSt B w' X [] er' ∧ w.grownBy w' (some X) := by
  have cn := refNumber_any X zs p 0 w hR
  rw [hn] at cn
  have hl5 := hR.2.2.2.2.2.2.2.2
  have hpl := hR.2.2.2.2.2.2.2.1
  have h2 := hR.2.2.2.1
  have f2 := hR.2.2.2.2.2.2.1
  have h1 := hR.2.2.1
  obtain ⟨a, cap, h0, hc, hm, hr⟩ := hR.rest
  rcases h with ⟨her, rfl⟩ | ⟨rfl, hmost, rfl⟩ | ⟨rfl, hmost, hfew, rfl⟩
  · have her' : (er' == 0) = false := by simpa using her
    go_enter Try.func21, Try.ntmps21
    go_wp2_with fail
    refine cn.mono ?_
    rintro en w1 ⟨rfl, k, rfl⟩
    clear cn
    go_wp2_with fail
    go_quiet (fail)
    go_wp2_with fail
    go_ret
    exact ⟨rfl, ⟨zs, p, (hR.drewN (k + nq)).set2 er', fun h => absurd h her⟩, gb_trans (gb_drewN w (k + nq) _) (gb_set _ X 2 _)⟩
  · clear hcl
    go_enter Try.func21, Try.ntmps21
    go_wp2_with fail
    refine cn.mono ?_
    rintro en w1 ⟨rfl, k, rfl⟩
    clear cn
    go_wp2_with fail
    go_quiet (fail)
    go_wp2_with fail
    go_ret
    exact ⟨rfl, ⟨zs, p, (hR.drewN (k + nq)).set2 3, fun h => absurd h (by omega)⟩, gb_trans (gb_drewN w (k + nq) _) (gb_set _ X 2 _)⟩
  · have hcl' := hcl rfl
    clear hcl
    go_enter Try.func21, Try.ntmps21
    go_wp2_with fail
    refine cn.mono ?_
    rintro en w1 ⟨rfl, k, rfl⟩
    clear cn
    go_wp2_with fail
    go_quiet (fail)
    go_wp2_with fail
    go_ret
    exact ⟨rfl, ⟨zs, p, (hR.drewN (k + nq)).set2 10, fun h => absurd h (by omega)⟩, gb_trans (gb_drewN w (k + nq) _) (gb_set _ X 2 _)⟩

set_option maxHeartbeats 1600000 in
theorem refText_good (X : Nat) (zs : List Int) (p : Nat) (most : Int) (w : World) (hR : Rf B w X zs p 0) (m c : Nat)
    (hn : numR (zs.drop p) = ((m : Int), c, 0)) (hmost : ¬ most < (m : Int)) (hmc : p + c + m ≤ zs.length) :
    Calls Try.prog 21 #[.pointer (some ⟨X, 0, none⟩), .int .i64 most] w fun en w' => en = .returned (.string (strOf ((zs.drop (p + c)).take m))) ∧ RSt B w' X (zs.drop (p + c + m)) 0 ∧ w.grownBy w' (some X) := by
  have cn := refNumber_any X zs p 0 w hR
  rw [hn] at cn
  have hl5 := hR.2.2.2.2.2.2.2.2
  have hpl := hR.2.2.2.2.2.2.2.1
  have h2 := hR.2.2.2.1
  have f1 := hR.2.2.2.2.2.1
  have h1 := hR.2.2.1
  obtain ⟨a, cap, h0, hc, hm, hrow, hne⟩ := id hR.2.1
  unfold maxLen at hm
  have hfew : ¬ ((zs.length : Int) - p - c < m) := by omega
  have hS : ∀ k n, (convert 22 9 (.slice (cutA a cap (p + c)) m (cap - (p + c)))).run Try.prog (((w.drewN k).setCell ⟨X, 1, none⟩ (.int .i64 ((p : Int) + c + m))).drewN n) = .ok (.string (strOf ((zs.drop (p + c)).take m))) (((w.drewN k).setCell ⟨X, 1, none⟩ (.int .i64 ((p : Int) + c + m))).drewN n) := by
    intro k n
    have hg : w.grownBy (((w.drewN k).setCell ⟨X, 1, none⟩ (.int .i64 ((p : Int) + c + m))).drewN n) (some X) := gb_trans (gb_trans (gb_drewN w k _) (gb_set _ X 1 _)) (gb_drewN _ n _)
    have hr := ((hrow.drop (p + c) cap (by omega) hc).take m).gb hg (cutA_ne (suc_ne hne))
    have hs := hr.str (cap - (p + c))
    rw [List.length_take_of_le (by rw [List.length_drop]; omega)] at hs
    exact hs
  have hRf : ∀ k n, Rf B (((w.drewN k).setCell ⟨X, 1, none⟩ (.int .i64 ((p : Int) + c + m))).drewN n) X zs (p + c + m) 0 := by
    intro k n
    have := ((hR.drewN k).set1 (p + c + m) hmc).drewN n
    have e : ((p + c + m : Nat) : Int) = (p : Int) + c + m := by omega
    rw [e] at this; exact this
  by_cases hcp : cap = p + c
  · have hA : cutA a cap (p + c) = a := by unfold cutA; rw [if_pos hcp]
    rw [hA] at hS
    clear hA
    obtain rfl : m = 0 := by omega
    subst hcp
    have e0 : ((0 : Nat) : Int) = 0 := rfl
    simp only [e0, Int.add_zero, Nat.add_zero, Nat.sub_self] at hS hRf cn hfew hmost ⊢
    clear e0
    go_enter Try.func21, Try.ntmps21
    go_wp2_with fail
    refine cn.mono ?_
    rintro en w1 ⟨rfl, k, rfl⟩
    clear cn
    go_wp2_with fail
    go_quiet (fail)
    go_wp2_with fail
    have hS' := hS (k + nq)
    go_quiet (fail)
    go_wp2_with fail
    go_ret
    exact ⟨rfl, ⟨zs, p + c, hRf _ _, fun _ => rfl⟩, gb_trans (gb_trans (gb_drewN w _ _) (gb_set _ X 1 _)) (gb_drewN _ _ _)⟩
  · have hA : cutA a cap (p + c) = a.map (fun x => x.add (p + c)) := by unfold cutA; rw [if_neg hcp]
    generalize hAA : Option.map (fun x : Addr => x.add (p + c)) a = A at *
    rw [hA] at hS
    clear hA
    go_enter Try.func21, Try.ntmps21
    go_wp2_with fail
    refine cn.mono ?_
    rintro en w1 ⟨rfl, k, rfl⟩
    clear cn
    go_wp2_with fail
    go_quiet (fail)
    go_wp2_with fail
    have hS' := hS (k + nq)
    go_quiet (fail)
    go_wp2_with fail
    go_ret
    exact ⟨rfl, ⟨zs, p + c + m, hRf _ _, fun _ => rfl⟩, gb_trans (gb_trans (gb_drewN w _ _) (gb_set _ X 1 _)) (gb_drewN _ _ _)⟩
end Go.Proofs.Ytiihfjoikoogfaa
