/- The law of the one form: the walks. -/
import Derived.Test.YtiihfjoikoogfaaBack1
import Derived.Deep.RegionWith
namespace Go.Proofs.Ytiihfjoikoogfaa
open Go.RowKit
open Tal
set_option maxHeartbeats 1600000 in
theorem form_bad (a : Option Addr) (cap : Nat) (zs : List Int) (w : World) (h : RowAt w a zs) (hl : zs.length ≤ 5000) (her : (numR zs).2.2 ≠ 0) :
    Calls Try.prog 6 #[.slice a zs.length cap] w fun e w' => e = .returned (.bool true) ∧ Below w.heap.size w w' := by
  have k1 : ¬ (5000 : Int) < zs.length := by omega
  have HS : Hid (numS zs 0 9223372036854775807 = (0, zs, (numR zs).2.2)) := by show _ = _; simp [numS, her]
  generalize (numR zs).2.2 = er at *
  have her' : (er == 0) = false := by simpa using her
  go_enter Try.func6, Try.ntmps6
  go_wp2_with fail
  refine (read_any a cap zs w h (by omega)).mono ?_
  rintro e w1 ⟨R, rfl, hR, hSt, hb1⟩
  have cn := num_any R zs 0 9223372036854775807 w1 hSt
  rw [HS.out] at cn
  go_wp2_with fail
  refine cn.mono ?_
  rintro e w2 ⟨rfl, hSt2, hg2⟩
  have hb2 : Below w.heap.size w w2 := hb1.grown hg2 hb1.size (fun k hk => by cases hk; exact hR)
  go_wp2_with fail
  refine (err_made R er w2 hSt2.1).mono ?_
  rintro e w3 ⟨rfl, rfl⟩
  clear cn
  go_wp2_with fail
  refine (lives_end w hb2).mono ?_
  rintro e w4 ⟨rfl, hb4⟩
  go_wp2_with fail
  go_ret
  exact ⟨rfl, hb4⟩
set_option maxHeartbeats 1600000 in
theorem form_good (a : Option Addr) (cap : Nat) (zs : List Int) (w : World) (h : RowAt w a zs) (hcap : zs.length ≤ cap) (hl : zs.length ≤ 5000) (her : (numR zs).2.2 = 0) :
    Calls Try.prog 6 #[.slice a zs.length cap] w fun e w' => e = .returned (.bool true) ∧ Below w.heap.size w w' := by
  have k1 : ¬ (5000 : Int) < zs.length := by omega
  obtain ⟨f1, f2, f3, f4⟩ := numR_form zs h.2.1 her
  have HS : Hid (numS zs 0 9223372036854775807 = ((numR zs).1, zs.drop (numR zs).2.1, 0)) := by
    show _ = _
    have : ¬ (9223372036854775807 < (numR zs).1) := by omega
    simp [numS, her, this]
  generalize (numR zs).1 = n at *
  generalize (numR zs).2.1 = c at *
  clear her
  have cs := fun w => size_any n w f4
  have hpl : ((putL n).length : Int) = c := by rw [f1, List.length_take_of_le f2]
  rw [hpl] at cs
  have cp := fun w => put_any none 0 [] n w (nil_row w) (by simp) f4
  rw [List.nil_append, f1] at cp
  have hct : (zs.take c).length = c := List.length_take_of_le f2
  have F1 : Hid (putL n = zs.take c) := f1
  clear f1 hpl
  go_enter Try.func6, Try.ntmps6
  go_wp2_with fail
  refine (read_any a cap zs w h (by omega)).mono ?_
  rintro e w1 ⟨R, rfl, hR, hSt, hb1⟩
  have cn := num_any R zs 0 9223372036854775807 w1 hSt
  rw [HS.out] at cn
  go_wp2_with fail
  refine cn.mono ?_
  rintro e w2 ⟨rfl, hSt2, hg2⟩
  have hb2 : Below w.heap.size w w2 := hb1.grown hg2 hb1.size (fun k hk => by cases hk; exact hR)
  go_wp2_with fail
  refine (err_made R 0 w2 hSt2.1).mono ?_
  rintro e w3 ⟨rfl, rfl⟩
  clear cn
  have cl := leftR_any R (zs.drop c) 0 w3 hSt2
  have el : (if (0 : Int) = 0 then ((zs.drop c).length : Int) else 0) = (zs.length : Int) - c := by rw [if_pos rfl, List.length_drop]; omega
  rw [el] at cl
  clear el
  go_wp2_with fail
  refine cl.mono ?_
  rintro e w4 ⟨rfl, rfl⟩
  clear cl
  have hbd : Below w4.heap.size w4 w4.drew := (Below.refl _ _).drew
  have g4 := (h.below hb2).take c
  have s4 := (g4.below hbd).str cap
  rw [hct] at s4
  have e5 : (zs.length : Int) - ((zs.length : Int) - c) = c := by omega
  go_wp2_with fail
  have hcc : (c : Int) ≤ cap := by omega
  go_region_with (first
    | (go_at_call 14; refine (cs _).mono ?_; rintro e wz ⟨rfl, rfl⟩)
    | (go_at_call 10; refine (cp _).mono ?_; rintro e w5 ⟨v5, rfl, hm5, hb5⟩; have s5 := hm5.str (by rw [hct]; unfold maxLen; omega); have s6 := ((g4.below hbd).below hb5).str cap; rw [hct] at s6)
    | (go_at_call 9; refine (lives_any _).mono ?_; rintro e w6 ⟨rfl, hb6⟩))
  all_goals
    have B5 : Below w.heap.size w w5 := hb2.trans ((hbd.trans hb5).mono hb2.size)
    have B6 : Below w.heap.size w w6 := B5.trans (hb6.mono B5.size)
    clear s4 s5 s6
    go_wp2_with fail
    go_ret
    exact ⟨rfl, B6⟩
end Go.Proofs.Ytiihfjoikoogfaa
