/- A reader reads a text: next, Text. -/
import Derived.Test.YtiihfjoikoogfaaRefPutZ
namespace Go.Proofs.Ytiihfjoikoogfaa
open Go.RowKit
open Tal
set_option maxHeartbeats 800000 in
theorem next_few (R : Nat) (rest : List Int) (n : Int) (w : World) (h : St w R rest 0) (hn : (rest.length : Int) < n) :
    Calls Try.prog 37 #[.pointer (some ⟨R, 0, none⟩), .int .i64 n] w fun en w' => en = .returned (.slice none 0 0) ∧ St w' R rest 10 ∧ w.grownBy w' (some R) := by
  obtain ⟨hE, hR⟩ := h
  obtain ⟨a, cap, h0, hc, hm, hrow, hne⟩ := hR rfl
  go_enter Try.func37, Try.ntmps37
  go_wp2_with fail
  refine (left_any R a rest.length cap w h0).mono ?_
  rintro en w1 ⟨rfl, rfl⟩
  go_wp2_with fail
  refine (fail_any R 0 10 w1 hE).mono ?_
  rintro en w2 ⟨rfl, hE2, hg2⟩
  go_wp2_with fail
  go_ret
  exact ⟨rfl, ⟨hE2, fun h => by cases h⟩, hg2⟩
set_option maxHeartbeats 800000 in
theorem next_there (R : Nat) (rest : List Int) (n : Int) (w : World) (h : St w R rest 0) (hn0 : 0 ≤ n) (hn : n ≤ (rest.length : Int)) :
    Calls Try.prog 37 #[.pointer (some ⟨R, 0, none⟩), .int .i64 n] w fun en w' => ∃ a cap, en = .returned (.slice a n.toNat cap) ∧ n.toNat ≤ cap ∧ RowAt w' a (rest.take n.toNat) ∧ St w' R (rest.drop n.toNat) 0 ∧ w.grownBy w' (some R) := by
  obtain ⟨hE, hR⟩ := h
  obtain ⟨a, cap, h0, hc, hm, hrow, hlt⟩ := hR rfl
  have hne := lt_ne hlt
  obtain ⟨q, hq⟩ : ∃ q : Nat, n.toNat = q := ⟨_, rfl⟩
  have hqn : (q : Int) = n := by omega
  rw [hq]
  have ct := take_any R a q rest.length cap w h0 hE.2.2.2.2.1 (by omega) hc hm
  rw [hqn] at ct
  have hE2 := hE.set0 (cutA a cap q) (rest.length - q) (cap - q)
  have hg2 := gb_set w R 0 (.slice (cutA a cap q) (rest.length - q) (cap - q))
  have hr2 := (hrow.take q).gb hg2 hne
  have h02 : (w.setCell ⟨R, 0, none⟩ (.slice (cutA a cap q) (rest.length - q) (cap - q))).cell? ⟨R, 0, none⟩ = some (.slice (cutA a cap q) (rest.length - q) (cap - q)) := World.cell?_setCell_same _ _ _ h0
  have hRest : Rest (w.setCell ⟨R, 0, none⟩ (.slice (cutA a cap q) (rest.length - q) (cap - q))) R (rest.drop q) :=
    ⟨cutA a cap q, cap - q, by rw [List.length_drop]; exact h02, by rw [List.length_drop]; omega, by omega, (hrow.drop q cap (by omega) hc).gb hg2 (cutA_ne hne), cutA_lt hlt⟩
  have hqc : q ≤ cap := by omega
  generalize w.setCell ⟨R, 0, none⟩ (.slice (cutA a cap q) (rest.length - q) (cap - q)) = W2 at *
  have hnn : ¬ ((rest.length : Int) < n) := by omega
  clear hq hqn
  go_enter Try.func37, Try.ntmps37
  go_wp2_with fail
  refine (left_any R a rest.length cap w h0).mono ?_
  rintro en w1 ⟨rfl, rfl⟩
  go_wp2_with fail
  refine ct.mono ?_
  rintro en w2 ⟨rfl, rfl⟩
  go_wp2_with fail
  go_ret
  exact ⟨a, cap, rfl, hqc, hr2, ⟨hE2, fun _ => hRest⟩, hg2⟩
/-- what Text answers (as bytes), what is ahead then, the error then -/
def textS (rest : List Int) (e most : Int) : List Int × List Int × Int :=
  if (numS rest e 9223372036854775807).2.2 = 0 then
    if most < (numS rest e 9223372036854775807).1 then ([], rest, 3)
    else if ((numS rest e 9223372036854775807).2.1.length : Int) < (numS rest e 9223372036854775807).1 then ([], rest, 10)
    else ((numS rest e 9223372036854775807).2.1.take (numS rest e 9223372036854775807).1.toNat, (numS rest e 9223372036854775807).2.1.drop (numS rest e 9223372036854775807).1.toNat, 0)
  else ([], rest, (numS rest e 9223372036854775807).2.2)
theorem St.other {w : World} {R : Nat} {rest : List Int} {e : Int} (h : St w R rest e) (he : e ≠ 0) (rest' : List Int) : St w R rest' e := ⟨h.1, fun h0 => absurd h0 he⟩
set_option maxHeartbeats 1600000 in
theorem text_any (R : Nat) (rest : List Int) (e most : Int) (w : World) (h : St w R rest e) (hpos : 0 ≤ (numS rest e 9223372036854775807).1) :
    Calls Try.prog 20 #[.pointer (some ⟨R, 0, none⟩), .int .i64 most] w fun en w' => en = .returned (.string (strOf (textS rest e most).1)) ∧ St w' R (textS rest e most).2.1 (textS rest e most).2.2 ∧ w.grownBy w' (some R) := by
  have cn := num_any R rest e 9223372036854775807 w h
  have HT : Hid (textS rest e most = if (numS rest e 9223372036854775807).2.2 = 0 then
    (if most < (numS rest e 9223372036854775807).1 then ([], rest, 3)
    else if ((numS rest e 9223372036854775807).2.1.length : Int) < (numS rest e 9223372036854775807).1 then ([], rest, 10)
    else ((numS rest e 9223372036854775807).2.1.take (numS rest e 9223372036854775807).1.toNat, (numS rest e 9223372036854775807).2.1.drop (numS rest e 9223372036854775807).1.toNat, 0))
    else ([], rest, (numS rest e 9223372036854775807).2.2)) := rfl
  generalize (numS rest e 9223372036854775807).1 = n at *
  generalize (numS rest e 9223372036854775807).2.1 = r1 at *
  generalize (numS rest e 9223372036854775807).2.2 = e1 at *
  have hs0 : strOf [] = ⟨#[]⟩ := rfl
  by_cases he : e1 = 0
  · subst he
    rw [if_pos rfl] at HT
    by_cases hmost : most < n
    · rw [if_pos hmost] at HT
      go_enter Try.func20, Try.ntmps20
      go_wp2_with fail
      refine cn.mono ?_
      rintro en w1 ⟨rfl, hS1, hg1⟩
      clear cn
      go_wp2_with fail
      refine (err_made R 0 w1 hS1.1).mono ?_
      rintro en w2 ⟨rfl, rfl⟩
      go_wp2_with fail
      refine (fail_any R 0 3 w2 hS1.1).mono ?_
      rintro en w3 ⟨rfl, hE3, hg3⟩
      go_wp2_with fail
      go_ret
      rw [HT.out]
      exact ⟨rfl, ⟨hE3, fun h => by cases h⟩, gb_trans hg1 hg3⟩
    · rw [if_neg hmost] at HT
      by_cases hlen : (r1.length : Int) < n
      · rw [if_pos hlen] at HT
        have sn : ∀ w : World, (convert 22 9 (.slice none 0 0)).run Try.prog w = .ok (.string ⟨#[]⟩) w := fun w => (nil_row w).str 0
        go_enter Try.func20, Try.ntmps20
        go_wp2_with fail
        refine cn.mono ?_
        rintro en w1 ⟨rfl, hS1, hg1⟩
        clear cn
        go_wp2_with fail
        refine (err_made R 0 w1 hS1.1).mono ?_
        rintro en w2 ⟨rfl, rfl⟩
        go_wp2_with fail
        refine (next_few R r1 n w2 hS1 hlen).mono ?_
        rintro en w3 ⟨rfl, hS3, hg3⟩
        have s3 := sn w3
        go_wp2_with fail
        go_ret
        rw [HT.out]
        exact ⟨rfl, hS3.other (by omega) _, gb_trans hg1 hg3⟩
      · rw [if_neg hlen] at HT
        go_enter Try.func20, Try.ntmps20
        go_wp2_with fail
        refine cn.mono ?_
        rintro en w1 ⟨rfl, hS1, hg1⟩
        clear cn
        go_wp2_with fail
        refine (err_made R 0 w1 hS1.1).mono ?_
        rintro en w2 ⟨rfl, rfl⟩
        go_wp2_with fail
        refine (next_there R r1 n w2 hS1 hpos (by omega)).mono ?_
        rintro en w3 ⟨a, cap, rfl, hca, hra, hS3, hg3⟩
        have s3 := hra.str cap
        rw [List.length_take_of_le (by omega)] at s3
        go_wp2_with fail
        go_ret
        rw [HT.out]
        exact ⟨rfl, hS3, gb_trans hg1 hg3⟩
  · rw [if_neg he] at HT
    have he' : (e1 == 0) = false := by simpa using he
    go_enter Try.func20, Try.ntmps20
    go_wp2_with fail
    refine cn.mono ?_
    rintro en w1 ⟨rfl, hS1, hg1⟩
    clear cn
    go_wp2_with fail
    refine (err_made R e1 w1 hS1.1).mono ?_
    rintro en w2 ⟨rfl, rfl⟩
    go_wp2_with fail
    go_ret
    rw [HT.out]
    exact ⟨rfl, hS1.other he _, hg1⟩
end Go.Proofs.Ytiihfjoikoogfaa
