/- The document's reader: Num.; The document's reader: Text.; The readers: Text, Left, Done of the document's, Done of the program's.; The readers: Raw of the program's; Read of the document's.; message's reader: what the chapter's example needs; Decode of a status; the chapter's example; rows of signs, envelopes, requests; envelopes and requests compared; lists compared; batches and certs compared; what was held, compared; requests and batches as bytes: the program's and the document's; A plain region, operation by operation: what is wanted yields its value, what is not is passed over.; message's writer, where all fits; message's writer: lists, envelopes, batches, certs, held, changes; lists of what was held, compared; changes; changes compared; message's writer: votes, envelopes, batches, certs, held, changes; messages with lists; Same; message's writer: messages of all kinds; the document's bytes: tags, signs, certs -/
import Derived.Test.YtgjalkbianpibaaGreatJD2
import Derived.Lib.ConvBytes
import Derived.Laws.ResultCell
import Derived.Test.YtgjalkbianpibaaGreatJD1
import Derived.Laws.MakeOwn
import Derived.Deep.OwnRows
import Derived.Deep.Upon
namespace Go.Proofs.YtgjalkbianpibaaGreat
open Go.RowKit
open Sha Tal
variable {B : Nat}
theorem gbz_drewN (w : World) (k : Nat) (r : Option Nat) : w.grownBy (w.drewN k) r := ⟨rfl, rfl, rfl, Nat.le_refl _, fun _ _ _ => rfl⟩
theorem Rf.drewN {w : World} {X : Nat} {zs : List Int} {p : Nat} {e : Int} (h : Rf B w X zs p e) (k : Nat) : Rf B (w.drewN k) X zs p e := by
  obtain ⟨hX, ⟨a, cap, h0, hc, hm, hr, hne⟩, h1, h2, f0, f1, f2, hp, hl⟩ := h
  refine ⟨by simpa using hX, ⟨a, cap, by simpa using h0, hc, hm, hr.gb (gbz_drewN w k (some X)) (.inr (suc_ne hne)), hne⟩, by simpa using h1, by simpa using h2, by simpa using f0, by simpa using f1, by simpa using f2, hp, hl⟩
theorem Rf.set2 {w : World} {X : Nat} {zs : List Int} {p : Nat} {e : Int} (h : Rf B w X zs p e) (e' : Int) : Rf B (w.setCell ⟨X, 2, none⟩ (.int .i64 e')) X zs p e' := by
  obtain ⟨hX, ⟨a, cap, h0, hc, hm, hr, hne⟩, h1, h2, f0, f1, f2, hp, hl⟩ := h
  exact ⟨by simpa [World.setCell] using hX, ⟨a, cap, (World.cell?_setCell_other _ _ _ _ (by simp)).trans h0, hc, hm, hr.gb (gb_set w X 2 _) (.inr (suc_ne hne)), hne⟩, (World.cell?_setCell_other _ _ _ _ (by simp)).trans h1, World.cell?_setCell_same _ _ _ h2,
    (World.frozen?_setCell _ _ _ _).trans f0, (World.frozen?_setCell _ _ _ _).trans f1, (World.frozen?_setCell _ _ _ _).trans f2, hp, hl⟩
theorem Rf.set1 {w : World} {X : Nat} {zs : List Int} {p : Nat} {e : Int} (h : Rf B w X zs p e) (p' : Nat) (hp' : p' ≤ zs.length) : Rf B (w.setCell ⟨X, 1, none⟩ (.int .i64 (p' : Int))) X zs p' e := by
  obtain ⟨hX, ⟨a, cap, h0, hc, hm, hr, hne⟩, h1, h2, f0, f1, f2, hp, hl⟩ := h
  exact ⟨by simpa [World.setCell] using hX, ⟨a, cap, (World.cell?_setCell_other _ _ _ _ (by simp)).trans h0, hc, hm, hr.gb (gb_set w X 1 _) (.inr (suc_ne hne)), hne⟩, World.cell?_setCell_same _ _ _ h1, (World.cell?_setCell_other _ _ _ _ (by simp)).trans h2,
    (World.frozen?_setCell _ _ _ _).trans f0, (World.frozen?_setCell _ _ _ _).trans f1, (World.frozen?_setCell _ _ _ _).trans f2, hp', hl⟩
/-- the document's reader with this ahead of it and this error -/
def RSt (B : Nat) (w : World) (X : Nat) (rest : List Int) (e : Int) : Prop := ∃ zs p, Rf B w X zs p e ∧ (e = 0 → zs.drop p = rest)
theorem RSt.other {w : World} {X : Nat} {rest : List Int} {e : Int} (h : RSt B w X rest e) (he : e ≠ 0) (rest' : List Int) : RSt B w X rest' e := by
  obtain ⟨zs, p, h1, _⟩ := h
  exact ⟨zs, p, h1, fun h0 => absurd h0 he⟩
theorem numR_len (zs : List Int) (hz : ∀ z ∈ zs, 0 ≤ z ∧ z < 256) (h : (numR zs).2.2 = 0) : (numR zs).2.1 ≤ zs.length := (numR_form zs hz h).2.1
set_option maxHeartbeats 1600000 in
theorem refNum_any (X : Nat) (rest : List Int) (e most : Int) (w : World) (h : RSt B w X rest e) :
    Calls Tryz.prog 43 #[.pointer (some ⟨X, 0, none⟩), .int .i64 most] w fun en w' => en = .returned (.int .i64 (numS rest e most).1) ∧ RSt B w' X (numS rest e most).2.1 (numS rest e most).2.2 ∧ w.grownBy w' (some X) := by
  obtain ⟨zs, p, hR, hd⟩ := h
  by_cases he : e = 0
  · subst he
    have hd := hd rfl
    subst hd
    have cn := refNumber_any X zs p 0 w hR
    have hlen : (numR (zs.drop p)).2.2 = 0 → (numR (zs.drop p)).2.1 ≤ (zs.drop p).length := by
      obtain ⟨a, cap, _, _, _, hr⟩ := hR.rest
      exact numR_len _ hr.2.1
    rw [List.length_drop] at hlen
    have HS : Hid (numS (zs.drop p) 0 most = if (numR (zs.drop p)).2.2 = 0 then (if most < (numR (zs.drop p)).1 then (0, zs.drop p, 3) else ((numR (zs.drop p)).1, (zs.drop p).drop (numR (zs.drop p)).2.1, 0)) else (0, zs.drop p, (numR (zs.drop p)).2.2)) := by show _ = _; simp [numS]
    generalize (numR (zs.drop p)).1 = v at *
    generalize (numR (zs.drop p)).2.1 = c at *
    generalize (numR (zs.drop p)).2.2 = er at *
    have hl5 := hR.2.2.2.2.2.2.2.2
    have hpl := hR.2.2.2.2.2.2.2.1
    by_cases her : er = 0
    · subst her
      have hcl := hlen rfl
      clear hlen
      rw [if_pos rfl] at HS
      by_cases hmost : most < v
      · rw [if_pos hmost] at HS
        obtain ⟨_, _, _, h2, _⟩ := id hR
        go_enter Tryz.func43, Tryz.ntmps43
        go_wp2_with fail
        refine cn.mono ?_
        rintro en w1 ⟨rfl, k, rfl⟩
        clear cn
        have hR1 := hR.drewN k
        have f2 := hR1.2.2.2.2.2.2.1
        have h2' := hR1.2.2.2.1
        go_wp2_with fail
        go_ret
        rw [HS.out]
        exact ⟨rfl, ⟨zs, p, hR1.set2 3, fun h => by cases h⟩, gb_trans (gbz_drewN w k _) (gb_set _ X 2 _)⟩
      · rw [if_neg hmost] at HS
        obtain ⟨_, _, _, h2, _⟩ := id hR
        go_enter Tryz.func43, Tryz.ntmps43
        go_wp2_with fail
        refine cn.mono ?_
        rintro en w1 ⟨rfl, k, rfl⟩
        clear cn
        have hR1 := hR.drewN k
        have f1 := hR1.2.2.2.2.2.1
        have h1' := hR1.2.2.1
        have hR2 := hR1.set1 (p + c) (by omega)
        have ec : ((p + c : Nat) : Int) = (p : Int) + (c : Int) := by omega
        rw [ec] at hR2
        clear ec
        go_wp2_with fail
        go_ret
        rw [HS.out]
        exact ⟨rfl, ⟨zs, p + c, hR2, fun _ => by rw [List.drop_drop]⟩, gb_trans (gbz_drewN w k _) (gb_set _ X 1 _)⟩
    · have her' : (er == 0) = false := by simpa using her
      rw [if_neg her] at HS
      obtain ⟨_, _, _, h2, _⟩ := id hR
      clear hlen
      go_enter Tryz.func43, Tryz.ntmps43
      go_wp2_with fail
      refine cn.mono ?_
      rintro en w1 ⟨rfl, k, rfl⟩
      clear cn
      have hR1 := hR.drewN k
      have f2 := hR1.2.2.2.2.2.2.1
      have h2' := hR1.2.2.2.1
      go_wp2_with fail
      go_ret
      rw [HS.out]
      exact ⟨rfl, ⟨zs, p, hR1.set2 er, fun h => absurd h her⟩, gb_trans (gbz_drewN w k _) (gb_set _ X 2 _)⟩
  · have HS : Hid (numS rest e most = (0, rest, e)) := by show _ = _; simp [numS, he]
    have he' : (e == 0) = false := by simpa using he
    obtain ⟨_, _, _, h2, _⟩ := id hR
    go_enter Tryz.func43, Tryz.ntmps43
    go_wp2_with fail
    go_ret
    rw [HS.out]
    exact ⟨rfl, ⟨zs, p, hR, fun h => absurd h he⟩, gb_refl _ _⟩
end Go.Proofs.YtgjalkbianpibaaGreat
namespace Go.Proofs.YtgjalkbianpibaaGreat
open Go.RowKit
open Sha Tal
variable {B : Nat}
theorem numS_max (rest : List Int) (hz : ∀ z ∈ rest, 0 ≤ z ∧ z < 256) : numS rest 0 9223372036854775807 = if (numR rest).2.2 = 0 then ((numR rest).1, rest.drop (numR rest).2.1, 0) else (0, rest, (numR rest).2.2) := by
  unfold numS
  rw [if_pos rfl]
  by_cases h : (numR rest).2.2 = 0
  · have := (numR_form rest hz h).2.2.2
    rw [if_pos h, if_pos h, if_neg (by omega)]
  · rw [if_neg h, if_neg h]
set_option maxHeartbeats 1600000 in
theorem refText_bad (X : Nat) (zs : List Int) (p : Nat) (most : Int) (w : World) (hR : Rf B w X zs p 0) (v : Int) (c : Nat) (er er' : Int)
    (hn : numR (zs.drop p) = (v, c, er)) (h : (er ≠ 0 ∧ er' = er) ∨ (er = 0 ∧ most < v ∧ er' = 3) ∨ (er = 0 ∧ ¬ most < v ∧ (zs.length : Int) - p - c < v ∧ er' = 10)) (hcl : er = 0 → c ≤ zs.length - p) :
    Calls Tryz.prog 98 #[.pointer (some ⟨X, 0, none⟩), .int .i64 most] w fun en w' => en = .returned (.string ⟨#[]⟩) ∧ RSt B w' X [] er' ∧ w.grownBy w' (some X) := by
  have cn := refNumber_any X zs p 0 w hR
  rw [hn] at cn
  have hl5 := hR.2.2.2.2.2.2.2.2
  have hpl := hR.2.2.2.2.2.2.2.1
  have h2 := hR.2.2.2.1
  have f2 := hR.2.2.2.2.2.2.1
  have h1 := hR.2.2.1
  obtain ⟨a, cap, h0, hc, hm, hr⟩ := hR.rest
  rcases h with ⟨her, rfl⟩ | ⟨rfl, hmost, rfl⟩ | ⟨rfl, hmost, hfew, rfl⟩
  · have her' : (er' == 0) = false := by simpa using her
    go_enter Tryz.func98, Tryz.ntmps98
    go_wp2_with fail
    refine cn.mono ?_
    rintro en w1 ⟨rfl, k, rfl⟩
    clear cn
    go_wp2_with fail
    go_quiet (fail)
    go_wp2_with fail
    go_ret
    exact ⟨rfl, ⟨zs, p, (hR.drewN (k + nq)).set2 er', fun h => absurd h her⟩, gb_trans (gbz_drewN w (k + nq) _) (gb_set _ X 2 _)⟩
  · clear hcl
    go_enter Tryz.func98, Tryz.ntmps98
    go_wp2_with fail
    refine cn.mono ?_
    rintro en w1 ⟨rfl, k, rfl⟩
    clear cn
    go_wp2_with fail
    go_quiet (fail)
    go_wp2_with fail
    go_ret
    exact ⟨rfl, ⟨zs, p, (hR.drewN (k + nq)).set2 3, fun h => absurd h (by omega)⟩, gb_trans (gbz_drewN w (k + nq) _) (gb_set _ X 2 _)⟩
  · have hcl' := hcl rfl
    clear hcl
    go_enter Tryz.func98, Tryz.ntmps98
    go_wp2_with fail
    refine cn.mono ?_
    rintro en w1 ⟨rfl, k, rfl⟩
    clear cn
    go_wp2_with fail
    go_quiet (fail)
    go_wp2_with fail
    go_ret
    exact ⟨rfl, ⟨zs, p, (hR.drewN (k + nq)).set2 10, fun h => absurd h (by omega)⟩, gb_trans (gbz_drewN w (k + nq) _) (gb_set _ X 2 _)⟩

set_option maxHeartbeats 1600000 in
theorem refText_good (X : Nat) (zs : List Int) (p : Nat) (most : Int) (w : World) (hR : Rf B w X zs p 0) (m c : Nat)
    (hn : numR (zs.drop p) = ((m : Int), c, 0)) (hmost : ¬ most < (m : Int)) (hmc : p + c + m ≤ zs.length) :
    Calls Tryz.prog 98 #[.pointer (some ⟨X, 0, none⟩), .int .i64 most] w fun en w' => en = .returned (.string (strOf ((zs.drop (p + c)).take m))) ∧ RSt B w' X (zs.drop (p + c + m)) 0 ∧ w.grownBy w' (some X) := by
  have cn := refNumber_any X zs p 0 w hR
  rw [hn] at cn
  have hl5 := hR.2.2.2.2.2.2.2.2
  have hpl := hR.2.2.2.2.2.2.2.1
  have h2 := hR.2.2.2.1
  have f1 := hR.2.2.2.2.2.1
  have h1 := hR.2.2.1
  obtain ⟨a, cap, h0, hc, hm, hrow, hne⟩ := id hR.2.1
  unfold maxLen at hm
  have hfew : ¬ ((zs.length : Int) - p - c < m) := by omega
  have hS : ∀ k n, (convert 59 9 (.slice (cutA a cap (p + c)) m (cap - (p + c)))).run Tryz.prog (((w.drewN k).setCell ⟨X, 1, none⟩ (.int .i64 ((p : Int) + c + m))).drewN n) = .ok (.string (strOf ((zs.drop (p + c)).take m))) (((w.drewN k).setCell ⟨X, 1, none⟩ (.int .i64 ((p : Int) + c + m))).drewN n) := by
    intro k n
    have hg : w.grownBy (((w.drewN k).setCell ⟨X, 1, none⟩ (.int .i64 ((p : Int) + c + m))).drewN n) (some X) := gb_trans (gb_trans (gbz_drewN w k _) (gb_set _ X 1 _)) (gbz_drewN _ n _)
    have hr := ((hrow.drop (p + c) cap (by omega) hc).take m).gb hg (.inr (cutA_ne (suc_ne hne)))
    have hs := hr.str (cap - (p + c))
    rw [List.length_take_of_le (by rw [List.length_drop]; omega)] at hs
    exact hs
  have hRf : ∀ k n, Rf B (((w.drewN k).setCell ⟨X, 1, none⟩ (.int .i64 ((p : Int) + c + m))).drewN n) X zs (p + c + m) 0 := by
    intro k n
    have := ((hR.drewN k).set1 (p + c + m) hmc).drewN n
    have e : ((p + c + m : Nat) : Int) = (p : Int) + c + m := by omega
    rw [e] at this; exact this
  by_cases hcp : cap = p + c
  · have hA : cutA a cap (p + c) = a := by unfold cutA; rw [if_pos hcp]
    rw [hA] at hS
    clear hA
    obtain rfl : m = 0 := by omega
    subst hcp
    have e0 : ((0 : Nat) : Int) = 0 := rfl
    simp only [e0, Int.add_zero, Nat.add_zero, Nat.sub_self] at hS hRf cn hfew hmost ⊢
    clear e0
    go_enter Tryz.func98, Tryz.ntmps98
    go_wp2_with fail
    refine cn.mono ?_
    rintro en w1 ⟨rfl, k, rfl⟩
    clear cn
    go_wp2_with fail
    go_quiet (fail)
    go_wp2_with fail
    have hS' := hS (k + nq)
    go_quiet (fail)
    go_wp2_with fail
    go_ret
    exact ⟨rfl, ⟨zs, p + c, hRf _ _, fun _ => rfl⟩, gb_trans (gb_trans (gbz_drewN w _ _) (gb_set _ X 1 _)) (gbz_drewN _ _ _)⟩
  · have hA : cutA a cap (p + c) = a.map (fun x => x.add (p + c)) := by unfold cutA; rw [if_neg hcp]
    generalize hAA : Option.map (fun x : Addr => x.add (p + c)) a = A at *
    rw [hA] at hS
    clear hA
    go_enter Tryz.func98, Tryz.ntmps98
    go_wp2_with fail
    refine cn.mono ?_
    rintro en w1 ⟨rfl, k, rfl⟩
    clear cn
    go_wp2_with fail
    go_quiet (fail)
    go_wp2_with fail
    have hS' := hS (k + nq)
    go_quiet (fail)
    go_wp2_with fail
    go_ret
    exact ⟨rfl, ⟨zs, p + c + m, hRf _ _, fun _ => rfl⟩, gb_trans (gb_trans (gbz_drewN w _ _) (gb_set _ X 1 _)) (gbz_drewN _ _ _)⟩
end Go.Proofs.YtgjalkbianpibaaGreat
namespace Go.Proofs.YtgjalkbianpibaaGreat
open Go.RowKit
open Sha Tal
variable {B : Nat}
set_option maxHeartbeats 1600000 in
theorem refText_any (X : Nat) (rest : List Int) (e most : Int) (w : World) (h : RSt B w X rest e) :
    Calls Tryz.prog 98 #[.pointer (some ⟨X, 0, none⟩), .int .i64 most] w fun en w' => en = .returned (.string (strOf (textS rest e most).1)) ∧ RSt B w' X (textS rest e most).2.1 (textS rest e most).2.2 ∧ w.grownBy w' (some X) := by
  obtain ⟨zs, p, hR, hd⟩ := h
  by_cases he : e = 0
  · subst he
    have hd := hd rfl
    subst hd
    obtain ⟨a, cap, h0, hc, hm, hr⟩ := hR.rest
    have hz := hr.2.1
    have hN := numS_max (zs.drop p) hz
    have hform := numR_form (zs.drop p) hz
    rw [List.length_drop] at hform
    have hpl := hR.2.2.2.2.2.2.2.1
    obtain ⟨v, c, er, hn⟩ : ∃ v c er, numR (zs.drop p) = (v, c, er) := ⟨_, _, _, rfl⟩
    rw [hn] at hN hform
    simp only at hN hform
    by_cases her : er = 0
    · subst her
      obtain ⟨_, hcl, hv0, hv1⟩ := hform rfl
      rw [if_pos rfl] at hN
      obtain ⟨m, rfl⟩ := Int.eq_ofNat_of_zero_le hv0
      by_cases hmost : most < (m : Int)
      · have e1 : textS (zs.drop p) 0 most = ([], zs.drop p, 3) := by unfold textS; rw [hN]; simp [hmost]
        rw [e1]
        refine (refText_bad X zs p most w hR m c 0 3 hn (Or.inr (Or.inl ⟨rfl, hmost, rfl⟩)) (fun _ => hcl)).mono ?_
        rintro en w1 ⟨rfl, h1, h2⟩
        exact ⟨rfl, h1.other (by omega) _, h2⟩
      · by_cases hfew : (zs.length : Int) - p - c < m
        · have e1 : textS (zs.drop p) 0 most = ([], zs.drop p, 10) := by
            unfold textS; rw [hN]
            have : (((zs.drop p).drop c).length : Int) < m := by rw [List.length_drop, List.length_drop]; omega
            simp only [if_pos trivial, if_neg hmost, if_pos this]
          rw [e1]
          refine (refText_bad X zs p most w hR m c 0 10 hn (Or.inr (Or.inr ⟨rfl, hmost, hfew, rfl⟩)) (fun _ => hcl)).mono ?_
          rintro en w1 ⟨rfl, h1, h2⟩
          exact ⟨rfl, h1.other (by omega) _, h2⟩
        · have e1 : textS (zs.drop p) 0 most = ((zs.drop (p + c)).take m, zs.drop (p + c + m), 0) := by
            unfold textS; rw [hN]
            have : ¬ ((((zs.drop p).drop c).length : Int) < m) := by rw [List.length_drop, List.length_drop]; omega
            simp only [if_pos trivial, if_neg hmost]
            rw [if_neg this]
            simp only [Int.toNat_natCast, List.drop_drop]
          rw [e1]
          exact refText_good X zs p most w hR m c hn hmost (by omega)
    · rw [if_neg her] at hN
      have e1 : textS (zs.drop p) 0 most = ([], zs.drop p, er) := by unfold textS; rw [hN]; simp [her]
      rw [e1]
      refine (refText_bad X zs p most w hR v c er er hn (Or.inl ⟨her, rfl⟩) (fun h => absurd h her)).mono ?_
      rintro en w1 ⟨rfl, h1, h2⟩
      exact ⟨rfl, h1.other her _, h2⟩
  · have HS : Hid (textS rest e most = ([], rest, e)) := by
      show _ = _
      have : numS rest e 9223372036854775807 = (0, rest, e) := by simp [numS, he]
      unfold textS; rw [this]; simp [he]
    have he' : (e == 0) = false := by simpa using he
    obtain ⟨_, _, _, h2, _⟩ := id hR
    go_enter Tryz.func98, Tryz.ntmps98
    go_wp2_with fail
    go_ret
    rw [HS.out]
    exact ⟨rfl, ⟨zs, p, hR, fun h => absurd h he⟩, gb_refl _ _⟩
end Go.Proofs.YtgjalkbianpibaaGreat
namespace Go.Proofs.YtgjalkbianpibaaGreat
open Go.RowKit
open Sha Tal
variable {B : Nat}
/-- what Raw answers, what is ahead then, the error then -/
def rawS (rest : List Int) (e n : Int) : List Int × List Int × Int :=
  if e = 0 then
    if n < 0 then ([], rest, 2)
    else if (rest.length : Int) < n then ([], rest, 10)
    else (rest.take n.toNat, rest.drop n.toNat, 0)
  else ([], rest, e)
theorem cell_block {w w' : World} {b j : Nat} (h : w'.heap[b]? = w.heap[b]?) : w'.cell? ⟨b, j, none⟩ = w.cell? ⟨b, j, none⟩ ∧ w'.frozen? ⟨b, j, none⟩ = w.frozen? ⟨b, j, none⟩ := by
  constructor
  · simp only [World.cell?, h]
  · simp only [World.frozen?, h]
theorem RdE.below {w w' : World} {R : Nat} {e : Int} (h : RdE w R e) (hb : w'.heap[R]? = w.heap[R]?) (hs : w.heap.size ≤ w'.heap.size) : RdE w' R e := by
  obtain ⟨hR, ⟨a, n, c, h0⟩, h1, h2, f0, f1, f2⟩ := h
  have hc := fun j => (cell_block (j := j) hb)
  exact ⟨Nat.lt_of_lt_of_le hR hs, ⟨a, n, c, (hc 0).1.trans h0⟩, (hc 1).1.trans h1, (hc 2).1.trans h2, (hc 0).2.trans f0, (hc 1).2.trans f1, (hc 2).2.trans f2⟩
theorem St.below {w w' : World} {R : Nat} {rest : List Int} {e : Int} (h : St w R rest e) (hb : Below w.heap.size w w') : St w' R rest e := by
  have hR := h.1.1
  refine ⟨h.1.below (hb.block R hR) hb.size, fun he => ?_⟩
  obtain ⟨a, cap, h0, hc, hm, hr, hne⟩ := h.2 he
  exact ⟨a, cap, (cell_block (hb.block R hR)).1.trans h0, hc, hm, hr.below hb, hne⟩
theorem Rf.below {w w' : World} {X : Nat} {zs : List Int} {p : Nat} {e : Int} (h : Rf B w X zs p e) (hb : Below w.heap.size w w') : Rf B w' X zs p e := by
  obtain ⟨hX, ⟨a, cap, h0, hc, hm, hr, hne⟩, h1, h2, f0, f1, f2, hp, hl⟩ := h
  have hk := fun j => (cell_block (j := j) (hb.block X hX))
  exact ⟨Nat.lt_of_lt_of_le hX hb.size, ⟨a, cap, (hk 0).1.trans h0, hc, hm, hr.below hb, hne⟩, (hk 1).1.trans h1, (hk 2).1.trans h2, (hk 0).2.trans f0, (hk 1).2.trans f1, (hk 2).2.trans f2, hp, hl⟩
theorem RSt.below {w w' : World} {X : Nat} {rest : List Int} {e : Int} (h : RSt B w X rest e) (hb : Below w.heap.size w w') : RSt B w' X rest e := by
  obtain ⟨zs, p, h1, h2⟩ := h
  exact ⟨zs, p, h1.below hb, h2⟩
theorem Mine.nil (w : World) (B : Nat) : Mine w B (.slice none 0 0) [] := ⟨World.ownsRow_nil _ _ _ _, by simp⟩
theorem Mine.mono' {w : World} {B B' : Nat} {v : Value} {zs : List Int} (h : Mine w B v zs) (hb : B' ≤ B) : Mine w B' v zs := by
  refine ⟨⟨h.1.1, ?_⟩, h.2⟩
  rcases h.1.2 with h | ⟨g, cap, cur, hv, hg, r⟩
  · exact .inl h
  · exact .inr ⟨g, cap, cur, hv, Nat.le_trans hb hg, r⟩
end Go.Proofs.YtgjalkbianpibaaGreat
namespace Go.Proofs.YtgjalkbianpibaaGreat
open Go.RowKit
open Sha Tal
/-- a string's bytes, laid anew -/
theorem bytes_of (s : ByteArray) (hs : s.size ≤ 1099511627) (w : World) : ∃ c w1, (convert 9 59 (.string s)).run Tryz.prog w = .ok (.slice (some ⟨w.heap.size, 0, none⟩) (strL s).length c) w1 ∧ RowAt w1 (some ⟨w.heap.size, 0, none⟩) (strL s) ∧ Below w.heap.size w w1 := by
  refine ⟨grownCap w s.size 0 5, Lib.bytesWorld w 5 s, ?_, ?_, ?_⟩
  · rw [Lib.run_convert_string_bytes w 9 59 5 s Tryz.underlying9 Tryz.underlying59 Tryz.underlying5, strL_length]
  · refine ⟨by rw [strL_length]; unfold maxLen; omega, strL_byte s, .inr ⟨_, _, rfl, by rw [Lib.bytesWorld_size]; omega, fun j v hv => ?_⟩⟩
    have hj : j < s.size := by
      have := (List.getElem?_eq_some_iff.1 hv).1
      rwa [v8_length, strL_length] at this
    rw [Nat.zero_add, Lib.bytesWorld_cell w 5 s j hj, ← hv]
    have hj' : j < s.data.toList.length := by simpa using hj
    simp only [v8, strL, List.map_map, List.getElem?_map, List.getElem?_eq_getElem hj', List.getD_eq_getElem?_getD, Option.getD_some, Option.map_some, Function.comp]
  · exact ⟨rfl, rfl, rfl, by rw [Lib.bytesWorld_size]; omega, fun k hk => Lib.bytesWorld_at_old w 5 s k hk⟩
/-- a message's reader at Q over a reader at R -/
structure MrAt (w : World) (Q R : Nat) (z : Bool) : Prop where
  lt : Q < w.heap.size
  ne : R < Q
  c0 : w.cell? ⟨Q, 0, none⟩ = some (.pointer (some ⟨R, 0, none⟩))
  c1 : w.cell? ⟨Q, 1, none⟩ = some (.bool z)
  f1 : w.frozen? ⟨Q, 1, none⟩ = false
theorem MrAt.at {w w' : World} {Q R : Nat} {z : Bool} (h : MrAt w Q R z) (hb : w'.heap[Q]? = w.heap[Q]?) (hs : w.heap.size ≤ w'.heap.size) : MrAt w' Q R z :=
  ⟨Nat.lt_of_lt_of_le h.lt hs, h.ne, (cell_block hb).1.trans h.c0, (cell_block hb).1.trans h.c1, (cell_block hb).2.trans h.f1⟩
theorem MrAt.gb {w w' : World} {Q R : Nat} {z : Bool} (h : MrAt w Q R z) (hg : w.grownBy w' (some R)) : MrAt w' Q R z :=
  h.at (hg.block Q h.lt (fun e => by have := h.ne; cases e; omega)) hg.size
theorem MrAt.below {w w' : World} {Q R : Nat} {z : Bool} (h : MrAt w Q R z) (hb : Below w.heap.size w w') : MrAt w' Q R z := h.at (hb.block Q h.lt) hb.size
set_option maxRecDepth 100000 in
set_option maxHeartbeats 2000000 in
theorem newReader_any (s : ByteArray) (hs : s.size ≤ 1099511627) (w : World) : Calls Tryz.prog 39 #[.string s] w fun e w' => ∃ Q R, e = .returned (.pointer (some ⟨Q, 0, none⟩)) ∧ w.heap.size ≤ R ∧ St w' R (strL s) 0 ∧ MrAt w' Q R false ∧ Below w.heap.size w w' := by
  obtain ⟨c, w1, hc, hr, hB⟩ := bytes_of s hs w
  have hl : (strL s).length ≤ 549755813888 := by rw [strL_length]; omega
  have cr := read_any (some ⟨w.heap.size, 0, none⟩) c (strL s) w1 hr hl
  generalize strL s = zs at *
  go_enter Tryz.func39, Tryz.ntmps39
  go_wp2_with fail
  refine cr.mono ?_
  rintro e w2 ⟨R, rfl, hR, hSt, hb2⟩
  have hB2 := hB.trans (hb2.mono hB.size)
  have hB3 : Below w2.heap.size w2 (w2.alloc (.cells #[.pointer (some ⟨R, 0, none⟩), .bool false] 125)) := (Below.refl _ _).alloc (Nat.le_refl _) _
  have hB4 := hB2.trans (hB3.mono hB2.size)
  have hRl := hSt.1.1
  have hSt3 := hSt.below hB3
  have hQ : MrAt (w2.alloc (.cells #[.pointer (some ⟨R, 0, none⟩), .bool false] 125)) w2.heap.size R false :=
    ⟨by simp, hRl, World.cell?_alloc_at _ _ _ _ rfl, World.cell?_alloc_at _ _ _ _ rfl, World.frozen?_alloc_at _ _ _ _ rfl⟩
  have hRw : w.heap.size ≤ R := by have := hB.size; omega
  clear cr hc hr hSt hB3 hB2 hb2 hB
  go_wp2_with fail
  go_ret
  exact ⟨_, R, rfl, hRw, hSt3, hQ, hB4⟩
/-- what Done answers -/
def doneE (rest : List Int) (e : Int) : Int := if e = 0 then (if rest.length = 0 then 0 else 12) else e
set_option maxRecDepth 100000 in
set_option maxHeartbeats 2000000 in
theorem done_any (R : Nat) (rest : List Int) (e : Int) (w : World) (h : St w R rest e) : Calls Tryz.prog 90 #[.pointer (some ⟨R, 0, none⟩)] w fun en w' => en = .returned (.int .i64 (doneE rest e)) ∧ w' = w := by
  have ce := err_made R e w h.1
  by_cases he : e = 0
  · subst he
    obtain ⟨a, cap, h0, _⟩ := h.2 rfl
    have cl := left_any R a rest.length cap w h0
    have E : doneE rest 0 = if rest.length = 0 then 0 else 12 := by simp [doneE]
    rw [E]
    clear E h
    by_cases hr : rest.length = 0
    · rw [if_pos hr]
      rw [hr] at cl
      clear hr h0
      go_enter Tryz.func90, Tryz.ntmps90
      go_wp2_with fail
      refine ce.mono ?_
      rintro e1 w1 ⟨rfl, hx⟩
      obtain rfl := hx.symm
      clear hx
      go_wp2_with fail
      refine cl.mono ?_
      rintro e2 w2 ⟨rfl, hx⟩
      obtain rfl := hx.symm
      clear hx
      go_wp2
      go_ret
      exact ⟨rfl, rfl⟩
    · rw [if_neg hr]
      have hr' : (0 : Int) < rest.length := by omega
      obtain ⟨n, hn⟩ : ∃ n : Int, (rest.length : Int) = n := ⟨_, rfl⟩
      rw [hn] at cl hr'
      clear hr hn h0
      go_enter Tryz.func90, Tryz.ntmps90
      go_wp2_with fail
      refine ce.mono ?_
      rintro e1 w1 ⟨rfl, hx⟩
      obtain rfl := hx.symm
      clear hx
      go_wp2_with fail
      refine cl.mono ?_
      rintro e2 w2 ⟨rfl, hx⟩
      obtain rfl := hx.symm
      clear hx
      go_wp2
      go_ret
      exact ⟨rfl, rfl⟩
  · have E : doneE rest e = e := by simp [doneE, he]
    rw [E]
    have n1 : (e != 0) = true := bne_iff_ne.2 he
    clear E h he
    go_enter Tryz.func90, Tryz.ntmps90
    go_wp2_with fail
    refine ce.mono ?_
    rintro e1 w1 ⟨rfl, hx⟩
    obtain rfl := hx.symm
    clear hx
    go_wp2
    go_ret
    exact ⟨rfl, rfl⟩
set_option maxRecDepth 100000 in
set_option maxHeartbeats 2000000 in
theorem fault_ok (Q R : Nat) (rest : List Int) (e : Int) (w : World) (h : St w R rest e) (hq : MrAt w Q R false) : Calls Tryz.prog 41 #[.pointer (some ⟨Q, 0, none⟩)] w fun en w' => en = .returned (.int .i64 (doneE rest e)) ∧ w' = w := by
  have cd := done_any R rest e w h
  have c0 := hq.c0
  have c1 := hq.c1
  generalize doneE rest e = r at *
  clear h hq
  go_enter Tryz.func41, Tryz.ntmps41
  go_wp2_with fail
  refine cd.mono ?_
  rintro e1 w1 ⟨rfl, hx⟩
  obtain rfl := hx.symm
  clear hx cd
  go_wp2
  go_ret
  exact ⟨rfl, rfl⟩
set_option maxRecDepth 100000 in
set_option maxHeartbeats 2000000 in
theorem kind_pos (Q R : Nat) (rest rest' : List Int) (n most : Int) (w : World) (h : St w R rest 0) (hq : MrAt w Q R false) (hn : numS rest 0 most = (n, rest', 0)) (h0 : n ≠ 0) :
    Calls Tryz.prog 78 #[.pointer (some ⟨Q, 0, none⟩), .int .i64 most] w fun en w' => en = .returned (.int .i64 n) ∧ St w' R rest' 0 ∧ w.grownBy w' (some R) := by
  have cn := num_any R rest 0 most w h
  rw [hn] at cn
  simp only at cn
  have c0 := hq.c0
  have n0 : (n == 0) = false := beq_eq_false_iff_ne.2 h0
  clear h hq hn h0
  go_enter Tryz.func78, Tryz.ntmps78
  go_wp2_with fail
  refine cn.mono ?_
  rintro e1 w1 ⟨rfl, hS1, hg1⟩
  clear cn c0
  go_wp2
  go_ret
  exact ⟨rfl, hS1, hg1⟩
theorem there_blk {w w' : World} {b o n : Nat} (h : w.there b o n) (hb : w'.heap[b]? = w.heap[b]?) : w'.there b o n := fun j hj => by
  have := h j hj
  exact ⟨by rw [(cell_block hb).1]; exact this.1, (cell_block hb).2.trans this.2⟩
theorem apartC {w : World} {q b o : Nat} {v : Value} {vs : List Value} (h : w.cell? ⟨q, 0, none⟩ = some v) (hne : q ≠ b) : (w.setCells b o vs).cell? ⟨q, 0, none⟩ = some v := by
  have : w.rangeAt q 0 [v] := fun j u hj => by
    match j, hj with
    | 0, hj => cases hj; exact h
  exact World.rangeAt_setCells_apart this b o vs (.inl hne) 0 v rfl
theorem St.belowN {w w' : World} {R n : Nat} {rest : List Int} {e : Int} (h : St w R rest e) (hb : Below n w w') (hn : R < n) : St w' R rest e := by
  refine ⟨h.1.below (hb.block R hn) hb.size, fun he => ?_⟩
  obtain ⟨a, cap, h0, hc, hm, hr, hne⟩ := h.2 he
  refine ⟨a, cap, (cell_block (hb.block R hn)).1.trans h0, hc, hm, ⟨hr.1, hr.2.1, ?_⟩, hne⟩
  rcases hr.2.2 with q | ⟨b, off, rfl, q1, q2⟩
  · exact .inl q
  · exact .inr ⟨b, off, rfl, Nat.lt_of_lt_of_le q1 hb.size, range_below q2 hb (by have := hne _ rfl; simp only at this; omega)⟩
theorem Off.below_off {w w' : World} {n : Nat} (h : Below n w w') : Off (fun b => n ≤ b) w w' := ⟨h.mono (Nat.zero_le _), fun b _ hf => h.block b (by omega)⟩
set_option maxRecDepth 100000 in
set_option maxHeartbeats 4000000 in
theorem rmsg6 (Q R : Nat) (zs z1 z2 z3 : List Int) (e sl : Int) (w : World) (h : St w R zs 0) (hq : MrAt w Q R false) (n1 : numS zs 0 8 = (6, z1, 0)) (n2 : numS z1 0 1048576 = (e, z2, 0)) (n3 : numS z2 0 1099511627776 = (sl, z3, 0)) :
    Calls Tryz.prog 40 #[.pointer (some ⟨Q, 0, none⟩)] w fun en w' => en = .returned (.agg (Ms.plain 6 e sl Vt.zero zeros32).cells.toArray) ∧ St w' R z3 0 ∧ MrAt w' Q R false ∧ Off (fun b => b = R) w w' := by
  have hm : (Ms.plain 6 e sl Vt.zero zeros32).ok := Ms.plain_ok 6 e sl Vt.zero_ok zeros32_len zeros32_byte
  have hk : (Ms.plain 6 0 0 Vt.zero zeros32).ok := Ms.plain_ok 6 0 0 Vt.zero_ok zeros32_len zeros32_byte
  have hz0 : Ms.zero.ok := Ms.plain_ok 0 0 0 Vt.zero_ok zeros32_len zeros32_byte
  have lm := hm.len
  have lk := hk.len
  have lz := hz0.len
  have om := all_oneCell_toArray hm.one
  have ok := all_oneCell_toArray hk.one
  have hz := zeroM
  have hbk := build_kind 6
  have hput : ∀ (w' : World) b, w'.rangeAt b 0 (Ms.plain 6 0 0 Vt.zero zeros32).cells → w'.there b 0 119 → ((w'.setCells b 1 [.int .i64 e]).setCells b 4 [.int .i64 sl]).rangeAt b 0 (Ms.plain 6 e sl Vt.zero zeros32).cells := fun w' b h ht => by
    have h1 := range_put (pre := [Value.int .i64 6]) (mid := [Value.int .i64 0]) (vs := [Value.int .i64 e]) h 1 rfl (by have := there_part ht 1 1 (by omega); rwa [Nat.zero_add] at this) rfl
    exact range_put (pre := [Value.int .i64 6, .int .i64 e, .int .i64 0, .int .i64 0]) (mid := [Value.int .i64 0]) (vs := [Value.int .i64 sl]) h1 4 rfl (by have := there_part (World.there_setCells ht b 1 [Value.int .i64 e]) 4 1 (by omega); rwa [Nat.zero_add] at this) rfl
  have hk0 : ∀ (w' : World) b, w'.rangeAt b 0 (Ms.plain 6 0 0 Vt.zero zeros32).cells → w'.cell? ⟨b, 0, none⟩ = some (.int .i64 6) := fun w' b h => (hk.at h).k
  have im : (Tryz.prog.info? 37).map (·.size) = some (Ms.plain 6 e sl Vt.zero zeros32).cells.length := by rw [lm]; exact iszM
  have im' : (Tryz.prog.info? 37).map (·.size) = some (Ms.plain 6 e sl Vt.zero zeros32).cells.toArray.size := by rw [List.size_toArray, lm]; exact iszM
  have ik' : (Tryz.prog.info? 37).map (·.size) = some (Ms.plain 6 0 0 Vt.zero zeros32).cells.toArray.size := by rw [List.size_toArray, lk]; exact iszM
  clear hm hk hz0
  generalize (Ms.plain 6 e sl Vt.zero zeros32).cells = q at *
  generalize (Ms.plain 6 0 0 Vt.zero zeros32).cells = qk at *
  generalize Ms.zero.cells = z at *
  have hRl := hq.ne
  have hQl := hq.lt
  have hB1 : Below w.heap.size w (w.alloc (.cells z.toArray 37)) := (Below.refl _ _).alloc (Nat.le_refl _) _
  have hT1 : (w.alloc (.cells z.toArray 37)).there w.heap.size 0 119 := by
    have := there_new w z.toArray 37
    rwa [show z.toArray.size = 119 by simpa using lz] at this
  have hs1 : w.heap.size < (w.alloc (.cells z.toArray 37)).heap.size := by simp
  have h1 := h.below hB1
  have hq1 := hq.below hB1
  have c4 := fun (w0 : World) (hS : St w0 R z1 0) => num_any R z1 0 1048576 w0 hS
  have c9 := fun (w0 : World) (hS : St w0 R z2 0) => num_any R z2 0 1099511627776 w0 hS
  simp only [n2, n3] at c4 c9
  go_enter Tryz.func40, Tryz.ntmps40
  go_upto_region 1 with fail
  go_name_world w1 hw1
  rw [show w.alloc (.cells z.toArray 37) = w1 from hw1] at hB1 hT1 hs1 h1 hq1
  clear hw1
  have ck := kind_pos Q R zs z1 6 8 w1 h1 hq1 n1 (by omega)
  clear n1 n2 n3 h hq h1
  go_wp2_with fail
  refine ck.mono ?_
  rintro e2 w2 ⟨rfl, hSt2, hg2⟩
  have hq2 := hq1.gb hg2
  have hT2 := there_blk hT1 (hg2.block _ hs1 (fun e => by cases e; omega))
  have hs2 : w.heap.size < w2.heap.size := Nat.lt_of_lt_of_le hs1 hg2.size
  have O2 : Off (fun b => b = R) w w2 := (Off.of_below (F := fun b => b = R) hB1).trans (Off.of_grown (F := fun b => b = R) hg2 (fun k hk => by cases hk; rfl)) (fun _ _ q => q)
  obtain ⟨r3, hB3, hs3, hT3⟩ := fresh_store w2 z.toArray 37 qk (by rw [List.size_toArray, lz, lk])
  rw [show z.toArray.size = 119 by simpa using lz] at hT3
  have hTz : (w2.alloc (.cells z.toArray 37)).there w2.heap.size 0 qk.toArray.size := by
    have := there_new w2 z.toArray 37
    rw [show z.toArray.size = 119 by simpa using lz] at this
    rw [show qk.toArray.size = 119 by simpa using lk]
    exact this
  clear ck hg2 hq1 hT1 hB1 hs1
  go_upto_region 2 with (first | (refine wpList_build rfl 37 [(0, .tmp 5)] rfl [(0, .int .i64 6)] _ rfl (hbk _) ?_) | refine wpList_store_mid rfl 37 _ _ rfl _ _ qk.toArray rfl rfl hTz ik' ok ?_)
  go_name_world w3 hw3
  rw [show (w2.alloc (.cells z.toArray 37)).setCells w2.heap.size 0 qk = w3 from hw3] at r3 hB3 hs3 hT3
  have hs3' : w2.heap.size < w3.heap.size := by omega
  clear hw3 hs3 hTz
  have hSt3 := hSt2.below hB3
  have hq3 := hq2.below hB3
  have hT13 := there_below hT2 hB3 hs2
  have O3 := O2.below_r hB3
  have c0 := hk0 _ _ r3
  clear hSt2 hq2 hT2 O2 hB3
  go_upto_region 16 with fail
  obtain ⟨w5, hw5⟩ : ∃ w5, w3.drew = w5 := ⟨_, rfl⟩
  have hBd : Below w3.heap.size w3 w5 := by rw [← hw5]; exact (Below.refl _ _).drew
  have hSt5 := hSt3.below hBd
  have hq5 := hq3.below hBd
  have r5 := range_below r3 hBd hs3'
  have hT5 := there_below hT3 hBd hs3'
  have hT15 := there_below hT13 hBd (by omega)
  have O5 := O3.below_r hBd
  have hs5 := Nat.lt_of_lt_of_le hs3' hBd.size
  refine hs_begin (S := (fun w' => w'.cell? ⟨Q, 0, none⟩ = some (.pointer (some ⟨R, 0, none⟩)))) 14 rfl (by kernel_rfl) ?_
  rw [hw5]
  clear hw5 hSt3 hq3 r3 hT3 hT13 O3 hBd hs3' c0
  have hS := hq5.c0
  refine hs_take (i := 0) (d := some 81) (v := ?_) rfl (by kernel_rfl) (by kernel_rfl) (by kernel_rfl) (by rfl) ?_ hS rfl ?_
  rotate_left
  · intro w' hw
    go_simp
    try with_reducible rfl
  simp only [Act.put, List.setIfInBounds_toArray, List.set_cons_zero, List.set_cons_succ]
  refine hs_take (i := 1) (d := some 82) (v := ?_) rfl (by kernel_rfl) (by kernel_rfl) (by kernel_rfl) (by rfl) ?_ hS rfl ?_
  rotate_left
  · intro w' hw
    go_simp
    try with_reducible rfl
  simp only [Act.put, List.setIfInBounds_toArray, List.set_cons_zero, List.set_cons_succ]
  refine hs_take (i := 2) (d := some 83) (v := ?_) rfl (by kernel_rfl) (by kernel_rfl) (by kernel_rfl) (by rfl) ?_ hS rfl ?_
  rotate_left
  · intro w' hw
    go_simp
    try with_reducible rfl
  simp only [Act.put, List.setIfInBounds_toArray, List.set_cons_zero, List.set_cons_succ]
  refine hs_take (i := 3) (d := some 84) (v := ?_) rfl (by kernel_rfl) (by kernel_rfl) (by kernel_rfl) (by rfl) ?_ hS rfl ?_
  rotate_left
  · intro w' hw
    have := hw
    go_simp
    try with_reducible rfl
  simp only [Act.put, List.setIfInBounds_toArray, List.set_cons_zero, List.set_cons_succ]
  refine hs_take (i := 5) (d := some 86) (v := ?_) rfl (by kernel_rfl) (by kernel_rfl) (by kernel_rfl) (by rfl) ?_ hS rfl ?_
  rotate_left
  · intro w' hw
    go_simp
    try with_reducible rfl
  simp only [Act.put, List.setIfInBounds_toArray, List.set_cons_zero, List.set_cons_succ]
  refine hs_take (i := 6) (d := some 87) (v := ?_) rfl (by kernel_rfl) (by kernel_rfl) (by kernel_rfl) (by rfl) ?_ hS rfl ?_
  rotate_left
  · intro w' hw
    go_simp
    try with_reducible rfl
  simp only [Act.put, List.setIfInBounds_toArray, List.set_cons_zero, List.set_cons_succ]
  refine hs_take (i := 7) (d := some 88) (v := ?_) rfl (by kernel_rfl) (by kernel_rfl) (by kernel_rfl) (by rfl) ?_ hS rfl ?_
  rotate_left
  · intro w' hw
    go_simp
    try with_reducible rfl
  simp only [Act.put, List.setIfInBounds_toArray, List.set_cons_zero, List.set_cons_succ]
  refine hs_take (i := 8) (d := some 89) (v := ?_) rfl (by kernel_rfl) (by kernel_rfl) (by kernel_rfl) (by rfl) ?_ hS rfl ?_
  rotate_left
  · intro w' hw
    have := hw
    go_simp
    try with_reducible rfl
  simp only [Act.put, List.setIfInBounds_toArray, List.set_cons_zero, List.set_cons_succ]
  refine hs_call (i := 4) (d := some 85) rfl (by kernel_rfl) (by rfl) (by go_simp; first | done | exact ⟨rfl, rfl⟩ | with_reducible rfl) rfl ?_
  refine (c4 _ hSt5).mono ?_
  rintro e' wn1 ⟨rfl, hSt6, hg6⟩
  have hS : (fun w' => w'.cell? ⟨Q, 0, none⟩ = some (.pointer (some ⟨R, 0, none⟩))) wn1 := (hq5.gb hg6).c0
  refine ⟨_, rfl, hS, ?_⟩
  simp only [Act.put, List.setIfInBounds_toArray, List.set_cons_zero, List.set_cons_succ]
  have hq6 := hq5.gb hg6
  refine hs_take (i := 10) (d := some 91) (v := ?_) rfl (by kernel_rfl) (by kernel_rfl) (by kernel_rfl) (by rfl) ?_ hS rfl ?_
  rotate_left
  · intro w' hw
    go_simp
    try with_reducible rfl
  simp only [Act.put, List.setIfInBounds_toArray, List.set_cons_zero, List.set_cons_succ]
  refine hs_call (i := 9) (d := some 90) rfl (by kernel_rfl) (by rfl) (by go_simp; first | done | exact ⟨rfl, rfl⟩ | with_reducible rfl) rfl ?_
  refine (c9 _ hSt6).mono ?_
  rintro e' wn2 ⟨rfl, hSt7, hg7⟩
  have hS : (fun w' => w'.cell? ⟨Q, 0, none⟩ = some (.pointer (some ⟨R, 0, none⟩))) wn2 := (hq6.gb hg7).c0
  refine ⟨_, rfl, hS, ?_⟩
  simp only [Act.put, List.setIfInBounds_toArray, List.set_cons_zero, List.set_cons_succ]
  have hq7 := hq6.gb hg7
  have G := (Off.of_grown (F := fun b => b = R) hg6 (fun k hk => by cases hk; rfl)).trans (Off.of_grown (F := fun b => b = R) hg7 (fun k hk => by cases hk; rfl)) (fun _ _ q => q)
  have r7 : wn2.rangeAt w2.heap.size 0 qk := range_at r5 (G.2 _ hs5 (fun e => by omega))
  have hT7 : wn2.there w2.heap.size 0 119 := there_blk hT5 (G.2 _ hs5 (fun e => by omega))
  have hT17 : wn2.there w.heap.size 0 119 := there_blk hT15 (G.2 _ (by omega) (fun e => by omega))
  have hsn : w2.heap.size < wn2.heap.size := Nat.lt_of_lt_of_le hs5 G.size
  refine hs_store (i := 11) (w' := wn2.setCells w2.heap.size 1 [.int .i64 e]) rfl (by kernel_rfl) (by rfl) (exec_storeC rfl rfl rfl (store_cell _ _ _ _ _ (by have := there_part hT7 1 1 (by omega); rwa [Nat.zero_add] at this) iszI rfl rfl)) rfl (apartC hS (by omega)) ?_
  have hS := apartC (o := 1) (vs := [Value.int .i64 e]) (b := w2.heap.size) hS (by omega)
  have hT8 : (wn2.setCells w2.heap.size 1 [.int .i64 e]).there w2.heap.size 0 119 := World.there_setCells hT7 _ _ _
  refine hs_take (i := 12) (d := some 92) (v := ?_) rfl (by kernel_rfl) (by kernel_rfl) (by kernel_rfl) (by rfl) ?_ hS rfl ?_
  rotate_left
  · intro w' hw
    go_simp
    try with_reducible rfl
  simp only [Act.put, List.setIfInBounds_toArray, List.set_cons_zero, List.set_cons_succ]
  refine hs_store (i := 13) (w' := (wn2.setCells w2.heap.size 1 [.int .i64 e]).setCells w2.heap.size 4 [.int .i64 sl]) rfl (by kernel_rfl) (by rfl) (exec_storeC rfl rfl rfl (store_cell _ _ _ _ _ (by have := there_part hT8 4 1 (by omega); rwa [Nat.zero_add] at this) iszI rfl rfl)) rfl (apartC hS (by omega)) ?_
  refine hs_done (by kernel_rfl) ?_
  have r8 := hput _ _ r7 hT7
  have B8 := below_sets (show w2.heap.size ≤ w2.heap.size from Nat.le_refl _) [.int .i64 sl] 4 _ (below_sets (show w2.heap.size ≤ w2.heap.size from Nat.le_refl _) [.int .i64 e] 1 _ (Below.refl w2.heap.size wn2))
  have hs8 : w2.heap.size < ((wn2.setCells w2.heap.size 1 [.int .i64 e]).setCells w2.heap.size 4 [.int .i64 sl]).heap.size := by rw [size_sets, size_sets]; exact hsn
  have hT18 : ((wn2.setCells w2.heap.size 1 [.int .i64 e]).setCells w2.heap.size 4 [.int .i64 sl]).there w.heap.size 0 119 := World.there_setCells (World.there_setCells hT17 _ _ _) _ _ _
  clear hT7 hT8 hT17 r7 hT5 hT15 r5
  go_upto_region 22 with fail
  go_name_world w8 hw8
  rw [show (wn2.setCells w2.heap.size 1 [.int .i64 e]).setCells w2.heap.size 4 [.int .i64 sl] = w8 from hw8] at r8 B8 hs8 hT18
  clear hw8 hS
  have hSt8 : St w8 R z3 0 := hSt7.belowN B8 (by omega)
  have hq8 : MrAt w8 Q R false := hq7.at (B8.block Q (by omega)) B8.size
  have O8 : Off (fun b => b = R) w w8 := (O5.trans G (fun _ _ q => q)).trans (Off.below_off B8) (fun b hb hf => absurd hf (by show ¬ w2.heap.size ≤ b; omega))
  have hT18' : w8.there w.heap.size 0 q.toArray.size := by rw [show q.toArray.size = 119 by simpa using lm]; exact hT18
  have r9 := World.rangeAt_setCells_same w8 w.heap.size 0 q (by have := hT18'; rwa [List.size_toArray] at this)
  have B9 := below_sets (show w.heap.size ≤ w.heap.size from Nat.le_refl _) q 0 _ (Below.refl w.heap.size w8)
  have hrs := run_loadVar_mid (P := Tryz.prog) _ w.heap.size 0 37 q _ r9 Tryz.underlying37 rfl im
  have hSt9 := hSt8.belowN B9 (by omega)
  have hq9 := hq8.at (B9.block Q (by omega)) B9.size
  have O9 : Off (fun b => b = R) w (w8.setCells w.heap.size 0 q) := O8.trans (Off.below_off B9) (fun b hb hf => absurd hf (by show ¬ w.heap.size ≤ b; omega))
  clear hSt7 hq7 G hg6 hg7 hSt6 hq6 hSt5 hq5 O5 O8 B8 B9 hSt8 hq8 c4 c9 hput hk0
  go_wp2_with (first | (refine wpList_load_mid rfl 37 _ rfl _ _ rfl q _ r8 Tryz.underlying37 rfl im ?_) | (refine wpList_store_mid rfl 37 _ _ rfl _ _ q.toArray rfl rfl hT18' im' om ?_))
  exact bodyPost_ret (v := .agg q.toArray) (by simp [results, Tryz.results40, asAddr, hrs]) rfl ⟨rfl, hSt9, hq9, O9⟩
end Go.Proofs.YtgjalkbianpibaaGreat
namespace Go.Proofs.YtgjalkbianpibaaGreat
open Go.RowKit
open Sha Tal
theorem results_ct {fn : Func} {p u : Tmp} {ty : TypeId} (h : fn.results = #[.cell p ty, .tmp u]) (tmps : Array Value) (P : Program) (w : World) {a : Addr} {v : Value} (ha : tmps.getD p undef = .pointer (some a)) (hv : (loadVar ty a).run P w = .ok v w) : (results fn tmps).run P w = .ok (.tuple #[v, tmps.getD u undef]) w := by
  rw [results_cell_tmp h, ha]
  simp [asAddr, hv, Result.andThen]
set_option maxRecDepth 100000 in
set_option maxHeartbeats 4000000 in
theorem dec6 (s : ByteArray) (z1 z2 : List Int) (e sl : Int) (w : World) (hs : s.size ≤ 4194304) (n1 : numS (strL s) 0 8 = (6, z1, 0)) (n2 : numS z1 0 1048576 = (e, z2, 0)) (n3 : numS z2 0 1099511627776 = (sl, [], 0)) :
    Calls Tryz.prog 13 #[.string s] w fun er w' => er = .returned (.tuple #[.agg (Ms.plain 6 e sl Vt.zero zeros32).cells.toArray, .int .i64 0]) ∧ Below w.heap.size w w' := by
  have hm : (Ms.plain 6 e sl Vt.zero zeros32).ok := Ms.plain_ok 6 e sl Vt.zero_ok zeros32_len zeros32_byte
  have hz0 : Ms.zero.ok := Ms.plain_ok 0 0 0 Vt.zero_ok zeros32_len zeros32_byte
  have lm := hm.len
  have lz := hz0.len
  have om := all_oneCell_toArray hm.one
  have hz := zeroM
  have im : (Tryz.prog.info? 37).map (·.size) = some (Ms.plain 6 e sl Vt.zero zeros32).cells.length := by rw [lm]; exact iszM
  have im' : (Tryz.prog.info? 37).map (·.size) = some (Ms.plain 6 e sl Vt.zero zeros32).cells.toArray.size := by rw [List.size_toArray, lm]; exact iszM
  have cr := fun Q R (w0 : World) (h : St w0 R (strL s) 0) (hq : MrAt w0 Q R false) => rmsg6 Q R (strL s) z1 z2 [] e sl w0 h hq n1 n2 n3
  have cn := fun w0 => newReader_any s (by omega) w0
  have hd0 : doneE [] 0 = 0 := rfl
  have hs' : (s.size : Int) ≤ 4194304 := by omega
  clear hm hz0 n1 n2 n3
  generalize (Ms.plain 6 e sl Vt.zero zeros32).cells = q at *
  generalize Ms.zero.cells = z at *
  generalize strL s = zs at *
  have hB1 : Below w.heap.size w (w.alloc (.cells z.toArray 37)) := (Below.refl _ _).alloc (Nat.le_refl _) _
  have hT1 : (w.alloc (.cells z.toArray 37)).there w.heap.size 0 119 := by
    have := there_new w z.toArray 37
    rwa [show z.toArray.size = 119 by simpa using lz] at this
  have hs1 : w.heap.size < (w.alloc (.cells z.toArray 37)).heap.size := by simp
  go_enter Tryz.func13, Tryz.ntmps13
  go_upto_region 1 with fail
  go_name_world w1 hw1
  rw [show w.alloc (.cells z.toArray 37) = w1 from hw1] at hB1 hT1 hs1
  clear hw1
  go_wp2_with fail
  refine (cn _).mono ?_
  rintro e2 w2 ⟨Q, R, rfl, hRw, hSt2, hq2, hb2⟩
  have hB2 := hB1.trans (hb2.mono hB1.size)
  have hT2 := there_below hT1 hb2 hs1
  have hs2 := Nat.lt_of_lt_of_le hs1 hb2.size
  have c4 := cr Q R w2 hSt2 hq2
  have hRQ := hq2.ne
  have hQl := hq2.lt
  clear cn cr hb2 hT1 hB1 hSt2 hq2
  go_wp2_with fail
  refine c4.mono ?_
  rintro e3 w3 ⟨rfl, hSt3, hq3, hO3⟩
  have hB3 := hB2.trans (hO3.below (n := w.heap.size) (by omega) (fun b hb hf => by omega))
  have hT3 := there_blk hT2 (hO3.2 _ hs2 (fun hf => by omega))
  have hs3 := Nat.lt_of_lt_of_le hs2 hO3.size
  obtain ⟨r4, hb4, hz4, _⟩ := fresh_store w3 z.toArray 37 q (by rw [List.size_toArray, lz, lm])
  have hTz : (w3.alloc (.cells z.toArray 37)).there w3.heap.size 0 q.toArray.size := by
    have := there_new w3 z.toArray 37
    rw [show z.toArray.size = 119 by simpa using lz] at this
    rw [show q.toArray.size = 119 by simpa using lm]
    exact this
  clear c4 hO3 hT2 hB2
  go_upto_region 5 with (refine wpList_store_mid rfl 37 _ _ rfl _ _ q.toArray rfl rfl hTz im' om ?_)
  go_name_world w4 hw4
  rw [show (w3.alloc (.cells z.toArray 37)).setCells w3.heap.size 0 q = w4 from hw4] at r4 hb4 hz4
  clear hw4 hTz
  have hSt4 := hSt3.below hb4
  have hq4 := hq3.below hb4
  have hT4 := there_below hT3 hb4 hs3
  have hB4 := hB3.trans (hb4.mono hB3.size)
  have cf := fault_ok Q R [] 0 w4 hSt4 hq4
  rw [hd0] at cf
  clear hSt3 hq3 hT3 hb4 hB3 hSt4 hq4 hd0 hz4
  go_wp2_with fail
  refine cf.mono ?_
  rintro e5 w5 ⟨rfl, hx⟩
  obtain rfl := hx.symm
  clear hx cf
  have hT4' : w4.there w.heap.size 0 q.toArray.size := by rw [show q.toArray.size = 119 by simpa using lm]; exact hT4
  have r9 := World.rangeAt_setCells_same w4 w.heap.size 0 q (by have := hT4'; rwa [List.size_toArray] at this)
  have B9 := below_sets (Nat.le_refl w.heap.size) q 0 _ hB4
  have hrs := run_loadVar_mid (P := Tryz.prog) _ w.heap.size 0 37 q _ r9 Tryz.underlying37 rfl im
  go_wp2_with (first | (refine wpList_load_mid rfl 37 _ rfl _ _ rfl q _ r4 Tryz.underlying37 rfl im ?_) | (refine wpList_store_mid rfl 37 _ _ rfl _ _ q.toArray rfl rfl hT4' im' om ?_))
  try simp only [Act.put]
  exact bodyPost_ret (results_ct rfl _ _ _ rfl hrs) rfl ⟨rfl, B9⟩
theorem stat_str : strOf (statL 2 9) = ⟨#[1, 6, 1, 2, 1, 9]⟩ := by decide +kernel
theorem stat1 : numS (strL ⟨#[1, 6, 1, 2, 1, 9]⟩) 0 8 = (6, [1, 2, 1, 9], 0) := by decide +kernel
theorem stat2 : numS [1, 2, 1, 9] 0 1048576 = (2, [1, 9], 0) := by decide +kernel
theorem stat3 : numS [1, 9] 0 1099511627776 = (9, [], 0) := by decide +kernel
set_option maxRecDepth 100000 in
set_option maxHeartbeats 4000000 in
theorem lives13_any (w : World) : Calls Tryz.prog 6 #[] w fun er w' => er = .returned (.bool true) ∧ Below w.heap.size w w' := by
  have hm : (Ms.plain 6 2 9 Vt.zero zeros32).ok := Ms.plain_ok 6 2 9 Vt.zero_ok zeros32_len zeros32_byte
  have hz0 : Ms.zero.ok := Ms.plain_ok 0 0 0 Vt.zero_ok zeros32_len zeros32_byte
  have lm := hm.len
  have lz := hz0.len
  have om := all_oneCell_toArray hm.one
  have hz := zeroM
  have im' : (Tryz.prog.info? 37).map (·.size) = some (Ms.plain 6 2 9 Vt.zero zeros32).cells.toArray.size := by rw [List.size_toArray, lm]; exact iszM
  have hb := build_state 6 2 9
  have ce := fun w0 => enc6 w0
  have cd := fun w0 => dec6 ⟨#[1, 6, 1, 2, 1, 9]⟩ [1, 2, 1, 9] [1, 9] 2 9 w0 (by decide) stat1 stat2 stat3
  have hen : encV true (statL 2 9) = .tuple #[.string ⟨#[1, 6, 1, 2, 1, 9]⟩, .int .i64 0] := by unfold encV; rw [if_pos rfl, stat_str]
  rw [hen] at ce
  have hk4 : ∀ (w' : World) b, w'.rangeAt b 0 (Ms.plain 6 2 9 Vt.zero zeros32).cells → w'.cell? ⟨b, 4, none⟩ = some (.int .i64 9) := fun w' b h => (hm.at h).s
  clear hm hz0 hen
  generalize (Ms.plain 6 2 9 Vt.zero zeros32).cells = q at *
  generalize Ms.zero.cells = z at *
  go_enter Tryz.func6, Tryz.ntmps6
  go_wp2_with (refine wpList_build rfl 37 [(0, .const (.int .i64 6)), (1, .const (.int .i64 2)), (4, .const (.int .i64 9))] rfl [(0, .int .i64 6), (1, .int .i64 2), (4, .int .i64 9)] _ rfl (hb _) ?_)
  refine (ce _).mono ?_
  rintro e1 w1 ⟨rfl, hB1⟩
  clear ce hb
  go_wp2_with fail
  refine (cd _).mono ?_
  rintro e2 w2 ⟨rfl, hb2⟩
  have hB2 := hB1.trans (hb2.mono hB1.size)
  clear cd hb2 hB1
  obtain ⟨r4, hb4, hz4, _⟩ := fresh_store w2 z.toArray 37 q (by rw [List.size_toArray, lz, lm])
  have hTz : (w2.alloc (.cells z.toArray 37)).there w2.heap.size 0 q.toArray.size := by
    have := there_new w2 z.toArray 37
    rw [show z.toArray.size = 119 by simpa using lz] at this
    rw [show q.toArray.size = 119 by simpa using lm]
    exact this
  go_upto_region 3 with (refine wpList_store_mid rfl 37 _ _ rfl _ _ q.toArray rfl rfl hTz im' om ?_)
  go_name_world w4 hw4
  rw [show (w2.alloc (.cells z.toArray 37)).setCells w2.heap.size 0 q = w4 from hw4] at r4 hb4 hz4
  have c4 := hk4 _ _ r4
  have hB4 := hB2.trans (hb4.mono hB2.size)
  clear hw4 hTz r4 hb4 hz4 hB2
  go_wp2
  go_ret
  exact ⟨rfl, hB4⟩
end Go.Proofs.YtgjalkbianpibaaGreat
namespace Go.Proofs.YtgjalkbianpibaaGreat
open Go.RowKit
open Sha Tal
/-- a slice whose elements' cells are f's -/
def RowOf {α : Type} (f : α → List Value) (w : World) (a : Option Addr) (ys : List α) : Prop := ys = [] ∨ ∃ b off, a = some ⟨b, off, none⟩ ∧ b < w.heap.size ∧ w.rangeAt b off (ys.flatMap f)
theorem RowOf.below {α : Type} {f : α → List Value} {w w' : World} {a : Option Addr} {ys : List α} (h : RowOf f w a ys) (hb : Below w.heap.size w w') : RowOf f w' a ys := by
  rcases h with h | ⟨b, off, rfl, h1, h2⟩
  · exact .inl h
  · exact .inr ⟨b, off, rfl, Nat.lt_of_lt_of_le h1 hb.size, range_below h2 hb h1⟩
theorem flat_len_k {α : Type} {f : α → List Value} {k : Nat} {ys : List α} (h : ∀ y ∈ ys, (f y).length = k) : (ys.flatMap f).length = ys.length * k := by
  induction ys with
  | nil => simp
  | cons y ys ih =>
    have h1 := h y (by simp)
    have h2 := ih (fun x hx => h x (by simp [hx]))
    simp only [List.flatMap_cons, List.length_append, List.length_cons, Nat.add_mul, Nat.one_mul]
    omega
theorem RowOf.elem {α : Type} {f : α → List Value} {k : Nat} {w : World} {a : Option Addr} {ys : List α} (h : RowOf f w a ys) (hk : ∀ y ∈ ys, (f y).length = k) (i : Nat) (hi : i < ys.length) : ∃ b off, a = some ⟨b, off, none⟩ ∧ b < w.heap.size ∧ w.rangeAt b (off + i * k) (f ys[i]) := by
  rcases h with h0 | ⟨b, off, rfl, h1, h2⟩
  · subst h0; simp at hi
  · refine ⟨b, off, rfl, h1, ?_⟩
    have e : ys.take i ++ (ys[i] :: ys.drop (i + 1)) = ys := by rw [← List.drop_eq_getElem_cons hi, List.take_append_drop]
    have e2 : ys.flatMap f = (ys.take i).flatMap f ++ f ys[i] ++ (ys.drop (i + 1)).flatMap f := by
      have := congrArg (List.flatMap f) e
      rw [← this]
      simp only [List.flatMap_append, List.flatMap_cons, List.append_assoc]
    rw [e2] at h2
    have h3 := range_part h2
    rwa [flat_len_k (fun y hy => hk y (List.mem_of_mem_take hy)), List.length_take, Nat.min_eq_left (by omega)] at h3
/-- what a list has -/
structure El (α : Type) where
  f : α → List Value
  k : Nat
  ok : α → Prop
  len : ∀ y, ok y → (f y).length = k
  one : ∀ y, ∀ v ∈ f y, v.oneCell' = true
def RowsAt {α : Type} (E : El α) (w : World) (a : Option Addr) (ys : List α) : Prop := ys.length ≤ maxLen ∧ (∀ y ∈ ys, E.ok y) ∧ RowOf E.f w a ys
theorem RowsAt.below {α : Type} {E : El α} {w w' : World} {a : Option Addr} {ys : List α} (h : RowsAt E w a ys) (hb : Below w.heap.size w w') : RowsAt E w' a ys := ⟨h.1, h.2.1, h.2.2.below hb⟩
theorem RowsAt.elem {α : Type} {E : El α} {w : World} {a : Option Addr} {ys : List α} (h : RowsAt E w a ys) (i : Nat) (hi : i < ys.length) : ∃ b off, a = some ⟨b, off, none⟩ ∧ b < w.heap.size ∧ w.rangeAt b (off + i * E.k) (E.f ys[i]) := h.2.2.elem (fun y hy => E.len y (h.2.1 y hy)) i hi
theorem RowsAt.none {α : Type} {E : El α} {w : World} {a : Option Addr} : RowsAt E w a [] := ⟨by simp, by simp, .inl rfl⟩
theorem RowsAt.drew {α : Type} {E : El α} {w : World} {a : Option Addr} {ys : List α} (h : RowsAt E w a ys) : RowsAt E w.drew a ys := h.below ((Below.refl _ _).drew)
/-- signs -/
structure Sg where
  n : Int
  t : List Int
deriving Inhabited
structure Sg.ok (r : Sg) : Prop where
  tl : r.t.length = 16
  tb : ∀ z ∈ r.t, 0 ≤ z ∧ z < 256
  nl : -9223372036854775808 ≤ r.n
  nh : r.n ≤ 9223372036854775807
def Sg.cells (r : Sg) : List Value := .int .i64 r.n :: v8 r.t
def SgE : El Sg where
  f := Sg.cells
  k := 17
  ok := Sg.ok
  len := fun r h => by have := h.tl; simp [Sg.cells, v8]; omega
  one := fun r v hv => by
    rcases List.mem_cons.1 hv with rfl | hv
    · rfl
    · exact v8_one r.t v hv
/-- envelopes -/
structure Ev where
  n : Int
  s : ByteArray
  t : List Int
deriving Inhabited
structure Ev.ok (r : Ev) : Prop where
  tl : r.t.length = 16
  tb : ∀ z ∈ r.t, 0 ≤ z ∧ z < 256
  sl : r.s.size ≤ maxLen
  nl : -9223372036854775808 ≤ r.n
  nh : r.n ≤ 9223372036854775807
def Ev.cells (r : Ev) : List Value := .int .i64 r.n :: .string r.s :: v8 r.t
def EvE : El Ev where
  f := Ev.cells
  k := 18
  ok := Ev.ok
  len := fun r h => by have := h.tl; simp [Ev.cells, v8]; omega
  one := fun r v hv => by
    simp only [Ev.cells, List.mem_cons] at hv
    rcases hv with rfl | rfl | hv
    · rfl
    · rfl
    · exact v8_one r.t v hv
/-- requests -/
structure Rq where
  c : Int
  n : Int
  s : ByteArray
  t : List Int
deriving Inhabited
structure Rq.ok (r : Rq) : Prop where
  tl : r.t.length = 16
  tb : ∀ z ∈ r.t, 0 ≤ z ∧ z < 256
  sl : r.s.size ≤ maxLen
  cl : -9223372036854775808 ≤ r.c
  ch : r.c ≤ 9223372036854775807
  nl : -9223372036854775808 ≤ r.n
  nh : r.n ≤ 9223372036854775807
def Rq.cells (r : Rq) : List Value := .int .i64 r.c :: .int .i64 r.n :: .string r.s :: v8 r.t
def RqE : El Rq where
  f := Rq.cells
  k := 19
  ok := Rq.ok
  len := fun r h => by have := h.tl; simp [Rq.cells, v8]; omega
  one := fun r v hv => by
    simp only [Rq.cells, List.mem_cons] at hv
    rcases hv with rfl | rfl | rfl | hv
    · rfl
    · rfl
    · rfl
    · exact v8_one r.t v hv
theorem toList_iff {a b : ByteArray} : a.toList = b.toList ↔ a = b := by
  constructor
  · intro h
    rw [ByteArray.toList_eq, ByteArray.toList_eq] at h
    exact ByteArray.ext (Array.toList_inj.1 h)
  · intro h; rw [h]
theorem iszT : (Tryz.prog.info? 55).map (·.size) = some 16 := by kernel_rfl
theorem part_strV (w : World) (q : List Value) (i : Nat) (c : ByteArray) (h : q[i]? = some (.string c)) : (part 9 q.toArray i).run Tryz.prog w = .ok (.string c) w := by
  simp [part, isAgg, run_underlying Tryz.underlying9, h]
theorem part_tagV (w : World) (q : List Value) (i : Nat) (t : List Int) (h : List.take 16 (List.drop i q) = v8 t) : (part 55 q.toArray i).run Tryz.prog w = .ok (.agg (v8 t).toArray) w := by
  simp [part, isAgg, run_underlying Tryz.underlying55, run_size iszT, h]
theorem fldSg : (Tryz.prog.fieldsOf 78).toList.map (fun f => (f.name, f.type, f.offset)) = [("Node", 3, 0), ("Tag", 55, 1)] := by kernel_rfl
theorem undSg : Tryz.prog.underlying 78 = some (.struct (Tryz.prog.fieldsOf 78)) := by kernel_rfl
theorem sihSg : Tryz.prog.stoodInHeld 78 = false := by kernel_rfl
def Sg.B (x y : Sg) : Bool := (x.n == y.n) && ((x.t == y.t))
theorem Sg.B_iff {x y : Sg} : Sg.B x y = true ↔ x = y := by
  cases x
  cases y
  simp [Sg.B]
theorem Sg.eqIn (x y : Sg) (hx : x.t.length = 16) (hy : y.t.length = 16) (d : Nat) (w : World) :
    (Op.equalIn (d + 2 + 1) 78 (.agg x.cells.toArray) (.agg y.cells.toArray)).run Tryz.prog w = .ok (Sg.B x y) w := by
  rw [run_equalIn_struct w (d + 2) 78 _ _ undSg sihSg]
  have hf := fldSg
  generalize (Tryz.prog.fieldsOf 78).toList = fs at hf
  obtain ⟨f0, f1, rfl⟩ : ∃ f0 f1, fs = [f0, f1] := by
    rcases fs with _ | ⟨f0, _ | ⟨f1, _ | ⟨f2, fs⟩⟩⟩ <;> simp at hf
    exact ⟨f0, f1, rfl⟩
  simp only [List.map_cons, List.map_nil, List.cons.injEq, Prod.mk.injEq, and_true] at hf
  obtain ⟨⟨a0, b0, d0⟩, ⟨a1, b1, d1⟩⟩ := hf
  have p0 := part_intV w x.cells 0 x.n rfl
  have q0 := part_intV w y.cells 0 y.n rfl
  have p1 := part_tagV w x.cells 1 x.t (by show List.take 16 (v8 x.t) = v8 x.t; rw [List.take_of_length_le (by rw [v8_length, hx]; exact Nat.le_refl _)])
  have q1 := part_tagV w y.cells 1 y.t (by show List.take 16 (v8 y.t) = v8 y.t; rw [List.take_of_length_le (by rw [v8_length, hy]; exact Nat.le_refl _)])
  have eI := fun a b => run_equalIn_int (P := Tryz.prog) w (d + 1) 3 .i64 .i64 a b Tryz.underlying3
  have eT := run_equal8 (P := Tryz.prog) w d 55 5 16 Tryz.underlying55 Tryz.underlying5 isz8 x.t y.t hx hy
  unfold Sg.B
  generalize x.cells.toArray = q at *
  generalize y.cells.toArray = q' at *
  obtain ⟨T, hT⟩ : ∃ T, (v8 x.t).toArray = T := ⟨_, rfl⟩
  obtain ⟨T', hT'⟩ : ∃ T, (v8 y.t).toArray = T := ⟨_, rfl⟩
  rw [hT] at p1 eT
  rw [hT'] at q1 eT
  clear hT hT'
  obtain ⟨D, hD⟩ : ∃ D, d + 1 + 1 = D := ⟨_, rfl⟩
  have eT : (Op.equalIn (d + 1 + 1) 55 (.agg T) (.agg T')).run Tryz.prog w = .ok (x.t == y.t) w := eT
  rw [hD] at eT
  have n0 : ¬ ("Node" = "_") := by decide
  have n1 : ¬ ("Tag" = "_") := by decide
  simp only [Op.eqFields, a0, b0, d0, a1, b1, d1, ne_eq, n0, n1, not_false_eq_true, if_true]
  rw [show d + 2 = d + 1 + 1 from rfl, hD]
  rw [hD] at eI
  clear hD
  simp only [Sem.run_bind, p0, q0, Result.andThen_ok, eI]
  cases (x.n == y.n)
  · simp only [Bool.not_false, if_true, Sem.run_pure, Bool.false_and]
  · simp only [Bool.not_true, Bool.false_eq_true, if_false, Sem.run_bind, p1, q1, Result.andThen_ok, eT, Bool.true_and]
    cases (x.t == y.t)
    · simp only [Bool.not_false, if_true, Sem.run_pure]
    · simp only [Bool.not_true, Bool.false_eq_true, if_false, Sem.run_pure]
theorem Sg.eq10 (x y : Sg) (hx : x.ok) (hy : y.ok) (w : World) : (Op.equalIn 10000 78 (.agg x.cells.toArray) (.agg y.cells.toArray)).run Tryz.prog w = .ok (Sg.B x y) w := Sg.eqIn x y hx.tl hy.tl 9997 w
end Go.Proofs.YtgjalkbianpibaaGreat
namespace Go.Proofs.YtgjalkbianpibaaGreat
open Go.RowKit
open Sha Tal
theorem fldEv : (Tryz.prog.fieldsOf 57).toList.map (fun f => (f.name, f.type, f.offset)) = [("From", 3, 0), ("Body", 9, 1), ("Tag", 55, 2)] := by kernel_rfl
theorem undEv : Tryz.prog.underlying 57 = some (.struct (Tryz.prog.fieldsOf 57)) := by kernel_rfl
theorem sihEv : Tryz.prog.stoodInHeld 57 = false := by kernel_rfl
def Ev.B (x y : Ev) : Bool := (x.n == y.n) && ((x.s.toList == y.s.toList) && ((x.t == y.t)))
theorem Ev.B_iff {x y : Ev} : Ev.B x y = true ↔ x = y := by
  cases x
  cases y
  simp [Ev.B, toList_iff]
theorem Ev.eqIn (x y : Ev) (hx : x.t.length = 16) (hy : y.t.length = 16) (d : Nat) (w : World) :
    (Op.equalIn (d + 2 + 1) 57 (.agg x.cells.toArray) (.agg y.cells.toArray)).run Tryz.prog w = .ok (Ev.B x y) w := by
  rw [run_equalIn_struct w (d + 2) 57 _ _ undEv sihEv]
  have hf := fldEv
  generalize (Tryz.prog.fieldsOf 57).toList = fs at hf
  obtain ⟨f0, f1, f2, rfl⟩ : ∃ f0 f1 f2, fs = [f0, f1, f2] := by
    rcases fs with _ | ⟨f0, _ | ⟨f1, _ | ⟨f2, _ | ⟨f3, fs⟩⟩⟩⟩ <;> simp at hf
    exact ⟨f0, f1, f2, rfl⟩
  simp only [List.map_cons, List.map_nil, List.cons.injEq, Prod.mk.injEq, and_true] at hf
  obtain ⟨⟨a0, b0, d0⟩, ⟨a1, b1, d1⟩, ⟨a2, b2, d2⟩⟩ := hf
  have p0 := part_intV w x.cells 0 x.n rfl
  have q0 := part_intV w y.cells 0 y.n rfl
  have p1 := part_strV w x.cells 1 x.s rfl
  have q1 := part_strV w y.cells 1 y.s rfl
  have p2 := part_tagV w x.cells 2 x.t (by show List.take 16 (v8 x.t) = v8 x.t; rw [List.take_of_length_le (by rw [v8_length, hx]; exact Nat.le_refl _)])
  have q2 := part_tagV w y.cells 2 y.t (by show List.take 16 (v8 y.t) = v8 y.t; rw [List.take_of_length_le (by rw [v8_length, hy]; exact Nat.le_refl _)])
  have eI := fun a b => run_equalIn_int (P := Tryz.prog) w (d + 1) 3 .i64 .i64 a b Tryz.underlying3
  have eS := fun a b => run_equalIn_string (P := Tryz.prog) w (d + 1) 9 a b Tryz.underlying9
  have eT := run_equal8 (P := Tryz.prog) w d 55 5 16 Tryz.underlying55 Tryz.underlying5 isz8 x.t y.t hx hy
  unfold Ev.B
  generalize x.cells.toArray = q at *
  generalize y.cells.toArray = q' at *
  obtain ⟨T, hT⟩ : ∃ T, (v8 x.t).toArray = T := ⟨_, rfl⟩
  obtain ⟨T', hT'⟩ : ∃ T, (v8 y.t).toArray = T := ⟨_, rfl⟩
  rw [hT] at p2 eT
  rw [hT'] at q2 eT
  clear hT hT'
  obtain ⟨D, hD⟩ : ∃ D, d + 1 + 1 = D := ⟨_, rfl⟩
  have eT : (Op.equalIn (d + 1 + 1) 55 (.agg T) (.agg T')).run Tryz.prog w = .ok (x.t == y.t) w := eT
  rw [hD] at eT
  have n0 : ¬ ("From" = "_") := by decide
  have n1 : ¬ ("Body" = "_") := by decide
  have n2 : ¬ ("Tag" = "_") := by decide
  simp only [Op.eqFields, a0, b0, d0, a1, b1, d1, a2, b2, d2, ne_eq, n0, n1, n2, not_false_eq_true, if_true]
  rw [show d + 2 = d + 1 + 1 from rfl, hD]
  rw [hD] at eI
  simp only [hD] at eS
  clear hD
  simp only [Sem.run_bind, p0, q0, Result.andThen_ok, eI]
  cases (x.n == y.n)
  · simp only [Bool.not_false, if_true, Sem.run_pure, Bool.false_and]
  · simp only [Bool.not_true, Bool.false_eq_true, if_false, Sem.run_bind, p1, q1, Result.andThen_ok, eS, Bool.true_and]
    cases (x.s.toList == y.s.toList)
    · simp only [Bool.not_false, if_true, Sem.run_pure, Bool.false_and]
    · simp only [Bool.not_true, Bool.false_eq_true, if_false, Sem.run_bind, p2, q2, Result.andThen_ok, eT, Bool.true_and]
      cases (x.t == y.t)
      · simp only [Bool.not_false, if_true, Sem.run_pure]
      · simp only [Bool.not_true, Bool.false_eq_true, if_false, Sem.run_pure]
theorem Ev.eq10 (x y : Ev) (hx : x.ok) (hy : y.ok) (w : World) : (Op.equalIn 10000 57 (.agg x.cells.toArray) (.agg y.cells.toArray)).run Tryz.prog w = .ok (Ev.B x y) w := Ev.eqIn x y hx.tl hy.tl 9997 w
theorem fldRq : (Tryz.prog.fieldsOf 93).toList.map (fun f => (f.name, f.type, f.offset)) = [("Client", 3, 0), ("Num", 3, 1), ("Data", 9, 2), ("Tag", 55, 3)] := by kernel_rfl
theorem undRq : Tryz.prog.underlying 93 = some (.struct (Tryz.prog.fieldsOf 93)) := by kernel_rfl
theorem sihRq : Tryz.prog.stoodInHeld 93 = false := by kernel_rfl
def Rq.B (x y : Rq) : Bool := (x.c == y.c) && ((x.n == y.n) && ((x.s.toList == y.s.toList) && ((x.t == y.t))))
theorem Rq.B_iff {x y : Rq} : Rq.B x y = true ↔ x = y := by
  cases x
  cases y
  simp [Rq.B, toList_iff]
theorem Rq.eqIn (x y : Rq) (hx : x.t.length = 16) (hy : y.t.length = 16) (d : Nat) (w : World) :
    (Op.equalIn (d + 2 + 1) 93 (.agg x.cells.toArray) (.agg y.cells.toArray)).run Tryz.prog w = .ok (Rq.B x y) w := by
  rw [run_equalIn_struct w (d + 2) 93 _ _ undRq sihRq]
  have hf := fldRq
  generalize (Tryz.prog.fieldsOf 93).toList = fs at hf
  obtain ⟨f0, f1, f2, f3, rfl⟩ : ∃ f0 f1 f2 f3, fs = [f0, f1, f2, f3] := by
    rcases fs with _ | ⟨f0, _ | ⟨f1, _ | ⟨f2, _ | ⟨f3, _ | ⟨f4, fs⟩⟩⟩⟩⟩ <;> simp at hf
    exact ⟨f0, f1, f2, f3, rfl⟩
  simp only [List.map_cons, List.map_nil, List.cons.injEq, Prod.mk.injEq, and_true] at hf
  obtain ⟨⟨a0, b0, d0⟩, ⟨a1, b1, d1⟩, ⟨a2, b2, d2⟩, ⟨a3, b3, d3⟩⟩ := hf
  have p0 := part_intV w x.cells 0 x.c rfl
  have q0 := part_intV w y.cells 0 y.c rfl
  have p1 := part_intV w x.cells 1 x.n rfl
  have q1 := part_intV w y.cells 1 y.n rfl
  have p2 := part_strV w x.cells 2 x.s rfl
  have q2 := part_strV w y.cells 2 y.s rfl
  have p3 := part_tagV w x.cells 3 x.t (by show List.take 16 (v8 x.t) = v8 x.t; rw [List.take_of_length_le (by rw [v8_length, hx]; exact Nat.le_refl _)])
  have q3 := part_tagV w y.cells 3 y.t (by show List.take 16 (v8 y.t) = v8 y.t; rw [List.take_of_length_le (by rw [v8_length, hy]; exact Nat.le_refl _)])
  have eI := fun a b => run_equalIn_int (P := Tryz.prog) w (d + 1) 3 .i64 .i64 a b Tryz.underlying3
  have eS := fun a b => run_equalIn_string (P := Tryz.prog) w (d + 1) 9 a b Tryz.underlying9
  have eT := run_equal8 (P := Tryz.prog) w d 55 5 16 Tryz.underlying55 Tryz.underlying5 isz8 x.t y.t hx hy
  unfold Rq.B
  generalize x.cells.toArray = q at *
  generalize y.cells.toArray = q' at *
  obtain ⟨T, hT⟩ : ∃ T, (v8 x.t).toArray = T := ⟨_, rfl⟩
  obtain ⟨T', hT'⟩ : ∃ T, (v8 y.t).toArray = T := ⟨_, rfl⟩
  rw [hT] at p3 eT
  rw [hT'] at q3 eT
  clear hT hT'
  obtain ⟨D, hD⟩ : ∃ D, d + 1 + 1 = D := ⟨_, rfl⟩
  have eT : (Op.equalIn (d + 1 + 1) 55 (.agg T) (.agg T')).run Tryz.prog w = .ok (x.t == y.t) w := eT
  rw [hD] at eT
  have n0 : ¬ ("Client" = "_") := by decide
  have n1 : ¬ ("Num" = "_") := by decide
  have n2 : ¬ ("Data" = "_") := by decide
  have n3 : ¬ ("Tag" = "_") := by decide
  simp only [Op.eqFields, a0, b0, d0, a1, b1, d1, a2, b2, d2, a3, b3, d3, ne_eq, n0, n1, n2, n3, not_false_eq_true, if_true]
  rw [show d + 2 = d + 1 + 1 from rfl, hD]
  rw [hD] at eI
  simp only [hD] at eS
  clear hD
  simp only [Sem.run_bind, p0, q0, Result.andThen_ok, eI]
  cases (x.c == y.c)
  · simp only [Bool.not_false, if_true, Sem.run_pure, Bool.false_and]
  · simp only [Bool.not_true, Bool.false_eq_true, if_false, Sem.run_bind, p1, q1, Result.andThen_ok, eI, Bool.true_and]
    cases (x.n == y.n)
    · simp only [Bool.not_false, if_true, Sem.run_pure, Bool.false_and]
    · simp only [Bool.not_true, Bool.false_eq_true, if_false, Sem.run_bind, p2, q2, Result.andThen_ok, eS, Bool.true_and]
      cases (x.s.toList == y.s.toList)
      · simp only [Bool.not_false, if_true, Sem.run_pure, Bool.false_and]
      · simp only [Bool.not_true, Bool.false_eq_true, if_false, Sem.run_bind, p3, q3, Result.andThen_ok, eT, Bool.true_and]
        cases (x.t == y.t)
        · simp only [Bool.not_false, if_true, Sem.run_pure]
        · simp only [Bool.not_true, Bool.false_eq_true, if_false, Sem.run_pure]
theorem Rq.eq10 (x y : Rq) (hx : x.ok) (hy : y.ok) (w : World) : (Op.equalIn 10000 93 (.agg x.cells.toArray) (.agg y.cells.toArray)).run Tryz.prog w = .ok (Rq.B x y) w := Rq.eqIn x y hx.tl hy.tl 9997 w
end Go.Proofs.YtgjalkbianpibaaGreat
namespace Go.Proofs.YtgjalkbianpibaaGreat
open Go.RowKit
open Sha Tal
def sameL {α : Type} (B : α → α → Bool) : List α → List α → Bool
  | [], [] => true
  | x :: xs, y :: ys => B x y && sameL B xs ys
  | _, _ => false
theorem sameL_iff {α : Type} {B : α → α → Bool} (h : ∀ x y, B x y = true ↔ x = y) : ∀ xs ys : List α, sameL B xs ys = true ↔ xs = ys
  | [], [] => by simp [sameL]
  | x :: xs, y :: ys => by simp [sameL, h, sameL_iff h xs ys]
  | [], _ :: _ => by simp [sameL]
  | _ :: _, [] => by simp [sameL]
end Go.Proofs.YtgjalkbianpibaaGreat
namespace Go.Proofs.YtgjalkbianpibaaGreat
open Go.RowKit
open Sha Tal
theorem two_boxG (q q' : List Value) (t : TypeId) (w : World) : ((w.alloc (.cells q.toArray t)).alloc (.cells q'.toArray t)).rangeAt w.heap.size 0 q ∧ ((w.alloc (.cells q.toArray t)).alloc (.cells q'.toArray t)).rangeAt (w.heap.size + 1) 0 q' ∧ Below w.heap.size w ((w.alloc (.cells q.toArray t)).alloc (.cells q'.toArray t)) ∧ w.heap.size + 2 ≤ ((w.alloc (.cells q.toArray t)).alloc (.cells q'.toArray t)).heap.size := by
  have hB : Below w.heap.size w (w.alloc (.cells q.toArray t)) := (Below.refl _ _).alloc (Nat.le_refl _) _
  have hB2 : Below (w.alloc (.cells q.toArray t)).heap.size (w.alloc (.cells q.toArray t)) ((w.alloc (.cells q.toArray t)).alloc (.cells q'.toArray t)) := (Below.refl _ _).alloc (Nat.le_refl _) _
  have h1 := range_new w q.toArray t
  have h2 := range_new (w.alloc (.cells q.toArray t)) q'.toArray t
  rw [World.size_alloc] at h2
  exact ⟨range_below (by simpa using h1) hB2 (by simp), by simpa using h2, hB.trans (hB2.mono (by simp)), by simp⟩
/-- a slice and what lies in it -/
structure Sl (α : Type) where
  a : Option Addr
  cap : Nat
  xs : List α
instance {α : Type} : Inhabited (Sl α) := ⟨⟨none, 0, []⟩⟩
def Sl.val {α : Type} (x : Sl α) : Value := .slice x.a x.xs.length x.cap
def Sl.At {α : Type} (E : El α) (w : World) (x : Sl α) : Prop := RowsAt E w x.a x.xs
theorem Sl.At.below {α : Type} {E : El α} {w w' : World} {x : Sl α} (h : x.At E w) (hb : Below w.heap.size w w') : x.At E w' := RowsAt.below h hb
def batB (q : Bool) (x : Sl Rq) (q' : Bool) (x' : Sl Rq) : Bool := (q == q') && sameL Rq.B x.xs x'.xs
def certL (x : Vt) (s : Sl Sg) : List Value := x.cells ++ [s.val]
def certB (x : Vt) (s : Sl Sg) (y : Vt) (t : Sl Sg) : Bool := vtB x y && sameL Sg.B s.xs t.xs
theorem Sl.one {α : Type} (x : Sl α) : x.val.oneCell' = true := rfl
end Go.Proofs.YtgjalkbianpibaaGreat
namespace Go.Proofs.YtgjalkbianpibaaGreat
open Go.RowKit
open Sha Tal
/-- a batch that was held, and its cert -/
structure Hd where
  q : Bool
  rs : Sl Rq
  vt : Vt
  sg : Sl Sg
instance : Inhabited Hd := ⟨⟨false, default, Vt.zero, default⟩⟩
def Hd.cells (h : Hd) : List Value := .bool h.q :: h.rs.val :: certL h.vt h.sg
def HdE : El Hd where
  f := Hd.cells
  k := 39
  ok := fun h => h.vt.ok
  len := fun h hv => by have := hv.len; simp [Hd.cells, certL]; omega
  one := fun h v hv => by
    simp only [Hd.cells, certL, List.mem_cons, List.mem_append, List.not_mem_nil, or_false] at hv
    rcases hv with rfl | rfl | hv | rfl
    · rfl
    · rfl
    · exact Vt.one _ v hv
    · rfl
def Hd.At (w : World) (h : Hd) : Prop := h.rs.At RqE w ∧ h.sg.At SgE w
theorem Hd.At.below {w w' : World} {h : Hd} (k : h.At w) (hb : Below w.heap.size w w') : h.At w' := ⟨k.1.below hb, k.2.below hb⟩
def Hd.B (h g : Hd) : Bool := batB h.q h.rs g.q g.rs && certB h.vt h.sg g.vt g.sg
theorem iszH : (Tryz.prog.info? 53).map (·.size) = some 39 := by kernel_rfl
end Go.Proofs.YtgjalkbianpibaaGreat
namespace Go.Proofs.YtgjalkbianpibaaGreat
open Go.RowKit
open Sha Tal
set_option linter.unusedVariables false
set_option linter.unusedSimpArgs false
theorem owns_mono {w : World} {B B' : Nat} {e : TypeId} {v : Value} {n : Nat} {xs : List Value} (h : w.ownsRow B e 1 v n xs) (hB : B' ≤ B) : w.ownsRow B' e 1 v n xs := by
  refine ⟨h.1, ?_⟩
  rcases h.2 with h | ⟨g, cap, cur, hv, hg, r⟩
  · exact .inl h
  · exact .inr ⟨g, cap, cur, hv, Nat.le_trans hB hg, r⟩
def reqL (c n : Int) (s : ByteArray) (t : List Int) : List Value := .int .i64 c :: .int .i64 n :: .string s :: v8 t
theorem req_cells (w : World) (c n : Int) (s : ByteArray) (t : List Int) : (w.alloc (.cells (reqL c n s t).toArray 93)).rangeAt w.heap.size 0 (reqL c n s t) := by
  have := range_new w (reqL c n s t).toArray 93
  simpa using this
theorem reqL_0 {w : World} {b : Nat} {c n : Int} {s : ByteArray} {t : List Int} (h : w.rangeAt b 0 (reqL c n s t)) : w.cell? ⟨b, 0, none⟩ = some (.int .i64 c) ∧ w.cell? ⟨b, 1, none⟩ = some (.int .i64 n) ∧ w.cell? ⟨b, 2, none⟩ = some (.string s) :=
  ⟨h 0 _ rfl, h 1 _ rfl, h 2 _ rfl⟩
set_option maxRecDepth 100000 in
set_option maxHeartbeats 2000000 in
theorem fields_any (a : Option Addr) (cap : Nat) (zs : List Int) (c n : Int) (s : ByteArray) (t : List Int) (w : World) (h : RowAt w a zs) (hm : zs.length ≤ 1000000) (hc : c ≤ 9223372036854775807) (hn : n ≤ 9223372036854775807) (hs : s.size ≤ 1000000) :
   Calls Tryz.prog 139 #[.slice a zs.length cap, .agg (reqL c n s t).toArray] w fun e w' => ∃ v, e = .returned v ∧ Mine w' w.heap.size v (zs ++ putL c ++ putL n ++ textL s) ∧ Below w.heap.size w w' := by
  have hB1 : Below w.heap.size w (w.alloc (.cells (reqL c n s t).toArray 93)) := (Below.refl _ _).alloc (Nat.le_refl _) _
  have hR1 := req_cells w c n s t
  have hz1 : w.heap.size < (w.alloc (.cells (reqL c n s t).toArray 93)).heap.size := by simp
  have hlc := putL_length c (by omega)
  have hln := putL_length n (by omega)
  obtain ⟨q, hq⟩ : ∃ q, Hid (reqL c n s t = q) := ⟨_, rfl⟩
  rw [hq.out] at hB1 hz1 ⊢
  rw [hq.out] at hR1
  obtain ⟨z1, hz1'⟩ : ∃ z1, Hid (zs ++ putL c = z1) := ⟨_, rfl⟩
  obtain ⟨z2, hz2'⟩ : ∃ z2, Hid (z1 ++ putL n = z2) := ⟨_, rfl⟩
  have l1 : z1.length ≤ 1000009 := by rw [← hz1'.out, List.length_append]; omega
  have l2 : z2.length ≤ 1000018 := by rw [← hz2'.out, List.length_append]; omega
  rw [hz1'.out, hz2'.out]
  clear hlc hln
  go_enter Tryz.func139, Tryz.ntmps139
  go_wp2_with fail
  go_name_world w1 hw1
  rw [show w.alloc (.cells q.toArray 93) = w1 from hw1] at hB1 hR1 hz1
  clear hw1
  have hB4 := hB1.drew
  have hR4 : w1.drew.rangeAt w.heap.size 0 q := (World.rangeAt_drew _ _ _ _).2 hR1
  have hz4 : w.heap.size < w1.drew.heap.size := hz1
  have h4 := h.below hB4
  clear hB1 hR1 hz1
  obtain ⟨X, hX⟩ : ∃ X, Hid (w.heap.size = X) := ⟨_, rfl⟩
  rw [hX.out] at hR4 hz4 ⊢
  obtain ⟨w5, hw5⟩ : ∃ w5, w1.drew = w5 := ⟨_, rfl⟩
  rw [hw5] at hB4 hR4 hz4 h4
  have cells : ∀ w', Below w5.heap.size w5 w' → w'.cell? ⟨X, 0, none⟩ = some (.int .i64 c) ∧ w'.cell? ⟨X, 1, none⟩ = some (.int .i64 n) ∧ w'.cell? ⟨X, 2, none⟩ = some (.string s) := fun w' hw' => by
    have := range_below hR4 hw' hz4
    rw [← hq.out] at this
    exact reqL_0 this
  refine hs_begin (S := (Below w5.heap.size w5)) 11 rfl (by kernel_rfl) ?_
  rw [hw5]
  clear hw5 hR4
  have hS : (Below w5.heap.size w5) w5 := Below.refl _ _
  refine hs_take (i := 0) (d := some 5) (v := ?_) rfl (by kernel_rfl) (by kernel_rfl) (by kernel_rfl) (by rfl) ?_ hS rfl ?_
  rotate_left
  · intro w' hw
    go_simp
    try with_reducible rfl
  simp only [Act.put, List.setIfInBounds_toArray, List.set_cons_zero, List.set_cons_succ]
  refine hs_take (i := 1) (d := some 6) (v := ?_) rfl (by kernel_rfl) (by kernel_rfl) (by kernel_rfl) (by rfl) ?_ hS rfl ?_
  rotate_left
  · intro w' hw
    go_simp
    try with_reducible rfl
  simp only [Act.put, List.setIfInBounds_toArray, List.set_cons_zero, List.set_cons_succ]
  refine hs_take (i := 2) (d := some 7) (v := ?_) rfl (by kernel_rfl) (by kernel_rfl) (by kernel_rfl) (by rfl) ?_ hS rfl ?_
  rotate_left
  · intro w' hw
    have hc := (cells w' hw).1
    go_simp
    try with_reducible rfl
  simp only [Act.put, List.setIfInBounds_toArray, List.set_cons_zero, List.set_cons_succ]
  refine hs_take (i := 4) (d := some 9) (v := ?_) rfl (by kernel_rfl) (by kernel_rfl) (by kernel_rfl) (by rfl) ?_ hS rfl ?_
  rotate_left
  · intro w' hw
    go_simp
    try with_reducible rfl
  simp only [Act.put, List.setIfInBounds_toArray, List.set_cons_zero, List.set_cons_succ]
  refine hs_take (i := 5) (d := some 10) (v := ?_) rfl (by kernel_rfl) (by kernel_rfl) (by kernel_rfl) (by rfl) ?_ hS rfl ?_
  rotate_left
  · intro w' hw
    have hc := (cells w' hw).2.1
    go_simp
    try with_reducible rfl
  simp only [Act.put, List.setIfInBounds_toArray, List.set_cons_zero, List.set_cons_succ]
  refine hs_take (i := 7) (d := some 12) (v := ?_) rfl (by kernel_rfl) (by kernel_rfl) (by kernel_rfl) (by rfl) ?_ hS rfl ?_
  rotate_left
  · intro w' hw
    go_simp
    try with_reducible rfl
  simp only [Act.put, List.setIfInBounds_toArray, List.set_cons_zero, List.set_cons_succ]
  refine hs_take (i := 8) (d := some 13) (v := ?_) rfl (by kernel_rfl) (by kernel_rfl) (by kernel_rfl) (by rfl) ?_ hS rfl ?_
  rotate_left
  · intro w' hw
    have hc := (cells w' hw).2.2
    go_simp
    try with_reducible rfl
  simp only [Act.put, List.setIfInBounds_toArray, List.set_cons_zero, List.set_cons_succ]
  clear cells
  have c6 := put_any a cap zs c w5 h4 (by omega) hc
  rw [hz1'.out] at c6
  refine hs_call (i := 3) (d := some 8) rfl (by kernel_rfl) (by rfl) (by go_simp; first | done | exact ⟨rfl, rfl⟩ | with_reducible rfl) rfl ?_
  refine (c6).mono ?_
  rintro e' w6 ⟨v6, rfl, hM6, hw6⟩
  have hS : (Below w5.heap.size w5) w6 := hS.trans (hw6.mono hS.size)
  refine ⟨_, rfl, hS, ?_⟩
  simp only [Act.put, List.setIfInBounds_toArray, List.set_cons_zero, List.set_cons_succ]
  obtain ⟨a6, cap6, rfl, _, _, hrow6⟩ := hM6.rowAt (by unfold maxLen; omega)
  clear c6 hM6 hw6
  have c7 := put_any a6 cap6 z1 n w6 hrow6 (by omega) hn
  rw [hz2'.out] at c7
  refine hs_call (i := 6) (d := some 11) rfl (by kernel_rfl) (by rfl) (by go_simp; first | done | exact ⟨rfl, rfl⟩ | with_reducible rfl) rfl ?_
  refine (c7).mono ?_
  rintro e' w7 ⟨v7, rfl, hM7, hw7⟩
  have hS : (Below w5.heap.size w5) w7 := hS.trans (hw7.mono hS.size)
  refine ⟨_, rfl, hS, ?_⟩
  simp only [Act.put, List.setIfInBounds_toArray, List.set_cons_zero, List.set_cons_succ]
  obtain ⟨a7, cap7, rfl, _, _, hrow7⟩ := hM7.rowAt (by unfold maxLen; omega)
  have hs7 : w5.heap.size ≤ w7.heap.size := hS.size
  clear c7 hM7 hw7 hrow6
  have c8 := putText_any a7 cap7 z2 s w7 hrow7 (by omega) (by omega)
  refine hs_call (i := 9) (d := some 14) rfl (by kernel_rfl) (by rfl) (by go_simp; first | done | exact ⟨rfl, rfl⟩ | with_reducible rfl) rfl ?_
  refine (c8).mono ?_
  rintro e' w8 ⟨v8, rfl, hM8, hw8⟩
  have hS : (Below w5.heap.size w5) w8 := hS.trans (hw8.mono hS.size)
  refine ⟨_, rfl, hS, ?_⟩
  simp only [Act.put, List.setIfInBounds_toArray, List.set_cons_zero, List.set_cons_succ]
  have hfin := hB4.trans (hS.mono hB4.size)
  have hM9 : Mine w8 w.heap.size v8 (z2 ++ textL s) := ⟨owns_mono hM8.1 (by have := hB4.size; omega), hM8.2⟩
  clear c8 hM8 hw8 hrow7
  refine hs_take (i := 10) (d := some 4) (v := ?_) rfl (by kernel_rfl) (by kernel_rfl) (by kernel_rfl) (by rfl) ?_ hS rfl ?_
  rotate_left
  · intro w' hw
    go_simp
    try with_reducible rfl
  simp only [Act.put, List.setIfInBounds_toArray, List.set_cons_zero, List.set_cons_succ]
  refine hs_done (by kernel_rfl) ?_
  go_wp2
  go_ret
  exact ⟨_, rfl, hM9, hfin⟩
theorem reqL_length (c n : Int) (s : ByteArray) (t : List Int) (ht : t.length = 16) : (reqL c n s t).length = 19 := by simp [reqL, v8_length, ht]
theorem iszR : (Tryz.prog.info? 93).map (·.size) = some 19 := by kernel_rfl
theorem reqL_one (c n : Int) (s : ByteArray) (t : List Int) : ∀ v ∈ reqL c n s t, v.oneCell' = true := by
  intro v hv
  simp only [reqL, List.mem_cons] at hv
  rcases hv with rfl | rfl | rfl | hv
  · rfl
  · rfl
  · rfl
  · exact v8_one t v hv
theorem reqL_tag {w : World} {b : Nat} {c n : Int} {s : ByteArray} {t : List Int} (h : w.rangeAt b 0 (reqL c n s t)) : w.rangeAt b 3 (v8 t) := by
  have e : reqL c n s t = [.int .i64 c, .int .i64 n, .string s] ++ v8 t := rfl
  rw [e] at h
  exact range_right h
set_option maxRecDepth 100000 in
set_option maxHeartbeats 2000000 in
theorem rput_any (a : Option Addr) (cap : Nat) (zs : List Int) (c n : Int) (s : ByteArray) (t : List Int) (w : World) (h : RowAt w a zs) (hz : zs.length ≤ 1000000) (ht : t.length = 16) (htb : ∀ z ∈ t, 0 ≤ z ∧ z < 256) (hc : c ≤ 9223372036854775807) (hn : n ≤ 9223372036854775807) (hs : s.size ≤ 1000000) :
   Calls Tryz.prog 138 #[.slice a zs.length cap, .agg (reqL c n s t).toArray] w fun e w' => ∃ v, e = .returned v ∧ Mine w' w.heap.size v (zs ++ (putL c ++ putL n ++ textL s) ++ t) ∧ Below w.heap.size w w' := by
  obtain ⟨i0, hi, hz0, hz1, hz2⟩ := info_parts info8
  have hB1 : Below w.heap.size w (w.alloc (.cells (reqL c n s t).toArray 93)) := (Below.refl _ _).alloc (Nat.le_refl _) _
  have hR1 := req_cells w c n s t
  have hz1' : w.heap.size < (w.alloc (.cells (reqL c n s t).toArray 93)).heap.size := by simp
  have hiq : (Tryz.prog.info? 93).map (·.size) = some (reqL c n s t).length := by rw [reqL_length c n s t ht]; exact iszR
  have cf := fun w0 => fields_any none 0 [] c n s t w0 (nil_row w0) (by simp) hc hn hs
  simp only [List.nil_append, List.length_nil] at cf
  have htg := fun (w0 : World) (b0 : Nat) h1 => @reqL_tag w0 b0 c n s t h1
  have lF : (putL c ++ putL n ++ textL s).length ≤ 1000100 := by
    have h1 := putL_length c (by omega)
    have h2 := putL_length n (by omega)
    have h3 := putL_length s.size (by omega)
    simp only [textL, List.length_append, strL_length]
    omega
  obtain ⟨F, hF⟩ : ∃ F, Hid (putL c ++ putL n ++ textL s = F) := ⟨_, hide rfl⟩
  simp only [hF.out] at cf
  rw [hF.out] at lF ⊢
  obtain ⟨q, hq⟩ : ∃ q, Hid (reqL c n s t = q) := ⟨_, hide rfl⟩
  rw [hq.out] at hB1 hR1 hz1' hiq ⊢
  simp only [hq.out] at cf htg
  go_enter Tryz.func138, Tryz.ntmps138
  go_upto_region 1 with fail
  go_name_world w1 hw1
  rw [hw1] at hB1 hR1 hz1'
  clear hw1
  obtain ⟨X, hX⟩ : ∃ X, Hid (w.heap.size = X) := ⟨_, hide rfl⟩
  rw [hX.out] at hR1 hz1' ⊢
  try simp only [Act.put]
  refine wp_region_list ?_
  refine wpList_load_mid rfl 93 _ rfl _ _ rfl q _ hR1 Tryz.underlying93 rfl hiq ?_
  go_wp2_with fail
  refine (cf w1).mono ?_
  rintro e w2 ⟨v2, rfl, m2, hw2⟩
  have hB2 := hB1.trans (hw2.mono hB1.size)
  have hR2 := range_below hR1 hw2 hz1'
  have hX2 := Nat.lt_of_lt_of_le hz1' hw2.size
  obtain ⟨a2, cap2, rfl, _, _, row2⟩ := m2.rowAt (by unfold maxLen; omega)
  have mF := m2.2
  clear cf m2 hw2 hB1 hR1 hz1'
  go_wp2_with (first
    | refine wpList_make_own _ rfl _ _ 59 rfl w2.heap.size 5 i0 (.int .u8 0) 1 Tryz.underlying59 hi hz0 hz1 .i64 .i64 _ (zs.length + F.length + 16) rfl rfl ?d1 ?d2 ?d3 ?d4 ?_)
  case d1 => omega
  case d2 => rw [hz2]; omega
  case d3 => unfold maxLen; omega
  case d4 => exact Nat.le_refl _
  intro w3 hown3 hgrow3
  have hb3 : Below w2.heap.size w2 w3 := (Below.refl _ _).grown hgrow3 (Nat.le_refl _) (fun k hk => by cases hk)
  go_wp2_with (at_builtin; refine wpList_append_own_src _ rfl _ _ 59 59 rfl w2.heap.size 5 i0 (.int .u8 0) 1 1 Tryz.underlying59 hi hz0 hz1 hz2 rfl _ 0 [] rfl hown3 (.slice a zs.length cap) zs.length (v8 zs) rfl ((h.below (hB2.trans (hb3.mono hB2.size))).src cap) ?c1 ?c2 ?c3 ?_)
  case c1 => unfold maxLen; omega
  case c2 => omega
  case c3 => exact hb3.size
  intro v4 w4 hown4 hgrow4
  have hb4 := below_grown hb3 hb3.size hown3 hgrow4
  have hown4' : w4.ownsRow w2.heap.size 5 1 v4 zs.length (v8 zs) := by simpa using hown4
  obtain ⟨b4, cp4, rfl⟩ : ∃ b cp, v4 = .slice b zs.length cp := by
    rcases hown4'.2 with ⟨rfl, h0⟩ | ⟨g, cp, cur, rfl, _⟩
    · exact ⟨none, 0, by rw [h0]⟩
    · exact ⟨_, _, rfl⟩
  clear hown3 hgrow3 hown4 hgrow4 hb3
  go_wp2_with (at_builtin; refine wpList_append_own_src _ rfl _ _ 59 59 rfl w2.heap.size 5 i0 (.int .u8 0) 1 1 Tryz.underlying59 hi hz0 hz1 hz2 rfl _ zs.length (v8 zs) rfl hown4' (.slice a2 F.length cap2) F.length (v8 F) rfl ((row2.below hb4).src cap2) ?c1 ?c2 ?c3 ?_)
  case c1 => unfold maxLen; omega
  case c2 => omega
  case c3 => exact hb4.size
  intro v5 w5 hown5 hgrow5
  have hb5 := below_grown hb4 hb4.size hown4' hgrow5
  obtain ⟨b5, cp5, rfl⟩ : ∃ b cp, v5 = .slice b (zs.length + F.length) cp := by
    rcases hown5.2 with ⟨rfl, h0⟩ | ⟨g, cp, cur, rfl, _⟩
    · exact ⟨none, 0, by rw [h0]⟩
    · exact ⟨_, _, rfl⟩
  have hR5 := htg w5 X (range_below hR2 hb5 hX2)
  have hX5 := Nat.lt_of_lt_of_le hX2 hb5.size
  have rowT : RowAt w5 (some ⟨X, 3, none⟩) t := ⟨by unfold maxLen; omega, htb, Or.inr ⟨X, 3, rfl, hX5, hR5⟩⟩
  have srcT := rowT.src 16
  rw [ht] at srcT
  have hsl := fun w0 => slice_all (P := Tryz.prog) Tryz.underlying55 isz8 X 3 (by decide) w0
  clear hown4' hgrow5 hb4 row2 hR2
  go_wp2_with (at_builtin; refine wpList_append_own_src _ rfl _ _ 59 59 rfl w2.heap.size 5 i0 (.int .u8 0) 1 1 Tryz.underlying59 hi hz0 hz1 hz2 rfl _ (zs.length + F.length) (v8 zs ++ v8 F) rfl hown5 (.slice (some ⟨X, 3, none⟩) 16 16) 16 (v8 t) rfl srcT ?c1 ?c2 ?c3 ?_)
  case c1 => unfold maxLen; omega
  case c2 => omega
  case c3 => exact hb5.size
  intro v6 w6 hown6 hgrow6
  have hb6 := below_grown hb5 hb5.size hown5 hgrow6
  go_wp2_with fail
  go_ret
  refine ⟨_, rfl, ?_, hB2.trans (hb6.mono hB2.size)⟩
  have hm := Mine.mk' (zs ++ F ++ t) hown6 (by simp [ht]; omega) (by simp [v8]) (by
    intro z hz'
    rcases List.mem_append.1 hz' with hz' | hz'
    · rcases List.mem_append.1 hz' with hz' | hz'
      · exact h.2.1 z hz'
      · exact mF z hz'
    · exact htb z hz')
  exact hm.mono' hB2.size
structure BRq where
  c : Int
  n : Int
  s : ByteArray
  t : List Int
deriving Inhabited
structure BRq.ok (r : BRq) : Prop where
  tl : r.t.length = 16
  tb : ∀ z ∈ r.t, 0 ≤ z ∧ z < 256
  sl : r.s.size ≤ maxLen
  cl : -9223372036854775808 ≤ r.c
  ch : r.c ≤ 9223372036854775807
  nl : -9223372036854775808 ≤ r.n
  nh : r.n ≤ 9223372036854775807
def BRq.cells (r : BRq) : List Value := reqL r.c r.n r.s r.t
theorem BRq.ok.length {r : BRq} (h : r.ok) : r.cells.length = 19 := by
  have := h.tl
  simp [BRq.cells, reqL, v8]
  omega
theorem BRq.one (r : BRq) : ∀ v ∈ r.cells, v.oneCell' = true := reqL_one _ _ _ _
def flatR (rs : List BRq) : List Value := rs.flatMap BRq.cells
theorem flatR_length {rs : List BRq} (h : ∀ r ∈ rs, r.ok) : (flatR rs).length = rs.length * 19 := by
  induction rs with
  | nil => rfl
  | cons r rs ih =>
    have h1 := (h r (by simp)).length
    have h2 := ih (fun x hx => h x (by simp [hx]))
    simp only [flatR, List.flatMap_cons, List.length_append, List.length_cons] at *
    omega
theorem flatR_append (a b : List BRq) : flatR (a ++ b) = flatR a ++ flatR b := by simp [flatR]
/-- a slice of requests -/
def ReqsAt (w : World) (a : Option Addr) (rs : List BRq) : Prop :=
  rs.length ≤ maxLen ∧ (∀ r ∈ rs, r.ok) ∧ (rs = [] ∨ ∃ b off, a = some ⟨b, off, none⟩ ∧ b < w.heap.size ∧ w.rangeAt b off (flatR rs))
theorem ReqsAt.below {w w' : World} {a : Option Addr} {rs : List BRq} (h : ReqsAt w a rs) (hb : Below w.heap.size w w') : ReqsAt w' a rs := by
  refine ⟨h.1, h.2.1, ?_⟩
  rcases h.2.2 with h | ⟨b, off, rfl, h1, h2⟩
  · exact Or.inl h
  · exact Or.inr ⟨b, off, rfl, Nat.lt_of_lt_of_le h1 hb.size, range_below h2 hb h1⟩
theorem flatR_split (rs : List BRq) (i : Nat) (hi : i < rs.length) : flatR rs = flatR (rs.take i) ++ rs[i].cells ++ flatR (rs.drop (i + 1)) := by
  have e : rs.take i ++ (rs[i] :: rs.drop (i + 1)) = rs := by rw [← List.drop_eq_getElem_cons hi, List.take_append_drop]
  have e2 := congrArg flatR e
  rw [← e2]
  simp only [flatR, List.flatMap_append, List.flatMap_cons, List.append_assoc]
theorem ReqsAt.elem {w : World} {a : Option Addr} {rs : List BRq} (h : ReqsAt w a rs) (i : Nat) (hi : i < rs.length) : ∃ b off, a = some ⟨b, off, none⟩ ∧ b < w.heap.size ∧ w.rangeAt b (off + i * 19) rs[i].cells := by
  rcases h.2.2 with h0 | ⟨b, off, rfl, h1, h2⟩
  · subst h0; simp at hi
  · refine ⟨b, off, rfl, h1, ?_⟩
    rw [flatR_split rs i hi] at h2
    have h3 := range_part h2
    rwa [flatR_length (fun r hr => h.2.1 r (List.mem_of_mem_take hr)), List.length_take, Nat.min_eq_left (by omega)] at h3
theorem ReqsAt.none {w : World} {a : Option Addr} : ReqsAt w a [] := ⟨by simp, by simp, .inl rfl⟩
def batV (b : Bool) (a : Option Addr) (n cap : Nat) : Value := .agg #[.bool b, .slice a n cap]
def BRq.bytes (r : BRq) : List Int := putL r.c ++ putL r.n ++ textL r.s ++ r.t
def batL (q : Bool) (rs : List BRq) : List Int := if q then putL 0 else putL ((rs.length : Int) + 1) ++ rs.flatMap BRq.bytes
theorem BRq.ok.isz {r : BRq} (h : r.ok) : (Tryz.prog.info? 93).map (·.size) = some r.cells.length := by rw [h.length]; exact iszR
theorem BRq.ok.iszA {r : BRq} (h : r.ok) : (Tryz.prog.info? 93).map (·.size) = some r.cells.toArray.size := by rw [List.size_toArray, h.length]; exact iszR
def BatBox (w : World) (b : Nat) (q : Bool) (a : Option Addr) (n cap : Nat) : Prop := b < w.heap.size ∧ w.cell? ⟨b, 0, none⟩ = some (.bool q) ∧ w.cell? ⟨b, 1, none⟩ = some (.slice a n cap) ∧ w.rangeAt b 0 [.bool q, .slice a n cap]
theorem BatBox.below {w w' : World} {b : Nat} {q : Bool} {a : Option Addr} {n cap : Nat} (h : BatBox w b q a n cap) (hb : Below w.heap.size w w') : BatBox w' b q a n cap :=
  ⟨Nat.lt_of_lt_of_le h.1 hb.size, (hb.cell (p := ⟨b, 0, none⟩) h.1).trans h.2.1, (hb.cell (p := ⟨b, 1, none⟩) h.1).trans h.2.2.1, range_below h.2.2.2 hb h.1⟩
theorem BatBox.mk (w : World) (q : Bool) (a : Option Addr) (n cap : Nat) : BatBox (w.alloc (.cells #[.bool q, .slice a n cap] 24)) w.heap.size q a n cap := by
  have := range_new w #[.bool q, .slice a n cap] 24
  exact ⟨by simp, this 0 _ rfl, this 1 _ rfl, this⟩
theorem iszB : (Tryz.prog.info? 24).map (·.size) = some 2 := by kernel_rfl
theorem BRq.ok.put {r : BRq} (h : r.ok) (hs : r.s.size ≤ 4000) (w : World) : Calls Tryz.prog 138 #[.slice none 0 0, .agg r.cells.toArray] w fun e w' => ∃ v, e = .returned v ∧ Mine w' w.heap.size v r.bytes ∧ Below w.heap.size w w' := by
  have := rput_any none 0 [] r.c r.n r.s r.t w (nil_row w) (by simp) h.tl h.tb h.ch h.nh (by omega)
  simpa only [List.nil_append, List.length_nil, BRq.bytes, BRq.cells] using this
end Go.Proofs.YtgjalkbianpibaaGreat
namespace Go.Proofs.YtgjalkbianpibaaGreat
open Go Go.RowKit
section
variable {P : Program} {ops : Array Oper} {Q : Exit → Act → World → Prop}
structure Pl (P : Program) (ops : Array Oper) (Q : Exit → Act → World → Prop) (l : List Oper) (a : Act) (w : World) : Prop where
  out : wpList P ops Q l a w
theorem pl_begin {id : Nat} {a : Act} {w : World} (h : Pl P ops Q ops.toList a w) : (Code.region id ops false).wp P Q a w := wp_region_list h.out
theorem pl_nil {a : Act} {w : World} (h : Q .normal a w) : Pl P ops Q [] a w := ⟨wpList_nil h⟩
theorem pl_take {o : Oper} {rest : List Oper} {d : Option Nat} {v : Value} {a : Act} {w : World} (hw : Region.wanted o (yielded ops a.tmps) = true) (hy : (execOp a.eval o).run P w = .ok (.value v) w) (hd : o.dst = d)
    (h : Pl P ops Q rest (a.put d v) w) : Pl P ops Q (o :: rest) a w := by
  subst hd
  refine ⟨wpList_step fun K hK => ?_⟩
  rw [if_pos hw]
  unfold Oper.wp
  rw [hy]
  exact hK _ _ h.out
theorem pl_skip {o : Oper} {rest : List Oper} {d : Option Nat} {a : Act} {w : World} (hw : Region.wanted o (yielded ops a.tmps) = false) (hd : o.dst = d)
    (h : Pl P ops Q rest (a.put d undef) w) : Pl P ops Q (o :: rest) a w := by
  subst hd
  refine ⟨wpList_step fun K hK => ?_⟩
  rw [if_neg (by simp [hw])]
  exact hK _ _ h.out
theorem pl_run {o : Oper} {rest : List Oper} {d : Option Nat} {v : Value} {a : Act} {w w' : World} (hw : Region.wanted o (yielded ops a.tmps) = true) (hy : (execOp a.eval o).run P w = .ok (.value v) w') (hd : o.dst = d)
    (h : Pl P ops Q rest (a.put d v) w') : Pl P ops Q (o :: rest) a w := by
  subst hd
  refine ⟨wpList_step fun K hK => ?_⟩
  rw [if_pos hw]
  unfold Oper.wp
  rw [hy]
  exact hK _ _ h.out
theorem pl_call {o : Oper} {rest : List Oper} {d : Option Nat} {f : FuncId} {args : Array Value} {a : Act} {w : World} (hw : Region.wanted o (yielded ops a.tmps) = true) (hy : (execOp a.eval o).run P w = .ok (.enter f args) w) (hd : o.dst = d)
    (h : Calls P f args w fun e w' => ∃ v, e = .returned v ∧ Pl P ops Q rest (a.put d v) w') : Pl P ops Q (o :: rest) a w := by
  subst hd
  refine ⟨wpList_step fun K hK => ?_⟩
  rw [if_pos hw]
  unfold Oper.wp
  rw [hy]
  refine h.mono ?_
  rintro e w' ⟨v, rfl, hk⟩
  exact hK _ _ hk.out
theorem run_load_one (w : World) (p : Addr) (ty : TypeId) (v : Value) (d : TypeDesc) (hc : w.cell? p = some v) (hu : P.underlying ty = some d) (hd : d.isRow = false) : (loadVar ty p).run P w = .ok v w := by
  have hagg : (isAgg ty).run P w = .ok false w := by
    unfold isAgg
    rw [Sem.run_bind, run_underlying hu w]
    cases d <;> simp_all
  simp [loadVar, Sem.run_bind, hagg, load, Sem.run, hc]
theorem pl_one {o : Oper} {a : Act} {w : World} {ty : TypeId} {x : Operand} (ho : o.op = .load ty x) {p : Addr} (hx : a.eval x = .pointer (some p)) {v : Value} {d : TypeDesc} (hc : w.cell? p = some v) (hu : P.underlying ty = some d) (hd : d.isRow = false) : (execOp a.eval o).run P w = .ok (.value v) w := by
  unfold execOp
  simp only [ho, hx, Instr.loadAt, Instr.sureAddr, Sem.run_bind, Sem.run_pure, Result.andThen_ok, run_load_one w p ty v d hc hu hd]
end
end Go.Proofs.YtgjalkbianpibaaGreat
namespace Go.Proofs.YtgjalkbianpibaaGreat
open Go.RowKit
open Sha Tal
set_option linter.unusedVariables false
set_option linter.unusedSimpArgs false
theorem exec_load {P : Program} {o : Oper} {a : Act} {w : World} {ty : TypeId} {x : Operand} {b off : Nat} {v : Value} (ho : o.op = .load ty x) (hx : a.eval x = .pointer (some ⟨b, off, none⟩)) (hr : (loadVar ty ⟨b, off, none⟩).run P w = .ok v w) : (execOp a.eval o).run P w = .ok (.value v) w := by
  unfold execOp
  simp only [ho, hx, Instr.loadAt, Instr.sureAddr, Sem.run_bind, Sem.run_pure, Result.andThen_ok, hr]
theorem exec_store {P : Program} {o : Oper} {a : Act} {w w' : World} {ty : TypeId} {x y : Operand} {b off : Nat} {v : Value} (ho : o.op = .store ty x y) (hx : a.eval x = .pointer (some ⟨b, off, none⟩)) (hy : a.eval y = v) (hr : (storeVar ty ⟨b, off, none⟩ v).run P w = .ok () w') : (execOp a.eval o).run P w = .ok .skip w' := by
  unfold execOp
  simp only [ho, hx, hy, Instr.storeAt, Instr.sureAddr, Sem.run_bind, Sem.run_pure, Result.andThen_ok, hr]
theorem ex_mid {P : Program} {op : Oper} {a : Act} {ty : TypeId} {x : Operand} (ho : op.op = .load ty x) {b o : Nat} (hx : a.eval x = .pointer (some ⟨b, o, none⟩)) {cs : List Value} {d : TypeDesc} {w : World} (hr : w.rangeAt b o cs) (hu : P.underlying ty = some d) (hd : d.isRow = true) (hi : (P.info? ty).map (·.size) = some cs.length) : (execOp a.eval op).run P w = .ok (.value (.agg cs.toArray)) w :=
  exec_load ho hx (run_loadVar_mid w b o ty cs d hr hu hd hi)
theorem ex_put {P : Program} {o : Oper} {a : Act} {w : World} {ty : TypeId} {x y : Operand} {b off : Nat} {cs : Array Value} (ho : o.op = .store ty x y) (hx : a.eval x = .pointer (some ⟨b, off, none⟩)) (hy : a.eval y = .agg cs) (ht : w.there b off cs.size) (hi : (P.info? ty).map (·.size) = some cs.size) (h1 : cs.all (·.oneCell') = true) : (execOp a.eval o).run P w = .ok .skip (w.setCells b off cs.toList) :=
  exec_store ho hx hy (run_storeVar_mid w b off ty cs ht hi h1)
theorem ex_alloc {P : Program} {o : Oper} {a : Act} {w : World} {t : TypeId} {z : Value} (ho : o.op = .alloc t) (hz : (zeroValue t).run P w = .ok z w) : (execOp a.eval o).run P w = .ok (.value (.pointer (some ⟨w.heap.size, 0, none⟩))) (w.alloc (.cells z.cells t)) := by
  unfold execOp
  simp [ho, hz, Instr.alloc, newVar, newRow]
section
variable {P : Program} {ops : Array Oper} {Q : Exit → Act → World → Prop}
theorem pl_store {o : Oper} {rest : List Oper} {a : Act} {w w' : World} (hw : Region.wanted o (yielded ops a.tmps) = true) (hy : (execOp a.eval o).run P w = .ok .skip w') (hd : o.dst = none)
    (h : Pl P ops Q rest a w') : Pl P ops Q (o :: rest) a w := by
  refine ⟨wpList_step fun K hK => ?_⟩
  rw [if_pos hw]
  unfold Oper.wp
  rw [hy, Oper.upon_skip, hd]
  exact hK _ _ h.out
end
theorem there_newN (w : World) (arr : Array Value) (t : TypeId) {n : Nat} (h : arr.size = n) : (w.alloc (.cells arr t)).there w.heap.size 0 n := h ▸ there_new w arr t
theorem all_one {cs : List Value} (h : ∀ v ∈ cs, v.oneCell' = true) : cs.toArray.all (·.oneCell') = true := by
  rw [Array.all_eq_true_iff_forall_mem]
  intro v hv
  exact h v (by simpa using hv)
/-- a piece has been written -/
def WrOn (X : Nat) (v : Value) (zs bs : List Int) (w : World) (e : Ending) (w' : World) : Prop := ∃ v', e = .returned (.tuple #[]) ∧ WrAt w' X v' (zs ++ bs) false ∧ Off (WrF X v) w w' ∧ RowOn w v v'
theorem rowon_refl (w : World) (v : Value) : RowOn w v v := fun g hg => .inl hg
theorem WrOn.from {X : Nat} {v : Value} {zs bs : List Int} {w w1 : World} {e : Ending} {w' : World} (hb : Below w.heap.size w w1) (h : WrOn X v zs bs w1 e w') : WrOn X v zs bs w e w' := by
  obtain ⟨v', q1, q2, q3, q4⟩ := h
  have T := wr_trans (Off.of_below hb) (rowon_refl w v) q3 q4
  exact ⟨v', q1, q2, T.1, T.2⟩
def sgL (g : Sg) : List Int := putL g.n ++ g.t
def sgsL (xs : List Sg) : List Int := putL xs.length ++ xs.flatMap sgL
def evL (g : Ev) : List Int := putL g.n ++ (textL g.s ++ g.t)
def evsL (xs : List Ev) : List Int := putL xs.length ++ xs.flatMap evL
def vtL (x : Vt) : List Int := ([x.k, x.e, x.v, x.s].flatMap putL) ++ x.d
def BRq.of (r : Rq) : BRq := ⟨r.c, r.n, r.s, r.t⟩
def ctL (x : Vt) (xs : List Sg) : List Int := vtL x ++ sgsL xs
def hdL (h : Hd) : List Int := batL h.q (h.rs.xs.map BRq.of) ++ ctL h.vt h.sg.xs
def hdsL (xs : List Hd) : List Int := putL xs.length ++ xs.flatMap hdL
end Go.Proofs.YtgjalkbianpibaaGreat
namespace Go.Proofs.YtgjalkbianpibaaGreat
open Go.RowKit
open Sha Tal
set_option linter.unusedVariables false
set_option linter.unusedSimpArgs false
theorem iszEv : (Tryz.prog.info? 57).map (·.size) = some 18 := by kernel_rfl
theorem iszSg : (Tryz.prog.info? 78).map (·.size) = some 17 := by kernel_rfl
theorem zeroSg : ∃ z : List Value, z.length = 17 ∧ ∀ w : World, (zeroValue 78).run Tryz.prog w = .ok (.agg z.toArray) w := ⟨[.int .i64 0] ++ v8 (List.replicate 16 0), by decide, fun w => by kernel_rfl⟩
theorem zeroEv : ∃ z : List Value, z.length = 18 ∧ ∀ w : World, (zeroValue 57).run Tryz.prog w = .ok (.agg z.toArray) w := ⟨[.int .i64 0, .string ⟨#[]⟩] ++ v8 (List.replicate 16 0), by decide, fun w => by kernel_rfl⟩
end Go.Proofs.YtgjalkbianpibaaGreat
namespace Go.Proofs.YtgjalkbianpibaaGreat
open Go.RowKit
open Sha Tal
def Hd.zero : Hd := ⟨false, ⟨none, 0, []⟩, Vt.zero, ⟨none, 0, []⟩⟩
/-- a list of what was held, with all that it names -/
def HdsAt (w : World) (x : Sl Hd) : Prop := x.At HdE w ∧ ∀ h ∈ x.xs, h.At w
theorem HdsAt.below {w w' : World} {x : Sl Hd} (k : HdsAt w x) (hb : Below w.heap.size w w') : HdsAt w' x := ⟨k.1.below hb, fun h hh => (k.2 h hh).below hb⟩
theorem sameL_false {α : Type} {B : α → α → Bool} : ∀ {xs ys : List α}, xs.length ≠ ys.length → sameL B xs ys = false
  | [], [], h => absurd rfl h
  | _ :: _, [], _ => rfl
  | [], _ :: _, _ => rfl
  | _ :: xs, _ :: ys, h => by
    have := sameL_false (B := B) (xs := xs) (ys := ys) (fun e => h (by simp [e]))
    simp [sameL, this]
theorem sameL_all {α : Type} [Inhabited α] {B : α → α → Bool} : ∀ {xs ys : List α}, xs.length = ys.length → (∀ i, i < xs.length → B (xs.getD i default) (ys.getD i default) = true) → sameL B xs ys = true
  | [], [], _, _ => rfl
  | x :: xs, y :: ys, h, k => by
    have h0 := k 0 (by simp)
    have := sameL_all (B := B) (xs := xs) (ys := ys) (by simpa using h) (fun i hi => by have := k (i + 1) (by simp; omega); simpa using this)
    simp only [List.getD_cons_zero] at h0
    simp [sameL, this, h0]
theorem sameL_not {α : Type} [Inhabited α] {B : α → α → Bool} : ∀ {xs ys : List α} (i : Nat), i < xs.length → xs.length = ys.length → B (xs.getD i default) (ys.getD i default) = false → sameL B xs ys = false
  | x :: xs, y :: ys, 0, _, _, k => by
    simp only [List.getD_cons_zero] at k
    simp [sameL, k]
  | x :: xs, y :: ys, i + 1, hi, h, k => by
    have := sameL_not (B := B) (xs := xs) (ys := ys) i (by simpa using hi) (by simpa using h) (by simpa using k)
    simp [sameL, this]
end Go.Proofs.YtgjalkbianpibaaGreat
namespace Go.Proofs.YtgjalkbianpibaaGreat
open Go.RowKit
open Sha Tal
def chgB (a b c : Int) (x : Sl Hd) (a' b' c' : Int) (y : Sl Hd) : Bool := ((a == a') && ((b == b') && (c == c'))) && sameL Hd.B x.xs y.xs
end Go.Proofs.YtgjalkbianpibaaGreat
namespace Go.Proofs.YtgjalkbianpibaaGreat
open Go.RowKit
open Sha Tal
set_option linter.unusedVariables false
set_option linter.unusedSimpArgs false
theorem iszBa : (Tryz.prog.info? 24).map (·.size) = some 2 := by kernel_rfl
theorem iszCe : (Tryz.prog.info? 35).map (·.size) = some 37 := by kernel_rfl
theorem iszVo : (Tryz.prog.info? 28).map (·.size) = some 36 := by kernel_rfl
theorem iszCh : (Tryz.prog.info? 31).map (·.size) = some 4 := by kernel_rfl
/-- a struct that is boxed -/
theorem boxed_new (w : World) (q : List Value) (t : TypeId) : Below w.heap.size w (w.alloc (.cells q.toArray t)) ∧ (w.alloc (.cells q.toArray t)).rangeAt w.heap.size 0 q ∧ w.heap.size < (w.alloc (.cells q.toArray t)).heap.size :=
  ⟨(Below.refl _ _).alloc (Nat.le_refl _) _, by simpa using range_new w q.toArray t, by simp⟩
end Go.Proofs.YtgjalkbianpibaaGreat
namespace Go.Proofs.YtgjalkbianpibaaGreat
open Go.RowKit
open Sha Tal
theorem wpList_neqs {P : Program} {ops : Array Oper} {rest : List Oper} {op : Oper} {a : Act} {w : World} {Q : Exit → Act → World → Prop} (hgd : Region.wanted op (yielded ops a.tmps) = true) (t t2 : TypeId) (x y : Operand) (ho : op.op = .binOp .neq t x y t2) (sa sb : ByteArray) (hx : a.eval x = .string sa) (hy : a.eval y = .string sb) (b : Bool) (hb : (sa.toList != sb.toList) = b)
    (h : wpList P ops Q rest (a.put op.dst (.bool b)) w) : wpList P ops Q (op :: rest) a w :=
  wpList_step fun K hK => by
    rw [if_pos hgd]
    unfold Oper.wp execOp
    subst hb
    simp only [ho, hx, hy, binOp_string_neq, Sem.run_bind, Sem.run_pure]
    exact hK _ _ h
/-- a message with all that it names -/
structure Mg where
  k : Int
  e : Int
  l : Int
  v : Int
  s : Int
  q : Bool
  rs : Sl Rq
  vt : Vt
  ce : Int
  cl : Int
  cv : Int
  he : Sl Hd
  ne : Sl Ev
  d : List Int
  ct : Vt
  cs : Sl Sg
  st : ByteArray
  sg : Sl Sg
def Mg.ms (m : Mg) : Ms := ⟨m.k, m.e, m.l, m.v, m.s, m.q, m.rs.val, m.vt, m.ce, m.cl, m.cv, m.he.val, m.ne.val, m.d, m.ct, m.cs.val, m.st, m.sg.val⟩
structure Mg.ok (m : Mg) : Prop where
  vt : m.vt.ok
  ct : m.ct.ok
  dl : m.d.length = 32
  db : ∀ z ∈ m.d, 0 ≤ z ∧ z < 256
theorem Mg.ok.ms {m : Mg} (h : m.ok) : m.ms.ok := ⟨h.vt, h.ct, h.dl, h.db, rfl, rfl, rfl, rfl, rfl⟩
structure Mg.At (m : Mg) (w : World) : Prop where
  rs : m.rs.At RqE w
  he : HdsAt w m.he
  ne : m.ne.At EvE w
  cs : m.cs.At SgE w
  sg : m.sg.At SgE w
theorem Mg.At.below {m : Mg} {w w' : World} (h : m.At w) (hb : Below w.heap.size w w') : m.At w' := ⟨h.rs.below hb, h.he.below hb, h.ne.below hb, h.cs.below hb, h.sg.below hb⟩
/-- are the five numbers the same? -/
def Mg.nB (a b : Mg) : Bool := (a.k == b.k) && ((a.e == b.e) && ((a.l == b.l) && ((a.v == b.v) && (a.s == b.s))))
def Mg.fB (a b : Mg) : Bool := vtB a.vt b.vt && ((a.d == b.d) && (a.st.toList == b.st.toList))
def Mg.lB (a b : Mg) : Bool := batB a.q a.rs b.q b.rs && (chgB a.ce a.cl a.cv a.he b.ce b.cl b.cv b.he && (sameL Ev.B a.ne.xs b.ne.xs && (certB a.ct a.cs b.ct b.cs && sameL Sg.B a.sg.xs b.sg.xs)))
def Mg.B (a b : Mg) : Bool := Mg.nB a b && (Mg.fB a b && Mg.lB a b)
end Go.Proofs.YtgjalkbianpibaaGreat
namespace Go.Proofs.YtgjalkbianpibaaGreat
open Go.RowKit
open Sha Tal
set_option linter.unusedVariables false
set_option linter.unusedSimpArgs false
def Mg.body (m : Mg) : List Int :=
  if m.k = 1 then [m.e, m.s].flatMap putL ++ batL m.q (m.rs.xs.map BRq.of)
  else if m.k = 2 then vtL m.vt
  else if m.k = 3 then [m.ce, m.cl, m.cv].flatMap putL ++ hdsL m.he.xs
  else if m.k = 4 then [m.e, m.l, m.v].flatMap putL ++ evsL m.ne.xs
  else if m.k = 5 then putL m.e ++ m.d
  else if m.k = 6 then [m.e, m.s].flatMap putL
  else if m.k = 7 then batL m.q (m.rs.xs.map BRq.of) ++ ctL m.ct m.cs.xs
  else textL m.st ++ sgsL m.sg.xs
def Mg.bytes (m : Mg) : List Int := putL m.k ++ m.body
end Go.Proofs.YtgjalkbianpibaaGreat
namespace Go.Proofs.YtgjalkbianpibaaGreat
open Go.RowKit
open Sha Tal
set_option linter.unusedVariables false
set_option linter.unusedSimpArgs false
/-- what the document lays behind bytes, in memory of its own -/
def FOn (zs bs : List Int) (w : World) (e : Ending) (w' : World) : Prop := ∃ v, e = .returned v ∧ Mine w' w.heap.size v (zs ++ bs) ∧ Below w.heap.size w w'
theorem FOn.row {zs bs L : List Int} {w w' : World} {e : Ending} (h : FOn zs bs w e w') (hL : zs ++ bs = L) (hm : L.length ≤ 4000000) : ∃ a cap, e = .returned (.slice a L.length cap) ∧ RowAt w' a L ∧ Mine w' w.heap.size (.slice a L.length cap) L ∧ Below w.heap.size w w' := by
  subst hL
  obtain ⟨v, rfl, h1, h2⟩ := h
  obtain ⟨a, cap, rfl, _, _, hr⟩ := h1.rowAt (by unfold maxLen; omega)
  exact ⟨a, cap, rfl, hr, h1, h2⟩
end Go.Proofs.YtgjalkbianpibaaGreat
