/- The document's reader: Num. -/
import Derived.Test.YtnjlamcpfclgaaaTyRefNumber
namespace Go.Proofs.Ytnjlamcpfclgaaa.Ty
open Go.RowKit
open Tal
variable {B : Nat}
theorem gb_drewN (w : World) (k : Nat) (r : Option Nat) : w.grownBy (w.drewN k) r := ⟨rfl, rfl, rfl, Nat.le_refl _, fun _ _ _ => rfl⟩
theorem Rf.drewN {w : World} {X : Nat} {zs : List Int} {p : Nat} {e : Int} (h : Rf B w X zs p e) (k : Nat) : Rf B (w.drewN k) X zs p e := by
  obtain ⟨hX, ⟨a, cap, h0, hc, hm, hr, hne⟩, h1, h2, f0, f1, f2, hp, hl⟩ := h
  refine ⟨by simpa using hX, ⟨a, cap, by simpa using h0, hc, hm, hr.gb (gb_drewN w k (some X)) (suc_ne hne), hne⟩, by simpa using h1, by simpa using h2, by simpa using f0, by simpa using f1, by simpa using f2, hp, hl⟩
theorem Rf.set2 {w : World} {X : Nat} {zs : List Int} {p : Nat} {e : Int} (h : Rf B w X zs p e) (e' : Int) : Rf B (w.setCell ⟨X, 2, none⟩ (.int .i64 e')) X zs p e' := by
  obtain ⟨hX, ⟨a, cap, h0, hc, hm, hr, hne⟩, h1, h2, f0, f1, f2, hp, hl⟩ := h
  exact ⟨by simpa [World.setCell] using hX, ⟨a, cap, (World.cell?_setCell_other _ _ _ _ (by simp)).trans h0, hc, hm, hr.gb (gb_set w X 2 _) (suc_ne hne), hne⟩, (World.cell?_setCell_other _ _ _ _ (by simp)).trans h1, World.cell?_setCell_same _ _ _ h2,
    (World.frozen?_setCell _ _ _ _).trans f0, (World.frozen?_setCell _ _ _ _).trans f1, (World.frozen?_setCell _ _ _ _).trans f2, hp, hl⟩
theorem Rf.set1 {w : World} {X : Nat} {zs : List Int} {p : Nat} {e : Int} (h : Rf B w X zs p e) (p' : Nat) (hp' : p' ≤ zs.length) : Rf B (w.setCell ⟨X, 1, none⟩ (.int .i64 (p' : Int))) X zs p' e := by
  obtain ⟨hX, ⟨a, cap, h0, hc, hm, hr, hne⟩, h1, h2, f0, f1, f2, hp, hl⟩ := h
  exact ⟨by simpa [World.setCell] using hX, ⟨a, cap, (World.cell?_setCell_other _ _ _ _ (by simp)).trans h0, hc, hm, hr.gb (gb_set w X 1 _) (suc_ne hne), hne⟩, World.cell?_setCell_same _ _ _ h1, (World.cell?_setCell_other _ _ _ _ (by simp)).trans h2,
    (World.frozen?_setCell _ _ _ _).trans f0, (World.frozen?_setCell _ _ _ _).trans f1, (World.frozen?_setCell _ _ _ _).trans f2, hp', hl⟩
/-- the document's reader with this ahead of it and this error -/
def RSt (B : Nat) (w : World) (X : Nat) (rest : List Int) (e : Int) : Prop := ∃ zs p, Rf B w X zs p e ∧ (e = 0 → zs.drop p = rest)
theorem RSt.other {w : World} {X : Nat} {rest : List Int} {e : Int} (h : RSt B w X rest e) (he : e ≠ 0) (rest' : List Int) : RSt B w X rest' e := by
  obtain ⟨zs, p, h1, _⟩ := h
  exact ⟨zs, p, h1, fun h0 => absurd h0 he⟩
theorem numR_len (zs : List Int) (hz : ∀ z ∈ zs, 0 ≤ z ∧ z < 256) (h : (numR zs).2.2 = 0) : (numR zs).2.1 ≤ zs.length := (numR_form zs hz h).2.1
set_option maxHeartbeats 1600000 in
theorem refNum_any (X : Nat) (rest : List Int) (e most : Int) (w : World) (h : RSt B w X rest e) :
    Calls Try.prog 44 #[.pointer (some ⟨X, 0, none⟩), .int .i64 most] w fun en w' => en = .returned (.int .i64 (numS rest e most).1) ∧ RSt B w' X (numS rest e most).2.1 (numS rest e most).2.2 ∧ w.grownBy w' (some X) := by
  obtain ⟨zs, p, hR, hd⟩ := h
  by_cases he : e = 0
  · subst he
    have hd := hd rfl
    subst hd
    have cn := refNumber_any X zs p 0 w hR
    have hlen : (numR (zs.drop p)).2.2 = 0 → (numR (zs.drop p)).2.1 ≤ (zs.drop p).length := by
      obtain ⟨a, cap, _, _, _, hr⟩ := hR.rest
      exact numR_len _ hr.2.1
    rw [List.length_drop] at hlen
    have HS : Hid (numS (zs.drop p) 0 most = if (numR (zs.drop p)).2.2 = 0 then (if most < (numR (zs.drop p)).1 then (0, zs.drop p, 3) else ((numR (zs.drop p)).1, (zs.drop p).drop (numR (zs.drop p)).2.1, 0)) else (0, zs.drop p, (numR (zs.drop p)).2.2)) := by show _ = _; simp [numS]
    generalize (numR (zs.drop p)).1 = v at *
    generalize (numR (zs.drop p)).2.1 = c at *
    generalize (numR (zs.drop p)).2.2 = er at *
    have hl5 := hR.2.2.2.2.2.2.2.2
    have hpl := hR.2.2.2.2.2.2.2.1
    by_cases her : er = 0
    · subst her
      have hcl := hlen rfl
      clear hlen
      rw [if_pos rfl] at HS
      by_cases hmost : most < v
      · rw [if_pos hmost] at HS
        obtain ⟨_, _, _, h2, _⟩ := id hR
        go_enter Try.func44, Try.ntmps44
        go_wp2_with fail
        refine cn.mono ?_
        rintro en w1 ⟨rfl, k, rfl⟩
        clear cn
        have hR1 := hR.drewN k
        have f2 := hR1.2.2.2.2.2.2.1
        have h2' := hR1.2.2.2.1
        go_wp2_with fail
        go_ret
        rw [HS.out]
        exact ⟨rfl, ⟨zs, p, hR1.set2 3, fun h => by cases h⟩, gb_trans (gb_drewN w k _) (gb_set _ X 2 _)⟩
      · rw [if_neg hmost] at HS
        obtain ⟨_, _, _, h2, _⟩ := id hR
        go_enter Try.func44, Try.ntmps44
        go_wp2_with fail
        refine cn.mono ?_
        rintro en w1 ⟨rfl, k, rfl⟩
        clear cn
        have hR1 := hR.drewN k
        have f1 := hR1.2.2.2.2.2.1
        have h1' := hR1.2.2.1
        have hR2 := hR1.set1 (p + c) (by omega)
        have ec : ((p + c : Nat) : Int) = (p : Int) + (c : Int) := by omega
        rw [ec] at hR2
        clear ec
        go_wp2_with fail
        go_ret
        rw [HS.out]
        exact ⟨rfl, ⟨zs, p + c, hR2, fun _ => by rw [List.drop_drop]⟩, gb_trans (gb_drewN w k _) (gb_set _ X 1 _)⟩
    · have her' : (er == 0) = false := by simpa using her
      rw [if_neg her] at HS
      obtain ⟨_, _, _, h2, _⟩ := id hR
      clear hlen
      go_enter Try.func44, Try.ntmps44
      go_wp2_with fail
      refine cn.mono ?_
      rintro en w1 ⟨rfl, k, rfl⟩
      clear cn
      have hR1 := hR.drewN k
      have f2 := hR1.2.2.2.2.2.2.1
      have h2' := hR1.2.2.2.1
      go_wp2_with fail
      go_ret
      rw [HS.out]
      exact ⟨rfl, ⟨zs, p, hR1.set2 er, fun h => absurd h her⟩, gb_trans (gb_drewN w k _) (gb_set _ X 2 _)⟩
  · have HS : Hid (numS rest e most = (0, rest, e)) := by show _ = _; simp [numS, he]
    have he' : (e == 0) = false := by simpa using he
    obtain ⟨_, _, _, h2, _⟩ := id hR
    go_enter Try.func44, Try.ntmps44
    go_wp2_with fail
    go_ret
    rw [HS.out]
    exact ⟨rfl, ⟨zs, p, hR, fun h => absurd h he⟩, gb_refl _ _⟩
end Go.Proofs.Ytnjlamcpfclgaaa.Ty
