/- SlotOnce: what stays true of a slot, and of the digests that were met -/
import Derived.Test.YtogmkcabndgllaaDoorSD
namespace Go.Proofs.YtogmkcabndgllaaDoor
open Go.RowKit
open Sha Tal
set_option linter.unusedVariables false
structure Inv (s : Sl) (m : Int → Option (List Int)) : Prop where
  is : s.is = true → m s.vw = some s.b.dig
  top : ∀ v d, m v = some d → s.is = true ∧ v ≤ s.vw
  ho : s.ho = true → m s.hc.v.v = some s.hc.v.d
  de : s.de = true → s.ec.v.d = s.eb.dig
theorem inv0 : Inv sl0 (fun _ => none) := ⟨by simp [sl0], by simp, by simp [sl0], by simp [sl0]⟩
/-- what is met when a slot has become another one -/
def metX (m : Int → Option (List Int)) (x : Sl) : Int → Option (List Int) := if x.is = true then putM m x.vw x.b.dig else m
structure Went (s x : Sl) (m : Int → Option (List Int)) : Prop where
  is : s.is = true → x.is = true ∧ s.vw ≤ x.vw
  ho : s.ho = true → x.ho = true ∧ s.hc.v.v ≤ x.hc.v.v
  de : s.de = true → x.de = true ∧ x.es = s.es ∧ x.eb = s.eb ∧ x.ec = s.ec
  look : x.is = true → ∀ d, m x.vw = some d → d = x.b.dig
  hm : x.ho = true → metX m x x.hc.v.v = some x.hc.v.d
  dd : x.de = true → x.ec.v.d = x.eb.dig
  inv : Inv x (metX m x)
theorem put_self {m : Int → Option (List Int)} {k : Int} {d : List Int} (h : m k = some d) : putM m k d = m := by
  funext j
  unfold putM
  split
  · rename_i e; rw [e, h]
  · rfl
theorem metX_same {s x : Sl} {m : Int → Option (List Int)} (h : Inv s m) (h1 : x.is = s.is) (h2 : x.vw = s.vw) (h3 : x.b = s.b) : metX m x = m := by
  unfold metX
  split
  · rename_i e
    rw [h2, h3]
    exact put_self (h.is (by rw [← h1]; exact e))
  · rfl
theorem went_same {s x : Sl} {m : Int → Option (List Int)} (h : Inv s m) (h1 : x.is = s.is) (h2 : x.vw = s.vw) (h3 : x.b = s.b) (hh : s.ho = true → x.ho = true ∧ s.hc.v.v ≤ x.hc.v.v) (hd : s.de = true → x.de = true ∧ x.es = s.es ∧ x.eb = s.eb ∧ x.ec = s.ec) (hm : x.ho = true → m x.hc.v.v = some x.hc.v.d) (dd : x.de = true → x.ec.v.d = x.eb.dig) : Went s x m := by
  have e := metX_same h h1 h2 h3
  refine ⟨fun q => ⟨by rw [h1]; exact q, by omega⟩, hh, hd, fun q d hq => ?_, fun q => by rw [e]; exact hm q, dd, ?_⟩
  · rw [h2, h.is (by rw [← h1]; exact q)] at hq
    rw [h3]
    exact (Option.some.inj hq).symm
  · rw [e]
    exact ⟨fun q => by rw [h2, h3]; exact h.is (by rw [← h1]; exact q), fun v d q => by rw [h1, h2]; exact h.top v d q, hm, dd⟩
theorem went_self {s : Sl} {m : Int → Option (List Int)} (h : Inv s m) : Went s s m :=
  went_same h rfl rfl rfl (fun q => ⟨q, Int.le_refl _⟩) (fun q => ⟨q, rfl, rfl, rfl⟩) h.ho h.de
theorem acc_went {s : Sl} {m : Int → Option (List Int)} (h : Inv s m) (view : Int) (b : Bat) (h0 : (acceptP s view b).2 = 0) : Went s (acceptP s view b).1 m := by
  unfold acceptP at h0 ⊢
  by_cases c1 : view < 0 ∨ (s.is = true ∧ view < s.vw)
  · rw [if_pos c1] at h0; simp at h0
  · rw [if_neg c1] at h0 ⊢
    by_cases c2 : s.is = true ∧ s.vw = view
    · rw [if_pos c2] at h0 ⊢
      by_cases c3 : s.b.dig = b.dig
      · rw [if_pos c3]; exact went_self h
      · rw [if_neg c3] at h0; simp at h0
    · rw [if_neg c2]
      have hlt : s.is = true → s.vw < view := fun q => by
        have h1 : ¬ view < s.vw := fun r => c1 (.inr ⟨q, r⟩)
        have h2 : ¬ s.vw = view := fun r => c2 ⟨q, r⟩
        omega
      have hno : ∀ d, m view = some d → False := fun d q => by
        obtain ⟨q1, q2⟩ := h.top view d q
        have := hlt q1
        omega
      have hold : ∀ v d, m v = some d → putM m view b.dig v = some d := fun v d q => by
        unfold putM
        rw [if_neg (fun e => by subst e; exact hno d q)]
        exact q
      have e : metX m { s with vw := view, b := b, is := true } = putM m view b.dig := by unfold metX; rw [if_pos rfl]
      refine ⟨fun q => ⟨rfl, by have := hlt q; show s.vw ≤ view; omega⟩, fun q => ⟨q, Int.le_refl _⟩, fun q => ⟨q, rfl, rfl, rfl⟩, fun _ d q => absurd q (fun q => hno d q), fun q => ?_, h.de, ?_⟩
      · rw [e]; exact hold _ _ (h.ho q)
      · rw [e]
        refine ⟨fun _ => by unfold putM; rw [if_pos rfl], fun v d q => ⟨rfl, ?_⟩, fun q => hold _ _ (h.ho q), h.de⟩
        unfold putM at q
        by_cases e1 : v = view
        · exact Int.le_of_eq e1
        · rw [if_neg e1] at q
          obtain ⟨q1, q2⟩ := h.top v d q
          have := hlt q1
          show v ≤ view
          omega
theorem hold_went {s : Sl} {m : Int → Option (List Int)} (h : Inv s m) (c : Ce) (h0 : (holdP s c).2 = 0) : Went s (holdP s c).1 m := by
  unfold holdP at h0 ⊢
  by_cases c1 : c.v.k ≠ 1
  · rw [if_pos c1] at h0; simp at h0
  rw [if_neg c1] at h0 ⊢
  by_cases c2 : s.is = false ∨ c.v.v ≠ s.vw
  · rw [if_pos c2] at h0; simp at h0
  rw [if_neg c2] at h0 ⊢
  by_cases c3 : c.v.d ≠ s.b.dig
  · rw [if_pos c3] at h0; simp at h0
  rw [if_neg c3]
  have his : s.is = true := by cases hq : s.is; exact absurd (.inl hq) c2; rfl
  have hvw : c.v.v = s.vw := Classical.byContradiction (fun q => c2 (.inr q))
  have hd : c.v.d = s.b.dig := Classical.byContradiction c3
  by_cases c4 : s.ho = true ∧ c.v.v ≤ s.hc.v.v
  · rw [if_pos c4]; exact went_self h
  rw [if_neg c4]
  refine went_same h rfl rfl rfl (fun q => ⟨rfl, ?_⟩) (fun q => ⟨q, rfl, rfl, rfl⟩) (fun _ => ?_) h.de
  · have : ¬ c.v.v ≤ s.hc.v.v := fun r => c4 ⟨q, r⟩
    show s.hc.v.v ≤ c.v.v
    omega
  · show m c.v.v = some c.v.d
    rw [hvw, hd]
    exact h.is his
theorem dec_went {s : Sl} {m : Int → Option (List Int)} (h : Inv s m) (b : Bat) (c : Ce) (h0 : (decideP s b c).2 = 0) : Went s (decideP s b c).1 m := by
  unfold decideP at h0 ⊢
  by_cases c1 : c.v.k ≠ 2 ∨ c.v.d ≠ b.dig
  · rw [if_pos c1] at h0; simp at h0
  rw [if_neg c1] at h0 ⊢
  have hd : c.v.d = b.dig := Classical.byContradiction (fun q => c1 (.inr q))
  by_cases c2 : s.de = true
  · rw [if_pos c2] at h0 ⊢
    by_cases c3 : s.eb.dig = b.dig
    · rw [if_pos c3]; exact went_self h
    · rw [if_neg c3] at h0; simp at h0
  · rw [if_neg c2]
    exact went_same h rfl rfl rfl (fun q => ⟨q, Int.le_refl _⟩) (fun q => absurd q c2) h.ho (fun _ => hd)
theorem acc_err {s : Sl} {view : Int} {b : Bat} (h0 : (acceptP s view b).2 ≠ 0) : (acceptP s view b).1 = sl0 := by
  unfold acceptP at h0 ⊢
  split
  · rfl
  · rename_i c1
    rw [if_neg c1] at h0
    split
    · rename_i c2
      rw [if_pos c2] at h0
      split
      · rename_i c3; rw [if_pos c3] at h0; simp at h0
      · rfl
    · rename_i c2; rw [if_neg c2] at h0; simp at h0
theorem hold_err {s : Sl} {c : Ce} (h0 : (holdP s c).2 ≠ 0) : (holdP s c).1 = sl0 := by
  unfold holdP at h0 ⊢
  by_cases c1 : c.v.k ≠ 1
  · rw [if_pos c1]
  rw [if_neg c1] at h0 ⊢
  by_cases c2 : s.is = false ∨ c.v.v ≠ s.vw
  · rw [if_pos c2]
  rw [if_neg c2] at h0 ⊢
  by_cases c3 : c.v.d ≠ s.b.dig
  · rw [if_pos c3]
  rw [if_neg c3] at h0
  by_cases c4 : s.ho = true ∧ c.v.v ≤ s.hc.v.v
  · rw [if_pos c4] at h0; simp at h0
  · rw [if_neg c4] at h0; simp at h0
theorem dec_err {s : Sl} {b : Bat} {c : Ce} (h0 : (decideP s b c).2 ≠ 0) : (decideP s b c).1 = sl0 := by
  unfold decideP at h0 ⊢
  by_cases c1 : c.v.k ≠ 2 ∨ c.v.d ≠ b.dig
  · rw [if_pos c1]
  rw [if_neg c1] at h0 ⊢
  by_cases c2 : s.de = true
  · rw [if_pos c2] at h0 ⊢
    by_cases c3 : s.eb.dig = b.dig
    · rw [if_pos c3] at h0; simp at h0
    · rw [if_neg c3]
  · rw [if_neg c2] at h0; simp at h0
/-- what an act makes of a slot is as sound as the slot and the act are -/
structure Sl.fit (s : Sl) (w : World) : Prop where
  raw : s.raw w
  small : s.small
  vi : I64 s.vw
theorem Sl.fit.below {s : Sl} {w w' : World} (h : s.fit w) (hb : Below w.heap.size w w') : s.fit w' := ⟨h.raw.below hb, h.small, h.vi⟩
theorem fit0 (w : World) : sl0.fit w := ⟨⟨bat0_at w, bat0_at w, bat0_at w, ce0_at w, ce0_at w⟩, ⟨bat0_lt, bat0_lt, bat0_lt, by decide, by decide⟩, by unfold I64 sl0; simp⟩
theorem acc_fit {s : Sl} {w : World} (h : s.fit w) {view : Int} (hv : I64 view) {b : Bat} (hb : b.at w) (hl : b.lt) : (acceptP s view b).1.fit w := by
  unfold acceptP
  split
  · exact fit0 w
  · split
    · split
      · exact h
      · exact fit0 w
    · exact ⟨⟨hb, h.raw.hb, h.raw.eb, h.raw.hc, h.raw.ec⟩, ⟨hl, h.small.hb, h.small.eb, h.small.hc, h.small.ec⟩, hv⟩
theorem hold_fit {s : Sl} {w : World} (h : s.fit w) {c : Ce} (hc : c.at w) (hl : c.ss.length ≤ 100) : (holdP s c).1.fit w := by
  unfold holdP
  by_cases c1 : c.v.k ≠ 1
  · rw [if_pos c1]; exact fit0 w
  rw [if_neg c1]
  by_cases c2 : s.is = false ∨ c.v.v ≠ s.vw
  · rw [if_pos c2]; exact fit0 w
  rw [if_neg c2]
  by_cases c3 : c.v.d ≠ s.b.dig
  · rw [if_pos c3]; exact fit0 w
  rw [if_neg c3]
  by_cases c4 : s.ho = true ∧ c.v.v ≤ s.hc.v.v
  · rw [if_pos c4]; exact h
  · rw [if_neg c4]; exact ⟨⟨h.raw.b, h.raw.b, h.raw.eb, hc, h.raw.ec⟩, ⟨h.small.b, h.small.b, h.small.eb, hl, h.small.ec⟩, h.vi⟩
theorem dec_fit {s : Sl} {w : World} (h : s.fit w) {b : Bat} (hb : b.at w) (hbl : b.lt) {c : Ce} (hc : c.at w) (hl : c.ss.length ≤ 100) : (decideP s b c).1.fit w := by
  unfold decideP
  split
  · exact fit0 w
  · split
    · split
      · exact h
      · exact fit0 w
    · exact ⟨⟨h.raw.b, h.raw.hb, hb, h.raw.hc, hc⟩, ⟨h.small.b, h.small.hb, hbl, h.small.hc, hl⟩, h.vi⟩
end Go.Proofs.YtogmkcabndgllaaDoor
