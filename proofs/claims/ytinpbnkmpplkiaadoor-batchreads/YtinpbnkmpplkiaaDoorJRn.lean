/- The document's reader: number. The document's reader: Num. The document's reader: Text. The readers: Text, Left, Done of the document's, Done of the program's. The readers: Raw of the program's; Read of the document's. The document's reader: Read. The document's reader: Raw. Two readers of the same bytes, side by side. -/
import Derived.Test.YtinpbnkmpplkiaaDoorJRd
import Derived.BigQuiet
import Derived.Test.YtinpbnkmpplkiaaDoorHd2
namespace Go.Proofs.YtinpbnkmpplkiaaDoor
open Go.RowKit
open Sha Tal
variable {B : Nat}
/-- the document's reader: its bytes, its place, its error -/
def Rf (B : Nat) (w : World) (X : Nat) (zs : List Int) (p : Nat) (e : Int) : Prop :=
  X < w.heap.size ∧ (∃ a cap, w.cell? ⟨X, 0, none⟩ = some (.slice a zs.length cap) ∧ zs.length ≤ cap ∧ cap ≤ maxLen ∧ RowAt w a zs ∧ ∀ x, a = some x → B ≤ x.block ∧ x.block < X) ∧
  w.cell? ⟨X, 1, none⟩ = some (.int .i64 (p : Int)) ∧ w.cell? ⟨X, 2, none⟩ = some (.int .i64 e) ∧ w.frozen? ⟨X, 0, none⟩ = false ∧ w.frozen? ⟨X, 1, none⟩ = false ∧ w.frozen? ⟨X, 2, none⟩ = false ∧ p ≤ zs.length ∧ zs.length ≤ 5000
theorem suc_ne {a : Option Addr} {X : Nat} (h : ∀ x, a = some x → B ≤ x.block ∧ x.block < X) : ∀ x, a = some x → x.block ≠ X := fun x hx => Nat.ne_of_lt (h x hx).2
namespace Tal
theorem val_mono (ds : List Int) (hz : ∀ z ∈ ds, 0 ≤ z ∧ z < 256) (j : Nat) (hj : j ≤ ds.length) : val (ds.take j) ≤ val ds := by
  have : ∀ m, j + m ≤ ds.length → val (ds.take j) ≤ val (ds.take (j + m)) := by
    intro m
    induction m with
    | zero => intro _; exact Int.le_refl _
    | succ m ih =>
      intro hm
      have h1 := ih (by omega)
      have hlt : j + m < ds.length := by omega
      have e := val_take ds (j + m) hlt
      have hb := val_bound (ds.take (j + m)) (fun z h => hz z (List.mem_of_mem_take h))
      have hd : 0 ≤ ds.getD (j + m) 0 := by
        rw [List.getD_eq_getElem?_getD, List.getElem?_eq_getElem hlt]; exact (hz _ (List.getElem_mem hlt)).1
      rw [← Nat.add_assoc, e]
      omega
  have h := this (ds.length - j) (by omega)
  have e : j + (ds.length - j) = ds.length := by omega
  rw [e, List.take_length] at h
  exact h
theorem val8 (ds : List Int) (hz : ∀ z ∈ ds, 0 ≤ z ∧ z < 256) (hl : ds.length ≤ 8) : (9223372036854775807 < val ds) ↔ (ds.length = 8 ∧ 127 < ds.getD 0 0) := by
  cases ds with
  | nil => simp [val]
  | cons x tl =>
    have hx := hz x (by simp)
    have e : val (x :: tl) = x * 256 ^ tl.length + val tl := by
      have : ∀ (l : List Int) (a : Int), l.foldl (fun a d => a * 256 + d) a = a * 256 ^ l.length + val l := by
        intro l
        induction l with
        | nil => intro a; simp [val]
        | cons y l ih =>
          intro a
          simp only [List.foldl_cons, List.length_cons, val]
          rw [ih, ih (0 * 256 + y), Int.pow_succ]
          simp only [Int.zero_mul, Int.zero_add, Int.add_mul]
          rw [Int.mul_assoc, Int.mul_comm 256]
          omega
      have h := this tl (0 * 256 + x)
      simp only [val, List.foldl_cons]
      rw [h]; simp [val]
    have hb := val_bound tl (fun z h => hz z (by simp [h]))
    simp only [List.length_cons] at hl ⊢
    simp only [List.getD_cons_zero]
    rw [e]
    by_cases h7 : tl.length = 7
    · rw [h7] at hb ⊢
      omega
    · have h6 : tl.length ≤ 6 := by omega
      have hp : 256 ^ tl.length ≤ 281474976710656 := Nat.le_trans (Nat.pow_le_pow_right (by omega) h6) (by decide)
      have ep : ((256 ^ tl.length : Nat) : Int) = (256 : Int) ^ tl.length := Int.natCast_pow 256 _
      rw [← ep] at hb ⊢
      generalize 256 ^ tl.length = q at *
      have hm : x * (q : Int) ≤ 255 * q := Int.mul_le_mul_of_nonneg_right (by omega) (by omega)
      constructor
      · intro h; omega
      · intro h; omega
end Tal
theorem Rf.rest {w : World} {X : Nat} {zs : List Int} {p : Nat} {e : Int} (h : Rf B w X zs p e) : ∃ a cap, w.cell? ⟨X, 0, none⟩ = some (.slice a zs.length cap) ∧ zs.length ≤ cap ∧ cap ≤ maxLen ∧ RowAt w (cutA a cap p) (zs.drop p) := by
  obtain ⟨hX, ⟨a, cap, h0, hc, hm, hr, hne⟩, h1, h2, f0, f1, f2, hp, hl⟩ := h
  exact ⟨a, cap, h0, hc, hm, hr.drop p cap hp hc⟩
set_option maxHeartbeats 1600000 in
theorem refNumber_any (X : Nat) (zs : List Int) (p : Nat) (e : Int) (w : World) (h : Rf B w X zs p e) :
    Calls Tryd.prog 76 #[.pointer (some ⟨X, 0, none⟩)] w fun en w' => en = .returned (.tuple #[.int .i64 (numR (zs.drop p)).1, .int .i64 ((numR (zs.drop p)).2.1 : Int), .int .i64 (numR (zs.drop p)).2.2]) ∧ ∃ k, w' = w.drewN k := by
  obtain ⟨a, cap, h0, hc, hm, hr⟩ := h.rest
  obtain ⟨hX, _, h1, h2, f0, f1, f2, hp, hl⟩ := h
  unfold maxLen at hm
  have hlen : (zs.drop p).length = zs.length - p := List.length_drop ..
  by_cases hcp : cap = p
  · have hnil : zs.drop p = [] := List.drop_eq_nil_of_le (by omega)
    have hzp : zs.length = p := by omega
    have HN : Hid (numR (zs.drop p) = (0, 0, 10)) := by show _ = _; rw [hnil]; rfl
    subst hcp
    clear hnil hlen
    go_enter Tryd.func76, Tryd.ntmps76
    go_wp2_with fail
    go_quiet (fail)
    go_wp2_with fail
    go_ret3
    rw [HN.out]
    exact ⟨rfl, _, rfl⟩
  · have hA : cutA a cap p = a.map (fun x => x.add p) := by unfold cutA; rw [if_neg hcp]
    rw [hA] at hr
    clear hA
    generalize hAm : Option.map (fun x : Addr => x.add p) a = A at *
    generalize zs.drop p = rest at *
    have hlr : zs.length - p = rest.length := hlen.symm
    have hcap : rest.length ≤ cap - p := by omega
    clear hlen
    cases rest with
    | nil =>
      have hlr0 : zs.length - p = 0 := hlr
      clear hlr
      go_enter Tryd.func76, Tryd.ntmps76
      go_wp2_with fail
      go_quiet (fail)
      go_wp2_with fail
      go_ret3
      exact ⟨rfl, _, rfl⟩
    | cons k tl =>
      obtain ⟨b, off, rfl, hb, hcb, hk0, hk1⟩ := hr.get 0 (by simp)
      have hk : (k :: tl).getD 0 0 = k := rfl
      rw [hk] at hcb hk0 hk1
      clear hk
      have hlr1 : zs.length - p = tl.length + 1 := by simpa using hlr
      clear hlr
      have hcb' : w.cell? ⟨b, off, none⟩ = some (.int .u8 k) := by simpa using hcb
      clear hcb
      by_cases hk8 : 8 < k
      · have HN : Hid (numR (k :: tl) = (0, 0, 11)) := by show _ = _; simp [numR, hk8]
        go_enter Tryd.func76, Tryd.ntmps76
        go_wp2_with fail
        go_quiet (fail)
        go_wp2_with fail
        go_ret3
        rw [HN.out]
        exact ⟨rfl, _, rfl⟩
      · by_cases hkl : (tl.length : Int) < k
        · have HN : Hid (numR (k :: tl) = (0, 0, 10)) := by show _ = _; simp [numR, hk8, hkl]
          go_enter Tryd.func76, Tryd.ntmps76
          go_wp2_with fail
          go_quiet (fail)
          go_wp2_with fail
          go_ret3
          rw [HN.out]
          exact ⟨rfl, _, rfl⟩
        · obtain ⟨q, hqk⟩ : ∃ q : Nat, k.toNat = q := ⟨_, rfl⟩
          have hkq : (q : Int) = k := by omega
          have hq : q ≤ tl.length := by omega
          have hds : (tl.take q).length = q := List.length_take_of_le hq
          have hzd : ∀ z ∈ tl.take q, 0 ≤ z ∧ z < 256 := fun z hz => hr.2.1 z (by simp [List.mem_of_mem_take hz])
          have HC : Hid (∀ t, 1 ≤ t → t ≤ q → w.cell? ⟨b, off + t, none⟩ = some (.int .u8 ((tl.take q).getD (t - 1) 0))) := by
            show ∀ t, _
            intro t ht1 ht2
            obtain ⟨b', off', hx, _, hcx, _⟩ := hr.get t (by simp; omega)
            simp only [Option.some.injEq, Addr.mk.injEq] at hx
            obtain ⟨rfl, rfl, _⟩ := hx
            rw [hcx]
            obtain ⟨u, rfl⟩ : ∃ u, t = u + 1 := ⟨t - 1, by omega⟩
            simp only [List.getD_eq_getElem?_getD, List.getElem?_cons_succ, Nat.add_sub_cancel, List.getElem?_take]
            rw [if_pos (by omega)]
          have h8 := val8 (tl.take q) hzd (by omega)
          rw [hds] at h8
          have HN : Hid (numR (k :: tl) = if (valR (tl.take q)).2 = 0 then ((valR (tl.take q)).1, 1 + q, 0) else (0, 0, (valR (tl.take q)).2)) := by
            show _ = _
            simp only [numR, if_neg hk8, if_neg hkl, hqk]
          have HVT : Hid (∀ j, j < q → val ((tl.take q).take (j + 1)) = val ((tl.take q).take j) * 256 + (tl.take q).getD j 0 ∧ 0 ≤ val ((tl.take q).take j) ∧ val ((tl.take q).take (j + 1)) ≤ val (tl.take q) ∧ 0 ≤ (tl.take q).getD j 0 ∧ (tl.take q).getD j 0 < 256) := by
            show ∀ j, _
            intro j hj
            refine ⟨val_take _ j (by omega), ?_⟩
            have h1 := val_bound ((tl.take q).take j) (fun z hz' => hzd z (List.mem_of_mem_take hz'))
            refine ⟨h1.1, val_mono _ hzd (j + 1) (by omega), ?_⟩
            rw [List.getD_eq_getElem?_getD, List.getElem?_eq_getElem (by omega)]
            exact hzd _ (List.getElem_mem _)
          have HH : Hid (∀ d, 0 < q → (tl.take q).getD 0 0 = d → ((tl.take q).head? = some 0 ↔ d = 0)) := by
            show ∀ d, _
            intro d hq0 hd
            cases hc : tl.take q with
            | nil => rw [hc] at hds; simp at hds; omega
            | cons x r => rw [hc] at hd; simp at hd ⊢; rw [hd]
          have hvl := val_bound (tl.take q) hzd
          have HVF : Hid ((tl.take q).take q = tl.take q) := by show _ = _; rw [List.take_of_length_le (by omega)]
          generalize tl.take q = ds at *
          have HQ : Hid ((q : Int) = k) := hkq
          clear hqk hkq hr
          by_cases hq0 : q = 0
          · subst hq0
            have hk00 : k = 0 := HQ.out.symm
            have hd0 : ds = [] := List.eq_nil_of_length_eq_zero hds
            have HN0 : Hid (numR (k :: tl) = (0, 1, 0)) := by
              show _ = _
              rw [HN.out, hd0]; decide
            subst hk00
            clear hd0 hds h8 hvl HQ
            go_enter Tryd.func76, Tryd.ntmps76
            go_wp2_with fail
            go_quiet (fail)
            go_wp2_with fail
            refine wp_loop_rounds 1 ?_
            rw [rounds_succ]
            go_wp2_with fail
            go_ret3
            rw [HN0.out]
            exact ⟨rfl, _, rfl⟩
          · obtain ⟨d, HD, hcd⟩ : ∃ d, Hid (ds.getD 0 0 = d) ∧ w.cell? ⟨b, off + 1, none⟩ = some (.int .u8 d) := ⟨_, rfl, HC.out 1 (by omega) (by omega)⟩
            have hh := HH.out d (by omega) HD.out
            have hkpos : 0 < k := by have := HQ.out; omega
            have hl2 : (1 : Int) < tl.length + 1 := by omega
            by_cases hd0 : d = 0
            · subst hd0
              have HN0 : Hid (numR (k :: tl) = (0, 0, 11)) := by
                show _ = _
                rw [HN.out]
                have : valR ds = (0, 11) := by unfold valR; rw [if_pos (Or.inl (hh.2 rfl))]
                rw [this]; rfl
              clear hds h8 hvl hh
              go_enter Tryd.func76, Tryd.ntmps76
              go_wp2_with fail
              go_quiet (fail)
              go_wp2_with fail
              go_ret3
              rw [HN0.out]
              exact ⟨rfl, _, rfl⟩
            · have hd0' : (d == 0) = false := by simpa using hd0
              rw [HD.out] at h8
              by_cases hbad : k = 8 ∧ 127 < d
              · obtain ⟨rfl, hd127⟩ := hbad
                have HN0 : Hid (numR (8 :: tl) = (0, 0, 11)) := by
                  show _ = _
                  rw [HN.out]
                  have : valR ds = (0, 11) := by unfold valR; rw [if_pos (Or.inr (h8.2 ⟨by have := HQ.out; omega, hd127⟩))]
                  rw [this]; rfl
                clear hds h8 hvl hh
                go_enter Tryd.func76, Tryd.ntmps76
                go_wp2_with fail
                go_quiet (fail)
                go_wp2_with fail
                go_ret3
                rw [HN0.out]
                exact ⟨rfl, _, rfl⟩
              · have hvn : ¬ (9223372036854775807 < val ds) := fun hv => hbad ⟨by have := HQ.out; have := (h8.1 hv).1; omega, (h8.1 hv).2⟩
                have HN0 : Hid (numR (k :: tl) = (val ds, 1 + q, 0)) := by
                  show _ = _
                  rw [HN.out]
                  have : valR ds = (val ds, 0) := by unfold valR; rw [if_neg (fun hc => hc.elim (fun h => hd0 (hh.1 h)) hvn)]
                  rw [this]; rfl
                have hvv : val ds ≤ 9223372036854775807 := by omega
                clear hds h8 hh hvn
                have hdec : (k == 8) = false ∨ ((k == 8) = true ∧ ¬ 127 < d) := by
                  by_cases hk8' : k = 8
                  · exact Or.inr ⟨by simpa using hk8', fun h => hbad ⟨hk8', h⟩⟩
                  · exact Or.inl (by simpa using hk8')
                clear hbad
                rcases hdec with hdec | ⟨hdec, hd127⟩
                all_goals
                  go_enter Tryd.func76, Tryd.ntmps76
                  go_wp2_with fail
                  go_quiet (fail)
                  go_wp2_with fail
                  go_loop [7, 8] (fun n i => ∃ t : Nat, t ≤ q ∧ i = .int .i64 ((t : Int) + 1) ∧ n = .int .i64 (val (ds.take t))) (fun _ i => q + 1 - (intOf i).toNat)
                  case atStart => exact ⟨0, by omega, rfl, rfl⟩
                  case round =>
                    obtain ⟨t, ht, rfl, rfl⟩ := hrel
                    by_cases hlt : t < q
                    · obtain ⟨z, hcx, hz0, hz1, hx0, hx1, HV⟩ : ∃ z, w.cell? ⟨b, off + (t + 1), none⟩ = some (.int .u8 z) ∧ 0 ≤ z ∧ z < 256 ∧ 0 ≤ val (ds.take t) ∧ 256 * val (ds.take t) + z ≤ 9223372036854775807 ∧ Hid (val (ds.take (t + 1)) = 256 * val (ds.take t) + z) := by
                        obtain ⟨e1, e2, e3, e4, e5⟩ := HVT.out t hlt
                        exact ⟨_, HC.out (t + 1) (by omega) (by omega), e4, e5, e2, by simp only [Nat.add_sub_cancel] at *; omega, by show _ = _; rw [e1]; simp only [Nat.add_sub_cancel]; omega⟩
                      generalize val (ds.take t) = X at *
                      have ht1 : (t : Int) + 1 ≤ k := by have := HQ.out; omega
                      have ht2 : (t : Int) + 1 < tl.length + 1 := by omega
                      go_wp2_with fail
                      go_round
                      case rel => exact ⟨t + 1, by omega, by go_num, by rw [HV.out]⟩
                      case measure => simp [intOf]; omega
                    · have htq : t = q := by omega
                      subst htq
                      rw [HVF.out]
                      have ht1 : ¬ ((t : Int) + 1 ≤ k) := by have := HQ.out; omega
                      go_wp2_with fail
                      go_ret3
                      rw [HN0.out]
                      refine ⟨?_, _, rfl⟩
                      have e10 : ((1 + t : Nat) : Int) = 1 + k := by have := HQ.out; omega
                      simp only [e10]
                      exact rfl
end Go.Proofs.YtinpbnkmpplkiaaDoor
namespace Go.Proofs.YtinpbnkmpplkiaaDoor
open Go.RowKit
open Sha Tal
variable {B : Nat}
theorem gbz_drewN (w : World) (k : Nat) (r : Option Nat) : w.grownBy (w.drewN k) r := ⟨rfl, rfl, rfl, Nat.le_refl _, fun _ _ _ => rfl⟩
theorem Rf.drewN {w : World} {X : Nat} {zs : List Int} {p : Nat} {e : Int} (h : Rf B w X zs p e) (k : Nat) : Rf B (w.drewN k) X zs p e := by
  obtain ⟨hX, ⟨a, cap, h0, hc, hm, hr, hne⟩, h1, h2, f0, f1, f2, hp, hl⟩ := h
  refine ⟨by simpa using hX, ⟨a, cap, by simpa using h0, hc, hm, hr.gb (gbz_drewN w k (some X)) (.inr (suc_ne hne)), hne⟩, by simpa using h1, by simpa using h2, by simpa using f0, by simpa using f1, by simpa using f2, hp, hl⟩
theorem Rf.set2 {w : World} {X : Nat} {zs : List Int} {p : Nat} {e : Int} (h : Rf B w X zs p e) (e' : Int) : Rf B (w.setCell ⟨X, 2, none⟩ (.int .i64 e')) X zs p e' := by
  obtain ⟨hX, ⟨a, cap, h0, hc, hm, hr, hne⟩, h1, h2, f0, f1, f2, hp, hl⟩ := h
  exact ⟨by simpa [World.setCell] using hX, ⟨a, cap, (World.cell?_setCell_other _ _ _ _ (by simp)).trans h0, hc, hm, hr.gb (gb_set w X 2 _) (.inr (suc_ne hne)), hne⟩, (World.cell?_setCell_other _ _ _ _ (by simp)).trans h1, World.cell?_setCell_same _ _ _ h2,
    (World.frozen?_setCell _ _ _ _).trans f0, (World.frozen?_setCell _ _ _ _).trans f1, (World.frozen?_setCell _ _ _ _).trans f2, hp, hl⟩
theorem Rf.set1 {w : World} {X : Nat} {zs : List Int} {p : Nat} {e : Int} (h : Rf B w X zs p e) (p' : Nat) (hp' : p' ≤ zs.length) : Rf B (w.setCell ⟨X, 1, none⟩ (.int .i64 (p' : Int))) X zs p' e := by
  obtain ⟨hX, ⟨a, cap, h0, hc, hm, hr, hne⟩, h1, h2, f0, f1, f2, hp, hl⟩ := h
  exact ⟨by simpa [World.setCell] using hX, ⟨a, cap, (World.cell?_setCell_other _ _ _ _ (by simp)).trans h0, hc, hm, hr.gb (gb_set w X 1 _) (.inr (suc_ne hne)), hne⟩, World.cell?_setCell_same _ _ _ h1, (World.cell?_setCell_other _ _ _ _ (by simp)).trans h2,
    (World.frozen?_setCell _ _ _ _).trans f0, (World.frozen?_setCell _ _ _ _).trans f1, (World.frozen?_setCell _ _ _ _).trans f2, hp', hl⟩
/-- the document's reader with this ahead of it and this error -/
def RSt (B : Nat) (w : World) (X : Nat) (rest : List Int) (e : Int) : Prop := ∃ zs p, Rf B w X zs p e ∧ (e = 0 → zs.drop p = rest)
theorem RSt.other {w : World} {X : Nat} {rest : List Int} {e : Int} (h : RSt B w X rest e) (he : e ≠ 0) (rest' : List Int) : RSt B w X rest' e := by
  obtain ⟨zs, p, h1, _⟩ := h
  exact ⟨zs, p, h1, fun h0 => absurd h0 he⟩
theorem numR_len (zs : List Int) (hz : ∀ z ∈ zs, 0 ≤ z ∧ z < 256) (h : (numR zs).2.2 = 0) : (numR zs).2.1 ≤ zs.length := (numR_form zs hz h).2.1
set_option maxHeartbeats 1600000 in
theorem refNum_any (X : Nat) (rest : List Int) (e most : Int) (w : World) (h : RSt B w X rest e) :
    Calls Tryd.prog 52 #[.pointer (some ⟨X, 0, none⟩), .int .i64 most] w fun en w' => en = .returned (.int .i64 (numS rest e most).1) ∧ RSt B w' X (numS rest e most).2.1 (numS rest e most).2.2 ∧ w.grownBy w' (some X) := by
  obtain ⟨zs, p, hR, hd⟩ := h
  by_cases he : e = 0
  · subst he
    have hd := hd rfl
    subst hd
    have cn := refNumber_any X zs p 0 w hR
    have hlen : (numR (zs.drop p)).2.2 = 0 → (numR (zs.drop p)).2.1 ≤ (zs.drop p).length := by
      obtain ⟨a, cap, _, _, _, hr⟩ := hR.rest
      exact numR_len _ hr.2.1
    rw [List.length_drop] at hlen
    have HS : Hid (numS (zs.drop p) 0 most = if (numR (zs.drop p)).2.2 = 0 then (if most < (numR (zs.drop p)).1 then (0, zs.drop p, 3) else ((numR (zs.drop p)).1, (zs.drop p).drop (numR (zs.drop p)).2.1, 0)) else (0, zs.drop p, (numR (zs.drop p)).2.2)) := by show _ = _; simp [numS]
    generalize (numR (zs.drop p)).1 = v at *
    generalize (numR (zs.drop p)).2.1 = c at *
    generalize (numR (zs.drop p)).2.2 = er at *
    have hl5 := hR.2.2.2.2.2.2.2.2
    have hpl := hR.2.2.2.2.2.2.2.1
    by_cases her : er = 0
    · subst her
      have hcl := hlen rfl
      clear hlen
      rw [if_pos rfl] at HS
      by_cases hmost : most < v
      · rw [if_pos hmost] at HS
        obtain ⟨_, _, _, h2, _⟩ := id hR
        go_enter Tryd.func52, Tryd.ntmps52
        go_wp2_with fail
        refine cn.mono ?_
        rintro en w1 ⟨rfl, k, rfl⟩
        clear cn
        have hR1 := hR.drewN k
        have f2 := hR1.2.2.2.2.2.2.1
        have h2' := hR1.2.2.2.1
        go_wp2_with fail
        go_ret
        rw [HS.out]
        exact ⟨rfl, ⟨zs, p, hR1.set2 3, fun h => by cases h⟩, gb_trans (gbz_drewN w k _) (gb_set _ X 2 _)⟩
      · rw [if_neg hmost] at HS
        obtain ⟨_, _, _, h2, _⟩ := id hR
        go_enter Tryd.func52, Tryd.ntmps52
        go_wp2_with fail
        refine cn.mono ?_
        rintro en w1 ⟨rfl, k, rfl⟩
        clear cn
        have hR1 := hR.drewN k
        have f1 := hR1.2.2.2.2.2.1
        have h1' := hR1.2.2.1
        have hR2 := hR1.set1 (p + c) (by omega)
        have ec : ((p + c : Nat) : Int) = (p : Int) + (c : Int) := by omega
        rw [ec] at hR2
        clear ec
        go_wp2_with fail
        go_ret
        rw [HS.out]
        exact ⟨rfl, ⟨zs, p + c, hR2, fun _ => by rw [List.drop_drop]⟩, gb_trans (gbz_drewN w k _) (gb_set _ X 1 _)⟩
    · have her' : (er == 0) = false := by simpa using her
      rw [if_neg her] at HS
      obtain ⟨_, _, _, h2, _⟩ := id hR
      clear hlen
      go_enter Tryd.func52, Tryd.ntmps52
      go_wp2_with fail
      refine cn.mono ?_
      rintro en w1 ⟨rfl, k, rfl⟩
      clear cn
      have hR1 := hR.drewN k
      have f2 := hR1.2.2.2.2.2.2.1
      have h2' := hR1.2.2.2.1
      go_wp2_with fail
      go_ret
      rw [HS.out]
      exact ⟨rfl, ⟨zs, p, hR1.set2 er, fun h => absurd h her⟩, gb_trans (gbz_drewN w k _) (gb_set _ X 2 _)⟩
  · have HS : Hid (numS rest e most = (0, rest, e)) := by show _ = _; simp [numS, he]
    have he' : (e == 0) = false := by simpa using he
    obtain ⟨_, _, _, h2, _⟩ := id hR
    go_enter Tryd.func52, Tryd.ntmps52
    go_wp2_with fail
    go_ret
    rw [HS.out]
    exact ⟨rfl, ⟨zs, p, hR, fun h => absurd h he⟩, gb_refl _ _⟩
end Go.Proofs.YtinpbnkmpplkiaaDoor
namespace Go.Proofs.YtinpbnkmpplkiaaDoor
open Go.RowKit
open Sha Tal
variable {B : Nat}
theorem numS_max (rest : List Int) (hz : ∀ z ∈ rest, 0 ≤ z ∧ z < 256) : numS rest 0 9223372036854775807 = if (numR rest).2.2 = 0 then ((numR rest).1, rest.drop (numR rest).2.1, 0) else (0, rest, (numR rest).2.2) := by
  unfold numS
  rw [if_pos rfl]
  by_cases h : (numR rest).2.2 = 0
  · have := (numR_form rest hz h).2.2.2
    rw [if_pos h, if_pos h, if_neg (by omega)]
  · rw [if_neg h, if_neg h]
set_option maxHeartbeats 1600000 in
theorem refText_bad (X : Nat) (zs : List Int) (p : Nat) (most : Int) (w : World) (hR : Rf B w X zs p 0) (v : Int) (c : Nat) (er er' : Int)
    (hn : numR (zs.drop p) = (v, c, er)) (h : (er ≠ 0 ∧ er' = er) ∨ (er = 0 ∧ most < v ∧ er' = 3) ∨ (er = 0 ∧ ¬ most < v ∧ (zs.length : Int) - p - c < v ∧ er' = 10)) (hcl : er = 0 → c ≤ zs.length - p) :
    Calls Tryd.prog 77 #[.pointer (some ⟨X, 0, none⟩), .int .i64 most] w fun en w' => en = .returned (.string ⟨#[]⟩) ∧ RSt B w' X [] er' ∧ w.grownBy w' (some X) := by
  have cn := refNumber_any X zs p 0 w hR
  rw [hn] at cn
  have hl5 := hR.2.2.2.2.2.2.2.2
  have hpl := hR.2.2.2.2.2.2.2.1
  have h2 := hR.2.2.2.1
  have f2 := hR.2.2.2.2.2.2.1
  have h1 := hR.2.2.1
  obtain ⟨a, cap, h0, hc, hm, hr⟩ := hR.rest
  rcases h with ⟨her, rfl⟩ | ⟨rfl, hmost, rfl⟩ | ⟨rfl, hmost, hfew, rfl⟩
  · have her' : (er' == 0) = false := by simpa using her
    go_enter Tryd.func77, Tryd.ntmps77
    go_wp2_with fail
    refine cn.mono ?_
    rintro en w1 ⟨rfl, k, rfl⟩
    clear cn
    go_wp2_with fail
    go_quiet (fail)
    go_wp2_with fail
    go_ret
    exact ⟨rfl, ⟨zs, p, (hR.drewN (k + nq)).set2 er', fun h => absurd h her⟩, gb_trans (gbz_drewN w (k + nq) _) (gb_set _ X 2 _)⟩
  · clear hcl
    go_enter Tryd.func77, Tryd.ntmps77
    go_wp2_with fail
    refine cn.mono ?_
    rintro en w1 ⟨rfl, k, rfl⟩
    clear cn
    go_wp2_with fail
    go_quiet (fail)
    go_wp2_with fail
    go_ret
    exact ⟨rfl, ⟨zs, p, (hR.drewN (k + nq)).set2 3, fun h => absurd h (by omega)⟩, gb_trans (gbz_drewN w (k + nq) _) (gb_set _ X 2 _)⟩
  · have hcl' := hcl rfl
    clear hcl
    go_enter Tryd.func77, Tryd.ntmps77
    go_wp2_with fail
    refine cn.mono ?_
    rintro en w1 ⟨rfl, k, rfl⟩
    clear cn
    go_wp2_with fail
    go_quiet (fail)
    go_wp2_with fail
    go_ret
    exact ⟨rfl, ⟨zs, p, (hR.drewN (k + nq)).set2 10, fun h => absurd h (by omega)⟩, gb_trans (gbz_drewN w (k + nq) _) (gb_set _ X 2 _)⟩

set_option maxHeartbeats 1600000 in
theorem refText_good (X : Nat) (zs : List Int) (p : Nat) (most : Int) (w : World) (hR : Rf B w X zs p 0) (m c : Nat)
    (hn : numR (zs.drop p) = ((m : Int), c, 0)) (hmost : ¬ most < (m : Int)) (hmc : p + c + m ≤ zs.length) :
    Calls Tryd.prog 77 #[.pointer (some ⟨X, 0, none⟩), .int .i64 most] w fun en w' => en = .returned (.string (strOf ((zs.drop (p + c)).take m))) ∧ RSt B w' X (zs.drop (p + c + m)) 0 ∧ w.grownBy w' (some X) := by
  have cn := refNumber_any X zs p 0 w hR
  rw [hn] at cn
  have hl5 := hR.2.2.2.2.2.2.2.2
  have hpl := hR.2.2.2.2.2.2.2.1
  have h2 := hR.2.2.2.1
  have f1 := hR.2.2.2.2.2.1
  have h1 := hR.2.2.1
  obtain ⟨a, cap, h0, hc, hm, hrow, hne⟩ := id hR.2.1
  unfold maxLen at hm
  have hfew : ¬ ((zs.length : Int) - p - c < m) := by omega
  have hS : ∀ k n, (convert 39 9 (.slice (cutA a cap (p + c)) m (cap - (p + c)))).run Tryd.prog (((w.drewN k).setCell ⟨X, 1, none⟩ (.int .i64 ((p : Int) + c + m))).drewN n) = .ok (.string (strOf ((zs.drop (p + c)).take m))) (((w.drewN k).setCell ⟨X, 1, none⟩ (.int .i64 ((p : Int) + c + m))).drewN n) := by
    intro k n
    have hg : w.grownBy (((w.drewN k).setCell ⟨X, 1, none⟩ (.int .i64 ((p : Int) + c + m))).drewN n) (some X) := gb_trans (gb_trans (gbz_drewN w k _) (gb_set _ X 1 _)) (gbz_drewN _ n _)
    have hr := ((hrow.drop (p + c) cap (by omega) hc).take m).gb hg (.inr (cutA_ne (suc_ne hne)))
    have hs := hr.str (cap - (p + c))
    rw [List.length_take_of_le (by rw [List.length_drop]; omega)] at hs
    exact hs
  have hRf : ∀ k n, Rf B (((w.drewN k).setCell ⟨X, 1, none⟩ (.int .i64 ((p : Int) + c + m))).drewN n) X zs (p + c + m) 0 := by
    intro k n
    have := ((hR.drewN k).set1 (p + c + m) hmc).drewN n
    have e : ((p + c + m : Nat) : Int) = (p : Int) + c + m := by omega
    rw [e] at this; exact this
  by_cases hcp : cap = p + c
  · have hA : cutA a cap (p + c) = a := by unfold cutA; rw [if_pos hcp]
    rw [hA] at hS
    clear hA
    obtain rfl : m = 0 := by omega
    subst hcp
    have e0 : ((0 : Nat) : Int) = 0 := rfl
    simp only [e0, Int.add_zero, Nat.add_zero, Nat.sub_self] at hS hRf cn hfew hmost ⊢
    clear e0
    go_enter Tryd.func77, Tryd.ntmps77
    go_wp2_with fail
    refine cn.mono ?_
    rintro en w1 ⟨rfl, k, rfl⟩
    clear cn
    go_wp2_with fail
    go_quiet (fail)
    go_wp2_with fail
    have hS' := hS (k + nq)
    go_quiet (fail)
    go_wp2_with fail
    go_ret
    exact ⟨rfl, ⟨zs, p + c, hRf _ _, fun _ => rfl⟩, gb_trans (gb_trans (gbz_drewN w _ _) (gb_set _ X 1 _)) (gbz_drewN _ _ _)⟩
  · have hA : cutA a cap (p + c) = a.map (fun x => x.add (p + c)) := by unfold cutA; rw [if_neg hcp]
    generalize hAA : Option.map (fun x : Addr => x.add (p + c)) a = A at *
    rw [hA] at hS
    clear hA
    go_enter Tryd.func77, Tryd.ntmps77
    go_wp2_with fail
    refine cn.mono ?_
    rintro en w1 ⟨rfl, k, rfl⟩
    clear cn
    go_wp2_with fail
    go_quiet (fail)
    go_wp2_with fail
    have hS' := hS (k + nq)
    go_quiet (fail)
    go_wp2_with fail
    go_ret
    exact ⟨rfl, ⟨zs, p + c + m, hRf _ _, fun _ => rfl⟩, gb_trans (gb_trans (gbz_drewN w _ _) (gb_set _ X 1 _)) (gbz_drewN _ _ _)⟩
end Go.Proofs.YtinpbnkmpplkiaaDoor
namespace Go.Proofs.YtinpbnkmpplkiaaDoor
open Go.RowKit
open Sha Tal
variable {B : Nat}
set_option maxHeartbeats 1600000 in
theorem refText_any (X : Nat) (rest : List Int) (e most : Int) (w : World) (h : RSt B w X rest e) :
    Calls Tryd.prog 77 #[.pointer (some ⟨X, 0, none⟩), .int .i64 most] w fun en w' => en = .returned (.string (strOf (textS rest e most).1)) ∧ RSt B w' X (textS rest e most).2.1 (textS rest e most).2.2 ∧ w.grownBy w' (some X) := by
  obtain ⟨zs, p, hR, hd⟩ := h
  by_cases he : e = 0
  · subst he
    have hd := hd rfl
    subst hd
    obtain ⟨a, cap, h0, hc, hm, hr⟩ := hR.rest
    have hz := hr.2.1
    have hN := numS_max (zs.drop p) hz
    have hform := numR_form (zs.drop p) hz
    rw [List.length_drop] at hform
    have hpl := hR.2.2.2.2.2.2.2.1
    obtain ⟨v, c, er, hn⟩ : ∃ v c er, numR (zs.drop p) = (v, c, er) := ⟨_, _, _, rfl⟩
    rw [hn] at hN hform
    simp only at hN hform
    by_cases her : er = 0
    · subst her
      obtain ⟨_, hcl, hv0, hv1⟩ := hform rfl
      rw [if_pos rfl] at hN
      obtain ⟨m, rfl⟩ := Int.eq_ofNat_of_zero_le hv0
      by_cases hmost : most < (m : Int)
      · have e1 : textS (zs.drop p) 0 most = ([], zs.drop p, 3) := by unfold textS; rw [hN]; simp [hmost]
        rw [e1]
        refine (refText_bad X zs p most w hR m c 0 3 hn (Or.inr (Or.inl ⟨rfl, hmost, rfl⟩)) (fun _ => hcl)).mono ?_
        rintro en w1 ⟨rfl, h1, h2⟩
        exact ⟨rfl, h1.other (by omega) _, h2⟩
      · by_cases hfew : (zs.length : Int) - p - c < m
        · have e1 : textS (zs.drop p) 0 most = ([], zs.drop p, 10) := by
            unfold textS; rw [hN]
            have : (((zs.drop p).drop c).length : Int) < m := by rw [List.length_drop, List.length_drop]; omega
            simp only [if_pos trivial, if_neg hmost, if_pos this]
          rw [e1]
          refine (refText_bad X zs p most w hR m c 0 10 hn (Or.inr (Or.inr ⟨rfl, hmost, hfew, rfl⟩)) (fun _ => hcl)).mono ?_
          rintro en w1 ⟨rfl, h1, h2⟩
          exact ⟨rfl, h1.other (by omega) _, h2⟩
        · have e1 : textS (zs.drop p) 0 most = ((zs.drop (p + c)).take m, zs.drop (p + c + m), 0) := by
            unfold textS; rw [hN]
            have : ¬ ((((zs.drop p).drop c).length : Int) < m) := by rw [List.length_drop, List.length_drop]; omega
            simp only [if_pos trivial, if_neg hmost]
            rw [if_neg this]
            simp only [Int.toNat_natCast, List.drop_drop]
          rw [e1]
          exact refText_good X zs p most w hR m c hn hmost (by omega)
    · rw [if_neg her] at hN
      have e1 : textS (zs.drop p) 0 most = ([], zs.drop p, er) := by unfold textS; rw [hN]; simp [her]
      rw [e1]
      refine (refText_bad X zs p most w hR v c er er hn (Or.inl ⟨her, rfl⟩) (fun h => absurd h her)).mono ?_
      rintro en w1 ⟨rfl, h1, h2⟩
      exact ⟨rfl, h1.other her _, h2⟩
  · have HS : Hid (textS rest e most = ([], rest, e)) := by
      show _ = _
      have : numS rest e 9223372036854775807 = (0, rest, e) := by simp [numS, he]
      unfold textS; rw [this]; simp [he]
    have he' : (e == 0) = false := by simpa using he
    obtain ⟨_, _, _, h2, _⟩ := id hR
    go_enter Tryd.func77, Tryd.ntmps77
    go_wp2_with fail
    go_ret
    rw [HS.out]
    exact ⟨rfl, ⟨zs, p, hR, fun h => absurd h he⟩, gb_refl _ _⟩
set_option maxHeartbeats 800000 in
theorem refLeft_any (X : Nat) (rest : List Int) (e : Int) (w : World) (h : RSt B w X rest e) :
    Calls Tryd.prog 31 #[.pointer (some ⟨X, 0, none⟩)] w fun en w' => en = .returned (.int .i64 (if e = 0 then (rest.length : Int) else 0)) ∧ ∃ k, w' = w.drewN k := by
  obtain ⟨zs, p, hR, hd⟩ := h
  have h2 := hR.2.2.2.1
  have h1 := hR.2.2.1
  have hpl := hR.2.2.2.2.2.2.2.1
  have hl5 := hR.2.2.2.2.2.2.2.2
  obtain ⟨a, cap, h0, hc, hm, hr⟩ := hR.rest
  by_cases he : e = 0
  · subst he
    have hd := hd rfl
    have HI : Hid ((if (0 : Int) = 0 then (rest.length : Int) else 0) = (zs.length : Int) - p) := by show _ = _; rw [if_pos rfl, ← hd, List.length_drop]; omega
    generalize (if (0 : Int) = 0 then (rest.length : Int) else 0) = q at *
    clear hd
    go_enter Tryd.func31, Tryd.ntmps31
    go_wp2_with fail
    go_quiet (fail)
    go_wp2_with fail
    go_ret
    rw [HI.out]
    exact ⟨rfl, _, rfl⟩
  · have he' : (e == 0) = false := by simpa using he
    have HI : Hid ((if e = 0 then (rest.length : Int) else 0) = 0) := if_neg he
    generalize (if e = 0 then (rest.length : Int) else 0) = q at *
    go_enter Tryd.func31, Tryd.ntmps31
    go_wp2_with fail
    go_ret
    rw [HI.out]
    exact ⟨rfl, 0, rfl⟩
end Go.Proofs.YtinpbnkmpplkiaaDoor
namespace Go.Proofs.YtinpbnkmpplkiaaDoor
open Go.RowKit
open Sha Tal
variable {B : Nat}
/-- what Raw answers, what is ahead then, the error then -/
def rawS (rest : List Int) (e n : Int) : List Int × List Int × Int :=
  if e = 0 then
    if n < 0 then ([], rest, 2)
    else if (rest.length : Int) < n then ([], rest, 10)
    else (rest.take n.toNat, rest.drop n.toNat, 0)
  else ([], rest, e)
theorem cell_block {w w' : World} {b j : Nat} (h : w'.heap[b]? = w.heap[b]?) : w'.cell? ⟨b, j, none⟩ = w.cell? ⟨b, j, none⟩ ∧ w'.frozen? ⟨b, j, none⟩ = w.frozen? ⟨b, j, none⟩ := by
  constructor
  · simp only [World.cell?, h]
  · simp only [World.frozen?, h]
theorem RdE.below {w w' : World} {R : Nat} {e : Int} (h : RdE w R e) (hb : w'.heap[R]? = w.heap[R]?) (hs : w.heap.size ≤ w'.heap.size) : RdE w' R e := by
  obtain ⟨hR, ⟨a, n, c, h0⟩, h1, h2, f0, f1, f2⟩ := h
  have hc := fun j => (cell_block (j := j) hb)
  exact ⟨Nat.lt_of_lt_of_le hR hs, ⟨a, n, c, (hc 0).1.trans h0⟩, (hc 1).1.trans h1, (hc 2).1.trans h2, (hc 0).2.trans f0, (hc 1).2.trans f1, (hc 2).2.trans f2⟩
theorem St.below {w w' : World} {R : Nat} {rest : List Int} {e : Int} (h : St w R rest e) (hb : Below w.heap.size w w') : St w' R rest e := by
  have hR := h.1.1
  refine ⟨h.1.below (hb.block R hR) hb.size, fun he => ?_⟩
  obtain ⟨a, cap, h0, hc, hm, hr, hne⟩ := h.2 he
  exact ⟨a, cap, (cell_block (hb.block R hR)).1.trans h0, hc, hm, hr.below hb, hne⟩
theorem Rf.below {w w' : World} {X : Nat} {zs : List Int} {p : Nat} {e : Int} (h : Rf B w X zs p e) (hb : Below w.heap.size w w') : Rf B w' X zs p e := by
  obtain ⟨hX, ⟨a, cap, h0, hc, hm, hr, hne⟩, h1, h2, f0, f1, f2, hp, hl⟩ := h
  have hk := fun j => (cell_block (j := j) (hb.block X hX))
  exact ⟨Nat.lt_of_lt_of_le hX hb.size, ⟨a, cap, (hk 0).1.trans h0, hc, hm, hr.below hb, hne⟩, (hk 1).1.trans h1, (hk 2).1.trans h2, (hk 0).2.trans f0, (hk 1).2.trans f1, (hk 2).2.trans f2, hp, hl⟩
theorem RSt.below {w w' : World} {X : Nat} {rest : List Int} {e : Int} (h : RSt B w X rest e) (hb : Below w.heap.size w w') : RSt B w' X rest e := by
  obtain ⟨zs, p, h1, h2⟩ := h
  exact ⟨zs, p, h1.below hb, h2⟩
theorem Mine.nil (w : World) (B : Nat) : Mine w B (.slice none 0 0) [] := ⟨World.ownsRow_nil _ _ _ _, by simp⟩
theorem Mine.mono' {w : World} {B B' : Nat} {v : Value} {zs : List Int} (h : Mine w B v zs) (hb : B' ≤ B) : Mine w B' v zs := by
  refine ⟨⟨h.1.1, ?_⟩, h.2⟩
  rcases h.1.2 with h | ⟨g, cap, cur, hv, hg, r⟩
  · exact .inl h
  · exact .inr ⟨g, cap, cur, hv, Nat.le_trans hb hg, r⟩
set_option maxHeartbeats 1600000 in
theorem raw_any (R : Nat) (rest : List Int) (e n : Int) (w : World) (h : St w R rest e) (hl : rest.length ≤ 5000) :
    Calls Tryd.prog 75 #[.pointer (some ⟨R, 0, none⟩), .int .i64 n] w fun en w' => ∃ v, en = .returned v ∧ Mine w' w.heap.size v (rawS rest e n).1 ∧ St w' R (rawS rest e n).2.1 (rawS rest e n).2.2 ∧ w.grownBy w' (some R) := by
  by_cases he : e = 0
  · subst he
    by_cases hn : n < 0
    · have HS : Hid (rawS rest 0 n = ([], rest, 2)) := by show _ = _; unfold rawS; rw [if_pos rfl, if_pos hn]
      go_enter Tryd.func75, Tryd.ntmps75
      go_wp2_with fail
      refine (err_made R 0 w h.1).mono ?_
      rintro en w1 ⟨rfl, rfl⟩
      go_wp2_with fail
      refine (fail_any R 0 2 w1 h.1).mono ?_
      rintro en w2 ⟨rfl, hE2, hg2⟩
      go_wp2_with fail
      go_ret
      rw [HS.out]
      exact ⟨_, rfl, Mine.nil _ _, ⟨hE2, fun h => by cases h⟩, hg2⟩
    · by_cases hf : (rest.length : Int) < n
      · have HS : Hid (rawS rest 0 n = ([], rest, 10)) := by show _ = _; unfold rawS; rw [if_pos rfl, if_neg hn, if_pos hf]
        go_enter Tryd.func75, Tryd.ntmps75
        go_wp2_with fail
        refine (err_made R 0 w h.1).mono ?_
        rintro en w1 ⟨rfl, rfl⟩
        go_wp2_with fail
        refine (next_few R rest n w1 h hf).mono ?_
        rintro en w2 ⟨rfl, hS2, hg2⟩
        have cc := clone_any none 0 [] w2 (nil_row w2) (by simp)
        simp only [List.length_nil] at cc
        go_wp2_with fail
        refine cc.mono ?_
        rintro en w3 ⟨v, rfl, hm, hb⟩
        go_wp2_with fail
        go_ret
        rw [HS.out]
        exact ⟨_, rfl, hm.mono' hg2.size, hS2.below hb, gb_trans hg2 (gb_below hb _)⟩
      · have HS : Hid (rawS rest 0 n = (rest.take n.toNat, rest.drop n.toNat, 0)) := by show _ = _; unfold rawS; rw [if_pos rfl, if_neg hn, if_neg hf]
        go_enter Tryd.func75, Tryd.ntmps75
        go_wp2_with fail
        refine (err_made R 0 w h.1).mono ?_
        rintro en w1 ⟨rfl, rfl⟩
        go_wp2_with fail
        refine (next_there R rest n w1 h (by omega) (by omega)).mono ?_
        rintro en w2 ⟨a, cap, rfl, hca, hra, hS2, hg2⟩
        have cc := clone_any a cap (rest.take n.toNat) w2 hra (by rw [List.length_take]; omega)
        rw [List.length_take_of_le (by omega)] at cc
        go_wp2_with fail
        refine cc.mono ?_
        rintro en w3 ⟨v, rfl, hm, hb⟩
        go_wp2_with fail
        go_ret
        rw [HS.out]
        exact ⟨_, rfl, hm.mono' hg2.size, hS2.below hb, gb_trans hg2 (gb_below hb _)⟩
  · have HS : Hid (rawS rest e n = ([], rest, e)) := by show _ = _; unfold rawS; rw [if_neg he]
    have he' : (e == 0) = false := by simpa using he
    go_enter Tryd.func75, Tryd.ntmps75
    go_wp2_with fail
    refine (err_made R e w h.1).mono ?_
    rintro en w1 ⟨rfl, rfl⟩
    go_wp2_with fail
    go_ret
    rw [HS.out]
    exact ⟨_, rfl, Mine.nil _ _, h, gb_refl _ _⟩
end Go.Proofs.YtinpbnkmpplkiaaDoor
namespace Go.Proofs.YtinpbnkmpplkiaaDoor
open Go.RowKit
open Sha Tal
set_option maxHeartbeats 800000 in
theorem refRead_any (a : Option Addr) (cap : Nat) (zs : List Int) (w : World) (h : RowAt w a zs) (hl : zs.length ≤ 5000) :
    Calls Tryd.prog 22 #[.slice a zs.length cap] w fun e w' => ∃ X, e = .returned (.pointer (some ⟨X, 0, none⟩)) ∧ w.heap.size ≤ X ∧ RSt w.heap.size w' X zs 0 ∧ Below w.heap.size w w' := by
  obtain ⟨i0, hi, hz0, hz1, hz2⟩ := info_parts info8
  go_enter Tryd.func22, Tryd.ntmps22
  go_wp2_with (at_builtin; refine wpList_append_own_src _ rfl _ _ 39 39 rfl w.heap.size 5 i0 (.int .u8 0) 1 1 Tryd.underlying39 hi hz0 hz1 hz2 rfl _ 0 [] rfl (World.ownsRow_made w #[] 0 (Nat.le_refl _) (by simp) (by simp)) (.slice a zs.length cap) zs.length (zs.map (Value.int .u8)) rfl ((h.below ((Below.refl _ _).alloc (Nat.le_refl _) _)).src cap) ?c1 ?c2 ?c3 ?_)
  case c1 => unfold maxLen; omega
  case c2 => omega
  case c3 => simp
  intro v' w1 hown hgrow
  have hb : Below w.heap.size w w1 := ((Below.refl _ _).alloc (Nat.le_refl _) _).grown hgrow (by simp) (fun k hk => by simp [Value.ownBlock] at hk; omega)
  have hmine : Mine w1 w.heap.size v' zs := ⟨by simpa using hown, h.2.1⟩
  clear hown hgrow
  obtain ⟨a', cap', rfl, hc1, hc2, hr⟩ := hmine.rowAt (by unfold maxLen; omega)
  have hblk : ∀ x, a' = some x → w.heap.size ≤ x.block ∧ x.block < w1.heap.size := fun x hx => hmine.1.lt x.block (by simp [hx, Value.ownBlock])
  have hb2 : Below w1.heap.size w1 (w1.alloc (.cells #[.slice a' zs.length cap', .int .i64 0, .int .i64 0] 52)) := (Below.refl _ _).alloc (Nat.le_refl _) _
  have hSt : RSt w.heap.size (w1.alloc (.cells #[.slice a' zs.length cap', .int .i64 0, .int .i64 0] 52)) w1.heap.size zs 0 := by
    have cs : ∀ j, (w1.alloc (.cells #[.slice a' zs.length cap', .int .i64 0, .int .i64 0] 52)).cell? ⟨w1.heap.size, j, none⟩ = (#[.slice a' zs.length cap', .int .i64 0, .int .i64 0] : Array Value)[j]? := fun j => World.cell?_alloc_at _ _ _ _ rfl
    have fs : ∀ j, (w1.alloc (.cells #[.slice a' zs.length cap', .int .i64 0, .int .i64 0] 52)).frozen? ⟨w1.heap.size, j, none⟩ = false := fun j => World.frozen?_alloc_at _ _ _ _ rfl
    exact ⟨zs, 0, ⟨by simp, ⟨a', cap', cs 0, hc1, hc2, hr.below hb2, hblk⟩, cs 1, cs 2, fs 0, fs 1, fs 2, Nat.zero_le _, hl⟩, fun _ => rfl⟩
  go_wp2_with fail
  go_ret
  exact ⟨_, rfl, hb.size, hSt, hb.trans (hb2.mono hb.size)⟩
end Go.Proofs.YtinpbnkmpplkiaaDoor
namespace Go.Proofs.YtinpbnkmpplkiaaDoor
open Go.RowKit
open Sha Tal
variable {B : Nat}
set_option maxRecDepth 100000 in
set_option maxHeartbeats 1600000 in
theorem refRaw_good (X : Nat) (zs : List Int) (p : Nat) (w : World) (hR : Rf B w X zs p 0) (m : Nat) (hmc : p + m ≤ zs.length) :
    Calls Tryd.prog 78 #[.pointer (some ⟨X, 0, none⟩), .int .i64 (m : Int)] w fun en w' => ∃ v, en = .returned v ∧ Mine w' w.heap.size v ((zs.drop p).take m) ∧ RSt B w' X (zs.drop (p + m)) 0 ∧ w.grownBy w' (some X) := by
  obtain ⟨i0, hi, hz0, hz1, hz2⟩ := info_parts info8
  have hl5 := hR.2.2.2.2.2.2.2.2
  have hpl := hR.2.2.2.2.2.2.2.1
  have h2 := hR.2.2.2.1
  have f1 := hR.2.2.2.2.2.1
  have h1 := hR.2.2.1
  obtain ⟨a, cap, h0, hc, hm, hrow, hne⟩ := id hR.2.1
  unfold maxLen at hm
  have hfew : ¬ ((zs.length : Int) - p < m) := by omega
  have hn0 : ¬ ((m : Int) < 0) := by omega
  go_enter Tryd.func78, Tryd.ntmps78
  go_wp2_with fail
  go_quiet (fail)
  go_wp2_with fail
  have hwrap : IntKind.i64.wrap (p : Int) = p := by
    have e : (p : Int) % 2 ^ 64 = p := by omega
    simp only [IntKind.wrap, IntKind.bits, IntKind.signed, e]
    rw [if_neg (by simp; omega)]
  have hRf : Rf B ((w.drewN nq).setCell ⟨X, 1, none⟩ (.int .i64 ((p : Int) + m))) X zs (p + m) 0 := by
    have := (hR.drewN nq).set1 (p + m) hmc
    have e : ((p + m : Nat) : Int) = (p : Int) + m := by omega
    rw [e] at this; exact this
  have hgW : w.grownBy ((w.drewN nq).setCell ⟨X, 1, none⟩ (.int .i64 ((p : Int) + m))) (some X) := gb_trans (gbz_drewN w nq _) (gb_set _ X 1 _)
  have HC0 : ((w.drewN nq).setCell ⟨X, 1, none⟩ (.int .i64 ((p : Int) + m))).drew.cell? ⟨X, 0, none⟩ = some (.slice a zs.length cap) := by
    have : (w.drewN nq).cell? ⟨X, 0, none⟩ = some (.slice a zs.length cap) := by simpa using h0
    exact (World.cell?_setCell_other _ _ _ _ (by simp)).trans this
  generalize (w.drewN nq).setCell ⟨X, 1, none⟩ (.int .i64 ((p : Int) + m)) = W at *
  have hW : Below W.heap.size W W.drew := (Below.refl _ _).drew
  have hRd : Rf B W.drew X zs (p + m) 0 := hRf.below hW
  have hrd : RowAt W.drew a zs := (hrow.gb hgW (.inr (suc_ne hne))).below hW
  have hsz : w.heap.size ≤ W.drew.heap.size := hgW.size
  clear h0 h1 h2 f1 hrow
  have hk0 : ∀ w', Below W.drew.heap.size W.drew w' → w'.cell? ⟨X, 0, none⟩ = some (.slice a zs.length cap) := by
    intro w' hw
    have hb := (cell_block (j := 0) (hw.block X hRd.1)).1
    rw [hb]; exact HC0
  have hk1 : ∀ w', Below W.drew.heap.size W.drew w' → w'.cell? ⟨X, 1, none⟩ = some (.int .i64 ((p : Int) + m)) := by
    intro w' hw
    have hb := (cell_block (j := 1) (hw.block X hRd.1)).1
    have := hRd.2.2.1
    have e : ((p + m : Nat) : Int) = (p : Int) + m := by omega
    rw [hb, this, e]
  have hsrc : Src Tryd.prog 1 39 (.slice (cutA a cap p) m (cap - p)) m (((zs.drop p).take m).map (Value.int .u8)) (W.drew.alloc (.cells #[] 5)) := by
    have hr := (((hrd.drop p cap hpl hc).take m).below ((Below.refl _ _).alloc (Nat.le_refl _) (.cells #[] 5))).src (cap - p)
    have el : ((zs.drop p).take m).length = m := by rw [List.length_take, List.length_drop]; omega
    rw [el] at hr; exact hr
  refine held_begin 18 rfl (by kernel_rfl) ?_
  have hS := Below.refl (W.drew).heap.size W.drew
  refine held_take (i := 1) (d := some 40) (v := ?_) rfl (by kernel_rfl) (by kernel_rfl) (by kernel_rfl) (by rfl) ?_ (by assumption) rfl ?_
  rotate_left
  · intro w' hw
    go_simp
    try with_reducible rfl
  simp only [Act.put, List.setIfInBounds_toArray, List.set_cons_zero, List.set_cons_succ]
  refine held_take (i := 2) (d := some 41) (v := ?_) rfl (by kernel_rfl) (by kernel_rfl) (by kernel_rfl) (by rfl) ?_ (by assumption) rfl ?_
  rotate_left
  · intro w' hw
    go_simp
    try with_reducible rfl
  simp only [Act.put, List.setIfInBounds_toArray, List.set_cons_zero, List.set_cons_succ]
  refine held_take (i := 3) (d := some 42) (v := ?_) rfl (by kernel_rfl) (by kernel_rfl) (by kernel_rfl) (by rfl) ?_ (by assumption) rfl ?_
  rotate_left
  · intro w' hw
    go_simp
    try with_reducible rfl
  simp only [Act.put, List.setIfInBounds_toArray, List.set_cons_zero, List.set_cons_succ]
  refine held_take (i := 4) (d := some 43) (v := ?_) rfl (by kernel_rfl) (by kernel_rfl) (by kernel_rfl) (by rfl) ?_ (by assumption) rfl ?_
  rotate_left
  · intro w' hw
    have c0 := hk0 w' hw
    have c1 := hk1 w' hw
    go_simp
    try with_reducible rfl
  simp only [Act.put, List.setIfInBounds_toArray, List.set_cons_zero, List.set_cons_succ]
  refine held_take (i := 5) (d := some 44) (v := ?_) rfl (by kernel_rfl) (by kernel_rfl) (by kernel_rfl) (by rfl) ?_ (by assumption) rfl ?_
  rotate_left
  · intro w' hw
    go_simp
    try with_reducible rfl
  simp only [Act.put, List.setIfInBounds_toArray, List.set_cons_zero, List.set_cons_succ]
  refine held_take (i := 6) (d := some 45) (v := ?_) rfl (by kernel_rfl) (by kernel_rfl) (by kernel_rfl) (by rfl) ?_ (by assumption) rfl ?_
  rotate_left
  · intro w' hw
    go_simp
    try with_reducible rfl
  simp only [Act.put, List.setIfInBounds_toArray, List.set_cons_zero, List.set_cons_succ]
  refine held_take (i := 7) (d := some 46) (v := ?_) rfl (by kernel_rfl) (by kernel_rfl) (by kernel_rfl) (by rfl) ?_ (by assumption) rfl ?_
  rotate_left
  · intro w' hw
    go_simp
    try with_reducible rfl
  simp only [Act.put, List.setIfInBounds_toArray, List.set_cons_zero, List.set_cons_succ]
  refine held_take (i := 8) (d := some 47) (v := ?_) rfl (by kernel_rfl) (by kernel_rfl) (by kernel_rfl) (by rfl) ?_ (by assumption) rfl ?_
  rotate_left
  · intro w' hw
    have c0 := hk0 w' hw
    have c1 := hk1 w' hw
    go_simp
    try with_reducible rfl
  simp only [Act.put, List.setIfInBounds_toArray, List.set_cons_zero, List.set_cons_succ]
  refine held_take (i := 9) (d := some 48) (v := ?_) rfl (by kernel_rfl) (by kernel_rfl) (by kernel_rfl) (by rfl) ?_ (by assumption) rfl ?_
  rotate_left
  · intro w' hw
    go_simp
    try with_reducible rfl
  simp only [Act.put, List.setIfInBounds_toArray, List.set_cons_zero, List.set_cons_succ]
  refine held_take (i := 10) (d := some 49) (v := .int .i64 (p : Int)) rfl (by kernel_rfl) (by kernel_rfl) (by kernel_rfl) (by rfl) ?_ (by assumption) rfl ?_
  · intro w' hw
    go_simp
  simp only [Act.put, List.setIfInBounds_toArray, List.set_cons_zero, List.set_cons_succ]
  refine held_take (i := 11) (d := some 50) (v := ?_) rfl (by kernel_rfl) (by kernel_rfl) (by kernel_rfl) (by rfl) ?_ (by assumption) rfl ?_
  rotate_left
  · intro w' hw
    go_simp
    try with_reducible rfl
  simp only [Act.put, List.setIfInBounds_toArray, List.set_cons_zero, List.set_cons_succ]
  refine held_take (i := 12) (d := some 51) (v := ?_) rfl (by kernel_rfl) (by kernel_rfl) (by kernel_rfl) (by rfl) ?_ (by assumption) rfl ?_
  rotate_left
  · intro w' hw
    go_simp
    try with_reducible rfl
  simp only [Act.put, List.setIfInBounds_toArray, List.set_cons_zero, List.set_cons_succ]
  refine held_take (i := 13) (d := some 52) (v := ?_) rfl (by kernel_rfl) (by kernel_rfl) (by kernel_rfl) (by rfl) ?_ (by assumption) rfl ?_
  rotate_left
  · intro w' hw
    go_simp
    try with_reducible rfl
  simp only [Act.put, List.setIfInBounds_toArray, List.set_cons_zero, List.set_cons_succ]
  refine held_take (i := 14) (d := some 53) (v := ?_) rfl (by kernel_rfl) (by kernel_rfl) (by kernel_rfl) (by rfl) ?_ (by assumption) rfl ?_
  rotate_left
  · intro w' hw
    have c0 := hk0 w' hw
    have c1 := hk1 w' hw
    go_simp
    try with_reducible rfl
  simp only [Act.put, List.setIfInBounds_toArray, List.set_cons_zero, List.set_cons_succ]
  refine held_take (i := 15) (d := some 54) (v := .slice (cutA a cap p) m (cap - p)) rfl (by kernel_rfl) (by kernel_rfl) (by kernel_rfl) (by rfl) ?_ (by assumption) rfl ?_
  · intro w' hw
    go_simp
    rw [if_pos (by omega), if_pos (by omega)]
    have e1 : ((p : Int) + m).toNat - p = m := by omega
    rw [e1]
    simp only [cutA]
  simp only [Act.put, List.setIfInBounds_toArray, List.set_cons_zero, List.set_cons_succ]
  refine held_run (i := 0) (d := some 39) (v := .slice (some ⟨W.drew.heap.size, 0, none⟩) 0 0) (w' := W.drew.alloc (.cells #[] 5)) rfl (by kernel_rfl) (by rfl) (by go_simp; try with_reducible rfl) rfl ?_ ?_
  · exact (Below.refl _ _).alloc (Nat.le_refl _) _
  simp only [Act.put, List.setIfInBounds_toArray, List.set_cons_zero, List.set_cons_succ]
  obtain ⟨v', w', hrun, hown, hgrow⟩ := run_append_own_src (P := Tryd.prog) (W.drew.alloc (.cells #[] 5)) W.drew.heap.size 39 39 39 5 i0 (.int .u8 0) 1 1 Tryd.underlying39 hi hz0 hz1 hz2 rfl (.slice (some ⟨W.drew.heap.size, 0, none⟩) 0 0) 0 [] (World.ownsRow_made W.drew #[] 0 (Nat.le_refl _) (by simp) (by simp)) (.slice (cutA a cap p) m (cap - p)) m (((zs.drop p).take m).map (Value.int .u8)) hsrc (by unfold maxLen; omega) (by omega) (by simp)
  have hb1 : Below W.drew.heap.size W.drew w' := ((Below.refl _ _).alloc (Nat.le_refl _) _).grown hgrow (by simp) (fun k hk => by simp [Value.ownBlock] at hk; have : W.drew.heap.size = W.heap.size := rfl; omega)
  refine held_run (i := 16) (d := some 55) (v := v') (w' := w') rfl (by kernel_rfl) (by rfl) (exec_append rfl rfl rfl hrun) rfl hb1 ?_
  simp only [Act.put, List.setIfInBounds_toArray, List.set_cons_zero, List.set_cons_succ]
  refine held_take (i := 17) (d := some 4) (v := ?_) rfl (by kernel_rfl) (by kernel_rfl) (by kernel_rfl) (by rfl) ?_ (by assumption) rfl ?_
  rotate_left
  · intro w' hw
    go_simp
    try with_reducible rfl
  simp only [Act.put, List.setIfInBounds_toArray, List.set_cons_zero, List.set_cons_succ]
  refine held_done (by kernel_rfl) ?_
  go_wp2_with fail
  go_ret
  have el : ((zs.drop p).take m).length = m := by rw [List.length_take, List.length_drop]; omega
  have hM : Mine w' W.drew.heap.size v' ((zs.drop p).take m) := Mine.mk' _ hown (by rw [el]; omega) (by simp) (fun z hz => hrd.2.1 z (List.mem_of_mem_drop (List.mem_of_mem_take hz)))
  exact ⟨_, rfl, hM.mono' hsz, ⟨zs, p + m, hRd.below hb1, fun _ => rfl⟩, gb_trans hgW (gb_below (hW.trans hb1) _)⟩
set_option maxRecDepth 100000 in
set_option maxHeartbeats 1600000 in
theorem refRaw_any (X : Nat) (rest : List Int) (e n : Int) (w : World) (h : RSt B w X rest e) :
    Calls Tryd.prog 78 #[.pointer (some ⟨X, 0, none⟩), .int .i64 n] w fun en w' => ∃ v, en = .returned v ∧ Mine w' w.heap.size v (rawS rest e n).1 ∧ RSt B w' X (rawS rest e n).2.1 (rawS rest e n).2.2 ∧ w.grownBy w' (some X) := by
  obtain ⟨zs, p, hR, hd⟩ := h
  have hl5 := hR.2.2.2.2.2.2.2.2
  have hpl := hR.2.2.2.2.2.2.2.1
  by_cases he : e = 0
  · subst he
    have hd := hd rfl
    subst hd
    by_cases hn : n < 0
    · have HS : Hid (rawS (zs.drop p) 0 n = ([], zs.drop p, 2)) := by show _ = _; unfold rawS; rw [if_pos rfl, if_pos hn]
      have h2 := hR.2.2.2.1
      have f2 := hR.2.2.2.2.2.2.1
      go_enter Tryd.func78, Tryd.ntmps78
      go_wp2_with fail
      go_ret
      rw [HS.out]
      exact ⟨_, rfl, Mine.nil _ _, ⟨zs, p, hR.set2 2, fun h => by cases h⟩, gb_set _ X 2 _⟩
    · by_cases hf : (zs.length : Int) - p < n
      · have HS : Hid (rawS (zs.drop p) 0 n = ([], zs.drop p, 10)) := by show _ = _; unfold rawS; rw [if_pos rfl, if_neg hn, if_pos (by rw [List.length_drop]; omega)]
        have h2 := hR.2.2.2.1
        have h1 := hR.2.2.1
        have f2 := hR.2.2.2.2.2.2.1
        obtain ⟨a, cap, h0, hc, hm, hr⟩ := hR.rest
        go_enter Tryd.func78, Tryd.ntmps78
        go_wp2_with fail
        go_quiet (fail)
        go_wp2_with fail
        go_ret
        rw [HS.out]
        exact ⟨_, rfl, Mine.nil _ _, ⟨zs, p, (hR.drewN nq).set2 10, fun h => by cases h⟩, gb_trans (gbz_drewN w nq _) (gb_set _ X 2 _)⟩
      · obtain ⟨m, rfl⟩ := Int.eq_ofNat_of_zero_le (Int.not_lt.1 hn)
        have e1 : rawS (zs.drop p) 0 (m : Int) = ((zs.drop p).take m, zs.drop (p + m), 0) := by
          unfold rawS; rw [if_pos rfl, if_neg hn, if_neg (by rw [List.length_drop]; omega), Int.toNat_natCast, List.drop_drop]
        rw [e1]
        exact refRaw_good X zs p w hR m (by omega)
  · have HS : Hid (rawS rest e n = ([], rest, e)) := by show _ = _; unfold rawS; rw [if_neg he]
    have he' : (e == 0) = false := by simpa using he
    have h2 := hR.2.2.2.1
    go_enter Tryd.func78, Tryd.ntmps78
    go_wp2_with fail
    go_ret
    rw [HS.out]
    exact ⟨_, rfl, Mine.nil _ _, ⟨zs, p, hR, fun h => absurd h he⟩, gb_refl _ _⟩
end Go.Proofs.YtinpbnkmpplkiaaDoor
namespace Go.Proofs.YtinpbnkmpplkiaaDoor
open Go.RowKit
open Sha Tal
theorem RdE.gb {w w' : World} {R : Nat} {e : Int} {r : Option Nat} (h : RdE w R e) (hg : w.grownBy w' r) (hr : some R ≠ r) : RdE w' R e :=
  h.below (hg.block R h.1 hr) hg.size
/-- a reader stays where a block beyond it turns -/
theorem St.gb {w w' : World} {R g : Nat} {rest : List Int} {e : Int} (h : St w R rest e) (hg : w.grownBy w' (some g)) (hr : R < g) : St w' R rest e := by
  refine ⟨h.1.gb hg (by intro q; injection q with q; omega), fun he => ?_⟩
  obtain ⟨a, cap, h0, hc, hm, hrow, hlt⟩ := h.2 he
  refine ⟨a, cap, (cell_block (hg.block R h.1.1 (by intro q; injection q with q; omega))).1.trans h0, hc, hm, hrow.gb hg (.inr (fun x hx => by have := hlt x hx; omega)), hlt⟩
/-- the document's reader stays where a block turns that is not its own nor its bytes' -/
theorem RSt.gb {B : Nat} {w w' : World} {X g : Nat} {rest : List Int} {e : Int} (h : RSt B w X rest e) (hg : w.grownBy w' (some g)) (hr : g < B ∧ g ≠ X ∨ X < g) : RSt B w' X rest e := by
  obtain ⟨zs, p, ⟨hX, ⟨a, cap, h0, hc, hm, hrow, hlt⟩, h1, h2, f0, f1, f2, hp, hl⟩, hd⟩ := h
  have hne : some X ≠ some g := by intro q; injection q with q; omega
  have hk := fun j => @cell_block w w' X j (hg.block X hX hne)
  exact ⟨zs, p, ⟨Nat.lt_of_lt_of_le hX hg.size, ⟨a, cap, (hk 0).1.trans h0, hc, hm, hrow.gb hg (.inr (fun x hx => by have := hlt x hx; omega)), hlt⟩, (hk 1).1.trans h1, (hk 2).1.trans h2, (hk 0).2.trans f0, (hk 1).2.trans f1, (hk 2).2.trans f2, hp, hl⟩, hd⟩
/-- all blocks of w but R and X lie in W as they lay -/
structure Kept (w : World) (R X : Nat) (W : World) : Prop where
  os : W.os = w.os
  tape : W.tape = w.tape
  output : W.output = w.output
  size : w.heap.size ≤ W.heap.size
  block : ∀ k, k < w.heap.size → k ≠ R → k ≠ X → W.heap[k]? = w.heap[k]?
theorem Kept.refl (w : World) (R X : Nat) : Kept w R X w := ⟨rfl, rfl, rfl, Nat.le_refl _, fun _ _ _ _ => rfl⟩
theorem Kept.gb {w W W' : World} {R X g : Nat} (h : Kept w R X W) (hg : W.grownBy W' (some g)) (hr : g = R ∨ g = X ∨ w.heap.size ≤ g) : Kept w R X W' :=
  ⟨hg.os.trans h.os, hg.tape.trans h.tape, hg.output.trans h.output, Nat.le_trans h.size hg.size, fun k hk k1 k2 => (hg.block k (Nat.lt_of_lt_of_le hk h.size) (by intro q; injection q with q; omega)).trans (h.block k hk k1 k2)⟩
theorem Kept.below {w W W' : World} {R X : Nat} (h : Kept w R X W) (hb : Below W.heap.size W W') : Kept w R X W' :=
  ⟨hb.os.trans h.os, hb.tape.trans h.tape, hb.output.trans h.output, Nat.le_trans h.size hb.size, fun k hk k1 k2 => (hb.block k (Nat.lt_of_lt_of_le hk h.size)).trans (h.block k hk k1 k2)⟩
theorem Kept.to {w0 w W : World} {R X : Nat} (h : Kept w R X W) (hb : Below w0.heap.size w0 w) (hR : w0.heap.size ≤ R) (hX : w0.heap.size ≤ X) : Below w0.heap.size w0 W :=
  ⟨h.os.trans hb.os, h.tape.trans hb.tape, h.output.trans hb.output, Nat.le_trans hb.size h.size, fun k hk => (h.block k (Nat.lt_of_lt_of_le hk hb.size) (by omega) (by omega)).trans (hb.block k hk)⟩
/-- both readers, at the same bytes with the same error -/
structure Two (B : Nat) (w : World) (R X : Nat) (W : World) (rest : List Int) (e : Int) : Prop where
  own : St W R rest e
  doc : RSt B W X rest e
  kept : Kept w R X W
theorem Two.below {B : Nat} {w W W' : World} {R X : Nat} {rest : List Int} {e : Int} (h : Two B w R X W rest e) (hb : Below W.heap.size W W') : Two B w R X W' rest e :=
  ⟨h.own.below hb, h.doc.below hb, h.kept.below hb⟩
theorem Two.gb {B : Nat} {w W W' : World} {R X g : Nat} {rest : List Int} {e : Int} (h : Two B w R X W rest e) (hg : W.grownBy W' (some g)) (h1 : R < X) (h2 : X < g) (h3 : w.heap.size ≤ g) : Two B w R X W' rest e :=
  ⟨h.own.gb hg (by omega), h.doc.gb hg (.inr h2), h.kept.gb hg (.inr (.inr h3))⟩
/-- one step of both -/
theorem Two.step {B : Nat} {w W W1 W2 : World} {R X : Nat} {rest rest' : List Int} {e e' : Int} (h : Two B w R X W rest e) (hRX : R < X) (hRB : R < B)
    (s1 : St W1 R rest' e') (g1 : W.grownBy W1 (some R)) (s2 : RSt B W1 X rest e → RSt B W2 X rest' e' ∧ W1.grownBy W2 (some X)) : Two B w R X W2 rest' e' := by
  have hd := h.doc.gb g1 (.inl ⟨hRB, by omega⟩)
  obtain ⟨d2, g2⟩ := s2 hd
  exact ⟨s1.gb g2 hRX, d2, (h.kept.gb g1 (.inl rfl)).gb g2 (.inr (.inl rfl))⟩
theorem numR_nonneg (zs : List Int) (hz : ∀ z ∈ zs, 0 ≤ z ∧ z < 256) : 0 ≤ (numR zs).1 := by
  cases zs with
  | nil => simp [numR]
  | cons k tl =>
    simp only [numR]
    split
    · simp
    · split
      · simp
      · split
        · have hb := val_bound (tl.take k.toNat) (fun z hzz => hz z (List.mem_cons_of_mem _ (List.mem_of_mem_take hzz)))
          simp only [valR]
          split
          · simp
          · exact hb.1
        · simp
theorem St.pos {w : World} {R : Nat} {rest : List Int} {e : Int} (h : St w R rest e) : 0 ≤ (numS rest e 9223372036854775807).1 := by
  unfold numS
  by_cases he : e = 0
  · rw [if_pos he]
    obtain ⟨a, cap, h0, hc, hm, hrow, hlt⟩ := h.2 he
    have := numR_nonneg rest hrow.2.1
    split
    · split
      · simp
      · exact this
    · simp
  · rw [if_neg he]; simp
end Go.Proofs.YtinpbnkmpplkiaaDoor
