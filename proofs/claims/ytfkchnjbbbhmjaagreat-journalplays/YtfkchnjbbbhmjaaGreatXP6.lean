/- The document's reader: number.; The document's reader: Num.; The document's reader: Text.; The readers: Text, Left, Done of the document's, Done of the program's.; The readers: Raw of the program's; Read of the document's.; journal: sumOf, turnOf; tally's Done; The document's reader: Read.; the document's reader: Done; the document's turn; what was put is read back; strings and bytes; the document's first; a frame fits if and only if its sum is right; the frames of bytes; a journal: what is told of it; Sync, Append; two rows that grow: kinds and records; the document's Frames; the document's Frames; crc24's Fits -/
import Derived.Test.YtfkchnjbbbhmjaaGreatXP5
import Derived.BigQuiet
import Derived.Test.YtfkchnjbbbhmjaaGreatXP2
import Derived.Laws.IdiomStrings
namespace Go.Proofs.YtfkchnjbbbhmjaaGreat.Ty
open Go.RowKit
open Tal
variable {B T : Nat}
/-- the document's reader: its bytes, its place, its error -/
def Rf (B T : Nat) (w : World) (X : Nat) (zs : List Int) (p : Nat) (e : Int) : Prop :=
  X < w.heap.size ∧ (∃ a cap, w.cell? ⟨X, 0, none⟩ = some (.slice a zs.length cap) ∧ zs.length ≤ cap ∧ cap ≤ maxLen ∧ RowAt w a zs ∧ ∀ x, a = some x → B ≤ x.block ∧ x.block < X) ∧
  w.cell? ⟨X, 1, none⟩ = some (.int .i64 (p : Int)) ∧ w.cell? ⟨X, 2, none⟩ = some (.int .i64 e) ∧ w.frozen? ⟨X, 0, none⟩ = false ∧ w.frozen? ⟨X, 1, none⟩ = false ∧ w.frozen? ⟨X, 2, none⟩ = false ∧ p ≤ zs.length ∧ (zs.length ≤ 100000000 ∧ zs.length = T)
theorem suc_ne {a : Option Addr} {X : Nat} (h : ∀ x, a = some x → B ≤ x.block ∧ x.block < X) : ∀ x, a = some x → x.block ≠ X := fun x hx => Nat.ne_of_lt (h x hx).2
namespace Tal
theorem val_mono (ds : List Int) (hz : ∀ z ∈ ds, 0 ≤ z ∧ z < 256) (j : Nat) (hj : j ≤ ds.length) : val (ds.take j) ≤ val ds := by
  have : ∀ m, j + m ≤ ds.length → val (ds.take j) ≤ val (ds.take (j + m)) := by
    intro m
    induction m with
    | zero => intro _; exact Int.le_refl _
    | succ m ih =>
      intro hm
      have h1 := ih (by omega)
      have hlt : j + m < ds.length := by omega
      have e := val_take ds (j + m) hlt
      have hb := val_bound (ds.take (j + m)) (fun z h => hz z (List.mem_of_mem_take h))
      have hd : 0 ≤ ds.getD (j + m) 0 := by
        rw [List.getD_eq_getElem?_getD, List.getElem?_eq_getElem hlt]; exact (hz _ (List.getElem_mem hlt)).1
      rw [← Nat.add_assoc, e]
      omega
  have h := this (ds.length - j) (by omega)
  have e : j + (ds.length - j) = ds.length := by omega
  rw [e, List.take_length] at h
  exact h
theorem val8 (ds : List Int) (hz : ∀ z ∈ ds, 0 ≤ z ∧ z < 256) (hl : ds.length ≤ 8) : (9223372036854775807 < val ds) ↔ (ds.length = 8 ∧ 127 < ds.getD 0 0) := by
  cases ds with
  | nil => simp [val]
  | cons x tl =>
    have hx := hz x (by simp)
    have e : val (x :: tl) = x * 256 ^ tl.length + val tl := by
      have : ∀ (l : List Int) (a : Int), l.foldl (fun a d => a * 256 + d) a = a * 256 ^ l.length + val l := by
        intro l
        induction l with
        | nil => intro a; simp [val]
        | cons y l ih =>
          intro a
          simp only [List.foldl_cons, List.length_cons, val]
          rw [ih, ih (0 * 256 + y), Int.pow_succ]
          simp only [Int.zero_mul, Int.zero_add, Int.add_mul]
          rw [Int.mul_assoc, Int.mul_comm 256]
          omega
      have h := this tl (0 * 256 + x)
      simp only [val, List.foldl_cons]
      rw [h]; simp [val]
    have hb := val_bound tl (fun z h => hz z (by simp [h]))
    simp only [List.length_cons] at hl ⊢
    simp only [List.getD_cons_zero]
    rw [e]
    by_cases h7 : tl.length = 7
    · rw [h7] at hb ⊢
      omega
    · have h6 : tl.length ≤ 6 := by omega
      have hp : 256 ^ tl.length ≤ 281474976710656 := Nat.le_trans (Nat.pow_le_pow_right (by omega) h6) (by decide)
      have ep : ((256 ^ tl.length : Nat) : Int) = (256 : Int) ^ tl.length := Int.natCast_pow 256 _
      rw [← ep] at hb ⊢
      generalize 256 ^ tl.length = q at *
      have hm : x * (q : Int) ≤ 255 * q := Int.mul_le_mul_of_nonneg_right (by omega) (by omega)
      constructor
      · intro h; omega
      · intro h; omega
end Tal
theorem Rf.rest {w : World} {X : Nat} {zs : List Int} {p : Nat} {e : Int} (h : Rf B T w X zs p e) : ∃ a cap, w.cell? ⟨X, 0, none⟩ = some (.slice a zs.length cap) ∧ zs.length ≤ cap ∧ cap ≤ maxLen ∧ RowAt w (cutA a cap p) (zs.drop p) := by
  obtain ⟨hX, ⟨a, cap, h0, hc, hm, hr, hne⟩, h1, h2, f0, f1, f2, hp, hl⟩ := h
  exact ⟨a, cap, h0, hc, hm, hr.drop p cap hp hc⟩
set_option maxHeartbeats 1600000 in
theorem refNumber_any (X : Nat) (zs : List Int) (p : Nat) (e : Int) (w : World) (h : Rf B T w X zs p e) :
    Calls Tryz.prog 101 #[.pointer (some ⟨X, 0, none⟩)] w fun en w' => en = .returned (.tuple #[.int .i64 (numR (zs.drop p)).1, .int .i64 ((numR (zs.drop p)).2.1 : Int), .int .i64 (numR (zs.drop p)).2.2]) ∧ ∃ k, w' = w.drewN k := by
  obtain ⟨a, cap, h0, hc, hm, hr⟩ := h.rest
  obtain ⟨hX, _, h1, h2, f0, f1, f2, hp, hl⟩ := h
  unfold maxLen at hm
  have hlen : (zs.drop p).length = zs.length - p := List.length_drop ..
  by_cases hcp : cap = p
  · have hnil : zs.drop p = [] := List.drop_eq_nil_of_le (by omega)
    have hzp : zs.length = p := by omega
    have HN : Hid (numR (zs.drop p) = (0, 0, 10)) := by show _ = _; rw [hnil]; rfl
    subst hcp
    clear hnil hlen
    go_enter Tryz.func101, Tryz.ntmps101
    go_wp2_with fail
    go_quiet (fail)
    go_wp2_with fail
    go_ret3
    rw [HN.out]
    exact ⟨rfl, _, rfl⟩
  · have hA : cutA a cap p = a.map (fun x => x.add p) := by unfold cutA; rw [if_neg hcp]
    rw [hA] at hr
    clear hA
    generalize hAm : Option.map (fun x : Addr => x.add p) a = A at *
    generalize zs.drop p = rest at *
    have hlr : zs.length - p = rest.length := hlen.symm
    have hcap : rest.length ≤ cap - p := by omega
    clear hlen
    cases rest with
    | nil =>
      have hlr0 : zs.length - p = 0 := hlr
      clear hlr
      go_enter Tryz.func101, Tryz.ntmps101
      go_wp2_with fail
      go_quiet (fail)
      go_wp2_with fail
      go_ret3
      exact ⟨rfl, _, rfl⟩
    | cons k tl =>
      obtain ⟨b, off, rfl, hb, hcb, hk0, hk1⟩ := hr.get 0 (by simp)
      have hk : (k :: tl).getD 0 0 = k := rfl
      rw [hk] at hcb hk0 hk1
      clear hk
      have hlr1 : zs.length - p = tl.length + 1 := by simpa using hlr
      clear hlr
      have hcb' : w.cell? ⟨b, off, none⟩ = some (.int .u8 k) := by simpa using hcb
      clear hcb
      by_cases hk8 : 8 < k
      · have HN : Hid (numR (k :: tl) = (0, 0, 11)) := by show _ = _; simp [numR, hk8]
        go_enter Tryz.func101, Tryz.ntmps101
        go_wp2_with fail
        go_quiet (fail)
        go_wp2_with fail
        go_ret3
        rw [HN.out]
        exact ⟨rfl, _, rfl⟩
      · by_cases hkl : (tl.length : Int) < k
        · have HN : Hid (numR (k :: tl) = (0, 0, 10)) := by show _ = _; simp [numR, hk8, hkl]
          go_enter Tryz.func101, Tryz.ntmps101
          go_wp2_with fail
          go_quiet (fail)
          go_wp2_with fail
          go_ret3
          rw [HN.out]
          exact ⟨rfl, _, rfl⟩
        · obtain ⟨q, hqk⟩ : ∃ q : Nat, k.toNat = q := ⟨_, rfl⟩
          have hkq : (q : Int) = k := by omega
          have hq : q ≤ tl.length := by omega
          have hds : (tl.take q).length = q := List.length_take_of_le hq
          have hzd : ∀ z ∈ tl.take q, 0 ≤ z ∧ z < 256 := fun z hz => hr.2.1 z (by simp [List.mem_of_mem_take hz])
          have HC : Hid (∀ t, 1 ≤ t → t ≤ q → w.cell? ⟨b, off + t, none⟩ = some (.int .u8 ((tl.take q).getD (t - 1) 0))) := by
            show ∀ t, _
            intro t ht1 ht2
            obtain ⟨b', off', hx, _, hcx, _⟩ := hr.get t (by simp; omega)
            simp only [Option.some.injEq, Addr.mk.injEq] at hx
            obtain ⟨rfl, rfl, _⟩ := hx
            rw [hcx]
            obtain ⟨u, rfl⟩ : ∃ u, t = u + 1 := ⟨t - 1, by omega⟩
            simp only [List.getD_eq_getElem?_getD, List.getElem?_cons_succ, Nat.add_sub_cancel, List.getElem?_take]
            rw [if_pos (by omega)]
          have h8 := val8 (tl.take q) hzd (by omega)
          rw [hds] at h8
          have HN : Hid (numR (k :: tl) = if (valR (tl.take q)).2 = 0 then ((valR (tl.take q)).1, 1 + q, 0) else (0, 0, (valR (tl.take q)).2)) := by
            show _ = _
            simp only [numR, if_neg hk8, if_neg hkl, hqk]
          have HVT : Hid (∀ j, j < q → val ((tl.take q).take (j + 1)) = val ((tl.take q).take j) * 256 + (tl.take q).getD j 0 ∧ 0 ≤ val ((tl.take q).take j) ∧ val ((tl.take q).take (j + 1)) ≤ val (tl.take q) ∧ 0 ≤ (tl.take q).getD j 0 ∧ (tl.take q).getD j 0 < 256) := by
            show ∀ j, _
            intro j hj
            refine ⟨val_take _ j (by omega), ?_⟩
            have h1 := val_bound ((tl.take q).take j) (fun z hz' => hzd z (List.mem_of_mem_take hz'))
            refine ⟨h1.1, val_mono _ hzd (j + 1) (by omega), ?_⟩
            rw [List.getD_eq_getElem?_getD, List.getElem?_eq_getElem (by omega)]
            exact hzd _ (List.getElem_mem _)
          have HH : Hid (∀ d, 0 < q → (tl.take q).getD 0 0 = d → ((tl.take q).head? = some 0 ↔ d = 0)) := by
            show ∀ d, _
            intro d hq0 hd
            cases hc : tl.take q with
            | nil => rw [hc] at hds; simp at hds; omega
            | cons x r => rw [hc] at hd; simp at hd ⊢; rw [hd]
          have hvl := val_bound (tl.take q) hzd
          have HVF : Hid ((tl.take q).take q = tl.take q) := by show _ = _; rw [List.take_of_length_le (by omega)]
          generalize tl.take q = ds at *
          have HQ : Hid ((q : Int) = k) := hkq
          clear hqk hkq hr
          by_cases hq0 : q = 0
          · subst hq0
            have hk00 : k = 0 := HQ.out.symm
            have hd0 : ds = [] := List.eq_nil_of_length_eq_zero hds
            have HN0 : Hid (numR (k :: tl) = (0, 1, 0)) := by
              show _ = _
              rw [HN.out, hd0]; decide
            subst hk00
            clear hd0 hds h8 hvl HQ
            go_enter Tryz.func101, Tryz.ntmps101
            go_wp2_with fail
            go_quiet (fail)
            go_wp2_with fail
            refine wp_loop_rounds 1 ?_
            rw [rounds_succ]
            go_wp2_with fail
            go_ret3
            rw [HN0.out]
            exact ⟨rfl, _, rfl⟩
          · obtain ⟨d, HD, hcd⟩ : ∃ d, Hid (ds.getD 0 0 = d) ∧ w.cell? ⟨b, off + 1, none⟩ = some (.int .u8 d) := ⟨_, rfl, HC.out 1 (by omega) (by omega)⟩
            have hh := HH.out d (by omega) HD.out
            have hkpos : 0 < k := by have := HQ.out; omega
            have hl2 : (1 : Int) < tl.length + 1 := by omega
            by_cases hd0 : d = 0
            · subst hd0
              have HN0 : Hid (numR (k :: tl) = (0, 0, 11)) := by
                show _ = _
                rw [HN.out]
                have : valR ds = (0, 11) := by unfold valR; rw [if_pos (Or.inl (hh.2 rfl))]
                rw [this]; rfl
              clear hds h8 hvl hh
              go_enter Tryz.func101, Tryz.ntmps101
              go_wp2_with fail
              go_quiet (fail)
              go_wp2_with fail
              go_ret3
              rw [HN0.out]
              exact ⟨rfl, _, rfl⟩
            · have hd0' : (d == 0) = false := by simpa using hd0
              rw [HD.out] at h8
              by_cases hbad : k = 8 ∧ 127 < d
              · obtain ⟨rfl, hd127⟩ := hbad
                have HN0 : Hid (numR (8 :: tl) = (0, 0, 11)) := by
                  show _ = _
                  rw [HN.out]
                  have : valR ds = (0, 11) := by unfold valR; rw [if_pos (Or.inr (h8.2 ⟨by have := HQ.out; omega, hd127⟩))]
                  rw [this]; rfl
                clear hds h8 hvl hh
                go_enter Tryz.func101, Tryz.ntmps101
                go_wp2_with fail
                go_quiet (fail)
                go_wp2_with fail
                go_ret3
                rw [HN0.out]
                exact ⟨rfl, _, rfl⟩
              · have hvn : ¬ (9223372036854775807 < val ds) := fun hv => hbad ⟨by have := HQ.out; have := (h8.1 hv).1; omega, (h8.1 hv).2⟩
                have HN0 : Hid (numR (k :: tl) = (val ds, 1 + q, 0)) := by
                  show _ = _
                  rw [HN.out]
                  have : valR ds = (val ds, 0) := by unfold valR; rw [if_neg (fun hc => hc.elim (fun h => hd0 (hh.1 h)) hvn)]
                  rw [this]; rfl
                have hvv : val ds ≤ 9223372036854775807 := by omega
                clear hds h8 hh hvn
                have hdec : (k == 8) = false ∨ ((k == 8) = true ∧ ¬ 127 < d) := by
                  by_cases hk8' : k = 8
                  · exact Or.inr ⟨by simpa using hk8', fun h => hbad ⟨hk8', h⟩⟩
                  · exact Or.inl (by simpa using hk8')
                clear hbad
                rcases hdec with hdec | ⟨hdec, hd127⟩
                all_goals
                  go_enter Tryz.func101, Tryz.ntmps101
                  go_wp2_with fail
                  go_quiet (fail)
                  go_wp2_with fail
                  go_loop [7, 8] (fun n i => ∃ t : Nat, t ≤ q ∧ i = .int .i64 ((t : Int) + 1) ∧ n = .int .i64 (val (ds.take t))) (fun _ i => q + 1 - (intOf i).toNat)
                  case atStart => exact ⟨0, by omega, rfl, rfl⟩
                  case round =>
                    obtain ⟨t, ht, rfl, rfl⟩ := hrel
                    by_cases hlt : t < q
                    · obtain ⟨z, hcx, hz0, hz1, hx0, hx1, HV⟩ : ∃ z, w.cell? ⟨b, off + (t + 1), none⟩ = some (.int .u8 z) ∧ 0 ≤ z ∧ z < 256 ∧ 0 ≤ val (ds.take t) ∧ 256 * val (ds.take t) + z ≤ 9223372036854775807 ∧ Hid (val (ds.take (t + 1)) = 256 * val (ds.take t) + z) := by
                        obtain ⟨e1, e2, e3, e4, e5⟩ := HVT.out t hlt
                        exact ⟨_, HC.out (t + 1) (by omega) (by omega), e4, e5, e2, by simp only [Nat.add_sub_cancel] at *; omega, by show _ = _; rw [e1]; simp only [Nat.add_sub_cancel]; omega⟩
                      generalize val (ds.take t) = X at *
                      have ht1 : (t : Int) + 1 ≤ k := by have := HQ.out; omega
                      have ht2 : (t : Int) + 1 < tl.length + 1 := by omega
                      go_wp2_with fail
                      go_round
                      case rel => exact ⟨t + 1, by omega, by go_num, by rw [HV.out]⟩
                      case measure => simp [intOf]; omega
                    · have htq : t = q := by omega
                      subst htq
                      rw [HVF.out]
                      have ht1 : ¬ ((t : Int) + 1 ≤ k) := by have := HQ.out; omega
                      go_wp2_with fail
                      go_ret3
                      rw [HN0.out]
                      refine ⟨?_, _, rfl⟩
                      have e10 : ((1 + t : Nat) : Int) = 1 + k := by have := HQ.out; omega
                      simp only [e10]
                      exact rfl
end Go.Proofs.YtfkchnjbbbhmjaaGreat.Ty
namespace Go.Proofs.YtfkchnjbbbhmjaaGreat.Ty
open Go.RowKit
open Tal
variable {B T : Nat}
theorem gbz_drewN (w : World) (k : Nat) (r : Option Nat) : w.grownBy (w.drewN k) r := ⟨rfl, rfl, rfl, Nat.le_refl _, fun _ _ _ => rfl⟩
theorem Rf.drewN {w : World} {X : Nat} {zs : List Int} {p : Nat} {e : Int} (h : Rf B T w X zs p e) (k : Nat) : Rf B T (w.drewN k) X zs p e := by
  obtain ⟨hX, ⟨a, cap, h0, hc, hm, hr, hne⟩, h1, h2, f0, f1, f2, hp, hl⟩ := h
  refine ⟨by simpa using hX, ⟨a, cap, by simpa using h0, hc, hm, hr.gb (gbz_drewN w k (some X)) (.inr (suc_ne hne)), hne⟩, by simpa using h1, by simpa using h2, by simpa using f0, by simpa using f1, by simpa using f2, hp, hl⟩
theorem Rf.set2 {w : World} {X : Nat} {zs : List Int} {p : Nat} {e : Int} (h : Rf B T w X zs p e) (e' : Int) : Rf B T (w.setCell ⟨X, 2, none⟩ (.int .i64 e')) X zs p e' := by
  obtain ⟨hX, ⟨a, cap, h0, hc, hm, hr, hne⟩, h1, h2, f0, f1, f2, hp, hl⟩ := h
  exact ⟨by simpa [World.setCell] using hX, ⟨a, cap, (World.cell?_setCell_other _ _ _ _ (by simp)).trans h0, hc, hm, hr.gb (gb_set w X 2 _) (.inr (suc_ne hne)), hne⟩, (World.cell?_setCell_other _ _ _ _ (by simp)).trans h1, World.cell?_setCell_same _ _ _ h2,
    (World.frozen?_setCell _ _ _ _).trans f0, (World.frozen?_setCell _ _ _ _).trans f1, (World.frozen?_setCell _ _ _ _).trans f2, hp, hl⟩
theorem Rf.set1 {w : World} {X : Nat} {zs : List Int} {p : Nat} {e : Int} (h : Rf B T w X zs p e) (p' : Nat) (hp' : p' ≤ zs.length) : Rf B T (w.setCell ⟨X, 1, none⟩ (.int .i64 (p' : Int))) X zs p' e := by
  obtain ⟨hX, ⟨a, cap, h0, hc, hm, hr, hne⟩, h1, h2, f0, f1, f2, hp, hl⟩ := h
  exact ⟨by simpa [World.setCell] using hX, ⟨a, cap, (World.cell?_setCell_other _ _ _ _ (by simp)).trans h0, hc, hm, hr.gb (gb_set w X 1 _) (.inr (suc_ne hne)), hne⟩, World.cell?_setCell_same _ _ _ h1, (World.cell?_setCell_other _ _ _ _ (by simp)).trans h2,
    (World.frozen?_setCell _ _ _ _).trans f0, (World.frozen?_setCell _ _ _ _).trans f1, (World.frozen?_setCell _ _ _ _).trans f2, hp', hl⟩
/-- the document's reader with this ahead of it and this error -/
def RSt (B T : Nat) (w : World) (X : Nat) (rest : List Int) (e : Int) : Prop := ∃ zs p, Rf B T w X zs p e ∧ (e = 0 → zs.drop p = rest)
theorem RSt.other {w : World} {X : Nat} {rest : List Int} {e : Int} (h : RSt B T w X rest e) (he : e ≠ 0) (rest' : List Int) : RSt B T w X rest' e := by
  obtain ⟨zs, p, h1, _⟩ := h
  exact ⟨zs, p, h1, fun h0 => absurd h0 he⟩
theorem numR_len (zs : List Int) (hz : ∀ z ∈ zs, 0 ≤ z ∧ z < 256) (h : (numR zs).2.2 = 0) : (numR zs).2.1 ≤ zs.length := (numR_form zs hz h).2.1
set_option maxHeartbeats 1600000 in
theorem refNum_any (X : Nat) (rest : List Int) (e most : Int) (w : World) (h : RSt B T w X rest e) :
    Calls Tryz.prog 90 #[.pointer (some ⟨X, 0, none⟩), .int .i64 most] w fun en w' => en = .returned (.int .i64 (numS rest e most).1) ∧ RSt B T w' X (numS rest e most).2.1 (numS rest e most).2.2 ∧ w.grownBy w' (some X) := by
  obtain ⟨zs, p, hR, hd⟩ := h
  by_cases he : e = 0
  · subst he
    have hd := hd rfl
    subst hd
    have cn := refNumber_any X zs p 0 w hR
    have hlen : (numR (zs.drop p)).2.2 = 0 → (numR (zs.drop p)).2.1 ≤ (zs.drop p).length := by
      obtain ⟨a, cap, _, _, _, hr⟩ := hR.rest
      exact numR_len _ hr.2.1
    rw [List.length_drop] at hlen
    have HS : Hid (numS (zs.drop p) 0 most = if (numR (zs.drop p)).2.2 = 0 then (if most < (numR (zs.drop p)).1 then (0, zs.drop p, 3) else ((numR (zs.drop p)).1, (zs.drop p).drop (numR (zs.drop p)).2.1, 0)) else (0, zs.drop p, (numR (zs.drop p)).2.2)) := by show _ = _; simp [numS]
    generalize (numR (zs.drop p)).1 = v at *
    generalize (numR (zs.drop p)).2.1 = c at *
    generalize (numR (zs.drop p)).2.2 = er at *
    have hl5 := hR.2.2.2.2.2.2.2.2.1
    have hpl := hR.2.2.2.2.2.2.2.1
    by_cases her : er = 0
    · subst her
      have hcl := hlen rfl
      clear hlen
      rw [if_pos rfl] at HS
      by_cases hmost : most < v
      · rw [if_pos hmost] at HS
        obtain ⟨_, _, _, h2, _⟩ := id hR
        go_enter Tryz.func90, Tryz.ntmps90
        go_wp2_with fail
        refine cn.mono ?_
        rintro en w1 ⟨rfl, k, rfl⟩
        clear cn
        have hR1 := hR.drewN k
        have f2 := hR1.2.2.2.2.2.2.1
        have h2' := hR1.2.2.2.1
        go_wp2_with fail
        go_ret
        rw [HS.out]
        exact ⟨rfl, ⟨zs, p, hR1.set2 3, fun h => by cases h⟩, gb_trans (gbz_drewN w k _) (gb_set _ X 2 _)⟩
      · rw [if_neg hmost] at HS
        obtain ⟨_, _, _, h2, _⟩ := id hR
        go_enter Tryz.func90, Tryz.ntmps90
        go_wp2_with fail
        refine cn.mono ?_
        rintro en w1 ⟨rfl, k, rfl⟩
        clear cn
        have hR1 := hR.drewN k
        have f1 := hR1.2.2.2.2.2.1
        have h1' := hR1.2.2.1
        have hR2 := hR1.set1 (p + c) (by omega)
        have ec : ((p + c : Nat) : Int) = (p : Int) + (c : Int) := by omega
        rw [ec] at hR2
        clear ec
        go_wp2_with fail
        go_ret
        rw [HS.out]
        exact ⟨rfl, ⟨zs, p + c, hR2, fun _ => by rw [List.drop_drop]⟩, gb_trans (gbz_drewN w k _) (gb_set _ X 1 _)⟩
    · have her' : (er == 0) = false := by simpa using her
      rw [if_neg her] at HS
      obtain ⟨_, _, _, h2, _⟩ := id hR
      clear hlen
      go_enter Tryz.func90, Tryz.ntmps90
      go_wp2_with fail
      refine cn.mono ?_
      rintro en w1 ⟨rfl, k, rfl⟩
      clear cn
      have hR1 := hR.drewN k
      have f2 := hR1.2.2.2.2.2.2.1
      have h2' := hR1.2.2.2.1
      go_wp2_with fail
      go_ret
      rw [HS.out]
      exact ⟨rfl, ⟨zs, p, hR1.set2 er, fun h => absurd h her⟩, gb_trans (gbz_drewN w k _) (gb_set _ X 2 _)⟩
  · have HS : Hid (numS rest e most = (0, rest, e)) := by show _ = _; simp [numS, he]
    have he' : (e == 0) = false := by simpa using he
    obtain ⟨_, _, _, h2, _⟩ := id hR
    go_enter Tryz.func90, Tryz.ntmps90
    go_wp2_with fail
    go_ret
    rw [HS.out]
    exact ⟨rfl, ⟨zs, p, hR, fun h => absurd h he⟩, gb_refl _ _⟩
end Go.Proofs.YtfkchnjbbbhmjaaGreat.Ty
namespace Go.Proofs.YtfkchnjbbbhmjaaGreat.Ty
open Go.RowKit
open Tal
variable {B T : Nat}
theorem numS_max (rest : List Int) (hz : ∀ z ∈ rest, 0 ≤ z ∧ z < 256) : numS rest 0 9223372036854775807 = if (numR rest).2.2 = 0 then ((numR rest).1, rest.drop (numR rest).2.1, 0) else (0, rest, (numR rest).2.2) := by
  unfold numS
  rw [if_pos rfl]
  by_cases h : (numR rest).2.2 = 0
  · have := (numR_form rest hz h).2.2.2
    rw [if_pos h, if_pos h, if_neg (by omega)]
  · rw [if_neg h, if_neg h]
set_option maxHeartbeats 1600000 in
theorem refText_bad (X : Nat) (zs : List Int) (p : Nat) (most : Int) (w : World) (hR : Rf B T w X zs p 0) (v : Int) (c : Nat) (er er' : Int)
    (hn : numR (zs.drop p) = (v, c, er)) (h : (er ≠ 0 ∧ er' = er) ∨ (er = 0 ∧ most < v ∧ er' = 3) ∨ (er = 0 ∧ ¬ most < v ∧ (zs.length : Int) - p - c < v ∧ er' = 10)) (hcl : er = 0 → c ≤ zs.length - p) :
    Calls Tryz.prog 100 #[.pointer (some ⟨X, 0, none⟩), .int .i64 most] w fun en w' => en = .returned (.string ⟨#[]⟩) ∧ RSt B T w' X [] er' ∧ w.grownBy w' (some X) := by
  have cn := refNumber_any X zs p 0 w hR
  rw [hn] at cn
  have hl5 := hR.2.2.2.2.2.2.2.2.1
  have hpl := hR.2.2.2.2.2.2.2.1
  have h2 := hR.2.2.2.1
  have f2 := hR.2.2.2.2.2.2.1
  have h1 := hR.2.2.1
  obtain ⟨a, cap, h0, hc, hm, hr⟩ := hR.rest
  rcases h with ⟨her, rfl⟩ | ⟨rfl, hmost, rfl⟩ | ⟨rfl, hmost, hfew, rfl⟩
  · have her' : (er' == 0) = false := by simpa using her
    go_enter Tryz.func100, Tryz.ntmps100
    go_wp2_with fail
    refine cn.mono ?_
    rintro en w1 ⟨rfl, k, rfl⟩
    clear cn
    go_wp2_with fail
    go_quiet (fail)
    go_wp2_with fail
    go_ret
    exact ⟨rfl, ⟨zs, p, (hR.drewN (k + nq)).set2 er', fun h => absurd h her⟩, gb_trans (gbz_drewN w (k + nq) _) (gb_set _ X 2 _)⟩
  · clear hcl
    go_enter Tryz.func100, Tryz.ntmps100
    go_wp2_with fail
    refine cn.mono ?_
    rintro en w1 ⟨rfl, k, rfl⟩
    clear cn
    go_wp2_with fail
    go_quiet (fail)
    go_wp2_with fail
    go_ret
    exact ⟨rfl, ⟨zs, p, (hR.drewN (k + nq)).set2 3, fun h => absurd h (by omega)⟩, gb_trans (gbz_drewN w (k + nq) _) (gb_set _ X 2 _)⟩
  · have hcl' := hcl rfl
    clear hcl
    go_enter Tryz.func100, Tryz.ntmps100
    go_wp2_with fail
    refine cn.mono ?_
    rintro en w1 ⟨rfl, k, rfl⟩
    clear cn
    go_wp2_with fail
    go_quiet (fail)
    go_wp2_with fail
    go_ret
    exact ⟨rfl, ⟨zs, p, (hR.drewN (k + nq)).set2 10, fun h => absurd h (by omega)⟩, gb_trans (gbz_drewN w (k + nq) _) (gb_set _ X 2 _)⟩

set_option maxHeartbeats 1600000 in
theorem refText_good (X : Nat) (zs : List Int) (p : Nat) (most : Int) (w : World) (hR : Rf B T w X zs p 0) (m c : Nat)
    (hn : numR (zs.drop p) = ((m : Int), c, 0)) (hmost : ¬ most < (m : Int)) (hmc : p + c + m ≤ zs.length) :
    Calls Tryz.prog 100 #[.pointer (some ⟨X, 0, none⟩), .int .i64 most] w fun en w' => en = .returned (.string (strOf ((zs.drop (p + c)).take m))) ∧ RSt B T w' X (zs.drop (p + c + m)) 0 ∧ w.grownBy w' (some X) := by
  have cn := refNumber_any X zs p 0 w hR
  rw [hn] at cn
  have hl5 := hR.2.2.2.2.2.2.2.2.1
  have hpl := hR.2.2.2.2.2.2.2.1
  have h2 := hR.2.2.2.1
  have f1 := hR.2.2.2.2.2.1
  have h1 := hR.2.2.1
  obtain ⟨a, cap, h0, hc, hm, hrow, hne⟩ := id hR.2.1
  unfold maxLen at hm
  have hfew : ¬ ((zs.length : Int) - p - c < m) := by omega
  have hS : ∀ k n, (convert 35 9 (.slice (cutA a cap (p + c)) m (cap - (p + c)))).run Tryz.prog (((w.drewN k).setCell ⟨X, 1, none⟩ (.int .i64 ((p : Int) + c + m))).drewN n) = .ok (.string (strOf ((zs.drop (p + c)).take m))) (((w.drewN k).setCell ⟨X, 1, none⟩ (.int .i64 ((p : Int) + c + m))).drewN n) := by
    intro k n
    have hg : w.grownBy (((w.drewN k).setCell ⟨X, 1, none⟩ (.int .i64 ((p : Int) + c + m))).drewN n) (some X) := gb_trans (gb_trans (gbz_drewN w k _) (gb_set _ X 1 _)) (gbz_drewN _ n _)
    have hr := ((hrow.drop (p + c) cap (by omega) hc).take m).gb hg (.inr (cutA_ne (suc_ne hne)))
    have hs := hr.str (cap - (p + c))
    rw [List.length_take_of_le (by rw [List.length_drop]; omega)] at hs
    exact hs
  have hRf : ∀ k n, Rf B T (((w.drewN k).setCell ⟨X, 1, none⟩ (.int .i64 ((p : Int) + c + m))).drewN n) X zs (p + c + m) 0 := by
    intro k n
    have := ((hR.drewN k).set1 (p + c + m) hmc).drewN n
    have e : ((p + c + m : Nat) : Int) = (p : Int) + c + m := by omega
    rw [e] at this; exact this
  by_cases hcp : cap = p + c
  · have hA : cutA a cap (p + c) = a := by unfold cutA; rw [if_pos hcp]
    rw [hA] at hS
    clear hA
    obtain rfl : m = 0 := by omega
    subst hcp
    have e0 : ((0 : Nat) : Int) = 0 := rfl
    simp only [e0, Int.add_zero, Nat.add_zero, Nat.sub_self] at hS hRf cn hfew hmost ⊢
    clear e0
    go_enter Tryz.func100, Tryz.ntmps100
    go_wp2_with fail
    refine cn.mono ?_
    rintro en w1 ⟨rfl, k, rfl⟩
    clear cn
    go_wp2_with fail
    go_quiet (fail)
    go_wp2_with fail
    have hS' := hS (k + nq)
    go_quiet (fail)
    go_wp2_with fail
    go_ret
    exact ⟨rfl, ⟨zs, p + c, hRf _ _, fun _ => rfl⟩, gb_trans (gb_trans (gbz_drewN w _ _) (gb_set _ X 1 _)) (gbz_drewN _ _ _)⟩
  · have hA : cutA a cap (p + c) = a.map (fun x => x.add (p + c)) := by unfold cutA; rw [if_neg hcp]
    generalize hAA : Option.map (fun x : Addr => x.add (p + c)) a = A at *
    rw [hA] at hS
    clear hA
    go_enter Tryz.func100, Tryz.ntmps100
    go_wp2_with fail
    refine cn.mono ?_
    rintro en w1 ⟨rfl, k, rfl⟩
    clear cn
    go_wp2_with fail
    go_quiet (fail)
    go_wp2_with fail
    have hS' := hS (k + nq)
    go_quiet (fail)
    go_wp2_with fail
    go_ret
    exact ⟨rfl, ⟨zs, p + c + m, hRf _ _, fun _ => rfl⟩, gb_trans (gb_trans (gbz_drewN w _ _) (gb_set _ X 1 _)) (gbz_drewN _ _ _)⟩
end Go.Proofs.YtfkchnjbbbhmjaaGreat.Ty
namespace Go.Proofs.YtfkchnjbbbhmjaaGreat.Ty
open Go.RowKit
open Tal
variable {B T : Nat}
set_option maxHeartbeats 1600000 in
theorem refText_any (X : Nat) (rest : List Int) (e most : Int) (w : World) (h : RSt B T w X rest e) :
    Calls Tryz.prog 100 #[.pointer (some ⟨X, 0, none⟩), .int .i64 most] w fun en w' => en = .returned (.string (strOf (textS rest e most).1)) ∧ RSt B T w' X (textS rest e most).2.1 (textS rest e most).2.2 ∧ w.grownBy w' (some X) := by
  obtain ⟨zs, p, hR, hd⟩ := h
  by_cases he : e = 0
  · subst he
    have hd := hd rfl
    subst hd
    obtain ⟨a, cap, h0, hc, hm, hr⟩ := hR.rest
    have hz := hr.2.1
    have hN := numS_max (zs.drop p) hz
    have hform := numR_form (zs.drop p) hz
    rw [List.length_drop] at hform
    have hpl := hR.2.2.2.2.2.2.2.1
    obtain ⟨v, c, er, hn⟩ : ∃ v c er, numR (zs.drop p) = (v, c, er) := ⟨_, _, _, rfl⟩
    rw [hn] at hN hform
    simp only at hN hform
    by_cases her : er = 0
    · subst her
      obtain ⟨_, hcl, hv0, hv1⟩ := hform rfl
      rw [if_pos rfl] at hN
      obtain ⟨m, rfl⟩ := Int.eq_ofNat_of_zero_le hv0
      by_cases hmost : most < (m : Int)
      · have e1 : textS (zs.drop p) 0 most = ([], zs.drop p, 3) := by unfold textS; rw [hN]; simp [hmost]
        rw [e1]
        refine (refText_bad X zs p most w hR m c 0 3 hn (Or.inr (Or.inl ⟨rfl, hmost, rfl⟩)) (fun _ => hcl)).mono ?_
        rintro en w1 ⟨rfl, h1, h2⟩
        exact ⟨rfl, h1.other (by omega) _, h2⟩
      · by_cases hfew : (zs.length : Int) - p - c < m
        · have e1 : textS (zs.drop p) 0 most = ([], zs.drop p, 10) := by
            unfold textS; rw [hN]
            have : (((zs.drop p).drop c).length : Int) < m := by rw [List.length_drop, List.length_drop]; omega
            simp only [if_pos trivial, if_neg hmost, if_pos this]
          rw [e1]
          refine (refText_bad X zs p most w hR m c 0 10 hn (Or.inr (Or.inr ⟨rfl, hmost, hfew, rfl⟩)) (fun _ => hcl)).mono ?_
          rintro en w1 ⟨rfl, h1, h2⟩
          exact ⟨rfl, h1.other (by omega) _, h2⟩
        · have e1 : textS (zs.drop p) 0 most = ((zs.drop (p + c)).take m, zs.drop (p + c + m), 0) := by
            unfold textS; rw [hN]
            have : ¬ ((((zs.drop p).drop c).length : Int) < m) := by rw [List.length_drop, List.length_drop]; omega
            simp only [if_pos trivial, if_neg hmost]
            rw [if_neg this]
            simp only [Int.toNat_natCast, List.drop_drop]
          rw [e1]
          exact refText_good X zs p most w hR m c hn hmost (by omega)
    · rw [if_neg her] at hN
      have e1 : textS (zs.drop p) 0 most = ([], zs.drop p, er) := by unfold textS; rw [hN]; simp [her]
      rw [e1]
      refine (refText_bad X zs p most w hR v c er er hn (Or.inl ⟨her, rfl⟩) (fun h => absurd h her)).mono ?_
      rintro en w1 ⟨rfl, h1, h2⟩
      exact ⟨rfl, h1.other her _, h2⟩
  · have HS : Hid (textS rest e most = ([], rest, e)) := by
      show _ = _
      have : numS rest e 9223372036854775807 = (0, rest, e) := by simp [numS, he]
      unfold textS; rw [this]; simp [he]
    have he' : (e == 0) = false := by simpa using he
    obtain ⟨_, _, _, h2, _⟩ := id hR
    go_enter Tryz.func100, Tryz.ntmps100
    go_wp2_with fail
    go_ret
    rw [HS.out]
    exact ⟨rfl, ⟨zs, p, hR, fun h => absurd h he⟩, gb_refl _ _⟩
end Go.Proofs.YtfkchnjbbbhmjaaGreat.Ty
namespace Go.Proofs.YtfkchnjbbbhmjaaGreat.Ty
open Go.RowKit
open Tal
variable {B T : Nat}
/-- what Raw answers, what is ahead then, the error then -/
def rawS (rest : List Int) (e n : Int) : List Int × List Int × Int :=
  if e = 0 then
    if n < 0 then ([], rest, 2)
    else if (rest.length : Int) < n then ([], rest, 10)
    else (rest.take n.toNat, rest.drop n.toNat, 0)
  else ([], rest, e)
theorem cell_block {w w' : World} {b j : Nat} (h : w'.heap[b]? = w.heap[b]?) : w'.cell? ⟨b, j, none⟩ = w.cell? ⟨b, j, none⟩ ∧ w'.frozen? ⟨b, j, none⟩ = w.frozen? ⟨b, j, none⟩ := by
  constructor
  · simp only [World.cell?, h]
  · simp only [World.frozen?, h]
theorem RdE.below {w w' : World} {R : Nat} {e : Int} (h : RdE w R e) (hb : w'.heap[R]? = w.heap[R]?) (hs : w.heap.size ≤ w'.heap.size) : RdE w' R e := by
  obtain ⟨hR, ⟨a, n, c, h0⟩, h1, h2, f0, f1, f2⟩ := h
  have hc := fun j => (cell_block (j := j) hb)
  exact ⟨Nat.lt_of_lt_of_le hR hs, ⟨a, n, c, (hc 0).1.trans h0⟩, (hc 1).1.trans h1, (hc 2).1.trans h2, (hc 0).2.trans f0, (hc 1).2.trans f1, (hc 2).2.trans f2⟩
theorem St.below {w w' : World} {R : Nat} {rest : List Int} {e : Int} (h : St w R rest e) (hb : Below w.heap.size w w') : St w' R rest e := by
  have hR := h.1.1
  refine ⟨h.1.below (hb.block R hR) hb.size, fun he => ?_⟩
  obtain ⟨a, cap, h0, hc, hm, hr, hne⟩ := h.2 he
  exact ⟨a, cap, (cell_block (hb.block R hR)).1.trans h0, hc, hm, hr.below hb, hne⟩
theorem Rf.below {w w' : World} {X : Nat} {zs : List Int} {p : Nat} {e : Int} (h : Rf B T w X zs p e) (hb : Below w.heap.size w w') : Rf B T w' X zs p e := by
  obtain ⟨hX, ⟨a, cap, h0, hc, hm, hr, hne⟩, h1, h2, f0, f1, f2, hp, hl⟩ := h
  have hk := fun j => (cell_block (j := j) (hb.block X hX))
  exact ⟨Nat.lt_of_lt_of_le hX hb.size, ⟨a, cap, (hk 0).1.trans h0, hc, hm, hr.below hb, hne⟩, (hk 1).1.trans h1, (hk 2).1.trans h2, (hk 0).2.trans f0, (hk 1).2.trans f1, (hk 2).2.trans f2, hp, hl⟩
theorem RSt.below {w w' : World} {X : Nat} {rest : List Int} {e : Int} (h : RSt B T w X rest e) (hb : Below w.heap.size w w') : RSt B T w' X rest e := by
  obtain ⟨zs, p, h1, h2⟩ := h
  exact ⟨zs, p, h1.below hb, h2⟩
theorem Mine.nil (w : World) (B : Nat) : Mine w B (.slice none 0 0) [] := ⟨World.ownsRow_nil _ _ _ _, by simp⟩
theorem Mine.mono' {w : World} {B B' : Nat} {v : Value} {zs : List Int} (h : Mine w B v zs) (hb : B' ≤ B) : Mine w B' v zs := by
  refine ⟨⟨h.1.1, ?_⟩, h.2⟩
  rcases h.1.2 with h | ⟨g, cap, cur, hv, hg, r⟩
  · exact .inl h
  · exact .inr ⟨g, cap, cur, hv, Nat.le_trans hb hg, r⟩
set_option maxHeartbeats 1600000 in
theorem raw_any (R : Nat) (rest : List Int) (e n : Int) (w : World) (h : St w R rest e) (hl : rest.length ≤ 100000000) :
    Calls Tryz.prog 105 #[.pointer (some ⟨R, 0, none⟩), .int .i64 n] w fun en w' => ∃ v, en = .returned v ∧ Mine w' w.heap.size v (rawS rest e n).1 ∧ St w' R (rawS rest e n).2.1 (rawS rest e n).2.2 ∧ w.grownBy w' (some R) := by
  by_cases he : e = 0
  · subst he
    by_cases hn : n < 0
    · have HS : Hid (rawS rest 0 n = ([], rest, 2)) := by show _ = _; unfold rawS; rw [if_pos rfl, if_pos hn]
      go_enter Tryz.func105, Tryz.ntmps105
      go_wp2_with fail
      refine (err_made R 0 w h.1).mono ?_
      rintro en w1 ⟨rfl, rfl⟩
      go_wp2_with fail
      refine (fail_any R 0 2 w1 h.1).mono ?_
      rintro en w2 ⟨rfl, hE2, hg2⟩
      go_wp2_with fail
      go_ret
      rw [HS.out]
      exact ⟨_, rfl, Mine.nil _ _, ⟨hE2, fun h => by cases h⟩, hg2⟩
    · by_cases hf : (rest.length : Int) < n
      · have HS : Hid (rawS rest 0 n = ([], rest, 10)) := by show _ = _; unfold rawS; rw [if_pos rfl, if_neg hn, if_pos hf]
        go_enter Tryz.func105, Tryz.ntmps105
        go_wp2_with fail
        refine (err_made R 0 w h.1).mono ?_
        rintro en w1 ⟨rfl, rfl⟩
        go_wp2_with fail
        refine (next_few R rest n w1 h hf).mono ?_
        rintro en w2 ⟨rfl, hS2, hg2⟩
        have cc := clone_any none 0 [] w2 (nil_row w2) (by simp)
        simp only [List.length_nil] at cc
        go_wp2_with fail
        refine cc.mono ?_
        rintro en w3 ⟨v, rfl, hm, hb⟩
        go_wp2_with fail
        go_ret
        rw [HS.out]
        exact ⟨_, rfl, hm.mono' hg2.size, hS2.below hb, gb_trans hg2 (gb_below hb _)⟩
      · have HS : Hid (rawS rest 0 n = (rest.take n.toNat, rest.drop n.toNat, 0)) := by show _ = _; unfold rawS; rw [if_pos rfl, if_neg hn, if_neg hf]
        go_enter Tryz.func105, Tryz.ntmps105
        go_wp2_with fail
        refine (err_made R 0 w h.1).mono ?_
        rintro en w1 ⟨rfl, rfl⟩
        go_wp2_with fail
        refine (next_there R rest n w1 h (by omega) (by omega)).mono ?_
        rintro en w2 ⟨a, cap, rfl, hca, hra, hS2, hg2⟩
        have cc := clone_any a cap (rest.take n.toNat) w2 hra (by rw [List.length_take]; omega)
        rw [List.length_take_of_le (by omega)] at cc
        go_wp2_with fail
        refine cc.mono ?_
        rintro en w3 ⟨v, rfl, hm, hb⟩
        go_wp2_with fail
        go_ret
        rw [HS.out]
        exact ⟨_, rfl, hm.mono' hg2.size, hS2.below hb, gb_trans hg2 (gb_below hb _)⟩
  · have HS : Hid (rawS rest e n = ([], rest, e)) := by show _ = _; unfold rawS; rw [if_neg he]
    have he' : (e == 0) = false := by simpa using he
    go_enter Tryz.func105, Tryz.ntmps105
    go_wp2_with fail
    refine (err_made R e w h.1).mono ?_
    rintro en w1 ⟨rfl, rfl⟩
    go_wp2_with fail
    go_ret
    rw [HS.out]
    exact ⟨_, rfl, Mine.nil _ _, h, gb_refl _ _⟩
end Go.Proofs.YtfkchnjbbbhmjaaGreat.Ty
namespace Go.Proofs.YtfkchnjbbbhmjaaGreat.Ty
open Go.RowKit
open Tal
theorem or_i64 (x d : Int) (h0 : 0 ≤ x) (h1 : x < 16777216) (h2 : 0 ≤ d) (h3 : d < 256) : bits .or .i64 (x * 256) d = x * 256 + d := by
  obtain ⟨a, rfl⟩ := Int.eq_ofNat_of_zero_le h0
  obtain ⟨b, rfl⟩ := Int.eq_ofNat_of_zero_le h2
  have e : ((a : Int) * 256) = ((a * 256 : Nat) : Int) := by omega
  rw [e]
  have ho : a * 256 ||| b = a * 256 + b := by
    exact nat_join 8 _ _ (by omega) (by omega)
  show IntKind.i64.wrap ((BitVec.ofInt 64 ((a * 256 : Nat) : Int) ||| BitVec.ofInt 64 (b : Int)).toNat : Int) = _
  rw [BitVec.toNat_or, Cr.Crc.ofInt64 _ (by omega), Cr.Crc.ofInt64 b (by omega), ho]
  rw [Cr.Crc.wrap_i64_small _ (by omega)]
  omega
/-- bytes as a number, the greatest first -/
def sumN (zs : List Int) : Int := zs.foldl (fun s z => s * 256 + z) 0
theorem sumN_take (zs : List Int) (k : Nat) (h : k < zs.length) : sumN (zs.take (k + 1)) = sumN (zs.take k) * 256 + zs[k] := by
  unfold sumN
  rw [List.take_succ_eq_append_getElem h, List.foldl_append]
  rfl
theorem sumN_lt (zs : List Int) (hz : ∀ z ∈ zs, 0 ≤ z ∧ z < 256) (hn : zs.length ≤ 2) : 0 ≤ sumN zs ∧ sumN zs < 65536 := by
  match zs, hn with
  | [], _ => simp [sumN]
  | [a], _ =>
    have := hz a (by simp)
    simp only [sumN, List.foldl]; omega
  | [a, b], _ =>
    have := hz a (by simp)
    have := hz b (by simp)
    simp only [sumN, List.foldl]; omega
set_option maxRecDepth 100000 in
set_option maxHeartbeats 2000000 in
theorem jsumOf_any (a : Option Addr) (cap : Nat) (zs : List Int) (w : World) (h : RowAt w a zs) (hn : zs.length ≤ 3) :
    Calls Tryz.prog 110 #[.slice a zs.length cap] w fun e w' => e = .returned (.int .i64 (sumN zs)) ∧ w' = w := by
  obtain ⟨hm, hz, hrow⟩ := cr_row h
  clear hm h
  go_enter Tryz.func110, Tryz.ntmps110
  go_wp2_with fail
  go_loop [3, 8] (fun s i => ∃ k : Nat, k ≤ zs.length ∧ i = .int .i64 k ∧ s = .int .i64 (sumN (zs.take k))) (fun _ i => zs.length - (intOf i).toNat)
  case atStart => exact ⟨0, by omega, rfl, rfl⟩
  case round =>
    obtain ⟨k, hk, rfl, rfl⟩ := hrel
    by_cases hlt : k < zs.length
    · obtain ⟨b, off, rfl, hbb, hc⟩ : ∃ b off, a = some ⟨b, off, none⟩ ∧ b < w.heap.size ∧ ∀ j, j < zs.length → w.cell? ⟨b, off + j, none⟩ = some (.int .u8 (zs.getD j 0)) := by
        rcases hrow with rfl | h
        · simp at hlt
        · exact h
      have hs := sumN_lt (zs.take k) (fun z hz' => hz z (List.mem_of_mem_take hz')) (by simp; omega)
      obtain ⟨z, hcx, hz0, hz1, E2⟩ : ∃ z, w.cell? ⟨b, off + k, none⟩ = some (.int .u8 z) ∧ 0 ≤ z ∧ z < 256 ∧ Hid (sumN (zs.take (k + 1)) = sumN (zs.take k) * 256 + z) := by
        refine ⟨zs[k], ?_, (hz _ (List.getElem_mem hlt)).1, (hz _ (List.getElem_mem hlt)).2, sumN_take zs k hlt⟩
        rw [hc k hlt, List.getD_eq_getElem?_getD, List.getElem?_eq_getElem hlt]; rfl
      obtain ⟨s, HS⟩ : ∃ s, Hid (sumN (zs.take k) = s) := ⟨_, rfl⟩
      rw [HS.out] at hs E2 ⊢
      obtain ⟨hs0, hs1⟩ := hs
      have eo := or_i64 s z hs0 (by omega) hz0 hz1
      clear hc hrow hz
      go_wp2
      go_round
      case rel => exact ⟨k + 1, by omega, by go_num, by rw [E2.out]⟩
      case measure => simp [intOf]; omega
    · obtain rfl : k = zs.length := by omega
      rw [List.take_length]
      go_wp2
      go_ret
      exact ⟨rfl, rfl⟩
/-- what Done tells -/
def doneE (rest : List Int) (e : Int) : Int := if e = 0 then (if rest.length = 0 then 0 else 12) else e
set_option maxRecDepth 100000 in
set_option maxHeartbeats 2000000 in
theorem done_any (R : Nat) (rest : List Int) (e : Int) (w : World) (h : St w R rest e) : Calls Tryz.prog 98 #[.pointer (some ⟨R, 0, none⟩)] w fun en w' => en = .returned (.int .i64 (doneE rest e)) ∧ w' = w := by
  have ce := err_made R e w h.1
  by_cases he : e = 0
  · subst he
    obtain ⟨a, cap, h0, _⟩ := h.2 rfl
    have cl := left_any R a rest.length cap w h0
    have E : doneE rest 0 = if rest.length = 0 then 0 else 12 := by simp [doneE]
    rw [E]
    clear E h
    by_cases hr : rest.length = 0
    · rw [if_pos hr]
      rw [hr] at cl
      clear hr h0
      go_enter Tryz.func98, Tryz.ntmps98
      go_wp2_with fail
      refine ce.mono ?_
      rintro e1 w1 ⟨rfl, hx⟩
      obtain rfl := hx.symm
      clear hx
      go_wp2_with fail
      refine cl.mono ?_
      rintro e2 w2 ⟨rfl, hx⟩
      obtain rfl := hx.symm
      clear hx
      go_wp2
      go_ret
      exact ⟨rfl, rfl⟩
    · rw [if_neg hr]
      have hr' : (0 : Int) < rest.length := by omega
      obtain ⟨n, hn⟩ : ∃ n : Int, (rest.length : Int) = n := ⟨_, rfl⟩
      rw [hn] at cl hr'
      clear hr hn h0
      go_enter Tryz.func98, Tryz.ntmps98
      go_wp2_with fail
      refine ce.mono ?_
      rintro e1 w1 ⟨rfl, hx⟩
      obtain rfl := hx.symm
      clear hx
      go_wp2_with fail
      refine cl.mono ?_
      rintro e2 w2 ⟨rfl, hx⟩
      obtain rfl := hx.symm
      clear hx
      go_wp2
      go_ret
      exact ⟨rfl, rfl⟩
  · have E : doneE rest e = e := by simp [doneE, he]
    rw [E]
    have n1 : (e != 0) = true := bne_iff_ne.2 he
    clear E h he
    go_enter Tryz.func98, Tryz.ntmps98
    go_wp2_with fail
    refine ce.mono ?_
    rintro e1 w1 ⟨rfl, hx⟩
    obtain rfl := hx.symm
    clear hx
    go_wp2
    go_ret
    exact ⟨rfl, rfl⟩
theorem below_grown {n : Nat} {w w1 w2 : World} {R : Nat} (h : Below n w w1) (g : w1.grownBy w2 (some R)) (hR : n ≤ R) (hn : n ≤ w1.heap.size) : Below n w w2 :=
  ⟨g.os.trans h.os, g.tape.trans h.tape, g.output.trans h.output, Nat.le_trans h.size g.size, fun k hk => (g.block k (by omega) (by simp; omega)).trans (h.block k hk)⟩
/-- the turn that a record of a frame G is -/
def turnN (zs : List Int) : Int := if doneE (numS zs 0 1099511627776).2.1 (numS zs 0 1099511627776).2.2 = 0 then (numS zs 0 1099511627776).1 else 0
set_option maxRecDepth 100000 in
set_option maxHeartbeats 2000000 in
theorem jturnOf_any (a : Option Addr) (cap : Nat) (zs : List Int) (w : World) (h : RowAt w a zs) (hm : zs.length ≤ 549755813888) :
    Calls Tryz.prog 83 #[.slice a zs.length cap] w fun e w' => e = .returned (.int .i64 (turnN zs)) ∧ Below w.heap.size w w' := by
  have cr := read_any a cap zs w h hm
  clear h
  go_enter Tryz.func83, Tryz.ntmps83
  go_wp2_with fail
  refine cr.mono ?_
  rintro e1 w1 ⟨R, rfl, hR, hS, hb⟩
  have cn := num_any R zs 0 1099511627776 w1 hS
  have HT : Hid (turnN zs = if doneE (numS zs 0 1099511627776).2.1 (numS zs 0 1099511627776).2.2 = 0 then (numS zs 0 1099511627776).1 else 0) := rfl
  generalize (numS zs 0 1099511627776).1 = n at *
  generalize (numS zs 0 1099511627776).2.1 = r1 at *
  generalize (numS zs 0 1099511627776).2.2 = er at *
  clear cr hS
  go_wp2_with fail
  refine cn.mono ?_
  rintro e2 w2 ⟨rfl, hS2, hg2⟩
  have cd := done_any R r1 er w2 hS2
  have hb2 : Below w.heap.size w w2 := below_grown hb hg2 hR hb.size
  generalize doneE r1 er = d at *
  clear cn hS2 hg2 hb
  by_cases hd : d = 0
  · subst hd
    rw [if_pos rfl] at HT
    go_wp2_with fail
    refine cd.mono ?_
    rintro e3 w3 ⟨rfl, hx⟩
    obtain rfl := hx.symm
    clear hx cd
    go_wp2
    go_ret
    rw [HT.out]
    exact ⟨rfl, hb2⟩
  · rw [if_neg hd] at HT
    have n1 : (d != 0) = true := bne_iff_ne.2 hd
    clear hd
    go_wp2_with fail
    refine cd.mono ?_
    rintro e3 w3 ⟨rfl, hx⟩
    obtain rfl := hx.symm
    clear hx cd
    go_wp2
    go_ret
    rw [HT.out]
    exact ⟨rfl, hb2⟩
end Go.Proofs.YtfkchnjbbbhmjaaGreat.Ty
namespace Go.Proofs.YtfkchnjbbbhmjaaGreat.Ty
open Go.RowKit
open Tal
set_option maxHeartbeats 800000 in
theorem refRead_any (a : Option Addr) (cap : Nat) (zs : List Int) (w : World) (h : RowAt w a zs) (hl : zs.length ≤ 100000000) :
    Calls Tryz.prog 89 #[.slice a zs.length cap] w fun e w' => ∃ X, e = .returned (.pointer (some ⟨X, 0, none⟩)) ∧ w.heap.size ≤ X ∧ RSt w.heap.size zs.length w' X zs 0 ∧ Below w.heap.size w w' := by
  obtain ⟨i0, hi, hz0, hz1, hz2⟩ := info_parts info8
  go_enter Tryz.func89, Tryz.ntmps89
  go_wp2_with (at_builtin; refine wpList_append_own_src _ rfl _ _ 35 35 rfl w.heap.size 5 i0 (.int .u8 0) 1 1 Tryz.underlying35 hi hz0 hz1 hz2 rfl _ 0 [] rfl (World.ownsRow_made w #[] 0 (Nat.le_refl _) (by simp) (by simp)) (.slice a zs.length cap) zs.length (zs.map (Value.int .u8)) rfl ((h.below ((Below.refl _ _).alloc (Nat.le_refl _) _)).src cap) ?c1 ?c2 ?c3 ?_)
  case c1 => unfold maxLen; omega
  case c2 => omega
  case c3 => simp
  intro v' w1 hown hgrow
  have hb : Below w.heap.size w w1 := ((Below.refl _ _).alloc (Nat.le_refl _) _).grown hgrow (by simp) (fun k hk => by simp [Value.ownBlock] at hk; omega)
  have hmine : Mine w1 w.heap.size v' zs := ⟨by simpa using hown, h.2.1⟩
  clear hown hgrow
  obtain ⟨a', cap', rfl, hc1, hc2, hr⟩ := hmine.rowAt (by unfold maxLen; omega)
  have hblk : ∀ x, a' = some x → w.heap.size ≤ x.block ∧ x.block < w1.heap.size := fun x hx => hmine.1.lt x.block (by simp [hx, Value.ownBlock])
  have hb2 : Below w1.heap.size w1 (w1.alloc (.cells #[.slice a' zs.length cap', .int .i64 0, .int .i64 0] 119)) := (Below.refl _ _).alloc (Nat.le_refl _) _
  have hSt : RSt w.heap.size zs.length (w1.alloc (.cells #[.slice a' zs.length cap', .int .i64 0, .int .i64 0] 119)) w1.heap.size zs 0 := by
    have cs : ∀ j, (w1.alloc (.cells #[.slice a' zs.length cap', .int .i64 0, .int .i64 0] 119)).cell? ⟨w1.heap.size, j, none⟩ = (#[.slice a' zs.length cap', .int .i64 0, .int .i64 0] : Array Value)[j]? := fun j => World.cell?_alloc_at _ _ _ _ rfl
    have fs : ∀ j, (w1.alloc (.cells #[.slice a' zs.length cap', .int .i64 0, .int .i64 0] 119)).frozen? ⟨w1.heap.size, j, none⟩ = false := fun j => World.frozen?_alloc_at _ _ _ _ rfl
    exact ⟨zs, 0, ⟨by simp, ⟨a', cap', cs 0, hc1, hc2, hr.below hb2, hblk⟩, cs 1, cs 2, fs 0, fs 1, fs 2, Nat.zero_le _, hl, rfl⟩, fun _ => rfl⟩
  go_wp2_with fail
  go_ret
  exact ⟨_, rfl, hb.size, hSt, hb.trans (hb2.mono hb.size)⟩
end Go.Proofs.YtfkchnjbbbhmjaaGreat.Ty
namespace Go.Proofs.YtfkchnjbbbhmjaaGreat.Ty
open Go.RowKit
open Tal
variable {B T : Nat}
theorem doneE_of (zs : List Int) (p : Nat) (hp : p ≤ zs.length) : doneE (zs.drop p) 0 = if (p : Int) < zs.length then 12 else 0 := by
  unfold doneE
  rw [if_pos rfl, List.length_drop]
  by_cases h : (p : Int) < zs.length
  · rw [if_pos h, if_neg (by omega)]
  · rw [if_neg h, if_pos (by omega)]
set_option maxRecDepth 100000 in
set_option maxHeartbeats 2000000 in
theorem xdone_any (X : Nat) (rest : List Int) (e : Int) (w : World) (h : RSt B T w X rest e) :
    Calls Tryz.prog 91 #[.pointer (some ⟨X, 0, none⟩)] w fun en w' => en = .returned (.int .i64 (doneE rest e)) ∧ Below w.heap.size w w' := by
  obtain ⟨zs, p, hR, hd⟩ := h
  obtain ⟨hX, ⟨a, cap, h0, hc, hm, hr, hne⟩, h1, h2, f0, f1, f2, hp, hl, -⟩ := hR
  by_cases he : e = 0
  · subst he
    obtain rfl := (hd rfl)
    have HD : Hid (doneE (zs.drop p) 0 = if (p : Int) < zs.length then 12 else 0) := hide (doneE_of zs p hp)
    clear hd hr hne
    by_cases hlt : (p : Int) < zs.length
    · rw [if_pos hlt] at HD
      go_enter Tryz.func91, Tryz.ntmps91
      go_wp2
      go_region
      go_wp2
      go_ret
      rw [HD.out]
      exact ⟨rfl, (Below.refl _ _).drew⟩
    · rw [if_neg hlt] at HD
      go_enter Tryz.func91, Tryz.ntmps91
      go_wp2
      go_region
      go_wp2
      go_ret
      rw [HD.out]
      exact ⟨rfl, (Below.refl _ _).drew⟩
  · have E : doneE rest e = e := by simp [doneE, he]
    rw [E]
    have n1 : (e != 0) = true := bne_iff_ne.2 he
    clear E hd he hr hne
    go_enter Tryz.func91, Tryz.ntmps91
    go_wp2
    go_ret
    exact ⟨rfl, Below.refl _ _⟩
set_option maxRecDepth 100000 in
set_option maxHeartbeats 2000000 in
theorem xturn_any (a : Option Addr) (cap : Nat) (zs : List Int) (w : World) (h : RowAt w a zs) (hm : zs.length ≤ 100000000) :
    Calls Tryz.prog 76 #[.slice a zs.length cap] w fun e w' => e = .returned (.int .i64 (turnN zs)) ∧ Below w.heap.size w w' := by
  have cr := refRead_any a cap zs w h hm
  clear h
  go_enter Tryz.func76, Tryz.ntmps76
  go_wp2_with fail
  refine cr.mono ?_
  rintro e1 w1 ⟨R, rfl, hR, hS, hb⟩
  have cn := refNum_any R zs 0 1099511627776 w1 hS
  have HT : Hid (turnN zs = if doneE (numS zs 0 1099511627776).2.1 (numS zs 0 1099511627776).2.2 = 0 then (numS zs 0 1099511627776).1 else 0) := hide rfl
  generalize (numS zs 0 1099511627776).1 = n at *
  generalize (numS zs 0 1099511627776).2.1 = r1 at *
  generalize (numS zs 0 1099511627776).2.2 = er at *
  clear cr hS
  go_wp2_with fail
  refine cn.mono ?_
  rintro e2 w2 ⟨rfl, hS2, hg2⟩
  have cd := xdone_any R r1 er w2 hS2
  have hb2 : Below w.heap.size w w2 := below_grown hb hg2 hR hb.size
  generalize doneE r1 er = d at *
  clear cn hS2 hg2 hb
  by_cases hd : d = 0
  · subst hd
    rw [if_pos rfl] at HT
    go_wp2_with fail
    refine cd.mono ?_
    rintro e3 w3 ⟨rfl, hb3⟩
    have hb4 := hb2.trans (hb3.mono hb2.size)
    clear cd hb3
    go_wp2
    go_ret
    rw [HT.out]
    exact ⟨rfl, hb4⟩
  · rw [if_neg hd] at HT
    have n1 : (d != 0) = true := bne_iff_ne.2 hd
    clear hd
    go_wp2_with fail
    refine cd.mono ?_
    rintro e3 w3 ⟨rfl, hb3⟩
    have hb4 := hb2.trans (hb3.mono hb2.size)
    clear cd hb3
    go_wp2
    go_ret
    rw [HT.out]
    exact ⟨rfl, hb4⟩
end Go.Proofs.YtfkchnjbbbhmjaaGreat.Ty
namespace Go.Proofs.YtfkchnjbbbhmjaaGreat.Ty
open Go.RowKit
open Tal
theorem strOf_strL (s : ByteArray) : strOf (strL s) = s := by
  unfold strOf strL
  rw [foldl_push_byteCells]
  cases s; simp
namespace Tal
theorem head_digs (n : Nat) (h0 : 0 < n) (h : n < 2 ^ 63) : (digs n).head? ≠ some 0 := by
  obtain ⟨_, b, c⟩ := wid_bounds 8 n h (by omega)
  obtain ⟨c1, c2⟩ := c h0
  have hg := digK_get (wid n) n 0 c1
  have hl := digs_length n
  unfold digs at hl ⊢
  cases hd : digK (wid n) n with
  | nil => simp
  | cons x tl =>
    rw [hd] at hg
    have hg' : x = ((n / 256 ^ (wid n - 1 - 0) % 256 : Nat) : Int) := hg
    rw [Nat.sub_zero] at hg'
    have hlt : n / 256 ^ (wid n - 1) < 256 := by
      rw [Nat.div_lt_iff_lt_mul (Nat.pow_pos (by omega)), Nat.mul_comm, ← Nat.pow_succ]
      have e : (wid n - 1).succ = wid n := by omega
      rw [e]; exact b
    have hpos : 0 < n / 256 ^ (wid n - 1) := Nat.div_pos c2 (Nat.pow_pos (by omega))
    rw [Nat.mod_eq_of_lt hlt] at hg'
    intro hc
    simp only [List.head?_cons, Option.some.injEq] at hc
    omega
theorem numR_back (n : Nat) (h : n < 2 ^ 63) (more : List Int) : numR (numB n ++ more) = ((n : Int), 1 + wid n, 0) := by
  have hw := wid_le n h
  have hv := val_digs n h
  have ht : (digs n ++ more).take (wid n) = digs n := by rw [List.take_append_of_le_length (by rw [digs_length]; exact Nat.le_refl _), List.take_of_length_le (by rw [digs_length]; exact Nat.le_refl _)]
  have hh : ¬ ((digs n).head? = some 0 ∨ 9223372036854775807 < val (digs n)) := by
    rw [hv]
    by_cases h0 : n = 0
    · subst h0; rw [digs_zero]; simp
    · intro hc
      rcases hc with hc | hc
      · exact head_digs n (by omega) h hc
      · omega
  have e : valR (digs n) = ((n : Int), 0) := by unfold valR; rw [if_neg hh, hv]
  have e0 : numB n ++ more = (wid n : Int) :: (digs n ++ more) := rfl
  rw [e0]
  simp only [numR]
  rw [if_neg (by omega), if_neg (by rw [List.length_append, digs_length]; omega), Int.toNat_natCast, ht, e]
  simp
theorem numS_back (x most : Int) (h0 : 0 ≤ x) (h1 : x ≤ 9223372036854775807) (hm : x ≤ most) (more : List Int) : numS (putL x ++ more) 0 most = (x, more, 0) := by
  have e : putL x = numB x.toNat := by unfold putL; rw [if_neg (by omega)]
  have hr := numR_back x.toNat (by omega) more
  have hx : ((x.toNat : Nat) : Int) = x := by omega
  rw [hx] at hr
  have hd : (numB x.toNat ++ more).drop (1 + wid x.toNat) = more := by
    have : (numB x.toNat).length = 1 + wid x.toNat := by simp only [numB, List.length_cons, digs_length]; omega
    rw [← this, List.drop_append_of_le_length (Nat.le_refl _)]; simp
  unfold numS
  rw [e, hr, if_pos rfl, if_pos rfl, if_neg (by omega), hd]
end Tal
theorem textS_back (s : ByteArray) (most : Int) (hs : s.size ≤ 1099511627) (hm : (s.size : Int) ≤ most) (more : List Int) : textS (textL s ++ more) 0 most = (strL s, more, 0) := by
  have e : textL s ++ more = putL (s.size : Int) ++ (strL s ++ more) := by unfold textL; rw [List.append_assoc]
  have hn := numS_back (s.size : Int) 9223372036854775807 (by omega) (by omega) (by omega) (strL s ++ more)
  unfold textS
  rw [e, hn]
  simp only [Int.toNat_natCast]
  rw [if_pos trivial, if_neg (by omega), if_neg (by rw [List.length_append, strL_length]; omega)]
  have hl := strL_length s
  rw [List.take_append_of_le_length (by omega), List.take_of_length_le (by omega), List.drop_append_of_le_length (by omega), List.drop_of_length_le (by omega), List.nil_append]

theorem strOf_list (zs : List Int) : (strOf zs).toList = zs.map (fun n => UInt8.ofNat n.toNat) := by
  have key : ∀ (zs : List Int) (r : ByteArray), (zs.foldl (fun r n => r.push (UInt8.ofNat n.toNat)) r).data.toList = r.data.toList ++ zs.map (fun n => UInt8.ofNat n.toNat) := by
    intro zs
    induction zs with
    | nil => intro r; simp
    | cons z zs ih => intro r; rw [List.foldl_cons, ih]; simp [ByteArray.push]
  rw [ByteArray.toList_eq]
  unfold strOf
  rw [key]
  rfl
theorem strOf_inj : ∀ {xs ys : List Int}, (∀ z ∈ xs, 0 ≤ z ∧ z < 256) → (∀ z ∈ ys, 0 ≤ z ∧ z < 256) → (strOf xs).toList = (strOf ys).toList → xs = ys := by
  intro xs ys hx hy h
  rw [strOf_list, strOf_list] at h
  have hl : xs.length = ys.length := by simpa using congrArg List.length h
  apply List.ext_getElem hl
  intro i h1 h2
  have := congrArg (·[i]?) h
  simp only [List.getElem?_map, List.getElem?_eq_getElem h1, List.getElem?_eq_getElem h2, Option.map_some, Option.some.injEq] at this
  have a1 := hx _ (List.getElem_mem h1)
  have a2 := hy _ (List.getElem_mem h2)
  have := congrArg UInt8.toNat this
  simp only [UInt8.toNat_ofNat'] at this
  omega
theorem putL_pre {a b : Int} {r r' : List Int} (ha : 0 ≤ a) (ha' : a ≤ 9223372036854775807) (hb : 0 ≤ b) (hb' : b ≤ 9223372036854775807) (h : putL a ++ r = putL b ++ r') : a = b ∧ r = r' := by
  have h1 := numS_back a 9223372036854775807 ha ha' ha' r
  have h2 := numS_back b 9223372036854775807 hb hb' hb' r'
  rw [h, h2] at h1
  simp only [Prod.mk.injEq, and_true] at h1
  exact ⟨h1.1.symm, h1.2.symm⟩
theorem strL_strOf {zs : List Int} (h : ∀ z ∈ zs, 0 ≤ z ∧ z < 256) : strL (strOf zs) = zs :=
  strOf_inj (strL_byte _) h (by rw [strOf_strL])
/-- a string's bytes, laid anew -/
theorem str_bytes (s : ByteArray) (w : World) (hs : s.size ≤ 100000000) : ∃ cap w', (convert 9 35 (.string s)).run Tryz.prog w = .ok (.slice (some ⟨w.heap.size, 0, none⟩) s.size cap) w' ∧ RowAt w' (some ⟨w.heap.size, 0, none⟩) (strL s) ∧ s.size ≤ cap ∧ cap ≤ maxLen ∧ Below w.heap.size w w' ∧ w.heap.size < w'.heap.size := by
  refine ⟨_, _, run_bytes_of_string w 9 35 5 s Tryz.underlying9 Tryz.underlying35 Tryz.underlying5, ?_, grownCap_ge _ _ _ _, grownCap_le_maxLen _ _ _ _ (by unfold maxLen; omega), ((Below.refl _ _).drew).alloc (Nat.le_refl _) _, by simp⟩
  refine ⟨by rw [strL_length]; unfold maxLen; omega, strL_byte s, Or.inr ⟨_, 0, rfl, by simp, ?_⟩⟩
  have := range_mark w.drew (bytesRow s (grownCap w s.size 0 5)) 5 ((bytesRow s (grownCap w s.size 0 5)).size, (bytesRow s (grownCap w s.size 0 5)).size + 1)
  have e : (bytesRow s (grownCap w s.size 0 5)).toList = v8 (strL s) ++ List.replicate (grownCap w s.size 0 5 - s.size) (.int .u8 0) := by
    simp [bytesRow, v8, strL]
  rw [e] at this
  exact range_left this
theorem ex_conv {o : Oper} {a : Act} {w w' : World} {x : Operand} {s d : TypeId} {u v : Value} (ho : o.op = .convert s d x) (hx : a.eval x = u) (hc : (convert s d u).run Tryz.prog w = .ok v w') : (execOp a.eval o).run Tryz.prog w = .ok (.value v) w' := by
  unfold execOp
  simp [ho, hx, hc]
/-- bytes of a string out of bytes -/
theorem row_bytes (zs : List Int) (w : World) (hz : ∀ z ∈ zs, 0 ≤ z ∧ z < 256) (hs : zs.length ≤ 100000000) : ∃ cap w', (convert 9 35 (.string (strOf zs))).run Tryz.prog w = .ok (.slice (some ⟨w.heap.size, 0, none⟩) zs.length cap) w' ∧ RowAt w' (some ⟨w.heap.size, 0, none⟩) zs ∧ zs.length ≤ cap ∧ cap ≤ maxLen ∧ Below w.heap.size w w' ∧ w.heap.size < w'.heap.size := by
  obtain ⟨cap, w', h⟩ := str_bytes (strOf zs) w (by rw [strOf_size]; exact hs)
  rw [strOf_size, strL_strOf hz] at h
  exact ⟨cap, w', h⟩
end Go.Proofs.YtfkchnjbbbhmjaaGreat.Ty
namespace Go.Proofs.YtfkchnjbbbhmjaaGreat.Ty
open Go.RowKit
open Tal
variable {B T : Nat}
/-- a frame: kind, record, how many bytes it has -/
structure Fr where
  k : Int
  zs : List Int
  n : Nat
/-- the frame with which bytes begin -/
def firstW (bs : List Int) : Option Fr :=
  if bs.length < 4 then none else
  if (textS (bs.drop 4) 0 4194304).2.2 ≠ 0 ∨ (bs.getD 3 0 ≠ 68 ∧ bs.getD 3 0 ≠ 71) then none else
  if frameL (bs.getD 3 0) (strOf (textS (bs.drop 4) 0 4194304).1) ≠ bs.take (bs.length - (textS (bs.drop 4) 0 4194304).2.1.length) then none else
  if bs.getD 3 0 = 71 ∧ turnN (textS (bs.drop 4) 0 4194304).1 = 0 then none else
  some ⟨bs.getD 3 0, (textS (bs.drop 4) 0 4194304).1, bs.length - (textS (bs.drop 4) 0 4194304).2.1.length⟩
def FirstIs (n0 : Nat) (r : Option Fr) (e : Ending) (w : World) : Prop :=
  match r with
  | none => e = .returned (.tuple #[.int .u8 0, .slice none 0 0, .int .i64 0])
  | some f => ∃ g rc, e = .returned (.tuple #[.int .u8 f.k, .slice (some ⟨g, 0, none⟩) f.zs.length rc, .int .i64 (f.n : Int)]) ∧ RowAt w (some ⟨g, 0, none⟩) f.zs ∧ n0 ≤ g ∧ g < w.heap.size ∧ f.zs.length ≤ rc ∧ rc ≤ maxLen

theorem at_of {w : World} {X : Nat} {rest : List Int} (h : RSt B T w X rest 0) : ∃ p : Nat, p + rest.length = T ∧ w.cell? ⟨X, 1, none⟩ = some (.int .i64 (p : Int)) ∧ w.cell? ⟨X, 2, none⟩ = some (.int .i64 0) ∧ X < w.heap.size := by
  obtain ⟨zs, p, hR, hd⟩ := h
  obtain ⟨hX, -, h1, h2, -, -, -, hp, -, hT⟩ := hR
  refine ⟨p, ?_, h1, h2, hX⟩
  rw [← hd rfl, List.length_drop, ← hT]
  omega
theorem err_of {w : World} {X : Nat} {rest : List Int} {e : Int} (h : RSt B T w X rest e) : w.cell? ⟨X, 2, none⟩ = some (.int .i64 e) := by
  obtain ⟨zs, p, hR, hd⟩ := h
  exact hR.2.2.2.1
theorem frameL_len (k : Int) (zs : List Int) (hl : zs.length ≤ 100000000) : (frameL k (strOf zs)).length ≤ 100001000 := by
  have hpl := putL_length ((strOf zs).size : Int) (by rw [strOf_size]; omega)
  have hs := strOf_size zs
  simp only [frameL, sumL, kindL, textL, List.length_cons, List.length_append, strL_length, List.length_nil]
  omega
theorem numS_drop (r : List Int) (e m : Int) : ∃ c, (numS r e m).2.1 = r.drop c := by
  unfold numS
  split
  · split
    · split
      · exact ⟨0, rfl⟩
      · exact ⟨_, rfl⟩
    · exact ⟨0, rfl⟩
  · exact ⟨0, rfl⟩
theorem textS_part (r : List Int) (e m : Int) : (∃ c n, (textS r e m).1 = (r.drop c).take n) ∧ ∃ d, (textS r e m).2.1 = r.drop d := by
  obtain ⟨c, hc⟩ := numS_drop r e 9223372036854775807
  unfold textS
  rw [hc]
  split
  · split
    · exact ⟨⟨0, 0, by simp⟩, 0, rfl⟩
    · split
      · exact ⟨⟨0, 0, by simp⟩, 0, rfl⟩
      · exact ⟨⟨c, _, rfl⟩, _, List.drop_drop ..⟩
  · exact ⟨⟨0, 0, by simp⟩, 0, rfl⟩
set_option maxRecDepth 100000 in
set_option maxHeartbeats 4000000 in
theorem xfirst_any (a : Option Addr) (cap : Nat) (bs : List Int) (w : World) (h : RowAt w a bs) (hc : bs.length ≤ cap) (hm : cap ≤ maxLen) (hl : bs.length ≤ 100000000) :
    Calls Tryz.prog 88 #[.slice a bs.length cap] w fun e w' => FirstIs w.heap.size (firstW bs) e w' ∧ Below w.heap.size w w' := by
  unfold maxLen at hm
  by_cases h4 : bs.length < 4
  · have HF : Hid (firstW bs = none) := hide (by unfold firstW; rw [if_pos h4])
    have h4I : (bs.length : Int) < 4 := by omega
    clear h h4
    go_enter Tryz.func88, Tryz.ntmps88
    go_wp2
    go_ret3
    rw [HF.out]
    exact ⟨rfl, Below.refl _ _⟩
  · obtain ⟨b, off, rfl, hb, hk3, k0, k1⟩ := h.get 3 (by omega)
    have h4I : ¬ (bs.length : Int) < 4 := by omega
    have hge : 4 ≤ bs.length := by omega
    obtain ⟨⟨pc, pn, hp1⟩, pd, hp2⟩ := textS_part (bs.drop 4) 0 4194304
    obtain ⟨rec, rest, er, hT⟩ : ∃ rec rest er, Hid (textS (bs.drop 4) 0 4194304 = (rec, rest, er)) := ⟨_, _, _, hide rfl⟩
    rw [hT.out] at hp1 hp2
    have hrb : ∀ z ∈ rec, 0 ≤ z ∧ z < 256 := fun z hz => h.2.1 z (by
      simp only at hp1
      rw [hp1] at hz
      exact List.mem_of_mem_drop (List.mem_of_mem_drop (List.mem_of_mem_take hz)))
    have hrl : rec.length ≤ 100000000 := by
      have := congrArg List.length hp1
      simp only [List.length_take, List.length_drop] at this
      omega
    have hre : rest.length ≤ bs.length - 4 := by
      have := congrArg List.length hp2
      simp only [List.length_drop] at this
      omega
    clear hp1 hp2
    have HF : Hid (firstW bs = if er ≠ 0 ∨ (bs.getD 3 0 ≠ 68 ∧ bs.getD 3 0 ≠ 71) then none else
      if frameL (bs.getD 3 0) (strOf rec) ≠ bs.take (bs.length - rest.length) then none else
      if bs.getD 3 0 = 71 ∧ turnN rec = 0 then none else some ⟨bs.getD 3 0, rec, bs.length - rest.length⟩) := hide (by
        unfold firstW
        rw [if_neg h4, hT.out])
    generalize bs.getD 3 0 = k at *
    have hrow4 := h.drop 4 cap hge hc
    have cR := refRead_any _ (cap - 4) (bs.drop 4) w hrow4 (by rw [List.length_drop]; omega)
    rw [List.length_drop] at cR
    clear hrow4 h4
    by_cases hcap : cap = 4
    · subst hcap
      have hl4 : bs.length = 4 := by omega
      have hnil : bs.drop 4 = [] := List.drop_of_length_le (by omega)
      have hcut : cutA (some ⟨b, off, none⟩) 4 4 = some ⟨b, off, none⟩ := by unfold cutA; rw [if_pos rfl]
      rw [hcut] at cR
      have hT' := hT.out
      rw [hnil] at cR hT'
      have e10 : textS [] 0 4194304 = ([], [], 10) := rfl
      rw [e10] at hT'
      simp only [Prod.mk.injEq] at hT'
      obtain ⟨rfl, rfl, rfl⟩ := hT'
      rw [if_pos (.inl (by omega))] at HF
      rw [hl4] at cR ⊢
      clear hT hnil hcut hre hrl hrb e10 hc hm hl hge h4I hl4
      go_enter Tryz.func88, Tryz.ntmps88
      go_wp2_with fail
      refine cR.mono ?_
      rintro e1 w1 ⟨X, rfl, hX, hS1, hB1⟩
      clear cR
      have cT := refText_any X [] 0 4194304 w1 hS1
      have e10 : textS [] 0 4194304 = ([], [], 10) := rfl
      rw [e10] at cT
      simp only at cT
      clear hS1 e10
      go_wp2_with fail
      refine cT.mono ?_
      rintro e2 w2 ⟨rfl, hS2, hg2⟩
      clear cT
      have hB2 : Below w.heap.size w w2 := below_grown hB1 hg2 hX hB1.size
      clear hg2 hB1
      have he2 := err_of hS2
      go_wp2
      go_ret3
      rw [HF.out]
      exact ⟨rfl, hB2⟩
    · have hcut : cutA (some ⟨b, off, none⟩) cap 4 = some ⟨b, off + 4, none⟩ := by unfold cutA; rw [if_neg hcap]; rfl
      rw [hcut] at cR
      clear hcut
      go_enter Tryz.func88, Tryz.ntmps88
      go_wp2_with fail
      refine cR.mono ?_
      rintro e1 w1 ⟨X, rfl, hX, hS1, hB1⟩
      clear cR
      have cT := refText_any X (bs.drop 4) 0 4194304 w1 hS1
      rw [hT.out] at cT
      simp only at cT
      clear hS1
      go_wp2_with fail
      refine cT.mono ?_
      rintro e2 w2 ⟨rfl, hS2, hg2⟩
      clear cT
      have hB2 : Below w.heap.size w w2 := below_grown hB1 hg2 hX hB1.size
      clear hg2 hB1
      have he2 := err_of hS2
      by_cases her : er = 0
      · subst her
        obtain ⟨p, hpT, hp1, -, hXw⟩ := at_of hS2
        have n0 : ((0 : Int) != 0) = false := rfl
        by_cases hk : k ≠ 68 ∧ k ≠ 71
        · have n1 : (k != 68) = true := bne_iff_ne.2 hk.1
          have n2 : (k != 71) = true := bne_iff_ne.2 hk.2
          rw [if_pos (.inr hk)] at HF
          clear hk
          go_wp2
          go_ret3
          rw [HF.out]
          exact ⟨rfl, hB2⟩
        · rw [if_neg (by rintro (q | q); exact q rfl; exact hk q)] at HF
          obtain ⟨n, hn⟩ : ∃ n : Nat, Hid (bs.length - rest.length = n) := ⟨_, hide rfl⟩
          have hpn : 4 + (p : Int) = (n : Int) := by have := hn.out; omega
          have hnl : n ≤ bs.length := by have := hn.out; omega
          rw [hn.out] at HF
          have hkk : k = 68 ∨ k = 71 := by omega
          clear hk hn hpT hre hS2 n0
          have h2 := h.below hB2
          rcases hkk with rfl | rfl
          · go_wp2_with fail
            obtain ⟨w8, hw8⟩ : ∃ w8, w2.drew = w8 := ⟨_, rfl⟩
            have hB8 : Below w2.heap.size w2 w8 := by rw [← hw8]; exact (Below.refl _ _).drew
            have h8 := h2.below hB8
            have hB28 : Below w.heap.size w w8 := hB2.trans (hB8.mono hB2.size)
            have hnt : (bs.take n).length = n := by rw [List.length_take]; omega
            have k8 : ∀ w', Below w8.heap.size w8 w' → (convert 35 9 (.slice (some ⟨b, off, none⟩) n cap)).run Tryz.prog w' = .ok (.string (strOf (bs.take n))) w' := fun w' hw => by
              have := _root_.Go.Proofs.YtfkchnjbbbhmjaaGreat.row_str (cap := cap) ((h8.below hw).take n)
              rwa [hnt] at this
            obtain ⟨cap3, w9, hcv, hrow9, -, -, hB9, -⟩ := row_bytes rec w8 hrb hrl
            have cF := xframe_any 68 (some ⟨w8.heap.size, 0, none⟩) cap3 rec w9 hrow9 ⟨by omega, by omega⟩ hrl
            have hfl := frameL_len 68 rec hrl
            obtain ⟨fL, hfL⟩ : ∃ fL, Hid (frameL 68 (strOf rec) = fL) := ⟨_, hide rfl⟩
            rw [hfL.out] at cF HF hfl
            clear hfL h2 hrow9 hp1 he2 hnt
            refine hs_begin (S := (Below w8.heap.size w8)) 10 rfl (by kernel_rfl) ?_
            rw [hw8]
            clear hw8
            have hS : (Below w8.heap.size w8) w8 := Below.refl _ _
            refine hs_take (i := 0) (d := some 38) (v := ?_) rfl (by kernel_rfl) (by kernel_rfl) (by kernel_rfl) (by rfl) ?_ hS rfl ?_
            rotate_left
            · intro w' hw
              go_simp
              try with_reducible rfl
            simp only [Act.put, List.setIfInBounds_toArray, List.set_cons_zero, List.set_cons_succ]
            refine hs_take (i := 1) (d := some 39) (v := ?_) rfl (by kernel_rfl) (by kernel_rfl) (by kernel_rfl) (by rfl) ?_ hS rfl ?_
            rotate_left
            · intro w' hw
              go_simp
              try with_reducible rfl
            simp only [Act.put, List.setIfInBounds_toArray, List.set_cons_zero, List.set_cons_succ]
            refine hs_take (i := 5) (d := some 43) (v := ?_) rfl (by kernel_rfl) (by kernel_rfl) (by kernel_rfl) (by rfl) ?_ hS rfl ?_
            rotate_left
            · intro w' hw
              go_simp
              try with_reducible rfl
            simp only [Act.put, List.setIfInBounds_toArray, List.set_cons_zero, List.set_cons_succ]
            refine hs_take (i := 6) (d := some 44) (v := ?_) rfl (by kernel_rfl) (by kernel_rfl) (by kernel_rfl) (by rfl) ?_ hS rfl ?_
            rotate_left
            · intro w' hw
              go_simp
              try with_reducible rfl
            simp only [Act.put, List.setIfInBounds_toArray, List.set_cons_zero, List.set_cons_succ]
            refine hs_take (i := 7) (d := some 45) (v := .slice (some ⟨b, off, none⟩) n cap) rfl (by kernel_rfl) (by kernel_rfl) (by kernel_rfl) (by rfl) (fun w' hw => by go_simp; intro q; omega) hS rfl ?_
            simp only [Act.put, List.setIfInBounds_toArray, List.set_cons_zero, List.set_cons_succ]
            refine hs_take (i := 8) (d := some 46) (v := .string (strOf (bs.take n))) rfl (by kernel_rfl) (by kernel_rfl) (by kernel_rfl) (by rfl) (fun w' hw => by have := k8 w' hw; go_simp) hS rfl ?_
            simp only [Act.put, List.setIfInBounds_toArray, List.set_cons_zero, List.set_cons_succ]
            have hS : Below w8.heap.size w8 w9 := hB9
            refine hs_run (i := 2) (d := some 40) (v := .slice (some ⟨w8.heap.size, 0, none⟩) rec.length cap3) (w' := w9) rfl (by kernel_rfl) (by rfl) (ex_conv rfl rfl hcv) rfl hS ?_
            simp only [Act.put, List.setIfInBounds_toArray, List.set_cons_zero, List.set_cons_succ]
            refine hs_call (i := 3) (d := some 41) rfl (by kernel_rfl) (by rfl) (by go_simp; first | done | exact ⟨rfl, rfl⟩ | with_reducible rfl) rfl ?_
            refine (cF).mono ?_
            rintro e' w10 ⟨v4, rfl, hM4, hB4⟩
            have hS : Below w8.heap.size w8 w10 := hB9.trans (hB4.mono hB9.size)
            refine ⟨_, rfl, hS, ?_⟩
            simp only [Act.put, List.setIfInBounds_toArray, List.set_cons_zero, List.set_cons_succ]
            obtain ⟨a4, c4, rfl, -, -, hR4⟩ := hM4.row (by omega)
            have hS : Below w8.heap.size w8 w10 := hS
            refine hs_run (i := 4) (d := some 42) (v := .string (strOf fL)) (w' := w10) rfl (by kernel_rfl) (by rfl) (ex_conv rfl rfl (_root_.Go.Proofs.YtfkchnjbbbhmjaaGreat.row_str (cap := c4) hR4)) rfl hS ?_
            simp only [Act.put, List.setIfInBounds_toArray, List.set_cons_zero, List.set_cons_succ]
            refine hs_take (i := 9) (d := some 47) (v := ?_) rfl (by kernel_rfl) (by kernel_rfl) (by kernel_rfl) (by rfl) ?_ hS rfl ?_
            rotate_left
            · intro w' hw
              go_simp
              try with_reducible rfl
            simp only [Act.put, List.setIfInBounds_toArray, List.set_cons_zero, List.set_cons_succ]
            refine hs_done (by kernel_rfl) ?_

            have hfb := hR4.2.1
            have htb : ∀ z ∈ bs.take n, 0 ≤ z ∧ z < 256 := fun z hz => h.2.1 z (List.mem_of_mem_take hz)
            have hBA : Below w.heap.size w w10 := hB28.trans (hS.mono hB28.size)
            clear k8 hcv hB9 hB4 hM4 hR4 hS cF h8 hB8 hB28 hfl hX hB2 h
            by_cases hq : fL = bs.take n
            · have qq : ((strOf fL).toList == (strOf (bs.take n)).toList) = true := by rw [hq]; simp
              rw [if_neg (fun q => q hq)] at HF
              rw [qq]
              clear qq hq hfb htb
              obtain ⟨cap5, w11, hcv5, hrow5, hca5, hcb5, hB11, hsz5⟩ := row_bytes rec w10 hrb hrl
              have hBB : Below w.heap.size w w11 := hBA.trans (hB11.mono hBA.size)
              rw [if_neg (by omega)] at HF
              clear hB11 hpn
              go_wp2
              go_ret3
              rw [HF.out]
              exact ⟨⟨_, _, rfl, hrow5, hBA.size, hsz5, hca5, hcb5⟩, hBB⟩
            · have qq : ((strOf fL).toList == (strOf (bs.take n)).toList) = false := beq_eq_false_iff_ne.2 (fun q => hq (strOf_inj hfb htb q))
              rw [if_pos hq] at HF
              rw [qq]
              clear qq hq hfb htb
              go_wp2
              go_ret3
              rw [HF.out]
              exact ⟨rfl, hBA⟩
          · go_wp2_with fail
            obtain ⟨w8, hw8⟩ : ∃ w8, w2.drew = w8 := ⟨_, rfl⟩
            have hB8 : Below w2.heap.size w2 w8 := by rw [← hw8]; exact (Below.refl _ _).drew
            have h8 := h2.below hB8
            have hB28 : Below w.heap.size w w8 := hB2.trans (hB8.mono hB2.size)
            have hnt : (bs.take n).length = n := by rw [List.length_take]; omega
            have k8 : ∀ w', Below w8.heap.size w8 w' → (convert 35 9 (.slice (some ⟨b, off, none⟩) n cap)).run Tryz.prog w' = .ok (.string (strOf (bs.take n))) w' := fun w' hw => by
              have := _root_.Go.Proofs.YtfkchnjbbbhmjaaGreat.row_str (cap := cap) ((h8.below hw).take n)
              rwa [hnt] at this
            obtain ⟨cap3, w9, hcv, hrow9, -, -, hB9, -⟩ := row_bytes rec w8 hrb hrl
            have cF := xframe_any 71 (some ⟨w8.heap.size, 0, none⟩) cap3 rec w9 hrow9 ⟨by omega, by omega⟩ hrl
            have hfl := frameL_len 71 rec hrl
            obtain ⟨fL, hfL⟩ : ∃ fL, Hid (frameL 71 (strOf rec) = fL) := ⟨_, hide rfl⟩
            rw [hfL.out] at cF HF hfl
            clear hfL h2 hrow9 hp1 he2 hnt
            refine hs_begin (S := (Below w8.heap.size w8)) 10 rfl (by kernel_rfl) ?_
            rw [hw8]
            clear hw8
            have hS : (Below w8.heap.size w8) w8 := Below.refl _ _
            refine hs_take (i := 0) (d := some 38) (v := ?_) rfl (by kernel_rfl) (by kernel_rfl) (by kernel_rfl) (by rfl) ?_ hS rfl ?_
            rotate_left
            · intro w' hw
              go_simp
              try with_reducible rfl
            simp only [Act.put, List.setIfInBounds_toArray, List.set_cons_zero, List.set_cons_succ]
            refine hs_take (i := 1) (d := some 39) (v := ?_) rfl (by kernel_rfl) (by kernel_rfl) (by kernel_rfl) (by rfl) ?_ hS rfl ?_
            rotate_left
            · intro w' hw
              go_simp
              try with_reducible rfl
            simp only [Act.put, List.setIfInBounds_toArray, List.set_cons_zero, List.set_cons_succ]
            refine hs_take (i := 5) (d := some 43) (v := ?_) rfl (by kernel_rfl) (by kernel_rfl) (by kernel_rfl) (by rfl) ?_ hS rfl ?_
            rotate_left
            · intro w' hw
              go_simp
              try with_reducible rfl
            simp only [Act.put, List.setIfInBounds_toArray, List.set_cons_zero, List.set_cons_succ]
            refine hs_take (i := 6) (d := some 44) (v := ?_) rfl (by kernel_rfl) (by kernel_rfl) (by kernel_rfl) (by rfl) ?_ hS rfl ?_
            rotate_left
            · intro w' hw
              go_simp
              try with_reducible rfl
            simp only [Act.put, List.setIfInBounds_toArray, List.set_cons_zero, List.set_cons_succ]
            refine hs_take (i := 7) (d := some 45) (v := .slice (some ⟨b, off, none⟩) n cap) rfl (by kernel_rfl) (by kernel_rfl) (by kernel_rfl) (by rfl) (fun w' hw => by go_simp; intro q; omega) hS rfl ?_
            simp only [Act.put, List.setIfInBounds_toArray, List.set_cons_zero, List.set_cons_succ]
            refine hs_take (i := 8) (d := some 46) (v := .string (strOf (bs.take n))) rfl (by kernel_rfl) (by kernel_rfl) (by kernel_rfl) (by rfl) (fun w' hw => by have := k8 w' hw; go_simp) hS rfl ?_
            simp only [Act.put, List.setIfInBounds_toArray, List.set_cons_zero, List.set_cons_succ]
            have hS : Below w8.heap.size w8 w9 := hB9
            refine hs_run (i := 2) (d := some 40) (v := .slice (some ⟨w8.heap.size, 0, none⟩) rec.length cap3) (w' := w9) rfl (by kernel_rfl) (by rfl) (ex_conv rfl rfl hcv) rfl hS ?_
            simp only [Act.put, List.setIfInBounds_toArray, List.set_cons_zero, List.set_cons_succ]
            refine hs_call (i := 3) (d := some 41) rfl (by kernel_rfl) (by rfl) (by go_simp; first | done | exact ⟨rfl, rfl⟩ | with_reducible rfl) rfl ?_
            refine (cF).mono ?_
            rintro e' w10 ⟨v4, rfl, hM4, hB4⟩
            have hS : Below w8.heap.size w8 w10 := hB9.trans (hB4.mono hB9.size)
            refine ⟨_, rfl, hS, ?_⟩
            simp only [Act.put, List.setIfInBounds_toArray, List.set_cons_zero, List.set_cons_succ]
            obtain ⟨a4, c4, rfl, -, -, hR4⟩ := hM4.row (by omega)
            have hS : Below w8.heap.size w8 w10 := hS
            refine hs_run (i := 4) (d := some 42) (v := .string (strOf fL)) (w' := w10) rfl (by kernel_rfl) (by rfl) (ex_conv rfl rfl (_root_.Go.Proofs.YtfkchnjbbbhmjaaGreat.row_str (cap := c4) hR4)) rfl hS ?_
            simp only [Act.put, List.setIfInBounds_toArray, List.set_cons_zero, List.set_cons_succ]
            refine hs_take (i := 9) (d := some 47) (v := ?_) rfl (by kernel_rfl) (by kernel_rfl) (by kernel_rfl) (by rfl) ?_ hS rfl ?_
            rotate_left
            · intro w' hw
              go_simp
              try with_reducible rfl
            simp only [Act.put, List.setIfInBounds_toArray, List.set_cons_zero, List.set_cons_succ]
            refine hs_done (by kernel_rfl) ?_

            have hfb := hR4.2.1
            have htb : ∀ z ∈ bs.take n, 0 ≤ z ∧ z < 256 := fun z hz => h.2.1 z (List.mem_of_mem_take hz)
            have hBA : Below w.heap.size w w10 := hB28.trans (hS.mono hB28.size)
            clear k8 hcv hB9 hB4 hM4 hR4 hS cF h8 hB8 hB28 hfl hX hB2 h
            by_cases hq : fL = bs.take n
            · have qq : ((strOf fL).toList == (strOf (bs.take n)).toList) = true := by rw [hq]; simp
              rw [if_neg (fun q => q hq)] at HF
              rw [qq]
              clear qq hq hfb htb
              obtain ⟨cap5, w11, hcv5, hrow5, hca5, hcb5, hB11, hsz5⟩ := row_bytes rec w10 hrb hrl
              have hBB : Below w.heap.size w w11 := hBA.trans (hB11.mono hBA.size)
              have cX := xturn_any (some ⟨w10.heap.size, 0, none⟩) cap5 rec w11 hrow5 hrl
              obtain ⟨t, ht⟩ : ∃ t, Hid (turnN rec = t) := ⟨_, hide rfl⟩
              rw [ht.out] at cX HF
              clear hBA hB11 hpn ht hrow5
              by_cases h0 : t = 0
              · subst h0
                rw [if_pos (by simp)] at HF
                go_wp2_with fail
                refine cX.mono ?_
                rintro e5 w12 ⟨rfl, hB12⟩
                have hBC : Below w.heap.size w w12 := hBB.trans (hB12.mono hBB.size)
                clear cX hcv5 hBB hB12
                go_wp2
                go_ret3
                rw [HF.out]
                exact ⟨rfl, hBC⟩
              · rw [if_neg (fun q => h0 q.2)] at HF
                have n1 : (t == 0) = false := beq_eq_false_iff_ne.2 h0
                clear h0
                go_wp2_with fail
                refine cX.mono ?_
                rintro e5 w12 ⟨rfl, hB12⟩
                have hBC : Below w.heap.size w w12 := hBB.trans (hB12.mono hBB.size)
                clear cX hcv5 hBB hB12
                obtain ⟨cap6, w13, hcv6, hrow6, hca6, hcb6, hB13, hsz6⟩ := row_bytes rec w12 hrb hrl
                have hBD : Below w.heap.size w w13 := hBC.trans (hB13.mono hBC.size)
                clear hB13
                go_wp2
                go_ret3
                rw [HF.out]
                exact ⟨⟨_, _, rfl, hrow6, hBC.size, hsz6, hca6, hcb6⟩, hBD⟩
            · have qq : ((strOf fL).toList == (strOf (bs.take n)).toList) = false := beq_eq_false_iff_ne.2 (fun q => hq (strOf_inj hfb htb q))
              rw [if_pos hq] at HF
              rw [qq]
              clear qq hq hfb htb
              go_wp2
              go_ret3
              rw [HF.out]
              exact ⟨rfl, hBA⟩
      · have n1 : (er != 0) = true := bne_iff_ne.2 her
        rw [if_pos (.inl her)] at HF
        clear her
        go_wp2
        go_ret3
        rw [HF.out]
        exact ⟨rfl, hB2⟩
end Go.Proofs.YtfkchnjbbbhmjaaGreat.Ty
namespace Go.Proofs.YtfkchnjbbbhmjaaGreat.Ty
open Go.RowKit
open Tal
/-- what was read as a text is what would be put -/
theorem textS_form {r rec rest : List Int} {most : Int} (hz : ∀ z ∈ r, 0 ≤ z ∧ z < 256) (h : textS r 0 most = (rec, rest, 0)) : r = textL (strOf rec) ++ rest := by
  have hN := numS_max r hz
  have hF := numR_form r hz
  unfold textS at h
  rw [hN] at h
  by_cases h0 : (numR r).2.2 = 0
  · obtain ⟨f1, f2, f3, f4⟩ := hF h0
    rw [if_pos h0] at h
    simp only at h
    rw [if_pos trivial] at h
    generalize (numR r).1 = v at *
    generalize (numR r).2.1 = c at *
    obtain ⟨m, rfl⟩ := Int.eq_ofNat_of_zero_le f3
    split at h
    · simp at h
    · split at h
      · simp at h
      · rename_i hm hl
        simp only [Prod.mk.injEq, and_true, Int.toNat_natCast] at h
        obtain ⟨rfl, rfl⟩ := h
        have hb : ∀ z ∈ (r.drop c).take m, 0 ≤ z ∧ z < 256 := fun z q => hz z (List.mem_of_mem_drop (List.mem_of_mem_take q))
        unfold textL
        rw [strL_strOf hb, strOf_size, List.length_take, Nat.min_eq_left (by omega), f1, List.append_assoc, List.take_append_drop, List.take_append_drop]
  · rw [if_neg h0] at h
    simp only [if_neg h0, Prod.mk.injEq] at h
    exact absurd h.2.2 h0
theorem sumL_iff {b0 b1 b2 : Int} {bs : List Int} (h1 : 0 ≤ b1 ∧ b1 < 256) (h2 : 0 ≤ b2 ∧ b2 < 256) : sumL bs = [b0, b1, b2] ↔ crcN bs = sumN [b0, b1, b2] := by
  have hc := crcN_lt bs
  have e : sumN [b0, b1, b2] = ((0 * 256 + b0) * 256 + b1) * 256 + b2 := rfl
  rw [e]
  unfold sumL
  generalize crcN bs = c at *
  constructor
  · intro h
    simp only [List.cons.injEq, and_true] at h
    omega
  · intro h
    simp only [List.cons.injEq, and_true]
    omega
/-- the frame's bytes fit if and only if the sum of those behind it is the one that stands there -/
theorem fits_iff {bs rec rest : List Int} (hz : ∀ z ∈ bs, 0 ≤ z ∧ z < 256) (h4 : 4 ≤ bs.length) (h : textS (bs.drop 4) 0 4194304 = (rec, rest, 0)) :
    (frameL (bs.getD 3 0) (strOf rec) = bs.take (bs.length - rest.length) ↔ crcN ((bs.drop 3).take (bs.length - rest.length - 3)) = sumN (bs.take 3)) ∧ rest.length + 4 ≤ bs.length ∧ rest = bs.drop (bs.length - rest.length) := by
  have hf := textS_form (fun z q => hz z (List.mem_of_mem_drop q)) h
  obtain ⟨b0, b1, b2, k, tl, rfl⟩ : ∃ b0 b1 b2 k tl, bs = b0 :: b1 :: b2 :: k :: tl := by
    match bs, h4 with
    | b0 :: b1 :: b2 :: k :: tl, _ => exact ⟨b0, b1, b2, k, tl, rfl⟩
  simp only [List.drop_succ_cons, List.drop_zero] at hf
  subst hf
  clear h
  generalize htx : textL (strOf rec) = tx
  have hn : (b0 :: b1 :: b2 :: k :: (tx ++ rest)).length - rest.length = tx.length + 1 + 1 + 1 + 1 := by simp only [List.length_cons, List.length_append]; omega
  rw [hn]
  have hk : (b0 :: b1 :: b2 :: k :: (tx ++ rest)).getD 3 0 = k := rfl
  rw [hk]
  have hkl : kindL k (strOf rec) = k :: tx := by rw [← htx]; rfl
  refine ⟨?_, by simp only [List.length_cons, List.length_append]; omega, by simp⟩
  have e1 : tx.length + 1 + 1 + 1 + 1 - 3 = tx.length + 1 := by omega
  rw [e1]
  simp only [List.take_succ_cons, List.drop_succ_cons, List.drop_zero, List.take_zero, List.take_left]
  unfold frameL
  rw [hkl]
  rw [← sumL_iff (hz b1 (by simp)) (hz b2 (by simp))]
  constructor
  · intro q
    have : sumL (k :: tx) ++ (k :: tx) = [b0, b1, b2] ++ (k :: tx) := q
    exact List.append_cancel_right this
  · intro q
    rw [q]
    rfl
/-- the frames of bytes -/
def framesN : Nat → List Int → List Fr
  | 0, _ => []
  | t + 1, bs => match firstW bs with
    | none => []
    | some f => f :: framesN t (bs.drop f.n)
def framesW (bs : List Int) : List Fr := framesN bs.length bs
theorem firstW_len {bs : List Int} {f : Fr} (hz : ∀ z ∈ bs, 0 ≤ z ∧ z < 256) (h : firstW bs = some f) : 4 ≤ f.n ∧ f.n ≤ bs.length := by
  unfold firstW at h
  split at h
  · cases h
  · rename_i h4
    split at h
    · cases h
    · rename_i he
      split at h
      · cases h
      · split at h
        · cases h
        · obtain ⟨rec, rest, er, hT⟩ : ∃ rec rest er, textS (bs.drop 4) 0 4194304 = (rec, rest, er) := ⟨_, _, _, rfl⟩
          rw [hT] at h he
          simp only [Option.some.injEq] at h
          have her : er = 0 := by
            by_cases q : er = 0
            · exact q
            · exact absurd (.inl q) he
          subst her
          have := (fits_iff hz (by omega) hT).2.1
          subst h
          simp only
          omega
theorem framesN_more {bs : List Int} (hz : ∀ z ∈ bs, 0 ≤ z ∧ z < 256) : ∀ t, bs.length ≤ t → framesN t bs = framesN bs.length bs := by
  intro t
  induction t using Nat.strongRecOn generalizing bs with
  | _ t ih =>
    intro ht
    match t, ht with
    | 0, ht =>
      have : bs.length = 0 := by omega
      rw [this]
    | t + 1, ht =>
      cases hf : firstW bs with
      | none =>
        have : bs.length = 0 ∨ ∃ u, bs.length = u + 1 := by cases bs.length <;> simp
        rcases this with q | ⟨u, q⟩
        · rw [q]; simp only [framesN, hf]
        · rw [q]; simp only [framesN, hf]
      | some f =>
        obtain ⟨l1, l2⟩ := firstW_len hz hf
        obtain ⟨u, q⟩ : ∃ u, bs.length = u + 1 := ⟨bs.length - 1, by omega⟩
        have hz' : ∀ z ∈ bs.drop f.n, 0 ≤ z ∧ z < 256 := fun z hh => hz z (List.mem_of_mem_drop hh)
        have hd : (bs.drop f.n).length ≤ u := by rw [List.length_drop]; omega
        rw [q]
        simp only [framesN, hf]
        rw [ih t (by omega) hz' (by omega), ih u (by omega) hz' hd]
/-- one frame, then those behind it -/
theorem framesW_step {bs : List Int} (hz : ∀ z ∈ bs, 0 ≤ z ∧ z < 256) : framesW bs = match firstW bs with
    | none => []
    | some f => f :: framesW (bs.drop f.n) := by
  cases hf : firstW bs with
  | none =>
    unfold framesW
    cases bs.length <;> simp only [framesN, hf]
  | some f =>
    obtain ⟨l1, l2⟩ := firstW_len hz hf
    obtain ⟨u, q⟩ : ∃ u, bs.length = u + 1 := ⟨bs.length - 1, by omega⟩
    have hz' : ∀ z ∈ bs.drop f.n, 0 ≤ z ∧ z < 256 := fun z hh => hz z (List.mem_of_mem_drop hh)
    unfold framesW
    rw [q]
    simp only [framesN, hf]
    rw [framesN_more hz' u (by rw [List.length_drop]; omega)]
end Go.Proofs.YtfkchnjbbbhmjaaGreat.Ty
namespace Go.Proofs.YtfkchnjbbbhmjaaGreat
open Go.RowKit
structure Jv where
  q : Nat
  p : Nat
  ar : Int
  tu : Int
  fs : Int
def jcells (j : Jv) : List Value := [.pointer (some ⟨j.p, 0, none⟩), .int .i64 j.ar, .int .i64 j.tu, .int .i64 j.fs]
structure JAt (w : World) (j : Jv) : Prop where
  c : w.rangeAt j.q 0 (jcells j)
  th : w.there j.q 0 4
theorem JAt.at {w w' : World} {j : Jv} (h : JAt w j) (hb : w'.heap[j.q]? = w.heap[j.q]?) : JAt w' j := ⟨range_at h.c hb, there_at h.th hb⟩
theorem JAt.lt {w : World} {j : Jv} (h : JAt w j) : j.q < w.heap.size := there_lt h.th (by omega)
theorem JAt.below {w w' : World} {j : Jv} (h : JAt w j) (hb : Below w.heap.size w w') : JAt w' j := h.at (hb.block _ h.lt)
theorem JAt.cell {w : World} {j : Jv} (h : JAt w j) (i : Nat) {v : Value} (hv : (jcells j)[i]? = some v) : w.cell? ⟨j.q, i, none⟩ = some v := by
  have := h.c i v hv
  rwa [Nat.zero_add] at this
def jptr (j : Jv) : Value := .pointer (some ⟨j.q, 0, none⟩)
/-- is there power for a journal? -/
def Mt.jon (M : Mt) (fs : Int) : Bool := M.on && decide (M.fa = fs)
set_option maxRecDepth 100000 in
set_option maxHeartbeats 4000000 in
theorem jmade_any (j : Jv) (w : World) (h : JAt w j) : Calls Tryz.prog 45 #[jptr j] w fun e w' => e = .returned (.bool true) ∧ w' = w := by
  have h0 := h.cell 0 rfl
  clear h
  unfold jptr
  go_enter Tryz.func45, Tryz.ntmps45
  go_wp2_with fail
  go_ret
  exact ⟨rfl, rfl⟩
set_option maxRecDepth 100000 in
set_option maxHeartbeats 4000000 in
theorem jturn_any (j : Jv) (w : World) (h : JAt w j) : Calls Tryz.prog 12 #[jptr j] w fun e w' => e = .returned (.int .i64 j.tu) ∧ w' = w := by
  have cm := jmade_any j w h
  have h2 := h.cell 2 rfl
  clear h
  unfold jptr at *
  go_enter Tryz.func12, Tryz.ntmps12
  go_wp2_with fail
  refine cm.mono ?_
  rintro e w' ⟨rfl, hw⟩
  obtain rfl := hw.symm
  clear cm hw
  go_wp2_with fail
  go_ret
  exact ⟨rfl, rfl⟩
set_option maxRecDepth 100000 in
set_option maxHeartbeats 4000000 in
theorem jon_any (j : Jv) (M : Mt) (A : Nat → Prop) (w : World) (h : JAt w j) (hT : Live A w j.p M) : Calls Tryz.prog 15 #[jptr j] w fun e w' => e = .returned (.bool (M.jon j.fs)) ∧ Below w.heap.size w w' := by
  have cm := jmade_any j w h
  have h0 := h.cell 0 rfl
  have cC := live_counts hT
  unfold Mt.jon
  unfold jptr at *
  go_enter Tryz.func15, Tryz.ntmps15
  go_wp2_with fail
  refine cm.mono ?_
  rintro e w' ⟨rfl, hw⟩
  obtain rfl := hw.symm
  clear cm hw
  go_wp2_with fail
  refine cC.mono ?_
  rintro e w1 ⟨rfl, hB1⟩
  clear cC
  have cO := live_on (hT.below hB1)
  have g0 := (h.below hB1).cell 0 rfl
  have g3 := (h.below hB1).cell 3 rfl
  cases hon : M.on
  · rw [hon] at cO
    have HON := hide hon
    clear hon h0
    go_wp2_with fail
    refine cO.mono ?_
    rintro e w2 ⟨rfl, hx⟩
    obtain rfl := hx.symm
    clear cO hx
    go_wp2_with fail
    go_ret
    exact ⟨by rw [HON.out]; rfl, hB1⟩
  · rw [hon] at cO
    have HON := hide hon
    clear hon h0
    go_wp2_with fail
    refine cO.mono ?_
    rintro e w2 ⟨rfl, hx⟩
    obtain rfl := hx.symm
    clear cO hx
    by_cases hf : M.fa = j.fs
    · have hd : decide (M.fa = j.fs) = true := decide_eq_true hf
      have hf' : (M.fa == j.fs) = true := by simpa using hf
      go_wp2_with fail
      go_ret
      exact ⟨by rw [HON.out]; first | rfl | (simp [hf]), hB1⟩
    · have hf' : (M.fa == j.fs) = false := by simpa using hf
      go_wp2_with fail
      go_ret
      exact ⟨by rw [HON.out]; first | rfl | (simp [hf]), hB1⟩
/-- a record in memory -/
structure Rc where
  a : Option Addr
  cap : Nat
  zs : List Int
deriving Inhabited
def Rc.cells (r : Rc) : List Value := [.slice r.a r.zs.length r.cap]
structure Rc.ok (w : World) (r : Rc) : Prop where
  row : RowAt w r.a r.zs
  le : r.zs.length ≤ r.cap
  cm : r.cap ≤ maxLen
/-- may records be taken? -/
def takesE (on : Bool) (rs : List Rc) : Int := if on then if ∀ r ∈ rs, r.zs.length ≤ 4194304 then 0 else 3 else 150
set_option maxRecDepth 100000 in
set_option maxHeartbeats 4000000 in
theorem jtakes_any (j : Jv) (M : Mt) (A : Nat → Prop) (ra : Option Addr) (rc : Nat) (rs : List Rc) (w : World) (h : JAt w j) (hT : Live A w j.p M) (hr : RowOf Rc.cells w ra rs) (hl : rs.length ≤ maxLen) :
    Calls Tryz.prog 47 #[jptr j, .slice ra rs.length rc] w fun e w' => e = .returned (.int .i64 (takesE (M.jon j.fs) rs)) ∧ Below w.heap.size w w' := by
  have cm := jmade_any j w h
  have cO := jon_any j M A w h hT
  unfold maxLen at hl
  unfold jptr at *
  cases hon : M.jon j.fs
  · rw [hon] at cO
    have HE : Hid (takesE false rs = 150) := hide rfl
    rw [HE.out]
    clear hon HE h hT
    go_enter Tryz.func47, Tryz.ntmps47
    go_wp2_with fail
    refine cm.mono ?_
    rintro e w' ⟨rfl, hw⟩
    obtain rfl := hw.symm
    clear cm hw
    go_wp2_with fail
    refine cO.mono ?_
    rintro e w' ⟨rfl, hw⟩
    clear cO
    go_wp2_with fail
    go_ret
    exact ⟨rfl, hw⟩
  · rw [hon] at cO
    have HE : Hid (takesE true rs = if ∀ r ∈ rs, r.zs.length ≤ 4194304 then 0 else 3) := hide rfl
    rw [HE.out]
    clear hon HE h hT
    obtain ⟨te, hte⟩ : ∃ te, Hid ((if ∀ r ∈ rs, r.zs.length ≤ 4194304 then (0 : Int) else 3) = te) := ⟨_, hide rfl⟩
    rw [hte.out]
    go_enter Tryz.func47, Tryz.ntmps47
    go_wp2_with fail
    refine cm.mono ?_
    rintro e w' ⟨rfl, hw⟩
    obtain rfl := hw.symm
    clear cm hw
    go_wp2_with fail
    refine cO.mono ?_
    rintro e w1 ⟨rfl, hB1⟩
    clear cO
    go_wp2_with fail
    go_loopw [17] (fun iv wr => ∃ k : Nat, k ≤ rs.length ∧ iv = .int .i64 (k : Int) ∧ wr = w1 ∧ Hid (∀ i, (hi : i < rs.length) → i < k → rs[i].zs.length ≤ 4194304)) (fun iv _ => rs.length - (intOf iv).toNat)
    case atStart => exact ⟨0, by omega, rfl, rfl, hide (fun i hi h0 => by omega)⟩
    case round =>
      obtain ⟨k, hk, rfl, hw, HP⟩ := hrel
      obtain rfl := hw.symm
      clear hw
      by_cases hlt : k < rs.length
      · have hltI : (k : Int) < (rs.length : Int) := by omega
        obtain ⟨rb, off, rfl, hrb, hre0⟩ := hr.elem (k := 1) (fun _ _ => rfl) k hlt
        have c0 : w1.cell? ⟨rb, off + k, none⟩ = some (.slice rs[k].a rs[k].zs.length rs[k].cap) := by
          have := (range_below hre0 hB1 hrb) 0 _ rfl
          simpa using this
        obtain ⟨y, hy⟩ : ∃ y, Hid (rs[k] = y) := ⟨_, hide rfl⟩
        rw [hy.out] at c0
        by_cases hlong : y.zs.length ≤ 4194304
        · have HQ : Hid (∀ i, (hi : i < rs.length) → i < k + 1 → rs[i].zs.length ≤ 4194304) := hide (fun i hi h1 => by
            by_cases e : i = k
            · subst e; rw [hy.out]; exact hlong
            · exact HP.out i hi (by omega))
          have hlI : ¬ (4194304 : Int) < (y.zs.length : Int) := by omega
          clear hre0 hy HP
          go_wp2_with fail
          go_roundw
          case rel => exact ⟨k + 1, by omega, by go_num, by trivial, HQ⟩
          case measure => simp [intOf]; omega
        · have hlI : (4194304 : Int) < (y.zs.length : Int) := by omega
          have HZ : Hid (te = 3) := hide (by
            rw [← hte.out, if_neg]
            intro q
            have := q _ (List.getElem_mem hlt)
            rw [hy.out] at this
            exact hlong this)
          clear hre0 hy HP
          go_wp2_with fail
          go_ret
          exact ⟨by rw [HZ.out]; rfl, hB1⟩
      · have k1 : ¬ (k : Int) < (rs.length : Int) := by omega
        have HZ : Hid (te = 0) := hide (by
          rw [← hte.out, if_pos]
          intro r hrm
          obtain ⟨i, hi, rfl⟩ := List.mem_iff_getElem.1 hrm
          exact HP.out i hi (by omega))
        clear HP
        go_wp2_with fail
        go_ret
        exact ⟨by rw [HZ.out]; rfl, hB1⟩
end Go.Proofs.YtfkchnjbbbhmjaaGreat
namespace Go.Proofs.YtfkchnjbbbhmjaaGreat.Ty
open Go.RowKit
open Tal
def Rc.val (x : Rc) : Value := .slice x.a x.zs.length x.cap
theorem RowAt_gbo {w w' : World} {a : Option Addr} {zs : List Int} {row : Option Nat} (h : RowAt w a zs) (hg : w.grownBy w' row) (hne : ∀ x, a = some x → row ≠ some x.block) : RowAt w' a zs := by
  refine ⟨h.1, h.2.1, ?_⟩
  rcases h.2.2 with q | ⟨b, off, rfl, hb, hr⟩
  · exact .inl q
  · exact .inr ⟨b, off, rfl, Nat.lt_of_lt_of_le hb hg.size, fun j v hv => hg.cell (hr j v hv) (fun q => hne _ rfl q.symm)⟩
structure Out (B : Nat) (w : World) (vk vr : Value) (ks : List Int) (rs xs : List Rc) : Prop where
  k : w.ownsRow B 5 1 vk ks.length (v8 ks)
  kb : ∀ z ∈ ks, 0 ≤ z ∧ z < 256
  r : w.ownsRow B 35 1 vr rs.length (rs.map Rc.val)
  ap : ∀ g, vk.ownBlock = some g → vr.ownBlock ≠ some g
  rows : ∀ x ∈ xs, RowAt w x.a x.zs
  off : ∀ x ∈ xs, ∀ ad, x.a = some ad → ad.block < w.heap.size ∧ vk.ownBlock ≠ some ad.block ∧ vr.ownBlock ≠ some ad.block
theorem Out.nil (B : Nat) (w : World) : Out B w (.slice none 0 0) (.slice none 0 0) [] [] [] :=
  ⟨World.ownsRow_nil _ _ _ _, by simp, World.ownsRow_nil _ _ _ _, by simp [Value.ownBlock], by simp, by simp⟩
theorem own_or (o : Option Nat) : o = none ∨ o ≠ none := by cases o <;> simp
theorem Out.below {B : Nat} {w w' : World} {vk vr : Value} {ks : List Int} {rs xs : List Rc} (h : Out B w vk vr ks rs xs) (hb : Below w.heap.size w w') : Out B w' vk vr ks rs xs :=
  ⟨h.k.kept (gb_below hb none) (own_or _), h.kb, h.r.kept (gb_below hb none) (own_or _), h.ap, fun x hx => (h.rows x hx).below hb,
    fun x hx ad q => ⟨Nat.lt_of_lt_of_le (h.off x hx ad q).1 hb.size, (h.off x hx ad q).2⟩⟩
/-- a record in a block of its own -/
theorem Out.more {B : Nat} {w : World} {vk vr : Value} {ks : List Int} {rs xs : List Rc} (h : Out B w vk vr ks rs xs) (x : Rc) (hx : RowAt w x.a x.zs) (ho : ∀ ad, x.a = some ad → ad.block < w.heap.size ∧ vk.ownBlock ≠ some ad.block ∧ vr.ownBlock ≠ some ad.block) : Out B w vk vr ks rs (xs ++ [x]) :=
  ⟨h.k, h.kb, h.r, h.ap, fun y hy => by
    rcases List.mem_append.1 hy with q | q
    · exact h.rows y q
    · rw [List.mem_singleton.1 q]; exact hx, fun y hy => by
    rcases List.mem_append.1 hy with q | q
    · exact h.off y q
    · rw [List.mem_singleton.1 q]; exact ho⟩
theorem Out.addK {B : Nat} {w w' : World} {vk vr vk' : Value} {ks : List Int} {rs xs : List Rc} {z : Int} (h : Out B w vk vr ks rs xs) (hz : 0 ≤ z ∧ z < 256) (hown : w'.ownsRow B 5 1 vk' (ks.length + 1) (v8 ks ++ [.int .u8 z])) (hg : w.grownBy w' vk.ownBlock)
    (hap : ∀ g, vk'.ownBlock = some g → vk.ownBlock = some g ∨ g = w.heap.size) : Out B w' vk' vr (ks ++ [z]) rs xs := by
  refine ⟨by simpa [v8] using hown, ?_, h.r.kept hg ?_, ?_, fun x hx => RowAt_gbo (h.rows x hx) hg (fun ad q => (h.off x hx ad q).2.1), fun x hx ad q => ?_⟩
  · intro y hy
    rcases List.mem_append.1 hy with q | q
    · exact h.kb y q
    · rw [List.mem_singleton.1 q]; exact hz
  · cases hk : vk.ownBlock with
    | none => exact own_or _
    | some g => exact .inr (h.ap g hk)
  · intro g hg1 hg2
    rcases hap g hg1 with q | q
    · exact h.ap g q hg2
    · have := (h.r.lt g hg2).2; omega
  · obtain ⟨o1, o2, o3⟩ := h.off x hx ad q
    refine ⟨Nat.lt_of_lt_of_le o1 hg.size, fun q1 => ?_, o3⟩
    rcases hap _ q1 with q2 | q2
    · exact o2 q2
    · omega
theorem Out.addR {B : Nat} {w w' : World} {vk vr vr' : Value} {ks : List Int} {rs xs : List Rc} {y : Rc} (h : Out B w vk vr ks rs xs) (hown : w'.ownsRow B 35 1 vr' (rs.length + 1) (rs.map Rc.val ++ [Rc.val y])) (hg : w.grownBy w' vr.ownBlock)
    (hap : ∀ g, vr'.ownBlock = some g → vr.ownBlock = some g ∨ g = w.heap.size) : Out B w' vk vr' ks (rs ++ [y]) xs := by
  refine ⟨h.k.kept hg ?_, h.kb, by simpa using hown, ?_, fun x hx => RowAt_gbo (h.rows x hx) hg (fun ad q => (h.off x hx ad q).2.2), fun x hx ad q => ?_⟩
  · cases hk : vk.ownBlock with
    | none => exact .inl rfl
    | some g => exact .inr (fun q => h.ap g hk q.symm)
  · intro g hg1 hg2
    rcases hap g hg2 with q | q
    · exact h.ap g hg1 q
    · have := (h.k.lt g hg1).2; omega
  · obtain ⟨o1, o2, o3⟩ := h.off x hx ad q
    refine ⟨Nat.lt_of_lt_of_le o1 hg.size, o2, fun q1 => ?_⟩
    rcases hap _ q1 with q2 | q2
    · exact o3 q2
    · omega
theorem infoS : (Tryz.prog.info? 35).map (fun i => (i.zero, i.size, i.bytes)) = some (some (.slice none 0 0), 1, 24) := by kernel_rfl
theorem s1_src (w : World) (x : Rc) : Src Tryz.prog 1 36 (.slice (some ⟨w.heap.size, 0, none⟩) 1 1) 1 [Rc.val x] (w.alloc (.cells #[Rc.val x] 35)) := by
  refine Src.ofSlice _ Tryz.underlying36 _ 1 1 _ (by simp) (fun j u hu => ?_) (fun u hu => by simp at hu; subst hu; rfl)
  rw [Addr.add_mid]
  exact range_new w #[Rc.val x] 35 j u (by simpa using hu)
def lenOf : Value → Nat
  | .slice _ n _ => n
  | _ => 0
end Go.Proofs.YtfkchnjbbbhmjaaGreat.Ty
namespace Go.Proofs.YtfkchnjbbbhmjaaGreat.Ty
open Go.RowKit
open Tal
/-- what Frames tells: kinds and records -/
def FramesIs (B : Nat) (fs : List Fr) (e : Ending) (w : World) : Prop :=
  ∃ vk vr rs, e = .returned (.tuple #[vk, vr]) ∧ Out B w vk vr (fs.map Fr.k) rs rs ∧ rs.map Rc.zs = fs.map Fr.zs
theorem firstW_kind {bs : List Int} {f : Fr} (h : firstW bs = some f) : f.k = 68 ∨ f.k = 71 := by
  unfold firstW at h
  split at h
  · cases h
  · split at h
    · cases h
    · rename_i he
      split at h
      · cases h
      · split at h
        · cases h
        · simp only [Option.some.injEq] at h
          rw [← h]
          simp only
          generalize bs.getD 3 0 = k at *
          by_cases q : k = 68
          · exact .inl q
          · by_cases q' : k = 71
            · exact .inr q'
            · exact absurd (.inr ⟨q, q'⟩) he
set_option maxRecDepth 100000 in
set_option maxHeartbeats 4000000 in
theorem xframes_any (a : Option Addr) (cap : Nat) (bs : List Int) (w : World) (h : RowAt w a bs) (hc : bs.length ≤ cap) (hm : cap ≤ maxLen) (hl : bs.length ≤ 100000000) :
    Calls Tryz.prog 75 #[.slice a bs.length cap] w fun e w' => FramesIs w.heap.size (framesW bs) e w' ∧ Below w.heap.size w w' := by
  obtain ⟨i0, hi, hz0, hz1, hz2⟩ := info_parts info8
  obtain ⟨i1, hj, hj0, hj1, hj2⟩ := info_parts infoS
  go_enter Tryz.func75, Tryz.ntmps75
  go_wp2_with fail
  go_loopw [0, 4, 5] (fun b vk vr wr => ∃ (a : Option Addr) (cap : Nat) (cur : List Int) (fs : List Fr) (rs : List Rc), b = .slice a cur.length cap ∧ RowAt w a cur ∧ cur.length ≤ cap ∧ cap ≤ maxLen ∧ fs.length + cur.length ≤ 100000000 ∧ Out w.heap.size wr vk vr (fs.map Fr.k) rs rs ∧ rs.map Rc.zs = fs.map Fr.zs ∧ Below w.heap.size w wr ∧ Hid (framesW bs = fs ++ framesW cur)) (fun b _ _ _ => lenOf b)
  case atStart => exact ⟨a, cap, bs, [], [], rfl, h, hc, hm, by simpa using hl, Out.nil _ _, rfl, Below.refl _ _, hide rfl⟩
  case round =>
    clear h hc hm hl
    obtain ⟨a, cap, cur, fs, rs, rfl, hrow, hc, hm, hn, hO, hzs, hB, HF⟩ := hrel
    have cf := xfirst_any a cap cur wr (hrow.below hB) hc hm (by omega)
    have hst := framesW_step hrow.2.1
    unfold maxLen at hm
    cases hf : firstW cur with
    | none =>
      rw [hf] at cf hst
      simp only at hst
      have HF' : Hid (framesW bs = fs) := hide (by rw [HF.out, hst, List.append_nil])
      clear HF hst hf
      go_wp2_with fail
      refine cf.mono ?_
      rintro e1 w1 ⟨he, hB1⟩
      obtain rfl := he
      clear cf
      go_wp2
      go_ret2
      rw [HF'.out]
      exact ⟨⟨_, _, rs, rfl, hO.below hB1, hzs⟩, hB.trans (hB1.mono hB.size)⟩
    | some f =>
      obtain ⟨l1, l2⟩ := firstW_len hrow.2.1 hf
      have hkk := firstW_kind hf
      rw [hf] at cf
      have hst' : Hid (framesW cur = f :: framesW (cur.drop f.n)) := hide (by rw [hst, hf])
      clear hst
      obtain ⟨b, off, rfl, -, -, -, -⟩ := hrow.get 0 (by omega)
      obtain ⟨fk, fz, fn⟩ := f
      simp only at l1 l2 hkk
      have n0 : ((fn : Int) == 0) = false := beq_eq_false_iff_ne.2 (by omega)
      have hrl : rs.length = fs.length := by simpa using congrArg List.length hzs
      clear hf
      by_cases hcn : cap = fn
      · subst cap
        go_wp2_with fail
        refine cf.mono ?_
        rintro e1 w1 ⟨⟨g, rc, rfl, hrg, hg0, hg1, hg2, hg3⟩, hB1⟩
        simp only at hrg hg2 l1 l2 hkk n0
        have hO1 := (hO.below hB1).more ⟨some ⟨g, 0, none⟩, rc, fz⟩ hrg (fun ad q => by
          cases q
          exact ⟨hg1, fun q => by have := (hO.k.lt _ q).2; simp only at this; omega, fun q => by have := (hO.r.lt _ q).2; simp only at this; omega⟩)
        have hB2 : Below w.heap.size w w1 := hB.trans (hB1.mono hB.size)
        clear cf hO hB hB1 hrg hg0 hg1 hg2 hg3
        go_wp2_with (at_builtin; refine wpList_append_own_src2 _ rfl _ _ 35 35 rfl w.heap.size 5 i0 (.int .u8 0) 1 1 Tryz.underlying35 hi hz0 hz1 hz2 rfl _ _ _ rfl (hO1.k.alloc _) _ 1 _ rfl (b1_src _ _) ?c1 ?c2 ?c3 ?_)
        case c1 => unfold maxLen; simp only [List.length_map]; omega
        case c2 => simp only [List.length_map]; omega
        case c3 => have := hB2.size; simp; omega
        intro v2 w2 hown2 hgr2 hap2
        have hbA : Below w1.heap.size w1 (w1.alloc (.cells #[.int .u8 fk] 5)) := (Below.refl _ _).alloc (Nat.le_refl _) _
        have hO2 := (hO1.below hbA).addK (z := fk) ⟨by omega, by omega⟩ (by rw [List.length_map]; exact hown2) hgr2 (fun g q => by simpa using hap2 g q)
        have hB3 : Below w.heap.size w w2 := (hB2.trans (hbA.mono hB2.size)).grown hgr2 (by have := hB2.size; simp; omega) (fun k hk => (hO1.k.lt k hk).1)
        clear hown2 hgr2 hap2 hbA hB2 hO1
        go_wp2_with (at_builtin; refine wpList_append_own_src2 _ rfl _ _ 36 36 rfl w.heap.size 35 i1 (.slice none 0 0) 1 24 Tryz.underlying36 hj hj0 hj1 hj2 rfl _ _ _ rfl (hO2.r.alloc _) _ 1 _ rfl (s1_src w2 ⟨some ⟨g, 0, none⟩, rc, fz⟩) ?c1 ?c2 ?c3 ?_)
        case c1 => unfold maxLen; omega
        case c2 => omega
        case c3 => have := hB3.size; simp; omega
        intro v3 w3 hown3 hgr3 hap3
        have hbB : Below w2.heap.size w2 (w2.alloc (.cells #[Rc.val ⟨some ⟨g, 0, none⟩, rc, fz⟩] 35)) := (Below.refl _ _).alloc (Nat.le_refl _) _
        have hO3 := (hO2.below hbB).addR (y := ⟨some ⟨g, 0, none⟩, rc, fz⟩) (by rw [hrl]; exact hown3) hgr3 (fun g q => by simpa using hap3 g q)
        have hB4 : Below w.heap.size w w3 := (hB3.trans (hbB.mono hB3.size)).grown hgr3 (by have := hB3.size; simp; omega) (fun k hk => (hO2.r.lt k hk).1)
        clear hown3 hgr3 hap3 hbB hB3 hO2
        go_wp2
        go_roundw
        case rel =>
          refine ⟨cutA (some ⟨b, off, none⟩) fn fn, fn - fn, cur.drop fn, fs ++ [⟨fk, fz, fn⟩], rs ++ [⟨some ⟨g, 0, none⟩, rc, fz⟩], ?_, hrow.drop fn fn l2 hc, by rw [List.length_drop]; omega, by unfold maxLen; omega, by rw [List.length_append, List.length_drop]; simp only [List.length_cons, List.length_nil]; omega, by simpa using hO3, by simp [hzs], hB4, hide (by rw [HF.out, hst'.out]; simp)⟩
          rw [List.length_drop]
          unfold cutA
          rw [if_pos rfl]
          simp
          omega
        case measure => simp only [lenOf]; omega
      · go_wp2_with fail
        refine cf.mono ?_
        rintro e1 w1 ⟨⟨g, rc, rfl, hrg, hg0, hg1, hg2, hg3⟩, hB1⟩
        simp only at hrg hg2 l1 l2 hkk n0
        have hO1 := (hO.below hB1).more ⟨some ⟨g, 0, none⟩, rc, fz⟩ hrg (fun ad q => by
          cases q
          exact ⟨hg1, fun q => by have := (hO.k.lt _ q).2; simp only at this; omega, fun q => by have := (hO.r.lt _ q).2; simp only at this; omega⟩)
        have hB2 : Below w.heap.size w w1 := hB.trans (hB1.mono hB.size)
        clear cf hO hB hB1 hrg hg0 hg1 hg2 hg3
        go_wp2_with (at_builtin; refine wpList_append_own_src2 _ rfl _ _ 35 35 rfl w.heap.size 5 i0 (.int .u8 0) 1 1 Tryz.underlying35 hi hz0 hz1 hz2 rfl _ _ _ rfl (hO1.k.alloc _) _ 1 _ rfl (b1_src _ _) ?c1 ?c2 ?c3 ?_)
        case c1 => unfold maxLen; simp only [List.length_map]; omega
        case c2 => simp only [List.length_map]; omega
        case c3 => have := hB2.size; simp; omega
        intro v2 w2 hown2 hgr2 hap2
        have hbA : Below w1.heap.size w1 (w1.alloc (.cells #[.int .u8 fk] 5)) := (Below.refl _ _).alloc (Nat.le_refl _) _
        have hO2 := (hO1.below hbA).addK (z := fk) ⟨by omega, by omega⟩ (by rw [List.length_map]; exact hown2) hgr2 (fun g q => by simpa using hap2 g q)
        have hB3 : Below w.heap.size w w2 := (hB2.trans (hbA.mono hB2.size)).grown hgr2 (by have := hB2.size; simp; omega) (fun k hk => (hO1.k.lt k hk).1)
        clear hown2 hgr2 hap2 hbA hB2 hO1
        go_wp2_with (at_builtin; refine wpList_append_own_src2 _ rfl _ _ 36 36 rfl w.heap.size 35 i1 (.slice none 0 0) 1 24 Tryz.underlying36 hj hj0 hj1 hj2 rfl _ _ _ rfl (hO2.r.alloc _) _ 1 _ rfl (s1_src w2 ⟨some ⟨g, 0, none⟩, rc, fz⟩) ?c1 ?c2 ?c3 ?_)
        case c1 => unfold maxLen; omega
        case c2 => omega
        case c3 => have := hB3.size; simp; omega
        intro v3 w3 hown3 hgr3 hap3
        have hbB : Below w2.heap.size w2 (w2.alloc (.cells #[Rc.val ⟨some ⟨g, 0, none⟩, rc, fz⟩] 35)) := (Below.refl _ _).alloc (Nat.le_refl _) _
        have hO3 := (hO2.below hbB).addR (y := ⟨some ⟨g, 0, none⟩, rc, fz⟩) (by rw [hrl]; exact hown3) hgr3 (fun g q => by simpa using hap3 g q)
        have hB4 : Below w.heap.size w w3 := (hB3.trans (hbB.mono hB3.size)).grown hgr3 (by have := hB3.size; simp; omega) (fun k hk => (hO2.r.lt k hk).1)
        clear hown3 hgr3 hap3 hbB hB3 hO2
        go_wp2
        go_roundw
        case rel =>
          refine ⟨cutA (some ⟨b, off, none⟩) cap fn, cap - fn, cur.drop fn, fs ++ [⟨fk, fz, fn⟩], rs ++ [⟨some ⟨g, 0, none⟩, rc, fz⟩], ?_, hrow.drop fn cap l2 hc, by rw [List.length_drop]; omega, by unfold maxLen; omega, by rw [List.length_append, List.length_drop]; simp only [List.length_cons, List.length_nil]; omega, by simpa using hO3, by simp [hzs], hB4, hide (by rw [HF.out, hst'.out]; simp)⟩
          rw [List.length_drop]
          unfold cutA
          rw [if_neg hcn, Option.map_some, Addr.add_mid]
        case measure => simp only [lenOf]; omega
end Go.Proofs.YtfkchnjbbbhmjaaGreat.Ty
namespace Go.Proofs.YtfkchnjbbbhmjaaGreat.Ty
open Go.RowKit
open Tal
set_option maxRecDepth 100000 in
set_option maxHeartbeats 2000000 in
theorem cfits_any (a : Option Addr) (cap : Nat) (zs : List Int) (s : Int) (w : World) (h : RowAt w a zs) :
    Calls Tryz.prog 109 #[.slice a zs.length cap, .int .i64 s] w fun e w' => e = .returned (.bool (crcN zs == s)) ∧ Below w.heap.size w w' := by
  have c := csum_any a cap zs w h
  clear h
  generalize crcN zs = n at *
  go_enter Tryz.func109, Tryz.ntmps109
  go_wp2_with fail
  refine c.mono ?_
  rintro e1 w1 ⟨rfl, hb⟩
  clear c
  go_wp2
  go_ret
  exact ⟨rfl, hb⟩
end Go.Proofs.YtfkchnjbbbhmjaaGreat.Ty
