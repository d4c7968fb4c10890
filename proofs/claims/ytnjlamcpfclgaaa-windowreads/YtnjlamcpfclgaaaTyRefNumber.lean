/- The document's reader: number. -/
import Derived.Test.YtnjlamcpfclgaaaTyBack1
import Derived.BigQuiet
namespace Go.Proofs.Ytnjlamcpfclgaaa.Ty
open Go.RowKit
open Tal
variable {B : Nat}
/-- the document's reader: its bytes, its place, its error -/
def Rf (B : Nat) (w : World) (X : Nat) (zs : List Int) (p : Nat) (e : Int) : Prop :=
  X < w.heap.size ∧ (∃ a cap, w.cell? ⟨X, 0, none⟩ = some (.slice a zs.length cap) ∧ zs.length ≤ cap ∧ cap ≤ maxLen ∧ RowAt w a zs ∧ ∀ x, a = some x → B ≤ x.block ∧ x.block < X) ∧
  w.cell? ⟨X, 1, none⟩ = some (.int .i64 (p : Int)) ∧ w.cell? ⟨X, 2, none⟩ = some (.int .i64 e) ∧ w.frozen? ⟨X, 0, none⟩ = false ∧ w.frozen? ⟨X, 1, none⟩ = false ∧ w.frozen? ⟨X, 2, none⟩ = false ∧ p ≤ zs.length ∧ zs.length ≤ 5000
theorem suc_ne {a : Option Addr} {X : Nat} (h : ∀ x, a = some x → B ≤ x.block ∧ x.block < X) : ∀ x, a = some x → x.block ≠ X := fun x hx => Nat.ne_of_lt (h x hx).2
namespace Tal
theorem val_mono (ds : List Int) (hz : ∀ z ∈ ds, 0 ≤ z ∧ z < 256) (j : Nat) (hj : j ≤ ds.length) : val (ds.take j) ≤ val ds := by
  have : ∀ m, j + m ≤ ds.length → val (ds.take j) ≤ val (ds.take (j + m)) := by
    intro m
    induction m with
    | zero => intro _; exact Int.le_refl _
    | succ m ih =>
      intro hm
      have h1 := ih (by omega)
      have hlt : j + m < ds.length := by omega
      have e := val_take ds (j + m) hlt
      have hb := val_bound (ds.take (j + m)) (fun z h => hz z (List.mem_of_mem_take h))
      have hd : 0 ≤ ds.getD (j + m) 0 := by
        rw [List.getD_eq_getElem?_getD, List.getElem?_eq_getElem hlt]; exact (hz _ (List.getElem_mem hlt)).1
      rw [← Nat.add_assoc, e]
      omega
  have h := this (ds.length - j) (by omega)
  have e : j + (ds.length - j) = ds.length := by omega
  rw [e, List.take_length] at h
  exact h
theorem val8 (ds : List Int) (hz : ∀ z ∈ ds, 0 ≤ z ∧ z < 256) (hl : ds.length ≤ 8) : (9223372036854775807 < val ds) ↔ (ds.length = 8 ∧ 127 < ds.getD 0 0) := by
  cases ds with
  | nil => simp [val]
  | cons x tl =>
    have hx := hz x (by simp)
    have e : val (x :: tl) = x * 256 ^ tl.length + val tl := by
      have : ∀ (l : List Int) (a : Int), l.foldl (fun a d => a * 256 + d) a = a * 256 ^ l.length + val l := by
        intro l
        induction l with
        | nil => intro a; simp [val]
        | cons y l ih =>
          intro a
          simp only [List.foldl_cons, List.length_cons, val]
          rw [ih, ih (0 * 256 + y), Int.pow_succ]
          simp only [Int.zero_mul, Int.zero_add, Int.add_mul]
          rw [Int.mul_assoc, Int.mul_comm 256]
          omega
      have h := this tl (0 * 256 + x)
      simp only [val, List.foldl_cons]
      rw [h]; simp [val]
    have hb := val_bound tl (fun z h => hz z (by simp [h]))
    simp only [List.length_cons] at hl ⊢
    simp only [List.getD_cons_zero]
    rw [e]
    by_cases h7 : tl.length = 7
    · rw [h7] at hb ⊢
      omega
    · have h6 : tl.length ≤ 6 := by omega
      have hp : 256 ^ tl.length ≤ 281474976710656 := Nat.le_trans (Nat.pow_le_pow_right (by omega) h6) (by decide)
      have ep : ((256 ^ tl.length : Nat) : Int) = (256 : Int) ^ tl.length := Int.natCast_pow 256 _
      rw [← ep] at hb ⊢
      generalize 256 ^ tl.length = q at *
      have hm : x * (q : Int) ≤ 255 * q := Int.mul_le_mul_of_nonneg_right (by omega) (by omega)
      constructor
      · intro h; omega
      · intro h; omega
end Tal
theorem Rf.rest {w : World} {X : Nat} {zs : List Int} {p : Nat} {e : Int} (h : Rf B w X zs p e) : ∃ a cap, w.cell? ⟨X, 0, none⟩ = some (.slice a zs.length cap) ∧ zs.length ≤ cap ∧ cap ≤ maxLen ∧ RowAt w (cutA a cap p) (zs.drop p) := by
  obtain ⟨hX, ⟨a, cap, h0, hc, hm, hr, hne⟩, h1, h2, f0, f1, f2, hp, hl⟩ := h
  exact ⟨a, cap, h0, hc, hm, hr.drop p cap hp hc⟩
set_option maxHeartbeats 1600000 in
theorem refNumber_any (X : Nat) (zs : List Int) (p : Nat) (e : Int) (w : World) (h : Rf B w X zs p e) :
    Calls Try.prog 58 #[.pointer (some ⟨X, 0, none⟩)] w fun en w' => en = .returned (.tuple #[.int .i64 (numR (zs.drop p)).1, .int .i64 ((numR (zs.drop p)).2.1 : Int), .int .i64 (numR (zs.drop p)).2.2]) ∧ ∃ k, w' = w.drewN k := by
  obtain ⟨a, cap, h0, hc, hm, hr⟩ := h.rest
  obtain ⟨hX, _, h1, h2, f0, f1, f2, hp, hl⟩ := h
  unfold maxLen at hm
  have hlen : (zs.drop p).length = zs.length - p := List.length_drop ..
  by_cases hcp : cap = p
  · have hnil : zs.drop p = [] := List.drop_eq_nil_of_le (by omega)
    have hzp : zs.length = p := by omega
    have HN : Hid (numR (zs.drop p) = (0, 0, 10)) := by show _ = _; rw [hnil]; rfl
    subst hcp
    clear hnil hlen
    go_enter Try.func58, Try.ntmps58
    go_wp2_with fail
    go_quiet (fail)
    go_wp2_with fail
    go_ret3
    rw [HN.out]
    exact ⟨rfl, _, rfl⟩
  · have hA : cutA a cap p = a.map (fun x => x.add p) := by unfold cutA; rw [if_neg hcp]
    rw [hA] at hr
    clear hA
    generalize hAm : Option.map (fun x : Addr => x.add p) a = A at *
    generalize zs.drop p = rest at *
    have hlr : zs.length - p = rest.length := hlen.symm
    have hcap : rest.length ≤ cap - p := by omega
    clear hlen
    cases rest with
    | nil =>
      have hlr0 : zs.length - p = 0 := hlr
      clear hlr
      go_enter Try.func58, Try.ntmps58
      go_wp2_with fail
      go_quiet (fail)
      go_wp2_with fail
      go_ret3
      exact ⟨rfl, _, rfl⟩
    | cons k tl =>
      obtain ⟨b, off, rfl, hb, hcb, hk0, hk1⟩ := hr.get 0 (by simp)
      have hk : (k :: tl).getD 0 0 = k := rfl
      rw [hk] at hcb hk0 hk1
      clear hk
      have hlr1 : zs.length - p = tl.length + 1 := by simpa using hlr
      clear hlr
      have hcb' : w.cell? ⟨b, off, none⟩ = some (.int .u8 k) := by simpa using hcb
      clear hcb
      by_cases hk8 : 8 < k
      · have HN : Hid (numR (k :: tl) = (0, 0, 11)) := by show _ = _; simp [numR, hk8]
        go_enter Try.func58, Try.ntmps58
        go_wp2_with fail
        go_quiet (fail)
        go_wp2_with fail
        go_ret3
        rw [HN.out]
        exact ⟨rfl, _, rfl⟩
      · by_cases hkl : (tl.length : Int) < k
        · have HN : Hid (numR (k :: tl) = (0, 0, 10)) := by show _ = _; simp [numR, hk8, hkl]
          go_enter Try.func58, Try.ntmps58
          go_wp2_with fail
          go_quiet (fail)
          go_wp2_with fail
          go_ret3
          rw [HN.out]
          exact ⟨rfl, _, rfl⟩
        · obtain ⟨q, hqk⟩ : ∃ q : Nat, k.toNat = q := ⟨_, rfl⟩
          have hkq : (q : Int) = k := by omega
          have hq : q ≤ tl.length := by omega
          have hds : (tl.take q).length = q := List.length_take_of_le hq
          have hzd : ∀ z ∈ tl.take q, 0 ≤ z ∧ z < 256 := fun z hz => hr.2.1 z (by simp [List.mem_of_mem_take hz])
          have HC : Hid (∀ t, 1 ≤ t → t ≤ q → w.cell? ⟨b, off + t, none⟩ = some (.int .u8 ((tl.take q).getD (t - 1) 0))) := by
            show ∀ t, _
            intro t ht1 ht2
            obtain ⟨b', off', hx, _, hcx, _⟩ := hr.get t (by simp; omega)
            simp only [Option.some.injEq, Addr.mk.injEq] at hx
            obtain ⟨rfl, rfl, _⟩ := hx
            rw [hcx]
            obtain ⟨u, rfl⟩ : ∃ u, t = u + 1 := ⟨t - 1, by omega⟩
            simp only [List.getD_eq_getElem?_getD, List.getElem?_cons_succ, Nat.add_sub_cancel, List.getElem?_take]
            rw [if_pos (by omega)]
          have h8 := val8 (tl.take q) hzd (by omega)
          rw [hds] at h8
          have HN : Hid (numR (k :: tl) = if (valR (tl.take q)).2 = 0 then ((valR (tl.take q)).1, 1 + q, 0) else (0, 0, (valR (tl.take q)).2)) := by
            show _ = _
            simp only [numR, if_neg hk8, if_neg hkl, hqk]
          have HVT : Hid (∀ j, j < q → val ((tl.take q).take (j + 1)) = val ((tl.take q).take j) * 256 + (tl.take q).getD j 0 ∧ 0 ≤ val ((tl.take q).take j) ∧ val ((tl.take q).take (j + 1)) ≤ val (tl.take q) ∧ 0 ≤ (tl.take q).getD j 0 ∧ (tl.take q).getD j 0 < 256) := by
            show ∀ j, _
            intro j hj
            refine ⟨val_take _ j (by omega), ?_⟩
            have h1 := val_bound ((tl.take q).take j) (fun z hz' => hzd z (List.mem_of_mem_take hz'))
            refine ⟨h1.1, val_mono _ hzd (j + 1) (by omega), ?_⟩
            rw [List.getD_eq_getElem?_getD, List.getElem?_eq_getElem (by omega)]
            exact hzd _ (List.getElem_mem _)
          have HH : Hid (∀ d, 0 < q → (tl.take q).getD 0 0 = d → ((tl.take q).head? = some 0 ↔ d = 0)) := by
            show ∀ d, _
            intro d hq0 hd
            cases hc : tl.take q with
            | nil => rw [hc] at hds; simp at hds; omega
            | cons x r => rw [hc] at hd; simp at hd ⊢; rw [hd]
          have hvl := val_bound (tl.take q) hzd
          have HVF : Hid ((tl.take q).take q = tl.take q) := by show _ = _; rw [List.take_of_length_le (by omega)]
          generalize tl.take q = ds at *
          have HQ : Hid ((q : Int) = k) := hkq
          clear hqk hkq hr
          by_cases hq0 : q = 0
          · subst hq0
            have hk00 : k = 0 := HQ.out.symm
            have hd0 : ds = [] := List.eq_nil_of_length_eq_zero hds
            have HN0 : Hid (numR (k :: tl) = (0, 1, 0)) := by
              show _ = _
              rw [HN.out, hd0]; decide
            subst hk00
            clear hd0 hds h8 hvl HQ
            go_enter Try.func58, Try.ntmps58
            go_wp2_with fail
            go_quiet (fail)
            go_wp2_with fail
            refine wp_loop_rounds 1 ?_
            rw [rounds_succ]
            go_wp2_with fail
            go_ret3
            rw [HN0.out]
            exact ⟨rfl, _, rfl⟩
          · obtain ⟨d, HD, hcd⟩ : ∃ d, Hid (ds.getD 0 0 = d) ∧ w.cell? ⟨b, off + 1, none⟩ = some (.int .u8 d) := ⟨_, rfl, HC.out 1 (by omega) (by omega)⟩
            have hh := HH.out d (by omega) HD.out
            have hkpos : 0 < k := by have := HQ.out; omega
            have hl2 : (1 : Int) < tl.length + 1 := by omega
            by_cases hd0 : d = 0
            · subst hd0
              have HN0 : Hid (numR (k :: tl) = (0, 0, 11)) := by
                show _ = _
                rw [HN.out]
                have : valR ds = (0, 11) := by unfold valR; rw [if_pos (Or.inl (hh.2 rfl))]
                rw [this]; rfl
              clear hds h8 hvl hh
              go_enter Try.func58, Try.ntmps58
              go_wp2_with fail
              go_quiet (fail)
              go_wp2_with fail
              go_ret3
              rw [HN0.out]
              exact ⟨rfl, _, rfl⟩
            · have hd0' : (d == 0) = false := by simpa using hd0
              rw [HD.out] at h8
              by_cases hbad : k = 8 ∧ 127 < d
              · obtain ⟨rfl, hd127⟩ := hbad
                have HN0 : Hid (numR (8 :: tl) = (0, 0, 11)) := by
                  show _ = _
                  rw [HN.out]
                  have : valR ds = (0, 11) := by unfold valR; rw [if_pos (Or.inr (h8.2 ⟨by have := HQ.out; omega, hd127⟩))]
                  rw [this]; rfl
                clear hds h8 hvl hh
                go_enter Try.func58, Try.ntmps58
                go_wp2_with fail
                go_quiet (fail)
                go_wp2_with fail
                go_ret3
                rw [HN0.out]
                exact ⟨rfl, _, rfl⟩
              · have hvn : ¬ (9223372036854775807 < val ds) := fun hv => hbad ⟨by have := HQ.out; have := (h8.1 hv).1; omega, (h8.1 hv).2⟩
                have HN0 : Hid (numR (k :: tl) = (val ds, 1 + q, 0)) := by
                  show _ = _
                  rw [HN.out]
                  have : valR ds = (val ds, 0) := by unfold valR; rw [if_neg (fun hc => hc.elim (fun h => hd0 (hh.1 h)) hvn)]
                  rw [this]; rfl
                have hvv : val ds ≤ 9223372036854775807 := by omega
                clear hds h8 hh hvn
                have hdec : (k == 8) = false ∨ ((k == 8) = true ∧ ¬ 127 < d) := by
                  by_cases hk8' : k = 8
                  · exact Or.inr ⟨by simpa using hk8', fun h => hbad ⟨hk8', h⟩⟩
                  · exact Or.inl (by simpa using hk8')
                clear hbad
                rcases hdec with hdec | ⟨hdec, hd127⟩
                all_goals
                  go_enter Try.func58, Try.ntmps58
                  go_wp2_with fail
                  go_quiet (fail)
                  go_wp2_with fail
                  go_loop [7, 8] (fun n i => ∃ t : Nat, t ≤ q ∧ i = .int .i64 ((t : Int) + 1) ∧ n = .int .i64 (val (ds.take t))) (fun _ i => q + 1 - (intOf i).toNat)
                  case atStart => exact ⟨0, by omega, rfl, rfl⟩
                  case round =>
                    obtain ⟨t, ht, rfl, rfl⟩ := hrel
                    by_cases hlt : t < q
                    · obtain ⟨z, hcx, hz0, hz1, hx0, hx1, HV⟩ : ∃ z, w.cell? ⟨b, off + (t + 1), none⟩ = some (.int .u8 z) ∧ 0 ≤ z ∧ z < 256 ∧ 0 ≤ val (ds.take t) ∧ 256 * val (ds.take t) + z ≤ 9223372036854775807 ∧ Hid (val (ds.take (t + 1)) = 256 * val (ds.take t) + z) := by
                        obtain ⟨e1, e2, e3, e4, e5⟩ := HVT.out t hlt
                        exact ⟨_, HC.out (t + 1) (by omega) (by omega), e4, e5, e2, by simp only [Nat.add_sub_cancel] at *; omega, by show _ = _; rw [e1]; simp only [Nat.add_sub_cancel]; omega⟩
                      generalize val (ds.take t) = X at *
                      have ht1 : (t : Int) + 1 ≤ k := by have := HQ.out; omega
                      have ht2 : (t : Int) + 1 < tl.length + 1 := by omega
                      go_wp2_with fail
                      go_round
                      case rel => exact ⟨t + 1, by omega, by go_num, by rw [HV.out]⟩
                      case measure => simp [intOf]; omega
                    · have htq : t = q := by omega
                      subst htq
                      rw [HVF.out]
                      have ht1 : ¬ ((t : Int) + 1 ≤ k) := by have := HQ.out; omega
                      go_wp2_with fail
                      go_ret3
                      rw [HN0.out]
                      refine ⟨?_, _, rfl⟩
                      have e10 : ((1 + t : Nat) : Int) = 1 + k := by have := HQ.out; omega
                      simp only [e10]
                      exact rfl
end Go.Proofs.Ytnjlamcpfclgaaa.Ty
