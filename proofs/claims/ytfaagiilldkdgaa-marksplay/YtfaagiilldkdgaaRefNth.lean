/- The document's Nth, and Ints: contracts. -/
import Derived.Test.YtfaagiilldkdgaaNth
import Derived.Deep.QuietTactic
import Derived.BigQuiet
namespace Go.Proofs.Ytfaagiilldkdgaa.Nq
open Go.RowKit
theorem above_take (zs : List Int) (x : Int) (j : Nat) (h : j < zs.length) : above (zs.take (j + 1)) x = above (zs.take j) x + (if x < zs[j] then 1 else 0) := by
  unfold above
  rw [List.take_succ_eq_append_getElem h, List.countP_append]
  simp [List.countP_cons]
theorem same_take (zs : List Int) (x : Int) (j : Nat) (h : j < zs.length) : same (zs.take (j + 1)) x = same (zs.take j) x + (if zs[j] = x then 1 else 0) := by
  unfold same
  rw [List.take_succ_eq_append_getElem h, List.countP_append]
  simp [List.countP_cons]
theorem nth_found (zs : List Int) (i : Int) (k : Nat) (hk : k < zs.length) (h : isNth zs i zs[k] = true) : nth zs i = zs[k] := by
  unfold nth nthFrom
  cases hf : zs.find? (isNth zs i) with
  | none => rw [List.find?_eq_none] at hf; exact absurd h (hf _ (List.getElem_mem _))
  | some y => exact isNth_unique zs i _ _ (List.find?_some hf) h
theorem nth_not (zs : List Int) (i : Int) (hno : ∀ j (hj : j < zs.length), isNth zs i zs[j] = false) : nth zs i = 0 := by
  unfold nth nthFrom
  have : zs.find? (isNth zs i) = none := by
    rw [List.find?_eq_none]
    intro x hx
    obtain ⟨j, hj, rfl⟩ := List.getElem_of_mem hx
    rw [hno j hj]; decide
  rw [this]; rfl
set_option maxHeartbeats 2000000 in
theorem refNth_any (a : Option Addr) (cap : Nat) (zs : List Int) (i : Int) (w : World) (hr : RowI w a zs) (hb : zs.length ≤ 100000) :
    Calls Try.prog 23 #[.slice a zs.length cap, .int .i64 i] w fun e w' => e = .returned (.int .i64 (nth zs i)) ∧ Below w.heap.size w w' := by
  go_enter Try.func23, Try.ntmps23
  go_wp2
  go_loopw [5] (fun kv wr => ∃ k : Nat, k ≤ zs.length ∧ kv = .int .i64 (k : Int) ∧ (∀ j (hj : j < zs.length), j < k → isNth zs i zs[j] = false) ∧ Below w.heap.size w wr) (fun kv _ => zs.length - (intOf kv).toNat)
  case atStart => exact ⟨0, by omega, rfl, fun j _ h => by omega, Below.refl _ _⟩
  case round =>
    obtain ⟨k, hk, rfl, hno, hbel⟩ := hrel
    have HN := hide hno
    clear hno
    by_cases hlt : k < zs.length
    · obtain ⟨b, off, rfl, hbb, hcc⟩ : ∃ b off, a = some ⟨b, off, none⟩ ∧ b < w.heap.size ∧ ∀ j, j < zs.length → w.cell? ⟨b, off + j, none⟩ = some (.int .i64 (zs[j]?.getD 0)) := by
        rcases hr.2 with rfl | h
        · simp at hlt
        · exact h
      have HC := hide hcc
      have hcx : wr.cell? ⟨b, off + k, none⟩ = some (.int .i64 zs[k]) := by
        rw [hbel.cell (p := ⟨b, off + k, none⟩) hbb, hcc k hlt, List.getElem?_eq_getElem hlt]; rfl
      clear hcc
      obtain ⟨x, hx⟩ : ∃ x, Hid (zs[k] = x) := ⟨_, hide rfl⟩
      rw [hx.out] at hcx
      go_wp2
      go_loopw [6, 7, 8] (fun av sv jv wq => ∃ j : Nat, j ≤ zs.length ∧ jv = .int .i64 (j : Int) ∧ av = .int .i64 (above (zs.take j) x : Int) ∧ sv = .int .i64 (same (zs.take j) x : Int) ∧ Below w.heap.size w wq) (fun _ _ jv _ => zs.length - (intOf jv).toNat)
      case atStart => exact ⟨0, by omega, rfl, rfl, rfl, hbel⟩
      case round =>
        clear hbel hcx
        obtain ⟨j, hj, rfl, rfl, rfl, hbel⟩ := hrel
        have ha : above (zs.take j) x ≤ j := Nat.le_trans (Nat.le_trans (Nat.le_add_right _ _) (above_le (zs.take j) x)) (by simp; omega)
        have hs : same (zs.take j) x ≤ j := Nat.le_trans (Nat.le_trans (Nat.le_add_left _ _) (above_le (zs.take j) x)) (by simp; omega)
        have hcx : wr.cell? ⟨b, off + k, none⟩ = some (.int .i64 x) := by
          rw [hbel.cell (p := ⟨b, off + k, none⟩) hbb, HC.out k hlt, List.getElem?_eq_getElem hlt, ← hx.out]; rfl
        by_cases hjl : j < zs.length
        · have hcj : wr.cell? ⟨b, off + j, none⟩ = some (.int .i64 zs[j]) := by
            rw [hbel.cell (p := ⟨b, off + j, none⟩) hbb, HC.out j hjl, List.getElem?_eq_getElem hjl]; rfl
          have H1 := hide (above_take zs x j hjl)
          have H2 := hide (same_take zs x j hjl)
          have j1 : (j : Int) < zs.length := by omega
          have k1 : (k : Int) < zs.length := by omega
          generalize zs[j] = y at hcj H1 H2
          generalize above (zs.take j) x = A at *
          generalize same (zs.take j) x = S at *
          rcases Int.lt_trichotomy y x with h | h | h
          · have t1 : ¬ x < y := by omega
            have t2 : (y == x) = false := by simp; omega
            go_wp2
            go_quiet (fail)
            go_wp2
            go_quiet (fail)
            go_wp2
            go_roundw
            case rel => exact ⟨j + 1, by omega, by go_num, by rw [H1.out, if_neg (by omega)]; rfl, by rw [H2.out, if_neg (by omega)]; rfl, by first | exact below_drewN hbel _ | exact below_drewN (below_drewN hbel _) _⟩
            case measure => simp [intOf]; omega
          · have t1 : ¬ x < y := by omega
            have t2 : (y == x) = true := by simp; omega
            have HH := hide h
            clear h
            go_wp2
            go_quiet (fail)
            go_wp2
            go_quiet (fail)
            go_wp2
            go_roundw
            case rel => exact ⟨j + 1, by omega, by go_num, by rw [H1.out, if_neg (by omega)]; rfl, by rw [H2.out, if_pos HH.out]; go_num, by first | exact below_drewN hbel _ | exact below_drewN (below_drewN hbel _) _⟩
            case measure => simp [intOf]; omega
          · have t1 : x < y := by omega
            have t2 : (y == x) = false := by simp; omega
            go_wp2
            go_quiet (fail)
            go_wp2
            go_quiet (fail)
            go_wp2
            go_roundw
            case rel => exact ⟨j + 1, by omega, by go_num, by rw [H1.out, if_pos (by omega)]; go_num, by rw [H2.out, if_neg (by omega)]; rfl, by first | exact below_drewN hbel _ | exact below_drewN (below_drewN hbel _) _⟩
            case measure => simp [intOf]; omega
        · obtain rfl : j = zs.length := by omega
          have k1 : (k : Int) < zs.length := by omega
          have et : Hid (zs.take zs.length = zs) := List.take_length
          rw [et.out] at ha hs ⊢
          cases hn : isNth zs i x
          · have HI := hide hn
            have hn2 : (above zs x : Int) < i → ¬ i ≤ (above zs x : Int) + (same zs x : Int) := by
              intro h1 h2
              have : isNth zs i x = true := by simp [isNth, h1, h2]
              rw [this] at hn; cases hn
            clear hn
            have hfin : Hid (∀ j (hj : j < zs.length), j < k + 1 → isNth zs i zs[j] = false) := by
              intro j hj h
              rcases Nat.lt_or_eq_of_le (Nat.lt_succ_iff.1 h) with h | rfl
              · exact HN.out j hj h
              · rw [hx.out]; exact HI.out
            clear HN HI
            generalize above zs x = A at *
            generalize same zs x = S at *
            by_cases h1 : (A : Int) < i
            · have h2 := hn2 h1
              clear hn2
              go_wp2
              go_roundw
              case rel => exact ⟨k + 1, by omega, by go_num, hfin.out, hbel⟩
              case measure => simp [intOf]; omega
            · clear hn2
              go_wp2
              go_roundw
              case rel => exact ⟨k + 1, by omega, by go_num, hfin.out, hbel⟩
              case measure => simp [intOf]; omega
          · have hf := hide (nth_found zs i k hlt (by rw [hx.out]; exact hn))
            rw [hx.out] at hf
            simp only [isNth, Bool.and_eq_true, decide_eq_true_eq] at hn
            obtain ⟨h1, h2⟩ := hn
            clear HN
            generalize above zs x = A at *
            generalize same zs x = S at *
            go_wp2
            go_ret
            exact ⟨ret_int hf.out.symm, hbel⟩
    · obtain rfl : k = zs.length := by omega
      have hf := hide (nth_not zs i fun j hj => HN.out j hj hj)
      clear HN
      go_wp2
      go_ret
      exact ⟨ret_int hf.out.symm, hbel⟩
theorem beq_take (xs ys : List Int) (k : Nat) (h1 : k < xs.length) (h2 : k < ys.length) (e : xs.take k = ys.take k) (h : xs[k] = ys[k]) : xs.take (k + 1) = ys.take (k + 1) := by
  rw [List.take_succ_eq_append_getElem h1, List.take_succ_eq_append_getElem h2, e, h]
end Go.Proofs.Ytfaagiilldkdgaa.Nq
