/- raddlelaw03.light: are parts few and short? -/
import Derived.Test.YtkadfmbpajbkiaaDoorChain
namespace Go.Proofs.YtkadfmbpajbkiaaDoor
open Go.RowKit
open Sha
def addTo (n m : Int) : Int := if 0 ≤ m ∧ n + m ≤ 5000 then n + m else 5001
set_option maxHeartbeats 400000 in
theorem add5000_any (n m : Int) (w : World) (h0 : 0 ≤ n) (h1 : n ≤ 5001) (h2 : (0 ≤ m ∧ m ≤ 9223372036854775807) ∨ m = -9223372036854775808) :
    Calls Tryd.prog 26 #[.int .i64 n, .int .i64 m, .int .i64 5000] w fun e w' => e = .returned (.int .i64 (addTo n m)) ∧ w' = w := by
  rcases h2 with ⟨h2, h3⟩ | rfl
  · by_cases c1 : 5000 < n
    · have HA : Hid (addTo n m = 5001) := by show _ = _; unfold addTo; rw [if_neg (by omega)]
      rw [HA.out]
      go_enter Tryd.func26, Tryd.ntmps26
      go_wp2
      go_ret
      exact ⟨rfl, rfl⟩
    · by_cases c2 : 5000 < m
      · have HA : Hid (addTo n m = 5001) := by show _ = _; unfold addTo; rw [if_neg (by omega)]
        rw [HA.out]
        go_enter Tryd.func26, Tryd.ntmps26
        go_wp2
        go_ret
        exact ⟨rfl, rfl⟩
      · by_cases c3 : 5000 - m < n
        · have HA : Hid (addTo n m = 5001) := by show _ = _; unfold addTo; rw [if_neg (by omega)]
          rw [HA.out]
          go_enter Tryd.func26, Tryd.ntmps26
          go_wp2
          go_ret
          exact ⟨rfl, rfl⟩
        · have HA : Hid (addTo n m = n + m) := by show _ = _; unfold addTo; rw [if_pos (by omega)]
          rw [HA.out]
          go_enter Tryd.func26, Tryd.ntmps26
          go_wp2
          go_ret
          exact ⟨rfl, rfl⟩
  · have HA : Hid (addTo n (-9223372036854775808) = 5001) := by show _ = _; unfold addTo; rw [if_neg (by omega)]
    rw [HA.out]
    by_cases c1 : 5000 < n
    · go_enter Tryd.func26, Tryd.ntmps26
      go_wp2
      go_ret
      exact ⟨rfl, rfl⟩
    · have c2 : wrap64 9223372036854780808 < n := by simp only [wrap64]; omega
      go_enter Tryd.func26, Tryd.ntmps26
      go_wp2
      go_ret
      exact ⟨rfl, rfl⟩
def load (ps : List Part) : Nat := ps.length + (cat ps).length
theorem load_take (ps : List Part) (k : Nat) (hk : k < ps.length) : load (ps.take (k + 1)) = load (ps.take k) + (1 + ps[k].zs.length) := by
  unfold load
  rw [cat_take_succ ps k hk, List.length_append, List.length_take_of_le (by omega), List.length_take_of_le (by omega)]; omega
theorem wrap_big : wrap64 (1 + 9223372036854775807) = -9223372036854775808 := by simp only [wrap64]; omega
set_option maxHeartbeats 1000000 in
theorem light_any (a : Option Addr) (cap : Nat) (ps : List Part) (w : World) (h : PartsAt w a ps) :
    Calls Tryd.prog 9 #[.slice a ps.length cap] w fun e w' => (e = .returned (.bool false) ∧ w' = w) ∨ (e = .returned (.bool true) ∧ w' = w ∧ load ps ≤ 5000) := by
  have hm := h.1
  unfold maxLen at hm
  go_enter Tryd.func9, Tryd.ntmps9
  go_wp2
  go_loop [3, 4] (fun nv iv => ∃ (k : Nat) (n : Int), k ≤ ps.length ∧ iv = .int .i64 (k : Int) ∧ nv = .int .i64 n ∧ 0 ≤ n ∧ n ≤ 5001 ∧ (n ≤ 5000 → n = load (ps.take k))) (fun _ iv => ps.length - (intOf iv).toNat)
  case atStart => exact ⟨0, 0, by omega, rfl, rfl, by omega, by omega, fun _ => by simp [load, cat]⟩
  case round =>
    obtain ⟨k, n, hk, rfl, rfl, h0, h1, hl⟩ := hrel
    have HL : Hid _ := hl
    clear hl
    by_cases hlt : k < ps.length
    · by_cases hn : n ≤ 5000
      · obtain ⟨b, off, rfl, hbs, hrg⟩ : ∃ b off, a = some ⟨b, off, none⟩ ∧ b < w.heap.size ∧ w.rangeAt b off (ps.map Part.val) := by
          rcases h.2.2 with rfl | q
          · simp at hlt
          · exact q
        obtain ⟨pa, pc, pz, hp, hat⟩ : ∃ pa pc pz, Hid (ps[k] = ⟨pa, pc, pz⟩) ∧ (⟨pa, pc, pz⟩ : Part).at w := by
          have := h.2.1 ps[k] (List.getElem_mem hlt)
          exact ⟨ps[k].a, ps[k].cap, ps[k].zs, rfl, this⟩
        have hcell : w.cell? ⟨b, off + k, none⟩ = some (.slice pa pz.length pc) := by
          refine hrg k _ ?_
          rw [List.getElem?_map, List.getElem?_eq_getElem hlt, hp.out]; rfl
        have hpm : pz.length ≤ 9223372036854775807 := by have := hat.1.1; unfold maxLen at this; exact this
        have HT := load_take ps k hlt
        rw [hp.out] at HT
        have HT' : Hid (load (ps.take (k + 1)) = load (ps.take k) + (1 + pz.length)) := HT
        clear HT hat hrg hp
        by_cases hbig : pz.length = 9223372036854775807
        · have ca := add5000_any n (-9223372036854775808) w h0 h1 (Or.inr rfl)
          have hv : wrap64 (1 + (pz.length : Int)) = -9223372036854775808 := by rw [hbig]; exact wrap_big
          have HV : Hid _ := hv
          have HA : Hid (addTo n (-9223372036854775808) = 5001) := by show _ = _; unfold addTo; rw [if_neg (by omega)]
          rw [HA.out] at ca
          have HB : Hid _ := hbig
          clear hbig
          go_wp2_with fail
          refine ca.mono ?_
          rintro e w1 ⟨rfl, hx⟩
          obtain rfl := hx.symm
          clear hx ca
          go_wp2
          go_round
          case rel => exact ⟨k + 1, 5001, by omega, by go_num, rfl, by omega, by omega, fun h => by omega⟩
          case measure => simp [intOf]; omega
        · have hpl : pz.length < 9223372036854775807 := by omega
          clear hbig
          have ca := add5000_any n (1 + (pz.length : Int)) w h0 h1 (Or.inl (by omega))
          have HA : Hid (addTo n (1 + (pz.length : Int)) ≤ 5001 ∧ 0 ≤ addTo n (1 + (pz.length : Int)) ∧ (addTo n (1 + (pz.length : Int)) ≤ 5000 → addTo n (1 + (pz.length : Int)) = load (ps.take (k + 1)))) := by
            unfold addTo
            have := HL.out hn
            have := HT'.out
            split
            · refine ⟨by omega, by omega, fun _ => by omega⟩
            · refine ⟨by omega, by omega, fun h => by omega⟩
          generalize addTo n (1 + (pz.length : Int)) = r at *
          go_wp2_with fail
          refine ca.mono ?_
          rintro e w1 ⟨rfl, hx⟩
          obtain rfl := hx.symm
          clear hx ca
          go_wp2
          go_round
          case rel => exact ⟨k + 1, r, by omega, by go_num, rfl, HA.out.2.1, HA.out.1, HA.out.2.2⟩
          case measure => simp [intOf]; omega
      · go_wp2
        go_ret
        exact .inl ⟨rfl, rfl⟩
    · have hk' : k = ps.length := by omega
      have HF : Hid (n ≤ 5000 → load ps ≤ 5000) := by
        intro hn
        have := HL.out hn
        rw [hk', List.take_length] at this
        omega
      clear HL
      by_cases hn : n ≤ 5000
      · go_wp2
        go_ret
        exact .inr ⟨rfl, rfl, HF.out hn⟩
      · go_wp2
        go_ret
        exact .inl ⟨rfl, rfl⟩
end Go.Proofs.YtkadfmbpajbkiaaDoor
