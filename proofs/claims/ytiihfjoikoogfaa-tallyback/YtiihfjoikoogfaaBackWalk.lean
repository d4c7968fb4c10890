/- The law on what was put: the walk. -/
import Derived.Test.YtiihfjoikoogfaaBack2
namespace Go.Proofs.Ytiihfjoikoogfaa
open Go.RowKit
open Tal
set_option linter.unusedSimpArgs false
def tot (l : List ByteArray) : Nat := (l.map fun s => 1 + s.size).sum
theorem tot_take (l : List ByteArray) (k : Nat) (h : k < l.length) : tot (l.take (k + 1)) = tot (l.take k) + (1 + (l.getD k ByteArray.empty).size) := by
  rw [List.take_succ_eq_append_getElem h, List.getD_eq_getElem?_getD, List.getElem?_eq_getElem h]
  simp only [tot, List.map_append, List.map_cons, List.map_nil, List.sum_append, List.sum_cons, List.sum_nil, Nat.add_zero, Option.getD_some]
def putsL (l : List Int) : List Int := l.flatMap putL
def textsL (l : List ByteArray) : List Int := l.flatMap textL
theorem putsL_take (l : List Int) (k : Nat) (h : k < l.length) : putsL (l.take (k + 1)) = putsL (l.take k) ++ putL (l.getD k 0) := by
  rw [List.take_succ_eq_append_getElem h, List.getD_eq_getElem?_getD, List.getElem?_eq_getElem h]
  simp only [putsL, List.flatMap_append, List.flatMap_cons, List.flatMap_nil, List.append_nil, Option.getD_some]
theorem textsL_take (l : List ByteArray) (k : Nat) (h : k < l.length) : textsL (l.take (k + 1)) = textsL (l.take k) ++ textL (l.getD k ByteArray.empty) := by
  rw [List.take_succ_eq_append_getElem h, List.getD_eq_getElem?_getD, List.getElem?_eq_getElem h]
  simp only [textsL, List.flatMap_append, List.flatMap_cons, List.flatMap_nil, List.append_nil, Option.getD_some]
theorem putsL_drop (l : List Int) (k : Nat) (h : k < l.length) : putsL (l.drop k) = putL (l.getD k 0) ++ putsL (l.drop (k + 1)) := by
  rw [List.drop_eq_getElem_cons h, List.getD_eq_getElem?_getD, List.getElem?_eq_getElem h]
  simp only [putsL, List.flatMap_append, List.flatMap_cons, List.flatMap_nil, List.append_nil, Option.getD_some]
theorem textsL_drop (l : List ByteArray) (k : Nat) (h : k < l.length) : textsL (l.drop k) = textL (l.getD k ByteArray.empty) ++ textsL (l.drop (k + 1)) := by
  rw [List.drop_eq_getElem_cons h, List.getD_eq_getElem?_getD, List.getElem?_eq_getElem h]
  simp only [textsL, List.flatMap_append, List.flatMap_cons, List.flatMap_nil, List.append_nil, Option.getD_some]
theorem putsL_length (l : List Int) (h : ∀ z ∈ l, z ≤ 9223372036854775807) : (putsL l).length ≤ 9 * l.length := by
  induction l with
  | nil => simp [putsL]
  | cons x l ih =>
    have := ih (fun z hz => h z (by simp [hz]))
    have := putL_length x (by have := h x (by simp); omega)
    simp only [putsL, List.flatMap_cons, List.length_append, List.length_cons] at *
    omega
theorem textsL_length (l : List ByteArray) (h : tot l ≤ 5000) : (textsL l).length ≤ 9 * tot l := by
  induction l with
  | nil => simp [textsL, tot]
  | cons s l ih =>
    simp only [tot, List.map_cons, List.sum_cons] at h ih ⊢
    have := ih (by omega)
    have hp := putL_length (s.size : Int) (by omega)
    have hs := strL_length s
    simp only [textsL, List.flatMap_cons, List.length_append, textL] at *
    omega
theorem tot_size (l : List ByteArray) (s : ByteArray) (h : s ∈ l) : s.size ≤ tot l := by
  induction l with
  | nil => simp at h
  | cons x l ih =>
    simp only [List.mem_cons] at h
    simp only [tot, List.map_cons, List.sum_cons] at ih ⊢
    rcases h with rfl | h
    · omega
    · have := ih h; omega
theorem tot_mono (l : List ByteArray) (k : Nat) : tot (l.take k) ≤ tot l := by
  have : tot l = tot (l.take k) + tot (l.drop k) := by
    have e : tot (l.take k ++ l.drop k) = tot (l.take k) + tot (l.drop k) := by simp only [tot, List.map_append, List.sum_append]
    rw [List.take_append_drop] at e
    exact e
  omega
theorem Mine.mono {w : World} {B B' : Nat} {v : Value} {zs : List Int} (h : Mine w B v zs) (hb : B' ≤ B) : Mine w B' v zs := by
  refine ⟨⟨h.1.1, ?_⟩, h.2⟩
  rcases h.1.2 with h | ⟨g, cap, cur, hv, hg, r⟩
  · exact .inl h
  · exact .inr ⟨g, cap, cur, hv, by omega, r⟩
set_option maxHeartbeats 4000000 in
theorem back_walk (a0 a1 a2 : Option Addr) (c0 c1 c2 : Nat) (ns : List Int) (ss : List ByteArray) (zs : List Int) (w : World) (h0 : RowI w a0 ns) (hn : ∀ z ∈ ns, z ≤ 9223372036854775807) (h1 : RowS w a1 ss) (hs : ∀ s ∈ ss, s.size ≤ maxLen) (hsl : ss.length ≤ maxLen) (h2 : RowAt w a2 zs) :
    Calls Try.prog 5 #[.slice a0 ns.length c0, .slice a1 ss.length c1, .slice a2 zs.length c2] w fun e w' => e = .returned (.bool true) ∧ Below w.heap.size w w' := by
  obtain ⟨i0, hi, hz0, hz1, hz2⟩ := info_parts info5
  unfold maxLen at hsl
  go_enter Try.func5, Try.ntmps5
  go_wp2_with fail
  go_loop [7, 8] (fun q i => ∃ (k : Nat) (m : Int), k ≤ ss.length ∧ i = .int .i64 k ∧ q = .int .i64 m ∧ 0 ≤ m ∧ m ≤ 5001 ∧ Hid (m ≤ 5000 → m = tot (ss.take k))) (fun _ i => ss.length - (intOf i).toNat)
  case atStart => exact ⟨0, 0, by omega, rfl, rfl, by omega, by omega, fun _ => by simp [tot]⟩
  case round =>
    obtain ⟨k, m, hk, rfl, rfl, hm0, hm1, hm⟩ := hrel
    by_cases hlt : k < ss.length
    · by_cases hmm : m ≤ 5000
      · obtain ⟨b, off, rfl, hbb, hcc⟩ : ∃ b off, a1 = some ⟨b, off, none⟩ ∧ b < w.heap.size ∧ ∀ j, j < ss.length → w.cell? ⟨b, off + j, none⟩ = some (.string (ss.getD j ByteArray.empty)) := by
          rcases h1 with rfl | h
          · simp at hlt
          · exact h
        have hsk : (ss.getD k ByteArray.empty).size ≤ 9223372036854775807 := by
          rw [List.getD_eq_getElem?_getD, List.getElem?_eq_getElem hlt]
          have := hs _ (List.getElem_mem hlt)
          unfold maxLen at this
          exact this
        obtain ⟨s, hcx, hss, HT⟩ : ∃ s, w.cell? ⟨b, off + k, none⟩ = some (.string s) ∧ s.size ≤ 9223372036854775807 ∧ Hid (tot (ss.take (k + 1)) = tot (ss.take k) + (1 + s.size)) := ⟨_, hcc k hlt, hsk, tot_take ss k hlt⟩
        have HC : Hid (RowS w (some ⟨b, off, none⟩) ss) := h1
        clear hcc h1 hsk
        have hwr : -9223372036854775808 ≤ wrap64 (1 + (s.size : Int)) ∧ wrap64 (1 + (s.size : Int)) ≤ 9223372036854775807 := by simp only [wrap64]; omega
        have ca := add_any m (wrap64 (1 + (s.size : Int))) w hm0 hm1 hwr.1 hwr.2
        rw [addR_text m s.size hm0 hm1 hss] at ca
        have HA : Hid ((if m + 1 + (s.size : Int) ≤ 5000 then m + 1 + (s.size : Int) else 5001) ≤ 5000 → (if m + 1 + (s.size : Int) ≤ 5000 then m + 1 + (s.size : Int) else 5001) = tot (ss.take (k + 1))) := by
          show _ → _
          have := hm.out hmm
          have e := HT.out
          split <;> omega
        have hA : 0 ≤ (if m + 1 + (s.size : Int) ≤ 5000 then m + 1 + (s.size : Int) else 5001) ∧ (if m + 1 + (s.size : Int) ≤ 5000 then m + 1 + (s.size : Int) else 5001) ≤ 5001 := by split <;> omega
        generalize (if m + 1 + (s.size : Int) ≤ 5000 then m + 1 + (s.size : Int) else 5001) = m' at *
        clear hwr
        go_wp2_with fail
        refine ca.mono ?_
        rintro e w1 ⟨rfl, rfl⟩
        clear ca
        go_wp2_with fail
        go_round
        case rel => exact ⟨k + 1, m', by omega, by go_num, rfl, hA.1, hA.2, HA⟩
        case measure => simp [intOf]; omega
      · have hm5 : m = 5001 := by omega
        subst hm5
        by_cases hnl : 500 < ns.length
        · have hnl' : (500 : Int) < ns.length := by omega
          go_wp2_with fail
          refine (lives_any _).mono ?_
          rintro e w4 ⟨rfl, hw4⟩
          go_wp2_with fail
          go_ret
          exact ⟨rfl, hw4⟩
        · have hnl' : ¬ (500 : Int) < ns.length := by omega
          go_wp2_with fail
          refine (lives_any _).mono ?_
          rintro e w4 ⟨rfl, hw4⟩
          go_wp2_with fail
          go_ret
          exact ⟨rfl, hw4⟩
    · obtain rfl : k = ss.length := by omega
      rw [List.take_length] at hm
      by_cases hnl : 500 < ns.length
      · have hnl' : (500 : Int) < ns.length := by omega
        go_wp2_with fail
        refine (lives_any _).mono ?_
        rintro e w4 ⟨rfl, hw4⟩
        go_wp2_with fail
        go_ret
        exact ⟨rfl, hw4⟩
      · have hnl' : ¬ (500 : Int) < ns.length := by omega
        by_cases hmm : 5000 < m
        · have hmm' : (5000 : Int) < m := hmm
          go_wp2_with fail
          refine (lives_any _).mono ?_
          rintro e w4 ⟨rfl, hw4⟩
          go_wp2_with fail
          go_ret
          exact ⟨rfl, hw4⟩
        · by_cases hzl : 5000 < zs.length
          · have hzl' : (5000 : Int) < zs.length := by omega
            go_wp2_with fail
            refine (lives_any _).mono ?_
            rintro e w4 ⟨rfl, hw4⟩
            go_wp2_with fail
            go_ret
            exact ⟨rfl, hw4⟩
          · have hzl' : ¬ (5000 : Int) < zs.length := by omega
            have htot : tot ss ≤ 5000 := by have := hm.out (by omega); omega
            have htl := textsL_length ss htot
            have hnlen := putsL_length ns hn
            clear hm
            go_wp2_with fail
            go_loopw [9, 52] (fun b i wr => ∃ k : Nat, k ≤ ns.length ∧ i = .int .i64 k ∧ Mine wr w.heap.size b (putsL (ns.take k)) ∧ Below w.heap.size w wr) (fun _ i _ => ns.length - (intOf i).toNat)
            case atStart => exact ⟨0, by omega, rfl, ⟨World.ownsRow_nil _ _ _ _, by simp [putsL]⟩, Below.refl _ _⟩
            case round =>
              obtain ⟨k, hk, rfl, hmi, hbr⟩ := hrel
              have hl1 : (putsL (ns.take k)).length ≤ 4500 := by
                have := putsL_length (ns.take k) (fun z hz => hn z (List.mem_of_mem_take hz))
                rw [List.length_take] at this; omega
              by_cases hlt : k < ns.length
              · obtain ⟨b, off, rfl, hbb, hcc⟩ : ∃ b off, a0 = some ⟨b, off, none⟩ ∧ b < w.heap.size ∧ ∀ j, j < ns.length → w.cell? ⟨b, off + j, none⟩ = some (.int .i64 (ns.getD j 0)) := by
                  rcases h0.2 with rfl | h
                  · simp at hlt
                  · exact h
                obtain ⟨z, hcx, hzm, HT⟩ : ∃ z, wr.cell? ⟨b, off + k, none⟩ = some (.int .i64 z) ∧ z ≤ 9223372036854775807 ∧ Hid (putsL (ns.take (k + 1)) = putsL (ns.take k) ++ putL z) := by
                  refine ⟨_, (hbr.cell (by exact hbb)).trans (hcc k hlt), ?_, putsL_take ns k hlt⟩
                  rw [List.getD_eq_getElem?_getD, List.getElem?_eq_getElem hlt]
                  exact hn _ (List.getElem_mem hlt)
                obtain ⟨a', cap', rfl, _, _, hro⟩ := hmi.rowAt (by unfold maxLen; omega)
                have cp := put_any a' cap' (putsL (ns.take k)) z wr hro (by omega) hzm
                rw [← HT.out] at cp
                clear hcc
                go_wp2_with fail
                refine cp.mono ?_
                rintro e w1 ⟨v1, rfl, hM1, hb1⟩
                clear cp
                have hM1' := hM1.mono hbr.size
                have hb1' := hbr.trans (hb1.mono hbr.size)
                go_wp2_with fail
                go_roundw
                case rel => exact ⟨k + 1, by omega, by go_num, hM1', hb1'⟩
                case measure => simp [intOf]; omega
              · obtain rfl : k = ns.length := by omega
                rw [List.take_length] at hmi hl1
                go_wp2_with fail
                go_loopw [9, 62] (fun b i wr => ∃ k : Nat, k ≤ ss.length ∧ i = .int .i64 k ∧ Mine wr w.heap.size b (putsL ns ++ textsL (ss.take k)) ∧ Below w.heap.size w wr) (fun _ i _ => ss.length - (intOf i).toNat)
                case atStart => exact ⟨0, by omega, rfl, by simpa [textsL] using hmi, hbr⟩
                case round =>
                  obtain ⟨k, hk, rfl, hmi3, hbr3⟩ := hrel
                  have hl3 : (putsL ns ++ textsL (ss.take k)).length ≤ 4500 + 45000 := by
                    have h5 := tot_mono ss k
                    have := textsL_length (ss.take k) (by omega)
                    rw [List.length_append]; omega
                  by_cases hlt : k < ss.length
                  · obtain ⟨b, off, rfl, hbb, hcc⟩ : ∃ b off, a1 = some ⟨b, off, none⟩ ∧ b < w.heap.size ∧ ∀ j, j < ss.length → w.cell? ⟨b, off + j, none⟩ = some (.string (ss.getD j ByteArray.empty)) := by
                      rcases h1 with rfl | h
                      · simp at hlt
                      · exact h
                    obtain ⟨s, hcx, hsm, HT⟩ : ∃ s, wr.cell? ⟨b, off + k, none⟩ = some (.string s) ∧ s.size ≤ 5000 ∧ Hid (putsL ns ++ textsL (ss.take (k + 1)) = putsL ns ++ textsL (ss.take k) ++ textL s) := by
                      refine ⟨_, (hbr3.cell (by exact hbb)).trans (hcc k hlt), ?_, by show _ = _; rw [textsL_take ss k hlt, List.append_assoc]⟩
                      rw [List.getD_eq_getElem?_getD, List.getElem?_eq_getElem hlt]
                      have := tot_size ss _ (List.getElem_mem hlt)
                      simp only [Option.getD_some]; omega
                    generalize putsL ns ++ textsL (ss.take k) = L3 at *
                    obtain ⟨a', cap', rfl, _, _, hro⟩ := hmi3.rowAt (by unfold maxLen; omega)
                    have cp := putText_any a' cap' L3 s wr hro (by omega) (by omega)
                    rw [← HT.out] at cp
                    have HC : Hid (RowS w (some ⟨b, off, none⟩) ss) := h1
                    clear hcc h1
                    go_wp2_with fail
                    refine cp.mono ?_
                    rintro e w1 ⟨v1, rfl, hM1, hb1⟩
                    clear cp
                    have hM1' := hM1.mono hbr3.size
                    have hb1' := hbr3.trans (hb1.mono hbr3.size)
                    go_wp2_with fail
                    go_roundw
                    case rel => exact ⟨k + 1, by omega, by go_num, hM1', hb1'⟩
                    case measure => simp [intOf]; omega
                  · obtain rfl : k = ss.length := by omega
                    rw [List.take_length] at hmi3 hl3
                    generalize hL : putsL ns ++ textsL ss = L at *
                    have HL : Hid (putsL ns ++ textsL ss = L) := hL
                    clear hL
                    go_wp2_with (at_builtin; refine wpList_append_own_src _ rfl _ _ 22 22 rfl w.heap.size 5 i0 (.int .u8 0) 1 1 Try.underlying22 hi hz0 hz1 hz2 rfl _ L.length _ rfl hmi3.1 (.slice a2 zs.length c2) zs.length (zs.map (Value.int .u8)) rfl ((h2.below hbr3).src c2) ?c1 ?c2 ?c3 ?_)
                    case c1 => unfold maxLen; omega
                    case c2 => omega
                    case c3 => exact hbr3.size
                    intro v4 w4 hown4 hgrow4
                    have hb4 := below_grown hbr3 hbr3.size hmi3.1 hgrow4
                    have hM4 : Mine w4 w.heap.size v4 (L ++ zs) := by
                      refine Mine.mk' _ hown4 (by simp) (by simp) (fun z hz => ?_)
                      simp only [List.mem_append] at hz
                      rcases hz with hz | hz
                      · exact hmi3.2 z hz
                      · exact h2.2.1 z hz
                    clear hown4 hgrow4
                    obtain ⟨a5, cap5, hv5, _, _, hr5⟩ := hM4.rowAt (by rw [List.length_append]; unfold maxLen; omega)
                    subst hv5
                    have cr := read_any a5 cap5 (L ++ zs) w4 hr5 (by rw [List.length_append]; omega)
                    rw [List.length_append] at cr
                    go_wp2_with fail
                    refine cr.mono ?_
                    rintro e w5 ⟨R, rfl, hR, hSt, hb5⟩
                    clear cr
                    have hRw : w.heap.size ≤ R := Nat.le_trans hb4.size hR
                    have hb5' := hb4.trans (hb5.mono hb4.size)
                    rw [← HL.out, List.append_assoc] at hSt
                    go_wp2_with fail
                    go_loopw [76] (fun i wr => ∃ k : Nat, k ≤ ns.length ∧ i = .int .i64 k ∧ St wr R (putsL (ns.drop k) ++ (textsL ss ++ zs)) 0 ∧ Below w.heap.size w wr) (fun i _ => ns.length - (intOf i).toNat)
                    case atStart => exact ⟨0, by omega, rfl, by simpa using hSt, hb5'⟩
                    case round =>
                      obtain ⟨k, hk, rfl, hS4, hbr4⟩ := hrel
                      by_cases hlt : k < ns.length
                      · obtain ⟨b, off, rfl, hbb, hcc⟩ : ∃ b off, a0 = some ⟨b, off, none⟩ ∧ b < w.heap.size ∧ ∀ j, j < ns.length → w.cell? ⟨b, off + j, none⟩ = some (.int .i64 (ns.getD j 0)) := by
                          rcases h0.2 with rfl | h
                          · simp at hlt
                          · exact h
                        obtain ⟨z, hcx, hzm, HT⟩ : ∃ z, wr.cell? ⟨b, off + k, none⟩ = some (.int .i64 z) ∧ z ≤ 9223372036854775807 ∧ Hid (putsL (ns.drop k) = putL z ++ putsL (ns.drop (k + 1))) := by
                          refine ⟨_, (hbr4.cell (by exact hbb)).trans (hcc k hlt), ?_, putsL_drop ns k hlt⟩
                          rw [List.getD_eq_getElem?_getD, List.getElem?_eq_getElem hlt]
                          exact hn _ (List.getElem_mem hlt)
                        clear hcc
                        rw [HT.out, List.append_assoc] at hS4
                        by_cases hz0' : z < 0
                        · have e0 : putL z = [] := by unfold putL; rw [if_pos hz0']
                          rw [e0, List.nil_append] at hS4
                          clear e0
                          go_wp2_with fail
                          go_roundw
                          case rel => exact ⟨k + 1, by omega, by go_num, hS4, hbr4⟩
                          case measure => simp [intOf]; omega
                        · have hz1' : 0 ≤ z := by omega
                          have cn := num_any R _ 0 z wr hS4
                          rw [numS_back z z hz1' hzm (by omega)] at cn
                          clear hz0'
                          go_wp2_with fail
                          refine cn.mono ?_
                          rintro e w6 ⟨rfl, hS6, hg6⟩
                          clear cn
                          have hb6 : Below w.heap.size w w6 := hbr4.grown hg6 hbr4.size (fun j hj => by cases hj; exact hRw)
                          go_wp2_with fail
                          go_roundw
                          case rel => exact ⟨k + 1, by omega, by go_num, hS6, hb6⟩
                          case measure => simp [intOf]; omega
                      · obtain rfl : k = ns.length := by omega
                        rw [List.drop_length] at hS4
                        have hS4' : St wr R (textsL ss ++ zs) 0 := by simpa [putsL] using hS4
                        clear hS4
                        go_wp2_with fail
                        go_loopw [92] (fun i wr => ∃ k : Nat, k ≤ ss.length ∧ i = .int .i64 k ∧ St wr R (textsL (ss.drop k) ++ zs) 0 ∧ Below w.heap.size w wr) (fun i _ => ss.length - (intOf i).toNat)
                        case atStart => exact ⟨0, by omega, rfl, by simpa using hS4', hbr4⟩
                        case round =>
                          obtain ⟨k, hk, rfl, hS7, hbr7⟩ := hrel
                          by_cases hlt : k < ss.length
                          · obtain ⟨b, off, rfl, hbb, hcc⟩ : ∃ b off, a1 = some ⟨b, off, none⟩ ∧ b < w.heap.size ∧ ∀ j, j < ss.length → w.cell? ⟨b, off + j, none⟩ = some (.string (ss.getD j ByteArray.empty)) := by
                              rcases h1 with rfl | h
                              · simp at hlt
                              · exact h
                            obtain ⟨s, hcx, hsm, HT⟩ : ∃ s, wr.cell? ⟨b, off + k, none⟩ = some (.string s) ∧ s.size ≤ 5000 ∧ Hid (textsL (ss.drop k) = textL s ++ textsL (ss.drop (k + 1))) := by
                              refine ⟨_, (hbr7.cell (by exact hbb)).trans (hcc k hlt), ?_, textsL_drop ss k hlt⟩
                              rw [List.getD_eq_getElem?_getD, List.getElem?_eq_getElem hlt]
                              have := tot_size ss _ (List.getElem_mem hlt)
                              simp only [Option.getD_some]; omega
                            have HC : Hid (RowS w (some ⟨b, off, none⟩) ss) := h1
                            clear hcc h1
                            rw [HT.out, List.append_assoc] at hS7
                            have hpos : 0 ≤ (numS (textL s ++ (textsL (ss.drop (k + 1)) ++ zs)) 0 9223372036854775807).1 := by
                              have e : textL s ++ (textsL (ss.drop (k + 1)) ++ zs) = putL (s.size : Int) ++ (strL s ++ (textsL (ss.drop (k + 1)) ++ zs)) := by unfold textL; rw [List.append_assoc]
                              rw [e, numS_back (s.size : Int) _ (by omega) (by omega) (by omega)]
                              simp
                            have ct := text_any R _ 0 (s.size : Int) wr hS7 hpos
                            rw [textS_back s s.size (by omega) (by omega)] at ct
                            simp only [strOf_strL] at ct
                            clear hpos
                            go_wp2_with fail
                            refine ct.mono ?_
                            rintro e w6 ⟨rfl, hS6, hg6⟩
                            clear ct
                            have hb6 : Below w.heap.size w w6 := hbr7.grown hg6 hbr7.size (fun j hj => by cases hj; exact hRw)
                            go_wp2_with fail
                            go_roundw
                            case rel => exact ⟨k + 1, by omega, by go_num, hS6, hb6⟩
                            case measure => simp [intOf]; omega
                          · obtain rfl : k = ss.length := by omega
                            rw [List.drop_length] at hS7
                            have hS8 : St wr R zs 0 := by simpa [textsL] using hS7
                            clear hS7
                            have cl := leftR_any R zs 0 wr hS8
                            rw [if_pos rfl] at cl
                            go_wp2_with fail
                            refine (err_made R 0 wr hS8.1).mono ?_
                            rintro e w8 ⟨rfl, rfl⟩
                            go_wp2_with fail
                            refine cl.mono ?_
                            rintro e w9 ⟨rfl, rfl⟩
                            clear cl
                            go_wp2_with fail
                            refine (lives_end w hbr7).mono ?_
                            rintro e w10 ⟨rfl, hb10⟩
                            go_wp2_with fail
                            go_ret
                            exact ⟨rfl, hb10⟩
end Go.Proofs.Ytiihfjoikoogfaa
