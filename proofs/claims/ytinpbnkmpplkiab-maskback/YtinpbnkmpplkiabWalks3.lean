/- The laws of masks: the walk of MaskBack. -/
import Derived.Test.YtinpbnkmpplkiabWalks
namespace Go.Proofs.Ytinpbnkmpplkiab
open Go.RowKit
theorem in_take (l : List Int) (x : Int) (k : Nat) (h : k < l.length) : decide (x ∈ l.take (k + 1)) = (decide (x ∈ l.take k) || (l[k] == x)) := by
  rw [List.take_succ_eq_append_getElem h, Bool.eq_iff_iff, decide_eq_true_iff, Bool.or_eq_true, decide_eq_true_iff, beq_iff_eq, List.mem_append, List.mem_singleton]
  exact ⟨fun h => h.imp id Eq.symm, fun h => h.imp id Eq.symm⟩
set_option maxHeartbeats 2000000 in
theorem back_walk (m : Nat) (hm : m < 2 ^ 64) (a : Option Addr) (cap : Nat) (zs : List Int) (w : World) (hr : RowI w a zs) (hl : zs.length ≤ 1000) :
    Calls Try.prog 5 #[.int .u64 (m : Int), .slice a zs.length cap] w fun e w' => e = .returned (.bool true) ∧ Below w.heap.size w w' := by
  have k1 : ¬ (1000 : Int) < zs.length := by omega
  have hX : ofN 0 zs < 2 ^ 64 := ofN_lt (by decide)
  have hh := has_of zs
  have hso := fun k => @set_of zs k
  have c1 := fun w hr => of_any a cap zs w hr (by omega)
  have c2 := fun w hr => refOf_any a cap zs w hr (by omega)
  obtain ⟨X, eX⟩ : ∃ X, ofN 0 zs = X := ⟨_, rfl⟩
  rw [eX] at hX
  simp only [eX] at hh c1 c2
  simp only [eX] at hso
  clear eX
  have c3 := all_any m hm
  have HO := hide (of_set hm)
  have hlm := setUp_len m 64
  have hlx := setUp_len X 64
  have c4 := all_any X hX
  have ch := has_any X hX
  go_enter Try.func5, Try.ntmps5
  go_wp2_with fail
  refine (c1 w hr).mono ?_
  rintro e w1 ⟨rfl, hb1⟩
  go_wp2_with fail
  refine (c3 w1).mono ?_
  rintro e w2 ⟨v2, rfl, hrow2, hb2'⟩
  have hb2 := hb1.trans (hb2'.mono hb1.size)
  obtain ⟨va, vcap, rfl, hr2⟩ := own_set hrow2 hlm
  have c5 := of_any va vcap (ints (setN m)) w2 hr2 (by rw [ints_length]; unfold setN; omega)
  rw [HO.out, ints_length] at c5
  clear hrow2 hr2
  go_wp2_with fail
  refine c5.mono ?_
  rintro e w3 ⟨rfl, hb3'⟩
  have hb3 := hb2.trans (hb3'.mono hb2.size)
  clear c5
  go_wp2_with fail
  refine (c2 w3 (hr.below hb3)).mono ?_
  rintro e w4 ⟨rfl, hb4'⟩
  have hb4 := hb3.trans (hb4'.mono hb3.size)
  clear c1 c2 c3 HO hb1 hb2 hb3 hb2' hb3' hb4'
  go_wp2_with fail
  go_loopw [32] (fun kv wr => ∃ k : Nat, k ≤ zs.length ∧ kv = .int .i64 (k : Int) ∧ Below w.heap.size w wr) (fun kv _ => zs.length - (intOf kv).toNat)
  case atStart => exact ⟨0, by omega, rfl, hb4⟩
  case round =>
    clear hb4
    obtain ⟨k, hk, rfl, hB⟩ := hrel
    by_cases hlt : k < zs.length
    · obtain ⟨b, off, rfl, hcx⟩ := rowI_cell hr hB hlt
      have hkl : (k : Int) < zs.length := by omega
      have hi := hh _ (List.getElem_mem hlt)
      generalize zs[k] = x at *
      have cx := ch x
      rw [hi] at cx
      clear hi
      by_cases h0 : 0 ≤ x
      · by_cases h1 : x < 64
        · rw [decide_eq_true ⟨h0, h1⟩] at cx
          go_wp2_with (go_at_call 8; refine (cx _).mono ?_; rintro e w5 ⟨rfl, hx⟩; obtain rfl := hx.symm; clear hx)
          go_roundw
          case rel => exact ⟨k + 1, by omega, by go_num, hB⟩
          case measure => simp [intOf]; omega
        · rw [decide_eq_false (by omega)] at cx
          go_wp2_with (go_at_call 8; refine (cx _).mono ?_; rintro e w5 ⟨rfl, hx⟩; obtain rfl := hx.symm; clear hx)
          go_roundw
          case rel => exact ⟨k + 1, by omega, by go_num, hB⟩
          case measure => simp [intOf]; omega
      · rw [decide_eq_false (by omega)] at cx
        go_wp2_with (go_at_call 8; refine (cx _).mono ?_; rintro e w5 ⟨rfl, hx⟩; obtain rfl := hx.symm; clear hx)
        go_roundw
        case rel => exact ⟨k + 1, by omega, by go_num, hB⟩
        case measure => simp [intOf]; omega
    · obtain rfl : k = zs.length := by omega
      clear hh ch
      go_wp2_with fail
      refine (c4 wr).mono ?_
      rintro e w5 ⟨v5, rfl, hrow5, hb5'⟩
      have hb5 := hB.trans (hb5'.mono hB.size)
      obtain ⟨va5, vcap5, rfl, hr5⟩ := own_set hrow5 hlx
      have hin : ∀ x ∈ ints (setN X), x ∈ zs := by
        intro x hx
        unfold ints at hx
        obtain ⟨y, hy, rfl⟩ := List.mem_map.1 hx
        exact hso _ hy
      have hl5 : (setN X).length ≤ 64 := hlx
      rw [← ints_length (setN X)] at hl5
      rw [← ints_length (setN X)]
      clear hrow5 hso c4 hlx hB hb5'
      generalize ints (setN X) = us at *
      have hr0 := hr.below hb5
      clear hr
      go_wp2_with fail
      go_loopw [50] (fun kv wr => ∃ k : Nat, k ≤ us.length ∧ kv = .int .i64 (k : Int) ∧ Below w5.heap.size w5 wr) (fun kv _ => us.length - (intOf kv).toNat)
      case atStart => exact ⟨0, by omega, rfl, Below.refl _ _⟩
      case round =>
        obtain ⟨p, hp, rfl, hB⟩ := hrel
        by_cases hpl : p < us.length
        · obtain ⟨b, off, rfl, hcx⟩ := rowI_cell hr5 hB hpl
          have hkl : (p : Int) < us.length := by omega
          have hi := hide (hin _ (List.getElem_mem hpl))
          generalize us[p] = x at *
          go_wp2_with fail
          go_loopw [10, 56] (fun iv kv wr => ∃ (q : Nat) (bb : Bool), q ≤ zs.length ∧ kv = .int .i64 (q : Int) ∧ iv = .bool bb ∧ Hid (bb = decide (x ∈ zs.take q)) ∧ Below w5.heap.size w5 wr) (fun _ kv _ => zs.length - (intOf kv).toNat)
          case atStart => exact ⟨0, false, by omega, rfl, rfl, hide (by simp), hB⟩
          case round =>
            clear hB
            obtain ⟨q, bb, hq, rfl, rfl, HB, hB⟩ := hrel
            by_cases hql : q < zs.length
            · have HS := hide (in_take zs x q hql)
              obtain ⟨b', off', rfl, hcz⟩ := rowI_cell hr0 hB hql
              have hkq : (q : Int) < zs.length := by omega
              generalize zs[q] = y at *
              cases bb
              · by_cases hyx : y = x
                · have HN : Hid (true = decide (x ∈ zs.take (q + 1))) := hide (by rw [HS.out, ← HB.out, hyx]; simp)
                  subst hyx
                  go_wp2_with fail
                  go_roundw
                  case rel => exact ⟨q + 1, true, by omega, by go_num, by simp, HN, hB⟩
                  case measure => simp [intOf]; omega
                · have HN : Hid (false = decide (x ∈ zs.take (q + 1))) := hide (by rw [HS.out, ← HB.out]; simp [hyx])
                  go_wp2_with fail
                  go_roundw
                  case rel => exact ⟨q + 1, false, by omega, by go_num, by simp [hyx], HN, hB⟩
                  case measure => simp [intOf]; omega
              · have HN : Hid (true = decide (x ∈ zs.take (q + 1))) := hide (by rw [HS.out, ← HB.out]; simp)
                go_wp2_with fail
                go_roundw
                case rel => exact ⟨q + 1, true, by omega, by go_num, rfl, HN, hB⟩
                case measure => simp [intOf]; omega
            · obtain rfl : q = zs.length := by omega
              have ht : bb = true := by rw [HB.out, List.take_length]; exact decide_eq_true hi.out
              subst ht
              go_wp2_with fail
              go_roundw
              case rel => exact ⟨p + 1, by omega, by go_num, hB⟩
              case measure => simp [intOf]; omega
        · obtain rfl : p = us.length := by omega
          go_wp2_with fail
          refine (lives_any _).mono ?_
          rintro e w9 ⟨rfl, hb9⟩
          have hb8 := hb5.trans (hB.mono hb5.size)
          have hb10 := hb8.trans (hb9.mono hb8.size)
          go_wp2_with fail
          go_ret
          exact ⟨rfl, hb10⟩
end Go.Proofs.Ytinpbnkmpplkiab
