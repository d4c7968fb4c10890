/- The document's List, Ones, Of, Down; mask.Of; Ints; lives: contracts. -/
import Derived.Test.YtnjlamcpfclgaaaCounts
import Derived.Deep.QuietTactic
import Derived.BigQuiet
import Derived.Test.YtnjlamcpfclgaaaAppend
namespace Go.Proofs.Ytnjlamcpfclgaaa
open Go.RowKit
theorem own_cell {w : World} {base : Nat} {e : TypeId} {g n cap : Nat} {ts : List Int} {p : Nat} {x : Int} (h : w.ownsRow base e 1 (.slice (some ⟨g, 0, none⟩) n cap) n (ts.map (Value.int .i64))) (hp : ts[p]? = some x) : w.cell? ⟨g, p, none⟩ = some (.int .i64 x) := by
  have := h.cells (g := g) rfl p (.int .i64 x) (by rw [List.getElem?_map, hp]; rfl)
  by_cases h0 : p = 0
  · rw [h0] at this ⊢; simpa [Addr.add] using this
  · simpa [Addr.add, h0] using this
theorem RowI.cellsAt {w : World} {x : Addr} {zs : List Int} (h : RowI w (some x) zs) : ∀ j u, (zs.map (Value.int .i64))[j]? = some u → w.cell? (x.add j) = some u := by
  intro j u hu
  obtain ⟨h1, rfl | ⟨b, off, hx, hb, hc⟩⟩ := h
  · simp at hu
  · simp only [Option.some.injEq] at hx
    subst hx
    rw [List.getElem?_map] at hu
    cases hz : zs[j]? with
    | none => simp [hz] at hu
    | some z =>
      simp [hz] at hu
      subst hu
      have hj : j < zs.length := (List.getElem?_eq_some_iff.1 hz).1
      have := hc j hj
      rw [hz] at this
      by_cases h0 : j = 0
      · subst h0; simpa [Addr.add] using this
      · simpa [Addr.add, h0] using this
theorem RowI.none_nil {w : World} {zs : List Int} (h : RowI w none zs) : zs = [] := by
  obtain ⟨h1, h | ⟨b, off, hx, hb, hc⟩⟩ := h
  · exact h
  · cases hx
theorem RowI.src {w : World} {a : Option Addr} {zs : List Int} (h : RowI w a zs) (cap : Nat) : Src Try.prog 1 51 (.slice a zs.length cap) zs.length (zs.map (Value.int .i64)) w := by
  cases a with
  | none => obtain rfl := h.none_nil; exact Src.ofNil w Try.underlying51 cap
  | some x =>
    refine Src.ofSlice w Try.underlying51 x zs.length cap _ (by simp) h.cellsAt (fun u hu => ?_)
    obtain ⟨z, _, rfl⟩ := List.mem_map.1 hu
    rfl
theorem own_rowI {w : World} {base : Nat} {v : Value} {zs : List Int} (h : w.ownsRow base 3 1 v zs.length (zs.map (Value.int .i64))) (hm : zs.length ≤ maxLen) :
    ∃ a cap, v = .slice a zs.length cap ∧ RowI w a zs := by
  rcases h.2 with ⟨rfl, h0⟩ | ⟨g, cap, cur, rfl, hb, hg, hn, hcm, hcs, ht⟩
  · have : zs = [] := List.eq_nil_of_length_eq_zero h0
    subst this
    exact ⟨none, 0, rfl, hm, Or.inl rfl⟩
  · refine ⟨_, cap, rfl, hm, Or.inr ⟨g, 0, rfl, (Array.getElem?_eq_some_iff.1 hg).1, fun j hj => ?_⟩⟩
    rw [Nat.zero_add, List.getElem?_eq_getElem hj]
    exact own_cell h (List.getElem?_eq_getElem hj)
theorem vals_ints (l : List Nat) : vals l = (ints l).map (Value.int .i64) := by simp [vals, ints]
theorem ints_length (l : List Nat) : (ints l).length = l.length := by simp [ints]
theorem own_set {w : World} {base : Nat} {v : Value} {l : List Nat} (h : w.ownsRow base 3 1 v l.length (vals l)) (hl : l.length ≤ 64) :
    ∃ a cap, v = .slice a l.length cap ∧ RowI w a (ints l) := by
  rw [vals_ints, ← ints_length l] at h
  have := own_rowI h (by rw [ints_length]; unfold maxLen; omega)
  rwa [ints_length] at this
set_option maxHeartbeats 1000000 in
theorem refList_any (m : Nat) (hm : m < 2 ^ 64) (w : World) :
    Calls Try.prog 37 #[.int .u64 (m : Int)] w fun e w' => ∃ v, e = .returned v ∧ w'.ownsRow w.heap.size 3 1 v (setN m).length (vals (setN m)) ∧ Below w.heap.size w w' := by
  obtain ⟨i0, hi, hz0, hz1, hz2⟩ := info_parts info3
  go_enter Try.func37, Try.ntmps37
  go_wp2
  go_loopw [3, 4] (fun v kv wr => ∃ k : Nat, k ≤ 64 ∧ kv = .int .i64 (k : Int) ∧ wr.ownsRow w.heap.size 3 1 v (setUp m k).length (vals (setUp m k)) ∧ Below w.heap.size w wr) (fun _ kv _ => 64 - (intOf kv).toNat)
  case atStart => exact ⟨0, by omega, rfl, World.ownsRow_nil _ _ _ _, Below.refl _ _⟩
  case round =>
    obtain ⟨k, hk, rfl, hrow, hB⟩ := hrel
    by_cases hlt : k < 64
    · have ch := refHas_any m hm (k : Int)
      rw [hasN_cast _ _ hlt] at ch
      cases hb : m.testBit k
      · rw [hb] at ch
        have HU := hide (setUp_no hb)
        clear hb
        obtain ⟨va, vcap, rfl⟩ := ownsRow_slice hrow
        go_wp2_with (go_at_call 36; refine (ch _).mono ?_; rintro e w1 ⟨rfl, hx⟩; obtain rfl := hx.symm; clear hx)
        go_roundw
        case rel => exact ⟨k + 1, by omega, by go_num, by rw [HU.out]; exact hrow, hB⟩
        case measure => simp [intOf]; omega
      · rw [hb] at ch
        have HU := hide (setUp_yes hb)
        clear hb
        have hlen := setUp_len m k
        generalize setUp m k = l at *
        obtain ⟨va, vcap, rfl⟩ := ownsRow_slice hrow
        go_wp2_with (first | (go_at_call 36; refine (ch _).mono ?_; rintro e w1 ⟨rfl, hx⟩; obtain rfl := hx.symm; clear hx) | (at_builtin; refine wpList_append_own_src _ rfl _ _ 51 51 rfl w.heap.size 3 i0 (.int .i64 0) 1 8 Try.underlying51 hi hz0 hz1 hz2 rfl _ l.length (vals l) rfl (hrow.alloc _) (.slice (some ⟨wr.heap.size, 0, none⟩) 1 1) 1 [.int .i64 (k : Int)] rfl (Src.ofSlice _ Try.underlying51 ⟨wr.heap.size, 0, none⟩ 1 1 _ (by simp) (cell_one_new _ _ _) (by simp [Value.oneCell'])) ?c1 ?c2 ?c3 ?_))
        case c1 => unfold maxLen; omega
        case c2 => omega
        case c3 => have := hB.size; simp; omega
        intro v2 w2 hown2 hgr2
        have hB1 : Below w.heap.size w (wr.alloc (.cells #[.int .i64 (k : Int)] 3)) := hB.alloc hB.size _
        have hB2 : Below w.heap.size w w2 := hB1.grown hgr2 (by have := hB.size; simp; omega) (fun j hj => ((hrow.alloc (.cells #[.int .i64 (k : Int)] 3)).lt j hj).1)
        obtain ⟨va, vcap, rfl⟩ := ownsRow_slice hown2
        go_wp2_with fail
        go_roundw
        case rel => exact ⟨k + 1, by omega, by go_num, by rw [HU.out, vals_snoc]; simpa using hown2, hB2⟩
        case measure => simp [intOf]; omega
    · obtain rfl : k = 64 := by omega
      obtain ⟨va, vcap, rfl⟩ := ownsRow_slice hrow
      go_wp2_with fail
      go_ret
      exact ⟨_, rfl, hrow, hB⟩
set_option maxHeartbeats 400000 in
theorem refOnes_any (m : Nat) (hm : m < 2 ^ 64) (w : World) :
    Calls Try.prog 33 #[.int .u64 (m : Int)] w fun e w' => e = .returned (.int .i64 (onesN m : Int)) ∧ Below w.heap.size w w' := by
  go_enter Try.func33, Try.ntmps33
  go_wp2
  go_loopw [3] (fun kv wr => ∃ k : Nat, k ≤ 64 ∧ kv = .int .i64 (k : Int) ∧ Hid (∀ j, j < k → m.testBit j = true) ∧ Below w.heap.size w wr) (fun kv _ => 64 - (intOf kv).toNat)
  case atStart => exact ⟨0, by omega, rfl, hide (fun j h => by omega), Below.refl _ _⟩
  case round =>
    obtain ⟨k, hk, rfl, HA, hB⟩ := hrel
    by_cases hlt : k < 64
    · have ch := refHas_any m hm (k : Int)
      rw [hasN_cast _ _ hlt] at ch
      cases hb : m.testBit k
      · rw [hb] at ch
        have HO := hide (onesN_spec m k hk HA.out (fun _ => hb))
        clear hb
        go_wp2_with (go_at_call 36; refine (ch _).mono ?_; rintro e w1 ⟨rfl, hx⟩; obtain rfl := hx.symm; clear hx)
        go_ret
        exact ⟨ret_int (by rw [HO.out]), hB⟩
      · rw [hb] at ch
        have HN : Hid (∀ j, j < k + 1 → m.testBit j = true) := hide (fun j h => by
          rcases Nat.lt_or_eq_of_le (Nat.lt_succ_iff.1 h) with h | rfl
          · exact HA.out j h
          · exact hb)
        clear hb
        go_wp2_with (go_at_call 36; refine (ch _).mono ?_; rintro e w1 ⟨rfl, hx⟩; obtain rfl := hx.symm; clear hx)
        go_roundw
        case rel => exact ⟨k + 1, by omega, by go_num, HN, hB⟩
        case measure => simp [intOf]; omega
    · obtain rfl : k = 64 := by omega
      have HO := hide (onesN_spec m 64 hk HA.out (fun h => by omega))
      go_wp2_with fail
      go_ret
      exact ⟨ret_int (by rw [HO.out]), hB⟩
theorem ofN_take (l : List Int) (k : Nat) (h : k < l.length) : ofN 0 (l.take (k + 1)) = withN (ofN 0 (l.take k)) l[k] := by
  rw [List.take_succ_eq_append_getElem h, ofN_append]; rfl
theorem rowI_cell {w wr : World} {a : Option Addr} {zs : List Int} (h : RowI w a zs) (hB : Below w.heap.size w wr) {k : Nat} (hk : k < zs.length) : ∃ b off, a = some ⟨b, off, none⟩ ∧ wr.cell? ⟨b, off + k, none⟩ = some (.int .i64 zs[k]) := by
  rcases h.2 with rfl | ⟨b, off, rfl, hb, hc⟩
  · simp at hk
  · refine ⟨b, off, rfl, ?_⟩
    rw [hB.cell (p := ⟨b, off + k, none⟩) hb, hc k hk, List.getElem?_eq_getElem hk]; rfl
theorem down_take (l : List Int) (n : Int) (k : Nat) (h : k < l.length) : ofN 0 ((l.map (fun x => x - n)).take (k + 1)) = withN (ofN 0 ((l.map (fun x => x - n)).take k)) (l[k] - n) := by
  rw [ofN_take _ k (by simpa using h)]; simp
set_option maxHeartbeats 1000000 in
theorem refDown_any (m : Nat) (hm : m < 2 ^ 64) (n : Int) (w : World) :
    Calls Try.prog 34 #[.int .u64 (m : Int), .int .i64 n] w fun e w' => e = .returned (.int .u64 (downN m n : Int)) ∧ Below w.heap.size w w' := by
  by_cases h : n < 1
  · go_enter Try.func34, Try.ntmps34
    go_wp2
    go_ret
    exact ⟨ret_int (by unfold downN; rw [if_pos h]), Below.refl _ _⟩
  · by_cases h63 : 63 < n
    · have HZ := hide (down_far hm n h63)
      go_enter Try.func34, Try.ntmps34
      go_wp2
      go_ret
      exact ⟨ret_int (by rw [HZ.out]; rfl), Below.refl _ _⟩
    · have HD := hide (down_set hm n (by omega) (by omega))
      have hl64 := setUp_len m 64
      have c := refList_any m hm w
      go_enter Try.func34, Try.ntmps34
      go_wp2_with (go_at_call 37; refine c.mono ?_; rintro e w1 ⟨v, rfl, hrow, hb1⟩; obtain ⟨va, vcap, rfl, hr⟩ := own_set hrow (by exact hl64))
      have hll : (setN m).length = (ints (setN m)).length := (ints_length _).symm
      have hl64' : (ints (setN m)).length ≤ 64 := by rw [ints_length]; exact hl64
      rw [hll] at *
      have hin : ∀ x ∈ ints (setN m), 0 ≤ x ∧ x < 64 := by
        intro x hx
        unfold ints at hx
        obtain ⟨y, hy, rfl⟩ := List.mem_map.1 hx
        have := (mem_setN.1 hy).1
        simp; omega
      clear hll hrow c
      generalize ints (setN m) = zs at *
      go_loopw [6, 7] (fun mv kv wr => ∃ k q : Nat, k ≤ zs.length ∧ kv = .int .i64 (k : Int) ∧ mv = .int .u64 (q : Int) ∧ q < 2 ^ 64 ∧ Hid (q = ofN 0 ((zs.map (fun x => x - n)).take k)) ∧ Below w1.heap.size w1 wr) (fun _ kv _ => zs.length - (intOf kv).toNat)
      case atStart => exact ⟨0, 0, by omega, rfl, rfl, by decide, hide rfl, Below.refl _ _⟩
      case round =>
        obtain ⟨k, q, hk, rfl, rfl, hq, HQ, hB⟩ := hrel
        by_cases hlt : k < zs.length
        · have HS := hide (down_take zs n k hlt)
          obtain ⟨b, off, rfl, hcx⟩ := rowI_cell hr hB hlt
          have hkl : (k : Int) < zs.length := by omega
          have hx := hin _ (List.getElem_mem hlt)
          generalize zs[k] = x at *
          have cw := refWith_any q hq (x - n)
          have hq2 := withN_lt hq (x - n)
          have HS2 : Hid (withN q (x - n) = ofN 0 ((zs.map (fun x => x - n)).take (k + 1))) := hide (by rw [HS.out, HQ.out])
          generalize withN q (x - n) = q2 at *
          go_wp2_with (go_at_call 32; refine (cw _).mono ?_; rintro e w1 ⟨rfl, hx⟩; obtain rfl := hx.symm; clear hx)
          go_roundw
          case rel => exact ⟨k + 1, q2, by omega, by go_num, rfl, hq2, HS2, hB⟩
          case measure => simp [intOf]; omega
        · obtain rfl : k = zs.length := by omega
          have HT : Hid (ofN 0 ((zs.map (fun x => x - n)).take zs.length) = downN m n) := hide (by rw [List.take_of_length_le (by simp)]; exact HD.out)
          go_wp2_with fail
          go_ret
          exact ⟨ret_int (by rw [HQ.out, HT.out]), hb1.trans (hB.mono hb1.size)⟩
end Go.Proofs.Ytnjlamcpfclgaaa
