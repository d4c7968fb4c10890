/- tally.roomBehind and Put. -/
import Derived.Test.YtogmkcabndgllaaDoorTWidth
namespace Go.Proofs.YtogmkcabndgllaaDoor
open Go.RowKit
open Tal
/-- bytes of the call's own, from block B on -/
def Mine (w : World) (B : Nat) (v : Value) (zs : List Int) : Prop := w.ownsRow B 5 1 v zs.length (zs.map (Value.int .u8)) ∧ ∀ z ∈ zs, 0 ≤ z ∧ z < 256
theorem Mine.below {w w' : World} {B : Nat} {v : Value} {zs : List Int} (h : Mine w B v zs) (hb : Below w.heap.size w w') : Mine w' B v zs := by
  refine ⟨⟨h.1.1, ?_⟩, h.2⟩
  rcases h.1.2 with h | ⟨g, cap, cur, hv, hg, hh, r⟩
  · exact .inl h
  · exact .inr ⟨g, cap, cur, hv, hg, by rw [hb.block g (Array.getElem?_eq_some_iff.1 hh).1]; exact hh, r⟩
theorem Mine.rowAt {w : World} {B : Nat} {v : Value} {zs : List Int} (h : Mine w B v zs) (hm : zs.length ≤ maxLen) : ∃ a cap, v = .slice a zs.length cap ∧ zs.length ≤ cap ∧ cap ≤ maxLen ∧ RowAt w a zs :=
  own_bytes h.1 h.2 hm

set_option maxRecDepth 20000 in
set_option maxHeartbeats 800000 in
theorem room_any (a : Option Addr) (cap : Nat) (zs : List Int) (more : Nat) (w : World) (h : RowAt w a zs) (hm : zs.length + more ≤ 1099511627776) :
    Calls Tryd.prog 53 #[.slice a zs.length cap, .int .i64 (more : Int)] w fun e w' => ∃ v, e = .returned v ∧ Mine w' w.heap.size v zs ∧ Below w.heap.size w w' := by
  obtain ⟨i0, hi, hz0, hz1, hz2⟩ := info_parts info8
  go_enter Tryd.func53, Tryd.ntmps53
  go_wp2_with (first
    | refine wpList_make_own _ rfl _ _ 80 rfl w.heap.size 5 i0 (.int .u8 0) 1 Tryd.underlying80 hi hz0 hz1 .i64 .i64 _ (zs.length + more) rfl rfl ?d1 ?d2 ?d3 ?d4 ?_)
  case d1 => omega
  case d2 => rw [hz2]; omega
  case d3 => unfold maxLen; omega
  case d4 => exact Nat.le_refl _
  intro w1 hown hgrow
  have hb1 : Below w.heap.size w w1 := (Below.refl _ _).grown hgrow (Nat.le_refl _) (fun k hk => by cases hk)
  go_wp2_with (at_builtin; refine wpList_append_own_src _ rfl _ _ 80 80 rfl w.heap.size 5 i0 (.int .u8 0) 1 1 Tryd.underlying80 hi hz0 hz1 hz2 rfl _ 0 [] rfl hown (.slice a zs.length cap) zs.length (zs.map (Value.int .u8)) rfl ((h.below hb1).src cap) ?c1 ?c2 ?c3 ?_)
  case c1 => unfold maxLen; omega
  case c2 => omega
  case c3 => exact hb1.size
  intro v' w2 hown2 hgrow2
  have hb2 := below_grown hb1 hb1.size hown hgrow2
  go_wp2
  go_ret
  exact ⟨_, rfl, ⟨by simpa using hown2, h.2.1⟩, hb2⟩

theorem Mine.mk' {w : World} {B m : Nat} {v : Value} {xs : List Value} (L : List Int) (h : w.ownsRow B 5 1 v m xs) (hm : m = L.length) (hx : xs = L.map (Value.int .u8)) (hb : ∀ z ∈ L, 0 ≤ z ∧ z < 256) : Mine w B v L := by
  subst hm; subst hx; exact ⟨h, hb⟩
theorem dig_shift (n : Int) (K k : Nat) (h0 : 0 ≤ n) (hK : wid n.toNat = K) (hk : k < K) : n / 2 ^ (8 * (K - 1 - k)) % 256 = (digs n.toNat).getD k 0 := by
  unfold digs
  rw [hK, digK_get K n.toNat k hk]
  obtain ⟨m, rfl⟩ := Int.eq_ofNat_of_zero_le h0
  simp only [Int.toNat_natCast]
  have e : ((2 : Int) ^ (8 * (K - 1 - k))) = ((256 ^ (K - 1 - k) : Nat) : Int) := by
    rw [Int.natCast_pow, Int.pow_mul]; rfl
  rw [e, Int.natCast_emod, Int.natCast_ediv]
  rfl
theorem b1_src (w : World) (b : Int) : Src Tryd.prog 1 80 (.slice (some ⟨w.heap.size, 0, none⟩) 1 1) 1 [.int .u8 b] (w.alloc (.cells #[.int .u8 b] 5)) := by
  refine Src.ofSlice _ Tryd.underlying80 ⟨w.heap.size, 0, none⟩ 1 1 [.int .u8 b] rfl (fun j u hu => ?_) (fun u hu => ?_)
  · match j, hu with
    | 0, hu =>
      simp at hu; subst hu
      show (w.alloc (.cells #[.int .u8 b] 5)).cell? ⟨w.heap.size, 0, none⟩ = _
      rw [World.cell?_alloc_at _ _ _ _ rfl]; rfl
  · simp at hu; subst hu; rfl

set_option maxRecDepth 20000 in
set_option maxHeartbeats 800000 in
theorem put_any (a : Option Addr) (cap : Nat) (zs : List Int) (n : Int) (w : World) (h : RowAt w a zs) (hm : zs.length ≤ 549755813888) (hn : n ≤ 9223372036854775807) :
    Calls Tryd.prog 44 #[.slice a zs.length cap, .int .i64 n] w fun e w' => ∃ v, e = .returned v ∧ Mine w' w.heap.size v (zs ++ putL n) ∧ Below w.heap.size w w' := by
  obtain ⟨i0, hi, hz0, hz1, hz2⟩ := info_parts info8
  have hpl := putL_length n (by omega)
  by_cases h0 : n < 0
  · have HP : Hid (putL n = []) := by show _ = _; simp [putL, h0]
    go_enter Tryd.func44, Tryd.ntmps44
    go_wp2_with fail
    refine (size_any n _ hn).mono ?_
    rintro e w1 ⟨rfl, rfl⟩
    go_wp2_with fail
    refine (room_any a cap zs _ w1 h (by omega)).mono ?_
    rintro e w2 ⟨v, rfl, hmine, hb⟩
    go_wp2
    go_ret
    rw [HP.out, List.append_nil]
    exact ⟨_, rfl, hmine, hb⟩
  · have hw := wid_le n.toNat (by omega)
    have HP : Hid (putL n = (wid n.toNat : Int) :: digs n.toNat) := by show _ = _; simp [putL, h0, numB]
    go_enter Tryd.func44, Tryd.ntmps44
    go_wp2_with fail
    refine (size_any n _ hn).mono ?_
    rintro e w1 ⟨rfl, rfl⟩
    go_wp2_with fail
    refine (room_any a cap zs _ w1 h (by omega)).mono ?_
    rintro e w2 ⟨v, rfl, hmine, hb⟩
    clear hpl
    go_wp2_with fail
    refine (width_any n _ (by omega) hn).mono ?_
    rintro e w3 ⟨rfl, rfl⟩
    generalize hK : wid n.toNat = K at hw HP
    go_wp2_with (at_builtin; refine wpList_append_own_src _ rfl _ _ 80 80 rfl w1.heap.size 5 i0 (.int .u8 0) 1 1 Tryd.underlying80 hi hz0 hz1 hz2 rfl _ zs.length _ rfl (hmine.1.alloc _) _ 1 _ rfl (b1_src _ _) ?c1 ?c2 ?c3 ?_)
    case c1 => unfold maxLen; omega
    case c2 => omega
    case c3 => have := hb.size; simp; omega
    intro v2 w4 hown2 hgrow2
    have HK : Hid (wid n.toNat = K) := hK
    have hb4 : Below w1.heap.size w1 w4 := below_grown (hb.alloc hb.size _) (by have := hb.size; simp; omega) (hmine.1.alloc (.cells #[.int .u8 (K : Int)] 5)) hgrow2
    have hM4 : Mine w4 w1.heap.size v2 (zs ++ (K : Int) :: (digs n.toNat).take 0) := by
      refine ⟨by simpa using hown2, fun z hz => ?_⟩
      simp only [List.take_zero, List.mem_append, List.mem_singleton] at hz
      rcases hz with hz | rfl
      · exact hmine.2 z hz
      · omega
    clear hown2 hgrow2 hmine hK
    go_wp2_with fail
    go_loopw [5, 23] (fun o i wr => ∃ k : Nat, k ≤ K ∧ i = .int .i64 k ∧ Mine wr w1.heap.size o (zs ++ (K : Int) :: (digs n.toNat).take k) ∧ Below w1.heap.size w1 wr) (fun _ i _ => K - (intOf i).toNat)
    case atStart => exact ⟨0, by omega, rfl, hM4, hb4⟩
    case round =>
      obtain ⟨k, hk, rfl, hmi, hbr⟩ := hrel
      by_cases hlt : k < K
      · go_wp2_with (at_builtin; refine wpList_append_own_src _ rfl _ _ 80 80 rfl w1.heap.size 5 i0 (.int .u8 0) 1 1 Tryd.underlying80 hi hz0 hz1 hz2 rfl _ _ _ rfl (hmi.1.alloc _) _ 1 _ rfl (b1_src _ _) ?c1 ?c2 ?c3 ?_)
        case c1 => simp only [List.length_append, List.length_cons, List.length_take, digs_length]; unfold maxLen; omega
        case c2 => simp only [List.length_append, List.length_cons, List.length_take, digs_length]; omega
        case c3 => have := hbr.size; simp; omega
        intro v5 w5 hown5 hgrow5
        have hb5 : Below w1.heap.size w1 w5 := below_grown (hbr.alloc hbr.size _) (by have := hbr.size; simp; omega) (hmi.1.alloc (.cells #[.int .u8 (n / 2 ^ (8 * (K - 1 - k)) % 256)] 5)) hgrow5
        have hM5 : Mine w5 w1.heap.size v5 (zs ++ (K : Int) :: (digs n.toNat).take (k + 1)) := by
          have hkd : k < (digs n.toNat).length := by rw [digs_length, HK.out]; exact hlt
          have ed := dig_shift n K k h0 HK.out hlt
          have et : (digs n.toNat).take (k + 1) = (digs n.toNat).take k ++ [n / 2 ^ (8 * (K - 1 - k)) % 256] := by
            rw [ed, List.take_succ_eq_append_getElem hkd, List.getD_eq_getElem?_getD, List.getElem?_eq_getElem hkd]; rfl
          refine Mine.mk' _ hown5 ?_ ?_ (fun z hz => ?_)
          · simp only [List.length_append, List.length_cons, List.length_take]; omega
          · rw [et]; simp
          · simp only [List.mem_append, List.mem_cons] at hz
            rcases hz with hz | rfl | hz
            · exact h.2.1 z hz
            · omega
            · exact digs_byte _ z (List.mem_of_mem_take hz)
        clear hown5 hgrow5 hmi
        go_wp2_with fail
        go_roundw
        case rel => exact ⟨k + 1, by omega, by go_num, hM5, hb5⟩
        case measure => simp [intOf]; omega
      · obtain rfl : k = K := by omega
        have e : zs ++ putL n = zs ++ (k : Int) :: (digs n.toNat).take k := by
          rw [HP.out, List.take_of_length_le (by rw [digs_length, HK.out]; exact Nat.le_refl _)]
        go_wp2_with fail
        go_ret
        rw [e]
        exact ⟨_, rfl, hmi, hbr⟩
end Go.Proofs.YtogmkcabndgllaaDoor
