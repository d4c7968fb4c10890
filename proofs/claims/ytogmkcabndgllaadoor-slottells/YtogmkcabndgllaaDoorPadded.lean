/- the document's padded: whole blocks -/
import Derived.Test.YtogmkcabndgllaaDoorOwn
import Derived.Test.YtogmkcabndgllaaDoorEnd
import Derived.WalkLawsBesides
namespace Go.Proofs.YtogmkcabndgllaaDoor
open Go.RowKit
open Sha
theorem byte_src (w : World) (z : Int) : Src Tryd.prog 1 80 (.slice (some ⟨w.heap.size, 0, none⟩) 1 1) 1 (v8 [z]) (w.alloc (.cells #[.int .u8 z] 5)) :=
  Src.ofSlice _ Tryd.underlying80 ⟨w.heap.size, 0, none⟩ 1 1 (v8 [z]) (by simp) (fun j u hu => by rw [Addr.add_mid]; exact range_new w #[.int .u8 z] 5 j u hu) (v8_one _)
theorem own_val {w : World} {B : Nat} {v : Value} {n : Nat} {xs : List Value} (h : w.ownsRow B 5 1 v n xs) : ∃ a cap, v = .slice a n cap := by
  rcases own_range h with ⟨rfl, rfl, _⟩ | ⟨g, cap, rfl, _⟩
  · exact ⟨none, 0, rfl⟩
  · exact ⟨_, cap, rfl⟩
def padL (zs : List Int) (k : Nat) : List Int := zs ++ 128 :: List.replicate k 0
theorem padL_succ (zs : List Int) (k : Nat) : padL zs (k + 1) = padL zs k ++ [0] := by
  unfold padL; rw [List.replicate_succ', List.append_assoc]; rfl
set_option maxRecDepth 20000 in
set_option maxHeartbeats 1000000 in
theorem padded_any (a : Option Addr) (cap : Nat) (zs : List Int) (w : World) (h : RowAt w a zs) (hm : zs.length ≤ 1000000) :
   Calls Tryd.prog 37 #[.slice a zs.length cap] w fun e w' => ∃ v, e = .returned v ∧ w'.ownsRow w.heap.size 5 1 v (zs ++ Sha.tail zs.length).length (v8 (zs ++ Sha.tail zs.length)) ∧ Below w.heap.size w w' := by
  obtain ⟨i0, hi, hz0, hz1, hz2⟩ := info_parts info8
  obtain ⟨n, hn⟩ : ∃ n, Hid (zs.length = n) := ⟨_, rfl⟩
  obtain ⟨Z, hZ⟩ : ∃ Z, Hid (Z = (119 - n % 64) % 64) := ⟨_, rfl⟩
  have hZ64 : Z < 64 := by rw [hZ.out]; omega
  have hB0 : Below w.heap.size w (w.alloc (.cells #[] 5)) := (Below.refl _ _).alloc (Nat.le_refl _) _
  have hown0 : (w.alloc (.cells #[] 5)).ownsRow w.heap.size 5 1 (.slice (some ⟨w.heap.size, 0, none⟩) 0 0) 0 [] := World.ownsRow_made w #[] 0 (Nat.le_refl _) (by simp) (by simp)
  have hsrc := (h.below hB0).src cap
  go_enter Tryd.func37, Tryd.ntmps37
  go_wp2_with (at_builtin; refine wpList_append_own_src _ rfl _ _ 80 80 rfl w.heap.size 5 i0 (.int .u8 0) 1 1 Tryd.underlying80 hi hz0 hz1 hz2 rfl _ 0 _ rfl hown0 _ zs.length _ rfl hsrc ?c1 ?c2 ?c3 ?_)
  case c1 => unfold maxLen; omega
  case c2 => omega
  case c3 => simp
  intro v1 w1 hown1 hgr1
  have hB1 := below_grown hB0 hB0.size hown0 hgr1
  clear hown0 hB0 hsrc hgr1
  have hown2 := owns_below hown1 ((Below.refl w1.heap.size w1).alloc (Nat.le_refl _) (.cells #[.int .u8 128] 5))
  have hB2 : Below w.heap.size w (w1.alloc (.cells #[.int .u8 128] 5)) := hB1.alloc hB1.size _
  have hsrc2 := byte_src w1 128
  go_wp2_with (at_builtin; refine wpList_append_own_src _ rfl _ _ 80 80 rfl w.heap.size 5 i0 (.int .u8 0) 1 1 Tryd.underlying80 hi hz0 hz1 hz2 rfl _ zs.length _ rfl hown2 _ 1 _ rfl hsrc2 ?c1 ?c2 ?c3 ?_)
  case c1 => unfold maxLen; omega
  case c2 => omega
  case c3 => have := hB1.size; simp; omega
  intro v3 w3 hown3 hgr3
  have hB3 := below_grown hB2 hB2.size hown2 hgr3
  clear hown2 hB2 hsrc2 hgr3 hown1 hB1
  go_wp2_with fail
  go_loopw [3] (fun v wr => ∃ k : Nat, k ≤ Z ∧ wr.ownsRow w.heap.size 5 1 v (zs.length + 1 + k) (v8 (padL zs k)) ∧ Below w.heap.size w wr) (fun v _ => zs.length + 1 + Z - lenV v)
  case atStart => exact ⟨0, by omega, by simpa [v8, padL] using hown3, hB3⟩
  case round =>
    clear hown3 hB3
    obtain ⟨k, hk, hown, hB⟩ := hrel
    obtain ⟨av, cv, rfl⟩ := own_val hown
    by_cases hlt : k < Z
    · have hmod : ¬ ((zs.length : Int) + 1 + k) % 64 = 56 := by
        have := hZ.out; have := hn.out; omega
      have hmod2 : ¬ (zs.length + 1 + k) % 64 = 56 := by omega
      have hown2 := owns_below hown ((Below.refl wr.heap.size wr).alloc (Nat.le_refl _) (.cells #[.int .u8 0] 5))
      have hB2 : Below w.heap.size w (wr.alloc (.cells #[.int .u8 0] 5)) := hB.alloc hB.size _
      have hsrc2 := byte_src wr 0
      obtain ⟨m, hmm⟩ : ∃ m, Hid (zs.length + 1 + k = m) := ⟨_, rfl⟩
      have hm2 : m ≤ 2000000 := by rw [← hmm.out]; omega
      have hmod3 : ¬ (m : Int) % 64 = 56 := by rw [← hmm.out]; omega
      rw [hmm.out] at hown2 ⊢
      clear hmod hmod2
      go_wp2_with (at_builtin; refine wpList_append_own_src _ rfl _ _ 80 80 rfl w.heap.size 5 i0 (.int .u8 0) 1 1 Tryd.underlying80 hi hz0 hz1 hz2 rfl _ m _ rfl hown2 _ 1 _ rfl hsrc2 ?c1 ?c2 ?c3 ?_)
      case c1 => unfold maxLen; omega
      case c2 => omega
      case c3 => have := hB.size; simp; omega
      intro v4 w4 hown4 hgr4
      have hB4 := below_grown hB2 hB2.size hown2 hgr4
      clear hown2 hB2 hsrc2 hgr4 hown
      obtain ⟨av4, cv4, rfl⟩ := own_val hown4
      go_wp2_with fail
      go_roundw
      case rel =>
        refine ⟨k + 1, by omega, ?_, hB4⟩
        have e1 : zs.length + 1 + (k + 1) = m + 1 := by rw [← hmm.out]; omega
        have e2 : v8 (padL zs (k + 1)) = v8 (padL zs k) ++ v8 [0] := by
          rw [← v8_append, padL_succ]
        rw [e1, e2]
        exact hown4
      case measure => have := hmm.out; simp [lenV]; omega
    · obtain rfl : k = Z := by omega
      have hmod : ((zs.length : Int) + 1 + k) % 64 = 56 := by
        have := hZ.out; have := hn.out; omega
      obtain ⟨m, hmm⟩ : ∃ m, Hid (zs.length + 1 + k = m) := ⟨_, rfl⟩
      have hm2 : m ≤ 2000000 := by rw [← hmm.out]; omega
      have hmod3 : (m : Int) % 64 = 56 := by rw [← hmm.out]; omega
      have hownM : wr.ownsRow w.heap.size 5 1 (.slice av (zs.length + 1 + k) cv) (zs.length + 1 + k + 0) (v8 ((padL zs k) ++ (size8 (8 * n)).take 0)) := by simpa using hown
      rw [hmm.out] at hownM ⊢
      clear hmod hown
      have hnl : (zs.length : Int) = (n : Int) := by rw [hn.out]
      have hn6 : n ≤ 1000000 := by rw [← hn.out]; exact hm
      go_wp2_with fail
      clear hmod3 hnl
      go_loopw [3, 5] (fun v i wr => ∃ k' : Nat, k' ≤ 8 ∧ i = .int .i64 (7 - (k' : Int)) ∧ wr.ownsRow w.heap.size 5 1 v (m + k') (v8 ((padL zs k) ++ (size8 (8 * n)).take k')) ∧ Below w.heap.size w wr) (fun _ i _ => (intOf i + 1).toNat)
      case atStart => exact ⟨0, by omega, rfl, hownM, hB⟩
      case round =>
        clear hownM hB
        obtain ⟨j, hj, rfl, hown, hB⟩ := hrel
        obtain ⟨av2, cv2, rfl⟩ := own_val hown
        by_cases hl8 : j < 8
        · have hge : (0 : Int) ≤ 7 - (j : Int) := by omega
          obtain ⟨z, hzz⟩ : ∃ z, Hid (s8at (8 * n) j = z) := ⟨_, rfl⟩
          have hown2 := owns_below hown ((Below.refl wr.heap.size wr).alloc (Nat.le_refl _) (.cells #[.int .u8 z] 5))
          have hB2 : Below w.heap.size w (wr.alloc (.cells #[.int .u8 z] 5)) := hB.alloc hB.size _
          have hsrc2 := byte_src wr z
          have esh : 8 * (n : Int) / 2 ^ (8 * (7 - j)) % 256 = z := by
            rw [← hzz.out, show 8 * (7 - j) = 56 - 8 * j by omega]
            exact shift8 n j
          go_wp2_with (at_builtin; refine wpList_append_own_src _ rfl _ _ 80 80 rfl w.heap.size 5 i0 (.int .u8 0) 1 1 Tryd.underlying80 hi hz0 hz1 hz2 rfl _ (m + j) _ rfl hown2 _ 1 _ rfl hsrc2 ?c1 ?c2 ?c3 ?_)
          case c1 => unfold maxLen; omega
          case c2 => omega
          case c3 => have := hB.size; simp; omega
          intro v4 w4 hown4 hgr4
          have hB4 := below_grown hB2 hB2.size hown2 hgr4
          clear hown2 hB2 hsrc2 hgr4 hown esh
          go_wp2_with fail
          go_roundw
          case rel =>
            refine ⟨j + 1, by omega, by go_num, ?_, hB4⟩
            have e2 : v8 ((padL zs k) ++ (size8 (8 * n)).take (j + 1)) = v8 ((padL zs k) ++ (size8 (8 * n)).take j) ++ v8 [z] := by
              rw [← v8_append, size8_take _ _ hl8, hzz.out, List.append_assoc]
            rw [e2]
            exact hown4
          case measure => simp [intOf]; omega
        · have hge : ¬ (0 : Int) ≤ 7 - (j : Int) := by omega
          have hj8 : j = 8 := by omega
          have hfin : wr.ownsRow w.heap.size 5 1 (.slice av2 (m + j) cv2) (zs ++ Sha.tail zs.length).length (v8 (zs ++ Sha.tail zs.length)) := by
            have e : padL zs k ++ (size8 (8 * n)).take j = zs ++ Sha.tail zs.length := by
              unfold padL Sha.tail
              rw [hn.out, hj8, List.take_of_length_le (by rw [size8_length]; omega), hZ.out, List.append_assoc]
              rfl
            have el : m + j = (zs ++ Sha.tail zs.length).length := by
              rw [List.length_append, tail_length, hn.out, ← hmm.out, hj8, hZ.out, hn.out]; omega
            rw [← el, ← e]
            exact hown
          clear hown hj8
          go_wp2_with fail
          go_ret
          exact ⟨_, rfl, by simpa using hfin, hB⟩
end Go.Proofs.YtogmkcabndgllaaDoor
