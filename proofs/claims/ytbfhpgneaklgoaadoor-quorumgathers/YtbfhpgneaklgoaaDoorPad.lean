/- the document's pad: a key's block, each byte xored -/
import Derived.Test.YtbfhpgneaklgoaaDoorMac
import Derived.Test.YtbfhpgneaklgoaaDoorRefSum
import Derived.Test.YtbfhpgneaklgoaaDoorBytes
namespace Go.Proofs.YtbfhpgneaklgoaaDoor
open Go.RowKit
open Sha
set_option maxRecDepth 20000 in
set_option maxHeartbeats 2000000 in
theorem pad_any (ka : Option Addr) (kc : Nat) (key : List Int) (x : Int) (w : World) (hk : RowAt w ka key) (hkl : key.length ≤ 1000000) :
   Calls Tryd.prog 58 #[.slice ka key.length kc, .int .u8 x] w fun e w' => ∃ v, e = .returned v ∧ w'.ownsRow w.heap.size 5 1 v 64 (v8 (xorL x (macBlock key))) ∧ Below w.heap.size w w' := by
  obtain ⟨i0, hi, hz0, hz1, hz2⟩ := info_parts info8
  obtain ⟨kb, HB⟩ : ∃ kb, Hid (macBlock key = kb) := ⟨_, rfl⟩
  have HL : Hid (kb.length = 64) := by show _ = _; rw [← HB.out]; exact macBlock_len key
  rw [HB.out]
  by_cases hlong : 64 < key.length
  · have hlI : (64 : Int) < key.length := by omega
    have ek : macKey key = sha key := by unfold macKey; rw [if_pos hlong]
    have HKB0 : Hid (sha key ++ List.replicate (64 - (sha key).length) 0 = kb) := by show _ = _; rw [← HB.out]; unfold macBlock; rw [ek]
    have c1 := refSum_any ka kc key w hk hkl
    obtain ⟨ks, hks0⟩ : ∃ ks, Hid (sha key = ks) := ⟨_, rfl⟩
    have hkl' : ks.length = 32 := by rw [← hks0.out]; exact sha_length _
    have hko : ∀ z ∈ ks, 0 ≤ z ∧ z < 256 := by rw [← hks0.out]; exact sha_ok _
    rw [hks0.out] at c1 HKB0
    have HKB := HKB0
    clear hks0 ek HKB0 HB
    go_enter Tryd.func58, Tryd.ntmps58
    go_wp2_with fail
    refine c1.mono ?_
    rintro e w0 ⟨rfl, hw0⟩
    clear c1
    go_wp2_with fail
    refine (bytes_any ks w0 hkl').mono ?_
    rintro e w1 ⟨v1, rfl, hown1, hw1⟩
    obtain ⟨ka, kc, rfl, hc1, hc2, hrow⟩ := own_bytes hown1 hko (by rw [hkl']; unfold maxLen; omega)
    have hBw : Below w.heap.size w w1 := hw0.trans (hw1.mono hw0.size)
    clear hown1 hw1 hw0
    have hk32 : ks.length ≤ 64 := by omega
    clear hkl' hk
    have hsz1 : (w1.heap.size : Nat) = w1.heap.size := rfl
    go_wp2_with fail
    go_loopw [5, 6] (fun v i wr => ∃ k : Nat, k ≤ 64 ∧ i = .int .i64 (k : Int) ∧ wr.ownsRow w1.heap.size 5 1 v k (v8 ((xorL x kb).take k)) ∧ Below w1.heap.size w1 wr) (fun _ i _ => 64 - (intOf i).toNat)
    case atStart => exact ⟨0, by omega, rfl, by simpa [v8] using World.ownsRow_nil w1 w1.heap.size 5 1, Below.refl _ _⟩
    case round =>
      obtain ⟨k, hk, rfl, hown, hB⟩ := hrel
      by_cases hlt : k < 64
      · have hsz := hB.size
        obtain ⟨z, hz⟩ : ∃ z, Hid (kb.getD k 0 = z) := ⟨_, rfl⟩
        have HE : Hid (bits .xor .u8 z x = xorB x z) := rfl
        have hown2 := owns_below hown ((Below.refl wr.heap.size wr).alloc (Nat.le_refl _) (.cells #[.int .u8 (xorB x z)] 5))
        have hB2 : Below w1.heap.size w1 (wr.alloc (.cells #[.int .u8 (xorB x z)] 5)) := hB.alloc (by omega) _
        have hsrc2 := byte_src wr (xorB x z)
        have hfin : Hid ((xorL x kb).take (k + 1) = (xorL x kb).take k ++ [xorB x z]) := by
          show _ = _
          have hl : k < (xorL x kb).length := by rw [xorL_len, HL.out]; exact hlt
          have hl' : k < kb.length := by rw [HL.out]; exact hlt
          rw [List.take_succ_eq_append_getElem hl]
          congr 2
          simp only [xorL, List.getElem_map]
          rw [← hz.out, List.getD_eq_getElem?_getD, List.getElem?_eq_getElem hl']; rfl
        rw [← HE.out] at hown2 hB2 hsrc2
        by_cases hks : k < ks.length
        · obtain ⟨b, off, rfl, hbs, hrg⟩ : ∃ b off, ka = some ⟨b, off, none⟩ ∧ b < w1.heap.size ∧ w1.rangeAt b off (v8 ks) := by
            rcases hrow.2.2 with rfl | q
            · simp at hks
            · exact q
          have hc : wr.cell? ⟨b, off + k, none⟩ = some (.int .u8 z) := by
            have := get8 (range_below hrg hB hbs) (i := k) hks
            have e : ks.getD k 0 = z := by
              rw [← hz.out, ← HKB.out, List.getD_eq_getElem?_getD, List.getD_eq_getElem?_getD, List.getElem?_append_left hks]
            rwa [e] at this
          go_wp2_with (at_builtin; refine wpList_append_own_src _ rfl _ _ 51 51 rfl w1.heap.size 5 i0 (.int .u8 0) 1 1 Tryd.underlying51 hi hz0 hz1 hz2 rfl _ k _ rfl hown2 _ 1 _ rfl hsrc2 ?c1 ?c2 ?c3 ?_)
          case c1 => unfold maxLen; omega
          case c2 => omega
          case c3 => simp; omega
          intro v4 w4 hown4 hgr4
          have hB4 := below_grown hB2 (by simp; omega) hown2 hgr4
          clear hown2 hB2 hsrc2 hgr4 hown
          go_wp2_with fail
          go_roundw
          case rel =>
            refine ⟨k + 1, by omega, by go_num, ?_, hB4⟩
            rw [hfin.out, v8_append, ← HE.out]; exact hown4
          case measure => simp [intOf]; omega
        · have hzz : z = 0 := by
            rw [← hz.out, ← HKB.out, List.getD_eq_getElem?_getD, List.getElem?_append_right (by omega), List.getElem?_replicate]
            split <;> rfl
          subst hzz
          go_wp2_with (at_builtin; refine wpList_append_own_src _ rfl _ _ 51 51 rfl w1.heap.size 5 i0 (.int .u8 0) 1 1 Tryd.underlying51 hi hz0 hz1 hz2 rfl _ k _ rfl hown2 _ 1 _ rfl hsrc2 ?e1 ?e2 ?e3 ?_)
          case e1 => unfold maxLen; omega
          case e2 => omega
          case e3 => simp; omega
          intro v4 w4 hown4 hgr4
          have hB4 := below_grown hB2 (by simp; omega) hown2 hgr4
          clear hown2 hB2 hsrc2 hgr4 hown
          go_wp2_with fail
          go_roundw
          case rel =>
            refine ⟨k + 1, by omega, by go_num, ?_, hB4⟩
            rw [hfin.out, v8_append, ← HE.out]; exact hown4
          case measure => simp [intOf]; omega
      · have hk64 : k = 64 := by omega
        subst hk64
        have hall : Hid ((xorL x kb).take 64 = xorL x kb) := by
          show _ = _
          rw [List.take_of_length_le (by rw [xorL_len, HL.out]; omega)]
        rw [hall.out] at hown
        go_wp2
        go_ret
        exact ⟨_, rfl, owns_mono hown hBw.size, hBw.trans (hB.mono hBw.size)⟩
  · have hlI : ¬ (64 : Int) < key.length := by omega
    have ek : macKey key = key := by unfold macKey; rw [if_neg hlong]
    have HKB : Hid (key ++ List.replicate (64 - key.length) 0 = kb) := by show _ = _; rw [← HB.out]; unfold macBlock; rw [ek]
    have hrow := hk
    have hBw := Below.refl w.heap.size w
    clear HB ek
    go_enter Tryd.func58, Tryd.ntmps58
    have hsz1 : (w.heap.size : Nat) = w.heap.size := rfl
    go_wp2_with fail
    go_loopw [5, 6] (fun v i wr => ∃ k : Nat, k ≤ 64 ∧ i = .int .i64 (k : Int) ∧ wr.ownsRow w.heap.size 5 1 v k (v8 ((xorL x kb).take k)) ∧ Below w.heap.size w wr) (fun _ i _ => 64 - (intOf i).toNat)
    case atStart => exact ⟨0, by omega, rfl, by simpa [v8] using World.ownsRow_nil w w.heap.size 5 1, Below.refl _ _⟩
    case round =>
      obtain ⟨k, hk, rfl, hown, hB⟩ := hrel
      by_cases hlt : k < 64
      · have hsz := hB.size
        obtain ⟨z, hz⟩ : ∃ z, Hid (kb.getD k 0 = z) := ⟨_, rfl⟩
        have HE : Hid (bits .xor .u8 z x = xorB x z) := rfl
        have hown2 := owns_below hown ((Below.refl wr.heap.size wr).alloc (Nat.le_refl _) (.cells #[.int .u8 (xorB x z)] 5))
        have hB2 : Below w.heap.size w (wr.alloc (.cells #[.int .u8 (xorB x z)] 5)) := hB.alloc (by omega) _
        have hsrc2 := byte_src wr (xorB x z)
        have hfin : Hid ((xorL x kb).take (k + 1) = (xorL x kb).take k ++ [xorB x z]) := by
          show _ = _
          have hl : k < (xorL x kb).length := by rw [xorL_len, HL.out]; exact hlt
          have hl' : k < kb.length := by rw [HL.out]; exact hlt
          rw [List.take_succ_eq_append_getElem hl]
          congr 2
          simp only [xorL, List.getElem_map]
          rw [← hz.out, List.getD_eq_getElem?_getD, List.getElem?_eq_getElem hl']; rfl
        rw [← HE.out] at hown2 hB2 hsrc2
        by_cases hks : k < key.length
        · obtain ⟨b, off, rfl, hbs, hrg⟩ : ∃ b off, ka = some ⟨b, off, none⟩ ∧ b < w.heap.size ∧ w.rangeAt b off (v8 key) := by
            rcases hrow.2.2 with rfl | q
            · simp at hks
            · exact q
          have hc : wr.cell? ⟨b, off + k, none⟩ = some (.int .u8 z) := by
            have := get8 (range_below hrg hB hbs) (i := k) hks
            have e : key.getD k 0 = z := by
              rw [← hz.out, ← HKB.out, List.getD_eq_getElem?_getD, List.getD_eq_getElem?_getD, List.getElem?_append_left hks]
            rwa [e] at this
          go_wp2_with (at_builtin; refine wpList_append_own_src _ rfl _ _ 51 51 rfl w.heap.size 5 i0 (.int .u8 0) 1 1 Tryd.underlying51 hi hz0 hz1 hz2 rfl _ k _ rfl hown2 _ 1 _ rfl hsrc2 ?f1 ?f2 ?f3 ?_)
          case f1 => unfold maxLen; omega
          case f2 => omega
          case f3 => simp; omega
          intro v4 w4 hown4 hgr4
          have hB4 := below_grown hB2 (by simp; omega) hown2 hgr4
          clear hown2 hB2 hsrc2 hgr4 hown
          go_wp2_with fail
          go_roundw
          case rel =>
            refine ⟨k + 1, by omega, by go_num, ?_, hB4⟩
            rw [hfin.out, v8_append, ← HE.out]; exact hown4
          case measure => simp [intOf]; omega
        · have hzz : z = 0 := by
            rw [← hz.out, ← HKB.out, List.getD_eq_getElem?_getD, List.getElem?_append_right (by omega), List.getElem?_replicate]
            split <;> rfl
          subst hzz
          go_wp2_with (at_builtin; refine wpList_append_own_src _ rfl _ _ 51 51 rfl w.heap.size 5 i0 (.int .u8 0) 1 1 Tryd.underlying51 hi hz0 hz1 hz2 rfl _ k _ rfl hown2 _ 1 _ rfl hsrc2 ?g1 ?g2 ?g3 ?_)
          case g1 => unfold maxLen; omega
          case g2 => omega
          case g3 => simp; omega
          intro v4 w4 hown4 hgr4
          have hB4 := below_grown hB2 (by simp; omega) hown2 hgr4
          clear hown2 hB2 hsrc2 hgr4 hown
          go_wp2_with fail
          go_roundw
          case rel =>
            refine ⟨k + 1, by omega, by go_num, ?_, hB4⟩
            rw [hfin.out, v8_append, ← HE.out]; exact hown4
          case measure => simp [intOf]; omega
      · have hk64 : k = 64 := by omega
        subst hk64
        have hall : Hid ((xorL x kb).take 64 = xorL x kb) := by
          show _ = _
          rw [List.take_of_length_le (by rw [xorL_len, HL.out]; omega)]
        rw [hall.out] at hown
        go_wp2
        go_ret
        exact ⟨_, rfl, owns_mono hown hBw.size, hBw.trans (hB.mono hBw.size)⟩
end Go.Proofs.YtbfhpgneaklgoaaDoor
