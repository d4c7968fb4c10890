/- request.Bucket and the document's: contracts -/
import Derived.Test.YtbfcbjjhdadicaaDoorShare6
import Derived.Test.YtbfcbjjhdadicaaDoorTRef
import Derived.Test.YtbfcbjjhdadicaaDoorRefSum
import Derived.Test.YtbfcbjjhdadicaaDoorBase
namespace Go.Proofs.YtbfcbjjhdadicaaDoor
open Go.RowKit
open Sha Tal
theorem hide {p : Prop} (h : p) : Hid p := h
def bucketV (c n k : Int) : Int := if c < 0 ∨ n < 0 then 0 else shareOf (sha (putL c ++ putL n)) k
theorem bucketV_range (c n k : Int) : 0 ≤ bucketV c n k ∧ (k < 1 ∨ bucketV c n k < k) := by
  unfold bucketV
  split
  · by_cases h : k < 1
    · exact ⟨by omega, .inl h⟩
    · exact ⟨by omega, .inr (by omega)⟩
  · by_cases h : k < 1
    · refine ⟨?_, .inl h⟩
      unfold shareOf; rw [if_pos h]; omega
    · have := share_range (sha (putL c ++ putL n)) (sha_ok _) k h
      exact ⟨this.1, .inr this.2⟩
theorem nilRow (w : World) : RowAt w none [] := ⟨by unfold maxLen; simp, by simp, Or.inl rfl⟩
set_option maxRecDepth 100000 in
set_option maxHeartbeats 1000000 in
theorem bucket_any (c n k : Int) (w : World) (hG : Glob w) (hc : c ≤ 9223372036854775807) (hn : n ≤ 9223372036854775807) (hk : (Lit.int .i64 k).wf = true) :
   Calls Tryd.prog 36 #[.int .i64 c, .int .i64 n, .int .i64 k] w fun e w' => e = .returned (.int .i64 (bucketV c n k)) ∧ Below w.heap.size w w' := by
  by_cases h0 : c < 0
  · have HV : Hid (bucketV c n k = 0) := hide (by unfold bucketV; rw [if_pos (.inl h0)])
    go_enter Tryd.func36, Tryd.ntmps36
    go_wp2
    go_ret
    exact ⟨by rw [HV.out]; rfl, Below.refl _ _⟩
  · by_cases h1 : n < 0
    · have HV : Hid (bucketV c n k = 0) := hide (by unfold bucketV; rw [if_pos (.inr h1)])
      go_enter Tryd.func36, Tryd.ntmps36
      go_wp2
      go_ret
      exact ⟨by rw [HV.out]; rfl, Below.refl _ _⟩
    · have HV : Hid (bucketV c n k = shareOf (sha (putL c ++ putL n)) k) := hide (by unfold bucketV; rw [if_neg (by omega)])
      have lc := putL_length c (by omega)
      have ln := putL_length n (by omega)
      have cp := put_any none 0 [] c w (nilRow w) (by simp) hc
      simp only [List.nil_append] at cp
      have hso := sha_ok (putL c ++ putL n)
      have hsl := sha_length (putL c ++ putL n)
      have csh := fun w0 => share_any (sha (putL c ++ putL n)) k w0 hsl hso hk
      have cp2 := fun a cap w0 h0 => put_any a cap (putL c) n w0 h0 (by omega) hn
      have csm := fun (w0 : World) a cap (h0 : RowAt w0 a (putL c ++ putL n)) (hcp : (putL c ++ putL n).length ≤ cap) (hcm : cap ≤ maxLen) hG0 => sum_any (some ⟨w0.heap.size, 0, none⟩) 1 [⟨a, cap, putL c ++ putL n⟩] (w0.alloc (.cells #[.slice a (putL c ++ putL n).length cap] 96)) hG0 (one_part w0 _ ⟨a, cap, putL c ++ putL n⟩ ⟨h0, hcp, hcm⟩ rfl) (by simp [cat]; omega)
      have hcat : ∀ a cap, cat [⟨a, cap, putL c ++ putL n⟩] = putL c ++ putL n := fun a cap => by simp [cat]
      simp only [hcat, List.length_singleton] at csm
      have hll : (putL c ++ putL n).length ≤ 100 := by rw [List.length_append]; omega
      clear hcat hso hsl
      generalize sha (putL c ++ putL n) = dg at *
      obtain ⟨L, hL⟩ : ∃ L, Hid (putL c ++ putL n = L) := ⟨_, hide rfl⟩
      simp only [hL.out] at csm
      simp only [hL.out] at cp2
      rw [hL.out] at hll
      obtain ⟨L1, hL1⟩ : ∃ L1, Hid (putL c = L1) := ⟨_, hide rfl⟩
      simp only [hL1.out] at cp2
      simp only [hL1.out] at cp
      rw [hL1.out] at lc
      clear ln
      go_enter Tryd.func36, Tryd.ntmps36
      go_wp2_with fail
      refine cp.mono ?_
      rintro e w1 ⟨v1, rfl, m1, hw1⟩
      obtain ⟨a1, cap1, rfl, _, _, row1⟩ := m1.rowAt (by unfold maxLen; omega)
      clear cp m1
      go_wp2_with fail
      refine (cp2 a1 cap1 w1 row1).mono ?_
      rintro e w2 ⟨v2, rfl, m2, hw2⟩
      obtain ⟨a2, cap2, rfl, hcl2, hcm2, row2⟩ := m2.rowAt (by unfold maxLen; omega)
      have hB2 := hw1.trans (hw2.mono hw1.size)
      have hB3 : Below w.heap.size w (w2.alloc (.cells #[.slice a2 L.length cap2] 96)) := hB2.alloc hB2.size _
      have cs := csm w2 a2 cap2 row2 hcl2 hcm2 (hG.below hB3)
      clear cp2 m2 row1 hw2 csm row2
      go_wp2_with fail
      refine cs.mono ?_
      rintro e w3 ⟨rfl, hw3⟩
      have hB4 := hB3.trans (hw3.mono hB3.size)
      clear cs
      go_wp2_with fail
      refine (csh w3).mono ?_
      rintro e w4 ⟨rfl, hw4⟩
      go_wp2_with fail
      go_ret
      exact ⟨by rw [HV.out]; rfl, hB4.trans (hw4.mono hB4.size)⟩
set_option maxRecDepth 100000 in
set_option maxHeartbeats 1000000 in
theorem refBucket_any (c n k : Int) (w : World) (hc : c ≤ 9223372036854775807) (hn : n ≤ 9223372036854775807) (hk : (Lit.int .i64 k).wf = true) :
   Calls Tryd.prog 34 #[.int .i64 c, .int .i64 n, .int .i64 k] w fun e w' => e = .returned (.int .i64 (bucketV c n k)) ∧ Below w.heap.size w w' := by
  by_cases h0 : c < 0
  · have HV : Hid (bucketV c n k = 0) := hide (by unfold bucketV; rw [if_pos (.inl h0)])
    go_enter Tryd.func34, Tryd.ntmps34
    go_wp2
    go_ret
    exact ⟨by rw [HV.out]; rfl, Below.refl _ _⟩
  · by_cases h1 : n < 0
    · have HV : Hid (bucketV c n k = 0) := hide (by unfold bucketV; rw [if_pos (.inr h1)])
      go_enter Tryd.func34, Tryd.ntmps34
      go_wp2
      go_ret
      exact ⟨by rw [HV.out]; rfl, Below.refl _ _⟩
    · have HV : Hid (bucketV c n k = shareOf (sha (putL c ++ putL n)) k) := hide (by unfold bucketV; rw [if_neg (by omega)])
      have lc := putL_length c (by omega)
      have ln := putL_length n (by omega)
      have cp := refPut_any none 0 [] c w (nilRow w) (by simp) hc
      simp only [List.nil_append] at cp
      have csh := fun w0 => refShare_any (sha (putL c ++ putL n)) k w0 (sha_length _) (sha_ok _) hk
      have cp2 := fun a cap w0 h0 => refPut_any a cap (putL c) n w0 h0 (by omega) hn
      have hll : (putL c ++ putL n).length ≤ 100 := by rw [List.length_append]; omega
      have csm := fun a cap w0 h0 => refSum_any a cap (putL c ++ putL n) w0 h0 (by omega)
      generalize sha (putL c ++ putL n) = dg at *
      obtain ⟨L, hL⟩ : ∃ L, Hid (putL c ++ putL n = L) := ⟨_, hide rfl⟩
      simp only [hL.out] at csm cp2
      rw [hL.out] at hll
      obtain ⟨L1, hL1⟩ : ∃ L1, Hid (putL c = L1) := ⟨_, hide rfl⟩
      simp only [hL1.out] at cp2
      simp only [hL1.out] at cp
      rw [hL1.out] at lc
      clear ln
      go_enter Tryd.func34, Tryd.ntmps34
      go_wp2_with fail
      refine cp.mono ?_
      rintro e w1 ⟨v1, rfl, m1, hw1⟩
      obtain ⟨a1, cap1, rfl, _, _, row1⟩ := m1.rowAt (by unfold maxLen; omega)
      clear cp m1
      go_wp2_with fail
      refine (cp2 a1 cap1 w1 row1).mono ?_
      rintro e w2 ⟨v2, rfl, m2, hw2⟩
      obtain ⟨a2, cap2, rfl, _, _, row2⟩ := m2.rowAt (by unfold maxLen; omega)
      have hB2 := hw1.trans (hw2.mono hw1.size)
      clear cp2 m2 row1 hw2
      go_wp2_with fail
      refine (csm a2 cap2 w2 row2).mono ?_
      rintro e w3 ⟨rfl, hw3⟩
      have hB3 := hB2.trans (hw3.mono hB2.size)
      clear csm row2
      go_wp2_with fail
      refine (csh w3).mono ?_
      rintro e w4 ⟨rfl, hw4⟩
      go_wp2_with fail
      go_ret
      exact ⟨by rw [HV.out]; rfl, hB3.trans (hw4.mono hB3.size)⟩
end Go.Proofs.YtbfcbjjhdadicaaDoor
