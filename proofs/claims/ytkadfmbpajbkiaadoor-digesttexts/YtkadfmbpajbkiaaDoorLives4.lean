/- the chapter's example: raddlelaw04.lives -/
import Derived.Test.YtkadfmbpajbkiaaDoorMac
namespace Go.Proofs.YtkadfmbpajbkiaaDoor
open Go.RowKit
open Sha
theorem two_parts (w : World) (p q : Part) (hp : p.at w) (hq : q.at w) : PartsAt (w.alloc (.cells #[p.val, q.val] 27)) (some ⟨w.heap.size, 0, none⟩) [p, q] := by
  have hB : Below w.heap.size w (w.alloc (.cells #[p.val, q.val] 27)) := (Below.refl _ _).alloc (Nat.le_refl _) _
  refine ⟨by unfold maxLen; simp, fun r hr => ?_, Or.inr ⟨w.heap.size, 0, rfl, by simp, range_new w #[p.val, q.val] 27⟩⟩
  rcases List.mem_cons.1 hr with rfl | hr
  · exact hp.below hB
  · obtain rfl := List.mem_singleton.1 hr
    exact hq.below hB
def key20 : List Int := List.replicate 20 11
def hiT : List Int := [72, 105, 32]
def thT : List Int := [84, 104, 101, 114, 101]
def macS : ByteArray := { data := #[98, 48, 51, 52, 52, 99, 54, 49, 100, 56, 100, 98, 51, 56, 53, 51, 53, 99, 97, 56, 97, 102, 99, 101, 97, 102, 48, 98, 102, 49, 50, 98, 56, 56, 49, 100, 99, 50, 48, 48, 99, 57, 56, 51, 51, 100, 97, 55, 50, 54, 101, 57, 51, 55, 54, 99, 50, 101, 51, 50, 99, 102, 102, 55] }
theorem mac_text : strOf (hex (mac key20 (hiT ++ thT))) = macS := by decide +kernel
theorem hi_facts : hiT.length ≤ maxLen ∧ (∀ z ∈ hiT, 0 ≤ z ∧ z < 256) ∧ hiT.length ≤ 3 := by unfold maxLen; decide
theorem th_facts : thT.length ≤ maxLen ∧ (∀ z ∈ thT, 0 ≤ z ∧ z < 256) ∧ thT.length ≤ 5 := by unfold maxLen; decide
theorem make20 (w : World) : (Instr.makeSlice 27 (.int .i64 20) (.int .i64 20)).run Tryd.prog w = .ok (.slice (some ⟨w.heap.size, 0, none⟩) 20 20) (w.alloc (.cells (Array.replicate 20 (.int .u8 0)) 5)) := by kernel_rfl
theorem set_at (k : Nat) (hk : k < 20) : (List.replicate k (11 : Int) ++ List.replicate (20 - k) 0).set k 11 = List.replicate (k + 1) 11 ++ List.replicate (20 - (k + 1)) 0 := by
  rw [List.set_append_right _ _ (by simp), List.length_replicate, Nat.sub_self, show 20 - k = (20 - (k + 1)) + 1 by omega, List.replicate_succ, List.set_cons_zero, List.replicate_succ' (n := k)]
  simp
set_option maxRecDepth 20000 in
set_option maxHeartbeats 1000000 in
theorem lives4_any (w : World) (hG : Glob w) :
   Calls Tryd.prog 23 #[] w fun e w' => e = .returned (.bool true) ∧ Below w.heap.size w w' := by
  have hmk := make20 w
  have hB0 : Below w.heap.size w (w.alloc (.cells (Array.replicate 20 (.int .u8 0)) 5)) := (Below.refl _ _).alloc (Nat.le_refl _) _
  have hN := new_bytes w 20 5
  go_enter Tryd.func23, Tryd.ntmps23
  go_wp2_with fail
  go_loopw [6] (fun i wr => ∃ k : Nat, k ≤ 20 ∧ i = .int .i64 (k : Int) ∧ wr.rangeAt w.heap.size 0 (v8 (List.replicate k 11 ++ List.replicate (20 - k) 0)) ∧ wr.there w.heap.size 0 20 ∧ Below w.heap.size w wr ∧ w.heap.size < wr.heap.size) (fun i _ => 20 - (intOf i).toNat)
  case atStart => exact ⟨0, by omega, rfl, by simpa using hN.1, hN.2, hB0, by simp⟩
  case round =>
    clear hmk hB0 hN
    obtain ⟨k, hk, rfl, hR, hT, hB, hsz⟩ := hrel
    by_cases hlt : k < 20
    · obtain ⟨u, hcell⟩ : ∃ u, wr.cell? ⟨w.heap.size, k, none⟩ = some u := by
        have := (hT k hlt).1
        rw [Nat.zero_add] at this
        exact Option.isSome_iff_exists.1 this
      have hf := (hT k (by omega)).2
      rw [Nat.zero_add] at hf
      go_wp2_with fail
      go_roundw
      case rel =>
        refine ⟨k + 1, by omega, by go_num, ?_, there_set hT _ _, hB.setCell (p := ⟨w.heap.size, k, none⟩) (Nat.le_refl _) _, by simpa using hsz⟩
        have := range_set hR k (.int .u8 11)
        rw [Nat.zero_add, v8_set, set_at k hlt] at this
        exact this
      case measure => simp [intOf]; omega
    · have hk' : k = 20 := by omega
      subst hk'
      have hR' : wr.rangeAt w.heap.size 0 (v8 key20) := by simpa [key20] using hR
      clear hR hT
      have kc := Lib.run_convert_bytes_const (P := Tryd.prog) wr 27 5 #[.int .u8 72, .int .u8 105, .int .u8 32] 3 3 Tryd.underlying27 Tryd.underlying5
      have kc2 := Lib.run_convert_bytes_const (P := Tryd.prog) (wr.alloc (.cells #[.int .u8 72, .int .u8 105, .int .u8 32] 5 (3, 4))) 27 5 #[.int .u8 84, .int .u8 104, .int .u8 101, .int .u8 114, .int .u8 101] 5 5 Tryd.underlying27 Tryd.underlying5
      simp only [World.size_alloc] at kc2
      have B1 : Below wr.heap.size wr (wr.alloc (.cells #[.int .u8 72, .int .u8 105, .int .u8 32] 5 (3, 4))) := (Below.refl _ _).alloc (Nat.le_refl _) _
      have hp1 : (⟨some ⟨wr.heap.size, 0, none⟩, 3, hiT⟩ : Part).at (wr.alloc (.cells #[.int .u8 72, .int .u8 105, .int .u8 32] 5 (3, 4))) :=
        ⟨⟨hi_facts.1, hi_facts.2.1, Or.inr ⟨wr.heap.size, 0, rfl, by simp, range_mark wr #[.int .u8 72, .int .u8 105, .int .u8 32] 5 (3, 4)⟩⟩, hi_facts.2.2, by unfold maxLen; simp⟩
      have hp2 : (⟨some ⟨(wr.alloc (.cells #[.int .u8 72, .int .u8 105, .int .u8 32] 5 (3, 4))).heap.size, 0, none⟩, 5, thT⟩ : Part).at ((wr.alloc (.cells #[.int .u8 72, .int .u8 105, .int .u8 32] 5 (3, 4))).alloc (.cells #[.int .u8 84, .int .u8 104, .int .u8 101, .int .u8 114, .int .u8 101] 5 (5, 6))) :=
        ⟨⟨th_facts.1, th_facts.2.1, Or.inr ⟨_, 0, rfl, by simp, range_mark _ #[.int .u8 84, .int .u8 104, .int .u8 101, .int .u8 114, .int .u8 101] 5 (5, 6)⟩⟩, th_facts.2.2, by unfold maxLen; simp⟩
      have B2 : Below wr.heap.size wr ((wr.alloc (.cells #[.int .u8 72, .int .u8 105, .int .u8 32] 5 (3, 4))).alloc (.cells #[.int .u8 84, .int .u8 104, .int .u8 101, .int .u8 114, .int .u8 101] 5 (5, 6))) := B1.alloc (by simp) _
      have hp1' := hp1.below ((Below.refl _ _).alloc (Nat.le_refl _) (.cells #[.int .u8 84, .int .u8 104, .int .u8 101, .int .u8 114, .int .u8 101] 5 (5, 6)))
      have hP := two_parts _ _ _ hp1' hp2
      simp only [World.size_alloc] at hP
      have B3 : Below wr.heap.size wr (((wr.alloc (.cells #[.int .u8 72, .int .u8 105, .int .u8 32] 5 (3, 4))).alloc (.cells #[.int .u8 84, .int .u8 104, .int .u8 101, .int .u8 114, .int .u8 101] 5 (5, 6))).alloc (.cells #[.slice (some ⟨wr.heap.size, 0, none⟩) 3 3, .slice (some ⟨wr.heap.size + 1, 0, none⟩) 5 5] 27)) := B2.alloc (by simp; omega) _
      have hBw := hB.trans (B3.mono hB.size)
      have hkr : RowAt wr (some ⟨w.heap.size, 0, none⟩) key20 := ⟨by unfold maxLen; decide, by decide, Or.inr ⟨_, _, rfl, hsz, hR'⟩⟩
      have c1 := mac_any (some ⟨w.heap.size, 0, none⟩) 20 key20 _ 2 _ _ (hG.below hBw) (hkr.below B3) (by decide) (by unfold maxLen; omega) (by decide) hP (by
        have : (cat [(⟨some ⟨wr.heap.size, 0, none⟩, 3, hiT⟩ : Part), ⟨some ⟨wr.heap.size + 1, 0, none⟩, 5, thT⟩]) = hiT ++ thT := by simp [cat]
        rw [this]; decide) (by simp)
      have ec : (cat [(⟨some ⟨wr.heap.size, 0, none⟩, 3, hiT⟩ : Part), ⟨some ⟨wr.heap.size + 1, 0, none⟩, 5, thT⟩]) = hiT ++ thT := by simp [cat]
      rw [ec] at c1
      have ek : key20.length = 20 := by decide
      rw [ek] at c1
      obtain ⟨d, hd⟩ : ∃ d, Hid (mac key20 (hiT ++ thT) = d) := ⟨_, rfl⟩
      have hdl : d.length = 32 := by rw [← hd.out]; exact mac_length _ _
      have hdo : ∀ z ∈ d, 0 ≤ z ∧ z < 256 := by rw [← hd.out]; exact mac_ok _ _
      have ht := mac_text
      rw [hd.out] at c1 ht
      clear hP hp1 hp2 hp1' B1 B2 B3 hkr ec ek hR'
      go_wp2_with fail
      refine c1.mono ?_
      rintro e w1 ⟨rfl, hw1⟩
      clear c1
      have hB1 := hBw.trans (hw1.mono hBw.size)
      clear hw1 hBw kc kc2
      go_wp2_with fail
      refine (text_any d w1 hdl hdo).mono ?_
      rintro e w2 ⟨rfl, hw2⟩
      rw [ht]
      unfold macS
      go_wp2
      go_ret
      exact ⟨rfl, hB1.trans (hw2.mono hB1.size)⟩
end Go.Proofs.YtkadfmbpajbkiaaDoor
