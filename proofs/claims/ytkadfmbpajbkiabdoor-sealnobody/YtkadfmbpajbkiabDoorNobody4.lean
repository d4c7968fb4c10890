/- the law of keys that no call made: the walk -/
import Derived.Test.YtkadfmbpajbkiabDoorKCheck
import Derived.Test.YtkadfmbpajbkiabDoorLives4
namespace Go.Proofs.YtkadfmbpajbkiabDoor
open Go.RowKit
open Sha Tal
theorem sign_none (id : Int) (body : ByteArray) : signOf [] id body = (zeros16, 1) := by simp [signOf]
theorem check_none (t : List Int) : checkOf (zeros16, 1) t = false := by simp [checkOf]
set_option maxRecDepth 20000 in
set_option maxHeartbeats 2000000 in
theorem nobody_walk (id : Int) (body : ByteArray) (t : List Int) (w : World) (hG : Glob w) (ht : t.length = 16) :
   Calls Tryd.prog 6 #[.int .i64 id, .string body, .agg (v8 t).toArray] w fun e w' => e = .returned (.bool true) ∧ Below w.heap.size w w' := by
  have cs := fun p w (hG : Glob w) (h : KeysAt w p []) => ksign_any p [] id body w hG h (Or.inl rfl)
  have cc := fun p w (hG : Glob w) (h : KeysAt w p []) => kcheck_any p [] id body t w hG h (Or.inl rfl) ht
  simp only [sign_none] at cs cc
  simp only [check_none] at cc
  have HR0 := hide (box_range w t 23)
  obtain ⟨ct, hct⟩ : ∃ ct, Hid (v8 t = ct) := ⟨_, hide rfl⟩
  have hcl : ct.length = 16 := by rw [← hct.out, v8_length, ht]
  rw [hct.out] at HR0 ⊢
  simp only [hct.out] at cc
  go_enter Tryd.func6, Tryd.ntmps6
  go_wp2_with fail
  go_name_world w1 hw1'
  have hw1 : ((w.alloc (.cells ct.toArray 23)).alloc (.cells #[.slice none 0 0] 44)).alloc (.cells #[.pointer none, .pointer (some ⟨w.heap.size + 1, 0, none⟩)] 25) = w1 := hw1'
  have hB1 : Below w.heap.size w w1 := by rw [← hw1]; exact (((Below.refl _ _).alloc (Nat.le_refl _) _).alloc (by simp) _).alloc (by simp; omega) _
  have hs1 : w.heap.size + 2 < w1.heap.size := by rw [← hw1]; simp
  have hR1 : w1.rangeAt w.heap.size 0 ct := by rw [← hw1]; exact World.rangeAt_alloc (World.rangeAt_alloc HR0.out _) _
  have hP1 : w1.cell? ⟨w.heap.size + 2, 0, none⟩ = some (.pointer none) ∧ w1.cell? ⟨w.heap.size + 2, 1, none⟩ = some (.pointer (some ⟨w.heap.size + 1, 0, none⟩)) := by
    rw [← hw1]
    have := range_new ((w.alloc (.cells ct.toArray 23)).alloc (.cells #[.slice none 0 0] 44)) #[.pointer none, .pointer (some ⟨w.heap.size + 1, 0, none⟩)] 25
    simp only [World.size_alloc] at this
    exact ⟨this 0 _ rfl, this 1 _ rfl⟩
  have hK1 : w1.cell? ⟨w.heap.size + 1, 0, none⟩ = some (.slice none 0 0) := by
    rw [← hw1]
    have := World.rangeAt_alloc (range_new (w.alloc (.cells ct.toArray 23)) #[.slice none 0 0] 44) (.cells #[.pointer none, .pointer (some ⟨w.heap.size + 1, 0, none⟩)] 25)
    simp only [World.size_alloc] at this
    exact this 0 _ rfl
  clear hw1 hw1' HR0
  obtain ⟨hP1, hP2⟩ := hP1
  go_loopw [15] (fun i wr => ∃ k : Nat, k ≤ 2 ∧ i = .int .i64 (k : Int) ∧ Below w1.heap.size w1 wr) (fun i _ => 2 - (intOf i).toNat)
  case atStart => exact ⟨0, by omega, rfl, Below.refl _ _⟩
  case round =>
    obtain ⟨k, hk, rfl, hB⟩ := hrel
    have hBw := hB1.trans (hB.mono hB1.size)
    by_cases hlt : k < 2
    · obtain ⟨p, hcp, hkp⟩ : ∃ p, wr.cell? ⟨w.heap.size + 2, k, none⟩ = some (.pointer p) ∧ KeysAt wr p [] := by
        have e2 : w.heap.size + 2 < w1.heap.size := hs1
        rcases k with _ | _ | k
        · exact ⟨none, (hB.cell (p := ⟨w.heap.size + 2, 0, none⟩) e2).trans hP1, .inl ⟨rfl, rfl⟩⟩
        · exact ⟨some ⟨w.heap.size + 1, 0, none⟩, (hB.cell (p := ⟨w.heap.size + 2, 1, none⟩) e2).trans hP2, .inr ⟨w.heap.size + 1, none, 0, rfl, by have := hB.size; omega, (hB.cell (p := ⟨w.heap.size + 1, 0, none⟩) (show w.heap.size + 1 < w1.heap.size by omega)).trans hK1, by simp, by simp, .inl rfl⟩⟩
        · omega
      have hltI : (k : Int) < 2 := by omega
      have c1 := cs p wr (hG.below hBw) hkp
      go_wp2_with fail
      refine c1.mono ?_
      rintro e w2 ⟨rfl, hw2⟩
      clear c1
      have hB2 := hB.trans (hw2.mono hB.size)
      have hs2 := hB2.size
      have F := fresh_store w2 (Array.replicate 16 (.int .u8 0)) 23 (v8 zeros16) rfl
      have hN : (w2.alloc (.cells (Array.replicate 16 (.int .u8 0)) 23)).there w2.heap.size 0 (v8 zeros16).toArray.size := (new_bytes w2 16 23).2
      have hi := info16 zeros16 rfl
      have h1c := all_oneCell_toArray (v8_one zeros16)
      go_upto_region 5 with (refine wpList_store_mid (op := ⟨none, .store 23 (.tmp 9) (.tmp 24), _, _, _, none⟩) rfl 23 _ _ rfl _ _ (v8 zeros16).toArray rfl rfl hN hi h1c ?_)
      go_name_world w4 hw4
      rw [show (w2.alloc (.cells (Array.replicate 16 (.int .u8 0)) 23)).setCells w2.heap.size 0 (v8 zeros16) = w4 from hw4] at F
      obtain ⟨hR4, hB4', hz4', _⟩ := F
      have hz4 : w2.heap.size < w4.heap.size := by omega
      clear hz4' hw4 hN h1c
      have hB4 := hB2.trans (hB4'.mono hB2.size)
      have hBw4 := hB1.trans (hB4.mono hB1.size)
      have hR14 := range_below hR1 hB4 (by omega)
      have hkp4 := (hkp.below hw2).below hB4'
      have c2 := cc p w4 (hG.below hBw4) hkp4
      have hl16 : (Tryd.prog.info? 23).map (·.size) = some (v8 zeros16).length := by simpa using hi
      have hl16' : (Tryd.prog.info? 23).map (·.size) = some ct.length := by rw [hcl]; exact iszT
      have hne := neq16 zeros16 zeros16 rfl rfl
      have hzz : (!(zeros16 == zeros16)) = false := by decide
      rw [hzz] at hne
      have hne' : ∀ w, (binOp .neq 23 (.agg (v8 zeros16).toArray) (.agg #[.int .u8 0, .int .u8 0, .int .u8 0, .int .u8 0, .int .u8 0, .int .u8 0, .int .u8 0, .int .u8 0, .int .u8 0, .int .u8 0, .int .u8 0, .int .u8 0, .int .u8 0, .int .u8 0, .int .u8 0, .int .u8 0])).run Tryd.prog w = .ok (.bool false) w := hne
      clear hne hzz
      try simp only [Act.put]
      clear hi hB4' hB2 hw2 hB hBw hkp
      refine wp_region_list ?_
      refine wpList_load_mid rfl 23 _ rfl _ _ rfl (v8 zeros16) _ hR4 Tryd.underlying23 rfl hl16 ?_
      refine wpList_step fun K hK => ?_
      go_simp
      refine hK _ _ ?_
      clear hK K
      refine wpList_step fun K hK => ?_
      go_simp
      refine hK _ _ ?_
      clear hK K
      refine wpList_step fun K hK => ?_
      go_simp
      refine hK _ _ ?_
      clear hK K
      refine wpList_step fun K hK => ?_
      go_simp
      refine hK _ _ ?_
      clear hK K
      refine wpList_step fun K hK => ?_
      go_simp
      refine hK _ _ ?_
      clear hK K
      refine wpList_step fun K hK => ?_
      go_simp
      refine hK _ _ ?_
      clear hK K
      refine wpList_step fun K hK => ?_
      go_simp
      refine hK _ _ ?_
      clear hK K
      refine wpList_step fun K hK => ?_
      go_simp
      refine hK _ _ ?_
      clear hK K
      refine wpList_step fun K hK => ?_
      go_simp
      refine hK _ _ ?_
      clear hK K
      refine wpList_step fun K hK => ?_
      go_simp
      refine hK _ _ ?_
      clear hK K
      refine wpList_load_g (by rfl) 23 _ rfl _ _ rfl ct _ hR14 Tryd.underlying23 rfl hl16' ?_
      have c3 := fun w5 (h : Below w4.heap.size w4 w5) => klen_any p [] w5 (hkp4.below h)
      clear hne' hR14 hl16 hl16' hkp4 hR4
      go_wp2_with (first | (go_at_call 13; refine c2.mono ?_; rintro e w5 ⟨rfl, hw5⟩) | (go_at_call 10; refine (c3 _ hw5).mono ?_; rintro e w6 ⟨rfl, hx⟩; obtain rfl := hx.symm; clear hx))
      clear c2 c3
      go_roundw
      case rel => exact ⟨k + 1, by omega, by go_num, hB4.trans (hw5.mono hB4.size)⟩
      case measure => simp [intOf]; omega
    · have hltI : ¬ (k : Int) < 2 := by omega
      go_wp2_with (go_at_call 7; refine (lives4_any _ (hG.below hBw)).mono ?_; rintro e w9 ⟨rfl, hw9⟩)
      go_ret
      exact ⟨rfl, hBw.trans (hw9.mono hBw.size)⟩
end Go.Proofs.YtkadfmbpajbkiabDoor
