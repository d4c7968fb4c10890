/- Parse: contract -/
import Derived.Test.YtkadfmbpajbkiaaDoorTx2
namespace Go.Proofs.YtkadfmbpajbkiaaDoor
open Go.RowKit
open Sha
theorem rep32 : Array.replicate 32 (Value.int .u8 0) = (v8 zeros32).toArray := by rfl
theorem lit32 : ((#[.int .u8 0, .int .u8 0, .int .u8 0, .int .u8 0, .int .u8 0, .int .u8 0, .int .u8 0, .int .u8 0, .int .u8 0, .int .u8 0, .int .u8 0, .int .u8 0, .int .u8 0, .int .u8 0, .int .u8 0, .int .u8 0, .int .u8 0, .int .u8 0, .int .u8 0, .int .u8 0, .int .u8 0, .int .u8 0, .int .u8 0, .int .u8 0, .int .u8 0, .int .u8 0, .int .u8 0, .int .u8 0, .int .u8 0, .int .u8 0, .int .u8 0, .int .u8 0] : Array Value)) = (v8 zeros32).toArray := by rfl
set_option maxRecDepth 20000 in
set_option maxHeartbeats 2000000 in
theorem parse_any (s : ByteArray) (w : World) :
   Calls Tryd.prog 20 #[.string s] w fun e w' => e = .returned (.tuple #[.agg (v8 (parseOf s).1).toArray, .int .i64 (parseOf s).2]) ∧ Below w.heap.size w w' := by
  have hP := PAt.start w s
  have hi0 : (Tryd.prog.info? 24).map (·.size) = some (v8 zeros32).toArray.size := by rw [List.size_toArray, v8_length, zeros32_length]; exact isz24
  have ho0 := all_oneCell_toArray (v8_one zeros32)
  obtain ⟨r, hr⟩ : ∃ r, Hid (parseOf s = r) := ⟨_, rfl⟩
  rw [hr.out]
  by_cases h64 : s.size = 64
  · have hsz : ¬ ((s.size : Int) ≠ 64) := by omega
    have H64 : Hid (s.size = 64) := h64
    have h64' : (s.size : Int) = 64 := by omega
    clear hsz
    obtain ⟨zs, hzs⟩ : ∃ zs, Hid (v8 zeros32 = zs) := ⟨_, rfl⟩
    rw [hzs.out] at hi0 ho0
    have hlit := lit32
    rw [hzs.out] at hlit
    rw [rep32, hzs.out] at hP
    go_enter Tryd.func20, Tryd.ntmps20
    go_wp2_with fail
    go_name_world w2 hw2
    rw [hw2] at hP
    clear hw2 h64' h64
    go_loopw [14] (fun i wr => ∃ k : Nat, k ≤ 32 ∧ i = .int .i64 (k : Int) ∧ Hid (∀ j, j < 2 * k → pv s j < 16) ∧ PAt w s k wr) (fun i _ => 32 - (intOf i).toNat)
    case atStart => exact ⟨0, by omega, rfl, fun j hj => by omega, hP⟩
    case round =>
      clear hP
      obtain ⟨k, hk, rfl, hgood, hP⟩ := hrel
      by_cases hlt : k < 32
      · have hx1 := str_idx s (2 * k) (by rw [H64.out]; omega) (2 * (k : Int)) (by omega)
        have hx2 := str_idx s (2 * k + 1) (by rw [H64.out]; omega) (2 * (k : Int) + 1) (by omega)
        have d1 := digit_any (sb s (2 * k)) wr (sb_ok s _)
        have d2 := digit_any (sb s (2 * k + 1)) wr (sb_ok s _)
        have e1 : valOf (sb s (2 * k)) = pv s (2 * k) := rfl
        have e2 : valOf (sb s (2 * k + 1)) = pv s (2 * k + 1) := rfl
        rw [e1] at d1
        rw [e2] at d2
        have p1 := pv_rng s (2 * k)
        have p2 := pv_rng s (2 * k + 1)
        have HZ : Hid (∀ z, z = 16 * pv s (2 * k) + pv s (2 * k + 1) → PAt w s (k + 1) (wr.setCell ⟨w.heap.size + 1, k, none⟩ (.int .u8 z))) := fun z hz => hP.step hlt z hz
        have HG : Hid (pv s (2 * k) < 16 → pv s (2 * k + 1) < 16 → ∀ j, j < 2 * (k + 1) → pv s j < 16) := fun a b j hj => by
          by_cases q : j = 2 * k
          · subst q; exact a
          · by_cases q2 : j = 2 * k + 1
            · subst q2; exact b
            · exact hgood.out j (by omega)
        have HB1 : Hid (pv s (2 * k) = 16 → r = (zeros32, 11)) := fun a => by
          rw [← hr.out]; exact parse_no (fun h => by have := h.2 (2 * k) (by omega); omega)
        have HB2 : Hid (pv s (2 * k + 1) = 16 → r = (zeros32, 11)) := fun a => by
          rw [← hr.out]; exact parse_no (fun h => by have := h.2 (2 * k + 1) (by omega); omega)
        have hT0 : wr.there w.heap.size 0 zs.toArray.size := by
          have : zs.toArray.size = 32 := by rw [← hzs.out, List.size_toArray, v8_length, zeros32_length]
          rw [this]; exact hP.t0
        have hrs : (loadVar 24 ⟨w.heap.size, 0, none⟩).run Tryd.prog (wr.setCells w.heap.size 0 zs) = .ok (.agg zs.toArray) (wr.setCells w.heap.size 0 zs) := by
          rw [← hzs.out]
          exact load24 zeros32_length (World.rangeAt_setCells_same wr w.heap.size 0 (v8 zeros32) (by rw [v8_length, zeros32_length]; exact hP.t0))
        have hBl : Below w.heap.size w (wr.setCells w.heap.size 0 zs) := below_sets (Nat.le_refl _) _ 0 wr hP.bel
        have hc1 := (hP.t1 k hlt).1
        have hf1 := (hP.t1 k hlt).2
        rw [Nat.zero_add] at hc1 hf1
        obtain ⟨u, hu⟩ := Option.isSome_iff_exists.1 hc1
        clear hc1 hgood e1 e2
        have HP : Hid _ := hP
        clear hP
        obtain ⟨b1, hb1⟩ : ∃ b1, Hid (sb s (2 * k) = b1) := ⟨_, rfl⟩
        obtain ⟨b2, hb2⟩ : ∃ b2, Hid (sb s (2 * k + 1) = b2) := ⟨_, rfl⟩
        rw [hb1.out] at d1
        rw [hb2.out] at d2
        simp only [hb1.out] at hx1
        simp only [hb2.out] at hx2
        generalize pv s (2 * k) = x1 at *
        generalize pv s (2 * k + 1) = x2 at *
        go_wp2_with fail
        refine d1.mono ?_
        rintro e wx ⟨he1, hx⟩
        obtain rfl := hx.symm
        clear hx d1
        rcases he1 with ⟨l1, rfl⟩ | ⟨l1, rfl⟩
        · go_wp2_with fail
          refine d2.mono ?_
          rintro e wx ⟨he2, hx⟩
          obtain rfl := hx.symm
          clear hx d2
          rcases he2 with ⟨l2, rfl⟩ | ⟨l2, rfl⟩
          · have hor := or16' x1 x2 ⟨p1.1, l1⟩ ⟨p2.1, l2⟩
            rw [Int.mul_comm 16 x1] at hor
            go_wp2_with fail
            go_roundw
            case rel => exact ⟨k + 1, by omega, by go_num, HG.out l1 l2, HZ.out _ (by omega)⟩
            case measure => simp [intOf]; omega
          · go_wp2_with (refine wpList_store_mid rfl 24 _ _ rfl _ _ zs.toArray rfl rfl hT0 hi0 ho0 ?_)
            exact bodyPost_ret (v := .tuple #[.agg zs.toArray, .int .i64 11]) (by simp [results, Tryd.results20, asAddr, hrs]) rfl ⟨by rw [HB2.out l2, hzs.out], hBl⟩
        · go_wp2_with fail
          refine d2.mono ?_
          rintro e wx ⟨he2, hx⟩
          obtain rfl := hx.symm
          clear hx d2
          rcases he2 with ⟨l2, rfl⟩ | ⟨l2, rfl⟩
          · go_wp2_with (refine wpList_store_mid rfl 24 _ _ rfl _ _ zs.toArray rfl rfl hT0 hi0 ho0 ?_)
            exact bodyPost_ret (v := .tuple #[.agg zs.toArray, .int .i64 11]) (by simp [results, Tryd.results20, asAddr, hrs]) rfl ⟨by rw [HB1.out l1, hzs.out], hBl⟩
          · go_wp2_with (refine wpList_store_mid rfl 24 _ _ rfl _ _ zs.toArray rfl rfl hT0 hi0 ho0 ?_)
            exact bodyPost_ret (v := .tuple #[.agg zs.toArray, .int .i64 11]) (by simp [results, Tryd.results20, asAddr, hrs]) rfl ⟨by rw [HB1.out l1, hzs.out], hBl⟩
      · have hk' : k = 32 := by omega
        subst hk'
        have HR : Hid (r = (outB s 32, 0)) := by
          show _ = _
          rw [← hr.out]; exact parse_yes ⟨H64.out, hgood.out⟩
        have h1 := hP.r1
        rw [Nat.sub_self, List.replicate_zero, List.append_nil] at h1
        have hl1 : (v8 (outB s 32)).length = 32 := by rw [v8_length, outB_length]
        have ho1 := all_oneCell_toArray (v8_one (outB s 32))
        obtain ⟨cs, hcs⟩ : ∃ cs, Hid (v8 (outB s 32) = cs) := ⟨_, rfl⟩
        rw [hcs.out] at h1 hl1 ho1
        have hi1 : (Tryd.prog.info? 24).map (·.size) = some cs.length := by rw [hl1]; exact isz24
        have hi2 : (Tryd.prog.info? 24).map (·.size) = some cs.toArray.size := by rw [List.size_toArray]; exact hi1
        have hT0 : wr.there w.heap.size 0 cs.toArray.size := by
          have e : cs.toArray.size = 32 := by rw [List.size_toArray, hl1]
          rw [e]; exact hP.t0
        have hrs : (loadVar 24 ⟨w.heap.size, 0, none⟩).run Tryd.prog (wr.setCells w.heap.size 0 cs) = .ok (.agg cs.toArray) (wr.setCells w.heap.size 0 cs) :=
          run_loadVar_mid (P := Tryd.prog) _ _ 0 24 cs _ (World.rangeAt_setCells_same wr w.heap.size 0 cs (by rw [hl1]; exact hP.t0)) Tryd.underlying24 rfl hi1
        have hBl : Below w.heap.size w (wr.setCells w.heap.size 0 cs) := below_sets (Nat.le_refl _) _ 0 wr hP.bel
        clear hP hgood hl1
        go_wp2_with (first | refine wpList_load_mid rfl 24 _ rfl _ 0 rfl cs _ h1 Tryd.underlying24 rfl hi1 ?_ | refine wpList_store_mid rfl 24 _ _ rfl _ _ cs.toArray rfl rfl hT0 hi2 ho1 ?_)
        exact bodyPost_ret (v := .tuple #[.agg cs.toArray, .int .i64 0]) (by simp [results, Tryd.results20, asAddr, hrs]) rfl ⟨by rw [HR.out, hcs.out], hBl⟩
  · have h64' : ¬ (s.size : Int) = 64 := by omega
    have HR : Hid (r = (zeros32, 11)) := by
      show _ = _
      rw [← hr.out]; exact parse_no (fun h => h64 h.1)
    clear h64
    obtain ⟨zs, hzs⟩ : ∃ zs, Hid (v8 zeros32 = zs) := ⟨_, rfl⟩
    rw [hzs.out] at hi0 ho0
    have hlit := lit32
    rw [hzs.out] at hlit
    rw [rep32, hzs.out] at hP
    go_enter Tryd.func20, Tryd.ntmps20
    go_upto_region 3 with fail
    go_name_world w2 hw2
    rw [hw2] at hP
    clear hw2
    have hT0 : w2.there w.heap.size 0 zs.toArray.size := by
      have : zs.toArray.size = 32 := by rw [← hzs.out, List.size_toArray, v8_length, zeros32_length]
      rw [this]; exact hP.t0
    have hrs : (loadVar 24 ⟨w.heap.size, 0, none⟩).run Tryd.prog (w2.setCells w.heap.size 0 zs) = .ok (.agg zs.toArray) (w2.setCells w.heap.size 0 zs) := by
      rw [← hzs.out]
      exact load24 zeros32_length (World.rangeAt_setCells_same w2 w.heap.size 0 (v8 zeros32) (by rw [v8_length, zeros32_length]; exact hP.t0))
    have hBl : Below w.heap.size w (w2.setCells w.heap.size 0 zs) := below_sets (Nat.le_refl _) _ 0 w2 hP.bel
    clear hP
    go_wp2_with (refine wpList_store_mid rfl 24 _ _ rfl _ _ zs.toArray rfl rfl hT0 hi0 ho0 ?_)
    exact bodyPost_ret (v := .tuple #[.agg zs.toArray, .int .i64 11]) (by simp [results, Tryd.results20, asAddr, hrs]) rfl ⟨by rw [HR.out, hzs.out], hBl⟩
end Go.Proofs.YtkadfmbpajbkiaaDoor
