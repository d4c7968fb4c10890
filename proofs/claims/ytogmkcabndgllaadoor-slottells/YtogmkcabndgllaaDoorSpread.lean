/- digest.spread: the words of all rounds of a block. -/
import Derived.Test.YtogmkcabndgllaaDoorArr
import Derived.Deep.Cut
namespace Go.Proofs.YtogmkcabndgllaaDoor
open Go.RowKit
open Sha
namespace Sha
theorem words_succ (bs : List Int) (n : Nat) : words bs (n + 1) = words bs n ++ [wordAt bs n] := by
  simp [words, List.range_succ]
theorem words_length (bs : List Int) (n : Nat) : (words bs n).length = n := by simp [words]
theorem exts_length (n : Nat) (ws : List Wd) : (exts n ws).length = ws.length + n := by
  induction n with
  | zero => rfl
  | succ n ih => simp [exts, ext, ih]; omega
theorem spread_length (bs : List Int) : (spread bs).length = 64 := by rw [spread, exts_length, words_length]
theorem getD_left (xs ys : List Wd) (i : Nat) (h : i < xs.length) : (xs ++ ys).getD i 0 = xs.getD i 0 := by
  simp only [List.getD_eq_getElem?_getD]; rw [List.getElem?_append_left h]
theorem byte_ok {bs : List Int} (hb : ∀ z ∈ bs, 0 ≤ z ∧ z < 256) (j : Nat) : 0 ≤ bs.getD j 0 ∧ bs.getD j 0 < 256 := by
  rcases Nat.lt_or_ge j bs.length with h | h
  · rw [List.getD_eq_getElem?_getD, List.getElem?_eq_getElem h]; exact hb _ (List.getElem_mem h)
  · rw [List.getD_eq_getElem?_getD, List.getElem?_eq_none h]; decide
theorem add32_4 (a b c d : Wd) : ((a.toNat : Int) + (b.toNat : Int) + (c.toNat : Int) + (d.toNat : Int)) % 4294967296 = ((a + b + c + d).toNat : Int) := by
  rw [BitVec.toNat_add, BitVec.toNat_add, BitVec.toNat_add]; omega
theorem s0_bits (y : Wd) : bits .xor .u32 (bits .xor .u32 ((rotr y 7).toNat : Int) ((rotr y 18).toNat : Int)) ((y.toNat : Int) / 8) = ((s0 y).toNat : Int) := by
  have := shr32 y 3
  rw [show ((2 ^ 3 : Nat) : Int) = 8 by decide] at this
  rw [this, xor32, xor32]; rfl
theorem s1_bits (y : Wd) : bits .xor .u32 (bits .xor .u32 ((rotr y 17).toNat : Int) ((rotr y 19).toNat : Int)) ((y.toNat : Int) / 1024) = ((s1 y).toNat : Int) := by
  have := shr32 y 10
  rw [show ((2 ^ 10 : Nat) : Int) = 1024 by decide] at this
  rw [this, xor32, xor32]; rfl
end Sha
theorem rng_zero (w : World) : (w.alloc (.cells (Array.replicate 64 (.int .u32 0)) 102)).rangeAt w.heap.size 0 (v32 (List.replicate 64 (0 : Wd))) := by
  have := range_new w (Array.replicate 64 (.int .u32 0)) 102
  simpa [v32] using this
theorem thr_zero (w : World) : (w.alloc (.cells (Array.replicate 64 (.int .u32 0)) 102)).there w.heap.size 0 64 := by
  have := there_new w (Array.replicate 64 (.int .u32 0)) 102
  simpa using this
theorem isz72 : (Tryd.prog.info? 102).map (·.size) = some 64 := by kernel_rfl
set_option maxRecDepth 20000 in
set_option maxHeartbeats 1000000 in
theorem spread_any (b off : Nat) (bs : List Int) (w : World) (hlen : bs.length = 64) (hb : ∀ z ∈ bs, 0 ≤ z ∧ z < 256) (hB : b < w.heap.size) (hc : w.rangeAt b off (v8 bs)) :
   Calls Tryd.prog 57 #[.pointer (some ⟨b, off, none⟩)] w fun e w' => e = .returned (.agg (v32 (spread bs)).toArray) ∧ Below w.heap.size w w' := by
  go_enter Tryd.func57, Tryd.ntmps57
  go_wp2
  have Z := rng_zero (w.alloc (.cells (Array.replicate 64 (.int .u32 0)) 102))
  have T := thr_zero (w.alloc (.cells (Array.replicate 64 (.int .u32 0)) 102))
  have T0 := World.there_alloc (thr_zero w) (.cells (Array.replicate 64 (.int .u32 0)) 102)
  have BB : Below w.heap.size w ((w.alloc (.cells (Array.replicate 64 (.int .u32 0)) 102)).alloc (.cells (Array.replicate 64 (.int .u32 0)) 102)) := ((Below.refl _ _).alloc (Nat.le_refl _) _).alloc (by simp) _
  have es : (w.alloc (.cells (Array.replicate 64 (.int .u32 0)) 102)).heap.size = w.heap.size + 1 := by simp
  rw [es] at Z T
  clear es
  go_loopw [10] (fun i wr => ∃ k : Nat, k ≤ 16 ∧ i = .int .i64 k ∧ wr.rangeAt (w.heap.size + 1) 0 (v32 (words bs k ++ List.replicate (64 - k) (0 : Wd))) ∧ wr.there (w.heap.size + 1) 0 64 ∧ wr.there w.heap.size 0 64 ∧ Below w.heap.size w wr) (fun i _ => 16 - (intOf i).toNat)
  case atStart => exact ⟨0, by omega, rfl, Z, T, T0, BB⟩
  case round =>
    clear Z T T0 BB
    obtain ⟨k, hk, rfl, hZ, hT, hT0, hBel⟩ := hrel
    by_cases hlt : k < 16
    · have hcr := range_below hc hBel hB
      have b0 := byte_ok hb (4 * k)
      have b1 := byte_ok hb (4 * k + 1)
      have b2 := byte_ok hb (4 * k + 2)
      have b3 := byte_ok hb (4 * k + 3)
      have cw := word_any b (off + 4 * k) (64 - 4 * k) (64 - 4 * k) (by omega) (by omega) _ _ _ _ wr (get8 hcr (i := 4 * k) (by omega)) (by rw [Nat.add_assoc]; exact get8 hcr (i := 4 * k + 1) (by omega)) (by rw [Nat.add_assoc]; exact get8 hcr (i := 4 * k + 2) (by omega)) (by rw [Nat.add_assoc]; exact get8 hcr (i := 4 * k + 3) (by omega)) b0 b1 b2 b3
      obtain ⟨x, hx⟩ : ∃ x, Hid (wordAt bs k = x) := ⟨_, rfl⟩
      have hsl := slice_l (w := wr) Tryd.underlying93 isz8 b off (4 * k) (4 * (k : Int)) (by omega) (by omega)
      change Calls _ _ _ _ (fun e w' => e = .returned (.int .u32 ((wordAt bs k).toNat : Int)) ∧ w' = wr.drew) at cw
      rw [hx.out] at cw
      clear hcr b0 b1 b2 b3
      obtain ⟨u, hu⟩ := Option.isSome_iff_exists.1 (hT k (by omega)).1
      have hf := (hT k (by omega)).2
      rw [Nat.zero_add] at hu hf
      go_wp2_with fail
      refine cw.mono ?_
      rintro e w1 ⟨rfl, rfl⟩
      clear cw hsl
      go_wp2_with fail
      go_roundw
      case rel =>
        refine ⟨k + 1, by omega, by go_num, ?_, there_set ((World.there_drew _ _ _ _).2 hT) _ _, there_set ((World.there_drew _ _ _ _).2 hT0) _ _, hBel.drew.setCell (p := ⟨w.heap.size + 1, k, none⟩) (by simp) _⟩
        have := range_set ((World.rangeAt_drew _ _ _ _).2 hZ) k (.int .u32 (x.toNat : Int))
        rw [Nat.zero_add, v32_set] at this
        have e1 := set_fill (words bs k) (64 - k) x (by omega)
        rw [words_length] at e1
        rw [e1] at this
        rw [words_succ, hx.out]
        exact this
      case measure => simp [intOf]; omega
    · obtain rfl : k = 16 := by omega
      go_wp2
      go_loopw [5] (fun i wr => ∃ k m : Nat, k ≤ 48 ∧ m = 16 + k ∧ i = .int .i64 (m : Int) ∧ wr.rangeAt (w.heap.size + 1) 0 (v32 (exts k (words bs 16) ++ List.replicate (48 - k) (0 : Wd))) ∧ wr.there (w.heap.size + 1) 0 64 ∧ wr.there w.heap.size 0 64 ∧ Below w.heap.size w wr) (fun i _ => 64 - (intOf i).toNat)
      case atStart => exact ⟨0, 16, by omega, rfl, rfl, hZ, hT, hT0, hBel⟩
      case round =>
        clear hZ hT hT0 hBel
        obtain ⟨k, m, hk, hm, rfl, hZ, hT, hT0, hBel⟩ := hrel
        by_cases hlt : k < 48
        · have hl : (exts k (words bs 16)).length = m := by rw [exts_length, words_length, hm]
          have gt : ∀ j, j < m → wr.cell? ⟨w.heap.size + 1, j, none⟩ = some (.int .u32 (((exts k (words bs 16)).getD j 0).toNat : Int)) := fun j hj => by
            have := get32 hZ (i := j) (by simp [hl]; omega)
            rw [Nat.zero_add, getD_left _ _ _ (by omega)] at this; exact this
          have g15 := gt (m - 15) (by omega)
          have g2 := gt (m - 2) (by omega)
          have g16 := gt (m - 16) (by omega)
          have g7 := gt (m - 7) (by omega)
          obtain ⟨x, hx⟩ : ∃ x, Hid (nxt (exts k (words bs 16)) = x) := ⟨_, rfl⟩
          have hn : Hid ((exts k (words bs 16)).getD (m - 16) 0 + s0 ((exts k (words bs 16)).getD (m - 15) 0) + (exts k (words bs 16)).getD (m - 7) 0 + s1 ((exts k (words bs 16)).getD (m - 2) 0) = x) := by
            have := hx.out; unfold nxt at this; rw [hl] at this; exact this
          generalize (exts k (words bs 16)).getD (m - 15) 0 = y15 at g15 hn
          generalize (exts k (words bs 16)).getD (m - 2) 0 = y2 at g2 hn
          generalize (exts k (words bs 16)).getD (m - 16) 0 = y16 at g16 hn
          generalize (exts k (words bs 16)).getD (m - 7) 0 = y7 at g7 hn
          obtain ⟨u, hu⟩ := Option.isSome_iff_exists.1 (hT m (by omega)).1
          have hf := (hT m (by omega)).2
          rw [Nat.zero_add] at hu hf
          have hm1 : 16 ≤ m := by omega
          have hm2 : m < 64 := by omega
          have HM : Hid (m = 16 + k) := hm
          have HL : Hid ((exts k (words bs 16)).length = m) := hl
          clear gt hm hl
          go_wp2_with fail
          go_region
          have r7 := ror_any y15 7 7 rfl (by decide) (by decide) (by decide)
          have r18 := ror_any y15 18 18 rfl (by decide) (by decide) (by decide)
          have r17 := ror_any y2 17 17 rfl (by decide) (by decide) (by decide)
          have r19 := ror_any y2 19 19 rfl (by decide) (by decide) (by decide)
          go_wp2_with fail
          refine (r7 _).mono ?_
          rintro e w1 ⟨rfl, rfl⟩
          clear r7
          go_wp2_with fail
          refine (r18 _).mono ?_
          rintro e w1 ⟨rfl, rfl⟩
          clear r18
          go_wp2_with fail
          refine (r17 _).mono ?_
          rintro e w1 ⟨rfl, rfl⟩
          clear r17
          go_wp2_with fail
          refine (r19 _).mono ?_
          rintro e w1 ⟨rfl, rfl⟩
          clear r19
          go_wp2_with fail
          rw [s0_bits, s1_bits]
          have hs0 := (s0 y15).isLt
          have hs1 := (s1 y2).isLt
          have hy16 := y16.isLt
          have hy7 := y7.isLt
          go_region
          rw [add32_4, hn.out]
          go_wp2_with fail
          go_roundw
          case rel =>
            (repeat apply Exists.intro)
            refine ⟨⟨k + 1, m + 1, by omega, by rw [HM.out]; omega, by go_num, ?_, (World.there_drew _ _ _ _).2 ((World.there_drew _ _ _ _).2 (there_set hT _ _)), (World.there_drew _ _ _ _).2 ((World.there_drew _ _ _ _).2 (there_set hT0 _ _)), (hBel.setCell (p := ⟨w.heap.size + 1, m, none⟩) (by simp) _).drew.drew⟩, rfl⟩
            have := (World.rangeAt_drew _ _ _ _).2 ((World.rangeAt_drew _ _ _ _).2 (range_set hZ m (.int .u32 (x.toNat : Int))))
            rw [Nat.zero_add, v32_set] at this
            have e1 := set_fill (exts k (words bs 16)) (48 - k) x (by omega)
            rw [HL.out] at e1
            rw [e1] at this
            show (World.rangeAt _ _ _ (v32 (ext (exts k (words bs 16)) ++ _)))
            unfold ext
            rw [hx.out]
            exact this
          case measure => simp [intOf]; omega
        · obtain rfl : k = 48 := by omega
          obtain rfl : m = 64 := by omega
          have hZ2 : wr.rangeAt (w.heap.size + 1) 0 (v32 (spread bs)) := by simpa [spread] using hZ
          have hl2 : (v32 (spread bs)).length = 64 := by rw [v32_length, spread_length]
          have h1c := v32_one (spread bs)
          obtain ⟨cs, hcs⟩ : ∃ cs, Hid (v32 (spread bs) = cs) := ⟨_, rfl⟩
          rw [hcs.out] at hZ2 hl2 h1c
          have hi : (Tryd.prog.info? 102).map (·.size) = some cs.length := by rw [hl2]; exact isz72
          go_upto_region 14 with fail
          refine wp_region_list ?_
          refine wpList_load_mid rfl 102 _ rfl _ _ rfl cs _ hZ2 Tryd.underlying102 rfl hi ?_
          refine wpList_store_mid rfl 102 _ _ rfl _ _ cs.toArray rfl rfl (by simpa [hl2] using hT0) (by simpa using hi) (all_oneCell_toArray h1c) ?_
          have hR := World.rangeAt_setCells_same wr w.heap.size 0 cs (by rw [hl2]; exact hT0)
          have hBl := below_sets (Nat.le_refl w.heap.size) cs 0 wr hBel
          generalize wr.setCells w.heap.size 0 cs = wx at *
          have hrs := run_loadVar_mid (P := Tryd.prog) wx w.heap.size 0 102 cs _ hR Tryd.underlying102 rfl hi
          clear hi
          go_wp2_with fail
          refine bodyPost_ret (v := .agg cs.toArray) (by simp [results, Tryd.results57, asAddr, hrs]) rfl ⟨by rw [hcs.out], hBl⟩
end Go.Proofs.YtogmkcabndgllaaDoor
