/- seal.Mac: the mac of parts -/
import Derived.Test.YtbfhpgneaklgoaaDoorMacC
namespace Go.Proofs.YtbfhpgneaklgoaaDoor
open Go.RowKit
open Sha
namespace Sha
/-- the mac of bytes by a key -/
def mac (key zs : List Int) : List Int := sha (xorL 92 (macBlock key) ++ sha (xorL 54 (macBlock key) ++ zs))
end Sha
theorem mac_length (key zs : List Int) : (mac key zs).length = 32 := sha_length _
theorem mac_ok (key zs : List Int) : ∀ z ∈ mac key zs, 0 ≤ z ∧ z < 256 := sha_ok _
theorem there24 (w : World) (d : List Int) (hd : d.length = 32) : (w.alloc (.cells (Array.replicate 32 (.int .u8 0)) 54)).there w.heap.size 0 (v8 d).toArray.size := by
  have e : (v8 d).toArray.size = 32 := by rw [List.size_toArray, v8_length, hd]
  rw [e]; exact (new_bytes w 32 54).2
theorem info24 (d : List Int) (hd : d.length = 32) : (Tryd.prog.info? 54).map (·.size) = some (v8 d).toArray.size := by rw [List.size_toArray, v8_length, hd]; exact isz24
set_option maxRecDepth 20000 in
set_option maxHeartbeats 1000000 in
theorem mac_any (ka : Option Addr) (kc : Nat) (key : List Int) (a : Option Addr) (cap : Nat) (ps : List Part) (w : World) (hG : Glob w) (hk : RowAt w ka key) (hkc : key.length ≤ kc) (hkm : kc ≤ maxLen) (hkl : key.length ≤ 1000000) (h : PartsAt w a ps) (hn : (cat ps).length < 1000000) (hpl : ps.length ≤ 100000) :
   Calls Tryd.prog 24 #[.slice ka key.length kc, .slice a ps.length cap] w fun e w' => e = .returned (.agg (v8 (mac key (cat ps))).toArray) ∧ Below w.heap.size w w' := by
  have hB0 : Below w.heap.size w (w.alloc (.cells (Array.replicate 32 (.int .u8 0)) 54)) := (Below.refl _ _).alloc (Nat.le_refl _) _
  have hT0 := (new_bytes w 32 54).2
  have cb := blockOf_any ka kc key _ (hG.below hB0) (hk.below hB0) hkc hkm hkl
  obtain ⟨kb, hkb⟩ : ∃ kb, Hid (macBlock key = kb) := ⟨_, rfl⟩
  have hbl : kb.length = 64 := by rw [← hkb.out]; exact macBlock_len key
  have HM : Hid (mac key (cat ps) = sha (xorL 92 kb ++ sha (xorL 54 kb ++ cat ps))) := by rw [← hkb.out]; rfl
  rw [hkb.out] at cb
  clear hkb
  have hsb : (v8 kb).length = 64 := by rw [v8_length, hbl]
  go_enter Tryd.func24, Tryd.ntmps24
  go_wp2_with fail
  refine cb.mono ?_
  rintro e w1 ⟨rfl, hw1⟩
  clear cb
  have hB1 := hB0.trans (hw1.mono hB0.size)
  have hs1 := hw1.size
  simp only [World.size_alloc] at hs1
  have hT1 := there_below hT0 hw1 (by simp)
  have F := fresh_store w1 (Array.replicate 64 (.int .u8 0)) 71 (v8 kb) (by rw [hsb]; rfl)
  have hN : (w1.alloc (.cells (Array.replicate 64 (.int .u8 0)) 71)).there w1.heap.size 0 (v8 kb).toArray.size := by
    have e : (v8 kb).toArray.size = 64 := by rw [List.size_toArray, hsb]
    rw [e]; exact (new64 w1).2
  have hi : (Tryd.prog.info? 71).map (·.size) = some (v8 kb).toArray.size := by rw [List.size_toArray, hsb]; exact isz52
  have h1c := all_oneCell_toArray (v8_one kb)
  go_upto_region 3 with (refine wpList_store_mid (op := ⟨none, .store 71 (.tmp 5) (.tmp 9), _, _, _, none⟩) rfl 71 _ _ rfl _ _ (v8 kb).toArray rfl rfl hN hi h1c ?_)
  go_name_world w2 hw2
  rw [show (w1.alloc (.cells (Array.replicate 64 (.int .u8 0)) 71)).setCells w1.heap.size 0 (v8 kb) = w2 from hw2] at F
  obtain ⟨hR2, hB2', hz2', _⟩ := F
  have hz2 : w1.heap.size < w2.heap.size := by omega
  clear hz2'
  clear hw2 hN hi h1c hw1 hT0 hB0
  have hB2 := hB1.trans (hB2'.mono hB1.size)
  have hT2 := there_below hT1 hB2' (by omega)
  have c1 := macC_any 54 w1.heap.size kb a cap ps w2 (hG.below hB2) hbl hR2 (by omega) (h.below hB2) hn hpl
  obtain ⟨d, hd⟩ : ∃ d, Hid (sha (xorL 54 kb ++ cat ps) = d) := ⟨_, rfl⟩
  have hdl : d.length = 32 := by rw [← hd.out]; exact sha_length _
  have hdo : ∀ z ∈ d, 0 ≤ z ∧ z < 256 := by rw [← hd.out]; exact sha_ok _
  rw [hd.out] at c1 HM
  clear hd hB1 hT1
  try simp only [Act.put]
  go_wp2_with fail
  refine c1.mono ?_
  rintro e w3 ⟨rfl, hw3⟩
  clear c1
  have hB3 := hB2.trans (hw3.mono hB2.size)
  have hT3 := there_below hT2 hw3 (by omega)
  have hR3 := range_below hR2 hw3 (by omega)
  have hs3 := hw3.size
  have F := fresh_store w3 (Array.replicate 32 (.int .u8 0)) 54 (v8 d) (by rw [v8_length, hdl]; rfl)
  have hN := there24 w3 d hdl
  have hi := info24 d hdl
  have h1c := all_oneCell_toArray (v8_one d)
  go_upto_region 4 with (refine wpList_store_mid (op := ⟨none, .store 54 (.tmp 7) (.tmp 13), _, _, _, none⟩) rfl 54 _ _ rfl _ _ (v8 d).toArray rfl rfl hN hi h1c ?_)
  go_name_world w4 hw4
  rw [show (w3.alloc (.cells (Array.replicate 32 (.int .u8 0)) 54)).setCells w3.heap.size 0 (v8 d) = w4 from hw4] at F
  obtain ⟨hR4, hB4', hz4', _⟩ := F
  have hz4 : w3.heap.size < w4.heap.size := by omega
  clear hz4'
  clear hw4 hN hi h1c hw3 hR2 hT2
  have hB4 := hB3.trans (hB4'.mono hB3.size)
  have hT4 := there_below hT3 hB4' (by omega)
  have hR4k := range_below hR3 hB4' (by omega)
  have hsl := slice_all (w := w4) Tryd.underlying54 isz8 w3.heap.size 0 (by omega)
  have hat : (⟨some ⟨w3.heap.size, 0, none⟩, 32, d⟩ : Part).at w4 := ⟨⟨by rw [hdl]; unfold maxLen; omega, hdo, Or.inr ⟨_, _, rfl, by omega, hR4⟩⟩, by show d.length ≤ 32; omega, by show 32 ≤ maxLen; unfold maxLen; omega⟩
  have hP := one_part w4 #[.slice (some ⟨w3.heap.size, 0, none⟩) 32 32] ⟨some ⟨w3.heap.size, 0, none⟩, 32, d⟩ hat (by simp only [Part.val, hdl])
  have hBp : Below w.heap.size w (w4.alloc (.cells #[.slice (some ⟨w3.heap.size, 0, none⟩) 32 32] 51)) := hB4.alloc hB4.size _
  have hBq : Below w4.heap.size w4 (w4.alloc (.cells #[.slice (some ⟨w3.heap.size, 0, none⟩) 32 32] 51)) := (Below.refl _ _).alloc (Nat.le_refl _) _
  have hcz : cat [(⟨some ⟨w3.heap.size, 0, none⟩, 32, d⟩ : Part)] = d := by simp [cat]
  have c2 := macC_any 92 w1.heap.size kb _ 1 _ _ (hG.below hBp) hbl (range_below hR4k hBq (by omega)) (by simp; omega) hP (by rw [hcz]; omega) (by simp)
  rw [hcz] at c2
  simp only [List.length_cons, List.length_nil, Nat.zero_add] at c2
  obtain ⟨m, hm⟩ : ∃ m, Hid (sha (xorL 92 kb ++ d) = m) := ⟨_, rfl⟩
  have hml : m.length = 32 := by rw [← hm.out]; exact sha_length _
  rw [hm.out] at c2 HM
  clear hP hat hcz hm
  try simp only [Act.put]
  go_wp2_with fail
  refine c2.mono ?_
  rintro e w5 ⟨rfl, hw5⟩
  clear c2
  have hB5 := hBp.trans (hw5.mono hBp.size)
  have hT5' := there_below (there_below hT4 hBq (by omega)) hw5 (by simp; omega)
  have hT5 : w5.there w.heap.size 0 (v8 m).toArray.size := by
    have e : (v8 m).toArray.size = 32 := by rw [List.size_toArray, v8_length, hml]
    rw [e]; exact hT5'
  have hi := info24 m hml
  have h1c := all_oneCell_toArray (v8_one m)
  clear hw5 hBq hBp
  go_wp2_with (refine wpList_store_mid (op := ⟨none, .store 54 (.tmp 4) (.tmp 17), _, _, _, none⟩) rfl 54 _ _ rfl _ _ (v8 m).toArray rfl rfl hT5 hi h1c ?_)
  have hRr := World.rangeAt_setCells_same w5 w.heap.size 0 (v8 m) (by rw [v8_length, hml]; exact hT5')
  have hBl := below_sets (Nat.le_refl w.heap.size) (v8 m) 0 w5 hB5
  have hrs := run_loadVar_mid (P := Tryd.prog) (w5.setCells w.heap.size 0 (v8 m)) w.heap.size 0 54 (v8 m) _ hRr Tryd.underlying54 rfl (by simpa using hi)
  refine bodyPost_ret (v := .agg (v8 m).toArray) (by simp [results, Tryd.results24, Act.put, asAddr, hrs]) rfl ⟨by rw [HM.out], hBl⟩
end Go.Proofs.YtbfhpgneaklgoaaDoor
