/- seal.blockOf: a key, filled up to a block -/
import Derived.Test.YtbfhpgneaklgoaaDoorBase
import Derived.Test.YtbfhpgneaklgoaaDoorOwn
namespace Go.Proofs.YtbfhpgneaklgoaaDoor
open Go.RowKit
open Sha
namespace Sha
/-- a key's bytes, by its digest where it is too long; filled with zeros -/
def macKey (zs : List Int) : List Int := if 64 < zs.length then sha zs else zs
def macBlock (zs : List Int) : List Int := macKey zs ++ List.replicate (64 - (macKey zs).length) 0
end Sha
theorem isz52 : (Tryd.prog.info? 71).map (·.size) = some 64 := by kernel_rfl
theorem macKey_len (zs : List Int) : (macKey zs).length ≤ 64 := by
  unfold macKey
  split
  · rw [sha_length]; omega
  · omega
theorem macKey_ok (zs : List Int) (h : ∀ z ∈ zs, 0 ≤ z ∧ z < 256) : ∀ z ∈ macKey zs, 0 ≤ z ∧ z < 256 := by
  unfold macKey
  split
  · exact sha_ok zs
  · exact h
theorem macBlock_len (zs : List Int) : (macBlock zs).length = 64 := by
  have := macKey_len zs
  simp [macBlock]; omega
theorem new64 (w : World) : (w.alloc (.cells (Array.replicate 64 (.int .u8 0)) 71)).rangeAt w.heap.size 0 (v8 (List.replicate 64 (0 : Int))) ∧ (w.alloc (.cells (Array.replicate 64 (.int .u8 0)) 71)).there w.heap.size 0 64 := new_bytes w 64 71
/-- copy into the head of an array -/
theorem copy_head (w : World) (B : Nat) (a : Option Addr) (cap : Nat) (ks : List Int) (hl : ks.length ≤ 64) (h : RowAt w a ks) (hT : w.there B 0 64) (hz : w.rangeAt B 0 (v8 (List.replicate 64 (0 : Int)))) :
    ∃ w', (Builtin.copy_ #[51, 51] 3 #[.slice (some ⟨B, 0, none⟩) 64 64, .slice a ks.length cap]).run Tryd.prog w = .ok (goInt ks.length) w' ∧ w'.rangeAt B 0 (v8 (ks ++ List.replicate (64 - ks.length) (0 : Int))) ∧ w' = w.setCells B 0 (v8 ks) := by
  rcases h.2.2 with rfl | ⟨b, off, rfl, hb, hr⟩
  · exact ⟨w, run_copy_none (P := Tryd.prog) w 51 51 3 5 _ a 64 64 0 cap Tryd.underlying51 isz8 rfl, by simpa using hz, rfl⟩
  · refine ⟨w.setCells B 0 (v8 ks), ?_, ?_, rfl⟩
    · have := run_copy_cells (P := Tryd.prog) w 51 51 3 5 B 0 64 64 ⟨b, off, none⟩ ks.length cap (v8 ks) Tryd.underlying51 isz8 (by rw [v8_length]; exact (Nat.min_eq_left hl).symm) (fun j v hv => by rw [Addr.add_mid]; exact hr j v hv) (fun j hj => by rw [v8_length] at hj; exact (hT j (by omega)).1) (fun j hj => by rw [v8_length] at hj; exact (hT j (by omega)).2) (v8_one _)
      rw [v8_length] at this
      exact this
    · have e0 : List.replicate 64 (0 : Int) = [] ++ List.replicate ks.length (0 : Int) ++ List.replicate (64 - ks.length) (0 : Int) := by
        rw [List.nil_append, List.replicate_append_replicate]; congr 1; omega
      rw [e0, v8_append, v8_append] at hz
      have := range_fill (vs := v8 ks) hz (by simp) (by
        rw [v8_length]
        have := there_part hT 0 ks.length (by omega)
        simpa [v8] using this)
      rw [← v8_append, ← v8_append] at this
      simpa [v8] using this
set_option maxRecDepth 20000 in
set_option maxHeartbeats 1000000 in
theorem blockOf_any (a : Option Addr) (cap : Nat) (zs : List Int) (w : World) (hG : Glob w) (h : RowAt w a zs) (hc : zs.length ≤ cap) (hm : cap ≤ maxLen) (hl : zs.length ≤ 1000000) :
   Calls Tryd.prog 40 #[.slice a zs.length cap] w fun e w' => e = .returned (.agg (v8 (macBlock zs)).toArray) ∧ Below w.heap.size w w' := by
  go_enter Tryd.func40, Tryd.ntmps40
  go_upto_region 2 with fail
  go_name_world w1 hw1
  obtain ⟨hB1, hZ, hT, hT0, hz1⟩ : Below w.heap.size w w1 ∧ w1.rangeAt (w.heap.size + 1) 0 (v8 (List.replicate 64 (0 : Int))) ∧ w1.there (w.heap.size + 1) 0 64 ∧ w1.there w.heap.size 0 64 ∧ w1.heap.size = w.heap.size + 2 := by
    have q := new64 (w.alloc (.cells (Array.replicate 64 (.int .u8 0)) 71))
    have q2 := World.there_alloc (new64 w).2 (.cells (Array.replicate 64 (.int .u8 0)) 71)
    have es : (w.alloc (.cells (Array.replicate 64 (.int .u8 0)) 71)).heap.size = w.heap.size + 1 := by simp
    have hB : Below w.heap.size w ((w.alloc (.cells (Array.replicate 64 (.int .u8 0)) 71)).alloc (.cells (Array.replicate 64 (.int .u8 0)) 71)) := ((Below.refl _ _).alloc (Nat.le_refl _) _).alloc (by simp) _
    have hs : ((w.alloc (.cells (Array.replicate 64 (.int .u8 0)) 71)).alloc (.cells (Array.replicate 64 (.int .u8 0)) 71)).heap.size = w.heap.size + 2 := by simp
    rw [es] at q
    rw [show (w.alloc (.cells (Array.replicate 64 (.int .u8 0)) 71)).alloc (.cells (Array.replicate 64 (.int .u8 0)) 71) = w1 from hw1] at q q2 hB hs
    exact ⟨hB, q.1, q.2, q2, hs⟩
  clear hw1
  have HZ1 : Hid (w1.heap.size = w.heap.size + 2) := hz1
  clear hz1
  have fin : ∀ (w3 : World) (ks : List Int), ks = macKey zs → w3.rangeAt (w.heap.size + 1) 0 (v8 (ks ++ List.replicate (64 - ks.length) (0 : Int))) → w3.rangeAt (w.heap.size + 1) 0 (v8 (macBlock zs)) := fun w3 ks e hr => by rw [e] at hr; exact hr
  by_cases hlt : 64 < zs.length
  · have hltI : (64 : Int) < zs.length := by omega
    have ek : macKey zs = sha zs := by unfold macKey; rw [if_pos hlt]
    have hat : (⟨a, cap, zs⟩ : Part).at w1 := Part.at.below (w := w) ⟨h, hc, hm⟩ hB1
    have hP := one_part w1 #[.slice a zs.length cap] ⟨a, cap, zs⟩ hat rfl
    have hBp : Below w.heap.size w (w1.alloc (.cells #[.slice a zs.length cap] 51)) := hB1.alloc hB1.size _
    have hcz : cat [(⟨a, cap, zs⟩ : Part)] = zs := by simp [cat]
    have c1 := sum_any _ 1 _ _ (hG.below hBp) hP (by rw [hcz]; omega)
    rw [hcz] at c1
    simp only [List.length_cons, List.length_nil, Nat.zero_add] at c1
    have hBq : Below w1.heap.size w1 (w1.alloc (.cells #[.slice a zs.length cap] 51)) := (Below.refl _ _).alloc (Nat.le_refl _) _
    obtain ⟨d, hd⟩ : ∃ d, Hid (sha zs = d) := ⟨_, rfl⟩
    have hdl : d.length = 32 := by rw [← hd.out]; exact sha_length zs
    have hdo : ∀ z ∈ d, 0 ≤ z ∧ z < 256 := by rw [← hd.out]; exact sha_ok zs
    rw [hd.out] at c1 ek
    clear hP hat hcz
    go_wp2_with fail
    refine c1.mono ?_
    rintro e w2 ⟨rfl, hw2⟩
    have hw2' : Below w1.heap.size w1 w2 := hBq.trans (hw2.mono hBq.size)
    clear c1 hw2 hBq hBp
    have hd1 : (v8 d).length = 32 := by rw [v8_length, hdl]
    have F := fresh_store w2 (Array.replicate 32 (.int .u8 0)) 54 (v8 d) (by rw [hd1]; rfl)
    have hi24 : (Tryd.prog.info? 54).map (·.size) = some (v8 d).toArray.size := by rw [List.size_toArray, hd1]; exact isz24
    have hN24 : (w2.alloc (.cells (Array.replicate 32 (.int .u8 0)) 54)).there w2.heap.size 0 (v8 d).toArray.size := by
      have e : (v8 d).toArray.size = 32 := by rw [List.size_toArray, hd1]
      rw [e]; exact (new_bytes w2 32 54).2
    have h1d := all_oneCell_toArray (v8_one d)
    go_upto_region 4 with (refine wpList_store_mid (op := ⟨none, .store 54 (.tmp 4) (.tmp 10), _, _, _, none⟩) rfl 54 _ _ rfl _ _ (v8 d).toArray rfl rfl hN24 hi24 h1d ?_)
    go_name_world w4 hw4
    rw [show (w2.alloc (.cells (Array.replicate 32 (.int .u8 0)) 54)).setCells w2.heap.size 0 (v8 d) = w4 from hw4] at F
    obtain ⟨hRd, hBd, hzd, _⟩ := F
    have hw4' : Below w1.heap.size w1 w4 := hw2'.trans (hBd.mono hw2'.size)
    have hB4 : Below w.heap.size w w4 := hB1.trans (hw4'.mono hB1.size)
    have hZ4 := range_below hZ hw4' (by have := HZ1.out; omega)
    have hT4 := there_below hT hw4' (by have := HZ1.out; omega)
    have hT04 := there_below hT0 hw4' (by have := HZ1.out; omega)
    have hrow : RowAt w4 (some ⟨w2.heap.size, 0, none⟩) d := ⟨by rw [hdl]; unfold maxLen; omega, hdo, Or.inr ⟨_, _, rfl, by omega, hRd⟩⟩
    obtain ⟨w3, hcp, hr3, hw3⟩ := copy_head w4 (w.heap.size + 1) (some ⟨w2.heap.size, 0, none⟩) 32 d (by omega) hrow hT4 hZ4
    have hsl := slice_all (w := w4) Tryd.underlying71 isz8 (w.heap.size + 1) 0 (by omega)
    have hsl2 := slice_all (w := w4) Tryd.underlying54 isz8 w2.heap.size 0 (by omega)
    have hR3 := fin w3 d ek.symm hr3
    have hB3 : Below w.heap.size w w3 := by rw [hw3]; exact below_sets (Nat.le_succ _) _ _ _ hB4
    have hT3 : w3.there w.heap.size 0 64 := by rw [hw3]; exact World.there_setCells hT04 _ _ _
    have hml := macBlock_len zs
    rw [hdl] at hcp
    clear fin hr3 ek hw4 hN24 hi24 h1d hd1 hZ hT hT0 hB1
    simp only [Act.put]
    go_upto_region 6 with fail
    rw [← hw3]
    obtain ⟨cs, hcs⟩ : ∃ cs, Hid (v8 (macBlock zs) = cs) := ⟨_, rfl⟩
    have hcl : cs.length = 64 := by rw [← hcs.out, v8_length, hml]
    have h1c : ∀ v ∈ cs, v.oneCell' = true := by rw [← hcs.out]; exact v8_one _
    rw [hcs.out] at hR3
    have hi : (Tryd.prog.info? 71).map (·.size) = some cs.length := by rw [hcl]; exact isz52
    clear hw3
    refine wp_region_list ?_
    refine wpList_load_mid rfl 71 _ rfl _ _ rfl cs _ hR3 Tryd.underlying71 rfl hi ?_
    refine wpList_store_mid rfl 71 _ _ rfl _ _ cs.toArray rfl rfl (by simpa [hcl] using hT3) (by simpa using hi) (all_oneCell_toArray h1c) ?_
    have hRr := World.rangeAt_setCells_same w3 w.heap.size 0 cs (by rw [hcl]; exact hT3)
    have hBl := below_sets (Nat.le_refl w.heap.size) cs 0 w3 hB3
    generalize w3.setCells w.heap.size 0 cs = wx at *
    have hrs := run_loadVar_mid (P := Tryd.prog) wx w.heap.size 0 71 cs _ hRr Tryd.underlying71 rfl hi
    clear hi
    go_wp2_with fail
    refine bodyPost_ret (v := .agg cs.toArray) (by simp [results, Tryd.results40, Act.put, asAddr, hrs]) rfl ⟨by rw [hcs.out], hBl⟩
  · have hltI : ¬ (64 : Int) < zs.length := by omega
    have ek : macKey zs = zs := by unfold macKey; rw [if_neg hlt]
    obtain ⟨w3, hcp, hr3, hw3⟩ := copy_head w1 (w.heap.size + 1) a cap zs (by omega) (h.below hB1) hT hZ
    have hsl := slice_all (w := w1) Tryd.underlying71 isz8 (w.heap.size + 1) 0 (by omega)
    have hR3 := fin w3 zs ek.symm hr3
    have hB3 : Below w.heap.size w w3 := by rw [hw3]; exact below_sets (Nat.le_succ _) _ _ _ hB1
    have hT3 : w3.there w.heap.size 0 64 := by rw [hw3]; exact World.there_setCells hT0 _ _ _
    have hml := macBlock_len zs
    clear fin hr3 ek
    go_upto_region 6 with fail
    rw [← hw3]
    obtain ⟨cs, hcs⟩ : ∃ cs, Hid (v8 (macBlock zs) = cs) := ⟨_, rfl⟩
    have hcl : cs.length = 64 := by rw [← hcs.out, v8_length, hml]
    have h1c : ∀ v ∈ cs, v.oneCell' = true := by rw [← hcs.out]; exact v8_one _
    rw [hcs.out] at hR3
    have hi : (Tryd.prog.info? 71).map (·.size) = some cs.length := by rw [hcl]; exact isz52
    clear hw3
    refine wp_region_list ?_
    refine wpList_load_mid rfl 71 _ rfl _ _ rfl cs _ hR3 Tryd.underlying71 rfl hi ?_
    refine wpList_store_mid rfl 71 _ _ rfl _ _ cs.toArray rfl rfl (by simpa [hcl] using hT3) (by simpa using hi) (all_oneCell_toArray h1c) ?_
    have hRr := World.rangeAt_setCells_same w3 w.heap.size 0 cs (by rw [hcl]; exact hT3)
    have hBl := below_sets (Nat.le_refl w.heap.size) cs 0 w3 hB3
    generalize w3.setCells w.heap.size 0 cs = wx at *
    have hrs := run_loadVar_mid (P := Tryd.prog) wx w.heap.size 0 71 cs _ hRr Tryd.underlying71 rfl hi
    clear hi
    go_wp2_with fail
    refine bodyPost_ret (v := .agg cs.toArray) (by simp [results, Tryd.results40, asAddr, hrs]) rfl ⟨by rw [hcs.out], hBl⟩
end Go.Proofs.YtbfhpgneaklgoaaDoor
