/- seal.Derive: the contract -/
import Derived.Test.YtbfhpgneaklgoaaDoorKeys
import Derived.Test.YtbfhpgneaklgoaaDoorRefMac
namespace Go.Proofs.YtbfhpgneaklgoaaDoor
open Go.RowKit
open Sha Tal
/-- an identity's key -/
def keyOf (seed : ByteArray) (id : Nat) : List Int := sha (textL seed ++ putL (id : Int))
def keysOf (seed : ByteArray) (n : Nat) : List (List Int) := (List.range n).map (keyOf seed)
theorem keysOf_length (seed : ByteArray) (n : Nat) : (keysOf seed n).length = n := by simp [keysOf]
theorem keysOf_get (seed : ByteArray) (n i : Nat) (d : List Int) (h : (keysOf seed n)[i]? = some d) : i < n ∧ d = keyOf seed i := by
  have hi : i < n := by have := (List.getElem?_eq_some_iff.1 h).1; simpa [keysOf] using this
  refine ⟨hi, ?_⟩
  simp [keysOf, List.getElem?_map, List.getElem?_range hi] at h
  exact h.symm
theorem keysOf_getD (seed : ByteArray) (n i : Nat) (h : i < n) : (keysOf seed n).getD i [] = keyOf seed i := by
  rw [List.getD_eq_getElem?_getD, keysOf, List.getElem?_map, List.getElem?_range h]; rfl
theorem keyOf_length (seed : ByteArray) (id : Nat) : (keyOf seed id).length = 32 := sha_length _
theorem keyOf_ok (seed : ByteArray) (id : Nat) : ∀ z ∈ keyOf seed id, 0 ≤ z ∧ z < 256 := sha_ok _
theorem info32 : (Tryd.prog.info? 54).map (fun i => (i.zero, i.size, i.bytes)) = some (some (.agg (Array.replicate 32 (.int .u8 0))), 32, 32) := by kernel_rfl
theorem own_there {w : World} {base : Nat} {e : TypeId} {size g n : Nat} {xs : List Value} (h : w.ownsRow base e size (.slice (some ⟨g, 0, none⟩) n n) n xs) : w.there g 0 (n * size) := by
  rcases h.2 with ⟨hv, _⟩ | ⟨g', cap, cur, hv, hb, hg, h1, h2, h3, h4⟩
  · cases hv
  · injection hv with ha hl hc
    simp only [Option.some.injEq, Addr.mk.injEq] at ha
    obtain ⟨rfl, _⟩ := ha
    subst hc
    intro j hj
    rw [Nat.zero_add]
    have hj' : j < cur.size := by rw [h3]; exact hj
    constructor
    · simp [World.cell?, hg, hj']
    · simp [World.frozen?, hg]
theorem there_mid {w : World} {g o n i m : Nat} (h : w.there g o n) (hm : i + m ≤ n) : w.there g (o + i) m := there_part h i m hm
theorem derive_no (seed : ByteArray) (n : Int) (w : World) (h : n < 1 ∨ 4096 < n ∨ 64 < seed.size) :
    Calls Tryd.prog 6 #[.string seed, .int .i64 n] w fun e w' => e = .returned (.pointer none) ∧ w' = w := by
  by_cases h1 : n < 1
  · go_enter Tryd.func6, Tryd.ntmps6
    go_wp2
    go_ret
    exact ⟨rfl, rfl⟩
  · by_cases h2 : 4096 < n
    · go_enter Tryd.func6, Tryd.ntmps6
      go_wp2
      go_ret
      exact ⟨rfl, rfl⟩
    · have h3 : (64 : Int) < seed.size := by omega
      go_enter Tryd.func6, Tryd.ntmps6
      go_wp2
      go_ret
      exact ⟨rfl, rfl⟩
theorem putL_pos (n : Int) (h : 0 ≤ n) : 0 < (putL n).length := by
  unfold putL; rw [if_neg (by omega)]; simp [numB]
set_option maxRecDepth 20000 in
set_option maxHeartbeats 2000000 in
theorem derive_yes (seed : ByteArray) (n : Nat) (w : World) (hG : Glob w) (hn1 : 1 ≤ n) (hn2 : n ≤ 4096) (hs : seed.size ≤ 64) :
    Calls Tryd.prog 6 #[.string seed, .int .i64 (n : Int)] w fun e w' => ∃ p, e = .returned (.pointer p) ∧ p ≠ none ∧ KeysAt w' p (keysOf seed n) ∧ Below w.heap.size w w' := by
  have t1 : ¬ (n : Int) < 1 := by omega
  have t2 : ¬ (4096 : Int) < n := by omega
  have t3 : ¬ (64 : Int) < seed.size := by omega
  obtain ⟨i0, hi, hz0, hz1, hz2⟩ := info_parts info32
  obtain ⟨w1, hmk, hown1, hgr1⟩ := run_makeSlice_full (P := Tryd.prog) w w.heap.size 48 54 i0 _ 32 Tryd.underlying48 hi hz0 hz1 .i64 .i64 n (by omega) (by rw [hz2]; omega) (by unfold maxLen; omega) (Nat.le_refl _)
  have hT1 := own_there hown1
  have hB1 : Below w.heap.size w w1 := (Below.refl _ _).grown hgr1 (Nat.le_refl _) (fun _ h => by cases h)
  have hs1 : w.heap.size < w1.heap.size := by
    have := (hT1 0 (by omega)).1
    obtain ⟨u, hu⟩ := Option.isSome_iff_exists.1 this
    exact World.block_lt_of_cell? w1 _ hu
  clear hown1 hgr1 hi hz0 hz1 hz2
  have hB2' : Below w1.heap.size w1 (w1.alloc (.cells #[.slice (some ⟨w.heap.size, 0, none⟩) n n] 50)) := (Below.refl _ _).alloc (Nat.le_refl _) _
  have hB2 := hB1.trans (hB2'.mono hB1.size)
  have hT2 := there_below hT1 hB2' hs1
  have hK2 : (w1.alloc (.cells #[.slice (some ⟨w.heap.size, 0, none⟩) n n] 50)).cell? ⟨w1.heap.size, 0, none⟩ = some (.slice (some ⟨w.heap.size, 0, none⟩) n n) := by
    rw [World.cell?_alloc_at _ _ _ _ rfl]; rfl
  have ct := putText_any none 0 [] seed (w1.alloc (.cells #[.slice (some ⟨w.heap.size, 0, none⟩) n n] 50)) (nil_row _) (by simp) (by omega)
  rw [List.nil_append] at ct
  have htl : (textL seed).length ≤ 73 ∧ 0 < (textL seed).length := by
    unfold textL
    have h1 := putL_length (seed.size : Int) (by omega)
    have h2 := putL_pos (seed.size : Int) (by omega)
    rw [List.length_append, strL_length]; omega
  have HK : Hid (∀ i, keyOf seed i = sha (textL seed ++ putL (i : Int))) := fun i => rfl
  generalize textL seed = ts at *
  go_enter Tryd.func6, Tryd.ntmps6
  go_wp2_with fail
  refine ct.mono ?_
  rintro e w3 ⟨v3, rfl, hM3, hw3⟩
  clear ct hmk
  have hB3 := hB2.trans (hw3.mono hB2.size)
  have hT3 := there_below hT2 hw3 (by simp; omega)
  have hK3 := (hw3.cell (p := ⟨w1.heap.size, 0, none⟩) (by simp)).trans hK2
  have hs3 := hw3.size
  simp only [World.size_alloc] at hs3 hM3
  obtain ⟨a, cap, rfl, hca, hcm, hrow⟩ := hM3.rowAt (by unfold maxLen; omega)
  obtain ⟨b, off, rfl, hbl, hbr, hbn⟩ : ∃ b off, a = some ⟨b, off, none⟩ ∧ b < w3.heap.size ∧ w3.rangeAt b off (v8 ts) ∧ w1.heap.size + 1 ≤ b := by
    rcases hrow.2.2 with h0 | ⟨b, off, rfl, hb, hr⟩
    · have := htl.2; rw [h0] at this; simp at this
    · exact ⟨b, off, rfl, hb, hr, (hM3.1.lt b rfl).1⟩
  have hto := hM3.2
  obtain ⟨D, hD⟩ : ∃ D, w.heap.size = D := ⟨_, rfl⟩
  obtain ⟨K, hKe⟩ : ∃ K, w1.heap.size = K := ⟨_, rfl⟩
  rw [hD] at hT3 hK3
  rw [hKe] at hK3
  have hDK : D < K := by omega
  have hKs : K < w3.heap.size := by omega
  have hDb : D < b := by omega
  have hKb : K < b := by omega
  have hwD : w.heap.size ≤ D := by omega
  clear hM3 hrow hw3 hT2 hK2 hB2 hB2' hT1 hB1
  rw [hD, hKe]
  clear hD hKe hs1 hs3 hbn
  go_wp2_with fail
  go_loopw [26] (fun i wr => ∃ k : Nat, k ≤ n ∧ i = .int .i64 (k : Int) ∧ wr.cell? ⟨K, 0, none⟩ = some (.slice (some ⟨D, 0, none⟩) n n) ∧ wr.there D 0 (n * 32) ∧ (∀ j, j < k → wr.rangeAt D (j * 32) (v8 (keyOf seed j))) ∧ wr.rangeAt b off (v8 ts) ∧ b < wr.heap.size ∧ Below w.heap.size w wr) (fun i _ => n - (intOf i).toNat)
  case atStart => exact ⟨0, by omega, rfl, hK3, hT3, fun j h => by omega, hbr, hbl, hB3⟩
  case round =>
    clear hK3 hT3 hbr hbl hB3 hKs
    obtain ⟨k, hk, rfl, hK, hT, hR, hbr, hbl, hB⟩ := hrel
    by_cases hlt : k < n
    · have hltI : (k : Int) < n := by omega
      have HR := hide hR
      clear hR
      go_wp2_with fail
      refine hs_begin (S := (fun W : World => W.cell? ⟨K, 0, none⟩ = some (.slice (some ⟨D, 0, none⟩) n n))) 12 rfl (by kernel_rfl) ?_
      have hS : (fun W : World => W.cell? ⟨K, 0, none⟩ = some (.slice (some ⟨D, 0, none⟩) n n)) wr.drew := hK
      have hB5 : Below w.heap.size w wr.drew := hB.drew
      have hT5 : wr.drew.there D 0 (n * 32) := hT
      have hR5 : ∀ j, j < k → wr.drew.rangeAt D (j * 32) (v8 (keyOf seed j)) := HR.out
      have hb5 : wr.drew.rangeAt b off (v8 ts) := hbr
      have hl5 : b < wr.drew.heap.size := hbl
      generalize wr.drew = w5 at hS hB5 hT5 hR5 hb5 hl5 ⊢
      have HR5 := hide hR5
      clear HR hbr hbl hT hK hB hR5
      refine hs_take (i := 0) (d := some 29) (v := ?_) rfl (by kernel_rfl) (by kernel_rfl) (by kernel_rfl) (by rfl) ?_ hS rfl ?_
      rotate_left
      · intro w' hw
        go_simp
        try with_reducible rfl
      simp only [Act.put, List.setIfInBounds_toArray, List.set_cons_zero, List.set_cons_succ]
      refine hs_take (i := 1) (d := some 30) (v := ?_) rfl (by kernel_rfl) (by kernel_rfl) (by kernel_rfl) (by rfl) ?_ hS rfl ?_
      rotate_left
      · intro w' hw
        go_simp
        try with_reducible rfl
      simp only [Act.put, List.setIfInBounds_toArray, List.set_cons_zero, List.set_cons_succ]
      refine hs_take (i := 2) (d := some 31) (v := ?_) rfl (by kernel_rfl) (by kernel_rfl) (by kernel_rfl) (by rfl) ?_ hS rfl ?_
      rotate_left
      · intro w' hw
        go_simp
        try with_reducible rfl
      simp only [Act.put, List.setIfInBounds_toArray, List.set_cons_zero, List.set_cons_succ]
      refine hs_take (i := 3) (d := some 32) (v := ?_) rfl (by kernel_rfl) (by kernel_rfl) (by kernel_rfl) (by rfl) ?_ hS rfl ?_
      rotate_left
      · intro w' hw
        go_simp
        try with_reducible rfl
      simp only [Act.put, List.setIfInBounds_toArray, List.set_cons_zero, List.set_cons_succ]
      refine hs_take (i := 4) (d := some 33) (v := ?_) rfl (by kernel_rfl) (by kernel_rfl) (by kernel_rfl) (by rfl) ?_ hS rfl ?_
      rotate_left
      · intro w' hw
        go_simp
        try with_reducible rfl
      simp only [Act.put, List.setIfInBounds_toArray, List.set_cons_zero, List.set_cons_succ]
      refine hs_take (i := 5) (d := some 34) (v := ?_) rfl (by kernel_rfl) (by kernel_rfl) (by kernel_rfl) (by rfl) ?_ hS rfl ?_
      rotate_left
      · intro w' hw
        go_simp
        try with_reducible rfl
      simp only [Act.put, List.setIfInBounds_toArray, List.set_cons_zero, List.set_cons_succ]
      refine hs_take (i := 6) (d := some 35) (v := ?_) rfl (by kernel_rfl) (by kernel_rfl) (by kernel_rfl) (by rfl) ?_ hS rfl ?_
      rotate_left
      · intro w' hw
        go_simp
        try with_reducible rfl
      simp only [Act.put, List.setIfInBounds_toArray, List.set_cons_zero, List.set_cons_succ]
      have hrow5 : RowAt w5 (some ⟨b, off, none⟩) ts := ⟨by unfold maxLen; omega, hto, Or.inr ⟨_, _, rfl, hl5, hb5⟩⟩
      have cp := put_any (some ⟨b, off, none⟩) cap ts (k : Int) w5 hrow5 (by omega) (by omega)
      have hpl := putL_length (k : Int) (by omega)
      refine hs_call (i := 7) (d := some 36) rfl (by kernel_rfl) (by rfl) (by go_simp; first | done | exact ⟨rfl, rfl⟩ | with_reducible rfl) rfl ?_
      refine (cp).mono ?_
      rintro e' w6 ⟨v6, rfl, hM6, hw6⟩
      have hS : (fun W : World => W.cell? ⟨K, 0, none⟩ = some (.slice (some ⟨D, 0, none⟩) n n)) w6 := (hw6.cell (p := ⟨K, 0, none⟩) (show K < w5.heap.size by omega)).trans hS
      refine ⟨_, rfl, hS, ?_⟩
      simp only [Act.put, List.setIfInBounds_toArray, List.set_cons_zero, List.set_cons_succ]
      obtain ⟨a6, cap6, rfl, hc6, hm6, hrow6⟩ := hM6.rowAt (by rw [List.length_append]; unfold maxLen; omega)
      clear cp hM6
      have hs6 := hw6.size
      have hB7' : Below w6.heap.size w6 (w6.alloc (.cells #[.slice a6 (ts ++ putL (k : Int)).length cap6] 51)) := (Below.refl _ _).alloc (Nat.le_refl _) _
      have hP := one_part w6 #[.slice a6 (ts ++ putL (k : Int)).length cap6] ⟨a6, cap6, ts ++ putL (k : Int)⟩ ⟨hrow6, hc6, hm6⟩ rfl
      have hw7 := hw6.trans (hB7'.mono hw6.size)
      have hS : (fun W : World => W.cell? ⟨K, 0, none⟩ = some (.slice (some ⟨D, 0, none⟩) n n)) (w6.alloc (.cells #[.slice a6 (ts ++ putL (k : Int)).length cap6] 51)) := (hB7'.cell (p := ⟨K, 0, none⟩) (show K < w6.heap.size by omega)).trans hS
      refine hs_run (i := 8) (d := some 37) (v := .slice (some ⟨w6.heap.size, 0, none⟩) 1 1) (w' := (w6.alloc (.cells #[.slice a6 (ts ++ putL (k : Int)).length cap6] 51))) rfl (by kernel_rfl) (by rfl) (by go_simp; try with_reducible rfl) rfl hS ?_
      simp only [Act.put, List.setIfInBounds_toArray, List.set_cons_zero, List.set_cons_succ]
      have ec : cat [(⟨a6, cap6, ts ++ putL (k : Int)⟩ : Part)] = ts ++ putL (k : Int) := by simp [cat]
      have hB7 := hB5.trans (hw7.mono hB5.size)
      have csum := sum_any _ 1 _ _ (hG.below hB7) hP (by rw [ec, List.length_append]; omega)
      rw [ec, ← HK.out k] at csum
      simp only [List.length_cons, List.length_nil, Nat.zero_add] at csum
      clear hP ec hrow6
      generalize w6.alloc (.cells #[.slice a6 (ts ++ putL (k : Int)).length cap6] 51) = w7 at *
      refine hs_call (i := 9) (d := some 38) rfl (by kernel_rfl) (by rfl) (by go_simp; first | done | exact ⟨rfl, rfl⟩ | with_reducible rfl) rfl ?_
      refine (csum).mono ?_
      rintro e' w8 ⟨rfl, hw8⟩
      have hS : (fun W : World => W.cell? ⟨K, 0, none⟩ = some (.slice (some ⟨D, 0, none⟩) n n)) w8 := (hw8.cell (p := ⟨K, 0, none⟩) (show K < w7.heap.size by have := hw7.size; omega)).trans hS
      refine ⟨_, rfl, hS, ?_⟩
      simp only [Act.put, List.setIfInBounds_toArray, List.set_cons_zero, List.set_cons_succ]
      have hW8 := hw7.trans (hw8.mono hw7.size)
      have hB8 := hB5.trans (hW8.mono hB5.size)
      have hT8 := there_below hT5 hW8 (by omega)
      have hb8 := range_below hb5 hW8 hl5
      have hR8 : ∀ j, j < k → w8.rangeAt D (j * 32) (v8 (keyOf seed j)) := fun j hj => range_below (HR5.out j hj) hW8 (by omega)
      have hl8 : b < w8.heap.size := by have := hW8.size; omega
      clear csum hw8 hw7 hw6 hB7' hB7 HR5 hb5 hT5 hB5 hW8
      obtain ⟨d, hd⟩ : ∃ d, Hid (keyOf seed k = d) := ⟨_, hide rfl⟩
      have hdl : d.length = 32 := by rw [← hd.out]; exact keyOf_length _ _
      rw [hd.out]
      refine hs_take (i := 10) (d := some 39) (v := ?_) rfl (by kernel_rfl) (by kernel_rfl) (by kernel_rfl) (by rfl) ?_ hS rfl ?_
      rotate_left
      · intro w' hw
        go_simp
        try with_reducible rfl
      simp only [Act.put, List.setIfInBounds_toArray, List.set_cons_zero, List.set_cons_succ]
      have hTk : w8.there D (k * 32) 32 := by have := there_mid hT8 (i := k * 32) (m := 32) (by omega); rwa [Nat.zero_add] at this
      have hTk' : w8.there D (k * 32) (v8 d).toArray.size := by
        have e : (v8 d).toArray.size = 32 := by rw [List.size_toArray, v8_length, hdl]
        rw [e]; exact hTk
      have hst := run_storeVar_mid (P := Tryd.prog) w8 D (k * 32) 54 (v8 d).toArray hTk' (info24 d hdl) (all_oneCell_toArray (v8_one d))
      have hRn := World.rangeAt_setCells_same w8 D (k * 32) (v8 d) (by rw [v8_length, hdl]; exact hTk)
      have hSn : (w8.setCells D (k * 32) (v8 d)).cell? ⟨K, 0, none⟩ = some (.slice (some ⟨D, 0, none⟩) n n) := by
        have := World.rangeAt_setCells_apart (b' := K) (o' := 0) (cs := [.slice (some ⟨D, 0, none⟩) n n]) (w := w8) (fun j v hv => by
          match j, hv with
          | 0, hv => simp at hv; subst hv; exact hS) D (k * 32) (v8 d) (Or.inl (by omega))
        exact this 0 _ rfl
      have hbn := World.rangeAt_setCells_apart hb8 D (k * 32) (v8 d) (Or.inl (by omega))
      have hTn := World.there_setCells hT8 D (k * 32) (v8 d)
      have hBn := below_sets hwD (v8 d) (k * 32) w8 hB8
      have hRp : ∀ j, j < k → (w8.setCells D (k * 32) (v8 d)).rangeAt D (j * 32) (v8 (keyOf seed j)) := fun j hj => World.rangeAt_setCells_apart (hR8 j hj) D (k * 32) (v8 d) (Or.inr (Or.inl (by rw [v8_length, keyOf_length]; omega)))
      have hln : b < (w8.setCells D (k * 32) (v8 d)).heap.size := by rw [size_sets]; exact hl8
      refine hs_store (i := 11) (w' := w8.setCells D (k * 32) (v8 d)) rfl (by kernel_rfl) (by rfl) (exec_store rfl rfl rfl hst) rfl hSn ?_
      refine hs_done (by kernel_rfl) ?_
      generalize w8.setCells D (k * 32) (v8 d) = w9 at *
      clear hst hTk hTk' hS hb8 hT8 hR8
      have HRn := hide hRn
      have HRp := hide hRp
      clear hRn hRp
      go_wp2_with fail
      go_roundw
      case rel =>
        refine ⟨k + 1, by omega, by go_num, hSn, hTn, fun j hj => ?_, hbn, hln, hBn⟩
        rcases Nat.lt_or_eq_of_le (Nat.lt_succ_iff.1 hj) with h | rfl
        · exact HRp.out j h
        · rw [hd.out]; exact HRn.out
      case measure => simp [intOf]; omega
    · obtain rfl : k = n := by omega
      have HR := hide hR
      clear hR
      have hKs : K < wr.heap.size := World.block_lt_of_cell? wr _ hK
      have hDs : D < wr.heap.size := by omega
      go_wp2
      go_ret
      refine ⟨_, rfl, by simp, .inr ⟨K, _, _, rfl, hKs, by rw [keysOf_length]; exact hK, by rw [keysOf_length]; exact hn2, fun d hd => ?_, .inr ⟨D, rfl, hDs, fun i d hi => ?_⟩⟩, hB⟩
      · obtain ⟨i, _, rfl⟩ := List.mem_map.1 hd
        exact ⟨keyOf_length _ _, keyOf_ok _ _⟩
      · obtain ⟨hi', rfl⟩ := keysOf_get seed k i d hi
        exact HR.out i hi'
end Go.Proofs.YtbfhpgneaklgoaaDoor
