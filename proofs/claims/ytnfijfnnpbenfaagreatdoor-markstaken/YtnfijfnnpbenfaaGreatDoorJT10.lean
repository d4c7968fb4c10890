/- seal.Derive: the contract; seal.Keys: Check: the contract; the document's Keys: key, Sign, Check, Derive: contracts; rows of signs; signs: where one is put; sea -/
import Derived.Test.YtnfijfnnpbenfaaGreatDoorJT0
import Derived.Test.YtnfijfnnpbenfaaGreatDoorJT4
import Derived.Test.YtnfijfnnpbenfaaGreatDoorJT9
import Derived.Test.YtnfijfnnpbenfaaGreatDoorJT3
import Derived.Test.YtnfijfnnpbenfaaGreatDoorJT2
import Derived.Deep.MidRow
import Derived.Below
import Derived.Laws.StructEq
import Derived.OpenShut
import Derived.Lib.LaidTab
import Derived.Deep.Slices
import Derived.Test.YtnfijfnnpbenfaaGreatDoorJT1
import Derived.Deep.Cut
import Derived.Deep.RegionWith
import Derived.RegionTactic
import Derived.WalkSpells
import Derived.Lib.SliceRun
import Derived.Lib.ItoaWalk
import Derived.Outline
import Derived.BigRegion
import Derived.ChangeAlike
import Derived.Deep.RegionHeld3
import Derived.Shelf.Sort.Plain
import Derived.Shelf.Slices.In.SortNone
import Derived.Test.YtnfijfnnpbenfaaGreatDoorProg
import Derived.RangeFuncBox
import Derived.RangeFuncLeaves
import Derived.Shelf.Abstract
import Derived.OwnWalkIn
import Derived.TacticsInMore
import Derived.LoopNIn
import Derived.LoopIn
import Derived.Maps.AppendAt
import Derived.Sort.OwnSortedInts
import Derived.RangeFuncNested
import Derived.RangeFuncFrom
import Derived.Sort.CutIn
import Derived.OrdersIn
import Derived.RangeFuncCalls
import Derived.WalkMore
import Derived.Scope
namespace Go.Proofs.YtnfijfnnpbenfaaGreatDoor.Qs
open Go.RowKit
open Sha Tal
def keyOf (seed : ByteArray) (id : Nat) : List Int := sha (textL seed ++ putL (id : Int))
def keysOf (seed : ByteArray) (n : Nat) : List (List Int) := (List.range n).map (keyOf seed)
theorem keysOf_length (seed : ByteArray) (n : Nat) : (keysOf seed n).length = n := by simp [keysOf]
theorem keysOf_get (seed : ByteArray) (n i : Nat) (d : List Int) (h : (keysOf seed n)[i]? = some d) : i < n ∧ d = keyOf seed i := by
 have hi : i < n := by have := (List.getElem?_eq_some_iff.1 h).1; simpa [keysOf] using this
 refine ⟨hi, ?_⟩
 simp [keysOf, List.getElem?_map, List.getElem?_range hi] at h
 exact h.symm
theorem keysOf_getD (seed : ByteArray) (n i : Nat) (h : i < n) : (keysOf seed n).getD i [] = keyOf seed i := by
 rw [List.getD_eq_getElem?_getD, keysOf, List.getElem?_map, List.getElem?_range h]; rfl
theorem keyOf_length (seed : ByteArray) (id : Nat) : (keyOf seed id).length = 32 := sha_length _
theorem keyOf_ok (seed : ByteArray) (id : Nat) : ∀ z ∈ keyOf seed id, 0 ≤ z ∧ z < 256 := sha_ok _
theorem info32 : (Tryz.prog.info? 32).map (fun i => (i.zero, i.size, i.bytes)) = some (some (.agg (Array.replicate 32 (.int .u8 0))), 32, 32) := by kernel_rfl
theorem own_there {w : World} {base : Nat} {e : TypeId} {size g n : Nat} {xs : List Value} (h : w.ownsRow base e size (.slice (some ⟨g, 0, none⟩) n n) n xs) : w.there g 0 (n * size) := by
 rcases h.2 with ⟨hv, _⟩ | ⟨g', cap, cur, hv, hb, hg, h1, h2, h3, h4⟩
 ·cases hv
 ·injection hv with ha hl hc
  simp only [Option.some.injEq, Addr.mk.injEq] at ha
  obtain ⟨rfl, _⟩ := ha
  subst hc
  intro j hj
  rw [Nat.zero_add]
  have hj' : j < cur.size := by rw [h3]; exact hj
  constructor
  ·simp [World.cell?, hg, hj']
  ·simp [World.frozen?, hg]
theorem there_mid {w : World} {g o n i m : Nat} (h : w.there g o n) (hm : i + m ≤ n) : w.there g (o + i) m := there_part h i m hm
theorem putL_pos (n : Int) (h : 0 ≤ n) : 0 < (putL n).length := by
 unfold putL; rw [if_neg (by omega)]; simp [numB]
set_option maxRecDepth 20000 in
set_option maxHeartbeats 2000000 in
theorem derive_yes (seed : ByteArray) (n : Nat) (w : World) (hG : Glob w) (hn1 : 1 ≤ n) (hn2 : n ≤ 4096) (hs : seed.size ≤ 64) :
    Calls Tryz.prog 26 #[.string seed, .int .i64 (n : Int)] w fun e w' => ∃ p, e = .returned (.pointer p) ∧ p ≠ none ∧ KeysAt w' p (keysOf seed n) ∧ Below w.heap.size w w' := by
  have t1 : ¬ (n : Int) < 1 := by omega
  have t2 : ¬ (4096 : Int) < n := by omega
  have t3 : ¬ (64 : Int) < seed.size := by omega
  obtain ⟨i0, hi, hz0, hz1, hz2⟩ := info_parts info32
  obtain ⟨w1, hmk, hown1, hgr1⟩ := run_makeSlice_full (P := Tryz.prog) w w.heap.size 100 32 i0 _ 32 Tryz.underlying100 hi hz0 hz1 .i64 .i64 n (by omega) (by rw [hz2]; omega) (by unfold maxLen; omega) (Nat.le_refl _)
  have hT1 := own_there hown1
  have hB1 : Below w.heap.size w w1 := (Below.refl _ _).grown hgr1 (Nat.le_refl _) (fun _ h => by cases h)
  have hs1 : w.heap.size < w1.heap.size := by
    have := (hT1 0 (by omega)).1
    obtain ⟨u, hu⟩ := Option.isSome_iff_exists.1 this
    exact World.block_lt_of_cell? w1 _ hu
  clear hown1 hgr1 hi hz0 hz1 hz2
  have hB2' : Below w1.heap.size w1 (w1.alloc (.cells #[.slice (some ⟨w.heap.size, 0, none⟩) n n] 102)) := (Below.refl _ _).alloc (Nat.le_refl _) _
  have hB2 := hB1.trans (hB2'.mono hB1.size)
  have hT2 := there_below hT1 hB2' hs1
  have hK2 : (w1.alloc (.cells #[.slice (some ⟨w.heap.size, 0, none⟩) n n] 102)).cell? ⟨w1.heap.size, 0, none⟩ = some (.slice (some ⟨w.heap.size, 0, none⟩) n n) := by
    rw [World.cell?_alloc_at _ _ _ _ rfl]; rfl
  have ct := putText_any none 0 [] seed (w1.alloc (.cells #[.slice (some ⟨w.heap.size, 0, none⟩) n n] 102)) (nil_row _) (by simp) (by omega)
  rw [List.nil_append] at ct
  have htl : (textL seed).length ≤ 73 ∧ 0 < (textL seed).length := by
    unfold textL
    have h1 := putL_length (seed.size : Int) (by omega)
    have h2 := putL_pos (seed.size : Int) (by omega)
    rw [List.length_append, strL_length]; omega
  have HK : Hid (∀ i, keyOf seed i = sha (textL seed ++ putL (i : Int))) := fun i => rfl
  generalize textL seed = ts at *
  go_enter Tryz.func26, Tryz.ntmps26
  go_wp2_with fail
  refine ct.mono ?_
  rintro e w3 ⟨v3, rfl, hM3, hw3⟩
  clear ct hmk
  have hB3 := hB2.trans (hw3.mono hB2.size)
  have hT3 := there_below hT2 hw3 (by simp; omega)
  have hK3 := (hw3.cell (p := ⟨w1.heap.size, 0, none⟩) (by simp)).trans hK2
  have hs3 := hw3.size
  simp only [World.size_alloc] at hs3 hM3
  obtain ⟨a, cap, rfl, hca, hcm, hrow⟩ := hM3.rowAt (by unfold maxLen; omega)
  obtain ⟨b, off, rfl, hbl, hbr, hbn⟩ : ∃ b off, a = some ⟨b, off, none⟩ ∧ b < w3.heap.size ∧ w3.rangeAt b off (v8 ts) ∧ w1.heap.size + 1 ≤ b := by
    rcases hrow.2.2 with h0 | ⟨b, off, rfl, hb, hr⟩
    · have := htl.2; rw [h0] at this; simp at this
    · exact ⟨b, off, rfl, hb, hr, (hM3.1.lt b rfl).1⟩
  have hto := hM3.2
  obtain ⟨D, hD⟩ : ∃ D, w.heap.size = D := ⟨_, rfl⟩
  obtain ⟨K, hKe⟩ : ∃ K, w1.heap.size = K := ⟨_, rfl⟩
  rw [hD] at hT3 hK3
  rw [hKe] at hK3
  have hDK : D < K := by omega
  have hKs : K < w3.heap.size := by omega
  have hDb : D < b := by omega
  have hKb : K < b := by omega
  have hwD : w.heap.size ≤ D := by omega
  clear hM3 hrow hw3 hT2 hK2 hB2 hB2' hT1 hB1
  rw [hD, hKe]
  clear hD hKe hs1 hs3 hbn
  go_wp2_with fail
  go_loopw [26] (fun i wr => ∃ k : Nat, k ≤ n ∧ i = .int .i64 (k : Int) ∧ wr.cell? ⟨K, 0, none⟩ = some (.slice (some ⟨D, 0, none⟩) n n) ∧ wr.there D 0 (n * 32) ∧ (∀ j, j < k → wr.rangeAt D (j * 32) (v8 (keyOf seed j))) ∧ wr.rangeAt b off (v8 ts) ∧ b < wr.heap.size ∧ Below w.heap.size w wr) (fun i _ => n - (intOf i).toNat)
  case atStart => exact ⟨0, by omega, rfl, hK3, hT3, fun j h => by omega, hbr, hbl, hB3⟩
  case round =>
    clear hK3 hT3 hbr hbl hB3 hKs
    obtain ⟨k, hk, rfl, hK, hT, hR, hbr, hbl, hB⟩ := hrel
    by_cases hlt : k < n
    · have hltI : (k : Int) < n := by omega
      have HR := hide hR
      clear hR
      go_wp2_with fail
      refine hs_begin (S := (fun W : World => W.cell? ⟨K, 0, none⟩ = some (.slice (some ⟨D, 0, none⟩) n n))) 12 rfl (by kernel_rfl) ?_
      have hS : (fun W : World => W.cell? ⟨K, 0, none⟩ = some (.slice (some ⟨D, 0, none⟩) n n)) wr.drew := hK
      have hB5 : Below w.heap.size w wr.drew := hB.drew
      have hT5 : wr.drew.there D 0 (n * 32) := hT
      have hR5 : ∀ j, j < k → wr.drew.rangeAt D (j * 32) (v8 (keyOf seed j)) := HR.out
      have hb5 : wr.drew.rangeAt b off (v8 ts) := hbr
      have hl5 : b < wr.drew.heap.size := hbl
      generalize wr.drew = w5 at hS hB5 hT5 hR5 hb5 hl5 ⊢
      have HR5 := hide hR5
      clear HR hbr hbl hT hK hB hR5
      refine hs_t 0 29 (?_) rfl (by kernel_rfl) (by kernel_rfl) (by kernel_rfl) (by rfl) ?_ hS rfl ?_
      rotate_left
      · intro w' hw
        go_simp
        try with_reducible rfl
      simp only [nz]
      refine hs_t 1 30 (?_) rfl (by kernel_rfl) (by kernel_rfl) (by kernel_rfl) (by rfl) ?_ hS rfl ?_
      rotate_left
      · intro w' hw
        go_simp
        try with_reducible rfl
      simp only [nz]
      refine hs_t 2 31 (?_) rfl (by kernel_rfl) (by kernel_rfl) (by kernel_rfl) (by rfl) ?_ hS rfl ?_
      rotate_left
      · intro w' hw
        go_simp
        try with_reducible rfl
      simp only [nz]
      refine hs_t 3 32 (?_) rfl (by kernel_rfl) (by kernel_rfl) (by kernel_rfl) (by rfl) ?_ hS rfl ?_
      rotate_left
      · intro w' hw
        go_simp
        try with_reducible rfl
      simp only [nz]
      refine hs_t 4 33 (?_) rfl (by kernel_rfl) (by kernel_rfl) (by kernel_rfl) (by rfl) ?_ hS rfl ?_
      rotate_left
      · intro w' hw
        go_simp
        try with_reducible rfl
      simp only [nz]
      refine hs_t 5 34 (?_) rfl (by kernel_rfl) (by kernel_rfl) (by kernel_rfl) (by rfl) ?_ hS rfl ?_
      rotate_left
      · intro w' hw
        go_simp
        try with_reducible rfl
      simp only [nz]
      refine hs_t 6 35 (?_) rfl (by kernel_rfl) (by kernel_rfl) (by kernel_rfl) (by rfl) ?_ hS rfl ?_
      rotate_left
      · intro w' hw
        go_simp
        try with_reducible rfl
      simp only [nz]
      have hrow5 : RowAt w5 (some ⟨b, off, none⟩) ts := ⟨by unfold maxLen; omega, hto, Or.inr ⟨_, _, rfl, hl5, hb5⟩⟩
      have cp := put_any (some ⟨b, off, none⟩) cap ts (k : Int) w5 hrow5 (by omega) (by omega)
      have hpl := putL_length (k : Int) (by omega)
      refine hs_call (i := 7) (d := some 36) rfl (by kernel_rfl) (by rfl) (by go_simp; first | done | exact ⟨rfl, rfl⟩ | with_reducible rfl) rfl ?_
      refine (cp).mono ?_
      rintro e' w6 ⟨v6, rfl, hM6, hw6⟩
      have hS : (fun W : World => W.cell? ⟨K, 0, none⟩ = some (.slice (some ⟨D, 0, none⟩) n n)) w6 := (hw6.cell (p := ⟨K, 0, none⟩) (show K < w5.heap.size by omega)).trans hS
      refine ⟨_, rfl, hS, ?_⟩
      simp only [nz]
      obtain ⟨a6, cap6, rfl, hc6, hm6, hrow6⟩ := hM6.rowAt (by rw [List.length_append]; unfold maxLen; omega)
      clear cp hM6
      have hs6 := hw6.size
      have hB7' : Below w6.heap.size w6 (w6.alloc (.cells #[.slice a6 (ts ++ putL (k : Int)).length cap6] 57)) := (Below.refl _ _).alloc (Nat.le_refl _) _
      have hP := one_part w6 #[.slice a6 (ts ++ putL (k : Int)).length cap6] ⟨a6, cap6, ts ++ putL (k : Int)⟩ ⟨hrow6, hc6, hm6⟩ rfl
      have hw7 := hw6.trans (hB7'.mono hw6.size)
      have hS : (fun W : World => W.cell? ⟨K, 0, none⟩ = some (.slice (some ⟨D, 0, none⟩) n n)) (w6.alloc (.cells #[.slice a6 (ts ++ putL (k : Int)).length cap6] 57)) := (hB7'.cell (p := ⟨K, 0, none⟩) (show K < w6.heap.size by omega)).trans hS
      refine hs_run (i := 8) (d := some 37) (v := .slice (some ⟨w6.heap.size, 0, none⟩) 1 1) (w' := (w6.alloc (.cells #[.slice a6 (ts ++ putL (k : Int)).length cap6] 57))) rfl (by kernel_rfl) (by rfl) (by go_simp; try with_reducible rfl) rfl hS ?_
      simp only [nz]
      have ec : cat [(⟨a6, cap6, ts ++ putL (k : Int)⟩ : Part)] = ts ++ putL (k : Int) := by simp [cat]
      have hB7 := hB5.trans (hw7.mono hB5.size)
      have csum := sum_any _ 1 _ _ (hG.below hB7) hP (by rw [ec, List.length_append]; omega)
      rw [ec, ← HK.out k] at csum
      simp only [List.length_cons, List.length_nil, Nat.zero_add] at csum
      clear hP ec hrow6
      generalize w6.alloc (.cells #[.slice a6 (ts ++ putL (k : Int)).length cap6] 57) = w7 at *
      refine hs_call (i := 9) (d := some 38) rfl (by kernel_rfl) (by rfl) (by go_simp; first | done | exact ⟨rfl, rfl⟩ | with_reducible rfl) rfl ?_
      refine (csum).mono ?_
      rintro e' w8 ⟨rfl, hw8⟩
      have hS : (fun W : World => W.cell? ⟨K, 0, none⟩ = some (.slice (some ⟨D, 0, none⟩) n n)) w8 := (hw8.cell (p := ⟨K, 0, none⟩) (show K < w7.heap.size by have := hw7.size; omega)).trans hS
      refine ⟨_, rfl, hS, ?_⟩
      simp only [nz]
      have hW8 := hw7.trans (hw8.mono hw7.size)
      have hB8 := hB5.trans (hW8.mono hB5.size)
      have hT8 := there_below hT5 hW8 (by omega)
      have hb8 := range_below hb5 hW8 hl5
      have hR8 : ∀ j, j < k → w8.rangeAt D (j * 32) (v8 (keyOf seed j)) := fun j hj => range_below (HR5.out j hj) hW8 (by omega)
      have hl8 : b < w8.heap.size := by have := hW8.size; omega
      clear csum hw8 hw7 hw6 hB7' hB7 HR5 hb5 hT5 hB5 hW8
      obtain ⟨d, hd⟩ : ∃ d, Hid (keyOf seed k = d) := ⟨_, hide rfl⟩
      have hdl : d.length = 32 := by rw [← hd.out]; exact keyOf_length _ _
      rw [hd.out]
      refine hs_t 10 39 (?_) rfl (by kernel_rfl) (by kernel_rfl) (by kernel_rfl) (by rfl) ?_ hS rfl ?_
      rotate_left
      · intro w' hw
        go_simp
        try with_reducible rfl
      simp only [nz]
      have hTk : w8.there D (k * 32) 32 := by have := there_mid hT8 (i := k * 32) (m := 32) (by omega); rwa [Nat.zero_add] at this
      have hTk' : w8.there D (k * 32) (v8 d).toArray.size := by
        have e : (v8 d).toArray.size = 32 := by rw [List.size_toArray, v8_length, hdl]
        rw [e]; exact hTk
      have hst := run_storeVar_mid (P := Tryz.prog) w8 D (k * 32) 32 (v8 d).toArray hTk' (info24 d hdl) (all_oneCell_toArray (v8_one d))
      have hRn := World.rangeAt_setCells_same w8 D (k * 32) (v8 d) (by rw [v8_length, hdl]; exact hTk)
      have hSn : (w8.setCells D (k * 32) (v8 d)).cell? ⟨K, 0, none⟩ = some (.slice (some ⟨D, 0, none⟩) n n) := by
        have := World.rangeAt_setCells_apart (b' := K) (o' := 0) (cs := [.slice (some ⟨D, 0, none⟩) n n]) (w := w8) (fun j v hv => by
          match j, hv with
          | 0, hv => simp at hv; subst hv; exact hS) D (k * 32) (v8 d) (Or.inl (by omega))
        exact this 0 _ rfl
      have hbn := World.rangeAt_setCells_apart hb8 D (k * 32) (v8 d) (Or.inl (by omega))
      have hTn := World.there_setCells hT8 D (k * 32) (v8 d)
      have hBn := below_sets hwD (v8 d) (k * 32) w8 hB8
      have hRp : ∀ j, j < k → (w8.setCells D (k * 32) (v8 d)).rangeAt D (j * 32) (v8 (keyOf seed j)) := fun j hj => World.rangeAt_setCells_apart (hR8 j hj) D (k * 32) (v8 d) (Or.inr (Or.inl (by rw [v8_length, keyOf_length]; omega)))
      have hln : b < (w8.setCells D (k * 32) (v8 d)).heap.size := by rw [size_sets]; exact hl8
      refine hs_store (i := 11) (w' := w8.setCells D (k * 32) (v8 d)) rfl (by kernel_rfl) (by rfl) (exec_store rfl rfl rfl hst) rfl hSn ?_
      refine hs_done (by kernel_rfl) ?_
      generalize w8.setCells D (k * 32) (v8 d) = w9 at *
      clear hst hTk hTk' hS hb8 hT8 hR8
      have HRn := hide hRn
      have HRp := hide hRp
      clear hRn hRp
      go_wp2_with fail
      go_roundw
      case rel =>
        refine ⟨k + 1, by omega, by go_num, hSn, hTn, fun j hj => ?_, hbn, hln, hBn⟩
        rcases Nat.lt_or_eq_of_le (Nat.lt_succ_iff.1 hj) with h | rfl
        · exact HRp.out j h
        · rw [hd.out]; exact HRn.out
      case measure => simp [intOf]; omega
    · obtain rfl : k = n := by omega
      have HR := hide hR
      clear hR
      have hKs : K < wr.heap.size := World.block_lt_of_cell? wr _ hK
      have hDs : D < wr.heap.size := by omega
      go_wp2
      go_ret
      refine ⟨_, rfl, by simp, .inr ⟨K, _, _, rfl, hKs, by rw [keysOf_length]; exact hK, by rw [keysOf_length]; exact hn2, fun d hd => ?_, .inr ⟨D, rfl, hDs, fun i d hi => ?_⟩⟩, hB⟩
      · obtain ⟨i, _, rfl⟩ := List.mem_map.1 hd
        exact ⟨keyOf_length _ _, keyOf_ok _ _⟩
      · obtain ⟨hi', rfl⟩ := keysOf_get seed k i d hi
        exact HR.out i hi'
def checkOf (r : List Int × Int) (t : List Int) : Bool := (r.2 == 0) && (r.1 == t)
set_option maxRecDepth 20000 in
set_option maxHeartbeats 1000000 in
theorem refKey_any (seed : ByteArray) (N : Int) (k : Nat) (w : World) (hs : seed.size ≤ 100000) (hk : k ≤ 100000) :
  Calls Tryz.prog 56 #[.agg #[.string seed, .int .i64 N], .int .i64 (k : Int)] w fun e w' => ∃ v, e = .returned v ∧ w'.ownsRow w.heap.size 5 1 v (keyOf seed k).length (v8 (keyOf seed k)) ∧ Below w.heap.size w w' := by
 have hB0 : Below w.heap.size w (w.alloc (.cells #[.string seed, .int .i64 N] 28)) := (Below.refl _ _).alloc (Nat.le_refl _) _
 have c1 := refPutText_any none 0 [] seed (w.alloc (.cells #[.string seed, .int .i64 N] 28)) (nil_row _) (by simp) (by omega)
 rw [List.nil_append] at c1
 have htl : (textL seed).length ≤ 100009 := by
  unfold textL
  have h1 := putL_length (seed.size : Int) (by omega)
  rw [List.length_append, strL_length]; omega
 have hpl := putL_length (k : Int) (by omega)
 have HK : Hid (keyOf seed k = sha (textL seed ++ putL (k : Int))) := rfl
 obtain ⟨d, hd⟩ : ∃ d, Hid (keyOf seed k = d) := ⟨_, hide rfl⟩
 have hdl : d.length = 32 := by rw [← hd.out]; exact keyOf_length _ _
 rw [hd.out] at HK ⊢
 generalize textL seed = ts at *
 go_enter Tryz.func56, Tryz.ntmps56
 go_wp2_with fail
 refine c1.mono ?_
 rintro e w1 ⟨v1, rfl, hM1, hw1⟩
 clear c1
 have hB1 := hB0.trans (hw1.mono hB0.size)
 obtain ⟨a1, cap1, rfl, _, _, hrow1⟩ := hM1.rowAt (by unfold maxLen; omega)
 clear hM1
 have c2 := refPut_any a1 cap1 ts (k : Int) w1 hrow1 (by omega) (by omega)
 go_wp2_with fail
 refine c2.mono ?_
 rintro e w2 ⟨v2, rfl, hM2, hw2⟩
 clear c2
 have hB2 := hB1.trans (hw2.mono hB1.size)
 obtain ⟨a2, cap2, rfl, _, _, hrow2⟩ := hM2.rowAt (by rw [List.length_append]; unfold maxLen; omega)
 clear hM2
 have c3 := refSum_any a2 cap2 (ts ++ putL (k : Int)) w2 hrow2 (by rw [List.length_append]; omega)
 rw [← HK.out] at c3
 generalize (ts ++ putL (k : Int)).length = n2 at *
 go_wp2_with fail
 refine c3.mono ?_
 rintro e w3 ⟨rfl, hw3⟩
 clear c3
 have hB3 := hB2.trans (hw3.mono hB2.size)
 go_wp2_with fail
 refine (bytes_any d w3 hdl).mono ?_
 rintro e w4 ⟨v4, rfl, hown4, hw4⟩
 have hB4 := hB3.trans (hw4.mono hB3.size)
 go_wp2
 go_ret
 exact ⟨_, rfl, owns_mono hown4 hB3.size, hB4⟩
def refSignOf (seed : ByteArray) (N id : Int) (body : ByteArray) : List Int × Int :=
 if id < 0 ∨ N ≤ id then (zeros16, 2) else ((mac (keyOf seed id.toNat) (strL body)).take 16, 0)
theorem refSignOf_length (seed : ByteArray) (N id : Int) (body : ByteArray) : (refSignOf seed N id body).1.length = 16 := by
 unfold refSignOf
 split
 ·rfl
 ·simp [mac_length]
theorem sign_same (seed : ByteArray) (n : Nat) (hn : 1 ≤ n) (id : Int) (body : ByteArray) : signOf (keysOf seed n) id body = refSignOf seed n id body := by
 unfold signOf refSignOf
 have h0 : keysOf seed n ≠ [] := fun h => by have := keysOf_length seed n; rw [h] at this; simp at this; omega
 rw [if_neg h0, keysOf_length]
 by_cases h : id < 0 ∨ (n : Int) ≤ id
 ·rw [if_pos h, if_pos h]
 ·rw [if_neg h, if_neg h, keysOf_getD seed n id.toNat (by omega)]
set_option maxRecDepth 20000 in
set_option maxHeartbeats 1000000 in
theorem refSign_any (seed : ByteArray) (N id : Int) (body : ByteArray) (w : World) (hs : seed.size ≤ 100000) (hN : N ≤ 100000) (hb : body.size ≤ 100000) :
  Calls Tryz.prog 18 #[.agg #[.string seed, .int .i64 N], .int .i64 id, .string body] w fun e w' => e = .returned (.tuple #[.agg (v8 (refSignOf seed N id body).1).toArray, .int .i64 (refSignOf seed N id body).2]) ∧ Below w.heap.size w w' := by
 go_enter Tryz.func18, Tryz.ntmps18
 go_upto_region 2 with fail
 go_name_world w1 hw1'
 have hw1 : ((w.alloc (.cells #[.string seed, .int .i64 N] 28)).alloc (.cells (Array.replicate 16 (.int .u8 0)) 51)).alloc (.cells (Array.replicate 16 (.int .u8 0)) 51) = w1 := hw1'
 have hB1 : Below w.heap.size w w1 := by rw [← hw1]; exact (((Below.refl _ _).alloc (Nat.le_refl _) _).alloc (by simp) _).alloc (by simp; omega) _
 have hs1 : w.heap.size + 2 < w1.heap.size := by rw [← hw1]; simp
 have hT1 : w1.there (w.heap.size + 1) 0 16 := by
  rw [← hw1]
  have := World.there_alloc (new_bytes (w.alloc (.cells #[.string seed, .int .i64 N] 28)) 16 51).2 (.cells (Array.replicate 16 (.int .u8 0)) 51)
  simpa using this
 have hT2 : w1.there (w.heap.size + 2) 0 16 ∧ w1.rangeAt (w.heap.size + 2) 0 (v8 zeros16) := by
  rw [← hw1]
  have := new_bytes ((w.alloc (.cells #[.string seed, .int .i64 N] 28)).alloc (.cells (Array.replicate 16 (.int .u8 0)) 51)) 16 51
  simp only [World.size_alloc] at this
  exact ⟨this.2, this.1⟩
 have hc0 : w1.cell? ⟨w.heap.size, 0, none⟩ = some (.string seed) ∧ w1.cell? ⟨w.heap.size, 1, none⟩ = some (.int .i64 N) := by
  have h0 := range_new w #[.string seed, .int .i64 N] 28
  have hb : Below (w.heap.size + 1) (w.alloc (.cells #[.string seed, .int .i64 N] 28)) w1 := by
   rw [← hw1]; exact ((Below.refl _ _).alloc (by simp) _).alloc (by simp) _
  have h1 := range_below h0 hb (by omega)
  exact ⟨h1 0 _ rfl, h1 1 _ rfl⟩
 obtain ⟨hc0, hc1⟩ := hc0
 clear hw1 hw1'
 by_cases h1 : id < 0 ∨ N ≤ id
 ·have HS : Hid (refSignOf seed N id body = (zeros16, 2)) := by show _ = _; simp [refSignOf, h1]
  have hl16 : (Tryz.prog.info? 51).map (·.size) = some (v8 zeros16).length := by simpa using info16 zeros16 rfl
  have hT1' : w1.there (w.heap.size + 1) 0 (v8 zeros16).toArray.size := hT1
  have h1t := all_oneCell_toArray (v8_one zeros16)
  have hit := info16 zeros16 rfl
  have hRr := World.rangeAt_setCells_same w1 (w.heap.size + 1) 0 (v8 zeros16) hT1
  have hBl := below_sets (show w.heap.size ≤ w.heap.size + 1 by omega) (v8 zeros16) 0 w1 hB1
  have hrs := load16 (t := zeros16) rfl hRr
  by_cases h0 : id < 0
  ·clear h1
   go_upto_region 3 with fail
   refine wp_region_list ?_
   refine wpList_load_mid rfl 51 _ rfl _ _ rfl (v8 zeros16) _ hT2.2 Tryz.underlying51 rfl hl16 ?_
   refine wpList_store_mid rfl 51 _ _ rfl _ _ (v8 zeros16).toArray rfl rfl hT1' hit h1t ?_
   generalize w1.setCells (w.heap.size + 1) 0 (v8 zeros16) = w9 at *
   go_wp2
   exact bodyPost_ret (v := .tuple #[.agg (v8 zeros16).toArray, .int .i64 2]) (by simp [results, Tryz.results18, asAddr, hrs]) rfl ⟨by rw [HS.out], hBl⟩
  ·have h2 : N ≤ id := by omega
   clear h1
   go_upto_region 3 with fail
   refine wp_region_list ?_
   refine wpList_load_mid rfl 51 _ rfl _ _ rfl (v8 zeros16) _ hT2.2 Tryz.underlying51 rfl hl16 ?_
   refine wpList_store_mid rfl 51 _ _ rfl _ _ (v8 zeros16).toArray rfl rfl hT1' hit h1t ?_
   generalize w1.setCells (w.heap.size + 1) 0 (v8 zeros16) = w9 at *
   go_wp2
   exact bodyPost_ret (v := .tuple #[.agg (v8 zeros16).toArray, .int .i64 2]) (by simp [results, Tryz.results18, asAddr, hrs]) rfl ⟨by rw [HS.out], hBl⟩
 ·obtain ⟨k, rfl⟩ := Int.eq_ofNat_of_zero_le (show 0 ≤ id by omega)
  have h2 : (k : Int) < N := by omega
  have h0 : ¬ (k : Int) < 0 := by omega
  have HS : Hid (refSignOf seed N (k : Int) body = ((mac (keyOf seed k) (strL body)).take 16, 0)) := by
   show _ = _
   rw [refSignOf, if_neg h1, Int.toNat_natCast]
  clear h1
  have ck := refKey_any seed N k w1 hs (by omega)
  obtain ⟨d, hd⟩ : ∃ d, Hid (keyOf seed k = d) := ⟨_, hide rfl⟩
  have hdl : d.length = 32 := by rw [← hd.out]; exact keyOf_length _ _
  have hdo : ∀ z ∈ d, 0 ≤ z ∧ z < 256 := by rw [← hd.out]; exact keyOf_ok _ _
  rw [hd.out] at ck HS
  go_wp2_with fail
  refine ck.mono ?_
  rintro e w2 ⟨v2, rfl, hown2, hw2⟩
  clear ck
  have hB2 := hB1.trans (hw2.mono hB1.size)
  have hs2 := hw2.size
  obtain ⟨a2, cap2, rfl, _, _, hrow2⟩ := own_bytes hown2 hdo (by rw [hdl]; unfold maxLen; omega)
  clear hown2
  obtain ⟨cap3, w3, hcv, hrow3, hc3a, hc3b, hw3, hs3⟩ := str_bytes body w2 (by omega)
  have hB3 := hB2.trans (hw3.mono hB2.size)
  have cm := refMac_any a2 cap2 d (some ⟨w2.heap.size, 0, none⟩) cap3 (strL body) w3 (hrow2.below hw3) (by omega) hrow3 (by rw [strL_length]; omega)
  rw [strL_length, hdl] at cm
  rw [hdl]
  obtain ⟨m, hm⟩ : ∃ m, Hid (mac d (strL body) = m) := ⟨_, hide rfl⟩
  have hml : m.length = 32 := by rw [← hm.out]; exact mac_length _ _
  rw [hm.out] at cm HS
  clear hrow2 hrow3
  go_wp2_with fail
  refine cm.mono ?_
  rintro e w4 ⟨rfl, hw4⟩
  clear cm hcv
  have hB4 := hB3.trans (hw4.mono hB3.size)
  have hW4 := hw2.trans ((hw3.trans (hw4.mono hw3.size)).mono hw2.size)
  have hs4 := hw4.size
  have hT14 := there_below hT1 hW4 (by omega)
  have hT24 := there_below hT2.1 hW4 (by omega)
  have hR24 := range_below hT2.2 hW4 (by omega)
  have F := fresh_store w4 (Array.replicate 32 (.int .u8 0)) 32 (v8 m) (by rw [v8_length, hml]; rfl)
  have hN := there24 w4 m hml
  have hi := info24 m hml
  have h1c := all_oneCell_toArray (v8_one m)
  go_upto_region 5 with (refine wpList_store_mid (op := ⟨none, .store 32 (.tmp 9) (.tmp 25), _, _, _, none⟩) rfl 32 _ _ rfl _ _ (v8 m).toArray rfl rfl hN hi h1c ?_)
  go_name_world w5 hw5
  rw [show (w4.alloc (.cells (Array.replicate 32 (.int .u8 0)) 32)).setCells w4.heap.size 0 (v8 m) = w5 from hw5] at F
  obtain ⟨hR5, hB5', hz5', _⟩ := F
  have hz5 : w4.heap.size < w5.heap.size := by omega
  have hB5 := hB4.trans (hB5'.mono hB4.size)
  have hT15 := there_below hT14 hB5' (by omega)
  have hT25 := there_below hT24 hB5' (by omega)
  have hR25 := range_below hR24 hB5' (by omega)
  obtain ⟨E, hE⟩ : ∃ E, w4.heap.size = E := ⟨_, rfl⟩
  rw [hE] at hR5 hz5 ⊢
  have hEl : w.heap.size + 2 < E := by omega
  clear hz5' hw5 hN hi h1c hw4 hw3 hw2 hB5' hE hW4 hT14 hT24 hR24 hB4 hB3 hB2 hs4 hs3 hs2 hc0 hc1 hT1 hT2 hs1 hB1
  try simp only [Act.put]
  go_wp2_with fail
  go_loopw [10] (fun i wr => ∃ j : Nat, j ≤ 16 ∧ i = .int .i64 (j : Int) ∧ wr.rangeAt E 0 (v8 m) ∧ wr.rangeAt (w.heap.size + 2) 0 (v8 (m.take j ++ zeros16.drop j)) ∧ wr.there (w.heap.size + 2) 0 16 ∧ wr.there (w.heap.size + 1) 0 16 ∧ Below w.heap.size w wr) (fun i _ => 16 - (intOf i).toNat)
  case atStart => exact ⟨0, by omega, rfl, hR5, by simpa using hR25, hT25, hT15, hB5⟩
  case round =>
   clear hR5 hR25 hT25 hT15 hB5
   obtain ⟨j, hj, rfl, hRm, hRt, hTt, hTr, hB⟩ := hrel
   by_cases hlt : j < 16
   ·have hjm : j < m.length := by omega
    obtain ⟨z, hz⟩ : ∃ z, Hid (m.getD j 0 = z) := ⟨_, hide rfl⟩
    have hcm := get8 hRm hjm
    rw [Nat.zero_add, hz.out] at hcm
    obtain ⟨u, hcu⟩ := Option.isSome_iff_exists.1 (hTt j hlt).1
    have hfu := (hTt j hlt).2
    rw [Nat.zero_add] at hcu hfu
    go_wp2_with fail
    go_roundw
    case rel =>
     refine ⟨j + 1, by omega, by go_num, range_other hRm _ _ (fun h => by simp at h; omega), ?_, there_set hTt _ _, there_set hTr _ _, hB.setCell (p := ⟨w.heap.size + 2, j, none⟩) (by simp) _⟩
     have := range_set hRt j (.int .u8 z)
     rw [Nat.zero_add, v8_set] at this
     have e1 : (m.take j ++ zeros16.drop j).set j z = m.take (j + 1) ++ zeros16.drop (j + 1) := by
      have hl : (m.take j).length = j := List.length_take_of_le (by omega)
      have hzl : j < zeros16.length := hlt
      rw [List.set_append_right _ _ (by omega), hl, Nat.sub_self, List.drop_eq_getElem_cons hzl, List.set_cons_zero, List.take_succ_eq_append_getElem hjm, ← hz.out, List.getD_eq_getElem?_getD, List.getElem?_eq_getElem hjm, List.append_assoc]
      rfl
     rw [e1] at this
     exact this
    case measure => simp [intOf]; omega
   ·have hj16 : j = 16 := by omega
    subst hj16
    obtain ⟨t, ht⟩ : ∃ t, Hid (m.take 16 = t) := ⟨_, hide rfl⟩
    have htl : t.length = 16 := by rw [← ht.out, List.length_take]; omega
    have hRt' : wr.rangeAt (w.heap.size + 2) 0 (v8 t) := by
     have e : m.take 16 ++ zeros16.drop 16 = t := by rw [ht.out]; simp [zeros16]
     rw [e] at hRt; exact hRt
    rw [ht.out] at HS
    have hl16 : (Tryz.prog.info? 51).map (·.size) = some (v8 t).length := by simpa using info16 t htl
    have hTr' : wr.there (w.heap.size + 1) 0 (v8 t).toArray.size := by
     have e : (v8 t).toArray.size = 16 := by rw [List.size_toArray, v8_length, htl]
     rw [e]; exact hTr
    have h1t := all_oneCell_toArray (v8_one t)
    have hit := info16 t htl
    have hRr := World.rangeAt_setCells_same wr (w.heap.size + 1) 0 (v8 t) (by rw [v8_length, htl]; exact hTr)
    have hBl := below_sets (show w.heap.size ≤ w.heap.size + 1 by omega) (v8 t) 0 wr hB
    have hrs := load16 htl hRr
    clear hRt
    go_upto_region 9 with fail
    refine wp_region_list ?_
    refine wpList_load_mid rfl 51 _ rfl _ _ rfl (v8 t) _ hRt' Tryz.underlying51 rfl hl16 ?_
    refine wpList_store_mid rfl 51 _ _ rfl _ _ (v8 t).toArray rfl rfl hTr' hit h1t ?_
    generalize wr.setCells (w.heap.size + 1) 0 (v8 t) = w9 at *
    go_wp2
    exact bodyPost_ret (v := .tuple #[.agg (v8 t).toArray, .int .i64 0]) (by simp [results, Tryz.results18, asAddr, hrs]) rfl ⟨by rw [HS.out], hBl⟩
theorem refDerive_yes (seed : ByteArray) (n : Int) (w : World) (h1 : ¬ n < 1) (h2 : ¬ 4096 < n) (h3 : seed.size ≤ 64) :
  Calls Tryz.prog 25 #[.string seed, .int .i64 n] w fun e w' => e = .returned (.tuple #[.agg #[.string seed, .int .i64 n], .bool true]) ∧ Below w.heap.size w w' := by
 have h3' : ¬ (64 : Int) < seed.size := by omega
 go_enter Tryz.func25, Tryz.ntmps25
 go_wp2
 exact bodyPost_ret (v := .tuple #[.agg #[.string seed, .int .i64 n], .bool true]) (by simp [results, Tryz.results25, go_sem]) rfl ⟨rfl, (Below.refl _ _).alloc (Nat.le_refl _) _⟩
open Go.ChangeShapes Go.WideShapes Go.ChangeAt Go.RowKit
section
variable {H : Type} {enc : TypeId × Value → H} {W : World} {b : Nat} {sp : Nat → Bool} {held : Bool} {m : Nat}
end
structure Sg where
 n : Int
 t : List Int
deriving Inhabited
structure Sg.ok (r : Sg) : Prop where
 tl : r.t.length = 16
 tb : ∀ z ∈ r.t, 0 ≤ z ∧ z < 256
 nl : -9223372036854775808 ≤ r.n
 nh : r.n ≤ 9223372036854775807
def Sg.cells (r : Sg) : List Value := .int .i64 r.n :: v8 r.t
theorem Sg.ok.length {r : Sg} (h : r.ok) : r.cells.length = 17 := by
 have := h.tl
 simp [Sg.cells, v8]
 omega
theorem Sg.one (r : Sg) : ∀ v ∈ r.cells, v.oneCell' = true := by
 intro v hv
 rcases List.mem_cons.1 hv with rfl | hv
 ·rfl
 ·exact v8_one r.t v hv
theorem Sg.first {w : World} {b o : Nat} {r : Sg} (h : w.rangeAt b o r.cells) : w.cell? ⟨b, o, none⟩ = some (.int .i64 r.n) := h 0 _ rfl
def flatS (rs : List Sg) : List Value := rs.flatMap Sg.cells
theorem flatS_length {rs : List Sg} (h : ∀ r ∈ rs, r.ok) : (flatS rs).length = rs.length * 17 := by
  induction rs with
  | nil => rfl
  | cons r rs ih =>
    have h1 := (h r (by simp)).length
    have h2 := ih (fun x hx => h x (by simp [hx]))
    simp only [flatS, List.flatMap_cons, List.length_append, List.length_cons] at *
    omega
theorem flatS_append (a b : List Sg) : flatS (a ++ b) = flatS a ++ flatS b := by simp [flatS]
theorem flatS_one (rs : List Sg) : ∀ v ∈ flatS rs, v.oneCell' = true := fun v hv => by
 obtain ⟨r, _, h⟩ := List.mem_flatMap.1 hv
 exact r.one v h
def SigsAt (w : World) (a : Option Addr) (rs : List Sg) : Prop :=
 rs.length ≤ maxLen ∧ (∀ r ∈ rs, r.ok) ∧ (rs = [] ∨ ∃ b off, a = some ⟨b, off, none⟩ ∧ b < w.heap.size ∧ w.rangeAt b off (flatS rs))
theorem SigsAt.below {w w' : World} {a : Option Addr} {rs : List Sg} (h : SigsAt w a rs) (hb : Below w.heap.size w w') : SigsAt w' a rs := by
 refine ⟨h.1, h.2.1, ?_⟩
 rcases h.2.2 with h | ⟨b, off, rfl, h1, h2⟩
 ·exact Or.inl h
 ·exact Or.inr ⟨b, off, rfl, Nat.lt_of_lt_of_le h1 hb.size, range_below h2 hb h1⟩
theorem SigsAt.belowN {w w' : World} {a : Option Addr} {rs : List Sg} {n : Nat} (h : SigsAt w a rs) (hb : Below n w w') (hn : ∀ x, a = some x → x.block < n) : SigsAt w' a rs := by
 refine ⟨h.1, h.2.1, ?_⟩
 rcases h.2.2 with h | ⟨b, off, rfl, h1, h2⟩
 ·exact Or.inl h
 ·exact Or.inr ⟨b, off, rfl, Nat.lt_of_lt_of_le h1 hb.size, range_below h2 hb (hn _ rfl)⟩
theorem flatS_split (rs : List Sg) (i : Nat) (hi : i < rs.length) : flatS rs = flatS (rs.take i) ++ rs[i].cells ++ flatS (rs.drop (i + 1)) := by
 have e : rs.take i ++ (rs[i] :: rs.drop (i + 1)) = rs := by rw [← List.drop_eq_getElem_cons hi, List.take_append_drop]
 have e2 := congrArg flatS e
 rw [← e2]
 simp only [flatS, List.flatMap_append, List.flatMap_cons, List.append_assoc]
theorem SigsAt.elem {w : World} {a : Option Addr} {rs : List Sg} (h : SigsAt w a rs) (i : Nat) (hi : i < rs.length) : ∃ b off, a = some ⟨b, off, none⟩ ∧ b < w.heap.size ∧ w.rangeAt b (off + i * 17) rs[i].cells := by
 rcases h.2.2 with h0 | ⟨b, off, rfl, h1, h2⟩
 ·subst h0; simp at hi
 ·refine ⟨b, off, rfl, h1, ?_⟩
  rw [flatS_split rs i hi] at h2
  have h3 := range_part h2
  rwa [flatS_length (fun r hr => h.2.1 r (List.mem_of_mem_take hr)), List.length_take, Nat.min_eq_left (by omega)] at h3
theorem SigsAt.none {w : World} {a : Option Addr} : SigsAt w a [] := ⟨by simp, by simp, .inl rfl⟩
end Go.Proofs.YtnfijfnnpbenfaaGreatDoor.Qs
namespace Go.Proofs.YtnfijfnnpbenfaaGreatDoor.Qs
open Go.RowKit
theorem Sg.ok.isz {r : Sg} (h : r.ok) : (Tryz.prog.info? 56).map (·.size) = some r.cells.length := by rw [h.length]; kernel_rfl
theorem Sg.ok.iszA {r : Sg} (h : r.ok) : (Tryz.prog.info? 56).map (·.size) = some r.cells.toArray.size := by rw [List.size_toArray, h.length]; kernel_rfl
def SOwn (w : World) (B : Nat) (v : Value) (rs : List Sg) : Prop := w.ownsRow B 56 17 v rs.length (flatS rs) ∧ ∀ r ∈ rs, r.ok
theorem SOwn.mono {w : World} {B B' : Nat} {v : Value} {rs : List Sg} (h : SOwn w B v rs) (hB : B' ≤ B) : SOwn w B' v rs := by
 refine ⟨⟨h.1.1, ?_⟩, h.2⟩
 rcases h.1.2 with h | ⟨g, cap, cur, hv, hg, r⟩
 ·exact .inl h
 ·exact .inr ⟨g, cap, cur, hv, Nat.le_trans hB hg, r⟩
theorem SigsAt.src {w : World} {a : Option Addr} {rs : List Sg} (h : SigsAt w a rs) (cap : Nat) : Src Tryz.prog 17 24 (.slice a rs.length cap) rs.length (flatS rs) w := by
 cases a with
 | none =>
  have : rs = [] := by
   rcases h.2.2 with q | ⟨b, off, hx, _⟩
   ·exact q
   ·cases hx
  subst this
  exact Src.ofNil w Tryz.underlying24 cap
 | some y =>
  refine Src.ofSlice w Tryz.underlying24 y rs.length cap _ (flatS_length h.2.1) (fun j u hu => ?_) (flatS_one rs)
  rcases h.2.2 with rfl | ⟨b, off, hx, _, hr⟩
  ·simp [flatS] at hu
  ·cases hx
   rw [Addr.add_mid]
   exact hr j u hu
theorem infoS : (Tryz.prog.info? 56).map (fun i => (i.zero, i.size, i.bytes)) = some (some (.agg #[.int .i64 0, .int .u8 0, .int .u8 0, .int .u8 0, .int .u8 0, .int .u8 0, .int .u8 0, .int .u8 0, .int .u8 0, .int .u8 0, .int .u8 0, .int .u8 0, .int .u8 0, .int .u8 0, .int .u8 0, .int .u8 0, .int .u8 0]), 17, 24) := by kernel_rfl
theorem SigsAt.take {w : World} {a : Option Addr} {rs : List Sg} (h : SigsAt w a rs) (k : Nat) : SigsAt w a (rs.take k) := by
 refine ⟨by have := h.1; rw [List.length_take]; omega, fun r hr => h.2.1 r (List.mem_of_mem_take hr), ?_⟩
 rcases h.2.2 with h0 | ⟨b, off, rfl, h1, h2⟩
 ·left; rw [h0]; simp
 ·right
  refine ⟨b, off, rfl, h1, ?_⟩
  have e : flatS rs = flatS (rs.take k) ++ flatS (rs.drop k) := by rw [← flatS_append, List.take_append_drop]
  rw [e] at h2
  exact range_left h2
set_option maxRecDepth 100000 in
set_option maxHeartbeats 2000000 in
theorem clone_any (a : Option Addr) (cap : Nat) (rs : List Sg) (w : World) (h : SigsAt w a rs) (hn : rs.length ≤ 100000) :
  Calls Tryz.prog 47 #[.slice a rs.length cap] w fun e w' => ∃ v, e = .returned v ∧ SOwn w' w.heap.size v rs ∧ Below w.heap.size w w' := by
 obtain ⟨i1, hi1, hiz, his, hib⟩ := info_parts infoS
 have hall := h.2.1
 cases a with
 | none =>
  have hnil : rs = [] := by
   rcases h.2.2 with q | ⟨b, off, hx, _⟩
   ·exact q
   ·cases hx
  subst hnil
  have hn := fun w => Lib.run_eql_slice_nil (P := Tryz.prog) w 24 56 none 0 cap 0 0 Tryz.underlying24
  go_enter Tryz.func47, Tryz.ntmps47
  go_wp2
  go_ret
  exact ⟨_, rfl, ⟨World.ownsRow_nil _ _ _ _, by simp⟩, Below.refl _ _⟩
 | some x =>
  have hb1 : Below w.heap.size w (w.alloc (.cells #[] 56)) := (Below.refl _ _).alloc (Nat.le_refl _) _
  have hown1 : (w.alloc (.cells #[] 56)).ownsRow w.heap.size 56 17 (.slice (some ⟨w.heap.size, 0, none⟩) 0 0) 0 [] :=
   ⟨rfl, .inr ⟨w.heap.size, 0, #[], rfl, Nat.le_refl _, heap_alloc_new w _, Nat.le_refl _, by unfold maxLen; omega, rfl, rfl⟩⟩
  have hsrc := (h.below hb1).src cap
  have hn := fun w => Lib.run_eql_slice_nil (P := Tryz.prog) w 24 56 (some x) rs.length cap 0 0 Tryz.underlying24
  go_enter Tryz.func47, Tryz.ntmps47
  go_wp2_with (at_builtin; refine wpList_append_own_src _ rfl _ _ 24 24 rfl w.heap.size 56 i1 (.agg #[.int .i64 0, .int .u8 0, .int .u8 0, .int .u8 0, .int .u8 0, .int .u8 0, .int .u8 0, .int .u8 0, .int .u8 0, .int .u8 0, .int .u8 0, .int .u8 0, .int .u8 0, .int .u8 0, .int .u8 0, .int .u8 0, .int .u8 0]) 17 24 Tryz.underlying24 hi1 hiz his hib rfl _ 0 [] rfl hown1 (.slice (some x) rs.length cap) rs.length (flatS rs) rfl hsrc ?c1 ?c2 ?c3 ?_)
  case c1 => unfold maxLen; omega
  case c2 => omega
  case c3 => exact hb1.size
  intro v2 w2 hown2 hgrow2
  have hb2 : Below w.heap.size w w2 := hb1.grown hgrow2 hb1.size (fun k hk => (hown1.lt k hk).1)
  go_wp2
  go_ret
  exact ⟨_, rfl, ⟨by simpa using hown2, hall⟩, hb2⟩
open Go.RowKit
theorem take_set_oneS {α : Type} (l : List α) (k : Nat) (a : α) (hk : k < l.length) : (l.set k a).take (k + 1) = l.take k ++ [a] := by
 apply List.ext_getElem?
 intro i
 rcases Nat.lt_trichotomy i k with h | h | h
 ·rw [List.getElem?_take_of_lt (by omega), List.getElem?_set_ne (by omega), List.getElem?_append_left (by rw [List.length_take]; omega), List.getElem?_take_of_lt h]
 ·subst h
  rw [List.getElem?_take_of_lt (by omega), List.getElem?_set_self hk, List.getElem?_append_right (by rw [List.length_take]; omega), List.length_take, Nat.min_eq_left (by omega), Nat.sub_self]
  rfl
 ·rw [List.getElem?_eq_none (by rw [List.length_take]; omega), List.getElem?_eq_none (by rw [List.length_append, List.length_take]; simp; omega)]
theorem fold_setsS : ∀ (u : List Value) (k : Nat) (arr : Array Value), k + u.length = arr.size → List.foldl (fun (cs : Array Value) (x : Value × Nat) => cs.setIfInBounds x.snd x.fst) arr (u.zipIdx k) = (arr.toList.take k ++ u).toArray
  | [], k, arr, h => by
    simp only [List.length_nil, Nat.add_zero] at h
    rw [List.take_of_length_le (by simp [h])]
    simp
  | a :: u, k, arr, h => by
    simp only [List.length_cons] at h
    rw [List.zipIdx_cons, List.foldl_cons, fold_setsS u (k + 1) _ (by simp; omega)]
    congr 1
    show List.take (k + 1) (arr.setIfInBounds k a).toList ++ u = _
    rw [Array.toList_setIfInBounds, take_set_oneS _ _ _ (by simp; omega), List.append_assoc]
    rfl
theorem one_sign (w : World) (u : List Value) (hu : u.length = 17) (h1 : ∀ x ∈ u, x.oneCell' = true) : Src Tryz.prog 17 24 (.slice (some ⟨w.heap.size, 0, none⟩) 1 1) 1 u (w.alloc (.cells u.toArray 56)) :=
 Src.ofSlice _ Tryz.underlying24 ⟨w.heap.size, 0, none⟩ 1 1 u (by omega) (fun j v hv => by
  rw [Addr.add_mid]
  have := range_new w u.toArray 56 j v (by simpa using hv)
  exact this) h1
open Go.RowKit
theorem fldS : (Tryz.prog.fieldsOf 56).toList.map (fun f => (f.name, f.type, f.offset)) = [("Node", 3, 0), ("Tag", 51, 1)] := by kernel_rfl
theorem undS : Tryz.prog.underlying 56 = some (.struct (Tryz.prog.fieldsOf 56)) := by kernel_rfl
theorem sihS : Tryz.prog.stoodInHeld 56 = false := by kernel_rfl
theorem iszTS : (Tryz.prog.info? 51).map (·.size) = some 16 := by kernel_rfl
theorem part_intS (w : World) (q : List Value) (i : Nat) (c : Int) (h : q[i]? = some (.int .i64 c)) : (part 3 q.toArray i).run Tryz.prog w = .ok (.int .i64 c) w := by
 simp [part, isAgg, run_underlying Tryz.underlying3, h]
theorem part_tagS (w : World) (n : Int) (t : List Int) (ht : t.length = 16) : (part 51 (Sg.cells ⟨n, t⟩).toArray 1).run Tryz.prog w = .ok (.agg (v8 t).toArray) w := by
 have hx : List.take 16 (Sg.cells ⟨n, t⟩).tail = v8 t := by
  show List.take 16 (v8 t) = v8 t
  rw [List.take_of_length_le (by rw [v8_length, ht]; exact Nat.le_refl _)]
 simp [part, isAgg, run_underlying Tryz.underlying51, run_size iszTS, hx]
def sgB (r r' : Sg) : Bool := (r.n == r'.n) && (r.t == r'.t)
theorem sgEqIn (d : Nat) (n : Int) (t : List Int) (n' : Int) (t' : List Int) (ht : t.length = 16) (ht' : t'.length = 16) (w : World) :
  (Op.equalIn (d + 2 + 1) 56 (.agg (Sg.cells ⟨n, t⟩).toArray) (.agg (Sg.cells ⟨n', t'⟩).toArray)).run Tryz.prog w = .ok ((n == n') && (t == t')) w := by
 rw [run_equalIn_struct w (d + 2) 56 _ _ undS sihS]
 have hf := fldS
 generalize (Tryz.prog.fieldsOf 56).toList = fs at hf
 obtain ⟨f0, f1, rfl⟩ : ∃ f0 f1, fs = [f0, f1] := by
  rcases fs with _ | ⟨f0, _ | ⟨f1, _ | ⟨f2, fs⟩⟩⟩ <;> simp at hf
  exact ⟨f0, f1, rfl⟩
 simp only [List.map_cons, List.map_nil, List.cons.injEq, Prod.mk.injEq, and_true] at hf
 obtain ⟨⟨a0, b0, d0⟩, ⟨a1, b1, d1⟩⟩ := hf
 have p0 := part_intS w (Sg.cells ⟨n, t⟩) 0 n rfl
 have p1 := part_intS w (Sg.cells ⟨n', t'⟩) 0 n' rfl
 have p6 := part_tagS w n t ht
 have p7 := part_tagS w n' t' ht'
 have e0 := run_equalIn_int (P := Tryz.prog) w (d + 1) 3 .i64 .i64 n n' Tryz.underlying3
 have e3 := run_equal8 (P := Tryz.prog) w d 51 5 16 Tryz.underlying51 Tryz.underlying5 isz8 t t' ht ht'
 generalize (Sg.cells ⟨n, t⟩).toArray = q at *
 generalize (Sg.cells ⟨n', t'⟩).toArray = q' at *
 obtain ⟨T, hT⟩ : ∃ T, (v8 t).toArray = T := ⟨_, rfl⟩
 obtain ⟨T', hT'⟩ : ∃ T, (v8 t').toArray = T := ⟨_, rfl⟩
 rw [hT] at p6 e3
 rw [hT'] at p7 e3
 clear hT hT'
 obtain ⟨D, hD⟩ : ∃ D, d + 1 + 1 = D := ⟨_, rfl⟩
 have e3 : (Op.equalIn (d + 1 + 1) 51 (.agg T) (.agg T')).run Tryz.prog w = .ok (t == t') w := e3
 rw [hD] at e3
 have hn0 : ¬ ("Node" = "_") := by decide
 have hn3 : ¬ ("Tag" = "_") := by decide
 simp only [Op.eqFields, a0, a1, b0, b1, d0, d1, ne_eq, hn0, hn3, not_false_eq_true, if_true]
 rw [show d + 2 = d + 1 + 1 from rfl, hD]
 rw [hD] at e0
 clear hD
 simp only [Sem.run_bind, p0, p1, Result.andThen_ok, e0]
 cases (n == n')
 ·simp only [Bool.not_false, if_true, Sem.run_pure, Bool.false_and]
 ·simp only [Bool.not_true, Bool.false_eq_true, if_false, Sem.run_bind, p6, p7, Result.andThen_ok, e3, Bool.true_and]
  cases (t == t')
  ·simp only [Bool.not_false, if_true, Sem.run_pure]
  ·simp only [Bool.not_true, Bool.false_eq_true, if_false, Sem.run_pure]
open Go.RowKit
open Sha Tal
theorem eqSg (r r' : Sg) (h : r.ok) (h' : r'.ok) (w : World) :
  (binOp .eql 56 (.agg r.cells.toArray) (.agg r'.cells.toArray)).run Tryz.prog w = .ok (.bool (sgB r r')) w := by
 obtain ⟨n, t⟩ := r
 obtain ⟨n', t'⟩ := r'
 rw [run_eql_struct, sgEqIn 9997 n t n' t' h.tl h'.tl]; rfl
theorem fold_off : ∀ (u : List Value) (k : Nat) (arr : Array Value), List.foldl (fun (cs : Array Value) (x : Value × Nat) => cs.setIfInBounds (1 + x.snd) x.fst) arr (u.zipIdx k) = List.foldl (fun (cs : Array Value) (x : Value × Nat) => cs.setIfInBounds x.snd x.fst) arr (u.zipIdx (k + 1))
  | [], _, _ => rfl
  | a :: u, k, arr => by
    rw [List.zipIdx_cons, List.zipIdx_cons, List.foldl_cons, List.foldl_cons, Nat.add_comm 1 k]
    exact fold_off u (k + 1) _
theorem fold_tag (N : Int) (r : List Int) (hl : r.length = 16) : List.foldl (fun (cs : Array Value) (x : Value × Nat) => cs.setIfInBounds (1 + x.snd) x.fst)
  #[.int .i64 N, .int .u8 0, .int .u8 0, .int .u8 0, .int .u8 0, .int .u8 0, .int .u8 0, .int .u8 0, .int .u8 0, .int .u8 0, .int .u8 0, .int .u8 0, .int .u8 0, .int .u8 0, .int .u8 0, .int .u8 0, .int .u8 0] (v8 r).zipIdx = (.int .i64 N :: v8 r).toArray := by
 rw [fold_off, fold_setsS (v8 r) (0 + 1) _ (by rw [v8_length, hl]; rfl)]
 rfl
set_option maxRecDepth 100000 in
set_option maxHeartbeats 2000000 in
theorem signed_any (p : Option Addr) (ds : List (List Int)) (body : ByteArray) (s : Sg) (w : World) (hG : Glob w) (h : KeysAt w p ds) (hb : ds = [] ∨ body.size ≤ 100000) (hs : s.ok) :
  Calls Tryz.prog 112 #[.pointer p, .string body, .agg s.cells.toArray] w fun e w' => e = .returned (.bool (checkOf (signOf ds s.n body) s.t)) ∧ Below w.heap.size w w' := by
 have hB0 : Below w.heap.size w (w.alloc (.cells s.cells.toArray 56)) := (Below.refl _ _).alloc (Nat.le_refl _) _
 have hR0 : (w.alloc (.cells s.cells.toArray 56)).rangeAt w.heap.size 0 s.cells := by simpa using range_new w s.cells.toArray 56
 have cs := ksign_any p ds s.n body _ (hG.below hB0) (h.below hB0) hb
 have hl := signOf_length ds s.n body
 have hlo := signOf_ok ds s.n body
 unfold checkOf
 obtain ⟨r, hr⟩ : ∃ r, Hid ((signOf ds s.n body).1 = r) := ⟨_, hide rfl⟩
 obtain ⟨x, hx⟩ : ∃ x, Hid ((signOf ds s.n body).2 = x) := ⟨_, hide rfl⟩
 rw [hr.out, hx.out] at cs ⊢
 rw [hr.out] at hl hlo
 have heq := fun w0 => eqSg s ⟨s.n, r⟩ hs ⟨hl, hlo, hs.nl, hs.nh⟩ w0
 have HE : Hid (sgB s ⟨s.n, r⟩ = (r == s.t)) := hide (by
  obtain ⟨n, t⟩ := s
  simp only [sgB, beq_self_eq_true, Bool.true_and]
  exact BEq.comm)
 have hcells : (Sg.mk s.n r).cells = .int .i64 s.n :: v8 r := rfl
 simp only [hcells] at heq
 obtain ⟨B, hBe⟩ : ∃ B, Hid (sgB s ⟨s.n, r⟩ = B) := ⟨_, hide rfl⟩
 simp only [hBe.out] at heq
 rw [hBe.out] at HE
 have hfr := Sg.first hR0
 have hiq := hs.isz
 have hul := hs.length
 obtain ⟨N, hN⟩ : ∃ N, Hid (s.n = N) := ⟨_, hide rfl⟩
 obtain ⟨u, hu⟩ : ∃ u, Hid (s.cells = u) := ⟨_, hide rfl⟩
 rw [hu.out] at hB0 hR0 hfr hiq hul cs ⊢
 simp only [hu.out, hN.out] at heq
 rw [hN.out] at cs hfr
 obtain ⟨T, hT⟩ : ∃ T, Hid (s.t = T) := ⟨_, hide rfl⟩
 rw [hT.out] at HE ⊢
 clear hb hu hN hcells hs hBe hr hx hT
 go_enter Tryz.func112, Tryz.ntmps112
 go_wp2_with fail
 refine cs.mono ?_
 rintro e w1 ⟨rfl, hw1⟩
 clear cs
 have hB1 := hB0.trans (hw1.mono hB0.size)
 have hs1 := hw1.size
 simp only [World.size_alloc] at hs1
 have hR1 := range_below hR0 hw1 (by simp)
 have hfr1 := (hw1.cell (p := ⟨w.heap.size, 0, none⟩) (by simp)).trans hfr
 have FS := fresh_store w1 (Array.replicate 16 (.int .u8 0)) 51 (v8 r) (by rw [v8_length, hl]; rfl)
 have hN : (w1.alloc (.cells (Array.replicate 16 (.int .u8 0)) 51)).there w1.heap.size 0 (v8 r).toArray.size := by
  have e : (v8 r).toArray.size = 16 := by rw [List.size_toArray, v8_length, hl]
  rw [e]; exact (new_bytes w1 16 51).2
 have hi := info16 r hl
 have h1c := all_oneCell_toArray (v8_one r)
 clear hfr
 go_upto_region 2 with (refine wpList_store_mid (op := ⟨none, .store 51 (.tmp 7) (.tmp 15), _, _, _, none⟩) rfl 51 _ _ rfl _ _ (v8 r).toArray rfl rfl hN hi h1c ?_)
 go_name_world w4 hw4
 rw [show (w1.alloc (.cells (Array.replicate 16 (.int .u8 0)) 51)).setCells w1.heap.size 0 (v8 r) = w4 from hw4] at FS
 obtain ⟨hR4, hB4', hz4', _⟩ := FS
 have hz4 : w1.heap.size < w4.heap.size := by omega
 clear hz4' hw4 hN h1c hw1 hR0
 have hB4 := hB1.trans (hB4'.mono hB1.size)
 have hR1' := range_below hR1 hB4' (by omega)
 have hfr4 := (hB4'.cell (p := ⟨w.heap.size, 0, none⟩) (by show w.heap.size < w1.heap.size; omega)).trans hfr1
 have hl16 : (Tryz.prog.info? 51).map (·.size) = some (v8 r).length := by simpa using hi
 try simp only [Act.put]
 clear hi
 clear hR1 hB4' hfr1
 by_cases hx0 : x = 0
 ·subst hx0
  refine wp_region_list ?_
  refine wpList_plain rfl fun K hK => ?_
  go_simp
  refine hK _ _ ?_
  clear hK K
  refine wpList_plain rfl fun K hK => ?_
  go_simp
  refine hK _ _ ?_
  clear hK K
  refine wpList_plain rfl fun K hK => ?_
  go_simp
  refine hK _ _ ?_
  clear hK K
  refine wpList_load_g (by rfl) 56 _ rfl _ _ rfl u _ hR1' Tryz.underlying56 rfl hiq ?_
  refine wpList_step fun K hK => ?_
  go_simp
  refine hK _ _ ?_
  clear hK K
  refine wpList_step fun K hK => ?_
  go_simp
  refine hK _ _ ?_
  clear hK K
  refine wpList_load_g (by rfl) 51 _ rfl _ _ rfl (v8 r) _ hR4 Tryz.underlying51 rfl hl16 ?_
  refine wpList_step fun K hK => ?_
  go_simp
  refine hK _ _ ?_
  clear hK K
  rw [fold_tag N r hl]
  refine wpList_step fun K hK => ?_
  go_simp
  try rw [heq]
  try go_simp
  refine hK _ _ ?_
  clear hK K
  go_wp2
  go_ret
  exact ⟨by rw [HE.out]; simp, hB4⟩
 ·have hx1 : (x == 0) = false := by simpa using hx0
  go_wp2
  go_ret
  exact ⟨by simp [hx0], hB4⟩
end Go.Proofs.YtnfijfnnpbenfaaGreatDoor.Qs
namespace Go.Proofs.YtnfijfnnpbenfaaGreatDoor.Qs
open Go.RowKit Go.Shelf
attribute [local go_sem] Oper.semAt_some
def upto (zs : List Int) (k : Nat) : List Int := zs.take k
def ValsAt (n₀ : Nat) (W : World) (a : Option Addr) (zs : List Int) : Prop :=
 zs = [] ∨ ∃ b off, a = some ⟨b, off, none⟩ ∧ b < n₀ ∧ ∀ j, j < zs.length → W.cell? ⟨b, off + j, none⟩ = some (.int .i64 (zs[j]?.getD 0))
open Go.Sort in
open Go.RowKit Go.Shelf
attribute [local go_sem] Oper.semAt_some
section
variable {F : Fence} {n : Nat} {P : Program} {ops : Array Oper} {rest : List Oper} {op : Oper} {a : Act} {w : World} {Q : Exit → Act → World → Prop}
theorem wpListIn_load_mid (hgd : op.guard = none) (ty : TypeId) (x : Operand) (ho : op.op = .load ty x)
  (b o : Nat) (hx : a.eval x = .pointer (some ⟨b, o, none⟩)) (cs : List Value) (d : TypeDesc) (hc : w.rangeAt b o cs)
  (hu : P.underlying ty = some d) (hd : d.isRow = true) (hi : (P.info? ty).map (·.size) = some cs.length)
  (h : wpListIn F n P ops Q rest (a.put op.dst (.agg cs.toArray)) w) : wpListIn F n P ops Q (op :: rest) a w := by
 refine wpListIn_plain hgd fun K hK => ?_
 unfold Oper.wpIn
 refine ⟨?_, ?_⟩
 ·simp [Oper.about, ho]
 ·rw [Oper.semAt_plain F _ _ (by rw [ho]; intro c hc'; cases hc')]
  simp only [execOp, ho, hx, Instr.loadAt, Instr.sureAddr, Sem.run_bind, Sem.run_pure, Result.andThen_ok, run_loadVar_mid w b o ty cs d hc hu hd hi]
  exact hK _ _ h
theorem wpListIn_store_mid (hgd : op.guard = none) (ty : TypeId) (x y : Operand) (ho : op.op = .store ty x y)
  (b o : Nat) (cells : Array Value) (hx : a.eval x = .pointer (some ⟨b, o, none⟩)) (hy : a.eval y = .agg cells)
  (ht : w.there b o cells.size) (hi : (P.info? ty).map (·.size) = some cells.size) (h1 : cells.all (·.oneCell') = true)
  (h : wpListIn F n P ops Q rest (a.put op.dst undef) (w.setCells b o cells.toList)) : wpListIn F n P ops Q (op :: rest) a w := by
 refine wpListIn_plain hgd fun K hK => ?_
 unfold Oper.wpIn
 refine ⟨?_, ?_⟩
 ·simp [Oper.about, ho]
 ·rw [Oper.semAt_plain F _ _ (by rw [ho]; intro c hc'; cases hc')]
  simp only [execOp, ho, hx, hy, Instr.storeAt, Instr.sureAddr, Sem.run_bind, Sem.run_pure, Result.andThen_ok, run_storeVar_mid w b o ty cells ht hi h1]
  exact hK _ _ h
end
def KeepsB (n₀ Bs : Nat) (A B : World) : Prop := Below n₀ A B ∧ (Bs < A.heap.size → B.heap[Bs]? = A.heap[Bs]?)
theorem KeepsB.refl (n₀ Bs : Nat) (A : World) : KeepsB n₀ Bs A A := ⟨Below.refl _ _, fun _ => rfl⟩
theorem KeepsB.tr {n₀ Bs : Nat} {A B C : World} (h : KeepsB n₀ Bs A B) (k : KeepsB n₀ Bs B C) : KeepsB n₀ Bs A C :=
 ⟨h.1.trans k.1, fun hb => (k.2 (Nat.lt_of_lt_of_le hb h.1.size)).trans (h.2 hb)⟩
theorem keepsB_b {n₀ Bs : Nat} {w : World} (hn : n₀ ≤ w.heap.size) (hb : Bs < w.heap.size) (W : World) (l : Nat) (o o' : Obj) (hl : w.heap.size ≤ l) (h : W.heap[l]? = some o) (h1 : o.isCells = false) (h2 : o.isWalk = false) : KeepsB n₀ Bs W (W.putObj l o') :=
 ⟨belowK_b hn W l o o' hl h h1 h2, fun _ => World.putObj_heap_other (by omega)⟩
set_option maxHeartbeats 1000000 in
theorem signers_in (F : Fence) (n : Nat) (h5 : F.fn 111) (hro : F.round = none) (a : Option Addr) (len cap : Nat) (w : World) :
  CallsIn F n Tryz.prog 111 #[.slice a len cap] w fun e w' => e = .returned (.func (.func 148) #[] #[.pointer (some ⟨w.heap.size, 0, none⟩)]) ∧ w' = w.alloc (.cells #[.slice a len cap] 24) := by
 refine callsIn_of_wp Tryz.func111 rfl h5 ?_ hro
 simp only [Tryz.ntmps111, List.size_toArray, List.length_cons, List.length_nil, Nat.reduceAdd, Nat.reduceSub, Array.replicate_succ, Array.replicate_zero, List.push_toArray, List.append_toArray, List.nil_append, List.cons_append]
 gi_wp2
 go_ret
 exact ⟨rfl, rfl⟩
end Go.Proofs.YtnfijfnnpbenfaaGreatDoor.Qs
namespace Go.Proofs.YtnfijfnnpbenfaaGreatDoor.Qs
open Go.RowKit Go.Shelf
attribute [local go_sem] Oper.semAt_some
theorem fin_succ (n k : Nat) (hk : k < n) : (List.finRange n).take (k + 1) = (List.finRange n).take k ++ [⟨k, hk⟩] := by
 rw [List.take_succ_eq_append_getElem (by rw [List.length_finRange]; exact hk)]
 simp
set_option maxRecDepth 100000 in
set_option maxHeartbeats 2000000 in
theorem signersF_in (F : Fence) (n : Nat) (h7 : F.fn 148) (hro : F.round = none) (hn : 1 ≤ n) (l Bs n₀ : Nat) (a : Option Addr) (cap : Nat) (rs : List Sg) (hlr : rs.length ≤ 100000) (J Jx : List (Fin rs.length) → World → Prop)
  (W : World) (hJ : AbidesFrom W.heap.size J)
  (hY : ∀ pre x W, J pre W → pre.length < rs.length → YieldAt F (n - 1) Tryz.prog l #[.int .i64 (x.val : Int), .int .i64 (rs[x.val].n)] W fun e W' =>
   (e = .returned (.bool true) ∧ J (pre ++ [x]) W' ∧ KeepsB n₀ Bs W W') ∨ (e = .returned (.bool false) ∧ Jx (pre ++ [x]) W'))
  (hBs : W.cell? ⟨Bs, 0, none⟩ = some (.slice a rs.length cap)) (hc : SigsAt W a rs) (hlo : rs = [] ∨ ∀ x, a = some x → x.block < n₀) (hn₀ : n₀ ≤ W.heap.size) (h0 : J [] W) :
  CallsIn F n Tryz.prog 148 #[.func (.yield l) #[] #[], .pointer (some ⟨Bs, 0, none⟩)] W fun e W' => (∃ v, e = .returned v) ∧
   ((∃ ys, ys = List.finRange rs.length ∧ J ys W') ∨ (∃ pre, pre <+: List.finRange rs.length ∧ Jx pre W')) := by
 have hall := hc.2.1
 refine callsIn_of_wp Tryz.func148 rfl h7 ?_ hro
 simp only [Tryz.ntmps148, List.size_toArray, List.length_cons, List.length_nil, Nat.reduceAdd, Nat.reduceSub, Array.replicate_succ, Array.replicate_zero, List.push_toArray, List.append_toArray, List.nil_append, List.cons_append]
 gi_wp2
 gi_loopw [7] (fun i wr => ∃ k : Nat, k ≤ rs.length ∧ i = .int .i64 k ∧ J ((List.finRange rs.length).take k) wr ∧ KeepsB n₀ Bs W wr)
  (fun i _ => rs.length - (intOf i).toNat)
 case atStart => exact ⟨0, Nat.zero_le _, rfl, h0, KeepsB.refl _ _ _⟩
 case round =>
  obtain ⟨k, hk, rfl, hJs, hnx⟩ := hrel
  by_cases hlt : k < rs.length
  ·have k1 : (k : Int) < rs.length := by omega
   obtain ⟨b, off, rfl, hb, hre⟩ := (hc.belowN hnx.1 (hlo.resolve_left (fun h => by subst h; simp at hlt))).elem k hlt
   have HU := hide (fin_succ rs.length k hlt)
   obtain ⟨r, hr⟩ : ∃ r, Hid (rs[k] = r) := ⟨_, hide rfl⟩
   have hok : r.ok := by rw [← hr.out]; exact hall _ (List.getElem_mem hlt)
   rw [hr.out] at hre
   have hiq := hok.isz
   have hiA := hok.iszA
   have h1c := all_oneCell_toArray r.one
   have hN : (wr.alloc (.cells #[.int .i64 0, .int .u8 0, .int .u8 0, .int .u8 0, .int .u8 0, .int .u8 0, .int .u8 0, .int .u8 0, .int .u8 0, .int .u8 0, .int .u8 0, .int .u8 0, .int .u8 0, .int .u8 0, .int .u8 0, .int .u8 0, .int .u8 0] 56)).there wr.heap.size 0 r.cells.toArray.size := by
    have := there_new wr #[.int .i64 0, .int .u8 0, .int .u8 0, .int .u8 0, .int .u8 0, .int .u8 0, .int .u8 0, .int .u8 0, .int .u8 0, .int .u8 0, .int .u8 0, .int .u8 0, .int .u8 0, .int .u8 0, .int .u8 0, .int .u8 0, .int .u8 0] 56
    have e : r.cells.toArray.size = 17 := by rw [List.size_toArray, hok.length]
    rw [e]; exact this
   have FS := fresh_store wr #[.int .i64 0, .int .u8 0, .int .u8 0, .int .u8 0, .int .u8 0, .int .u8 0, .int .u8 0, .int .u8 0, .int .u8 0, .int .u8 0, .int .u8 0, .int .u8 0, .int .u8 0, .int .u8 0, .int .u8 0, .int .u8 0, .int .u8 0] 56 r.cells (by rw [hok.length]; rfl)
   have hfr := fun (w0 : World) (b0 : Nat) (hh : w0.rangeAt b0 0 r.cells) => Sg.first hh
   obtain ⟨u, hu⟩ : ∃ u, Hid (r.cells = u) := ⟨_, hide rfl⟩
   rw [hu.out] at hre hiq hiA hN h1c FS
   simp only [hu.out] at hfr
   obtain ⟨c, hce⟩ : ∃ c, Hid (r.n = c) := ⟨_, hide rfl⟩
   have HC : Hid (rs[k].n = c) := hide (by rw [hr.out]; exact hce.out)
   simp only [hce.out] at hfr
   clear hr hu hok hce
   have hlen : ((List.finRange rs.length).take k).length < rs.length := by rw [List.length_take, List.length_finRange]; omega
   gi_upto_region 2 with fail
   try simp only [Act.put]
   refine wpIn_region_list ?_
   refine wpListIn_plain rfl fun K hK => ?_
   go_simp
   refine hK _ _ ?_
   clear hK K
   refine wpListIn_plain rfl fun K hK => ?_
   go_simp
   try simp only [if_pos k1, show (0 : Int) ≤ (k : Int) from Int.natCast_nonneg k, and_self, ↓reduceIte]
   try go_bits
   try go_simp
   refine hK _ _ ?_
   clear hK K
   refine wpListIn_load_mid rfl 56 _ rfl _ _ rfl u _ hre Tryz.underlying56 rfl hiq ?_
   refine wpListIn_plain rfl fun K hK => ?_
   go_simp
   refine hK _ _ ?_
   clear hK K
   refine wpListIn_plain rfl fun K hK => ?_
   go_simp
   refine hK _ _ ?_
   clear hK K
   refine wpListIn_store_mid rfl 56 _ _ rfl _ _ u.toArray rfl rfl hN hiA h1c ?_
   try simp only [Act.put]
   have hgb : wr.grownBy _ none := gb_sets_past (Nat.le_refl _) u 0 _ (World.grownBy_alloc wr (.cells #[.int .i64 0, .int .u8 0, .int .u8 0, .int .u8 0, .int .u8 0, .int .u8 0, .int .u8 0, .int .u8 0, .int .u8 0, .int .u8 0, .int .u8 0, .int .u8 0, .int .u8 0, .int .u8 0, .int .u8 0, .int .u8 0, .int .u8 0] 56) none)
   obtain ⟨w3, hw3⟩ : ∃ w3, Hid ((wr.alloc (.cells #[.int .i64 0, .int .u8 0, .int .u8 0, .int .u8 0, .int .u8 0, .int .u8 0, .int .u8 0, .int .u8 0, .int .u8 0, .int .u8 0, .int .u8 0, .int .u8 0, .int .u8 0, .int .u8 0, .int .u8 0, .int .u8 0, .int .u8 0] 56)).setCells wr.heap.size 0 u = w3) := ⟨_, hide rfl⟩
   rw [hw3.out] at FS hgb
   simp only [hw3.out]
   have hJ3 := hJ _ _ _ none hJs hgb (fun r e => by cases e)
   have hK3 : KeepsB n₀ Bs W w3 := hnx.tr ⟨(FS.2.1).mono (by have := hnx.1.size; omega), fun hbb => hgb.block Bs hbb (by simp)⟩
   have hcf := hfr _ _ FS.1
   clear FS hfr hgb hw3 hre hN hiA hiq h1c hJs hnx
   have hY3 := hY _ ⟨k, hlt⟩ w3 hJ3 hlen
   simp only [HC.out] at hY3
   obtain ⟨fn, tmps, assign, body, hy, hR⟩ := hY3
   gi_wp2
   refine hR.mono ?_
   rintro e W3 (⟨rfl, hJ4, hk3⟩ | ⟨rfl, hJx3⟩)
   ·gi_wp2
    go_roundw
    case rel => exact ⟨k + 1, by omega, by simp, by rw [HU.out]; exact hJ4, hK3.tr hk3⟩
    case measure => simp [intOf]; omega
   ·gi_wp2
    refine bodyPost_ret (results_none rfl _ _ _) rfl ?_
    exact ⟨⟨_, rfl⟩, .inr ⟨_, by rw [← HU.out]; exact List.take_prefix _ _, hJx3⟩⟩
  ·obtain rfl : k = rs.length := by omega
   gi_wp2
   go_end0
   exact ⟨⟨_, rfl⟩, .inl ⟨_, List.take_of_length_le (by rw [List.length_finRange]; exact Nat.le_refl _), hJs⟩⟩
theorem signersF_stops (F : Fence) (n : Nat) (h7 : F.fn 148) (hro : F.round = none) (hn : 1 ≤ n) (Bs n₀ : Nat) (a : Option Addr) (cap : Nat) (rs : List Sg) (hlr : rs.length ≤ 100000) (w : World) (hBs : Bs < w.heap.size) (hn₀ : n₀ ≤ w.heap.size)
  (hc : w.cell? ⟨Bs, 0, none⟩ = some (.slice a rs.length cap)) (hI : SigsAt w a rs) (hlo : rs = [] ∨ ∀ x, a = some x → x.block < n₀) :
  SeqStopsK F n Tryz.prog 148 #[.pointer (some ⟨Bs, 0, none⟩)] (fun x : Fin rs.length => #[Value.int .i64 (x.val : Int), Value.int .i64 (rs[x.val].n)]) (KeepsB n₀ Bs) (fun ys => ys = List.finRange rs.length) (fun pre => pre <+: List.finRange rs.length) rs.length w := fun l J Jx W hW hJ _ hY h0 =>
 signersF_in F n h7 hro hn l Bs n₀ a cap rs hlr J Jx W hJ hY ((hW.cell (p := ⟨Bs, 0, none⟩) hBs).trans hc) (hI.below hW) hlo (Nat.le_trans hn₀ hW.size) h0
open Go Go.RowKit
section
variable {P : Program} {ops : Array Oper} {Q : Exit → Act → World → Prop}
def Oper.plain (o : Oper) : Bool := match o.op with | .defer _ => false | _ => true
theorem op_round {o : Oper} {a : Act} {w : World} {K K' : Act → World → Prop} (l n : Nat) (hd : Oper.plain o = true) (hK : ∀ a w, K a w → K' a w) (h : o.wp P a w K Q) : o.wpIn (Fence.wide.inRound l) n P a w K' Q := by
 refine ⟨fun f _ => trivial, ?_⟩
 rw [Oper.semAt_eq _ _ _ (fun c e => by rw [Oper.plain, e] at hd; cases hd)]
 unfold Oper.wp at h
 generalize (execOp a.eval o).run P w = r at h
 match r, h with
 | .ok (.value v) w', h => exact hK _ _ h
 | .ok .skip w', h => exact hK _ _ h
 | .ok (.defer d) w', h => exact hK _ _ h
 | .ok (.enter f args) w', h =>
  refine ⟨fun e => by simp [Fence.wide, Fence.inRound] at e, ?_⟩
  refine CallsIn.inRound l ((callsIn_wide (n := n - 1)).2 (Calls.mono h ?_))
  intro e w'' he
  match e, he with
  | .returned v, he => exact hK _ _ he
  | .panicked c, he => exact he
  | .outgrown, he => exact he
 | .ok (.row row args) w', h =>
  refine ⟨fun e => by simp [Fence.wide, Fence.inRound] at e, ?_⟩
  intro c cs _
  obtain ⟨v, w'', r, s⟩ := h c cs
  exact ⟨v, w'', hK _ _ r, stepsIn_wide.2 s⟩
 | .halt (.panic v) w', h => exact h
theorem any_round (l n : Nat) (hd : ops.all Oper.plain = true) (hno : ¬ LetsOut Q) : ∀ (fuel : Nat) (listed : Array Bool) (a : Act) (w : World), wpAny P .any ops Q fuel listed a w → wpAnyIn (Fence.wide.inRound l) n P .any ops Q fuel listed a w
  | 0, _, _, _, h => h
  | fuel + 1, listed, a, w, h => by
    refine ⟨h.1, fun i hi => ?_⟩
    have h2 := h.2 i hi
    unfold wpOp at h2
    unfold wpOpIn
    cases ho : ops[i]? with
    | none => rw [ho] at h2; exact any_round l n hd hno fuel _ _ _ h2
    | some o =>
      rw [ho] at h2
      have hp : Oper.plain o = true := Array.all_eq_true_iff_forall_mem.1 hd o (Array.mem_of_getElem? ho)
      simp only [] at h2 ⊢
      split at h2
      · rename_i hw
        rw [if_pos hw]
        rcases h2 with h2 | ⟨_, h2⟩
        · exact op_round l n hp (fun a w => any_round l n hd hno fuel _ a w) h2
        · exact (hno h2).elim
      · rename_i hw
        rw [if_neg hw]
        exact ⟨fun _ _ => trivial, any_round l n hd hno fuel _ _ _ h2⟩
theorem hi_begin {id l n : Nat} {S : World → Prop} {a : Act} {w : World} (m : Nat) (hn : ops.size = m) (hm : P.follows .mixedOrders = true) (hd : ops.all Oper.plain = true) (hno : ¬ LetsOut Q)
  (h : HeldS P ops Q S m (Array.replicate m false) a w.drew) : (Code.region id ops true).wpIn (Fence.wide.inRound l) n P Q a w := by
 subst hn
 have hno' : ¬ LetsOut (NoPanic Q) := fun ⟨a, w, h⟩ => hno ⟨a, w, h⟩
 exact Code.wpIn_mono NoPanic.imp (wpIn_region_any hm (any_round l n hd hno' _ _ _ _ (wpAny_of_held _ _ _ _ h)))
end
end Go.Proofs.YtnfijfnnpbenfaaGreatDoor.Qs
namespace Go.Proofs.YtnfijfnnpbenfaaGreatDoor.Qs
open Go Go.RowKit
def lastN (ah : Int) : List Sg → Int
  | [] => ah
  | x :: l => lastN x.n l
theorem lastN_snoc (x : Sg) : ∀ (l : List Sg) (ah : Int), lastN ah (l ++ [x]) = x.n
  | [], _ => rfl
  | y :: l, _ => lastN_snoc x l y.n
def runOf (ok : Sg → Bool) (n : Int) : Int → List Sg → Nat
  | _, [] => 0
  | ah, x :: l => if x.n ≤ ah ∨ n ≤ x.n then 0 else if ok x then runOf ok n x.n l + 1 else 0
theorem runOf_le (ok : Sg → Bool) (n : Int) : ∀ (l : List Sg) (ah : Int), runOf ok n ah l ≤ l.length
  | [], _ => Nat.le_refl _
  | x :: l, ah => by
    have := runOf_le ok n l x.n
    unfold runOf
    split
    · simp
    · split <;> simp; omega
theorem run_whole {ok : Sg → Bool} {n ah : Int} {x : Sg} {l : List Sg} (h : runOf ok n ah (x :: l) = (x :: l).length) : ¬ (x.n ≤ ah ∨ n ≤ x.n) ∧ ok x = true ∧ runOf ok n x.n l = l.length := by
 unfold runOf at h
 split at h
 ·simp at h
 ·rename_i hb
  split at h
  ·rename_i ho
   exact ⟨hb, ho, by simpa using h⟩
  ·simp at h
theorem run_cut {ok : Sg → Bool} {n : Int} {x : Sg} (t : List Sg) : ∀ (m : List Sg) (ah : Int), runOf ok n ah m = m.length → (x.n ≤ lastN ah m ∨ n ≤ x.n ∨ ok x = false) → runOf ok n ah (m ++ x :: t) = m.length
  | [], ah, _, hb => by
    simp only [List.nil_append, List.length_nil, lastN] at hb ⊢
    unfold runOf
    split
    · rfl
    · rename_i h1
      split
      · rename_i h2
        rcases hb with hb | hb | hb
        · exact (h1 (.inl hb)).elim
        · exact (h1 (.inr hb)).elim
        · rw [hb] at h2; cases h2
      · rfl
  | y :: m, ah, hm, hb => by
    obtain ⟨h1, h2, h3⟩ := run_whole hm
    have := run_cut t m y.n h3 hb
    rw [List.cons_append, runOf, if_neg h1, if_pos h2, this]
    rfl
theorem run_snoc {ok : Sg → Bool} {n : Int} {x : Sg} : ∀ (m : List Sg) (ah : Int), runOf ok n ah m = m.length → ¬ x.n ≤ lastN ah m → ¬ n ≤ x.n → ok x = true → runOf ok n ah (m ++ [x]) = (m ++ [x]).length
  | [], ah, _, h1, h2, h3 => by
    simp only [lastN] at h1
    show runOf ok n ah [x] = 1
    rw [runOf, if_neg (fun h => h.elim h1 h2), if_pos h3]
    rfl
  | y :: m, ah, hm, h1, h2, h3 => by
    obtain ⟨g1, g2, g3⟩ := run_whole hm
    have := run_snoc m y.n g3 h1 h2 h3
    rw [List.cons_append, runOf, if_neg g1, if_pos g2, this]
    rfl
def atF (rs : List Sg) (l : List (Fin rs.length)) : List Sg := l.map (fun i => rs[i.val])
theorem atF_snoc (rs : List Sg) (l : List (Fin rs.length)) (x : Fin rs.length) : atF rs (l ++ [x]) = atF rs l ++ [rs[x.val]] := by simp [atF]
theorem atF_length (rs : List Sg) (l : List (Fin rs.length)) : (atF rs l).length = l.length := by simp [atF]
theorem atF_all (rs : List Sg) : atF rs (List.finRange rs.length) = rs := by
 refine List.ext_getElem (by simp [atF]) fun i h1 h2 => ?_
 simp [atF]
theorem run_stop {ok : Sg → Bool} {n : Int} {rs : List Sg} {m : List (Fin rs.length)} {x : Fin rs.length} (hp : m ++ [x] <+: List.finRange rs.length) (hm : runOf ok n (-1) (atF rs m) = m.length)
  (hb : rs[x.val].n ≤ lastN (-1) (atF rs m) ∨ n ≤ rs[x.val].n ∨ ok rs[x.val] = false) : runOf ok n (-1) rs = m.length := by
 obtain ⟨t, ht⟩ := hp
 have e := atF_all rs
 rw [← ht] at e
 have e2 : atF rs m ++ rs[x.val] :: atF rs t = rs := by simpa [atF] using e
 have := run_cut (atF rs t) (atF rs m) (-1) (by rw [hm, atF_length]) hb
 rw [e2, atF_length] at this
 exact this
open Go.RowKit Go.Shelf
open Sha Tal
attribute [local go_sem] Oper.semAt_some
def okS (ds : List (List Int)) (body : ByteArray) (s : Sg) : Bool := checkOf (signOf ds s.n body) s.t
structure RB (W : World) (A : Nat) (p : Option Addr) (n : Int) (body : ByteArray) (SV : Value) (c ah : Int) : Prop where
 b0 : Boxed W A 26 (.pointer p)
 b1 : Boxed W (A + 1) 3 (.int .i64 n)
 b2 : Boxed W (A + 2) 9 (.string body)
 b3 : Boxed W (A + 3) 24 SV
 b4 : Boxed W (A + 4) 3 (.int .i64 c)
 b5 : Boxed W (A + 5) 3 (.int .i64 ah)
 b6 : Boxed W (A + 6) 24 SV
theorem boxed_below {W W' : World} {B : Nat} {t : TypeId} {v : Value} (h : Boxed W B t v) (hb : Below W.heap.size W W') : Boxed W' B t v := (hb.block B h.lt).trans h
theorem RB.below {W W' : World} {A : Nat} {p : Option Addr} {n : Int} {body : ByteArray} {SV : Value} {c ah : Int} (h : RB W A p n body SV c ah) (hb : Below W.heap.size W W') : RB W' A p n body SV c ah :=
 ⟨boxed_below h.b0 hb, boxed_below h.b1 hb, boxed_below h.b2 hb, boxed_below h.b3 hb, boxed_below h.b4 hb, boxed_below h.b5 hb, boxed_below h.b6 hb⟩
theorem RB.own {β : Type} (A : Nat) (p : Option Addr) (n : Int) (body : ByteArray) (SV : Value) (c ah : β → Int) : Own (fun s W => RB W A p n body SV (c s) (ah s)) := by
 rintro s X Y row h hg hrow
 have key : ∀ {B : Nat} {t : TypeId} {v : Value}, Boxed X B t v → Boxed Y B t v := fun {B} {t} {v} hv => by
  refine hv.kept hg (fun e' => ?_)
  obtain ⟨o, ho, hc⟩ := hrow B e'.symm
  rw [show X.heap[B]? = _ from hv] at ho; cases ho; cases hc
 exact ⟨key h.b0, key h.b1, key h.b2, key h.b3, key h.b4, key h.b5, key h.b6⟩
theorem RB.step {W : World} {A : Nat} {p : Option Addr} {n : Int} {body : ByteArray} {SV : Value} {c ah : Int} (h : RB W A p n body SV c ah) (c' ah' : Int) :
    RB ((W.setCell ⟨A + 4, 0, none⟩ (.int .i64 c')).setCell ⟨A + 5, 0, none⟩ (.int .i64 ah')) A p n body SV c' ah' :=
  ⟨(h.b0.other (by omega) _).other (by omega) _, (h.b1.other (by omega) _).other (by omega) _, (h.b2.other (by omega) _).other (by omega) _, (h.b3.other (by omega) _).other (by omega) _,
   ((h.b4.set _)).other (by omega) _, ((h.b5.other (by omega) _).set _), (h.b6.other (by omega) _).other (by omega) _⟩
theorem below_keepsFrom {W W' : World} (h : Below W.heap.size W W') (B : Nat) : KeepsFrom B W W' :=
 ⟨h.size, fun k _ _ hk _ => (h.block k (Array.getElem?_eq_some_iff.1 hk).1).trans hk⟩
theorem SigsAt.lo {w : World} {a : Option Addr} {rs : List Sg} (h : SigsAt w a rs) : rs = [] ∨ ∀ x, a = some x → x.block < w.heap.size := by
 rcases h.2.2 with h | ⟨b, off, rfl, h1, h2⟩
 ·exact Or.inl h
 ·exact Or.inr fun x e => by cases e; exact h1
theorem Boxed.at {W : World} {t : TypeId} {v : Value} {B : Nat} (h : W.heap.size = B) : Boxed (W.alloc (.cells #[v] t)) B t v := by rw [← h]; exact Boxed.new W t v
theorem keepsFrom_set {W W' : World} {B j : Nat} (h : KeepsFrom B W W') (hj : j < B) (v : Value) : KeepsFrom B W (W'.setCell ⟨j, 0, none⟩ v) :=
 ⟨by simpa using h.1, fun k o hk h1 h2 => (Below.heap_setCell _ _ _ k (by show k ≠ j; omega)).trans (h.2 k o hk h1 h2)⟩
theorem cell_other45 (w : World) (A : Nat) (v : Value) : (w.setCell ⟨A + 4, 0, none⟩ v).cell? ⟨A + 5, 0, none⟩ = w.cell? ⟨A + 5, 0, none⟩ := World.cell?_of_block (Below.heap_setCell _ _ _ (A + 5) (by show A + 5 ≠ A + 4; omega))
theorem RB.new (w : World) (p : Option Addr) (n : Int) (body : ByteArray) (SV : Value) :
    RB (((((((w.alloc (.cells #[.pointer p] 26)).alloc (.cells #[.int .i64 n] 3)).alloc (.cells #[.string body] 9)).alloc (.cells #[SV] 24)).alloc (.cells #[.int .i64 0] 3)).alloc (.cells #[.int .i64 (-1)] 3)).alloc (.cells #[SV] 24)) w.heap.size p n body SV 0 (-1) :=
  ⟨((((((Boxed.at rfl).alloc _).alloc _).alloc _).alloc _).alloc _).alloc _, (((((Boxed.at (by simp)).alloc _).alloc _).alloc _).alloc _).alloc _, ((((Boxed.at (by simp)).alloc _).alloc _).alloc _).alloc _,
   (((Boxed.at (by simp)).alloc _).alloc _).alloc _, ((Boxed.at (by simp)).alloc _).alloc _, (Boxed.at (by simp)).alloc _, Boxed.at (by simp)⟩
set_option maxRecDepth 100000 in
set_option maxHeartbeats 4000000 in
theorem right_in (m : Nat) (hn : 3 ≤ m) (p : Option Addr) (ds : List (List Int)) (n : Int) (body : ByteArray) (a : Option Addr) (cap : Nat) (rs : List Sg) (hlr : rs.length ≤ 100000) (w : World) (hG : Glob w) (hk : KeysAt w p ds) (hbd : ds = [] ∨ body.size ≤ 100000) (hat : SigsAt w a rs) :
  CallsIn Fence.wide m Tryz.prog 71 #[.pointer p, .int .i64 n, .string body, .slice a rs.length cap] w fun e W' => e = .returned (.int .i64 (runOf (okS ds body) n (-1) rs : Int)) ∧ Below w.heap.size w W' := by
 have h1 : 1 ≤ m := by omega
 have hro : Fence.wide.round = none := rfl
 have cA := signers_in Fence.wide (m - 1) trivial hro a rs.length cap
 have HAT := hide hat
 have HK := hide hk
 have HG := hide hG
 have HBD := hide hbd
 clear hat hk hG hbd
 refine callsIn_of_wp_marks Tryz.func71 rfl trivial ?_ hro
 simp only [Tryz.ntmps71, List.size_toArray, List.length_cons, List.length_nil, Nat.reduceAdd, Nat.reduceSub, Array.replicate_succ, Array.replicate_zero, List.push_toArray, List.append_toArray, List.nil_append, List.cons_append]
 gi_wp2
 refine wpIn_wide.2 (wp_scope_straight ((wpIn_wide (n := m)).1 ?_))
 gi_wp2
 refine wpIn_label ?_
 gi_wp2_with (refine And.intro trivial ?_; gi_at_call 111; refine (cA _).mono ?_; rintro e w2 ⟨rfl, rfl⟩)
 clear cA
 simp only [Nat.add_assoc, Nat.reduceAdd]
 have bx := RB.new w p n body (.slice a rs.length cap)
 have hB3 : Below w.heap.size w (((((((w.alloc (.cells #[.pointer p] 26)).alloc (.cells #[.int .i64 n] 3)).alloc (.cells #[.string body] 9)).alloc (.cells #[.slice a rs.length cap] 24)).alloc (.cells #[.int .i64 0] 3)).alloc (.cells #[.int .i64 (-1)] 3)).alloc (.cells #[.slice a rs.length cap] 24)) :=
  (((((((Below.refl _ w).alloc (Nat.le_refl _) _).alloc (by simp) _).alloc (by simp; omega) _).alloc (by simp; omega) _).alloc (by simp; omega) _).alloc (by simp; omega) _).alloc (by simp; omega) _
 have hsz : (((((((w.alloc (.cells #[.pointer p] 26)).alloc (.cells #[.int .i64 n] 3)).alloc (.cells #[.string body] 9)).alloc (.cells #[.slice a rs.length cap] 24)).alloc (.cells #[.int .i64 0] 3)).alloc (.cells #[.int .i64 (-1)] 3)).alloc (.cells #[.slice a rs.length cap] 24)).heap.size = w.heap.size + 7 := by simp
 obtain ⟨w3, hw3⟩ : ∃ w3, Hid ((((((((w.alloc (.cells #[.pointer p] 26)).alloc (.cells #[.int .i64 n] 3)).alloc (.cells #[.string body] 9)).alloc (.cells #[.slice a rs.length cap] 24)).alloc (.cells #[.int .i64 0] 3)).alloc (.cells #[.int .i64 (-1)] 3)).alloc (.cells #[.slice a rs.length cap] 24)) = w3) := ⟨_, hide rfl⟩
 rw [hw3.out] at bx hB3 hsz ⊢
 have hbs : w.heap.size + 6 < w3.heap.size := by omega
 have hws : w.heap.size ≤ w3.heap.size := by omega
 clear hw3 hsz
 obtain ⟨A, hA⟩ : ∃ A, Hid (w.heap.size = A) := ⟨_, hide rfl⟩
 rw [hA.out] at bx hB3 hbs hws ⊢
 have ST := signersF_stops Fence.wide (m - 1) trivial hro (by omega) (A + 6) A a cap rs hlr w3 hbs hws bx.b6.cell (HAT.out.below (by rw [hA.out]; exact hB3)) (by have := HAT.out.lo; rw [hA.out] at this; exact this)
 refine wpIn_rangeFunc_ownG hro h1 (gf := 148) (lb := #[.pointer (some ⟨A + 6, 0, none⟩)]) rfl trivial (enters_of Tryz.func148 (by kernel_rfl) rfl)
  ST (fun h k => h.tr k) (keepsB_b hws hbs) (Below.refl _ _) (fun _ => rfl)
  (fun pre W => RB W A p n body (.slice a rs.length cap) (pre.length : Int) (lastN (-1) (atF rs pre)) ∧ Below A w W ∧ runOf (okS ds body) n (-1) (atF rs pre) = pre.length)
  (fun c xs W => c = .exit 0 ∧ ∃ (mm : List (Fin rs.length)) (x : Fin rs.length), xs = mm ++ [x] ∧ RB W A p n body (.slice a rs.length cap) (mm.length : Int) (lastN (-1) (atF rs mm)) ∧ Below A w W ∧ runOf (okS ds body) n (-1) (atF rs mm) = mm.length ∧ (rs[x.val].n ≤ lastN (-1) (atF rs mm) ∨ n ≤ rs[x.val].n ∨ okS ds body rs[x.val] = false))
  (OwnFrom.and (Own.from (RB.own A p n body (.slice a rs.length cap) (fun pre : List (Fin rs.length) => (pre.length : Int)) (fun pre => lastN (-1) (atF rs pre))) _) (OwnFrom.and (ownFrom_below (by rw [hA.out]; exact Nat.le_refl _) hws) (fun _ _ _ _ h _ _ => h)))
  (fun c s X Y row h hg hrow => by
   obtain ⟨hc, mm, x, e, hb, hB, hr⟩ := h
   exact ⟨hc, mm, x, e, (RB.own (β := Unit) A p n body (.slice a rs.length cap) (fun _ => _) (fun _ => _)) () X Y row hb hg (fun r er => (hrow r er).2), hB.grown hg (by have := hb.b6.lt; omega) (fun k ek => Nat.le_trans hws (hrow k ek).1), hr⟩)
  ⟨bx, hB3, rfl⟩
  (fun x => { tmps := #[.pointer p, .int .i64 n, .string body, .slice a rs.length cap, .pointer (some ⟨A, 0, none⟩), .pointer (some ⟨A + 1, 0, none⟩), .pointer (some ⟨A + 2, 0, none⟩), .pointer (some ⟨A + 3, 0, none⟩), .int .i64 0, .pointer (some ⟨A + 4, 0, none⟩), .pointer (some ⟨A + 5, 0, none⟩), .int .i64 (x.val : Int), .int .i64 (rs[x.val].n), .slice a rs.length cap, .func (.func 148) #[] #[.pointer (some ⟨A + 6, 0, none⟩)], .int .i64 (x.val : Int), .int .i64 (rs[x.val].n), undef, undef, undef, undef, undef, undef, undef, undef, undef, undef, undef, undef, undef, undef, undef, undef, undef, undef, undef, undef, undef, undef], defers := [] }) ?assign ?body ?done ?stop
 case assign =>
  intro l x W K hK
  gi_wp2
  exact hK
 case body =>
  rintro l pre x W ⟨hbx, hB, hrun⟩ hlt
  have c5 := hbx.b5.cell
  have c1 := hbx.b1.cell
  obtain ⟨N, hN⟩ : ∃ N, Hid (rs[x.val].n = N) := ⟨_, hide rfl⟩
  obtain ⟨ah, hah⟩ : ∃ N, Hid (lastN (-1) (atF rs pre) = N) := ⟨_, hide rfl⟩
  have HBX := hide hbx
  have HR := hide hrun
  rw [hah.out] at c5
  rw [hN.out]
  clear hbx hrun
  by_cases g1 : N ≤ ah
  ·gi_wp2
   exact ⟨below_keepsFrom (Below.refl _ _) _, rfl, pre, x, rfl, HBX.out, hB, HR.out, .inl (by rw [hN.out, hah.out]; exact g1)⟩
  by_cases g2 : n ≤ N
  ·gi_wp2
   exact ⟨below_keepsFrom (Below.refl _ _) _, rfl, pre, x, rfl, HBX.out, hB, HR.out, .inr (.inl (by rw [hN.out]; exact g2))⟩
  have hlx := x.isLt
  have k1 : (x.val : Int) < rs.length := by omega
  obtain ⟨b, off, rfl, hb, hre⟩ := (HAT.out.below (by rw [hA.out]; exact hB)).elem x.val hlx
  have hok : rs[x.val].ok := HAT.out.2.1 _ (List.getElem_mem hlx)
  obtain ⟨r, hr⟩ : ∃ r, Hid (rs[x.val] = r) := ⟨_, hide rfl⟩
  have cs := fun w0 g0 k0 => signed_any p ds body r w0 g0 k0 HBD.out (by rw [← hr.out]; exact hok)
  have HOK : Hid (okS ds body rs[x.val] = checkOf (signOf ds r.n body) r.t) := hide (by rw [hr.out]; rfl)
  have hiu : (Tryz.prog.info? 56).map (·.size) = some r.cells.length := by rw [← hr.out]; exact hok.isz
  rw [hr.out] at hre
  obtain ⟨u, hu⟩ : ∃ u, Hid (r.cells = u) := ⟨_, hide rfl⟩
  rw [hu.out] at hre hiu
  simp only [hu.out] at cs
  obtain ⟨B, hBe⟩ : ∃ B, Hid (checkOf (signOf ds r.n body) r.t = B) := ⟨_, hide rfl⟩
  simp only [hBe.out] at cs
  rw [hBe.out] at HOK
  have c0 := HBX.out.b0.cell
  have c2 := HBX.out.b2.cell
  have c3 := HBX.out.b3.cell
  have c4 := HBX.out.b4.cell
  have l0 := HBX.out.b0.lt
  have l2 := HBX.out.b2.lt
  have l3 := HBX.out.b3.lt
  clear hok hu hBe
  gi_upto_region 6 with fail
  obtain ⟨w5, hw5⟩ : ∃ w5, W.drew = w5 := ⟨_, rfl⟩
  have hW5 : Below W.heap.size W w5 := by rw [← hw5]; exact (Below.refl _ _).drew
  refine hi_begin (S := (Below w5.heap.size w5)) 9 rfl (by kernel_rfl) (by kernel_rfl) (fun ⟨_, _, h⟩ => h) ?_
  rw [hw5]
  have hre5 := range_below hre hW5 hb
  have hb5 := Nat.lt_of_lt_of_le hb hW5.size
  have c0' := (hW5.cell (p := ⟨A, 0, none⟩) l0).trans c0
  have c2' := (hW5.cell (p := ⟨A + 2, 0, none⟩) l2).trans c2
  have c3' := (hW5.cell (p := ⟨A + 3, 0, none⟩) l3).trans c3
  have l0' := Nat.lt_of_lt_of_le l0 hW5.size
  have l2' := Nat.lt_of_lt_of_le l2 hW5.size
  have l3' := Nat.lt_of_lt_of_le l3 hW5.size
  have hBw5 : Below A w w5 := hB.trans (hW5.mono (by have := HBX.out.b0.lt; omega))
  clear c0 c2 c3 l0 l2 l3 hre hb c4 c5 c1
  have hS : (Below w5.heap.size w5) w5 := Below.refl _ _
  refine hs_t 0 27 (?_) rfl (by kernel_rfl) (by kernel_rfl) (by kernel_rfl) (by rfl) ?_ hS rfl ?_
  rotate_left
  ·intro w' hw
   have hc := (hw.cell (p := ⟨A, 0, none⟩) l0').trans c0'
   go_simp
   try with_reducible rfl
  simp only [nz]
  refine hs_t 1 28 (?_) rfl (by kernel_rfl) (by kernel_rfl) (by kernel_rfl) (by rfl) ?_ hS rfl ?_
  rotate_left
  ·intro w' hw
   have hc := (hw.cell (p := ⟨A + 2, 0, none⟩) l2').trans c2'
   go_simp
   try with_reducible rfl
  simp only [nz]
  refine hs_t 2 29 (?_) rfl (by kernel_rfl) (by kernel_rfl) (by kernel_rfl) (by rfl) ?_ hS rfl ?_
  rotate_left
  ·intro w' hw
   have hc := (hw.cell (p := ⟨A + 3, 0, none⟩) l3').trans c3'
   go_simp
   try with_reducible rfl
  simp only [nz]
  refine hs_t 3 30 (?_) rfl (by kernel_rfl) (by kernel_rfl) (by kernel_rfl) (by rfl) ?_ hS rfl ?_
  rotate_left
  ·intro w' hw
   go_simp
   try with_reducible rfl
  simp only [nz]
  refine hs_t 4 31 (?_) rfl (by kernel_rfl) (by kernel_rfl) (by kernel_rfl) (by rfl) ?_ hS rfl ?_
  rotate_left
  ·intro w' hw
   go_simp
   try with_reducible rfl
  simp only [nz]
  refine hs_t 5 32 (.agg u.toArray) rfl (by kernel_rfl) (by kernel_rfl) (by kernel_rfl) (by rfl) (fun w' hw => exec_load rfl rfl (run_loadVar_mid (P := Tryz.prog) w' b (off + x.val * 17) 56 u _ (range_below hre5 hw hb5) Tryz.underlying56 rfl hiu)) hS rfl ?_
  simp only [nz]
  refine hs_call (i := 6) (d := some 33) rfl (by kernel_rfl) (by rfl) (by go_simp; first | done | exact ⟨rfl, rfl⟩ | with_reducible rfl) rfl ?_
  refine (cs w5 (HG.out.below (by rw [hA.out]; exact hBw5)) (HK.out.below (by rw [hA.out]; exact hBw5))).mono ?_
  rintro e' w6 ⟨rfl, hw6⟩
  have hS : (Below w5.heap.size w5) w6 := hw6
  refine ⟨_, rfl, hS, ?_⟩
  simp only [nz]
  have hW6 : Below W.heap.size W w6 := hW5.trans (hw6.mono hW5.size)
  have HB6 := hide (HBX.out.below hW6)
  have d4 := HB6.out.b4.cell
  have f4 := HB6.out.b4.frozen
  have d5 := HB6.out.b5.cell
  have f5 := HB6.out.b5.frozen
  have q45 := cell_other45 w6 A
  rw [hah.out] at d5
  have hBA : Below A W w6 := hW6.mono (by have := HBX.out.b0.lt; omega)
  have hBw6 : Below A w w6 := hB.trans hBA
  have hpl : pre.length < rs.length := hlt
  clear hlt c0' c2' c3' l0' l2' l3' hre5 hb5 hw5 cs hiu
  cases B
  ·refine hs_t 7 34 (?_) rfl (by kernel_rfl) (by kernel_rfl) (by kernel_rfl) (by rfl) ?_ hS rfl ?_
   rotate_left
   ·intro w' hw
    go_simp
    try with_reducible rfl
   simp only [nz]
   refine hs_t 8 26 (?_) rfl (by kernel_rfl) (by kernel_rfl) (by kernel_rfl) (by rfl) ?_ hS rfl ?_
   rotate_left
   ·intro w' hw
    go_simp
    try with_reducible rfl
   simp only [nz]
   refine hs_done (by kernel_rfl) ?_
   gi_wp2
   exact ⟨below_keepsFrom hW6 _, rfl, pre, x, rfl, HB6.out, hBw6, HR.out, .inr (.inr HOK.out)⟩
  ·refine hs_t 7 34 (?_) rfl (by kernel_rfl) (by kernel_rfl) (by kernel_rfl) (by rfl) ?_ hS rfl ?_
   rotate_left
   ·intro w' hw
    go_simp
    try with_reducible rfl
   simp only [nz]
   refine hs_t 8 26 (?_) rfl (by kernel_rfl) (by kernel_rfl) (by kernel_rfl) (by rfl) ?_ hS rfl ?_
   rotate_left
   ·intro w' hw
    go_simp
    try with_reducible rfl
   simp only [nz]
   refine hs_done (by kernel_rfl) ?_
   gi_wp2
   have HST := HB6.out.step ((pre.length : Int) + 1) N
   have e1 : ((pre ++ [x]).length : Int) = (pre.length : Int) + 1 := by rw [List.length_append]; rfl
   have e2 : lastN (-1) (atF rs (pre ++ [x])) = N := by rw [atF_snoc, lastN_snoc]; exact hN.out
   refine ⟨keepsFrom_set (keepsFrom_set (below_keepsFrom hW6 _) (by omega) _) (by omega) _, ⟨(hBA.setCell (p := ⟨A + 4, 0, none⟩) (by show A ≤ A + 4; omega) _).setCell (p := ⟨A + 5, 0, none⟩) (by show A ≤ A + 5; omega) _, fun _ => HST.b6.trans HBX.out.b6.symm⟩, ?_, (hBw6.setCell (p := ⟨A + 4, 0, none⟩) (by show A ≤ A + 4; omega) _).setCell (p := ⟨A + 5, 0, none⟩) (by show A ≤ A + 5; omega) _, ?_⟩
   ·rw [e1, e2]; exact HST
   ·rw [atF_snoc, run_snoc (atF rs pre) (-1) (by rw [HR.out, atF_length]) (by rw [hN.out, hah.out]; omega) (by rw [hN.out]; omega) HOK.out, List.length_append, List.length_append, atF_length]; rfl
 case done =>
  rintro D ys W hD rfl ⟨hbx, hB, hrun⟩ hK
  rw [List.length_finRange] at hbx hrun
  rw [atF_all] at hrun
  have hc := hbx.b4.cell
  gi_wp2
  refine ⟨by simp, .inl ⟨_, _, rfl, run_takeDeferred hK, ?_⟩⟩
  exact ⟨_, results_tmp rfl _ _ _, by rw [hrun]; rfl, by rw [hA.out]; exact hB.trans (belowK_b (w := w) (by rw [hA.out]; exact Nat.le_refl _) W D _ _ (by rw [hA.out]; omega) hK rfl rfl)⟩
 case stop =>
  rintro D c pre W hD hpre ⟨rfl, mm, x, rfl, hbx, hB, hrun, hbad⟩ hK
  have hst := run_stop hpre hrun hbad
  have hc := hbx.b4.cell
  gi_wp2
  refine ⟨by simp, .inl ⟨_, _, rfl, run_takeDeferred hK, ?_⟩⟩
  exact ⟨_, results_tmp rfl _ _ _, by rw [hst]; rfl, by rw [hA.out]; exact hB.trans (belowK_b (w := w) (by rw [hA.out]; exact Nat.le_refl _) W D _ _ (by rw [hA.out]; omega) hK rfl rfl)⟩
theorem right_any (p : Option Addr) (ds : List (List Int)) (n : Int) (body : ByteArray) (a : Option Addr) (cap : Nat) (rs : List Sg) (hlr : rs.length ≤ 100000) (w : World) (hG : Glob w) (hk : KeysAt w p ds) (hbd : ds = [] ∨ body.size ≤ 100000) (hat : SigsAt w a rs) :
  Calls Tryz.prog 71 #[.pointer p, .int .i64 n, .string body, .slice a rs.length cap] w fun e W' => e = .returned (.int .i64 (runOf (okS ds body) n (-1) rs : Int)) ∧ Below w.heap.size w W' :=
 (callsIn_wide (n := 8)).1 (right_in 8 (by decide) p ds n body a cap rs hlr w hG hk hbd hat)
open Go.RowKit Go.Shelf
open Sha Tal
def qcheckV (ok : Sg → Bool) (n : Int) (rs : List Sg) (need : Int) : Int :=
 if goodB n = false ∨ need < 1 ∨ n < need then 2 else if (rs.length : Int) < need ∨ n < rs.length then 50 else if runOf ok n (-1) rs < rs.length then 50 else 0
set_option maxRecDepth 100000 in
set_option maxHeartbeats 2000000 in
theorem qcheck_any (p : Option Addr) (ds : List (List Int)) (n : Int) (body : ByteArray) (a : Option Addr) (cap : Nat) (rs : List Sg) (need : Int) (hlr : rs.length ≤ 100000) (w : World) (hG : Glob w) (hk : KeysAt w p ds) (hds : ds ≠ []) (hbd : body.size ≤ 100000) (hat : SigsAt w a rs) :
  Calls Tryz.prog 29 #[.pointer p, .int .i64 n, .string body, .slice a rs.length cap, .int .i64 need] w fun e w' => e = .returned (.int .i64 (qcheckV (okS ds body) n rs need)) ∧ Below w.heap.size w w' := by
 have ck := fun w0 h0 => klen_any p ds w0 h0
 have cr := right_any p ds n body a cap rs hlr w hG hk (.inr hbd) hat
 have hle := runOf_le (okS ds body) n rs (-1)
 have hdl : ds.length ≠ 0 := fun h => hds (List.eq_nil_of_length_eq_zero h)
 obtain ⟨L, hL⟩ : ∃ L, Hid (ds.length = L) := ⟨_, hide rfl⟩
 rw [hL.out] at hdl
 simp only [hL.out] at ck
 unfold qcheckV
 obtain ⟨c, hc⟩ : ∃ c, Hid (runOf (okS ds body) n (-1) rs = c) := ⟨_, hide rfl⟩
 rw [hc.out] at cr hle ⊢
 have hl0 : ((L : Int) == 0) = false := by simp; omega
 clear hL hc hds hbd
 by_cases g0 : goodB n = true
 rotate_left
 ·have g0' : goodB n = false := by simpa using g0
  rw [if_pos (.inl g0')]
  have cg := fun w0 => good_false g0' w0
  clear g0 g0' cr
  go_enter Tryz.func29, Tryz.ntmps29
  go_wp2_with (first | (go_at_call 27; refine (ck _ hk).mono ?_; rintro e w1 ⟨rfl, rfl⟩) | (go_at_call 42; refine (cg _).mono ?_; rintro e w1 ⟨rfl, rfl⟩))
  go_ret
  exact ⟨rfl, Below.refl _ _⟩
 have cg := fun w0 => good_true g0 w0
 by_cases g1 : need < 1
 ·rw [if_pos (.inr (.inl g1))]
  clear cr
  go_enter Tryz.func29, Tryz.ntmps29
  go_wp2_with (first | (go_at_call 27; refine (ck _ hk).mono ?_; rintro e w1 ⟨rfl, rfl⟩) | (go_at_call 42; refine (cg _).mono ?_; rintro e w1 ⟨rfl, rfl⟩))
  go_ret
  exact ⟨rfl, Below.refl _ _⟩
 by_cases g2 : n < need
 ·rw [if_pos (.inr (.inr g2))]
  clear cr
  go_enter Tryz.func29, Tryz.ntmps29
  go_wp2_with (first | (go_at_call 27; refine (ck _ hk).mono ?_; rintro e w1 ⟨rfl, rfl⟩) | (go_at_call 42; refine (cg _).mono ?_; rintro e w1 ⟨rfl, rfl⟩))
  go_ret
  exact ⟨rfl, Below.refl _ _⟩
 rw [if_neg (by rw [g0]; simp; omega)]
 by_cases g3 : (rs.length : Int) < need
 ·rw [if_pos (.inl g3)]
  clear cr
  go_enter Tryz.func29, Tryz.ntmps29
  go_wp2_with (first | (go_at_call 27; refine (ck _ hk).mono ?_; rintro e w1 ⟨rfl, rfl⟩) | (go_at_call 42; refine (cg _).mono ?_; rintro e w1 ⟨rfl, rfl⟩))
  go_ret
  exact ⟨rfl, Below.refl _ _⟩
 by_cases g4 : n < (rs.length : Int)
 ·rw [if_pos (.inr g4)]
  clear cr
  go_enter Tryz.func29, Tryz.ntmps29
  go_wp2_with (first | (go_at_call 27; refine (ck _ hk).mono ?_; rintro e w1 ⟨rfl, rfl⟩) | (go_at_call 42; refine (cg _).mono ?_; rintro e w1 ⟨rfl, rfl⟩))
  go_ret
  exact ⟨rfl, Below.refl _ _⟩
 rw [if_neg (by omega)]
 by_cases g5 : c < rs.length
 ·rw [if_pos g5]
  have g5' : (c : Int) < rs.length := by omega
  go_enter Tryz.func29, Tryz.ntmps29
  go_wp2_with (first | (go_at_call 27; refine (ck _ hk).mono ?_; rintro e w1 ⟨rfl, rfl⟩) | (go_at_call 42; refine (cg _).mono ?_; rintro e w1 ⟨rfl, rfl⟩) | (go_at_call 71; refine cr.mono ?_; rintro e w1 ⟨rfl, hw1⟩))
  go_ret
  exact ⟨rfl, hw1⟩
 ·rw [if_neg g5]
  have g5' : ¬ (c : Int) < rs.length := by omega
  go_enter Tryz.func29, Tryz.ntmps29
  go_wp2_with (first | (go_at_call 27; refine (ck _ hk).mono ?_; rintro e w1 ⟨rfl, rfl⟩) | (go_at_call 42; refine (cg _).mono ?_; rintro e w1 ⟨rfl, rfl⟩) | (go_at_call 71; refine cr.mono ?_; rintro e w1 ⟨rfl, hw1⟩))
  go_ret
  exact ⟨rfl, hw1⟩
open Go.RowKit Go.Shelf
open Sha Tal
set_option linter.unusedVariables false
set_option linter.unusedSimpArgs false
theorem KeysAt.apart {w : World} {p : Option Addr} {ds : List (List Int)} (h : KeysAt w p ds) (X : Nat) (s : ByteArray) (hX : w.cell? ⟨X, 0, none⟩ = some (.string s)) (vs : List Value) : KeysAt (w.setCells X 0 vs) p ds := by
  rcases h with h | ⟨K, a, cap, rfl, hK, hc, hl, hd, hr⟩
  · exact .inl h
  · have hKX : K ≠ X := fun e => by subst e; rw [hc] at hX; cases hX
    have hcK : w.rangeAt K 0 [.slice a ds.length cap] := fun j v hv => by
      cases j with
      | zero => simp at hv; subst hv; exact hc
      | succ j => simp at hv
    have hc' := World.rangeAt_setCells_apart hcK X 0 vs (.inl hKX) 0 _ rfl
    refine .inr ⟨K, a, cap, rfl, by rw [size_sets]; exact hK, hc', hl, hd, ?_⟩
    rcases hr with hr | ⟨D, rfl, hD, hr⟩
    · exact .inl hr
    · by_cases hz : ds = []
      · exact .inl hz
      · refine .inr ⟨D, rfl, by rw [size_sets]; exact hD, fun i d hi => ?_⟩
        have hDX : D ≠ X := fun e => by
          subst e
          obtain ⟨d0, dr, rfl⟩ := List.exists_cons_of_ne_nil hz
          have h0 := hr 0 d0 rfl
          obtain ⟨l0, _⟩ := hd d0 (List.mem_cons_self ..)
          have hc0 := get8 h0 (i := 0) (by omega)
          simp only [Nat.zero_mul, Nat.add_zero] at hc0
          rw [hc0] at hX
          cases hX
        exact World.rangeAt_setCells_apart (hr i d hi) X 0 vs (.inl hDX)
def seedR : ByteArray := { data := #[114] }
def rkL : List Value := [.string seedR, .int .i64 72]
theorem iszK : (Tryz.prog.info? 28).map (·.size) = some 2 := by kernel_rfl
set_option maxRecDepth 100000 in
set_option maxHeartbeats 2000000 in
theorem keys6_any (w : World) (hG : Glob w) :
   Calls Tryz.prog 6 #[] w fun e w' => ∃ p, e = .returned (.tuple #[.pointer p, .agg rkL.toArray]) ∧ p ≠ none ∧ KeysAt w' p (keysOf seedR 72) ∧ Below w.heap.size w w' := by
  have cr := fun w0 => refDerive_yes seedR 72 w0 (by omega) (by omega) (by decide)
  have hB1 : Below w.heap.size w (w.alloc (.cells #[.string ⟨#[]⟩, .int .i64 0] 28)) := (Below.refl _ _).alloc (Nat.le_refl _) _
  have hc1 : (w.alloc (.cells #[.string ⟨#[]⟩, .int .i64 0] 28)).cell? ⟨w.heap.size, 0, none⟩ = some (.string ⟨#[]⟩) := range_new w #[.string ⟨#[]⟩, .int .i64 0] 28 0 _ rfl
  have hT1 := there_new w #[.string ⟨#[]⟩, .int .i64 0] 28
  have hz1 : w.heap.size < (w.alloc (.cells #[.string ⟨#[]⟩, .int .i64 0] 28)).heap.size := by simp
  go_enter Tryz.func6, Tryz.ntmps6
  go_upto_region 1 with fail
  go_name_world w1 hw1
  rw [hw1] at hB1 hc1 hT1 hz1
  clear hw1
  have c1 := cr w1
  unfold seedR at c1
  go_wp2_with fail
  refine c1.mono ?_
  rintro e w2 ⟨rfl, hw2⟩
  have hB2 := hB1.trans (hw2.mono hB1.size)
  have hc2 := (hw2.cell (p := ⟨w.heap.size, 0, none⟩) hz1).trans hc1
  have hT2 := there_below hT1 hw2 hz1
  have hz2 := Nat.lt_of_lt_of_le hz1 hw2.size
  clear c1 cr hB1 hc1 hT1 hz1 hw2
  have hQ3 : (w2.alloc (.cells #[.string ⟨#[114]⟩, .int .i64 72] 28)).rangeAt w2.heap.size 0 [.string ⟨#[114]⟩, .int .i64 72] := range_new w2 #[.string ⟨#[114]⟩, .int .i64 72] 28
  have hF3 : Below w2.heap.size w2 (w2.alloc (.cells #[.string ⟨#[114]⟩, .int .i64 72] 28)) := (Below.refl _ _).alloc (Nat.le_refl _) _
  have hz3' : w2.heap.size < (w2.alloc (.cells #[.string ⟨#[114]⟩, .int .i64 72] 28)).heap.size := by simp
  go_upto_region 2 with fail
  go_name_world w3 hw3
  rw [hw3] at hQ3 hF3 hz3'
  have hz3 : w2.heap.size < w3.heap.size := by omega
  have hB3 := hB2.trans (hF3.mono hB2.size)
  have hc3 := (hF3.cell (p := ⟨w.heap.size, 0, none⟩) hz2).trans hc2
  have hT3 := there_below hT2 hF3 hz2
  have hzz3 := Nat.lt_of_lt_of_le hz2 hF3.size
  have hne : w2.heap.size ≠ w.heap.size := by omega
  clear hw3 hB2 hc2 hT2 hz2 hz3' hF3
  obtain ⟨X2, hX2⟩ : ∃ X, w2.heap.size = X := ⟨_, rfl⟩
  rw [hX2] at hQ3 hz3 hne ⊢
  clear hX2
  try simp only [Act.put]
  have hB4 := hB3.drew
  have hQ4 : w3.drew.rangeAt X2 0 [.string ⟨#[114]⟩, .int .i64 72] := (World.rangeAt_drew _ _ _ _).2 hQ3
  have hc4 : w3.drew.cell? ⟨w.heap.size, 0, none⟩ = some (.string ⟨#[]⟩) := hc3
  have hT4 : w3.drew.there w.heap.size 0 2 := (World.there_drew _ _ _ _).2 hT3
  have hz4 : X2 < w3.drew.heap.size := hz3
  have hzz4 : w.heap.size < w3.drew.heap.size := hzz3
  clear hB3 hQ3 hc3 hT3 hz3 hzz3
  obtain ⟨X, hX⟩ : ∃ X, Hid (w.heap.size = X) := ⟨_, hide rfl⟩
  rw [hX.out] at hc4 hT4 hzz4 hne ⊢
  obtain ⟨w5, hw5⟩ : ∃ w5, w3.drew = w5 := ⟨_, rfl⟩
  rw [hw5] at hB4 hQ4 hc4 hT4 hz4 hzz4
  refine hs_begin (S := (fun W : World => W.rangeAt X2 0 [.string ⟨#[114]⟩, .int .i64 72] ∧ Below w.heap.size w W)) 4 rfl (by kernel_rfl) ?_
  rw [hw5]
  clear hw5
  have hS : (fun W : World => W.rangeAt X2 0 [.string ⟨#[114]⟩, .int .i64 72] ∧ Below w.heap.size w W) w5 := ⟨hQ4, hB4⟩
  refine hs_t 1 9 (.agg #[.string ⟨#[114]⟩, .int .i64 72]) rfl (by kernel_rfl) (by kernel_rfl) (by kernel_rfl) (by rfl) (fun w' hw => exec_load rfl rfl (run_loadVar_mid (P := Tryz.prog) w' X2 0 28 [.string ⟨#[114]⟩, .int .i64 72] _ hw.1 Tryz.underlying28 rfl iszK)) hS rfl ?_
  simp only [nz]
  have cd := derive_yes seedR 72 w5 (hG.below hB4) (by omega) (by omega) (by decide)
  refine hs_call (i := 0) (d := some 8) rfl (by kernel_rfl) (by rfl) (by go_simp; first | done | exact ⟨rfl, rfl⟩ | with_reducible rfl) rfl ?_
  refine (cd).mono ?_
  rintro e' w6 ⟨p, rfl, hp, hk, hw6⟩
  have hS : (fun W : World => W.rangeAt X2 0 [.string ⟨#[114]⟩, .int .i64 72] ∧ Below w.heap.size w W) w6 := ⟨range_below hS.1 hw6 hz4, hS.2.trans (hw6.mono hS.2.size)⟩
  refine ⟨_, rfl, hS, ?_⟩
  simp only [nz]
  have hc6 := (hw6.cell (p := ⟨X, 0, none⟩) hzz4).trans hc4
  have hT6 := there_below hT4 hw6 hzz4
  have hk7 := hk.apart X _ hc6 [.string ⟨#[114]⟩, .int .i64 72]
  have hB7 : Below w.heap.size w (w6.setCells X 0 [.string ⟨#[114]⟩, .int .i64 72]) := below_sets (by rw [hX.out]; omega) _ 0 w6 hS.2
  have hrs := run_loadVar_mid (P := Tryz.prog) (w6.setCells X 0 [.string ⟨#[114]⟩, .int .i64 72]) X 0 28 [.string ⟨#[114]⟩, .int .i64 72] _ (World.rangeAt_setCells_same w6 X 0 [.string ⟨#[114]⟩, .int .i64 72] hT6) Tryz.underlying28 rfl iszK
  have hst := run_storeVar_mid (P := Tryz.prog) w6 X 0 28 #[.string ⟨#[114]⟩, .int .i64 72] hT6 iszK (by simp [Value.oneCell'])
  clear cd hk hw6
  refine hs_t 2 0 (?_) rfl (by kernel_rfl) (by kernel_rfl) (by kernel_rfl) (by rfl) ?_ hS rfl ?_
  rotate_left
  · intro w' hw
    go_simp
    try with_reducible rfl
  simp only [Act.put, List.setIfInBounds_toArray, List.set_cons_zero]
  refine hs_store (i := 3) (w' := (w6.setCells X 0 [.string ⟨#[114]⟩, .int .i64 72])) rfl (by kernel_rfl) (by rfl) (exec_store rfl rfl rfl hst) rfl ⟨World.rangeAt_setCells_apart hS.1 X 0 _ (.inl hne), hB7⟩ ?_
  refine hs_done (by kernel_rfl) ?_
  go_wp2_with fail
  exact bodyPost_ret (v := .tuple #[.pointer p, .agg #[.string ⟨#[114]⟩, .int .i64 72]]) (by simp [results, Tryz.results6, asAddr, hrs]) rfl ⟨p, rfl, hp, hk7, hB7⟩
end Go.Proofs.YtnfijfnnpbenfaaGreatDoor.Qs
