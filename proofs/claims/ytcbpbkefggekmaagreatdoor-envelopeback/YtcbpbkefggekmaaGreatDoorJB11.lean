/- the closure of seal.Mac: the digest of the key's block, xored, and the parts; seal.Mac: the mac of parts; the document's Mac; requests: their fields, their body -/
import Derived.Test.YtcbpbkefggekmaaGreatDoorJB0
import Derived.Test.YtcbpbkefggekmaaGreatDoorJB3
import Derived.Test.YtcbpbkefggekmaaGreatDoorJB4
import Derived.Test.YtcbpbkefggekmaaGreatDoorJB8
import Derived.Test.YtcbpbkefggekmaaGreatDoorJB10
import Derived.Laws.MakeOwn
import Derived.Test.YtcbpbkefggekmaaGreatDoorJB1
import Derived.Test.YtcbpbkefggekmaaGreatDoorJB2
import Derived.Laws.IdiomStrings
import Derived.Lib.SlBytesConst
namespace Go.Proofs.YtcbpbkefggekmaaGreatDoor.Qs
open Go.RowKit
open Sha
def xorB (x z : Int) : Int := bits .xor .u8 z x
theorem xorB_ok (x z : Int) : 0 ≤ xorB x z ∧ xorB x z < 256 := by
 unfold xorB
 show 0 ≤ IntKind.u8.wrap _ ∧ IntKind.u8.wrap _ < 256
 rw [IntKind.wrap_u8]; omega
def xorL (x : Int) (zs : List Int) : List Int := zs.map (xorB x)
theorem xorL_ok (x : Int) (zs : List Int) : ∀ z ∈ xorL x zs, 0 ≤ z ∧ z < 256 := fun z hz => by
 obtain ⟨u, _, rfl⟩ := List.mem_map.1 hz; exact xorB_ok x u
theorem xorL_len (x : Int) (zs : List Int) : (xorL x zs).length = zs.length := by simp [xorL]
theorem parts_src {w : World} {a : Option Addr} {ps : List Part} (h : PartsAt w a ps) (cap : Nat) : Src Tryz.prog 1 166 (.slice a ps.length cap) ps.length (ps.map Part.val) w := by
 have one : ∀ u ∈ ps.map Part.val, u.oneCell' = true := fun u hu => by
  obtain ⟨p, _, rfl⟩ := List.mem_map.1 hu; rfl
 cases a with
 | none =>
  have : ps = [] := by
   rcases h.2.2 with q | ⟨b, off, hx, _⟩
   ·exact q
   ·cases hx
  subst this
  exact Src.ofNil w Tryz.underlying166 cap
 | some y =>
  refine Src.ofSlice w Tryz.underlying166 y ps.length cap _ (by simp) (fun j u hu => ?_) one
  rcases h.2.2 with rfl | ⟨b, off, hx, _, hr⟩
  ·simp at hu
  ·cases hx
   rw [Addr.add_mid]
   exact hr j u hu
set_option maxRecDepth 20000 in
set_option maxHeartbeats 1000000 in
theorem macC_any (x : Int) (K : Nat) (kb : List Int) (a : Option Addr) (cap : Nat) (ps : List Part) (w : World) (hG : Glob w) (hkl : kb.length = 64) (hK : w.rangeAt K 0 (v8 kb)) (hKs : K < w.heap.size) (h : PartsAt w a ps) (hn : (cat ps).length < 1000000) (hpl : ps.length ≤ 100000) :
   Calls Tryz.prog 106 #[.int .u8 x, .slice a ps.length cap, .pointer (some ⟨K, 0, none⟩)] w fun e w' => e = .returned (.agg (v8 (sha (xorL x kb ++ cat ps))).toArray) ∧ Below w.heap.size w w' := by
  have hBr : Below w.heap.size w (w.alloc (.cells (Array.replicate 32 (.int .u8 0)) 41)) := (Below.refl _ _).alloc (Nat.le_refl _) _
  have hT0 := (new_bytes w 32 41).2
  have hK1 := range_below hK hBr hKs
  have hvl : (v8 kb).length = 64 := by rw [v8_length, hkl]
  have hi : (Tryz.prog.info? 169).map (·.size) = some (v8 kb).length := by rw [hvl]; exact isz52
  have hi' : (Tryz.prog.info? 169).map (·.size) = some (v8 kb).toArray.size := by rw [List.size_toArray]; exact hi
  have hN := (new64 (w.alloc (.cells (Array.replicate 32 (.int .u8 0)) 41))).2
  have hN' : ((w.alloc (.cells (Array.replicate 32 (.int .u8 0)) 41)).alloc (.cells (Array.replicate 64 (.int .u8 0)) 169)).there (w.heap.size + 1) 0 (v8 kb).toArray.size := by
    have e : (v8 kb).toArray.size = 64 := by rw [List.size_toArray, hvl]
    rw [e]
    have es : (w.alloc (.cells (Array.replicate 32 (.int .u8 0)) 41)).heap.size = w.heap.size + 1 := by simp
    rw [es] at hN
    exact hN
  have h1c := all_oneCell_toArray (v8_one kb)
  have F := fresh_store (w.alloc (.cells (Array.replicate 32 (.int .u8 0)) 41)) (Array.replicate 64 (.int .u8 0)) 169 (v8 kb) (by rw [hvl]; rfl)
  have es : (w.alloc (.cells (Array.replicate 32 (.int .u8 0)) 41)).heap.size = w.heap.size + 1 := by simp
  rw [es] at F
  clear hN
  go_enter Tryz.func106, Tryz.ntmps106
  go_upto_region 2 with (first | refine wpList_load_mid (op := ⟨some 9, .load 169 (.tmp 2), _, _, _, none⟩) rfl 169 _ rfl _ _ rfl (v8 kb) _ hK1 Tryz.underlying169 rfl hi ?_ | refine wpList_store_mid (op := ⟨none, .store 169 (.tmp 6) (.tmp 9), _, _, _, none⟩) rfl 169 _ _ rfl _ _ (v8 kb).toArray rfl rfl hN' hi' h1c ?_)
  go_name_world w1 hw1
  rw [show ((w.alloc (.cells (Array.replicate 32 (.int .u8 0)) 41)).alloc (.cells (Array.replicate 64 (.int .u8 0)) 169)).setCells (w.heap.size + 1) 0 (v8 kb) = w1 from hw1] at F
  obtain ⟨hR1, hB1', hz1, hT1⟩ := F
  have hB1 : Below w.heap.size w w1 := hBr.trans (hB1'.mono (by omega))
  have hT01 := there_below hT0 hB1' (by omega)
  have hT1' : w1.there (w.heap.size + 1) 0 64 := by simpa using hT1
  clear hw1 hB1' hT1 hN' hi hi' h1c hvl hK1 hT0 hBr es hz1
  simp only [Act.put]
  go_wp2_with fail
  go_loopw [10] (fun i wr => ∃ k : Nat, k ≤ 64 ∧ i = .int .i64 (k : Int) ∧ wr.rangeAt (w.heap.size + 1) 0 (v8 (xorL x (kb.take k) ++ kb.drop k)) ∧ wr.there (w.heap.size + 1) 0 64 ∧ wr.there w.heap.size 0 32 ∧ Below w.heap.size w wr ∧ w.heap.size + 1 < wr.heap.size) (fun i _ => 64 - (intOf i).toNat)
  case atStart => exact ⟨0, by omega, rfl, by simpa [xorL] using hR1, hT1', hT01, hB1, World.block_lt_of_cell? w1 _ (hR1 0 (.int .u8 (kb.getD 0 0)) (by
      have h0 : 0 < kb.length := by omega
      simp [v8, List.getElem?_eq_getElem h0]))⟩
  case round =>
    clear hR1 hT1' hT01 hB1
    obtain ⟨k, hk, rfl, hR, hT, hT0, hB, hsz⟩ := hrel
    by_cases hlt : k < 64
    · have hlk : k < kb.length := by omega
      obtain ⟨z, hz⟩ : ∃ z, Hid (kb[k] = z) := ⟨kb[k], (rfl : kb[k] = kb[k])⟩
      have hcell : wr.cell? ⟨w.heap.size + 1, k, none⟩ = some (.int .u8 z) := by
        have := hR k (.int .u8 z) (by
          unfold v8
          rw [List.map_append, List.getElem?_append_right (by rw [List.length_map, xorL_len, List.length_take]; omega), List.length_map, xorL_len, List.length_take_of_le (by omega), Nat.sub_self, List.getElem?_map, List.getElem?_drop, Nat.add_zero, List.getElem?_eq_getElem hlk, hz.out]
          rfl)
        rwa [Nat.zero_add] at this
      have hf := (hT k (by omega)).2
      rw [Nat.zero_add] at hf
      have HE : Hid (bits .xor .u8 z x = xorB x z) := rfl
      go_wp2_with fail
      rw [HE.out]
      go_roundw
      case rel =>
        refine ⟨k + 1, by omega, by go_num, ?_, there_set hT _ _, there_set hT0 _ _, hB.setCell (p := ⟨w.heap.size + 1, k, none⟩) (by simp) _, by simpa using hsz⟩
        have := range_set hR k (.int .u8 (xorB x z))
        rw [Nat.zero_add, v8_set] at this
        have e1 : (xorL x (kb.take k) ++ kb.drop k).set k (xorB x z) = xorL x (kb.take (k + 1)) ++ kb.drop (k + 1) := by
          have hl : (xorL x (kb.take k)).length = k := by rw [xorL_len, List.length_take_of_le (by omega)]
          rw [List.set_append_right _ _ (by omega), hl, Nat.sub_self, List.drop_eq_getElem_cons hlk, hz.out, List.set_cons_zero, List.take_succ_eq_append_getElem hlk, hz.out]
          simp [xorL]
        rw [e1] at this
        exact this
      case measure => simp [intOf]; omega
    · have hk64 : k = 64 := by omega
      have hkI : ¬ (k : Int) < 64 := by omega
      have hR64 : wr.rangeAt (w.heap.size + 1) 0 (v8 (xorL x kb)) := by
        rw [List.take_of_length_le (by omega), List.drop_eq_nil_of_le (by omega), List.append_nil] at hR
        exact hR
      clear hR hk64
      have hPw := h.below hB
      obtain ⟨i0, hi, hz0, hz1, hz2⟩ := info_parts infoP
      obtain ⟨w3, hmk, hown3, hgr3⟩ := run_makeSlice_owned (P := Tryz.prog) wr (w.heap.size + 2) 166 59 i0 (.slice none 0 0) 1 Tryz.underlying166 hi hz0 hz1 .i64 .i64 (1 + ps.length) (by omega) (by rw [hz2]; omega) (by unfold maxLen; omega) (by omega)
      have hmk' : (Instr.makeSlice 166 (.int .i64 0) (.int .i64 (1 + (ps.length : Int)))).run Tryz.prog wr = .ok (.slice (some ⟨wr.heap.size, 0, none⟩) 0 (1 + ps.length)) w3 := by
        have := hmk
        rw [show ((1 + ps.length : Nat) : Int) = 1 + (ps.length : Int) by omega] at this
        exact this
      have hw3 : Below (w.heap.size + 2) wr w3 := (Below.refl _ _).grown hgr3 (by omega) (fun _ h => by cases h)
      have hs3 : wr.heap.size ≤ w3.heap.size := hw3.size
      clear hmk hgr3
      obtain ⟨c0, hc0⟩ : ∃ c0, Hid (1 + ps.length = c0) := ⟨_, rfl⟩
      have hown4 := owns_below hown3 ((Below.refl w3.heap.size w3).alloc (Nat.le_refl _) (.cells #[.slice (some ⟨w.heap.size + 1, 0, none⟩) 64 64] 59))
      have hB4 : Below (w.heap.size + 2) wr (w3.alloc (.cells #[.slice (some ⟨w.heap.size + 1, 0, none⟩) 64 64] 59)) := hw3.alloc (by omega) _
      have hxl : (xorL x kb).length = 64 := by rw [xorL_len, hkl]
      have hsrc : Src Tryz.prog 1 166 (.slice (some ⟨w3.heap.size, 0, none⟩) 1 1) 1 [.slice (some ⟨w.heap.size + 1, 0, none⟩) 64 64] (w3.alloc (.cells #[.slice (some ⟨w.heap.size + 1, 0, none⟩) 64 64] 59)) := by
        have := one_src w3 ⟨some ⟨w.heap.size + 1, 0, none⟩, 64, xorL x kb⟩
        unfold Part.val at this
        rw [hxl] at this
        exact this
      have hsl := slice_all (w := w3) Tryz.underlying169 isz8 (w.heap.size + 1) 0 (by omega)
      go_wp2_with (at_builtin; refine wpList_append_own_src _ rfl _ _ 166 166 rfl (w.heap.size + 2) 59 i0 (.slice none 0 0) 1 24 Tryz.underlying166 hi hz0 hz1 hz2 rfl _ 0 _ rfl hown4 _ 1 _ rfl hsrc ?c1 ?c2 ?c3 ?_)
      case c1 => unfold maxLen; omega
      case c3 => omega
      intro v5 w5 hown5 hgr5
      have hB5 := below_grown hB4 (by simp; omega) hown4 hgr5
      have hown5' : w5.ownsRow (w.heap.size + 2) 59 1 v5 1 [.slice (some ⟨w.heap.size + 1, 0, none⟩) 64 64] := by simpa using hown5
      have hs5 : wr.heap.size ≤ w5.heap.size := hB5.size
      have hBw5 : Below w.heap.size w w5 := hB.trans (hB5.mono (by omega))
      have hP5 := h.below hBw5
      have hsrc5 := parts_src hP5 cap
      clear hown4 hB4 hsrc hgr5 hown3 hmk' hsl hw3 hown5
      obtain ⟨va, vc, rfl⟩ : ∃ a c, v5 = .slice a 1 c := by
        rcases own_range hown5' with ⟨_, h0, _⟩ | ⟨g, c, e, _⟩
        · omega
        · exact ⟨_, c, e⟩
      go_wp2_with (at_builtin; refine wpList_append_own_src _ rfl _ _ 166 166 rfl (w.heap.size + 2) 59 i0 (.slice none 0 0) 1 24 Tryz.underlying166 hi hz0 hz1 hz2 rfl _ 1 _ rfl hown5' _ ps.length _ rfl hsrc5 ?d1 ?d2 ?d3 ?_)
      case d1 => unfold maxLen; omega
      case d2 => omega
      case d3 => omega
      intro v6 w6 hown6 hgr6
      have hB6 := below_grown hB5 (by omega) hown5' hgr6
      have hBw6 : Below w.heap.size w w6 := hB.trans (hB6.mono (by omega))
      have hs6 : wr.heap.size ≤ w6.heap.size := hB6.size
      have hR6 := range_below hR64 hB6 (by omega)
      have hT6 := there_below hT0 hB6 (by omega)
      have hat : (⟨some ⟨w.heap.size + 1, 0, none⟩, 64, xorL x kb⟩ : Part).at w6 := ⟨⟨by rw [hxl]; unfold maxLen; omega, xorL_ok x kb, Or.inr ⟨_, _, rfl, by omega, hR6⟩⟩, by show (xorL x kb).length ≤ 64; omega, by show 64 ≤ maxLen; unfold maxLen; omega⟩
      have hown7 : w6.ownsRow (w.heap.size + 2) 59 1 v6 ((⟨some ⟨w.heap.size + 1, 0, none⟩, 64, xorL x kb⟩ : Part) :: ps).length (((⟨some ⟨w.heap.size + 1, 0, none⟩, 64, xorL x kb⟩ : Part) :: ps).map Part.val) := by
        have e : ((⟨some ⟨w.heap.size + 1, 0, none⟩, 64, xorL x kb⟩ : Part) :: ps).map Part.val = [.slice (some ⟨w.heap.size + 1, 0, none⟩) 64 64] ++ ps.map Part.val := by
          simp only [List.map_cons, Part.val, hxl]; rfl
        rw [e, List.length_cons, Nat.add_comm ps.length 1]
        exact hown6
      obtain ⟨av, cv, rfl, hPA⟩ := own_parts hown7 (fun p hp => by
        rcases List.mem_cons.1 hp with rfl | hp
        · exact hat
        · exact (h.2.1 p hp).below hBw6) (by simp; unfold maxLen; omega)
      have hcat : cat ((⟨some ⟨w.heap.size + 1, 0, none⟩, 64, xorL x kb⟩ : Part) :: ps) = xorL x kb ++ cat ps := by simp [cat]
      have c1 := sum_any av cv _ w6 (hG.below hBw6) hPA (by rw [hcat, List.length_append, hxl]; omega)
      rw [hcat] at c1
      have hlen : ((⟨some ⟨w.heap.size + 1, 0, none⟩, 64, xorL x kb⟩ : Part) :: ps).length = 1 + ps.length := by simp; omega
      rw [hlen] at c1 ⊢
      obtain ⟨d, hd⟩ : ∃ d, Hid (v8 (sha (xorL x kb ++ cat ps)) = d) := ⟨_, rfl⟩
      have hdl : d.length = 32 := by rw [← hd.out, v8_length, sha_length]
      have h1d : ∀ v ∈ d, v.oneCell' = true := by rw [← hd.out]; exact v8_one _
      rw [hd.out] at c1
      clear hown6 hown7 hPA hcat hlen hgr6 hB6 hB5 hown5' hsrc5 hP5 hat hR6
      go_wp2_with fail
      refine c1.mono ?_
      rintro e w7 ⟨rfl, hw7⟩
      have hB7 := hBw6.trans (hw7.mono hBw6.size)
      have hT7 := there_below hT6 hw7 (by omega)
      have hi24 : (Tryz.prog.info? 41).map (·.size) = some d.toArray.size := by rw [List.size_toArray, hdl]; exact isz24
      have hsz24 : d.toArray.size = 32 := by rw [List.size_toArray, hdl]
      have hT7' : w7.there w.heap.size 0 d.toArray.size := by rw [hsz24]; exact hT7
      clear c1 hw7
      go_wp2_with (refine wpList_store_mid (op := ⟨none, .store 41 (.tmp 5) (.tmp 31), _, _, _, none⟩) rfl 41 _ _ rfl _ _ d.toArray rfl rfl hT7' hi24 (all_oneCell_toArray h1d) ?_)
      have hRr := World.rangeAt_setCells_same w7 w.heap.size 0 d (by rw [hdl]; exact hT7)
      have hBl := below_sets (Nat.le_refl w.heap.size) d 0 w7 hB7
      have hrs := run_loadVar_mid (P := Tryz.prog) (w7.setCells w.heap.size 0 d) w.heap.size 0 41 d _ hRr Tryz.underlying41 rfl (by rw [hdl]; exact isz24)
      refine bodyPost_ret (v := .agg d.toArray) (by simp [results, Tryz.results106, Act.put, asAddr, hrs]) rfl ⟨by rw [hd.out], hBl⟩
end Go.Proofs.YtcbpbkefggekmaaGreatDoor.Qs
namespace Go.Proofs.YtcbpbkefggekmaaGreatDoor.Sha
open Go.Proofs.YtcbpbkefggekmaaGreatDoor.Qs
open Go.RowKit
open Sha
def mac (key zs : List Int) : List Int := sha (xorL 92 (macBlock key) ++ sha (xorL 54 (macBlock key) ++ zs))
end Go.Proofs.YtcbpbkefggekmaaGreatDoor.Sha
namespace Go.Proofs.YtcbpbkefggekmaaGreatDoor.Qs
open Go.RowKit
open Sha
theorem mac_length (key zs : List Int) : (mac key zs).length = 32 := sha_length _
theorem mac_ok (key zs : List Int) : ∀ z ∈ mac key zs, 0 ≤ z ∧ z < 256 := sha_ok _
theorem there24 (w : World) (d : List Int) (hd : d.length = 32) : (w.alloc (.cells (Array.replicate 32 (.int .u8 0)) 41)).there w.heap.size 0 (v8 d).toArray.size := by
 have e : (v8 d).toArray.size = 32 := by rw [List.size_toArray, v8_length, hd]
 rw [e]; exact (new_bytes w 32 41).2
theorem info24 (d : List Int) (hd : d.length = 32) : (Tryz.prog.info? 41).map (·.size) = some (v8 d).toArray.size := by rw [List.size_toArray, v8_length, hd]; exact isz24
set_option maxRecDepth 20000 in
set_option maxHeartbeats 1000000 in
theorem mac_any (ka : Option Addr) (kc : Nat) (key : List Int) (a : Option Addr) (cap : Nat) (ps : List Part) (w : World) (hG : Glob w) (hk : RowAt w ka key) (hkc : key.length ≤ kc) (hkm : kc ≤ maxLen) (hkl : key.length ≤ 1000000) (h : PartsAt w a ps) (hn : (cat ps).length < 1000000) (hpl : ps.length ≤ 100000) :
   Calls Tryz.prog 64 #[.slice ka key.length kc, .slice a ps.length cap] w fun e w' => e = .returned (.agg (v8 (mac key (cat ps))).toArray) ∧ Below w.heap.size w w' := by
  have hB0 : Below w.heap.size w (w.alloc (.cells (Array.replicate 32 (.int .u8 0)) 41)) := (Below.refl _ _).alloc (Nat.le_refl _) _
  have hT0 := (new_bytes w 32 41).2
  have cb := blockOf_any ka kc key _ (hG.below hB0) (hk.below hB0) hkc hkm hkl
  obtain ⟨kb, hkb⟩ : ∃ kb, Hid (macBlock key = kb) := ⟨_, rfl⟩
  have hbl : kb.length = 64 := by rw [← hkb.out]; exact macBlock_len key
  have HM : Hid (mac key (cat ps) = sha (xorL 92 kb ++ sha (xorL 54 kb ++ cat ps))) := by rw [← hkb.out]; rfl
  rw [hkb.out] at cb
  clear hkb
  have hsb : (v8 kb).length = 64 := by rw [v8_length, hbl]
  go_enter Tryz.func64, Tryz.ntmps64
  go_wp2_with fail
  refine cb.mono ?_
  rintro e w1 ⟨rfl, hw1⟩
  clear cb
  have hB1 := hB0.trans (hw1.mono hB0.size)
  have hs1 := hw1.size
  simp only [World.size_alloc] at hs1
  have hT1 := there_below hT0 hw1 (by simp)
  have F := fresh_store w1 (Array.replicate 64 (.int .u8 0)) 169 (v8 kb) (by rw [hsb]; rfl)
  have hN : (w1.alloc (.cells (Array.replicate 64 (.int .u8 0)) 169)).there w1.heap.size 0 (v8 kb).toArray.size := by
    have e : (v8 kb).toArray.size = 64 := by rw [List.size_toArray, hsb]
    rw [e]; exact (new64 w1).2
  have hi : (Tryz.prog.info? 169).map (·.size) = some (v8 kb).toArray.size := by rw [List.size_toArray, hsb]; exact isz52
  have h1c := all_oneCell_toArray (v8_one kb)
  go_upto_region 3 with (refine wpList_store_mid (op := ⟨none, .store 169 (.tmp 5) (.tmp 9), _, _, _, none⟩) rfl 169 _ _ rfl _ _ (v8 kb).toArray rfl rfl hN hi h1c ?_)
  go_name_world w2 hw2
  rw [show (w1.alloc (.cells (Array.replicate 64 (.int .u8 0)) 169)).setCells w1.heap.size 0 (v8 kb) = w2 from hw2] at F
  obtain ⟨hR2, hB2', hz2', _⟩ := F
  have hz2 : w1.heap.size < w2.heap.size := by omega
  clear hz2'
  clear hw2 hN hi h1c hw1 hT0 hB0
  have hB2 := hB1.trans (hB2'.mono hB1.size)
  have hT2 := there_below hT1 hB2' (by omega)
  have c1 := macC_any 54 w1.heap.size kb a cap ps w2 (hG.below hB2) hbl hR2 (by omega) (h.below hB2) hn hpl
  obtain ⟨d, hd⟩ : ∃ d, Hid (sha (xorL 54 kb ++ cat ps) = d) := ⟨_, rfl⟩
  have hdl : d.length = 32 := by rw [← hd.out]; exact sha_length _
  have hdo : ∀ z ∈ d, 0 ≤ z ∧ z < 256 := by rw [← hd.out]; exact sha_ok _
  rw [hd.out] at c1 HM
  clear hd hB1 hT1
  try simp only [Act.put]
  go_wp2_with fail
  refine c1.mono ?_
  rintro e w3 ⟨rfl, hw3⟩
  clear c1
  have hB3 := hB2.trans (hw3.mono hB2.size)
  have hT3 := there_below hT2 hw3 (by omega)
  have hR3 := range_below hR2 hw3 (by omega)
  have hs3 := hw3.size
  have F := fresh_store w3 (Array.replicate 32 (.int .u8 0)) 41 (v8 d) (by rw [v8_length, hdl]; rfl)
  have hN := there24 w3 d hdl
  have hi := info24 d hdl
  have h1c := all_oneCell_toArray (v8_one d)
  go_upto_region 4 with (refine wpList_store_mid (op := ⟨none, .store 41 (.tmp 7) (.tmp 13), _, _, _, none⟩) rfl 41 _ _ rfl _ _ (v8 d).toArray rfl rfl hN hi h1c ?_)
  go_name_world w4 hw4
  rw [show (w3.alloc (.cells (Array.replicate 32 (.int .u8 0)) 41)).setCells w3.heap.size 0 (v8 d) = w4 from hw4] at F
  obtain ⟨hR4, hB4', hz4', _⟩ := F
  have hz4 : w3.heap.size < w4.heap.size := by omega
  clear hz4'
  clear hw4 hN hi h1c hw3 hR2 hT2
  have hB4 := hB3.trans (hB4'.mono hB3.size)
  have hT4 := there_below hT3 hB4' (by omega)
  have hR4k := range_below hR3 hB4' (by omega)
  have hsl := slice_all (w := w4) Tryz.underlying41 isz8 w3.heap.size 0 (by omega)
  have hat : (⟨some ⟨w3.heap.size, 0, none⟩, 32, d⟩ : Part).at w4 := ⟨⟨by rw [hdl]; unfold maxLen; omega, hdo, Or.inr ⟨_, _, rfl, by omega, hR4⟩⟩, by show d.length ≤ 32; omega, by show 32 ≤ maxLen; unfold maxLen; omega⟩
  have hP := one_part w4 #[.slice (some ⟨w3.heap.size, 0, none⟩) 32 32] ⟨some ⟨w3.heap.size, 0, none⟩, 32, d⟩ hat (by simp only [Part.val, hdl])
  have hBp : Below w.heap.size w (w4.alloc (.cells #[.slice (some ⟨w3.heap.size, 0, none⟩) 32 32] 59)) := hB4.alloc hB4.size _
  have hBq : Below w4.heap.size w4 (w4.alloc (.cells #[.slice (some ⟨w3.heap.size, 0, none⟩) 32 32] 59)) := (Below.refl _ _).alloc (Nat.le_refl _) _
  have hcz : cat [(⟨some ⟨w3.heap.size, 0, none⟩, 32, d⟩ : Part)] = d := by simp [cat]
  have c2 := macC_any 92 w1.heap.size kb _ 1 _ _ (hG.below hBp) hbl (range_below hR4k hBq (by omega)) (by simp; omega) hP (by rw [hcz]; omega) (by simp)
  rw [hcz] at c2
  simp only [List.length_cons, List.length_nil, Nat.zero_add] at c2
  obtain ⟨m, hm⟩ : ∃ m, Hid (sha (xorL 92 kb ++ d) = m) := ⟨_, rfl⟩
  have hml : m.length = 32 := by rw [← hm.out]; exact sha_length _
  rw [hm.out] at c2 HM
  clear hP hat hcz hm
  try simp only [Act.put]
  go_wp2_with fail
  refine c2.mono ?_
  rintro e w5 ⟨rfl, hw5⟩
  clear c2
  have hB5 := hBp.trans (hw5.mono hBp.size)
  have hT5' := there_below (there_below hT4 hBq (by omega)) hw5 (by simp; omega)
  have hT5 : w5.there w.heap.size 0 (v8 m).toArray.size := by
    have e : (v8 m).toArray.size = 32 := by rw [List.size_toArray, v8_length, hml]
    rw [e]; exact hT5'
  have hi := info24 m hml
  have h1c := all_oneCell_toArray (v8_one m)
  clear hw5 hBq hBp
  go_wp2_with (refine wpList_store_mid (op := ⟨none, .store 41 (.tmp 4) (.tmp 17), _, _, _, none⟩) rfl 41 _ _ rfl _ _ (v8 m).toArray rfl rfl hT5 hi h1c ?_)
  have hRr := World.rangeAt_setCells_same w5 w.heap.size 0 (v8 m) (by rw [v8_length, hml]; exact hT5')
  have hBl := below_sets (Nat.le_refl w.heap.size) (v8 m) 0 w5 hB5
  have hrs := run_loadVar_mid (P := Tryz.prog) (w5.setCells w.heap.size 0 (v8 m)) w.heap.size 0 41 (v8 m) _ hRr Tryz.underlying41 rfl (by simpa using hi)
  refine bodyPost_ret (v := .agg (v8 m).toArray) (by simp [results, Tryz.results64, Act.put, asAddr, hrs]) rfl ⟨by rw [HM.out], hBl⟩
theorem exec_append {P : Program} {o : Oper} {a : Act} {w w' : World} {s x : Operand} {t tx : TypeId} {v xv v' : Value} (ho : o.op = .call { callee := .builtin .append, args := #[s, x], argTypes := #[t, tx] }) (hv : a.eval s = v) (hx : a.eval x = xv)
    (hr : (Builtin.append_ #[t, tx] o.type #[v, xv]).run P w = .ok v' w') : (execOp a.eval o).run P w = .ok (.value v') w' := by
  unfold execOp
  simp only [ho, resolve, invoke, builtin, Sem.run_bind, Sem.run_pure, Result.andThen_ok, List.map_toArray, List.map_cons, List.map_nil, hv, hx, hr]
theorem own_low {w : World} {B : Nat} {e : TypeId} {v : Value} {n : Nat} {xs : List Value} (h : w.ownsRow B e 1 v n xs) : ∀ k, v.ownBlock = some k → B ≤ k := by
 intro k hk
 rcases h.2 with ⟨rfl, _⟩ | ⟨g, cap, cur, rfl, hb, _⟩
 ·simp [Value.ownBlock] at hk
 ·have : g = k := by simpa [Value.ownBlock] using hk
  omega
end Go.Proofs.YtcbpbkefggekmaaGreatDoor.Qs
namespace Go.Proofs.YtcbpbkefggekmaaGreatDoor.Rk
open Qs
open Go.RowKit
open Sha Tal
def bodyL (c n : Int) (s : ByteArray) : List Int := [82] ++ putL c ++ putL n ++ textL s
set_option maxRecDepth 100000 in
set_option maxHeartbeats 1000000 in
theorem mayBe_any (c n m : Int) (s : ByteArray) (t : List Int) (w : World) :
   Calls Tryz.prog 61 #[.agg (reqL c n s t).toArray, .int .i64 m] w fun e w' => e = .returned (.bool (decide (0 ≤ c ∧ c < m ∧ 1 ≤ n ∧ n ≤ 1099511627776 ∧ s.size ≤ 64))) ∧ Below w.heap.size w w' := by
  have hB1 : Below w.heap.size w (w.alloc (.cells (reqL c n s t).toArray 81)) := (Below.refl _ _).alloc (Nat.le_refl _) _
  obtain ⟨h0, h1, h2⟩ := reqL_0 (req_cells w c n s t)
  generalize reqL c n s t = q at *
  by_cases a1 : c < 0
  · have e : decide (0 ≤ c ∧ c < m ∧ 1 ≤ n ∧ n ≤ 1099511627776 ∧ s.size ≤ 64) = false := by simp; omega
    rw [e]; clear e
    go_enter Tryz.func61, Tryz.ntmps61
    go_wp2
    go_ret
    exact ⟨rfl, hB1⟩
  · by_cases a2 : m ≤ c
    · have e : decide (0 ≤ c ∧ c < m ∧ 1 ≤ n ∧ n ≤ 1099511627776 ∧ s.size ≤ 64) = false := by simp; omega
      rw [e]; clear e
      go_enter Tryz.func61, Tryz.ntmps61
      go_wp2
      go_ret
      exact ⟨rfl, hB1⟩
    · by_cases a3 : n < 1
      · have e : decide (0 ≤ c ∧ c < m ∧ 1 ≤ n ∧ n ≤ 1099511627776 ∧ s.size ≤ 64) = false := by simp; omega
        rw [e]; clear e
        go_enter Tryz.func61, Tryz.ntmps61
        go_wp2
        go_ret
        exact ⟨rfl, hB1⟩
      · by_cases a4 : 1099511627776 < n
        · have e : decide (0 ≤ c ∧ c < m ∧ 1 ≤ n ∧ n ≤ 1099511627776 ∧ s.size ≤ 64) = false := by simp; omega
          rw [e]; clear e
          go_enter Tryz.func61, Tryz.ntmps61
          go_wp2
          go_ret
          exact ⟨rfl, hB1⟩
        · have e : decide (0 ≤ c ∧ c < m ∧ 1 ≤ n ∧ n ≤ 1099511627776 ∧ s.size ≤ 64) = decide ((s.size : Int) ≤ 64) := by
            rw [decide_eq_decide]; omega
          rw [e]; clear e
          go_enter Tryz.func61, Tryz.ntmps61
          go_wp2
          go_ret
          exact ⟨rfl, hB1⟩
end Go.Proofs.YtcbpbkefggekmaaGreatDoor.Rk
namespace Go.Proofs.YtcbpbkefggekmaaGreatDoor.Qs
open Go.RowKit
open Sha Tal
theorem str_bytes (s : ByteArray) (w : World) (hs : s.size ≤ 1000000) : ∃ cap w', (convert 9 59 (.string s)).run Tryz.prog w = .ok (.slice (some ⟨w.heap.size, 0, none⟩) s.size cap) w' ∧ RowAt w' (some ⟨w.heap.size, 0, none⟩) (strL s) ∧ s.size ≤ cap ∧ cap ≤ maxLen ∧ Below w.heap.size w w' ∧ w.heap.size < w'.heap.size := by
 refine ⟨_, _, run_bytes_of_string w 9 59 5 s Tryz.underlying9 Tryz.underlying59 Tryz.underlying5, ?_, grownCap_ge _ _ _ _, grownCap_le_maxLen _ _ _ _ (by unfold maxLen; omega), ((Below.refl _ _).drew).alloc (Nat.le_refl _) _, by simp⟩
 refine ⟨by rw [strL_length]; unfold maxLen; omega, strL_byte s, Or.inr ⟨_, 0, rfl, by simp, ?_⟩⟩
 have := range_mark w.drew (bytesRow s (grownCap w s.size 0 5)) 5 ((bytesRow s (grownCap w s.size 0 5)).size, (bytesRow s (grownCap w s.size 0 5)).size + 1)
 have e : (bytesRow s (grownCap w s.size 0 5)).toList = v8 (strL s) ++ List.replicate (grownCap w s.size 0 5 - s.size) (.int .u8 0) := by
  simp [bytesRow, v8, strL]
 rw [e] at this
 exact range_left this
def KeysAt (w : World) (p : Option Addr) (ds : List (List Int)) : Prop :=
 (p = none ∧ ds = []) ∨ ∃ K a cap, p = some ⟨K, 0, none⟩ ∧ K < w.heap.size ∧ w.cell? ⟨K, 0, none⟩ = some (.slice a ds.length cap) ∧ ds.length ≤ 4096 ∧ (∀ d ∈ ds, d.length = 32 ∧ ∀ z ∈ d, 0 ≤ z ∧ z < 256) ∧
  (ds = [] ∨ ∃ D, a = some ⟨D, 0, none⟩ ∧ D < w.heap.size ∧ ∀ i d, ds[i]? = some d → w.rangeAt D (i * 32) (v8 d))
theorem KeysAt.below {w w' : World} {p : Option Addr} {ds : List (List Int)} (h : KeysAt w p ds) (hb : Below w.heap.size w w') : KeysAt w' p ds := by
 rcases h with h | ⟨K, a, cap, rfl, hK, hc, hl, hd, hr⟩
 ·exact .inl h
 ·refine .inr ⟨K, a, cap, rfl, Nat.lt_of_lt_of_le hK hb.size, (hb.cell (p := ⟨K, 0, none⟩) hK).trans hc, hl, hd, ?_⟩
  rcases hr with hr | ⟨D, rfl, hD, hr⟩
  ·exact .inl hr
  ·exact .inr ⟨D, rfl, Nat.lt_of_lt_of_le hD hb.size, fun i d hi => range_below (hr i d hi) hb hD⟩
theorem KeysAt.len {w : World} {p : Option Addr} {ds : List (List Int)} (h : KeysAt w p ds) : ds.length ≤ 4096 := by
 rcases h with ⟨_, rfl⟩ | ⟨K, a, cap, _, _, _, hl, _⟩
 ·simp
 ·exact hl
theorem klen_any (p : Option Addr) (ds : List (List Int)) (w : World) (h : KeysAt w p ds) : Calls Tryz.prog 28 #[.pointer p] w fun e w' => e = .returned (.int .i64 (ds.length : Int)) ∧ w' = w := by
 rcases h with ⟨rfl, rfl⟩ | ⟨K, a, cap, rfl, hK, hc, hl, hd, hr⟩
 ·go_enter Tryz.func28, Tryz.ntmps28
  go_wp2
  go_ret
  exact ⟨rfl, rfl⟩
 ·clear hr hd
  go_enter Tryz.func28, Tryz.ntmps28
  go_wp2
  go_ret
  exact ⟨rfl, rfl⟩
def signOf (ds : List (List Int)) (id : Int) (body : ByteArray) : List Int × Int :=
 if ds = [] then (zeros16, 1) else if id < 0 ∨ (ds.length : Int) ≤ id then (zeros16, 2) else ((mac (ds.getD id.toNat []) (strL body)).take 16, 0)
theorem signOf_length (ds : List (List Int)) (id : Int) (body : ByteArray) : (signOf ds id body).1.length = 16 := by
 unfold signOf
 split
 ·rfl
 ·split
  ·rfl
  ·simp [mac_length]
theorem signOf_ok (ds : List (List Int)) (id : Int) (body : ByteArray) : ∀ z ∈ (signOf ds id body).1, 0 ≤ z ∧ z < 256 := by
 unfold signOf
 split
 ·decide
 ·split
  ·decide
  ·intro z hz; exact mac_ok _ _ z (List.mem_of_mem_take hz)
theorem arr16 (b : Nat) (w : World) : (Instr.arrayAt 23 (.slice (some ⟨b, 0, none⟩) 16 32)).run Tryz.prog w = .ok (.pointer (some ⟨b, 0, none⟩)) w := by kernel_rfl
theorem info16 (t : List Int) (h : t.length = 16) : (Tryz.prog.info? 23).map (·.size) = some (v8 t).toArray.size := by rw [List.size_toArray, v8_length, h]; exact iszT
theorem load16 {w : World} {b o : Nat} {t : List Int} (h : t.length = 16) (hr : w.rangeAt b o (v8 t)) : (loadVar 23 ⟨b, o, none⟩).run Tryz.prog w = .ok (.agg (v8 t).toArray) w :=
 run_loadVar_mid (P := Tryz.prog) w b o 23 (v8 t) _ hr Tryz.underlying23 rfl (by simpa using info16 t h)
set_option maxRecDepth 20000 in
set_option maxHeartbeats 1000000 in
theorem ksign_any (p : Option Addr) (ds : List (List Int)) (id : Int) (body : ByteArray) (w : World) (hG : Glob w) (h : KeysAt w p ds) (hb : ds = [] ∨ body.size ≤ 100000) :
    Calls Tryz.prog 29 #[.pointer p, .int .i64 id, .string body] w fun e w' => e = .returned (.tuple #[.agg (v8 (signOf ds id body).1).toArray, .int .i64 (signOf ds id body).2]) ∧ Below w.heap.size w w' := by
  have hB0 : Below w.heap.size w (w.alloc (.cells (Array.replicate 16 (.int .u8 0)) 23)) := (Below.refl _ _).alloc (Nat.le_refl _) _
  have cl := klen_any p ds _ (h.below hB0)
  have hR0 : (w.alloc (.cells (Array.replicate 16 (.int .u8 0)) 23)).rangeAt w.heap.size 0 (v8 zeros16) := (new_bytes w 16 23).1
  have hrs := load16 (t := zeros16) rfl hR0
  by_cases h0 : ds = []
  · subst h0
    have HS : Hid (signOf [] id body = (zeros16, 1)) := by show _ = _; simp [signOf]
    rw [HS.out]
    clear HS
    go_enter Tryz.func29, Tryz.ntmps29
    go_wp2_with (go_at_call 28; refine cl.mono ?_; rintro e w1 ⟨rfl, rfl⟩)
    exact bodyPost_ret (v := .tuple #[.agg (v8 zeros16).toArray, .int .i64 1]) (by simp [results, Tryz.results29, asAddr, hrs]) rfl ⟨rfl, hB0⟩
  · have hb := hb.resolve_left h0
    have hpos : 0 < ds.length := List.length_pos_iff.2 h0
    have hne : ((ds.length : Int) == 0) = false := by simp; omega
    have h4 := h.len
    by_cases h1 : id < 0 ∨ (ds.length : Int) ≤ id
    · have HS : Hid (signOf ds id body = (zeros16, 2)) := by show _ = _; simp [signOf, h0, h1]
      rw [HS.out]
      clear HS
      rcases h1 with h1 | h1
      · clear h0 h
        go_enter Tryz.func29, Tryz.ntmps29
        go_wp2_with (go_at_call 28; refine cl.mono ?_; rintro e w1 ⟨rfl, hx⟩; obtain rfl := hx.symm; clear hx)
        exact bodyPost_ret (v := .tuple #[.agg (v8 zeros16).toArray, .int .i64 2]) (by simp [results, Tryz.results29, asAddr, hrs]) rfl ⟨rfl, hB0⟩
      · have h1' : ¬ id < 0 := by omega
        clear h0 h
        go_enter Tryz.func29, Tryz.ntmps29
        go_wp2_with (go_at_call 28; refine cl.mono ?_; rintro e w1 ⟨rfl, hx⟩; obtain rfl := hx.symm; clear hx)
        exact bodyPost_ret (v := .tuple #[.agg (v8 zeros16).toArray, .int .i64 2]) (by simp [results, Tryz.results29, asAddr, hrs]) rfl ⟨rfl, hB0⟩
    · obtain ⟨k, rfl⟩ := Int.eq_ofNat_of_zero_le (show 0 ≤ id by omega)
      have hk : k < ds.length := by omega
      have h1a : ¬ (k : Int) < 0 := by omega
      have h1b : (k : Int) < ds.length := by omega
      have HS : Hid (signOf ds (k : Int) body = ((mac ds[k] (strL body)).take 16, 0)) := by
        show _ = _
        simp only [signOf, h0, h1, if_false, Int.toNat_natCast, List.getD_eq_getElem?_getD, List.getElem?_eq_getElem hk, Option.getD_some]
      rw [HS.out]
      clear HS h1
      obtain ⟨K, a, cap, rfl, hK, hc, _, hd, hr⟩ : ∃ K a cap, p = some ⟨K, 0, none⟩ ∧ K < w.heap.size ∧ w.cell? ⟨K, 0, none⟩ = some (.slice a ds.length cap) ∧ ds.length ≤ 4096 ∧ (∀ d ∈ ds, d.length = 32 ∧ ∀ z ∈ d, 0 ≤ z ∧ z < 256) ∧
          (ds = [] ∨ ∃ D, a = some ⟨D, 0, none⟩ ∧ D < w.heap.size ∧ ∀ i d, ds[i]? = some d → w.rangeAt D (i * 32) (v8 d)) := by
        rcases h with ⟨_, e⟩ | q
        · exact absurd e h0
        · exact q
      obtain ⟨D, rfl, hD, hr⟩ := hr.resolve_left h0
      have hrk := hr k ds[k] (List.getElem?_eq_getElem hk)
      obtain ⟨hdl, hdo⟩ := hd ds[k] (List.getElem_mem hk)
      obtain ⟨d, hd'⟩ : ∃ d, Hid (ds[k] = d) := ⟨_, hide rfl⟩
      rw [hd'.out] at hrk hdl hdo ⊢
      clear hr hd h0 h
      have hc1 := (hB0.cell (p := ⟨K, 0, none⟩) hK).trans hc
      clear hrs hR0
      have hT0 := (new_bytes w 16 23).2
      obtain ⟨cap2, w2, hcv, hrow2, hc2a, hc2b, hw2, hs2⟩ := str_bytes body (w.alloc (.cells (Array.replicate 16 (.int .u8 0)) 23)) (by omega)
      simp only [World.size_alloc] at hcv hrow2 hw2 hs2
      have hB2 : Below w.heap.size w w2 := hB0.trans (hw2.mono (by omega))
      have hT2 := there_below hT0 hw2 (by omega)
      have hat : (⟨some ⟨w.heap.size + 1, 0, none⟩, cap2, strL body⟩ : Part).at w2 := ⟨hrow2, by show (strL body).length ≤ cap2; rw [strL_length]; exact hc2a, hc2b⟩
      have hP := one_part w2 #[.slice (some ⟨w.heap.size + 1, 0, none⟩) body.size cap2] _ hat (by simp only [Part.val, strL_length])
      have hBp : Below w2.heap.size w2 (w2.alloc (.cells #[.slice (some ⟨w.heap.size + 1, 0, none⟩) body.size cap2] 59)) := (Below.refl _ _).alloc (Nat.le_refl _) _
      have hB3 := hB2.trans (hBp.mono hB2.size)
      have hkr : RowAt w (some ⟨D, k * 32, none⟩) d := ⟨by rw [hdl]; unfold maxLen; omega, hdo, Or.inr ⟨_, _, rfl, hD, hrk⟩⟩
      have ec : cat [(⟨some ⟨w.heap.size + 1, 0, none⟩, cap2, strL body⟩ : Part)] = strL body := by simp [cat]
      have cm := mac_any (some ⟨D, k * 32, none⟩) 32 d _ 1 _ _ (hG.below hB3) (hkr.below hB3) (by omega) (by unfold maxLen; omega) (by omega) hP (by rw [ec, strL_length]; omega) (by simp)
      rw [ec, hdl] at cm
      simp only [List.length_cons, List.length_nil, Nat.zero_add] at cm
      obtain ⟨m, hm⟩ : ∃ m, Hid (mac d (strL body) = m) := ⟨_, hide rfl⟩
      have hml : m.length = 32 := by rw [← hm.out]; exact mac_length _ _
      rw [hm.out] at cm ⊢
      clear hP hat ec hkr hrk hdo hrow2 hw2
      go_enter Tryz.func29, Tryz.ntmps29
      go_wp2_with (first | (go_at_call 28; refine cl.mono ?_; rintro e w1 ⟨rfl, hx⟩; obtain rfl := hx.symm; clear hx))
      refine cm.mono ?_
      rintro e w3 ⟨rfl, hw3⟩
      clear cm cl hcv
      have hB4 := hB3.trans (hw3.mono hB3.size)
      have hT3 := there_below (there_below hT2 hBp (by omega)) hw3 (by simp; omega)
      have hs3 := hw3.size
      simp only [World.size_alloc] at hs3
      have F := fresh_store w3 (Array.replicate 32 (.int .u8 0)) 41 (v8 m) (by rw [v8_length, hml]; rfl)
      have hN := there24 w3 m hml
      have hi := info24 m hml
      have h1c := all_oneCell_toArray (v8_one m)
      go_upto_region 6 with (refine wpList_store_mid (op := ⟨none, .store 41 (.tmp 8) (.tmp 32), _, _, _, none⟩) rfl 41 _ _ rfl _ _ (v8 m).toArray rfl rfl hN hi h1c ?_)
      go_name_world w4 hw4
      rw [show (w3.alloc (.cells (Array.replicate 32 (.int .u8 0)) 41)).setCells w3.heap.size 0 (v8 m) = w4 from hw4] at F
      obtain ⟨hR4, hB4', hz4', _⟩ := F
      have hz4 : w3.heap.size < w4.heap.size := by omega
      clear hz4' hw4 hN hi h1c hw3
      have hB5 := hB4.trans (hB4'.mono hB4.size)
      have hT4 := there_below hT3 hB4' (by omega)
      have hsl := slice_h (w := w4) Tryz.underlying41 isz8 w3.heap.size 0 16 16 rfl (by omega) (by omega)
      obtain ⟨t, ht⟩ : ∃ t, Hid (m.take 16 = t) := ⟨_, hide rfl⟩
      have htl : t.length = 16 := by rw [← ht.out, List.length_take]; omega
      have hRt : w4.rangeAt w3.heap.size 0 (v8 t) := by
        have e : v8 m = v8 t ++ v8 (m.drop 16) := by rw [← v8_append, ← ht.out, List.take_append_drop]
        rw [e] at hR4; exact range_left hR4
      try simp only [Act.put]
      have hl16 : (Tryz.prog.info? 23).map (·.size) = some (v8 t).length := by simpa using info16 t htl
      have hT4' : w4.there w.heap.size 0 (v8 t).toArray.size := by
        have e : (v8 t).toArray.size = 16 := by rw [List.size_toArray, v8_length, htl]
        rw [e]; exact hT4
      have h1t := all_oneCell_toArray (v8_one t)
      have hit := info16 t htl
      have hap := arr16 w3.heap.size w4
      refine wp_region_list ?_
      refine wpList_plain rfl fun K hK => ?_
      go_simp
      refine hK _ _ ?_
      clear hK K
      refine wpList_plain rfl fun K hK => ?_
      go_simp
      refine hK _ _ ?_
      clear hK K
      refine wpList_load_mid rfl 23 _ rfl _ _ rfl (v8 t) _ hRt Tryz.underlying23 rfl hl16 ?_
      refine wpList_store_mid rfl 23 _ _ rfl _ _ (v8 t).toArray rfl rfl hT4' hit h1t ?_
      go_wp2
      have hRr := World.rangeAt_setCells_same w4 w.heap.size 0 (v8 t) (by rw [v8_length, htl]; exact hT4)
      have hBl := below_sets (Nat.le_refl w.heap.size) (v8 t) 0 w4 hB5
      have hrs := load16 htl hRr
      exact bodyPost_ret (v := .tuple #[.agg (v8 t).toArray, .int .i64 0]) (by simp [results, Tryz.results29, asAddr, hrs]) rfl ⟨by rw [ht.out], hBl⟩
theorem eql16 (xs ys : List Int) (hx : xs.length = 16) (hy : ys.length = 16) (w : World) : (binOp .eql 23 (.agg (v8 xs).toArray) (.agg (v8 ys).toArray)).run Tryz.prog w = .ok (.bool (xs == ys)) w := by
 rw [run_eql_struct, run_equal8 w 9998 23 5 16 Tryz.underlying23 Tryz.underlying5 isz8 xs ys hx hy]; rfl
end Go.Proofs.YtcbpbkefggekmaaGreatDoor.Qs
namespace Go.Proofs.YtcbpbkefggekmaaGreatDoor.Rk
open Qs
open Go.RowKit
open Sha Tal
theorem one_byte (w : World) : RowAt (w.alloc (.cells #[.int .u8 82] 5)) (some ⟨w.heap.size, 0, none⟩) [82] :=
 ⟨by unfold maxLen; simp, by decide, Or.inr ⟨w.heap.size, 0, rfl, by simp, range_new w #[.int .u8 82] 5⟩⟩
theorem bodyL_length (c n : Int) (s : ByteArray) (hc : c ≤ 9223372036854775807) (hn : n ≤ 9223372036854775807) (hs : s.size ≤ 100000) : (bodyL c n s).length ≤ 200000 := by
 have h1 := putL_length c (by omega)
 have h2 := putL_length n (by omega)
 have h3 := putL_length s.size (by omega)
 simp only [bodyL, textL, List.length_append, strL_length, List.length_cons, List.length_nil]
 omega
set_option maxRecDepth 100000 in
set_option maxHeartbeats 2000000 in
theorem body_any (c n : Int) (s : ByteArray) (t : List Int) (w : World) (ht : t.length = 16) (hc : c ≤ 9223372036854775807) (hn : n ≤ 9223372036854775807) (hs : s.size ≤ 100000) :
   Calls Tryz.prog 101 #[.agg (reqL c n s t).toArray] w fun e w' => e = .returned (.string (strOf (bodyL c n s))) ∧ Below w.heap.size w w' := by
  have hB1 : Below w.heap.size w (w.alloc (.cells (reqL c n s t).toArray 81)) := (Below.refl _ _).alloc (Nat.le_refl _) _
  have hR1 := req_cells w c n s t
  have hz1 : w.heap.size < (w.alloc (.cells (reqL c n s t).toArray 81)).heap.size := by simp
  have hi : (Tryz.prog.info? 81).map (·.size) = some (reqL c n s t).length := by rw [reqL_length c n s t ht]; exact iszR
  have cf := fun a cap w0 h => fields_any a cap [82] c n s t w0 h (by simp) hc hn (by omega)
  have hbl := bodyL_length c n s hc hn hs
  obtain ⟨q, hq⟩ : ∃ q, Hid (reqL c n s t = q) := ⟨_, rfl⟩
  rw [hq.out] at hB1 hz1 hi ⊢
  rw [hq.out] at hR1
  simp only [hq.out] at cf
  have eb : [82] ++ putL c ++ putL n ++ textL s = bodyL c n s := rfl
  simp only [eb] at cf
  obtain ⟨bl, hb⟩ : ∃ bl, Hid (bodyL c n s = bl) := ⟨_, rfl⟩
  simp only [hb.out] at cf
  rw [hb.out] at hbl ⊢
  obtain ⟨st, hst⟩ : ∃ st, Hid (strOf bl = st) := ⟨_, rfl⟩
  rw [hst.out]
  clear eb
  go_enter Tryz.func101, Tryz.ntmps101
  go_upto_region 1 with fail
  go_name_world w1 hw1
  rw [show w.alloc (.cells q.toArray 81) = w1 from hw1] at hB1 hR1 hz1
  clear hw1
  have hB2' : Below w1.heap.size w1 (w1.alloc (.cells #[.int .u8 82] 5)) := (Below.refl _ _).alloc (Nat.le_refl _) _
  have hB2 := hB1.trans (hB2'.mono hB1.size)
  have hR2 := range_below hR1 hB2' hz1
  have c2 := cf _ 1 _ (one_byte w1)
  simp only [List.length_cons, List.length_nil, Nat.zero_add] at c2
  clear cf hB1 hR1 hB2'
  obtain ⟨X, hX⟩ : ∃ X, Hid (w.heap.size = X) := ⟨_, rfl⟩
  rw [hX.out] at hR2
  rw [hX.out]
  go_wp2_with (refine wpList_load_mid rfl 81 _ rfl _ 0 rfl q _ hR2 Tryz.underlying81 rfl hi ?_)
  refine c2.mono ?_
  rintro e w3 ⟨v3, rfl, hM3, hw3⟩
  have hfin := hB2.trans (hw3.mono hB2.size)
  obtain ⟨a3, cap3, rfl, _, _, hrow3⟩ := hM3.rowAt (by unfold maxLen; omega)
  have hstr := row_mine hrow3 cap3
  rw [hst.out] at hstr
  clear c2 hM3 hw3 hrow3 hR2 hB2 hbl
  generalize bl.length = nb at *
  go_wp2
  go_ret
  rw [← hX.out]
  exact ⟨rfl, hfin⟩
end Go.Proofs.YtcbpbkefggekmaaGreatDoor.Rk
namespace Go.Proofs.YtcbpbkefggekmaaGreatDoor.Qs
open Go.RowKit
open Sha Tal
def keyOf (seed : ByteArray) (id : Nat) : List Int := sha (textL seed ++ putL (id : Int))
def keysOf (seed : ByteArray) (n : Nat) : List (List Int) := (List.range n).map (keyOf seed)
theorem keysOf_length (seed : ByteArray) (n : Nat) : (keysOf seed n).length = n := by simp [keysOf]
theorem keysOf_get (seed : ByteArray) (n i : Nat) (d : List Int) (h : (keysOf seed n)[i]? = some d) : i < n ∧ d = keyOf seed i := by
 have hi : i < n := by have := (List.getElem?_eq_some_iff.1 h).1; simpa [keysOf] using this
 refine ⟨hi, ?_⟩
 simp [keysOf, List.getElem?_map, List.getElem?_range hi] at h
 exact h.symm
theorem keyOf_length (seed : ByteArray) (id : Nat) : (keyOf seed id).length = 32 := sha_length _
theorem keyOf_ok (seed : ByteArray) (id : Nat) : ∀ z ∈ keyOf seed id, 0 ≤ z ∧ z < 256 := sha_ok _
theorem info32 : (Tryz.prog.info? 41).map (fun i => (i.zero, i.size, i.bytes)) = some (some (.agg (Array.replicate 32 (.int .u8 0))), 32, 32) := by kernel_rfl
theorem own_there {w : World} {base : Nat} {e : TypeId} {size g n : Nat} {xs : List Value} (h : w.ownsRow base e size (.slice (some ⟨g, 0, none⟩) n n) n xs) : w.there g 0 (n * size) := by
 rcases h.2 with ⟨hv, _⟩ | ⟨g', cap, cur, hv, hb, hg, h1, h2, h3, h4⟩
 ·cases hv
 ·injection hv with ha hl hc
  simp only [Option.some.injEq, Addr.mk.injEq] at ha
  obtain ⟨rfl, _⟩ := ha
  subst hc
  intro j hj
  rw [Nat.zero_add]
  have hj' : j < cur.size := by rw [h3]; exact hj
  constructor
  ·simp [World.cell?, hg, hj']
  ·simp [World.frozen?, hg]
theorem there_mid {w : World} {g o n i m : Nat} (h : w.there g o n) (hm : i + m ≤ n) : w.there g (o + i) m := there_part h i m hm
theorem putL_pos (n : Int) (h : 0 ≤ n) : 0 < (putL n).length := by
 unfold putL; rw [if_neg (by omega)]; simp [numB]
set_option maxRecDepth 20000 in
set_option maxHeartbeats 2000000 in
theorem derive_yes (seed : ByteArray) (n : Nat) (w : World) (hG : Glob w) (hn1 : 1 ≤ n) (hn2 : n ≤ 4096) (hs : seed.size ≤ 64) :
    Calls Tryz.prog 27 #[.string seed, .int .i64 (n : Int)] w fun e w' => ∃ p, e = .returned (.pointer p) ∧ p ≠ none ∧ KeysAt w' p (keysOf seed n) ∧ Below w.heap.size w w' := by
  have t1 : ¬ (n : Int) < 1 := by omega
  have t2 : ¬ (4096 : Int) < n := by omega
  have t3 : ¬ (64 : Int) < seed.size := by omega
  obtain ⟨i0, hi, hz0, hz1, hz2⟩ := info_parts info32
  obtain ⟨w1, hmk, hown1, hgr1⟩ := run_makeSlice_full (P := Tryz.prog) w w.heap.size 121 41 i0 _ 32 Tryz.underlying121 hi hz0 hz1 .i64 .i64 n (by omega) (by rw [hz2]; omega) (by unfold maxLen; omega) (Nat.le_refl _)
  have hT1 := own_there hown1
  have hB1 : Below w.heap.size w w1 := (Below.refl _ _).grown hgr1 (Nat.le_refl _) (fun _ h => by cases h)
  have hs1 : w.heap.size < w1.heap.size := by
    have := (hT1 0 (by omega)).1
    obtain ⟨u, hu⟩ := Option.isSome_iff_exists.1 this
    exact World.block_lt_of_cell? w1 _ hu
  clear hown1 hgr1 hi hz0 hz1 hz2
  have hB2' : Below w1.heap.size w1 (w1.alloc (.cells #[.slice (some ⟨w.heap.size, 0, none⟩) n n] 123)) := (Below.refl _ _).alloc (Nat.le_refl _) _
  have hB2 := hB1.trans (hB2'.mono hB1.size)
  have hT2 := there_below hT1 hB2' hs1
  have hK2 : (w1.alloc (.cells #[.slice (some ⟨w.heap.size, 0, none⟩) n n] 123)).cell? ⟨w1.heap.size, 0, none⟩ = some (.slice (some ⟨w.heap.size, 0, none⟩) n n) := by
    rw [World.cell?_alloc_at _ _ _ _ rfl]; rfl
  have ct := putText_any none 0 [] seed (w1.alloc (.cells #[.slice (some ⟨w.heap.size, 0, none⟩) n n] 123)) (nil_row _) (by simp) (by omega)
  rw [List.nil_append] at ct
  have htl : (textL seed).length ≤ 73 ∧ 0 < (textL seed).length := by
    unfold textL
    have h1 := putL_length (seed.size : Int) (by omega)
    have h2 := putL_pos (seed.size : Int) (by omega)
    rw [List.length_append, strL_length]; omega
  have HK : Hid (∀ i, keyOf seed i = sha (textL seed ++ putL (i : Int))) := fun i => rfl
  generalize textL seed = ts at *
  go_enter Tryz.func27, Tryz.ntmps27
  go_wp2_with fail
  refine ct.mono ?_
  rintro e w3 ⟨v3, rfl, hM3, hw3⟩
  clear ct hmk
  have hB3 := hB2.trans (hw3.mono hB2.size)
  have hT3 := there_below hT2 hw3 (by simp; omega)
  have hK3 := (hw3.cell (p := ⟨w1.heap.size, 0, none⟩) (by simp)).trans hK2
  have hs3 := hw3.size
  simp only [World.size_alloc] at hs3 hM3
  obtain ⟨a, cap, rfl, hca, hcm, hrow⟩ := hM3.rowAt (by unfold maxLen; omega)
  obtain ⟨b, off, rfl, hbl, hbr, hbn⟩ : ∃ b off, a = some ⟨b, off, none⟩ ∧ b < w3.heap.size ∧ w3.rangeAt b off (v8 ts) ∧ w1.heap.size + 1 ≤ b := by
    rcases hrow.2.2 with h0 | ⟨b, off, rfl, hb, hr⟩
    · have := htl.2; rw [h0] at this; simp at this
    · exact ⟨b, off, rfl, hb, hr, (hM3.1.lt b rfl).1⟩
  have hto := hM3.2
  obtain ⟨D, hD⟩ : ∃ D, w.heap.size = D := ⟨_, rfl⟩
  obtain ⟨K, hKe⟩ : ∃ K, w1.heap.size = K := ⟨_, rfl⟩
  rw [hD] at hT3 hK3
  rw [hKe] at hK3
  have hDK : D < K := by omega
  have hKs : K < w3.heap.size := by omega
  have hDb : D < b := by omega
  have hKb : K < b := by omega
  have hwD : w.heap.size ≤ D := by omega
  clear hM3 hrow hw3 hT2 hK2 hB2 hB2' hT1 hB1
  rw [hD, hKe]
  clear hD hKe hs1 hs3 hbn
  go_wp2_with fail
  go_loopw [26] (fun i wr => ∃ k : Nat, k ≤ n ∧ i = .int .i64 (k : Int) ∧ wr.cell? ⟨K, 0, none⟩ = some (.slice (some ⟨D, 0, none⟩) n n) ∧ wr.there D 0 (n * 32) ∧ (∀ j, j < k → wr.rangeAt D (j * 32) (v8 (keyOf seed j))) ∧ wr.rangeAt b off (v8 ts) ∧ b < wr.heap.size ∧ Below w.heap.size w wr) (fun i _ => n - (intOf i).toNat)
  case atStart => exact ⟨0, by omega, rfl, hK3, hT3, fun j h => by omega, hbr, hbl, hB3⟩
  case round =>
    clear hK3 hT3 hbr hbl hB3 hKs
    obtain ⟨k, hk, rfl, hK, hT, hR, hbr, hbl, hB⟩ := hrel
    by_cases hlt : k < n
    · have hltI : (k : Int) < n := by omega
      have HR := hide hR
      clear hR
      go_wp2_with fail
      refine hs_begin (S := (fun W : World => W.cell? ⟨K, 0, none⟩ = some (.slice (some ⟨D, 0, none⟩) n n))) 12 rfl (by kernel_rfl) ?_
      have hS : (fun W : World => W.cell? ⟨K, 0, none⟩ = some (.slice (some ⟨D, 0, none⟩) n n)) wr.drew := hK
      have hB5 : Below w.heap.size w wr.drew := hB.drew
      have hT5 : wr.drew.there D 0 (n * 32) := hT
      have hR5 : ∀ j, j < k → wr.drew.rangeAt D (j * 32) (v8 (keyOf seed j)) := HR.out
      have hb5 : wr.drew.rangeAt b off (v8 ts) := hbr
      have hl5 : b < wr.drew.heap.size := hbl
      generalize wr.drew = w5 at hS hB5 hT5 hR5 hb5 hl5 ⊢
      have HR5 := hide hR5
      clear HR hbr hbl hT hK hB hR5
      refine hs_t 0 29 (?_) rfl (by kernel_rfl) (by kernel_rfl) (by kernel_rfl) (by rfl) ?_ hS rfl ?_
      rotate_left
      · intro w' hw
        go_simp
        try with_reducible rfl
      simp only [nz]
      refine hs_t 1 30 (?_) rfl (by kernel_rfl) (by kernel_rfl) (by kernel_rfl) (by rfl) ?_ hS rfl ?_
      rotate_left
      · intro w' hw
        go_simp
        try with_reducible rfl
      simp only [nz]
      refine hs_t 2 31 (?_) rfl (by kernel_rfl) (by kernel_rfl) (by kernel_rfl) (by rfl) ?_ hS rfl ?_
      rotate_left
      · intro w' hw
        go_simp
        try with_reducible rfl
      simp only [nz]
      refine hs_t 3 32 (?_) rfl (by kernel_rfl) (by kernel_rfl) (by kernel_rfl) (by rfl) ?_ hS rfl ?_
      rotate_left
      · intro w' hw
        go_simp
        try with_reducible rfl
      simp only [nz]
      refine hs_t 4 33 (?_) rfl (by kernel_rfl) (by kernel_rfl) (by kernel_rfl) (by rfl) ?_ hS rfl ?_
      rotate_left
      · intro w' hw
        go_simp
        try with_reducible rfl
      simp only [nz]
      refine hs_t 5 34 (?_) rfl (by kernel_rfl) (by kernel_rfl) (by kernel_rfl) (by rfl) ?_ hS rfl ?_
      rotate_left
      · intro w' hw
        go_simp
        try with_reducible rfl
      simp only [nz]
      refine hs_t 6 35 (?_) rfl (by kernel_rfl) (by kernel_rfl) (by kernel_rfl) (by rfl) ?_ hS rfl ?_
      rotate_left
      · intro w' hw
        go_simp
        try with_reducible rfl
      simp only [nz]
      have hrow5 : RowAt w5 (some ⟨b, off, none⟩) ts := ⟨by unfold maxLen; omega, hto, Or.inr ⟨_, _, rfl, hl5, hb5⟩⟩
      have cp := put_any (some ⟨b, off, none⟩) cap ts (k : Int) w5 hrow5 (by omega) (by omega)
      have hpl := putL_length (k : Int) (by omega)
      refine hs_call (i := 7) (d := some 36) rfl (by kernel_rfl) (by rfl) (by go_simp; first | done | exact ⟨rfl, rfl⟩ | with_reducible rfl) rfl ?_
      refine (cp).mono ?_
      rintro e' w6 ⟨v6, rfl, hM6, hw6⟩
      have hS : (fun W : World => W.cell? ⟨K, 0, none⟩ = some (.slice (some ⟨D, 0, none⟩) n n)) w6 := (hw6.cell (p := ⟨K, 0, none⟩) (show K < w5.heap.size by omega)).trans hS
      refine ⟨_, rfl, hS, ?_⟩
      simp only [nz]
      obtain ⟨a6, cap6, rfl, hc6, hm6, hrow6⟩ := hM6.rowAt (by rw [List.length_append]; unfold maxLen; omega)
      clear cp hM6
      have hs6 := hw6.size
      have hB7' : Below w6.heap.size w6 (w6.alloc (.cells #[.slice a6 (ts ++ putL (k : Int)).length cap6] 59)) := (Below.refl _ _).alloc (Nat.le_refl _) _
      have hP := one_part w6 #[.slice a6 (ts ++ putL (k : Int)).length cap6] ⟨a6, cap6, ts ++ putL (k : Int)⟩ ⟨hrow6, hc6, hm6⟩ rfl
      have hw7 := hw6.trans (hB7'.mono hw6.size)
      have hS : (fun W : World => W.cell? ⟨K, 0, none⟩ = some (.slice (some ⟨D, 0, none⟩) n n)) (w6.alloc (.cells #[.slice a6 (ts ++ putL (k : Int)).length cap6] 59)) := (hB7'.cell (p := ⟨K, 0, none⟩) (show K < w6.heap.size by omega)).trans hS
      refine hs_run (i := 8) (d := some 37) (v := .slice (some ⟨w6.heap.size, 0, none⟩) 1 1) (w' := (w6.alloc (.cells #[.slice a6 (ts ++ putL (k : Int)).length cap6] 59))) rfl (by kernel_rfl) (by rfl) (by go_simp; try with_reducible rfl) rfl hS ?_
      simp only [nz]
      have ec : cat [(⟨a6, cap6, ts ++ putL (k : Int)⟩ : Part)] = ts ++ putL (k : Int) := by simp [cat]
      have hB7 := hB5.trans (hw7.mono hB5.size)
      have csum := sum_any _ 1 _ _ (hG.below hB7) hP (by rw [ec, List.length_append]; omega)
      rw [ec, ← HK.out k] at csum
      simp only [List.length_cons, List.length_nil, Nat.zero_add] at csum
      clear hP ec hrow6
      generalize w6.alloc (.cells #[.slice a6 (ts ++ putL (k : Int)).length cap6] 59) = w7 at *
      refine hs_call (i := 9) (d := some 38) rfl (by kernel_rfl) (by rfl) (by go_simp; first | done | exact ⟨rfl, rfl⟩ | with_reducible rfl) rfl ?_
      refine (csum).mono ?_
      rintro e' w8 ⟨rfl, hw8⟩
      have hS : (fun W : World => W.cell? ⟨K, 0, none⟩ = some (.slice (some ⟨D, 0, none⟩) n n)) w8 := (hw8.cell (p := ⟨K, 0, none⟩) (show K < w7.heap.size by have := hw7.size; omega)).trans hS
      refine ⟨_, rfl, hS, ?_⟩
      simp only [nz]
      have hW8 := hw7.trans (hw8.mono hw7.size)
      have hB8 := hB5.trans (hW8.mono hB5.size)
      have hT8 := there_below hT5 hW8 (by omega)
      have hb8 := range_below hb5 hW8 hl5
      have hR8 : ∀ j, j < k → w8.rangeAt D (j * 32) (v8 (keyOf seed j)) := fun j hj => range_below (HR5.out j hj) hW8 (by omega)
      have hl8 : b < w8.heap.size := by have := hW8.size; omega
      clear csum hw8 hw7 hw6 hB7' hB7 HR5 hb5 hT5 hB5 hW8
      obtain ⟨d, hd⟩ : ∃ d, Hid (keyOf seed k = d) := ⟨_, hide rfl⟩
      have hdl : d.length = 32 := by rw [← hd.out]; exact keyOf_length _ _
      rw [hd.out]
      refine hs_t 10 39 (?_) rfl (by kernel_rfl) (by kernel_rfl) (by kernel_rfl) (by rfl) ?_ hS rfl ?_
      rotate_left
      · intro w' hw
        go_simp
        try with_reducible rfl
      simp only [nz]
      have hTk : w8.there D (k * 32) 32 := by have := there_mid hT8 (i := k * 32) (m := 32) (by omega); rwa [Nat.zero_add] at this
      have hTk' : w8.there D (k * 32) (v8 d).toArray.size := by
        have e : (v8 d).toArray.size = 32 := by rw [List.size_toArray, v8_length, hdl]
        rw [e]; exact hTk
      have hst := run_storeVar_mid (P := Tryz.prog) w8 D (k * 32) 41 (v8 d).toArray hTk' (info24 d hdl) (all_oneCell_toArray (v8_one d))
      have hRn := World.rangeAt_setCells_same w8 D (k * 32) (v8 d) (by rw [v8_length, hdl]; exact hTk)
      have hSn : (w8.setCells D (k * 32) (v8 d)).cell? ⟨K, 0, none⟩ = some (.slice (some ⟨D, 0, none⟩) n n) := by
        have := World.rangeAt_setCells_apart (b' := K) (o' := 0) (cs := [.slice (some ⟨D, 0, none⟩) n n]) (w := w8) (fun j v hv => by
          match j, hv with
          | 0, hv => simp at hv; subst hv; exact hS) D (k * 32) (v8 d) (Or.inl (by omega))
        exact this 0 _ rfl
      have hbn := World.rangeAt_setCells_apart hb8 D (k * 32) (v8 d) (Or.inl (by omega))
      have hTn := World.there_setCells hT8 D (k * 32) (v8 d)
      have hBn := below_sets hwD (v8 d) (k * 32) w8 hB8
      have hRp : ∀ j, j < k → (w8.setCells D (k * 32) (v8 d)).rangeAt D (j * 32) (v8 (keyOf seed j)) := fun j hj => World.rangeAt_setCells_apart (hR8 j hj) D (k * 32) (v8 d) (Or.inr (Or.inl (by rw [v8_length, keyOf_length]; omega)))
      have hln : b < (w8.setCells D (k * 32) (v8 d)).heap.size := by rw [size_sets]; exact hl8
      refine hs_store (i := 11) (w' := w8.setCells D (k * 32) (v8 d)) rfl (by kernel_rfl) (by rfl) (exec_store rfl rfl rfl hst) rfl hSn ?_
      refine hs_done (by kernel_rfl) ?_
      generalize w8.setCells D (k * 32) (v8 d) = w9 at *
      clear hst hTk hTk' hS hb8 hT8 hR8
      have HRn := hide hRn
      have HRp := hide hRp
      clear hRn hRp
      go_wp2_with fail
      go_roundw
      case rel =>
        refine ⟨k + 1, by omega, by go_num, hSn, hTn, fun j hj => ?_, hbn, hln, hBn⟩
        rcases Nat.lt_or_eq_of_le (Nat.lt_succ_iff.1 hj) with h | rfl
        · exact HRp.out j h
        · rw [hd.out]; exact HRn.out
      case measure => simp [intOf]; omega
    · obtain rfl : k = n := by omega
      have HR := hide hR
      clear hR
      have hKs : K < wr.heap.size := World.block_lt_of_cell? wr _ hK
      have hDs : D < wr.heap.size := by omega
      go_wp2
      go_ret
      refine ⟨_, rfl, by simp, .inr ⟨K, _, _, rfl, hKs, by rw [keysOf_length]; exact hK, by rw [keysOf_length]; exact hn2, fun d hd => ?_, .inr ⟨D, rfl, hDs, fun i d hi => ?_⟩⟩, hB⟩
      · obtain ⟨i, _, rfl⟩ := List.mem_map.1 hd
        exact ⟨keyOf_length _ _, keyOf_ok _ _⟩
      · obtain ⟨hi', rfl⟩ := keysOf_get seed k i d hi
        exact HR.out i hi'
def checkOf (r : List Int × Int) (t : List Int) : Bool := (r.2 == 0) && (r.1 == t)
theorem refDerive_yes (seed : ByteArray) (n : Int) (w : World) (h1 : ¬ n < 1) (h2 : ¬ 4096 < n) (h3 : seed.size ≤ 64) :
  Calls Tryz.prog 26 #[.string seed, .int .i64 n] w fun e w' => e = .returned (.tuple #[.agg #[.string seed, .int .i64 n], .bool true]) ∧ Below w.heap.size w w' := by
 have h3' : ¬ (64 : Int) < seed.size := by omega
 go_enter Tryz.func26, Tryz.ntmps26
 go_wp2
 exact bodyPost_ret (v := .tuple #[.agg #[.string seed, .int .i64 n], .bool true]) (by simp [results, Tryz.results26, go_sem]) rfl ⟨rfl, (Below.refl _ _).alloc (Nat.le_refl _) _⟩
end Go.Proofs.YtcbpbkefggekmaaGreatDoor.Qs
namespace Go.Proofs.YtcbpbkefggekmaaGreatDoor.Rk
open Qs
open Go.RowKit
open Sha Tal
theorem lit16 : (#[.int .u8 0, .int .u8 0, .int .u8 0, .int .u8 0, .int .u8 0, .int .u8 0, .int .u8 0, .int .u8 0, .int .u8 0, .int .u8 0, .int .u8 0, .int .u8 0, .int .u8 0, .int .u8 0, .int .u8 0, .int .u8 0] : Array Value) = (v8 zeros16).toArray := by rfl
def tagV (ds : List (List Int)) (N c n : Int) (s : ByteArray) : List Int × Int :=
 if N < 0 ∨ 64 < N ∨ (ds.length : Int) - N ≤ c then (zeros16, 2) else signOf ds (N + c) (strOf (bodyL c n s))
theorem two_made (w : World) (q z : List Value) : Below w.heap.size w ((w.alloc (.cells q.toArray 81)).alloc (.cells z.toArray 23)) ∧
  ((w.alloc (.cells q.toArray 81)).alloc (.cells z.toArray 23)).rangeAt w.heap.size 0 q ∧ ((w.alloc (.cells q.toArray 81)).alloc (.cells z.toArray 23)).there (w.heap.size + 1) 0 z.length ∧
  w.heap.size + 1 < ((w.alloc (.cells q.toArray 81)).alloc (.cells z.toArray 23)).heap.size := by
 have b1 : Below w.heap.size w (w.alloc (.cells q.toArray 81)) := (Below.refl _ _).alloc (Nat.le_refl _) _
 have b2 : Below (w.alloc (.cells q.toArray 81)).heap.size (w.alloc (.cells q.toArray 81)) ((w.alloc (.cells q.toArray 81)).alloc (.cells z.toArray 23)) := (Below.refl _ _).alloc (Nat.le_refl _) _
 refine ⟨b1.trans (b2.mono b1.size), range_below (range_new w q.toArray 81) b2 (by simp), ?_, by simp⟩
 have := there_new (w.alloc (.cells q.toArray 81)) z.toArray 23
 simpa using this
set_option maxRecDepth 100000 in
set_option maxHeartbeats 2000000 in
theorem tag_noA (p : Option Addr) (ds : List (List Int)) (N c n : Int) (s : ByteArray) (t : List Int) (w : World) (h : KeysAt w p ds) (hN : N < 0) :
   Calls Tryz.prog 62 #[.pointer p, .int .i64 N, .agg (reqL c n s t).toArray] w fun e w' => e = .returned (.tuple #[.agg (v8 zeros16).toArray, .int .i64 2]) ∧ Below w.heap.size w w' := by
  obtain ⟨zs, hzs⟩ : ∃ zs, Hid (v8 zeros16 = zs) := ⟨_, hide rfl⟩
  have hqc := fun w' b => @reqL_0 w' b c n s t
  obtain ⟨q, hq⟩ : ∃ q, Hid (reqL c n s t = q) := ⟨_, hide rfl⟩
  obtain ⟨hB, hR, hT, hz⟩ := two_made w q zs
  have hlit := lit16
  have hi : (Tryz.prog.info? 23).map (·.size) = some (v8 zeros16).toArray.size := info16 zeros16 rfl
  have ho := all_oneCell_toArray (v8_one zeros16)
  have hl : (v8 zeros16).length = 16 := rfl
  have hi' : (Tryz.prog.info? 23).map (·.size) = some (v8 zeros16).length := by rw [hl]; exact iszT
  rw [hzs.out] at hlit hi ho hl hi'
  have HL : Hid (zs.length = 16) := hl
  clear hl
  rw [hzs.out]
  simp only [hq.out] at hqc
  rw [hq.out]
  go_enter Tryz.func62, Tryz.ntmps62
  go_wp2_with fail
  go_name_world w2 hw2
  rw [hw2] at hB hR hT hz
  clear hw2
  have hB4 := hB.drew
  have hR4 : w2.drew.rangeAt w.heap.size 0 q := (World.rangeAt_drew _ _ _ _).2 hR
  have hT4 : w2.drew.there (w.heap.size + 1) 0 zs.toArray.size := (World.there_drew _ _ _ _).2 hT
  have hz4 : w.heap.size + 1 < w2.drew.heap.size := hz
  have h4 := h.below hB4
  clear hB hR hT hz h
  obtain ⟨X, hX⟩ : ∃ X, Hid (w.heap.size = X) := ⟨_, hide rfl⟩
  rw [hX.out] at hR4 hT4 hz4 ⊢
  obtain ⟨w5, hw5⟩ : ∃ w5, w2.drew = w5 := ⟨_, rfl⟩
  rw [hw5] at hB4 hR4 hT4 hz4 h4
  have c0 : ∀ w', Below w5.heap.size w5 w' → w'.cell? ⟨X, 0, none⟩ = some (.int .i64 c) := fun w' hw' => (hqc w' X (range_below hR4 hw' (by omega))).1
  refine hs_begin (S := (Below w5.heap.size w5)) 15 rfl (by kernel_rfl) ?_
  rw [hw5]
  clear hw5
  have hS : (Below w5.heap.size w5) w5 := Below.refl _ _
  refine hs_t 0 8 (?_) rfl (by kernel_rfl) (by kernel_rfl) (by kernel_rfl) (by rfl) ?_ hS rfl ?_
  rotate_left
  · intro w' hw
    go_simp
    try with_reducible rfl
  simp only [nz]
  refine hs_t 1 9 (.bool true) rfl (by kernel_rfl) (by kernel_rfl) (by kernel_rfl) (by rfl) (fun w' hw => by go_simp) hS rfl ?_
  simp only [nz]
  refine hs_t 2 10 (?_) rfl (by kernel_rfl) (by kernel_rfl) (by kernel_rfl) (by rfl) ?_ hS rfl ?_
  rotate_left
  · intro w' hw
    go_simp
    try with_reducible rfl
  simp only [nz]
  refine hs_skip (i := 3) (d := some 11) rfl (by kernel_rfl) (by kernel_rfl) (by kernel_rfl) (by rfl) hS rfl ?_
  simp only [nz]
  refine hs_skip (i := 4) (d := some 12) rfl (by kernel_rfl) (by kernel_rfl) (by kernel_rfl) (by rfl) hS rfl ?_
  simp only [nz]
  refine hs_t 5 13 (?_) rfl (by kernel_rfl) (by kernel_rfl) (by kernel_rfl) (by rfl) ?_ hS rfl ?_
  rotate_left
  · intro w' hw
    go_simp
    try with_reducible rfl
  simp only [nz]
  refine hs_t 6 14 (?_) rfl (by kernel_rfl) (by kernel_rfl) (by kernel_rfl) (by rfl) ?_ hS rfl ?_
  rotate_left
  · intro w' hw
    go_simp
    try with_reducible rfl
  simp only [nz]
  refine hs_skip (i := 7) (d := some 15) rfl (by kernel_rfl) (by kernel_rfl) (by kernel_rfl) (by rfl) hS rfl ?_
  simp only [nz]
  refine hs_skip (i := 8) (d := some 16) rfl (by kernel_rfl) (by kernel_rfl) (by kernel_rfl) (by rfl) hS rfl ?_
  simp only [nz]
  refine hs_skip (i := 9) (d := some 17) rfl (by kernel_rfl) (by kernel_rfl) (by kernel_rfl) (by rfl) hS rfl ?_
  simp only [nz]
  refine hs_skip (i := 10) (d := some 18) rfl (by kernel_rfl) (by kernel_rfl) (by kernel_rfl) (by rfl) hS rfl ?_
  simp only [nz]
  refine hs_skip (i := 11) (d := some 19) rfl (by kernel_rfl) (by kernel_rfl) (by kernel_rfl) (by rfl) hS rfl ?_
  simp only [nz]
  refine hs_skip (i := 12) (d := some 20) rfl (by kernel_rfl) (by kernel_rfl) (by kernel_rfl) (by rfl) hS rfl ?_
  simp only [nz]
  refine hs_skip (i := 13) (d := some 21) rfl (by kernel_rfl) (by kernel_rfl) (by kernel_rfl) (by rfl) hS rfl ?_
  simp only [nz]
  refine hs_t 14 22 (?_) rfl (by kernel_rfl) (by kernel_rfl) (by kernel_rfl) (by rfl) ?_ hS rfl ?_
  rotate_left
  · intro w' hw
    go_simp
    try with_reducible rfl
  simp only [nz]
  refine hs_done (by kernel_rfl) ?_
  clear c0 hR4 h4 hqc
  have hrs := run_loadVar_mid (P := Tryz.prog) (w5.setCells (X + 1) 0 zs) (X + 1) 0 23 zs _ (World.rangeAt_setCells_same w5 (X + 1) 0 zs (by have := hT4; simpa using this)) Tryz.underlying23 rfl hi'
  have hBl : Below w.heap.size w (w5.setCells (X + 1) 0 zs) := below_sets (by rw [hX.out]; omega) _ 0 w5 hB4
  go_wp2_with (refine wpList_store_mid rfl 23 _ _ rfl _ _ zs.toArray rfl rfl hT4 hi ho ?_)
  exact bodyPost_ret (v := .tuple #[.agg zs.toArray, .int .i64 2]) (by simp [results, Tryz.results62, asAddr, hrs]) rfl ⟨rfl, hBl⟩
set_option maxRecDepth 100000 in
set_option maxHeartbeats 2000000 in
theorem tag_noB (p : Option Addr) (ds : List (List Int)) (N c n : Int) (s : ByteArray) (t : List Int) (w : World) (h : KeysAt w p ds) (hN : ¬ N < 0) (hN2 : 64 < N) :
   Calls Tryz.prog 62 #[.pointer p, .int .i64 N, .agg (reqL c n s t).toArray] w fun e w' => e = .returned (.tuple #[.agg (v8 zeros16).toArray, .int .i64 2]) ∧ Below w.heap.size w w' := by
  obtain ⟨zs, hzs⟩ : ∃ zs, Hid (v8 zeros16 = zs) := ⟨_, hide rfl⟩
  have hqc := fun w' b => @reqL_0 w' b c n s t
  obtain ⟨q, hq⟩ : ∃ q, Hid (reqL c n s t = q) := ⟨_, hide rfl⟩
  obtain ⟨hB, hR, hT, hz⟩ := two_made w q zs
  have hlit := lit16
  have hi : (Tryz.prog.info? 23).map (·.size) = some (v8 zeros16).toArray.size := info16 zeros16 rfl
  have ho := all_oneCell_toArray (v8_one zeros16)
  have hl : (v8 zeros16).length = 16 := rfl
  have hi' : (Tryz.prog.info? 23).map (·.size) = some (v8 zeros16).length := by rw [hl]; exact iszT
  rw [hzs.out] at hlit hi ho hl hi'
  have HL : Hid (zs.length = 16) := hl
  clear hl
  rw [hzs.out]
  simp only [hq.out] at hqc
  rw [hq.out]
  go_enter Tryz.func62, Tryz.ntmps62
  go_wp2_with fail
  go_name_world w2 hw2
  rw [hw2] at hB hR hT hz
  clear hw2
  have hB4 := hB.drew
  have hR4 : w2.drew.rangeAt w.heap.size 0 q := (World.rangeAt_drew _ _ _ _).2 hR
  have hT4 : w2.drew.there (w.heap.size + 1) 0 zs.toArray.size := (World.there_drew _ _ _ _).2 hT
  have hz4 : w.heap.size + 1 < w2.drew.heap.size := hz
  have h4 := h.below hB4
  clear hB hR hT hz h
  obtain ⟨X, hX⟩ : ∃ X, Hid (w.heap.size = X) := ⟨_, hide rfl⟩
  rw [hX.out] at hR4 hT4 hz4 ⊢
  obtain ⟨w5, hw5⟩ : ∃ w5, w2.drew = w5 := ⟨_, rfl⟩
  rw [hw5] at hB4 hR4 hT4 hz4 h4
  have c0 : ∀ w', Below w5.heap.size w5 w' → w'.cell? ⟨X, 0, none⟩ = some (.int .i64 c) := fun w' hw' => (hqc w' X (range_below hR4 hw' (by omega))).1
  refine hs_begin (S := (Below w5.heap.size w5)) 15 rfl (by kernel_rfl) ?_
  rw [hw5]
  clear hw5
  have hS : (Below w5.heap.size w5) w5 := Below.refl _ _
  refine hs_t 0 8 (?_) rfl (by kernel_rfl) (by kernel_rfl) (by kernel_rfl) (by rfl) ?_ hS rfl ?_
  rotate_left
  · intro w' hw
    go_simp
    try with_reducible rfl
  simp only [nz]
  refine hs_t 1 9 (.bool false) rfl (by kernel_rfl) (by kernel_rfl) (by kernel_rfl) (by rfl) (fun w' hw => by go_simp) hS rfl ?_
  simp only [nz]
  refine hs_t 2 10 (?_) rfl (by kernel_rfl) (by kernel_rfl) (by kernel_rfl) (by rfl) ?_ hS rfl ?_
  rotate_left
  · intro w' hw
    go_simp
    try with_reducible rfl
  simp only [nz]
  refine hs_t 3 11 (?_) rfl (by kernel_rfl) (by kernel_rfl) (by kernel_rfl) (by rfl) ?_ hS rfl ?_
  rotate_left
  · intro w' hw
    go_simp
    try with_reducible rfl
  simp only [nz]
  refine hs_t 4 12 (.bool true) rfl (by kernel_rfl) (by kernel_rfl) (by kernel_rfl) (by rfl) (fun w' hw => by go_simp) hS rfl ?_
  simp only [nz]
  refine hs_t 5 13 (?_) rfl (by kernel_rfl) (by kernel_rfl) (by kernel_rfl) (by rfl) ?_ hS rfl ?_
  rotate_left
  · intro w' hw
    go_simp
    try with_reducible rfl
  simp only [nz]
  refine hs_t 6 14 (?_) rfl (by kernel_rfl) (by kernel_rfl) (by kernel_rfl) (by rfl) ?_ hS rfl ?_
  rotate_left
  · intro w' hw
    go_simp
    try with_reducible rfl
  simp only [nz]
  refine hs_skip (i := 7) (d := some 15) rfl (by kernel_rfl) (by kernel_rfl) (by kernel_rfl) (by rfl) hS rfl ?_
  simp only [nz]
  refine hs_skip (i := 8) (d := some 16) rfl (by kernel_rfl) (by kernel_rfl) (by kernel_rfl) (by rfl) hS rfl ?_
  simp only [nz]
  refine hs_skip (i := 9) (d := some 17) rfl (by kernel_rfl) (by kernel_rfl) (by kernel_rfl) (by rfl) hS rfl ?_
  simp only [nz]
  refine hs_skip (i := 10) (d := some 18) rfl (by kernel_rfl) (by kernel_rfl) (by kernel_rfl) (by rfl) hS rfl ?_
  simp only [nz]
  refine hs_skip (i := 11) (d := some 19) rfl (by kernel_rfl) (by kernel_rfl) (by kernel_rfl) (by rfl) hS rfl ?_
  simp only [nz]
  refine hs_skip (i := 12) (d := some 20) rfl (by kernel_rfl) (by kernel_rfl) (by kernel_rfl) (by rfl) hS rfl ?_
  simp only [nz]
  refine hs_skip (i := 13) (d := some 21) rfl (by kernel_rfl) (by kernel_rfl) (by kernel_rfl) (by rfl) hS rfl ?_
  simp only [nz]
  refine hs_t 14 22 (?_) rfl (by kernel_rfl) (by kernel_rfl) (by kernel_rfl) (by rfl) ?_ hS rfl ?_
  rotate_left
  · intro w' hw
    go_simp
    try with_reducible rfl
  simp only [nz]
  refine hs_done (by kernel_rfl) ?_
  clear c0 hR4 h4 hqc
  have hrs := run_loadVar_mid (P := Tryz.prog) (w5.setCells (X + 1) 0 zs) (X + 1) 0 23 zs _ (World.rangeAt_setCells_same w5 (X + 1) 0 zs (by have := hT4; simpa using this)) Tryz.underlying23 rfl hi'
  have hBl : Below w.heap.size w (w5.setCells (X + 1) 0 zs) := below_sets (by rw [hX.out]; omega) _ 0 w5 hB4
  go_wp2_with (refine wpList_store_mid rfl 23 _ _ rfl _ _ zs.toArray rfl rfl hT4 hi ho ?_)
  exact bodyPost_ret (v := .tuple #[.agg zs.toArray, .int .i64 2]) (by simp [results, Tryz.results62, asAddr, hrs]) rfl ⟨rfl, hBl⟩
set_option maxRecDepth 100000 in
set_option maxHeartbeats 2000000 in
theorem tag_noC (p : Option Addr) (ds : List (List Int)) (N c n : Int) (s : ByteArray) (t : List Int) (w : World) (h : KeysAt w p ds) (hN : ¬ N < 0) (hN2 : ¬ 64 < N) (hc : (ds.length : Int) - N ≤ c) :
   Calls Tryz.prog 62 #[.pointer p, .int .i64 N, .agg (reqL c n s t).toArray] w fun e w' => e = .returned (.tuple #[.agg (v8 zeros16).toArray, .int .i64 2]) ∧ Below w.heap.size w w' := by
  obtain ⟨zs, hzs⟩ : ∃ zs, Hid (v8 zeros16 = zs) := ⟨_, hide rfl⟩
  have hqc := fun w' b => @reqL_0 w' b c n s t
  obtain ⟨q, hq⟩ : ∃ q, Hid (reqL c n s t = q) := ⟨_, hide rfl⟩
  obtain ⟨hB, hR, hT, hz⟩ := two_made w q zs
  have hlit := lit16
  have hi : (Tryz.prog.info? 23).map (·.size) = some (v8 zeros16).toArray.size := info16 zeros16 rfl
  have ho := all_oneCell_toArray (v8_one zeros16)
  have hl : (v8 zeros16).length = 16 := rfl
  have hi' : (Tryz.prog.info? 23).map (·.size) = some (v8 zeros16).length := by rw [hl]; exact iszT
  rw [hzs.out] at hlit hi ho hl hi'
  have HL : Hid (zs.length = 16) := hl
  clear hl
  have hdl := h.len
  have hw64 : IntKind.i64.wrap ((ds.length : Int) - N) = (ds.length : Int) - N := by rw [IntKind.wrap_i64]; omega
  rw [hzs.out]
  simp only [hq.out] at hqc
  rw [hq.out]
  go_enter Tryz.func62, Tryz.ntmps62
  go_wp2_with fail
  go_name_world w2 hw2
  rw [hw2] at hB hR hT hz
  clear hw2
  have hB4 := hB.drew
  have hR4 : w2.drew.rangeAt w.heap.size 0 q := (World.rangeAt_drew _ _ _ _).2 hR
  have hT4 : w2.drew.there (w.heap.size + 1) 0 zs.toArray.size := (World.there_drew _ _ _ _).2 hT
  have hz4 : w.heap.size + 1 < w2.drew.heap.size := hz
  have h4 := h.below hB4
  clear hB hR hT hz h
  obtain ⟨X, hX⟩ : ∃ X, Hid (w.heap.size = X) := ⟨_, hide rfl⟩
  rw [hX.out] at hR4 hT4 hz4 ⊢
  obtain ⟨w5, hw5⟩ : ∃ w5, w2.drew = w5 := ⟨_, rfl⟩
  rw [hw5] at hB4 hR4 hT4 hz4 h4
  have c0 : ∀ w', Below w5.heap.size w5 w' → w'.cell? ⟨X, 0, none⟩ = some (.int .i64 c) := fun w' hw' => (hqc w' X (range_below hR4 hw' (by omega))).1
  refine hs_begin (S := (Below w5.heap.size w5)) 15 rfl (by kernel_rfl) ?_
  rw [hw5]
  clear hw5
  have hS : (Below w5.heap.size w5) w5 := Below.refl _ _
  refine hs_t 0 8 (?_) rfl (by kernel_rfl) (by kernel_rfl) (by kernel_rfl) (by rfl) ?_ hS rfl ?_
  rotate_left
  · intro w' hw
    go_simp
    try with_reducible rfl
  simp only [nz]
  refine hs_t 1 9 (.bool false) rfl (by kernel_rfl) (by kernel_rfl) (by kernel_rfl) (by rfl) (fun w' hw => by go_simp) hS rfl ?_
  simp only [nz]
  refine hs_t 2 10 (?_) rfl (by kernel_rfl) (by kernel_rfl) (by kernel_rfl) (by rfl) ?_ hS rfl ?_
  rotate_left
  · intro w' hw
    go_simp
    try with_reducible rfl
  simp only [nz]
  refine hs_t 3 11 (?_) rfl (by kernel_rfl) (by kernel_rfl) (by kernel_rfl) (by rfl) ?_ hS rfl ?_
  rotate_left
  · intro w' hw
    go_simp
    try with_reducible rfl
  simp only [nz]
  refine hs_t 4 12 (.bool false) rfl (by kernel_rfl) (by kernel_rfl) (by kernel_rfl) (by rfl) (fun w' hw => by go_simp) hS rfl ?_
  simp only [nz]
  refine hs_t 5 13 (?_) rfl (by kernel_rfl) (by kernel_rfl) (by kernel_rfl) (by rfl) ?_ hS rfl ?_
  rotate_left
  · intro w' hw
    go_simp
    try with_reducible rfl
  simp only [nz]
  refine hs_t 6 14 (?_) rfl (by kernel_rfl) (by kernel_rfl) (by kernel_rfl) (by rfl) ?_ hS rfl ?_
  rotate_left
  · intro w' hw
    go_simp
    try with_reducible rfl
  simp only [nz]
  refine hs_t 7 15 (?_) rfl (by kernel_rfl) (by kernel_rfl) (by kernel_rfl) (by rfl) ?_ hS rfl ?_
  rotate_left
  · intro w' hw
    go_simp
    try with_reducible rfl
  simp only [nz]
  refine hs_t 8 16 (?_) rfl (by kernel_rfl) (by kernel_rfl) (by kernel_rfl) (by rfl) ?_ hS rfl ?_
  rotate_left
  · intro w' hw
    have hc := c0 w' hw
    go_simp
    try with_reducible rfl
  simp only [nz]
  refine hs_t 9 17 (?_) rfl (by kernel_rfl) (by kernel_rfl) (by kernel_rfl) (by rfl) ?_ hS rfl ?_
  rotate_left
  · intro w' hw
    go_simp
    try with_reducible rfl
  simp only [nz]
  refine hs_t 11 19 (?_) rfl (by kernel_rfl) (by kernel_rfl) (by kernel_rfl) (by rfl) ?_ hS rfl ?_
  rotate_left
  · intro w' hw
    go_simp
    try with_reducible rfl
  simp only [nz]
  have ck := klen_any p ds w5 h4
  refine hs_call (i := 10) (d := some 18) rfl (by kernel_rfl) (by rfl) (by go_simp; first | done | exact ⟨rfl, rfl⟩ | with_reducible rfl) rfl ?_
  refine (ck).mono ?_
  rintro e' w9 ⟨rfl, hx9⟩
  have hS : (Below w5.heap.size w5) w9 := by rw [hx9]; exact hS
  refine ⟨_, rfl, hS, ?_⟩
  simp only [nz]
  obtain rfl := hx9.symm
  clear ck hx9
  refine hs_t 12 20 (.int .i64 ((ds.length : Int) - N)) rfl (by kernel_rfl) (by kernel_rfl) (by kernel_rfl) (by rfl) (fun w' hw => by go_simp) hS rfl ?_
  simp only [nz]
  refine hs_t 13 21 (.bool true) rfl (by kernel_rfl) (by kernel_rfl) (by kernel_rfl) (by rfl) (fun w' hw => by go_simp) hS rfl ?_
  simp only [nz]
  refine hs_t 14 22 (?_) rfl (by kernel_rfl) (by kernel_rfl) (by kernel_rfl) (by rfl) ?_ hS rfl ?_
  rotate_left
  · intro w' hw
    go_simp
    try with_reducible rfl
  simp only [nz]
  refine hs_done (by kernel_rfl) ?_
  clear c0 hR4 h4 hqc
  have hrs := run_loadVar_mid (P := Tryz.prog) (w5.setCells (X + 1) 0 zs) (X + 1) 0 23 zs _ (World.rangeAt_setCells_same w5 (X + 1) 0 zs (by have := hT4; simpa using this)) Tryz.underlying23 rfl hi'
  have hBl : Below w.heap.size w (w5.setCells (X + 1) 0 zs) := below_sets (by rw [hX.out]; omega) _ 0 w5 hB4
  go_wp2_with (refine wpList_store_mid rfl 23 _ _ rfl _ _ zs.toArray rfl rfl hT4 hi ho ?_)
  exact bodyPost_ret (v := .tuple #[.agg zs.toArray, .int .i64 2]) (by simp [results, Tryz.results62, asAddr, hrs]) rfl ⟨rfl, hBl⟩
set_option maxRecDepth 100000 in
set_option maxHeartbeats 2000000 in
theorem tag_yes (p : Option Addr) (ds : List (List Int)) (N c n : Int) (s : ByteArray) (t : List Int) (w : World) (h : KeysAt w p ds) (hG : Glob w) (ht : t.length = 16) (hN : ¬ N < 0) (hN2 : ¬ 64 < N) (hc : ¬ (ds.length : Int) - N ≤ c) (hc0 : -1000000 ≤ c) (hn : n ≤ 9223372036854775807) (hs : s.size ≤ 100000) (hbsz : (strOf (bodyL c n s)).size ≤ 100000) :
   Calls Tryz.prog 62 #[.pointer p, .int .i64 N, .agg (reqL c n s t).toArray] w fun e w' => e = .returned (.tuple #[.agg (v8 (signOf ds (N + c) (strOf (bodyL c n s))).1).toArray, .int .i64 (signOf ds (N + c) (strOf (bodyL c n s))).2]) ∧ Below w.heap.size w w' := by
  obtain ⟨zs, hzs⟩ : ∃ zs, Hid (v8 zeros16 = zs) := ⟨_, hide rfl⟩
  have hqc := fun w' b => @reqL_0 w' b c n s t
  obtain ⟨q, hq⟩ : ∃ q, Hid (reqL c n s t = q) := ⟨_, hide rfl⟩
  obtain ⟨hB, hR, hT, hz⟩ := two_made w q zs
  have hlit := lit16
  have hi : (Tryz.prog.info? 23).map (·.size) = some (v8 zeros16).toArray.size := info16 zeros16 rfl
  have ho := all_oneCell_toArray (v8_one zeros16)
  have hl : (v8 zeros16).length = 16 := rfl
  have hi' : (Tryz.prog.info? 23).map (·.size) = some (v8 zeros16).length := by rw [hl]; exact iszT
  rw [hzs.out] at hlit hi ho hl hi'
  have HL : Hid (zs.length = 16) := hl
  clear hl
  have hdl := h.len
  have hw64 : IntKind.i64.wrap ((ds.length : Int) - N) = (ds.length : Int) - N := by rw [IntKind.wrap_i64]; omega
  have hw65 : IntKind.i64.wrap (N + c) = N + c := by rw [IntKind.wrap_i64]; omega
  have hiq : (Tryz.prog.info? 81).map (·.size) = some (reqL c n s t).length := by rw [reqL_length c n s t ht]; exact iszR
  rw [hq.out] at hiq
  have cb := fun w0 => body_any c n s t w0 ht (by omega) hn hs
  simp only [hq.out] at cb
  have hbs := hbsz
  obtain ⟨bd, hbd⟩ : ∃ bd, Hid (strOf (bodyL c n s) = bd) := ⟨_, hide rfl⟩
  simp only [hbd.out] at cb
  rw [hbd.out] at hbs
  rw [hbd.out]
  have cs := fun w0 hG0 h0 => ksign_any p ds (N + c) bd w0 hG0 h0 (.inr hbs)
  have hrl0 := signOf_length ds (N + c) bd
  obtain ⟨er, her⟩ : ∃ er, Hid ((signOf ds (N + c) bd).2 = er) := ⟨_, hide rfl⟩
  obtain ⟨r0, hr0⟩ : ∃ r0, Hid ((signOf ds (N + c) bd).1 = r0) := ⟨_, hide rfl⟩
  simp only [her.out, hr0.out] at cs
  rw [hr0.out] at hrl0
  rw [her.out, hr0.out]
  have hir := info16 r0 hrl0
  have hor := all_oneCell_toArray (v8_one r0)
  have hir' : (Tryz.prog.info? 23).map (·.size) = some (v8 r0).length := by rw [v8_length, hrl0]; exact iszT
  have hrl : Hid ((v8 r0).length = 16) := by show _ = _; rw [v8_length, hrl0]
  obtain ⟨r, hr⟩ : ∃ r, Hid (v8 r0 = r) := ⟨_, hide rfl⟩
  simp only [hr.out] at cs
  rw [hr.out] at hir hor hir' hrl
  rw [hr.out]
  clear hrl0 hbsz hbs
  simp only [hq.out] at hqc
  rw [hq.out]
  go_enter Tryz.func62, Tryz.ntmps62
  go_wp2_with fail
  go_name_world w2 hw2
  rw [hw2] at hB hR hT hz
  clear hw2
  have hB4 := hB.drew
  have hR4 : w2.drew.rangeAt w.heap.size 0 q := (World.rangeAt_drew _ _ _ _).2 hR
  have hT4 : w2.drew.there (w.heap.size + 1) 0 zs.toArray.size := (World.there_drew _ _ _ _).2 hT
  have hz4 : w.heap.size + 1 < w2.drew.heap.size := hz
  have h4 := h.below hB4
  clear hB hR hT hz h
  obtain ⟨X, hX⟩ : ∃ X, Hid (w.heap.size = X) := ⟨_, hide rfl⟩
  rw [hX.out] at hR4 hT4 hz4 ⊢
  obtain ⟨w5, hw5⟩ : ∃ w5, w2.drew = w5 := ⟨_, rfl⟩
  rw [hw5] at hB4 hR4 hT4 hz4 h4
  have c0 : ∀ w', Below w5.heap.size w5 w' → w'.cell? ⟨X, 0, none⟩ = some (.int .i64 c) := fun w' hw' => (hqc w' X (range_below hR4 hw' (by omega))).1
  refine hs_begin (S := (Below w5.heap.size w5)) 15 rfl (by kernel_rfl) ?_
  rw [hw5]
  clear hw5
  have hS : (Below w5.heap.size w5) w5 := Below.refl _ _
  refine hs_t 0 8 (?_) rfl (by kernel_rfl) (by kernel_rfl) (by kernel_rfl) (by rfl) ?_ hS rfl ?_
  rotate_left
  · intro w' hw
    go_simp
    try with_reducible rfl
  simp only [nz]
  refine hs_t 1 9 (.bool false) rfl (by kernel_rfl) (by kernel_rfl) (by kernel_rfl) (by rfl) (fun w' hw => by go_simp) hS rfl ?_
  simp only [nz]
  refine hs_t 2 10 (?_) rfl (by kernel_rfl) (by kernel_rfl) (by kernel_rfl) (by rfl) ?_ hS rfl ?_
  rotate_left
  · intro w' hw
    go_simp
    try with_reducible rfl
  simp only [nz]
  refine hs_t 3 11 (?_) rfl (by kernel_rfl) (by kernel_rfl) (by kernel_rfl) (by rfl) ?_ hS rfl ?_
  rotate_left
  · intro w' hw
    go_simp
    try with_reducible rfl
  simp only [nz]
  refine hs_t 4 12 (.bool false) rfl (by kernel_rfl) (by kernel_rfl) (by kernel_rfl) (by rfl) (fun w' hw => by go_simp) hS rfl ?_
  simp only [nz]
  refine hs_t 5 13 (?_) rfl (by kernel_rfl) (by kernel_rfl) (by kernel_rfl) (by rfl) ?_ hS rfl ?_
  rotate_left
  · intro w' hw
    go_simp
    try with_reducible rfl
  simp only [nz]
  refine hs_t 6 14 (?_) rfl (by kernel_rfl) (by kernel_rfl) (by kernel_rfl) (by rfl) ?_ hS rfl ?_
  rotate_left
  · intro w' hw
    go_simp
    try with_reducible rfl
  simp only [nz]
  refine hs_t 7 15 (?_) rfl (by kernel_rfl) (by kernel_rfl) (by kernel_rfl) (by rfl) ?_ hS rfl ?_
  rotate_left
  · intro w' hw
    go_simp
    try with_reducible rfl
  simp only [nz]
  refine hs_t 8 16 (?_) rfl (by kernel_rfl) (by kernel_rfl) (by kernel_rfl) (by rfl) ?_ hS rfl ?_
  rotate_left
  · intro w' hw
    have hc := c0 w' hw
    go_simp
    try with_reducible rfl
  simp only [nz]
  refine hs_t 9 17 (?_) rfl (by kernel_rfl) (by kernel_rfl) (by kernel_rfl) (by rfl) ?_ hS rfl ?_
  rotate_left
  · intro w' hw
    go_simp
    try with_reducible rfl
  simp only [nz]
  refine hs_t 11 19 (?_) rfl (by kernel_rfl) (by kernel_rfl) (by kernel_rfl) (by rfl) ?_ hS rfl ?_
  rotate_left
  · intro w' hw
    go_simp
    try with_reducible rfl
  simp only [nz]
  have ck := klen_any p ds w5 h4
  refine hs_call (i := 10) (d := some 18) rfl (by kernel_rfl) (by rfl) (by go_simp; first | done | exact ⟨rfl, rfl⟩ | with_reducible rfl) rfl ?_
  refine (ck).mono ?_
  rintro e' w9 ⟨rfl, hx9⟩
  have hS : (Below w5.heap.size w5) w9 := by rw [hx9]; exact hS
  refine ⟨_, rfl, hS, ?_⟩
  simp only [nz]
  obtain rfl := hx9.symm
  clear ck hx9
  refine hs_t 12 20 (.int .i64 ((ds.length : Int) - N)) rfl (by kernel_rfl) (by kernel_rfl) (by kernel_rfl) (by rfl) (fun w' hw => by go_simp) hS rfl ?_
  simp only [nz]
  refine hs_t 13 21 (.bool false) rfl (by kernel_rfl) (by kernel_rfl) (by kernel_rfl) (by rfl) (fun w' hw => by go_simp) hS rfl ?_
  simp only [nz]
  refine hs_t 14 22 (?_) rfl (by kernel_rfl) (by kernel_rfl) (by kernel_rfl) (by rfl) ?_ hS rfl ?_
  rotate_left
  · intro w' hw
    go_simp
    try with_reducible rfl
  simp only [nz]
  refine hs_done (by kernel_rfl) ?_
  clear c0
  have hB6 := hB4.drew
  have hR6 : w5.drew.rangeAt X 0 q := (World.rangeAt_drew _ _ _ _).2 hR4
  have hT6 : w5.drew.there (X + 1) 0 zs.toArray.size := (World.there_drew _ _ _ _).2 hT4
  have hz6 : X + 1 < w5.drew.heap.size := hz4
  have h6 := h4.below (Below.refl w5.heap.size w5).drew
  clear hB4 hR4 hT4 hz4 h4
  go_wp2_with fail
  obtain ⟨w6, hw6⟩ : ∃ w6, w5.drew = w6 := ⟨_, rfl⟩
  rw [hw6] at hB6 hR6 hT6 hz6 h6
  refine hs_begin (S := (fun W : World => W.rangeAt X 0 q ∧ Below w.heap.size w W)) 12 rfl (by kernel_rfl) ?_
  rw [hw6]
  clear hw6
  have hS : (fun W : World => W.rangeAt X 0 q ∧ Below w.heap.size w W) w6 := ⟨hR6, hB6⟩
  refine hs_t 0 24 (?_) rfl (by kernel_rfl) (by kernel_rfl) (by kernel_rfl) (by rfl) ?_ hS rfl ?_
  rotate_left
  · intro w' hw
    go_simp
    try with_reducible rfl
  simp only [nz]
  refine hs_t 1 25 (?_) rfl (by kernel_rfl) (by kernel_rfl) (by kernel_rfl) (by rfl) ?_ hS rfl ?_
  rotate_left
  · intro w' hw
    go_simp
    try with_reducible rfl
  simp only [nz]
  refine hs_t 2 26 (?_) rfl (by kernel_rfl) (by kernel_rfl) (by kernel_rfl) (by rfl) ?_ hS rfl ?_
  rotate_left
  · intro w' hw
    go_simp
    try with_reducible rfl
  simp only [nz]
  refine hs_t 3 27 (?_) rfl (by kernel_rfl) (by kernel_rfl) (by kernel_rfl) (by rfl) ?_ hS rfl ?_
  rotate_left
  · intro w' hw
    have hc := (hqc w' X hw.1).1
    go_simp
    try with_reducible rfl
  simp only [nz]
  refine hs_t 4 28 (.int .i64 (N + c)) rfl (by kernel_rfl) (by kernel_rfl) (by kernel_rfl) (by rfl) (fun w' hw => by go_simp) hS rfl ?_
  simp only [nz]
  refine hs_t 5 29 (.agg q.toArray) rfl (by kernel_rfl) (by kernel_rfl) (by kernel_rfl) (by rfl) (fun w' hw => exec_load rfl rfl (run_loadVar_mid (P := Tryz.prog) w' X 0 81 q _ hw.1 Tryz.underlying81 rfl hiq)) hS rfl ?_
  simp only [nz]
  have cb6 := cb w6
  refine hs_call (i := 6) (d := some 30) rfl (by kernel_rfl) (by rfl) (by go_simp; first | done | exact ⟨rfl, rfl⟩ | with_reducible rfl) rfl ?_
  refine (cb6).mono ?_
  rintro e' w7 ⟨rfl, hw7⟩
  have hS : (fun W : World => W.rangeAt X 0 q ∧ Below w.heap.size w W) w7 := ⟨range_below hS.1 hw7 (by omega), hS.2.trans (hw7.mono hS.2.size)⟩
  refine ⟨_, rfl, hS, ?_⟩
  simp only [nz]
  have hT7 := there_below hT6 hw7 hz6
  have hz7 := Nat.lt_of_lt_of_le hz6 hw7.size
  have cs7 := cs w7 (hG.below hS.2) (h6.below hw7)
  clear cb6 hw7 hT6 hz6 h6
  refine hs_call (i := 7) (d := some 31) rfl (by kernel_rfl) (by rfl) (by go_simp; first | done | exact ⟨rfl, rfl⟩ | with_reducible rfl) rfl ?_
  refine (cs7).mono ?_
  rintro e' w8 ⟨rfl, hw8⟩
  have hS : (fun W : World => W.rangeAt X 0 q ∧ Below w.heap.size w W) w8 := ⟨range_below hS.1 hw8 (by omega), hS.2.trans (hw8.mono hS.2.size)⟩
  refine ⟨_, rfl, hS, ?_⟩
  simp only [nz]
  have hT8 := there_below hT7 hw8 hz7
  clear cs7 hw8 hT7 hz7
  refine hs_t 8 32 (?_) rfl (by kernel_rfl) (by kernel_rfl) (by kernel_rfl) (by rfl) ?_ hS rfl ?_
  rotate_left
  · intro w' hw
    go_simp
    try with_reducible rfl
  simp only [nz]
  refine hs_t 9 33 (?_) rfl (by kernel_rfl) (by kernel_rfl) (by kernel_rfl) (by rfl) ?_ hS rfl ?_
  rotate_left
  · intro w' hw
    go_simp
    try with_reducible rfl
  simp only [nz]
  have hTr : w8.there (X + 1) 0 r.toArray.size := by
    have e : r.toArray.size = zs.toArray.size := by rw [List.size_toArray, List.size_toArray, hrl.out, HL.out]
    rw [e]; exact hT8
  have hBl : Below w.heap.size w (w8.setCells (X + 1) 0 r) := below_sets (by rw [hX.out]; omega) _ 0 w8 hS.2
  have hrs := run_loadVar_mid (P := Tryz.prog) (w8.setCells (X + 1) 0 r) (X + 1) 0 23 r _ (World.rangeAt_setCells_same w8 (X + 1) 0 r (by have := hTr; simpa using this)) Tryz.underlying23 rfl hir'
  have hst := run_storeVar_mid (P := Tryz.prog) w8 (X + 1) 0 23 r.toArray hTr hir hor
  refine hs_store (i := 10) (w' := (w8.setCells (X + 1) 0 r)) rfl (by kernel_rfl) (by rfl) (exec_store rfl rfl rfl hst) rfl ⟨World.rangeAt_setCells_apart hS.1 (X + 1) 0 r (.inl (by omega)), hBl⟩ ?_
  have hS : (fun W : World => W.rangeAt X 0 q ∧ Below w.heap.size w W) (w8.setCells (X + 1) 0 r) := ⟨World.rangeAt_setCells_apart hS.1 (X + 1) 0 r (.inl (by omega)), hBl⟩
  refine hs_t 11 7 (?_) rfl (by kernel_rfl) (by kernel_rfl) (by kernel_rfl) (by rfl) ?_ hS rfl ?_
  rotate_left
  · intro w' hw
    go_simp
    try with_reducible rfl
  simp only [nz]
  refine hs_done (by kernel_rfl) ?_
  go_wp2_with fail
  exact bodyPost_ret (v := .tuple #[.agg r.toArray, .int .i64 er]) (by simp [results, Tryz.results62, asAddr, hrs]) rfl ⟨rfl, hBl⟩
theorem body_small (c n : Int) (s : ByteArray) (hc : c ≤ 9223372036854775807) (hn : n ≤ 9223372036854775807) (hs : s.size ≤ 90000) : (bodyL c n s).length ≤ 100000 := by
 have h1 := putL_length c (by omega)
 have h2 := putL_length n (by omega)
 have h3 := putL_length s.size (by omega)
 simp only [bodyL, textL, List.length_append, strL_length, List.length_cons, List.length_nil]
 omega
theorem reqL_put {w : World} {b : Nat} {c n : Int} {s : ByteArray} {t u : List Int} (h : w.rangeAt b 0 (reqL c n s t)) (hu : u.length = 16) (hT : w.there b 0 19) : (w.setCells b 3 (v8 u)).rangeAt b 0 (reqL c n s u) := by
 have e : ∀ x, reqL c n s x = [.int .i64 c, .int .i64 n, .string s] ++ v8 x := fun _ => rfl
 rw [e] at h ⊢
 refine range_join (World.rangeAt_setCells_apart (range_left h) b 3 (v8 u) (.inr (.inl (by simp)))) ?_
 exact World.rangeAt_setCells_same w b 3 (v8 u) (there_part hT 3 _ (by rw [v8_length, hu]; omega))
theorem tag_any (p : Option Addr) (ds : List (List Int)) (N c n : Int) (s : ByteArray) (t : List Int) (w : World) (h : KeysAt w p ds) (hG : Glob w) (ht : t.length = 16) (hc0 : 0 ≤ c) (hcm : c ≤ 9223372036854775807) (hn : n ≤ 9223372036854775807) (hs : s.size ≤ 64) :
   Calls Tryz.prog 62 #[.pointer p, .int .i64 N, .agg (reqL c n s t).toArray] w fun e w' => e = .returned (.tuple #[.agg (v8 (tagV ds N c n s).1).toArray, .int .i64 (tagV ds N c n s).2]) ∧ Below w.heap.size w w' := by
  unfold tagV
  by_cases hN : N < 0
  · rw [if_pos (.inl hN)]; exact tag_noA p ds N c n s t w h hN
  · by_cases hN2 : 64 < N
    · rw [if_pos (.inr (.inl hN2))]; exact tag_noB p ds N c n s t w h hN hN2
    · by_cases hc : (ds.length : Int) - N ≤ c
      · rw [if_pos (.inr (.inr hc))]; exact tag_noC p ds N c n s t w h hN hN2 hc
      · rw [if_neg (by omega)]
        exact tag_yes p ds N c n s t w h hG ht hN hN2 hc (by omega) hn (by omega) (by rw [strOf_size]; exact body_small c n s hcm hn (by omega))
theorem tagV_length (ds : List (List Int)) (N c n : Int) (s : ByteArray) : (tagV ds N c n s).1.length = 16 := by
 unfold tagV; split
 ·rfl
 ·exact signOf_length _ _ _
set_option maxRecDepth 100000 in
set_option maxHeartbeats 2000000 in
theorem make_yes (p : Option Addr) (ds : List (List Int)) (N c n : Int) (s : ByteArray) (w : World) (h : KeysAt w p ds) (hG : Glob w) (hd : 0 < ds.length) (hm : 0 ≤ c ∧ c < 8 ∧ 1 ≤ n ∧ n ≤ 1099511627776 ∧ s.size ≤ 64) (hne : (tagV ds N c n s).2 = 0) :
   Calls Tryz.prog 24 #[.pointer p, .int .i64 N, .int .i64 c, .int .i64 n, .string s] w fun e w' => e = .returned (.tuple #[.agg (reqL c n s (tagV ds N c n s).1).toArray, .int .i64 0]) ∧ Below w.heap.size w w' := by
  have ct := fun w0 h0 hG0 => tag_any p ds N c n s zeros16 w0 h0 hG0 rfl (by omega) (by omega) (by omega) (by omega)
  have hrl0 := tagV_length ds N c n s
  obtain ⟨er, her⟩ : ∃ er, Hid ((tagV ds N c n s).2 = er) := ⟨_, hide rfl⟩
  obtain ⟨r0, hr0⟩ : ∃ r0, Hid ((tagV ds N c n s).1 = r0) := ⟨_, hide rfl⟩
  simp only [her.out, hr0.out] at ct
  rw [hr0.out] at hrl0
  rw [her.out] at hne
  rw [hr0.out]
  subst hne
  have hir := info16 r0 hrl0
  have hor := all_oneCell_toArray (v8_one r0)
  have hir' : (Tryz.prog.info? 23).map (·.size) = some (v8 r0).length := by rw [v8_length, hrl0]; exact iszT
  have hput := fun (w0 : World) (b0 : Nat) h1 h2 => @reqL_put w0 b0 c n s zeros16 r0 h1 hrl0 h2
  have hiR : (Tryz.prog.info? 81).map (·.size) = some (reqL c n s r0).toArray.size := by rw [List.size_toArray, reqL_length c n s r0 hrl0]; exact iszR
  have hoR := all_oneCell_toArray (reqL_one c n s r0)
  have hRl : (reqL c n s r0).toArray.size = 19 := by rw [List.size_toArray, reqL_length c n s r0 hrl0]
  have hrl : Hid ((v8 r0).length = 16) := by show _ = _; rw [v8_length, hrl0]
  obtain ⟨r, hr⟩ : ∃ r, Hid (v8 r0 = r) := ⟨_, hide rfl⟩
  obtain ⟨Q, hQ⟩ : ∃ Q, Hid (reqL c n s r0 = Q) := ⟨_, hide rfl⟩
  simp only [hr.out] at ct
  rw [hr.out] at hir hor hir' hrl
  rw [hQ.out] at hiR hoR hRl
  simp only [hr.out, hQ.out] at hput
  have hRl' := hide hRl
  have hiR' : (Tryz.prog.info? 81).map (·.size) = some Q.length := by simpa using hiR
  clear hrl0 hRl
  rw [hQ.out]
  have hi0 : (Tryz.prog.info? 81).map (·.size) = some (reqL c n s zeros16).toArray.size := by rw [List.size_toArray, reqL_length _ _ _ _ rfl]; exact iszR
  have h1c := all_oneCell_toArray (reqL_one c n s zeros16)
  have hB0 : Below w.heap.size w (w.alloc (.cells #[.int .i64 0, .int .i64 0, .string ⟨#[]⟩, .int .u8 0, .int .u8 0, .int .u8 0, .int .u8 0, .int .u8 0, .int .u8 0, .int .u8 0, .int .u8 0, .int .u8 0, .int .u8 0, .int .u8 0, .int .u8 0, .int .u8 0, .int .u8 0, .int .u8 0, .int .u8 0] 81)) := (Below.refl _ _).alloc (Nat.le_refl _) _
  have ht0 : (w.alloc (.cells #[.int .i64 0, .int .i64 0, .string ⟨#[]⟩, .int .u8 0, .int .u8 0, .int .u8 0, .int .u8 0, .int .u8 0, .int .u8 0, .int .u8 0, .int .u8 0, .int .u8 0, .int .u8 0, .int .u8 0, .int .u8 0, .int .u8 0, .int .u8 0, .int .u8 0, .int .u8 0] 81)).there w.heap.size 0 19 := there_new w #[.int .i64 0, .int .i64 0, .string ⟨#[]⟩, .int .u8 0, .int .u8 0, .int .u8 0, .int .u8 0, .int .u8 0, .int .u8 0, .int .u8 0, .int .u8 0, .int .u8 0, .int .u8 0, .int .u8 0, .int .u8 0, .int .u8 0, .int .u8 0, .int .u8 0, .int .u8 0] 81
  have hz0 : w.heap.size < (w.alloc (.cells #[.int .i64 0, .int .i64 0, .string ⟨#[]⟩, .int .u8 0, .int .u8 0, .int .u8 0, .int .u8 0, .int .u8 0, .int .u8 0, .int .u8 0, .int .u8 0, .int .u8 0, .int .u8 0, .int .u8 0, .int .u8 0, .int .u8 0, .int .u8 0, .int .u8 0, .int .u8 0] 81)).heap.size := by simp
  go_enter Tryz.func24, Tryz.ntmps24
  go_upto_region 1 with fail
  go_name_world w1 hw1
  rw [show w.alloc (.cells #[.int .i64 0, .int .i64 0, .string ⟨#[]⟩, .int .u8 0, .int .u8 0, .int .u8 0, .int .u8 0, .int .u8 0, .int .u8 0, .int .u8 0, .int .u8 0, .int .u8 0, .int .u8 0, .int .u8 0, .int .u8 0, .int .u8 0, .int .u8 0, .int .u8 0, .int .u8 0] 81) = w1 from hw1] at ht0 hB0 hz0
  clear hw1
  have F := fresh_store w1 #[.int .i64 0, .int .i64 0, .string ⟨#[]⟩, .int .u8 0, .int .u8 0, .int .u8 0, .int .u8 0, .int .u8 0, .int .u8 0, .int .u8 0, .int .u8 0, .int .u8 0, .int .u8 0, .int .u8 0, .int .u8 0, .int .u8 0, .int .u8 0, .int .u8 0, .int .u8 0] 81 (reqL c n s zeros16) (by rw [reqL_length _ _ _ _ rfl]; rfl)
  have hN1 : (w1.alloc (.cells #[.int .i64 0, .int .i64 0, .string ⟨#[]⟩, .int .u8 0, .int .u8 0, .int .u8 0, .int .u8 0, .int .u8 0, .int .u8 0, .int .u8 0, .int .u8 0, .int .u8 0, .int .u8 0, .int .u8 0, .int .u8 0, .int .u8 0, .int .u8 0, .int .u8 0, .int .u8 0] 81)).there w1.heap.size 0 (reqL c n s zeros16).toArray.size := there_new w1 #[.int .i64 0, .int .i64 0, .string ⟨#[]⟩, .int .u8 0, .int .u8 0, .int .u8 0, .int .u8 0, .int .u8 0, .int .u8 0, .int .u8 0, .int .u8 0, .int .u8 0, .int .u8 0, .int .u8 0, .int .u8 0, .int .u8 0, .int .u8 0, .int .u8 0, .int .u8 0] 81
  go_upto_region 2 with (refine wpList_store_mid (op := ⟨none, .store 81 (.tmp 12) (.tmp 18), _, _, _, none⟩) rfl 81 _ _ rfl _ _ (reqL c n s zeros16).toArray rfl rfl hN1 hi0 h1c ?_)
  go_name_world w2 hw2
  rw [show (w1.alloc (.cells #[.int .i64 0, .int .i64 0, .string ⟨#[]⟩, .int .u8 0, .int .u8 0, .int .u8 0, .int .u8 0, .int .u8 0, .int .u8 0, .int .u8 0, .int .u8 0, .int .u8 0, .int .u8 0, .int .u8 0, .int .u8 0, .int .u8 0, .int .u8 0, .int .u8 0, .int .u8 0] 81)).setCells w1.heap.size 0 (reqL c n s zeros16) = w2 from hw2] at F
  clear hw2 hN1 h1c
  obtain ⟨hR2, hF2, hz2, hT2⟩ := F
  have hT2 : w2.there w1.heap.size 0 19 := hT2
  have hB2 := hB0.trans (hF2.mono hB0.size)
  have ht2 := there_below ht0 hF2 hz0
  have hi0' : (Tryz.prog.info? 81).map (·.size) = some (reqL c n s zeros16).length := by rw [reqL_length _ _ _ _ rfl]; exact iszR
  clear hB0 ht0 hF2 hi0
  simp only [Act.put]
  generalize Value.agg #[Value.int IntKind.i64 c, Value.int IntKind.i64 n, Value.string s, Value.int IntKind.u8 0, Value.int IntKind.u8 0, Value.int IntKind.u8 0, Value.int IntKind.u8 0, Value.int IntKind.u8 0, Value.int IntKind.u8 0, Value.int IntKind.u8 0, Value.int IntKind.u8 0, Value.int IntKind.u8 0, Value.int IntKind.u8 0, Value.int IntKind.u8 0, Value.int IntKind.u8 0, Value.int IntKind.u8 0, Value.int IntKind.u8 0, Value.int IntKind.u8 0, Value.int IntKind.u8 0] = v18
  obtain ⟨X, hX⟩ : ∃ X, Hid (w.heap.size = X) := ⟨_, hide rfl⟩
  obtain ⟨Y, hY⟩ : ∃ Y, Hid (w1.heap.size = Y) := ⟨_, hide rfl⟩
  have hXY : X < Y := by rw [← hX.out, ← hY.out]; exact hz0
  have hY2 : Y < w2.heap.size := by rw [hz2, hY.out]; omega
  clear hz0 hz2
  rw [hX.out] at ht2 ⊢
  rw [hY.out] at hR2 hT2 ⊢
  have ck := klen_any p ds w2 (h.below hB2)
  have cm := fun w0 => mayBe_any c n 8 s zeros16 w0
  have hmb : decide (0 ≤ c ∧ c < 8 ∧ 1 ≤ n ∧ n ≤ 1099511627776 ∧ s.size ≤ 64) = true := decide_eq_true hm
  simp only [hmb] at cm
  clear hmb
  obtain ⟨q, hq⟩ : ∃ q, Hid (reqL c n s zeros16 = q) := ⟨_, hide rfl⟩
  rw [hq.out] at hR2 hi0'
  simp only [hq.out] at cm ct
  simp only [hq.out] at hput
  have hd0 : ((ds.length : Int) == 0) = false := by simp; exact List.ne_nil_of_length_pos hd
  have hd1 : ¬ (ds.length : Int) = 0 := by omega
  have HD := hide hd
  clear hd
  go_wp2_with fail
  refine ck.mono ?_
  rintro e w3 ⟨rfl, hx⟩
  obtain rfl := hx.symm
  clear hx ck
  go_upto_region 4 with fail
  try simp only [Act.put]
  refine wp_region_list ?_
  refine wpList_load_mid rfl 81 _ rfl _ _ rfl q _ hR2 Tryz.underlying81 rfl hi0' ?_
  go_wp2_with fail
  refine (cm w2).mono ?_
  rintro e w3 ⟨rfl, hw3⟩
  have hB3 := hB2.trans (hw3.mono hB2.size)
  have hR3 := range_below hR2 hw3 hY2
  have ht3 := there_below ht2 hw3 (by omega)
  have hY3 := Nat.lt_of_lt_of_le hY2 hw3.size
  have hB23 := hw3
  have hY2' := hY2
  clear hB2 hR2 ht2 hY2 cm hw3
  have ct3 := ct w3 (h.below hB3) (hG.below hB3)
  clear ct
  go_upto_region 6 with fail
  try simp only [Act.put]
  refine wp_region_list ?_
  refine wpList_step fun K hK => ?_
  go_simp
  refine hK _ _ ?_
  clear hK K
  refine wpList_step fun K hK => ?_
  go_simp
  refine hK _ _ ?_
  clear hK K
  refine wpList_load_mid rfl 81 _ rfl _ _ rfl q _ hR3 Tryz.underlying81 rfl hi0' ?_
  go_wp2_with fail
  refine ct3.mono ?_
  rintro e w4 ⟨rfl, hw4⟩
  clear ct3
  have hB4 := hB3.trans (hw4.mono hB3.size)
  have hR4 := range_below hR3 hw4 hY3
  have ht4 := there_below ht3 hw4 (by omega)
  have hY4 := Nat.lt_of_lt_of_le hY3 hw4.size
  have hT4 := there_below hT2 (hB23.trans (hw4.mono hB23.size)) hY2'
  clear hB3 hR3 ht3 hY3 hw4 hT2 hB23 hY2'
  have F := fresh_store w4 (Array.replicate 16 (.int .u8 0)) 23 r (by simpa using hrl.out)
  have hN4 : (w4.alloc (.cells (Array.replicate 16 (.int .u8 0)) 23)).there w4.heap.size 0 r.toArray.size := by
    have := there_new w4 (Array.replicate 16 (.int .u8 0)) 23
    have e : r.toArray.size = 16 := by have := hrl.out; simpa using this
    rw [e]; exact this
  go_upto_region 7 with (refine wpList_store_mid (op := ⟨none, .store 23 (.tmp 13) (.tmp 34), _, _, _, none⟩) rfl 23 _ _ rfl _ _ r.toArray rfl rfl hN4 hir hor ?_)
  go_name_world w5 hw5
  rw [show (w4.alloc (.cells (Array.replicate 16 (.int .u8 0)) 23)).setCells w4.heap.size 0 r = w5 from hw5] at F
  clear hw5 hN4
  obtain ⟨hR5t, hF5, hz5, _⟩ := F
  have hB5 := hB4.trans (hF5.mono hB4.size)
  have hR5 := range_below hR4 hF5 hY4
  have ht5 := there_below ht4 hF5 (by omega)
  have hT5 := there_below hT4 hF5 hY4
  obtain ⟨Z, hZ⟩ : ∃ Z, Hid (w4.heap.size = Z) := ⟨_, hide rfl⟩
  rw [hZ.out] at hR5t hY4 hz5 ⊢
  clear hB4 hR4 ht4 hF5 hT4
  try simp only [Act.put]
  have hR6 := hput w5 Y hR5 hT5
  have er16 : r.toArray.size = 16 := by have := hrl.out; simpa using this
  have hT6 : w5.there Y 3 r.toArray.size := by have := there_part hT5 3 16 (by omega); rw [er16]; simpa using this
  clear er16
  have hB6 : Below w.heap.size w (w5.setCells Y 3 r) := below_sets (by rw [hX.out]; omega) _ 3 w5 hB5
  have ht6 : (w5.setCells Y 3 r).there X 0 19 := World.there_setCells ht5 _ _ _
  go_upto_region 9 with fail
  try simp only [Act.put]
  refine wp_region_list ?_
  refine wpList_load_mid rfl 23 _ rfl _ _ rfl r _ hR5t Tryz.underlying23 rfl hir' ?_
  refine wpList_step fun K hK => ?_
  go_simp
  refine hK _ _ ?_
  clear hK K
  refine wpList_store_mid rfl 23 _ _ rfl _ _ r.toArray rfl rfl hT6 hir hor ?_
  obtain ⟨w6, hw6⟩ : ∃ w6, w5.setCells Y 3 r = w6 := ⟨_, rfl⟩
  rw [show w5.setCells Y 3 r.toArray.toList = w6 from hw6]
  rw [hw6] at hR6 hB6 ht6
  clear hw6 hR5t hR5 hT5 ht5 hB5 hT6
  go_upto_region 10 with fail
  try simp only [Act.put]
  refine wp_region_list ?_
  refine wpList_load_mid rfl 81 _ rfl _ _ rfl Q _ hR6 Tryz.underlying81 rfl hiR' ?_
  rw [← hRl'.out] at ht6
  have hrs := run_loadVar_mid (P := Tryz.prog) (w6.setCells X 0 Q) X 0 81 Q _ (World.rangeAt_setCells_same w6 X 0 Q (by have := ht6; simpa using this)) Tryz.underlying81 rfl hiR'
  have hBl : Below w.heap.size w (w6.setCells X 0 Q) := below_sets (by rw [hX.out]; exact Nat.le_refl _) _ 0 w6 hB6
  refine wpList_store_mid rfl 81 _ _ rfl _ _ Q.toArray rfl rfl ht6 hiR hoR ?_
  go_wp2_with fail
  exact bodyPost_ret (v := .tuple #[.agg Q.toArray, .int .i64 0]) (by simp [results, Tryz.results24, asAddr, hrs]) rfl ⟨rfl, hBl⟩
end Go.Proofs.YtcbpbkefggekmaaGreatDoor.Rk
namespace Go.Proofs.YtcbpbkefggekmaaGreatDoor
open Go.RowKit
open Sha Tal
set_option linter.unusedVariables false
set_option linter.unusedSimpArgs false
def batC (N : Int) (rs : List Rq) : List Ev := rs.map fun r => ⟨IntKind.i64.wrap (N + r.c), strOf (Rk.bodyL r.c r.n r.s), r.t⟩
def cerC (v : Vt) (ss : List Sg) : List Ev := ss.map fun s => ⟨s.n, optS v.may (voteL v), s.t⟩
def sgC (ss : List Sg) : List Ev := ss.map fun s => ⟨s.n, ⟨#[]⟩, s.t⟩
def addV (O : Nat) : Value := .func (.func 52) #[] #[.pointer (some ⟨O, 0, none⟩)]
theorem wrapIn (z : Int) : -9223372036854775808 ≤ IntKind.i64.wrap z ∧ IntKind.i64.wrap z ≤ 9223372036854775807 := by rw [IntKind.wrap_i64]; omega
theorem strOf_sizeV (zs : List Int) : (strOf zs).size = zs.length := strOf_size zs
theorem batC_ok {N : Int} {r : Rq} (h : r.ok) (hs : r.s.size ≤ 100000) : Ev.ok ⟨IntKind.i64.wrap (N + r.c), strOf (Rk.bodyL r.c r.n r.s), r.t⟩ :=
 ⟨h.tl, h.tb, by
  have := Rk.bodyL_length r.c r.n r.s h.ch h.nh hs
  show (strOf (Rk.bodyL r.c r.n r.s)).size ≤ maxLen
  rw [strOf_sizeV]
  unfold maxLen
  omega, (wrapIn _).1, (wrapIn _).2⟩
theorem optS_size {v : Vt} (h : v.ok) : (optS v.may (voteL v)).size ≤ 1000 := by
 unfold optS
 split
 ·rw [strOf_sizeV]; exact voteL_len h
 ·decide
theorem cerC_ok {v : Vt} (hv : v.ok) {s : Sg} (h : s.ok) : Ev.ok ⟨s.n, optS v.may (voteL v), s.t⟩ :=
 ⟨h.tl, h.tb, Nat.le_trans (optS_size hv) (by unfold maxLen; decide), h.nl, h.nh⟩
theorem sgC_ok {s : Sg} (h : s.ok) : Ev.ok ⟨s.n, ⟨#[]⟩, s.t⟩ := ⟨h.tl, h.tb, Nat.zero_le _, h.nl, h.nh⟩
theorem take_succ_map {α β : Type} {f : α → β} {xs : List α} {k : Nat} (hk : k < xs.length) : (xs.map f).take (k + 1) = (xs.map f).take k ++ [f xs[k]] := by
 rw [List.take_add_one]
 simp [List.getElem?_eq_getElem hk]
theorem Grow.range {w w' : World} {O b o : Nat} {v v' : Value} {cs : List Value} (g : Grow w w' O v v') (hb : b < w.heap.size) (hc : Clr O v b) (h : w.rangeAt b o cs) : w'.rangeAt b o cs := fun j u hu => by
 rw [(cell_block (g.block b hb hc.1 hc.2)).1]
 exact h j u hu
structure CI (w wr : World) (O : Nat) (v vk : Value) (cs : List Ev) : Prop where
 out : OutC wr O vk cs
 grow : Grow w wr O v vk
theorem CI.later {w wr w' : World} {O : Nat} {v vk : Value} {cs : List Ev} (h : CI w wr O v vk cs) (hb : Below wr.heap.size wr w') : CI w w' O v vk cs := ⟨h.out.below hb, h.grow.trans (Grow.of hb _ _)⟩
theorem CI.add {w wr w' : World} {O : Nat} {v vk v' : Value} {cs ds : List Ev} (h : CI w wr O v vk cs) (ho : OutC w' O v' ds) (hg : Grow wr w' O vk v') : CI w w' O v v' ds := ⟨ho, h.grow.trans hg⟩
theorem clr_new {w wr : World} {O : Nat} {v vk : Value} {cs : List Ev} (h : CI w wr O v vk cs) {b : Nat} (hb : wr.heap.size ≤ b) : Clr O vk b := ⟨by have := h.out.lt; omega, fun e => by have := (h.out.own.lt b e).2; omega⟩
set_option maxRecDepth 100000 in
set_option maxHeartbeats 1000000 in
theorem bclaims_any (N : Int) (q : Bool) (x : Sl Rq) (O : Nat) (v : Value) (cs : List Ev) (w : World) (h : OutC w O v cs) (hx : x.At RqE w) (hc : x.Bk (Clr O v)) (hn : cs.length + x.xs.length ≤ 1000000000) (hb : ∀ r ∈ x.xs, r.s.size ≤ 100000) :
  Calls Tryz.prog 80 #[.int .i64 N, .agg #[.bool q, x.val], addV O] w fun en w' => en = .returned (.tuple #[]) ∧ ∃ v', OutC w' O v' (cs ++ batC N x.xs) ∧ Grow w w' O v v' := by
 obtain ⟨z19, hzl, hzr⟩ : ∃ z : List Value, z.length = 19 ∧ (∀ w : World, (zeroValue 81).run Tryz.prog w = .ok (.agg z.toArray) w) := ⟨[.int .i64 0, .int .i64 0, .string ⟨#[]⟩] ++ v8 (List.replicate 16 0), rfl, fun w => by kernel_rfl⟩
 have ca := fun w0 vk ds e he h0 hl => cadd_any O vk ds e w0 h0 he hl
 obtain ⟨B1, r1, s1⟩ := boxed_new w [.bool q, x.val] 39
 have pr : (w.alloc (.cells [Value.bool q, x.val].toArray 39)).cell? ⟨w.heap.size, 1, none⟩ = some x.val := by have := r1 1 _ rfl; rwa [Nat.zero_add] at this
 have HC0 : CI w (w.alloc (.cells [Value.bool q, x.val].toArray 39)) O v v (cs ++ (batC N x.xs).take 0) := ⟨by rw [List.take_zero, List.append_nil]; exact h.below B1, Grow.of B1 _ _⟩
 have hx1 := hx
 obtain ⟨xa, xc, xs⟩ := x
 obtain ⟨n, hxn⟩ : ∃ n, xs.length = n := ⟨_, rfl⟩
 have hval : (Sl.mk xa xc xs).val = .slice xa n xc := by unfold Sl.val; rw [← hxn]
 rw [hval] at r1 pr HC0 B1 s1 ⊢
 clear hval r1
 have HN := hide hxn
 have HXX : Hid (Sl.At RqE w ⟨xa, xc, xs⟩) := hide hx
 have HCC := hide hc
 have HB : Hid (∀ r ∈ xs, r.s.size ≤ 100000) := hide hb
 have hn : cs.length + xs.length ≤ 1000000000 := hn
 have HNN := hide hn
 clear hx hx1 hc hb hn hxn h
 go_enter Tryz.func80, Tryz.ntmps80
 go_upto_region 1 with fail
 go_name_world W hW
 rw [show w.alloc (.cells #[.bool q, .slice xa n xc] 39) = W from hW] at B1 pr s1 HC0
 clear hW
 have HC1 := hide HC0
 clear HC0
 unfold addV
 go_wp2_with fail
 go_loopw [11] (fun iv wr => ∃ (k : Nat) (vk : Value), k ≤ n ∧ iv = .int .i64 (k : Int) ∧ Hid (CI w wr O v vk (cs ++ (batC N xs).take k))) (fun iv _ => n - (intOf iv).toNat)
 case atStart => exact ⟨0, v, by omega, rfl, HC1⟩
 case round =>
  clear HC1 pr
  obtain ⟨k, vk, hk, rfl, HK⟩ := hrel
  by_cases hlt : k < n
  ·have k1 : (k : Int) < n := by omega
   have hn9 : n ≤ 1000000000 := by have h1 := HNN.out; have h2 := HN.out; omega
   have hkx : k < xs.length := by rw [HN.out]; exact hlt
   obtain ⟨b, off, hab, hbw, hre⟩ := (HXX.out.grow HK.out.grow HCC.out).elem k hkx
   have hab : xa = some ⟨b, off, none⟩ := hab
   have hre : wr.rangeAt b (off + k * 19) (RqE.f xs[k]) := hre
   have okx : Rq.ok xs[k] := HXX.out.2.1 _ (List.getElem_mem hkx)
   have hsz := HB.out _ (List.getElem_mem hkx)
   have HT : Hid ((batC N xs).take (k + 1) = (batC N xs).take k ++ [⟨IntKind.i64.wrap (N + (xs[k]).c), strOf (Rk.bodyL (xs[k]).c (xs[k]).n (xs[k]).s), (xs[k]).t⟩]) := hide (take_succ_map hkx)
   have HL : (cs ++ (batC N xs).take k).length ≤ 1000000000 := by have := HNN.out; simp only [List.length_append, List.length_take]; omega
   obtain ⟨g, hg⟩ : ∃ g, xs[k] = g := ⟨_, rfl⟩
   rw [hg] at hre okx hsz HT
   clear hg
   have hok := batC_ok (N := N) okx hsz
   have ca := fun w0 vk ds h0 hl => ca w0 vk ds _ hok h0 hl
   have cb := fun w0 => Rk.body_any g.c g.n g.s g.t w0 okx.tl okx.ch okx.nh hsz
   have cb : ∀ w0, Calls Tryz.prog 101 #[.agg (RqE.f g).toArray] w0 fun e w' => e = .returned (.string (strOf (Rk.bodyL g.c g.n g.s))) ∧ Below w0.heap.size w0 w' := cb
   have hu0 : (RqE.f g)[0]? = some (.int .i64 g.c) := rfl
   have hut : RqE.f g = .int .i64 g.c :: .int .i64 g.n :: .string g.s :: v8 g.t := rfl
   have it16 : (Tryz.prog.info? 23).map (·.size) = some (v8 g.t).length := by rw [v8_length, okx.tl]; exact iszT
   have tgof : ∀ {w' : World}, w'.rangeAt wr.heap.size 0 (RqE.f g) → w'.rangeAt wr.heap.size 3 (v8 g.t) := fun {w'} hw j u hu => by
    have := hw (j + 3) u (by rw [hut]; exact hu)
    rw [show 0 + (j + 3) = 3 + j by omega] at this
    exact this
   have c0of : ∀ {w' : World}, w'.rangeAt wr.heap.size 0 (RqE.f g) → (RqE.f g)[0]? = some (.int .i64 g.c) → w'.cell? ⟨wr.heap.size, 0, none⟩ = some (.int .i64 g.c) := fun {w'} hw _ => by have := hw 0 _ rfl; rwa [Nat.zero_add] at this
   have iu : (Tryz.prog.info? 81).map (·.size) = some (RqE.f g).length := by rw [RqE.len g okx]; kernel_rfl
   have hul : (RqE.f g).length = 19 := RqE.len g okx
   have hu1 := RqE.one g
   obtain ⟨id, hid⟩ : ∃ i, IntKind.i64.wrap (N + g.c) = i := ⟨_, rfl⟩
   rw [hid] at HT hok
   simp only [hid] at ca
   obtain ⟨bd, hbd⟩ : ∃ i, Hid (strOf (Rk.bodyL g.c g.n g.s) = i) := ⟨_, hide rfl⟩
   rw [hbd.out] at HT hok
   simp only [hbd.out] at ca cb
   obtain ⟨tg, htg⟩ : ∃ t, Hid (g.t = t) := ⟨_, hide rfl⟩
   rw [htg.out] at HT hok it16
   simp only [htg.out] at ca tgof
   clear hut okx hok hsz htg hbd
   generalize RqE.f g = u at *
   rw [hab]
   go_upto_region 3 with fail
   obtain ⟨r5, hF, hF3, -⟩ := fresh_store wr z19.toArray 81 u (by simp [hzl, hul])
   try simp only [Act.put]
   refine pl_begin ?_
   refine pl_t 13 (?_) (by rfl) ?_ rfl ?_
   rotate_left
   ·go_simp
    try with_reducible rfl
   simp only [nz]
   refine pl_t 14 (.agg u.toArray) (by rfl) (ex_mid rfl rfl hre Tryz.underlying81 rfl iu) rfl ?_
   simp only [nz]
   refine pl_run (d := some 7) (v := .pointer (some ⟨wr.heap.size, 0, none⟩)) (w' := wr.alloc (.cells z19.toArray 81)) (by rfl) (ex_alloc rfl (hzr _)) rfl ?_
   simp only [nz]
   refine pl_store (w' := (wr.alloc (.cells z19.toArray 81)).setCells wr.heap.size 0 u) (by rfl) (ex_put (cs := u.toArray) rfl rfl rfl (there_newN _ _ _ (by simp [hzl, hul])) (by simpa using iu) (all_one hu1)) rfl ?_
   refine pl_nil ?_
   have HC := HK.out.later hF
   have HX := clr_new HK.out (Nat.le_refl _)
   clear HK
   obtain ⟨X, hX⟩ : ∃ X, wr.heap.size = X := ⟨_, rfl⟩
   simp only [hX] at r5 HC HX hF3 tgof c0of ⊢
   obtain ⟨w5, hw5⟩ : ∃ W, (wr.alloc (.cells z19.toArray 81)).setCells X 0 u = W := ⟨_, rfl⟩
   rw [hw5] at r5 HC hF3 ⊢
   have sX : X < w5.heap.size := by omega
   clear hw5 hX hF hF3 hre hab
   go_upto_region 4 with fail
   have hdr : Below w5.heap.size w5 w5.drew := (Below.refl _ _).drew
   have r5 := range_below r5 hdr sX
   have HC := HC.later hdr
   have sX := Nat.lt_of_lt_of_le sX hdr.size
   refine hs_begin (S := fun W' : World => W'.rangeAt X 0 u) 10 rfl (by kernel_rfl) ?_
   obtain ⟨w8, hw8⟩ : ∃ W, w5.drew = W := ⟨_, rfl⟩
   rw [hw8] at r5 HC sX ⊢
   clear hdr hw8
   have hS : w8.rangeAt X 0 u := r5
   refine hs_t 0 15 (?_) rfl (by kernel_rfl) (by kernel_rfl) (by kernel_rfl) (by rfl) ?_ hS rfl ?_
   rotate_left
   ·intro w' hw
    go_simp
    try with_reducible rfl
   simp only [nz]
   refine hs_t 1 16 (?_) rfl (by kernel_rfl) (by kernel_rfl) (by kernel_rfl) (by rfl) ?_ hS rfl ?_
   rotate_left
   ·intro w' hw
    go_simp
    try with_reducible rfl
   simp only [nz]
   refine hs_t 2 17 (?_) rfl (by kernel_rfl) (by kernel_rfl) (by kernel_rfl) (by rfl) ?_ hS rfl ?_
   rotate_left
   ·intro w' hw
    go_simp
    try with_reducible rfl
   simp only [nz]
   refine hs_t 3 18 (.int .i64 g.c) rfl (by kernel_rfl) (by kernel_rfl) (by kernel_rfl) (by rfl) (fun w' hw => pl_one rfl rfl (c0of hw hu0) Tryz.underlying3 rfl) hS rfl ?_
   simp only [nz]
   refine hs_t 4 19 (.int .i64 id) rfl (by kernel_rfl) (by kernel_rfl) (by kernel_rfl) (by rfl) (fun w' hw => by go_simp <;> (try simp [hid])) hS rfl ?_
   simp only [nz]
   refine hs_t 5 20 (.agg u.toArray) rfl (by kernel_rfl) (by kernel_rfl) (by kernel_rfl) (by rfl) (fun w' hw => ex_mid rfl rfl hw Tryz.underlying81 rfl iu) hS rfl ?_
   simp only [nz]
   refine hs_t 7 22 (?_) rfl (by kernel_rfl) (by kernel_rfl) (by kernel_rfl) (by rfl) ?_ hS rfl ?_
   rotate_left
   ·intro w' hw
    go_simp
    try with_reducible rfl
   simp only [nz]
   refine hs_t 8 23 (.agg (v8 tg).toArray) rfl (by kernel_rfl) (by kernel_rfl) (by kernel_rfl) (by rfl) (fun w' hw => ex_mid rfl rfl (tgof hw) Tryz.underlying23 rfl it16) hS rfl ?_
   simp only [nz]
   refine hs_call (i := 6) (d := some 21) rfl (by kernel_rfl) (by rfl) (by go_simp; first | done | exact ⟨rfl, rfl⟩ | with_reducible rfl) rfl ?_
   refine (cb w8).mono ?_
   rintro _ wb ⟨rfl, hbb⟩
   have hS : wb.rangeAt X 0 u := range_below hS hbb sX
   have HC := HC.later hbb
   have sX := Nat.lt_of_lt_of_le sX hbb.size
   refine ⟨_, rfl, hS, ?_⟩
   simp only [nz]
   refine hs_call (i := 9) (d := some 24) rfl (by kernel_rfl) (by rfl) (by go_simp; first | done | exact ⟨rfl, rfl⟩ | with_reducible rfl) rfl ?_
   refine (ca wb vk (cs ++ (batC N xs).take k) HC.out HL).mono ?_
   rintro _ wc ⟨rfl, v', ho', hg'⟩
   have hS : wc.rangeAt X 0 u := hg'.range sX HX hS
   refine ⟨_, rfl, hS, ?_⟩
   simp only [nz]
   refine hs_done (by kernel_rfl) ?_
   have HD : Hid (CI w wc O v v' (cs ++ (batC N xs).take (k + 1))) := hide (by
    rw [HT.out, ← List.append_assoc]
    exact HC.add ho' hg')
   clear HC ho' hg' hS HX r5 hbb cb ca tgof c0of HT iu it16 hu0 hu1 hul hzr hzl hid
   go_wp2_with fail
   go_roundw
   case rel => exact ⟨k + 1, v', by omega, by go_num, HD⟩
   case measure => simp [intOf]; omega
  ·obtain rfl : k = n := by omega
   have HE : Hid (OutC wr O vk (cs ++ batC N xs) ∧ Grow w wr O v vk) := hide (by
    have h1 := HK.out.out
    rw [List.take_of_length_le (by unfold batC; rw [List.length_map, HN.out]; exact Nat.le_refl _)] at h1
    exact ⟨h1, HK.out.grow⟩)
   clear HK ca hlt
   go_wp2_with fail
   go_end0
   exact ⟨rfl, vk, HE.out⟩
end Go.Proofs.YtcbpbkefggekmaaGreatDoor
