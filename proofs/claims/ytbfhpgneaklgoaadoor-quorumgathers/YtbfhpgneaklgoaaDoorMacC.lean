/- the closure of seal.Mac: the digest of the key's block, xored, and the parts -/
import Derived.Test.YtbfhpgneaklgoaaDoorBlockOf
import Derived.Laws.MakeOwn
namespace Go.Proofs.YtbfhpgneaklgoaaDoor
open Go.RowKit
open Sha
def xorB (x z : Int) : Int := bits .xor .u8 z x
theorem xorB_ok (x z : Int) : 0 ≤ xorB x z ∧ xorB x z < 256 := by
  unfold xorB
  show 0 ≤ IntKind.u8.wrap _ ∧ IntKind.u8.wrap _ < 256
  rw [IntKind.wrap_u8]; omega
def xorL (x : Int) (zs : List Int) : List Int := zs.map (xorB x)
theorem xorL_ok (x : Int) (zs : List Int) : ∀ z ∈ xorL x zs, 0 ≤ z ∧ z < 256 := fun z hz => by
  obtain ⟨u, _, rfl⟩ := List.mem_map.1 hz; exact xorB_ok x u
theorem xorL_len (x : Int) (zs : List Int) : (xorL x zs).length = zs.length := by simp [xorL]
theorem parts_src {w : World} {a : Option Addr} {ps : List Part} (h : PartsAt w a ps) (cap : Nat) : Src Tryd.prog 1 68 (.slice a ps.length cap) ps.length (ps.map Part.val) w := by
  have one : ∀ u ∈ ps.map Part.val, u.oneCell' = true := fun u hu => by
    obtain ⟨p, _, rfl⟩ := List.mem_map.1 hu; rfl
  cases a with
  | none =>
    have : ps = [] := by
      rcases h.2.2 with q | ⟨b, off, hx, _⟩
      · exact q
      · cases hx
    subst this
    exact Src.ofNil w Tryd.underlying68 cap
  | some y =>
    refine Src.ofSlice w Tryd.underlying68 y ps.length cap _ (by simp) (fun j u hu => ?_) one
    rcases h.2.2 with rfl | ⟨b, off, hx, _, hr⟩
    · simp at hu
    · cases hx
      rw [Addr.add_mid]
      exact hr j u hu
set_option maxRecDepth 20000 in
set_option maxHeartbeats 1000000 in
theorem macC_any (x : Int) (K : Nat) (kb : List Int) (a : Option Addr) (cap : Nat) (ps : List Part) (w : World) (hG : Glob w) (hkl : kb.length = 64) (hK : w.rangeAt K 0 (v8 kb)) (hKs : K < w.heap.size) (h : PartsAt w a ps) (hn : (cat ps).length < 1000000) (hpl : ps.length ≤ 100000) :
   Calls Tryd.prog 41 #[.int .u8 x, .slice a ps.length cap, .pointer (some ⟨K, 0, none⟩)] w fun e w' => e = .returned (.agg (v8 (sha (xorL x kb ++ cat ps))).toArray) ∧ Below w.heap.size w w' := by
  have hBr : Below w.heap.size w (w.alloc (.cells (Array.replicate 32 (.int .u8 0)) 54)) := (Below.refl _ _).alloc (Nat.le_refl _) _
  have hT0 := (new_bytes w 32 54).2
  have hK1 := range_below hK hBr hKs
  have hvl : (v8 kb).length = 64 := by rw [v8_length, hkl]
  have hi : (Tryd.prog.info? 71).map (·.size) = some (v8 kb).length := by rw [hvl]; exact isz52
  have hi' : (Tryd.prog.info? 71).map (·.size) = some (v8 kb).toArray.size := by rw [List.size_toArray]; exact hi
  have hN := (new64 (w.alloc (.cells (Array.replicate 32 (.int .u8 0)) 54))).2
  have hN' : ((w.alloc (.cells (Array.replicate 32 (.int .u8 0)) 54)).alloc (.cells (Array.replicate 64 (.int .u8 0)) 71)).there (w.heap.size + 1) 0 (v8 kb).toArray.size := by
    have e : (v8 kb).toArray.size = 64 := by rw [List.size_toArray, hvl]
    rw [e]
    have es : (w.alloc (.cells (Array.replicate 32 (.int .u8 0)) 54)).heap.size = w.heap.size + 1 := by simp
    rw [es] at hN
    exact hN
  have h1c := all_oneCell_toArray (v8_one kb)
  have F := fresh_store (w.alloc (.cells (Array.replicate 32 (.int .u8 0)) 54)) (Array.replicate 64 (.int .u8 0)) 71 (v8 kb) (by rw [hvl]; rfl)
  have es : (w.alloc (.cells (Array.replicate 32 (.int .u8 0)) 54)).heap.size = w.heap.size + 1 := by simp
  rw [es] at F
  clear hN
  go_enter Tryd.func41, Tryd.ntmps41
  go_upto_region 2 with (first | refine wpList_load_mid (op := ⟨some 9, .load 71 (.tmp 2), _, _, _, none⟩) rfl 71 _ rfl _ _ rfl (v8 kb) _ hK1 Tryd.underlying71 rfl hi ?_ | refine wpList_store_mid (op := ⟨none, .store 71 (.tmp 6) (.tmp 9), _, _, _, none⟩) rfl 71 _ _ rfl _ _ (v8 kb).toArray rfl rfl hN' hi' h1c ?_)
  go_name_world w1 hw1
  rw [show ((w.alloc (.cells (Array.replicate 32 (.int .u8 0)) 54)).alloc (.cells (Array.replicate 64 (.int .u8 0)) 71)).setCells (w.heap.size + 1) 0 (v8 kb) = w1 from hw1] at F
  obtain ⟨hR1, hB1', hz1, hT1⟩ := F
  have hB1 : Below w.heap.size w w1 := hBr.trans (hB1'.mono (by omega))
  have hT01 := there_below hT0 hB1' (by omega)
  have hT1' : w1.there (w.heap.size + 1) 0 64 := by simpa using hT1
  clear hw1 hB1' hT1 hN' hi hi' h1c hvl hK1 hT0 hBr es hz1
  simp only [Act.put]
  go_wp2_with fail
  go_loopw [10] (fun i wr => ∃ k : Nat, k ≤ 64 ∧ i = .int .i64 (k : Int) ∧ wr.rangeAt (w.heap.size + 1) 0 (v8 (xorL x (kb.take k) ++ kb.drop k)) ∧ wr.there (w.heap.size + 1) 0 64 ∧ wr.there w.heap.size 0 32 ∧ Below w.heap.size w wr ∧ w.heap.size + 1 < wr.heap.size) (fun i _ => 64 - (intOf i).toNat)
  case atStart => exact ⟨0, by omega, rfl, by simpa [xorL] using hR1, hT1', hT01, hB1, World.block_lt_of_cell? w1 _ (hR1 0 (.int .u8 (kb.getD 0 0)) (by
      have h0 : 0 < kb.length := by omega
      simp [v8, List.getElem?_eq_getElem h0]))⟩
  case round =>
    clear hR1 hT1' hT01 hB1
    obtain ⟨k, hk, rfl, hR, hT, hT0, hB, hsz⟩ := hrel
    by_cases hlt : k < 64
    · have hlk : k < kb.length := by omega
      obtain ⟨z, hz⟩ : ∃ z, Hid (kb[k] = z) := ⟨kb[k], (rfl : kb[k] = kb[k])⟩
      have hcell : wr.cell? ⟨w.heap.size + 1, k, none⟩ = some (.int .u8 z) := by
        have := hR k (.int .u8 z) (by
          unfold v8
          rw [List.map_append, List.getElem?_append_right (by rw [List.length_map, xorL_len, List.length_take]; omega), List.length_map, xorL_len, List.length_take_of_le (by omega), Nat.sub_self, List.getElem?_map, List.getElem?_drop, Nat.add_zero, List.getElem?_eq_getElem hlk, hz.out]
          rfl)
        rwa [Nat.zero_add] at this
      have hf := (hT k (by omega)).2
      rw [Nat.zero_add] at hf
      have HE : Hid (bits .xor .u8 z x = xorB x z) := rfl
      go_wp2_with fail
      rw [HE.out]
      go_roundw
      case rel =>
        refine ⟨k + 1, by omega, by go_num, ?_, there_set hT _ _, there_set hT0 _ _, hB.setCell (p := ⟨w.heap.size + 1, k, none⟩) (by simp) _, by simpa using hsz⟩
        have := range_set hR k (.int .u8 (xorB x z))
        rw [Nat.zero_add, v8_set] at this
        have e1 : (xorL x (kb.take k) ++ kb.drop k).set k (xorB x z) = xorL x (kb.take (k + 1)) ++ kb.drop (k + 1) := by
          have hl : (xorL x (kb.take k)).length = k := by rw [xorL_len, List.length_take_of_le (by omega)]
          rw [List.set_append_right _ _ (by omega), hl, Nat.sub_self, List.drop_eq_getElem_cons hlk, hz.out, List.set_cons_zero, List.take_succ_eq_append_getElem hlk, hz.out]
          simp [xorL]
        rw [e1] at this
        exact this
      case measure => simp [intOf]; omega
    · have hk64 : k = 64 := by omega
      have hkI : ¬ (k : Int) < 64 := by omega
      have hR64 : wr.rangeAt (w.heap.size + 1) 0 (v8 (xorL x kb)) := by
        rw [List.take_of_length_le (by omega), List.drop_eq_nil_of_le (by omega), List.append_nil] at hR
        exact hR
      clear hR hk64
      have hPw := h.below hB
      obtain ⟨i0, hi, hz0, hz1, hz2⟩ := info_parts infoP
      obtain ⟨w3, hmk, hown3, hgr3⟩ := run_makeSlice_owned (P := Tryd.prog) wr (w.heap.size + 2) 68 51 i0 (.slice none 0 0) 1 Tryd.underlying68 hi hz0 hz1 .i64 .i64 (1 + ps.length) (by omega) (by rw [hz2]; omega) (by unfold maxLen; omega) (by omega)
      have hmk' : (Instr.makeSlice 68 (.int .i64 0) (.int .i64 (1 + (ps.length : Int)))).run Tryd.prog wr = .ok (.slice (some ⟨wr.heap.size, 0, none⟩) 0 (1 + ps.length)) w3 := by
        have := hmk
        rw [show ((1 + ps.length : Nat) : Int) = 1 + (ps.length : Int) by omega] at this
        exact this
      have hw3 : Below (w.heap.size + 2) wr w3 := (Below.refl _ _).grown hgr3 (by omega) (fun _ h => by cases h)
      have hs3 : wr.heap.size ≤ w3.heap.size := hw3.size
      clear hmk hgr3
      obtain ⟨c0, hc0⟩ : ∃ c0, Hid (1 + ps.length = c0) := ⟨_, rfl⟩
      have hown4 := owns_below hown3 ((Below.refl w3.heap.size w3).alloc (Nat.le_refl _) (.cells #[.slice (some ⟨w.heap.size + 1, 0, none⟩) 64 64] 51))
      have hB4 : Below (w.heap.size + 2) wr (w3.alloc (.cells #[.slice (some ⟨w.heap.size + 1, 0, none⟩) 64 64] 51)) := hw3.alloc (by omega) _
      have hxl : (xorL x kb).length = 64 := by rw [xorL_len, hkl]
      have hsrc : Src Tryd.prog 1 68 (.slice (some ⟨w3.heap.size, 0, none⟩) 1 1) 1 [.slice (some ⟨w.heap.size + 1, 0, none⟩) 64 64] (w3.alloc (.cells #[.slice (some ⟨w.heap.size + 1, 0, none⟩) 64 64] 51)) := by
        have := one_src w3 ⟨some ⟨w.heap.size + 1, 0, none⟩, 64, xorL x kb⟩
        unfold Part.val at this
        rw [hxl] at this
        exact this
      have hsl := slice_all (w := w3) Tryd.underlying71 isz8 (w.heap.size + 1) 0 (by omega)
      go_wp2_with (at_builtin; refine wpList_append_own_src _ rfl _ _ 68 68 rfl (w.heap.size + 2) 51 i0 (.slice none 0 0) 1 24 Tryd.underlying68 hi hz0 hz1 hz2 rfl _ 0 _ rfl hown4 _ 1 _ rfl hsrc ?c1 ?c2 ?c3 ?_)
      case c1 => unfold maxLen; omega
      case c3 => omega
      intro v5 w5 hown5 hgr5
      have hB5 := below_grown hB4 (by simp; omega) hown4 hgr5
      have hown5' : w5.ownsRow (w.heap.size + 2) 51 1 v5 1 [.slice (some ⟨w.heap.size + 1, 0, none⟩) 64 64] := by simpa using hown5
      have hs5 : wr.heap.size ≤ w5.heap.size := hB5.size
      have hBw5 : Below w.heap.size w w5 := hB.trans (hB5.mono (by omega))
      have hP5 := h.below hBw5
      have hsrc5 := parts_src hP5 cap
      clear hown4 hB4 hsrc hgr5 hown3 hmk' hsl hw3 hown5
      obtain ⟨va, vc, rfl⟩ : ∃ a c, v5 = .slice a 1 c := by
        rcases own_range hown5' with ⟨_, h0, _⟩ | ⟨g, c, e, _⟩
        · omega
        · exact ⟨_, c, e⟩
      go_wp2_with (at_builtin; refine wpList_append_own_src _ rfl _ _ 68 68 rfl (w.heap.size + 2) 51 i0 (.slice none 0 0) 1 24 Tryd.underlying68 hi hz0 hz1 hz2 rfl _ 1 _ rfl hown5' _ ps.length _ rfl hsrc5 ?d1 ?d2 ?d3 ?_)
      case d1 => unfold maxLen; omega
      case d2 => omega
      case d3 => omega
      intro v6 w6 hown6 hgr6
      have hB6 := below_grown hB5 (by omega) hown5' hgr6
      have hBw6 : Below w.heap.size w w6 := hB.trans (hB6.mono (by omega))
      have hs6 : wr.heap.size ≤ w6.heap.size := hB6.size
      have hR6 := range_below hR64 hB6 (by omega)
      have hT6 := there_below hT0 hB6 (by omega)
      have hat : (⟨some ⟨w.heap.size + 1, 0, none⟩, 64, xorL x kb⟩ : Part).at w6 := ⟨⟨by rw [hxl]; unfold maxLen; omega, xorL_ok x kb, Or.inr ⟨_, _, rfl, by omega, hR6⟩⟩, by show (xorL x kb).length ≤ 64; omega, by show 64 ≤ maxLen; unfold maxLen; omega⟩
      have hown7 : w6.ownsRow (w.heap.size + 2) 51 1 v6 ((⟨some ⟨w.heap.size + 1, 0, none⟩, 64, xorL x kb⟩ : Part) :: ps).length (((⟨some ⟨w.heap.size + 1, 0, none⟩, 64, xorL x kb⟩ : Part) :: ps).map Part.val) := by
        have e : ((⟨some ⟨w.heap.size + 1, 0, none⟩, 64, xorL x kb⟩ : Part) :: ps).map Part.val = [.slice (some ⟨w.heap.size + 1, 0, none⟩) 64 64] ++ ps.map Part.val := by
          simp only [List.map_cons, Part.val, hxl]; rfl
        rw [e, List.length_cons, Nat.add_comm ps.length 1]
        exact hown6
      obtain ⟨av, cv, rfl, hPA⟩ := own_parts hown7 (fun p hp => by
        rcases List.mem_cons.1 hp with rfl | hp
        · exact hat
        · exact (h.2.1 p hp).below hBw6) (by simp; unfold maxLen; omega)
      have hcat : cat ((⟨some ⟨w.heap.size + 1, 0, none⟩, 64, xorL x kb⟩ : Part) :: ps) = xorL x kb ++ cat ps := by simp [cat]
      have c1 := sum_any av cv _ w6 (hG.below hBw6) hPA (by rw [hcat, List.length_append, hxl]; omega)
      rw [hcat] at c1
      have hlen : ((⟨some ⟨w.heap.size + 1, 0, none⟩, 64, xorL x kb⟩ : Part) :: ps).length = 1 + ps.length := by simp; omega
      rw [hlen] at c1 ⊢
      obtain ⟨d, hd⟩ : ∃ d, Hid (v8 (sha (xorL x kb ++ cat ps)) = d) := ⟨_, rfl⟩
      have hdl : d.length = 32 := by rw [← hd.out, v8_length, sha_length]
      have h1d : ∀ v ∈ d, v.oneCell' = true := by rw [← hd.out]; exact v8_one _
      rw [hd.out] at c1
      clear hown6 hown7 hPA hcat hlen hgr6 hB6 hB5 hown5' hsrc5 hP5 hat hR6
      go_wp2_with fail
      refine c1.mono ?_
      rintro e w7 ⟨rfl, hw7⟩
      have hB7 := hBw6.trans (hw7.mono hBw6.size)
      have hT7 := there_below hT6 hw7 (by omega)
      have hi24 : (Tryd.prog.info? 54).map (·.size) = some d.toArray.size := by rw [List.size_toArray, hdl]; exact isz24
      have hsz24 : d.toArray.size = 32 := by rw [List.size_toArray, hdl]
      have hT7' : w7.there w.heap.size 0 d.toArray.size := by rw [hsz24]; exact hT7
      clear c1 hw7
      go_wp2_with (refine wpList_store_mid (op := ⟨none, .store 54 (.tmp 5) (.tmp 31), _, _, _, none⟩) rfl 54 _ _ rfl _ _ d.toArray rfl rfl hT7' hi24 (all_oneCell_toArray h1d) ?_)
      have hRr := World.rangeAt_setCells_same w7 w.heap.size 0 d (by rw [hdl]; exact hT7)
      have hBl := below_sets (Nat.le_refl w.heap.size) d 0 w7 hB7
      have hrs := run_loadVar_mid (P := Tryd.prog) (w7.setCells w.heap.size 0 d) w.heap.size 0 54 d _ hRr Tryd.underlying54 rfl (by rw [hdl]; exact isz24)
      refine bodyPost_ret (v := .agg d.toArray) (by simp [results, Tryd.results41, Act.put, asAddr, hrs]) rfl ⟨by rw [hd.out], hBl⟩
end Go.Proofs.YtbfhpgneaklgoaaDoor
