/- digest.Chain: the digest of a digest and parts; the document's -/
import Derived.Test.YtkadfmbpajbkiaaDoorRefMac
import Derived.Test.YtkadfmbpajbkiaaDoorEql
namespace Go.Proofs.YtkadfmbpajbkiaaDoor
open Go.RowKit
open Sha
set_option maxRecDepth 20000 in
set_option maxHeartbeats 2000000 in
theorem chain_any (d : List Int) (a : Option Addr) (cap : Nat) (ps : List Part) (w : World) (hG : Glob w) (hdl : d.length = 32) (hdo : ∀ z ∈ d, 0 ≤ z ∧ z < 256) (h : PartsAt w a ps) (hn : (cat ps).length < 1000000000) :
   Calls Tryd.prog 13 #[.agg (v8 d).toArray, .slice a ps.length cap] w fun e w' => e = .returned (.agg (v8 (sha (d ++ cat ps))).toArray) ∧ Below w.heap.size w w' := by
  have hm := h.1
  unfold maxLen at hm
  have hz := zero55
  obtain ⟨cd, hcd⟩ : ∃ cd, Hid (v8 d = cd) := ⟨_, rfl⟩
  have B1 : Below w.heap.size w ((w.alloc (.cells cd.toArray 24)).alloc (.cells (Array.replicate 32 (.int .u8 0)) 24)) := ((Below.refl _ _).alloc (Nat.le_refl _) _).alloc (by simp) _
  have hX0 : ((w.alloc (.cells cd.toArray 24)).alloc (.cells (Array.replicate 32 (.int .u8 0)) 24)).rangeAt w.heap.size 0 (v8 d) := by
    have := World.rangeAt_alloc (box_range w d 24) (.cells (Array.replicate 32 (.int .u8 0)) 24)
    rw [hcd.out] at this
    rw [hcd.out]
    exact this
  have cb := begin_any ((w.alloc (.cells cd.toArray 24)).alloc (.cells (Array.replicate 32 (.int .u8 0)) 24)) (hG.below B1)
  have hD := (new_bytes (w.alloc (.cells cd.toArray 24)) 32 24).2
  simp only [World.size_alloc] at hD
  have hi : (Tryd.prog.info? 55).map (·.size) = some vinit.toArray.size := isz55
  have h1c := vinit_one
  have HX0 : Hid _ := hX0
  clear hX0
  rw [hcd.out]
  have HDL : Hid (d.length = 32) := hdl
  go_enter Tryd.func13, Tryd.ntmps13
  go_wp2_with fail
  refine cb.mono ?_
  rintro e w1 ⟨rfl, hw1⟩
  clear cb
  have hN := new55 w1
  have F := fresh_store w1 vzero.toArray 55 vinit rfl
  have hs1 := hw1.size
  simp only [World.size_alloc] at hs1
  have hB1 : Below w.heap.size w w1 := B1.trans (hw1.mono (by simp; omega))
  have hD1 := there_below hD hw1 (by simp)
  have hX1 := range_below HX0.out hw1 (by simp; omega)
  clear hw1 hD B1 HX0
  obtain ⟨vi, hvi⟩ : ∃ vi, Hid (vinit = vi) := ⟨_, rfl⟩
  rw [hvi.out] at hN F hi h1c ⊢
  have HZL : Hid (vzero.toArray.size = 74) := rfl
  generalize vzero = vz at *
  go_upto_region 2 with (refine wpList_store_mid rfl 55 _ _ rfl _ _ vi.toArray rfl rfl hN hi (all_oneCell_toArray h1c) ?_)
  go_name_world w2 hw2
  rw [show (w1.alloc (.cells vz.toArray 55)).setCells w1.heap.size 0 vi = w2 from hw2] at F
  obtain ⟨hF1, hF2, hF3, hF4⟩ := F
  rw [← hvi.out] at hF1
  have hB2 := hB1.trans (hF2.mono (by omega))
  have hD2 := there_below hD1 hF2 (by omega)
  have hX2 := range_below hX1 hF2 (by omega)
  have hGw2 := hG.below hB2
  have hR0 := run_new w2 w1.heap.size hGw2 (by omega) (by have := hG.2.2; omega) hF1 (there_part hF4 0 74 (by rw [← HZL.out]; simp))
  have HF3 : Hid (w2.heap.size = w1.heap.size + 1) := hF3
  clear hw2 hN hi h1c hz hF1 hF2 hF4 hB1 hD1 hGw2 hF3 hX1
  have hRw : w.heap.size + 1 < w1.heap.size := by omega
  have hRl : w1.heap.size < w2.heap.size := by rw [HF3.out]; omega
  generalize w1.heap.size = R at hR0 HF3 hRw hRl ⊢
  have hsl := slice_all (w := w2) Tryd.underlying24 isz8 w.heap.size 0 (by omega)
  have hRowD : RowAt w2 (some ⟨w.heap.size, 0, none⟩) d := ⟨by rw [hdl]; unfold maxLen; omega, hdo, Or.inr ⟨_, _, rfl, by omega, hX2⟩⟩
  have ca := add_any R init [] 0 (some ⟨w.heap.size, 0, none⟩) 32 d w2 hR0 hRowD (by omega) (by unfold maxLen; omega) (Or.inr (fun x hx => by cases hx; show w.heap.size ≠ R; omega)) (by omega)
  rw [hdl] at ca
  try simp only [Act.put]
  clear hX2 HF3
  go_wp2_with fail
  refine ca.mono ?_
  rintro e w3 ⟨rfl, hR3, hg3⟩
  clear ca hsl
  have hB3 : Below w.heap.size w w3 := hB2.grown hg3 hB2.size (fun j hj => by cases hj; omega)
  have hD3 := there_gb hD2 hg3 (by omega) (by omega)
  rw [Nat.zero_add] at hR3
  obtain ⟨s0, hs0⟩ : ∃ s0, Hid ((feeds (init, []) d).1 = s0) := ⟨_, rfl⟩
  obtain ⟨t0, ht0⟩ : ∃ t0, Hid ((feeds (init, []) d).2 = t0) := ⟨_, rfl⟩
  rw [hs0.out, ht0.out] at hR3
  have H0 : Hid (feeds (init, []) d = (s0, t0)) := by rw [← hs0.out, ← ht0.out]; rfl
  clear hs0 ht0 hR0 hB2 hD2 hg3 hRl
  have hF3 : True := trivial
  go_wp2_with fail
  go_loopw [13] (fun i wr => ∃ (k : Nat) (s : St) (wt : List Int) (N : Nat), k ≤ ps.length ∧ i = .int .i64 (k : Int) ∧ Hid (feeds (init, []) (d ++ cat (ps.take k)) = (s, wt)) ∧ Hid ((d ++ cat (ps.take k)).length = N) ∧ Run wr R s wt N ∧ Below w.heap.size w wr ∧ wr.there (w.heap.size + 1) 0 32) (fun i _ => ps.length - (intOf i).toNat)
  case atStart => exact ⟨0, s0, t0, 32, by omega, rfl, by simpa [cat] using H0, by show _ = _; simp [cat, hdl], hR3, hB3, hD3⟩
  case round =>
    clear hR3 hB3 hD3 hF3 hRowD H0
    obtain ⟨k, s, wt, N, hk, rfl, hfd, hN, hRun, hB, hD⟩ := hrel
    by_cases hlt : k < ps.length
    · obtain ⟨b, off, rfl, hbs, hrg⟩ : ∃ b off, a = some ⟨b, off, none⟩ ∧ b < w.heap.size ∧ w.rangeAt b off (ps.map Part.val) := by
        rcases h.2.2 with rfl | q
        · simp at hlt
        · exact q
      obtain ⟨pa, pc, pz, hp, hat⟩ : ∃ pa pc pz, Hid (ps[k] = ⟨pa, pc, pz⟩) ∧ (⟨pa, pc, pz⟩ : Part).at w := by
        have := h.2.1 ps[k] (List.getElem_mem hlt)
        exact ⟨ps[k].a, ps[k].cap, ps[k].zs, rfl, this⟩
      have hcell : wr.cell? ⟨b, off + k, none⟩ = some (.slice pa pz.length pc) := by
        rw [hB.cell (p := ⟨b, off + k, none⟩) hbs]
        refine hrg k _ ?_
        rw [List.getElem?_map, List.getElem?_eq_getElem hlt, hp.out]; rfl
      obtain ⟨hr, hpc, hpm⟩ := hat
      have hbe := hB.size
      have htot : N + pz.length ≤ 32 + (cat ps).length := by
        have := cat_take_le ps (k + 1)
        rw [cat_take_succ ps k hlt, List.length_append, hp.out] at this
        have q := hN.out
        rw [List.length_append, HDL.out] at q
        dsimp only at this
        omega
      have ca := add_any R s wt N pa pc pz wr hRun (hr.below hB) hpc hpm (by
        rcases hr.2.2 with q | ⟨b', o', hx', hb', _⟩
        · exact Or.inl q
        · exact Or.inr (fun x hx => by rw [show pa = some ⟨b', o', none⟩ from hx'] at hx; cases hx; show b' ≠ R; omega)) (by omega)
      have HS : Hid (feeds (init, []) (d ++ cat (ps.take (k + 1))) = feeds (s, wt) pz) := by
        show _ = _
        rw [cat_take_succ ps k hlt, ← List.append_assoc, feeds_append, hfd.out, hp.out]
      have HN : Hid ((d ++ cat (ps.take (k + 1))).length = N + pz.length) := by
        show _ = _
        rw [cat_take_succ ps k hlt, ← List.append_assoc, List.length_append, hN.out, hp.out]
      clear hp hr hfd hN hpm htot hpc
      go_wp2_with fail
      refine ca.mono ?_
      rintro e w3 ⟨rfl, hR3, hg3⟩
      clear ca
      go_wp2_with fail
      go_roundw
      case rel =>
        refine ⟨k + 1, _, _, _, by omega, by go_num, HS, HN, hR3, hB.grown hg3 hB.size (fun j hj => by cases hj; omega), there_gb hD hg3 (by have := hRun.lt; omega) (by omega)⟩
      case measure => simp [intOf]; omega
    · obtain rfl : k = ps.length := by omega
      rw [List.take_length] at hfd hN
      have hwt := feeds_len (d ++ cat ps) (init, []) (by simp)
      rw [hfd.out, hN.out] at hwt
      have ce := end_any R s wt N wr hRun (by simpa using hwt.1) (by have := hN.out; rw [List.length_append, HDL.out] at this; omega)
      have HR : Hid (Sha.bytes (feeds (s, wt) (Sha.tail N)).1 = sha (d ++ cat ps)) := by
        show _ = _
        unfold sha
        rw [feeds_append, hfd.out, hN.out]
      rw [HR.out] at ce
      have hsl : (v8 (sha (d ++ cat ps))).length = 32 := by rw [v8_length]; unfold sha; rw [bytes_out, outb_length]; rfl
      have h1c := v8_one (sha (d ++ cat ps))
      obtain ⟨cs, hcs⟩ : ∃ cs, Hid (v8 (sha (d ++ cat ps)) = cs) := ⟨_, rfl⟩
      rw [hcs.out] at ce hsl h1c
      clear HR hwt hN hfd
      go_wp2_with fail
      refine ce.mono ?_
      rintro e w3 ⟨rfl, hg3⟩
      clear ce
      have hD3 := there_gb hD hg3 (by have := hRun.lt; omega) (by omega)
      have hB3 : Below w.heap.size w w3 := hB.grown hg3 hB.size (fun j hj => by cases hj; omega)
      have hi : (Tryd.prog.info? 24).map (·.size) = some cs.toArray.size := by rw [List.size_toArray, hsl]; exact isz24
      have hsz : cs.toArray.size = 32 := by rw [List.size_toArray, hsl]
      have hD4 : w3.there (w.heap.size + 1) 0 cs.toArray.size := by rw [hsz]; exact hD3
      go_wp2_with (refine wpList_store_mid rfl 24 _ _ rfl _ _ cs.toArray rfl rfl hD4 hi (all_oneCell_toArray h1c) ?_)
      have hRr := World.rangeAt_setCells_same w3 (w.heap.size + 1) 0 cs (by rw [hsl]; exact hD3)
      have hBl := below_sets (show w.heap.size ≤ w.heap.size + 1 by omega) cs 0 w3 hB3
      have hrs := run_loadVar_mid (P := Tryd.prog) (w3.setCells (w.heap.size + 1) 0 cs) (w.heap.size + 1) 0 24 cs _ hRr Tryd.underlying24 rfl (by rw [hsl]; exact isz24)
      refine bodyPost_ret (v := .agg cs.toArray) (by simp [results, Tryd.results13, Act.put, asAddr, hrs]) rfl ⟨by rw [hcs.out], hBl⟩
set_option maxRecDepth 20000 in
set_option maxHeartbeats 2000000 in
theorem refChain_any (d : List Int) (a : Option Addr) (cap : Nat) (zs : List Int) (w : World) (hdl : d.length = 32) (hdo : ∀ z ∈ d, 0 ≤ z ∧ z < 256) (h : RowAt w a zs) (hl : zs.length ≤ 900000) :
   Calls Tryd.prog 14 #[.agg (v8 d).toArray, .slice a zs.length cap] w fun e w' => e = .returned (.agg (v8 (sha (d ++ zs))).toArray) ∧ Below w.heap.size w w' := by
  obtain ⟨m, hm⟩ : ∃ m, Hid (sha (d ++ zs) = m) := ⟨_, rfl⟩
  have hml : m.length = 32 := by rw [← hm.out]; exact sha_length _
  rw [hm.out]
  obtain ⟨cd, hcd⟩ : ∃ cd, Hid (v8 d = cd) := ⟨_, rfl⟩
  have hcl : cd.length = 32 := by rw [← hcd.out, v8_length, hdl]
  have cby := fun w => bytes_any d w hdl
  have HX0 : Hid (((w.alloc (.cells cd.toArray 24)).alloc (.cells (Array.replicate 32 (.int .u8 0)) 24)).rangeAt w.heap.size 0 cd) := by
    show World.rangeAt _ _ _ _
    have := World.rangeAt_alloc (box_range w d 24) (.cells (Array.replicate 32 (.int .u8 0)) 24)
    rw [hcd.out] at this
    exact this
  rw [hcd.out]
  simp only [hcd.out] at cby
  go_enter Tryd.func14, Tryd.ntmps14
  go_upto_region 1 with fail
  go_name_world w1 hw1
  obtain ⟨hB1, hX1, hT1, hs1⟩ : Below w.heap.size w w1 ∧ w1.rangeAt w.heap.size 0 cd ∧ w1.there (w.heap.size + 1) 0 32 ∧ w.heap.size + 1 < w1.heap.size := by
    have e : (w.alloc (.cells cd.toArray 24)).alloc (.cells (Array.replicate 32 (.int .u8 0)) 24) = w1 := hw1
    have hT := (new_bytes (w.alloc (.cells cd.toArray 24)) 32 24).2
    simp only [World.size_alloc] at hT
    have hX := HX0.out
    rw [e] at hT hX
    exact ⟨by rw [← e]; exact ((Below.refl _ _).alloc (Nat.le_refl _) _).alloc (by simp) _, hX, hT, by rw [← e]; simp⟩
  clear hw1 HX0
  have hld : (Tryd.prog.info? 24).map (·.size) = some cd.length := by rw [hcl]; exact isz24
  refine wp_region_list ?_
  refine wpList_load_mid rfl 24 _ rfl _ _ rfl cd _ hX1 Tryd.underlying24 rfl hld ?_
  go_wp2_with fail
  refine (cby _).mono ?_
  rintro e w2 ⟨v2, rfl, hown2, hw2⟩
  clear cby hld hX1
  have hB2 := hB1.trans (hw2.mono hB1.size)
  have hT2 := there_below hT1 hw2 (by omega)
  have hs2 := hw2.size
  rw [← hcd.out] at hown2
  obtain ⟨i0, hi, hz0, hz1, hz2⟩ := info_parts info8
  have hsrc := (h.below hB2).src cap
  go_wp2_with (at_builtin; refine wpList_append_own_src _ rfl _ _ 27 27 rfl w1.heap.size 5 i0 (.int .u8 0) 1 1 Tryd.underlying27 hi hz0 hz1 hz2 rfl _ d.length _ rfl hown2 _ zs.length _ rfl hsrc ?c1 ?c2 ?c3 ?_)
  case c1 => unfold maxLen; omega
  case c2 => omega
  case c3 => exact hs2
  intro v3 w3 hown3 hgr3
  have hB3a : Below w1.heap.size w2 w3 := (Below.refl _ _).grown hgr3 hs2 (own_low hown2)
  have hB3 := hB2.trans (hB3a.mono hB1.size)
  have hT3 := there_below hT2 hB3a (by omega)
  have e12 : 32 + zs.length = (d ++ zs).length := by rw [List.length_append, hdl]
  have hown3' : w3.ownsRow w1.heap.size 5 1 v3 (d ++ zs).length (v8 (d ++ zs)) := by rw [v8_append, List.length_append]; exact (by simpa [hdl] using hown3)
  obtain ⟨a3, cap3, rfl, _, _, hrow3⟩ := own_bytes hown3' (fun z hz' => by
    rcases List.mem_append.1 hz' with q | q
    · exact hdo z q
    · exact h.2.1 z q) (by rw [List.length_append]; unfold maxLen; omega)
  have c4 := refSum_any a3 cap3 (d ++ zs) w3 hrow3 (by rw [List.length_append]; omega)
  rw [hm.out] at c4
  have hs3 := hB3a.size
  clear hown3 hown3' hgr3 hrow3 hsrc hi hz0 hz1 hz2 hown2 e12
  generalize (d ++ zs).length = n3 at *
  go_wp2_with fail
  refine c4.mono ?_
  rintro e w4 ⟨rfl, hw4⟩
  clear c4
  have hB4 := hB3.trans (hw4.mono hB3.size)
  have hT4 := there_below hT3 hw4 (by omega)
  have hT4' : w4.there (w.heap.size + 1) 0 (v8 m).toArray.size := by
    have e : (v8 m).toArray.size = 32 := by rw [List.size_toArray, v8_length, hml]
    rw [e]; exact hT4
  have him := info24 m hml
  have h1c := all_oneCell_toArray (v8_one m)
  go_wp2_with (refine wpList_store_mid (op := ⟨none, .store 24 (.tmp 4) (.tmp 9), _, _, _, none⟩) rfl 24 _ _ rfl _ _ (v8 m).toArray rfl rfl hT4' him h1c ?_)
  have hRr := World.rangeAt_setCells_same w4 (w.heap.size + 1) 0 (v8 m) (by rw [v8_length, hml]; exact hT4)
  have hBl := below_sets (show w.heap.size ≤ w.heap.size + 1 by omega) (v8 m) 0 w4 hB4
  have hrs := run_loadVar_mid (P := Tryd.prog) (w4.setCells (w.heap.size + 1) 0 (v8 m)) (w.heap.size + 1) 0 24 (v8 m) _ hRr Tryd.underlying24 rfl (by simpa using him)
  refine bodyPost_ret (v := .agg (v8 m).toArray) (by simp [results, Tryd.results14, Act.put, asAddr, hrs]) rfl ⟨rfl, hBl⟩
end Go.Proofs.YtkadfmbpajbkiaaDoor
