/- the document's Keys: key, Sign, Check, Derive: contracts -/
import Derived.Test.YtbfhpgneaklgoaaDoorDerive
import Derived.Test.YtbfhpgneaklgoaaDoorKCheck
import Derived.Test.YtbfhpgneaklgoaaDoorTRef
namespace Go.Proofs.YtbfhpgneaklgoaaDoor
open Go.RowKit
open Sha Tal
set_option maxRecDepth 20000 in
set_option maxHeartbeats 1000000 in
theorem refKey_any (seed : ByteArray) (N : Int) (k : Nat) (w : World) (hs : seed.size ≤ 100000) (hk : k ≤ 100000) :
    Calls Tryd.prog 51 #[.agg #[.string seed, .int .i64 N], .int .i64 (k : Int)] w fun e w' => ∃ v, e = .returned v ∧ w'.ownsRow w.heap.size 5 1 v (keyOf seed k).length (v8 (keyOf seed k)) ∧ Below w.heap.size w w' := by
  have hB0 : Below w.heap.size w (w.alloc (.cells #[.string seed, .int .i64 N] 27)) := (Below.refl _ _).alloc (Nat.le_refl _) _
  have c1 := refPutText_any none 0 [] seed (w.alloc (.cells #[.string seed, .int .i64 N] 27)) (nil_row _) (by simp) (by omega)
  rw [List.nil_append] at c1
  have htl : (textL seed).length ≤ 100009 := by
    unfold textL
    have h1 := putL_length (seed.size : Int) (by omega)
    rw [List.length_append, strL_length]; omega
  have hpl := putL_length (k : Int) (by omega)
  have HK : Hid (keyOf seed k = sha (textL seed ++ putL (k : Int))) := rfl
  obtain ⟨d, hd⟩ : ∃ d, Hid (keyOf seed k = d) := ⟨_, hide rfl⟩
  have hdl : d.length = 32 := by rw [← hd.out]; exact keyOf_length _ _
  rw [hd.out] at HK ⊢
  generalize textL seed = ts at *
  go_enter Tryd.func51, Tryd.ntmps51
  go_wp2_with fail
  refine c1.mono ?_
  rintro e w1 ⟨v1, rfl, hM1, hw1⟩
  clear c1
  have hB1 := hB0.trans (hw1.mono hB0.size)
  obtain ⟨a1, cap1, rfl, _, _, hrow1⟩ := hM1.rowAt (by unfold maxLen; omega)
  clear hM1
  have c2 := refPut_any a1 cap1 ts (k : Int) w1 hrow1 (by omega) (by omega)
  go_wp2_with fail
  refine c2.mono ?_
  rintro e w2 ⟨v2, rfl, hM2, hw2⟩
  clear c2
  have hB2 := hB1.trans (hw2.mono hB1.size)
  obtain ⟨a2, cap2, rfl, _, _, hrow2⟩ := hM2.rowAt (by rw [List.length_append]; unfold maxLen; omega)
  clear hM2
  have c3 := refSum_any a2 cap2 (ts ++ putL (k : Int)) w2 hrow2 (by rw [List.length_append]; omega)
  rw [← HK.out] at c3
  generalize (ts ++ putL (k : Int)).length = n2 at *
  go_wp2_with fail
  refine c3.mono ?_
  rintro e w3 ⟨rfl, hw3⟩
  clear c3
  have hB3 := hB2.trans (hw3.mono hB2.size)
  go_wp2_with fail
  refine (bytes_any d w3 hdl).mono ?_
  rintro e w4 ⟨v4, rfl, hown4, hw4⟩
  have hB4 := hB3.trans (hw4.mono hB3.size)
  go_wp2
  go_ret
  exact ⟨_, rfl, owns_mono hown4 hB3.size, hB4⟩
/-- what the document's Sign answers -/
def refSignOf (seed : ByteArray) (N id : Int) (body : ByteArray) : List Int × Int :=
  if id < 0 ∨ N ≤ id then (zeros16, 2) else ((mac (keyOf seed id.toNat) (strL body)).take 16, 0)
theorem refSignOf_length (seed : ByteArray) (N id : Int) (body : ByteArray) : (refSignOf seed N id body).1.length = 16 := by
  unfold refSignOf
  split
  · rfl
  · simp [mac_length]
/-- the keys that Derive makes sign as the document says -/
theorem sign_same (seed : ByteArray) (n : Nat) (hn : 1 ≤ n) (id : Int) (body : ByteArray) : signOf (keysOf seed n) id body = refSignOf seed n id body := by
  unfold signOf refSignOf
  have h0 : keysOf seed n ≠ [] := fun h => by have := keysOf_length seed n; rw [h] at this; simp at this; omega
  rw [if_neg h0, keysOf_length]
  by_cases h : id < 0 ∨ (n : Int) ≤ id
  · rw [if_pos h, if_pos h]
  · rw [if_neg h, if_neg h, keysOf_getD seed n id.toNat (by omega)]
set_option maxRecDepth 20000 in
set_option maxHeartbeats 1000000 in
theorem refSign_any (seed : ByteArray) (N id : Int) (body : ByteArray) (w : World) (hs : seed.size ≤ 100000) (hN : N ≤ 100000) (hb : body.size ≤ 100000) :
    Calls Tryd.prog 39 #[.agg #[.string seed, .int .i64 N], .int .i64 id, .string body] w fun e w' => e = .returned (.tuple #[.agg (v8 (refSignOf seed N id body).1).toArray, .int .i64 (refSignOf seed N id body).2]) ∧ Below w.heap.size w w' := by
  go_enter Tryd.func39, Tryd.ntmps39
  go_upto_region 2 with fail
  go_name_world w1 hw1'
  have hw1 : ((w.alloc (.cells #[.string seed, .int .i64 N] 27)).alloc (.cells (Array.replicate 16 (.int .u8 0)) 38)).alloc (.cells (Array.replicate 16 (.int .u8 0)) 38) = w1 := hw1'
  have hB1 : Below w.heap.size w w1 := by rw [← hw1]; exact (((Below.refl _ _).alloc (Nat.le_refl _) _).alloc (by simp) _).alloc (by simp; omega) _
  have hs1 : w.heap.size + 2 < w1.heap.size := by rw [← hw1]; simp
  have hT1 : w1.there (w.heap.size + 1) 0 16 := by
    rw [← hw1]
    have := World.there_alloc (new_bytes (w.alloc (.cells #[.string seed, .int .i64 N] 27)) 16 38).2 (.cells (Array.replicate 16 (.int .u8 0)) 38)
    simpa using this
  have hT2 : w1.there (w.heap.size + 2) 0 16 ∧ w1.rangeAt (w.heap.size + 2) 0 (v8 zeros16) := by
    rw [← hw1]
    have := new_bytes ((w.alloc (.cells #[.string seed, .int .i64 N] 27)).alloc (.cells (Array.replicate 16 (.int .u8 0)) 38)) 16 38
    simp only [World.size_alloc] at this
    exact ⟨this.2, this.1⟩
  have hc0 : w1.cell? ⟨w.heap.size, 0, none⟩ = some (.string seed) ∧ w1.cell? ⟨w.heap.size, 1, none⟩ = some (.int .i64 N) := by
    have h0 := range_new w #[.string seed, .int .i64 N] 27
    have hb : Below (w.heap.size + 1) (w.alloc (.cells #[.string seed, .int .i64 N] 27)) w1 := by
      rw [← hw1]; exact ((Below.refl _ _).alloc (by simp) _).alloc (by simp) _
    have h1 := range_below h0 hb (by omega)
    exact ⟨h1 0 _ rfl, h1 1 _ rfl⟩
  obtain ⟨hc0, hc1⟩ := hc0
  clear hw1 hw1'
  by_cases h1 : id < 0 ∨ N ≤ id
  · have HS : Hid (refSignOf seed N id body = (zeros16, 2)) := by show _ = _; simp [refSignOf, h1]
    have hl16 : (Tryd.prog.info? 38).map (·.size) = some (v8 zeros16).length := by simpa using info16 zeros16 rfl
    have hT1' : w1.there (w.heap.size + 1) 0 (v8 zeros16).toArray.size := hT1
    have h1t := all_oneCell_toArray (v8_one zeros16)
    have hit := info16 zeros16 rfl
    have hRr := World.rangeAt_setCells_same w1 (w.heap.size + 1) 0 (v8 zeros16) hT1
    have hBl := below_sets (show w.heap.size ≤ w.heap.size + 1 by omega) (v8 zeros16) 0 w1 hB1
    have hrs := load16 (t := zeros16) rfl hRr
    by_cases h0 : id < 0
    · clear h1
      go_upto_region 3 with fail
      refine wp_region_list ?_
      refine wpList_load_mid rfl 38 _ rfl _ _ rfl (v8 zeros16) _ hT2.2 Tryd.underlying38 rfl hl16 ?_
      refine wpList_store_mid rfl 38 _ _ rfl _ _ (v8 zeros16).toArray rfl rfl hT1' hit h1t ?_
      generalize w1.setCells (w.heap.size + 1) 0 (v8 zeros16) = w9 at *
      go_wp2
      exact bodyPost_ret (v := .tuple #[.agg (v8 zeros16).toArray, .int .i64 2]) (by simp [results, Tryd.results39, asAddr, hrs]) rfl ⟨by rw [HS.out], hBl⟩
    · have h2 : N ≤ id := by omega
      clear h1
      go_upto_region 3 with fail
      refine wp_region_list ?_
      refine wpList_load_mid rfl 38 _ rfl _ _ rfl (v8 zeros16) _ hT2.2 Tryd.underlying38 rfl hl16 ?_
      refine wpList_store_mid rfl 38 _ _ rfl _ _ (v8 zeros16).toArray rfl rfl hT1' hit h1t ?_
      generalize w1.setCells (w.heap.size + 1) 0 (v8 zeros16) = w9 at *
      go_wp2
      exact bodyPost_ret (v := .tuple #[.agg (v8 zeros16).toArray, .int .i64 2]) (by simp [results, Tryd.results39, asAddr, hrs]) rfl ⟨by rw [HS.out], hBl⟩
  · obtain ⟨k, rfl⟩ := Int.eq_ofNat_of_zero_le (show 0 ≤ id by omega)
    have h2 : (k : Int) < N := by omega
    have h0 : ¬ (k : Int) < 0 := by omega
    have HS : Hid (refSignOf seed N (k : Int) body = ((mac (keyOf seed k) (strL body)).take 16, 0)) := by
      show _ = _
      rw [refSignOf, if_neg h1, Int.toNat_natCast]
    clear h1
    have ck := refKey_any seed N k w1 hs (by omega)
    obtain ⟨d, hd⟩ : ∃ d, Hid (keyOf seed k = d) := ⟨_, hide rfl⟩
    have hdl : d.length = 32 := by rw [← hd.out]; exact keyOf_length _ _
    have hdo : ∀ z ∈ d, 0 ≤ z ∧ z < 256 := by rw [← hd.out]; exact keyOf_ok _ _
    rw [hd.out] at ck HS
    go_wp2_with fail
    refine ck.mono ?_
    rintro e w2 ⟨v2, rfl, hown2, hw2⟩
    clear ck
    have hB2 := hB1.trans (hw2.mono hB1.size)
    have hs2 := hw2.size
    obtain ⟨a2, cap2, rfl, _, _, hrow2⟩ := own_bytes hown2 hdo (by rw [hdl]; unfold maxLen; omega)
    clear hown2
    obtain ⟨cap3, w3, hcv, hrow3, hc3a, hc3b, hw3, hs3⟩ := str_bytes body w2 (by omega)
    have hB3 := hB2.trans (hw3.mono hB2.size)
    have cm := refMac_any a2 cap2 d (some ⟨w2.heap.size, 0, none⟩) cap3 (strL body) w3 (hrow2.below hw3) (by omega) hrow3 (by rw [strL_length]; omega)
    rw [strL_length, hdl] at cm
    rw [hdl]
    obtain ⟨m, hm⟩ : ∃ m, Hid (mac d (strL body) = m) := ⟨_, hide rfl⟩
    have hml : m.length = 32 := by rw [← hm.out]; exact mac_length _ _
    rw [hm.out] at cm HS
    clear hrow2 hrow3
    go_wp2_with fail
    refine cm.mono ?_
    rintro e w4 ⟨rfl, hw4⟩
    clear cm hcv
    have hB4 := hB3.trans (hw4.mono hB3.size)
    have hW4 := hw2.trans ((hw3.trans (hw4.mono hw3.size)).mono hw2.size)
    have hs4 := hw4.size
    have hT14 := there_below hT1 hW4 (by omega)
    have hT24 := there_below hT2.1 hW4 (by omega)
    have hR24 := range_below hT2.2 hW4 (by omega)
    have F := fresh_store w4 (Array.replicate 32 (.int .u8 0)) 54 (v8 m) (by rw [v8_length, hml]; rfl)
    have hN := there24 w4 m hml
    have hi := info24 m hml
    have h1c := all_oneCell_toArray (v8_one m)
    go_upto_region 5 with (refine wpList_store_mid (op := ⟨none, .store 54 (.tmp 9) (.tmp 25), _, _, _, none⟩) rfl 54 _ _ rfl _ _ (v8 m).toArray rfl rfl hN hi h1c ?_)
    go_name_world w5 hw5
    rw [show (w4.alloc (.cells (Array.replicate 32 (.int .u8 0)) 54)).setCells w4.heap.size 0 (v8 m) = w5 from hw5] at F
    obtain ⟨hR5, hB5', hz5', _⟩ := F
    have hz5 : w4.heap.size < w5.heap.size := by omega
    have hB5 := hB4.trans (hB5'.mono hB4.size)
    have hT15 := there_below hT14 hB5' (by omega)
    have hT25 := there_below hT24 hB5' (by omega)
    have hR25 := range_below hR24 hB5' (by omega)
    obtain ⟨E, hE⟩ : ∃ E, w4.heap.size = E := ⟨_, rfl⟩
    rw [hE] at hR5 hz5 ⊢
    have hEl : w.heap.size + 2 < E := by omega
    clear hz5' hw5 hN hi h1c hw4 hw3 hw2 hB5' hE hW4 hT14 hT24 hR24 hB4 hB3 hB2 hs4 hs3 hs2 hc0 hc1 hT1 hT2 hs1 hB1
    try simp only [Act.put]
    go_wp2_with fail
    go_loopw [10] (fun i wr => ∃ j : Nat, j ≤ 16 ∧ i = .int .i64 (j : Int) ∧ wr.rangeAt E 0 (v8 m) ∧ wr.rangeAt (w.heap.size + 2) 0 (v8 (m.take j ++ zeros16.drop j)) ∧ wr.there (w.heap.size + 2) 0 16 ∧ wr.there (w.heap.size + 1) 0 16 ∧ Below w.heap.size w wr) (fun i _ => 16 - (intOf i).toNat)
    case atStart => exact ⟨0, by omega, rfl, hR5, by simpa using hR25, hT25, hT15, hB5⟩
    case round =>
      clear hR5 hR25 hT25 hT15 hB5
      obtain ⟨j, hj, rfl, hRm, hRt, hTt, hTr, hB⟩ := hrel
      by_cases hlt : j < 16
      · have hjm : j < m.length := by omega
        obtain ⟨z, hz⟩ : ∃ z, Hid (m.getD j 0 = z) := ⟨_, hide rfl⟩
        have hcm := get8 hRm hjm
        rw [Nat.zero_add, hz.out] at hcm
        obtain ⟨u, hcu⟩ := Option.isSome_iff_exists.1 (hTt j hlt).1
        have hfu := (hTt j hlt).2
        rw [Nat.zero_add] at hcu hfu
        go_wp2_with fail
        go_roundw
        case rel =>
          refine ⟨j + 1, by omega, by go_num, range_other hRm _ _ (fun h => by simp at h; omega), ?_, there_set hTt _ _, there_set hTr _ _, hB.setCell (p := ⟨w.heap.size + 2, j, none⟩) (by simp) _⟩
          have := range_set hRt j (.int .u8 z)
          rw [Nat.zero_add, v8_set] at this
          have e1 : (m.take j ++ zeros16.drop j).set j z = m.take (j + 1) ++ zeros16.drop (j + 1) := by
            have hl : (m.take j).length = j := List.length_take_of_le (by omega)
            have hzl : j < zeros16.length := hlt
            rw [List.set_append_right _ _ (by omega), hl, Nat.sub_self, List.drop_eq_getElem_cons hzl, List.set_cons_zero, List.take_succ_eq_append_getElem hjm, ← hz.out, List.getD_eq_getElem?_getD, List.getElem?_eq_getElem hjm, List.append_assoc]
            rfl
          rw [e1] at this
          exact this
        case measure => simp [intOf]; omega
      · have hj16 : j = 16 := by omega
        subst hj16
        obtain ⟨t, ht⟩ : ∃ t, Hid (m.take 16 = t) := ⟨_, hide rfl⟩
        have htl : t.length = 16 := by rw [← ht.out, List.length_take]; omega
        have hRt' : wr.rangeAt (w.heap.size + 2) 0 (v8 t) := by
          have e : m.take 16 ++ zeros16.drop 16 = t := by rw [ht.out]; simp [zeros16]
          rw [e] at hRt; exact hRt
        rw [ht.out] at HS
        have hl16 : (Tryd.prog.info? 38).map (·.size) = some (v8 t).length := by simpa using info16 t htl
        have hTr' : wr.there (w.heap.size + 1) 0 (v8 t).toArray.size := by
          have e : (v8 t).toArray.size = 16 := by rw [List.size_toArray, v8_length, htl]
          rw [e]; exact hTr
        have h1t := all_oneCell_toArray (v8_one t)
        have hit := info16 t htl
        have hRr := World.rangeAt_setCells_same wr (w.heap.size + 1) 0 (v8 t) (by rw [v8_length, htl]; exact hTr)
        have hBl := below_sets (show w.heap.size ≤ w.heap.size + 1 by omega) (v8 t) 0 wr hB
        have hrs := load16 htl hRr
        clear hRt
        go_upto_region 9 with fail
        refine wp_region_list ?_
        refine wpList_load_mid rfl 38 _ rfl _ _ rfl (v8 t) _ hRt' Tryd.underlying38 rfl hl16 ?_
        refine wpList_store_mid rfl 38 _ _ rfl _ _ (v8 t).toArray rfl rfl hTr' hit h1t ?_
        generalize wr.setCells (w.heap.size + 1) 0 (v8 t) = w9 at *
        go_wp2
        exact bodyPost_ret (v := .tuple #[.agg (v8 t).toArray, .int .i64 0]) (by simp [results, Tryd.results39, asAddr, hrs]) rfl ⟨by rw [HS.out], hBl⟩
set_option maxRecDepth 20000 in
set_option maxHeartbeats 1000000 in
theorem refCheck_any (seed : ByteArray) (N id : Int) (body : ByteArray) (t : List Int) (w : World) (hs : seed.size ≤ 100000) (hN : N ≤ 100000) (hb : body.size ≤ 100000) (ht : t.length = 16) :
    Calls Tryd.prog 23 #[.agg #[.string seed, .int .i64 N], .int .i64 id, .string body, .agg (v8 t).toArray] w fun e w' => e = .returned (.bool (checkOf (refSignOf seed N id body) t)) ∧ Below w.heap.size w w' := by
  obtain ⟨ct, hct⟩ : ∃ ct, Hid (v8 t = ct) := ⟨_, hide rfl⟩
  have hcl : ct.length = 16 := by rw [← hct.out, v8_length, ht]
  have hl := refSignOf_length seed N id body
  have cs := fun w => refSign_any seed N id body w hs hN hb
  unfold checkOf
  obtain ⟨r, hr⟩ : ∃ r, Hid ((refSignOf seed N id body).1 = r) := ⟨_, hide rfl⟩
  obtain ⟨x, hx⟩ : ∃ x, Hid ((refSignOf seed N id body).2 = x) := ⟨_, hide rfl⟩
  rw [hr.out] at hl ⊢
  rw [hx.out]
  simp only [hr.out, hx.out] at cs
  have heq := eql16 r t hl ht
  have HB0 : Hid (Below w.heap.size w ((w.alloc (.cells #[.string seed, .int .i64 N] 27)).alloc (.cells (v8 t).toArray 38))) := ((Below.refl _ _).alloc (Nat.le_refl _) _).alloc (by simp) _
  have HR0 : Hid (((w.alloc (.cells #[.string seed, .int .i64 N] 27)).alloc (.cells (v8 t).toArray 38)).rangeAt (w.heap.size + 1) 0 (v8 t)) := by
    have := box_range (w.alloc (.cells #[.string seed, .int .i64 N] 27)) t 38
    simp only [World.size_alloc] at this
    exact this
  rw [hct.out] at HB0 HR0 heq ⊢
  go_enter Tryd.func23, Tryd.ntmps23
  go_wp2_with fail
  refine (cs _).mono ?_
  rintro e w1 ⟨rfl, hw1⟩
  clear cs
  have hB0 := HB0.out
  have hB1 := hB0.trans (hw1.mono hB0.size)
  have hs1 := hw1.size
  simp only [World.size_alloc] at hs1
  have hR1 := range_below HR0.out hw1 (by simp)
  clear hB0
  have F := fresh_store w1 (Array.replicate 16 (.int .u8 0)) 38 (v8 r) (by rw [v8_length, hl]; rfl)
  have hN' : (w1.alloc (.cells (Array.replicate 16 (.int .u8 0)) 38)).there w1.heap.size 0 (v8 r).toArray.size := by
    have e : (v8 r).toArray.size = 16 := by rw [List.size_toArray, v8_length, hl]
    rw [e]; exact (new_bytes w1 16 38).2
  have hi := info16 r hl
  have h1c := all_oneCell_toArray (v8_one r)
  go_upto_region 2 with (refine wpList_store_mid (op := ⟨none, .store 38 (.tmp 9) (.tmp 16), _, _, _, none⟩) rfl 38 _ _ rfl _ _ (v8 r).toArray rfl rfl hN' hi h1c ?_)
  go_name_world w4 hw4
  rw [show (w1.alloc (.cells (Array.replicate 16 (.int .u8 0)) 38)).setCells w1.heap.size 0 (v8 r) = w4 from hw4] at F
  obtain ⟨hR4, hB4', hz4', _⟩ := F
  clear hz4' hw4 hN' h1c hw1
  have hB4 := hB1.trans (hB4'.mono hB1.size)
  have hR1' := range_below hR1 hB4' (by omega)
  have hl16 : (Tryd.prog.info? 38).map (·.size) = some (v8 r).length := by simpa using hi
  have hl16' : (Tryd.prog.info? 38).map (·.size) = some ct.length := by rw [hcl]; exact iszT
  try simp only [Act.put]
  clear hi hR1 hB4' hct HR0 HB0
  by_cases hx0 : x = 0
  · subst hx0
    refine wp_region_list ?_
    refine wpList_plain rfl fun K hK => ?_
    go_simp
    refine hK _ _ ?_
    clear hK K
    refine wpList_plain rfl fun K hK => ?_
    go_simp
    refine hK _ _ ?_
    clear hK K
    refine wpList_plain rfl fun K hK => ?_
    go_simp
    refine hK _ _ ?_
    clear hK K
    refine wpList_load_g (by rfl) 38 _ rfl _ _ rfl (v8 r) _ hR4 Tryd.underlying38 rfl hl16 ?_
    refine wpList_load_g (by rfl) 38 _ rfl _ _ rfl ct _ hR1' Tryd.underlying38 rfl hl16' ?_
    go_wp2
    go_ret
    exact ⟨by simp, hB4⟩
  · have hx1 : (x == 0) = false := by simpa using hx0
    go_wp2
    go_ret
    exact ⟨by simp [hx0], hB4⟩
theorem refDerive_no (seed : ByteArray) (n : Int) (w : World) (h : n < 1 ∨ 4096 < n ∨ 64 < seed.size) :
    Calls Tryd.prog 7 #[.string seed, .int .i64 n] w fun e w' => e = .returned (.tuple #[.agg #[.string ⟨#[]⟩, .int .i64 0], .bool false]) ∧ Below w.heap.size w w' := by
  by_cases h1 : n < 1
  · go_enter Tryd.func7, Tryd.ntmps7
    go_wp2
    exact bodyPost_ret (v := .tuple #[.agg #[.string ⟨#[]⟩, .int .i64 0], .bool false]) (by simp [results, Tryd.results7, go_sem]) rfl ⟨rfl, (Below.refl _ _).alloc (Nat.le_refl _) _⟩
  · by_cases h2 : 4096 < n
    · go_enter Tryd.func7, Tryd.ntmps7
      go_wp2
      exact bodyPost_ret (v := .tuple #[.agg #[.string ⟨#[]⟩, .int .i64 0], .bool false]) (by simp [results, Tryd.results7, go_sem]) rfl ⟨rfl, (Below.refl _ _).alloc (Nat.le_refl _) _⟩
    · have h3 : (64 : Int) < seed.size := by omega
      go_enter Tryd.func7, Tryd.ntmps7
      go_wp2
      exact bodyPost_ret (v := .tuple #[.agg #[.string ⟨#[]⟩, .int .i64 0], .bool false]) (by simp [results, Tryd.results7, go_sem]) rfl ⟨rfl, (Below.refl _ _).alloc (Nat.le_refl _) _⟩
theorem refDerive_yes (seed : ByteArray) (n : Int) (w : World) (h1 : ¬ n < 1) (h2 : ¬ 4096 < n) (h3 : seed.size ≤ 64) :
    Calls Tryd.prog 7 #[.string seed, .int .i64 n] w fun e w' => e = .returned (.tuple #[.agg #[.string seed, .int .i64 n], .bool true]) ∧ Below w.heap.size w w' := by
  have h3' : ¬ (64 : Int) < seed.size := by omega
  go_enter Tryd.func7, Tryd.ntmps7
  go_wp2
  exact bodyPost_ret (v := .tuple #[.agg #[.string seed, .int .i64 n], .bool true]) (by simp [results, Tryd.results7, go_sem]) rfl ⟨rfl, (Below.refl _ _).alloc (Nat.le_refl _) _⟩
end Go.Proofs.YtbfhpgneaklgoaaDoor
