/- seal.Keys: Len, Sign, Check: contracts -/
import Derived.Test.YtbfhpgneaklgoaaDoorMac
import Derived.Test.YtbfhpgneaklgoaaDoorTText
import Derived.Test.YtbfhpgneaklgoaaDoorEql
import Derived.Laws.IdiomStrings
namespace Go.Proofs.YtbfhpgneaklgoaaDoor
open Go.RowKit
open Sha Tal
theorem hide {p : Prop} (h : p) : Hid p := h
theorem iszT : (Tryd.prog.info? 38).map (·.size) = some 16 := by kernel_rfl
/-- a string's bytes, laid anew -/
theorem str_bytes (s : ByteArray) (w : World) (hs : s.size ≤ 1000000) : ∃ cap w', (convert 9 51 (.string s)).run Tryd.prog w = .ok (.slice (some ⟨w.heap.size, 0, none⟩) s.size cap) w' ∧ RowAt w' (some ⟨w.heap.size, 0, none⟩) (strL s) ∧ s.size ≤ cap ∧ cap ≤ maxLen ∧ Below w.heap.size w w' ∧ w.heap.size < w'.heap.size := by
  refine ⟨_, _, run_bytes_of_string w 9 51 5 s Tryd.underlying9 Tryd.underlying51 Tryd.underlying5, ?_, grownCap_ge _ _ _ _, grownCap_le_maxLen _ _ _ _ (by unfold maxLen; omega), ((Below.refl _ _).drew).alloc (Nat.le_refl _) _, by simp⟩
  refine ⟨by rw [strL_length]; unfold maxLen; omega, strL_byte s, Or.inr ⟨_, 0, rfl, by simp, ?_⟩⟩
  have := range_mark w.drew (bytesRow s (grownCap w s.size 0 5)) 5 ((bytesRow s (grownCap w s.size 0 5)).size, (bytesRow s (grownCap w s.size 0 5)).size + 1)
  have e : (bytesRow s (grownCap w s.size 0 5)).toList = v8 (strL s) ++ List.replicate (grownCap w s.size 0 5 - s.size) (.int .u8 0) := by
    simp [bytesRow, v8, strL]
  rw [e] at this
  exact range_left this
/-- keys in memory: nil, or a struct that leads to a row of digests -/
def KeysAt (w : World) (p : Option Addr) (ds : List (List Int)) : Prop :=
  (p = none ∧ ds = []) ∨ ∃ K a cap, p = some ⟨K, 0, none⟩ ∧ K < w.heap.size ∧ w.cell? ⟨K, 0, none⟩ = some (.slice a ds.length cap) ∧ ds.length ≤ 4096 ∧ (∀ d ∈ ds, d.length = 32 ∧ ∀ z ∈ d, 0 ≤ z ∧ z < 256) ∧
    (ds = [] ∨ ∃ D, a = some ⟨D, 0, none⟩ ∧ D < w.heap.size ∧ ∀ i d, ds[i]? = some d → w.rangeAt D (i * 32) (v8 d))
theorem KeysAt.below {w w' : World} {p : Option Addr} {ds : List (List Int)} (h : KeysAt w p ds) (hb : Below w.heap.size w w') : KeysAt w' p ds := by
  rcases h with h | ⟨K, a, cap, rfl, hK, hc, hl, hd, hr⟩
  · exact .inl h
  · refine .inr ⟨K, a, cap, rfl, Nat.lt_of_lt_of_le hK hb.size, (hb.cell (p := ⟨K, 0, none⟩) hK).trans hc, hl, hd, ?_⟩
    rcases hr with hr | ⟨D, rfl, hD, hr⟩
    · exact .inl hr
    · exact .inr ⟨D, rfl, Nat.lt_of_lt_of_le hD hb.size, fun i d hi => range_below (hr i d hi) hb hD⟩
theorem KeysAt.len {w : World} {p : Option Addr} {ds : List (List Int)} (h : KeysAt w p ds) : ds.length ≤ 4096 := by
  rcases h with ⟨_, rfl⟩ | ⟨K, a, cap, _, _, _, hl, _⟩
  · simp
  · exact hl
theorem klen_any (p : Option Addr) (ds : List (List Int)) (w : World) (h : KeysAt w p ds) : Calls Tryd.prog 20 #[.pointer p] w fun e w' => e = .returned (.int .i64 (ds.length : Int)) ∧ w' = w := by
  rcases h with ⟨rfl, rfl⟩ | ⟨K, a, cap, rfl, hK, hc, hl, hd, hr⟩
  · go_enter Tryd.func20, Tryd.ntmps20
    go_wp2
    go_ret
    exact ⟨rfl, rfl⟩
  · clear hr hd
    go_enter Tryd.func20, Tryd.ntmps20
    go_wp2
    go_ret
    exact ⟨rfl, rfl⟩
def zeros16 : List Int := List.replicate 16 0
/-- a tag and an error: what Sign answers -/
def signOf (ds : List (List Int)) (id : Int) (body : ByteArray) : List Int × Int :=
  if ds = [] then (zeros16, 1) else if id < 0 ∨ (ds.length : Int) ≤ id then (zeros16, 2) else ((mac (ds.getD id.toNat []) (strL body)).take 16, 0)
theorem signOf_length (ds : List (List Int)) (id : Int) (body : ByteArray) : (signOf ds id body).1.length = 16 := by
  unfold signOf
  split
  · rfl
  · split
    · rfl
    · simp [mac_length]
theorem signOf_ok (ds : List (List Int)) (id : Int) (body : ByteArray) : ∀ z ∈ (signOf ds id body).1, 0 ≤ z ∧ z < 256 := by
  unfold signOf
  split
  · decide
  · split
    · decide
    · intro z hz; exact mac_ok _ _ z (List.mem_of_mem_take hz)
theorem arr16 (b : Nat) (w : World) : (Instr.arrayAt 38 (.slice (some ⟨b, 0, none⟩) 16 32)).run Tryd.prog w = .ok (.pointer (some ⟨b, 0, none⟩)) w := by kernel_rfl
theorem info16 (t : List Int) (h : t.length = 16) : (Tryd.prog.info? 38).map (·.size) = some (v8 t).toArray.size := by rw [List.size_toArray, v8_length, h]; exact iszT
theorem load16 {w : World} {b o : Nat} {t : List Int} (h : t.length = 16) (hr : w.rangeAt b o (v8 t)) : (loadVar 38 ⟨b, o, none⟩).run Tryd.prog w = .ok (.agg (v8 t).toArray) w :=
  run_loadVar_mid (P := Tryd.prog) w b o 38 (v8 t) _ hr Tryd.underlying38 rfl (by simpa using info16 t h)
set_option maxRecDepth 20000 in
set_option maxHeartbeats 1000000 in
theorem ksign_any (p : Option Addr) (ds : List (List Int)) (id : Int) (body : ByteArray) (w : World) (hG : Glob w) (h : KeysAt w p ds) (hb : ds = [] ∨ body.size ≤ 100000) :
    Calls Tryd.prog 10 #[.pointer p, .int .i64 id, .string body] w fun e w' => e = .returned (.tuple #[.agg (v8 (signOf ds id body).1).toArray, .int .i64 (signOf ds id body).2]) ∧ Below w.heap.size w w' := by
  have hB0 : Below w.heap.size w (w.alloc (.cells (Array.replicate 16 (.int .u8 0)) 38)) := (Below.refl _ _).alloc (Nat.le_refl _) _
  have cl := klen_any p ds _ (h.below hB0)
  have hR0 : (w.alloc (.cells (Array.replicate 16 (.int .u8 0)) 38)).rangeAt w.heap.size 0 (v8 zeros16) := (new_bytes w 16 38).1
  have hrs := load16 (t := zeros16) rfl hR0
  by_cases h0 : ds = []
  · subst h0
    have HS : Hid (signOf [] id body = (zeros16, 1)) := by show _ = _; simp [signOf]
    rw [HS.out]
    clear HS
    go_enter Tryd.func10, Tryd.ntmps10
    go_wp2_with (go_at_call 20; refine cl.mono ?_; rintro e w1 ⟨rfl, rfl⟩)
    exact bodyPost_ret (v := .tuple #[.agg (v8 zeros16).toArray, .int .i64 1]) (by simp [results, Tryd.results10, asAddr, hrs]) rfl ⟨rfl, hB0⟩
  · have hb := hb.resolve_left h0
    have hpos : 0 < ds.length := List.length_pos_iff.2 h0
    have hne : ((ds.length : Int) == 0) = false := by simp; omega
    have h4 := h.len
    by_cases h1 : id < 0 ∨ (ds.length : Int) ≤ id
    · have HS : Hid (signOf ds id body = (zeros16, 2)) := by show _ = _; simp [signOf, h0, h1]
      rw [HS.out]
      clear HS
      rcases h1 with h1 | h1
      · clear h0 h
        go_enter Tryd.func10, Tryd.ntmps10
        go_wp2_with (go_at_call 20; refine cl.mono ?_; rintro e w1 ⟨rfl, hx⟩; obtain rfl := hx.symm; clear hx)
        exact bodyPost_ret (v := .tuple #[.agg (v8 zeros16).toArray, .int .i64 2]) (by simp [results, Tryd.results10, asAddr, hrs]) rfl ⟨rfl, hB0⟩
      · have h1' : ¬ id < 0 := by omega
        clear h0 h
        go_enter Tryd.func10, Tryd.ntmps10
        go_wp2_with (go_at_call 20; refine cl.mono ?_; rintro e w1 ⟨rfl, hx⟩; obtain rfl := hx.symm; clear hx)
        exact bodyPost_ret (v := .tuple #[.agg (v8 zeros16).toArray, .int .i64 2]) (by simp [results, Tryd.results10, asAddr, hrs]) rfl ⟨rfl, hB0⟩
    · obtain ⟨k, rfl⟩ := Int.eq_ofNat_of_zero_le (show 0 ≤ id by omega)
      have hk : k < ds.length := by omega
      have h1a : ¬ (k : Int) < 0 := by omega
      have h1b : (k : Int) < ds.length := by omega
      have HS : Hid (signOf ds (k : Int) body = ((mac ds[k] (strL body)).take 16, 0)) := by
        show _ = _
        simp only [signOf, h0, h1, if_false, Int.toNat_natCast, List.getD_eq_getElem?_getD, List.getElem?_eq_getElem hk, Option.getD_some]
      rw [HS.out]
      clear HS h1
      obtain ⟨K, a, cap, rfl, hK, hc, _, hd, hr⟩ : ∃ K a cap, p = some ⟨K, 0, none⟩ ∧ K < w.heap.size ∧ w.cell? ⟨K, 0, none⟩ = some (.slice a ds.length cap) ∧ ds.length ≤ 4096 ∧ (∀ d ∈ ds, d.length = 32 ∧ ∀ z ∈ d, 0 ≤ z ∧ z < 256) ∧
          (ds = [] ∨ ∃ D, a = some ⟨D, 0, none⟩ ∧ D < w.heap.size ∧ ∀ i d, ds[i]? = some d → w.rangeAt D (i * 32) (v8 d)) := by
        rcases h with ⟨_, e⟩ | q
        · exact absurd e h0
        · exact q
      obtain ⟨D, rfl, hD, hr⟩ := hr.resolve_left h0
      have hrk := hr k ds[k] (List.getElem?_eq_getElem hk)
      obtain ⟨hdl, hdo⟩ := hd ds[k] (List.getElem_mem hk)
      obtain ⟨d, hd'⟩ : ∃ d, Hid (ds[k] = d) := ⟨_, hide rfl⟩
      rw [hd'.out] at hrk hdl hdo ⊢
      clear hr hd h0 h
      have hc1 := (hB0.cell (p := ⟨K, 0, none⟩) hK).trans hc
      clear hrs hR0
      have hT0 := (new_bytes w 16 38).2
      obtain ⟨cap2, w2, hcv, hrow2, hc2a, hc2b, hw2, hs2⟩ := str_bytes body (w.alloc (.cells (Array.replicate 16 (.int .u8 0)) 38)) (by omega)
      simp only [World.size_alloc] at hcv hrow2 hw2 hs2
      have hB2 : Below w.heap.size w w2 := hB0.trans (hw2.mono (by omega))
      have hT2 := there_below hT0 hw2 (by omega)
      have hat : (⟨some ⟨w.heap.size + 1, 0, none⟩, cap2, strL body⟩ : Part).at w2 := ⟨hrow2, by show (strL body).length ≤ cap2; rw [strL_length]; exact hc2a, hc2b⟩
      have hP := one_part w2 #[.slice (some ⟨w.heap.size + 1, 0, none⟩) body.size cap2] _ hat (by simp only [Part.val, strL_length])
      have hBp : Below w2.heap.size w2 (w2.alloc (.cells #[.slice (some ⟨w.heap.size + 1, 0, none⟩) body.size cap2] 51)) := (Below.refl _ _).alloc (Nat.le_refl _) _
      have hB3 := hB2.trans (hBp.mono hB2.size)
      have hkr : RowAt w (some ⟨D, k * 32, none⟩) d := ⟨by rw [hdl]; unfold maxLen; omega, hdo, Or.inr ⟨_, _, rfl, hD, hrk⟩⟩
      have ec : cat [(⟨some ⟨w.heap.size + 1, 0, none⟩, cap2, strL body⟩ : Part)] = strL body := by simp [cat]
      have cm := mac_any (some ⟨D, k * 32, none⟩) 32 d _ 1 _ _ (hG.below hB3) (hkr.below hB3) (by omega) (by unfold maxLen; omega) (by omega) hP (by rw [ec, strL_length]; omega) (by simp)
      rw [ec, hdl] at cm
      simp only [List.length_cons, List.length_nil, Nat.zero_add] at cm
      obtain ⟨m, hm⟩ : ∃ m, Hid (mac d (strL body) = m) := ⟨_, hide rfl⟩
      have hml : m.length = 32 := by rw [← hm.out]; exact mac_length _ _
      rw [hm.out] at cm ⊢
      clear hP hat ec hkr hrk hdo hrow2 hw2
      go_enter Tryd.func10, Tryd.ntmps10
      go_wp2_with (first | (go_at_call 20; refine cl.mono ?_; rintro e w1 ⟨rfl, hx⟩; obtain rfl := hx.symm; clear hx))
      refine cm.mono ?_
      rintro e w3 ⟨rfl, hw3⟩
      clear cm cl hcv
      have hB4 := hB3.trans (hw3.mono hB3.size)
      have hT3 := there_below (there_below hT2 hBp (by omega)) hw3 (by simp; omega)
      have hs3 := hw3.size
      simp only [World.size_alloc] at hs3
      have F := fresh_store w3 (Array.replicate 32 (.int .u8 0)) 54 (v8 m) (by rw [v8_length, hml]; rfl)
      have hN := there24 w3 m hml
      have hi := info24 m hml
      have h1c := all_oneCell_toArray (v8_one m)
      go_upto_region 6 with (refine wpList_store_mid (op := ⟨none, .store 54 (.tmp 8) (.tmp 32), _, _, _, none⟩) rfl 54 _ _ rfl _ _ (v8 m).toArray rfl rfl hN hi h1c ?_)
      go_name_world w4 hw4
      rw [show (w3.alloc (.cells (Array.replicate 32 (.int .u8 0)) 54)).setCells w3.heap.size 0 (v8 m) = w4 from hw4] at F
      obtain ⟨hR4, hB4', hz4', _⟩ := F
      have hz4 : w3.heap.size < w4.heap.size := by omega
      clear hz4' hw4 hN hi h1c hw3
      have hB5 := hB4.trans (hB4'.mono hB4.size)
      have hT4 := there_below hT3 hB4' (by omega)
      have hsl := slice_h (w := w4) Tryd.underlying54 isz8 w3.heap.size 0 16 16 rfl (by omega) (by omega)
      obtain ⟨t, ht⟩ : ∃ t, Hid (m.take 16 = t) := ⟨_, hide rfl⟩
      have htl : t.length = 16 := by rw [← ht.out, List.length_take]; omega
      have hRt : w4.rangeAt w3.heap.size 0 (v8 t) := by
        have e : v8 m = v8 t ++ v8 (m.drop 16) := by rw [← v8_append, ← ht.out, List.take_append_drop]
        rw [e] at hR4; exact range_left hR4
      try simp only [Act.put]
      have hl16 : (Tryd.prog.info? 38).map (·.size) = some (v8 t).length := by simpa using info16 t htl
      have hT4' : w4.there w.heap.size 0 (v8 t).toArray.size := by
        have e : (v8 t).toArray.size = 16 := by rw [List.size_toArray, v8_length, htl]
        rw [e]; exact hT4
      have h1t := all_oneCell_toArray (v8_one t)
      have hit := info16 t htl
      have hap := arr16 w3.heap.size w4
      refine wp_region_list ?_
      refine wpList_plain rfl fun K hK => ?_
      go_simp
      refine hK _ _ ?_
      clear hK K
      refine wpList_plain rfl fun K hK => ?_
      go_simp
      refine hK _ _ ?_
      clear hK K
      refine wpList_load_mid rfl 38 _ rfl _ _ rfl (v8 t) _ hRt Tryd.underlying38 rfl hl16 ?_
      refine wpList_store_mid rfl 38 _ _ rfl _ _ (v8 t).toArray rfl rfl hT4' hit h1t ?_
      go_wp2
      have hRr := World.rangeAt_setCells_same w4 w.heap.size 0 (v8 t) (by rw [v8_length, htl]; exact hT4)
      have hBl := below_sets (Nat.le_refl w.heap.size) (v8 t) 0 w4 hB5
      have hrs := load16 htl hRr
      exact bodyPost_ret (v := .tuple #[.agg (v8 t).toArray, .int .i64 0]) (by simp [results, Tryd.results10, asAddr, hrs]) rfl ⟨by rw [ht.out], hBl⟩
/-- a tag against another one -/
theorem eql16 (xs ys : List Int) (hx : xs.length = 16) (hy : ys.length = 16) (w : World) : (binOp .eql 38 (.agg (v8 xs).toArray) (.agg (v8 ys).toArray)).run Tryd.prog w = .ok (.bool (xs == ys)) w := by
  rw [run_eql_struct, run_equal8 w 9998 38 5 16 Tryd.underlying38 Tryd.underlying5 isz8 xs ys hx hy]; rfl
theorem neq16 (xs ys : List Int) (hx : xs.length = 16) (hy : ys.length = 16) (w : World) : (binOp .neq 38 (.agg (v8 xs).toArray) (.agg (v8 ys).toArray)).run Tryd.prog w = .ok (.bool (!(xs == ys))) w := by
  rw [run_neq_struct, run_equal8 w 9998 38 5 16 Tryd.underlying38 Tryd.underlying5 isz8 xs ys hx hy]; rfl
end Go.Proofs.YtbfhpgneaklgoaaDoor
