/- seal.Keys: Len, Sign, Check: contracts; quorum.Good, Faults, Some, Most and the document's: contracts.; What a law of this seat is told: the package's tables, a -/
import Derived.Test.YtnfijfnnpbenfaaGreatDoorJM0
import Derived.Test.YtnfijfnnpbenfaaGreatDoorJM4
import Derived.Test.YtnfijfnnpbenfaaGreatDoorJM5
import Derived.Test.YtnfijfnnpbenfaaGreatDoorJM8
import Derived.Test.YtnfijfnnpbenfaaGreatDoorJM3
import Derived.Laws.IdiomStrings
import Derived.WalkKit
import Derived.WalkSpells
import Derived.WalkLawsBesides
import Derived.Below
import Derived.Test.YtnfijfnnpbenfaaGreatDoorRows
import Derived.Test.YtnfijfnnpbenfaaGreatDoorCards
import Derived.Test.YtnfijfnnpbenfaaGreatDoorTie
import Derived.ProofKit
import Derived.OpenShut
import Derived.ShutString
import Derived.ChangeOld
import Derived.LaidMore
import Derived.Stop.Joined
import Derived.Lib.LaidTab
import Derived.Test.YtnfijfnnpbenfaaGreatDoorJM2
import Derived.Deep.OwnRows
import Derived.Deep.MidRow
import Derived.Laws.StructEq
import Derived.Deep.Slices
import Derived.Test.YtnfijfnnpbenfaaGreatDoorJM1
import Derived.Deep.Cut
import Derived.Deep.RegionWith
import Derived.RegionTactic
import Derived.Lib.SliceRun
import Derived.Lib.ItoaWalk
import Derived.Outline
import Derived.BigRegion
import Derived.ChangeAlike
import Derived.Deep.RegionHeld3
import Derived.Shelf.Sort.Plain
import Derived.Shelf.Slices.In.SortNone
import Derived.Test.YtnfijfnnpbenfaaGreatDoorProg
import Derived.RangeFuncBox
import Derived.RangeFuncLeaves
import Derived.Shelf.Abstract
import Derived.OwnWalkIn
import Derived.TacticsInMore
import Derived.LoopNIn
import Derived.LoopIn
import Derived.Maps.AppendAt
import Derived.Sort.OwnSortedInts
import Derived.RangeFuncNested
import Derived.RangeFuncFrom
import Derived.Sort.CutIn
namespace Go.Proofs.YtnfijfnnpbenfaaGreatDoor.Qs
open Go.RowKit
open Sha Tal
theorem str_bytes (s : ByteArray) (w : World) (hs : s.size ≤ 1000000) : ∃ cap w', (convert 9 57 (.string s)).run Tryz.prog w = .ok (.slice (some ⟨w.heap.size, 0, none⟩) s.size cap) w' ∧ RowAt w' (some ⟨w.heap.size, 0, none⟩) (strL s) ∧ s.size ≤ cap ∧ cap ≤ maxLen ∧ Below w.heap.size w w' ∧ w.heap.size < w'.heap.size := by
 refine ⟨_, _, run_bytes_of_string w 9 57 5 s Tryz.underlying9 Tryz.underlying57 Tryz.underlying5, ?_, grownCap_ge _ _ _ _, grownCap_le_maxLen _ _ _ _ (by unfold maxLen; omega), ((Below.refl _ _).drew).alloc (Nat.le_refl _) _, by simp⟩
 refine ⟨by rw [strL_length]; unfold maxLen; omega, strL_byte s, Or.inr ⟨_, 0, rfl, by simp, ?_⟩⟩
 have := range_mark w.drew (bytesRow s (grownCap w s.size 0 5)) 5 ((bytesRow s (grownCap w s.size 0 5)).size, (bytesRow s (grownCap w s.size 0 5)).size + 1)
 have e : (bytesRow s (grownCap w s.size 0 5)).toList = v8 (strL s) ++ List.replicate (grownCap w s.size 0 5 - s.size) (.int .u8 0) := by
  simp [bytesRow, v8, strL]
 rw [e] at this
 exact range_left this
def KeysAt (w : World) (p : Option Addr) (ds : List (List Int)) : Prop :=
 (p = none ∧ ds = []) ∨ ∃ K a cap, p = some ⟨K, 0, none⟩ ∧ K < w.heap.size ∧ w.cell? ⟨K, 0, none⟩ = some (.slice a ds.length cap) ∧ ds.length ≤ 4096 ∧ (∀ d ∈ ds, d.length = 32 ∧ ∀ z ∈ d, 0 ≤ z ∧ z < 256) ∧
  (ds = [] ∨ ∃ D, a = some ⟨D, 0, none⟩ ∧ D < w.heap.size ∧ ∀ i d, ds[i]? = some d → w.rangeAt D (i * 32) (v8 d))
theorem KeysAt.below {w w' : World} {p : Option Addr} {ds : List (List Int)} (h : KeysAt w p ds) (hb : Below w.heap.size w w') : KeysAt w' p ds := by
 rcases h with h | ⟨K, a, cap, rfl, hK, hc, hl, hd, hr⟩
 ·exact .inl h
 ·refine .inr ⟨K, a, cap, rfl, Nat.lt_of_lt_of_le hK hb.size, (hb.cell (p := ⟨K, 0, none⟩) hK).trans hc, hl, hd, ?_⟩
  rcases hr with hr | ⟨D, rfl, hD, hr⟩
  ·exact .inl hr
  ·exact .inr ⟨D, rfl, Nat.lt_of_lt_of_le hD hb.size, fun i d hi => range_below (hr i d hi) hb hD⟩
theorem KeysAt.len {w : World} {p : Option Addr} {ds : List (List Int)} (h : KeysAt w p ds) : ds.length ≤ 4096 := by
 rcases h with ⟨_, rfl⟩ | ⟨K, a, cap, _, _, _, hl, _⟩
 ·simp
 ·exact hl
theorem klen_any (p : Option Addr) (ds : List (List Int)) (w : World) (h : KeysAt w p ds) : Calls Tryz.prog 27 #[.pointer p] w fun e w' => e = .returned (.int .i64 (ds.length : Int)) ∧ w' = w := by
 rcases h with ⟨rfl, rfl⟩ | ⟨K, a, cap, rfl, hK, hc, hl, hd, hr⟩
 ·go_enter Tryz.func27, Tryz.ntmps27
  go_wp2
  go_ret
  exact ⟨rfl, rfl⟩
 ·clear hr hd
  go_enter Tryz.func27, Tryz.ntmps27
  go_wp2
  go_ret
  exact ⟨rfl, rfl⟩
def zeros16 : List Int := List.replicate 16 0
def signOf (ds : List (List Int)) (id : Int) (body : ByteArray) : List Int × Int :=
 if ds = [] then (zeros16, 1) else if id < 0 ∨ (ds.length : Int) ≤ id then (zeros16, 2) else ((mac (ds.getD id.toNat []) (strL body)).take 16, 0)
theorem signOf_length (ds : List (List Int)) (id : Int) (body : ByteArray) : (signOf ds id body).1.length = 16 := by
 unfold signOf
 split
 ·rfl
 ·split
  ·rfl
  ·simp [mac_length]
theorem signOf_ok (ds : List (List Int)) (id : Int) (body : ByteArray) : ∀ z ∈ (signOf ds id body).1, 0 ≤ z ∧ z < 256 := by
 unfold signOf
 split
 ·decide
 ·split
  ·decide
  ·intro z hz; exact mac_ok _ _ z (List.mem_of_mem_take hz)
theorem arr16 (b : Nat) (w : World) : (Instr.arrayAt 51 (.slice (some ⟨b, 0, none⟩) 16 32)).run Tryz.prog w = .ok (.pointer (some ⟨b, 0, none⟩)) w := by kernel_rfl
theorem info16 (t : List Int) (h : t.length = 16) : (Tryz.prog.info? 51).map (·.size) = some (v8 t).toArray.size := by rw [List.size_toArray, v8_length, h]; exact iszT
theorem load16 {w : World} {b o : Nat} {t : List Int} (h : t.length = 16) (hr : w.rangeAt b o (v8 t)) : (loadVar 51 ⟨b, o, none⟩).run Tryz.prog w = .ok (.agg (v8 t).toArray) w :=
 run_loadVar_mid (P := Tryz.prog) w b o 51 (v8 t) _ hr Tryz.underlying51 rfl (by simpa using info16 t h)
set_option maxRecDepth 20000 in
set_option maxHeartbeats 1000000 in
theorem ksign_any (p : Option Addr) (ds : List (List Int)) (id : Int) (body : ByteArray) (w : World) (hG : Glob w) (h : KeysAt w p ds) (hb : ds = [] ∨ body.size ≤ 100000) :
    Calls Tryz.prog 15 #[.pointer p, .int .i64 id, .string body] w fun e w' => e = .returned (.tuple #[.agg (v8 (signOf ds id body).1).toArray, .int .i64 (signOf ds id body).2]) ∧ Below w.heap.size w w' := by
  have hB0 : Below w.heap.size w (w.alloc (.cells (Array.replicate 16 (.int .u8 0)) 51)) := (Below.refl _ _).alloc (Nat.le_refl _) _
  have cl := klen_any p ds _ (h.below hB0)
  have hR0 : (w.alloc (.cells (Array.replicate 16 (.int .u8 0)) 51)).rangeAt w.heap.size 0 (v8 zeros16) := (new_bytes w 16 51).1
  have hrs := load16 (t := zeros16) rfl hR0
  by_cases h0 : ds = []
  · subst h0
    have HS : Hid (signOf [] id body = (zeros16, 1)) := by show _ = _; simp [signOf]
    rw [HS.out]
    clear HS
    go_enter Tryz.func15, Tryz.ntmps15
    go_wp2_with (go_at_call 27; refine cl.mono ?_; rintro e w1 ⟨rfl, rfl⟩)
    exact bodyPost_ret (v := .tuple #[.agg (v8 zeros16).toArray, .int .i64 1]) (by simp [results, Tryz.results15, asAddr, hrs]) rfl ⟨rfl, hB0⟩
  · have hb := hb.resolve_left h0
    have hpos : 0 < ds.length := List.length_pos_iff.2 h0
    have hne : ((ds.length : Int) == 0) = false := by simp; omega
    have h4 := h.len
    by_cases h1 : id < 0 ∨ (ds.length : Int) ≤ id
    · have HS : Hid (signOf ds id body = (zeros16, 2)) := by show _ = _; simp [signOf, h0, h1]
      rw [HS.out]
      clear HS
      rcases h1 with h1 | h1
      · clear h0 h
        go_enter Tryz.func15, Tryz.ntmps15
        go_wp2_with (go_at_call 27; refine cl.mono ?_; rintro e w1 ⟨rfl, hx⟩; obtain rfl := hx.symm; clear hx)
        exact bodyPost_ret (v := .tuple #[.agg (v8 zeros16).toArray, .int .i64 2]) (by simp [results, Tryz.results15, asAddr, hrs]) rfl ⟨rfl, hB0⟩
      · have h1' : ¬ id < 0 := by omega
        clear h0 h
        go_enter Tryz.func15, Tryz.ntmps15
        go_wp2_with (go_at_call 27; refine cl.mono ?_; rintro e w1 ⟨rfl, hx⟩; obtain rfl := hx.symm; clear hx)
        exact bodyPost_ret (v := .tuple #[.agg (v8 zeros16).toArray, .int .i64 2]) (by simp [results, Tryz.results15, asAddr, hrs]) rfl ⟨rfl, hB0⟩
    · obtain ⟨k, rfl⟩ := Int.eq_ofNat_of_zero_le (show 0 ≤ id by omega)
      have hk : k < ds.length := by omega
      have h1a : ¬ (k : Int) < 0 := by omega
      have h1b : (k : Int) < ds.length := by omega
      have HS : Hid (signOf ds (k : Int) body = ((mac ds[k] (strL body)).take 16, 0)) := by
        show _ = _
        simp only [signOf, h0, h1, if_false, Int.toNat_natCast, List.getD_eq_getElem?_getD, List.getElem?_eq_getElem hk, Option.getD_some]
      rw [HS.out]
      clear HS h1
      obtain ⟨K, a, cap, rfl, hK, hc, _, hd, hr⟩ : ∃ K a cap, p = some ⟨K, 0, none⟩ ∧ K < w.heap.size ∧ w.cell? ⟨K, 0, none⟩ = some (.slice a ds.length cap) ∧ ds.length ≤ 4096 ∧ (∀ d ∈ ds, d.length = 32 ∧ ∀ z ∈ d, 0 ≤ z ∧ z < 256) ∧
          (ds = [] ∨ ∃ D, a = some ⟨D, 0, none⟩ ∧ D < w.heap.size ∧ ∀ i d, ds[i]? = some d → w.rangeAt D (i * 32) (v8 d)) := by
        rcases h with ⟨_, e⟩ | q
        · exact absurd e h0
        · exact q
      obtain ⟨D, rfl, hD, hr⟩ := hr.resolve_left h0
      have hrk := hr k ds[k] (List.getElem?_eq_getElem hk)
      obtain ⟨hdl, hdo⟩ := hd ds[k] (List.getElem_mem hk)
      obtain ⟨d, hd'⟩ : ∃ d, Hid (ds[k] = d) := ⟨_, hide rfl⟩
      rw [hd'.out] at hrk hdl hdo ⊢
      clear hr hd h0 h
      have hc1 := (hB0.cell (p := ⟨K, 0, none⟩) hK).trans hc
      clear hrs hR0
      have hT0 := (new_bytes w 16 51).2
      obtain ⟨cap2, w2, hcv, hrow2, hc2a, hc2b, hw2, hs2⟩ := str_bytes body (w.alloc (.cells (Array.replicate 16 (.int .u8 0)) 51)) (by omega)
      simp only [World.size_alloc] at hcv hrow2 hw2 hs2
      have hB2 : Below w.heap.size w w2 := hB0.trans (hw2.mono (by omega))
      have hT2 := there_below hT0 hw2 (by omega)
      have hat : (⟨some ⟨w.heap.size + 1, 0, none⟩, cap2, strL body⟩ : Part).at w2 := ⟨hrow2, by show (strL body).length ≤ cap2; rw [strL_length]; exact hc2a, hc2b⟩
      have hP := one_part w2 #[.slice (some ⟨w.heap.size + 1, 0, none⟩) body.size cap2] _ hat (by simp only [Part.val, strL_length])
      have hBp : Below w2.heap.size w2 (w2.alloc (.cells #[.slice (some ⟨w.heap.size + 1, 0, none⟩) body.size cap2] 57)) := (Below.refl _ _).alloc (Nat.le_refl _) _
      have hB3 := hB2.trans (hBp.mono hB2.size)
      have hkr : RowAt w (some ⟨D, k * 32, none⟩) d := ⟨by rw [hdl]; unfold maxLen; omega, hdo, Or.inr ⟨_, _, rfl, hD, hrk⟩⟩
      have ec : cat [(⟨some ⟨w.heap.size + 1, 0, none⟩, cap2, strL body⟩ : Part)] = strL body := by simp [cat]
      have cm := mac_any (some ⟨D, k * 32, none⟩) 32 d _ 1 _ _ (hG.below hB3) (hkr.below hB3) (by omega) (by unfold maxLen; omega) (by omega) hP (by rw [ec, strL_length]; omega) (by simp)
      rw [ec, hdl] at cm
      simp only [List.length_cons, List.length_nil, Nat.zero_add] at cm
      obtain ⟨m, hm⟩ : ∃ m, Hid (mac d (strL body) = m) := ⟨_, hide rfl⟩
      have hml : m.length = 32 := by rw [← hm.out]; exact mac_length _ _
      rw [hm.out] at cm ⊢
      clear hP hat ec hkr hrk hdo hrow2 hw2
      go_enter Tryz.func15, Tryz.ntmps15
      go_wp2_with (first | (go_at_call 27; refine cl.mono ?_; rintro e w1 ⟨rfl, hx⟩; obtain rfl := hx.symm; clear hx))
      refine cm.mono ?_
      rintro e w3 ⟨rfl, hw3⟩
      clear cm cl hcv
      have hB4 := hB3.trans (hw3.mono hB3.size)
      have hT3 := there_below (there_below hT2 hBp (by omega)) hw3 (by simp; omega)
      have hs3 := hw3.size
      simp only [World.size_alloc] at hs3
      have F := fresh_store w3 (Array.replicate 32 (.int .u8 0)) 32 (v8 m) (by rw [v8_length, hml]; rfl)
      have hN := there24 w3 m hml
      have hi := info24 m hml
      have h1c := all_oneCell_toArray (v8_one m)
      go_upto_region 6 with (refine wpList_store_mid (op := ⟨none, .store 32 (.tmp 8) (.tmp 32), _, _, _, none⟩) rfl 32 _ _ rfl _ _ (v8 m).toArray rfl rfl hN hi h1c ?_)
      go_name_world w4 hw4
      rw [show (w3.alloc (.cells (Array.replicate 32 (.int .u8 0)) 32)).setCells w3.heap.size 0 (v8 m) = w4 from hw4] at F
      obtain ⟨hR4, hB4', hz4', _⟩ := F
      have hz4 : w3.heap.size < w4.heap.size := by omega
      clear hz4' hw4 hN hi h1c hw3
      have hB5 := hB4.trans (hB4'.mono hB4.size)
      have hT4 := there_below hT3 hB4' (by omega)
      have hsl := slice_h (w := w4) Tryz.underlying32 isz8 w3.heap.size 0 16 16 rfl (by omega) (by omega)
      obtain ⟨t, ht⟩ : ∃ t, Hid (m.take 16 = t) := ⟨_, hide rfl⟩
      have htl : t.length = 16 := by rw [← ht.out, List.length_take]; omega
      have hRt : w4.rangeAt w3.heap.size 0 (v8 t) := by
        have e : v8 m = v8 t ++ v8 (m.drop 16) := by rw [← v8_append, ← ht.out, List.take_append_drop]
        rw [e] at hR4; exact range_left hR4
      try simp only [Act.put]
      have hl16 : (Tryz.prog.info? 51).map (·.size) = some (v8 t).length := by simpa using info16 t htl
      have hT4' : w4.there w.heap.size 0 (v8 t).toArray.size := by
        have e : (v8 t).toArray.size = 16 := by rw [List.size_toArray, v8_length, htl]
        rw [e]; exact hT4
      have h1t := all_oneCell_toArray (v8_one t)
      have hit := info16 t htl
      have hap := arr16 w3.heap.size w4
      refine wp_region_list ?_
      refine wpList_plain rfl fun K hK => ?_
      go_simp
      refine hK _ _ ?_
      clear hK K
      refine wpList_plain rfl fun K hK => ?_
      go_simp
      refine hK _ _ ?_
      clear hK K
      refine wpList_load_mid rfl 51 _ rfl _ _ rfl (v8 t) _ hRt Tryz.underlying51 rfl hl16 ?_
      refine wpList_store_mid rfl 51 _ _ rfl _ _ (v8 t).toArray rfl rfl hT4' hit h1t ?_
      go_wp2
      have hRr := World.rangeAt_setCells_same w4 w.heap.size 0 (v8 t) (by rw [v8_length, htl]; exact hT4)
      have hBl := below_sets (Nat.le_refl w.heap.size) (v8 t) 0 w4 hB5
      have hrs := load16 htl hRr
      exact bodyPost_ret (v := .tuple #[.agg (v8 t).toArray, .int .i64 0]) (by simp [results, Tryz.results15, asAddr, hrs]) rfl ⟨by rw [ht.out], hBl⟩
theorem eql16 (xs ys : List Int) (hx : xs.length = 16) (hy : ys.length = 16) (w : World) : (binOp .eql 51 (.agg (v8 xs).toArray) (.agg (v8 ys).toArray)).run Tryz.prog w = .ok (.bool (xs == ys)) w := by
 rw [run_eql_struct, run_equal8 w 9998 51 5 16 Tryz.underlying51 Tryz.underlying5 isz8 xs ys hx hy]; rfl
def goodB (n : Int) : Bool := decide (4 ≤ n ∧ n ≤ 64 ∧ n % 3 = 1)
theorem goodB_true {n : Int} (h : goodB n = true) : 4 ≤ n ∧ n ≤ 64 ∧ n % 3 = 1 := by simpa [goodB] using h
theorem goodB_mk {n : Int} (h : 4 ≤ n ∧ n ≤ 64 ∧ n % 3 = 1) : goodB n = true := by simpa [goodB] using h
theorem goodB_no {n : Int} (h : ¬ (4 ≤ n ∧ n ≤ 64 ∧ n % 3 = 1)) : goodB n = false := by simpa [goodB] using h
theorem ret_bool {a b : Bool} (h : a = b) : Ending.returned (.bool a) = .returned (.bool b) := by rw [h]
theorem ret_int {k : IntKind} {a b : Int} (h : a = b) : Ending.returned (.int k a) = .returned (.int k b) := by rw [h]
set_option maxHeartbeats 400000 in
theorem good_any (n : Int) (w : World) : Calls Tryz.prog 42 #[.int .i64 n] w fun e w' => e = .returned (.bool (goodB n)) ∧ w' = w := by
 by_cases h1 : 4 ≤ n
 ·by_cases h2 : n ≤ 64
  ·go_enter Tryz.func42, Tryz.ntmps42
   go_wp2
   go_ret
   refine ⟨ret_bool ?_, rfl⟩
   by_cases h3 : n % 3 = 1
   ·rw [goodB_mk ⟨h1, h2, h3⟩]; simpa using h3
   ·rw [goodB_no (by omega)]; simpa using h3
  ·go_enter Tryz.func42, Tryz.ntmps42
   go_wp2
   go_ret
   exact ⟨ret_bool (by rw [goodB_no (by omega)]), rfl⟩
 ·go_enter Tryz.func42, Tryz.ntmps42
  go_wp2
  go_ret
  exact ⟨ret_bool (by rw [goodB_no (by omega)]), rfl⟩
set_option maxHeartbeats 400000 in
theorem refGood_any (n : Int) (w : World) : Calls Tryz.prog 72 #[.int .i64 n] w fun e w' => e = .returned (.bool (goodB n)) ∧ w' = w := by
 by_cases h1 : 4 ≤ n
 ·by_cases h2 : n ≤ 64
  ·go_enter Tryz.func72, Tryz.ntmps72
   go_wp2
   go_ret
   refine ⟨ret_bool ?_, rfl⟩
   by_cases h3 : n % 3 = 1
   ·rw [goodB_mk ⟨h1, h2, h3⟩]; simpa using h3
   ·rw [goodB_no (by omega)]; simpa using h3
  ·go_enter Tryz.func72, Tryz.ntmps72
   go_wp2
   go_ret
   exact ⟨ret_bool (by rw [goodB_no (by omega)]), rfl⟩
 ·go_enter Tryz.func72, Tryz.ntmps72
  go_wp2
  go_ret
  exact ⟨ret_bool (by rw [goodB_no (by omega)]), rfl⟩
def faultsI (n : Int) : Int := if goodB n then n / 3 else 0
def mostI (n : Int) : Int := if goodB n then 2 * (n / 3) + 1 else 0
theorem faultsI_g {n : Int} (h : goodB n = true) : faultsI n = n / 3 := by simp [faultsI, h]
theorem mostI_g {n : Int} (h : goodB n = true) : mostI n = 2 * (n / 3) + 1 := by simp [mostI, h]
theorem faultsI_b {n : Int} (h : goodB n = false) : faultsI n = 0 := by simp [faultsI, h]
theorem mostI_b {n : Int} (h : goodB n = false) : mostI n = 0 := by simp [mostI, h]
theorem good_true {n : Int} (h : goodB n = true) (w : World) : Calls Tryz.prog 42 #[.int .i64 n] w fun e w' => e = .returned (.bool true) ∧ w' = w := by
 have := good_any n w; rwa [h] at this
theorem good_false {n : Int} (h : goodB n = false) (w : World) : Calls Tryz.prog 42 #[.int .i64 n] w fun e w' => e = .returned (.bool false) ∧ w' = w := by
 have := good_any n w; rwa [h] at this
theorem refGood_true {n : Int} (h : goodB n = true) (w : World) : Calls Tryz.prog 72 #[.int .i64 n] w fun e w' => e = .returned (.bool true) ∧ w' = w := by
 have := refGood_any n w; rwa [h] at this
theorem refGood_false {n : Int} (h : goodB n = false) (w : World) : Calls Tryz.prog 72 #[.int .i64 n] w fun e w' => e = .returned (.bool false) ∧ w' = w := by
 have := refGood_any n w; rwa [h] at this
set_option maxHeartbeats 400000 in
theorem faults_any (n : Int) (w : World) : Calls Tryz.prog 43 #[.int .i64 n] w fun e w' => e = .returned (.int .i64 (faultsI n)) ∧ w' = w := by
 cases h : goodB n
 ·have HH := hide h
  have c := good_false h w
  clear h
  go_enter Tryz.func43, Tryz.ntmps43
  go_wp2_with (go_at_call 42; refine c.mono ?_; rintro e w1 ⟨rfl, rfl⟩)
  go_ret
  exact ⟨ret_int (by rw [faultsI_b HH.out]), rfl⟩
 ·have HH := hide h
  have c := good_true h w
  obtain ⟨h1, h2, h3⟩ := goodB_true h
  have H3 := hide h3
  clear h h3
  go_enter Tryz.func43, Tryz.ntmps43
  go_wp2_with (go_at_call 42; refine c.mono ?_; rintro e w1 ⟨rfl, rfl⟩)
  go_ret
  exact ⟨ret_int (by rw [faultsI_g HH.out]; have := H3.out; omega), rfl⟩
set_option maxHeartbeats 400000 in
theorem most_any (n : Int) (w : World) : Calls Tryz.prog 14 #[.int .i64 n] w fun e w' => e = .returned (.int .i64 (mostI n)) ∧ w' = w := by
 cases h : goodB n
 ·have HH := hide h
  have c := good_false h w
  clear h
  go_enter Tryz.func14, Tryz.ntmps14
  go_wp2_with (go_at_call 42; refine c.mono ?_; rintro e w1 ⟨rfl, rfl⟩)
  go_ret
  exact ⟨ret_int (by rw [mostI_b HH.out]), rfl⟩
 ·have HH := hide h
  have c := good_true h w
  have d := faults_any n w
  rw [faultsI_g h] at d
  obtain ⟨h1, h2, h3⟩ := goodB_true h
  have b0 : 0 ≤ n / 3 := by omega
  have b1 : n / 3 ≤ 21 := by omega
  clear h h3
  generalize hq : n / 3 = q at *
  have HQ := hide hq
  clear hq
  go_enter Tryz.func14, Tryz.ntmps14
  go_wp2_with (first | (go_at_call 42; refine c.mono ?_; rintro e w1 ⟨rfl, rfl⟩) | (go_at_call 43; refine d.mono ?_; rintro e w1 ⟨rfl, rfl⟩))
  go_ret
  exact ⟨ret_int (by rw [mostI_g HH.out, HQ.out]), rfl⟩
end Go.Proofs.YtnfijfnnpbenfaaGreatDoor.Qs
namespace Go.Proofs.YtnfijfnnpbenfaaGreatDoor
open Go.ChangeShapes Go.WideShapes Go.ChangeAt Go.RowKit
open Sha
theorem own : ownKnob Tryz.prog.godebug = none := by kernel_rfl
theorem laidOut : laidOutB Tryz.prog = true := by kernel_rfl
def laid2 {H : Type} : List (String × DataW H) := [("raddle/digest.starts", Rows.laid_raddle_digest_starts), ("raddle/digest.roots", Rows.laid_raddle_digest_roots)]
theorem gS : Tryz.prog.globalNamed "raddle/digest.starts" = some 0 := by kernel_rfl
theorem gR : Tryz.prog.globalNamed "raddle/digest.roots" = some 1 := by kernel_rfl
theorem tS : (Tryz.prog.globals[0]?).map (·.type) = some 143 := by kernel_rfl
theorem tR : (Tryz.prog.globals[1]?).map (·.type) = some 206 := by kernel_rfl
theorem door_met (os : Os) (args : Array Value) : laidMetH Tryz.prog laid2 ((World.doorLaid Tryz.prog 400 os).forCall (fun _ _ => 0) ⟨#[], args, []⟩).memory :=
 laidMetH_of_parts3 (fuel := 8) (laidMet_of_run' 8 (by kernel_rfl) (by kernel_rfl)) (by kernel_rfl) (by kernel_rfl)
def startZ : List Int := (list init).map fun x => (x.toNat : Int)
def rootZ : List Int := kl.map fun x => (x.toNat : Int)
theorem starts_tab {H : Type} : (Rows.laid_raddle_digest_starts : DataW H) = Lib.tabData .u32 startZ := by kernel_rfl
theorem roots_tab {H : Type} : (Rows.laid_raddle_digest_roots : DataW H) = Lib.tabData .u32 rootZ := by kernel_rfl
theorem glob_of {W : World} (h : laidMetH Tryz.prog laid2 W) : Glob W := by
 rw [MakeChecks.laidMetH_plain _ _ _ (by kernel_rfl)] at h
 obtain ⟨ps, ⟨g0, t0, cs0, f0, p0, q0, hg0, ht0, hv0, hd0, ⟨g1, t1, cs1, f1, p1, q1, hg1, ht1, hv1, hd1, _, _⟩, _⟩, _, _⟩ := h
 obtain rfl := Option.some.inj (gS.symm.trans hg0)
 obtain rfl := Option.some.inj (gR.symm.trans hg1)
 obtain rfl := Option.some.inj (tS.symm.trans ht0)
 obtain rfl := Option.some.inj (tR.symm.trans ht1)
 rw [starts_tab] at hd0
 rw [roots_tab] at hd1
 have e0 := Lib.cells_of_tab Tryz.underlying143 Tryz.underlying142 (by kernel_rfl) (by kernel_rfl) hd0
 have e1 := Lib.cells_of_tab Tryz.underlying206 Tryz.underlying142 (by kernel_rfl) (by kernel_rfl) hd1
 have r0 : W.rangeAt 0 0 (v32 (list init)) := fun j v hv => by
  have := World.var?_cell hg0 hv0 j
  rw [Nat.zero_add, this, ← Array.getElem?_toList, e0]
  simpa [startZ, v32] using hv
 have r1 : W.rangeAt 1 0 (v32 kl) := fun j v hv => by
  have := World.var?_cell hg1 hv1 j
  rw [Nat.zero_add, this, ← Array.getElem?_toList, e1]
  simpa [rootZ, v32] using hv
 refine ⟨r0, r1, ?_⟩
 have := World.block_lt_of_cell? W _ (r1 0 _ rfl)
 exact this
end Go.Proofs.YtnfijfnnpbenfaaGreatDoor
namespace Go.Proofs.YtnfijfnnpbenfaaGreatDoor.Qs
def above (l : List Int) (x : Int) : Nat := l.countP (fun y => decide (x < y))
def same (l : List Int) (x : Int) : Nat := l.countP (fun y => decide (y = x))
def isNth (l : List Int) (i x : Int) : Bool := decide ((above l x : Int) < i) && decide (i ≤ (above l x : Int) + (same l x : Int))
def nthFrom (l : List Int) (i : Int) (m : List Int) : Int := (m.find? (isNth l i)).getD 0
def nth (l : List Int) (i : Int) : Int := nthFrom l i l
theorem above_same (l : List Int) (x : Int) : above l x + same l x = l.countP (fun y => decide (x ≤ y)) := by
  unfold above same
  induction l with
  | nil => rfl
  | cons a l ih =>
    simp only [List.countP_cons, decide_eq_true_eq]
    rcases Int.lt_trichotomy a x with h | h | h
    · rw [if_neg (by omega), if_neg (by omega), if_neg (by omega)]; omega
    · rw [if_neg (by omega), if_pos h, if_pos (by omega)]; omega
    · rw [if_pos (by omega), if_neg (by omega), if_pos (by omega)]; omega
theorem above_le (l : List Int) (x : Int) : above l x + same l x ≤ l.length := by
 rw [above_same]; exact List.countP_le_length
theorem above_anti (l : List Int) (x y : Int) (h : x < y) : above l y + same l y ≤ above l x := by
 rw [above_same]; unfold above
 refine List.countP_mono_left ?_
 intro z _ hz
 simp at hz ⊢; omega
theorem isNth_unique (l : List Int) (i x y : Int) (hx : isNth l i x = true) (hy : isNth l i y = true) : x = y := by
 simp only [isNth, Bool.and_eq_true, decide_eq_true_eq] at hx hy
 rcases Int.lt_trichotomy x y with h | h | h
 ·have := above_anti l x y h; omega
 ·exact h
 ·have := above_anti l y x h; omega
theorem above_perm {l m : List Int} (h : l.Perm m) (x : Int) : above l x = above m x := h.countP_eq _
theorem same_perm {l m : List Int} (h : l.Perm m) (x : Int) : same l x = same m x := h.countP_eq _
theorem nth_none (l : List Int) (i : Int) (h : i < 1 ∨ (l.length : Int) < i) : nth l i = 0 := by
 unfold nth nthFrom
 have : l.find? (isNth l i) = none := by
  rw [List.find?_eq_none]
  intro x _
  have := above_le l x
  simp only [isNth, Bool.and_eq_true, decide_eq_true_eq]
  omega
 rw [this]; rfl
theorem sorted_isNth (s : List Int) (hs : s.Pairwise (· ≤ ·)) (p : Nat) (hp : p < s.length) : isNth s ((s.length : Int) - p) s[p] = true := by
 have h1 : above s s[p] ≤ s.length - (p + 1) := by
  unfold above
  have e : s = s.take (p + 1) ++ s.drop (p + 1) := (List.take_append_drop _ _).symm
  have z : (s.take (p + 1)).countP (fun y => decide (s[p] < y)) = 0 := by
   rw [List.countP_eq_zero]
   intro y hy
   obtain ⟨k, hk, rfl⟩ := List.getElem_of_mem hy
   simp only [List.length_take] at hk
   have hk' : k ≤ p := by omega
   simp only [List.getElem_take, decide_eq_true_eq]
   rcases Nat.lt_or_eq_of_le hk' with h | rfl
   ·have := List.pairwise_iff_getElem.1 hs k p (by omega) hp h; omega
   ·omega
  have c : s.countP (fun y => decide (s[p] < y)) = (s.take (p + 1)).countP (fun y => decide (s[p] < y)) + (s.drop (p + 1)).countP (fun y => decide (s[p] < y)) := by
   rw [← List.countP_append, List.take_append_drop]
  rw [c, z]
  have := List.countP_le_length (p := fun y => decide (s[p] < y)) (l := s.drop (p + 1))
  simp only [List.length_drop] at this
  omega
 have h2 : s.length - p ≤ above s s[p] + same s s[p] := by
  rw [above_same]
  have c : s.countP (fun y => decide (s[p] ≤ y)) = (s.take p).countP (fun y => decide (s[p] ≤ y)) + (s.drop p).countP (fun y => decide (s[p] ≤ y)) := by
   rw [← List.countP_append, List.take_append_drop]
  have z : (s.drop p).countP (fun y => decide (s[p] ≤ y)) = (s.drop p).length := by
   rw [List.countP_eq_length]
   intro y hy
   obtain ⟨k, hk, rfl⟩ := List.getElem_of_mem hy
   simp only [List.length_drop] at hk
   simp only [List.getElem_drop, decide_eq_true_eq]
   rcases Nat.eq_zero_or_pos k with rfl | h
   ·simp
   ·exact List.pairwise_iff_getElem.1 hs p (p + k) hp (by omega) (by omega)
  rw [c, z, List.length_drop]; omega
 simp only [isNth, Bool.and_eq_true, decide_eq_true_eq]
 omega
theorem nth_sorted (l s : List Int) (hp : s.Perm l) (hs : s.Pairwise (· ≤ ·)) (i : Nat) (h1 : 1 ≤ i) (h2 : i ≤ l.length) : nth l i = s[s.length - i]'(by have := hp.length_eq; omega) := by
 have hl := hp.length_eq
 have hn := sorted_isNth s hs (s.length - i) (by omega)
 have e : ((s.length : Int) - ((s.length - i : Nat) : Int)) = (i : Int) := by omega
 rw [e] at hn
 have hn' : isNth l i s[s.length - i] = true := by
  unfold isNth at hn ⊢; rwa [above_perm hp, same_perm hp] at hn
 unfold nth nthFrom
 cases hf : l.find? (isNth l i) with
 | none =>
  rw [List.find?_eq_none] at hf
  exact absurd hn' (hf _ (hp.mem_iff.1 (List.getElem_mem _)))
 | some y =>
  have := List.find?_some hf
  exact isNth_unique l i _ _ this hn'
open Go.RowKit
def QIsRow (k : IntKind) (w : World) (a : Option Addr) (len cap : Nat) (zs : List Int) : Prop :=
 (a = none ∧ len = 0 ∧ cap = 0 ∧ zs = []) ∨
 ∃ x, a = some x ∧ len ≤ cap ∧ cap ≤ maxLen ∧ zs.length = cap ∧ (∀ i, i < zs.length → w.cell? (x.add i) = some (.int k (zs.getD i 0))) ∧ ∀ n ∈ zs, (Lit.int k n).wf = true
def QRow (w : World) (a : Option Addr) (zs : List Int) : Prop :=
 zs.length ≤ maxLen ∧ (zs = [] ∨ ∃ b off, a = some ⟨b, off, none⟩ ∧ b < w.heap.size ∧ ∀ j, j < zs.length → w.cell? ⟨b, off + j, none⟩ = some (.int .i64 (zs[j]?.getD 0)))
theorem QRow.below {w w' : World} {a : Option Addr} {zs : List Int} (h : QRow w a zs) (hb : Below w.heap.size w w') : QRow w' a zs := by
 refine ⟨h.1, ?_⟩
 rcases h.2 with h | ⟨b, off, rfl, h1, h2⟩
 ·exact Or.inl h
 ·exact Or.inr ⟨b, off, rfl, Nat.lt_of_lt_of_le h1 hb.size, fun j hj => (hb.cell (p := ⟨b, off + j, none⟩) h1).trans (h2 j hj)⟩
theorem block_lt {w : World} {a : Addr} {v : Value} (h : w.cell? a = some v) : a.block < w.heap.size := by
 rcases Nat.lt_or_ge a.block w.heap.size with h' | h'
 ·exact h'
 ·simp [World.cell?, h'] at h
theorem QIsRow.cells {k : IntKind} {w : World} {a : Option Addr} {len cap : Nat} {zs : List Int} (h : QIsRow k w a len cap zs) :
  len ≤ cap ∧ cap ≤ maxLen ∧ (zs.take len).length = len ∧ (∀ z ∈ zs.take len, (Lit.int k z).wf = true) ∧ (zs.take len = [] ∨ ∃ b off, a = some ⟨b, off, none⟩ ∧ b < w.heap.size ∧ ∀ j, j < (zs.take len).length → w.cell? ⟨b, off + j, none⟩ = some (.int k ((zs.take len)[j]?.getD 0))) := by
 rcases h with ⟨rfl, rfl, rfl, rfl⟩ | ⟨x, rfl, hl, hm, hz, hcell, hwz⟩
 ·simp
 ·refine ⟨hl, hm, by rw [List.length_take]; omega, fun z hz => hwz z (List.mem_of_mem_take hz), ?_⟩
  by_cases h0 : len = 0
  ·left; simp [h0]
  ·right
   obtain ⟨b, off, spot⟩ := x
   have hc := hcell 0 (by omega)
   have hspot : spot = none := by simpa [Addr.add] using World.cell?_spot hc
   subst hspot
   refine ⟨b, off, rfl, ?_, fun j hj => ?_⟩
   ·have := block_lt hc; simpa [Addr.add] using this
   ·rw [List.length_take] at hj
    have hcj := hcell j (by omega)
    have e1 : (zs.take len)[j]?.getD 0 = zs.getD j 0 := by
     rw [List.getD_eq_getElem?_getD, List.getElem?_take, if_pos (by omega)]
    rw [e1]
    by_cases hj0 : j = 0
    ·subst hj0; simpa [Addr.add] using hcj
    ·simpa [Addr.add, hj0] using hcj
open Sha
set_option maxRecDepth 20000 in
set_option maxHeartbeats 2000000 in
theorem pad_any (ka : Option Addr) (kc : Nat) (key : List Int) (x : Int) (w : World) (hk : RowAt w ka key) (hkl : key.length ≤ 1000000) :
   Calls Tryz.prog 91 #[.slice ka key.length kc, .int .u8 x] w fun e w' => ∃ v, e = .returned v ∧ w'.ownsRow w.heap.size 5 1 v 64 (v8 (xorL x (macBlock key))) ∧ Below w.heap.size w w' := by
  obtain ⟨i0, hi, hz0, hz1, hz2⟩ := info_parts info8
  obtain ⟨kb, HB⟩ : ∃ kb, Hid (macBlock key = kb) := ⟨_, rfl⟩
  have HL : Hid (kb.length = 64) := by show _ = _; rw [← HB.out]; exact macBlock_len key
  rw [HB.out]
  by_cases hlong : 64 < key.length
  · have hlI : (64 : Int) < key.length := by omega
    have ek : macKey key = sha key := by unfold macKey; rw [if_pos hlong]
    have HKB0 : Hid (sha key ++ List.replicate (64 - (sha key).length) 0 = kb) := by show _ = _; rw [← HB.out]; unfold macBlock; rw [ek]
    have c1 := refSum_any ka kc key w hk hkl
    obtain ⟨ks, hks0⟩ : ∃ ks, Hid (sha key = ks) := ⟨_, rfl⟩
    have hkl' : ks.length = 32 := by rw [← hks0.out]; exact sha_length _
    have hko : ∀ z ∈ ks, 0 ≤ z ∧ z < 256 := by rw [← hks0.out]; exact sha_ok _
    rw [hks0.out] at c1 HKB0
    have HKB := HKB0
    clear hks0 ek HKB0 HB
    go_enter Tryz.func91, Tryz.ntmps91
    go_wp2_with fail
    refine c1.mono ?_
    rintro e w0 ⟨rfl, hw0⟩
    clear c1
    go_wp2_with fail
    refine (bytes_any ks w0 hkl').mono ?_
    rintro e w1 ⟨v1, rfl, hown1, hw1⟩
    obtain ⟨ka, kc, rfl, hc1, hc2, hrow⟩ := own_bytes hown1 hko (by rw [hkl']; unfold maxLen; omega)
    have hBw : Below w.heap.size w w1 := hw0.trans (hw1.mono hw0.size)
    clear hown1 hw1 hw0
    have hk32 : ks.length ≤ 64 := by omega
    clear hkl' hk
    have hsz1 : (w1.heap.size : Nat) = w1.heap.size := rfl
    go_wp2_with fail
    go_loopw [5, 6] (fun v i wr => ∃ k : Nat, k ≤ 64 ∧ i = .int .i64 (k : Int) ∧ wr.ownsRow w1.heap.size 5 1 v k (v8 ((xorL x kb).take k)) ∧ Below w1.heap.size w1 wr) (fun _ i _ => 64 - (intOf i).toNat)
    case atStart => exact ⟨0, by omega, rfl, by simpa [v8] using World.ownsRow_nil w1 w1.heap.size 5 1, Below.refl _ _⟩
    case round =>
      obtain ⟨k, hk, rfl, hown, hB⟩ := hrel
      by_cases hlt : k < 64
      · have hsz := hB.size
        obtain ⟨z, hz⟩ : ∃ z, Hid (kb.getD k 0 = z) := ⟨_, rfl⟩
        have HE : Hid (bits .xor .u8 z x = xorB x z) := rfl
        have hown2 := owns_below hown ((Below.refl wr.heap.size wr).alloc (Nat.le_refl _) (.cells #[.int .u8 (xorB x z)] 5))
        have hB2 : Below w1.heap.size w1 (wr.alloc (.cells #[.int .u8 (xorB x z)] 5)) := hB.alloc (by omega) _
        have hsrc2 := byte_src wr (xorB x z)
        have hfin : Hid ((xorL x kb).take (k + 1) = (xorL x kb).take k ++ [xorB x z]) := by
          show _ = _
          have hl : k < (xorL x kb).length := by rw [xorL_len, HL.out]; exact hlt
          have hl' : k < kb.length := by rw [HL.out]; exact hlt
          rw [List.take_succ_eq_append_getElem hl]
          congr 2
          simp only [xorL, List.getElem_map]
          rw [← hz.out, List.getD_eq_getElem?_getD, List.getElem?_eq_getElem hl']; rfl
        rw [← HE.out] at hown2 hB2 hsrc2
        by_cases hks : k < ks.length
        · obtain ⟨b, off, rfl, hbs, hrg⟩ : ∃ b off, ka = some ⟨b, off, none⟩ ∧ b < w1.heap.size ∧ w1.rangeAt b off (v8 ks) := by
            rcases hrow.2.2 with rfl | q
            · simp at hks
            · exact q
          have hc : wr.cell? ⟨b, off + k, none⟩ = some (.int .u8 z) := by
            have := get8 (range_below hrg hB hbs) (i := k) hks
            have e : ks.getD k 0 = z := by
              rw [← hz.out, ← HKB.out, List.getD_eq_getElem?_getD, List.getD_eq_getElem?_getD, List.getElem?_append_left hks]
            rwa [e] at this
          go_wp2_with (at_builtin; refine wpList_append_own_src _ rfl _ _ 57 57 rfl w1.heap.size 5 i0 (.int .u8 0) 1 1 Tryz.underlying57 hi hz0 hz1 hz2 rfl _ k _ rfl hown2 _ 1 _ rfl hsrc2 ?c1 ?c2 ?c3 ?_)
          case c1 => unfold maxLen; omega
          case c2 => omega
          case c3 => simp; omega
          intro v4 w4 hown4 hgr4
          have hB4 := below_grown hB2 (by simp; omega) hown2 hgr4
          clear hown2 hB2 hsrc2 hgr4 hown
          go_wp2_with fail
          go_roundw
          case rel =>
            refine ⟨k + 1, by omega, by go_num, ?_, hB4⟩
            rw [hfin.out, v8_append, ← HE.out]; exact hown4
          case measure => simp [intOf]; omega
        · have hzz : z = 0 := by
            rw [← hz.out, ← HKB.out, List.getD_eq_getElem?_getD, List.getElem?_append_right (by omega), List.getElem?_replicate]
            split <;> rfl
          subst hzz
          go_wp2_with (at_builtin; refine wpList_append_own_src _ rfl _ _ 57 57 rfl w1.heap.size 5 i0 (.int .u8 0) 1 1 Tryz.underlying57 hi hz0 hz1 hz2 rfl _ k _ rfl hown2 _ 1 _ rfl hsrc2 ?e1 ?e2 ?e3 ?_)
          case e1 => unfold maxLen; omega
          case e2 => omega
          case e3 => simp; omega
          intro v4 w4 hown4 hgr4
          have hB4 := below_grown hB2 (by simp; omega) hown2 hgr4
          clear hown2 hB2 hsrc2 hgr4 hown
          go_wp2_with fail
          go_roundw
          case rel =>
            refine ⟨k + 1, by omega, by go_num, ?_, hB4⟩
            rw [hfin.out, v8_append, ← HE.out]; exact hown4
          case measure => simp [intOf]; omega
      · have hk64 : k = 64 := by omega
        subst hk64
        have hall : Hid ((xorL x kb).take 64 = xorL x kb) := by
          show _ = _
          rw [List.take_of_length_le (by rw [xorL_len, HL.out]; omega)]
        rw [hall.out] at hown
        go_wp2
        go_ret
        exact ⟨_, rfl, owns_mono hown hBw.size, hBw.trans (hB.mono hBw.size)⟩
  · have hlI : ¬ (64 : Int) < key.length := by omega
    have ek : macKey key = key := by unfold macKey; rw [if_neg hlong]
    have HKB : Hid (key ++ List.replicate (64 - key.length) 0 = kb) := by show _ = _; rw [← HB.out]; unfold macBlock; rw [ek]
    have hrow := hk
    have hBw := Below.refl w.heap.size w
    clear HB ek
    go_enter Tryz.func91, Tryz.ntmps91
    have hsz1 : (w.heap.size : Nat) = w.heap.size := rfl
    go_wp2_with fail
    go_loopw [5, 6] (fun v i wr => ∃ k : Nat, k ≤ 64 ∧ i = .int .i64 (k : Int) ∧ wr.ownsRow w.heap.size 5 1 v k (v8 ((xorL x kb).take k)) ∧ Below w.heap.size w wr) (fun _ i _ => 64 - (intOf i).toNat)
    case atStart => exact ⟨0, by omega, rfl, by simpa [v8] using World.ownsRow_nil w w.heap.size 5 1, Below.refl _ _⟩
    case round =>
      obtain ⟨k, hk, rfl, hown, hB⟩ := hrel
      by_cases hlt : k < 64
      · have hsz := hB.size
        obtain ⟨z, hz⟩ : ∃ z, Hid (kb.getD k 0 = z) := ⟨_, rfl⟩
        have HE : Hid (bits .xor .u8 z x = xorB x z) := rfl
        have hown2 := owns_below hown ((Below.refl wr.heap.size wr).alloc (Nat.le_refl _) (.cells #[.int .u8 (xorB x z)] 5))
        have hB2 : Below w.heap.size w (wr.alloc (.cells #[.int .u8 (xorB x z)] 5)) := hB.alloc (by omega) _
        have hsrc2 := byte_src wr (xorB x z)
        have hfin : Hid ((xorL x kb).take (k + 1) = (xorL x kb).take k ++ [xorB x z]) := by
          show _ = _
          have hl : k < (xorL x kb).length := by rw [xorL_len, HL.out]; exact hlt
          have hl' : k < kb.length := by rw [HL.out]; exact hlt
          rw [List.take_succ_eq_append_getElem hl]
          congr 2
          simp only [xorL, List.getElem_map]
          rw [← hz.out, List.getD_eq_getElem?_getD, List.getElem?_eq_getElem hl']; rfl
        rw [← HE.out] at hown2 hB2 hsrc2
        by_cases hks : k < key.length
        · obtain ⟨b, off, rfl, hbs, hrg⟩ : ∃ b off, ka = some ⟨b, off, none⟩ ∧ b < w.heap.size ∧ w.rangeAt b off (v8 key) := by
            rcases hrow.2.2 with rfl | q
            · simp at hks
            · exact q
          have hc : wr.cell? ⟨b, off + k, none⟩ = some (.int .u8 z) := by
            have := get8 (range_below hrg hB hbs) (i := k) hks
            have e : key.getD k 0 = z := by
              rw [← hz.out, ← HKB.out, List.getD_eq_getElem?_getD, List.getD_eq_getElem?_getD, List.getElem?_append_left hks]
            rwa [e] at this
          go_wp2_with (at_builtin; refine wpList_append_own_src _ rfl _ _ 57 57 rfl w.heap.size 5 i0 (.int .u8 0) 1 1 Tryz.underlying57 hi hz0 hz1 hz2 rfl _ k _ rfl hown2 _ 1 _ rfl hsrc2 ?f1 ?f2 ?f3 ?_)
          case f1 => unfold maxLen; omega
          case f2 => omega
          case f3 => simp; omega
          intro v4 w4 hown4 hgr4
          have hB4 := below_grown hB2 (by simp; omega) hown2 hgr4
          clear hown2 hB2 hsrc2 hgr4 hown
          go_wp2_with fail
          go_roundw
          case rel =>
            refine ⟨k + 1, by omega, by go_num, ?_, hB4⟩
            rw [hfin.out, v8_append, ← HE.out]; exact hown4
          case measure => simp [intOf]; omega
        · have hzz : z = 0 := by
            rw [← hz.out, ← HKB.out, List.getD_eq_getElem?_getD, List.getElem?_append_right (by omega), List.getElem?_replicate]
            split <;> rfl
          subst hzz
          go_wp2_with (at_builtin; refine wpList_append_own_src _ rfl _ _ 57 57 rfl w.heap.size 5 i0 (.int .u8 0) 1 1 Tryz.underlying57 hi hz0 hz1 hz2 rfl _ k _ rfl hown2 _ 1 _ rfl hsrc2 ?g1 ?g2 ?g3 ?_)
          case g1 => unfold maxLen; omega
          case g2 => omega
          case g3 => simp; omega
          intro v4 w4 hown4 hgr4
          have hB4 := below_grown hB2 (by simp; omega) hown2 hgr4
          clear hown2 hB2 hsrc2 hgr4 hown
          go_wp2_with fail
          go_roundw
          case rel =>
            refine ⟨k + 1, by omega, by go_num, ?_, hB4⟩
            rw [hfin.out, v8_append, ← HE.out]; exact hown4
          case measure => simp [intOf]; omega
      · have hk64 : k = 64 := by omega
        subst hk64
        have hall : Hid ((xorL x kb).take 64 = xorL x kb) := by
          show _ = _
          rw [List.take_of_length_le (by rw [xorL_len, HL.out]; omega)]
        rw [hall.out] at hown
        go_wp2
        go_ret
        exact ⟨_, rfl, owns_mono hown hBw.size, hBw.trans (hB.mono hBw.size)⟩
theorem exec_append {P : Program} {o : Oper} {a : Act} {w w' : World} {s x : Operand} {t tx : TypeId} {v xv v' : Value} (ho : o.op = .call { callee := .builtin .append, args := #[s, x], argTypes := #[t, tx] }) (hv : a.eval s = v) (hx : a.eval x = xv)
    (hr : (Builtin.append_ #[t, tx] o.type #[v, xv]).run P w = .ok v' w') : (execOp a.eval o).run P w = .ok (.value v') w' := by
  unfold execOp
  simp only [ho, resolve, invoke, builtin, Sem.run_bind, Sem.run_pure, Result.andThen_ok, List.map_toArray, List.map_cons, List.map_nil, hv, hx, hr]
theorem append_bytes {w : World} {B : Nat} {v : Value} {zs ys : List Int} {a : Option Addr} {cap : Nat} (ty : TypeId) (hB : B ≤ w.heap.size) (ho : w.ownsRow B 5 1 v zs.length (v8 zs)) (hz : ∀ z ∈ zs, 0 ≤ z ∧ z < 256) (hy : RowAt w a ys) (hl : zs.length + ys.length ≤ 10000000) :
  ∃ a' cap' w', (Builtin.append_ #[57, 57] ty #[v, .slice a ys.length cap]).run Tryz.prog w = .ok (.slice a' (zs ++ ys).length cap') w' ∧ w'.ownsRow B 5 1 (.slice a' (zs ++ ys).length cap') (zs ++ ys).length (v8 (zs ++ ys)) ∧ RowAt w' a' (zs ++ ys) ∧ (zs ++ ys).length ≤ cap' ∧ cap' ≤ maxLen ∧ w.grownBy w' v.ownBlock := by
 obtain ⟨i0, hi, hz0, hz1, hz2⟩ := info_parts info8
 obtain ⟨v', w', hr, hown, hgr⟩ := run_append_own_src (P := Tryz.prog) w B 57 57 ty 5 i0 (.int .u8 0) 1 1 Tryz.underlying57 hi hz0 hz1 hz2 rfl v zs.length (v8 zs) ho (.slice a ys.length cap) ys.length (v8 ys) (hy.src cap) (by unfold maxLen; omega) (by omega) hB
 rw [← v8_append, ← List.length_append] at hown
 obtain ⟨a', cap', rfl, h1, h2, h3⟩ := own_bytes hown (fun z hz' => by
  rcases List.mem_append.1 hz' with q | q
  ·exact hz z q
  ·exact hy.2.1 z q) (by rw [List.length_append]; unfold maxLen; omega)
 exact ⟨a', cap', w', hr, hown, h3, h1, h2, hgr⟩
theorem own_low {w : World} {B : Nat} {e : TypeId} {v : Value} {n : Nat} {xs : List Value} (h : w.ownsRow B e 1 v n xs) : ∀ k, v.ownBlock = some k → B ≤ k := by
 intro k hk
 rcases h.2 with ⟨rfl, _⟩ | ⟨g, cap, cur, rfl, hb, _⟩
 ·simp [Value.ownBlock] at hk
 ·have : g = k := by simpa [Value.ownBlock] using hk
  omega
set_option maxRecDepth 20000 in
set_option maxHeartbeats 2000000 in
theorem refMac_any (ka : Option Addr) (kc : Nat) (key : List Int) (a : Option Addr) (cap : Nat) (zs : List Int) (w : World) (hk : RowAt w ka key) (hkl : key.length ≤ 900000) (h : RowAt w a zs) (hl : zs.length ≤ 900000) :
   Calls Tryz.prog 55 #[.slice ka key.length kc, .slice a zs.length cap] w fun e w' => e = .returned (.agg (v8 (mac key zs)).toArray) ∧ Below w.heap.size w w' := by
  have hB0 : Below w.heap.size w (w.alloc (.cells (Array.replicate 32 (.int .u8 0)) 32)) := (Below.refl _ _).alloc (Nat.le_refl _) _
  have hT0 := (new_bytes w 32 32).2
  have cp := pad_any ka kc key 54 _ (hk.below hB0) (by omega)
  obtain ⟨k1, hk1⟩ : ∃ k1, Hid (xorL 54 (macBlock key) = k1) := ⟨_, rfl⟩
  have hl1 : k1.length = 64 := by rw [← hk1.out, xorL_len]; exact macBlock_len key
  have ho1 : ∀ z ∈ k1, 0 ≤ z ∧ z < 256 := by rw [← hk1.out]; exact xorL_ok _ _
  obtain ⟨k2, hk2⟩ : ∃ k2, Hid (xorL 92 (macBlock key) = k2) := ⟨_, rfl⟩
  have hl2 : k2.length = 64 := by rw [← hk2.out, xorL_len]; exact macBlock_len key
  have ho2 : ∀ z ∈ k2, 0 ≤ z ∧ z < 256 := by rw [← hk2.out]; exact xorL_ok _ _
  have HM : Hid (mac key zs = sha (k2 ++ sha (k1 ++ zs))) := by rw [← hk1.out, ← hk2.out]; rfl
  rw [hk1.out] at cp
  clear hk1
  go_enter Tryz.func55, Tryz.ntmps55
  go_wp2_with fail
  refine cp.mono ?_
  rintro e w1 ⟨v1, rfl, hown1, hw1⟩
  clear cp
  have hB1 := hB0.trans (hw1.mono hB0.size)
  have hs1 := hw1.size
  have hT1 := there_below hT0 hw1 (by simp)
  have hown1' : w1.ownsRow (w.heap.size + 1) 5 1 v1 k1.length (v8 k1) := by rw [hl1]; simpa using hown1
  simp only [World.size_alloc] at hs1
  obtain ⟨i0, hi, hz0, hz1, hz2⟩ := info_parts info8
  have hsrc := (h.below hB1).src cap
  go_wp2_with (at_builtin; refine wpList_append_own_src _ rfl _ _ 57 57 rfl (w.heap.size + 1) 5 i0 (.int .u8 0) 1 1 Tryz.underlying57 hi hz0 hz1 hz2 rfl _ k1.length _ rfl hown1' _ zs.length _ rfl hsrc ?c1 ?c2 ?c3 ?_)
  case c1 => unfold maxLen; omega
  case c2 => omega
  case c3 => omega
  intro v2 w2 hown2 hgr2
  have e12 : 64 + zs.length = (k1 ++ zs).length := by rw [List.length_append, hl1]
  rw [← v8_append, e12] at hown2
  clear e12
  obtain ⟨a2, cap2, rfl, _, _, hrow2⟩ := own_bytes hown2 (fun z hz' => by
    rcases List.mem_append.1 hz' with q | q
    · exact ho1 z q
    · exact h.2.1 z q) (by rw [List.length_append]; unfold maxLen; omega)
  clear hi hz0 hz1 hz2 hsrc
  have hB2a : Below (w.heap.size + 1) w1 w2 := (Below.refl _ _).grown hgr2 (by omega) (own_low hown1')
  have hB2 : Below w.heap.size w w2 := hB1.trans (hB2a.mono (by omega))
  have hT2 := there_below hT1 hB2a (by omega)
  have hs2 := hB2a.size
  have c2 := refSum_any a2 cap2 (k1 ++ zs) w2 hrow2 (by rw [List.length_append]; omega)
  obtain ⟨d, hd⟩ : ∃ d, Hid (sha (k1 ++ zs) = d) := ⟨_, rfl⟩
  have hdl : d.length = 32 := by rw [← hd.out]; exact sha_length _
  have hdo : ∀ z ∈ d, 0 ≤ z ∧ z < 256 := by rw [← hd.out]; exact sha_ok _
  rw [hd.out] at c2 HM
  clear hd hown1 hown1' hown2 hgr2 hrow2
  generalize (k1 ++ zs).length = n2 at *
  go_wp2_with fail
  refine c2.mono ?_
  rintro e w3 ⟨rfl, hw3⟩
  clear c2
  have hB3 := hB2.trans (hw3.mono hB2.size)
  have hT3 := there_below hT2 hw3 (by omega)
  have hs3 := hw3.size
  have F := fresh_store w3 (Array.replicate 32 (.int .u8 0)) 32 (v8 d) (by rw [v8_length, hdl]; rfl)
  have hN := there24 w3 d hdl
  have hi := info24 d hdl
  have h1c := all_oneCell_toArray (v8_one d)
  go_upto_region 2 with (refine wpList_store_mid (op := ⟨none, .store 32 (.tmp 5) (.tmp 10), _, _, _, none⟩) rfl 32 _ _ rfl _ _ (v8 d).toArray rfl rfl hN hi h1c ?_)
  go_name_world w4 hw4
  rw [show (w3.alloc (.cells (Array.replicate 32 (.int .u8 0)) 32)).setCells w3.heap.size 0 (v8 d) = w4 from hw4] at F
  obtain ⟨hR4, hB4', hz4', _⟩ := F
  have hz4 : w3.heap.size < w4.heap.size := by omega
  clear hz4' hw4 hN h1c hw3
  have hB4 := hB3.trans (hB4'.mono hB3.size)
  have hT4 := there_below hT3 hB4' (by omega)
  try simp only [Act.put]
  obtain ⟨I, hI⟩ : ∃ I, w3.heap.size = I := ⟨_, rfl⟩
  rw [hI] at hR4 hz4 ⊢
  have hIl : w.heap.size < I := by omega
  clear hI hB4' hT3 hT2 hT1 hT0 hB3 hB2a hB2 hB1 hB0 hs1 hs2 hs3
  have hi' : (Tryz.prog.info? 32).map (·.size) = some (v8 d).length := by simpa using hi
  go_wp2_with fail
  refine hs_begin (S := (fun W : World => W.rangeAt I 0 (v8 d))) 7 rfl (by kernel_rfl) ?_
  have hS : (fun W : World => W.rangeAt I 0 (v8 d)) w4.drew := (World.rangeAt_drew _ _ _ _).2 hR4
  have hB5 : Below w.heap.size w w4.drew := hB4.drew
  have hT5 : w4.drew.there w.heap.size 0 32 := hT4
  have hz5 : I < w4.drew.heap.size := hz4
  generalize w4.drew = w5 at hS hB5 hT5 hz5 ⊢
  refine hs_t 0 11 (?_) rfl (by kernel_rfl) (by kernel_rfl) (by kernel_rfl) (by rfl) ?_ hS rfl ?_
  rotate_left
  · intro w' hw
    go_simp
    try with_reducible rfl
  simp only [nz]
  refine hs_t 2 13 (.agg (v8 d).toArray) rfl (by kernel_rfl) (by kernel_rfl) (by kernel_rfl) (by rfl) (fun w' hw => exec_load rfl rfl (run_loadVar_mid (P := Tryz.prog) w' I 0 32 (v8 d) _ hw Tryz.underlying32 rfl hi')) hS rfl ?_
  simp only [nz]
  have cp := pad_any ka kc key 92 w5 (hk.below hB5) (by omega)
  rw [hk2.out] at cp
  refine hs_call (i := 1) (d := some 12) rfl (by kernel_rfl) (by rfl) (by go_simp; first | done | exact ⟨rfl, rfl⟩ | with_reducible rfl) rfl ?_
  refine (cp).mono ?_
  rintro e' w6 ⟨v6, rfl, hown6, hw6⟩
  have hS : (fun W : World => W.rangeAt I 0 (v8 d)) w6 := range_below hS hw6 hz5
  refine ⟨_, rfl, hS, ?_⟩
  simp only [nz]
  have hB6 := hB5.trans (hw6.mono hB5.size)
  have hT6 := there_below hT5 hw6 (by omega)
  have hs6 := hw6.size
  clear cp
  refine hs_call (i := 3) (d := some 14) rfl (by kernel_rfl) (by rfl) (by go_simp; first | done | exact ⟨rfl, rfl⟩ | with_reducible rfl) rfl ?_
  refine (bytes_any d w6 hdl).mono ?_
  rintro e' w7 ⟨v7, rfl, hown7, hw7⟩
  have hS : (fun W : World => W.rangeAt I 0 (v8 d)) w7 := range_below hS hw7 (by omega)
  refine ⟨_, rfl, hS, ?_⟩
  simp only [nz]
  have hB7 := hB6.trans (hw7.mono hB6.size)
  have hT7 := there_below hT6 hw7 (by omega)
  have hs7 := hw7.size
  have hown6' : w7.ownsRow w5.heap.size 5 1 v6 k2.length (v8 k2) := by rw [hl2]; exact owns_below hown6 hw7
  obtain ⟨a7, cap7, rfl, _, _, hrow7⟩ := own_bytes hown7 hdo (by rw [hdl]; unfold maxLen; omega)
  obtain ⟨a8, cap8, w8, hr8, hown8, hrow8, _, _, hgr8⟩ := append_bytes (cap := cap7) 57 (by omega) hown6' ho2 hrow7 (by omega)
  have hB8a : Below w5.heap.size w7 w8 := (Below.refl _ _).grown hgr8 (by omega) (own_low hown6')
  have hB8 : Below w.heap.size w w8 := hB7.trans (hB8a.mono hB5.size)
  have hT8 := there_below hT7 hB8a (by omega)
  have hs8 := hB8a.size
  have hS : (fun W : World => W.rangeAt I 0 (v8 d)) w8 := range_below hS hB8a (by omega)
  refine hs_run (i := 4) (d := some 15) (v := .slice a8 (k2 ++ d).length cap8) (w' := w8) rfl (by kernel_rfl) (by rfl) (exec_append rfl rfl rfl hr8) rfl hS ?_
  simp only [nz]
  have c9 := refSum_any a8 cap8 (k2 ++ d) w8 hrow8 (by rw [List.length_append]; omega)
  obtain ⟨m, hm⟩ : ∃ m, Hid (sha (k2 ++ d) = m) := ⟨_, rfl⟩
  have hml : m.length = 32 := by rw [← hm.out]; exact sha_length _
  rw [hm.out] at c9 HM
  clear hr8
  generalize (k2 ++ d).length = n8 at *
  refine hs_call (i := 5) (d := some 16) rfl (by kernel_rfl) (by rfl) (by go_simp; first | done | exact ⟨rfl, rfl⟩ | with_reducible rfl) rfl ?_
  refine (c9).mono ?_
  rintro e' w9 ⟨rfl, hw9⟩
  have hS : (fun W : World => W.rangeAt I 0 (v8 d)) w9 := range_below hS hw9 (by omega)
  refine ⟨_, rfl, hS, ?_⟩
  simp only [nz]
  have hB9 := hB8.trans (hw9.mono hB8.size)
  have hT9 := there_below hT8 hw9 (by omega)
  have hT9' : w9.there w.heap.size 0 (v8 m).toArray.size := by
    have e : (v8 m).toArray.size = 32 := by rw [List.size_toArray, v8_length, hml]
    rw [e]; exact hT9
  have hst := run_storeVar_mid (P := Tryz.prog) w9 w.heap.size 0 32 (v8 m).toArray hT9' (info24 m hml) (all_oneCell_toArray (v8_one m))
  have hSn := World.rangeAt_setCells_apart hS w.heap.size 0 (v8 m) (Or.inl (by omega))
  refine hs_store (i := 6) (w' := w9.setCells w.heap.size 0 (v8 m)) rfl (by kernel_rfl) (by rfl) (exec_store rfl rfl rfl hst) rfl hSn ?_
  refine hs_done (by kernel_rfl) ?_
  have hRr := World.rangeAt_setCells_same w9 w.heap.size 0 (v8 m) (by rw [v8_length, hml]; exact hT9)
  have hBl := below_sets (Nat.le_refl w.heap.size) (v8 m) 0 w9 hB9
  have hrs := run_loadVar_mid (P := Tryz.prog) (w9.setCells w.heap.size 0 (v8 m)) w.heap.size 0 32 (v8 m) _ hRr Tryz.underlying32 rfl (by simpa using info24 m hml)
  go_wp2
  refine bodyPost_ret (v := .agg (v8 m).toArray) (by simp [results, Tryz.results55, asAddr, hrs]) rfl ⟨by rw [HM.out], hBl⟩
open Sha Tal
def keyOf (seed : ByteArray) (id : Nat) : List Int := sha (textL seed ++ putL (id : Int))
def keysOf (seed : ByteArray) (n : Nat) : List (List Int) := (List.range n).map (keyOf seed)
theorem keysOf_length (seed : ByteArray) (n : Nat) : (keysOf seed n).length = n := by simp [keysOf]
theorem keysOf_get (seed : ByteArray) (n i : Nat) (d : List Int) (h : (keysOf seed n)[i]? = some d) : i < n ∧ d = keyOf seed i := by
 have hi : i < n := by have := (List.getElem?_eq_some_iff.1 h).1; simpa [keysOf] using this
 refine ⟨hi, ?_⟩
 simp [keysOf, List.getElem?_map, List.getElem?_range hi] at h
 exact h.symm
theorem keysOf_getD (seed : ByteArray) (n i : Nat) (h : i < n) : (keysOf seed n).getD i [] = keyOf seed i := by
 rw [List.getD_eq_getElem?_getD, keysOf, List.getElem?_map, List.getElem?_range h]; rfl
theorem keyOf_length (seed : ByteArray) (id : Nat) : (keyOf seed id).length = 32 := sha_length _
theorem keyOf_ok (seed : ByteArray) (id : Nat) : ∀ z ∈ keyOf seed id, 0 ≤ z ∧ z < 256 := sha_ok _
theorem info32 : (Tryz.prog.info? 32).map (fun i => (i.zero, i.size, i.bytes)) = some (some (.agg (Array.replicate 32 (.int .u8 0))), 32, 32) := by kernel_rfl
theorem own_there {w : World} {base : Nat} {e : TypeId} {size g n : Nat} {xs : List Value} (h : w.ownsRow base e size (.slice (some ⟨g, 0, none⟩) n n) n xs) : w.there g 0 (n * size) := by
 rcases h.2 with ⟨hv, _⟩ | ⟨g', cap, cur, hv, hb, hg, h1, h2, h3, h4⟩
 ·cases hv
 ·injection hv with ha hl hc
  simp only [Option.some.injEq, Addr.mk.injEq] at ha
  obtain ⟨rfl, _⟩ := ha
  subst hc
  intro j hj
  rw [Nat.zero_add]
  have hj' : j < cur.size := by rw [h3]; exact hj
  constructor
  ·simp [World.cell?, hg, hj']
  ·simp [World.frozen?, hg]
theorem there_mid {w : World} {g o n i m : Nat} (h : w.there g o n) (hm : i + m ≤ n) : w.there g (o + i) m := there_part h i m hm
theorem putL_pos (n : Int) (h : 0 ≤ n) : 0 < (putL n).length := by
 unfold putL; rw [if_neg (by omega)]; simp [numB]
set_option maxRecDepth 20000 in
set_option maxHeartbeats 2000000 in
theorem derive_yes (seed : ByteArray) (n : Nat) (w : World) (hG : Glob w) (hn1 : 1 ≤ n) (hn2 : n ≤ 4096) (hs : seed.size ≤ 64) :
    Calls Tryz.prog 26 #[.string seed, .int .i64 (n : Int)] w fun e w' => ∃ p, e = .returned (.pointer p) ∧ p ≠ none ∧ KeysAt w' p (keysOf seed n) ∧ Below w.heap.size w w' := by
  have t1 : ¬ (n : Int) < 1 := by omega
  have t2 : ¬ (4096 : Int) < n := by omega
  have t3 : ¬ (64 : Int) < seed.size := by omega
  obtain ⟨i0, hi, hz0, hz1, hz2⟩ := info_parts info32
  obtain ⟨w1, hmk, hown1, hgr1⟩ := run_makeSlice_full (P := Tryz.prog) w w.heap.size 100 32 i0 _ 32 Tryz.underlying100 hi hz0 hz1 .i64 .i64 n (by omega) (by rw [hz2]; omega) (by unfold maxLen; omega) (Nat.le_refl _)
  have hT1 := own_there hown1
  have hB1 : Below w.heap.size w w1 := (Below.refl _ _).grown hgr1 (Nat.le_refl _) (fun _ h => by cases h)
  have hs1 : w.heap.size < w1.heap.size := by
    have := (hT1 0 (by omega)).1
    obtain ⟨u, hu⟩ := Option.isSome_iff_exists.1 this
    exact World.block_lt_of_cell? w1 _ hu
  clear hown1 hgr1 hi hz0 hz1 hz2
  have hB2' : Below w1.heap.size w1 (w1.alloc (.cells #[.slice (some ⟨w.heap.size, 0, none⟩) n n] 102)) := (Below.refl _ _).alloc (Nat.le_refl _) _
  have hB2 := hB1.trans (hB2'.mono hB1.size)
  have hT2 := there_below hT1 hB2' hs1
  have hK2 : (w1.alloc (.cells #[.slice (some ⟨w.heap.size, 0, none⟩) n n] 102)).cell? ⟨w1.heap.size, 0, none⟩ = some (.slice (some ⟨w.heap.size, 0, none⟩) n n) := by
    rw [World.cell?_alloc_at _ _ _ _ rfl]; rfl
  have ct := putText_any none 0 [] seed (w1.alloc (.cells #[.slice (some ⟨w.heap.size, 0, none⟩) n n] 102)) (nil_row _) (by simp) (by omega)
  rw [List.nil_append] at ct
  have htl : (textL seed).length ≤ 73 ∧ 0 < (textL seed).length := by
    unfold textL
    have h1 := putL_length (seed.size : Int) (by omega)
    have h2 := putL_pos (seed.size : Int) (by omega)
    rw [List.length_append, strL_length]; omega
  have HK : Hid (∀ i, keyOf seed i = sha (textL seed ++ putL (i : Int))) := fun i => rfl
  generalize textL seed = ts at *
  go_enter Tryz.func26, Tryz.ntmps26
  go_wp2_with fail
  refine ct.mono ?_
  rintro e w3 ⟨v3, rfl, hM3, hw3⟩
  clear ct hmk
  have hB3 := hB2.trans (hw3.mono hB2.size)
  have hT3 := there_below hT2 hw3 (by simp; omega)
  have hK3 := (hw3.cell (p := ⟨w1.heap.size, 0, none⟩) (by simp)).trans hK2
  have hs3 := hw3.size
  simp only [World.size_alloc] at hs3 hM3
  obtain ⟨a, cap, rfl, hca, hcm, hrow⟩ := hM3.rowAt (by unfold maxLen; omega)
  obtain ⟨b, off, rfl, hbl, hbr, hbn⟩ : ∃ b off, a = some ⟨b, off, none⟩ ∧ b < w3.heap.size ∧ w3.rangeAt b off (v8 ts) ∧ w1.heap.size + 1 ≤ b := by
    rcases hrow.2.2 with h0 | ⟨b, off, rfl, hb, hr⟩
    · have := htl.2; rw [h0] at this; simp at this
    · exact ⟨b, off, rfl, hb, hr, (hM3.1.lt b rfl).1⟩
  have hto := hM3.2
  obtain ⟨D, hD⟩ : ∃ D, w.heap.size = D := ⟨_, rfl⟩
  obtain ⟨K, hKe⟩ : ∃ K, w1.heap.size = K := ⟨_, rfl⟩
  rw [hD] at hT3 hK3
  rw [hKe] at hK3
  have hDK : D < K := by omega
  have hKs : K < w3.heap.size := by omega
  have hDb : D < b := by omega
  have hKb : K < b := by omega
  have hwD : w.heap.size ≤ D := by omega
  clear hM3 hrow hw3 hT2 hK2 hB2 hB2' hT1 hB1
  rw [hD, hKe]
  clear hD hKe hs1 hs3 hbn
  go_wp2_with fail
  go_loopw [26] (fun i wr => ∃ k : Nat, k ≤ n ∧ i = .int .i64 (k : Int) ∧ wr.cell? ⟨K, 0, none⟩ = some (.slice (some ⟨D, 0, none⟩) n n) ∧ wr.there D 0 (n * 32) ∧ (∀ j, j < k → wr.rangeAt D (j * 32) (v8 (keyOf seed j))) ∧ wr.rangeAt b off (v8 ts) ∧ b < wr.heap.size ∧ Below w.heap.size w wr) (fun i _ => n - (intOf i).toNat)
  case atStart => exact ⟨0, by omega, rfl, hK3, hT3, fun j h => by omega, hbr, hbl, hB3⟩
  case round =>
    clear hK3 hT3 hbr hbl hB3 hKs
    obtain ⟨k, hk, rfl, hK, hT, hR, hbr, hbl, hB⟩ := hrel
    by_cases hlt : k < n
    · have hltI : (k : Int) < n := by omega
      have HR := hide hR
      clear hR
      go_wp2_with fail
      refine hs_begin (S := (fun W : World => W.cell? ⟨K, 0, none⟩ = some (.slice (some ⟨D, 0, none⟩) n n))) 12 rfl (by kernel_rfl) ?_
      have hS : (fun W : World => W.cell? ⟨K, 0, none⟩ = some (.slice (some ⟨D, 0, none⟩) n n)) wr.drew := hK
      have hB5 : Below w.heap.size w wr.drew := hB.drew
      have hT5 : wr.drew.there D 0 (n * 32) := hT
      have hR5 : ∀ j, j < k → wr.drew.rangeAt D (j * 32) (v8 (keyOf seed j)) := HR.out
      have hb5 : wr.drew.rangeAt b off (v8 ts) := hbr
      have hl5 : b < wr.drew.heap.size := hbl
      generalize wr.drew = w5 at hS hB5 hT5 hR5 hb5 hl5 ⊢
      have HR5 := hide hR5
      clear HR hbr hbl hT hK hB hR5
      refine hs_t 0 29 (?_) rfl (by kernel_rfl) (by kernel_rfl) (by kernel_rfl) (by rfl) ?_ hS rfl ?_
      rotate_left
      · intro w' hw
        go_simp
        try with_reducible rfl
      simp only [nz]
      refine hs_t 1 30 (?_) rfl (by kernel_rfl) (by kernel_rfl) (by kernel_rfl) (by rfl) ?_ hS rfl ?_
      rotate_left
      · intro w' hw
        go_simp
        try with_reducible rfl
      simp only [nz]
      refine hs_t 2 31 (?_) rfl (by kernel_rfl) (by kernel_rfl) (by kernel_rfl) (by rfl) ?_ hS rfl ?_
      rotate_left
      · intro w' hw
        go_simp
        try with_reducible rfl
      simp only [nz]
      refine hs_t 3 32 (?_) rfl (by kernel_rfl) (by kernel_rfl) (by kernel_rfl) (by rfl) ?_ hS rfl ?_
      rotate_left
      · intro w' hw
        go_simp
        try with_reducible rfl
      simp only [nz]
      refine hs_t 4 33 (?_) rfl (by kernel_rfl) (by kernel_rfl) (by kernel_rfl) (by rfl) ?_ hS rfl ?_
      rotate_left
      · intro w' hw
        go_simp
        try with_reducible rfl
      simp only [nz]
      refine hs_t 5 34 (?_) rfl (by kernel_rfl) (by kernel_rfl) (by kernel_rfl) (by rfl) ?_ hS rfl ?_
      rotate_left
      · intro w' hw
        go_simp
        try with_reducible rfl
      simp only [nz]
      refine hs_t 6 35 (?_) rfl (by kernel_rfl) (by kernel_rfl) (by kernel_rfl) (by rfl) ?_ hS rfl ?_
      rotate_left
      · intro w' hw
        go_simp
        try with_reducible rfl
      simp only [nz]
      have hrow5 : RowAt w5 (some ⟨b, off, none⟩) ts := ⟨by unfold maxLen; omega, hto, Or.inr ⟨_, _, rfl, hl5, hb5⟩⟩
      have cp := put_any (some ⟨b, off, none⟩) cap ts (k : Int) w5 hrow5 (by omega) (by omega)
      have hpl := putL_length (k : Int) (by omega)
      refine hs_call (i := 7) (d := some 36) rfl (by kernel_rfl) (by rfl) (by go_simp; first | done | exact ⟨rfl, rfl⟩ | with_reducible rfl) rfl ?_
      refine (cp).mono ?_
      rintro e' w6 ⟨v6, rfl, hM6, hw6⟩
      have hS : (fun W : World => W.cell? ⟨K, 0, none⟩ = some (.slice (some ⟨D, 0, none⟩) n n)) w6 := (hw6.cell (p := ⟨K, 0, none⟩) (show K < w5.heap.size by omega)).trans hS
      refine ⟨_, rfl, hS, ?_⟩
      simp only [nz]
      obtain ⟨a6, cap6, rfl, hc6, hm6, hrow6⟩ := hM6.rowAt (by rw [List.length_append]; unfold maxLen; omega)
      clear cp hM6
      have hs6 := hw6.size
      have hB7' : Below w6.heap.size w6 (w6.alloc (.cells #[.slice a6 (ts ++ putL (k : Int)).length cap6] 57)) := (Below.refl _ _).alloc (Nat.le_refl _) _
      have hP := one_part w6 #[.slice a6 (ts ++ putL (k : Int)).length cap6] ⟨a6, cap6, ts ++ putL (k : Int)⟩ ⟨hrow6, hc6, hm6⟩ rfl
      have hw7 := hw6.trans (hB7'.mono hw6.size)
      have hS : (fun W : World => W.cell? ⟨K, 0, none⟩ = some (.slice (some ⟨D, 0, none⟩) n n)) (w6.alloc (.cells #[.slice a6 (ts ++ putL (k : Int)).length cap6] 57)) := (hB7'.cell (p := ⟨K, 0, none⟩) (show K < w6.heap.size by omega)).trans hS
      refine hs_run (i := 8) (d := some 37) (v := .slice (some ⟨w6.heap.size, 0, none⟩) 1 1) (w' := (w6.alloc (.cells #[.slice a6 (ts ++ putL (k : Int)).length cap6] 57))) rfl (by kernel_rfl) (by rfl) (by go_simp; try with_reducible rfl) rfl hS ?_
      simp only [nz]
      have ec : cat [(⟨a6, cap6, ts ++ putL (k : Int)⟩ : Part)] = ts ++ putL (k : Int) := by simp [cat]
      have hB7 := hB5.trans (hw7.mono hB5.size)
      have csum := sum_any _ 1 _ _ (hG.below hB7) hP (by rw [ec, List.length_append]; omega)
      rw [ec, ← HK.out k] at csum
      simp only [List.length_cons, List.length_nil, Nat.zero_add] at csum
      clear hP ec hrow6
      generalize w6.alloc (.cells #[.slice a6 (ts ++ putL (k : Int)).length cap6] 57) = w7 at *
      refine hs_call (i := 9) (d := some 38) rfl (by kernel_rfl) (by rfl) (by go_simp; first | done | exact ⟨rfl, rfl⟩ | with_reducible rfl) rfl ?_
      refine (csum).mono ?_
      rintro e' w8 ⟨rfl, hw8⟩
      have hS : (fun W : World => W.cell? ⟨K, 0, none⟩ = some (.slice (some ⟨D, 0, none⟩) n n)) w8 := (hw8.cell (p := ⟨K, 0, none⟩) (show K < w7.heap.size by have := hw7.size; omega)).trans hS
      refine ⟨_, rfl, hS, ?_⟩
      simp only [nz]
      have hW8 := hw7.trans (hw8.mono hw7.size)
      have hB8 := hB5.trans (hW8.mono hB5.size)
      have hT8 := there_below hT5 hW8 (by omega)
      have hb8 := range_below hb5 hW8 hl5
      have hR8 : ∀ j, j < k → w8.rangeAt D (j * 32) (v8 (keyOf seed j)) := fun j hj => range_below (HR5.out j hj) hW8 (by omega)
      have hl8 : b < w8.heap.size := by have := hW8.size; omega
      clear csum hw8 hw7 hw6 hB7' hB7 HR5 hb5 hT5 hB5 hW8
      obtain ⟨d, hd⟩ : ∃ d, Hid (keyOf seed k = d) := ⟨_, hide rfl⟩
      have hdl : d.length = 32 := by rw [← hd.out]; exact keyOf_length _ _
      rw [hd.out]
      refine hs_t 10 39 (?_) rfl (by kernel_rfl) (by kernel_rfl) (by kernel_rfl) (by rfl) ?_ hS rfl ?_
      rotate_left
      · intro w' hw
        go_simp
        try with_reducible rfl
      simp only [nz]
      have hTk : w8.there D (k * 32) 32 := by have := there_mid hT8 (i := k * 32) (m := 32) (by omega); rwa [Nat.zero_add] at this
      have hTk' : w8.there D (k * 32) (v8 d).toArray.size := by
        have e : (v8 d).toArray.size = 32 := by rw [List.size_toArray, v8_length, hdl]
        rw [e]; exact hTk
      have hst := run_storeVar_mid (P := Tryz.prog) w8 D (k * 32) 32 (v8 d).toArray hTk' (info24 d hdl) (all_oneCell_toArray (v8_one d))
      have hRn := World.rangeAt_setCells_same w8 D (k * 32) (v8 d) (by rw [v8_length, hdl]; exact hTk)
      have hSn : (w8.setCells D (k * 32) (v8 d)).cell? ⟨K, 0, none⟩ = some (.slice (some ⟨D, 0, none⟩) n n) := by
        have := World.rangeAt_setCells_apart (b' := K) (o' := 0) (cs := [.slice (some ⟨D, 0, none⟩) n n]) (w := w8) (fun j v hv => by
          match j, hv with
          | 0, hv => simp at hv; subst hv; exact hS) D (k * 32) (v8 d) (Or.inl (by omega))
        exact this 0 _ rfl
      have hbn := World.rangeAt_setCells_apart hb8 D (k * 32) (v8 d) (Or.inl (by omega))
      have hTn := World.there_setCells hT8 D (k * 32) (v8 d)
      have hBn := below_sets hwD (v8 d) (k * 32) w8 hB8
      have hRp : ∀ j, j < k → (w8.setCells D (k * 32) (v8 d)).rangeAt D (j * 32) (v8 (keyOf seed j)) := fun j hj => World.rangeAt_setCells_apart (hR8 j hj) D (k * 32) (v8 d) (Or.inr (Or.inl (by rw [v8_length, keyOf_length]; omega)))
      have hln : b < (w8.setCells D (k * 32) (v8 d)).heap.size := by rw [size_sets]; exact hl8
      refine hs_store (i := 11) (w' := w8.setCells D (k * 32) (v8 d)) rfl (by kernel_rfl) (by rfl) (exec_store rfl rfl rfl hst) rfl hSn ?_
      refine hs_done (by kernel_rfl) ?_
      generalize w8.setCells D (k * 32) (v8 d) = w9 at *
      clear hst hTk hTk' hS hb8 hT8 hR8
      have HRn := hide hRn
      have HRp := hide hRp
      clear hRn hRp
      go_wp2_with fail
      go_roundw
      case rel =>
        refine ⟨k + 1, by omega, by go_num, hSn, hTn, fun j hj => ?_, hbn, hln, hBn⟩
        rcases Nat.lt_or_eq_of_le (Nat.lt_succ_iff.1 hj) with h | rfl
        · exact HRp.out j h
        · rw [hd.out]; exact HRn.out
      case measure => simp [intOf]; omega
    · obtain rfl : k = n := by omega
      have HR := hide hR
      clear hR
      have hKs : K < wr.heap.size := World.block_lt_of_cell? wr _ hK
      have hDs : D < wr.heap.size := by omega
      go_wp2
      go_ret
      refine ⟨_, rfl, by simp, .inr ⟨K, _, _, rfl, hKs, by rw [keysOf_length]; exact hK, by rw [keysOf_length]; exact hn2, fun d hd => ?_, .inr ⟨D, rfl, hDs, fun i d hi => ?_⟩⟩, hB⟩
      · obtain ⟨i, _, rfl⟩ := List.mem_map.1 hd
        exact ⟨keyOf_length _ _, keyOf_ok _ _⟩
      · obtain ⟨hi', rfl⟩ := keysOf_get seed k i d hi
        exact HR.out i hi'
def checkOf (r : List Int × Int) (t : List Int) : Bool := (r.2 == 0) && (r.1 == t)
set_option maxRecDepth 20000 in
set_option maxHeartbeats 1000000 in
theorem refKey_any (seed : ByteArray) (N : Int) (k : Nat) (w : World) (hs : seed.size ≤ 100000) (hk : k ≤ 100000) :
  Calls Tryz.prog 56 #[.agg #[.string seed, .int .i64 N], .int .i64 (k : Int)] w fun e w' => ∃ v, e = .returned v ∧ w'.ownsRow w.heap.size 5 1 v (keyOf seed k).length (v8 (keyOf seed k)) ∧ Below w.heap.size w w' := by
 have hB0 : Below w.heap.size w (w.alloc (.cells #[.string seed, .int .i64 N] 28)) := (Below.refl _ _).alloc (Nat.le_refl _) _
 have c1 := refPutText_any none 0 [] seed (w.alloc (.cells #[.string seed, .int .i64 N] 28)) (nil_row _) (by simp) (by omega)
 rw [List.nil_append] at c1
 have htl : (textL seed).length ≤ 100009 := by
  unfold textL
  have h1 := putL_length (seed.size : Int) (by omega)
  rw [List.length_append, strL_length]; omega
 have hpl := putL_length (k : Int) (by omega)
 have HK : Hid (keyOf seed k = sha (textL seed ++ putL (k : Int))) := rfl
 obtain ⟨d, hd⟩ : ∃ d, Hid (keyOf seed k = d) := ⟨_, hide rfl⟩
 have hdl : d.length = 32 := by rw [← hd.out]; exact keyOf_length _ _
 rw [hd.out] at HK ⊢
 generalize textL seed = ts at *
 go_enter Tryz.func56, Tryz.ntmps56
 go_wp2_with fail
 refine c1.mono ?_
 rintro e w1 ⟨v1, rfl, hM1, hw1⟩
 clear c1
 have hB1 := hB0.trans (hw1.mono hB0.size)
 obtain ⟨a1, cap1, rfl, _, _, hrow1⟩ := hM1.rowAt (by unfold maxLen; omega)
 clear hM1
 have c2 := refPut_any a1 cap1 ts (k : Int) w1 hrow1 (by omega) (by omega)
 go_wp2_with fail
 refine c2.mono ?_
 rintro e w2 ⟨v2, rfl, hM2, hw2⟩
 clear c2
 have hB2 := hB1.trans (hw2.mono hB1.size)
 obtain ⟨a2, cap2, rfl, _, _, hrow2⟩ := hM2.rowAt (by rw [List.length_append]; unfold maxLen; omega)
 clear hM2
 have c3 := refSum_any a2 cap2 (ts ++ putL (k : Int)) w2 hrow2 (by rw [List.length_append]; omega)
 rw [← HK.out] at c3
 generalize (ts ++ putL (k : Int)).length = n2 at *
 go_wp2_with fail
 refine c3.mono ?_
 rintro e w3 ⟨rfl, hw3⟩
 clear c3
 have hB3 := hB2.trans (hw3.mono hB2.size)
 go_wp2_with fail
 refine (bytes_any d w3 hdl).mono ?_
 rintro e w4 ⟨v4, rfl, hown4, hw4⟩
 have hB4 := hB3.trans (hw4.mono hB3.size)
 go_wp2
 go_ret
 exact ⟨_, rfl, owns_mono hown4 hB3.size, hB4⟩
def refSignOf (seed : ByteArray) (N id : Int) (body : ByteArray) : List Int × Int :=
 if id < 0 ∨ N ≤ id then (zeros16, 2) else ((mac (keyOf seed id.toNat) (strL body)).take 16, 0)
theorem refSignOf_length (seed : ByteArray) (N id : Int) (body : ByteArray) : (refSignOf seed N id body).1.length = 16 := by
 unfold refSignOf
 split
 ·rfl
 ·simp [mac_length]
theorem sign_same (seed : ByteArray) (n : Nat) (hn : 1 ≤ n) (id : Int) (body : ByteArray) : signOf (keysOf seed n) id body = refSignOf seed n id body := by
 unfold signOf refSignOf
 have h0 : keysOf seed n ≠ [] := fun h => by have := keysOf_length seed n; rw [h] at this; simp at this; omega
 rw [if_neg h0, keysOf_length]
 by_cases h : id < 0 ∨ (n : Int) ≤ id
 ·rw [if_pos h, if_pos h]
 ·rw [if_neg h, if_neg h, keysOf_getD seed n id.toNat (by omega)]
set_option maxRecDepth 20000 in
set_option maxHeartbeats 1000000 in
theorem refSign_any (seed : ByteArray) (N id : Int) (body : ByteArray) (w : World) (hs : seed.size ≤ 100000) (hN : N ≤ 100000) (hb : body.size ≤ 100000) :
  Calls Tryz.prog 18 #[.agg #[.string seed, .int .i64 N], .int .i64 id, .string body] w fun e w' => e = .returned (.tuple #[.agg (v8 (refSignOf seed N id body).1).toArray, .int .i64 (refSignOf seed N id body).2]) ∧ Below w.heap.size w w' := by
 go_enter Tryz.func18, Tryz.ntmps18
 go_upto_region 2 with fail
 go_name_world w1 hw1'
 have hw1 : ((w.alloc (.cells #[.string seed, .int .i64 N] 28)).alloc (.cells (Array.replicate 16 (.int .u8 0)) 51)).alloc (.cells (Array.replicate 16 (.int .u8 0)) 51) = w1 := hw1'
 have hB1 : Below w.heap.size w w1 := by rw [← hw1]; exact (((Below.refl _ _).alloc (Nat.le_refl _) _).alloc (by simp) _).alloc (by simp; omega) _
 have hs1 : w.heap.size + 2 < w1.heap.size := by rw [← hw1]; simp
 have hT1 : w1.there (w.heap.size + 1) 0 16 := by
  rw [← hw1]
  have := World.there_alloc (new_bytes (w.alloc (.cells #[.string seed, .int .i64 N] 28)) 16 51).2 (.cells (Array.replicate 16 (.int .u8 0)) 51)
  simpa using this
 have hT2 : w1.there (w.heap.size + 2) 0 16 ∧ w1.rangeAt (w.heap.size + 2) 0 (v8 zeros16) := by
  rw [← hw1]
  have := new_bytes ((w.alloc (.cells #[.string seed, .int .i64 N] 28)).alloc (.cells (Array.replicate 16 (.int .u8 0)) 51)) 16 51
  simp only [World.size_alloc] at this
  exact ⟨this.2, this.1⟩
 have hc0 : w1.cell? ⟨w.heap.size, 0, none⟩ = some (.string seed) ∧ w1.cell? ⟨w.heap.size, 1, none⟩ = some (.int .i64 N) := by
  have h0 := range_new w #[.string seed, .int .i64 N] 28
  have hb : Below (w.heap.size + 1) (w.alloc (.cells #[.string seed, .int .i64 N] 28)) w1 := by
   rw [← hw1]; exact ((Below.refl _ _).alloc (by simp) _).alloc (by simp) _
  have h1 := range_below h0 hb (by omega)
  exact ⟨h1 0 _ rfl, h1 1 _ rfl⟩
 obtain ⟨hc0, hc1⟩ := hc0
 clear hw1 hw1'
 by_cases h1 : id < 0 ∨ N ≤ id
 ·have HS : Hid (refSignOf seed N id body = (zeros16, 2)) := by show _ = _; simp [refSignOf, h1]
  have hl16 : (Tryz.prog.info? 51).map (·.size) = some (v8 zeros16).length := by simpa using info16 zeros16 rfl
  have hT1' : w1.there (w.heap.size + 1) 0 (v8 zeros16).toArray.size := hT1
  have h1t := all_oneCell_toArray (v8_one zeros16)
  have hit := info16 zeros16 rfl
  have hRr := World.rangeAt_setCells_same w1 (w.heap.size + 1) 0 (v8 zeros16) hT1
  have hBl := below_sets (show w.heap.size ≤ w.heap.size + 1 by omega) (v8 zeros16) 0 w1 hB1
  have hrs := load16 (t := zeros16) rfl hRr
  by_cases h0 : id < 0
  ·clear h1
   go_upto_region 3 with fail
   refine wp_region_list ?_
   refine wpList_load_mid rfl 51 _ rfl _ _ rfl (v8 zeros16) _ hT2.2 Tryz.underlying51 rfl hl16 ?_
   refine wpList_store_mid rfl 51 _ _ rfl _ _ (v8 zeros16).toArray rfl rfl hT1' hit h1t ?_
   generalize w1.setCells (w.heap.size + 1) 0 (v8 zeros16) = w9 at *
   go_wp2
   exact bodyPost_ret (v := .tuple #[.agg (v8 zeros16).toArray, .int .i64 2]) (by simp [results, Tryz.results18, asAddr, hrs]) rfl ⟨by rw [HS.out], hBl⟩
  ·have h2 : N ≤ id := by omega
   clear h1
   go_upto_region 3 with fail
   refine wp_region_list ?_
   refine wpList_load_mid rfl 51 _ rfl _ _ rfl (v8 zeros16) _ hT2.2 Tryz.underlying51 rfl hl16 ?_
   refine wpList_store_mid rfl 51 _ _ rfl _ _ (v8 zeros16).toArray rfl rfl hT1' hit h1t ?_
   generalize w1.setCells (w.heap.size + 1) 0 (v8 zeros16) = w9 at *
   go_wp2
   exact bodyPost_ret (v := .tuple #[.agg (v8 zeros16).toArray, .int .i64 2]) (by simp [results, Tryz.results18, asAddr, hrs]) rfl ⟨by rw [HS.out], hBl⟩
 ·obtain ⟨k, rfl⟩ := Int.eq_ofNat_of_zero_le (show 0 ≤ id by omega)
  have h2 : (k : Int) < N := by omega
  have h0 : ¬ (k : Int) < 0 := by omega
  have HS : Hid (refSignOf seed N (k : Int) body = ((mac (keyOf seed k) (strL body)).take 16, 0)) := by
   show _ = _
   rw [refSignOf, if_neg h1, Int.toNat_natCast]
  clear h1
  have ck := refKey_any seed N k w1 hs (by omega)
  obtain ⟨d, hd⟩ : ∃ d, Hid (keyOf seed k = d) := ⟨_, hide rfl⟩
  have hdl : d.length = 32 := by rw [← hd.out]; exact keyOf_length _ _
  have hdo : ∀ z ∈ d, 0 ≤ z ∧ z < 256 := by rw [← hd.out]; exact keyOf_ok _ _
  rw [hd.out] at ck HS
  go_wp2_with fail
  refine ck.mono ?_
  rintro e w2 ⟨v2, rfl, hown2, hw2⟩
  clear ck
  have hB2 := hB1.trans (hw2.mono hB1.size)
  have hs2 := hw2.size
  obtain ⟨a2, cap2, rfl, _, _, hrow2⟩ := own_bytes hown2 hdo (by rw [hdl]; unfold maxLen; omega)
  clear hown2
  obtain ⟨cap3, w3, hcv, hrow3, hc3a, hc3b, hw3, hs3⟩ := str_bytes body w2 (by omega)
  have hB3 := hB2.trans (hw3.mono hB2.size)
  have cm := refMac_any a2 cap2 d (some ⟨w2.heap.size, 0, none⟩) cap3 (strL body) w3 (hrow2.below hw3) (by omega) hrow3 (by rw [strL_length]; omega)
  rw [strL_length, hdl] at cm
  rw [hdl]
  obtain ⟨m, hm⟩ : ∃ m, Hid (mac d (strL body) = m) := ⟨_, hide rfl⟩
  have hml : m.length = 32 := by rw [← hm.out]; exact mac_length _ _
  rw [hm.out] at cm HS
  clear hrow2 hrow3
  go_wp2_with fail
  refine cm.mono ?_
  rintro e w4 ⟨rfl, hw4⟩
  clear cm hcv
  have hB4 := hB3.trans (hw4.mono hB3.size)
  have hW4 := hw2.trans ((hw3.trans (hw4.mono hw3.size)).mono hw2.size)
  have hs4 := hw4.size
  have hT14 := there_below hT1 hW4 (by omega)
  have hT24 := there_below hT2.1 hW4 (by omega)
  have hR24 := range_below hT2.2 hW4 (by omega)
  have F := fresh_store w4 (Array.replicate 32 (.int .u8 0)) 32 (v8 m) (by rw [v8_length, hml]; rfl)
  have hN := there24 w4 m hml
  have hi := info24 m hml
  have h1c := all_oneCell_toArray (v8_one m)
  go_upto_region 5 with (refine wpList_store_mid (op := ⟨none, .store 32 (.tmp 9) (.tmp 25), _, _, _, none⟩) rfl 32 _ _ rfl _ _ (v8 m).toArray rfl rfl hN hi h1c ?_)
  go_name_world w5 hw5
  rw [show (w4.alloc (.cells (Array.replicate 32 (.int .u8 0)) 32)).setCells w4.heap.size 0 (v8 m) = w5 from hw5] at F
  obtain ⟨hR5, hB5', hz5', _⟩ := F
  have hz5 : w4.heap.size < w5.heap.size := by omega
  have hB5 := hB4.trans (hB5'.mono hB4.size)
  have hT15 := there_below hT14 hB5' (by omega)
  have hT25 := there_below hT24 hB5' (by omega)
  have hR25 := range_below hR24 hB5' (by omega)
  obtain ⟨E, hE⟩ : ∃ E, w4.heap.size = E := ⟨_, rfl⟩
  rw [hE] at hR5 hz5 ⊢
  have hEl : w.heap.size + 2 < E := by omega
  clear hz5' hw5 hN hi h1c hw4 hw3 hw2 hB5' hE hW4 hT14 hT24 hR24 hB4 hB3 hB2 hs4 hs3 hs2 hc0 hc1 hT1 hT2 hs1 hB1
  try simp only [Act.put]
  go_wp2_with fail
  go_loopw [10] (fun i wr => ∃ j : Nat, j ≤ 16 ∧ i = .int .i64 (j : Int) ∧ wr.rangeAt E 0 (v8 m) ∧ wr.rangeAt (w.heap.size + 2) 0 (v8 (m.take j ++ zeros16.drop j)) ∧ wr.there (w.heap.size + 2) 0 16 ∧ wr.there (w.heap.size + 1) 0 16 ∧ Below w.heap.size w wr) (fun i _ => 16 - (intOf i).toNat)
  case atStart => exact ⟨0, by omega, rfl, hR5, by simpa using hR25, hT25, hT15, hB5⟩
  case round =>
   clear hR5 hR25 hT25 hT15 hB5
   obtain ⟨j, hj, rfl, hRm, hRt, hTt, hTr, hB⟩ := hrel
   by_cases hlt : j < 16
   ·have hjm : j < m.length := by omega
    obtain ⟨z, hz⟩ : ∃ z, Hid (m.getD j 0 = z) := ⟨_, hide rfl⟩
    have hcm := get8 hRm hjm
    rw [Nat.zero_add, hz.out] at hcm
    obtain ⟨u, hcu⟩ := Option.isSome_iff_exists.1 (hTt j hlt).1
    have hfu := (hTt j hlt).2
    rw [Nat.zero_add] at hcu hfu
    go_wp2_with fail
    go_roundw
    case rel =>
     refine ⟨j + 1, by omega, by go_num, range_other hRm _ _ (fun h => by simp at h; omega), ?_, there_set hTt _ _, there_set hTr _ _, hB.setCell (p := ⟨w.heap.size + 2, j, none⟩) (by simp) _⟩
     have := range_set hRt j (.int .u8 z)
     rw [Nat.zero_add, v8_set] at this
     have e1 : (m.take j ++ zeros16.drop j).set j z = m.take (j + 1) ++ zeros16.drop (j + 1) := by
      have hl : (m.take j).length = j := List.length_take_of_le (by omega)
      have hzl : j < zeros16.length := hlt
      rw [List.set_append_right _ _ (by omega), hl, Nat.sub_self, List.drop_eq_getElem_cons hzl, List.set_cons_zero, List.take_succ_eq_append_getElem hjm, ← hz.out, List.getD_eq_getElem?_getD, List.getElem?_eq_getElem hjm, List.append_assoc]
      rfl
     rw [e1] at this
     exact this
    case measure => simp [intOf]; omega
   ·have hj16 : j = 16 := by omega
    subst hj16
    obtain ⟨t, ht⟩ : ∃ t, Hid (m.take 16 = t) := ⟨_, hide rfl⟩
    have htl : t.length = 16 := by rw [← ht.out, List.length_take]; omega
    have hRt' : wr.rangeAt (w.heap.size + 2) 0 (v8 t) := by
     have e : m.take 16 ++ zeros16.drop 16 = t := by rw [ht.out]; simp [zeros16]
     rw [e] at hRt; exact hRt
    rw [ht.out] at HS
    have hl16 : (Tryz.prog.info? 51).map (·.size) = some (v8 t).length := by simpa using info16 t htl
    have hTr' : wr.there (w.heap.size + 1) 0 (v8 t).toArray.size := by
     have e : (v8 t).toArray.size = 16 := by rw [List.size_toArray, v8_length, htl]
     rw [e]; exact hTr
    have h1t := all_oneCell_toArray (v8_one t)
    have hit := info16 t htl
    have hRr := World.rangeAt_setCells_same wr (w.heap.size + 1) 0 (v8 t) (by rw [v8_length, htl]; exact hTr)
    have hBl := below_sets (show w.heap.size ≤ w.heap.size + 1 by omega) (v8 t) 0 wr hB
    have hrs := load16 htl hRr
    clear hRt
    go_upto_region 9 with fail
    refine wp_region_list ?_
    refine wpList_load_mid rfl 51 _ rfl _ _ rfl (v8 t) _ hRt' Tryz.underlying51 rfl hl16 ?_
    refine wpList_store_mid rfl 51 _ _ rfl _ _ (v8 t).toArray rfl rfl hTr' hit h1t ?_
    generalize wr.setCells (w.heap.size + 1) 0 (v8 t) = w9 at *
    go_wp2
    exact bodyPost_ret (v := .tuple #[.agg (v8 t).toArray, .int .i64 0]) (by simp [results, Tryz.results18, asAddr, hrs]) rfl ⟨by rw [HS.out], hBl⟩
set_option maxRecDepth 20000 in
set_option maxHeartbeats 1000000 in
theorem refCheck_any (seed : ByteArray) (N id : Int) (body : ByteArray) (t : List Int) (w : World) (hs : seed.size ≤ 100000) (hN : N ≤ 100000) (hb : body.size ≤ 100000) (ht : t.length = 16) :
  Calls Tryz.prog 73 #[.agg #[.string seed, .int .i64 N], .int .i64 id, .string body, .agg (v8 t).toArray] w fun e w' => e = .returned (.bool (checkOf (refSignOf seed N id body) t)) ∧ Below w.heap.size w w' := by
 obtain ⟨ct, hct⟩ : ∃ ct, Hid (v8 t = ct) := ⟨_, hide rfl⟩
 have hcl : ct.length = 16 := by rw [← hct.out, v8_length, ht]
 have hl := refSignOf_length seed N id body
 have cs := fun w => refSign_any seed N id body w hs hN hb
 unfold checkOf
 obtain ⟨r, hr⟩ : ∃ r, Hid ((refSignOf seed N id body).1 = r) := ⟨_, hide rfl⟩
 obtain ⟨x, hx⟩ : ∃ x, Hid ((refSignOf seed N id body).2 = x) := ⟨_, hide rfl⟩
 rw [hr.out] at hl ⊢
 rw [hx.out]
 simp only [hr.out, hx.out] at cs
 have heq := eql16 r t hl ht
 have HB0 : Hid (Below w.heap.size w ((w.alloc (.cells #[.string seed, .int .i64 N] 28)).alloc (.cells (v8 t).toArray 51))) := ((Below.refl _ _).alloc (Nat.le_refl _) _).alloc (by simp) _
 have HR0 : Hid (((w.alloc (.cells #[.string seed, .int .i64 N] 28)).alloc (.cells (v8 t).toArray 51)).rangeAt (w.heap.size + 1) 0 (v8 t)) := by
  have := box_range (w.alloc (.cells #[.string seed, .int .i64 N] 28)) t 51
  simp only [World.size_alloc] at this
  exact this
 rw [hct.out] at HB0 HR0 heq ⊢
 go_enter Tryz.func73, Tryz.ntmps73
 go_wp2_with fail
 refine (cs _).mono ?_
 rintro e w1 ⟨rfl, hw1⟩
 clear cs
 have hB0 := HB0.out
 have hB1 := hB0.trans (hw1.mono hB0.size)
 have hs1 := hw1.size
 simp only [World.size_alloc] at hs1
 have hR1 := range_below HR0.out hw1 (by simp)
 clear hB0
 have F := fresh_store w1 (Array.replicate 16 (.int .u8 0)) 51 (v8 r) (by rw [v8_length, hl]; rfl)
 have hN' : (w1.alloc (.cells (Array.replicate 16 (.int .u8 0)) 51)).there w1.heap.size 0 (v8 r).toArray.size := by
  have e : (v8 r).toArray.size = 16 := by rw [List.size_toArray, v8_length, hl]
  rw [e]; exact (new_bytes w1 16 51).2
 have hi := info16 r hl
 have h1c := all_oneCell_toArray (v8_one r)
 go_upto_region 2 with (refine wpList_store_mid (op := ⟨none, .store 51 (.tmp 9) (.tmp 16), _, _, _, none⟩) rfl 51 _ _ rfl _ _ (v8 r).toArray rfl rfl hN' hi h1c ?_)
 go_name_world w4 hw4
 rw [show (w1.alloc (.cells (Array.replicate 16 (.int .u8 0)) 51)).setCells w1.heap.size 0 (v8 r) = w4 from hw4] at F
 obtain ⟨hR4, hB4', hz4', _⟩ := F
 clear hz4' hw4 hN' h1c hw1
 have hB4 := hB1.trans (hB4'.mono hB1.size)
 have hR1' := range_below hR1 hB4' (by omega)
 have hl16 : (Tryz.prog.info? 51).map (·.size) = some (v8 r).length := by simpa using hi
 have hl16' : (Tryz.prog.info? 51).map (·.size) = some ct.length := by rw [hcl]; exact iszT
 try simp only [Act.put]
 clear hi hR1 hB4' hct HR0 HB0
 by_cases hx0 : x = 0
 ·subst hx0
  refine wp_region_list ?_
  refine wpList_plain rfl fun K hK => ?_
  go_simp
  refine hK _ _ ?_
  clear hK K
  refine wpList_plain rfl fun K hK => ?_
  go_simp
  refine hK _ _ ?_
  clear hK K
  refine wpList_plain rfl fun K hK => ?_
  go_simp
  refine hK _ _ ?_
  clear hK K
  refine wpList_load_g (by rfl) 51 _ rfl _ _ rfl (v8 r) _ hR4 Tryz.underlying51 rfl hl16 ?_
  refine wpList_load_g (by rfl) 51 _ rfl _ _ rfl ct _ hR1' Tryz.underlying51 rfl hl16' ?_
  go_wp2
  go_ret
  exact ⟨by simp, hB4⟩
 ·have hx1 : (x == 0) = false := by simpa using hx0
  go_wp2
  go_ret
  exact ⟨by simp [hx0], hB4⟩
theorem refDerive_yes (seed : ByteArray) (n : Int) (w : World) (h1 : ¬ n < 1) (h2 : ¬ 4096 < n) (h3 : seed.size ≤ 64) :
  Calls Tryz.prog 25 #[.string seed, .int .i64 n] w fun e w' => e = .returned (.tuple #[.agg #[.string seed, .int .i64 n], .bool true]) ∧ Below w.heap.size w w' := by
 have h3' : ¬ (64 : Int) < seed.size := by omega
 go_enter Tryz.func25, Tryz.ntmps25
 go_wp2
 exact bodyPost_ret (v := .tuple #[.agg #[.string seed, .int .i64 n], .bool true]) (by simp [results, Tryz.results25, go_sem]) rfl ⟨rfl, (Below.refl _ _).alloc (Nat.le_refl _) _⟩
open Go.ChangeShapes Go.WideShapes Go.ChangeAt Go.RowKit
section
variable {H : Type} {enc : TypeId × Value → H} {W : World} {b : Nat} {sp : Nat → Bool} {held : Bool} {m : Nat}
end
structure Sg where
 n : Int
 t : List Int
deriving Inhabited
structure Sg.ok (r : Sg) : Prop where
 tl : r.t.length = 16
 tb : ∀ z ∈ r.t, 0 ≤ z ∧ z < 256
 nl : -9223372036854775808 ≤ r.n
 nh : r.n ≤ 9223372036854775807
def Sg.cells (r : Sg) : List Value := .int .i64 r.n :: v8 r.t
theorem Sg.ok.length {r : Sg} (h : r.ok) : r.cells.length = 17 := by
 have := h.tl
 simp [Sg.cells, v8]
 omega
theorem Sg.one (r : Sg) : ∀ v ∈ r.cells, v.oneCell' = true := by
 intro v hv
 rcases List.mem_cons.1 hv with rfl | hv
 ·rfl
 ·exact v8_one r.t v hv
theorem Sg.first {w : World} {b o : Nat} {r : Sg} (h : w.rangeAt b o r.cells) : w.cell? ⟨b, o, none⟩ = some (.int .i64 r.n) := h 0 _ rfl
def flatS (rs : List Sg) : List Value := rs.flatMap Sg.cells
theorem flatS_length {rs : List Sg} (h : ∀ r ∈ rs, r.ok) : (flatS rs).length = rs.length * 17 := by
  induction rs with
  | nil => rfl
  | cons r rs ih =>
    have h1 := (h r (by simp)).length
    have h2 := ih (fun x hx => h x (by simp [hx]))
    simp only [flatS, List.flatMap_cons, List.length_append, List.length_cons] at *
    omega
theorem flatS_append (a b : List Sg) : flatS (a ++ b) = flatS a ++ flatS b := by simp [flatS]
theorem flatS_one (rs : List Sg) : ∀ v ∈ flatS rs, v.oneCell' = true := fun v hv => by
 obtain ⟨r, _, h⟩ := List.mem_flatMap.1 hv
 exact r.one v h
def SigsAt (w : World) (a : Option Addr) (rs : List Sg) : Prop :=
 rs.length ≤ maxLen ∧ (∀ r ∈ rs, r.ok) ∧ (rs = [] ∨ ∃ b off, a = some ⟨b, off, none⟩ ∧ b < w.heap.size ∧ w.rangeAt b off (flatS rs))
theorem SigsAt.below {w w' : World} {a : Option Addr} {rs : List Sg} (h : SigsAt w a rs) (hb : Below w.heap.size w w') : SigsAt w' a rs := by
 refine ⟨h.1, h.2.1, ?_⟩
 rcases h.2.2 with h | ⟨b, off, rfl, h1, h2⟩
 ·exact Or.inl h
 ·exact Or.inr ⟨b, off, rfl, Nat.lt_of_lt_of_le h1 hb.size, range_below h2 hb h1⟩
theorem SigsAt.belowN {w w' : World} {a : Option Addr} {rs : List Sg} {n : Nat} (h : SigsAt w a rs) (hb : Below n w w') (hn : ∀ x, a = some x → x.block < n) : SigsAt w' a rs := by
 refine ⟨h.1, h.2.1, ?_⟩
 rcases h.2.2 with h | ⟨b, off, rfl, h1, h2⟩
 ·exact Or.inl h
 ·exact Or.inr ⟨b, off, rfl, Nat.lt_of_lt_of_le h1 hb.size, range_below h2 hb (hn _ rfl)⟩
theorem SigsAt.drew {w : World} {a : Option Addr} {rs : List Sg} (h : SigsAt w a rs) : SigsAt w.drew a rs := by
 refine ⟨h.1, h.2.1, ?_⟩
 rcases h.2.2 with h | ⟨b, off, rfl, h1, h2⟩
 ·exact Or.inl h
 ·exact Or.inr ⟨b, off, rfl, h1, (World.rangeAt_drew _ _ _ _).2 h2⟩
theorem flatS_split (rs : List Sg) (i : Nat) (hi : i < rs.length) : flatS rs = flatS (rs.take i) ++ rs[i].cells ++ flatS (rs.drop (i + 1)) := by
 have e : rs.take i ++ (rs[i] :: rs.drop (i + 1)) = rs := by rw [← List.drop_eq_getElem_cons hi, List.take_append_drop]
 have e2 := congrArg flatS e
 rw [← e2]
 simp only [flatS, List.flatMap_append, List.flatMap_cons, List.append_assoc]
theorem SigsAt.elem {w : World} {a : Option Addr} {rs : List Sg} (h : SigsAt w a rs) (i : Nat) (hi : i < rs.length) : ∃ b off, a = some ⟨b, off, none⟩ ∧ b < w.heap.size ∧ w.rangeAt b (off + i * 17) rs[i].cells := by
 rcases h.2.2 with h0 | ⟨b, off, rfl, h1, h2⟩
 ·subst h0; simp at hi
 ·refine ⟨b, off, rfl, h1, ?_⟩
  rw [flatS_split rs i hi] at h2
  have h3 := range_part h2
  rwa [flatS_length (fun r hr => h.2.1 r (List.mem_of_mem_take hr)), List.length_take, Nat.min_eq_left (by omega)] at h3
theorem SigsAt.none {w : World} {a : Option Addr} : SigsAt w a [] := ⟨by simp, by simp, .inl rfl⟩
end Go.Proofs.YtnfijfnnpbenfaaGreatDoor.Qs
namespace Go.Proofs.YtnfijfnnpbenfaaGreatDoor.Qs
open Go.RowKit
theorem Sg.ok.isz {r : Sg} (h : r.ok) : (Tryz.prog.info? 56).map (·.size) = some r.cells.length := by rw [h.length]; kernel_rfl
theorem Sg.ok.iszA {r : Sg} (h : r.ok) : (Tryz.prog.info? 56).map (·.size) = some r.cells.toArray.size := by rw [List.size_toArray, h.length]; kernel_rfl
def SOwn (w : World) (B : Nat) (v : Value) (rs : List Sg) : Prop := w.ownsRow B 56 17 v rs.length (flatS rs) ∧ ∀ r ∈ rs, r.ok
theorem SOwn.below {w w' : World} {B : Nat} {v : Value} {rs : List Sg} (h : SOwn w B v rs) (hb : Below w.heap.size w w') : SOwn w' B v rs := by
 refine ⟨⟨h.1.1, ?_⟩, h.2⟩
 rcases h.1.2 with h | ⟨g, cap, cur, hv, hg, hh, r⟩
 ·exact .inl h
 ·exact .inr ⟨g, cap, cur, hv, hg, by rw [hb.block g (Array.getElem?_eq_some_iff.1 hh).1]; exact hh, r⟩
theorem SOwn.mono {w : World} {B B' : Nat} {v : Value} {rs : List Sg} (h : SOwn w B v rs) (hB : B' ≤ B) : SOwn w B' v rs := by
 refine ⟨⟨h.1.1, ?_⟩, h.2⟩
 rcases h.1.2 with h | ⟨g, cap, cur, hv, hg, r⟩
 ·exact .inl h
 ·exact .inr ⟨g, cap, cur, hv, Nat.le_trans hB hg, r⟩
theorem SigsAt.src {w : World} {a : Option Addr} {rs : List Sg} (h : SigsAt w a rs) (cap : Nat) : Src Tryz.prog 17 24 (.slice a rs.length cap) rs.length (flatS rs) w := by
 cases a with
 | none =>
  have : rs = [] := by
   rcases h.2.2 with q | ⟨b, off, hx, _⟩
   ·exact q
   ·cases hx
  subst this
  exact Src.ofNil w Tryz.underlying24 cap
 | some y =>
  refine Src.ofSlice w Tryz.underlying24 y rs.length cap _ (flatS_length h.2.1) (fun j u hu => ?_) (flatS_one rs)
  rcases h.2.2 with rfl | ⟨b, off, hx, _, hr⟩
  ·simp [flatS] at hu
  ·cases hx
   rw [Addr.add_mid]
   exact hr j u hu
theorem infoS : (Tryz.prog.info? 56).map (fun i => (i.zero, i.size, i.bytes)) = some (some (.agg #[.int .i64 0, .int .u8 0, .int .u8 0, .int .u8 0, .int .u8 0, .int .u8 0, .int .u8 0, .int .u8 0, .int .u8 0, .int .u8 0, .int .u8 0, .int .u8 0, .int .u8 0, .int .u8 0, .int .u8 0, .int .u8 0, .int .u8 0]), 17, 24) := by kernel_rfl
theorem SigsAt.take {w : World} {a : Option Addr} {rs : List Sg} (h : SigsAt w a rs) (k : Nat) : SigsAt w a (rs.take k) := by
 refine ⟨by have := h.1; rw [List.length_take]; omega, fun r hr => h.2.1 r (List.mem_of_mem_take hr), ?_⟩
 rcases h.2.2 with h0 | ⟨b, off, rfl, h1, h2⟩
 ·left; rw [h0]; simp
 ·right
  refine ⟨b, off, rfl, h1, ?_⟩
  have e : flatS rs = flatS (rs.take k) ++ flatS (rs.drop k) := by rw [← flatS_append, List.take_append_drop]
  rw [e] at h2
  exact range_left h2
set_option maxRecDepth 100000 in
set_option maxHeartbeats 2000000 in
theorem clone_any (a : Option Addr) (cap : Nat) (rs : List Sg) (w : World) (h : SigsAt w a rs) (hn : rs.length ≤ 100000) :
  Calls Tryz.prog 47 #[.slice a rs.length cap] w fun e w' => ∃ v, e = .returned v ∧ SOwn w' w.heap.size v rs ∧ Below w.heap.size w w' := by
 obtain ⟨i1, hi1, hiz, his, hib⟩ := info_parts infoS
 have hall := h.2.1
 cases a with
 | none =>
  have hnil : rs = [] := by
   rcases h.2.2 with q | ⟨b, off, hx, _⟩
   ·exact q
   ·cases hx
  subst hnil
  have hn := fun w => Lib.run_eql_slice_nil (P := Tryz.prog) w 24 56 none 0 cap 0 0 Tryz.underlying24
  go_enter Tryz.func47, Tryz.ntmps47
  go_wp2
  go_ret
  exact ⟨_, rfl, ⟨World.ownsRow_nil _ _ _ _, by simp⟩, Below.refl _ _⟩
 | some x =>
  have hb1 : Below w.heap.size w (w.alloc (.cells #[] 56)) := (Below.refl _ _).alloc (Nat.le_refl _) _
  have hown1 : (w.alloc (.cells #[] 56)).ownsRow w.heap.size 56 17 (.slice (some ⟨w.heap.size, 0, none⟩) 0 0) 0 [] :=
   ⟨rfl, .inr ⟨w.heap.size, 0, #[], rfl, Nat.le_refl _, heap_alloc_new w _, Nat.le_refl _, by unfold maxLen; omega, rfl, rfl⟩⟩
  have hsrc := (h.below hb1).src cap
  have hn := fun w => Lib.run_eql_slice_nil (P := Tryz.prog) w 24 56 (some x) rs.length cap 0 0 Tryz.underlying24
  go_enter Tryz.func47, Tryz.ntmps47
  go_wp2_with (at_builtin; refine wpList_append_own_src _ rfl _ _ 24 24 rfl w.heap.size 56 i1 (.agg #[.int .i64 0, .int .u8 0, .int .u8 0, .int .u8 0, .int .u8 0, .int .u8 0, .int .u8 0, .int .u8 0, .int .u8 0, .int .u8 0, .int .u8 0, .int .u8 0, .int .u8 0, .int .u8 0, .int .u8 0, .int .u8 0, .int .u8 0]) 17 24 Tryz.underlying24 hi1 hiz his hib rfl _ 0 [] rfl hown1 (.slice (some x) rs.length cap) rs.length (flatS rs) rfl hsrc ?c1 ?c2 ?c3 ?_)
  case c1 => unfold maxLen; omega
  case c2 => omega
  case c3 => exact hb1.size
  intro v2 w2 hown2 hgrow2
  have hb2 : Below w.heap.size w w2 := hb1.grown hgrow2 hb1.size (fun k hk => (hown1.lt k hk).1)
  go_wp2
  go_ret
  exact ⟨_, rfl, ⟨by simpa using hown2, hall⟩, hb2⟩
open Go.RowKit
theorem take_set_oneS {α : Type} (l : List α) (k : Nat) (a : α) (hk : k < l.length) : (l.set k a).take (k + 1) = l.take k ++ [a] := by
 apply List.ext_getElem?
 intro i
 rcases Nat.lt_trichotomy i k with h | h | h
 ·rw [List.getElem?_take_of_lt (by omega), List.getElem?_set_ne (by omega), List.getElem?_append_left (by rw [List.length_take]; omega), List.getElem?_take_of_lt h]
 ·subst h
  rw [List.getElem?_take_of_lt (by omega), List.getElem?_set_self hk, List.getElem?_append_right (by rw [List.length_take]; omega), List.length_take, Nat.min_eq_left (by omega), Nat.sub_self]
  rfl
 ·rw [List.getElem?_eq_none (by rw [List.length_take]; omega), List.getElem?_eq_none (by rw [List.length_append, List.length_take]; simp; omega)]
theorem fold_setsS : ∀ (u : List Value) (k : Nat) (arr : Array Value), k + u.length = arr.size → List.foldl (fun (cs : Array Value) (x : Value × Nat) => cs.setIfInBounds x.snd x.fst) arr (u.zipIdx k) = (arr.toList.take k ++ u).toArray
  | [], k, arr, h => by
    simp only [List.length_nil, Nat.add_zero] at h
    rw [List.take_of_length_le (by simp [h])]
    simp
  | a :: u, k, arr, h => by
    simp only [List.length_cons] at h
    rw [List.zipIdx_cons, List.foldl_cons, fold_setsS u (k + 1) _ (by simp; omega)]
    congr 1
    show List.take (k + 1) (arr.setIfInBounds k a).toList ++ u = _
    rw [Array.toList_setIfInBounds, take_set_oneS _ _ _ (by simp; omega), List.append_assoc]
    rfl
theorem one_sign (w : World) (u : List Value) (hu : u.length = 17) (h1 : ∀ x ∈ u, x.oneCell' = true) : Src Tryz.prog 17 24 (.slice (some ⟨w.heap.size, 0, none⟩) 1 1) 1 u (w.alloc (.cells u.toArray 56)) :=
 Src.ofSlice _ Tryz.underlying24 ⟨w.heap.size, 0, none⟩ 1 1 u (by omega) (fun j v hv => by
  rw [Addr.add_mid]
  have := range_new w u.toArray 56 j v (by simpa using hv)
  exact this) h1
open Go.RowKit
theorem fldS : (Tryz.prog.fieldsOf 56).toList.map (fun f => (f.name, f.type, f.offset)) = [("Node", 3, 0), ("Tag", 51, 1)] := by kernel_rfl
theorem undS : Tryz.prog.underlying 56 = some (.struct (Tryz.prog.fieldsOf 56)) := by kernel_rfl
theorem sihS : Tryz.prog.stoodInHeld 56 = false := by kernel_rfl
theorem iszTS : (Tryz.prog.info? 51).map (·.size) = some 16 := by kernel_rfl
theorem part_intS (w : World) (q : List Value) (i : Nat) (c : Int) (h : q[i]? = some (.int .i64 c)) : (part 3 q.toArray i).run Tryz.prog w = .ok (.int .i64 c) w := by
 simp [part, isAgg, run_underlying Tryz.underlying3, h]
theorem part_tagS (w : World) (n : Int) (t : List Int) (ht : t.length = 16) : (part 51 (Sg.cells ⟨n, t⟩).toArray 1).run Tryz.prog w = .ok (.agg (v8 t).toArray) w := by
 have hx : List.take 16 (Sg.cells ⟨n, t⟩).tail = v8 t := by
  show List.take 16 (v8 t) = v8 t
  rw [List.take_of_length_le (by rw [v8_length, ht]; exact Nat.le_refl _)]
 simp [part, isAgg, run_underlying Tryz.underlying51, run_size iszTS, hx]
def sgB (r r' : Sg) : Bool := (r.n == r'.n) && (r.t == r'.t)
theorem sgEqIn (d : Nat) (n : Int) (t : List Int) (n' : Int) (t' : List Int) (ht : t.length = 16) (ht' : t'.length = 16) (w : World) :
  (Op.equalIn (d + 2 + 1) 56 (.agg (Sg.cells ⟨n, t⟩).toArray) (.agg (Sg.cells ⟨n', t'⟩).toArray)).run Tryz.prog w = .ok ((n == n') && (t == t')) w := by
 rw [run_equalIn_struct w (d + 2) 56 _ _ undS sihS]
 have hf := fldS
 generalize (Tryz.prog.fieldsOf 56).toList = fs at hf
 obtain ⟨f0, f1, rfl⟩ : ∃ f0 f1, fs = [f0, f1] := by
  rcases fs with _ | ⟨f0, _ | ⟨f1, _ | ⟨f2, fs⟩⟩⟩ <;> simp at hf
  exact ⟨f0, f1, rfl⟩
 simp only [List.map_cons, List.map_nil, List.cons.injEq, Prod.mk.injEq, and_true] at hf
 obtain ⟨⟨a0, b0, d0⟩, ⟨a1, b1, d1⟩⟩ := hf
 have p0 := part_intS w (Sg.cells ⟨n, t⟩) 0 n rfl
 have p1 := part_intS w (Sg.cells ⟨n', t'⟩) 0 n' rfl
 have p6 := part_tagS w n t ht
 have p7 := part_tagS w n' t' ht'
 have e0 := run_equalIn_int (P := Tryz.prog) w (d + 1) 3 .i64 .i64 n n' Tryz.underlying3
 have e3 := run_equal8 (P := Tryz.prog) w d 51 5 16 Tryz.underlying51 Tryz.underlying5 isz8 t t' ht ht'
 generalize (Sg.cells ⟨n, t⟩).toArray = q at *
 generalize (Sg.cells ⟨n', t'⟩).toArray = q' at *
 obtain ⟨T, hT⟩ : ∃ T, (v8 t).toArray = T := ⟨_, rfl⟩
 obtain ⟨T', hT'⟩ : ∃ T, (v8 t').toArray = T := ⟨_, rfl⟩
 rw [hT] at p6 e3
 rw [hT'] at p7 e3
 clear hT hT'
 obtain ⟨D, hD⟩ : ∃ D, d + 1 + 1 = D := ⟨_, rfl⟩
 have e3 : (Op.equalIn (d + 1 + 1) 51 (.agg T) (.agg T')).run Tryz.prog w = .ok (t == t') w := e3
 rw [hD] at e3
 have hn0 : ¬ ("Node" = "_") := by decide
 have hn3 : ¬ ("Tag" = "_") := by decide
 simp only [Op.eqFields, a0, a1, b0, b1, d0, d1, ne_eq, hn0, hn3, not_false_eq_true, if_true]
 rw [show d + 2 = d + 1 + 1 from rfl, hD]
 rw [hD] at e0
 clear hD
 simp only [Sem.run_bind, p0, p1, Result.andThen_ok, e0]
 cases (n == n')
 ·simp only [Bool.not_false, if_true, Sem.run_pure, Bool.false_and]
 ·simp only [Bool.not_true, Bool.false_eq_true, if_false, Sem.run_bind, p6, p7, Result.andThen_ok, e3, Bool.true_and]
  cases (t == t')
  ·simp only [Bool.not_false, if_true, Sem.run_pure]
  ·simp only [Bool.not_true, Bool.false_eq_true, if_false, Sem.run_pure]
open Go.RowKit
open Sha Tal
theorem eqSg (r r' : Sg) (h : r.ok) (h' : r'.ok) (w : World) :
  (binOp .eql 56 (.agg r.cells.toArray) (.agg r'.cells.toArray)).run Tryz.prog w = .ok (.bool (sgB r r')) w := by
 obtain ⟨n, t⟩ := r
 obtain ⟨n', t'⟩ := r'
 rw [run_eql_struct, sgEqIn 9997 n t n' t' h.tl h'.tl]; rfl
theorem fold_off : ∀ (u : List Value) (k : Nat) (arr : Array Value), List.foldl (fun (cs : Array Value) (x : Value × Nat) => cs.setIfInBounds (1 + x.snd) x.fst) arr (u.zipIdx k) = List.foldl (fun (cs : Array Value) (x : Value × Nat) => cs.setIfInBounds x.snd x.fst) arr (u.zipIdx (k + 1))
  | [], _, _ => rfl
  | a :: u, k, arr => by
    rw [List.zipIdx_cons, List.zipIdx_cons, List.foldl_cons, List.foldl_cons, Nat.add_comm 1 k]
    exact fold_off u (k + 1) _
theorem fold_tag (N : Int) (r : List Int) (hl : r.length = 16) : List.foldl (fun (cs : Array Value) (x : Value × Nat) => cs.setIfInBounds (1 + x.snd) x.fst)
  #[.int .i64 N, .int .u8 0, .int .u8 0, .int .u8 0, .int .u8 0, .int .u8 0, .int .u8 0, .int .u8 0, .int .u8 0, .int .u8 0, .int .u8 0, .int .u8 0, .int .u8 0, .int .u8 0, .int .u8 0, .int .u8 0, .int .u8 0] (v8 r).zipIdx = (.int .i64 N :: v8 r).toArray := by
 rw [fold_off, fold_setsS (v8 r) (0 + 1) _ (by rw [v8_length, hl]; rfl)]
 rfl
set_option maxRecDepth 100000 in
set_option maxHeartbeats 2000000 in
theorem signed_any (p : Option Addr) (ds : List (List Int)) (body : ByteArray) (s : Sg) (w : World) (hG : Glob w) (h : KeysAt w p ds) (hb : ds = [] ∨ body.size ≤ 100000) (hs : s.ok) :
  Calls Tryz.prog 112 #[.pointer p, .string body, .agg s.cells.toArray] w fun e w' => e = .returned (.bool (checkOf (signOf ds s.n body) s.t)) ∧ Below w.heap.size w w' := by
 have hB0 : Below w.heap.size w (w.alloc (.cells s.cells.toArray 56)) := (Below.refl _ _).alloc (Nat.le_refl _) _
 have hR0 : (w.alloc (.cells s.cells.toArray 56)).rangeAt w.heap.size 0 s.cells := by simpa using range_new w s.cells.toArray 56
 have cs := ksign_any p ds s.n body _ (hG.below hB0) (h.below hB0) hb
 have hl := signOf_length ds s.n body
 have hlo := signOf_ok ds s.n body
 unfold checkOf
 obtain ⟨r, hr⟩ : ∃ r, Hid ((signOf ds s.n body).1 = r) := ⟨_, hide rfl⟩
 obtain ⟨x, hx⟩ : ∃ x, Hid ((signOf ds s.n body).2 = x) := ⟨_, hide rfl⟩
 rw [hr.out, hx.out] at cs ⊢
 rw [hr.out] at hl hlo
 have heq := fun w0 => eqSg s ⟨s.n, r⟩ hs ⟨hl, hlo, hs.nl, hs.nh⟩ w0
 have HE : Hid (sgB s ⟨s.n, r⟩ = (r == s.t)) := hide (by
  obtain ⟨n, t⟩ := s
  simp only [sgB, beq_self_eq_true, Bool.true_and]
  exact BEq.comm)
 have hcells : (Sg.mk s.n r).cells = .int .i64 s.n :: v8 r := rfl
 simp only [hcells] at heq
 obtain ⟨B, hBe⟩ : ∃ B, Hid (sgB s ⟨s.n, r⟩ = B) := ⟨_, hide rfl⟩
 simp only [hBe.out] at heq
 rw [hBe.out] at HE
 have hfr := Sg.first hR0
 have hiq := hs.isz
 have hul := hs.length
 obtain ⟨N, hN⟩ : ∃ N, Hid (s.n = N) := ⟨_, hide rfl⟩
 obtain ⟨u, hu⟩ : ∃ u, Hid (s.cells = u) := ⟨_, hide rfl⟩
 rw [hu.out] at hB0 hR0 hfr hiq hul cs ⊢
 simp only [hu.out, hN.out] at heq
 rw [hN.out] at cs hfr
 obtain ⟨T, hT⟩ : ∃ T, Hid (s.t = T) := ⟨_, hide rfl⟩
 rw [hT.out] at HE ⊢
 clear hb hu hN hcells hs hBe hr hx hT
 go_enter Tryz.func112, Tryz.ntmps112
 go_wp2_with fail
 refine cs.mono ?_
 rintro e w1 ⟨rfl, hw1⟩
 clear cs
 have hB1 := hB0.trans (hw1.mono hB0.size)
 have hs1 := hw1.size
 simp only [World.size_alloc] at hs1
 have hR1 := range_below hR0 hw1 (by simp)
 have hfr1 := (hw1.cell (p := ⟨w.heap.size, 0, none⟩) (by simp)).trans hfr
 have FS := fresh_store w1 (Array.replicate 16 (.int .u8 0)) 51 (v8 r) (by rw [v8_length, hl]; rfl)
 have hN : (w1.alloc (.cells (Array.replicate 16 (.int .u8 0)) 51)).there w1.heap.size 0 (v8 r).toArray.size := by
  have e : (v8 r).toArray.size = 16 := by rw [List.size_toArray, v8_length, hl]
  rw [e]; exact (new_bytes w1 16 51).2
 have hi := info16 r hl
 have h1c := all_oneCell_toArray (v8_one r)
 clear hfr
 go_upto_region 2 with (refine wpList_store_mid (op := ⟨none, .store 51 (.tmp 7) (.tmp 15), _, _, _, none⟩) rfl 51 _ _ rfl _ _ (v8 r).toArray rfl rfl hN hi h1c ?_)
 go_name_world w4 hw4
 rw [show (w1.alloc (.cells (Array.replicate 16 (.int .u8 0)) 51)).setCells w1.heap.size 0 (v8 r) = w4 from hw4] at FS
 obtain ⟨hR4, hB4', hz4', _⟩ := FS
 have hz4 : w1.heap.size < w4.heap.size := by omega
 clear hz4' hw4 hN h1c hw1 hR0
 have hB4 := hB1.trans (hB4'.mono hB1.size)
 have hR1' := range_below hR1 hB4' (by omega)
 have hfr4 := (hB4'.cell (p := ⟨w.heap.size, 0, none⟩) (by show w.heap.size < w1.heap.size; omega)).trans hfr1
 have hl16 : (Tryz.prog.info? 51).map (·.size) = some (v8 r).length := by simpa using hi
 try simp only [Act.put]
 clear hi
 clear hR1 hB4' hfr1
 by_cases hx0 : x = 0
 ·subst hx0
  refine wp_region_list ?_
  refine wpList_plain rfl fun K hK => ?_
  go_simp
  refine hK _ _ ?_
  clear hK K
  refine wpList_plain rfl fun K hK => ?_
  go_simp
  refine hK _ _ ?_
  clear hK K
  refine wpList_plain rfl fun K hK => ?_
  go_simp
  refine hK _ _ ?_
  clear hK K
  refine wpList_load_g (by rfl) 56 _ rfl _ _ rfl u _ hR1' Tryz.underlying56 rfl hiq ?_
  refine wpList_step fun K hK => ?_
  go_simp
  refine hK _ _ ?_
  clear hK K
  refine wpList_step fun K hK => ?_
  go_simp
  refine hK _ _ ?_
  clear hK K
  refine wpList_load_g (by rfl) 51 _ rfl _ _ rfl (v8 r) _ hR4 Tryz.underlying51 rfl hl16 ?_
  refine wpList_step fun K hK => ?_
  go_simp
  refine hK _ _ ?_
  clear hK K
  rw [fold_tag N r hl]
  refine wpList_step fun K hK => ?_
  go_simp
  try rw [heq]
  try go_simp
  refine hK _ _ ?_
  clear hK K
  go_wp2
  go_ret
  exact ⟨by rw [HE.out]; simp, hB4⟩
 ·have hx1 : (x == 0) = false := by simpa using hx0
  go_wp2
  go_ret
  exact ⟨by simp [hx0], hB4⟩
end Go.Proofs.YtnfijfnnpbenfaaGreatDoor.Qs
namespace Go.Proofs
open Go.Shelf
def Tryz.lays189_ren : Go.Shelf.Ren := ⟨fun | 189 => 142 | 125 => 174 | 257 => 173 | 128 => 208 | 129 => 144 | 294 => 199 | 295 => 200 | 296 => 201 | 297 => 202 | 298 => 203 | 299 => 204 | 216 => 205 | 300 => 206 | 301 => 207 | 328 => 221 | 329 => 222 | 330 => 223 | 331 => 224 | 332 => 225 | 215 => 226 | 343 => 229 | n => n, fun | 28 => 34 | 3 => 3 | 46 => 49 | 0 => 0 | 51 => 142 | 53 => 77 | 4 => 4 | 183 => 251 | 182 => 250 | 131 => 255 | 5 => 5 | 9 => 9 | 218 => 267 | 222 => 271 | 228 => 274 | 229 => 275 | n => n, fun | n => n⟩
theorem Tryz.lays189 : Go.Proofs.Lays.n189 Tryz.prog Tryz.lays189_ren := {
 mixed := by kernel_rfl
 f125 := Tryz.func174.trans (congrArg some (by kernel_rfl))
 f128 := Tryz.func208.trans (congrArg some (by kernel_rfl))
 f129 := Tryz.func144.trans (congrArg some (by kernel_rfl))
 f189 := Tryz.func142.trans (congrArg some (by kernel_rfl))
 f215 := Tryz.func226.trans (congrArg some (by kernel_rfl))
 f216 := Tryz.func205.trans (congrArg some (by kernel_rfl))
 f257 := Tryz.func173.trans (congrArg some (by kernel_rfl))
 f294 := Tryz.func199.trans (congrArg some (by kernel_rfl))
 f295 := Tryz.func200.trans (congrArg some (by kernel_rfl))
 f296 := Tryz.func201.trans (congrArg some (by kernel_rfl))
 f297 := Tryz.func202.trans (congrArg some (by kernel_rfl))
 f298 := Tryz.func203.trans (congrArg some (by kernel_rfl))
 f299 := Tryz.func204.trans (congrArg some (by kernel_rfl))
 f300 := Tryz.func206.trans (congrArg some (by kernel_rfl))
 f301 := Tryz.func207.trans (congrArg some (by kernel_rfl))
 f328 := Tryz.func221.trans (congrArg some (by kernel_rfl))
 f329 := Tryz.func222.trans (congrArg some (by kernel_rfl))
 f330 := Tryz.func223.trans (congrArg some (by kernel_rfl))
 f331 := Tryz.func224.trans (congrArg some (by kernel_rfl))
 f332 := Tryz.func225.trans (congrArg some (by kernel_rfl))
 f343 := Tryz.func229.trans (congrArg some (by kernel_rfl))
 t0 := Tryz.underlying0
 a0 := Tryz.isAgg0
 z0 := Tryz.sizeOf0
 v0 := Tryz.zeroValue0
 t3 := Tryz.underlying3
 a3 := Tryz.isAgg3
 z3 := Tryz.sizeOf3
 v3 := Tryz.zeroValue3
 t4 := Tryz.underlying4
 a4 := Tryz.isAgg4
 z4 := Tryz.sizeOf4
 v4 := Tryz.zeroValue4
 t5 := Tryz.underlying5
 a5 := Tryz.isAgg5
 z5 := Tryz.sizeOf5
 v5 := Tryz.zeroValue5
 t9 := Tryz.underlying9
 a9 := Tryz.isAgg9
 z9 := Tryz.sizeOf9
 v9 := Tryz.zeroValue9
 t28 := Tryz.underlying34
 a28 := Tryz.isAgg34
 z28 := Tryz.sizeOf34
 v28 := Tryz.zeroValue34
 t46 := Tryz.underlying49
 a46 := Tryz.isAgg49
 z46 := Tryz.sizeOf49
 v46 := Tryz.zeroValue49
 t51 := Tryz.underlying142
 a51 := Tryz.isAgg142
 z51 := Tryz.sizeOf142
 v51 := Tryz.zeroValue142
 t53 := Tryz.underlying77
 a53 := Tryz.isAgg77
 z53 := Tryz.sizeOf77
 v53 := Tryz.zeroValue77
 t131 := Tryz.underlying255
 a131 := Tryz.isAgg255
 z131 := Tryz.sizeOf255
 v131 := Tryz.zeroValue255
 t182 := Tryz.underlying250
 a182 := Tryz.isAgg250
 z182 := Tryz.sizeOf250
 v182 := Tryz.zeroValue250
 t183 := Tryz.underlying251
 a183 := Tryz.isAgg251
 z183 := Tryz.sizeOf251
 v183 := Tryz.zeroValue251
 t218 := Tryz.underlying267
 a218 := Tryz.isAgg267
 z218 := Tryz.sizeOf267
 v218 := Tryz.zeroValue267
 t222 := Tryz.underlying271
 a222 := Tryz.isAgg271
 z222 := Tryz.sizeOf271
 v222 := Tryz.zeroValue271
 t228 := Tryz.underlying274
 a228 := Tryz.isAgg274
 z228 := Tryz.sizeOf274
 v228 := Tryz.zeroValue274
 t229 := Tryz.underlying275
 a229 := Tryz.isAgg275
 z229 := Tryz.sizeOf275
 v229 := Tryz.zeroValue275 }
open Go.Sort Go.RowKit in
theorem Tryz.slices_Sort_int (blk off cap : Nat) (zs : List Int) (w : World) (hH : Holds (Value.int .i64) w blk off zs.toArray) (hblk : blk < w.heap.size) (hsz : zs.length < 4611686018427387904) :
  Calls Tryz.prog 142 #[.slice (some ⟨blk, off, none⟩) zs.length cap] w fun e w' =>
   e = .returned (.tuple #[]) ∧ ∃ n os, w' = grow (putRow (Value.int .i64) (Sort.ahead w n) blk off (zs.mergeSort fun x y => decide (x ≤ y)).toArray) os := Any.slices_Sort_int Tryz.lays189 blk off cap zs w hH hblk hsz
open Go.RowKit Go.Sort in
theorem Tryz.slices_Sort_int_none (p : Option Addr) (cap : Nat) (w : World) :
  Calls Tryz.prog 142 #[.slice p 0 cap] w fun e w' => e = .returned (.tuple #[]) ∧ w' = w := Any.slices_Sort_int_none Tryz.lays189 p cap w
end Go.Proofs
namespace Go.Proofs.YtnfijfnnpbenfaaGreatDoor.Qs
open Go.RowKit Go.Shelf
attribute [local go_sem] Oper.semAt_some
theorem info3 : (Tryz.prog.info? 3).map (fun i => (i.zero, i.size, i.bytes)) = some (some (.int .i64 0), 1, 8) := by kernel_rfl
def upto (zs : List Int) (k : Nat) : List Int := zs.take k
theorem upto_succ (zs : List Int) (k : Nat) (h : k < zs.length) : upto zs (k + 1) = upto zs k ++ [zs[k]?.getD 0] := by
 unfold upto; rw [List.take_succ_eq_append_getElem h, List.getElem?_eq_getElem h]; rfl
theorem upto_length (zs : List Int) (k : Nat) (h : k ≤ zs.length) : (upto zs k).length = k := by simp [upto, h]
def ValsAt (n₀ : Nat) (W : World) (a : Option Addr) (zs : List Int) : Prop :=
 zs = [] ∨ ∃ b off, a = some ⟨b, off, none⟩ ∧ b < n₀ ∧ ∀ j, j < zs.length → W.cell? ⟨b, off + j, none⟩ = some (.int .i64 (zs[j]?.getD 0))
theorem ValsAt.below {n₀ : Nat} {A B : World} (h : Below n₀ A B) {a : Option Addr} {zs : List Int} : ValsAt n₀ A a zs → ValsAt n₀ B a zs
 | .inl e => .inl e
 | .inr ⟨b, off, e, hb, hc⟩ => .inr ⟨b, off, e, hb, fun j hj => (h.cell (p := ⟨b, off + j, none⟩) hb).trans (hc j hj)⟩
set_option maxRecDepth 100000 in
set_option maxHeartbeats 2000000 in
theorem values1_in (F : Fence) (n : Nat) (h7 : F.fn 143) (hro : F.round = none) (hn : 1 ≤ n) (l Bs n₀ : Nat) (a : Option Addr) (cap : Nat) (zs : List Int) (hreach : zs.length * 8 ≤ 140737488351232) (J Jx : List Int → World → Prop)
  (hY : ∀ pre x W, J pre W → pre.length < zs.length → YieldAt F (n - 1) Tryz.prog l #[.int .i64 x] W fun e W' =>
   (e = .returned (.bool true) ∧ J (pre ++ [x]) W' ∧ Below n₀ W W') ∨ (e = .returned (.bool false) ∧ Jx (pre ++ [x]) W'))
  (W : World) (hBs : W.cell? ⟨Bs, 0, none⟩ = some (.slice a zs.length cap)) (hc : ValsAt n₀ W a zs) (h0 : J [] W) :
  CallsIn F n Tryz.prog 143 #[.func (.yield l) #[] #[], .pointer (some ⟨Bs, 0, none⟩)] W fun e W' => (∃ v, e = .returned v) ∧
   ((∃ ys, ys = zs ∧ J ys W') ∨ (∃ pre, pre <+: zs ∧ Jx pre W')) := by
 refine callsIn_of_wp Tryz.func143 rfl h7 ?_ hro
 simp only [Tryz.ntmps143, List.size_toArray, List.length_cons, List.length_nil, Nat.reduceAdd, Nat.reduceSub, Array.replicate_succ, Array.replicate_zero, List.push_toArray, List.append_toArray, List.nil_append, List.cons_append]
 gi_wp2
 gi_loopw [7] (fun i wr => ∃ k : Nat, k ≤ zs.length ∧ i = .int .i64 k ∧ J (upto zs k) wr ∧ Below n₀ W wr)
  (fun i _ => zs.length - (intOf i).toNat)
 case atStart => exact ⟨0, Nat.zero_le _, rfl, h0, Below.refl _ _⟩
 case round =>
  obtain ⟨k, hk, rfl, hJs, hnx⟩ := hrel
  by_cases hlt : k < zs.length
  ·obtain ⟨b, off, rfl, hb, hcc⟩ : ∃ b off, a = some ⟨b, off, none⟩ ∧ b < n₀ ∧ ∀ j, j < zs.length → W.cell? ⟨b, off + j, none⟩ = some (.int .i64 (zs[j]?.getD 0)) := by
    rcases hc with rfl | h
    ·simp at hlt
    ·exact h
   obtain ⟨fn, tmps, assign, body, hy, hR⟩ := hY _ (zs[k]?.getD 0) wr hJs (by rw [upto_length _ _ hk]; exact hlt)
   have hcx' : wr.cell? ⟨b, off + k, none⟩ = some (.int .i64 (zs[k]?.getD 0)) := (hnx.cell (p := ⟨b, off + k, none⟩) hb).trans (hcc k hlt)
   have HU := hide (upto_succ zs k hlt)
   clear hcc
   generalize zs[k]?.getD 0 = x at *
   gi_wp2
   refine hR.mono ?_
   rintro e W3 (⟨rfl, hJ3, hk3⟩ | ⟨rfl, hJx3⟩)
   ·gi_wp2
    go_roundw
    case rel => exact ⟨k + 1, by omega, by simp, by rw [HU.out]; exact hJ3, hnx.trans hk3⟩
    case measure => simp [intOf]; omega
   ·gi_wp2
    refine bodyPost_ret (results_none rfl _ _ _) rfl ?_
    exact ⟨⟨_, rfl⟩, .inr ⟨_, by rw [← HU.out]; exact List.take_prefix _ _, hJx3⟩⟩
  ·obtain rfl : k = zs.length := by omega
   gi_wp2
   go_end0
   exact ⟨⟨_, rfl⟩, .inl ⟨_, List.take_length, hJs⟩⟩
set_option maxHeartbeats 1000000 in
theorem values_in (F : Fence) (n : Nat) (h5 : F.fn 101) (hro : F.round = none) (a : Option Addr) (len cap : Nat) (w : World) :
  CallsIn F n Tryz.prog 101 #[.slice a len cap] w fun e w' => e = .returned (.func (.func 143) #[] #[.pointer (some ⟨w.heap.size, 0, none⟩)]) ∧ w' = w.alloc (.cells #[.slice a len cap] 34) := by
 refine callsIn_of_wp Tryz.func101 rfl h5 ?_ hro
 simp only [Tryz.ntmps101, List.size_toArray, List.length_cons, List.length_nil, Nat.reduceAdd, Nat.reduceSub, Array.replicate_succ, Array.replicate_zero, List.push_toArray, List.append_toArray, List.nil_append, List.cons_append]
 gi_wp2
 go_ret
 exact ⟨rfl, rfl⟩
theorem values_stops (F : Fence) (n : Nat) (h7 : F.fn 143) (hro : F.round = none) (hn : 1 ≤ n) (Bs n₀ : Nat) (a : Option Addr) (cap : Nat) (zs : List Int) (hreach : zs.length * 8 ≤ 140737488351232) (w : World) (hBs : Bs < w.heap.size) (hn₀ : n₀ ≤ w.heap.size)
  (hc : w.cell? ⟨Bs, 0, none⟩ = some (.slice a zs.length cap)) (hI : ValsAt n₀ w a zs) :
  SeqStopsK F n Tryz.prog 143 #[.pointer (some ⟨Bs, 0, none⟩)] (fun x : Int => #[Value.int .i64 x]) (Below n₀) (fun ys => ys = zs) (fun pre => pre <+: zs) zs.length w := fun l J Jx W hW _ _ hY h0 =>
 values1_in F n h7 hro hn l Bs n₀ a cap zs hreach J Jx hY W ((hW.cell (p := ⟨Bs, 0, none⟩) hBs).trans hc) (hI.below (hW.mono hn₀)) h0
set_option maxRecDepth 100000 in
set_option maxHeartbeats 2000000 in
theorem appendSeq_in (F : Fence) (n : Nat) (h3 : F.fn 172) (h5 : F.fn 143) (hro : F.round = none) (hn : 3 ≤ n) (Bs : Nat) (a : Option Addr) (cap : Nat) (zs : List Int) (hbytes : zs.length * 8 ≤ 140737488351232) (w : World)
  (hBs : Bs < w.heap.size) (hcB : w.cell? ⟨Bs, 0, none⟩ = some (.slice a zs.length cap)) (hI : ValsAt w.heap.size w a zs) :
  CallsIn F n Tryz.prog 172 #[.slice none 0 0, .func (.func 143) #[] #[.pointer (some ⟨Bs, 0, none⟩)]] w fun e W' => ∃ v, e = .returned v ∧ W'.ownsRow w.heap.size 3 1 v zs.length (zs.map (Value.int .i64)) ∧ (v = .slice none 0 0 ↔ zs = []) ∧ Below w.heap.size w W' := by
 have h1 : 1 ≤ n := by omega
 have hml : zs.length ≤ maxLen := by unfold maxLen; omega
 obtain ⟨i0, hi, hz0, hz1, hz2⟩ := info_parts info3
 refine callsIn_of_wp_marks Tryz.func172 rfl h3 ?_ hro
 simp only [Tryz.ntmps172, List.size_toArray, List.length_cons, List.length_nil, Nat.reduceAdd, Nat.reduceSub, Array.replicate_succ, Array.replicate_zero, List.push_toArray, List.append_toArray, List.nil_append, List.cons_append]
 gi_wp2
 have bO := Boxed.new w 34 (.slice none 0 0)
 have hB0 : Below w.heap.size w (w.alloc (.cells #[.slice none 0 0] 34)) := (Below.refl _ w).alloc (Nat.le_refl _) _
 have hcB' : (w.alloc (.cells #[.slice none 0 0] 34)).cell? ⟨Bs, 0, none⟩ = some (.slice a zs.length cap) := (hB0.cell (p := ⟨Bs, 0, none⟩) hBs).trans hcB
 refine wpIn_rangeFunc_ownG hro h1 (gf := 143) (lb := #[.pointer (some ⟨Bs, 0, none⟩)]) rfl h5 (enters_of Tryz.func143 (by kernel_rfl) rfl)
  (values_stops F (n - 1) h5 hro (by omega) Bs w.heap.size a cap zs hbytes _ (by simp; omega) (by simp) hcB' (hI.below hB0)) belowK_t (belowK_b (by simp)) (Below.refl _ _) (fun _ => rfl)
  (fun pre W => (∃ v, Boxed W w.heap.size 34 v ∧ W.ownsRow w.heap.size 3 1 v pre.length (pre.map (Value.int .i64)) ∧ (v = .slice none 0 0 ↔ pre = [])) ∧ Below w.heap.size w W)
  (fun _ _ _ => False)
  (OwnFrom.and (Own.from (holdsRow_own w.heap.size w.heap.size 34 3 1 (fun pre : List Int => pre.length) (fun pre => pre.map (Value.int .i64)) (fun pre v => v = .slice none 0 0 ↔ pre = [])) _) (ownFrom_below (Nat.le_refl _) (by simp)))
  (fun _ _ _ _ _ hs _ _ => hs)
  ⟨⟨_, bO, World.ownsRow_nil _ _ _ _, by simp⟩, hB0⟩
  (fun x => { tmps := #[.slice none 0 0, .func (.func 143) #[] #[.pointer (some ⟨Bs, 0, none⟩)], .pointer (some ⟨w.heap.size, 0, none⟩), undef, .slice none 0 0, .int .i64 x, .func (.func 143) #[] #[.pointer (some ⟨Bs, 0, none⟩)], .int .i64 x, undef, undef, undef, undef, undef], defers := [] }) ?assign ?body ?done ?stop
 case assign =>
  intro l x W K hK
  gi_wp2
  exact hK
 case body =>
  rintro l pre x W ⟨⟨v, hv, hrow, hnil⟩, hB⟩ hlt
  have hc := hv.cell
  gi_wp2_with (gi_at_builtin; refine wpListIn_append_own _ rfl _ _ 34 rfl w.heap.size 3 i0 (.int .i64 0) 1 8 Tryz.underlying34 hi hz0 hz1 hz2 rfl (by decide) _ _ _ rfl (hrow.alloc _) ⟨W.heap.size, 0, none⟩ 1 1 [.int .i64 x] rfl rfl (cell_one_new _ _ _) (by simp [Value.oneCell']) (by omega) (by omega) (by have := hB.size; simp; omega) ?_; intro v' w1 hown' hgrow _; obtain ⟨g', cap', rfl⟩ := ownsRow_succ hown'; obtain ⟨hv1, hv2, hr2, hk2, hb2⟩ := hv.appended (by decide) hrow hB.size (Nat.le_refl _) hown' hgrow; have hc1 := hv1.cell; have hf1 := hv1.frozen)
  exact ⟨hk2.from _, hb2, ⟨_, hv2, by simpa using hr2, by simp⟩, hB.trans hb2⟩
 case done =>
  rintro D ys W hD rfl ⟨⟨v, hv, hrow, hnil⟩, hB⟩ hK
  have hc := hv.cell
  gi_wp2
  refine ⟨by simp, .inl ⟨_, _, rfl, run_takeDeferred hK, ?_⟩⟩
  exact ⟨_, results_tmp rfl _ _ _, v, rfl, ownsRow_putObj hrow _ hK rfl, hnil, hB.trans (belowK_b (w := w) (Nat.le_refl _) W D _ _ (by simp at hD; omega) hK rfl rfl)⟩
 case stop =>
  rintro D c pre W _ _ h _
  exact h.elim
set_option maxHeartbeats 1000000 in
theorem collect_in (F : Fence) (n : Nat) (h8 : F.fn 141) (h3 : F.fn 172) (h5 : F.fn 143) (hro : F.round = none) (hn : 4 ≤ n) (Bs : Nat) (a : Option Addr) (cap : Nat) (zs : List Int) (hbytes : zs.length * 8 ≤ 140737488351232) (w : World)
  (hBs : Bs < w.heap.size) (hcB : w.cell? ⟨Bs, 0, none⟩ = some (.slice a zs.length cap)) (hI : ValsAt w.heap.size w a zs) :
  CallsIn F n Tryz.prog 141 #[.func (.func 143) #[] #[.pointer (some ⟨Bs, 0, none⟩)]] w fun e W' => ∃ v, e = .returned v ∧ W'.ownsRow w.heap.size 3 1 v zs.length (zs.map (Value.int .i64)) ∧ (v = .slice none 0 0 ↔ zs = []) ∧ Below w.heap.size w W' := by
 have h1 : 1 ≤ n := by omega
 have c := appendSeq_in F (n - 1) h3 h5 hro (by omega) Bs a cap zs hbytes w hBs hcB hI
 clear hcB hI
 refine callsIn_of_wp Tryz.func141 rfl h8 ?_ hro
 simp only [Tryz.ntmps141, List.size_toArray, List.length_cons, List.length_nil, Nat.reduceAdd, Nat.reduceSub, Array.replicate_succ, Array.replicate_zero, List.push_toArray, List.append_toArray, List.nil_append, List.cons_append]
 gi_wp2_with (gi_at_call 172; refine c.mono ?_; rintro e w' ⟨v, rfl, hrow, hnil, hb⟩)
 go_ret
 exact ⟨v, rfl, hrow, hnil, hb⟩
theorem collect_any (Bs : Nat) (a : Option Addr) (cap : Nat) (zs : List Int) (hbytes : zs.length * 8 ≤ 140737488351232) (w : World)
  (hBs : Bs < w.heap.size) (hcB : w.cell? ⟨Bs, 0, none⟩ = some (.slice a zs.length cap)) (hI : ValsAt w.heap.size w a zs) :
  Calls Tryz.prog 141 #[.func (.func 143) #[] #[.pointer (some ⟨Bs, 0, none⟩)]] w fun e W' => ∃ v, e = .returned v ∧ W'.ownsRow w.heap.size 3 1 v zs.length (zs.map (Value.int .i64)) ∧ (v = .slice none 0 0 ↔ zs = []) ∧ Below w.heap.size w W' :=
 (callsIn_wide (n := 4)).1 (collect_in _ 4 trivial trivial trivial rfl (Nat.le_refl _) Bs a cap zs hbytes w hBs hcB hI)
theorem values_any (a : Option Addr) (len cap : Nat) (w : World) :
  Calls Tryz.prog 101 #[.slice a len cap] w fun e w' => e = .returned (.func (.func 143) #[] #[.pointer (some ⟨w.heap.size, 0, none⟩)]) ∧ w' = w.alloc (.cells #[.slice a len cap] 34) :=
 (callsIn_wide (n := 4)).1 (values_in _ 4 trivial rfl a len cap w)
open Go.Sort in
set_option maxHeartbeats 1000000 in
theorem sorted_any (Bs : Nat) (a : Option Addr) (cap : Nat) (zs : List Int) (hbytes : zs.length * 8 ≤ 140737488351232) (w : World)
  (hBs : Bs < w.heap.size) (hcB : w.cell? ⟨Bs, 0, none⟩ = some (.slice a zs.length cap)) (hI : ValsAt w.heap.size w a zs) :
  Calls Tryz.prog 100 #[.func (.func 143) #[] #[.pointer (some ⟨Bs, 0, none⟩)]] w fun e W' => ∃ v, e = .returned v ∧ W'.ownsRow w.heap.size 3 1 v zs.length ((zs.mergeSort (fun x y => decide (x ≤ y))).map (Value.int .i64)) ∧ Below w.heap.size w W' := by
 have c := collect_any Bs a cap zs hbytes w hBs hcB hI
 have hsz : zs.length < 4611686018427387904 := by omega
 clear hcB hI hbytes
 go_enter Tryz.func100, Tryz.ntmps100
 go_wp2_with (go_at_call 141; refine c.mono ?_; rintro e W ⟨v, rfl, hrow, hnil, hb⟩)
 rcases hrow.2 with ⟨rfl, hz⟩ | ⟨gb, cap, cur, rfl, hbase, hgb, r1, r2, r3, r4⟩
 ·have hss : zs = [] := List.eq_nil_of_length_eq_zero hz
  subst hss
  go_wp2_with (go_at_call 142; refine (Tryz.slices_Sort_int_none none 0 W).mono ?_; rintro e w' ⟨rfl, rfl⟩)
  go_ret
  exact ⟨.slice none 0 0, rfl, by simpa using hrow, hb⟩
 ·have hH : Holds (Value.int .i64) W gb 0 zs.toArray := holds_of_blockI hgb (by simpa using r4)
  have hgl : gb < W.heap.size := (Array.getElem?_eq_some_iff.1 hgb).1
  have cS := Tryz.slices_Sort_int gb 0 cap zs W hH hgl hsz
  go_wp2_with (go_at_call 142; refine cS.mono ?_; rintro e w' ⟨rfl, nn, os, rfl⟩)
  go_ret
  exact ⟨_, rfl, ownsRow_sortedI (by simp) hbase hgb r1 r2 r3, hb.grown (grownBy_sortedI _) hb.size (fun j hj => by cases hj; exact hbase)⟩
open Go.RowKit Go.Shelf
attribute [local go_sem] Oper.semAt_some
section
variable {F : Fence} {n : Nat} {P : Program} {ops : Array Oper} {rest : List Oper} {op : Oper} {a : Act} {w : World} {Q : Exit → Act → World → Prop}
theorem wpListIn_load_mid (hgd : op.guard = none) (ty : TypeId) (x : Operand) (ho : op.op = .load ty x)
  (b o : Nat) (hx : a.eval x = .pointer (some ⟨b, o, none⟩)) (cs : List Value) (d : TypeDesc) (hc : w.rangeAt b o cs)
  (hu : P.underlying ty = some d) (hd : d.isRow = true) (hi : (P.info? ty).map (·.size) = some cs.length)
  (h : wpListIn F n P ops Q rest (a.put op.dst (.agg cs.toArray)) w) : wpListIn F n P ops Q (op :: rest) a w := by
 refine wpListIn_plain hgd fun K hK => ?_
 unfold Oper.wpIn
 refine ⟨?_, ?_⟩
 ·simp [Oper.about, ho]
 ·rw [Oper.semAt_plain F _ _ (by rw [ho]; intro c hc'; cases hc')]
  simp only [execOp, ho, hx, Instr.loadAt, Instr.sureAddr, Sem.run_bind, Sem.run_pure, Result.andThen_ok, run_loadVar_mid w b o ty cs d hc hu hd hi]
  exact hK _ _ h
theorem wpListIn_store_mid (hgd : op.guard = none) (ty : TypeId) (x y : Operand) (ho : op.op = .store ty x y)
  (b o : Nat) (cells : Array Value) (hx : a.eval x = .pointer (some ⟨b, o, none⟩)) (hy : a.eval y = .agg cells)
  (ht : w.there b o cells.size) (hi : (P.info? ty).map (·.size) = some cells.size) (h1 : cells.all (·.oneCell') = true)
  (h : wpListIn F n P ops Q rest (a.put op.dst undef) (w.setCells b o cells.toList)) : wpListIn F n P ops Q (op :: rest) a w := by
 refine wpListIn_plain hgd fun K hK => ?_
 unfold Oper.wpIn
 refine ⟨?_, ?_⟩
 ·simp [Oper.about, ho]
 ·rw [Oper.semAt_plain F _ _ (by rw [ho]; intro c hc'; cases hc')]
  simp only [execOp, ho, hx, hy, Instr.storeAt, Instr.sureAddr, Sem.run_bind, Sem.run_pure, Result.andThen_ok, run_storeVar_mid w b o ty cells ht hi h1]
  exact hK _ _ h
end
def KeepsB (n₀ Bs : Nat) (A B : World) : Prop := Below n₀ A B ∧ (Bs < A.heap.size → B.heap[Bs]? = A.heap[Bs]?)
theorem KeepsB.refl (n₀ Bs : Nat) (A : World) : KeepsB n₀ Bs A A := ⟨Below.refl _ _, fun _ => rfl⟩
theorem KeepsB.tr {n₀ Bs : Nat} {A B C : World} (h : KeepsB n₀ Bs A B) (k : KeepsB n₀ Bs B C) : KeepsB n₀ Bs A C :=
 ⟨h.1.trans k.1, fun hb => (k.2 (Nat.lt_of_lt_of_le hb h.1.size)).trans (h.2 hb)⟩
theorem KeepsB.cell {n₀ Bs : Nat} {A B : World} (h : KeepsB n₀ Bs A B) {v : Value} (e : A.cell? ⟨Bs, 0, none⟩ = some v) : B.cell? ⟨Bs, 0, none⟩ = some v := by
 have hb := World.block_lt_of_cell? A _ e
 simp only [World.cell?, h.2 hb] at e ⊢
 exact e
theorem keepsB_b {n₀ Bs : Nat} {w : World} (hn : n₀ ≤ w.heap.size) (hb : Bs < w.heap.size) (W : World) (l : Nat) (o o' : Obj) (hl : w.heap.size ≤ l) (h : W.heap[l]? = some o) (h1 : o.isCells = false) (h2 : o.isWalk = false) : KeepsB n₀ Bs W (W.putObj l o') :=
 ⟨belowK_b hn W l o o' hl h h1 h2, fun _ => World.putObj_heap_other (by omega)⟩
set_option maxHeartbeats 1000000 in
theorem signers_in (F : Fence) (n : Nat) (h5 : F.fn 111) (hro : F.round = none) (a : Option Addr) (len cap : Nat) (w : World) :
  CallsIn F n Tryz.prog 111 #[.slice a len cap] w fun e w' => e = .returned (.func (.func 148) #[] #[.pointer (some ⟨w.heap.size, 0, none⟩)]) ∧ w' = w.alloc (.cells #[.slice a len cap] 24) := by
 refine callsIn_of_wp Tryz.func111 rfl h5 ?_ hro
 simp only [Tryz.ntmps111, List.size_toArray, List.length_cons, List.length_nil, Nat.reduceAdd, Nat.reduceSub, Array.replicate_succ, Array.replicate_zero, List.push_toArray, List.append_toArray, List.nil_append, List.cons_append]
 gi_wp2
 go_ret
 exact ⟨rfl, rfl⟩
end Go.Proofs.YtnfijfnnpbenfaaGreatDoor.Qs
