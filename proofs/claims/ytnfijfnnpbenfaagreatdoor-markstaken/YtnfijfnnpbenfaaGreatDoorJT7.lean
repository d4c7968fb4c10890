/- window.Put: its contract.; bytes laid behind those in a cell; a state's bytes: its numbers and its chain; bytesOf: up to the windows; bytesOf; Bytes; The docume -/
import Derived.Test.YtnfijfnnpbenfaaGreatDoorJT0
import Derived.Test.YtnfijfnnpbenfaaGreatDoorJT6
import Derived.Deep.Upon
import Derived.Deep.Cut
namespace Go.Proofs.YtnfijfnnpbenfaaGreatDoor.Wn
set_option maxRecDepth 100000
open Go.RowKit
open Tal
theorem info5 : (Tryz.prog.info? 5).map (fun i => (i.zero, i.size, i.bytes)) = some (some (.int .u8 0), 1, 1) := by kernel_rfl
theorem and_low (m : Nat) (hm : m < 2 ^ 64) : bits BinOp.and IntKind.u64 (m : Int) 4294967295 = ((m % 4294967296 : Nat) : Int) := by
 have := and_nat m 4294967295 hm (by decide)
 rw [show ((4294967295 : Nat) : Int) = (4294967295 : Int) from rfl] at this
 rw [this]
 congr 1
 have := Nat.and_two_pow_sub_one_eq_mod m 32
 exact this
theorem nil_rowT (w : World) : RowAt w none [] := ⟨by simp, by simp, Or.inl rfl⟩
theorem slice_of {w : World} {b : Nat} {e : TypeId} {v : Value} {n : Nat} {xs : List Value} (h : w.ownsRow b e 1 v n xs) : ∃ a cp, v = .slice a n cp := by
 rcases h.2 with ⟨rfl, h0⟩ | ⟨g, cp, cur, rfl, _⟩
 ·exact ⟨none, 0, by rw [h0]⟩
 ·exact ⟨_, _, rfl⟩
set_option maxHeartbeats 2000000 in
theorem wput_any (a : Option Addr) (cap : Nat) (zs : List Int) (B : Int) (m : Nat) (w : World) (h : RowAt w a zs) (hz : zs.length ≤ 1000000) (hm : m < 2 ^ 64) (hB : B ≤ 9223372036854775807) :
  Calls Tryz.prog 79 #[.slice a zs.length cap, winV B (m : Int)] w fun e w' => ∃ v, e = .returned v ∧ Mine w' w.heap.size v (zs ++ winL B m) ∧ Below w.heap.size w w' := by
 obtain ⟨i0, hi, hz0, hz1, hz2⟩ := info_parts info5
 have hb0 := one_box (Below.refl (w.alloc (.cells #[.int .i64 B, .int .u64 (m : Int)] 79)).heap.size _)
 have hand := and_low m hm
 obtain ⟨H, hH⟩ : ∃ H, m / 4294967296 = H := ⟨_, rfl⟩
 obtain ⟨L, hL⟩ : ∃ L, m % 4294967296 = L := ⟨_, rfl⟩
 have hHb : H < 4294967296 := by omega
 have hLb : L < 4294967296 := by omega
 have hHi : (m : Int) / 4294967296 = (H : Int) := by omega
 have HW : Hid (winL B m = putL B ++ putL (H : Int) ++ putL (L : Int)) := hide (by unfold winL; rw [hH, hL])
 rw [hL] at hand
 have wH : IntKind.i64.wrap (H : Int) = (H : Int) := wrap_id _ (by omega) (by omega)
 have wL : IntKind.i64.wrap (L : Int) = (L : Int) := wrap_id _ (by omega) (by omega)
 have l1 := putL_length B (by omega)
 have l2 := putL_length (H : Int) (by omega)
 have l3 := putL_length (L : Int) (by omega)
 have c1 := fun w0 => put_any none 0 [] B w0 (nil_rowT w0) (by simp) hB
 have c2 := fun a cap w0 h0 => put_any a cap (putL B) (H : Int) w0 h0 (by omega) (by omega)
 have c3 := fun a cap w0 h0 => put_any a cap (putL B ++ putL (H : Int)) (L : Int) w0 h0 (by rw [List.length_append]; omega) (by omega)
 simp only [List.nil_append, List.length_nil] at c1
 obtain ⟨P1, hP1⟩ : ∃ P1, Hid (putL B = P1) := ⟨_, rfl⟩
 rw [hP1.out] at HW l1
 simp only [hP1.out] at c1 c2 c3
 obtain ⟨P2, hP2⟩ : ∃ P2, Hid (P1 ++ putL (H : Int) = P2) := ⟨_, rfl⟩
 have l4 : P2.length = P1.length + (putL (H : Int)).length := by rw [← hP2.out, List.length_append]
 rw [hP2.out] at HW
 simp only [hP2.out] at c2 c3
 obtain ⟨P3, hP3⟩ : ∃ P3, Hid (P2 ++ putL (L : Int) = P3) := ⟨_, rfl⟩
 have l5 : P3.length = P2.length + (putL (L : Int)).length := by rw [← hP3.out, List.length_append]
 rw [hP3.out] at HW
 simp only [hP3.out] at c3
 rw [HW.out]
 have lP3 : P3.length ≤ 27 := by omega
 have lP1 : P1.length ≤ 9 := by omega
 have lP2 : P2.length ≤ 18 := by omega
 clear HW hH hL hm l1 l2 l3 l4 l5
 go_enter Tryz.func79, Tryz.ntmps79
 go_wp2_with fail
 obtain ⟨w0, hw0⟩ : ∃ w0, w.alloc (.cells #[.int .i64 B, .int .u64 (m : Int)] 79) = w0 := ⟨_, rfl⟩
 rw [hw0] at hb0 ⊢
 clear hw0
 obtain ⟨hA, hB0, hsz⟩ := hb0
 refine (c1 w0).mono ?_
 rintro e w1 ⟨v1, rfl, m1, hb1⟩
 have hA1 := range_below hA hb1 hsz
 have hB1 := hB0.trans (hb1.mono hB0.size)
 have hs1 : w.heap.size < w1.heap.size := by have := hb1.size; omega
 obtain ⟨a1, cap1, rfl, _, _, row1⟩ := m1.rowAt (by unfold maxLen; omega)
 clear c1 m1 hA hB0 hb1 hsz
 have q1 : w1.cell? ⟨w.heap.size, 1, none⟩ = some (.int .u64 (m : Int)) := hA1 1 _ rfl
 go_wp2_with fail
 refine (c2 a1 cap1 w1 row1).mono ?_
 rintro e w2 ⟨v2, rfl, m2, hb2⟩
 have hA2 := range_below hA1 hb2 hs1
 have hB2 := hB1.trans (hb2.mono hB1.size)
 have hs2 : w.heap.size < w2.heap.size := by have := hb2.size; omega
 obtain ⟨a2, cap2, rfl, _, _, row2⟩ := m2.rowAt (by unfold maxLen; omega)
 clear c2 m2 hA1 hB1 hb2 hs1 q1
 have q1 : w2.cell? ⟨w.heap.size, 1, none⟩ = some (.int .u64 (m : Int)) := hA2 1 _ rfl
 go_wp2_with fail
 refine (c3 a2 cap2 w2 row2).mono ?_
 rintro e w3 ⟨v3, rfl, m3, hb3⟩
 have hB3 := hB2.trans (hb3.mono hB2.size)
 have mF := m3.2
 obtain ⟨a3, cap3, rfl, _, _, row3⟩ := m3.rowAt (by unfold maxLen; omega)
 clear c3 m3 hA2 hB2 hb3 hs2 q1
 go_wp2_with (first
  | refine wpList_make_own _ rfl _ _ 57 rfl w3.heap.size 5 i0 (.int .u8 0) 1 Tryz.underlying57 hi hz0 hz1 .i64 .i64 _ (zs.length + P3.length) rfl rfl ?d1 ?d2 ?d3 ?d4 ?_)
 case d1 => omega
 case d2 => rw [hz2]; omega
 case d3 => unfold maxLen; omega
 case d4 => exact Nat.le_refl _
 intro w4 hown4 hgrow4
 have hb4 : Below w3.heap.size w3 w4 := (Below.refl _ _).grown hgrow4 (Nat.le_refl _) (fun k hk => by cases hk)
 go_wp2_with (at_builtin; refine wpList_append_own_src _ rfl _ _ 57 57 rfl w3.heap.size 5 i0 (.int .u8 0) 1 1 Tryz.underlying57 hi hz0 hz1 hz2 rfl _ 0 [] rfl hown4 (.slice a zs.length cap) zs.length (zs.map (Value.int .u8)) rfl ((h.below (hB3.trans (hb4.mono hB3.size))).src cap) ?c1 ?c2 ?c3 ?_)
 case c1 => unfold maxLen; omega
 case c2 => omega
 case c3 => exact hb4.size
 intro v5 w5 hown5 hgrow5
 have hb5 := below_grown hb4 hb4.size hown4 hgrow5
 have hown5' : w5.ownsRow w3.heap.size 5 1 v5 zs.length (zs.map (Value.int .u8)) := by simpa using hown5
 obtain ⟨b5, cp5, rfl⟩ := slice_of hown5'
 clear hown4 hgrow4 hown5 hgrow5 hb4
 go_wp2_with (at_builtin; refine wpList_append_own_src _ rfl _ _ 57 57 rfl w3.heap.size 5 i0 (.int .u8 0) 1 1 Tryz.underlying57 hi hz0 hz1 hz2 rfl _ zs.length (zs.map (Value.int .u8)) rfl hown5' (.slice a3 P3.length cap3) P3.length (P3.map (Value.int .u8)) rfl ((row3.below hb5).src cap3) ?c1 ?c2 ?c3 ?_)
 case c1 => unfold maxLen; omega
 case c2 => omega
 case c3 => exact hb5.size
 intro v6 w6 hown6 hgrow6
 have hb6 := below_grown hb5 hb5.size hown5' hgrow6
 obtain ⟨b6, cp6, rfl⟩ := slice_of hown6
 have hB6 := hB3.trans (hb6.mono hB3.size)
 have M6 : Mine w6 w.heap.size (.slice b6 (zs.length + P3.length) cp6) (zs ++ P3) := (Mine.mk' (zs ++ P3) hown6 (by simp) (by simp) (fun z hz => by rcases List.mem_append.1 hz with q | q; exact h.2.1 z q; exact mF z q)).mono' hB3.size
 go_wp2_with fail
 go_ret
 exact ⟨_, rfl, M6, hB6⟩
end Go.Proofs.YtnfijfnnpbenfaaGreatDoor.Wn
namespace Go.Proofs.YtnfijfnnpbenfaaGreatDoor
open Go.RowKit
open Sha Tal
set_option linter.unusedVariables false
set_option linter.unusedSimpArgs false
section
variable {P : Program} {ops : Array Oper} {Q : Exit → Act → World → Prop}
end
theorem there_part1 {w : World} {b n o m : Nat} (h : w.there b 0 n) (hm : o + m ≤ n) : w.there b o m := fun j hj => by
 have := h (o + j) (by omega)
 rwa [Nat.zero_add] at this
theorem ex_put1 {P : Program} {o : Oper} {a : Act} {w : World} {ty : TypeId} {x y : Operand} {b off n : Nat} {v : Value} (ho : o.op = .store ty x y) (hx : a.eval x = .pointer (some ⟨b, off, none⟩)) (hy : a.eval y = v) (ht : w.there b 0 n) (hn : off < n) (hi : (P.info? ty).map (·.size) = some 1) (hvc : v.cells = #[v]) (h1 : v.oneCell' = true) : (execOp a.eval o).run P w = .ok .skip (w.setCells b off [v]) := by
 refine exec_store ho hx hy ?_
 have e : storeVar ty ⟨b, off, none⟩ v = storeVar ty ⟨b, off, none⟩ (.agg #[v]) := by unfold storeVar; rw [hvc]; rfl
 rw [e, run_storeVar_mid w b off ty #[v] (there_part1 ht (by simp; omega)) hi (by simpa using h1)]
theorem own_cell {w : World} {B k n : Nat} {t : TypeId} {v : Value} {xs : List Value} (h : w.ownsRow B t k v n xs) : v.cells = #[v] ∧ v.oneCell' = true := by
 rcases h.2 with ⟨rfl, _⟩ | ⟨g, cap, cur, rfl, _⟩ <;> exact ⟨rfl, rfl⟩
structure OutAt (w : World) (O : Nat) (v : Value) (zs : List Int) : Prop where
 lt : O < w.heap.size
 c0 : w.cell? ⟨O, 0, none⟩ = some v
 th : w.there O 0 1
 me : Mine w (O + 1) v zs
theorem OutAt.below {w w' : World} {O : Nat} {v : Value} {zs : List Int} (h : OutAt w O v zs) (hb : Below w.heap.size w w') : OutAt w' O v zs :=
 ⟨Nat.lt_of_lt_of_le h.lt hb.size, (hb.cell (p := ⟨O, 0, none⟩) h.lt).trans h.c0, fun j hj => ⟨by rw [hb.cell (p := ⟨O, 0 + j, none⟩) h.lt]; exact (h.th j hj).1, by rw [hb.frozen (p := ⟨O, 0 + j, none⟩) h.lt]; exact (h.th j hj).2⟩, h.me.below hb⟩
theorem OutAt.more {w w2 : World} {O : Nat} {v v2 : Value} {zs bs : List Int} (h : OutAt w O v zs) (hg : w.grownBy w2 v.ownBlock) (hm : Mine w2 (O + 1) v2 bs) : OutAt (w2.setCells O 0 [v2]) O v2 bs ∧ Below O w (w2.setCells O 0 [v2]) := by
 have hX : w2.heap[O]? = w.heap[O]? := hg.block O h.lt (fun e => by have := (h.me.1.lt O e.symm).1; omega)
 have ht2 : w2.there O 0 1 := fun j hj => by
  have e1 : w2.cell? ⟨O, 0 + j, none⟩ = w.cell? ⟨O, 0 + j, none⟩ := by simp [World.cell?, hX]
  have e2 : w2.frozen? ⟨O, 0 + j, none⟩ = w.frozen? ⟨O, 0 + j, none⟩ := World.frozen?_of_block hX
  rw [e1, e2]; exact h.th j hj
 have hlt2 : O < w2.heap.size := Nat.lt_of_lt_of_le h.lt hg.size
 have hr : (w2.setCells O 0 [v2]).rangeAt O 0 [v2] := World.rangeAt_setCells_same w2 O 0 [v2] ht2
 refine ⟨⟨by rw [size_sets]; exact hlt2, by simpa using hr 0 _ rfl, World.there_setCells ht2 _ _ _, hm.far (fun g hg' => ?_)⟩, ?_⟩
 ·have := (hm.1.lt g hg').1
  exact World.heap_setCells_other _ _ _ _ (hm.1.lt g hg').2 (by omega)
 ·have h1 : Below O w w2 := (Below.refl O w).grown hg (Nat.le_of_lt h.lt) (fun k hk => by have := (h.me.1.lt k hk).1; omega)
  exact below_sets (Nat.le_refl _) _ _ _ h1
theorem iszBs : (Tryz.prog.info? 57).map (·.size) = some 1 := by kernel_rfl
set_option maxRecDepth 100000 in
set_option maxHeartbeats 1000000 in
theorem bput_any (O : Nat) (v : Value) (zs : List Int) (n : Int) (w : World) (h : OutAt w O v zs) (hn : n ≤ 9223372036854775807) (hz : zs.length ≤ 1000000) :
  Calls Tryz.prog 78 #[.int .i64 n, .pointer (some ⟨O, 0, none⟩)] w fun e w' => e = .returned (.tuple #[]) ∧ (∃ v', OutAt w' O v' (zs ++ putL n)) ∧ Below O w w' := by
 obtain ⟨i0, hi, hz0, hz1, hz2⟩ := info_parts Wn.info5
 have cp := fun w0 => put_any none 0 [] n w0 (nil_row w0) (by simp) hn
 simp only [List.nil_append, List.length_nil] at cp
 have hl9 : (putL n).length ≤ 9 := by have := putL_length n (by omega); omega
 generalize putL n = bs at *
 go_enter Tryz.func78, Tryz.ntmps78
 go_upto_region 0 with fail
 obtain ⟨w4, hw4⟩ : ∃ W, w.drew = W := ⟨_, rfl⟩
 have h4 : OutAt w4 O v zs := by rw [← hw4]; exact h.below ((Below.refl _ _).drew)
 have hB4 : Below O w w4 := by rw [← hw4]; exact (Below.refl _ _).drew
 refine hs_begin (S := fun _ => True) 5 rfl (by kernel_rfl) ?_
 rw [hw4]
 clear hw4
 have hS : (fun _ : World => True) w4 := trivial
 refine hs_t 1 4 (?_) rfl (by kernel_rfl) (by kernel_rfl) (by kernel_rfl) (by rfl) ?_ hS rfl ?_
 rotate_left
 ·intro w' hw
  go_simp
  try with_reducible rfl
 simp only [nz]
 refine hs_fork (i := 0) (j := 2) (by kernel_rfl) ?_ ?_
 ·refine st_run (i := 0) (d := some 3) (v := v) (w' := w4) rfl (by rfl) (pl_one rfl rfl h4.c0 Tryz.underlying57 rfl) rfl trivial ?_
  simp only [nz]
  refine hs_call (i := 2) (d := some 5) rfl (by kernel_rfl) (by rfl) (by go_simp; first | done | exact ⟨rfl, rfl⟩ | with_reducible rfl) rfl ?_
  refine (cp w4).mono ?_
  rintro _ w5 ⟨v5, rfl, m5, hb5⟩
  refine ⟨_, rfl, trivial, ?_⟩
  simp only [nz]
  have h5 := h4.below hb5
  have hB5 : Below O w4 w5 := hb5.mono (Nat.le_of_lt h4.lt)
  obtain ⟨a5, cap5, rfl, _, _, row5⟩ := m5.rowAt (by unfold maxLen; omega)
  obtain ⟨v6, w6, hrun, hown, hgr⟩ := run_append_own_src (P := Tryz.prog) w5 (O + 1) 57 57 57 5 i0 (.int .u8 0) 1 1 Tryz.underlying57 hi hz0 hz1 hz2 rfl v zs.length _ h5.me.1 (.slice a5 bs.length cap5) bs.length (v8 bs) (row5.src cap5) (by unfold maxLen; omega) (by omega) (by have := h5.lt; omega)
  have hM : Mine w6 (O + 1) v6 (zs ++ bs) := Mine.mk' _ hown (by simp) (by simp [v8]) (fun z hz => by
   rcases List.mem_append.1 hz with hz | hz
   ·exact h5.me.2 z hz
   ·exact row5.2.1 z hz)
  obtain ⟨h7, hB7⟩ := h5.more hgr hM
  have ht6 : w6.there O 0 1 := fun j hj => by
   have hX : w6.heap[O]? = w5.heap[O]? := hgr.block O h5.lt (fun e => by have := (h5.me.1.lt O e.symm).1; omega)
   have e1 : w6.cell? ⟨O, 0 + j, none⟩ = w5.cell? ⟨O, 0 + j, none⟩ := by simp [World.cell?, hX]
   have e2 : w6.frozen? ⟨O, 0 + j, none⟩ = w5.frozen? ⟨O, 0 + j, none⟩ := World.frozen?_of_block hX
   rw [e1, e2]; exact h5.th j hj
  have hv6 := own_cell hown
  refine hs_run (i := 3) (d := some 6) (v := v6) (w' := w6) rfl (by kernel_rfl) (by rfl) (exec_append rfl rfl rfl hrun) rfl trivial ?_
  simp only [nz]
  refine hs_store (i := 4) (w' := w6.setCells O 0 [v6]) rfl (by kernel_rfl) (by rfl) (ex_put1 (n := 1) rfl rfl rfl ht6 (by decide) iszBs hv6.1 hv6.2) rfl trivial ?_
  refine hs_done (by kernel_rfl) ?_
  have HB := hide (hB4.trans (hB5.trans hB7))
  clear hM ht6 hrun hown hgr hv6 row5 hB4 hB5 hB7 cp h5 h4 h
  go_wp2_with fail
  go_end0
  exact ⟨rfl, ⟨_, h7⟩, HB.out⟩
 ·refine st_call (i := 2) (d := some 5) rfl (by rfl) (by go_simp; first | done | exact ⟨rfl, rfl⟩ | with_reducible rfl) rfl ?_
  refine (cp w4).mono ?_
  rintro _ w5 ⟨v5, rfl, m5, hb5⟩
  refine ⟨_, rfl, trivial, ?_⟩
  simp only [nz]
  have h5 := h4.below hb5
  have hB5 : Below O w4 w5 := hb5.mono (Nat.le_of_lt h4.lt)
  refine hs_run (i := 0) (d := some 3) (v := v) (w' := w5) rfl (by kernel_rfl) (by rfl) (pl_one rfl rfl h5.c0 Tryz.underlying57 rfl) rfl trivial ?_
  simp only [nz]
  obtain ⟨a5, cap5, rfl, _, _, row5⟩ := m5.rowAt (by unfold maxLen; omega)
  obtain ⟨v6, w6, hrun, hown, hgr⟩ := run_append_own_src (P := Tryz.prog) w5 (O + 1) 57 57 57 5 i0 (.int .u8 0) 1 1 Tryz.underlying57 hi hz0 hz1 hz2 rfl v zs.length _ h5.me.1 (.slice a5 bs.length cap5) bs.length (v8 bs) (row5.src cap5) (by unfold maxLen; omega) (by omega) (by have := h5.lt; omega)
  have hM : Mine w6 (O + 1) v6 (zs ++ bs) := Mine.mk' _ hown (by simp) (by simp [v8]) (fun z hz => by
   rcases List.mem_append.1 hz with hz | hz
   ·exact h5.me.2 z hz
   ·exact row5.2.1 z hz)
  obtain ⟨h7, hB7⟩ := h5.more hgr hM
  have ht6 : w6.there O 0 1 := fun j hj => by
   have hX : w6.heap[O]? = w5.heap[O]? := hgr.block O h5.lt (fun e => by have := (h5.me.1.lt O e.symm).1; omega)
   have e1 : w6.cell? ⟨O, 0 + j, none⟩ = w5.cell? ⟨O, 0 + j, none⟩ := by simp [World.cell?, hX]
   have e2 : w6.frozen? ⟨O, 0 + j, none⟩ = w5.frozen? ⟨O, 0 + j, none⟩ := World.frozen?_of_block hX
   rw [e1, e2]; exact h5.th j hj
  have hv6 := own_cell hown
  refine hs_run (i := 3) (d := some 6) (v := v6) (w' := w6) rfl (by kernel_rfl) (by rfl) (exec_append rfl rfl rfl hrun) rfl trivial ?_
  simp only [nz]
  refine hs_store (i := 4) (w' := w6.setCells O 0 [v6]) rfl (by kernel_rfl) (by rfl) (ex_put1 (n := 1) rfl rfl rfl ht6 (by decide) iszBs hv6.1 hv6.2) rfl trivial ?_
  refine hs_done (by kernel_rfl) ?_
  have HB := hide (hB4.trans (hB5.trans hB7))
  clear hM ht6 hrun hown hgr hv6 row5 hB4 hB5 hB7 cp h5 h4 h
  go_wp2_with fail
  go_end0
  exact ⟨rfl, ⟨_, h7⟩, HB.out⟩
end Go.Proofs.YtnfijfnnpbenfaaGreatDoor
namespace Go.Proofs.YtnfijfnnpbenfaaGreatDoor
open Go.RowKit
open Sha Tal
set_option linter.unusedVariables false
set_option linter.unusedSimpArgs false
def Wd.bytes (x : Wd) : List Int := Wn.winL x.b x.m
def Stt.b1 (s : Stt) : List Int := putL s.e ++ putL s.n ++ putL s.c ++ s.d ++ putL (s.ws.xs.length : Int)
def Stt.b2 (s : Stt) (k : Nat) : List Int := s.b1 ++ (s.ws.xs.take k).flatMap Wd.bytes
def Stt.b3 (s : Stt) (k : Nat) : List Int := s.b2 s.ws.xs.length ++ putL (s.ps.xs.length : Int) ++ (s.ps.xs.take k).flatMap putL
def Stt.bytes (s : Stt) : List Int := s.b3 s.ps.xs.length
theorem putL9 (n : Int) (h : n ≤ 9223372036854775807) : (putL n).length ≤ 9 := by
 have := putL_length n (by omega)
 omega
theorem win27 (x : Wd) (h : x.ok) : x.bytes.length ≤ 27 := by
 have h1 := putL9 x.b h.hi
 have h2 := putL9 ((x.m / 4294967296 : Nat) : Int) (by have := h.ml; omega)
 have h3 := putL9 ((x.m % 4294967296 : Nat) : Int) (by have := h.ml; omega)
 unfold Wd.bytes Wn.winL
 rw [List.length_append, List.length_append]
 omega
theorem flat_leK {α : Type} {f : α → List Int} {K : Nat} : ∀ (xs : List α), (∀ x ∈ xs, (f x).length ≤ K) → (xs.flatMap f).length ≤ xs.length * K
  | [], _ => by simp
  | x :: xs, h => by
    have h1 := h x (by simp)
    have h2 := flat_leK xs (fun y hy => h y (by simp [hy]))
    rw [List.flatMap_cons, List.length_append, List.length_cons, Nat.add_mul]
    omega
theorem Stt.b1_le {s : Stt} (h : s.ok) (hw : s.ws.xs.length ≤ 100) : s.b1.length ≤ 100 := by
 have h1 := putL9 s.e h.e1
 have h2 := putL9 s.n h.n1
 have h3 := putL9 s.c h.c1
 have h4 := putL9 (s.ws.xs.length : Int) (by omega)
 have h5 := h.dl
 unfold Stt.b1
 simp only [List.length_append]
 omega
theorem Stt.b2_le {s : Stt} (h : s.ok) (hw : s.ws.xs.length ≤ 100) (ho : ∀ y ∈ s.ws.xs, y.ok) (k : Nat) : (s.b2 k).length ≤ 2800 := by
 have h1 := Stt.b1_le h hw
 have h2 := flat_leK (f := Wd.bytes) (K := 27) (s.ws.xs.take k) (fun x hx => win27 x (ho x (List.mem_of_mem_take hx)))
 have h3 : (s.ws.xs.take k).length ≤ 100 := by rw [List.length_take]; omega
 have h4 := Nat.mul_le_mul_right 27 h3
 unfold Stt.b2
 rw [List.length_append]
 omega
theorem Stt.b3_le {s : Stt} (h : s.ok) (hw : s.ws.xs.length ≤ 100) (hp : s.ps.xs.length ≤ 200) (ho : ∀ y ∈ s.ws.xs, y.ok) (hq : ∀ z ∈ s.ps.xs, PnOk z) (k : Nat) : (s.b3 k).length ≤ 5000 := by
 have h1 := Stt.b2_le h hw ho s.ws.xs.length
 have h2 := flat_leK (f := putL) (K := 9) (s.ps.xs.take k) (fun x hx => putL9 x (hq x (List.mem_of_mem_take hx)).hi)
 have h3 : (s.ps.xs.take k).length ≤ 200 := by rw [List.length_take]; omega
 have h4 := Nat.mul_le_mul_right 9 h3
 have h5 := putL9 (s.ps.xs.length : Int) (by omega)
 unfold Stt.b3
 simp only [List.length_append]
 omega
theorem Stt.b2_zero (s : Stt) : s.b2 0 = s.b1 := by simp [Stt.b2]
theorem Stt.b2_succ (s : Stt) (k : Nat) (hk : k < s.ws.xs.length) : s.b2 (k + 1) = s.b2 k ++ s.ws.xs[k].bytes := by
 unfold Stt.b2
 rw [List.take_succ_eq_append_getElem hk, List.flatMap_append, List.flatMap_cons, List.flatMap_nil, List.append_nil, ← List.append_assoc]
theorem Stt.b3_zero (s : Stt) : s.b3 0 = s.b2 s.ws.xs.length ++ putL (s.ps.xs.length : Int) := by simp [Stt.b3]
theorem Stt.b3_succ (s : Stt) (k : Nat) (hk : k < s.ps.xs.length) : s.b3 (k + 1) = s.b3 k ++ putL s.ps.xs[k] := by
 unfold Stt.b3
 rw [List.take_succ_eq_append_getElem hk, List.flatMap_append, List.flatMap_cons, List.flatMap_nil, List.append_nil, ← List.append_assoc]
open Go.RowKit
open Sha Tal
set_option linter.unusedVariables false
set_option linter.unusedSimpArgs false
structure Bo (w0 W : World) (s : Stt) (zs : List Int) : Prop where
 out : ∃ v, OutAt W (w0.heap.size + 1) v zs
 low : Below (w0.heap.size + 1) (w0.alloc (.cells s.cells.toArray 36)) W
theorem Bo.row {w0 W : World} {s : Stt} {zs : List Int} (h : Bo w0 W s zs) : W.rangeAt w0.heap.size 0 s.cells :=
 range_below (boxed_new w0 s.cells 36).2.1 h.low (by omega)
theorem Bo.size {w0 W : World} {s : Stt} {zs : List Int} (h : Bo w0 W s zs) : w0.heap.size + 2 ≤ W.heap.size := by
 obtain ⟨v, h⟩ := h.out
 have := h.lt
 omega
theorem Bo.below {w0 W : World} {s : Stt} {zs : List Int} (h : Bo w0 W s zs) : Below w0.heap.size w0 W :=
 (boxed_new w0 s.cells 36).1.trans (h.low.mono (by omega))
theorem Bo.next {w0 W W' : World} {s : Stt} {zs zs' : List Int} (h : Bo w0 W s zs) (ho : ∃ v, OutAt W' (w0.heap.size + 1) v zs') (hb : Below (w0.heap.size + 1) W W') : Bo w0 W' s zs' := ⟨ho, h.low.trans hb⟩
theorem Bo.more {w0 W W' : World} {s : Stt} {zs : List Int} (h : Bo w0 W s zs) (hb : Below W.heap.size W W') : Bo w0 W' s zs := by
 obtain ⟨v, h1⟩ := h.out
 exact ⟨⟨v, h1.below hb⟩, h.low.trans (hb.mono (by have := h1.lt; omega))⟩
theorem bo_new (w : World) (s : Stt) : Bo w ((w.alloc (.cells s.cells.toArray 36)).alloc (.cells #[.slice none 0 0] 57)) s [] := by
 have e1 : (w.alloc (.cells s.cells.toArray 36)).heap.size = w.heap.size + 1 := World.size_alloc _ _
 have h1 := range_new (w.alloc (.cells s.cells.toArray 36)) #[.slice none 0 0] 57
 have h2 := there_new (w.alloc (.cells s.cells.toArray 36)) #[.slice none 0 0] 57
 rw [e1] at h1 h2
 refine ⟨⟨.slice none 0 0, ⟨by rw [World.size_alloc, e1]; omega, h1 0 _ rfl, h2, Mine.nil _ _⟩⟩, ?_⟩
 exact (Below.refl _ _).alloc (by rw [e1]; exact Nat.le_refl _) _
theorem bo_put {w0 W : World} {s : Stt} {zs : List Int} (h : Bo w0 W s zs) (n : Int) (hn : n ≤ 9223372036854775807) (hz : zs.length ≤ 1000000) : Calls Tryz.prog 78 #[.int .i64 n, .pointer (some ⟨w0.heap.size + 1, 0, none⟩)] W fun e w' => e = .returned (.tuple #[]) ∧ Bo w0 w' s (zs ++ putL n) := by
 obtain ⟨v, h1⟩ := h.out
 exact (bput_any _ v zs n W h1 hn hz).mono (fun e w' ⟨q1, q2, q3⟩ => ⟨q1, h.next q2 q3⟩)
open Go.RowKit
open Sha Tal
set_option linter.unusedVariables false
set_option linter.unusedSimpArgs false
theorem range_blk {w w' : World} {b o : Nat} {cs : List Value} (h : w.rangeAt b o cs) (hb : w'.heap[b]? = w.heap[b]?) : w'.rangeAt b o cs := fun j v hv => by
 rw [(@cell_block w w' b (o + j) hb).1]
 exact h j v hv
theorem range_own {w w' : World} {b o : Nat} {v : Value} {cs : List Value} (h : w.rangeAt b o cs) (g : w.grownBy w' v.ownBlock) (hb : b < w.heap.size) (hne : ∀ q, v.ownBlock = some q → q ≠ b) : w'.rangeAt b o cs :=
 range_blk h (g.block b hb (fun e => hne b e.symm rfl))
theorem rowd {w : World} {b : Nat} {s : Stt} (hd : w.rangeAt b 3 (v8 s.d)) (h : s.ok) (hb : b < w.heap.size) : RowAt w (some ⟨b, 3, none⟩) s.d := by
  refine ⟨by rw [h.dl]; unfold maxLen; omega, h.db, .inr ⟨b, 3, rfl, hb, ?_⟩⟩
  first | exact hd | exact fun j hj => hd j _ (by simp [v8, hj])
set_option maxRecDepth 100000 in
set_option maxHeartbeats 1000000 in
theorem sbytesOf_any (s : Stt) (w : World) (h : s.ok) (hs : s.At w) (hw : s.ws.xs.length ≤ 100) (hp : s.ps.xs.length ≤ 200) : Calls Tryz.prog 39 #[.agg s.cells.toArray] w fun e w' => ∃ v, e = .returned v ∧ Mine w' w.heap.size v s.bytes ∧ Below w.heap.size w w' := by
 obtain ⟨i0, hi, hz0, hz1, hz2⟩ := info_parts Wn.info5
 have hB0 := bo_new w s
 have pe := (st_parts h hB0.row).e
 go_enter Tryz.func39, Tryz.ntmps39
 go_upto_region 3 with fail
 go_name_world W hW
 rw [show (w.alloc (.cells s.cells.toArray 36)).alloc (.cells #[.slice none 0 0] 57) = W from hW] at hB0 pe
 clear hW
 go_wp2_with fail
 refine (bo_put hB0 s.e h.e1 (by simp)).mono ?_
 rintro e1 w1 ⟨rfl, hB1⟩
 have hB1 : Bo w w1 s (putL s.e) := by simpa using hB1
 have pn := (st_parts h hB1.row).n
 have l1 := putL9 s.e h.e1
 clear pe hB0
 go_wp2_with fail
 refine (bo_put hB1 s.n h.n1 (by omega)).mono ?_
 rintro e2 w2 ⟨rfl, hB2⟩
 have pc := (st_parts h hB2.row).c
 have l2 := putL9 s.n h.n1
 clear pn hB1
 go_wp2_with fail
 refine (bo_put hB2 s.c h.c1 (by simp only [List.length_append]; omega)).mono ?_
 rintro e3 w3 ⟨rfl, hB3⟩
 clear pc hB2
 go_upto_region 6 with fail
 obtain ⟨w4, hw4⟩ : ∃ W, w3.drew = W := ⟨_, rfl⟩
 have hB4 : Bo w w4 s (putL s.e ++ putL s.n ++ putL s.c) := by rw [← hw4]; exact hB3.more ((Below.refl _ _).drew)
 refine hs_begin (S := fun _ => True) 5 rfl (by kernel_rfl) ?_
 rw [hw4]
 clear hw4
 have hS : (fun _ : World => True) w4 := trivial
 obtain ⟨v, ho⟩ := hB4.out
 have hrow : RowAt w4 (some ⟨w.heap.size, 3, none⟩) s.d := rowd (st_parts h hB4.row).d h (by have := hB4.size; omega)
 have hld := h.dl
 have hB4' := hB4
 obtain ⟨zs, hzs⟩ : ∃ z, Hid (putL s.e ++ putL s.n ++ putL s.c = z) := ⟨_, hide rfl⟩
 have hzl : zs.length ≤ 100 := by
  have h1 := putL9 s.e h.e1
  have h2 := putL9 s.n h.n1
  have h3 := putL9 s.c h.c1
  rw [← hzs.out]; simp only [List.length_append]; omega
 rw [hzs.out] at ho
 refine hs_t 1 23 (?_) rfl (by kernel_rfl) (by kernel_rfl) (by kernel_rfl) (by rfl) ?_ hS rfl ?_
 rotate_left
 ·intro w' hw
  go_simp
  try with_reducible rfl
 simp only [nz]
 refine hs_t 2 24 (.slice (some ⟨w.heap.size, 3, none⟩) 32 32) rfl (by kernel_rfl) (by kernel_rfl) (by kernel_rfl) (by rfl) (fun w' hw => by go_simp; first | done | with_reducible rfl) hS rfl ?_
 simp only [nz]
 refine hs_run (i := 0) (d := some 22) (v := v) (w' := w4) rfl (by kernel_rfl) (by rfl) (pl_one rfl rfl ho.c0 Tryz.underlying57 rfl) rfl trivial ?_
 simp only [nz]
 obtain ⟨v6, w6, hrun, hown, hgr⟩ := run_append_own_src (P := Tryz.prog) w4 (w.heap.size + 1 + 1) 57 57 57 5 i0 (.int .u8 0) 1 1 Tryz.underlying57 hi hz0 hz1 hz2 rfl v zs.length _ ho.me.1 (.slice (some ⟨w.heap.size, 3, none⟩) s.d.length 32) s.d.length (v8 s.d) (hrow.src 32) (by unfold maxLen; omega) (by omega) (by have := ho.lt; omega)
 have hM : Mine w6 (w.heap.size + 1 + 1) v6 (zs ++ s.d) := Mine.mk' _ hown (by simp) (by simp [v8]) (fun z hz => by
  rcases List.mem_append.1 hz with hz | hz
  ·exact ho.me.2 z hz
  ·exact hrow.2.1 z hz)
 obtain ⟨h7, hB7⟩ := ho.more hgr hM
 have ht6 : w6.there (w.heap.size + 1) 0 1 := fun j hj => by
  have hX : w6.heap[w.heap.size + 1]? = w4.heap[w.heap.size + 1]? := hgr.block _ ho.lt (fun e => by have := (ho.me.1.lt _ e.symm).1; omega)
  have e1 : w6.cell? ⟨w.heap.size + 1, 0 + j, none⟩ = w4.cell? ⟨w.heap.size + 1, 0 + j, none⟩ := by simp [World.cell?, hX]
  have e2 : w6.frozen? ⟨w.heap.size + 1, 0 + j, none⟩ = w4.frozen? ⟨w.heap.size + 1, 0 + j, none⟩ := World.frozen?_of_block hX
  rw [e1, e2]; exact ho.th j hj
 have hv6 := own_cell hown
 have hrun : (Builtin.append_ #[57, 57] 57 #[v, .slice (some ⟨w.heap.size, 3, none⟩) 32 32]).run Tryz.prog w4 = .ok v6 w6 := by have := hrun; rwa [hld] at this
 refine hs_run (i := 3) (d := some 25) (v := v6) (w' := w6) rfl (by kernel_rfl) (by rfl) (exec_append rfl rfl rfl hrun) rfl trivial ?_
 simp only [nz]
 refine hs_store (i := 4) (w' := w6.setCells (w.heap.size + 1) 0 [v6]) rfl (by kernel_rfl) (by rfl) (ex_put1 (n := 1) rfl rfl rfl ht6 (by decide) iszBs hv6.1 hv6.2) rfl trivial ?_
 refine hs_done (by kernel_rfl) ?_
 have hB5 : Bo w (w6.setCells (w.heap.size + 1) 0 [v6]) s (zs ++ s.d) := hB4'.next ⟨_, h7⟩ hB7
 rw [← hzs.out] at hB5
 obtain ⟨w5, hw5⟩ : ∃ W, w6.setCells (w.heap.size + 1) 0 [v6] = W := ⟨_, rfl⟩
 rw [hw5] at hB5 ⊢
 clear hw5 hM h7 hB7 ht6 hv6 hrun hown hgr ho hrow hzs hzl hB4 hB4' hB3 hS hld
 have pw : w5.cell? ⟨w.heap.size, 35, none⟩ = some (.slice s.ws.a s.ws.xs.length s.ws.cap) := (st_parts h hB5.row).ws
 go_wp2_with fail
 refine (bo_put hB5 (s.ws.xs.length : Int) (by omega) (by simp only [List.length_append]; have := putL9 s.c h.c1; have := h.dl; omega)).mono ?_
 rintro e6 w6 ⟨rfl, hB6⟩
 have hB6 : Bo w w6 s (s.b2 0) := by rw [Stt.b2_zero]; exact hB6
 have pw : w6.cell? ⟨w.heap.size, 35, none⟩ = some (.slice s.ws.a s.ws.xs.length s.ws.cap) := (st_parts h hB6.row).ws
 clear hB5 l1 l2
 go_wp2
 clear pw
 go_loopw [34] (fun iv wr' => ∃ k : Nat, k ≤ s.ws.xs.length ∧ iv = .int .i64 (k : Int) ∧ Hid (Bo w wr' s (s.b2 k))) (fun iv _ => s.ws.xs.length - (intOf iv).toNat)
 case atStart => exact ⟨0, by omega, rfl, hide hB6⟩
 case round =>
  clear hB6
  obtain ⟨k, hk, rfl, HB⟩ := hrel
  by_cases hlt : k < s.ws.xs.length
  ·have k1 : (k : Int) < s.ws.xs.length := by omega
   obtain ⟨b, off, hab, hb, hre⟩ := RowsAt.elem (hs.ws.below HB.out.below) k hlt
   have hre : wr.rangeAt b (off + k * 2) (WdE.f s.ws.xs[k]) := hre
   have okx : Wd.ok s.ws.xs[k] := hs.ws.2.1 _ (List.getElem_mem hlt)
   have HS := hide (s.b2_succ k hlt)
   have hl2 := Stt.b2_le h hw (fun y hy => hs.ws.2.1 y hy) k
   obtain ⟨gx, hX⟩ : ∃ g, Hid (s.ws.xs[k] = g) := ⟨_, hide rfl⟩
   rw [hX.out] at hre okx HS
   clear hX
   have cp : ∀ w0, Calls Tryz.prog 79 #[.slice none 0 0, .agg (WdE.f gx).toArray] w0 fun e w' => ∃ v, e = .returned v ∧ Mine w' w0.heap.size v gx.bytes ∧ Below w0.heap.size w0 w' := fun w0 => by
    have := Wn.wput_any none 0 [] gx.b gx.m w0 (nil_row w0) (by simp) okx.ml okx.hi
    simp only [List.nil_append, List.length_nil] at this
    exact this
   have hbl := win27 gx okx
   have iu : (Tryz.prog.info? 79).map (·.size) = some (WdE.f gx).length := iszW
   have iA : (Tryz.prog.info? 79).map (·.size) = some (WdE.f gx).toArray.size := iszW
   have ou : (WdE.f gx).toArray.all (·.oneCell') = true := all_oneCell_toArray (WdE.one gx)
   obtain ⟨r5, hB5', hs5, _⟩ := fresh_store wr #[.int .i64 0, .int .u64 0] 79 (WdE.f gx) rfl
   have hT5 : (wr.alloc (.cells #[.int .i64 0, .int .u64 0] 79)).there wr.heap.size 0 (WdE.f gx).toArray.size := there_new wr #[.int .i64 0, .int .u64 0] 79
   generalize gx.bytes = bs at *
   generalize WdE.f gx = u at *
   clear okx gx
   obtain ⟨v, ho0⟩ := HB.out.out
   have hvb : ∀ g, v.ownBlock = some g → g < wr.heap.size := fun g e => (ho0.me.1.lt g e).2
   have hwr := HB.out.size
   rw [hab]
   go_upto_region 11 with (first | (refine wpList_load_mid rfl 79 _ rfl _ _ rfl u _ hre Tryz.underlying79 rfl iu ?_) | (refine wpList_store_mid rfl 79 _ _ rfl _ _ u.toArray rfl rfl hT5 iA ou ?_))
   go_name_world w5 hw5
   rw [show (wr.alloc (.cells #[.int .i64 0, .int .u64 0] 79)).setCells wr.heap.size 0 u = w5 from hw5] at r5 hB5' hs5
   have hz5 : w5.heap.size = wr.heap.size + 1 := hs5
   obtain ⟨w4, hw4⟩ : ∃ W, w5.drew = W := ⟨_, rfl⟩
   have hd4 : Below w5.heap.size w5 w4 := by rw [← hw4]; exact (Below.refl _ _).drew
   have hz4 : w4.heap.size = wr.heap.size + 1 := by rw [← hw4]; exact hz5
   have hB4 : Bo w w4 s (s.b2 k) := (HB.out.more hB5').more hd4
   have r4 : w4.rangeAt wr.heap.size 0 u := range_below r5 hd4 (by omega)
   have ho4 : OutAt w4 (w.heap.size + 1) v (s.b2 k) := (ho0.below hB5').below hd4
   refine hs_begin (S := (fun W' : World => W'.rangeAt wr.heap.size 0 u)) 5 rfl (by kernel_rfl) ?_
   rw [hw4]
   clear hw4 hw5 r5 hB5' hs5 hT5 hd4 hre iA ou ho0 hz5
   have hS : (fun W' : World => W'.rangeAt wr.heap.size 0 u) w4 := r4
   obtain ⟨zs, hzs⟩ : ∃ z, Hid (s.b2 k = z) := ⟨_, hide rfl⟩
   have hB4' := hB4
   rw [hzs.out] at ho4 hl2
   refine hs_t 1 39 (.agg u.toArray) rfl (by kernel_rfl) (by kernel_rfl) (by kernel_rfl) (by rfl) (fun w' hw => ex_mid rfl rfl hw Tryz.underlying79 rfl iu) hS rfl ?_
   simp only [nz]
   refine hs_fork (i := 0) (j := 2) (by kernel_rfl) ?_ ?_
   ·refine st_run (i := 0) (d := some 38) (v := v) (w' := w4) rfl (by rfl) (pl_one rfl rfl ho4.c0 Tryz.underlying57 rfl) rfl hS ?_
    simp only [nz]
    refine hs_call (i := 2) (d := some 40) rfl (by kernel_rfl) (by rfl) (by go_simp; first | done | exact ⟨rfl, rfl⟩ | with_reducible rfl) rfl ?_
    refine (cp w4).mono ?_
    rintro _ w3' ⟨v5, rfl, m5, hb5⟩
    have hS : (fun W' : World => W'.rangeAt wr.heap.size 0 u) w3' := range_below hS hb5 (by omega)
    refine ⟨_, rfl, hS, ?_⟩
    simp only [nz]
    have ho5 := ho4.below hb5
    have hz3 := hb5.size
    obtain ⟨a5, cap5, rfl, _, _, row5⟩ := m5.rowAt (by unfold maxLen; omega)
    obtain ⟨v6, w6, hrun, hown, hgr⟩ := run_append_own_src (P := Tryz.prog) w3' (w.heap.size + 1 + 1) 57 57 57 5 i0 (.int .u8 0) 1 1 Tryz.underlying57 hi hz0 hz1 hz2 rfl v zs.length _ ho5.me.1 (.slice a5 bs.length cap5) bs.length (v8 bs) (row5.src cap5) (by unfold maxLen; omega) (by omega) (by have := ho5.lt; omega)
    have hM : Mine w6 (w.heap.size + 1 + 1) v6 (zs ++ bs) := Mine.mk' _ hown (by simp) (by simp [v8]) (fun z hz => by
     rcases List.mem_append.1 hz with hz | hz
     ·exact ho5.me.2 z hz
     ·exact row5.2.1 z hz)
    obtain ⟨h7, hB7⟩ := ho5.more hgr hM
    have ht6 : w6.there (w.heap.size + 1) 0 1 := fun j hj => by
     have hX : w6.heap[w.heap.size + 1]? = w3'.heap[w.heap.size + 1]? := hgr.block _ ho5.lt (fun e => by have := (ho5.me.1.lt _ e.symm).1; omega)
     have e1 : w6.cell? ⟨w.heap.size + 1, 0 + j, none⟩ = w3'.cell? ⟨w.heap.size + 1, 0 + j, none⟩ := by simp [World.cell?, hX]
     have e2 : w6.frozen? ⟨w.heap.size + 1, 0 + j, none⟩ = w3'.frozen? ⟨w.heap.size + 1, 0 + j, none⟩ := World.frozen?_of_block hX
     rw [e1, e2]; exact ho5.th j hj
    have hv6 := own_cell hown
    have hS6 : (fun W' : World => W'.rangeAt wr.heap.size 0 u) w6 := range_own hS hgr (by omega) (fun g e => by have := hvb g e; omega)
    refine hs_run (i := 3) (d := some 41) (v := v6) (w' := w6) rfl (by kernel_rfl) (by rfl) (exec_append rfl rfl rfl hrun) rfl hS6 ?_
    simp only [nz]
    have hS7 : (fun W' : World => W'.rangeAt wr.heap.size 0 u) (w6.setCells (w.heap.size + 1) 0 [v6]) := World.rangeAt_setCells_apart hS6 _ _ _ (.inl (by omega))
    refine hs_store (i := 4) (w' := w6.setCells (w.heap.size + 1) 0 [v6]) rfl (by kernel_rfl) (by rfl) (ex_put1 (n := 1) rfl rfl rfl ht6 (by decide) iszBs hv6.1 hv6.2) rfl hS7 ?_
    refine hs_done (by kernel_rfl) ?_
    have HB8 : Hid (Bo w (w6.setCells (w.heap.size + 1) 0 [v6]) s (s.b2 (k + 1))) := hide (by
     rw [HS.out, hzs.out]
     exact hB4'.next ⟨_, h7⟩ ((hb5.mono (by omega)).trans hB7))
    clear hM h7 hB7 ht6 hv6 hrun hown hgr ho4 ho5 hzs hB4 hB4' hS hS6 hS7 HB HS row5 hvb hb5 hl2 cp iu r4 hab
    go_wp2_with fail
    go_roundw
    case rel => exact ⟨k + 1, by omega, by go_num, HB8⟩
    case measure => simp [intOf]; omega
   ·refine st_call (i := 2) (d := some 40) rfl (by rfl) (by go_simp; first | done | exact ⟨rfl, rfl⟩ | with_reducible rfl) rfl ?_
    refine (cp w4).mono ?_
    rintro _ w3' ⟨v5, rfl, m5, hb5⟩
    have hS : (fun W' : World => W'.rangeAt wr.heap.size 0 u) w3' := range_below hS hb5 (by omega)
    refine ⟨_, rfl, hS, ?_⟩
    simp only [nz]
    have ho5 := ho4.below hb5
    have hz3 := hb5.size
    obtain ⟨a5, cap5, rfl, _, _, row5⟩ := m5.rowAt (by unfold maxLen; omega)
    refine hs_run (i := 0) (d := some 38) (v := v) (w' := w3') rfl (by kernel_rfl) (by rfl) (pl_one rfl rfl ho5.c0 Tryz.underlying57 rfl) rfl hS ?_
    simp only [nz]
    obtain ⟨v6, w6, hrun, hown, hgr⟩ := run_append_own_src (P := Tryz.prog) w3' (w.heap.size + 1 + 1) 57 57 57 5 i0 (.int .u8 0) 1 1 Tryz.underlying57 hi hz0 hz1 hz2 rfl v zs.length _ ho5.me.1 (.slice a5 bs.length cap5) bs.length (v8 bs) (row5.src cap5) (by unfold maxLen; omega) (by omega) (by have := ho5.lt; omega)
    have hM : Mine w6 (w.heap.size + 1 + 1) v6 (zs ++ bs) := Mine.mk' _ hown (by simp) (by simp [v8]) (fun z hz => by
     rcases List.mem_append.1 hz with hz | hz
     ·exact ho5.me.2 z hz
     ·exact row5.2.1 z hz)
    obtain ⟨h7, hB7⟩ := ho5.more hgr hM
    have ht6 : w6.there (w.heap.size + 1) 0 1 := fun j hj => by
     have hX : w6.heap[w.heap.size + 1]? = w3'.heap[w.heap.size + 1]? := hgr.block _ ho5.lt (fun e => by have := (ho5.me.1.lt _ e.symm).1; omega)
     have e1 : w6.cell? ⟨w.heap.size + 1, 0 + j, none⟩ = w3'.cell? ⟨w.heap.size + 1, 0 + j, none⟩ := by simp [World.cell?, hX]
     have e2 : w6.frozen? ⟨w.heap.size + 1, 0 + j, none⟩ = w3'.frozen? ⟨w.heap.size + 1, 0 + j, none⟩ := World.frozen?_of_block hX
     rw [e1, e2]; exact ho5.th j hj
    have hv6 := own_cell hown
    have hS6 : (fun W' : World => W'.rangeAt wr.heap.size 0 u) w6 := range_own hS hgr (by omega) (fun g e => by have := hvb g e; omega)
    refine hs_run (i := 3) (d := some 41) (v := v6) (w' := w6) rfl (by kernel_rfl) (by rfl) (exec_append rfl rfl rfl hrun) rfl hS6 ?_
    simp only [nz]
    have hS7 : (fun W' : World => W'.rangeAt wr.heap.size 0 u) (w6.setCells (w.heap.size + 1) 0 [v6]) := World.rangeAt_setCells_apart hS6 _ _ _ (.inl (by omega))
    refine hs_store (i := 4) (w' := w6.setCells (w.heap.size + 1) 0 [v6]) rfl (by kernel_rfl) (by rfl) (ex_put1 (n := 1) rfl rfl rfl ht6 (by decide) iszBs hv6.1 hv6.2) rfl hS7 ?_
    refine hs_done (by kernel_rfl) ?_
    have HB8 : Hid (Bo w (w6.setCells (w.heap.size + 1) 0 [v6]) s (s.b2 (k + 1))) := hide (by
     rw [HS.out, hzs.out]
     exact hB4'.next ⟨_, h7⟩ ((hb5.mono (by omega)).trans hB7))
    clear hM h7 hB7 ht6 hv6 hrun hown hgr ho4 ho5 hzs hB4 hB4' hS hS6 hS7 HB HS row5 hvb hb5 hl2 cp iu r4 hab
    go_wp2_with fail
    go_roundw
    case rel => exact ⟨k + 1, by omega, by go_num, HB8⟩
    case measure => simp [intOf]; omega
  ·obtain rfl : k = s.ws.xs.length := by omega
   have k1 : ¬ ((s.ws.xs.length : Int) < (s.ws.xs.length : Int)) := by omega
   have HBE := HB.out
   have pp : wr.cell? ⟨w.heap.size, 36, none⟩ = some (.slice s.ps.a s.ps.xs.length s.ps.cap) := (st_parts h HBE.row).ps
   have hl2 := Stt.b2_le h hw (fun y hy => hs.ws.2.1 y hy) s.ws.xs.length
   clear HB hk hlt k1
   go_wp2_with fail
   refine (bo_put HBE (s.ps.xs.length : Int) (by omega) (by omega)).mono ?_
   rintro e7 w7 ⟨rfl, hB7⟩
   have hB7 : Bo w w7 s (s.b3 0) := by rw [Stt.b3_zero]; exact hB7
   have pp : w7.cell? ⟨w.heap.size, 36, none⟩ = some (.slice s.ps.a s.ps.xs.length s.ps.cap) := (st_parts h hB7.row).ps
   clear HBE hl2
   go_wp2
   clear pp
   go_loopw [51] (fun iv wr' => ∃ k : Nat, k ≤ s.ps.xs.length ∧ iv = .int .i64 (k : Int) ∧ Hid (Bo w wr' s (s.b3 k))) (fun iv _ => s.ps.xs.length - (intOf iv).toNat)
   case atStart => exact ⟨0, by omega, rfl, hide hB7⟩
   case round =>
    clear hB7
    obtain ⟨k, hk, rfl, HB⟩ := hrel
    by_cases hlt : k < s.ps.xs.length
    ·have k1 : (k : Int) < s.ps.xs.length := by omega
     obtain ⟨b, off, hab, hb, hre⟩ := RowsAt.elem (hs.ps.below HB.out.below) k hlt
     have hre := hre 0 _ rfl
     have okx : PnOk s.ps.xs[k] := hs.ps.2.1 _ (List.getElem_mem hlt)
     have HS := hide (s.b3_succ k hlt)
     have hl3 := Stt.b3_le h hw hp (fun y hy => hs.ws.2.1 y hy) (fun z hz => hs.ps.2.1 z hz) k
     obtain ⟨z, hX⟩ : ∃ g, Hid (s.ps.xs[k] = g) := ⟨_, hide rfl⟩
     rw [hX.out] at hre okx HS
     have hre : wr.cell? ⟨b, off + k, none⟩ = some (.int .i64 z) := by simpa [PnE] using hre
     have hzhi := okx.hi
     clear hX okx
     rw [hab]
     clear hab
     go_wp2_with fail
     refine (bo_put HB.out z hzhi (by omega)).mono ?_
     rintro e8 w8 ⟨rfl, hB8⟩
     have HB8 : Hid (Bo w w8 s (s.b3 (k + 1))) := hide (by rw [HS.out]; exact hB8)
     clear hB8 HB HS hl3 hre
     go_wp2
     go_roundw
     case rel => exact ⟨k + 1, by omega, by go_num, HB8⟩
     case measure => simp [intOf]; omega
    ·obtain rfl : k = s.ps.xs.length := by omega
     obtain ⟨v, ho⟩ := HB.out.out
     have HL := hide HB.out.below
     have HM := hide (ho.me.mono' (B' := w.heap.size) (by omega))
     have c0 := ho.c0
     obtain ⟨a9, cap9, rfl, _, _, _⟩ := ho.me.rowAt (by have := Stt.b3_le h hw hp (fun y hy => hs.ws.2.1 y hy) (fun z hz => hs.ps.2.1 z hz) s.ps.xs.length; unfold maxLen; omega)
     clear HB ho hk hlt
     go_wp2
     go_ret
     exact ⟨_, rfl, HM.out, HL.out⟩
open Go.RowKit
open Sha Tal
set_option linter.unusedVariables false
set_option linter.unusedSimpArgs false
theorem Stt.bytes_le {s : Stt} {w : World} (h : s.ok) (hs : s.At w) (hw : s.ws.xs.length ≤ 100) (hp : s.ps.xs.length ≤ 200) : s.bytes.length ≤ 5000 := Stt.b3_le h hw hp (fun y hy => hs.ws.2.1 y hy) (fun z hz => hs.ps.2.1 z hz) _
set_option maxRecDepth 100000 in
theorem sbytes_any (s : Stt) (w : World) (h : s.ok) (hs : s.At w) (hw : s.ws.xs.length ≤ 100) (hp : s.ps.xs.length ≤ 200) : Calls Tryz.prog 11 #[.agg s.cells.toArray] w fun e w' => e = .returned (.string (strOf s.bytes)) ∧ Below w.heap.size w w' := by
 obtain ⟨hB, hr, hs1⟩ := boxed_new w s.cells 36
 have iu : (Tryz.prog.info? 36).map (·.size) = some s.cells.length := by rw [Stt.len h]; exact iszSt
 have cb : ∀ w0, Below w.heap.size w w0 → _ := fun w0 hb0 => sbytesOf_any s w0 h (hs.below hb0) hw hp
 have hle := Stt.bytes_le h hs hw hp
 clear hs hw hp
 generalize s.bytes = zs at *
 generalize s.cells = q at *
 clear h s
 go_enter Tryz.func11, Tryz.ntmps11
 go_upto_region 1 with fail
 go_name_world W hW
 rw [show w.alloc (.cells q.toArray 36) = W from hW] at hB hr hs1
 clear hW
 go_wp2_with (refine wpList_load_mid rfl 36 _ rfl _ _ rfl q _ hr Tryz.underlying36 rfl iu ?_)
 refine (cb W hB).mono ?_
 rintro e1 w1 ⟨v, rfl, hm, hb1⟩
 obtain ⟨a, cap, rfl, _, _, row⟩ := hm.rowAt (by unfold maxLen; omega)
 have hc := row_mine row cap
 have HB := hB.trans (hb1.mono hB.size)
 clear cb hm row hr hb1
 go_wp2
 go_ret
 exact ⟨rfl, HB⟩
end Go.Proofs.YtnfijfnnpbenfaaGreatDoor
namespace Go.Proofs.YtnfijfnnpbenfaaGreatDoor.Wn
set_option maxRecDepth 100000
open Go.RowKit
open Tal
theorem RSt.lt {D : Nat} {w : World} {R : Nat} {rest : List Int} {e : Int} (h : RSt D w R rest e) : R < w.heap.size := by
 obtain ⟨zs, p, hR, _⟩ := h
 exact hR.1
theorem RSt.cell2 {D : Nat} {w : World} {R : Nat} {rest : List Int} {e : Int} (h : RSt D w R rest e) : w.cell? ⟨R, 2, none⟩ = some (.int .i64 e) := by
 obtain ⟨zs, p, hR, _⟩ := h
 exact hR.2.2.2.1
theorem RSt.bytes {D : Nat} {w : World} {R : Nat} {rest : List Int} {e : Int} (h : RSt D w R rest e) : ByteL e rest := by
 intro he
 obtain ⟨zs, p, hR, hd⟩ := h
 obtain ⟨a, cap, _, _, _, hrow, _⟩ := hR.2.1
 rw [← hd he]
 exact fun z hz => hrow.2.1 z (List.mem_of_mem_drop hz)
set_option maxHeartbeats 2000000 in
theorem refWPut_any (a : Option Addr) (cap : Nat) (zs : List Int) (B : Int) (m : Nat) (w : World) (h : RowAt w a zs) (hz : zs.length ≤ 1000000) (hm : m < 2 ^ 64) (hB : B ≤ 9223372036854775807) :
  Calls Tryz.prog 99 #[.slice a zs.length cap, winV B (m : Int)] w fun e w' => ∃ v, e = .returned v ∧ Mine w' w.heap.size v (zs ++ winL B m) ∧ Below w.heap.size w w' := by
 have hb0 := one_box (Below.refl (w.alloc (.cells #[.int .i64 B, .int .u64 (m : Int)] 79)).heap.size _)
 obtain ⟨H, hH⟩ : ∃ H, m / 4294967296 = H := ⟨_, rfl⟩
 obtain ⟨L, hL⟩ : ∃ L, m % 4294967296 = L := ⟨_, rfl⟩
 have hHb : H < 4294967296 := by omega
 have hLb : L < 4294967296 := by omega
 have d1 : (m : Int).tdiv 4294967296 = (H : Int) := by rw [Int.tdiv_eq_ediv_of_nonneg (by omega)]; omega
 have d2 : (m : Int).tmod 4294967296 = (L : Int) := by rw [Int.tmod_eq_emod_of_nonneg (by omega)]; omega
 have d3 : (m : Int) / 4294967296 = (H : Int) := by omega
 have d4 : (m : Int) % 4294967296 = (L : Int) := by omega
 have HW : Hid (winL B m = putL B ++ putL (H : Int) ++ putL (L : Int)) := hide (by unfold winL; rw [hH, hL])
 have wH : IntKind.i64.wrap (H : Int) = (H : Int) := wrap_id _ (by omega) (by omega)
 have wL : IntKind.i64.wrap (L : Int) = (L : Int) := wrap_id _ (by omega) (by omega)
 have uH : IntKind.u64.wrap (H : Int) = (H : Int) := by rw [IntKind.wrap_u64]; omega
 have uL : IntKind.u64.wrap (L : Int) = (L : Int) := by rw [IntKind.wrap_u64]; omega
 have l1 := putL_length B (by omega)
 have l2 := putL_length (H : Int) (by omega)
 have c1 := fun w0 h0 => refPut_any a cap zs B w0 h0 (by omega) hB
 have c2 := fun a cap w0 h0 => refPut_any a cap (zs ++ putL B) (H : Int) w0 h0 (by rw [List.length_append]; omega) (by omega)
 have c3 := fun a cap w0 h0 => refPut_any a cap (zs ++ putL B ++ putL (H : Int)) (L : Int) w0 h0 (by rw [List.length_append, List.length_append]; omega) (by omega)
 obtain ⟨P1, hP1⟩ : ∃ P1, Hid (zs ++ putL B = P1) := ⟨_, rfl⟩
 have lP1 : P1.length ≤ 1000009 := by rw [← hP1.out, List.length_append]; omega
 simp only [hP1.out] at c1 c2 c3
 obtain ⟨P2, hP2⟩ : ∃ P2, Hid (P1 ++ putL (H : Int) = P2) := ⟨_, rfl⟩
 have lP2 : P2.length ≤ 1000018 := by rw [← hP2.out, List.length_append]; omega
 simp only [hP2.out] at c2 c3
 have HW2 : Hid (zs ++ winL B m = P2 ++ putL (L : Int)) := hide (by rw [HW.out, ← hP2.out, ← hP1.out]; simp only [List.append_assoc])
 have lP3 : (P2 ++ putL (L : Int)).length ≤ 1000027 := by have l3 := putL_length (L : Int) (by omega); rw [List.length_append]; omega
 rw [HW2.out]
 obtain ⟨P3, hP3⟩ : ∃ P3, Hid (P2 ++ putL (L : Int) = P3) := ⟨_, rfl⟩
 simp only [hP3.out] at c3
 rw [hP3.out] at lP3 ⊢
 clear HW HW2 hH hL hm l1 l2 hP1 hP2
 go_enter Tryz.func99, Tryz.ntmps99
 go_wp2_with fail
 obtain ⟨w0, hw0⟩ : ∃ w0, w.alloc (.cells #[.int .i64 B, .int .u64 (m : Int)] 79) = w0 := ⟨_, rfl⟩
 rw [hw0] at hb0 ⊢
 clear hw0
 obtain ⟨hA, hB0, hsz⟩ := hb0
 refine (c1 w0 (h.below hB0)).mono ?_
 rintro e w1 ⟨v1, rfl, m1, hb1⟩
 have hA1 := range_below hA hb1 hsz
 have hB1 := hB0.trans (hb1.mono hB0.size)
 have hs1 : w.heap.size < w1.heap.size := by have := hb1.size; omega
 obtain ⟨a1, cap1, rfl, _, _, row1⟩ := m1.rowAt (by unfold maxLen; omega)
 clear c1 m1 hA hB0 hb1 hsz
 have q1 : w1.cell? ⟨w.heap.size, 1, none⟩ = some (.int .u64 (m : Int)) := hA1 1 _ rfl
 go_wp2_with fail
 refine (c2 a1 cap1 w1 row1).mono ?_
 rintro e w2 ⟨v2, rfl, m2, hb2⟩
 have hA2 := range_below hA1 hb2 hs1
 have hB2 := hB1.trans (hb2.mono hB1.size)
 have hs2 : w.heap.size < w2.heap.size := by have := hb2.size; omega
 obtain ⟨a2, cap2, rfl, _, _, row2⟩ := m2.rowAt (by unfold maxLen; omega)
 clear c2 m2 hA1 hB1 hb2 hs1 q1
 have q1 : w2.cell? ⟨w.heap.size, 1, none⟩ = some (.int .u64 (m : Int)) := hA2 1 _ rfl
 go_wp2_with fail
 refine (c3 a2 cap2 w2 row2).mono ?_
 rintro e w3 ⟨v3, rfl, m3, hb3⟩
 have hB3 := hB2.trans (hb3.mono hB2.size)
 have m4 := m3.mono' (B' := w.heap.size) (by omega)
 clear c3 m3 hA2 hB2 hb3 hs2 q1
 obtain ⟨a3, cap3, rfl, _, _, row3⟩ := m4.rowAt (by unfold maxLen; omega)
 go_wp2_with fail
 go_ret
 exact ⟨.slice a3 P3.length cap3, rfl, m4, hB3⟩
set_option maxHeartbeats 2000000 in
theorem refWGet_any (D R : Nat) (rest : List Int) (e : Int) (w : World) (h : RSt D w R rest e) :
  Calls Tryz.prog 52 #[.pointer (some ⟨R, 0, none⟩)] w fun en w' => en = .returned (winV (getB (getR rest e)) (getM (getR rest e) : Int)) ∧ RSt D w' R (getR rest e).rest (getR rest e).err ∧ w.grownBy w' (some R) := by
 have hRw := RSt.lt h
 have hz := RSt.bytes h
 have p1 := numS_pos 1099511627777 hz
 have u1 := numS_le rest e 1099511627777 (by decide)
 have hz1 := numS_bytes 1099511627777 hz
 have bA : Below w.heap.size w (w.alloc (.cells #[.int .i64 0, .int .u64 0] 79)) := (Below.refl _ _).alloc (Nat.le_refl _) _
 have tA := there_new w #[.int .i64 0, .int .u64 0] 79
 have sA : (w.alloc (.cells #[.int .i64 0, .int .u64 0] 79)).heap.size = w.heap.size + 1 := World.size_alloc _ _
 have c1 := refNum_any R rest e 1099511627777 _ (h.below bA)
 have g0 := gb_below bA (some R)
 obtain ⟨G, hG⟩ : ∃ G, Hid (getR rest e = G) := ⟨_, rfl⟩
 have G1 : Hid (G.base = (numS rest e 1099511627777).1) := hide (by rw [← hG.out]; rfl)
 have G2 : Hid (G.high = (numS (numS rest e 1099511627777).2.1 (numS rest e 1099511627777).2.2 4294967295).1.toNat) := hide (by rw [← hG.out]; rfl)
 have G3 : Hid (G.low = (numS (numS (numS rest e 1099511627777).2.1 (numS rest e 1099511627777).2.2 4294967295).2.1 (numS (numS rest e 1099511627777).2.1 (numS rest e 1099511627777).2.2 4294967295).2.2 4294967295).1.toNat) := hide (by rw [← hG.out]; rfl)
 have G4 : Hid (G.rest = (numS (numS (numS rest e 1099511627777).2.1 (numS rest e 1099511627777).2.2 4294967295).2.1 (numS (numS rest e 1099511627777).2.1 (numS rest e 1099511627777).2.2 4294967295).2.2 4294967295).2.1) := hide (by rw [← hG.out]; rfl)
 have G5 : Hid (G.err = (numS (numS (numS rest e 1099511627777).2.1 (numS rest e 1099511627777).2.2 4294967295).2.1 (numS (numS rest e 1099511627777).2.1 (numS rest e 1099511627777).2.2 4294967295).2.2 4294967295).2.2) := hide (by rw [← hG.out]; rfl)
 rw [hG.out]
 clear hG
 obtain ⟨b0, hb0⟩ : ∃ x, Hid ((numS rest e 1099511627777).1 = x) := ⟨_, rfl⟩
 obtain ⟨r1, hr1⟩ : ∃ x, Hid ((numS rest e 1099511627777).2.1 = x) := ⟨_, rfl⟩
 obtain ⟨e1, he1⟩ : ∃ x, Hid ((numS rest e 1099511627777).2.2 = x) := ⟨_, rfl⟩
 rw [hb0.out] at p1 u1 G1
 rw [hr1.out, he1.out] at hz1 G2 G3 G4 G5
 rw [hb0.out, hr1.out, he1.out] at c1
 have p2 := numS_pos 4294967295 hz1
 have u2 := numS_le r1 e1 4294967295 (by decide)
 have hz2 := numS_bytes 4294967295 hz1
 obtain ⟨b1, hb1⟩ : ∃ x, Hid ((numS r1 e1 4294967295).1 = x) := ⟨_, rfl⟩
 obtain ⟨r2, hr2⟩ : ∃ x, Hid ((numS r1 e1 4294967295).2.1 = x) := ⟨_, rfl⟩
 obtain ⟨e2, he2⟩ : ∃ x, Hid ((numS r1 e1 4294967295).2.2 = x) := ⟨_, rfl⟩
 rw [hb1.out] at p2 u2 G2
 rw [hr2.out, he2.out] at hz2 G3 G4 G5
 have p3 := numS_pos 4294967295 hz2
 have u3 := numS_le r2 e2 4294967295 (by decide)
 obtain ⟨b2, hb2⟩ : ∃ x, Hid ((numS r2 e2 4294967295).1 = x) := ⟨_, rfl⟩
 obtain ⟨r3, hr3⟩ : ∃ x, Hid ((numS r2 e2 4294967295).2.1 = x) := ⟨_, rfl⟩
 obtain ⟨e3, he3⟩ : ∃ x, Hid ((numS r2 e2 4294967295).2.2 = x) := ⟨_, rfl⟩
 rw [hb2.out] at p3 u3 G3
 rw [hr3.out] at G4
 rw [he3.out] at G5
 clear hz hz1 hz2 h
 go_enter Tryz.func52, Tryz.ntmps52
 go_wp2_with fail
 obtain ⟨w0, hw0⟩ : ∃ w0, w.alloc (.cells #[.int .i64 0, .int .u64 0] 79) = w0 := ⟨_, rfl⟩
 rw [hw0] at c1 g0 tA sA
 rw [hw0]
 clear hw0 bA
 refine c1.mono ?_
 rintro en w1 ⟨rfl, s1, g1⟩
 have t1 := there_gb tA g1 (by omega) (by omega)
 have z1 := g1.size
 have gg1 := gb_trans g0 g1
 have c2 := refNum_any R r1 e1 4294967295 w1 s1
 rw [hb1.out, hr2.out, he2.out] at c2
 clear c1 g1 g0 tA
 go_wp2_with fail
 refine c2.mono ?_
 rintro en w2 ⟨rfl, s2, g2⟩
 have t2 := there_gb t1 g2 (by omega) (by omega)
 have z2 := g2.size
 have gg2 := gb_trans gg1 g2
 have c3 := refNum_any R r2 e2 4294967295 w2 s2
 rw [hb2.out, hr3.out, he3.out] at c3
 clear c2 g2 gg1 t1 s1
 go_wp2_with fail
 refine c3.mono ?_
 rintro en w3 ⟨rfl, s3, g3⟩
 have t3 := there_gb t2 g3 (by omega) (by omega)
 have z3 := g3.size
 have gg3 := gb_trans gg2 g3
 clear c3 g3 gg2 t2 s2
 obtain ⟨hi, rfl⟩ := Int.eq_ofNat_of_zero_le p2
 obtain ⟨lo, rfl⟩ := Int.eq_ofNat_of_zero_le p3
 have hadd : IntKind.u64.wrap ((hi : Int) * 4294967296 + (lo : Int)) = (hi : Int) * 4294967296 + (lo : Int) := by rw [IntKind.wrap_u64]; omega
 have uh : IntKind.u64.wrap (hi : Int) = (hi : Int) := by rw [IntKind.wrap_u64]; omega
 have ul : IntKind.u64.wrap (lo : Int) = (lo : Int) := by rw [IntKind.wrap_u64]; omega
 have us : IntKind.u64.wrap ((hi : Int) * 4294967296) = (hi : Int) * 4294967296 := by rw [IntKind.wrap_u64]; omega
 go_upto_region 5 with fail
 obtain ⟨M, hM⟩ : ∃ M : Nat, Hid (M = hi * 4294967296 + lo) := ⟨_, rfl⟩
 have hMi : (hi : Int) * 4294967296 + (lo : Int) = (M : Int) := by rw [hM.out]; omega
 have hMlt : M < 2 ^ 64 := by rw [hM.out]; omega
 rw [hMi]
 have hok : Hid (getOk G = (decide (e3 = 0) && goodW b0 M)) := hide (by unfold getOk; rw [G1.out, G2.out, G3.out, G5.out, hM.out]; rfl)
 have hbs : Hid (getB G = if getOk G then b0 else 0) := hide (by unfold getB; rw [G1.out])
 have hms : Hid (getM G = if getOk G then M else 0) := hide (by unfold getM; rw [G2.out, G3.out, hM.out]; rfl)
 clear hadd uh ul us hMi hM G1 G2 G3 p2 p3 u2 u3
 have b4 : Below w3.heap.size w3 (w3.alloc (.cells #[.int .i64 b0, .int .u64 (M : Int)] 79)) := (Below.refl _ _).alloc (Nat.le_refl _) _
 have s4 := s3.below b4
 have t4 := there_below t3 b4 (by omega)
 have gg4 := gb_on gg3 b4 (by omega)
 have v4 := range_new w3 #[.int .i64 b0, .int .u64 (M : Int)] 79
 have z4 : (w3.alloc (.cells #[.int .i64 b0, .int .u64 (M : Int)] 79)).heap.size = w3.heap.size + 1 := World.size_alloc _ _
 obtain ⟨P, hP⟩ : ∃ P, w3.heap.size = P := ⟨_, rfl⟩
 obtain ⟨w4, hw4⟩ : ∃ w4, w3.alloc (.cells #[.int .i64 b0, .int .u64 (M : Int)] 79) = w4 := ⟨_, rfl⟩
 rw [hw4] at s4 t4 gg4
 rw [hw4, hP] at v4 z4
 rw [hP] at z3
 rw [hw4, hP]
 clear s3 t3 gg3 b4 hP hw4
 have x2 : w4.cell? ⟨R, 2, none⟩ = some (.int .i64 e3) := RSt.cell2 s4
 try simp only [Act.put]
 by_cases he : e3 = 0
 ·subst he
  have cg := refGoodW_any b0 M hMlt w4
  have q0 : w4.cell? ⟨P, 0, none⟩ = some (.int .i64 b0) := v4 0 _ rfl
  have q1 : w4.cell? ⟨P, 1, none⟩ = some (.int .u64 (M : Int)) := v4 1 _ rfl
  cases hg : goodW b0 M with
  | false =>
   have EB : Hid (getB G = 0) := hide (by rw [hbs.out, hok.out, hg]; rfl)
   have EM : Hid (getM G = 0) := hide (by rw [hms.out, hok.out, hg]; rfl)
   rw [hg] at cg
   clear hok hbs hms hg
   go_wp2_with fail
   refine cg.mono ?_
   rintro en w5 ⟨rfl, b5⟩
   have t5 := there_below t4 b5 (by omega)
   have s5 := s4.below b5
   have gg5 := gb_on gg4 b5 (by omega)
   clear cg q0 q1 t4 s4 gg4 v4
   have hrs := win_load (win_set (B := 0) (m := 0) t5)
   have gf := gb_on gg5 (below_sets (B := w.heap.size) (b := w.heap.size) (Nat.le_refl _) (winC 0 0) 0 _ (Below.refl _ w5)) (Nat.le_refl _)
   have sf := s5.gb (gb_sets w5 w.heap.size (winC 0 0) 0) (.inr hRw)
   go_wp2_with (refine wpList_store_mid (op := ⟨none, .store 79 (.tmp 2) (.tmp 31), _, _, _, none⟩) rfl 79 _ _ rfl _ _ #[.int .i64 0, .int .u64 0] rfl rfl t5 infoW (two_cells _ _) ?_)
   refine bodyPost_ret (v := winV 0 0) ?_ rfl ?_
   ·simp [results, Tryz.results52, Act.put, asAddr, hrs]
   ·exact ⟨by rw [EB.out, EM.out]; rfl, by rw [G4.out, G5.out]; exact sf, gf⟩
  | true =>
   have EB : Hid (getB G = b0) := hide (by rw [hbs.out, hok.out, hg]; rfl)
   have EM : Hid (getM G = M) := hide (by rw [hms.out, hok.out, hg]; rfl)
   rw [hg] at cg
   clear hok hbs hms hg
   go_wp2_with fail
   refine cg.mono ?_
   rintro en w5 ⟨rfl, b5⟩
   have t5 := there_below t4 b5 (by omega)
   have s5 := s4.below b5
   have gg5 := gb_on gg4 b5 (by omega)
   have v5 := range_below v4 b5 (by omega)
   clear cg q0 q1 t4 s4 gg4 v4
   have q0 : w5.cell? ⟨P, 0, none⟩ = some (.int .i64 b0) := v5 0 _ rfl
   have q1 : w5.cell? ⟨P, 1, none⟩ = some (.int .u64 (M : Int)) := v5 1 _ rfl
   have hrs := win_load (win_set (B := b0) (m := (M : Int)) t5)
   have gf := gb_on gg5 (below_sets (B := w.heap.size) (b := w.heap.size) (Nat.le_refl _) (winC b0 (M : Int)) 0 _ (Below.refl _ w5)) (Nat.le_refl _)
   have sf := s5.gb (gb_sets w5 w.heap.size (winC b0 (M : Int)) 0) (.inr hRw)
   go_wp2_with (refine wpList_store_mid (op := ⟨none, .store 79 (.tmp 2) (.tmp 32), _, _, _, none⟩) rfl 79 _ _ rfl _ _ #[.int .i64 b0, .int .u64 (M : Int)] rfl rfl t5 infoW (two_cells _ _) ?_)
   refine bodyPost_ret (v := winV b0 (M : Int)) ?_ rfl ?_
   ·simp [results, Tryz.results52, Act.put, asAddr, hrs]
   ·exact ⟨by rw [EB.out, EM.out], by rw [G4.out, G5.out]; exact sf, gf⟩
 ·have EB : Hid (getB G = 0) := hide (by rw [hbs.out, hok.out, decide_eq_false he]; rfl)
  have EM : Hid (getM G = 0) := hide (by rw [hms.out, hok.out, decide_eq_false he]; rfl)
  clear hok hbs hms
  have t5 := t4
  have s5 := s4
  have gg5 := gg4
  clear t4 s4 gg4 v4
  have hrs := win_load (win_set (B := 0) (m := 0) t5)
  have gf := gb_on gg5 (below_sets (B := w.heap.size) (b := w.heap.size) (Nat.le_refl _) (winC 0 0) 0 _ (Below.refl _ w4)) (Nat.le_refl _)
  have sf := s5.gb (gb_sets w4 w.heap.size (winC 0 0) 0) (.inr hRw)
  go_wp2_with (refine wpList_store_mid (op := ⟨none, .store 79 (.tmp 2) (.tmp 31), _, _, _, none⟩) rfl 79 _ _ rfl _ _ #[.int .i64 0, .int .u64 0] rfl rfl t5 infoW (two_cells _ _) ?_)
  refine bodyPost_ret (v := winV 0 0) ?_ rfl ?_
  ·simp [results, Tryz.results52, Act.put, asAddr, hrs]
  ·exact ⟨by rw [EB.out, EM.out]; rfl, by rw [G4.out, G5.out]; exact sf, gf⟩
end Go.Proofs.YtnfijfnnpbenfaaGreatDoor.Wn
namespace Go.Proofs.YtnfijfnnpbenfaaGreatDoor
open Go.RowKit
open Sha Tal
set_option linter.unusedVariables false
set_option linter.unusedSimpArgs false
namespace Wn
theorem get_back {B : Int} {m : Nat} (hm : m < 2 ^ 64) (hg : goodW B m = true) (tail : List Int) : getR (winL B m ++ tail) 0 = ⟨B, m / 4294967296, m % 4294967296, tail, 0⟩ := by
 have hb := good_B hg
 have e1 : numS (winL B m ++ tail) 0 1099511627777 = (B, putL ((m / 4294967296 : Nat) : Int) ++ (putL ((m % 4294967296 : Nat) : Int) ++ tail), 0) := by
  unfold winL
  rw [List.append_assoc, List.append_assoc]
  exact numS_back B 1099511627777 (by omega) (by omega) (by omega) _
 have e2 := numS_back ((m / 4294967296 : Nat) : Int) 4294967295 (by omega) (by omega) (by omega) (putL ((m % 4294967296 : Nat) : Int) ++ tail)
 have e3 := numS_back ((m % 4294967296 : Nat) : Int) 4294967295 (by omega) (by omega) (by omega) tail
 unfold getR
 rw [e1]
 simp only
 rw [e2]
 simp only
 rw [e3]
 simp
 omega
theorem get_backB {B : Int} {m : Nat} (hg : goodW B m = true) (t : List Int) : getB ⟨B, m / 4294967296, m % 4294967296, t, 0⟩ = B ∧ getM ⟨B, m / 4294967296, m % 4294967296, t, 0⟩ = m := by
 have e : m / 4294967296 * 4294967296 + m % 4294967296 = m := by omega
 have ok : getOk ⟨B, m / 4294967296, m % 4294967296, t, 0⟩ = true := by unfold getOk; simp only; rw [e, hg]; rfl
 unfold getB getM
 rw [ok]
 exact ⟨rfl, by simp only [if_true]; exact e⟩
end Wn
abbrev Rs := List Int × Int
def nuR (most : Int) (s : Rs) : Int × Rs := ((numS s.1 s.2 most).1, (numS s.1 s.2 most).2.1, (numS s.1 s.2 most).2.2)
def wiR (s : Rs) : Wd × Rs := (⟨Wn.getB (Wn.getR s.1 s.2), Wn.getM (Wn.getR s.1 s.2)⟩, (Wn.getR s.1 s.2).rest, (Wn.getR s.1 s.2).err)
def itR {α : Type} (one : Rs → α × Rs) (s : Rs) : Nat → List α × Rs
  | 0 => ([], s)
  | k + 1 => ((itR one s k).1 ++ [(one (itR one s k).2).1], (one (itR one s k).2).2)
theorem itR_length {α : Type} (one : Rs → α × Rs) (s : Rs) (k : Nat) : (itR one s k).1.length = k := by
  induction k with
  | zero => rfl
  | succ k ih => simp [itR, ih]
structure Sp where
 e : Int
 n : Int
 c : Int
 d : List Int
 ws : List Wd
 ps : List Int
def Stt.sp (s : Stt) : Sp := ⟨s.e, s.n, s.c, s.d, s.ws.xs, s.ps.xs⟩
def Sp.bytes (p : Sp) : List Int := putL p.e ++ (putL p.n ++ (putL p.c ++ (p.d ++ (putL (p.ws.length : Int) ++ (p.ws.flatMap Wd.bytes ++ (putL (p.ps.length : Int) ++ p.ps.flatMap putL))))))
def pad32 (l : List Int) : List Int := if l.length = 32 then l else List.replicate 32 0
def rd3 (s : Rs) : Rs := (nuR 1099511627776 (nuR 1099511627776 (nuR 1048577 s).2).2).2
def rdD (s : Rs) : List Int × Rs := ((rawS (rd3 s).1 (rd3 s).2 32).1, (rawS (rd3 s).1 (rd3 s).2 32).2.1, (rawS (rd3 s).1 (rd3 s).2 32).2.2)
def rdN (s : Rs) : Int × Rs := nuR 8 (rdD s).2
def rdW (s : Rs) : List Wd × Rs := itR wiR (rdN s).2 (rdN s).1.toNat
def rdM (s : Rs) : Int × Rs := nuR 64 (rdW s).2
def rdP (s : Rs) : List Int × Rs := itR (nuR 1048592) (rdM s).2 (rdM s).1.toNat
def readS (s : Rs) : Sp × Rs := (⟨(nuR 1048577 s).1, (nuR 1099511627776 (nuR 1048577 s).2).1, (nuR 1099511627776 (nuR 1099511627776 (nuR 1048577 s).2).2).1, pad32 (rdD s).1, (rdW s).1, (rdP s).1⟩, (rdP s).2)
theorem nuR_back (x most : Int) (h0 : 0 ≤ x) (h1 : x ≤ 9223372036854775807) (hm : x ≤ most) (more : List Int) : nuR most (putL x ++ more, 0) = (x, more, 0) := by
 unfold nuR
 rw [numS_back x most h0 h1 hm more]
theorem wiR_back (x : Wd) (h : x.ok) (hg : x.good = true) (more : List Int) : wiR (x.bytes ++ more, 0) = (x, more, 0) := by
 unfold wiR Wd.bytes
 have e := Wn.get_back h.ml hg more
 have e2 := Wn.get_backB hg more
 simp only [e, e2]
theorem itR_back {α : Type} {one : Rs → α × Rs} {enc : α → List Int} (xs : List α) (h : ∀ x ∈ xs, ∀ more, one (enc x ++ more, 0) = (x, more, 0)) (more : List Int) : ∀ k, k ≤ xs.length → itR one (xs.flatMap enc ++ more, 0) k = (xs.take k, (xs.drop k).flatMap enc ++ more, 0) := by
  intro k
  induction k with
  | zero => intro _; simp [itR]
  | succ k ih =>
    intro hk
    have e := ih (by omega)
    have hlt : k < xs.length := by omega
    unfold itR
    rw [e, List.drop_eq_getElem_cons hlt, List.flatMap_cons, List.append_assoc, h _ (List.getElem_mem hlt), List.take_succ_eq_append_getElem hlt]
theorem itR_all {α : Type} {one : Rs → α × Rs} {enc : α → List Int} (xs : List α) (h : ∀ x ∈ xs, ∀ more, one (enc x ++ more, 0) = (x, more, 0)) (more : List Int) : itR one (xs.flatMap enc ++ more, 0) xs.length = (xs, more, 0) := by
 rw [itR_back xs h more _ (Nat.le_refl _), List.take_length, List.drop_length]
 rfl
structure Sp.fit (p : Sp) : Prop where
 e0 : 0 ≤ p.e
 e1 : p.e ≤ 1048577
 n0 : 0 ≤ p.n
 n1 : p.n ≤ 1099511627776
 c0 : 0 ≤ p.c
 c1 : p.c ≤ 1099511627776
 dl : p.d.length = 32
 wl : p.ws.length ≤ 8
 pl : p.ps.length ≤ 64
 wo : ∀ x ∈ p.ws, x.ok ∧ x.good = true
 po : ∀ z ∈ p.ps, 0 ≤ z ∧ z ≤ 1048592
theorem read_back (p : Sp) (h : p.fit) : readS (p.bytes, 0) = (p, [], 0) := by
 obtain ⟨E, N, C, D, W, P⟩ := p
 obtain ⟨e0, e1, n0, n1, c0, c1, dl, wl, pl, wo, po⟩ := h
 simp only at *
 unfold Sp.bytes
 simp only
 have k1 := fun more => nuR_back E 1048577 e0 (by omega) e1 more
 have k2 := fun more => nuR_back N 1099511627776 n0 (by omega) n1 more
 have k3 := fun more => nuR_back C 1099511627776 c0 (by omega) c1 more
 have k4 : ∀ more, rawS (D ++ more) 0 32 = (D, more, 0) := fun more => by
  unfold rawS
  rw [if_pos rfl, if_neg (by decide), if_neg (by rw [List.length_append]; omega), show (32 : Int).toNat = D.length by rw [dl]; rfl, List.take_left, List.drop_left]
 have k5 := fun more => nuR_back (W.length : Int) 8 (by omega) (by omega) (by omega) more
 have k6 := fun more => itR_all (one := wiR) (enc := Wd.bytes) W (fun x hx m => wiR_back x (wo x hx).1 (wo x hx).2 m) more
 have k7 := fun more => nuR_back (P.length : Int) 64 (by omega) (by omega) (by omega) more
 have k8 := itR_all (one := nuR 1048592) (enc := putL) P (fun x hx m => nuR_back x 1048592 (po x hx).1 (by have := (po x hx).2; omega) (po x hx).2 m) []
 rw [List.append_nil] at k8
 have r3 : ∀ m, rd3 (putL E ++ (putL N ++ (putL C ++ m)), 0) = (m, 0) := fun m => by unfold rd3; rw [k1, k2, k3]
 have rD : ∀ m, rdD (putL E ++ (putL N ++ (putL C ++ (D ++ m))), 0) = (D, m, 0) := fun m => by unfold rdD; rw [r3, k4]
 have rN : ∀ m, rdN (putL E ++ (putL N ++ (putL C ++ (D ++ (putL (W.length : Int) ++ m)))), 0) = ((W.length : Int), m, 0) := fun m => by unfold rdN; rw [rD, k5]
 have rW : ∀ m, rdW (putL E ++ (putL N ++ (putL C ++ (D ++ (putL (W.length : Int) ++ (W.flatMap Wd.bytes ++ m))))), 0) = (W, m, 0) := fun m => by unfold rdW; rw [rN]; exact k6 m
 have rM : ∀ m, rdM (putL E ++ (putL N ++ (putL C ++ (D ++ (putL (W.length : Int) ++ (W.flatMap Wd.bytes ++ (putL (P.length : Int) ++ m)))))), 0) = ((P.length : Int), m, 0) := fun m => by unfold rdM; rw [rW, k7]
 have rP : rdP (putL E ++ (putL N ++ (putL C ++ (D ++ (putL (W.length : Int) ++ (W.flatMap Wd.bytes ++ (putL (P.length : Int) ++ P.flatMap putL)))))), 0) = (P, [], 0) := by unfold rdP; rw [rM]; exact k8
 unfold readS
 rw [rP, rW, rD, k1, k2, k3, pad32, if_pos dl]
open Go.RowKit
open Sha Tal
set_option linter.unusedVariables false
set_option linter.unusedSimpArgs false
theorem goodC_parts {c : Ld.Cfg} (h : Ld.goodC c = true) : c.n ≤ 64 ∧ c.cl ≤ 8 ∧ c.la ≤ 1048576 := by
 simp only [Ld.goodC, Bool.and_eq_true, Ld.inB, Ld.goodB, decide_eq_true_eq] at h
 omega
theorem fit_of_good {c : Ld.Cfg} {s : Stt} {w : World} (h : s.ok) (hs : s.At w) (hg : s.good c = true) : s.sp.fit := by
 unfold Stt.good Stt.nums Stt.lens at hg
 simp only [Bool.and_eq_true, decide_eq_true_eq, List.all_eq_true] at hg
 obtain ⟨hc, ⟨he, hn, hcc⟩, ⟨hlw, hlp⟩, hw, hp⟩ := hg
 obtain ⟨k1, k2, k3⟩ := goodC_parts hc
 exact ⟨by show 0 ≤ s.e; omega, by show s.e ≤ 1048577; omega, by show 0 ≤ s.n; omega, hn.2, hcc.1, hcc.2, h.dl, by show s.ws.xs.length ≤ 8; omega, by show s.ps.xs.length ≤ 64; omega,
  fun x hx => ⟨hs.ws.2.1 x hx, hw x hx⟩, fun z hz => of_decide_eq_true (hp z hz)⟩
open Go.RowKit
open Sha Tal
set_option linter.unusedVariables false
set_option linter.unusedSimpArgs false
theorem range_gbR {w w' : World} {R b : Nat} {cs : List Value} (h : w.rangeAt b 0 cs) (hg : w.grownBy w' (some R)) (hb : b < w.heap.size) (hne : b ≠ R) : w'.rangeAt b 0 cs := fun j v hv => by
 rw [(@cell_block w w' b (0 + j) (hg.block b hb (by intro q; injection q with q; exact hne q))).1]
 exact h j v hv
theorem there_gbR {w w' : World} {R b n : Nat} (h : w.there b 0 n) (hg : w.grownBy w' (some R)) (hb : b < w.heap.size) (hne : b ≠ R) : w'.there b 0 n := fun j hj => by
 have hk := @cell_block w w' b (0 + j) (hg.block b hb (by intro q; injection q with q; exact hne q))
 exact ⟨by rw [hk.1]; exact (h j hj).1, by rw [hk.2]; exact (h j hj).2⟩
theorem gb_onR {w W W' : World} {R B : Nat} (h : w.grownBy W (some R)) (hb : Below B W W') (hB : w.heap.size ≤ B) : w.grownBy W' (some R) :=
 ⟨hb.os.trans h.os, hb.tape.trans h.tape, hb.output.trans h.output, Nat.le_trans h.size hb.size, fun i hi hr => (hb.block i (by omega)).trans (h.block i hi hr)⟩
theorem gb_setsR (W : World) (b : Nat) : ∀ (vs : List Value) (o : Nat), W.grownBy (W.setCells b o vs) (some b) := by
  intro vs
  induction vs generalizing W with
  | nil => intro o; exact gb_refl _ _
  | cons v vs ih => intro o; exact gb_trans (gb_set W b o v) (ih _ (o + 1))
theorem blk_sets {w : World} {b q o : Nat} {vs : List Value} (h : q ≠ b) : (w.setCells b o vs).heap[q]? = w.heap[q]? := by
 by_cases hq : q < w.heap.size
 ·exact (gb_setsR w b vs o).block q hq (by intro e; injection e with e; exact h e)
 ·have h1 : w.heap.size ≤ q := by omega
  rw [Array.getElem?_eq_none (by rw [size_sets]; exact h1), Array.getElem?_eq_none h1]
theorem own_gb {w w' : World} {B k n g : Nat} {t : TypeId} {v : Value} {xs : List Value} (h : w.ownsRow B t k v n xs) (hg : w.grownBy w' (some g)) (hlt : g < B) : w'.ownsRow B t k v n xs :=
  h.kept hg (by
    cases hv : v.ownBlock with
    | none => exact .inl rfl
    | some q => exact .inr (by have := (h.lt q hv).1; intro q2; injection q2 with q2; omega))
section
variable {P : Program} (w : World)
end
theorem own_low {B : Nat} {w w1 w2 : World} {v : Value} {n k : Nat} {t : TypeId} {xs : List Value} (hb : Below B w w1) (hB : B ≤ w1.heap.size) (ho : w1.ownsRow B t k v n xs) (hg : w1.grownBy w2 v.ownBlock) : Below B w w2 :=
 hb.grown hg hB (fun k hk => (ho.lt k hk).1)
theorem exec_append1 {P : Program} {o : Oper} {a : Act} {w w' : World} {s x : Operand} {t tx : TypeId} {v xv v' : Value} (ho : o.op = .call { callee := .builtin .append, args := #[s, x], argTypes := #[t, tx] }) (hv : a.eval s = v) (hx : a.eval x = xv)
    (hr : (Builtin.append_ #[t, tx] o.type #[v, xv]).run P w = .ok v' w') : (execOp a.eval o).run P w = .ok (.value v') w' := by
  unfold execOp
  simp [ho, resolve, invoke, builtin, hv, hx, hr]
theorem ex_app1 {P : Program} {o : Oper} {a : Act} {w : World} {s x : Operand} {t e : TypeId} {i : TypeInfo} {z : Value} {B cb k : Nat} {v : Value} {n : Nat} {xs u : List Value} (ho : o.op = .call { callee := .builtin .append, args := #[s, x], argTypes := #[t, t] }) (hv : a.eval s = v) (hx : a.eval x = .slice (some ⟨cb, 0, none⟩) 1 1)
    (ht : P.underlying t = some (.slice e)) (hi : P.info? e = some i) (hz : i.zero = some z) (hs : i.size = k) (hb : i.bytes ≤ 100000) (hty : o.type = t)
    (hown : w.ownsRow B e k v n xs) (hB : B ≤ w.heap.size) (hr : w.rangeAt cb 0 u) (hu : u.length = k) (h1 : ∀ y ∈ u, y.oneCell' = true) (hn : n ≤ 1000) (hzk : z.cells.size = k) :
    ∃ v' w', (execOp a.eval o).run P w = .ok (.value v') w' ∧ (w'.ownsRow B e k v' (n + 1) (xs ++ u) ∧ w.grownBy w' v.ownBlock ∧ ∀ g, v'.ownBlock = some g → v.ownBlock = some g ∨ w.heap.size ≤ g) := by
  have hsrc : Src P k t (.slice (some ⟨cb, 0, none⟩) 1 1) 1 u w := Src.ofSlice _ ht ⟨cb, 0, none⟩ 1 1 _ (by simpa using hu) (fun j y hy => by have := hr j y hy; rw [Addr.add_mid]; exact this) h1
  obtain ⟨v', w', hrun, ho2, hg, hap⟩ := run_append_own_src2 (P := P) w B t t o.type e i _ k i.bytes ht hi hz hs rfl (by rw [hzk]) v n xs hown _ 1 u hsrc (by unfold maxLen; omega) (Nat.le_trans (Nat.mul_le_mul (show n + 1 ≤ 1001 by omega) hb) (by decide)) hB
  exact ⟨v', w', exec_append1 ho hv hx hrun, ho2, hg, fun g hg' => (hap g hg').imp id (fun e => by omega)⟩
theorem own_rows {α : Type} {E : El α} {w : World} {B : Nat} {t : TypeId} {v : Value} {ys : List α} (h : w.ownsRow B t E.k v ys.length (ys.flatMap E.f)) (hok : ∀ y ∈ ys, E.ok y) (hm : ys.length ≤ maxLen) :
  ∃ x : Sl α, v = x.val ∧ x.xs = ys ∧ x.At E w ∧ (∀ b, x.a = some b → B ≤ b.block ∧ b.block < w.heap.size ∧ v.ownBlock = some b.block) := by
 rcases h.2 with ⟨rfl, h0⟩ | ⟨g, cap, cur, rfl, hb, hg, hn, hcm, hcs, ht⟩
 ·have : ys = [] := List.eq_nil_of_length_eq_zero h0
  subst this
  exact ⟨⟨none, 0, []⟩, rfl, rfl, RowsAt.none, fun x hx => by cases hx⟩
 ·refine ⟨⟨some ⟨g, 0, none⟩, cap, ys⟩, rfl, rfl, ⟨hm, hok, Or.inr ⟨g, 0, rfl, (Array.getElem?_eq_some_iff.1 hg).1, fun j u hu => ?_⟩⟩, fun x hx => by cases hx; exact ⟨hb, (Array.getElem?_eq_some_iff.1 hg).1, rfl⟩⟩
  have := h.cells (g := g) rfl j u hu
  rwa [Addr.add_mid] at this
theorem exec_copy {P : Program} {o : Oper} {a : Act} {w w' : World} {s x : Operand} {t tx : TypeId} {v xv v' : Value} (ho : o.op = .call { callee := .builtin .copy, args := #[s, x], argTypes := #[t, tx] }) (hv : a.eval s = v) (hx : a.eval x = xv)
    (hr : (Builtin.copy_ #[t, tx] o.type #[v, xv]).run P w = .ok v' w') : (execOp a.eval o).run P w = .ok (.value v') w' := by
  unfold execOp
  simp only [ho, resolve, invoke, builtin, Sem.run_bind, Sem.run_pure, Result.andThen_ok, List.map_toArray, List.map_cons, List.map_nil, hv, hx, hr]
theorem hs_forkL {P : Program} {ops : Array Oper} {Q : Exit → Act → World → Prop} {l : List Nat} {S : World → Prop} {fuel : Nat} {listed : Array Bool} {a : Act} {w : World} (hr : Region.ready .any ops listed = l) (hl : l ≠ [])
  (h : ∀ i ∈ l, StepS P ops Q S fuel listed i a w) : HeldS P ops Q S (fuel + 1) listed a w := by
 subst hr
 refine wpAnyH_all rfl ?_ ?_
 ·exact hl
 ·intro k hk
  exact h k hk
theorem hs_runX {P : Program} {ops : Array Oper} {Q : Exit → Act → World → Prop} {i : Nat} {S : World → Prop} {oi : Oper} {d : Option Nat} {R : Value → World → Prop} {fuel : Nat} {listed : Array Bool} {a : Act} {w : World} (hi : ops[i]? = some oi)
  (hr : Region.ready .any ops listed = [i]) (hw : Region.wanted oi (yielded ops a.tmps) = true) (hdst : oi.dst = d) (hy : ∃ v w', (execOp a.eval oi).run P w = .ok (.value v) w' ∧ R v w')
  (h : ∀ v w', R v w' → S w' ∧ HeldS P ops Q S fuel (listed.setIfInBounds i true) (a.put d v) w') : HeldS P ops Q S (fuel + 1) listed a w := by
 obtain ⟨v, w', h1, h2⟩ := hy
 obtain ⟨h4, h5⟩ := h v w' h2
 exact hs_run hi hr hw h1 hdst h4 h5
theorem run_bsi (x : Int) (w : World) : (Instr.buildSlice 34 1 #[(0, .int .i64 x)]).run Tryz.prog w = .ok (.slice (some ⟨w.heap.size, 0, none⟩) 1 1) (w.alloc (.cells #[.int .i64 x] 3)) := by kernel_rfl
theorem ex_bsi {P : Program} {o : Oper} {a : Act} {w w' : World} {t : TypeId} {x : Operand} {u r : Value} (ho : o.op = .buildSlice t 1 #[(0, x)]) (hx : a.eval x = u) (hr : (Instr.buildSlice t 1 #[(0, u)]).run P w = .ok r w') : (execOp a.eval o).run P w = .ok (.value r) w' := by
 unfold execOp
 simp [ho, hx, hr]
theorem all_one {cs : List Value} (h : ∀ v ∈ cs, v.oneCell' = true) : cs.toArray.all (·.oneCell') = true := by
 rw [Array.all_eq_true_iff_forall_mem]
 intro v hv
 exact h v (by simpa using hv)
structure Rq0 where
 e : Int
 n : Int
 c : Int
 d : List Int
 wv : Value
 pv : Value
 ws : List Wd
 ps : List Int
def Rq0.cells (q : Rq0) : List Value := [.int .i64 q.e, .int .i64 q.n, .int .i64 q.c] ++ (v8 q.d ++ [q.wv, q.pv])
structure Rb (w : World) (R B : Nat) (q : Rq0) (s : Rs) (W : World) : Prop where
 row : W.rangeAt B 0 q.cells
 box : W.there B 0 37
 ans : W.there w.heap.size 0 37
 gr : w.grownBy W (some R)
 st : St W R s.1 s.2
 lb : B < W.heap.size
 ab : w.heap.size < B
 lx : R < w.heap.size
 dl : q.d.length = 32
 db : ∀ z ∈ q.d, 0 ≤ z ∧ z < 256
 wo : W.ownsRow (B + 1) 79 2 q.wv q.ws.length (q.ws.flatMap WdE.f)
 po : W.ownsRow (B + 1) 3 1 q.pv q.ps.length (q.ps.flatMap PnE.f)
 ne : ∀ g, q.wv.ownBlock = some g → q.pv.ownBlock ≠ some g
 wk : ∀ y ∈ q.ws, Wd.ok y
 pk : ∀ z ∈ q.ps, PnOk z
theorem Rb.on {w W W' : World} {R B : Nat} {q : Rq0} {s s' : Rs} (h : Rb w R B q s W) (g : W.grownBy W' (some R)) (hs : St W' R s'.1 s'.2) : Rb w R B q s' W' := by
 obtain ⟨h1, h2, h3, h4, h5, h6, h7, h8, h9, h10, h11, h12, h13, h14, h15⟩ := h
 exact ⟨range_gbR h1 g h6 (by omega), there_gbR h2 g h6 (by omega), there_gbR h3 g (by omega) (by omega), gb_trans h4 g, hs, Nat.lt_of_lt_of_le h6 g.size, h7, h8, h9, h10, own_gb h11 g (by omega), own_gb h12 g (by omega), h13, h14, h15⟩
theorem own_belowR {w w' : World} {B k n m : Nat} {t : TypeId} {v : Value} {xs : List Value} (h : w.ownsRow B t k v n xs) (hb : Below m w w') (hm : w.heap.size ≤ m) : w'.ownsRow B t k v n xs := by
 refine ⟨h.1, ?_⟩
 rcases h.2 with hn | ⟨g, cap, cur, rfl, hbb, hgg, rest⟩
 ·exact .inl hn
 ·refine .inr ⟨g, cap, cur, rfl, hbb, ?_, rest⟩
  rw [hb.block g (by have := (Array.getElem?_eq_some_iff.1 hgg).1; omega)]
  exact hgg
theorem Rb.below {w W W' : World} {R B : Nat} {q : Rq0} {s : Rs} (h : Rb w R B q s W) (hb : Below W.heap.size W W') : Rb w R B q s W' := by
 obtain ⟨h1, h2, h3, h4, h5, h6, h7, h8, h9, h10, h11, h12, h13, h14, h15⟩ := h
 exact ⟨range_below h1 hb h6, there_below h2 hb h6, there_below h3 hb (by omega), gb_onR h4 hb h4.size, h5.below hb, Nat.lt_of_lt_of_le h6 hb.size, h7, h8, h9, h10, own_belowR h11 hb (Nat.le_refl _), own_belowR h12 hb (Nat.le_refl _), h13, h14, h15⟩
theorem Rb.put {w W : World} {R B : Nat} {q q' : Rq0} {s : Rs} (h : Rb w R B q s W) (hd : q'.d.length = 32) (hd2 : ∀ z ∈ q'.d, 0 ≤ z ∧ z < 256) (ew : q'.wv = q.wv) (ep : q'.pv = q.pv) (es : q'.ws = q.ws) (et : q'.ps = q.ps) (pre mid vs post : List Value) (e1 : q.cells = pre ++ (mid ++ post)) (e2 : q'.cells = pre ++ (vs ++ post)) (o : Nat) (ho : pre.length = o) (hl : vs.length = mid.length) (hn : o + vs.length ≤ 37) : Rb w R B q' s (W.setCells B o vs) := by
 obtain ⟨h1, h2, h3, h4, h5, h6, h7, h8, h9, h10, h11, h12, h13, h14, h15⟩ := h
 have hb : Below B W (W.setCells B o vs) := below_sets (Nat.le_refl _) vs o _ (Below.refl _ _)
 exact ⟨by rw [e2]; exact range_put (by rw [← e1]; exact h1) o ho (there_part1 h2 hn) hl, World.there_setCells h2 _ _ _, World.there_setCells h3 _ _ _, gb_onR h4 hb (by omega), h5.belowN hb (by omega), by rw [size_sets]; exact h6, h7, h8, hd, hd2, by rw [ew, es]; exact own_gb h11 (gb_setsR W B vs o) (by omega), by rw [ep, et]; exact own_gb h12 (gb_setsR W B vs o) (by omega), by rw [ew, ep]; exact h13, by rw [es]; exact h14, by rw [et]; exact h15⟩
theorem Rb.setE {w W : World} {R B : Nat} {q : Rq0} {s : Rs} (h : Rb w R B q s W) (x : Int) : Rb w R B { q with e := x } s (W.setCells B 0 [.int .i64 x]) :=
 h.put (q' := { q with e := x }) h.dl h.db rfl rfl rfl rfl [] [.int .i64 q.e] [.int .i64 x] _ rfl rfl 0 rfl rfl (by simp)
theorem Rb.setN {w W : World} {R B : Nat} {q : Rq0} {s : Rs} (h : Rb w R B q s W) (x : Int) : Rb w R B { q with n := x } s (W.setCells B 1 [.int .i64 x]) :=
 h.put (q' := { q with n := x }) h.dl h.db rfl rfl rfl rfl [.int .i64 q.e] [.int .i64 q.n] [.int .i64 x] _ rfl rfl 1 rfl rfl (by simp)
theorem Rb.setC {w W : World} {R B : Nat} {q : Rq0} {s : Rs} (h : Rb w R B q s W) (x : Int) : Rb w R B { q with c := x } s (W.setCells B 2 [.int .i64 x]) :=
 h.put (q' := { q with c := x }) h.dl h.db rfl rfl rfl rfl [.int .i64 q.e, .int .i64 q.n] [.int .i64 q.c] [.int .i64 x] _ rfl rfl 2 rfl rfl (by simp)
theorem Rb.setD {w W : World} {R B : Nat} {q : Rq0} {s : Rs} (h : Rb w R B q s W) (x : List Int) (hl : x.length = 32) (hx : ∀ z ∈ x, 0 ≤ z ∧ z < 256) : Rb w R B { q with d := x } s (W.setCells B 3 (v8 x)) :=
 h.put (q' := { q with d := x }) hl hx rfl rfl rfl rfl [.int .i64 q.e, .int .i64 q.n, .int .i64 q.c] (v8 q.d) (v8 x) _ rfl rfl 3 rfl (by rw [v8_length, v8_length, hl, h.dl]) (by rw [v8_length, hl]; decide)
theorem Rb.appW {w W W9 : World} {R B : Nat} {q : Rq0} {s : Rs} {v9 : Value} {x : Wd} (h : Rb w R B q s W) (hx : x.ok) (g9 : W.grownBy W9 q.wv.ownBlock) (o9 : W9.ownsRow (B + 1) 79 2 v9 (q.ws.length + 1) (q.ws.flatMap WdE.f ++ WdE.f x)) (gb : ∀ g, v9.ownBlock = some g → q.wv.ownBlock = some g ∨ W.heap.size ≤ g) : W9.there B 0 37 ∧ Rb w R B { q with wv := v9, ws := q.ws ++ [x] } s (W9.setCells B 35 [v9]) := by
  obtain ⟨h1, h2, h3, h4, h5, h6, h7, h8, h9, h10, h11, h12, h13, h14, h15⟩ := h
  have hb : Below (B + 1) W W9 := own_low (Below.refl _ _) (by omega) h11 g9
  have hb2 : Below B W9 (W9.setCells B 35 [v9]) := below_sets (Nat.le_refl _) [v9] 35 _ (Below.refl _ _)
  have nb : ∀ g, q.wv.ownBlock = some g → g ≠ B := fun g hg => by have := (h11.lt g hg).1; omega
  have blk : W9.heap[B]? = W.heap[B]? := hb.block B (by omega)
  have hz := hb.size
  have hpre : ([.int .i64 q.e, .int .i64 q.n, .int .i64 q.c] ++ v8 q.d : List Value).length = 35 := by rw [List.length_append, v8_length, h9]; rfl
  have e1 : q.cells = ([.int .i64 q.e, .int .i64 q.n, .int .i64 q.c] ++ v8 q.d) ++ ([q.wv] ++ [q.pv]) := by unfold Rq0.cells; simp
  have e2 : Rq0.cells { q with wv := v9, ws := q.ws ++ [x] } = ([.int .i64 q.e, .int .i64 q.n, .int .i64 q.c] ++ v8 q.d) ++ ([v9] ++ [q.pv]) := by unfold Rq0.cells; simp
  refine ⟨there_blk h2 blk, ?_, World.there_setCells (there_blk h2 blk) _ _ _, World.there_setCells (there_blk h3 (hb.block _ (by omega))) _ _ _, gb_onR (gb_onR h4 hb (by omega)) hb2 (by omega), (h5.belowN hb (by omega)).belowN hb2 (by omega), by rw [size_sets]; omega, h7, h8, h9, h10, ?_, ?_, ?_, ?_, h15⟩
  · rw [e2]
    exact range_put (mid := [q.wv]) (by rw [← e1]; exact range_blk h1 blk) 35 hpre (there_part1 (there_blk h2 blk) (by simp)) rfl
  · have : W9.ownsRow (B + 1) 79 2 v9 (q.ws ++ [x]).length ((q.ws ++ [x]).flatMap WdE.f) := by rw [List.flatMap_append, List.length_append]; simpa using o9
    exact own_gb this (gb_setsR W9 B [v9] 35) (by omega)
  · refine own_gb (h12.kept g9 ?_) (gb_setsR W9 B [v9] 35) (by omega)
    cases hv : q.pv.ownBlock with
    | none => exact .inl rfl
    | some g => exact .inr (fun e => h13 g e.symm hv)
  · intro g hg hp
    rcases gb g hg with e | e
    · exact h13 g e hp
    · have := (h12.lt g hp).2; omega
  · intro y hy
    rcases List.mem_append.1 hy with g | g
    · exact h14 y g
    · rw [List.mem_singleton.1 g]; exact hx
theorem Rb.appP {w W W9 : World} {R B : Nat} {q : Rq0} {s : Rs} {v9 : Value} {x : Int} (h : Rb w R B q s W) (hx : PnOk x) (g9 : W.grownBy W9 q.pv.ownBlock) (o9 : W9.ownsRow (B + 1) 3 1 v9 (q.ps.length + 1) (q.ps.flatMap PnE.f ++ PnE.f x)) (gb : ∀ g, v9.ownBlock = some g → q.pv.ownBlock = some g ∨ W.heap.size ≤ g) : W9.there B 0 37 ∧ Rb w R B { q with pv := v9, ps := q.ps ++ [x] } s (W9.setCells B 36 [v9]) := by
  obtain ⟨h1, h2, h3, h4, h5, h6, h7, h8, h9, h10, h11, h12, h13, h14, h15⟩ := h
  have hb : Below (B + 1) W W9 := own_low (Below.refl _ _) (by omega) h12 g9
  have hb2 : Below B W9 (W9.setCells B 36 [v9]) := below_sets (Nat.le_refl _) [v9] 36 _ (Below.refl _ _)
  have blk : W9.heap[B]? = W.heap[B]? := hb.block B (by omega)
  have hz := hb.size
  have hpre : ([.int .i64 q.e, .int .i64 q.n, .int .i64 q.c] ++ (v8 q.d ++ [q.wv]) : List Value).length = 36 := by rw [List.length_append, List.length_append, v8_length, h9]; rfl
  have e1 : q.cells = ([.int .i64 q.e, .int .i64 q.n, .int .i64 q.c] ++ (v8 q.d ++ [q.wv])) ++ ([q.pv] ++ []) := by unfold Rq0.cells; simp
  have e2 : Rq0.cells { q with pv := v9, ps := q.ps ++ [x] } = ([.int .i64 q.e, .int .i64 q.n, .int .i64 q.c] ++ (v8 q.d ++ [q.wv])) ++ ([v9] ++ []) := by unfold Rq0.cells; simp
  refine ⟨there_blk h2 blk, ?_, World.there_setCells (there_blk h2 blk) _ _ _, World.there_setCells (there_blk h3 (hb.block _ (by omega))) _ _ _, gb_onR (gb_onR h4 hb (by omega)) hb2 (by omega), (h5.belowN hb (by omega)).belowN hb2 (by omega), by rw [size_sets]; omega, h7, h8, h9, h10, ?_, ?_, ?_, h14, ?_⟩
  · rw [e2]
    exact range_put (mid := [q.pv]) (by rw [← e1]; exact range_blk h1 blk) 36 hpre (there_part1 (there_blk h2 blk) (by simp)) rfl
  · refine own_gb (h11.kept g9 ?_) (gb_setsR W9 B [v9] 36) (by omega)
    cases hv : q.wv.ownBlock with
    | none => exact .inl rfl
    | some g => exact .inr (fun e => h13 g hv e.symm)
  · have : W9.ownsRow (B + 1) 3 1 v9 (q.ps ++ [x]).length ((q.ps ++ [x]).flatMap PnE.f) := by rw [List.flatMap_append, List.length_append]; simpa using o9
    exact own_gb this (gb_setsR W9 B [v9] 36) (by omega)
  · intro g hg hp
    rcases gb g hp with e | e
    · exact h13 g hg e
    · have := (h11.lt g hg).2; omega
  · intro y hy
    rcases List.mem_append.1 hy with g | g
    · exact h15 y g
    · rw [List.mem_singleton.1 g]; exact hx
def Stt.Lo (x : Stt) (n : Nat) : Prop := (∀ b, x.ws.a = some b → n ≤ b.block) ∧ ∀ b, x.ps.a = some b → n ≤ b.block
theorem Stt.Lo.mono {x : Stt} {n m : Nat} (h : x.Lo n) (hm : m ≤ n) : x.Lo m := ⟨fun b hb => Nat.le_trans hm (h.1 b hb), fun b hb => Nat.le_trans hm (h.2 b hb)⟩
theorem Sl.At.put {α : Type} {E : El α} {W : World} {x : Sl α} {A o n : Nat} {vs : List Value} (h : x.At E W) (hb : ∀ b, x.a = some b → n ≤ b.block) (hA : A < n) : x.At E (W.setCells A o vs) := by
 refine ⟨h.1, h.2.1, ?_⟩
 rcases h.2.2 with q | ⟨b, off, e, h1, h2⟩
 ·exact .inl q
 ·exact .inr ⟨b, off, e, by rw [size_sets]; exact h1, range_blk h2 (blk_sets (by have := hb _ e; simp only at this; omega))⟩
theorem Stt.At.put {x : Stt} {W : World} {A o n : Nat} {vs : List Value} (h : x.At W) (hl : x.Lo n) (hA : A < n) : x.At (W.setCells A o vs) := ⟨h.ws.put hl.1 hA, h.ps.put hl.2 hA⟩
theorem Rb.done {w W : World} {R B : Nat} {q : Rq0} {s : Rs} (h : Rb w R B q s W) (he : -9223372036854775808 ≤ q.e ∧ q.e ≤ 9223372036854775807) (hn : -9223372036854775808 ≤ q.n ∧ q.n ≤ 9223372036854775807) (hc : -9223372036854775808 ≤ q.c ∧ q.c ≤ 9223372036854775807) (hw : q.ws.length ≤ 1000) (hp : q.ps.length ≤ 1000) (vs : List Value) (hlow : Below w.heap.size W (W.setCells w.heap.size 0 vs)) :
  ∃ x : Stt, x.cells = q.cells ∧ x.sp = ⟨q.e, q.n, q.c, q.d, q.ws, q.ps⟩ ∧ x.ok ∧ x.At (W.setCells w.heap.size 0 vs) ∧ x.Lo w.heap.size ∧ St (W.setCells w.heap.size 0 vs) R s.1 s.2 ∧ w.grownBy (W.setCells w.heap.size 0 vs) (some R) := by
 obtain ⟨h1, h2, h3, h4, h5, h6, h7, h8, h9, h10, h11, h12, h13, h14, h15⟩ := h
 have o1 := own_gb h11 (gb_setsR W w.heap.size vs 0) (by omega)
 have o2 := own_gb h12 (gb_setsR W w.heap.size vs 0) (by omega)
 obtain ⟨a, ea, xa, ha, la⟩ := own_rows (E := WdE) (ys := q.ws) o1 h14 (by unfold maxLen; omega)
 obtain ⟨b, eb, xb, hb, lb⟩ := own_rows (E := PnE) (ys := q.ps) o2 h15 (by unfold maxLen; omega)
 exact ⟨⟨q.e, q.n, q.c, q.d, a, b⟩, by unfold Stt.cells Rq0.cells; rw [ea, eb], by unfold Stt.sp; rw [xa, xb], ⟨he.1, he.2, hn.1, hn.2, hc.1, hc.2, h9, h10⟩, ⟨ha, hb⟩, ⟨fun g hg => by have := (la g hg).1; omega, fun g hg => by have := (lb g hg).1; omega⟩, h5.belowN hlow h8, gb_onR h4 hlow (Nat.le_refl _)⟩
theorem nuR_bz {s : Rs} (most : Int) (h : Wn.ByteL s.2 s.1) : Wn.ByteL (nuR most s).2.2 (nuR most s).2.1 := Wn.numS_bytes most h
theorem nuR_bd {s : Rs} {most : Int} (h : Wn.ByteL s.2 s.1) (h0 : 0 ≤ most) : 0 ≤ (nuR most s).1 ∧ (nuR most s).1 ≤ most := ⟨Wn.numS_pos most h, Wn.numS_le _ _ _ h0⟩
theorem nuR_len (most : Int) (s : Rs) : (nuR most s).2.1.length ≤ s.1.length := by
 unfold nuR numS
 simp only
 split
 ·split
  ·split
   ·exact Nat.le_refl _
   ·simp only [List.length_drop]; omega
  ·exact Nat.le_refl _
 ·exact Nat.le_refl _
theorem wiR_ok (s : Rs) : (wiR s).1.ok := by
 have h1 := Wn.numS_le s.1 s.2 1099511627777 (by decide)
 have h2 := Wn.numS_le (numS s.1 s.2 1099511627777).2.1 (numS s.1 s.2 1099511627777).2.2 4294967295 (by decide)
 have h3 := Wn.numS_le (numS (numS s.1 s.2 1099511627777).2.1 (numS s.1 s.2 1099511627777).2.2 4294967295).2.1 (numS (numS s.1 s.2 1099511627777).2.1 (numS s.1 s.2 1099511627777).2.2 4294967295).2.2 4294967295 (by decide)
 unfold wiR Wn.getB Wn.getM
 by_cases hk : Wn.getOk (Wn.getR s.1 s.2) = true
 ·rw [if_pos hk, if_pos hk]
  have hg : Wn.goodW (Wn.getR s.1 s.2).base ((Wn.getR s.1 s.2).high * 4294967296 + (Wn.getR s.1 s.2).low) = true := by unfold Wn.getOk at hk; exact (Bool.and_eq_true _ _ ▸ hk).2
  have hb := Wn.good_B hg
  refine ⟨by show -9223372036854775808 ≤ (Wn.getR s.1 s.2).base; omega, by show (Wn.getR s.1 s.2).base ≤ _; omega, ?_⟩
  unfold Wn.getR
  simp only
  omega
 ·rw [if_neg hk, if_neg hk]
  exact ⟨by simp, by simp, by simp⟩
theorem nuR_ok {s : Rs} (h : Wn.ByteL s.2 s.1) : PnOk (nuR 1048592 s).1 := by
 have := nuR_bd (most := 1048592) h (by decide)
 exact ⟨by omega, by omega⟩
theorem pnumR (R : Nat) (most : Int) (s : Rs) (w : World) (h : St w R s.1 s.2) : Calls Tryz.prog 106 #[.pointer (some ⟨R, 0, none⟩), .int .i64 most] w fun en w' => en = .returned (.int .i64 (nuR most s).1) ∧ St w' R (nuR most s).2.1 (nuR most s).2.2 ∧ w.grownBy w' (some R) := num_any R s.1 s.2 most w h
theorem pwinR (R : Nat) (s : Rs) (w : World) (h : St w R s.1 s.2) : Calls Tryz.prog 108 #[.pointer (some ⟨R, 0, none⟩)] w fun en w' => en = .returned (.agg (wiR s).1.cells.toArray) ∧ St w' R (wiR s).2.1 (wiR s).2.2 ∧ w.grownBy w' (some R) := Wn.wget_any R s.1 s.2 w h
theorem zeroSt (w : World) : (zeroValue 36).run Tryz.prog w = .ok (.agg (Rq0.cells ⟨0, 0, 0, zeros32, .slice none 0 0, .slice none 0 0, [], []⟩).toArray) w := by kernel_rfl
theorem rb_new (R : Nat) (s : Rs) (w : World) (h : St w R s.1 s.2) (zc : List Value) (hz : zc = Rq0.cells ⟨0, 0, 0, zeros32, .slice none 0 0, .slice none 0 0, [], []⟩) : Rb w R (w.heap.size + 1) ⟨0, 0, 0, zeros32, .slice none 0 0, .slice none 0 0, [], []⟩ s ((w.alloc (.cells zc.toArray 36)).alloc (.cells zc.toArray 36)) := by
 have hzl : zc.length = 37 := by rw [hz]; decide
 obtain ⟨hB1, hr1, hs1⟩ := boxed_new w zc 36
 have ht1 := there_newN w zc.toArray 36 (n := 37) (by simp [hzl])
 obtain ⟨hB2, hr2, hs2⟩ := boxed_new (w.alloc (.cells zc.toArray 36)) zc 36
 have ht2 := there_newN (w.alloc (.cells zc.toArray 36)) zc.toArray 36 (n := 37) (by simp [hzl])
 have e1 : (w.alloc (.cells zc.toArray 36)).heap.size = w.heap.size + 1 := World.size_alloc _ _
 have hBW := hB1.trans (hB2.mono (by omega))
 have htA := there_below ht1 hB2 (by omega)
 rw [e1] at hr2 hs2 ht2 hB2
 exact ⟨by rw [← hz]; exact hr2, ht2, htA, gb_below hBW _, h.below hBW, hs2, by omega, h.1.1, by decide, by decide, World.ownsRow_nil _ _ _ _, World.ownsRow_nil _ _ _ _, by simp [Value.ownBlock], by simp, by simp⟩
theorem Rb.copy {w W : World} {R B : Nat} {q : Rq0} {s : Rs} {t : List Int} {a : Option Addr} {cap : Nat} (h : Rb w R B q s W) (hq : q.d = zeros32) (hrow : RowAt W a t) (ht : t.length = 32 ∨ t = []) :
  ∃ W', (Builtin.copy_ #[57, 57] 3 #[.slice (some ⟨B, 3, none⟩) 32 32, .slice a t.length cap]).run Tryz.prog W = .ok (goInt t.length) W' ∧ Rb w R B { q with d := pad32 t } s W' := by
 rcases ht with ht | rfl
 ·rcases hrow.2.2 with rfl | ⟨b, off, rfl, hb, hr⟩
  ·cases ht
  ·refine ⟨W.setCells B 3 (v8 t), ?_, ?_⟩
   ·have := run_copy_cells (P := Tryz.prog) W 57 57 3 5 B 3 32 32 ⟨b, off, none⟩ t.length cap (v8 t) Tryz.underlying57 isz8 (by rw [v8_length, ht]; rfl) (fun j v hv => by rw [Addr.add_mid]; exact hr j v hv) (fun j hj => by rw [v8_length] at hj; have := h.box (3 + j) (by omega); rw [Nat.zero_add] at this; exact this.1) (fun j hj => by rw [v8_length] at hj; have := h.box (3 + j) (by omega); rw [Nat.zero_add] at this; exact this.2) (v8_one _)
    rw [v8_length] at this
    exact this
   ·have e : pad32 t = t := by unfold pad32; rw [if_pos ht]
    rw [e]
    exact h.setD t ht hrow.2.1
 ·refine ⟨W, run_copy_none (P := Tryz.prog) W 57 57 3 5 _ a 32 32 0 cap Tryz.underlying57 isz8 rfl, ?_⟩
  have e : pad32 [] = q.d := by rw [hq]; rfl
  rw [e]
  exact h
end Go.Proofs.YtnfijfnnpbenfaaGreatDoor
