/- a book that no call made -/
import Derived.Test.YtogmkcabndgllaaVArgs
namespace Go.Proofs.Ytogmkcabndgllaa
open Go.RowKit
def z16 : List Value := v8 (List.replicate 16 0)
theorem z16_len : z16.toArray.size = 16 := by decide
theorem z16_one : z16.toArray.all (·.oneCell') = true := all_one (v8_one _)
def z36 : List Value := vt0.cells
theorem z36_len : z36.toArray.size = 36 := by decide
theorem z36_one : z36.toArray.all (·.oneCell') = true := all_one vt0.one
set_option maxRecDepth 100000 in
theorem build_z36 (w : World) : (Instr.build 31 #[]).run Try.prog w = .ok (.agg z36.toArray) w := by kernel_rfl
set_option maxRecDepth 100000 in
theorem build_z16 (w : World) : (Instr.build 33 #[]).run Try.prog w = .ok (.agg z16.toArray) w := by kernel_rfl
set_option maxRecDepth 100000 in
set_option maxHeartbeats 2000000 in
theorem of_no (p : Value) (k n : Int) (w : World) (h : NoBook w p) : Calls Try.prog 14 #[p, .int .i64 k, .int .i64 n] w fun e w' => e = .returned (.tuple #[.agg z36.toArray, .agg z16.toArray, .bool false]) ∧ Below w.heap.size w w' := by
  have hb36 := build_z36
  have hb16 := build_z16
  have a1 := z36_len
  have a2 := z36_one
  have a3 := z16_len
  have a4 := z16_one
  have i1 : (Try.prog.info? 31).map (·.size) = some z36.toArray.size := by rw [a1]; exact iszV
  have i2 : (Try.prog.info? 33).map (·.size) = some z16.toArray.size := by rw [a3]; exact iszT
  generalize z36 = u at *
  generalize z16 = t at *
  go_enter Try.func14, Try.ntmps14
  go_upto_region 1 with fail
  go_name_world w1 hw1
  obtain ⟨hB1, hth1, hth2, hsz1⟩ := two_new hw1
  simp only [List.size_toArray, List.length_cons, List.length_nil, Nat.zero_add, Nat.reduceAdd] at hth1 hth2
  clear hw1
  have cM := isMade_no p w1 (h.below hB1)
  go_wp2_with fail
  refine cM.mono ?_
  rintro _ wx ⟨rfl, hx⟩
  obtain rfl := hx.symm
  clear hx cM
  rw [← a1] at hth1
  rw [← a3] at hth2
  have hth3 := World.there_setCells hth2 w.heap.size 0 u
  go_wp2_with (first
    | (refine wpList_build rfl 31 [] rfl [] (.agg u.toArray) rfl (hb36 _) ?_)
    | (refine wpList_build rfl 33 [] rfl [] (.agg t.toArray) rfl (hb16 _) ?_)
    | (refine wpList_store_mid rfl 31 _ _ rfl _ 0 u.toArray rfl rfl hth1 i1 a2 ?_)
    | (refine wpList_store_mid rfl 33 _ _ rfl _ 0 t.toArray rfl rfl hth3 i2 a4 ?_))
  refine bodyPost_ret (results_cct rfl _ _ _ rfl rfl (run_loadVar_mid (P := Try.prog) _ w.heap.size 0 31 u _ (World.rangeAt_setCells_apart (World.rangeAt_setCells_same _ _ _ _ (by simpa using hth1)) _ _ _ (.inl (by omega))) Try.underlying31 rfl (by simpa using i1)) (run_loadVar_mid (P := Try.prog) _ (w.heap.size + 1) 0 33 t _ (World.rangeAt_setCells_same _ _ _ _ (by simpa using hth3)) Try.underlying33 rfl (by simpa using i2))) rfl ?_
  exact ⟨rfl, below_sets (Nat.le_succ _) _ _ _ (below_sets (Nat.le_refl _) _ _ _ hB1)⟩
theorem one_new {w w1 : World} {a1 : Array Value} {t1 : TypeId} (h : w.alloc (.cells a1 t1) = w1) : Below w.heap.size w w1 ∧ w1.there w.heap.size 0 a1.size ∧ w1.heap.size ≥ w.heap.size + 1 := by
  subst h
  exact ⟨(Below.refl _ _).alloc (Nat.le_refl _) _, there_new w a1 t1, by simp⟩
set_option maxRecDepth 100000 in
set_option maxHeartbeats 2000000 in
theorem best_no (p : Value) (k need : Int) (w : World) (h : NoBook w p) : Calls Try.prog 19 #[p, .int .i64 k, .int .i64 need] w fun e w' => e = .returned (.tuple #[.agg ct0.toArray, .bool false]) ∧ Below w.heap.size w w' := by
  have hbz := build_ct0
  have z37 := ct0_len
  have z1 := ct0_one
  have iz : (Try.prog.info? 44).map (·.size) = some ct0.toArray.size := by rw [z37]; exact iszCt
  generalize ct0 = z at *
  go_enter Try.func19, Try.ntmps19
  go_upto_region 1 with fail
  go_name_world w1 hw1
  obtain ⟨hB1, hT1, hsz1⟩ := one_new hw1
  simp only [List.size_toArray, List.length_cons, List.length_nil, Nat.zero_add, Nat.reduceAdd] at hT1
  clear hw1
  have cM := isMade_no p w1 (h.below hB1)
  go_wp2_with fail
  refine cM.mono ?_
  rintro _ wx ⟨rfl, hx⟩
  obtain rfl := hx.symm
  clear hx cM
  rw [← z37] at hT1
  go_wp2_with (first | (refine wpList_build rfl 44 [] rfl [] (.agg z.toArray) rfl (hbz _) ?_) | (refine wpList_store_mid rfl 44 _ _ rfl _ 0 z.toArray rfl rfl hT1 iz z1 ?_))
  refine bodyPost_ret (results_ct rfl _ _ _ rfl (run_loadVar_mid (P := Try.prog) _ w.heap.size 0 44 z _ (World.rangeAt_setCells_same _ _ _ _ (by simpa using hT1)) Try.underlying44 rfl (by simpa using iz))) rfl ?_
  exact ⟨rfl, below_sets (Nat.le_refl _) _ _ _ hB1⟩
/-- a plain book, and a row of two -/
theorem nobody_row (w : World) : let w1 := w.alloc (.cells #[.int .i64 0, .map none] 55)
    let w2 := w1.alloc (.cells #[.pointer none, .pointer (some ⟨w.heap.size, 0, none⟩)] 23)
    Below w.heap.size w w2 ∧ w.heap.size + 2 ≤ w2.heap.size ∧ ∀ i : Nat, i < 2 → ∃ p, w2.cell? ⟨w.heap.size + 1, i, none⟩ = some p ∧ NoBook w2 p := by
  intro w1 w2
  have hb1 : Below w.heap.size w w1 := (Below.refl _ _).alloc (Nat.le_refl _) _
  have hb2 : Below w1.heap.size w1 w2 := (Below.refl _ _).alloc (Nat.le_refl _) _
  have hs1 : w1.heap.size = w.heap.size + 1 := by simp [w1]
  have hr1 := range_below (range_new w #[.int .i64 0, .map none] 55) hb2 (by omega)
  have hr2 := range_new w1 #[.pointer none, .pointer (some ⟨w.heap.size, 0, none⟩)] 23
  have hs2 : w2.heap.size = w.heap.size + 2 := by simp [w2, hs1]
  refine ⟨hb1.trans (hb2.mono (by omega)), by omega, fun i hi => ?_⟩
  rcases (by omega : i = 0 ∨ i = 1) with rfl | rfl
  · refine ⟨.pointer none, ?_, .inl rfl⟩
    have := hr2 0 _ rfl
    rwa [hs1] at this
  · refine ⟨.pointer (some ⟨w.heap.size, 0, none⟩), ?_, .inr ⟨w.heap.size, rfl, by omega, ?_⟩⟩
    · have := hr2 1 _ rfl
      rwa [hs1] at this
    · exact hr1 0 _ rfl
set_option maxRecDepth 100000 in
set_option maxHeartbeats 8000000 in
theorem nobody_walk (x : On) (hx : x.ok) (w : World) : Calls Try.prog 6 #[.agg x.cells.toArray] w fun e w' => e = .returned (.bool true) ∧ Below w.heap.size w w' := by
  have hb0 := one_box (w := w) x.cells 35
  have hiV : (Try.prog.info? 31).map (·.size) = some x.v.cells.length := by rw [hx.v.len]; exact iszV
  have hiT : (Try.prog.info? 33).map (·.size) = some (v8 x.t).length := by rw [v8_length, hx.tl]; exact iszT
  have cO := of_no
  have cC := fun p (w : World) h => cert_no p x.v hx.v 1 w h
  have cB := best_no
  have cA := fun p (w : World) h => add_no p x w h
  have cN := fun p (w : World) h => count_no p x.v w h
  have pR : ∀ w' : World, w'.rangeAt w.heap.size 0 x.cells → w'.cell? ⟨w.heap.size, 0, none⟩ = some (.int .i64 x.n) ∧ w'.cell? ⟨w.heap.size, 1, none⟩ = some (.int .i64 x.v.k) ∧ w'.rangeAt w.heap.size 1 x.v.cells ∧ w'.rangeAt w.heap.size 37 (v8 x.t) := fun w' hr => by
    obtain ⟨q1, q2, q3⟩ := On.parts hx hr
    rw [Nat.zero_add] at q2 q3
    exact ⟨q1, q2 0 _ rfl, q2, q3⟩
  have a1 := z36_len
  have a2 := z36_one
  have a3 := z16_len
  have a4 := z16_one
  have a5 := ct0_len
  have a6 := ct0_one
  have i1 : (Try.prog.info? 31).map (·.size) = some z36.toArray.size := by rw [a1]; exact iszV
  have i2 : (Try.prog.info? 33).map (·.size) = some z16.toArray.size := by rw [a3]; exact iszT
  have i3 : (Try.prog.info? 44).map (·.size) = some ct0.toArray.size := by rw [a5]; exact iszCt
  generalize z36 = s36 at *
  generalize z16 = s16 at *
  generalize ct0 = s37 at *
  obtain ⟨n, v, t⟩ := x
  simp only at *
  obtain ⟨k, ep, vw, sl, d⟩ := v
  simp only at *
  obtain ⟨u, hu⟩ : ∃ u, Hid ((Vt.mk k ep vw sl d).cells = u) := ⟨_, hide rfl⟩
  obtain ⟨g, hg⟩ : ∃ g, Hid (v8 t = g) := ⟨_, hide rfl⟩
  obtain ⟨q, hq⟩ : ∃ q, Hid ((On.mk n ⟨k, ep, vw, sl, d⟩ t).cells = q) := ⟨_, hide rfl⟩
  simp only [hu.out, hg.out, hq.out] at cC cA cN pR hb0 hiV hiT ⊢
  clear hu hg hq hx
  go_enter Try.func6, Try.ntmps6
  go_upto_region 1 with fail
  go_name_world w1 hw1
  rw [hw1] at hb0
  clear hw1
  obtain ⟨hB1, hR1, hsz1⟩ := hb0
  have nb := nobody_row w1
  go_wp2_with fail
  go_name_world w2 hw2
  rw [hw2] at nb
  clear hw2
  obtain ⟨hB2, hs2, hrow⟩ := nb
  have hb2 : Below w.heap.size w w2 := hB1.trans (hB2.mono (by omega))
  have hR2 := range_below hR1 hB2 (by omega)
  clear hB1 hB2 hR1
  go_loopw [16] (fun iv wr => ∃ i : Nat, i ≤ 2 ∧ iv = .int .i64 (i : Int) ∧ Hid (Below w2.heap.size w2 wr)) (fun iv _ => 2 - (intOf iv).toNat)
  case atStart => exact ⟨0, by omega, rfl, hide (Below.refl _ _)⟩
  case round =>
    obtain ⟨i, hi, rfl, HB⟩ := hrel
    have hB := HB.out
    clear HB
    by_cases hlt : i < 2
    · have hiI : (i : Int) < 2 := by omega
      obtain ⟨p, hc, hp⟩ := hrow i hlt
      have hc := (hB.cell (p := ⟨w1.heap.size + 1, i, none⟩) (by show w1.heap.size + 1 < w2.heap.size; omega)).trans hc
      have hp := hp.below hB
      have hR := range_below hR2 hB (by omega)
      have hbs := hB.size
      obtain ⟨r0, r1, r2, r3⟩ := pR wr hR
      go_wp2_with fail
      refine (cO p k n wr hp).mono ?_
      rintro _ w3 ⟨rfl, hB3⟩
      have hp := hp.below hB3
      have hR := range_below hR hB3 (by omega)
      have hB := hB.trans (hB3.mono hbs)
      have hbs := hB.size
      obtain ⟨r0, r1, r2, r3⟩ := pR w3 hR
      clear hB3 hc
      go_upto_region 5 with (first
        | (refine wpList_store_mid rfl 31 _ _ rfl _ 0 s36.toArray rfl rfl (two_thereA _ _ _ _ _ a1.symm) i1 a2 ?_)
        | (refine wpList_store_mid rfl 33 _ _ rfl _ 0 s16.toArray rfl rfl (two_thereB _ _ _ _ _ _ a3.symm) i2 a4 ?_))
      go_name_world w4 hw4
      obtain ⟨hB4, -, -⟩ := two_filled2 hw4 (by simpa using a1) (by simpa using a3)
      clear hw4
      have hp := hp.below hB4
      have hR := range_below hR hB4 (by omega)
      have hB := hB.trans (hB4.mono hbs)
      have hbs := hB.size
      obtain ⟨r0, r1, r2, r3⟩ := pR w4 hR
      clear hB4
      go_wp2_with (refine wpList_load_mid rfl 31 _ rfl _ _ rfl u _ r2 Try.underlying31 rfl hiV ?_)
      refine (cC p w4 hp).mono ?_
      rintro _ w5 ⟨rfl, hB5⟩
      have hp := hp.below hB5
      have hR := range_below hR hB5 (by omega)
      have hB := hB.trans (hB5.mono hbs)
      have hbs := hB.size
      clear hB5
      go_upto_region 6 with (refine wpList_store_mid rfl 44 _ _ rfl _ 0 s37.toArray rfl rfl (there_newN _ _ _ a5.symm) i3 a6 ?_)
      go_name_world w6 hw6
      obtain ⟨hB6, -, -, -⟩ := one_filled hw6 (by simpa using a5)
      clear hw6
      have hp := hp.below hB6
      have hR := range_below hR hB6 (by omega)
      have hB := hB.trans (hB6.mono hbs)
      have hbs := hB.size
      obtain ⟨r0, r1, r2, r3⟩ := pR w6 hR
      clear hB6
      go_wp2_with fail
      refine (cB p k 1 w6 hp).mono ?_
      rintro _ w7 ⟨rfl, hB7⟩
      have hp := hp.below hB7
      have hR := range_below hR hB7 (by omega)
      have hB := hB.trans (hB7.mono hbs)
      have hbs := hB.size
      clear hB7
      go_upto_region 7 with (refine wpList_store_mid rfl 44 _ _ rfl _ 0 s37.toArray rfl rfl (there_newN _ _ _ a5.symm) i3 a6 ?_)
      go_name_world w8 hw8
      obtain ⟨hB8, -, -, -⟩ := one_filled hw8 (by simpa using a5)
      clear hw8
      have hp := hp.below hB8
      have hR := range_below hR hB8 (by omega)
      have hB := hB.trans (hB8.mono hbs)
      have hbs := hB.size
      obtain ⟨r0, r1, r2, r3⟩ := pR w8 hR
      clear hB8
      go_wp2_with (first | (refine wpList_load_mid rfl 31 _ rfl _ _ rfl u _ r2 Try.underlying31 rfl hiV ?_) | (refine wpList_load_mid rfl 33 _ rfl _ _ rfl g _ r3 Try.underlying33 rfl hiT ?_))
      refine (cA p w8 hp).mono ?_
      rintro _ w9 ⟨rfl, hB9⟩
      have hp := hp.below hB9
      have hR := range_below hR hB9 (by omega)
      have hB := hB.trans (hB9.mono hbs)
      have hbs := hB.size
      obtain ⟨r0, r1, r2, r3⟩ := pR w9 hR
      clear hB9
      go_wp2_with (refine wpList_load_g (by rfl) 31 _ rfl _ _ rfl u _ r2 Try.underlying31 rfl hiV ?_)
      refine (cN p w9 hp).mono ?_
      rintro _ w10 ⟨rfl, hB10⟩
      have hB := hB.trans (hB10.mono hbs)
      have HB := hide hB
      clear hB hp hR hB10 r0 r1 r2 r3
      go_wp2_with fail
      go_roundw
      case rel => exact ⟨i + 1, by omega, by go_num, HB⟩
      case measure => simp [intOf]; omega
    · obtain rfl : i = 2 := by omega
      have cL := lives_any wr
      go_wp2_with fail
      refine cL.mono ?_
      rintro _ w3 ⟨rfl, hB3⟩
      have hbs := hB.size
      go_wp2_with fail
      go_ret
      exact ⟨rfl, hb2.trans ((hB.trans (hB3.mono hbs)).mono (by omega))⟩
end Go.Proofs.Ytogmkcabndgllaa
