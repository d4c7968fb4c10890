/- the document's putNums, putDigest; the document's putVote, bytes, Encode, Vote, Mark; A reader: its block, Err, left, take, fail, value.; The place a reader is at: number.; A reader reads a number: Num. -/
import Derived.Test.YtghgomglpgidoaaGreatJV6
namespace Go.Proofs.YtghgomglpgidoaaGreat
open Go.RowKit
open Sha Tal
def ownF (v : Value) : Nat → Prop := fun b => v.ownBlock = some b
theorem own_trans {v v1 v2 : Value} {w w1 w2 : World} (h : Off (ownF v) w w1) (r : RowOn w v v1) (h' : Off (ownF v1) w1 w2) (r' : RowOn w1 v1 v2) : Off (ownF v) w w2 ∧ RowOn w v v2 := by
  refine ⟨h.trans h' (fun b hb hf => ?_), fun g hg => ?_⟩
  · rcases r b hf with e | e
    · exact e
    · omega
  · rcases r' g hg with e | e
    · exact r g e
    · exact .inr (Nat.le_trans h.size e)
set_option maxRecDepth 100000 in
set_option maxHeartbeats 2000000 in
theorem xdig_any (B : Nat) (v : Value) (zs d : List Int) (w : World) (h : Mine w B v zs) (hB : B ≤ w.heap.size) (hz : zs.length ≤ 10000000) (hd : d.length = 32) (hdb : ∀ z ∈ d, 0 ≤ z ∧ z < 256) :
    Calls Tryz.prog 70 #[v, .agg (v8 d).toArray] w fun e w' => ∃ v', e = .returned v' ∧ Mine w' B v' (zs ++ d) ∧ Off (ownF v) w w' ∧ RowOn w v v' := by
  obtain ⟨i0, hi, hz0, hz1, hz2⟩ := info_parts info8
  have hB1 : Below w.heap.size w (w.alloc (.cells (v8 d).toArray 26)) := (Below.refl _ _).alloc (Nat.le_refl _) _
  have hR1 := box_range w d 26
  have hs1 : w.heap.size < (w.alloc (.cells (v8 d).toArray 26)).heap.size := by simp
  have hown := h.from
  have h1 := h.below hB1
  have hO1 : Off (ownF v) w (w.alloc (.cells (v8 d).toArray 26)) := Off.of_below hB1
  obtain ⟨w1, hw1⟩ : ∃ w1, Hid (w.alloc (.cells (v8 d).toArray 26) = w1) := ⟨_, hide rfl⟩
  rw [hw1.out] at hB1 hR1 hs1 h1 hO1
  generalize hu : (v8 d).toArray = u at *
  go_enter Tryz.func70, Tryz.ntmps70
  go_upto_region 1 with fail
  rw [show w.alloc (.cells u 26) = w1 from hw1.out]
  clear hw1 hu h
  go_wp2_with fail
  go_loopw [0, 5] (fun oo iv wr' => ∃ (k : Nat) (o : Value), k ≤ 32 ∧ iv = .int .i64 (k : Int) ∧ o = oo ∧ Hid (Mine wr' B o (zs ++ d.take k) ∧ Off (ownF v) w1 wr' ∧ RowOn w1 v o)) (fun _ iv _ => 32 - (intOf iv).toNat)
  case atStart => exact ⟨0, _, by omega, rfl, rfl, hide ⟨by simpa using h1, Off.refl _ _, fun g hg => .inl hg⟩⟩
  case round =>
    clear h1
    obtain ⟨k, o, hk, rfl, ho, HK⟩ := hrel
    subst ho
    by_cases hlt : k < 32
    · have k1 : (k : Int) < 32 := by omega
      obtain ⟨hM, hO, hRo⟩ := HK.out
      clear HK
      have hrow := range_at hR1 (hO.2 _ hs1 (fun hf => by have := (hown _ hf).2; omega))
      have ck : wr.cell? ⟨w.heap.size, k, none⟩ = some (.int .u8 (d.getD k 0)) := by
        have := hrow k (.int .u8 (d.getD k 0)) (by simp [v8, List.getElem?_eq_getElem (show k < d.length by omega)])
        rwa [Nat.zero_add] at this
      have hzk : 0 ≤ d.getD k 0 ∧ d.getD k 0 < 256 := hdb _ (by simp [List.getElem?_eq_getElem (show k < d.length by omega)])
      have HT : Hid (d.take (k + 1) = d.take k ++ [d.getD k 0]) := hide (by
        rw [List.take_add_one]; simp [List.getElem?_eq_getElem (show k < d.length by omega), List.getD_eq_getElem?_getD])
      have hlt2 : (d.take k).length = k := by rw [List.length_take]; omega
      obtain ⟨z, hzz⟩ : ∃ z, Hid (d.getD k 0 = z) := ⟨_, hide rfl⟩
      rw [hzz.out] at ck HT hzk
      obtain ⟨ys, hys⟩ : ∃ ys, Hid (zs ++ d.take k = ys) := ⟨_, hide rfl⟩
      have hyl : ys.length ≤ 10000032 := by rw [← hys.out, List.length_append, hlt2]; omega
      rw [hys.out] at hM
      have HY : Hid (zs ++ d.take (k + 1) = ys ++ [z]) := hide (by rw [HT.out, ← List.append_assoc, hys.out])
      have hBr : B ≤ wr.heap.size := by have := hO.size; omega
      clear hzz hys HT hlt2 hrow
      go_wp2_with (at_builtin; refine wpList_append_own_src2 _ rfl _ _ 62 62 rfl B 5 i0 (.int .u8 0) 1 1 Tryz.underlying62 hi hz0 hz1 hz2 rfl _ _ _ rfl (hM.1.alloc _) _ 1 _ rfl (b1_src _ _) ?c1 ?c2 ?c3 ?_)
      case c1 => unfold maxLen; omega
      case c2 => omega
      case c3 => simp; omega
      intro v5 w5 hown5 hgrow5 hon5
      have hM5 : Mine w5 B v5 (ys ++ [z]) := Mine.mk' _ hown5 (by simp) (by simp) (fun x hx => by
        rcases List.mem_append.1 hx with hx | hx
        · exact hM.2 x hx
        · rw [List.mem_singleton.1 hx]; exact hzk)
      have hBA : Below wr.heap.size wr (wr.alloc (.cells #[.int .u8 z] 5)) := (Below.refl _ _).alloc (Nat.le_refl _) _
      have hO5 : Off (ownF o) wr w5 := (Off.of_below (F := ownF o) hBA).trans (Off.of_grown (F := ownF o) hgrow5 (fun k hk => hk)) (fun _ _ q => q)
      have hR5 : RowOn wr o v5 := fun g hg => by
        rcases hon5 g hg with e | e
        · exact .inl e
        · have := hBA.size; exact .inr (by omega)
      have T := own_trans hO hRo hO5 hR5
      have T' := hide (And.intro hM5 T)
      clear hown5 hgrow5 hon5 hM5 hO5 hR5 T hM hO hRo hBA ck
      go_wp2_with fail
      go_roundw
      case rel => exact ⟨k + 1, _, by omega, by go_num, rfl, hide ⟨by rw [HY.out]; exact T'.out.1, T'.out.2.1, T'.out.2.2⟩⟩
      case measure => simp [intOf]; omega
    · obtain rfl : k = 32 := by omega
      obtain ⟨hM, hO, hRo⟩ := HK.out
      clear HK
      go_wp2_with fail
      go_ret
      rw [List.take_of_length_le (by omega)] at hM
      refine ⟨_, rfl, hM, hO1.trans hO (fun _ _ q => q), fun g hg => ?_⟩
      rcases hRo g hg with e | e
      · exact .inl e
      · exact .inr (by omega)
/-- numbers' bytes, one behind the other -/
def numsL (ns : List Int) : List Int := ns.flatMap putL
set_option maxRecDepth 100000 in
set_option maxHeartbeats 2000000 in
theorem xnums_any (a : Option Addr) (cap : Nat) (zs : List Int) (b off cap2 : Nat) (ns : List Int) (w : World) (h : RowAt w a zs) (hz : zs.length ≤ 1000000) (h0 : 0 < ns.length) (hl : ns.length ≤ 10) (hn : ∀ n ∈ ns, n ≤ 9223372036854775807) (hb : b < w.heap.size) (hr : w.rangeAt b off (ns.map (Value.int .i64))) :
    Calls Tryz.prog 65 #[.slice a zs.length cap, .slice (some ⟨b, off, none⟩) ns.length cap2] w fun e w' => ∃ v, e = .returned v ∧ Mine w' w.heap.size v (zs ++ numsL ns) ∧ Below w.heap.size w w' := by
  go_enter Tryz.func65, Tryz.ntmps65
  go_wp2_with fail
  go_loopw [0, 5] (fun o iv wr' => ∃ k : Nat, k ≤ ns.length ∧ iv = .int .i64 (k : Int) ∧ Hid ((∃ a' cap', o = .slice a' (zs ++ numsL (ns.take k)).length cap' ∧ RowAt wr' a' (zs ++ numsL (ns.take k))) ∧ (0 < k → Mine wr' w.heap.size o (zs ++ numsL (ns.take k))) ∧ Below w.heap.size w wr')) (fun _ iv _ => ns.length - (intOf iv).toNat)
  case atStart => exact ⟨0, by omega, rfl, hide ⟨⟨a, cap, by simp [numsL], by simpa [numsL] using h⟩, fun q => absurd q (by omega), Below.refl _ _⟩⟩
  case round =>
    obtain ⟨k, hk, rfl, HK⟩ := hrel
    by_cases hlt : k < ns.length
    · have k1 : (k : Int) < ns.length := by omega
      obtain ⟨⟨a', cap', rfl, hra⟩, _, hBr⟩ := HK.out
      clear HK
      have ck : wr.cell? ⟨b, off + k, none⟩ = some (.int .i64 (ns.getD k 0)) := range_below hr hBr hb k (.int .i64 (ns.getD k 0)) (by simp [List.getElem?_eq_getElem hlt])
      have hnk : ns.getD k 0 ≤ 9223372036854775807 := hn _ (by simp [List.getElem?_eq_getElem hlt])
      have HT : Hid (numsL (ns.take (k + 1)) = numsL (ns.take k) ++ putL (ns.getD k 0)) := hide (by
        have : ns.take (k + 1) = ns.take k ++ [ns.getD k 0] := by
          rw [List.take_add_one]; simp [List.getElem?_eq_getElem hlt, List.getD_eq_getElem?_getD]
        rw [this]; simp [numsL])
      have hll : ∀ j, j ≤ ns.length → (numsL (ns.take j)).length ≤ 9 * j := by
        intro j
        induction j with
        | zero => intro _; simp [numsL]
        | succ j ih =>
          intro hj
          have := ih (by omega)
          have hjl : j < ns.length := by omega
          have e : ns.take (j + 1) = ns.take j ++ [ns.getD j 0] := by
            rw [List.take_add_one]; simp [List.getElem?_eq_getElem hjl, List.getD_eq_getElem?_getD]
          have hp := putL_length (ns.getD j 0) (by have := hn (ns.getD j 0) (by simp [List.getElem?_eq_getElem hjl]); omega)
          rw [e, numsL, List.flatMap_append, List.length_append]
          simp only [List.flatMap_cons, List.flatMap_nil, List.append_nil]
          have q : (List.flatMap putL (ns.take j)).length ≤ 9 * j := this
          omega
      have hyl0 := hll k (by omega)
      obtain ⟨n, hnn⟩ : ∃ n, Hid (ns.getD k 0 = n) := ⟨_, hide rfl⟩
      rw [hnn.out] at ck HT hnk
      obtain ⟨ys, hys⟩ : ∃ ys, Hid (zs ++ numsL (ns.take k) = ys) := ⟨_, hide rfl⟩
      have hyl : ys.length ≤ 1000090 := by rw [← hys.out, List.length_append]; omega
      rw [hys.out] at hra ⊢
      have HY : Hid (zs ++ numsL (ns.take (k + 1)) = ys ++ putL n) := hide (by rw [HT.out, ← List.append_assoc, hys.out])
      have cp := refPut_any a' cap' ys n wr hra (by omega) hnk
      have hpl := putL_length n (by omega)
      clear hnn hys HT hll hyl0
      go_wp2_with fail
      refine cp.mono ?_
      rintro e1 w1 ⟨v1, rfl, hM1, hb1⟩
      obtain ⟨a1, cap1, rfl, _, _, hr1⟩ := hM1.rowAt (by rw [List.length_append]; unfold maxLen; omega)
      have hB1 := hBr.trans (hb1.mono hBr.size)
      have hM1' : Mine w1 w.heap.size (.slice a1 (ys ++ putL n).length cap1) (ys ++ putL n) := by
        refine ⟨?_, hM1.2⟩
        refine ⟨hM1.1.1, ?_⟩
        rcases hM1.1.2 with q | ⟨g, c, cur, q1, q2, q3⟩
        · exact .inl q
        · exact .inr ⟨g, c, cur, q1, Nat.le_trans hBr.size q2, q3⟩
      have T := hide (And.intro hr1 (And.intro hM1' hB1))
      clear cp hM1 hr1 hM1' hB1 hb1 hra ck
      go_wp2_with fail
      go_roundw
      case rel => exact ⟨k + 1, by omega, by go_num, hide ⟨⟨a1, cap1, by rw [HY.out, List.length_append], by rw [HY.out]; exact T.out.1⟩, fun _ => by rw [HY.out]; have := T.out.2.1; rwa [List.length_append] at this, T.out.2.2⟩⟩
      case measure => simp [intOf]; omega
    · obtain rfl : k = ns.length := by omega
      obtain ⟨_, hM, hBr⟩ := HK.out
      have hM := hM h0
      clear HK
      go_wp2_with fail
      go_ret
      rw [List.take_length] at hM
      exact ⟨_, rfl, hM, hBr⟩
end Go.Proofs.YtghgomglpgidoaaGreat
namespace Go.Proofs.YtghgomglpgidoaaGreat
open Go.RowKit
open Sha Tal
theorem Mine.base {w : World} {B B' : Nat} {v : Value} {zs : List Int} (h : Mine w B v zs) (hB : B' ≤ B) : Mine w B' v zs := by
  refine ⟨⟨h.1.1, ?_⟩, h.2⟩
  rcases h.1.2 with q | ⟨g, c, cur, q1, q2, q3⟩
  · exact .inl q
  · exact .inr ⟨g, c, cur, q1, Nat.le_trans hB q2, q3⟩
theorem xnums_new (a : Option Addr) (cap : Nat) (zs ns : List Int) (arr : Array Value) (n : Nat) (w : World) (h : RowAt w a zs) (ha : arr = (ns.map (Value.int .i64)).toArray) (hc : ns.length = n) (hz : zs.length ≤ 1000000) (h0 : 0 < n) (hl : n ≤ 10) (hn : ∀ n ∈ ns, n ≤ 9223372036854775807) :
    Calls Tryz.prog 65 #[.slice a zs.length cap, .slice (some ⟨w.heap.size, 0, none⟩) n n] (w.alloc (.cells arr 3)) fun e w' => ∃ v, e = .returned v ∧ Mine w' w.heap.size v (zs ++ numsL ns) ∧ Below w.heap.size w w' := by
  subst ha hc
  have hB : Below w.heap.size w (w.alloc (.cells (ns.map (Value.int .i64)).toArray 3)) := (Below.refl _ _).alloc (Nat.le_refl _) _
  have hR : (w.alloc (.cells (ns.map (Value.int .i64)).toArray 3)).rangeAt w.heap.size 0 (ns.map (Value.int .i64)) := by
    have := range_new w (ns.map (Value.int .i64)).toArray 3
    simpa using this
  refine (xnums_any a cap zs w.heap.size 0 ns.length ns _ (h.below hB) hz h0 hl hn (by simp) hR).mono ?_
  rintro e w' ⟨v, rfl, h1, h2⟩
  exact ⟨v, rfl, h1.base hB.size, hB.trans (h2.mono hB.size)⟩
theorem four_le {a b c d : Int} (h1 : a ≤ 9223372036854775807) (h2 : b ≤ 9223372036854775807) (h3 : c ≤ 9223372036854775807) (h4 : d ≤ 9223372036854775807) : ∀ z ∈ [a, b, c, d], z ≤ 9223372036854775807 := by
  intro z hz
  simp only [List.mem_cons, List.not_mem_nil, or_false] at hz
  rcases hz with rfl | rfl | rfl | rfl
  · exact h1
  · exact h2
  · exact h3
  · exact h4
theorem off_below {w w' : World} {B n : Nat} {v : Value} {zs : List Int} (h : Off (ownF v) w w') (hM : Mine w B v zs) (hn : n ≤ B) (hs : n ≤ w.heap.size) : Below n w w' :=
  h.below hs (fun b hb hf => by have := (hM.from b hf).1; omega)
set_option maxRecDepth 100000 in
set_option maxHeartbeats 4000000 in
theorem xputVote_any (a : Option Addr) (cap : Nat) (zs : List Int) (x : Vt) (w : World) (h : RowAt w a zs) (hz : zs.length ≤ 1000000) (hx : x.ok) :
    Calls Tryz.prog 66 #[.slice a zs.length cap, .agg x.cells.toArray] w fun e w' => ∃ v, e = .returned v ∧ Mine w' w.heap.size v (zs ++ numsL [x.k, x.e, x.v, x.s] ++ x.d) ∧ Below w.heap.size w w' := by
  obtain ⟨k, ep, vi, sl, d⟩ := x
  have hk := hx.k
  have he := hx.e
  have hv := hx.v
  have hs := hx.s
  have hd : d.length = 32 := hx.dl
  have hdb : ∀ z ∈ d, 0 ≤ z ∧ z < 256 := hx.db
  have hn4 := four_le hk he hv hs
  simp only at hk he hv hs hn4
  have hB1 : Below w.heap.size w (w.alloc (.cells (Vt.mk k ep vi sl d).cells.toArray 28)) := (Below.refl _ _).alloc (Nat.le_refl _) _
  have hR1 := Vt.box w ⟨k, ep, vi, sl, d⟩
  obtain ⟨c0, c1, c2, c3⟩ := Vt.four hR1
  simp only [Nat.zero_add] at c0 c1 c2 c3
  have hrd : (w.alloc (.cells (Vt.mk k ep vi sl d).cells.toArray 28)).rangeAt w.heap.size 4 (v8 d) := fun j u hj => by
    have := hR1 (4 + j) u (by rw [Nat.add_comm]; exact hj)
    rwa [Nat.zero_add] at this
  have hsz : w.heap.size < (w.alloc (.cells (Vt.mk k ep vi sl d).cells.toArray 28)).heap.size := by simp
  have id : (Tryz.prog.info? 26).map (·.size) = some (v8 d).length := by rw [v8_length, hd]; exact iszD
  clear hR1 hx
  generalize (Vt.mk k ep vi sl d).cells = q at *
  show Calls Tryz.prog 66 _ w fun e w' => ∃ v, e = .returned v ∧ Mine w' w.heap.size v (zs ++ numsL [k, ep, vi, sl] ++ d) ∧ Below w.heap.size w w'
  go_enter Tryz.func66, Tryz.ntmps66
  go_upto_region 1 with fail
  obtain ⟨w8, hw8⟩ : ∃ w8, (w.alloc (.cells q.toArray 28)).drew = w8 := ⟨_, rfl⟩
  have hB8 : Below w.heap.size w w8 := by rw [← hw8]; exact hB1.drew
  have hs8 : w.heap.size < w8.heap.size := by rw [← hw8]; exact hsz
  have hra8 : RowAt w8 a zs := h.below hB8
  have dr : ∀ i v, (w.alloc (.cells q.toArray 28)).cell? ⟨w.heap.size, i, none⟩ = some v → w8.cell? ⟨w.heap.size, i, none⟩ = some v := fun i v h => by rw [← hw8]; exact h
  replace c0 := dr _ _ c0
  replace c1 := dr _ _ c1
  replace c2 := dr _ _ c2
  replace c3 := dr _ _ c3
  have rd8 : w8.rangeAt w.heap.size 4 (v8 d) := by rw [← hw8]; exact (World.rangeAt_drew _ _ _ _).2 hrd
  have hld : ∀ w', Below w8.heap.size w8 w' → (loadVar 26 ⟨w.heap.size, 4, none⟩).run Tryz.prog w' = .ok (.agg (v8 d).toArray) w' := fun w' hw => run_loadVar_mid (P := Tryz.prog) w' w.heap.size 4 26 (v8 d) _ (range_below rd8 hw hs8) Tryz.underlying26 rfl id
  obtain ⟨u, hu⟩ : ∃ u, Hid ((v8 d).toArray = u) := ⟨_, hide rfl⟩
  rw [hu.out] at hld
  refine hs_begin (S := (Below w8.heap.size w8)) 15 rfl (by kernel_rfl) ?_
  rw [hw8]
  clear hw8 dr hB1 hsz hrd rd8 id h
  have hS : (Below w8.heap.size w8) w8 := Below.refl _ _
  refine hs_take (i := 0) (d := some 5) (v := ?_) rfl (by kernel_rfl) (by kernel_rfl) (by kernel_rfl) (by rfl) ?_ hS rfl ?_
  rotate_left
  · intro w' hw
    go_simp
    try with_reducible rfl
  simp only [Act.put, List.setIfInBounds_toArray, List.set_cons_zero, List.set_cons_succ]
  refine hs_take (i := 1) (d := some 6) (v := ?_) rfl (by kernel_rfl) (by kernel_rfl) (by kernel_rfl) (by rfl) ?_ hS rfl ?_
  rotate_left
  · intro w' hw
    go_simp
    try with_reducible rfl
  simp only [Act.put, List.setIfInBounds_toArray, List.set_cons_zero, List.set_cons_succ]
  refine hs_take (i := 2) (d := some 7) (v := ?_) rfl (by kernel_rfl) (by kernel_rfl) (by kernel_rfl) (by rfl) ?_ hS rfl ?_
  rotate_left
  · intro w' hw
    have := (hw.cell (p := ⟨w.heap.size, 0, none⟩) hs8).trans c0
    go_simp
    try with_reducible rfl
  simp only [Act.put, List.setIfInBounds_toArray, List.set_cons_zero, List.set_cons_succ]
  refine hs_take (i := 3) (d := some 8) (v := ?_) rfl (by kernel_rfl) (by kernel_rfl) (by kernel_rfl) (by rfl) ?_ hS rfl ?_
  rotate_left
  · intro w' hw
    go_simp
    try with_reducible rfl
  simp only [Act.put, List.setIfInBounds_toArray, List.set_cons_zero, List.set_cons_succ]
  refine hs_take (i := 4) (d := some 9) (v := ?_) rfl (by kernel_rfl) (by kernel_rfl) (by kernel_rfl) (by rfl) ?_ hS rfl ?_
  rotate_left
  · intro w' hw
    have := (hw.cell (p := ⟨w.heap.size, 1, none⟩) hs8).trans c1
    go_simp
    try with_reducible rfl
  simp only [Act.put, List.setIfInBounds_toArray, List.set_cons_zero, List.set_cons_succ]
  refine hs_take (i := 5) (d := some 10) (v := ?_) rfl (by kernel_rfl) (by kernel_rfl) (by kernel_rfl) (by rfl) ?_ hS rfl ?_
  rotate_left
  · intro w' hw
    go_simp
    try with_reducible rfl
  simp only [Act.put, List.setIfInBounds_toArray, List.set_cons_zero, List.set_cons_succ]
  refine hs_take (i := 6) (d := some 11) (v := ?_) rfl (by kernel_rfl) (by kernel_rfl) (by kernel_rfl) (by rfl) ?_ hS rfl ?_
  rotate_left
  · intro w' hw
    have := (hw.cell (p := ⟨w.heap.size, 2, none⟩) hs8).trans c2
    go_simp
    try with_reducible rfl
  simp only [Act.put, List.setIfInBounds_toArray, List.set_cons_zero, List.set_cons_succ]
  refine hs_take (i := 7) (d := some 12) (v := ?_) rfl (by kernel_rfl) (by kernel_rfl) (by kernel_rfl) (by rfl) ?_ hS rfl ?_
  rotate_left
  · intro w' hw
    go_simp
    try with_reducible rfl
  simp only [Act.put, List.setIfInBounds_toArray, List.set_cons_zero, List.set_cons_succ]
  refine hs_take (i := 8) (d := some 13) (v := ?_) rfl (by kernel_rfl) (by kernel_rfl) (by kernel_rfl) (by rfl) ?_ hS rfl ?_
  rotate_left
  · intro w' hw
    have := (hw.cell (p := ⟨w.heap.size, 3, none⟩) hs8).trans c3
    go_simp
    try with_reducible rfl
  simp only [Act.put, List.setIfInBounds_toArray, List.set_cons_zero, List.set_cons_succ]
  refine hs_take (i := 11) (d := some 16) (v := ?_) rfl (by kernel_rfl) (by kernel_rfl) (by kernel_rfl) (by rfl) ?_ hS rfl ?_
  rotate_left
  · intro w' hw
    go_simp
    try with_reducible rfl
  simp only [Act.put, List.setIfInBounds_toArray, List.set_cons_zero, List.set_cons_succ]
  refine hs_take (i := 12) (d := some 17) (v := .agg u) rfl (by kernel_rfl) (by kernel_rfl) (by kernel_rfl) (by rfl) (fun w' hw => exec_loadC rfl rfl (hld w' hw)) hS rfl ?_
  simp only [Act.put, List.setIfInBounds_toArray, List.set_cons_zero, List.set_cons_succ]
  have hS : (Below w8.heap.size w8) (w8.alloc (.cells #[.int .i64 k, .int .i64 ep, .int .i64 vi, .int .i64 sl] 3)) := (Below.refl _ _).alloc (Nat.le_refl _) _
  refine hs_run (i := 9) (d := some 14) (v := .slice (some ⟨w8.heap.size, 0, none⟩) 4 4) (w' := (w8.alloc (.cells #[.int .i64 k, .int .i64 ep, .int .i64 vi, .int .i64 sl] 3))) rfl (by kernel_rfl) (by rfl) (by go_simp; first | done | with_reducible rfl) rfl hS ?_
  simp only [Act.put, List.setIfInBounds_toArray, List.set_cons_zero, List.set_cons_succ]
  have cn := xnums_new a cap zs [k, ep, vi, sl] #[.int .i64 k, .int .i64 ep, .int .i64 vi, .int .i64 sl] 4 w8 hra8 rfl rfl hz (by omega) (by omega) hn4
  refine hs_call (i := 10) (d := some 15) rfl (by kernel_rfl) (by rfl) (by go_simp; first | done | exact ⟨rfl, rfl⟩ | with_reducible rfl) rfl ?_
  refine (cn).mono ?_
  rintro e' wn1 ⟨v1, rfl, hM1, hb1⟩
  have hS : (Below w8.heap.size w8) wn1 := hb1
  refine ⟨_, rfl, hS, ?_⟩
  simp only [Act.put, List.setIfInBounds_toArray, List.set_cons_zero, List.set_cons_succ]
  have hl1 : (zs ++ numsL [k, ep, vi, sl]).length ≤ 10000000 := by
    have := putL_len hk
    have := putL_len he
    have := putL_len hv
    have := putL_len hs
    simp only [numsL, List.flatMap_cons, List.flatMap_nil, List.append_nil, List.length_append]
    omega
  have cd := xdig_any w8.heap.size v1 (zs ++ numsL [k, ep, vi, sl]) d wn1 hM1 hb1.size hl1 hd hdb
  rw [hu.out] at cd
  refine hs_call (i := 13) (d := some 18) rfl (by kernel_rfl) (by rfl) (by go_simp; first | done | exact ⟨rfl, rfl⟩ | with_reducible rfl) rfl ?_
  refine (cd).mono ?_
  rintro e' wn2 ⟨v2, rfl, hM2, hO2, hr2⟩
  have hS : (Below w8.heap.size w8) wn2 := hb1.trans (off_below hO2 hM1 (Nat.le_refl _) hb1.size)
  refine ⟨_, rfl, hS, ?_⟩
  simp only [Act.put, List.setIfInBounds_toArray, List.set_cons_zero, List.set_cons_succ]
  refine hs_take (i := 14) (d := some 4) (v := ?_) rfl (by kernel_rfl) (by kernel_rfl) (by kernel_rfl) (by rfl) ?_ hS rfl ?_
  rotate_left
  · intro w' hw
    go_simp
    try with_reducible rfl
  simp only [Act.put, List.setIfInBounds_toArray, List.set_cons_zero, List.set_cons_succ]
  refine hs_done (by kernel_rfl) ?_
  have hM3 := hM2.base (B' := w.heap.size) (by omega)
  have hB3 := hB8.trans (hS.mono (by omega))
  clear hM2 hO2 hr2 hM1 hb1 cn cd hld
  go_wp2_with fail
  go_ret
  exact ⟨_, rfl, hM3, hB3⟩
theorem voteL_eq (x : Vt) : putL 2 ++ numsL [x.k, x.e, x.v, x.s] ++ x.d = voteL x := by
  simp [numsL, voteL, List.append_assoc]
/-- what the document's bytes tells -/
def Tells (q : List Value) (zs : List Int) : Prop := ∀ w, Calls Tryz.prog 23 #[.agg q.toArray] w fun e w' => ∃ v, e = .returned v ∧ Mine w' w.heap.size v zs ∧ Below w.heap.size w w'
set_option maxRecDepth 100000 in
set_option maxHeartbeats 4000000 in
theorem xbytes2 {x : Vt} (hx : x.ok) : Tells (Ms.plain 2 0 0 x zeros32).cells (voteL x) := fun w => by
  have hm := plain_ok2 hx
  have hB1 : Below w.heap.size w (w.alloc (.cells (Ms.plain 2 0 0 x zeros32).cells.toArray 37)) := (Below.refl _ _).alloc (Nat.le_refl _) _
  have hsz : w.heap.size < (w.alloc (.cells (Ms.plain 2 0 0 x zeros32).cells.toArray 37)).heap.size := by simp
  have M := (Ms.plain 2 0 0 x zeros32).box hm w
  have ck : _root_.Go.World.cell? _ ⟨w.heap.size, 0, none⟩ = some (.int .i64 2) := M.k
  have rv : _root_.Go.World.rangeAt _ w.heap.size 7 x.cells := M.vt
  have ix : (Tryz.prog.info? 28).map (·.size) = some x.cells.length := by rw [hx.len]; exact iszV
  have HV := hide (voteL_eq x)
  have cv := fun a cap zs w0 h hz => xputVote_any a cap zs x w0 h hz hx
  have hpl := @putL_len 2 (by omega)
  obtain ⟨vl, hvl⟩ : ∃ vl, Hid (numsL [x.k, x.e, x.v, x.s] = vl) := ⟨_, hide rfl⟩
  rw [hvl.out] at HV
  simp only [hvl.out] at cv
  rw [← HV.out]
  clear hx hm M HV hvl
  generalize (Ms.plain 2 0 0 x zeros32).cells = q at *
  generalize x.cells = u at *
  generalize x.d = d at *
  have cp := fun w0 => refPut_any none 0 [] 2 w0 (nil_row w0) (by simp) (by omega)
  simp only [List.nil_append, List.length_nil] at cp
  generalize putL 2 = p2 at *
  go_enter Tryz.func23, Tryz.ntmps23
  go_upto_region 1 with fail
  go_name_world w1 hw1
  rw [show w.alloc (.cells q.toArray 37) = w1 from hw1] at hB1 ck rv hsz
  clear hw1
  go_wp2_with fail
  refine (cp _).mono ?_
  rintro e2 w2 ⟨v2, rfl, hM2, hb2⟩
  obtain ⟨a2, cap2, rfl, _, _, hr2⟩ := hM2.rowAt (by unfold maxLen; omega)
  have hB2 := hB1.trans (hb2.mono hB1.size)
  have ck2 := (hb2.cell (p := ⟨w.heap.size, 0, none⟩) hsz).trans ck
  have rv2 := range_below rv hb2 hsz
  have c6 := cv a2 cap2 p2 w2 hr2 (by omega)
  clear cp cv hM2 hb2 hB1 ck rv hr2
  go_wp2_with (refine wpList_load_mid rfl 28 _ rfl _ _ rfl u _ rv2 Tryz.underlying28 rfl ix ?_)
  refine c6.mono ?_
  rintro e3 w3 ⟨v3, rfl, hM3, hb3⟩
  have hM4 := hM3.base (B' := w.heap.size) (by have := hB2.size; omega)
  have hB3 := hB2.trans (hb3.mono hB2.size)
  clear c6 hM3 hb3 hB2 rv2
  go_wp2_with fail
  go_ret
  exact ⟨_, rfl, hM4, hB3⟩
set_option maxRecDepth 100000 in
set_option maxHeartbeats 4000000 in
theorem xbytes5 {e : Int} {d : List Int} (he : e ≤ 9223372036854775807) (hd : d.length = 32) (hdb : ∀ z ∈ d, 0 ≤ z ∧ z < 256) : Tells (Ms.plain 5 e 0 Vt.zero d).cells (markL e d) := fun w => by
  have hm := Ms.plain_ok 5 e 0 Vt.zero_ok hd hdb
  have hB1 : Below w.heap.size w (w.alloc (.cells (Ms.plain 5 e 0 Vt.zero d).cells.toArray 37)) := (Below.refl _ _).alloc (Nat.le_refl _) _
  have hsz : w.heap.size < (w.alloc (.cells (Ms.plain 5 e 0 Vt.zero d).cells.toArray 37)).heap.size := by simp
  have M := (Ms.plain 5 e 0 Vt.zero d).box hm w
  have ck : _root_.Go.World.cell? _ ⟨w.heap.size, 0, none⟩ = some (.int .i64 5) := M.k
  have ce : _root_.Go.World.cell? _ ⟨w.heap.size, 1, none⟩ = some (.int .i64 e) := M.e
  have rd : _root_.Go.World.rangeAt _ w.heap.size 48 (v8 d) := M.d
  have id : (Tryz.prog.info? 26).map (·.size) = some (v8 d).length := by rw [v8_length, hd]; exact iszD
  have hp5 := @putL_len 5 (by omega)
  have hpe := putL_len he
  have c5 := fun w0 => refPut_any none 0 [] 5 w0 (nil_row w0) (by simp) (by omega)
  simp only [List.nil_append, List.length_nil] at c5
  have cp := fun a cap zs w0 h hz => refPut_any a cap zs e w0 h hz he
  show Calls Tryz.prog 23 _ w fun er w' => ∃ v, er = .returned v ∧ Mine w' w.heap.size v (putL 5 ++ putL e ++ d) ∧ Below w.heap.size w w'
  clear hm M he
  generalize (Ms.plain 5 e 0 Vt.zero d).cells = q at *
  generalize putL 5 = p5 at *
  generalize putL e = pe at *
  go_enter Tryz.func23, Tryz.ntmps23
  go_upto_region 1 with fail
  go_name_world w1 hw1
  rw [show w.alloc (.cells q.toArray 37) = w1 from hw1] at hB1 ck rd hsz ce
  clear hw1
  go_wp2_with fail
  refine (c5 _).mono ?_
  rintro e2 w2 ⟨v2, rfl, hM2, hb2⟩
  obtain ⟨a2, cap2, rfl, _, _, hr2⟩ := hM2.rowAt (by unfold maxLen; omega)
  have hB2 := hB1.trans (hb2.mono hB1.size)
  have hs2 := Nat.lt_of_lt_of_le hsz hb2.size
  replace ck := (hb2.cell (p := ⟨w.heap.size, 0, none⟩) hsz).trans ck
  replace ce := (hb2.cell (p := ⟨w.heap.size, 1, none⟩) hsz).trans ce
  replace rd := range_below rd hb2 hsz
  clear c5 hM2 hb2 hB1 hsz
  go_upto_region 21 with fail
  obtain ⟨w8, hw8⟩ : ∃ w8, w2.drew = w8 := ⟨_, rfl⟩
  have hB8 : Below w.heap.size w w8 := by rw [← hw8]; exact hB2.drew
  have hs8 : w.heap.size < w8.heap.size := by rw [← hw8]; exact hs2
  have hr8 : RowAt w8 a2 p5 := hr2.below (by rw [← hw8]; exact (Below.refl _ _).drew)
  have dr : ∀ i v, w2.cell? ⟨w.heap.size, i, none⟩ = some v → w8.cell? ⟨w.heap.size, i, none⟩ = some v := fun i v h => by rw [← hw8]; exact h
  replace ce := dr _ _ ce
  have rd8 : w8.rangeAt w.heap.size 48 (v8 d) := by rw [← hw8]; exact (World.rangeAt_drew _ _ _ _).2 rd
  have hld : ∀ w', Below w8.heap.size w8 w' → (loadVar 26 ⟨w.heap.size, 48, none⟩).run Tryz.prog w' = .ok (.agg (v8 d).toArray) w' := fun w' hw => run_loadVar_mid (P := Tryz.prog) w' w.heap.size 48 26 (v8 d) _ (range_below rd8 hw hs8) Tryz.underlying26 rfl id
  obtain ⟨u, hu⟩ : ∃ u, Hid ((v8 d).toArray = u) := ⟨_, hide rfl⟩
  rw [hu.out] at hld
  refine hs_begin (S := (Below w8.heap.size w8)) 8 rfl (by kernel_rfl) ?_
  rw [hw8]
  clear hw8 dr hB2 hs2 rd rd8 id hr2 ck
  have hS : (Below w8.heap.size w8) w8 := Below.refl _ _
  refine hs_take (i := 0) (d := some 113) (v := ?_) rfl (by kernel_rfl) (by kernel_rfl) (by kernel_rfl) (by rfl) ?_ hS rfl ?_
  rotate_left
  · intro w' hw
    go_simp
    try with_reducible rfl
  simp only [Act.put, List.setIfInBounds_toArray, List.set_cons_zero, List.set_cons_succ]
  refine hs_take (i := 1) (d := some 114) (v := ?_) rfl (by kernel_rfl) (by kernel_rfl) (by kernel_rfl) (by rfl) ?_ hS rfl ?_
  rotate_left
  · intro w' hw
    go_simp
    try with_reducible rfl
  simp only [Act.put, List.setIfInBounds_toArray, List.set_cons_zero, List.set_cons_succ]
  refine hs_take (i := 2) (d := some 115) (v := ?_) rfl (by kernel_rfl) (by kernel_rfl) (by kernel_rfl) (by rfl) ?_ hS rfl ?_
  rotate_left
  · intro w' hw
    have := (hw.cell (p := ⟨w.heap.size, 1, none⟩) hs8).trans ce
    go_simp
    try with_reducible rfl
  simp only [Act.put, List.setIfInBounds_toArray, List.set_cons_zero, List.set_cons_succ]
  refine hs_take (i := 4) (d := some 117) (v := ?_) rfl (by kernel_rfl) (by kernel_rfl) (by kernel_rfl) (by rfl) ?_ hS rfl ?_
  rotate_left
  · intro w' hw
    go_simp
    try with_reducible rfl
  simp only [Act.put, List.setIfInBounds_toArray, List.set_cons_zero, List.set_cons_succ]
  refine hs_take (i := 5) (d := some 118) (v := .agg u) rfl (by kernel_rfl) (by kernel_rfl) (by kernel_rfl) (by rfl) (fun w' hw => exec_loadC rfl rfl (hld w' hw)) hS rfl ?_
  simp only [Act.put, List.setIfInBounds_toArray, List.set_cons_zero, List.set_cons_succ]
  refine hs_call (i := 3) (d := some 116) rfl (by kernel_rfl) (by rfl) (by go_simp; first | done | exact ⟨rfl, rfl⟩ | with_reducible rfl) rfl ?_
  refine (cp _ _ _ _ hr8 (by omega)).mono ?_
  rintro e' wn1 ⟨v3, rfl, hM3, hb3⟩
  have hS : (Below w8.heap.size w8) wn1 := hb3
  refine ⟨_, rfl, hS, ?_⟩
  simp only [Act.put, List.setIfInBounds_toArray, List.set_cons_zero, List.set_cons_succ]
  have hl1 : (p5 ++ pe).length ≤ 10000000 := by rw [List.length_append]; omega
  have cd := xdig_any w8.heap.size v3 (p5 ++ pe) d wn1 hM3 hb3.size hl1 hd hdb
  rw [hu.out] at cd
  refine hs_call (i := 6) (d := some 119) rfl (by kernel_rfl) (by rfl) (by go_simp; first | done | exact ⟨rfl, rfl⟩ | with_reducible rfl) rfl ?_
  refine (cd).mono ?_
  rintro e' wn2 ⟨v6, rfl, hM6, hO6, hr6⟩
  have hS : (Below w8.heap.size w8) wn2 := hb3.trans (off_below hO6 hM3 (Nat.le_refl _) hb3.size)
  refine ⟨_, rfl, hS, ?_⟩
  simp only [Act.put, List.setIfInBounds_toArray, List.set_cons_zero, List.set_cons_succ]
  refine hs_take (i := 7) (d := some 3) (v := ?_) rfl (by kernel_rfl) (by kernel_rfl) (by kernel_rfl) (by rfl) ?_ hS rfl ?_
  rotate_left
  · intro w' hw
    go_simp
    try with_reducible rfl
  simp only [Act.put, List.setIfInBounds_toArray, List.set_cons_zero, List.set_cons_succ]
  refine hs_done (by kernel_rfl) ?_
  have hM7 := hM6.base (B' := w.heap.size) (by omega)
  have hB7 := hB8.trans (hS.mono (by omega))
  clear hM6 hO6 hr6 hM3 hb3 cd hld cp
  go_wp2_with fail
  go_ret
  exact ⟨_, rfl, hM7, hB7⟩
set_option maxRecDepth 100000 in
set_option maxHeartbeats 4000000 in
theorem xenc0 (q : List Value) (b : Bool) (zs : List Int) (w : World) (hq : q.length = 119) (hl : zs.length ≤ 1000)
    (hg : ∀ w, Calls Tryz.prog 11 #[.agg q.toArray] w fun e w' => e = .returned (.bool b) ∧ Below w.heap.size w w') (ht : Tells q zs) :
    Calls Tryz.prog 9 #[.agg q.toArray] w fun e w' => e = .returned (encV b zs) ∧ Below w.heap.size w w' := by
  have hB : Below w.heap.size w (w.alloc (.cells q.toArray 37)) := (Below.refl _ _).alloc (Nat.le_refl _) _
  have hs : w.heap.size < (w.alloc (.cells q.toArray 37)).heap.size := by simp
  have hA : (w.alloc (.cells q.toArray 37)).rangeAt w.heap.size 0 q := by simpa using range_new w q.toArray 37
  have iq : (Tryz.prog.info? 37).map (·.size) = some q.length := by rw [hq]; exact iszM
  clear hq
  cases b
  · show Calls Tryz.prog 9 #[.agg q.toArray] w fun e w' => e = .returned (.tuple #[.string ⟨#[]⟩, .int .i64 130]) ∧ Below w.heap.size w w'
    clear ht
    go_enter Tryz.func9, Tryz.ntmps9
    go_upto_region 1 with fail
    go_name_world w1 hw1
    rw [show w.alloc (.cells q.toArray 37) = w1 from hw1] at hB hs hA
    clear hw1
    go_wp2_with (refine wpList_load_mid rfl 37 _ rfl _ _ rfl q _ hA Tryz.underlying37 rfl iq ?_)
    refine (hg _).mono ?_
    rintro e2 w2 ⟨rfl, hb2⟩
    have hB2 := hB.trans (hb2.mono (by omega))
    clear hA hg hB hb2
    go_wp2
    go_ret2
    exact ⟨rfl, hB2⟩
  · show Calls Tryz.prog 9 #[.agg q.toArray] w fun e w' => e = .returned (.tuple #[.string (strOf zs), .int .i64 0]) ∧ Below w.heap.size w w'
    obtain ⟨sz, hsz⟩ : ∃ sz, Hid (strOf zs = sz) := ⟨_, hide rfl⟩
    rw [hsz.out]
    go_enter Tryz.func9, Tryz.ntmps9
    go_upto_region 1 with fail
    go_name_world w1 hw1
    rw [show w.alloc (.cells q.toArray 37) = w1 from hw1] at hB hs hA
    clear hw1
    go_wp2_with (refine wpList_load_mid rfl 37 _ rfl _ _ rfl q _ hA Tryz.underlying37 rfl iq ?_)
    refine (hg _).mono ?_
    rintro e2 w2 ⟨rfl, hb2⟩
    have hB2 := hB.trans (hb2.mono (by omega))
    have hA2 := range_below hA hb2 hs
    have hs2 := Nat.lt_of_lt_of_le hs hb2.size
    clear hA hg hB hb2 hs
    go_wp2_with (refine wpList_load_mid rfl 37 _ rfl _ _ rfl q _ hA2 Tryz.underlying37 rfl iq ?_)
    refine (ht _).mono ?_
    rintro e3 w3 ⟨v3, rfl, hM3, hb3⟩
    have hcs := mine_str hM3
    rw [hsz.out] at hcs
    have hB3 := hB2.trans (hb3.mono (by omega))
    obtain ⟨a5, cap5, rfl⟩ : ∃ a cap, v3 = .slice a zs.length cap := by
      rcases own_range hM3.1 with ⟨rfl, h0, _⟩ | ⟨g, cap, rfl, _⟩
      · exact ⟨none, 0, by rw [h0]⟩
      · exact ⟨_, cap, rfl⟩
    have hl' : (zs.length : Int) ≤ 1000 := by omega
    clear hsz hM3 hb3 hA2 hB2 ht
    go_wp2
    go_ret2
    exact ⟨rfl, hB3⟩
theorem voteL_len {x : Vt} (hx : x.ok) : (voteL x).length ≤ 1000 := by
  have p := @putL_len 2 (by omega)
  have h1 := putL_len hx.k
  have h2 := putL_len hx.e
  have h3 := putL_len hx.v
  have h4 := putL_len hx.s
  have h5 := hx.dl
  simp only [voteL, List.length_append]
  omega
theorem markL_len {e : Int} {d : List Int} (he : e ≤ 9223372036854775807) (hd : d.length = 32) : (markL e d).length ≤ 1000 := by
  have p := @putL_len 5 (by omega)
  have h1 := putL_len he
  simp only [markL, List.length_append]
  omega
set_option maxRecDepth 100000 in
set_option maxHeartbeats 2000000 in
theorem xvote13_any (x : Vt) (hx : x.ok) (w : World) : Calls Tryz.prog 17 #[.agg x.cells.toArray] w fun e w' => e = .returned (.string (optS x.may (voteL x))) ∧ Below w.heap.size w w' := by
  have hB : Below w.heap.size w (w.alloc (.cells x.cells.toArray 28)) := (Below.refl _ _).alloc (Nat.le_refl _) _
  have hA := Vt.box w x
  have ix : (Tryz.prog.info? 28).map (·.size) = some x.cells.length := by rw [hx.len]; exact iszV
  have hb := build_vote x hx
  have cb := fun w => xenc0 _ _ _ w (plain_ok2 hx).len (voteL_len hx) (fun w => xgood2 x hx w) (xbytes2 hx)
  obtain ⟨n, hn⟩ := encV_opt x.may (voteL x)
  simp only [hn] at cb
  clear hx hn
  generalize optS x.may (voteL x) = sz at *
  generalize (Ms.plain 2 0 0 x zeros32).cells = q at *
  generalize x.cells = u at *
  go_enter Tryz.func17, Tryz.ntmps17
  go_upto_region 1 with fail
  go_name_world w1 hw1
  rw [show w.alloc (.cells u.toArray 28) = w1 from hw1] at hB hA
  clear hw1
  go_wp2_with (first | (refine wpList_load_mid rfl 28 _ rfl _ _ rfl u _ hA Tryz.underlying28 rfl ix ?_) | (refine wpList_build rfl 37 [(0, .const (.int .i64 2)), (6, .tmp 6)] rfl [(0, .int .i64 2), (6, .agg u.toArray)] _ rfl (hb _) ?_))
  refine (cb _).mono ?_
  rintro e2 w2 ⟨rfl, hb2⟩
  have hB2 := hB.trans (hb2.mono hB.size)
  clear hA cb hB hb2
  go_wp2
  go_ret
  exact ⟨rfl, hB2⟩
set_option maxRecDepth 100000 in
set_option maxHeartbeats 2000000 in
theorem xmark13_any (e : Int) (d : List Int) (he : e ≤ 9223372036854775807) (hd : d.length = 32) (hdb : ∀ z ∈ d, 0 ≤ z ∧ z < 256) (w : World) : Calls Tryz.prog 19 #[.int .i64 e, .agg (v8 d).toArray] w fun er w' => er = .returned (.string (optS (inB e 1048576) (markL e d))) ∧ Below w.heap.size w w' := by
  have hB : Below w.heap.size w (w.alloc (.cells (v8 d).toArray 26)) := (Below.refl _ _).alloc (Nat.le_refl _) _
  have hA := box_range w d 26
  have id : (Tryz.prog.info? 26).map (·.size) = some (v8 d).length := by rw [v8_length, hd]; exact iszD
  have hb := build_mark e d hd
  have cb := fun w => xenc0 _ _ _ w (Ms.plain_ok 5 e 0 Vt.zero_ok hd hdb).len (markL_len he hd) (fun w => xgood5 e d hd hdb w) (xbytes5 he hd hdb)
  obtain ⟨n, hn⟩ := encV_opt (inB e 1048576) (markL e d)
  simp only [hn] at cb
  clear hd hdb he hn
  generalize optS (inB e 1048576) (markL e d) = sz at *
  generalize (Ms.plain 5 e 0 Vt.zero d).cells = q at *
  generalize v8 d = u at *
  go_enter Tryz.func19, Tryz.ntmps19
  go_upto_region 1 with fail
  go_name_world w1 hw1
  rw [show w.alloc (.cells u.toArray 26) = w1 from hw1] at hB hA
  clear hw1
  go_wp2_with (first | (refine wpList_load_mid rfl 26 _ rfl _ _ rfl u _ hA Tryz.underlying26 rfl id ?_) | (refine wpList_build rfl 37 [(0, .const (.int .i64 5)), (1, .tmp 8), (9, .tmp 9)] rfl [(0, .int .i64 5), (1, .int .i64 e), (9, .agg u.toArray)] _ rfl (hb _) ?_))
  refine (cb _).mono ?_
  rintro e2 w2 ⟨rfl, hb2⟩
  have hB2 := hB.trans (hb2.mono hB.size)
  clear hA cb hB hb2
  go_wp2
  go_ret
  exact ⟨rfl, hB2⟩
end Go.Proofs.YtghgomglpgidoaaGreat
namespace Go.Proofs.YtghgomglpgidoaaGreat
open Go.RowKit
open Sha Tal
theorem row_mine {w : World} {a : Option Addr} {zs : List Int} (h : RowAt w a zs) (cap : Nat) : (convert 62 9 (.slice a zs.length cap)).run Tryz.prog w = .ok (.string (strOf zs)) w := by
  rcases h.2.2 with rfl | ⟨b, off, rfl, _, hr⟩
  · rw [List.length_nil, run_convert_bytes_string w 62 9 5 a 0 cap Tryz.underlying62 Tryz.underlying5 Tryz.underlying9]
    cases a <;> rfl
  · exact row_str hr
/-- a reader's block: its place holds some slice, it was made, its error is e -/
def RdE (w : World) (R : Nat) (e : Int) : Prop :=
  R < w.heap.size ∧ (∃ a n c, w.cell? ⟨R, 0, none⟩ = some (.slice a n c)) ∧ w.cell? ⟨R, 1, none⟩ = some (.bool true) ∧ w.cell? ⟨R, 2, none⟩ = some (.int .i64 e) ∧
  w.frozen? ⟨R, 0, none⟩ = false ∧ w.frozen? ⟨R, 1, none⟩ = false ∧ w.frozen? ⟨R, 2, none⟩ = false
/-- what is ahead of it -/
def Rest (w : World) (R : Nat) (rest : List Int) : Prop :=
  ∃ a cap, w.cell? ⟨R, 0, none⟩ = some (.slice a rest.length cap) ∧ rest.length ≤ cap ∧ cap ≤ maxLen ∧ RowAt w a rest ∧ ∀ x, a = some x → x.block < R
def St (w : World) (R : Nat) (rest : List Int) (e : Int) : Prop := RdE w R e ∧ (e = 0 → Rest w R rest)

theorem RdE.set0 {w : World} {R : Nat} {e : Int} (h : RdE w R e) (a : Option Addr) (n c : Nat) : RdE (w.setCell ⟨R, 0, none⟩ (.slice a n c)) R e := by
  obtain ⟨hR, ⟨a', n', c', h0⟩, h1, h2, f0, f1, f2⟩ := h
  refine ⟨by simpa [World.setCell] using hR, ⟨a, n, c, World.cell?_setCell_same _ _ _ h0⟩, (World.cell?_setCell_other _ _ _ _ (by simp)).trans h1, (World.cell?_setCell_other _ _ _ _ (by simp)).trans h2,
    (World.frozen?_setCell _ _ _ _).trans f0, (World.frozen?_setCell _ _ _ _).trans f1, (World.frozen?_setCell _ _ _ _).trans f2⟩
theorem RdE.set2 {w : World} {R : Nat} {e : Int} (h : RdE w R e) (e' : Int) : RdE (w.setCell ⟨R, 2, none⟩ (.int .i64 e')) R e' := by
  obtain ⟨hR, ⟨a', n', c', h0⟩, h1, h2, f0, f1, f2⟩ := h
  refine ⟨by simpa [World.setCell] using hR, ⟨a', n', c', (World.cell?_setCell_other _ _ _ _ (by simp)).trans h0⟩, (World.cell?_setCell_other _ _ _ _ (by simp)).trans h1, World.cell?_setCell_same _ _ _ h2,
    (World.frozen?_setCell _ _ _ _).trans f0, (World.frozen?_setCell _ _ _ _).trans f1, (World.frozen?_setCell _ _ _ _).trans f2⟩
theorem RowAt.get {w : World} {a : Option Addr} {zs : List Int} (h : RowAt w a zs) (k : Nat) (hk : k < zs.length) : ∃ b off, a = some ⟨b, off, none⟩ ∧ b < w.heap.size ∧ w.cell? ⟨b, off + k, none⟩ = some (.int .u8 (zs.getD k 0)) ∧ 0 ≤ zs.getD k 0 ∧ zs.getD k 0 < 256 := by
  rcases h.2.2 with rfl | ⟨b, off, rfl, hb, hr⟩
  · simp at hk
  · refine ⟨b, off, rfl, hb, get8 hr hk, ?_⟩
    rw [List.getD_eq_getElem?_getD, List.getElem?_eq_getElem hk]
    exact h.2.1 _ (List.getElem_mem hk)
theorem cutA_lt {a : Option Addr} {R cap n : Nat} (h : ∀ x, a = some x → x.block < R) : ∀ x, cutA a cap n = some x → x.block < R := by
  intro x hx
  unfold cutA at hx
  split at hx
  · exact h x hx
  · cases a with
    | none => simp at hx
    | some y =>
      simp only [Option.map_some, Option.some.injEq] at hx
      subst hx
      have := h y rfl
      unfold Addr.add
      split <;> exact this
theorem lt_ne {a : Option Addr} {R : Nat} (h : ∀ x, a = some x → x.block < R) : ∀ x, a = some x → x.block ≠ R := fun x hx => Nat.ne_of_lt (h x hx)
theorem err_made (R : Nat) (e : Int) (w : World) (h : RdE w R e) :
    Calls Tryz.prog 121 #[.pointer (some ⟨R, 0, none⟩)] w fun en w' => en = .returned (.int .i64 e) ∧ w' = w := by
  obtain ⟨hR, ⟨a, n, c, h0⟩, h1, h2, f0, f1, f2⟩ := h
  go_enter Tryz.func121, Tryz.ntmps121
  go_wp2
  go_ret
  exact ⟨rfl, rfl⟩
theorem left_any (R : Nat) (a : Option Addr) (n c : Nat) (w : World) (h0 : w.cell? ⟨R, 0, none⟩ = some (.slice a n c)) :
    Calls Tryz.prog 132 #[.pointer (some ⟨R, 0, none⟩)] w fun en w' => en = .returned (.int .i64 (n : Int)) ∧ w' = w := by
  go_enter Tryz.func132, Tryz.ntmps132
  go_wp2
  go_ret
  exact ⟨rfl, rfl⟩
set_option maxHeartbeats 400000 in
theorem take_any (R : Nat) (a : Option Addr) (n len c : Nat) (w : World) (h0 : w.cell? ⟨R, 0, none⟩ = some (.slice a len c)) (f0 : w.frozen? ⟨R, 0, none⟩ = false) (hn : n ≤ len) (hc : len ≤ c) (hm : c ≤ maxLen) :
    Calls Tryz.prog 140 #[.pointer (some ⟨R, 0, none⟩), .int .i64 (n : Int)] w fun en w' => en = .returned (.slice a n c) ∧ w' = w.setCell ⟨R, 0, none⟩ (.slice (cutA a c n) (len - n) (c - n)) := by
  unfold maxLen at hm
  by_cases h : c = n
  · subst h
    obtain rfl : len = c := by omega
    go_enter Tryz.func140, Tryz.ntmps140
    go_wp2
    go_ret
    exact ⟨rfl, by simp [cutA]⟩
  · go_enter Tryz.func140, Tryz.ntmps140
    go_wp2
    go_ret
    exact ⟨rfl, by simp [cutA, h]⟩
set_option maxHeartbeats 400000 in
theorem fail_any (R : Nat) (e0 e : Int) (w : World) (h : RdE w R e0) :
    Calls Tryz.prog 123 #[.pointer (some ⟨R, 0, none⟩), .int .i64 e] w fun en w' => en = .returned (.tuple #[]) ∧ RdE w' R e ∧ w.grownBy w' (some R) := by
  have hE := (h.set2 e).set0 none 0 0
  have hg := gb_trans (gb_set w R 2 (.int .i64 e)) (gb_set (w.setCell ⟨R, 2, none⟩ (.int .i64 e)) R 0 (.slice none 0 0))
  obtain ⟨hR, ⟨a, n, c, h0⟩, h1, h2, f0, f1, f2⟩ := h
  go_enter Tryz.func123, Tryz.ntmps123
  go_wp2
  go_end0
  exact ⟨rfl, hE, hg⟩

theorem val_bound (l : List Int) (h : ∀ z ∈ l, 0 ≤ z ∧ z < 256) : 0 ≤ val l ∧ val l < 256 ^ l.length := by
  have : ∀ k, k ≤ l.length → 0 ≤ val (l.take k) ∧ val (l.take k) < 256 ^ k := by
    intro k
    induction k with
    | zero => intro _; simp [val]
    | succ k ih =>
      intro hk
      have hlt : k < l.length := by omega
      obtain ⟨i1, i2⟩ := ih (by omega)
      have hz := h l[k] (List.getElem_mem hlt)
      rw [List.take_succ_eq_append_getElem hlt, val_snoc, Int.pow_succ]
      omega
  have := this l.length (Nat.le_refl _)
  rwa [List.take_length] at this
theorem val_take (l : List Int) (k : Nat) (h : k < l.length) : val (l.take (k + 1)) = val (l.take k) * 256 + l.getD k 0 := by
  rw [List.take_succ_eq_append_getElem h, val_snoc, List.getD_eq_getElem?_getD, List.getElem?_eq_getElem h]; rfl
theorem or_join (x d : Int) (h0 : 0 ≤ x) (h1 : x < 72057594037927936) (h2 : 0 ≤ d) (h3 : d < 256) : bits .or .u64 (x * 256) d = x * 256 + d := by
  obtain ⟨m, rfl⟩ := Int.eq_ofNat_of_zero_le h0
  obtain ⟨q, rfl⟩ := Int.eq_ofNat_of_zero_le h2
  have e : ((m : Int) * 256) = ((m * 256 : Nat) : Int) := by omega
  rw [e, u64_or_nat _ _ (by omega) (by omega), nat_join 8 _ _ (by omega) (by omega)]
  omega
/-- what value answers -/
def valR (ds : List Int) : Int × Int := if ds.head? = some 0 ∨ 9223372036854775807 < val ds then (0, 11) else (val ds, 0)
set_option maxHeartbeats 800000 in
theorem value_any (a : Option Addr) (cap : Nat) (ds : List Int) (w : World) (h : RowAt w a ds) (hl : ds.length ≤ 8) :
    Calls Tryz.prog 141 #[.slice a ds.length cap] w fun en w' => en = .returned (.tuple #[.int .i64 (valR ds).1, .int .i64 (valR ds).2]) ∧ w' = w := by
  by_cases hh : ds.head? = some 0
  · have HV : Hid (valR ds = (0, 11)) := by show _ = _; simp [valR, hh]
    obtain ⟨tl, rfl⟩ : ∃ tl, ds = 0 :: tl := by
      cases ds with
      | nil => simp at hh
      | cons x tl => simp at hh; exact ⟨tl, by rw [hh]⟩
    obtain ⟨b, off, rfl, hb, hc, _⟩ := h.get 0 (by simp)
    have hc' : w.cell? ⟨b, off, none⟩ = some (.int .u8 0) := by simpa using hc
    have hp : (0 : Int) < ((0 :: tl : List Int).length : Int) := by simp
    generalize (0 :: tl : List Int) = ds at *
    go_enter Tryz.func141, Tryz.ntmps141
    go_wp2
    go_ret2
    rw [HV.out]
    exact ⟨rfl, rfl⟩
  · have hz := h.2.1
    have hstart : ds = [] ∨ ∃ b off z, a = some ⟨b, off, none⟩ ∧ w.cell? ⟨b, off, none⟩ = some (.int .u8 z) ∧ (z == 0) = false ∧ 0 < ds.length := by
      cases ds with
      | nil => exact Or.inl rfl
      | cons x tl =>
        obtain ⟨b, off, rfl, hb, hc, _⟩ := h.get 0 (by simp)
        exact Or.inr ⟨b, off, x, rfl, by simpa using hc, by simpa using hh, by simp⟩
    have hval := val_bound ds hz
    rcases hstart with rfl | ⟨b, off, z0, rfl, hc0, hne, hpos⟩
    · go_enter Tryz.func141, Tryz.ntmps141
      go_wp2
      refine wp_loop_rounds 1 ?_
      rw [rounds_succ]
      go_wp2
      go_ret2
      exact ⟨rfl, rfl⟩
    · have hp : (0 : Int) < (ds.length : Int) := by omega
      have hc : ∀ j, j < ds.length → w.cell? ⟨b, off + j, none⟩ = some (.int .u8 (ds.getD j 0)) := by
        obtain ⟨_, _, hd | ⟨b', off', hx, _, hc⟩⟩ := h
        · rw [hd] at hpos; simp at hpos
        · simp only [Option.some.injEq, Addr.mk.injEq] at hx
          obtain ⟨rfl, rfl, _⟩ := hx
          exact fun j hj => get8 hc hj
      have HC : Hid (∀ j, j < ds.length → w.cell? ⟨b, off + j, none⟩ = some (.int .u8 (ds.getD j 0))) := hc
      have HR : Hid (valR ds = if 9223372036854775807 < val ds then (0, 11) else (val ds, 0)) := by show _ = _; simp [valR, hh]
      clear hc h hh
      go_enter Tryz.func141, Tryz.ntmps141
      go_wp2
      go_loop [4, 17] (fun n i => ∃ k : Nat, k ≤ ds.length ∧ i = .int .i64 k ∧ n = .int .u64 (val (ds.take k))) (fun _ i => ds.length - (intOf i).toNat)
      case atStart => exact ⟨0, by omega, rfl, rfl⟩
      case round =>
        obtain ⟨k, hk, rfl, rfl⟩ := hrel
        by_cases hlt : k < ds.length
        · obtain ⟨z, hcx, hz0, hz1, HV⟩ : ∃ z, w.cell? ⟨b, off + k, none⟩ = some (.int .u8 z) ∧ 0 ≤ z ∧ z < 256 ∧ Hid (val (ds.take (k + 1)) = val (ds.take k) * 256 + z) := by
            refine ⟨ds.getD k 0, HC.out k hlt, ?_, ?_, val_take ds k hlt⟩ <;> rw [List.getD_eq_getElem?_getD, List.getElem?_eq_getElem hlt]
            · exact (hz _ (List.getElem_mem hlt)).1
            · exact (hz _ (List.getElem_mem hlt)).2
          have hb7 : 0 ≤ val (ds.take k) ∧ val (ds.take k) < 72057594037927936 := by
            have := val_bound (ds.take k) (fun z hz' => hz z (List.mem_of_mem_take hz'))
            rw [List.length_take_of_le (by omega)] at this
            have h7 : 256 ^ k ≤ 72057594037927936 := Nat.le_trans (Nat.pow_le_pow_right (by omega) (show k ≤ 7 by omega)) (by decide)
            have e7 : ((256 ^ k : Nat) : Int) = (256 : Int) ^ k := Int.natCast_pow 256 k
            rw [← e7] at this
            omega
          obtain ⟨hx0, hx1⟩ := hb7
          have ej := or_join (val (ds.take k)) z hx0 hx1 hz0 hz1
          generalize val (ds.take k) = X at *
          go_wp2
          go_round
          case rel => exact ⟨k + 1, by omega, by go_num, by rw [HV.out]⟩
          case measure => simp [intOf]; omega
        · obtain rfl : k = ds.length := by omega
          rw [List.take_length]
          by_cases hbig : 9223372036854775807 < val ds
          · go_wp2
            go_ret2
            rw [HR.out, if_pos hbig]
            exact ⟨rfl, rfl⟩
          · go_wp2
            go_ret2
            rw [HR.out, if_neg (by omega)]
            exact ⟨rfl, rfl⟩
end Go.Proofs.YtghgomglpgidoaaGreat
namespace Go.Proofs.YtghgomglpgidoaaGreat
open Go.RowKit
open Sha Tal
/-- what stands at the beginning of bytes: the number, how many bytes it took, the error -/
def numR : List Int → Int × Nat × Int
  | [] => (0, 0, 10)
  | k :: tl => if 8 < k then (0, 0, 11) else if (tl.length : Int) < k then (0, 0, 10) else
      if (valR (tl.take k.toNat)).2 = 0 then ((valR (tl.take k.toNat)).1, 1 + k.toNat, 0) else (0, 0, (valR (tl.take k.toNat)).2)
theorem valR_err (ds : List Int) (h : (valR ds).2 ≠ 0) : valR ds = (0, 11) := by
  unfold valR at h ⊢
  split
  · rfl
  · rename_i hh; rw [if_neg hh] at h; exact absurd rfl h
theorem Rest.cell {w : World} {R : Nat} {rest : List Int} (h : Rest w R rest) : ∃ a cap, w.cell? ⟨R, 0, none⟩ = some (.slice a rest.length cap) ∧ rest.length ≤ cap ∧ cap ≤ maxLen ∧ RowAt w a rest ∧ ∀ x, a = some x → x.block < R := h
set_option maxHeartbeats 1600000 in
theorem number_any (R : Nat) (e0 : Int) (rest : List Int) (w : World) (hE : RdE w R e0) (hR : Rest w R rest) :
    Calls Tryz.prog 122 #[.pointer (some ⟨R, 0, none⟩)] w fun en w' => en = .returned (.tuple #[.int .i64 (numR rest).1, .int .i64 (numR rest).2.2]) ∧ RdE w' R e0 ∧ w.grownBy w' (some R) ∧ ((numR rest).2.2 = 0 → Rest w' R (rest.drop (numR rest).2.1)) := by
  obtain ⟨a, cap, h0, hc, hm, hrow, hlt⟩ := hR
  have hne := lt_ne hlt
  have f0 := hE.2.2.2.2.1
  cases rest with
  | nil =>
    have h0' : w.cell? ⟨R, 0, none⟩ = some (.slice a 0 cap) := h0
    go_enter Tryz.func122, Tryz.ntmps122
    go_wp2_with fail
    refine (left_any R a 0 cap w h0').mono ?_
    rintro e w1 ⟨rfl, rfl⟩
    go_wp2
    go_ret2
    exact ⟨rfl, hE, gb_refl _ _, fun h => by cases h⟩
  | cons k tl =>
    obtain ⟨b, off, rfl, hb, hcb, hk0, hk1⟩ := hrow.get 0 (by simp)
    have hk : (k :: tl).getD 0 0 = k := rfl
    rw [hk] at hcb hk0 hk1
    have hbR : b ≠ R := hne _ rfl
    have hcb1 : (w.setCell ⟨R, 0, none⟩ (.slice (cutA (some ⟨b, off, none⟩) cap 1) ((k :: tl).length - 1) (cap - 1))).cell? ⟨b, off, none⟩ = some (.int .u8 k) :=
      (World.cell?_setCell_other _ _ _ _ (by intro hx; injection hx with hx1; exact hbR hx1.symm)).trans (by simpa using hcb)
    have hE1 := hE.set0 (cutA (some ⟨b, off, none⟩) cap 1) ((k :: tl).length - 1) (cap - 1)
    have hg1 := gb_set w R 0 (.slice (cutA (some ⟨b, off, none⟩) cap 1) ((k :: tl).length - 1) (cap - 1))
    have hr1 := (hrow.drop 1 cap (by simp) hc).gb hg1 (.inr (cutA_ne hne))
    have h01 : (w.setCell ⟨R, 0, none⟩ (.slice (cutA (some ⟨b, off, none⟩) cap 1) ((k :: tl).length - 1) (cap - 1))).cell? ⟨R, 0, none⟩ = some (.slice (cutA (some ⟨b, off, none⟩) cap 1) ((k :: tl).length - 1) (cap - 1)) := World.cell?_setCell_same _ _ _ h0
    have hlen : (k :: tl).length - 1 = tl.length := by simp
    rw [hlen] at hE1 hg1 hr1 h01 hcb1
    generalize hW1 : w.setCell ⟨R, 0, none⟩ (.slice (cutA (some ⟨b, off, none⟩) cap 1) tl.length (cap - 1)) = W1 at *
    have c1 := take_any R (some ⟨b, off, none⟩) 1 (k :: tl).length cap w h0 f0 (by simp) hc hm
    rw [hlen, hW1] at c1
    have HW1 : Hid (w.setCell ⟨R, 0, none⟩ (.slice (cutA (some ⟨b, off, none⟩) cap 1) tl.length (cap - 1)) = W1) := hW1
    clear hW1
    have hpos : (((k :: tl).length : Int) == 0) = false := by simp; omega
    have hnm := cutA_ne (cap := cap) (n := 1) hne
    have hltm := cutA_lt (cap := cap) (n := 1) hlt
    generalize hA1 : cutA (some ⟨b, off, none⟩) cap 1 = A1 at *
    clear hA1
    have cl := left_any R (some ⟨b, off, none⟩) (k :: tl).length cap w h0
    go_enter Tryz.func122, Tryz.ntmps122
    go_wp2_with fail
    refine cl.mono ?_
    rintro e w1 ⟨rfl, rfl⟩
    clear cl
    go_wp2_with fail
    refine c1.mono ?_
    rintro e w2 ⟨rfl, rfl⟩
    clear c1
    by_cases hk8 : 8 < k
    · have HN : Hid (numR (k :: tl) = (0, 0, 11)) := by show _ = _; simp [numR, hk8]
      go_wp2_with fail
      go_ret2
      rw [HN.out]
      exact ⟨rfl, hE1, hg1, fun h => by cases h⟩
    · by_cases hkl : (tl.length : Int) < k
      · have HN : Hid (numR (k :: tl) = (0, 0, 10)) := by show _ = _; simp [numR, hk8, hkl]
        go_wp2_with fail
        refine (left_any R A1 tl.length (cap - 1) w2 h01).mono ?_
        rintro e w3 ⟨rfl, rfl⟩
        go_wp2_with fail
        go_ret2
        rw [HN.out]
        exact ⟨rfl, hE1, hg1, fun h => by cases h⟩
      · obtain ⟨q, hqk⟩ : ∃ q : Nat, k.toNat = q := ⟨_, rfl⟩
        have hkq : (q : Int) = k := by omega
        have hq : q ≤ tl.length := by omega
        have hcl : tl.length ≤ cap - 1 := by simp at hc; omega
        have c2 := take_any R A1 q tl.length (cap - 1) w2 h01 hE1.2.2.2.2.1 hq hcl (by omega)
        rw [hkq] at c2
        have hE2 := hE1.set0 (cutA A1 (cap - 1) q) (tl.length - q) (cap - 1 - q)
        have hg2 := gb_set w2 R 0 (.slice (cutA A1 (cap - 1) q) (tl.length - q) (cap - 1 - q))
        have hr1' : RowAt w2 A1 tl := by simpa using hr1
        have hr2 := (hr1'.take q).gb hg2 (.inr hnm)
        have hr3 := (hr1'.drop q (cap - 1) hq hcl)
        have h02 : (w2.setCell ⟨R, 0, none⟩ (.slice (cutA A1 (cap - 1) q) (tl.length - q) (cap - 1 - q))).cell? ⟨R, 0, none⟩ = some (.slice (cutA A1 (cap - 1) q) (tl.length - q) (cap - 1 - q)) := World.cell?_setCell_same _ _ _ h01
        have hRest : Rest (w2.setCell ⟨R, 0, none⟩ (.slice (cutA A1 (cap - 1) q) (tl.length - q) (cap - 1 - q))) R (tl.drop q) := by
          refine ⟨cutA A1 (cap - 1) q, cap - 1 - q, by rw [List.length_drop]; exact h02, by rw [List.length_drop]; omega, by omega, ?_, ?_⟩
          · exact hr3.gb hg2 (.inr (cutA_ne hnm))
          · exact cutA_lt hltm
        generalize w2.setCell ⟨R, 0, none⟩ (.slice (cutA A1 (cap - 1) q) (tl.length - q) (cap - 1 - q)) = W2 at *
        have hqt : (tl.take q).length = q := List.length_take_of_le hq
        have c3 := value_any A1 (cap - 1) (tl.take q) W2 hr2 (by omega)
        rw [hqt] at c3
        have HN : Hid (numR (k :: tl) = if (valR (tl.take q)).2 = 0 then ((valR (tl.take q)).1, 1 + q, 0) else (0, 0, (valR (tl.take q)).2)) := by
          show _ = _
          simp only [numR, if_neg hk8, if_neg hkl, hqk]
        clear hr1 hr2 hr3 hqt hqk hkq
        go_wp2_with fail
        refine (left_any R A1 tl.length (cap - 1) w2 h01).mono ?_
        rintro e w3 ⟨rfl, rfl⟩
        go_wp2_with fail
        refine c2.mono ?_
        rintro e w4 ⟨rfl, rfl⟩
        clear c2
        go_wp2_with fail
        refine c3.mono ?_
        rintro e w5 ⟨rfl, rfl⟩
        clear c3
        go_wp2_with fail
        go_ret2
        refine ⟨?_, hE2, gb_trans hg1 hg2, ?_⟩
        · rw [HN.out]
          by_cases hv : (valR (tl.take q)).2 = 0
          · rw [if_pos hv, hv]; exact rfl
          · rw [if_neg hv, valR_err _ hv]; exact rfl
        · rw [HN.out]
          by_cases hv : (valR (tl.take q)).2 = 0
          · rw [if_pos hv]; intro _; rw [Nat.add_comm]; exact hRest
          · rw [if_neg hv]; intro h; exact absurd h hv
end Go.Proofs.YtghgomglpgidoaaGreat
namespace Go.Proofs.YtghgomglpgidoaaGreat
open Go.RowKit
open Sha Tal
/-- what Num answers, what is ahead then, the error then -/
def numS (rest : List Int) (e most : Int) : Int × List Int × Int :=
  if e = 0 then
    if (numR rest).2.2 = 0 then
      if most < (numR rest).1 then (0, rest, 3) else ((numR rest).1, rest.drop (numR rest).2.1, 0)
    else (0, rest, (numR rest).2.2)
  else (0, rest, e)
set_option maxHeartbeats 1600000 in
theorem num_any (R : Nat) (rest : List Int) (e most : Int) (w : World) (h : St w R rest e) :
    Calls Tryz.prog 85 #[.pointer (some ⟨R, 0, none⟩), .int .i64 most] w fun en w' => en = .returned (.int .i64 (numS rest e most).1) ∧ St w' R (numS rest e most).2.1 (numS rest e most).2.2 ∧ w.grownBy w' (some R) := by
  obtain ⟨hE, hR⟩ := h
  by_cases he : e = 0
  · subst he
    have hR := hR rfl
    have cn := number_any R 0 rest w hE hR
    have HS : Hid (numS rest 0 most = if (numR rest).2.2 = 0 then (if most < (numR rest).1 then (0, rest, 3) else ((numR rest).1, rest.drop (numR rest).2.1, 0)) else (0, rest, (numR rest).2.2)) := by show _ = _; simp [numS]
    generalize (numR rest).1 = v at *
    generalize (numR rest).2.1 = c at *
    generalize (numR rest).2.2 = er at *
    by_cases her : er = 0
    · subst her
      rw [if_pos rfl] at HS
      by_cases hmost : most < v
      · rw [if_pos hmost] at HS
        go_enter Tryz.func85, Tryz.ntmps85
        go_wp2_with fail
        refine (err_made R 0 w hE).mono ?_
        rintro e w1 ⟨rfl, rfl⟩
        go_wp2_with fail
        refine cn.mono ?_
        rintro e w2 ⟨rfl, hE2, hg2, hR2⟩
        go_wp2_with fail
        refine (fail_any R 0 3 w2 hE2).mono ?_
        rintro e w3 ⟨rfl, hE3, hg3⟩
        go_wp2_with fail
        go_ret
        rw [HS.out]
        exact ⟨rfl, ⟨hE3, fun h => by cases h⟩, gb_trans hg2 hg3⟩
      · rw [if_neg hmost] at HS
        go_enter Tryz.func85, Tryz.ntmps85
        go_wp2_with fail
        refine (err_made R 0 w hE).mono ?_
        rintro e w1 ⟨rfl, rfl⟩
        go_wp2_with fail
        refine cn.mono ?_
        rintro e w2 ⟨rfl, hE2, hg2, hR2⟩
        have hR3 := hR2 (by trivial)
        clear hR2 cn
        go_wp2_with fail
        go_ret
        rw [HS.out]
        exact ⟨rfl, ⟨hE2, fun _ => hR3⟩, hg2⟩
    · have her' : (er == 0) = false := by simpa using her
      rw [if_neg her] at HS
      go_enter Tryz.func85, Tryz.ntmps85
      go_wp2_with fail
      refine (err_made R 0 w hE).mono ?_
      rintro e w1 ⟨rfl, rfl⟩
      go_wp2_with fail
      refine cn.mono ?_
      rintro e w2 ⟨rfl, hE2, hg2, hR2⟩
      clear hR2 cn
      go_wp2_with fail
      refine (fail_any R 0 er w2 hE2).mono ?_
      rintro e w3 ⟨rfl, hE3, hg3⟩
      go_wp2_with fail
      go_ret
      rw [HS.out]
      exact ⟨rfl, ⟨hE3, fun h => absurd h her⟩, gb_trans hg2 hg3⟩
  · have HS : Hid (numS rest e most = (0, rest, e)) := by show _ = _; simp [numS, he]
    have he' : (e == 0) = false := by simpa using he
    go_enter Tryz.func85, Tryz.ntmps85
    go_wp2_with fail
    refine (err_made R e w hE).mono ?_
    rintro en w1 ⟨rfl, rfl⟩
    go_wp2_with fail
    go_ret
    rw [HS.out]
    exact ⟨rfl, ⟨hE, fun h => absurd h he⟩, gb_refl _ _⟩
end Go.Proofs.YtghgomglpgidoaaGreat
