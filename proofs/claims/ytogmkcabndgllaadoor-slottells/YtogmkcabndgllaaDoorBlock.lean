/- the document's block: one more block goes through the rounds -/
import Derived.Test.YtogmkcabndgllaaDoorRefLeaf
import Derived.Test.YtogmkcabndgllaaDoorHeld
import Derived.Test.YtogmkcabndgllaaDoorAdd
namespace Go.Proofs.YtogmkcabndgllaaDoor
open Go.RowKit
open Sha
/-- the memory of the call: the box of the words so far, the result's, the array of the rounds' words -/
structure Bk (w wr : World) (cs : List Value) (xs : List Wd) : Prop where
  bel : Below w.heap.size w wr
  box : wr.rangeAt w.heap.size 0 cs
  tb : wr.there w.heap.size 0 8
  tr : wr.there (w.heap.size + 1) 0 8
  arr : wr.rangeAt (w.heap.size + 2) 0 (v32 xs)
  ta : wr.there (w.heap.size + 2) 0 64
  sz : w.heap.size + 3 ≤ wr.heap.size
theorem Bk.drewN {w wr : World} {cs : List Value} {xs : List Wd} (h : Bk w wr cs xs) (n : Nat) : Bk w (wr.drewN n) cs xs :=
  ⟨⟨h.bel.os, h.bel.tape, h.bel.output, h.bel.size, h.bel.block⟩, range_drewN h.box, there_drewN h.tb, there_drewN h.tr, range_drewN h.arr, there_drewN h.ta, h.sz⟩
theorem Bk.set {w wr : World} {cs : List Value} {xs : List Wd} (h : Bk w wr cs xs) (_hc : cs.length = 8) (i : Nat) (x : Wd) : Bk w (wr.setCell ⟨w.heap.size + 2, i, none⟩ (.int .u32 (x.toNat : Int))) cs (xs.set i x) := by
  refine ⟨h.bel.setCell (p := ⟨w.heap.size + 2, i, none⟩) (by simp) _, range_other h.box _ _ (fun e => absurd e (by simp)), there_set h.tb _ _, there_set h.tr _ _, ?_, there_set h.ta _ _, by simpa using h.sz⟩
  have := range_set h.arr i (.int .u32 (x.toNat : Int))
  rw [Nat.zero_add, v32_set] at this
  exact this
theorem Bk.below {w wr wx : World} {cs : List Value} {xs : List Wd} (h : Bk w wr cs xs) (hb : Below wr.heap.size wr wx) : Bk w wx cs xs := by
  have := h.sz
  exact ⟨h.bel.trans (hb.mono h.bel.size), range_below h.box hb (by omega), there_below h.tb hb (by omega), there_below h.tr hb (by omega), range_below h.arr hb (by omega), there_below h.ta hb (by omega), Nat.le_trans h.sz hb.size⟩
theorem wadd32 (x y : Wd) : IntKind.u32.wrap ((x.toNat : Int) + (y.toNat : Int)) = ((x + y).toNat : Int) := by rw [IntKind.wrap_u32]; exact add32 x y
/-- the table's number, under a name of its own -/
def k' (t : Nat) : Wd := k t
theorem constant_any' (t : Nat) (ht : t < 64) (w : World) : Calls Tryd.prog 48 #[.int .i64 (t : Int)] w fun e w' => e = .returned (.int .u32 ((k' t).toNat : Int)) ∧ Below w.heap.size w w' := constant_any t ht w
theorem isz51' : (Tryd.prog.info? 87).map (·.size) = some 8 := by kernel_rfl
theorem not32' (x : Wd) : bits .xor .u32 (if IntKind.u32.signed = true then -1 else IntKind.u32.max) (x.toNat : Int) = ((~~~ x).toNat : Int) := by
  have hm : (if IntKind.u32.signed = true then -1 else IntKind.u32.max) = IntKind.u32.max := by decide
  rw [hm]; exact not32 x
theorem new8 (w : World) : (w.alloc (.cells (Array.replicate 8 (.int .u32 0)) 87)).there w.heap.size 0 8 := by
  have := there_new w (Array.replicate 8 (.int .u32 0)) 87
  simpa using this
theorem bk_new (w : World) (cs : List Value) (hc : cs.length = 8) : Bk w (((w.alloc (.cells cs.toArray 87)).alloc (.cells (Array.replicate 8 (.int .u32 0)) 87)).alloc (.cells (Array.replicate 64 (.int .u32 0)) 102)) cs (List.replicate 64 (0 : Wd)) := by
  have hR := range_new w cs.toArray 87
  have hT := there_new w cs.toArray 87
  have e1 : (w.alloc (.cells cs.toArray 87)).heap.size = w.heap.size + 1 := by simp
  have e2 : ((w.alloc (.cells cs.toArray 87)).alloc (.cells (Array.replicate 8 (.int .u32 0)) 87)).heap.size = w.heap.size + 2 := by simp
  have hN := new8 (w.alloc (.cells cs.toArray 87))
  have hZ := rng_zero ((w.alloc (.cells cs.toArray 87)).alloc (.cells (Array.replicate 8 (.int .u32 0)) 87))
  have hY := thr_zero ((w.alloc (.cells cs.toArray 87)).alloc (.cells (Array.replicate 8 (.int .u32 0)) 87))
  rw [e1] at hN
  rw [e2] at hZ hY
  have hT : (w.alloc (.cells cs.toArray 87)).there w.heap.size 0 8 := fun j hj => hT j (by simpa [hc] using hj)
  refine ⟨(((Below.refl _ _).alloc (Nat.le_refl _) _).alloc (by simp) _).alloc (by simp; omega) _, World.rangeAt_alloc (World.rangeAt_alloc (by simpa using hR) _) _, World.there_alloc (World.there_alloc hT _) _, World.there_alloc hN _, hZ, hY, by simp⟩
theorem Bk.past {w wr : World} {cs : List Value} {xs : List Wd} (h : Bk w wr cs xs) {D : Nat} (hD : w.heap.size + 3 ≤ D) (vs : List Value) : Bk w (wr.setCells D 0 vs) cs xs :=
  ⟨below_sets (by omega) _ _ _ h.bel, World.rangeAt_setCells_apart h.box _ _ _ (Or.inl (by omega)), World.there_setCells h.tb _ _ _, World.there_setCells h.tr _ _ _, World.rangeAt_setCells_apart h.arr _ _ _ (Or.inl (by omega)), World.there_setCells h.ta _ _ _, by rw [size_sets]; exact h.sz⟩
theorem mix_step2 {wr : World} {B V : Nat} (s : St) (a b c d e f g h : Wd) (j : Nat) (hj : j < 8) (hR : wr.rangeAt B 0 (v32 (mix s ⟨a, b, c, d, e, f, g, h⟩ j))) (hV : wr.rangeAt V 0 (v32 (list ⟨a, b, c, d, e, f, g, h⟩))) :
    ∃ x y : Wd, wr.cell? ⟨V, j, none⟩ = some (.int .u32 (x.toNat : Int)) ∧ wr.cell? ⟨B, j, none⟩ = some (.int .u32 (y.toNat : Int)) ∧ Hid ((mix s ⟨a, b, c, d, e, f, g, h⟩ j).set j (y + x) = mix s ⟨a, b, c, d, e, f, g, h⟩ (j + 1)) := by
  match j, hj with
  | 0, _ => exact ⟨a, s.a, by simpa using hV 0 _ rfl, by simpa using hR 0 _ rfl, rfl⟩
  | 1, _ => exact ⟨b, s.b, by simpa using hV 1 _ rfl, by simpa using hR 1 _ rfl, rfl⟩
  | 2, _ => exact ⟨c, s.c, by simpa using hV 2 _ rfl, by simpa using hR 2 _ rfl, rfl⟩
  | 3, _ => exact ⟨d, s.d, by simpa using hV 3 _ rfl, by simpa using hR 3 _ rfl, rfl⟩
  | 4, _ => exact ⟨e, s.e, by simpa using hV 4 _ rfl, by simpa using hR 4 _ rfl, rfl⟩
  | 5, _ => exact ⟨f, s.f, by simpa using hV 5 _ rfl, by simpa using hR 5 _ rfl, rfl⟩
  | 6, _ => exact ⟨g, s.g, by simpa using hV 6 _ rfl, by simpa using hR 6 _ rfl, rfl⟩
  | 7, _ => exact ⟨h, s.h, by simpa using hV 7 _ rfl, by simpa using hR 7 _ rfl, rfl⟩
set_option maxRecDepth 20000 in
set_option maxHeartbeats 8000000 in
theorem block_ws (s : St) (b off cap : Nat) (bs : List Int) (ws : List Wd) (w : World) (n48 : Nat) (_h48 : Hid (n48 = 48)) (hws : Hid (exts n48 (words bs 16) = ws)) (hlen : bs.length = 64) (hb : ∀ z ∈ bs, 0 ≤ z ∧ z < 256) (hB : b < w.heap.size) (hc : w.rangeAt b off (v8 bs)) :
   Calls Tryd.prog 38 #[.agg (v32 (list s)).toArray, .slice (some ⟨b, off, none⟩) 64 cap] w fun e w' => e = .returned (.agg (v32 (list (plus s (rounds ws 64 s)))).toArray) ∧ Below w.heap.size w w' := by
  obtain ⟨cs, hcs0⟩ : ∃ cs, Hid (v32 (list s) = cs) := ⟨_, rfl⟩
  have hl8 : cs.length = 8 := by rw [← hcs0.out]; rfl
  have h1c : ∀ v ∈ cs, v.oneCell' = true := by rw [← hcs0.out]; exact v32_one _
  have hN := bk_new w cs hl8
  rw [hcs0.out]
  go_enter Tryd.func38, Tryd.ntmps38
  go_upto_region 2 with fail
  go_name_world w1 hw1
  rw [show ((w.alloc (.cells cs.toArray 87)).alloc (.cells (Array.replicate 8 (.int .u32 0)) 87)).alloc (.cells (Array.replicate 64 (.int .u32 0)) 102) = w1 from hw1] at hN
  have hz1 : w1.heap.size = w.heap.size + 3 := by rw [← hw1]; simp
  clear hw1
  have HL8 : Hid (cs.length = 8) := hl8
  clear hl8
  simp only [Nat.add_assoc, Nat.reduceAdd]
  go_wp2
  go_loopw [6] (fun i wr => ∃ k : Nat, k ≤ 16 ∧ i = .int .i64 (k : Int) ∧ Bk w wr cs (words bs k ++ List.replicate (64 - k) (0 : Wd)) ∧ wr.heap.size = w.heap.size + 3) (fun i _ => 16 - (intOf i).toNat)
  case atStart => exact ⟨0, by omega, rfl, hN, hz1⟩
  case round =>
    clear hN hz1
    obtain ⟨k, hk, rfl, hK, hzr⟩ := hrel
    by_cases hlt : k < 16
    · have hcr := range_below hc hK.bel hB
      have b0 := byte_ok hb (4 * k)
      have b1 := byte_ok hb (4 * k + 1)
      have b2 := byte_ok hb (4 * k + 2)
      have b3 := byte_ok hb (4 * k + 3)
      have g0 := get8 hcr (i := 4 * k) (by omega)
      have g1 := get8 hcr (i := 4 * k + 1) (by omega)
      have g2 := get8 hcr (i := 4 * k + 2) (by omega)
      have g3 := get8 hcr (i := 4 * k + 3) (by omega)
      have hor := or_word _ _ _ _ b0 b1 b2 b3
      obtain ⟨x, hx⟩ : ∃ x, Hid (wordAt bs k = x) := ⟨_, rfl⟩
      have hx' : word (bs.getD (4 * k) 0) (bs.getD (4 * k + 1) 0) (bs.getD (4 * k + 2) 0) (bs.getD (4 * k + 3) 0) = x := hx.out
      rw [hx'] at hor
      generalize bs.getD (4 * k) 0 = c0 at *
      generalize bs.getD (4 * k + 1) 0 = c1 at *
      generalize bs.getD (4 * k + 2) 0 = c2 at *
      generalize bs.getD (4 * k + 3) 0 = c3 at *
      obtain ⟨u, hu⟩ := Option.isSome_iff_exists.1 (hK.ta k (by omega)).1
      have hf := (hK.ta k (by omega)).2
      rw [Nat.zero_add] at hu hf
      clear hcr hx'
      go_wp2_with fail
      go_region
      go_wp2_with fail
      go_roundw
      case rel =>
        refine ⟨k + 1, by omega, by go_num, ?_, by simpa using hzr⟩
        have := (hK.set HL8.out k x).drewN 1
        have e1 := set_fill (words bs k) (64 - k) x (by omega)
        rw [words_length] at e1
        rw [e1] at this
        rw [words_succ, hx.out]
        exact this
      case measure => simp [intOf]; omega
    · obtain rfl : k = 16 := by omega
      go_wp2
      go_loopw [7] (fun i wr => ∃ k m : Nat, k ≤ 48 ∧ m = 16 + k ∧ i = .int .i64 (m : Int) ∧ Bk w wr cs (exts k (words bs 16) ++ List.replicate (48 - k) (0 : Wd)) ∧ wr.heap.size = w.heap.size + 3) (fun i _ => 64 - (intOf i).toNat)
      case atStart => exact ⟨0, 16, by omega, rfl, rfl, hK, hzr⟩
      case round =>
        clear hK hzr
        obtain ⟨k, m, hk, hm, rfl, hK, hzr⟩ := hrel
        by_cases hlt : k < 48
        · have hl : (exts k (words bs 16)).length = m := by rw [exts_length, words_length, hm]
          have gt : ∀ j, j < m → wr.cell? ⟨w.heap.size + 2, j, none⟩ = some (.int .u32 (((exts k (words bs 16)).getD j 0).toNat : Int)) := fun j hj => by
            have := get32 hK.arr (i := j) (by simp [hl]; omega)
            rw [Nat.zero_add, getD_left _ _ _ (by omega)] at this; exact this
          have g15 := gt (m - 15) (by omega)
          have g2 := gt (m - 2) (by omega)
          have g16 := gt (m - 16) (by omega)
          have g7 := gt (m - 7) (by omega)
          obtain ⟨x, hx⟩ : ∃ x, Hid (nxt (exts k (words bs 16)) = x) := ⟨_, rfl⟩
          have hn : Hid ((exts k (words bs 16)).getD (m - 16) 0 + s0 ((exts k (words bs 16)).getD (m - 15) 0) + (exts k (words bs 16)).getD (m - 7) 0 + s1 ((exts k (words bs 16)).getD (m - 2) 0) = x) := by
            have := hx.out; unfold nxt at this; rw [hl] at this; exact this
          generalize (exts k (words bs 16)).getD (m - 15) 0 = y15 at g15 hn
          generalize (exts k (words bs 16)).getD (m - 2) 0 = y2 at g2 hn
          generalize (exts k (words bs 16)).getD (m - 16) 0 = y16 at g16 hn
          generalize (exts k (words bs 16)).getD (m - 7) 0 = y7 at g7 hn
          obtain ⟨u, hu⟩ := Option.isSome_iff_exists.1 (hK.ta m (by omega)).1
          have hf := (hK.ta m (by omega)).2
          rw [Nat.zero_add] at hu hf
          have hm1 : 16 ≤ m := by omega
          have hm2 : m < 64 := by omega
          have HM : Hid (m = 16 + k) := hm
          have HL : Hid ((exts k (words bs 16)).length = m) := hl
          have E0 := s0_bits y15
          have E1 := s1_bits y2
          have EA := wadd32 y16 (s0 y15)
          have EB := wadd32 (y16 + s0 y15) y7
          have EC := wadd32 (y16 + s0 y15 + y7) (s1 y2)
          rw [hn.out] at EC
          generalize y16 + s0 y15 + y7 = p2 at EB EC
          generalize y16 + s0 y15 = p1 at EA EB
          generalize s0 y15 = q0 at E0 EA
          generalize s1 y2 = q1 at E1 EC
          obtain ⟨n16, hn16⟩ : ∃ n16, n16 = m - 16 := ⟨_, rfl⟩
          obtain ⟨n7, hn7⟩ : ∃ n7, n7 = m - 7 := ⟨_, rfl⟩
          have W16 : IntKind.i64.wrap ((m : Int) - 16) = (n16 : Int) := by rw [IntKind.wrap_i64]; omega
          have W7 : IntKind.i64.wrap ((m : Int) - 7) = (n7 : Int) := by rw [IntKind.wrap_i64]; omega
          rw [← hn16] at g16
          rw [← hn7] at g7
          have l16 : n16 < m := by omega
          have l7 : n7 < m := by omega
          have i16 : (n16 : Int) < 64 := by omega
          have i7 : (n7 : Int) < 64 := by omega
          have im : (m : Int) < 64 := by omega
          have HN16 : Hid (n16 = m - 16) := hn16
          have HN7 : Hid (n7 = m - 7) := hn7
          clear gt hm hl hn16 hn7
          let SX : World → Prop := fun w' => w'.cell? ⟨w.heap.size + 2, n16, none⟩ = some (.int .u32 (y16.toNat : Int)) ∧ w'.cell? ⟨w.heap.size + 2, n7, none⟩ = some (.int .u32 (y7.toNat : Int))
          go_wp2_with fail
          refine hs_begin (S := SX) 30 rfl (by kernel_rfl) ?_
          have hS : SX _ := ⟨by simpa using g16, by simpa using g7⟩
          refine hs_take (i := 0) (d := some 68) (v := ?_) rfl (by kernel_rfl) (by kernel_rfl) (by kernel_rfl) (by rfl) ?_ hS rfl ?_
          rotate_left
          · intro w' hw
            obtain ⟨f16, f7⟩ := hw
            go_simp
            try with_reducible rfl
          simp only [Act.put, List.setIfInBounds_toArray, List.set_cons_zero, List.set_cons_succ]
          refine hs_take (i := 1) (d := some 69) (v := ?_) rfl (by kernel_rfl) (by kernel_rfl) (by kernel_rfl) (by rfl) ?_ hS rfl ?_
          rotate_left
          · intro w' hw
            obtain ⟨f16, f7⟩ := hw
            go_simp
            try with_reducible rfl
          simp only [Act.put, List.setIfInBounds_toArray, List.set_cons_zero, List.set_cons_succ]
          refine hs_take (i := 5) (d := some 73) (v := ?_) rfl (by kernel_rfl) (by kernel_rfl) (by kernel_rfl) (by rfl) ?_ hS rfl ?_
          rotate_left
          · intro w' hw
            obtain ⟨f16, f7⟩ := hw
            go_simp
            try with_reducible rfl
          simp only [Act.put, List.setIfInBounds_toArray, List.set_cons_zero, List.set_cons_succ]
          refine hs_take (i := 7) (d := some 75) (v := ?_) rfl (by kernel_rfl) (by kernel_rfl) (by kernel_rfl) (by rfl) ?_ hS rfl ?_
          rotate_left
          · intro w' hw
            obtain ⟨f16, f7⟩ := hw
            go_simp
            try with_reducible rfl
          simp only [Act.put, List.setIfInBounds_toArray, List.set_cons_zero, List.set_cons_succ]
          refine hs_take (i := 10) (d := some 78) (v := ?_) rfl (by kernel_rfl) (by kernel_rfl) (by kernel_rfl) (by rfl) ?_ hS rfl ?_
          rotate_left
          · intro w' hw
            obtain ⟨f16, f7⟩ := hw
            go_simp
            try with_reducible rfl
          simp only [Act.put, List.setIfInBounds_toArray, List.set_cons_zero, List.set_cons_succ]
          refine hs_take (i := 14) (d := some 82) (v := ?_) rfl (by kernel_rfl) (by kernel_rfl) (by kernel_rfl) (by rfl) ?_ hS rfl ?_
          rotate_left
          · intro w' hw
            obtain ⟨f16, f7⟩ := hw
            go_simp
            try with_reducible rfl
          simp only [Act.put, List.setIfInBounds_toArray, List.set_cons_zero, List.set_cons_succ]
          refine hs_take (i := 19) (d := some 87) (v := ?_) rfl (by kernel_rfl) (by kernel_rfl) (by kernel_rfl) (by rfl) ?_ hS rfl ?_
          rotate_left
          · intro w' hw
            obtain ⟨f16, f7⟩ := hw
            go_simp
            try with_reducible rfl
          simp only [Act.put, List.setIfInBounds_toArray, List.set_cons_zero, List.set_cons_succ]
          refine hs_take (i := 21) (d := some 89) (v := ?_) rfl (by kernel_rfl) (by kernel_rfl) (by kernel_rfl) (by rfl) ?_ hS rfl ?_
          rotate_left
          · intro w' hw
            obtain ⟨f16, f7⟩ := hw
            go_simp
            try with_reducible rfl
          simp only [Act.put, List.setIfInBounds_toArray, List.set_cons_zero, List.set_cons_succ]
          refine hs_take (i := 24) (d := some 92) (v := ?_) rfl (by kernel_rfl) (by kernel_rfl) (by kernel_rfl) (by rfl) ?_ hS rfl ?_
          rotate_left
          · intro w' hw
            obtain ⟨f16, f7⟩ := hw
            go_simp
            try with_reducible rfl
          simp only [Act.put, List.setIfInBounds_toArray, List.set_cons_zero, List.set_cons_succ]
          refine hs_take (i := 2) (d := some 70) (v := ?_) rfl (by kernel_rfl) (by kernel_rfl) (by kernel_rfl) (by rfl) ?_ hS rfl ?_
          rotate_left
          · intro w' hw
            obtain ⟨f16, f7⟩ := hw
            go_simp
            try with_reducible rfl
          simp only [Act.put, List.setIfInBounds_toArray, List.set_cons_zero, List.set_cons_succ]
          refine hs_take (i := 11) (d := some 79) (v := ?_) rfl (by kernel_rfl) (by kernel_rfl) (by kernel_rfl) (by rfl) ?_ hS rfl ?_
          rotate_left
          · intro w' hw
            obtain ⟨f16, f7⟩ := hw
            go_simp
            try with_reducible rfl
          simp only [Act.put, List.setIfInBounds_toArray, List.set_cons_zero, List.set_cons_succ]
          refine hs_take (i := 15) (d := some 83) (v := ?_) rfl (by kernel_rfl) (by kernel_rfl) (by kernel_rfl) (by rfl) ?_ hS rfl ?_
          rotate_left
          · intro w' hw
            obtain ⟨f16, f7⟩ := hw
            go_simp
            try with_reducible rfl
          simp only [Act.put, List.setIfInBounds_toArray, List.set_cons_zero, List.set_cons_succ]
          refine hs_take (i := 25) (d := some 93) (v := ?_) rfl (by kernel_rfl) (by kernel_rfl) (by kernel_rfl) (by rfl) ?_ hS rfl ?_
          rotate_left
          · intro w' hw
            obtain ⟨f16, f7⟩ := hw
            go_simp
            try with_reducible rfl
          simp only [Act.put, List.setIfInBounds_toArray, List.set_cons_zero, List.set_cons_succ]
          refine hs_take (i := 3) (d := some 71) (v := ?_) rfl (by kernel_rfl) (by kernel_rfl) (by kernel_rfl) (by rfl) ?_ hS rfl ?_
          rotate_left
          · intro w' hw
            obtain ⟨f16, f7⟩ := hw
            go_simp
            try with_reducible rfl
          simp only [Act.put, List.setIfInBounds_toArray, List.set_cons_zero, List.set_cons_succ]
          refine hs_take (i := 16) (d := some 84) (v := ?_) rfl (by kernel_rfl) (by kernel_rfl) (by kernel_rfl) (by rfl) ?_ hS rfl ?_
          rotate_left
          · intro w' hw
            obtain ⟨f16, f7⟩ := hw
            go_simp
            try with_reducible rfl
          simp only [Act.put, List.setIfInBounds_toArray, List.set_cons_zero, List.set_cons_succ]
          refine hs_take (i := 4) (d := some 72) (v := ?_) rfl (by kernel_rfl) (by kernel_rfl) (by kernel_rfl) (by rfl) ?_ hS rfl ?_
          rotate_left
          · intro w' hw
            obtain ⟨f16, f7⟩ := hw
            go_simp
            try with_reducible rfl
          simp only [Act.put, List.setIfInBounds_toArray, List.set_cons_zero, List.set_cons_succ]
          refine hs_take (i := 17) (d := some 85) (v := ?_) rfl (by kernel_rfl) (by kernel_rfl) (by kernel_rfl) (by rfl) ?_ hS rfl ?_
          rotate_left
          · intro w' hw
            obtain ⟨f16, f7⟩ := hw
            go_simp
            try with_reducible rfl
          simp only [Act.put, List.setIfInBounds_toArray, List.set_cons_zero, List.set_cons_succ]
          refine hs_call (i := 6) (d := some 74) rfl (by kernel_rfl) (by rfl) (by go_simp; first | done | exact ⟨rfl, rfl⟩ | with_reducible rfl) rfl ?_
          refine (refror_any y15 7 7 rfl (by decide) (by decide) _).mono ?_
          rintro e' wn ⟨rfl, rfl⟩
          have hS : SX _ := ⟨by simpa using hS.1, by simpa using hS.2⟩
          refine ⟨_, rfl, hS, ?_⟩
          simp only [Act.put, List.setIfInBounds_toArray, List.set_cons_zero, List.set_cons_succ]
          refine hs_call (i := 8) (d := some 76) rfl (by kernel_rfl) (by rfl) (by go_simp; first | done | exact ⟨rfl, rfl⟩ | with_reducible rfl) rfl ?_
          refine (refror_any y15 18 18 rfl (by decide) (by decide) _).mono ?_
          rintro e' wn ⟨rfl, rfl⟩
          have hS : SX _ := ⟨by simpa using hS.1, by simpa using hS.2⟩
          refine ⟨_, rfl, hS, ?_⟩
          simp only [Act.put, List.setIfInBounds_toArray, List.set_cons_zero, List.set_cons_succ]
          refine hs_take (i := 9) (d := some 77) (v := ?_) rfl (by kernel_rfl) (by kernel_rfl) (by kernel_rfl) (by rfl) ?_ hS rfl ?_
          rotate_left
          · intro w' hw
            obtain ⟨f16, f7⟩ := hw
            go_simp
            try with_reducible rfl
          simp only [Act.put, List.setIfInBounds_toArray, List.set_cons_zero, List.set_cons_succ]
          refine hs_take (i := 12) (d := some 80) (v := ?_) rfl (by kernel_rfl) (by kernel_rfl) (by kernel_rfl) (by rfl) ?_ hS rfl ?_
          rotate_left
          · intro w' hw
            obtain ⟨f16, f7⟩ := hw
            go_simp
            try with_reducible rfl
          simp only [Act.put, List.setIfInBounds_toArray, List.set_cons_zero, List.set_cons_succ]
          refine hs_take (i := 13) (d := some 81) (v := ?_) rfl (by kernel_rfl) (by kernel_rfl) (by kernel_rfl) (by rfl) ?_ hS rfl ?_
          rotate_left
          · intro w' hw
            obtain ⟨f16, f7⟩ := hw
            go_simp
            try with_reducible rfl
          simp only [Act.put, List.setIfInBounds_toArray, List.set_cons_zero, List.set_cons_succ]
          refine hs_take (i := 18) (d := some 86) (v := ?_) rfl (by kernel_rfl) (by kernel_rfl) (by kernel_rfl) (by rfl) ?_ hS rfl ?_
          rotate_left
          · intro w' hw
            obtain ⟨f16, f7⟩ := hw
            go_simp
            try with_reducible rfl
          simp only [Act.put, List.setIfInBounds_toArray, List.set_cons_zero, List.set_cons_succ]
          refine hs_call (i := 20) (d := some 88) rfl (by kernel_rfl) (by rfl) (by go_simp; first | done | exact ⟨rfl, rfl⟩ | with_reducible rfl) rfl ?_
          refine (refror_any y2 17 17 rfl (by decide) (by decide) _).mono ?_
          rintro e' wn ⟨rfl, rfl⟩
          have hS : SX _ := ⟨by simpa using hS.1, by simpa using hS.2⟩
          refine ⟨_, rfl, hS, ?_⟩
          simp only [Act.put, List.setIfInBounds_toArray, List.set_cons_zero, List.set_cons_succ]
          refine hs_call (i := 22) (d := some 90) rfl (by kernel_rfl) (by rfl) (by go_simp; first | done | exact ⟨rfl, rfl⟩ | with_reducible rfl) rfl ?_
          refine (refror_any y2 19 19 rfl (by decide) (by decide) _).mono ?_
          rintro e' wn ⟨rfl, rfl⟩
          have hS : SX _ := ⟨by simpa using hS.1, by simpa using hS.2⟩
          refine ⟨_, rfl, hS, ?_⟩
          simp only [Act.put, List.setIfInBounds_toArray, List.set_cons_zero, List.set_cons_succ]
          refine hs_take (i := 23) (d := some 91) (v := ?_) rfl (by kernel_rfl) (by kernel_rfl) (by kernel_rfl) (by rfl) ?_ hS rfl ?_
          rotate_left
          · intro w' hw
            obtain ⟨f16, f7⟩ := hw
            go_simp
            try with_reducible rfl
          simp only [Act.put, List.setIfInBounds_toArray, List.set_cons_zero, List.set_cons_succ]
          refine hs_take (i := 26) (d := some 94) (v := ?_) rfl (by kernel_rfl) (by kernel_rfl) (by kernel_rfl) (by rfl) ?_ hS rfl ?_
          rotate_left
          · intro w' hw
            obtain ⟨f16, f7⟩ := hw
            go_simp
            try with_reducible rfl
          simp only [Act.put, List.setIfInBounds_toArray, List.set_cons_zero, List.set_cons_succ]
          refine hs_take (i := 27) (d := some 95) (v := ?_) rfl (by kernel_rfl) (by kernel_rfl) (by kernel_rfl) (by rfl) ?_ hS rfl ?_
          rotate_left
          · intro w' hw
            obtain ⟨f16, f7⟩ := hw
            go_simp
            try with_reducible rfl
          simp only [Act.put, List.setIfInBounds_toArray, List.set_cons_zero, List.set_cons_succ]
          refine hs_take (i := 28) (d := some 96) (v := ?_) rfl (by kernel_rfl) (by kernel_rfl) (by kernel_rfl) (by rfl) ?_ hS rfl ?_
          rotate_left
          · intro w' hw
            obtain ⟨f16, f7⟩ := hw
            go_simp
            try with_reducible rfl
          simp only [Act.put, List.setIfInBounds_toArray, List.set_cons_zero, List.set_cons_succ]
          refine hs_store (i := 29) (w' := (wr.setCell ⟨w.heap.size + 2, m, none⟩ (.int .u32 (x.toNat : Int))).drew.drew.drew.drew.drew) rfl (by kernel_rfl) (by rfl) (by go_simp; try with_reducible rfl) rfl ⟨(World.cell?_setCell_other _ _ _ _ (fun q => by injection q with _ q2 _; omega)).trans hS.1, (World.cell?_setCell_other _ _ _ _ (fun q => by injection q with _ q2 _; omega)).trans hS.2⟩ ?_
          refine hs_done (by kernel_rfl) ?_
          go_wp2_with fail
          go_roundw
          case rel =>
            refine ⟨k + 1, m + 1, by omega, by rw [HM.out]; omega, by go_num, ?_, by simpa using hzr⟩
            have := (hK.set HL8.out m x).drewN 5
            have e1 := set_fill (exts k (words bs 16)) (48 - k) x (by omega)
            rw [HL.out] at e1
            rw [e1] at this
            show Bk w _ cs (ext (exts k (words bs 16)) ++ List.replicate (48 - (k + 1)) (0 : Wd))
            unfold ext
            rw [hx.out]
            exact this
          case measure => simp [intOf]; omega
        · have hk48 : k = 48 := by omega
          have hm' : ¬ (m : Int) < 64 := by omega
          have hKw : Bk w wr cs ws := by
            have e : exts k (words bs 16) ++ List.replicate (48 - k) (0 : Wd) = ws := by
              rw [show 48 - k = 0 by omega, List.replicate_zero, List.append_nil, ← hws.out, _h48.out, hk48]
            rw [e] at hK
            exact hK
          have hwl : Hid (ws.length = 64) := by rw [← hws.out, _h48.out]; show (exts 48 (words bs 16)).length = 64; rw [exts_length, words_length]
          clear hK hws hk hlt hm hk48
          have hbox := hKw.box
          have hi8 : (Tryd.prog.info? 87).map (·.size) = some cs.length := by rw [HL8.out]; exact isz51'
          have hi8' : (Tryd.prog.info? 87).map (·.size) = some cs.toArray.size := by rw [List.size_toArray]; exact hi8
          have hN8 : (wr.alloc (.cells (Array.replicate 8 (.int .u32 0)) 87)).there (w.heap.size + 3) 0 cs.toArray.size := by
            have e : cs.toArray.size = 8 := by rw [List.size_toArray, HL8.out]
            rw [e, ← hzr]; exact new8 wr
          go_upto_region 13 with (first | refine wpList_load_mid rfl 87 _ rfl _ _ rfl cs _ hbox Tryd.underlying87 rfl hi8 ?_ | refine wpList_store_mid rfl 87 _ _ rfl _ _ cs.toArray rfl rfl hN8 hi8' (all_oneCell_toArray h1c) ?_)
          go_name_world w2 hw2
          have F := fresh_store wr (Array.replicate 8 (.int .u32 0)) 87 cs (by rw [HL8.out]; rfl)
          rw [show (wr.alloc (.cells (Array.replicate 8 (.int .u32 0)) 87)).setCells wr.heap.size 0 cs = w2 by rw [hzr]; exact hw2] at F
          obtain ⟨hV0, hB2, hz2, hTV0⟩ := F
          have hK2 := hKw.below hB2
          rw [hzr] at hV0 hTV0 hz2
          have hV2 : w.heap.size + 3 < w2.heap.size := by omega
          clear hw2 hN8 hi8 hi8' hbox hKw hB2 hm' hzr hz2
          obtain ⟨V, hVd⟩ : ∃ V, w.heap.size + 3 = V := ⟨_, rfl⟩
          have hVw : w.heap.size + 3 ≤ V := by omega
          rw [hVd] at hV0 hTV0 hV2 ⊢
          have HVD : Hid (w.heap.size + 3 = V) := hVd
          clear hVd
          rw [← hcs0.out] at hV0
          simp only [Act.put]
          go_wp2
          go_loopw [11] (fun i wr => ∃ (t : Nat) (st : St), t ≤ 64 ∧ i = .int .i64 (t : Int) ∧ Hid (rounds ws t s = st) ∧ Bk w wr cs ws ∧ wr.rangeAt V 0 (v32 (list st)) ∧ wr.there V 0 8 ∧ V < wr.heap.size) (fun i _ => 64 - (intOf i).toNat)
          case atStart => exact ⟨0, s, by omega, rfl, rfl, hK2, hV0, by simpa using hTV0, hV2⟩
          case round =>
            clear hK2 hV0 hTV0 hV2
            obtain ⟨t, ⟨a, b', c, d, e, f, g, hh⟩, ht, rfl, hst, hK, hV, hTV, hVs⟩ := hrel
            by_cases hlt : t < 64
            · have gx := get32 hK.arr (i := t) (by rw [hwl.out]; exact hlt)
              rw [Nat.zero_add] at gx
              have hnx : Hid (rounds ws (t + 1) s = round (k' t) (ws.getD t 0) ⟨a, b', c, d, e, f, g, hh⟩) := by
                show round _ _ (rounds ws t s) = _
                rw [hst.out]; rfl
              generalize ws.getD t 0 = x at gx hnx
              have hXs : w.heap.size + 2 < wr.heap.size := by have := hK.sz; omega
              have g0 : wr.cell? ⟨V, 0, none⟩ = some (.int .u32 (a.toNat : Int)) := by simpa using hV 0 _ rfl
              have g1 : wr.cell? ⟨V, 1, none⟩ = some (.int .u32 (b'.toNat : Int)) := by simpa using hV 1 _ rfl
              have g2 : wr.cell? ⟨V, 2, none⟩ = some (.int .u32 (c.toNat : Int)) := by simpa using hV 2 _ rfl
              have g3 : wr.cell? ⟨V, 3, none⟩ = some (.int .u32 (d.toNat : Int)) := by simpa using hV 3 _ rfl
              have g4 : wr.cell? ⟨V, 4, none⟩ = some (.int .u32 (e.toNat : Int)) := by simpa using hV 4 _ rfl
              have g5 : wr.cell? ⟨V, 5, none⟩ = some (.int .u32 (f.toNat : Int)) := by simpa using hV 5 _ rfl
              have g6 : wr.cell? ⟨V, 6, none⟩ = some (.int .u32 (g.toNat : Int)) := by simpa using hV 6 _ rfl
              have g7 : wr.cell? ⟨V, 7, none⟩ = some (.int .u32 (hh.toNat : Int)) := by simpa using hV 7 _ rfl
              have it : (t : Int) < 64 := by omega
              obtain ⟨T1, hT1⟩ : ∃ T1, Hid (t1 (k' t) x ⟨a, b', c, d, e, f, g, hh⟩ = T1) := ⟨_, rfl⟩
              obtain ⟨T2, hT2⟩ : ∃ T2, Hid (t2 ⟨a, b', c, d, e, f, g, hh⟩ = T2) := ⟨_, rfl⟩
              have hr : Hid (round (k' t) x ⟨a, b', c, d, e, f, g, hh⟩ = ⟨T1 + T2, a, b', c, d + T1, e, f, g⟩) := by
                show round _ _ _ = _
                unfold round
                rw [hT1.out, hT2.out]
              have X1 := xor32 (rotr e 6) (rotr e 11)
              have X2 := xor32 (rotr e 6 ^^^ rotr e 11) (rotr e 25)
              have A1 := wadd32 hh (rotr e 6 ^^^ rotr e 11 ^^^ rotr e 25)
              have C1 := and32 e f
              have C2 := not32' e
              have C3 := and32 (~~~ e) g
              have C4 := xor32 (e &&& f) (~~~ e &&& g)
              have A2 := wadd32 (hh + (rotr e 6 ^^^ rotr e 11 ^^^ rotr e 25)) ((e &&& f) ^^^ (~~~ e &&& g))
              have A3 := wadd32 (hh + (rotr e 6 ^^^ rotr e 11 ^^^ rotr e 25) + ((e &&& f) ^^^ (~~~ e &&& g))) (k' t)
              have A4 := wadd32 (hh + (rotr e 6 ^^^ rotr e 11 ^^^ rotr e 25) + ((e &&& f) ^^^ (~~~ e &&& g)) + k' t) x
              have ht1 : hh + (rotr e 6 ^^^ rotr e 11 ^^^ rotr e 25) + ((e &&& f) ^^^ (~~~ e &&& g)) + k' t + x = T1 := hT1.out
              rw [ht1] at A4
              generalize hh + (rotr e 6 ^^^ rotr e 11 ^^^ rotr e 25) + ((e &&& f) ^^^ (~~~ e &&& g)) + k' t = v3 at A3 A4
              generalize hh + (rotr e 6 ^^^ rotr e 11 ^^^ rotr e 25) + ((e &&& f) ^^^ (~~~ e &&& g)) = v2 at A2 A3
              generalize hh + (rotr e 6 ^^^ rotr e 11 ^^^ rotr e 25) = v1 at A1 A2
              generalize rotr e 6 ^^^ rotr e 11 ^^^ rotr e 25 = u2 at X2 A1
              generalize rotr e 6 ^^^ rotr e 11 = u1 at X1 X2
              generalize (e &&& f) ^^^ (~~~ e &&& g) = u6 at C4 A2
              generalize ~~~ e &&& g = u5 at C3 C4
              generalize ~~~ e = u4 at C2 C3
              generalize e &&& f = u3 at C1 C4
              clear ht1
              have Y1 := xor32 (rotr a 2) (rotr a 13)
              have Y2 := xor32 (rotr a 2 ^^^ rotr a 13) (rotr a 22)
              have D1 := and32 a b'
              have D2 := and32 a c
              have D3 := xor32 (a &&& b') (a &&& c)
              have D4 := and32 b' c
              have D5 := xor32 (a &&& b' ^^^ a &&& c) (b' &&& c)
              have D6 := wadd32 (rotr a 2 ^^^ rotr a 13 ^^^ rotr a 22) (a &&& b' ^^^ a &&& c ^^^ b' &&& c)
              have ht2 : (rotr a 2 ^^^ rotr a 13 ^^^ rotr a 22) + (a &&& b' ^^^ a &&& c ^^^ b' &&& c) = T2 := hT2.out
              rw [ht2] at D6
              generalize rotr a 2 ^^^ rotr a 13 ^^^ rotr a 22 = z2 at Y2 D6
              generalize rotr a 2 ^^^ rotr a 13 = z1 at Y1 Y2
              generalize a &&& b' ^^^ a &&& c ^^^ b' &&& c = z5 at D5 D6
              generalize a &&& b' ^^^ a &&& c = z4 at D3 D5
              generalize b' &&& c = z6 at D4 D5
              generalize a &&& b' = z7 at D1 D3
              generalize a &&& c = z8 at D2 D3
              clear ht2
              let SB : World → Prop := fun w' => Below wr.heap.size wr w'
              go_upto_region 18 with fail
              refine hs_begin (S := SB) 30 rfl (by kernel_rfl) ?_
              have hS : SB _ := (Below.refl _ _).drew
              refine hs_take (i := 0) (d := some 106) (v := ?_) rfl (by kernel_rfl) (by kernel_rfl) (by kernel_rfl) (by rfl) ?_ hS rfl ?_
              rotate_left
              · intro w' hw
                have f7 := (hw.cell (p := ⟨V, 7, none⟩) hVs).trans g7; have f5 := (hw.cell (p := ⟨V, 5, none⟩) hVs).trans g5; have f6 := (hw.cell (p := ⟨V, 6, none⟩) hVs).trans g6; have fx := (hw.cell (p := ⟨w.heap.size + 2, t, none⟩) hXs).trans gx
                go_simp
                try with_reducible rfl
              simp only [Act.put, List.setIfInBounds_toArray, List.set_cons_zero, List.set_cons_succ]
              refine hs_take (i := 2) (d := some 108) (v := ?_) rfl (by kernel_rfl) (by kernel_rfl) (by kernel_rfl) (by rfl) ?_ hS rfl ?_
              rotate_left
              · intro w' hw
                have f7 := (hw.cell (p := ⟨V, 7, none⟩) hVs).trans g7; have f5 := (hw.cell (p := ⟨V, 5, none⟩) hVs).trans g5; have f6 := (hw.cell (p := ⟨V, 6, none⟩) hVs).trans g6; have fx := (hw.cell (p := ⟨w.heap.size + 2, t, none⟩) hXs).trans gx
                go_simp
                try with_reducible rfl
              simp only [Act.put, List.setIfInBounds_toArray, List.set_cons_zero, List.set_cons_succ]
              refine hs_take (i := 4) (d := some 110) (v := ?_) rfl (by kernel_rfl) (by kernel_rfl) (by kernel_rfl) (by rfl) ?_ hS rfl ?_
              rotate_left
              · intro w' hw
                have f7 := (hw.cell (p := ⟨V, 7, none⟩) hVs).trans g7; have f5 := (hw.cell (p := ⟨V, 5, none⟩) hVs).trans g5; have f6 := (hw.cell (p := ⟨V, 6, none⟩) hVs).trans g6; have fx := (hw.cell (p := ⟨w.heap.size + 2, t, none⟩) hXs).trans gx
                go_simp
                try with_reducible rfl
              simp only [Act.put, List.setIfInBounds_toArray, List.set_cons_zero, List.set_cons_succ]
              refine hs_take (i := 7) (d := some 113) (v := ?_) rfl (by kernel_rfl) (by kernel_rfl) (by kernel_rfl) (by rfl) ?_ hS rfl ?_
              rotate_left
              · intro w' hw
                have f7 := (hw.cell (p := ⟨V, 7, none⟩) hVs).trans g7; have f5 := (hw.cell (p := ⟨V, 5, none⟩) hVs).trans g5; have f6 := (hw.cell (p := ⟨V, 6, none⟩) hVs).trans g6; have fx := (hw.cell (p := ⟨w.heap.size + 2, t, none⟩) hXs).trans gx
                go_simp
                try with_reducible rfl
              simp only [Act.put, List.setIfInBounds_toArray, List.set_cons_zero, List.set_cons_succ]
              refine hs_take (i := 11) (d := some 117) (v := ?_) rfl (by kernel_rfl) (by kernel_rfl) (by kernel_rfl) (by rfl) ?_ hS rfl ?_
              rotate_left
              · intro w' hw
                have f7 := (hw.cell (p := ⟨V, 7, none⟩) hVs).trans g7; have f5 := (hw.cell (p := ⟨V, 5, none⟩) hVs).trans g5; have f6 := (hw.cell (p := ⟨V, 6, none⟩) hVs).trans g6; have fx := (hw.cell (p := ⟨w.heap.size + 2, t, none⟩) hXs).trans gx
                go_simp
                try with_reducible rfl
              simp only [Act.put, List.setIfInBounds_toArray, List.set_cons_zero, List.set_cons_succ]
              refine hs_take (i := 12) (d := some 118) (v := ?_) rfl (by kernel_rfl) (by kernel_rfl) (by kernel_rfl) (by rfl) ?_ hS rfl ?_
              rotate_left
              · intro w' hw
                have f7 := (hw.cell (p := ⟨V, 7, none⟩) hVs).trans g7; have f5 := (hw.cell (p := ⟨V, 5, none⟩) hVs).trans g5; have f6 := (hw.cell (p := ⟨V, 6, none⟩) hVs).trans g6; have fx := (hw.cell (p := ⟨w.heap.size + 2, t, none⟩) hXs).trans gx
                go_simp
                try with_reducible rfl
              simp only [Act.put, List.setIfInBounds_toArray, List.set_cons_zero, List.set_cons_succ]
              refine hs_take (i := 15) (d := some 121) (v := ?_) rfl (by kernel_rfl) (by kernel_rfl) (by kernel_rfl) (by rfl) ?_ hS rfl ?_
              rotate_left
              · intro w' hw
                have f7 := (hw.cell (p := ⟨V, 7, none⟩) hVs).trans g7; have f5 := (hw.cell (p := ⟨V, 5, none⟩) hVs).trans g5; have f6 := (hw.cell (p := ⟨V, 6, none⟩) hVs).trans g6; have fx := (hw.cell (p := ⟨w.heap.size + 2, t, none⟩) hXs).trans gx
                go_simp
                try with_reducible rfl
              simp only [Act.put, List.setIfInBounds_toArray, List.set_cons_zero, List.set_cons_succ]
              refine hs_take (i := 17) (d := some 123) (v := ?_) rfl (by kernel_rfl) (by kernel_rfl) (by kernel_rfl) (by rfl) ?_ hS rfl ?_
              rotate_left
              · intro w' hw
                have f7 := (hw.cell (p := ⟨V, 7, none⟩) hVs).trans g7; have f5 := (hw.cell (p := ⟨V, 5, none⟩) hVs).trans g5; have f6 := (hw.cell (p := ⟨V, 6, none⟩) hVs).trans g6; have fx := (hw.cell (p := ⟨w.heap.size + 2, t, none⟩) hXs).trans gx
                go_simp
                try with_reducible rfl
              simp only [Act.put, List.setIfInBounds_toArray, List.set_cons_zero, List.set_cons_succ]
              refine hs_take (i := 22) (d := some 128) (v := ?_) rfl (by kernel_rfl) (by kernel_rfl) (by kernel_rfl) (by rfl) ?_ hS rfl ?_
              rotate_left
              · intro w' hw
                have f7 := (hw.cell (p := ⟨V, 7, none⟩) hVs).trans g7; have f5 := (hw.cell (p := ⟨V, 5, none⟩) hVs).trans g5; have f6 := (hw.cell (p := ⟨V, 6, none⟩) hVs).trans g6; have fx := (hw.cell (p := ⟨w.heap.size + 2, t, none⟩) hXs).trans gx
                go_simp
                try with_reducible rfl
              simp only [Act.put, List.setIfInBounds_toArray, List.set_cons_zero, List.set_cons_succ]
              refine hs_take (i := 25) (d := some 131) (v := ?_) rfl (by kernel_rfl) (by kernel_rfl) (by kernel_rfl) (by rfl) ?_ hS rfl ?_
              rotate_left
              · intro w' hw
                have f7 := (hw.cell (p := ⟨V, 7, none⟩) hVs).trans g7; have f5 := (hw.cell (p := ⟨V, 5, none⟩) hVs).trans g5; have f6 := (hw.cell (p := ⟨V, 6, none⟩) hVs).trans g6; have fx := (hw.cell (p := ⟨w.heap.size + 2, t, none⟩) hXs).trans gx
                go_simp
                try with_reducible rfl
              simp only [Act.put, List.setIfInBounds_toArray, List.set_cons_zero, List.set_cons_succ]
              refine hs_take (i := 1) (d := some 107) (v := ?_) rfl (by kernel_rfl) (by kernel_rfl) (by kernel_rfl) (by rfl) ?_ hS rfl ?_
              rotate_left
              · intro w' hw
                have f7 := (hw.cell (p := ⟨V, 7, none⟩) hVs).trans g7; have f5 := (hw.cell (p := ⟨V, 5, none⟩) hVs).trans g5; have f6 := (hw.cell (p := ⟨V, 6, none⟩) hVs).trans g6; have fx := (hw.cell (p := ⟨w.heap.size + 2, t, none⟩) hXs).trans gx
                go_simp
                try with_reducible rfl
              simp only [Act.put, List.setIfInBounds_toArray, List.set_cons_zero, List.set_cons_succ]
              refine hs_take (i := 13) (d := some 119) (v := ?_) rfl (by kernel_rfl) (by kernel_rfl) (by kernel_rfl) (by rfl) ?_ hS rfl ?_
              rotate_left
              · intro w' hw
                have f7 := (hw.cell (p := ⟨V, 7, none⟩) hVs).trans g7; have f5 := (hw.cell (p := ⟨V, 5, none⟩) hVs).trans g5; have f6 := (hw.cell (p := ⟨V, 6, none⟩) hVs).trans g6; have fx := (hw.cell (p := ⟨w.heap.size + 2, t, none⟩) hXs).trans gx
                go_simp
                try with_reducible rfl
              simp only [Act.put, List.setIfInBounds_toArray, List.set_cons_zero, List.set_cons_succ]
              refine hs_take (i := 16) (d := some 122) (v := ?_) rfl (by kernel_rfl) (by kernel_rfl) (by kernel_rfl) (by rfl) ?_ hS rfl ?_
              rotate_left
              · intro w' hw
                have f7 := (hw.cell (p := ⟨V, 7, none⟩) hVs).trans g7; have f5 := (hw.cell (p := ⟨V, 5, none⟩) hVs).trans g5; have f6 := (hw.cell (p := ⟨V, 6, none⟩) hVs).trans g6; have fx := (hw.cell (p := ⟨w.heap.size + 2, t, none⟩) hXs).trans gx
                go_simp
                try with_reducible rfl
              simp only [Act.put, List.setIfInBounds_toArray, List.set_cons_zero, List.set_cons_succ]
              refine hs_take (i := 18) (d := some 124) (v := ?_) rfl (by kernel_rfl) (by kernel_rfl) (by kernel_rfl) (by rfl) ?_ hS rfl ?_
              rotate_left
              · intro w' hw
                have f7 := (hw.cell (p := ⟨V, 7, none⟩) hVs).trans g7; have f5 := (hw.cell (p := ⟨V, 5, none⟩) hVs).trans g5; have f6 := (hw.cell (p := ⟨V, 6, none⟩) hVs).trans g6; have fx := (hw.cell (p := ⟨w.heap.size + 2, t, none⟩) hXs).trans gx
                go_simp
                try with_reducible rfl
              simp only [Act.put, List.setIfInBounds_toArray, List.set_cons_zero, List.set_cons_succ]
              refine hs_take (i := 26) (d := some 132) (v := ?_) rfl (by kernel_rfl) (by kernel_rfl) (by kernel_rfl) (by rfl) ?_ hS rfl ?_
              rotate_left
              · intro w' hw
                have f7 := (hw.cell (p := ⟨V, 7, none⟩) hVs).trans g7; have f5 := (hw.cell (p := ⟨V, 5, none⟩) hVs).trans g5; have f6 := (hw.cell (p := ⟨V, 6, none⟩) hVs).trans g6; have fx := (hw.cell (p := ⟨w.heap.size + 2, t, none⟩) hXs).trans gx
                go_simp
                try with_reducible rfl
              simp only [Act.put, List.setIfInBounds_toArray, List.set_cons_zero, List.set_cons_succ]
              refine hs_take (i := 14) (d := some 120) (v := ?_) rfl (by kernel_rfl) (by kernel_rfl) (by kernel_rfl) (by rfl) ?_ hS rfl ?_
              rotate_left
              · intro w' hw
                have f7 := (hw.cell (p := ⟨V, 7, none⟩) hVs).trans g7; have f5 := (hw.cell (p := ⟨V, 5, none⟩) hVs).trans g5; have f6 := (hw.cell (p := ⟨V, 6, none⟩) hVs).trans g6; have fx := (hw.cell (p := ⟨w.heap.size + 2, t, none⟩) hXs).trans gx
                go_simp
                try with_reducible rfl
              simp only [Act.put, List.setIfInBounds_toArray, List.set_cons_zero, List.set_cons_succ]
              refine hs_take (i := 19) (d := some 125) (v := ?_) rfl (by kernel_rfl) (by kernel_rfl) (by kernel_rfl) (by rfl) ?_ hS rfl ?_
              rotate_left
              · intro w' hw
                have f7 := (hw.cell (p := ⟨V, 7, none⟩) hVs).trans g7; have f5 := (hw.cell (p := ⟨V, 5, none⟩) hVs).trans g5; have f6 := (hw.cell (p := ⟨V, 6, none⟩) hVs).trans g6; have fx := (hw.cell (p := ⟨w.heap.size + 2, t, none⟩) hXs).trans gx
                go_simp
                try with_reducible rfl
              simp only [Act.put, List.setIfInBounds_toArray, List.set_cons_zero, List.set_cons_succ]
              refine hs_take (i := 27) (d := some 133) (v := ?_) rfl (by kernel_rfl) (by kernel_rfl) (by kernel_rfl) (by rfl) ?_ hS rfl ?_
              rotate_left
              · intro w' hw
                have f7 := (hw.cell (p := ⟨V, 7, none⟩) hVs).trans g7; have f5 := (hw.cell (p := ⟨V, 5, none⟩) hVs).trans g5; have f6 := (hw.cell (p := ⟨V, 6, none⟩) hVs).trans g6; have fx := (hw.cell (p := ⟨w.heap.size + 2, t, none⟩) hXs).trans gx
                go_simp
                try with_reducible rfl
              simp only [Act.put, List.setIfInBounds_toArray, List.set_cons_zero, List.set_cons_succ]
              refine hs_take (i := 20) (d := some 126) (v := ?_) rfl (by kernel_rfl) (by kernel_rfl) (by kernel_rfl) (by rfl) ?_ hS rfl ?_
              rotate_left
              · intro w' hw
                have f7 := (hw.cell (p := ⟨V, 7, none⟩) hVs).trans g7; have f5 := (hw.cell (p := ⟨V, 5, none⟩) hVs).trans g5; have f6 := (hw.cell (p := ⟨V, 6, none⟩) hVs).trans g6; have fx := (hw.cell (p := ⟨w.heap.size + 2, t, none⟩) hXs).trans gx
                go_simp
                try with_reducible rfl
              simp only [Act.put, List.setIfInBounds_toArray, List.set_cons_zero, List.set_cons_succ]
              refine hs_call (i := 3) (d := some 109) rfl (by kernel_rfl) (by rfl) (by go_simp; first | done | exact ⟨rfl, rfl⟩ | with_reducible rfl) rfl ?_
              refine (refror_any e 6 6 rfl (by decide) (by decide) _).mono ?_
              rintro e' wn ⟨rfl, hwn⟩
              have hS : SB wn := hS.trans (by rw [hwn]; exact (Below.refl _ _).drew)
              refine ⟨_, rfl, hS, ?_⟩
              simp only [Act.put, List.setIfInBounds_toArray, List.set_cons_zero, List.set_cons_succ]
              refine hs_call (i := 5) (d := some 111) rfl (by kernel_rfl) (by rfl) (by go_simp; first | done | exact ⟨rfl, rfl⟩ | with_reducible rfl) rfl ?_
              refine (refror_any e 11 11 rfl (by decide) (by decide) _).mono ?_
              rintro e' wn ⟨rfl, hwn⟩
              have hS : SB wn := hS.trans (by rw [hwn]; exact (Below.refl _ _).drew)
              refine ⟨_, rfl, hS, ?_⟩
              simp only [Act.put, List.setIfInBounds_toArray, List.set_cons_zero, List.set_cons_succ]
              refine hs_take (i := 6) (d := some 112) (v := ?_) rfl (by kernel_rfl) (by kernel_rfl) (by kernel_rfl) (by rfl) ?_ hS rfl ?_
              rotate_left
              · intro w' hw
                have f7 := (hw.cell (p := ⟨V, 7, none⟩) hVs).trans g7; have f5 := (hw.cell (p := ⟨V, 5, none⟩) hVs).trans g5; have f6 := (hw.cell (p := ⟨V, 6, none⟩) hVs).trans g6; have fx := (hw.cell (p := ⟨w.heap.size + 2, t, none⟩) hXs).trans gx
                go_simp
                try with_reducible rfl
              simp only [Act.put, List.setIfInBounds_toArray, List.set_cons_zero, List.set_cons_succ]
              refine hs_call (i := 8) (d := some 114) rfl (by kernel_rfl) (by rfl) (by go_simp; first | done | exact ⟨rfl, rfl⟩ | with_reducible rfl) rfl ?_
              refine (refror_any e 25 25 rfl (by decide) (by decide) _).mono ?_
              rintro e' wn ⟨rfl, hwn⟩
              have hS : SB wn := hS.trans (by rw [hwn]; exact (Below.refl _ _).drew)
              refine ⟨_, rfl, hS, ?_⟩
              simp only [Act.put, List.setIfInBounds_toArray, List.set_cons_zero, List.set_cons_succ]
              refine hs_take (i := 9) (d := some 115) (v := ?_) rfl (by kernel_rfl) (by kernel_rfl) (by kernel_rfl) (by rfl) ?_ hS rfl ?_
              rotate_left
              · intro w' hw
                have f7 := (hw.cell (p := ⟨V, 7, none⟩) hVs).trans g7; have f5 := (hw.cell (p := ⟨V, 5, none⟩) hVs).trans g5; have f6 := (hw.cell (p := ⟨V, 6, none⟩) hVs).trans g6; have fx := (hw.cell (p := ⟨w.heap.size + 2, t, none⟩) hXs).trans gx
                go_simp
                try with_reducible rfl
              simp only [Act.put, List.setIfInBounds_toArray, List.set_cons_zero, List.set_cons_succ]
              refine hs_take (i := 10) (d := some 116) (v := ?_) rfl (by kernel_rfl) (by kernel_rfl) (by kernel_rfl) (by rfl) ?_ hS rfl ?_
              rotate_left
              · intro w' hw
                have f7 := (hw.cell (p := ⟨V, 7, none⟩) hVs).trans g7; have f5 := (hw.cell (p := ⟨V, 5, none⟩) hVs).trans g5; have f6 := (hw.cell (p := ⟨V, 6, none⟩) hVs).trans g6; have fx := (hw.cell (p := ⟨w.heap.size + 2, t, none⟩) hXs).trans gx
                go_simp
                try with_reducible rfl
              simp only [Act.put, List.setIfInBounds_toArray, List.set_cons_zero, List.set_cons_succ]
              refine hs_take (i := 21) (d := some 127) (v := ?_) rfl (by kernel_rfl) (by kernel_rfl) (by kernel_rfl) (by rfl) ?_ hS rfl ?_
              rotate_left
              · intro w' hw
                have f7 := (hw.cell (p := ⟨V, 7, none⟩) hVs).trans g7; have f5 := (hw.cell (p := ⟨V, 5, none⟩) hVs).trans g5; have f6 := (hw.cell (p := ⟨V, 6, none⟩) hVs).trans g6; have fx := (hw.cell (p := ⟨w.heap.size + 2, t, none⟩) hXs).trans gx
                go_simp
                try with_reducible rfl
              simp only [Act.put, List.setIfInBounds_toArray, List.set_cons_zero, List.set_cons_succ]
              refine hs_call (i := 23) (d := some 129) rfl (by kernel_rfl) (by rfl) (by go_simp; first | done | exact ⟨rfl, rfl⟩ | with_reducible rfl) rfl ?_
              refine (constant_any' t hlt _).mono ?_
              rintro e' wn ⟨rfl, hwn⟩
              have hS : SB wn := hS.trans (hwn.mono hS.size)
              refine ⟨_, rfl, hS, ?_⟩
              simp only [Act.put, List.setIfInBounds_toArray, List.set_cons_zero, List.set_cons_succ]
              refine hs_take (i := 24) (d := some 130) (v := ?_) rfl (by kernel_rfl) (by kernel_rfl) (by kernel_rfl) (by rfl) ?_ hS rfl ?_
              rotate_left
              · intro w' hw
                have f7 := (hw.cell (p := ⟨V, 7, none⟩) hVs).trans g7; have f5 := (hw.cell (p := ⟨V, 5, none⟩) hVs).trans g5; have f6 := (hw.cell (p := ⟨V, 6, none⟩) hVs).trans g6; have fx := (hw.cell (p := ⟨w.heap.size + 2, t, none⟩) hXs).trans gx
                go_simp
                try with_reducible rfl
              simp only [Act.put, List.setIfInBounds_toArray, List.set_cons_zero, List.set_cons_succ]
              refine hs_take (i := 28) (d := some 134) (v := ?_) rfl (by kernel_rfl) (by kernel_rfl) (by kernel_rfl) (by rfl) ?_ hS rfl ?_
              rotate_left
              · intro w' hw
                have f7 := (hw.cell (p := ⟨V, 7, none⟩) hVs).trans g7; have f5 := (hw.cell (p := ⟨V, 5, none⟩) hVs).trans g5; have f6 := (hw.cell (p := ⟨V, 6, none⟩) hVs).trans g6; have fx := (hw.cell (p := ⟨w.heap.size + 2, t, none⟩) hXs).trans gx
                go_simp
                try with_reducible rfl
              simp only [Act.put, List.setIfInBounds_toArray, List.set_cons_zero, List.set_cons_succ]
              refine hs_take (i := 29) (d := some 14) (v := ?_) rfl (by kernel_rfl) (by kernel_rfl) (by kernel_rfl) (by rfl) ?_ hS rfl ?_
              rotate_left
              · intro w' hw
                have f7 := (hw.cell (p := ⟨V, 7, none⟩) hVs).trans g7; have f5 := (hw.cell (p := ⟨V, 5, none⟩) hVs).trans g5; have f6 := (hw.cell (p := ⟨V, 6, none⟩) hVs).trans g6; have fx := (hw.cell (p := ⟨w.heap.size + 2, t, none⟩) hXs).trans gx
                go_simp
                try with_reducible rfl
              simp only [Act.put, List.setIfInBounds_toArray, List.set_cons_zero, List.set_cons_succ]
              refine hs_done (by kernel_rfl) ?_
              go_upto_region 19 with fail
              refine hs_begin (S := SB) 25 rfl (by kernel_rfl) ?_
              have hS : SB _ := Below.drew hS
              refine hs_take (i := 0) (d := some 135) (v := ?_) rfl (by kernel_rfl) (by kernel_rfl) (by kernel_rfl) (by rfl) ?_ hS rfl ?_
              rotate_left
              · intro w' hw
                have f1 := (hw.cell (p := ⟨V, 1, none⟩) hVs).trans g1; have f2 := (hw.cell (p := ⟨V, 2, none⟩) hVs).trans g2
                go_simp
                try with_reducible rfl
              simp only [Act.put, List.setIfInBounds_toArray, List.set_cons_zero, List.set_cons_succ]
              refine hs_take (i := 2) (d := some 137) (v := ?_) rfl (by kernel_rfl) (by kernel_rfl) (by kernel_rfl) (by rfl) ?_ hS rfl ?_
              rotate_left
              · intro w' hw
                have f1 := (hw.cell (p := ⟨V, 1, none⟩) hVs).trans g1; have f2 := (hw.cell (p := ⟨V, 2, none⟩) hVs).trans g2
                go_simp
                try with_reducible rfl
              simp only [Act.put, List.setIfInBounds_toArray, List.set_cons_zero, List.set_cons_succ]
              refine hs_take (i := 5) (d := some 140) (v := ?_) rfl (by kernel_rfl) (by kernel_rfl) (by kernel_rfl) (by rfl) ?_ hS rfl ?_
              rotate_left
              · intro w' hw
                have f1 := (hw.cell (p := ⟨V, 1, none⟩) hVs).trans g1; have f2 := (hw.cell (p := ⟨V, 2, none⟩) hVs).trans g2
                go_simp
                try with_reducible rfl
              simp only [Act.put, List.setIfInBounds_toArray, List.set_cons_zero, List.set_cons_succ]
              refine hs_take (i := 8) (d := some 143) (v := ?_) rfl (by kernel_rfl) (by kernel_rfl) (by kernel_rfl) (by rfl) ?_ hS rfl ?_
              rotate_left
              · intro w' hw
                have f1 := (hw.cell (p := ⟨V, 1, none⟩) hVs).trans g1; have f2 := (hw.cell (p := ⟨V, 2, none⟩) hVs).trans g2
                go_simp
                try with_reducible rfl
              simp only [Act.put, List.setIfInBounds_toArray, List.set_cons_zero, List.set_cons_succ]
              refine hs_take (i := 9) (d := some 144) (v := ?_) rfl (by kernel_rfl) (by kernel_rfl) (by kernel_rfl) (by rfl) ?_ hS rfl ?_
              rotate_left
              · intro w' hw
                have f1 := (hw.cell (p := ⟨V, 1, none⟩) hVs).trans g1; have f2 := (hw.cell (p := ⟨V, 2, none⟩) hVs).trans g2
                go_simp
                try with_reducible rfl
              simp only [Act.put, List.setIfInBounds_toArray, List.set_cons_zero, List.set_cons_succ]
              refine hs_take (i := 12) (d := some 147) (v := ?_) rfl (by kernel_rfl) (by kernel_rfl) (by kernel_rfl) (by rfl) ?_ hS rfl ?_
              rotate_left
              · intro w' hw
                have f1 := (hw.cell (p := ⟨V, 1, none⟩) hVs).trans g1; have f2 := (hw.cell (p := ⟨V, 2, none⟩) hVs).trans g2
                go_simp
                try with_reducible rfl
              simp only [Act.put, List.setIfInBounds_toArray, List.set_cons_zero, List.set_cons_succ]
              refine hs_take (i := 13) (d := some 148) (v := ?_) rfl (by kernel_rfl) (by kernel_rfl) (by kernel_rfl) (by rfl) ?_ hS rfl ?_
              rotate_left
              · intro w' hw
                have f1 := (hw.cell (p := ⟨V, 1, none⟩) hVs).trans g1; have f2 := (hw.cell (p := ⟨V, 2, none⟩) hVs).trans g2
                go_simp
                try with_reducible rfl
              simp only [Act.put, List.setIfInBounds_toArray, List.set_cons_zero, List.set_cons_succ]
              refine hs_take (i := 17) (d := some 152) (v := ?_) rfl (by kernel_rfl) (by kernel_rfl) (by kernel_rfl) (by rfl) ?_ hS rfl ?_
              rotate_left
              · intro w' hw
                have f1 := (hw.cell (p := ⟨V, 1, none⟩) hVs).trans g1; have f2 := (hw.cell (p := ⟨V, 2, none⟩) hVs).trans g2
                go_simp
                try with_reducible rfl
              simp only [Act.put, List.setIfInBounds_toArray, List.set_cons_zero, List.set_cons_succ]
              refine hs_take (i := 19) (d := some 154) (v := ?_) rfl (by kernel_rfl) (by kernel_rfl) (by kernel_rfl) (by rfl) ?_ hS rfl ?_
              rotate_left
              · intro w' hw
                have f1 := (hw.cell (p := ⟨V, 1, none⟩) hVs).trans g1; have f2 := (hw.cell (p := ⟨V, 2, none⟩) hVs).trans g2
                go_simp
                try with_reducible rfl
              simp only [Act.put, List.setIfInBounds_toArray, List.set_cons_zero, List.set_cons_succ]
              refine hs_take (i := 10) (d := some 145) (v := ?_) rfl (by kernel_rfl) (by kernel_rfl) (by kernel_rfl) (by rfl) ?_ hS rfl ?_
              rotate_left
              · intro w' hw
                have f1 := (hw.cell (p := ⟨V, 1, none⟩) hVs).trans g1; have f2 := (hw.cell (p := ⟨V, 2, none⟩) hVs).trans g2
                go_simp
                try with_reducible rfl
              simp only [Act.put, List.setIfInBounds_toArray, List.set_cons_zero, List.set_cons_succ]
              refine hs_take (i := 14) (d := some 149) (v := ?_) rfl (by kernel_rfl) (by kernel_rfl) (by kernel_rfl) (by rfl) ?_ hS rfl ?_
              rotate_left
              · intro w' hw
                have f1 := (hw.cell (p := ⟨V, 1, none⟩) hVs).trans g1; have f2 := (hw.cell (p := ⟨V, 2, none⟩) hVs).trans g2
                go_simp
                try with_reducible rfl
              simp only [Act.put, List.setIfInBounds_toArray, List.set_cons_zero, List.set_cons_succ]
              refine hs_take (i := 18) (d := some 153) (v := ?_) rfl (by kernel_rfl) (by kernel_rfl) (by kernel_rfl) (by rfl) ?_ hS rfl ?_
              rotate_left
              · intro w' hw
                have f1 := (hw.cell (p := ⟨V, 1, none⟩) hVs).trans g1; have f2 := (hw.cell (p := ⟨V, 2, none⟩) hVs).trans g2
                go_simp
                try with_reducible rfl
              simp only [Act.put, List.setIfInBounds_toArray, List.set_cons_zero, List.set_cons_succ]
              refine hs_take (i := 20) (d := some 155) (v := ?_) rfl (by kernel_rfl) (by kernel_rfl) (by kernel_rfl) (by rfl) ?_ hS rfl ?_
              rotate_left
              · intro w' hw
                have f1 := (hw.cell (p := ⟨V, 1, none⟩) hVs).trans g1; have f2 := (hw.cell (p := ⟨V, 2, none⟩) hVs).trans g2
                go_simp
                try with_reducible rfl
              simp only [Act.put, List.setIfInBounds_toArray, List.set_cons_zero, List.set_cons_succ]
              refine hs_take (i := 11) (d := some 146) (v := ?_) rfl (by kernel_rfl) (by kernel_rfl) (by kernel_rfl) (by rfl) ?_ hS rfl ?_
              rotate_left
              · intro w' hw
                have f1 := (hw.cell (p := ⟨V, 1, none⟩) hVs).trans g1; have f2 := (hw.cell (p := ⟨V, 2, none⟩) hVs).trans g2
                go_simp
                try with_reducible rfl
              simp only [Act.put, List.setIfInBounds_toArray, List.set_cons_zero, List.set_cons_succ]
              refine hs_take (i := 15) (d := some 150) (v := ?_) rfl (by kernel_rfl) (by kernel_rfl) (by kernel_rfl) (by rfl) ?_ hS rfl ?_
              rotate_left
              · intro w' hw
                have f1 := (hw.cell (p := ⟨V, 1, none⟩) hVs).trans g1; have f2 := (hw.cell (p := ⟨V, 2, none⟩) hVs).trans g2
                go_simp
                try with_reducible rfl
              simp only [Act.put, List.setIfInBounds_toArray, List.set_cons_zero, List.set_cons_succ]
              refine hs_take (i := 21) (d := some 156) (v := ?_) rfl (by kernel_rfl) (by kernel_rfl) (by kernel_rfl) (by rfl) ?_ hS rfl ?_
              rotate_left
              · intro w' hw
                have f1 := (hw.cell (p := ⟨V, 1, none⟩) hVs).trans g1; have f2 := (hw.cell (p := ⟨V, 2, none⟩) hVs).trans g2
                go_simp
                try with_reducible rfl
              simp only [Act.put, List.setIfInBounds_toArray, List.set_cons_zero, List.set_cons_succ]
              refine hs_take (i := 16) (d := some 151) (v := ?_) rfl (by kernel_rfl) (by kernel_rfl) (by kernel_rfl) (by rfl) ?_ hS rfl ?_
              rotate_left
              · intro w' hw
                have f1 := (hw.cell (p := ⟨V, 1, none⟩) hVs).trans g1; have f2 := (hw.cell (p := ⟨V, 2, none⟩) hVs).trans g2
                go_simp
                try with_reducible rfl
              simp only [Act.put, List.setIfInBounds_toArray, List.set_cons_zero, List.set_cons_succ]
              refine hs_take (i := 22) (d := some 157) (v := ?_) rfl (by kernel_rfl) (by kernel_rfl) (by kernel_rfl) (by rfl) ?_ hS rfl ?_
              rotate_left
              · intro w' hw
                have f1 := (hw.cell (p := ⟨V, 1, none⟩) hVs).trans g1; have f2 := (hw.cell (p := ⟨V, 2, none⟩) hVs).trans g2
                go_simp
                try with_reducible rfl
              simp only [Act.put, List.setIfInBounds_toArray, List.set_cons_zero, List.set_cons_succ]
              refine hs_call (i := 1) (d := some 136) rfl (by kernel_rfl) (by rfl) (by go_simp; first | done | exact ⟨rfl, rfl⟩ | with_reducible rfl) rfl ?_
              refine (refror_any a 2 2 rfl (by decide) (by decide) _).mono ?_
              rintro e' wn ⟨rfl, hwn⟩
              have hS : SB wn := hS.trans (by rw [hwn]; exact (Below.refl _ _).drew)
              refine ⟨_, rfl, hS, ?_⟩
              simp only [Act.put, List.setIfInBounds_toArray, List.set_cons_zero, List.set_cons_succ]
              refine hs_call (i := 3) (d := some 138) rfl (by kernel_rfl) (by rfl) (by go_simp; first | done | exact ⟨rfl, rfl⟩ | with_reducible rfl) rfl ?_
              refine (refror_any a 13 13 rfl (by decide) (by decide) _).mono ?_
              rintro e' wn ⟨rfl, hwn⟩
              have hS : SB wn := hS.trans (by rw [hwn]; exact (Below.refl _ _).drew)
              refine ⟨_, rfl, hS, ?_⟩
              simp only [Act.put, List.setIfInBounds_toArray, List.set_cons_zero, List.set_cons_succ]
              refine hs_take (i := 4) (d := some 139) (v := ?_) rfl (by kernel_rfl) (by kernel_rfl) (by kernel_rfl) (by rfl) ?_ hS rfl ?_
              rotate_left
              · intro w' hw
                have f1 := (hw.cell (p := ⟨V, 1, none⟩) hVs).trans g1; have f2 := (hw.cell (p := ⟨V, 2, none⟩) hVs).trans g2
                go_simp
                try with_reducible rfl
              simp only [Act.put, List.setIfInBounds_toArray, List.set_cons_zero, List.set_cons_succ]
              refine hs_call (i := 6) (d := some 141) rfl (by kernel_rfl) (by rfl) (by go_simp; first | done | exact ⟨rfl, rfl⟩ | with_reducible rfl) rfl ?_
              refine (refror_any a 22 22 rfl (by decide) (by decide) _).mono ?_
              rintro e' wn ⟨rfl, hwn⟩
              have hS : SB wn := hS.trans (by rw [hwn]; exact (Below.refl _ _).drew)
              refine ⟨_, rfl, hS, ?_⟩
              simp only [Act.put, List.setIfInBounds_toArray, List.set_cons_zero, List.set_cons_succ]
              refine hs_take (i := 7) (d := some 142) (v := ?_) rfl (by kernel_rfl) (by kernel_rfl) (by kernel_rfl) (by rfl) ?_ hS rfl ?_
              rotate_left
              · intro w' hw
                have f1 := (hw.cell (p := ⟨V, 1, none⟩) hVs).trans g1; have f2 := (hw.cell (p := ⟨V, 2, none⟩) hVs).trans g2
                go_simp
                try with_reducible rfl
              simp only [Act.put, List.setIfInBounds_toArray, List.set_cons_zero, List.set_cons_succ]
              refine hs_take (i := 23) (d := some 158) (v := ?_) rfl (by kernel_rfl) (by kernel_rfl) (by kernel_rfl) (by rfl) ?_ hS rfl ?_
              rotate_left
              · intro w' hw
                have f1 := (hw.cell (p := ⟨V, 1, none⟩) hVs).trans g1; have f2 := (hw.cell (p := ⟨V, 2, none⟩) hVs).trans g2
                go_simp
                try with_reducible rfl
              simp only [Act.put, List.setIfInBounds_toArray, List.set_cons_zero, List.set_cons_succ]
              refine hs_take (i := 24) (d := some 15) (v := ?_) rfl (by kernel_rfl) (by kernel_rfl) (by kernel_rfl) (by rfl) ?_ hS rfl ?_
              rotate_left
              · intro w' hw
                have f1 := (hw.cell (p := ⟨V, 1, none⟩) hVs).trans g1; have f2 := (hw.cell (p := ⟨V, 2, none⟩) hVs).trans g2
                go_simp
                try with_reducible rfl
              simp only [Act.put, List.setIfInBounds_toArray, List.set_cons_zero, List.set_cons_succ]
              refine hs_done (by kernel_rfl) ?_
              go_upto_region 20 with fail
              go_name_world w4 hw4
              have hS4 : Below wr.heap.size wr w4 := by rw [← hw4]; exact hS
              clear hw4 hS
              have f1 := (hS4.cell (p := ⟨V, 1, none⟩) hVs).trans g1
              have f2 := (hS4.cell (p := ⟨V, 2, none⟩) hVs).trans g2
              have f3 := (hS4.cell (p := ⟨V, 3, none⟩) hVs).trans g3
              have f5 := (hS4.cell (p := ⟨V, 5, none⟩) hVs).trans g5
              have f6 := (hS4.cell (p := ⟨V, 6, none⟩) hVs).trans g6
              have hTV4 := there_below hTV hS4 hVs
              have hK4 := hK.below hS4
              have hV4 : V < w4.heap.size := Nat.lt_of_lt_of_le hVs hS4.size
              have A5 := add32 T1 T2
              have A6 := add32 d T1
              obtain ⟨T3, hT3⟩ : ∃ T3, Hid (T1 + T2 = T3) := ⟨_, rfl⟩
              obtain ⟨T4, hT4⟩ : ∃ T4, Hid (d + T1 = T4) := ⟨_, rfl⟩
              rw [hT3.out] at A5
              rw [hT4.out] at A6
              clear X1 X2 A1 C1 C2 C3 C4 A2 A3 A4 Y1 Y2 D1 D2 D3 D4 D5 D6 g0 g1 g2 g3 g4 g5 g6 g7 gx hK hV hTV
              have HNX : Hid (rounds ws (t + 1) s = ⟨T3, a, b', c, T4, e, f, g⟩) := by
                show _ = _
                rw [hnx.out, hr.out, hT3.out, hT4.out]
              clear hT1 hT2 hr hnx hst hT3 hT4
              obtain ⟨q0, hq0⟩ := Option.isSome_iff_exists.1 (hTV4 0 (by omega)).1
              have hz0 := (hTV4 0 (by omega)).2
              obtain ⟨q1, hq1⟩ := Option.isSome_iff_exists.1 (hTV4 1 (by omega)).1
              have hz1 := (hTV4 1 (by omega)).2
              obtain ⟨q2, hq2⟩ := Option.isSome_iff_exists.1 (hTV4 2 (by omega)).1
              have hz2 := (hTV4 2 (by omega)).2
              obtain ⟨q3, hq3⟩ := Option.isSome_iff_exists.1 (hTV4 3 (by omega)).1
              have hz3 := (hTV4 3 (by omega)).2
              obtain ⟨q4, hq4⟩ := Option.isSome_iff_exists.1 (hTV4 4 (by omega)).1
              have hz4 := (hTV4 4 (by omega)).2
              obtain ⟨q5, hq5⟩ := Option.isSome_iff_exists.1 (hTV4 5 (by omega)).1
              have hz5 := (hTV4 5 (by omega)).2
              obtain ⟨q6, hq6⟩ := Option.isSome_iff_exists.1 (hTV4 6 (by omega)).1
              have hz6 := (hTV4 6 (by omega)).2
              obtain ⟨q7, hq7⟩ := Option.isSome_iff_exists.1 (hTV4 7 (by omega)).1
              have hz7 := (hTV4 7 (by omega)).2
              simp only [Nat.zero_add] at hq0 hq1 hq2 hq3 hq4 hq5 hq6 hq7 hz0 hz1 hz2 hz3 hz4 hz5 hz6 hz7
              go_upto_region 15 with fail
              go_name_world w5 hw5
              have e5 : w4.setCells V 0 (v32 (list ⟨T3, a, b', c, T4, e, f, g⟩)) = w5 := hw5
              have hK5 : Bk w w5 cs ws := by rw [← e5]; exact hK4.past hVw _
              have hV5 : w5.rangeAt V 0 (v32 (list ⟨T3, a, b', c, T4, e, f, g⟩)) := by rw [← e5]; exact World.rangeAt_setCells_same w4 V 0 _ hTV4
              have hT5 : w5.there V 0 8 := by rw [← e5]; exact World.there_setCells hTV4 _ _ _
              have hs5 : V < w5.heap.size := by rw [← e5, size_sets]; exact hV4
              clear hw5 e5 hq0 hq1 hq2 hq3 hq4 hq5 hq6 hq7 hz0 hz1 hz2 hz3 hz4 hz5 hz6 hz7 f1 f2 f3 f5 f6 A5 A6 hK4 hTV4 hV4 hS4
              go_wp2_with fail
              go_roundw
              case rel => exact ⟨t + 1, _, by omega, by go_num, HNX, hK5, hV5, hT5, hs5⟩
              case measure => simp [intOf]; omega
            · have hlt' : ¬ (t : Int) < 64 := by omega
              have hbox := hK.box
              rw [← hcs0.out] at hbox
              have hbel := hK.bel
              have htb := hK.tb
              have htr := hK.tr
              have hVw2 : w.heap.size + 1 < V := by omega
              clear hK hVw
              go_wp2_with fail
              go_loopw [16] (fun i wr => ∃ j : Nat, j ≤ 8 ∧ i = .int .i64 (j : Int) ∧ wr.rangeAt w.heap.size 0 (v32 (mix s ⟨a, b', c, d, e, f, g, hh⟩ j)) ∧ wr.there w.heap.size 0 8 ∧ wr.there (w.heap.size + 1) 0 8 ∧ wr.rangeAt V 0 (v32 (list ⟨a, b', c, d, e, f, g, hh⟩)) ∧ Below w.heap.size w wr) (fun i _ => 8 - (intOf i).toNat)
              case atStart => exact ⟨0, by omega, rfl, hbox, htb, htr, hV, hbel⟩
              case round =>
                clear hbox htb htr hV hbel hTV
                obtain ⟨j, hj, rfl, hbox, htb, htr, hV, hbel⟩ := hrel
                by_cases hl8 : j < 8
                · obtain ⟨x, y, gx, gy, hmx⟩ := mix_step2 (wr := wr) s a b' c d e f g hh j hl8 hbox hV
                  have hf := (htb j hl8).2
                  rw [Nat.zero_add] at hf
                  have hxl := x.isLt
                  have hyl := y.isLt
                  go_wp2_with fail
                  go_region
                  go_wp2_with fail
                  rw [add32]
                  go_roundw
                  case rel =>
                    refine ⟨j + 1, by omega, by go_num, ?_, (World.there_drew _ _ _ _).2 (there_set htb _ _), (World.there_drew _ _ _ _).2 (there_set htr _ _), (World.rangeAt_drew _ _ _ _).2 (range_other hV _ _ (fun e => absurd e (by show w.heap.size ≠ V; omega))), (hbel.setCell (p := ⟨w.heap.size, j, none⟩) (Nat.le_refl _) _).drew⟩
                    have := range_set hbox j (.int .u32 ((y + x).toNat : Int))
                    rw [Nat.zero_add, v32_set, hmx.out] at this
                    exact (World.rangeAt_drew _ _ _ _).2 this
                  case measure => simp [intOf]; omega
                · have hj8 : j = 8 := by omega
                  have hj' : ¬ (j : Int) < 8 := by omega
                  have hres : Hid (v32 (list (plus s (rounds ws 64 s))) = v32 (mix s ⟨a, b', c, d, e, f, g, hh⟩ j)) := by
                    have ht64 : t = 64 := by omega
                    have e1 := hst.out
                    rw [ht64] at e1
                    rw [e1, hj8]; rfl
                  obtain ⟨rs, hrs0⟩ : ∃ rs, Hid (v32 (mix s ⟨a, b', c, d, e, f, g, hh⟩ j) = rs) := ⟨_, rfl⟩
                  have hrl : rs.length = 8 := by rw [← hrs0.out, hj8]; rfl
                  have h1r : ∀ v ∈ rs, v.oneCell' = true := by rw [← hrs0.out]; exact v32_one _
                  rw [hrs0.out] at hbox
                  have HRES : Hid (v32 (list (plus s (rounds ws 64 s))) = rs) := by rw [← hrs0.out]; exact hres
                  have hi : (Tryd.prog.info? 87).map (·.size) = some rs.length := by rw [hrl]; exact isz51'
                  clear hres hst hV hj8 hrs0
                  go_upto_region 25 with fail
                  refine wp_region_list ?_
                  refine wpList_load_mid rfl 87 _ rfl _ _ rfl rs _ hbox Tryd.underlying87 rfl hi ?_
                  refine wpList_store_mid rfl 87 _ _ rfl _ _ rs.toArray rfl rfl (by simpa [hrl] using htr) (by simpa using hi) (all_oneCell_toArray h1r) ?_
                  have hRr := World.rangeAt_setCells_same wr (w.heap.size + 1) 0 rs (by rw [hrl]; exact htr)
                  have hBl := below_sets (Nat.le_succ w.heap.size) rs 0 wr hbel
                  generalize wr.setCells (w.heap.size + 1) 0 rs = wx at *
                  have hrs := run_loadVar_mid (P := Tryd.prog) wx (w.heap.size + 1) 0 87 rs _ hRr Tryd.underlying87 rfl hi
                  clear hi
                  go_wp2_with fail
                  refine bodyPost_ret (v := .agg rs.toArray) (by simp [results, Tryd.results38, asAddr, hrs]) rfl ⟨by rw [HRES.out], hBl⟩
theorem block_any (s : St) (b off cap : Nat) (bs : List Int) (w : World) (hlen : bs.length = 64) (hb : ∀ z ∈ bs, 0 ≤ z ∧ z < 256) (hB : b < w.heap.size) (hc : w.rangeAt b off (v8 bs)) :
   Calls Tryd.prog 38 #[.agg (v32 (list s)).toArray, .slice (some ⟨b, off, none⟩) 64 cap] w fun e w' => e = .returned (.agg (v32 (list (Sha.block s bs))).toArray) ∧ Below w.heap.size w w' :=
  block_ws s b off cap bs (spread bs) w 48 rfl rfl hlen hb hB hc
end Go.Proofs.YtogmkcabndgllaaDoor
