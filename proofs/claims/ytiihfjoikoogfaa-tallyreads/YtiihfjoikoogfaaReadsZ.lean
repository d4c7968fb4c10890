/- The law of readers: the walk of TallyReads. -/
import Derived.Test.YtiihfjoikoogfaaTwoZ
import Derived.Test.YtiihfjoikoogfaaHsZ
import Derived.Deep.QuietTactic
import Derived.Deep.Cut
import Derived.Deep.MidRow
import Derived.BigQuiet
namespace Go.Proofs.Ytiihfjoikoogfaa
open Go.RowKit
open Tal
/-- a slice of acts: kinds and numbers -/
def ActsAt (w : World) (a : Option Addr) (ax : List (Int × Int)) : Prop :=
  ax = [] ∨ ∃ b off, a = some ⟨b, off, none⟩ ∧ b < w.heap.size ∧ ∀ j (h : j < ax.length), w.cell? ⟨b, off + j * 2, none⟩ = some (.int .i64 ax[j].1) ∧ w.cell? ⟨b, off + j * 2 + 1, none⟩ = some (.int .i64 ax[j].2)
theorem below_drewN {n : Nat} {w W : World} (h : Below n w W) (k : Nat) : Below n w (W.drewN k) := ⟨h.os, h.tape, h.output, h.size, fun j hj => h.block j hj⟩
theorem ne_some {A R : Nat} {j : Nat} (h : A ≠ R) : some (⟨A, j, none⟩ : Addr).block ≠ some R := fun q => h (Option.some.inj q)
theorem cell_at (w : World) (arr : Array Value) (t : TypeId) (j : Nat) : (w.alloc (.cells arr t)).cell? ⟨w.heap.size, j, none⟩ = arr[j]? := World.cell?_alloc_at _ _ _ _ rfl
theorem numS_len (rest : List Int) (e m : Int) : (numS rest e m).2.1.length ≤ rest.length := by
  unfold numS; split
  · split
    · split
      · exact Nat.le_refl _
      · simp
    · exact Nat.le_refl _
  · exact Nat.le_refl _
theorem textS_len (rest : List Int) (e m : Int) : (textS rest e m).2.1.length ≤ rest.length := by
  have := numS_len rest e 9223372036854775807
  unfold textS; split
  · split
    · exact Nat.le_refl _
    · split
      · exact Nat.le_refl _
      · simp; omega
  · exact Nat.le_refl _
theorem rawS_len (rest : List Int) (e m : Int) : (rawS rest e m).2.1.length ≤ rest.length := by
  unfold rawS; split
  · split
    · exact Nat.le_refl _
    · split
      · exact Nat.le_refl _
      · simp
  · exact Nat.le_refl _
theorem rawS_take (rest : List Int) (e m : Int) : (rawS rest e m).1.length ≤ rest.length := by
  unfold rawS; split
  · split
    · simp
    · split
      · simp
      · simp; omega
  · simp
/-- bytes that may be written -/
def Bs (W : World) (B : Nat) (a : Option Addr) (n : Nat) : Prop := n = 0 ∨ ∃ g, a = some ⟨g, 0, none⟩ ∧ B ≤ g ∧ ∀ i, i < n → ∃ z, W.cell? ⟨g, i, none⟩ = some (.int .u8 z) ∧ W.frozen? ⟨g, i, none⟩ = false
theorem Bs.some {W : World} {B : Nat} {a : Option Addr} {n : Nat} (h : Bs W B a n) (hn : 0 < n) : ∃ g, a = some ⟨g, 0, none⟩ ∧ B ≤ g ∧ ∀ i, i < n → ∃ z, W.cell? ⟨g, i, none⟩ = some (.int .u8 z) ∧ W.frozen? ⟨g, i, none⟩ = false := by
  rcases h with h | h
  · omega
  · exact h
theorem bs_set {W : World} {g n : Nat} (h : ∀ i, i < n → ∃ z, W.cell? ⟨g, i, none⟩ = some (.int .u8 z) ∧ W.frozen? ⟨g, i, none⟩ = false) (i : Nat) (hi : i < n) (j : Nat) (z' : Int) : ∃ z, (W.setCell ⟨g, j, none⟩ (.int .u8 z')).cell? ⟨g, i, none⟩ = some (.int .u8 z) ∧ (W.setCell ⟨g, j, none⟩ (.int .u8 z')).frozen? ⟨g, i, none⟩ = false := by
  obtain ⟨z, hz, hf⟩ := h i hi
  by_cases e : i = j
  · subst e
    exact ⟨z', World.cell?_setCell_same _ _ _ hz, (World.frozen?_setCell _ _ _ _).trans hf⟩
  · exact ⟨z, (World.cell?_setCell_other _ _ _ _ (by intro q; injection q with _ q _; omega)).trans hz, (World.frozen?_setCell _ _ _ _).trans hf⟩
theorem Mine.gb {w w' : World} {B g : Nat} {v : Value} {zs : List Int} (h : Mine w B v zs) (hg : w.grownBy w' (some g)) (hb : g < B) : Mine w' B v zs := by
  refine ⟨⟨h.1.1, ?_⟩, h.2⟩
  rcases h.1.2 with h | ⟨b, cap, cur, hv, hB, hh, r⟩
  · exact .inl h
  · exact .inr ⟨b, cap, cur, hv, hB, by rw [hg.block b (Array.getElem?_eq_some_iff.1 hh).1 (by intro q; injection q with q; omega)]; exact hh, r⟩
theorem Mine.bytes {w : World} {B : Nat} {a : Option Addr} {cap n : Nat} {zs : List Int} (h : Mine w B (.slice a n cap) zs) : Bs w B a n := by
  rcases h.1.2 with ⟨h, h0⟩ | ⟨b, cap', cur, hv, hB, hh, hn, hm, hs, ht⟩
  · left; injection h
  · injection hv with h1 h2 h3
    subst h1 h2
    refine .inr ⟨b, rfl, hB, fun i hi => ?_⟩
    have hl : (cur.toList.take (zs.length * 1))[i]? = (zs.map (Value.int .u8))[i]? := by rw [ht]
    rw [List.getElem?_take, if_pos (by omega), List.getElem?_map, List.getElem?_eq_getElem (l := zs) (by omega)] at hl
    refine ⟨zs[i], ?_, ?_⟩
    · simp only [World.cell?, hh]
      rw [← Array.getElem?_toList]; exact hl
    · simp [World.frozen?, hh]
theorem RowAt.kept {w W : World} {a : Option Addr} {zs : List Int} {R X : Nat} (h : RowAt w a zs) (hk : Kept w R X W) (hne : ∀ x, a = some x → zs ≠ [] → x.block ≠ R ∧ x.block ≠ X) : RowAt W a zs := by
  refine ⟨h.1, h.2.1, ?_⟩
  rcases h.2.2 with h0 | ⟨b, off, rfl, h1, h2⟩
  · exact Or.inl h0
  · by_cases hz : zs = []
    · exact Or.inl hz
    · obtain ⟨n1, n2⟩ := hne _ rfl hz
      exact Or.inr ⟨b, off, rfl, Nat.lt_of_lt_of_le h1 hk.size, fun j hj => (cell_block (hk.block b h1 n1 n2)).1.trans (h2 j hj)⟩
set_option maxRecDepth 100000 in
set_option maxHeartbeats 4000000 in
theorem reads_walk (a : Option Addr) (cap : Nat) (zs : List Int) (a2 : Option Addr) (cap2 : Nat) (ax : List (Int × Int)) (w : World) (h : RowAt w a zs) (hl : zs.length ≤ 5000) (ha : ActsAt w a2 ax) (hal : ax.length ≤ 500) :
    Calls Try.prog 4 #[.slice a zs.length cap, .slice a2 ax.length cap2] w fun e w' => e = .returned (.bool true) ∧ Below w.heap.size w w' := by
  have k1 : ¬ (5000 : Int) < zs.length := by omega
  have k2 : ¬ (500 : Int) < ax.length := by omega
  obtain ⟨i0, hi, hz0, hz1, hz2⟩ := info_parts info5
  go_enter Try.func4, Try.ntmps4
  go_wp2_with (at_builtin; refine wpList_append_own_src _ rfl _ _ 22 22 rfl w.heap.size 5 i0 (.int .u8 0) 1 1 Try.underlying22 hi hz0 hz1 hz2 rfl _ 0 [] rfl (World.ownsRow_made w #[] 0 (Nat.le_refl _) (by simp) (by simp)) (.slice a zs.length cap) zs.length (zs.map (Value.int .u8)) rfl ((h.below ((Below.refl _ _).alloc (Nat.le_refl _) _)).src cap) ?c1 ?c2 ?c3 ?_)
  case c1 => unfold maxLen; omega
  case c2 => omega
  intro v' w1 hown hgrow
  have hB1 : Below w.heap.size w w1 := ((Below.refl _ _).alloc (Nat.le_refl _) _).grown hgrow (by simp) (fun k hk => by simp [Value.ownBlock] at hk; omega)
  have hmine : Mine w1 w.heap.size v' zs := ⟨by simpa using hown, h.2.1⟩
  clear hown hgrow hi hz0 hz1 hz2
  obtain ⟨ao, capo, rfl, hco, hcm, hro⟩ := hmine.rowAt (by unfold maxLen; omega)
  clear hmine
  go_wp2_with fail
  refine (read_any ao capo zs w1 hro (by omega)).mono ?_
  rintro e w2 ⟨R, rfl, hR1, hst, hB2'⟩
  have hR2 : R < w2.heap.size := hst.1.1
  have hB2 := hB1.trans (hB2'.mono hB1.size)
  have hro2 := hro.below hB2'
  go_wp2_with fail
  refine (refRead_any a cap zs w2 (h.below hB2) hl).mono ?_
  rintro e w3 ⟨X, rfl, hX1, hrs, hB3'⟩
  have hX3 : X < w3.heap.size := by obtain ⟨_, _, hh, _⟩ := hrs; exact hh.1
  have hB3 := hB2.trans (hB3'.mono hB2.size)
  have hro3 := hro2.below hB3'
  have hobl : ∀ x, ao = some x → zs ≠ [] → x.block < w1.heap.size := by
    intro x hx hne
    rcases hro.2.2 with h0 | ⟨b, off, hb, hlt, _⟩
    · exact absurd h0 hne
    · rw [hb] at hx; injection hx with hx; subst hx; exact hlt
  have hT0 : Two w2.heap.size w3 R X w3 zs 0 := ⟨hst.below hB3', hrs, Kept.refl _ _ _⟩
  have hRX : R < X := by omega
  have hR0 : w.heap.size ≤ R := Nat.le_trans hB1.size hR1
  have hX0 : w.heap.size ≤ X := by omega
  clear hst hrs hB2' hB3' hB2
  go_wp2_with fail
  go_loopw [31] (fun kv wr => ∃ (k : Nat) (rest : List Int) (e : Int), k ≤ ax.length ∧ kv = .int .i64 (k : Int) ∧ rest.length ≤ 5000 ∧ Two w2.heap.size w3 R X wr rest e) (fun kv _ => ax.length - (intOf kv).toNat)
  case atStart => exact ⟨0, zs, 0, by omega, rfl, hl, hT0⟩
  case round =>
    clear hT0
    obtain ⟨k, rest, e, hk, rfl, hrl, hT⟩ := hrel
    have hBw := hT.kept.to hB3 hR0 hX0
    by_cases hlt : k < ax.length
    · have hkl : (k : Int) < ax.length := by omega
      obtain ⟨b, off, rfl, hbb, hcc⟩ : ∃ b off, a2 = some ⟨b, off, none⟩ ∧ b < w.heap.size ∧ ∀ j (h : j < ax.length), w.cell? ⟨b, off + j * 2, none⟩ = some (.int .i64 ax[j].1) ∧ w.cell? ⟨b, off + j * 2 + 1, none⟩ = some (.int .i64 ax[j].2) := by
        rcases ha with rfl | h
        · simp at hlt
        · exact h
      obtain ⟨g1, g2⟩ := hcc k hlt
      have q1 := (hBw.cell (p := ⟨b, off + k * 2, none⟩) hbb).trans g1
      have q2 := (hBw.cell (p := ⟨b, off + k * 2 + 1, none⟩) hbb).trans g2
      generalize ax[k].1 = K at *
      generalize ax[k].2 = N at *
      clear hcc g1 g2
      have hBa : Below wr.heap.size wr (wr.alloc (.cells #[.int .i64 K, .int .i64 N] 34)) := (Below.refl _ _).alloc (Nat.le_refl _) _
      have hca0 : (wr.alloc (.cells #[.int .i64 K, .int .i64 N] 34)).cell? ⟨wr.heap.size, 0, none⟩ = some (.int .i64 K) := cell_at wr #[.int .i64 K, .int .i64 N] 34 0
      have hca1 : (wr.alloc (.cells #[.int .i64 K, .int .i64 N] 34)).cell? ⟨wr.heap.size, 1, none⟩ = some (.int .i64 N) := cell_at wr #[.int .i64 K, .int .i64 N] 34 1
      go_upto_region 9 with fail
      have hAz : wr.heap.size < (wr.alloc (.cells #[.int .i64 K, .int .i64 N] 34)).heap.size := by simp
      have hA3 : w3.heap.size ≤ wr.heap.size := hT.kept.size
      obtain ⟨w4, hw4⟩ : ∃ w4, wr.alloc (.cells #[.int .i64 K, .int .i64 N] 34) = w4 := ⟨_, rfl⟩
      rw [hw4] at hBa hca0 hca1 hAz ⊢
      have hT4 := hT.below hBa
      obtain ⟨A, hA⟩ : ∃ A, Hid (wr.heap.size = A) := ⟨_, hide rfl⟩
      rw [hA.out] at hca0 hca1 hAz hA3 ⊢
      have hXA : X < A := by omega
      clear hw4 hT hBa hBw q1 q2
      by_cases hK0 : K = 0
      · subst hK0
        go_wp2_with fail
        have hT5 := hT4.below (Below.refl w4.heap.size w4).drew
        have hS0 : w4.drew.cell? ⟨A, 1, none⟩ = some (.int .i64 N) := hca1
        obtain ⟨w5, hw5⟩ : ∃ w5, w4.drew = w5 := ⟨_, rfl⟩
        rw [hw5] at hT5 hS0
        refine hs_begin (S := (fun W : World => W.cell? ⟨A, 1, none⟩ = some (.int .i64 N))) 10 rfl (by kernel_rfl) ?_
        rw [hw5]
        clear hw5 hT4 hca0 hca1
        have hS : (fun W : World => W.cell? ⟨A, 1, none⟩ = some (.int .i64 N)) w5 := hS0
        have cO := num_any R rest e N w5 hT5.own
        have cD := fun w0 h0 => refNum_any (B := w2.heap.size) X rest e N w0 h0
        obtain ⟨v9, hv9⟩ : ∃ v9, Hid ((numS rest e N).1 = v9) := ⟨_, hide rfl⟩
        obtain ⟨q9, hq9⟩ : ∃ q9, Hid ((numS rest e N).2.1 = q9) := ⟨_, hide rfl⟩
        obtain ⟨d9, hd9⟩ : ∃ d9, Hid ((numS rest e N).2.2 = d9) := ⟨_, hide rfl⟩
        have hql : q9.length ≤ 5000 := by rw [← hq9.out]; exact Nat.le_trans (numS_len rest e N) hrl
        simp only [hv9.out, hq9.out, hd9.out] at cO cD
        refine hs_take (i := 0) (d := some 63) (v := ?_) rfl (by kernel_rfl) (by kernel_rfl) (by kernel_rfl) (by rfl) ?_ hS rfl ?_
        rotate_left
        · intro w' hw
          go_simp
          try with_reducible rfl
        simp only [Act.put, List.setIfInBounds_toArray, List.set_cons_zero, List.set_cons_succ]
        refine hs_take (i := 1) (d := some 64) (v := ?_) rfl (by kernel_rfl) (by kernel_rfl) (by kernel_rfl) (by rfl) ?_ hS rfl ?_
        rotate_left
        · intro w' hw
          go_simp
          try with_reducible rfl
        simp only [Act.put, List.setIfInBounds_toArray, List.set_cons_zero, List.set_cons_succ]
        refine hs_take (i := 2) (d := some 65) (v := ?_) rfl (by kernel_rfl) (by kernel_rfl) (by kernel_rfl) (by rfl) ?_ hS rfl ?_
        rotate_left
        · intro w' hw
          have q := hw
          go_simp
          try with_reducible rfl
        simp only [Act.put, List.setIfInBounds_toArray, List.set_cons_zero, List.set_cons_succ]
        refine hs_take (i := 4) (d := some 67) (v := ?_) rfl (by kernel_rfl) (by kernel_rfl) (by kernel_rfl) (by rfl) ?_ hS rfl ?_
        rotate_left
        · intro w' hw
          go_simp
          try with_reducible rfl
        simp only [Act.put, List.setIfInBounds_toArray, List.set_cons_zero, List.set_cons_succ]
        refine hs_take (i := 5) (d := some 68) (v := ?_) rfl (by kernel_rfl) (by kernel_rfl) (by kernel_rfl) (by rfl) ?_ hS rfl ?_
        rotate_left
        · intro w' hw
          go_simp
          try with_reducible rfl
        simp only [Act.put, List.setIfInBounds_toArray, List.set_cons_zero, List.set_cons_succ]
        refine hs_take (i := 6) (d := some 69) (v := ?_) rfl (by kernel_rfl) (by kernel_rfl) (by kernel_rfl) (by rfl) ?_ hS rfl ?_
        rotate_left
        · intro w' hw
          have q := hw
          go_simp
          try with_reducible rfl
        simp only [Act.put, List.setIfInBounds_toArray, List.set_cons_zero, List.set_cons_succ]
        refine hs_call (i := 3) (d := some 66) rfl (by kernel_rfl) (by rfl) (by go_simp; first | done | exact ⟨rfl, rfl⟩ | with_reducible rfl) rfl ?_
        refine (cO).mono ?_
        rintro e' w6 ⟨rfl, s6, g6⟩
        have hS : (fun W : World => W.cell? ⟨A, 1, none⟩ = some (.int .i64 N)) w6 := g6.cell hS (ne_some (by omega))
        refine ⟨_, rfl, hS, ?_⟩
        simp only [Act.put, List.setIfInBounds_toArray, List.set_cons_zero, List.set_cons_succ]
        have d6 := hT5.doc.gb g6 (.inl ⟨hR2, by omega⟩)
        refine hs_call (i := 7) (d := some 70) rfl (by kernel_rfl) (by rfl) (by go_simp; first | done | exact ⟨rfl, rfl⟩ | with_reducible rfl) rfl ?_
        refine (cD w6 d6).mono ?_
        rintro e' w7 ⟨rfl, d7, g7⟩
        have hS : (fun W : World => W.cell? ⟨A, 1, none⟩ = some (.int .i64 N)) w7 := g7.cell hS (ne_some (by omega))
        refine ⟨_, rfl, hS, ?_⟩
        simp only [Act.put, List.setIfInBounds_toArray, List.set_cons_zero, List.set_cons_succ]
        have hT7 := hT5.step hRX hR2 s6 g6 (fun _ => ⟨d7, g7⟩)
        refine hs_take (i := 8) (d := some 71) (v := .bool true) rfl (by kernel_rfl) (by kernel_rfl) (by kernel_rfl) (by rfl) (fun w' hw => by go_simp) hS rfl ?_
        simp only [Act.put, List.setIfInBounds_toArray, List.set_cons_zero, List.set_cons_succ]
        refine hs_take (i := 9) (d := some 10) (v := ?_) rfl (by kernel_rfl) (by kernel_rfl) (by kernel_rfl) (by rfl) ?_ hS rfl ?_
        rotate_left
        · intro w' hw
          go_simp
          try with_reducible rfl
        simp only [Act.put, List.setIfInBounds_toArray, List.set_cons_zero, List.set_cons_succ]
        refine hs_done (by kernel_rfl) ?_
        clear cO cD s6 g6 d6 d7 g7 hS hS0 hT5
        go_wp2_with fail
        have hTS := hT7.below (Below.refl w7.heap.size w7).drew
        obtain ⟨wS, hwS⟩ : ∃ wS, w7.drew = wS := ⟨_, rfl⟩
        rw [hwS] at hTS
        refine hs_begin (S := (Below wS.heap.size wS)) 25 rfl (by kernel_rfl) ?_
        rw [hwS]
        clear hwS
        obtain ⟨r9, hr9⟩ : ∃ r9, Hid (q9 = r9) := ⟨_, hide rfl⟩
        obtain ⟨e9, he9⟩ : ∃ e9, Hid (d9 = e9) := ⟨_, hide rfl⟩
        rw [hr9.out, he9.out] at hTS
        have hS : (Below wS.heap.size wS) wS := Below.refl _ _
        have hXl : X < wS.heap.size := by obtain ⟨_, _, hh, _⟩ := hTS.doc; exact hh.1
        have cX : wS.cell? ⟨X, 2, none⟩ = some (.int .i64 e9) := by obtain ⟨_, _, hh, _⟩ := hTS.doc; exact hh.2.2.2.1
        have lv := fun w0 h0 => leftR_any R r9 e9 w0 h0
        have lr := fun w0 h0 => refLeft_any (B := w2.heap.size) X r9 e9 w0 h0
        obtain ⟨L9, hL9⟩ : ∃ L9, Hid ((if e9 = 0 then (r9.length : Int) else 0) = L9) := ⟨_, hide rfl⟩
        simp only [hL9.out] at lv lr
        have dv := fun w0 h0 => doneC_any R r9 e9 w0 h0
        have dr := fun w0 h0 => refDone_any (B := w2.heap.size) X r9 e9 w0 h0
        obtain ⟨D9, hD9⟩ : ∃ D9, Hid (doneR r9 e9 = D9) := ⟨_, hide rfl⟩
        simp only [hD9.out] at dv dr
        refine hs_take (i := 0) (d := some 83) (v := ?_) rfl (by kernel_rfl) (by kernel_rfl) (by kernel_rfl) (by rfl) ?_ hS rfl ?_
        rotate_left
        · intro w' hw
          go_simp
          try with_reducible rfl
        simp only [Act.put, List.setIfInBounds_toArray, List.set_cons_zero, List.set_cons_succ]
        refine hs_take (i := 1) (d := some 84) (v := .bool false) rfl (by kernel_rfl) (by kernel_rfl) (by kernel_rfl) (by rfl) (fun w' hw => by go_simp) hS rfl ?_
        simp only [Act.put, List.setIfInBounds_toArray, List.set_cons_zero, List.set_cons_succ]
        refine hs_take (i := 2) (d := some 85) (v := ?_) rfl (by kernel_rfl) (by kernel_rfl) (by kernel_rfl) (by rfl) ?_ hS rfl ?_
        rotate_left
        · intro w' hw
          go_simp
          try with_reducible rfl
        simp only [Act.put, List.setIfInBounds_toArray, List.set_cons_zero, List.set_cons_succ]
        refine hs_take (i := 3) (d := some 86) (v := ?_) rfl (by kernel_rfl) (by kernel_rfl) (by kernel_rfl) (by rfl) ?_ hS rfl ?_
        rotate_left
        · intro w' hw
          go_simp
          try with_reducible rfl
        simp only [Act.put, List.setIfInBounds_toArray, List.set_cons_zero, List.set_cons_succ]
        refine hs_take (i := 5) (d := some 88) (v := ?_) rfl (by kernel_rfl) (by kernel_rfl) (by kernel_rfl) (by rfl) ?_ hS rfl ?_
        rotate_left
        · intro w' hw
          go_simp
          try with_reducible rfl
        simp only [Act.put, List.setIfInBounds_toArray, List.set_cons_zero, List.set_cons_succ]
        refine hs_call (i := 4) (d := some 87) rfl (by kernel_rfl) (by rfl) (by go_simp; first | done | exact ⟨rfl, rfl⟩ | with_reducible rfl) rfl ?_
        refine (lv wS (hTS.below hS).own).mono ?_
        rintro e' wa ⟨rfl, hx⟩
        have hS : (Below wS.heap.size wS) wa := by rw [hx]; exact hS
        refine ⟨_, rfl, hS, ?_⟩
        simp only [Act.put, List.setIfInBounds_toArray, List.set_cons_zero, List.set_cons_succ]
        clear hx
        refine hs_call (i := 6) (d := some 89) rfl (by kernel_rfl) (by rfl) (by go_simp; first | done | exact ⟨rfl, rfl⟩ | with_reducible rfl) rfl ?_
        refine (lr wa (hTS.below hS).doc).mono ?_
        rintro e' wb ⟨rfl, kk, hx⟩
        have hS : (Below wS.heap.size wS) wb := by rw [hx]; exact below_drewN hS _
        refine ⟨_, rfl, hS, ?_⟩
        simp only [Act.put, List.setIfInBounds_toArray, List.set_cons_zero, List.set_cons_succ]
        clear hx
        refine hs_take (i := 7) (d := some 90) (v := .bool false) rfl (by kernel_rfl) (by kernel_rfl) (by kernel_rfl) (by rfl) (fun w' hw => by go_simp) hS rfl ?_
        simp only [Act.put, List.setIfInBounds_toArray, List.set_cons_zero, List.set_cons_succ]
        refine hs_take (i := 8) (d := some 91) (v := ?_) rfl (by kernel_rfl) (by kernel_rfl) (by kernel_rfl) (by rfl) ?_ hS rfl ?_
        rotate_left
        · intro w' hw
          go_simp
          try with_reducible rfl
        simp only [Act.put, List.setIfInBounds_toArray, List.set_cons_zero, List.set_cons_succ]
        refine hs_take (i := 9) (d := some 92) (v := ?_) rfl (by kernel_rfl) (by kernel_rfl) (by kernel_rfl) (by rfl) ?_ hS rfl ?_
        rotate_left
        · intro w' hw
          go_simp
          try with_reducible rfl
        simp only [Act.put, List.setIfInBounds_toArray, List.set_cons_zero, List.set_cons_succ]
        refine hs_take (i := 10) (d := some 93) (v := ?_) rfl (by kernel_rfl) (by kernel_rfl) (by kernel_rfl) (by rfl) ?_ hS rfl ?_
        rotate_left
        · intro w' hw
          go_simp
          try with_reducible rfl
        simp only [Act.put, List.setIfInBounds_toArray, List.set_cons_zero, List.set_cons_succ]
        refine hs_take (i := 12) (d := some 95) (v := ?_) rfl (by kernel_rfl) (by kernel_rfl) (by kernel_rfl) (by rfl) ?_ hS rfl ?_
        rotate_left
        · intro w' hw
          go_simp
          try with_reducible rfl
        simp only [Act.put, List.setIfInBounds_toArray, List.set_cons_zero, List.set_cons_succ]
        refine hs_take (i := 13) (d := some 96) (v := ?_) rfl (by kernel_rfl) (by kernel_rfl) (by kernel_rfl) (by rfl) ?_ hS rfl ?_
        rotate_left
        · intro w' hw
          go_simp
          try with_reducible rfl
        simp only [Act.put, List.setIfInBounds_toArray, List.set_cons_zero, List.set_cons_succ]
        refine hs_take (i := 14) (d := some 97) (v := ?_) rfl (by kernel_rfl) (by kernel_rfl) (by kernel_rfl) (by rfl) ?_ hS rfl ?_
        rotate_left
        · intro w' hw
          go_simp
          try with_reducible rfl
        simp only [Act.put, List.setIfInBounds_toArray, List.set_cons_zero, List.set_cons_succ]
        refine hs_take (i := 15) (d := some 98) (v := ?_) rfl (by kernel_rfl) (by kernel_rfl) (by kernel_rfl) (by rfl) ?_ hS rfl ?_
        rotate_left
        · intro w' hw
          have q := (hw.cell (p := ⟨X, 2, none⟩) hXl).trans cX
          go_simp
          try with_reducible rfl
        simp only [Act.put, List.setIfInBounds_toArray, List.set_cons_zero, List.set_cons_succ]
        refine hs_call (i := 11) (d := some 94) rfl (by kernel_rfl) (by rfl) (by go_simp; first | done | exact ⟨rfl, rfl⟩ | with_reducible rfl) rfl ?_
        refine (err_made R e9 wb (hTS.below hS).own.1).mono ?_
        rintro e' wc ⟨rfl, hx⟩
        have hS : (Below wS.heap.size wS) wc := by rw [hx]; exact hS
        refine ⟨_, rfl, hS, ?_⟩
        simp only [Act.put, List.setIfInBounds_toArray, List.set_cons_zero, List.set_cons_succ]
        clear hx
        refine hs_take (i := 16) (d := some 99) (v := .bool false) rfl (by kernel_rfl) (by kernel_rfl) (by kernel_rfl) (by rfl) (fun w' hw => by go_simp) hS rfl ?_
        simp only [Act.put, List.setIfInBounds_toArray, List.set_cons_zero, List.set_cons_succ]
        refine hs_take (i := 17) (d := some 100) (v := ?_) rfl (by kernel_rfl) (by kernel_rfl) (by kernel_rfl) (by rfl) ?_ hS rfl ?_
        rotate_left
        · intro w' hw
          go_simp
          try with_reducible rfl
        simp only [Act.put, List.setIfInBounds_toArray, List.set_cons_zero, List.set_cons_succ]
        refine hs_take (i := 18) (d := some 101) (v := ?_) rfl (by kernel_rfl) (by kernel_rfl) (by kernel_rfl) (by rfl) ?_ hS rfl ?_
        rotate_left
        · intro w' hw
          go_simp
          try with_reducible rfl
        simp only [Act.put, List.setIfInBounds_toArray, List.set_cons_zero, List.set_cons_succ]
        refine hs_take (i := 19) (d := some 102) (v := ?_) rfl (by kernel_rfl) (by kernel_rfl) (by kernel_rfl) (by rfl) ?_ hS rfl ?_
        rotate_left
        · intro w' hw
          go_simp
          try with_reducible rfl
        simp only [Act.put, List.setIfInBounds_toArray, List.set_cons_zero, List.set_cons_succ]
        refine hs_take (i := 21) (d := some 104) (v := ?_) rfl (by kernel_rfl) (by kernel_rfl) (by kernel_rfl) (by rfl) ?_ hS rfl ?_
        rotate_left
        · intro w' hw
          go_simp
          try with_reducible rfl
        simp only [Act.put, List.setIfInBounds_toArray, List.set_cons_zero, List.set_cons_succ]
        refine hs_call (i := 20) (d := some 103) rfl (by kernel_rfl) (by rfl) (by go_simp; first | done | exact ⟨rfl, rfl⟩ | with_reducible rfl) rfl ?_
        refine (dv wc (hTS.below hS).own).mono ?_
        rintro e' wd ⟨rfl, hx⟩
        have hS : (Below wS.heap.size wS) wd := by rw [hx]; exact hS
        refine ⟨_, rfl, hS, ?_⟩
        simp only [Act.put, List.setIfInBounds_toArray, List.set_cons_zero, List.set_cons_succ]
        clear hx
        refine hs_call (i := 22) (d := some 105) rfl (by kernel_rfl) (by rfl) (by go_simp; first | done | exact ⟨rfl, rfl⟩ | with_reducible rfl) rfl ?_
        refine (dr wd (hTS.below hS).doc).mono ?_
        rintro e' we ⟨rfl, kk2, hx⟩
        have hS : (Below wS.heap.size wS) we := by rw [hx]; exact below_drewN hS _
        refine ⟨_, rfl, hS, ?_⟩
        simp only [Act.put, List.setIfInBounds_toArray, List.set_cons_zero, List.set_cons_succ]
        clear hx
        refine hs_take (i := 23) (d := some 106) (v := .bool false) rfl (by kernel_rfl) (by kernel_rfl) (by kernel_rfl) (by rfl) (fun w' hw => by go_simp) hS rfl ?_
        simp only [Act.put, List.setIfInBounds_toArray, List.set_cons_zero, List.set_cons_succ]
        refine hs_take (i := 24) (d := some 107) (v := ?_) rfl (by kernel_rfl) (by kernel_rfl) (by kernel_rfl) (by rfl) ?_ hS rfl ?_
        rotate_left
        · intro w' hw
          go_simp
          try with_reducible rfl
        simp only [Act.put, List.setIfInBounds_toArray, List.set_cons_zero, List.set_cons_succ]
        refine hs_done (by kernel_rfl) ?_
        have hTe := hTS.below hS
        have hrl9 : r9.length ≤ 5000 := by rw [← hr9.out]; exact hql
        clear lv lr dv dr cX hTS hS
        go_wp2_with fail
        go_roundw
        case rel => exact ⟨k + 1, r9, e9, by omega, by go_num, hrl9, hTe⟩
        case measure => simp [intOf]; omega
      · by_cases hK1 : K = 1
        · subst hK1
          go_wp2_with fail
          have hT5 := hT4.below (Below.refl w4.heap.size w4).drew
          have hS0 : w4.drew.cell? ⟨A, 1, none⟩ = some (.int .i64 N) := hca1
          obtain ⟨w5, hw5⟩ : ∃ w5, w4.drew = w5 := ⟨_, rfl⟩
          rw [hw5] at hT5 hS0
          refine hs_begin (S := (fun W : World => W.cell? ⟨A, 1, none⟩ = some (.int .i64 N))) 10 rfl (by kernel_rfl) ?_
          rw [hw5]
          clear hw5 hT4 hca0 hca1
          have hS : (fun W : World => W.cell? ⟨A, 1, none⟩ = some (.int .i64 N)) w5 := hS0
          have cO := text_any R rest e N w5 hT5.own hT5.own.pos
          have cD := fun w0 h0 => refText_any (B := w2.heap.size) X rest e N w0 h0
          obtain ⟨v9, hv9⟩ : ∃ v9, Hid ((textS rest e N).1 = v9) := ⟨_, hide rfl⟩
          obtain ⟨q9, hq9⟩ : ∃ q9, Hid ((textS rest e N).2.1 = q9) := ⟨_, hide rfl⟩
          obtain ⟨d9, hd9⟩ : ∃ d9, Hid ((textS rest e N).2.2 = d9) := ⟨_, hide rfl⟩
          have hql : q9.length ≤ 5000 := by rw [← hq9.out]; exact Nat.le_trans (textS_len rest e N) hrl
          simp only [hv9.out, hq9.out, hd9.out] at cO cD
          refine hs_take (i := 0) (d := some 74) (v := ?_) rfl (by kernel_rfl) (by kernel_rfl) (by kernel_rfl) (by rfl) ?_ hS rfl ?_
          rotate_left
          · intro w' hw
            go_simp
            try with_reducible rfl
          simp only [Act.put, List.setIfInBounds_toArray, List.set_cons_zero, List.set_cons_succ]
          refine hs_take (i := 1) (d := some 75) (v := ?_) rfl (by kernel_rfl) (by kernel_rfl) (by kernel_rfl) (by rfl) ?_ hS rfl ?_
          rotate_left
          · intro w' hw
            go_simp
            try with_reducible rfl
          simp only [Act.put, List.setIfInBounds_toArray, List.set_cons_zero, List.set_cons_succ]
          refine hs_take (i := 2) (d := some 76) (v := ?_) rfl (by kernel_rfl) (by kernel_rfl) (by kernel_rfl) (by rfl) ?_ hS rfl ?_
          rotate_left
          · intro w' hw
            have q := hw
            go_simp
            try with_reducible rfl
          simp only [Act.put, List.setIfInBounds_toArray, List.set_cons_zero, List.set_cons_succ]
          refine hs_take (i := 4) (d := some 78) (v := ?_) rfl (by kernel_rfl) (by kernel_rfl) (by kernel_rfl) (by rfl) ?_ hS rfl ?_
          rotate_left
          · intro w' hw
            go_simp
            try with_reducible rfl
          simp only [Act.put, List.setIfInBounds_toArray, List.set_cons_zero, List.set_cons_succ]
          refine hs_take (i := 5) (d := some 79) (v := ?_) rfl (by kernel_rfl) (by kernel_rfl) (by kernel_rfl) (by rfl) ?_ hS rfl ?_
          rotate_left
          · intro w' hw
            go_simp
            try with_reducible rfl
          simp only [Act.put, List.setIfInBounds_toArray, List.set_cons_zero, List.set_cons_succ]
          refine hs_take (i := 6) (d := some 80) (v := ?_) rfl (by kernel_rfl) (by kernel_rfl) (by kernel_rfl) (by rfl) ?_ hS rfl ?_
          rotate_left
          · intro w' hw
            have q := hw
            go_simp
            try with_reducible rfl
          simp only [Act.put, List.setIfInBounds_toArray, List.set_cons_zero, List.set_cons_succ]
          refine hs_call (i := 3) (d := some 77) rfl (by kernel_rfl) (by rfl) (by go_simp; first | done | exact ⟨rfl, rfl⟩ | with_reducible rfl) rfl ?_
          refine (cO).mono ?_
          rintro e' w6 ⟨rfl, s6, g6⟩
          have hS : (fun W : World => W.cell? ⟨A, 1, none⟩ = some (.int .i64 N)) w6 := g6.cell hS (ne_some (by omega))
          refine ⟨_, rfl, hS, ?_⟩
          simp only [Act.put, List.setIfInBounds_toArray, List.set_cons_zero, List.set_cons_succ]
          have d6 := hT5.doc.gb g6 (.inl ⟨hR2, by omega⟩)
          refine hs_call (i := 7) (d := some 81) rfl (by kernel_rfl) (by rfl) (by go_simp; first | done | exact ⟨rfl, rfl⟩ | with_reducible rfl) rfl ?_
          refine (cD w6 d6).mono ?_
          rintro e' w7 ⟨rfl, d7, g7⟩
          have hS : (fun W : World => W.cell? ⟨A, 1, none⟩ = some (.int .i64 N)) w7 := g7.cell hS (ne_some (by omega))
          refine ⟨_, rfl, hS, ?_⟩
          simp only [Act.put, List.setIfInBounds_toArray, List.set_cons_zero, List.set_cons_succ]
          have hT7 := hT5.step hRX hR2 s6 g6 (fun _ => ⟨d7, g7⟩)
          refine hs_take (i := 8) (d := some 82) (v := .bool true) rfl (by kernel_rfl) (by kernel_rfl) (by kernel_rfl) (by rfl) (fun w' hw => by go_simp) hS rfl ?_
          simp only [Act.put, List.setIfInBounds_toArray, List.set_cons_zero, List.set_cons_succ]
          refine hs_take (i := 9) (d := some 10) (v := ?_) rfl (by kernel_rfl) (by kernel_rfl) (by kernel_rfl) (by rfl) ?_ hS rfl ?_
          rotate_left
          · intro w' hw
            go_simp
            try with_reducible rfl
          simp only [Act.put, List.setIfInBounds_toArray, List.set_cons_zero, List.set_cons_succ]
          refine hs_done (by kernel_rfl) ?_
          clear cO cD s6 g6 d6 d7 g7 hS hS0 hT5
          go_wp2_with fail
          have hTS := hT7.below (Below.refl w7.heap.size w7).drew
          obtain ⟨wS, hwS⟩ : ∃ wS, w7.drew = wS := ⟨_, rfl⟩
          rw [hwS] at hTS
          refine hs_begin (S := (Below wS.heap.size wS)) 25 rfl (by kernel_rfl) ?_
          rw [hwS]
          clear hwS
          obtain ⟨r9, hr9⟩ : ∃ r9, Hid (q9 = r9) := ⟨_, hide rfl⟩
          obtain ⟨e9, he9⟩ : ∃ e9, Hid (d9 = e9) := ⟨_, hide rfl⟩
          rw [hr9.out, he9.out] at hTS
          have hS : (Below wS.heap.size wS) wS := Below.refl _ _
          have hXl : X < wS.heap.size := by obtain ⟨_, _, hh, _⟩ := hTS.doc; exact hh.1
          have cX : wS.cell? ⟨X, 2, none⟩ = some (.int .i64 e9) := by obtain ⟨_, _, hh, _⟩ := hTS.doc; exact hh.2.2.2.1
          have lv := fun w0 h0 => leftR_any R r9 e9 w0 h0
          have lr := fun w0 h0 => refLeft_any (B := w2.heap.size) X r9 e9 w0 h0
          obtain ⟨L9, hL9⟩ : ∃ L9, Hid ((if e9 = 0 then (r9.length : Int) else 0) = L9) := ⟨_, hide rfl⟩
          simp only [hL9.out] at lv lr
          have dv := fun w0 h0 => doneC_any R r9 e9 w0 h0
          have dr := fun w0 h0 => refDone_any (B := w2.heap.size) X r9 e9 w0 h0
          obtain ⟨D9, hD9⟩ : ∃ D9, Hid (doneR r9 e9 = D9) := ⟨_, hide rfl⟩
          simp only [hD9.out] at dv dr
          refine hs_take (i := 0) (d := some 83) (v := ?_) rfl (by kernel_rfl) (by kernel_rfl) (by kernel_rfl) (by rfl) ?_ hS rfl ?_
          rotate_left
          · intro w' hw
            go_simp
            try with_reducible rfl
          simp only [Act.put, List.setIfInBounds_toArray, List.set_cons_zero, List.set_cons_succ]
          refine hs_take (i := 1) (d := some 84) (v := .bool false) rfl (by kernel_rfl) (by kernel_rfl) (by kernel_rfl) (by rfl) (fun w' hw => by go_simp) hS rfl ?_
          simp only [Act.put, List.setIfInBounds_toArray, List.set_cons_zero, List.set_cons_succ]
          refine hs_take (i := 2) (d := some 85) (v := ?_) rfl (by kernel_rfl) (by kernel_rfl) (by kernel_rfl) (by rfl) ?_ hS rfl ?_
          rotate_left
          · intro w' hw
            go_simp
            try with_reducible rfl
          simp only [Act.put, List.setIfInBounds_toArray, List.set_cons_zero, List.set_cons_succ]
          refine hs_take (i := 3) (d := some 86) (v := ?_) rfl (by kernel_rfl) (by kernel_rfl) (by kernel_rfl) (by rfl) ?_ hS rfl ?_
          rotate_left
          · intro w' hw
            go_simp
            try with_reducible rfl
          simp only [Act.put, List.setIfInBounds_toArray, List.set_cons_zero, List.set_cons_succ]
          refine hs_take (i := 5) (d := some 88) (v := ?_) rfl (by kernel_rfl) (by kernel_rfl) (by kernel_rfl) (by rfl) ?_ hS rfl ?_
          rotate_left
          · intro w' hw
            go_simp
            try with_reducible rfl
          simp only [Act.put, List.setIfInBounds_toArray, List.set_cons_zero, List.set_cons_succ]
          refine hs_call (i := 4) (d := some 87) rfl (by kernel_rfl) (by rfl) (by go_simp; first | done | exact ⟨rfl, rfl⟩ | with_reducible rfl) rfl ?_
          refine (lv wS (hTS.below hS).own).mono ?_
          rintro e' wa ⟨rfl, hx⟩
          have hS : (Below wS.heap.size wS) wa := by rw [hx]; exact hS
          refine ⟨_, rfl, hS, ?_⟩
          simp only [Act.put, List.setIfInBounds_toArray, List.set_cons_zero, List.set_cons_succ]
          clear hx
          refine hs_call (i := 6) (d := some 89) rfl (by kernel_rfl) (by rfl) (by go_simp; first | done | exact ⟨rfl, rfl⟩ | with_reducible rfl) rfl ?_
          refine (lr wa (hTS.below hS).doc).mono ?_
          rintro e' wb ⟨rfl, kk, hx⟩
          have hS : (Below wS.heap.size wS) wb := by rw [hx]; exact below_drewN hS _
          refine ⟨_, rfl, hS, ?_⟩
          simp only [Act.put, List.setIfInBounds_toArray, List.set_cons_zero, List.set_cons_succ]
          clear hx
          refine hs_take (i := 7) (d := some 90) (v := .bool false) rfl (by kernel_rfl) (by kernel_rfl) (by kernel_rfl) (by rfl) (fun w' hw => by go_simp) hS rfl ?_
          simp only [Act.put, List.setIfInBounds_toArray, List.set_cons_zero, List.set_cons_succ]
          refine hs_take (i := 8) (d := some 91) (v := ?_) rfl (by kernel_rfl) (by kernel_rfl) (by kernel_rfl) (by rfl) ?_ hS rfl ?_
          rotate_left
          · intro w' hw
            go_simp
            try with_reducible rfl
          simp only [Act.put, List.setIfInBounds_toArray, List.set_cons_zero, List.set_cons_succ]
          refine hs_take (i := 9) (d := some 92) (v := ?_) rfl (by kernel_rfl) (by kernel_rfl) (by kernel_rfl) (by rfl) ?_ hS rfl ?_
          rotate_left
          · intro w' hw
            go_simp
            try with_reducible rfl
          simp only [Act.put, List.setIfInBounds_toArray, List.set_cons_zero, List.set_cons_succ]
          refine hs_take (i := 10) (d := some 93) (v := ?_) rfl (by kernel_rfl) (by kernel_rfl) (by kernel_rfl) (by rfl) ?_ hS rfl ?_
          rotate_left
          · intro w' hw
            go_simp
            try with_reducible rfl
          simp only [Act.put, List.setIfInBounds_toArray, List.set_cons_zero, List.set_cons_succ]
          refine hs_take (i := 12) (d := some 95) (v := ?_) rfl (by kernel_rfl) (by kernel_rfl) (by kernel_rfl) (by rfl) ?_ hS rfl ?_
          rotate_left
          · intro w' hw
            go_simp
            try with_reducible rfl
          simp only [Act.put, List.setIfInBounds_toArray, List.set_cons_zero, List.set_cons_succ]
          refine hs_take (i := 13) (d := some 96) (v := ?_) rfl (by kernel_rfl) (by kernel_rfl) (by kernel_rfl) (by rfl) ?_ hS rfl ?_
          rotate_left
          · intro w' hw
            go_simp
            try with_reducible rfl
          simp only [Act.put, List.setIfInBounds_toArray, List.set_cons_zero, List.set_cons_succ]
          refine hs_take (i := 14) (d := some 97) (v := ?_) rfl (by kernel_rfl) (by kernel_rfl) (by kernel_rfl) (by rfl) ?_ hS rfl ?_
          rotate_left
          · intro w' hw
            go_simp
            try with_reducible rfl
          simp only [Act.put, List.setIfInBounds_toArray, List.set_cons_zero, List.set_cons_succ]
          refine hs_take (i := 15) (d := some 98) (v := ?_) rfl (by kernel_rfl) (by kernel_rfl) (by kernel_rfl) (by rfl) ?_ hS rfl ?_
          rotate_left
          · intro w' hw
            have q := (hw.cell (p := ⟨X, 2, none⟩) hXl).trans cX
            go_simp
            try with_reducible rfl
          simp only [Act.put, List.setIfInBounds_toArray, List.set_cons_zero, List.set_cons_succ]
          refine hs_call (i := 11) (d := some 94) rfl (by kernel_rfl) (by rfl) (by go_simp; first | done | exact ⟨rfl, rfl⟩ | with_reducible rfl) rfl ?_
          refine (err_made R e9 wb (hTS.below hS).own.1).mono ?_
          rintro e' wc ⟨rfl, hx⟩
          have hS : (Below wS.heap.size wS) wc := by rw [hx]; exact hS
          refine ⟨_, rfl, hS, ?_⟩
          simp only [Act.put, List.setIfInBounds_toArray, List.set_cons_zero, List.set_cons_succ]
          clear hx
          refine hs_take (i := 16) (d := some 99) (v := .bool false) rfl (by kernel_rfl) (by kernel_rfl) (by kernel_rfl) (by rfl) (fun w' hw => by go_simp) hS rfl ?_
          simp only [Act.put, List.setIfInBounds_toArray, List.set_cons_zero, List.set_cons_succ]
          refine hs_take (i := 17) (d := some 100) (v := ?_) rfl (by kernel_rfl) (by kernel_rfl) (by kernel_rfl) (by rfl) ?_ hS rfl ?_
          rotate_left
          · intro w' hw
            go_simp
            try with_reducible rfl
          simp only [Act.put, List.setIfInBounds_toArray, List.set_cons_zero, List.set_cons_succ]
          refine hs_take (i := 18) (d := some 101) (v := ?_) rfl (by kernel_rfl) (by kernel_rfl) (by kernel_rfl) (by rfl) ?_ hS rfl ?_
          rotate_left
          · intro w' hw
            go_simp
            try with_reducible rfl
          simp only [Act.put, List.setIfInBounds_toArray, List.set_cons_zero, List.set_cons_succ]
          refine hs_take (i := 19) (d := some 102) (v := ?_) rfl (by kernel_rfl) (by kernel_rfl) (by kernel_rfl) (by rfl) ?_ hS rfl ?_
          rotate_left
          · intro w' hw
            go_simp
            try with_reducible rfl
          simp only [Act.put, List.setIfInBounds_toArray, List.set_cons_zero, List.set_cons_succ]
          refine hs_take (i := 21) (d := some 104) (v := ?_) rfl (by kernel_rfl) (by kernel_rfl) (by kernel_rfl) (by rfl) ?_ hS rfl ?_
          rotate_left
          · intro w' hw
            go_simp
            try with_reducible rfl
          simp only [Act.put, List.setIfInBounds_toArray, List.set_cons_zero, List.set_cons_succ]
          refine hs_call (i := 20) (d := some 103) rfl (by kernel_rfl) (by rfl) (by go_simp; first | done | exact ⟨rfl, rfl⟩ | with_reducible rfl) rfl ?_
          refine (dv wc (hTS.below hS).own).mono ?_
          rintro e' wd ⟨rfl, hx⟩
          have hS : (Below wS.heap.size wS) wd := by rw [hx]; exact hS
          refine ⟨_, rfl, hS, ?_⟩
          simp only [Act.put, List.setIfInBounds_toArray, List.set_cons_zero, List.set_cons_succ]
          clear hx
          refine hs_call (i := 22) (d := some 105) rfl (by kernel_rfl) (by rfl) (by go_simp; first | done | exact ⟨rfl, rfl⟩ | with_reducible rfl) rfl ?_
          refine (dr wd (hTS.below hS).doc).mono ?_
          rintro e' we ⟨rfl, kk2, hx⟩
          have hS : (Below wS.heap.size wS) we := by rw [hx]; exact below_drewN hS _
          refine ⟨_, rfl, hS, ?_⟩
          simp only [Act.put, List.setIfInBounds_toArray, List.set_cons_zero, List.set_cons_succ]
          clear hx
          refine hs_take (i := 23) (d := some 106) (v := .bool false) rfl (by kernel_rfl) (by kernel_rfl) (by kernel_rfl) (by rfl) (fun w' hw => by go_simp) hS rfl ?_
          simp only [Act.put, List.setIfInBounds_toArray, List.set_cons_zero, List.set_cons_succ]
          refine hs_take (i := 24) (d := some 107) (v := ?_) rfl (by kernel_rfl) (by kernel_rfl) (by kernel_rfl) (by rfl) ?_ hS rfl ?_
          rotate_left
          · intro w' hw
            go_simp
            try with_reducible rfl
          simp only [Act.put, List.setIfInBounds_toArray, List.set_cons_zero, List.set_cons_succ]
          refine hs_done (by kernel_rfl) ?_
          have hTe := hTS.below hS
          have hrl9 : r9.length ≤ 5000 := by rw [← hr9.out]; exact hql
          clear lv lr dv dr cX hTS hS
          go_wp2_with fail
          go_roundw
          case rel => exact ⟨k + 1, r9, e9, by omega, by go_num, hrl9, hTe⟩
          case measure => simp [intOf]; omega
        · have hk0 : (K == 0) = false := by simpa using hK0
          have hk1' : (K == 1) = false := by simpa using hK1
          go_wp2_with fail
          have cO := raw_any R rest e N w4 hT4.own hrl
          have cD := fun w0 h0 => refRaw_any (B := w2.heap.size) X rest e N w0 h0
          have hvl : (rawS rest e N).1.length ≤ 5000 := Nat.le_trans (rawS_take rest e N) hrl
          obtain ⟨v9, hv9⟩ : ∃ v9, Hid ((rawS rest e N).1 = v9) := ⟨_, hide rfl⟩
          obtain ⟨q9, hq9⟩ : ∃ q9, Hid ((rawS rest e N).2.1 = q9) := ⟨_, hide rfl⟩
          obtain ⟨d9, hd9⟩ : ∃ d9, Hid ((rawS rest e N).2.2 = d9) := ⟨_, hide rfl⟩
          have hql : q9.length ≤ 5000 := by rw [← hq9.out]; exact Nat.le_trans (rawS_len rest e N) hrl
          simp only [hv9.out, hq9.out, hd9.out] at cO cD
          rw [hv9.out] at hvl
          refine cO.mono ?_
          rintro e' w6 ⟨v6, rfl, m6, s6, g6⟩
          have hcell6 := g6.cell hca1 (ne_some (by omega))
          have d6 := hT4.doc.gb g6 (.inl ⟨hR2, by omega⟩)
          obtain ⟨a6, cap6, rfl, _, _, _⟩ := m6.rowAt (by unfold maxLen; omega)
          have h46 := g6.size
          clear cO hca0
          go_wp2_with fail
          have hS0 : w6.drew.cell? ⟨A, 1, none⟩ = some (.int .i64 N) := hcell6
          have m7 := m6.below (Below.refl w6.heap.size w6).drew
          have d7 := d6.below (Below.refl w6.heap.size w6).drew
          have s7 := s6.below (Below.refl w6.heap.size w6).drew
          have k7 := (hT4.kept.gb g6 (.inl rfl)).below (Below.refl w6.heap.size w6).drew
          have h47 : w4.heap.size ≤ w6.drew.heap.size := h46
          obtain ⟨w7, hw7⟩ : ∃ w7, w6.drew = w7 := ⟨_, rfl⟩
          rw [hw7] at hS0 m7 d7 s7 k7 h47
          refine hs_begin (S := (fun W : World => W.cell? ⟨A, 1, none⟩ = some (.int .i64 N) ∧ Mine W w4.heap.size (.slice a6 v9.length cap6) v9)) 9 rfl (by kernel_rfl) ?_
          rw [hw7]
          clear hw7 hT4 hca1 hcell6 d6 m6 s6 g6 h46
          have hS : (fun W : World => W.cell? ⟨A, 1, none⟩ = some (.int .i64 N) ∧ Mine W w4.heap.size (.slice a6 v9.length cap6) v9) w7 := ⟨hS0, m7⟩
          refine hs_take (i := 0) (d := some 41) (v := ?_) rfl (by kernel_rfl) (by kernel_rfl) (by kernel_rfl) (by rfl) ?_ hS rfl ?_
          rotate_left
          · intro w' hw
            go_simp
            try with_reducible rfl
          simp only [Act.put, List.setIfInBounds_toArray, List.set_cons_zero, List.set_cons_succ]
          refine hs_take (i := 1) (d := some 42) (v := .string (strOf v9)) rfl (by kernel_rfl) (by kernel_rfl) (by kernel_rfl) (by rfl) (fun w' hw => by have q := hw.2.str (by unfold maxLen; omega); go_simp) hS rfl ?_
          simp only [Act.put, List.setIfInBounds_toArray, List.set_cons_zero, List.set_cons_succ]
          refine hs_take (i := 2) (d := some 43) (v := ?_) rfl (by kernel_rfl) (by kernel_rfl) (by kernel_rfl) (by rfl) ?_ hS rfl ?_
          rotate_left
          · intro w' hw
            go_simp
            try with_reducible rfl
          simp only [Act.put, List.setIfInBounds_toArray, List.set_cons_zero, List.set_cons_succ]
          refine hs_take (i := 3) (d := some 44) (v := ?_) rfl (by kernel_rfl) (by kernel_rfl) (by kernel_rfl) (by rfl) ?_ hS rfl ?_
          rotate_left
          · intro w' hw
            go_simp
            try with_reducible rfl
          simp only [Act.put, List.setIfInBounds_toArray, List.set_cons_zero, List.set_cons_succ]
          refine hs_take (i := 4) (d := some 45) (v := ?_) rfl (by kernel_rfl) (by kernel_rfl) (by kernel_rfl) (by rfl) ?_ hS rfl ?_
          rotate_left
          · intro w' hw
            have q := hw.1
            go_simp
            try with_reducible rfl
          simp only [Act.put, List.setIfInBounds_toArray, List.set_cons_zero, List.set_cons_succ]
          refine hs_call (i := 5) (d := some 46) rfl (by kernel_rfl) (by rfl) (by go_simp; first | done | exact ⟨rfl, rfl⟩ | with_reducible rfl) rfl ?_
          refine (cD w7 d7).mono ?_
          rintro e' w8 ⟨v8, rfl, m8, d8, g8⟩
          have hS : (fun W : World => W.cell? ⟨A, 1, none⟩ = some (.int .i64 N) ∧ Mine W w4.heap.size (.slice a6 v9.length cap6) v9) w8 := ⟨g8.cell hS.1 (ne_some (by omega)), hS.2.gb g8 (by omega)⟩
          refine ⟨_, rfl, hS, ?_⟩
          simp only [Act.put, List.setIfInBounds_toArray, List.set_cons_zero, List.set_cons_succ]
          have q8 := m8.str (by unfold maxLen; omega)
          have hS : (fun W : World => W.cell? ⟨A, 1, none⟩ = some (.int .i64 N) ∧ Mine W w4.heap.size (.slice a6 v9.length cap6) v9) w8 := hS
          refine hs_run (i := 6) (d := some 47) (v := .string (strOf v9)) (w' := w8) rfl (by kernel_rfl) (by rfl) (by go_simp) rfl hS ?_
          simp only [Act.put, List.setIfInBounds_toArray, List.set_cons_zero, List.set_cons_succ]
          refine hs_take (i := 7) (d := some 48) (v := .bool true) rfl (by kernel_rfl) (by kernel_rfl) (by kernel_rfl) (by rfl) (fun w' hw => by go_simp) hS rfl ?_
          simp only [Act.put, List.setIfInBounds_toArray, List.set_cons_zero, List.set_cons_succ]
          refine hs_take (i := 8) (d := some 10) (v := ?_) rfl (by kernel_rfl) (by kernel_rfl) (by kernel_rfl) (by rfl) ?_ hS rfl ?_
          rotate_left
          · intro w' hw
            go_simp
            try with_reducible rfl
          simp only [Act.put, List.setIfInBounds_toArray, List.set_cons_zero, List.set_cons_succ]
          refine hs_done (by kernel_rfl) ?_
          have hT8 : Two w2.heap.size w3 R X w8 q9 d9 := ⟨s7.gb g8 hRX, d8, k7.gb g8 (.inr (.inl rfl))⟩
          have hrow := hS.2.bytes
          clear hS hS0 m7 d7 s7 k7 cD m8 d8 g8 q8
          go_wp2_with fail
          go_loopw [51] (fun iv W => ∃ j : Nat, j ≤ v9.length ∧ iv = .int .i64 (j : Int) ∧ Two w2.heap.size w3 R X W q9 d9 ∧ Bs W w4.heap.size a6 v9.length) (fun iv _ => v9.length - (intOf iv).toNat)
          case atStart => exact ⟨0, by omega, rfl, hT8, hrow⟩
          case round =>
            clear hT8 hrow
            obtain ⟨j, hj, rfl, hTj, hrow⟩ := hrel
            by_cases hjl : j < v9.length
            · have hjI : (j : Int) < v9.length := by omega
              obtain ⟨g, rfl, hg4, hcell⟩ := hrow.some (by omega)
              obtain ⟨z, hz, hfz⟩ := hcell j hjl
              go_wp2_with fail
              go_roundw
              case rel => exact ⟨j + 1, by omega, by go_num, hTj.gb (gb_set _ g j _) hRX (by omega) (by omega), .inr ⟨g, rfl, hg4, fun i hi => bs_set hcell i hi j _⟩⟩
              case measure => simp [intOf]; omega
            · obtain rfl : j = v9.length := by omega
              have hjI : ¬ (v9.length : Int) < v9.length := by omega
              clear hrow
              go_wp2_with fail
              have hTS := hTj.below (Below.refl wr.heap.size wr).drew
              obtain ⟨wS, hwS⟩ : ∃ wS, wr.drew = wS := ⟨_, rfl⟩
              rw [hwS] at hTS
              refine hs_begin (S := (Below wS.heap.size wS)) 25 rfl (by kernel_rfl) ?_
              rw [hwS]
              clear hwS
              obtain ⟨r9, hr9⟩ : ∃ r9, Hid (q9 = r9) := ⟨_, hide rfl⟩
              obtain ⟨e9, he9⟩ : ∃ e9, Hid (d9 = e9) := ⟨_, hide rfl⟩
              rw [hr9.out, he9.out] at hTS
              have hS : (Below wS.heap.size wS) wS := Below.refl _ _
              have hXl : X < wS.heap.size := by obtain ⟨_, _, hh, _⟩ := hTS.doc; exact hh.1
              have cX : wS.cell? ⟨X, 2, none⟩ = some (.int .i64 e9) := by obtain ⟨_, _, hh, _⟩ := hTS.doc; exact hh.2.2.2.1
              have lv := fun w0 h0 => leftR_any R r9 e9 w0 h0
              have lr := fun w0 h0 => refLeft_any (B := w2.heap.size) X r9 e9 w0 h0
              obtain ⟨L9, hL9⟩ : ∃ L9, Hid ((if e9 = 0 then (r9.length : Int) else 0) = L9) := ⟨_, hide rfl⟩
              simp only [hL9.out] at lv lr
              have dv := fun w0 h0 => doneC_any R r9 e9 w0 h0
              have dr := fun w0 h0 => refDone_any (B := w2.heap.size) X r9 e9 w0 h0
              obtain ⟨D9, hD9⟩ : ∃ D9, Hid (doneR r9 e9 = D9) := ⟨_, hide rfl⟩
              simp only [hD9.out] at dv dr
              refine hs_take (i := 0) (d := some 83) (v := ?_) rfl (by kernel_rfl) (by kernel_rfl) (by kernel_rfl) (by rfl) ?_ hS rfl ?_
              rotate_left
              · intro w' hw
                go_simp
                try with_reducible rfl
              simp only [Act.put, List.setIfInBounds_toArray, List.set_cons_zero, List.set_cons_succ]
              refine hs_take (i := 1) (d := some 84) (v := .bool false) rfl (by kernel_rfl) (by kernel_rfl) (by kernel_rfl) (by rfl) (fun w' hw => by go_simp) hS rfl ?_
              simp only [Act.put, List.setIfInBounds_toArray, List.set_cons_zero, List.set_cons_succ]
              refine hs_take (i := 2) (d := some 85) (v := ?_) rfl (by kernel_rfl) (by kernel_rfl) (by kernel_rfl) (by rfl) ?_ hS rfl ?_
              rotate_left
              · intro w' hw
                go_simp
                try with_reducible rfl
              simp only [Act.put, List.setIfInBounds_toArray, List.set_cons_zero, List.set_cons_succ]
              refine hs_take (i := 3) (d := some 86) (v := ?_) rfl (by kernel_rfl) (by kernel_rfl) (by kernel_rfl) (by rfl) ?_ hS rfl ?_
              rotate_left
              · intro w' hw
                go_simp
                try with_reducible rfl
              simp only [Act.put, List.setIfInBounds_toArray, List.set_cons_zero, List.set_cons_succ]
              refine hs_take (i := 5) (d := some 88) (v := ?_) rfl (by kernel_rfl) (by kernel_rfl) (by kernel_rfl) (by rfl) ?_ hS rfl ?_
              rotate_left
              · intro w' hw
                go_simp
                try with_reducible rfl
              simp only [Act.put, List.setIfInBounds_toArray, List.set_cons_zero, List.set_cons_succ]
              refine hs_call (i := 4) (d := some 87) rfl (by kernel_rfl) (by rfl) (by go_simp; first | done | exact ⟨rfl, rfl⟩ | with_reducible rfl) rfl ?_
              refine (lv wS (hTS.below hS).own).mono ?_
              rintro e' wa ⟨rfl, hx⟩
              have hS : (Below wS.heap.size wS) wa := by rw [hx]; exact hS
              refine ⟨_, rfl, hS, ?_⟩
              simp only [Act.put, List.setIfInBounds_toArray, List.set_cons_zero, List.set_cons_succ]
              clear hx
              refine hs_call (i := 6) (d := some 89) rfl (by kernel_rfl) (by rfl) (by go_simp; first | done | exact ⟨rfl, rfl⟩ | with_reducible rfl) rfl ?_
              refine (lr wa (hTS.below hS).doc).mono ?_
              rintro e' wb ⟨rfl, kk, hx⟩
              have hS : (Below wS.heap.size wS) wb := by rw [hx]; exact below_drewN hS _
              refine ⟨_, rfl, hS, ?_⟩
              simp only [Act.put, List.setIfInBounds_toArray, List.set_cons_zero, List.set_cons_succ]
              clear hx
              refine hs_take (i := 7) (d := some 90) (v := .bool false) rfl (by kernel_rfl) (by kernel_rfl) (by kernel_rfl) (by rfl) (fun w' hw => by go_simp) hS rfl ?_
              simp only [Act.put, List.setIfInBounds_toArray, List.set_cons_zero, List.set_cons_succ]
              refine hs_take (i := 8) (d := some 91) (v := ?_) rfl (by kernel_rfl) (by kernel_rfl) (by kernel_rfl) (by rfl) ?_ hS rfl ?_
              rotate_left
              · intro w' hw
                go_simp
                try with_reducible rfl
              simp only [Act.put, List.setIfInBounds_toArray, List.set_cons_zero, List.set_cons_succ]
              refine hs_take (i := 9) (d := some 92) (v := ?_) rfl (by kernel_rfl) (by kernel_rfl) (by kernel_rfl) (by rfl) ?_ hS rfl ?_
              rotate_left
              · intro w' hw
                go_simp
                try with_reducible rfl
              simp only [Act.put, List.setIfInBounds_toArray, List.set_cons_zero, List.set_cons_succ]
              refine hs_take (i := 10) (d := some 93) (v := ?_) rfl (by kernel_rfl) (by kernel_rfl) (by kernel_rfl) (by rfl) ?_ hS rfl ?_
              rotate_left
              · intro w' hw
                go_simp
                try with_reducible rfl
              simp only [Act.put, List.setIfInBounds_toArray, List.set_cons_zero, List.set_cons_succ]
              refine hs_take (i := 12) (d := some 95) (v := ?_) rfl (by kernel_rfl) (by kernel_rfl) (by kernel_rfl) (by rfl) ?_ hS rfl ?_
              rotate_left
              · intro w' hw
                go_simp
                try with_reducible rfl
              simp only [Act.put, List.setIfInBounds_toArray, List.set_cons_zero, List.set_cons_succ]
              refine hs_take (i := 13) (d := some 96) (v := ?_) rfl (by kernel_rfl) (by kernel_rfl) (by kernel_rfl) (by rfl) ?_ hS rfl ?_
              rotate_left
              · intro w' hw
                go_simp
                try with_reducible rfl
              simp only [Act.put, List.setIfInBounds_toArray, List.set_cons_zero, List.set_cons_succ]
              refine hs_take (i := 14) (d := some 97) (v := ?_) rfl (by kernel_rfl) (by kernel_rfl) (by kernel_rfl) (by rfl) ?_ hS rfl ?_
              rotate_left
              · intro w' hw
                go_simp
                try with_reducible rfl
              simp only [Act.put, List.setIfInBounds_toArray, List.set_cons_zero, List.set_cons_succ]
              refine hs_take (i := 15) (d := some 98) (v := ?_) rfl (by kernel_rfl) (by kernel_rfl) (by kernel_rfl) (by rfl) ?_ hS rfl ?_
              rotate_left
              · intro w' hw
                have q := (hw.cell (p := ⟨X, 2, none⟩) hXl).trans cX
                go_simp
                try with_reducible rfl
              simp only [Act.put, List.setIfInBounds_toArray, List.set_cons_zero, List.set_cons_succ]
              refine hs_call (i := 11) (d := some 94) rfl (by kernel_rfl) (by rfl) (by go_simp; first | done | exact ⟨rfl, rfl⟩ | with_reducible rfl) rfl ?_
              refine (err_made R e9 wb (hTS.below hS).own.1).mono ?_
              rintro e' wc ⟨rfl, hx⟩
              have hS : (Below wS.heap.size wS) wc := by rw [hx]; exact hS
              refine ⟨_, rfl, hS, ?_⟩
              simp only [Act.put, List.setIfInBounds_toArray, List.set_cons_zero, List.set_cons_succ]
              clear hx
              refine hs_take (i := 16) (d := some 99) (v := .bool false) rfl (by kernel_rfl) (by kernel_rfl) (by kernel_rfl) (by rfl) (fun w' hw => by go_simp) hS rfl ?_
              simp only [Act.put, List.setIfInBounds_toArray, List.set_cons_zero, List.set_cons_succ]
              refine hs_take (i := 17) (d := some 100) (v := ?_) rfl (by kernel_rfl) (by kernel_rfl) (by kernel_rfl) (by rfl) ?_ hS rfl ?_
              rotate_left
              · intro w' hw
                go_simp
                try with_reducible rfl
              simp only [Act.put, List.setIfInBounds_toArray, List.set_cons_zero, List.set_cons_succ]
              refine hs_take (i := 18) (d := some 101) (v := ?_) rfl (by kernel_rfl) (by kernel_rfl) (by kernel_rfl) (by rfl) ?_ hS rfl ?_
              rotate_left
              · intro w' hw
                go_simp
                try with_reducible rfl
              simp only [Act.put, List.setIfInBounds_toArray, List.set_cons_zero, List.set_cons_succ]
              refine hs_take (i := 19) (d := some 102) (v := ?_) rfl (by kernel_rfl) (by kernel_rfl) (by kernel_rfl) (by rfl) ?_ hS rfl ?_
              rotate_left
              · intro w' hw
                go_simp
                try with_reducible rfl
              simp only [Act.put, List.setIfInBounds_toArray, List.set_cons_zero, List.set_cons_succ]
              refine hs_take (i := 21) (d := some 104) (v := ?_) rfl (by kernel_rfl) (by kernel_rfl) (by kernel_rfl) (by rfl) ?_ hS rfl ?_
              rotate_left
              · intro w' hw
                go_simp
                try with_reducible rfl
              simp only [Act.put, List.setIfInBounds_toArray, List.set_cons_zero, List.set_cons_succ]
              refine hs_call (i := 20) (d := some 103) rfl (by kernel_rfl) (by rfl) (by go_simp; first | done | exact ⟨rfl, rfl⟩ | with_reducible rfl) rfl ?_
              refine (dv wc (hTS.below hS).own).mono ?_
              rintro e' wd ⟨rfl, hx⟩
              have hS : (Below wS.heap.size wS) wd := by rw [hx]; exact hS
              refine ⟨_, rfl, hS, ?_⟩
              simp only [Act.put, List.setIfInBounds_toArray, List.set_cons_zero, List.set_cons_succ]
              clear hx
              refine hs_call (i := 22) (d := some 105) rfl (by kernel_rfl) (by rfl) (by go_simp; first | done | exact ⟨rfl, rfl⟩ | with_reducible rfl) rfl ?_
              refine (dr wd (hTS.below hS).doc).mono ?_
              rintro e' we ⟨rfl, kk2, hx⟩
              have hS : (Below wS.heap.size wS) we := by rw [hx]; exact below_drewN hS _
              refine ⟨_, rfl, hS, ?_⟩
              simp only [Act.put, List.setIfInBounds_toArray, List.set_cons_zero, List.set_cons_succ]
              clear hx
              refine hs_take (i := 23) (d := some 106) (v := .bool false) rfl (by kernel_rfl) (by kernel_rfl) (by kernel_rfl) (by rfl) (fun w' hw => by go_simp) hS rfl ?_
              simp only [Act.put, List.setIfInBounds_toArray, List.set_cons_zero, List.set_cons_succ]
              refine hs_take (i := 24) (d := some 107) (v := ?_) rfl (by kernel_rfl) (by kernel_rfl) (by kernel_rfl) (by rfl) ?_ hS rfl ?_
              rotate_left
              · intro w' hw
                go_simp
                try with_reducible rfl
              simp only [Act.put, List.setIfInBounds_toArray, List.set_cons_zero, List.set_cons_succ]
              refine hs_done (by kernel_rfl) ?_
              have hTe := hTS.below hS
              have hrl9 : r9.length ≤ 5000 := by rw [← hr9.out]; exact hql
              clear lv lr dv dr cX hTS hS
              go_wp2_with fail
              go_roundw
              case rel => exact ⟨k + 1, r9, e9, by omega, by go_num, hrl9, hTe⟩
              case measure => simp [intOf]; omega
    · obtain rfl : k = ax.length := by omega
      have hkl : ¬ (ax.length : Int) < ax.length := by omega
      have hb3 := h.below hBw
      have ho3 : RowAt wr ao zs := hro3.kept hT.kept (fun x hx hne => by have := hobl x hx hne; omega)
      have sa := hb3.str cap
      have so := ho3.str capo
      go_wp2_with fail
      refine (lives_any wr).mono ?_
      rintro e2 w9 ⟨rfl, hw9⟩
      go_wp2_with fail
      go_ret
      exact ⟨rfl, hBw.trans (hw9.mono hBw.size)⟩
end Go.Proofs.Ytiihfjoikoogfaa
