/- The law WindowOrder: its walk. -/
import Derived.Test.YtnjlamcpfclgaaaWOrd2
namespace Go.Proofs.Ytnjlamcpfclgaaa
open Go.RowKit
def rotAt (zs : List Int) (k j : Nat) : Nat := (zs.length - 1 - j + k) % zs.length
def rot (zs : List Int) (k t : Nat) : List Int := (List.range t).map fun j => zs.getD (rotAt zs k j) 0
theorem rot_succ (zs : List Int) (k t : Nat) : rot zs k (t + 1) = rot zs k t ++ [zs.getD (rotAt zs k t) 0] := by
  unfold rot; rw [List.range_succ, List.map_append]; rfl
theorem rot_length (zs : List Int) (k t : Nat) : (rot zs k t).length = t := by unfold rot; simp
theorem getD_mem {zs : List Int} {p : Nat} (h : p < zs.length) : zs.getD p 0 ∈ zs := by
  rw [List.getD_eq_getElem?_getD, List.getElem?_eq_getElem h]; exact List.getElem_mem h
theorem rot_mem (zs : List Int) (k : Nat) (hk : k < zs.length) (x : Int) : x ∈ zs ↔ x ∈ rot zs k zs.length := by
  unfold rot
  rw [List.mem_map]
  constructor
  · intro hx
    obtain ⟨p, hp, rfl⟩ := List.getElem_of_mem hx
    refine ⟨zs.length - 1 - (p + zs.length - k) % zs.length, ?_, ?_⟩
    · rw [List.mem_range]; omega
    · have hlt := Nat.mod_lt (p + zs.length - k) (by omega : zs.length > 0)
      have e : rotAt zs k (zs.length - 1 - (p + zs.length - k) % zs.length) = p := by
        unfold rotAt
        rw [show zs.length - 1 - (zs.length - 1 - (p + zs.length - k) % zs.length) = (p + zs.length - k) % zs.length by omega]
        rw [Nat.mod_add_mod, show p + zs.length - k + k = p + zs.length by omega, Nat.add_mod_right, Nat.mod_eq_of_lt hp]
      rw [e, List.getD_eq_getElem?_getD, List.getElem?_eq_getElem hp]; rfl
  · rintro ⟨j, _, rfl⟩
    exact getD_mem (Nat.mod_lt _ (by omega))
theorem rot_le (zs : List Int) (k t : Nat) (hl : 0 < zs.length) (h : ∀ z ∈ zs, z ≤ 9223372036854775807) : ∀ z ∈ rot zs k t, z ≤ 9223372036854775807 := by
  intro z hz
  unfold rot at hz
  obtain ⟨j, _, rfl⟩ := List.mem_map.1 hz
  exact h _ (getD_mem (Nat.mod_lt _ hl))
theorem umod200 (z : Int) (c : Nat) (hc : 0 < c) (hm : c ≤ 200) : ∃ p : Nat, p < c ∧ IntKind.i64.wrap ((IntKind.u64.wrap z).tmod (c : Int)) = (p : Int) := by
  rw [IntKind.wrap_u64]
  have h0' : 0 ≤ z % 18446744073709551616 := Int.emod_nonneg _ (by decide)
  generalize z % 18446744073709551616 = q at h0'
  rw [Int.tmod_eq_emod_of_nonneg h0']
  have h1 := Int.emod_nonneg q (b := (c : Int)) (by omega)
  have h2 := Int.emod_lt_of_pos q (b := (c : Int)) (by omega)
  refine ⟨(q % (c : Int)).toNat, by omega, ?_⟩
  generalize q % (c : Int) = r at h1 h2
  rw [IntKind.wrap_i64]
  omega
set_option maxHeartbeats 4000000 in
theorem order_nil (B : Int) (m : Nat) (hm : m < 2 ^ 64) (a : Option Addr) (cap : Nat) (turn : Int) (w : World) :
    Calls Try.prog 5 #[winV B (m : Int), .slice a 0 cap, .int .i64 turn] w fun e w' => e = .returned (.bool true) ∧ Below w.heap.size w w' := by
  have hr : RowI w a [] := ⟨by decide, Or.inl rfl⟩
  have hw : ∀ z ∈ ([] : List Int), z ≤ 9223372036854775807 := by simp
  have hb0 := one_box (Below.refl (w.alloc (.cells #[.int .i64 B, .int .u64 (m : Int)] 24)).heap.size _)
  have c1 := marked_any B m hm a cap ([] : List Int)
  obtain ⟨X, hX⟩ : ∃ X, Hid ((marks B m ([] : List Int)).1 = X) := ⟨_, rfl⟩
  obtain ⟨M, hM⟩ : ∃ M, Hid ((marks B m ([] : List Int)).2.1 = M) := ⟨_, rfl⟩
  obtain ⟨K, hK⟩ : ∃ K, Hid ((marks B m ([] : List Int)).2.2 = K) := ⟨_, rfl⟩
  rw [hX.out, hM.out, hK.out] at c1
  go_enter Try.func5, Try.ntmps5
  go_wp2_with fail
  refine (c1 _ (hr.below hb0.2.1) (by decide) hw).mono ?_
  rintro e w1 ⟨rfl, hb1⟩
  clear c1 hb0
  obtain ⟨hA1, hB1, hz1⟩ := one_box hb1
  clear hb1
  have hB2 : Below w.heap.size w (w1.alloc (.cells #[.int .i64 X, .int .u64 (M : Int)] 24)) := hB1.alloc hB1.size _
  have hA2 : (w1.alloc (.cells #[.int .i64 X, .int .u64 (M : Int)] 24)).rangeAt w.heap.size 0 (winC B (m : Int)) := range_below hA1 ((Below.refl _ _).alloc (Nat.le_refl _) _) hz1
  have hA2b := range_new w1 #[.int .i64 X, .int .u64 (M : Int)] 24
  have hz2 : w.heap.size < (w1.alloc (.cells #[.int .i64 X, .int .u64 (M : Int)] 24)).heap.size := by rw [World.size_alloc]; omega
  have hz2b : w1.heap.size < (w1.alloc (.cells #[.int .i64 X, .int .u64 (M : Int)] 24)).heap.size := by rw [World.size_alloc]; omega
  clear hA1 hB1 hz1
  go_wp2_with fail
  obtain ⟨w2, hw2⟩ : ∃ w2, w1.alloc (.cells #[.int .i64 X, .int .u64 (M : Int)] 24) = w2 := ⟨_, rfl⟩
  rw [hw2] at hA2 hA2b hB2 hz2 hz2b ⊢
  clear hw2
  go_loopw [10, 11] (fun sv iv wr => sv = .slice none 0 0 ∧ iv = .int .i64 (-1) ∧ wr = w2) (fun _ _ _ => 0)
  case atStart => exact ⟨rfl, rfl, rfl⟩
  case round =>
    obtain ⟨rfl, rfl, rfl⟩ := hrel
    have hB : Below wr.heap.size wr wr := Below.refl _ _
    have HX : Hid (K = true → (marks B m ([] : List Int)).2.2 = true → X = (marks B m ([] : List Int)).1 ∧ M = (marks B m ([] : List Int)).2.1) := hide (fun _ _ => ⟨hX.out.symm, hM.out.symm⟩)
    have c2 := marked_any B m hm none 0 [] wr ⟨by decide, Or.inl rfl⟩ (by decide) (by simp)
    obtain ⟨Y, hY⟩ : ∃ Y, Hid ((marks B m ([] : List Int)).1 = Y) := ⟨_, rfl⟩
    obtain ⟨N, hN⟩ : ∃ N, Hid ((marks B m ([] : List Int)).2.1 = N) := ⟨_, rfl⟩
    obtain ⟨L, hL⟩ : ∃ L, Hid ((marks B m ([] : List Int)).2.2 = L) := ⟨_, rfl⟩
    rw [hY.out, hN.out, hL.out] at c2 HX
    clear hY hN hL hX hM hK hm
    have hA3 := range_below hA2 hB hz2
    have hA3b := range_below hA2b hB hz2b
    have hBx := hB2.trans (hB.mono hB2.size)
    have hz3 : w.heap.size < wr.heap.size := by have := hB.size; omega
    have hz3b : w1.heap.size < wr.heap.size := by have := hB.size; omega
    clear hA2 hA2b hB2 hB hz2 hz2b
    have q0 : wr.cell? ⟨w.heap.size, 0, none⟩ = some (.int .i64 B) := hA3 0 _ rfl
    have q1 : wr.cell? ⟨w.heap.size, 1, none⟩ = some (.int .u64 (m : Int)) := hA3 1 _ rfl
    go_wp2_with fail
    refine c2.mono ?_
    rintro e w4 ⟨rfl, hb4⟩
    have hA4b := range_below hA3b hb4 hz3b
    have hB4 := hBx.trans (hb4.mono hBx.size)
    have hz4b : w1.heap.size < w4.heap.size := by have := hb4.size; omega
    clear c2 q0 q1 hA3 hA3b hBx hb4 hz3 hz3b
    have hB5 : Below w.heap.size w (w4.alloc (.cells #[.int .i64 Y, .int .u64 (N : Int)] 24)) := hB4.alloc hB4.size _
    have hA5b : (w4.alloc (.cells #[.int .i64 Y, .int .u64 (N : Int)] 24)).rangeAt w1.heap.size 0 (winC X (M : Int)) := range_below hA4b ((Below.refl _ _).alloc (Nat.le_refl _) _) hz4b
    have hA5 := range_new w4 #[.int .i64 Y, .int .u64 (N : Int)] 24
    obtain ⟨w5, hw5⟩ : ∃ w5, w4.alloc (.cells #[.int .i64 Y, .int .u64 (N : Int)] 24) = w5 := ⟨_, rfl⟩
    rw [hw5] at hB5 hA5b hA5
    have x0 : w5.cell? ⟨w1.heap.size, 0, none⟩ = some (.int .i64 X) := hA5b 0 _ rfl
    have x1 : w5.cell? ⟨w1.heap.size, 1, none⟩ = some (.int .u64 (M : Int)) := hA5b 1 _ rfl
    have y0 : w5.cell? ⟨w4.heap.size, 0, none⟩ = some (.int .i64 Y) := hA5 0 _ rfl
    have y1 : w5.cell? ⟨w4.heap.size, 1, none⟩ = some (.int .u64 (N : Int)) := hA5 1 _ rfl
    have cl := lives_any w5
    clear hA5b hA5 hA4b hB4
    cases K with
    | false =>
      go_wp2_with fail
      refine cl.mono ?_
      rintro e w6 ⟨rfl, hb6⟩
      go_wp2_with fail
      go_ret
      exact ⟨rfl, hB5.trans (hb6.mono hB5.size)⟩
    | true =>
      cases L with
      | false =>
        go_wp2_with fail
        refine cl.mono ?_
        rintro e w6 ⟨rfl, hb6⟩
        go_wp2_with fail
        go_ret
        exact ⟨rfl, hB5.trans (hb6.mono hB5.size)⟩
      | true =>
        obtain ⟨e1, e2⟩ := HX.out rfl rfl
        subst e1 e2
        clear HX
        go_wp2_with fail
        refine cl.mono ?_
        rintro e w6 ⟨rfl, hb6⟩
        go_wp2_with fail
        go_ret
        exact ⟨rfl, hB5.trans (hb6.mono hB5.size)⟩
set_option maxHeartbeats 4000000 in
theorem order_some (B : Int) (m : Nat) (hm : m < 2 ^ 64) (a : Option Addr) (cap : Nat) (zs : List Int) (turn : Int) (w : World) (hr : RowI w a zs) (hw : ∀ z ∈ zs, z ≤ 9223372036854775807) (hlong : ¬ 200 < zs.length) (h0 : zs ≠ []) :
    Calls Try.prog 5 #[winV B (m : Int), .slice a zs.length cap, .int .i64 turn] w fun e w' => e = .returned (.bool true) ∧ Below w.heap.size w w' := by
  obtain ⟨i0, hi, hzz0, hzz1, hzz2⟩ := info_parts info3
  have hb0 := one_box (Below.refl (w.alloc (.cells #[.int .i64 B, .int .u64 (m : Int)] 24)).heap.size _)
  have c1 := marked_any B m hm a cap zs
  obtain ⟨X, hX⟩ : ∃ X, Hid ((marks B m zs).1 = X) := ⟨_, rfl⟩
  obtain ⟨M, hM⟩ : ∃ M, Hid ((marks B m zs).2.1 = M) := ⟨_, rfl⟩
  obtain ⟨K, hK⟩ : ∃ K, Hid ((marks B m zs).2.2 = K) := ⟨_, rfl⟩
  rw [hX.out, hM.out, hK.out] at c1
  go_enter Try.func5, Try.ntmps5
  go_wp2_with fail
  refine (c1 _ (hr.below hb0.2.1) (by omega) hw).mono ?_
  rintro e w1 ⟨rfl, hb1⟩
  clear c1 hb0
  obtain ⟨hA1, hB1, hz1⟩ := one_box hb1
  clear hb1
  have hB2 : Below w.heap.size w (w1.alloc (.cells #[.int .i64 X, .int .u64 (M : Int)] 24)) := hB1.alloc hB1.size _
  have hA2 : (w1.alloc (.cells #[.int .i64 X, .int .u64 (M : Int)] 24)).rangeAt w.heap.size 0 (winC B (m : Int)) := range_below hA1 ((Below.refl _ _).alloc (Nat.le_refl _) _) hz1
  have hA2b := range_new w1 #[.int .i64 X, .int .u64 (M : Int)] 24
  have hz2 : w.heap.size < (w1.alloc (.cells #[.int .i64 X, .int .u64 (M : Int)] 24)).heap.size := by rw [World.size_alloc]; omega
  have hz2b : w1.heap.size < (w1.alloc (.cells #[.int .i64 X, .int .u64 (M : Int)] 24)).heap.size := by rw [World.size_alloc]; omega
  clear hA1 hB1 hz1
  have hpos : 0 < zs.length := List.length_pos_iff.2 h0
  have hposi : (0 : Int) < zs.length := by omega
  have hl2 : (zs.length : Int) ≤ 200 := by omega
  obtain ⟨p, hp, ep⟩ := umod200 turn zs.length hpos (by omega)
  have eu : IntKind.u64.wrap (zs.length : Int) = (zs.length : Int) := by rw [IntKind.wrap_u64]; omega
  go_wp2_with fail
  obtain ⟨w2, hw2⟩ : ∃ w2, w1.alloc (.cells #[.int .i64 X, .int .u64 (M : Int)] 24) = w2 := ⟨_, rfl⟩
  rw [hw2] at hA2 hA2b hB2 hz2 hz2b ⊢
  clear hw2
  have hrw2 : RowI w2 a zs := hr.below hB2
  go_loopw [10, 11] (fun sv iv wr => ∃ t : Nat, t ≤ zs.length ∧ iv = .int .i64 ((zs.length : Int) - 1 - (t : Int)) ∧ wr.ownsRow w2.heap.size 3 1 sv t ((rot zs p t).map (Value.int .i64)) ∧ Below w2.heap.size w2 wr) (fun _ iv _ => ((intOf iv) + 1).toNat)
  case atStart => exact ⟨0, Nat.zero_le _, by first | rfl | (simp; done) | (congr 1; simp; done), World.ownsRow_nil _ _ _ _, Below.refl _ _⟩
  case round =>
    obtain ⟨t, ht, rfl, hrow, hB⟩ := hrel
    obtain ⟨va, vcap, rfl⟩ := ownsRow_slice hrow
    by_cases hlt : t < zs.length
    · have hpl : rotAt zs p t < zs.length := Nat.mod_lt _ (by omega)
      have hmod : Int.tmod ((zs.length : Int) - 1 - (t : Int) + (p : Int)) (zs.length : Int) = ((rotAt zs p t : Nat) : Int) := by
        unfold rotAt
        rw [show (zs.length : Int) - 1 - (t : Int) + (p : Int) = ((zs.length - 1 - t + p : Nat) : Int) by omega]
        rfl
      have HS := hide (rot_succ zs p t)
      obtain ⟨b, off, rfl, hcx⟩ := rowI_cell hrw2 hB hpl
      have hgx : zs.getD (rotAt zs p t) 0 = zs[rotAt zs p t] := by rw [List.getD_eq_getElem?_getD, List.getElem?_eq_getElem hpl]; rfl
      have HS2 : Hid (rot zs p (t + 1) = rot zs p t ++ [zs[rotAt zs p t]]) := hide (by rw [HS.out, hgx])
      clear HS hgx
      generalize zs[rotAt zs p t] = x at *
      generalize rotAt zs p t = q at *
      have hql : (q : Int) < zs.length := by omega
      have htl : (t : Int) < zs.length := by omega
      generalize rot zs p t = R at *
      go_wp2_with (at_builtin; refine wpList_append_own_src _ rfl _ _ 51 51 rfl w2.heap.size 3 i0 (.int .i64 0) 1 8 Try.underlying51 hi hzz0 hzz1 hzz2 rfl _ t (R.map (Value.int .i64)) rfl (hrow.alloc _) (.slice (some ⟨wr.heap.size, 0, none⟩) 1 1) 1 [.int .i64 x] rfl (Src.ofSlice _ Try.underlying51 ⟨wr.heap.size, 0, none⟩ 1 1 _ (by simp) (cell_one_new _ _ _) (by simp [Value.oneCell'])) ?c1 ?c2 ?c3 ?_)
      case c1 => unfold maxLen; omega
      case c2 => omega
      case c3 => have := hB.size; simp; omega
      intro v2 wn hown2 hgr2
      have hBn1 : Below w2.heap.size w2 (wr.alloc (.cells #[.int .i64 x] 3)) := hB.alloc hB.size _
      have hBn2 : Below w2.heap.size w2 wn := hBn1.grown hgr2 (by have := hB.size; simp; omega) (fun j hj => ((hrow.alloc (.cells #[.int .i64 x] 3)).lt j hj).1)
      obtain ⟨va, vcap, rfl⟩ := ownsRow_slice hown2
      go_wp2_with fail
      go_roundw
      case rel => exact ⟨t + 1, by omega, by go_num, by rw [HS2.out]; simpa using hown2, hBn2⟩
      case measure => simp [intOf]; omega
    · obtain rfl : t = zs.length := by omega
      have hrl := rot_length zs p zs.length
      have hmem : ∀ x, x ∈ zs ↔ x ∈ rot zs p zs.length := rot_mem zs p hp
      have hrle : ∀ z ∈ rot zs p zs.length, z ≤ 9223372036854775807 := fun z hz => hw z ((hmem z).2 hz)
      have HX : Hid ((marks B m zs).2.2 = true → (marks B m (rot zs p zs.length)).2.2 = true → (marks B m zs).1 = (marks B m (rot zs p zs.length)).1 ∧ (marks B m zs).2.1 = (marks B m (rot zs p zs.length)).2.1) := hide (fun q1 q2 => marks_same hm zs _ hmem q1 q2)
      obtain ⟨ra, rcap, hre, hrr⟩ := own_rowI (zs := rot zs p zs.length) (by rw [hrl]; exact hrow) (by rw [hrl]; unfold maxLen; omega)
      rw [hrl] at hre
      injection hre with hre1 hre2 hre3
      subst hre1 hre3
      have c2 := marked_any B m hm va vcap (rot zs p zs.length) wr hrr (by rw [hrl]; omega) hrle
      rw [hrl] at c2
      rw [hX.out, hM.out, hK.out] at HX
      generalize rot zs p zs.length = R at *
      clear hrow hrr hmem hrle hw hr hrw2 hrl
      obtain ⟨Y, hY⟩ : ∃ Y, Hid ((marks B m R).1 = Y) := ⟨_, rfl⟩
      obtain ⟨N, hN⟩ : ∃ N, Hid ((marks B m R).2.1 = N) := ⟨_, rfl⟩
      obtain ⟨L, hL⟩ : ∃ L, Hid ((marks B m R).2.2 = L) := ⟨_, rfl⟩
      rw [hY.out, hN.out, hL.out] at c2 HX
      clear hY hN hL hX hM hK hm
      have hA3 := range_below hA2 hB hz2
      have hA3b := range_below hA2b hB hz2b
      have hBx := hB2.trans (hB.mono hB2.size)
      have hz3 : w.heap.size < wr.heap.size := by have := hB.size; omega
      have hz3b : w1.heap.size < wr.heap.size := by have := hB.size; omega
      clear hA2 hA2b hB2 hB hz2 hz2b
      have q0 : wr.cell? ⟨w.heap.size, 0, none⟩ = some (.int .i64 B) := hA3 0 _ rfl
      have q1 : wr.cell? ⟨w.heap.size, 1, none⟩ = some (.int .u64 (m : Int)) := hA3 1 _ rfl
      go_wp2_with fail
      refine c2.mono ?_
      rintro e w4 ⟨rfl, hb4⟩
      have hA4b := range_below hA3b hb4 hz3b
      have hB4 := hBx.trans (hb4.mono hBx.size)
      have hz4b : w1.heap.size < w4.heap.size := by have := hb4.size; omega
      clear c2 q0 q1 hA3 hA3b hBx hb4 hz3 hz3b
      have hB5 : Below w.heap.size w (w4.alloc (.cells #[.int .i64 Y, .int .u64 (N : Int)] 24)) := hB4.alloc hB4.size _
      have hA5b : (w4.alloc (.cells #[.int .i64 Y, .int .u64 (N : Int)] 24)).rangeAt w1.heap.size 0 (winC X (M : Int)) := range_below hA4b ((Below.refl _ _).alloc (Nat.le_refl _) _) hz4b
      have hA5 := range_new w4 #[.int .i64 Y, .int .u64 (N : Int)] 24
      obtain ⟨w5, hw5⟩ : ∃ w5, w4.alloc (.cells #[.int .i64 Y, .int .u64 (N : Int)] 24) = w5 := ⟨_, rfl⟩
      rw [hw5] at hB5 hA5b hA5
      have x0 : w5.cell? ⟨w1.heap.size, 0, none⟩ = some (.int .i64 X) := hA5b 0 _ rfl
      have x1 : w5.cell? ⟨w1.heap.size, 1, none⟩ = some (.int .u64 (M : Int)) := hA5b 1 _ rfl
      have y0 : w5.cell? ⟨w4.heap.size, 0, none⟩ = some (.int .i64 Y) := hA5 0 _ rfl
      have y1 : w5.cell? ⟨w4.heap.size, 1, none⟩ = some (.int .u64 (N : Int)) := hA5 1 _ rfl
      have cl := lives_any w5
      clear hA5b hA5 hA4b hB4
      cases K with
      | false =>
        go_wp2_with fail
        refine cl.mono ?_
        rintro e w6 ⟨rfl, hb6⟩
        go_wp2_with fail
        go_ret
        exact ⟨rfl, hB5.trans (hb6.mono hB5.size)⟩
      | true =>
        cases L with
        | false =>
          go_wp2_with fail
          refine cl.mono ?_
          rintro e w6 ⟨rfl, hb6⟩
          go_wp2_with fail
          go_ret
          exact ⟨rfl, hB5.trans (hb6.mono hB5.size)⟩
        | true =>
          obtain ⟨e1, e2⟩ := HX.out rfl rfl
          subst e1 e2
          clear HX
          go_wp2_with fail
          refine cl.mono ?_
          rintro e w6 ⟨rfl, hb6⟩
          go_wp2_with fail
          go_ret
          exact ⟨rfl, hB5.trans (hb6.mono hB5.size)⟩
set_option maxHeartbeats 2000000 in
theorem order_walk (B : Int) (m : Nat) (hm : m < 2 ^ 64) (a : Option Addr) (cap : Nat) (zs : List Int) (turn : Int) (w : World) (hr : RowI w a zs) (hzm : zs.length ≤ maxLen) (hw : ∀ z ∈ zs, z ≤ 9223372036854775807) :
    Calls Try.prog 5 #[winV B (m : Int), .slice a zs.length cap, .int .i64 turn] w fun e w' => e = .returned (.bool true) ∧ Below w.heap.size w w' := by
  have hb0 := one_box (Below.refl (w.alloc (.cells #[.int .i64 B, .int .u64 (m : Int)] 24)).heap.size _)
  by_cases hlong : 200 < zs.length
  · have hli : (200 : Int) < zs.length := by omega
    unfold maxLen at hzm
    go_enter Try.func5, Try.ntmps5
    go_wp2_with fail
    refine (lives_any _).mono ?_
    rintro e w1 ⟨rfl, hb1⟩
    obtain ⟨_, hB1, _⟩ := one_box hb1
    go_wp2_with fail
    go_ret
    exact ⟨rfl, hB1⟩
  · by_cases h0 : zs = []
    · subst h0
      exact order_nil B m hm a cap turn w
    · exact order_some B m hm a cap zs turn w hr hw hlong h0
end Go.Proofs.Ytnjlamcpfclgaaa
