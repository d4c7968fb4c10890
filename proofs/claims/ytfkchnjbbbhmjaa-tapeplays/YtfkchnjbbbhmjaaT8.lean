/- tape: Append, Read -/
import Derived.Test.YtfkchnjbbbhmjaaT7
namespace Go.Proofs.Ytfkchnjbbbhmjaa
open Go.RowKit
theorem RowAt.off {F : Nat → Prop} {w w' : World} {a : Option Addr} {zs : List Int} (h : RowAt w a zs) (ho : Off F w w') (hF : zs = [] ∨ ∀ x, a = some x → ¬ F x.block) : RowAt w' a zs := by
  refine ⟨h.1, h.2.1, ?_⟩
  rcases h.2.2 with q | ⟨b, off, rfl, h1, h2⟩
  · exact .inl q
  · rcases hF with q | q
    · exact .inl q
    · exact .inr ⟨b, off, rfl, Nat.lt_of_lt_of_le h1 ho.size, range_at h2 (ho.2 b h1 (q _ rfl))⟩
theorem Turned.below_l {w w1 w2 : World} {t : Tv} {M : Mt} (hb : Below w.heap.size w w1) (h : Turned w1 w2 t M) : Turned w w2 t M :=
  Turned.trans rfl (Off.of_below hb) (fun _ q => .inl q) h
/-- bytes that lie beside the tape -/
def Beside (t : Tv) (a : Option Addr) (zs : List Int) : Prop := zs = [] ∨ ∀ x, a = some x → ¬ t.own x.block
set_option maxRecDepth 100000 in
set_option maxHeartbeats 4000000 in
theorem tappend_any (t : Tv) (M : Mt) (area : Int) (a : Option Addr) (cap : Nat) (zs : List Int) (w : World) (h : TapeAt w t M) (hz : RowAt w a zs) (hbe : Beside t a zs) :
    Calls Try.prog 14 #[tptr t, .int .i64 area, .slice a zs.length cap] w fun e w' => e = .returned (.int .i64 (M.append area zs).1) ∧ Turned w w' t (M.append area zs).2 := by
  have hB1 : Below w.heap.size w (w.alloc (.cells #[.slice a zs.length cap] 29)) := (Below.refl _ _).alloc (Nat.le_refl _) _
  have hX1 : (w.alloc (.cells #[.slice a zs.length cap] 29)).cell? ⟨w.heap.size, 0, none⟩ = some (.slice a zs.length cap) := range_new w #[.slice a zs.length cap] 29 0 _ rfl
  have hl : zs.length ≤ 9223372036854775807 := by have := hz.1; unfold maxLen at this; omega
  have hXo : ¬ t.own w.heap.size := fun q => by have := h.own_lt q; omega
  have c1 := fun w0 (hb : Below w.heap.size w w0) => reach_any t M area w0 (h.below hb)
  have c2 := fun w0 (hb : Below w.heap.size w w0) => used_any t M w0 (h.below hb)
  have HD : Hid (¬ M.room - ((M.a.length : Int) + M.b.length) < zs.length → ∀ w0, Below w.heap.size w w0 → w0.cell? ⟨w.heap.size, 0, none⟩ = some (.slice a zs.length cap) →
      Calls Try.prog 43 #[tptr t, .int .i64 area, .func (.func 44) #[] #[.pointer (some ⟨w.heap.size, 0, none⟩)]] w0 fun e w' => e = .returned (.int .i64 (M.does area (Mt.put zs)).1) ∧ Turned w0 w' t (M.does area (Mt.put zs)).2) := hide (fun hroom w0 hb hX =>
    operate_any t M area 44 eg_app #[.pointer (some ⟨w.heap.size, 0, none⟩)] (Mt.put zs) w0 (h.below hb) (fun _ k W t1 k1 k2 k3 k4 => by
      have hXl : w.heap.size < w0.heap.size := World.block_lt_of_cell? w0 _ hX
      refine app1_any t1 M.down k w.heap.size a cap zs W k1 (cell_at hX (k3.2 _ hXl hXo)) (fun q => ?_) ((hz.below hb).off k3 hbe) ?_
      · rcases k4 _ q with q1 | q1
        · exact hXo q1
        · omega
      · exact k1.ok.put zs hz.2.1 hroom k) (fun k => by cases k <;> rfl) (fun k => by cases k <;> rfl))
  have HS : Hid (∀ w', Below w.heap.size w w' → Turned w w' t M) := hide (fun w' hb => Turned.same h hb)
  have q2 := fun w0 (hb : Below w.heap.size w w0) => (h.below hb).c2
  have hrm := h.ok.rm
  have hrl := h.ok.rl
  obtain ⟨W1, hW1⟩ : ∃ W1, w.alloc (.cells #[.slice a zs.length cap] 29) = W1 := ⟨_, rfl⟩
  rw [hW1] at hB1 hX1
  clear h hz hbe hXo
  unfold tptr at *
  unfold Mt.append
  by_cases hfa : M.fault area = 0
  · rw [hfa] at c1
    rw [if_pos hfa]
    clear hfa
    obtain ⟨u, hu⟩ : ∃ u, Hid (((M.a.length : Int) + M.b.length) = u) := ⟨_, hide rfl⟩
    have hu0 : 0 ≤ u := by rw [← hu.out]; omega
    rw [hu.out] at HD hrm ⊢
    simp only [hu.out] at c2
    clear hu
    obtain ⟨rm, hrmE⟩ : ∃ rm, Hid (M.room = rm) := ⟨_, hide rfl⟩
    rw [hrmE.out] at HD hrm hrl ⊢
    simp only [hrmE.out] at q2
    clear hrmE
    by_cases hroom : rm - u < zs.length
    · rw [if_pos hroom]
      have HR := hide hroom
      clear HD hroom
      go_enter Try.func14, Try.ntmps14
      go_wp2_with fail
      try rw [hW1]
      refine (c1 W1 hB1).mono ?_
      rintro e w' ⟨rfl, hw⟩
      obtain rfl := hw.symm
      clear c1 hw hW1
      go_wp2_with fail
      obtain ⟨w8, hw8⟩ : ∃ w8, W1.drew = w8 := ⟨_, rfl⟩
      have B8 : Below w.heap.size w w8 := by rw [← hw8]; exact hB1.drew
      have x8 : w8.cell? ⟨w.heap.size, 0, none⟩ = some (.slice a zs.length cap) := by rw [← hw8]; exact hX1
      have r8 := q2 w8 B8
      have hwr : IntKind.i64.wrap (rm - u) = rm - u := by rw [IntKind.wrap_i64]; omega
      refine hs_begin (S := fun w' => w' = w8) 10 rfl (by kernel_rfl) ?_
      rw [hw8]
      clear hw8 hX1 hB1
      have hS : (fun w' => w' = w8) w8 := rfl
      refine hs_take (i := 0) (d := some 14) (v := ?_) rfl (by kernel_rfl) (by kernel_rfl) (by kernel_rfl) (by rfl) ?_ hS rfl ?_
      rotate_left
      · intro w' hw
        obtain rfl : w8 = w' := hw.symm; have hc := x8
        go_simp
        try with_reducible rfl
      simp only [Act.put, List.setIfInBounds_toArray, List.set_cons_zero, List.set_cons_succ]
      refine hs_take (i := 1) (d := some 15) (v := ?_) rfl (by kernel_rfl) (by kernel_rfl) (by kernel_rfl) (by rfl) ?_ hS rfl ?_
      rotate_left
      · intro w' hw
        go_simp
        try with_reducible rfl
      simp only [Act.put, List.setIfInBounds_toArray, List.set_cons_zero, List.set_cons_succ]
      refine hs_take (i := 2) (d := some 16) (v := ?_) rfl (by kernel_rfl) (by kernel_rfl) (by kernel_rfl) (by rfl) ?_ hS rfl ?_
      rotate_left
      · intro w' hw
        go_simp
        try with_reducible rfl
      simp only [Act.put, List.setIfInBounds_toArray, List.set_cons_zero, List.set_cons_succ]
      refine hs_take (i := 3) (d := some 17) (v := ?_) rfl (by kernel_rfl) (by kernel_rfl) (by kernel_rfl) (by rfl) ?_ hS rfl ?_
      rotate_left
      · intro w' hw
        go_simp
        try with_reducible rfl
      simp only [Act.put, List.setIfInBounds_toArray, List.set_cons_zero, List.set_cons_succ]
      refine hs_take (i := 4) (d := some 18) (v := ?_) rfl (by kernel_rfl) (by kernel_rfl) (by kernel_rfl) (by rfl) ?_ hS rfl ?_
      rotate_left
      · intro w' hw
        go_simp
        try with_reducible rfl
      simp only [Act.put, List.setIfInBounds_toArray, List.set_cons_zero, List.set_cons_succ]
      refine hs_take (i := 5) (d := some 19) (v := ?_) rfl (by kernel_rfl) (by kernel_rfl) (by kernel_rfl) (by rfl) ?_ hS rfl ?_
      rotate_left
      · intro w' hw
        obtain rfl : w8 = w' := hw.symm; have hc := r8
        go_simp
        try with_reducible rfl
      simp only [Act.put, List.setIfInBounds_toArray, List.set_cons_zero, List.set_cons_succ]
      refine hs_take (i := 6) (d := some 20) (v := ?_) rfl (by kernel_rfl) (by kernel_rfl) (by kernel_rfl) (by rfl) ?_ hS rfl ?_
      rotate_left
      · intro w' hw
        go_simp
        try with_reducible rfl
      simp only [Act.put, List.setIfInBounds_toArray, List.set_cons_zero, List.set_cons_succ]
      refine hs_call (i := 7) (d := some 21) rfl (by kernel_rfl) (by rfl) (by go_simp; first | done | exact ⟨rfl, rfl⟩ | with_reducible rfl) rfl ?_
      refine (c2 w8 B8).mono ?_
      rintro e' w9 ⟨rfl, hx⟩
      obtain rfl := hx.symm
      clear hx
      refine ⟨_, rfl, rfl, ?_⟩
      simp only [Act.put, List.setIfInBounds_toArray, List.set_cons_zero, List.set_cons_succ]
      refine hs_take (i := 8) (d := some 22) (v := ?_) rfl (by kernel_rfl) (by kernel_rfl) (by kernel_rfl) (by rfl) ?_ hS rfl ?_
      rotate_left
      · intro w' hw
        go_simp
        try with_reducible rfl
      simp only [Act.put, List.setIfInBounds_toArray, List.set_cons_zero, List.set_cons_succ]
      have hroom := HR.out
      refine hs_take (i := 9) (d := some 23) (v := .bool true) rfl (by kernel_rfl) (by kernel_rfl) (by kernel_rfl) (by rfl) (fun w' hw => by go_simp) hS rfl ?_
      simp only [Act.put, List.setIfInBounds_toArray, List.set_cons_zero, List.set_cons_succ]
      refine hs_done (by kernel_rfl) ?_
      clear hS hwr hroom c2 q2
      go_wp2_with fail
      go_ret
      exact ⟨rfl, HS.out _ B8⟩
    · rw [if_neg hroom]
      have HR := hide hroom
      have c3' := fun w0 hb hx => HD.out hroom w0 hb hx
      clear HD hroom
      generalize M.does area (Mt.put zs) = rr at *
      go_enter Try.func14, Try.ntmps14
      go_wp2_with fail
      try rw [hW1]
      refine (c1 W1 hB1).mono ?_
      rintro e w' ⟨rfl, hw⟩
      obtain rfl := hw.symm
      clear c1 hw hW1
      go_wp2_with fail
      obtain ⟨w8, hw8⟩ : ∃ w8, W1.drew = w8 := ⟨_, rfl⟩
      have B8 : Below w.heap.size w w8 := by rw [← hw8]; exact hB1.drew
      have x8 : w8.cell? ⟨w.heap.size, 0, none⟩ = some (.slice a zs.length cap) := by rw [← hw8]; exact hX1
      have r8 := q2 w8 B8
      have hwr : IntKind.i64.wrap (rm - u) = rm - u := by rw [IntKind.wrap_i64]; omega
      refine hs_begin (S := fun w' => w' = w8) 10 rfl (by kernel_rfl) ?_
      rw [hw8]
      clear hw8 hX1 hB1
      have hS : (fun w' => w' = w8) w8 := rfl
      refine hs_take (i := 0) (d := some 14) (v := ?_) rfl (by kernel_rfl) (by kernel_rfl) (by kernel_rfl) (by rfl) ?_ hS rfl ?_
      rotate_left
      · intro w' hw
        obtain rfl : w8 = w' := hw.symm; have hc := x8
        go_simp
        try with_reducible rfl
      simp only [Act.put, List.setIfInBounds_toArray, List.set_cons_zero, List.set_cons_succ]
      refine hs_take (i := 1) (d := some 15) (v := ?_) rfl (by kernel_rfl) (by kernel_rfl) (by kernel_rfl) (by rfl) ?_ hS rfl ?_
      rotate_left
      · intro w' hw
        go_simp
        try with_reducible rfl
      simp only [Act.put, List.setIfInBounds_toArray, List.set_cons_zero, List.set_cons_succ]
      refine hs_take (i := 2) (d := some 16) (v := ?_) rfl (by kernel_rfl) (by kernel_rfl) (by kernel_rfl) (by rfl) ?_ hS rfl ?_
      rotate_left
      · intro w' hw
        go_simp
        try with_reducible rfl
      simp only [Act.put, List.setIfInBounds_toArray, List.set_cons_zero, List.set_cons_succ]
      refine hs_take (i := 3) (d := some 17) (v := ?_) rfl (by kernel_rfl) (by kernel_rfl) (by kernel_rfl) (by rfl) ?_ hS rfl ?_
      rotate_left
      · intro w' hw
        go_simp
        try with_reducible rfl
      simp only [Act.put, List.setIfInBounds_toArray, List.set_cons_zero, List.set_cons_succ]
      refine hs_take (i := 4) (d := some 18) (v := ?_) rfl (by kernel_rfl) (by kernel_rfl) (by kernel_rfl) (by rfl) ?_ hS rfl ?_
      rotate_left
      · intro w' hw
        go_simp
        try with_reducible rfl
      simp only [Act.put, List.setIfInBounds_toArray, List.set_cons_zero, List.set_cons_succ]
      refine hs_take (i := 5) (d := some 19) (v := ?_) rfl (by kernel_rfl) (by kernel_rfl) (by kernel_rfl) (by rfl) ?_ hS rfl ?_
      rotate_left
      · intro w' hw
        obtain rfl : w8 = w' := hw.symm; have hc := r8
        go_simp
        try with_reducible rfl
      simp only [Act.put, List.setIfInBounds_toArray, List.set_cons_zero, List.set_cons_succ]
      refine hs_take (i := 6) (d := some 20) (v := ?_) rfl (by kernel_rfl) (by kernel_rfl) (by kernel_rfl) (by rfl) ?_ hS rfl ?_
      rotate_left
      · intro w' hw
        go_simp
        try with_reducible rfl
      simp only [Act.put, List.setIfInBounds_toArray, List.set_cons_zero, List.set_cons_succ]
      refine hs_call (i := 7) (d := some 21) rfl (by kernel_rfl) (by rfl) (by go_simp; first | done | exact ⟨rfl, rfl⟩ | with_reducible rfl) rfl ?_
      refine (c2 w8 B8).mono ?_
      rintro e' w9 ⟨rfl, hx⟩
      obtain rfl := hx.symm
      clear hx
      refine ⟨_, rfl, rfl, ?_⟩
      simp only [Act.put, List.setIfInBounds_toArray, List.set_cons_zero, List.set_cons_succ]
      refine hs_take (i := 8) (d := some 22) (v := ?_) rfl (by kernel_rfl) (by kernel_rfl) (by kernel_rfl) (by rfl) ?_ hS rfl ?_
      rotate_left
      · intro w' hw
        go_simp
        try with_reducible rfl
      simp only [Act.put, List.setIfInBounds_toArray, List.set_cons_zero, List.set_cons_succ]
      have c3 := c3' w8 B8 x8
      have hroom := HR.out
      refine hs_take (i := 9) (d := some 23) (v := .bool false) rfl (by kernel_rfl) (by kernel_rfl) (by kernel_rfl) (by rfl) (fun w' hw => by go_simp) hS rfl ?_
      simp only [Act.put, List.setIfInBounds_toArray, List.set_cons_zero, List.set_cons_succ]
      refine hs_done (by kernel_rfl) ?_
      clear hS hwr hroom c2 q2 HS c3'
      go_wp2_with fail
      refine c3.mono ?_
      rintro e w' ⟨rfl, hw⟩
      clear c3
      go_wp2_with fail
      go_ret
      exact ⟨rfl, Turned.below_l B8 hw⟩
  · rw [if_neg hfa]
    obtain ⟨z, hz⟩ : ∃ z, Hid (M.fault area = z) := ⟨_, hide rfl⟩
    simp only [hz.out] at c1
    rw [hz.out] at hfa ⊢
    have hz0 : (z == 0) = false := by simpa using hfa
    clear hz hfa HD c2
    go_enter Try.func14, Try.ntmps14
    go_wp2_with fail
    try rw [hW1]
    refine (c1 W1 hB1).mono ?_
    rintro e w' ⟨rfl, hw⟩
    obtain rfl := hw.symm
    clear c1 hw hW1
    go_wp2_with fail
    go_ret
    exact ⟨rfl, HS.out _ hB1⟩
theorem clone_src {w : World} {a : Option Addr} {zs : List Int} (h : RowAt w a zs) : RowAt w a zs := h
set_option maxRecDepth 100000 in
set_option maxHeartbeats 2000000 in
theorem clone_any (a : Option Addr) (cap : Nat) (zs : List Int) (w : World) (h : RowAt w a zs) (hn : zs.length ≤ 1073741824) :
    Calls Try.prog 72 #[.slice a zs.length cap] w fun e w' => ∃ v, e = .returned v ∧ w'.ownsRow w.heap.size 5 1 v zs.length (v8 zs) ∧ Below w.heap.size w w' := by
  obtain ⟨i1, hi1, hiz, his, hib⟩ := info_parts info8
  cases a with
  | none =>
    have hnil : zs = [] := by
      rcases h.2.2 with q | ⟨b, off, hx, _⟩
      · exact q
      · cases hx
    subst hnil
    have hn := fun w => Lib.run_eql_slice_nil (P := Try.prog) w 29 5 none 0 cap 0 0 Try.underlying29
    go_enter Try.func72, Try.ntmps72
    go_wp2
    go_ret
    exact ⟨_, rfl, World.ownsRow_nil _ _ _ _, Below.refl _ _⟩
  | some x =>
    have hb1 : Below w.heap.size w (w.alloc (.cells #[] 5)) := (Below.refl _ _).alloc (Nat.le_refl _) _
    have hown1 : (w.alloc (.cells #[] 5)).ownsRow w.heap.size 5 1 (.slice (some ⟨w.heap.size, 0, none⟩) 0 0) 0 [] :=
      ⟨rfl, .inr ⟨w.heap.size, 0, #[], rfl, Nat.le_refl _, heap_alloc_new w _, Nat.le_refl _, by unfold maxLen; omega, rfl, rfl⟩⟩
    have hsrc := (h.below hb1).src cap
    have hn1 := fun w => Lib.run_eql_slice_nil (P := Try.prog) w 29 5 (some x) zs.length cap 0 0 Try.underlying29
    go_enter Try.func72, Try.ntmps72
    go_wp2_with (at_builtin; refine wpList_append_own_src _ rfl _ _ 29 29 rfl w.heap.size 5 i1 (.int .u8 0) 1 1 Try.underlying29 hi1 hiz his hib rfl _ 0 [] rfl hown1 (.slice (some x) zs.length cap) zs.length (v8 zs) rfl hsrc ?c1 ?c2 ?c3 ?_)
    case c1 => unfold maxLen; omega
    case c2 => omega
    case c3 => exact hb1.size
    intro v2 w2 hown2 hgrow2
    have hb2 : Below w.heap.size w w2 := hb1.grown hgrow2 hb1.size (fun k hk => (hown1.lt k hk).1)
    go_wp2
    go_ret
    exact ⟨_, rfl, by simpa using hown2, hb2⟩
set_option maxRecDepth 100000 in
set_option maxHeartbeats 2000000 in
theorem copied_any (p o : Nat) (a : Option Addr) (cap : Nat) (zs : List Int) (w : World) (hc : w.cell? ⟨p, o, none⟩ = some (.slice a zs.length cap)) (h : RowAt w a zs) (hn : zs.length ≤ 1073741824) :
    Calls Try.prog 52 #[.pointer (some ⟨p, o, none⟩)] w fun e w' => ∃ v, e = .returned v ∧ w'.ownsRow w.heap.size 5 1 v zs.length (v8 zs) ∧ Below w.heap.size w w' := by
  have c1 := clone_any a cap zs w h hn
  clear h
  go_enter Try.func52, Try.ntmps52
  go_wp2_with fail
  refine c1.mono ?_
  rintro e w' ⟨v, rfl, hw⟩
  clear c1
  go_wp2_with fail
  go_ret
  exact ⟨_, rfl, hw⟩
theorem TapeAt.row {w : World} {t : Tv} {M : Mt} (h : TapeAt w t M) (k : Bool) : ∃ a cap, t.v k = .slice a (M.get k).length cap ∧ RowAt w a (M.get k) ∧ (M.get k).length ≤ 1073741824 := by
  have h1 := h.ok.rm
  have h2 := h.ok.rl
  have hl : (M.get k).length ≤ 1073741824 := by cases k <;> simp only [Mt.get] <;> omega
  have hz : ∀ z ∈ M.get k, 0 ≤ z ∧ z < 256 := by
    cases k
    · exact h.ok.za
    · exact h.ok.zb
  obtain ⟨a, cap, h1, -, -, h2⟩ := own_bytes (h.ok' k) hz (by unfold maxLen; omega)
  exact ⟨a, cap, h1, h2, hl⟩
/-- what Read tells -/
def Mt.read (M : Mt) (area : Int) : List Int := if M.fault area = 0 then M.get (decide (area = 1)) else []
theorem Mt.fault_ok {M : Mt} {area : Int} (hfa : M.fault area = 0) : (area = 0 ∨ area = 1) ∧ M.on = true := by
  unfold Mt.fault at hfa
  split at hfa
  · rename_i q
    refine ⟨q, ?_⟩
    split at hfa
    · assumption
    · cases hfa
  · cases hfa
set_option maxRecDepth 100000 in
set_option maxHeartbeats 2000000 in
theorem tread_any (t : Tv) (M : Mt) (area : Int) (w : World) (h : TapeAt w t M) :
    Calls Try.prog 19 #[tptr t, .int .i64 area] w fun e w' => ∃ v, e = .returned (.tuple #[v, .int .i64 (M.fault area)]) ∧ w'.ownsRow w.heap.size 5 1 v (M.read area).length (v8 (M.read area)) ∧ Below w.heap.size w w' := by
  have c1 := reach_any t M area w h
  by_cases hfa : M.fault area = 0
  · have hr : M.read area = M.get (decide (area = 1)) := if_pos hfa
    rw [hr]
    rw [hfa] at c1 ⊢
    obtain ⟨a, cap, e1, e2, e3⟩ := h.row (decide (area = 1))
    have hc := h.ck (decide (area = 1))
    rw [e1] at hc
    have c2 := copied_any t.p (offA (decide (area = 1))) a cap _ w hc e2 e3
    have hx := (Mt.fault_ok hfa).1
    unfold tptr at *
    clear h hr hfa e1 e2 e3 hc
    rcases hx with rfl | rfl
    · rw [show offA (decide ((0 : Int) = 1)) = 3 from rfl, show decide ((0 : Int) = 1) = false from rfl] at c2
      rw [show decide ((0 : Int) = 1) = false from rfl]
      go_enter Try.func19, Try.ntmps19
      go_wp2_with fail
      refine c1.mono ?_
      rintro e w' ⟨rfl, hw⟩
      obtain rfl := hw.symm
      clear c1 hw
      go_wp2_with fail
      refine c2.mono ?_
      rintro e w' ⟨v, rfl, hw⟩
      clear c2
      go_wp2_with fail
      go_ret2
      exact ⟨_, rfl, hw⟩
    · rw [show offA (decide ((1 : Int) = 1)) = 5 from rfl, show decide ((1 : Int) = 1) = true from rfl] at c2
      rw [show decide ((1 : Int) = 1) = true from rfl]
      go_enter Try.func19, Try.ntmps19
      go_wp2_with fail
      refine c1.mono ?_
      rintro e w' ⟨rfl, hw⟩
      obtain rfl := hw.symm
      clear c1 hw
      go_wp2_with fail
      refine c2.mono ?_
      rintro e w' ⟨v, rfl, hw⟩
      clear c2
      go_wp2_with fail
      go_ret2
      exact ⟨_, rfl, hw⟩
  · have hr : M.read area = [] := if_neg hfa
    rw [hr]
    obtain ⟨z, hz⟩ : ∃ z, Hid (M.fault area = z) := ⟨_, hide rfl⟩
    rw [hz.out] at c1 hfa ⊢
    have hz0 : (z == 0) = false := by simpa using hfa
    have HP : Hid (w.ownsRow w.heap.size 5 1 (.slice none 0 0) 0 (v8 []) ∧ Below w.heap.size w w) := hide ⟨World.ownsRow_nil _ _ _ _, Below.refl _ _⟩
    unfold tptr at *
    clear h hr hfa hz
    go_enter Try.func19, Try.ntmps19
    go_wp2_with fail
    refine c1.mono ?_
    rintro e w' ⟨rfl, hw⟩
    obtain rfl := hw.symm
    clear c1 hw
    go_wp2_with fail
    go_ret2
    exact ⟨_, rfl, HP.out⟩
end Go.Proofs.Ytfkchnjbbbhmjaa
