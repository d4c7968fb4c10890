/- the document's marks: Add -/
import Derived.Test.YtfaagiilldkdgaaK10
namespace Go.Proofs.Ytfaagiilldkdgaa
open Go.RowKit
set_option linter.unusedVariables false
set_option linter.unusedSimpArgs false
def F3 (E D T z : Nat) : Prop := z = E ∨ z = D ∨ z = T
theorem Off.of_sets {F : Nat → Prop} (w : World) (b o : Nat) (cs : List Value) (hF : F b) : Off F w (w.setCells b o cs) :=
  ⟨below_sets (Nat.zero_le _) _ _ _ (Below.refl _ _), fun z hz hf => World.heap_setCells_other w b o cs hz (fun e => hf (e ▸ hF))⟩
theorem was_put (m : Int → Option Mk) (i j : Nat) (x : Mk) : wasOf (putM m i x) j = if j = i then x else wasOf m j := by
  unfold wasOf putM
  by_cases h : j = i
  · subst h
    simp
  · rw [if_neg h, if_neg (by omega)]
theorem cell_set1 {w : World} {b i j : Nat} {v u : Value} (h : w.cell? ⟨b, j, none⟩ = some u) : (w.setCells b i [v]).cell? ⟨b, j, none⟩ = some (if j = i then v else u) := by
  show (w.setCell ⟨b, i, none⟩ v).cell? ⟨b, j, none⟩ = _
  by_cases e : j = i
  · subst e
    rw [if_pos rfl]
    exact World.cell?_setCell_same _ _ _ h
  · rw [if_neg e, World.cell?_setCell_other _ _ _ _ (fun q => e (by injection q with _ q2 _; exact q2.symm))]
    exact h
theorem cell_sets_other {w : World} {b o i c : Nat} {cs : List Value} (hb : b < w.heap.size) (hne : b ≠ c) : (w.setCells c o cs).cell? ⟨b, i, none⟩ = w.cell? ⟨b, i, none⟩ := by
  have := World.heap_setCells_other w c o cs hb hne
  simp [World.cell?, this]
theorem XAt.put {w : World} {X E D T n : Nat} {m : Int → Option Mk} (h : XAt w X E D T n m) (i : Nat) (hi : i < n) (x : Mk) (hx : x.ok) (he : 1 ≤ x.e ∧ x.e ≤ 1048576) :
    XAt (((w.setCells E i [.int .i64 x.e]).setCells D (i * 32) (v8 x.d)).setCells T (i * 16) (v8 x.t)) X E D T n (putM m i x) := by
  obtain ⟨n1, n2, n3, n4, n5, n6⟩ := h.ne
  have s1 : (w.setCells E i [.int .i64 x.e]).heap.size = w.heap.size := setCells_size _ _ _ _
  have s2 : ((w.setCells E i [.int .i64 x.e]).setCells D (i * 32) (v8 x.d)).heap.size = w.heap.size := by rw [setCells_size, s1]
  have s3 : (((w.setCells E i [.int .i64 x.e]).setCells D (i * 32) (v8 x.d)).setCells T (i * 16) (v8 x.t)).heap.size = w.heap.size := by rw [setCells_size, s2]
  have cX : ∀ o, (((w.setCells E i [.int .i64 x.e]).setCells D (i * 32) (v8 x.d)).setCells T (i * 16) (v8 x.t)).cell? ⟨X, o, none⟩ = w.cell? ⟨X, o, none⟩ := fun o => by
    rw [cell_sets_other (by rw [s2]; exact h.lt) n3, cell_sets_other (by rw [s1]; exact h.lt) n2, cell_sets_other h.lt n1]
  refine ⟨by rw [s3]; exact h.lt, by rw [s3]; exact h.ltE, by rw [s3]; exact h.ltD, by rw [s3]; exact h.ltT, (cX 0).trans h.c0, (cX 1).trans h.c1, (cX 2).trans h.c2, (cX 3).trans h.c3, fun j hj => ?_, fun j hj => ?_, fun j hj => ?_, World.there_setCells (World.there_setCells (World.there_setCells h.tE _ _ _) _ _ _) _ _ _, World.there_setCells (World.there_setCells (World.there_setCells h.tD _ _ _) _ _ _) _ _ _, World.there_setCells (World.there_setCells (World.there_setCells h.tT _ _ _) _ _ _) _ _ _, h.ne, h.good, fun k y hk => ?_⟩
  · rw [cell_sets_other (by rw [s2]; exact h.ltE) n5, cell_sets_other (by rw [s1]; exact h.ltE) n4, cell_set1 (h.rE j hj), was_put]
    split <;> rfl
  · refine World.rangeAt_setCells_apart ?_ _ _ _ (.inl n6)
    rw [was_put]
    split
    · rename_i e
      subst e
      exact World.rangeAt_setCells_same _ _ _ _ (by rw [v8_length, hx.dl]; exact World.there_setCells (by have := there_part h.tD (j * 32) 32 (by omega); simpa using this) _ _ _)
    · rename_i e
      refine World.rangeAt_setCells_apart (World.rangeAt_setCells_apart (h.rD j hj) _ _ _ (.inl n4.symm)) _ _ _ (.inr ?_)
      have hl : (v8 (wasOf m j).d).length = 32 := by
        rw [v8_length]
        unfold wasOf
        cases hm : m j with
        | none => rfl
        | some y => exact (h.ok j y hm).1.dl
      rw [hl, v8_length, hx.dl]
      omega
  · rw [was_put]
    split
    · rename_i e
      subst e
      exact World.rangeAt_setCells_same _ _ _ _ (by rw [v8_length, hx.tl]; exact World.there_setCells (World.there_setCells (by have := there_part h.tT (j * 16) 16 (by omega); simpa using this) _ _ _) _ _ _)
    · rename_i e
      refine World.rangeAt_setCells_apart (World.rangeAt_setCells_apart (World.rangeAt_setCells_apart (h.rT j hj) _ _ _ (.inl n5.symm)) _ _ _ (.inl n6.symm)) _ _ _ (.inr ?_)
      have hl : (v8 (wasOf m j).t).length = 16 := by
        rw [v8_length]
        unfold wasOf
        cases hm : m j with
        | none => rfl
        | some y => exact (h.ok j y hm).1.tl
      rw [hl, v8_length, hx.tl]
      omega
  · unfold putM at hk
    split at hk
    · rename_i e
      subst e
      obtain rfl := Option.some.inj hk
      exact ⟨hx, by omega, by omega, he.1, he.2⟩
    · exact h.ok k y hk
theorem XAt.was {w : World} {X E D T n : Nat} {m : Int → Option Mk} (h : XAt w X E D T n m) (k : Int) : (wasOf m k).ok := by
  unfold wasOf
  cases hm : m k with
  | none => exact mk0_ok
  | some x => exact (h.ok k x hm).1
set_option maxHeartbeats 1000000 in
theorem xadd_b1 (X E D T n : Nat) (m : Int → Option Mk) (k e : Int) (u t : List Value) (w : World) (h : XAt w X E D T n m) (hk : k < 0) : Calls Try.prog 10 #[.pointer (some ⟨X, 0, none⟩), .int .i64 k, .int .i64 e, .agg u.toArray, .agg t.toArray] w fun e w' => e = .returned (.int .i64 2) ∧ Below w.heap.size w w' := by
  go_enter Try.func10, Try.ntmps10
  go_upto_region 1 with fail
  go_name_world w1 hw1
  obtain ⟨hB1, hRd, hRt, hsz1⟩ := two_box hw1
  clear hw1
  have h1 := h.below hB1
  have c0 := h1.c0
  go_wp2_with fail
  go_ret
  exact ⟨rfl, hB1⟩
set_option maxHeartbeats 1000000 in
theorem xadd_b2 (X E D T n : Nat) (m : Int → Option Mk) (k e : Int) (u t : List Value) (w : World) (h : XAt w X E D T n m) (hk : 0 ≤ k) (hk2 : (n : Int) ≤ k) : Calls Try.prog 10 #[.pointer (some ⟨X, 0, none⟩), .int .i64 k, .int .i64 e, .agg u.toArray, .agg t.toArray] w fun e w' => e = .returned (.int .i64 2) ∧ Below w.heap.size w w' := by
  go_enter Try.func10, Try.ntmps10
  go_upto_region 1 with fail
  go_name_world w1 hw1
  obtain ⟨hB1, hRd, hRt, hsz1⟩ := two_box hw1
  clear hw1
  have h1 := h.below hB1
  have c0 := h1.c0
  go_wp2_with fail
  go_ret
  exact ⟨rfl, hB1⟩
set_option maxHeartbeats 1000000 in
theorem xadd_b3 (X E D T n : Nat) (m : Int → Option Mk) (k e : Int) (u t : List Value) (w : World) (h : XAt w X E D T n m) (hk : 0 ≤ k) (hk2 : k < (n : Int)) (he : e < 1) : Calls Try.prog 10 #[.pointer (some ⟨X, 0, none⟩), .int .i64 k, .int .i64 e, .agg u.toArray, .agg t.toArray] w fun e w' => e = .returned (.int .i64 2) ∧ Below w.heap.size w w' := by
  go_enter Try.func10, Try.ntmps10
  go_upto_region 1 with fail
  go_name_world w1 hw1
  obtain ⟨hB1, hRd, hRt, hsz1⟩ := two_box hw1
  clear hw1
  have h1 := h.below hB1
  have c0 := h1.c0
  go_wp2_with fail
  go_ret
  exact ⟨rfl, hB1⟩
set_option maxHeartbeats 1000000 in
theorem xadd_b4 (X E D T n : Nat) (m : Int → Option Mk) (k e : Int) (u t : List Value) (w : World) (h : XAt w X E D T n m) (hk : 0 ≤ k) (hk2 : k < (n : Int)) (he1 : 1 ≤ e) (he : 1048576 < e) : Calls Try.prog 10 #[.pointer (some ⟨X, 0, none⟩), .int .i64 k, .int .i64 e, .agg u.toArray, .agg t.toArray] w fun e w' => e = .returned (.int .i64 2) ∧ Below w.heap.size w w' := by
  go_enter Try.func10, Try.ntmps10
  go_upto_region 1 with fail
  go_name_world w1 hw1
  obtain ⟨hB1, hRd, hRt, hsz1⟩ := two_box hw1
  clear hw1
  have h1 := h.below hB1
  have c0 := h1.c0
  go_wp2_with fail
  go_ret
  exact ⟨rfl, hB1⟩
def SXa (X E D T n : Nat) (m : Int → Option Mk) (B : Nat) (u t : List Value) (x : World) : Prop := XAt x X E D T n m ∧ x.rangeAt B 0 u ∧ x.rangeAt (B + 1) 0 t
set_option maxRecDepth 100000 in
set_option maxHeartbeats 2000000 in
theorem xadd_same (X E D T n : Nat) (m : Int → Option Mk) (i : Nat) (x : Mk) (hx : x.ok) (w : World) (h : XAt w X E D T n m) (hi : i < n) (he1 : 1 ≤ x.e) (he2 : x.e ≤ 1048576) (hee : (wasOf m i).e = x.e) (hdd : (wasOf m i).d = x.d) : Calls Try.prog 10 #[.pointer (some ⟨X, 0, none⟩), .int .i64 (i : Int), .int .i64 x.e, .agg (v8 x.d).toArray, .agg (v8 x.t).toArray] w fun e w' => e = .returned (.int .i64 0) ∧ Below w.heap.size w w' := by
  have hiI : (i : Int) < (n : Int) := by omega
  have hyo := h.was (i : Int)
  have hg := h.good
  have hcmp := fun w' => eqD (wasOf m i).d x.d hyo.dl hx.dl w'
  have hrE : ∀ w', XAt w' X E D T n m → w'.cell? ⟨E, i, none⟩ = some (.int .i64 (wasOf m i).e) := fun w' q => q.rE i hi
  have hrD : ∀ w', XAt w' X E D T n m → w'.rangeAt D (i * 32) (v8 (wasOf m i).d) := fun w' q => q.rD i hi
  have hX0 := h.lt
  have hE0 := h.ltE
  have hD0 := h.ltD
  have hT0 := h.ltT
  have hq : ((wasOf m i).e == x.e) = true := by simpa using hee
  have hq2 : ((wasOf m i).d == x.d) = true := by simpa using hdd
  simp only [hq2] at hcmp
  clear hee hdd hq2
  obtain ⟨yy, hyy⟩ : ∃ yy, Hid (wasOf m (i : Int) = yy) := ⟨_, hide rfl⟩
  rw [hyy.out] at hyo
  simp only [hyy.out] at *
  obtain ⟨ye, yd, yt⟩ := yy
  have hpx := fun w' (q : XAt w' X E D T n m) => XAt.put q i hi x hx ⟨he1, he2⟩
  obtain ⟨xe, xd, xt⟩ := x
  simp only at *
  obtain ⟨u, hu⟩ : ∃ u, Hid (v8 xd = u) := ⟨_, hide rfl⟩
  obtain ⟨t, ht⟩ : ∃ u, Hid (v8 xt = u) := ⟨_, hide rfl⟩
  obtain ⟨y, hy⟩ : ∃ u, Hid (v8 yd = u) := ⟨_, hide rfl⟩
  have hu32 : u.length = 32 := by rw [← hu.out, v8_length]; exact hx.dl
  have ht16 : t.length = 16 := by rw [← ht.out, v8_length]; exact hx.tl
  have hy32 : y.length = 32 := by rw [← hy.out, v8_length]; exact hyo.dl
  have hu1 : ∀ v ∈ u, v.oneCell' = true := by rw [← hu.out]; exact v8_one _
  have ht1 : ∀ v ∈ t, v.oneCell' = true := by rw [← ht.out]; exact v8_one _
  have hiD : (Try.prog.info? 29).map (·.size) = some u.length := by rw [hu32]; exact iszD
  have hiT : (Try.prog.info? 31).map (·.size) = some t.length := by rw [ht16]; exact iszT
  have hiy : (Try.prog.info? 29).map (·.size) = some y.length := by rw [hy32]; exact iszD
  simp only [hu.out, ht.out, hy.out] at hcmp hrD hpx ⊢
  clear hy hyy
  go_enter Try.func10, Try.ntmps10
  go_upto_region 1 with fail
  go_name_world w1 hw1
  obtain ⟨hB1, hRd, hRt, hsz1⟩ := two_box hw1
  clear hw1
  have h1 := h.below hB1
  have c0 := h1.c0
  have c1 := h1.c1
  have e1 := hrE w1 h1
  go_upto_region 4 with fail
  have hS : SXa X E D T n m w.heap.size u t w1.drew := ⟨h1.below (Below.refl _ _).drew, (World.rangeAt_drew _ _ _ _).2 hRd, (World.rangeAt_drew _ _ _ _).2 hRt⟩
  have hbd := hB1.drew
  refine hs_begin (S := SXa X E D T n m w.heap.size u t) 9 rfl (by kernel_rfl) ?_
  obtain ⟨w8, hw8⟩ : ∃ w8, w1.drew = w8 := ⟨_, rfl⟩
  rw [hw8] at hS hbd ⊢
  clear hw8 h1 hRd hRt hB1 c0 c1 e1
  refine hs_take (i := 0) (d := some 38) (v := ?_) rfl (by kernel_rfl) (by kernel_rfl) (by kernel_rfl) (by rfl) ?_ hS rfl ?_
  rotate_left
  · intro w' hw
    go_simp
    try with_reducible rfl
  simp only [Act.put, List.setIfInBounds_toArray, List.set_cons_zero, List.set_cons_succ]
  refine hs_take (i := 1) (d := some 39) (v := ?_) rfl (by kernel_rfl) (by kernel_rfl) (by kernel_rfl) (by rfl) ?_ hS rfl ?_
  rotate_left
  · intro w' hw
    go_simp
    try with_reducible rfl
  simp only [Act.put, List.setIfInBounds_toArray, List.set_cons_zero, List.set_cons_succ]
  refine hs_take (i := 2) (d := some 40) (v := ?_) rfl (by kernel_rfl) (by kernel_rfl) (by kernel_rfl) (by rfl) ?_ hS rfl ?_
  rotate_left
  · intro w' hw
    go_simp
    try with_reducible rfl
  simp only [Act.put, List.setIfInBounds_toArray, List.set_cons_zero, List.set_cons_succ]
  refine hs_take (i := 3) (d := some 41) (v := .slice (some ⟨D, 0, none⟩) n n) rfl (by kernel_rfl) (by kernel_rfl) (by kernel_rfl) (by rfl) (fun w' hw => pl_one rfl rfl hw.1.c2 Try.underlying44 rfl) hS rfl ?_
  simp only [Act.put, List.setIfInBounds_toArray, List.set_cons_zero, List.set_cons_succ]
  refine hs_take (i := 4) (d := some 42) (v := ?_) rfl (by kernel_rfl) (by kernel_rfl) (by kernel_rfl) (by rfl) ?_ hS rfl ?_
  rotate_left
  · intro w' hw
    go_simp
    try with_reducible rfl
  simp only [Act.put, List.setIfInBounds_toArray, List.set_cons_zero, List.set_cons_succ]
  refine hs_take (i := 5) (d := some 43) (v := ?_) rfl (by kernel_rfl) (by kernel_rfl) (by kernel_rfl) (by rfl) ?_ hS rfl ?_
  rotate_left
  · intro w' hw
    go_simp
    try with_reducible rfl
  simp only [Act.put, List.setIfInBounds_toArray, List.set_cons_zero, List.set_cons_succ]
  refine hs_take (i := 6) (d := some 44) (v := .agg y.toArray) rfl (by kernel_rfl) (by kernel_rfl) (by kernel_rfl) (by rfl) (fun w' hw => ex_mid rfl rfl (hrD w' hw.1) Try.underlying29 rfl hiy) hS rfl ?_
  simp only [Act.put, List.setIfInBounds_toArray, List.set_cons_zero, List.set_cons_succ]
  refine hs_take (i := 7) (d := some 45) (v := .agg u.toArray) rfl (by kernel_rfl) (by kernel_rfl) (by kernel_rfl) (by rfl) (fun w' hw => ex_mid rfl rfl hw.2.1 Try.underlying29 rfl hiD) hS rfl ?_
  simp only [Act.put, List.setIfInBounds_toArray, List.set_cons_zero, List.set_cons_succ]
  refine hs_take (i := 8) (d := some 46) (v := .bool true) rfl (by kernel_rfl) (by kernel_rfl) (by kernel_rfl) (by rfl) (fun w' hw => ex_bin rfl rfl rfl (by kernel_rfl) (hcmp w')) hS rfl ?_
  simp only [Act.put, List.setIfInBounds_toArray, List.set_cons_zero, List.set_cons_succ]
  refine hs_done (by kernel_rfl) ?_
  go_wp2_with fail
  go_ret
  exact ⟨rfl, hbd⟩
set_option maxRecDepth 100000 in
set_option maxHeartbeats 2000000 in
theorem xadd_other (X E D T n : Nat) (m : Int → Option Mk) (i : Nat) (x : Mk) (hx : x.ok) (w : World) (h : XAt w X E D T n m) (hi : i < n) (he1 : 1 ≤ x.e) (he2 : x.e ≤ 1048576) (hee : (wasOf m i).e = x.e) (hdd : ¬ (wasOf m i).d = x.d) : Calls Try.prog 10 #[.pointer (some ⟨X, 0, none⟩), .int .i64 (i : Int), .int .i64 x.e, .agg (v8 x.d).toArray, .agg (v8 x.t).toArray] w fun e w' => e = .returned (.int .i64 181) ∧ Below w.heap.size w w' := by
  have hiI : (i : Int) < (n : Int) := by omega
  have hyo := h.was (i : Int)
  have hg := h.good
  have hcmp := fun w' => eqD (wasOf m i).d x.d hyo.dl hx.dl w'
  have hrE : ∀ w', XAt w' X E D T n m → w'.cell? ⟨E, i, none⟩ = some (.int .i64 (wasOf m i).e) := fun w' q => q.rE i hi
  have hrD : ∀ w', XAt w' X E D T n m → w'.rangeAt D (i * 32) (v8 (wasOf m i).d) := fun w' q => q.rD i hi
  have hX0 := h.lt
  have hE0 := h.ltE
  have hD0 := h.ltD
  have hT0 := h.ltT
  have hq : ((wasOf m i).e == x.e) = true := by simpa using hee
  have hq2 : ((wasOf m i).d == x.d) = false := by simpa using hdd
  simp only [hq2] at hcmp
  clear hee hdd hq2
  obtain ⟨yy, hyy⟩ : ∃ yy, Hid (wasOf m (i : Int) = yy) := ⟨_, hide rfl⟩
  rw [hyy.out] at hyo
  simp only [hyy.out] at *
  obtain ⟨ye, yd, yt⟩ := yy
  have hpx := fun w' (q : XAt w' X E D T n m) => XAt.put q i hi x hx ⟨he1, he2⟩
  obtain ⟨xe, xd, xt⟩ := x
  simp only at *
  obtain ⟨u, hu⟩ : ∃ u, Hid (v8 xd = u) := ⟨_, hide rfl⟩
  obtain ⟨t, ht⟩ : ∃ u, Hid (v8 xt = u) := ⟨_, hide rfl⟩
  obtain ⟨y, hy⟩ : ∃ u, Hid (v8 yd = u) := ⟨_, hide rfl⟩
  have hu32 : u.length = 32 := by rw [← hu.out, v8_length]; exact hx.dl
  have ht16 : t.length = 16 := by rw [← ht.out, v8_length]; exact hx.tl
  have hy32 : y.length = 32 := by rw [← hy.out, v8_length]; exact hyo.dl
  have hu1 : ∀ v ∈ u, v.oneCell' = true := by rw [← hu.out]; exact v8_one _
  have ht1 : ∀ v ∈ t, v.oneCell' = true := by rw [← ht.out]; exact v8_one _
  have hiD : (Try.prog.info? 29).map (·.size) = some u.length := by rw [hu32]; exact iszD
  have hiT : (Try.prog.info? 31).map (·.size) = some t.length := by rw [ht16]; exact iszT
  have hiy : (Try.prog.info? 29).map (·.size) = some y.length := by rw [hy32]; exact iszD
  simp only [hu.out, ht.out, hy.out] at hcmp hrD hpx ⊢
  clear hy hyy
  go_enter Try.func10, Try.ntmps10
  go_upto_region 1 with fail
  go_name_world w1 hw1
  obtain ⟨hB1, hRd, hRt, hsz1⟩ := two_box hw1
  clear hw1
  have h1 := h.below hB1
  have c0 := h1.c0
  have c1 := h1.c1
  have e1 := hrE w1 h1
  go_upto_region 4 with fail
  have hS : SXa X E D T n m w.heap.size u t w1.drew := ⟨h1.below (Below.refl _ _).drew, (World.rangeAt_drew _ _ _ _).2 hRd, (World.rangeAt_drew _ _ _ _).2 hRt⟩
  have hbd := hB1.drew
  refine hs_begin (S := SXa X E D T n m w.heap.size u t) 9 rfl (by kernel_rfl) ?_
  obtain ⟨w8, hw8⟩ : ∃ w8, w1.drew = w8 := ⟨_, rfl⟩
  rw [hw8] at hS hbd ⊢
  clear hw8 h1 hRd hRt hB1 c0 c1 e1
  refine hs_take (i := 0) (d := some 38) (v := ?_) rfl (by kernel_rfl) (by kernel_rfl) (by kernel_rfl) (by rfl) ?_ hS rfl ?_
  rotate_left
  · intro w' hw
    go_simp
    try with_reducible rfl
  simp only [Act.put, List.setIfInBounds_toArray, List.set_cons_zero, List.set_cons_succ]
  refine hs_take (i := 1) (d := some 39) (v := ?_) rfl (by kernel_rfl) (by kernel_rfl) (by kernel_rfl) (by rfl) ?_ hS rfl ?_
  rotate_left
  · intro w' hw
    go_simp
    try with_reducible rfl
  simp only [Act.put, List.setIfInBounds_toArray, List.set_cons_zero, List.set_cons_succ]
  refine hs_take (i := 2) (d := some 40) (v := ?_) rfl (by kernel_rfl) (by kernel_rfl) (by kernel_rfl) (by rfl) ?_ hS rfl ?_
  rotate_left
  · intro w' hw
    go_simp
    try with_reducible rfl
  simp only [Act.put, List.setIfInBounds_toArray, List.set_cons_zero, List.set_cons_succ]
  refine hs_take (i := 3) (d := some 41) (v := .slice (some ⟨D, 0, none⟩) n n) rfl (by kernel_rfl) (by kernel_rfl) (by kernel_rfl) (by rfl) (fun w' hw => pl_one rfl rfl hw.1.c2 Try.underlying44 rfl) hS rfl ?_
  simp only [Act.put, List.setIfInBounds_toArray, List.set_cons_zero, List.set_cons_succ]
  refine hs_take (i := 4) (d := some 42) (v := ?_) rfl (by kernel_rfl) (by kernel_rfl) (by kernel_rfl) (by rfl) ?_ hS rfl ?_
  rotate_left
  · intro w' hw
    go_simp
    try with_reducible rfl
  simp only [Act.put, List.setIfInBounds_toArray, List.set_cons_zero, List.set_cons_succ]
  refine hs_take (i := 5) (d := some 43) (v := ?_) rfl (by kernel_rfl) (by kernel_rfl) (by kernel_rfl) (by rfl) ?_ hS rfl ?_
  rotate_left
  · intro w' hw
    go_simp
    try with_reducible rfl
  simp only [Act.put, List.setIfInBounds_toArray, List.set_cons_zero, List.set_cons_succ]
  refine hs_take (i := 6) (d := some 44) (v := .agg y.toArray) rfl (by kernel_rfl) (by kernel_rfl) (by kernel_rfl) (by rfl) (fun w' hw => ex_mid rfl rfl (hrD w' hw.1) Try.underlying29 rfl hiy) hS rfl ?_
  simp only [Act.put, List.setIfInBounds_toArray, List.set_cons_zero, List.set_cons_succ]
  refine hs_take (i := 7) (d := some 45) (v := .agg u.toArray) rfl (by kernel_rfl) (by kernel_rfl) (by kernel_rfl) (by rfl) (fun w' hw => ex_mid rfl rfl hw.2.1 Try.underlying29 rfl hiD) hS rfl ?_
  simp only [Act.put, List.setIfInBounds_toArray, List.set_cons_zero, List.set_cons_succ]
  refine hs_take (i := 8) (d := some 46) (v := .bool false) rfl (by kernel_rfl) (by kernel_rfl) (by kernel_rfl) (by rfl) (fun w' hw => ex_bin rfl rfl rfl (by kernel_rfl) (hcmp w')) hS rfl ?_
  simp only [Act.put, List.setIfInBounds_toArray, List.set_cons_zero, List.set_cons_succ]
  refine hs_done (by kernel_rfl) ?_
  go_wp2_with fail
  go_ret
  exact ⟨rfl, hbd⟩
set_option maxRecDepth 100000 in
set_option maxHeartbeats 2000000 in
theorem xadd_old (X E D T n : Nat) (m : Int → Option Mk) (i : Nat) (x : Mk) (hx : x.ok) (w : World) (h : XAt w X E D T n m) (hi : i < n) (he1 : 1 ≤ x.e) (he2 : x.e ≤ 1048576) (hee : x.e < (wasOf m i).e) : Calls Try.prog 10 #[.pointer (some ⟨X, 0, none⟩), .int .i64 (i : Int), .int .i64 x.e, .agg (v8 x.d).toArray, .agg (v8 x.t).toArray] w fun e w' => e = .returned (.int .i64 90) ∧ Below w.heap.size w w' := by
  have hiI : (i : Int) < (n : Int) := by omega
  have hyo := h.was (i : Int)
  have hg := h.good
  have hcmp := fun w' => eqD (wasOf m i).d x.d hyo.dl hx.dl w'
  have hrE : ∀ w', XAt w' X E D T n m → w'.cell? ⟨E, i, none⟩ = some (.int .i64 (wasOf m i).e) := fun w' q => q.rE i hi
  have hrD : ∀ w', XAt w' X E D T n m → w'.rangeAt D (i * 32) (v8 (wasOf m i).d) := fun w' q => q.rD i hi
  have hX0 := h.lt
  have hE0 := h.ltE
  have hD0 := h.ltD
  have hT0 := h.ltT
  have hq : ((wasOf m i).e == x.e) = false := by simp; omega
  obtain ⟨yy, hyy⟩ : ∃ yy, Hid (wasOf m (i : Int) = yy) := ⟨_, hide rfl⟩
  rw [hyy.out] at hyo
  simp only [hyy.out] at *
  obtain ⟨ye, yd, yt⟩ := yy
  have hpx := fun w' (q : XAt w' X E D T n m) => XAt.put q i hi x hx ⟨he1, he2⟩
  obtain ⟨xe, xd, xt⟩ := x
  simp only at *
  obtain ⟨u, hu⟩ : ∃ u, Hid (v8 xd = u) := ⟨_, hide rfl⟩
  obtain ⟨t, ht⟩ : ∃ u, Hid (v8 xt = u) := ⟨_, hide rfl⟩
  obtain ⟨y, hy⟩ : ∃ u, Hid (v8 yd = u) := ⟨_, hide rfl⟩
  have hu32 : u.length = 32 := by rw [← hu.out, v8_length]; exact hx.dl
  have ht16 : t.length = 16 := by rw [← ht.out, v8_length]; exact hx.tl
  have hy32 : y.length = 32 := by rw [← hy.out, v8_length]; exact hyo.dl
  have hu1 : ∀ v ∈ u, v.oneCell' = true := by rw [← hu.out]; exact v8_one _
  have ht1 : ∀ v ∈ t, v.oneCell' = true := by rw [← ht.out]; exact v8_one _
  have hiD : (Try.prog.info? 29).map (·.size) = some u.length := by rw [hu32]; exact iszD
  have hiT : (Try.prog.info? 31).map (·.size) = some t.length := by rw [ht16]; exact iszT
  have hiy : (Try.prog.info? 29).map (·.size) = some y.length := by rw [hy32]; exact iszD
  simp only [hu.out, ht.out, hy.out] at hcmp hrD hpx ⊢
  clear hy hyy
  go_enter Try.func10, Try.ntmps10
  go_upto_region 1 with fail
  go_name_world w1 hw1
  obtain ⟨hB1, hRd, hRt, hsz1⟩ := two_box hw1
  clear hw1
  have h1 := h.below hB1
  have c0 := h1.c0
  have c1 := h1.c1
  have e1 := hrE w1 h1
  go_wp2_with fail
  go_ret
  exact ⟨rfl, hB1⟩
theorem iszI : (Try.prog.info? 3).map (·.size) = some 1 := by kernel_rfl
/-- while Add lays a mark down -/
def SXb (X D T n B : Nat) (u t : List Value) (x : World) : Prop := x.cell? ⟨X, 2, none⟩ = some (.slice (some ⟨D, 0, none⟩) n n) ∧ x.rangeAt B 0 u ∧ x.rangeAt (B + 1) 0 t ∧ x.cell? ⟨X, 3, none⟩ = some (.slice (some ⟨T, 0, none⟩) n n)
theorem cell_lt {w : World} {b o : Nat} {v : Value} (h : w.cell? ⟨b, o, none⟩ = some v) : b < w.heap.size := by
  rcases Nat.lt_or_ge b w.heap.size with q | q
  · exact q
  · simp [World.cell?, q] at h
theorem SXb.set {X D T n B : Nat} {u t : List Value} {x : World} (h : SXb X D T n B u t x) {Z : Nat} (h1 : X ≠ Z) (h2 : B ≠ Z) (h3 : B + 1 ≠ Z) (o : Nat) (cs : List Value) : SXb X D T n B u t (x.setCells Z o cs) :=
  ⟨(cell_sets_other (cell_lt h.1) h1).trans h.1, World.rangeAt_setCells_apart h.2.1 _ _ _ (.inl h2), World.rangeAt_setCells_apart h.2.2.1 _ _ _ (.inl h3), (cell_sets_other (cell_lt h.1) h1).trans h.2.2.2⟩
theorem SXb.drew {X D T n B : Nat} {u t : List Value} {x : World} (h : SXb X D T n B u t x) : SXb X D T n B u t x.drew := ⟨h.1, (World.rangeAt_drew _ _ _ _).2 h.2.1, (World.rangeAt_drew _ _ _ _).2 h.2.2.1, h.2.2.2⟩
theorem sets_heap : ∀ {w w' : World} (b o : Nat) (cs : List Value), w.heap = w'.heap → (w.setCells b o cs).heap = (w'.setCells b o cs).heap
  | w, w', b, o, [], h => h
  | w, w', b, o, v :: cs, h => by
    show ((w.setCell ⟨b, o, none⟩ v).setCells b (o + 1) cs).heap = ((w'.setCell ⟨b, o, none⟩ v).setCells b (o + 1) cs).heap
    refine sets_heap b (o + 1) cs ?_
    simp only [World.setCell, h]
set_option maxRecDepth 100000 in
set_option maxHeartbeats 2000000 in
theorem xadd_put (X E D T n : Nat) (m : Int → Option Mk) (i : Nat) (x : Mk) (hx : x.ok) (w : World) (h : XAt w X E D T n m) (hi : i < n) (he1 : 1 ≤ x.e) (he2 : x.e ≤ 1048576) (hee : (wasOf m i).e < x.e) : Calls Try.prog 10 #[.pointer (some ⟨X, 0, none⟩), .int .i64 (i : Int), .int .i64 x.e, .agg (v8 x.d).toArray, .agg (v8 x.t).toArray] w fun e w' => e = .returned (.int .i64 0) ∧ XAt w' X E D T n (putM m i x) ∧ Off (F3 E D T) w w' := by
  have hiI : (i : Int) < (n : Int) := by omega
  have hyo := h.was (i : Int)
  have hg := h.good
  have hcmp := fun w' => eqD (wasOf m i).d x.d hyo.dl hx.dl w'
  have hrE : ∀ w', XAt w' X E D T n m → w'.cell? ⟨E, i, none⟩ = some (.int .i64 (wasOf m i).e) := fun w' q => q.rE i hi
  have hrD : ∀ w', XAt w' X E D T n m → w'.rangeAt D (i * 32) (v8 (wasOf m i).d) := fun w' q => q.rD i hi
  have hX0 := h.lt
  have hE0 := h.ltE
  have hD0 := h.ltD
  have hT0 := h.ltT
  have hq : ((wasOf m i).e == x.e) = false := by simp; omega
  have hng : ¬ x.e < (wasOf m i).e := by omega
  obtain ⟨yy, hyy⟩ : ∃ yy, Hid (wasOf m (i : Int) = yy) := ⟨_, hide rfl⟩
  rw [hyy.out] at hyo
  simp only [hyy.out] at *
  obtain ⟨ye, yd, yt⟩ := yy
  have hpx := fun w' (q : XAt w' X E D T n m) => XAt.put q i hi x hx ⟨he1, he2⟩
  obtain ⟨xe, xd, xt⟩ := x
  simp only at *
  obtain ⟨u, hu⟩ : ∃ u, Hid (v8 xd = u) := ⟨_, hide rfl⟩
  obtain ⟨t, ht⟩ : ∃ u, Hid (v8 xt = u) := ⟨_, hide rfl⟩
  obtain ⟨y, hy⟩ : ∃ u, Hid (v8 yd = u) := ⟨_, hide rfl⟩
  have hu32 : u.length = 32 := by rw [← hu.out, v8_length]; exact hx.dl
  have ht16 : t.length = 16 := by rw [← ht.out, v8_length]; exact hx.tl
  have hy32 : y.length = 32 := by rw [← hy.out, v8_length]; exact hyo.dl
  have hu1 : ∀ v ∈ u, v.oneCell' = true := by rw [← hu.out]; exact v8_one _
  have ht1 : ∀ v ∈ t, v.oneCell' = true := by rw [← ht.out]; exact v8_one _
  have hiD : (Try.prog.info? 29).map (·.size) = some u.length := by rw [hu32]; exact iszD
  have hiT : (Try.prog.info? 31).map (·.size) = some t.length := by rw [ht16]; exact iszT
  have hiy : (Try.prog.info? 29).map (·.size) = some y.length := by rw [hy32]; exact iszD
  simp only [hu.out, ht.out, hy.out] at hcmp hrD hpx ⊢
  clear hy hyy
  go_enter Try.func10, Try.ntmps10
  go_upto_region 1 with fail
  go_name_world w1 hw1
  obtain ⟨hB1, hRd, hRt, hsz1⟩ := two_box hw1
  clear hw1
  have h1 := h.below hB1
  have c0 := h1.c0
  have c1 := h1.c1
  have e1 := hrE w1 h1
  go_upto_region 9 with fail
  try simp only [Act.put]
  refine pl_begin ?_
  refine pl_take (d := some 56) (v := ?_) (by rfl) ?_ rfl ?_
  rotate_left
  · go_simp
    try with_reducible rfl
  simp only [Act.put, List.setIfInBounds_toArray, List.set_cons_zero, List.set_cons_succ]
  refine pl_take (d := some 57) (v := ?_) (by rfl) ?_ rfl ?_
  rotate_left
  · go_simp
    try with_reducible rfl
  simp only [Act.put, List.setIfInBounds_toArray, List.set_cons_zero, List.set_cons_succ]
  refine pl_take (d := some 58) (v := ?_) (by rfl) ?_ rfl ?_
  rotate_left
  · go_simp
    try with_reducible rfl
  simp only [Act.put, List.setIfInBounds_toArray, List.set_cons_zero, List.set_cons_succ]
  refine pl_take (d := some 59) (v := .slice (some ⟨E, 0, none⟩) n n) (by rfl) (pl_one rfl rfl c1 Try.underlying43 rfl) rfl ?_
  simp only [Act.put, List.setIfInBounds_toArray, List.set_cons_zero, List.set_cons_succ]
  refine pl_take (d := some 60) (v := ?_) (by rfl) ?_ rfl ?_
  rotate_left
  · go_simp
    try with_reducible rfl
  simp only [Act.put, List.setIfInBounds_toArray, List.set_cons_zero, List.set_cons_succ]
  refine pl_take (d := some 61) (v := ?_) (by rfl) ?_ rfl ?_
  rotate_left
  · go_simp
    try with_reducible rfl
  simp only [Act.put, List.setIfInBounds_toArray, List.set_cons_zero, List.set_cons_succ]
  refine pl_take (d := some 62) (v := ?_) (by rfl) ?_ rfl ?_
  rotate_left
  · go_simp
    try with_reducible rfl
  simp only [Act.put, List.setIfInBounds_toArray, List.set_cons_zero, List.set_cons_succ]
  refine pl_store (w' := w1.setCells E i [.int .i64 xe]) (by rfl) (ex_put1 (n := n) rfl rfl rfl h1.tE hi iszI rfl rfl) rfl ?_
  refine pl_nil ?_
  obtain ⟨hXE, hXD, hXT, hED, hET, hDT⟩ := h.ne
  have hS : SXb X D T n w.heap.size u t (w1.setCells E i [.int .i64 xe]) := SXb.set ⟨h1.c2, hRd, hRt, h1.c3⟩ hXE (by omega) (by omega) _ _
  have tD3 := World.there_setCells h1.tD E i [.int .i64 xe]
  have tT3 := World.there_setCells h1.tT E i [.int .i64 xe]
  go_upto_region 10 with fail
  have hS := hS.drew
  refine hs_begin (S := SXb X D T n w.heap.size u t) 8 rfl (by kernel_rfl) ?_
  obtain ⟨w3, hw3⟩ : ∃ w3, (w1.setCells E i [.int .i64 xe]).drew = w3 := ⟨_, rfl⟩
  have tD3 : w3.there D 0 (n * 32) := by rw [← hw3]; exact tD3
  have tT3 : w3.there T 0 (n * 16) := by rw [← hw3]; exact tT3
  have hO3 : Off (F3 E D T) w w3 := by
    rw [← hw3]
    exact ((Off.of_below hB1).trans (Off.of_sets w1 E i _ (.inl rfl)) (fun _ _ q => q)).drew
  have hw3h : w3.heap = (w1.setCells E i [.int .i64 xe]).heap := by rw [← hw3]; rfl
  rw [hw3] at hS ⊢
  clear hw3
  refine hs_take (i := 0) (d := some 63) (v := ?_) rfl (by kernel_rfl) (by kernel_rfl) (by kernel_rfl) (by rfl) ?_ hS rfl ?_
  rotate_left
  · intro w' hw
    go_simp
    try with_reducible rfl
  simp only [Act.put, List.setIfInBounds_toArray, List.set_cons_zero, List.set_cons_succ]
  refine hs_take (i := 1) (d := some 64) (v := ?_) rfl (by kernel_rfl) (by kernel_rfl) (by kernel_rfl) (by rfl) ?_ hS rfl ?_
  rotate_left
  · intro w' hw
    go_simp
    try with_reducible rfl
  simp only [Act.put, List.setIfInBounds_toArray, List.set_cons_zero, List.set_cons_succ]
  refine hs_take (i := 2) (d := some 65) (v := ?_) rfl (by kernel_rfl) (by kernel_rfl) (by kernel_rfl) (by rfl) ?_ hS rfl ?_
  rotate_left
  · intro w' hw
    go_simp
    try with_reducible rfl
  simp only [Act.put, List.setIfInBounds_toArray, List.set_cons_zero, List.set_cons_succ]
  refine hs_take (i := 3) (d := some 66) (v := .slice (some ⟨D, 0, none⟩) n n) rfl (by kernel_rfl) (by kernel_rfl) (by kernel_rfl) (by rfl) (fun w' hw => pl_one rfl rfl hw.1 Try.underlying44 rfl) hS rfl ?_
  simp only [Act.put, List.setIfInBounds_toArray, List.set_cons_zero, List.set_cons_succ]
  refine hs_take (i := 4) (d := some 67) (v := ?_) rfl (by kernel_rfl) (by kernel_rfl) (by kernel_rfl) (by rfl) ?_ hS rfl ?_
  rotate_left
  · intro w' hw
    go_simp
    try with_reducible rfl
  simp only [Act.put, List.setIfInBounds_toArray, List.set_cons_zero, List.set_cons_succ]
  refine hs_take (i := 5) (d := some 68) (v := .agg u.toArray) rfl (by kernel_rfl) (by kernel_rfl) (by kernel_rfl) (by rfl) (fun w' hw => ex_mid rfl rfl hw.2.1 Try.underlying29 rfl hiD) hS rfl ?_
  simp only [Act.put, List.setIfInBounds_toArray, List.set_cons_zero, List.set_cons_succ]
  refine hs_take (i := 6) (d := some 69) (v := ?_) rfl (by kernel_rfl) (by kernel_rfl) (by kernel_rfl) (by rfl) ?_ hS rfl ?_
  rotate_left
  · intro w' hw
    go_simp
    try with_reducible rfl
  simp only [Act.put, List.setIfInBounds_toArray, List.set_cons_zero, List.set_cons_succ]
  have hS10 : SXb X D T n w.heap.size u t (w3.setCells D (i * 32) u) := hS.set hXD (by omega) (by omega) _ _
  refine hs_store (i := 7) (w' := w3.setCells D (i * 32) u) rfl (by kernel_rfl) (by rfl) (ex_put (cs := u.toArray) rfl rfl rfl (by have := there_part tD3 (i * 32) 32 (by omega); simpa [hu32] using this) (by simpa using hiD) (all_one hu1)) rfl hS10 ?_
  refine hs_done (by kernel_rfl) ?_
  have tT4 := World.there_setCells tT3 D (i * 32) u
  go_upto_region 11 with fail
  have hS := hS10.drew
  refine hs_begin (S := SXb X D T n w.heap.size u t) 8 rfl (by kernel_rfl) ?_
  obtain ⟨w5, hw5⟩ : ∃ w5, (w3.setCells D (i * 32) u).drew = w5 := ⟨_, rfl⟩
  have tT5 : w5.there T 0 (n * 16) := by rw [← hw5]; exact tT4
  have hO5 : Off (F3 E D T) w w5 := by
    rw [← hw5]
    exact (hO3.trans (Off.of_sets w3 D (i * 32) _ (.inr (.inl rfl))) (fun _ _ q => q)).drew
  have hw5h : w5.heap = (w3.setCells D (i * 32) u).heap := by rw [← hw5]; rfl
  rw [hw5] at hS ⊢
  clear hw5
  refine hs_take (i := 0) (d := some 70) (v := ?_) rfl (by kernel_rfl) (by kernel_rfl) (by kernel_rfl) (by rfl) ?_ hS rfl ?_
  rotate_left
  · intro w' hw
    go_simp
    try with_reducible rfl
  simp only [Act.put, List.setIfInBounds_toArray, List.set_cons_zero, List.set_cons_succ]
  refine hs_take (i := 1) (d := some 71) (v := ?_) rfl (by kernel_rfl) (by kernel_rfl) (by kernel_rfl) (by rfl) ?_ hS rfl ?_
  rotate_left
  · intro w' hw
    go_simp
    try with_reducible rfl
  simp only [Act.put, List.setIfInBounds_toArray, List.set_cons_zero, List.set_cons_succ]
  refine hs_take (i := 2) (d := some 72) (v := ?_) rfl (by kernel_rfl) (by kernel_rfl) (by kernel_rfl) (by rfl) ?_ hS rfl ?_
  rotate_left
  · intro w' hw
    go_simp
    try with_reducible rfl
  simp only [Act.put, List.setIfInBounds_toArray, List.set_cons_zero, List.set_cons_succ]
  refine hs_take (i := 3) (d := some 73) (v := .slice (some ⟨T, 0, none⟩) n n) rfl (by kernel_rfl) (by kernel_rfl) (by kernel_rfl) (by rfl) (fun w' hw => pl_one rfl rfl hw.2.2.2 Try.underlying45 rfl) hS rfl ?_
  simp only [Act.put, List.setIfInBounds_toArray, List.set_cons_zero, List.set_cons_succ]
  refine hs_take (i := 4) (d := some 74) (v := ?_) rfl (by kernel_rfl) (by kernel_rfl) (by kernel_rfl) (by rfl) ?_ hS rfl ?_
  rotate_left
  · intro w' hw
    go_simp
    try with_reducible rfl
  simp only [Act.put, List.setIfInBounds_toArray, List.set_cons_zero, List.set_cons_succ]
  refine hs_take (i := 5) (d := some 75) (v := .agg t.toArray) rfl (by kernel_rfl) (by kernel_rfl) (by kernel_rfl) (by rfl) (fun w' hw => ex_mid rfl rfl hw.2.2.1 Try.underlying31 rfl hiT) hS rfl ?_
  simp only [Act.put, List.setIfInBounds_toArray, List.set_cons_zero, List.set_cons_succ]
  refine hs_take (i := 6) (d := some 76) (v := ?_) rfl (by kernel_rfl) (by kernel_rfl) (by kernel_rfl) (by rfl) ?_ hS rfl ?_
  rotate_left
  · intro w' hw
    go_simp
    try with_reducible rfl
  simp only [Act.put, List.setIfInBounds_toArray, List.set_cons_zero, List.set_cons_succ]
  have hS11 : SXb X D T n w.heap.size u t (w5.setCells T (i * 16) t) := hS.set hXT (by omega) (by omega) _ _
  refine hs_store (i := 7) (w' := w5.setCells T (i * 16) t) rfl (by kernel_rfl) (by rfl) (ex_put (cs := t.toArray) rfl rfl rfl (by have := there_part tT5 (i * 16) 16 (by omega); simpa [ht16] using this) (by simpa using hiT) (all_one ht1)) rfl hS11 ?_
  refine hs_done (by kernel_rfl) ?_
  go_wp2_with fail
  go_ret
  have hO6 : Off (F3 E D T) w (w5.setCells T (i * 16) t) := hO5.trans (Off.of_sets w5 T (i * 16) _ (.inr (.inr rfl))) (fun _ _ q => q)
  have hP := hpx w1 h1
  have hh : (w5.setCells T (i * 16) t).heap = (((w1.setCells E i [.int .i64 xe]).setCells D (i * 32) u).setCells T (i * 16) t).heap := by
    refine sets_heap _ _ _ (hw5h.trans (sets_heap _ _ _ hw3h))
  exact ⟨rfl, hP.at (by rw [hh]; exact Nat.le_refl _) (by rw [hh]) (by rw [hh]) (by rw [hh]) (by rw [hh]), hO6⟩
theorem xadd_any (X E D T n : Nat) (m : Int → Option Mk) (k : Int) (x : Mk) (hx : x.ok) (w : World) (h : XAt w X E D T n m) : Calls Try.prog 10 #[.pointer (some ⟨X, 0, none⟩), .int .i64 k, .int .i64 x.e, .agg (v8 x.d).toArray, .agg (v8 x.t).toArray] w fun e w' => e = .returned (.int .i64 (addE (n : Int) m k x)) ∧ XAt w' X E D T n (addM (n : Int) m k x) ∧ Off (F3 E D T) w w' := by
  by_cases hbd : bad (n : Int) k x.e = true
  · unfold addE addM
    rw [if_pos hbd, if_pos hbd]
    have hh : k < 0 ∨ (n : Int) ≤ k ∨ x.e < 1 ∨ 1048576 < x.e := by simpa [bad] using hbd
    have fin : ∀ {e : Ending} {w' : World}, (e = .returned (.int .i64 2) ∧ Below w.heap.size w w') → e = .returned (.int .i64 2) ∧ XAt w' X E D T n m ∧ Off (F3 E D T) w w' := fun q => ⟨q.1, h.below q.2, Off.of_below q.2⟩
    by_cases q1 : k < 0
    · exact (xadd_b1 X E D T n m k x.e _ _ w h q1).mono (fun _ _ q => fin q)
    · by_cases q2 : (n : Int) ≤ k
      · exact (xadd_b2 X E D T n m k x.e _ _ w h (by omega) q2).mono (fun _ _ q => fin q)
      · by_cases q3 : x.e < 1
        · exact (xadd_b3 X E D T n m k x.e _ _ w h (by omega) (by omega) q3).mono (fun _ _ q => fin q)
        · exact (xadd_b4 X E D T n m k x.e _ _ w h (by omega) (by omega) (by omega) (by omega)).mono (fun _ _ q => fin q)
  · unfold addE addM
    rw [if_neg hbd, if_neg hbd]
    have hh : ¬ (k < 0 ∨ (n : Int) ≤ k ∨ x.e < 1 ∨ 1048576 < x.e) := by simpa [bad] using hbd
    obtain ⟨i, rfl⟩ := Int.eq_ofNat_of_zero_le (show 0 ≤ k by omega)
    have hi : i < n := by omega
    by_cases he : (wasOf m (i : Int)).e = x.e
    · by_cases hd : (wasOf m (i : Int)).d = x.d
      · rw [if_pos ⟨he, hd⟩, if_neg (by omega)]
        exact (xadd_same X E D T n m i x hx w h hi (by omega) (by omega) he hd).mono (fun _ _ q => ⟨q.1, h.below q.2, Off.of_below q.2⟩)
      · rw [if_neg (fun q => hd q.2), if_pos he, if_neg (by omega)]
        exact (xadd_other X E D T n m i x hx w h hi (by omega) (by omega) he hd).mono (fun _ _ q => ⟨q.1, h.below q.2, Off.of_below q.2⟩)
    · rw [if_neg (fun q => he q.1), if_neg he]
      by_cases ho : x.e < (wasOf m (i : Int)).e
      · rw [if_pos ho, if_neg (by omega)]
        exact (xadd_old X E D T n m i x hx w h hi (by omega) (by omega) ho).mono (fun _ _ q => ⟨q.1, h.below q.2, Off.of_below q.2⟩)
      · rw [if_neg ho, if_pos (by omega)]
        exact xadd_put X E D T n m i x hx w h hi (by omega) (by omega) (by omega)
end Go.Proofs.Ytfaagiilldkdgaa
