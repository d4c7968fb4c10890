/- tape's areas: an area loses power; put -/
import Derived.Test.YtfkchnjbbbhmjaaT2
namespace Go.Proofs.Ytfkchnjbbbhmjaa
open Go.RowKit
def cutV : Value → Nat → Value
  | .slice a _ cap, m => .slice a m cap
  | v, _ => v
set_option maxRecDepth 100000 in
set_option maxHeartbeats 2000000 in
theorem cut_none (p o : Nat) (w : World) (h : w.cell? ⟨p, o, none⟩ = some (.slice none 0 0)) (hf : w.frozen? ⟨p, o, none⟩ = false) :
    Calls Try.prog 97 #[.pointer (some ⟨p, o, none⟩), .int .i64 0] w fun e w' => e = .returned (.tuple #[]) ∧ w' = w.setCell ⟨p, o, none⟩ (.slice none 0 0) := by
  go_enter Try.func97, Try.ntmps97
  go_wp2_with fail
  go_end0
  exact ⟨rfl, rfl⟩
theorem cut_owns {n m B : Nat} {v : Value} {xs : List Value} {w : World} (ho : w.ownsRow B 5 1 v n xs) (hm : m ≤ n) : w.ownsRow B 5 1 (cutV v m) m (xs.take m) ∧ (cutV v m).ownBlock = v.ownBlock := by
  rcases ho.2 with ⟨rfl, h0⟩ | ⟨g, cap, cur, rfl, h2, h3, h4, h5, h6, h7⟩
  · obtain rfl : m = 0 := by omega
    have : xs = [] := List.eq_nil_of_length_eq_zero (by rw [ho.1, h0])
    subst this
    exact ⟨World.ownsRow_nil _ _ _ _, rfl⟩
  · refine ⟨⟨?_, .inr ⟨g, cap, cur, rfl, h2, h3, by omega, h5, h6, ?_⟩⟩, rfl⟩
    · have := ho.1; rw [List.length_take]; omega
    · rw [← h7, List.take_take, Nat.mul_one, Nat.mul_one, Nat.min_eq_left hm]
theorem cut_any (p o n m B : Nat) (v : Value) (xs : List Value) (w : World) (ho : w.ownsRow B 5 1 v n xs) (h : w.cell? ⟨p, o, none⟩ = some v) (hf : w.frozen? ⟨p, o, none⟩ = false) (hm : m ≤ n) :
    Calls Try.prog 97 #[.pointer (some ⟨p, o, none⟩), .int .i64 (m : Int)] w (fun e w' => e = .returned (.tuple #[]) ∧ w' = w.setCell ⟨p, o, none⟩ (cutV v m)) := by
  rcases ho.2 with ⟨rfl, h0⟩ | ⟨g, cap, cur, rfl, h2, h3, h4, h5, h6, h7⟩
  · obtain rfl : m = 0 := by omega
    exact cut_none p o w h hf
  · exact cut_some p o g n cap m w h hf h4 hm
theorem owns_slice {w : World} {B : Nat} {e : TypeId} {k : Nat} {v : Value} {n : Nat} {xs : List Value} (h : w.ownsRow B e k v n xs) : ∃ a cap, v = .slice a n cap := by
  rcases h.2 with ⟨rfl, rfl⟩ | ⟨g, cap, cur, rfl, _⟩
  · exact ⟨_, _, rfl⟩
  · exact ⟨_, _, rfl⟩
theorem set_there {w : World} {b o o' : Nat} {v u : Value} (h : w.cell? ⟨b, o, none⟩ = some v) (hne : o' ≠ o) : (w.setCell ⟨b, o', none⟩ u).cell? ⟨b, o, none⟩ = some v := by
  rw [World.cell?_setCell_other _ _ _ _ (by intro q; injection q with _ q2 _; omega)]; exact h
theorem wrap_small (m : Nat) (h : m ≤ 1099511627776) : IntKind.i64.wrap (m : Int) = (m : Int) := by
  rw [IntKind.wrap_i64]; omega
set_option maxRecDepth 100000 in
set_option maxHeartbeats 4000000 in
theorem loseA_any (p o n s B : Nat) (keep : Int) (v : Value) (xs : List Value) (w : World) (ho : w.ownsRow B 5 1 v n xs) (hn : n ≤ 1073741824) (hs : s ≤ n) (h : w.cell? ⟨p, o, none⟩ = some v) (hf : w.frozen? ⟨p, o, none⟩ = false) (h1 : w.cell? ⟨p, o + 1, none⟩ = some (.int .i64 (s : Int))) (hf1 : w.frozen? ⟨p, o + 1, none⟩ = false) :
    Calls Try.prog 71 #[.pointer (some ⟨p, o, none⟩), .int .i64 keep] w (fun e w' => e = .returned (.tuple #[]) ∧ ∃ w1, Below w.heap.size w w1 ∧ w1.heap.size = w.heap.size ∧ w' = (w1.setCell ⟨p, o, none⟩ (cutV v (keptN keep n s))).setCell ⟨p, o + 1, none⟩ (.int .i64 (keptN keep n s : Int))) := by
  obtain ⟨a, cap, hv⟩ := owns_slice ho
  have hm := keptN_le keep hs
  have hp : p < w.heap.size := World.block_lt_of_cell? w _ h
  have c0 := size_any p o a n cap
  have c1 := fun w0 h0 h2 h3 => cut_any p o n (keptN keep n s) B v xs w0 h0 h2 h3 hm
  have HK : Hid ((s : Int) + max 0 (min keep ((n : Int) - s)) = (keptN keep n s : Int)) := hide (by unfold keptN; omega)
  obtain ⟨m, hmm⟩ : ∃ m, Hid (keptN keep n s = m) := ⟨_, hide rfl⟩
  simp only [hmm.out] at c1
  rw [hmm.out] at HK hm ⊢
  clear hmm
  obtain ⟨v', hv'⟩ : ∃ v', Hid (cutV v m = v') := ⟨_, hide rfl⟩
  obtain ⟨a', cap', hvs⟩ : ∃ a' cap', v' = .slice a' m cap' := by rw [← hv'.out, hv]; exact ⟨_, _, rfl⟩
  simp only [hv'.out] at c1
  rw [hv'.out]
  have c2 := settle_any p o a' m cap'
  clear hv'
  subst hvs
  have ns : (n : Int) - s ≤ 1073741824 := by omega
  have nl : 0 ≤ (n : Int) - s := by omega
  obtain ⟨k1, hk1⟩ : ∃ k1, Hid ((if (n : Int) - s < keep then (n : Int) - s else keep) = k1) := ⟨_, hide rfl⟩
  obtain ⟨k2, hk2⟩ : ∃ k2, Hid ((if (0 : Int) < k1 then k1 else 0) = k2) := ⟨_, hide rfl⟩
  have HE : Hid (IntKind.i64.wrap ((s : Int) + k2) = (m : Int)) := hide (by
    have g1 := HK.out
    have g2 := hk1.out
    have g3 := hk2.out
    have e : (s : Int) + k2 = (m : Int) := by split at g2 <;> split at g3 <;> omega
    rw [e]
    exact wrap_small m (by omega))
  clear HK
  subst hv
  go_enter Try.func71, Try.ntmps71
  go_wp2_with fail
  go_quiet (first | (go_at_call 55; refine Calls.quiet_of_same (c0 _ (by go_simp))))
  go_wp2_with fail
  obtain ⟨w8, hw8⟩ : ∃ w8, (w.drewN nq).drew = w8 := ⟨_, rfl⟩
  have B8 : Below w.heap.size w w8 := by rw [← hw8]; exact (below_drewN (Below.refl _ _) _).drew
  have s8 : w8.heap.size = w.heap.size := by rw [← hw8]; rfl
  have q1 : w8.cell? ⟨p, o + 1, none⟩ = some (.int .i64 (s : Int)) := (B8.cell (p := ⟨p, o + 1, none⟩) hp).trans h1
  refine hs_begin (S := fun w' => w'.cell? ⟨p, o + 1, none⟩ = some (.int .i64 (s : Int))) 13 rfl (by kernel_rfl) ?_
  rw [hw8]
  clear hw8
  have hS : (fun w' : World => w'.cell? ⟨p, o + 1, none⟩ = some (.int .i64 (s : Int))) w8 := q1
  refine hs_take (i := 0) (d := some 14) (v := ?_) rfl (by kernel_rfl) (by kernel_rfl) (by kernel_rfl) (by rfl) ?_ hS rfl ?_
  rotate_left
  · intro w' hw
    go_simp
    try with_reducible rfl
  simp only [Act.put, List.setIfInBounds_toArray, List.set_cons_zero, List.set_cons_succ]
  refine hs_take (i := 1) (d := some 15) (v := ?_) rfl (by kernel_rfl) (by kernel_rfl) (by kernel_rfl) (by rfl) ?_ hS rfl ?_
  rotate_left
  · intro w' hw
    go_simp
    try with_reducible rfl
  simp only [Act.put, List.setIfInBounds_toArray, List.set_cons_zero, List.set_cons_succ]
  refine hs_take (i := 2) (d := some 16) (v := ?_) rfl (by kernel_rfl) (by kernel_rfl) (by kernel_rfl) (by rfl) ?_ hS rfl ?_
  rotate_left
  · intro w' hw
    go_simp
    try with_reducible rfl
  simp only [Act.put, List.setIfInBounds_toArray, List.set_cons_zero, List.set_cons_succ]
  refine hs_take (i := 3) (d := some 17) (v := ?_) rfl (by kernel_rfl) (by kernel_rfl) (by kernel_rfl) (by rfl) ?_ hS rfl ?_
  rotate_left
  · intro w' hw
    go_simp
    try with_reducible rfl
  simp only [Act.put, List.setIfInBounds_toArray, List.set_cons_zero, List.set_cons_succ]
  refine hs_take (i := 4) (d := some 18) (v := ?_) rfl (by kernel_rfl) (by kernel_rfl) (by kernel_rfl) (by rfl) ?_ hS rfl ?_
  rotate_left
  · intro w' hw
    go_simp
    try with_reducible rfl
  simp only [Act.put, List.setIfInBounds_toArray, List.set_cons_zero, List.set_cons_succ]
  refine hs_take (i := 5) (d := some 19) (v := ?_) rfl (by kernel_rfl) (by kernel_rfl) (by kernel_rfl) (by rfl) ?_ hS rfl ?_
  rotate_left
  · intro w' hw
    go_simp
    try with_reducible rfl
  simp only [Act.put, List.setIfInBounds_toArray, List.set_cons_zero, List.set_cons_succ]
  refine hs_take (i := 6) (d := some 20) (v := ?_) rfl (by kernel_rfl) (by kernel_rfl) (by kernel_rfl) (by rfl) ?_ hS rfl ?_
  rotate_left
  · intro w' hw
    have hc : w'.cell? ⟨p, o + 1, none⟩ = some (.int .i64 (s : Int)) := hw
    go_simp
    try with_reducible rfl
  simp only [Act.put, List.setIfInBounds_toArray, List.set_cons_zero, List.set_cons_succ]
  refine hs_take (i := 7) (d := some 21) (v := ?_) rfl (by kernel_rfl) (by kernel_rfl) (by kernel_rfl) (by rfl) ?_ hS rfl ?_
  rotate_left
  · intro w' hw
    go_simp
    try with_reducible rfl
  simp only [Act.put, List.setIfInBounds_toArray, List.set_cons_zero, List.set_cons_succ]
  refine hs_take (i := 8) (d := some 22) (v := ?_) rfl (by kernel_rfl) (by kernel_rfl) (by kernel_rfl) (by rfl) ?_ hS rfl ?_
  rotate_left
  · intro w' hw
    go_simp
    try with_reducible rfl
  simp only [Act.put, List.setIfInBounds_toArray, List.set_cons_zero, List.set_cons_succ]
  refine hs_take (i := 9) (d := some 23) (v := ?_) rfl (by kernel_rfl) (by kernel_rfl) (by kernel_rfl) (by rfl) ?_ hS rfl ?_
  rotate_left
  · intro w' hw
    go_simp
    try with_reducible rfl
  simp only [Act.put, List.setIfInBounds_toArray, List.set_cons_zero, List.set_cons_succ]
  rw [hk1.out]
  refine hs_take (i := 10) (d := some 24) (v := ?_) rfl (by kernel_rfl) (by kernel_rfl) (by kernel_rfl) (by rfl) ?_ hS rfl ?_
  rotate_left
  · intro w' hw
    go_simp
    try with_reducible rfl
  simp only [Act.put, List.setIfInBounds_toArray, List.set_cons_zero, List.set_cons_succ]
  rw [hk2.out]
  refine hs_take (i := 11) (d := some 25) (v := ?_) rfl (by kernel_rfl) (by kernel_rfl) (by kernel_rfl) (by rfl) ?_ hS rfl ?_
  rotate_left
  · intro w' hw
    go_simp
    try with_reducible rfl
  simp only [Act.put, List.setIfInBounds_toArray, List.set_cons_zero, List.set_cons_succ]
  rw [HE.out]
  refine hs_call (i := 12) (d := some 26) rfl (by kernel_rfl) (by rfl) (by go_simp; first | done | exact ⟨rfl, rfl⟩ | with_reducible rfl) rfl ?_
  refine (c1 w8 (owns_at ho (fun g hg => B8.block g (owns_lt ho hg))) ((B8.cell (p := ⟨p, o, none⟩) hp).trans h) ((B8.frozen (p := ⟨p, o, none⟩) hp).trans hf)).mono ?_
  rintro e' w9 ⟨rfl, rfl⟩
  refine ⟨_, rfl, set_there q1 (by omega), ?_⟩
  simp only [Act.put, List.setIfInBounds_toArray, List.set_cons_zero, List.set_cons_succ]
  refine hs_done (by kernel_rfl) ?_
  have q0 : (w8.setCell ⟨p, o, none⟩ (.slice a' m cap')).cell? ⟨p, o, none⟩ = some (.slice a' m cap') := World.cell?_setCell_same _ _ _ ((B8.cell (p := ⟨p, o, none⟩) hp).trans h)
  have q3 := (B8.frozen (p := ⟨p, o + 1, none⟩) hp).trans hf1
  have c3 := c2 _ _ q0 (set_there q1 (by omega)) (by rw [World.frozen?_setCell]; exact q3)
  clear c2 c1 hS q0 q3
  go_wp2_with fail
  refine c3.mono ?_
  rintro e w9 ⟨rfl, rfl⟩
  go_wp2_with fail
  go_end0
  exact ⟨rfl, w8, B8, s8, rfl⟩
end Go.Proofs.Ytfkchnjbbbhmjaa
