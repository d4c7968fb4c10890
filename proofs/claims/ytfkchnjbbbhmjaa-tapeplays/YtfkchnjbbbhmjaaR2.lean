/- the document's tape: what is told of it; New, Arm -/
import Derived.Test.YtfkchnjbbbhmjaaR1
namespace Go.Proofs.Ytfkchnjbbbhmjaa
open Go.RowKit
theorem iszI : (Try.prog.info? 3).map (·.size) = some 1 := by kernel_rfl
theorem iszBs : (Try.prog.info? 29).map (·.size) = some 1 := by kernel_rfl
def newRv (w : World) : Rv := ⟨w.heap.size, none, 0, none, 0, 0, 0⟩
set_option maxRecDepth 100000 in
set_option maxHeartbeats 2000000 in
theorem rnew_yes (room : Int) (w : World) (h0 : 0 ≤ room) (h1 : room ≤ 1073741824) :
    Calls Try.prog 9 #[.int .i64 room] w fun e w' => e = .returned (rptr (newRv w)) ∧ Below w.heap.size w w' ∧ RefAt w' (newRv w) (Mt.new room) := by
  have hr := range_new w (rcells (newRv w) (Mt.new room)).toArray 71
  have ht := there_new w (rcells (newRv w) (Mt.new room)).toArray 71
  have hB : Below w.heap.size w (w.alloc (.cells (rcells (newRv w) (Mt.new room)).toArray 71)) := (Below.refl _ _).alloc (Nat.le_refl _) _
  have hT : RefAt (w.alloc (.cells (rcells (newRv w) (Mt.new room)).toArray 71)) (newRv w) (Mt.new room) :=
    ⟨hr, ht, RowN.none, RowN.none, (fun q => by cases q), Mt.ok.new h0 h1⟩
  have HP := hide (And.intro hB hT)
  clear hB hT hr ht
  have e : (rcells (newRv w) (Mt.new room)).toArray = #[.int .i64 room, .slice none 0 0, .slice none 0 0, .int .i64 0, .int .i64 0, .bool false, .bool false, .int .i64 0, .int .i64 0, .int .i64 0, .int .i64 0] := rfl
  rw [e] at HP
  clear e
  unfold rptr
  go_enter Try.func9, Try.ntmps9
  go_wp2_with fail
  go_ret
  exact ⟨rfl, HP.out.1, HP.out.2⟩
set_option maxRecDepth 100000 in
set_option maxHeartbeats 2000000 in
theorem rnew_no (room : Int) (w : World) (h : room < 0 ∨ 1073741824 < room) :
    Calls Try.prog 9 #[.int .i64 room] w fun e w' => e = .returned (.pointer none) ∧ w' = w := by
  by_cases h0 : room < 0
  · clear h
    go_enter Try.func9, Try.ntmps9
    go_wp2_with fail
    go_ret
    exact ⟨rfl, rfl⟩
  · have h1 : 1073741824 < room := by omega
    clear h
    go_enter Try.func9, Try.ntmps9
    go_wp2_with fail
    go_ret
    exact ⟨rfl, rfl⟩
set_option maxRecDepth 100000 in
set_option maxHeartbeats 2000000 in
theorem rfault_any (t : Rv) (M : Mt) (area : Int) (w : World) (h : RefAt w t M) :
    Calls Try.prog 68 #[rptr t, .int .i64 area] w fun e w' => e = .returned (.int .i64 (M.fault area)) ∧ w' = w := by
  have h5 := h.cell 5 rfl
  clear h
  unfold rptr
  by_cases ha : area = 0 ∨ area = 1
  · by_cases hon : M.on = true
    · have hf := fault_on hon ha
      rw [hf]
      rw [hon] at h5
      clear hf
      rcases ha with rfl | rfl
      all_goals
        go_enter Try.func68, Try.ntmps68
        go_wp2_with fail
        go_ret
        exact ⟨rfl, rfl⟩
    · have hon : M.on = false := by simpa using hon
      have hf := fault_off hon ha
      rw [hf]
      rw [hon] at h5
      clear hf
      rcases ha with rfl | rfl
      all_goals
        go_enter Try.func68, Try.ntmps68
        go_wp2_with fail
        go_ret
        exact ⟨rfl, rfl⟩
  · have hf : M.fault area = 2 := by unfold Mt.fault; rw [if_neg ha]
    rw [hf]
    have h0 : ¬ area = 0 := by omega
    have h1 : ¬ area = 1 := by omega
    have g0 : (area != 0) = true := by simpa using h0
    have g1 : (area != 1) = true := by simpa using h1
    clear hf ha
    go_enter Try.func68, Try.ntmps68
    go_wp2_with fail
    go_ret
    exact ⟨rfl, rfl⟩
set_option maxRecDepth 100000 in
set_option maxHeartbeats 2000000 in
theorem rused_any (t : Rv) (M : Mt) (w : World) (h : RefAt w t M) :
    Calls Try.prog 39 #[rptr t] w fun e w' => e = .returned (.int .i64 ((M.a.length : Int) + M.b.length)) ∧ Below w.heap.size w w' ∧ w'.heap.size = w.heap.size := by
  have h1 := h.cell 1 rfl
  have h2 := h.cell 2 rfl
  have hr := h.ok.rm
  have hl := h.ok.rl
  clear h
  unfold rptr
  go_enter Try.func39, Try.ntmps39
  go_wp2_with fail
  go_quiet (fail)
  go_wp2_with fail
  go_ret
  exact ⟨rfl, below_drewN (Below.refl _ _) _, rfl⟩
set_option maxRecDepth 100000 in
set_option maxHeartbeats 2000000 in
theorem rsure_any (t : Rv) (M : Mt) (area : Int) (w : World) (h : RefAt w t M) :
    Calls Try.prog 41 #[rptr t, .int .i64 area] w fun e w' => e = .returned (.int .i64 (if area = 0 then (M.sa : Int) else if area = 1 then (M.sb : Int) else 0)) ∧ w' = w := by
  have h3 := h.cell 3 rfl
  have h4 := h.cell 4 rfl
  clear h
  unfold rptr
  by_cases ha : area = 0
  · subst ha
    rw [if_pos rfl]
    go_enter Try.func41, Try.ntmps41
    go_wp2_with fail
    go_ret
    exact ⟨rfl, rfl⟩
  · rw [if_neg ha]
    by_cases hb : area = 1
    · subst hb
      rw [if_pos rfl]
      clear ha
      go_enter Try.func41, Try.ntmps41
      go_wp2_with fail
      go_ret
      exact ⟨rfl, rfl⟩
    · rw [if_neg hb]
      have g0 : (area != 0) = true := by simpa using ha
      have g1 : (area != 1) = true := by simpa using hb
      go_enter Try.func41, Try.ntmps41
      go_wp2_with fail
      go_ret
      exact ⟨rfl, rfl⟩
set_option maxRecDepth 100000 in
set_option maxHeartbeats 2000000 in
theorem rread_any (t : Rv) (M : Mt) (area : Int) (w : World) (h : RefAt w t M) :
    Calls Try.prog 40 #[rptr t, .int .i64 area] w fun e w' => ∃ a cap, e = .returned (.tuple #[.slice a (M.read area).length cap, .int .i64 (M.fault area)]) ∧ RowAt w' a (M.read area) ∧ Below w.heap.size w w' := by
  have c1 := rfault_any t M area w h
  by_cases hfa : M.fault area = 0
  · have hx := (Mt.fault_ok hfa).1
    have hrd : M.read area = M.get (decide (area = 1)) := if_pos hfa
    rw [hrd, hfa]
    rw [hfa] at c1
    have hb1 : Below w.heap.size w (w.alloc (.cells #[] 5)) := (Below.refl _ _).alloc (Nat.le_refl _) _
    have h1 := (h.below hb1).cell 1 rfl
    have h2 := (h.below hb1).cell 2 rfl
    obtain ⟨i1, hi1, hiz, his, hib⟩ := info_parts info8
    have hb1 : Below w.heap.size w (w.alloc (.cells #[] 5)) := (Below.refl _ _).alloc (Nat.le_refl _) _
    have hown1 := owns_new0 w
    have hr := h.ok.rm
    have hl := h.ok.rl
    have fin : ∀ (v2 : Value) (w2 : World) (zs : List Int), w2.ownsRow w.heap.size 5 1 v2 zs.length (v8 zs) → zs.length ≤ 1073741824 → (∀ z ∈ zs, 0 ≤ z ∧ z < 256) → Below w.heap.size w w2 → ∃ a cap, v2 = .slice a zs.length cap ∧ RowAt w2 a zs ∧ Below w.heap.size w w2 := fun v2 w2 zs k1 k2 k3 k4 => by
      obtain ⟨a, cap, e1, -, -, e2⟩ := own_bytes k1 k3 (by unfold maxLen; omega)
      exact ⟨a, cap, e1, e2, k4⟩
    unfold rptr at *
    rcases hx with rfl | rfl
    · have hsrc := (h.ra.row.below hb1).src t.ca
      have hz := h.ok.za
      rw [show M.get (decide ((0 : Int) = 1)) = M.a from rfl]
      clear h hfa hrd
      go_enter Try.func40, Try.ntmps40
      go_wp2_with fail
      refine c1.mono ?_
      rintro e w' ⟨rfl, hw⟩
      obtain rfl := hw.symm
      clear c1 hw
      go_wp2_with (at_builtin; refine wpList_append_own_src _ rfl _ _ 29 29 rfl w.heap.size 5 i1 (.int .u8 0) 1 1 Try.underlying29 hi1 hiz his hib rfl _ 0 [] rfl hown1 (.slice t.aa M.a.length t.ca) M.a.length (v8 M.a) rfl hsrc ?c1 ?c2 ?c3 ?_)
      case c1 => unfold maxLen; omega
      case c2 => omega
      case c3 => exact hb1.size
      intro v2 w2 hown2 hgrow2
      have hb2 : Below w.heap.size w w2 := hb1.grown hgrow2 hb1.size (fun k hk => (hown1.lt k hk).1)
      obtain ⟨a2, c2, e1, e2, e3⟩ := fin v2 w2 M.a (by simpa using hown2) (by omega) hz hb2
      have HF := hide (And.intro e2 e3)
      subst e1
      clear hown2 hgrow2 hb2 fin e2 e3 hsrc hown1
      go_wp2_with fail
      go_ret2
      exact ⟨_, _, rfl, HF.out⟩
    · have hsrc := (h.rb.row.below hb1).src t.cb
      have hz := h.ok.zb
      rw [show M.get (decide ((1 : Int) = 1)) = M.b from rfl]
      clear h hfa hrd
      go_enter Try.func40, Try.ntmps40
      go_wp2_with fail
      refine c1.mono ?_
      rintro e w' ⟨rfl, hw⟩
      obtain rfl := hw.symm
      clear c1 hw
      go_wp2_with (at_builtin; refine wpList_append_own_src _ rfl _ _ 29 29 rfl w.heap.size 5 i1 (.int .u8 0) 1 1 Try.underlying29 hi1 hiz his hib rfl _ 0 [] rfl hown1 (.slice t.ab M.b.length t.cb) M.b.length (v8 M.b) rfl hsrc ?d1 ?d2 ?d3 ?_)
      case d1 => unfold maxLen; omega
      case d2 => omega
      case d3 => exact hb1.size
      intro v2 w2 hown2 hgrow2
      have hb2 : Below w.heap.size w w2 := hb1.grown hgrow2 hb1.size (fun k hk => (hown1.lt k hk).1)
      obtain ⟨a2, c2, e1, e2, e3⟩ := fin v2 w2 M.b (by simpa using hown2) (by omega) hz hb2
      have HF := hide (And.intro e2 e3)
      subst e1
      clear hown2 hgrow2 hb2 fin e2 e3 hsrc hown1
      go_wp2_with fail
      go_ret2
      exact ⟨_, _, rfl, HF.out⟩
  · have hr : M.read area = [] := if_neg hfa
    rw [hr]
    obtain ⟨z, hz⟩ : ∃ z, Hid (M.fault area = z) := ⟨_, hide rfl⟩
    rw [hz.out] at c1 hfa ⊢
    have hz0 : (z == 0) = false := by simpa using hfa
    have HP : Hid (RowAt w none [] ∧ Below w.heap.size w w) := hide ⟨⟨by unfold maxLen; simp, by simp, .inl rfl⟩, Below.refl _ _⟩
    unfold rptr at *
    clear h hr hfa hz
    go_enter Try.func40, Try.ntmps40
    go_wp2_with fail
    refine c1.mono ?_
    rintro e w' ⟨rfl, hw⟩
    obtain rfl := hw.symm
    clear c1 hw
    go_wp2_with fail
    go_ret2
    exact ⟨_, _, rfl, HP.out⟩
set_option maxRecDepth 100000 in
set_option maxHeartbeats 2000000 in
theorem rarm_any (t : Rv) (M : Mt) (n keep : Int) (w : World) (h : RefAt w t M) (hn : n ≤ 9223372036854775807) :
    Calls Try.prog 37 #[rptr t, .int .i64 n, .int .i64 keep] w fun e w' => e = .returned (.int .i64 (M.arm n keep).1) ∧ RTurned w w' t (M.arm n keep).2 := by
  have q5 := h.cell 5 rfl
  have q6 := h.cell 6 rfl
  have q7 := h.cell 7 rfl
  have q8 := h.cell 8 rfl
  have f6 := h.fz 6 (by omega)
  have f7 := h.fz 7 (by omega)
  have f8 := h.fz 8 (by omega)
  have hok := h.ok.arm hn keep
  unfold Mt.arm at *
  unfold rptr at *
  by_cases hn0 : n < 0
  · rw [if_pos hn0]
    have HT : Hid (RTurned w w t M) := hide (RTurned.same h (Below.refl _ _))
    clear h hok
    go_enter Try.func37, Try.ntmps37
    go_wp2_with fail
    go_ret
    exact ⟨rfl, HT.out⟩
  · rw [if_neg hn0] at hok ⊢
    by_cases hon : M.on = true
    rotate_left
    · rw [if_neg hon]
      have hon : M.on = false := by simpa using hon
      rw [hon] at q5
      have HT : Hid (RTurned w w t M) := hide (RTurned.same h (Below.refl _ _))
      clear h hok hon
      go_enter Try.func37, Try.ntmps37
      go_wp2_with fail
      go_ret
      exact ⟨rfl, HT.out⟩
    · rw [if_pos hon] at hok
      rw [if_pos hon]
      rw [hon] at q5
      have HT : Hid (RTurned w (((w.setCell ⟨t.r, 6, none⟩ (.bool true)).setCell ⟨t.r, 7, none⟩ (.int .i64 n)).setCell ⟨t.r, 8, none⟩ (.int .i64 keep)) t { M with pl := true, af := n, ke := keep }) :=
        hide (RTurned.of_cells (t := t) (t' := { t with x := n, y := keep }) (Below.refl _ _) ((((CellsR.start h).set 6 (.bool true)).set 7 (.int .i64 n)).set 8 (.int .i64 keep)) rfl h.ra h.rb (fun x hx => .inl (.inr (.inl ⟨x, hx, rfl⟩))) (fun x hx => .inl (.inr (.inr ⟨x, hx, rfl⟩))) (fun _ => ⟨rfl, rfl⟩) hok)
      clear h hok hon
      go_enter Try.func37, Try.ntmps37
      go_wp2_with fail
      go_ret
      exact ⟨rfl, HT.out⟩
end Go.Proofs.Ytfkchnjbbbhmjaa
