/- a journal that no call made; the arguments of journal's laws -/
import Derived.Test.YtfkchnjbbbhmjabXB11
import Derived.Test.YtfkchnjbbbhmjabXB5
import Derived.Test.YtfkchnjbbbhmjabXB6
namespace Go.Proofs.Ytfkchnjbbbhmjab
open Go.RowKit
def NoJ (w : World) (pv : Value) : Prop := pv = .pointer none ∨ ∃ b, pv = .pointer (some ⟨b, 0, none⟩) ∧ b < w.heap.size ∧ w.cell? ⟨b, 0, none⟩ = some (.pointer none)
theorem NoJ.below {w w' : World} {pv : Value} (h : NoJ w pv) (hb : Below w.heap.size w w') : NoJ w' pv := by
  rcases h with h | ⟨b, h1, h2, h3⟩
  · exact .inl h
  · exact .inr ⟨b, h1, Nat.lt_of_lt_of_le h2 hb.size, cell_at h3 (hb.block b h2)⟩
set_option maxRecDepth 100000 in
set_option maxHeartbeats 2000000 in
theorem jmade_no (pv : Value) (w : World) (h : NoJ w pv) : Calls Try.prog 33 #[pv] w fun e w' => e = .returned (.bool false) ∧ w' = w := by
  rcases h with rfl | ⟨b, rfl, hb, h1⟩
  all_goals
    go_enter Try.func33, Try.ntmps33
    go_wp2_with fail
    go_ret
    exact ⟨rfl, rfl⟩
set_option maxRecDepth 100000 in
set_option maxHeartbeats 2000000 in
theorem jtakes_no (ra : Option Addr) (n rc : Nat) (pv : Value) (w : World) (h : NoJ w pv) :
    Calls Try.prog 26 #[pv, .slice ra n rc] w fun e w' => e = .returned (.int .i64 1) ∧ w' = w := by
  have cm := jmade_no pv w h
  rcases h with rfl | ⟨b, rfl, hb, h1⟩
  all_goals
    go_enter Try.func26, Try.ntmps26
    go_wp2_with fail
    refine cm.mono ?_
    rintro e w' ⟨rfl, hw⟩
    obtain rfl := hw.symm
    clear cm hw
    go_wp2_with fail
    go_ret
    exact ⟨rfl, rfl⟩
set_option maxRecDepth 100000 in
set_option maxHeartbeats 2000000 in
theorem jon_no (pv : Value) (w : World) (h : NoJ w pv) :
    Calls Try.prog 22 #[pv] w fun e w' => e = .returned (.bool false) ∧ w' = w := by
  have cm := jmade_no pv w h
  rcases h with rfl | ⟨b, rfl, hb, h1⟩
  all_goals
    go_enter Try.func22, Try.ntmps22
    go_wp2_with fail
    refine cm.mono ?_
    rintro e w' ⟨rfl, hw⟩
    obtain rfl := hw.symm
    clear cm hw
    go_wp2_with fail
    go_ret
    exact ⟨rfl, rfl⟩
set_option maxRecDepth 100000 in
set_option maxHeartbeats 2000000 in
theorem jturn_no (pv : Value) (w : World) (h : NoJ w pv) :
    Calls Try.prog 20 #[pv] w fun e w' => e = .returned (.int .i64 0) ∧ w' = w := by
  have cm := jmade_no pv w h
  rcases h with rfl | ⟨b, rfl, hb, h1⟩
  all_goals
    go_enter Try.func20, Try.ntmps20
    go_wp2_with fail
    refine cm.mono ?_
    rintro e w' ⟨rfl, hw⟩
    obtain rfl := hw.symm
    clear cm hw
    go_wp2_with fail
    go_ret
    exact ⟨rfl, rfl⟩
set_option maxRecDepth 100000 in
set_option maxHeartbeats 2000000 in
theorem jbytes_no (pv : Value) (w : World) (h : NoJ w pv) :
    Calls Try.prog 19 #[pv] w fun e w' => e = .returned (.int .i64 0) ∧ w' = w := by
  have cm := jmade_no pv w h
  rcases h with rfl | ⟨b, rfl, hb, h1⟩
  all_goals
    go_enter Try.func19, Try.ntmps19
    go_wp2_with fail
    refine cm.mono ?_
    rintro e w' ⟨rfl, hw⟩
    obtain rfl := hw.symm
    clear cm hw
    go_wp2_with fail
    go_ret
    exact ⟨rfl, rfl⟩
set_option maxRecDepth 100000 in
set_option maxHeartbeats 2000000 in
theorem jsync_no (pv : Value) (w : World) (h : NoJ w pv) :
    Calls Try.prog 13 #[pv] w fun e w' => e = .returned (.int .i64 1) ∧ w' = w := by
  have cm := jtakes_no none 0 0 pv w h
  rcases h with rfl | ⟨b, rfl, hb, h1⟩
  all_goals
    go_enter Try.func13, Try.ntmps13
    go_wp2_with fail
    refine cm.mono ?_
    rintro e w' ⟨rfl, hw⟩
    obtain rfl := hw.symm
    clear cm hw
    go_wp2_with fail
    go_ret
    exact ⟨rfl, rfl⟩
set_option maxRecDepth 100000 in
set_option maxHeartbeats 2000000 in
theorem jlay_no (ra : Option Addr) (n rc : Nat) (pv : Value) (w : World) (h : NoJ w pv) :
    Calls Try.prog 18 #[pv, .slice ra n rc] w fun e w' => e = .returned (.int .i64 1) ∧ w' = w := by
  have cm := jtakes_no ra n rc pv w h
  rcases h with rfl | ⟨b, rfl, hb, h1⟩
  all_goals
    go_enter Try.func18, Try.ntmps18
    go_wp2_with fail
    refine cm.mono ?_
    rintro e w' ⟨rfl, hw⟩
    obtain rfl := hw.symm
    clear cm hw
    go_wp2_with fail
    go_ret
    exact ⟨rfl, rfl⟩
set_option maxRecDepth 100000 in
set_option maxHeartbeats 2000000 in
theorem jappend_no (ra : Option Addr) (n rc : Nat) (pv : Value) (w : World) (h : NoJ w pv) :
    Calls Try.prog 12 #[pv, .slice ra n rc] w fun e w' => e = .returned (.int .i64 1) ∧ Below w.heap.size w w' := by
  have hB1 : Below w.heap.size w (w.alloc (.cells #[.slice ra n rc] 34)) := (Below.refl _ _).alloc (Nat.le_refl _) _
  have cm := jtakes_no (some ⟨w.heap.size, 0, none⟩) 1 1 pv (w.alloc (.cells #[.slice ra n rc] 34)) (h.below hB1)
  rcases h with rfl | ⟨b, rfl, hb, h1⟩
  all_goals
    go_enter Try.func12, Try.ntmps12
    go_wp2_with fail
    refine cm.mono ?_
    rintro e w' ⟨rfl, hw⟩
    subst hw
    clear cm
    go_wp2_with fail
    go_ret
    exact ⟨rfl, hB1⟩
set_option maxRecDepth 100000 in
set_option maxHeartbeats 2000000 in
theorem jsure_no (pv : Value) (w : World) (h : NoJ w pv) : Calls Try.prog 21 #[pv] w fun e w' => e = .returned (.bool false) ∧ Below w.heap.size w w' := by
  obtain ⟨w8, hw8⟩ : ∃ w8, w.drew = w8 := ⟨_, rfl⟩
  have hB8 : Below w.heap.size w w8 := by rw [← hw8]; exact (Below.refl _ _).drew
  have cm := jmade_no pv w8 (h.below hB8)
  clear h
  go_enter Try.func21, Try.ntmps21
  go_wp2_with fail
  refine hs_begin (S := (Below w8.heap.size w8)) 17 rfl (by kernel_rfl) ?_
  rw [hw8]
  clear hw8
  have hS : (Below w8.heap.size w8) w8 := Below.refl _ _
  refine hs_take (i := 0) (d := some 3) (v := ?_) rfl (by kernel_rfl) (by kernel_rfl) (by kernel_rfl) (by rfl) ?_ hS rfl ?_
  rotate_left
  · intro w' hw
    go_simp
    try with_reducible rfl
  simp only [Act.put, List.setIfInBounds_toArray, List.set_cons_zero, List.set_cons_succ]
  refine hs_call (i := 1) (d := some 4) rfl (by kernel_rfl) (by rfl) (by go_simp; first | done | exact ⟨rfl, rfl⟩ | with_reducible rfl) rfl ?_
  refine (cm).mono ?_
  rintro e' wq ⟨rfl, hx⟩
  have hS : Below w8.heap.size w8 wq := by rw [hx]; exact hS
  refine ⟨_, rfl, hS, ?_⟩
  simp only [Act.put, List.setIfInBounds_toArray, List.set_cons_zero, List.set_cons_succ]
  obtain rfl := hx.symm
  clear hx
  refine hs_take (i := 2) (d := some 5) (v := ?_) rfl (by kernel_rfl) (by kernel_rfl) (by kernel_rfl) (by rfl) ?_ hS rfl ?_
  rotate_left
  · intro w' hw
    go_simp
    try with_reducible rfl
  simp only [Act.put, List.setIfInBounds_toArray, List.set_cons_zero, List.set_cons_succ]
  refine hs_skip (i := 3) (d := some 6) rfl (by kernel_rfl) (by kernel_rfl) (by kernel_rfl) (by rfl) hS rfl ?_
  simp only [Act.put, List.setIfInBounds_toArray, List.set_cons_zero, List.set_cons_succ]
  refine hs_skip (i := 4) (d := some 7) rfl (by kernel_rfl) (by kernel_rfl) (by kernel_rfl) (by rfl) hS rfl ?_
  simp only [Act.put, List.setIfInBounds_toArray, List.set_cons_zero, List.set_cons_succ]
  refine hs_skip (i := 5) (d := some 8) rfl (by kernel_rfl) (by kernel_rfl) (by kernel_rfl) (by rfl) hS rfl ?_
  simp only [Act.put, List.setIfInBounds_toArray, List.set_cons_zero, List.set_cons_succ]
  refine hs_skip (i := 6) (d := some 9) rfl (by kernel_rfl) (by kernel_rfl) (by kernel_rfl) (by rfl) hS rfl ?_
  simp only [Act.put, List.setIfInBounds_toArray, List.set_cons_zero, List.set_cons_succ]
  refine hs_skip (i := 7) (d := some 10) rfl (by kernel_rfl) (by kernel_rfl) (by kernel_rfl) (by rfl) hS rfl ?_
  simp only [Act.put, List.setIfInBounds_toArray, List.set_cons_zero, List.set_cons_succ]
  refine hs_skip (i := 8) (d := some 11) rfl (by kernel_rfl) (by kernel_rfl) (by kernel_rfl) (by rfl) hS rfl ?_
  simp only [Act.put, List.setIfInBounds_toArray, List.set_cons_zero, List.set_cons_succ]
  refine hs_skip (i := 9) (d := some 12) rfl (by kernel_rfl) (by kernel_rfl) (by kernel_rfl) (by rfl) hS rfl ?_
  simp only [Act.put, List.setIfInBounds_toArray, List.set_cons_zero, List.set_cons_succ]
  refine hs_skip (i := 10) (d := some 13) rfl (by kernel_rfl) (by kernel_rfl) (by kernel_rfl) (by rfl) hS rfl ?_
  simp only [Act.put, List.setIfInBounds_toArray, List.set_cons_zero, List.set_cons_succ]
  refine hs_skip (i := 11) (d := some 14) rfl (by kernel_rfl) (by kernel_rfl) (by kernel_rfl) (by rfl) hS rfl ?_
  simp only [Act.put, List.setIfInBounds_toArray, List.set_cons_zero, List.set_cons_succ]
  refine hs_skip (i := 12) (d := some 15) rfl (by kernel_rfl) (by kernel_rfl) (by kernel_rfl) (by rfl) hS rfl ?_
  simp only [Act.put, List.setIfInBounds_toArray, List.set_cons_zero, List.set_cons_succ]
  refine hs_skip (i := 13) (d := some 16) rfl (by kernel_rfl) (by kernel_rfl) (by kernel_rfl) (by rfl) hS rfl ?_
  simp only [Act.put, List.setIfInBounds_toArray, List.set_cons_zero, List.set_cons_succ]
  refine hs_skip (i := 14) (d := some 17) rfl (by kernel_rfl) (by kernel_rfl) (by kernel_rfl) (by rfl) hS rfl ?_
  simp only [Act.put, List.setIfInBounds_toArray, List.set_cons_zero, List.set_cons_succ]
  refine hs_take (i := 15) (d := some 18) (v := .bool false) rfl (by kernel_rfl) (by kernel_rfl) (by kernel_rfl) (by rfl) (fun w' hw => by go_simp) hS rfl ?_
  simp only [Act.put, List.setIfInBounds_toArray, List.set_cons_zero, List.set_cons_succ]
  refine hs_take (i := 16) (d := some 2) (v := .bool false) rfl (by kernel_rfl) (by kernel_rfl) (by kernel_rfl) (by rfl) (fun w' hw => by go_simp) hS rfl ?_
  simp only [Act.put, List.setIfInBounds_toArray, List.set_cons_zero, List.set_cons_succ]
  refine hs_done (by kernel_rfl) ?_
  go_wp2
  go_ret
  exact ⟨rfl, hB8⟩
set_option maxRecDepth 100000 in
set_option maxHeartbeats 2000000 in
theorem find_nil (w : World) : Calls Try.prog 24 #[.pointer none] w fun e w' => e = .returned (.tuple #[.pointer none, .slice none 0 0, .int .i64 1]) ∧ Below w.heap.size w w' := by
  have cC := counts_no (.pointer none) w (.inl rfl)
  go_enter Try.func24, Try.ntmps24
  go_wp2_with fail
  refine cC.mono ?_
  rintro e w1 ⟨rfl, hx⟩
  obtain rfl := hx.symm
  clear cC hx
  go_wp2_with fail
  go_loopw [8, 23] (fun _ iv wr => iv = .int .i64 0 ∧ Below w.heap.size w wr) (fun _ _ _ => 0)
  case atStart => exact ⟨rfl, (Below.refl _ _).alloc (Nat.le_refl _) _⟩
  case round =>
    obtain ⟨rfl, hB⟩ := hrel
    have cR := read_no 0 (.pointer none) wr (.inl rfl)
    go_wp2_with fail
    refine cR.mono ?_
    rintro e w2 ⟨rfl, hx⟩
    obtain rfl := hx.symm
    clear cR hx
    go_wp2
    go_ret3
    exact ⟨rfl, hB⟩
set_option maxRecDepth 100000 in
set_option maxHeartbeats 2000000 in
theorem open_nil (w : World) : Calls Try.prog 10 #[.pointer none] w fun e w' => e = .returned (.tuple #[.pointer none, .slice none 0 0, .int .i64 1]) ∧ Below w.heap.size w w' := by
  have cF := find_nil w
  go_enter Try.func10, Try.ntmps10
  go_wp2_with fail
  refine cF.mono ?_
  rintro e w1 ⟨rfl, hB1⟩
  clear cF
  go_wp2
  go_ret3
  exact ⟨rfl, hB1⟩
set_option maxRecDepth 100000 in
set_option maxHeartbeats 8000000 in
theorem jnobody_walk (a : Option Addr) (cap : Nat) (zs : List Int) (w : World) :
    Calls Try.prog 5 #[.slice a zs.length cap] w fun e w' => e = .returned (.bool true) ∧ Below w.heap.size w w' := by
  go_enter Try.func5, Try.ntmps5
  have hBB : Below w.heap.size w ((w.alloc (.cells #[.pointer none, .int .i64 0, .int .i64 0, .int .i64 0] 43)).alloc (.cells #[.pointer none, .pointer (some ⟨w.heap.size, 0, none⟩)] 28)) := ((Below.refl _ _).alloc (Nat.le_refl _) _).alloc (by simp) _
  have hRP : ((w.alloc (.cells #[.pointer none, .int .i64 0, .int .i64 0, .int .i64 0] 43)).alloc (.cells #[.pointer none, .pointer (some ⟨w.heap.size, 0, none⟩)] 28)).rangeAt (w.heap.size + 1) 0 [.pointer none, .pointer (some ⟨w.heap.size, 0, none⟩)] := by
    have := range_new (w.alloc (.cells #[.pointer none, .int .i64 0, .int .i64 0, .int .i64 0] 43)) #[.pointer none, .pointer (some ⟨w.heap.size, 0, none⟩)] 28
    simpa using this
  have hUP : NoJ ((w.alloc (.cells #[.pointer none, .int .i64 0, .int .i64 0, .int .i64 0] 43)).alloc (.cells #[.pointer none, .pointer (some ⟨w.heap.size, 0, none⟩)] 28)) (.pointer (some ⟨w.heap.size, 0, none⟩)) := by
    have h1 := range_new w #[.pointer none, .int .i64 0, .int .i64 0, .int .i64 0] 43
    refine .inr ⟨_, rfl, by simp; omega, ?_⟩
    exact cell_at (h1 0 _ rfl) (Below.heap_alloc _ _ _ (by simp))
  go_wp2_with fail
  obtain ⟨w2, hw2⟩ : ∃ w2, (w.alloc (.cells #[.pointer none, .int .i64 0, .int .i64 0, .int .i64 0] 43)).alloc (.cells #[.pointer none, .pointer (some ⟨w.heap.size, 0, none⟩)] 28) = w2 := ⟨_, rfl⟩
  rw [hw2] at hBB hRP hUP ⊢
  clear hw2
  have hRl : w.heap.size + 1 < w2.heap.size := cell_lt (hRP 0 _ rfl)
  go_loopw [12] (fun iv wr => ∃ k : Nat, k ≤ 2 ∧ iv = .int .i64 (k : Int) ∧ Below w2.heap.size w2 wr) (fun iv _ => 2 - (intOf iv).toNat)
  case atStart => exact ⟨0, by omega, rfl, Below.refl _ _⟩
  case round =>
    obtain ⟨k, hk, rfl, hB⟩ := hrel
    by_cases hlt : k < 2
    · obtain ⟨pv, hpv, hU⟩ : ∃ pv, wr.cell? ⟨w.heap.size + 1, k, none⟩ = some pv ∧ NoJ wr pv := by
        have hR := range_below hRP hB hRl
        have hkk : k = 0 ∨ k = 1 := by omega
        rcases hkk with rfl | rfl
        · exact ⟨_, hR 0 _ rfl, .inl rfl⟩
        · exact ⟨_, hR 1 _ rfl, hUP.below hB⟩
      have hltI : (k : Int) < 2 := by omega
      have c1 := jappend_no a zs.length cap pv wr hU
      go_wp2_with fail
      refine c1.mono ?_
      rintro e w3 ⟨rfl, hB3⟩
      clear c1
      have hU3 := hU.below hB3
      have c2 := jsync_no pv w3 hU3
      have c3 := jlay_no none 0 0 pv w3 hU3
      have c4 := jbytes_no pv w3 hU3
      have c5 := jturn_no pv w3 hU3
      have c6 := jsure_no pv w3 hU3
      go_wp2_with fail
      refine c2.mono ?_
      rintro e wq ⟨rfl, hx⟩
      obtain rfl := hx.symm
      clear hx c2
      go_wp2_with fail
      refine c3.mono ?_
      rintro e wq ⟨rfl, hx⟩
      obtain rfl := hx.symm
      clear hx c3
      go_wp2_with fail
      refine c4.mono ?_
      rintro e wq ⟨rfl, hx⟩
      obtain rfl := hx.symm
      clear hx c4
      go_wp2_with fail
      refine c5.mono ?_
      rintro e wq ⟨rfl, hx⟩
      obtain rfl := hx.symm
      clear hx c5
      go_wp2_with fail
      refine c6.mono ?_
      rintro e w4 ⟨rfl, hB4⟩
      clear c6
      have c7 := jon_no pv w4 (hU3.below hB4)
      have hB5 : Below w2.heap.size w2 w4 := (hB.trans (hB3.mono hB.size)).trans (hB4.mono (Nat.le_trans hB.size hB3.size))
      go_wp2_with fail
      refine c7.mono ?_
      rintro e wq ⟨rfl, hx⟩
      obtain rfl := hx.symm
      clear hx c7
      go_wp2
      go_roundw
      case rel => exact ⟨k + 1, by omega, by go_num, hB5⟩
      case measure => simp [intOf]; omega
    · obtain rfl : k = 2 := by omega
      have cO := open_nil wr
      go_wp2_with fail
      refine cO.mono ?_
      rintro e w3 ⟨rfl, hB3⟩
      clear cO
      have cL := Ty.lives16_any w3
      go_wp2_with fail
      refine cL.mono ?_
      rintro e w4 ⟨rfl, hB4⟩
      clear cL
      go_wp2
      go_ret
      have h1 := hBB.trans (hB.mono hBB.size)
      have h2 := h1.trans (hB3.mono h1.size)
      exact ⟨rfl, h2.trans (hB4.mono h2.size)⟩
end Go.Proofs.Ytfkchnjbbbhmjab
namespace Go.Proofs.Ytfkchnjbbbhmjab
open Go.ChangeShapes Go.WideShapes Go.ChangeAt Go.RowKit
set_option maxRecDepth 100000 in
theorem open_bytes {H : Type} {enc : TypeId × Value → H} {W : World} {base b : Nat} {sp : Nat → Bool} {held : Bool} {fuel : Nat} {v : Value} {x : DataW H × List MemPlace} (hv : Value.okWide Try.prog W .any base 34 v)
    (h : DataW.trod enc Try.prog W b sp held fuel 34 v.cells.toList = some x) : ∃ (a : Option Addr) (cap : Nat) (zs : List Int), v = .slice a zs.length cap ∧ zs.length ≤ cap ∧ cap ≤ maxLen ∧ RowAt W a zs := by
  obtain ⟨a0, len, cap, rfl⟩ := okWide_slice Try.underlying34 hv
  obtain ⟨a, cap', ys, h1, h2, h3, h4⟩ := bytes_of h
  simp [Value.cells] at h1
  obtain ⟨rfl, rfl, rfl⟩ := h1
  exact ⟨a0, cap, ys, rfl, h2, h3, h4⟩
set_option maxRecDepth 100000 in
theorem parts_of {H : Type} {enc : TypeId × Value → H} {W : World} {b : Nat} {sp : Nat → Bool} {held : Bool} {fuel : Nat} {l : List Value} {x : DataW H × List MemPlace}
    (h : DataW.trod enc Try.prog W b sp held fuel 22 l = some x) : ∃ (a : Option Addr) (cap : Nat) (ys : List Rc), l = [.slice a ys.length cap] ∧ ys.length ≤ cap ∧ cap ≤ maxLen ∧ (∀ y ∈ ys, y.ok W) ∧ RowOf Rc.cells W a ys :=
  rows_of Rc.cells (Rc.ok W) 1 (by omega) 22 34 Try.underlying22 (by kernel_rfl) (fun _ _ => rfl) (fun m l z hz => by
    obtain ⟨a, cap, zs, h1, h2, h3, h4⟩ := bytes_of hz
    exact ⟨⟨a, cap, zs⟩, h1, h4, h2, h3⟩) h
set_option maxRecDepth 100000 in
theorem open_parts {H : Type} {enc : TypeId × Value → H} {W : World} {base b : Nat} {sp : Nat → Bool} {held : Bool} {fuel : Nat} {v : Value} {x : DataW H × List MemPlace} (hv : Value.okWide Try.prog W .any base 22 v)
    (h : DataW.trod enc Try.prog W b sp held fuel 22 v.cells.toList = some x) : ∃ (a : Option Addr) (cap : Nat) (ys : List Rc), v = .slice a ys.length cap ∧ ys.length ≤ cap ∧ cap ≤ maxLen ∧ (∀ y ∈ ys, y.ok W) ∧ RowOf Rc.cells W a ys := by
  obtain ⟨a0, len, cap, rfl⟩ := okWide_slice Try.underlying22 hv
  obtain ⟨a, cap', ys, h1, h2, h3, h4, h5⟩ := parts_of h
  simp [Value.cells] at h1
  obtain ⟨rfl, rfl, rfl⟩ := h1
  exact ⟨a0, cap, ys, rfl, h2, h3, h4, h5⟩
theorem wf8 {z : Int} (h : (Lit.int .u8 z).wf = true) : 0 ≤ z ∧ z < 256 := by
  simp [Lit.wf, IntKind.min, IntKind.max, IntKind.signed, IntKind.bits] at h
  omega
end Go.Proofs.Ytfkchnjbbbhmjab
