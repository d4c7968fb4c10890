/- pools that no call made; the walk of PoolNobody -/
import Derived.Test.YtbfcbjjhdadicaaDoorP8
import Derived.Test.YtbfcbjjhdadicaaDoorP9
namespace Go.Proofs.YtbfcbjjhdadicaaDoor
open Go.RowKit
open Sha Tal
def Unmade (w : World) (pv : Value) : Prop := pv = .pointer none ∨ ∃ b, pv = .pointer (some ⟨b, 0, none⟩) ∧ b < w.heap.size ∧ w.cell? ⟨b, 1, none⟩ = some (.slice none 0 0)
theorem Unmade.below {w w' : World} {pv : Value} (h : Unmade w pv) (hb : Below w.heap.size w w') : Unmade w' pv := by
  rcases h with h | ⟨b, h1, h2, h3⟩
  · exact .inl h
  · exact .inr ⟨b, h1, Nat.lt_of_lt_of_le h2 hb.size, cell_at h3 (hb.block b h2)⟩
set_option maxRecDepth 100000 in
set_option maxHeartbeats 2000000 in
theorem made_no (pv : Value) (w : World) (h : Unmade w pv) :
    Calls Tryd.prog 29 #[pv] w fun e w' => e = .returned (.bool false) ∧ w' = w := by
  rcases h with rfl | ⟨b, rfl, hb, h1⟩
  all_goals
    go_enter Tryd.func29, Tryd.ntmps29
    go_wp2_with fail
    go_ret
    exact ⟨rfl, rfl⟩
set_option maxRecDepth 100000 in
set_option maxHeartbeats 2000000 in
theorem padd_no (r : Rq) (pv : Value) (w : World) (h : Unmade w pv) :
    Calls Tryd.prog 19 #[pv, .agg r.cells.toArray] w fun e w' => e = .returned (.int .i64 1) ∧ Below w.heap.size w w' := by
  have hB1 : Below w.heap.size w (w.alloc (.cells r.cells.toArray 35)) := (Below.refl _ _).alloc (Nat.le_refl _) _
  have cm := made_no pv _ (h.below hB1)
  obtain ⟨u, hu⟩ : ∃ u, Hid (r.cells = u) := ⟨_, hide rfl⟩
  rw [hu.out] at hB1 cm ⊢
  clear hu
  rcases h with rfl | ⟨b, rfl, hb, h1⟩
  all_goals
    go_enter Tryd.func19, Tryd.ntmps19
    go_wp2_with fail
    refine cm.mono ?_
    rintro e w' ⟨rfl, hw⟩
    obtain rfl := hw.symm
    clear cm hw
    go_wp2_with fail
    go_ret
    exact ⟨rfl, hB1⟩
set_option maxRecDepth 100000 in
set_option maxHeartbeats 2000000 in
theorem len_no (pv : Value) (w : World) (h : Unmade w pv) :
    Calls Tryd.prog 13 #[pv] w fun e w' => e = .returned (.int .i64 0) ∧ w' = w := by
  have cm := made_no pv w h
  rcases h with rfl | ⟨b, rfl, hb, h1⟩
  all_goals
    go_enter Tryd.func13, Tryd.ntmps13
    go_wp2_with fail
    refine cm.mono ?_
    rintro e w' ⟨rfl, hw⟩
    obtain rfl := hw.symm
    clear cm hw
    go_wp2_with fail
    go_ret
    exact ⟨rfl, rfl⟩
set_option maxRecDepth 100000 in
set_option maxHeartbeats 2000000 in
theorem phas_no (c n : Int) (pv : Value) (w : World) (h : Unmade w pv) :
    Calls Tryd.prog 14 #[pv, .int .i64 c, .int .i64 n] w fun e w' => e = .returned (.bool false) ∧ w' = w := by
  have cm := made_no pv w h
  rcases h with rfl | ⟨b, rfl, hb, h1⟩
  all_goals
    go_enter Tryd.func14, Tryd.ntmps14
    go_wp2_with fail
    refine cm.mono ?_
    rintro e w' ⟨rfl, hw⟩
    obtain rfl := hw.symm
    clear cm hw
    go_wp2_with fail
    go_ret
    exact ⟨rfl, rfl⟩
set_option maxRecDepth 100000 in
set_option maxHeartbeats 2000000 in
theorem clear_no (pv : Value) (w : World) (h : Unmade w pv) :
    Calls Tryd.prog 22 #[pv] w fun e w' => e = .returned (.int .i64 1) ∧ w' = w := by
  have cm := made_no pv w h
  rcases h with rfl | ⟨b, rfl, hb, h1⟩
  all_goals
    go_enter Tryd.func22, Tryd.ntmps22
    go_wp2_with fail
    refine cm.mono ?_
    rintro e w' ⟨rfl, hw⟩
    obtain rfl := hw.symm
    clear cm hw
    go_wp2_with fail
    go_ret
    exact ⟨rfl, rfl⟩
set_option maxRecDepth 100000 in
set_option maxHeartbeats 2000000 in
theorem sweep_no (a : Option Addr) (n cap : Nat) (pv : Value) (w : World) (h : Unmade w pv) :
    Calls Tryd.prog 20 #[pv, .slice a n cap] w fun e w' => e = .returned (.int .i64 0) ∧ Below w.heap.size w w' := by
  have hB1 : Below w.heap.size w (w.alloc (.cells #[.slice a n cap] 38)) := (Below.refl _ _).alloc (Nat.le_refl _) _
  have cm := made_no pv _ (h.below hB1)
  rcases h with rfl | ⟨b, rfl, hb, h1⟩
  all_goals
    go_enter Tryd.func20, Tryd.ntmps20
    go_wp2_with fail
    refine cm.mono ?_
    rintro e w' ⟨rfl, hw⟩
    obtain rfl := hw.symm
    clear cm hw
    go_wp2_with fail
    go_ret
    exact ⟨rfl, hB1⟩
set_option maxRecDepth 100000 in
set_option maxHeartbeats 2000000 in
theorem pin_no (z : Int) (pv : Value) (w : World) (h : Unmade w pv) :
    Calls Tryd.prog 17 #[pv, .int .i64 z] w fun e w' => e = .returned (.slice none 0 0) ∧ w' = w := by
  have cm := made_no pv w h
  rcases h with rfl | ⟨b, rfl, hb, h1⟩
  all_goals
    go_enter Tryd.func17, Tryd.ntmps17
    go_wp2_with fail
    refine cm.mono ?_
    rintro e w' ⟨rfl, hw⟩
    obtain rfl := hw.symm
    clear cm hw
    go_wp2_with fail
    go_ret
    exact ⟨rfl, rfl⟩
set_option maxRecDepth 100000 in
set_option maxHeartbeats 2000000 in
theorem pick_no (a : Option Addr) (n cap : Nat) (most : Int) (pv : Value) (w : World) (h : Unmade w pv) :
    Calls Tryd.prog 21 #[pv, .slice a n cap, .int .i64 most, .slice none 0 0] w fun e w' => e = .returned (.slice none 0 0) ∧ w' = w := by
  have cm := made_no pv w h
  rcases h with rfl | ⟨b, rfl, hb, h1⟩
  all_goals
    go_enter Tryd.func21, Tryd.ntmps21
    go_wp2_with fail
    refine cm.mono ?_
    rintro e w' ⟨rfl, hw⟩
    obtain rfl := hw.symm
    clear cm hw
    go_wp2_with fail
    go_ret
    exact ⟨rfl, rfl⟩
structure ActBox (w : World) (X : Nat) (A : Ac) : Prop where
  lt : X < w.heap.size
  all : w.rangeAt X 0 A.cells
theorem ActBox.below {w w' : World} {X : Nat} {A : Ac} (h : ActBox w X A) (hb : Below w.heap.size w w') : ActBox w' X A := ⟨Nat.lt_of_lt_of_le h.lt hb.size, range_below h.all hb h.lt⟩
theorem act_req {w : World} {X o : Nat} {A : Ac} (h : w.rangeAt X o A.cells) : w.rangeAt X (o + 1) A.r.cells := by
  have e : A.cells = [.int .i64 A.kind] ++ A.r.cells ++ [.slice A.ba A.bz.length A.bc, .int .i64 A.most, .slice A.ua A.us.length A.uc, .slice A.wa A.ws.length A.wc] := by simp [Ac.cells]
  rw [e] at h
  exact range_part h
theorem act_tail {w : World} {X o : Nat} {A : Ac} (hr : A.r.ok) (h : w.rangeAt X o A.cells) : w.rangeAt X (o + 20) [.slice A.ba A.bz.length A.bc, .int .i64 A.most, .slice A.ua A.us.length A.uc, .slice A.wa A.ws.length A.wc] := by
  have e : A.cells = (.int .i64 A.kind :: A.r.cells) ++ [.slice A.ba A.bz.length A.bc, .int .i64 A.most, .slice A.ua A.us.length A.uc, .slice A.wa A.ws.length A.wc] := by simp [Ac.cells]
  rw [e] at h
  have := range_right h
  rwa [List.length_cons, hr.length] at this
theorem act_cells {w : World} {X o : Nat} {A : Ac} (hr : A.r.ok) (h : w.rangeAt X o A.cells) : w.cell? ⟨X, o, none⟩ = some (.int .i64 A.kind) ∧ w.cell? ⟨X, o + 1, none⟩ = some (.int .i64 A.r.c) ∧ w.cell? ⟨X, o + 2, none⟩ = some (.int .i64 A.r.n) ∧
    w.cell? ⟨X, o + 20, none⟩ = some (.slice A.ba A.bz.length A.bc) ∧ w.cell? ⟨X, o + 21, none⟩ = some (.int .i64 A.most) ∧ w.cell? ⟨X, o + 22, none⟩ = some (.slice A.ua A.us.length A.uc) ∧ w.cell? ⟨X, o + 23, none⟩ = some (.slice A.wa A.ws.length A.wc) := by
  have h1 := act_req h
  have h2 := act_tail hr h
  exact ⟨h 0 _ rfl, h1 0 _ rfl, h1 1 _ rfl, h2 0 _ rfl, h2 1 _ rfl, h2 2 _ rfl, h2 3 _ rfl⟩
def ptrsAt (w : World) (R : Nat) (b : Nat) : Prop := w.rangeAt R 0 [.pointer none, .pointer (some ⟨b, 0, none⟩)]
set_option maxRecDepth 100000 in
set_option maxHeartbeats 4000000 in
theorem nobody_walk (A : Ac) (w : World) (hr : A.r.ok) (hG : Glob w) :
    Calls Tryd.prog 6 #[.agg A.cells.toArray] w fun e w' => e = .returned (.bool true) ∧ Below w.heap.size w w' := by
  have cL := fun w0 h0 => lives_any w0 h0
  have hB1 : Below w.heap.size w (w.alloc (.cells A.cells.toArray 40)) := (Below.refl _ _).alloc (Nat.le_refl _) _
  have hX1 : ActBox (w.alloc (.cells A.cells.toArray 40)) w.heap.size A := ⟨by simp, by simpa using range_new w A.cells.toArray 40⟩
  have cAdd := fun pv w0 h0 => padd_no A.r pv w0 h0
  have cClear := fun pv w0 h0 => clear_no pv w0 h0
  have cLen := fun pv w0 h0 => len_no pv w0 h0
  have cSweep := fun pv w0 h0 => sweep_no A.wa A.ws.length A.wc pv w0 h0
  have cHas := fun pv w0 h0 => phas_no A.r.c A.r.n pv w0 h0
  have cIn := fun pv w0 h0 => pin_no A.most pv w0 h0
  have cPick := fun pv w0 h0 => pick_no A.ba A.bz.length A.bc A.most pv w0 h0
  have hiu := hr.isz
  obtain ⟨u, hu⟩ : ∃ u, Hid (A.r.cells = u) := ⟨_, hide rfl⟩
  simp only [hu.out] at cAdd
  rw [hu.out] at hiu
  obtain ⟨cs, hcs⟩ : ∃ cs, Hid (A.cells = cs) := ⟨_, hide rfl⟩
  rw [hcs.out] at hB1 hX1 ⊢
  go_enter Tryd.func6, Tryd.ntmps6
  go_upto_region 1 with fail
  obtain ⟨w1, hw1⟩ : ∃ w1, w.alloc (.cells cs.toArray 40) = w1 := ⟨_, rfl⟩
  rw [hw1] at hB1 hX1 ⊢
  clear hw1
  have hBB : Below w1.heap.size w1 ((w1.alloc (.cells #[.int .i64 0, .slice none 0 0, .map none] 61)).alloc (.cells #[.pointer none, .pointer (some ⟨w1.heap.size, 0, none⟩)] 23)) := ((Below.refl _ _).alloc (Nat.le_refl _) _).alloc (by simp) _
  have hRP : ((w1.alloc (.cells #[.int .i64 0, .slice none 0 0, .map none] 61)).alloc (.cells #[.pointer none, .pointer (some ⟨w1.heap.size, 0, none⟩)] 23)).rangeAt (w1.heap.size + 1) 0 [.pointer none, .pointer (some ⟨w1.heap.size, 0, none⟩)] := by
    have := range_new (w1.alloc (.cells #[.int .i64 0, .slice none 0 0, .map none] 61)) #[.pointer none, .pointer (some ⟨w1.heap.size, 0, none⟩)] 23
    simpa using this
  have hUP : Unmade ((w1.alloc (.cells #[.int .i64 0, .slice none 0 0, .map none] 61)).alloc (.cells #[.pointer none, .pointer (some ⟨w1.heap.size, 0, none⟩)] 23)) (.pointer (some ⟨w1.heap.size, 0, none⟩)) := by
    have h1 := range_new w1 #[.int .i64 0, .slice none 0 0, .map none] 61
    refine .inr ⟨_, rfl, by simp; omega, ?_⟩
    exact cell_at (h1 1 _ rfl) (Below.heap_alloc _ _ _ (by simp))
  go_wp2_with fail
  obtain ⟨w2, hw2⟩ : ∃ w2, (w1.alloc (.cells #[.int .i64 0, .slice none 0 0, .map none] 61)).alloc (.cells #[.pointer none, .pointer (some ⟨w1.heap.size, 0, none⟩)] 23) = w2 := ⟨_, rfl⟩
  rw [hw2] at hBB hRP hUP ⊢
  clear hw2
  have hX2 := hX1.below hBB
  have hB2 : Below w.heap.size w w2 := hB1.trans (hBB.mono hB1.size)
  have hRl : w1.heap.size + 1 < w2.heap.size := cell_lt (hRP 0 _ rfl)
  go_loopw [9] (fun iv wr => ∃ k : Nat, k ≤ 2 ∧ iv = .int .i64 (k : Int) ∧ Below w2.heap.size w2 wr) (fun iv _ => 2 - (intOf iv).toNat)
  case atStart => exact ⟨0, by omega, rfl, Below.refl _ _⟩
  case round =>
    obtain ⟨k, hk, rfl, hB⟩ := hrel
    by_cases hlt : k < 2
    · obtain ⟨pv, hpv, hU⟩ : ∃ pv, wr.cell? ⟨w1.heap.size + 1, k, none⟩ = some pv ∧ Unmade wr pv := by
        have hR := range_below hRP hB hRl
        have hkk : k = 0 ∨ k = 1 := by omega
        rcases hkk with rfl | rfl
        · exact ⟨_, hR 0 _ rfl, .inl rfl⟩
        · exact ⟨_, hR 1 _ rfl, hUP.below hB⟩
      have hltI : (k : Int) < 2 := by omega
      go_upto_region 4 with fail
      obtain ⟨w8, hw8⟩ : ∃ w8, wr.drew = w8 := ⟨_, rfl⟩
      have hB8 : Below w2.heap.size w2 w8 := by rw [← hw8]; exact hB.drew
      have hX8 := hX2.below hB8
      have ku : ∀ w', Below w8.heap.size w8 w' → Unmade w' pv := fun w' hw' => (by rw [← hw8] at hw'; exact hU.below ⟨hw'.os, hw'.tape, hw'.output, hw'.size, hw'.block⟩)
      have KC := fun w' (hw' : Below w8.heap.size w8 w') => act_cells hr ((hX8.below hw').all)
      have kr : ∀ w', Below w8.heap.size w8 w' → w'.rangeAt w.heap.size 1 u := fun w' hw' => by
        have := act_req ((hX8.below hw').all)
        rw [hu.out, Nat.zero_add] at this
        exact this
      have x1 := fun w' hw' => (KC w' hw').2.1
      have x2 := fun w' hw' => (KC w' hw').2.2.1
      have x20 := fun w' hw' => (KC w' hw').2.2.2.1
      have x21 := fun w' hw' => (KC w' hw').2.2.2.2.1
      have x23 := fun w' hw' => (KC w' hw').2.2.2.2.2.2
      simp only [Nat.zero_add] at x1 x2 x20 x21 x23
      have cAdd := cAdd pv
      have cClear := cClear pv
      have cLen := cLen pv
      have cSweep := cSweep pv
      have cHas := cHas pv
      have cIn := cIn pv
      have cPick := cPick pv
      clear KC hX8 hpv
      refine hs_begin (S := (Below w8.heap.size w8)) 46 rfl (by kernel_rfl) ?_
      rw [hw8]
      clear hw8
      have hS : (Below w8.heap.size w8) w8 := Below.refl _ _
      refine hs_take (i := 0) (d := some 13) (v := ?_) rfl (by kernel_rfl) (by kernel_rfl) (by kernel_rfl) (by rfl) ?_ hS rfl ?_
      rotate_left
      · intro w' hw
        go_simp
        try with_reducible rfl
      simp only [Act.put, List.setIfInBounds_toArray, List.set_cons_zero, List.set_cons_succ]
      refine hs_take (i := 1) (d := some 14) (v := ?_) rfl (by kernel_rfl) (by kernel_rfl) (by kernel_rfl) (by rfl) ?_ hS rfl ?_
      rotate_left
      · intro w' hw
        go_simp
        try with_reducible rfl
      simp only [Act.put, List.setIfInBounds_toArray, List.set_cons_zero, List.set_cons_succ]
      refine hs_take (i := 2) (d := some 15) (v := .agg u.toArray) rfl (by kernel_rfl) (by kernel_rfl) (by kernel_rfl) (by rfl) (fun w' hw => exec_load rfl rfl (run_loadVar_mid (P := Tryd.prog) w' w.heap.size 1 35 u _ (kr w' hw) Tryd.underlying35 rfl hiu)) hS rfl ?_
      simp only [Act.put, List.setIfInBounds_toArray, List.set_cons_zero, List.set_cons_succ]
      refine hs_call (i := 3) (d := some 16) rfl (by kernel_rfl) (by rfl) (by go_simp; first | done | exact ⟨rfl, rfl⟩ | with_reducible rfl) rfl ?_
      refine (cAdd w8 (ku w8 hS)).mono ?_
      rintro e' wA ⟨rfl, hb⟩
      have hS : (Below w8.heap.size w8) wA := hb
      refine ⟨_, rfl, hS, ?_⟩
      simp only [Act.put, List.setIfInBounds_toArray, List.set_cons_zero, List.set_cons_succ]
      refine hs_take (i := 4) (d := some 17) (v := .bool false) rfl (by kernel_rfl) (by kernel_rfl) (by kernel_rfl) (by rfl) (fun w' hw => by go_simp) hS rfl ?_
      simp only [Act.put, List.setIfInBounds_toArray, List.set_cons_zero, List.set_cons_succ]
      refine hs_take (i := 5) (d := some 18) (v := ?_) rfl (by kernel_rfl) (by kernel_rfl) (by kernel_rfl) (by rfl) ?_ hS rfl ?_
      rotate_left
      · intro w' hw
        go_simp
        try with_reducible rfl
      simp only [Act.put, List.setIfInBounds_toArray, List.set_cons_zero, List.set_cons_succ]
      refine hs_take (i := 6) (d := some 19) (v := ?_) rfl (by kernel_rfl) (by kernel_rfl) (by kernel_rfl) (by rfl) ?_ hS rfl ?_
      rotate_left
      · intro w' hw
        go_simp
        try with_reducible rfl
      simp only [Act.put, List.setIfInBounds_toArray, List.set_cons_zero, List.set_cons_succ]
      refine hs_call (i := 7) (d := some 20) rfl (by kernel_rfl) (by rfl) (by go_simp; first | done | exact ⟨rfl, rfl⟩ | with_reducible rfl) rfl ?_
      refine (cClear wA (ku wA hS)).mono ?_
      rintro e' wB ⟨rfl, hx⟩
      have hS : (Below w8.heap.size w8) wB := by rw [hx]; exact hS
      refine ⟨_, rfl, hS, ?_⟩
      simp only [Act.put, List.setIfInBounds_toArray, List.set_cons_zero, List.set_cons_succ]
      obtain rfl := hx.symm
      clear hx
      refine hs_take (i := 8) (d := some 21) (v := .bool false) rfl (by kernel_rfl) (by kernel_rfl) (by kernel_rfl) (by rfl) (fun w' hw => by go_simp) hS rfl ?_
      simp only [Act.put, List.setIfInBounds_toArray, List.set_cons_zero, List.set_cons_succ]
      refine hs_take (i := 9) (d := some 22) (v := .bool false) rfl (by kernel_rfl) (by kernel_rfl) (by kernel_rfl) (by rfl) (fun w' hw => by go_simp) hS rfl ?_
      simp only [Act.put, List.setIfInBounds_toArray, List.set_cons_zero, List.set_cons_succ]
      refine hs_take (i := 10) (d := some 23) (v := ?_) rfl (by kernel_rfl) (by kernel_rfl) (by kernel_rfl) (by rfl) ?_ hS rfl ?_
      rotate_left
      · intro w' hw
        go_simp
        try with_reducible rfl
      simp only [Act.put, List.setIfInBounds_toArray, List.set_cons_zero, List.set_cons_succ]
      refine hs_take (i := 11) (d := some 24) (v := ?_) rfl (by kernel_rfl) (by kernel_rfl) (by kernel_rfl) (by rfl) ?_ hS rfl ?_
      rotate_left
      · intro w' hw
        go_simp
        try with_reducible rfl
      simp only [Act.put, List.setIfInBounds_toArray, List.set_cons_zero, List.set_cons_succ]
      refine hs_take (i := 13) (d := some 26) (v := ?_) rfl (by kernel_rfl) (by kernel_rfl) (by kernel_rfl) (by rfl) ?_ hS rfl ?_
      rotate_left
      · intro w' hw
        go_simp
        try with_reducible rfl
      simp only [Act.put, List.setIfInBounds_toArray, List.set_cons_zero, List.set_cons_succ]
      refine hs_take (i := 14) (d := some 27) (v := ?_) rfl (by kernel_rfl) (by kernel_rfl) (by kernel_rfl) (by rfl) ?_ hS rfl ?_
      rotate_left
      · intro w' hw
        go_simp
        try with_reducible rfl
      simp only [Act.put, List.setIfInBounds_toArray, List.set_cons_zero, List.set_cons_succ]
      refine hs_take (i := 15) (d := some 28) (v := ?_) rfl (by kernel_rfl) (by kernel_rfl) (by kernel_rfl) (by rfl) ?_ hS rfl ?_
      rotate_left
      · intro w' hw
        have hc := x23 w' hw
        go_simp
        try with_reducible rfl
      simp only [Act.put, List.setIfInBounds_toArray, List.set_cons_zero, List.set_cons_succ]
      refine hs_call (i := 12) (d := some 25) rfl (by kernel_rfl) (by rfl) (by go_simp; first | done | exact ⟨rfl, rfl⟩ | with_reducible rfl) rfl ?_
      refine (cLen wA (ku wA hS)).mono ?_
      rintro e' wB ⟨rfl, hx⟩
      have hS : (Below w8.heap.size w8) wB := by rw [hx]; exact hS
      refine ⟨_, rfl, hS, ?_⟩
      simp only [Act.put, List.setIfInBounds_toArray, List.set_cons_zero, List.set_cons_succ]
      obtain rfl := hx.symm
      clear hx
      have hS0 := hS
      refine hs_call (i := 16) (d := some 29) rfl (by kernel_rfl) (by rfl) (by go_simp; first | done | exact ⟨rfl, rfl⟩ | with_reducible rfl) rfl ?_
      refine (cSweep wA (ku wA hS)).mono ?_
      rintro e' wB ⟨rfl, hb⟩
      have hS : (Below w8.heap.size w8) wB := hS0.trans (hb.mono hS0.size)
      refine ⟨_, rfl, hS, ?_⟩
      simp only [Act.put, List.setIfInBounds_toArray, List.set_cons_zero, List.set_cons_succ]
      clear hb
      refine hs_take (i := 17) (d := some 30) (v := .int .i64 0) rfl (by kernel_rfl) (by kernel_rfl) (by kernel_rfl) (by rfl) (fun w' hw => by go_simp; rfl) hS rfl ?_
      simp only [Act.put, List.setIfInBounds_toArray, List.set_cons_zero, List.set_cons_succ]
      refine hs_take (i := 18) (d := some 31) (v := .bool false) rfl (by kernel_rfl) (by kernel_rfl) (by kernel_rfl) (by rfl) (fun w' hw => by go_simp) hS rfl ?_
      simp only [Act.put, List.setIfInBounds_toArray, List.set_cons_zero, List.set_cons_succ]
      refine hs_take (i := 19) (d := some 32) (v := .bool false) rfl (by kernel_rfl) (by kernel_rfl) (by kernel_rfl) (by rfl) (fun w' hw => by go_simp) hS rfl ?_
      simp only [Act.put, List.setIfInBounds_toArray, List.set_cons_zero, List.set_cons_succ]
      refine hs_take (i := 20) (d := some 33) (v := ?_) rfl (by kernel_rfl) (by kernel_rfl) (by kernel_rfl) (by rfl) ?_ hS rfl ?_
      rotate_left
      · intro w' hw
        go_simp
        try with_reducible rfl
      simp only [Act.put, List.setIfInBounds_toArray, List.set_cons_zero, List.set_cons_succ]
      refine hs_take (i := 21) (d := some 34) (v := ?_) rfl (by kernel_rfl) (by kernel_rfl) (by kernel_rfl) (by rfl) ?_ hS rfl ?_
      rotate_left
      · intro w' hw
        go_simp
        try with_reducible rfl
      simp only [Act.put, List.setIfInBounds_toArray, List.set_cons_zero, List.set_cons_succ]
      refine hs_take (i := 22) (d := some 35) (v := ?_) rfl (by kernel_rfl) (by kernel_rfl) (by kernel_rfl) (by rfl) ?_ hS rfl ?_
      rotate_left
      · intro w' hw
        go_simp
        try with_reducible rfl
      simp only [Act.put, List.setIfInBounds_toArray, List.set_cons_zero, List.set_cons_succ]
      refine hs_take (i := 23) (d := some 36) (v := ?_) rfl (by kernel_rfl) (by kernel_rfl) (by kernel_rfl) (by rfl) ?_ hS rfl ?_
      rotate_left
      · intro w' hw
        go_simp
        try with_reducible rfl
      simp only [Act.put, List.setIfInBounds_toArray, List.set_cons_zero, List.set_cons_succ]
      refine hs_take (i := 24) (d := some 37) (v := ?_) rfl (by kernel_rfl) (by kernel_rfl) (by kernel_rfl) (by rfl) ?_ hS rfl ?_
      rotate_left
      · intro w' hw
        have hc := x1 w' hw
        go_simp
        try with_reducible rfl
      simp only [Act.put, List.setIfInBounds_toArray, List.set_cons_zero, List.set_cons_succ]
      refine hs_take (i := 25) (d := some 38) (v := ?_) rfl (by kernel_rfl) (by kernel_rfl) (by kernel_rfl) (by rfl) ?_ hS rfl ?_
      rotate_left
      · intro w' hw
        go_simp
        try with_reducible rfl
      simp only [Act.put, List.setIfInBounds_toArray, List.set_cons_zero, List.set_cons_succ]
      refine hs_take (i := 26) (d := some 39) (v := ?_) rfl (by kernel_rfl) (by kernel_rfl) (by kernel_rfl) (by rfl) ?_ hS rfl ?_
      rotate_left
      · intro w' hw
        go_simp
        try with_reducible rfl
      simp only [Act.put, List.setIfInBounds_toArray, List.set_cons_zero, List.set_cons_succ]
      refine hs_take (i := 27) (d := some 40) (v := ?_) rfl (by kernel_rfl) (by kernel_rfl) (by kernel_rfl) (by rfl) ?_ hS rfl ?_
      rotate_left
      · intro w' hw
        have hc := x2 w' hw
        go_simp
        try with_reducible rfl
      simp only [Act.put, List.setIfInBounds_toArray, List.set_cons_zero, List.set_cons_succ]
      refine hs_call (i := 28) (d := some 41) rfl (by kernel_rfl) (by rfl) (by go_simp; first | done | exact ⟨rfl, rfl⟩ | with_reducible rfl) rfl ?_
      refine (cHas wB (ku wB hS)).mono ?_
      rintro e' wC ⟨rfl, hx⟩
      have hS : (Below w8.heap.size w8) wC := by rw [hx]; exact hS
      refine ⟨_, rfl, hS, ?_⟩
      simp only [Act.put, List.setIfInBounds_toArray, List.set_cons_zero, List.set_cons_succ]
      obtain rfl := hx.symm
      clear hx
      refine hs_take (i := 29) (d := some 42) (v := .bool false) rfl (by kernel_rfl) (by kernel_rfl) (by kernel_rfl) (by rfl) (fun w' hw => by go_simp) hS rfl ?_
      simp only [Act.put, List.setIfInBounds_toArray, List.set_cons_zero, List.set_cons_succ]
      refine hs_take (i := 30) (d := some 43) (v := ?_) rfl (by kernel_rfl) (by kernel_rfl) (by kernel_rfl) (by rfl) ?_ hS rfl ?_
      rotate_left
      · intro w' hw
        go_simp
        try with_reducible rfl
      simp only [Act.put, List.setIfInBounds_toArray, List.set_cons_zero, List.set_cons_succ]
      refine hs_take (i := 31) (d := some 44) (v := ?_) rfl (by kernel_rfl) (by kernel_rfl) (by kernel_rfl) (by rfl) ?_ hS rfl ?_
      rotate_left
      · intro w' hw
        go_simp
        try with_reducible rfl
      simp only [Act.put, List.setIfInBounds_toArray, List.set_cons_zero, List.set_cons_succ]
      refine hs_take (i := 32) (d := some 45) (v := ?_) rfl (by kernel_rfl) (by kernel_rfl) (by kernel_rfl) (by rfl) ?_ hS rfl ?_
      rotate_left
      · intro w' hw
        go_simp
        try with_reducible rfl
      simp only [Act.put, List.setIfInBounds_toArray, List.set_cons_zero, List.set_cons_succ]
      refine hs_take (i := 33) (d := some 46) (v := ?_) rfl (by kernel_rfl) (by kernel_rfl) (by kernel_rfl) (by rfl) ?_ hS rfl ?_
      rotate_left
      · intro w' hw
        have hc := x21 w' hw
        go_simp
        try with_reducible rfl
      simp only [Act.put, List.setIfInBounds_toArray, List.set_cons_zero, List.set_cons_succ]
      refine hs_take (i := 36) (d := some 49) (v := ?_) rfl (by kernel_rfl) (by kernel_rfl) (by kernel_rfl) (by rfl) ?_ hS rfl ?_
      rotate_left
      · intro w' hw
        go_simp
        try with_reducible rfl
      simp only [Act.put, List.setIfInBounds_toArray, List.set_cons_zero, List.set_cons_succ]
      refine hs_take (i := 37) (d := some 50) (v := ?_) rfl (by kernel_rfl) (by kernel_rfl) (by kernel_rfl) (by rfl) ?_ hS rfl ?_
      rotate_left
      · intro w' hw
        go_simp
        try with_reducible rfl
      simp only [Act.put, List.setIfInBounds_toArray, List.set_cons_zero, List.set_cons_succ]
      refine hs_take (i := 38) (d := some 51) (v := ?_) rfl (by kernel_rfl) (by kernel_rfl) (by kernel_rfl) (by rfl) ?_ hS rfl ?_
      rotate_left
      · intro w' hw
        have hc := x20 w' hw
        go_simp
        try with_reducible rfl
      simp only [Act.put, List.setIfInBounds_toArray, List.set_cons_zero, List.set_cons_succ]
      refine hs_take (i := 39) (d := some 52) (v := ?_) rfl (by kernel_rfl) (by kernel_rfl) (by kernel_rfl) (by rfl) ?_ hS rfl ?_
      rotate_left
      · intro w' hw
        go_simp
        try with_reducible rfl
      simp only [Act.put, List.setIfInBounds_toArray, List.set_cons_zero, List.set_cons_succ]
      refine hs_take (i := 40) (d := some 53) (v := ?_) rfl (by kernel_rfl) (by kernel_rfl) (by kernel_rfl) (by rfl) ?_ hS rfl ?_
      rotate_left
      · intro w' hw
        have hc := x21 w' hw
        go_simp
        try with_reducible rfl
      simp only [Act.put, List.setIfInBounds_toArray, List.set_cons_zero, List.set_cons_succ]
      refine hs_call (i := 34) (d := some 47) rfl (by kernel_rfl) (by rfl) (by go_simp; first | done | exact ⟨rfl, rfl⟩ | with_reducible rfl) rfl ?_
      refine (cIn wB (ku wB hS)).mono ?_
      rintro e' wC ⟨rfl, hx⟩
      have hS : (Below w8.heap.size w8) wC := by rw [hx]; exact hS
      refine ⟨_, rfl, hS, ?_⟩
      simp only [Act.put, List.setIfInBounds_toArray, List.set_cons_zero, List.set_cons_succ]
      obtain rfl := hx.symm
      clear hx
      refine hs_take (i := 35) (d := some 48) (v := ?_) rfl (by kernel_rfl) (by kernel_rfl) (by kernel_rfl) (by rfl) ?_ hS rfl ?_
      rotate_left
      · intro w' hw
        go_simp
        try with_reducible rfl
      simp only [Act.put, List.setIfInBounds_toArray, List.set_cons_zero, List.set_cons_succ]
      refine hs_call (i := 41) (d := some 54) rfl (by kernel_rfl) (by rfl) (by go_simp; first | done | exact ⟨rfl, rfl⟩ | with_reducible rfl) rfl ?_
      refine (cPick wB (ku wB hS)).mono ?_
      rintro e' wC ⟨rfl, hx⟩
      have hS : (Below w8.heap.size w8) wC := by rw [hx]; exact hS
      refine ⟨_, rfl, hS, ?_⟩
      simp only [Act.put, List.setIfInBounds_toArray, List.set_cons_zero, List.set_cons_succ]
      obtain rfl := hx.symm
      clear hx
      refine hs_take (i := 42) (d := some 55) (v := ?_) rfl (by kernel_rfl) (by kernel_rfl) (by kernel_rfl) (by rfl) ?_ hS rfl ?_
      rotate_left
      · intro w' hw
        go_simp
        try with_reducible rfl
      simp only [Act.put, List.setIfInBounds_toArray, List.set_cons_zero, List.set_cons_succ]
      refine hs_take (i := 43) (d := some 56) (v := .int .i64 0) rfl (by kernel_rfl) (by kernel_rfl) (by kernel_rfl) (by rfl) (fun w' hw => by go_simp; rfl) hS rfl ?_
      simp only [Act.put, List.setIfInBounds_toArray, List.set_cons_zero, List.set_cons_succ]
      refine hs_take (i := 44) (d := some 57) (v := .bool false) rfl (by kernel_rfl) (by kernel_rfl) (by kernel_rfl) (by rfl) (fun w' hw => by go_simp) hS rfl ?_
      simp only [Act.put, List.setIfInBounds_toArray, List.set_cons_zero, List.set_cons_succ]
      refine hs_take (i := 45) (d := some 58) (v := .bool false) rfl (by kernel_rfl) (by kernel_rfl) (by kernel_rfl) (by rfl) (fun w' hw => by go_simp) hS rfl ?_
      simp only [Act.put, List.setIfInBounds_toArray, List.set_cons_zero, List.set_cons_succ]
      refine hs_done (by kernel_rfl) ?_
      have hBA := hB8.trans (hS.mono hB8.size)
      go_wp2_with fail
      go_roundw
      case rel => exact ⟨k + 1, by omega, by go_num, hBA⟩
      case measure => simp [intOf]; omega
    · have k1 : ¬ (k : Int) < 2 := by omega
      have hBr := hB2.trans (hB.mono hB2.size)
      have cL := cL wr (hG.below hBr)
      go_wp2_with fail
      refine cL.mono ?_
      rintro e w9 ⟨rfl, hb9⟩
      clear cL
      go_wp2_with fail
      go_ret
      exact ⟨rfl, hBr.trans (hb9.mono hBr.size)⟩
end Go.Proofs.YtbfcbjjhdadicaaDoor
