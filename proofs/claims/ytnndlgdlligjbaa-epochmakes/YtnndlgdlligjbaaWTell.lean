/- the walk of LeadersTell -/
import Derived.Test.YtnndlgdlligjbaaWBack
namespace Go.Proofs.Ytnndlgdlligjbaa
open Go.RowKit Go.Shelf Go.Deep
theorem listL_len (c : Cfg) (x : Int) (zs : List Int) : (listL c x zs).length ≤ 100000 := by
  cases hm : mayC c x
  · rw [listL_no hm]; simp
  · obtain ⟨_, N, B, E, ok, _⟩ := mayC_ok hm
    rw [listL_yes hm ok.n]
    have := listN_le N x zs
    have := ok.n64
    omega
theorem bucketsL_len (c : Cfg) (x y : Int) (zs : List Int) : (bucketsL c x zs y).length ≤ 100000 := by
  cases hm : mayC c x
  · rw [bucketsL_no hm]; simp
  · obtain ⟨_, N, B, E, ok, rfl, _⟩ := mayC_ok hm
    by_cases h : 0 ≤ y ∧ y < c.n ∧ y ∈ zs
    · obtain ⟨Y, rfl⟩ := Int.eq_ofNat_of_zero_le h.1
      rw [bucketsL_yes hm ok.n ok.b (by have := ok.n; omega) h.2.2]
      have := buckets_len N B E Y zs
      have := ok.n64
      have := ok.bn
      omega
    · rw [bucketsL_out h]; simp
theorem penalL_len (c : Cfg) (x : Int) (zs bad : List Int) : (penalL c x zs bad).length ≤ 100000 := by
  cases hm : mayC c x
  · rw [penalL_no hm]; simp
  · obtain ⟨_, N, B, E, ok, _⟩ := mayC_ok hm
    rw [penalL_yes hm ok.n, penalN_len]
    have := ok.n64
    omega
set_option maxRecDepth 100000 in
set_option maxHeartbeats 16000000 in
theorem tell_walk (c : Cfg) (x : Int) (a : Option Addr) (cap : Nat) (zs : List Int) (a2 : Option Addr) (cap2 : Nat) (ls : List Int) (z : Int) (w : World) (hr : RowI w a zs) (hr2 : RowI w a2 ls) :
    Calls Try.prog 3 #[(.agg #[.int .i64 c.n, .int .i64 c.cl, .int .i64 c.wi, .int .i64 c.bu, .int .i64 c.ca, .int .i64 c.sl, .int .i64 c.rq, .int .i64 c.ti, .int .i64 c.pe, .int .i64 c.la]), .int .i64 x, .slice a zs.length cap, .slice a2 ls.length cap2, .int .i64 z] w fun e w' => e = .returned (.bool true) ∧ Below w.heap.size w w' := by
  obtain ⟨i0, hi, hz0, hz1, hz2⟩ := info_parts info3
  have hB1 : Below w.heap.size w (w.alloc (.cells #[.int .i64 c.n, .int .i64 c.cl, .int .i64 c.wi, .int .i64 c.bu, .int .i64 c.ca, .int .i64 c.sl, .int .i64 c.rq, .int .i64 c.ti, .int .i64 c.pe, .int .i64 c.la] 23)) := (Below.refl _ w).alloc (Nat.le_refl _) _
  have k0 := CfgAt.new w c
  have fin : ∀ {W W' : World}, Below w.heap.size w W → Below W.heap.size W W' → Below w.heap.size w W' := fun h k => h.trans (k.mono h.size)
  by_cases hl : 200 < zs.length
  · have hl' : (200 : Int) < (zs.length : Int) := by omega
    clear hr k0
    go_enter Try.func3, Try.ntmps3
    go_wp2_with fail
    refine (lives11_any _).mono ?_
    rintro e w9 ⟨rfl, hb9⟩
    go_wp2_with fail
    go_ret
    exact ⟨rfl, fin hB1 hb9⟩
  by_cases hl2 : 200 < ls.length
  · have hl' : ¬ (200 : Int) < (zs.length : Int) := by omega
    have hl2' : (200 : Int) < (ls.length : Int) := by omega
    clear hr k0
    go_enter Try.func3, Try.ntmps3
    go_wp2_with fail
    refine (lives11_any _).mono ?_
    rintro e w9 ⟨rfl, hb9⟩
    go_wp2_with fail
    go_ret
    exact ⟨rfl, fin hB1 hb9⟩
  have hl' : ¬ (200 : Int) < (zs.length : Int) := by omega
  have hl2' : ¬ (200 : Int) < (ls.length : Int) := by omega
  go_enter Try.func3, Try.ntmps3
  obtain ⟨w1, hw1⟩ : ∃ w1, w.alloc (.cells #[.int .i64 c.n, .int .i64 c.cl, .int .i64 c.wi, .int .i64 c.bu, .int .i64 c.ca, .int .i64 c.sl, .int .i64 c.rq, .int .i64 c.ti, .int .i64 c.pe, .int .i64 c.la] 23) = w1 := ⟨_, rfl⟩
  have hs1 : w1.heap.size = w.heap.size + 1 := by rw [← hw1]; simp
  rw [hw1] at hB1 k0
  have b2 : Below w1.heap.size w1 (w1.alloc (.cells #[] 3)) := (Below.refl _ _).alloc (Nat.le_refl _) _
  have own2 := World.ownsRow_made w1 (e := 3) (size := 1) #[] 0 (Nat.le_refl _) (by simp) (by simp)
  have hp1 := (hr.below (fin hB1 b2)).src cap
  clear hs1
  go_wp2_with (at_builtin; refine wpList_append_own_src _ rfl _ _ 24 24 rfl w1.heap.size 3 i0 (.int .i64 0) 1 8 Try.underlying24 hi hz0 hz1 hz2 rfl _ 0 [] rfl own2 (.slice a zs.length cap) zs.length (zs.map (Value.int .i64)) rfl hp1 ?c1 ?c2 b2.size ?_)
  case c1 => unfold maxLen; omega
  case c2 => omega
  intro v2 w2 hown2 hgr2
  have hb2 : Below w1.heap.size w1 w2 := b2.grown hgr2 (by simp) (fun j hj => (own2.lt j hj).1)
  have hown2 : w2.ownsRow w1.heap.size 3 1 v2 zs.length (zs.map (Value.int .i64)) := by simpa using hown2
  obtain ⟨ap, pcap, rfl, hp2⟩ := own_rowI hown2 (by unfold maxLen; omega)
  have hB2 := fin hB1 hb2
  have k2 := k0.below hb2
  have b3 : Below w2.heap.size w2 (w2.alloc (.cells #[] 3)) := (Below.refl _ _).alloc (Nat.le_refl _) _
  have own3 := World.ownsRow_made w2 (e := 3) (size := 1) #[] 0 (Nat.le_refl _) (by simp) (by simp)
  have hq1 := (hr2.below (fin hB2 b3)).src cap2
  clear own2 hp1 hgr2 b2 hown2
  go_wp2_with (at_builtin; refine wpList_append_own_src _ rfl _ _ 24 24 rfl w2.heap.size 3 i0 (.int .i64 0) 1 8 Try.underlying24 hi hz0 hz1 hz2 rfl _ 0 [] rfl own3 (.slice a2 ls.length cap2) ls.length (ls.map (Value.int .i64)) rfl hq1 ?c4 ?c5 b3.size ?_)
  case c4 => unfold maxLen; omega
  case c5 => omega
  intro v3 w3 hown3 hgr3
  have hb3 : Below w2.heap.size w2 w3 := b3.grown hgr3 (by simp) (fun j hj => (own3.lt j hj).1)
  have hown3 : w3.ownsRow w2.heap.size 3 1 v3 ls.length (ls.map (Value.int .i64)) := by simpa using hown3
  obtain ⟨aq, qcap, rfl, hq3⟩ := own_rowI hown3 (by unfold maxLen; omega)
  have hB3 := fin hB2 hb3
  have k3 := k2.below hb3
  have hp3 := hp2.below hb3
  clear own3 hq1 hgr3 b3 hown3 hb3 hp2 k2 hB2 hb2 k0 hB1 hw1
  go_wp2_with fail
  have cG := fun w => lgood_any c w
  have cGr := fun w => rlgood_any c w
  have cL := fun w h => list_any c x ap pcap zs w h
  have cLr := fun w h => rlist_any c x a cap zs w h
  have cO := fun w h => lOwner_any c x aq qcap ls z w h (by omega)
  have cOr := fun w h => rowner_any c x a2 cap2 ls z w h (by omega)
  have cB := fun w h => buckets_any c x aq qcap ls z w h (by omega)
  have cBr := fun w h => rbuckets_any c x a2 cap2 ls z w h (by omega)
  have cP := fun w h h' => penalize_any c x ap pcap zs aq qcap ls w h h' (by omega)
  have cPr := fun w h h' => rpenalize_any c x a cap zs a2 cap2 ls w h h' (by omega)
  have hLl := listL_len c x zs
  have hBl := bucketsL_len c x z ls
  have hPl := penalL_len c x zs ls
  generalize listL c x zs = L1 at *
  generalize bucketsL c x ls z = L2 at *
  generalize penalL c x zs ls = L3 at *
  generalize ownerI c x ls z = ow at *
  generalize errC c = er at *
  obtain ⟨w8, hw8⟩ : ∃ w8, w3.drew = w8 := ⟨_, rfl⟩
  refine hs_begin (S := (Below w8.heap.size w8)) 56 rfl (by kernel_rfl) ?_
  have k8 : CfgAt w8 w.heap.size c := by rw [← hw8]; exact k3
  have hB8 : Below w.heap.size w w8 := by rw [← hw8]; exact hB3.drew
  have hp8 : RowI w8 ap zs := by rw [← hw8]; exact hp3
  have hq8 : RowI w8 aq ls := by rw [← hw8]; exact hq3
  have hz8 : RowI w8 a zs := hr.below hB8
  have hy8 : RowI w8 a2 ls := hr2.below hB8
  rw [hw8]
  clear hw8 k3 hB3 hp3 hq3 hl' hl2'
  have hS : (Below w8.heap.size w8) w8 := Below.refl _ _
  refine hs_take (i := 0) (d := some 29) (v := .agg #[.int .i64 c.n, .int .i64 c.cl, .int .i64 c.wi, .int .i64 c.bu, .int .i64 c.ca, .int .i64 c.sl, .int .i64 c.rq, .int .i64 c.ti, .int .i64 c.pe, .int .i64 c.la]) rfl (by kernel_rfl) (by kernel_rfl) (by kernel_rfl) (by rfl) (fun w' hw => exec_load rfl rfl (k8.below hw).load) hS rfl ?_
  simp only [Act.put, List.setIfInBounds_toArray, List.set_cons_zero, List.set_cons_succ]
  refine hs_take (i := 2) (d := some 31) (v := .agg #[.int .i64 c.n, .int .i64 c.cl, .int .i64 c.wi, .int .i64 c.bu, .int .i64 c.ca, .int .i64 c.sl, .int .i64 c.rq, .int .i64 c.ti, .int .i64 c.pe, .int .i64 c.la]) rfl (by kernel_rfl) (by kernel_rfl) (by kernel_rfl) (by rfl) (fun w' hw => exec_load rfl rfl (k8.below hw).load) hS rfl ?_
  simp only [Act.put, List.setIfInBounds_toArray, List.set_cons_zero, List.set_cons_succ]
  refine hs_call (i := 1) (d := some 30) rfl (by kernel_rfl) (by rfl) (by go_simp; first | done | exact ⟨rfl, rfl⟩ | with_reducible rfl) rfl ?_
  refine (cG w8).mono ?_
  rintro e' w9 ⟨rfl, hw9⟩
  have hS : (Below w8.heap.size w8) w9 := hS.trans (hw9.mono hS.size)
  refine ⟨_, rfl, hS, ?_⟩
  simp only [Act.put, List.setIfInBounds_toArray, List.set_cons_zero, List.set_cons_succ]
  refine hs_call (i := 3) (d := some 32) rfl (by kernel_rfl) (by rfl) (by go_simp; first | done | exact ⟨rfl, rfl⟩ | with_reducible rfl) rfl ?_
  refine (cGr w9).mono ?_
  rintro e' w10 ⟨rfl, hw10⟩
  have hS : (Below w8.heap.size w8) w10 := hS.trans (hw10.mono hS.size)
  refine ⟨_, rfl, hS, ?_⟩
  simp only [Act.put, List.setIfInBounds_toArray, List.set_cons_zero, List.set_cons_succ]
  refine hs_take (i := 4) (d := some 33) (v := .bool true) rfl (by kernel_rfl) (by kernel_rfl) (by kernel_rfl) (by rfl) (fun w' hw => by go_simp) hS rfl ?_
  simp only [Act.put, List.setIfInBounds_toArray, List.set_cons_zero, List.set_cons_succ]
  refine hs_take (i := 5) (d := some 34) (v := ?_) rfl (by kernel_rfl) (by kernel_rfl) (by kernel_rfl) (by rfl) ?_ hS rfl ?_
  rotate_left
  · intro w' hw
    go_simp
    try with_reducible rfl
  simp only [Act.put, List.setIfInBounds_toArray, List.set_cons_zero, List.set_cons_succ]
  refine hs_take (i := 6) (d := some 35) (v := .agg #[.int .i64 c.n, .int .i64 c.cl, .int .i64 c.wi, .int .i64 c.bu, .int .i64 c.ca, .int .i64 c.sl, .int .i64 c.rq, .int .i64 c.ti, .int .i64 c.pe, .int .i64 c.la]) rfl (by kernel_rfl) (by kernel_rfl) (by kernel_rfl) (by rfl) (fun w' hw => exec_load rfl rfl (k8.below hw).load) hS rfl ?_
  simp only [Act.put, List.setIfInBounds_toArray, List.set_cons_zero, List.set_cons_succ]
  refine hs_take (i := 7) (d := some 36) (v := ?_) rfl (by kernel_rfl) (by kernel_rfl) (by kernel_rfl) (by rfl) ?_ hS rfl ?_
  rotate_left
  · intro w' hw
    go_simp
    try with_reducible rfl
  simp only [Act.put, List.setIfInBounds_toArray, List.set_cons_zero, List.set_cons_succ]
  refine hs_take (i := 8) (d := some 37) (v := ?_) rfl (by kernel_rfl) (by kernel_rfl) (by kernel_rfl) (by rfl) ?_ hS rfl ?_
  rotate_left
  · intro w' hw
    go_simp
    try with_reducible rfl
  simp only [Act.put, List.setIfInBounds_toArray, List.set_cons_zero, List.set_cons_succ]
  refine hs_take (i := 10) (d := some 39) (v := .agg #[.int .i64 c.n, .int .i64 c.cl, .int .i64 c.wi, .int .i64 c.bu, .int .i64 c.ca, .int .i64 c.sl, .int .i64 c.rq, .int .i64 c.ti, .int .i64 c.pe, .int .i64 c.la]) rfl (by kernel_rfl) (by kernel_rfl) (by kernel_rfl) (by rfl) (fun w' hw => exec_load rfl rfl (k8.below hw).load) hS rfl ?_
  simp only [Act.put, List.setIfInBounds_toArray, List.set_cons_zero, List.set_cons_succ]
  refine hs_take (i := 11) (d := some 40) (v := ?_) rfl (by kernel_rfl) (by kernel_rfl) (by kernel_rfl) (by rfl) ?_ hS rfl ?_
  rotate_left
  · intro w' hw
    go_simp
    try with_reducible rfl
  simp only [Act.put, List.setIfInBounds_toArray, List.set_cons_zero, List.set_cons_succ]
  refine hs_take (i := 12) (d := some 41) (v := ?_) rfl (by kernel_rfl) (by kernel_rfl) (by kernel_rfl) (by rfl) ?_ hS rfl ?_
  rotate_left
  · intro w' hw
    go_simp
    try with_reducible rfl
  simp only [Act.put, List.setIfInBounds_toArray, List.set_cons_zero, List.set_cons_succ]
  refine hs_call (i := 9) (d := some 38) rfl (by kernel_rfl) (by rfl) (by go_simp; first | done | exact ⟨rfl, rfl⟩ | with_reducible rfl) rfl ?_
  refine (cL w10 (hp8.below hS)).mono ?_
  rintro e' w11 ⟨v1, rfl, hrow1, hw11⟩
  have hS : (Below w8.heap.size w8) w11 := hS.trans (hw11.mono hS.size)
  refine ⟨_, rfl, hS, ?_⟩
  simp only [Act.put, List.setIfInBounds_toArray, List.set_cons_zero, List.set_cons_succ]
  obtain ⟨a1, cap1, rfl, hr1⟩ := own_set hrow1 hLl
  refine hs_call (i := 13) (d := some 42) rfl (by kernel_rfl) (by rfl) (by go_simp; first | done | exact ⟨rfl, rfl⟩ | with_reducible rfl) rfl ?_
  refine (cLr w11 (hz8.below hS)).mono ?_
  rintro e' w12 ⟨v2, rfl, hrow2, hw12⟩
  have hS : (Below w8.heap.size w8) w12 := hS.trans (hw12.mono hS.size)
  refine ⟨_, rfl, hS, ?_⟩
  simp only [Act.put, List.setIfInBounds_toArray, List.set_cons_zero, List.set_cons_succ]
  obtain ⟨ax, capx, rfl, hrx⟩ := own_set hrow2 hLl
  have ci := ints_same a1 ax cap1 capx (ints L1) w12 (hr1.below hw12) hrx (by rw [ints_length]; exact hLl)
  rw [ints_length] at ci
  clear hrow1 hrow2 hr1 hrx
  refine hs_call (i := 14) (d := some 43) rfl (by kernel_rfl) (by rfl) (by go_simp; first | done | exact ⟨rfl, rfl⟩ | with_reducible rfl) rfl ?_
  refine (ci).mono ?_
  rintro e' w13 ⟨rfl, hw13⟩
  have hS : (Below w8.heap.size w8) w13 := hS.trans (hw13.mono hS.size)
  refine ⟨_, rfl, hS, ?_⟩
  simp only [Act.put, List.setIfInBounds_toArray, List.set_cons_zero, List.set_cons_succ]
  clear ci
  refine hs_take (i := 15) (d := some 44) (v := .bool true) rfl (by kernel_rfl) (by kernel_rfl) (by kernel_rfl) (by rfl) (fun w' hw => by go_simp) hS rfl ?_
  simp only [Act.put, List.setIfInBounds_toArray, List.set_cons_zero, List.set_cons_succ]
  refine hs_take (i := 16) (d := some 45) (v := ?_) rfl (by kernel_rfl) (by kernel_rfl) (by kernel_rfl) (by rfl) ?_ hS rfl ?_
  rotate_left
  · intro w' hw
    go_simp
    try with_reducible rfl
  simp only [Act.put, List.setIfInBounds_toArray, List.set_cons_zero, List.set_cons_succ]
  refine hs_take (i := 17) (d := some 46) (v := .agg #[.int .i64 c.n, .int .i64 c.cl, .int .i64 c.wi, .int .i64 c.bu, .int .i64 c.ca, .int .i64 c.sl, .int .i64 c.rq, .int .i64 c.ti, .int .i64 c.pe, .int .i64 c.la]) rfl (by kernel_rfl) (by kernel_rfl) (by kernel_rfl) (by rfl) (fun w' hw => exec_load rfl rfl (k8.below hw).load) hS rfl ?_
  simp only [Act.put, List.setIfInBounds_toArray, List.set_cons_zero, List.set_cons_succ]
  refine hs_take (i := 18) (d := some 47) (v := ?_) rfl (by kernel_rfl) (by kernel_rfl) (by kernel_rfl) (by rfl) ?_ hS rfl ?_
  rotate_left
  · intro w' hw
    go_simp
    try with_reducible rfl
  simp only [Act.put, List.setIfInBounds_toArray, List.set_cons_zero, List.set_cons_succ]
  refine hs_take (i := 19) (d := some 48) (v := ?_) rfl (by kernel_rfl) (by kernel_rfl) (by kernel_rfl) (by rfl) ?_ hS rfl ?_
  rotate_left
  · intro w' hw
    go_simp
    try with_reducible rfl
  simp only [Act.put, List.setIfInBounds_toArray, List.set_cons_zero, List.set_cons_succ]
  refine hs_take (i := 20) (d := some 49) (v := ?_) rfl (by kernel_rfl) (by kernel_rfl) (by kernel_rfl) (by rfl) ?_ hS rfl ?_
  rotate_left
  · intro w' hw
    go_simp
    try with_reducible rfl
  simp only [Act.put, List.setIfInBounds_toArray, List.set_cons_zero, List.set_cons_succ]
  refine hs_take (i := 22) (d := some 51) (v := .agg #[.int .i64 c.n, .int .i64 c.cl, .int .i64 c.wi, .int .i64 c.bu, .int .i64 c.ca, .int .i64 c.sl, .int .i64 c.rq, .int .i64 c.ti, .int .i64 c.pe, .int .i64 c.la]) rfl (by kernel_rfl) (by kernel_rfl) (by kernel_rfl) (by rfl) (fun w' hw => exec_load rfl rfl (k8.below hw).load) hS rfl ?_
  simp only [Act.put, List.setIfInBounds_toArray, List.set_cons_zero, List.set_cons_succ]
  refine hs_take (i := 23) (d := some 52) (v := ?_) rfl (by kernel_rfl) (by kernel_rfl) (by kernel_rfl) (by rfl) ?_ hS rfl ?_
  rotate_left
  · intro w' hw
    go_simp
    try with_reducible rfl
  simp only [Act.put, List.setIfInBounds_toArray, List.set_cons_zero, List.set_cons_succ]
  refine hs_take (i := 24) (d := some 53) (v := ?_) rfl (by kernel_rfl) (by kernel_rfl) (by kernel_rfl) (by rfl) ?_ hS rfl ?_
  rotate_left
  · intro w' hw
    go_simp
    try with_reducible rfl
  simp only [Act.put, List.setIfInBounds_toArray, List.set_cons_zero, List.set_cons_succ]
  refine hs_take (i := 25) (d := some 54) (v := ?_) rfl (by kernel_rfl) (by kernel_rfl) (by kernel_rfl) (by rfl) ?_ hS rfl ?_
  rotate_left
  · intro w' hw
    go_simp
    try with_reducible rfl
  simp only [Act.put, List.setIfInBounds_toArray, List.set_cons_zero, List.set_cons_succ]
  refine hs_call (i := 21) (d := some 50) rfl (by kernel_rfl) (by rfl) (by go_simp; first | done | exact ⟨rfl, rfl⟩ | with_reducible rfl) rfl ?_
  refine (cO w13 (hq8.below hS)).mono ?_
  rintro e' w14 ⟨rfl, hw14⟩
  have hS : (Below w8.heap.size w8) w14 := hS.trans (hw14.mono hS.size)
  refine ⟨_, rfl, hS, ?_⟩
  simp only [Act.put, List.setIfInBounds_toArray, List.set_cons_zero, List.set_cons_succ]
  refine hs_call (i := 26) (d := some 55) rfl (by kernel_rfl) (by rfl) (by go_simp; first | done | exact ⟨rfl, rfl⟩ | with_reducible rfl) rfl ?_
  refine (cOr w14 (hy8.below hS)).mono ?_
  rintro e' w15 ⟨rfl, hw15⟩
  have hS : (Below w8.heap.size w8) w15 := hS.trans (hw15.mono hS.size)
  refine ⟨_, rfl, hS, ?_⟩
  simp only [Act.put, List.setIfInBounds_toArray, List.set_cons_zero, List.set_cons_succ]
  refine hs_take (i := 27) (d := some 56) (v := .bool true) rfl (by kernel_rfl) (by kernel_rfl) (by kernel_rfl) (by rfl) (fun w' hw => by go_simp) hS rfl ?_
  simp only [Act.put, List.setIfInBounds_toArray, List.set_cons_zero, List.set_cons_succ]
  refine hs_take (i := 28) (d := some 57) (v := .bool true) rfl (by kernel_rfl) (by kernel_rfl) (by kernel_rfl) (by rfl) (fun w' hw => by go_simp) hS rfl ?_
  simp only [Act.put, List.setIfInBounds_toArray, List.set_cons_zero, List.set_cons_succ]
  refine hs_take (i := 29) (d := some 58) (v := ?_) rfl (by kernel_rfl) (by kernel_rfl) (by kernel_rfl) (by rfl) ?_ hS rfl ?_
  rotate_left
  · intro w' hw
    go_simp
    try with_reducible rfl
  simp only [Act.put, List.setIfInBounds_toArray, List.set_cons_zero, List.set_cons_succ]
  refine hs_take (i := 30) (d := some 59) (v := .agg #[.int .i64 c.n, .int .i64 c.cl, .int .i64 c.wi, .int .i64 c.bu, .int .i64 c.ca, .int .i64 c.sl, .int .i64 c.rq, .int .i64 c.ti, .int .i64 c.pe, .int .i64 c.la]) rfl (by kernel_rfl) (by kernel_rfl) (by kernel_rfl) (by rfl) (fun w' hw => exec_load rfl rfl (k8.below hw).load) hS rfl ?_
  simp only [Act.put, List.setIfInBounds_toArray, List.set_cons_zero, List.set_cons_succ]
  refine hs_take (i := 31) (d := some 60) (v := ?_) rfl (by kernel_rfl) (by kernel_rfl) (by kernel_rfl) (by rfl) ?_ hS rfl ?_
  rotate_left
  · intro w' hw
    go_simp
    try with_reducible rfl
  simp only [Act.put, List.setIfInBounds_toArray, List.set_cons_zero, List.set_cons_succ]
  refine hs_take (i := 32) (d := some 61) (v := ?_) rfl (by kernel_rfl) (by kernel_rfl) (by kernel_rfl) (by rfl) ?_ hS rfl ?_
  rotate_left
  · intro w' hw
    go_simp
    try with_reducible rfl
  simp only [Act.put, List.setIfInBounds_toArray, List.set_cons_zero, List.set_cons_succ]
  refine hs_take (i := 33) (d := some 62) (v := ?_) rfl (by kernel_rfl) (by kernel_rfl) (by kernel_rfl) (by rfl) ?_ hS rfl ?_
  rotate_left
  · intro w' hw
    go_simp
    try with_reducible rfl
  simp only [Act.put, List.setIfInBounds_toArray, List.set_cons_zero, List.set_cons_succ]
  refine hs_take (i := 35) (d := some 64) (v := .agg #[.int .i64 c.n, .int .i64 c.cl, .int .i64 c.wi, .int .i64 c.bu, .int .i64 c.ca, .int .i64 c.sl, .int .i64 c.rq, .int .i64 c.ti, .int .i64 c.pe, .int .i64 c.la]) rfl (by kernel_rfl) (by kernel_rfl) (by kernel_rfl) (by rfl) (fun w' hw => exec_load rfl rfl (k8.below hw).load) hS rfl ?_
  simp only [Act.put, List.setIfInBounds_toArray, List.set_cons_zero, List.set_cons_succ]
  refine hs_take (i := 36) (d := some 65) (v := ?_) rfl (by kernel_rfl) (by kernel_rfl) (by kernel_rfl) (by rfl) ?_ hS rfl ?_
  rotate_left
  · intro w' hw
    go_simp
    try with_reducible rfl
  simp only [Act.put, List.setIfInBounds_toArray, List.set_cons_zero, List.set_cons_succ]
  refine hs_take (i := 37) (d := some 66) (v := ?_) rfl (by kernel_rfl) (by kernel_rfl) (by kernel_rfl) (by rfl) ?_ hS rfl ?_
  rotate_left
  · intro w' hw
    go_simp
    try with_reducible rfl
  simp only [Act.put, List.setIfInBounds_toArray, List.set_cons_zero, List.set_cons_succ]
  refine hs_take (i := 38) (d := some 67) (v := ?_) rfl (by kernel_rfl) (by kernel_rfl) (by kernel_rfl) (by rfl) ?_ hS rfl ?_
  rotate_left
  · intro w' hw
    go_simp
    try with_reducible rfl
  simp only [Act.put, List.setIfInBounds_toArray, List.set_cons_zero, List.set_cons_succ]
  refine hs_call (i := 34) (d := some 63) rfl (by kernel_rfl) (by rfl) (by go_simp; first | done | exact ⟨rfl, rfl⟩ | with_reducible rfl) rfl ?_
  refine (cB w15 (hq8.below hS)).mono ?_
  rintro e' w16 ⟨v1, rfl, hrow1, hw16⟩
  have hS : (Below w8.heap.size w8) w16 := hS.trans (hw16.mono hS.size)
  refine ⟨_, rfl, hS, ?_⟩
  simp only [Act.put, List.setIfInBounds_toArray, List.set_cons_zero, List.set_cons_succ]
  obtain ⟨a1, cap1, rfl, hr1⟩ := own_set hrow1 hBl
  refine hs_call (i := 39) (d := some 68) rfl (by kernel_rfl) (by rfl) (by go_simp; first | done | exact ⟨rfl, rfl⟩ | with_reducible rfl) rfl ?_
  refine (cBr w16 (hy8.below hS)).mono ?_
  rintro e' w17 ⟨v2, rfl, hrow2, hw17⟩
  have hS : (Below w8.heap.size w8) w17 := hS.trans (hw17.mono hS.size)
  refine ⟨_, rfl, hS, ?_⟩
  simp only [Act.put, List.setIfInBounds_toArray, List.set_cons_zero, List.set_cons_succ]
  obtain ⟨ax, capx, rfl, hrx⟩ := own_set hrow2 hBl
  have ci := ints_same a1 ax cap1 capx (ints L2) w17 (hr1.below hw17) hrx (by rw [ints_length]; exact hBl)
  rw [ints_length] at ci
  clear hrow1 hrow2 hr1 hrx
  refine hs_call (i := 40) (d := some 69) rfl (by kernel_rfl) (by rfl) (by go_simp; first | done | exact ⟨rfl, rfl⟩ | with_reducible rfl) rfl ?_
  refine (ci).mono ?_
  rintro e' w18 ⟨rfl, hw18⟩
  have hS : (Below w8.heap.size w8) w18 := hS.trans (hw18.mono hS.size)
  refine ⟨_, rfl, hS, ?_⟩
  simp only [Act.put, List.setIfInBounds_toArray, List.set_cons_zero, List.set_cons_succ]
  clear ci
  refine hs_take (i := 41) (d := some 70) (v := .bool true) rfl (by kernel_rfl) (by kernel_rfl) (by kernel_rfl) (by rfl) (fun w' hw => by go_simp) hS rfl ?_
  simp only [Act.put, List.setIfInBounds_toArray, List.set_cons_zero, List.set_cons_succ]
  refine hs_take (i := 42) (d := some 71) (v := ?_) rfl (by kernel_rfl) (by kernel_rfl) (by kernel_rfl) (by rfl) ?_ hS rfl ?_
  rotate_left
  · intro w' hw
    go_simp
    try with_reducible rfl
  simp only [Act.put, List.setIfInBounds_toArray, List.set_cons_zero, List.set_cons_succ]
  refine hs_take (i := 43) (d := some 72) (v := .agg #[.int .i64 c.n, .int .i64 c.cl, .int .i64 c.wi, .int .i64 c.bu, .int .i64 c.ca, .int .i64 c.sl, .int .i64 c.rq, .int .i64 c.ti, .int .i64 c.pe, .int .i64 c.la]) rfl (by kernel_rfl) (by kernel_rfl) (by kernel_rfl) (by rfl) (fun w' hw => exec_load rfl rfl (k8.below hw).load) hS rfl ?_
  simp only [Act.put, List.setIfInBounds_toArray, List.set_cons_zero, List.set_cons_succ]
  refine hs_take (i := 44) (d := some 73) (v := ?_) rfl (by kernel_rfl) (by kernel_rfl) (by kernel_rfl) (by rfl) ?_ hS rfl ?_
  rotate_left
  · intro w' hw
    go_simp
    try with_reducible rfl
  simp only [Act.put, List.setIfInBounds_toArray, List.set_cons_zero, List.set_cons_succ]
  refine hs_take (i := 45) (d := some 74) (v := ?_) rfl (by kernel_rfl) (by kernel_rfl) (by kernel_rfl) (by rfl) ?_ hS rfl ?_
  rotate_left
  · intro w' hw
    go_simp
    try with_reducible rfl
  simp only [Act.put, List.setIfInBounds_toArray, List.set_cons_zero, List.set_cons_succ]
  refine hs_take (i := 46) (d := some 75) (v := ?_) rfl (by kernel_rfl) (by kernel_rfl) (by kernel_rfl) (by rfl) ?_ hS rfl ?_
  rotate_left
  · intro w' hw
    go_simp
    try with_reducible rfl
  simp only [Act.put, List.setIfInBounds_toArray, List.set_cons_zero, List.set_cons_succ]
  refine hs_take (i := 48) (d := some 77) (v := .agg #[.int .i64 c.n, .int .i64 c.cl, .int .i64 c.wi, .int .i64 c.bu, .int .i64 c.ca, .int .i64 c.sl, .int .i64 c.rq, .int .i64 c.ti, .int .i64 c.pe, .int .i64 c.la]) rfl (by kernel_rfl) (by kernel_rfl) (by kernel_rfl) (by rfl) (fun w' hw => exec_load rfl rfl (k8.below hw).load) hS rfl ?_
  simp only [Act.put, List.setIfInBounds_toArray, List.set_cons_zero, List.set_cons_succ]
  refine hs_take (i := 49) (d := some 78) (v := ?_) rfl (by kernel_rfl) (by kernel_rfl) (by kernel_rfl) (by rfl) ?_ hS rfl ?_
  rotate_left
  · intro w' hw
    go_simp
    try with_reducible rfl
  simp only [Act.put, List.setIfInBounds_toArray, List.set_cons_zero, List.set_cons_succ]
  refine hs_take (i := 50) (d := some 79) (v := ?_) rfl (by kernel_rfl) (by kernel_rfl) (by kernel_rfl) (by rfl) ?_ hS rfl ?_
  rotate_left
  · intro w' hw
    go_simp
    try with_reducible rfl
  simp only [Act.put, List.setIfInBounds_toArray, List.set_cons_zero, List.set_cons_succ]
  refine hs_take (i := 51) (d := some 80) (v := ?_) rfl (by kernel_rfl) (by kernel_rfl) (by kernel_rfl) (by rfl) ?_ hS rfl ?_
  rotate_left
  · intro w' hw
    go_simp
    try with_reducible rfl
  simp only [Act.put, List.setIfInBounds_toArray, List.set_cons_zero, List.set_cons_succ]
  refine hs_call (i := 47) (d := some 76) rfl (by kernel_rfl) (by rfl) (by go_simp; first | done | exact ⟨rfl, rfl⟩ | with_reducible rfl) rfl ?_
  refine (cP w18 (hp8.below hS) (hq8.below hS)).mono ?_
  rintro e' w19 ⟨v1, rfl, hrow1, hw19⟩
  have hS : (Below w8.heap.size w8) w19 := hS.trans (hw19.mono hS.size)
  refine ⟨_, rfl, hS, ?_⟩
  simp only [Act.put, List.setIfInBounds_toArray, List.set_cons_zero, List.set_cons_succ]
  obtain ⟨a1, cap1, rfl, hr1⟩ := own_set3 hrow1 hPl
  refine hs_call (i := 52) (d := some 81) rfl (by kernel_rfl) (by rfl) (by go_simp; first | done | exact ⟨rfl, rfl⟩ | with_reducible rfl) rfl ?_
  refine (cPr w19 (hz8.below hS) (hy8.below hS)).mono ?_
  rintro e' w20 ⟨v2, rfl, hrow2, hw20⟩
  have hS : (Below w8.heap.size w8) w20 := hS.trans (hw20.mono hS.size)
  refine ⟨_, rfl, hS, ?_⟩
  simp only [Act.put, List.setIfInBounds_toArray, List.set_cons_zero, List.set_cons_succ]
  obtain ⟨ax, capx, rfl, hrx⟩ := own_set3 hrow2 hPl
  have ci := ints_same a1 ax cap1 capx L3 w20 (hr1.below hw20) hrx hPl
  clear hrow1 hrow2 hr1 hrx
  refine hs_call (i := 53) (d := some 82) rfl (by kernel_rfl) (by rfl) (by go_simp; first | done | exact ⟨rfl, rfl⟩ | with_reducible rfl) rfl ?_
  refine (ci).mono ?_
  rintro e' w21 ⟨rfl, hw21⟩
  have hS : (Below w8.heap.size w8) w21 := hS.trans (hw21.mono hS.size)
  refine ⟨_, rfl, hS, ?_⟩
  simp only [Act.put, List.setIfInBounds_toArray, List.set_cons_zero, List.set_cons_succ]
  clear ci
  refine hs_take (i := 54) (d := some 83) (v := .bool true) rfl (by kernel_rfl) (by kernel_rfl) (by kernel_rfl) (by rfl) (fun w' hw => by go_simp) hS rfl ?_
  simp only [Act.put, List.setIfInBounds_toArray, List.set_cons_zero, List.set_cons_succ]
  refine hs_take (i := 55) (d := some 13) (v := ?_) rfl (by kernel_rfl) (by kernel_rfl) (by kernel_rfl) (by rfl) ?_ hS rfl ?_
  rotate_left
  · intro w' hw
    go_simp
    try with_reducible rfl
  simp only [Act.put, List.setIfInBounds_toArray, List.set_cons_zero, List.set_cons_succ]
  refine hs_done (by kernel_rfl) ?_
  clear cG cGr cL cLr cO cOr cB cBr cP cPr
  have cI1 := ints_same ap a pcap cap zs w21 (hp8.below hS) (hz8.below hS) (by omega)
  go_wp2_with fail
  refine cI1.mono ?_
  rintro e w22 ⟨rfl, hw22⟩
  have hS22 := hS.trans (hw22.mono hS.size)
  have cI2 := ints_same aq a2 qcap cap2 ls w22 (hq8.below hS22) (hy8.below hS22) (by omega)
  go_wp2_with fail
  refine cI2.mono ?_
  rintro e w23 ⟨rfl, hw23⟩
  have hS23 := hS22.trans (hw23.mono hS22.size)
  go_wp2_with fail
  refine (lives11_any _).mono ?_
  rintro e w9 ⟨rfl, hb9⟩
  go_wp2_with fail
  go_ret
  exact ⟨rfl, fin (fin hB8 hS23) hb9⟩
end Go.Proofs.Ytnndlgdlligjbaa
