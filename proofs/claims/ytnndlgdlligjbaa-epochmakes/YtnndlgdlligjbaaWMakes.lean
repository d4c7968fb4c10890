/- the walk of EpochMakes -/
import Derived.Test.YtnndlgdlligjbaaLEp7
import Derived.Test.YtnndlgdlligjbaaLEp8
import Derived.Test.YtnndlgdlligjbaaWTell
namespace Go.Proofs.Ytnndlgdlligjbaa
open Go.RowKit Go.Shelf Go.Deep
theorem new_val (c : Cfg) (n s : Int) (zs : List Int) : ∃ (c2 : Cfg) (n2 s2 : Int) (zs2 : List Int), zs2.length ≤ 100000 ∧ goodE c2 n2 s2 zs2 = decide (newF c n s zs = 0) ∧ ∀ W v, NewAt W c n s zs v → ∃ a cap, v = .agg #[.int .i64 c2.n, .int .i64 c2.cl, .int .i64 c2.wi, .int .i64 c2.bu, .int .i64 c2.ca, .int .i64 c2.sl, .int .i64 c2.rq, .int .i64 c2.ti, .int .i64 c2.pe, .int .i64 c2.la, .int .i64 n2, .int .i64 s2, .slice a zs2.length cap] ∧ RowI W a zs2 := by
  by_cases h : newF c n s zs = 0
  · refine ⟨c, n, s, ints (listL c n zs), by rw [ints_length]; exact listL_len c n zs, ?_, ?_⟩
    · rw [decide_eq_true h]
      unfold newF at h
      split at h
      · simp at h
      · split at h
        · simp at h
        · split at h
          · assumption
          · simp at h
    · rintro W v (⟨_, a, cap, rfl, hr⟩ | ⟨h', _⟩)
      · exact ⟨a, cap, rfl, hr⟩
      · exact absurd h h'
  · refine ⟨c00, 0, 0, [], by simp, ?_, ?_⟩
    · rw [decide_eq_false h]; decide
    · rintro W v (⟨h', _⟩ | ⟨_, rfl⟩)
      · exact absurd h' h
      · exact ⟨none, 0, rfl, by decide, .inl rfl⟩
set_option maxRecDepth 100000 in
set_option maxHeartbeats 16000000 in
theorem makes_walk (c : Cfg) (n s : Int) (a : Option Addr) (cap : Nat) (zs : List Int) (w : World) (hr : RowI w a zs) :
    Calls Try.prog 8 #[(.agg #[.int .i64 c.n, .int .i64 c.cl, .int .i64 c.wi, .int .i64 c.bu, .int .i64 c.ca, .int .i64 c.sl, .int .i64 c.rq, .int .i64 c.ti, .int .i64 c.pe, .int .i64 c.la]), .int .i64 n, .int .i64 s, .slice a zs.length cap] w fun e w' => e = .returned (.bool true) ∧ Below w.heap.size w w' := by
  obtain ⟨i0, hi, hz0, hz1, hz2⟩ := info_parts info3
  have hB1 : Below w.heap.size w (w.alloc (.cells #[.int .i64 c.n, .int .i64 c.cl, .int .i64 c.wi, .int .i64 c.bu, .int .i64 c.ca, .int .i64 c.sl, .int .i64 c.rq, .int .i64 c.ti, .int .i64 c.pe, .int .i64 c.la] 23)) := (Below.refl _ w).alloc (Nat.le_refl _) _
  have k0 := CfgAt.new w c
  have fin : ∀ {W W' : World}, Below w.heap.size w W → Below W.heap.size W W' → Below w.heap.size w W' := fun h k => h.trans (k.mono h.size)
  by_cases hl : 200 < zs.length
  · have hl' : (200 : Int) < (zs.length : Int) := by omega
    clear hr k0
    go_enter Try.func8, Try.ntmps8
    go_wp2_with fail
    refine (lives12_any _).mono ?_
    rintro e w9 ⟨rfl, hb9⟩
    go_wp2_with fail
    go_ret
    exact ⟨rfl, fin hB1 hb9⟩
  have hl' : ¬ (200 : Int) < (zs.length : Int) := by omega
  go_enter Try.func8, Try.ntmps8
  obtain ⟨w1, hw1⟩ : ∃ w1, w.alloc (.cells #[.int .i64 c.n, .int .i64 c.cl, .int .i64 c.wi, .int .i64 c.bu, .int .i64 c.ca, .int .i64 c.sl, .int .i64 c.rq, .int .i64 c.ti, .int .i64 c.pe, .int .i64 c.la] 23) = w1 := ⟨_, rfl⟩
  have hs1 : w1.heap.size = w.heap.size + 1 := by rw [← hw1]; simp
  rw [hw1] at hB1 k0
  have b2 : Below w1.heap.size w1 (w1.alloc (.cells #[] 3)) := (Below.refl _ _).alloc (Nat.le_refl _) _
  have own2 := World.ownsRow_made w1 (e := 3) (size := 1) #[] 0 (Nat.le_refl _) (by simp) (by simp)
  have hp1 := (hr.below (fin hB1 b2)).src cap
  clear hs1
  go_wp2_with (at_builtin; refine wpList_append_own_src _ rfl _ _ 24 24 rfl w1.heap.size 3 i0 (.int .i64 0) 1 8 Try.underlying24 hi hz0 hz1 hz2 rfl _ 0 [] rfl own2 (.slice a zs.length cap) zs.length (zs.map (Value.int .i64)) rfl hp1 ?c1 ?c2 b2.size ?_)
  case c1 => unfold maxLen; omega
  case c2 => omega
  intro v2 w2 hown2 hgr2
  have hb2 : Below w1.heap.size w1 w2 := b2.grown hgr2 (by simp) (fun j hj => (own2.lt j hj).1)
  have hown2 : w2.ownsRow w1.heap.size 3 1 v2 zs.length (zs.map (Value.int .i64)) := by simpa using hown2
  obtain ⟨ap, pcap, rfl, hp2⟩ := own_rowI hown2 (by unfold maxLen; omega)
  have hB2 := fin hB1 hb2
  have k2 := k0.below hb2
  clear own2 hp1 hgr2 b2 hown2 hb2 k0 hB1 hw1
  obtain ⟨c2, n2, s2, zs2, hl2, HGE, hval⟩ := new_val c n s zs
  have HGE := hide HGE
  have hval := hide hval
  have c1 := enew_any c n s ap pcap zs w2 hp2
  have c3 := fun w h => rnew_any c n s a cap zs w h
  generalize newF c n s zs = f at *
  have LC2 := k2.load
  go_wp2_with (refine wpList_load_row rfl 23 _ rfl w.heap.size rfl 23 #[.int .i64 c.n, .int .i64 c.cl, .int .i64 c.wi, .int .i64 c.bu, .int .i64 c.ca, .int .i64 c.sl, .int .i64 c.rq, .int .i64 c.ti, .int .i64 c.pe, .int .i64 c.la] (0, 0) _ k2 Try.underlying23 rfl (by kernel_rfl) ?_)
  refine c1.mono ?_
  rintro e w3 ⟨v3, rfl, hn3, hb3⟩
  obtain ⟨u, ucap, rfl, hu3⟩ := hval.out _ _ hn3
  have k3 := k2.below hb3
  have hB3 := fin hB2 hb3
  have hp3 := hp2.below hb3
  clear c1 hn3 k2 hB2 hp2 hb3 LC2
  have b4 : Below w3.heap.size w3 ((w3.alloc (.cells #[.int .i64 0, .int .i64 0, .int .i64 0, .int .i64 0, .int .i64 0, .int .i64 0, .int .i64 0, .int .i64 0, .int .i64 0, .int .i64 0, .int .i64 0, .int .i64 0, .slice none 0 0] 42)).setRow w3.heap.size #[.int .i64 c2.n, .int .i64 c2.cl, .int .i64 c2.wi, .int .i64 c2.bu, .int .i64 c2.ca, .int .i64 c2.sl, .int .i64 c2.rq, .int .i64 c2.ti, .int .i64 c2.pe, .int .i64 c2.la, .int .i64 n2, .int .i64 s2, .slice u zs2.length ucap]) := ((Below.refl _ _).alloc (Nat.le_refl _) _).trans (setRow_below (Nat.le_refl _))
  have e4 : EpAt ((w3.alloc (.cells #[.int .i64 0, .int .i64 0, .int .i64 0, .int .i64 0, .int .i64 0, .int .i64 0, .int .i64 0, .int .i64 0, .int .i64 0, .int .i64 0, .int .i64 0, .int .i64 0, .slice none 0 0] 42)).setRow w3.heap.size #[.int .i64 c2.n, .int .i64 c2.cl, .int .i64 c2.wi, .int .i64 c2.bu, .int .i64 c2.ca, .int .i64 c2.sl, .int .i64 c2.rq, .int .i64 c2.ti, .int .i64 c2.pe, .int .i64 c2.la, .int .i64 n2, .int .i64 s2, .slice u zs2.length ucap]) w3.heap.size c2 n2 s2 u ucap zs2 := setRow_heap _ w3.heap.size _ _ _ _ (World.alloc_heap_new w3 _)
  have k4 := k3.below b4
  have hB4 := fin hB3 b4
  have hp4 := hp3.below b4
  have hu4 := hu3.below b4
  obtain ⟨w4, hw4⟩ : ∃ w4, (w3.alloc (.cells #[.int .i64 0, .int .i64 0, .int .i64 0, .int .i64 0, .int .i64 0, .int .i64 0, .int .i64 0, .int .i64 0, .int .i64 0, .int .i64 0, .int .i64 0, .int .i64 0, .slice none 0 0] 42)).setRow w3.heap.size #[.int .i64 c2.n, .int .i64 c2.cl, .int .i64 c2.wi, .int .i64 c2.bu, .int .i64 c2.ca, .int .i64 c2.sl, .int .i64 c2.rq, .int .i64 c2.ti, .int .i64 c2.pe, .int .i64 c2.la, .int .i64 n2, .int .i64 s2, .slice u zs2.length ucap] = w4 := ⟨_, rfl⟩
  rw [hw4] at e4 k4 hB4 hp4 hu4
  have HW4 := hide hw4
  clear b4 hp3 hu3 hB3 k3 hw4
  go_wp2_with (first | (refine wpList_store_row rfl 42 _ _ rfl rfl w3.heap.size 42 _ #[.int .i64 c2.n, .int .i64 c2.cl, .int .i64 c2.wi, .int .i64 c2.bu, .int .i64 c2.ca, .int .i64 c2.sl, .int .i64 c2.rq, .int .i64 c2.ti, .int .i64 c2.pe, .int .i64 c2.la, .int .i64 n2, .int .i64 s2, .slice u zs2.length ucap] rfl rfl (World.alloc_heap_new w3 _) (by kernel_rfl) rfl (by simp [Value.oneCell']) ?_; rw [HW4.out]) | (refine wpList_load_row rfl 23 _ rfl w.heap.size rfl 23 #[.int .i64 c.n, .int .i64 c.cl, .int .i64 c.wi, .int .i64 c.bu, .int .i64 c.ca, .int .i64 c.sl, .int .i64 c.rq, .int .i64 c.ti, .int .i64 c.pe, .int .i64 c.la] (0, 0) _ k4 Try.underlying23 rfl (by kernel_rfl) ?_))
  refine (c3 w4 (hr.below hB4)).mono ?_
  rintro e w5 ⟨v5, rfl, hn5, hb5⟩
  obtain ⟨v, vcap, rfl, hv5⟩ := hval.out _ _ hn5
  have e5 := e4.below hb5
  have hB5 := fin hB4 hb5
  have hp5 := hp4.below hb5
  have hu5 := hu4.below hb5
  clear c3 hn5 k4 hB4 hp4 hb5 HW4 hu4 e4
  have b6 : Below w5.heap.size w5 ((w5.alloc (.cells #[.int .i64 0, .int .i64 0, .int .i64 0, .int .i64 0, .int .i64 0, .int .i64 0, .int .i64 0, .int .i64 0, .int .i64 0, .int .i64 0, .int .i64 0, .int .i64 0, .slice none 0 0] 45)).setRow w5.heap.size #[.int .i64 c2.n, .int .i64 c2.cl, .int .i64 c2.wi, .int .i64 c2.bu, .int .i64 c2.ca, .int .i64 c2.sl, .int .i64 c2.rq, .int .i64 c2.ti, .int .i64 c2.pe, .int .i64 c2.la, .int .i64 n2, .int .i64 s2, .slice v zs2.length vcap]) := ((Below.refl _ _).alloc (Nat.le_refl _) _).trans (setRow_below (Nat.le_refl _))
  have r6 : REpAt ((w5.alloc (.cells #[.int .i64 0, .int .i64 0, .int .i64 0, .int .i64 0, .int .i64 0, .int .i64 0, .int .i64 0, .int .i64 0, .int .i64 0, .int .i64 0, .int .i64 0, .int .i64 0, .slice none 0 0] 45)).setRow w5.heap.size #[.int .i64 c2.n, .int .i64 c2.cl, .int .i64 c2.wi, .int .i64 c2.bu, .int .i64 c2.ca, .int .i64 c2.sl, .int .i64 c2.rq, .int .i64 c2.ti, .int .i64 c2.pe, .int .i64 c2.la, .int .i64 n2, .int .i64 s2, .slice v zs2.length vcap]) w5.heap.size c2 n2 s2 v vcap zs2 := setRow_heap _ w5.heap.size _ _ _ _ (World.alloc_heap_new w5 _)
  have e6 := e5.below b6
  have hB6 := fin hB5 b6
  have hp6 := hp5.below b6
  have hu6 := hu5.below b6
  have hv6 := hv5.below b6
  obtain ⟨w6, hw6⟩ : ∃ w6, (w5.alloc (.cells #[.int .i64 0, .int .i64 0, .int .i64 0, .int .i64 0, .int .i64 0, .int .i64 0, .int .i64 0, .int .i64 0, .int .i64 0, .int .i64 0, .int .i64 0, .int .i64 0, .slice none 0 0] 45)).setRow w5.heap.size #[.int .i64 c2.n, .int .i64 c2.cl, .int .i64 c2.wi, .int .i64 c2.bu, .int .i64 c2.ca, .int .i64 c2.sl, .int .i64 c2.rq, .int .i64 c2.ti, .int .i64 c2.pe, .int .i64 c2.la, .int .i64 n2, .int .i64 s2, .slice v zs2.length vcap] = w6 := ⟨_, rfl⟩
  rw [hw6] at r6 e6 hB6 hp6 hu6 hv6
  have HW6 := hide hw6
  clear b6 e5 hp5 hu5 hv5 hB5 hw6
  go_wp2_with (refine wpList_store_row rfl 45 _ _ rfl rfl w5.heap.size 45 _ #[.int .i64 c2.n, .int .i64 c2.cl, .int .i64 c2.wi, .int .i64 c2.bu, .int .i64 c2.ca, .int .i64 c2.sl, .int .i64 c2.rq, .int .i64 c2.ti, .int .i64 c2.pe, .int .i64 c2.la, .int .i64 n2, .int .i64 s2, .slice v zs2.length vcap] rfl rfl (World.alloc_heap_new w5 _) (by kernel_rfl) rfl (by simp [Value.oneCell']) ?_; rw [HW6.out])
  clear HW6 hval
  have cOf := fun w => of_any c2 n2 s2 u ucap zs2 w
  have cSm := fun w h h' => resame_any c2 n2 s2 u ucap zs2 v vcap w h h' hl2
  have cI := fun w h h' => ints_same ap a pcap cap zs w h h' (by omega)
  have cG := fun w h => egood_any c2 n2 s2 u ucap zs2 w h hl2
  simp only [HGE.out] at cG
  obtain ⟨w8, hw8⟩ : ∃ w8, w6.drew = w8 := ⟨_, rfl⟩
  refine hs_begin (S := (Below w8.heap.size w8)) 25 rfl (by kernel_rfl) ?_
  have k8 : EpAt w8 w3.heap.size c2 n2 s2 u ucap zs2 := by rw [← hw8]; exact e6
  have r8 : REpAt w8 w5.heap.size c2 n2 s2 v vcap zs2 := by rw [← hw8]; exact r6
  have hB8 : Below w.heap.size w w8 := by rw [← hw8]; exact hB6.drew
  have hp8 : RowI w8 ap zs := by rw [← hw8]; exact hp6
  have hu8 : RowI w8 u zs2 := by rw [← hw8]; exact hu6
  have hv8 : RowI w8 v zs2 := by rw [← hw8]; exact hv6
  have hz8 : RowI w8 a zs := hr.below hB8
  rw [hw8]
  clear hw8 e6 r6 hB6 hp6 hu6 hv6 hl'
  have hS : (Below w8.heap.size w8) w8 := Below.refl _ _
  refine hs_take (i := 0) (d := some 37) (v := .agg #[.int .i64 c2.n, .int .i64 c2.cl, .int .i64 c2.wi, .int .i64 c2.bu, .int .i64 c2.ca, .int .i64 c2.sl, .int .i64 c2.rq, .int .i64 c2.ti, .int .i64 c2.pe, .int .i64 c2.la, .int .i64 n2, .int .i64 s2, .slice u zs2.length ucap]) rfl (by kernel_rfl) (by kernel_rfl) (by kernel_rfl) (by rfl) (fun w' hw => exec_load rfl rfl (k8.below hw).load) hS rfl ?_
  simp only [Act.put, List.setIfInBounds_toArray, List.set_cons_zero, List.set_cons_succ]
  refine hs_take (i := 2) (d := some 39) (v := .agg #[.int .i64 c2.n, .int .i64 c2.cl, .int .i64 c2.wi, .int .i64 c2.bu, .int .i64 c2.ca, .int .i64 c2.sl, .int .i64 c2.rq, .int .i64 c2.ti, .int .i64 c2.pe, .int .i64 c2.la, .int .i64 n2, .int .i64 s2, .slice v zs2.length vcap]) rfl (by kernel_rfl) (by kernel_rfl) (by kernel_rfl) (by rfl) (fun w' hw => exec_load rfl rfl (r8.below hw).load) hS rfl ?_
  simp only [Act.put, List.setIfInBounds_toArray, List.set_cons_zero, List.set_cons_succ]
  refine hs_call (i := 1) (d := some 38) rfl (by kernel_rfl) (by rfl) (by go_simp; first | done | exact ⟨rfl, rfl⟩ | with_reducible rfl) rfl ?_
  refine (cOf w8).mono ?_
  rintro e' w9 ⟨rfl, hw9⟩
  have hS : (Below w8.heap.size w8) w9 := hS.trans (hw9.mono hS.size)
  refine ⟨_, rfl, hS, ?_⟩
  simp only [Act.put, List.setIfInBounds_toArray, List.set_cons_zero, List.set_cons_succ]
  refine hs_call (i := 3) (d := some 40) rfl (by kernel_rfl) (by rfl) (by go_simp; first | done | exact ⟨rfl, rfl⟩ | with_reducible rfl) rfl ?_
  refine (cSm w9 (hu8.below hS) (hv8.below hS)).mono ?_
  rintro e' w10 ⟨rfl, hw10⟩
  have hS : (Below w8.heap.size w8) w10 := hS.trans (hw10.mono hS.size)
  refine ⟨_, rfl, hS, ?_⟩
  simp only [Act.put, List.setIfInBounds_toArray, List.set_cons_zero, List.set_cons_succ]
  refine hs_take (i := 4) (d := some 41) (v := ?_) rfl (by kernel_rfl) (by kernel_rfl) (by kernel_rfl) (by rfl) ?_ hS rfl ?_
  rotate_left
  · intro w' hw
    go_simp
    try with_reducible rfl
  simp only [Act.put, List.setIfInBounds_toArray, List.set_cons_zero, List.set_cons_succ]
  refine hs_take (i := 5) (d := some 42) (v := ?_) rfl (by kernel_rfl) (by kernel_rfl) (by kernel_rfl) (by rfl) ?_ hS rfl ?_
  rotate_left
  · intro w' hw
    go_simp
    try with_reducible rfl
  simp only [Act.put, List.setIfInBounds_toArray, List.set_cons_zero, List.set_cons_succ]
  refine hs_take (i := 6) (d := some 43) (v := ?_) rfl (by kernel_rfl) (by kernel_rfl) (by kernel_rfl) (by rfl) ?_ hS rfl ?_
  rotate_left
  · intro w' hw
    go_simp
    try with_reducible rfl
  simp only [Act.put, List.setIfInBounds_toArray, List.set_cons_zero, List.set_cons_succ]
  refine hs_take (i := 7) (d := some 44) (v := .bool true) rfl (by kernel_rfl) (by kernel_rfl) (by kernel_rfl) (by rfl) (fun w' hw => by go_simp) hS rfl ?_
  simp only [Act.put, List.setIfInBounds_toArray, List.set_cons_zero, List.set_cons_succ]
  refine hs_take (i := 8) (d := some 45) (v := .bool true) rfl (by kernel_rfl) (by kernel_rfl) (by kernel_rfl) (by rfl) (fun w' hw => by go_simp) hS rfl ?_
  simp only [Act.put, List.setIfInBounds_toArray, List.set_cons_zero, List.set_cons_succ]
  refine hs_take (i := 9) (d := some 46) (v := ?_) rfl (by kernel_rfl) (by kernel_rfl) (by kernel_rfl) (by rfl) ?_ hS rfl ?_
  rotate_left
  · intro w' hw
    go_simp
    try with_reducible rfl
  simp only [Act.put, List.setIfInBounds_toArray, List.set_cons_zero, List.set_cons_succ]
  refine hs_take (i := 10) (d := some 47) (v := ?_) rfl (by kernel_rfl) (by kernel_rfl) (by kernel_rfl) (by rfl) ?_ hS rfl ?_
  rotate_left
  · intro w' hw
    go_simp
    try with_reducible rfl
  simp only [Act.put, List.setIfInBounds_toArray, List.set_cons_zero, List.set_cons_succ]
  refine hs_take (i := 11) (d := some 48) (v := ?_) rfl (by kernel_rfl) (by kernel_rfl) (by kernel_rfl) (by rfl) ?_ hS rfl ?_
  rotate_left
  · intro w' hw
    go_simp
    try with_reducible rfl
  simp only [Act.put, List.setIfInBounds_toArray, List.set_cons_zero, List.set_cons_succ]
  refine hs_call (i := 12) (d := some 49) rfl (by kernel_rfl) (by rfl) (by go_simp; first | done | exact ⟨rfl, rfl⟩ | with_reducible rfl) rfl ?_
  refine (cI w10 (hp8.below hS) (hz8.below hS)).mono ?_
  rintro e' w11 ⟨rfl, hw11⟩
  have hS : (Below w8.heap.size w8) w11 := hS.trans (hw11.mono hS.size)
  refine ⟨_, rfl, hS, ?_⟩
  simp only [Act.put, List.setIfInBounds_toArray, List.set_cons_zero, List.set_cons_succ]
  refine hs_take (i := 13) (d := some 50) (v := .bool true) rfl (by kernel_rfl) (by kernel_rfl) (by kernel_rfl) (by rfl) (fun w' hw => by go_simp) hS rfl ?_
  simp only [Act.put, List.setIfInBounds_toArray, List.set_cons_zero, List.set_cons_succ]
  refine hs_take (i := 14) (d := some 51) (v := ?_) rfl (by kernel_rfl) (by kernel_rfl) (by kernel_rfl) (by rfl) ?_ hS rfl ?_
  rotate_left
  · intro w' hw
    go_simp
    try with_reducible rfl
  simp only [Act.put, List.setIfInBounds_toArray, List.set_cons_zero, List.set_cons_succ]
  refine hs_take (i := 15) (d := some 52) (v := ?_) rfl (by kernel_rfl) (by kernel_rfl) (by kernel_rfl) (by rfl) ?_ hS rfl ?_
  rotate_left
  · intro w' hw
    go_simp
    try with_reducible rfl
  simp only [Act.put, List.setIfInBounds_toArray, List.set_cons_zero, List.set_cons_succ]
  refine hs_take (i := 16) (d := some 53) (v := .bool (decide (f = 0))) rfl (by kernel_rfl) (by kernel_rfl) (by kernel_rfl) (by rfl) (fun w' hw => by go_simp; try (first | rfl | exact congrArg _ (by by_cases h : f = 0 <;> simp [h]))) hS rfl ?_
  simp only [Act.put, List.setIfInBounds_toArray, List.set_cons_zero, List.set_cons_succ]
  refine hs_take (i := 17) (d := some 54) (v := .agg #[.int .i64 c2.n, .int .i64 c2.cl, .int .i64 c2.wi, .int .i64 c2.bu, .int .i64 c2.ca, .int .i64 c2.sl, .int .i64 c2.rq, .int .i64 c2.ti, .int .i64 c2.pe, .int .i64 c2.la, .int .i64 n2, .int .i64 s2, .slice u zs2.length ucap]) rfl (by kernel_rfl) (by kernel_rfl) (by kernel_rfl) (by rfl) (fun w' hw => exec_load rfl rfl (k8.below hw).load) hS rfl ?_
  simp only [Act.put, List.setIfInBounds_toArray, List.set_cons_zero, List.set_cons_succ]
  refine hs_call (i := 18) (d := some 55) rfl (by kernel_rfl) (by rfl) (by go_simp; first | done | exact ⟨rfl, rfl⟩ | with_reducible rfl) rfl ?_
  refine (cG w11 (hu8.below hS)).mono ?_
  rintro e' w12 ⟨rfl, hw12⟩
  have hS : (Below w8.heap.size w8) w12 := hS.trans (hw12.mono hS.size)
  refine ⟨_, rfl, hS, ?_⟩
  simp only [Act.put, List.setIfInBounds_toArray, List.set_cons_zero, List.set_cons_succ]
  refine hs_take (i := 19) (d := some 56) (v := .bool true) rfl (by kernel_rfl) (by kernel_rfl) (by kernel_rfl) (by rfl) (fun w' hw => by go_simp) hS rfl ?_
  simp only [Act.put, List.setIfInBounds_toArray, List.set_cons_zero, List.set_cons_succ]
  refine hs_take (i := 20) (d := some 57) (v := .bool true) rfl (by kernel_rfl) (by kernel_rfl) (by kernel_rfl) (by rfl) (fun w' hw => by go_simp) hS rfl ?_
  simp only [Act.put, List.setIfInBounds_toArray, List.set_cons_zero, List.set_cons_succ]
  refine hs_take (i := 21) (d := some 58) (v := ?_) rfl (by kernel_rfl) (by kernel_rfl) (by kernel_rfl) (by rfl) ?_ hS rfl ?_
  rotate_left
  · intro w' hw
    go_simp
    try with_reducible rfl
  simp only [Act.put, List.setIfInBounds_toArray, List.set_cons_zero, List.set_cons_succ]
  refine hs_call (i := 22) (d := some 59) rfl (by kernel_rfl) (by rfl) (by go_simp; first | done | exact ⟨rfl, rfl⟩ | with_reducible rfl) rfl ?_
  refine (lives12_any w12).mono ?_
  rintro e' w13 ⟨rfl, hw13⟩
  have hS : (Below w8.heap.size w8) w13 := hS.trans (hw13.mono hS.size)
  refine ⟨_, rfl, hS, ?_⟩
  simp only [Act.put, List.setIfInBounds_toArray, List.set_cons_zero, List.set_cons_succ]
  refine hs_take (i := 23) (d := some 60) (v := .bool true) rfl (by kernel_rfl) (by kernel_rfl) (by kernel_rfl) (by rfl) (fun w' hw => by go_simp) hS rfl ?_
  simp only [Act.put, List.setIfInBounds_toArray, List.set_cons_zero, List.set_cons_succ]
  refine hs_take (i := 24) (d := some 8) (v := ?_) rfl (by kernel_rfl) (by kernel_rfl) (by kernel_rfl) (by rfl) ?_ hS rfl ?_
  rotate_left
  · intro w' hw
    go_simp
    try with_reducible rfl
  simp only [Act.put, List.setIfInBounds_toArray, List.set_cons_zero, List.set_cons_succ]
  refine hs_done (by kernel_rfl) ?_
  clear cOf cSm cI cG
  go_wp2_with fail
  go_ret
  exact ⟨rfl, fin hB8 hS⟩
end Go.Proofs.Ytnndlgdlligjbaa
