/- epoch.New: a contract. -/
import Derived.Test.YtnndlgdlligjbabDoorLEp3
import Derived.Test.YtnndlgdlligjbabDoorFork
import Derived.Laws.ResultCell
namespace Go.Proofs.YtnndlgdlligjbabDoor.Ld
open Go.RowKit Go.Shelf
theorem results_ct {fn : Func} {p u : Tmp} {ty : TypeId} (h : fn.results = #[.cell p ty, .tmp u]) (tmps : Array Value) (P : Program) (w : World) {a : Addr} {v : Value} (ha : tmps.getD p undef = .pointer (some a)) (hv : (loadVar ty a).run P w = .ok v w) : (results fn tmps).run P w = .ok (.tuple #[v, tmps.getD u undef]) w := by
  rw [results_cell_tmp h, ha]
  simp [asAddr, hv, Result.andThen]
theorem wpList_store_row {P : Program} {ops : Array Oper} {rest : List Oper} {o : Oper} {a : Act} {w : World} {Q : Exit → Act → World → Prop} (hgd : o.guard = none) (ty : TypeId) (x y : Operand) (ho : o.op = .store ty x y) (hd : o.dst = none)
    (g : Nat) (t : TypeId) (old cells : Array Value) (hx : a.eval x = .pointer (some ⟨g, 0, none⟩)) (hy : a.eval y = .agg cells) (hg : w.heap[g]? = some (.cells old t (0, 0))) (hi : (P.info? ty).map (·.size) = some cells.size) (hs : old.size = cells.size) (h1 : cells.all (·.oneCell') = true)
    (h : wpList P ops Q rest a (w.setRow g cells)) : wpList P ops Q (o :: rest) a w := by
  refine wpList_plain hgd fun K hK => ?_
  unfold Oper.wp execOp
  simp only [ho, hx, hy, Instr.storeAt, Instr.sureAddr, Sem.run_bind, Sem.run_pure, Result.andThen_ok, run_storeVar_row w g t ty old cells hg hi hs h1]
  show K (a.put o.dst undef) _
  rw [hd]
  exact hK _ _ h
theorem exec_store_row {P : Program} {o : Oper} {a : Act} {w : World} {ty t : TypeId} {x y : Operand} {g : Nat} {old cells : Array Value} (ho : o.op = .store ty x y) (hx : a.eval x = .pointer (some ⟨g, 0, none⟩)) (hy : a.eval y = .agg cells) (hg : w.heap[g]? = some (.cells old t (0, 0))) (hi : (P.info? ty).map (·.size) = some cells.size) (hs : old.size = cells.size) (h1 : cells.all (·.oneCell') = true) : (execOp a.eval o).run P w = .ok .skip (w.setRow g cells) := by
  unfold execOp
  simp only [ho, hx, hy, Instr.storeAt, Instr.sureAddr, Sem.run_bind, Sem.run_pure, Result.andThen_ok, run_storeVar_row w g t ty old cells hg hi hs h1]
theorem setRow_below {w : World} {n₀ g : Nat} {cs : Array Value} (h : n₀ ≤ g) : Below n₀ w (w.setRow g cs) := ⟨rfl, rfl, rfl, by simp [World.setRow], fun k hk => setRow_other w g k cs (by omega)⟩
theorem setRow_size (w : World) (g : Nat) (cs : Array Value) : (w.setRow g cs).heap.size = w.heap.size := by simp [World.setRow]
theorem RowI.setRow {w : World} {a : Option Addr} {zs : List Int} (h : RowI w a zs) {g : Nat} {cs : Array Value} (hp : ∀ x, a = some x → x.block ≠ g) : RowI (w.setRow g cs) a zs := by
  refine ⟨h.1, ?_⟩
  rcases h.2 with h | ⟨b, off, rfl, h1, h2⟩
  · exact Or.inl h
  · refine Or.inr ⟨b, off, rfl, by rw [setRow_size]; exact h1, fun j hj => ?_⟩
    exact (World.cell?_of_block (w := w) (w' := w.setRow g cs) (a := ⟨b, off + j, none⟩) (setRow_other w g b cs (hp ⟨b, off, none⟩ rfl))).trans (h2 j hj)
theorem own_set4 {w : World} {base : Nat} {v : Value} {l : List Nat} (h : w.ownsRow base 3 1 v l.length (vals l)) (hl : l.length ≤ 100000) :
    ∃ a cap, v = .slice a (ints l).length cap ∧ RowI w a (ints l) ∧ ∀ x, a = some x → base ≤ x.block := by
  obtain ⟨a, cap, rfl, hr⟩ := own_set h hl
  refine ⟨a, cap, by rw [ints_length], hr, fun x hx => ?_⟩
  subst hx
  rcases h.2 with ⟨h0, _⟩ | ⟨g, cap', cur, h0, hb, _⟩
  · cases h0
  · cases h0; exact hb
def c00 : Cfg := ⟨0, 0, 0, 0, 0, 0, 0, 0, 0, 0⟩
def newF (c : Cfg) (n s : Int) (zs : List Int) : Int := if goodC c = false then 110 else if c.la < n then 250 else if goodE c n s (ints (listL c n zs)) then 0 else 251
/-- what New tells -/
def NewAt (W : World) (c : Cfg) (n s : Int) (zs : List Int) (v : Value) : Prop :=
  (newF c n s zs = 0 ∧ ∃ a cap, v = .agg #[.int .i64 c.n, .int .i64 c.cl, .int .i64 c.wi, .int .i64 c.bu, .int .i64 c.ca, .int .i64 c.sl, .int .i64 c.rq, .int .i64 c.ti, .int .i64 c.pe, .int .i64 c.la, .int .i64 n, .int .i64 s, .slice a (ints (listL c n zs)).length cap] ∧ RowI W a (ints (listL c n zs))) ∨ (newF c n s zs ≠ 0 ∧ v = .agg #[.int .i64 0, .int .i64 0, .int .i64 0, .int .i64 0, .int .i64 0, .int .i64 0, .int .i64 0, .int .i64 0, .int .i64 0, .int .i64 0, .int .i64 0, .int .i64 0, .slice none 0 0])
theorem listL_len' (c : Cfg) (x : Int) (zs : List Int) : (listL c x zs).length ≤ 64 := by
  cases hm : mayC c x
  · rw [listL_no hm]; simp
  · obtain ⟨_, N, B, E, ok, _⟩ := mayC_ok hm
    rw [listL_yes hm ok.n]
    unfold listN
    have := ok.n64
    split
    · rw [List.length_range]; omega
    · have := filter_le (fun i => decide (penI zs i ≤ x)) N
      unfold freeU
      omega
set_option maxRecDepth 100000 in
set_option maxHeartbeats 16000000 in
theorem enew_any (c : Cfg) (n s : Int) (a : Option Addr) (cap : Nat) (zs : List Int) (w : World) (hr : RowI w a zs) :
    Calls Tryd.prog 22 #[(.agg #[.int .i64 c.n, .int .i64 c.cl, .int .i64 c.wi, .int .i64 c.bu, .int .i64 c.ca, .int .i64 c.sl, .int .i64 c.rq, .int .i64 c.ti, .int .i64 c.pe, .int .i64 c.la]), .int .i64 n, .int .i64 s, .slice a zs.length cap] w fun e w' => ∃ v, e = .returned (.tuple #[v, .int .i64 (newF c n s zs)]) ∧ NewAt w' c n s zs v ∧ Below w.heap.size w w' := by
  have fin : ∀ {W W' : World}, Below w.heap.size w W → Below W.heap.size W W' → Below w.heap.size w W' := fun h k => h.trans (k.mono h.size)
  have hB1 : Below w.heap.size w ((w.alloc (.cells #[.int .i64 c.n, .int .i64 c.cl, .int .i64 c.wi, .int .i64 c.bu, .int .i64 c.ca, .int .i64 c.sl, .int .i64 c.rq, .int .i64 c.ti, .int .i64 c.pe, .int .i64 c.la] 23)).alloc (.cells #[.int .i64 0, .int .i64 0, .int .i64 0, .int .i64 0, .int .i64 0, .int .i64 0, .int .i64 0, .int .i64 0, .int .i64 0, .int .i64 0, .int .i64 0, .int .i64 0, .slice none 0 0] 26)) := ((Below.refl _ w).alloc (Nat.le_refl _) _).alloc (by simp) _
  have k0 := (CfgAt.new w c).alloc (.cells #[.int .i64 0, .int .i64 0, .int .i64 0, .int .i64 0, .int .i64 0, .int .i64 0, .int .i64 0, .int .i64 0, .int .i64 0, .int .i64 0, .int .i64 0, .int .i64 0, .slice none 0 0] 26)
  have z0 : ((w.alloc (.cells #[.int .i64 c.n, .int .i64 c.cl, .int .i64 c.wi, .int .i64 c.bu, .int .i64 c.ca, .int .i64 c.sl, .int .i64 c.rq, .int .i64 c.ti, .int .i64 c.pe, .int .i64 c.la] 23)).alloc (.cells #[.int .i64 0, .int .i64 0, .int .i64 0, .int .i64 0, .int .i64 0, .int .i64 0, .int .i64 0, .int .i64 0, .int .i64 0, .int .i64 0, .int .i64 0, .int .i64 0, .slice none 0 0] 26)).heap[w.heap.size + 1]? = some (.cells #[.int .i64 0, .int .i64 0, .int .i64 0, .int .i64 0, .int .i64 0, .int .i64 0, .int .i64 0, .int .i64 0, .int .i64 0, .int .i64 0, .int .i64 0, .int .i64 0, .slice none 0 0] 26 (0, 0)) := by
    have := World.alloc_heap_new (w.alloc (.cells #[.int .i64 c.n, .int .i64 c.cl, .int .i64 c.wi, .int .i64 c.bu, .int .i64 c.ca, .int .i64 c.sl, .int .i64 c.rq, .int .i64 c.ti, .int .i64 c.pe, .int .i64 c.la] 23)) (.cells #[.int .i64 0, .int .i64 0, .int .i64 0, .int .i64 0, .int .i64 0, .int .i64 0, .int .i64 0, .int .i64 0, .int .i64 0, .int .i64 0, .int .i64 0, .int .i64 0, .slice none 0 0] 26)
    rwa [World.size_alloc] at this
  have c1 := fun w => lgood_any c w
  go_enter Tryd.func22, Tryd.ntmps22
  go_wp2_with fail
  obtain ⟨w1, hw1⟩ : ∃ w1, (w.alloc (.cells #[.int .i64 c.n, .int .i64 c.cl, .int .i64 c.wi, .int .i64 c.bu, .int .i64 c.ca, .int .i64 c.sl, .int .i64 c.rq, .int .i64 c.ti, .int .i64 c.pe, .int .i64 c.la] 23)).alloc (.cells #[.int .i64 0, .int .i64 0, .int .i64 0, .int .i64 0, .int .i64 0, .int .i64 0, .int .i64 0, .int .i64 0, .int .i64 0, .int .i64 0, .int .i64 0, .int .i64 0, .slice none 0 0] 26) = w1 := ⟨_, rfl⟩
  rw [hw1] at hB1 k0 z0 ⊢
  clear hw1
  cases hm : goodC c
  · simp only [errC_no hm] at c1
    have HN : Hid (newF c n s zs = 110) := hide (by simp [newF, hm])
    refine (c1 w1).mono ?_
    rintro e w4 ⟨rfl, hb4⟩
    have z4 := (hb4.block _ (Array.getElem?_eq_some_iff.1 z0).1).trans z0
    have hB4 := fin hB1 hb4
    clear hm c1 z0 k0 hb4
    go_wp2_with (refine wpList_store_row rfl 26 _ _ rfl rfl (w.heap.size + 1) 26 _ #[.int .i64 0, .int .i64 0, .int .i64 0, .int .i64 0, .int .i64 0, .int .i64 0, .int .i64 0, .int .i64 0, .int .i64 0, .int .i64 0, .int .i64 0, .int .i64 0, .slice none 0 0] rfl rfl z4 (by kernel_rfl) rfl (by simp [Value.oneCell']) ?_)
    have zf := setRow_heap w4 (w.heap.size + 1) _ #[.int .i64 0, .int .i64 0, .int .i64 0, .int .i64 0, .int .i64 0, .int .i64 0, .int .i64 0, .int .i64 0, .int .i64 0, .int .i64 0, .int .i64 0, .int .i64 0, .slice none 0 0] _ _ z4
    try simp only [Exit.inBlock, Exit.then]
    refine bodyPost_ret (results_ct rfl _ _ _ rfl (run_loadVar_row _ _ 26 26 _ (0, 0) _ zf Tryd.underlying26 rfl (by kernel_rfl))) rfl ?_
    exact ⟨_, by rw [HN.out]; rfl, .inr ⟨by rw [HN.out]; decide, rfl⟩, hB4.trans (setRow_below (by omega))⟩
  · simp only [errC_yes hm] at c1
    refine (c1 w1).mono ?_
    rintro e w4 ⟨rfl, hb4⟩
    have z4 := (hb4.block _ (Array.getElem?_eq_some_iff.1 z0).1).trans z0
    have k4 := k0.below hb4
    have hB4 := fin hB1 hb4
    have HG := hide hm
    obtain ⟨-, -, -, -, -, -, -, -, -, p9⟩ := k4.cells
    clear c1 z0 k0 hb4 hm hB1
    by_cases hla : c.la < n
    · have HN : Hid (newF c n s zs = 250) := hide (by simp [newF, HG.out, hla])
      go_wp2_with (refine wpList_store_row rfl 26 _ _ rfl rfl (w.heap.size + 1) 26 _ #[.int .i64 0, .int .i64 0, .int .i64 0, .int .i64 0, .int .i64 0, .int .i64 0, .int .i64 0, .int .i64 0, .int .i64 0, .int .i64 0, .int .i64 0, .int .i64 0, .slice none 0 0] rfl rfl z4 (by kernel_rfl) rfl (by simp [Value.oneCell']) ?_)
      have zf := setRow_heap w4 (w.heap.size + 1) _ #[.int .i64 0, .int .i64 0, .int .i64 0, .int .i64 0, .int .i64 0, .int .i64 0, .int .i64 0, .int .i64 0, .int .i64 0, .int .i64 0, .int .i64 0, .int .i64 0, .slice none 0 0] _ _ z4
      try simp only [Exit.inBlock, Exit.then]
      refine bodyPost_ret (results_ct rfl _ _ _ rfl (run_loadVar_row _ _ 26 26 _ (0, 0) _ zf Tryd.underlying26 rfl (by kernel_rfl))) rfl ?_
      exact ⟨_, by rw [HN.out]; rfl, .inr ⟨by rw [HN.out]; decide, rfl⟩, hB4.trans (setRow_below (by omega))⟩
    · have cL := fun w h => list_any c n a cap zs w h
      have hLl : (listL c n zs).length ≤ 100000 := Nat.le_trans (listL_len' c n zs) (by decide)
      obtain ⟨L, hL⟩ : ∃ L, Hid (listL c n zs = L) := ⟨_, hide rfl⟩
      simp only [hL.out] at cL
      rw [hL.out] at hLl
      have cE := fun W ad ld h => egood_any c n s ad ld (ints L) W h (by rw [ints_length]; exact hLl)
      go_wp2_with fail
      obtain ⟨w8, hw8⟩ : ∃ w8, w4.drew = w8 := ⟨_, rfl⟩
      refine hs_begin (S := (Below w8.heap.size w8)) 10 rfl (by kernel_rfl) ?_
      have k8 : CfgAt w8 w.heap.size c := by rw [← hw8]; exact k4
      have z8 : w8.heap[w.heap.size + 1]? = some (.cells #[.int .i64 0, .int .i64 0, .int .i64 0, .int .i64 0, .int .i64 0, .int .i64 0, .int .i64 0, .int .i64 0, .int .i64 0, .int .i64 0, .int .i64 0, .int .i64 0, .slice none 0 0] 26 (0, 0)) := by rw [← hw8]; exact z4
      have hB8 : Below w.heap.size w w8 := by rw [← hw8]; exact hB4.drew
      have hr8 := hr.below hB8
      rw [hw8]
      clear hw8 k4 z4 hB4 p9 hr
      have hS : (Below w8.heap.size w8) w8 := Below.refl _ _
      refine hs_take (i := 0) (d := some 23) (v := .agg #[.int .i64 c.n, .int .i64 c.cl, .int .i64 c.wi, .int .i64 c.bu, .int .i64 c.ca, .int .i64 c.sl, .int .i64 c.rq, .int .i64 c.ti, .int .i64 c.pe, .int .i64 c.la]) rfl (by kernel_rfl) (by kernel_rfl) (by kernel_rfl) (by rfl) (fun w' hw => exec_load rfl rfl (k8.below hw).load) hS rfl ?_
      simp only [Act.put, List.setIfInBounds_toArray, List.set_cons_zero, List.set_cons_succ]
      refine hs_take (i := 1) (d := some 24) (v := ?_) rfl (by kernel_rfl) (by kernel_rfl) (by kernel_rfl) (by rfl) ?_ hS rfl ?_
      rotate_left
      · intro w' hw
        go_simp
        try with_reducible rfl
      simp only [Act.put, List.setIfInBounds_toArray, List.set_cons_zero, List.set_cons_succ]
      refine hs_take (i := 2) (d := some 25) (v := ?_) rfl (by kernel_rfl) (by kernel_rfl) (by kernel_rfl) (by rfl) ?_ hS rfl ?_
      rotate_left
      · intro w' hw
        go_simp
        try with_reducible rfl
      simp only [Act.put, List.setIfInBounds_toArray, List.set_cons_zero, List.set_cons_succ]
      refine hs_take (i := 3) (d := some 26) (v := .agg #[.int .i64 c.n, .int .i64 c.cl, .int .i64 c.wi, .int .i64 c.bu, .int .i64 c.ca, .int .i64 c.sl, .int .i64 c.rq, .int .i64 c.ti, .int .i64 c.pe, .int .i64 c.la]) rfl (by kernel_rfl) (by kernel_rfl) (by kernel_rfl) (by rfl) (fun w' hw => exec_load rfl rfl (k8.below hw).load) hS rfl ?_
      simp only [Act.put, List.setIfInBounds_toArray, List.set_cons_zero, List.set_cons_succ]
      refine hs_take (i := 4) (d := some 27) (v := ?_) rfl (by kernel_rfl) (by kernel_rfl) (by kernel_rfl) (by rfl) ?_ hS rfl ?_
      rotate_left
      · intro w' hw
        go_simp
        try with_reducible rfl
      simp only [Act.put, List.setIfInBounds_toArray, List.set_cons_zero, List.set_cons_succ]
      refine hs_take (i := 5) (d := some 28) (v := ?_) rfl (by kernel_rfl) (by kernel_rfl) (by kernel_rfl) (by rfl) ?_ hS rfl ?_
      rotate_left
      · intro w' hw
        go_simp
        try with_reducible rfl
      simp only [Act.put, List.setIfInBounds_toArray, List.set_cons_zero, List.set_cons_succ]
      refine hs_fork (i := 6) (j := 8) (by kernel_rfl) ?_ ?_
      · refine st_call (i := 6) (d := some 29) rfl (by rfl) (by go_simp; first | done | exact ⟨rfl, rfl⟩ | with_reducible rfl) rfl ?_
        refine (cL w8 hr8).mono ?_
        rintro e' w9 ⟨v, rfl, hrow, hw9⟩
        obtain ⟨ad, ld, rfl, hRL, hap0⟩ := own_set4 hrow hLl
        have hS : (Below w8.heap.size w8) w9 := hS.trans (hw9.mono hS.size)
        refine ⟨_, rfl, hS, ?_⟩
        simp only [Act.put, List.setIfInBounds_toArray, List.set_cons_zero, List.set_cons_succ]
        refine hs_take (i := 7) (d := some 30) (v := .agg #[.int .i64 c.n, .int .i64 c.cl, .int .i64 c.wi, .int .i64 c.bu, .int .i64 c.ca, .int .i64 c.sl, .int .i64 c.rq, .int .i64 c.ti, .int .i64 c.pe, .int .i64 c.la, .int .i64 n, .int .i64 s, .slice ad (ints L).length ld]) rfl (by kernel_rfl) (by kernel_rfl) (by kernel_rfl) (by rfl) (fun w' hw => by go_simp) hS rfl ?_
        simp only [Act.put, List.setIfInBounds_toArray, List.set_cons_zero, List.set_cons_succ]
        have hwa : Below w9.heap.size w9 (w9.alloc (.cells #[.int .i64 0, .int .i64 0, .int .i64 0, .int .i64 0, .int .i64 0, .int .i64 0, .int .i64 0, .int .i64 0, .int .i64 0, .int .i64 0, .int .i64 0, .int .i64 0, .slice none 0 0] 26)) := (Below.refl _ w9).alloc (Nat.le_refl _) _
        have hwf : Below w9.heap.size w9 ((w9.alloc (.cells #[.int .i64 0, .int .i64 0, .int .i64 0, .int .i64 0, .int .i64 0, .int .i64 0, .int .i64 0, .int .i64 0, .int .i64 0, .int .i64 0, .int .i64 0, .int .i64 0, .slice none 0 0] 26)).setRow w9.heap.size #[.int .i64 c.n, .int .i64 c.cl, .int .i64 c.wi, .int .i64 c.bu, .int .i64 c.ca, .int .i64 c.sl, .int .i64 c.rq, .int .i64 c.ti, .int .i64 c.pe, .int .i64 c.la, .int .i64 n, .int .i64 s, .slice ad (ints L).length ld]) := hwa.trans (setRow_below (Nat.le_refl _))
        have hSa : (Below w8.heap.size w8) (w9.alloc (.cells #[.int .i64 0, .int .i64 0, .int .i64 0, .int .i64 0, .int .i64 0, .int .i64 0, .int .i64 0, .int .i64 0, .int .i64 0, .int .i64 0, .int .i64 0, .int .i64 0, .slice none 0 0] 26)) := hS.trans (hwa.mono hS.size)
        have hSf : (Below w8.heap.size w8) ((w9.alloc (.cells #[.int .i64 0, .int .i64 0, .int .i64 0, .int .i64 0, .int .i64 0, .int .i64 0, .int .i64 0, .int .i64 0, .int .i64 0, .int .i64 0, .int .i64 0, .int .i64 0, .slice none 0 0] 26)).setRow w9.heap.size #[.int .i64 c.n, .int .i64 c.cl, .int .i64 c.wi, .int .i64 c.bu, .int .i64 c.ca, .int .i64 c.sl, .int .i64 c.rq, .int .i64 c.ti, .int .i64 c.pe, .int .i64 c.la, .int .i64 n, .int .i64 s, .slice ad (ints L).length ld]) := hS.trans (hwf.mono hS.size)
        refine hs_run (i := 8) (d := some 11) (v := .pointer (some ⟨w9.heap.size, 0, none⟩)) (w' := w9.alloc (.cells #[.int .i64 0, .int .i64 0, .int .i64 0, .int .i64 0, .int .i64 0, .int .i64 0, .int .i64 0, .int .i64 0, .int .i64 0, .int .i64 0, .int .i64 0, .int .i64 0, .slice none 0 0] 26)) rfl (by kernel_rfl) (by rfl) (by go_simp) rfl hSa ?_
        simp only [Act.put, List.setIfInBounds_toArray, List.set_cons_zero, List.set_cons_succ]
        refine hs_store (i := 9) (w' := (w9.alloc (.cells #[.int .i64 0, .int .i64 0, .int .i64 0, .int .i64 0, .int .i64 0, .int .i64 0, .int .i64 0, .int .i64 0, .int .i64 0, .int .i64 0, .int .i64 0, .int .i64 0, .slice none 0 0] 26)).setRow w9.heap.size #[.int .i64 c.n, .int .i64 c.cl, .int .i64 c.wi, .int .i64 c.bu, .int .i64 c.ca, .int .i64 c.sl, .int .i64 c.rq, .int .i64 c.ti, .int .i64 c.pe, .int .i64 c.la, .int .i64 n, .int .i64 s, .slice ad (ints L).length ld]) rfl (by kernel_rfl) (by rfl) (exec_store_row rfl rfl rfl (World.alloc_heap_new w9 _) (by kernel_rfl) rfl (by simp [Value.oneCell'])) rfl hSf ?_
        refine hs_done (by kernel_rfl) ?_
        have hRF : RowI ((w9.alloc (.cells #[.int .i64 0, .int .i64 0, .int .i64 0, .int .i64 0, .int .i64 0, .int .i64 0, .int .i64 0, .int .i64 0, .int .i64 0, .int .i64 0, .int .i64 0, .int .i64 0, .slice none 0 0] 26)).setRow w9.heap.size #[.int .i64 c.n, .int .i64 c.cl, .int .i64 c.wi, .int .i64 c.bu, .int .i64 c.ca, .int .i64 c.sl, .int .i64 c.rq, .int .i64 c.ti, .int .i64 c.pe, .int .i64 c.la, .int .i64 n, .int .i64 s, .slice ad (ints L).length ld]) ad (ints L) := hRL.below hwf
        have kF : EpAt ((w9.alloc (.cells #[.int .i64 0, .int .i64 0, .int .i64 0, .int .i64 0, .int .i64 0, .int .i64 0, .int .i64 0, .int .i64 0, .int .i64 0, .int .i64 0, .int .i64 0, .int .i64 0, .slice none 0 0] 26)).setRow w9.heap.size #[.int .i64 c.n, .int .i64 c.cl, .int .i64 c.wi, .int .i64 c.bu, .int .i64 c.ca, .int .i64 c.sl, .int .i64 c.rq, .int .i64 c.ti, .int .i64 c.pe, .int .i64 c.la, .int .i64 n, .int .i64 s, .slice ad (ints L).length ld]) w9.heap.size c n s ad ld (ints L) := setRow_heap _ _ _ _ _ _ (World.alloc_heap_new w9 _)
        have zF : ((w9.alloc (.cells #[.int .i64 0, .int .i64 0, .int .i64 0, .int .i64 0, .int .i64 0, .int .i64 0, .int .i64 0, .int .i64 0, .int .i64 0, .int .i64 0, .int .i64 0, .int .i64 0, .slice none 0 0] 26)).setRow w9.heap.size #[.int .i64 c.n, .int .i64 c.cl, .int .i64 c.wi, .int .i64 c.bu, .int .i64 c.ca, .int .i64 c.sl, .int .i64 c.rq, .int .i64 c.ti, .int .i64 c.pe, .int .i64 c.la, .int .i64 n, .int .i64 s, .slice ad (ints L).length ld]).heap[w.heap.size + 1]? = some (.cells #[.int .i64 0, .int .i64 0, .int .i64 0, .int .i64 0, .int .i64 0, .int .i64 0, .int .i64 0, .int .i64 0, .int .i64 0, .int .i64 0, .int .i64 0, .int .i64 0, .slice none 0 0] 26 (0, 0)) := (hSf.block _ (Array.getElem?_eq_some_iff.1 z8).1).trans z8
        have hBF : Below w.heap.size w ((w9.alloc (.cells #[.int .i64 0, .int .i64 0, .int .i64 0, .int .i64 0, .int .i64 0, .int .i64 0, .int .i64 0, .int .i64 0, .int .i64 0, .int .i64 0, .int .i64 0, .int .i64 0, .slice none 0 0] 26)).setRow w9.heap.size #[.int .i64 c.n, .int .i64 c.cl, .int .i64 c.wi, .int .i64 c.bu, .int .i64 c.ca, .int .i64 c.sl, .int .i64 c.rq, .int .i64 c.ti, .int .i64 c.pe, .int .i64 c.la, .int .i64 n, .int .i64 s, .slice ad (ints L).length ld]) := fin hB8 hSf
        have hap : ∀ x, ad = some x → w.heap.size + 1 < x.block := fun x hx => by have := hap0 x hx; have := (Array.getElem?_eq_some_iff.1 z8).1; omega
        clear hwa hSa hSf hwf hrow cL
        obtain ⟨WF, hWF⟩ : ∃ WF, (w9.alloc (.cells #[.int .i64 0, .int .i64 0, .int .i64 0, .int .i64 0, .int .i64 0, .int .i64 0, .int .i64 0, .int .i64 0, .int .i64 0, .int .i64 0, .int .i64 0, .int .i64 0, .slice none 0 0] 26)).setRow w9.heap.size #[.int .i64 c.n, .int .i64 c.cl, .int .i64 c.wi, .int .i64 c.bu, .int .i64 c.ca, .int .i64 c.sl, .int .i64 c.rq, .int .i64 c.ti, .int .i64 c.pe, .int .i64 c.la, .int .i64 n, .int .i64 s, .slice ad (ints L).length ld] = WF := ⟨_, rfl⟩
        rw [hWF] at hRF kF zF hBF ⊢
        clear hWF
        go_wp2_with (refine wpList_load_row rfl 26 _ rfl w9.heap.size rfl 26 #[.int .i64 c.n, .int .i64 c.cl, .int .i64 c.wi, .int .i64 c.bu, .int .i64 c.ca, .int .i64 c.sl, .int .i64 c.rq, .int .i64 c.ti, .int .i64 c.pe, .int .i64 c.la, .int .i64 n, .int .i64 s, .slice ad (ints L).length ld] (0, 0) _ kF Tryd.underlying26 rfl (by kernel_rfl) ?_)
        refine (cE WF ad ld hRF).mono ?_
        rintro e w12 ⟨rfl, hb12⟩
        have z12 : w12.heap[w.heap.size + 1]? = some (.cells #[.int .i64 0, .int .i64 0, .int .i64 0, .int .i64 0, .int .i64 0, .int .i64 0, .int .i64 0, .int .i64 0, .int .i64 0, .int .i64 0, .int .i64 0, .int .i64 0, .slice none 0 0] 26 (0, 0)) := (hb12.block _ (Array.getElem?_eq_some_iff.1 zF).1).trans zF
        have e12 := kF.below hb12
        have hB12 := fin hBF hb12
        cases hge : goodE c n s (ints L)
        · have HN : Hid (newF c n s zs = 251) := hide (by simp [newF, HG.out, hla, hL.out, hge])
          go_wp2_with (refine wpList_store_row rfl 26 _ _ rfl rfl (w.heap.size + 1) 26 _ #[.int .i64 0, .int .i64 0, .int .i64 0, .int .i64 0, .int .i64 0, .int .i64 0, .int .i64 0, .int .i64 0, .int .i64 0, .int .i64 0, .int .i64 0, .int .i64 0, .slice none 0 0] rfl rfl z12 (by kernel_rfl) rfl (by simp [Value.oneCell']) ?_)
          have zf := setRow_heap w12 (w.heap.size + 1) _ #[.int .i64 0, .int .i64 0, .int .i64 0, .int .i64 0, .int .i64 0, .int .i64 0, .int .i64 0, .int .i64 0, .int .i64 0, .int .i64 0, .int .i64 0, .int .i64 0, .slice none 0 0] _ _ z12
          try simp only [Exit.inBlock, Exit.then]
          refine bodyPost_ret (results_ct rfl _ _ _ rfl (run_loadVar_row _ _ 26 26 _ (0, 0) _ zf Tryd.underlying26 rfl (by kernel_rfl))) rfl ?_
          refine ⟨_, by rw [HN.out]; rfl, .inr ⟨by rw [HN.out]; decide, rfl⟩, hB12.trans (setRow_below (by omega))⟩
        · have HN : Hid (newF c n s zs = 0) := hide (by simp [newF, HG.out, hla, hL.out, hge])
          go_wp2_with (first | (refine wpList_load_row rfl 26 _ rfl w9.heap.size rfl 26 #[.int .i64 c.n, .int .i64 c.cl, .int .i64 c.wi, .int .i64 c.bu, .int .i64 c.ca, .int .i64 c.sl, .int .i64 c.rq, .int .i64 c.ti, .int .i64 c.pe, .int .i64 c.la, .int .i64 n, .int .i64 s, .slice ad (ints L).length ld] (0, 0) _ e12 Tryd.underlying26 rfl (by kernel_rfl) ?_) | (refine wpList_store_row rfl 26 _ _ rfl rfl (w.heap.size + 1) 26 _ #[.int .i64 c.n, .int .i64 c.cl, .int .i64 c.wi, .int .i64 c.bu, .int .i64 c.ca, .int .i64 c.sl, .int .i64 c.rq, .int .i64 c.ti, .int .i64 c.pe, .int .i64 c.la, .int .i64 n, .int .i64 s, .slice ad (ints L).length ld] rfl rfl z12 (by kernel_rfl) rfl (by simp [Value.oneCell']) ?_))
          have zf := setRow_heap w12 (w.heap.size + 1) _ #[.int .i64 c.n, .int .i64 c.cl, .int .i64 c.wi, .int .i64 c.bu, .int .i64 c.ca, .int .i64 c.sl, .int .i64 c.rq, .int .i64 c.ti, .int .i64 c.pe, .int .i64 c.la, .int .i64 n, .int .i64 s, .slice ad (ints L).length ld] _ _ z12
          try simp only [Exit.inBlock, Exit.then]
          refine bodyPost_ret (results_ct rfl _ _ _ rfl (run_loadVar_row _ _ 26 26 _ (0, 0) _ zf Tryd.underlying26 rfl (by kernel_rfl))) rfl ?_
          refine ⟨_, by rw [HN.out]; rfl, .inl ⟨HN.out, ad, ld, by rw [hL.out], ?_⟩, hB12.trans (setRow_below (by omega))⟩
          rw [hL.out]
          exact (hRF.below hb12).setRow (fun x hx => by have := hap x hx; omega)
      · have hwa : Below w8.heap.size w8 (w8.alloc (.cells #[.int .i64 0, .int .i64 0, .int .i64 0, .int .i64 0, .int .i64 0, .int .i64 0, .int .i64 0, .int .i64 0, .int .i64 0, .int .i64 0, .int .i64 0, .int .i64 0, .slice none 0 0] 26)) := (Below.refl _ w8).alloc (Nat.le_refl _) _
        refine st_run (i := 8) (d := some 11) (v := .pointer (some ⟨w8.heap.size, 0, none⟩)) (w' := (w8.alloc (.cells #[.int .i64 0, .int .i64 0, .int .i64 0, .int .i64 0, .int .i64 0, .int .i64 0, .int .i64 0, .int .i64 0, .int .i64 0, .int .i64 0, .int .i64 0, .int .i64 0, .slice none 0 0] 26))) rfl (by rfl) (by go_simp) rfl hwa ?_
        simp only [Act.put, List.setIfInBounds_toArray, List.set_cons_zero, List.set_cons_succ]
        refine hs_call (i := 6) (d := some 29) rfl (by kernel_rfl) (by rfl) (by go_simp; first | done | exact ⟨rfl, rfl⟩ | with_reducible rfl) rfl ?_
        refine (cL (w8.alloc (.cells #[.int .i64 0, .int .i64 0, .int .i64 0, .int .i64 0, .int .i64 0, .int .i64 0, .int .i64 0, .int .i64 0, .int .i64 0, .int .i64 0, .int .i64 0, .int .i64 0, .slice none 0 0] 26)) (hr8.below hwa)).mono ?_
        rintro e' w9 ⟨v, rfl, hrow, hw9⟩
        obtain ⟨ad, ld, rfl, hRL, hap0⟩ := own_set4 hrow hLl
        have hS : (Below w8.heap.size w8) w9 := hwa.trans (hw9.mono hwa.size)
        refine ⟨_, rfl, hS, ?_⟩
        simp only [Act.put, List.setIfInBounds_toArray, List.set_cons_zero, List.set_cons_succ]
        refine hs_take (i := 7) (d := some 30) (v := .agg #[.int .i64 c.n, .int .i64 c.cl, .int .i64 c.wi, .int .i64 c.bu, .int .i64 c.ca, .int .i64 c.sl, .int .i64 c.rq, .int .i64 c.ti, .int .i64 c.pe, .int .i64 c.la, .int .i64 n, .int .i64 s, .slice ad (ints L).length ld]) rfl (by kernel_rfl) (by kernel_rfl) (by kernel_rfl) (by rfl) (fun w' hw => by go_simp) hS rfl ?_
        simp only [Act.put, List.setIfInBounds_toArray, List.set_cons_zero, List.set_cons_succ]
        have z9 : w9.heap[w8.heap.size]? = some (.cells #[.int .i64 0, .int .i64 0, .int .i64 0, .int .i64 0, .int .i64 0, .int .i64 0, .int .i64 0, .int .i64 0, .int .i64 0, .int .i64 0, .int .i64 0, .int .i64 0, .slice none 0 0] 26 (0, 0)) := (hw9.block w8.heap.size (by simp)).trans (World.alloc_heap_new w8 _)
        have hSf : (Below w8.heap.size w8) (w9.setRow w8.heap.size #[.int .i64 c.n, .int .i64 c.cl, .int .i64 c.wi, .int .i64 c.bu, .int .i64 c.ca, .int .i64 c.sl, .int .i64 c.rq, .int .i64 c.ti, .int .i64 c.pe, .int .i64 c.la, .int .i64 n, .int .i64 s, .slice ad (ints L).length ld]) := hS.trans (setRow_below (Nat.le_refl _))
        refine hs_store (i := 9) (w' := (w9.setRow w8.heap.size #[.int .i64 c.n, .int .i64 c.cl, .int .i64 c.wi, .int .i64 c.bu, .int .i64 c.ca, .int .i64 c.sl, .int .i64 c.rq, .int .i64 c.ti, .int .i64 c.pe, .int .i64 c.la, .int .i64 n, .int .i64 s, .slice ad (ints L).length ld])) rfl (by kernel_rfl) (by rfl) (exec_store_row rfl rfl rfl z9 (by kernel_rfl) rfl (by simp [Value.oneCell'])) rfl hSf ?_
        refine hs_done (by kernel_rfl) ?_
        have hRF : RowI (w9.setRow w8.heap.size #[.int .i64 c.n, .int .i64 c.cl, .int .i64 c.wi, .int .i64 c.bu, .int .i64 c.ca, .int .i64 c.sl, .int .i64 c.rq, .int .i64 c.ti, .int .i64 c.pe, .int .i64 c.la, .int .i64 n, .int .i64 s, .slice ad (ints L).length ld]) ad (ints L) := hRL.setRow (fun x hx => by have := hap0 x hx; rw [World.size_alloc] at this; omega)
        have kF : EpAt (w9.setRow w8.heap.size #[.int .i64 c.n, .int .i64 c.cl, .int .i64 c.wi, .int .i64 c.bu, .int .i64 c.ca, .int .i64 c.sl, .int .i64 c.rq, .int .i64 c.ti, .int .i64 c.pe, .int .i64 c.la, .int .i64 n, .int .i64 s, .slice ad (ints L).length ld]) w8.heap.size c n s ad ld (ints L) := setRow_heap _ _ _ _ _ _ z9
        have zF : (w9.setRow w8.heap.size #[.int .i64 c.n, .int .i64 c.cl, .int .i64 c.wi, .int .i64 c.bu, .int .i64 c.ca, .int .i64 c.sl, .int .i64 c.rq, .int .i64 c.ti, .int .i64 c.pe, .int .i64 c.la, .int .i64 n, .int .i64 s, .slice ad (ints L).length ld]).heap[w.heap.size + 1]? = some (.cells #[.int .i64 0, .int .i64 0, .int .i64 0, .int .i64 0, .int .i64 0, .int .i64 0, .int .i64 0, .int .i64 0, .int .i64 0, .int .i64 0, .int .i64 0, .int .i64 0, .slice none 0 0] 26 (0, 0)) := (hSf.block _ (Array.getElem?_eq_some_iff.1 z8).1).trans z8
        have hBF : Below w.heap.size w (w9.setRow w8.heap.size #[.int .i64 c.n, .int .i64 c.cl, .int .i64 c.wi, .int .i64 c.bu, .int .i64 c.ca, .int .i64 c.sl, .int .i64 c.rq, .int .i64 c.ti, .int .i64 c.pe, .int .i64 c.la, .int .i64 n, .int .i64 s, .slice ad (ints L).length ld]) := fin hB8 hSf
        have hap : ∀ x, ad = some x → w.heap.size + 1 < x.block := fun x hx => by have := hap0 x hx; rw [World.size_alloc] at this; have := (Array.getElem?_eq_some_iff.1 z8).1; omega
        clear hwa hSf hrow z9 cL
        obtain ⟨WF, hWF⟩ : ∃ WF, (w9.setRow w8.heap.size #[.int .i64 c.n, .int .i64 c.cl, .int .i64 c.wi, .int .i64 c.bu, .int .i64 c.ca, .int .i64 c.sl, .int .i64 c.rq, .int .i64 c.ti, .int .i64 c.pe, .int .i64 c.la, .int .i64 n, .int .i64 s, .slice ad (ints L).length ld]) = WF := ⟨_, rfl⟩
        rw [hWF] at hRF kF zF hBF ⊢
        clear hWF
        go_wp2_with (refine wpList_load_row rfl 26 _ rfl w8.heap.size rfl 26 #[.int .i64 c.n, .int .i64 c.cl, .int .i64 c.wi, .int .i64 c.bu, .int .i64 c.ca, .int .i64 c.sl, .int .i64 c.rq, .int .i64 c.ti, .int .i64 c.pe, .int .i64 c.la, .int .i64 n, .int .i64 s, .slice ad (ints L).length ld] (0, 0) _ kF Tryd.underlying26 rfl (by kernel_rfl) ?_)
        refine (cE WF ad ld hRF).mono ?_
        rintro e w12 ⟨rfl, hb12⟩
        have z12 : w12.heap[w.heap.size + 1]? = some (.cells #[.int .i64 0, .int .i64 0, .int .i64 0, .int .i64 0, .int .i64 0, .int .i64 0, .int .i64 0, .int .i64 0, .int .i64 0, .int .i64 0, .int .i64 0, .int .i64 0, .slice none 0 0] 26 (0, 0)) := (hb12.block _ (Array.getElem?_eq_some_iff.1 zF).1).trans zF
        have e12 := kF.below hb12
        have hB12 := fin hBF hb12
        cases hge : goodE c n s (ints L)
        · have HN : Hid (newF c n s zs = 251) := hide (by simp [newF, HG.out, hla, hL.out, hge])
          go_wp2_with (refine wpList_store_row rfl 26 _ _ rfl rfl (w.heap.size + 1) 26 _ #[.int .i64 0, .int .i64 0, .int .i64 0, .int .i64 0, .int .i64 0, .int .i64 0, .int .i64 0, .int .i64 0, .int .i64 0, .int .i64 0, .int .i64 0, .int .i64 0, .slice none 0 0] rfl rfl z12 (by kernel_rfl) rfl (by simp [Value.oneCell']) ?_)
          have zf := setRow_heap w12 (w.heap.size + 1) _ #[.int .i64 0, .int .i64 0, .int .i64 0, .int .i64 0, .int .i64 0, .int .i64 0, .int .i64 0, .int .i64 0, .int .i64 0, .int .i64 0, .int .i64 0, .int .i64 0, .slice none 0 0] _ _ z12
          try simp only [Exit.inBlock, Exit.then]
          refine bodyPost_ret (results_ct rfl _ _ _ rfl (run_loadVar_row _ _ 26 26 _ (0, 0) _ zf Tryd.underlying26 rfl (by kernel_rfl))) rfl ?_
          refine ⟨_, by rw [HN.out]; rfl, .inr ⟨by rw [HN.out]; decide, rfl⟩, hB12.trans (setRow_below (by omega))⟩
        · have HN : Hid (newF c n s zs = 0) := hide (by simp [newF, HG.out, hla, hL.out, hge])
          go_wp2_with (first | (refine wpList_load_row rfl 26 _ rfl w8.heap.size rfl 26 #[.int .i64 c.n, .int .i64 c.cl, .int .i64 c.wi, .int .i64 c.bu, .int .i64 c.ca, .int .i64 c.sl, .int .i64 c.rq, .int .i64 c.ti, .int .i64 c.pe, .int .i64 c.la, .int .i64 n, .int .i64 s, .slice ad (ints L).length ld] (0, 0) _ e12 Tryd.underlying26 rfl (by kernel_rfl) ?_) | (refine wpList_store_row rfl 26 _ _ rfl rfl (w.heap.size + 1) 26 _ #[.int .i64 c.n, .int .i64 c.cl, .int .i64 c.wi, .int .i64 c.bu, .int .i64 c.ca, .int .i64 c.sl, .int .i64 c.rq, .int .i64 c.ti, .int .i64 c.pe, .int .i64 c.la, .int .i64 n, .int .i64 s, .slice ad (ints L).length ld] rfl rfl z12 (by kernel_rfl) rfl (by simp [Value.oneCell']) ?_))
          have zf := setRow_heap w12 (w.heap.size + 1) _ #[.int .i64 c.n, .int .i64 c.cl, .int .i64 c.wi, .int .i64 c.bu, .int .i64 c.ca, .int .i64 c.sl, .int .i64 c.rq, .int .i64 c.ti, .int .i64 c.pe, .int .i64 c.la, .int .i64 n, .int .i64 s, .slice ad (ints L).length ld] _ _ z12
          try simp only [Exit.inBlock, Exit.then]
          refine bodyPost_ret (results_ct rfl _ _ _ rfl (run_loadVar_row _ _ 26 26 _ (0, 0) _ zf Tryd.underlying26 rfl (by kernel_rfl))) rfl ?_
          refine ⟨_, by rw [HN.out]; rfl, .inl ⟨HN.out, ad, ld, by rw [hL.out], ?_⟩, hB12.trans (setRow_below (by omega))⟩
          rw [hL.out]
          exact (hRF.below hb12).setRow (fun x hx => by have := hap x hx; omega)
end Go.Proofs.YtnndlgdlligjbabDoor.Ld
