/- message.bare at marks and statuses; Two arrays of bytes, compared.; votes compared; lists without an element -/
import Derived.Test.YtghgomglpgidoaaGreatJV3
import Derived.Test.YtghgomglpgidoaaGreatJV1
import Derived.Laws.StructEq
namespace Go.Proofs.YtghgomglpgidoaaGreat
open Go.RowKit
open Sha Tal
theorem store_cell {P : Program} (w : World) (b o : Nat) (ty : TypeId) (v : Value) (ht : w.there b o 1) (hi : (P.info? ty).map (·.size) = some 1) (hv : v.cells = #[v]) (h1 : v.oneCell' = true) :
    (storeVar ty ⟨b, o, none⟩ v).run P w = .ok () (w.setCells b o [v]) := by
  have := run_storeCells_cells (P := P) b o [v] 0 w (fun j hj => by simpa using (ht j (by simpa using hj)).1) (fun j hj => by simpa using (ht j (by simpa using hj)).2)
    (fun x hx => by rw [List.mem_singleton.1 hx]; exact h1)
  cases hq : P.info? ty with
  | none => simp [hq] at hi
  | some i =>
    have hs : i.size = 1 := by simpa [hq] using hi
    simp only [Nat.add_zero] at this
    simp [storeVar, sizeOf, typeInfo, hq, hv, hs, this]
theorem exec_storeC {P : Program} {o : Oper} {a : Act} {w w' : World} {ty : TypeId} {x y : Operand} {b off : Nat} {v : Value} (ho : o.op = .store ty x y) (hx : a.eval x = .pointer (some ⟨b, off, none⟩)) (hy : a.eval y = v) (hr : (storeVar ty ⟨b, off, none⟩ v).run P w = .ok () w') : (execOp a.eval o).run P w = .ok .skip w' := by
  unfold execOp
  simp only [ho, hx, hy, Instr.storeAt, Instr.sureAddr, Sem.run_bind, Sem.run_pure, Result.andThen_ok, hr]
theorem exec_loadC {P : Program} {o : Oper} {a : Act} {w : World} {ty : TypeId} {x : Operand} {b off : Nat} {v : Value} (ho : o.op = .load ty x) (hx : a.eval x = .pointer (some ⟨b, off, none⟩)) (hr : (loadVar ty ⟨b, off, none⟩).run P w = .ok v w) : (execOp a.eval o).run P w = .ok (.value v) w := by
  unfold execOp
  simp only [ho, hx, Instr.loadAt, Instr.sureAddr, Sem.run_bind, Sem.run_pure, Result.andThen_ok, hr]
theorem iszI : (Tryz.prog.info? 3).map (·.size) = some 1 := by kernel_rfl
theorem iszD : (Tryz.prog.info? 26).map (·.size) = some 32 := by kernel_rfl
set_option maxRecDepth 100000 in
set_option maxHeartbeats 2000000 in
theorem bare6 (e s : Int) (w : World) : Calls Tryz.prog 24 #[.agg (Ms.plain 6 e s Vt.zero zeros32).cells.toArray] w (BareOk w (Ms.plain 6 e s Vt.zero zeros32).cells) := by
  have hm : (Ms.plain 6 e s Vt.zero zeros32).ok := Ms.plain_ok 6 e s Vt.zero_ok zeros32_len zeros32_byte
  have hk : (Ms.plain 6 0 0 Vt.zero zeros32).ok := Ms.plain_ok 6 0 0 Vt.zero_ok zeros32_len zeros32_byte
  have hz0 : Ms.zero.ok := Ms.plain_ok 0 0 0 Vt.zero_ok zeros32_len zeros32_byte
  have lm := hm.len
  have lk := hk.len
  have lz := hz0.len
  have om := all_oneCell_toArray hm.one
  have ok := all_oneCell_toArray hk.one
  have hz := zeroM
  have hbk := build_kind 6
  have hat : ∀ (w' : World) b, w'.rangeAt b 0 (Ms.plain 6 e s Vt.zero zeros32).cells → w'.cell? ⟨b, 0, none⟩ = some (.int .i64 6) ∧ w'.cell? ⟨b, 1, none⟩ = some (.int .i64 e) ∧ w'.cell? ⟨b, 4, none⟩ = some (.int .i64 s) := fun w' b h => ⟨(hm.at h).k, (hm.at h).e, (hm.at h).s⟩
  have hput : ∀ (w' : World) b, w'.rangeAt b 0 (Ms.plain 6 0 0 Vt.zero zeros32).cells → w'.there b 0 119 → ((w'.setCells b 1 [.int .i64 e]).setCells b 4 [.int .i64 s]).rangeAt b 0 (Ms.plain 6 e s Vt.zero zeros32).cells := fun w' b h ht => by
    have h1 := range_put (pre := [Value.int .i64 6]) (mid := [Value.int .i64 0]) (vs := [Value.int .i64 e]) h 1 rfl (by have := there_part ht 1 1 (by omega); rwa [Nat.zero_add] at this) rfl
    exact range_put (pre := [Value.int .i64 6, .int .i64 e, .int .i64 0, .int .i64 0]) (mid := [Value.int .i64 0]) (vs := [Value.int .i64 s]) h1 4 rfl (by have := there_part (World.there_setCells ht b 1 [Value.int .i64 e]) 4 1 (by omega); rwa [Nat.zero_add] at this) rfl
  have im : (Tryz.prog.info? 37).map (·.size) = some (Ms.plain 6 e s Vt.zero zeros32).cells.length := by rw [lm]; exact iszM
  have im' : (Tryz.prog.info? 37).map (·.size) = some (Ms.plain 6 e s Vt.zero zeros32).cells.toArray.size := by rw [List.size_toArray, lm]; exact iszM
  have ik' : (Tryz.prog.info? 37).map (·.size) = some (Ms.plain 6 0 0 Vt.zero zeros32).cells.toArray.size := by rw [List.size_toArray, lk]; exact iszM
  clear hm hk hz0
  generalize (Ms.plain 6 e s Vt.zero zeros32).cells = q at *
  generalize (Ms.plain 6 0 0 Vt.zero zeros32).cells = qk at *
  generalize Ms.zero.cells = z at *
  obtain ⟨hA, hT, hB, hs⟩ := bare_box q z w lz
  go_enter Tryz.func24, Tryz.ntmps24
  go_upto_region 1 with fail
  go_name_world w1 hw1
  rw [show (w.alloc (.cells q.toArray 37)).alloc (.cells z.toArray 37) = w1 from hw1] at hA hT hB hs
  clear hw1
  have c0 := (hat _ _ hA).1
  obtain ⟨r2, hB2, hs2, hT2⟩ := fresh_store w1 z.toArray 37 qk (by rw [List.size_toArray, lz, lk])
  rw [show z.toArray.size = 119 by simpa using lz] at hT2
  have hTz : (w1.alloc (.cells z.toArray 37)).there w1.heap.size 0 qk.toArray.size := by
    have := there_new w1 z.toArray 37
    rw [show z.toArray.size = 119 by simpa using lz] at this
    rw [show qk.toArray.size = 119 by simpa using lk]
    exact this
  go_upto_region 2 with (first | (refine wpList_build rfl 37 [(0, .tmp 5)] rfl [(0, .int .i64 6)] _ rfl (hbk _) ?_) | refine wpList_store_mid rfl 37 _ _ rfl _ _ qk.toArray rfl rfl hTz ik' ok ?_)
  go_name_world w2 hw2
  rw [show (w1.alloc (.cells z.toArray 37)).setCells w1.heap.size 0 qk = w2 from hw2] at r2 hB2 hs2 hT2
  have hs2' : w1.heap.size < w2.heap.size := by omega
  clear hw2 hs2 hTz
  have hA2 := range_below hA hB2 (by omega)
  have hT1 := there_below hT hB2 (by omega)
  have hBw := hB.trans (hB2.mono (by omega))
  have c2 := (hat _ _ hA2).1
  clear hA hT hB hB2 c0
  go_upto_region 12 with fail
  obtain ⟨w5, hw5⟩ : ∃ w5, w2.drew = w5 := ⟨_, rfl⟩
  have hA5 : w5.rangeAt w.heap.size 0 q := by rw [← hw5]; exact (World.rangeAt_drew _ _ _ _).2 hA2
  have r5 : w5.rangeAt w1.heap.size 0 qk := by rw [← hw5]; exact (World.rangeAt_drew _ _ _ _).2 r2
  have hT5 : w5.there w1.heap.size 0 119 := by rw [← hw5]; exact hT2
  have hT15 : w5.there (w.heap.size + 1) 0 119 := by rw [← hw5]; exact hT1
  have hB5 : Below w.heap.size w w5 := by rw [← hw5]; exact hBw.drew
  refine hs_begin (S := fun w' => w'.rangeAt w.heap.size 0 q) 8 rfl (by kernel_rfl) ?_
  rw [hw5]
  clear hw5 hA2 r2 hT2 hT1 hBw c2
  have hS := hA5
  refine hs_take (i := 0) (d := some 28) (v := ?_) rfl (by kernel_rfl) (by kernel_rfl) (by kernel_rfl) (by rfl) ?_ hS rfl ?_
  rotate_left
  · intro w' hw
    go_simp
    try with_reducible rfl
  simp only [Act.put, List.setIfInBounds_toArray, List.set_cons_zero, List.set_cons_succ]
  refine hs_take (i := 1) (d := some 29) (v := ?_) rfl (by kernel_rfl) (by kernel_rfl) (by kernel_rfl) (by rfl) ?_ hS rfl ?_
  rotate_left
  · intro w' hw
    have := (hat _ _ hw).2.1
    go_simp
    try with_reducible rfl
  simp only [Act.put, List.setIfInBounds_toArray, List.set_cons_zero, List.set_cons_succ]
  refine hs_take (i := 2) (d := some 30) (v := ?_) rfl (by kernel_rfl) (by kernel_rfl) (by kernel_rfl) (by rfl) ?_ hS rfl ?_
  rotate_left
  · intro w' hw
    go_simp
    try with_reducible rfl
  simp only [Act.put, List.setIfInBounds_toArray, List.set_cons_zero, List.set_cons_succ]
  refine hs_take (i := 3) (d := some 31) (v := ?_) rfl (by kernel_rfl) (by kernel_rfl) (by kernel_rfl) (by rfl) ?_ hS rfl ?_
  rotate_left
  · intro w' hw
    have := (hat _ _ hw).2.2
    go_simp
    try with_reducible rfl
  simp only [Act.put, List.setIfInBounds_toArray, List.set_cons_zero, List.set_cons_succ]
  refine hs_take (i := 4) (d := some 32) (v := ?_) rfl (by kernel_rfl) (by kernel_rfl) (by kernel_rfl) (by rfl) ?_ hS rfl ?_
  rotate_left
  · intro w' hw
    go_simp
    try with_reducible rfl
  simp only [Act.put, List.setIfInBounds_toArray, List.set_cons_zero, List.set_cons_succ]
  refine hs_store (i := 5) (w' := w5.setCells w1.heap.size 1 [.int .i64 e]) rfl (by kernel_rfl) (by rfl) (exec_storeC rfl rfl rfl (store_cell _ _ _ _ _ (by have := there_part hT5 1 1 (by omega); rwa [Nat.zero_add] at this) iszI rfl rfl)) rfl (World.rangeAt_setCells_apart hS _ _ _ (.inl (by omega))) ?_
  have hS6 : (w5.setCells w1.heap.size 1 [.int .i64 e]).rangeAt w.heap.size 0 q := World.rangeAt_setCells_apart hS _ _ _ (.inl (by omega))
  have hT6 : (w5.setCells w1.heap.size 1 [.int .i64 e]).there w1.heap.size 0 119 := World.there_setCells hT5 _ _ _
  have hS := hS6
  refine hs_take (i := 6) (d := some 33) (v := ?_) rfl (by kernel_rfl) (by kernel_rfl) (by kernel_rfl) (by rfl) ?_ hS rfl ?_
  rotate_left
  · intro w' hw
    go_simp
    try with_reducible rfl
  simp only [Act.put, List.setIfInBounds_toArray, List.set_cons_zero, List.set_cons_succ]
  refine hs_store (i := 7) (w' := (w5.setCells w1.heap.size 1 [.int .i64 e]).setCells w1.heap.size 4 [.int .i64 s]) rfl (by kernel_rfl) (by rfl) (exec_storeC rfl rfl rfl (store_cell _ _ _ _ _ (by have := there_part hT6 4 1 (by omega); rwa [Nat.zero_add] at this) iszI rfl rfl)) rfl (World.rangeAt_setCells_apart hS6 _ _ _ (.inl (by omega))) ?_
  refine hs_done (by kernel_rfl) ?_
  have r3 := hput _ _ r5 hT5
  have hT3 : ((w5.setCells w1.heap.size 1 [.int .i64 e]).setCells w1.heap.size 4 [.int .i64 s]).there (w.heap.size + 1) 0 q.toArray.size := by
    rw [show q.toArray.size = 119 by simpa using lm]
    exact World.there_setCells (World.there_setCells hT15 _ _ _) _ _ _
  have hB3 := below_sets (show w.heap.size ≤ w1.heap.size by omega) [.int .i64 s] 4 _ (below_sets (show w.heap.size ≤ w1.heap.size by omega) [.int .i64 e] 1 _ hB5)
  clear hB5 r5 hT15
  go_upto_region 20 with fail
  go_name_world w3 hw3
  rw [show (w5.setCells w1.heap.size 1 [.int .i64 e]).setCells w1.heap.size 4 [.int .i64 s] = w3 from hw3] at r3 hT3 hB3
  clear hw3
  have r4 := World.rangeAt_setCells_same w3 (w.heap.size + 1) 0 q (by have := hT3; rwa [List.size_toArray] at this)
  have hB4 := below_sets (show w.heap.size ≤ w.heap.size + 1 by omega) q 0 _ hB3
  have hrs := run_loadVar_mid (P := Tryz.prog) _ (w.heap.size + 1) 0 37 q _ r4 Tryz.underlying37 rfl im
  go_wp2_with (first | (refine wpList_load_mid rfl 37 _ rfl _ _ rfl q _ r3 Tryz.underlying37 rfl im ?_) | (refine wpList_store_mid rfl 37 _ _ rfl _ _ q.toArray rfl rfl hT3 im' om ?_))
  exact bodyPost_ret (v := .agg q.toArray) (by simp [results, Tryz.results24, asAddr, hrs, Act.put]) rfl ⟨rfl, hB4⟩
set_option maxRecDepth 100000 in
set_option maxHeartbeats 2000000 in
theorem bare5 (e : Int) (d : List Int) (hd : d.length = 32) (hdb : ∀ z ∈ d, 0 ≤ z ∧ z < 256) (w : World) : Calls Tryz.prog 24 #[.agg (Ms.plain 5 e 0 Vt.zero d).cells.toArray] w (BareOk w (Ms.plain 5 e 0 Vt.zero d).cells) := by
  have hm : (Ms.plain 5 e 0 Vt.zero d).ok := Ms.plain_ok 5 e 0 Vt.zero_ok hd hdb
  have hk : (Ms.plain 5 0 0 Vt.zero zeros32).ok := Ms.plain_ok 5 0 0 Vt.zero_ok zeros32_len zeros32_byte
  have hz0 : Ms.zero.ok := Ms.plain_ok 0 0 0 Vt.zero_ok zeros32_len zeros32_byte
  have lm := hm.len
  have lk := hk.len
  have lz := hz0.len
  have om := all_oneCell_toArray hm.one
  have ok := all_oneCell_toArray hk.one
  have hz := zeroM
  have hbk := build_kind 5
  have hat : ∀ (w' : World) b, w'.rangeAt b 0 (Ms.plain 5 e 0 Vt.zero d).cells → w'.cell? ⟨b, 0, none⟩ = some (.int .i64 5) ∧ w'.cell? ⟨b, 1, none⟩ = some (.int .i64 e) ∧ w'.rangeAt b 48 (v8 d) := fun w' b h => ⟨(hm.at h).k, (hm.at h).e, (hm.at h).d⟩
  have ld : (v8 d).length = 32 := by rw [v8_length, hd]
  have od := all_oneCell_toArray (v8_one d)
  have hput : ∀ (w' : World) b, w'.rangeAt b 0 (Ms.plain 5 0 0 Vt.zero zeros32).cells → w'.there b 0 119 → ((w'.setCells b 1 [.int .i64 e]).setCells b 48 (v8 d)).rangeAt b 0 (Ms.plain 5 e 0 Vt.zero d).cells := fun w' b h ht => by
    have h1 := range_put (pre := [Value.int .i64 5]) (mid := [Value.int .i64 0]) (vs := [Value.int .i64 e]) h 1 rfl (by have := there_part ht 1 1 (by omega); rwa [Nat.zero_add] at this) rfl
    exact range_put (pre := [Value.int .i64 5, .int .i64 e, .int .i64 0, .int .i64 0, .int .i64 0, .bool false, .slice none 0 0] ++ (Vt.zero.cells ++ [Value.int .i64 0, .int .i64 0, .int .i64 0, .slice none 0 0, .slice none 0 0])) (mid := v8 zeros32) (vs := v8 d) (post := Vt.zero.cells ++ [Value.slice none 0 0, .string ⟨#[]⟩, .slice none 0 0]) h1 48 rfl (by rw [ld]; have := there_part (World.there_setCells ht b 1 [Value.int .i64 e]) 48 32 (by omega); rwa [Nat.zero_add] at this) (by rw [ld]; rfl)
  have im : (Tryz.prog.info? 37).map (·.size) = some (Ms.plain 5 e 0 Vt.zero d).cells.length := by rw [lm]; exact iszM
  have im' : (Tryz.prog.info? 37).map (·.size) = some (Ms.plain 5 e 0 Vt.zero d).cells.toArray.size := by rw [List.size_toArray, lm]; exact iszM
  have ik' : (Tryz.prog.info? 37).map (·.size) = some (Ms.plain 5 0 0 Vt.zero zeros32).cells.toArray.size := by rw [List.size_toArray, lk]; exact iszM
  have id : (Tryz.prog.info? 26).map (·.size) = some (v8 d).length := by rw [ld]; exact iszD
  have id' : (Tryz.prog.info? 26).map (·.size) = some (v8 d).toArray.size := by rw [List.size_toArray, ld]; exact iszD
  clear hm hk hz0
  generalize (Ms.plain 5 e 0 Vt.zero d).cells = q at *
  generalize (Ms.plain 5 0 0 Vt.zero zeros32).cells = qk at *
  generalize Ms.zero.cells = z at *
  clear hd hdb
  generalize v8 d = u at *
  obtain ⟨hA, hT, hB, hs⟩ := bare_box q z w lz
  go_enter Tryz.func24, Tryz.ntmps24
  go_upto_region 1 with fail
  go_name_world w1 hw1
  rw [show (w.alloc (.cells q.toArray 37)).alloc (.cells z.toArray 37) = w1 from hw1] at hA hT hB hs
  clear hw1
  have c0 := (hat _ _ hA).1
  obtain ⟨r2, hB2, hs2, hT2⟩ := fresh_store w1 z.toArray 37 qk (by rw [List.size_toArray, lz, lk])
  rw [show z.toArray.size = 119 by simpa using lz] at hT2
  have hTz : (w1.alloc (.cells z.toArray 37)).there w1.heap.size 0 qk.toArray.size := by
    have := there_new w1 z.toArray 37
    rw [show z.toArray.size = 119 by simpa using lz] at this
    rw [show qk.toArray.size = 119 by simpa using lk]
    exact this
  go_upto_region 2 with (first | (refine wpList_build rfl 37 [(0, .tmp 5)] rfl [(0, .int .i64 5)] _ rfl (hbk _) ?_) | refine wpList_store_mid rfl 37 _ _ rfl _ _ qk.toArray rfl rfl hTz ik' ok ?_)
  go_name_world w2 hw2
  rw [show (w1.alloc (.cells z.toArray 37)).setCells w1.heap.size 0 qk = w2 from hw2] at r2 hB2 hs2 hT2
  have hs2' : w1.heap.size < w2.heap.size := by omega
  clear hw2 hs2 hTz
  have hA2 := range_below hA hB2 (by omega)
  have hT1 := there_below hT hB2 (by omega)
  have hBw := hB.trans (hB2.mono (by omega))
  have c2 := (hat _ _ hA2).1
  clear hA hT hB hB2 c0
  go_upto_region 17 with fail
  obtain ⟨w5, hw5⟩ : ∃ w5, w2.drew = w5 := ⟨_, rfl⟩
  have hA5 : w5.rangeAt w.heap.size 0 q := by rw [← hw5]; exact (World.rangeAt_drew _ _ _ _).2 hA2
  have r5 : w5.rangeAt w1.heap.size 0 qk := by rw [← hw5]; exact (World.rangeAt_drew _ _ _ _).2 r2
  have hT5 : w5.there w1.heap.size 0 119 := by rw [← hw5]; exact hT2
  have hT15 : w5.there (w.heap.size + 1) 0 119 := by rw [← hw5]; exact hT1
  have hB5 : Below w.heap.size w w5 := by rw [← hw5]; exact hBw.drew
  refine hs_begin (S := fun w' => w'.rangeAt w.heap.size 0 q) 8 rfl (by kernel_rfl) ?_
  rw [hw5]
  clear hw5 hA2 r2 hT2 hT1 hBw c2
  have hS := hA5
  refine hs_take (i := 0) (d := some 52) (v := ?_) rfl (by kernel_rfl) (by kernel_rfl) (by kernel_rfl) (by rfl) ?_ hS rfl ?_
  rotate_left
  · intro w' hw
    go_simp
    try with_reducible rfl
  simp only [Act.put, List.setIfInBounds_toArray, List.set_cons_zero, List.set_cons_succ]
  refine hs_take (i := 1) (d := some 53) (v := ?_) rfl (by kernel_rfl) (by kernel_rfl) (by kernel_rfl) (by rfl) ?_ hS rfl ?_
  rotate_left
  · intro w' hw
    have := (hat _ _ hw).2.1
    go_simp
    try with_reducible rfl
  simp only [Act.put, List.setIfInBounds_toArray, List.set_cons_zero, List.set_cons_succ]
  refine hs_take (i := 2) (d := some 54) (v := ?_) rfl (by kernel_rfl) (by kernel_rfl) (by kernel_rfl) (by rfl) ?_ hS rfl ?_
  rotate_left
  · intro w' hw
    go_simp
    try with_reducible rfl
  simp only [Act.put, List.setIfInBounds_toArray, List.set_cons_zero, List.set_cons_succ]
  refine hs_take (i := 3) (d := some 55) (v := .agg u.toArray) rfl (by kernel_rfl) (by kernel_rfl) (by kernel_rfl) (by rfl) (fun w' hw => exec_loadC rfl rfl (run_loadVar_mid (P := Tryz.prog) w' _ _ 26 u _ ((hat _ _ hw).2.2) Tryz.underlying26 rfl id)) hS rfl ?_
  simp only [Act.put, List.setIfInBounds_toArray, List.set_cons_zero, List.set_cons_succ]
  refine hs_take (i := 4) (d := some 56) (v := ?_) rfl (by kernel_rfl) (by kernel_rfl) (by kernel_rfl) (by rfl) ?_ hS rfl ?_
  rotate_left
  · intro w' hw
    go_simp
    try with_reducible rfl
  simp only [Act.put, List.setIfInBounds_toArray, List.set_cons_zero, List.set_cons_succ]
  refine hs_store (i := 5) (w' := w5.setCells w1.heap.size 1 [.int .i64 e]) rfl (by kernel_rfl) (by rfl) (exec_storeC rfl rfl rfl (store_cell _ _ _ _ _ (by have := there_part hT5 1 1 (by omega); rwa [Nat.zero_add] at this) iszI rfl rfl)) rfl (World.rangeAt_setCells_apart hS _ _ _ (.inl (by omega))) ?_
  have hS6 : (w5.setCells w1.heap.size 1 [.int .i64 e]).rangeAt w.heap.size 0 q := World.rangeAt_setCells_apart hS _ _ _ (.inl (by omega))
  have hT6 : (w5.setCells w1.heap.size 1 [.int .i64 e]).there w1.heap.size 0 119 := World.there_setCells hT5 _ _ _
  have hS := hS6
  refine hs_take (i := 6) (d := some 57) (v := ?_) rfl (by kernel_rfl) (by kernel_rfl) (by kernel_rfl) (by rfl) ?_ hS rfl ?_
  rotate_left
  · intro w' hw
    go_simp
    try with_reducible rfl
  simp only [Act.put, List.setIfInBounds_toArray, List.set_cons_zero, List.set_cons_succ]
  refine hs_store (i := 7) (w' := (w5.setCells w1.heap.size 1 [.int .i64 e]).setCells w1.heap.size 48 u) rfl (by kernel_rfl) (by rfl) (exec_storeC rfl rfl rfl (run_storeVar_mid _ _ _ _ u.toArray (by rw [show u.toArray.size = 32 by simpa using ld]; have := there_part hT6 48 32 (by omega); rwa [Nat.zero_add] at this) id' od)) rfl (World.rangeAt_setCells_apart hS6 _ _ _ (.inl (by omega))) ?_
  refine hs_done (by kernel_rfl) ?_
  have r3 := hput _ _ r5 hT5
  have hT3 : ((w5.setCells w1.heap.size 1 [.int .i64 e]).setCells w1.heap.size 48 u).there (w.heap.size + 1) 0 q.toArray.size := by
    rw [show q.toArray.size = 119 by simpa using lm]
    exact World.there_setCells (World.there_setCells hT15 _ _ _) _ _ _
  have hB3 := below_sets (show w.heap.size ≤ w1.heap.size by omega) u 48 _ (below_sets (show w.heap.size ≤ w1.heap.size by omega) [.int .i64 e] 1 _ hB5)
  clear hB5 r5 hT15
  go_upto_region 20 with fail
  go_name_world w3 hw3
  rw [show (w5.setCells w1.heap.size 1 [.int .i64 e]).setCells w1.heap.size 48 u = w3 from hw3] at r3 hT3 hB3
  clear hw3
  have r4 := World.rangeAt_setCells_same w3 (w.heap.size + 1) 0 q (by have := hT3; rwa [List.size_toArray] at this)
  have hB4 := below_sets (show w.heap.size ≤ w.heap.size + 1 by omega) q 0 _ hB3
  have hrs := run_loadVar_mid (P := Tryz.prog) _ (w.heap.size + 1) 0 37 q _ r4 Tryz.underlying37 rfl im
  go_wp2_with (first | (refine wpList_load_mid rfl 37 _ rfl _ _ rfl q _ r3 Tryz.underlying37 rfl im ?_) | (refine wpList_store_mid rfl 37 _ _ rfl _ _ q.toArray rfl rfl hT3 im' om ?_))
  exact bodyPost_ret (v := .agg q.toArray) (by simp [results, Tryz.results24, asAddr, hrs, Act.put]) rfl ⟨rfl, hB4⟩
end Go.Proofs.YtghgomglpgidoaaGreat
namespace Go.Proofs.YtghgomglpgidoaaGreat
open Go.RowKit
open Sha
theorem all_range : ∀ (xs ys : List Int), xs.length = ys.length → ((List.range xs.length).all fun i => xs.getD i 0 == ys.getD i 0) = (xs == ys)
  | [], [], _ => rfl
  | x :: xs, y :: ys, h => by
    have ih := all_range xs ys (by simpa using h)
    rw [List.length_cons, List.range_succ_eq_map, List.all_cons, List.all_map]
    simp only [List.getD_cons_zero, Function.comp_def, List.getD_cons_succ, ih]
    simp [List.cons_beq_cons]
  | [], _ :: _, h => by simp at h
  | _ :: _, [], h => by simp at h
theorem run_equal8 {P : Program} (w : World) (d : Nat) (t e : TypeId) (n : Nat) (ht : P.underlying t = some (.array n e)) (he : P.underlying e = some (.int .u8)) (hsz : (P.info? e).map (·.size) = some 1)
    (xs ys : List Int) (hx : xs.length = n) (hy : ys.length = n) :
    (Op.equalIn (d + 2) t (.agg (v8 xs).toArray) (.agg (v8 ys).toArray)).run P w = .ok (xs == ys) w := by
  rw [← all_range xs ys (hx.trans hy.symm), hx, List.range_eq_range', Op.equalIn]
  simp only [Sem.run_bind, run_underlying ht, Result.andThen_ok, run_size hsz, Std.Legacy.Range.forIn_eq_forIn_range', Std.Legacy.Range.size, Nat.sub_zero, Nat.add_sub_cancel, Nat.div_one]
  have hl : ∀ i ∈ List.range' 0 n 1, i < n := fun i hi => by simpa using (List.mem_range'_1.1 hi).2
  generalize List.range' 0 n 1 = l at hl ⊢
  induction l with
  | nil => simp
  | cons i l ih =>
    have hi : i < n := hl i (by simp)
    have px : (part e (v8 xs).toArray (i * 1)).run P w = .ok (.int .u8 (xs.getD i 0)) w := by
      simp [part, isAgg, run_underlying he, v8, List.getElem?_eq_getElem (show i < xs.length by omega)]
    have py : (part e (v8 ys).toArray (i * 1)).run P w = .ok (.int .u8 (ys.getD i 0)) w := by
      simp [part, isAgg, run_underlying he, v8, List.getElem?_eq_getElem (show i < ys.length by omega)]
    have pe : (Op.equalIn (d + 1) e (.int .u8 (xs.getD i 0)) (.int .u8 (ys.getD i 0))).run P w = .ok (xs.getD i 0 == ys.getD i 0) w := run_equalIn_int w d e .u8 .u8 _ _ he
    simp only [List.forIn_cons, Sem.run_bind, px, py, pe, Result.andThen_ok, List.all_cons]
    cases hb : (xs.getD i 0 == ys.getD i 0)
    · simp
    · simp only [Bool.not_true, Bool.false_eq_true, if_false, Sem.run_pure, Result.andThen_ok, Bool.true_and]
      exact ih fun j hj => hl j (by simp [hj])
theorem eql_any (xs ys : List Int) (hx : xs.length = 32) (hy : ys.length = 32) (w : World) : (binOp .eql 26 (.agg (v8 xs).toArray) (.agg (v8 ys).toArray)).run Tryz.prog w = .ok (.bool (xs == ys)) w := by
  rw [run_eql_struct, run_equal8 w 9998 26 5 32 Tryz.underlying26 Tryz.underlying5 isz8 xs ys hx hy]; rfl
theorem neq_any (xs ys : List Int) (hx : xs.length = 32) (hy : ys.length = 32) (w : World) : (binOp .neq 26 (.agg (v8 xs).toArray) (.agg (v8 ys).toArray)).run Tryz.prog w = .ok (.bool (!(xs == ys))) w := by
  rw [run_neq_struct, run_equal8 w 9998 26 5 32 Tryz.underlying26 Tryz.underlying5 isz8 xs ys hx hy]; rfl
theorem eql_digest (d : List Int) (hd : d.length = 32) (w : World) : (binOp .eql 26 (.agg (v8 d).toArray) (.agg (v8 d).toArray)).run Tryz.prog w = .ok (.bool true) w := by
  rw [eql_any d d hd hd]; simp
theorem neq_digest (d : List Int) (hd : d.length = 32) (w : World) : (binOp .neq 26 (.agg (v8 d).toArray) (.agg (v8 d).toArray)).run Tryz.prog w = .ok (.bool false) w := by
  rw [neq_any d d hd hd]; simp
end Go.Proofs.YtghgomglpgidoaaGreat
namespace Go.Proofs.YtghgomglpgidoaaGreat
open Go.RowKit
open Sha Tal
theorem fldV : (Tryz.prog.fieldsOf 28).toList.map (fun f => (f.name, f.type, f.offset)) = [("Kind", 3, 0), ("Epoch", 3, 1), ("View", 3, 2), ("Slot", 3, 3), ("Digest", 26, 4)] := by kernel_rfl
theorem undV : Tryz.prog.underlying 28 = some (.struct (Tryz.prog.fieldsOf 28)) := by kernel_rfl
theorem sihV : Tryz.prog.stoodInHeld 28 = false := by kernel_rfl
theorem part_intV (w : World) (q : List Value) (i : Nat) (c : Int) (h : q[i]? = some (.int .i64 c)) : (part 3 q.toArray i).run Tryz.prog w = .ok (.int .i64 c) w := by
  simp [part, isAgg, run_underlying Tryz.underlying3, h]
theorem part_digV (w : World) (x : Vt) (hd : x.d.length = 32) : (part 26 x.cells.toArray 4).run Tryz.prog w = .ok (.agg (v8 x.d).toArray) w := by
  have hx : List.take 32 (List.drop 4 x.cells) = v8 x.d := by
    show List.take 32 (v8 x.d) = v8 x.d
    rw [List.take_of_length_le (by rw [v8_length, hd]; exact Nat.le_refl _)]
  simp [part, isAgg, run_underlying Tryz.underlying26, run_size iszD, hx]
def vtB (x y : Vt) : Bool := (x.k == y.k) && ((x.e == y.e) && ((x.v == y.v) && ((x.s == y.s) && (x.d == y.d))))
theorem vtB_iff {x y : Vt} : vtB x y = true ↔ x = y := by
  obtain ⟨k, e, v, s, d⟩ := x
  obtain ⟨k', e', v', s', d'⟩ := y
  simp [vtB]
theorem vtEqIn (x y : Vt) (hx : x.d.length = 32) (hy : y.d.length = 32) (d : Nat) (w : World) :
    (Op.equalIn (d + 2 + 1) 28 (.agg x.cells.toArray) (.agg y.cells.toArray)).run Tryz.prog w = .ok (vtB x y) w := by
  rw [run_equalIn_struct w (d + 2) 28 _ _ undV sihV]
  have hf := fldV
  generalize (Tryz.prog.fieldsOf 28).toList = fs at hf
  obtain ⟨f0, f1, f2, f3, f4, rfl⟩ : ∃ f0 f1 f2 f3 f4, fs = [f0, f1, f2, f3, f4] := by
    rcases fs with _ | ⟨f0, _ | ⟨f1, _ | ⟨f2, _ | ⟨f3, _ | ⟨f4, _ | ⟨f5, fs⟩⟩⟩⟩⟩⟩ <;> simp at hf
    exact ⟨f0, f1, f2, f3, f4, rfl⟩
  simp only [List.map_cons, List.map_nil, List.cons.injEq, Prod.mk.injEq, and_true] at hf
  obtain ⟨⟨a0, b0, d0⟩, ⟨a1, b1, d1⟩, ⟨a2, b2, d2⟩, ⟨a3, b3, d3⟩, ⟨a4, b4, d4⟩⟩ := hf
  have p0 := part_intV w x.cells 0 x.k rfl
  have q0 := part_intV w y.cells 0 y.k rfl
  have p1 := part_intV w x.cells 1 x.e rfl
  have q1 := part_intV w y.cells 1 y.e rfl
  have p2 := part_intV w x.cells 2 x.v rfl
  have q2 := part_intV w y.cells 2 y.v rfl
  have p3 := part_intV w x.cells 3 x.s rfl
  have q3 := part_intV w y.cells 3 y.s rfl
  have p4 := part_digV w x hx
  have q4 := part_digV w y hy
  have e0 := fun a b => run_equalIn_int (P := Tryz.prog) w (d + 1) 3 .i64 .i64 a b Tryz.underlying3
  have e4 := run_equal8 (P := Tryz.prog) w d 26 5 32 Tryz.underlying26 Tryz.underlying5 isz8 x.d y.d hx hy
  unfold vtB
  generalize x.cells.toArray = q at *
  generalize y.cells.toArray = q' at *
  obtain ⟨T, hT⟩ : ∃ T, (v8 x.d).toArray = T := ⟨_, rfl⟩
  obtain ⟨T', hT'⟩ : ∃ T, (v8 y.d).toArray = T := ⟨_, rfl⟩
  rw [hT] at p4 e4
  rw [hT'] at q4 e4
  clear hT hT'
  obtain ⟨D, hD⟩ : ∃ D, d + 1 + 1 = D := ⟨_, rfl⟩
  have e4 : (Op.equalIn (d + 1 + 1) 26 (.agg T) (.agg T')).run Tryz.prog w = .ok (x.d == y.d) w := e4
  rw [hD] at e4
  have n0 : ¬ ("Kind" = "_") := by decide
  have n1 : ¬ ("Epoch" = "_") := by decide
  have n2 : ¬ ("View" = "_") := by decide
  have n3 : ¬ ("Slot" = "_") := by decide
  have n4 : ¬ ("Digest" = "_") := by decide
  simp only [Op.eqFields, a0, a1, a2, a3, a4, b0, b1, b2, b3, b4, d0, d1, d2, d3, d4, ne_eq, n0, n1, n2, n3, n4, not_false_eq_true, if_true]
  rw [show d + 2 = d + 1 + 1 from rfl, hD]
  rw [hD] at e0
  clear hD
  simp only [Sem.run_bind, p0, q0, Result.andThen_ok, e0]
  cases (x.k == y.k)
  · simp only [Bool.not_false, if_true, Sem.run_pure, Bool.false_and]
  · simp only [Bool.not_true, Bool.false_eq_true, if_false, Sem.run_bind, p1, q1, Result.andThen_ok, e0, Bool.true_and]
    cases (x.e == y.e)
    · simp only [Bool.not_false, if_true, Sem.run_pure, Bool.false_and]
    · simp only [Bool.not_true, Bool.false_eq_true, if_false, Sem.run_bind, p2, q2, Result.andThen_ok, e0, Bool.true_and]
      cases (x.v == y.v)
      · simp only [Bool.not_false, if_true, Sem.run_pure, Bool.false_and]
      · simp only [Bool.not_true, Bool.false_eq_true, if_false, Sem.run_bind, p3, q3, Result.andThen_ok, e0, Bool.true_and]
        cases (x.s == y.s)
        · simp only [Bool.not_false, if_true, Sem.run_pure, Bool.false_and]
        · simp only [Bool.not_true, Bool.false_eq_true, if_false, Sem.run_bind, p4, q4, Result.andThen_ok, e4, Bool.true_and]
          cases (x.d == y.d)
          · simp only [Bool.not_false, if_true, Sem.run_pure]
          · simp only [Bool.not_true, Bool.false_eq_true, if_false, Sem.run_pure]
theorem eqInV (x y : Vt) (hx : x.d.length = 32) (hy : y.d.length = 32) (w : World) : (Op.equalIn 10000 28 (.agg x.cells.toArray) (.agg y.cells.toArray)).run Tryz.prog w = .ok (vtB x y) w := vtEqIn x y hx hy 9997 w
theorem eqInD (x y : List Int) (hx : x.length = 32) (hy : y.length = 32) (w : World) : (Op.equalIn 10000 26 (.agg (v8 x).toArray) (.agg (v8 y).toArray)).run Tryz.prog w = .ok (x == y) w := run_equal8 w 9998 26 5 32 Tryz.underlying26 Tryz.underlying5 isz8 x y hx hy
theorem vtB_self (x : Vt) : vtB x x = true := vtB_iff.2 rfl
/-- nothing against nothing -/
theorem eqR0 (w : World) : Calls Tryz.prog 80 #[.slice none 0 0, .slice none 0 0] w fun e w' => e = .returned (.bool true) ∧ w' = w := by
  go_enter Tryz.func80, Tryz.ntmps80
  go_wp2
  go_loopw [13] (fun iv wr => iv = .int .i64 0 ∧ wr = w) (fun _ _ => 0)
  case atStart => exact ⟨rfl, rfl⟩
  case round =>
    obtain ⟨rfl, rfl⟩ := hrel
    go_wp2
    go_ret
    exact ⟨rfl, rfl⟩
theorem eqE0 (w : World) : Calls Tryz.prog 36 #[.slice none 0 0, .slice none 0 0] w fun e w' => e = .returned (.bool true) ∧ w' = w := by
  go_enter Tryz.func36, Tryz.ntmps36
  go_wp2
  go_loopw [13] (fun iv wr => iv = .int .i64 0 ∧ wr = w) (fun _ _ => 0)
  case atStart => exact ⟨rfl, rfl⟩
  case round =>
    obtain ⟨rfl, rfl⟩ := hrel
    go_wp2
    go_ret
    exact ⟨rfl, rfl⟩
theorem eqS0 (w : World) : Calls Tryz.prog 38 #[.slice none 0 0, .slice none 0 0] w fun e w' => e = .returned (.bool true) ∧ w' = w := by
  go_enter Tryz.func38, Tryz.ntmps38
  go_wp2
  go_loopw [13] (fun iv wr => iv = .int .i64 0 ∧ wr = w) (fun _ _ => 0)
  case atStart => exact ⟨rfl, rfl⟩
  case round =>
    obtain ⟨rfl, rfl⟩ := hrel
    go_wp2
    go_ret
    exact ⟨rfl, rfl⟩
theorem eqH0 (f : Value) (w : World) : Calls Tryz.prog 81 #[.slice none 0 0, .slice none 0 0, f] w fun e w' => e = .returned (.bool true) ∧ w' = w := by
  go_enter Tryz.func81, Tryz.ntmps81
  go_wp2
  go_loopw [17] (fun iv wr => iv = .int .i64 0 ∧ wr = w) (fun _ _ => 0)
  case atStart => exact ⟨rfl, rfl⟩
  case round =>
    obtain ⟨rfl, rfl⟩ := hrel
    go_wp2
    go_ret
    exact ⟨rfl, rfl⟩
theorem xsH0 (w : World) : Calls Tryz.prog 39 #[.slice none 0 0, .slice none 0 0] w fun e w' => e = .returned (.bool true) ∧ w' = w := by
  go_enter Tryz.func39, Tryz.ntmps39
  go_wp2
  go_loopw [5] (fun iv wr => iv = .int .i64 0 ∧ wr = w) (fun _ _ => 0)
  case atStart => exact ⟨rfl, rfl⟩
  case round =>
    obtain ⟨rfl, rfl⟩ := hrel
    go_wp2
    go_ret
    exact ⟨rfl, rfl⟩
theorem xsN0 (w : World) : Calls Tryz.prog 41 #[.slice none 0 0, .slice none 0 0] w fun e w' => e = .returned (.bool true) ∧ w' = w := by
  go_enter Tryz.func41, Tryz.ntmps41
  go_wp2
  go_loopw [5] (fun iv wr => iv = .int .i64 0 ∧ wr = w) (fun _ _ => 0)
  case atStart => exact ⟨rfl, rfl⟩
  case round =>
    obtain ⟨rfl, rfl⟩ := hrel
    go_wp2
    go_ret
    exact ⟨rfl, rfl⟩
theorem xsS0 (w : World) : Calls Tryz.prog 43 #[.slice none 0 0, .slice none 0 0] w fun e w' => e = .returned (.bool true) ∧ w' = w := by
  go_enter Tryz.func43, Tryz.ntmps43
  go_wp2
  go_loopw [5] (fun iv wr => iv = .int .i64 0 ∧ wr = w) (fun _ _ => 0)
  case atStart => exact ⟨rfl, rfl⟩
  case round =>
    obtain ⟨rfl, rfl⟩ := hrel
    go_wp2
    go_ret
    exact ⟨rfl, rfl⟩
theorem xh0 (w : World) : Calls Tryz.prog 28 #[.slice none 0 0] w fun e w' => e = .returned (.bool true) ∧ w' = w := by
  go_enter Tryz.func28, Tryz.ntmps28
  go_wp2
  go_loopw [3] (fun iv wr => iv = .int .i64 0 ∧ wr = w) (fun _ _ => 0)
  case atStart => exact ⟨rfl, rfl⟩
  case round =>
    obtain ⟨rfl, rfl⟩ := hrel
    go_wp2
    go_ret
    exact ⟨rfl, rfl⟩
theorem xn0 (w : World) : Calls Tryz.prog 30 #[.slice none 0 0] w fun e w' => e = .returned (.bool true) ∧ w' = w := by
  go_enter Tryz.func30, Tryz.ntmps30
  go_wp2
  go_loopw [3] (fun iv wr => iv = .int .i64 0 ∧ wr = w) (fun _ _ => 0)
  case atStart => exact ⟨rfl, rfl⟩
  case round =>
    obtain ⟨rfl, rfl⟩ := hrel
    go_wp2
    go_ret
    exact ⟨rfl, rfl⟩
theorem xg0 (w : World) : Calls Tryz.prog 31 #[.slice none 0 0] w fun e w' => e = .returned (.bool true) ∧ w' = w := by
  go_enter Tryz.func31, Tryz.ntmps31
  go_wp2
  go_loopw [3] (fun iv wr => iv = .int .i64 0 ∧ wr = w) (fun _ _ => 0)
  case atStart => exact ⟨rfl, rfl⟩
  case round =>
    obtain ⟨rfl, rfl⟩ := hrel
    go_wp2
    go_ret
    exact ⟨rfl, rfl⟩
theorem amR0 (m : Int) (f : Value) (hm : 0 ≤ m) (w : World) : Calls Tryz.prog 114 #[.slice none 0 0, .int .i64 m, f] w fun e w' => e = .returned (.bool true) ∧ w' = w := by
  go_enter Tryz.func114, Tryz.ntmps114
  go_wp2
  go_loopw [15] (fun iv wr => iv = .int .i64 0 ∧ wr = w) (fun _ _ => 0)
  case atStart => exact ⟨rfl, rfl⟩
  case round =>
    obtain ⟨rfl, rfl⟩ := hrel
    go_wp2
    go_ret
    exact ⟨rfl, rfl⟩
theorem amH0 (m : Int) (f : Value) (hm : 0 ≤ m) (w : World) : Calls Tryz.prog 116 #[.slice none 0 0, .int .i64 m, f] w fun e w' => e = .returned (.bool true) ∧ w' = w := by
  go_enter Tryz.func116, Tryz.ntmps116
  go_wp2
  go_loopw [15] (fun iv wr => iv = .int .i64 0 ∧ wr = w) (fun _ _ => 0)
  case atStart => exact ⟨rfl, rfl⟩
  case round =>
    obtain ⟨rfl, rfl⟩ := hrel
    go_wp2
    go_ret
    exact ⟨rfl, rfl⟩
theorem amS0 (m : Int) (f : Value) (hm : 0 ≤ m) (w : World) : Calls Tryz.prog 118 #[.slice none 0 0, .int .i64 m, f] w fun e w' => e = .returned (.bool true) ∧ w' = w := by
  go_enter Tryz.func118, Tryz.ntmps118
  go_wp2
  go_loopw [15] (fun iv wr => iv = .int .i64 0 ∧ wr = w) (fun _ _ => 0)
  case atStart => exact ⟨rfl, rfl⟩
  case round =>
    obtain ⟨rfl, rfl⟩ := hrel
    go_wp2
    go_ret
    exact ⟨rfl, rfl⟩
theorem amE0 (m : Int) (f : Value) (hm : 0 ≤ m) (w : World) : Calls Tryz.prog 77 #[.slice none 0 0, .int .i64 m, f] w fun e w' => e = .returned (.bool true) ∧ w' = w := by
  go_enter Tryz.func77, Tryz.ntmps77
  go_wp2
  go_loopw [15] (fun iv wr => iv = .int .i64 0 ∧ wr = w) (fun _ _ => 0)
  case atStart => exact ⟨rfl, rfl⟩
  case round =>
    obtain ⟨rfl, rfl⟩ := hrel
    go_wp2
    go_ret
    exact ⟨rfl, rfl⟩
/-- batches without requests -/
def bat0 (q : Bool) : Value := .agg #[.bool q, .slice none 0 0]
theorem bsame0 (q : Bool) (w : World) : Calls Tryz.prog 34 #[bat0 q, bat0 q] w fun e w' => e = .returned (.bool true) ∧ Below w.heap.size w w' := by
  have hB : Below w.heap.size w ((w.alloc (.cells #[.bool q, .slice none 0 0] 24)).alloc (.cells #[.bool q, .slice none 0 0] 24)) := ((Below.refl _ w).alloc (Nat.le_refl _) _).alloc (by simp) _
  unfold bat0
  cases q
  all_goals
    go_enter Tryz.func34, Tryz.ntmps34
    go_wp2_with (go_at_call 80; refine (eqR0 _).mono ?_; rintro e1 w1 ⟨rfl, hx⟩; obtain rfl := hx.symm; clear hx)
    go_ret
    exact ⟨rfl, hB⟩
theorem xbsame0 (q : Bool) (w : World) : Calls Tryz.prog 40 #[bat0 q, bat0 q] w fun e w' => e = .returned (.bool true) ∧ Below w.heap.size w w' := by
  have hB : Below w.heap.size w ((w.alloc (.cells #[.bool q, .slice none 0 0] 24)).alloc (.cells #[.bool q, .slice none 0 0] 24)) := ((Below.refl _ w).alloc (Nat.le_refl _) _).alloc (by simp) _
  unfold bat0
  cases q
  all_goals
    go_enter Tryz.func40, Tryz.ntmps40
    go_wp2
    go_loopw [5] (fun iv wr => iv = .int .i64 0 ∧ wr = ((w.alloc (.cells #[.bool _, .slice none 0 0] 24)).alloc (.cells #[.bool _, .slice none 0 0] 24))) (fun _ _ => 0)
    case atStart => exact ⟨rfl, rfl⟩
    case round =>
      obtain ⟨rfl, rfl⟩ := hrel
      go_wp2
      go_ret
      exact ⟨rfl, hB⟩
theorem plain0 (q : Bool) (w : World) : Calls Tryz.prog 29 #[bat0 q] w fun e w' => e = .returned (.bool true) ∧ Below w.heap.size w w' := by
  have hB : Below w.heap.size w (w.alloc (.cells #[.bool q, .slice none 0 0] 24)) := (Below.refl _ w).alloc (Nat.le_refl _) _
  unfold bat0
  cases q
  all_goals
    go_enter Tryz.func29, Tryz.ntmps29
    go_wp2
    go_loopw [3] (fun iv wr => iv = .int .i64 0 ∧ wr = (w.alloc (.cells #[.bool _, .slice none 0 0] 24))) (fun _ _ => 0)
    case atStart => exact ⟨rfl, rfl⟩
    case round =>
      obtain ⟨rfl, rfl⟩ := hrel
      go_wp2
      go_ret
      exact ⟨rfl, hB⟩
theorem batMay0 (q : Bool) (w : World) : Calls Tryz.prog 75 #[bat0 q] w fun e w' => e = .returned (.bool true) ∧ Below w.heap.size w w' := by
  have hB : Below w.heap.size w (w.alloc (.cells #[.bool q, .slice none 0 0] 24)) := (Below.refl _ w).alloc (Nat.le_refl _) _
  unfold bat0
  cases q
  all_goals
    go_enter Tryz.func75, Tryz.ntmps75
    go_wp2_with (go_at_call 114; refine (amR0 _ _ (by omega) _).mono ?_; rintro e1 w1 ⟨rfl, hx⟩; obtain rfl := hx.symm; clear hx)
    go_ret
    exact ⟨rfl, hB⟩
theorem sigMay0 (w : World) : Calls Tryz.prog 79 #[.slice none 0 0] w fun e w' => e = .returned (.bool true) ∧ w' = w := by
  go_enter Tryz.func79, Tryz.ntmps79
  go_wp2_with (go_at_call 118; refine (amS0 _ _ (by omega) _).mono ?_; rintro e1 w1 ⟨rfl, hx⟩; obtain rfl := hx.symm; clear hx)
  go_ret
  exact ⟨rfl, rfl⟩
/-- changes without anything -/
def chg0 : Value := .agg #[.int .i64 0, .int .i64 0, .int .i64 0, .slice none 0 0]
theorem schg0 (w : World) : Calls Tryz.prog 35 #[chg0, chg0] w fun e w' => e = .returned (.bool true) ∧ Below w.heap.size w w' := by
  have hB : Below w.heap.size w ((w.alloc (.cells #[.int .i64 0, .int .i64 0, .int .i64 0, .slice none 0 0] 31)).alloc (.cells #[.int .i64 0, .int .i64 0, .int .i64 0, .slice none 0 0] 31)) := ((Below.refl _ w).alloc (Nat.le_refl _) _).alloc (by simp) _
  unfold chg0
  go_enter Tryz.func35, Tryz.ntmps35
  go_wp2_with (go_at_call 81; refine (eqH0 _ _).mono ?_; rintro e1 w1 ⟨rfl, hx⟩; obtain rfl := hx.symm; clear hx)
  go_ret
  exact ⟨rfl, hB⟩
theorem chgMay0 (w : World) : Calls Tryz.prog 76 #[chg0] w fun e w' => e = .returned (.bool true) ∧ Below w.heap.size w w' := by
  have hB : Below w.heap.size w (w.alloc (.cells #[.int .i64 0, .int .i64 0, .int .i64 0, .slice none 0 0] 31)) := (Below.refl _ w).alloc (Nat.le_refl _) _
  have i1 : inB 0 1048576 = true := rfl
  have i2 : inB 0 64 = true := rfl
  have i3 : inB 0 1099511627776 = true := rfl
  unfold chg0
  go_enter Tryz.func76, Tryz.ntmps76
  go_wp2_with (first | (go_at_call 72; refine (within_any _ _ _).mono ?_; rintro e1 w1 ⟨rfl, hx⟩; obtain rfl := hx.symm; clear hx; (first | rw [i1] | rw [i2] | rw [i3])) | (go_at_call 116; refine (amH0 _ _ (by omega) _).mono ?_; rintro e1 w1 ⟨rfl, hx⟩; obtain rfl := hx.symm; clear hx))
  go_ret
  exact ⟨rfl, hB⟩
end Go.Proofs.YtghgomglpgidoaaGreat
