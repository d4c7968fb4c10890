/- message.bare at marks and statuses; Two arrays of bytes, compared.; votes compared; lists without an element; certs and messages without lists against themselves; digests' parts: what the contracts of digests are told; Encode; message.Vote, message.Mark; the document's only, at votes and marks; the document's putNums, putDigest; the document's putVote, bytes, Encode, Vote, Mark; A reader: its block, Err, left, take, fail, value.; The place a reader is at: number.; A reader reads a number: Num.; slices.Clone over bytes, and Read.; A reader reads a text: next, Text.; The document's reader: number.; The document's reader: Num.; The readers: Raw of the program's; Read of the document's.; message's reader: what the chapter's example needs; what was put is read back; Decode of a status; the chapter's example; rows of signs, envelopes, requests; envelopes and requests compared -/
import Derived.Test.YtinndbipomlokaaGreatJA0
import Derived.Test.YtinndbipomlokaaGreatJA1
import Derived.Laws.StructEq
import Derived.Lib.SlBytesConst
import Derived.WalkLawsBesides
import Derived.SliceStrings
import Derived.BigQuiet
import Derived.Lib.ConvBytes
import Derived.Laws.ResultCell
namespace Go.Proofs.YtinndbipomlokaaGreat
open Go.RowKit
open Sha Tal
theorem store_cell {P : Program} (w : World) (b o : Nat) (ty : TypeId) (v : Value) (ht : w.there b o 1) (hi : (P.info? ty).map (·.size) = some 1) (hv : v.cells = #[v]) (h1 : v.oneCell' = true) :
  (storeVar ty ⟨b, o, none⟩ v).run P w = .ok () (w.setCells b o [v]) := by
 have := run_storeCells_cells (P := P) b o [v] 0 w (fun j hj => by simpa using (ht j (by simpa using hj)).1) (fun j hj => by simpa using (ht j (by simpa using hj)).2)
  (fun x hx => by rw [List.mem_singleton.1 hx]; exact h1)
 cases hq : P.info? ty with
 | none => simp [hq] at hi
 | some i =>
  have hs : i.size = 1 := by simpa [hq] using hi
  simp only [Nat.add_zero] at this
  simp [storeVar, sizeOf, typeInfo, hq, hv, hs, this]
theorem exec_storeC {P : Program} {o : Oper} {a : Act} {w w' : World} {ty : TypeId} {x y : Operand} {b off : Nat} {v : Value} (ho : o.op = .store ty x y) (hx : a.eval x = .pointer (some ⟨b, off, none⟩)) (hy : a.eval y = v) (hr : (storeVar ty ⟨b, off, none⟩ v).run P w = .ok () w') : (execOp a.eval o).run P w = .ok .skip w' := by
 unfold execOp
 simp only [ho, hx, hy, Instr.storeAt, Instr.sureAddr, Sem.run_bind, Sem.run_pure, Result.andThen_ok, hr]
theorem exec_loadC {P : Program} {o : Oper} {a : Act} {w : World} {ty : TypeId} {x : Operand} {b off : Nat} {v : Value} (ho : o.op = .load ty x) (hx : a.eval x = .pointer (some ⟨b, off, none⟩)) (hr : (loadVar ty ⟨b, off, none⟩).run P w = .ok v w) : (execOp a.eval o).run P w = .ok (.value v) w := by
 unfold execOp
 simp only [ho, hx, Instr.loadAt, Instr.sureAddr, Sem.run_bind, Sem.run_pure, Result.andThen_ok, hr]
theorem iszI : (Tryz.prog.info? 3).map (·.size) = some 1 := by kernel_rfl
theorem iszD : (Tryz.prog.info? 26).map (·.size) = some 32 := by kernel_rfl
set_option maxRecDepth 100000 in
set_option maxHeartbeats 2000000 in
theorem bare6 (e s : Int) (w : World) : Calls Tryz.prog 54 #[.agg (Ms.plain 6 e s Vt.zero zeros32).cells.toArray] w (BareOk w (Ms.plain 6 e s Vt.zero zeros32).cells) := by
 have hm : (Ms.plain 6 e s Vt.zero zeros32).ok := Ms.plain_ok 6 e s Vt.zero_ok zeros32_len zeros32_byte
 have hk : (Ms.plain 6 0 0 Vt.zero zeros32).ok := Ms.plain_ok 6 0 0 Vt.zero_ok zeros32_len zeros32_byte
 have hz0 : Ms.zero.ok := Ms.plain_ok 0 0 0 Vt.zero_ok zeros32_len zeros32_byte
 have lm := hm.len
 have lk := hk.len
 have lz := hz0.len
 have om := all_oneCell_toArray hm.one
 have ok := all_oneCell_toArray hk.one
 have hz := zeroM
 have hbk := build_kind 6
 have hat : ∀ (w' : World) b, w'.rangeAt b 0 (Ms.plain 6 e s Vt.zero zeros32).cells → w'.cell? ⟨b, 0, none⟩ = some (.int .i64 6) ∧ w'.cell? ⟨b, 1, none⟩ = some (.int .i64 e) ∧ w'.cell? ⟨b, 4, none⟩ = some (.int .i64 s) := fun w' b h => ⟨(hm.at h).k, (hm.at h).e, (hm.at h).s⟩
 have hput : ∀ (w' : World) b, w'.rangeAt b 0 (Ms.plain 6 0 0 Vt.zero zeros32).cells → w'.there b 0 119 → ((w'.setCells b 1 [.int .i64 e]).setCells b 4 [.int .i64 s]).rangeAt b 0 (Ms.plain 6 e s Vt.zero zeros32).cells := fun w' b h ht => by
  have h1 := range_put (pre := [Value.int .i64 6]) (mid := [Value.int .i64 0]) (vs := [Value.int .i64 e]) h 1 rfl (by have := there_part ht 1 1 (by omega); rwa [Nat.zero_add] at this) rfl
  exact range_put (pre := [Value.int .i64 6, .int .i64 e, .int .i64 0, .int .i64 0]) (mid := [Value.int .i64 0]) (vs := [Value.int .i64 s]) h1 4 rfl (by have := there_part (World.there_setCells ht b 1 [Value.int .i64 e]) 4 1 (by omega); rwa [Nat.zero_add] at this) rfl
 have im : (Tryz.prog.info? 63).map (·.size) = some (Ms.plain 6 e s Vt.zero zeros32).cells.length := by rw [lm]; exact iszM
 have im' : (Tryz.prog.info? 63).map (·.size) = some (Ms.plain 6 e s Vt.zero zeros32).cells.toArray.size := by rw [List.size_toArray, lm]; exact iszM
 have ik' : (Tryz.prog.info? 63).map (·.size) = some (Ms.plain 6 0 0 Vt.zero zeros32).cells.toArray.size := by rw [List.size_toArray, lk]; exact iszM
 clear hm hk hz0
 generalize (Ms.plain 6 e s Vt.zero zeros32).cells = q at *
 generalize (Ms.plain 6 0 0 Vt.zero zeros32).cells = qk at *
 generalize Ms.zero.cells = z at *
 obtain ⟨hA, hT, hB, hs⟩ := bare_box q z w lz
 go_enter Tryz.func54, Tryz.ntmps54
 go_upto_region 1 with fail
 go_name_world w1 hw1
 rw [show (w.alloc (.cells q.toArray 63)).alloc (.cells z.toArray 63) = w1 from hw1] at hA hT hB hs
 clear hw1
 have c0 := (hat _ _ hA).1
 obtain ⟨r2, hB2, hs2, hT2⟩ := fresh_store w1 z.toArray 63 qk (by rw [List.size_toArray, lz, lk])
 rw [show z.toArray.size = 119 by simpa using lz] at hT2
 have hTz : (w1.alloc (.cells z.toArray 63)).there w1.heap.size 0 qk.toArray.size := by
  have := there_new w1 z.toArray 63
  rw [show z.toArray.size = 119 by simpa using lz] at this
  rw [show qk.toArray.size = 119 by simpa using lk]
  exact this
 go_upto_region 2 with (first | (refine wpList_build rfl 63 [(0, .tmp 5)] rfl [(0, .int .i64 6)] _ rfl (hbk _) ?_) | refine wpList_store_mid rfl 63 _ _ rfl _ _ qk.toArray rfl rfl hTz ik' ok ?_)
 go_name_world w2 hw2
 rw [show (w1.alloc (.cells z.toArray 63)).setCells w1.heap.size 0 qk = w2 from hw2] at r2 hB2 hs2 hT2
 have hs2' : w1.heap.size < w2.heap.size := by omega
 clear hw2 hs2 hTz
 have hA2 := range_below hA hB2 (by omega)
 have hT1 := there_below hT hB2 (by omega)
 have hBw := hB.trans (hB2.mono (by omega))
 have c2 := (hat _ _ hA2).1
 clear hA hT hB hB2 c0
 go_upto_region 12 with fail
 obtain ⟨w5, hw5⟩ : ∃ w5, w2.drew = w5 := ⟨_, rfl⟩
 have hA5 : w5.rangeAt w.heap.size 0 q := by rw [← hw5]; exact (World.rangeAt_drew _ _ _ _).2 hA2
 have r5 : w5.rangeAt w1.heap.size 0 qk := by rw [← hw5]; exact (World.rangeAt_drew _ _ _ _).2 r2
 have hT5 : w5.there w1.heap.size 0 119 := by rw [← hw5]; exact hT2
 have hT15 : w5.there (w.heap.size + 1) 0 119 := by rw [← hw5]; exact hT1
 have hB5 : Below w.heap.size w w5 := by rw [← hw5]; exact hBw.drew
 refine hs_begin (S := fun w' => w'.rangeAt w.heap.size 0 q) 8 rfl (by kernel_rfl) ?_
 rw [hw5]
 clear hw5 hA2 r2 hT2 hT1 hBw c2
 have hS := hA5
 refine hs_t 0 28 (?_) rfl (by kernel_rfl) (by kernel_rfl) (by kernel_rfl) (by rfl) ?_ hS rfl ?_
 rotate_left
 ·intro w' hw
  go_simp
  try with_reducible rfl
 simp only [nz]
 refine hs_t 1 29 (?_) rfl (by kernel_rfl) (by kernel_rfl) (by kernel_rfl) (by rfl) ?_ hS rfl ?_
 rotate_left
 ·intro w' hw
  have := (hat _ _ hw).2.1
  go_simp
  try with_reducible rfl
 simp only [nz]
 refine hs_t 2 30 (?_) rfl (by kernel_rfl) (by kernel_rfl) (by kernel_rfl) (by rfl) ?_ hS rfl ?_
 rotate_left
 ·intro w' hw
  go_simp
  try with_reducible rfl
 simp only [nz]
 refine hs_t 3 31 (?_) rfl (by kernel_rfl) (by kernel_rfl) (by kernel_rfl) (by rfl) ?_ hS rfl ?_
 rotate_left
 ·intro w' hw
  have := (hat _ _ hw).2.2
  go_simp
  try with_reducible rfl
 simp only [nz]
 refine hs_t 4 32 (?_) rfl (by kernel_rfl) (by kernel_rfl) (by kernel_rfl) (by rfl) ?_ hS rfl ?_
 rotate_left
 ·intro w' hw
  go_simp
  try with_reducible rfl
 simp only [nz]
 refine hs_store (i := 5) (w' := w5.setCells w1.heap.size 1 [.int .i64 e]) rfl (by kernel_rfl) (by rfl) (exec_storeC rfl rfl rfl (store_cell _ _ _ _ _ (by have := there_part hT5 1 1 (by omega); rwa [Nat.zero_add] at this) iszI rfl rfl)) rfl (World.rangeAt_setCells_apart hS _ _ _ (.inl (by omega))) ?_
 have hS6 : (w5.setCells w1.heap.size 1 [.int .i64 e]).rangeAt w.heap.size 0 q := World.rangeAt_setCells_apart hS _ _ _ (.inl (by omega))
 have hT6 : (w5.setCells w1.heap.size 1 [.int .i64 e]).there w1.heap.size 0 119 := World.there_setCells hT5 _ _ _
 have hS := hS6
 refine hs_t 6 33 (?_) rfl (by kernel_rfl) (by kernel_rfl) (by kernel_rfl) (by rfl) ?_ hS rfl ?_
 rotate_left
 ·intro w' hw
  go_simp
  try with_reducible rfl
 simp only [nz]
 refine hs_store (i := 7) (w' := (w5.setCells w1.heap.size 1 [.int .i64 e]).setCells w1.heap.size 4 [.int .i64 s]) rfl (by kernel_rfl) (by rfl) (exec_storeC rfl rfl rfl (store_cell _ _ _ _ _ (by have := there_part hT6 4 1 (by omega); rwa [Nat.zero_add] at this) iszI rfl rfl)) rfl (World.rangeAt_setCells_apart hS6 _ _ _ (.inl (by omega))) ?_
 refine hs_done (by kernel_rfl) ?_
 have r3 := hput _ _ r5 hT5
 have hT3 : ((w5.setCells w1.heap.size 1 [.int .i64 e]).setCells w1.heap.size 4 [.int .i64 s]).there (w.heap.size + 1) 0 q.toArray.size := by
  rw [show q.toArray.size = 119 by simpa using lm]
  exact World.there_setCells (World.there_setCells hT15 _ _ _) _ _ _
 have hB3 := below_sets (show w.heap.size ≤ w1.heap.size by omega) [.int .i64 s] 4 _ (below_sets (show w.heap.size ≤ w1.heap.size by omega) [.int .i64 e] 1 _ hB5)
 clear hB5 r5 hT15
 go_upto_region 20 with fail
 go_name_world w3 hw3
 rw [show (w5.setCells w1.heap.size 1 [.int .i64 e]).setCells w1.heap.size 4 [.int .i64 s] = w3 from hw3] at r3 hT3 hB3
 clear hw3
 have r4 := World.rangeAt_setCells_same w3 (w.heap.size + 1) 0 q (by have := hT3; rwa [List.size_toArray] at this)
 have hB4 := below_sets (show w.heap.size ≤ w.heap.size + 1 by omega) q 0 _ hB3
 have hrs := run_loadVar_mid (P := Tryz.prog) _ (w.heap.size + 1) 0 63 q _ r4 Tryz.underlying63 rfl im
 go_wp2_with (first | (refine wpList_load_mid rfl 63 _ rfl _ _ rfl q _ r3 Tryz.underlying63 rfl im ?_) | (refine wpList_store_mid rfl 63 _ _ rfl _ _ q.toArray rfl rfl hT3 im' om ?_))
 exact bodyPost_ret (v := .agg q.toArray) (by simp [results, Tryz.results54, asAddr, hrs, Act.put]) rfl ⟨rfl, hB4⟩
set_option maxRecDepth 100000 in
set_option maxHeartbeats 2000000 in
theorem bare5 (e : Int) (d : List Int) (hd : d.length = 32) (hdb : ∀ z ∈ d, 0 ≤ z ∧ z < 256) (w : World) : Calls Tryz.prog 54 #[.agg (Ms.plain 5 e 0 Vt.zero d).cells.toArray] w (BareOk w (Ms.plain 5 e 0 Vt.zero d).cells) := by
 have hm : (Ms.plain 5 e 0 Vt.zero d).ok := Ms.plain_ok 5 e 0 Vt.zero_ok hd hdb
 have hk : (Ms.plain 5 0 0 Vt.zero zeros32).ok := Ms.plain_ok 5 0 0 Vt.zero_ok zeros32_len zeros32_byte
 have hz0 : Ms.zero.ok := Ms.plain_ok 0 0 0 Vt.zero_ok zeros32_len zeros32_byte
 have lm := hm.len
 have lk := hk.len
 have lz := hz0.len
 have om := all_oneCell_toArray hm.one
 have ok := all_oneCell_toArray hk.one
 have hz := zeroM
 have hbk := build_kind 5
 have hat : ∀ (w' : World) b, w'.rangeAt b 0 (Ms.plain 5 e 0 Vt.zero d).cells → w'.cell? ⟨b, 0, none⟩ = some (.int .i64 5) ∧ w'.cell? ⟨b, 1, none⟩ = some (.int .i64 e) ∧ w'.rangeAt b 48 (v8 d) := fun w' b h => ⟨(hm.at h).k, (hm.at h).e, (hm.at h).d⟩
 have ld : (v8 d).length = 32 := by rw [v8_length, hd]
 have od := all_oneCell_toArray (v8_one d)
 have hput : ∀ (w' : World) b, w'.rangeAt b 0 (Ms.plain 5 0 0 Vt.zero zeros32).cells → w'.there b 0 119 → ((w'.setCells b 1 [.int .i64 e]).setCells b 48 (v8 d)).rangeAt b 0 (Ms.plain 5 e 0 Vt.zero d).cells := fun w' b h ht => by
  have h1 := range_put (pre := [Value.int .i64 5]) (mid := [Value.int .i64 0]) (vs := [Value.int .i64 e]) h 1 rfl (by have := there_part ht 1 1 (by omega); rwa [Nat.zero_add] at this) rfl
  exact range_put (pre := [Value.int .i64 5, .int .i64 e, .int .i64 0, .int .i64 0, .int .i64 0, .bool false, .slice none 0 0] ++ (Vt.zero.cells ++ [Value.int .i64 0, .int .i64 0, .int .i64 0, .slice none 0 0, .slice none 0 0])) (mid := v8 zeros32) (vs := v8 d) (post := Vt.zero.cells ++ [Value.slice none 0 0, .string ⟨#[]⟩, .slice none 0 0]) h1 48 rfl (by rw [ld]; have := there_part (World.there_setCells ht b 1 [Value.int .i64 e]) 48 32 (by omega); rwa [Nat.zero_add] at this) (by rw [ld]; rfl)
 have im : (Tryz.prog.info? 63).map (·.size) = some (Ms.plain 5 e 0 Vt.zero d).cells.length := by rw [lm]; exact iszM
 have im' : (Tryz.prog.info? 63).map (·.size) = some (Ms.plain 5 e 0 Vt.zero d).cells.toArray.size := by rw [List.size_toArray, lm]; exact iszM
 have ik' : (Tryz.prog.info? 63).map (·.size) = some (Ms.plain 5 0 0 Vt.zero zeros32).cells.toArray.size := by rw [List.size_toArray, lk]; exact iszM
 have id : (Tryz.prog.info? 26).map (·.size) = some (v8 d).length := by rw [ld]; exact iszD
 have id' : (Tryz.prog.info? 26).map (·.size) = some (v8 d).toArray.size := by rw [List.size_toArray, ld]; exact iszD
 clear hm hk hz0
 generalize (Ms.plain 5 e 0 Vt.zero d).cells = q at *
 generalize (Ms.plain 5 0 0 Vt.zero zeros32).cells = qk at *
 generalize Ms.zero.cells = z at *
 clear hd hdb
 generalize v8 d = u at *
 obtain ⟨hA, hT, hB, hs⟩ := bare_box q z w lz
 go_enter Tryz.func54, Tryz.ntmps54
 go_upto_region 1 with fail
 go_name_world w1 hw1
 rw [show (w.alloc (.cells q.toArray 63)).alloc (.cells z.toArray 63) = w1 from hw1] at hA hT hB hs
 clear hw1
 have c0 := (hat _ _ hA).1
 obtain ⟨r2, hB2, hs2, hT2⟩ := fresh_store w1 z.toArray 63 qk (by rw [List.size_toArray, lz, lk])
 rw [show z.toArray.size = 119 by simpa using lz] at hT2
 have hTz : (w1.alloc (.cells z.toArray 63)).there w1.heap.size 0 qk.toArray.size := by
  have := there_new w1 z.toArray 63
  rw [show z.toArray.size = 119 by simpa using lz] at this
  rw [show qk.toArray.size = 119 by simpa using lk]
  exact this
 go_upto_region 2 with (first | (refine wpList_build rfl 63 [(0, .tmp 5)] rfl [(0, .int .i64 5)] _ rfl (hbk _) ?_) | refine wpList_store_mid rfl 63 _ _ rfl _ _ qk.toArray rfl rfl hTz ik' ok ?_)
 go_name_world w2 hw2
 rw [show (w1.alloc (.cells z.toArray 63)).setCells w1.heap.size 0 qk = w2 from hw2] at r2 hB2 hs2 hT2
 have hs2' : w1.heap.size < w2.heap.size := by omega
 clear hw2 hs2 hTz
 have hA2 := range_below hA hB2 (by omega)
 have hT1 := there_below hT hB2 (by omega)
 have hBw := hB.trans (hB2.mono (by omega))
 have c2 := (hat _ _ hA2).1
 clear hA hT hB hB2 c0
 go_upto_region 17 with fail
 obtain ⟨w5, hw5⟩ : ∃ w5, w2.drew = w5 := ⟨_, rfl⟩
 have hA5 : w5.rangeAt w.heap.size 0 q := by rw [← hw5]; exact (World.rangeAt_drew _ _ _ _).2 hA2
 have r5 : w5.rangeAt w1.heap.size 0 qk := by rw [← hw5]; exact (World.rangeAt_drew _ _ _ _).2 r2
 have hT5 : w5.there w1.heap.size 0 119 := by rw [← hw5]; exact hT2
 have hT15 : w5.there (w.heap.size + 1) 0 119 := by rw [← hw5]; exact hT1
 have hB5 : Below w.heap.size w w5 := by rw [← hw5]; exact hBw.drew
 refine hs_begin (S := fun w' => w'.rangeAt w.heap.size 0 q) 8 rfl (by kernel_rfl) ?_
 rw [hw5]
 clear hw5 hA2 r2 hT2 hT1 hBw c2
 have hS := hA5
 refine hs_t 0 52 (?_) rfl (by kernel_rfl) (by kernel_rfl) (by kernel_rfl) (by rfl) ?_ hS rfl ?_
 rotate_left
 ·intro w' hw
  go_simp
  try with_reducible rfl
 simp only [nz]
 refine hs_t 1 53 (?_) rfl (by kernel_rfl) (by kernel_rfl) (by kernel_rfl) (by rfl) ?_ hS rfl ?_
 rotate_left
 ·intro w' hw
  have := (hat _ _ hw).2.1
  go_simp
  try with_reducible rfl
 simp only [nz]
 refine hs_t 2 54 (?_) rfl (by kernel_rfl) (by kernel_rfl) (by kernel_rfl) (by rfl) ?_ hS rfl ?_
 rotate_left
 ·intro w' hw
  go_simp
  try with_reducible rfl
 simp only [nz]
 refine hs_t 3 55 (.agg u.toArray) rfl (by kernel_rfl) (by kernel_rfl) (by kernel_rfl) (by rfl) (fun w' hw => exec_loadC rfl rfl (run_loadVar_mid (P := Tryz.prog) w' _ _ 26 u _ ((hat _ _ hw).2.2) Tryz.underlying26 rfl id)) hS rfl ?_
 simp only [nz]
 refine hs_t 4 56 (?_) rfl (by kernel_rfl) (by kernel_rfl) (by kernel_rfl) (by rfl) ?_ hS rfl ?_
 rotate_left
 ·intro w' hw
  go_simp
  try with_reducible rfl
 simp only [nz]
 refine hs_store (i := 5) (w' := w5.setCells w1.heap.size 1 [.int .i64 e]) rfl (by kernel_rfl) (by rfl) (exec_storeC rfl rfl rfl (store_cell _ _ _ _ _ (by have := there_part hT5 1 1 (by omega); rwa [Nat.zero_add] at this) iszI rfl rfl)) rfl (World.rangeAt_setCells_apart hS _ _ _ (.inl (by omega))) ?_
 have hS6 : (w5.setCells w1.heap.size 1 [.int .i64 e]).rangeAt w.heap.size 0 q := World.rangeAt_setCells_apart hS _ _ _ (.inl (by omega))
 have hT6 : (w5.setCells w1.heap.size 1 [.int .i64 e]).there w1.heap.size 0 119 := World.there_setCells hT5 _ _ _
 have hS := hS6
 refine hs_t 6 57 (?_) rfl (by kernel_rfl) (by kernel_rfl) (by kernel_rfl) (by rfl) ?_ hS rfl ?_
 rotate_left
 ·intro w' hw
  go_simp
  try with_reducible rfl
 simp only [nz]
 refine hs_store (i := 7) (w' := (w5.setCells w1.heap.size 1 [.int .i64 e]).setCells w1.heap.size 48 u) rfl (by kernel_rfl) (by rfl) (exec_storeC rfl rfl rfl (run_storeVar_mid _ _ _ _ u.toArray (by rw [show u.toArray.size = 32 by simpa using ld]; have := there_part hT6 48 32 (by omega); rwa [Nat.zero_add] at this) id' od)) rfl (World.rangeAt_setCells_apart hS6 _ _ _ (.inl (by omega))) ?_
 refine hs_done (by kernel_rfl) ?_
 have r3 := hput _ _ r5 hT5
 have hT3 : ((w5.setCells w1.heap.size 1 [.int .i64 e]).setCells w1.heap.size 48 u).there (w.heap.size + 1) 0 q.toArray.size := by
  rw [show q.toArray.size = 119 by simpa using lm]
  exact World.there_setCells (World.there_setCells hT15 _ _ _) _ _ _
 have hB3 := below_sets (show w.heap.size ≤ w1.heap.size by omega) u 48 _ (below_sets (show w.heap.size ≤ w1.heap.size by omega) [.int .i64 e] 1 _ hB5)
 clear hB5 r5 hT15
 go_upto_region 20 with fail
 go_name_world w3 hw3
 rw [show (w5.setCells w1.heap.size 1 [.int .i64 e]).setCells w1.heap.size 48 u = w3 from hw3] at r3 hT3 hB3
 clear hw3
 have r4 := World.rangeAt_setCells_same w3 (w.heap.size + 1) 0 q (by have := hT3; rwa [List.size_toArray] at this)
 have hB4 := below_sets (show w.heap.size ≤ w.heap.size + 1 by omega) q 0 _ hB3
 have hrs := run_loadVar_mid (P := Tryz.prog) _ (w.heap.size + 1) 0 63 q _ r4 Tryz.underlying63 rfl im
 go_wp2_with (first | (refine wpList_load_mid rfl 63 _ rfl _ _ rfl q _ r3 Tryz.underlying63 rfl im ?_) | (refine wpList_store_mid rfl 63 _ _ rfl _ _ q.toArray rfl rfl hT3 im' om ?_))
 exact bodyPost_ret (v := .agg q.toArray) (by simp [results, Tryz.results54, asAddr, hrs, Act.put]) rfl ⟨rfl, hB4⟩
open Sha
theorem all_range : ∀ (xs ys : List Int), xs.length = ys.length → ((List.range xs.length).all fun i => xs.getD i 0 == ys.getD i 0) = (xs == ys)
 | [], [], _ => rfl
 | x :: xs, y :: ys, h => by
  have ih := all_range xs ys (by simpa using h)
  rw [List.length_cons, List.range_succ_eq_map, List.all_cons, List.all_map]
  simp only [List.getD_cons_zero, Function.comp_def, List.getD_cons_succ, ih]
  simp [List.cons_beq_cons]
 | [], _ :: _, h => by simp at h
 | _ :: _, [], h => by simp at h
theorem run_equal8 {P : Program} (w : World) (d : Nat) (t e : TypeId) (n : Nat) (ht : P.underlying t = some (.array n e)) (he : P.underlying e = some (.int .u8)) (hsz : (P.info? e).map (·.size) = some 1)
  (xs ys : List Int) (hx : xs.length = n) (hy : ys.length = n) :
  (Op.equalIn (d + 2) t (.agg (v8 xs).toArray) (.agg (v8 ys).toArray)).run P w = .ok (xs == ys) w := by
 rw [← all_range xs ys (hx.trans hy.symm), hx, List.range_eq_range', Op.equalIn]
 simp only [Sem.run_bind, run_underlying ht, Result.andThen_ok, run_size hsz, Std.Legacy.Range.forIn_eq_forIn_range', Std.Legacy.Range.size, Nat.sub_zero, Nat.add_sub_cancel, Nat.div_one]
 have hl : ∀ i ∈ List.range' 0 n 1, i < n := fun i hi => by simpa using (List.mem_range'_1.1 hi).2
 generalize List.range' 0 n 1 = l at hl ⊢
 induction l with
 | nil => simp
 | cons i l ih =>
  have hi : i < n := hl i (by simp)
  have px : (part e (v8 xs).toArray (i * 1)).run P w = .ok (.int .u8 (xs.getD i 0)) w := by
   simp [part, isAgg, run_underlying he, v8, List.getElem?_eq_getElem (show i < xs.length by omega)]
  have py : (part e (v8 ys).toArray (i * 1)).run P w = .ok (.int .u8 (ys.getD i 0)) w := by
   simp [part, isAgg, run_underlying he, v8, List.getElem?_eq_getElem (show i < ys.length by omega)]
  have pe : (Op.equalIn (d + 1) e (.int .u8 (xs.getD i 0)) (.int .u8 (ys.getD i 0))).run P w = .ok (xs.getD i 0 == ys.getD i 0) w := run_equalIn_int w d e .u8 .u8 _ _ he
  simp only [List.forIn_cons, Sem.run_bind, px, py, pe, Result.andThen_ok, List.all_cons]
  cases hb : (xs.getD i 0 == ys.getD i 0)
  ·simp
  ·simp only [Bool.not_true, Bool.false_eq_true, if_false, Sem.run_pure, Result.andThen_ok, Bool.true_and]
   exact ih fun j hj => hl j (by simp [hj])
theorem fldV : (Tryz.prog.fieldsOf 28).toList.map (fun f => (f.name, f.type, f.offset)) = [("Kind", 3, 0), ("Epoch", 3, 1), ("View", 3, 2), ("Slot", 3, 3), ("Digest", 26, 4)] := by kernel_rfl
theorem undV : Tryz.prog.underlying 28 = some (.struct (Tryz.prog.fieldsOf 28)) := by kernel_rfl
theorem sihV : Tryz.prog.stoodInHeld 28 = false := by kernel_rfl
theorem part_intV (w : World) (q : List Value) (i : Nat) (c : Int) (h : q[i]? = some (.int .i64 c)) : (part 3 q.toArray i).run Tryz.prog w = .ok (.int .i64 c) w := by
 simp [part, isAgg, run_underlying Tryz.underlying3, h]
theorem part_digV (w : World) (x : Vt) (hd : x.d.length = 32) : (part 26 x.cells.toArray 4).run Tryz.prog w = .ok (.agg (v8 x.d).toArray) w := by
 have hx : List.take 32 (List.drop 4 x.cells) = v8 x.d := by
  show List.take 32 (v8 x.d) = v8 x.d
  rw [List.take_of_length_le (by rw [v8_length, hd]; exact Nat.le_refl _)]
 simp [part, isAgg, run_underlying Tryz.underlying26, run_size iszD, hx]
def vtB (x y : Vt) : Bool := (x.k == y.k) && ((x.e == y.e) && ((x.v == y.v) && ((x.s == y.s) && (x.d == y.d))))
theorem vtB_iff {x y : Vt} : vtB x y = true ↔ x = y := by
 obtain ⟨k, e, v, s, d⟩ := x
 obtain ⟨k', e', v', s', d'⟩ := y
 simp [vtB]
theorem vtEqIn (x y : Vt) (hx : x.d.length = 32) (hy : y.d.length = 32) (d : Nat) (w : World) :
  (Op.equalIn (d + 2 + 1) 28 (.agg x.cells.toArray) (.agg y.cells.toArray)).run Tryz.prog w = .ok (vtB x y) w := by
 rw [run_equalIn_struct w (d + 2) 28 _ _ undV sihV]
 have hf := fldV
 generalize (Tryz.prog.fieldsOf 28).toList = fs at hf
 obtain ⟨f0, f1, f2, f3, f4, rfl⟩ : ∃ f0 f1 f2 f3 f4, fs = [f0, f1, f2, f3, f4] := by
  rcases fs with _ | ⟨f0, _ | ⟨f1, _ | ⟨f2, _ | ⟨f3, _ | ⟨f4, _ | ⟨f5, fs⟩⟩⟩⟩⟩⟩ <;> simp at hf
  exact ⟨f0, f1, f2, f3, f4, rfl⟩
 simp only [List.map_cons, List.map_nil, List.cons.injEq, Prod.mk.injEq, and_true] at hf
 obtain ⟨⟨a0, b0, d0⟩, ⟨a1, b1, d1⟩, ⟨a2, b2, d2⟩, ⟨a3, b3, d3⟩, ⟨a4, b4, d4⟩⟩ := hf
 have p0 := part_intV w x.cells 0 x.k rfl
 have q0 := part_intV w y.cells 0 y.k rfl
 have p1 := part_intV w x.cells 1 x.e rfl
 have q1 := part_intV w y.cells 1 y.e rfl
 have p2 := part_intV w x.cells 2 x.v rfl
 have q2 := part_intV w y.cells 2 y.v rfl
 have p3 := part_intV w x.cells 3 x.s rfl
 have q3 := part_intV w y.cells 3 y.s rfl
 have p4 := part_digV w x hx
 have q4 := part_digV w y hy
 have e0 := fun a b => run_equalIn_int (P := Tryz.prog) w (d + 1) 3 .i64 .i64 a b Tryz.underlying3
 have e4 := run_equal8 (P := Tryz.prog) w d 26 5 32 Tryz.underlying26 Tryz.underlying5 isz8 x.d y.d hx hy
 unfold vtB
 generalize x.cells.toArray = q at *
 generalize y.cells.toArray = q' at *
 obtain ⟨T, hT⟩ : ∃ T, (v8 x.d).toArray = T := ⟨_, rfl⟩
 obtain ⟨T', hT'⟩ : ∃ T, (v8 y.d).toArray = T := ⟨_, rfl⟩
 rw [hT] at p4 e4
 rw [hT'] at q4 e4
 clear hT hT'
 obtain ⟨D, hD⟩ : ∃ D, d + 1 + 1 = D := ⟨_, rfl⟩
 have e4 : (Op.equalIn (d + 1 + 1) 26 (.agg T) (.agg T')).run Tryz.prog w = .ok (x.d == y.d) w := e4
 rw [hD] at e4
 have n0 : ¬ ("Kind" = "_") := by decide
 have n1 : ¬ ("Epoch" = "_") := by decide
 have n2 : ¬ ("View" = "_") := by decide
 have n3 : ¬ ("Slot" = "_") := by decide
 have n4 : ¬ ("Digest" = "_") := by decide
 simp only [Op.eqFields, a0, a1, a2, a3, a4, b0, b1, b2, b3, b4, d0, d1, d2, d3, d4, ne_eq, n0, n1, n2, n3, n4, not_false_eq_true, if_true]
 rw [show d + 2 = d + 1 + 1 from rfl, hD]
 rw [hD] at e0
 clear hD
 simp only [Sem.run_bind, p0, q0, Result.andThen_ok, e0]
 cases (x.k == y.k)
 ·simp only [Bool.not_false, if_true, Sem.run_pure, Bool.false_and]
 ·simp only [Bool.not_true, Bool.false_eq_true, if_false, Sem.run_bind, p1, q1, Result.andThen_ok, e0, Bool.true_and]
  cases (x.e == y.e)
  ·simp only [Bool.not_false, if_true, Sem.run_pure, Bool.false_and]
  ·simp only [Bool.not_true, Bool.false_eq_true, if_false, Sem.run_bind, p2, q2, Result.andThen_ok, e0, Bool.true_and]
   cases (x.v == y.v)
   ·simp only [Bool.not_false, if_true, Sem.run_pure, Bool.false_and]
   ·simp only [Bool.not_true, Bool.false_eq_true, if_false, Sem.run_bind, p3, q3, Result.andThen_ok, e0, Bool.true_and]
    cases (x.s == y.s)
    ·simp only [Bool.not_false, if_true, Sem.run_pure, Bool.false_and]
    ·simp only [Bool.not_true, Bool.false_eq_true, if_false, Sem.run_bind, p4, q4, Result.andThen_ok, e4, Bool.true_and]
     cases (x.d == y.d)
     ·simp only [Bool.not_false, if_true, Sem.run_pure]
     ·simp only [Bool.not_true, Bool.false_eq_true, if_false, Sem.run_pure]
theorem eqInV (x y : Vt) (hx : x.d.length = 32) (hy : y.d.length = 32) (w : World) : (Op.equalIn 10000 28 (.agg x.cells.toArray) (.agg y.cells.toArray)).run Tryz.prog w = .ok (vtB x y) w := vtEqIn x y hx hy 9997 w
theorem eqInD (x y : List Int) (hx : x.length = 32) (hy : y.length = 32) (w : World) : (Op.equalIn 10000 26 (.agg (v8 x).toArray) (.agg (v8 y).toArray)).run Tryz.prog w = .ok (x == y) w := run_equal8 w 9998 26 5 32 Tryz.underlying26 Tryz.underlying5 isz8 x y hx hy
theorem wpList_load_g {P : Program} {ops : Array Oper} {rest : List Oper} {op : Oper} {a : Act} {w : World} {Q : Exit → Act → World → Prop} (hgd : Region.wanted op (yielded ops a.tmps) = true) (ty : TypeId) (x : Operand) (ho : op.op = .load ty x)
  (b o : Nat) (hx : a.eval x = .pointer (some ⟨b, o, none⟩)) (cs : List Value) (d : TypeDesc) (hc : w.rangeAt b o cs)
  (hu : P.underlying ty = some d) (hd : d.isRow = true) (hi : (P.info? ty).map (·.size) = some cs.length)
  (h : wpList P ops Q rest (a.put op.dst (.agg cs.toArray)) w) : wpList P ops Q (op :: rest) a w :=
 wpList_step fun _ hK => by rw [if_pos hgd]; exact wp_load_mid ty x ho b o hx cs d hc hu hd hi (hK _ _ h)
theorem iszC : (Tryz.prog.info? 31).map (·.size) = some 37 := by kernel_rfl
theorem iszH4 : (Tryz.prog.info? 60).map (·.size) = some 4 := by kernel_rfl
def strOf (zs : List Int) : ByteArray := zs.foldl (fun r n => r.push (UInt8.ofNat n.toNat)) ByteArray.empty
theorem row_str {w : World} {b off cap : Nat} {zs : List Int} (h : w.rangeAt b off (v8 zs)) : (convert 36 9 (.slice (some ⟨b, off, none⟩) zs.length cap)).run Tryz.prog w = .ok (.string (strOf zs)) w := by
 rw [run_convert_bytes_string w 36 9 5 (some ⟨b, off, none⟩) zs.length cap Tryz.underlying36 Tryz.underlying5 Tryz.underlying9]
 have := run_loadCells_list (P := Tryz.prog) w ⟨b, off, none⟩ (v8 zs) (fun j v hv => by rw [Addr.add_mid]; exact h j v hv)
 rw [v8_length] at this
 exact run_bytesToString w ⟨b, off, none⟩ zs.length cap zs this
theorem box_range (w : World) (d : List Int) (t : TypeId) : (w.alloc (.cells (v8 d).toArray t)).rangeAt w.heap.size 0 (v8 d) := by
 have := range_new w (v8 d).toArray t
 simpa using this
theorem nil_str (w : World) : (convert 36 9 (.slice none 0 0)).run Tryz.prog w = .ok (.string (strOf [])) w := by kernel_rfl
set_option maxRecDepth 100000 in
theorem mine_str {w : World} {B : Nat} {v : Value} {zs : List Int} (h : Mine w B v zs) : (convert 36 9 v).run Tryz.prog w = .ok (.string (strOf zs)) w := by
 rcases own_range h.1 with ⟨rfl, h0, _⟩ | ⟨g, cap, rfl, _, _, _, _, hr⟩
 ·have : zs = [] := List.eq_nil_of_length_eq_zero h0
  subst this
  exact nil_str w
 ·exact row_str hr
theorem wr_new (w : World) : WrAt (w.alloc (.cells #[.slice none 0 0, .bool false] 127)) w.heap.size (.slice none 0 0) [] false where
 lt := by simp
 c0 := by have := range_new w #[.slice none 0 0, .bool false] 127 0 _ rfl; exact this
 c1 := by have := range_new w #[.slice none 0 0, .bool false] 127 1 _ rfl; exact this
 th := there_new w #[.slice none 0 0, .bool false] 127
 me := ⟨World.ownsRow_nil _ _ _ _, by simp⟩
def encV (b : Bool) (zs : List Int) : Value := if b then .tuple #[.string (strOf zs), .int .i64 0] else .tuple #[.string ⟨#[]⟩, .int .i64 130]
theorem putL_len {n : Int} (h : n ≤ 9223372036854775807) : (putL n).length ≤ 9 := putL_length n (by omega)
theorem wpList_store_c {P : Program} {ops : Array Oper} {rest : List Oper} {op : Oper} {a : Act} {w : World} {Q : Exit → Act → World → Prop} (hgd : op.guard = none) (ty : TypeId) (x y : Operand) (ho : op.op = .store ty x y)
  (b o : Nat) (v : Value) (hx : a.eval x = .pointer (some ⟨b, o, none⟩)) (hy : a.eval y = v)
  (ht : w.there b o 1) (hi : (P.info? ty).map (·.size) = some 1) (hv : v.cells = #[v]) (h1 : v.oneCell' = true)
  (h : wpList P ops Q rest (a.put op.dst undef) (w.setCells b o [v])) : wpList P ops Q (op :: rest) a w :=
 wpList_plain hgd fun _ hK => by
  unfold Oper.wp execOp
  simp only [ho, hx, hy, Instr.storeAt, Instr.sureAddr, Sem.run_bind, Sem.run_pure, Result.andThen_ok, store_cell w b o ty v ht hi hv h1]
  exact hK _ _ h
def ownF (v : Value) : Nat → Prop := fun b => v.ownBlock = some b
theorem own_trans {v v1 v2 : Value} {w w1 w2 : World} (h : Off (ownF v) w w1) (r : RowOn w v v1) (h' : Off (ownF v1) w1 w2) (r' : RowOn w1 v1 v2) : Off (ownF v) w w2 ∧ RowOn w v v2 := by
 refine ⟨h.trans h' (fun b hb hf => ?_), fun g hg => ?_⟩
 ·rcases r b hf with e | e
  ·exact e
  ·omega
 ·rcases r' g hg with e | e
  ·exact r g e
  ·exact .inr (Nat.le_trans h.size e)
set_option maxRecDepth 100000 in
set_option maxHeartbeats 2000000 in
theorem xdig_any (B : Nat) (v : Value) (zs d : List Int) (w : World) (h : Mine w B v zs) (hB : B ≤ w.heap.size) (hz : zs.length ≤ 10000000) (hd : d.length = 32) (hdb : ∀ z ∈ d, 0 ≤ z ∧ z < 256) :
  Calls Tryz.prog 90 #[v, .agg (v8 d).toArray] w fun e w' => ∃ v', e = .returned v' ∧ Mine w' B v' (zs ++ d) ∧ Off (ownF v) w w' ∧ RowOn w v v' := by
 obtain ⟨i0, hi, hz0, hz1, hz2⟩ := info_parts info8
 have hB1 : Below w.heap.size w (w.alloc (.cells (v8 d).toArray 26)) := (Below.refl _ _).alloc (Nat.le_refl _) _
 have hR1 := box_range w d 26
 have hs1 : w.heap.size < (w.alloc (.cells (v8 d).toArray 26)).heap.size := by simp
 have hown := h.from
 have h1 := h.below hB1
 have hO1 : Off (ownF v) w (w.alloc (.cells (v8 d).toArray 26)) := Off.of_below hB1
 obtain ⟨w1, hw1⟩ : ∃ w1, Hid (w.alloc (.cells (v8 d).toArray 26) = w1) := ⟨_, hide rfl⟩
 rw [hw1.out] at hB1 hR1 hs1 h1 hO1
 generalize hu : (v8 d).toArray = u at *
 go_enter Tryz.func90, Tryz.ntmps90
 go_upto_region 1 with fail
 rw [show w.alloc (.cells u 26) = w1 from hw1.out]
 clear hw1 hu h
 go_wp2_with fail
 go_loopw [0, 5] (fun oo iv wr' => ∃ (k : Nat) (o : Value), k ≤ 32 ∧ iv = .int .i64 (k : Int) ∧ o = oo ∧ Hid (Mine wr' B o (zs ++ d.take k) ∧ Off (ownF v) w1 wr' ∧ RowOn w1 v o)) (fun _ iv _ => 32 - (intOf iv).toNat)
 case atStart => exact ⟨0, _, by omega, rfl, rfl, hide ⟨by simpa using h1, Off.refl _ _, fun g hg => .inl hg⟩⟩
 case round =>
  clear h1
  obtain ⟨k, o, hk, rfl, ho, HK⟩ := hrel
  subst ho
  by_cases hlt : k < 32
  ·have k1 : (k : Int) < 32 := by omega
   obtain ⟨hM, hO, hRo⟩ := HK.out
   clear HK
   have hrow := range_at hR1 (hO.2 _ hs1 (fun hf => by have := (hown _ hf).2; omega))
   have ck : wr.cell? ⟨w.heap.size, k, none⟩ = some (.int .u8 (d.getD k 0)) := by
    have := hrow k (.int .u8 (d.getD k 0)) (by simp [v8, List.getElem?_eq_getElem (show k < d.length by omega)])
    rwa [Nat.zero_add] at this
   have hzk : 0 ≤ d.getD k 0 ∧ d.getD k 0 < 256 := hdb _ (by simp [List.getElem?_eq_getElem (show k < d.length by omega)])
   have HT : Hid (d.take (k + 1) = d.take k ++ [d.getD k 0]) := hide (by
    rw [List.take_add_one]; simp [List.getElem?_eq_getElem (show k < d.length by omega), List.getD_eq_getElem?_getD])
   have hlt2 : (d.take k).length = k := by rw [List.length_take]; omega
   obtain ⟨z, hzz⟩ : ∃ z, Hid (d.getD k 0 = z) := ⟨_, hide rfl⟩
   rw [hzz.out] at ck HT hzk
   obtain ⟨ys, hys⟩ : ∃ ys, Hid (zs ++ d.take k = ys) := ⟨_, hide rfl⟩
   have hyl : ys.length ≤ 10000032 := by rw [← hys.out, List.length_append, hlt2]; omega
   rw [hys.out] at hM
   have HY : Hid (zs ++ d.take (k + 1) = ys ++ [z]) := hide (by rw [HT.out, ← List.append_assoc, hys.out])
   have hBr : B ≤ wr.heap.size := by have := hO.size; omega
   clear hzz hys HT hlt2 hrow
   go_wp2_with (at_builtin; refine wpList_append_own_src2 _ rfl _ _ 36 36 rfl B 5 i0 (.int .u8 0) 1 1 Tryz.underlying36 hi hz0 hz1 hz2 rfl _ _ _ rfl (hM.1.alloc _) _ 1 _ rfl (b1_src _ _) ?c1 ?c2 ?c3 ?_)
   case c1 => unfold maxLen; omega
   case c2 => omega
   case c3 => simp; omega
   intro v5 w5 hown5 hgrow5 hon5
   have hM5 : Mine w5 B v5 (ys ++ [z]) := Mine.mk' _ hown5 (by simp) (by simp) (fun x hx => by
    rcases List.mem_append.1 hx with hx | hx
    ·exact hM.2 x hx
    ·rw [List.mem_singleton.1 hx]; exact hzk)
   have hBA : Below wr.heap.size wr (wr.alloc (.cells #[.int .u8 z] 5)) := (Below.refl _ _).alloc (Nat.le_refl _) _
   have hO5 : Off (ownF o) wr w5 := (Off.of_below (F := ownF o) hBA).trans (Off.of_grown (F := ownF o) hgrow5 (fun k hk => hk)) (fun _ _ q => q)
   have hR5 : RowOn wr o v5 := fun g hg => by
    rcases hon5 g hg with e | e
    ·exact .inl e
    ·have := hBA.size; exact .inr (by omega)
   have T := own_trans hO hRo hO5 hR5
   have T' := hide (And.intro hM5 T)
   clear hown5 hgrow5 hon5 hM5 hO5 hR5 T hM hO hRo hBA ck
   go_wp2_with fail
   go_roundw
   case rel => exact ⟨k + 1, _, by omega, by go_num, rfl, hide ⟨by rw [HY.out]; exact T'.out.1, T'.out.2.1, T'.out.2.2⟩⟩
   case measure => simp [intOf]; omega
  ·obtain rfl : k = 32 := by omega
   obtain ⟨hM, hO, hRo⟩ := HK.out
   clear HK
   go_wp2_with fail
   go_ret
   rw [List.take_of_length_le (by omega)] at hM
   refine ⟨_, rfl, hM, hO1.trans hO (fun _ _ q => q), fun g hg => ?_⟩
   rcases hRo g hg with e | e
   ·exact .inl e
   ·exact .inr (by omega)
def numsL (ns : List Int) : List Int := ns.flatMap putL
set_option maxRecDepth 100000 in
set_option maxHeartbeats 2000000 in
theorem xnums_any (a : Option Addr) (cap : Nat) (zs : List Int) (b off cap2 : Nat) (ns : List Int) (w : World) (h : RowAt w a zs) (hz : zs.length ≤ 1000000) (h0 : 0 < ns.length) (hl : ns.length ≤ 10) (hn : ∀ n ∈ ns, n ≤ 9223372036854775807) (hb : b < w.heap.size) (hr : w.rangeAt b off (ns.map (Value.int .i64))) :
  Calls Tryz.prog 86 #[.slice a zs.length cap, .slice (some ⟨b, off, none⟩) ns.length cap2] w fun e w' => ∃ v, e = .returned v ∧ Mine w' w.heap.size v (zs ++ numsL ns) ∧ Below w.heap.size w w' := by
 go_enter Tryz.func86, Tryz.ntmps86
 go_wp2_with fail
 go_loopw [0, 5] (fun o iv wr' => ∃ k : Nat, k ≤ ns.length ∧ iv = .int .i64 (k : Int) ∧ Hid ((∃ a' cap', o = .slice a' (zs ++ numsL (ns.take k)).length cap' ∧ RowAt wr' a' (zs ++ numsL (ns.take k))) ∧ (0 < k → Mine wr' w.heap.size o (zs ++ numsL (ns.take k))) ∧ Below w.heap.size w wr')) (fun _ iv _ => ns.length - (intOf iv).toNat)
 case atStart => exact ⟨0, by omega, rfl, hide ⟨⟨a, cap, by simp [numsL], by simpa [numsL] using h⟩, fun q => absurd q (by omega), Below.refl _ _⟩⟩
 case round =>
  obtain ⟨k, hk, rfl, HK⟩ := hrel
  by_cases hlt : k < ns.length
  ·have k1 : (k : Int) < ns.length := by omega
   obtain ⟨⟨a', cap', rfl, hra⟩, _, hBr⟩ := HK.out
   clear HK
   have ck : wr.cell? ⟨b, off + k, none⟩ = some (.int .i64 (ns.getD k 0)) := range_below hr hBr hb k (.int .i64 (ns.getD k 0)) (by simp [List.getElem?_eq_getElem hlt])
   have hnk : ns.getD k 0 ≤ 9223372036854775807 := hn _ (by simp [List.getElem?_eq_getElem hlt])
   have HT : Hid (numsL (ns.take (k + 1)) = numsL (ns.take k) ++ putL (ns.getD k 0)) := hide (by
    have : ns.take (k + 1) = ns.take k ++ [ns.getD k 0] := by
     rw [List.take_add_one]; simp [List.getElem?_eq_getElem hlt, List.getD_eq_getElem?_getD]
    rw [this]; simp [numsL])
   have hll : ∀ j, j ≤ ns.length → (numsL (ns.take j)).length ≤ 9 * j := by
    intro j
    induction j with
    | zero => intro _; simp [numsL]
    | succ j ih =>
     intro hj
     have := ih (by omega)
     have hjl : j < ns.length := by omega
     have e : ns.take (j + 1) = ns.take j ++ [ns.getD j 0] := by
      rw [List.take_add_one]; simp [List.getElem?_eq_getElem hjl, List.getD_eq_getElem?_getD]
     have hp := putL_length (ns.getD j 0) (by have := hn (ns.getD j 0) (by simp [List.getElem?_eq_getElem hjl]); omega)
     rw [e, numsL, List.flatMap_append, List.length_append]
     simp only [List.flatMap_cons, List.flatMap_nil, List.append_nil]
     have q : (List.flatMap putL (ns.take j)).length ≤ 9 * j := this
     omega
   have hyl0 := hll k (by omega)
   obtain ⟨n, hnn⟩ : ∃ n, Hid (ns.getD k 0 = n) := ⟨_, hide rfl⟩
   rw [hnn.out] at ck HT hnk
   obtain ⟨ys, hys⟩ : ∃ ys, Hid (zs ++ numsL (ns.take k) = ys) := ⟨_, hide rfl⟩
   have hyl : ys.length ≤ 1000090 := by rw [← hys.out, List.length_append]; omega
   rw [hys.out] at hra ⊢
   have HY : Hid (zs ++ numsL (ns.take (k + 1)) = ys ++ putL n) := hide (by rw [HT.out, ← List.append_assoc, hys.out])
   have cp := refPut_any a' cap' ys n wr hra (by omega) hnk
   have hpl := putL_length n (by omega)
   clear hnn hys HT hll hyl0
   go_wp2_with fail
   refine cp.mono ?_
   rintro e1 w1 ⟨v1, rfl, hM1, hb1⟩
   obtain ⟨a1, cap1, rfl, _, _, hr1⟩ := hM1.rowAt (by rw [List.length_append]; unfold maxLen; omega)
   have hB1 := hBr.trans (hb1.mono hBr.size)
   have hM1' : Mine w1 w.heap.size (.slice a1 (ys ++ putL n).length cap1) (ys ++ putL n) := by
    refine ⟨?_, hM1.2⟩
    refine ⟨hM1.1.1, ?_⟩
    rcases hM1.1.2 with q | ⟨g, c, cur, q1, q2, q3⟩
    ·exact .inl q
    ·exact .inr ⟨g, c, cur, q1, Nat.le_trans hBr.size q2, q3⟩
   have T := hide (And.intro hr1 (And.intro hM1' hB1))
   clear cp hM1 hr1 hM1' hB1 hb1 hra ck
   go_wp2_with fail
   go_roundw
   case rel => exact ⟨k + 1, by omega, by go_num, hide ⟨⟨a1, cap1, by rw [HY.out, List.length_append], by rw [HY.out]; exact T.out.1⟩, fun _ => by rw [HY.out]; have := T.out.2.1; rwa [List.length_append] at this, T.out.2.2⟩⟩
   case measure => simp [intOf]; omega
  ·obtain rfl : k = ns.length := by omega
   obtain ⟨_, hM, hBr⟩ := HK.out
   have hM := hM h0
   clear HK
   go_wp2_with fail
   go_ret
   rw [List.take_length] at hM
   exact ⟨_, rfl, hM, hBr⟩
theorem Mine.base {w : World} {B B' : Nat} {v : Value} {zs : List Int} (h : Mine w B v zs) (hB : B' ≤ B) : Mine w B' v zs := by
 refine ⟨⟨h.1.1, ?_⟩, h.2⟩
 rcases h.1.2 with q | ⟨g, c, cur, q1, q2, q3⟩
 ·exact .inl q
 ·exact .inr ⟨g, c, cur, q1, Nat.le_trans hB q2, q3⟩
theorem xnums_new (a : Option Addr) (cap : Nat) (zs ns : List Int) (arr : Array Value) (n : Nat) (w : World) (h : RowAt w a zs) (ha : arr = (ns.map (Value.int .i64)).toArray) (hc : ns.length = n) (hz : zs.length ≤ 1000000) (h0 : 0 < n) (hl : n ≤ 10) (hn : ∀ n ∈ ns, n ≤ 9223372036854775807) :
  Calls Tryz.prog 86 #[.slice a zs.length cap, .slice (some ⟨w.heap.size, 0, none⟩) n n] (w.alloc (.cells arr 3)) fun e w' => ∃ v, e = .returned v ∧ Mine w' w.heap.size v (zs ++ numsL ns) ∧ Below w.heap.size w w' := by
 subst ha hc
 have hB : Below w.heap.size w (w.alloc (.cells (ns.map (Value.int .i64)).toArray 3)) := (Below.refl _ _).alloc (Nat.le_refl _) _
 have hR : (w.alloc (.cells (ns.map (Value.int .i64)).toArray 3)).rangeAt w.heap.size 0 (ns.map (Value.int .i64)) := by
  have := range_new w (ns.map (Value.int .i64)).toArray 3
  simpa using this
 refine (xnums_any a cap zs w.heap.size 0 ns.length ns _ (h.below hB) hz h0 hl hn (by simp) hR).mono ?_
 rintro e w' ⟨v, rfl, h1, h2⟩
 exact ⟨v, rfl, h1.base hB.size, hB.trans (h2.mono hB.size)⟩
theorem four_le {a b c d : Int} (h1 : a ≤ 9223372036854775807) (h2 : b ≤ 9223372036854775807) (h3 : c ≤ 9223372036854775807) (h4 : d ≤ 9223372036854775807) : ∀ z ∈ [a, b, c, d], z ≤ 9223372036854775807 := by
 intro z hz
 simp only [List.mem_cons, List.not_mem_nil, or_false] at hz
 rcases hz with rfl | rfl | rfl | rfl
 ·exact h1
 ·exact h2
 ·exact h3
 ·exact h4
theorem off_below {w w' : World} {B n : Nat} {v : Value} {zs : List Int} (h : Off (ownF v) w w') (hM : Mine w B v zs) (hn : n ≤ B) (hs : n ≤ w.heap.size) : Below n w w' :=
 h.below hs (fun b hb hf => by have := (hM.from b hf).1; omega)
set_option maxRecDepth 100000 in
set_option maxHeartbeats 4000000 in
theorem xputVote_any (a : Option Addr) (cap : Nat) (zs : List Int) (x : Vt) (w : World) (h : RowAt w a zs) (hz : zs.length ≤ 1000000) (hx : x.ok) :
  Calls Tryz.prog 87 #[.slice a zs.length cap, .agg x.cells.toArray] w fun e w' => ∃ v, e = .returned v ∧ Mine w' w.heap.size v (zs ++ numsL [x.k, x.e, x.v, x.s] ++ x.d) ∧ Below w.heap.size w w' := by
 obtain ⟨k, ep, vi, sl, d⟩ := x
 have hk := hx.k
 have he := hx.e
 have hv := hx.v
 have hs := hx.s
 have hd : d.length = 32 := hx.dl
 have hdb : ∀ z ∈ d, 0 ≤ z ∧ z < 256 := hx.db
 have hn4 := four_le hk he hv hs
 simp only at hk he hv hs hn4
 have hB1 : Below w.heap.size w (w.alloc (.cells (Vt.mk k ep vi sl d).cells.toArray 28)) := (Below.refl _ _).alloc (Nat.le_refl _) _
 have hR1 := Vt.box w ⟨k, ep, vi, sl, d⟩
 obtain ⟨c0, c1, c2, c3⟩ := Vt.four hR1
 simp only [Nat.zero_add] at c0 c1 c2 c3
 have hrd : (w.alloc (.cells (Vt.mk k ep vi sl d).cells.toArray 28)).rangeAt w.heap.size 4 (v8 d) := fun j u hj => by
  have := hR1 (4 + j) u (by rw [Nat.add_comm]; exact hj)
  rwa [Nat.zero_add] at this
 have hsz : w.heap.size < (w.alloc (.cells (Vt.mk k ep vi sl d).cells.toArray 28)).heap.size := by simp
 have id : (Tryz.prog.info? 26).map (·.size) = some (v8 d).length := by rw [v8_length, hd]; exact iszD
 clear hR1 hx
 generalize (Vt.mk k ep vi sl d).cells = q at *
 show Calls Tryz.prog 87 _ w fun e w' => ∃ v, e = .returned v ∧ Mine w' w.heap.size v (zs ++ numsL [k, ep, vi, sl] ++ d) ∧ Below w.heap.size w w'
 go_enter Tryz.func87, Tryz.ntmps87
 go_upto_region 1 with fail
 obtain ⟨w8, hw8⟩ : ∃ w8, (w.alloc (.cells q.toArray 28)).drew = w8 := ⟨_, rfl⟩
 have hB8 : Below w.heap.size w w8 := by rw [← hw8]; exact hB1.drew
 have hs8 : w.heap.size < w8.heap.size := by rw [← hw8]; exact hsz
 have hra8 : RowAt w8 a zs := h.below hB8
 have dr : ∀ i v, (w.alloc (.cells q.toArray 28)).cell? ⟨w.heap.size, i, none⟩ = some v → w8.cell? ⟨w.heap.size, i, none⟩ = some v := fun i v h => by rw [← hw8]; exact h
 replace c0 := dr _ _ c0
 replace c1 := dr _ _ c1
 replace c2 := dr _ _ c2
 replace c3 := dr _ _ c3
 have rd8 : w8.rangeAt w.heap.size 4 (v8 d) := by rw [← hw8]; exact (World.rangeAt_drew _ _ _ _).2 hrd
 have hld : ∀ w', Below w8.heap.size w8 w' → (loadVar 26 ⟨w.heap.size, 4, none⟩).run Tryz.prog w' = .ok (.agg (v8 d).toArray) w' := fun w' hw => run_loadVar_mid (P := Tryz.prog) w' w.heap.size 4 26 (v8 d) _ (range_below rd8 hw hs8) Tryz.underlying26 rfl id
 obtain ⟨u, hu⟩ : ∃ u, Hid ((v8 d).toArray = u) := ⟨_, hide rfl⟩
 rw [hu.out] at hld
 refine hs_begin (S := (Below w8.heap.size w8)) 15 rfl (by kernel_rfl) ?_
 rw [hw8]
 clear hw8 dr hB1 hsz hrd rd8 id h
 have hS : (Below w8.heap.size w8) w8 := Below.refl _ _
 refine hs_t 0 5 (?_) rfl (by kernel_rfl) (by kernel_rfl) (by kernel_rfl) (by rfl) ?_ hS rfl ?_
 rotate_left
 ·intro w' hw
  go_simp
  try with_reducible rfl
 simp only [nz]
 refine hs_t 1 6 (?_) rfl (by kernel_rfl) (by kernel_rfl) (by kernel_rfl) (by rfl) ?_ hS rfl ?_
 rotate_left
 ·intro w' hw
  go_simp
  try with_reducible rfl
 simp only [nz]
 refine hs_t 2 7 (?_) rfl (by kernel_rfl) (by kernel_rfl) (by kernel_rfl) (by rfl) ?_ hS rfl ?_
 rotate_left
 ·intro w' hw
  have := (hw.cell (p := ⟨w.heap.size, 0, none⟩) hs8).trans c0
  go_simp
  try with_reducible rfl
 simp only [nz]
 refine hs_t 3 8 (?_) rfl (by kernel_rfl) (by kernel_rfl) (by kernel_rfl) (by rfl) ?_ hS rfl ?_
 rotate_left
 ·intro w' hw
  go_simp
  try with_reducible rfl
 simp only [nz]
 refine hs_t 4 9 (?_) rfl (by kernel_rfl) (by kernel_rfl) (by kernel_rfl) (by rfl) ?_ hS rfl ?_
 rotate_left
 ·intro w' hw
  have := (hw.cell (p := ⟨w.heap.size, 1, none⟩) hs8).trans c1
  go_simp
  try with_reducible rfl
 simp only [nz]
 refine hs_t 5 10 (?_) rfl (by kernel_rfl) (by kernel_rfl) (by kernel_rfl) (by rfl) ?_ hS rfl ?_
 rotate_left
 ·intro w' hw
  go_simp
  try with_reducible rfl
 simp only [nz]
 refine hs_t 6 11 (?_) rfl (by kernel_rfl) (by kernel_rfl) (by kernel_rfl) (by rfl) ?_ hS rfl ?_
 rotate_left
 ·intro w' hw
  have := (hw.cell (p := ⟨w.heap.size, 2, none⟩) hs8).trans c2
  go_simp
  try with_reducible rfl
 simp only [nz]
 refine hs_t 7 12 (?_) rfl (by kernel_rfl) (by kernel_rfl) (by kernel_rfl) (by rfl) ?_ hS rfl ?_
 rotate_left
 ·intro w' hw
  go_simp
  try with_reducible rfl
 simp only [nz]
 refine hs_t 8 13 (?_) rfl (by kernel_rfl) (by kernel_rfl) (by kernel_rfl) (by rfl) ?_ hS rfl ?_
 rotate_left
 ·intro w' hw
  have := (hw.cell (p := ⟨w.heap.size, 3, none⟩) hs8).trans c3
  go_simp
  try with_reducible rfl
 simp only [nz]
 refine hs_t 11 16 (?_) rfl (by kernel_rfl) (by kernel_rfl) (by kernel_rfl) (by rfl) ?_ hS rfl ?_
 rotate_left
 ·intro w' hw
  go_simp
  try with_reducible rfl
 simp only [nz]
 refine hs_t 12 17 (.agg u) rfl (by kernel_rfl) (by kernel_rfl) (by kernel_rfl) (by rfl) (fun w' hw => exec_loadC rfl rfl (hld w' hw)) hS rfl ?_
 simp only [nz]
 have hS : (Below w8.heap.size w8) (w8.alloc (.cells #[.int .i64 k, .int .i64 ep, .int .i64 vi, .int .i64 sl] 3)) := (Below.refl _ _).alloc (Nat.le_refl _) _
 refine hs_run (i := 9) (d := some 14) (v := .slice (some ⟨w8.heap.size, 0, none⟩) 4 4) (w' := (w8.alloc (.cells #[.int .i64 k, .int .i64 ep, .int .i64 vi, .int .i64 sl] 3))) rfl (by kernel_rfl) (by rfl) (by go_simp; first | done | with_reducible rfl) rfl hS ?_
 simp only [nz]
 have cn := xnums_new a cap zs [k, ep, vi, sl] #[.int .i64 k, .int .i64 ep, .int .i64 vi, .int .i64 sl] 4 w8 hra8 rfl rfl hz (by omega) (by omega) hn4
 refine hs_call (i := 10) (d := some 15) rfl (by kernel_rfl) (by rfl) (by go_simp; first | done | exact ⟨rfl, rfl⟩ | with_reducible rfl) rfl ?_
 refine (cn).mono ?_
 rintro e' wn1 ⟨v1, rfl, hM1, hb1⟩
 have hS : (Below w8.heap.size w8) wn1 := hb1
 refine ⟨_, rfl, hS, ?_⟩
 simp only [nz]
 have hl1 : (zs ++ numsL [k, ep, vi, sl]).length ≤ 10000000 := by
  have := putL_len hk
  have := putL_len he
  have := putL_len hv
  have := putL_len hs
  simp only [numsL, List.flatMap_cons, List.flatMap_nil, List.append_nil, List.length_append]
  omega
 have cd := xdig_any w8.heap.size v1 (zs ++ numsL [k, ep, vi, sl]) d wn1 hM1 hb1.size hl1 hd hdb
 rw [hu.out] at cd
 refine hs_call (i := 13) (d := some 18) rfl (by kernel_rfl) (by rfl) (by go_simp; first | done | exact ⟨rfl, rfl⟩ | with_reducible rfl) rfl ?_
 refine (cd).mono ?_
 rintro e' wn2 ⟨v2, rfl, hM2, hO2, hr2⟩
 have hS : (Below w8.heap.size w8) wn2 := hb1.trans (off_below hO2 hM1 (Nat.le_refl _) hb1.size)
 refine ⟨_, rfl, hS, ?_⟩
 simp only [nz]
 refine hs_t 14 4 (?_) rfl (by kernel_rfl) (by kernel_rfl) (by kernel_rfl) (by rfl) ?_ hS rfl ?_
 rotate_left
 ·intro w' hw
  go_simp
  try with_reducible rfl
 simp only [nz]
 refine hs_done (by kernel_rfl) ?_
 have hM3 := hM2.base (B' := w.heap.size) (by omega)
 have hB3 := hB8.trans (hS.mono (by omega))
 clear hM2 hO2 hr2 hM1 hb1 cn cd hld
 go_wp2_with fail
 go_ret
 exact ⟨_, rfl, hM3, hB3⟩
theorem row_mine {w : World} {a : Option Addr} {zs : List Int} (h : RowAt w a zs) (cap : Nat) : (convert 36 9 (.slice a zs.length cap)).run Tryz.prog w = .ok (.string (strOf zs)) w := by
 rcases h.2.2 with rfl | ⟨b, off, rfl, _, hr⟩
 ·rw [List.length_nil, run_convert_bytes_string w 36 9 5 a 0 cap Tryz.underlying36 Tryz.underlying5 Tryz.underlying9]
  cases a <;> rfl
 ·exact row_str hr
def RdE (w : World) (R : Nat) (e : Int) : Prop :=
  R < w.heap.size ∧ (∃ a n c, w.cell? ⟨R, 0, none⟩ = some (.slice a n c)) ∧ w.cell? ⟨R, 1, none⟩ = some (.bool true) ∧ w.cell? ⟨R, 2, none⟩ = some (.int .i64 e) ∧
  w.frozen? ⟨R, 0, none⟩ = false ∧ w.frozen? ⟨R, 1, none⟩ = false ∧ w.frozen? ⟨R, 2, none⟩ = false
def Rest (w : World) (R : Nat) (rest : List Int) : Prop :=
  ∃ a cap, w.cell? ⟨R, 0, none⟩ = some (.slice a rest.length cap) ∧ rest.length ≤ cap ∧ cap ≤ maxLen ∧ RowAt w a rest ∧ ∀ x, a = some x → x.block < R
def St (w : World) (R : Nat) (rest : List Int) (e : Int) : Prop := RdE w R e ∧ (e = 0 → Rest w R rest)
theorem RdE.set0 {w : World} {R : Nat} {e : Int} (h : RdE w R e) (a : Option Addr) (n c : Nat) : RdE (w.setCell ⟨R, 0, none⟩ (.slice a n c)) R e := by
 obtain ⟨hR, ⟨a', n', c', h0⟩, h1, h2, f0, f1, f2⟩ := h
 refine ⟨by simpa [World.setCell] using hR, ⟨a, n, c, World.cell?_setCell_same _ _ _ h0⟩, (World.cell?_setCell_other _ _ _ _ (by simp)).trans h1, (World.cell?_setCell_other _ _ _ _ (by simp)).trans h2,
  (World.frozen?_setCell _ _ _ _).trans f0, (World.frozen?_setCell _ _ _ _).trans f1, (World.frozen?_setCell _ _ _ _).trans f2⟩
theorem RdE.set2 {w : World} {R : Nat} {e : Int} (h : RdE w R e) (e' : Int) : RdE (w.setCell ⟨R, 2, none⟩ (.int .i64 e')) R e' := by
 obtain ⟨hR, ⟨a', n', c', h0⟩, h1, h2, f0, f1, f2⟩ := h
 refine ⟨by simpa [World.setCell] using hR, ⟨a', n', c', (World.cell?_setCell_other _ _ _ _ (by simp)).trans h0⟩, (World.cell?_setCell_other _ _ _ _ (by simp)).trans h1, World.cell?_setCell_same _ _ _ h2,
  (World.frozen?_setCell _ _ _ _).trans f0, (World.frozen?_setCell _ _ _ _).trans f1, (World.frozen?_setCell _ _ _ _).trans f2⟩
theorem RowAt.get {w : World} {a : Option Addr} {zs : List Int} (h : RowAt w a zs) (k : Nat) (hk : k < zs.length) : ∃ b off, a = some ⟨b, off, none⟩ ∧ b < w.heap.size ∧ w.cell? ⟨b, off + k, none⟩ = some (.int .u8 (zs.getD k 0)) ∧ 0 ≤ zs.getD k 0 ∧ zs.getD k 0 < 256 := by
 rcases h.2.2 with rfl | ⟨b, off, rfl, hb, hr⟩
 ·simp at hk
 ·refine ⟨b, off, rfl, hb, get8 hr hk, ?_⟩
  rw [List.getD_eq_getElem?_getD, List.getElem?_eq_getElem hk]
  exact h.2.1 _ (List.getElem_mem hk)
theorem cutA_lt {a : Option Addr} {R cap n : Nat} (h : ∀ x, a = some x → x.block < R) : ∀ x, cutA a cap n = some x → x.block < R := by
 intro x hx
 unfold cutA at hx
 split at hx
 ·exact h x hx
 ·cases a with
  | none => simp at hx
  | some y =>
   simp only [Option.map_some, Option.some.injEq] at hx
   subst hx
   have := h y rfl
   unfold Addr.add
   split <;> exact this
theorem lt_ne {a : Option Addr} {R : Nat} (h : ∀ x, a = some x → x.block < R) : ∀ x, a = some x → x.block ≠ R := fun x hx => Nat.ne_of_lt (h x hx)
theorem err_made (R : Nat) (e : Int) (w : World) (h : RdE w R e) :
  Calls Tryz.prog 75 #[.pointer (some ⟨R, 0, none⟩)] w fun en w' => en = .returned (.int .i64 e) ∧ w' = w := by
 obtain ⟨hR, ⟨a, n, c, h0⟩, h1, h2, f0, f1, f2⟩ := h
 go_enter Tryz.func75, Tryz.ntmps75
 go_wp2
 go_ret
 exact ⟨rfl, rfl⟩
theorem left_any (R : Nat) (a : Option Addr) (n c : Nat) (w : World) (h0 : w.cell? ⟨R, 0, none⟩ = some (.slice a n c)) :
  Calls Tryz.prog 76 #[.pointer (some ⟨R, 0, none⟩)] w fun en w' => en = .returned (.int .i64 (n : Int)) ∧ w' = w := by
 go_enter Tryz.func76, Tryz.ntmps76
 go_wp2
 go_ret
 exact ⟨rfl, rfl⟩
set_option maxHeartbeats 400000 in
theorem take_any (R : Nat) (a : Option Addr) (n len c : Nat) (w : World) (h0 : w.cell? ⟨R, 0, none⟩ = some (.slice a len c)) (f0 : w.frozen? ⟨R, 0, none⟩ = false) (hn : n ≤ len) (hc : len ≤ c) (hm : c ≤ maxLen) :
  Calls Tryz.prog 140 #[.pointer (some ⟨R, 0, none⟩), .int .i64 (n : Int)] w fun en w' => en = .returned (.slice a n c) ∧ w' = w.setCell ⟨R, 0, none⟩ (.slice (cutA a c n) (len - n) (c - n)) := by
 unfold maxLen at hm
 by_cases h : c = n
 ·subst h
  obtain rfl : len = c := by omega
  go_enter Tryz.func140, Tryz.ntmps140
  go_wp2
  go_ret
  exact ⟨rfl, by simp [cutA]⟩
 ·go_enter Tryz.func140, Tryz.ntmps140
  go_wp2
  go_ret
  exact ⟨rfl, by simp [cutA, h]⟩
set_option maxHeartbeats 400000 in
theorem fail_any (R : Nat) (e0 e : Int) (w : World) (h : RdE w R e0) :
  Calls Tryz.prog 106 #[.pointer (some ⟨R, 0, none⟩), .int .i64 e] w fun en w' => en = .returned (.tuple #[]) ∧ RdE w' R e ∧ w.grownBy w' (some R) := by
 have hE := (h.set2 e).set0 none 0 0
 have hg := gb_trans (gb_set w R 2 (.int .i64 e)) (gb_set (w.setCell ⟨R, 2, none⟩ (.int .i64 e)) R 0 (.slice none 0 0))
 obtain ⟨hR, ⟨a, n, c, h0⟩, h1, h2, f0, f1, f2⟩ := h
 go_enter Tryz.func106, Tryz.ntmps106
 go_wp2
 go_end0
 exact ⟨rfl, hE, hg⟩
theorem val_bound (l : List Int) (h : ∀ z ∈ l, 0 ≤ z ∧ z < 256) : 0 ≤ val l ∧ val l < 256 ^ l.length := by
 have : ∀ k, k ≤ l.length → 0 ≤ val (l.take k) ∧ val (l.take k) < 256 ^ k := by
  intro k
  induction k with
  | zero => intro _; simp [val]
  | succ k ih =>
   intro hk
   have hlt : k < l.length := by omega
   obtain ⟨i1, i2⟩ := ih (by omega)
   have hz := h l[k] (List.getElem_mem hlt)
   rw [List.take_succ_eq_append_getElem hlt, val_snoc, Int.pow_succ]
   omega
 have := this l.length (Nat.le_refl _)
 rwa [List.take_length] at this
theorem val_take (l : List Int) (k : Nat) (h : k < l.length) : val (l.take (k + 1)) = val (l.take k) * 256 + l.getD k 0 := by
 rw [List.take_succ_eq_append_getElem h, val_snoc, List.getD_eq_getElem?_getD, List.getElem?_eq_getElem h]; rfl
theorem or_join (x d : Int) (h0 : 0 ≤ x) (h1 : x < 72057594037927936) (h2 : 0 ≤ d) (h3 : d < 256) : bits .or .u64 (x * 256) d = x * 256 + d := by
 obtain ⟨m, rfl⟩ := Int.eq_ofNat_of_zero_le h0
 obtain ⟨q, rfl⟩ := Int.eq_ofNat_of_zero_le h2
 have e : ((m : Int) * 256) = ((m * 256 : Nat) : Int) := by omega
 rw [e, u64_or_nat _ _ (by omega) (by omega), nat_join 8 _ _ (by omega) (by omega)]
 omega
def valR (ds : List Int) : Int × Int := if ds.head? = some 0 ∨ 9223372036854775807 < val ds then (0, 11) else (val ds, 0)
set_option maxHeartbeats 800000 in
theorem value_any (a : Option Addr) (cap : Nat) (ds : List Int) (w : World) (h : RowAt w a ds) (hl : ds.length ≤ 8) :
  Calls Tryz.prog 141 #[.slice a ds.length cap] w fun en w' => en = .returned (.tuple #[.int .i64 (valR ds).1, .int .i64 (valR ds).2]) ∧ w' = w := by
 by_cases hh : ds.head? = some 0
 ·have HV : Hid (valR ds = (0, 11)) := by show _ = _; simp [valR, hh]
  obtain ⟨tl, rfl⟩ : ∃ tl, ds = 0 :: tl := by
   cases ds with
   | nil => simp at hh
   | cons x tl => simp at hh; exact ⟨tl, by rw [hh]⟩
  obtain ⟨b, off, rfl, hb, hc, _⟩ := h.get 0 (by simp)
  have hc' : w.cell? ⟨b, off, none⟩ = some (.int .u8 0) := by simpa using hc
  have hp : (0 : Int) < ((0 :: tl : List Int).length : Int) := by simp
  generalize (0 :: tl : List Int) = ds at *
  go_enter Tryz.func141, Tryz.ntmps141
  go_wp2
  go_ret2
  rw [HV.out]
  exact ⟨rfl, rfl⟩
 ·have hz := h.2.1
  have hstart : ds = [] ∨ ∃ b off z, a = some ⟨b, off, none⟩ ∧ w.cell? ⟨b, off, none⟩ = some (.int .u8 z) ∧ (z == 0) = false ∧ 0 < ds.length := by
   cases ds with
   | nil => exact Or.inl rfl
   | cons x tl =>
    obtain ⟨b, off, rfl, hb, hc, _⟩ := h.get 0 (by simp)
    exact Or.inr ⟨b, off, x, rfl, by simpa using hc, by simpa using hh, by simp⟩
  have hval := val_bound ds hz
  rcases hstart with rfl | ⟨b, off, z0, rfl, hc0, hne, hpos⟩
  ·go_enter Tryz.func141, Tryz.ntmps141
   go_wp2
   refine wp_loop_rounds 1 ?_
   rw [rounds_succ]
   go_wp2
   go_ret2
   exact ⟨rfl, rfl⟩
  ·have hp : (0 : Int) < (ds.length : Int) := by omega
   have hc : ∀ j, j < ds.length → w.cell? ⟨b, off + j, none⟩ = some (.int .u8 (ds.getD j 0)) := by
    obtain ⟨_, _, hd | ⟨b', off', hx, _, hc⟩⟩ := h
    ·rw [hd] at hpos; simp at hpos
    ·simp only [Option.some.injEq, Addr.mk.injEq] at hx
     obtain ⟨rfl, rfl, _⟩ := hx
     exact fun j hj => get8 hc hj
   have HC : Hid (∀ j, j < ds.length → w.cell? ⟨b, off + j, none⟩ = some (.int .u8 (ds.getD j 0))) := hc
   have HR : Hid (valR ds = if 9223372036854775807 < val ds then (0, 11) else (val ds, 0)) := by show _ = _; simp [valR, hh]
   clear hc h hh
   go_enter Tryz.func141, Tryz.ntmps141
   go_wp2
   go_loop [4, 17] (fun n i => ∃ k : Nat, k ≤ ds.length ∧ i = .int .i64 k ∧ n = .int .u64 (val (ds.take k))) (fun _ i => ds.length - (intOf i).toNat)
   case atStart => exact ⟨0, by omega, rfl, rfl⟩
   case round =>
    obtain ⟨k, hk, rfl, rfl⟩ := hrel
    by_cases hlt : k < ds.length
    ·obtain ⟨z, hcx, hz0, hz1, HV⟩ : ∃ z, w.cell? ⟨b, off + k, none⟩ = some (.int .u8 z) ∧ 0 ≤ z ∧ z < 256 ∧ Hid (val (ds.take (k + 1)) = val (ds.take k) * 256 + z) := by
      refine ⟨ds.getD k 0, HC.out k hlt, ?_, ?_, val_take ds k hlt⟩ <;> rw [List.getD_eq_getElem?_getD, List.getElem?_eq_getElem hlt]
      ·exact (hz _ (List.getElem_mem hlt)).1
      ·exact (hz _ (List.getElem_mem hlt)).2
     have hb7 : 0 ≤ val (ds.take k) ∧ val (ds.take k) < 72057594037927936 := by
      have := val_bound (ds.take k) (fun z hz' => hz z (List.mem_of_mem_take hz'))
      rw [List.length_take_of_le (by omega)] at this
      have h7 : 256 ^ k ≤ 72057594037927936 := Nat.le_trans (Nat.pow_le_pow_right (by omega) (show k ≤ 7 by omega)) (by decide)
      have e7 : ((256 ^ k : Nat) : Int) = (256 : Int) ^ k := Int.natCast_pow 256 k
      rw [← e7] at this
      omega
     obtain ⟨hx0, hx1⟩ := hb7
     have ej := or_join (val (ds.take k)) z hx0 hx1 hz0 hz1
     generalize val (ds.take k) = X at *
     go_wp2
     go_round
     case rel => exact ⟨k + 1, by omega, by go_num, by rw [HV.out]⟩
     case measure => simp [intOf]; omega
    ·obtain rfl : k = ds.length := by omega
     rw [List.take_length]
     by_cases hbig : 9223372036854775807 < val ds
     ·go_wp2
      go_ret2
      rw [HR.out, if_pos hbig]
      exact ⟨rfl, rfl⟩
     ·go_wp2
      go_ret2
      rw [HR.out, if_neg (by omega)]
      exact ⟨rfl, rfl⟩
def numR : List Int → Int × Nat × Int
  | [] => (0, 0, 10)
  | k :: tl => if 8 < k then (0, 0, 11) else if (tl.length : Int) < k then (0, 0, 10) else
      if (valR (tl.take k.toNat)).2 = 0 then ((valR (tl.take k.toNat)).1, 1 + k.toNat, 0) else (0, 0, (valR (tl.take k.toNat)).2)
theorem valR_err (ds : List Int) (h : (valR ds).2 ≠ 0) : valR ds = (0, 11) := by
 unfold valR at h ⊢
 split
 ·rfl
 ·rename_i hh; rw [if_neg hh] at h; exact absurd rfl h
theorem Rest.cell {w : World} {R : Nat} {rest : List Int} (h : Rest w R rest) : ∃ a cap, w.cell? ⟨R, 0, none⟩ = some (.slice a rest.length cap) ∧ rest.length ≤ cap ∧ cap ≤ maxLen ∧ RowAt w a rest ∧ ∀ x, a = some x → x.block < R := h
set_option maxHeartbeats 1600000 in
theorem number_any (R : Nat) (e0 : Int) (rest : List Int) (w : World) (hE : RdE w R e0) (hR : Rest w R rest) :
  Calls Tryz.prog 105 #[.pointer (some ⟨R, 0, none⟩)] w fun en w' => en = .returned (.tuple #[.int .i64 (numR rest).1, .int .i64 (numR rest).2.2]) ∧ RdE w' R e0 ∧ w.grownBy w' (some R) ∧ ((numR rest).2.2 = 0 → Rest w' R (rest.drop (numR rest).2.1)) := by
 obtain ⟨a, cap, h0, hc, hm, hrow, hlt⟩ := hR
 have hne := lt_ne hlt
 have f0 := hE.2.2.2.2.1
 cases rest with
 | nil =>
  have h0' : w.cell? ⟨R, 0, none⟩ = some (.slice a 0 cap) := h0
  go_enter Tryz.func105, Tryz.ntmps105
  go_wp2_with fail
  refine (left_any R a 0 cap w h0').mono ?_
  rintro e w1 ⟨rfl, rfl⟩
  go_wp2
  go_ret2
  exact ⟨rfl, hE, gb_refl _ _, fun h => by cases h⟩
 | cons k tl =>
  obtain ⟨b, off, rfl, hb, hcb, hk0, hk1⟩ := hrow.get 0 (by simp)
  have hk : (k :: tl).getD 0 0 = k := rfl
  rw [hk] at hcb hk0 hk1
  have hbR : b ≠ R := hne _ rfl
  have hcb1 : (w.setCell ⟨R, 0, none⟩ (.slice (cutA (some ⟨b, off, none⟩) cap 1) ((k :: tl).length - 1) (cap - 1))).cell? ⟨b, off, none⟩ = some (.int .u8 k) :=
   (World.cell?_setCell_other _ _ _ _ (by intro hx; injection hx with hx1; exact hbR hx1.symm)).trans (by simpa using hcb)
  have hE1 := hE.set0 (cutA (some ⟨b, off, none⟩) cap 1) ((k :: tl).length - 1) (cap - 1)
  have hg1 := gb_set w R 0 (.slice (cutA (some ⟨b, off, none⟩) cap 1) ((k :: tl).length - 1) (cap - 1))
  have hr1 := (hrow.drop 1 cap (by simp) hc).gb hg1 (.inr (cutA_ne hne))
  have h01 : (w.setCell ⟨R, 0, none⟩ (.slice (cutA (some ⟨b, off, none⟩) cap 1) ((k :: tl).length - 1) (cap - 1))).cell? ⟨R, 0, none⟩ = some (.slice (cutA (some ⟨b, off, none⟩) cap 1) ((k :: tl).length - 1) (cap - 1)) := World.cell?_setCell_same _ _ _ h0
  have hlen : (k :: tl).length - 1 = tl.length := by simp
  rw [hlen] at hE1 hg1 hr1 h01 hcb1
  generalize hW1 : w.setCell ⟨R, 0, none⟩ (.slice (cutA (some ⟨b, off, none⟩) cap 1) tl.length (cap - 1)) = W1 at *
  have c1 := take_any R (some ⟨b, off, none⟩) 1 (k :: tl).length cap w h0 f0 (by simp) hc hm
  rw [hlen, hW1] at c1
  have HW1 : Hid (w.setCell ⟨R, 0, none⟩ (.slice (cutA (some ⟨b, off, none⟩) cap 1) tl.length (cap - 1)) = W1) := hW1
  clear hW1
  have hpos : (((k :: tl).length : Int) == 0) = false := by simp; omega
  have hnm := cutA_ne (cap := cap) (n := 1) hne
  have hltm := cutA_lt (cap := cap) (n := 1) hlt
  generalize hA1 : cutA (some ⟨b, off, none⟩) cap 1 = A1 at *
  clear hA1
  have cl := left_any R (some ⟨b, off, none⟩) (k :: tl).length cap w h0
  go_enter Tryz.func105, Tryz.ntmps105
  go_wp2_with fail
  refine cl.mono ?_
  rintro e w1 ⟨rfl, rfl⟩
  clear cl
  go_wp2_with fail
  refine c1.mono ?_
  rintro e w2 ⟨rfl, rfl⟩
  clear c1
  by_cases hk8 : 8 < k
  ·have HN : Hid (numR (k :: tl) = (0, 0, 11)) := by show _ = _; simp [numR, hk8]
   go_wp2_with fail
   go_ret2
   rw [HN.out]
   exact ⟨rfl, hE1, hg1, fun h => by cases h⟩
  ·by_cases hkl : (tl.length : Int) < k
   ·have HN : Hid (numR (k :: tl) = (0, 0, 10)) := by show _ = _; simp [numR, hk8, hkl]
    go_wp2_with fail
    refine (left_any R A1 tl.length (cap - 1) w2 h01).mono ?_
    rintro e w3 ⟨rfl, rfl⟩
    go_wp2_with fail
    go_ret2
    rw [HN.out]
    exact ⟨rfl, hE1, hg1, fun h => by cases h⟩
   ·obtain ⟨q, hqk⟩ : ∃ q : Nat, k.toNat = q := ⟨_, rfl⟩
    have hkq : (q : Int) = k := by omega
    have hq : q ≤ tl.length := by omega
    have hcl : tl.length ≤ cap - 1 := by simp at hc; omega
    have c2 := take_any R A1 q tl.length (cap - 1) w2 h01 hE1.2.2.2.2.1 hq hcl (by omega)
    rw [hkq] at c2
    have hE2 := hE1.set0 (cutA A1 (cap - 1) q) (tl.length - q) (cap - 1 - q)
    have hg2 := gb_set w2 R 0 (.slice (cutA A1 (cap - 1) q) (tl.length - q) (cap - 1 - q))
    have hr1' : RowAt w2 A1 tl := by simpa using hr1
    have hr2 := (hr1'.take q).gb hg2 (.inr hnm)
    have hr3 := (hr1'.drop q (cap - 1) hq hcl)
    have h02 : (w2.setCell ⟨R, 0, none⟩ (.slice (cutA A1 (cap - 1) q) (tl.length - q) (cap - 1 - q))).cell? ⟨R, 0, none⟩ = some (.slice (cutA A1 (cap - 1) q) (tl.length - q) (cap - 1 - q)) := World.cell?_setCell_same _ _ _ h01
    have hRest : Rest (w2.setCell ⟨R, 0, none⟩ (.slice (cutA A1 (cap - 1) q) (tl.length - q) (cap - 1 - q))) R (tl.drop q) := by
     refine ⟨cutA A1 (cap - 1) q, cap - 1 - q, by rw [List.length_drop]; exact h02, by rw [List.length_drop]; omega, by omega, ?_, ?_⟩
     ·exact hr3.gb hg2 (.inr (cutA_ne hnm))
     ·exact cutA_lt hltm
    generalize w2.setCell ⟨R, 0, none⟩ (.slice (cutA A1 (cap - 1) q) (tl.length - q) (cap - 1 - q)) = W2 at *
    have hqt : (tl.take q).length = q := List.length_take_of_le hq
    have c3 := value_any A1 (cap - 1) (tl.take q) W2 hr2 (by omega)
    rw [hqt] at c3
    have HN : Hid (numR (k :: tl) = if (valR (tl.take q)).2 = 0 then ((valR (tl.take q)).1, 1 + q, 0) else (0, 0, (valR (tl.take q)).2)) := by
     show _ = _
     simp only [numR, if_neg hk8, if_neg hkl, hqk]
    clear hr1 hr2 hr3 hqt hqk hkq
    go_wp2_with fail
    refine (left_any R A1 tl.length (cap - 1) w2 h01).mono ?_
    rintro e w3 ⟨rfl, rfl⟩
    go_wp2_with fail
    refine c2.mono ?_
    rintro e w4 ⟨rfl, rfl⟩
    clear c2
    go_wp2_with fail
    refine c3.mono ?_
    rintro e w5 ⟨rfl, rfl⟩
    clear c3
    go_wp2_with fail
    go_ret2
    refine ⟨?_, hE2, gb_trans hg1 hg2, ?_⟩
    ·rw [HN.out]
     by_cases hv : (valR (tl.take q)).2 = 0
     ·rw [if_pos hv, hv]; exact rfl
     ·rw [if_neg hv, valR_err _ hv]; exact rfl
    ·rw [HN.out]
     by_cases hv : (valR (tl.take q)).2 = 0
     ·rw [if_pos hv]; intro _; rw [Nat.add_comm]; exact hRest
     ·rw [if_neg hv]; intro h; exact absurd h hv
def numS (rest : List Int) (e most : Int) : Int × List Int × Int :=
  if e = 0 then
    if (numR rest).2.2 = 0 then
      if most < (numR rest).1 then (0, rest, 3) else ((numR rest).1, rest.drop (numR rest).2.1, 0)
    else (0, rest, (numR rest).2.2)
  else (0, rest, e)
set_option maxHeartbeats 1600000 in
theorem num_any (R : Nat) (rest : List Int) (e most : Int) (w : World) (h : St w R rest e) :
  Calls Tryz.prog 72 #[.pointer (some ⟨R, 0, none⟩), .int .i64 most] w fun en w' => en = .returned (.int .i64 (numS rest e most).1) ∧ St w' R (numS rest e most).2.1 (numS rest e most).2.2 ∧ w.grownBy w' (some R) := by
 obtain ⟨hE, hR⟩ := h
 by_cases he : e = 0
 ·subst he
  have hR := hR rfl
  have cn := number_any R 0 rest w hE hR
  have HS : Hid (numS rest 0 most = if (numR rest).2.2 = 0 then (if most < (numR rest).1 then (0, rest, 3) else ((numR rest).1, rest.drop (numR rest).2.1, 0)) else (0, rest, (numR rest).2.2)) := by show _ = _; simp [numS]
  generalize (numR rest).1 = v at *
  generalize (numR rest).2.1 = c at *
  generalize (numR rest).2.2 = er at *
  by_cases her : er = 0
  ·subst her
   rw [if_pos rfl] at HS
   by_cases hmost : most < v
   ·rw [if_pos hmost] at HS
    go_enter Tryz.func72, Tryz.ntmps72
    go_wp2_with fail
    refine (err_made R 0 w hE).mono ?_
    rintro e w1 ⟨rfl, rfl⟩
    go_wp2_with fail
    refine cn.mono ?_
    rintro e w2 ⟨rfl, hE2, hg2, hR2⟩
    go_wp2_with fail
    refine (fail_any R 0 3 w2 hE2).mono ?_
    rintro e w3 ⟨rfl, hE3, hg3⟩
    go_wp2_with fail
    go_ret
    rw [HS.out]
    exact ⟨rfl, ⟨hE3, fun h => by cases h⟩, gb_trans hg2 hg3⟩
   ·rw [if_neg hmost] at HS
    go_enter Tryz.func72, Tryz.ntmps72
    go_wp2_with fail
    refine (err_made R 0 w hE).mono ?_
    rintro e w1 ⟨rfl, rfl⟩
    go_wp2_with fail
    refine cn.mono ?_
    rintro e w2 ⟨rfl, hE2, hg2, hR2⟩
    have hR3 := hR2 (by trivial)
    clear hR2 cn
    go_wp2_with fail
    go_ret
    rw [HS.out]
    exact ⟨rfl, ⟨hE2, fun _ => hR3⟩, hg2⟩
  ·have her' : (er == 0) = false := by simpa using her
   rw [if_neg her] at HS
   go_enter Tryz.func72, Tryz.ntmps72
   go_wp2_with fail
   refine (err_made R 0 w hE).mono ?_
   rintro e w1 ⟨rfl, rfl⟩
   go_wp2_with fail
   refine cn.mono ?_
   rintro e w2 ⟨rfl, hE2, hg2, hR2⟩
   clear hR2 cn
   go_wp2_with fail
   refine (fail_any R 0 er w2 hE2).mono ?_
   rintro e w3 ⟨rfl, hE3, hg3⟩
   go_wp2_with fail
   go_ret
   rw [HS.out]
   exact ⟨rfl, ⟨hE3, fun h => absurd h her⟩, gb_trans hg2 hg3⟩
 ·have HS : Hid (numS rest e most = (0, rest, e)) := by show _ = _; simp [numS, he]
  have he' : (e == 0) = false := by simpa using he
  go_enter Tryz.func72, Tryz.ntmps72
  go_wp2_with fail
  refine (err_made R e w hE).mono ?_
  rintro en w1 ⟨rfl, rfl⟩
  go_wp2_with fail
  go_ret
  rw [HS.out]
  exact ⟨rfl, ⟨hE, fun h => absurd h he⟩, gb_refl _ _⟩
theorem RowAt.none_nil {w : World} {zs : List Int} (h : RowAt w none zs) : zs = [] := by
 rcases h.2.2 with h | ⟨b, off, hx, _⟩
 ·exact h
 ·cases hx
set_option maxHeartbeats 800000 in
theorem clone_any (a : Option Addr) (cap : Nat) (zs : List Int) (w : World) (h : RowAt w a zs) (hm : zs.length ≤ 549755813888) :
  Calls Tryz.prog 71 #[.slice a zs.length cap] w fun e w' => ∃ v, e = .returned v ∧ Mine w' w.heap.size v zs ∧ Below w.heap.size w w' := by
 obtain ⟨i0, hi, hz0, hz1, hz2⟩ := info_parts info8
 cases a with
 | none =>
  obtain rfl := h.none_nil
  have hn := fun w => Lib.run_eql_slice_nil (P := Tryz.prog) w 36 5 none 0 cap 0 0 Tryz.underlying36
  go_enter Tryz.func71, Tryz.ntmps71
  go_wp2
  go_ret
  exact ⟨_, rfl, ⟨World.ownsRow_nil _ _ _ _, by simp⟩, Below.refl _ _⟩
 | some x =>
  have hn := fun w => Lib.run_eql_slice_nil (P := Tryz.prog) w 36 5 (some x) zs.length cap 0 0 Tryz.underlying36
  go_enter Tryz.func71, Tryz.ntmps71
  go_wp2_with (at_builtin; refine wpList_append_own_src _ rfl _ _ 36 36 rfl w.heap.size 5 i0 (.int .u8 0) 1 1 Tryz.underlying36 hi hz0 hz1 hz2 rfl _ 0 [] rfl (World.ownsRow_made w #[] 0 (Nat.le_refl _) (by simp) (by simp)) (.slice (some x) zs.length cap) zs.length (zs.map (Value.int .u8)) rfl ((h.below ((Below.refl _ _).alloc (Nat.le_refl _) _)).src cap) ?c1 ?c2 ?c3 ?_)
  case c1 => unfold maxLen; omega
  case c2 => omega
  case c3 => simp
  intro v' w1 hown hgrow
  have hb1 : Below w.heap.size w w1 := ((Below.refl _ _).alloc (Nat.le_refl _) _).grown hgrow (by simp) (fun k hk => by simp [Value.ownBlock] at hk; omega)
  go_wp2
  go_ret
  exact ⟨_, rfl, ⟨by simpa using hown, h.2.1⟩, hb1⟩
set_option maxHeartbeats 800000 in
theorem read_any (a : Option Addr) (cap : Nat) (zs : List Int) (w : World) (h : RowAt w a zs) (hm : zs.length ≤ 549755813888) :
  Calls Tryz.prog 35 #[.slice a zs.length cap] w fun e w' => ∃ R, e = .returned (.pointer (some ⟨R, 0, none⟩)) ∧ w.heap.size ≤ R ∧ St w' R zs 0 ∧ Below w.heap.size w w' := by
 go_enter Tryz.func35, Tryz.ntmps35
 go_wp2_with fail
 refine (clone_any a cap zs w h hm).mono ?_
 rintro e w1 ⟨v, rfl, hmine, hb⟩
 obtain ⟨a', cap', rfl, hc1, hc2, hr⟩ := hmine.rowAt (by unfold maxLen; omega)
 have hblk : ∀ x, a' = some x → x.block < w1.heap.size := fun x hx => (hmine.1.lt x.block (by simp [hx, Value.ownBlock])).2
 have hb2 : Below w1.heap.size w1 (w1.alloc (.cells #[.slice a' zs.length cap', .bool true, .int .i64 0] 115)) := (Below.refl _ _).alloc (Nat.le_refl _) _
 have hSt : St (w1.alloc (.cells #[.slice a' zs.length cap', .bool true, .int .i64 0] 115)) w1.heap.size zs 0 := by
  have cs : ∀ j, (w1.alloc (.cells #[.slice a' zs.length cap', .bool true, .int .i64 0] 115)).cell? ⟨w1.heap.size, j, none⟩ = (#[.slice a' zs.length cap', .bool true, .int .i64 0] : Array Value)[j]? := fun j => World.cell?_alloc_at _ _ _ _ rfl
  have fs : ∀ j, (w1.alloc (.cells #[.slice a' zs.length cap', .bool true, .int .i64 0] 115)).frozen? ⟨w1.heap.size, j, none⟩ = false := fun j => World.frozen?_alloc_at _ _ _ _ rfl
  exact ⟨⟨by simp, ⟨a', zs.length, cap', cs 0⟩, cs 1, cs 2, fs 0, fs 1, fs 2⟩, fun _ => ⟨a', cap', cs 0, hc1, hc2, hr.below hb2, hblk⟩⟩
 go_wp2_with fail
 go_ret
 exact ⟨_, rfl, hb.size, hSt, hb.trans (hb2.mono hb.size)⟩
def textS (rest : List Int) (e most : Int) : List Int × List Int × Int :=
  if (numS rest e 9223372036854775807).2.2 = 0 then
    if most < (numS rest e 9223372036854775807).1 then ([], rest, 3)
    else if ((numS rest e 9223372036854775807).2.1.length : Int) < (numS rest e 9223372036854775807).1 then ([], rest, 10)
    else ((numS rest e 9223372036854775807).2.1.take (numS rest e 9223372036854775807).1.toNat, (numS rest e 9223372036854775807).2.1.drop (numS rest e 9223372036854775807).1.toNat, 0)
  else ([], rest, (numS rest e 9223372036854775807).2.2)
theorem St.other {w : World} {R : Nat} {rest : List Int} {e : Int} (h : St w R rest e) (he : e ≠ 0) (rest' : List Int) : St w R rest' e := ⟨h.1, fun h0 => absurd h0 he⟩
end Go.Proofs.YtinndbipomlokaaGreat
namespace Go.Proofs.YtinndbipomlokaaGreat
open Go.RowKit
open Sha Tal
variable {B : Nat}
def Rf (B : Nat) (w : World) (X : Nat) (zs : List Int) (p : Nat) (e : Int) : Prop :=
  X < w.heap.size ∧ (∃ a cap, w.cell? ⟨X, 0, none⟩ = some (.slice a zs.length cap) ∧ zs.length ≤ cap ∧ cap ≤ maxLen ∧ RowAt w a zs ∧ ∀ x, a = some x → B ≤ x.block ∧ x.block < X) ∧
  w.cell? ⟨X, 1, none⟩ = some (.int .i64 (p : Int)) ∧ w.cell? ⟨X, 2, none⟩ = some (.int .i64 e) ∧ w.frozen? ⟨X, 0, none⟩ = false ∧ w.frozen? ⟨X, 1, none⟩ = false ∧ w.frozen? ⟨X, 2, none⟩ = false ∧ p ≤ zs.length ∧ zs.length ≤ 40000
theorem suc_ne {a : Option Addr} {X : Nat} (h : ∀ x, a = some x → B ≤ x.block ∧ x.block < X) : ∀ x, a = some x → x.block ≠ X := fun x hx => Nat.ne_of_lt (h x hx).2
namespace Tal
end Tal
theorem Rf.rest {w : World} {X : Nat} {zs : List Int} {p : Nat} {e : Int} (h : Rf B w X zs p e) : ∃ a cap, w.cell? ⟨X, 0, none⟩ = some (.slice a zs.length cap) ∧ zs.length ≤ cap ∧ cap ≤ maxLen ∧ RowAt w (cutA a cap p) (zs.drop p) := by
 obtain ⟨hX, ⟨a, cap, h0, hc, hm, hr, hne⟩, h1, h2, f0, f1, f2, hp, hl⟩ := h
 exact ⟨a, cap, h0, hc, hm, hr.drop p cap hp hc⟩
end Go.Proofs.YtinndbipomlokaaGreat
namespace Go.Proofs.YtinndbipomlokaaGreat
open Go.RowKit
open Sha Tal
variable {B : Nat}
theorem Rf.set2 {w : World} {X : Nat} {zs : List Int} {p : Nat} {e : Int} (h : Rf B w X zs p e) (e' : Int) : Rf B (w.setCell ⟨X, 2, none⟩ (.int .i64 e')) X zs p e' := by
 obtain ⟨hX, ⟨a, cap, h0, hc, hm, hr, hne⟩, h1, h2, f0, f1, f2, hp, hl⟩ := h
 exact ⟨by simpa [World.setCell] using hX, ⟨a, cap, (World.cell?_setCell_other _ _ _ _ (by simp)).trans h0, hc, hm, hr.gb (gb_set w X 2 _) (.inr (suc_ne hne)), hne⟩, (World.cell?_setCell_other _ _ _ _ (by simp)).trans h1, World.cell?_setCell_same _ _ _ h2,
  (World.frozen?_setCell _ _ _ _).trans f0, (World.frozen?_setCell _ _ _ _).trans f1, (World.frozen?_setCell _ _ _ _).trans f2, hp, hl⟩
def RSt (B : Nat) (w : World) (X : Nat) (rest : List Int) (e : Int) : Prop := ∃ zs p, Rf B w X zs p e ∧ (e = 0 → zs.drop p = rest)
theorem RSt.other {w : World} {X : Nat} {rest : List Int} {e : Int} (h : RSt B w X rest e) (he : e ≠ 0) (rest' : List Int) : RSt B w X rest' e := by
 obtain ⟨zs, p, h1, _⟩ := h
 exact ⟨zs, p, h1, fun h0 => absurd h0 he⟩
end Go.Proofs.YtinndbipomlokaaGreat
namespace Go.Proofs.YtinndbipomlokaaGreat
open Go.RowKit
open Sha Tal
variable {B : Nat}
def rawS (rest : List Int) (e n : Int) : List Int × List Int × Int :=
  if e = 0 then
    if n < 0 then ([], rest, 2)
    else if (rest.length : Int) < n then ([], rest, 10)
    else (rest.take n.toNat, rest.drop n.toNat, 0)
  else ([], rest, e)
theorem cell_block {w w' : World} {b j : Nat} (h : w'.heap[b]? = w.heap[b]?) : w'.cell? ⟨b, j, none⟩ = w.cell? ⟨b, j, none⟩ ∧ w'.frozen? ⟨b, j, none⟩ = w.frozen? ⟨b, j, none⟩ := by
 constructor
 ·simp only [World.cell?, h]
 ·simp only [World.frozen?, h]
theorem RdE.below {w w' : World} {R : Nat} {e : Int} (h : RdE w R e) (hb : w'.heap[R]? = w.heap[R]?) (hs : w.heap.size ≤ w'.heap.size) : RdE w' R e := by
 obtain ⟨hR, ⟨a, n, c, h0⟩, h1, h2, f0, f1, f2⟩ := h
 have hc := fun j => (cell_block (j := j) hb)
 exact ⟨Nat.lt_of_lt_of_le hR hs, ⟨a, n, c, (hc 0).1.trans h0⟩, (hc 1).1.trans h1, (hc 2).1.trans h2, (hc 0).2.trans f0, (hc 1).2.trans f1, (hc 2).2.trans f2⟩
theorem St.below {w w' : World} {R : Nat} {rest : List Int} {e : Int} (h : St w R rest e) (hb : Below w.heap.size w w') : St w' R rest e := by
 have hR := h.1.1
 refine ⟨h.1.below (hb.block R hR) hb.size, fun he => ?_⟩
 obtain ⟨a, cap, h0, hc, hm, hr, hne⟩ := h.2 he
 exact ⟨a, cap, (cell_block (hb.block R hR)).1.trans h0, hc, hm, hr.below hb, hne⟩
theorem Rf.below {w w' : World} {X : Nat} {zs : List Int} {p : Nat} {e : Int} (h : Rf B w X zs p e) (hb : Below w.heap.size w w') : Rf B w' X zs p e := by
 obtain ⟨hX, ⟨a, cap, h0, hc, hm, hr, hne⟩, h1, h2, f0, f1, f2, hp, hl⟩ := h
 have hk := fun j => (cell_block (j := j) (hb.block X hX))
 exact ⟨Nat.lt_of_lt_of_le hX hb.size, ⟨a, cap, (hk 0).1.trans h0, hc, hm, hr.below hb, hne⟩, (hk 1).1.trans h1, (hk 2).1.trans h2, (hk 0).2.trans f0, (hk 1).2.trans f1, (hk 2).2.trans f2, hp, hl⟩
theorem RSt.below {w w' : World} {X : Nat} {rest : List Int} {e : Int} (h : RSt B w X rest e) (hb : Below w.heap.size w w') : RSt B w' X rest e := by
 obtain ⟨zs, p, h1, h2⟩ := h
 exact ⟨zs, p, h1.below hb, h2⟩
theorem Mine.nil (w : World) (B : Nat) : Mine w B (.slice none 0 0) [] := ⟨World.ownsRow_nil _ _ _ _, by simp⟩
theorem Mine.mono' {w : World} {B B' : Nat} {v : Value} {zs : List Int} (h : Mine w B v zs) (hb : B' ≤ B) : Mine w B' v zs := by
 refine ⟨⟨h.1.1, ?_⟩, h.2⟩
 rcases h.1.2 with h | ⟨g, cap, cur, hv, hg, r⟩
 ·exact .inl h
 ·exact .inr ⟨g, cap, cur, hv, Nat.le_trans hb hg, r⟩
end Go.Proofs.YtinndbipomlokaaGreat
namespace Go.Proofs.YtinndbipomlokaaGreat
open Go.RowKit
open Sha Tal
structure MrAt (w : World) (Q R : Nat) (z : Bool) : Prop where
  lt : Q < w.heap.size
  ne : R < Q
  c0 : w.cell? ⟨Q, 0, none⟩ = some (.pointer (some ⟨R, 0, none⟩))
  c1 : w.cell? ⟨Q, 1, none⟩ = some (.bool z)
  f1 : w.frozen? ⟨Q, 1, none⟩ = false
theorem MrAt.at {w w' : World} {Q R : Nat} {z : Bool} (h : MrAt w Q R z) (hb : w'.heap[Q]? = w.heap[Q]?) (hs : w.heap.size ≤ w'.heap.size) : MrAt w' Q R z :=
 ⟨Nat.lt_of_lt_of_le h.lt hs, h.ne, (cell_block hb).1.trans h.c0, (cell_block hb).1.trans h.c1, (cell_block hb).2.trans h.f1⟩
theorem MrAt.gb {w w' : World} {Q R : Nat} {z : Bool} (h : MrAt w Q R z) (hg : w.grownBy w' (some R)) : MrAt w' Q R z :=
 h.at (hg.block Q h.lt (fun e => by have := h.ne; cases e; omega)) hg.size
theorem MrAt.below {w w' : World} {Q R : Nat} {z : Bool} (h : MrAt w Q R z) (hb : Below w.heap.size w w') : MrAt w' Q R z := h.at (hb.block Q h.lt) hb.size
def doneE (rest : List Int) (e : Int) : Int := if e = 0 then (if rest.length = 0 then 0 else 12) else e
set_option maxRecDepth 100000 in
set_option maxHeartbeats 2000000 in
theorem done_any (R : Nat) (rest : List Int) (e : Int) (w : World) (h : St w R rest e) : Calls Tryz.prog 37 #[.pointer (some ⟨R, 0, none⟩)] w fun en w' => en = .returned (.int .i64 (doneE rest e)) ∧ w' = w := by
 have ce := err_made R e w h.1
 by_cases he : e = 0
 ·subst he
  obtain ⟨a, cap, h0, _⟩ := h.2 rfl
  have cl := left_any R a rest.length cap w h0
  have E : doneE rest 0 = if rest.length = 0 then 0 else 12 := by simp [doneE]
  rw [E]
  clear E h
  by_cases hr : rest.length = 0
  ·rw [if_pos hr]
   rw [hr] at cl
   clear hr h0
   go_enter Tryz.func37, Tryz.ntmps37
   go_wp2_with fail
   refine ce.mono ?_
   rintro e1 w1 ⟨rfl, hx⟩
   obtain rfl := hx.symm
   clear hx
   go_wp2_with fail
   refine cl.mono ?_
   rintro e2 w2 ⟨rfl, hx⟩
   obtain rfl := hx.symm
   clear hx
   go_wp2
   go_ret
   exact ⟨rfl, rfl⟩
  ·rw [if_neg hr]
   have hr' : (0 : Int) < rest.length := by omega
   obtain ⟨n, hn⟩ : ∃ n : Int, (rest.length : Int) = n := ⟨_, rfl⟩
   rw [hn] at cl hr'
   clear hr hn h0
   go_enter Tryz.func37, Tryz.ntmps37
   go_wp2_with fail
   refine ce.mono ?_
   rintro e1 w1 ⟨rfl, hx⟩
   obtain rfl := hx.symm
   clear hx
   go_wp2_with fail
   refine cl.mono ?_
   rintro e2 w2 ⟨rfl, hx⟩
   obtain rfl := hx.symm
   clear hx
   go_wp2
   go_ret
   exact ⟨rfl, rfl⟩
 ·have E : doneE rest e = e := by simp [doneE, he]
  rw [E]
  have n1 : (e != 0) = true := bne_iff_ne.2 he
  clear E h he
  go_enter Tryz.func37, Tryz.ntmps37
  go_wp2_with fail
  refine ce.mono ?_
  rintro e1 w1 ⟨rfl, hx⟩
  obtain rfl := hx.symm
  clear hx
  go_wp2
  go_ret
  exact ⟨rfl, rfl⟩
theorem there_blk {w w' : World} {b o n : Nat} (h : w.there b o n) (hb : w'.heap[b]? = w.heap[b]?) : w'.there b o n := fun j hj => by
 have := h j hj
 exact ⟨by rw [(cell_block hb).1]; exact this.1, (cell_block hb).2.trans this.2⟩
theorem St.belowN {w w' : World} {R n : Nat} {rest : List Int} {e : Int} (h : St w R rest e) (hb : Below n w w') (hn : R < n) : St w' R rest e := by
 refine ⟨h.1.below (hb.block R hn) hb.size, fun he => ?_⟩
 obtain ⟨a, cap, h0, hc, hm, hr, hne⟩ := h.2 he
 refine ⟨a, cap, (cell_block (hb.block R hn)).1.trans h0, hc, hm, ⟨hr.1, hr.2.1, ?_⟩, hne⟩
 rcases hr.2.2 with q | ⟨b, off, rfl, q1, q2⟩
 ·exact .inl q
 ·exact .inr ⟨b, off, rfl, Nat.lt_of_lt_of_le q1 hb.size, range_below q2 hb (by have := hne _ rfl; simp only at this; omega)⟩
namespace Tal
end Tal
theorem inB_iff {n m : Int} : inB n m = true ↔ 0 ≤ n ∧ n ≤ m := by unfold inB; exact decide_eq_true_iff
theorem Vt.may_iff {x : Vt} : x.may = true ↔ (x.k = 1 ∨ x.k = 2) ∧ (0 ≤ x.e ∧ x.e ≤ 1048576) ∧ (0 ≤ x.v ∧ x.v ≤ 1099511627776) ∧ (0 ≤ x.s ∧ x.s ≤ 1099511627776) := by
 unfold Vt.may
 simp only [Bool.and_eq_true, Bool.or_eq_true, decide_eq_true_eq, inB_iff]
theorem results_ct {fn : Func} {p u : Tmp} {ty : TypeId} (h : fn.results = #[.cell p ty, .tmp u]) (tmps : Array Value) (P : Program) (w : World) {a : Addr} {v : Value} (ha : tmps.getD p undef = .pointer (some a)) (hv : (loadVar ty a).run P w = .ok v w) : (results fn tmps).run P w = .ok (.tuple #[v, tmps.getD u undef]) w := by
 rw [results_cell_tmp h, ha]
 simp [asAddr, hv, Result.andThen]
def RowOf {α : Type} (f : α → List Value) (w : World) (a : Option Addr) (ys : List α) : Prop := ys = [] ∨ ∃ b off, a = some ⟨b, off, none⟩ ∧ b < w.heap.size ∧ w.rangeAt b off (ys.flatMap f)
theorem RowOf.below {α : Type} {f : α → List Value} {w w' : World} {a : Option Addr} {ys : List α} (h : RowOf f w a ys) (hb : Below w.heap.size w w') : RowOf f w' a ys := by
 rcases h with h | ⟨b, off, rfl, h1, h2⟩
 ·exact .inl h
 ·exact .inr ⟨b, off, rfl, Nat.lt_of_lt_of_le h1 hb.size, range_below h2 hb h1⟩
theorem flat_len_k {α : Type} {f : α → List Value} {k : Nat} {ys : List α} (h : ∀ y ∈ ys, (f y).length = k) : (ys.flatMap f).length = ys.length * k := by
 induction ys with
 | nil => simp
 | cons y ys ih =>
  have h1 := h y (by simp)
  have h2 := ih (fun x hx => h x (by simp [hx]))
  simp only [List.flatMap_cons, List.length_append, List.length_cons, Nat.add_mul, Nat.one_mul]
  omega
theorem RowOf.elem {α : Type} {f : α → List Value} {k : Nat} {w : World} {a : Option Addr} {ys : List α} (h : RowOf f w a ys) (hk : ∀ y ∈ ys, (f y).length = k) (i : Nat) (hi : i < ys.length) : ∃ b off, a = some ⟨b, off, none⟩ ∧ b < w.heap.size ∧ w.rangeAt b (off + i * k) (f ys[i]) := by
 rcases h with h0 | ⟨b, off, rfl, h1, h2⟩
 ·subst h0; simp at hi
 ·refine ⟨b, off, rfl, h1, ?_⟩
  have e : ys.take i ++ (ys[i] :: ys.drop (i + 1)) = ys := by rw [← List.drop_eq_getElem_cons hi, List.take_append_drop]
  have e2 : ys.flatMap f = (ys.take i).flatMap f ++ f ys[i] ++ (ys.drop (i + 1)).flatMap f := by
   have := congrArg (List.flatMap f) e
   rw [← this]
   simp only [List.flatMap_append, List.flatMap_cons, List.append_assoc]
  rw [e2] at h2
  have h3 := range_part h2
  rwa [flat_len_k (fun y hy => hk y (List.mem_of_mem_take hy)), List.length_take, Nat.min_eq_left (by omega)] at h3
structure El (α : Type) where
  f : α → List Value
  k : Nat
  ok : α → Prop
  len : ∀ y, ok y → (f y).length = k
  one : ∀ y, ∀ v ∈ f y, v.oneCell' = true
def RowsAt {α : Type} (E : El α) (w : World) (a : Option Addr) (ys : List α) : Prop := ys.length ≤ maxLen ∧ (∀ y ∈ ys, E.ok y) ∧ RowOf E.f w a ys
theorem RowsAt.below {α : Type} {E : El α} {w w' : World} {a : Option Addr} {ys : List α} (h : RowsAt E w a ys) (hb : Below w.heap.size w w') : RowsAt E w' a ys := ⟨h.1, h.2.1, h.2.2.below hb⟩
theorem RowsAt.elem {α : Type} {E : El α} {w : World} {a : Option Addr} {ys : List α} (h : RowsAt E w a ys) (i : Nat) (hi : i < ys.length) : ∃ b off, a = some ⟨b, off, none⟩ ∧ b < w.heap.size ∧ w.rangeAt b (off + i * E.k) (E.f ys[i]) := h.2.2.elem (fun y hy => E.len y (h.2.1 y hy)) i hi
theorem RowsAt.none {α : Type} {E : El α} {w : World} {a : Option Addr} : RowsAt E w a [] := ⟨by simp, by simp, .inl rfl⟩
theorem RowsAt.drew {α : Type} {E : El α} {w : World} {a : Option Addr} {ys : List α} (h : RowsAt E w a ys) : RowsAt E w.drew a ys := h.below ((Below.refl _ _).drew)
structure Sg where
  n : Int
  t : List Int
deriving Inhabited
structure Sg.ok (r : Sg) : Prop where
  tl : r.t.length = 16
  tb : ∀ z ∈ r.t, 0 ≤ z ∧ z < 256
  nl : -9223372036854775808 ≤ r.n
  nh : r.n ≤ 9223372036854775807
def Sg.cells (r : Sg) : List Value := .int .i64 r.n :: v8 r.t
def SgE : El Sg where
  f := Sg.cells
  k := 17
  ok := Sg.ok
  len := fun r h => by have := h.tl; simp [Sg.cells, v8]; omega
  one := fun r v hv => by
    rcases List.mem_cons.1 hv with rfl | hv
    · rfl
    · exact v8_one r.t v hv
structure Ev where
  n : Int
  s : ByteArray
  t : List Int
deriving Inhabited
structure Ev.ok (r : Ev) : Prop where
  tl : r.t.length = 16
  tb : ∀ z ∈ r.t, 0 ≤ z ∧ z < 256
  sl : r.s.size ≤ maxLen
  nl : -9223372036854775808 ≤ r.n
  nh : r.n ≤ 9223372036854775807
def Ev.cells (r : Ev) : List Value := .int .i64 r.n :: .string r.s :: v8 r.t
def EvE : El Ev where
  f := Ev.cells
  k := 18
  ok := Ev.ok
  len := fun r h => by have := h.tl; simp [Ev.cells, v8]; omega
  one := fun r v hv => by
    simp only [Ev.cells, List.mem_cons] at hv
    rcases hv with rfl | rfl | hv
    · rfl
    · rfl
    · exact v8_one r.t v hv
structure Rq where
  c : Int
  n : Int
  s : ByteArray
  t : List Int
deriving Inhabited
structure Rq.ok (r : Rq) : Prop where
  tl : r.t.length = 16
  tb : ∀ z ∈ r.t, 0 ≤ z ∧ z < 256
  sl : r.s.size ≤ maxLen
  cl : -9223372036854775808 ≤ r.c
  ch : r.c ≤ 9223372036854775807
  nl : -9223372036854775808 ≤ r.n
  nh : r.n ≤ 9223372036854775807
def Rq.cells (r : Rq) : List Value := .int .i64 r.c :: .int .i64 r.n :: .string r.s :: v8 r.t
def RqE : El Rq where
  f := Rq.cells
  k := 19
  ok := Rq.ok
  len := fun r h => by have := h.tl; simp [Rq.cells, v8]; omega
  one := fun r v hv => by
    simp only [Rq.cells, List.mem_cons] at hv
    rcases hv with rfl | rfl | rfl | hv
    · rfl
    · rfl
    · rfl
    · exact v8_one r.t v hv
theorem toList_iff {a b : ByteArray} : a.toList = b.toList ↔ a = b := by
 constructor
 ·intro h
  rw [ByteArray.toList_eq, ByteArray.toList_eq] at h
  exact ByteArray.ext (Array.toList_inj.1 h)
 ·intro h; rw [h]
theorem iszT : (Tryz.prog.info? 89).map (·.size) = some 16 := by kernel_rfl
theorem part_strV (w : World) (q : List Value) (i : Nat) (c : ByteArray) (h : q[i]? = some (.string c)) : (part 9 q.toArray i).run Tryz.prog w = .ok (.string c) w := by
 simp [part, isAgg, run_underlying Tryz.underlying9, h]
theorem part_tagV (w : World) (q : List Value) (i : Nat) (t : List Int) (h : List.take 16 (List.drop i q) = v8 t) : (part 89 q.toArray i).run Tryz.prog w = .ok (.agg (v8 t).toArray) w := by
 simp [part, isAgg, run_underlying Tryz.underlying89, run_size iszT, h]
theorem fldSg : (Tryz.prog.fieldsOf 110).toList.map (fun f => (f.name, f.type, f.offset)) = [("Node", 3, 0), ("Tag", 89, 1)] := by kernel_rfl
theorem undSg : Tryz.prog.underlying 110 = some (.struct (Tryz.prog.fieldsOf 110)) := by kernel_rfl
theorem sihSg : Tryz.prog.stoodInHeld 110 = false := by kernel_rfl
def Sg.B (x y : Sg) : Bool := (x.n == y.n) && ((x.t == y.t))
theorem Sg.B_iff {x y : Sg} : Sg.B x y = true ↔ x = y := by
 cases x
 cases y
 simp [Sg.B]
theorem Sg.eqIn (x y : Sg) (hx : x.t.length = 16) (hy : y.t.length = 16) (d : Nat) (w : World) :
  (Op.equalIn (d + 2 + 1) 110 (.agg x.cells.toArray) (.agg y.cells.toArray)).run Tryz.prog w = .ok (Sg.B x y) w := by
 rw [run_equalIn_struct w (d + 2) 110 _ _ undSg sihSg]
 have hf := fldSg
 generalize (Tryz.prog.fieldsOf 110).toList = fs at hf
 obtain ⟨f0, f1, rfl⟩ : ∃ f0 f1, fs = [f0, f1] := by
  rcases fs with _ | ⟨f0, _ | ⟨f1, _ | ⟨f2, fs⟩⟩⟩ <;> simp at hf
  exact ⟨f0, f1, rfl⟩
 simp only [List.map_cons, List.map_nil, List.cons.injEq, Prod.mk.injEq, and_true] at hf
 obtain ⟨⟨a0, b0, d0⟩, ⟨a1, b1, d1⟩⟩ := hf
 have p0 := part_intV w x.cells 0 x.n rfl
 have q0 := part_intV w y.cells 0 y.n rfl
 have p1 := part_tagV w x.cells 1 x.t (by show List.take 16 (v8 x.t) = v8 x.t; rw [List.take_of_length_le (by rw [v8_length, hx]; exact Nat.le_refl _)])
 have q1 := part_tagV w y.cells 1 y.t (by show List.take 16 (v8 y.t) = v8 y.t; rw [List.take_of_length_le (by rw [v8_length, hy]; exact Nat.le_refl _)])
 have eI := fun a b => run_equalIn_int (P := Tryz.prog) w (d + 1) 3 .i64 .i64 a b Tryz.underlying3
 have eT := run_equal8 (P := Tryz.prog) w d 89 5 16 Tryz.underlying89 Tryz.underlying5 isz8 x.t y.t hx hy
 unfold Sg.B
 generalize x.cells.toArray = q at *
 generalize y.cells.toArray = q' at *
 obtain ⟨T, hT⟩ : ∃ T, (v8 x.t).toArray = T := ⟨_, rfl⟩
 obtain ⟨T', hT'⟩ : ∃ T, (v8 y.t).toArray = T := ⟨_, rfl⟩
 rw [hT] at p1 eT
 rw [hT'] at q1 eT
 clear hT hT'
 obtain ⟨D, hD⟩ : ∃ D, d + 1 + 1 = D := ⟨_, rfl⟩
 have eT : (Op.equalIn (d + 1 + 1) 89 (.agg T) (.agg T')).run Tryz.prog w = .ok (x.t == y.t) w := eT
 rw [hD] at eT
 have n0 : ¬ ("Node" = "_") := by decide
 have n1 : ¬ ("Tag" = "_") := by decide
 simp only [Op.eqFields, a0, b0, d0, a1, b1, d1, ne_eq, n0, n1, not_false_eq_true, if_true]
 rw [show d + 2 = d + 1 + 1 from rfl, hD]
 rw [hD] at eI
 clear hD
 simp only [Sem.run_bind, p0, q0, Result.andThen_ok, eI]
 cases (x.n == y.n)
 ·simp only [Bool.not_false, if_true, Sem.run_pure, Bool.false_and]
 ·simp only [Bool.not_true, Bool.false_eq_true, if_false, Sem.run_bind, p1, q1, Result.andThen_ok, eT, Bool.true_and]
  cases (x.t == y.t)
  ·simp only [Bool.not_false, if_true, Sem.run_pure]
  ·simp only [Bool.not_true, Bool.false_eq_true, if_false, Sem.run_pure]
theorem Sg.eq10 (x y : Sg) (hx : x.ok) (hy : y.ok) (w : World) : (Op.equalIn 10000 110 (.agg x.cells.toArray) (.agg y.cells.toArray)).run Tryz.prog w = .ok (Sg.B x y) w := Sg.eqIn x y hx.tl hy.tl 9997 w
theorem fldEv : (Tryz.prog.fieldsOf 108).toList.map (fun f => (f.name, f.type, f.offset)) = [("From", 3, 0), ("Body", 9, 1), ("Tag", 89, 2)] := by kernel_rfl
theorem undEv : Tryz.prog.underlying 108 = some (.struct (Tryz.prog.fieldsOf 108)) := by kernel_rfl
theorem sihEv : Tryz.prog.stoodInHeld 108 = false := by kernel_rfl
def Ev.B (x y : Ev) : Bool := (x.n == y.n) && ((x.s.toList == y.s.toList) && ((x.t == y.t)))
theorem Ev.B_iff {x y : Ev} : Ev.B x y = true ↔ x = y := by
 cases x
 cases y
 simp [Ev.B, toList_iff]
theorem Ev.eqIn (x y : Ev) (hx : x.t.length = 16) (hy : y.t.length = 16) (d : Nat) (w : World) :
  (Op.equalIn (d + 2 + 1) 108 (.agg x.cells.toArray) (.agg y.cells.toArray)).run Tryz.prog w = .ok (Ev.B x y) w := by
 rw [run_equalIn_struct w (d + 2) 108 _ _ undEv sihEv]
 have hf := fldEv
 generalize (Tryz.prog.fieldsOf 108).toList = fs at hf
 obtain ⟨f0, f1, f2, rfl⟩ : ∃ f0 f1 f2, fs = [f0, f1, f2] := by
  rcases fs with _ | ⟨f0, _ | ⟨f1, _ | ⟨f2, _ | ⟨f3, fs⟩⟩⟩⟩ <;> simp at hf
  exact ⟨f0, f1, f2, rfl⟩
 simp only [List.map_cons, List.map_nil, List.cons.injEq, Prod.mk.injEq, and_true] at hf
 obtain ⟨⟨a0, b0, d0⟩, ⟨a1, b1, d1⟩, ⟨a2, b2, d2⟩⟩ := hf
 have p0 := part_intV w x.cells 0 x.n rfl
 have q0 := part_intV w y.cells 0 y.n rfl
 have p1 := part_strV w x.cells 1 x.s rfl
 have q1 := part_strV w y.cells 1 y.s rfl
 have p2 := part_tagV w x.cells 2 x.t (by show List.take 16 (v8 x.t) = v8 x.t; rw [List.take_of_length_le (by rw [v8_length, hx]; exact Nat.le_refl _)])
 have q2 := part_tagV w y.cells 2 y.t (by show List.take 16 (v8 y.t) = v8 y.t; rw [List.take_of_length_le (by rw [v8_length, hy]; exact Nat.le_refl _)])
 have eI := fun a b => run_equalIn_int (P := Tryz.prog) w (d + 1) 3 .i64 .i64 a b Tryz.underlying3
 have eS := fun a b => run_equalIn_string (P := Tryz.prog) w (d + 1) 9 a b Tryz.underlying9
 have eT := run_equal8 (P := Tryz.prog) w d 89 5 16 Tryz.underlying89 Tryz.underlying5 isz8 x.t y.t hx hy
 unfold Ev.B
 generalize x.cells.toArray = q at *
 generalize y.cells.toArray = q' at *
 obtain ⟨T, hT⟩ : ∃ T, (v8 x.t).toArray = T := ⟨_, rfl⟩
 obtain ⟨T', hT'⟩ : ∃ T, (v8 y.t).toArray = T := ⟨_, rfl⟩
 rw [hT] at p2 eT
 rw [hT'] at q2 eT
 clear hT hT'
 obtain ⟨D, hD⟩ : ∃ D, d + 1 + 1 = D := ⟨_, rfl⟩
 have eT : (Op.equalIn (d + 1 + 1) 89 (.agg T) (.agg T')).run Tryz.prog w = .ok (x.t == y.t) w := eT
 rw [hD] at eT
 have n0 : ¬ ("From" = "_") := by decide
 have n1 : ¬ ("Body" = "_") := by decide
 have n2 : ¬ ("Tag" = "_") := by decide
 simp only [Op.eqFields, a0, b0, d0, a1, b1, d1, a2, b2, d2, ne_eq, n0, n1, n2, not_false_eq_true, if_true]
 rw [show d + 2 = d + 1 + 1 from rfl, hD]
 rw [hD] at eI
 simp only [hD] at eS
 clear hD
 simp only [Sem.run_bind, p0, q0, Result.andThen_ok, eI]
 cases (x.n == y.n)
 ·simp only [Bool.not_false, if_true, Sem.run_pure, Bool.false_and]
 ·simp only [Bool.not_true, Bool.false_eq_true, if_false, Sem.run_bind, p1, q1, Result.andThen_ok, eS, Bool.true_and]
  cases (x.s.toList == y.s.toList)
  ·simp only [Bool.not_false, if_true, Sem.run_pure, Bool.false_and]
  ·simp only [Bool.not_true, Bool.false_eq_true, if_false, Sem.run_bind, p2, q2, Result.andThen_ok, eT, Bool.true_and]
   cases (x.t == y.t)
   ·simp only [Bool.not_false, if_true, Sem.run_pure]
   ·simp only [Bool.not_true, Bool.false_eq_true, if_false, Sem.run_pure]
theorem Ev.eq10 (x y : Ev) (hx : x.ok) (hy : y.ok) (w : World) : (Op.equalIn 10000 108 (.agg x.cells.toArray) (.agg y.cells.toArray)).run Tryz.prog w = .ok (Ev.B x y) w := Ev.eqIn x y hx.tl hy.tl 9997 w
theorem fldRq : (Tryz.prog.fieldsOf 91).toList.map (fun f => (f.name, f.type, f.offset)) = [("Client", 3, 0), ("Num", 3, 1), ("Data", 9, 2), ("Tag", 89, 3)] := by kernel_rfl
theorem undRq : Tryz.prog.underlying 91 = some (.struct (Tryz.prog.fieldsOf 91)) := by kernel_rfl
theorem sihRq : Tryz.prog.stoodInHeld 91 = false := by kernel_rfl
def Rq.B (x y : Rq) : Bool := (x.c == y.c) && ((x.n == y.n) && ((x.s.toList == y.s.toList) && ((x.t == y.t))))
theorem Rq.B_iff {x y : Rq} : Rq.B x y = true ↔ x = y := by
 cases x
 cases y
 simp [Rq.B, toList_iff]
theorem Rq.eqIn (x y : Rq) (hx : x.t.length = 16) (hy : y.t.length = 16) (d : Nat) (w : World) :
  (Op.equalIn (d + 2 + 1) 91 (.agg x.cells.toArray) (.agg y.cells.toArray)).run Tryz.prog w = .ok (Rq.B x y) w := by
 rw [run_equalIn_struct w (d + 2) 91 _ _ undRq sihRq]
 have hf := fldRq
 generalize (Tryz.prog.fieldsOf 91).toList = fs at hf
 obtain ⟨f0, f1, f2, f3, rfl⟩ : ∃ f0 f1 f2 f3, fs = [f0, f1, f2, f3] := by
  rcases fs with _ | ⟨f0, _ | ⟨f1, _ | ⟨f2, _ | ⟨f3, _ | ⟨f4, fs⟩⟩⟩⟩⟩ <;> simp at hf
  exact ⟨f0, f1, f2, f3, rfl⟩
 simp only [List.map_cons, List.map_nil, List.cons.injEq, Prod.mk.injEq, and_true] at hf
 obtain ⟨⟨a0, b0, d0⟩, ⟨a1, b1, d1⟩, ⟨a2, b2, d2⟩, ⟨a3, b3, d3⟩⟩ := hf
 have p0 := part_intV w x.cells 0 x.c rfl
 have q0 := part_intV w y.cells 0 y.c rfl
 have p1 := part_intV w x.cells 1 x.n rfl
 have q1 := part_intV w y.cells 1 y.n rfl
 have p2 := part_strV w x.cells 2 x.s rfl
 have q2 := part_strV w y.cells 2 y.s rfl
 have p3 := part_tagV w x.cells 3 x.t (by show List.take 16 (v8 x.t) = v8 x.t; rw [List.take_of_length_le (by rw [v8_length, hx]; exact Nat.le_refl _)])
 have q3 := part_tagV w y.cells 3 y.t (by show List.take 16 (v8 y.t) = v8 y.t; rw [List.take_of_length_le (by rw [v8_length, hy]; exact Nat.le_refl _)])
 have eI := fun a b => run_equalIn_int (P := Tryz.prog) w (d + 1) 3 .i64 .i64 a b Tryz.underlying3
 have eS := fun a b => run_equalIn_string (P := Tryz.prog) w (d + 1) 9 a b Tryz.underlying9
 have eT := run_equal8 (P := Tryz.prog) w d 89 5 16 Tryz.underlying89 Tryz.underlying5 isz8 x.t y.t hx hy
 unfold Rq.B
 generalize x.cells.toArray = q at *
 generalize y.cells.toArray = q' at *
 obtain ⟨T, hT⟩ : ∃ T, (v8 x.t).toArray = T := ⟨_, rfl⟩
 obtain ⟨T', hT'⟩ : ∃ T, (v8 y.t).toArray = T := ⟨_, rfl⟩
 rw [hT] at p3 eT
 rw [hT'] at q3 eT
 clear hT hT'
 obtain ⟨D, hD⟩ : ∃ D, d + 1 + 1 = D := ⟨_, rfl⟩
 have eT : (Op.equalIn (d + 1 + 1) 89 (.agg T) (.agg T')).run Tryz.prog w = .ok (x.t == y.t) w := eT
 rw [hD] at eT
 have n0 : ¬ ("Client" = "_") := by decide
 have n1 : ¬ ("Num" = "_") := by decide
 have n2 : ¬ ("Data" = "_") := by decide
 have n3 : ¬ ("Tag" = "_") := by decide
 simp only [Op.eqFields, a0, b0, d0, a1, b1, d1, a2, b2, d2, a3, b3, d3, ne_eq, n0, n1, n2, n3, not_false_eq_true, if_true]
 rw [show d + 2 = d + 1 + 1 from rfl, hD]
 rw [hD] at eI
 simp only [hD] at eS
 clear hD
 simp only [Sem.run_bind, p0, q0, Result.andThen_ok, eI]
 cases (x.c == y.c)
 ·simp only [Bool.not_false, if_true, Sem.run_pure, Bool.false_and]
 ·simp only [Bool.not_true, Bool.false_eq_true, if_false, Sem.run_bind, p1, q1, Result.andThen_ok, eI, Bool.true_and]
  cases (x.n == y.n)
  ·simp only [Bool.not_false, if_true, Sem.run_pure, Bool.false_and]
  ·simp only [Bool.not_true, Bool.false_eq_true, if_false, Sem.run_bind, p2, q2, Result.andThen_ok, eS, Bool.true_and]
   cases (x.s.toList == y.s.toList)
   ·simp only [Bool.not_false, if_true, Sem.run_pure, Bool.false_and]
   ·simp only [Bool.not_true, Bool.false_eq_true, if_false, Sem.run_bind, p3, q3, Result.andThen_ok, eT, Bool.true_and]
    cases (x.t == y.t)
    ·simp only [Bool.not_false, if_true, Sem.run_pure]
    ·simp only [Bool.not_true, Bool.false_eq_true, if_false, Sem.run_pure]
theorem Rq.eq10 (x y : Rq) (hx : x.ok) (hy : y.ok) (w : World) : (Op.equalIn 10000 91 (.agg x.cells.toArray) (.agg y.cells.toArray)).run Tryz.prog w = .ok (Rq.B x y) w := Rq.eqIn x y hx.tl hy.tl 9997 w
end Go.Proofs.YtinndbipomlokaaGreat
