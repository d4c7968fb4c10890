/- NetNobody: a net that no call made has nothing; without any condition -/
import Derived.Test.YtilbjeeabecfjaaGreatJB0
import Derived.Test.YtilbjeeabecfjaaGreatJB9
import Derived.Test.YtilbjeeabecfjaaGreatJB7
import Derived.WalkKit
namespace Go.Proofs.YtilbjeeabecfjaaGreat
open Go.RowKit
open Sha Tal
set_option linter.unusedVariables false
set_option linter.unusedSimpArgs false
def NoNet (p : Option Addr) (w : World) : Prop := ∀ w0, Below w.heap.size w w0 → Calls Tryz.prog 27 #[.pointer p] w0 fun e w' => e = .returned (.bool false) ∧ w' = w0
theorem NoNet.nil (w : World) : NoNet none w := fun w0 _ => nmade_nil w0
theorem NoNet.plain {N : Nat} {w : World} (h : w.cell? ⟨N, 0, none⟩ = some (.int .i64 0)) (hlt : N < w.heap.size) : NoNet (some ⟨N, 0, none⟩) w := fun w0 hb => by
 have := nmade_any N 0 w0 ((hb.cell (p := ⟨N, 0, none⟩) hlt).trans h)
 exact this
theorem NoNet.below {p : Option Addr} {w w1 : World} (h : NoNet p w) (hb : Below w.heap.size w w1) : NoNet p w1 := fun w0 hb0 => h w0 (hb.trans (hb0.mono hb.size))
theorem buildPk0 (w : World) : (Instr.build 44 #[]).run Tryz.prog w = .ok (.agg infoPk0.toArray) w := by kernel_rfl
theorem buildEv0 (w : World) : (Instr.build 32 #[]).run Tryz.prog w = .ok (.agg infoEv0.toArray) w := by kernel_rfl
theorem zeroEvz (w : World) : (zeroValue 32).run Tryz.prog w = .ok (.agg infoEv0.toArray) w := by kernel_rfl
theorem zeroClz (w : World) : (zeroValue 36).run Tryz.prog w = .ok (.agg infoEv0.toArray) w := by kernel_rfl
theorem pk0_len : infoPk0.length = 19 := rfl
theorem ev0_len : infoEv0.length = 18 := rfl
theorem pk0_one : ∀ v ∈ infoPk0, v.oneCell' = true := by decide
theorem ev0_one : ∀ v ∈ infoEv0, v.oneCell' = true := by decide
set_option maxRecDepth 100000 in
set_option maxHeartbeats 2000000 in
theorem nlook_no (p : Option Addr) (i : Int) (w : World) (hp : NoNet p w) : Calls Tryz.prog 17 #[.pointer p, .int .i64 i] w fun e w' => e = .returned (.tuple #[.agg infoPk0.toArray, .int .i64 1]) ∧ Below w.heap.size w w' := by
 obtain ⟨z, hzl, hz1, hzr, hzb⟩ : ∃ z : List Value, z.length = 19 ∧ (∀ v ∈ z, v.oneCell' = true) ∧ (∀ w : World, (zeroValue 44).run Tryz.prog w = .ok (.agg z.toArray) w) ∧ (∀ w : World, (Instr.build 44 #[]).run Tryz.prog w = .ok (.agg z.toArray) w) ∧ Hid (z = infoPk0) := ⟨infoPk0, pk0_len, pk0_one, zeroPk, buildPk0, hide rfl⟩
 obtain ⟨hzb, hze⟩ := hzb
 rw [← hze.out]
 have iz : (Tryz.prog.info? 44).map (·.size) = some z.length := by rw [hzl]; exact isz_pk
 obtain ⟨hBk, rX, sX⟩ := boxed_new w z 44
 have tX := there_newN w z.toArray 44 (n := 19) (by simp [hzl])
 have cm := hp (w.alloc (.cells z.toArray 44)) hBk
 obtain ⟨W, hW⟩ : ∃ W, Hid (w.alloc (.cells z.toArray 44) = W) := ⟨_, hide rfl⟩
 rw [hW.out] at hBk rX sX tX cm
 clear hp
 go_enter Tryz.func17, Tryz.ntmps17
 go_upto_region 0 with fail
 try simp only [Act.put]
 refine pl_begin ?_
 refine pl_run (d := some 4) (v := .pointer (some ⟨w.heap.size, 0, none⟩)) (w' := w.alloc (.cells z.toArray 44)) (by rfl) (ex_alloc rfl (hzr _)) rfl ?_
 simp only [nz]
 rw [hW.out]
 refine pl_t 5 (?_) (by rfl) ?_ rfl ?_
 rotate_left
 ·go_simp
  try with_reducible rfl
 simp only [nz]
 refine pl_nil ?_
 clear hW hzr
 go_upto_region 1 with fail
 try simp only [Act.put]
 refine pl_begin ?_
 refine pl_t 7 (?_) (by rfl) ?_ rfl ?_
 rotate_left
 ·go_simp
  try with_reducible rfl
 simp only [nz]
 refine pl_call (d := some 8) (by rfl) (by go_simp; first | done | exact ⟨rfl, rfl⟩ | with_reducible rfl) rfl ?_
 refine (cm).mono ?_
 rintro _ wc ⟨rfl, hwc⟩
 refine ⟨_, rfl, ?_⟩
 simp only [nz]
 obtain rfl := hwc.symm
 refine pl_t 9 (?_) (by rfl) ?_ rfl ?_
 rotate_left
 ·go_simp
  try with_reducible rfl
 simp only [nz]
 refine pl_t 6 (?_) (by rfl) ?_ rfl ?_
 rotate_left
 ·go_simp
  try with_reducible rfl
 simp only [nz]
 refine pl_nil ?_
 clear cm
 go_upto_region 2 with fail
 try simp only [Act.put]
 refine pl_begin ?_
 refine pl_t 10 (.agg z.toArray) (by rfl) (ex_build (parts := []) (vs := []) rfl rfl (hzb _)) rfl ?_
 simp only [nz]
 refine pl_store (w' := W.setCells w.heap.size 0 z) (by rfl) (ex_put (cs := z.toArray) rfl rfl rfl (by simpa [hzl] using tX) (by simpa using iz) (all_one hz1)) rfl ?_
 refine pl_t 5 (?_) (by rfl) ?_ rfl ?_
 rotate_left
 ·go_simp
  try with_reducible rfl
 simp only [nz]
 refine pl_nil ?_
 have hrs := run_loadVar_mid (P := Tryz.prog) (W.setCells w.heap.size 0 z) w.heap.size 0 44 z _ (World.rangeAt_setCells_same W w.heap.size 0 z (by rw [hzl]; exact tX)) Tryz.underlying44 rfl iz
 have HF : Hid (Below w.heap.size w (W.setCells w.heap.size 0 z)) := hide (below_sets (Nat.le_refl _) _ _ _ hBk)
 clear tX hBk rX sX
 go_wp2_with fail
 refine bodyPost_ret (results_ct rfl _ _ _ rfl hrs) rfl ?_
 exact ⟨rfl, HF.out⟩
set_option maxRecDepth 100000 in
set_option maxHeartbeats 2000000 in
theorem npast_no (p : Option Addr) (i : Int) (w : World) (hp : NoNet p w) : Calls Tryz.prog 23 #[.pointer p, .int .i64 i] w fun e w' => e = .returned (.tuple #[.agg infoEv0.toArray, .int .i64 1]) ∧ Below w.heap.size w w' := by
 obtain ⟨z, hzl, hz1, hzr, hzb⟩ : ∃ z : List Value, z.length = 18 ∧ (∀ v ∈ z, v.oneCell' = true) ∧ (∀ w : World, (zeroValue 32).run Tryz.prog w = .ok (.agg z.toArray) w) ∧ (∀ w : World, (Instr.build 32 #[]).run Tryz.prog w = .ok (.agg z.toArray) w) ∧ Hid (z = infoEv0) := ⟨infoEv0, ev0_len, ev0_one, zeroEvz, buildEv0, hide rfl⟩
 obtain ⟨hzb, hze⟩ := hzb
 rw [← hze.out]
 have iz : (Tryz.prog.info? 32).map (·.size) = some z.length := by rw [hzl]; exact isz_en
 obtain ⟨hBk, rX, sX⟩ := boxed_new w z 32
 have tX := there_newN w z.toArray 32 (n := 18) (by simp [hzl])
 have cm := hp (w.alloc (.cells z.toArray 32)) hBk
 obtain ⟨W, hW⟩ : ∃ W, Hid (w.alloc (.cells z.toArray 32) = W) := ⟨_, hide rfl⟩
 rw [hW.out] at hBk rX sX tX cm
 clear hp
 go_enter Tryz.func23, Tryz.ntmps23
 go_upto_region 0 with fail
 try simp only [Act.put]
 refine pl_begin ?_
 refine pl_run (d := some 4) (v := .pointer (some ⟨w.heap.size, 0, none⟩)) (w' := w.alloc (.cells z.toArray 32)) (by rfl) (ex_alloc rfl (hzr _)) rfl ?_
 simp only [nz]
 rw [hW.out]
 refine pl_t 5 (?_) (by rfl) ?_ rfl ?_
 rotate_left
 ·go_simp
  try with_reducible rfl
 simp only [nz]
 refine pl_nil ?_
 clear hW hzr
 go_upto_region 1 with fail
 try simp only [Act.put]
 refine pl_begin ?_
 refine pl_t 6 (?_) (by rfl) ?_ rfl ?_
 rotate_left
 ·go_simp
  try with_reducible rfl
 simp only [nz]
 refine pl_call (d := some 7) (by rfl) (by go_simp; first | done | exact ⟨rfl, rfl⟩ | with_reducible rfl) rfl ?_
 refine (cm).mono ?_
 rintro _ wc ⟨rfl, hwc⟩
 refine ⟨_, rfl, ?_⟩
 simp only [nz]
 obtain rfl := hwc.symm
 refine pl_t 8 (?_) (by rfl) ?_ rfl ?_
 rotate_left
 ·go_simp
  try with_reducible rfl
 simp only [nz]
 refine pl_nil ?_
 clear cm
 go_upto_region 2 with fail
 try simp only [Act.put]
 refine pl_begin ?_
 refine pl_t 9 (.agg z.toArray) (by rfl) (ex_build (parts := []) (vs := []) rfl rfl (hzb _)) rfl ?_
 simp only [nz]
 refine pl_store (w' := W.setCells w.heap.size 0 z) (by rfl) (ex_put (cs := z.toArray) rfl rfl rfl (by simpa [hzl] using tX) (by simpa using iz) (all_one hz1)) rfl ?_
 refine pl_t 5 (?_) (by rfl) ?_ rfl ?_
 rotate_left
 ·go_simp
  try with_reducible rfl
 simp only [nz]
 refine pl_nil ?_
 have hrs := run_loadVar_mid (P := Tryz.prog) (W.setCells w.heap.size 0 z) w.heap.size 0 32 z _ (World.rangeAt_setCells_same W w.heap.size 0 z (by rw [hzl]; exact tX)) Tryz.underlying32 rfl iz
 have HF : Hid (Below w.heap.size w (W.setCells w.heap.size 0 z)) := hide (below_sets (Nat.le_refl _) _ _ _ hBk)
 clear tX hBk rX sX
 go_wp2_with fail
 refine bodyPost_ret (results_ct rfl _ _ _ rfl hrs) rfl ?_
 exact ⟨rfl, HF.out⟩
set_option maxRecDepth 100000 in
set_option maxHeartbeats 2000000 in
theorem ntake_no (p : Option Addr) (i : Int) (w : World) (hp : NoNet p w) : Calls Tryz.prog 15 #[.pointer p, .int .i64 i] w fun e w' => e = .returned (.tuple #[.agg infoPk0.toArray, .int .i64 1]) ∧ Below w.heap.size w w' := by
 have cl0 := fun w0 (h : Below w.heap.size w w0) => nlook_no p i w0 (hp.below h)
 obtain ⟨z, hzl, hz1, hzr, hzb, hze⟩ : ∃ z : List Value, z.length = 19 ∧ (∀ v ∈ z, v.oneCell' = true) ∧ (∀ w : World, (zeroValue 44).run Tryz.prog w = .ok (.agg z.toArray) w) ∧ (∀ w : World, (Instr.build 44 #[]).run Tryz.prog w = .ok (.agg z.toArray) w) ∧ Hid (infoPk0 = z) := ⟨infoPk0, pk0_len, pk0_one, zeroPk, buildPk0, hide rfl⟩
 rw [hze.out]
 simp only [hze.out] at cl0
 have iz : (Tryz.prog.info? 44).map (·.size) = some z.length := by rw [hzl]; exact isz_pk
 obtain ⟨hBk, rX, sX⟩ := boxed_new w z 44
 have tX := there_newN w z.toArray 44 (n := 19) (by simp [hzl])
 have cm := cl0 (w.alloc (.cells z.toArray 44)) hBk
 obtain ⟨W, hW⟩ : ∃ W, Hid (w.alloc (.cells z.toArray 44) = W) := ⟨_, hide rfl⟩
 rw [hW.out] at hBk rX sX tX cm
 clear hp cl0 hze
 go_enter Tryz.func15, Tryz.ntmps15
 go_upto_region 0 with fail
 try simp only [Act.put]
 refine pl_begin ?_
 refine pl_run (d := some 4) (v := .pointer (some ⟨w.heap.size, 0, none⟩)) (w' := w.alloc (.cells z.toArray 44)) (by rfl) (ex_alloc rfl (hzr _)) rfl ?_
 simp only [nz]
 rw [hW.out]
 refine pl_t 5 (?_) (by rfl) ?_ rfl ?_
 rotate_left
 ·go_simp
  try with_reducible rfl
 simp only [nz]
 refine pl_nil ?_
 clear hW
 go_upto_region 1 with fail
 try simp only [Act.put]
 refine pl_begin ?_
 refine pl_t 9 (?_) (by rfl) ?_ rfl ?_
 rotate_left
 ·go_simp
  try with_reducible rfl
 simp only [nz]
 refine pl_t 10 (?_) (by rfl) ?_ rfl ?_
 rotate_left
 ·go_simp
  try with_reducible rfl
 simp only [nz]
 refine pl_call (d := some 11) (by rfl) (by go_simp; first | done | exact ⟨rfl, rfl⟩ | with_reducible rfl) rfl ?_
 refine (cm).mono ?_
 rintro _ w1 ⟨rfl, hb1⟩
 refine ⟨_, rfl, ?_⟩
 simp only [nz]
 refine pl_t 8 (?_) (by rfl) ?_ rfl ?_
 rotate_left
 ·go_simp
  try with_reducible rfl
 simp only [nz]
 refine pl_t 12 (?_) (by rfl) ?_ rfl ?_
 rotate_left
 ·go_simp
  try with_reducible rfl
 simp only [nz]
 refine pl_t 13 (?_) (by rfl) ?_ rfl ?_
 rotate_left
 ·go_simp
  try with_reducible rfl
 simp only [nz]
 refine pl_run (d := some 6) (v := .pointer (some ⟨w1.heap.size, 0, none⟩)) (w' := w1.alloc (.cells z.toArray 44)) (by rfl) (ex_alloc rfl (hzr _)) rfl ?_
 simp only [nz]
 refine pl_store (w' := (w1.alloc (.cells z.toArray 44)).setCells w1.heap.size 0 z) (by rfl) (ex_put (cs := z.toArray) rfl rfl rfl (there_newN _ _ _ (by simp [hzl])) (by simpa using iz) (all_one hz1)) rfl ?_
 refine pl_t 7 (?_) (by rfl) ?_ rfl ?_
 rotate_left
 ·go_simp
  try with_reducible rfl
 simp only [nz]
 refine pl_nil ?_
 obtain ⟨rY, hF, hF3, -⟩ := fresh_store w1 z.toArray 44 z (by simp [hzl])
 have tX := there_below (there_below tX hb1 sX) hF (Nat.lt_of_lt_of_le sX hb1.size)
 have hB := (hBk.trans (hb1.mono hBk.size)).trans (hF.mono (Nat.le_trans hBk.size hb1.size))
 obtain ⟨D, hD⟩ : ∃ D, w1.heap.size = D := ⟨_, rfl⟩
 rw [hD] at tX hB
 simp only [hD]
 obtain ⟨V, hV⟩ : ∃ V, (w1.alloc (.cells z.toArray 44)).setCells D 0 z = V := ⟨_, rfl⟩
 rw [hV] at tX hB ⊢
 clear hV hD hF hF3 rY hb1 cm hBk rX sX hzr
 go_upto_region 3 with fail
 try simp only [Act.put]
 refine pl_begin ?_
 refine pl_t 16 (.agg z.toArray) (by rfl) (ex_build (parts := []) (vs := []) rfl rfl (hzb _)) rfl ?_
 simp only [nz]
 refine pl_t 17 (?_) (by rfl) ?_ rfl ?_
 rotate_left
 ·go_simp
  try with_reducible rfl
 simp only [nz]
 refine pl_store (w' := V.setCells w.heap.size 0 z) (by rfl) (ex_put (cs := z.toArray) rfl rfl rfl (by simpa [hzl] using tX) (by simpa using iz) (all_one hz1)) rfl ?_
 refine pl_t 5 (?_) (by rfl) ?_ rfl ?_
 rotate_left
 ·go_simp
  try with_reducible rfl
 simp only [nz]
 refine pl_nil ?_
 have hrs := run_loadVar_mid (P := Tryz.prog) (V.setCells w.heap.size 0 z) w.heap.size 0 44 z _ (World.rangeAt_setCells_same V w.heap.size 0 z (by rw [hzl]; exact tX)) Tryz.underlying44 rfl iz
 have HF : Hid (Below w.heap.size w (V.setCells w.heap.size 0 z)) := hide (below_sets (Nat.le_refl _) _ _ _ hB)
 clear tX hB
 go_wp2_with fail
 refine bodyPost_ret (results_ct rfl _ _ _ rfl hrs) rfl ?_
 exact ⟨rfl, HF.out⟩
set_option maxRecDepth 100000 in
set_option maxHeartbeats 2000000 in
theorem ncount_no (p : Option Addr)  (w : World) (hp : NoNet p w) : Calls Tryz.prog 20 #[.pointer p] w fun e w' => e = .returned (.tuple #[.int .i64 0, .int .i64 0]) ∧ Below w.heap.size w w' := by
 have hB := Below.refl w.heap.size w
 have cm := hp w hB
 clear hp
 go_enter Tryz.func20, Tryz.ntmps20
 go_wp2_with fail
 refine cm.mono ?_
 rintro e w' ⟨rfl, hw⟩
 obtain rfl := hw.symm
 clear cm
 have HB := hide hB
 clear hB
 go_wp2_with fail
 go_ret2
 exact ⟨rfl, HB.out⟩
set_option maxRecDepth 100000 in
set_option maxHeartbeats 2000000 in
theorem nnote_no (p : Option Addr) (q : List Value) (w : World) (hp : NoNet p w) : Calls Tryz.prog 19 #[.pointer p, .agg q.toArray] w fun e w' => e = .returned (.int .i64 1) ∧ Below w.heap.size w w' := by
 have hB : Below w.heap.size w (w.alloc (.cells q.toArray 36)) := (Below.refl _ _).alloc (Nat.le_refl _) _
 have cm := hp _ hB
 clear hp
 go_enter Tryz.func19, Tryz.ntmps19
 go_wp2_with fail
 refine cm.mono ?_
 rintro e w' ⟨rfl, hw⟩
 obtain rfl := hw.symm
 clear cm
 have HB := hide hB
 clear hB
 go_wp2_with fail
 go_ret
 exact ⟨rfl, HB.out⟩
set_option maxRecDepth 100000 in
set_option maxHeartbeats 2000000 in
theorem nknows_no (p : Option Addr) (q : List Value) (w : World) (hp : NoNet p w) : Calls Tryz.prog 11 #[.pointer p, .agg q.toArray] w fun e w' => e = .returned (.bool false) ∧ Below w.heap.size w w' := by
 have hB : Below w.heap.size w (w.alloc (.cells q.toArray 36)) := (Below.refl _ _).alloc (Nat.le_refl _) _
 have cm := hp _ hB
 clear hp
 go_enter Tryz.func11, Tryz.ntmps11
 go_wp2_with fail
 refine cm.mono ?_
 rintro e w' ⟨rfl, hw⟩
 obtain rfl := hw.symm
 clear cm
 have HB := hide hB
 clear hB
 go_wp2_with fail
 go_ret
 exact ⟨rfl, HB.out⟩
set_option maxRecDepth 100000 in
set_option maxHeartbeats 2000000 in
theorem nsend_no (p : Option Addr) (i : Int) (q : List Value) (w : World) (hp : NoNet p w) : Calls Tryz.prog 13 #[.pointer p, .int .i64 i, .agg q.toArray] w fun e w' => e = .returned (.int .i64 1) ∧ Below w.heap.size w w' := by
 have hB : Below w.heap.size w (w.alloc (.cells q.toArray 32)) := (Below.refl _ _).alloc (Nat.le_refl _) _
 have cm := hp _ hB
 clear hp
 go_enter Tryz.func13, Tryz.ntmps13
 go_wp2_with fail
 refine cm.mono ?_
 rintro e w' ⟨rfl, hw⟩
 obtain rfl := hw.symm
 clear cm
 have HB := hide hB
 clear hB
 go_wp2_with fail
 go_ret
 exact ⟨rfl, HB.out⟩
theorem ex_bsi2 {P : Program} {o : Oper} {a : Act} {w w' : World} {t : TypeId} {x y : Operand} {u v r : Value} (ho : o.op = .buildSlice t 2 #[(0, x), (1, y)]) (hx : a.eval x = u) (hy : a.eval y = v) (hr : (Instr.buildSlice t 2 #[(0, u), (1, v)]).run P w = .ok r w') : (execOp a.eval o).run P w = .ok (.value r) w' := by
 unfold execOp
 simp [ho, hx, hy, hr]
theorem build_cl2 (n : Int) (b : ByteArray) (w : World) : (Instr.build 36 #[(0, .int .i64 n), (1, .string b)]).run Tryz.prog w = .ok (.agg (.int .i64 n :: .string b :: v8 (List.replicate 16 0)).toArray) w := by kernel_rfl
def net0 : List Value := [.int .i64 0, .slice none 0 0, .map none, .map none, .int .i32 0, .int .u32 0, .slice none 0 0, .map none, .int .i64 0, .int .i64 0]
theorem build_n0 (w : World) : (Instr.build 85 #[]).run Tryz.prog w = .ok (.agg net0.toArray) w := by kernel_rfl
theorem run_bn2 (N : Nat) (w : World) : (Instr.buildSlice 86 2 #[(0, .pointer none), (1, .pointer (some ⟨N, 0, none⟩))]).run Tryz.prog w = .ok (.slice (some ⟨w.heap.size, 0, none⟩) 2 2) (w.alloc (.cells #[.pointer none, .pointer (some ⟨N, 0, none⟩)] 23)) := by kernel_rfl
set_option maxRecDepth 100000 in
set_option maxHeartbeats 8000000 in
theorem netNobody_walk (a : Ac) (w : World) (ha : a.ok) : Calls Tryz.prog 6 #[.agg a.cells.toArray] w fun e w' => e = .returned (.bool true) ∧ Below w.heap.size w w' := by
 obtain ⟨pz, hpl, hp1, hpr, hpe⟩ : ∃ z : List Value, z.length = 19 ∧ (∀ v ∈ z, v.oneCell' = true) ∧ (∀ w : World, (zeroValue 44).run Tryz.prog w = .ok (.agg z.toArray) w) ∧ Hid (infoPk0 = z) := ⟨infoPk0, pk0_len, pk0_one, zeroPk, hide rfl⟩
 obtain ⟨ez, hel, he1, her, hee⟩ : ∃ z : List Value, z.length = 18 ∧ (∀ v ∈ z, v.oneCell' = true) ∧ (∀ w : World, (zeroValue 32).run Tryz.prog w = .ok (.agg z.toArray) w) ∧ Hid (infoEv0 = z) := ⟨infoEv0, ev0_len, ev0_one, zeroEvz, hide rfl⟩
 obtain ⟨cz, hcl, hcr⟩ : ∃ z : List Value, z.length = 18 ∧ (∀ w : World, (zeroValue 36).run Tryz.prog w = .ok (.agg z.toArray) w) := ⟨infoEv0, ev0_len, zeroClz⟩
 have ip : (Tryz.prog.info? 44).map (·.size) = some pz.length := by rw [hpl]; exact isz_pk
 have ie : (Tryz.prog.info? 32).map (·.size) = some ez.length := by rw [hel]; exact isz_en
 have hbc := fun w0 => build_cl2 a.x.n a.x.s w0
 have hcq : (.int .i64 a.x.n :: .string a.x.s :: v8 (List.replicate 16 0) : List Value).length = 18 := by rw [List.length_cons, List.length_cons, v8_length]; rfl
 have hc1 : ∀ v ∈ (.int .i64 a.x.n :: .string a.x.s :: v8 (List.replicate 16 0) : List Value), v.oneCell' = true := fun v hv => by
  rcases List.mem_cons.1 hv with rfl | hv
  ·rfl
  ·rcases List.mem_cons.1 hv with rfl | hv
   ·rfl
   ·exact v8_one _ v hv
 have hxl : a.x.cells.length = 18 := EvE.len a.x ha.x
 have ixx : (Tryz.prog.info? 32).map (·.size) = some a.x.cells.length := by rw [hxl]; exact isz_en
 have cTl := fun p w0 (h : NoNet p w0) => ntake_no p a.dt w0 h
 have cLk := fun p w0 (h : NoNet p w0) => nlook_no p a.dt w0 h
 have cPa := fun p w0 (h : NoNet p w0) => npast_no p a.dt w0 h
 have cSe := fun p w0 (h : NoNet p w0) => nsend_no p a.dt a.x.cells w0 h
 simp only [hpe.out] at cTl cLk
 simp only [hee.out] at cPa
 obtain ⟨qa, hqa⟩ : ∃ q, Hid (a.cells = q) := ⟨_, hide rfl⟩
 have ea0 : qa[0]? = some (.int .i64 a.k) := by rw [← hqa.out]; rfl
 have ea1 : qa[1]? = some (.int .i64 a.dt) := by rw [← hqa.out]; rfl
 have ea2 : qa[2]? = some (.int .i64 a.x.n) := by rw [← hqa.out]; rfl
 have ea3 : qa[3]? = some (.string a.x.s) := by rw [← hqa.out]; rfl
 have hqx : ∀ (W : World) (A : Nat), W.rangeAt A 0 qa → W.rangeAt A 2 a.x.cells := fun W A h j v hv => by
  have := h (j + 2) v (by rw [← hqa.out]; exact hv)
  rw [show 0 + (j + 2) = 2 + j by omega] at this
  exact this
 rw [hqa.out]
 obtain ⟨cq, hcqe⟩ : ∃ q, Hid ((.int .i64 a.x.n :: .string a.x.s :: v8 (List.replicate 16 0) : List Value) = q) := ⟨_, hide rfl⟩
 simp only [hcqe.out] at hbc hcq hc1
 obtain ⟨xq, hxq⟩ : ∃ q, Hid (a.x.cells = q) := ⟨_, hide rfl⟩
 simp only [hxq.out] at hxl ixx cSe hqx
 obtain ⟨xn, hxn⟩ : ∃ q, a.x.n = q := ⟨_, rfl⟩
 obtain ⟨xs, hxs⟩ : ∃ q, a.x.s = q := ⟨_, rfl⟩
 obtain ⟨at_, hat⟩ : ∃ q, a.dt = q := ⟨_, rfl⟩
 rw [hxn] at ea2
 rw [hxs] at ea3
 rw [hat] at ea1
 simp only [hat] at cTl cLk cPa cSe
 simp only [hxn, hxs] at hbc
 clear hxn hxs hat hcqe hxq ha
 have ic : (Tryz.prog.info? 36).map (·.size) = some cq.length := by rw [hcq]; exact isz_cl
 obtain ⟨B, rA, sA⟩ := boxed_new w qa 34
 obtain ⟨w0, hW⟩ : ∃ W, Hid (w.alloc (.cells qa.toArray 34) = W) := ⟨_, hide rfl⟩
 obtain ⟨A, hA⟩ : ∃ A, Hid (w.heap.size = A) := ⟨_, hide rfl⟩
 rw [hW.out] at B rA sA
 rw [hA.out] at rA sA
 clear hqa
 go_enter Tryz.func6, Tryz.ntmps6
 go_upto_region 1 with fail
 try simp only [hW.out, hA.out]
 clear hW
 try simp only [Act.put]
 refine pl_begin ?_
 refine pl_t 14 (.pointer (some ⟨A, 2, none⟩)) (by rfl) (by go_simp <;> (try simp [*])) rfl ?_
 simp only [nz]
 refine pl_t 15 (.pointer (some ⟨A, 2, none⟩)) (by rfl) (by go_simp <;> (try simp [*])) rfl ?_
 simp only [nz]
 refine pl_t 16 (.int .i64 xn) (by rfl) (pl_one rfl rfl (rA 2 _ ea2) Tryz.underlying3 rfl) rfl ?_
 simp only [nz]
 refine pl_t 17 (.pointer (some ⟨A, 2, none⟩)) (by rfl) (by go_simp <;> (try simp [*])) rfl ?_
 simp only [nz]
 refine pl_t 18 (.pointer (some ⟨A, 3, none⟩)) (by rfl) (by go_simp <;> (try simp [*])) rfl ?_
 simp only [nz]
 refine pl_t 19 (.string xs) (by rfl) (pl_one rfl rfl (rA 3 _ ea3) Tryz.underlying9 rfl) rfl ?_
 simp only [nz]
 refine pl_t 20 (.agg cq.toArray) (by rfl) (ex_build (parts := [(0, .tmp 16), (1, .tmp 19)]) (vs := [(0, .int .i64 xn), (1, .string xs)]) rfl (by first | with_reducible rfl | rfl | simp [Act.eval]) (hbc _)) rfl ?_
 simp only [nz]
 refine pl_run (d := some 3) (v := .pointer (some ⟨w0.heap.size, 0, none⟩)) (w' := w0.alloc (.cells cz.toArray 36)) (by rfl) (ex_alloc rfl (hcr _)) rfl ?_
 simp only [nz]
 refine pl_store (w' := (w0.alloc (.cells cz.toArray 36)).setCells w0.heap.size 0 cq) (by rfl) (ex_put (cs := cq.toArray) rfl rfl rfl (there_newN _ _ _ (by simp [hcl, hcq])) (by simpa using ic) (all_one hc1)) rfl ?_
 refine pl_nil ?_
 obtain ⟨rC, hF, hF3, -⟩ := fresh_store w0 cz.toArray 36 cq (by simp [hcl, hcq])
 have rA := range_below rA hF sA
 have sA := Nat.lt_of_lt_of_le sA hF.size
 have B := B.trans (hF.mono B.size)
 obtain ⟨D1, hD1⟩ : ∃ D, w0.heap.size = D := ⟨_, rfl⟩
 have sC : w0.heap.size < ((w0.alloc (.cells cz.toArray 36)).setCells w0.heap.size 0 cq).heap.size := by omega
 rw [hD1] at rC sC rA sA  B
 simp only [hD1]
 obtain ⟨v1, hv1⟩ : ∃ W, (w0.alloc (.cells cz.toArray 36)).setCells D1 0 cq = W := ⟨_, rfl⟩
 rw [hv1] at rC sC rA sA  B
 rw [hv1]
 clear hv1 hD1 hF hF3
 clear hbc hcr hcl
 go_upto_region 2 with fail
 try simp only [Act.put]
 refine pl_begin ?_
 refine pl_t 21 (.agg net0.toArray) (by rfl) (ex_build (parts := []) (vs := []) rfl rfl (build_n0 _)) rfl ?_
 simp only [nz]
 refine pl_run (d := some 22) (v := .pointer (some ⟨v1.heap.size, 0, none⟩)) (w' := v1.alloc (.cells net0.toArray 85)) (by rfl) (ex_box rfl rfl) rfl ?_
 simp only [nz]
 obtain ⟨hb, rN, sN⟩ := boxed_new v1 net0 85
 have rA := range_below rA hb sA
 have rC := range_below rC hb sC
 have sA := Nat.lt_of_lt_of_le sA hb.size
 have sC := Nat.lt_of_lt_of_le sC hb.size
 have B := B.trans (hb.mono B.size)
 obtain ⟨N, hN⟩ : ∃ N, v1.heap.size = N := ⟨_, rfl⟩
 rw [hN] at rN sN
 simp only [hN]
 obtain ⟨w1, hw1⟩ : ∃ W, v1.alloc (.cells net0.toArray 85) = W := ⟨_, rfl⟩
 rw [hw1] at rN sN rA sA rC sC  B ⊢
 clear hw1 hN hb
 refine pl_run (d := some 23) (v := .slice (some ⟨w1.heap.size, 0, none⟩) 2 2) (w' := w1.alloc (.cells #[.pointer none, .pointer (some ⟨N, 0, none⟩)] 23)) (by rfl) (ex_bsi2 rfl rfl rfl (run_bn2 N _)) rfl ?_
 simp only [nz]
 obtain ⟨hb, rR, sR⟩ := boxed_new w1 [.pointer none, .pointer (some ⟨N, 0, none⟩)] 23
 have rR : (w1.alloc (.cells #[.pointer none, .pointer (some ⟨N, 0, none⟩)] 23)).rangeAt w1.heap.size 0 [.pointer none, .pointer (some ⟨N, 0, none⟩)] := rR
 have sR : w1.heap.size < (w1.alloc (.cells #[.pointer none, .pointer (some ⟨N, 0, none⟩)] 23)).heap.size := sR
 have hb : Below w1.heap.size w1 (w1.alloc (.cells #[.pointer none, .pointer (some ⟨N, 0, none⟩)] 23)) := hb
 have rA := range_below rA hb sA
 have rC := range_below rC hb sC
 have rN := range_below rN hb sN
 have sA := Nat.lt_of_lt_of_le sA hb.size
 have sC := Nat.lt_of_lt_of_le sC hb.size
 have sN := Nat.lt_of_lt_of_le sN hb.size
 have B := B.trans (hb.mono B.size)
 obtain ⟨R, hR⟩ : ∃ N, w1.heap.size = N := ⟨_, rfl⟩
 rw [hR] at rR sR
 simp only [hR]
 obtain ⟨w2, hw2⟩ : ∃ W, w1.alloc (.cells #[.pointer none, .pointer (some ⟨N, 0, none⟩)] 23) = W := ⟨_, rfl⟩
 rw [hw2] at rR sR rA sA rC sC rN sN  B ⊢
 clear hw2 hR hb
 refine pl_t 24 (?_) (by rfl) ?_ rfl ?_
 rotate_left
 ·go_simp
  try with_reducible rfl
 simp only [nz]
 refine pl_t 25 (?_) (by rfl) ?_ rfl ?_
 rotate_left
 ·go_simp
  try with_reducible rfl
 simp only [nz]
 refine pl_nil ?_
 have HN := hide (NoNet.plain (rN 0 _ rfl) sN)
 have HB0 : Hid (Below w2.heap.size w2 w2) := hide (Below.refl _ _)
 have BW := hide B
 clear B rN sN
 go_wp2_with fail
 go_loopw [25] (fun iv wr => ∃ k : Nat, k ≤ 2 ∧ iv = .int .i64 (k : Int) ∧ Hid (Below w2.heap.size w2 wr)) (fun iv _ => 2 - (intOf iv).toNat)
 case atStart => exact ⟨0, by omega, rfl, HB0⟩
 case round =>
  clear HB0
  obtain ⟨k, hk, rfl, HK⟩ := hrel
  have rA := range_below rA HK.out sA
  have rC := range_below rC HK.out sC
  have rR := range_below rR HK.out sR
  have sA := Nat.lt_of_lt_of_le sA HK.out.size
  have sC := Nat.lt_of_lt_of_le sC HK.out.size
  have B := HK.out
  by_cases hlt : k < 2
  ·have k1 : (k : Int) < 2 := by omega
   obtain ⟨p, hcp, np⟩ : ∃ p, wr.cell? ⟨R, 0 + k, none⟩ = some (.pointer p) ∧ NoNet p wr := by
    have h2 : k = 0 ∨ k = 1 := by omega
    rcases h2 with rfl | rfl
    ·exact ⟨none, rR 0 _ rfl, NoNet.nil wr⟩
    ·exact ⟨some ⟨N, 0, none⟩, rR 1 _ rfl, HN.out.below HK.out⟩
   clear rR sR HK
   go_upto_region 4 with fail
   try simp only [Act.put]
   refine pl_begin ?_
   refine pl_t 27 (.pointer (some ⟨R, 0 + k, none⟩)) (by rfl) (by go_simp <;> (try simp [*])) rfl ?_
   simp only [nz]
   refine pl_t 28 (.pointer p) (by rfl) (pl_one rfl rfl hcp Tryz.underlying23 rfl) rfl ?_
   simp only [nz]
   refine pl_t 5 (?_) (by rfl) ?_ rfl ?_
   rotate_left
   ·go_simp
    try with_reducible rfl
   simp only [nz]
   refine pl_nil ?_
   clear hcp
   go_upto_region 5 with fail
   try simp only [Act.put]
   refine pl_begin ?_
   refine pl_t 30 (?_) (by rfl) ?_ rfl ?_
   rotate_left
   ·go_simp
    try with_reducible rfl
   simp only [nz]
   refine pl_t 31 (.pointer (some ⟨A, 1, none⟩)) (by rfl) (by go_simp) rfl ?_
   simp only [nz]
   refine pl_t 32 (.int .i64 at_) (by rfl) (pl_one rfl rfl (rA 1 _ ea1) Tryz.underlying3 rfl) rfl ?_
   simp only [nz]
   refine pl_call (d := some 33) (by rfl) (by go_simp; first | done | exact ⟨rfl, rfl⟩ | with_reducible rfl) rfl ?_
   refine (cLk p wr np).mono ?_
   rintro _ wc ⟨rfl, hb⟩
   refine ⟨_, rfl, ?_⟩
   simp only [nz]
   refine pl_t 29 (?_) (by rfl) ?_ rfl ?_
   rotate_left
   ·go_simp
    try with_reducible rfl
   simp only [nz]
   refine pl_t 34 (?_) (by rfl) ?_ rfl ?_
   rotate_left
   ·go_simp
    try with_reducible rfl
   simp only [nz]
   refine pl_t 35 (?_) (by rfl) ?_ rfl ?_
   rotate_left
   ·go_simp
    try with_reducible rfl
   simp only [nz]
   refine pl_run (d := some 6) (v := .pointer (some ⟨wc.heap.size, 0, none⟩)) (w' := wc.alloc (.cells pz.toArray 44)) (by rfl) (ex_alloc rfl (hpr _)) rfl ?_
   simp only [nz]
   refine pl_store (w' := (wc.alloc (.cells pz.toArray 44)).setCells wc.heap.size 0 pz) (by rfl) (ex_put (cs := pz.toArray) rfl rfl rfl (there_newN _ _ _ (by simp [hpl])) (by simpa using ip) (all_one hp1)) rfl ?_
   refine pl_t 7 (?_) (by rfl) ?_ rfl ?_
   rotate_left
   ·go_simp
    try with_reducible rfl
   simp only [nz]
   refine pl_nil ?_
   have rA := range_below rA hb sA
   have rC := range_below rC hb sC
   have sA := Nat.lt_of_lt_of_le sA hb.size
   have sC := Nat.lt_of_lt_of_le sC hb.size
   have np := np.below hb
   have B := B.trans (hb.mono B.size)
   obtain ⟨rP5, hF, hF3, -⟩ := fresh_store wc pz.toArray 44 pz (by simp [hpl])
   have rA := range_below rA hF sA
   have rC := range_below rC hF sC
   have sA := Nat.lt_of_lt_of_le sA hF.size
   have sC := Nat.lt_of_lt_of_le sC hF.size
   have np := np.below hF
   have B := B.trans (hF.mono B.size)
   obtain ⟨D2, hD2⟩ : ∃ D, wc.heap.size = D := ⟨_, rfl⟩
   have sP5 : wc.heap.size < ((wc.alloc (.cells pz.toArray 44)).setCells wc.heap.size 0 pz).heap.size := by omega
   rw [hD2] at rP5 sP5 rA sA rC sC np B
   simp only [hD2]
   obtain ⟨v2, hv2⟩ : ∃ W, (wc.alloc (.cells pz.toArray 44)).setCells D2 0 pz = W := ⟨_, rfl⟩
   rw [hv2] at rP5 sP5 rA sA rC sC np B
   rw [hv2]
   clear hv2 hD2 hF hF3
   clear rP5 sP5
   clear hb
   go_upto_region 6 with fail
   try simp only [Act.put]
   refine pl_begin ?_
   refine pl_t 37 (?_) (by rfl) ?_ rfl ?_
   rotate_left
   ·go_simp
    try with_reducible rfl
   simp only [nz]
   refine pl_t 38 (.pointer (some ⟨A, 1, none⟩)) (by rfl) (by go_simp) rfl ?_
   simp only [nz]
   refine pl_t 39 (.int .i64 at_) (by rfl) (pl_one rfl rfl (rA 1 _ ea1) Tryz.underlying3 rfl) rfl ?_
   simp only [nz]
   refine pl_call (d := some 40) (by rfl) (by go_simp; first | done | exact ⟨rfl, rfl⟩ | with_reducible rfl) rfl ?_
   refine (cTl p v2 np).mono ?_
   rintro _ wc ⟨rfl, hb⟩
   refine ⟨_, rfl, ?_⟩
   simp only [nz]
   refine pl_t 36 (?_) (by rfl) ?_ rfl ?_
   rotate_left
   ·go_simp
    try with_reducible rfl
   simp only [nz]
   refine pl_t 41 (?_) (by rfl) ?_ rfl ?_
   rotate_left
   ·go_simp
    try with_reducible rfl
   simp only [nz]
   refine pl_t 42 (?_) (by rfl) ?_ rfl ?_
   rotate_left
   ·go_simp
    try with_reducible rfl
   simp only [nz]
   refine pl_run (d := some 8) (v := .pointer (some ⟨wc.heap.size, 0, none⟩)) (w' := wc.alloc (.cells pz.toArray 44)) (by rfl) (ex_alloc rfl (hpr _)) rfl ?_
   simp only [nz]
   refine pl_store (w' := (wc.alloc (.cells pz.toArray 44)).setCells wc.heap.size 0 pz) (by rfl) (ex_put (cs := pz.toArray) rfl rfl rfl (there_newN _ _ _ (by simp [hpl])) (by simpa using ip) (all_one hp1)) rfl ?_
   refine pl_t 9 (?_) (by rfl) ?_ rfl ?_
   rotate_left
   ·go_simp
    try with_reducible rfl
   simp only [nz]
   refine pl_nil ?_
   have rA := range_below rA hb sA
   have rC := range_below rC hb sC
   have sA := Nat.lt_of_lt_of_le sA hb.size
   have sC := Nat.lt_of_lt_of_le sC hb.size
   have np := np.below hb
   have B := B.trans (hb.mono B.size)
   obtain ⟨rP6, hF, hF3, -⟩ := fresh_store wc pz.toArray 44 pz (by simp [hpl])
   have rA := range_below rA hF sA
   have rC := range_below rC hF sC
   have sA := Nat.lt_of_lt_of_le sA hF.size
   have sC := Nat.lt_of_lt_of_le sC hF.size
   have np := np.below hF
   have B := B.trans (hF.mono B.size)
   obtain ⟨D3, hD3⟩ : ∃ D, wc.heap.size = D := ⟨_, rfl⟩
   have sP6 : wc.heap.size < ((wc.alloc (.cells pz.toArray 44)).setCells wc.heap.size 0 pz).heap.size := by omega
   rw [hD3] at rP6 sP6 rA sA rC sC np B
   simp only [hD3]
   obtain ⟨v3, hv3⟩ : ∃ W, (wc.alloc (.cells pz.toArray 44)).setCells D3 0 pz = W := ⟨_, rfl⟩
   rw [hv3] at rP6 sP6 rA sA rC sC np B
   rw [hv3]
   clear hv3 hD3 hF hF3
   clear rP6 sP6
   clear hb
   go_upto_region 7 with fail
   try simp only [Act.put]
   refine pl_begin ?_
   refine pl_t 44 (?_) (by rfl) ?_ rfl ?_
   rotate_left
   ·go_simp
    try with_reducible rfl
   simp only [nz]
   refine pl_t 45 (.pointer (some ⟨A, 1, none⟩)) (by rfl) (by go_simp) rfl ?_
   simp only [nz]
   refine pl_t 46 (.int .i64 at_) (by rfl) (pl_one rfl rfl (rA 1 _ ea1) Tryz.underlying3 rfl) rfl ?_
   simp only [nz]
   refine pl_call (d := some 47) (by rfl) (by go_simp; first | done | exact ⟨rfl, rfl⟩ | with_reducible rfl) rfl ?_
   refine (cPa p v3 np).mono ?_
   rintro _ wc ⟨rfl, hb⟩
   refine ⟨_, rfl, ?_⟩
   simp only [nz]
   refine pl_t 43 (?_) (by rfl) ?_ rfl ?_
   rotate_left
   ·go_simp
    try with_reducible rfl
   simp only [nz]
   refine pl_t 48 (?_) (by rfl) ?_ rfl ?_
   rotate_left
   ·go_simp
    try with_reducible rfl
   simp only [nz]
   refine pl_t 49 (?_) (by rfl) ?_ rfl ?_
   rotate_left
   ·go_simp
    try with_reducible rfl
   simp only [nz]
   refine pl_run (d := some 10) (v := .pointer (some ⟨wc.heap.size, 0, none⟩)) (w' := wc.alloc (.cells ez.toArray 32)) (by rfl) (ex_alloc rfl (her _)) rfl ?_
   simp only [nz]
   refine pl_store (w' := (wc.alloc (.cells ez.toArray 32)).setCells wc.heap.size 0 ez) (by rfl) (ex_put (cs := ez.toArray) rfl rfl rfl (there_newN _ _ _ (by simp [hel])) (by simpa using ie) (all_one he1)) rfl ?_
   refine pl_t 11 (?_) (by rfl) ?_ rfl ?_
   rotate_left
   ·go_simp
    try with_reducible rfl
   simp only [nz]
   refine pl_nil ?_
   have rA := range_below rA hb sA
   have rC := range_below rC hb sC
   have sA := Nat.lt_of_lt_of_le sA hb.size
   have sC := Nat.lt_of_lt_of_le sC hb.size
   have np := np.below hb
   have B := B.trans (hb.mono B.size)
   obtain ⟨rP7, hF, hF3, -⟩ := fresh_store wc ez.toArray 32 ez (by simp [hel])
   have rA := range_below rA hF sA
   have rC := range_below rC hF sC
   have sA := Nat.lt_of_lt_of_le sA hF.size
   have sC := Nat.lt_of_lt_of_le sC hF.size
   have np := np.below hF
   have B := B.trans (hF.mono B.size)
   obtain ⟨D4, hD4⟩ : ∃ D, wc.heap.size = D := ⟨_, rfl⟩
   have sP7 : wc.heap.size < ((wc.alloc (.cells ez.toArray 32)).setCells wc.heap.size 0 ez).heap.size := by omega
   rw [hD4] at rP7 sP7 rA sA rC sC np B
   simp only [hD4]
   obtain ⟨v4, hv4⟩ : ∃ W, (wc.alloc (.cells ez.toArray 32)).setCells D4 0 ez = W := ⟨_, rfl⟩
   rw [hv4] at rP7 sP7 rA sA rC sC np B
   rw [hv4]
   clear hv4 hD4 hF hF3
   clear rP7 sP7
   clear hb
   go_upto_region 8 with fail
   try simp only [Act.put]
   refine pl_begin ?_
   refine pl_t 51 (?_) (by rfl) ?_ rfl ?_
   rotate_left
   ·go_simp
    try with_reducible rfl
   simp only [nz]
   refine pl_call (d := some 52) (by rfl) (by go_simp; first | done | exact ⟨rfl, rfl⟩ | with_reducible rfl) rfl ?_
   refine (ncount_no p v4 np).mono ?_
   rintro _ wc ⟨rfl, hb⟩
   refine ⟨_, rfl, ?_⟩
   simp only [nz]
   refine pl_t 50 (?_) (by rfl) ?_ rfl ?_
   rotate_left
   ·go_simp
    try with_reducible rfl
   simp only [nz]
   refine pl_t 53 (?_) (by rfl) ?_ rfl ?_
   rotate_left
   ·go_simp
    try with_reducible rfl
   simp only [nz]
   refine pl_t 54 (?_) (by rfl) ?_ rfl ?_
   rotate_left
   ·go_simp
    try with_reducible rfl
   simp only [nz]
   refine pl_t 12 (?_) (by rfl) ?_ rfl ?_
   rotate_left
   ·go_simp
    try with_reducible rfl
   simp only [nz]
   refine pl_t 13 (?_) (by rfl) ?_ rfl ?_
   rotate_left
   ·go_simp
    try with_reducible rfl
   simp only [nz]
   refine pl_nil ?_
   have rA := range_below rA hb sA
   have rC := range_below rC hb sC
   have sA := Nat.lt_of_lt_of_le sA hb.size
   have sC := Nat.lt_of_lt_of_le sC hb.size
   have np := np.below hb
   have B := B.trans (hb.mono B.size)
   clear hb
   go_upto_region 9 with fail
   try simp only [Act.put]
   refine pl_begin ?_
   refine pl_t 55 (?_) (by rfl) ?_ rfl ?_
   rotate_left
   ·go_simp
    try with_reducible rfl
   simp only [nz]
   refine pl_t 56 (.pointer (some ⟨A, 1, none⟩)) (by rfl) (by go_simp) rfl ?_
   simp only [nz]
   refine pl_t 57 (.int .i64 at_) (by rfl) (pl_one rfl rfl (rA 1 _ ea1) Tryz.underlying3 rfl) rfl ?_
   simp only [nz]
   refine pl_t 58 (.pointer (some ⟨A, 2, none⟩)) (by rfl) (by go_simp) rfl ?_
   simp only [nz]
   refine pl_t 59 (.agg xq.toArray) (by rfl) (ex_mid rfl rfl (hqx _ _ rA) Tryz.underlying32 rfl ixx) rfl ?_
   simp only [nz]
   refine pl_call (d := some 60) (by rfl) (by go_simp; first | done | exact ⟨rfl, rfl⟩ | with_reducible rfl) rfl ?_
   refine (cSe p wc np).mono ?_
   rintro _ wd ⟨rfl, hb⟩
   refine ⟨_, rfl, ?_⟩
   simp only [nz]
   have rA := range_below rA hb sA
   have rC := range_below rC hb sC
   have sA := Nat.lt_of_lt_of_le sA hb.size
   have sC := Nat.lt_of_lt_of_le sC hb.size
   have np := np.below hb
   have B := B.trans (hb.mono B.size)
   clear hb
   refine pl_t 61 (.bool false) (by rfl) (by go_simp <;> (try simp)) rfl ?_
   simp only [nz]
   refine pl_t 62 (?_) (by rfl) ?_ rfl ?_
   rotate_left
   ·go_simp
    try with_reducible rfl
   simp only [nz]
   refine pl_t 63 (?_) (by rfl) ?_ rfl ?_
   rotate_left
   ·go_simp
    try with_reducible rfl
   simp only [nz]
   refine pl_t 64 (.bool false) (by rfl) (by go_simp <;> (try simp)) rfl ?_
   simp only [nz]
   refine pl_t 65 (?_) (by rfl) ?_ rfl ?_
   rotate_left
   ·go_simp
    try with_reducible rfl
   simp only [nz]
   refine pl_t 66 (?_) (by rfl) ?_ rfl ?_
   rotate_left
   ·go_simp
    try with_reducible rfl
   simp only [nz]
   refine pl_t 67 (?_) (by rfl) ?_ rfl ?_
   rotate_left
   ·go_simp
    try with_reducible rfl
   simp only [nz]
   refine pl_t 68 (.bool false) (by rfl) (by go_simp <;> (try simp)) rfl ?_
   simp only [nz]
   refine pl_t 69 (?_) (by rfl) ?_ rfl ?_
   rotate_left
   ·go_simp
    try with_reducible rfl
   simp only [nz]
   refine pl_t 70 (?_) (by rfl) ?_ rfl ?_
   rotate_left
   ·go_simp
    try with_reducible rfl
   simp only [nz]
   refine pl_t 71 (?_) (by rfl) ?_ rfl ?_
   rotate_left
   ·go_simp
    try with_reducible rfl
   simp only [nz]
   refine pl_t 72 (.bool false) (by rfl) (by go_simp <;> (try simp)) rfl ?_
   simp only [nz]
   refine pl_t 73 (?_) (by rfl) ?_ rfl ?_
   rotate_left
   ·go_simp
    try with_reducible rfl
   simp only [nz]
   refine pl_t 74 (?_) (by rfl) ?_ rfl ?_
   rotate_left
   ·go_simp
    try with_reducible rfl
   simp only [nz]
   refine pl_t 75 (?_) (by rfl) ?_ rfl ?_
   rotate_left
   ·go_simp
    try with_reducible rfl
   simp only [nz]
   refine pl_t 76 (.agg cq.toArray) (by rfl) (ex_mid rfl rfl rC Tryz.underlying36 rfl ic) rfl ?_
   simp only [nz]
   refine pl_call (d := some 77) (by rfl) (by go_simp; first | done | exact ⟨rfl, rfl⟩ | with_reducible rfl) rfl ?_
   refine (nnote_no p cq wd np).mono ?_
   rintro _ we ⟨rfl, hb⟩
   refine ⟨_, rfl, ?_⟩
   simp only [nz]
   have rA := range_below rA hb sA
   have rC := range_below rC hb sC
   have sA := Nat.lt_of_lt_of_le sA hb.size
   have sC := Nat.lt_of_lt_of_le sC hb.size
   have np := np.below hb
   have B := B.trans (hb.mono B.size)
   clear hb
   refine pl_t 78 (.bool false) (by rfl) (by go_simp <;> (try simp)) rfl ?_
   simp only [nz]
   refine pl_t 79 (?_) (by rfl) ?_ rfl ?_
   rotate_left
   ·go_simp
    try with_reducible rfl
   simp only [nz]
   refine pl_t 80 (?_) (by rfl) ?_ rfl ?_
   rotate_left
   ·go_simp
    try with_reducible rfl
   simp only [nz]
   refine pl_t 81 (?_) (by rfl) ?_ rfl ?_
   rotate_left
   ·go_simp
    try with_reducible rfl
   simp only [nz]
   refine pl_t 82 (.agg cq.toArray) (by rfl) (ex_mid rfl rfl rC Tryz.underlying36 rfl ic) rfl ?_
   simp only [nz]
   refine pl_call (d := some 83) (by rfl) (by go_simp; first | done | exact ⟨rfl, rfl⟩ | with_reducible rfl) rfl ?_
   refine (nknows_no p cq we np).mono ?_
   rintro _ wf ⟨rfl, hb⟩
   refine ⟨_, rfl, ?_⟩
   simp only [nz]
   have rA := range_below rA hb sA
   have rC := range_below rC hb sC
   have sA := Nat.lt_of_lt_of_le sA hb.size
   have sC := Nat.lt_of_lt_of_le sC hb.size
   have np := np.below hb
   have B := B.trans (hb.mono B.size)
   clear hb
   refine pl_t 84 (?_) (by rfl) ?_ rfl ?_
   rotate_left
   ·go_simp
    try with_reducible rfl
   simp only [nz]
   refine pl_t 85 (?_) (by rfl) ?_ rfl ?_
   rotate_left
   ·go_simp
    try with_reducible rfl
   simp only [nz]
   refine pl_t 86 (?_) (by rfl) ?_ rfl ?_
   rotate_left
   ·go_simp
    try with_reducible rfl
   simp only [nz]
   refine pl_call (d := some 87) (by rfl) (by go_simp; first | done | exact ⟨rfl, rfl⟩ | with_reducible rfl) rfl ?_
   refine (nlen_no p wf (np _ (Below.refl _ _))).mono ?_
   rintro _ wg ⟨rfl, hwg⟩
   refine ⟨_, rfl, ?_⟩
   simp only [nz]
   obtain rfl := hwg.symm
   refine pl_t 88 (?_) (by rfl) ?_ rfl ?_
   rotate_left
   ·go_simp
    try with_reducible rfl
   simp only [nz]
   refine pl_call (d := some 89) (by rfl) (by go_simp; first | done | exact ⟨rfl, rfl⟩ | with_reducible rfl) rfl ?_
   refine (nsent_no p wf (np _ (Below.refl _ _))).mono ?_
   rintro _ wg ⟨rfl, hwg⟩
   refine ⟨_, rfl, ?_⟩
   simp only [nz]
   obtain rfl := hwg.symm
   refine pl_t 90 (.int .i64 0) (by rfl) (by go_simp <;> (try simp) <;> (try decide)) rfl ?_
   simp only [nz]
   refine pl_t 91 (?_) (by rfl) ?_ rfl ?_
   rotate_left
   ·go_simp
    try with_reducible rfl
   simp only [nz]
   refine pl_t 92 (.int .i64 0) (by rfl) (by go_simp <;> (try simp) <;> (try decide)) rfl ?_
   simp only [nz]
   refine pl_t 93 (?_) (by rfl) ?_ rfl ?_
   rotate_left
   ·go_simp
    try with_reducible rfl
   simp only [nz]
   refine pl_t 94 (.int .i64 0) (by rfl) (by go_simp <;> (try simp) <;> (try decide)) rfl ?_
   simp only [nz]
   refine pl_t 95 (.bool false) (by rfl) (by go_simp <;> (try simp)) rfl ?_
   simp only [nz]
   refine pl_t 96 (?_) (by rfl) ?_ rfl ?_
   rotate_left
   ·go_simp
    try with_reducible rfl
   simp only [nz]
   refine pl_nil ?_
   have HKF := hide B
   clear B rA rC sA sC np
   go_wp2_with fail
   go_roundw
   case rel => exact ⟨k + 1, by omega, by go_num, HKF⟩
   case measure => simp [intOf]; omega
  ·obtain rfl : k = 2 := by omega
   have HB := hide (BW.out.trans (HK.out.mono BW.out.size))
   clear rA rC sA sC B rR sR HK
   go_upto_region 12 with fail
   try simp only [Act.put]
   refine pl_begin ?_
   refine pl_call (d := some 98) (by rfl) (by go_simp; first | done | exact ⟨rfl, rfl⟩ | with_reducible rfl) rfl ?_
   refine (lives26_any wr).mono ?_
   rintro _ wL ⟨rfl, hbL⟩
   refine ⟨_, rfl, ?_⟩
   simp only [nz]
   refine pl_t 2 (?_) (by rfl) ?_ rfl ?_
   rotate_left
   ·go_simp
    try with_reducible rfl
   simp only [nz]
   refine pl_nil ?_
   have HF := hide (HB.out.trans (hbL.mono HB.out.size))
   clear hbL
   go_wp2_with fail
   go_ret
   exact ⟨rfl, HF.out⟩
end Go.Proofs.YtilbjeeabecfjaaGreat
namespace Go.Proofs.YtilbjeeabecfjaaGreat.netNobody
open Go.ChangeShapes Go.WideShapes Go.ChangeAt Go.RowKit
open Go.ChangeMaps (open_string shut_string)
set_option linter.unusedVariables false
set_option maxRecDepth 100000 in
theorem lifted (os : Os) (started : os.Started) (H : Type) (enc : TypeId × Value → H) :
  ReturnsInHanded {} Tryz.checked os 6 .any (Rows.netNobodySpec.pre6 enc Tryz.prog Tryz.f6 Rows.netNobodyRow.domain false) (Rows.netNobodySpec.post enc Tryz.prog Tryz.f6 false true false false) := by
 refine returnsInHanded_of_change (C := Tryz.checked) own started (by kernel_rfl) Tryz.func6
  (ChangeSpec.witness6 (enc := enc) (C := Tryz.checked) false ⟨#[], #[.agg #[.int .i64 0, .int .i64 0, .int .i64 0, .string ⟨#[]⟩, .int .u8 0, .int .u8 0, .int .u8 0, .int .u8 0, .int .u8 0, .int .u8 0, .int .u8 0, .int .u8 0, .int .u8 0, .int .u8 0, .int .u8 0, .int .u8 0, .int .u8 0, .int .u8 0, .int .u8 0, .int .u8 0]], []⟩ 8 (by kernel_rfl) (by kernel_rfl) (by kernel_rfl) (by kernel_rfl)) ?_
 intro W base args ds gs before hval0 hW hcnd _
 have hval : ∀ (j : Nat) t v, Tryz.f6.params[j]? = some t → args[j]? = some v → Value.okWide Tryz.prog W .any base t v := hval0
 have hW' := hW
 obtain ⟨p, q, hA0, hV, rfl, hfz, hnd⟩ := hW
 have hA : DataW.TrodAll enc Tryz.prog W 0 (fun _ => true) true Tryz.f6.params.toList args.toList ds p := hA0
 rw [Tryz.params6] at hA hval
 obtain ⟨v0, vs0, d0, ds0, p0, q0, hargs, rfl, rfl, h0, r0⟩ := trodAll_cons hA
 obtain ⟨rfl, rfl, rfl⟩ := trodAll_nil r0
 obtain rfl : args = #[v0] := by cases args; simp_all
 obtain ⟨rfl, rfl⟩ := trodVars_none hV
 have k0 := h0
 have lt0 : ∀ x ∈ p0, x.block < W.heap.size := by obtain ⟨m, hm⟩ := k0; exact DataW.trod_lt m _ _ _ hm
 obtain ⟨fuel0, hf0⟩ := h0
 obtain ⟨x0, rfl, ok0⟩ := open_act (hval 0 34 v0 rfl rfl) hf0
 clear hA0 hval0
 refine (netNobody_walk x0 W ok0).mono fun e W' ⟨he, bel⟩ => ?_
 subst he
 exact ⟨_, rfl, _, _, _, [], _, [], hW', trodAll_mk1 (shut_bool Tryz.underlying4 _), (trodAll_cons_mk (Below.trod laidOut (by kernel_rfl) (of_decide_eq_true (by kernel_rfl)) k0 bel lt0) trodAll_mk0), rfl, bel.frame _, fun h => by cases h⟩
theorem over : Rows.netNobodyRow.holds Tryz.pinned (OpenSpec.ofChange Rows.netNobodySpec) :=
 OpenClaim.holds_of_wide 6 Tryz.f6 rfl rfl rfl rfl rfl rfl rfl ⟨rfl, rfl, rfl, rfl, rfl⟩ rfl rfl rfl rfl rfl (by kernel_rfl) Tryz.func6 (by kernel_rfl)
  (of_decide_eq_true (by kernel_rfl)) (by unfold Func.isWrapper; first | (rw [if_pos (by decide +kernel)]; kernel_rfl) | (rw [if_neg (by decide +kernel)]; exact ⟨rfl, rfl⟩))
  (fun os started H enc _ => lifted os started H enc)
end Go.Proofs.YtilbjeeabecfjaaGreat.netNobody
namespace Go.Proofs.YtilbjeeabecfjaaGreat
theorem netNobody_holds : Rows.NetNobodySaid := netNobody.over
#print axioms netNobody_holds
end Go.Proofs.YtilbjeeabecfjaaGreat
