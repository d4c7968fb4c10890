/- the reader's signs and envelopes; the reader's kinds and votes; the reader's votes; batch.Get and request.Get -/
import Derived.Test.YtcbpbkefggekmaaGreatDoorJR0
import Derived.Test.YtcbpbkefggekmaaGreatDoorJR7
import Derived.Laws.MakeOwn
namespace Go.Proofs.YtcbpbkefggekmaaGreatDoor
open Go.RowKit
open Sha Tal
set_option linter.unusedVariables false
set_option linter.unusedSimpArgs false
theorem build_fill {P : Program} {t : TypeId} {zs : List Value} {pl : Array (Nat × Nat)} {w : World} (hz : (zeroValue t).run P w = .ok (.agg zs.toArray) w) (hu : P.underlying t = some (.struct (P.fieldsOf t)))
  (hp : (((P.fieldsOf t).mapM fun f => do pure (f.offset, ← sizeOf f.type) : Sem (Array (Nat × Nat)))).run P w = .ok pl w) (parts : Array (Nat × Value)) (cs : List Value) (h : Instr.fill (pl[·]?) zs.toArray parts.toList = some cs.toArray) : (Instr.build t parts).run P w = .ok (.agg cs.toArray) w := by
 unfold Instr.build
 simp only [Sem.run_bind, hz, Result.andThen_ok, run_underlying hu]
 rw [hp]
 simp only [Result.andThen_ok, Value.cells]
 rw [h]
 rfl
theorem fill_two {pl : Array (Nat × Nat)} {n m : Nat} {z1 z2 c1 c2 : List Value} {v1 v2 : Value} (h0 : pl[0]? = some (0, n)) (h1 : pl[1]? = some (n, m)) (l1 : z1.length = n) (l2 : z2.length = m) (k1 : c1.length = n) (k2 : c2.length = m) (e1 : v1.cells = c1.toArray) (e2 : v2.cells = c2.toArray) :
  Instr.fill (pl[·]?) (z1 ++ z2).toArray [(0, v1), (1, v2)] = some (c1 ++ c2).toArray := by
 have s1 : z1 ++ z2 = [] ++ (z1 ++ z2) := rfl
 rw [s1, fill_step (off := 0) (n := n) (vs := c1) h0 l1 rfl e1 k1]
 have s2 : [] ++ (c1 ++ z2) = c1 ++ (z2 ++ []) := by simp
 rw [s2, fill_step (off := n) (n := m) (vs := c2) h1 l2 k1 e2 k2]
 simp [Instr.fill]
set_option maxRecDepth 100000 in
theorem zeroSgE (w : World) : (zeroValue 133).run Tryz.prog w = .ok (.agg ([Value.int .i64 0] ++ v8 (List.replicate 16 0)).toArray) w := by kernel_rfl
set_option maxRecDepth 100000 in
theorem build_sign (n : Int) (t : List Value) (ht : t.length = 16) (w : World) : (Instr.build 133 #[(0, .int .i64 n), (1, .agg t.toArray)]).run Tryz.prog w = .ok (.agg (.int .i64 n :: t).toArray) w :=
 build_fill (zs := [Value.int .i64 0] ++ v8 (List.replicate 16 0)) (pl := #[(0, 1), (1, 16)]) (zeroSgE w) (by kernel_rfl) (by kernel_rfl) _ _ (fill_two (c1 := [.int .i64 n]) rfl rfl rfl rfl rfl ht rfl rfl)
theorem ex_build {P : Program} {o : Oper} {a : Act} {w : World} {t : TypeId} {parts : List (Nat × Operand)} {vs : List (Nat × Value)} {v : Value} (ho : o.op = .build t parts.toArray) (hv : (parts.map fun (x : Nat × Operand) => (x.1, a.eval x.2)) = vs)
  (hr : (Instr.build t vs.toArray).run P w = .ok v w) : (execOp a.eval o).run P w = .ok (.value v) w := by
 subst hv
 have e : Array.map (fun (x : Nat × Operand) => (x.1, a.eval x.2)) parts.toArray = (parts.map fun (x : Nat × Operand) => (x.1, a.eval x.2)).toArray := by simp
 unfold execOp
 simp only [ho]
 rw [show (Instr.build t (Array.map (fun x => match x with | (i, x) => (i, a.eval x)) parts.toArray)) = Instr.build t (parts.map fun (x : Nat × Operand) => (x.1, a.eval x.2)).toArray from congrArg _ e]
 simp only [Sem.run_bind, hr, Result.andThen_ok, Sem.run_pure]
theorem zeroEvE (w : World) : (zeroValue 25).run Tryz.prog w = .ok (.agg ([Value.int .i64 0] ++ ([Value.string ⟨#[]⟩] ++ v8 (List.replicate 16 0))).toArray) w := by kernel_rfl
theorem fill_three {pl : Array (Nat × Nat)} {n m k : Nat} {z1 z2 z3 c1 c2 c3 : List Value} {v1 v2 v3 : Value} (h0 : pl[0]? = some (0, n)) (h1 : pl[1]? = some (n, m)) (h2 : pl[2]? = some (n + m, k)) (l1 : z1.length = n) (l2 : z2.length = m) (l3 : z3.length = k) (k1 : c1.length = n) (k2 : c2.length = m) (k3 : c3.length = k) (e1 : v1.cells = c1.toArray) (e2 : v2.cells = c2.toArray) (e3 : v3.cells = c3.toArray) :
  Instr.fill (pl[·]?) (z1 ++ (z2 ++ z3)).toArray [(0, v1), (1, v2), (2, v3)] = some (c1 ++ (c2 ++ c3)).toArray := by
 have s1 : z1 ++ (z2 ++ z3) = [] ++ (z1 ++ (z2 ++ z3)) := rfl
 rw [s1, fill_step (off := 0) (n := n) (vs := c1) h0 l1 rfl e1 k1]
 have s2 : [] ++ (c1 ++ (z2 ++ z3)) = c1 ++ (z2 ++ z3) := by simp
 rw [s2, fill_step (off := n) (n := m) (vs := c2) h1 l2 k1 e2 k2]
 have s3 : c1 ++ (c2 ++ z3) = (c1 ++ c2) ++ (z3 ++ []) := by simp
 rw [s3, fill_step (off := n + m) (n := k) (vs := c3) h2 l3 (by simp [k1, k2]) e3 k3]
 simp [Instr.fill]
set_option maxRecDepth 100000 in
theorem build_env (n : Int) (b : ByteArray) (t : List Value) (ht : t.length = 16) (w : World) : (Instr.build 25 #[(0, .int .i64 n), (1, .string b), (2, .agg t.toArray)]).run Tryz.prog w = .ok (.agg (.int .i64 n :: .string b :: t).toArray) w :=
 build_fill (zs := [Value.int .i64 0] ++ ([Value.string ⟨#[]⟩] ++ v8 (List.replicate 16 0))) (pl := #[(0, 1), (1, 1), (2, 16)]) (zeroEvE w) (by kernel_rfl) (by kernel_rfl) _ _ (fill_three (c1 := [.int .i64 n]) (c2 := [.string b]) rfl rfl rfl rfl rfl rfl rfl rfl ht rfl rfl rfl)
def sgS (rest : List Int) (e : Int) : Sg × List Int × Int :=
 let x1 := numS rest e 64
 let x2 := rawS x1.2.1 x1.2.2 16
 (⟨x1.1, padN 16 x2.1⟩, x2.2.1, x2.2.2)
def evS (rest : List Int) (e : Int) : Ev × List Int × Int :=
 let x1 := numS rest e 64
 let x2 := textS x1.2.1 x1.2.2 4194304
 let x3 := rawS x2.2.1 x2.2.2 16
 (⟨x1.1, strOf x2.1, padN 16 x3.1⟩, x3.2.1, x3.2.2)
theorem sgS_len (rest : List Int) (e : Int) : (sgS rest e).2.1.length ≤ rest.length := Nat.le_trans (rawS_len _ _ _) (numS_len _ _ _)
theorem evS_len (rest : List Int) (e : Int) : (evS rest e).2.1.length ≤ rest.length := Nat.le_trans (rawS_len _ _ _) (Nat.le_trans (textS_len _ _ _) (numS_len _ _ _))
set_option maxRecDepth 100000 in
set_option maxHeartbeats 1000000 in
theorem rsign_any (Q R : Nat) (z : Bool) (rest : List Int) (e : Int) (w : World) (h : St w R rest e) (hq : MrAt w Q R z) (hl : rest.length ≤ 40000) : Calls Tryz.prog 116 #[.pointer (some ⟨Q, 0, none⟩)] w fun en w' => en = .returned (.agg (sgS rest e).1.cells.toArray) ∧ St w' R (sgS rest e).2.1 (sgS rest e).2.2 ∧ w.grownBy w' (some R) := by
 obtain ⟨zc, hzl, hzr⟩ := zeroSg
 have hRw := h.1.1
 have hQw := hq.lt
 have l1 := numS_len rest e 64
 have cn := fun w0 h0 => num_any R rest e 64 w0 h0
 show Calls Tryz.prog 116 _ w fun en w' => en = .returned (.agg (Value.int .i64 (numS rest e 64).1 :: v8 (padN 16 (rawS (numS rest e 64).2.1 (numS rest e 64).2.2 16).1)).toArray) ∧ St w' R (rawS (numS rest e 64).2.1 (numS rest e 64).2.2 16).2.1 (rawS (numS rest e 64).2.1 (numS rest e 64).2.2 16).2.2 ∧ w.grownBy w' (some R)
 obtain ⟨v1, hv1⟩ : ∃ x, (numS rest e 64).1 = x := ⟨_, rfl⟩
 obtain ⟨r1, hr1'⟩ : ∃ x, (numS rest e 64).2.1 = x := ⟨_, rfl⟩
 obtain ⟨e1, he1⟩ : ∃ x, (numS rest e 64).2.2 = x := ⟨_, rfl⟩
 simp only [hv1, hr1', he1] at l1 cn ⊢
 clear hv1 hr1' he1
 have ct := fun w0 h0 hq0 => rtag_any Q R z r1 e1 w0 h0 hq0 (by omega)
 have htl : (v8 (padN 16 (rawS r1 e1 16).1)).length = 16 := by rw [v8_length, padN_len]
 have hp1 : ∀ v ∈ (Value.int .i64 v1 :: v8 (padN 16 (rawS r1 e1 16).1)), v.oneCell' = true := SgE.one ⟨v1, padN 16 (rawS r1 e1 16).1⟩
 obtain ⟨t, htt⟩ : ∃ t, v8 (padN 16 (rawS r1 e1 16).1) = t := ⟨_, rfl⟩
 obtain ⟨r2, hr2'⟩ : ∃ x, (rawS r1 e1 16).2.1 = x := ⟨_, rfl⟩
 obtain ⟨e2, he2⟩ : ∃ x, (rawS r1 e1 16).2.2 = x := ⟨_, rfl⟩
 simp only [htt, hr2', he2] at ct htl hp1 ⊢
 clear htt hr2' he2
 have hbs := fun w0 => build_sign v1 t htl w0
 have hip : (Tryz.prog.info? 133).map (·.size) = some (Value.int .i64 v1 :: t).length := by simp only [List.length_cons, htl]; exact iszSg
 have hpl : (Value.int .i64 v1 :: t).length = 17 := by simp only [List.length_cons, htl]
 obtain ⟨pc, hpc⟩ : ∃ p, Value.int .i64 v1 :: t = p := ⟨_, rfl⟩
 simp only [hpc] at hbs hip hp1 hpl ⊢
 clear hpc htl
 obtain ⟨hB1, hr1, hs1⟩ := boxed_new w zc 133
 have ht1 := there_newN w zc.toArray 133 (n := 17) (by simp [hzl])
 go_enter Tryz.func116, Tryz.ntmps116
 go_upto_region 0 with fail
 try simp only [Act.put]
 refine pl_begin ?_
 refine pl_run (d := some 2) (v := .pointer (some ⟨w.heap.size, 0, none⟩)) (w' := w.alloc (.cells zc.toArray 133)) (by rfl) (ex_alloc rfl (hzr _)) rfl ?_
 simp only [nz]
 refine pl_nil ?_
 obtain ⟨W1, hW1⟩ : ∃ W, w.alloc (.cells zc.toArray 133) = W := ⟨_, rfl⟩
 rw [hW1] at hB1 hr1 hs1 ht1 ⊢
 clear hW1 hr1 hzr hzl
 have st1 := h.below hB1
 have hq1 := hq.below hB1
 have g1 : w.grownBy W1 (some R) := gb_below hB1 _
 go_upto_region 1 with fail
 try simp only [Act.put]
 refine pl_begin ?_
 refine pl_t 3 (?_) (by rfl) ?_ rfl ?_
 rotate_left
 ·go_simp
  try with_reducible rfl
 simp only [nz]
 refine pl_t 4 (?_) (by rfl) ?_ rfl ?_
 rotate_left
 ·go_simp
  try with_reducible rfl
 simp only [nz]
 refine pl_t 5 (?_) (by rfl) ?_ rfl ?_
 rotate_left
 ·go_simp
  try with_reducible rfl
 simp only [nz]
 refine pl_t 6 (.pointer (some ⟨R, 0, none⟩)) (by rfl) (pl_one rfl rfl hq1.c0 Tryz.underlying98 rfl) rfl ?_
 simp only [nz]
 refine pl_call (d := some 7) (by rfl) (by go_simp; first | done | exact ⟨rfl, rfl⟩ | with_reducible rfl) rfl ?_
 refine (cn W1 st1).mono ?_
 rintro _ w2 ⟨rfl, st2, g2⟩
 refine ⟨_, rfl, ?_⟩
 simp only [nz]
 refine pl_t 8 (?_) (by rfl) ?_ rfl ?_
 rotate_left
 ·go_simp
  try with_reducible rfl
 simp only [nz]
 refine pl_call (d := some 9) (by rfl) (by go_simp; first | done | exact ⟨rfl, rfl⟩ | with_reducible rfl) rfl ?_
 refine (ct w2 st2 (hq1.gb g2)).mono ?_
 rintro _ w3 ⟨rfl, st3, g3⟩
 refine ⟨_, rfl, ?_⟩
 simp only [nz]
 refine pl_t 10 (.agg pc.toArray) (by rfl) (ex_build (parts := [(0, .tmp 7), (1, .tmp 9)]) rfl rfl (hbs _)) rfl ?_
 simp only [nz]
 have g23 := gb_trans g2 g3
 have thA : w3.there w.heap.size 0 17 := there_gbR ht1 g23 hs1 (by omega)
 have gc := gb_trans g1 g23
 have sc := st3
 refine pl_store (w' := w3.setCells w.heap.size 0 pc) (by rfl) (ex_put (cs := pc.toArray) rfl rfl rfl (by simpa [hpl] using thA) (by simpa using hip) (all_one hp1)) rfl ?_
 refine pl_nil ?_
 have gf := gb_onR gc (below_sets (B := w.heap.size) (b := w.heap.size) (Nat.le_refl _) pc 0 _ (Below.refl _ w3)) (Nat.le_refl _)
 have sf : St (w3.setCells w.heap.size 0 pc) R _ _ := sc.belowN (n := w.heap.size) (below_sets (Nat.le_refl _) pc 0 _ (Below.refl _ w3)) hRw
 have hrs := run_loadVar_mid (P := Tryz.prog) (w3.setCells w.heap.size 0 pc) w.heap.size 0 133 pc _ (World.rangeAt_setCells_same w3 w.heap.size 0 pc (by rw [hpl]; exact thA)) Tryz.underlying133 rfl hip
 clear sc gc
 go_wp2_with fail
 refine bodyPost_ret (v := .agg pc.toArray) ?_ rfl ?_
 ·simp [results, Tryz.results116, Act.put, asAddr, hrs]
 ·exact ⟨rfl, sf, gf⟩
set_option maxRecDepth 100000 in
set_option maxHeartbeats 1000000 in
theorem renv_any (Q R : Nat) (z : Bool) (rest : List Int) (e : Int) (w : World) (h : St w R rest e) (hq : MrAt w Q R z) (hl : rest.length ≤ 40000) : Calls Tryz.prog 112 #[.pointer (some ⟨Q, 0, none⟩)] w fun en w' => en = .returned (.agg (evS rest e).1.cells.toArray) ∧ St w' R (evS rest e).2.1 (evS rest e).2.2 ∧ w.grownBy w' (some R) := by
 obtain ⟨zc, hzl, hzr⟩ := zeroEv
 have hRw := h.1.1
 have hQw := hq.lt
 have l1 := numS_len rest e 64
 have cn := fun w0 h0 => num_any R rest e 64 w0 h0
 have l2 := textS_len (numS rest e 64).2.1 (numS rest e 64).2.2 4194304
 have cx := fun w0 h0 => text_any R (numS rest e 64).2.1 (numS rest e 64).2.2 4194304 w0 h0 h0.pos
 show Calls Tryz.prog 112 _ w fun en w' => en = .returned (.agg (Value.int .i64 (numS rest e 64).1 :: .string (strOf (textS (numS rest e 64).2.1 (numS rest e 64).2.2 4194304).1) :: v8 (padN 16 (rawS (textS (numS rest e 64).2.1 (numS rest e 64).2.2 4194304).2.1 (textS (numS rest e 64).2.1 (numS rest e 64).2.2 4194304).2.2 16).1)).toArray) ∧ St w' R (rawS (textS (numS rest e 64).2.1 (numS rest e 64).2.2 4194304).2.1 (textS (numS rest e 64).2.1 (numS rest e 64).2.2 4194304).2.2 16).2.1 (rawS (textS (numS rest e 64).2.1 (numS rest e 64).2.2 4194304).2.1 (textS (numS rest e 64).2.1 (numS rest e 64).2.2 4194304).2.2 16).2.2 ∧ w.grownBy w' (some R)
 obtain ⟨v1, hv1⟩ : ∃ x, (numS rest e 64).1 = x := ⟨_, rfl⟩
 obtain ⟨r1, hr1'⟩ : ∃ x, (numS rest e 64).2.1 = x := ⟨_, rfl⟩
 obtain ⟨e1, he1⟩ : ∃ x, (numS rest e 64).2.2 = x := ⟨_, rfl⟩
 simp only [hv1, hr1', he1] at l1 cn l2 cx ⊢
 clear hv1 hr1' he1
 obtain ⟨v2, hv2⟩ : ∃ x, strOf (textS r1 e1 4194304).1 = x := ⟨_, rfl⟩
 obtain ⟨r2, hr2'⟩ : ∃ x, (textS r1 e1 4194304).2.1 = x := ⟨_, rfl⟩
 obtain ⟨e2, he2⟩ : ∃ x, (textS r1 e1 4194304).2.2 = x := ⟨_, rfl⟩
 simp only [hv2, hr2', he2] at l2 cx ⊢
 clear hv2 hr2' he2
 have ct := fun w0 h0 hq0 => rtag_any Q R z r2 e2 w0 h0 hq0 (by omega)
 have htl : (v8 (padN 16 (rawS r2 e2 16).1)).length = 16 := by rw [v8_length, padN_len]
 have hp1 : ∀ v ∈ (Value.int .i64 v1 :: .string v2 :: v8 (padN 16 (rawS r2 e2 16).1)), v.oneCell' = true := EvE.one ⟨v1, v2, padN 16 (rawS r2 e2 16).1⟩
 obtain ⟨t, htt⟩ : ∃ t, v8 (padN 16 (rawS r2 e2 16).1) = t := ⟨_, rfl⟩
 obtain ⟨r3, hr3'⟩ : ∃ x, (rawS r2 e2 16).2.1 = x := ⟨_, rfl⟩
 obtain ⟨e3, he3⟩ : ∃ x, (rawS r2 e2 16).2.2 = x := ⟨_, rfl⟩
 simp only [htt, hr3', he3] at ct htl hp1 ⊢
 clear htt hr3' he3
 have hbs := fun w0 => build_env v1 v2 t htl w0
 have hip : (Tryz.prog.info? 25).map (·.size) = some (Value.int .i64 v1 :: .string v2 :: t).length := by simp only [List.length_cons, htl]; exact iszEv
 have hpl : (Value.int .i64 v1 :: .string v2 :: t).length = 18 := by simp only [List.length_cons, htl]
 obtain ⟨pc, hpc⟩ : ∃ p, Value.int .i64 v1 :: .string v2 :: t = p := ⟨_, rfl⟩
 simp only [hpc] at hbs hip hp1 hpl ⊢
 clear hpc htl
 obtain ⟨hB1, hr1, hs1⟩ := boxed_new w zc 25
 have ht1 := there_newN w zc.toArray 25 (n := 18) (by simp [hzl])
 go_enter Tryz.func112, Tryz.ntmps112
 go_upto_region 0 with fail
 try simp only [Act.put]
 refine pl_begin ?_
 refine pl_run (d := some 2) (v := .pointer (some ⟨w.heap.size, 0, none⟩)) (w' := w.alloc (.cells zc.toArray 25)) (by rfl) (ex_alloc rfl (hzr _)) rfl ?_
 simp only [nz]
 refine pl_nil ?_
 obtain ⟨W1, hW1⟩ : ∃ W, w.alloc (.cells zc.toArray 25) = W := ⟨_, rfl⟩
 rw [hW1] at hB1 hr1 hs1 ht1 ⊢
 clear hW1 hr1 hzr hzl
 go_upto_region 1 with fail
 have hB8 := hB1.drew
 have ht8 : W1.drew.there w.heap.size 0 18 := ht1
 have hs8 : w.heap.size < W1.drew.heap.size := hs1
 refine hs_begin (S := (fun W' => MrAt W' Q R z)) 14 rfl (by kernel_rfl) ?_
 obtain ⟨w8, hw8⟩ : ∃ W, W1.drew = W := ⟨_, rfl⟩
 rw [hw8] at hB8 ht8 hs8 ⊢
 clear hw8
 have st8 := h.below hB8
 have g8 : w.grownBy w8 (some R) := gb_below hB8 _
 have hS : (fun W' => MrAt W' Q R z) w8 := hq.below hB8
 refine hs_t 0 3 (?_) rfl (by kernel_rfl) (by kernel_rfl) (by kernel_rfl) (by rfl) ?_ hS rfl ?_
 rotate_left
 ·intro w' hw
  go_simp
  try with_reducible rfl
 simp only [nz]
 refine hs_t 1 4 (?_) rfl (by kernel_rfl) (by kernel_rfl) (by kernel_rfl) (by rfl) ?_ hS rfl ?_
 rotate_left
 ·intro w' hw
  go_simp
  try with_reducible rfl
 simp only [nz]
 refine hs_t 2 5 (?_) rfl (by kernel_rfl) (by kernel_rfl) (by kernel_rfl) (by rfl) ?_ hS rfl ?_
 rotate_left
 ·intro w' hw
  go_simp
  try with_reducible rfl
 simp only [nz]
 refine hs_t 3 6 (.pointer (some ⟨R, 0, none⟩)) rfl (by kernel_rfl) (by kernel_rfl) (by kernel_rfl) (by rfl) (fun w' hw => pl_one rfl rfl hw.c0 Tryz.underlying98 rfl) hS rfl ?_
 simp only [nz]
 refine hs_t 5 8 (?_) rfl (by kernel_rfl) (by kernel_rfl) (by kernel_rfl) (by rfl) ?_ hS rfl ?_
 rotate_left
 ·intro w' hw
  go_simp
  try with_reducible rfl
 simp only [nz]
 refine hs_t 6 9 (?_) rfl (by kernel_rfl) (by kernel_rfl) (by kernel_rfl) (by rfl) ?_ hS rfl ?_
 rotate_left
 ·intro w' hw
  go_simp
  try with_reducible rfl
 simp only [nz]
 refine hs_t 7 10 (?_) rfl (by kernel_rfl) (by kernel_rfl) (by kernel_rfl) (by rfl) ?_ hS rfl ?_
 rotate_left
 ·intro w' hw
  go_simp
  try with_reducible rfl
 simp only [nz]
 refine hs_t 8 11 (.pointer (some ⟨R, 0, none⟩)) rfl (by kernel_rfl) (by kernel_rfl) (by kernel_rfl) (by rfl) (fun w' hw => pl_one rfl rfl hw.c0 Tryz.underlying98 rfl) hS rfl ?_
 simp only [nz]
 refine hs_t 10 13 (?_) rfl (by kernel_rfl) (by kernel_rfl) (by kernel_rfl) (by rfl) ?_ hS rfl ?_
 rotate_left
 ·intro w' hw
  go_simp
  try with_reducible rfl
 simp only [nz]
 refine hs_call (i := 4) (d := some 7) rfl (by kernel_rfl) (by rfl) (by go_simp; first | done | exact ⟨rfl, rfl⟩ | with_reducible rfl) rfl ?_
 refine (cn w8 st8).mono ?_
 rintro _ w2 ⟨rfl, st2, g2⟩
 have hS : (fun W' => MrAt W' Q R z) w2 := hS.gb g2
 refine ⟨_, rfl, hS, ?_⟩
 simp only [nz]
 refine hs_call (i := 9) (d := some 12) rfl (by kernel_rfl) (by rfl) (by go_simp; first | done | exact ⟨rfl, rfl⟩ | with_reducible rfl) rfl ?_
 refine (cx w2 st2).mono ?_
 rintro _ w3 ⟨rfl, st3, g3⟩
 have hS : (fun W' => MrAt W' Q R z) w3 := hS.gb g3
 refine ⟨_, rfl, hS, ?_⟩
 simp only [nz]
 refine hs_call (i := 11) (d := some 14) rfl (by kernel_rfl) (by rfl) (by go_simp; first | done | exact ⟨rfl, rfl⟩ | with_reducible rfl) rfl ?_
 refine (ct w3 st3 hS).mono ?_
 rintro _ w4 ⟨rfl, st4, g4⟩
 have hS : (fun W' => MrAt W' Q R z) w4 := hS.gb g4
 refine ⟨_, rfl, hS, ?_⟩
 simp only [nz]
 refine hs_t 12 15 (.agg pc.toArray) rfl (by kernel_rfl) (by kernel_rfl) (by kernel_rfl) (by rfl) (fun w' hw => ex_build (parts := [(0, .tmp 7), (1, .tmp 12), (2, .tmp 14)]) rfl rfl (hbs _)) hS rfl ?_
 simp only [nz]
 have g24 := gb_trans (gb_trans g2 g3) g4
 have thA : w4.there w.heap.size 0 18 := there_gbR ht8 g24 hs8 (by omega)
 have gc := gb_trans g8 g24
 have sc := st4
 have hSE : (fun W' => MrAt W' Q R z) (w4.setCells w.heap.size 0 pc) := hS.at (blk_sets (by omega)) (by rw [size_sets]; exact Nat.le_refl _)
 refine hs_store (i := 13) (w' := w4.setCells w.heap.size 0 pc) rfl (by kernel_rfl) (by rfl) (ex_put (cs := pc.toArray) rfl rfl rfl (by simpa [hpl] using thA) (by simpa using hip) (all_one hp1)) rfl hSE ?_
 refine hs_done (by kernel_rfl) ?_
 have gf := gb_onR gc (below_sets (B := w.heap.size) (b := w.heap.size) (Nat.le_refl _) pc 0 _ (Below.refl _ w4)) (Nat.le_refl _)
 have sf : St (w4.setCells w.heap.size 0 pc) R _ _ := sc.belowN (n := w.heap.size) (below_sets (Nat.le_refl _) pc 0 _ (Below.refl _ w4)) hRw
 have hrs := run_loadVar_mid (P := Tryz.prog) (w4.setCells w.heap.size 0 pc) w.heap.size 0 25 pc _ (World.rangeAt_setCells_same w4 w.heap.size 0 pc (by rw [hpl]; exact thA)) Tryz.underlying25 rfl hip
 clear sc gc
 go_wp2_with fail
 refine bodyPost_ret (v := .agg pc.toArray) ?_ rfl ?_
 ·simp [results, Tryz.results112, Act.put, asAddr, hrs]
 ·exact ⟨rfl, sf, gf⟩
theorem there_part1 {w : World} {b n o m : Nat} (h : w.there b 0 n) (hm : o + m ≤ n) : w.there b o m := fun j hj => by
 have := h (o + j) (by omega)
 rwa [Nat.zero_add] at this
theorem ex_put1 {P : Program} {o : Oper} {a : Act} {w : World} {ty : TypeId} {x y : Operand} {b off n : Nat} {v : Value} (ho : o.op = .store ty x y) (hx : a.eval x = .pointer (some ⟨b, off, none⟩)) (hy : a.eval y = v) (ht : w.there b 0 n) (hn : off < n) (hi : (P.info? ty).map (·.size) = some 1) (hvc : v.cells = #[v]) (h1 : v.oneCell' = true) : (execOp a.eval o).run P w = .ok .skip (w.setCells b off [v]) := by
 refine exec_store ho hx hy ?_
 have e : storeVar ty ⟨b, off, none⟩ v = storeVar ty ⟨b, off, none⟩ (.agg #[v]) := by unfold storeVar; rw [hvc]; rfl
 rw [e, run_storeVar_mid w b off ty #[v] (there_part1 ht (by simp; omega)) hi (by simpa using h1)]
theorem Kept.of {w W : World} {R Q : Nat} (hg : w.grownBy W (some R)) : Kept w R Q W := (Kept.refl w R Q).gb hg (.inl rfl)
theorem Kept.trans {w W W' : World} {R Q : Nat} (h : Kept w R Q W) (k : Kept W R Q W') : Kept w R Q W' :=
 ⟨k.os.trans h.os, k.tape.trans h.tape, k.output.trans h.output, Nat.le_trans h.size k.size, fun i hi k1 k2 => (k.block i (Nat.lt_of_lt_of_le hi h.size) k1 k2).trans (h.block i hi k1 k2)⟩
theorem Kept.newSets {w W : World} {R Q b : Nat} (h : Kept w R Q W) (hb : w.heap.size ≤ b) (o : Nat) (vs : List Value) : Kept w R Q (W.setCells b o vs) :=
 h.gb (gb_setsR W b vs o) (.inr (.inr hb))
theorem MrAt.zero {w : World} {Q R : Nat} {z : Bool} (h : MrAt w Q R z) : MrAt (w.setCells Q 1 [.bool true]) Q R true := by
  have h1 := h.lt
  have hT : w.there Q 1 [Value.bool true].length := fun j hj => by
    obtain rfl : j = 0 := by simp at hj; omega
    exact ⟨by show (w.cell? ⟨Q, 1, none⟩).isSome = true; rw [h.c1]; rfl, h.f1⟩
  refine ⟨by rw [size_sets]; exact h1, h.ne, ?_, ?_, ?_⟩
  · have hr : w.rangeAt Q 0 [.pointer (some ⟨R, 0, none⟩)] := fun j v hv => by
      match j, hv with
      | 0, hv => cases hv; exact h.c0
    exact (World.rangeAt_setCells_apart hr Q 1 [.bool true] (.inr (.inl (by simp)))) 0 _ rfl
  · exact World.rangeAt_setCells_same w Q 1 [.bool true] hT 0 _ rfl
  · exact (World.there_setCells hT Q 1 [.bool true] 0 (by simp)).2
def kdZ (rest : List Int) (e most : Int) (z : Bool) : Bool := if (numS rest e most).1 == 0 then (if (numS rest e most).2.2 == 0 then true else z) else z
set_option maxRecDepth 100000 in
set_option maxHeartbeats 1000000 in
theorem rkind_any (Q R : Nat) (z : Bool) (rest : List Int) (e most : Int) (w : World) (h : St w R rest e) (hq : MrAt w Q R z) (thQ0 : w.there Q 0 2) : Calls Tryz.prog 107 #[.pointer (some ⟨Q, 0, none⟩), .int .i64 most] w fun en w' => en = .returned (.int .i64 (numS rest e most).1) ∧ St w' R (numS rest e most).2.1 (numS rest e most).2.2 ∧ MrAt w' Q R (kdZ rest e most z) ∧ Kept w R Q w' ∧ w'.there Q 0 2 := by
 have cn := num_any R rest e most w h
 unfold kdZ
 obtain ⟨v1, hv1⟩ : ∃ x, (numS rest e most).1 = x := ⟨_, rfl⟩
 obtain ⟨r1, hr1⟩ : ∃ x, (numS rest e most).2.1 = x := ⟨_, rfl⟩
 obtain ⟨e1, he1⟩ : ∃ x, (numS rest e most).2.2 = x := ⟨_, rfl⟩
 simp only [hv1, hr1, he1] at cn ⊢
 clear hv1 hr1 he1
 obtain ⟨b0, hb0⟩ : ∃ b, Hid ((v1 == 0) = b) := ⟨_, hide rfl⟩
 obtain ⟨b1, hb1⟩ : ∃ b, Hid ((e1 == 0) = b) := ⟨_, hide rfl⟩
 rw [hb0.out, hb1.out]
 obtain ⟨zz, hzz⟩ : ∃ x : Bool, Hid ((if b0 = true then (if b1 = true then true else z) else z) = x) := ⟨_, hide rfl⟩
 rw [hzz.out]
 have hQl := hq.lt
 have hne := hq.ne
 go_enter Tryz.func107, Tryz.ntmps107
 go_upto_region 1 with fail
 try simp only [Act.put]
 refine pl_begin ?_
 refine pl_t 6 (?_) (by rfl) ?_ rfl ?_
 rotate_left
 ·go_simp
  try with_reducible rfl
 simp only [nz]
 refine pl_t 7 (?_) (by rfl) ?_ rfl ?_
 rotate_left
 ·go_simp
  try with_reducible rfl
 simp only [nz]
 refine pl_t 8 (?_) (by rfl) ?_ rfl ?_
 rotate_left
 ·go_simp
  try with_reducible rfl
 simp only [nz]
 refine pl_t 9 (.pointer (some ⟨R, 0, none⟩)) (by rfl) (pl_one rfl rfl hq.c0 Tryz.underlying98 rfl) rfl ?_
 simp only [nz]
 refine pl_t 10 (?_) (by rfl) ?_ rfl ?_
 rotate_left
 ·go_simp
  try with_reducible rfl
 simp only [nz]
 refine pl_call (d := some 11) (by rfl) (by go_simp; first | done | exact ⟨rfl, rfl⟩ | with_reducible rfl) rfl ?_
 refine (cn).mono ?_
 rintro _ w2 ⟨rfl, st2, g2⟩
 refine ⟨_, rfl, ?_⟩
 simp only [nz]
 refine pl_t 5 (?_) (by rfl) ?_ rfl ?_
 rotate_left
 ·go_simp
  try with_reducible rfl
 simp only [nz]
 refine pl_nil ?_
 have hq2 := hq.gb g2
 have thQ := there_gbR thQ0 g2 hQl (by omega)
 clear cn
 go_upto_region 2 with fail
 try simp only [Act.put]
 refine pl_begin ?_
 refine pl_t 12 (?_) (by rfl) ?_ rfl ?_
 rotate_left
 ·go_simp
  try with_reducible rfl
 simp only [nz]
 refine pl_t 13 (.bool b0) (by rfl) (by rw [← hb0.out]; go_simp) rfl ?_
 simp only [nz]
 cases b0
 ·refine pl_t 14 (?_) (by rfl) ?_ rfl ?_
  rotate_left
  ·go_simp
   try with_reducible rfl
  simp only [nz]
  refine pl_skip (d := some 15) (by rfl) rfl ?_
  simp only [nz]
  refine pl_skip (d := some 16) (by rfl) rfl ?_
  simp only [nz]
  refine pl_skip (d := some 17) (by rfl) rfl ?_
  simp only [nz]
  refine pl_skip (d := some 18) (by rfl) rfl ?_
  simp only [nz]
  refine pl_skip (d := some 19) (by rfl) rfl ?_
  simp only [nz]
  refine pl_skip (d := some 20) (by rfl) rfl ?_
  simp only [nz]
  refine pl_t 21 (?_) (by rfl) ?_ rfl ?_
  rotate_left
  ·go_simp
   try with_reducible rfl
  simp only [nz]
  refine pl_nil ?_
  have HF : Hid (St w2 R r1 e1 ∧ MrAt w2 Q R z ∧ Kept w R Q w2 ∧ w2.there Q 0 2) := hide ⟨st2, hq2, Kept.of g2, thQ⟩
  go_wp2_with fail
  go_ret
  have e := hzz.out; simp at e; subst e; exact ⟨rfl, HF.out⟩
 ·refine pl_t 14 (?_) (by rfl) ?_ rfl ?_
  rotate_left
  ·go_simp
   try with_reducible rfl
  simp only [nz]
  refine pl_t 15 (?_) (by rfl) ?_ rfl ?_
  rotate_left
  ·go_simp
   try with_reducible rfl
  simp only [nz]
  refine pl_t 16 (?_) (by rfl) ?_ rfl ?_
  rotate_left
  ·go_simp
   try with_reducible rfl
  simp only [nz]
  refine pl_t 17 (?_) (by rfl) ?_ rfl ?_
  rotate_left
  ·go_simp
   try with_reducible rfl
  simp only [nz]
  refine pl_t 18 (.pointer (some ⟨R, 0, none⟩)) (by rfl) (pl_one rfl rfl hq2.c0 Tryz.underlying98 rfl) rfl ?_
  simp only [nz]
  refine pl_call (d := some 19) (by rfl) (by go_simp; first | done | exact ⟨rfl, rfl⟩ | with_reducible rfl) rfl ?_
  refine (err_made R e1 w2 st2.1).mono ?_
  rintro _ w3 ⟨rfl, hx⟩
  obtain rfl := hx.symm
  clear hx
  refine ⟨_, rfl, ?_⟩
  simp only [nz]
  refine pl_t 20 (.bool b1) (by rfl) (by rw [← hb1.out]; go_simp) rfl ?_
  simp only [nz]
  cases b1
  ·refine pl_t 21 (?_) (by rfl) ?_ rfl ?_
   rotate_left
   ·go_simp
    try with_reducible rfl
   simp only [nz]
   refine pl_nil ?_
   have HF : Hid (St w2 R r1 e1 ∧ MrAt w2 Q R z ∧ Kept w R Q w2 ∧ w2.there Q 0 2) := hide ⟨st2, hq2, Kept.of g2, thQ⟩
   go_wp2_with fail
   go_ret
   have e := hzz.out; simp at e; subst e; exact ⟨rfl, HF.out⟩
  ·refine pl_t 21 (?_) (by rfl) ?_ rfl ?_
   rotate_left
   ·go_simp
    try with_reducible rfl
   simp only [nz]
   refine pl_nil ?_
   go_upto_region 3 with fail
   try simp only [Act.put]
   refine pl_begin ?_
   refine pl_t 22 (?_) (by rfl) ?_ rfl ?_
   rotate_left
   ·go_simp
    try with_reducible rfl
   simp only [nz]
   refine pl_t 23 (?_) (by rfl) ?_ rfl ?_
   rotate_left
   ·go_simp
    try with_reducible rfl
   simp only [nz]
   refine pl_t 24 (?_) (by rfl) ?_ rfl ?_
   rotate_left
   ·go_simp
    try with_reducible rfl
   simp only [nz]
   refine pl_store (w' := w2.setCells Q 1 [.bool true]) (by rfl) (ex_put1 (n := 2) rfl rfl rfl thQ (by decide) (by kernel_rfl) rfl rfl) rfl ?_
   refine pl_nil ?_
   have HF : Hid (St (w2.setCells Q 1 [.bool true]) R r1 e1 ∧ MrAt (w2.setCells Q 1 [.bool true]) Q R true ∧ Kept w R Q (w2.setCells Q 1 [.bool true]) ∧ (w2.setCells Q 1 [.bool true]).there Q 0 2) := hide ⟨st2.gb (gb_setsR w2 Q _ _) hq2.ne, hq2.zero, (Kept.of g2).gb (gb_setsR w2 Q _ _) (.inr (.inl rfl)), World.there_setCells thQ _ _ _⟩
   go_wp2_with fail
   go_ret
   have e := hzz.out; simp at e; subst e; exact ⟨rfl, HF.out⟩
theorem Kept.blk {w W : World} {R Q b : Nat} (h : Kept w R Q W) (hb : b < w.heap.size) (h1 : b ≠ R) (h2 : b ≠ Q) : W.heap[b]? = w.heap[b]? := h.block b hb h1 h2
theorem range_blk {w w' : World} {b o : Nat} {cs : List Value} (h : w.rangeAt b o cs) (hb : w'.heap[b]? = w.heap[b]?) : w'.rangeAt b o cs := fun j v hv => by
 rw [(@cell_block w w' b (o + j) hb).1]
 exact h j v hv
structure VS (w : World) (Q R A B n : Nat) (q : List Value) (z : Bool) (W : World) : Prop where
 row : W.rangeAt B 0 q
 box : W.there B 0 n
 ans : W.there A 0 n
 kept : Kept w R Q W
 mr : MrAt W Q R z
 qt : W.there Q 0 2
 la : A < W.heap.size
 lb : B < W.heap.size
 na : w.heap.size ≤ A
 nb : w.heap.size ≤ B
 ne : A ≠ B
 rq : R < w.heap.size ∧ Q < w.heap.size
theorem VS.on {w W W' : World} {Q R A B n : Nat} {q : List Value} {z z' : Bool} (h : VS w Q R A B n q z W) (k : Kept W R Q W') (m : MrAt W' Q R z') (t : W'.there Q 0 2) : VS w Q R A B n q z' W' := by
 have h1 := h.na
 have h2 := h.nb
 have h3 := h.rq
 exact ⟨range_blk h.row (k.blk h.lb (by omega) (by omega)), there_blk h.box (k.blk h.lb (by omega) (by omega)), there_blk h.ans (k.blk h.la (by omega) (by omega)), h.kept.trans k, m, t, Nat.lt_of_lt_of_le h.la k.size, Nat.lt_of_lt_of_le h.lb k.size, h1, h2, h.ne, h3⟩
theorem VS.gb {w W W' : World} {Q R A B n : Nat} {q : List Value} {z : Bool} (h : VS w Q R A B n q z W) (g : W.grownBy W' (some R)) : VS w Q R A B n q z W' :=
 h.on (Kept.of g) (h.mr.gb g) (there_gbR h.qt g h.mr.lt (by have := h.mr.ne; omega))
theorem VS.set {w W : World} {Q R A B n : Nat} {q q' : List Value} {z : Bool} (h : VS w Q R A B n q z W) (o : Nat) (vs : List Value) (hq : (W.setCells B o vs).rangeAt B 0 q') : VS w Q R A B n q' z (W.setCells B o vs) := by
 have h1 := h.na
 have h2 := h.nb
 have h3 := h.rq
 exact ⟨hq, World.there_setCells h.box _ _ _, World.there_setCells h.ans _ _ _, h.kept.newSets h2 _ _, h.mr.at (blk_sets (by omega)) (by rw [size_sets]; exact Nat.le_refl _), World.there_setCells h.qt _ _ _, by rw [size_sets]; exact h.la, by rw [size_sets]; exact h.lb, h1, h2, h.ne, h3⟩
theorem VS.drew {w W : World} {Q R A B n : Nat} {q : List Value} {z : Bool} (h : VS w Q R A B n q z W) : VS w Q R A B n q z W.drew :=
 ⟨(World.rangeAt_drew _ _ _ _).2 h.row, h.box, h.ans, h.kept.below ((Below.refl _ _).drew), h.mr.below ((Below.refl _ _).drew), h.qt, h.la, h.lb, h.na, h.nb, h.ne, h.rq⟩
theorem VS.st {w W : World} {Q R A B n o : Nat} {q vs rest : List Value} {z : Bool} {zs : List Int} {e : Int} (h : VS w Q R A B n q z W) (hs : St W R zs e) : St (W.setCells B o vs) R zs e :=
 hs.gb (gb_setsR W B vs o) (by have := h.nb; have := h.rq; omega)
def vtS (rest : List Int) (e : Int) : Vt × List Int × Int :=
 let x0 := numS rest e 2
 let x1 := numS x0.2.1 x0.2.2 1048576
 let x2 := numS x1.2.1 x1.2.2 1099511627776
 let x3 := numS x2.2.1 x2.2.2 1099511627776
 let x4 := rawS x3.2.1 x3.2.2 32
 (⟨x0.1, x1.1, x2.1, x3.1, padN 32 x4.1⟩, x4.2.1, x4.2.2)
theorem vtS_len (rest : List Int) (e : Int) : (vtS rest e).2.1.length ≤ rest.length := Nat.le_trans (rawS_len _ _ _) (Nat.le_trans (numS_len _ _ _) (Nat.le_trans (numS_len _ _ _) (Nat.le_trans (numS_len _ _ _) (numS_len _ _ _))))
theorem vt_put {W : World} {B : Nat} {a b c d : Value} {t : List Value} (h : W.rangeAt B 0 (a :: b :: c :: d :: t)) (x : Value) :
  (W.setCells B 0 [x]).rangeAt B 0 (x :: b :: c :: d :: t) ∧ (W.setCells B 1 [x]).rangeAt B 0 (a :: x :: c :: d :: t) ∧ (W.setCells B 2 [x]).rangeAt B 0 (a :: b :: x :: d :: t) ∧ (W.setCells B 3 [x]).rangeAt B 0 (a :: b :: c :: x :: t) := by
 have k0 := range_set h 0 x
 have k1 := range_set h 1 x
 have k2 := range_set h 2 x
 have k3 := range_set h 3 x
 exact ⟨k0, k1, k2, k3⟩
theorem zeroVt : ∃ z : List Value, (∀ w : World, (zeroValue 43).run Tryz.prog w = .ok (.agg z.toArray) w) ∧ z.length = 36 ∧ ∃ t, t.length = 32 ∧ z = .int .i64 0 :: .int .i64 0 :: .int .i64 0 :: .int .i64 0 :: t := ⟨Vt.zero.cells, fun w => by kernel_rfl, by decide, _, by decide, rfl⟩
theorem range_tail4 {W : World} {B : Nat} {a b c d : Value} {t dv : List Value} (h : W.rangeAt B 0 (a :: b :: c :: d :: t)) (hT : W.there B 4 dv.length) : (W.setCells B 4 dv).rangeAt B 0 (a :: b :: c :: d :: dv) := by
 have h1 : W.rangeAt B 0 ([a, b, c, d] ++ t) := h
 have k1 := World.rangeAt_setCells_apart (range_left h1) B 4 dv (.inr (.inl (by simp)))
 have k2 := World.rangeAt_setCells_same W B 4 dv hT
 exact range_join (cs := [a, b, c, d]) k1 k2
set_option maxRecDepth 100000 in
set_option maxHeartbeats 1000000 in
theorem rvote_any (Q R : Nat) (z : Bool) (rest : List Int) (e : Int) (w : World) (h : St w R rest e) (hq : MrAt w Q R z) (thQ : w.there Q 0 2) (hl : rest.length ≤ 40000) : Calls Tryz.prog 109 #[.pointer (some ⟨Q, 0, none⟩)] w fun en w' => en = .returned (.agg (vtS rest e).1.cells.toArray) ∧ St w' R (vtS rest e).2.1 (vtS rest e).2.2 ∧ MrAt w' Q R (kdZ rest e 2 z) ∧ Kept w R Q w' ∧ w'.there Q 0 2 := by
 obtain ⟨zc, hzr, hzl, tz, htl, hzc⟩ := zeroVt
 have hRw := h.1.1
 have hQw := hq.lt
 obtain ⟨z1, hz1⟩ : ∃ x, kdZ rest e 2 z = x := ⟨_, rfl⟩
 have ck := fun w0 h0 m0 t0 => rkind_any Q R z rest e 2 w0 h0 m0 t0
 have l0 := numS_len rest e 2
 simp only [hz1] at ck ⊢
 clear hz1
 show Calls Tryz.prog 109 _ w fun en w' => en = .returned (.agg (Vt.cells ⟨(numS rest e 2).1, (numS (numS rest e 2).2.1 (numS rest e 2).2.2 1048576).1, (numS (numS (numS rest e 2).2.1 (numS rest e 2).2.2 1048576).2.1 (numS (numS rest e 2).2.1 (numS rest e 2).2.2 1048576).2.2 1099511627776).1, (numS (numS (numS (numS rest e 2).2.1 (numS rest e 2).2.2 1048576).2.1 (numS (numS rest e 2).2.1 (numS rest e 2).2.2 1048576).2.2 1099511627776).2.1 (numS (numS (numS rest e 2).2.1 (numS rest e 2).2.2 1048576).2.1 (numS (numS rest e 2).2.1 (numS rest e 2).2.2 1048576).2.2 1099511627776).2.2 1099511627776).1, padN 32 (rawS (numS (numS (numS (numS rest e 2).2.1 (numS rest e 2).2.2 1048576).2.1 (numS (numS rest e 2).2.1 (numS rest e 2).2.2 1048576).2.2 1099511627776).2.1 (numS (numS (numS rest e 2).2.1 (numS rest e 2).2.2 1048576).2.1 (numS (numS rest e 2).2.1 (numS rest e 2).2.2 1048576).2.2 1099511627776).2.2 1099511627776).2.1 (numS (numS (numS (numS rest e 2).2.1 (numS rest e 2).2.2 1048576).2.1 (numS (numS rest e 2).2.1 (numS rest e 2).2.2 1048576).2.2 1099511627776).2.1 (numS (numS (numS rest e 2).2.1 (numS rest e 2).2.2 1048576).2.1 (numS (numS rest e 2).2.1 (numS rest e 2).2.2 1048576).2.2 1099511627776).2.2 1099511627776).2.2 32).1⟩).toArray) ∧ St w' R (rawS (numS (numS (numS (numS rest e 2).2.1 (numS rest e 2).2.2 1048576).2.1 (numS (numS rest e 2).2.1 (numS rest e 2).2.2 1048576).2.2 1099511627776).2.1 (numS (numS (numS rest e 2).2.1 (numS rest e 2).2.2 1048576).2.1 (numS (numS rest e 2).2.1 (numS rest e 2).2.2 1048576).2.2 1099511627776).2.2 1099511627776).2.1 (numS (numS (numS (numS rest e 2).2.1 (numS rest e 2).2.2 1048576).2.1 (numS (numS rest e 2).2.1 (numS rest e 2).2.2 1048576).2.2 1099511627776).2.1 (numS (numS (numS rest e 2).2.1 (numS rest e 2).2.2 1048576).2.1 (numS (numS rest e 2).2.1 (numS rest e 2).2.2 1048576).2.2 1099511627776).2.2 1099511627776).2.2 32).2.1 (rawS (numS (numS (numS (numS rest e 2).2.1 (numS rest e 2).2.2 1048576).2.1 (numS (numS rest e 2).2.1 (numS rest e 2).2.2 1048576).2.2 1099511627776).2.1 (numS (numS (numS rest e 2).2.1 (numS rest e 2).2.2 1048576).2.1 (numS (numS rest e 2).2.1 (numS rest e 2).2.2 1048576).2.2 1099511627776).2.2 1099511627776).2.1 (numS (numS (numS (numS rest e 2).2.1 (numS rest e 2).2.2 1048576).2.1 (numS (numS rest e 2).2.1 (numS rest e 2).2.2 1048576).2.2 1099511627776).2.1 (numS (numS (numS rest e 2).2.1 (numS rest e 2).2.2 1048576).2.1 (numS (numS rest e 2).2.1 (numS rest e 2).2.2 1048576).2.2 1099511627776).2.2 1099511627776).2.2 32).2.2 ∧ MrAt w' Q R z1 ∧ Kept w R Q w' ∧ w'.there Q 0 2
 obtain ⟨v0, hv0⟩ : ∃ x, (numS rest e 2).1 = x := ⟨_, rfl⟩
 obtain ⟨r0, hr0⟩ : ∃ x, (numS rest e 2).2.1 = x := ⟨_, rfl⟩
 obtain ⟨e0, he0⟩ : ∃ x, (numS rest e 2).2.2 = x := ⟨_, rfl⟩
 simp only [hv0, hr0, he0] at ck l0 ⊢
 clear hv0 hr0 he0
 have l1 := numS_len r0 e0 1048576
 have c1 := fun w0 h0 => num_any R r0 e0 1048576 w0 h0
 obtain ⟨v1, hv1⟩ : ∃ x, (numS r0 e0 1048576).1 = x := ⟨_, rfl⟩
 obtain ⟨r1, hr1⟩ : ∃ x, (numS r0 e0 1048576).2.1 = x := ⟨_, rfl⟩
 obtain ⟨e1, he1⟩ : ∃ x, (numS r0 e0 1048576).2.2 = x := ⟨_, rfl⟩
 simp only [hv1, hr1, he1] at c1 l1 ⊢
 clear hv1 hr1 he1
 have l2 := numS_len r1 e1 1099511627776
 have c2 := fun w0 h0 => num_any R r1 e1 1099511627776 w0 h0
 obtain ⟨v2, hv2⟩ : ∃ x, (numS r1 e1 1099511627776).1 = x := ⟨_, rfl⟩
 obtain ⟨r2, hr2⟩ : ∃ x, (numS r1 e1 1099511627776).2.1 = x := ⟨_, rfl⟩
 obtain ⟨e2, he2⟩ : ∃ x, (numS r1 e1 1099511627776).2.2 = x := ⟨_, rfl⟩
 simp only [hv2, hr2, he2] at c2 l2 ⊢
 clear hv2 hr2 he2
 have l3 := numS_len r2 e2 1099511627776
 have c3 := fun w0 h0 => num_any R r2 e2 1099511627776 w0 h0
 obtain ⟨v3, hv3⟩ : ∃ x, (numS r2 e2 1099511627776).1 = x := ⟨_, rfl⟩
 obtain ⟨r3, hr3⟩ : ∃ x, (numS r2 e2 1099511627776).2.1 = x := ⟨_, rfl⟩
 obtain ⟨e3, he3⟩ : ∃ x, (numS r2 e2 1099511627776).2.2 = x := ⟨_, rfl⟩
 simp only [hv3, hr3, he3] at c3 l3 ⊢
 clear hv3 hr3 he3
 have c4 := fun w0 h0 m0 => rdigest_any Q R z1 r3 e3 w0 h0 m0 (by omega)
 have hdl : (v8 (padN 32 (rawS r3 e3 32).1)).length = 32 := by rw [v8_length, padN_len]
 have hd1 := v8_one (padN 32 (rawS r3 e3 32).1)
 show Calls Tryz.prog 109 _ w fun en w' => en = .returned (.agg (Value.int .i64 v0 :: .int .i64 v1 :: .int .i64 v2 :: .int .i64 v3 :: v8 (padN 32 (rawS r3 e3 32).1)).toArray) ∧ _
 obtain ⟨dv, hdv⟩ : ∃ t, v8 (padN 32 (rawS r3 e3 32).1) = t := ⟨_, rfl⟩
 obtain ⟨r4, hr4⟩ : ∃ x, (rawS r3 e3 32).2.1 = x := ⟨_, rfl⟩
 obtain ⟨e4, he4⟩ : ∃ x, (rawS r3 e3 32).2.2 = x := ⟨_, rfl⟩
 simp only [hdv, hr4, he4] at c4 hdl hd1 ⊢
 clear hdv hr4 he4
 have hpl : (Value.int .i64 v0 :: .int .i64 v1 :: .int .i64 v2 :: .int .i64 v3 :: dv).length = 36 := by simp only [List.length_cons, hdl]
 have hip : (Tryz.prog.info? 43).map (·.size) = some (Value.int .i64 v0 :: .int .i64 v1 :: .int .i64 v2 :: .int .i64 v3 :: dv).length := by rw [hpl]; exact iszVo
 have hp1 : ∀ v ∈ (Value.int .i64 v0 :: .int .i64 v1 :: .int .i64 v2 :: .int .i64 v3 :: dv), v.oneCell' = true := fun v hv => by
  simp only [List.mem_cons] at hv
  rcases hv with rfl | rfl | rfl | rfl | hv
  ·rfl
  ·rfl
  ·rfl
  ·rfl
  ·exact hd1 v hv
 obtain ⟨hB1, hr1, hs1⟩ := boxed_new w zc 43
 have ht1 := there_newN w zc.toArray 43 (n := 36) (by simp [hzl])
 obtain ⟨pc, hpc⟩ : ∃ p, Hid (Value.int .i64 v0 :: .int .i64 v1 :: .int .i64 v2 :: .int .i64 v3 :: dv = p) := ⟨_, hide rfl⟩
 rw [hpc.out] at hpl hip hp1 ⊢
 go_enter Tryz.func109, Tryz.ntmps109
 go_upto_region 0 with fail
 try simp only [Act.put]
 refine pl_begin ?_
 refine pl_run (d := some 2) (v := .pointer (some ⟨w.heap.size, 0, none⟩)) (w' := w.alloc (.cells zc.toArray 43)) (by rfl) (ex_alloc rfl (hzr _)) rfl ?_
 simp only [nz]
 refine pl_nil ?_
 obtain ⟨W1, hW1⟩ : ∃ W, w.alloc (.cells zc.toArray 43) = W := ⟨_, rfl⟩
 rw [hW1] at hB1 hr1 hs1 ht1 ⊢
 clear hW1 hr1
 obtain ⟨hB2, hr2, hs2⟩ := boxed_new W1 zc 43
 have ht2 := there_newN W1 zc.toArray 43 (n := 36) (by simp [hzl])
 go_upto_region 1 with fail
 try simp only [Act.put]
 refine pl_begin ?_
 refine pl_run (d := some 3) (v := .pointer (some ⟨W1.heap.size, 0, none⟩)) (w' := W1.alloc (.cells zc.toArray 43)) (by rfl) (ex_alloc rfl (hzr _)) rfl ?_
 simp only [nz]
 refine pl_nil ?_
 obtain ⟨W2, hW2⟩ : ∃ W, W1.alloc (.cells zc.toArray 43) = W := ⟨_, rfl⟩
 rw [hW2] at hB2 hr2 hs2 ht2 ⊢
 clear hW2
 rw [hzc] at hr2
 have hBW := hB1.trans (hB2.mono hB1.size)
 have V0 : VS w Q R w.heap.size W1.heap.size 36 _ z W2 := ⟨hr2, ht2, there_belowN ht1 hB2 hs1, (Kept.refl w R Q).below hBW, hq.below hBW, there_belowN thQ hBW hQw, Nat.lt_of_lt_of_le hs1 hB2.size, hs2, Nat.le_refl _, hB1.size, by omega, hRw, hQw⟩
 have st2 := h.below hBW
 clear hr2 ht2 ht1 hzr hzc hzl hB1 hB2 hBW hs2 h hq thQ
 go_upto_region 2 with fail
 try simp only [Act.put]
 refine pl_begin ?_
 refine pl_t 4 (?_) (by rfl) ?_ rfl ?_
 rotate_left
 ·go_simp
  try with_reducible rfl
 simp only [nz]
 refine pl_call (d := some 5) (by rfl) (by go_simp; first | done | exact ⟨rfl, rfl⟩ | with_reducible rfl) rfl ?_
 refine (ck W2 st2 V0.mr V0.qt).mono ?_
 rintro _ w3 ⟨rfl, st3, m3, k3, t3⟩
 refine ⟨_, rfl, ?_⟩
 simp only [nz]
 refine pl_t 6 (?_) (by rfl) ?_ rfl ?_
 rotate_left
 ·go_simp
  try with_reducible rfl
 simp only [nz]
 have V3 := V0.on k3 m3 t3
 have V4 := V3.set 0 [.int .i64 v0] (vt_put V3.row _).1
 have st4 := V3.st (o := 0) (vs := [.int .i64 v0]) (rest := []) st3
 refine pl_store (w' := w3.setCells W1.heap.size 0 [.int .i64 v0]) (by rfl) (ex_put1 (n := 36) rfl rfl rfl V3.box (by decide) iszI rfl rfl) rfl ?_
 refine pl_nil ?_
 obtain ⟨w4, hw4⟩ : ∃ W, w3.setCells W1.heap.size 0 [.int .i64 v0] = W := ⟨_, rfl⟩
 rw [hw4] at V4 st4 ⊢
 clear hw4 V3 st3 m3 k3 t3 V0 st2 ck
 go_upto_region 3 with fail
 have V8 := V4.drew
 have st8 := st4.below (Below.refl _ _).drew
 refine hs_begin (S := (fun W' => MrAt W' Q R z1)) 21 rfl (by kernel_rfl) ?_
 obtain ⟨w8, hw8⟩ : ∃ W, w4.drew = W := ⟨_, rfl⟩
 rw [hw8] at V8 st8 ⊢
 clear hw8 V4 st4
 have hS : (fun W' => MrAt W' Q R z1) w8 := V8.mr
 refine hs_t 0 7 (?_) rfl (by kernel_rfl) (by kernel_rfl) (by kernel_rfl) (by rfl) ?_ hS rfl ?_
 rotate_left
 ·intro w' hw
  go_simp
  try with_reducible rfl
 simp only [nz]
 refine hs_t 1 8 (?_) rfl (by kernel_rfl) (by kernel_rfl) (by kernel_rfl) (by rfl) ?_ hS rfl ?_
 rotate_left
 ·intro w' hw
  go_simp
  try with_reducible rfl
 simp only [nz]
 refine hs_t 2 9 (?_) rfl (by kernel_rfl) (by kernel_rfl) (by kernel_rfl) (by rfl) ?_ hS rfl ?_
 rotate_left
 ·intro w' hw
  go_simp
  try with_reducible rfl
 simp only [nz]
 refine hs_t 3 10 (.pointer (some ⟨R, 0, none⟩)) rfl (by kernel_rfl) (by kernel_rfl) (by kernel_rfl) (by rfl) (fun w' hw => pl_one rfl rfl hw.c0 Tryz.underlying98 rfl) hS rfl ?_
 simp only [nz]
 refine hs_t 5 12 (?_) rfl (by kernel_rfl) (by kernel_rfl) (by kernel_rfl) (by rfl) ?_ hS rfl ?_
 rotate_left
 ·intro w' hw
  go_simp
  try with_reducible rfl
 simp only [nz]
 refine hs_t 6 13 (?_) rfl (by kernel_rfl) (by kernel_rfl) (by kernel_rfl) (by rfl) ?_ hS rfl ?_
 rotate_left
 ·intro w' hw
  go_simp
  try with_reducible rfl
 simp only [nz]
 refine hs_t 7 14 (?_) rfl (by kernel_rfl) (by kernel_rfl) (by kernel_rfl) (by rfl) ?_ hS rfl ?_
 rotate_left
 ·intro w' hw
  go_simp
  try with_reducible rfl
 simp only [nz]
 refine hs_t 8 15 (.pointer (some ⟨R, 0, none⟩)) rfl (by kernel_rfl) (by kernel_rfl) (by kernel_rfl) (by rfl) (fun w' hw => pl_one rfl rfl hw.c0 Tryz.underlying98 rfl) hS rfl ?_
 simp only [nz]
 refine hs_t 10 17 (?_) rfl (by kernel_rfl) (by kernel_rfl) (by kernel_rfl) (by rfl) ?_ hS rfl ?_
 rotate_left
 ·intro w' hw
  go_simp
  try with_reducible rfl
 simp only [nz]
 refine hs_t 11 18 (?_) rfl (by kernel_rfl) (by kernel_rfl) (by kernel_rfl) (by rfl) ?_ hS rfl ?_
 rotate_left
 ·intro w' hw
  go_simp
  try with_reducible rfl
 simp only [nz]
 refine hs_t 12 19 (?_) rfl (by kernel_rfl) (by kernel_rfl) (by kernel_rfl) (by rfl) ?_ hS rfl ?_
 rotate_left
 ·intro w' hw
  go_simp
  try with_reducible rfl
 simp only [nz]
 refine hs_t 13 20 (.pointer (some ⟨R, 0, none⟩)) rfl (by kernel_rfl) (by kernel_rfl) (by kernel_rfl) (by rfl) (fun w' hw => pl_one rfl rfl hw.c0 Tryz.underlying98 rfl) hS rfl ?_
 simp only [nz]
 refine hs_call (i := 4) (d := some 11) rfl (by kernel_rfl) (by rfl) (by go_simp; first | done | exact ⟨rfl, rfl⟩ | with_reducible rfl) rfl ?_
 refine (c1 w8 st8).mono ?_
 rintro _ w5 ⟨rfl, st5, g5⟩
 have hS : (fun W' => MrAt W' Q R z1) w5 := hS.gb g5
 refine ⟨_, rfl, hS, ?_⟩
 simp only [nz]
 refine hs_t 15 22 (?_) rfl (by kernel_rfl) (by kernel_rfl) (by kernel_rfl) (by rfl) ?_ hS rfl ?_
 rotate_left
 ·intro w' hw
  go_simp
  try with_reducible rfl
 simp only [nz]
 refine hs_call (i := 9) (d := some 16) rfl (by kernel_rfl) (by rfl) (by go_simp; first | done | exact ⟨rfl, rfl⟩ | with_reducible rfl) rfl ?_
 refine (c2 w5 st5).mono ?_
 rintro _ w6 ⟨rfl, st6, g6⟩
 have hS : (fun W' => MrAt W' Q R z1) w6 := hS.gb g6
 refine ⟨_, rfl, hS, ?_⟩
 simp only [nz]
 refine hs_call (i := 14) (d := some 21) rfl (by kernel_rfl) (by rfl) (by go_simp; first | done | exact ⟨rfl, rfl⟩ | with_reducible rfl) rfl ?_
 refine (c3 w6 st6).mono ?_
 rintro _ w7 ⟨rfl, st7, g7⟩
 have hS : (fun W' => MrAt W' Q R z1) w7 := hS.gb g7
 refine ⟨_, rfl, hS, ?_⟩
 simp only [nz]
 have V7 := ((V8.gb g5).gb g6).gb g7
 have Va := V7.set 1 [.int .i64 v1] (vt_put V7.row _).2.1
 have sta := V7.st (o := 1) (vs := [.int .i64 v1]) (rest := []) st7
 refine hs_store (i := 16) (w' := w7.setCells W1.heap.size 1 [.int .i64 v1]) rfl (by kernel_rfl) (by rfl) (ex_put1 (n := 36) rfl rfl rfl V7.box (by decide) iszI rfl rfl) rfl Va.mr ?_
 obtain ⟨w_16, hw_16⟩ : ∃ W, w7.setCells W1.heap.size 1 [.int .i64 v1] = W := ⟨_, rfl⟩
 rw [hw_16] at Va sta ⊢
 clear hw_16
 have hS : (fun W' => MrAt W' Q R z1) w_16 := Va.mr
 refine hs_t 17 23 (?_) rfl (by kernel_rfl) (by kernel_rfl) (by kernel_rfl) (by rfl) ?_ hS rfl ?_
 rotate_left
 ·intro w' hw
  go_simp
  try with_reducible rfl
 simp only [nz]
 have Vb := Va.set 2 [.int .i64 v2] (vt_put Va.row _).2.2.1
 have stb := Va.st (o := 2) (vs := [.int .i64 v2]) (rest := []) sta
 refine hs_store (i := 18) (w' := w_16.setCells W1.heap.size 2 [.int .i64 v2]) rfl (by kernel_rfl) (by rfl) (ex_put1 (n := 36) rfl rfl rfl Va.box (by decide) iszI rfl rfl) rfl Vb.mr ?_
 obtain ⟨w_18, hw_18⟩ : ∃ W, w_16.setCells W1.heap.size 2 [.int .i64 v2] = W := ⟨_, rfl⟩
 rw [hw_18] at Vb stb ⊢
 clear hw_18
 have hS : (fun W' => MrAt W' Q R z1) w_18 := Vb.mr
 refine hs_t 19 24 (?_) rfl (by kernel_rfl) (by kernel_rfl) (by kernel_rfl) (by rfl) ?_ hS rfl ?_
 rotate_left
 ·intro w' hw
  go_simp
  try with_reducible rfl
 simp only [nz]
 have Vc := Vb.set 3 [.int .i64 v3] (vt_put Vb.row _).2.2.2
 have stc := Vb.st (o := 3) (vs := [.int .i64 v3]) (rest := []) stb
 refine hs_store (i := 20) (w' := w_18.setCells W1.heap.size 3 [.int .i64 v3]) rfl (by kernel_rfl) (by rfl) (ex_put1 (n := 36) rfl rfl rfl Vb.box (by decide) iszI rfl rfl) rfl Vc.mr ?_
 obtain ⟨w_20, hw_20⟩ : ∃ W, w_18.setCells W1.heap.size 3 [.int .i64 v3] = W := ⟨_, rfl⟩
 rw [hw_20] at Vc stc ⊢
 clear hw_20
 have hS : (fun W' => MrAt W' Q R z1) w_20 := Vc.mr
 refine hs_done (by kernel_rfl) ?_
 clear V7 Va Vb sta stb st5 st6 st7 g5 g6 g7 V8 st8 hS c1 c2 c3
 go_upto_region 4 with fail
 try simp only [Act.put]
 refine pl_begin ?_
 refine pl_t 25 (?_) (by rfl) ?_ rfl ?_
 rotate_left
 ·go_simp
  try with_reducible rfl
 simp only [nz]
 refine pl_call (d := some 26) (by rfl) (by go_simp; first | done | exact ⟨rfl, rfl⟩ | with_reducible rfl) rfl ?_
 refine (c4 w_20 stc Vc.mr).mono ?_
 rintro _ wd ⟨rfl, std, gd⟩
 refine ⟨_, rfl, ?_⟩
 simp only [nz]
 refine pl_t 27 (?_) (by rfl) ?_ rfl ?_
 rotate_left
 ·go_simp
  try with_reducible rfl
 simp only [nz]
 have Vd := Vc.gb gd
 have Ve := Vd.set 4 dv (range_tail4 Vd.row (by rw [hdl]; exact there_part1 Vd.box (by decide)))
 have ste := Vd.st (o := 4) (vs := dv) (rest := []) std
 refine pl_store (w' := wd.setCells W1.heap.size 4 dv) (by rfl) (ex_put (cs := dv.toArray) rfl rfl rfl (by simpa [hdl] using there_part1 Vd.box (o := 4) (m := 32) (by decide)) (by simpa [hdl] using iszD) (all_one hd1)) rfl ?_
 refine pl_nil ?_
 obtain ⟨we, hwe⟩ : ∃ W, wd.setCells W1.heap.size 4 dv = W := ⟨_, rfl⟩
 rw [hwe] at Ve ste ⊢
 clear hwe Vd std gd Vc stc c4
 have rpc := Ve.row
 rw [hpc.out] at rpc
 have hlow : Below w.heap.size we (we.setCells w.heap.size 0 pc) := below_sets (Nat.le_refl _) pc 0 _ (Below.refl _ we)
 go_upto_region 5 with fail
 try simp only [Act.put]
 refine pl_begin ?_
 refine pl_t 28 (.agg pc.toArray) (by rfl) (ex_mid rfl rfl rpc Tryz.underlying43 rfl hip) rfl ?_
 simp only [nz]
 refine pl_store (w' := we.setCells w.heap.size 0 pc) (by rfl) (ex_put (cs := pc.toArray) rfl rfl rfl (by simpa [hpl] using Ve.ans) (by simpa using hip) (all_one hp1)) rfl ?_
 refine pl_nil ?_
 have hrs := run_loadVar_mid (P := Tryz.prog) (we.setCells w.heap.size 0 pc) w.heap.size 0 43 pc _ (World.rangeAt_setCells_same we w.heap.size 0 pc (by rw [hpl]; exact Ve.ans)) Tryz.underlying43 rfl hip
 have HF : Hid (St (we.setCells w.heap.size 0 pc) R r4 e4 ∧ MrAt (we.setCells w.heap.size 0 pc) Q R z1 ∧ Kept w R Q (we.setCells w.heap.size 0 pc) ∧ (we.setCells w.heap.size 0 pc).there Q 0 2) := hide ⟨ste.belowN hlow hRw, Ve.mr.at (blk_sets (by omega)) (by rw [size_sets]; exact Nat.le_refl _), Ve.kept.newSets (Nat.le_refl _) _ _, World.there_setCells Ve.qt _ _ _⟩
 clear Ve ste hlow rpc
 go_wp2_with fail
 refine bodyPost_ret (v := .agg pc.toArray) ?_ rfl ?_
 ·simp [results, Tryz.results109, Act.put, asAddr, hrs]
 ·exact ⟨rfl, HF.out⟩
def zeros16 : List Int := List.replicate 16 0
def noReq : List Value := reqL 0 0 ⟨#[]⟩ zeros16
theorem litReq : (#[.int .i64 0, .int .i64 0, .string ⟨#[]⟩, .int .u8 0, .int .u8 0, .int .u8 0, .int .u8 0, .int .u8 0, .int .u8 0, .int .u8 0, .int .u8 0, .int .u8 0, .int .u8 0, .int .u8 0, .int .u8 0, .int .u8 0, .int .u8 0, .int .u8 0, .int .u8 0] : Array Value) = noReq.toArray := by rfl
theorem iszN : (Tryz.prog.info? 81).map (·.size) = some noReq.toArray.size := by kernel_rfl
theorem strOf_aux : ∀ (zs : List Int) (r : ByteArray), (zs.foldl (fun r n => r.push (UInt8.ofNat n.toNat)) r).size = r.size + zs.length
  | [], r => by simp
  | z :: zs, r => by rw [List.foldl_cons, strOf_aux zs, ByteArray.size_push, List.length_cons]; omega
theorem strOf_size (zs : List Int) : (strOf zs).size = zs.length := by unfold strOf; rw [strOf_aux]; simp
set_option maxRecDepth 100000 in
theorem none_any (w : World) : Calls Tryz.prog 176 #[] w fun e w' => e = .returned (batV true none 0 0) ∧ Below w.heap.size w w' := by
 have F := fresh_store w #[.bool false, .slice none 0 0] 39 [.bool true, .slice none 0 0] rfl
 have hN : (w.alloc (.cells #[.bool false, .slice none 0 0] 39)).there w.heap.size 0 2 := there_new w #[.bool false, .slice none 0 0] 39
 have hrs := run_loadVar_mid (P := Tryz.prog) _ w.heap.size 0 39 [.bool true, .slice none 0 0] _ F.1 Tryz.underlying39 rfl iszB
 have hB := F.2.1
 go_enter Tryz.func176, Tryz.ntmps176
 go_upto_region 1 with fail
 try simp only [Act.put]
 refine wp_region_list ?_
 refine wpList_step fun K hK => ?_
 go_simp
 refine hK _ _ ?_
 clear hK K
 refine wpList_store_mid rfl 39 _ _ rfl _ _ #[.bool true, .slice none 0 0] rfl rfl hN iszB (by simp [Value.oneCell']) ?_
 go_wp2
 exact bodyPost_ret (v := .agg #[.bool true, .slice none 0 0]) (by simp [results, Tryz.results176, asAddr, hrs, Act.put]) rfl ⟨rfl, hB⟩
structure GS (w : World) (R : Nat) (q : List Value) (W : World) : Prop where
 row : W.rangeAt (w.heap.size + 1) 0 q
 box : W.there (w.heap.size + 1) 0 19
 ans : W.there w.heap.size 0 19
 grown : w.grownBy W (some R)
 size : w.heap.size + 2 ≤ W.heap.size
theorem GS.gb {w W W' : World} {R : Nat} {q : List Value} (h : GS w R q W) (hR : R < w.heap.size) (hg : W.grownBy W' (some R)) : GS w R q W' := by
 have hs := h.size
 exact ⟨range_gbR h.row hg (by omega) (by omega), there_gbR h.box hg (by omega) (by omega), there_gbR h.ans hg (by omega) (by omega), gb_trans h.grown hg, Nat.le_trans hs hg.size⟩
theorem GS.set {w W : World} {R : Nat} {q : List Value} (h : GS w R q W) (i : Nat) (v : Value) : GS w R (q.set i v) (W.setCell ⟨w.heap.size + 1, i, none⟩ v) := by
 have hr := range_set h.row i v
 rw [Nat.zero_add] at hr
 exact ⟨hr, there_set h.box _ _, there_set h.ans _ _, gb_onR h.grown ((Below.refl w.heap.size W).setCell (p := ⟨w.heap.size + 1, i, none⟩) (by show w.heap.size ≤ w.heap.size + 1; omega) v) (Nat.le_refl _), by have := h.size; simp [World.setCell]; exact this⟩
theorem GS.drew {w W : World} {R : Nat} {q : List Value} (h : GS w R q W) : GS w R q W.drew :=
 ⟨(World.rangeAt_drew _ _ _ _).2 h.row, h.box, h.ans, gb_onR h.grown (Below.refl w.heap.size W).drew (Nat.le_refl _), h.size⟩
theorem GS.tag {w W : World} {R : Nat} {c n : Int} {s : ByteArray} {z t : List Int} (h : GS w R (reqL c n s z) W) (ht : t.length = 16) : GS w R (reqL c n s t) (W.setCells (w.heap.size + 1) 3 (v8 t)) := by
 have e1 : reqL c n s z = [.int .i64 c, .int .i64 n, .string s] ++ v8 z := rfl
 have e2 : reqL c n s t = [.int .i64 c, .int .i64 n, .string s] ++ v8 t := rfl
 have hr := h.row
 rw [e1] at hr
 have h1 := World.rangeAt_setCells_apart (range_left hr) (w.heap.size + 1) 3 (v8 t) (.inr (.inl (by simp)))
 have h2 := World.rangeAt_setCells_same W (w.heap.size + 1) 3 (v8 t) (by rw [v8_length, ht]; exact fun j hj => h.box (3 + j) (by omega) |> fun q => by simpa using q)
 refine ⟨by rw [e2]; exact range_join h1 h2, World.there_setCells h.box _ _ _, World.there_setCells h.ans _ _ _, gb_onR h.grown (below_sets (by omega) _ 3 _ (Below.refl w.heap.size W)) (Nat.le_refl _), by rw [size_sets]; exact h.size⟩
theorem rawS_16 (rest : List Int) (e : Int) : ((rawS rest e 16).1.length = 16 ∨ (rawS rest e 16).1 = []) ∧ ((rawS rest e 16).2.2 = 0 → (rawS rest e 16).1.length = 16) := by
 unfold rawS
 split
 ·rename_i he
  rw [if_neg (by decide)]
  split
  ·exact ⟨.inr rfl, fun h => by cases h⟩
  ·have : (rest.take (16 : Int).toNat).length = 16 := by rw [List.length_take]; show min 16 rest.length = 16; omega
   exact ⟨.inl this, fun _ => this⟩
 ·rename_i he
  exact ⟨.inr rfl, fun h => absurd h he⟩
theorem noReq_copy {w W : World} {R : Nat} {c n : Int} {s : ByteArray} {t : List Int} {a : Option Addr} {cap : Nat} (h : GS w R (reqL c n s zeros16) W) (hrow : RowAt W a t) (ht : t.length = 16 ∨ t = []) :
  ∃ W' z, (Builtin.copy_ #[59, 59] 3 #[.slice (some ⟨w.heap.size + 1, 3, none⟩) 16 16, .slice a t.length cap]).run Tryz.prog W = .ok (goInt t.length) W' ∧ GS w R (reqL c n s z) W' ∧ z.length = 16 ∧ (t.length = 16 → z = t) ∧ Below w.heap.size W W' ∧ W.grownBy W' (some (w.heap.size + 1)) := by
 rcases ht with ht | rfl
 ·rcases hrow.2.2 with rfl | ⟨b, off, rfl, hb, hr⟩
  ·cases ht
  ·refine ⟨W.setCells (w.heap.size + 1) 3 (v8 t), t, ?_, h.tag ht, ht, fun _ => rfl, below_sets (by omega) _ 3 _ (Below.refl _ _), gb_setsR _ _ _ _⟩
   have := run_copy_cells (P := Tryz.prog) W 59 59 3 5 (w.heap.size + 1) 3 16 16 ⟨b, off, none⟩ t.length cap (v8 t) Tryz.underlying59 isz8 (by rw [v8_length, ht]; rfl) (fun j v hv => by rw [Addr.add_mid]; exact hr j v hv) (fun j hj => by rw [v8_length] at hj; have := h.box (3 + j) (by omega); rw [Nat.zero_add] at this; exact this.1) (fun j hj => by rw [v8_length] at hj; have := h.box (3 + j) (by omega); rw [Nat.zero_add] at this; exact this.2) (v8_one _)
   rw [v8_length] at this
   exact this
 ·exact ⟨W, zeros16, run_copy_none (P := Tryz.prog) W 59 59 3 5 _ a 16 16 0 cap Tryz.underlying59 isz8 rfl, h, rfl, fun h => absurd h (by decide), Below.refl _ _, gb_refl _ _⟩
structure GotR where
 c : Int
 n : Int
 s : List Int
 t : List Int
 rest : List Int
 err : Int
def rgetR (rest : List Int) (e : Int) : GotR :=
 let x1 := numS rest e 8
 let x2 := numS x1.2.1 x1.2.2 1099511627776
 let x3 := textS x2.2.1 x2.2.2 64
 let x4 := rawS x3.2.1 x3.2.2 16
 ⟨x1.1, x2.1, x3.1, x4.1, x4.2.1, x4.2.2⟩
def rgetL (g : GotR) : List Value := if g.err = 0 then reqL g.c g.n (strOf g.s) g.t else noReq
set_option maxRecDepth 100000 in
set_option maxHeartbeats 4000000 in
theorem rget_any (R : Nat) (rest : List Int) (e : Int) (w : World) (h : St w R rest e) (hl : rest.length ≤ 40000) :
  Calls Tryz.prog 154 #[.pointer (some ⟨R, 0, none⟩)] w fun en w' => en = .returned (.agg (rgetL (rgetR rest e)).toArray) ∧ St w' R (rgetR rest e).rest (rgetR rest e).err ∧ w.grownBy w' (some R) := by
 have hRw := h.1.1
 obtain ⟨G, hG⟩ : ∃ G, Hid (rgetR rest e = G) := ⟨_, rfl⟩
 rw [hG.out]
 have k0 := hG.out
 unfold rgetR at k0
 simp only at k0
 clear hG
 have l1 := numS_len rest e 8
 have c1 := fun w0 h0 => num_any R rest e 8 w0 h0
 obtain ⟨v1, hv1⟩ : ∃ x, Hid ((numS rest e 8).1 = x) := ⟨_, rfl⟩
 obtain ⟨r1, hr1⟩ : ∃ x, Hid ((numS rest e 8).2.1 = x) := ⟨_, rfl⟩
 obtain ⟨e1, he1⟩ : ∃ x, Hid ((numS rest e 8).2.2 = x) := ⟨_, rfl⟩
 simp only [hv1.out, hr1.out, he1.out] at k0 l1 c1
 have l2 := numS_len r1 e1 1099511627776
 have c2 := fun w0 h0 => num_any R r1 e1 1099511627776 w0 h0
 obtain ⟨v2, hv2⟩ : ∃ x, Hid ((numS r1 e1 1099511627776).1 = x) := ⟨_, rfl⟩
 obtain ⟨r2, hr2⟩ : ∃ x, Hid ((numS r1 e1 1099511627776).2.1 = x) := ⟨_, rfl⟩
 obtain ⟨e2, he2⟩ : ∃ x, Hid ((numS r1 e1 1099511627776).2.2 = x) := ⟨_, rfl⟩
 simp only [hv2.out, hr2.out, he2.out] at k0 l2 c2
 have l3 := textS_len r2 e2 64
 have c3 := fun w0 h0 hp => text_any R r2 e2 64 w0 h0 hp
 obtain ⟨v3, hv3⟩ : ∃ x, Hid ((textS r2 e2 64).1 = x) := ⟨_, rfl⟩
 obtain ⟨r3, hr3⟩ : ∃ x, Hid ((textS r2 e2 64).2.1 = x) := ⟨_, rfl⟩
 obtain ⟨e3, he3⟩ : ∃ x, Hid ((textS r2 e2 64).2.2 = x) := ⟨_, rfl⟩
 simp only [hv3.out, hr3.out, he3.out] at k0 l3 c3
 have f4 := rawS_16 r3 e3
 have c4 := fun w0 h0 => raw_big R r3 e3 16 w0 h0 (by omega)
 obtain ⟨v4, hv4⟩ : ∃ x, Hid ((rawS r3 e3 16).1 = x) := ⟨_, rfl⟩
 obtain ⟨r4, hr4⟩ : ∃ x, Hid ((rawS r3 e3 16).2.1 = x) := ⟨_, rfl⟩
 obtain ⟨e4, he4⟩ : ∃ x, Hid ((rawS r3 e3 16).2.2 = x) := ⟨_, rfl⟩
 simp only [hv4.out, hr4.out, he4.out] at k0 f4 c4
 obtain ⟨hv4l, hv4e⟩ := f4
 have G1 : Hid (rgetL G = if e4 = 0 then reqL v1 v2 (strOf v3) v4 else noReq) := hide (by rw [← k0]; rfl)
 have G2 : Hid (G.rest = r4) := hide (by rw [← k0])
 have G3 : Hid (G.err = e4) := hide (by rw [← k0])
 clear k0 hv1 hr1 he1 hv2 hr2 he2 hv3 hr3 he3 hv4 hr4 he4 l1 l2 l3 hl
 generalize strOf v3 = sv at *
 have hb1 : Below w.heap.size w (w.alloc (.cells noReq.toArray 81)) := (Below.refl _ _).alloc (Nat.le_refl _) _
 have ht1 := there_new w noReq.toArray 81
 have hz1 : (w.alloc (.cells noReq.toArray 81)).heap.size = w.heap.size + 1 := World.size_alloc _ _
 have hb2 : Below (w.alloc (.cells noReq.toArray 81)).heap.size (w.alloc (.cells noReq.toArray 81)) ((w.alloc (.cells noReq.toArray 81)).alloc (.cells noReq.toArray 81)) := (Below.refl _ _).alloc (Nat.le_refl _) _
 have ht2 := there_new (w.alloc (.cells noReq.toArray 81)) noReq.toArray 81
 have hr2 := range_new (w.alloc (.cells noReq.toArray 81)) noReq.toArray 81
 have hz2 : ((w.alloc (.cells noReq.toArray 81)).alloc (.cells noReq.toArray 81)).heap.size = w.heap.size + 2 := by rw [World.size_alloc, hz1]
 rw [hz1] at ht2 hr2
 have hb12 : Below w.heap.size w ((w.alloc (.cells noReq.toArray 81)).alloc (.cells noReq.toArray 81)) := hb1.trans (hb2.mono hb1.size)
 have gs0 : GS w R noReq ((w.alloc (.cells noReq.toArray 81)).alloc (.cells noReq.toArray 81)) := ⟨by simpa using hr2, ht2, there_below ht1 hb2 (by omega), gb_below hb12 _, by omega⟩
 have s0 := h.below hb12
 clear hb1 ht1 hb2 ht2 hr2 hb12 hz1 hz2 h
 go_enter Tryz.func154, Tryz.ntmps154
 go_upto_region 2 with fail
 obtain ⟨w1, hw1⟩ : ∃ w1, (w.alloc (.cells noReq.toArray 81)).alloc (.cells noReq.toArray 81) = w1 := ⟨_, rfl⟩
 rw [hw1] at gs0 s0
 rw [litReq, hw1]
 clear hw1
 try simp only [Act.put]
 have hsz := gs0.size
 go_wp2_with fail
 refine (c1 w1 s0).mono ?_
 rintro en w2 ⟨rfl, s2, g2⟩
 have gs2 := gs0.gb hRw g2
 clear c1 gs0 s0 g2 hsz
 have hq : w2.cell? ⟨w.heap.size + 1, 0, none⟩ = some (.int .i64 0) := gs2.row 0 _ rfl
 have hf : w2.frozen? ⟨w.heap.size + 1, 0, none⟩ = false := (gs2.box 0 (by decide)).2
 have gs3 := gs2.set 0 (.int .i64 v1)
 have s3 := s2.gb (gb_set w2 (w.heap.size + 1) 0 (.int .i64 v1)) (by omega)
 go_wp2_with fail
 obtain ⟨w3, hw3⟩ : ∃ w3, w2.setCell ⟨w.heap.size + 1, 0, none⟩ (.int .i64 v1) = w3 := ⟨_, rfl⟩
 rw [hw3] at gs3 s3 ⊢
 clear hw3 gs2 s2 hq hf
 refine (c2 w3 s3).mono ?_
 rintro en w4 ⟨rfl, s4, g4⟩
 have gs4 := gs3.gb hRw g4
 clear c2 gs3 s3 g4
 have hq : w4.cell? ⟨w.heap.size + 1, 1, none⟩ = some (.int .i64 0) := gs4.row 1 _ rfl
 have hf : w4.frozen? ⟨w.heap.size + 1, 1, none⟩ = false := (gs4.box 1 (by decide)).2
 have gs5 := gs4.set 1 (.int .i64 v2)
 have s5 := s4.gb (gb_set w4 (w.heap.size + 1) 1 (.int .i64 v2)) (by omega)
 go_wp2_with fail
 obtain ⟨w5, hw5⟩ : ∃ w5, w4.setCell ⟨w.heap.size + 1, 1, none⟩ (.int .i64 v2) = w5 := ⟨_, rfl⟩
 rw [hw5] at gs5 s5 ⊢
 clear hw5 gs4 s4 hq hf
 refine (c3 w5 s5 s5.pos).mono ?_
 rintro en w6 ⟨rfl, s6, g6⟩
 have gs6 := gs5.gb hRw g6
 clear c3 gs5 s5 g6
 have hq : w6.cell? ⟨w.heap.size + 1, 2, none⟩ = some (.string ⟨#[]⟩) := gs6.row 2 _ rfl
 have hf : w6.frozen? ⟨w.heap.size + 1, 2, none⟩ = false := (gs6.box 2 (by decide)).2
 have gs7 : GS w R (reqL v1 v2 sv zeros16) (w6.setCell ⟨w.heap.size + 1, 2, none⟩ (.string sv)) := gs6.set 2 (.string sv)
 have s7 := s6.gb (gb_set w6 (w.heap.size + 1) 2 (.string sv)) (by omega)
 go_wp2_with fail
 obtain ⟨w7, hw7⟩ : ∃ w7, w6.setCell ⟨w.heap.size + 1, 2, none⟩ (.string sv) = w7 := ⟨_, rfl⟩
 rw [hw7] at gs7 s7 ⊢
 clear hw7 gs6 s6 hq hf
 obtain ⟨w8, hw8⟩ : ∃ w8, w7.drew = w8 := ⟨_, rfl⟩
 refine hs_begin (S := (fun _ => True)) 5 rfl (by kernel_rfl) ?_
 have gs8 : GS w R (reqL v1 v2 sv zeros16) w8 := by rw [← hw8]; exact gs7.drew
 have s8 : St w8 R r3 e3 := by rw [← hw8]; exact s7.below (Below.refl _ _).drew
 rw [hw8]
 clear hw8 gs7 s7
 have hS : (fun _ => True) w8 := trivial
 refine hs_t 0 13 (?_) rfl (by kernel_rfl) (by kernel_rfl) (by kernel_rfl) (by rfl) ?_ hS rfl ?_
 rotate_left
 ·intro w' hw
  go_simp
  try with_reducible rfl
 simp only [nz]
 refine hs_t 1 14 (.slice (some ⟨w.heap.size + 1, 3, none⟩) 16 16) rfl (by kernel_rfl) (by kernel_rfl) (by kernel_rfl) (by rfl) (fun w' hw => by have hsl := slice_all (P := Tryz.prog) Tryz.underlying23 isz8 (w.heap.size + 1) 3 (by decide) w'; go_simp) hS rfl ?_
 simp only [nz]
 refine hs_t 2 15 (?_) rfl (by kernel_rfl) (by kernel_rfl) (by kernel_rfl) (by rfl) ?_ hS rfl ?_
 rotate_left
 ·intro w' hw
  go_simp
  try with_reducible rfl
 simp only [nz]
 refine hs_call (i := 3) (d := some 16) rfl (by kernel_rfl) (by rfl) (by go_simp; first | done | exact ⟨rfl, rfl⟩ | with_reducible rfl) rfl ?_
 refine (c4 w8 s8).mono ?_
 rintro e' w9 ⟨v9, rfl, m9, s9, g9⟩
 have hS : (fun _ => True) w9 := trivial
 refine ⟨_, rfl, hS, ?_⟩
 simp only [nz]
 have gs9 := gs8.gb hRw g9
 obtain ⟨a9, cap9, rfl, _, _, row9⟩ := m9.rowAt (by unfold maxLen; rcases hv4l with q | q <;> (first | omega | (rw [q]; decide)))
 clear c4 gs8 s8 g9 m9
 obtain ⟨w10, z, hcp, gs10, hz16, hzt, hb10, hg10⟩ := noReq_copy (cap := cap9) gs9 row9 hv4l
 have s10 := s9.gb hg10 (by omega)
 have hS : (fun _ => True) w10 := trivial
 refine hs_run (i := 4) (d := some 17) (v := goInt v4.length) (w' := w10) rfl (by kernel_rfl) (by rfl) (exec_copy rfl rfl rfl hcp) rfl hS ?_
 simp only [nz]
 refine hs_done (by kernel_rfl) ?_
 clear hcp gs9 s9 hb10 hg10 row9
 have ce := err_made R e4 w10 s10.1
 go_wp2_with fail
 refine ce.mono ?_
 rintro en w11 ⟨rfl, hx⟩
 obtain rfl := hx
 clear ce
 have hi := iszN
 have ho := all_oneCell_toArray (reqL_one 0 0 ⟨#[]⟩ zeros16)
 have hszz := gs10.size
 by_cases he : e4 = 0
 ·subst he
  have hzv := hzt (hv4e rfl)
  subst hzv
  have E1 : Hid (rgetL G = reqL v1 v2 sv z) := hide (by rw [G1.out, if_pos rfl])
  have hiq : (Tryz.prog.info? 81).map (·.size) = some (reqL v1 v2 sv z).length := by rw [reqL_length _ _ _ _ hz16]; exact iszR
  have hoq := all_oneCell_toArray (reqL_one v1 v2 sv z)
  have hiq' : (Tryz.prog.info? 81).map (·.size) = some (reqL v1 v2 sv z).toArray.size := by rw [List.size_toArray]; exact hiq
  obtain ⟨q, hq⟩ : ∃ q, Hid (reqL v1 v2 sv z = q) := ⟨_, rfl⟩
  have hql : q.length = 19 := by rw [← hq.out]; exact reqL_length _ _ _ _ hz16
  rw [hq.out] at E1 hiq hoq hiq'
  have hrow : w11.rangeAt (w.heap.size + 1) 0 q := by rw [← hq.out]; exact gs10.row
  have hans : w11.there w.heap.size 0 q.toArray.size := by have := gs10.ans; rw [← hql] at this; exact this
  clear hv4l hv4e hzt
  have hrs := run_loadVar_mid (P := Tryz.prog) (w11.setCells w.heap.size 0 q) w.heap.size 0 81 q _ (World.rangeAt_setCells_same w11 w.heap.size 0 q (by have := hans; simpa using this)) Tryz.underlying81 rfl hiq
  have gf := gb_onR gs10.grown (below_sets (B := w.heap.size) (b := w.heap.size) (Nat.le_refl _) q 0 _ (Below.refl _ w11)) (Nat.le_refl _)
  have sf := s10.gb (gb_setsR w11 w.heap.size q 0) hRw
  clear gs10 s10
  go_wp2_with (first | refine wpList_load_mid (op := ⟨some 22, .load 81 (.tmp 3), _, _, _, none⟩) rfl 81 _ rfl _ _ rfl q _ hrow Tryz.underlying81 rfl hiq ?_ | refine wpList_store_mid (op := ⟨none, .store 81 (.tmp 2) (.tmp 22), _, _, _, none⟩) rfl 81 _ _ rfl _ _ q.toArray rfl rfl hans hiq' hoq ?_)
  refine bodyPost_ret (v := .agg q.toArray) ?_ rfl ?_
  ·simp [results, Tryz.results154, Act.put, asAddr, hrs]
  ·exact ⟨by rw [E1.out], by rw [G2.out, G3.out]; exact sf, gf⟩
 ·have E1 : Hid (rgetL G = noReq) := hide (by rw [G1.out, if_neg he])
  have hnl : noReq.length = 19 := rfl
  have hans : w11.there w.heap.size 0 noReq.toArray.size := gs10.ans
  have hi' : (Tryz.prog.info? 81).map (·.size) = some noReq.length := by simpa using hi
  have hlit := litReq
  obtain ⟨q, hq⟩ : ∃ q, Hid (noReq = q) := ⟨_, rfl⟩
  have ho : (noReq.toArray.all fun x => x.oneCell') = true := ho
  rw [hq.out] at E1 hi ho hnl hans hi' hlit
  have hrs := run_loadVar_mid (P := Tryz.prog) (w11.setCells w.heap.size 0 q) w.heap.size 0 81 q _ (World.rangeAt_setCells_same w11 w.heap.size 0 q (by have := hans; simpa using this)) Tryz.underlying81 rfl hi'
  have gf := gb_onR gs10.grown (below_sets (B := w.heap.size) (b := w.heap.size) (Nat.le_refl _) q 0 _ (Below.refl _ w11)) (Nat.le_refl _)
  have sf := s10.gb (gb_setsR w11 w.heap.size q 0) hRw
  clear gs10 s10 hv4l hv4e hzt
  go_wp2_with (refine wpList_store_mid (op := ⟨none, .store 81 (.tmp 2) (.tmp 21), _, _, _, none⟩) rfl 81 _ _ rfl _ _ q.toArray rfl (by rw [← hlit]; rfl) hans hi ho ?_)
  refine bodyPost_ret (v := .agg q.toArray) ?_ rfl ?_
  ·simp [results, Tryz.results154, Act.put, asAddr, hrs]
  ·exact ⟨by rw [E1.out], by rw [G2.out, G3.out]; exact sf, gf⟩
def noRq : BRq := ⟨0, 0, ⟨#[]⟩, zeros16⟩
def rqOf (g : GotR) : BRq := if g.err = 0 then ⟨g.c, g.n, strOf g.s, g.t⟩ else noRq
theorem rqOf_cells (g : GotR) : rgetL g = (rqOf g).cells := by
 unfold rgetL rqOf
 split
 ·rfl
 ·rfl
def getRs : Nat → List Int → Int → List BRq × List Int × Int
  | 0, rest, e => ([], rest, e)
  | k + 1, rest, e => ((getRs k rest e).1 ++ [rqOf (rgetR (getRs k rest e).2.1 (getRs k rest e).2.2)], (rgetR (getRs k rest e).2.1 (getRs k rest e).2.2).rest, (rgetR (getRs k rest e).2.1 (getRs k rest e).2.2).err)
structure GotB where
 q : Bool
 rs : List BRq
 rest : List Int
 err : Int
def getB (rest : List Int) (e : Int) : GotB :=
 if (numS rest e 5).1 = 0 then ⟨decide ((numS rest e 5).2.2 = 0), [], (numS rest e 5).2.1, (numS rest e 5).2.2⟩
 else ⟨false, if (getRs ((numS rest e 5).1 - 1).toNat (numS rest e 5).2.1 (numS rest e 5).2.2).2.2 = 0 then (getRs ((numS rest e 5).1 - 1).toNat (numS rest e 5).2.1 (numS rest e 5).2.2).1 else [],
  (getRs ((numS rest e 5).1 - 1).toNat (numS rest e 5).2.1 (numS rest e 5).2.2).2.1, (getRs ((numS rest e 5).1 - 1).toNat (numS rest e 5).2.1 (numS rest e 5).2.2).2.2⟩
theorem getRs_length (k : Nat) (rest : List Int) (e : Int) : (getRs k rest e).1.length = k := by
  induction k with
  | zero => rfl
  | succ k ih => simp [getRs, ih]
def Bs (zs : List Int) : Prop := ∀ z ∈ zs, 0 ≤ z ∧ z < 256
theorem numS_sub (rest : List Int) (e most : Int) : ∃ k, (numS rest e most).2.1 = rest.drop k := by
 unfold numS
 split
 ·split
  ·split
   ·exact ⟨0, rfl⟩
   ·exact ⟨_, rfl⟩
  ·exact ⟨0, rfl⟩
 ·exact ⟨0, rfl⟩
theorem textS_sub (rest : List Int) (e most : Int) : ∃ k, (textS rest e most).2.1 = rest.drop k := by
 obtain ⟨k, hk⟩ := numS_sub rest e 9223372036854775807
 unfold textS
 split
 ·split
  ·exact ⟨0, rfl⟩
  ·split
   ·exact ⟨0, rfl⟩
   ·rw [hk]; exact ⟨k + (numS rest e 9223372036854775807).1.toNat, by rw [List.drop_drop]⟩
 ·exact ⟨0, rfl⟩
theorem rawS_sub (rest : List Int) (e n : Int) : ∃ k, (rawS rest e n).2.1 = rest.drop k := by
 unfold rawS
 split
 ·split
  ·exact ⟨0, rfl⟩
  ·split
   ·exact ⟨0, rfl⟩
   ·exact ⟨_, rfl⟩
 ·exact ⟨0, rfl⟩
theorem rgetR_sub (rest : List Int) (e : Int) : ∃ k, (rgetR rest e).rest = rest.drop k := by
 unfold rgetR
 obtain ⟨k1, h1⟩ := numS_sub rest e 8
 obtain ⟨k2, h2⟩ := numS_sub (numS rest e 8).2.1 (numS rest e 8).2.2 1099511627776
 obtain ⟨k3, h3⟩ := textS_sub (numS (numS rest e 8).2.1 (numS rest e 8).2.2 1099511627776).2.1 (numS (numS rest e 8).2.1 (numS rest e 8).2.2 1099511627776).2.2 64
 obtain ⟨k4, h4⟩ := rawS_sub (textS (numS (numS rest e 8).2.1 (numS rest e 8).2.2 1099511627776).2.1 (numS (numS rest e 8).2.1 (numS rest e 8).2.2 1099511627776).2.2 64).2.1 (textS (numS (numS rest e 8).2.1 (numS rest e 8).2.2 1099511627776).2.1 (numS (numS rest e 8).2.1 (numS rest e 8).2.2 1099511627776).2.2 64).2.2 16
 refine ⟨k1 + (k2 + (k3 + k4)), ?_⟩
 show (rawS _ _ 16).2.1 = _
 rw [h4, h3, h2, h1, List.drop_drop, List.drop_drop, List.drop_drop]
theorem Bs.sub {zs : List Int} (h : Bs zs) (k : Nat) : Bs (zs.drop k) := fun z hz => h z (List.mem_of_mem_drop hz)
theorem Bs.subT {zs : List Int} (h : Bs zs) (k : Nat) : Bs (zs.take k) := fun z hz => h z (List.mem_of_mem_take hz)
theorem numS_bd {rest : List Int} {e most : Int} (hb : e = 0 → Bs rest) (h0 : 0 ≤ most) : 0 ≤ (numS rest e most).1 ∧ (numS rest e most).1 ≤ most := by
 unfold numS
 split
 ·rename_i he
  split
  ·split
   ·exact ⟨by simp, h0⟩
   ·rename_i h1
    exact ⟨numR_nonneg rest (hb he), by show (numR rest).1 ≤ most; omega⟩
  ·exact ⟨by simp, h0⟩
 ·exact ⟨by simp, h0⟩
theorem numS_err {rest : List Int} {e most : Int} (h : (numS rest e most).2.2 = 0) : e = 0 := by
 unfold numS at h
 split at h
 ·assumption
 ·rename_i h0; exact absurd h h0
theorem numS_zero {rest : List Int} {e most : Int} (h : (numS rest e most).2.2 ≠ 0) : (numS rest e most).1 = 0 := by
 unfold numS at h ⊢
 split
 ·split
  ·split
   ·rfl
   ·rename_i h1 h2 h3; rw [if_pos h1, if_pos h2, if_neg h3] at h; exact absurd rfl h
  ·rfl
 ·rfl
theorem textS_err {rest : List Int} {e most : Int} (h : (textS rest e most).2.2 = 0) : e = 0 := by
 unfold textS at h
 split at h
 ·rename_i h0; exact numS_err h0
 ·rename_i h0; exact absurd h h0
theorem rawS_err {rest : List Int} {e n : Int} (h : (rawS rest e n).2.2 = 0) : e = 0 := by
 unfold rawS at h
 split at h
 ·assumption
 ·rename_i h0; exact absurd h h0
theorem textS_s {rest : List Int} {e most : Int} (h0 : 0 ≤ most) : ((textS rest e most).1.length : Int) ≤ most := by
 unfold textS
 split
 ·split
  ·simpa using h0
  ·rename_i h1
   split
   ·simpa using h0
   ·show (((numS rest e 9223372036854775807).2.1.take (numS rest e 9223372036854775807).1.toNat).length : Int) ≤ most
    rw [List.length_take]
    omega
 ·simpa using h0
theorem rawS_t {rest : List Int} {e n : Int} (hb : e = 0 → Bs rest) : Bs (rawS rest e n).1 := by
 unfold rawS
 split
 ·rename_i he
  split
  ·intro z hz; simp at hz
  ·split
   ·intro z hz; simp at hz
   ·exact (hb he).subT _
 ·intro z hz; simp at hz
theorem noRq_ok : noRq.ok := ⟨rfl, by intro z hz; simp [noRq, zeros16] at hz; omega, by simp [noRq, maxLen, ByteArray.size], by decide, by decide, by decide, by decide⟩
theorem rqOf_ok {rest : List Int} {e : Int} (hb : e = 0 → Bs rest) : (rqOf (rgetR rest e)).ok := by
 unfold rqOf
 split
 ·rename_i he
  have e4 := rawS_err (show (rawS (textS (numS (numS rest e 8).2.1 (numS rest e 8).2.2 1099511627776).2.1 (numS (numS rest e 8).2.1 (numS rest e 8).2.2 1099511627776).2.2 64).2.1 (textS (numS (numS rest e 8).2.1 (numS rest e 8).2.2 1099511627776).2.1 (numS (numS rest e 8).2.1 (numS rest e 8).2.2 1099511627776).2.2 64).2.2 16).2.2 = 0 from he)
  have e3 := textS_err e4
  have e2 := numS_err e3
  have e1 := numS_err e2
  have b0 := hb e1
  obtain ⟨k1, s1⟩ := numS_sub rest e 8
  have b1 : Bs (numS rest e 8).2.1 := by rw [s1]; exact b0.sub _
  obtain ⟨k2, s2⟩ := numS_sub (numS rest e 8).2.1 (numS rest e 8).2.2 1099511627776
  have b2 : Bs (numS (numS rest e 8).2.1 (numS rest e 8).2.2 1099511627776).2.1 := by rw [s2]; exact b1.sub _
  obtain ⟨k3, s3⟩ := textS_sub (numS (numS rest e 8).2.1 (numS rest e 8).2.2 1099511627776).2.1 (numS (numS rest e 8).2.1 (numS rest e 8).2.2 1099511627776).2.2 64
  have c1 := numS_bd (most := 8) hb (by omega)
  have c2 := numS_bd (rest := (numS rest e 8).2.1) (e := (numS rest e 8).2.2) (most := 1099511627776) (fun _ => b1) (by omega)
  have c3 := textS_s (rest := (numS (numS rest e 8).2.1 (numS rest e 8).2.2 1099511627776).2.1) (e := (numS (numS rest e 8).2.1 (numS rest e 8).2.2 1099511627776).2.2) (most := 64) (by omega)
  refine ⟨(rawS_16 _ _).2 he, rawS_t (fun _ => by rw [s3]; exact b2.sub _), ?_, ?_, ?_, ?_, ?_⟩
  ·show (strOf _).size ≤ maxLen
   rw [strOf_size]
   unfold maxLen
   have c3' : ((rgetR rest e).s.length : Int) ≤ 64 := c3
   omega
  ·show _ ≤ (rgetR rest e).c
   have : 0 ≤ (rgetR rest e).c := c1.1
   omega
  ·show (rgetR rest e).c ≤ _
   have : (rgetR rest e).c ≤ 8 := c1.2
   omega
  ·show _ ≤ (rgetR rest e).n
   have : 0 ≤ (rgetR rest e).n := c2.1
   omega
  ·show (rgetR rest e).n ≤ _
   have : (rgetR rest e).n ≤ 1099511627776 := c2.2
   omega
 ·exact noRq_ok
theorem rgetR_err {rest : List Int} {e : Int} (h : (rgetR rest e).err = 0) : e = 0 := numS_err (numS_err (textS_err (rawS_err h)))
theorem getRs_sub (k : Nat) (rest : List Int) (e : Int) : (∃ j, (getRs k rest e).2.1 = rest.drop j) ∧ ((getRs k rest e).2.2 = 0 → e = 0) := by
  induction k with
  | zero => exact ⟨⟨0, rfl⟩, id⟩
  | succ k ih =>
    obtain ⟨⟨j, hj⟩, h2⟩ := ih
    obtain ⟨i, hi⟩ := rgetR_sub (getRs k rest e).2.1 (getRs k rest e).2.2
    refine ⟨⟨j + i, ?_⟩, fun h => h2 (rgetR_err h)⟩
    show (rgetR (getRs k rest e).2.1 (getRs k rest e).2.2).rest = _
    rw [hi, hj, List.drop_drop]
theorem getRs_ok {rest : List Int} {e : Int} (hb : e = 0 → Bs rest) (k : Nat) : ∀ r ∈ (getRs k rest e).1, r.ok := by
  induction k with
  | zero => intro r hr; simp [getRs] at hr
  | succ k ih =>
    intro r hr
    rcases List.mem_append.1 (show r ∈ (getRs k rest e).1 ++ [rqOf (rgetR (getRs k rest e).2.1 (getRs k rest e).2.2)] from hr) with hr | hr
    · exact ih r hr
    · obtain rfl := List.mem_singleton.1 hr
      obtain ⟨⟨j, hj⟩, h2⟩ := getRs_sub k rest e
      exact rqOf_ok (fun h0 => by rw [hj]; exact (hb (h2 h0)).sub _)
theorem getRs_le (k : Nat) (rest : List Int) (e : Int) : (getRs k rest e).2.1.length ≤ rest.length := by
 obtain ⟨⟨j, hj⟩, _⟩ := getRs_sub k rest e
 rw [hj, List.length_drop]; omega
theorem infoR : (Tryz.prog.info? 81).map (fun i => (i.zero, i.size, i.bytes)) = some (some (.agg noReq.toArray), 19, 48) := by kernel_rfl
theorem own_reqs {w : World} {B : Nat} {v : Value} {rs : List BRq} (h : w.ownsRow B 81 19 v rs.length (flatR rs)) (hok : ∀ r ∈ rs, r.ok) (hm : rs.length ≤ maxLen) :
  ∃ a cap, v = .slice a rs.length cap ∧ rs.length ≤ cap ∧ cap ≤ maxLen ∧ ReqsAt w a rs ∧ ∀ x, a = some x → B ≤ x.block := by
 rcases h.2 with ⟨rfl, h0⟩ | ⟨g, cap, cur, rfl, hb, hg, hn, hcm, hcs, ht⟩
 ·have : rs = [] := List.eq_nil_of_length_eq_zero h0
  subst this
  exact ⟨none, 0, rfl, by simp, by unfold maxLen; omega, ReqsAt.none, fun x hx => by cases hx⟩
 ·refine ⟨_, cap, rfl, hn, hcm, ⟨hm, hok, Or.inr ⟨g, 0, rfl, (Array.getElem?_eq_some_iff.1 hg).1, fun j u hu => ?_⟩⟩, fun x hx => by cases hx; exact hb⟩
  have := h.cells (g := g) rfl j u hu
  rwa [Addr.add_mid] at this
theorem take_set_one {α : Type} (l : List α) (k : Nat) (a : α) (hk : k < l.length) : (l.set k a).take (k + 1) = l.take k ++ [a] := by
 apply List.ext_getElem?
 intro i
 rcases Nat.lt_trichotomy i k with h | h | h
 ·rw [List.getElem?_take_of_lt (by omega), List.getElem?_set_ne (by omega), List.getElem?_append_left (by rw [List.length_take]; omega), List.getElem?_take_of_lt h]
 ·subst h
  rw [List.getElem?_take_of_lt (by omega), List.getElem?_set_self hk, List.getElem?_append_right (by rw [List.length_take]; omega), List.length_take, Nat.min_eq_left (by omega), Nat.sub_self]
  rfl
 ·rw [List.getElem?_eq_none (by rw [List.length_take]; omega), List.getElem?_eq_none (by rw [List.length_append, List.length_take]; simp; omega)]
theorem fold_sets : ∀ (u : List Value) (k : Nat) (arr : Array Value), k + u.length = arr.size → List.foldl (fun (cs : Array Value) (x : Value × Nat) => cs.setIfInBounds x.snd x.fst) arr (u.zipIdx k) = (arr.toList.take k ++ u).toArray
  | [], k, arr, h => by
    simp only [List.length_nil, Nat.add_zero] at h
    rw [List.take_of_length_le (by simp [h])]
    simp
  | a :: u, k, arr, h => by
    simp only [List.length_cons] at h
    rw [List.zipIdx_cons, List.foldl_cons, fold_sets u (k + 1) _ (by simp; omega)]
    congr 1
    show List.take (k + 1) (arr.setIfInBounds k a).toList ++ u = _
    rw [Array.toList_setIfInBounds, take_set_one _ _ _ (by simp; omega), List.append_assoc]
    rfl
theorem fold_u (arr : Array Value) (u : List Value) (h : u.length = arr.size) : List.foldl (fun (cs : Array Value) (x : Value × Nat) => cs.setIfInBounds x.snd x.fst) arr u.zipIdx = u.toArray := by
 have := fold_sets u 0 arr (by omega)
 simpa using this
theorem ref_cell {w W : World} {X R o : Nat} (hg : w.grownBy W (some R)) (hX : X < w.heap.size) (hne : X ≠ R) : W.cell? ⟨X, o, none⟩ = w.cell? ⟨X, o, none⟩ :=
 (@cell_block w W X o (hg.block X hX (by intro q; injection q with q; exact hne q))).1
set_option maxRecDepth 100000 in
set_option maxHeartbeats 2000000 in
theorem get1_any (X R : Nat) (rest : List Int) (e : Int) (w : World) (hc : w.cell? ⟨X, 0, none⟩ = some (.pointer (some ⟨R, 0, none⟩))) (hX : X < w.heap.size) (h : St w R rest e) (hl : rest.length ≤ 40000) (hok : (rqOf (rgetR rest e)).ok) :
  Calls Tryz.prog 153 #[.pointer (some ⟨X, 0, none⟩)] w fun en w' => en = .returned (.agg (rqOf (rgetR rest e)).cells.toArray) ∧ St w' R (rgetR rest e).rest (rgetR rest e).err ∧ w.grownBy w' (some R) := by
 have hRw : R < w.heap.size := h.1.1
 have cg := fun w0 h0 => rget_any R rest e w0 h0 hl
 obtain ⟨G, hG⟩ : ∃ G, Hid (rgetR rest e = G) := ⟨_, hide rfl⟩
 simp only [rqOf_cells, hG.out] at cg
 rw [hG.out] at hok ⊢
 clear hG
 obtain ⟨r, hr⟩ : ∃ r, Hid (rqOf G = r) := ⟨_, hide rfl⟩
 simp only [hr.out] at cg
 rw [hr.out] at hok ⊢
 clear hr
 have hiq := hok.isz
 have hiA := hok.iszA
 have hql := hok.length
 have h1c := all_oneCell_toArray r.one
 have hN := there_new w #[.int .i64 0, .int .i64 0, .string ⟨#[]⟩, .int .u8 0, .int .u8 0, .int .u8 0, .int .u8 0, .int .u8 0, .int .u8 0, .int .u8 0, .int .u8 0, .int .u8 0, .int .u8 0, .int .u8 0, .int .u8 0, .int .u8 0, .int .u8 0, .int .u8 0, .int .u8 0] 81
 have hB1 : Below w.heap.size w (w.alloc (.cells #[.int .i64 0, .int .i64 0, .string ⟨#[]⟩, .int .u8 0, .int .u8 0, .int .u8 0, .int .u8 0, .int .u8 0, .int .u8 0, .int .u8 0, .int .u8 0, .int .u8 0, .int .u8 0, .int .u8 0, .int .u8 0, .int .u8 0, .int .u8 0, .int .u8 0, .int .u8 0] 81)) := (Below.refl _ _).alloc (Nat.le_refl _) _
 have hg1 : w.grownBy (w.alloc (.cells #[.int .i64 0, .int .i64 0, .string ⟨#[]⟩, .int .u8 0, .int .u8 0, .int .u8 0, .int .u8 0, .int .u8 0, .int .u8 0, .int .u8 0, .int .u8 0, .int .u8 0, .int .u8 0, .int .u8 0, .int .u8 0, .int .u8 0, .int .u8 0, .int .u8 0, .int .u8 0] 81)) (some R) := World.grownBy_alloc w _ _
 have hs1 : w.heap.size < (w.alloc (.cells #[.int .i64 0, .int .i64 0, .string ⟨#[]⟩, .int .u8 0, .int .u8 0, .int .u8 0, .int .u8 0, .int .u8 0, .int .u8 0, .int .u8 0, .int .u8 0, .int .u8 0, .int .u8 0, .int .u8 0, .int .u8 0, .int .u8 0, .int .u8 0, .int .u8 0, .int .u8 0] 81)).heap.size := by simp
 have hc1 := (hB1.cell (p := ⟨X, 0, none⟩) hX).trans hc
 have h1 := h.below hB1
 obtain ⟨u, hu⟩ : ∃ u, Hid (r.cells = u) := ⟨_, hide rfl⟩
 rw [hu.out] at hiq hiA hql h1c ⊢
 simp only [hu.out] at cg
 clear hu hok
 go_enter Tryz.func153, Tryz.ntmps153
 go_upto_region 1 with fail
 go_name_world w1 hw1
 rw [hw1] at hN hB1 hg1 hs1 hc1 h1
 clear hw1
 have hN : w1.there w.heap.size 0 19 := hN
 obtain ⟨D, hD⟩ : ∃ D, Hid (w.heap.size = D) := ⟨_, hide rfl⟩
 have hDR : D ≠ R := by rw [← hD.out]; omega
 have hRD : R < D := by rw [← hD.out]; exact hRw
 have hDw : w.heap.size ≤ D := by rw [← hD.out]; omega
 rw [hD.out] at hN hs1 ⊢
 go_wp2_with fail
 refine (cg w1 h1).mono ?_
 rintro en w2 ⟨rfl, h2, hg2⟩
 have hN2 := there_gbR hN hg2 hs1 hDR
 have hT2 : w2.there D 0 u.toArray.size := by
  have e : u.toArray.size = 19 := by rw [List.size_toArray, hql]
  rw [e]; exact hN2
 have hRr := World.rangeAt_setCells_same w2 D 0 u (by rw [hql]; exact hN2)
 have hg3 : w2.grownBy (w2.setCells D 0 u) (some D) := gb_setsR w2 D u 0
 have h3 := h2.gb hg3 hRD
 have hgw := gb_onR (gb_trans hg1 hg2) (below_sets hDw u 0 w2 (Below.refl w.heap.size w2)) (Nat.le_refl _)
 have hrs := run_loadVar_mid (P := Tryz.prog) (w2.setCells D 0 u) D 0 81 u _ hRr Tryz.underlying81 rfl hiq
 clear cg h1 h2 hN hN2 hg1 hg2 hg3 hRr hc1 hB1
 go_wp2_with (refine wpList_store_mid (op := ⟨none, .store 81 (.tmp 1) (.tmp 3), _, _, _, none⟩) rfl 81 _ _ rfl _ _ u.toArray rfl rfl hT2 hiA h1c ?_)
 exact bodyPost_ret (v := .agg u.toArray) (by simp [results, Tryz.results153, asAddr, hrs, Act.put]) rfl ⟨rfl, h3, hgw⟩
theorem ReqsAt.gb1 {w w' : World} {a : Option Addr} {rs : List BRq} {R : Nat} (h : ReqsAt w a rs) (hg : w.grownBy w' (some R)) (hne : ∀ x, a = some x → x.block ≠ R) : ReqsAt w' a rs := by
 refine ⟨h.1, h.2.1, ?_⟩
 rcases h.2.2 with h | ⟨b, off, rfl, h1, h2⟩
 ·exact Or.inl h
 ·refine Or.inr ⟨b, off, rfl, Nat.lt_of_lt_of_le h1 hg.size, fun j v hv => ?_⟩
  rw [(@cell_block w w' b (off + j) (hg.block b h1 (by intro q; injection q with q; exact hne _ rfl q))).1]
  exact h2 j v hv
theorem st_low {w w' : World} {R B : Nat} {rest : List Int} {e : Int} (h : St w R rest e) (hb : Below B w w') (hR : R < B) : St w' R rest e := by
 have key : ∀ b, b < B → w'.heap[b]? = w.heap[b]? := fun b hbb => hb.block b hbb
 obtain ⟨⟨h0, h1, h2, h3, f0, f1, f2⟩, hr⟩ := h
 have cR := fun o => @cell_block w w' R o (key R hR)
 refine ⟨⟨Nat.lt_of_lt_of_le h0 hb.size, by rw [(cR 0).1]; exact h1, by rw [(cR 1).1]; exact h2, by rw [(cR 2).1]; exact h3, by rw [(cR 0).2]; exact f0, by rw [(cR 1).2]; exact f1, by rw [(cR 2).2]; exact f2⟩, fun he => ?_⟩
 obtain ⟨a, cap, g1, g2, g3, g4, g5⟩ := hr he
 refine ⟨a, cap, by rw [(cR 0).1]; exact g1, g2, g3, ⟨g4.1, g4.2.1, ?_⟩, g5⟩
 rcases g4.2.2 with g | ⟨b, off, rfl, g6, g7⟩
 ·exact .inl g
 ·have hbR := g5 _ rfl
  exact .inr ⟨b, off, rfl, Nat.lt_of_lt_of_le g6 hb.size, fun j v hv => by rw [(@cell_block w w' b (off + j) (key b (by simp at hbR; omega))).1]; exact g7 j v hv⟩
structure RL (w : World) (R : Nat) (rest : List Int) (e : Int) (k : Nat) (v : Value) (W : World) : Prop where
 own : W.ownsRow (w.heap.size + 1) 81 19 v k (flatR (getRs k rest e).1)
 st : St W R (getRs k rest e).2.1 (getRs k rest e).2.2
 gb : w.grownBy W (some R)
 res : W.there w.heap.size 0 2
 size : w.heap.size + 1 ≤ W.heap.size
def rdB (rest : List Int) (e : Int) : GotB :=
 if (numS rest e 5).1 = 0 then ⟨true, [], (numS rest e 5).2.1, (numS rest e 5).2.2⟩
 else ⟨false, (getRs ((numS rest e 5).1 - 1).toNat (numS rest e 5).2.1 (numS rest e 5).2.2).1,
  (getRs ((numS rest e 5).1 - 1).toNat (numS rest e 5).2.1 (numS rest e 5).2.2).2.1, (getRs ((numS rest e 5).1 - 1).toNat (numS rest e 5).2.1 (numS rest e 5).2.2).2.2⟩
theorem own19 {w w' : World} {B n : Nat} {v : Value} {xs : List Value} {row : Option Nat} (h : w.ownsRow B 81 19 v n xs) (hg : w.grownBy w' row) (hr : ∀ g, row = some g → g < B) : w'.ownsRow B 81 19 v n xs := by
  refine h.kept hg ?_
  cases hv : v.ownBlock with
  | none => exact .inl rfl
  | some k =>
    right
    intro he
    have h1 := (h.lt k hv).1
    have h2 := hr k he.symm
    omega
set_option maxRecDepth 100000 in
set_option maxHeartbeats 4000000 in
theorem readB_any (X R : Nat) (rest : List Int) (e : Int) (w : World) (hc : w.cell? ⟨X, 0, none⟩ = some (.pointer (some ⟨R, 0, none⟩))) (hX : X < w.heap.size) (hXR : X ≠ R) (h : St w R rest e) (hl : rest.length ≤ 40000) (hbs : e = 0 → Bs rest) :
  Calls Tryz.prog 152 #[.func (.func 39) #[.pointer (some ⟨R, 0, none⟩)] #[], .func (.func 153) #[] #[.pointer (some ⟨X, 0, none⟩)]] w fun en w' => ∃ a cap, en = .returned (batV (rdB rest e).q a (rdB rest e).rs.length cap) ∧ (rdB rest e).rs.length ≤ cap ∧ cap ≤ maxLen ∧ ReqsAt w' a (rdB rest e).rs ∧ (∀ x, a = some x → w.heap.size ≤ x.block) ∧ St w' R (rdB rest e).rest (rdB rest e).err ∧ w.grownBy w' (some R) := by
 have hRw : R < w.heap.size := h.1.1
 obtain ⟨i1, hi1, hiz, his, hib⟩ := info_parts infoR
 have cn := fun w0 h0 => num_any R rest e 5 w0 h0
 have hx1 := numS_bd (most := 5) hbs (by omega)
 obtain ⟨j0, hj0⟩ := numS_sub rest e 5
 have hl2 : (numS rest e 5).2.1.length ≤ 40000 := by rw [hj0, List.length_drop]; omega
 have hbs2 : (numS rest e 5).2.2 = 0 → Bs (numS rest e 5).2.1 := fun h0 => by rw [hj0]; exact (hbs (numS_err h0)).sub _
 obtain ⟨G, hG⟩ : ∃ G, Hid (rdB rest e = G) := ⟨_, hide rfl⟩
 rw [hG.out]
 have hG := hG.out
 unfold rdB at hG
 obtain ⟨x1, hx1e⟩ : ∃ x, Hid ((numS rest e 5).1 = x) := ⟨_, hide rfl⟩
 obtain ⟨x2, hx2e⟩ : ∃ x, Hid ((numS rest e 5).2.1 = x) := ⟨_, hide rfl⟩
 obtain ⟨x3, hx3e⟩ : ∃ x, Hid ((numS rest e 5).2.2 = x) := ⟨_, hide rfl⟩
 simp only [hx1e.out, hx2e.out, hx3e.out] at cn hx1 hl2 hbs2 hG
 clear hx1e hx2e hx3e hj0 hbs hl
 have HG := hide hG
 clear hG
 have hN := there_new w #[.bool false, .slice none 0 0] 39
 have hB1 : Below w.heap.size w (w.alloc (.cells #[.bool false, .slice none 0 0] 39)) := (Below.refl _ _).alloc (Nat.le_refl _) _
 have hg1 : w.grownBy (w.alloc (.cells #[.bool false, .slice none 0 0] 39)) (some R) := World.grownBy_alloc w _ _
 have hs1 : w.heap.size + 1 ≤ (w.alloc (.cells #[.bool false, .slice none 0 0] 39)).heap.size := by simp
 go_enter Tryz.func152, Tryz.ntmps152
 go_upto_region 1 with fail
 go_name_world w1 hw1
 rw [hw1] at hN hB1 hg1 hs1
 clear hw1
 have hN : w1.there w.heap.size 0 2 := hN
 go_wp2_with fail
 refine (cn w1 (h.below hB1)).mono ?_
 rintro en w2 ⟨rfl, h2, hg2⟩
 have hgw2 := gb_trans hg1 hg2
 have hN2 := there_gbR hN hg2 (by omega) (by omega)
 have hs2 := Nat.le_trans hs1 hg2.size
 clear cn hN hB1 hg1 hg2 hs1
 by_cases hx0 : x1 = 0
 ·rw [if_pos hx0] at HG
  subst hx0
  go_wp2_with fail
  refine (none_any w2).mono ?_
  rintro en w3 ⟨rfl, hw3⟩
  have hN3 := there_below hN2 hw3 (by omega)
  have hgw3 := gb_onR hgw2 hw3 hgw2.size
  have h3 := h2.below hw3
  have hRr := World.rangeAt_setCells_same w3 w.heap.size 0 [.bool true, .slice none 0 0] hN3
  have hg4 : w3.grownBy (w3.setCells w.heap.size 0 [.bool true, .slice none 0 0]) (some w.heap.size) := gb_setsR w3 w.heap.size [.bool true, .slice none 0 0] 0
  have h4 := h3.gb hg4 hRw
  have hgw4 := gb_onR hgw3 (below_sets (Nat.le_refl w.heap.size) [.bool true, .slice none 0 0] 0 w3 (Below.refl w.heap.size w3)) (Nat.le_refl _)
  have hrs := run_loadVar_mid (P := Tryz.prog) (w3.setCells w.heap.size 0 [.bool true, .slice none 0 0]) w.heap.size 0 39 [.bool true, .slice none 0 0] _ hRr Tryz.underlying39 rfl iszB
  clear hN2 hgw2 h2 hw3 hgw3 h3 hRr hg4
  unfold batV
  go_wp2_with (refine wpList_store_mid (op := ⟨none, .store 39 (.tmp 4) (.tmp 11), _, _, _, none⟩) rfl 39 _ _ rfl _ _ #[.bool true, .slice none 0 0] rfl rfl hN3 iszB (by simp [Value.oneCell']) ?_)
  refine bodyPost_ret (v := .agg #[.bool true, .slice none 0 0]) (by simp [results, Tryz.results152, asAddr, hrs, Act.put]) rfl ⟨none, 0, ?_⟩
  rw [← HG.out]
  exact ⟨rfl, by simp, by unfold maxLen; omega, ReqsAt.none, (fun x hx => by cases hx), h4, hgw4⟩
 ·rw [if_neg hx0] at HG
  obtain ⟨K, rfl⟩ : ∃ K : Nat, x1 = (K : Int) + 1 := ⟨(x1 - 1).toNat, by omega⟩
  have hK4 : K ≤ 4 := by omega
  have b0 : (((K : Int) + 1) == 0) = false := by simp; omega
  have e3 : ((K : Int) + 1 - 1).toNat = K := by omega
  rw [e3] at HG
  have HB := hide hbs2
  have hwr : IntKind.i64.wrap ((K : Int) + 1 - 1) = (K : Int) := by rw [IntKind.wrap_i64] <;> omega
  clear hx0 hx1 e3 hbs2
  go_wp2_with (first
   | refine wpList_make_own _ rfl _ _ 37 rfl (w.heap.size + 1) 81 i1 (.agg noReq.toArray) 19 Tryz.underlying37 hi1 hiz his .i64 .i64 _ K rfl rfl ?d1 ?d2 ?d3 ?d4 ?_)
  case d1 => omega
  case d2 => rw [hib]; omega
  case d3 => unfold maxLen; omega
  case d4 => exact hs2
  intro w3 hown3 hgrow3
  have hb3 : Below w2.heap.size w2 w3 := (Below.refl _ _).grown hgrow3 (Nat.le_refl _) (fun k hk => by cases hk)
  have HL0 : Hid (RL w R x2 x3 0 (.slice (some ⟨w2.heap.size, 0, none⟩) 0 K) w3) := hide ⟨by simpa [getRs, flatR] using hown3, h2.below hb3, gb_onR hgw2 hb3 hgw2.size, there_below hN2 hb3 (by omega), Nat.le_trans hs2 hb3.size⟩
  clear hown3 hgrow3 hb3 h2 hgw2 hN2 hs2
  go_wp2
  go_loopw [6, 17] (fun ov iv wr => ∃ k : Nat, k ≤ K ∧ iv = .int .i64 (k : Int) ∧ Hid (RL w R x2 x3 k ov wr)) (fun _ iv _ => K - (intOf iv).toNat)
  case atStart => exact ⟨0, by omega, rfl, HL0⟩
  case round =>
   clear HL0
   obtain ⟨k, hk, rfl, HL⟩ := hrel
   by_cases hlt : k < K
   ·have k1 : (k : Int) < K := by omega
    have hcx := (ref_cell (o := 0) HL.out.gb hX hXR).trans hc
    have hXr : X < wr.heap.size := Nat.lt_of_lt_of_le hX HL.out.gb.size
    have hle := Nat.le_trans (getRs_le k x2 x3) hl2
    obtain ⟨⟨j, hj⟩, hje⟩ := getRs_sub k x2 x3
    have hok := rqOf_ok (rest := (getRs k x2 x3).2.1) (e := (getRs k x2 x3).2.2) (fun h0 => by rw [hj]; exact (HB.out (hje h0)).sub _)
    have cg := get1_any X R _ _ wr hcx hXr HL.out.st hle hok
    have HS : Hid (flatR (getRs (k + 1) x2 x3).1 = flatR (getRs k x2 x3).1 ++ (rqOf (rgetR (getRs k x2 x3).2.1 (getRs k x2 x3).2.2)).cells) := hide (by
     show flatR ((getRs k x2 x3).1 ++ [rqOf (rgetR (getRs k x2 x3).2.1 (getRs k x2 x3).2.2)]) = _
     rw [flatR_append]
     simp [flatR])
    have HT : Hid ((getRs (k + 1) x2 x3).2 = ((rgetR (getRs k x2 x3).2.1 (getRs k x2 x3).2.2).rest, (rgetR (getRs k x2 x3).2.1 (getRs k x2 x3).2.2).err)) := hide rfl
    obtain ⟨g, hg⟩ : ∃ g, Hid (rgetR (getRs k x2 x3).2.1 (getRs k x2 x3).2.2 = g) := ⟨_, hide rfl⟩
    rw [hg.out] at cg hok HS HT
    obtain ⟨r, hr⟩ : ∃ r, Hid (rqOf g = r) := ⟨_, hide rfl⟩
    rw [hr.out] at cg hok HS
    have hul := hok.length
    have hone := r.one
    obtain ⟨u, hu⟩ : ∃ u, Hid (r.cells = u) := ⟨_, hide rfl⟩
    rw [hu.out] at cg HS hul hone
    obtain ⟨xs, hxs⟩ : ∃ xs, Hid (flatR (getRs k x2 x3).1 = xs) := ⟨_, hide rfl⟩
    have hown := HL.out.own
    rw [hxs.out] at HS hown
    have HO := hide hown
    clear hg hr hu hok hj hje hle hcx hXr hown hxs
    go_wp2_with fail
    refine cg.mono ?_
    rintro en w4 ⟨rfl, h4, hg4⟩
    have hgw4 := gb_trans HL.out.gb hg4
    have hN4 := there_gbR HL.out.res hg4 (by have := HL.out.size; omega) (by omega)
    have hs4 := Nat.le_trans HL.out.size hg4.size
    have HO4 := hide (own19 HO.out hg4 (fun g hh => by cases hh; omega))
    clear cg hg4 HO
    have hb5 : Below w4.heap.size w4 (w4.alloc (.cells u.toArray 81)) := (Below.refl _ _).alloc (Nat.le_refl _) _
    have hR5 : (w4.alloc (.cells u.toArray 81)).rangeAt w4.heap.size 0 u := by simpa using range_new w4 u.toArray 81
    have hsrc : Src Tryz.prog 19 37 (.slice (some ⟨w4.heap.size, 0, none⟩) 1 1) 1 u (w4.alloc (.cells u.toArray 81)) :=
     Src.ofSlice _ Tryz.underlying37 ⟨w4.heap.size, 0, none⟩ 1 1 u (by omega) (fun j v hv => by rw [Addr.add_mid]; exact hR5 j v hv) hone
    have hown5 := HO4.out.alloc (.cells u.toArray 81)
    have HL5 := hide hown5
    have hfold := fold_u #[.int .i64 0, .int .i64 0, .string ⟨#[]⟩, .int .u8 0, .int .u8 0, .int .u8 0, .int .u8 0, .int .u8 0, .int .u8 0, .int .u8 0, .int .u8 0, .int .u8 0, .int .u8 0, .int .u8 0, .int .u8 0, .int .u8 0, .int .u8 0, .int .u8 0, .int .u8 0] u (by rw [hul]; rfl)
    go_wp2_with (at_builtin; refine wpList_append_own_src _ rfl _ _ 37 37 rfl (w.heap.size + 1) 81 i1 (.agg noReq.toArray) 19 48 Tryz.underlying37 hi1 hiz his hib rfl _ k xs rfl hown5 (.slice (some ⟨w4.heap.size, 0, none⟩) 1 1) 1 u rfl hsrc ?c1 ?c2 ?c3 ?_)
    case c1 => unfold maxLen; omega
    case c2 => omega
    case c3 => exact Nat.le_trans hs4 hb5.size
    intro v6 w6 hown6 hgrow6
    have hb6 : Below (w.heap.size + 1) w4 w6 := (hb5.mono hs4).grown hgrow6 (Nat.le_trans hs4 hb5.size) (fun k hk => (HL5.out.lt k hk).1)
    have HL6 : Hid (RL w R x2 x3 (k + 1) v6 w6) := hide ⟨by rw [HS.out]; exact hown6, by rw [HT.out]; exact st_low h4 hb6 (by omega), gb_onR hgw4 hb6 (by omega), there_below hN4 hb6 (by omega), Nat.le_trans hs4 hb6.size⟩
    clear hown5 hown6 hgrow6 hsrc hR5 hb5 HL5 HO4
    go_wp2
    go_roundw
    case rel => exact ⟨k + 1, by omega, by go_num, HL6⟩
    case measure => simp [intOf]; omega
   ·obtain rfl : k = K := by omega
    have HA := hide (getRs_ok (rest := x2) (e := x3) HB.out k)
    have HLen := hide (getRs_length k x2 x3)
    have hown := HL.out.own
    obtain ⟨aa, capp, rfl, hc1, hc2, hrow, hlo⟩ := own_reqs (rs := (getRs k x2 x3).1) (by rw [HLen.out]; exact hown) HA.out (by rw [HLen.out]; unfold maxLen; omega)
    rw [HLen.out] at hc1 ⊢
    have hN3 := HL.out.res
    have hRr := World.rangeAt_setCells_same wr w.heap.size 0 [.bool false, .slice aa k capp] hN3
    have hg4 : wr.grownBy (wr.setCells w.heap.size 0 [.bool false, .slice aa k capp]) (some w.heap.size) := gb_setsR wr w.heap.size _ 0
    have h4 := HL.out.st.gb hg4 hRw
    have hbl : Below w.heap.size wr (wr.setCells w.heap.size 0 [.bool false, .slice aa k capp]) := below_sets (Nat.le_refl w.heap.size) _ 0 wr (Below.refl w.heap.size wr)
    have hgw4 := gb_onR HL.out.gb hbl (Nat.le_refl _)
    have hrow4 : ReqsAt (wr.setCells w.heap.size 0 [.bool false, .slice aa k capp]) aa (getRs k x2 x3).1 := hrow.gb1 hg4 (fun x hx => by have := hlo x hx; omega)
    have hrs := run_loadVar_mid (P := Tryz.prog) (wr.setCells w.heap.size 0 [.bool false, .slice aa k capp]) w.heap.size 0 39 [.bool false, .slice aa k capp] _ hRr Tryz.underlying39 rfl iszB
    have HF : Hid ((∃ a cap, Ending.returned (.agg #[.bool false, .slice aa k capp]) = .returned (batV G.q a G.rs.length cap) ∧ G.rs.length ≤ cap ∧ cap ≤ maxLen ∧ ReqsAt (wr.setCells w.heap.size 0 [.bool false, .slice aa k capp]) a G.rs ∧ (∀ x, a = some x → w.heap.size ≤ x.block) ∧ St (wr.setCells w.heap.size 0 [.bool false, .slice aa k capp]) R G.rest G.err ∧ w.grownBy (wr.setCells w.heap.size 0 [.bool false, .slice aa k capp]) (some R))) := hide (by
     rw [← HG.out]
     refine ⟨aa, capp, ?_, ?_, hc2, hrow4, fun x hx => by have := hlo x hx; omega, h4, hgw4⟩
     ·simp only [HLen.out]; rfl
     ·simp only [HLen.out]; exact hc1)
    clear HG HL hrow hrow4 h4 hgw4 hg4 hRr hbl HA hown hlo
    go_wp2_with (refine wpList_store_mid (op := ⟨none, .store 39 (.tmp 4) (.tmp 26), _, _, _, none⟩) rfl 39 _ _ rfl _ _ #[.bool false, .slice aa k capp] rfl rfl hN3 iszB (by simp [Value.oneCell']) ?_)
    exact bodyPost_ret (v := .agg #[.bool false, .slice aa k capp]) (by simp [results, Tryz.results152, asAddr, hrs, Act.put]) rfl HF.out
theorem getB_good {rest : List Int} {e : Int} (h : (rdB rest e).err = 0) : getB rest e = rdB rest e := by
 unfold rdB at h ⊢
 unfold getB
 split
 ·rename_i h0
  rw [if_pos h0] at h
  simp only at h
  rw [h]
  rfl
 ·rename_i h0
  rw [if_neg h0] at h
  simp only at h
  rw [h, if_pos rfl]
theorem getB_bad {rest : List Int} {e : Int} (h : (rdB rest e).err ≠ 0) : getB rest e = ⟨false, [], (rdB rest e).rest, (rdB rest e).err⟩ := by
 unfold rdB at h ⊢
 unfold getB
 split
 ·rename_i h0
  rw [if_pos h0] at h
  simp only at h
  rw [decide_eq_false h]
 ·rename_i h0
  rw [if_neg h0] at h
  simp only at h
  rw [if_neg h]
set_option maxRecDepth 100000 in
set_option maxHeartbeats 4000000 in
theorem bget_any (R : Nat) (rest : List Int) (e : Int) (w : World) (h : St w R rest e) (hl : rest.length ≤ 40000) (hbs : e = 0 → Bs rest) :
  Calls Tryz.prog 108 #[.pointer (some ⟨R, 0, none⟩)] w fun en w' => ∃ a cap, en = .returned (batV (getB rest e).q a (getB rest e).rs.length cap) ∧ (getB rest e).rs.length ≤ cap ∧ cap ≤ maxLen ∧ ReqsAt w' a (getB rest e).rs ∧ (∀ x, a = some x → w.heap.size ≤ x.block) ∧ St w' R (getB rest e).rest (getB rest e).err ∧ w.grownBy w' (some R) := by
 have hRw : R < w.heap.size := h.1.1
 have cr := fun X w0 hc hX hXR h0 => readB_any X R rest e w0 hc hX hXR h0 hl hbs
 obtain ⟨G, hG⟩ : ∃ G, Hid (getB rest e = G) := ⟨_, hide rfl⟩
 rw [hG.out]
 have HG1 : Hid ((rdB rest e).err = 0 → G = rdB rest e) := hide (fun hh => by rw [← hG.out]; exact getB_good hh)
 have HG2 : Hid ((rdB rest e).err ≠ 0 → G = ⟨false, [], (rdB rest e).rest, (rdB rest e).err⟩) := hide (fun hh => by rw [← hG.out]; exact getB_bad hh)
 obtain ⟨F, hF⟩ : ∃ F, Hid (rdB rest e = F) := ⟨_, hide rfl⟩
 rw [hF.out] at HG1 HG2
 simp only [hF.out] at cr
 clear hF hG
 obtain ⟨q, rs, rest', err⟩ := F
 simp only at cr HG1 HG2
 unfold batV at cr
 have hB1 : Below w.heap.size w ((w.alloc (.cells #[.pointer (some ⟨R, 0, none⟩)] 98)).alloc (.cells #[.bool false, .slice none 0 0] 39)) := ((Below.refl _ _).alloc (Nat.le_refl _) _).alloc (by simp) _
 have hN1 := there_new (w.alloc (.cells #[.pointer (some ⟨R, 0, none⟩)] 98)) #[.bool false, .slice none 0 0] 39
 have hc1 : ((w.alloc (.cells #[.pointer (some ⟨R, 0, none⟩)] 98)).alloc (.cells #[.bool false, .slice none 0 0] 39)).cell? ⟨w.heap.size, 0, none⟩ = some (.pointer (some ⟨R, 0, none⟩)) :=
  World.rangeAt_alloc (range_new w #[.pointer (some ⟨R, 0, none⟩)] 98) _ 0 _ rfl
 have hg1 : w.grownBy ((w.alloc (.cells #[.pointer (some ⟨R, 0, none⟩)] 98)).alloc (.cells #[.bool false, .slice none 0 0] 39)) (some R) := gb_trans (World.grownBy_alloc w _ _) (World.grownBy_alloc _ _ _)
 have hs1 : w.heap.size + 2 ≤ ((w.alloc (.cells #[.pointer (some ⟨R, 0, none⟩)] 98)).alloc (.cells #[.bool false, .slice none 0 0] 39)).heap.size := by simp
 rw [World.size_alloc] at hN1
 go_enter Tryz.func108, Tryz.ntmps108
 go_upto_region 1 with fail
 go_name_world w1 hw1
 rw [hw1] at hB1 hN1 hc1 hg1 hs1
 clear hw1
 have hN1 : w1.there (w.heap.size + 1) 0 2 := hN1
 obtain ⟨X, hX⟩ : ∃ X, Hid (w.heap.size = X) := ⟨_, hide rfl⟩
 obtain ⟨Y, hY⟩ : ∃ Y, Hid (w.heap.size + 1 = Y) := ⟨_, hide rfl⟩
 have hXY : X < Y := by rw [← hX.out, ← hY.out]; omega
 have hRX : R < X := by rw [← hX.out]; exact hRw
 have hwX : w.heap.size ≤ X := by rw [← hX.out]; omega
 have hYs : Y < w1.heap.size := by rw [← hY.out]; omega
 rw [hY.out] at hN1 ⊢
 rw [hX.out] at hc1 ⊢
 have cr1 := cr X w1 hc1 (by omega) (by omega) (h.below hB1)
 clear cr
 go_wp2_with fail
 refine cr1.mono ?_
 rintro en w2 ⟨a, cap, rfl, hc2, hm2, hrow2, hlo2, h2, hg2⟩
 have hc2' := (ref_cell (o := 0) hg2 (by omega) (by omega)).trans hc1
 have hN2 := there_gbR hN1 hg2 hYs (by omega)
 have hgw2 := gb_trans hg1 hg2
 have hs2 := Nat.le_trans (Nat.succ_le_of_lt hYs) hg2.size
 have F := fresh_store w2 #[.bool false, .slice none 0 0] 39 [.bool q, .slice a rs.length cap] rfl
 have hNz : (w2.alloc (.cells #[.bool false, .slice none 0 0] 39)).there w2.heap.size 0 2 := there_new w2 #[.bool false, .slice none 0 0] 39
 clear cr1 hB1 hN1 hc1 hg1
 go_upto_region 2 with (refine wpList_store_mid (op := ⟨none, .store 39 (.tmp 3) (.tmp 7), _, _, _, none⟩) rfl 39 _ _ rfl _ _ #[.bool q, .slice a rs.length cap] rfl rfl hNz iszB (by simp [Value.oneCell']) ?_)
 go_name_world w3 hw3
 rw [show (w2.alloc (.cells #[.bool false, .slice none 0 0] 39)).setCells w2.heap.size 0 [.bool q, .slice a rs.length cap] = w3 from hw3] at F
 clear hw3 hNz
 obtain ⟨hR3, hF3, hz3, _⟩ := F
 have h3 := h2.below hF3
 have hc3 := (hF3.cell (p := ⟨X, 0, none⟩) (by show X < w2.heap.size; omega)).trans hc2'
 have hN3 := there_below hN2 hF3 (by omega)
 have hgw3 := gb_onR hgw2 hF3 hgw2.size
 have hrow3 := hrow2.below hF3
 have hz3' : w2.heap.size < w3.heap.size := by omega
 obtain ⟨Z, hZ⟩ : ∃ Z, Hid (w2.heap.size = Z) := ⟨_, hide rfl⟩
 have hYZ : Y < Z := by rw [← hZ.out]; omega
 rw [hZ.out] at hR3 hz3' ⊢
 clear hrow2 h2 hg2 hc2' hN2 hgw2 hF3 hz3
 try simp only [Act.put]
 go_wp2_with fail
 refine (err_made R err w3 h3.1).mono ?_
 rintro en w4 ⟨rfl, hx⟩
 obtain rfl := hx.symm
 clear hx
 by_cases he : err = 0
 ·have b0 : (err == 0) = true := by simpa using he
  have hGe := HG1.out he
  clear HG1 HG2 he
  have hRr := World.rangeAt_setCells_same w3 Y 0 [.bool q, .slice a rs.length cap] hN3
  have hg5 : w3.grownBy (w3.setCells Y 0 [.bool q, .slice a rs.length cap]) (some Y) := gb_setsR w3 Y _ 0
  have h5 := h3.gb hg5 (by omega)
  have hgw5 := gb_onR hgw3 (below_sets (show w.heap.size ≤ Y by omega) [.bool q, .slice a rs.length cap] 0 w3 (Below.refl w.heap.size w3)) (Nat.le_refl _)
  have hrow5 := hrow3.gb1 hg5 (fun x hx => by have := hlo2 x hx; omega)
  have hrs := run_loadVar_mid (P := Tryz.prog) (w3.setCells Y 0 [.bool q, .slice a rs.length cap]) Y 0 39 [.bool q, .slice a rs.length cap] _ hRr Tryz.underlying39 rfl iszB
  have HF : Hid (∃ a' cap', Ending.returned (.agg #[.bool q, .slice a rs.length cap]) = .returned (batV G.q a' G.rs.length cap') ∧ G.rs.length ≤ cap' ∧ cap' ≤ maxLen ∧ ReqsAt (w3.setCells Y 0 [.bool q, .slice a rs.length cap]) a' G.rs ∧ (∀ x, a' = some x → w.heap.size ≤ x.block) ∧ St (w3.setCells Y 0 [.bool q, .slice a rs.length cap]) R G.rest G.err ∧ w.grownBy (w3.setCells Y 0 [.bool q, .slice a rs.length cap]) (some R)) := hide (by
   rw [hGe]
   exact ⟨a, cap, rfl, hc2, hm2, hrow5, fun x hx => by have := hlo2 x hx; omega, h5, hgw5⟩)
  clear hGe hrow3 hrow5 h3 h5 hgw3 hgw5 hg5 hRr hlo2 hc3
  go_upto_region 4 with fail
  try simp only [Act.put]
  refine wp_region_list ?_
  refine wpList_load_mid rfl 39 _ rfl _ _ rfl [.bool q, .slice a rs.length cap] _ hR3 Tryz.underlying39 rfl iszB ?_
  refine wpList_store_mid rfl 39 _ _ rfl _ _ #[.bool q, .slice a rs.length cap] rfl rfl hN3 iszB (by simp [Value.oneCell']) ?_
  go_wp2
  exact bodyPost_ret (v := .agg #[.bool q, .slice a rs.length cap]) (by simp [results, Tryz.results108, asAddr, hrs, Act.put]) rfl HF.out
 ·have b0 : (err == 0) = false := by simpa using he
  have hGe := HG2.out he
  clear HG1 HG2 he
  have hRr := World.rangeAt_setCells_same w3 Y 0 [.bool false, .slice none 0 0] hN3
  have hg5 : w3.grownBy (w3.setCells Y 0 [.bool false, .slice none 0 0]) (some Y) := gb_setsR w3 Y _ 0
  have h5 := h3.gb hg5 (by omega)
  have hgw5 := gb_onR hgw3 (below_sets (show w.heap.size ≤ Y by omega) [.bool false, .slice none 0 0] 0 w3 (Below.refl w.heap.size w3)) (Nat.le_refl _)
  have hrs := run_loadVar_mid (P := Tryz.prog) (w3.setCells Y 0 [.bool false, .slice none 0 0]) Y 0 39 [.bool false, .slice none 0 0] _ hRr Tryz.underlying39 rfl iszB
  have HF : Hid (∃ a' cap', Ending.returned (.agg #[.bool false, .slice none 0 0]) = .returned (batV G.q a' G.rs.length cap') ∧ G.rs.length ≤ cap' ∧ cap' ≤ maxLen ∧ ReqsAt (w3.setCells Y 0 [.bool false, .slice none 0 0]) a' G.rs ∧ (∀ x, a' = some x → w.heap.size ≤ x.block) ∧ St (w3.setCells Y 0 [.bool false, .slice none 0 0]) R G.rest G.err ∧ w.grownBy (w3.setCells Y 0 [.bool false, .slice none 0 0]) (some R)) := hide (by
   rw [hGe]
   exact ⟨none, 0, rfl, by simp, by unfold maxLen; omega, ReqsAt.none, (fun x hx => by cases hx), h5, hgw5⟩)
  clear hGe hrow3 h3 h5 hgw3 hgw5 hg5 hRr hlo2 hc3
  go_upto_region 3 with fail
  try simp only [Act.put]
  refine wp_region_list ?_
  refine wpList_step fun K hK => ?_
  go_simp
  refine hK _ _ ?_
  clear hK K
  refine wpList_store_mid rfl 39 _ _ rfl _ _ #[.bool false, .slice none 0 0] rfl rfl hN3 iszB (by simp [Value.oneCell']) ?_
  go_wp2
  exact bodyPost_ret (v := .agg #[.bool false, .slice none 0 0]) (by simp [results, Tryz.results108, asAddr, hrs, Act.put]) rfl HF.out
end Go.Proofs.YtcbpbkefggekmaaGreatDoor
