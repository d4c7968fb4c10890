/- MessageDecodes: any bytes are the message that the document says, or have its error -/
import Derived.Test.YtgjalkbianpibaaGreatJD11
import Derived.Test.YtgjalkbianpibaaGreatJD3
import Derived.Test.YtgjalkbianpibaaGreatJD5
import Derived.Test.YtgjalkbianpibaaGreatJD2
import Derived.Deep.Cut
import Derived.Deep.DeepCutAuto
import Derived.Deep.Slices
import Derived.Test.YtgjalkbianpibaaGreatRows
import Derived.ProofKit
import Derived.OpenShut
import Derived.ShutString
import Derived.ChangeOld
import Derived.Below
import Derived.Lib.LaidTab
import Derived.WalkKit
namespace Go.Proofs.YtgjalkbianpibaaGreat
open Go.RowKit
open Sha Tal
set_option linter.unusedVariables false
set_option linter.unusedSimpArgs false
theorem xfieldsS (D X : Nat) (k : Int) (s : Xst) (w : World) (h : XR w D X s) : Calls Tryz.prog 44 #[.pointer (some ⟨X, 0, none⟩), .agg (Ms.plain k 0 0 Vt.zero zeros32).cells.toArray] w fun en w' => ∃ m : Mg, en = .returned (.agg m.ms.cells.toArray) ∧ m.pure = (xmgF k s).1 ∧ m.ok ∧ m.At w' ∧ m.Bk (fun b => w.heap.size ≤ b) ∧ XR w' D X (xmgF k s).2 ∧ w.grownBy w' (some X) := by
  unfold xmgF
  by_cases n1 : k = 1
  · rw [if_pos n1]; subst n1; exact xfieldsK1 D X s w h
  rw [if_neg n1]
  by_cases n2 : k = 2
  · rw [if_pos n2]; subst n2; exact xfieldsK2 D X s w h
  rw [if_neg n2]
  by_cases n3 : k = 3
  · rw [if_pos n3]; subst n3; exact xfieldsK3 D X s w h
  rw [if_neg n3]
  by_cases n4 : k = 4
  · rw [if_pos n4]; subst n4; exact xfieldsK4 D X s w h
  rw [if_neg n4]
  by_cases n5 : k = 5
  · rw [if_pos n5]; subst n5; exact xfieldsK5 D X s w h
  rw [if_neg n5]
  by_cases n6 : k = 6
  · rw [if_pos n6]; subst n6; exact xfieldsK6 D X s w h
  rw [if_neg n6]
  by_cases n7 : k = 7
  · rw [if_pos n7]; subst n7; exact xfieldsK7 D X s w h
  rw [if_neg n7]
  by_cases n8 : k = 8
  · rw [if_pos n8]; subst n8; exact xfieldsK8 D X s w h
  rw [if_neg n8]
  exact xfieldsK0 D X s w h k n1 n2 n3 n4 n5 n6 n7 n8
set_option maxRecDepth 100000 in
set_option maxHeartbeats 1000000 in
theorem xdoneS (D X : Nat) (s : Xst) (w : World) (h : XR w D X s) : Calls Tryz.prog 45 #[.pointer (some ⟨X, 0, none⟩)] w fun en w' => en = .returned (.int .i64 (doneE s.1 s.2)) ∧ Below w.heap.size w w' := by
  obtain ⟨rest, e⟩ := s
  have c2 := h.st.err
  simp only at c2 ⊢
  unfold doneE
  by_cases he : e = 0
  · subst he
    obtain ⟨zs, p, ⟨hX, ⟨a, cap, c0, hc, hm, hr, hb⟩, c1, c2', f0, f1, f2, hp, hl⟩, hd⟩ := h.st
    have hd : List.drop p zs = rest := hd rfl
    have hlen : rest.length = zs.length - p := by rw [← hd, List.length_drop]
    rw [if_pos rfl]
    clear h hr c2'
    by_cases hz : rest.length = 0
    · rw [if_pos hz]
      have hlt : ¬ ((p : Int) < (zs.length : Int)) := by omega
      go_enter Tryz.func45, Tryz.ntmps45
      go_upto_region 3 with fail
      have d0 : w.drew.cell? ⟨X, 0, none⟩ = _ := c0
      have d1 : w.drew.cell? ⟨X, 1, none⟩ = _ := c1
      have hB8 : Below w.heap.size w w.drew := (Below.refl _ _).drew
      refine hs_begin (S := (Below w.drew.heap.size w.drew)) 10 rfl (by kernel_rfl) ?_
      have hS : (Below w.drew.heap.size w.drew) w.drew := Below.refl _ _
      have k0 : ∀ w', Below w.drew.heap.size w.drew w' → w'.cell? ⟨X, 0, none⟩ = some (.slice a zs.length cap) := fun w' hw => (cell_block (hw.block X hX)).1.trans c0
      have k1 : ∀ w', Below w.drew.heap.size w.drew w' → w'.cell? ⟨X, 1, none⟩ = some (.int .i64 (p : Int)) := fun w' hw => (cell_block (hw.block X hX)).1.trans c1
      refine hs_take (i := 0) (d := some 12) (v := ?_) rfl (by kernel_rfl) (by kernel_rfl) (by kernel_rfl) (by rfl) ?_ hS rfl ?_
      rotate_left
      · intro w' hw
        go_simp
        try with_reducible rfl
      simp only [Act.put, List.setIfInBounds_toArray, List.set_cons_zero, List.set_cons_succ]
      refine hs_take (i := 1) (d := some 13) (v := ?_) rfl (by kernel_rfl) (by kernel_rfl) (by kernel_rfl) (by rfl) ?_ hS rfl ?_
      rotate_left
      · intro w' hw
        go_simp
        try with_reducible rfl
      simp only [Act.put, List.setIfInBounds_toArray, List.set_cons_zero, List.set_cons_succ]
      refine hs_take (i := 2) (d := some 14) (v := ?_) rfl (by kernel_rfl) (by kernel_rfl) (by kernel_rfl) (by rfl) ?_ hS rfl ?_
      rotate_left
      · intro w' hw
        go_simp
        try with_reducible rfl
      simp only [Act.put, List.setIfInBounds_toArray, List.set_cons_zero, List.set_cons_succ]
      refine hs_take (i := 3) (d := some 15) (v := .int .i64 (p : Int)) rfl (by kernel_rfl) (by kernel_rfl) (by kernel_rfl) (by rfl) (fun w' hw => pl_one rfl rfl (k1 _ hw) Tryz.underlying3 rfl) hS rfl ?_
      simp only [Act.put, List.setIfInBounds_toArray, List.set_cons_zero, List.set_cons_succ]
      refine hs_take (i := 4) (d := some 16) (v := ?_) rfl (by kernel_rfl) (by kernel_rfl) (by kernel_rfl) (by rfl) ?_ hS rfl ?_
      rotate_left
      · intro w' hw
        go_simp
        try with_reducible rfl
      simp only [Act.put, List.setIfInBounds_toArray, List.set_cons_zero, List.set_cons_succ]
      refine hs_take (i := 5) (d := some 17) (v := ?_) rfl (by kernel_rfl) (by kernel_rfl) (by kernel_rfl) (by rfl) ?_ hS rfl ?_
      rotate_left
      · intro w' hw
        go_simp
        try with_reducible rfl
      simp only [Act.put, List.setIfInBounds_toArray, List.set_cons_zero, List.set_cons_succ]
      refine hs_take (i := 6) (d := some 18) (v := ?_) rfl (by kernel_rfl) (by kernel_rfl) (by kernel_rfl) (by rfl) ?_ hS rfl ?_
      rotate_left
      · intro w' hw
        go_simp
        try with_reducible rfl
      simp only [Act.put, List.setIfInBounds_toArray, List.set_cons_zero, List.set_cons_succ]
      refine hs_take (i := 7) (d := some 19) (v := .slice a zs.length cap) rfl (by kernel_rfl) (by kernel_rfl) (by kernel_rfl) (by rfl) (fun w' hw => pl_one rfl rfl (k0 _ hw) Tryz.underlying59 rfl) hS rfl ?_
      simp only [Act.put, List.setIfInBounds_toArray, List.set_cons_zero, List.set_cons_succ]
      refine hs_take (i := 8) (d := some 20) (v := ?_) rfl (by kernel_rfl) (by kernel_rfl) (by kernel_rfl) (by rfl) ?_ hS rfl ?_
      rotate_left
      · intro w' hw
        go_simp
        try with_reducible rfl
      simp only [Act.put, List.setIfInBounds_toArray, List.set_cons_zero, List.set_cons_succ]
      refine hs_take (i := 9) (d := some 21) (v := .bool false) rfl (by kernel_rfl) (by kernel_rfl) (by kernel_rfl) (by rfl) (fun w' hw => by go_simp <;> (try simp) <;> (try omega)) hS rfl ?_
      simp only [Act.put, List.setIfInBounds_toArray, List.set_cons_zero, List.set_cons_succ]
      refine hs_done (by kernel_rfl) ?_
      go_wp2_with fail
      go_ret
      exact ⟨rfl, hB8⟩
    · rw [if_neg hz]
      have hlt : (p : Int) < (zs.length : Int) := by omega
      go_enter Tryz.func45, Tryz.ntmps45
      go_upto_region 3 with fail
      have hB8 : Below w.heap.size w w.drew := (Below.refl _ _).drew
      refine hs_begin (S := (Below w.drew.heap.size w.drew)) 10 rfl (by kernel_rfl) ?_
      have hS : (Below w.drew.heap.size w.drew) w.drew := Below.refl _ _
      have k0 : ∀ w', Below w.drew.heap.size w.drew w' → w'.cell? ⟨X, 0, none⟩ = some (.slice a zs.length cap) := fun w' hw => (cell_block (hw.block X hX)).1.trans c0
      have k1 : ∀ w', Below w.drew.heap.size w.drew w' → w'.cell? ⟨X, 1, none⟩ = some (.int .i64 (p : Int)) := fun w' hw => (cell_block (hw.block X hX)).1.trans c1
      refine hs_take (i := 0) (d := some 12) (v := ?_) rfl (by kernel_rfl) (by kernel_rfl) (by kernel_rfl) (by rfl) ?_ hS rfl ?_
      rotate_left
      · intro w' hw
        go_simp
        try with_reducible rfl
      simp only [Act.put, List.setIfInBounds_toArray, List.set_cons_zero, List.set_cons_succ]
      refine hs_take (i := 1) (d := some 13) (v := ?_) rfl (by kernel_rfl) (by kernel_rfl) (by kernel_rfl) (by rfl) ?_ hS rfl ?_
      rotate_left
      · intro w' hw
        go_simp
        try with_reducible rfl
      simp only [Act.put, List.setIfInBounds_toArray, List.set_cons_zero, List.set_cons_succ]
      refine hs_take (i := 2) (d := some 14) (v := ?_) rfl (by kernel_rfl) (by kernel_rfl) (by kernel_rfl) (by rfl) ?_ hS rfl ?_
      rotate_left
      · intro w' hw
        go_simp
        try with_reducible rfl
      simp only [Act.put, List.setIfInBounds_toArray, List.set_cons_zero, List.set_cons_succ]
      refine hs_take (i := 3) (d := some 15) (v := .int .i64 (p : Int)) rfl (by kernel_rfl) (by kernel_rfl) (by kernel_rfl) (by rfl) (fun w' hw => pl_one rfl rfl (k1 _ hw) Tryz.underlying3 rfl) hS rfl ?_
      simp only [Act.put, List.setIfInBounds_toArray, List.set_cons_zero, List.set_cons_succ]
      refine hs_take (i := 4) (d := some 16) (v := ?_) rfl (by kernel_rfl) (by kernel_rfl) (by kernel_rfl) (by rfl) ?_ hS rfl ?_
      rotate_left
      · intro w' hw
        go_simp
        try with_reducible rfl
      simp only [Act.put, List.setIfInBounds_toArray, List.set_cons_zero, List.set_cons_succ]
      refine hs_take (i := 5) (d := some 17) (v := ?_) rfl (by kernel_rfl) (by kernel_rfl) (by kernel_rfl) (by rfl) ?_ hS rfl ?_
      rotate_left
      · intro w' hw
        go_simp
        try with_reducible rfl
      simp only [Act.put, List.setIfInBounds_toArray, List.set_cons_zero, List.set_cons_succ]
      refine hs_take (i := 6) (d := some 18) (v := ?_) rfl (by kernel_rfl) (by kernel_rfl) (by kernel_rfl) (by rfl) ?_ hS rfl ?_
      rotate_left
      · intro w' hw
        go_simp
        try with_reducible rfl
      simp only [Act.put, List.setIfInBounds_toArray, List.set_cons_zero, List.set_cons_succ]
      refine hs_take (i := 7) (d := some 19) (v := .slice a zs.length cap) rfl (by kernel_rfl) (by kernel_rfl) (by kernel_rfl) (by rfl) (fun w' hw => pl_one rfl rfl (k0 _ hw) Tryz.underlying59 rfl) hS rfl ?_
      simp only [Act.put, List.setIfInBounds_toArray, List.set_cons_zero, List.set_cons_succ]
      refine hs_take (i := 8) (d := some 20) (v := ?_) rfl (by kernel_rfl) (by kernel_rfl) (by kernel_rfl) (by rfl) ?_ hS rfl ?_
      rotate_left
      · intro w' hw
        go_simp
        try with_reducible rfl
      simp only [Act.put, List.setIfInBounds_toArray, List.set_cons_zero, List.set_cons_succ]
      refine hs_take (i := 9) (d := some 21) (v := .bool true) rfl (by kernel_rfl) (by kernel_rfl) (by kernel_rfl) (by rfl) (fun w' hw => by go_simp <;> (try simp) <;> (try omega)) hS rfl ?_
      simp only [Act.put, List.setIfInBounds_toArray, List.set_cons_zero, List.set_cons_succ]
      refine hs_done (by kernel_rfl) ?_
      go_wp2_with fail
      go_ret
      exact ⟨rfl, hB8⟩
  · have hne : (e != 0) = true := by simpa using he
    rw [if_neg he]
    clear h
    go_enter Tryz.func45, Tryz.ntmps45
    go_wp2_with fail
    go_ret
    exact ⟨rfl, Below.refl _ _⟩
def decX (zs : List Int) : Mp × Int :=
  if (xnuS 8 (zs, 0)).2.2 = 0 ∧ (xnuS 8 (zs, 0)).1 = 0 then (Mp.none, 130)
  else if doneE (xmgF (xnuS 8 (zs, 0)).1 (xnuS 8 (zs, 0)).2).2.1 (xmgF (xnuS 8 (zs, 0)).1 (xnuS 8 (zs, 0)).2).2.2 = 0 then ((xmgF (xnuS 8 (zs, 0)).1 (xnuS 8 (zs, 0)).2).1, 0)
  else (Mp.none, doneE (xmgF (xnuS 8 (zs, 0)).1 (xnuS 8 (zs, 0)).2).2.1 (xmgF (xnuS 8 (zs, 0)).1 (xnuS 8 (zs, 0)).2).2.2)
theorem exec_conv {P : Program} {o : Oper} {a : Act} {w w' : World} {t e : TypeId} {x : Operand} {v v' : Value} (ho : o.op = .convert t e x) (hx : a.eval x = v) (hr : (convert t e v).run P w = .ok v' w') : (execOp a.eval o).run P w = .ok (.value v') w' := by
  unfold execOp
  simp only [ho, hx, Sem.run_bind, hr, Result.andThen_ok, Sem.run_pure]
set_option maxRecDepth 100000 in
set_option maxHeartbeats 1000000 in
theorem xdecode_any (sb : ByteArray) (hs : sb.size ≤ 40000) (w : World) : Calls Tryz.prog 14 #[.string sb] w fun en w' => ∃ m : Mg, en = .returned (.tuple #[.agg m.ms.cells.toArray, .int .i64 (decX (strL sb)).2]) ∧ m.pure = (decX (strL sb)).1 ∧ m.ok ∧ m.At w' ∧ m.Bk (fun b => w.heap.size ≤ b) ∧ Below w.heap.size w w' := by
  obtain ⟨zc, hzc, hzl, hz1, hzr, hb0⟩ : ∃ z : List Value, Hid (z = Mg.none.ms.cells) ∧ z.length = 119 ∧ (∀ v ∈ z, v.oneCell' = true) ∧ (∀ w : World, (zeroValue 37).run Tryz.prog w = .ok (.agg z.toArray) w) ∧ ∀ w : World, (Instr.build 37 #[]).run Tryz.prog w = .ok (.agg z.toArray) w := ⟨_, hide rfl, Mg.none_ok.ms.len, Mg.none_ok.ms.one, zeroM, build_none⟩
  have hiz : (Tryz.prog.info? 37).map (·.size) = some zc.length := by rw [hzl]; exact iszM
  have hsl : (strL sb).length ≤ 40000 := by rw [strL_length]; exact hs
  have hs' : (sb.size : Int) ≤ 4194304 := by omega
  have hcB := fun w0 => bytes_of sb (by omega) w0
  unfold decX
  generalize strL sb = zs at hsl hcB ⊢
  have ck := fun D X w0 h0 => xnumS D X 8 (zs, 0) w0 h0
  generalize xnuS 8 (zs, 0) = p_ at ck ⊢
  obtain ⟨kk, s1, ek⟩ := p_
  simp only at ck ⊢
  have cf := fun D X w0 h0 => xfieldsS D X kk (s1, ek) w0 h0
  generalize xmgF kk (s1, ek) = p_ at cf ⊢
  obtain ⟨mp, t⟩ := p_
  simp only at cf ⊢
  have cd := fun D X w0 h0 => xdoneS D X t w0 h0
  generalize doneE t.1 t.2 = f at cd ⊢
  have hbk := build_kind kk
  have hql := (ms0_ok kk).len
  have hq1 := (ms0_ok kk).one
  have hiq : (Tryz.prog.info? 37).map (·.size) = some (Ms.plain kk 0 0 Vt.zero zeros32).cells.length := by rw [hql]; exact iszM
  have hk0 : ∀ (w' : World) b, w'.rangeAt b 0 (Ms.plain kk 0 0 Vt.zero zeros32).cells → w'.cell? ⟨b, 0, none⟩ = some (.int .i64 kk) := fun w' b h => ((ms0_ok kk).at h).k
  generalize (Ms.plain kk 0 0 Vt.zero zeros32).cells = qk at hbk hql hq1 hiq hk0 cf
  obtain ⟨hB1, hr1, hs1⟩ := boxed_new w zc 37
  have ht1 := there_newN w zc.toArray 37 (n := 119) (by simp [hzl])
  go_enter Tryz.func14, Tryz.ntmps14
  go_upto_region 0 with fail
  try simp only [Act.put]
  refine pl_begin ?_
  refine pl_run (d := some 2) (v := .pointer (some ⟨w.heap.size, 0, none⟩)) (w' := w.alloc (.cells zc.toArray 37)) (by rfl) (ex_alloc rfl (hzr _)) rfl ?_
  simp only [Act.put, List.setIfInBounds_toArray, List.set_cons_zero, List.set_cons_succ]
  refine pl_take (d := some 3) (v := ?_) (by rfl) ?_ rfl ?_
  rotate_left
  · go_simp
    try with_reducible rfl
  simp only [Act.put, List.setIfInBounds_toArray, List.set_cons_zero, List.set_cons_succ]
  refine pl_nil ?_
  obtain ⟨W1, hW1⟩ : ∃ W, w.alloc (.cells zc.toArray 37) = W := ⟨_, rfl⟩
  rw [hW1] at hB1 hr1 hs1 ht1 ⊢
  clear hW1 hr1
  obtain ⟨cB, wB, hcv, hrB, hbB⟩ := hcB W1
  have cn := refRead_any (some ⟨W1.heap.size, 0, none⟩) cB zs wB hrB hsl
  go_upto_region 3 with fail
  try simp only [Act.put]
  refine pl_begin ?_
  refine pl_take (d := some 11) (v := ?_) (by rfl) ?_ rfl ?_
  rotate_left
  · go_simp
    try with_reducible rfl
  simp only [Act.put, List.setIfInBounds_toArray, List.set_cons_zero, List.set_cons_succ]
  refine pl_run (d := some 12) (v := .slice (some ⟨W1.heap.size, 0, none⟩) zs.length cB) (w' := wB) (by rfl) (exec_conv rfl rfl hcv) rfl ?_
  simp only [Act.put, List.setIfInBounds_toArray, List.set_cons_zero, List.set_cons_succ]
  refine pl_call (d := some 13) (by rfl) (by go_simp; first | done | exact ⟨rfl, rfl⟩ | with_reducible rfl) rfl ?_
  refine (cn).mono ?_
  rintro _ w2 ⟨X, rfl, hX, S2, hb2⟩
  refine ⟨_, rfl, ?_⟩
  simp only [Act.put, List.setIfInBounds_toArray, List.set_cons_zero, List.set_cons_succ]
  refine pl_take (d := some 4) (v := ?_) (by rfl) ?_ rfl ?_
  rotate_left
  · go_simp
    try with_reducible rfl
  simp only [Act.put, List.setIfInBounds_toArray, List.set_cons_zero, List.set_cons_succ]
  refine pl_nil ?_
  have zB := hbB.size
  have z2 := hb2.size
  have hT2 := there_below (there_below ht1 hbB hs1) hb2 (by omega)
  have hB2 := hB1.trans ((hbB.trans (hb2.mono hbB.size)).mono hB1.size)
  have R2 : XR w2 wB.heap.size X (zs, 0) := ⟨S2, (by obtain ⟨_, _, hR, _⟩ := S2; exact hR.1), hX⟩
  have ck := ck wB.heap.size X
  have cf := cf wB.heap.size X
  have cd := cd wB.heap.size X
  have hXw := R2.lx
  clear cn hcv hrB hbB hb2 S2 ht1 hB1 hcB
  go_upto_region 4 with fail
  try simp only [Act.put]
  refine pl_begin ?_
  refine pl_take (d := some 14) (v := ?_) (by rfl) ?_ rfl ?_
  rotate_left
  · go_simp
    try with_reducible rfl
  simp only [Act.put, List.setIfInBounds_toArray, List.set_cons_zero, List.set_cons_succ]
  refine pl_call (d := some 15) (by rfl) (by go_simp; first | done | exact ⟨rfl, rfl⟩ | with_reducible rfl) rfl ?_
  refine (ck w2 R2).mono ?_
  rintro _ w3 ⟨rfl, R3, g3⟩
  refine ⟨_, rfl, ?_⟩
  simp only [Act.put, List.setIfInBounds_toArray, List.set_cons_zero, List.set_cons_succ]
  refine pl_take (d := some 16) (v := .agg qk.toArray) (by rfl) (ex_build (parts := [(0, .tmp 15)]) rfl rfl (hbk _)) rfl ?_
  simp only [Act.put, List.setIfInBounds_toArray, List.set_cons_zero, List.set_cons_succ]
  refine pl_run (d := some 5) (v := .pointer (some ⟨w3.heap.size, 0, none⟩)) (w' := w3.alloc (.cells zc.toArray 37)) (by rfl) (ex_alloc rfl (hzr _)) rfl ?_
  simp only [Act.put, List.setIfInBounds_toArray, List.set_cons_zero, List.set_cons_succ]
  refine pl_store (w' := (w3.alloc (.cells zc.toArray 37)).setCells w3.heap.size 0 qk) (by rfl) (ex_put (cs := qk.toArray) rfl rfl rfl (there_newN _ _ _ (by simp [hzl, hql])) (by simpa using hiq) (all_one hq1)) rfl ?_
  refine pl_nil ?_
  obtain ⟨r4, hF2, hF3, -⟩ := fresh_store w3 zc.toArray 37 qk (by simp [hzl, hql])
  have hF4 := World.there_setCells (there_newN w3 zc.toArray 37 (n := 119) (by simp [hzl])) w3.heap.size 0 qk
  have z3 := g3.size
  have hT3 := there_gbR hT2 g3 (by omega) (by omega)
  have hB3 : Below w.heap.size w w3 := hB2.trans (gb_low g3 (by omega) (by omega))
  obtain ⟨w4, hw4⟩ : ∃ W, (w3.alloc (.cells zc.toArray 37)).setCells w3.heap.size 0 qk = W := ⟨_, rfl⟩
  rw [hw4] at r4 hF2 hF3 hF4 ⊢
  clear hw4
  have z4 := hF2.size
  have hs4 : w3.heap.size < w4.heap.size := by omega
  have R4 := R3.below hF2
  have hT4 := there_below hT3 hF2 (by omega)
  have hB4 := hB3.trans (hF2.mono hB3.size)
  have hce := R4.st.err
  simp only at hce
  have hc0 := hk0 _ _ r4
  clear hF2 hT3 hB3 R3 g3 hT2 hB2 R2 ck hbk hk0
  go_upto_region 5 with fail
  by_cases he : ek = 0
  · by_cases hk : kk = 0
    · have hcond : ek = 0 ∧ kk = 0 := ⟨he, hk⟩
      try simp only [Act.put]
      refine pl_begin ?_
      refine pl_take (d := some 17) (v := ?_) (by rfl) ?_ rfl ?_
      rotate_left
      · go_simp
        try with_reducible rfl
      simp only [Act.put, List.setIfInBounds_toArray, List.set_cons_zero, List.set_cons_succ]
      refine pl_take (d := some 18) (v := ?_) (by rfl) ?_ rfl ?_
      rotate_left
      · go_simp
        try with_reducible rfl
      simp only [Act.put, List.setIfInBounds_toArray, List.set_cons_zero, List.set_cons_succ]
      refine pl_take (d := some 19) (v := ?_) (by rfl) ?_ rfl ?_
      rotate_left
      · go_simp
        try with_reducible rfl
      simp only [Act.put, List.setIfInBounds_toArray, List.set_cons_zero, List.set_cons_succ]
      refine pl_take (d := some 20) (v := .int .i64 ek) (by rfl) (pl_one rfl rfl hce Tryz.underlying3 rfl) rfl ?_
      simp only [Act.put, List.setIfInBounds_toArray, List.set_cons_zero, List.set_cons_succ]
      refine pl_take (d := some 21) (v := .bool true) (by rfl) (by go_simp <;> simp [he]) rfl ?_
      simp only [Act.put, List.setIfInBounds_toArray, List.set_cons_zero, List.set_cons_succ]
      refine pl_take (d := some 22) (v := ?_) (by rfl) ?_ rfl ?_
      rotate_left
      · go_simp
        try with_reducible rfl
      simp only [Act.put, List.setIfInBounds_toArray, List.set_cons_zero, List.set_cons_succ]
      refine pl_take (d := some 23) (v := ?_) (by rfl) ?_ rfl ?_
      rotate_left
      · go_simp
        try with_reducible rfl
      simp only [Act.put, List.setIfInBounds_toArray, List.set_cons_zero, List.set_cons_succ]
      refine pl_take (d := some 24) (v := .int .i64 kk) (by rfl) (pl_one rfl rfl hc0 Tryz.underlying3 rfl) rfl ?_
      simp only [Act.put, List.setIfInBounds_toArray, List.set_cons_zero, List.set_cons_succ]
      refine pl_take (d := some 25) (v := .bool true) (by rfl) (by go_simp <;> simp [hk]) rfl ?_
      simp only [Act.put, List.setIfInBounds_toArray, List.set_cons_zero, List.set_cons_succ]
      refine pl_take (d := some 26) (v := ?_) (by rfl) ?_ rfl ?_
      rotate_left
      · go_simp
        try with_reducible rfl
      simp only [Act.put, List.setIfInBounds_toArray, List.set_cons_zero, List.set_cons_succ]
      refine pl_nil ?_
      clear hce hc0 R4 cf cd
      go_upto_region 6 with fail
      try simp only [Act.put]
      refine pl_begin ?_
      refine pl_take (d := some 27) (v := .agg zc.toArray) (by rfl) (ex_build (parts := []) rfl rfl (hb0 _)) rfl ?_
      simp only [Act.put, List.setIfInBounds_toArray, List.set_cons_zero, List.set_cons_succ]
      refine pl_store (w' := w4.setCells w.heap.size 0 zc) (by rfl) (ex_put (cs := zc.toArray) rfl rfl rfl (by simpa [hzl] using hT4) (by simpa using hiz) (all_one hz1)) rfl ?_
      refine pl_take (d := some 3) (v := ?_) (by rfl) ?_ rfl ?_
      rotate_left
      · go_simp
        try with_reducible rfl
      simp only [Act.put, List.setIfInBounds_toArray, List.set_cons_zero, List.set_cons_succ]
      refine pl_nil ?_
      have hrs := run_loadVar_mid (P := Tryz.prog) (w4.setCells w.heap.size 0 zc) w.heap.size 0 37 zc _ (World.rangeAt_setCells_same w4 w.heap.size 0 zc (by rw [hzl]; exact hT4)) Tryz.underlying37 rfl hiz
      have HF : Hid (∃ g : Mg, Ending.returned (.tuple #[.agg zc.toArray, .int .i64 130]) = .returned (.tuple #[.agg g.ms.cells.toArray, .int .i64 130]) ∧ g.pure = Mp.none ∧ g.ok ∧ g.At (w4.setCells w.heap.size 0 zc) ∧ g.Bk (fun b => w.heap.size ≤ b) ∧ Below w.heap.size w (w4.setCells w.heap.size 0 zc)) := hide ⟨Mg.none, by rw [hzc.out], rfl, Mg.none_ok, Mg.none_at _, ⟨no_bk, no_bk, no_bk2, no_bk, no_bk, no_bk⟩, below_sets (Nat.le_refl w.heap.size) zc 0 _ hB4⟩
      clear hB4 hT4 hzc r4 hF4
      go_wp2_with fail
      refine bodyPost_ret (results_ct rfl _ _ _ rfl hrs) rfl ?_
      first | exact HF.out | (rw [if_pos hcond]; exact HF.out) | (simp only [if_pos hcond]; exact HF.out)
    · have hcond : ¬ (ek = 0 ∧ kk = 0) := fun q => hk q.2
      try simp only [Act.put]
      refine pl_begin ?_
      refine pl_take (d := some 17) (v := ?_) (by rfl) ?_ rfl ?_
      rotate_left
      · go_simp
        try with_reducible rfl
      simp only [Act.put, List.setIfInBounds_toArray, List.set_cons_zero, List.set_cons_succ]
      refine pl_take (d := some 18) (v := ?_) (by rfl) ?_ rfl ?_
      rotate_left
      · go_simp
        try with_reducible rfl
      simp only [Act.put, List.setIfInBounds_toArray, List.set_cons_zero, List.set_cons_succ]
      refine pl_take (d := some 19) (v := ?_) (by rfl) ?_ rfl ?_
      rotate_left
      · go_simp
        try with_reducible rfl
      simp only [Act.put, List.setIfInBounds_toArray, List.set_cons_zero, List.set_cons_succ]
      refine pl_take (d := some 20) (v := .int .i64 ek) (by rfl) (pl_one rfl rfl hce Tryz.underlying3 rfl) rfl ?_
      simp only [Act.put, List.setIfInBounds_toArray, List.set_cons_zero, List.set_cons_succ]
      refine pl_take (d := some 21) (v := .bool true) (by rfl) (by go_simp <;> simp [he]) rfl ?_
      simp only [Act.put, List.setIfInBounds_toArray, List.set_cons_zero, List.set_cons_succ]
      refine pl_take (d := some 22) (v := ?_) (by rfl) ?_ rfl ?_
      rotate_left
      · go_simp
        try with_reducible rfl
      simp only [Act.put, List.setIfInBounds_toArray, List.set_cons_zero, List.set_cons_succ]
      refine pl_take (d := some 23) (v := ?_) (by rfl) ?_ rfl ?_
      rotate_left
      · go_simp
        try with_reducible rfl
      simp only [Act.put, List.setIfInBounds_toArray, List.set_cons_zero, List.set_cons_succ]
      refine pl_take (d := some 24) (v := .int .i64 kk) (by rfl) (pl_one rfl rfl hc0 Tryz.underlying3 rfl) rfl ?_
      simp only [Act.put, List.setIfInBounds_toArray, List.set_cons_zero, List.set_cons_succ]
      refine pl_take (d := some 25) (v := .bool false) (by rfl) (by go_simp <;> simp [hk]) rfl ?_
      simp only [Act.put, List.setIfInBounds_toArray, List.set_cons_zero, List.set_cons_succ]
      refine pl_take (d := some 26) (v := ?_) (by rfl) ?_ rfl ?_
      rotate_left
      · go_simp
        try with_reducible rfl
      simp only [Act.put, List.setIfInBounds_toArray, List.set_cons_zero, List.set_cons_succ]
      refine pl_nil ?_
      clear hce hc0
      go_upto_region 7 with fail
      try simp only [Act.put]
      refine pl_begin ?_
      refine pl_take (d := some 28) (v := ?_) (by rfl) ?_ rfl ?_
      rotate_left
      · go_simp
        try with_reducible rfl
      simp only [Act.put, List.setIfInBounds_toArray, List.set_cons_zero, List.set_cons_succ]
      refine pl_take (d := some 29) (v := .agg qk.toArray) (by rfl) (ex_mid rfl rfl r4 Tryz.underlying37 rfl hiq) rfl ?_
      simp only [Act.put, List.setIfInBounds_toArray, List.set_cons_zero, List.set_cons_succ]
      refine pl_call (d := some 30) (by rfl) (by go_simp; first | done | exact ⟨rfl, rfl⟩ | with_reducible rfl) rfl ?_
      refine (cf w4 R4).mono ?_
      rintro _ w5 ⟨m, rfl, hp, hmo, hA, hB, R5, g5⟩
      refine ⟨_, rfl, ?_⟩
      simp only [Act.put, List.setIfInBounds_toArray, List.set_cons_zero, List.set_cons_succ]
      have hqm := hmo.ms.len
      have hqn := hmo.ms.one
      have hqi : (Tryz.prog.info? 37).map (·.size) = some m.ms.cells.length := by rw [hqm]; exact iszM
      obtain ⟨q, hqq⟩ : ∃ q, Hid (m.ms.cells = q) := ⟨_, hide rfl⟩
      simp only [hqq.out] at hqm hqn hqi ⊢
      have tB5 := there_gbR hF4 g5 hs4 (by omega)
      have hT5 := there_gbR hT4 g5 (by omega) (by omega)
      refine pl_store (w' := w5.setCells w3.heap.size 0 q) (by rfl) (ex_put (cs := q.toArray) rfl rfl rfl (by simpa [hqm] using tB5) (by simpa using hqi) (all_one hqn)) rfl ?_
      refine pl_nil ?_
      have V6 := gb_low (n := w3.heap.size) (gb_setsR w5 w3.heap.size q 0) (Nat.le_refl _) (by have := g5.size; omega)
      have r6 := World.rangeAt_setCells_same w5 w3.heap.size 0 q (by rw [hqm]; exact tB5)
      have z5 := g5.size
      have hT6 := World.there_setCells hT5 w3.heap.size 0 q
      have hB5 : Below w.heap.size w w5 := hB4.trans (gb_low g5 (by omega) (by omega))
      have hA6 := Mg.At.put (n := w3.heap.size) (o := 0) (vs := q) hA ⟨hB.1.mono (fun b hb => by omega), hB.2.1.mono (fun b hb => by omega), fun y hy => (hB.2.2.1 y hy).mono (fun b hb => by omega), hB.2.2.2.1.mono (fun b hb => by omega), hB.2.2.2.2.1.mono (fun b hb => by omega), hB.2.2.2.2.2.mono (fun b hb => by omega)⟩
      have hB6 := below_sets (b := w3.heap.size) (by omega) q 0 _ hB5
      have R6 := R5.low V6 (by omega)
      have z6 : (w5.setCells w3.heap.size 0 q).heap.size = w5.heap.size := size_sets ..
      obtain ⟨w6, hw6⟩ : ∃ W, w5.setCells w3.heap.size 0 q = W := ⟨_, rfl⟩
      rw [hw6] at V6 r6 hT6 hA6 hB6 R6 z6 ⊢
      clear hw6 V6 hA hB5 R5 tB5 hT5 r4 hF4 hT4 hB4 R4
      go_upto_region 8 with fail
      try simp only [Act.put]
      refine pl_begin ?_
      refine pl_take (d := some 31) (v := ?_) (by rfl) ?_ rfl ?_
      rotate_left
      · go_simp
        try with_reducible rfl
      simp only [Act.put, List.setIfInBounds_toArray, List.set_cons_zero, List.set_cons_succ]
      refine pl_call (d := some 32) (by rfl) (by go_simp; first | done | exact ⟨rfl, rfl⟩ | with_reducible rfl) rfl ?_
      refine (cd w6 R6).mono ?_
      rintro _ w7 ⟨rfl, hb7⟩
      refine ⟨_, rfl, ?_⟩
      simp only [Act.put, List.setIfInBounds_toArray, List.set_cons_zero, List.set_cons_succ]
      refine pl_take (d := some 6) (v := ?_) (by rfl) ?_ rfl ?_
      rotate_left
      · go_simp
        try with_reducible rfl
      simp only [Act.put, List.setIfInBounds_toArray, List.set_cons_zero, List.set_cons_succ]
      refine pl_nil ?_
      have r7 := range_below r6 hb7 (by omega)
      have hT7 := there_below hT6 hb7 (by omega)
      have hB7 := hB6.trans (hb7.mono hB6.size)
      have hA7 := hA6.below hb7
      have hBk : m.Bk (fun b => w.heap.size < b) := ⟨hB.1.mono (fun b hb => by omega), hB.2.1.mono (fun b hb => by omega), fun y hy => (hB.2.2.1 y hy).mono (fun b hb => by omega), hB.2.2.2.1.mono (fun b hb => by omega), hB.2.2.2.2.1.mono (fun b hb => by omega), hB.2.2.2.2.2.mono (fun b hb => by omega)⟩
      have hBk0 : m.Bk (fun b => w.heap.size ≤ b) := ⟨hB.1.mono (fun b hb => by omega), hB.2.1.mono (fun b hb => by omega), fun y hy => (hB.2.2.1 y hy).mono (fun b hb => by omega), hB.2.2.2.1.mono (fun b hb => by omega), hB.2.2.2.2.1.mono (fun b hb => by omega), hB.2.2.2.2.2.mono (fun b hb => by omega)⟩
      have B9 := fun vs => below_sets (Nat.le_refl w.heap.size) vs 0 _ hB7
      have A9 := fun vs => Mg.At.put (o := 0) (vs := vs) hA7 hBk
      have HM := hide (show m.pure = mp ∧ m.ok ∧ m.Bk (fun b => w.heap.size ≤ b) from ⟨hp, hmo, hBk0⟩)
      clear hA6 hB hBk hBk0 hT6 hB6 R6 r6 hp hmo hA7 hb7 cd cf g5
      by_cases hf : f = 0
      · subst hf
        go_upto_region 11 with fail
        try simp only [Act.put]
        refine pl_begin ?_
        refine pl_take (d := some 37) (v := .agg q.toArray) (by rfl) (ex_mid rfl rfl r7 Tryz.underlying37 rfl hqi) rfl ?_
        simp only [Act.put, List.setIfInBounds_toArray, List.set_cons_zero, List.set_cons_succ]
        refine pl_store (w' := w7.setCells w.heap.size 0 q) (by rfl) (ex_put (cs := q.toArray) rfl rfl rfl (by simpa [hqm] using hT7) (by simpa using hqi) (all_one hqn)) rfl ?_
        refine pl_take (d := some 3) (v := ?_) (by rfl) ?_ rfl ?_
        rotate_left
        · go_simp
          try with_reducible rfl
        simp only [Act.put, List.setIfInBounds_toArray, List.set_cons_zero, List.set_cons_succ]
        refine pl_nil ?_
        have hrs := run_loadVar_mid (P := Tryz.prog) (w7.setCells w.heap.size 0 q) w.heap.size 0 37 q _ (World.rangeAt_setCells_same w7 w.heap.size 0 q (by rw [hqm]; exact hT7)) Tryz.underlying37 rfl hqi
        have HF : Hid (∃ g : Mg, Ending.returned (.tuple #[.agg q.toArray, .int .i64 0]) = .returned (.tuple #[.agg g.ms.cells.toArray, .int .i64 0]) ∧ g.pure = mp ∧ g.ok ∧ g.At (w7.setCells w.heap.size 0 q) ∧ g.Bk (fun b => w.heap.size ≤ b) ∧ Below w.heap.size w (w7.setCells w.heap.size 0 q)) := hide ⟨m, by rw [hqq.out], HM.out.1, HM.out.2.1, A9 q, HM.out.2.2, B9 q⟩
        clear HM A9 B9 r7 hB7 hT7 hqq
        go_wp2_with fail
        refine bodyPost_ret (results_ct rfl _ _ _ rfl hrs) rfl ?_
        first | exact HF.out | (rw [if_neg hcond]; exact HF.out) | (simp only [if_neg hcond]; exact HF.out)
      · have hfb : (f != 0) = true := by simpa using hf
        go_upto_region 10 with fail
        try simp only [Act.put]
        refine pl_begin ?_
        refine pl_take (d := some 35) (v := .agg zc.toArray) (by rfl) (ex_build (parts := []) rfl rfl (hb0 _)) rfl ?_
        simp only [Act.put, List.setIfInBounds_toArray, List.set_cons_zero, List.set_cons_succ]
        refine pl_take (d := some 36) (v := ?_) (by rfl) ?_ rfl ?_
        rotate_left
        · go_simp
          try with_reducible rfl
        simp only [Act.put, List.setIfInBounds_toArray, List.set_cons_zero, List.set_cons_succ]
        refine pl_store (w' := w7.setCells w.heap.size 0 zc) (by rfl) (ex_put (cs := zc.toArray) rfl rfl rfl (by simpa [hzl] using hT7) (by simpa using hiz) (all_one hz1)) rfl ?_
        refine pl_take (d := some 3) (v := ?_) (by rfl) ?_ rfl ?_
        rotate_left
        · go_simp
          try with_reducible rfl
        simp only [Act.put, List.setIfInBounds_toArray, List.set_cons_zero, List.set_cons_succ]
        refine pl_nil ?_
        have hrs := run_loadVar_mid (P := Tryz.prog) (w7.setCells w.heap.size 0 zc) w.heap.size 0 37 zc _ (World.rangeAt_setCells_same w7 w.heap.size 0 zc (by rw [hzl]; exact hT7)) Tryz.underlying37 rfl hiz
        have HF : Hid (∃ g : Mg, Ending.returned (.tuple #[.agg zc.toArray, .int .i64 f]) = .returned (.tuple #[.agg g.ms.cells.toArray, .int .i64 f]) ∧ g.pure = Mp.none ∧ g.ok ∧ g.At (w7.setCells w.heap.size 0 zc) ∧ g.Bk (fun b => w.heap.size ≤ b) ∧ Below w.heap.size w (w7.setCells w.heap.size 0 zc)) := hide ⟨Mg.none, by rw [hzc.out], rfl, Mg.none_ok, Mg.none_at _, ⟨no_bk, no_bk, no_bk2, no_bk, no_bk, no_bk⟩, B9 zc⟩
        clear HM A9 B9 r7 hB7 hT7 hqq hzc
        go_wp2_with fail
        refine bodyPost_ret (results_ct rfl _ _ _ rfl hrs) rfl ?_
        first | exact HF.out | (rw [if_neg hcond, if_neg hf]; exact HF.out) | (simp only [if_neg hcond, if_neg hf]; exact HF.out)
  · have hcond : ¬ (ek = 0 ∧ kk = 0) := fun q => he q.1
    have hk : True := trivial
    try simp only [Act.put]
    refine pl_begin ?_
    refine pl_take (d := some 17) (v := ?_) (by rfl) ?_ rfl ?_
    rotate_left
    · go_simp
      try with_reducible rfl
    simp only [Act.put, List.setIfInBounds_toArray, List.set_cons_zero, List.set_cons_succ]
    refine pl_take (d := some 18) (v := ?_) (by rfl) ?_ rfl ?_
    rotate_left
    · go_simp
      try with_reducible rfl
    simp only [Act.put, List.setIfInBounds_toArray, List.set_cons_zero, List.set_cons_succ]
    refine pl_take (d := some 19) (v := ?_) (by rfl) ?_ rfl ?_
    rotate_left
    · go_simp
      try with_reducible rfl
    simp only [Act.put, List.setIfInBounds_toArray, List.set_cons_zero, List.set_cons_succ]
    refine pl_take (d := some 20) (v := .int .i64 ek) (by rfl) (pl_one rfl rfl hce Tryz.underlying3 rfl) rfl ?_
    simp only [Act.put, List.setIfInBounds_toArray, List.set_cons_zero, List.set_cons_succ]
    refine pl_take (d := some 21) (v := .bool false) (by rfl) (by go_simp <;> simp [he]) rfl ?_
    simp only [Act.put, List.setIfInBounds_toArray, List.set_cons_zero, List.set_cons_succ]
    refine pl_take (d := some 22) (v := ?_) (by rfl) ?_ rfl ?_
    rotate_left
    · go_simp
      try with_reducible rfl
    simp only [Act.put, List.setIfInBounds_toArray, List.set_cons_zero, List.set_cons_succ]
    refine pl_skip (d := some 23) (by rfl) rfl ?_
    simp only [Act.put, List.setIfInBounds_toArray, List.set_cons_zero, List.set_cons_succ]
    refine pl_skip (d := some 24) (by rfl) rfl ?_
    simp only [Act.put, List.setIfInBounds_toArray, List.set_cons_zero, List.set_cons_succ]
    refine pl_skip (d := some 25) (by rfl) rfl ?_
    simp only [Act.put, List.setIfInBounds_toArray, List.set_cons_zero, List.set_cons_succ]
    refine pl_take (d := some 26) (v := ?_) (by rfl) ?_ rfl ?_
    rotate_left
    · go_simp
      try with_reducible rfl
    simp only [Act.put, List.setIfInBounds_toArray, List.set_cons_zero, List.set_cons_succ]
    refine pl_nil ?_
    clear hce hc0
    go_upto_region 7 with fail
    try simp only [Act.put]
    refine pl_begin ?_
    refine pl_take (d := some 28) (v := ?_) (by rfl) ?_ rfl ?_
    rotate_left
    · go_simp
      try with_reducible rfl
    simp only [Act.put, List.setIfInBounds_toArray, List.set_cons_zero, List.set_cons_succ]
    refine pl_take (d := some 29) (v := .agg qk.toArray) (by rfl) (ex_mid rfl rfl r4 Tryz.underlying37 rfl hiq) rfl ?_
    simp only [Act.put, List.setIfInBounds_toArray, List.set_cons_zero, List.set_cons_succ]
    refine pl_call (d := some 30) (by rfl) (by go_simp; first | done | exact ⟨rfl, rfl⟩ | with_reducible rfl) rfl ?_
    refine (cf w4 R4).mono ?_
    rintro _ w5 ⟨m, rfl, hp, hmo, hA, hB, R5, g5⟩
    refine ⟨_, rfl, ?_⟩
    simp only [Act.put, List.setIfInBounds_toArray, List.set_cons_zero, List.set_cons_succ]
    have hqm := hmo.ms.len
    have hqn := hmo.ms.one
    have hqi : (Tryz.prog.info? 37).map (·.size) = some m.ms.cells.length := by rw [hqm]; exact iszM
    obtain ⟨q, hqq⟩ : ∃ q, Hid (m.ms.cells = q) := ⟨_, hide rfl⟩
    simp only [hqq.out] at hqm hqn hqi ⊢
    have tB5 := there_gbR hF4 g5 hs4 (by omega)
    have hT5 := there_gbR hT4 g5 (by omega) (by omega)
    refine pl_store (w' := w5.setCells w3.heap.size 0 q) (by rfl) (ex_put (cs := q.toArray) rfl rfl rfl (by simpa [hqm] using tB5) (by simpa using hqi) (all_one hqn)) rfl ?_
    refine pl_nil ?_
    have V6 := gb_low (n := w3.heap.size) (gb_setsR w5 w3.heap.size q 0) (Nat.le_refl _) (by have := g5.size; omega)
    have r6 := World.rangeAt_setCells_same w5 w3.heap.size 0 q (by rw [hqm]; exact tB5)
    have z5 := g5.size
    have hT6 := World.there_setCells hT5 w3.heap.size 0 q
    have hB5 : Below w.heap.size w w5 := hB4.trans (gb_low g5 (by omega) (by omega))
    have hA6 := Mg.At.put (n := w3.heap.size) (o := 0) (vs := q) hA ⟨hB.1.mono (fun b hb => by omega), hB.2.1.mono (fun b hb => by omega), fun y hy => (hB.2.2.1 y hy).mono (fun b hb => by omega), hB.2.2.2.1.mono (fun b hb => by omega), hB.2.2.2.2.1.mono (fun b hb => by omega), hB.2.2.2.2.2.mono (fun b hb => by omega)⟩
    have hB6 := below_sets (b := w3.heap.size) (by omega) q 0 _ hB5
    have R6 := R5.low V6 (by omega)
    have z6 : (w5.setCells w3.heap.size 0 q).heap.size = w5.heap.size := size_sets ..
    obtain ⟨w6, hw6⟩ : ∃ W, w5.setCells w3.heap.size 0 q = W := ⟨_, rfl⟩
    rw [hw6] at V6 r6 hT6 hA6 hB6 R6 z6 ⊢
    clear hw6 V6 hA hB5 R5 tB5 hT5 r4 hF4 hT4 hB4 R4
    go_upto_region 8 with fail
    try simp only [Act.put]
    refine pl_begin ?_
    refine pl_take (d := some 31) (v := ?_) (by rfl) ?_ rfl ?_
    rotate_left
    · go_simp
      try with_reducible rfl
    simp only [Act.put, List.setIfInBounds_toArray, List.set_cons_zero, List.set_cons_succ]
    refine pl_call (d := some 32) (by rfl) (by go_simp; first | done | exact ⟨rfl, rfl⟩ | with_reducible rfl) rfl ?_
    refine (cd w6 R6).mono ?_
    rintro _ w7 ⟨rfl, hb7⟩
    refine ⟨_, rfl, ?_⟩
    simp only [Act.put, List.setIfInBounds_toArray, List.set_cons_zero, List.set_cons_succ]
    refine pl_take (d := some 6) (v := ?_) (by rfl) ?_ rfl ?_
    rotate_left
    · go_simp
      try with_reducible rfl
    simp only [Act.put, List.setIfInBounds_toArray, List.set_cons_zero, List.set_cons_succ]
    refine pl_nil ?_
    have r7 := range_below r6 hb7 (by omega)
    have hT7 := there_below hT6 hb7 (by omega)
    have hB7 := hB6.trans (hb7.mono hB6.size)
    have hA7 := hA6.below hb7
    have hBk : m.Bk (fun b => w.heap.size < b) := ⟨hB.1.mono (fun b hb => by omega), hB.2.1.mono (fun b hb => by omega), fun y hy => (hB.2.2.1 y hy).mono (fun b hb => by omega), hB.2.2.2.1.mono (fun b hb => by omega), hB.2.2.2.2.1.mono (fun b hb => by omega), hB.2.2.2.2.2.mono (fun b hb => by omega)⟩
    have hBk0 : m.Bk (fun b => w.heap.size ≤ b) := ⟨hB.1.mono (fun b hb => by omega), hB.2.1.mono (fun b hb => by omega), fun y hy => (hB.2.2.1 y hy).mono (fun b hb => by omega), hB.2.2.2.1.mono (fun b hb => by omega), hB.2.2.2.2.1.mono (fun b hb => by omega), hB.2.2.2.2.2.mono (fun b hb => by omega)⟩
    have B9 := fun vs => below_sets (Nat.le_refl w.heap.size) vs 0 _ hB7
    have A9 := fun vs => Mg.At.put (o := 0) (vs := vs) hA7 hBk
    have HM := hide (show m.pure = mp ∧ m.ok ∧ m.Bk (fun b => w.heap.size ≤ b) from ⟨hp, hmo, hBk0⟩)
    clear hA6 hB hBk hBk0 hT6 hB6 R6 r6 hp hmo hA7 hb7 cd cf g5
    by_cases hf : f = 0
    · subst hf
      go_upto_region 11 with fail
      try simp only [Act.put]
      refine pl_begin ?_
      refine pl_take (d := some 37) (v := .agg q.toArray) (by rfl) (ex_mid rfl rfl r7 Tryz.underlying37 rfl hqi) rfl ?_
      simp only [Act.put, List.setIfInBounds_toArray, List.set_cons_zero, List.set_cons_succ]
      refine pl_store (w' := w7.setCells w.heap.size 0 q) (by rfl) (ex_put (cs := q.toArray) rfl rfl rfl (by simpa [hqm] using hT7) (by simpa using hqi) (all_one hqn)) rfl ?_
      refine pl_take (d := some 3) (v := ?_) (by rfl) ?_ rfl ?_
      rotate_left
      · go_simp
        try with_reducible rfl
      simp only [Act.put, List.setIfInBounds_toArray, List.set_cons_zero, List.set_cons_succ]
      refine pl_nil ?_
      have hrs := run_loadVar_mid (P := Tryz.prog) (w7.setCells w.heap.size 0 q) w.heap.size 0 37 q _ (World.rangeAt_setCells_same w7 w.heap.size 0 q (by rw [hqm]; exact hT7)) Tryz.underlying37 rfl hqi
      have HF : Hid (∃ g : Mg, Ending.returned (.tuple #[.agg q.toArray, .int .i64 0]) = .returned (.tuple #[.agg g.ms.cells.toArray, .int .i64 0]) ∧ g.pure = mp ∧ g.ok ∧ g.At (w7.setCells w.heap.size 0 q) ∧ g.Bk (fun b => w.heap.size ≤ b) ∧ Below w.heap.size w (w7.setCells w.heap.size 0 q)) := hide ⟨m, by rw [hqq.out], HM.out.1, HM.out.2.1, A9 q, HM.out.2.2, B9 q⟩
      clear HM A9 B9 r7 hB7 hT7 hqq
      go_wp2_with fail
      refine bodyPost_ret (results_ct rfl _ _ _ rfl hrs) rfl ?_
      first | exact HF.out | (rw [if_neg hcond]; exact HF.out) | (simp only [if_neg hcond]; exact HF.out)
    · have hfb : (f != 0) = true := by simpa using hf
      go_upto_region 10 with fail
      try simp only [Act.put]
      refine pl_begin ?_
      refine pl_take (d := some 35) (v := .agg zc.toArray) (by rfl) (ex_build (parts := []) rfl rfl (hb0 _)) rfl ?_
      simp only [Act.put, List.setIfInBounds_toArray, List.set_cons_zero, List.set_cons_succ]
      refine pl_take (d := some 36) (v := ?_) (by rfl) ?_ rfl ?_
      rotate_left
      · go_simp
        try with_reducible rfl
      simp only [Act.put, List.setIfInBounds_toArray, List.set_cons_zero, List.set_cons_succ]
      refine pl_store (w' := w7.setCells w.heap.size 0 zc) (by rfl) (ex_put (cs := zc.toArray) rfl rfl rfl (by simpa [hzl] using hT7) (by simpa using hiz) (all_one hz1)) rfl ?_
      refine pl_take (d := some 3) (v := ?_) (by rfl) ?_ rfl ?_
      rotate_left
      · go_simp
        try with_reducible rfl
      simp only [Act.put, List.setIfInBounds_toArray, List.set_cons_zero, List.set_cons_succ]
      refine pl_nil ?_
      have hrs := run_loadVar_mid (P := Tryz.prog) (w7.setCells w.heap.size 0 zc) w.heap.size 0 37 zc _ (World.rangeAt_setCells_same w7 w.heap.size 0 zc (by rw [hzl]; exact hT7)) Tryz.underlying37 rfl hiz
      have HF : Hid (∃ g : Mg, Ending.returned (.tuple #[.agg zc.toArray, .int .i64 f]) = .returned (.tuple #[.agg g.ms.cells.toArray, .int .i64 f]) ∧ g.pure = Mp.none ∧ g.ok ∧ g.At (w7.setCells w.heap.size 0 zc) ∧ g.Bk (fun b => w.heap.size ≤ b) ∧ Below w.heap.size w (w7.setCells w.heap.size 0 zc)) := hide ⟨Mg.none, by rw [hzc.out], rfl, Mg.none_ok, Mg.none_at _, ⟨no_bk, no_bk, no_bk2, no_bk, no_bk, no_bk⟩, B9 zc⟩
      clear HM A9 B9 r7 hB7 hT7 hqq hzc
      go_wp2_with fail
      refine bodyPost_ret (results_ct rfl _ _ _ rfl hrs) rfl ?_
      first | exact HF.out | (rw [if_neg hcond, if_neg hf]; exact HF.out) | (simp only [if_neg hcond, if_neg hf]; exact HF.out)
end Go.Proofs.YtgjalkbianpibaaGreat
namespace Go.Proofs.YtgjalkbianpibaaGreat
open Go.RowKit
open Sha Tal
set_option linter.unusedVariables false
set_option linter.unusedSimpArgs false
/-- what the program's reader will tell, if it is bad -/
def cod (s : Rst) : Int := if s.2.2 = true then 130 else s.2.1
/-- both readers are at the same place, or both have the same to tell -/
def Sim (s : Rst) (t : Xst) : Prop := (s = (t.1, 0, false) ∧ t.2 = 0) ∨ (cod s ≠ 0 ∧ t.2 = cod s)
structure Pair {α : Type} (f : Rst → α × Rst) (xf : Xst → α × Xst) : Prop where
  bad : ∀ s, cod s ≠ 0 → cod (f s).2 = cod s
  xbad : ∀ t, t.2 ≠ 0 → (xf t).2.2 = t.2
  ok : ∀ r, Sim (f (r, 0, false)).2 (xf (r, 0)).2 ∧ (cod (f (r, 0, false)).2 = 0 → (f (r, 0, false)).1 = (xf (r, 0)).1)
theorem Sim.code {s : Rst} {t : Xst} (h : Sim s t) : t.2 = cod s := by
  rcases h with ⟨h1, h2⟩ | h
  · rw [h1, h2]; rfl
  · exact h.2
theorem Pair.go {α : Type} {f : Rst → α × Rst} {xf : Xst → α × Xst} (p : Pair f xf) {s : Rst} {t : Xst} (h : Sim s t) : Sim (f s).2 (xf t).2 ∧ (cod (f s).2 = 0 → (f s).1 = (xf t).1) := by
  rcases h with ⟨h1, h2⟩ | ⟨h1, h2⟩
  · obtain ⟨r, e⟩ := t
    subst h1
    have h2 : e = 0 := h2
    subst h2
    exact p.ok r
  · have c := p.bad s h1
    refine ⟨.inr ⟨by rw [c]; exact h1, ?_⟩, fun q => absurd (c.symm.trans q) h1⟩
    rw [p.xbad t (by rw [h2]; exact h1), h2, c]
theorem Pair.simple {α : Type} (g : List Int → Int → α × List Int × Int) (hg : ∀ r e, e ≠ 0 → (g r e).2.2 = e) : Pair (fun s => ((g s.1 s.2.1).1, (g s.1 s.2.1).2.1, (g s.1 s.2.1).2.2, s.2.2)) (fun t => ((g t.1 t.2).1, (g t.1 t.2).2)) := by
  refine ⟨fun s h => ?_, fun t h => hg _ _ h, fun r => ⟨?_, fun _ => rfl⟩⟩
  · obtain ⟨r, e, z⟩ := s
    cases z
    · exact hg r e h
    · rfl
  · show Sim ((g r 0).2.1, (g r 0).2.2, false) (g r 0).2
    by_cases q : (g r 0).2.2 = 0
    · exact .inl ⟨by rw [q], q⟩
    · exact .inr ⟨q, rfl⟩
theorem Pair.bind {α β γ : Type} {f : Rst → α × Rst} {xf : Xst → α × Xst} {g : Rst → β × Rst} {xg : Xst → β × Xst} (h : α → β → γ) (p : Pair f xf) (q : Pair g xg) : Pair (fun s => (h (f s).1 (g (f s).2).1, (g (f s).2).2)) (fun t => (h (xf t).1 (xg (xf t).2).1, (xg (xf t).2).2)) := by
  refine ⟨fun s hs => ?_, fun t ht => ?_, fun r => ?_⟩
  · show cod (g (f s).2).2 = cod s
    rw [q.bad _ (by rw [p.bad s hs]; exact hs), p.bad s hs]
  · show (xg (xf t).2).2.2 = t.2
    rw [q.xbad _ (by rw [p.xbad t ht]; exact ht), p.xbad t ht]
  · obtain ⟨h1, h2⟩ := p.ok r
    obtain ⟨h3, h4⟩ := q.go h1
    refine ⟨h3, fun hc => ?_⟩
    have hc1 : cod (f (r, 0, false)).2 = 0 := by
      by_cases c : cod (f (r, 0, false)).2 = 0
      · exact c
      · exact absurd ((q.bad _ c).symm.trans hc) c
    show h _ _ = h _ _
    rw [h2 hc1, h4 hc]
theorem Pair.map {α β : Type} {f : Rst → α × Rst} {xf : Xst → α × Xst} (h : α → β) (p : Pair f xf) : Pair (fun s => (h (f s).1, (f s).2)) (fun t => (h (xf t).1, (xf t).2)) :=
  ⟨p.bad, p.xbad, fun r => ⟨(p.ok r).1, fun hc => by show h _ = h _; rw [(p.ok r).2 hc]⟩⟩
theorem Pair.pure {α : Type} (a : α) : Pair (fun s => (a, s)) (fun t => (a, t)) := ⟨fun _ _ => rfl, fun _ _ => rfl, fun r => ⟨.inl ⟨rfl, rfl⟩, fun _ => rfl⟩⟩
theorem itG_bad {α : Type} {one : Rst → α × Rst} (h : ∀ s, cod s ≠ 0 → cod (one s).2 = cod s) {s : Rst} (hs : cod s ≠ 0) : ∀ k, cod (itG one s k).2 = cod s := by
  intro k
  induction k with
  | zero => rfl
  | succ k ih => show cod (one (itG one s k).2).2 = _; rw [h _ (by rw [ih]; exact hs), ih]
theorem xitG_bad {α : Type} {one : Xst → α × Xst} {t : Xst} (ht : t.2 ≠ 0) : ∀ k, (xitG one t k) = ([], t) := by
  intro k
  induction k with
  | zero => rfl
  | succ k ih => show (if (xitG one t k).2.2 = 0 then _ else xitG one t k) = _; rw [ih, if_neg ht]
theorem it_sim {α : Type} {one : Rst → α × Rst} {xone : Xst → α × Xst} (p : Pair one xone) {s : Rst} {t : Xst} (h : Sim s t) : ∀ k, Sim (itG one s k).2 (xitG xone t k).2 ∧ (cod (itG one s k).2 = 0 → (itG one s k).1 = (xitG xone t k).1) := by
  intro k
  induction k with
  | zero => exact ⟨h, fun _ => rfl⟩
  | succ k ih =>
    obtain ⟨h1, h2⟩ := ih
    obtain ⟨h3, h4⟩ := p.go h1
    show Sim (one (itG one s k).2).2 (if (xitG xone t k).2.2 = 0 then ((xitG xone t k).1 ++ [(xone (xitG xone t k).2).1], (xone (xitG xone t k).2).2) else xitG xone t k).2 ∧ (cod (one (itG one s k).2).2 = 0 → (itG one s k).1 ++ [(one (itG one s k).2).1] = (if (xitG xone t k).2.2 = 0 then ((xitG xone t k).1 ++ [(xone (xitG xone t k).2).1], (xone (xitG xone t k).2).2) else xitG xone t k).1)
    by_cases e : (xitG xone t k).2.2 = 0
    · rw [if_pos e]
      refine ⟨h3, fun hc => ?_⟩
      have c0 : cod (itG one s k).2 = 0 := by rw [← h1.code]; exact e
      rw [h2 c0, h4 hc]
    · rw [if_neg e]
      have c0 : cod (itG one s k).2 ≠ 0 := by rw [← h1.code]; exact e
      have c1 := p.bad _ c0
      exact ⟨.inr ⟨by rw [c1]; exact c0, by rw [h1.code, c1]⟩, fun hc => absurd (c1.symm.trans hc) c0⟩
theorem numS_bad (most : Int) (r : List Int) (e : Int) (h : e ≠ 0) : (numS r e most).2.2 = e := by
  unfold numS
  rw [if_neg h]
theorem textS_bad (most : Int) (r : List Int) (e : Int) (h : e ≠ 0) : (textS r e most).2.2 = e := by
  have := numS_bad 9223372036854775807 r e h
  unfold textS
  rw [if_neg (by rw [this]; exact h)]
  exact this
theorem rawS_bad (n : Int) (r : List Int) (e : Int) (h : e ≠ 0) : (rawS r e n).2.2 = e := by
  unfold rawS
  rw [if_neg h]
theorem numS_stk (most : Int) (r : List Int) {e e0 : Int} (h : e = e0) (h0 : e0 ≠ 0) : (numS r e most).2.2 = e0 := by subst h; exact numS_bad most r e h0
theorem textS_stk (most : Int) (r : List Int) {e e0 : Int} (h : e = e0) (h0 : e0 ≠ 0) : (textS r e most).2.2 = e0 := by subst h; exact textS_bad most r e h0
theorem rawS_stk (n : Int) (r : List Int) {e e0 : Int} (h : e = e0) (h0 : e0 ≠ 0) : (rawS r e n).2.2 = e0 := by subst h; exact rawS_bad n r e h0
theorem nu_pair (most : Int) : Pair (nuS most) (xnuS most) := Pair.simple (fun r e => numS r e most) (numS_bad most)
theorem dg_pair : Pair dgS xdgS := Pair.simple (fun r e => (padN 32 (rawS r e 32).1, (rawS r e 32).2)) (rawS_bad 32)
theorem tx_pair (most : Int) : Pair (txS most) (xtxS most) := Pair.simple (fun r e => (strOf (textS r e most).1, (textS r e most).2)) (textS_bad most)
theorem si_pair : Pair siS xsiS := Pair.simple (fun r e => sgS r e) (fun r e h => by
  show (rawS (numS r e 64).2.1 (numS r e 64).2.2 16).2.2 = e
  rw [rawS_bad 16 _ _ (by rw [numS_bad 64 r e h]; exact h), numS_bad 64 r e h])
theorem en_pair : Pair enS xenS := Pair.simple (fun r e => evS r e) (fun r e h => by
  show (rawS (textS (numS r e 64).2.1 (numS r e 64).2.2 4194304).2.1 (textS (numS r e 64).2.1 (numS r e 64).2.2 4194304).2.2 16).2.2 = e
  exact rawS_stk 16 _ (textS_stk 4194304 _ (numS_bad 64 r e h) h) h)
theorem ba_pair : Pair baS xbaS := Pair.simple (fun r e => (((getB r e).q, (getB r e).rs.map BRq.un), (getB r e).rest, (getB r e).err)) (fun r e h => by
  show (getB r e).err = e
  have h1 := numS_bad 5 r e h
  have h2 : (numS r e 5).1 = 0 := numS_zero (by rw [h1]; exact h)
  unfold getB
  rw [if_pos h2]
  exact h1)
theorem vtS_bad (r : List Int) (e : Int) (h : e ≠ 0) : (vtS r e).2.2 = e := by
  exact rawS_stk 32 _ (numS_stk _ _ (numS_stk _ _ (numS_stk _ _ (numS_bad 2 r e h) h) h) h) h
/-- what stands behind a vote's kind -/
def vt4 (v : Int) (r : List Int) (e : Int) : Vt × List Int × Int :=
  (⟨v, (numS r e 1048576).1, (numS (numS r e 1048576).2.1 (numS r e 1048576).2.2 1099511627776).1, (numS (numS (numS r e 1048576).2.1 (numS r e 1048576).2.2 1099511627776).2.1 (numS (numS r e 1048576).2.1 (numS r e 1048576).2.2 1099511627776).2.2 1099511627776).1, padN 32 (rawS (numS (numS (numS r e 1048576).2.1 (numS r e 1048576).2.2 1099511627776).2.1 (numS (numS r e 1048576).2.1 (numS r e 1048576).2.2 1099511627776).2.2 1099511627776).2.1 (numS (numS (numS r e 1048576).2.1 (numS r e 1048576).2.2 1099511627776).2.1 (numS (numS r e 1048576).2.1 (numS r e 1048576).2.2 1099511627776).2.2 1099511627776).2.2 32).1⟩, (rawS (numS (numS (numS r e 1048576).2.1 (numS r e 1048576).2.2 1099511627776).2.1 (numS (numS r e 1048576).2.1 (numS r e 1048576).2.2 1099511627776).2.2 1099511627776).2.1 (numS (numS (numS r e 1048576).2.1 (numS r e 1048576).2.2 1099511627776).2.1 (numS (numS r e 1048576).2.1 (numS r e 1048576).2.2 1099511627776).2.2 1099511627776).2.2 32).2)
theorem vt4_bad (v : Int) (r : List Int) (e : Int) (h : e ≠ 0) : (vt4 v r e).2.2 = e := by
  exact rawS_stk 32 _ (numS_stk _ _ (numS_stk _ _ (numS_bad 1048576 r e h) h) h) h
theorem vtS_4 (r : List Int) (e : Int) : vtS r e = vt4 (numS r e 2).1 (numS r e 2).2.1 (numS r e 2).2.2 := rfl
theorem xvtS_4 (r : List Int) (e : Int) : xvtS r e = vt4 (numS r e 2).1 (numS r e 2).2.1 (kdE r e 2) := rfl
theorem vo_pair : Pair voS xvoS := by
  refine ⟨fun s h => ?_, fun t h => ?_, fun r => ?_⟩
  · obtain ⟨r, e, z⟩ := s
    cases z
    · have h : e ≠ 0 := h
      have h1 := numS_bad 2 r e h
      have k : kdZ r e 2 false = false := by
        unfold kdZ
        rw [h1]
        have : (e == 0) = false := by simpa using h
        rw [this]
        simp
      show (if kdZ r e 2 false = true then 130 else (vtS r e).2.2) = e
      rw [k, if_neg (by decide)]
      exact vtS_bad r e h
    · have k : kdZ r e 2 true = true := by
        unfold kdZ
        simp
      show (if kdZ r e 2 true = true then 130 else (vtS r e).2.2) = 130
      rw [k, if_pos rfl]
  · obtain ⟨r, e⟩ := t
    have h : e ≠ 0 := h
    have h1 := numS_bad 2 r e h
    have k : kdE r e 2 = e := by
      unfold kdE
      rw [h1]
      have : (e == 0) = false := by simpa using h
      rw [this]
      simp
    show (xvtS r e).2.2 = e
    rw [xvtS_4, k]
    exact vt4_bad _ _ _ h
  · show Sim ((vtS r 0).2.1, (vtS r 0).2.2, kdZ r 0 2 false) (xvtS r 0).2 ∧ (cod ((vtS r 0).2.1, (vtS r 0).2.2, kdZ r 0 2 false) = 0 → (vtS r 0).1 = (xvtS r 0).1)
    rw [vtS_4, xvtS_4]
    unfold kdZ kdE
    generalize (numS r 0 2).1 = v
    generalize (numS r 0 2).2.1 = r1
    generalize (numS r 0 2).2.2 = e1
    by_cases he : e1 = 0
    · subst he
      by_cases hv : v = 0
      · subst hv
        refine ⟨.inr ⟨show (130 : Int) ≠ 0 by decide, ?_⟩, fun q => absurd q (show (130 : Int) ≠ 0 by decide)⟩
        exact vt4_bad _ _ _ (by decide)
      · have hb : (v == 0) = false := by simpa using hv
        rw [hb]
        refine ⟨?_, fun _ => rfl⟩
        by_cases q : (vt4 v r1 0).2.2 = 0
        · exact .inl ⟨by show (_, _, false) = _; rw [q]; rfl, q⟩
        · exact .inr ⟨q, rfl⟩
    · have hb : (e1 == 0) = false := by simpa using he
      rw [hb]
      have z : (if (v == 0) = true then (if false = true then true else false) else false) = false := by cases (v == 0) <;> rfl
      rw [z]
      have q := vt4_bad v r1 e1 he
      exact ⟨.inr ⟨by show (vt4 v r1 e1).2.2 ≠ 0; rw [q]; exact he, rfl⟩, fun _ => rfl⟩
theorem ls_pair {α : Type} {one : Rst → α × Rst} {xone : Xst → α × Xst} (most : Int) (p : Pair one xone) : Pair (lsS most one) (xlsS most xone) := by
  refine ⟨fun s h => ?_, fun t h => ?_, fun r => ?_⟩
  · have c := (nu_pair most).bad s h
    show cod (itG one (nuS most s).2 _).2 = _
    rw [itG_bad p.bad (by rw [c]; exact h), c]
  · have c := (nu_pair most).xbad t h
    show (xitG xone (xnuS most t).2 _).2.2 = _
    rw [xitG_bad (by rw [c]; exact h)]
    exact c
  · have c := ((nu_pair most).ok r).1
    show Sim (itG one (nuS most (r, 0, false)).2 (nuS most (r, 0, false)).1.toNat).2 (xitG xone (xnuS most (r, 0)).2 (nuS most (r, 0, false)).1.toNat).2 ∧ _
    exact it_sim p c _
theorem ce_pair : Pair ceS xceS := Pair.bind (fun a b => (a, b)) vo_pair (ls_pair 64 si_pair)
theorem he_pair : Pair heS xheS := Pair.bind (fun a b => (⟨a.1, a.2, b.1, b.2⟩ : Hp)) ba_pair ce_pair
theorem ch_pair : Pair chS xchS := Pair.bind (fun a (b : Int × (Int × List Hp)) => (⟨a, b.1, b.2.1, b.2.2⟩ : Cp)) (nu_pair 1048576) (Pair.bind (fun a b => (a, b)) (nu_pair 64) (Pair.bind (fun a b => (a, b)) (nu_pair 1099511627776) (ls_pair 4 he_pair)))
theorem mg1_pair : Pair mg1 xmg1 := Pair.bind (fun a (b : Int × (Bool × List Rq)) => (⟨1, a, 0, 0, b.1, b.2.1, b.2.2, Vt.zero, 0, 0, 0, [], [], zeros32, Vt.zero, [], ⟨#[]⟩, []⟩ : Mp)) (nu_pair 1048576) (Pair.bind (fun a b => (a, b)) (nu_pair 1099511627776) ba_pair)
theorem mg2_pair : Pair mg2 xmg2 := Pair.map (fun a => (⟨2, 0, 0, 0, 0, false, [], a, 0, 0, 0, [], [], zeros32, Vt.zero, [], ⟨#[]⟩, []⟩ : Mp)) vo_pair
theorem mg3_pair : Pair mg3 xmg3 := Pair.map (fun (a : Cp) => (⟨3, 0, 0, 0, 0, false, [], Vt.zero, a.e, a.l, a.v, a.he, [], zeros32, Vt.zero, [], ⟨#[]⟩, []⟩ : Mp)) ch_pair
theorem mg4_pair : Pair mg4 xmg4 := Pair.bind (fun a (b : Int × (Int × List Ev)) => (⟨4, a, b.1, b.2.1, 0, false, [], Vt.zero, 0, 0, 0, [], b.2.2, zeros32, Vt.zero, [], ⟨#[]⟩, []⟩ : Mp)) (nu_pair 1048576) (Pair.bind (fun a b => (a, b)) (nu_pair 64) (Pair.bind (fun a b => (a, b)) (nu_pair 1099511627776) (ls_pair 64 en_pair)))
theorem mg5_pair : Pair mg5 xmg5 := Pair.bind (fun a b => (⟨5, a, 0, 0, 0, false, [], Vt.zero, 0, 0, 0, [], [], b, Vt.zero, [], ⟨#[]⟩, []⟩ : Mp)) (nu_pair 1048576) dg_pair
theorem mg6_pair : Pair mg6 xmg6 := Pair.bind (fun a b => (⟨6, a, 0, 0, b, false, [], Vt.zero, 0, 0, 0, [], [], zeros32, Vt.zero, [], ⟨#[]⟩, []⟩ : Mp)) (nu_pair 1048576) (nu_pair 1099511627776)
theorem mg7_pair : Pair mg7 xmg7 := Pair.bind (fun (a : Bool × List Rq) (b : Vt × List Sg) => (⟨7, 0, 0, 0, 0, a.1, a.2, Vt.zero, 0, 0, 0, [], [], zeros32, b.1, b.2, ⟨#[]⟩, []⟩ : Mp)) ba_pair ce_pair
theorem mg8_pair : Pair mg8 xmg8 := Pair.bind (fun a b => (⟨8, 0, 0, 0, 0, false, [], Vt.zero, 0, 0, 0, [], [], zeros32, Vt.zero, [], a, b⟩ : Mp)) (tx_pair 4194304) (ls_pair 64 si_pair)
theorem mgF_pair (k : Int) : Pair (mgF k) (xmgF k) := by
  by_cases n1 : k = 1
  · have e1 : mgF k = mg1 := by funext s; unfold mgF; rw [if_pos n1]
    have e2 : xmgF k = xmg1 := by funext s; unfold xmgF; rw [if_pos n1]
    rw [e1, e2]; exact mg1_pair
  by_cases n2 : k = 2
  · have e1 : mgF k = mg2 := by funext s; unfold mgF; rw [if_neg n1]; rw [if_pos n2]
    have e2 : xmgF k = xmg2 := by funext s; unfold xmgF; rw [if_neg n1]; rw [if_pos n2]
    rw [e1, e2]; exact mg2_pair
  by_cases n3 : k = 3
  · have e1 : mgF k = mg3 := by funext s; unfold mgF; rw [if_neg n1]; rw [if_neg n2]; rw [if_pos n3]
    have e2 : xmgF k = xmg3 := by funext s; unfold xmgF; rw [if_neg n1]; rw [if_neg n2]; rw [if_pos n3]
    rw [e1, e2]; exact mg3_pair
  by_cases n4 : k = 4
  · have e1 : mgF k = mg4 := by funext s; unfold mgF; rw [if_neg n1]; rw [if_neg n2]; rw [if_neg n3]; rw [if_pos n4]
    have e2 : xmgF k = xmg4 := by funext s; unfold xmgF; rw [if_neg n1]; rw [if_neg n2]; rw [if_neg n3]; rw [if_pos n4]
    rw [e1, e2]; exact mg4_pair
  by_cases n5 : k = 5
  · have e1 : mgF k = mg5 := by funext s; unfold mgF; rw [if_neg n1]; rw [if_neg n2]; rw [if_neg n3]; rw [if_neg n4]; rw [if_pos n5]
    have e2 : xmgF k = xmg5 := by funext s; unfold xmgF; rw [if_neg n1]; rw [if_neg n2]; rw [if_neg n3]; rw [if_neg n4]; rw [if_pos n5]
    rw [e1, e2]; exact mg5_pair
  by_cases n6 : k = 6
  · have e1 : mgF k = mg6 := by funext s; unfold mgF; rw [if_neg n1]; rw [if_neg n2]; rw [if_neg n3]; rw [if_neg n4]; rw [if_neg n5]; rw [if_pos n6]
    have e2 : xmgF k = xmg6 := by funext s; unfold xmgF; rw [if_neg n1]; rw [if_neg n2]; rw [if_neg n3]; rw [if_neg n4]; rw [if_neg n5]; rw [if_pos n6]
    rw [e1, e2]; exact mg6_pair
  by_cases n7 : k = 7
  · have e1 : mgF k = mg7 := by funext s; unfold mgF; rw [if_neg n1]; rw [if_neg n2]; rw [if_neg n3]; rw [if_neg n4]; rw [if_neg n5]; rw [if_neg n6]; rw [if_pos n7]
    have e2 : xmgF k = xmg7 := by funext s; unfold xmgF; rw [if_neg n1]; rw [if_neg n2]; rw [if_neg n3]; rw [if_neg n4]; rw [if_neg n5]; rw [if_neg n6]; rw [if_pos n7]
    rw [e1, e2]; exact mg7_pair
  by_cases n8 : k = 8
  · have e1 : mgF k = mg8 := by funext s; unfold mgF; rw [if_neg n1]; rw [if_neg n2]; rw [if_neg n3]; rw [if_neg n4]; rw [if_neg n5]; rw [if_neg n6]; rw [if_neg n7]; rw [if_pos n8]
    have e2 : xmgF k = xmg8 := by funext s; unfold xmgF; rw [if_neg n1]; rw [if_neg n2]; rw [if_neg n3]; rw [if_neg n4]; rw [if_neg n5]; rw [if_neg n6]; rw [if_neg n7]; rw [if_pos n8]
    rw [e1, e2]; exact mg8_pair
  have e1 : mgF k = fun s => ((⟨k, 0, 0, 0, 0, false, [], Vt.zero, 0, 0, 0, [], [], zeros32, Vt.zero, [], ⟨#[]⟩, []⟩ : Mp), s) := by funext s; unfold mgF; rw [if_neg n1]; rw [if_neg n2]; rw [if_neg n3]; rw [if_neg n4]; rw [if_neg n5]; rw [if_neg n6]; rw [if_neg n7]; rw [if_neg n8]
  have e2 : xmgF k = fun s => ((⟨k, 0, 0, 0, 0, false, [], Vt.zero, 0, 0, 0, [], [], zeros32, Vt.zero, [], ⟨#[]⟩, []⟩ : Mp), s) := by funext s; unfold xmgF; rw [if_neg n1]; rw [if_neg n2]; rw [if_neg n3]; rw [if_neg n4]; rw [if_neg n5]; rw [if_neg n6]; rw [if_neg n7]; rw [if_neg n8]
  rw [e1, e2]; exact Pair.pure _
theorem dec_same (zs : List Int) : decS zs = decX zs := by
  unfold decS decX mgS
  show (if faE (mgF (numS zs 0 8).1 ((numS zs 0 8).2.1, (numS zs 0 8).2.2, kdZ zs 0 8 false)).2 = 0 then ((mgF (numS zs 0 8).1 ((numS zs 0 8).2.1, (numS zs 0 8).2.2, kdZ zs 0 8 false)).1, 0) else (Mp.none, faE (mgF (numS zs 0 8).1 ((numS zs 0 8).2.1, (numS zs 0 8).2.2, kdZ zs 0 8 false)).2)) = (if (numS zs 0 8).2.2 = 0 ∧ (numS zs 0 8).1 = 0 then (Mp.none, 130) else if doneE (xmgF (numS zs 0 8).1 ((numS zs 0 8).2.1, (numS zs 0 8).2.2)).2.1 (xmgF (numS zs 0 8).1 ((numS zs 0 8).2.1, (numS zs 0 8).2.2)).2.2 = 0 then ((xmgF (numS zs 0 8).1 ((numS zs 0 8).2.1, (numS zs 0 8).2.2)).1, 0) else (Mp.none, doneE (xmgF (numS zs 0 8).1 ((numS zs 0 8).2.1, (numS zs 0 8).2.2)).2.1 (xmgF (numS zs 0 8).1 ((numS zs 0 8).2.1, (numS zs 0 8).2.2)).2.2))
  unfold kdZ
  generalize (numS zs 0 8).1 = k
  generalize (numS zs 0 8).2.1 = r
  generalize (numS zs 0 8).2.2 = e
  by_cases hc : e = 0 ∧ k = 0
  · rw [if_pos hc]
    obtain ⟨rfl, rfl⟩ := hc
    rfl
  · rw [if_neg hc]
    have z : (if (k == 0) = true then (if (e == 0) = true then true else false) else false) = false := by
      by_cases hk : k = 0
      · have he : (e == 0) = false := by simp; exact fun q => hc ⟨q, hk⟩
        rw [he]
        simp
      · have hb : (k == 0) = false := by simpa using hk
        rw [hb]
        rfl
    rw [z]
    have S0 : Sim (r, e, false) (r, e) := by
      by_cases he : e = 0
      · exact .inl ⟨by rw [he], he⟩
      · exact .inr ⟨he, rfl⟩
    obtain ⟨h1, h2⟩ := (mgF_pair k).go S0
    generalize mgF k (r, e, false) = A at h1 h2
    generalize xmgF k (r, e) = B at h1 h2
    obtain ⟨a, s⟩ := A
    obtain ⟨b, t⟩ := B
    simp only at h1 h2 ⊢
    have hfa : faE s = doneE t.1 t.2 := by
      rcases h1 with ⟨q1, q2⟩ | ⟨q1, q2⟩
      · rw [q1, q2]
        rfl
      · unfold faE doneE
        rw [if_neg (show ¬ t.2 = 0 by rw [q2]; exact q1), q2]
        obtain ⟨sr, se, sz⟩ := s
        cases sz
        · have q1 : se ≠ 0 := q1
          show (if false = true then 130 else if se = 0 then _ else se) = se
          rw [if_neg (by decide), if_neg q1]
        · rfl
    rw [hfa]
    by_cases hf : doneE t.1 t.2 = 0
    · rw [if_pos hf, if_pos hf]
      have c0 : cod s = 0 := by
        rw [← h1.code]
        unfold doneE at hf
        by_cases q : t.2 = 0
        · exact q
        · rw [if_neg q] at hf; exact absurd hf q
      rw [h2 c0]
    · rw [if_neg hf, if_neg hf]
end Go.Proofs.YtgjalkbianpibaaGreat
namespace Go.Proofs.YtgjalkbianpibaaGreat
open Go.RowKit
open Sha Tal
set_option linter.unusedVariables false
set_option linter.unusedSimpArgs false
theorem sameL_eqv {α β : Type} {B : α → α → Bool} {f : α → β} (h : ∀ x y, f x = f y → B x y = true) : ∀ xs ys : List α, xs.map f = ys.map f → sameL B xs ys = true
  | [], [], _ => rfl
  | x :: xs, y :: ys, e => by
    simp only [List.map_cons, List.cons.injEq] at e
    unfold sameL
    rw [h x y e.1, sameL_eqv h xs ys e.2]
    rfl
  | [], y :: ys, e => by cases e
  | x :: xs, [], e => by cases e
theorem certB_eqv {x y : Vt} {s t : Sl Sg} (h : x = y) (h2 : s.xs = t.xs) : certB x s y t = true := by
  unfold certB
  rw [vtB_iff.2 h, (sameL_iff (fun x y => Sg.B_iff) _ _).2 h2]
  rfl
theorem batB_eqv {q r : Bool} {x y : Sl Rq} (h : q = r) (h2 : x.xs = y.xs) : batB q x r y = true := by
  unfold batB
  rw [h, (sameL_iff (fun x y => Rq.B_iff) _ _).2 h2]
  simp
theorem Hd.B_eqv (x y : Hd) (h : x.pure = y.pure) : Hd.B x y = true := by
  unfold Hd.pure at h
  simp only [Hp.mk.injEq] at h
  obtain ⟨h1, h2, h3, h4⟩ := h
  unfold Hd.B
  rw [batB_eqv h1 h2, certB_eqv h3 h4]
  rfl
theorem Mg.B_eqv (a b : Mg) (h : a.pure = b.pure) : Mg.B a b = true := by
  unfold Mg.pure at h
  simp only [Mp.mk.injEq] at h
  obtain ⟨h1, h2, h3, h4, h5, h6, h7, h8, h9, h10, h11, h12, h13, h14, h15, h16, h17, h18⟩ := h
  unfold Mg.B Mg.nB Mg.fB Mg.lB chgB
  rw [vtB_iff.2 h8, batB_eqv h6 h7, certB_eqv h15 h16, (sameL_iff (fun x y => Ev.B_iff) _ _).2 h13, (sameL_iff (fun x y => Sg.B_iff) _ _).2 h18, sameL_eqv Hd.B_eqv _ _ h12, h1, h2, h3, h4, h5, h9, h10, h11, h14, h17]
  simp
set_option maxRecDepth 100000 in
set_option maxHeartbeats 1000000 in
theorem decodes_walk (sb : ByteArray) (w : World) : Calls Tryz.prog 4 #[.string sb] w fun en w' => en = .returned (.bool true) ∧ Below w.heap.size w w' := by
  by_cases hs : (sb.size : Int) > 20000
  · have hs' : (20000 : Int) < (sb.size : Int) := hs
    go_enter Tryz.func4, Tryz.ntmps4
    go_wp2_with fail
    refine (lives13_any w).mono ?_
    rintro _ w1 ⟨rfl, hb1⟩
    go_wp2_with fail
    go_ret
    exact ⟨rfl, hb1⟩
  · have hs' : ¬ ((20000 : Int) < (sb.size : Int)) := hs
    have ca := fun w0 => decode_any sb (by omega) w0
    have cb := fun w0 => xdecode_any sb (by omega) w0
    rw [← dec_same] at cb
    generalize decS (strL sb) = p_ at ca cb
    obtain ⟨mp, f⟩ := p_
    simp only at ca cb
    obtain ⟨zc, hzl, hzr⟩ : ∃ z : List Value, z.length = 119 ∧ ∀ w : World, (zeroValue 37).run Tryz.prog w = .ok (.agg z.toArray) w := ⟨_, Mg.none_ok.ms.len, zeroM⟩
    go_enter Tryz.func4, Tryz.ntmps4
    go_upto_region 3 with fail
    try simp only [Act.put]
    refine pl_begin ?_
    refine pl_take (d := some 12) (v := ?_) (by rfl) ?_ rfl ?_
    rotate_left
    · go_simp
      try with_reducible rfl
    simp only [Act.put, List.setIfInBounds_toArray, List.set_cons_zero, List.set_cons_succ]
    refine pl_call (d := some 13) (by rfl) (by go_simp; first | done | exact ⟨rfl, rfl⟩ | with_reducible rfl) rfl ?_
    refine (ca w).mono ?_
    rintro _ w1 ⟨m, rfl, hp1, hmo1, hA1, hB1, hb1⟩
    have ql1 := hmo1.ms.len
    have qo1 := hmo1.ms.one
    have qi1 : (Tryz.prog.info? 37).map (·.size) = some m.ms.cells.length := by rw [ql1]; exact iszM
    obtain ⟨q, hq1⟩ : ∃ q, Hid (m.ms.cells = q) := ⟨_, hide rfl⟩
    simp only [hq1.out] at ql1 qo1 qi1 ⊢
    refine ⟨_, rfl, ?_⟩
    simp only [Act.put, List.setIfInBounds_toArray, List.set_cons_zero, List.set_cons_succ]
    refine pl_take (d := some 11) (v := ?_) (by rfl) ?_ rfl ?_
    rotate_left
    · go_simp
      try with_reducible rfl
    simp only [Act.put, List.setIfInBounds_toArray, List.set_cons_zero, List.set_cons_succ]
    refine pl_take (d := some 14) (v := ?_) (by rfl) ?_ rfl ?_
    rotate_left
    · go_simp
      try with_reducible rfl
    simp only [Act.put, List.setIfInBounds_toArray, List.set_cons_zero, List.set_cons_succ]
    refine pl_take (d := some 15) (v := ?_) (by rfl) ?_ rfl ?_
    rotate_left
    · go_simp
      try with_reducible rfl
    simp only [Act.put, List.setIfInBounds_toArray, List.set_cons_zero, List.set_cons_succ]
    refine pl_run (d := some 3) (v := .pointer (some ⟨w1.heap.size, 0, none⟩)) (w' := w1.alloc (.cells zc.toArray 37)) (by rfl) (ex_alloc rfl (hzr _)) rfl ?_
    simp only [Act.put, List.setIfInBounds_toArray, List.set_cons_zero, List.set_cons_succ]
    refine pl_store (w' := (w1.alloc (.cells zc.toArray 37)).setCells w1.heap.size 0 q) (by rfl) (ex_put (cs := q.toArray) rfl rfl rfl (there_newN _ _ _ (by simp [hzl, ql1])) (by simpa using qi1) (all_one qo1)) rfl ?_
    refine pl_take (d := some 4) (v := ?_) (by rfl) ?_ rfl ?_
    rotate_left
    · go_simp
      try with_reducible rfl
    simp only [Act.put, List.setIfInBounds_toArray, List.set_cons_zero, List.set_cons_succ]
    refine pl_nil ?_
    obtain ⟨r1, hF2, hF3, -⟩ := fresh_store w1 zc.toArray 37 q (by simp [hzl, ql1])
    obtain ⟨w2, hw2⟩ : ∃ W, (w1.alloc (.cells zc.toArray 37)).setCells w1.heap.size 0 q = W := ⟨_, rfl⟩
    rw [hw2] at r1 hF2 hF3 ⊢
    clear hw2
    have hA1 := hA1.below hF2
    have hb2 := hb1.trans (hF2.mono hb1.size)
    have z2 := hF2.size
    have hl1 : w1.heap.size < w2.heap.size := by omega
    clear hF2 hF3 hb1 hB1
    go_upto_region 4 with fail
    try simp only [Act.put]
    refine pl_begin ?_
    refine pl_take (d := some 17) (v := ?_) (by rfl) ?_ rfl ?_
    rotate_left
    · go_simp
      try with_reducible rfl
    simp only [Act.put, List.setIfInBounds_toArray, List.set_cons_zero, List.set_cons_succ]
    refine pl_call (d := some 18) (by rfl) (by go_simp; first | done | exact ⟨rfl, rfl⟩ | with_reducible rfl) rfl ?_
    refine (cb w2).mono ?_
    rintro _ w3 ⟨x, rfl, hp2, hmo2, hA2, hB2, hb2'⟩
    have ql2 := hmo2.ms.len
    have qo2 := hmo2.ms.one
    have qi2 : (Tryz.prog.info? 37).map (·.size) = some x.ms.cells.length := by rw [ql2]; exact iszM
    obtain ⟨p, hq2⟩ : ∃ q, Hid (x.ms.cells = q) := ⟨_, hide rfl⟩
    simp only [hq2.out] at ql2 qo2 qi2 ⊢
    refine ⟨_, rfl, ?_⟩
    simp only [Act.put, List.setIfInBounds_toArray, List.set_cons_zero, List.set_cons_succ]
    refine pl_take (d := some 16) (v := ?_) (by rfl) ?_ rfl ?_
    rotate_left
    · go_simp
      try with_reducible rfl
    simp only [Act.put, List.setIfInBounds_toArray, List.set_cons_zero, List.set_cons_succ]
    refine pl_take (d := some 19) (v := ?_) (by rfl) ?_ rfl ?_
    rotate_left
    · go_simp
      try with_reducible rfl
    simp only [Act.put, List.setIfInBounds_toArray, List.set_cons_zero, List.set_cons_succ]
    refine pl_take (d := some 20) (v := ?_) (by rfl) ?_ rfl ?_
    rotate_left
    · go_simp
      try with_reducible rfl
    simp only [Act.put, List.setIfInBounds_toArray, List.set_cons_zero, List.set_cons_succ]
    refine pl_run (d := some 5) (v := .pointer (some ⟨w3.heap.size, 0, none⟩)) (w' := w3.alloc (.cells zc.toArray 37)) (by rfl) (ex_alloc rfl (hzr _)) rfl ?_
    simp only [Act.put, List.setIfInBounds_toArray, List.set_cons_zero, List.set_cons_succ]
    refine pl_store (w' := (w3.alloc (.cells zc.toArray 37)).setCells w3.heap.size 0 p) (by rfl) (ex_put (cs := p.toArray) rfl rfl rfl (there_newN _ _ _ (by simp [hzl, ql2])) (by simpa using qi2) (all_one qo2)) rfl ?_
    refine pl_take (d := some 6) (v := ?_) (by rfl) ?_ rfl ?_
    rotate_left
    · go_simp
      try with_reducible rfl
    simp only [Act.put, List.setIfInBounds_toArray, List.set_cons_zero, List.set_cons_succ]
    refine pl_nil ?_
    obtain ⟨r2, hF2, hF3, -⟩ := fresh_store w3 zc.toArray 37 p (by simp [hzl, ql2])
    have r1 := range_below r1 hb2' hl1
    have hA1 := hA1.below hb2'
    obtain ⟨w4, hw4⟩ : ∃ W, (w3.alloc (.cells zc.toArray 37)).setCells w3.heap.size 0 p = W := ⟨_, rfl⟩
    rw [hw4] at r2 hF2 hF3 ⊢
    clear hw4
    have z3 := hb2'.size
    have r1 := range_below r1 hF2 (by omega)
    have hA1 := hA1.below hF2
    have hA2 := hA2.below hF2
    have hb4 := (hb2.trans (hb2'.mono hb2.size)).trans (hF2.mono (Nat.le_trans hb2.size hb2'.size))
    have cs := xsame_any m x w4 hmo1 hmo2 hA1 hA2
    rw [Mg.B_eqv m x (hp1.trans hp2.symm), hq1.out, hq2.out] at cs
    clear hA1 hA2 hF2 hF3 hb2 hb2' hmo1 hmo2 hp1 hp2 hq1 hq2
    go_upto_region 5 with fail
    try simp only [Act.put]
    refine pl_begin ?_
    refine pl_take (d := some 21) (v := .agg q.toArray) (by rfl) (ex_mid rfl rfl r1 Tryz.underlying37 rfl qi1) rfl ?_
    simp only [Act.put, List.setIfInBounds_toArray, List.set_cons_zero, List.set_cons_succ]
    refine pl_take (d := some 22) (v := .agg p.toArray) (by rfl) (ex_mid rfl rfl r2 Tryz.underlying37 rfl qi2) rfl ?_
    simp only [Act.put, List.setIfInBounds_toArray, List.set_cons_zero, List.set_cons_succ]
    refine pl_call (d := some 23) (by rfl) (by go_simp; first | done | exact ⟨rfl, rfl⟩ | with_reducible rfl) rfl ?_
    refine (cs).mono ?_
    rintro _ w5 ⟨rfl, hb5⟩
    refine ⟨_, rfl, ?_⟩
    simp only [Act.put, List.setIfInBounds_toArray, List.set_cons_zero, List.set_cons_succ]
    refine pl_take (d := some 24) (v := ?_) (by rfl) ?_ rfl ?_
    rotate_left
    · go_simp
      try with_reducible rfl
    simp only [Act.put, List.setIfInBounds_toArray, List.set_cons_zero, List.set_cons_succ]
    refine pl_take (d := some 25) (v := ?_) (by rfl) ?_ rfl ?_
    rotate_left
    · go_simp
      try with_reducible rfl
    simp only [Act.put, List.setIfInBounds_toArray, List.set_cons_zero, List.set_cons_succ]
    refine pl_take (d := some 26) (v := ?_) (by rfl) ?_ rfl ?_
    rotate_left
    · go_simp
      try with_reducible rfl
    simp only [Act.put, List.setIfInBounds_toArray, List.set_cons_zero, List.set_cons_succ]
    refine pl_take (d := some 27) (v := .bool true) (by rfl) (by go_simp <;> simp) rfl ?_
    simp only [Act.put, List.setIfInBounds_toArray, List.set_cons_zero, List.set_cons_succ]
    refine pl_take (d := some 28) (v := ?_) (by rfl) ?_ rfl ?_
    rotate_left
    · go_simp
      try with_reducible rfl
    simp only [Act.put, List.setIfInBounds_toArray, List.set_cons_zero, List.set_cons_succ]
    refine pl_take (d := some 29) (v := ?_) (by rfl) ?_ rfl ?_
    rotate_left
    · go_simp
      try with_reducible rfl
    simp only [Act.put, List.setIfInBounds_toArray, List.set_cons_zero, List.set_cons_succ]
    refine pl_call (d := some 30) (by rfl) (by go_simp; first | done | exact ⟨rfl, rfl⟩ | with_reducible rfl) rfl ?_
    refine (lives13_any w5).mono ?_
    rintro _ w6 ⟨rfl, hb6⟩
    refine ⟨_, rfl, ?_⟩
    simp only [Act.put, List.setIfInBounds_toArray, List.set_cons_zero, List.set_cons_succ]
    refine pl_take (d := some 31) (v := ?_) (by rfl) ?_ rfl ?_
    rotate_left
    · go_simp
      try with_reducible rfl
    simp only [Act.put, List.setIfInBounds_toArray, List.set_cons_zero, List.set_cons_succ]
    refine pl_take (d := some 2) (v := ?_) (by rfl) ?_ rfl ?_
    rotate_left
    · go_simp
      try with_reducible rfl
    simp only [Act.put, List.setIfInBounds_toArray, List.set_cons_zero, List.set_cons_succ]
    refine pl_nil ?_
    have HB := hide (hb4.trans ((hb5.trans (hb6.mono hb5.size)).mono hb4.size))
    clear hb4 hb5 hb6 r1 r2
    go_wp2_with fail
    go_ret
    exact ⟨rfl, HB.out⟩
end Go.Proofs.YtgjalkbianpibaaGreat
namespace Go.Proofs.YtgjalkbianpibaaGreat
open Go.ChangeShapes Go.WideShapes Go.ChangeAt Go.RowKit
open Sha Tal
set_option linter.unusedVariables false
set_option linter.constructorNameAsVariable false
theorem own : ownKnob Tryz.prog.godebug = none := by kernel_rfl
theorem laidOut : laidOutB Tryz.prog = true := by kernel_rfl
section
variable {H : Type} {enc : TypeId × Value → H} {W : World} {b : Nat} {sp : Nat → Bool} {held : Bool} {m : Nat}
end
end Go.Proofs.YtgjalkbianpibaaGreat
namespace Go.Proofs.YtgjalkbianpibaaGreat.messageDecodes
open Go.ChangeShapes Go.WideShapes Go.ChangeAt Go.RowKit
open Go.ChangeMaps (open_string shut_string)
set_option linter.unusedVariables false
set_option maxRecDepth 100000 in
theorem lifted (os : Os) (started : os.Started) (H : Type) (enc : TypeId × Value → H) :
    ReturnsInHanded {} Tryz.checked os 4 .any (Rows.messageDecodesSpec.pre6 enc Tryz.prog Tryz.f4 Rows.messageDecodesRow.domain false) (Rows.messageDecodesSpec.post enc Tryz.prog Tryz.f4 false true false false) := by
  refine returnsInHanded_of_change (C := Tryz.checked) own started (by kernel_rfl) Tryz.func4
    (ChangeSpec.witness6 (enc := enc) (C := Tryz.checked) false ⟨#[], #[.string ⟨#[]⟩], []⟩ 8 (by kernel_rfl) (by kernel_rfl) (by kernel_rfl) (by kernel_rfl)) ?_
  intro W base args ds gs before hval0 hW hcnd _
  have hval : ∀ (j : Nat) t v, Tryz.f4.params[j]? = some t → args[j]? = some v → Value.okWide Tryz.prog W .any base t v := hval0
  have hW' := hW
  obtain ⟨p, q, hA0, hV, rfl, hfz, hnd⟩ := hW
  have hA : DataW.TrodAll enc Tryz.prog W 0 (fun _ => true) true Tryz.f4.params.toList args.toList ds p := hA0
  rw [Tryz.params4] at hA hval
  obtain ⟨v0, vs0, d0, ds0, p0, q0, hargs, rfl, rfl, h0, r0⟩ := trodAll_cons hA
  obtain ⟨rfl, rfl, rfl⟩ := trodAll_nil r0
  obtain rfl : args = #[v0] := by cases args; simp_all
  obtain ⟨rfl, rfl⟩ := trodVars_none hV
  have k0 := h0
  have lt0 : ∀ x ∈ p0, x.block < W.heap.size := by obtain ⟨m, hm⟩ := k0; exact DataW.trod_lt m _ _ _ hm
  obtain ⟨s0, rfl, rfl, rfl, hs0⟩ := open_string Tryz.underlying9 (hval 0 9 v0 rfl rfl) h0
  clear hA0 hval0
  refine (decodes_walk s0  W).mono fun e W' ⟨he, bel⟩ => ?_
  subst he
  exact ⟨_, rfl, _, _, _, [], _, [], hW', trodAll_mk1 (shut_bool Tryz.underlying4 _), (trodAll_cons_mk (Below.trod laidOut (by kernel_rfl) (of_decide_eq_true (by kernel_rfl)) k0 bel lt0) trodAll_mk0), rfl, bel.frame _, fun h => by cases h⟩
theorem over : Rows.messageDecodesRow.holds Tryz.pinned (OpenSpec.ofChange Rows.messageDecodesSpec) :=
  OpenClaim.holds_of_wide 4 Tryz.f4 rfl rfl rfl rfl rfl rfl rfl ⟨rfl, rfl, rfl, rfl, rfl⟩ rfl rfl rfl rfl rfl (by kernel_rfl) Tryz.func4 (by kernel_rfl)
    (of_decide_eq_true (by kernel_rfl)) (by unfold Func.isWrapper; first | (rw [if_pos (by decide +kernel)]; kernel_rfl) | (rw [if_neg (by decide +kernel)]; exact ⟨rfl, rfl⟩))
    (fun os started H enc _ => lifted os started H enc)
end Go.Proofs.YtgjalkbianpibaaGreat.messageDecodes
namespace Go.Proofs.YtgjalkbianpibaaGreat
theorem messageDecodes_holds : Rows.MessageDecodesSaid := messageDecodes.over
#print axioms messageDecodes_holds
end Go.Proofs.YtgjalkbianpibaaGreat
