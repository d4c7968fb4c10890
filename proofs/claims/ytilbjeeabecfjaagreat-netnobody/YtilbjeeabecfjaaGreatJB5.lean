/- the reader's certs, and what was held; the reader's lists of what was held; changes; the reader's changes; messages, read; messages, read: kind 0; messages, rea -/
import Derived.Test.YtilbjeeabecfjaaGreatJB0
import Derived.Test.YtilbjeeabecfjaaGreatJB4
namespace Go.Proofs.YtilbjeeabecfjaaGreat
open Go.RowKit
open Sha Tal
set_option linter.unusedVariables false
set_option linter.unusedSimpArgs false
def BRq.un (r : BRq) : Rq := ⟨r.c, r.n, r.s, r.t⟩
theorem rows_req {w : World} {a : Option Addr} {rs : List BRq} (h : ReqsAt w a rs) : RowsAt RqE w a (rs.map BRq.un) := by
 refine ⟨by rw [List.length_map]; exact h.1, fun r hr => ?_, ?_⟩
 ·obtain ⟨y, hy, rfl⟩ := List.mem_map.1 hr
  have k : y.ok := h.2.1 y hy
  exact ⟨k.tl, k.tb, k.sl, k.cl, k.ch, k.nl, k.nh⟩
 ·rcases h.2.2 with q | ⟨b, off, rfl, h1, h2⟩
  ·exact .inl (by rw [q]; rfl)
  ·refine .inr ⟨b, off, rfl, h1, ?_⟩
   have e : (rs.map BRq.un).flatMap RqE.f = flatR rs := by
    unfold flatR
    rw [List.flatMap_map]
    rfl
   rw [e]
   exact h2
structure Hp where
 q : Bool
 rs : List Rq
 vt : Vt
 sg : List Sg
def Hd.pure (h : Hd) : Hp := ⟨h.q, h.rs.xs, h.vt, h.sg.xs⟩
def baS (s : Rst) : (Bool × List Rq) × Rst := (((getB s.1 s.2.1).q, (getB s.1 s.2.1).rs.map BRq.un), (getB s.1 s.2.1).rest, (getB s.1 s.2.1).err, s.2.2)
def ceS (s : Rst) : (Vt × List Sg) × Rst := (((voS s).1, (lsS 64 siS (voS s).2).1), (lsS 64 siS (voS s).2).2)
def heS (s : Rst) : Hp × Rst := (⟨(baS s).1.1, (baS s).1.2, (ceS (baS s).2).1.1, (ceS (baS s).2).1.2⟩, (ceS (baS s).2).2)
theorem getB_len (rest : List Int) (e : Int) : (getB rest e).rest.length ≤ rest.length := by
 unfold getB
 split
 ·exact numS_len _ _ _
 ·exact Nat.le_trans (getRs_le _ _ _) (numS_len _ _ _)
theorem baS_len (s : Rst) : (baS s).2.1.length ≤ s.1.length := getB_len _ _
theorem ceS_len (s : Rst) : (ceS s).2.1.length ≤ s.1.length := Nat.le_trans (lsS_len siS_len _ _) (voS_len _)
theorem heS_len (s : Rst) : (heS s).2.1.length ≤ s.1.length := Nat.le_trans (ceS_len _) (baS_len _)
theorem zeroCeE (w : World) : (zeroValue 107).run Tryz.prog w = .ok (.agg (Vt.zero.cells ++ [Value.slice none 0 0]).toArray) w := by kernel_rfl
theorem zeroHdE (w : World) : (zeroValue 129).run Tryz.prog w = .ok (.agg ([Value.bool false, .slice none 0 0] ++ (Vt.zero.cells ++ [Value.slice none 0 0])).toArray) w := by kernel_rfl
set_option maxRecDepth 100000 in
theorem build_cert (t : List Value) (x : Sl Sg) (ht : t.length = 36) (w : World) : (Instr.build 107 #[(0, .agg t.toArray), (1, x.val)]).run Tryz.prog w = .ok (.agg (t ++ [x.val]).toArray) w :=
 build_fill (zs := Vt.zero.cells ++ [Value.slice none 0 0]) (pl := #[(0, 36), (36, 1)]) (zeroCeE w) (by kernel_rfl) (by kernel_rfl) _ _ (fill_two (c1 := t) (c2 := [x.val]) rfl rfl (by decide) rfl ht rfl rfl rfl)
set_option maxRecDepth 100000 in
theorem build_held (q : Bool) (x : Value) (t : List Value) (ht : t.length = 37) (hx : x.cells = #[x]) (w : World) : (Instr.build 129 #[(0, .agg #[.bool q, x]), (1, .agg t.toArray)]).run Tryz.prog w = .ok (.agg (.bool q :: x :: t).toArray) w :=
 build_fill (zs := [Value.bool false, .slice none 0 0] ++ (Vt.zero.cells ++ [Value.slice none 0 0])) (pl := #[(0, 2), (2, 37)]) (zeroHdE w) (by kernel_rfl) (by kernel_rfl) _ _ (fill_two (c1 := [.bool q, x]) (c2 := t) rfl rfl (by decide) (by decide) rfl ht rfl rfl)
theorem bgetS (Q R : Nat) (s : Rst) (w : World) (h : RS w Q R s) (hl : s.1.length ≤ 40000) : Calls Tryz.prog 61 #[.pointer (some ⟨R, 0, none⟩)] w fun en w' => ∃ x : Sl Rq, en = .returned (.agg #[.bool (baS s).1.1, x.val]) ∧ x.xs = (baS s).1.2 ∧ x.At RqE w' ∧ x.Bk (fun b => w.heap.size ≤ b ∧ b < w'.heap.size) ∧ RS w' Q R (baS s).2 ∧ Kept w R Q w' :=
 (bget_any R s.1 s.2.1 w h.st hl h.st.bs).mono (by
  rintro _ w1 ⟨a, cap, rfl, h1, h2, h3, h4, h5, h6⟩
  have e : (getB s.1 s.2.1).rs.length = ((getB s.1 s.2.1).rs.map BRq.un).length := (List.length_map ..).symm
  refine ⟨⟨a, cap, _⟩, ?_, rfl, rows_req h3, ?_, h.gb h6 h5, Kept.of h6⟩
  ·show _ = Ending.returned (.agg #[_, .slice a ((getB s.1 s.2.1).rs.map BRq.un).length cap])
   rw [← e]; rfl
  ·intro b hne hb
   refine ⟨h4 b hb, ?_⟩
   rcases h3.2.2 with q | ⟨c, off, e1, h7, _⟩
   ·exact absurd (by show ((getB s.1 s.2.1).rs.map BRq.un) = []; rw [q]; rfl) hne
   ·have hb : a = some b := hb
    rw [hb] at e1
    injection e1 with e1
    rw [e1]
    exact h7)
set_option maxRecDepth 100000 in
set_option maxHeartbeats 1000000 in
theorem rcertS (Q R : Nat) (s : Rst) (w : World) (h : RS w Q R s) (hl : s.1.length ≤ 40000) : Calls Tryz.prog 67 #[.pointer (some ⟨Q, 0, none⟩)] w fun en w' => ∃ x : Sl Sg, en = .returned (.agg (certL (ceS s).1.1 x).toArray) ∧ x.xs = (ceS s).1.2 ∧ x.At SgE w' ∧ x.Bk (fun b => w.heap.size ≤ b ∧ b < w'.heap.size) ∧ (ceS s).1.1.ok ∧ RS w' Q R (ceS s).2 ∧ Kept w R Q w' := by
 obtain ⟨zc, hzl, hzr⟩ : ∃ z : List Value, z.length = 37 ∧ ∀ w : World, (zeroValue 107).run Tryz.prog w = .ok (.agg z.toArray) w := ⟨_, by decide, zeroCeE⟩
 have cv := fun w0 h0 => rvoteS Q R s w0 h0 hl
 have hv2 := voS_ok s h.st.bs
 have hvl := hv2.len
 have hvo := Vt.one (voS s).1
 have hln := voS_len s
 unfold ceS certL
 generalize voS s = p_ at cv hv2 hvl hvo hln ⊢
 obtain ⟨vt, t⟩ := p_
 simp only at cv hv2 hvl hvo hln ⊢
 have cs := fun w0 h0 => rlistS_any Q R t w0 h0 (Nat.le_trans hln hl)
 generalize lsS 64 siS t = p_ at cs ⊢
 obtain ⟨ls, t'⟩ := p_
 simp only at cs ⊢
 obtain ⟨vc, hvc⟩ : ∃ q, Hid (vt.cells = q) := ⟨_, hide rfl⟩
 rw [hvc.out] at hvl hvo
 simp only [hvc.out] at cv ⊢
 clear hvc hln
 replace hv2 := hide hv2
 obtain ⟨hB1, hr1, hs1⟩ := boxed_new w zc 107
 have ht1 := there_newN w zc.toArray 107 (n := 37) (by simp [hzl])
 have hRw := h.st.1.1
 have hQw := h.mr.lt
 go_enter Tryz.func67, Tryz.ntmps67
 go_upto_region 0 with fail
 try simp only [Act.put]
 refine pl_begin ?_
 refine pl_run (d := some 2) (v := .pointer (some ⟨w.heap.size, 0, none⟩)) (w' := w.alloc (.cells zc.toArray 107)) (by rfl) (ex_alloc rfl (hzr _)) rfl ?_
 simp only [nz]
 refine pl_nil ?_
 obtain ⟨W1, hW1⟩ : ∃ W, w.alloc (.cells zc.toArray 107) = W := ⟨_, rfl⟩
 rw [hW1] at hB1 hr1 hs1 ht1 ⊢
 clear hW1 hr1 hzr hzl
 go_upto_region 1 with fail
 have hB8 := hB1.drew
 have ht8 : W1.drew.there w.heap.size 0 37 := ht1
 have hs8 : w.heap.size < W1.drew.heap.size := hs1
 refine hs_begin (S := (fun W' => W'.cell? ⟨Q, 0, none⟩ = some (.pointer (some ⟨R, 0, none⟩)))) 12 rfl (by kernel_rfl) ?_
 obtain ⟨w8, hw8⟩ : ∃ W, W1.drew = W := ⟨_, rfl⟩
 rw [hw8] at hB8 ht8 hs8 ⊢
 clear hw8
 have S8 := h.below hB8
 have hS : (fun W' => W'.cell? ⟨Q, 0, none⟩ = some (.pointer (some ⟨R, 0, none⟩))) w8 := S8.mr.c0
 refine hs_t 0 3 (?_) rfl (by kernel_rfl) (by kernel_rfl) (by kernel_rfl) (by rfl) ?_ hS rfl ?_
 rotate_left
 ·intro w' hw
  go_simp
  try with_reducible rfl
 simp only [nz]
 refine hs_t 2 5 (?_) rfl (by kernel_rfl) (by kernel_rfl) (by kernel_rfl) (by rfl) ?_ hS rfl ?_
 rotate_left
 ·intro w' hw
  go_simp
  try with_reducible rfl
 simp only [nz]
 refine hs_t 3 6 (?_) rfl (by kernel_rfl) (by kernel_rfl) (by kernel_rfl) (by rfl) ?_ hS rfl ?_
 rotate_left
 ·intro w' hw
  go_simp
  try with_reducible rfl
 simp only [nz]
 refine hs_t 4 7 (?_) rfl (by kernel_rfl) (by kernel_rfl) (by kernel_rfl) (by rfl) ?_ hS rfl ?_
 rotate_left
 ·intro w' hw
  go_simp
  try with_reducible rfl
 simp only [nz]
 refine hs_t 5 8 (.pointer (some ⟨R, 0, none⟩)) rfl (by kernel_rfl) (by kernel_rfl) (by kernel_rfl) (by rfl) (fun w' hw => pl_one rfl rfl hw Tryz.underlying142 rfl) hS rfl ?_
 simp only [nz]
 refine hs_t 6 9 (?_) rfl (by kernel_rfl) (by kernel_rfl) (by kernel_rfl) (by rfl) ?_ hS rfl ?_
 rotate_left
 ·intro w' hw
  go_simp
  try with_reducible rfl
 simp only [nz]
 refine hs_t 7 10 (?_) rfl (by kernel_rfl) (by kernel_rfl) (by kernel_rfl) (by rfl) ?_ hS rfl ?_
 rotate_left
 ·intro w' hw
  go_simp
  try with_reducible rfl
 simp only [nz]
 refine hs_t 8 11 (?_) rfl (by kernel_rfl) (by kernel_rfl) (by kernel_rfl) (by rfl) ?_ hS rfl ?_
 rotate_left
 ·intro w' hw
  go_simp
  try with_reducible rfl
 simp only [nz]
 refine hs_call (i := 1) (d := some 4) rfl (by kernel_rfl) (by rfl) (by go_simp; first | done | exact ⟨rfl, rfl⟩ | with_reducible rfl) rfl ?_
 refine (cv w8 S8).mono ?_
 rintro _ w2 ⟨rfl, S2, k2⟩
 have hS : (fun W' => W'.cell? ⟨Q, 0, none⟩ = some (.pointer (some ⟨R, 0, none⟩))) w2 := S2.mr.c0
 refine ⟨_, rfl, hS, ?_⟩
 simp only [nz]
 refine hs_call (i := 9) (d := some 12) rfl (by kernel_rfl) (by rfl) (by go_simp; first | done | exact ⟨rfl, rfl⟩ | with_reducible rfl) rfl ?_
 refine (cs w2 S2).mono ?_
 rintro _ w3 ⟨x, rfl, hx, hA, hB, S3, k3⟩
 have hS : (fun W' => W'.cell? ⟨Q, 0, none⟩ = some (.pointer (some ⟨R, 0, none⟩))) w3 := S3.mr.c0
 refine ⟨_, rfl, hS, ?_⟩
 simp only [nz]
 have k8 : Kept w R Q w3 := (((Kept.refl w R Q).below hB8).trans k2).trans k3
 have thA : w3.there w.heap.size 0 37 := there_blk (there_blk ht8 (k2.block _ hs8 (by omega) (by omega))) (k3.block _ (Nat.lt_of_lt_of_le hs8 k2.size) (by omega) (by omega))
 have hbs := fun w0 => build_cert vc x hvl w0
 have hpl : (vc ++ [x.val]).length = 37 := by rw [List.length_append, hvl]; rfl
 have hip : (Tryz.prog.info? 107).map (·.size) = some (vc ++ [x.val]).length := by rw [hpl]; exact iszCe
 have hp1 : ∀ v ∈ vc ++ [x.val], v.oneCell' = true := fun v hv => by
  rcases List.mem_append.1 hv with g | g
  ·exact hvo v g
  ·rw [List.mem_singleton.1 g]; rfl
 obtain ⟨pc, hpc⟩ : ∃ p, Hid (vc ++ [x.val] = p) := ⟨_, hide rfl⟩
 simp only [hpc.out] at hbs hpl hip hp1
 refine hs_t 10 13 (.agg pc.toArray) rfl (by kernel_rfl) (by kernel_rfl) (by kernel_rfl) (by rfl) (fun w' hw => ex_build (parts := [(0, .tmp 4), (1, .tmp 12)]) rfl rfl (hbs _)) hS rfl ?_
 simp only [nz]
 have hSE : (fun W' => W'.cell? ⟨Q, 0, none⟩ = some (.pointer (some ⟨R, 0, none⟩))) (w3.setCells w.heap.size 0 pc) := (S3.low (below_sets (Nat.le_refl _) pc 0 _ (Below.refl _ w3)) hQw).mr.c0
 refine hs_store (i := 11) (w' := w3.setCells w.heap.size 0 pc) rfl (by kernel_rfl) (by rfl) (ex_put (cs := pc.toArray) rfl rfl rfl (by simpa [hpl] using thA) (by simpa using hip) (all_one hp1)) rfl hSE ?_
 refine hs_done (by kernel_rfl) ?_
 have hlow : Below w.heap.size w3 (w3.setCells w.heap.size 0 pc) := below_sets (Nat.le_refl _) pc 0 _ (Below.refl _ w3)
 have hrs := run_loadVar_mid (P := Tryz.prog) (w3.setCells w.heap.size 0 pc) w.heap.size 0 107 pc _ (World.rangeAt_setCells_same w3 w.heap.size 0 pc (by rw [hpl]; exact thA)) Tryz.underlying107 rfl hip
 have HF : Hid (∃ y : Sl Sg, Ending.returned (.agg pc.toArray) = .returned (.agg (vc ++ [y.val]).toArray) ∧ y.xs = ls ∧ y.At SgE (w3.setCells w.heap.size 0 pc) ∧ y.Bk (fun b => w.heap.size ≤ b ∧ b < (w3.setCells w.heap.size 0 pc).heap.size) ∧ vt.ok ∧ RS (w3.setCells w.heap.size 0 pc) Q R t' ∧ Kept w R Q (w3.setCells w.heap.size 0 pc)) := hide ⟨x, by rw [hpc.out], hx, hA.on (by rw [size_sets]; exact Nat.le_refl _) hB (fun b hb hlt => blk_sets (by have := hb.1; have := k2.size; omega)), hB.mono (fun b hb => ⟨by have := hb.1; have := k2.size; omega, by rw [size_sets]; exact hb.2⟩), hv2.out, S3.low hlow hQw, k8.low hlow (Nat.le_refl _)⟩
 clear hA hB S3 k3 S2 k2 hpc hbs hx k8
 go_wp2_with fail
 refine bodyPost_ret (v := .agg pc.toArray) ?_ rfl ?_
 ·simp [results, Tryz.results67, Act.put, asAddr, hrs]
 ·exact HF.out
def Hd.Bk (h : Hd) (P : Nat → Prop) : Prop := h.rs.Bk P ∧ h.sg.Bk P
theorem Hd.Bk.mono {h : Hd} {P P' : Nat → Prop} (k : h.Bk P) (hp : ∀ b, P b → P' b) : h.Bk P' := ⟨k.1.mono hp, k.2.mono hp⟩
theorem Hd.At.on {w w' : World} {h : Hd} {P : Nat → Prop} (k : h.At w) (hs : w.heap.size ≤ w'.heap.size) (hb : h.Bk P) (hp : ∀ b, P b → b < w.heap.size → w'.heap[b]? = w.heap[b]?) : h.At w' := ⟨Sl.At.on k.1 hs hb.1 hp, Sl.At.on k.2 hs hb.2 hp⟩
set_option maxRecDepth 100000 in
set_option maxHeartbeats 1000000 in
theorem rheldS (Q R : Nat) (s : Rst) (w : World) (h : RS w Q R s) (hl : s.1.length ≤ 40000) : Calls Tryz.prog 101 #[.pointer (some ⟨Q, 0, none⟩)] w fun en w' => ∃ y : Hd, en = .returned (.agg y.cells.toArray) ∧ y.pure = (heS s).1 ∧ y.At w' ∧ y.Bk (fun b => w.heap.size ≤ b ∧ b < w'.heap.size) ∧ y.vt.ok ∧ RS w' Q R (heS s).2 ∧ Kept w R Q w' := by
 obtain ⟨zc, hzl, hzr⟩ : ∃ z : List Value, z.length = 39 ∧ ∀ w : World, (zeroValue 129).run Tryz.prog w = .ok (.agg z.toArray) w := ⟨_, by decide, zeroHdE⟩
 have cb := fun w0 h0 => bgetS Q R s w0 h0 hl
 have hln := baS_len s
 unfold heS
 generalize baS s = p_ at cb hln ⊢
 obtain ⟨⟨q, rs⟩, t⟩ := p_
 simp only at cb hln ⊢
 have cc := fun w0 h0 => rcertS Q R t w0 h0 (Nat.le_trans hln hl)
 generalize ceS t = p_ at cc ⊢
 obtain ⟨⟨vt, sg⟩, t'⟩ := p_
 simp only at cc ⊢
 clear hln
 obtain ⟨hB1, hr1, hs1⟩ := boxed_new w zc 129
 have ht1 := there_newN w zc.toArray 129 (n := 39) (by simp [hzl])
 have hRw := h.st.1.1
 have hQw := h.mr.lt
 go_enter Tryz.func101, Tryz.ntmps101
 go_upto_region 0 with fail
 try simp only [Act.put]
 refine pl_begin ?_
 refine pl_run (d := some 2) (v := .pointer (some ⟨w.heap.size, 0, none⟩)) (w' := w.alloc (.cells zc.toArray 129)) (by rfl) (ex_alloc rfl (hzr _)) rfl ?_
 simp only [nz]
 refine pl_nil ?_
 obtain ⟨W1, hW1⟩ : ∃ W, w.alloc (.cells zc.toArray 129) = W := ⟨_, rfl⟩
 rw [hW1] at hB1 hr1 hs1 ht1 ⊢
 clear hW1 hr1 hzr hzl
 have S1 := h.below hB1
 go_upto_region 1 with fail
 try simp only [Act.put]
 refine pl_begin ?_
 refine pl_t 3 (?_) (by rfl) ?_ rfl ?_
 rotate_left
 ·go_simp
  try with_reducible rfl
 simp only [nz]
 refine pl_t 4 (?_) (by rfl) ?_ rfl ?_
 rotate_left
 ·go_simp
  try with_reducible rfl
 simp only [nz]
 refine pl_t 5 (?_) (by rfl) ?_ rfl ?_
 rotate_left
 ·go_simp
  try with_reducible rfl
 simp only [nz]
 refine pl_t 6 (.pointer (some ⟨R, 0, none⟩)) (by rfl) (pl_one rfl rfl S1.mr.c0 Tryz.underlying142 rfl) rfl ?_
 simp only [nz]
 refine pl_call (d := some 7) (by rfl) (by go_simp; first | done | exact ⟨rfl, rfl⟩ | with_reducible rfl) rfl ?_
 refine (cb W1 S1).mono ?_
 rintro _ w2 ⟨x, rfl, hx, hA, hB, S2, k2⟩
 refine ⟨_, rfl, ?_⟩
 simp only [nz]
 refine pl_t 8 (?_) (by rfl) ?_ rfl ?_
 rotate_left
 ·go_simp
  try with_reducible rfl
 simp only [nz]
 refine pl_call (d := some 9) (by rfl) (by go_simp; first | done | exact ⟨rfl, rfl⟩ | with_reducible rfl) rfl ?_
 refine (cc w2 S2).mono ?_
 rintro _ w3 ⟨y, rfl, hy, hC, hD, hvt, S3, k3⟩
 refine ⟨_, rfl, ?_⟩
 simp only [nz]
 have k8 : Kept w R Q w3 := (((Kept.refl w R Q).below hB1).trans k2).trans k3
 have thA : w3.there w.heap.size 0 39 := there_blk (there_blk ht1 (k2.block _ hs1 (by omega) (by omega))) (k3.block _ (Nat.lt_of_lt_of_le hs1 k2.size) (by omega) (by omega))
 have hvl : (certL vt y).length = 37 := by have := hvt.len; simp [certL]; omega
 have hbs := fun w0 => build_held q x.val (certL vt y) hvl rfl w0
 have hpl : (Value.bool q :: x.val :: certL vt y).length = 39 := by simp [hvl]
 have hip : (Tryz.prog.info? 129).map (·.size) = some (Value.bool q :: x.val :: certL vt y).length := by rw [hpl]; exact iszH
 have hp1 : ∀ v ∈ Value.bool q :: x.val :: certL vt y, v.oneCell' = true := HdE.one ⟨q, x, vt, y⟩
 have hA3 : x.At RqE w3 := hA.kept k3 (n := W1.heap.size) (by omega) (by omega) hB (fun b hb => hb.1)
 obtain ⟨pc, hpc⟩ : ∃ p, Hid (Value.bool q :: x.val :: certL vt y = p) := ⟨_, hide rfl⟩
 simp only [hpc.out] at hbs hpl hip hp1
 refine pl_t 10 (.agg pc.toArray) (by rfl) (ex_build (parts := [(0, .tmp 7), (1, .tmp 9)]) rfl rfl (hbs _)) rfl ?_
 simp only [nz]
 refine pl_store (w' := w3.setCells w.heap.size 0 pc) (by rfl) (ex_put (cs := pc.toArray) rfl rfl rfl (by simpa [hpl] using thA) (by simpa using hip) (all_one hp1)) rfl ?_
 refine pl_nil ?_
 have hlow : Below w.heap.size w3 (w3.setCells w.heap.size 0 pc) := below_sets (Nat.le_refl _) pc 0 _ (Below.refl _ w3)
 have hrs := run_loadVar_mid (P := Tryz.prog) (w3.setCells w.heap.size 0 pc) w.heap.size 0 129 pc _ (World.rangeAt_setCells_same w3 w.heap.size 0 pc (by rw [hpl]; exact thA)) Tryz.underlying129 rfl hip
 have HF : Hid (∃ g : Hd, Ending.returned (.agg pc.toArray) = .returned (.agg g.cells.toArray) ∧ g.pure = ⟨q, rs, vt, sg⟩ ∧ g.At (w3.setCells w.heap.size 0 pc) ∧ g.Bk (fun b => w.heap.size ≤ b ∧ b < (w3.setCells w.heap.size 0 pc).heap.size) ∧ g.vt.ok ∧ RS (w3.setCells w.heap.size 0 pc) Q R t' ∧ Kept w R Q (w3.setCells w.heap.size 0 pc)) := by
  have z2 := k2.size
  have z3 := k3.size
  have hBk : Hd.Bk ⟨q, x, vt, y⟩ (fun b => W1.heap.size ≤ b ∧ b < w3.heap.size) := ⟨hB.mono (fun b hb => ⟨hb.1, by omega⟩), hD.mono (fun b hb => ⟨by omega, hb.2⟩)⟩
  refine hide ⟨⟨q, x, vt, y⟩, by rw [← hpc.out]; rfl, by rw [← hx, ← hy]; rfl, Hd.At.on ⟨hA3, hC⟩ (by rw [size_sets]; exact Nat.le_refl _) hBk (fun b hb hlt => blk_sets (by omega)), hBk.mono (fun b hb => ⟨by omega, by rw [size_sets]; exact hb.2⟩), hvt, S3.low hlow hQw, k8.low hlow (Nat.le_refl _)⟩
 clear hA hB S3 k3 S2 k2 hpc hbs hx k8 hA3 hC hD hy
 go_wp2_with fail
 refine bodyPost_ret (v := .agg pc.toArray) ?_ rfl ?_
 ·simp [results, Tryz.results101, Act.put, asAddr, hrs]
 ·exact HF.out
theorem numRS (Q R : Nat) (most : Int) (s : Rst) (w : World) (h : RS w Q R s) : Calls Tryz.prog 60 #[.pointer (some ⟨R, 0, none⟩), .int .i64 most] w fun en w' => en = .returned (.int .i64 (nuS most s).1) ∧ RS w' Q R (nuS most s).2 ∧ Kept w R Q w' :=
 (num_any R s.1 s.2.1 most w h.st).mono (by rintro _ w1 ⟨rfl, h1, h2⟩; exact ⟨rfl, h.gb h2 h1, Kept.of h2⟩)
def kiS (most : Int) (s : Rst) : Int × Rst := ((numS s.1 s.2.1 most).1, (numS s.1 s.2.1 most).2.1, (numS s.1 s.2.1 most).2.2, kdZ s.1 s.2.1 most s.2.2)
def dgS (s : Rst) : List Int × Rst := (padN 32 (rawS s.1 s.2.1 32).1, (rawS s.1 s.2.1 32).2.1, (rawS s.1 s.2.1 32).2.2, s.2.2)
def txS (most : Int) (s : Rst) : ByteArray × Rst := (strOf (textS s.1 s.2.1 most).1, (textS s.1 s.2.1 most).2.1, (textS s.1 s.2.1 most).2.2, s.2.2)
theorem kiS_len (most : Int) (s : Rst) : (kiS most s).2.1.length ≤ s.1.length := numS_len _ _ _
theorem dgS_len (s : Rst) : (dgS s).2.1.length ≤ s.1.length := rawS_len _ _ _
theorem txS_len (most : Int) (s : Rst) : (txS most s).2.1.length ≤ s.1.length := textS_len _ _ _
theorem dgS_ok (s : Rst) (hb : s.2.1 = 0 → Bs s.1) : (dgS s).1.length = 32 ∧ ∀ z ∈ (dgS s).1, 0 ≤ z ∧ z < 256 := ⟨padN_len _ _, padN_bs (rawS_t hb)⟩
theorem kindRS (Q R : Nat) (most : Int) (s : Rst) (w : World) (h : RS w Q R s) : Calls Tryz.prog 59 #[.pointer (some ⟨Q, 0, none⟩), .int .i64 most] w fun en w' => en = .returned (.int .i64 (kiS most s).1) ∧ RS w' Q R (kiS most s).2 ∧ Kept w R Q w' :=
 (rkind_any Q R s.2.2 s.1 s.2.1 most w h.st h.mr h.qt).mono (by rintro _ w1 ⟨rfl, h1, h2, h3, h4⟩; exact ⟨rfl, ⟨h1, h2, h4⟩, h3⟩)
theorem digRS (Q R : Nat) (s : Rst) (w : World) (h : RS w Q R s) (hl : s.1.length ≤ 40000) : Calls Tryz.prog 66 #[.pointer (some ⟨Q, 0, none⟩)] w fun en w' => en = .returned (.agg (v8 (dgS s).1).toArray) ∧ RS w' Q R (dgS s).2 ∧ Kept w R Q w' :=
 (rdigest_any Q R s.2.2 s.1 s.2.1 w h.st h.mr hl).mono (by rintro _ w1 ⟨rfl, h1, h2⟩; exact ⟨rfl, h.gb h2 h1, Kept.of h2⟩)
theorem textRS (Q R : Nat) (most : Int) (s : Rst) (w : World) (h : RS w Q R s) : Calls Tryz.prog 68 #[.pointer (some ⟨R, 0, none⟩), .int .i64 most] w fun en w' => en = .returned (.string (txS most s).1) ∧ RS w' Q R (txS most s).2 ∧ Kept w R Q w' :=
 (text_any R s.1 s.2.1 most w h.st h.st.pos).mono (by rintro _ w1 ⟨rfl, h1, h2⟩; exact ⟨rfl, h.gb h2 h1, Kept.of h2⟩)
structure LH (w : World) (Q R : Nat) (t : Rst) (k : Nat) (v : Value) (W : World) : Prop where
 ex : ∃ ys : List Hd, ys.map Hd.pure = (itG heS t k).1 ∧ W.ownsRow w.heap.size 129 39 v k (ys.flatMap Hd.cells) ∧ ∀ y ∈ ys, y.vt.ok ∧ y.At W ∧ y.Bk (fun b => w.heap.size ≤ b ∧ b < W.heap.size ∧ v.ownBlock ≠ some b)
 rs : RS W Q R (itG heS t k).2
 kept : Kept w R Q W
def infoHd0 : List Value := [Value.bool false, .slice none 0 0] ++ (Vt.zero.cells ++ [Value.slice none 0 0])
theorem infoHd : (Tryz.prog.info? 129).map (fun i => (i.zero, i.size, i.bytes)) = some (some (.agg infoHd0.toArray), 39, 120) := by kernel_rfl
theorem zk_held : (Value.agg infoHd0.toArray).cells.size = 39 := by decide
theorem LH.step {w wr w4 w5 w6 : World} {Q R k : Nat} {t : Rst} {v v6 : Value} {y : Hd} (hQ : Q < w.heap.size) (hR : R < w.heap.size) (H : LH w Q R t k v wr) (e1 : y.pure = (heS (itG heS t k).2).1) (hy : y.At w4) (hB : y.Bk (fun b => wr.heap.size ≤ b ∧ b < w4.heap.size)) (hvt : y.vt.ok) (S4 : RS w4 Q R (heS (itG heS t k).2).2) (k4 : Kept wr R Q w4)
  (hb5 : Below w4.heap.size w4 w5) (g6 : w5.grownBy w6 v.ownBlock) (gb : ∀ g, v6.ownBlock = some g → v.ownBlock = some g ∨ w5.heap.size ≤ g) {ys : List Hd} (e2 : ys.map Hd.pure = (itG heS t k).1) (o3 : wr.ownsRow w.heap.size 129 39 v k (ys.flatMap Hd.cells)) (hys : ∀ y ∈ ys, y.vt.ok ∧ y.At wr ∧ y.Bk (fun b => w.heap.size ≤ b ∧ b < wr.heap.size ∧ v.ownBlock ≠ some b)) (o6 : w6.ownsRow w.heap.size 129 39 v6 (k + 1) (ys.flatMap Hd.cells ++ y.cells)) : LH w Q R t (k + 1) v6 w6 := by
 have z4 := k4.size
 have z5 := hb5.size
 have z6 := g6.size
 have zk := H.kept.size
 have bl : ∀ b, b < w4.heap.size → v.ownBlock ≠ some b → w6.heap[b]? = w4.heap[b]? := fun b h1 h2 => (g6.block b (by omega) (fun q => h2 q.symm)).trans (hb5.block b h1)
 have low : Below w.heap.size w4 w6 := own_low (B := w.heap.size) (hb5.mono (by omega)) (by omega) ((own_kept o3 k4 (by omega) (by omega)).kept (row := none) ⟨hb5.os, hb5.tape, hb5.output, hb5.size, fun b h1 _ => hb5.block b h1⟩ (by cases v.ownBlock <;> simp)) g6
 refine ⟨⟨ys ++ [y], ?_, ?_, ?_⟩, S4.low low hQ, (H.kept.trans k4).low low (Nat.le_refl _)⟩
 ·rw [List.map_append, e2]
  show _ = (itG heS t k).1 ++ [(heS (itG heS t k).2).1]
  rw [← e1]
  rfl
 ·rw [List.flatMap_append]
  simpa using o6
 ·intro u hu
  rcases List.mem_append.1 hu with g | g
  ·obtain ⟨u1, u2, u3⟩ := hys u g
   refine ⟨u1, u2.on (by omega) u3 (fun b hb hlt => (bl b (by omega) hb.2.2).trans (k4.block b hlt (by omega) (by omega))), u3.mono (fun b hb => ⟨hb.1, by omega, fun q => ?_⟩)⟩
   rcases gb b q with g1 | g1
   ·exact hb.2.2 g1
   ·omega
  ·rw [List.mem_singleton.1 g]
   have nb : ∀ b, wr.heap.size ≤ b → v.ownBlock ≠ some b := fun b hb q => by have := (o3.lt b q).2; omega
   refine ⟨hvt, hy.on (by omega) hB (fun b hb hlt => bl b hlt (nb b hb.1)), hB.mono (fun b hb => ⟨by omega, by omega, fun q => ?_⟩)⟩
   rcases gb b q with g1 | g1
   ·exact nb b hb.1 g1
   ·omega
set_option maxRecDepth 100000 in
set_option maxHeartbeats 1000000 in
theorem rlistH_any (Q R : Nat) (s : Rst) (w : World) (h : RS w Q R s) (hl : s.1.length ≤ 40000) : Calls Tryz.prog 100 #[.func (.func 60) #[.pointer (some ⟨R, 0, none⟩)] #[], .int .i64 4, .func (.func 101) #[.pointer (some ⟨Q, 0, none⟩)] #[]] w fun en w' => ∃ x : Sl Hd, en = .returned x.val ∧ x.xs.map Hd.pure = (lsS 4 heS s).1 ∧ HdsAt w' x ∧ x.Bk (fun b => w.heap.size ≤ b ∧ b < w'.heap.size) ∧ (∀ y ∈ x.xs, y.Bk (fun b => w.heap.size ≤ b ∧ b < w'.heap.size)) ∧ RS w' Q R (lsS 4 heS s).2 ∧ Kept w R Q w' := by
 obtain ⟨i1, hi1, hiz, his, hib⟩ := info_parts infoHd
 have hzk := zk_held
 have hRw := h.st.1.1
 have hQw := h.mr.lt
 have cn := fun w0 h0 => numRS Q R 4 s w0 h0
 have hx1 : 0 ≤ (nuS 4 s).1 ∧ (nuS 4 s).1 ≤ 4 := numS_bd (most := 4) h.st.bs (by omega)
 have hx2 := nuS_len 4 s
 unfold lsS
 generalize nuS 4 s = p_ at hx1 hx2 cn ⊢
 obtain ⟨n, t⟩ := p_
 simp only at hx1 hx2 cn ⊢
 obtain ⟨N, rfl⟩ : ∃ N : Nat, n = (N : Int) := ⟨n.toNat, by omega⟩
 have hN : N ≤ 4 := by omega
 rw [Int.toNat_natCast]
 have hlt2 : t.1.length ≤ 40000 := Nat.le_trans hx2 hl
 clear hx1 hx2 hl
 go_enter Tryz.func100, Tryz.ntmps100
 go_upto_region 1 with fail
 try simp only [Act.put]
 refine pl_begin ?_
 refine pl_t 9 (?_) (by rfl) ?_ rfl ?_
 rotate_left
 ·go_simp
  try with_reducible rfl
 simp only [nz]
 refine pl_t 10 (?_) (by rfl) ?_ rfl ?_
 rotate_left
 ·go_simp
  try with_reducible rfl
 simp only [nz]
 refine pl_call (d := some 11) (by rfl) (by go_simp; first | done | exact ⟨rfl, rfl⟩ | with_reducible rfl) rfl ?_
 refine (cn w h).mono ?_
 rintro _ w2 ⟨rfl, S2, k2⟩
 refine ⟨_, rfl, ?_⟩
 simp only [nz]
 refine pl_t 7 (?_) (by rfl) ?_ rfl ?_
 rotate_left
 ·go_simp
  try with_reducible rfl
 simp only [nz]
 refine pl_nil ?_
 clear cn
 go_upto_region 2 with fail
 try simp only [Act.put]
 refine pl_begin ?_
 refine pl_t 12 (?_) (by rfl) ?_ rfl ?_
 rotate_left
 ·go_simp
  try with_reducible rfl
 simp only [nz]
 refine pl_runX (d := some 13) (by rfl) rfl (ex_mk (B := w.heap.size) (c := (N : Int)) rfl rfl (by omega) (by omega) Tryz.underlying102 hi1 hiz his (by rw [hib]; decide) k2.size) ?_
 rintro v3 w3 ⟨o3, g3⟩
 simp only [nz]
 refine pl_t 8 (?_) (by rfl) ?_ rfl ?_
 rotate_left
 ·go_simp
  try with_reducible rfl
 simp only [nz]
 refine pl_nil ?_
 have hb3 : Below w2.heap.size w2 w3 := (Below.refl _ _).grown g3 (Nat.le_refl _) (fun k hk => by cases hk)
 have HL0 : Hid (LH w Q R t 0 v3 w3) := hide ⟨⟨[], rfl, o3, fun y hy => by cases hy⟩, S2.below hb3, k2.below hb3⟩
 clear o3 g3 hb3 S2 k2 h
 go_wp2_with fail
 go_loopw [8, 15] (fun ov iv wr => ∃ k : Nat, k ≤ N ∧ iv = .int .i64 (k : Int) ∧ Hid (LH w Q R t k ov wr)) (fun _ iv _ => N - (intOf iv).toNat)
 case atStart => exact ⟨0, by omega, rfl, HL0⟩
 case round =>
  clear HL0
  obtain ⟨k, hk, rfl, HL⟩ := hrel
  by_cases hlt : k < N
  ·have k1 : (k : Int) < N := by omega
   have HL := HL.out
   have hle := Nat.le_trans (itG_len heS_len t k) hlt2
   have cE := rheldS Q R (itG heS t k).2 wr HL.rs hle
   go_upto_region 5 with fail
   try simp only [Act.put]
   refine pl_begin ?_
   refine pl_t 17 (?_) (by rfl) ?_ rfl ?_
   rotate_left
   ·go_simp
    try with_reducible rfl
   simp only [nz]
   refine pl_t 18 (?_) (by rfl) ?_ rfl ?_
   rotate_left
   ·go_simp
    try with_reducible rfl
   simp only [nz]
   refine pl_call (d := some 19) (by rfl) (by go_simp; first | done | exact ⟨rfl, rfl⟩ | with_reducible rfl) rfl ?_
   refine (cE).mono ?_
   rintro _ w4 ⟨y, rfl, e4, a4, B4, vt4, S4, k4⟩
   refine ⟨_, rfl, ?_⟩
   simp only [nz]
   obtain ⟨ys, e2, o3, hys⟩ := HL.ex
   have o4 := own_kept o3 k4 (by omega) (by omega)
   have hul : y.cells.length = 39 := HdE.len y vt4
   have hone := HdE.one y
   have hone : ∀ v ∈ y.cells, v.oneCell' = true := hone
   obtain ⟨u, hu⟩ : ∃ u, Hid (y.cells = u) := ⟨_, hide rfl⟩
   rw [hu.out] at hul hone ⊢
   have hb5 : Below w4.heap.size w4 (w4.alloc (.cells u.toArray 129)) := (Below.refl _ _).alloc (Nat.le_refl _) _
   have r5 : (w4.alloc (.cells u.toArray 129)).rangeAt w4.heap.size 0 u := by simpa using range_new w4 u.toArray 129
   have o5 := o4.alloc (.cells u.toArray 129)
   refine pl_run (d := some 20) (v := .slice (some ⟨w4.heap.size, 0, none⟩) 1 1) (w' := w4.alloc (.cells u.toArray 129)) (by rfl) (exec_bs1 rfl rfl (run_bs1 102 129 i1 _ u Tryz.underlying102 hi1 hiz (by rw [his, hul]) (by omega) (by omega) _)) rfl ?_
   simp only [nz]
   have s4 : w.heap.size ≤ w4.heap.size := Nat.le_trans HL.kept.size k4.size
   obtain ⟨w5, hw5⟩ : ∃ W, w4.alloc (.cells u.toArray 129) = W := ⟨_, rfl⟩
   rw [hw5] at hb5 r5 o5 ⊢
   clear hw5
   refine pl_runX (d := some 21) (by rfl) rfl (ex_app1 rfl rfl rfl Tryz.underlying102 hi1 hiz his (by rw [hib]; decide) rfl o5 (Nat.le_trans s4 hb5.size) r5 hul hone (by omega) hzk) ?_
   rintro v6 w6 ⟨o6, g6, gb6⟩
   simp only [nz]
   refine pl_t 8 (?_) (by rfl) ?_ rfl ?_
   rotate_left
   ·go_simp
    try with_reducible rfl
   simp only [nz]
   refine pl_nil ?_
   have HL6 : Hid (LH w Q R t (k + 1) v6 w6) := hide (HL.step hQw hRw e4 a4 B4 vt4 S4 k4 hb5 g6 gb6 e2 o3 hys (by rw [hu.out]; exact o6))
   clear HL o3 o4 o5 o6 g6 S4 k4 hb5 r5 cE a4 B4 vt4 e4 e2 hys hu
   go_wp2_with fail
   go_roundw
   case rel => exact ⟨k + 1, by omega, by go_num, HL6⟩
   case measure => simp [intOf]; omega
  ·obtain rfl : k = N := by omega
   have HL := HL.out
   obtain ⟨ys, e2, o3, hys⟩ := HL.ex
   have hlen : ys.length = k := by
    have := congrArg List.length e2
    rwa [List.length_map, itG_length] at this
   obtain ⟨x, rfl, hx, hA, hB⟩ := own_rows (E := HdE) (ys := ys) (by rw [hlen]; exact o3) (fun y hy => (hys y hy).1) (by rw [hlen]; unfold maxLen; omega)
   have HF : Hid (∃ g : Sl Hd, Ending.returned x.val = .returned g.val ∧ g.xs.map Hd.pure = (itG heS t k).1 ∧ HdsAt wr g ∧ g.Bk (fun b => w.heap.size ≤ b ∧ b < wr.heap.size) ∧ (∀ y ∈ g.xs, y.Bk (fun b => w.heap.size ≤ b ∧ b < wr.heap.size)) ∧ RS wr Q R (itG heS t k).2 ∧ Kept w R Q wr) := hide ⟨x, rfl, by rw [hx]; exact e2, ⟨hA, fun y hy => by rw [hx] at hy; exact (hys y hy).2.1⟩, fun b _ hb => ⟨(hB b hb).1, (hB b hb).2.1⟩, fun y hy => by rw [hx] at hy; exact (hys y hy).2.2.mono (fun b hb => ⟨hb.1, hb.2.1⟩), HL.rs, HL.kept⟩
   clear HL hA hB hx e2 o3 hys
   go_wp2_with fail
   go_ret
   exact HF.out
structure MV (w : World) (Q R A B n : Nat) (q : List Value) (s : Rst) (W : World) : Prop where
 row : W.rangeAt B 0 q
 box : W.there B 0 n
 ans : W.there A 0 n
 kept : Kept w R Q W
 rs : RS W Q R s
 la : A < W.heap.size
 lb : B < W.heap.size
 na : w.heap.size ≤ A
 nb : w.heap.size ≤ B
 ne : A ≠ B
 rq : R < w.heap.size ∧ Q < w.heap.size
theorem MV.on {w W W' : World} {Q R A B n : Nat} {q : List Value} {s s' : Rst} (h : MV w Q R A B n q s W) (k : Kept W R Q W') (S : RS W' Q R s') : MV w Q R A B n q s' W' := by
 have h1 := h.na
 have h2 := h.nb
 have h3 := h.rq
 exact ⟨range_blk h.row (k.blk h.lb (by omega) (by omega)), there_blk h.box (k.blk h.lb (by omega) (by omega)), there_blk h.ans (k.blk h.la (by omega) (by omega)), h.kept.trans k, S, Nat.lt_of_lt_of_le h.la k.size, Nat.lt_of_lt_of_le h.lb k.size, h1, h2, h.ne, h3⟩
theorem MV.set {w W : World} {Q R A B n : Nat} {q q' : List Value} {s : Rst} (h : MV w Q R A B n q s W) (o : Nat) (vs : List Value) (hq : (W.setCells B o vs).rangeAt B 0 q') : MV w Q R A B n q' s (W.setCells B o vs) := by
 have h1 := h.na
 have h2 := h.nb
 have h3 := h.rq
 exact ⟨hq, World.there_setCells h.box _ _ _, World.there_setCells h.ans _ _ _, h.kept.newSets h2 _ _, h.rs.low (below_sets h2 vs o _ (Below.refl _ W)) h3.2, by rw [size_sets]; exact h.la, by rw [size_sets]; exact h.lb, h1, h2, h.ne, h3⟩
theorem MV.drew {w W : World} {Q R A B n : Nat} {q : List Value} {s : Rst} (h : MV w Q R A B n q s W) : MV w Q R A B n q s W.drew :=
 ⟨(World.rangeAt_drew _ _ _ _).2 h.row, h.box, h.ans, h.kept.below ((Below.refl _ _).drew), h.rs.below ((Below.refl _ _).drew), h.la, h.lb, h.na, h.nb, h.ne, h.rq⟩
theorem MV.below {w W W' : World} {Q R A B n : Nat} {q : List Value} {s : Rst} (h : MV w Q R A B n q s W) (hb : Below W.heap.size W W') : MV w Q R A B n q s W' :=
 h.on ((Kept.refl W R Q).below hb) (h.rs.below hb)
theorem MV.part {w W : World} {Q R A B n : Nat} {q : List Value} {s : Rst} (h : MV w Q R A B n q s W) (o m : Nat) (hm : o + m ≤ n) : W.there B o m := there_part1 h.box hm
theorem Sl.At.put {α : Type} {E : El α} {W : World} {x : Sl α} {P : Nat → Prop} {B o : Nat} {vs : List Value} (h : x.At E W) (hb : x.Bk P) (hp : ∀ b, P b → b ≠ B) : x.At E (W.setCells B o vs) :=
 h.on (by rw [size_sets]; exact Nat.le_refl _) hb (fun b hP _ => blk_sets (hp b hP))
theorem HdsAt.put {W : World} {x : Sl Hd} {P : Nat → Prop} {B o : Nat} {vs : List Value} (h : HdsAt W x) (hb : x.Bk P) (hb2 : ∀ y ∈ x.xs, y.Bk P) (hp : ∀ b, P b → b ≠ B) : HdsAt (W.setCells B o vs) x :=
 ⟨Sl.At.put h.1 hb hp, fun y hy => (h.2 y hy).on (by rw [size_sets]; exact Nat.le_refl _) (hb2 y hy) (fun b hP _ => blk_sets (hp b hP))⟩
theorem HdsAt.kept {w w' : World} {R Q n : Nat} {x : Sl Hd} {P : Nat → Prop} (h : HdsAt w x) (k : Kept w R Q w') (hR : R < n) (hQ : Q < n) (hb : x.Bk P) (hb2 : ∀ y ∈ x.xs, y.Bk P) (hp : ∀ b, P b → n ≤ b) : HdsAt w' x :=
 ⟨Sl.At.kept h.1 k hR hQ hb hp, fun y hy => ⟨Sl.At.kept (h.2 y hy).1 k hR hQ (hb2 y hy).1 hp, Sl.At.kept (h.2 y hy).2 k hR hQ (hb2 y hy).2 hp⟩⟩
structure Cp where
 e : Int
 l : Int
 v : Int
 he : List Hp
def chS (s : Rst) : Cp × Rst :=
 (⟨(nuS 1048576 s).1, (nuS 64 (nuS 1048576 s).2).1, (nuS 1099511627776 (nuS 64 (nuS 1048576 s).2).2).1, (lsS 4 heS (nuS 1099511627776 (nuS 64 (nuS 1048576 s).2).2).2).1⟩, (lsS 4 heS (nuS 1099511627776 (nuS 64 (nuS 1048576 s).2).2).2).2)
theorem chS_len (s : Rst) : (chS s).2.1.length ≤ s.1.length := Nat.le_trans (lsS_len heS_len _ _) (Nat.le_trans (nuS_len _ _) (Nat.le_trans (nuS_len _ _) (nuS_len _ _)))
theorem zeroChE (w : World) : (zeroValue 104).run Tryz.prog w = .ok (.agg ([.int .i64 0, .int .i64 0, .int .i64 0, .slice none 0 0] : List Value).toArray) w := by kernel_rfl
theorem iszHds : (Tryz.prog.info? 102).map (·.size) = some 1 := by kernel_rfl
theorem ch_put {W : World} {B : Nat} {a b c d : Value} (h : W.rangeAt B 0 [a, b, c, d]) (x : Value) :
  (W.setCells B 0 [x]).rangeAt B 0 [x, b, c, d] ∧ (W.setCells B 1 [x]).rangeAt B 0 [a, x, c, d] ∧ (W.setCells B 2 [x]).rangeAt B 0 [a, b, x, d] ∧ (W.setCells B 3 [x]).rangeAt B 0 [a, b, c, x] :=
 ⟨range_set h 0 x, range_set h 1 x, range_set h 2 x, range_set h 3 x⟩
set_option maxRecDepth 100000 in
set_option maxHeartbeats 1000000 in
theorem rchangeS (Q R : Nat) (s : Rst) (w : World) (h : RS w Q R s) (hl : s.1.length ≤ 40000) : Calls Tryz.prog 63 #[.pointer (some ⟨Q, 0, none⟩)] w fun en w' => ∃ x : Sl Hd, en = .returned (.agg ([.int .i64 (chS s).1.e, .int .i64 (chS s).1.l, .int .i64 (chS s).1.v, x.val] : List Value).toArray) ∧ x.xs.map Hd.pure = (chS s).1.he ∧ HdsAt w' x ∧ x.Bk (fun b => w.heap.size ≤ b ∧ b < w'.heap.size) ∧ (∀ y ∈ x.xs, y.Bk (fun b => w.heap.size ≤ b ∧ b < w'.heap.size)) ∧ RS w' Q R (chS s).2 ∧ Kept w R Q w' := by
 obtain ⟨zc, hzl, hzr, hzc⟩ : ∃ z : List Value, z.length = 4 ∧ (∀ w : World, (zeroValue 104).run Tryz.prog w = .ok (.agg z.toArray) w) ∧ Hid (z = [.int .i64 0, .int .i64 0, .int .i64 0, .slice none 0 0]) := ⟨_, rfl, zeroChE, hide rfl⟩
 have hRw := h.st.1.1
 have hQw := h.mr.lt
 unfold chS
 have c1 := fun w0 h0 => numRS Q R 1048576 s w0 h0
 have l1 := nuS_len 1048576 s
 generalize nuS 1048576 s = p_ at c1 l1 ⊢
 obtain ⟨v1, s1⟩ := p_
 simp only at c1 l1 ⊢
 have c2 := fun w0 h0 => numRS Q R 64 s1 w0 h0
 have l2 := nuS_len 64 s1
 generalize nuS 64 s1 = p_ at c2 l2 ⊢
 obtain ⟨v2, s2⟩ := p_
 simp only at c2 l2 ⊢
 have c3 := fun w0 h0 => numRS Q R 1099511627776 s2 w0 h0
 have l3 := nuS_len 1099511627776 s2
 generalize nuS 1099511627776 s2 = p_ at c3 l3 ⊢
 obtain ⟨v3, s3⟩ := p_
 simp only at c3 l3 ⊢
 have c4 := fun w0 h0 => rlistH_any Q R s3 w0 h0 (by omega)
 generalize lsS 4 heS s3 = p_ at c4 ⊢
 obtain ⟨ls, s4⟩ := p_
 simp only at c4 ⊢
 obtain ⟨hB1, hr1, hs1⟩ := boxed_new w zc 104
 have ht1 := there_newN w zc.toArray 104 (n := 4) (by simp [hzl])
 go_enter Tryz.func63, Tryz.ntmps63
 go_upto_region 0 with fail
 try simp only [Act.put]
 refine pl_begin ?_
 refine pl_run (d := some 2) (v := .pointer (some ⟨w.heap.size, 0, none⟩)) (w' := w.alloc (.cells zc.toArray 104)) (by rfl) (ex_alloc rfl (hzr _)) rfl ?_
 simp only [nz]
 refine pl_nil ?_
 obtain ⟨W1, hW1⟩ : ∃ W, w.alloc (.cells zc.toArray 104) = W := ⟨_, rfl⟩
 rw [hW1] at hB1 hr1 hs1 ht1 ⊢
 clear hW1 hr1
 obtain ⟨hB2, hr2, hs2⟩ := boxed_new W1 zc 104
 have ht2 := there_newN W1 zc.toArray 104 (n := 4) (by simp [hzl])
 go_upto_region 1 with fail
 try simp only [Act.put]
 refine pl_begin ?_
 refine pl_run (d := some 3) (v := .pointer (some ⟨W1.heap.size, 0, none⟩)) (w' := W1.alloc (.cells zc.toArray 104)) (by rfl) (ex_alloc rfl (hzr _)) rfl ?_
 simp only [nz]
 refine pl_nil ?_
 obtain ⟨W2, hW2⟩ : ∃ W, W1.alloc (.cells zc.toArray 104) = W := ⟨_, rfl⟩
 rw [hW2] at hB2 hr2 hs2 ht2 ⊢
 clear hW2
 rw [hzc.out] at hr2
 have hBW := hB1.trans (hB2.mono hB1.size)
 have V0 : MV w Q R w.heap.size W1.heap.size 4 _ s W2 := ⟨hr2, ht2, there_belowN ht1 hB2 hs1, (Kept.refl w R Q).below hBW, h.below hBW, Nat.lt_of_lt_of_le hs1 hB2.size, hs2, Nat.le_refl _, hB1.size, by omega, hRw, hQw⟩
 clear hr2 ht2 ht1 hzr hzc hzl hB1 hB2 hBW hs2 h
 go_upto_region 2 with fail
 have V8 := V0.drew
 refine hs_begin (S := (fun W' => W'.cell? ⟨Q, 0, none⟩ = some (.pointer (some ⟨R, 0, none⟩)))) 21 rfl (by kernel_rfl) ?_
 obtain ⟨w8, hw8⟩ : ∃ W, W2.drew = W := ⟨_, rfl⟩
 rw [hw8] at V8 ⊢
 clear hw8 V0
 have hS : (fun W' => W'.cell? ⟨Q, 0, none⟩ = some (.pointer (some ⟨R, 0, none⟩))) w8 := V8.rs.mr.c0
 refine hs_t 0 4 (?_) rfl (by kernel_rfl) (by kernel_rfl) (by kernel_rfl) (by rfl) ?_ hS rfl ?_
 rotate_left
 ·intro w' hw
  go_simp
  try with_reducible rfl
 simp only [nz]
 refine hs_t 1 5 (?_) rfl (by kernel_rfl) (by kernel_rfl) (by kernel_rfl) (by rfl) ?_ hS rfl ?_
 rotate_left
 ·intro w' hw
  go_simp
  try with_reducible rfl
 simp only [nz]
 refine hs_t 2 6 (?_) rfl (by kernel_rfl) (by kernel_rfl) (by kernel_rfl) (by rfl) ?_ hS rfl ?_
 rotate_left
 ·intro w' hw
  go_simp
  try with_reducible rfl
 simp only [nz]
 refine hs_t 3 7 (.pointer (some ⟨R, 0, none⟩)) rfl (by kernel_rfl) (by kernel_rfl) (by kernel_rfl) (by rfl) (fun w' hw => pl_one rfl rfl hw Tryz.underlying142 rfl) hS rfl ?_
 simp only [nz]
 refine hs_t 5 9 (?_) rfl (by kernel_rfl) (by kernel_rfl) (by kernel_rfl) (by rfl) ?_ hS rfl ?_
 rotate_left
 ·intro w' hw
  go_simp
  try with_reducible rfl
 simp only [nz]
 refine hs_t 6 10 (?_) rfl (by kernel_rfl) (by kernel_rfl) (by kernel_rfl) (by rfl) ?_ hS rfl ?_
 rotate_left
 ·intro w' hw
  go_simp
  try with_reducible rfl
 simp only [nz]
 refine hs_t 7 11 (?_) rfl (by kernel_rfl) (by kernel_rfl) (by kernel_rfl) (by rfl) ?_ hS rfl ?_
 rotate_left
 ·intro w' hw
  go_simp
  try with_reducible rfl
 simp only [nz]
 refine hs_t 8 12 (.pointer (some ⟨R, 0, none⟩)) rfl (by kernel_rfl) (by kernel_rfl) (by kernel_rfl) (by rfl) (fun w' hw => pl_one rfl rfl hw Tryz.underlying142 rfl) hS rfl ?_
 simp only [nz]
 refine hs_t 10 14 (?_) rfl (by kernel_rfl) (by kernel_rfl) (by kernel_rfl) (by rfl) ?_ hS rfl ?_
 rotate_left
 ·intro w' hw
  go_simp
  try with_reducible rfl
 simp only [nz]
 refine hs_t 11 15 (?_) rfl (by kernel_rfl) (by kernel_rfl) (by kernel_rfl) (by rfl) ?_ hS rfl ?_
 rotate_left
 ·intro w' hw
  go_simp
  try with_reducible rfl
 simp only [nz]
 refine hs_t 12 16 (?_) rfl (by kernel_rfl) (by kernel_rfl) (by kernel_rfl) (by rfl) ?_ hS rfl ?_
 rotate_left
 ·intro w' hw
  go_simp
  try with_reducible rfl
 simp only [nz]
 refine hs_t 13 17 (.pointer (some ⟨R, 0, none⟩)) rfl (by kernel_rfl) (by kernel_rfl) (by kernel_rfl) (by rfl) (fun w' hw => pl_one rfl rfl hw Tryz.underlying142 rfl) hS rfl ?_
 simp only [nz]
 refine hs_call (i := 4) (d := some 8) rfl (by kernel_rfl) (by rfl) (by go_simp; first | done | exact ⟨rfl, rfl⟩ | with_reducible rfl) rfl ?_
 refine (c1 w8 V8.rs).mono ?_
 rintro _ w5 ⟨rfl, S5, k5⟩
 have hS : (fun W' => W'.cell? ⟨Q, 0, none⟩ = some (.pointer (some ⟨R, 0, none⟩))) w5 := S5.mr.c0
 refine ⟨_, rfl, hS, ?_⟩
 simp only [nz]
 refine hs_t 15 19 (?_) rfl (by kernel_rfl) (by kernel_rfl) (by kernel_rfl) (by rfl) ?_ hS rfl ?_
 rotate_left
 ·intro w' hw
  go_simp
  try with_reducible rfl
 simp only [nz]
 refine hs_call (i := 9) (d := some 13) rfl (by kernel_rfl) (by rfl) (by go_simp; first | done | exact ⟨rfl, rfl⟩ | with_reducible rfl) rfl ?_
 refine (c2 w5 S5).mono ?_
 rintro _ w6 ⟨rfl, S6, k6⟩
 have hS : (fun W' => W'.cell? ⟨Q, 0, none⟩ = some (.pointer (some ⟨R, 0, none⟩))) w6 := S6.mr.c0
 refine ⟨_, rfl, hS, ?_⟩
 simp only [nz]
 refine hs_call (i := 14) (d := some 18) rfl (by kernel_rfl) (by rfl) (by go_simp; first | done | exact ⟨rfl, rfl⟩ | with_reducible rfl) rfl ?_
 refine (c3 w6 S6).mono ?_
 rintro _ w7 ⟨rfl, S7, k7⟩
 have hS : (fun W' => W'.cell? ⟨Q, 0, none⟩ = some (.pointer (some ⟨R, 0, none⟩))) w7 := S7.mr.c0
 refine ⟨_, rfl, hS, ?_⟩
 simp only [nz]
 have V7 := ((V8.on k5 S5).on k6 S6).on k7 S7
 have Va := V7.set 0 [.int .i64 v1] ((ch_put V7.row _).1)
 refine hs_store (i := 16) (w' := w7.setCells W1.heap.size 0 [.int .i64 v1]) rfl (by kernel_rfl) (by rfl) (ex_put1 (n := 4) rfl rfl rfl V7.box (by decide) iszI rfl rfl) rfl Va.rs.mr.c0 ?_
 obtain ⟨w_16, hw_16⟩ : ∃ W, w7.setCells W1.heap.size 0 [.int .i64 v1] = W := ⟨_, rfl⟩
 rw [hw_16] at Va ⊢
 clear hw_16
 have hS : (fun W' => W'.cell? ⟨Q, 0, none⟩ = some (.pointer (some ⟨R, 0, none⟩))) w_16 := Va.rs.mr.c0
 refine hs_t 17 20 (?_) rfl (by kernel_rfl) (by kernel_rfl) (by kernel_rfl) (by rfl) ?_ hS rfl ?_
 rotate_left
 ·intro w' hw
  go_simp
  try with_reducible rfl
 simp only [nz]
 have Vb := Va.set 1 [.int .i64 v2] ((ch_put Va.row _).2.1)
 refine hs_store (i := 18) (w' := w_16.setCells W1.heap.size 1 [.int .i64 v2]) rfl (by kernel_rfl) (by rfl) (ex_put1 (n := 4) rfl rfl rfl Va.box (by decide) iszI rfl rfl) rfl Vb.rs.mr.c0 ?_
 obtain ⟨w_18, hw_18⟩ : ∃ W, w_16.setCells W1.heap.size 1 [.int .i64 v2] = W := ⟨_, rfl⟩
 rw [hw_18] at Vb ⊢
 clear hw_18
 have hS : (fun W' => W'.cell? ⟨Q, 0, none⟩ = some (.pointer (some ⟨R, 0, none⟩))) w_18 := Vb.rs.mr.c0
 refine hs_t 19 21 (?_) rfl (by kernel_rfl) (by kernel_rfl) (by kernel_rfl) (by rfl) ?_ hS rfl ?_
 rotate_left
 ·intro w' hw
  go_simp
  try with_reducible rfl
 simp only [nz]
 have Vc := Vb.set 2 [.int .i64 v3] ((ch_put Vb.row _).2.2.1)
 refine hs_store (i := 20) (w' := w_18.setCells W1.heap.size 2 [.int .i64 v3]) rfl (by kernel_rfl) (by rfl) (ex_put1 (n := 4) rfl rfl rfl Vb.box (by decide) iszI rfl rfl) rfl Vc.rs.mr.c0 ?_
 obtain ⟨w_20, hw_20⟩ : ∃ W, w_18.setCells W1.heap.size 2 [.int .i64 v3] = W := ⟨_, rfl⟩
 rw [hw_20] at Vc ⊢
 clear hw_20
 have hS : (fun W' => W'.cell? ⟨Q, 0, none⟩ = some (.pointer (some ⟨R, 0, none⟩))) w_20 := Vc.rs.mr.c0
 refine hs_done (by kernel_rfl) ?_
 clear V7 Va Vb S5 S6 S7 k5 k6 k7 V8 hS c1 c2 c3
 go_upto_region 3 with fail
 try simp only [Act.put]
 refine pl_begin ?_
 refine pl_t 22 (?_) (by rfl) ?_ rfl ?_
 rotate_left
 ·go_simp
  try with_reducible rfl
 simp only [nz]
 refine pl_t 23 (?_) (by rfl) ?_ rfl ?_
 rotate_left
 ·go_simp
  try with_reducible rfl
 simp only [nz]
 refine pl_t 24 (?_) (by rfl) ?_ rfl ?_
 rotate_left
 ·go_simp
  try with_reducible rfl
 simp only [nz]
 refine pl_t 25 (.pointer (some ⟨R, 0, none⟩)) (by rfl) (pl_one rfl rfl Vc.rs.mr.c0 Tryz.underlying142 rfl) rfl ?_
 simp only [nz]
 refine pl_t 26 (?_) (by rfl) ?_ rfl ?_
 rotate_left
 ·go_simp
  try with_reducible rfl
 simp only [nz]
 refine pl_t 27 (?_) (by rfl) ?_ rfl ?_
 rotate_left
 ·go_simp
  try with_reducible rfl
 simp only [nz]
 refine pl_t 28 (?_) (by rfl) ?_ rfl ?_
 rotate_left
 ·go_simp
  try with_reducible rfl
 simp only [nz]
 refine pl_call (d := some 29) (by rfl) (by go_simp; first | done | exact ⟨rfl, rfl⟩ | with_reducible rfl) rfl ?_
 refine (c4 w_20 Vc.rs).mono ?_
 rintro _ wd ⟨x, rfl, hx, hA, hB, hB2, Sd, kd⟩
 refine ⟨_, rfl, ?_⟩
 simp only [nz]
 refine pl_t 30 (?_) (by rfl) ?_ rfl ?_
 rotate_left
 ·go_simp
  try with_reducible rfl
 simp only [nz]
 have Vd := Vc.on kd Sd
 have Ve := Vd.set 3 [x.val] (ch_put Vd.row _).2.2.2
 refine pl_store (w' := wd.setCells W1.heap.size 3 [x.val]) (by rfl) (ex_put1 (n := 4) rfl rfl rfl Vd.box (by decide) iszHds rfl rfl) rfl ?_
 refine pl_nil ?_
 have hne : ∀ b, w_20.heap.size ≤ b ∧ b < wd.heap.size → b ≠ W1.heap.size := fun b hb => by have := Vc.lb; omega
 have hA1 : HdsAt (wd.setCells W1.heap.size 3 [x.val]) x := hA.put hB hB2 hne
 have kz := Vc.kept.size
 obtain ⟨we, hwe⟩ : ∃ W, wd.setCells W1.heap.size 3 [x.val] = W := ⟨_, rfl⟩
 have hse : we.heap.size = wd.heap.size := by rw [← hwe, size_sets]
 rw [hwe] at Ve hA1 ⊢
 clear hwe hA
 have rpc := Ve.row
 have hpl : ([.int .i64 v1, .int .i64 v2, .int .i64 v3, x.val] : List Value).length = 4 := rfl
 have hip : (Tryz.prog.info? 104).map (·.size) = some ([.int .i64 v1, .int .i64 v2, .int .i64 v3, x.val] : List Value).length := iszCh
 have hp1 : ∀ v ∈ ([.int .i64 v1, .int .i64 v2, .int .i64 v3, x.val] : List Value), v.oneCell' = true := by
  intro v hv
  simp only [List.mem_cons, List.not_mem_nil, or_false] at hv
  rcases hv with rfl | rfl | rfl | rfl <;> rfl
 obtain ⟨pc, hpc⟩ : ∃ p, Hid (([.int .i64 v1, .int .i64 v2, .int .i64 v3, x.val] : List Value) = p) := ⟨_, hide rfl⟩
 rw [hpc.out] at hpl hip hp1 rpc
 go_upto_region 4 with fail
 try simp only [Act.put]
 refine pl_begin ?_
 refine pl_t 31 (.agg pc.toArray) (by rfl) (ex_mid rfl rfl rpc Tryz.underlying104 rfl hip) rfl ?_
 simp only [nz]
 refine pl_store (w' := we.setCells w.heap.size 0 pc) (by rfl) (ex_put (cs := pc.toArray) rfl rfl rfl (by simpa [hpl] using Ve.ans) (by simpa using hip) (all_one hp1)) rfl ?_
 refine pl_nil ?_
 have hlow : Below w.heap.size we (we.setCells w.heap.size 0 pc) := below_sets (Nat.le_refl _) pc 0 _ (Below.refl _ we)
 have hrs := run_loadVar_mid (P := Tryz.prog) (we.setCells w.heap.size 0 pc) w.heap.size 0 104 pc _ (World.rangeAt_setCells_same we w.heap.size 0 pc (by rw [hpl]; exact Ve.ans)) Tryz.underlying104 rfl hip
 have HF : Hid (∃ g : Sl Hd, Ending.returned (.agg pc.toArray) = .returned (.agg ([.int .i64 v1, .int .i64 v2, .int .i64 v3, g.val] : List Value).toArray) ∧ g.xs.map Hd.pure = ls ∧ HdsAt (we.setCells w.heap.size 0 pc) g ∧ g.Bk (fun b => w.heap.size ≤ b ∧ b < (we.setCells w.heap.size 0 pc).heap.size) ∧ (∀ y ∈ g.xs, y.Bk (fun b => w.heap.size ≤ b ∧ b < (we.setCells w.heap.size 0 pc).heap.size)) ∧ RS (we.setCells w.heap.size 0 pc) Q R s4 ∧ Kept w R Q (we.setCells w.heap.size 0 pc)) := by
  have la := Vc.la
  refine hide ⟨x, by rw [hpc.out], hx, hA1.put hB hB2 (fun b hb => by omega), hB.mono (fun b hb => ⟨by omega, by rw [size_sets]; omega⟩), fun y hy => (hB2 y hy).mono (fun b hb => ⟨by omega, by rw [size_sets]; omega⟩), Ve.rs.low hlow hQw, Ve.kept.low hlow (Nat.le_refl _)⟩
 clear Ve hlow rpc hA1 hB hB2 Vd Vc Sd kd
 go_wp2_with fail
 refine bodyPost_ret (v := .agg pc.toArray) ?_ rfl ?_
 ·simp [results, Tryz.results63, Act.put, asAddr, hrs]
 ·exact HF.out
structure Mp where
 k : Int
 e : Int
 l : Int
 v : Int
 s : Int
 q : Bool
 rs : List Rq
 vt : Vt
 ce : Int
 cl : Int
 cv : Int
 he : List Hp
 ne : List Ev
 d : List Int
 ct : Vt
 cs : List Sg
 st : ByteArray
 sg : List Sg
def Mg.pure (m : Mg) : Mp := ⟨m.k, m.e, m.l, m.v, m.s, m.q, m.rs.xs, m.vt, m.ce, m.cl, m.cv, m.he.xs.map Hd.pure, m.ne.xs, m.d, m.ct, m.cs.xs, m.st, m.sg.xs⟩
def mg1 (s : Rst) : Mp × Rst := (⟨1, (nuS 1048576 s).1, 0, 0, (nuS 1099511627776 (nuS 1048576 s).2).1, (baS (nuS 1099511627776 (nuS 1048576 s).2).2).1.1, (baS (nuS 1099511627776 (nuS 1048576 s).2).2).1.2, Vt.zero, 0, 0, 0, [], [], zeros32, Vt.zero, [], ⟨#[]⟩, []⟩, (baS (nuS 1099511627776 (nuS 1048576 s).2).2).2)
def mg2 (s : Rst) : Mp × Rst := (⟨2, 0, 0, 0, 0, false, [], (voS s).1, 0, 0, 0, [], [], zeros32, Vt.zero, [], ⟨#[]⟩, []⟩, (voS s).2)
def mg3 (s : Rst) : Mp × Rst := (⟨3, 0, 0, 0, 0, false, [], Vt.zero, (chS s).1.e, (chS s).1.l, (chS s).1.v, (chS s).1.he, [], zeros32, Vt.zero, [], ⟨#[]⟩, []⟩, (chS s).2)
def mg4 (s : Rst) : Mp × Rst := (⟨4, (nuS 1048576 s).1, (nuS 64 (nuS 1048576 s).2).1, (nuS 1099511627776 (nuS 64 (nuS 1048576 s).2).2).1, 0, false, [], Vt.zero, 0, 0, 0, [], (lsS 64 enS (nuS 1099511627776 (nuS 64 (nuS 1048576 s).2).2).2).1, zeros32, Vt.zero, [], ⟨#[]⟩, []⟩, (lsS 64 enS (nuS 1099511627776 (nuS 64 (nuS 1048576 s).2).2).2).2)
def mg5 (s : Rst) : Mp × Rst := (⟨5, (nuS 1048576 s).1, 0, 0, 0, false, [], Vt.zero, 0, 0, 0, [], [], (dgS (nuS 1048576 s).2).1, Vt.zero, [], ⟨#[]⟩, []⟩, (dgS (nuS 1048576 s).2).2)
def mg6 (s : Rst) : Mp × Rst := (⟨6, (nuS 1048576 s).1, 0, 0, (nuS 1099511627776 (nuS 1048576 s).2).1, false, [], Vt.zero, 0, 0, 0, [], [], zeros32, Vt.zero, [], ⟨#[]⟩, []⟩, (nuS 1099511627776 (nuS 1048576 s).2).2)
def mg7 (s : Rst) : Mp × Rst := (⟨7, 0, 0, 0, 0, (baS s).1.1, (baS s).1.2, Vt.zero, 0, 0, 0, [], [], zeros32, (ceS (baS s).2).1.1, (ceS (baS s).2).1.2, ⟨#[]⟩, []⟩, (ceS (baS s).2).2)
def mg8 (s : Rst) : Mp × Rst := (⟨8, 0, 0, 0, 0, false, [], Vt.zero, 0, 0, 0, [], [], zeros32, Vt.zero, [], (txS 4194304 s).1, (lsS 64 siS (txS 4194304 s).2).1⟩, (lsS 64 siS (txS 4194304 s).2).2)
def mgF (k : Int) (s : Rst) : Mp × Rst := if k = 1 then mg1 s else if k = 2 then mg2 s else if k = 3 then mg3 s else if k = 4 then mg4 s else if k = 5 then mg5 s else if k = 6 then mg6 s else if k = 7 then mg7 s else if k = 8 then mg8 s else (⟨k, 0, 0, 0, 0, false, [], Vt.zero, 0, 0, 0, [], [], zeros32, Vt.zero, [], ⟨#[]⟩, []⟩, s)
def mgS (s : Rst) : Mp × Rst := mgF (kiS 8 s).1 (kiS 8 s).2
theorem iszEvs : (Tryz.prog.info? 51).map (·.size) = some 1 := by kernel_rfl
theorem iszSgs : (Tryz.prog.info? 105).map (·.size) = some 1 := by kernel_rfl
theorem iszStr : (Tryz.prog.info? 9).map (·.size) = some 1 := by kernel_rfl
theorem ms0_ok (k : Int) : (Ms.plain k 0 0 Vt.zero zeros32).ok := Ms.plain_ok k 0 0 Vt.zero_ok zeros32_len zeros32_byte
def Mg.Bk (m : Mg) (P : Nat → Prop) : Prop := m.rs.Bk P ∧ m.he.Bk P ∧ (∀ y ∈ m.he.xs, y.Bk P) ∧ m.ne.Bk P ∧ m.cs.Bk P ∧ m.sg.Bk P
theorem no_bk {α : Type} {P : Nat → Prop} : (⟨none, 0, []⟩ : Sl α).Bk P := fun b h => absurd rfl h
theorem no_bk2 {P : Nat → Prop} : ∀ y ∈ (⟨none, 0, []⟩ : Sl Hd).xs, y.Bk P := fun y h => by cases h
theorem mg0_at {W : World} {m : Mg} (h1 : m.rs.At RqE W) (h2 : HdsAt W m.he) (h3 : m.ne.At EvE W) (h4 : m.cs.At SgE W) (h5 : m.sg.At SgE W) : m.At W := ⟨h1, h2, h3, h4, h5⟩
set_option maxRecDepth 100000 in
set_option maxHeartbeats 1000000 in
theorem rmsgK0 (Q R : Nat) (s : Rst) (w : World) (h : RS w Q R s) (hl : s.1.length ≤ 40000) (n1 : (kiS 8 s).1 ≠ 1) (n2 : (kiS 8 s).1 ≠ 2) (n3 : (kiS 8 s).1 ≠ 3) (n4 : (kiS 8 s).1 ≠ 4) (n5 : (kiS 8 s).1 ≠ 5) (n6 : (kiS 8 s).1 ≠ 6) (n7 : (kiS 8 s).1 ≠ 7) (n8 : (kiS 8 s).1 ≠ 8) : Calls Tryz.prog 46 #[.pointer (some ⟨Q, 0, none⟩)] w fun en w' => ∃ m : Mg, en = .returned (.agg m.ms.cells.toArray) ∧ m.pure = ((⟨(kiS 8 s).1, 0, 0, 0, 0, false, [], Vt.zero, 0, 0, 0, [], [], zeros32, Vt.zero, [], ⟨#[]⟩, []⟩, (kiS 8 s).2) : Mp × Rst).1 ∧ m.ok ∧ m.At w' ∧ m.Bk (fun b => w.heap.size ≤ b) ∧ RS w' Q R ((⟨(kiS 8 s).1, 0, 0, 0, 0, false, [], Vt.zero, 0, 0, 0, [], [], zeros32, Vt.zero, [], ⟨#[]⟩, []⟩, (kiS 8 s).2) : Mp × Rst).2 ∧ Kept w R Q w' := by
 have hRw := h.st.1.1
 have hQw := h.mr.lt
 have ck := fun w0 h0 => kindRS Q R 8 s w0 h0
 have l0 := kiS_len 8 s
 generalize kiS 8 s = p_ at ck l0 n1 n2 n3 n4 n5 n6 n7 n8 ⊢
 obtain ⟨k, s0⟩ := p_
 simp only at ck l0 n1 n2 n3 n4 n5 n6 n7 n8 ⊢
 have b1 : (k == 1) = false := by simpa using n1
 have b2 : (k == 2) = false := by simpa using n2
 have b3 : (k == 3) = false := by simpa using n3
 have b4 : (k == 4) = false := by simpa using n4
 have b5 : (k == 5) = false := by simpa using n5
 have b6 : (k == 6) = false := by simpa using n6
 have b7 : (k == 7) = false := by simpa using n7
 have b8 : (k == 8) = false := by simpa using n8
 clear n1 n2 n3 n4 n5 n6 n7 n8
 obtain ⟨zc, hzl, hzr⟩ : ∃ z : List Value, z.length = 119 ∧ ∀ w : World, (zeroValue 109).run Tryz.prog w = .ok (.agg z.toArray) w := ⟨_, (Ms.plain_ok 0 0 0 Vt.zero_ok zeros32_len zeros32_byte).len, zeroM⟩
 have hbk := build_kind k
 have hql := (ms0_ok k).len
 have hq1 := (ms0_ok k).one
 have hiq : (Tryz.prog.info? 109).map (·.size) = some (Ms.plain k 0 0 Vt.zero zeros32).cells.length := by rw [hql]; exact iszM
 have hk0 : ∀ (w' : World) b, w'.rangeAt b 0 (Ms.plain k 0 0 Vt.zero zeros32).cells → w'.cell? ⟨b, 0, none⟩ = some (.int .i64 k) := fun w' b h => ((ms0_ok k).at h).k
 obtain ⟨qk, hqk⟩ : ∃ q, Hid ((Ms.plain k 0 0 Vt.zero zeros32).cells = q) := ⟨_, hide rfl⟩
 simp only [hqk.out] at hbk hql hq1 hiq hk0
 obtain ⟨hB1, hr1, hs1⟩ := boxed_new w zc 109
 have ht1 := there_newN w zc.toArray 109 (n := 119) (by simp [hzl])
 go_enter Tryz.func46, Tryz.ntmps46
 go_upto_region 0 with fail
 try simp only [Act.put]
 refine pl_begin ?_
 refine pl_run (d := some 2) (v := .pointer (some ⟨w.heap.size, 0, none⟩)) (w' := w.alloc (.cells zc.toArray 109)) (by rfl) (ex_alloc rfl (hzr _)) rfl ?_
 simp only [nz]
 refine pl_nil ?_
 obtain ⟨W1, hW1⟩ : ∃ W, w.alloc (.cells zc.toArray 109) = W := ⟨_, rfl⟩
 rw [hW1] at hB1 hr1 hs1 ht1 ⊢
 clear hW1 hr1
 have S1 := h.below hB1
 go_upto_region 1 with fail
 try simp only [Act.put]
 refine pl_begin ?_
 refine pl_t 4 (?_) (by rfl) ?_ rfl ?_
 rotate_left
 ·go_simp
  try with_reducible rfl
 simp only [nz]
 refine pl_call (d := some 5) (by rfl) (by go_simp; first | done | exact ⟨rfl, rfl⟩ | with_reducible rfl) rfl ?_
 refine (ck W1 S1).mono ?_
 rintro _ w2 ⟨rfl, S2, k2⟩
 refine ⟨_, rfl, ?_⟩
 simp only [nz]
 refine pl_t 6 (.agg qk.toArray) (by rfl) (ex_build (parts := [(0, .tmp 5)]) rfl rfl (hbk _)) rfl ?_
 simp only [nz]
 refine pl_run (d := some 3) (v := .pointer (some ⟨w2.heap.size, 0, none⟩)) (w' := w2.alloc (.cells zc.toArray 109)) (by rfl) (ex_alloc rfl (hzr _)) rfl ?_
 simp only [nz]
 refine pl_store (w' := (w2.alloc (.cells zc.toArray 109)).setCells w2.heap.size 0 qk) (by rfl) (ex_put (cs := qk.toArray) rfl rfl rfl (there_newN _ _ _ (by simp [hzl, hql])) (by simpa using hiq) (all_one hq1)) rfl ?_
 refine pl_nil ?_
 obtain ⟨hF1, hF2, hF3, -⟩ := fresh_store w2 zc.toArray 109 qk (by simp [hzl, hql])
 have hF4 := World.there_setCells (there_newN w2 zc.toArray 109 (n := 119) (by simp [hzl])) w2.heap.size 0 qk
 obtain ⟨w3, hw3⟩ : ∃ W, (w2.alloc (.cells zc.toArray 109)).setCells w2.heap.size 0 qk = W := ⟨_, rfl⟩
 rw [hw3] at hF1 hF2 hF3 hF4 ⊢
 clear hw3
 have hc0 := hk0 _ _ hF1
 have k3 : Kept w R Q w3 := (((Kept.refl w R Q).below hB1).trans k2).below hF2
 have z2 := k2.size
 rw [← hqk.out] at hF1
 have V3 : MV w Q R w.heap.size w2.heap.size 119 (Ms.plain k 0 0 Vt.zero zeros32).cells s0 w3 := ⟨hF1, hF4, there_below (there_blk ht1 (k2.block _ hs1 (by omega) (by omega))) hF2 (by omega), k3, S2.below hF2, by have := hF2.size; omega, by omega, Nat.le_refl _, by have := hB1.size; omega, by omega, hRw, hQw⟩
 have hww : w.heap.size < w2.heap.size := by omega
 clear hF1 hF2 hF4 ht1 hB1 S1 S2 k2 k3 hk0 hbk hql hq1 hiq hqk h ck hzr hzl
 go_upto_region 2 with fail
 try simp only [Act.put]
 refine pl_begin ?_
 refine pl_t 7 (?_) (by rfl) ?_ rfl ?_
 rotate_left
 ·go_simp
  try with_reducible rfl
 simp only [nz]
 refine pl_t 8 (.int .i64 k) (by rfl) (pl_one rfl rfl hc0 Tryz.underlying3 rfl) rfl ?_
 simp only [nz]
 refine pl_nil ?_
 clear hc0
 have Ve := V3
 have rpc := Ve.row
 have hmo : Mg.ok ⟨k, 0, 0, 0, 0, false, ⟨none, 0, []⟩, Vt.zero, 0, 0, 0, ⟨none, 0, []⟩, ⟨none, 0, []⟩, zeros32, Vt.zero, ⟨none, 0, []⟩, ⟨#[]⟩, ⟨none, 0, []⟩⟩ := ⟨Vt.zero_ok, Vt.zero_ok, zeros32_len, zeros32_byte⟩
 have hpl : (Mg.ms ⟨k, 0, 0, 0, 0, false, ⟨none, 0, []⟩, Vt.zero, 0, 0, 0, ⟨none, 0, []⟩, ⟨none, 0, []⟩, zeros32, Vt.zero, ⟨none, 0, []⟩, ⟨#[]⟩, ⟨none, 0, []⟩⟩).cells.length = 119 := hmo.ms.len
 have hp1 := hmo.ms.one
 have hip : (Tryz.prog.info? 109).map (·.size) = some (Mg.ms ⟨k, 0, 0, 0, 0, false, ⟨none, 0, []⟩, Vt.zero, 0, 0, 0, ⟨none, 0, []⟩, ⟨none, 0, []⟩, zeros32, Vt.zero, ⟨none, 0, []⟩, ⟨#[]⟩, ⟨none, 0, []⟩⟩).cells.length := by rw [hpl]; exact iszM
 have rpc : w3.rangeAt w2.heap.size 0 (Mg.ms ⟨k, 0, 0, 0, 0, false, ⟨none, 0, []⟩, Vt.zero, 0, 0, 0, ⟨none, 0, []⟩, ⟨none, 0, []⟩, zeros32, Vt.zero, ⟨none, 0, []⟩, ⟨#[]⟩, ⟨none, 0, []⟩⟩).cells := rpc
 obtain ⟨pc, hpc⟩ : ∃ p, Hid ((Mg.ms ⟨k, 0, 0, 0, 0, false, ⟨none, 0, []⟩, Vt.zero, 0, 0, 0, ⟨none, 0, []⟩, ⟨none, 0, []⟩, zeros32, Vt.zero, ⟨none, 0, []⟩, ⟨#[]⟩, ⟨none, 0, []⟩⟩).cells = p) := ⟨_, hide rfl⟩
 simp only [hpc.out] at hpl hip hp1 rpc
 go_upto_region 22 with fail
 try simp only [Act.put]
 refine pl_begin ?_
 refine pl_t 121 (.agg pc.toArray) (by rfl) (ex_mid rfl rfl rpc Tryz.underlying109 rfl hip) rfl ?_
 simp only [nz]
 refine pl_store (w' := w3.setCells w.heap.size 0 pc) (by rfl) (ex_put (cs := pc.toArray) rfl rfl rfl (by simpa [hpl] using Ve.ans) (by simpa using hip) (all_one hp1)) rfl ?_
 refine pl_nil ?_
 have hlow : Below w.heap.size w3 (w3.setCells w.heap.size 0 pc) := below_sets (Nat.le_refl _) pc 0 _ (Below.refl _ w3)
 have hrs := run_loadVar_mid (P := Tryz.prog) (w3.setCells w.heap.size 0 pc) w.heap.size 0 109 pc _ (World.rangeAt_setCells_same w3 w.heap.size 0 pc (by rw [hpl]; exact Ve.ans)) Tryz.underlying109 rfl hip
 have HF : Hid (∃ m : Mg, Ending.returned (.agg pc.toArray) = .returned (.agg m.ms.cells.toArray) ∧ m.pure = (⟨k, 0, 0, 0, 0, false, [], Vt.zero, 0, 0, 0, [], [], zeros32, Vt.zero, [], ⟨#[]⟩, []⟩ : Mp) ∧ m.ok ∧ m.At (w3.setCells w.heap.size 0 pc) ∧ m.Bk (fun b => w.heap.size ≤ b) ∧ RS (w3.setCells w.heap.size 0 pc) Q R s0 ∧ Kept w R Q (w3.setCells w.heap.size 0 pc)) := hide ⟨⟨k, 0, 0, 0, 0, false, ⟨none, 0, []⟩, Vt.zero, 0, 0, 0, ⟨none, 0, []⟩, ⟨none, 0, []⟩, zeros32, Vt.zero, ⟨none, 0, []⟩, ⟨#[]⟩, ⟨none, 0, []⟩⟩, by rw [hpc.out], rfl, hmo, mg0_at RowsAt.none hds_none RowsAt.none RowsAt.none RowsAt.none, ⟨no_bk, no_bk, no_bk2, no_bk, no_bk, no_bk⟩, Ve.rs.low hlow hQw, Ve.kept.low hlow (Nat.le_refl _)⟩
 clear Ve hlow rpc hpc hmo V3
 go_wp2_with fail
 refine bodyPost_ret (v := .agg pc.toArray) ?_ rfl ?_
 ·simp [results, Tryz.results46, Act.put, asAddr, hrs]
 ·exact HF.out
set_option maxRecDepth 100000 in
set_option maxHeartbeats 1000000 in
theorem rmsgK1 (Q R : Nat) (s : Rst) (w : World) (h : RS w Q R s) (hl : s.1.length ≤ 40000) (hk : (kiS 8 s).1 = 1) : Calls Tryz.prog 46 #[.pointer (some ⟨Q, 0, none⟩)] w fun en w' => ∃ m : Mg, en = .returned (.agg m.ms.cells.toArray) ∧ m.pure = (mg1 (kiS 8 s).2).1 ∧ m.ok ∧ m.At w' ∧ m.Bk (fun b => w.heap.size ≤ b) ∧ RS w' Q R (mg1 (kiS 8 s).2).2 ∧ Kept w R Q w' := by
 have hRw := h.st.1.1
 have hQw := h.mr.lt
 have ck := fun w0 h0 => kindRS Q R 8 s w0 h0
 have l0 := kiS_len 8 s
 unfold mg1
 generalize kiS 8 s = p_ at ck l0 hk ⊢
 obtain ⟨k, s0⟩ := p_
 simp only at ck l0 hk ⊢
 subst hk
 have c_a := fun w0 h0 => numRS Q R 1048576 s0 w0 h0
 have l_a : (nuS 1048576 s0).2.1.length ≤ s0.1.length := nuS_len _ _
 generalize nuS 1048576 s0 = p_ at c_a l_a ⊢
 obtain ⟨v_a, s_a⟩ := p_
 simp only at c_a l_a ⊢
 have c_b := fun w0 h0 => numRS Q R 1099511627776 s_a w0 h0
 have l_b : (nuS 1099511627776 s_a).2.1.length ≤ s_a.1.length := nuS_len _ _
 generalize nuS 1099511627776 s_a = p_ at c_b l_b ⊢
 obtain ⟨v_b, s_b⟩ := p_
 simp only at c_b l_b ⊢
 have c_c := fun w0 h0 => bgetS Q R s_b w0 h0 (by omega)
 have l_c : (baS s_b).2.1.length ≤ s_b.1.length := baS_len _
 generalize baS s_b = p_ at c_c l_c ⊢
 obtain ⟨⟨q_c, rs_c⟩, s_c⟩ := p_
 simp only at c_c l_c ⊢
 obtain ⟨zc, hzl, hzr⟩ : ∃ z : List Value, z.length = 119 ∧ ∀ w : World, (zeroValue 109).run Tryz.prog w = .ok (.agg z.toArray) w := ⟨_, (Ms.plain_ok 0 0 0 Vt.zero_ok zeros32_len zeros32_byte).len, zeroM⟩
 have hbk := build_kind 1
 have hql := (ms0_ok 1).len
 have hq1 := (ms0_ok 1).one
 have hiq : (Tryz.prog.info? 109).map (·.size) = some (Ms.plain 1 0 0 Vt.zero zeros32).cells.length := by rw [hql]; exact iszM
 have hk0 : ∀ (w' : World) b, w'.rangeAt b 0 (Ms.plain 1 0 0 Vt.zero zeros32).cells → w'.cell? ⟨b, 0, none⟩ = some (.int .i64 1) := fun w' b h => ((ms0_ok 1).at h).k
 obtain ⟨qk, hqk⟩ : ∃ q, Hid ((Ms.plain 1 0 0 Vt.zero zeros32).cells = q) := ⟨_, hide rfl⟩
 simp only [hqk.out] at hbk hql hq1 hiq hk0
 obtain ⟨hB1, hr1, hs1⟩ := boxed_new w zc 109
 have ht1 := there_newN w zc.toArray 109 (n := 119) (by simp [hzl])
 go_enter Tryz.func46, Tryz.ntmps46
 go_upto_region 0 with fail
 try simp only [Act.put]
 refine pl_begin ?_
 refine pl_run (d := some 2) (v := .pointer (some ⟨w.heap.size, 0, none⟩)) (w' := w.alloc (.cells zc.toArray 109)) (by rfl) (ex_alloc rfl (hzr _)) rfl ?_
 simp only [nz]
 refine pl_nil ?_
 obtain ⟨W1, hW1⟩ : ∃ W, w.alloc (.cells zc.toArray 109) = W := ⟨_, rfl⟩
 rw [hW1] at hB1 hr1 hs1 ht1 ⊢
 clear hW1 hr1
 have S1 := h.below hB1
 go_upto_region 1 with fail
 try simp only [Act.put]
 refine pl_begin ?_
 refine pl_t 4 (?_) (by rfl) ?_ rfl ?_
 rotate_left
 ·go_simp
  try with_reducible rfl
 simp only [nz]
 refine pl_call (d := some 5) (by rfl) (by go_simp; first | done | exact ⟨rfl, rfl⟩ | with_reducible rfl) rfl ?_
 refine (ck W1 S1).mono ?_
 rintro _ w2 ⟨rfl, S2, k2⟩
 refine ⟨_, rfl, ?_⟩
 simp only [nz]
 refine pl_t 6 (.agg qk.toArray) (by rfl) (ex_build (parts := [(0, .tmp 5)]) rfl rfl (hbk _)) rfl ?_
 simp only [nz]
 refine pl_run (d := some 3) (v := .pointer (some ⟨w2.heap.size, 0, none⟩)) (w' := w2.alloc (.cells zc.toArray 109)) (by rfl) (ex_alloc rfl (hzr _)) rfl ?_
 simp only [nz]
 refine pl_store (w' := (w2.alloc (.cells zc.toArray 109)).setCells w2.heap.size 0 qk) (by rfl) (ex_put (cs := qk.toArray) rfl rfl rfl (there_newN _ _ _ (by simp [hzl, hql])) (by simpa using hiq) (all_one hq1)) rfl ?_
 refine pl_nil ?_
 obtain ⟨hF1, hF2, hF3, -⟩ := fresh_store w2 zc.toArray 109 qk (by simp [hzl, hql])
 have hF4 := World.there_setCells (there_newN w2 zc.toArray 109 (n := 119) (by simp [hzl])) w2.heap.size 0 qk
 obtain ⟨w3, hw3⟩ : ∃ W, (w2.alloc (.cells zc.toArray 109)).setCells w2.heap.size 0 qk = W := ⟨_, rfl⟩
 rw [hw3] at hF1 hF2 hF3 hF4 ⊢
 clear hw3
 have hc0 := hk0 _ _ hF1
 have k3 : Kept w R Q w3 := (((Kept.refl w R Q).below hB1).trans k2).below hF2
 have z2 := k2.size
 rw [← hqk.out] at hF1
 have V3 : MV w Q R w.heap.size w2.heap.size 119 (Ms.plain 1 0 0 Vt.zero zeros32).cells s0 w3 := ⟨hF1, hF4, there_below (there_blk ht1 (k2.block _ hs1 (by omega) (by omega))) hF2 (by omega), k3, S2.below hF2, by have := hF2.size; omega, by omega, Nat.le_refl _, by have := hB1.size; omega, by omega, hRw, hQw⟩
 have hww : w.heap.size < w2.heap.size := by omega
 clear hF1 hF2 hF4 ht1 hB1 S1 S2 k2 k3 hk0 hbk hql hq1 hiq hqk h ck hzr hzl
 go_upto_region 2 with fail
 try simp only [Act.put]
 refine pl_begin ?_
 refine pl_t 7 (?_) (by rfl) ?_ rfl ?_
 rotate_left
 ·go_simp
  try with_reducible rfl
 simp only [nz]
 refine pl_t 8 (.int .i64 1) (by rfl) (pl_one rfl rfl hc0 Tryz.underlying3 rfl) rfl ?_
 simp only [nz]
 refine pl_nil ?_
 clear hc0
 go_upto_region 4 with fail
 have V8 := V3.drew
 refine hs_begin (S := (fun W' => W'.cell? ⟨Q, 0, none⟩ = some (.pointer (some ⟨R, 0, none⟩)))) 14 rfl (by kernel_rfl) ?_
 obtain ⟨w8, hw8⟩ : ∃ W, w3.drew = W := ⟨_, rfl⟩
 rw [hw8] at V8 ⊢
 clear hw8 V3
 have hS : (fun W' => W'.cell? ⟨Q, 0, none⟩ = some (.pointer (some ⟨R, 0, none⟩))) w8 := V8.rs.mr.c0
 refine hs_t 0 11 (?_) rfl (by kernel_rfl) (by kernel_rfl) (by kernel_rfl) (by rfl) ?_ hS rfl ?_
 rotate_left
 ·intro w' hw
  go_simp
  try with_reducible rfl
 simp only [nz]
 refine hs_t 1 12 (?_) rfl (by kernel_rfl) (by kernel_rfl) (by kernel_rfl) (by rfl) ?_ hS rfl ?_
 rotate_left
 ·intro w' hw
  go_simp
  try with_reducible rfl
 simp only [nz]
 refine hs_t 2 13 (?_) rfl (by kernel_rfl) (by kernel_rfl) (by kernel_rfl) (by rfl) ?_ hS rfl ?_
 rotate_left
 ·intro w' hw
  go_simp
  try with_reducible rfl
 simp only [nz]
 refine hs_t 3 14 (.pointer (some ⟨R, 0, none⟩)) rfl (by kernel_rfl) (by kernel_rfl) (by kernel_rfl) (by rfl) (fun w' hw => pl_one rfl rfl hw Tryz.underlying142 rfl) hS rfl ?_
 simp only [nz]
 refine hs_t 5 16 (?_) rfl (by kernel_rfl) (by kernel_rfl) (by kernel_rfl) (by rfl) ?_ hS rfl ?_
 rotate_left
 ·intro w' hw
  go_simp
  try with_reducible rfl
 simp only [nz]
 refine hs_t 6 17 (?_) rfl (by kernel_rfl) (by kernel_rfl) (by kernel_rfl) (by rfl) ?_ hS rfl ?_
 rotate_left
 ·intro w' hw
  go_simp
  try with_reducible rfl
 simp only [nz]
 refine hs_t 7 18 (?_) rfl (by kernel_rfl) (by kernel_rfl) (by kernel_rfl) (by rfl) ?_ hS rfl ?_
 rotate_left
 ·intro w' hw
  go_simp
  try with_reducible rfl
 simp only [nz]
 refine hs_t 8 19 (.pointer (some ⟨R, 0, none⟩)) rfl (by kernel_rfl) (by kernel_rfl) (by kernel_rfl) (by rfl) (fun w' hw => pl_one rfl rfl hw Tryz.underlying142 rfl) hS rfl ?_
 simp only [nz]
 refine hs_call (i := 4) (d := some 15) rfl (by kernel_rfl) (by rfl) (by go_simp; first | done | exact ⟨rfl, rfl⟩ | with_reducible rfl) rfl ?_
 refine (c_a w8 V8.rs).mono ?_
 rintro _ w5 ⟨rfl, S5, k5⟩
 have hS : (fun W' => W'.cell? ⟨Q, 0, none⟩ = some (.pointer (some ⟨R, 0, none⟩))) w5 := S5.mr.c0
 refine ⟨_, rfl, hS, ?_⟩
 simp only [nz]
 refine hs_t 10 21 (?_) rfl (by kernel_rfl) (by kernel_rfl) (by kernel_rfl) (by rfl) ?_ hS rfl ?_
 rotate_left
 ·intro w' hw
  go_simp
  try with_reducible rfl
 simp only [nz]
 refine hs_call (i := 9) (d := some 20) rfl (by kernel_rfl) (by rfl) (by go_simp; first | done | exact ⟨rfl, rfl⟩ | with_reducible rfl) rfl ?_
 refine (c_b w5 S5).mono ?_
 rintro _ w6 ⟨rfl, S6, k6⟩
 have hS : (fun W' => W'.cell? ⟨Q, 0, none⟩ = some (.pointer (some ⟨R, 0, none⟩))) w6 := S6.mr.c0
 refine ⟨_, rfl, hS, ?_⟩
 simp only [nz]
 have V_0 := ((V8.on k5 S5).on k6 S6)
 have V_1 := V_0.set 1 [.int .i64 v_a] (put_e v_a V_0.row (V_0.part 1 1 (by decide)))
 refine hs_store (i := 11) (w' := w6.setCells w2.heap.size 1 [.int .i64 v_a]) rfl (by kernel_rfl) (by rfl) (ex_put1 (n := 119) rfl rfl rfl V_0.box (by decide) iszI rfl rfl) rfl V_1.rs.mr.c0 ?_
 obtain ⟨w_11, hw_11⟩ : ∃ W, w6.setCells w2.heap.size 1 [.int .i64 v_a] = W := ⟨_, rfl⟩
 rw [hw_11] at V_1 ⊢
 clear hw_11
 have hS : (fun W' => W'.cell? ⟨Q, 0, none⟩ = some (.pointer (some ⟨R, 0, none⟩))) w_11 := V_1.rs.mr.c0
 refine hs_t 12 22 (?_) rfl (by kernel_rfl) (by kernel_rfl) (by kernel_rfl) (by rfl) ?_ hS rfl ?_
 rotate_left
 ·intro w' hw
  go_simp
  try with_reducible rfl
 simp only [nz]
 have V_2 := V_1.set 4 [.int .i64 v_b] (put_s v_b V_1.row (V_1.part 4 1 (by decide)))
 refine hs_store (i := 13) (w' := w_11.setCells w2.heap.size 4 [.int .i64 v_b]) rfl (by kernel_rfl) (by rfl) (ex_put1 (n := 119) rfl rfl rfl V_1.box (by decide) iszI rfl rfl) rfl V_2.rs.mr.c0 ?_
 obtain ⟨w_13, hw_13⟩ : ∃ W, w_11.setCells w2.heap.size 4 [.int .i64 v_b] = W := ⟨_, rfl⟩
 rw [hw_13] at V_2 ⊢
 clear hw_13
 have hS : (fun W' => W'.cell? ⟨Q, 0, none⟩ = some (.pointer (some ⟨R, 0, none⟩))) w_13 := V_2.rs.mr.c0
 refine hs_done (by kernel_rfl) ?_
 clear hS V8 S5 k5 S6 k6 V_0 V_1 c_a c_b
 go_upto_region 5 with fail
 try simp only [Act.put]
 refine pl_begin ?_
 refine pl_t 23 (?_) (by rfl) ?_ rfl ?_
 rotate_left
 ·go_simp
  try with_reducible rfl
 simp only [nz]
 refine pl_t 24 (?_) (by rfl) ?_ rfl ?_
 rotate_left
 ·go_simp
  try with_reducible rfl
 simp only [nz]
 refine pl_t 25 (?_) (by rfl) ?_ rfl ?_
 rotate_left
 ·go_simp
  try with_reducible rfl
 simp only [nz]
 refine pl_t 26 (.pointer (some ⟨R, 0, none⟩)) (by rfl) (pl_one rfl rfl V_2.rs.mr.c0 Tryz.underlying142 rfl) rfl ?_
 simp only [nz]
 refine pl_call (d := some 27) (by rfl) (by go_simp; first | done | exact ⟨rfl, rfl⟩ | with_reducible rfl) rfl ?_
 refine (c_c w_13 V_2.rs).mono ?_
 rintro _ wd ⟨x, rfl, hx, hA, hB, Sd, kd⟩
 refine ⟨_, rfl, ?_⟩
 simp only [nz]
 refine pl_t 28 (?_) (by rfl) ?_ rfl ?_
 rotate_left
 ·go_simp
  try with_reducible rfl
 simp only [nz]
 have Vd := V_2.on kd Sd
 have Ve := Vd.set 5 [.bool q_c, x.val] (put_b q_c x.val Vd.row (Vd.part 5 2 (by decide)))
 have lb := V_2.lb
 have la := V_2.la
 have na := V_2.kept.size
 refine pl_store (w' := wd.setCells w2.heap.size 5 [.bool q_c, x.val]) (by rfl) (ex_put (cs := #[.bool q_c, x.val]) rfl rfl rfl (Vd.part 5 2 (by decide)) iszBa (by simp [Value.oneCell', Sl.val])) rfl ?_
 refine pl_nil ?_
 have hA1 := hA.put (B := w2.heap.size) (o := 5) (vs := [.bool q_c, x.val]) hB (fun b hb => by omega)
 obtain ⟨we, hwe⟩ : ∃ W, wd.setCells w2.heap.size 5 [.bool q_c, x.val] = W := ⟨_, rfl⟩
 rw [hwe] at Ve hA1 ⊢
 clear hwe
 clear Vd Sd kd V_2 hA
 have rpc := Ve.row
 have hmo : Mg.ok ⟨1, v_a, 0, 0, v_b, q_c, x, Vt.zero, 0, 0, 0, ⟨none, 0, []⟩, ⟨none, 0, []⟩, zeros32, Vt.zero, ⟨none, 0, []⟩, ⟨#[]⟩, ⟨none, 0, []⟩⟩ := ⟨Vt.zero_ok, Vt.zero_ok, zeros32_len, zeros32_byte⟩
 have hpl : (Mg.ms ⟨1, v_a, 0, 0, v_b, q_c, x, Vt.zero, 0, 0, 0, ⟨none, 0, []⟩, ⟨none, 0, []⟩, zeros32, Vt.zero, ⟨none, 0, []⟩, ⟨#[]⟩, ⟨none, 0, []⟩⟩).cells.length = 119 := hmo.ms.len
 have hp1 := hmo.ms.one
 have hip : (Tryz.prog.info? 109).map (·.size) = some (Mg.ms ⟨1, v_a, 0, 0, v_b, q_c, x, Vt.zero, 0, 0, 0, ⟨none, 0, []⟩, ⟨none, 0, []⟩, zeros32, Vt.zero, ⟨none, 0, []⟩, ⟨#[]⟩, ⟨none, 0, []⟩⟩).cells.length := by rw [hpl]; exact iszM
 have rpc : we.rangeAt w2.heap.size 0 (Mg.ms ⟨1, v_a, 0, 0, v_b, q_c, x, Vt.zero, 0, 0, 0, ⟨none, 0, []⟩, ⟨none, 0, []⟩, zeros32, Vt.zero, ⟨none, 0, []⟩, ⟨#[]⟩, ⟨none, 0, []⟩⟩).cells := rpc
 obtain ⟨pc, hpc⟩ : ∃ p, Hid ((Mg.ms ⟨1, v_a, 0, 0, v_b, q_c, x, Vt.zero, 0, 0, 0, ⟨none, 0, []⟩, ⟨none, 0, []⟩, zeros32, Vt.zero, ⟨none, 0, []⟩, ⟨#[]⟩, ⟨none, 0, []⟩⟩).cells = p) := ⟨_, hide rfl⟩
 simp only [hpc.out] at hpl hip hp1 rpc
 go_upto_region 22 with fail
 try simp only [Act.put]
 refine pl_begin ?_
 refine pl_t 121 (.agg pc.toArray) (by rfl) (ex_mid rfl rfl rpc Tryz.underlying109 rfl hip) rfl ?_
 simp only [nz]
 refine pl_store (w' := we.setCells w.heap.size 0 pc) (by rfl) (ex_put (cs := pc.toArray) rfl rfl rfl (by simpa [hpl] using Ve.ans) (by simpa using hip) (all_one hp1)) rfl ?_
 refine pl_nil ?_
 have hlow : Below w.heap.size we (we.setCells w.heap.size 0 pc) := below_sets (Nat.le_refl _) pc 0 _ (Below.refl _ we)
 have hrs := run_loadVar_mid (P := Tryz.prog) (we.setCells w.heap.size 0 pc) w.heap.size 0 109 pc _ (World.rangeAt_setCells_same we w.heap.size 0 pc (by rw [hpl]; exact Ve.ans)) Tryz.underlying109 rfl hip
 have HF : Hid (∃ m : Mg, Ending.returned (.agg pc.toArray) = .returned (.agg m.ms.cells.toArray) ∧ m.pure = (⟨1, v_a, 0, 0, v_b, q_c, rs_c, Vt.zero, 0, 0, 0, [], [], zeros32, Vt.zero, [], ⟨#[]⟩, []⟩ : Mp) ∧ m.ok ∧ m.At (we.setCells w.heap.size 0 pc) ∧ m.Bk (fun b => w.heap.size ≤ b) ∧ RS (we.setCells w.heap.size 0 pc) Q R s_c ∧ Kept w R Q (we.setCells w.heap.size 0 pc)) := hide ⟨⟨1, v_a, 0, 0, v_b, q_c, x, Vt.zero, 0, 0, 0, ⟨none, 0, []⟩, ⟨none, 0, []⟩, zeros32, Vt.zero, ⟨none, 0, []⟩, ⟨#[]⟩, ⟨none, 0, []⟩⟩, by rw [hpc.out], by rw [← hx]; rfl, hmo, mg0_at (hA1.put hB (fun b hb => by omega)) hds_none RowsAt.none RowsAt.none RowsAt.none, ⟨hB.mono (fun b hb => by omega), no_bk, no_bk2, no_bk, no_bk, no_bk⟩, Ve.rs.low hlow hQw, Ve.kept.low hlow (Nat.le_refl _)⟩
 clear Ve hlow rpc hpc hmo hA1 hB hx
 go_wp2_with fail
 refine bodyPost_ret (v := .agg pc.toArray) ?_ rfl ?_
 ·simp [results, Tryz.results46, Act.put, asAddr, hrs]
 ·exact HF.out
set_option maxRecDepth 100000 in
set_option maxHeartbeats 1000000 in
theorem rmsgK2 (Q R : Nat) (s : Rst) (w : World) (h : RS w Q R s) (hl : s.1.length ≤ 40000) (hk : (kiS 8 s).1 = 2) : Calls Tryz.prog 46 #[.pointer (some ⟨Q, 0, none⟩)] w fun en w' => ∃ m : Mg, en = .returned (.agg m.ms.cells.toArray) ∧ m.pure = (mg2 (kiS 8 s).2).1 ∧ m.ok ∧ m.At w' ∧ m.Bk (fun b => w.heap.size ≤ b) ∧ RS w' Q R (mg2 (kiS 8 s).2).2 ∧ Kept w R Q w' := by
 have hRw := h.st.1.1
 have hQw := h.mr.lt
 have ck := fun w0 h0 => kindRS Q R 8 s w0 h0
 have l0 := kiS_len 8 s
 unfold mg2
 generalize kiS 8 s = p_ at ck l0 hk ⊢
 obtain ⟨k, s0⟩ := p_
 simp only at ck l0 hk ⊢
 subst hk
 have c_a := fun w0 h0 => rvoteS Q R s0 w0 h0 (by omega)
 have l_a : (voS s0).2.1.length ≤ s0.1.length := voS_len _
 have ok_a := fun hb => voS_ok s0 hb
 generalize voS s0 = p_ at c_a l_a ok_a ⊢
 obtain ⟨v_a, s_a⟩ := p_
 simp only at c_a l_a ok_a ⊢
 obtain ⟨zc, hzl, hzr⟩ : ∃ z : List Value, z.length = 119 ∧ ∀ w : World, (zeroValue 109).run Tryz.prog w = .ok (.agg z.toArray) w := ⟨_, (Ms.plain_ok 0 0 0 Vt.zero_ok zeros32_len zeros32_byte).len, zeroM⟩
 have hbk := build_kind 2
 have hql := (ms0_ok 2).len
 have hq1 := (ms0_ok 2).one
 have hiq : (Tryz.prog.info? 109).map (·.size) = some (Ms.plain 2 0 0 Vt.zero zeros32).cells.length := by rw [hql]; exact iszM
 have hk0 : ∀ (w' : World) b, w'.rangeAt b 0 (Ms.plain 2 0 0 Vt.zero zeros32).cells → w'.cell? ⟨b, 0, none⟩ = some (.int .i64 2) := fun w' b h => ((ms0_ok 2).at h).k
 obtain ⟨qk, hqk⟩ : ∃ q, Hid ((Ms.plain 2 0 0 Vt.zero zeros32).cells = q) := ⟨_, hide rfl⟩
 simp only [hqk.out] at hbk hql hq1 hiq hk0
 obtain ⟨hB1, hr1, hs1⟩ := boxed_new w zc 109
 have ht1 := there_newN w zc.toArray 109 (n := 119) (by simp [hzl])
 go_enter Tryz.func46, Tryz.ntmps46
 go_upto_region 0 with fail
 try simp only [Act.put]
 refine pl_begin ?_
 refine pl_run (d := some 2) (v := .pointer (some ⟨w.heap.size, 0, none⟩)) (w' := w.alloc (.cells zc.toArray 109)) (by rfl) (ex_alloc rfl (hzr _)) rfl ?_
 simp only [nz]
 refine pl_nil ?_
 obtain ⟨W1, hW1⟩ : ∃ W, w.alloc (.cells zc.toArray 109) = W := ⟨_, rfl⟩
 rw [hW1] at hB1 hr1 hs1 ht1 ⊢
 clear hW1 hr1
 have S1 := h.below hB1
 go_upto_region 1 with fail
 try simp only [Act.put]
 refine pl_begin ?_
 refine pl_t 4 (?_) (by rfl) ?_ rfl ?_
 rotate_left
 ·go_simp
  try with_reducible rfl
 simp only [nz]
 refine pl_call (d := some 5) (by rfl) (by go_simp; first | done | exact ⟨rfl, rfl⟩ | with_reducible rfl) rfl ?_
 refine (ck W1 S1).mono ?_
 rintro _ w2 ⟨rfl, S2, k2⟩
 refine ⟨_, rfl, ?_⟩
 simp only [nz]
 refine pl_t 6 (.agg qk.toArray) (by rfl) (ex_build (parts := [(0, .tmp 5)]) rfl rfl (hbk _)) rfl ?_
 simp only [nz]
 refine pl_run (d := some 3) (v := .pointer (some ⟨w2.heap.size, 0, none⟩)) (w' := w2.alloc (.cells zc.toArray 109)) (by rfl) (ex_alloc rfl (hzr _)) rfl ?_
 simp only [nz]
 refine pl_store (w' := (w2.alloc (.cells zc.toArray 109)).setCells w2.heap.size 0 qk) (by rfl) (ex_put (cs := qk.toArray) rfl rfl rfl (there_newN _ _ _ (by simp [hzl, hql])) (by simpa using hiq) (all_one hq1)) rfl ?_
 refine pl_nil ?_
 obtain ⟨hF1, hF2, hF3, -⟩ := fresh_store w2 zc.toArray 109 qk (by simp [hzl, hql])
 have hF4 := World.there_setCells (there_newN w2 zc.toArray 109 (n := 119) (by simp [hzl])) w2.heap.size 0 qk
 obtain ⟨w3, hw3⟩ : ∃ W, (w2.alloc (.cells zc.toArray 109)).setCells w2.heap.size 0 qk = W := ⟨_, rfl⟩
 rw [hw3] at hF1 hF2 hF3 hF4 ⊢
 clear hw3
 have hc0 := hk0 _ _ hF1
 have k3 : Kept w R Q w3 := (((Kept.refl w R Q).below hB1).trans k2).below hF2
 have z2 := k2.size
 rw [← hqk.out] at hF1
 have V3 : MV w Q R w.heap.size w2.heap.size 119 (Ms.plain 2 0 0 Vt.zero zeros32).cells s0 w3 := ⟨hF1, hF4, there_below (there_blk ht1 (k2.block _ hs1 (by omega) (by omega))) hF2 (by omega), k3, S2.below hF2, by have := hF2.size; omega, by omega, Nat.le_refl _, by have := hB1.size; omega, by omega, hRw, hQw⟩
 have hww : w.heap.size < w2.heap.size := by omega
 clear hF1 hF2 hF4 ht1 hB1 S1 S2 k2 k3 hk0 hbk hql hq1 hiq hqk h ck hzr hzl
 go_upto_region 2 with fail
 try simp only [Act.put]
 refine pl_begin ?_
 refine pl_t 7 (?_) (by rfl) ?_ rfl ?_
 rotate_left
 ·go_simp
  try with_reducible rfl
 simp only [nz]
 refine pl_t 8 (.int .i64 2) (by rfl) (pl_one rfl rfl hc0 Tryz.underlying3 rfl) rfl ?_
 simp only [nz]
 refine pl_nil ?_
 clear hc0
 go_upto_region 7 with fail
 try simp only [Act.put]
 refine pl_begin ?_
 refine pl_t 31 (?_) (by rfl) ?_ rfl ?_
 rotate_left
 ·go_simp
  try with_reducible rfl
 simp only [nz]
 refine pl_call (d := some 32) (by rfl) (by go_simp; first | done | exact ⟨rfl, rfl⟩ | with_reducible rfl) rfl ?_
 refine (c_a w3 V3.rs).mono ?_
 rintro _ wd ⟨rfl, Sd, kd⟩
 refine ⟨_, rfl, ?_⟩
 simp only [nz]
 refine pl_t 33 (?_) (by rfl) ?_ rfl ?_
 rotate_left
 ·go_simp
  try with_reducible rfl
 simp only [nz]
 have hv := ok_a V3.rs.st.bs
 have Vd := V3.on kd Sd
 have Ve := Vd.set 7 v_a.cells (put_vt v_a hv Vt.zero_ok Vd.row (Vd.part 7 36 (by decide)))
 have hvl := hv.len
 refine pl_store (w' := wd.setCells w2.heap.size 7 v_a.cells) (by rfl) (ex_put (cs := v_a.cells.toArray) rfl rfl rfl (by simpa [hvl] using Vd.part 7 36 (by decide)) (by simpa [hvl] using iszVo) (all_one (Vt.one v_a))) rfl ?_
 refine pl_nil ?_
 obtain ⟨we, hwe⟩ : ∃ W, wd.setCells w2.heap.size 7 v_a.cells = W := ⟨_, rfl⟩
 rw [hwe] at Ve ⊢
 clear hwe
 clear Vd Sd kd V3
 have rpc := Ve.row
 have hmo : Mg.ok ⟨2, 0, 0, 0, 0, false, ⟨none, 0, []⟩, v_a, 0, 0, 0, ⟨none, 0, []⟩, ⟨none, 0, []⟩, zeros32, Vt.zero, ⟨none, 0, []⟩, ⟨#[]⟩, ⟨none, 0, []⟩⟩ := ⟨hv, Vt.zero_ok, zeros32_len, zeros32_byte⟩
 have hpl : (Mg.ms ⟨2, 0, 0, 0, 0, false, ⟨none, 0, []⟩, v_a, 0, 0, 0, ⟨none, 0, []⟩, ⟨none, 0, []⟩, zeros32, Vt.zero, ⟨none, 0, []⟩, ⟨#[]⟩, ⟨none, 0, []⟩⟩).cells.length = 119 := hmo.ms.len
 have hp1 := hmo.ms.one
 have hip : (Tryz.prog.info? 109).map (·.size) = some (Mg.ms ⟨2, 0, 0, 0, 0, false, ⟨none, 0, []⟩, v_a, 0, 0, 0, ⟨none, 0, []⟩, ⟨none, 0, []⟩, zeros32, Vt.zero, ⟨none, 0, []⟩, ⟨#[]⟩, ⟨none, 0, []⟩⟩).cells.length := by rw [hpl]; exact iszM
 have rpc : we.rangeAt w2.heap.size 0 (Mg.ms ⟨2, 0, 0, 0, 0, false, ⟨none, 0, []⟩, v_a, 0, 0, 0, ⟨none, 0, []⟩, ⟨none, 0, []⟩, zeros32, Vt.zero, ⟨none, 0, []⟩, ⟨#[]⟩, ⟨none, 0, []⟩⟩).cells := rpc
 obtain ⟨pc, hpc⟩ : ∃ p, Hid ((Mg.ms ⟨2, 0, 0, 0, 0, false, ⟨none, 0, []⟩, v_a, 0, 0, 0, ⟨none, 0, []⟩, ⟨none, 0, []⟩, zeros32, Vt.zero, ⟨none, 0, []⟩, ⟨#[]⟩, ⟨none, 0, []⟩⟩).cells = p) := ⟨_, hide rfl⟩
 simp only [hpc.out] at hpl hip hp1 rpc
 go_upto_region 22 with fail
 try simp only [Act.put]
 refine pl_begin ?_
 refine pl_t 121 (.agg pc.toArray) (by rfl) (ex_mid rfl rfl rpc Tryz.underlying109 rfl hip) rfl ?_
 simp only [nz]
 refine pl_store (w' := we.setCells w.heap.size 0 pc) (by rfl) (ex_put (cs := pc.toArray) rfl rfl rfl (by simpa [hpl] using Ve.ans) (by simpa using hip) (all_one hp1)) rfl ?_
 refine pl_nil ?_
 have hlow : Below w.heap.size we (we.setCells w.heap.size 0 pc) := below_sets (Nat.le_refl _) pc 0 _ (Below.refl _ we)
 have hrs := run_loadVar_mid (P := Tryz.prog) (we.setCells w.heap.size 0 pc) w.heap.size 0 109 pc _ (World.rangeAt_setCells_same we w.heap.size 0 pc (by rw [hpl]; exact Ve.ans)) Tryz.underlying109 rfl hip
 have HF : Hid (∃ m : Mg, Ending.returned (.agg pc.toArray) = .returned (.agg m.ms.cells.toArray) ∧ m.pure = (⟨2, 0, 0, 0, 0, false, [], v_a, 0, 0, 0, [], [], zeros32, Vt.zero, [], ⟨#[]⟩, []⟩ : Mp) ∧ m.ok ∧ m.At (we.setCells w.heap.size 0 pc) ∧ m.Bk (fun b => w.heap.size ≤ b) ∧ RS (we.setCells w.heap.size 0 pc) Q R s_a ∧ Kept w R Q (we.setCells w.heap.size 0 pc)) := hide ⟨⟨2, 0, 0, 0, 0, false, ⟨none, 0, []⟩, v_a, 0, 0, 0, ⟨none, 0, []⟩, ⟨none, 0, []⟩, zeros32, Vt.zero, ⟨none, 0, []⟩, ⟨#[]⟩, ⟨none, 0, []⟩⟩, by rw [hpc.out], rfl, hmo, mg0_at RowsAt.none hds_none RowsAt.none RowsAt.none RowsAt.none, ⟨no_bk, no_bk, no_bk2, no_bk, no_bk, no_bk⟩, Ve.rs.low hlow hQw, Ve.kept.low hlow (Nat.le_refl _)⟩
 clear Ve hlow rpc hpc hmo 
 go_wp2_with fail
 refine bodyPost_ret (v := .agg pc.toArray) ?_ rfl ?_
 ·simp [results, Tryz.results46, Act.put, asAddr, hrs]
 ·exact HF.out
set_option maxRecDepth 100000 in
set_option maxHeartbeats 1000000 in
theorem rmsgK3 (Q R : Nat) (s : Rst) (w : World) (h : RS w Q R s) (hl : s.1.length ≤ 40000) (hk : (kiS 8 s).1 = 3) : Calls Tryz.prog 46 #[.pointer (some ⟨Q, 0, none⟩)] w fun en w' => ∃ m : Mg, en = .returned (.agg m.ms.cells.toArray) ∧ m.pure = (mg3 (kiS 8 s).2).1 ∧ m.ok ∧ m.At w' ∧ m.Bk (fun b => w.heap.size ≤ b) ∧ RS w' Q R (mg3 (kiS 8 s).2).2 ∧ Kept w R Q w' := by
 have hRw := h.st.1.1
 have hQw := h.mr.lt
 have ck := fun w0 h0 => kindRS Q R 8 s w0 h0
 have l0 := kiS_len 8 s
 unfold mg3
 generalize kiS 8 s = p_ at ck l0 hk ⊢
 obtain ⟨k, s0⟩ := p_
 simp only at ck l0 hk ⊢
 subst hk
 have c_a := fun w0 h0 => rchangeS Q R s0 w0 h0 (by omega)
 have l_a : (chS s0).2.1.length ≤ s0.1.length := chS_len _
 generalize chS s0 = p_ at c_a l_a ⊢
 obtain ⟨⟨e_a, m_a, n_a, he_a⟩, s_a⟩ := p_
 simp only at c_a l_a ⊢
 obtain ⟨zc, hzl, hzr⟩ : ∃ z : List Value, z.length = 119 ∧ ∀ w : World, (zeroValue 109).run Tryz.prog w = .ok (.agg z.toArray) w := ⟨_, (Ms.plain_ok 0 0 0 Vt.zero_ok zeros32_len zeros32_byte).len, zeroM⟩
 have hbk := build_kind 3
 have hql := (ms0_ok 3).len
 have hq1 := (ms0_ok 3).one
 have hiq : (Tryz.prog.info? 109).map (·.size) = some (Ms.plain 3 0 0 Vt.zero zeros32).cells.length := by rw [hql]; exact iszM
 have hk0 : ∀ (w' : World) b, w'.rangeAt b 0 (Ms.plain 3 0 0 Vt.zero zeros32).cells → w'.cell? ⟨b, 0, none⟩ = some (.int .i64 3) := fun w' b h => ((ms0_ok 3).at h).k
 obtain ⟨qk, hqk⟩ : ∃ q, Hid ((Ms.plain 3 0 0 Vt.zero zeros32).cells = q) := ⟨_, hide rfl⟩
 simp only [hqk.out] at hbk hql hq1 hiq hk0
 obtain ⟨hB1, hr1, hs1⟩ := boxed_new w zc 109
 have ht1 := there_newN w zc.toArray 109 (n := 119) (by simp [hzl])
 go_enter Tryz.func46, Tryz.ntmps46
 go_upto_region 0 with fail
 try simp only [Act.put]
 refine pl_begin ?_
 refine pl_run (d := some 2) (v := .pointer (some ⟨w.heap.size, 0, none⟩)) (w' := w.alloc (.cells zc.toArray 109)) (by rfl) (ex_alloc rfl (hzr _)) rfl ?_
 simp only [nz]
 refine pl_nil ?_
 obtain ⟨W1, hW1⟩ : ∃ W, w.alloc (.cells zc.toArray 109) = W := ⟨_, rfl⟩
 rw [hW1] at hB1 hr1 hs1 ht1 ⊢
 clear hW1 hr1
 have S1 := h.below hB1
 go_upto_region 1 with fail
 try simp only [Act.put]
 refine pl_begin ?_
 refine pl_t 4 (?_) (by rfl) ?_ rfl ?_
 rotate_left
 ·go_simp
  try with_reducible rfl
 simp only [nz]
 refine pl_call (d := some 5) (by rfl) (by go_simp; first | done | exact ⟨rfl, rfl⟩ | with_reducible rfl) rfl ?_
 refine (ck W1 S1).mono ?_
 rintro _ w2 ⟨rfl, S2, k2⟩
 refine ⟨_, rfl, ?_⟩
 simp only [nz]
 refine pl_t 6 (.agg qk.toArray) (by rfl) (ex_build (parts := [(0, .tmp 5)]) rfl rfl (hbk _)) rfl ?_
 simp only [nz]
 refine pl_run (d := some 3) (v := .pointer (some ⟨w2.heap.size, 0, none⟩)) (w' := w2.alloc (.cells zc.toArray 109)) (by rfl) (ex_alloc rfl (hzr _)) rfl ?_
 simp only [nz]
 refine pl_store (w' := (w2.alloc (.cells zc.toArray 109)).setCells w2.heap.size 0 qk) (by rfl) (ex_put (cs := qk.toArray) rfl rfl rfl (there_newN _ _ _ (by simp [hzl, hql])) (by simpa using hiq) (all_one hq1)) rfl ?_
 refine pl_nil ?_
 obtain ⟨hF1, hF2, hF3, -⟩ := fresh_store w2 zc.toArray 109 qk (by simp [hzl, hql])
 have hF4 := World.there_setCells (there_newN w2 zc.toArray 109 (n := 119) (by simp [hzl])) w2.heap.size 0 qk
 obtain ⟨w3, hw3⟩ : ∃ W, (w2.alloc (.cells zc.toArray 109)).setCells w2.heap.size 0 qk = W := ⟨_, rfl⟩
 rw [hw3] at hF1 hF2 hF3 hF4 ⊢
 clear hw3
 have hc0 := hk0 _ _ hF1
 have k3 : Kept w R Q w3 := (((Kept.refl w R Q).below hB1).trans k2).below hF2
 have z2 := k2.size
 rw [← hqk.out] at hF1
 have V3 : MV w Q R w.heap.size w2.heap.size 119 (Ms.plain 3 0 0 Vt.zero zeros32).cells s0 w3 := ⟨hF1, hF4, there_below (there_blk ht1 (k2.block _ hs1 (by omega) (by omega))) hF2 (by omega), k3, S2.below hF2, by have := hF2.size; omega, by omega, Nat.le_refl _, by have := hB1.size; omega, by omega, hRw, hQw⟩
 have hww : w.heap.size < w2.heap.size := by omega
 clear hF1 hF2 hF4 ht1 hB1 S1 S2 k2 k3 hk0 hbk hql hq1 hiq hqk h ck hzr hzl
 go_upto_region 2 with fail
 try simp only [Act.put]
 refine pl_begin ?_
 refine pl_t 7 (?_) (by rfl) ?_ rfl ?_
 rotate_left
 ·go_simp
  try with_reducible rfl
 simp only [nz]
 refine pl_t 8 (.int .i64 3) (by rfl) (pl_one rfl rfl hc0 Tryz.underlying3 rfl) rfl ?_
 simp only [nz]
 refine pl_nil ?_
 clear hc0
 go_upto_region 9 with fail
 try simp only [Act.put]
 refine pl_begin ?_
 refine pl_t 36 (?_) (by rfl) ?_ rfl ?_
 rotate_left
 ·go_simp
  try with_reducible rfl
 simp only [nz]
 refine pl_call (d := some 37) (by rfl) (by go_simp; first | done | exact ⟨rfl, rfl⟩ | with_reducible rfl) rfl ?_
 refine (c_a w3 V3.rs).mono ?_
 rintro _ wd ⟨x, rfl, hx, hA, hB, hB2, Sd, kd⟩
 refine ⟨_, rfl, ?_⟩
 simp only [nz]
 refine pl_t 38 (?_) (by rfl) ?_ rfl ?_
 rotate_left
 ·go_simp
  try with_reducible rfl
 simp only [nz]
 have Vd := V3.on kd Sd
 have Ve := Vd.set 43 [.int .i64 e_a, .int .i64 m_a, .int .i64 n_a, x.val] (put_ch e_a m_a n_a x.val Vt.zero_ok Vd.row (Vd.part 43 4 (by decide)))
 have lb := V3.lb
 have la := V3.la
 have na := V3.kept.size
 refine pl_store (w' := wd.setCells w2.heap.size 43 [.int .i64 e_a, .int .i64 m_a, .int .i64 n_a, x.val]) (by rfl) (ex_put (cs := #[.int .i64 e_a, .int .i64 m_a, .int .i64 n_a, x.val]) rfl rfl rfl (Vd.part 43 4 (by decide)) iszCh (by simp [Value.oneCell', Sl.val])) rfl ?_
 refine pl_nil ?_
 have hA1 := hA.put (B := w2.heap.size) (o := 43) (vs := [.int .i64 e_a, .int .i64 m_a, .int .i64 n_a, x.val]) hB hB2 (fun b hb => by omega)
 obtain ⟨we, hwe⟩ : ∃ W, wd.setCells w2.heap.size 43 [.int .i64 e_a, .int .i64 m_a, .int .i64 n_a, x.val] = W := ⟨_, rfl⟩
 rw [hwe] at Ve hA1 ⊢
 clear hwe
 clear Vd Sd kd V3 hA
 have rpc := Ve.row
 have hmo : Mg.ok ⟨3, 0, 0, 0, 0, false, ⟨none, 0, []⟩, Vt.zero, e_a, m_a, n_a, x, ⟨none, 0, []⟩, zeros32, Vt.zero, ⟨none, 0, []⟩, ⟨#[]⟩, ⟨none, 0, []⟩⟩ := ⟨Vt.zero_ok, Vt.zero_ok, zeros32_len, zeros32_byte⟩
 have hpl : (Mg.ms ⟨3, 0, 0, 0, 0, false, ⟨none, 0, []⟩, Vt.zero, e_a, m_a, n_a, x, ⟨none, 0, []⟩, zeros32, Vt.zero, ⟨none, 0, []⟩, ⟨#[]⟩, ⟨none, 0, []⟩⟩).cells.length = 119 := hmo.ms.len
 have hp1 := hmo.ms.one
 have hip : (Tryz.prog.info? 109).map (·.size) = some (Mg.ms ⟨3, 0, 0, 0, 0, false, ⟨none, 0, []⟩, Vt.zero, e_a, m_a, n_a, x, ⟨none, 0, []⟩, zeros32, Vt.zero, ⟨none, 0, []⟩, ⟨#[]⟩, ⟨none, 0, []⟩⟩).cells.length := by rw [hpl]; exact iszM
 have rpc : we.rangeAt w2.heap.size 0 (Mg.ms ⟨3, 0, 0, 0, 0, false, ⟨none, 0, []⟩, Vt.zero, e_a, m_a, n_a, x, ⟨none, 0, []⟩, zeros32, Vt.zero, ⟨none, 0, []⟩, ⟨#[]⟩, ⟨none, 0, []⟩⟩).cells := rpc
 obtain ⟨pc, hpc⟩ : ∃ p, Hid ((Mg.ms ⟨3, 0, 0, 0, 0, false, ⟨none, 0, []⟩, Vt.zero, e_a, m_a, n_a, x, ⟨none, 0, []⟩, zeros32, Vt.zero, ⟨none, 0, []⟩, ⟨#[]⟩, ⟨none, 0, []⟩⟩).cells = p) := ⟨_, hide rfl⟩
 simp only [hpc.out] at hpl hip hp1 rpc
 go_upto_region 22 with fail
 try simp only [Act.put]
 refine pl_begin ?_
 refine pl_t 121 (.agg pc.toArray) (by rfl) (ex_mid rfl rfl rpc Tryz.underlying109 rfl hip) rfl ?_
 simp only [nz]
 refine pl_store (w' := we.setCells w.heap.size 0 pc) (by rfl) (ex_put (cs := pc.toArray) rfl rfl rfl (by simpa [hpl] using Ve.ans) (by simpa using hip) (all_one hp1)) rfl ?_
 refine pl_nil ?_
 have hlow : Below w.heap.size we (we.setCells w.heap.size 0 pc) := below_sets (Nat.le_refl _) pc 0 _ (Below.refl _ we)
 have hrs := run_loadVar_mid (P := Tryz.prog) (we.setCells w.heap.size 0 pc) w.heap.size 0 109 pc _ (World.rangeAt_setCells_same we w.heap.size 0 pc (by rw [hpl]; exact Ve.ans)) Tryz.underlying109 rfl hip
 have HF : Hid (∃ m : Mg, Ending.returned (.agg pc.toArray) = .returned (.agg m.ms.cells.toArray) ∧ m.pure = (⟨3, 0, 0, 0, 0, false, [], Vt.zero, e_a, m_a, n_a, he_a, [], zeros32, Vt.zero, [], ⟨#[]⟩, []⟩ : Mp) ∧ m.ok ∧ m.At (we.setCells w.heap.size 0 pc) ∧ m.Bk (fun b => w.heap.size ≤ b) ∧ RS (we.setCells w.heap.size 0 pc) Q R s_a ∧ Kept w R Q (we.setCells w.heap.size 0 pc)) := hide ⟨⟨3, 0, 0, 0, 0, false, ⟨none, 0, []⟩, Vt.zero, e_a, m_a, n_a, x, ⟨none, 0, []⟩, zeros32, Vt.zero, ⟨none, 0, []⟩, ⟨#[]⟩, ⟨none, 0, []⟩⟩, by rw [hpc.out], by rw [← hx]; rfl, hmo, mg0_at RowsAt.none (hA1.put hB hB2 (fun b hb => by omega)) RowsAt.none RowsAt.none RowsAt.none, ⟨no_bk, hB.mono (fun b hb => by omega), fun y hy => (hB2 y hy).mono (fun b hb => by omega), no_bk, no_bk, no_bk⟩, Ve.rs.low hlow hQw, Ve.kept.low hlow (Nat.le_refl _)⟩
 clear Ve hlow rpc hpc hmo hA1 hB hB2 hx
 go_wp2_with fail
 refine bodyPost_ret (v := .agg pc.toArray) ?_ rfl ?_
 ·simp [results, Tryz.results46, Act.put, asAddr, hrs]
 ·exact HF.out
set_option maxRecDepth 100000 in
set_option maxHeartbeats 1000000 in
theorem rmsgK4 (Q R : Nat) (s : Rst) (w : World) (h : RS w Q R s) (hl : s.1.length ≤ 40000) (hk : (kiS 8 s).1 = 4) : Calls Tryz.prog 46 #[.pointer (some ⟨Q, 0, none⟩)] w fun en w' => ∃ m : Mg, en = .returned (.agg m.ms.cells.toArray) ∧ m.pure = (mg4 (kiS 8 s).2).1 ∧ m.ok ∧ m.At w' ∧ m.Bk (fun b => w.heap.size ≤ b) ∧ RS w' Q R (mg4 (kiS 8 s).2).2 ∧ Kept w R Q w' := by
 have hRw := h.st.1.1
 have hQw := h.mr.lt
 have ck := fun w0 h0 => kindRS Q R 8 s w0 h0
 have l0 := kiS_len 8 s
 unfold mg4
 generalize kiS 8 s = p_ at ck l0 hk ⊢
 obtain ⟨k, s0⟩ := p_
 simp only at ck l0 hk ⊢
 subst hk
 have c_a := fun w0 h0 => numRS Q R 1048576 s0 w0 h0
 have l_a : (nuS 1048576 s0).2.1.length ≤ s0.1.length := nuS_len _ _
 generalize nuS 1048576 s0 = p_ at c_a l_a ⊢
 obtain ⟨v_a, s_a⟩ := p_
 simp only at c_a l_a ⊢
 have c_b := fun w0 h0 => numRS Q R 64 s_a w0 h0
 have l_b : (nuS 64 s_a).2.1.length ≤ s_a.1.length := nuS_len _ _
 generalize nuS 64 s_a = p_ at c_b l_b ⊢
 obtain ⟨v_b, s_b⟩ := p_
 simp only at c_b l_b ⊢
 have c_c := fun w0 h0 => numRS Q R 1099511627776 s_b w0 h0
 have l_c : (nuS 1099511627776 s_b).2.1.length ≤ s_b.1.length := nuS_len _ _
 generalize nuS 1099511627776 s_b = p_ at c_c l_c ⊢
 obtain ⟨v_c, s_c⟩ := p_
 simp only at c_c l_c ⊢
 have c_d := fun w0 h0 => rlistE_any Q R s_c w0 h0 (by omega)
 have l_d : (lsS 64 enS s_c).2.1.length ≤ s_c.1.length := lsS_len enS_len _ _
 generalize lsS 64 enS s_c = p_ at c_d l_d ⊢
 obtain ⟨v_d, s_d⟩ := p_
 simp only at c_d l_d ⊢
 obtain ⟨zc, hzl, hzr⟩ : ∃ z : List Value, z.length = 119 ∧ ∀ w : World, (zeroValue 109).run Tryz.prog w = .ok (.agg z.toArray) w := ⟨_, (Ms.plain_ok 0 0 0 Vt.zero_ok zeros32_len zeros32_byte).len, zeroM⟩
 have hbk := build_kind 4
 have hql := (ms0_ok 4).len
 have hq1 := (ms0_ok 4).one
 have hiq : (Tryz.prog.info? 109).map (·.size) = some (Ms.plain 4 0 0 Vt.zero zeros32).cells.length := by rw [hql]; exact iszM
 have hk0 : ∀ (w' : World) b, w'.rangeAt b 0 (Ms.plain 4 0 0 Vt.zero zeros32).cells → w'.cell? ⟨b, 0, none⟩ = some (.int .i64 4) := fun w' b h => ((ms0_ok 4).at h).k
 obtain ⟨qk, hqk⟩ : ∃ q, Hid ((Ms.plain 4 0 0 Vt.zero zeros32).cells = q) := ⟨_, hide rfl⟩
 simp only [hqk.out] at hbk hql hq1 hiq hk0
 obtain ⟨hB1, hr1, hs1⟩ := boxed_new w zc 109
 have ht1 := there_newN w zc.toArray 109 (n := 119) (by simp [hzl])
 go_enter Tryz.func46, Tryz.ntmps46
 go_upto_region 0 with fail
 try simp only [Act.put]
 refine pl_begin ?_
 refine pl_run (d := some 2) (v := .pointer (some ⟨w.heap.size, 0, none⟩)) (w' := w.alloc (.cells zc.toArray 109)) (by rfl) (ex_alloc rfl (hzr _)) rfl ?_
 simp only [nz]
 refine pl_nil ?_
 obtain ⟨W1, hW1⟩ : ∃ W, w.alloc (.cells zc.toArray 109) = W := ⟨_, rfl⟩
 rw [hW1] at hB1 hr1 hs1 ht1 ⊢
 clear hW1 hr1
 have S1 := h.below hB1
 go_upto_region 1 with fail
 try simp only [Act.put]
 refine pl_begin ?_
 refine pl_t 4 (?_) (by rfl) ?_ rfl ?_
 rotate_left
 ·go_simp
  try with_reducible rfl
 simp only [nz]
 refine pl_call (d := some 5) (by rfl) (by go_simp; first | done | exact ⟨rfl, rfl⟩ | with_reducible rfl) rfl ?_
 refine (ck W1 S1).mono ?_
 rintro _ w2 ⟨rfl, S2, k2⟩
 refine ⟨_, rfl, ?_⟩
 simp only [nz]
 refine pl_t 6 (.agg qk.toArray) (by rfl) (ex_build (parts := [(0, .tmp 5)]) rfl rfl (hbk _)) rfl ?_
 simp only [nz]
 refine pl_run (d := some 3) (v := .pointer (some ⟨w2.heap.size, 0, none⟩)) (w' := w2.alloc (.cells zc.toArray 109)) (by rfl) (ex_alloc rfl (hzr _)) rfl ?_
 simp only [nz]
 refine pl_store (w' := (w2.alloc (.cells zc.toArray 109)).setCells w2.heap.size 0 qk) (by rfl) (ex_put (cs := qk.toArray) rfl rfl rfl (there_newN _ _ _ (by simp [hzl, hql])) (by simpa using hiq) (all_one hq1)) rfl ?_
 refine pl_nil ?_
 obtain ⟨hF1, hF2, hF3, -⟩ := fresh_store w2 zc.toArray 109 qk (by simp [hzl, hql])
 have hF4 := World.there_setCells (there_newN w2 zc.toArray 109 (n := 119) (by simp [hzl])) w2.heap.size 0 qk
 obtain ⟨w3, hw3⟩ : ∃ W, (w2.alloc (.cells zc.toArray 109)).setCells w2.heap.size 0 qk = W := ⟨_, rfl⟩
 rw [hw3] at hF1 hF2 hF3 hF4 ⊢
 clear hw3
 have hc0 := hk0 _ _ hF1
 have k3 : Kept w R Q w3 := (((Kept.refl w R Q).below hB1).trans k2).below hF2
 have z2 := k2.size
 rw [← hqk.out] at hF1
 have V3 : MV w Q R w.heap.size w2.heap.size 119 (Ms.plain 4 0 0 Vt.zero zeros32).cells s0 w3 := ⟨hF1, hF4, there_below (there_blk ht1 (k2.block _ hs1 (by omega) (by omega))) hF2 (by omega), k3, S2.below hF2, by have := hF2.size; omega, by omega, Nat.le_refl _, by have := hB1.size; omega, by omega, hRw, hQw⟩
 have hww : w.heap.size < w2.heap.size := by omega
 clear hF1 hF2 hF4 ht1 hB1 S1 S2 k2 k3 hk0 hbk hql hq1 hiq hqk h ck hzr hzl
 go_upto_region 2 with fail
 try simp only [Act.put]
 refine pl_begin ?_
 refine pl_t 7 (?_) (by rfl) ?_ rfl ?_
 rotate_left
 ·go_simp
  try with_reducible rfl
 simp only [nz]
 refine pl_t 8 (.int .i64 4) (by rfl) (pl_one rfl rfl hc0 Tryz.underlying3 rfl) rfl ?_
 simp only [nz]
 refine pl_nil ?_
 clear hc0
 go_upto_region 11 with fail
 have V8 := V3.drew
 refine hs_begin (S := (fun W' => W'.cell? ⟨Q, 0, none⟩ = some (.pointer (some ⟨R, 0, none⟩)))) 21 rfl (by kernel_rfl) ?_
 obtain ⟨w8, hw8⟩ : ∃ W, w3.drew = W := ⟨_, rfl⟩
 rw [hw8] at V8 ⊢
 clear hw8 V3
 have hS : (fun W' => W'.cell? ⟨Q, 0, none⟩ = some (.pointer (some ⟨R, 0, none⟩))) w8 := V8.rs.mr.c0
 refine hs_t 0 41 (?_) rfl (by kernel_rfl) (by kernel_rfl) (by kernel_rfl) (by rfl) ?_ hS rfl ?_
 rotate_left
 ·intro w' hw
  go_simp
  try with_reducible rfl
 simp only [nz]
 refine hs_t 1 42 (?_) rfl (by kernel_rfl) (by kernel_rfl) (by kernel_rfl) (by rfl) ?_ hS rfl ?_
 rotate_left
 ·intro w' hw
  go_simp
  try with_reducible rfl
 simp only [nz]
 refine hs_t 2 43 (?_) rfl (by kernel_rfl) (by kernel_rfl) (by kernel_rfl) (by rfl) ?_ hS rfl ?_
 rotate_left
 ·intro w' hw
  go_simp
  try with_reducible rfl
 simp only [nz]
 refine hs_t 3 44 (.pointer (some ⟨R, 0, none⟩)) rfl (by kernel_rfl) (by kernel_rfl) (by kernel_rfl) (by rfl) (fun w' hw => pl_one rfl rfl hw Tryz.underlying142 rfl) hS rfl ?_
 simp only [nz]
 refine hs_t 5 46 (?_) rfl (by kernel_rfl) (by kernel_rfl) (by kernel_rfl) (by rfl) ?_ hS rfl ?_
 rotate_left
 ·intro w' hw
  go_simp
  try with_reducible rfl
 simp only [nz]
 refine hs_t 6 47 (?_) rfl (by kernel_rfl) (by kernel_rfl) (by kernel_rfl) (by rfl) ?_ hS rfl ?_
 rotate_left
 ·intro w' hw
  go_simp
  try with_reducible rfl
 simp only [nz]
 refine hs_t 7 48 (?_) rfl (by kernel_rfl) (by kernel_rfl) (by kernel_rfl) (by rfl) ?_ hS rfl ?_
 rotate_left
 ·intro w' hw
  go_simp
  try with_reducible rfl
 simp only [nz]
 refine hs_t 8 49 (.pointer (some ⟨R, 0, none⟩)) rfl (by kernel_rfl) (by kernel_rfl) (by kernel_rfl) (by rfl) (fun w' hw => pl_one rfl rfl hw Tryz.underlying142 rfl) hS rfl ?_
 simp only [nz]
 refine hs_t 10 51 (?_) rfl (by kernel_rfl) (by kernel_rfl) (by kernel_rfl) (by rfl) ?_ hS rfl ?_
 rotate_left
 ·intro w' hw
  go_simp
  try with_reducible rfl
 simp only [nz]
 refine hs_t 11 52 (?_) rfl (by kernel_rfl) (by kernel_rfl) (by kernel_rfl) (by rfl) ?_ hS rfl ?_
 rotate_left
 ·intro w' hw
  go_simp
  try with_reducible rfl
 simp only [nz]
 refine hs_t 12 53 (?_) rfl (by kernel_rfl) (by kernel_rfl) (by kernel_rfl) (by rfl) ?_ hS rfl ?_
 rotate_left
 ·intro w' hw
  go_simp
  try with_reducible rfl
 simp only [nz]
 refine hs_t 13 54 (.pointer (some ⟨R, 0, none⟩)) rfl (by kernel_rfl) (by kernel_rfl) (by kernel_rfl) (by rfl) (fun w' hw => pl_one rfl rfl hw Tryz.underlying142 rfl) hS rfl ?_
 simp only [nz]
 refine hs_call (i := 4) (d := some 45) rfl (by kernel_rfl) (by rfl) (by go_simp; first | done | exact ⟨rfl, rfl⟩ | with_reducible rfl) rfl ?_
 refine (c_a w8 V8.rs).mono ?_
 rintro _ w5 ⟨rfl, S5, k5⟩
 have hS : (fun W' => W'.cell? ⟨Q, 0, none⟩ = some (.pointer (some ⟨R, 0, none⟩))) w5 := S5.mr.c0
 refine ⟨_, rfl, hS, ?_⟩
 simp only [nz]
 refine hs_t 15 56 (?_) rfl (by kernel_rfl) (by kernel_rfl) (by kernel_rfl) (by rfl) ?_ hS rfl ?_
 rotate_left
 ·intro w' hw
  go_simp
  try with_reducible rfl
 simp only [nz]
 refine hs_call (i := 9) (d := some 50) rfl (by kernel_rfl) (by rfl) (by go_simp; first | done | exact ⟨rfl, rfl⟩ | with_reducible rfl) rfl ?_
 refine (c_b w5 S5).mono ?_
 rintro _ w6 ⟨rfl, S6, k6⟩
 have hS : (fun W' => W'.cell? ⟨Q, 0, none⟩ = some (.pointer (some ⟨R, 0, none⟩))) w6 := S6.mr.c0
 refine ⟨_, rfl, hS, ?_⟩
 simp only [nz]
 refine hs_call (i := 14) (d := some 55) rfl (by kernel_rfl) (by rfl) (by go_simp; first | done | exact ⟨rfl, rfl⟩ | with_reducible rfl) rfl ?_
 refine (c_c w6 S6).mono ?_
 rintro _ w7 ⟨rfl, S7, k7⟩
 have hS : (fun W' => W'.cell? ⟨Q, 0, none⟩ = some (.pointer (some ⟨R, 0, none⟩))) w7 := S7.mr.c0
 refine ⟨_, rfl, hS, ?_⟩
 simp only [nz]
 have V_0 := (((V8.on k5 S5).on k6 S6).on k7 S7)
 have V_1 := V_0.set 1 [.int .i64 v_a] (put_e v_a V_0.row (V_0.part 1 1 (by decide)))
 refine hs_store (i := 16) (w' := w7.setCells w2.heap.size 1 [.int .i64 v_a]) rfl (by kernel_rfl) (by rfl) (ex_put1 (n := 119) rfl rfl rfl V_0.box (by decide) iszI rfl rfl) rfl V_1.rs.mr.c0 ?_
 obtain ⟨w_16, hw_16⟩ : ∃ W, w7.setCells w2.heap.size 1 [.int .i64 v_a] = W := ⟨_, rfl⟩
 rw [hw_16] at V_1 ⊢
 clear hw_16
 have hS : (fun W' => W'.cell? ⟨Q, 0, none⟩ = some (.pointer (some ⟨R, 0, none⟩))) w_16 := V_1.rs.mr.c0
 refine hs_t 17 57 (?_) rfl (by kernel_rfl) (by kernel_rfl) (by kernel_rfl) (by rfl) ?_ hS rfl ?_
 rotate_left
 ·intro w' hw
  go_simp
  try with_reducible rfl
 simp only [nz]
 have V_2 := V_1.set 2 [.int .i64 v_b] (put_l v_b V_1.row (V_1.part 2 1 (by decide)))
 refine hs_store (i := 18) (w' := w_16.setCells w2.heap.size 2 [.int .i64 v_b]) rfl (by kernel_rfl) (by rfl) (ex_put1 (n := 119) rfl rfl rfl V_1.box (by decide) iszI rfl rfl) rfl V_2.rs.mr.c0 ?_
 obtain ⟨w_18, hw_18⟩ : ∃ W, w_16.setCells w2.heap.size 2 [.int .i64 v_b] = W := ⟨_, rfl⟩
 rw [hw_18] at V_2 ⊢
 clear hw_18
 have hS : (fun W' => W'.cell? ⟨Q, 0, none⟩ = some (.pointer (some ⟨R, 0, none⟩))) w_18 := V_2.rs.mr.c0
 refine hs_t 19 58 (?_) rfl (by kernel_rfl) (by kernel_rfl) (by kernel_rfl) (by rfl) ?_ hS rfl ?_
 rotate_left
 ·intro w' hw
  go_simp
  try with_reducible rfl
 simp only [nz]
 have V_3 := V_2.set 3 [.int .i64 v_c] (put_v v_c V_2.row (V_2.part 3 1 (by decide)))
 refine hs_store (i := 20) (w' := w_18.setCells w2.heap.size 3 [.int .i64 v_c]) rfl (by kernel_rfl) (by rfl) (ex_put1 (n := 119) rfl rfl rfl V_2.box (by decide) iszI rfl rfl) rfl V_3.rs.mr.c0 ?_
 obtain ⟨w_20, hw_20⟩ : ∃ W, w_18.setCells w2.heap.size 3 [.int .i64 v_c] = W := ⟨_, rfl⟩
 rw [hw_20] at V_3 ⊢
 clear hw_20
 have hS : (fun W' => W'.cell? ⟨Q, 0, none⟩ = some (.pointer (some ⟨R, 0, none⟩))) w_20 := V_3.rs.mr.c0
 refine hs_done (by kernel_rfl) ?_
 clear hS V8 S5 k5 S6 k6 S7 k7 V_0 V_1 V_2 c_a c_b c_c
 go_upto_region 12 with fail
 try simp only [Act.put]
 refine pl_begin ?_
 refine pl_t 59 (?_) (by rfl) ?_ rfl ?_
 rotate_left
 ·go_simp
  try with_reducible rfl
 simp only [nz]
 refine pl_t 60 (?_) (by rfl) ?_ rfl ?_
 rotate_left
 ·go_simp
  try with_reducible rfl
 simp only [nz]
 refine pl_t 61 (?_) (by rfl) ?_ rfl ?_
 rotate_left
 ·go_simp
  try with_reducible rfl
 simp only [nz]
 refine pl_t 62 (.pointer (some ⟨R, 0, none⟩)) (by rfl) (pl_one rfl rfl V_3.rs.mr.c0 Tryz.underlying142 rfl) rfl ?_
 simp only [nz]
 refine pl_t 63 (?_) (by rfl) ?_ rfl ?_
 rotate_left
 ·go_simp
  try with_reducible rfl
 simp only [nz]
 refine pl_t 64 (?_) (by rfl) ?_ rfl ?_
 rotate_left
 ·go_simp
  try with_reducible rfl
 simp only [nz]
 refine pl_t 65 (?_) (by rfl) ?_ rfl ?_
 rotate_left
 ·go_simp
  try with_reducible rfl
 simp only [nz]
 refine pl_call (d := some 66) (by rfl) (by go_simp; first | done | exact ⟨rfl, rfl⟩ | with_reducible rfl) rfl ?_
 refine (c_d w_20 V_3.rs).mono ?_
 rintro _ wd ⟨x, rfl, hx, hA, hB, Sd, kd⟩
 refine ⟨_, rfl, ?_⟩
 simp only [nz]
 refine pl_t 67 (?_) (by rfl) ?_ rfl ?_
 rotate_left
 ·go_simp
  try with_reducible rfl
 simp only [nz]
 have Vd := V_3.on kd Sd
 have Ve := Vd.set 47 [x.val] (put_ne x.val Vt.zero_ok Vd.row (Vd.part 47 1 (by decide)))
 have lb := V_3.lb
 have la := V_3.la
 have na := V_3.kept.size
 refine pl_store (w' := wd.setCells w2.heap.size 47 [x.val]) (by rfl) (ex_put1 (n := 119) rfl rfl rfl Vd.box (by decide) iszEvs rfl rfl) rfl ?_
 refine pl_nil ?_
 have hA1 := hA.put (B := w2.heap.size) (o := 47) (vs := [x.val]) hB (fun b hb => by omega)
 obtain ⟨we, hwe⟩ : ∃ W, wd.setCells w2.heap.size 47 [x.val] = W := ⟨_, rfl⟩
 rw [hwe] at Ve hA1 ⊢
 clear hwe
 clear Vd Sd kd V_3 hA
 have rpc := Ve.row
 have hmo : Mg.ok ⟨4, v_a, v_b, v_c, 0, false, ⟨none, 0, []⟩, Vt.zero, 0, 0, 0, ⟨none, 0, []⟩, x, zeros32, Vt.zero, ⟨none, 0, []⟩, ⟨#[]⟩, ⟨none, 0, []⟩⟩ := ⟨Vt.zero_ok, Vt.zero_ok, zeros32_len, zeros32_byte⟩
 have hpl : (Mg.ms ⟨4, v_a, v_b, v_c, 0, false, ⟨none, 0, []⟩, Vt.zero, 0, 0, 0, ⟨none, 0, []⟩, x, zeros32, Vt.zero, ⟨none, 0, []⟩, ⟨#[]⟩, ⟨none, 0, []⟩⟩).cells.length = 119 := hmo.ms.len
 have hp1 := hmo.ms.one
 have hip : (Tryz.prog.info? 109).map (·.size) = some (Mg.ms ⟨4, v_a, v_b, v_c, 0, false, ⟨none, 0, []⟩, Vt.zero, 0, 0, 0, ⟨none, 0, []⟩, x, zeros32, Vt.zero, ⟨none, 0, []⟩, ⟨#[]⟩, ⟨none, 0, []⟩⟩).cells.length := by rw [hpl]; exact iszM
 have rpc : we.rangeAt w2.heap.size 0 (Mg.ms ⟨4, v_a, v_b, v_c, 0, false, ⟨none, 0, []⟩, Vt.zero, 0, 0, 0, ⟨none, 0, []⟩, x, zeros32, Vt.zero, ⟨none, 0, []⟩, ⟨#[]⟩, ⟨none, 0, []⟩⟩).cells := rpc
 obtain ⟨pc, hpc⟩ : ∃ p, Hid ((Mg.ms ⟨4, v_a, v_b, v_c, 0, false, ⟨none, 0, []⟩, Vt.zero, 0, 0, 0, ⟨none, 0, []⟩, x, zeros32, Vt.zero, ⟨none, 0, []⟩, ⟨#[]⟩, ⟨none, 0, []⟩⟩).cells = p) := ⟨_, hide rfl⟩
 simp only [hpc.out] at hpl hip hp1 rpc
 go_upto_region 22 with fail
 try simp only [Act.put]
 refine pl_begin ?_
 refine pl_t 121 (.agg pc.toArray) (by rfl) (ex_mid rfl rfl rpc Tryz.underlying109 rfl hip) rfl ?_
 simp only [nz]
 refine pl_store (w' := we.setCells w.heap.size 0 pc) (by rfl) (ex_put (cs := pc.toArray) rfl rfl rfl (by simpa [hpl] using Ve.ans) (by simpa using hip) (all_one hp1)) rfl ?_
 refine pl_nil ?_
 have hlow : Below w.heap.size we (we.setCells w.heap.size 0 pc) := below_sets (Nat.le_refl _) pc 0 _ (Below.refl _ we)
 have hrs := run_loadVar_mid (P := Tryz.prog) (we.setCells w.heap.size 0 pc) w.heap.size 0 109 pc _ (World.rangeAt_setCells_same we w.heap.size 0 pc (by rw [hpl]; exact Ve.ans)) Tryz.underlying109 rfl hip
 have HF : Hid (∃ m : Mg, Ending.returned (.agg pc.toArray) = .returned (.agg m.ms.cells.toArray) ∧ m.pure = (⟨4, v_a, v_b, v_c, 0, false, [], Vt.zero, 0, 0, 0, [], v_d, zeros32, Vt.zero, [], ⟨#[]⟩, []⟩ : Mp) ∧ m.ok ∧ m.At (we.setCells w.heap.size 0 pc) ∧ m.Bk (fun b => w.heap.size ≤ b) ∧ RS (we.setCells w.heap.size 0 pc) Q R s_d ∧ Kept w R Q (we.setCells w.heap.size 0 pc)) := hide ⟨⟨4, v_a, v_b, v_c, 0, false, ⟨none, 0, []⟩, Vt.zero, 0, 0, 0, ⟨none, 0, []⟩, x, zeros32, Vt.zero, ⟨none, 0, []⟩, ⟨#[]⟩, ⟨none, 0, []⟩⟩, by rw [hpc.out], by rw [← hx]; rfl, hmo, mg0_at RowsAt.none hds_none (hA1.put hB (fun b hb => by omega)) RowsAt.none RowsAt.none, ⟨no_bk, no_bk, no_bk2, hB.mono (fun b hb => by omega), no_bk, no_bk⟩, Ve.rs.low hlow hQw, Ve.kept.low hlow (Nat.le_refl _)⟩
 clear Ve hlow rpc hpc hmo hA1 hB hx
 go_wp2_with fail
 refine bodyPost_ret (v := .agg pc.toArray) ?_ rfl ?_
 ·simp [results, Tryz.results46, Act.put, asAddr, hrs]
 ·exact HF.out
end Go.Proofs.YtilbjeeabecfjaaGreat
