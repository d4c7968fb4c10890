/- the reader's certs, and what was held; the reader's lists of what was held; changes; the reader's changes; the document's reader: batches, signs, envelopes, certs -/
import Derived.Test.YtgjalkbianpibaaGreatJD7
import Derived.Test.YtgjalkbianpibaaGreatJD6
namespace Go.Proofs.YtgjalkbianpibaaGreat
open Go.RowKit
open Sha Tal
set_option linter.unusedVariables false
set_option linter.unusedSimpArgs false
def BRq.un (r : BRq) : Rq := ⟨r.c, r.n, r.s, r.t⟩
theorem rows_req {w : World} {a : Option Addr} {rs : List BRq} (h : ReqsAt w a rs) : RowsAt RqE w a (rs.map BRq.un) := by
  refine ⟨by rw [List.length_map]; exact h.1, fun r hr => ?_, ?_⟩
  · obtain ⟨y, hy, rfl⟩ := List.mem_map.1 hr
    have k : y.ok := h.2.1 y hy
    exact ⟨k.tl, k.tb, k.sl, k.cl, k.ch, k.nl, k.nh⟩
  · rcases h.2.2 with q | ⟨b, off, rfl, h1, h2⟩
    · exact .inl (by rw [q]; rfl)
    · refine .inr ⟨b, off, rfl, h1, ?_⟩
      have e : (rs.map BRq.un).flatMap RqE.f = flatR rs := by
        unfold flatR
        rw [List.flatMap_map]
        rfl
      rw [e]
      exact h2
/-- what was held, without its places -/
structure Hp where
  q : Bool
  rs : List Rq
  vt : Vt
  sg : List Sg
def Hd.pure (h : Hd) : Hp := ⟨h.q, h.rs.xs, h.vt, h.sg.xs⟩
/-- a batch, a cert, what was held -/
def baS (s : Rst) : (Bool × List Rq) × Rst := (((getB s.1 s.2.1).q, (getB s.1 s.2.1).rs.map BRq.un), (getB s.1 s.2.1).rest, (getB s.1 s.2.1).err, s.2.2)
def ceS (s : Rst) : (Vt × List Sg) × Rst := (((voS s).1, (lsS 64 siS (voS s).2).1), (lsS 64 siS (voS s).2).2)
def heS (s : Rst) : Hp × Rst := (⟨(baS s).1.1, (baS s).1.2, (ceS (baS s).2).1.1, (ceS (baS s).2).1.2⟩, (ceS (baS s).2).2)
theorem getB_len (rest : List Int) (e : Int) : (getB rest e).rest.length ≤ rest.length := by
  unfold getB
  split
  · exact numS_len _ _ _
  · exact Nat.le_trans (getRs_le _ _ _) (numS_len _ _ _)
theorem baS_len (s : Rst) : (baS s).2.1.length ≤ s.1.length := getB_len _ _
theorem ceS_len (s : Rst) : (ceS s).2.1.length ≤ s.1.length := Nat.le_trans (lsS_len siS_len _ _) (voS_len _)
theorem heS_len (s : Rst) : (heS s).2.1.length ≤ s.1.length := Nat.le_trans (ceS_len _) (baS_len _)
theorem zeroCeE (w : World) : (zeroValue 35).run Tryz.prog w = .ok (.agg (Vt.zero.cells ++ [Value.slice none 0 0]).toArray) w := by kernel_rfl
theorem zeroHdE (w : World) : (zeroValue 53).run Tryz.prog w = .ok (.agg ([Value.bool false, .slice none 0 0] ++ (Vt.zero.cells ++ [Value.slice none 0 0])).toArray) w := by kernel_rfl
set_option maxRecDepth 100000 in
theorem build_cert (t : List Value) (x : Sl Sg) (ht : t.length = 36) (w : World) : (Instr.build 35 #[(0, .agg t.toArray), (1, x.val)]).run Tryz.prog w = .ok (.agg (t ++ [x.val]).toArray) w :=
  build_fill (zs := Vt.zero.cells ++ [Value.slice none 0 0]) (pl := #[(0, 36), (36, 1)]) (zeroCeE w) (by kernel_rfl) (by kernel_rfl) _ _ (fill_two (c1 := t) (c2 := [x.val]) rfl rfl (by decide) rfl ht rfl rfl rfl)
set_option maxRecDepth 100000 in
theorem build_held (q : Bool) (x : Value) (t : List Value) (ht : t.length = 37) (hx : x.cells = #[x]) (w : World) : (Instr.build 53 #[(0, .agg #[.bool q, x]), (1, .agg t.toArray)]).run Tryz.prog w = .ok (.agg (.bool q :: x :: t).toArray) w :=
  build_fill (zs := [Value.bool false, .slice none 0 0] ++ (Vt.zero.cells ++ [Value.slice none 0 0])) (pl := #[(0, 2), (2, 37)]) (zeroHdE w) (by kernel_rfl) (by kernel_rfl) _ _ (fill_two (c1 := [.bool q, x]) (c2 := t) rfl rfl (by decide) (by decide) rfl ht rfl rfl)
theorem bgetS (Q R : Nat) (s : Rst) (w : World) (h : RS w Q R s) (hl : s.1.length ≤ 40000) : Calls Tryz.prog 80 #[.pointer (some ⟨R, 0, none⟩)] w fun en w' => ∃ x : Sl Rq, en = .returned (.agg #[.bool (baS s).1.1, x.val]) ∧ x.xs = (baS s).1.2 ∧ x.At RqE w' ∧ x.Bk (fun b => w.heap.size ≤ b ∧ b < w'.heap.size) ∧ RS w' Q R (baS s).2 ∧ Kept w R Q w' :=
  (bget_any R s.1 s.2.1 w h.st hl h.st.bs).mono (by
    rintro _ w1 ⟨a, cap, rfl, h1, h2, h3, h4, h5, h6⟩
    have e : (getB s.1 s.2.1).rs.length = ((getB s.1 s.2.1).rs.map BRq.un).length := (List.length_map ..).symm
    refine ⟨⟨a, cap, _⟩, ?_, rfl, rows_req h3, ?_, h.gb h6 h5, Kept.of h6⟩
    · show _ = Ending.returned (.agg #[_, .slice a ((getB s.1 s.2.1).rs.map BRq.un).length cap])
      rw [← e]; rfl
    · intro b hne hb
      refine ⟨h4 b hb, ?_⟩
      rcases h3.2.2 with q | ⟨c, off, e1, h7, _⟩
      · exact absurd (by show ((getB s.1 s.2.1).rs.map BRq.un) = []; rw [q]; rfl) hne
      · have hb : a = some b := hb
        rw [hb] at e1
        injection e1 with e1
        rw [e1]
        exact h7)
set_option maxRecDepth 100000 in
set_option maxHeartbeats 1000000 in
theorem rcertS (Q R : Nat) (s : Rst) (w : World) (h : RS w Q R s) (hl : s.1.length ≤ 40000) : Calls Tryz.prog 86 #[.pointer (some ⟨Q, 0, none⟩)] w fun en w' => ∃ x : Sl Sg, en = .returned (.agg (certL (ceS s).1.1 x).toArray) ∧ x.xs = (ceS s).1.2 ∧ x.At SgE w' ∧ x.Bk (fun b => w.heap.size ≤ b ∧ b < w'.heap.size) ∧ (ceS s).1.1.ok ∧ RS w' Q R (ceS s).2 ∧ Kept w R Q w' := by
  obtain ⟨zc, hzl, hzr⟩ : ∃ z : List Value, z.length = 37 ∧ ∀ w : World, (zeroValue 35).run Tryz.prog w = .ok (.agg z.toArray) w := ⟨_, by decide, zeroCeE⟩
  have cv := fun w0 h0 => rvoteS Q R s w0 h0 hl
  have hv2 := voS_ok s h.st.bs
  have hvl := hv2.len
  have hvo := Vt.one (voS s).1
  have hln := voS_len s
  unfold ceS certL
  revert cv hv2 hvl hvo hln
  generalize voS s = p_
  obtain ⟨vt, t⟩ := p_
  intro cv hv2 hvl hvo hln
  simp only at cv hv2 hvl hvo hln ⊢
  have cs := fun w0 h0 => rlistS_any Q R t w0 h0 (Nat.le_trans hln hl)
  revert cs
  generalize lsS 64 siS t = p_
  obtain ⟨ls, t'⟩ := p_
  intro cs
  simp only at cs ⊢
  obtain ⟨vc, hvc⟩ : ∃ q, Hid (vt.cells = q) := ⟨_, hide rfl⟩
  rw [hvc.out] at hvl hvo
  simp only [hvc.out] at cv ⊢
  clear hvc hln
  replace hv2 := hide hv2
  obtain ⟨hB1, hr1, hs1⟩ := boxed_new w zc 35
  have ht1 := there_newN w zc.toArray 35 (n := 37) (by simp [hzl])
  have hRw := h.st.1.1
  have hQw := h.mr.lt
  go_enter Tryz.func86, Tryz.ntmps86
  go_upto_region 0 with fail
  try simp only [Act.put]
  refine pl_begin ?_
  refine pl_run (d := some 2) (v := .pointer (some ⟨w.heap.size, 0, none⟩)) (w' := w.alloc (.cells zc.toArray 35)) (by rfl) (ex_alloc rfl (hzr _)) rfl ?_
  simp only [Act.put, List.setIfInBounds_toArray, List.set_cons_zero, List.set_cons_succ]
  refine pl_nil ?_
  obtain ⟨W1, hW1⟩ : ∃ W, w.alloc (.cells zc.toArray 35) = W := ⟨_, rfl⟩
  rw [hW1] at hB1 hr1 hs1 ht1 ⊢
  clear hW1 hr1 hzr hzl
  go_upto_region 1 with fail
  have hB8 := hB1.drew
  have ht8 : W1.drew.there w.heap.size 0 37 := ht1
  have hs8 : w.heap.size < W1.drew.heap.size := hs1
  refine hs_begin (S := (fun W' => W'.cell? ⟨Q, 0, none⟩ = some (.pointer (some ⟨R, 0, none⟩)))) 12 rfl (by kernel_rfl) ?_
  obtain ⟨w8, hw8⟩ : ∃ W, W1.drew = W := ⟨_, rfl⟩
  rw [hw8] at hB8 ht8 hs8 ⊢
  clear hw8
  have S8 := h.below hB8
  have hS : (fun W' => W'.cell? ⟨Q, 0, none⟩ = some (.pointer (some ⟨R, 0, none⟩))) w8 := S8.mr.c0
  refine hs_take (i := 0) (d := some 3) (v := ?_) rfl (by kernel_rfl) (by kernel_rfl) (by kernel_rfl) (by rfl) ?_ hS rfl ?_
  rotate_left
  · intro w' hw
    go_simp
    try with_reducible rfl
  simp only [Act.put, List.setIfInBounds_toArray, List.set_cons_zero, List.set_cons_succ]
  refine hs_take (i := 2) (d := some 5) (v := ?_) rfl (by kernel_rfl) (by kernel_rfl) (by kernel_rfl) (by rfl) ?_ hS rfl ?_
  rotate_left
  · intro w' hw
    go_simp
    try with_reducible rfl
  simp only [Act.put, List.setIfInBounds_toArray, List.set_cons_zero, List.set_cons_succ]
  refine hs_take (i := 3) (d := some 6) (v := ?_) rfl (by kernel_rfl) (by kernel_rfl) (by kernel_rfl) (by rfl) ?_ hS rfl ?_
  rotate_left
  · intro w' hw
    go_simp
    try with_reducible rfl
  simp only [Act.put, List.setIfInBounds_toArray, List.set_cons_zero, List.set_cons_succ]
  refine hs_take (i := 4) (d := some 7) (v := ?_) rfl (by kernel_rfl) (by kernel_rfl) (by kernel_rfl) (by rfl) ?_ hS rfl ?_
  rotate_left
  · intro w' hw
    go_simp
    try with_reducible rfl
  simp only [Act.put, List.setIfInBounds_toArray, List.set_cons_zero, List.set_cons_succ]
  refine hs_take (i := 5) (d := some 8) (v := .pointer (some ⟨R, 0, none⟩)) rfl (by kernel_rfl) (by kernel_rfl) (by kernel_rfl) (by rfl) (fun w' hw => pl_one rfl rfl hw Tryz.underlying122 rfl) hS rfl ?_
  simp only [Act.put, List.setIfInBounds_toArray, List.set_cons_zero, List.set_cons_succ]
  refine hs_take (i := 6) (d := some 9) (v := ?_) rfl (by kernel_rfl) (by kernel_rfl) (by kernel_rfl) (by rfl) ?_ hS rfl ?_
  rotate_left
  · intro w' hw
    go_simp
    try with_reducible rfl
  simp only [Act.put, List.setIfInBounds_toArray, List.set_cons_zero, List.set_cons_succ]
  refine hs_take (i := 7) (d := some 10) (v := ?_) rfl (by kernel_rfl) (by kernel_rfl) (by kernel_rfl) (by rfl) ?_ hS rfl ?_
  rotate_left
  · intro w' hw
    go_simp
    try with_reducible rfl
  simp only [Act.put, List.setIfInBounds_toArray, List.set_cons_zero, List.set_cons_succ]
  refine hs_take (i := 8) (d := some 11) (v := ?_) rfl (by kernel_rfl) (by kernel_rfl) (by kernel_rfl) (by rfl) ?_ hS rfl ?_
  rotate_left
  · intro w' hw
    go_simp
    try with_reducible rfl
  simp only [Act.put, List.setIfInBounds_toArray, List.set_cons_zero, List.set_cons_succ]
  refine hs_call (i := 1) (d := some 4) rfl (by kernel_rfl) (by rfl) (by go_simp; first | done | exact ⟨rfl, rfl⟩ | with_reducible rfl) rfl ?_
  refine (cv w8 S8).mono ?_
  rintro _ w2 ⟨rfl, S2, k2⟩
  have hS : (fun W' => W'.cell? ⟨Q, 0, none⟩ = some (.pointer (some ⟨R, 0, none⟩))) w2 := S2.mr.c0
  refine ⟨_, rfl, hS, ?_⟩
  simp only [Act.put, List.setIfInBounds_toArray, List.set_cons_zero, List.set_cons_succ]
  refine hs_call (i := 9) (d := some 12) rfl (by kernel_rfl) (by rfl) (by go_simp; first | done | exact ⟨rfl, rfl⟩ | with_reducible rfl) rfl ?_
  refine (cs w2 S2).mono ?_
  rintro _ w3 ⟨x, rfl, hx, hA, hB, S3, k3⟩
  have hS : (fun W' => W'.cell? ⟨Q, 0, none⟩ = some (.pointer (some ⟨R, 0, none⟩))) w3 := S3.mr.c0
  refine ⟨_, rfl, hS, ?_⟩
  simp only [Act.put, List.setIfInBounds_toArray, List.set_cons_zero, List.set_cons_succ]
  have k8 : Kept w R Q w3 := (((Kept.refl w R Q).below hB8).trans k2).trans k3
  have thA : w3.there w.heap.size 0 37 := there_blk (there_blk ht8 (k2.block _ hs8 (by omega) (by omega))) (k3.block _ (Nat.lt_of_lt_of_le hs8 k2.size) (by omega) (by omega))
  have hbs := fun w0 => build_cert vc x hvl w0
  have hpl : (vc ++ [x.val]).length = 37 := by rw [List.length_append, hvl]; rfl
  have hip : (Tryz.prog.info? 35).map (·.size) = some (vc ++ [x.val]).length := by rw [hpl]; exact iszCe
  have hp1 : ∀ v ∈ vc ++ [x.val], v.oneCell' = true := fun v hv => by
    rcases List.mem_append.1 hv with g | g
    · exact hvo v g
    · rw [List.mem_singleton.1 g]; rfl
  obtain ⟨pc, hpc⟩ : ∃ p, Hid (vc ++ [x.val] = p) := ⟨_, hide rfl⟩
  simp only [hpc.out] at hbs hpl hip hp1
  refine hs_take (i := 10) (d := some 13) (v := .agg pc.toArray) rfl (by kernel_rfl) (by kernel_rfl) (by kernel_rfl) (by rfl) (fun w' hw => ex_build (parts := [(0, .tmp 4), (1, .tmp 12)]) rfl rfl (hbs _)) hS rfl ?_
  simp only [Act.put, List.setIfInBounds_toArray, List.set_cons_zero, List.set_cons_succ]
  have hSE : (fun W' => W'.cell? ⟨Q, 0, none⟩ = some (.pointer (some ⟨R, 0, none⟩))) (w3.setCells w.heap.size 0 pc) := (S3.low (below_sets (Nat.le_refl _) pc 0 _ (Below.refl _ w3)) hQw).mr.c0
  refine hs_store (i := 11) (w' := w3.setCells w.heap.size 0 pc) rfl (by kernel_rfl) (by rfl) (ex_put (cs := pc.toArray) rfl rfl rfl (by simpa [hpl] using thA) (by simpa using hip) (all_one hp1)) rfl hSE ?_
  refine hs_done (by kernel_rfl) ?_
  have hlow : Below w.heap.size w3 (w3.setCells w.heap.size 0 pc) := below_sets (Nat.le_refl _) pc 0 _ (Below.refl _ w3)
  have hrs := run_loadVar_mid (P := Tryz.prog) (w3.setCells w.heap.size 0 pc) w.heap.size 0 35 pc _ (World.rangeAt_setCells_same w3 w.heap.size 0 pc (by rw [hpl]; exact thA)) Tryz.underlying35 rfl hip
  have HF : Hid (∃ y : Sl Sg, Ending.returned (.agg pc.toArray) = .returned (.agg (vc ++ [y.val]).toArray) ∧ y.xs = ls ∧ y.At SgE (w3.setCells w.heap.size 0 pc) ∧ y.Bk (fun b => w.heap.size ≤ b ∧ b < (w3.setCells w.heap.size 0 pc).heap.size) ∧ vt.ok ∧ RS (w3.setCells w.heap.size 0 pc) Q R t' ∧ Kept w R Q (w3.setCells w.heap.size 0 pc)) := hide ⟨x, by rw [hpc.out], hx, hA.on (by rw [size_sets]; exact Nat.le_refl _) hB (fun b hb hlt => blk_sets (by have := hb.1; have := k2.size; omega)), hB.mono (fun b hb => ⟨by have := hb.1; have := k2.size; omega, by rw [size_sets]; exact hb.2⟩), hv2.out, S3.low hlow hQw, k8.low hlow (Nat.le_refl _)⟩
  clear hA hB S3 k3 S2 k2 hpc hbs hx k8
  go_wp2_with fail
  refine bodyPost_ret (v := .agg pc.toArray) ?_ rfl ?_
  · simp [results, Tryz.results86, Act.put, asAddr, hrs]
  · exact HF.out
/-- where the rows of what was held lie -/
def Hd.Bk (h : Hd) (P : Nat → Prop) : Prop := h.rs.Bk P ∧ h.sg.Bk P
theorem Hd.Bk.mono {h : Hd} {P P' : Nat → Prop} (k : h.Bk P) (hp : ∀ b, P b → P' b) : h.Bk P' := ⟨k.1.mono hp, k.2.mono hp⟩
theorem Hd.At.on {w w' : World} {h : Hd} {P : Nat → Prop} (k : h.At w) (hs : w.heap.size ≤ w'.heap.size) (hb : h.Bk P) (hp : ∀ b, P b → b < w.heap.size → w'.heap[b]? = w.heap[b]?) : h.At w' := ⟨Sl.At.on k.1 hs hb.1 hp, Sl.At.on k.2 hs hb.2 hp⟩
set_option maxRecDepth 100000 in
set_option maxHeartbeats 1000000 in
theorem rheldS (Q R : Nat) (s : Rst) (w : World) (h : RS w Q R s) (hl : s.1.length ≤ 40000) : Calls Tryz.prog 122 #[.pointer (some ⟨Q, 0, none⟩)] w fun en w' => ∃ y : Hd, en = .returned (.agg y.cells.toArray) ∧ y.pure = (heS s).1 ∧ y.At w' ∧ y.Bk (fun b => w.heap.size ≤ b ∧ b < w'.heap.size) ∧ y.vt.ok ∧ RS w' Q R (heS s).2 ∧ Kept w R Q w' := by
  obtain ⟨zc, hzl, hzr⟩ : ∃ z : List Value, z.length = 39 ∧ ∀ w : World, (zeroValue 53).run Tryz.prog w = .ok (.agg z.toArray) w := ⟨_, by decide, zeroHdE⟩
  have cb := fun w0 h0 => bgetS Q R s w0 h0 hl
  have hln := baS_len s
  unfold heS
  revert cb hln
  generalize baS s = p_
  obtain ⟨⟨q, rs⟩, t⟩ := p_
  intro cb hln
  simp only at cb hln ⊢
  have cc := fun w0 h0 => rcertS Q R t w0 h0 (Nat.le_trans hln hl)
  revert cc
  generalize ceS t = p_
  obtain ⟨⟨vt, sg⟩, t'⟩ := p_
  intro cc
  simp only at cc ⊢
  clear hln
  obtain ⟨hB1, hr1, hs1⟩ := boxed_new w zc 53
  have ht1 := there_newN w zc.toArray 53 (n := 39) (by simp [hzl])
  have hRw := h.st.1.1
  have hQw := h.mr.lt
  go_enter Tryz.func122, Tryz.ntmps122
  go_upto_region 0 with fail
  try simp only [Act.put]
  refine pl_begin ?_
  refine pl_run (d := some 2) (v := .pointer (some ⟨w.heap.size, 0, none⟩)) (w' := w.alloc (.cells zc.toArray 53)) (by rfl) (ex_alloc rfl (hzr _)) rfl ?_
  simp only [Act.put, List.setIfInBounds_toArray, List.set_cons_zero, List.set_cons_succ]
  refine pl_nil ?_
  obtain ⟨W1, hW1⟩ : ∃ W, w.alloc (.cells zc.toArray 53) = W := ⟨_, rfl⟩
  rw [hW1] at hB1 hr1 hs1 ht1 ⊢
  clear hW1 hr1 hzr hzl
  have S1 := h.below hB1
  go_upto_region 1 with fail
  try simp only [Act.put]
  refine pl_begin ?_
  refine pl_take (d := some 3) (v := ?_) (by rfl) ?_ rfl ?_
  rotate_left
  · go_simp
    try with_reducible rfl
  simp only [Act.put, List.setIfInBounds_toArray, List.set_cons_zero, List.set_cons_succ]
  refine pl_take (d := some 4) (v := ?_) (by rfl) ?_ rfl ?_
  rotate_left
  · go_simp
    try with_reducible rfl
  simp only [Act.put, List.setIfInBounds_toArray, List.set_cons_zero, List.set_cons_succ]
  refine pl_take (d := some 5) (v := ?_) (by rfl) ?_ rfl ?_
  rotate_left
  · go_simp
    try with_reducible rfl
  simp only [Act.put, List.setIfInBounds_toArray, List.set_cons_zero, List.set_cons_succ]
  refine pl_take (d := some 6) (v := .pointer (some ⟨R, 0, none⟩)) (by rfl) (pl_one rfl rfl S1.mr.c0 Tryz.underlying122 rfl) rfl ?_
  simp only [Act.put, List.setIfInBounds_toArray, List.set_cons_zero, List.set_cons_succ]
  refine pl_call (d := some 7) (by rfl) (by go_simp; first | done | exact ⟨rfl, rfl⟩ | with_reducible rfl) rfl ?_
  refine (cb W1 S1).mono ?_
  rintro _ w2 ⟨x, rfl, hx, hA, hB, S2, k2⟩
  refine ⟨_, rfl, ?_⟩
  simp only [Act.put, List.setIfInBounds_toArray, List.set_cons_zero, List.set_cons_succ]
  refine pl_take (d := some 8) (v := ?_) (by rfl) ?_ rfl ?_
  rotate_left
  · go_simp
    try with_reducible rfl
  simp only [Act.put, List.setIfInBounds_toArray, List.set_cons_zero, List.set_cons_succ]
  refine pl_call (d := some 9) (by rfl) (by go_simp; first | done | exact ⟨rfl, rfl⟩ | with_reducible rfl) rfl ?_
  refine (cc w2 S2).mono ?_
  rintro _ w3 ⟨y, rfl, hy, hC, hD, hvt, S3, k3⟩
  refine ⟨_, rfl, ?_⟩
  simp only [Act.put, List.setIfInBounds_toArray, List.set_cons_zero, List.set_cons_succ]
  have k8 : Kept w R Q w3 := (((Kept.refl w R Q).below hB1).trans k2).trans k3
  have thA : w3.there w.heap.size 0 39 := there_blk (there_blk ht1 (k2.block _ hs1 (by omega) (by omega))) (k3.block _ (Nat.lt_of_lt_of_le hs1 k2.size) (by omega) (by omega))
  have hvl : (certL vt y).length = 37 := by have := hvt.len; simp [certL]; omega
  have hbs := fun w0 => build_held q x.val (certL vt y) hvl rfl w0
  have hpl : (Value.bool q :: x.val :: certL vt y).length = 39 := by simp [hvl]
  have hip : (Tryz.prog.info? 53).map (·.size) = some (Value.bool q :: x.val :: certL vt y).length := by rw [hpl]; exact iszH
  have hp1 : ∀ v ∈ Value.bool q :: x.val :: certL vt y, v.oneCell' = true := HdE.one ⟨q, x, vt, y⟩
  have hA3 : x.At RqE w3 := hA.kept k3 (n := W1.heap.size) (by omega) (by omega) hB (fun b hb => hb.1)
  obtain ⟨pc, hpc⟩ : ∃ p, Hid (Value.bool q :: x.val :: certL vt y = p) := ⟨_, hide rfl⟩
  simp only [hpc.out] at hbs hpl hip hp1
  refine pl_take (d := some 10) (v := .agg pc.toArray) (by rfl) (ex_build (parts := [(0, .tmp 7), (1, .tmp 9)]) rfl rfl (hbs _)) rfl ?_
  simp only [Act.put, List.setIfInBounds_toArray, List.set_cons_zero, List.set_cons_succ]
  refine pl_store (w' := w3.setCells w.heap.size 0 pc) (by rfl) (ex_put (cs := pc.toArray) rfl rfl rfl (by simpa [hpl] using thA) (by simpa using hip) (all_one hp1)) rfl ?_
  refine pl_nil ?_
  have hlow : Below w.heap.size w3 (w3.setCells w.heap.size 0 pc) := below_sets (Nat.le_refl _) pc 0 _ (Below.refl _ w3)
  have hrs := run_loadVar_mid (P := Tryz.prog) (w3.setCells w.heap.size 0 pc) w.heap.size 0 53 pc _ (World.rangeAt_setCells_same w3 w.heap.size 0 pc (by rw [hpl]; exact thA)) Tryz.underlying53 rfl hip
  have HF : Hid (∃ g : Hd, Ending.returned (.agg pc.toArray) = .returned (.agg g.cells.toArray) ∧ g.pure = ⟨q, rs, vt, sg⟩ ∧ g.At (w3.setCells w.heap.size 0 pc) ∧ g.Bk (fun b => w.heap.size ≤ b ∧ b < (w3.setCells w.heap.size 0 pc).heap.size) ∧ g.vt.ok ∧ RS (w3.setCells w.heap.size 0 pc) Q R t' ∧ Kept w R Q (w3.setCells w.heap.size 0 pc)) := by
    have z2 := k2.size
    have z3 := k3.size
    have hBk : Hd.Bk ⟨q, x, vt, y⟩ (fun b => W1.heap.size ≤ b ∧ b < w3.heap.size) := ⟨hB.mono (fun b hb => ⟨hb.1, by omega⟩), hD.mono (fun b hb => ⟨by omega, hb.2⟩)⟩
    refine hide ⟨⟨q, x, vt, y⟩, by rw [← hpc.out]; rfl, by rw [← hx, ← hy]; rfl, Hd.At.on ⟨hA3, hC⟩ (by rw [size_sets]; exact Nat.le_refl _) hBk (fun b hb hlt => blk_sets (by omega)), hBk.mono (fun b hb => ⟨by omega, by rw [size_sets]; exact hb.2⟩), hvt, S3.low hlow hQw, k8.low hlow (Nat.le_refl _)⟩
  clear hA hB S3 k3 S2 k2 hpc hbs hx k8 hA3 hC hD hy
  go_wp2_with fail
  refine bodyPost_ret (v := .agg pc.toArray) ?_ rfl ?_
  · simp [results, Tryz.results122, Act.put, asAddr, hrs]
  · exact HF.out
end Go.Proofs.YtgjalkbianpibaaGreat
namespace Go.Proofs.YtgjalkbianpibaaGreat
open Go.RowKit
open Sha Tal
set_option linter.unusedVariables false
set_option linter.unusedSimpArgs false
theorem numRS (Q R : Nat) (most : Int) (s : Rst) (w : World) (h : RS w Q R s) : Calls Tryz.prog 79 #[.pointer (some ⟨R, 0, none⟩), .int .i64 most] w fun en w' => en = .returned (.int .i64 (nuS most s).1) ∧ RS w' Q R (nuS most s).2 ∧ Kept w R Q w' :=
  (num_any R s.1 s.2.1 most w h.st).mono (by rintro _ w1 ⟨rfl, h1, h2⟩; exact ⟨rfl, h.gb h2 h1, Kept.of h2⟩)
/-- a kind, a digest, a text -/
def kiS (most : Int) (s : Rst) : Int × Rst := ((numS s.1 s.2.1 most).1, (numS s.1 s.2.1 most).2.1, (numS s.1 s.2.1 most).2.2, kdZ s.1 s.2.1 most s.2.2)
def dgS (s : Rst) : List Int × Rst := (padN 32 (rawS s.1 s.2.1 32).1, (rawS s.1 s.2.1 32).2.1, (rawS s.1 s.2.1 32).2.2, s.2.2)
def txS (most : Int) (s : Rst) : ByteArray × Rst := (strOf (textS s.1 s.2.1 most).1, (textS s.1 s.2.1 most).2.1, (textS s.1 s.2.1 most).2.2, s.2.2)
theorem kiS_len (most : Int) (s : Rst) : (kiS most s).2.1.length ≤ s.1.length := numS_len _ _ _
theorem dgS_len (s : Rst) : (dgS s).2.1.length ≤ s.1.length := rawS_len _ _ _
theorem txS_len (most : Int) (s : Rst) : (txS most s).2.1.length ≤ s.1.length := textS_len _ _ _
theorem dgS_ok (s : Rst) (hb : s.2.1 = 0 → Bs s.1) : (dgS s).1.length = 32 ∧ ∀ z ∈ (dgS s).1, 0 ≤ z ∧ z < 256 := ⟨padN_len _ _, padN_bs (rawS_t hb)⟩
theorem kindRS (Q R : Nat) (most : Int) (s : Rst) (w : World) (h : RS w Q R s) : Calls Tryz.prog 78 #[.pointer (some ⟨Q, 0, none⟩), .int .i64 most] w fun en w' => en = .returned (.int .i64 (kiS most s).1) ∧ RS w' Q R (kiS most s).2 ∧ Kept w R Q w' :=
  (rkind_any Q R s.2.2 s.1 s.2.1 most w h.st h.mr h.qt).mono (by rintro _ w1 ⟨rfl, h1, h2, h3, h4⟩; exact ⟨rfl, ⟨h1, h2, h4⟩, h3⟩)
theorem digRS (Q R : Nat) (s : Rst) (w : World) (h : RS w Q R s) (hl : s.1.length ≤ 40000) : Calls Tryz.prog 85 #[.pointer (some ⟨Q, 0, none⟩)] w fun en w' => en = .returned (.agg (v8 (dgS s).1).toArray) ∧ RS w' Q R (dgS s).2 ∧ Kept w R Q w' :=
  (rdigest_any Q R s.2.2 s.1 s.2.1 w h.st h.mr hl).mono (by rintro _ w1 ⟨rfl, h1, h2⟩; exact ⟨rfl, h.gb h2 h1, Kept.of h2⟩)
theorem textRS (Q R : Nat) (most : Int) (s : Rst) (w : World) (h : RS w Q R s) : Calls Tryz.prog 87 #[.pointer (some ⟨R, 0, none⟩), .int .i64 most] w fun en w' => en = .returned (.string (txS most s).1) ∧ RS w' Q R (txS most s).2 ∧ Kept w R Q w' :=
  (text_any R s.1 s.2.1 most w h.st h.st.pos).mono (by rintro _ w1 ⟨rfl, h1, h2⟩; exact ⟨rfl, h.gb h2 h1, Kept.of h2⟩)
/-- k held ones were read into a row of one's own -/
structure LH (w : World) (Q R : Nat) (t : Rst) (k : Nat) (v : Value) (W : World) : Prop where
  ex : ∃ ys : List Hd, ys.map Hd.pure = (itG heS t k).1 ∧ W.ownsRow w.heap.size 53 39 v k (ys.flatMap Hd.cells) ∧ ∀ y ∈ ys, y.vt.ok ∧ y.At W ∧ y.Bk (fun b => w.heap.size ≤ b ∧ b < W.heap.size ∧ v.ownBlock ≠ some b)
  rs : RS W Q R (itG heS t k).2
  kept : Kept w R Q W
def infoHd0 : List Value := [Value.bool false, .slice none 0 0] ++ (Vt.zero.cells ++ [Value.slice none 0 0])
theorem infoHd : (Tryz.prog.info? 53).map (fun i => (i.zero, i.size, i.bytes)) = some (some (.agg infoHd0.toArray), 39, 120) := by kernel_rfl
theorem zk_held : (Value.agg infoHd0.toArray).cells.size = 39 := by decide
theorem LH.step {w wr w4 w5 w6 : World} {Q R k : Nat} {t : Rst} {v v6 : Value} {y : Hd} (hQ : Q < w.heap.size) (hR : R < w.heap.size) (H : LH w Q R t k v wr) (e1 : y.pure = (heS (itG heS t k).2).1) (hy : y.At w4) (hB : y.Bk (fun b => wr.heap.size ≤ b ∧ b < w4.heap.size)) (hvt : y.vt.ok) (S4 : RS w4 Q R (heS (itG heS t k).2).2) (k4 : Kept wr R Q w4)
    (hb5 : Below w4.heap.size w4 w5) (g6 : w5.grownBy w6 v.ownBlock) (gb : ∀ g, v6.ownBlock = some g → v.ownBlock = some g ∨ w5.heap.size ≤ g) {ys : List Hd} (e2 : ys.map Hd.pure = (itG heS t k).1) (o3 : wr.ownsRow w.heap.size 53 39 v k (ys.flatMap Hd.cells)) (hys : ∀ y ∈ ys, y.vt.ok ∧ y.At wr ∧ y.Bk (fun b => w.heap.size ≤ b ∧ b < wr.heap.size ∧ v.ownBlock ≠ some b)) (o6 : w6.ownsRow w.heap.size 53 39 v6 (k + 1) (ys.flatMap Hd.cells ++ y.cells)) : LH w Q R t (k + 1) v6 w6 := by
  have z4 := k4.size
  have z5 := hb5.size
  have z6 := g6.size
  have zk := H.kept.size
  have bl : ∀ b, b < w4.heap.size → v.ownBlock ≠ some b → w6.heap[b]? = w4.heap[b]? := fun b h1 h2 => (g6.block b (by omega) (fun q => h2 q.symm)).trans (hb5.block b h1)
  have low : Below w.heap.size w4 w6 := own_low (B := w.heap.size) (hb5.mono (by omega)) (by omega) ((own_kept o3 k4 (by omega) (by omega)).kept (row := none) ⟨hb5.os, hb5.tape, hb5.output, hb5.size, fun b h1 _ => hb5.block b h1⟩ (by cases v.ownBlock <;> simp)) g6
  refine ⟨⟨ys ++ [y], ?_, ?_, ?_⟩, S4.low low hQ, (H.kept.trans k4).low low (Nat.le_refl _)⟩
  · rw [List.map_append, e2]
    show _ = (itG heS t k).1 ++ [(heS (itG heS t k).2).1]
    rw [← e1]
    rfl
  · rw [List.flatMap_append]
    simpa using o6
  · intro u hu
    rcases List.mem_append.1 hu with g | g
    · obtain ⟨u1, u2, u3⟩ := hys u g
      refine ⟨u1, u2.on (by omega) u3 (fun b hb hlt => (bl b (by omega) hb.2.2).trans (k4.block b hlt (by omega) (by omega))), u3.mono (fun b hb => ⟨hb.1, by omega, fun q => ?_⟩)⟩
      rcases gb b q with g1 | g1
      · exact hb.2.2 g1
      · omega
    · rw [List.mem_singleton.1 g]
      have nb : ∀ b, wr.heap.size ≤ b → v.ownBlock ≠ some b := fun b hb q => by have := (o3.lt b q).2; omega
      refine ⟨hvt, hy.on (by omega) hB (fun b hb hlt => bl b hlt (nb b hb.1)), hB.mono (fun b hb => ⟨by omega, by omega, fun q => ?_⟩)⟩
      rcases gb b q with g1 | g1
      · exact nb b hb.1 g1
      · omega
set_option maxRecDepth 100000 in
set_option maxHeartbeats 1000000 in
theorem rlistH_any (Q R : Nat) (s : Rst) (w : World) (h : RS w Q R s) (hl : s.1.length ≤ 40000) : Calls Tryz.prog 121 #[.func (.func 79) #[.pointer (some ⟨R, 0, none⟩)] #[], .int .i64 4, .func (.func 122) #[.pointer (some ⟨Q, 0, none⟩)] #[]] w fun en w' => ∃ x : Sl Hd, en = .returned x.val ∧ x.xs.map Hd.pure = (lsS 4 heS s).1 ∧ HdsAt w' x ∧ x.Bk (fun b => w.heap.size ≤ b ∧ b < w'.heap.size) ∧ (∀ y ∈ x.xs, y.Bk (fun b => w.heap.size ≤ b ∧ b < w'.heap.size)) ∧ RS w' Q R (lsS 4 heS s).2 ∧ Kept w R Q w' := by
  obtain ⟨i1, hi1, hiz, his, hib⟩ := info_parts infoHd
  have hzk := zk_held
  have hRw := h.st.1.1
  have hQw := h.mr.lt
  have cn := fun w0 h0 => numRS Q R 4 s w0 h0
  have hx1 : 0 ≤ (nuS 4 s).1 ∧ (nuS 4 s).1 ≤ 4 := numS_bd (most := 4) h.st.bs (by omega)
  have hx2 := nuS_len 4 s
  unfold lsS
  generalize nuS 4 s = p_ at hx1 hx2 cn ⊢
  obtain ⟨n, t⟩ := p_
  simp only at hx1 hx2 cn ⊢
  obtain ⟨N, rfl⟩ : ∃ N : Nat, n = (N : Int) := ⟨n.toNat, by omega⟩
  have hN : N ≤ 4 := by omega
  rw [Int.toNat_natCast]
  have hlt2 : t.1.length ≤ 40000 := Nat.le_trans hx2 hl
  clear hx1 hx2 hl
  go_enter Tryz.func121, Tryz.ntmps121
  go_upto_region 1 with fail
  try simp only [Act.put]
  refine pl_begin ?_
  refine pl_take (d := some 9) (v := ?_) (by rfl) ?_ rfl ?_
  rotate_left
  · go_simp
    try with_reducible rfl
  simp only [Act.put, List.setIfInBounds_toArray, List.set_cons_zero, List.set_cons_succ]
  refine pl_take (d := some 10) (v := ?_) (by rfl) ?_ rfl ?_
  rotate_left
  · go_simp
    try with_reducible rfl
  simp only [Act.put, List.setIfInBounds_toArray, List.set_cons_zero, List.set_cons_succ]
  refine pl_call (d := some 11) (by rfl) (by go_simp; first | done | exact ⟨rfl, rfl⟩ | with_reducible rfl) rfl ?_
  refine (cn w h).mono ?_
  rintro _ w2 ⟨rfl, S2, k2⟩
  refine ⟨_, rfl, ?_⟩
  simp only [Act.put, List.setIfInBounds_toArray, List.set_cons_zero, List.set_cons_succ]
  refine pl_take (d := some 7) (v := ?_) (by rfl) ?_ rfl ?_
  rotate_left
  · go_simp
    try with_reducible rfl
  simp only [Act.put, List.setIfInBounds_toArray, List.set_cons_zero, List.set_cons_succ]
  refine pl_nil ?_
  clear cn
  go_upto_region 2 with fail
  try simp only [Act.put]
  refine pl_begin ?_
  refine pl_take (d := some 12) (v := ?_) (by rfl) ?_ rfl ?_
  rotate_left
  · go_simp
    try with_reducible rfl
  simp only [Act.put, List.setIfInBounds_toArray, List.set_cons_zero, List.set_cons_succ]
  refine pl_runX (d := some 13) (by rfl) rfl (ex_mk (B := w.heap.size) (c := (N : Int)) rfl rfl (by omega) (by omega) Tryz.underlying29 hi1 hiz his (by rw [hib]; decide) k2.size) ?_
  rintro v3 w3 ⟨o3, g3⟩
  simp only [Act.put, List.setIfInBounds_toArray, List.set_cons_zero, List.set_cons_succ]
  refine pl_take (d := some 8) (v := ?_) (by rfl) ?_ rfl ?_
  rotate_left
  · go_simp
    try with_reducible rfl
  simp only [Act.put, List.setIfInBounds_toArray, List.set_cons_zero, List.set_cons_succ]
  refine pl_nil ?_
  have hb3 : Below w2.heap.size w2 w3 := (Below.refl _ _).grown g3 (Nat.le_refl _) (fun k hk => by cases hk)
  have HL0 : Hid (LH w Q R t 0 v3 w3) := hide ⟨⟨[], rfl, o3, fun y hy => by cases hy⟩, S2.below hb3, k2.below hb3⟩
  clear o3 g3 hb3 S2 k2 h
  go_wp2_with fail
  go_loopw [8, 15] (fun ov iv wr => ∃ k : Nat, k ≤ N ∧ iv = .int .i64 (k : Int) ∧ Hid (LH w Q R t k ov wr)) (fun _ iv _ => N - (intOf iv).toNat)
  case atStart => exact ⟨0, by omega, rfl, HL0⟩
  case round =>
    clear HL0
    obtain ⟨k, hk, rfl, HL⟩ := hrel
    by_cases hlt : k < N
    · have k1 : (k : Int) < N := by omega
      have HL := HL.out
      have hle := Nat.le_trans (itG_len heS_len t k) hlt2
      have cE := rheldS Q R (itG heS t k).2 wr HL.rs hle
      go_upto_region 5 with fail
      try simp only [Act.put]
      refine pl_begin ?_
      refine pl_take (d := some 17) (v := ?_) (by rfl) ?_ rfl ?_
      rotate_left
      · go_simp
        try with_reducible rfl
      simp only [Act.put, List.setIfInBounds_toArray, List.set_cons_zero, List.set_cons_succ]
      refine pl_take (d := some 18) (v := ?_) (by rfl) ?_ rfl ?_
      rotate_left
      · go_simp
        try with_reducible rfl
      simp only [Act.put, List.setIfInBounds_toArray, List.set_cons_zero, List.set_cons_succ]
      refine pl_call (d := some 19) (by rfl) (by go_simp; first | done | exact ⟨rfl, rfl⟩ | with_reducible rfl) rfl ?_
      refine (cE).mono ?_
      rintro _ w4 ⟨y, rfl, e4, a4, B4, vt4, S4, k4⟩
      refine ⟨_, rfl, ?_⟩
      simp only [Act.put, List.setIfInBounds_toArray, List.set_cons_zero, List.set_cons_succ]
      obtain ⟨ys, e2, o3, hys⟩ := HL.ex
      have o4 := own_kept o3 k4 (by omega) (by omega)
      have hul : y.cells.length = 39 := HdE.len y vt4
      have hone := HdE.one y
      have hone : ∀ v ∈ y.cells, v.oneCell' = true := hone
      obtain ⟨u, hu⟩ : ∃ u, Hid (y.cells = u) := ⟨_, hide rfl⟩
      rw [hu.out] at hul hone ⊢
      have hb5 : Below w4.heap.size w4 (w4.alloc (.cells u.toArray 53)) := (Below.refl _ _).alloc (Nat.le_refl _) _
      have r5 : (w4.alloc (.cells u.toArray 53)).rangeAt w4.heap.size 0 u := by simpa using range_new w4 u.toArray 53
      have o5 := o4.alloc (.cells u.toArray 53)
      refine pl_run (d := some 20) (v := .slice (some ⟨w4.heap.size, 0, none⟩) 1 1) (w' := w4.alloc (.cells u.toArray 53)) (by rfl) (exec_bs1 rfl rfl (run_bs1 29 53 i1 _ u Tryz.underlying29 hi1 hiz (by rw [his, hul]) (by omega) (by omega) _)) rfl ?_
      simp only [Act.put, List.setIfInBounds_toArray, List.set_cons_zero, List.set_cons_succ]
      have s4 : w.heap.size ≤ w4.heap.size := Nat.le_trans HL.kept.size k4.size
      obtain ⟨w5, hw5⟩ : ∃ W, w4.alloc (.cells u.toArray 53) = W := ⟨_, rfl⟩
      rw [hw5] at hb5 r5 o5 ⊢
      clear hw5
      refine pl_runX (d := some 21) (by rfl) rfl (ex_app1 rfl rfl rfl Tryz.underlying29 hi1 hiz his (by rw [hib]; decide) rfl o5 (Nat.le_trans s4 hb5.size) r5 hul hone (by omega) hzk) ?_
      rintro v6 w6 ⟨o6, g6, gb6⟩
      simp only [Act.put, List.setIfInBounds_toArray, List.set_cons_zero, List.set_cons_succ]
      refine pl_take (d := some 8) (v := ?_) (by rfl) ?_ rfl ?_
      rotate_left
      · go_simp
        try with_reducible rfl
      simp only [Act.put, List.setIfInBounds_toArray, List.set_cons_zero, List.set_cons_succ]
      refine pl_nil ?_
      have HL6 : Hid (LH w Q R t (k + 1) v6 w6) := hide (HL.step hQw hRw e4 a4 B4 vt4 S4 k4 hb5 g6 gb6 e2 o3 hys (by rw [hu.out]; exact o6))
      clear HL o3 o4 o5 o6 g6 S4 k4 hb5 r5 cE a4 B4 vt4 e4 e2 hys hu
      go_wp2_with fail
      go_roundw
      case rel => exact ⟨k + 1, by omega, by go_num, HL6⟩
      case measure => simp [intOf]; omega
    · obtain rfl : k = N := by omega
      have HL := HL.out
      obtain ⟨ys, e2, o3, hys⟩ := HL.ex
      have hlen : ys.length = k := by
        have := congrArg List.length e2
        rwa [List.length_map, itG_length] at this
      obtain ⟨x, rfl, hx, hA, hB⟩ := own_rows (E := HdE) (ys := ys) (by rw [hlen]; exact o3) (fun y hy => (hys y hy).1) (by rw [hlen]; unfold maxLen; omega)
      have HF : Hid (∃ g : Sl Hd, Ending.returned x.val = .returned g.val ∧ g.xs.map Hd.pure = (itG heS t k).1 ∧ HdsAt wr g ∧ g.Bk (fun b => w.heap.size ≤ b ∧ b < wr.heap.size) ∧ (∀ y ∈ g.xs, y.Bk (fun b => w.heap.size ≤ b ∧ b < wr.heap.size)) ∧ RS wr Q R (itG heS t k).2 ∧ Kept w R Q wr) := hide ⟨x, rfl, by rw [hx]; exact e2, ⟨hA, fun y hy => by rw [hx] at hy; exact (hys y hy).2.1⟩, fun b _ hb => ⟨(hB b hb).1, (hB b hb).2.1⟩, fun y hy => by rw [hx] at hy; exact (hys y hy).2.2.mono (fun b hb => ⟨hb.1, hb.2.1⟩), HL.rs, HL.kept⟩
      clear HL hA hB hx e2 o3 hys
      go_wp2_with fail
      go_ret
      exact HF.out
end Go.Proofs.YtgjalkbianpibaaGreat
namespace Go.Proofs.YtgjalkbianpibaaGreat
open Go.RowKit
open Sha Tal
set_option linter.unusedVariables false
set_option linter.unusedSimpArgs false
/-- what is read lies in the block B, cell by cell; the answer will lie in the block A -/
structure MV (w : World) (Q R A B n : Nat) (q : List Value) (s : Rst) (W : World) : Prop where
  row : W.rangeAt B 0 q
  box : W.there B 0 n
  ans : W.there A 0 n
  kept : Kept w R Q W
  rs : RS W Q R s
  la : A < W.heap.size
  lb : B < W.heap.size
  na : w.heap.size ≤ A
  nb : w.heap.size ≤ B
  ne : A ≠ B
  rq : R < w.heap.size ∧ Q < w.heap.size
theorem MV.on {w W W' : World} {Q R A B n : Nat} {q : List Value} {s s' : Rst} (h : MV w Q R A B n q s W) (k : Kept W R Q W') (S : RS W' Q R s') : MV w Q R A B n q s' W' := by
  have h1 := h.na
  have h2 := h.nb
  have h3 := h.rq
  exact ⟨range_blk h.row (k.blk h.lb (by omega) (by omega)), there_blk h.box (k.blk h.lb (by omega) (by omega)), there_blk h.ans (k.blk h.la (by omega) (by omega)), h.kept.trans k, S, Nat.lt_of_lt_of_le h.la k.size, Nat.lt_of_lt_of_le h.lb k.size, h1, h2, h.ne, h3⟩
theorem MV.set {w W : World} {Q R A B n : Nat} {q q' : List Value} {s : Rst} (h : MV w Q R A B n q s W) (o : Nat) (vs : List Value) (hq : (W.setCells B o vs).rangeAt B 0 q') : MV w Q R A B n q' s (W.setCells B o vs) := by
  have h1 := h.na
  have h2 := h.nb
  have h3 := h.rq
  exact ⟨hq, World.there_setCells h.box _ _ _, World.there_setCells h.ans _ _ _, h.kept.newSets h2 _ _, h.rs.low (below_sets h2 vs o _ (Below.refl _ W)) h3.2, by rw [size_sets]; exact h.la, by rw [size_sets]; exact h.lb, h1, h2, h.ne, h3⟩
theorem MV.drew {w W : World} {Q R A B n : Nat} {q : List Value} {s : Rst} (h : MV w Q R A B n q s W) : MV w Q R A B n q s W.drew :=
  ⟨(World.rangeAt_drew _ _ _ _).2 h.row, h.box, h.ans, h.kept.below ((Below.refl _ _).drew), h.rs.below ((Below.refl _ _).drew), h.la, h.lb, h.na, h.nb, h.ne, h.rq⟩
theorem MV.below {w W W' : World} {Q R A B n : Nat} {q : List Value} {s : Rst} (h : MV w Q R A B n q s W) (hb : Below W.heap.size W W') : MV w Q R A B n q s W' :=
  h.on ((Kept.refl W R Q).below hb) (h.rs.below hb)
theorem MV.part {w W : World} {Q R A B n : Nat} {q : List Value} {s : Rst} (h : MV w Q R A B n q s W) (o m : Nat) (hm : o + m ≤ n) : W.there B o m := there_part1 h.box hm
/-- a row that lies elsewhere stays where something is put into the box -/
theorem Sl.At.put {α : Type} {E : El α} {W : World} {x : Sl α} {P : Nat → Prop} {B o : Nat} {vs : List Value} (h : x.At E W) (hb : x.Bk P) (hp : ∀ b, P b → b ≠ B) : x.At E (W.setCells B o vs) :=
  h.on (by rw [size_sets]; exact Nat.le_refl _) hb (fun b hP _ => blk_sets (hp b hP))
theorem HdsAt.put {W : World} {x : Sl Hd} {P : Nat → Prop} {B o : Nat} {vs : List Value} (h : HdsAt W x) (hb : x.Bk P) (hb2 : ∀ y ∈ x.xs, y.Bk P) (hp : ∀ b, P b → b ≠ B) : HdsAt (W.setCells B o vs) x :=
  ⟨Sl.At.put h.1 hb hp, fun y hy => (h.2 y hy).on (by rw [size_sets]; exact Nat.le_refl _) (hb2 y hy) (fun b hP _ => blk_sets (hp b hP))⟩
theorem HdsAt.kept {w w' : World} {R Q n : Nat} {x : Sl Hd} {P : Nat → Prop} (h : HdsAt w x) (k : Kept w R Q w') (hR : R < n) (hQ : Q < n) (hb : x.Bk P) (hb2 : ∀ y ∈ x.xs, y.Bk P) (hp : ∀ b, P b → n ≤ b) : HdsAt w' x :=
  ⟨Sl.At.kept h.1 k hR hQ hb hp, fun y hy => ⟨Sl.At.kept (h.2 y hy).1 k hR hQ (hb2 y hy).1 hp, Sl.At.kept (h.2 y hy).2 k hR hQ (hb2 y hy).2 hp⟩⟩
/-- a change, without its places -/
structure Cp where
  e : Int
  l : Int
  v : Int
  he : List Hp
def chS (s : Rst) : Cp × Rst :=
  (⟨(nuS 1048576 s).1, (nuS 64 (nuS 1048576 s).2).1, (nuS 1099511627776 (nuS 64 (nuS 1048576 s).2).2).1, (lsS 4 heS (nuS 1099511627776 (nuS 64 (nuS 1048576 s).2).2).2).1⟩, (lsS 4 heS (nuS 1099511627776 (nuS 64 (nuS 1048576 s).2).2).2).2)
theorem chS_len (s : Rst) : (chS s).2.1.length ≤ s.1.length := Nat.le_trans (lsS_len heS_len _ _) (Nat.le_trans (nuS_len _ _) (Nat.le_trans (nuS_len _ _) (nuS_len _ _)))
theorem zeroChE (w : World) : (zeroValue 31).run Tryz.prog w = .ok (.agg ([.int .i64 0, .int .i64 0, .int .i64 0, .slice none 0 0] : List Value).toArray) w := by kernel_rfl
theorem iszHds : (Tryz.prog.info? 29).map (·.size) = some 1 := by kernel_rfl
theorem ch_put {W : World} {B : Nat} {a b c d : Value} (h : W.rangeAt B 0 [a, b, c, d]) (x : Value) :
    (W.setCells B 0 [x]).rangeAt B 0 [x, b, c, d] ∧ (W.setCells B 1 [x]).rangeAt B 0 [a, x, c, d] ∧ (W.setCells B 2 [x]).rangeAt B 0 [a, b, x, d] ∧ (W.setCells B 3 [x]).rangeAt B 0 [a, b, c, x] :=
  ⟨range_set h 0 x, range_set h 1 x, range_set h 2 x, range_set h 3 x⟩
set_option maxRecDepth 100000 in
set_option maxHeartbeats 1000000 in
theorem rchangeS (Q R : Nat) (s : Rst) (w : World) (h : RS w Q R s) (hl : s.1.length ≤ 40000) : Calls Tryz.prog 82 #[.pointer (some ⟨Q, 0, none⟩)] w fun en w' => ∃ x : Sl Hd, en = .returned (.agg ([.int .i64 (chS s).1.e, .int .i64 (chS s).1.l, .int .i64 (chS s).1.v, x.val] : List Value).toArray) ∧ x.xs.map Hd.pure = (chS s).1.he ∧ HdsAt w' x ∧ x.Bk (fun b => w.heap.size ≤ b ∧ b < w'.heap.size) ∧ (∀ y ∈ x.xs, y.Bk (fun b => w.heap.size ≤ b ∧ b < w'.heap.size)) ∧ RS w' Q R (chS s).2 ∧ Kept w R Q w' := by
  obtain ⟨zc, hzl, hzr, hzc⟩ : ∃ z : List Value, z.length = 4 ∧ (∀ w : World, (zeroValue 31).run Tryz.prog w = .ok (.agg z.toArray) w) ∧ Hid (z = [.int .i64 0, .int .i64 0, .int .i64 0, .slice none 0 0]) := ⟨_, rfl, zeroChE, hide rfl⟩
  have hRw := h.st.1.1
  have hQw := h.mr.lt
  unfold chS
  have c1 := fun w0 h0 => numRS Q R 1048576 s w0 h0
  have l1 := nuS_len 1048576 s
  generalize nuS 1048576 s = p_ at c1 l1 ⊢
  obtain ⟨v1, s1⟩ := p_
  simp only at c1 l1 ⊢
  have c2 := fun w0 h0 => numRS Q R 64 s1 w0 h0
  have l2 := nuS_len 64 s1
  generalize nuS 64 s1 = p_ at c2 l2 ⊢
  obtain ⟨v2, s2⟩ := p_
  simp only at c2 l2 ⊢
  have c3 := fun w0 h0 => numRS Q R 1099511627776 s2 w0 h0
  have l3 := nuS_len 1099511627776 s2
  generalize nuS 1099511627776 s2 = p_ at c3 l3 ⊢
  obtain ⟨v3, s3⟩ := p_
  simp only at c3 l3 ⊢
  have c4 := fun w0 h0 => rlistH_any Q R s3 w0 h0 (by omega)
  generalize lsS 4 heS s3 = p_ at c4 ⊢
  obtain ⟨ls, s4⟩ := p_
  simp only at c4 ⊢
  obtain ⟨hB1, hr1, hs1⟩ := boxed_new w zc 31
  have ht1 := there_newN w zc.toArray 31 (n := 4) (by simp [hzl])
  go_enter Tryz.func82, Tryz.ntmps82
  go_upto_region 0 with fail
  try simp only [Act.put]
  refine pl_begin ?_
  refine pl_run (d := some 2) (v := .pointer (some ⟨w.heap.size, 0, none⟩)) (w' := w.alloc (.cells zc.toArray 31)) (by rfl) (ex_alloc rfl (hzr _)) rfl ?_
  simp only [Act.put, List.setIfInBounds_toArray, List.set_cons_zero, List.set_cons_succ]
  refine pl_nil ?_
  obtain ⟨W1, hW1⟩ : ∃ W, w.alloc (.cells zc.toArray 31) = W := ⟨_, rfl⟩
  rw [hW1] at hB1 hr1 hs1 ht1 ⊢
  clear hW1 hr1
  obtain ⟨hB2, hr2, hs2⟩ := boxed_new W1 zc 31
  have ht2 := there_newN W1 zc.toArray 31 (n := 4) (by simp [hzl])
  go_upto_region 1 with fail
  try simp only [Act.put]
  refine pl_begin ?_
  refine pl_run (d := some 3) (v := .pointer (some ⟨W1.heap.size, 0, none⟩)) (w' := W1.alloc (.cells zc.toArray 31)) (by rfl) (ex_alloc rfl (hzr _)) rfl ?_
  simp only [Act.put, List.setIfInBounds_toArray, List.set_cons_zero, List.set_cons_succ]
  refine pl_nil ?_
  obtain ⟨W2, hW2⟩ : ∃ W, W1.alloc (.cells zc.toArray 31) = W := ⟨_, rfl⟩
  rw [hW2] at hB2 hr2 hs2 ht2 ⊢
  clear hW2
  rw [hzc.out] at hr2
  have hBW := hB1.trans (hB2.mono hB1.size)
  have V0 : MV w Q R w.heap.size W1.heap.size 4 _ s W2 := ⟨hr2, ht2, there_belowN ht1 hB2 hs1, (Kept.refl w R Q).below hBW, h.below hBW, Nat.lt_of_lt_of_le hs1 hB2.size, hs2, Nat.le_refl _, hB1.size, by omega, hRw, hQw⟩
  clear hr2 ht2 ht1 hzr hzc hzl hB1 hB2 hBW hs2 h
  go_upto_region 2 with fail
  have V8 := V0.drew
  refine hs_begin (S := (fun W' => W'.cell? ⟨Q, 0, none⟩ = some (.pointer (some ⟨R, 0, none⟩)))) 21 rfl (by kernel_rfl) ?_
  obtain ⟨w8, hw8⟩ : ∃ W, W2.drew = W := ⟨_, rfl⟩
  rw [hw8] at V8 ⊢
  clear hw8 V0
  have hS : (fun W' => W'.cell? ⟨Q, 0, none⟩ = some (.pointer (some ⟨R, 0, none⟩))) w8 := V8.rs.mr.c0
  refine hs_take (i := 0) (d := some 4) (v := ?_) rfl (by kernel_rfl) (by kernel_rfl) (by kernel_rfl) (by rfl) ?_ hS rfl ?_
  rotate_left
  · intro w' hw
    go_simp
    try with_reducible rfl
  simp only [Act.put, List.setIfInBounds_toArray, List.set_cons_zero, List.set_cons_succ]
  refine hs_take (i := 1) (d := some 5) (v := ?_) rfl (by kernel_rfl) (by kernel_rfl) (by kernel_rfl) (by rfl) ?_ hS rfl ?_
  rotate_left
  · intro w' hw
    go_simp
    try with_reducible rfl
  simp only [Act.put, List.setIfInBounds_toArray, List.set_cons_zero, List.set_cons_succ]
  refine hs_take (i := 2) (d := some 6) (v := ?_) rfl (by kernel_rfl) (by kernel_rfl) (by kernel_rfl) (by rfl) ?_ hS rfl ?_
  rotate_left
  · intro w' hw
    go_simp
    try with_reducible rfl
  simp only [Act.put, List.setIfInBounds_toArray, List.set_cons_zero, List.set_cons_succ]
  refine hs_take (i := 3) (d := some 7) (v := .pointer (some ⟨R, 0, none⟩)) rfl (by kernel_rfl) (by kernel_rfl) (by kernel_rfl) (by rfl) (fun w' hw => pl_one rfl rfl hw Tryz.underlying122 rfl) hS rfl ?_
  simp only [Act.put, List.setIfInBounds_toArray, List.set_cons_zero, List.set_cons_succ]
  refine hs_take (i := 5) (d := some 9) (v := ?_) rfl (by kernel_rfl) (by kernel_rfl) (by kernel_rfl) (by rfl) ?_ hS rfl ?_
  rotate_left
  · intro w' hw
    go_simp
    try with_reducible rfl
  simp only [Act.put, List.setIfInBounds_toArray, List.set_cons_zero, List.set_cons_succ]
  refine hs_take (i := 6) (d := some 10) (v := ?_) rfl (by kernel_rfl) (by kernel_rfl) (by kernel_rfl) (by rfl) ?_ hS rfl ?_
  rotate_left
  · intro w' hw
    go_simp
    try with_reducible rfl
  simp only [Act.put, List.setIfInBounds_toArray, List.set_cons_zero, List.set_cons_succ]
  refine hs_take (i := 7) (d := some 11) (v := ?_) rfl (by kernel_rfl) (by kernel_rfl) (by kernel_rfl) (by rfl) ?_ hS rfl ?_
  rotate_left
  · intro w' hw
    go_simp
    try with_reducible rfl
  simp only [Act.put, List.setIfInBounds_toArray, List.set_cons_zero, List.set_cons_succ]
  refine hs_take (i := 8) (d := some 12) (v := .pointer (some ⟨R, 0, none⟩)) rfl (by kernel_rfl) (by kernel_rfl) (by kernel_rfl) (by rfl) (fun w' hw => pl_one rfl rfl hw Tryz.underlying122 rfl) hS rfl ?_
  simp only [Act.put, List.setIfInBounds_toArray, List.set_cons_zero, List.set_cons_succ]
  refine hs_take (i := 10) (d := some 14) (v := ?_) rfl (by kernel_rfl) (by kernel_rfl) (by kernel_rfl) (by rfl) ?_ hS rfl ?_
  rotate_left
  · intro w' hw
    go_simp
    try with_reducible rfl
  simp only [Act.put, List.setIfInBounds_toArray, List.set_cons_zero, List.set_cons_succ]
  refine hs_take (i := 11) (d := some 15) (v := ?_) rfl (by kernel_rfl) (by kernel_rfl) (by kernel_rfl) (by rfl) ?_ hS rfl ?_
  rotate_left
  · intro w' hw
    go_simp
    try with_reducible rfl
  simp only [Act.put, List.setIfInBounds_toArray, List.set_cons_zero, List.set_cons_succ]
  refine hs_take (i := 12) (d := some 16) (v := ?_) rfl (by kernel_rfl) (by kernel_rfl) (by kernel_rfl) (by rfl) ?_ hS rfl ?_
  rotate_left
  · intro w' hw
    go_simp
    try with_reducible rfl
  simp only [Act.put, List.setIfInBounds_toArray, List.set_cons_zero, List.set_cons_succ]
  refine hs_take (i := 13) (d := some 17) (v := .pointer (some ⟨R, 0, none⟩)) rfl (by kernel_rfl) (by kernel_rfl) (by kernel_rfl) (by rfl) (fun w' hw => pl_one rfl rfl hw Tryz.underlying122 rfl) hS rfl ?_
  simp only [Act.put, List.setIfInBounds_toArray, List.set_cons_zero, List.set_cons_succ]
  refine hs_call (i := 4) (d := some 8) rfl (by kernel_rfl) (by rfl) (by go_simp; first | done | exact ⟨rfl, rfl⟩ | with_reducible rfl) rfl ?_
  refine (c1 w8 V8.rs).mono ?_
  rintro _ w5 ⟨rfl, S5, k5⟩
  have hS : (fun W' => W'.cell? ⟨Q, 0, none⟩ = some (.pointer (some ⟨R, 0, none⟩))) w5 := S5.mr.c0
  refine ⟨_, rfl, hS, ?_⟩
  simp only [Act.put, List.setIfInBounds_toArray, List.set_cons_zero, List.set_cons_succ]
  refine hs_take (i := 15) (d := some 19) (v := ?_) rfl (by kernel_rfl) (by kernel_rfl) (by kernel_rfl) (by rfl) ?_ hS rfl ?_
  rotate_left
  · intro w' hw
    go_simp
    try with_reducible rfl
  simp only [Act.put, List.setIfInBounds_toArray, List.set_cons_zero, List.set_cons_succ]
  refine hs_call (i := 9) (d := some 13) rfl (by kernel_rfl) (by rfl) (by go_simp; first | done | exact ⟨rfl, rfl⟩ | with_reducible rfl) rfl ?_
  refine (c2 w5 S5).mono ?_
  rintro _ w6 ⟨rfl, S6, k6⟩
  have hS : (fun W' => W'.cell? ⟨Q, 0, none⟩ = some (.pointer (some ⟨R, 0, none⟩))) w6 := S6.mr.c0
  refine ⟨_, rfl, hS, ?_⟩
  simp only [Act.put, List.setIfInBounds_toArray, List.set_cons_zero, List.set_cons_succ]
  refine hs_call (i := 14) (d := some 18) rfl (by kernel_rfl) (by rfl) (by go_simp; first | done | exact ⟨rfl, rfl⟩ | with_reducible rfl) rfl ?_
  refine (c3 w6 S6).mono ?_
  rintro _ w7 ⟨rfl, S7, k7⟩
  have hS : (fun W' => W'.cell? ⟨Q, 0, none⟩ = some (.pointer (some ⟨R, 0, none⟩))) w7 := S7.mr.c0
  refine ⟨_, rfl, hS, ?_⟩
  simp only [Act.put, List.setIfInBounds_toArray, List.set_cons_zero, List.set_cons_succ]
  have V7 := ((V8.on k5 S5).on k6 S6).on k7 S7
  have Va := V7.set 0 [.int .i64 v1] ((ch_put V7.row _).1)
  refine hs_store (i := 16) (w' := w7.setCells W1.heap.size 0 [.int .i64 v1]) rfl (by kernel_rfl) (by rfl) (ex_put1 (n := 4) rfl rfl rfl V7.box (by decide) iszI rfl rfl) rfl Va.rs.mr.c0 ?_
  obtain ⟨w_16, hw_16⟩ : ∃ W, w7.setCells W1.heap.size 0 [.int .i64 v1] = W := ⟨_, rfl⟩
  rw [hw_16] at Va ⊢
  clear hw_16
  have hS : (fun W' => W'.cell? ⟨Q, 0, none⟩ = some (.pointer (some ⟨R, 0, none⟩))) w_16 := Va.rs.mr.c0
  refine hs_take (i := 17) (d := some 20) (v := ?_) rfl (by kernel_rfl) (by kernel_rfl) (by kernel_rfl) (by rfl) ?_ hS rfl ?_
  rotate_left
  · intro w' hw
    go_simp
    try with_reducible rfl
  simp only [Act.put, List.setIfInBounds_toArray, List.set_cons_zero, List.set_cons_succ]
  have Vb := Va.set 1 [.int .i64 v2] ((ch_put Va.row _).2.1)
  refine hs_store (i := 18) (w' := w_16.setCells W1.heap.size 1 [.int .i64 v2]) rfl (by kernel_rfl) (by rfl) (ex_put1 (n := 4) rfl rfl rfl Va.box (by decide) iszI rfl rfl) rfl Vb.rs.mr.c0 ?_
  obtain ⟨w_18, hw_18⟩ : ∃ W, w_16.setCells W1.heap.size 1 [.int .i64 v2] = W := ⟨_, rfl⟩
  rw [hw_18] at Vb ⊢
  clear hw_18
  have hS : (fun W' => W'.cell? ⟨Q, 0, none⟩ = some (.pointer (some ⟨R, 0, none⟩))) w_18 := Vb.rs.mr.c0
  refine hs_take (i := 19) (d := some 21) (v := ?_) rfl (by kernel_rfl) (by kernel_rfl) (by kernel_rfl) (by rfl) ?_ hS rfl ?_
  rotate_left
  · intro w' hw
    go_simp
    try with_reducible rfl
  simp only [Act.put, List.setIfInBounds_toArray, List.set_cons_zero, List.set_cons_succ]
  have Vc := Vb.set 2 [.int .i64 v3] ((ch_put Vb.row _).2.2.1)
  refine hs_store (i := 20) (w' := w_18.setCells W1.heap.size 2 [.int .i64 v3]) rfl (by kernel_rfl) (by rfl) (ex_put1 (n := 4) rfl rfl rfl Vb.box (by decide) iszI rfl rfl) rfl Vc.rs.mr.c0 ?_
  obtain ⟨w_20, hw_20⟩ : ∃ W, w_18.setCells W1.heap.size 2 [.int .i64 v3] = W := ⟨_, rfl⟩
  rw [hw_20] at Vc ⊢
  clear hw_20
  have hS : (fun W' => W'.cell? ⟨Q, 0, none⟩ = some (.pointer (some ⟨R, 0, none⟩))) w_20 := Vc.rs.mr.c0
  refine hs_done (by kernel_rfl) ?_
  clear V7 Va Vb S5 S6 S7 k5 k6 k7 V8 hS c1 c2 c3
  go_upto_region 3 with fail
  try simp only [Act.put]
  refine pl_begin ?_
  refine pl_take (d := some 22) (v := ?_) (by rfl) ?_ rfl ?_
  rotate_left
  · go_simp
    try with_reducible rfl
  simp only [Act.put, List.setIfInBounds_toArray, List.set_cons_zero, List.set_cons_succ]
  refine pl_take (d := some 23) (v := ?_) (by rfl) ?_ rfl ?_
  rotate_left
  · go_simp
    try with_reducible rfl
  simp only [Act.put, List.setIfInBounds_toArray, List.set_cons_zero, List.set_cons_succ]
  refine pl_take (d := some 24) (v := ?_) (by rfl) ?_ rfl ?_
  rotate_left
  · go_simp
    try with_reducible rfl
  simp only [Act.put, List.setIfInBounds_toArray, List.set_cons_zero, List.set_cons_succ]
  refine pl_take (d := some 25) (v := .pointer (some ⟨R, 0, none⟩)) (by rfl) (pl_one rfl rfl Vc.rs.mr.c0 Tryz.underlying122 rfl) rfl ?_
  simp only [Act.put, List.setIfInBounds_toArray, List.set_cons_zero, List.set_cons_succ]
  refine pl_take (d := some 26) (v := ?_) (by rfl) ?_ rfl ?_
  rotate_left
  · go_simp
    try with_reducible rfl
  simp only [Act.put, List.setIfInBounds_toArray, List.set_cons_zero, List.set_cons_succ]
  refine pl_take (d := some 27) (v := ?_) (by rfl) ?_ rfl ?_
  rotate_left
  · go_simp
    try with_reducible rfl
  simp only [Act.put, List.setIfInBounds_toArray, List.set_cons_zero, List.set_cons_succ]
  refine pl_take (d := some 28) (v := ?_) (by rfl) ?_ rfl ?_
  rotate_left
  · go_simp
    try with_reducible rfl
  simp only [Act.put, List.setIfInBounds_toArray, List.set_cons_zero, List.set_cons_succ]
  refine pl_call (d := some 29) (by rfl) (by go_simp; first | done | exact ⟨rfl, rfl⟩ | with_reducible rfl) rfl ?_
  refine (c4 w_20 Vc.rs).mono ?_
  rintro _ wd ⟨x, rfl, hx, hA, hB, hB2, Sd, kd⟩
  refine ⟨_, rfl, ?_⟩
  simp only [Act.put, List.setIfInBounds_toArray, List.set_cons_zero, List.set_cons_succ]
  refine pl_take (d := some 30) (v := ?_) (by rfl) ?_ rfl ?_
  rotate_left
  · go_simp
    try with_reducible rfl
  simp only [Act.put, List.setIfInBounds_toArray, List.set_cons_zero, List.set_cons_succ]
  have Vd := Vc.on kd Sd
  have Ve := Vd.set 3 [x.val] (ch_put Vd.row _).2.2.2
  refine pl_store (w' := wd.setCells W1.heap.size 3 [x.val]) (by rfl) (ex_put1 (n := 4) rfl rfl rfl Vd.box (by decide) iszHds rfl rfl) rfl ?_
  refine pl_nil ?_
  have hne : ∀ b, w_20.heap.size ≤ b ∧ b < wd.heap.size → b ≠ W1.heap.size := fun b hb => by have := Vc.lb; omega
  have hA1 : HdsAt (wd.setCells W1.heap.size 3 [x.val]) x := hA.put hB hB2 hne
  have kz := Vc.kept.size
  obtain ⟨we, hwe⟩ : ∃ W, wd.setCells W1.heap.size 3 [x.val] = W := ⟨_, rfl⟩
  have hse : we.heap.size = wd.heap.size := by rw [← hwe, size_sets]
  rw [hwe] at Ve hA1 ⊢
  clear hwe hA
  have rpc := Ve.row
  have hpl : ([.int .i64 v1, .int .i64 v2, .int .i64 v3, x.val] : List Value).length = 4 := rfl
  have hip : (Tryz.prog.info? 31).map (·.size) = some ([.int .i64 v1, .int .i64 v2, .int .i64 v3, x.val] : List Value).length := iszCh
  have hp1 : ∀ v ∈ ([.int .i64 v1, .int .i64 v2, .int .i64 v3, x.val] : List Value), v.oneCell' = true := by
    intro v hv
    simp only [List.mem_cons, List.not_mem_nil, or_false] at hv
    rcases hv with rfl | rfl | rfl | rfl <;> rfl
  obtain ⟨pc, hpc⟩ : ∃ p, Hid (([.int .i64 v1, .int .i64 v2, .int .i64 v3, x.val] : List Value) = p) := ⟨_, hide rfl⟩
  rw [hpc.out] at hpl hip hp1 rpc
  go_upto_region 4 with fail
  try simp only [Act.put]
  refine pl_begin ?_
  refine pl_take (d := some 31) (v := .agg pc.toArray) (by rfl) (ex_mid rfl rfl rpc Tryz.underlying31 rfl hip) rfl ?_
  simp only [Act.put, List.setIfInBounds_toArray, List.set_cons_zero, List.set_cons_succ]
  refine pl_store (w' := we.setCells w.heap.size 0 pc) (by rfl) (ex_put (cs := pc.toArray) rfl rfl rfl (by simpa [hpl] using Ve.ans) (by simpa using hip) (all_one hp1)) rfl ?_
  refine pl_nil ?_
  have hlow : Below w.heap.size we (we.setCells w.heap.size 0 pc) := below_sets (Nat.le_refl _) pc 0 _ (Below.refl _ we)
  have hrs := run_loadVar_mid (P := Tryz.prog) (we.setCells w.heap.size 0 pc) w.heap.size 0 31 pc _ (World.rangeAt_setCells_same we w.heap.size 0 pc (by rw [hpl]; exact Ve.ans)) Tryz.underlying31 rfl hip
  have HF : Hid (∃ g : Sl Hd, Ending.returned (.agg pc.toArray) = .returned (.agg ([.int .i64 v1, .int .i64 v2, .int .i64 v3, g.val] : List Value).toArray) ∧ g.xs.map Hd.pure = ls ∧ HdsAt (we.setCells w.heap.size 0 pc) g ∧ g.Bk (fun b => w.heap.size ≤ b ∧ b < (we.setCells w.heap.size 0 pc).heap.size) ∧ (∀ y ∈ g.xs, y.Bk (fun b => w.heap.size ≤ b ∧ b < (we.setCells w.heap.size 0 pc).heap.size)) ∧ RS (we.setCells w.heap.size 0 pc) Q R s4 ∧ Kept w R Q (we.setCells w.heap.size 0 pc)) := by
    have la := Vc.la
    refine hide ⟨x, by rw [hpc.out], hx, hA1.put hB hB2 (fun b hb => by omega), hB.mono (fun b hb => ⟨by omega, by rw [size_sets]; omega⟩), fun y hy => (hB2 y hy).mono (fun b hb => ⟨by omega, by rw [size_sets]; omega⟩), Ve.rs.low hlow hQw, Ve.kept.low hlow (Nat.le_refl _)⟩
  clear Ve hlow rpc hA1 hB hB2 Vd Vc Sd kd
  go_wp2_with fail
  refine bodyPost_ret (v := .agg pc.toArray) ?_ rfl ?_
  · simp [results, Tryz.results82, Act.put, asAddr, hrs]
  · exact HF.out
end Go.Proofs.YtgjalkbianpibaaGreat
namespace Go.Proofs.YtgjalkbianpibaaGreat
open Go.RowKit
open Sha Tal
set_option linter.unusedVariables false
set_option linter.unusedSimpArgs false
theorem RSt.lt {D : Nat} {w : World} {R : Nat} {rest : List Int} {e : Int} (h : RSt D w R rest e) : R < w.heap.size := by
  obtain ⟨zs, p, hR, _⟩ := h
  exact hR.1
theorem RSt.cell2 {D : Nat} {w : World} {R : Nat} {rest : List Int} {e : Int} (h : RSt D w R rest e) : w.cell? ⟨R, 2, none⟩ = some (.int .i64 e) := by
  obtain ⟨zs, p, hR, _⟩ := h
  exact hR.2.2.2.1
theorem tag_step (c n : Int) (s : ByteArray) (t : List Int) (i : Nat) (hi : i < 16) (ht : t.length = 16) : reqL c n s (t.take (i + 1) ++ List.replicate (16 - (i + 1)) (0 : Int)) = (reqL c n s (t.take i ++ List.replicate (16 - i) (0 : Int))).set (3 + i) (.int .u8 (t.getD i 0)) := by
  have e : (t.take i ++ List.replicate (16 - i) (0 : Int)).set i (t.getD i 0) = t.take (i + 1) ++ List.replicate (16 - (i + 1)) (0 : Int) := by
    have hl : (t.take i).length = i := by rw [List.length_take]; omega
    rw [List.set_append, if_neg (by omega), hl, Nat.sub_self, show 16 - i = (16 - (i + 1)) + 1 by omega, List.replicate_succ, List.set_cons_zero, List.getD_eq_getElem?_getD, List.getElem?_eq_getElem (by omega)]
    simp
    rw [List.take_succ_eq_append_getElem (by omega), List.append_assoc]
    rfl
  rw [← e, show 3 + i = i + 1 + 1 + 1 by omega]
  show _ :: _ :: _ :: v8 _ = _ :: _ :: _ :: (v8 _).set i _
  rw [v8_set]
set_option maxRecDepth 100000 in
set_option maxHeartbeats 4000000 in
theorem refRGet_any (D R : Nat) (rest : List Int) (e : Int) (w : World) (h : RSt D w R rest e) :
    Calls Tryz.prog 127 #[.pointer (some ⟨R, 0, none⟩)] w fun en w' => en = .returned (.agg (rgetL (rgetR rest e)).toArray) ∧ RSt D w' R (rgetR rest e).rest (rgetR rest e).err ∧ w.grownBy w' (some R) := by
  have hRw := RSt.lt h
  obtain ⟨G, hG⟩ : ∃ G, Hid (rgetR rest e = G) := ⟨_, rfl⟩
  rw [hG.out]
  have k0 := hG.out
  unfold rgetR at k0
  simp only at k0
  clear hG
  have c1 := fun w0 h0 => refNum_any (B := D) R rest e 8 w0 h0
  obtain ⟨v1, hv1⟩ : ∃ x, Hid ((numS rest e 8).1 = x) := ⟨_, rfl⟩
  obtain ⟨r1, hr1⟩ : ∃ x, Hid ((numS rest e 8).2.1 = x) := ⟨_, rfl⟩
  obtain ⟨e1, he1⟩ : ∃ x, Hid ((numS rest e 8).2.2 = x) := ⟨_, rfl⟩
  simp only [hv1.out, hr1.out, he1.out] at k0 c1
  have c2 := fun w0 h0 => refNum_any (B := D) R r1 e1 1099511627776 w0 h0
  obtain ⟨v2, hv2⟩ : ∃ x, Hid ((numS r1 e1 1099511627776).1 = x) := ⟨_, rfl⟩
  obtain ⟨r2, hr2⟩ : ∃ x, Hid ((numS r1 e1 1099511627776).2.1 = x) := ⟨_, rfl⟩
  obtain ⟨e2, he2⟩ : ∃ x, Hid ((numS r1 e1 1099511627776).2.2 = x) := ⟨_, rfl⟩
  simp only [hv2.out, hr2.out, he2.out] at k0 c2
  have c3 := fun w0 h0 => refText_any (B := D) R r2 e2 64 w0 h0
  obtain ⟨v3, hv3⟩ : ∃ x, Hid ((textS r2 e2 64).1 = x) := ⟨_, rfl⟩
  obtain ⟨r3, hr3⟩ : ∃ x, Hid ((textS r2 e2 64).2.1 = x) := ⟨_, rfl⟩
  obtain ⟨e3, he3⟩ : ∃ x, Hid ((textS r2 e2 64).2.2 = x) := ⟨_, rfl⟩
  simp only [hv3.out, hr3.out, he3.out] at k0 c3
  have f4 := rawS_16 r3 e3
  have c4 := fun w0 h0 => refRaw_any (B := D) R r3 e3 16 w0 h0
  obtain ⟨v4, hv4⟩ : ∃ x, Hid ((rawS r3 e3 16).1 = x) := ⟨_, rfl⟩
  obtain ⟨r4, hr4⟩ : ∃ x, Hid ((rawS r3 e3 16).2.1 = x) := ⟨_, rfl⟩
  obtain ⟨e4, he4⟩ : ∃ x, Hid ((rawS r3 e3 16).2.2 = x) := ⟨_, rfl⟩
  simp only [hv4.out, hr4.out, he4.out] at k0 f4 c4
  obtain ⟨hv4l, hv4e⟩ := f4
  have G1 : Hid (rgetL G = if e4 = 0 then reqL v1 v2 (strOf v3) v4 else noReq) := hide (by rw [← k0]; rfl)
  have G2 : Hid (G.rest = r4) := hide (by rw [← k0])
  have G3 : Hid (G.err = e4) := hide (by rw [← k0])
  clear k0 hv1 hr1 he1 hv2 hr2 he2 hv3 hr3 he3 hv4 hr4 he4
  generalize strOf v3 = sv at *
  have hb1 : Below w.heap.size w (w.alloc (.cells noReq.toArray 93)) := (Below.refl _ _).alloc (Nat.le_refl _) _
  have ht1 := there_new w noReq.toArray 93
  have hz1 : (w.alloc (.cells noReq.toArray 93)).heap.size = w.heap.size + 1 := World.size_alloc _ _
  have hb2 : Below (w.alloc (.cells noReq.toArray 93)).heap.size (w.alloc (.cells noReq.toArray 93)) ((w.alloc (.cells noReq.toArray 93)).alloc (.cells noReq.toArray 93)) := (Below.refl _ _).alloc (Nat.le_refl _) _
  have ht2 := there_new (w.alloc (.cells noReq.toArray 93)) noReq.toArray 93
  have hr2 := range_new (w.alloc (.cells noReq.toArray 93)) noReq.toArray 93
  have hz2 : ((w.alloc (.cells noReq.toArray 93)).alloc (.cells noReq.toArray 93)).heap.size = w.heap.size + 2 := by rw [World.size_alloc, hz1]
  rw [hz1] at ht2 hr2
  have hb12 : Below w.heap.size w ((w.alloc (.cells noReq.toArray 93)).alloc (.cells noReq.toArray 93)) := hb1.trans (hb2.mono hb1.size)
  have gs0 : GS w R noReq ((w.alloc (.cells noReq.toArray 93)).alloc (.cells noReq.toArray 93)) := ⟨by simpa using hr2, ht2, there_below ht1 hb2 (by omega), gb_below hb12 _, by omega⟩
  have s0 := h.below hb12
  clear hb1 ht1 hb2 ht2 hr2 hb12 hz1 hz2 h
  go_enter Tryz.func127, Tryz.ntmps127
  go_upto_region 2 with fail
  obtain ⟨w1, hw1⟩ : ∃ w1, (w.alloc (.cells noReq.toArray 93)).alloc (.cells noReq.toArray 93) = w1 := ⟨_, rfl⟩
  rw [hw1] at gs0 s0
  rw [litReq, hw1]
  clear hw1
  try simp only [Act.put]
  have hsz := gs0.size
  go_wp2_with fail
  refine (c1 w1 s0).mono ?_
  rintro en w2 ⟨rfl, s2, g2⟩
  have gs2 := gs0.gb hRw g2
  clear c1 gs0 s0 g2 hsz
  have hq : w2.cell? ⟨w.heap.size + 1, 0, none⟩ = some (.int .i64 0) := gs2.row 0 _ rfl
  have hf : w2.frozen? ⟨w.heap.size + 1, 0, none⟩ = false := (gs2.box 0 (by decide)).2
  have gs3 := gs2.set 0 (.int .i64 v1)
  have s3 := s2.gb (gb_set w2 (w.heap.size + 1) 0 (.int .i64 v1)) (.inr (by omega))
  go_wp2_with fail
  obtain ⟨w3, hw3⟩ : ∃ w3, w2.setCell ⟨w.heap.size + 1, 0, none⟩ (.int .i64 v1) = w3 := ⟨_, rfl⟩
  rw [hw3] at gs3 s3 ⊢
  clear hw3 gs2 s2 hq hf
  refine (c2 w3 s3).mono ?_
  rintro en w4 ⟨rfl, s4, g4⟩
  have gs4 := gs3.gb hRw g4
  clear c2 gs3 s3 g4
  have hq : w4.cell? ⟨w.heap.size + 1, 1, none⟩ = some (.int .i64 0) := gs4.row 1 _ rfl
  have hf : w4.frozen? ⟨w.heap.size + 1, 1, none⟩ = false := (gs4.box 1 (by decide)).2
  have gs5 := gs4.set 1 (.int .i64 v2)
  have s5 := s4.gb (gb_set w4 (w.heap.size + 1) 1 (.int .i64 v2)) (.inr (by omega))
  go_wp2_with fail
  obtain ⟨w5, hw5⟩ : ∃ w5, w4.setCell ⟨w.heap.size + 1, 1, none⟩ (.int .i64 v2) = w5 := ⟨_, rfl⟩
  rw [hw5] at gs5 s5 ⊢
  clear hw5 gs4 s4 hq hf
  refine (c3 w5 s5).mono ?_
  rintro en w6 ⟨rfl, s6, g6⟩
  have gs6 := gs5.gb hRw g6
  clear c3 gs5 s5 g6
  have hq : w6.cell? ⟨w.heap.size + 1, 2, none⟩ = some (.string ⟨#[]⟩) := gs6.row 2 _ rfl
  have hf : w6.frozen? ⟨w.heap.size + 1, 2, none⟩ = false := (gs6.box 2 (by decide)).2
  have gs7 : GS w R (reqL v1 v2 sv zeros16) (w6.setCell ⟨w.heap.size + 1, 2, none⟩ (.string sv)) := gs6.set 2 (.string sv)
  have s7 := s6.gb (gb_set w6 (w.heap.size + 1) 2 (.string sv)) (.inr (by omega))
  go_upto_region 5 with fail
  obtain ⟨w7, hw7⟩ : ∃ w7, w6.setCell ⟨w.heap.size + 1, 2, none⟩ (.string sv) = w7 := ⟨_, rfl⟩
  rw [hw7] at gs7 s7 ⊢
  clear hw7 gs6 s6 hq hf
  try simp only [Act.put]
  go_wp2_with fail
  refine (c4 w7 s7).mono ?_
  rintro en w9 ⟨v9, rfl, m9, s9, g9⟩
  have gs9 := gs7.gb hRw g9
  have hA9 : ∀ x, ∀ a cap, v9 = .slice a v4.length cap → a = some x → x.block ≠ w.heap.size + 1 := by
    intro x a cap hv hx
    subst hv hx
    have hs7 := gs7.size
    rcases m9.1.2 with ⟨hv, _⟩ | ⟨g, cp, cur, hv, hg, _⟩
    · cases hv
    · injection hv with hv _ _
      injection hv with hv
      subst hv
      show g ≠ w.heap.size + 1
      omega
  obtain ⟨a9, cap9, rfl, hc9, hm9, row9⟩ := m9.rowAt (by unfold maxLen; rcases hv4l with q | q <;> (first | omega | (rw [q]; decide)))
  have hA9 : ∀ x, a9 = some x → x.block ≠ w.heap.size + 1 := fun x hx => hA9 x a9 cap9 rfl hx
  clear c4 gs7 s7 g9 m9
  have x2 : w9.cell? ⟨R, 2, none⟩ = some (.int .i64 e4) := RSt.cell2 s9
  have hi := iszN
  have ho : (noReq.toArray.all fun x => x.oneCell') = true := all_oneCell_toArray (reqL_one 0 0 ⟨#[]⟩ zeros16)
  have hszz := gs9.size
  by_cases he : e4 = 0
  · subst he
    have h16 := hv4e rfl
    have E1 : Hid (rgetL G = reqL v1 v2 sv v4) := hide (by rw [G1.out, if_pos rfl])
    clear hv4l hv4e hi ho
    go_wp2_with fail
    go_loopw [5] (fun iv wr => ∃ i : Nat, i ≤ 16 ∧ iv = .int .i64 (i : Int) ∧ GS w R (reqL v1 v2 sv (v4.take i ++ List.replicate (16 - i) (0 : Int))) wr ∧ RowAt wr a9 v4 ∧ RSt D wr R r4 0) (fun iv _ => 16 - (intOf iv).toNat)
    case atStart => exact ⟨0, by omega, rfl, gs9, row9, s9⟩
    case round =>
      obtain ⟨i, hi16, rfl, gsr, rowr, sr⟩ := hrel
      by_cases hlt : i < 16
      · obtain ⟨b, off, rfl, hb, hcx, hx0, hx1⟩ := rowr.get i (by omega)
        have HT : Hid (reqL v1 v2 sv (v4.take (i + 1) ++ List.replicate (16 - (i + 1)) (0 : Int)) = (reqL v1 v2 sv (v4.take i ++ List.replicate (16 - i) (0 : Int))).set (3 + i) (.int .u8 (v4.getD i 0))) := hide (tag_step v1 v2 sv v4 i hlt h16)
        have hcell := gsr.box (3 + i) (by omega)
        rw [Nat.zero_add] at hcell
        obtain ⟨u, hu⟩ := Option.isSome_iff_exists.1 hcell.1
        have hfz := hcell.2
        have gsn := gsr.set (3 + i) (.int .u8 (v4.getD i 0))
        have rown := rowr.gb (gb_set wr (w.heap.size + 1) (3 + i) (.int .u8 (v4.getD i 0))) (.inr hA9)
        have sn := sr.gb (gb_set wr (w.heap.size + 1) (3 + i) (.int .u8 (v4.getD i 0))) (.inr (by omega))
        generalize v4.getD i 0 = x at *
        have hil : (i : Int) < v4.length := by omega
        have hil2 : (i : Int) < 16 := by omega
        go_wp2_with fail
        go_roundw
        case rel => exact ⟨i + 1, by omega, by go_num, by rw [HT.out]; exact gsn, rown, sn⟩
        case measure => simp [intOf]; omega
      · obtain rfl : i = 16 := by omega
        have HZ : v4.take 16 ++ List.replicate (16 - 16) (0 : Int) = v4 := by rw [Nat.sub_self, List.replicate_zero, List.append_nil, List.take_of_length_le (by omega)]
        rw [HZ] at gsr
        clear HZ
        have hiq : (Tryz.prog.info? 93).map (·.size) = some (reqL v1 v2 sv v4).length := by rw [reqL_length _ _ _ _ h16]; exact iszR
        have hoq := all_oneCell_toArray (reqL_one v1 v2 sv v4)
        have hiq' : (Tryz.prog.info? 93).map (·.size) = some (reqL v1 v2 sv v4).toArray.size := by rw [List.size_toArray]; exact hiq
        obtain ⟨q, hq⟩ : ∃ q, Hid (reqL v1 v2 sv v4 = q) := ⟨_, rfl⟩
        have hql : q.length = 19 := by rw [← hq.out]; exact reqL_length _ _ _ _ h16
        rw [hq.out] at E1 hiq hoq hiq'
        have hrow : wr.rangeAt (w.heap.size + 1) 0 q := by rw [← hq.out]; exact gsr.row
        have hans : wr.there w.heap.size 0 q.toArray.size := by have := gsr.ans; rw [← hql] at this; exact this
        have hrs := run_loadVar_mid (P := Tryz.prog) (wr.setCells w.heap.size 0 q) w.heap.size 0 93 q _ (World.rangeAt_setCells_same wr w.heap.size 0 q (by have := hans; simpa using this)) Tryz.underlying93 rfl hiq
        have gf := gb_onR gsr.grown (below_sets (B := w.heap.size) (b := w.heap.size) (Nat.le_refl _) q 0 _ (Below.refl _ wr)) (Nat.le_refl _)
        have sf := sr.gb (gb_setsR wr w.heap.size q 0) (.inr hRw)
        clear gsr sr rowr
        go_wp2_with (first | refine wpList_load_mid (op := ⟨some 34, .load 93 (.tmp 3), _, _, _, none⟩) rfl 93 _ rfl _ _ rfl q _ hrow Tryz.underlying93 rfl hiq ?_ | refine wpList_store_mid (op := ⟨none, .store 93 (.tmp 2) (.tmp 34), _, _, _, none⟩) rfl 93 _ _ rfl _ _ q.toArray rfl rfl hans hiq' hoq ?_)
        refine bodyPost_ret (v := .agg q.toArray) ?_ rfl ?_
        · simp [results, Tryz.results127, Act.put, asAddr, hrs]
        · exact ⟨by rw [E1.out], by rw [G2.out, G3.out]; exact sf, gf⟩
  · have E1 : Hid (rgetL G = noReq) := hide (by rw [G1.out, if_neg he])
    have hans : w9.there w.heap.size 0 noReq.toArray.size := gs9.ans
    have hi' : (Tryz.prog.info? 93).map (·.size) = some noReq.length := by simpa using hi
    have hlit := litReq
    obtain ⟨q, hq⟩ : ∃ q, Hid (noReq = q) := ⟨_, rfl⟩
    rw [hq.out] at E1 hi ho hans hi' hlit
    have hrs := run_loadVar_mid (P := Tryz.prog) (w9.setCells w.heap.size 0 q) w.heap.size 0 93 q _ (World.rangeAt_setCells_same w9 w.heap.size 0 q (by have := hans; simpa using this)) Tryz.underlying93 rfl hi'
    have gf := gb_onR gs9.grown (below_sets (B := w.heap.size) (b := w.heap.size) (Nat.le_refl _) q 0 _ (Below.refl _ w9)) (Nat.le_refl _)
    have sf := s9.gb (gb_setsR w9 w.heap.size q 0) (.inr hRw)
    clear gs9 s9 hv4l hv4e
    go_wp2_with (refine wpList_store_mid (op := ⟨none, .store 93 (.tmp 2) (.tmp 22), _, _, _, none⟩) rfl 93 _ _ rfl _ _ q.toArray rfl (by rw [← hlit]; rfl) hans hi ho ?_)
    refine bodyPost_ret (v := .agg q.toArray) ?_ rfl ?_
    · simp [results, Tryz.results127, Act.put, asAddr, hrs]
    · exact ⟨by rw [E1.out], by rw [G2.out, G3.out]; exact sf, gf⟩
/-- what is read, in the document's own variable -/
structure RL2 (D : Nat) (w : World) (R V : Nat) (rest : List Int) (e : Int) (k : Nat) (v : Value) (W : World) : Prop where
  own : W.ownsRow (V + 1) 93 19 v k (flatR (getRs k rest e).1)
  st : RSt D W R (getRs k rest e).2.1 (getRs k rest e).2.2
  gb : w.grownBy W (some R)
  res : W.there w.heap.size 0 2
  box : W.rangeAt V 0 [.bool false, v]
  boxT : W.there V 0 2
  size : V + 1 ≤ W.heap.size
theorem step_req {w : World} {B k : Nat} {v : Value} {xs u : List Value} (h : w.ownsRow B 93 19 v k xs) (hu : u.length = 19) (hone : ∀ x ∈ u, x.oneCell' = true) (hB : B ≤ w.heap.size) (hk : k ≤ 1000) :
    ∃ g c w', (Builtin.append_ #[22, 22] 22 #[v, .slice (some ⟨w.heap.size, 0, none⟩) 1 1]).run Tryz.prog (w.alloc (.cells u.toArray 93)) = .ok (.slice (some ⟨g, 0, none⟩) (k + 1) c) w' ∧ w'.ownsRow B 93 19 (.slice (some ⟨g, 0, none⟩) (k + 1) c) (k + 1) (xs ++ u) ∧ Below B w w' := by
  obtain ⟨i1, hi1, hiz, his, hib⟩ := info_parts infoR
  have hb5 : Below w.heap.size w (w.alloc (.cells u.toArray 93)) := (Below.refl _ _).alloc (Nat.le_refl _) _
  have hR5 : (w.alloc (.cells u.toArray 93)).rangeAt w.heap.size 0 u := by simpa using range_new w u.toArray 93
  have hsrc : Src Tryz.prog 19 22 (.slice (some ⟨w.heap.size, 0, none⟩) 1 1) 1 u (w.alloc (.cells u.toArray 93)) :=
    Src.ofSlice _ Tryz.underlying22 ⟨w.heap.size, 0, none⟩ 1 1 u (by omega) (fun j v hv => by rw [Addr.add_mid]; exact hR5 j v hv) hone
  have hown5 := h.alloc (.cells u.toArray 93)
  obtain ⟨v', w', hr, ho, hg⟩ := run_append_own_src (P := Tryz.prog) _ B 22 22 22 93 i1 (.agg noReq.toArray) 19 48 Tryz.underlying22 hi1 hiz his hib rfl v k xs hown5 _ 1 u hsrc (by unfold maxLen; omega) (by omega) (Nat.le_trans hB hb5.size)
  obtain ⟨g, c, rfl⟩ : ∃ g c, v' = .slice (some ⟨g, 0, none⟩) (k + 1) c := by
    rcases ho.2 with ⟨_, h0⟩ | ⟨g, cap, cur, hv, _⟩
    · omega
    · exact ⟨g, cap, hv⟩
  exact ⟨g, c, w', hr, ho, (hb5.mono hB).grown hg (Nat.le_trans hB hb5.size) (fun j hj => (hown5.lt j hj).1)⟩
theorem rst_low {D : Nat} {w w' : World} {R B : Nat} {rest : List Int} {e : Int} (h : RSt D w R rest e) (hb : Below B w w') (hR : R < B) : RSt D w' R rest e := by
  have key : ∀ b, b < B → w'.heap[b]? = w.heap[b]? := fun b hbb => hb.block b hbb
  obtain ⟨zs, p, ⟨h0, ⟨a, cap, g1, g2, g3, g4, g5⟩, h2, h3, f0, f1, f2⟩, hd⟩ := h
  have cR := fun o => @cell_block w w' R o (key R hR)
  refine ⟨zs, p, ⟨Nat.lt_of_lt_of_le h0 hb.size, ⟨a, cap, by rw [(cR 0).1]; exact g1, g2, g3, ⟨g4.1, g4.2.1, ?_⟩, g5⟩, by rw [(cR 1).1]; exact h2, by rw [(cR 2).1]; exact h3, by rw [(cR 0).2]; exact f0, by rw [(cR 1).2]; exact f1, by rw [(cR 2).2]; exact f2⟩, hd⟩
  rcases g4.2.2 with g | ⟨b, off, rfl, g6, g7⟩
  · exact .inl g
  · have hbR := (g5 _ rfl).2
    exact .inr ⟨b, off, rfl, Nat.lt_of_lt_of_le g6 hb.size, fun j v hv => by rw [(@cell_block w w' b (off + j) (key b (by simp at hbR; omega))).1]; exact g7 j v hv⟩
theorem store1 {wb : World} {V : Nat} (hb : wb.there V 0 2) (a : Option Addr) (n c : Nat) : (storeVar 22 ⟨V, 1, none⟩ (.slice a n c)).run Tryz.prog wb = .ok () (wb.setCell ⟨V, 1, none⟩ (.slice a n c)) := by
  have h1 := hb 1 (by omega)
  rw [Nat.zero_add] at h1
  obtain ⟨x, hx⟩ := Option.isSome_iff_exists.1 h1.1
  have hf := h1.2
  go_simp
theorem World.grownBy_drew1 (w : World) : w.grownBy w.drew none := ⟨rfl, rfl, rfl, Nat.le_refl _, fun _ _ _ => rfl⟩
set_option maxRecDepth 100000 in
set_option maxHeartbeats 4000000 in
theorem refBget_any (D R : Nat) (rest : List Int) (e : Int) (w : World) (h : RSt D w R rest e) (hbs : e = 0 → Bs rest) :
    Calls Tryz.prog 92 #[.pointer (some ⟨R, 0, none⟩)] w fun en w' => ∃ a cap, en = .returned (batV (getB rest e).q a (getB rest e).rs.length cap) ∧ (getB rest e).rs.length ≤ cap ∧ cap ≤ maxLen ∧ ReqsAt w' a (getB rest e).rs ∧ (∀ x, a = some x → w.heap.size ≤ x.block) ∧ RSt D w' R (getB rest e).rest (getB rest e).err ∧ w.grownBy w' (some R) := by
  have hRw : R < w.heap.size := h.lt
  have cn := fun w0 h0 => refNum_any (B := D) R rest e 5 w0 h0
  have hx1 := numS_bd (most := 5) hbs (by omega)
  obtain ⟨j0, hj0⟩ := numS_sub rest e 5
  have hbs2 : (numS rest e 5).2.2 = 0 → Bs (numS rest e 5).2.1 := fun h0 => by rw [hj0]; exact (hbs (numS_err h0)).sub _
  have hz0 : (numS rest e 5).2.2 ≠ 0 → (numS rest e 5).1 = 0 := numS_zero
  obtain ⟨G, hG⟩ : ∃ G, Hid (getB rest e = G) := ⟨_, hide rfl⟩
  rw [hG.out]
  have hG := hG.out
  unfold getB at hG
  obtain ⟨x1, hx1e⟩ : ∃ x, Hid ((numS rest e 5).1 = x) := ⟨_, hide rfl⟩
  obtain ⟨x2, hx2e⟩ : ∃ x, Hid ((numS rest e 5).2.1 = x) := ⟨_, hide rfl⟩
  obtain ⟨x3, hx3e⟩ : ∃ x, Hid ((numS rest e 5).2.2 = x) := ⟨_, hide rfl⟩
  simp only [hx1e.out, hx2e.out, hx3e.out] at cn hx1 hbs2 hG hz0
  clear hx1e hx2e hx3e hj0 hbs
  have HG := hide hG
  clear hG
  have hN := there_new w #[.bool false, .slice none 0 0] 24
  have hB1 : Below w.heap.size w (w.alloc (.cells #[.bool false, .slice none 0 0] 24)) := (Below.refl _ _).alloc (Nat.le_refl _) _
  have hg1 : w.grownBy (w.alloc (.cells #[.bool false, .slice none 0 0] 24)) (some R) := World.grownBy_alloc w _ _
  have hs1 : w.heap.size + 1 ≤ (w.alloc (.cells #[.bool false, .slice none 0 0] 24)).heap.size := by simp
  go_enter Tryz.func92, Tryz.ntmps92
  go_upto_region 1 with fail
  go_name_world w1 hw1
  rw [hw1] at hN hB1 hg1 hs1
  clear hw1
  have hN : w1.there w.heap.size 0 2 := hN
  go_wp2_with fail
  refine (cn w1 (h.below hB1)).mono ?_
  rintro en w2 ⟨rfl, h2, hg2⟩
  have hgw2 := gb_trans hg1 hg2
  have hN2 := there_gbR hN hg2 (by omega) (by omega)
  have hs2 := Nat.le_trans hs1 hg2.size
  have c2 := h2.cell2
  clear cn hN hB1 hg1 hg2 hs1
  by_cases hx3 : x3 = 0
  rotate_left
  · have hx0 := hz0 hx3
    rw [if_pos hx0, decide_eq_false hx3] at HG
    have b0 : (x3 == 0) = false := by simpa using hx3
    clear hx3 hz0
    have hN := hN2
    have hRr := World.rangeAt_setCells_same w2 w.heap.size 0 [.bool false, .slice none 0 0] hN
    have hg9 : w2.grownBy (w2.setCells w.heap.size 0 [.bool false, .slice none 0 0]) (some w.heap.size) := gb_setsR w2 w.heap.size _ 0
    have h9 := h2.gb hg9 (.inr hRw)
    have hgw9 := gb_onR hgw2 (below_sets (Nat.le_refl w.heap.size) [.bool false, .slice none 0 0] 0 w2 (Below.refl w.heap.size w2)) (Nat.le_refl _)
    have hrs := run_loadVar_mid (P := Tryz.prog) (w2.setCells w.heap.size 0 [.bool false, .slice none 0 0]) w.heap.size 0 24 [.bool false, .slice none 0 0] _ hRr Tryz.underlying24 rfl iszB
    have HF : Hid (∃ a cap, Ending.returned (.agg #[.bool false, .slice none 0 0]) = .returned (batV G.q a G.rs.length cap) ∧ G.rs.length ≤ cap ∧ cap ≤ maxLen ∧ ReqsAt (w2.setCells w.heap.size 0 [.bool false, .slice none 0 0]) a G.rs ∧ (∀ x, a = some x → w.heap.size ≤ x.block) ∧ RSt D (w2.setCells w.heap.size 0 [.bool false, .slice none 0 0]) R G.rest G.err ∧ w.grownBy (w2.setCells w.heap.size 0 [.bool false, .slice none 0 0]) (some R)) := hide (by
      rw [← HG.out]
      exact ⟨none, 0, rfl, by simp, by unfold maxLen; omega, ReqsAt.none, (fun x hx => by cases hx), h9, hgw9⟩
    )
    go_upto_region 3 with fail
    try simp only [Act.put]
    refine wp_region_list ?_
    refine wpList_step fun K hK => ?_
    go_simp
    refine hK _ _ ?_
    clear hK K
    refine wpList_store_mid rfl 24 _ _ rfl _ _ #[.bool false, .slice none 0 0] rfl rfl hN iszB (by simp [Value.oneCell']) ?_
    go_wp2
    exact bodyPost_ret (v := .agg #[.bool false, .slice none 0 0]) (by simp [results, Tryz.results92, asAddr, hrs, Act.put]) rfl HF.out
  have b0 : (x3 == 0) = true := by simpa using hx3
  by_cases hx0 : x1 = 0
  · rw [if_pos hx0, decide_eq_true hx3] at HG
    subst hx0
    clear hx3 hz0
    have hN := hN2
    have hRr := World.rangeAt_setCells_same w2 w.heap.size 0 [.bool true, .slice none 0 0] hN
    have hg9 : w2.grownBy (w2.setCells w.heap.size 0 [.bool true, .slice none 0 0]) (some w.heap.size) := gb_setsR w2 w.heap.size _ 0
    have h9 := h2.gb hg9 (.inr hRw)
    have hgw9 := gb_onR hgw2 (below_sets (Nat.le_refl w.heap.size) [.bool true, .slice none 0 0] 0 w2 (Below.refl w.heap.size w2)) (Nat.le_refl _)
    have hrs := run_loadVar_mid (P := Tryz.prog) (w2.setCells w.heap.size 0 [.bool true, .slice none 0 0]) w.heap.size 0 24 [.bool true, .slice none 0 0] _ hRr Tryz.underlying24 rfl iszB
    have HF : Hid (∃ a cap, Ending.returned (.agg #[.bool true, .slice none 0 0]) = .returned (batV G.q a G.rs.length cap) ∧ G.rs.length ≤ cap ∧ cap ≤ maxLen ∧ ReqsAt (w2.setCells w.heap.size 0 [.bool true, .slice none 0 0]) a G.rs ∧ (∀ x, a = some x → w.heap.size ≤ x.block) ∧ RSt D (w2.setCells w.heap.size 0 [.bool true, .slice none 0 0]) R G.rest G.err ∧ w.grownBy (w2.setCells w.heap.size 0 [.bool true, .slice none 0 0]) (some R)) := hide (by
      rw [← HG.out]
      exact ⟨none, 0, rfl, by simp, by unfold maxLen; omega, ReqsAt.none, (fun x hx => by cases hx), h9, hgw9⟩
    )
    go_upto_region 5 with fail
    try simp only [Act.put]
    refine wp_region_list ?_
    refine wpList_step fun K hK => ?_
    go_simp
    refine hK _ _ ?_
    clear hK K
    refine wpList_store_mid rfl 24 _ _ rfl _ _ #[.bool true, .slice none 0 0] rfl rfl hN iszB (by simp [Value.oneCell']) ?_
    go_wp2
    exact bodyPost_ret (v := .agg #[.bool true, .slice none 0 0]) (by simp [results, Tryz.results92, asAddr, hrs, Act.put]) rfl HF.out
  · rw [if_neg hx0] at HG
    obtain ⟨K, rfl⟩ : ∃ K : Nat, x1 = (K : Int) + 1 := ⟨(x1 - 1).toNat, by omega⟩
    have hK4 : K ≤ 4 := by omega
    have b1 : (((K : Int) + 1) == 0) = false := by simp; omega
    have e3 : ((K : Int) + 1 - 1).toNat = K := by omega
    rw [e3] at HG
    have HB := hide hbs2
    clear hx0 hx1 e3 hbs2 hz0 hx3
    have hB3 : Below w2.heap.size w2 (w2.alloc (.cells #[.bool false, .slice none 0 0] 24)) := (Below.refl _ _).alloc (Nat.le_refl _) _
    have HL0 : Hid (RL2 D w R w2.heap.size x2 x3 0 (.slice none 0 0) (w2.alloc (.cells #[.bool false, .slice none 0 0] 24))) := hide
      ⟨World.ownsRow_nil _ _ _ _, h2.below hB3, gb_onR hgw2 hB3 hgw2.size, there_below hN2 hB3 (by omega), range_new w2 #[.bool false, .slice none 0 0] 24, there_new w2 #[.bool false, .slice none 0 0] 24, by simp⟩
    have hVw : w.heap.size + 1 ≤ w2.heap.size := hs2
    clear h2 hgw2 hN2 hs2 hB3
    go_upto_region 7 with fail
    go_name_world w3 hw3
    rw [show w2.alloc (.cells #[.bool false, .slice none 0 0] 24) = w3 from hw3] at HL0
    clear hw3 c2
    obtain ⟨V, hVe⟩ : ∃ V, Hid (w2.heap.size = V) := ⟨_, hide rfl⟩
    rw [hVe.out] at HL0 hVw ⊢
    have vset : ∀ (k : Nat) (u : List Value) (wa wb : World) (v' : Value) (W : World) (vv : Value), RL2 D w R V x2 x3 k vv W → RSt D wa R (getRs (k + 1) x2 x3).2.1 (getRs (k + 1) x2 x3).2.2 → W.grownBy wa (some R) → flatR (getRs (k + 1) x2 x3).1 = flatR (getRs k x2 x3).1 ++ u → wb.ownsRow (V + 1) 93 19 v' (k + 1) (flatR (getRs k x2 x3).1 ++ u) → Below (V + 1) wa wb → RL2 D w R V x2 x3 (k + 1) v' (wb.setCell ⟨V, 1, none⟩ v') := fun k u wa wb v' W vv hr sa ga he ob bb => by
      have hVW : V < W.heap.size := hr.size
      have e1 := range_below (range_gbR hr.box ga hVW (by omega)) bb (by omega)
      have e2 := range_set e1 1 v'
      rw [Nat.zero_add] at e2
      have hgs : wb.grownBy (wb.setCell ⟨V, 1, none⟩ v') (some V) := gb_set wb V 1 v'
      refine ⟨?_, ?_, ?_, there_set (there_below (there_gbR hr.res ga (by omega) (by omega)) bb (by omega)) _ _, e2, there_set (there_below (there_gbR hr.boxT ga hVW (by omega)) bb (by omega)) _ _, by rw [World.size_setCell]; exact Nat.le_trans (Nat.le_trans hr.size ga.size) bb.size⟩
      · rw [he]
        exact own19 ob hgs (fun g hh => by cases hh; omega)
      · exact (rst_low sa bb (by omega)).gb hgs (.inr (by omega))
      · exact gb_onR (gb_trans hr.gb ga) ((bb.mono (show w.heap.size ≤ V + 1 by omega)).setCell (p := ⟨V, 1, none⟩) (by show w.heap.size ≤ V; omega) v') (Nat.le_refl _)
    have HVS := hide vset
    clear vset
    go_wp2
    go_loopw [5] (fun iv wr => ∃ (k : Nat), k ≤ K ∧ iv = .int .i64 ((k : Int) + 1) ∧ Hid (∃ v, RL2 D w R V x2 x3 k v wr)) (fun iv _ => K + 1 - (intOf iv).toNat)
    case atStart => exact ⟨0, by omega, rfl, hide ⟨_, HL0.out⟩⟩
    case round =>
      clear HL0
      obtain ⟨k, hk, rfl, HL⟩ := hrel
      obtain ⟨v, hL⟩ := HL.out
      clear HL
      by_cases hlt : k < K
      · have k1 : (k : Int) + 1 < (K : Int) + 1 := by omega
        obtain ⟨⟨j, hj⟩, hje⟩ := getRs_sub k x2 x3
        have hok := rqOf_ok (rest := (getRs k x2 x3).2.1) (e := (getRs k x2 x3).2.2) (fun h0 => by rw [hj]; exact (HB.out (hje h0)).sub _)
        have cg := fun w0 h0 => refRGet_any D R (getRs k x2 x3).2.1 (getRs k x2 x3).2.2 w0 h0
        simp only [rqOf_cells] at cg
        have HS : Hid (flatR (getRs (k + 1) x2 x3).1 = flatR (getRs k x2 x3).1 ++ (rqOf (rgetR (getRs k x2 x3).2.1 (getRs k x2 x3).2.2)).cells) := hide (by
          show flatR ((getRs k x2 x3).1 ++ [rqOf (rgetR (getRs k x2 x3).2.1 (getRs k x2 x3).2.2)]) = _
          rw [flatR_append]
          simp [flatR])
        have HT : Hid ((getRs (k + 1) x2 x3).2 = ((rgetR (getRs k x2 x3).2.1 (getRs k x2 x3).2.2).rest, (rgetR (getRs k x2 x3).2.1 (getRs k x2 x3).2.2).err)) := hide rfl
        obtain ⟨g, hg⟩ : ∃ g, Hid (rgetR (getRs k x2 x3).2.1 (getRs k x2 x3).2.2 = g) := ⟨_, hide rfl⟩
        rw [hg.out] at hok HS HT
        simp only [hg.out] at cg
        obtain ⟨r, hr⟩ : ∃ r, Hid (rqOf g = r) := ⟨_, hide rfl⟩
        rw [hr.out] at hok HS
        simp only [hr.out] at cg
        have hul := hok.length
        have hone := r.one
        obtain ⟨u, hu⟩ : ∃ u, Hid (r.cells = u) := ⟨_, hide rfl⟩
        rw [hu.out] at HS hul hone
        simp only [hu.out] at cg
        have hfold := fold_u #[.int .i64 0, .int .i64 0, .string ⟨#[]⟩, .int .u8 0, .int .u8 0, .int .u8 0, .int .u8 0, .int .u8 0, .int .u8 0, .int .u8 0, .int .u8 0, .int .u8 0, .int .u8 0, .int .u8 0, .int .u8 0, .int .u8 0, .int .u8 0, .int .u8 0, .int .u8 0] u (by rw [hul]; rfl)
        clear hg hr hu hok hj hje
        go_upto_region 10 with fail
        obtain ⟨w5, hw5⟩ : ∃ w5, wr.drew = w5 := ⟨_, rfl⟩
        have hd : Below wr.heap.size wr wr.drew := (Below.refl _ _).drew
        have hL5 : RL2 D w R V x2 x3 k v w5 := by
          rw [← hw5]
          exact ⟨own19 hL.own (row := none) (World.grownBy_drew1 wr) (fun g hh => by cases hh), hL.st.below hd, gb_onR hL.gb hd hL.gb.size, there_below hL.res hd (by have := hL.size; omega), range_below hL.box hd (by have := hL.size; omega), there_below hL.boxT hd (by have := hL.size; omega), Nat.le_trans hL.size hd.size⟩
        have vc5 : w5.cell? ⟨V, 1, none⟩ = some v := hL5.box 1 _ rfl
        have own5 := hL5.own
        have boxT5 := hL5.boxT
        have hs5 := hL5.size
        have hV5 : V < w5.heap.size := hs5
        have cg5 := cg w5 hL5.st
        have vset : ∀ (wa wb : World) (v' : Value), RSt D wa R g.rest g.err → w5.grownBy wa (some R) → wb.ownsRow (V + 1) 93 19 v' (k + 1) (flatR (getRs k x2 x3).1 ++ u) → Below (V + 1) wa wb → Hid (∃ v, RL2 D w R V x2 x3 (k + 1) v (wb.setCell ⟨V, 1, none⟩ v')) := fun wa wb v' sa ga ob bb => hide ⟨v', HVS.out k u wa wb v' w5 v hL5 (by rw [HT.out]; exact sa) ga HS.out ob bb⟩
        have vst : ∀ (wb : World), wb.there V 0 2 → ∀ a n c, (storeVar 22 ⟨V, 1, none⟩ (.slice a n c)).run Tryz.prog wb = .ok () (wb.setCell ⟨V, 1, none⟩ (.slice a n c)) := fun wb hb a n c => store1 hb a n c
        clear hL HS HT HVS cg
        refine hs_begin (S := (fun _ : World => True)) 8 rfl (by kernel_rfl) ?_
        rw [hw5]
        clear hw5 hd
        have hS : (fun _ : World => True) w5 := trivial
        refine hs_take (i := 0) (d := some 22) (v := ?_) rfl (by kernel_rfl) (by kernel_rfl) (by kernel_rfl) (by rfl) ?_ hS rfl ?_
        rotate_left
        · intro w' hw
          go_simp
          try with_reducible rfl
        simp only [Act.put, List.setIfInBounds_toArray, List.set_cons_zero, List.set_cons_succ]
        refine hs_take (i := 2) (d := some 24) (v := ?_) rfl (by kernel_rfl) (by kernel_rfl) (by kernel_rfl) (by rfl) ?_ hS rfl ?_
        rotate_left
        · intro w' hw
          go_simp
          try with_reducible rfl
        simp only [Act.put, List.setIfInBounds_toArray, List.set_cons_zero, List.set_cons_succ]
        refine hs_fork (i := 1) (j := 3) (by kernel_rfl) ?_ ?_
        · have hS : (fun _ : World => True) w5 := trivial
          refine st_run (i := 1) (d := some 23) (v := v) (w' := w5) rfl (by rfl) (by have hc := vc5; go_simp) rfl hS ?_
          simp only [Act.put, List.setIfInBounds_toArray, List.set_cons_zero, List.set_cons_succ]
          refine hs_call (i := 3) (d := some 25) rfl (by kernel_rfl) (by rfl) (by go_simp; first | done | exact ⟨rfl, rfl⟩ | with_reducible rfl) rfl ?_
          refine (cg5).mono ?_
          rintro e' w6 ⟨rfl, s6, g6⟩
          have hS : (fun _ : World => True) w6 := trivial
          refine ⟨_, rfl, hS, ?_⟩
          simp only [Act.put, List.setIfInBounds_toArray, List.set_cons_zero, List.set_cons_succ]
          have hc6 := (ref_cell (o := 1) g6 hV5 (by omega)).trans vc5
          obtain ⟨g', c', w7, hr5, own7, b7⟩ := step_req (own19 own5 g6 (fun g hh => by cases hh; omega)) hul hone (Nat.le_trans hs5 g6.size) (by omega)
          have hS : (fun _ : World => True) (w6.alloc (.cells u.toArray 93)) := trivial
          refine hs_run (i := 4) (d := some 26) (v := .slice (some ⟨w6.heap.size, 0, none⟩) 1 1) (w' := (w6.alloc (.cells u.toArray 93))) rfl (by kernel_rfl) (by rfl) (by go_simp; try with_reducible rfl) rfl hS ?_
          simp only [Act.put, List.setIfInBounds_toArray, List.set_cons_zero, List.set_cons_succ]
          have hS : (fun _ : World => True) w7 := trivial
          refine hs_run (i := 5) (d := some 27) (v := (.slice (some ⟨g', 0, none⟩) (k + 1) c')) (w' := w7) rfl (by kernel_rfl) (by rfl) (exec_append rfl rfl rfl hr5) rfl hS ?_
          simp only [Act.put, List.setIfInBounds_toArray, List.set_cons_zero, List.set_cons_succ]
          refine hs_take (i := 6) (d := some 28) (v := ?_) rfl (by kernel_rfl) (by kernel_rfl) (by kernel_rfl) (by rfl) ?_ hS rfl ?_
          rotate_left
          · intro w' hw
            go_simp
            try with_reducible rfl
          simp only [Act.put, List.setIfInBounds_toArray, List.set_cons_zero, List.set_cons_succ]
          have hw8 := vset w6 w7 _ s6 g6 own7 b7
          have hst := vst w7 (there_below (there_gbR boxT5 g6 hV5 (by omega)) b7 (by omega))
          refine hs_store (i := 7) (w' := (w7.setCell ⟨V, 1, none⟩ (.slice (some ⟨g', 0, none⟩) (k + 1) c'))) rfl (by kernel_rfl) (by rfl) (exec_store rfl rfl rfl (hst _ _ _)) rfl trivial ?_
          refine hs_done (by kernel_rfl) ?_
          go_wp2
          go_roundw
          case rel => exact ⟨k + 1, by omega, by go_num, hw8⟩
          case measure => simp [intOf]; omega
        · refine st_call (i := 3) (d := some 25) rfl (by rfl) (by go_simp; first | done | exact ⟨rfl, rfl⟩ | with_reducible rfl) rfl ?_
          refine (cg5).mono ?_
          rintro e' w6 ⟨rfl, s6, g6⟩
          have hS : (fun _ : World => True) w6 := trivial
          refine ⟨_, rfl, hS, ?_⟩
          simp only [Act.put, List.setIfInBounds_toArray, List.set_cons_zero, List.set_cons_succ]
          have hc6 := (ref_cell (o := 1) g6 hV5 (by omega)).trans vc5
          obtain ⟨g', c', w7, hr5, own7, b7⟩ := step_req (own19 own5 g6 (fun g hh => by cases hh; omega)) hul hone (Nat.le_trans hs5 g6.size) (by omega)
          refine hs_fork (i := 1) (j := 4) (by kernel_rfl) ?_ ?_
          · have hS : (fun _ : World => True) w6 := trivial
            refine st_run (i := 1) (d := some 23) (v := v) (w' := w6) rfl (by rfl) (by have hc := hc6; go_simp) rfl hS ?_
            simp only [Act.put, List.setIfInBounds_toArray, List.set_cons_zero, List.set_cons_succ]
            have hS : (fun _ : World => True) (w6.alloc (.cells u.toArray 93)) := trivial
            refine hs_run (i := 4) (d := some 26) (v := .slice (some ⟨w6.heap.size, 0, none⟩) 1 1) (w' := (w6.alloc (.cells u.toArray 93))) rfl (by kernel_rfl) (by rfl) (by go_simp; try with_reducible rfl) rfl hS ?_
            simp only [Act.put, List.setIfInBounds_toArray, List.set_cons_zero, List.set_cons_succ]
            have hS : (fun _ : World => True) w7 := trivial
            refine hs_run (i := 5) (d := some 27) (v := (.slice (some ⟨g', 0, none⟩) (k + 1) c')) (w' := w7) rfl (by kernel_rfl) (by rfl) (exec_append rfl rfl rfl hr5) rfl hS ?_
            simp only [Act.put, List.setIfInBounds_toArray, List.set_cons_zero, List.set_cons_succ]
            refine hs_take (i := 6) (d := some 28) (v := ?_) rfl (by kernel_rfl) (by kernel_rfl) (by kernel_rfl) (by rfl) ?_ hS rfl ?_
            rotate_left
            · intro w' hw
              go_simp
              try with_reducible rfl
            simp only [Act.put, List.setIfInBounds_toArray, List.set_cons_zero, List.set_cons_succ]
            have hw8 := vset w6 w7 _ s6 g6 own7 b7
            have hst := vst w7 (there_below (there_gbR boxT5 g6 hV5 (by omega)) b7 (by omega))
            refine hs_store (i := 7) (w' := (w7.setCell ⟨V, 1, none⟩ (.slice (some ⟨g', 0, none⟩) (k + 1) c'))) rfl (by kernel_rfl) (by rfl) (exec_store rfl rfl rfl (hst _ _ _)) rfl trivial ?_
            refine hs_done (by kernel_rfl) ?_
            go_wp2
            go_roundw
            case rel => exact ⟨k + 1, by omega, by go_num, hw8⟩
            case measure => simp [intOf]; omega
          · have hS : (fun _ : World => True) (w6.alloc (.cells u.toArray 93)) := trivial
            refine st_run (i := 4) (d := some 26) (v := .slice (some ⟨w6.heap.size, 0, none⟩) 1 1) (w' := (w6.alloc (.cells u.toArray 93))) rfl (by rfl) (by go_simp; try with_reducible rfl) rfl hS ?_
            simp only [Act.put, List.setIfInBounds_toArray, List.set_cons_zero, List.set_cons_succ]
            have hc7 : (w6.alloc (.cells u.toArray 93)).cell? ⟨V, 1, none⟩ = some v := (((Below.refl w6.heap.size w6).alloc (Nat.le_refl _) _).cell (p := ⟨V, 1, none⟩) (Nat.lt_of_lt_of_le hV5 g6.size)).trans hc6
            have hS : (fun _ : World => True) (w6.alloc (.cells u.toArray 93)) := trivial
            refine hs_run (i := 1) (d := some 23) (v := v) (w' := (w6.alloc (.cells u.toArray 93))) rfl (by kernel_rfl) (by rfl) (by have hc := hc7; go_simp) rfl hS ?_
            simp only [Act.put, List.setIfInBounds_toArray, List.set_cons_zero, List.set_cons_succ]
            have hS : (fun _ : World => True) w7 := trivial
            refine hs_run (i := 5) (d := some 27) (v := (.slice (some ⟨g', 0, none⟩) (k + 1) c')) (w' := w7) rfl (by kernel_rfl) (by rfl) (exec_append rfl rfl rfl hr5) rfl hS ?_
            simp only [Act.put, List.setIfInBounds_toArray, List.set_cons_zero, List.set_cons_succ]
            refine hs_take (i := 6) (d := some 28) (v := ?_) rfl (by kernel_rfl) (by kernel_rfl) (by kernel_rfl) (by rfl) ?_ hS rfl ?_
            rotate_left
            · intro w' hw
              go_simp
              try with_reducible rfl
            simp only [Act.put, List.setIfInBounds_toArray, List.set_cons_zero, List.set_cons_succ]
            have hw8 := vset w6 w7 _ s6 g6 own7 b7
            have hst := vst w7 (there_below (there_gbR boxT5 g6 hV5 (by omega)) b7 (by omega))
            refine hs_store (i := 7) (w' := (w7.setCell ⟨V, 1, none⟩ (.slice (some ⟨g', 0, none⟩) (k + 1) c'))) rfl (by kernel_rfl) (by rfl) (exec_store rfl rfl rfl (hst _ _ _)) rfl trivial ?_
            refine hs_done (by kernel_rfl) ?_
            go_wp2
            go_roundw
            case rel => exact ⟨k + 1, by omega, by go_num, hw8⟩
            case measure => simp [intOf]; omega
      · obtain rfl : k = K := by omega
        have k1 : ¬ (k : Int) + 1 < (k : Int) + 1 := by omega
        have HA := hide (getRs_ok (rest := x2) (e := x3) HB.out k)
        have HLen := hide (getRs_length k x2 x3)
        have hown := hL.own
        obtain ⟨aa, capp, rfl, hc1, hc2, hrow, hlo⟩ := own_reqs (rs := (getRs k x2 x3).1) (by rw [HLen.out]; exact hown) HA.out (by rw [HLen.out]; unfold maxLen; omega)
        rw [HLen.out] at hc1
        have hbx := hL.box
        rw [HLen.out] at hbx
        have c2 := hL.st.cell2
        have hst := hL.st
        have hgb := hL.gb
        have hres := hL.res
        clear hL hown HVS
        obtain ⟨er, her⟩ : ∃ er, Hid ((getRs k x2 x3).2.2 = er) := ⟨_, hide rfl⟩
        rw [her.out] at c2 hst HG
        by_cases he : er = 0
        · have b2 : (er == 0) = true := by simpa using he
          rw [if_pos he] at HG
          have hN := hres
          have hRr := World.rangeAt_setCells_same wr w.heap.size 0 [.bool false, .slice aa k capp] hN
          have hg9 : wr.grownBy (wr.setCells w.heap.size 0 [.bool false, .slice aa k capp]) (some w.heap.size) := gb_setsR wr w.heap.size _ 0
          have h9 := hst.gb hg9 (.inr hRw)
          have hgw9 := gb_onR hgb (below_sets (Nat.le_refl w.heap.size) [.bool false, .slice aa k capp] 0 wr (Below.refl w.heap.size wr)) (Nat.le_refl _)
          have hrs := run_loadVar_mid (P := Tryz.prog) (wr.setCells w.heap.size 0 [.bool false, .slice aa k capp]) w.heap.size 0 24 [.bool false, .slice aa k capp] _ hRr Tryz.underlying24 rfl iszB
          have HF : Hid (∃ a cap, Ending.returned (.agg #[.bool false, .slice aa k capp]) = .returned (batV G.q a G.rs.length cap) ∧ G.rs.length ≤ cap ∧ cap ≤ maxLen ∧ ReqsAt (wr.setCells w.heap.size 0 [.bool false, .slice aa k capp]) a G.rs ∧ (∀ x, a = some x → w.heap.size ≤ x.block) ∧ RSt D (wr.setCells w.heap.size 0 [.bool false, .slice aa k capp]) R G.rest G.err ∧ w.grownBy (wr.setCells w.heap.size 0 [.bool false, .slice aa k capp]) (some R)) := hide (by
            rw [← HG.out]
            refine ⟨aa, capp, ?_, ?_, hc2, hrow.gb1 hg9 (fun x hx => by have := hlo x hx; omega), fun x hx => by have := hlo x hx; omega, h9, hgw9⟩
            · simp only [HLen.out]; rfl
            · simp only [HLen.out]; exact hc1
          )
          go_upto_region 13 with fail
          try simp only [Act.put]
          refine wp_region_list ?_
          refine wpList_load_mid rfl 24 _ rfl _ _ rfl [.bool false, .slice aa k capp] _ hbx Tryz.underlying24 rfl iszB ?_
          refine wpList_store_mid rfl 24 _ _ rfl _ _ #[.bool false, .slice aa k capp] rfl rfl hN iszB (by simp [Value.oneCell']) ?_
          go_wp2
          exact bodyPost_ret (v := .agg #[.bool false, .slice aa k capp]) (by simp [results, Tryz.results92, asAddr, hrs]) rfl HF.out
        · have b2 : (er == 0) = false := by simpa using he
          rw [if_neg he] at HG
          have hN := hres
          have hRr := World.rangeAt_setCells_same wr w.heap.size 0 [.bool false, .slice none 0 0] hN
          have hg9 : wr.grownBy (wr.setCells w.heap.size 0 [.bool false, .slice none 0 0]) (some w.heap.size) := gb_setsR wr w.heap.size _ 0
          have h9 := hst.gb hg9 (.inr hRw)
          have hgw9 := gb_onR hgb (below_sets (Nat.le_refl w.heap.size) [.bool false, .slice none 0 0] 0 wr (Below.refl w.heap.size wr)) (Nat.le_refl _)
          have hrs := run_loadVar_mid (P := Tryz.prog) (wr.setCells w.heap.size 0 [.bool false, .slice none 0 0]) w.heap.size 0 24 [.bool false, .slice none 0 0] _ hRr Tryz.underlying24 rfl iszB
          have HF : Hid (∃ a cap, Ending.returned (.agg #[.bool false, .slice none 0 0]) = .returned (batV G.q a G.rs.length cap) ∧ G.rs.length ≤ cap ∧ cap ≤ maxLen ∧ ReqsAt (wr.setCells w.heap.size 0 [.bool false, .slice none 0 0]) a G.rs ∧ (∀ x, a = some x → w.heap.size ≤ x.block) ∧ RSt D (wr.setCells w.heap.size 0 [.bool false, .slice none 0 0]) R G.rest G.err ∧ w.grownBy (wr.setCells w.heap.size 0 [.bool false, .slice none 0 0]) (some R)) := hide (by
            rw [← HG.out]
            exact ⟨none, 0, rfl, by simp, by unfold maxLen; omega, ReqsAt.none, (fun x hx => by cases hx), h9, hgw9⟩
          )
          go_upto_region 12 with fail
          try simp only [Act.put]
          refine wp_region_list ?_
          refine wpList_step fun K hK => ?_
          go_simp
          refine hK _ _ ?_
          clear hK K
          refine wpList_store_mid rfl 24 _ _ rfl _ _ #[.bool false, .slice none 0 0] rfl rfl hN iszB (by simp [Value.oneCell']) ?_
          go_wp2
          exact bodyPost_ret (v := .agg #[.bool false, .slice none 0 0]) (by simp [results, Tryz.results92, asAddr, hrs]) rfl HF.out
/-- the state of the document's reader: the bytes that are left, its error -/
abbrev Xst := List Int × Int
structure XR (w : World) (D X : Nat) (s : Xst) : Prop where
  st : RSt D w X s.1 s.2
  lx : X < w.heap.size
  ld : D ≤ X
theorem RSt.bs {D X : Nat} {w : World} {rest : List Int} {e : Int} (h : RSt D w X rest e) : e = 0 → Bs rest := fun he => by
  obtain ⟨zs, p, ⟨_, ⟨a, cap, _, _, _, hr, _⟩, _⟩, h2⟩ := h
  rw [← h2 he]
  exact Bs.sub (fun z hz => hr.2.1 z hz) _
theorem XR.gb {w w' : World} {D X : Nat} {s s' : Xst} (h : XR w D X s) (hg : w.grownBy w' (some X)) (hs : RSt D w' X s'.1 s'.2) : XR w' D X s' := ⟨hs, Nat.lt_of_lt_of_le h.lx hg.size, h.ld⟩
theorem XR.low {w w' : World} {D X n : Nat} {s : Xst} (h : XR w D X s) (hb : Below n w w') (hX : X < n) : XR w' D X s := ⟨rst_low h.st hb hX, Nat.lt_of_lt_of_le h.lx hb.size, h.ld⟩
theorem XR.below {w w' : World} {D X : Nat} {s : Xst} (h : XR w D X s) (hb : Below w.heap.size w w') : XR w' D X s := h.low hb h.lx
def xnuS (most : Int) (s : Xst) : Int × Xst := numS s.1 s.2 most
def xdgS (s : Xst) : List Int × Xst := (padN 32 (rawS s.1 s.2 32).1, (rawS s.1 s.2 32).2)
def xtgS (s : Xst) : List Int × Xst := (padN 16 (rawS s.1 s.2 16).1, (rawS s.1 s.2 16).2)
def xtxS (most : Int) (s : Xst) : ByteArray × Xst := (strOf (textS s.1 s.2 most).1, (textS s.1 s.2 most).2)
def xsiS (s : Xst) : Sg × Xst := (⟨(xnuS 64 s).1, (xtgS (xnuS 64 s).2).1⟩, (xtgS (xnuS 64 s).2).2)
def xenS (s : Xst) : Ev × Xst := (⟨(xnuS 64 s).1, (xtxS 4194304 (xnuS 64 s).2).1, (xtgS (xtxS 4194304 (xnuS 64 s).2).2).1⟩, (xtgS (xtxS 4194304 (xnuS 64 s).2).2).2)
def xvoS (s : Xst) : Vt × Xst := xvtS s.1 s.2
def xbaS (s : Xst) : (Bool × List Rq) × Xst := (((getB s.1 s.2).q, (getB s.1 s.2).rs.map BRq.un), (getB s.1 s.2).rest, (getB s.1 s.2).err)
/-- things one behind the other, as long as there is no error -/
def xitG {α : Type} (one : Xst → α × Xst) (s : Xst) : Nat → List α × Xst
  | 0 => ([], s)
  | k + 1 => if (xitG one s k).2.2 = 0 then ((xitG one s k).1 ++ [(one (xitG one s k).2).1], (one (xitG one s k).2).2) else xitG one s k
theorem xitG_stop {α : Type} {one : Xst → α × Xst} {s : Xst} {k : Nat} (h : (xitG one s k).2.2 ≠ 0) : ∀ n, k ≤ n → xitG one s n = xitG one s k := by
  intro n hn
  induction n with
  | zero => obtain rfl : k = 0 := by omega
            rfl
  | succ n ih =>
    by_cases e : k = n + 1
    · rw [e]
    · have := ih (by omega)
      show (if (xitG one s n).2.2 = 0 then _ else xitG one s n) = _
      rw [this, if_neg h]
theorem xitG_length {α : Type} (one : Xst → α × Xst) (s : Xst) (k : Nat) : (xitG one s k).1.length ≤ k := by
  induction k with
  | zero => exact Nat.le_refl _
  | succ k ih =>
    show (if (xitG one s k).2.2 = 0 then ((xitG one s k).1 ++ [(one (xitG one s k).2).1], (one (xitG one s k).2).2) else xitG one s k).1.length ≤ _
    split
    · simp only [List.length_append, List.length_cons, List.length_nil]; omega
    · omega
def xlsS {α : Type} (most : Int) (one : Xst → α × Xst) (s : Xst) : List α × Xst := xitG one (xnuS most s).2 (xnuS most s).1.toNat
theorem xnumS (D X : Nat) (most : Int) (s : Xst) (w : World) (h : XR w D X s) : Calls Tryz.prog 43 #[.pointer (some ⟨X, 0, none⟩), .int .i64 most] w fun en w' => en = .returned (.int .i64 (xnuS most s).1) ∧ XR w' D X (xnuS most s).2 ∧ w.grownBy w' (some X) :=
  (refNum_any (B := D) X s.1 s.2 most w h.st).mono (by rintro _ w1 ⟨rfl, h1, h2⟩; exact ⟨rfl, h.gb h2 h1, h2⟩)
theorem xtagS (D X : Nat) (s : Xst) (w : World) (h : XR w D X s) : Calls Tryz.prog 128 #[.pointer (some ⟨X, 0, none⟩)] w fun en w' => en = .returned (.agg (v8 (xtgS s).1).toArray) ∧ XR w' D X (xtgS s).2 ∧ w.grownBy w' (some X) :=
  (xtagR_any D X s.1 s.2 w h.st h.lx h.ld).mono (by rintro _ w1 ⟨rfl, h1, h2⟩; exact ⟨rfl, h.gb h2 h1, h2⟩)
theorem xdigS (D X : Nat) (s : Xst) (w : World) (h : XR w D X s) : Calls Tryz.prog 96 #[.pointer (some ⟨X, 0, none⟩)] w fun en w' => en = .returned (.agg (v8 (xdgS s).1).toArray) ∧ XR w' D X (xdgS s).2 ∧ w.grownBy w' (some X) :=
  (xdigestR_any D X s.1 s.2 w h.st h.lx h.ld).mono (by rintro _ w1 ⟨rfl, h1, h2⟩; exact ⟨rfl, h.gb h2 h1, h2⟩)
theorem xtextS (D X : Nat) (most : Int) (s : Xst) (w : World) (h : XR w D X s) : Calls Tryz.prog 98 #[.pointer (some ⟨X, 0, none⟩), .int .i64 most] w fun en w' => en = .returned (.string (xtxS most s).1) ∧ XR w' D X (xtxS most s).2 ∧ w.grownBy w' (some X) :=
  (refText_any (B := D) X s.1 s.2 most w h.st).mono (by rintro _ w1 ⟨rfl, h1, h2⟩; exact ⟨rfl, h.gb h2 h1, h2⟩)
theorem xvoteS (D X : Nat) (s : Xst) (w : World) (h : XR w D X s) : Calls Tryz.prog 93 #[.pointer (some ⟨X, 0, none⟩)] w fun en w' => en = .returned (.agg (xvoS s).1.cells.toArray) ∧ XR w' D X (xvoS s).2 ∧ w.grownBy w' (some X) :=
  (xgetVote_any D X s.1 s.2 w h.st h.lx h.ld).mono (by rintro _ w1 ⟨rfl, h1, h2⟩; exact ⟨rfl, h.gb h2 h1, h2⟩)
theorem xbatS (D X : Nat) (s : Xst) (w : World) (h : XR w D X s) : Calls Tryz.prog 92 #[.pointer (some ⟨X, 0, none⟩)] w fun en w' => ∃ x : Sl Rq, en = .returned (.agg #[.bool (xbaS s).1.1, x.val]) ∧ x.xs = (xbaS s).1.2 ∧ x.At RqE w' ∧ x.Bk (fun b => w.heap.size ≤ b ∧ b < w'.heap.size) ∧ XR w' D X (xbaS s).2 ∧ w.grownBy w' (some X) :=
  (refBget_any D X s.1 s.2 w h.st h.st.bs).mono (by
    rintro _ w1 ⟨a, cap, rfl, h1, h2, h3, h4, h5, h6⟩
    have e : (getB s.1 s.2).rs.length = ((getB s.1 s.2).rs.map BRq.un).length := (List.length_map ..).symm
    refine ⟨⟨a, cap, _⟩, ?_, rfl, rows_req h3, ?_, h.gb h6 h5, h6⟩
    · show _ = Ending.returned (.agg #[_, .slice a ((getB s.1 s.2).rs.map BRq.un).length cap])
      rw [← e]; rfl
    · intro b hne hb
      refine ⟨h4 b hb, ?_⟩
      rcases h3.2.2 with q | ⟨c, off, e1, h7, _⟩
      · exact absurd (by show ((getB s.1 s.2).rs.map BRq.un) = []; rw [q]; rfl) hne
      · have hb : a = some b := hb
        rw [hb] at e1
        injection e1 with e1
        rw [e1]
        exact h7)
theorem xsiS_ok (s : Xst) (hb : s.2 = 0 → Bs s.1) : SgE.ok (xsiS s).1 := siS_ok (s.1, s.2, false) hb
theorem xenS_ok (s : Xst) (hb : s.2 = 0 → Bs s.1) : EvE.ok (xenS s).1 := enS_ok (s.1, s.2, false) hb
theorem xvoS_ok (s : Xst) (hb : s.2 = 0 → Bs s.1) : (xvoS s).1.ok := by
  have b0 := numS_bz (most := 2) hb
  have hk : kdE s.1 s.2 2 = 0 → Bs (numS s.1 s.2 2).2.1 := fun h => by
    refine b0 ?_
    unfold kdE at h
    by_cases q : ((numS s.1 s.2 2).2.2 == 0) = true
    · simpa using q
    · rw [if_neg q] at h; exact h
  have b2 := numS_bz (most := 1048576) hk
  have b3 := numS_bz (most := 1099511627776) b2
  have b4 := numS_bz (most := 1099511627776) b3
  have h1 := (numS_bd (most := 2) hb (by omega)).2
  have h2 := (numS_bd (most := 1048576) hk (by omega)).2
  have h3 := (numS_bd (most := 1099511627776) b2 (by omega)).2
  have h4 := (numS_bd (most := 1099511627776) b3 (by omega)).2
  exact ⟨Int.le_trans h1 (by decide), Int.le_trans h2 (by decide), Int.le_trans h3 (by decide), Int.le_trans h4 (by decide), padN_len _ _, padN_bs (rawS_t b4)⟩
/-- things were read into a row of one's own -/
structure XL {α : Type} (w : World) (D X : Nat) (E : El α) (Te : TypeId) (one : Xst → α × Xst) (t : Xst) (k : Nat) (v : Value) (W : World) : Prop where
  own : W.ownsRow w.heap.size Te E.k v (xitG one t k).1.length ((xitG one t k).1.flatMap E.f)
  rs : XR W D X (xitG one t k).2
  gr : w.grownBy W (some X)
  ok : ∀ y ∈ (xitG one t k).1, E.ok y
end Go.Proofs.YtgjalkbianpibaaGreat
