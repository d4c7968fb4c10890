/- records: what their kind has, and the message that they are told as (the document's) -/
import Derived.Test.YtinndbipomlokaaGreatJA0
import Derived.Test.YtinndbipomlokaaGreatJA11
namespace Go.Proofs.YtinndbipomlokaaGreat
open Go.RowKit
open Sha Tal
set_option linter.unusedVariables false
set_option linter.unusedSimpArgs false
theorem bat_all (q : Bool) (x : Sl Rq) : (#[Value.bool q, x.val] : Array Value).all (·.oneCell') = true := all_one (cs := [.bool q, x.val]) (by
 intro v hv
 simp only [List.mem_cons, List.not_mem_nil, or_false] at hv
 rcases hv with rfl | rfl <;> rfl)
def Rc.zero (k : Int) : Rc := ⟨k, 0, 0, 0, false, ⟨none, 0, []⟩, Vt.zero, ⟨none, 0, []⟩, ⟨#[]⟩, ⟨none, 0, []⟩⟩
def Rc.bare (r : Rc) : Rc :=
  if r.k = 1 then { Rc.zero 1 with s := r.s, v := r.v, q := r.q, rs := r.rs }
  else if r.k = 2 then { Rc.zero 2 with q := r.q, rs := r.rs, ct := r.ct, cs := r.cs }
  else if r.k = 4 then { Rc.zero 4 with q := r.q, rs := r.rs, ct := r.ct, cs := r.cs }
  else if r.k = 3 then { Rc.zero 3 with l := r.l, v := r.v }
  else if r.k = 5 then { Rc.zero 5 with st := r.st, sg := r.sg }
  else Rc.zero r.k
def Rc.xtold (r : Rc) : Mg :=
  if r.k = 1 then { Mg.plain 1 with s := r.s, q := r.q, rs := r.rs }
  else if r.k = 3 then { Mg.plain 4 with l := r.l, v := r.v }
  else if r.k = 5 then { Mg.plain 8 with st := r.st, sg := r.sg }
  else { Mg.plain 7 with q := r.q, rs := r.rs, ct := r.ct, cs := r.cs }
theorem Rc.zero_at (k : Int) (w : World) : (Rc.zero k).At w := ⟨RowsAt.none, RowsAt.none, RowsAt.none⟩
theorem Rc.bare_ok {r : Rc} (h : r.ct.ok) : r.bare.ct.ok := by
 unfold Rc.bare
 split
 ·exact Vt.zero_ok
 split
 ·exact h
 split
 ·exact h
 split
 ·exact Vt.zero_ok
 split
 ·exact Vt.zero_ok
 ·exact Vt.zero_ok
theorem Rc.bare_at {r : Rc} {w : World} (h : r.At w) : r.bare.At w := by
 unfold Rc.bare
 split
 ·exact ⟨h.rs, RowsAt.none, RowsAt.none⟩
 split
 ·exact ⟨h.rs, h.cs, RowsAt.none⟩
 split
 ·exact ⟨h.rs, h.cs, RowsAt.none⟩
 split
 ·exact ⟨RowsAt.none, RowsAt.none, RowsAt.none⟩
 split
 ·exact ⟨RowsAt.none, RowsAt.none, h.sg⟩
 ·exact Rc.zero_at _ w
theorem Rc.xtold_ok {r : Rc} (h : r.ct.ok) : r.xtold.ok := by
 unfold Rc.xtold
 split
 ·exact ⟨Vt.zero_ok, Vt.zero_ok, zeros32_len, zeros32_byte⟩
 split
 ·exact ⟨Vt.zero_ok, Vt.zero_ok, zeros32_len, zeros32_byte⟩
 split
 ·exact ⟨Vt.zero_ok, Vt.zero_ok, zeros32_len, zeros32_byte⟩
 ·exact ⟨Vt.zero_ok, h, zeros32_len, zeros32_byte⟩
theorem Rc.xtold_at {r : Rc} {w : World} (h : r.At w) : r.xtold.At w := by
 unfold Rc.xtold
 split
 ·exact ⟨h.rs, hds_none, RowsAt.none, RowsAt.none, RowsAt.none⟩
 split
 ·exact ⟨RowsAt.none, hds_none, RowsAt.none, RowsAt.none, RowsAt.none⟩
 split
 ·exact ⟨RowsAt.none, hds_none, RowsAt.none, RowsAt.none, h.sg⟩
 ·exact ⟨h.rs, hds_none, RowsAt.none, h.cs, RowsAt.none⟩
def placesR : Array (Nat × Nat) := #[(0, 1), (1, 1), (2, 1), (3, 1), (4, 2), (6, 37), (43, 1), (44, 1)]
theorem zeroRc (w : World) : (zeroValue 33).run Tryz.prog w = .ok (.agg (Rc.zero 0).cells.toArray) w := by kernel_rfl
set_option maxRecDepth 100000 in
theorem build_rec (parts : Array (Nat × Value)) (cs : List Value) (w : World) (h : Instr.fill (placesR[·]?) (Rc.zero 0).cells.toArray parts.toList = some cs.toArray) : (Instr.build 33 parts).run Tryz.prog w = .ok (.agg cs.toArray) w := by
 have hp : (((Tryz.prog.fieldsOf 33).mapM fun f => do pure (f.offset, ← sizeOf f.type) : Sem (Array (Nat × Nat)))).run Tryz.prog w = .ok placesR w := by kernel_rfl
 have hu : Tryz.prog.underlying 33 = some (.struct (Tryz.prog.fieldsOf 33)) := by kernel_rfl
 unfold Instr.build
 simp only [Sem.run_bind, zeroRc, Result.andThen_ok, run_underlying hu]
 rw [hp]
 simp only [Result.andThen_ok, Value.cells]
 rw [h]
 rfl
theorem build_rk (k : Int) (w : World) : (Instr.build 33 #[(0, .int .i64 k)]).run Tryz.prog w = .ok (.agg (Rc.zero k).cells.toArray) w := by
 refine build_rec _ _ w ?_
 show Instr.fill (placesR[·]?) (([] : List Value) ++ ([Value.int .i64 0] ++ _)).toArray _ = _
 rw [fill_step (off := 0) (n := 1) (vs := [.int .i64 k]) rfl rfl rfl rfl rfl]
 rfl
structure OnB (w : World) (A R X : Nat) (r c : Rc) (W : World) : Prop where
  box : W.rangeAt A 0 r.cells
  own : W.rangeAt X 0 c.cells
  thX : W.there X 0 45
  thR : W.there R 0 45
  hb : Below w.heap.size w W
theorem OnB.put {w W : World} {A R X : Nat} {r c c' : Rc} (h : OnB w A R X r c W) (hA : A ≠ X) (hX : w.heap.size ≤ X) (pre mid vs post : List Value) (e1 : c.cells = pre ++ (mid ++ post)) (e2 : c'.cells = pre ++ (vs ++ post)) (o : Nat) (ho : pre.length = o) (hl : vs.length = mid.length) (hn : o + vs.length ≤ 45) : OnB w A R X r c' (W.setCells X o vs) :=
 ⟨World.rangeAt_setCells_apart h.box X o vs (.inl hA), by rw [e2]; exact range_put (by rw [← e1]; exact h.own) o ho (there_part1 h.thX hn) hl, World.there_setCells h.thX X o vs, World.there_setCells h.thR X o vs, below_sets hX vs o _ h.hb⟩
theorem OnB.l {w W : World} {A R X : Nat} {r c : Rc} (h : OnB w A R X r c W) (hA : A ≠ X) (hX : w.heap.size ≤ X) (x : Int) : OnB w A R X r { c with l := x } (W.setCells X 1 [.int .i64 x]) :=
 h.put hA hX [.int .i64 c.k] [.int .i64 c.l] [.int .i64 x] _ rfl rfl 1 rfl rfl (by simp)
theorem OnB.v {w W : World} {A R X : Nat} {r c : Rc} (h : OnB w A R X r c W) (hA : A ≠ X) (hX : w.heap.size ≤ X) (x : Int) : OnB w A R X r { c with v := x } (W.setCells X 2 [.int .i64 x]) :=
 h.put hA hX [.int .i64 c.k, .int .i64 c.l] [.int .i64 c.v] [.int .i64 x] _ rfl rfl 2 rfl rfl (by simp)
theorem OnB.s {w W : World} {A R X : Nat} {r c : Rc} (h : OnB w A R X r c W) (hA : A ≠ X) (hX : w.heap.size ≤ X) (x : Int) : OnB w A R X r { c with s := x } (W.setCells X 3 [.int .i64 x]) :=
 h.put hA hX [.int .i64 c.k, .int .i64 c.l, .int .i64 c.v] [.int .i64 c.s] [.int .i64 x] _ rfl rfl 3 rfl rfl (by simp)
theorem OnB.b {w W : World} {A R X : Nat} {r c : Rc} (h : OnB w A R X r c W) (hA : A ≠ X) (hX : w.heap.size ≤ X) (q : Bool) (x : Sl Rq) : OnB w A R X r { c with q := q, rs := x } (W.setCells X 4 [.bool q, x.val]) :=
 h.put hA hX [.int .i64 c.k, .int .i64 c.l, .int .i64 c.v, .int .i64 c.s] [.bool c.q, c.rs.val] [.bool q, x.val] _ rfl rfl 4 rfl rfl (by simp)
theorem OnB.c {w W : World} {A R X : Nat} {r c : Rc} (h : OnB w A R X r c W) (hA : A ≠ X) (hX : w.heap.size ≤ X) (hc : c.ct.ok) (y : Vt) (hy : y.ok) (x : Sl Sg) : OnB w A R X r { c with ct := y, cs := x } (W.setCells X 6 (certL y x)) :=
 h.put hA hX [.int .i64 c.k, .int .i64 c.l, .int .i64 c.v, .int .i64 c.s, .bool c.q, c.rs.val] (certL c.ct c.cs) (certL y x) _ rfl rfl 6 rfl (by rw [cert_len hc, cert_len hy]) (by rw [cert_len hy]; decide)
theorem OnB.t {w W : World} {A R X : Nat} {r c : Rc} (h : OnB w A R X r c W) (hA : A ≠ X) (hX : w.heap.size ≤ X) (hc : c.ct.ok) (x : ByteArray) : OnB w A R X r { c with st := x } (W.setCells X 43 [.string x]) :=
 h.put hA hX ([.int .i64 c.k, .int .i64 c.l, .int .i64 c.v, .int .i64 c.s, .bool c.q, c.rs.val] ++ certL c.ct c.cs) [.string c.st] [.string x] [c.sg.val] (by simp [Rc.cells]) (by simp [Rc.cells]) 43 (by rw [List.length_append, cert_len hc]; rfl) rfl (by simp)
theorem OnB.g {w W : World} {A R X : Nat} {r c : Rc} (h : OnB w A R X r c W) (hA : A ≠ X) (hX : w.heap.size ≤ X) (hc : c.ct.ok) (x : Sl Sg) : OnB w A R X r { c with sg := x } (W.setCells X 44 [x.val]) :=
 h.put hA hX ([.int .i64 c.k, .int .i64 c.l, .int .i64 c.v, .int .i64 c.s, .bool c.q, c.rs.val] ++ (certL c.ct c.cs ++ [.string c.st])) [c.sg.val] [x.val] [] (by simp [Rc.cells]) (by simp [Rc.cells]) 44 (by simp [cert_len hc]) rfl (by simp)
theorem Rc.bare1 {r : Rc} (h : r.k = 1) : r.bare = { Rc.zero r.k with s := r.s, v := r.v, q := r.q, rs := r.rs } := by
 unfold Rc.bare
 rw [h]
 simp
theorem Rc.bare2 {r : Rc} (h : r.k = 2) : r.bare = { Rc.zero r.k with q := r.q, rs := r.rs, ct := r.ct, cs := r.cs } := by
 unfold Rc.bare
 rw [h]
 simp
theorem Rc.bare4 {r : Rc} (h : r.k = 4) : r.bare = { Rc.zero r.k with q := r.q, rs := r.rs, ct := r.ct, cs := r.cs } := by
 unfold Rc.bare
 rw [h]
 simp
theorem Rc.bare3 {r : Rc} (h : r.k = 3) : r.bare = { Rc.zero r.k with l := r.l, v := r.v } := by
 unfold Rc.bare
 rw [h]
 simp
theorem Rc.bare5 {r : Rc} (h : r.k = 5) : r.bare = { Rc.zero r.k with st := r.st, sg := r.sg } := by
 unfold Rc.bare
 rw [h]
 simp
set_option maxRecDepth 100000 in
set_option maxHeartbeats 2000000 in
theorem xkonly_any (r : Rc) (w : World) (h : r.ct.ok) : Calls Tryz.prog 28 #[.agg r.cells.toArray] w fun e w' => e = .returned (.agg r.bare.cells.toArray) ∧ Below w.heap.size w w' := by
 have hic : (Tryz.prog.info? 31).map (·.size) = some (certL r.ct r.cs).length := by rw [cert_len h]; exact iszCe
 obtain ⟨qc, hqc⟩ : ∃ q, Hid (r.bare.cells = q) := ⟨_, hide rfl⟩
 have hql : r.bare.cells.length = 45 := Rc.len (Rc.bare_ok h)
 have hq1 := Rc.one r.bare
 rw [hqc.out] at hql hq1 ⊢
 obtain ⟨hB1, hr0, hs1⟩ := boxed_new w r.cells 33
 obtain ⟨zc, hzl, hzr⟩ : ∃ z : List Value, z.length = 45 ∧ ∀ w : World, (zeroValue 33).run Tryz.prog w = .ok (.agg z.toArray) w := ⟨_, Rc.len Vt.zero_ok, zeroRc⟩
 have hbk := build_rk r.k
 have hzk : (Rc.zero r.k).cells.length = 45 := Rc.len Vt.zero_ok
 have hz1 := Rc.one (Rc.zero r.k)
 have hk0 : ∀ {W : World} {b : Nat} {c : Rc}, W.rangeAt b 0 c.cells → W.cell? ⟨b, 0, none⟩ = some (.int .i64 c.k) ∧ W.cell? ⟨b, 1, none⟩ = some (.int .i64 c.l) ∧ W.cell? ⟨b, 2, none⟩ = some (.int .i64 c.v) ∧ W.cell? ⟨b, 3, none⟩ = some (.int .i64 c.s) := fun h => ⟨h 0 _ rfl, h 1 _ rfl, h 2 _ rfl, h 3 _ rfl⟩
 go_enter Tryz.func28, Tryz.ntmps28
 go_upto_region 0 with fail
 try simp only [Act.put]
 refine pl_begin ?_
 refine pl_run (d := some 1) (v := .pointer (some ⟨w.heap.size, 0, none⟩)) (w' := w.alloc (.cells r.cells.toArray 33)) (by rfl) (ex_boxR rfl rfl) rfl ?_
 simp only [nz]
 obtain ⟨W1, hW1⟩ : ∃ W, w.alloc (.cells r.cells.toArray 33) = W := ⟨_, rfl⟩
 rw [hW1] at hB1 hr0 hs1 ⊢
 clear hW1
 refine pl_run (d := some 2) (v := .pointer (some ⟨W1.heap.size, 0, none⟩)) (w' := W1.alloc (.cells zc.toArray 33)) (by rfl) (ex_alloc rfl (hzr _)) rfl ?_
 simp only [nz]
 refine pl_nil ?_
 obtain ⟨hB2, -, hs2⟩ := boxed_new W1 zc 33
 have ht2 := there_newN W1 zc.toArray 33 (n := 45) (by simp [hzl])
 obtain ⟨W2, hW2⟩ : ∃ W, W1.alloc (.cells zc.toArray 33) = W := ⟨_, rfl⟩
 rw [hW2] at hB2 hs2 ht2 ⊢
 clear hW2
 have hr2 := range_below hr0 hB2 hs1
 obtain ⟨c0, -⟩ := hk0 hr2
 have hB3 := hB1.trans (hB2.mono hB1.size)
 go_upto_region 1 with fail
 try simp only [Act.put]
 refine pl_begin ?_
 refine pl_t 4 (?_) (by rfl) ?_ rfl ?_
 rotate_left
 ·go_simp
  try with_reducible rfl
 simp only [nz]
 refine pl_t 5 (.int .i64 r.k) (by rfl) (pl_one rfl rfl c0 Tryz.underlying3 rfl) rfl ?_
 simp only [nz]
 refine pl_t 6 (.agg (Rc.zero r.k).cells.toArray) (by rfl) (ex_build (parts := [(0, .tmp 5)]) rfl rfl (hbk _)) rfl ?_
 simp only [nz]
 refine pl_run (d := some 3) (v := .pointer (some ⟨W2.heap.size, 0, none⟩)) (w' := W2.alloc (.cells zc.toArray 33)) (by rfl) (ex_alloc rfl (hzr _)) rfl ?_
 simp only [nz]
 refine pl_store (w' := (W2.alloc (.cells zc.toArray 33)).setCells W2.heap.size 0 (Rc.zero r.k).cells) (by rfl) (ex_put (cs := (Rc.zero r.k).cells.toArray) rfl rfl rfl (there_newN _ _ _ (by simp [hzl, hzk])) (by simpa [hzk] using iszRc) (all_one hz1)) rfl ?_
 refine pl_nil ?_
 obtain ⟨hF1, hF2, hF3, -⟩ := fresh_store W2 zc.toArray 33 (Rc.zero r.k).cells (by simp [hzl, hzk])
 have hT3 := World.there_setCells (there_newN W2 zc.toArray 33 (n := 45) (by simp [hzl])) W2.heap.size 0 (Rc.zero r.k).cells
 have on : OnB w w.heap.size W1.heap.size W2.heap.size r (Rc.zero r.k) ((W2.alloc (.cells zc.toArray 33)).setCells W2.heap.size 0 (Rc.zero r.k).cells) := ⟨range_below hr2 hF2 (Nat.lt_trans hs1 hs2), hF1, hT3, there_below ht2 hF2 hs2, hB3.trans (hF2.mono hB3.size)⟩
 have nA : w.heap.size ≠ W2.heap.size := by omega
 have nX : w.heap.size ≤ W2.heap.size := by omega
 have nR : w.heap.size ≤ W1.heap.size := by omega
 have hs23 : W1.heap.size < W2.heap.size := hs2
 obtain ⟨U, hU⟩ : ∃ W, (W2.alloc (.cells zc.toArray 33)).setCells W2.heap.size 0 (Rc.zero r.k).cells = W := ⟨_, rfl⟩
 rw [hU] at on ⊢
 obtain ⟨RB, hRB⟩ : ∃ B, W1.heap.size = B := ⟨_, rfl⟩
 obtain ⟨XB, hXB⟩ : ∃ B, W2.heap.size = B := ⟨_, rfl⟩
 simp only [hRB, hXB] at on nA nX nR hs23 ⊢
 clear hU hF1 hF2 hF3 hT3 hr2 c0 hB3 hB2 hs2 ht2 hr0 hB1 hs1 hbk hzk hz1 hRB hXB
 obtain ⟨c0, -⟩ := hk0 on.box
 by_cases hk : r.k = 1
 ·go_upto_region 2 with fail
  try simp only [Act.put]
  refine pl_begin ?_
  refine pl_t 7 (?_) (by rfl) ?_ rfl ?_
  rotate_left
  ·go_simp
   try with_reducible rfl
  simp only [nz]
  refine pl_t 8 (.int .i64 r.k) (by rfl) (pl_one rfl rfl c0 Tryz.underlying3 rfl) rfl ?_
  simp only [nz]
  refine pl_nil ?_
  clear c0
  go_upto_region 3 with fail
  try simp only [Act.put]
  refine pl_begin ?_
  refine pl_t 10 (.bool true) (by rfl) (by go_simp <;> (try simp [*])) rfl ?_
  simp only [nz]
  refine pl_t 9 (?_) (by rfl) ?_ rfl ?_
  rotate_left
  ·go_simp
   try with_reducible rfl
  simp only [nz]
  refine pl_nil ?_
  obtain ⟨k0, k1, k2, k3⟩ := hk0 on.box
  obtain ⟨kb, kc, kt, kg⟩ := rc_parts h on.box
  go_upto_region 4 with fail
  try simp only [Act.put]
  refine pl_begin ?_
  refine pl_t 11 (?_) (by rfl) ?_ rfl ?_
  rotate_left
  ·go_simp
   try with_reducible rfl
  simp only [nz]
  refine pl_t 12 (.int .i64 r.s) (by rfl) (pl_one rfl rfl k3 Tryz.underlying3 rfl) rfl ?_
  simp only [nz]
  refine pl_t 13 (?_) (by rfl) ?_ rfl ?_
  rotate_left
  ·go_simp
   try with_reducible rfl
  simp only [nz]
  refine pl_store (w' := U.setCells XB 3 [.int .i64 r.s]) (by rfl) (ex_put1 (n := 45) rfl rfl rfl on.thX (by decide) iszI rfl rfl) rfl ?_
  refine pl_nil ?_
  have on0 := on.s nA nX r.s
  obtain ⟨on0W, hon0⟩ : ∃ W, U.setCells XB 3 [.int .i64 r.s] = W := ⟨_, rfl⟩
  rw [hon0] at on0 ⊢
  clear hon0 k0 k1 k2 k3 kb kc kt kg on
  obtain ⟨k0, k1, k2, k3⟩ := hk0 on0.box
  obtain ⟨kb, kc, kt, kg⟩ := rc_parts h on0.box
  go_upto_region 5 with fail
  try simp only [Act.put]
  refine pl_begin ?_
  refine pl_t 14 (?_) (by rfl) ?_ rfl ?_
  rotate_left
  ·go_simp
   try with_reducible rfl
  simp only [nz]
  refine pl_t 15 (.int .i64 r.v) (by rfl) (pl_one rfl rfl k2 Tryz.underlying3 rfl) rfl ?_
  simp only [nz]
  refine pl_t 16 (?_) (by rfl) ?_ rfl ?_
  rotate_left
  ·go_simp
   try with_reducible rfl
  simp only [nz]
  refine pl_store (w' := on0W.setCells XB 2 [.int .i64 r.v]) (by rfl) (ex_put1 (n := 45) rfl rfl rfl on0.thX (by decide) iszI rfl rfl) rfl ?_
  refine pl_nil ?_
  have on1 := on0.v nA nX r.v
  obtain ⟨on1W, hon1⟩ : ∃ W, on0W.setCells XB 2 [.int .i64 r.v] = W := ⟨_, rfl⟩
  rw [hon1] at on1 ⊢
  clear hon1 k0 k1 k2 k3 kb kc kt kg on0
  obtain ⟨k0, k1, k2, k3⟩ := hk0 on1.box
  obtain ⟨kb, kc, kt, kg⟩ := rc_parts h on1.box
  go_upto_region 6 with fail
  try simp only [Act.put]
  refine pl_begin ?_
  refine pl_t 17 (?_) (by rfl) ?_ rfl ?_
  rotate_left
  ·go_simp
   try with_reducible rfl
  simp only [nz]
  refine pl_t 18 (.agg #[.bool r.q, r.rs.val]) (by rfl) (ex_mid rfl rfl kb Tryz.underlying24 rfl iszBa) rfl ?_
  simp only [nz]
  refine pl_t 19 (?_) (by rfl) ?_ rfl ?_
  rotate_left
  ·go_simp
   try with_reducible rfl
  simp only [nz]
  refine pl_store (w' := on1W.setCells XB 4 [.bool r.q, r.rs.val]) (by rfl) (ex_put (cs := #[.bool r.q, r.rs.val]) rfl rfl rfl (there_part1 on1.thX (by simp)) iszBa (bat_all _ _)) rfl ?_
  refine pl_nil ?_
  have on2 := on1.b nA nX r.q r.rs
  obtain ⟨on2W, hon2⟩ : ∃ W, on1W.setCells XB 4 [.bool r.q, r.rs.val] = W := ⟨_, rfl⟩
  rw [hon2] at on2 ⊢
  clear hon2 k0 k1 k2 k3 kb kc kt kg on1
  replace on2 : OnB w w.heap.size RB XB r r.bare on2W := by rw [Rc.bare1 hk]; exact on2
  have ho := on2.own
  rw [hqc.out] at ho
  have hiq : (Tryz.prog.info? 33).map (·.size) = some qc.length := by rw [hql]; exact iszRc
  have hth := on2.thR
  have hBB := on2.hb
  clear on2 hqc
  go_upto_region 17 with fail
  try simp only [Act.put]
  refine pl_begin ?_
  refine pl_t 45 (.agg qc.toArray) (by rfl) (ex_mid rfl rfl ho Tryz.underlying33 rfl hiq) rfl ?_
  simp only [nz]
  refine pl_store (w' := on2W.setCells RB 0 qc) (by rfl) (ex_put (cs := qc.toArray) rfl rfl rfl (by simpa [hql] using hth) (by simpa using hiq) (all_one hq1)) rfl ?_
  refine pl_nil ?_
  have hrs := run_loadVar_mid (P := Tryz.prog) (on2W.setCells RB 0 qc) RB 0 33 qc _ (World.rangeAt_setCells_same on2W RB 0 qc (by rw [hql]; exact hth)) Tryz.underlying33 rfl hiq
  have HB := hide (below_sets (b := RB) nR qc 0 _ hBB)
  clear ho hth hBB nA nX nR hs23
  go_wp2_with fail
  refine bodyPost_ret (v := .agg qc.toArray) ?_ rfl ⟨rfl, HB.out⟩
  simp [results, Tryz.results28, Act.put, asAddr, hrs]
 have n1 : (r.k == 1) = false := by simpa using hk
 have hn1 := hide hk
 clear hk
 by_cases hk : r.k = 2
 ·go_upto_region 2 with fail
  try simp only [Act.put]
  refine pl_begin ?_
  refine pl_t 7 (?_) (by rfl) ?_ rfl ?_
  rotate_left
  ·go_simp
   try with_reducible rfl
  simp only [nz]
  refine pl_t 8 (.int .i64 r.k) (by rfl) (pl_one rfl rfl c0 Tryz.underlying3 rfl) rfl ?_
  simp only [nz]
  refine pl_nil ?_
  clear c0
  go_upto_region 3 with fail
  try simp only [Act.put]
  refine pl_begin ?_
  refine pl_t 10 (.bool false) (by rfl) (by go_simp <;> (try simp [*])) rfl ?_
  simp only [nz]
  refine pl_t 9 (?_) (by rfl) ?_ rfl ?_
  rotate_left
  ·go_simp
   try with_reducible rfl
  simp only [nz]
  refine pl_nil ?_
  go_upto_region 7 with fail
  try simp only [Act.put]
  refine pl_begin ?_
  refine pl_t 21 (.bool true) (by rfl) (by go_simp <;> (try simp [*])) rfl ?_
  simp only [nz]
  refine pl_t 20 (?_) (by rfl) ?_ rfl ?_
  rotate_left
  ·go_simp
   try with_reducible rfl
  simp only [nz]
  refine pl_nil ?_
  obtain ⟨k0, k1, k2, k3⟩ := hk0 on.box
  obtain ⟨kb, kc, kt, kg⟩ := rc_parts h on.box
  go_upto_region 9 with fail
  try simp only [Act.put]
  refine pl_begin ?_
  refine pl_t 23 (?_) (by rfl) ?_ rfl ?_
  rotate_left
  ·go_simp
   try with_reducible rfl
  simp only [nz]
  refine pl_t 24 (.agg #[.bool r.q, r.rs.val]) (by rfl) (ex_mid rfl rfl kb Tryz.underlying24 rfl iszBa) rfl ?_
  simp only [nz]
  refine pl_t 25 (?_) (by rfl) ?_ rfl ?_
  rotate_left
  ·go_simp
   try with_reducible rfl
  simp only [nz]
  refine pl_store (w' := U.setCells XB 4 [.bool r.q, r.rs.val]) (by rfl) (ex_put (cs := #[.bool r.q, r.rs.val]) rfl rfl rfl (there_part1 on.thX (by simp)) iszBa (bat_all _ _)) rfl ?_
  refine pl_nil ?_
  have on0 := on.b nA nX r.q r.rs
  obtain ⟨on0W, hon0⟩ : ∃ W, U.setCells XB 4 [.bool r.q, r.rs.val] = W := ⟨_, rfl⟩
  rw [hon0] at on0 ⊢
  clear hon0 k0 k1 k2 k3 kb kc kt kg on
  obtain ⟨k0, k1, k2, k3⟩ := hk0 on0.box
  obtain ⟨kb, kc, kt, kg⟩ := rc_parts h on0.box
  go_upto_region 10 with fail
  try simp only [Act.put]
  refine pl_begin ?_
  refine pl_t 26 (?_) (by rfl) ?_ rfl ?_
  rotate_left
  ·go_simp
   try with_reducible rfl
  simp only [nz]
  refine pl_t 27 (.agg (certL r.ct r.cs).toArray) (by rfl) (ex_mid rfl rfl kc Tryz.underlying31 rfl hic) rfl ?_
  simp only [nz]
  refine pl_t 28 (?_) (by rfl) ?_ rfl ?_
  rotate_left
  ·go_simp
   try with_reducible rfl
  simp only [nz]
  refine pl_store (w' := on0W.setCells XB 6 (certL r.ct r.cs)) (by rfl) (ex_put (cs := (certL r.ct r.cs).toArray) rfl rfl rfl (by simpa [cert_len h] using there_part1 on0.thX (o := 6) (m := 37) (by decide)) (by simpa using hic) (all_one (cert_one _ _))) rfl ?_
  refine pl_nil ?_
  have on1 := on0.c nA nX Vt.zero_ok r.ct h r.cs
  obtain ⟨on1W, hon1⟩ : ∃ W, on0W.setCells XB 6 (certL r.ct r.cs) = W := ⟨_, rfl⟩
  rw [hon1] at on1 ⊢
  clear hon1 k0 k1 k2 k3 kb kc kt kg on0
  replace on1 : OnB w w.heap.size RB XB r r.bare on1W := by rw [Rc.bare2 hk]; exact on1
  have ho := on1.own
  rw [hqc.out] at ho
  have hiq : (Tryz.prog.info? 33).map (·.size) = some qc.length := by rw [hql]; exact iszRc
  have hth := on1.thR
  have hBB := on1.hb
  clear on1 hqc
  go_upto_region 17 with fail
  try simp only [Act.put]
  refine pl_begin ?_
  refine pl_t 45 (.agg qc.toArray) (by rfl) (ex_mid rfl rfl ho Tryz.underlying33 rfl hiq) rfl ?_
  simp only [nz]
  refine pl_store (w' := on1W.setCells RB 0 qc) (by rfl) (ex_put (cs := qc.toArray) rfl rfl rfl (by simpa [hql] using hth) (by simpa using hiq) (all_one hq1)) rfl ?_
  refine pl_nil ?_
  have hrs := run_loadVar_mid (P := Tryz.prog) (on1W.setCells RB 0 qc) RB 0 33 qc _ (World.rangeAt_setCells_same on1W RB 0 qc (by rw [hql]; exact hth)) Tryz.underlying33 rfl hiq
  have HB := hide (below_sets (b := RB) nR qc 0 _ hBB)
  clear ho hth hBB nA nX nR hs23
  go_wp2_with fail
  refine bodyPost_ret (v := .agg qc.toArray) ?_ rfl ⟨rfl, HB.out⟩
  simp [results, Tryz.results28, Act.put, asAddr, hrs]
 have n2 : (r.k == 2) = false := by simpa using hk
 have hn2 := hide hk
 clear hk
 by_cases hk : r.k = 4
 ·go_upto_region 2 with fail
  try simp only [Act.put]
  refine pl_begin ?_
  refine pl_t 7 (?_) (by rfl) ?_ rfl ?_
  rotate_left
  ·go_simp
   try with_reducible rfl
  simp only [nz]
  refine pl_t 8 (.int .i64 r.k) (by rfl) (pl_one rfl rfl c0 Tryz.underlying3 rfl) rfl ?_
  simp only [nz]
  refine pl_nil ?_
  clear c0
  go_upto_region 3 with fail
  try simp only [Act.put]
  refine pl_begin ?_
  refine pl_t 10 (.bool false) (by rfl) (by go_simp <;> (try simp [*])) rfl ?_
  simp only [nz]
  refine pl_t 9 (?_) (by rfl) ?_ rfl ?_
  rotate_left
  ·go_simp
   try with_reducible rfl
  simp only [nz]
  refine pl_nil ?_
  go_upto_region 7 with fail
  try simp only [Act.put]
  refine pl_begin ?_
  refine pl_t 21 (.bool false) (by rfl) (by go_simp <;> (try simp [*])) rfl ?_
  simp only [nz]
  refine pl_t 20 (?_) (by rfl) ?_ rfl ?_
  rotate_left
  ·go_simp
   try with_reducible rfl
  simp only [nz]
  refine pl_nil ?_
  go_upto_region 8 with fail
  try simp only [Act.put]
  refine pl_begin ?_
  refine pl_t 22 (.bool true) (by rfl) (by go_simp <;> (try simp [*])) rfl ?_
  simp only [nz]
  refine pl_t 20 (?_) (by rfl) ?_ rfl ?_
  rotate_left
  ·go_simp
   try with_reducible rfl
  simp only [nz]
  refine pl_nil ?_
  obtain ⟨k0, k1, k2, k3⟩ := hk0 on.box
  obtain ⟨kb, kc, kt, kg⟩ := rc_parts h on.box
  go_upto_region 9 with fail
  try simp only [Act.put]
  refine pl_begin ?_
  refine pl_t 23 (?_) (by rfl) ?_ rfl ?_
  rotate_left
  ·go_simp
   try with_reducible rfl
  simp only [nz]
  refine pl_t 24 (.agg #[.bool r.q, r.rs.val]) (by rfl) (ex_mid rfl rfl kb Tryz.underlying24 rfl iszBa) rfl ?_
  simp only [nz]
  refine pl_t 25 (?_) (by rfl) ?_ rfl ?_
  rotate_left
  ·go_simp
   try with_reducible rfl
  simp only [nz]
  refine pl_store (w' := U.setCells XB 4 [.bool r.q, r.rs.val]) (by rfl) (ex_put (cs := #[.bool r.q, r.rs.val]) rfl rfl rfl (there_part1 on.thX (by simp)) iszBa (bat_all _ _)) rfl ?_
  refine pl_nil ?_
  have on0 := on.b nA nX r.q r.rs
  obtain ⟨on0W, hon0⟩ : ∃ W, U.setCells XB 4 [.bool r.q, r.rs.val] = W := ⟨_, rfl⟩
  rw [hon0] at on0 ⊢
  clear hon0 k0 k1 k2 k3 kb kc kt kg on
  obtain ⟨k0, k1, k2, k3⟩ := hk0 on0.box
  obtain ⟨kb, kc, kt, kg⟩ := rc_parts h on0.box
  go_upto_region 10 with fail
  try simp only [Act.put]
  refine pl_begin ?_
  refine pl_t 26 (?_) (by rfl) ?_ rfl ?_
  rotate_left
  ·go_simp
   try with_reducible rfl
  simp only [nz]
  refine pl_t 27 (.agg (certL r.ct r.cs).toArray) (by rfl) (ex_mid rfl rfl kc Tryz.underlying31 rfl hic) rfl ?_
  simp only [nz]
  refine pl_t 28 (?_) (by rfl) ?_ rfl ?_
  rotate_left
  ·go_simp
   try with_reducible rfl
  simp only [nz]
  refine pl_store (w' := on0W.setCells XB 6 (certL r.ct r.cs)) (by rfl) (ex_put (cs := (certL r.ct r.cs).toArray) rfl rfl rfl (by simpa [cert_len h] using there_part1 on0.thX (o := 6) (m := 37) (by decide)) (by simpa using hic) (all_one (cert_one _ _))) rfl ?_
  refine pl_nil ?_
  have on1 := on0.c nA nX Vt.zero_ok r.ct h r.cs
  obtain ⟨on1W, hon1⟩ : ∃ W, on0W.setCells XB 6 (certL r.ct r.cs) = W := ⟨_, rfl⟩
  rw [hon1] at on1 ⊢
  clear hon1 k0 k1 k2 k3 kb kc kt kg on0
  replace on1 : OnB w w.heap.size RB XB r r.bare on1W := by rw [Rc.bare4 hk]; exact on1
  have ho := on1.own
  rw [hqc.out] at ho
  have hiq : (Tryz.prog.info? 33).map (·.size) = some qc.length := by rw [hql]; exact iszRc
  have hth := on1.thR
  have hBB := on1.hb
  clear on1 hqc
  go_upto_region 17 with fail
  try simp only [Act.put]
  refine pl_begin ?_
  refine pl_t 45 (.agg qc.toArray) (by rfl) (ex_mid rfl rfl ho Tryz.underlying33 rfl hiq) rfl ?_
  simp only [nz]
  refine pl_store (w' := on1W.setCells RB 0 qc) (by rfl) (ex_put (cs := qc.toArray) rfl rfl rfl (by simpa [hql] using hth) (by simpa using hiq) (all_one hq1)) rfl ?_
  refine pl_nil ?_
  have hrs := run_loadVar_mid (P := Tryz.prog) (on1W.setCells RB 0 qc) RB 0 33 qc _ (World.rangeAt_setCells_same on1W RB 0 qc (by rw [hql]; exact hth)) Tryz.underlying33 rfl hiq
  have HB := hide (below_sets (b := RB) nR qc 0 _ hBB)
  clear ho hth hBB nA nX nR hs23
  go_wp2_with fail
  refine bodyPost_ret (v := .agg qc.toArray) ?_ rfl ⟨rfl, HB.out⟩
  simp [results, Tryz.results28, Act.put, asAddr, hrs]
 have n4 : (r.k == 4) = false := by simpa using hk
 have hn4 := hide hk
 clear hk
 by_cases hk : r.k = 3
 ·go_upto_region 2 with fail
  try simp only [Act.put]
  refine pl_begin ?_
  refine pl_t 7 (?_) (by rfl) ?_ rfl ?_
  rotate_left
  ·go_simp
   try with_reducible rfl
  simp only [nz]
  refine pl_t 8 (.int .i64 r.k) (by rfl) (pl_one rfl rfl c0 Tryz.underlying3 rfl) rfl ?_
  simp only [nz]
  refine pl_nil ?_
  clear c0
  go_upto_region 3 with fail
  try simp only [Act.put]
  refine pl_begin ?_
  refine pl_t 10 (.bool false) (by rfl) (by go_simp <;> (try simp [*])) rfl ?_
  simp only [nz]
  refine pl_t 9 (?_) (by rfl) ?_ rfl ?_
  rotate_left
  ·go_simp
   try with_reducible rfl
  simp only [nz]
  refine pl_nil ?_
  go_upto_region 7 with fail
  try simp only [Act.put]
  refine pl_begin ?_
  refine pl_t 21 (.bool false) (by rfl) (by go_simp <;> (try simp [*])) rfl ?_
  simp only [nz]
  refine pl_t 20 (?_) (by rfl) ?_ rfl ?_
  rotate_left
  ·go_simp
   try with_reducible rfl
  simp only [nz]
  refine pl_nil ?_
  go_upto_region 8 with fail
  try simp only [Act.put]
  refine pl_begin ?_
  refine pl_t 22 (.bool false) (by rfl) (by go_simp <;> (try simp [*])) rfl ?_
  simp only [nz]
  refine pl_t 20 (?_) (by rfl) ?_ rfl ?_
  rotate_left
  ·go_simp
   try with_reducible rfl
  simp only [nz]
  refine pl_nil ?_
  go_upto_region 11 with fail
  try simp only [Act.put]
  refine pl_begin ?_
  refine pl_t 30 (.bool true) (by rfl) (by go_simp <;> (try simp [*])) rfl ?_
  simp only [nz]
  refine pl_t 29 (?_) (by rfl) ?_ rfl ?_
  rotate_left
  ·go_simp
   try with_reducible rfl
  simp only [nz]
  refine pl_nil ?_
  obtain ⟨k0, k1, k2, k3⟩ := hk0 on.box
  obtain ⟨kb, kc, kt, kg⟩ := rc_parts h on.box
  go_upto_region 12 with fail
  try simp only [Act.put]
  refine pl_begin ?_
  refine pl_t 31 (?_) (by rfl) ?_ rfl ?_
  rotate_left
  ·go_simp
   try with_reducible rfl
  simp only [nz]
  refine pl_t 32 (.int .i64 r.l) (by rfl) (pl_one rfl rfl k1 Tryz.underlying3 rfl) rfl ?_
  simp only [nz]
  refine pl_t 33 (?_) (by rfl) ?_ rfl ?_
  rotate_left
  ·go_simp
   try with_reducible rfl
  simp only [nz]
  refine pl_store (w' := U.setCells XB 1 [.int .i64 r.l]) (by rfl) (ex_put1 (n := 45) rfl rfl rfl on.thX (by decide) iszI rfl rfl) rfl ?_
  refine pl_nil ?_
  have on0 := on.l nA nX r.l
  obtain ⟨on0W, hon0⟩ : ∃ W, U.setCells XB 1 [.int .i64 r.l] = W := ⟨_, rfl⟩
  rw [hon0] at on0 ⊢
  clear hon0 k0 k1 k2 k3 kb kc kt kg on
  obtain ⟨k0, k1, k2, k3⟩ := hk0 on0.box
  obtain ⟨kb, kc, kt, kg⟩ := rc_parts h on0.box
  go_upto_region 13 with fail
  try simp only [Act.put]
  refine pl_begin ?_
  refine pl_t 34 (?_) (by rfl) ?_ rfl ?_
  rotate_left
  ·go_simp
   try with_reducible rfl
  simp only [nz]
  refine pl_t 35 (.int .i64 r.v) (by rfl) (pl_one rfl rfl k2 Tryz.underlying3 rfl) rfl ?_
  simp only [nz]
  refine pl_t 36 (?_) (by rfl) ?_ rfl ?_
  rotate_left
  ·go_simp
   try with_reducible rfl
  simp only [nz]
  refine pl_store (w' := on0W.setCells XB 2 [.int .i64 r.v]) (by rfl) (ex_put1 (n := 45) rfl rfl rfl on0.thX (by decide) iszI rfl rfl) rfl ?_
  refine pl_nil ?_
  have on1 := on0.v nA nX r.v
  obtain ⟨on1W, hon1⟩ : ∃ W, on0W.setCells XB 2 [.int .i64 r.v] = W := ⟨_, rfl⟩
  rw [hon1] at on1 ⊢
  clear hon1 k0 k1 k2 k3 kb kc kt kg on0
  replace on1 : OnB w w.heap.size RB XB r r.bare on1W := by rw [Rc.bare3 hk]; exact on1
  have ho := on1.own
  rw [hqc.out] at ho
  have hiq : (Tryz.prog.info? 33).map (·.size) = some qc.length := by rw [hql]; exact iszRc
  have hth := on1.thR
  have hBB := on1.hb
  clear on1 hqc
  go_upto_region 17 with fail
  try simp only [Act.put]
  refine pl_begin ?_
  refine pl_t 45 (.agg qc.toArray) (by rfl) (ex_mid rfl rfl ho Tryz.underlying33 rfl hiq) rfl ?_
  simp only [nz]
  refine pl_store (w' := on1W.setCells RB 0 qc) (by rfl) (ex_put (cs := qc.toArray) rfl rfl rfl (by simpa [hql] using hth) (by simpa using hiq) (all_one hq1)) rfl ?_
  refine pl_nil ?_
  have hrs := run_loadVar_mid (P := Tryz.prog) (on1W.setCells RB 0 qc) RB 0 33 qc _ (World.rangeAt_setCells_same on1W RB 0 qc (by rw [hql]; exact hth)) Tryz.underlying33 rfl hiq
  have HB := hide (below_sets (b := RB) nR qc 0 _ hBB)
  clear ho hth hBB nA nX nR hs23
  go_wp2_with fail
  refine bodyPost_ret (v := .agg qc.toArray) ?_ rfl ⟨rfl, HB.out⟩
  simp [results, Tryz.results28, Act.put, asAddr, hrs]
 have n3 : (r.k == 3) = false := by simpa using hk
 have hn3 := hide hk
 clear hk
 by_cases hk : r.k = 5
 ·go_upto_region 2 with fail
  try simp only [Act.put]
  refine pl_begin ?_
  refine pl_t 7 (?_) (by rfl) ?_ rfl ?_
  rotate_left
  ·go_simp
   try with_reducible rfl
  simp only [nz]
  refine pl_t 8 (.int .i64 r.k) (by rfl) (pl_one rfl rfl c0 Tryz.underlying3 rfl) rfl ?_
  simp only [nz]
  refine pl_nil ?_
  clear c0
  go_upto_region 3 with fail
  try simp only [Act.put]
  refine pl_begin ?_
  refine pl_t 10 (.bool false) (by rfl) (by go_simp <;> (try simp [*])) rfl ?_
  simp only [nz]
  refine pl_t 9 (?_) (by rfl) ?_ rfl ?_
  rotate_left
  ·go_simp
   try with_reducible rfl
  simp only [nz]
  refine pl_nil ?_
  go_upto_region 7 with fail
  try simp only [Act.put]
  refine pl_begin ?_
  refine pl_t 21 (.bool false) (by rfl) (by go_simp <;> (try simp [*])) rfl ?_
  simp only [nz]
  refine pl_t 20 (?_) (by rfl) ?_ rfl ?_
  rotate_left
  ·go_simp
   try with_reducible rfl
  simp only [nz]
  refine pl_nil ?_
  go_upto_region 8 with fail
  try simp only [Act.put]
  refine pl_begin ?_
  refine pl_t 22 (.bool false) (by rfl) (by go_simp <;> (try simp [*])) rfl ?_
  simp only [nz]
  refine pl_t 20 (?_) (by rfl) ?_ rfl ?_
  rotate_left
  ·go_simp
   try with_reducible rfl
  simp only [nz]
  refine pl_nil ?_
  go_upto_region 11 with fail
  try simp only [Act.put]
  refine pl_begin ?_
  refine pl_t 30 (.bool false) (by rfl) (by go_simp <;> (try simp [*])) rfl ?_
  simp only [nz]
  refine pl_t 29 (?_) (by rfl) ?_ rfl ?_
  rotate_left
  ·go_simp
   try with_reducible rfl
  simp only [nz]
  refine pl_nil ?_
  go_upto_region 14 with fail
  try simp only [Act.put]
  refine pl_begin ?_
  refine pl_t 38 (.bool true) (by rfl) (by go_simp <;> (try simp [*])) rfl ?_
  simp only [nz]
  refine pl_t 37 (?_) (by rfl) ?_ rfl ?_
  rotate_left
  ·go_simp
   try with_reducible rfl
  simp only [nz]
  refine pl_nil ?_
  obtain ⟨k0, k1, k2, k3⟩ := hk0 on.box
  obtain ⟨kb, kc, kt, kg⟩ := rc_parts h on.box
  go_upto_region 15 with fail
  try simp only [Act.put]
  refine pl_begin ?_
  refine pl_t 39 (?_) (by rfl) ?_ rfl ?_
  rotate_left
  ·go_simp
   try with_reducible rfl
  simp only [nz]
  refine pl_t 40 (.string r.st) (by rfl) (pl_one rfl rfl kt Tryz.underlying9 rfl) rfl ?_
  simp only [nz]
  refine pl_t 41 (?_) (by rfl) ?_ rfl ?_
  rotate_left
  ·go_simp
   try with_reducible rfl
  simp only [nz]
  refine pl_store (w' := U.setCells XB 43 [.string r.st]) (by rfl) (ex_put1 (n := 45) rfl rfl rfl on.thX (by decide) iszStr rfl rfl) rfl ?_
  refine pl_nil ?_
  have on0 := on.t nA nX Vt.zero_ok r.st
  obtain ⟨on0W, hon0⟩ : ∃ W, U.setCells XB 43 [.string r.st] = W := ⟨_, rfl⟩
  rw [hon0] at on0 ⊢
  clear hon0 k0 k1 k2 k3 kb kc kt kg on
  obtain ⟨k0, k1, k2, k3⟩ := hk0 on0.box
  obtain ⟨kb, kc, kt, kg⟩ := rc_parts h on0.box
  go_upto_region 16 with fail
  try simp only [Act.put]
  refine pl_begin ?_
  refine pl_t 42 (?_) (by rfl) ?_ rfl ?_
  rotate_left
  ·go_simp
   try with_reducible rfl
  simp only [nz]
  refine pl_t 43 (r.sg.val) (by rfl) (pl_one rfl rfl kg Tryz.underlying29 rfl) rfl ?_
  simp only [nz]
  refine pl_t 44 (?_) (by rfl) ?_ rfl ?_
  rotate_left
  ·go_simp
   try with_reducible rfl
  simp only [nz]
  refine pl_store (w' := on0W.setCells XB 44 [r.sg.val]) (by rfl) (ex_put1 (n := 45) rfl rfl rfl on0.thX (by decide) iszSgs rfl rfl) rfl ?_
  refine pl_nil ?_
  have on1 := on0.g nA nX Vt.zero_ok r.sg
  obtain ⟨on1W, hon1⟩ : ∃ W, on0W.setCells XB 44 [r.sg.val] = W := ⟨_, rfl⟩
  rw [hon1] at on1 ⊢
  clear hon1 k0 k1 k2 k3 kb kc kt kg on0
  replace on1 : OnB w w.heap.size RB XB r r.bare on1W := by rw [Rc.bare5 hk]; exact on1
  have ho := on1.own
  rw [hqc.out] at ho
  have hiq : (Tryz.prog.info? 33).map (·.size) = some qc.length := by rw [hql]; exact iszRc
  have hth := on1.thR
  have hBB := on1.hb
  clear on1 hqc
  go_upto_region 17 with fail
  try simp only [Act.put]
  refine pl_begin ?_
  refine pl_t 45 (.agg qc.toArray) (by rfl) (ex_mid rfl rfl ho Tryz.underlying33 rfl hiq) rfl ?_
  simp only [nz]
  refine pl_store (w' := on1W.setCells RB 0 qc) (by rfl) (ex_put (cs := qc.toArray) rfl rfl rfl (by simpa [hql] using hth) (by simpa using hiq) (all_one hq1)) rfl ?_
  refine pl_nil ?_
  have hrs := run_loadVar_mid (P := Tryz.prog) (on1W.setCells RB 0 qc) RB 0 33 qc _ (World.rangeAt_setCells_same on1W RB 0 qc (by rw [hql]; exact hth)) Tryz.underlying33 rfl hiq
  have HB := hide (below_sets (b := RB) nR qc 0 _ hBB)
  clear ho hth hBB nA nX nR hs23
  go_wp2_with fail
  refine bodyPost_ret (v := .agg qc.toArray) ?_ rfl ⟨rfl, HB.out⟩
  simp [results, Tryz.results28, Act.put, asAddr, hrs]
 have n5 : (r.k == 5) = false := by simpa using hk
 have hn5 := hide hk
 clear hk
 have hb : r.bare = Rc.zero r.k := by unfold Rc.bare; rw [if_neg hn1.out, if_neg hn2.out, if_neg hn4.out, if_neg hn3.out, if_neg hn5.out]
 go_upto_region 2 with fail
 try simp only [Act.put]
 refine pl_begin ?_
 refine pl_t 7 (?_) (by rfl) ?_ rfl ?_
 rotate_left
 ·go_simp
  try with_reducible rfl
 simp only [nz]
 refine pl_t 8 (.int .i64 r.k) (by rfl) (pl_one rfl rfl c0 Tryz.underlying3 rfl) rfl ?_
 simp only [nz]
 refine pl_nil ?_
 clear c0
 go_upto_region 3 with fail
 try simp only [Act.put]
 refine pl_begin ?_
 refine pl_t 10 (.bool false) (by rfl) (by go_simp <;> (try simp [*])) rfl ?_
 simp only [nz]
 refine pl_t 9 (?_) (by rfl) ?_ rfl ?_
 rotate_left
 ·go_simp
  try with_reducible rfl
 simp only [nz]
 refine pl_nil ?_
 go_upto_region 7 with fail
 try simp only [Act.put]
 refine pl_begin ?_
 refine pl_t 21 (.bool false) (by rfl) (by go_simp <;> (try simp [*])) rfl ?_
 simp only [nz]
 refine pl_t 20 (?_) (by rfl) ?_ rfl ?_
 rotate_left
 ·go_simp
  try with_reducible rfl
 simp only [nz]
 refine pl_nil ?_
 go_upto_region 8 with fail
 try simp only [Act.put]
 refine pl_begin ?_
 refine pl_t 22 (.bool false) (by rfl) (by go_simp <;> (try simp [*])) rfl ?_
 simp only [nz]
 refine pl_t 20 (?_) (by rfl) ?_ rfl ?_
 rotate_left
 ·go_simp
  try with_reducible rfl
 simp only [nz]
 refine pl_nil ?_
 go_upto_region 11 with fail
 try simp only [Act.put]
 refine pl_begin ?_
 refine pl_t 30 (.bool false) (by rfl) (by go_simp <;> (try simp [*])) rfl ?_
 simp only [nz]
 refine pl_t 29 (?_) (by rfl) ?_ rfl ?_
 rotate_left
 ·go_simp
  try with_reducible rfl
 simp only [nz]
 refine pl_nil ?_
 go_upto_region 14 with fail
 try simp only [Act.put]
 refine pl_begin ?_
 refine pl_t 38 (.bool false) (by rfl) (by go_simp <;> (try simp [*])) rfl ?_
 simp only [nz]
 refine pl_t 37 (?_) (by rfl) ?_ rfl ?_
 rotate_left
 ·go_simp
  try with_reducible rfl
 simp only [nz]
 refine pl_nil ?_
 replace on : OnB w w.heap.size RB XB r r.bare U := by rw [hb]; exact on
 have ho := on.own
 rw [hqc.out] at ho
 have hiq : (Tryz.prog.info? 33).map (·.size) = some qc.length := by rw [hql]; exact iszRc
 have hth := on.thR
 have hBB := on.hb
 clear on hqc
 go_upto_region 17 with fail
 try simp only [Act.put]
 refine pl_begin ?_
 refine pl_t 45 (.agg qc.toArray) (by rfl) (ex_mid rfl rfl ho Tryz.underlying33 rfl hiq) rfl ?_
 simp only [nz]
 refine pl_store (w' := U.setCells RB 0 qc) (by rfl) (ex_put (cs := qc.toArray) rfl rfl rfl (by simpa [hql] using hth) (by simpa using hiq) (all_one hq1)) rfl ?_
 refine pl_nil ?_
 have hrs := run_loadVar_mid (P := Tryz.prog) (U.setCells RB 0 qc) RB 0 33 qc _ (World.rangeAt_setCells_same U RB 0 qc (by rw [hql]; exact hth)) Tryz.underlying33 rfl hiq
 have HB := hide (below_sets (b := RB) nR qc 0 _ hBB)
 clear ho hth hBB nA nX nR hs23
 go_wp2_with fail
 refine bodyPost_ret (v := .agg qc.toArray) ?_ rfl ⟨rfl, HB.out⟩
 simp [results, Tryz.results28, Act.put, asAddr, hrs]
theorem xt1 (a : Int) (q : Bool) (x : Sl Rq) (w : World) : (Instr.build 63 #[(0, .int .i64 1), (4, .int .i64 a), (5, .agg #[.bool q, x.val])]).run Tryz.prog w = .ok (.agg ({ Mg.plain 1 with s := a, q := q, rs := x } : Mg).ms.cells.toArray) w := by
 refine build_msg _ _ w ?_
 rw [zero_split]
 show Instr.fill (placesM[·]?) (([] : List Value) ++ ([Value.int .i64 0] ++ _)).toArray _ = _
 rw [fill_step (off := 0) (n := 1) (vs := [.int .i64 1]) rfl rfl rfl rfl rfl]
 show Instr.fill (placesM[·]?) ([Value.int .i64 1, .int .i64 0, .int .i64 0, .int .i64 0] ++ ([Value.int .i64 0] ++ _)).toArray _ = _
 rw [fill_step (off := 4) (n := 1) (vs := [.int .i64 a]) rfl rfl rfl rfl rfl]
 show Instr.fill (placesM[·]?) ([Value.int .i64 1, .int .i64 0, .int .i64 0, .int .i64 0, .int .i64 a] ++ ([Value.bool false, .slice none 0 0] ++ _)).toArray _ = _
 rw [fill_step (off := 5) (n := 2) (vs := [.bool q, x.val]) rfl rfl rfl rfl rfl]
 simp [Mg.plain, Mg.ms, Ms.cells, certL, Sl.val, Instr.fill]
theorem xt4 (a b : Int) (w : World) : (Instr.build 63 #[(0, .int .i64 4), (2, .int .i64 a), (3, .int .i64 b)]).run Tryz.prog w = .ok (.agg ({ Mg.plain 4 with l := a, v := b } : Mg).ms.cells.toArray) w := by
 refine build_msg _ _ w ?_
 rw [zero_split]
 show Instr.fill (placesM[·]?) (([] : List Value) ++ ([Value.int .i64 0] ++ _)).toArray _ = _
 rw [fill_step (off := 0) (n := 1) (vs := [.int .i64 4]) rfl rfl rfl rfl rfl]
 show Instr.fill (placesM[·]?) ([Value.int .i64 4, .int .i64 0] ++ ([Value.int .i64 0] ++ _)).toArray _ = _
 rw [fill_step (off := 2) (n := 1) (vs := [.int .i64 a]) rfl rfl rfl rfl rfl]
 show Instr.fill (placesM[·]?) ([Value.int .i64 4, .int .i64 0, .int .i64 a] ++ ([Value.int .i64 0] ++ _)).toArray _ = _
 rw [fill_step (off := 3) (n := 1) (vs := [.int .i64 b]) rfl rfl rfl rfl rfl]
 simp [Mg.plain, Mg.ms, Ms.cells, certL, Sl.val, Instr.fill]
theorem mid73 : (Vt.zero.cells ++ [Value.int .i64 0, .int .i64 0, .int .i64 0, .slice none 0 0, .slice none 0 0] ++ v8 zeros32).length = 73 := by decide
theorem mid37 : (Vt.zero.cells ++ [Value.slice none 0 0]).length = 37 := by decide
theorem xt8 (t : ByteArray) (g : Sl Sg) (w : World) : (Instr.build 63 #[(0, .int .i64 8), (11, .string t), (12, g.val)]).run Tryz.prog w = .ok (.agg ({ Mg.plain 8 with st := t, sg := g } : Mg).ms.cells.toArray) w := by
 refine build_msg _ _ w ?_
 rw [zero_split]
 have hM := mid73
 have hZ := mid37
 obtain ⟨M, hMe⟩ : ∃ M, Vt.zero.cells ++ [Value.int .i64 0, .int .i64 0, .int .i64 0, .slice none 0 0, .slice none 0 0] ++ v8 zeros32 = M := ⟨_, rfl⟩
 obtain ⟨Z, hZe⟩ : ∃ Z, Vt.zero.cells ++ [Value.slice none 0 0] = Z := ⟨_, rfl⟩
 rw [hMe] at hM
 rw [hZe] at hZ
 rw [hMe, hZe]
 show Instr.fill (placesM[·]?) (([] : List Value) ++ ([Value.int .i64 0] ++ _)).toArray _ = _
 rw [fill_step (off := 0) (n := 1) (vs := [.int .i64 8]) rfl rfl rfl rfl rfl]
 show Instr.fill (placesM[·]?) (([Value.int .i64 8, .int .i64 0, .int .i64 0, .int .i64 0, .int .i64 0, .bool false, .slice none 0 0] : List Value) ++ (M ++ (Z ++ [Value.string ⟨#[]⟩, .slice none 0 0]))).toArray _ = _
 have e1 : ([Value.int .i64 8, .int .i64 0, .int .i64 0, .int .i64 0, .int .i64 0, .bool false, .slice none 0 0] : List Value) ++ (M ++ (Z ++ [Value.string ⟨#[]⟩, .slice none 0 0])) = (([Value.int .i64 8, .int .i64 0, .int .i64 0, .int .i64 0, .int .i64 0, .bool false, .slice none 0 0] ++ M) ++ Z) ++ ([Value.string ⟨#[]⟩] ++ [Value.slice none 0 0]) := by simp
 rw [e1, fill_step (off := 117) (n := 1) (vs := [.string t]) rfl rfl (by simp [hM, hZ]) rfl rfl]
 have e2 : (([Value.int .i64 8, .int .i64 0, .int .i64 0, .int .i64 0, .int .i64 0, .bool false, .slice none 0 0] ++ M) ++ Z) ++ ([Value.string t] ++ [Value.slice none 0 0]) = ((([Value.int .i64 8, .int .i64 0, .int .i64 0, .int .i64 0, .int .i64 0, .bool false, .slice none 0 0] ++ M) ++ Z) ++ [Value.string t]) ++ ([Value.slice none 0 0] ++ []) := by simp
 rw [e2, fill_step (off := 118) (n := 1) (vs := [g.val]) rfl rfl (by simp [hM, hZ]) rfl rfl, ← hMe, ← hZe]
 simp [Mg.plain, Mg.ms, Ms.cells, certL, Sl.val, Instr.fill]
theorem xt7 (q : Bool) (x : Sl Rq) (y : Vt) (hy : y.ok) (g : Sl Sg) (w : World) : (Instr.build 63 #[(0, .int .i64 7), (5, .agg #[.bool q, x.val]), (10, .agg (certL y g).toArray)]).run Tryz.prog w = .ok (.agg ({ Mg.plain 7 with q := q, rs := x, ct := y, cs := g } : Mg).ms.cells.toArray) w := by
 refine build_msg _ _ w ?_
 rw [zero_split]
 have hM := mid73
 have hZ := mid37
 obtain ⟨M, hMe⟩ : ∃ M, Vt.zero.cells ++ [Value.int .i64 0, .int .i64 0, .int .i64 0, .slice none 0 0, .slice none 0 0] ++ v8 zeros32 = M := ⟨_, rfl⟩
 obtain ⟨Z, hZe⟩ : ∃ Z, Vt.zero.cells ++ [Value.slice none 0 0] = Z := ⟨_, rfl⟩
 rw [hMe] at hM
 rw [hZe] at hZ
 rw [hMe, hZe]
 show Instr.fill (placesM[·]?) (([] : List Value) ++ ([Value.int .i64 0] ++ _)).toArray _ = _
 rw [fill_step (off := 0) (n := 1) (vs := [.int .i64 7]) rfl rfl rfl rfl rfl]
 show Instr.fill (placesM[·]?) ([Value.int .i64 7, .int .i64 0, .int .i64 0, .int .i64 0, .int .i64 0] ++ ([Value.bool false, .slice none 0 0] ++ _)).toArray _ = _
 rw [fill_step (off := 5) (n := 2) (vs := [.bool q, x.val]) rfl rfl rfl rfl rfl]
 show Instr.fill (placesM[·]?) ([Value.int .i64 7, .int .i64 0, .int .i64 0, .int .i64 0, .int .i64 0] ++ ([Value.bool q, x.val] ++ (M ++ (Z ++ [Value.string ⟨#[]⟩, .slice none 0 0])))).toArray _ = _
 have e : ([Value.int .i64 7, .int .i64 0, .int .i64 0, .int .i64 0, .int .i64 0] : List Value) ++ ([Value.bool q, x.val] ++ (M ++ (Z ++ [Value.string ⟨#[]⟩, .slice none 0 0]))) = ([Value.int .i64 7, .int .i64 0, .int .i64 0, .int .i64 0, .int .i64 0, .bool q, x.val] ++ M) ++ (Z ++ [Value.string ⟨#[]⟩, .slice none 0 0]) := by simp
 rw [e, fill_step (off := 80) (n := 37) (vs := certL y g) rfl hZ (by simp [hM]) rfl (cert_len hy), ← hMe]
 simp [Mg.plain, Mg.ms, Ms.cells, certL, Sl.val, Instr.fill]
theorem Rc.xtold1 {r : Rc} (h : r.k = 1) : r.xtold = { Mg.plain 1 with s := r.s, q := r.q, rs := r.rs } := by unfold Rc.xtold; rw [if_pos h]
theorem Rc.xtold3 {r : Rc} (h : r.k = 3) : r.xtold = { Mg.plain 4 with l := r.l, v := r.v } := by unfold Rc.xtold; rw [if_neg (by omega), if_pos h]
theorem Rc.xtold5 {r : Rc} (h : r.k = 5) : r.xtold = { Mg.plain 8 with st := r.st, sg := r.sg } := by unfold Rc.xtold; rw [if_neg (by omega), if_neg (by omega), if_pos h]
theorem Rc.xtold7 {r : Rc} (h1 : r.k ≠ 1) (h3 : r.k ≠ 3) (h5 : r.k ≠ 5) : r.xtold = { Mg.plain 7 with q := r.q, rs := r.rs, ct := r.ct, cs := r.cs } := by unfold Rc.xtold; rw [if_neg h1, if_neg h3, if_neg h5]
set_option maxRecDepth 100000 in
set_option maxHeartbeats 2000000 in
theorem xktold_any (r : Rc) (w : World) (h : r.ct.ok) : Calls Tryz.prog 24 #[.agg r.cells.toArray] w fun e w' => e = .returned (.agg r.xtold.ms.cells.toArray) ∧ Below w.heap.size w w' := by
 have hic : (Tryz.prog.info? 31).map (·.size) = some (certL r.ct r.cs).length := by rw [cert_len h]; exact iszCe
 have hpl := (Rc.xtold_ok h).ms.len
 have hp1 := (Rc.xtold_ok h).ms.one
 have hip : (Tryz.prog.info? 63).map (·.size) = some r.xtold.ms.cells.length := by rw [hpl]; exact iszM
 obtain ⟨pc, hpc⟩ : ∃ p, Hid (r.xtold.ms.cells = p) := ⟨_, hide rfl⟩
 simp only [hpc.out] at hpl hp1 hip ⊢
 obtain ⟨zc, hzl, hzr⟩ : ∃ z : List Value, z.length = 119 ∧ ∀ w : World, (zeroValue 63).run Tryz.prog w = .ok (.agg z.toArray) w := ⟨_, (Ms.plain_ok 0 0 0 Vt.zero_ok zeros32_len zeros32_byte).len, zeroM⟩
 obtain ⟨hB1, hr0, hs1⟩ := boxed_new w r.cells 33
 go_enter Tryz.func24, Tryz.ntmps24
 go_upto_region 0 with fail
 try simp only [Act.put]
 refine pl_begin ?_
 refine pl_run (d := some 1) (v := .pointer (some ⟨w.heap.size, 0, none⟩)) (w' := w.alloc (.cells r.cells.toArray 33)) (by rfl) (ex_boxR rfl rfl) rfl ?_
 simp only [nz]
 obtain ⟨W1, hW1⟩ : ∃ W, w.alloc (.cells r.cells.toArray 33) = W := ⟨_, rfl⟩
 rw [hW1] at hB1 hr0 hs1 ⊢
 clear hW1
 refine pl_run (d := some 2) (v := .pointer (some ⟨W1.heap.size, 0, none⟩)) (w' := W1.alloc (.cells zc.toArray 63)) (by rfl) (ex_alloc rfl (hzr _)) rfl ?_
 simp only [nz]
 refine pl_nil ?_
 obtain ⟨hB2, -, hs2⟩ := boxed_new W1 zc 63
 have ht2 := there_newN W1 zc.toArray 63 (n := 119) (by simp [hzl])
 obtain ⟨W2, hW2⟩ : ∃ W, W1.alloc (.cells zc.toArray 63) = W := ⟨_, rfl⟩
 rw [hW2] at hB2 hs2 ht2 ⊢
 clear hW2 hzl hzr zc
 have hr1 := range_below hr0 hB2 hs1
 have k0 : W2.cell? ⟨w.heap.size, 0, none⟩ = some (.int .i64 r.k) := hr1 0 _ rfl
 have k1 : W2.cell? ⟨w.heap.size, 1, none⟩ = some (.int .i64 r.l) := hr1 1 _ rfl
 have k2 : W2.cell? ⟨w.heap.size, 2, none⟩ = some (.int .i64 r.v) := hr1 2 _ rfl
 have k3 : W2.cell? ⟨w.heap.size, 3, none⟩ = some (.int .i64 r.s) := hr1 3 _ rfl
 obtain ⟨kb, kc, kt, kg⟩ := rc_parts h hr1
 have hB3 := hB1.trans (hB2.mono hB1.size)
 clear hs2
 by_cases hk : r.k = 1
 ·go_upto_region 1 with fail
  try simp only [Act.put]
  refine pl_begin ?_
  refine pl_t 3 (?_) (by rfl) ?_ rfl ?_
  rotate_left
  ·go_simp
   try with_reducible rfl
  simp only [nz]
  refine pl_t 4 (.int .i64 r.k) (by rfl) (pl_one rfl rfl k0 Tryz.underlying3 rfl) rfl ?_
  simp only [nz]
  refine pl_nil ?_
  go_upto_region 2 with fail
  try simp only [Act.put]
  refine pl_begin ?_
  refine pl_t 6 (.bool true) (by rfl) (by go_simp <;> (try simp [*])) rfl ?_
  simp only [nz]
  refine pl_t 5 (?_) (by rfl) ?_ rfl ?_
  rotate_left
  ·go_simp
   try with_reducible rfl
  simp only [nz]
  refine pl_nil ?_
  have hB0 := (fun w0 => by rw [Rc.xtold1 hk]; exact xt1 r.s r.q r.rs w0 : ∀ w0 : World, (Instr.build 63 #[(0, .int .i64 1), (4, .int .i64 r.s), (5, .agg #[.bool r.q, r.rs.val])]).run Tryz.prog w0 = .ok (.agg r.xtold.ms.cells.toArray) w0)
  simp only [hpc.out] at hB0
  go_upto_region 3 with fail
  try simp only [Act.put]
  refine pl_begin ?_
  refine pl_t 7 (?_) (by rfl) ?_ rfl ?_
  rotate_left
  ·go_simp
   try with_reducible rfl
  simp only [nz]
  refine pl_t 8 (.int .i64 r.s) (by rfl) (pl_one rfl rfl k3 Tryz.underlying3 rfl) rfl ?_
  simp only [nz]
  refine pl_t 9 (?_) (by rfl) ?_ rfl ?_
  rotate_left
  ·go_simp
   try with_reducible rfl
  simp only [nz]
  refine pl_t 10 (.agg #[.bool r.q, r.rs.val]) (by rfl) (ex_mid rfl rfl kb Tryz.underlying24 rfl iszBa) rfl ?_
  simp only [nz]
  refine pl_t 11 (.agg pc.toArray) (by rfl) (ex_build (parts := [(0, .const (.int .i64 1)), (4, .tmp 8), (5, .tmp 10)]) rfl rfl (hB0 _)) rfl ?_
  simp only [nz]
  refine pl_store (w' := W2.setCells W1.heap.size 0 pc) (by rfl) (ex_put (cs := pc.toArray) rfl rfl rfl (by simpa [hpl] using ht2) (by simpa using hip) (all_one hp1)) rfl ?_
  refine pl_nil ?_
  have hrs := run_loadVar_mid (P := Tryz.prog) (W2.setCells W1.heap.size 0 pc) W1.heap.size 0 63 pc _ (World.rangeAt_setCells_same W2 W1.heap.size 0 pc (by rw [hpl]; exact ht2)) Tryz.underlying63 rfl hip
  have HB := hide (below_sets (b := W1.heap.size) hB1.size pc 0 _ hB3)
  clear hr0 hB1 hB2 ht2 hB3 k0 k1 k2 k3 kb kc kt kg hr1
  go_wp2_with fail
  refine bodyPost_ret (v := .agg pc.toArray) ?_ rfl ⟨rfl, HB.out⟩
  simp [results, Tryz.results24, Act.put, asAddr, hrs]
 have n1 : (r.k == 1) = false := by simpa using hk
 have hn1 := hide hk
 clear hk
 by_cases hk : r.k = 3
 ·go_upto_region 1 with fail
  try simp only [Act.put]
  refine pl_begin ?_
  refine pl_t 3 (?_) (by rfl) ?_ rfl ?_
  rotate_left
  ·go_simp
   try with_reducible rfl
  simp only [nz]
  refine pl_t 4 (.int .i64 r.k) (by rfl) (pl_one rfl rfl k0 Tryz.underlying3 rfl) rfl ?_
  simp only [nz]
  refine pl_nil ?_
  go_upto_region 2 with fail
  try simp only [Act.put]
  refine pl_begin ?_
  refine pl_t 6 (.bool false) (by rfl) (by go_simp <;> (try simp [*])) rfl ?_
  simp only [nz]
  refine pl_t 5 (?_) (by rfl) ?_ rfl ?_
  rotate_left
  ·go_simp
   try with_reducible rfl
  simp only [nz]
  refine pl_nil ?_
  go_upto_region 4 with fail
  try simp only [Act.put]
  refine pl_begin ?_
  refine pl_t 13 (.bool true) (by rfl) (by go_simp <;> (try simp [*])) rfl ?_
  simp only [nz]
  refine pl_t 12 (?_) (by rfl) ?_ rfl ?_
  rotate_left
  ·go_simp
   try with_reducible rfl
  simp only [nz]
  refine pl_nil ?_
  have hB0 := (fun w0 => by rw [Rc.xtold3 hk]; exact xt4 r.l r.v w0 : ∀ w0 : World, (Instr.build 63 #[(0, .int .i64 4), (2, .int .i64 r.l), (3, .int .i64 r.v)]).run Tryz.prog w0 = .ok (.agg r.xtold.ms.cells.toArray) w0)
  simp only [hpc.out] at hB0
  go_upto_region 5 with fail
  try simp only [Act.put]
  refine pl_begin ?_
  refine pl_t 14 (?_) (by rfl) ?_ rfl ?_
  rotate_left
  ·go_simp
   try with_reducible rfl
  simp only [nz]
  refine pl_t 15 (.int .i64 r.l) (by rfl) (pl_one rfl rfl k1 Tryz.underlying3 rfl) rfl ?_
  simp only [nz]
  refine pl_t 16 (?_) (by rfl) ?_ rfl ?_
  rotate_left
  ·go_simp
   try with_reducible rfl
  simp only [nz]
  refine pl_t 17 (.int .i64 r.v) (by rfl) (pl_one rfl rfl k2 Tryz.underlying3 rfl) rfl ?_
  simp only [nz]
  refine pl_t 18 (.agg pc.toArray) (by rfl) (ex_build (parts := [(0, .const (.int .i64 4)), (2, .tmp 15), (3, .tmp 17)]) rfl rfl (hB0 _)) rfl ?_
  simp only [nz]
  refine pl_store (w' := W2.setCells W1.heap.size 0 pc) (by rfl) (ex_put (cs := pc.toArray) rfl rfl rfl (by simpa [hpl] using ht2) (by simpa using hip) (all_one hp1)) rfl ?_
  refine pl_nil ?_
  have hrs := run_loadVar_mid (P := Tryz.prog) (W2.setCells W1.heap.size 0 pc) W1.heap.size 0 63 pc _ (World.rangeAt_setCells_same W2 W1.heap.size 0 pc (by rw [hpl]; exact ht2)) Tryz.underlying63 rfl hip
  have HB := hide (below_sets (b := W1.heap.size) hB1.size pc 0 _ hB3)
  clear hr0 hB1 hB2 ht2 hB3 k0 k1 k2 k3 kb kc kt kg hr1
  go_wp2_with fail
  refine bodyPost_ret (v := .agg pc.toArray) ?_ rfl ⟨rfl, HB.out⟩
  simp [results, Tryz.results24, Act.put, asAddr, hrs]
 have n3 : (r.k == 3) = false := by simpa using hk
 have hn3 := hide hk
 clear hk
 by_cases hk : r.k = 5
 ·go_upto_region 1 with fail
  try simp only [Act.put]
  refine pl_begin ?_
  refine pl_t 3 (?_) (by rfl) ?_ rfl ?_
  rotate_left
  ·go_simp
   try with_reducible rfl
  simp only [nz]
  refine pl_t 4 (.int .i64 r.k) (by rfl) (pl_one rfl rfl k0 Tryz.underlying3 rfl) rfl ?_
  simp only [nz]
  refine pl_nil ?_
  go_upto_region 2 with fail
  try simp only [Act.put]
  refine pl_begin ?_
  refine pl_t 6 (.bool false) (by rfl) (by go_simp <;> (try simp [*])) rfl ?_
  simp only [nz]
  refine pl_t 5 (?_) (by rfl) ?_ rfl ?_
  rotate_left
  ·go_simp
   try with_reducible rfl
  simp only [nz]
  refine pl_nil ?_
  go_upto_region 4 with fail
  try simp only [Act.put]
  refine pl_begin ?_
  refine pl_t 13 (.bool false) (by rfl) (by go_simp <;> (try simp [*])) rfl ?_
  simp only [nz]
  refine pl_t 12 (?_) (by rfl) ?_ rfl ?_
  rotate_left
  ·go_simp
   try with_reducible rfl
  simp only [nz]
  refine pl_nil ?_
  go_upto_region 6 with fail
  try simp only [Act.put]
  refine pl_begin ?_
  refine pl_t 20 (.bool true) (by rfl) (by go_simp <;> (try simp [*])) rfl ?_
  simp only [nz]
  refine pl_t 19 (?_) (by rfl) ?_ rfl ?_
  rotate_left
  ·go_simp
   try with_reducible rfl
  simp only [nz]
  refine pl_nil ?_
  have hB0 := (fun w0 => by rw [Rc.xtold5 hk]; exact xt8 r.st r.sg w0 : ∀ w0 : World, (Instr.build 63 #[(0, .int .i64 8), (11, .string r.st), (12, r.sg.val)]).run Tryz.prog w0 = .ok (.agg r.xtold.ms.cells.toArray) w0)
  simp only [hpc.out] at hB0
  go_upto_region 7 with fail
  try simp only [Act.put]
  refine pl_begin ?_
  refine pl_t 21 (?_) (by rfl) ?_ rfl ?_
  rotate_left
  ·go_simp
   try with_reducible rfl
  simp only [nz]
  refine pl_t 22 (.string r.st) (by rfl) (pl_one rfl rfl kt Tryz.underlying9 rfl) rfl ?_
  simp only [nz]
  refine pl_t 23 (?_) (by rfl) ?_ rfl ?_
  rotate_left
  ·go_simp
   try with_reducible rfl
  simp only [nz]
  refine pl_t 24 (r.sg.val) (by rfl) (pl_one rfl rfl kg Tryz.underlying29 rfl) rfl ?_
  simp only [nz]
  refine pl_t 25 (.agg pc.toArray) (by rfl) (ex_build (parts := [(0, .const (.int .i64 8)), (11, .tmp 22), (12, .tmp 24)]) rfl rfl (hB0 _)) rfl ?_
  simp only [nz]
  refine pl_store (w' := W2.setCells W1.heap.size 0 pc) (by rfl) (ex_put (cs := pc.toArray) rfl rfl rfl (by simpa [hpl] using ht2) (by simpa using hip) (all_one hp1)) rfl ?_
  refine pl_nil ?_
  have hrs := run_loadVar_mid (P := Tryz.prog) (W2.setCells W1.heap.size 0 pc) W1.heap.size 0 63 pc _ (World.rangeAt_setCells_same W2 W1.heap.size 0 pc (by rw [hpl]; exact ht2)) Tryz.underlying63 rfl hip
  have HB := hide (below_sets (b := W1.heap.size) hB1.size pc 0 _ hB3)
  clear hr0 hB1 hB2 ht2 hB3 k0 k1 k2 k3 kb kc kt kg hr1
  go_wp2_with fail
  refine bodyPost_ret (v := .agg pc.toArray) ?_ rfl ⟨rfl, HB.out⟩
  simp [results, Tryz.results24, Act.put, asAddr, hrs]
 have n5 : (r.k == 5) = false := by simpa using hk
 have hn5 := hide hk
 clear hk
 go_upto_region 1 with fail
 try simp only [Act.put]
 refine pl_begin ?_
 refine pl_t 3 (?_) (by rfl) ?_ rfl ?_
 rotate_left
 ·go_simp
  try with_reducible rfl
 simp only [nz]
 refine pl_t 4 (.int .i64 r.k) (by rfl) (pl_one rfl rfl k0 Tryz.underlying3 rfl) rfl ?_
 simp only [nz]
 refine pl_nil ?_
 go_upto_region 2 with fail
 try simp only [Act.put]
 refine pl_begin ?_
 refine pl_t 6 (.bool false) (by rfl) (by go_simp <;> (try simp [*])) rfl ?_
 simp only [nz]
 refine pl_t 5 (?_) (by rfl) ?_ rfl ?_
 rotate_left
 ·go_simp
  try with_reducible rfl
 simp only [nz]
 refine pl_nil ?_
 go_upto_region 4 with fail
 try simp only [Act.put]
 refine pl_begin ?_
 refine pl_t 13 (.bool false) (by rfl) (by go_simp <;> (try simp [*])) rfl ?_
 simp only [nz]
 refine pl_t 12 (?_) (by rfl) ?_ rfl ?_
 rotate_left
 ·go_simp
  try with_reducible rfl
 simp only [nz]
 refine pl_nil ?_
 go_upto_region 6 with fail
 try simp only [Act.put]
 refine pl_begin ?_
 refine pl_t 20 (.bool false) (by rfl) (by go_simp <;> (try simp [*])) rfl ?_
 simp only [nz]
 refine pl_t 19 (?_) (by rfl) ?_ rfl ?_
 rotate_left
 ·go_simp
  try with_reducible rfl
 simp only [nz]
 refine pl_nil ?_
 have hB0 := (fun w0 => by rw [Rc.xtold7 hn1.out hn3.out hn5.out]; exact xt7 r.q r.rs r.ct h r.cs w0 : ∀ w0 : World, (Instr.build 63 #[(0, .int .i64 7), (5, .agg #[.bool r.q, r.rs.val]), (10, .agg (certL r.ct r.cs).toArray)]).run Tryz.prog w0 = .ok (.agg r.xtold.ms.cells.toArray) w0)
 simp only [hpc.out] at hB0
 go_upto_region 8 with fail
 try simp only [Act.put]
 refine pl_begin ?_
 refine pl_t 26 (?_) (by rfl) ?_ rfl ?_
 rotate_left
 ·go_simp
  try with_reducible rfl
 simp only [nz]
 refine pl_t 27 (.agg #[.bool r.q, r.rs.val]) (by rfl) (ex_mid rfl rfl kb Tryz.underlying24 rfl iszBa) rfl ?_
 simp only [nz]
 refine pl_t 28 (?_) (by rfl) ?_ rfl ?_
 rotate_left
 ·go_simp
  try with_reducible rfl
 simp only [nz]
 refine pl_t 29 (.agg (certL r.ct r.cs).toArray) (by rfl) (ex_mid rfl rfl kc Tryz.underlying31 rfl hic) rfl ?_
 simp only [nz]
 refine pl_t 30 (.agg pc.toArray) (by rfl) (ex_build (parts := [(0, .const (.int .i64 7)), (5, .tmp 27), (10, .tmp 29)]) rfl rfl (hB0 _)) rfl ?_
 simp only [nz]
 refine pl_store (w' := W2.setCells W1.heap.size 0 pc) (by rfl) (ex_put (cs := pc.toArray) rfl rfl rfl (by simpa [hpl] using ht2) (by simpa using hip) (all_one hp1)) rfl ?_
 refine pl_nil ?_
 have hrs := run_loadVar_mid (P := Tryz.prog) (W2.setCells W1.heap.size 0 pc) W1.heap.size 0 63 pc _ (World.rangeAt_setCells_same W2 W1.heap.size 0 pc (by rw [hpl]; exact ht2)) Tryz.underlying63 rfl hip
 have HB := hide (below_sets (b := W1.heap.size) hB1.size pc 0 _ hB3)
 clear hr0 hB1 hB2 ht2 hB3 k0 k1 k2 k3 kb kc kt kg hr1
 go_wp2_with fail
 refine bodyPost_ret (v := .agg pc.toArray) ?_ rfl ⟨rfl, HB.out⟩
 simp [results, Tryz.results24, Act.put, asAddr, hrs]
end Go.Proofs.YtinndbipomlokaaGreat
