/- the document's marks: New -/
import Derived.Test.YtfaagiilldkdgaaKO
import Derived.Test.YtfaagiilldkdgaaRefNth
import Derived.BigQuiet
namespace Go.Proofs.Ytfaagiilldkdgaa
open Go.RowKit
set_option linter.unusedVariables false
set_option linter.unusedSimpArgs false
section
variable {P : Program} {ops : Array Oper} {Q : Exit → Act → World → Prop}
theorem hs_forkL {l : List Nat} {S : World → Prop} {fuel : Nat} {listed : Array Bool} {a : Act} {w : World} (hr : Region.ready .any ops listed = l) (hl : l ≠ [])
    (h : ∀ i ∈ l, StepS P ops Q S fuel listed i a w) : HeldS P ops Q S (fuel + 1) listed a w := by
  subst hr
  refine wpAnyH_all rfl ?_ ?_
  · exact hl
  · intro k hk
    exact h k hk
end
theorem made_rep (z : Array Value) (v : Value) (s M : Nat) (hs : 0 < s) (hz : z = (List.replicate s v).toArray) : madeCells z M = (List.replicate M v).toArray := by
  subst hz
  apply Array.ext
  · simp [madeCells]
  · intro i h1 h2
    simp only [madeCells, Array.getElem_map, Array.getElem_range]
    have hm : i % s < s := Nat.mod_lt _ hs
    simp [List.getElem_replicate, hm]
theorem rep_range {w : World} {A M : Nat} {v : Value} (h : w.rangeAt A 0 (List.replicate M v)) (i k : Nat) (hk : i + k ≤ M) : w.rangeAt A i (List.replicate k v) := fun j u hu => by
  have hj : j < k := by have := (List.getElem?_eq_some_iff.1 hu).1; simpa using this
  have := h (i + j) u (by
    rw [List.getElem?_replicate, if_pos (by omega)]
    rw [List.getElem?_replicate, if_pos hj] at hu
    exact hu)
  simpa using this
theorem v8_rep (k : Nat) : v8 (List.replicate k 0) = List.replicate k (.int .u8 0) := by simp [v8]
theorem infoD : (Try.prog.info? 29).map (fun i => (i.zero, i.size, i.bytes)) = some (some (.agg (v8 (List.replicate 32 0)).toArray), 32, 32) := by kernel_rfl
theorem infoT : (Try.prog.info? 31).map (fun i => (i.zero, i.size, i.bytes)) = some (some (.agg (v8 (List.replicate 16 0)).toArray), 16, 16) := by kernel_rfl
theorem mkE (n : Nat) (hn : n ≤ 64) (w : World) : (Instr.makeSlice 43 (.int .i64 (n : Int)) (.int .i64 (n : Int))).run Try.prog w = .ok (.slice (some ⟨w.heap.size, 0, none⟩) n n) (w.alloc (.cells (List.replicate n (Value.int .i64 0)).toArray 3)) := by
  rw [run_make_row' 43 3 (.int .i64 0) 8 Try.underlying43 infoI rfl .i64 .i64 n (by omega) (by omega) w, made_rep #[.int .i64 0] (.int .i64 0) 1 n (by omega) rfl]
theorem mkD (n : Nat) (hn : n ≤ 64) (w : World) : (Instr.makeSlice 44 (.int .i64 (n : Int)) (.int .i64 (n : Int))).run Try.prog w = .ok (.slice (some ⟨w.heap.size, 0, none⟩) n n) (w.alloc (.cells (List.replicate (n * 32) (Value.int .u8 0)).toArray 29)) := by
  obtain ⟨i, hi, hz, hs, hb⟩ := info_parts infoD
  have := run_make (P := Try.prog) w 44 29 i _ Try.underlying44 hi hz .i64 .i64 (n : Int) (n : Int) (by omega) (Int.le_refl _) (by rw [hb]; omega) (by omega)
  simp only [Int.toNat_natCast, hs] at this
  rw [this, made_rep _ (.int .u8 0) 32 (n * 32) (by omega) (by rw [v8_rep]; rfl)]
theorem mkT (n : Nat) (hn : n ≤ 64) (w : World) : (Instr.makeSlice 45 (.int .i64 (n : Int)) (.int .i64 (n : Int))).run Try.prog w = .ok (.slice (some ⟨w.heap.size, 0, none⟩) n n) (w.alloc (.cells (List.replicate (n * 16) (Value.int .u8 0)).toArray 31)) := by
  obtain ⟨i, hi, hz, hs, hb⟩ := info_parts infoT
  have := run_make (P := Try.prog) w 45 31 i _ Try.underlying45 hi hz .i64 .i64 (n : Int) (n : Int) (by omega) (Int.le_refl _) (by rw [hb]; omega) (by omega)
  simp only [Int.toNat_natCast, hs] at this
  rw [this, made_rep _ (.int .u8 0) 16 (n * 16) (by omega) (by rw [v8_rep]; rfl)]
theorem ex_make {P : Program} {o : Oper} {a : Act} {w w' : World} {t : TypeId} {x y : Operand} {u v r : Value} (ho : o.op = .makeSlice t x y) (hx : a.eval x = u) (hy : a.eval y = v) (hr : (Instr.makeSlice t u v).run P w = .ok r w') : (execOp a.eval o).run P w = .ok (.value r) w' := by
  unfold execOp
  simp [ho, hx, hy, hr]
/-- a row of one's own in a block -/
structure Rw (w : World) (A : Nat) (cs : List Value) : Prop where
  lt : A < w.heap.size
  r : w.rangeAt A 0 cs
  th : w.there A 0 cs.length
theorem Rw.below {w w' : World} {A : Nat} {cs : List Value} (h : Rw w A cs) (hb : Below w.heap.size w w') : Rw w' A cs := ⟨Nat.lt_of_lt_of_le h.lt hb.size, range_below h.r hb h.lt, there_below h.th hb h.lt⟩
theorem Rw.new (w : World) (cs : List Value) (t : TypeId) : Rw (w.alloc (.cells cs.toArray t)) w.heap.size cs := ⟨by simp, by simpa using range_new w cs.toArray t, by simpa using there_new w cs.toArray t⟩
/-- the document's marks -/
structure XAt (w : World) (X E D T n : Nat) (m : Int → Option Mk) : Prop where
  lt : X < w.heap.size
  ltE : E < w.heap.size
  ltD : D < w.heap.size
  ltT : T < w.heap.size
  c0 : w.cell? ⟨X, 0, none⟩ = some (.int .i64 (n : Int))
  c1 : w.cell? ⟨X, 1, none⟩ = some (.slice (some ⟨E, 0, none⟩) n n)
  c2 : w.cell? ⟨X, 2, none⟩ = some (.slice (some ⟨D, 0, none⟩) n n)
  c3 : w.cell? ⟨X, 3, none⟩ = some (.slice (some ⟨T, 0, none⟩) n n)
  rE : ∀ i : Nat, i < n → w.cell? ⟨E, i, none⟩ = some (.int .i64 (wasOf m i).e)
  rD : ∀ i : Nat, i < n → w.rangeAt D (i * 32) (v8 (wasOf m i).d)
  rT : ∀ i : Nat, i < n → w.rangeAt T (i * 16) (v8 (wasOf m i).t)
  tE : w.there E 0 n
  tD : w.there D 0 (n * 32)
  tT : w.there T 0 (n * 16)
  ne : X ≠ E ∧ X ≠ D ∧ X ≠ T ∧ E ≠ D ∧ E ≠ T ∧ D ≠ T
  good : 4 ≤ n ∧ n ≤ 64
  ok : ∀ k x, m k = some x → x.ok ∧ 0 ≤ k ∧ k < (n : Int) ∧ 1 ≤ x.e ∧ x.e ≤ 1048576
theorem XAt.at {w w' : World} {X E D T n : Nat} {m : Int → Option Mk} (h : XAt w X E D T n m) (hs : w.heap.size ≤ w'.heap.size) (h1 : w'.heap[X]? = w.heap[X]?) (h2 : w'.heap[E]? = w.heap[E]?) (h3 : w'.heap[D]? = w.heap[D]?) (h4 : w'.heap[T]? = w.heap[T]?) : XAt w' X E D T n m := by
  have ct : ∀ {b o k : Nat}, w'.heap[b]? = w.heap[b]? → w.there b o k → w'.there b o k := fun hb q j hj => by
    have := q j hj
    simpa [World.cell?, World.frozen?, hb] using this
  have cc : ∀ {b o : Nat}, w'.heap[b]? = w.heap[b]? → w'.cell? ⟨b, o, none⟩ = w.cell? ⟨b, o, none⟩ := fun hb => by simp [World.cell?, hb]
  exact ⟨Nat.lt_of_lt_of_le h.lt hs, Nat.lt_of_lt_of_le h.ltE hs, Nat.lt_of_lt_of_le h.ltD hs, Nat.lt_of_lt_of_le h.ltT hs, (cc h1).trans h.c0, (cc h1).trans h.c1, (cc h1).trans h.c2, (cc h1).trans h.c3, fun i hi => (cc h2).trans (h.rE i hi), fun i hi => range_at (h.rD i hi) h3, fun i hi => range_at (h.rT i hi) h4, ct h2 h.tE, ct h3 h.tD, ct h4 h.tT, h.ne, h.good, h.ok⟩
theorem XAt.below {w w' : World} {X E D T n : Nat} {m : Int → Option Mk} (h : XAt w X E D T n m) (hb : Below w.heap.size w w') : XAt w' X E D T n m := h.at hb.size (hb.block _ h.lt) (hb.block _ h.ltE) (hb.block _ h.ltD) (hb.block _ h.ltT)
theorem XAt.off {w w' : World} {X E D T n : Nat} {m : Int → Option Mk} {F : Nat → Prop} (h : XAt w X E D T n m) (hO : Off F w w') (h1 : ¬ F X) (h2 : ¬ F E) (h3 : ¬ F D) (h4 : ¬ F T) : XAt w' X E D T n m := h.at hO.size (hO.2 _ h.lt h1) (hO.2 _ h.ltE h2) (hO.2 _ h.ltD h3) (hO.2 _ h.ltT h4)
def xC (E D T n : Nat) : List Value := [.int .i64 (n : Int), .slice (some ⟨E, 0, none⟩) n n, .slice (some ⟨D, 0, none⟩) n n, .slice (some ⟨T, 0, none⟩) n n]
theorem XAt.new {w : World} {E D T n : Nat} (hE : Rw w E (List.replicate n (.int .i64 0))) (hD : Rw w D (List.replicate (n * 32) (.int .u8 0))) (hT : Rw w T (List.replicate (n * 16) (.int .u8 0))) (hne : E ≠ D ∧ E ≠ T ∧ D ≠ T) (hg : 4 ≤ n ∧ n ≤ 64) : XAt (w.alloc (.cells (xC E D T n).toArray 47)) w.heap.size E D T n (fun _ => none) := by
  have hb : Below w.heap.size w (w.alloc (.cells (xC E D T n).toArray 47)) := (Below.refl _ _).alloc (Nat.le_refl _) _
  have hr := range_new w (xC E D T n).toArray 47
  have h1 := hE.below hb
  have h2 := hD.below hb
  have h3 := hT.below hb
  have l1 := hE.lt
  have l2 := hD.lt
  have l3 := hT.lt
  refine ⟨by simp, h1.lt, h2.lt, h3.lt, hr 0 _ rfl, hr 1 _ rfl, hr 2 _ rfl, hr 3 _ rfl, fun i hi => ?_, fun i hi => ?_, fun i hi => ?_, by simpa using h1.th, by simpa using h2.th, by simpa using h3.th, ⟨by omega, by omega, by omega, hne.1, hne.2.1, hne.2.2⟩, hg, by simp⟩
  · have := h1.r i (.int .i64 0) (by rw [List.getElem?_replicate, if_pos hi])
    rw [Nat.zero_add] at this
    exact this
  · show (w.alloc (.cells (xC E D T n).toArray 47)).rangeAt D (i * 32) (v8 (List.replicate 32 0))
    rw [v8_rep]
    exact rep_range h2.r _ _ (by omega)
  · show (w.alloc (.cells (xC E D T n).toArray 47)).rangeAt T (i * 16) (v8 (List.replicate 16 0))
    rw [v8_rep]
    exact rep_range h3.r _ _ (by omega)
set_option maxHeartbeats 400000 in
theorem xnew_no (n : Int) (w : World) (h : Nq.goodB n = false) : Calls Try.prog 7 #[.int .i64 n] w fun e w' => e = .returned (.pointer none) ∧ w' = w := by
  have cg := Nq.refGood_any n w
  rw [h] at cg
  clear h
  go_enter Try.func7, Try.ntmps7
  go_wp2_with fail
  refine cg.mono ?_
  rintro _ wx ⟨rfl, hx⟩
  obtain rfl := hx.symm
  clear hx
  go_wp2_with fail
  go_ret
  exact ⟨rfl, rfl⟩
theorem build_x (E D T n : Nat) (w : World) : (Instr.build 47 #[(0, .int .i64 (n : Int)), (1, .slice (some ⟨E, 0, none⟩) n n), (2, .slice (some ⟨D, 0, none⟩) n n), (3, .slice (some ⟨T, 0, none⟩) n n)]).run Try.prog w = .ok (.agg (xC E D T n).toArray) w := by kernel_rfl
theorem ex_box {P : Program} {o : Oper} {a : Act} {w : World} {t : TypeId} {x : Operand} {u : Array Value} (ho : o.op = .box t x) (hx : a.eval x = .agg u) : (execOp a.eval o).run P w = .ok (.value (.pointer (some ⟨w.heap.size, 0, none⟩))) (w.alloc (.cells u t)) := by
  unfold execOp
  simp [ho, hx, Instr.box, newVar, newRow, Value.cells]
set_option maxRecDepth 100000 in
set_option maxHeartbeats 4000000 in
theorem xnew_yes (n : Nat) (w : World) (h : Nq.goodB (n : Int) = true) : Calls Try.prog 7 #[.int .i64 (n : Int)] w fun e w' => ∃ X E D T, e = .returned (.pointer (some ⟨X, 0, none⟩)) ∧ XAt w' X E D T n (fun _ => none) ∧ w.heap.size ≤ X ∧ w.heap.size ≤ E ∧ w.heap.size ≤ D ∧ w.heap.size ≤ T ∧ Below w.heap.size w w' := by
  have cg := Nq.refGood_any (n : Int) w
  rw [h] at cg
  have hg0 := Nq.goodB_true h
  have hg : 4 ≤ n ∧ n ≤ 64 := ⟨by omega, by omega⟩
  clear h hg0
  go_enter Try.func7, Try.ntmps7
  go_wp2_with fail
  refine cg.mono ?_
  rintro _ wx ⟨rfl, hx⟩
  obtain rfl := hx.symm
  clear hx cg
  go_upto_region 3 with fail
  refine hs_begin (S := fun _ => True) 10 rfl (by kernel_rfl) ?_
  have hbl : Below w.heap.size w w.drew := (Below.refl _ _).drew
  have hS : (fun _ : World => True) w.drew := trivial
  have hsw : w.heap.size ≤ w.drew.heap.size := Nat.le_refl _
  generalize w.drew = w8 at *
  refine hs_take (i := 0) (d := some 6) (v := ?_) rfl (by kernel_rfl) (by kernel_rfl) (by kernel_rfl) (by rfl) ?_ trivial rfl ?_
  rotate_left
  · intro w' hw
    go_simp
    try with_reducible rfl
  simp only [Act.put, List.setIfInBounds_toArray, List.set_cons_zero, List.set_cons_succ]
  refine hs_take (i := 1) (d := some 7) (v := ?_) rfl (by kernel_rfl) (by kernel_rfl) (by kernel_rfl) (by rfl) ?_ trivial rfl ?_
  rotate_left
  · intro w' hw
    go_simp
    try with_reducible rfl
  simp only [Act.put, List.setIfInBounds_toArray, List.set_cons_zero, List.set_cons_succ]
  refine hs_take (i := 3) (d := some 9) (v := ?_) rfl (by kernel_rfl) (by kernel_rfl) (by kernel_rfl) (by rfl) ?_ trivial rfl ?_
  rotate_left
  · intro w' hw
    go_simp
    try with_reducible rfl
  simp only [Act.put, List.setIfInBounds_toArray, List.set_cons_zero, List.set_cons_succ]
  refine hs_take (i := 5) (d := some 11) (v := ?_) rfl (by kernel_rfl) (by kernel_rfl) (by kernel_rfl) (by rfl) ?_ trivial rfl ?_
  rotate_left
  · intro w' hw
    go_simp
    try with_reducible rfl
  simp only [Act.put, List.setIfInBounds_toArray, List.set_cons_zero, List.set_cons_succ]
  refine hs_forkL (l := [2, 4, 6]) (by kernel_rfl) (by simp) ?_
  intro k hk
  simp only [List.mem_cons, List.not_mem_nil, or_false] at hk
  rcases hk with rfl | rfl | rfl
  · refine st_run (i := 2) (d := some 8) (v := .slice (some ⟨w8.heap.size, 0, none⟩) n n) (w' := w8.alloc (.cells (List.replicate n (Value.int .i64 0)).toArray 3)) rfl (by rfl) (ex_make rfl rfl rfl (mkE n hg.2 _)) rfl trivial ?_
    simp only [Act.put, List.setIfInBounds_toArray, List.set_cons_zero, List.set_cons_succ]
    have hbb : Below w8.heap.size w8 (w8.alloc (.cells (List.replicate n (Value.int .i64 0)).toArray 3)) := (Below.refl _ _).alloc (Nat.le_refl _) _
    have hE := Rw.new w8 (List.replicate n (Value.int .i64 0)) 3
    have hsz : w8.heap.size + 1 ≤ (w8.alloc (.cells (List.replicate n (Value.int .i64 0)).toArray 3)).heap.size := by simp
    obtain ⟨E, hEe⟩ : ∃ A, Hid (w8.heap.size = A) := ⟨_, hide rfl⟩
    have hEl : w8.heap.size ≤ E ∧ E ≤ w8.heap.size := by rw [← hEe.out]; exact ⟨Nat.le_refl _, Nat.le_refl _⟩
    rw [hEe.out] at hE ⊢
    have hbl := hbl.trans (hbb.mono hbl.size)
    generalize w8.alloc (.cells (List.replicate n (Value.int .i64 0)).toArray 3) = v2 at *
    clear hbb hEe
    refine hs_forkL (l := [4, 6]) (by kernel_rfl) (by simp) ?_
    intro k hk
    simp only [List.mem_cons, List.not_mem_nil, or_false] at hk
    rcases hk with rfl | rfl
    · refine st_run (i := 4) (d := some 10) (v := .slice (some ⟨v2.heap.size, 0, none⟩) n n) (w' := v2.alloc (.cells (List.replicate (n * 32) (Value.int .u8 0)).toArray 29)) rfl (by rfl) (ex_make rfl rfl rfl (mkD n hg.2 _)) rfl trivial ?_
      simp only [Act.put, List.setIfInBounds_toArray, List.set_cons_zero, List.set_cons_succ]
      have hbb : Below v2.heap.size v2 (v2.alloc (.cells (List.replicate (n * 32) (Value.int .u8 0)).toArray 29)) := (Below.refl _ _).alloc (Nat.le_refl _) _
      have hD := Rw.new v2 (List.replicate (n * 32) (Value.int .u8 0)) 29
      have hsz : v2.heap.size + 1 ≤ (v2.alloc (.cells (List.replicate (n * 32) (Value.int .u8 0)).toArray 29)).heap.size := by simp
      obtain ⟨D, hDe⟩ : ∃ A, Hid (v2.heap.size = A) := ⟨_, hide rfl⟩
      have hDl : v2.heap.size ≤ D ∧ D ≤ v2.heap.size := by rw [← hDe.out]; exact ⟨Nat.le_refl _, Nat.le_refl _⟩
      rw [hDe.out] at hD ⊢
      have hE := hE.below hbb
      have hbl := hbl.trans (hbb.mono hbl.size)
      generalize v2.alloc (.cells (List.replicate (n * 32) (Value.int .u8 0)).toArray 29) = v24 at *
      clear hbb hDe
      refine hs_run (i := 6) (d := some 12) (v := .slice (some ⟨v24.heap.size, 0, none⟩) n n) (w' := v24.alloc (.cells (List.replicate (n * 16) (Value.int .u8 0)).toArray 31)) rfl (by kernel_rfl) (by rfl) (ex_make rfl rfl rfl (mkT n hg.2 _)) rfl trivial ?_
      simp only [Act.put, List.setIfInBounds_toArray, List.set_cons_zero, List.set_cons_succ]
      have hbb : Below v24.heap.size v24 (v24.alloc (.cells (List.replicate (n * 16) (Value.int .u8 0)).toArray 31)) := (Below.refl _ _).alloc (Nat.le_refl _) _
      have hT := Rw.new v24 (List.replicate (n * 16) (Value.int .u8 0)) 31
      have hsz : v24.heap.size + 1 ≤ (v24.alloc (.cells (List.replicate (n * 16) (Value.int .u8 0)).toArray 31)).heap.size := by simp
      obtain ⟨T, hTe⟩ : ∃ A, Hid (v24.heap.size = A) := ⟨_, hide rfl⟩
      have hTl : v24.heap.size ≤ T ∧ T ≤ v24.heap.size := by rw [← hTe.out]; exact ⟨Nat.le_refl _, Nat.le_refl _⟩
      rw [hTe.out] at hT ⊢
      have hE := hE.below hbb
      have hD := hD.below hbb
      have hbl := hbl.trans (hbb.mono hbl.size)
      generalize v24.alloc (.cells (List.replicate (n * 16) (Value.int .u8 0)).toArray 31) = v246 at *
      clear hbb hTe
      have hne : E ≠ D ∧ E ≠ T ∧ D ≠ T := by omega
      have hx := XAt.new hE hD hT hne hg
      have hbx : Below v246.heap.size v246 (v246.alloc (.cells (xC E D T n).toArray 47)) := (Below.refl _ _).alloc (Nat.le_refl _) _
      refine hs_take (i := 7) (d := some 13) (v := .agg (xC E D T n).toArray) rfl (by kernel_rfl) (by kernel_rfl) (by kernel_rfl) (by rfl) (fun w' hw => ex_build (parts := [(0, .tmp 6), (1, .tmp 8), (2, .tmp 10), (3, .tmp 12)]) rfl rfl (build_x E D T n w')) trivial rfl ?_
      simp only [Act.put, List.setIfInBounds_toArray, List.set_cons_zero, List.set_cons_succ]
      refine hs_run (i := 8) (d := some 14) (v := .pointer (some ⟨v246.heap.size, 0, none⟩)) (w' := v246.alloc (.cells (xC E D T n).toArray 47)) rfl (by kernel_rfl) (by rfl) (ex_box rfl rfl) rfl trivial ?_
      simp only [Act.put, List.setIfInBounds_toArray, List.set_cons_zero, List.set_cons_succ]
      refine hs_take (i := 9) (d := some 2) (v := ?_) rfl (by kernel_rfl) (by kernel_rfl) (by kernel_rfl) (by rfl) ?_ trivial rfl ?_
      rotate_left
      · intro w' hw
        go_simp
        try with_reducible rfl
      simp only [Act.put, List.setIfInBounds_toArray, List.set_cons_zero, List.set_cons_succ]
      refine hs_done (by kernel_rfl) ?_
      go_wp2_with fail
      go_ret
      exact ⟨_, E, D, T, rfl, hx, by omega, by omega, by omega, by omega, hbl.trans (hbx.mono (by omega))⟩
    · refine st_run (i := 6) (d := some 12) (v := .slice (some ⟨v2.heap.size, 0, none⟩) n n) (w' := v2.alloc (.cells (List.replicate (n * 16) (Value.int .u8 0)).toArray 31)) rfl (by rfl) (ex_make rfl rfl rfl (mkT n hg.2 _)) rfl trivial ?_
      simp only [Act.put, List.setIfInBounds_toArray, List.set_cons_zero, List.set_cons_succ]
      have hbb : Below v2.heap.size v2 (v2.alloc (.cells (List.replicate (n * 16) (Value.int .u8 0)).toArray 31)) := (Below.refl _ _).alloc (Nat.le_refl _) _
      have hT := Rw.new v2 (List.replicate (n * 16) (Value.int .u8 0)) 31
      have hsz : v2.heap.size + 1 ≤ (v2.alloc (.cells (List.replicate (n * 16) (Value.int .u8 0)).toArray 31)).heap.size := by simp
      obtain ⟨T, hTe⟩ : ∃ A, Hid (v2.heap.size = A) := ⟨_, hide rfl⟩
      have hTl : v2.heap.size ≤ T ∧ T ≤ v2.heap.size := by rw [← hTe.out]; exact ⟨Nat.le_refl _, Nat.le_refl _⟩
      rw [hTe.out] at hT ⊢
      have hE := hE.below hbb
      have hbl := hbl.trans (hbb.mono hbl.size)
      generalize v2.alloc (.cells (List.replicate (n * 16) (Value.int .u8 0)).toArray 31) = v26 at *
      clear hbb hTe
      refine hs_run (i := 4) (d := some 10) (v := .slice (some ⟨v26.heap.size, 0, none⟩) n n) (w' := v26.alloc (.cells (List.replicate (n * 32) (Value.int .u8 0)).toArray 29)) rfl (by kernel_rfl) (by rfl) (ex_make rfl rfl rfl (mkD n hg.2 _)) rfl trivial ?_
      simp only [Act.put, List.setIfInBounds_toArray, List.set_cons_zero, List.set_cons_succ]
      have hbb : Below v26.heap.size v26 (v26.alloc (.cells (List.replicate (n * 32) (Value.int .u8 0)).toArray 29)) := (Below.refl _ _).alloc (Nat.le_refl _) _
      have hD := Rw.new v26 (List.replicate (n * 32) (Value.int .u8 0)) 29
      have hsz : v26.heap.size + 1 ≤ (v26.alloc (.cells (List.replicate (n * 32) (Value.int .u8 0)).toArray 29)).heap.size := by simp
      obtain ⟨D, hDe⟩ : ∃ A, Hid (v26.heap.size = A) := ⟨_, hide rfl⟩
      have hDl : v26.heap.size ≤ D ∧ D ≤ v26.heap.size := by rw [← hDe.out]; exact ⟨Nat.le_refl _, Nat.le_refl _⟩
      rw [hDe.out] at hD ⊢
      have hE := hE.below hbb
      have hT := hT.below hbb
      have hbl := hbl.trans (hbb.mono hbl.size)
      generalize v26.alloc (.cells (List.replicate (n * 32) (Value.int .u8 0)).toArray 29) = v264 at *
      clear hbb hDe
      have hne : E ≠ D ∧ E ≠ T ∧ D ≠ T := by omega
      have hx := XAt.new hE hD hT hne hg
      have hbx : Below v264.heap.size v264 (v264.alloc (.cells (xC E D T n).toArray 47)) := (Below.refl _ _).alloc (Nat.le_refl _) _
      refine hs_take (i := 7) (d := some 13) (v := .agg (xC E D T n).toArray) rfl (by kernel_rfl) (by kernel_rfl) (by kernel_rfl) (by rfl) (fun w' hw => ex_build (parts := [(0, .tmp 6), (1, .tmp 8), (2, .tmp 10), (3, .tmp 12)]) rfl rfl (build_x E D T n w')) trivial rfl ?_
      simp only [Act.put, List.setIfInBounds_toArray, List.set_cons_zero, List.set_cons_succ]
      refine hs_run (i := 8) (d := some 14) (v := .pointer (some ⟨v264.heap.size, 0, none⟩)) (w' := v264.alloc (.cells (xC E D T n).toArray 47)) rfl (by kernel_rfl) (by rfl) (ex_box rfl rfl) rfl trivial ?_
      simp only [Act.put, List.setIfInBounds_toArray, List.set_cons_zero, List.set_cons_succ]
      refine hs_take (i := 9) (d := some 2) (v := ?_) rfl (by kernel_rfl) (by kernel_rfl) (by kernel_rfl) (by rfl) ?_ trivial rfl ?_
      rotate_left
      · intro w' hw
        go_simp
        try with_reducible rfl
      simp only [Act.put, List.setIfInBounds_toArray, List.set_cons_zero, List.set_cons_succ]
      refine hs_done (by kernel_rfl) ?_
      go_wp2_with fail
      go_ret
      exact ⟨_, E, D, T, rfl, hx, by omega, by omega, by omega, by omega, hbl.trans (hbx.mono (by omega))⟩
  · refine st_run (i := 4) (d := some 10) (v := .slice (some ⟨w8.heap.size, 0, none⟩) n n) (w' := w8.alloc (.cells (List.replicate (n * 32) (Value.int .u8 0)).toArray 29)) rfl (by rfl) (ex_make rfl rfl rfl (mkD n hg.2 _)) rfl trivial ?_
    simp only [Act.put, List.setIfInBounds_toArray, List.set_cons_zero, List.set_cons_succ]
    have hbb : Below w8.heap.size w8 (w8.alloc (.cells (List.replicate (n * 32) (Value.int .u8 0)).toArray 29)) := (Below.refl _ _).alloc (Nat.le_refl _) _
    have hD := Rw.new w8 (List.replicate (n * 32) (Value.int .u8 0)) 29
    have hsz : w8.heap.size + 1 ≤ (w8.alloc (.cells (List.replicate (n * 32) (Value.int .u8 0)).toArray 29)).heap.size := by simp
    obtain ⟨D, hDe⟩ : ∃ A, Hid (w8.heap.size = A) := ⟨_, hide rfl⟩
    have hDl : w8.heap.size ≤ D ∧ D ≤ w8.heap.size := by rw [← hDe.out]; exact ⟨Nat.le_refl _, Nat.le_refl _⟩
    rw [hDe.out] at hD ⊢
    have hbl := hbl.trans (hbb.mono hbl.size)
    generalize w8.alloc (.cells (List.replicate (n * 32) (Value.int .u8 0)).toArray 29) = v4 at *
    clear hbb hDe
    refine hs_forkL (l := [2, 6]) (by kernel_rfl) (by simp) ?_
    intro k hk
    simp only [List.mem_cons, List.not_mem_nil, or_false] at hk
    rcases hk with rfl | rfl
    · refine st_run (i := 2) (d := some 8) (v := .slice (some ⟨v4.heap.size, 0, none⟩) n n) (w' := v4.alloc (.cells (List.replicate n (Value.int .i64 0)).toArray 3)) rfl (by rfl) (ex_make rfl rfl rfl (mkE n hg.2 _)) rfl trivial ?_
      simp only [Act.put, List.setIfInBounds_toArray, List.set_cons_zero, List.set_cons_succ]
      have hbb : Below v4.heap.size v4 (v4.alloc (.cells (List.replicate n (Value.int .i64 0)).toArray 3)) := (Below.refl _ _).alloc (Nat.le_refl _) _
      have hE := Rw.new v4 (List.replicate n (Value.int .i64 0)) 3
      have hsz : v4.heap.size + 1 ≤ (v4.alloc (.cells (List.replicate n (Value.int .i64 0)).toArray 3)).heap.size := by simp
      obtain ⟨E, hEe⟩ : ∃ A, Hid (v4.heap.size = A) := ⟨_, hide rfl⟩
      have hEl : v4.heap.size ≤ E ∧ E ≤ v4.heap.size := by rw [← hEe.out]; exact ⟨Nat.le_refl _, Nat.le_refl _⟩
      rw [hEe.out] at hE ⊢
      have hD := hD.below hbb
      have hbl := hbl.trans (hbb.mono hbl.size)
      generalize v4.alloc (.cells (List.replicate n (Value.int .i64 0)).toArray 3) = v42 at *
      clear hbb hEe
      refine hs_run (i := 6) (d := some 12) (v := .slice (some ⟨v42.heap.size, 0, none⟩) n n) (w' := v42.alloc (.cells (List.replicate (n * 16) (Value.int .u8 0)).toArray 31)) rfl (by kernel_rfl) (by rfl) (ex_make rfl rfl rfl (mkT n hg.2 _)) rfl trivial ?_
      simp only [Act.put, List.setIfInBounds_toArray, List.set_cons_zero, List.set_cons_succ]
      have hbb : Below v42.heap.size v42 (v42.alloc (.cells (List.replicate (n * 16) (Value.int .u8 0)).toArray 31)) := (Below.refl _ _).alloc (Nat.le_refl _) _
      have hT := Rw.new v42 (List.replicate (n * 16) (Value.int .u8 0)) 31
      have hsz : v42.heap.size + 1 ≤ (v42.alloc (.cells (List.replicate (n * 16) (Value.int .u8 0)).toArray 31)).heap.size := by simp
      obtain ⟨T, hTe⟩ : ∃ A, Hid (v42.heap.size = A) := ⟨_, hide rfl⟩
      have hTl : v42.heap.size ≤ T ∧ T ≤ v42.heap.size := by rw [← hTe.out]; exact ⟨Nat.le_refl _, Nat.le_refl _⟩
      rw [hTe.out] at hT ⊢
      have hD := hD.below hbb
      have hE := hE.below hbb
      have hbl := hbl.trans (hbb.mono hbl.size)
      generalize v42.alloc (.cells (List.replicate (n * 16) (Value.int .u8 0)).toArray 31) = v426 at *
      clear hbb hTe
      have hne : E ≠ D ∧ E ≠ T ∧ D ≠ T := by omega
      have hx := XAt.new hE hD hT hne hg
      have hbx : Below v426.heap.size v426 (v426.alloc (.cells (xC E D T n).toArray 47)) := (Below.refl _ _).alloc (Nat.le_refl _) _
      refine hs_take (i := 7) (d := some 13) (v := .agg (xC E D T n).toArray) rfl (by kernel_rfl) (by kernel_rfl) (by kernel_rfl) (by rfl) (fun w' hw => ex_build (parts := [(0, .tmp 6), (1, .tmp 8), (2, .tmp 10), (3, .tmp 12)]) rfl rfl (build_x E D T n w')) trivial rfl ?_
      simp only [Act.put, List.setIfInBounds_toArray, List.set_cons_zero, List.set_cons_succ]
      refine hs_run (i := 8) (d := some 14) (v := .pointer (some ⟨v426.heap.size, 0, none⟩)) (w' := v426.alloc (.cells (xC E D T n).toArray 47)) rfl (by kernel_rfl) (by rfl) (ex_box rfl rfl) rfl trivial ?_
      simp only [Act.put, List.setIfInBounds_toArray, List.set_cons_zero, List.set_cons_succ]
      refine hs_take (i := 9) (d := some 2) (v := ?_) rfl (by kernel_rfl) (by kernel_rfl) (by kernel_rfl) (by rfl) ?_ trivial rfl ?_
      rotate_left
      · intro w' hw
        go_simp
        try with_reducible rfl
      simp only [Act.put, List.setIfInBounds_toArray, List.set_cons_zero, List.set_cons_succ]
      refine hs_done (by kernel_rfl) ?_
      go_wp2_with fail
      go_ret
      exact ⟨_, E, D, T, rfl, hx, by omega, by omega, by omega, by omega, hbl.trans (hbx.mono (by omega))⟩
    · refine st_run (i := 6) (d := some 12) (v := .slice (some ⟨v4.heap.size, 0, none⟩) n n) (w' := v4.alloc (.cells (List.replicate (n * 16) (Value.int .u8 0)).toArray 31)) rfl (by rfl) (ex_make rfl rfl rfl (mkT n hg.2 _)) rfl trivial ?_
      simp only [Act.put, List.setIfInBounds_toArray, List.set_cons_zero, List.set_cons_succ]
      have hbb : Below v4.heap.size v4 (v4.alloc (.cells (List.replicate (n * 16) (Value.int .u8 0)).toArray 31)) := (Below.refl _ _).alloc (Nat.le_refl _) _
      have hT := Rw.new v4 (List.replicate (n * 16) (Value.int .u8 0)) 31
      have hsz : v4.heap.size + 1 ≤ (v4.alloc (.cells (List.replicate (n * 16) (Value.int .u8 0)).toArray 31)).heap.size := by simp
      obtain ⟨T, hTe⟩ : ∃ A, Hid (v4.heap.size = A) := ⟨_, hide rfl⟩
      have hTl : v4.heap.size ≤ T ∧ T ≤ v4.heap.size := by rw [← hTe.out]; exact ⟨Nat.le_refl _, Nat.le_refl _⟩
      rw [hTe.out] at hT ⊢
      have hD := hD.below hbb
      have hbl := hbl.trans (hbb.mono hbl.size)
      generalize v4.alloc (.cells (List.replicate (n * 16) (Value.int .u8 0)).toArray 31) = v46 at *
      clear hbb hTe
      refine hs_run (i := 2) (d := some 8) (v := .slice (some ⟨v46.heap.size, 0, none⟩) n n) (w' := v46.alloc (.cells (List.replicate n (Value.int .i64 0)).toArray 3)) rfl (by kernel_rfl) (by rfl) (ex_make rfl rfl rfl (mkE n hg.2 _)) rfl trivial ?_
      simp only [Act.put, List.setIfInBounds_toArray, List.set_cons_zero, List.set_cons_succ]
      have hbb : Below v46.heap.size v46 (v46.alloc (.cells (List.replicate n (Value.int .i64 0)).toArray 3)) := (Below.refl _ _).alloc (Nat.le_refl _) _
      have hE := Rw.new v46 (List.replicate n (Value.int .i64 0)) 3
      have hsz : v46.heap.size + 1 ≤ (v46.alloc (.cells (List.replicate n (Value.int .i64 0)).toArray 3)).heap.size := by simp
      obtain ⟨E, hEe⟩ : ∃ A, Hid (v46.heap.size = A) := ⟨_, hide rfl⟩
      have hEl : v46.heap.size ≤ E ∧ E ≤ v46.heap.size := by rw [← hEe.out]; exact ⟨Nat.le_refl _, Nat.le_refl _⟩
      rw [hEe.out] at hE ⊢
      have hD := hD.below hbb
      have hT := hT.below hbb
      have hbl := hbl.trans (hbb.mono hbl.size)
      generalize v46.alloc (.cells (List.replicate n (Value.int .i64 0)).toArray 3) = v462 at *
      clear hbb hEe
      have hne : E ≠ D ∧ E ≠ T ∧ D ≠ T := by omega
      have hx := XAt.new hE hD hT hne hg
      have hbx : Below v462.heap.size v462 (v462.alloc (.cells (xC E D T n).toArray 47)) := (Below.refl _ _).alloc (Nat.le_refl _) _
      refine hs_take (i := 7) (d := some 13) (v := .agg (xC E D T n).toArray) rfl (by kernel_rfl) (by kernel_rfl) (by kernel_rfl) (by rfl) (fun w' hw => ex_build (parts := [(0, .tmp 6), (1, .tmp 8), (2, .tmp 10), (3, .tmp 12)]) rfl rfl (build_x E D T n w')) trivial rfl ?_
      simp only [Act.put, List.setIfInBounds_toArray, List.set_cons_zero, List.set_cons_succ]
      refine hs_run (i := 8) (d := some 14) (v := .pointer (some ⟨v462.heap.size, 0, none⟩)) (w' := v462.alloc (.cells (xC E D T n).toArray 47)) rfl (by kernel_rfl) (by rfl) (ex_box rfl rfl) rfl trivial ?_
      simp only [Act.put, List.setIfInBounds_toArray, List.set_cons_zero, List.set_cons_succ]
      refine hs_take (i := 9) (d := some 2) (v := ?_) rfl (by kernel_rfl) (by kernel_rfl) (by kernel_rfl) (by rfl) ?_ trivial rfl ?_
      rotate_left
      · intro w' hw
        go_simp
        try with_reducible rfl
      simp only [Act.put, List.setIfInBounds_toArray, List.set_cons_zero, List.set_cons_succ]
      refine hs_done (by kernel_rfl) ?_
      go_wp2_with fail
      go_ret
      exact ⟨_, E, D, T, rfl, hx, by omega, by omega, by omega, by omega, hbl.trans (hbx.mono (by omega))⟩
  · refine st_run (i := 6) (d := some 12) (v := .slice (some ⟨w8.heap.size, 0, none⟩) n n) (w' := w8.alloc (.cells (List.replicate (n * 16) (Value.int .u8 0)).toArray 31)) rfl (by rfl) (ex_make rfl rfl rfl (mkT n hg.2 _)) rfl trivial ?_
    simp only [Act.put, List.setIfInBounds_toArray, List.set_cons_zero, List.set_cons_succ]
    have hbb : Below w8.heap.size w8 (w8.alloc (.cells (List.replicate (n * 16) (Value.int .u8 0)).toArray 31)) := (Below.refl _ _).alloc (Nat.le_refl _) _
    have hT := Rw.new w8 (List.replicate (n * 16) (Value.int .u8 0)) 31
    have hsz : w8.heap.size + 1 ≤ (w8.alloc (.cells (List.replicate (n * 16) (Value.int .u8 0)).toArray 31)).heap.size := by simp
    obtain ⟨T, hTe⟩ : ∃ A, Hid (w8.heap.size = A) := ⟨_, hide rfl⟩
    have hTl : w8.heap.size ≤ T ∧ T ≤ w8.heap.size := by rw [← hTe.out]; exact ⟨Nat.le_refl _, Nat.le_refl _⟩
    rw [hTe.out] at hT ⊢
    have hbl := hbl.trans (hbb.mono hbl.size)
    generalize w8.alloc (.cells (List.replicate (n * 16) (Value.int .u8 0)).toArray 31) = v6 at *
    clear hbb hTe
    refine hs_forkL (l := [2, 4]) (by kernel_rfl) (by simp) ?_
    intro k hk
    simp only [List.mem_cons, List.not_mem_nil, or_false] at hk
    rcases hk with rfl | rfl
    · refine st_run (i := 2) (d := some 8) (v := .slice (some ⟨v6.heap.size, 0, none⟩) n n) (w' := v6.alloc (.cells (List.replicate n (Value.int .i64 0)).toArray 3)) rfl (by rfl) (ex_make rfl rfl rfl (mkE n hg.2 _)) rfl trivial ?_
      simp only [Act.put, List.setIfInBounds_toArray, List.set_cons_zero, List.set_cons_succ]
      have hbb : Below v6.heap.size v6 (v6.alloc (.cells (List.replicate n (Value.int .i64 0)).toArray 3)) := (Below.refl _ _).alloc (Nat.le_refl _) _
      have hE := Rw.new v6 (List.replicate n (Value.int .i64 0)) 3
      have hsz : v6.heap.size + 1 ≤ (v6.alloc (.cells (List.replicate n (Value.int .i64 0)).toArray 3)).heap.size := by simp
      obtain ⟨E, hEe⟩ : ∃ A, Hid (v6.heap.size = A) := ⟨_, hide rfl⟩
      have hEl : v6.heap.size ≤ E ∧ E ≤ v6.heap.size := by rw [← hEe.out]; exact ⟨Nat.le_refl _, Nat.le_refl _⟩
      rw [hEe.out] at hE ⊢
      have hT := hT.below hbb
      have hbl := hbl.trans (hbb.mono hbl.size)
      generalize v6.alloc (.cells (List.replicate n (Value.int .i64 0)).toArray 3) = v62 at *
      clear hbb hEe
      refine hs_run (i := 4) (d := some 10) (v := .slice (some ⟨v62.heap.size, 0, none⟩) n n) (w' := v62.alloc (.cells (List.replicate (n * 32) (Value.int .u8 0)).toArray 29)) rfl (by kernel_rfl) (by rfl) (ex_make rfl rfl rfl (mkD n hg.2 _)) rfl trivial ?_
      simp only [Act.put, List.setIfInBounds_toArray, List.set_cons_zero, List.set_cons_succ]
      have hbb : Below v62.heap.size v62 (v62.alloc (.cells (List.replicate (n * 32) (Value.int .u8 0)).toArray 29)) := (Below.refl _ _).alloc (Nat.le_refl _) _
      have hD := Rw.new v62 (List.replicate (n * 32) (Value.int .u8 0)) 29
      have hsz : v62.heap.size + 1 ≤ (v62.alloc (.cells (List.replicate (n * 32) (Value.int .u8 0)).toArray 29)).heap.size := by simp
      obtain ⟨D, hDe⟩ : ∃ A, Hid (v62.heap.size = A) := ⟨_, hide rfl⟩
      have hDl : v62.heap.size ≤ D ∧ D ≤ v62.heap.size := by rw [← hDe.out]; exact ⟨Nat.le_refl _, Nat.le_refl _⟩
      rw [hDe.out] at hD ⊢
      have hT := hT.below hbb
      have hE := hE.below hbb
      have hbl := hbl.trans (hbb.mono hbl.size)
      generalize v62.alloc (.cells (List.replicate (n * 32) (Value.int .u8 0)).toArray 29) = v624 at *
      clear hbb hDe
      have hne : E ≠ D ∧ E ≠ T ∧ D ≠ T := by omega
      have hx := XAt.new hE hD hT hne hg
      have hbx : Below v624.heap.size v624 (v624.alloc (.cells (xC E D T n).toArray 47)) := (Below.refl _ _).alloc (Nat.le_refl _) _
      refine hs_take (i := 7) (d := some 13) (v := .agg (xC E D T n).toArray) rfl (by kernel_rfl) (by kernel_rfl) (by kernel_rfl) (by rfl) (fun w' hw => ex_build (parts := [(0, .tmp 6), (1, .tmp 8), (2, .tmp 10), (3, .tmp 12)]) rfl rfl (build_x E D T n w')) trivial rfl ?_
      simp only [Act.put, List.setIfInBounds_toArray, List.set_cons_zero, List.set_cons_succ]
      refine hs_run (i := 8) (d := some 14) (v := .pointer (some ⟨v624.heap.size, 0, none⟩)) (w' := v624.alloc (.cells (xC E D T n).toArray 47)) rfl (by kernel_rfl) (by rfl) (ex_box rfl rfl) rfl trivial ?_
      simp only [Act.put, List.setIfInBounds_toArray, List.set_cons_zero, List.set_cons_succ]
      refine hs_take (i := 9) (d := some 2) (v := ?_) rfl (by kernel_rfl) (by kernel_rfl) (by kernel_rfl) (by rfl) ?_ trivial rfl ?_
      rotate_left
      · intro w' hw
        go_simp
        try with_reducible rfl
      simp only [Act.put, List.setIfInBounds_toArray, List.set_cons_zero, List.set_cons_succ]
      refine hs_done (by kernel_rfl) ?_
      go_wp2_with fail
      go_ret
      exact ⟨_, E, D, T, rfl, hx, by omega, by omega, by omega, by omega, hbl.trans (hbx.mono (by omega))⟩
    · refine st_run (i := 4) (d := some 10) (v := .slice (some ⟨v6.heap.size, 0, none⟩) n n) (w' := v6.alloc (.cells (List.replicate (n * 32) (Value.int .u8 0)).toArray 29)) rfl (by rfl) (ex_make rfl rfl rfl (mkD n hg.2 _)) rfl trivial ?_
      simp only [Act.put, List.setIfInBounds_toArray, List.set_cons_zero, List.set_cons_succ]
      have hbb : Below v6.heap.size v6 (v6.alloc (.cells (List.replicate (n * 32) (Value.int .u8 0)).toArray 29)) := (Below.refl _ _).alloc (Nat.le_refl _) _
      have hD := Rw.new v6 (List.replicate (n * 32) (Value.int .u8 0)) 29
      have hsz : v6.heap.size + 1 ≤ (v6.alloc (.cells (List.replicate (n * 32) (Value.int .u8 0)).toArray 29)).heap.size := by simp
      obtain ⟨D, hDe⟩ : ∃ A, Hid (v6.heap.size = A) := ⟨_, hide rfl⟩
      have hDl : v6.heap.size ≤ D ∧ D ≤ v6.heap.size := by rw [← hDe.out]; exact ⟨Nat.le_refl _, Nat.le_refl _⟩
      rw [hDe.out] at hD ⊢
      have hT := hT.below hbb
      have hbl := hbl.trans (hbb.mono hbl.size)
      generalize v6.alloc (.cells (List.replicate (n * 32) (Value.int .u8 0)).toArray 29) = v64 at *
      clear hbb hDe
      refine hs_run (i := 2) (d := some 8) (v := .slice (some ⟨v64.heap.size, 0, none⟩) n n) (w' := v64.alloc (.cells (List.replicate n (Value.int .i64 0)).toArray 3)) rfl (by kernel_rfl) (by rfl) (ex_make rfl rfl rfl (mkE n hg.2 _)) rfl trivial ?_
      simp only [Act.put, List.setIfInBounds_toArray, List.set_cons_zero, List.set_cons_succ]
      have hbb : Below v64.heap.size v64 (v64.alloc (.cells (List.replicate n (Value.int .i64 0)).toArray 3)) := (Below.refl _ _).alloc (Nat.le_refl _) _
      have hE := Rw.new v64 (List.replicate n (Value.int .i64 0)) 3
      have hsz : v64.heap.size + 1 ≤ (v64.alloc (.cells (List.replicate n (Value.int .i64 0)).toArray 3)).heap.size := by simp
      obtain ⟨E, hEe⟩ : ∃ A, Hid (v64.heap.size = A) := ⟨_, hide rfl⟩
      have hEl : v64.heap.size ≤ E ∧ E ≤ v64.heap.size := by rw [← hEe.out]; exact ⟨Nat.le_refl _, Nat.le_refl _⟩
      rw [hEe.out] at hE ⊢
      have hT := hT.below hbb
      have hD := hD.below hbb
      have hbl := hbl.trans (hbb.mono hbl.size)
      generalize v64.alloc (.cells (List.replicate n (Value.int .i64 0)).toArray 3) = v642 at *
      clear hbb hEe
      have hne : E ≠ D ∧ E ≠ T ∧ D ≠ T := by omega
      have hx := XAt.new hE hD hT hne hg
      have hbx : Below v642.heap.size v642 (v642.alloc (.cells (xC E D T n).toArray 47)) := (Below.refl _ _).alloc (Nat.le_refl _) _
      refine hs_take (i := 7) (d := some 13) (v := .agg (xC E D T n).toArray) rfl (by kernel_rfl) (by kernel_rfl) (by kernel_rfl) (by rfl) (fun w' hw => ex_build (parts := [(0, .tmp 6), (1, .tmp 8), (2, .tmp 10), (3, .tmp 12)]) rfl rfl (build_x E D T n w')) trivial rfl ?_
      simp only [Act.put, List.setIfInBounds_toArray, List.set_cons_zero, List.set_cons_succ]
      refine hs_run (i := 8) (d := some 14) (v := .pointer (some ⟨v642.heap.size, 0, none⟩)) (w' := v642.alloc (.cells (xC E D T n).toArray 47)) rfl (by kernel_rfl) (by rfl) (ex_box rfl rfl) rfl trivial ?_
      simp only [Act.put, List.setIfInBounds_toArray, List.set_cons_zero, List.set_cons_succ]
      refine hs_take (i := 9) (d := some 2) (v := ?_) rfl (by kernel_rfl) (by kernel_rfl) (by kernel_rfl) (by rfl) ?_ trivial rfl ?_
      rotate_left
      · intro w' hw
        go_simp
        try with_reducible rfl
      simp only [Act.put, List.setIfInBounds_toArray, List.set_cons_zero, List.set_cons_succ]
      refine hs_done (by kernel_rfl) ?_
      go_wp2_with fail
      go_ret
      exact ⟨_, E, D, T, rfl, hx, by omega, by omega, by omega, by omega, hbl.trans (hbx.mono (by omega))⟩
end Go.Proofs.Ytfaagiilldkdgaa
