/- the document's tape: where it lies; New, fault, Used, Sure, Read, Arm -/
import Derived.Test.YtfkchnjbbbhmjaaT13
import Derived.Test.YtfkchnjbbbhmjaaFork
namespace Go.Proofs.Ytfkchnjbbbhmjaa
open Go.RowKit
section
variable {P : Program} {ops : Array Oper} {Q : Exit → Act → World → Prop}
theorem hs_forkL {l : List Nat} {S : World → Prop} {fuel : Nat} {listed : Array Bool} {a : Act} {w : World} (hr : Region.ready .any ops listed = l) (hl : l ≠ [])
    (h : ∀ i ∈ l, StepS P ops Q S fuel listed i a w) : HeldS P ops Q S (fuel + 1) listed a w := by
  subst hr
  refine wpAnyH_all rfl ?_ ?_
  · exact hl
  · intro k hk
    exact h k hk
theorem hs_runX {i : Nat} {S : World → Prop} {oi : Oper} {d : Option Nat} {R : Value → World → Prop} {fuel : Nat} {listed : Array Bool} {a : Act} {w : World} (hi : ops[i]? = some oi)
    (hr : Region.ready .any ops listed = [i]) (hw : Region.wanted oi (yielded ops a.tmps) = true) (hdst : oi.dst = d) (hy : ∃ v w', (execOp a.eval oi).run P w = .ok (.value v) w' ∧ R v w')
    (h : ∀ v w', R v w' → S w' ∧ HeldS P ops Q S fuel (listed.setIfInBounds i true) (a.put d v) w') : HeldS P ops Q S (fuel + 1) listed a w := by
  obtain ⟨v, w', h1, h2⟩ := hy
  obtain ⟨h4, h5⟩ := h v w' h2
  exact hs_run hi hr hw h1 hdst h4 h5
theorem st_runX {i : Nat} {S : World → Prop} {oi : Oper} {d : Option Nat} {R : Value → World → Prop} {fuel : Nat} {listed : Array Bool} {a : Act} {w : World} (hi : ops[i]? = some oi)
    (hw : Region.wanted oi (yielded ops a.tmps) = true) (hdst : oi.dst = d) (hy : ∃ v w', (execOp a.eval oi).run P w = .ok (.value v) w' ∧ R v w')
    (h : ∀ v w', R v w' → S w' ∧ HeldS P ops Q S fuel (listed.setIfInBounds i true) (a.put d v) w') : StepS P ops Q S fuel listed i a w := by
  obtain ⟨v, w', h1, h2⟩ := hy
  obtain ⟨h4, h5⟩ := h v w' h2
  exact st_run hi hw h1 hdst h4 h5
end
theorem exec_load {P : Program} {o : Oper} {a : Act} {w : World} {ty : TypeId} {x : Operand} {b off : Nat} {v : Value} (ho : o.op = .load ty x) (hx : a.eval x = .pointer (some ⟨b, off, none⟩)) (hr : (loadVar ty ⟨b, off, none⟩).run P w = .ok v w) : (execOp a.eval o).run P w = .ok (.value v) w := by
  unfold execOp
  simp only [ho, hx, Instr.loadAt, Instr.sureAddr, Sem.run_bind, Sem.run_pure, Result.andThen_ok, hr]
theorem load_one {P : Program} (w : World) {b o : Nat} {ty : TypeId} {v : Value} {d : TypeDesc} (hc : w.cell? ⟨b, o, none⟩ = some v) (hu : P.underlying ty = some d) (hd : d.isRow = false) : (loadVar ty ⟨b, o, none⟩).run P w = .ok v w := by
  simp only [loadVar, isAgg, run_underlying hu, Sem.run_bind, Result.andThen_ok]
  cases d <;> first | (simp [TypeDesc.isRow] at hd; done) | simp [go_sem, hc]
theorem exec_append1 {P : Program} {o : Oper} {a : Act} {w w' : World} {s x : Operand} {t tx : TypeId} {v xv v' : Value} (ho : o.op = .call { callee := .builtin .append, args := #[s, x], argTypes := #[t, tx] }) (hv : a.eval s = v) (hx : a.eval x = xv)
    (hr : (Builtin.append_ #[t, tx] o.type #[v, xv]).run P w = .ok v' w') : (execOp a.eval o).run P w = .ok (.value v') w' := by
  unfold execOp
  simp [ho, resolve, invoke, builtin, hv, hx, hr]
theorem exec_storeP {P : Program} {o : Oper} {a : Act} {w w' : World} {ty : TypeId} {x y : Operand} {ad : Addr} {v : Value} (ho : o.op = .store ty x y) (hx : a.eval x = .pointer (some ad)) (hy : a.eval y = v) (hr : (storeVar ty ad v).run P w = .ok () w') : (execOp a.eval o).run P w = .ok .skip w' := by
  unfold execOp
  simp [ho, hx, hy, Instr.storeAt, Instr.sureAddr, hr]
theorem run_store1 {P : Program} (w : World) (b o : Nat) (ty : TypeId) (v : Value) (ht : w.there b o 1) (hi : (P.info? ty).map (·.size) = some 1) (h1 : v.oneCell' = true) :
    (storeVar ty ⟨b, o, none⟩ v).run P w = .ok () (w.setCell ⟨b, o, none⟩ v) := by
  have hc : v.cells = #[v] := by cases v <;> first | rfl | simp [Value.oneCell'] at h1
  have := run_storeCells_cells (P := P) b o [v] 0 w (fun j hj => by simpa using (ht j (by simpa using hj)).1) (fun j hj => by simpa using (ht j (by simpa using hj)).2)
    (fun x hx => by simp at hx; subst hx; exact h1)
  cases hq : P.info? ty with
  | none => simp [hq] at hi
  | some i =>
    have hs : i.size = 1 := by simp [hq] at hi; omega
    simp only [Nat.add_zero] at this
    simp [storeVar, sizeOf, typeInfo, hq, hc, hs, this, World.setCells]
theorem ex_load {o : Oper} {a : Act} {w : World} {x : Operand} {b off : Nat} {v : Value} (ho : o.op = .load 29 x) (hx : a.eval x = .pointer (some ⟨b, off, none⟩)) (hc : w.cell? ⟨b, off, none⟩ = some v) :
    ∃ v' w', (execOp a.eval o).run Try.prog w = .ok (.value v') w' ∧ (v' = v ∧ w' = w) := ⟨v, w, exec_load ho hx (load_one w hc Try.underlying29 rfl), rfl, rfl⟩
theorem ex_bs0 {o : Oper} {a : Act} {w : World} (ho : o.op = .buildSlice 29 0 #[]) :
    ∃ v w', (execOp a.eval o).run Try.prog w = .ok (.value v) w' ∧ (v = .slice (some ⟨w.heap.size, 0, none⟩) 0 0 ∧ w' = w.alloc (.cells #[] 5)) := by
  refine ⟨.slice (some ⟨w.heap.size, 0, none⟩) 0 0, w.alloc (.cells #[] 5), ?_, rfl, rfl⟩
  obtain ⟨i, hi, hz, hs, hb⟩ := info_parts info8
  unfold execOp
  simp [ho, Instr.buildSlice, run_underlying Try.underlying29, sizeOf, typeInfo, hi, Instr.fill, newRow]
  have e : (Array.map (fun _ : Nat => (default : Value)) (Array.range 0)) = #[] := by
    apply Array.ext
    · simp
    · intro i h1 h2
      simp at h2
  rw [e]
theorem owns_new0 (w : World) : (w.alloc (.cells #[] 5)).ownsRow w.heap.size 5 1 (.slice (some ⟨w.heap.size, 0, none⟩) 0 0) 0 [] :=
  ⟨rfl, .inr ⟨w.heap.size, 0, #[], rfl, Nat.le_refl _, heap_alloc_new w _, Nat.le_refl _, by unfold maxLen; omega, rfl, rfl⟩⟩
theorem ex_append {o : Oper} {a : Act} {w : World} {s x : Operand} {B n : Nat} {v : Value} {xs : List Value} {ra : Option Addr} {cap : Nat} {L : List Int} (ho : o.op = .call { callee := .builtin .append, args := #[s, x], argTypes := #[29, 29] }) (hv : a.eval s = v) (hx : a.eval x = .slice ra L.length cap)
    (hown : w.ownsRow B 5 1 v n xs) (hB : B ≤ w.heap.size) (hrow : RowAt w ra L) (hL : n + L.length ≤ 100000000000) :
    ∃ v' w', (execOp a.eval o).run Try.prog w = .ok (.value v') w' ∧ (w'.ownsRow B 5 1 v' (n + L.length) (xs ++ v8 L) ∧ w.grownBy w' v.ownBlock) := by
  obtain ⟨i, hi, hz, hs, hb⟩ := info_parts info8
  obtain ⟨v', w', hrun, ho2, hg, hap⟩ := run_append_own_src2 (P := Try.prog) w B 29 29 o.type 5 i _ 1 1 Try.underlying29 hi hz hs hb (by rfl) v n xs hown _ L.length (v8 L) (hrow.src cap) (by unfold maxLen; omega) (by omega) hB
  exact ⟨v', w', exec_append1 ho hv hx hrun, ho2, hg⟩
/-- a tape of the document's -/
structure Rv where
  r : Nat
  aa : Option Addr
  ca : Nat
  ab : Option Addr
  cb : Nat
  x : Int
  y : Int
def rcells (t : Rv) (M : Mt) : List Value := [.int .i64 M.room, .slice t.aa M.a.length t.ca, .slice t.ab M.b.length t.cb, .int .i64 M.sa, .int .i64 M.sb, .bool (!M.on), .bool M.pl, .int .i64 t.x, .int .i64 t.y, .int .i64 M.ops, .int .i64 M.fa]
def Rv.own (t : Rv) (b : Nat) : Prop := b = t.r ∨ (∃ x, t.aa = some x ∧ x.block = b) ∨ ∃ x, t.ab = some x ∧ x.block = b
/-- a row of bytes in a block that is not R -/
structure RowN (w : World) (R : Nat) (a : Option Addr) (cap : Nat) (zs : List Int) : Prop where
  row : RowAt w a zs
  ne : ∀ x, a = some x → x.block ≠ R ∧ x.block < w.heap.size
  nil : a = none → cap = 0
  le : zs.length ≤ cap
  cm : cap ≤ maxLen
theorem RowN.at {w w' : World} {R : Nat} {a : Option Addr} {cap : Nat} {zs : List Int} (h : RowN w R a cap zs) (hs : w.heap.size ≤ w'.heap.size) (hb : ∀ x, a = some x → w'.heap[x.block]? = w.heap[x.block]?) : RowN w' R a cap zs := by
  refine ⟨⟨h.row.1, h.row.2.1, ?_⟩, fun x hx => ⟨(h.ne x hx).1, Nat.lt_of_lt_of_le (h.ne x hx).2 hs⟩, h.nil, h.le, h.cm⟩
  rcases h.row.2.2 with q | ⟨b, off, rfl, h1, h2⟩
  · exact .inl q
  · exact .inr ⟨b, off, rfl, Nat.lt_of_lt_of_le h1 hs, range_at h2 (hb _ rfl)⟩
theorem RowN.none {w : World} {R : Nat} : RowN w R none 0 [] := ⟨⟨by unfold maxLen; simp, by simp, .inl rfl⟩, by simp, fun _ => rfl, by simp, by unfold maxLen; omega⟩
structure RefAt (w : World) (t : Rv) (M : Mt) : Prop where
  c : w.rangeAt t.r 0 (rcells t M)
  th : w.there t.r 0 11
  ra : RowN w t.r t.aa t.ca M.a
  rb : RowN w t.r t.ab t.cb M.b
  px : M.pl = true → t.x = M.af ∧ t.y = M.ke
  ok : M.ok
theorem RefAt.lt {w : World} {t : Rv} {M : Mt} (h : RefAt w t M) : t.r < w.heap.size := there_lt h.th (by omega)
theorem RefAt.own_lt {w : World} {t : Rv} {M : Mt} (h : RefAt w t M) {b : Nat} (hb : t.own b) : b < w.heap.size := by
  rcases hb with rfl | ⟨x, hx, rfl⟩ | ⟨x, hx, rfl⟩
  · exact h.lt
  · exact (h.ra.ne x hx).2
  · exact (h.rb.ne x hx).2
theorem RefAt.at {w w' : World} {t : Rv} {M : Mt} (h : RefAt w t M) (hs : w.heap.size ≤ w'.heap.size) (hb : ∀ b, t.own b → w'.heap[b]? = w.heap[b]?) : RefAt w' t M :=
  ⟨range_at h.c (hb _ (.inl rfl)), there_at h.th (hb _ (.inl rfl)), h.ra.at hs (fun x hx => hb _ (.inr (.inl ⟨x, hx, rfl⟩))), h.rb.at hs (fun x hx => hb _ (.inr (.inr ⟨x, hx, rfl⟩))), h.px, h.ok⟩
theorem RefAt.below {w w' : World} {t : Rv} {M : Mt} (h : RefAt w t M) (hb : Below w.heap.size w w') : RefAt w' t M := h.at hb.size (fun b q => hb.block b (h.own_lt q))
theorem RefAt.off {w w' : World} {t : Rv} {M : Mt} {F : Nat → Prop} (h : RefAt w t M) (ho : Off F w w') (hF : ∀ b, t.own b → ¬ F b) : RefAt w' t M := h.at ho.size (fun b q => ho.2 b (h.own_lt q) (hF b q))
/-- another state of the document's tape: its block was written, rows are new -/
def RTurned (w w' : World) (t : Rv) (M : Mt) : Prop := ∃ t' : Rv, t'.r = t.r ∧ RefAt w' t' M ∧ Off (fun b => b = t.r) w w' ∧ ∀ b, t'.own b → t.own b ∨ w.heap.size ≤ b
theorem RTurned.same {w w' : World} {t : Rv} {M : Mt} (h : RefAt w t M) (hb : Below w.heap.size w w') : RTurned w w' t M := ⟨t, rfl, h.below hb, Off.of_below hb, fun _ q => .inl q⟩
theorem RTurned.trans {w w1 w2 : World} {t t1 : Rv} {M2 : Mt} (hr : t1.r = t.r) (ho : Off (fun b => b = t.r) w w1) (hn : ∀ b, t1.own b → t.own b ∨ w.heap.size ≤ b) (h : RTurned w1 w2 t1 M2) : RTurned w w2 t M2 := by
  obtain ⟨t2, e1, e2, e3, e4⟩ := h
  refine ⟨t2, e1.trans hr, e2, ho.trans e3 (fun b _ q => q.trans hr), fun b q => ?_⟩
  rcases e4 b q with q1 | q1
  · exact hn b q1
  · right; have := ho.size; omega
/-- one block was written; what it holds -/
structure CellsR (w wr : World) (p : Nat) (cs : List Value) : Prop where
  off : Off (fun b => b = p) w wr
  r : wr.rangeAt p 0 cs
  th : wr.there p 0 11
theorem CellsR.start {w : World} {t : Rv} {M : Mt} (h : RefAt w t M) : CellsR w w t.r (rcells t M) := ⟨Off.refl _ _, h.c, h.th⟩
theorem CellsR.set {w wr : World} {p : Nat} {cs : List Value} (h : CellsR w wr p cs) (i : Nat) (v : Value) : CellsR w (wr.setCell ⟨p, i, none⟩ v) p (cs.set i v) :=
  ⟨h.off.trans (Off.of_setCell (F := fun b => b = p) wr _ _ rfl) (fun _ _ q => q), by have := range_set h.r i v; rwa [Nat.zero_add] at this, there_set h.th _ _⟩
theorem CellsR.below {w wr wr' : World} {p : Nat} {cs : List Value} (h : CellsR w wr p cs) (hb : Below wr.heap.size wr wr') : CellsR w wr' p cs :=
  have hp := there_lt h.th (by omega)
  ⟨h.off.below_r hb, range_at h.r (hb.block p hp), there_at h.th (hb.block p hp)⟩
theorem CellsR.cell {w wr : World} {p : Nat} {cs : List Value} (h : CellsR w wr p cs) (i : Nat) {v : Value} (hv : cs[i]? = some v) : wr.cell? ⟨p, i, none⟩ = some v := by
  have := h.r i v hv
  rwa [Nat.zero_add] at this
theorem CellsR.fz {w wr : World} {p : Nat} {cs : List Value} (h : CellsR w wr p cs) (i : Nat) (hi : i < 11) : wr.frozen? ⟨p, i, none⟩ = false := by
  have := (h.th i hi).2
  rwa [Nat.zero_add] at this
def rptr (t : Rv) : Value := .pointer (some ⟨t.r, 0, none⟩)
section
variable {w : World} {t : Rv} {M : Mt}
theorem RefAt.cell (h : RefAt w t M) (i : Nat) {v : Value} (hv : (rcells t M)[i]? = some v) : w.cell? ⟨t.r, i, none⟩ = some v := by
  have := h.c i v hv
  rwa [Nat.zero_add] at this
theorem RefAt.fz (h : RefAt w t M) (i : Nat) (hi : i < 11) : w.frozen? ⟨t.r, i, none⟩ = false := by
  have := (h.th i hi).2
  rwa [Nat.zero_add] at this
/-- cells of the block that are other ones -/
theorem RTurned.of_cells {w1 w' : World} {t' : Rv} {M' : Mt} (hb : Below w.heap.size w w1) (hc : CellsR w1 w' t.r (rcells t' M')) (hr : t'.r = t.r) (ra : RowN w1 t.r t'.aa t'.ca M'.a) (rb : RowN w1 t.r t'.ab t'.cb M'.b)
    (ea : ∀ x, t'.aa = some x → t.own x.block ∨ w.heap.size ≤ x.block) (eb : ∀ x, t'.ab = some x → t.own x.block ∨ w.heap.size ≤ x.block) (px : M'.pl = true → t'.x = M'.af ∧ t'.y = M'.ke) (ok : M'.ok) : RTurned w w' t M' := by
  refine ⟨t', hr, ⟨by rw [hr]; exact hc.r, by rw [hr]; exact hc.th, ?_, ?_, px, ok⟩, ?_, ?_⟩
  · rw [hr]; exact ra.at hc.off.size (fun x hx => hc.off.2 _ (ra.ne x hx).2 (ra.ne x hx).1)
  · rw [hr]; exact rb.at hc.off.size (fun x hx => hc.off.2 _ (rb.ne x hx).2 (rb.ne x hx).1)
  · exact (Off.of_below hb).trans hc.off (fun _ _ q => q)
  · rintro b (q | ⟨x, hx, rfl⟩ | ⟨x, hx, rfl⟩)
    · exact .inl (.inl (q.trans hr))
    · exact ea x hx
    · exact eb x hx
end
end Go.Proofs.Ytfkchnjbbbhmjaa
