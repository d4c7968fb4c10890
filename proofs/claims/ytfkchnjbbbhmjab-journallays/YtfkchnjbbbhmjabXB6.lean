/- the document's tape: where it lies; New, fault, Used, Sure, Read, Arm; the document's first; a frame fits if and only if its sum is right; the frames of bytes; a journal: what is told of it; Sync, Append; two rows that grow: kinds and records; the document's Frames; the document's Frames; crc24's Fits; the document's Same: two lists of records; the frames that fit, of whatever kind -/
import Derived.Test.YtfkchnjbbbhmjabXB5
import Derived.Test.YtfkchnjbbbhmjabXB3
import Derived.Test.YtfkchnjbbbhmjabXB4
namespace Go.Proofs.Ytfkchnjbbbhmjab
open Go.RowKit
section
variable {P : Program} {ops : Array Oper} {Q : Exit → Act → World → Prop}
theorem hs_forkL {l : List Nat} {S : World → Prop} {fuel : Nat} {listed : Array Bool} {a : Act} {w : World} (hr : Region.ready .any ops listed = l) (hl : l ≠ [])
    (h : ∀ i ∈ l, StepS P ops Q S fuel listed i a w) : HeldS P ops Q S (fuel + 1) listed a w := by
  subst hr
  refine wpAnyH_all rfl ?_ ?_
  · exact hl
  · intro k hk
    exact h k hk
theorem hs_runX {i : Nat} {S : World → Prop} {oi : Oper} {d : Option Nat} {R : Value → World → Prop} {fuel : Nat} {listed : Array Bool} {a : Act} {w : World} (hi : ops[i]? = some oi)
    (hr : Region.ready .any ops listed = [i]) (hw : Region.wanted oi (yielded ops a.tmps) = true) (hdst : oi.dst = d) (hy : ∃ v w', (execOp a.eval oi).run P w = .ok (.value v) w' ∧ R v w')
    (h : ∀ v w', R v w' → S w' ∧ HeldS P ops Q S fuel (listed.setIfInBounds i true) (a.put d v) w') : HeldS P ops Q S (fuel + 1) listed a w := by
  obtain ⟨v, w', h1, h2⟩ := hy
  obtain ⟨h4, h5⟩ := h v w' h2
  exact hs_run hi hr hw h1 hdst h4 h5
theorem st_runX {i : Nat} {S : World → Prop} {oi : Oper} {d : Option Nat} {R : Value → World → Prop} {fuel : Nat} {listed : Array Bool} {a : Act} {w : World} (hi : ops[i]? = some oi)
    (hw : Region.wanted oi (yielded ops a.tmps) = true) (hdst : oi.dst = d) (hy : ∃ v w', (execOp a.eval oi).run P w = .ok (.value v) w' ∧ R v w')
    (h : ∀ v w', R v w' → S w' ∧ HeldS P ops Q S fuel (listed.setIfInBounds i true) (a.put d v) w') : StepS P ops Q S fuel listed i a w := by
  obtain ⟨v, w', h1, h2⟩ := hy
  obtain ⟨h4, h5⟩ := h v w' h2
  exact st_run hi hw h1 hdst h4 h5
end
theorem exec_load {P : Program} {o : Oper} {a : Act} {w : World} {ty : TypeId} {x : Operand} {b off : Nat} {v : Value} (ho : o.op = .load ty x) (hx : a.eval x = .pointer (some ⟨b, off, none⟩)) (hr : (loadVar ty ⟨b, off, none⟩).run P w = .ok v w) : (execOp a.eval o).run P w = .ok (.value v) w := by
  unfold execOp
  simp only [ho, hx, Instr.loadAt, Instr.sureAddr, Sem.run_bind, Sem.run_pure, Result.andThen_ok, hr]
theorem load_one {P : Program} (w : World) {b o : Nat} {ty : TypeId} {v : Value} {d : TypeDesc} (hc : w.cell? ⟨b, o, none⟩ = some v) (hu : P.underlying ty = some d) (hd : d.isRow = false) : (loadVar ty ⟨b, o, none⟩).run P w = .ok v w := by
  simp only [loadVar, isAgg, run_underlying hu, Sem.run_bind, Result.andThen_ok]
  cases d <;> first | (simp [TypeDesc.isRow] at hd; done) | simp [go_sem, hc]
theorem exec_append1 {P : Program} {o : Oper} {a : Act} {w w' : World} {s x : Operand} {t tx : TypeId} {v xv v' : Value} (ho : o.op = .call { callee := .builtin .append, args := #[s, x], argTypes := #[t, tx] }) (hv : a.eval s = v) (hx : a.eval x = xv)
    (hr : (Builtin.append_ #[t, tx] o.type #[v, xv]).run P w = .ok v' w') : (execOp a.eval o).run P w = .ok (.value v') w' := by
  unfold execOp
  simp [ho, resolve, invoke, builtin, hv, hx, hr]
theorem exec_storeP {P : Program} {o : Oper} {a : Act} {w w' : World} {ty : TypeId} {x y : Operand} {ad : Addr} {v : Value} (ho : o.op = .store ty x y) (hx : a.eval x = .pointer (some ad)) (hy : a.eval y = v) (hr : (storeVar ty ad v).run P w = .ok () w') : (execOp a.eval o).run P w = .ok .skip w' := by
  unfold execOp
  simp [ho, hx, hy, Instr.storeAt, Instr.sureAddr, hr]
theorem run_store1 {P : Program} (w : World) (b o : Nat) (ty : TypeId) (v : Value) (ht : w.there b o 1) (hi : (P.info? ty).map (·.size) = some 1) (h1 : v.oneCell' = true) :
    (storeVar ty ⟨b, o, none⟩ v).run P w = .ok () (w.setCell ⟨b, o, none⟩ v) := by
  have hc : v.cells = #[v] := by cases v <;> first | rfl | simp [Value.oneCell'] at h1
  have := run_storeCells_cells (P := P) b o [v] 0 w (fun j hj => by simpa using (ht j (by simpa using hj)).1) (fun j hj => by simpa using (ht j (by simpa using hj)).2)
    (fun x hx => by simp at hx; subst hx; exact h1)
  cases hq : P.info? ty with
  | none => simp [hq] at hi
  | some i =>
    have hs : i.size = 1 := by simp [hq] at hi; omega
    simp only [Nat.add_zero] at this
    simp [storeVar, sizeOf, typeInfo, hq, hc, hs, this, World.setCells]
theorem ex_load {o : Oper} {a : Act} {w : World} {x : Operand} {b off : Nat} {v : Value} (ho : o.op = .load 34 x) (hx : a.eval x = .pointer (some ⟨b, off, none⟩)) (hc : w.cell? ⟨b, off, none⟩ = some v) :
    ∃ v' w', (execOp a.eval o).run Try.prog w = .ok (.value v') w' ∧ (v' = v ∧ w' = w) := ⟨v, w, exec_load ho hx (load_one w hc Try.underlying34 rfl), rfl, rfl⟩
theorem ex_bs0 {o : Oper} {a : Act} {w : World} (ho : o.op = .buildSlice 34 0 #[]) :
    ∃ v w', (execOp a.eval o).run Try.prog w = .ok (.value v) w' ∧ (v = .slice (some ⟨w.heap.size, 0, none⟩) 0 0 ∧ w' = w.alloc (.cells #[] 5)) := by
  refine ⟨.slice (some ⟨w.heap.size, 0, none⟩) 0 0, w.alloc (.cells #[] 5), ?_, rfl, rfl⟩
  obtain ⟨i, hi, hz, hs, hb⟩ := info_parts info8
  unfold execOp
  simp [ho, Instr.buildSlice, run_underlying Try.underlying34, sizeOf, typeInfo, hi, Instr.fill, newRow]
  have e : (Array.map (fun _ : Nat => (default : Value)) (Array.range 0)) = #[] := by
    apply Array.ext
    · simp
    · intro i h1 h2
      simp at h2
  rw [e]
theorem owns_new0 (w : World) : (w.alloc (.cells #[] 5)).ownsRow w.heap.size 5 1 (.slice (some ⟨w.heap.size, 0, none⟩) 0 0) 0 [] :=
  ⟨rfl, .inr ⟨w.heap.size, 0, #[], rfl, Nat.le_refl _, heap_alloc_new w _, Nat.le_refl _, by unfold maxLen; omega, rfl, rfl⟩⟩
theorem ex_append {o : Oper} {a : Act} {w : World} {s x : Operand} {B n : Nat} {v : Value} {xs : List Value} {ra : Option Addr} {cap : Nat} {L : List Int} (ho : o.op = .call { callee := .builtin .append, args := #[s, x], argTypes := #[34, 34] }) (hv : a.eval s = v) (hx : a.eval x = .slice ra L.length cap)
    (hown : w.ownsRow B 5 1 v n xs) (hB : B ≤ w.heap.size) (hrow : RowAt w ra L) (hL : n + L.length ≤ 100000000000) :
    ∃ v' w', (execOp a.eval o).run Try.prog w = .ok (.value v') w' ∧ (w'.ownsRow B 5 1 v' (n + L.length) (xs ++ v8 L) ∧ w.grownBy w' v.ownBlock) := by
  obtain ⟨i, hi, hz, hs, hb⟩ := info_parts info8
  obtain ⟨v', w', hrun, ho2, hg, hap⟩ := run_append_own_src2 (P := Try.prog) w B 34 34 o.type 5 i _ 1 1 Try.underlying34 hi hz hs hb (by rfl) v n xs hown _ L.length (v8 L) (hrow.src cap) (by unfold maxLen; omega) (by omega) hB
  exact ⟨v', w', exec_append1 ho hv hx hrun, ho2, hg⟩
/-- a tape of the document's -/
structure Rv where
  r : Nat
  aa : Option Addr
  ca : Nat
  ab : Option Addr
  cb : Nat
  x : Int
  y : Int
def rcells (t : Rv) (M : Mt) : List Value := [.int .i64 M.room, .slice t.aa M.a.length t.ca, .slice t.ab M.b.length t.cb, .int .i64 M.sa, .int .i64 M.sb, .bool (!M.on), .bool M.pl, .int .i64 t.x, .int .i64 t.y, .int .i64 M.ops, .int .i64 M.fa]
def Rv.own (t : Rv) (b : Nat) : Prop := b = t.r ∨ (∃ x, t.aa = some x ∧ x.block = b) ∨ ∃ x, t.ab = some x ∧ x.block = b
/-- a row of bytes in a block that is not R -/
structure RowN (w : World) (R : Nat) (a : Option Addr) (cap : Nat) (zs : List Int) : Prop where
  row : RowAt w a zs
  ne : ∀ x, a = some x → x.block ≠ R ∧ x.block < w.heap.size
  nil : a = none → cap = 0
  le : zs.length ≤ cap
  cm : cap ≤ maxLen
theorem RowN.at {w w' : World} {R : Nat} {a : Option Addr} {cap : Nat} {zs : List Int} (h : RowN w R a cap zs) (hs : w.heap.size ≤ w'.heap.size) (hb : ∀ x, a = some x → w'.heap[x.block]? = w.heap[x.block]?) : RowN w' R a cap zs := by
  refine ⟨⟨h.row.1, h.row.2.1, ?_⟩, fun x hx => ⟨(h.ne x hx).1, Nat.lt_of_lt_of_le (h.ne x hx).2 hs⟩, h.nil, h.le, h.cm⟩
  rcases h.row.2.2 with q | ⟨b, off, rfl, h1, h2⟩
  · exact .inl q
  · exact .inr ⟨b, off, rfl, Nat.lt_of_lt_of_le h1 hs, range_at h2 (hb _ rfl)⟩
theorem RowN.none {w : World} {R : Nat} : RowN w R none 0 [] := ⟨⟨by unfold maxLen; simp, by simp, .inl rfl⟩, by simp, fun _ => rfl, by simp, by unfold maxLen; omega⟩
structure RefAt (w : World) (t : Rv) (M : Mt) : Prop where
  c : w.rangeAt t.r 0 (rcells t M)
  th : w.there t.r 0 11
  ra : RowN w t.r t.aa t.ca M.a
  rb : RowN w t.r t.ab t.cb M.b
  px : M.pl = true → t.x = M.af ∧ t.y = M.ke
  ok : M.ok
theorem RefAt.lt {w : World} {t : Rv} {M : Mt} (h : RefAt w t M) : t.r < w.heap.size := there_lt h.th (by omega)
theorem RefAt.own_lt {w : World} {t : Rv} {M : Mt} (h : RefAt w t M) {b : Nat} (hb : t.own b) : b < w.heap.size := by
  rcases hb with rfl | ⟨x, hx, rfl⟩ | ⟨x, hx, rfl⟩
  · exact h.lt
  · exact (h.ra.ne x hx).2
  · exact (h.rb.ne x hx).2
theorem RefAt.at {w w' : World} {t : Rv} {M : Mt} (h : RefAt w t M) (hs : w.heap.size ≤ w'.heap.size) (hb : ∀ b, t.own b → w'.heap[b]? = w.heap[b]?) : RefAt w' t M :=
  ⟨range_at h.c (hb _ (.inl rfl)), there_at h.th (hb _ (.inl rfl)), h.ra.at hs (fun x hx => hb _ (.inr (.inl ⟨x, hx, rfl⟩))), h.rb.at hs (fun x hx => hb _ (.inr (.inr ⟨x, hx, rfl⟩))), h.px, h.ok⟩
theorem RefAt.below {w w' : World} {t : Rv} {M : Mt} (h : RefAt w t M) (hb : Below w.heap.size w w') : RefAt w' t M := h.at hb.size (fun b q => hb.block b (h.own_lt q))
theorem RefAt.off {w w' : World} {t : Rv} {M : Mt} {F : Nat → Prop} (h : RefAt w t M) (ho : Off F w w') (hF : ∀ b, t.own b → ¬ F b) : RefAt w' t M := h.at ho.size (fun b q => ho.2 b (h.own_lt q) (hF b q))
/-- another state of the document's tape: its block was written, rows are new -/
def RTurned (w w' : World) (t : Rv) (M : Mt) : Prop := ∃ t' : Rv, t'.r = t.r ∧ RefAt w' t' M ∧ Off (fun b => b = t.r) w w' ∧ ∀ b, t'.own b → t.own b ∨ w.heap.size ≤ b
theorem RTurned.same {w w' : World} {t : Rv} {M : Mt} (h : RefAt w t M) (hb : Below w.heap.size w w') : RTurned w w' t M := ⟨t, rfl, h.below hb, Off.of_below hb, fun _ q => .inl q⟩
theorem RTurned.trans {w w1 w2 : World} {t t1 : Rv} {M2 : Mt} (hr : t1.r = t.r) (ho : Off (fun b => b = t.r) w w1) (hn : ∀ b, t1.own b → t.own b ∨ w.heap.size ≤ b) (h : RTurned w1 w2 t1 M2) : RTurned w w2 t M2 := by
  obtain ⟨t2, e1, e2, e3, e4⟩ := h
  refine ⟨t2, e1.trans hr, e2, ho.trans e3 (fun b _ q => q.trans hr), fun b q => ?_⟩
  rcases e4 b q with q1 | q1
  · exact hn b q1
  · right; have := ho.size; omega
/-- one block was written; what it holds -/
structure CellsR (w wr : World) (p : Nat) (cs : List Value) : Prop where
  off : Off (fun b => b = p) w wr
  r : wr.rangeAt p 0 cs
  th : wr.there p 0 11
theorem CellsR.start {w : World} {t : Rv} {M : Mt} (h : RefAt w t M) : CellsR w w t.r (rcells t M) := ⟨Off.refl _ _, h.c, h.th⟩
theorem CellsR.set {w wr : World} {p : Nat} {cs : List Value} (h : CellsR w wr p cs) (i : Nat) (v : Value) : CellsR w (wr.setCell ⟨p, i, none⟩ v) p (cs.set i v) :=
  ⟨h.off.trans (Off.of_setCell (F := fun b => b = p) wr _ _ rfl) (fun _ _ q => q), by have := range_set h.r i v; rwa [Nat.zero_add] at this, there_set h.th _ _⟩
theorem CellsR.below {w wr wr' : World} {p : Nat} {cs : List Value} (h : CellsR w wr p cs) (hb : Below wr.heap.size wr wr') : CellsR w wr' p cs :=
  have hp := there_lt h.th (by omega)
  ⟨h.off.below_r hb, range_at h.r (hb.block p hp), there_at h.th (hb.block p hp)⟩
theorem CellsR.cell {w wr : World} {p : Nat} {cs : List Value} (h : CellsR w wr p cs) (i : Nat) {v : Value} (hv : cs[i]? = some v) : wr.cell? ⟨p, i, none⟩ = some v := by
  have := h.r i v hv
  rwa [Nat.zero_add] at this
theorem CellsR.fz {w wr : World} {p : Nat} {cs : List Value} (h : CellsR w wr p cs) (i : Nat) (hi : i < 11) : wr.frozen? ⟨p, i, none⟩ = false := by
  have := (h.th i hi).2
  rwa [Nat.zero_add] at this
def rptr (t : Rv) : Value := .pointer (some ⟨t.r, 0, none⟩)
section
variable {w : World} {t : Rv} {M : Mt}
theorem RefAt.cell (h : RefAt w t M) (i : Nat) {v : Value} (hv : (rcells t M)[i]? = some v) : w.cell? ⟨t.r, i, none⟩ = some v := by
  have := h.c i v hv
  rwa [Nat.zero_add] at this
theorem RefAt.fz (h : RefAt w t M) (i : Nat) (hi : i < 11) : w.frozen? ⟨t.r, i, none⟩ = false := by
  have := (h.th i hi).2
  rwa [Nat.zero_add] at this
/-- cells of the block that are other ones -/
theorem RTurned.of_cells {w1 w' : World} {t' : Rv} {M' : Mt} (hb : Below w.heap.size w w1) (hc : CellsR w1 w' t.r (rcells t' M')) (hr : t'.r = t.r) (ra : RowN w1 t.r t'.aa t'.ca M'.a) (rb : RowN w1 t.r t'.ab t'.cb M'.b)
    (ea : ∀ x, t'.aa = some x → t.own x.block ∨ w.heap.size ≤ x.block) (eb : ∀ x, t'.ab = some x → t.own x.block ∨ w.heap.size ≤ x.block) (px : M'.pl = true → t'.x = M'.af ∧ t'.y = M'.ke) (ok : M'.ok) : RTurned w w' t M' := by
  refine ⟨t', hr, ⟨by rw [hr]; exact hc.r, by rw [hr]; exact hc.th, ?_, ?_, px, ok⟩, ?_, ?_⟩
  · rw [hr]; exact ra.at hc.off.size (fun x hx => hc.off.2 _ (ra.ne x hx).2 (ra.ne x hx).1)
  · rw [hr]; exact rb.at hc.off.size (fun x hx => hc.off.2 _ (rb.ne x hx).2 (rb.ne x hx).1)
  · exact (Off.of_below hb).trans hc.off (fun _ _ q => q)
  · rintro b (q | ⟨x, hx, rfl⟩ | ⟨x, hx, rfl⟩)
    · exact .inl (.inl (q.trans hr))
    · exact ea x hx
    · exact eb x hx
end
end Go.Proofs.Ytfkchnjbbbhmjab
namespace Go.Proofs.Ytfkchnjbbbhmjab.Ty
open Go.RowKit
open Tal
variable {B T : Nat}
/-- a frame: kind, record, how many bytes it has -/
structure Fr where
  k : Int
  zs : List Int
  n : Nat
/-- the frame with which bytes begin -/
def firstW (bs : List Int) : Option Fr :=
  if bs.length < 4 then none else
  if (textS (bs.drop 4) 0 4194304).2.2 ≠ 0 ∨ (bs.getD 3 0 ≠ 68 ∧ bs.getD 3 0 ≠ 71) then none else
  if frameL (bs.getD 3 0) (strOf (textS (bs.drop 4) 0 4194304).1) ≠ bs.take (bs.length - (textS (bs.drop 4) 0 4194304).2.1.length) then none else
  if bs.getD 3 0 = 71 ∧ turnN (textS (bs.drop 4) 0 4194304).1 = 0 then none else
  some ⟨bs.getD 3 0, (textS (bs.drop 4) 0 4194304).1, bs.length - (textS (bs.drop 4) 0 4194304).2.1.length⟩
def FirstIs (n0 : Nat) (r : Option Fr) (e : Ending) (w : World) : Prop :=
  match r with
  | none => e = .returned (.tuple #[.int .u8 0, .slice none 0 0, .int .i64 0])
  | some f => ∃ g rc, e = .returned (.tuple #[.int .u8 f.k, .slice (some ⟨g, 0, none⟩) f.zs.length rc, .int .i64 (f.n : Int)]) ∧ RowAt w (some ⟨g, 0, none⟩) f.zs ∧ n0 ≤ g ∧ g < w.heap.size ∧ f.zs.length ≤ rc ∧ rc ≤ maxLen

theorem at_of {w : World} {X : Nat} {rest : List Int} (h : RSt B T w X rest 0) : ∃ p : Nat, p + rest.length = T ∧ w.cell? ⟨X, 1, none⟩ = some (.int .i64 (p : Int)) ∧ w.cell? ⟨X, 2, none⟩ = some (.int .i64 0) ∧ X < w.heap.size := by
  obtain ⟨zs, p, hR, hd⟩ := h
  obtain ⟨hX, -, h1, h2, -, -, -, hp, -, hT⟩ := hR
  refine ⟨p, ?_, h1, h2, hX⟩
  rw [← hd rfl, List.length_drop, ← hT]
  omega
theorem err_of {w : World} {X : Nat} {rest : List Int} {e : Int} (h : RSt B T w X rest e) : w.cell? ⟨X, 2, none⟩ = some (.int .i64 e) := by
  obtain ⟨zs, p, hR, hd⟩ := h
  exact hR.2.2.2.1
theorem frameL_len (k : Int) (zs : List Int) (hl : zs.length ≤ 100000000) : (frameL k (strOf zs)).length ≤ 100001000 := by
  have hpl := putL_length ((strOf zs).size : Int) (by rw [strOf_size]; omega)
  have hs := strOf_size zs
  simp only [frameL, sumL, kindL, textL, List.length_cons, List.length_append, strL_length, List.length_nil]
  omega
theorem numS_drop (r : List Int) (e m : Int) : ∃ c, (numS r e m).2.1 = r.drop c := by
  unfold numS
  split
  · split
    · split
      · exact ⟨0, rfl⟩
      · exact ⟨_, rfl⟩
    · exact ⟨0, rfl⟩
  · exact ⟨0, rfl⟩
theorem textS_part (r : List Int) (e m : Int) : (∃ c n, (textS r e m).1 = (r.drop c).take n) ∧ ∃ d, (textS r e m).2.1 = r.drop d := by
  obtain ⟨c, hc⟩ := numS_drop r e 9223372036854775807
  unfold textS
  rw [hc]
  split
  · split
    · exact ⟨⟨0, 0, by simp⟩, 0, rfl⟩
    · split
      · exact ⟨⟨0, 0, by simp⟩, 0, rfl⟩
      · exact ⟨⟨c, _, rfl⟩, _, List.drop_drop ..⟩
  · exact ⟨⟨0, 0, by simp⟩, 0, rfl⟩
end Go.Proofs.Ytfkchnjbbbhmjab.Ty
namespace Go.Proofs.Ytfkchnjbbbhmjab.Ty
open Go.RowKit
open Tal
/-- what was read as a text is what would be put -/
theorem textS_form {r rec rest : List Int} {most : Int} (hz : ∀ z ∈ r, 0 ≤ z ∧ z < 256) (h : textS r 0 most = (rec, rest, 0)) : r = textL (strOf rec) ++ rest := by
  have hN := numS_max r hz
  have hF := numR_form r hz
  unfold textS at h
  rw [hN] at h
  by_cases h0 : (numR r).2.2 = 0
  · obtain ⟨f1, f2, f3, f4⟩ := hF h0
    rw [if_pos h0] at h
    simp only at h
    rw [if_pos trivial] at h
    generalize (numR r).1 = v at *
    generalize (numR r).2.1 = c at *
    obtain ⟨m, rfl⟩ := Int.eq_ofNat_of_zero_le f3
    split at h
    · simp at h
    · split at h
      · simp at h
      · rename_i hm hl
        simp only [Prod.mk.injEq, and_true, Int.toNat_natCast] at h
        obtain ⟨rfl, rfl⟩ := h
        have hb : ∀ z ∈ (r.drop c).take m, 0 ≤ z ∧ z < 256 := fun z q => hz z (List.mem_of_mem_drop (List.mem_of_mem_take q))
        unfold textL
        rw [strL_strOf hb, strOf_size, List.length_take, Nat.min_eq_left (by omega), f1, List.append_assoc, List.take_append_drop, List.take_append_drop]
  · rw [if_neg h0] at h
    simp only [if_neg h0, Prod.mk.injEq] at h
    exact absurd h.2.2 h0
theorem sumL_iff {b0 b1 b2 : Int} {bs : List Int} (h1 : 0 ≤ b1 ∧ b1 < 256) (h2 : 0 ≤ b2 ∧ b2 < 256) : sumL bs = [b0, b1, b2] ↔ crcN bs = sumN [b0, b1, b2] := by
  have hc := crcN_lt bs
  have e : sumN [b0, b1, b2] = ((0 * 256 + b0) * 256 + b1) * 256 + b2 := rfl
  rw [e]
  unfold sumL
  generalize crcN bs = c at *
  constructor
  · intro h
    simp only [List.cons.injEq, and_true] at h
    omega
  · intro h
    simp only [List.cons.injEq, and_true]
    omega
/-- the frame's bytes fit if and only if the sum of those behind it is the one that stands there -/
theorem fits_iff {bs rec rest : List Int} (hz : ∀ z ∈ bs, 0 ≤ z ∧ z < 256) (h4 : 4 ≤ bs.length) (h : textS (bs.drop 4) 0 4194304 = (rec, rest, 0)) :
    (frameL (bs.getD 3 0) (strOf rec) = bs.take (bs.length - rest.length) ↔ crcN ((bs.drop 3).take (bs.length - rest.length - 3)) = sumN (bs.take 3)) ∧ rest.length + 4 ≤ bs.length ∧ rest = bs.drop (bs.length - rest.length) := by
  have hf := textS_form (fun z q => hz z (List.mem_of_mem_drop q)) h
  obtain ⟨b0, b1, b2, k, tl, rfl⟩ : ∃ b0 b1 b2 k tl, bs = b0 :: b1 :: b2 :: k :: tl := by
    match bs, h4 with
    | b0 :: b1 :: b2 :: k :: tl, _ => exact ⟨b0, b1, b2, k, tl, rfl⟩
  simp only [List.drop_succ_cons, List.drop_zero] at hf
  subst hf
  clear h
  generalize htx : textL (strOf rec) = tx
  have hn : (b0 :: b1 :: b2 :: k :: (tx ++ rest)).length - rest.length = tx.length + 1 + 1 + 1 + 1 := by simp only [List.length_cons, List.length_append]; omega
  rw [hn]
  have hk : (b0 :: b1 :: b2 :: k :: (tx ++ rest)).getD 3 0 = k := rfl
  rw [hk]
  have hkl : kindL k (strOf rec) = k :: tx := by rw [← htx]; rfl
  refine ⟨?_, by simp only [List.length_cons, List.length_append]; omega, by simp⟩
  have e1 : tx.length + 1 + 1 + 1 + 1 - 3 = tx.length + 1 := by omega
  rw [e1]
  simp only [List.take_succ_cons, List.drop_succ_cons, List.drop_zero, List.take_zero, List.take_left]
  unfold frameL
  rw [hkl]
  rw [← sumL_iff (hz b1 (by simp)) (hz b2 (by simp))]
  constructor
  · intro q
    have : sumL (k :: tx) ++ (k :: tx) = [b0, b1, b2] ++ (k :: tx) := q
    exact List.append_cancel_right this
  · intro q
    rw [q]
    rfl
/-- the frames of bytes -/
def framesN : Nat → List Int → List Fr
  | 0, _ => []
  | t + 1, bs => match firstW bs with
    | none => []
    | some f => f :: framesN t (bs.drop f.n)
def framesW (bs : List Int) : List Fr := framesN bs.length bs
theorem firstW_len {bs : List Int} {f : Fr} (hz : ∀ z ∈ bs, 0 ≤ z ∧ z < 256) (h : firstW bs = some f) : 4 ≤ f.n ∧ f.n ≤ bs.length := by
  unfold firstW at h
  split at h
  · cases h
  · rename_i h4
    split at h
    · cases h
    · rename_i he
      split at h
      · cases h
      · split at h
        · cases h
        · obtain ⟨rec, rest, er, hT⟩ : ∃ rec rest er, textS (bs.drop 4) 0 4194304 = (rec, rest, er) := ⟨_, _, _, rfl⟩
          rw [hT] at h he
          simp only [Option.some.injEq] at h
          have her : er = 0 := by
            by_cases q : er = 0
            · exact q
            · exact absurd (.inl q) he
          subst her
          have := (fits_iff hz (by omega) hT).2.1
          subst h
          simp only
          omega
theorem framesN_more {bs : List Int} (hz : ∀ z ∈ bs, 0 ≤ z ∧ z < 256) : ∀ t, bs.length ≤ t → framesN t bs = framesN bs.length bs := by
  intro t
  induction t using Nat.strongRecOn generalizing bs with
  | _ t ih =>
    intro ht
    match t, ht with
    | 0, ht =>
      have : bs.length = 0 := by omega
      rw [this]
    | t + 1, ht =>
      cases hf : firstW bs with
      | none =>
        have : bs.length = 0 ∨ ∃ u, bs.length = u + 1 := by cases bs.length <;> simp
        rcases this with q | ⟨u, q⟩
        · rw [q]; simp only [framesN, hf]
        · rw [q]; simp only [framesN, hf]
      | some f =>
        obtain ⟨l1, l2⟩ := firstW_len hz hf
        obtain ⟨u, q⟩ : ∃ u, bs.length = u + 1 := ⟨bs.length - 1, by omega⟩
        have hz' : ∀ z ∈ bs.drop f.n, 0 ≤ z ∧ z < 256 := fun z hh => hz z (List.mem_of_mem_drop hh)
        have hd : (bs.drop f.n).length ≤ u := by rw [List.length_drop]; omega
        rw [q]
        simp only [framesN, hf]
        rw [ih t (by omega) hz' (by omega), ih u (by omega) hz' hd]
/-- one frame, then those behind it -/
theorem framesW_step {bs : List Int} (hz : ∀ z ∈ bs, 0 ≤ z ∧ z < 256) : framesW bs = match firstW bs with
    | none => []
    | some f => f :: framesW (bs.drop f.n) := by
  cases hf : firstW bs with
  | none =>
    unfold framesW
    cases bs.length <;> simp only [framesN, hf]
  | some f =>
    obtain ⟨l1, l2⟩ := firstW_len hz hf
    obtain ⟨u, q⟩ : ∃ u, bs.length = u + 1 := ⟨bs.length - 1, by omega⟩
    have hz' : ∀ z ∈ bs.drop f.n, 0 ≤ z ∧ z < 256 := fun z hh => hz z (List.mem_of_mem_drop hh)
    unfold framesW
    rw [q]
    simp only [framesN, hf]
    rw [framesN_more hz' u (by rw [List.length_drop]; omega)]
end Go.Proofs.Ytfkchnjbbbhmjab.Ty
namespace Go.Proofs.Ytfkchnjbbbhmjab
open Go.RowKit
structure Jv where
  q : Nat
  p : Nat
  ar : Int
  tu : Int
  fs : Int
def jcells (j : Jv) : List Value := [.pointer (some ⟨j.p, 0, none⟩), .int .i64 j.ar, .int .i64 j.tu, .int .i64 j.fs]
structure JAt (w : World) (j : Jv) : Prop where
  c : w.rangeAt j.q 0 (jcells j)
  th : w.there j.q 0 4
theorem JAt.at {w w' : World} {j : Jv} (h : JAt w j) (hb : w'.heap[j.q]? = w.heap[j.q]?) : JAt w' j := ⟨range_at h.c hb, there_at h.th hb⟩
theorem JAt.lt {w : World} {j : Jv} (h : JAt w j) : j.q < w.heap.size := there_lt h.th (by omega)
theorem JAt.below {w w' : World} {j : Jv} (h : JAt w j) (hb : Below w.heap.size w w') : JAt w' j := h.at (hb.block _ h.lt)
theorem JAt.cell {w : World} {j : Jv} (h : JAt w j) (i : Nat) {v : Value} (hv : (jcells j)[i]? = some v) : w.cell? ⟨j.q, i, none⟩ = some v := by
  have := h.c i v hv
  rwa [Nat.zero_add] at this
def jptr (j : Jv) : Value := .pointer (some ⟨j.q, 0, none⟩)
/-- is there power for a journal? -/
def Mt.jon (M : Mt) (fs : Int) : Bool := M.on && decide (M.fa = fs)
set_option maxRecDepth 100000 in
set_option maxHeartbeats 4000000 in
theorem jmade_any (j : Jv) (w : World) (h : JAt w j) : Calls Try.prog 33 #[jptr j] w fun e w' => e = .returned (.bool true) ∧ w' = w := by
  have h0 := h.cell 0 rfl
  clear h
  unfold jptr
  go_enter Try.func33, Try.ntmps33
  go_wp2_with fail
  go_ret
  exact ⟨rfl, rfl⟩
set_option maxRecDepth 100000 in
set_option maxHeartbeats 4000000 in
theorem jturn_any (j : Jv) (w : World) (h : JAt w j) : Calls Try.prog 20 #[jptr j] w fun e w' => e = .returned (.int .i64 j.tu) ∧ w' = w := by
  have cm := jmade_any j w h
  have h2 := h.cell 2 rfl
  clear h
  unfold jptr at *
  go_enter Try.func20, Try.ntmps20
  go_wp2_with fail
  refine cm.mono ?_
  rintro e w' ⟨rfl, hw⟩
  obtain rfl := hw.symm
  clear cm hw
  go_wp2_with fail
  go_ret
  exact ⟨rfl, rfl⟩
set_option maxRecDepth 100000 in
set_option maxHeartbeats 4000000 in
theorem jon_any (j : Jv) (M : Mt) (A : Nat → Prop) (w : World) (h : JAt w j) (hT : Live A w j.p M) : Calls Try.prog 22 #[jptr j] w fun e w' => e = .returned (.bool (M.jon j.fs)) ∧ Below w.heap.size w w' := by
  have cm := jmade_any j w h
  have h0 := h.cell 0 rfl
  have cC := live_counts hT
  unfold Mt.jon
  unfold jptr at *
  go_enter Try.func22, Try.ntmps22
  go_wp2_with fail
  refine cm.mono ?_
  rintro e w' ⟨rfl, hw⟩
  obtain rfl := hw.symm
  clear cm hw
  go_wp2_with fail
  refine cC.mono ?_
  rintro e w1 ⟨rfl, hB1⟩
  clear cC
  have cO := live_on (hT.below hB1)
  have g0 := (h.below hB1).cell 0 rfl
  have g3 := (h.below hB1).cell 3 rfl
  cases hon : M.on
  · rw [hon] at cO
    have HON := hide hon
    clear hon h0
    go_wp2_with fail
    refine cO.mono ?_
    rintro e w2 ⟨rfl, hx⟩
    obtain rfl := hx.symm
    clear cO hx
    go_wp2_with fail
    go_ret
    exact ⟨by rw [HON.out]; rfl, hB1⟩
  · rw [hon] at cO
    have HON := hide hon
    clear hon h0
    go_wp2_with fail
    refine cO.mono ?_
    rintro e w2 ⟨rfl, hx⟩
    obtain rfl := hx.symm
    clear cO hx
    by_cases hf : M.fa = j.fs
    · have hd : decide (M.fa = j.fs) = true := decide_eq_true hf
      have hf' : (M.fa == j.fs) = true := by simpa using hf
      go_wp2_with fail
      go_ret
      exact ⟨by rw [HON.out]; first | rfl | (simp [hf]), hB1⟩
    · have hf' : (M.fa == j.fs) = false := by simpa using hf
      go_wp2_with fail
      go_ret
      exact ⟨by rw [HON.out]; first | rfl | (simp [hf]), hB1⟩
/-- a record in memory -/
structure Rc where
  a : Option Addr
  cap : Nat
  zs : List Int
deriving Inhabited
def Rc.cells (r : Rc) : List Value := [.slice r.a r.zs.length r.cap]
structure Rc.ok (w : World) (r : Rc) : Prop where
  row : RowAt w r.a r.zs
  le : r.zs.length ≤ r.cap
  cm : r.cap ≤ maxLen
/-- may records be taken? -/
def takesE (on : Bool) (rs : List Rc) : Int := if on then if ∀ r ∈ rs, r.zs.length ≤ 4194304 then 0 else 3 else 150
set_option maxRecDepth 100000 in
set_option maxHeartbeats 4000000 in
theorem jtakes_any (j : Jv) (M : Mt) (A : Nat → Prop) (ra : Option Addr) (rc : Nat) (rs : List Rc) (w : World) (h : JAt w j) (hT : Live A w j.p M) (hr : RowOf Rc.cells w ra rs) (hl : rs.length ≤ maxLen) :
    Calls Try.prog 26 #[jptr j, .slice ra rs.length rc] w fun e w' => e = .returned (.int .i64 (takesE (M.jon j.fs) rs)) ∧ Below w.heap.size w w' := by
  have cm := jmade_any j w h
  have cO := jon_any j M A w h hT
  unfold maxLen at hl
  unfold jptr at *
  cases hon : M.jon j.fs
  · rw [hon] at cO
    have HE : Hid (takesE false rs = 150) := hide rfl
    rw [HE.out]
    clear hon HE h hT
    go_enter Try.func26, Try.ntmps26
    go_wp2_with fail
    refine cm.mono ?_
    rintro e w' ⟨rfl, hw⟩
    obtain rfl := hw.symm
    clear cm hw
    go_wp2_with fail
    refine cO.mono ?_
    rintro e w' ⟨rfl, hw⟩
    clear cO
    go_wp2_with fail
    go_ret
    exact ⟨rfl, hw⟩
  · rw [hon] at cO
    have HE : Hid (takesE true rs = if ∀ r ∈ rs, r.zs.length ≤ 4194304 then 0 else 3) := hide rfl
    rw [HE.out]
    clear hon HE h hT
    obtain ⟨te, hte⟩ : ∃ te, Hid ((if ∀ r ∈ rs, r.zs.length ≤ 4194304 then (0 : Int) else 3) = te) := ⟨_, hide rfl⟩
    rw [hte.out]
    go_enter Try.func26, Try.ntmps26
    go_wp2_with fail
    refine cm.mono ?_
    rintro e w' ⟨rfl, hw⟩
    obtain rfl := hw.symm
    clear cm hw
    go_wp2_with fail
    refine cO.mono ?_
    rintro e w1 ⟨rfl, hB1⟩
    clear cO
    go_wp2_with fail
    go_loopw [17] (fun iv wr => ∃ k : Nat, k ≤ rs.length ∧ iv = .int .i64 (k : Int) ∧ wr = w1 ∧ Hid (∀ i, (hi : i < rs.length) → i < k → rs[i].zs.length ≤ 4194304)) (fun iv _ => rs.length - (intOf iv).toNat)
    case atStart => exact ⟨0, by omega, rfl, rfl, hide (fun i hi h0 => by omega)⟩
    case round =>
      obtain ⟨k, hk, rfl, hw, HP⟩ := hrel
      obtain rfl := hw.symm
      clear hw
      by_cases hlt : k < rs.length
      · have hltI : (k : Int) < (rs.length : Int) := by omega
        obtain ⟨rb, off, rfl, hrb, hre0⟩ := hr.elem (k := 1) (fun _ _ => rfl) k hlt
        have c0 : w1.cell? ⟨rb, off + k, none⟩ = some (.slice rs[k].a rs[k].zs.length rs[k].cap) := by
          have := (range_below hre0 hB1 hrb) 0 _ rfl
          simpa using this
        obtain ⟨y, hy⟩ : ∃ y, Hid (rs[k] = y) := ⟨_, hide rfl⟩
        rw [hy.out] at c0
        by_cases hlong : y.zs.length ≤ 4194304
        · have HQ : Hid (∀ i, (hi : i < rs.length) → i < k + 1 → rs[i].zs.length ≤ 4194304) := hide (fun i hi h1 => by
            by_cases e : i = k
            · subst e; rw [hy.out]; exact hlong
            · exact HP.out i hi (by omega))
          have hlI : ¬ (4194304 : Int) < (y.zs.length : Int) := by omega
          clear hre0 hy HP
          go_wp2_with fail
          go_roundw
          case rel => exact ⟨k + 1, by omega, by go_num, by trivial, HQ⟩
          case measure => simp [intOf]; omega
        · have hlI : (4194304 : Int) < (y.zs.length : Int) := by omega
          have HZ : Hid (te = 3) := hide (by
            rw [← hte.out, if_neg]
            intro q
            have := q _ (List.getElem_mem hlt)
            rw [hy.out] at this
            exact hlong this)
          clear hre0 hy HP
          go_wp2_with fail
          go_ret
          exact ⟨by rw [HZ.out]; rfl, hB1⟩
      · have k1 : ¬ (k : Int) < (rs.length : Int) := by omega
        have HZ : Hid (te = 0) := hide (by
          rw [← hte.out, if_pos]
          intro r hrm
          obtain ⟨i, hi, rfl⟩ := List.mem_iff_getElem.1 hrm
          exact HP.out i hi (by omega))
        clear HP
        go_wp2_with fail
        go_ret
        exact ⟨by rw [HZ.out]; rfl, hB1⟩
end Go.Proofs.Ytfkchnjbbbhmjab
namespace Go.Proofs.Ytfkchnjbbbhmjab.Ty
open Go.RowKit
open Tal
def Rc.val (x : Rc) : Value := .slice x.a x.zs.length x.cap
theorem RowAt_gbo {w w' : World} {a : Option Addr} {zs : List Int} {row : Option Nat} (h : RowAt w a zs) (hg : w.grownBy w' row) (hne : ∀ x, a = some x → row ≠ some x.block) : RowAt w' a zs := by
  refine ⟨h.1, h.2.1, ?_⟩
  rcases h.2.2 with q | ⟨b, off, rfl, hb, hr⟩
  · exact .inl q
  · exact .inr ⟨b, off, rfl, Nat.lt_of_lt_of_le hb hg.size, fun j v hv => hg.cell (hr j v hv) (fun q => hne _ rfl q.symm)⟩
structure Out (B : Nat) (w : World) (vk vr : Value) (ks : List Int) (rs xs : List Rc) : Prop where
  k : w.ownsRow B 5 1 vk ks.length (v8 ks)
  kb : ∀ z ∈ ks, 0 ≤ z ∧ z < 256
  r : w.ownsRow B 34 1 vr rs.length (rs.map Rc.val)
  ap : ∀ g, vk.ownBlock = some g → vr.ownBlock ≠ some g
  rows : ∀ x ∈ xs, RowAt w x.a x.zs
  off : ∀ x ∈ xs, ∀ ad, x.a = some ad → ad.block < w.heap.size ∧ vk.ownBlock ≠ some ad.block ∧ vr.ownBlock ≠ some ad.block
theorem Out.nil (B : Nat) (w : World) : Out B w (.slice none 0 0) (.slice none 0 0) [] [] [] :=
  ⟨World.ownsRow_nil _ _ _ _, by simp, World.ownsRow_nil _ _ _ _, by simp [Value.ownBlock], by simp, by simp⟩
theorem own_or (o : Option Nat) : o = none ∨ o ≠ none := by cases o <;> simp
theorem Out.below {B : Nat} {w w' : World} {vk vr : Value} {ks : List Int} {rs xs : List Rc} (h : Out B w vk vr ks rs xs) (hb : Below w.heap.size w w') : Out B w' vk vr ks rs xs :=
  ⟨h.k.kept (gb_below hb none) (own_or _), h.kb, h.r.kept (gb_below hb none) (own_or _), h.ap, fun x hx => (h.rows x hx).below hb,
    fun x hx ad q => ⟨Nat.lt_of_lt_of_le (h.off x hx ad q).1 hb.size, (h.off x hx ad q).2⟩⟩
/-- a record in a block of its own -/
theorem Out.more {B : Nat} {w : World} {vk vr : Value} {ks : List Int} {rs xs : List Rc} (h : Out B w vk vr ks rs xs) (x : Rc) (hx : RowAt w x.a x.zs) (ho : ∀ ad, x.a = some ad → ad.block < w.heap.size ∧ vk.ownBlock ≠ some ad.block ∧ vr.ownBlock ≠ some ad.block) : Out B w vk vr ks rs (xs ++ [x]) :=
  ⟨h.k, h.kb, h.r, h.ap, fun y hy => by
    rcases List.mem_append.1 hy with q | q
    · exact h.rows y q
    · rw [List.mem_singleton.1 q]; exact hx, fun y hy => by
    rcases List.mem_append.1 hy with q | q
    · exact h.off y q
    · rw [List.mem_singleton.1 q]; exact ho⟩
theorem Out.addK {B : Nat} {w w' : World} {vk vr vk' : Value} {ks : List Int} {rs xs : List Rc} {z : Int} (h : Out B w vk vr ks rs xs) (hz : 0 ≤ z ∧ z < 256) (hown : w'.ownsRow B 5 1 vk' (ks.length + 1) (v8 ks ++ [.int .u8 z])) (hg : w.grownBy w' vk.ownBlock)
    (hap : ∀ g, vk'.ownBlock = some g → vk.ownBlock = some g ∨ g = w.heap.size) : Out B w' vk' vr (ks ++ [z]) rs xs := by
  refine ⟨by simpa [v8] using hown, ?_, h.r.kept hg ?_, ?_, fun x hx => RowAt_gbo (h.rows x hx) hg (fun ad q => (h.off x hx ad q).2.1), fun x hx ad q => ?_⟩
  · intro y hy
    rcases List.mem_append.1 hy with q | q
    · exact h.kb y q
    · rw [List.mem_singleton.1 q]; exact hz
  · cases hk : vk.ownBlock with
    | none => exact own_or _
    | some g => exact .inr (h.ap g hk)
  · intro g hg1 hg2
    rcases hap g hg1 with q | q
    · exact h.ap g q hg2
    · have := (h.r.lt g hg2).2; omega
  · obtain ⟨o1, o2, o3⟩ := h.off x hx ad q
    refine ⟨Nat.lt_of_lt_of_le o1 hg.size, fun q1 => ?_, o3⟩
    rcases hap _ q1 with q2 | q2
    · exact o2 q2
    · omega
theorem Out.addR {B : Nat} {w w' : World} {vk vr vr' : Value} {ks : List Int} {rs xs : List Rc} {y : Rc} (h : Out B w vk vr ks rs xs) (hown : w'.ownsRow B 34 1 vr' (rs.length + 1) (rs.map Rc.val ++ [Rc.val y])) (hg : w.grownBy w' vr.ownBlock)
    (hap : ∀ g, vr'.ownBlock = some g → vr.ownBlock = some g ∨ g = w.heap.size) : Out B w' vk vr' ks (rs ++ [y]) xs := by
  refine ⟨h.k.kept hg ?_, h.kb, by simpa using hown, ?_, fun x hx => RowAt_gbo (h.rows x hx) hg (fun ad q => (h.off x hx ad q).2.2), fun x hx ad q => ?_⟩
  · cases hk : vk.ownBlock with
    | none => exact .inl rfl
    | some g => exact .inr (fun q => h.ap g hk q.symm)
  · intro g hg1 hg2
    rcases hap g hg2 with q | q
    · exact h.ap g hg1 q
    · have := (h.k.lt g hg1).2; omega
  · obtain ⟨o1, o2, o3⟩ := h.off x hx ad q
    refine ⟨Nat.lt_of_lt_of_le o1 hg.size, o2, fun q1 => ?_⟩
    rcases hap _ q1 with q2 | q2
    · exact o3 q2
    · omega
theorem infoS : (Try.prog.info? 34).map (fun i => (i.zero, i.size, i.bytes)) = some (some (.slice none 0 0), 1, 24) := by kernel_rfl
theorem s1_src (w : World) (x : Rc) : Src Try.prog 1 22 (.slice (some ⟨w.heap.size, 0, none⟩) 1 1) 1 [Rc.val x] (w.alloc (.cells #[Rc.val x] 34)) := by
  refine Src.ofSlice _ Try.underlying22 _ 1 1 _ (by simp) (fun j u hu => ?_) (fun u hu => by simp at hu; subst hu; rfl)
  rw [Addr.add_mid]
  exact range_new w #[Rc.val x] 34 j u (by simpa using hu)
def lenOf : Value → Nat
  | .slice _ n _ => n
  | _ => 0
end Go.Proofs.Ytfkchnjbbbhmjab.Ty
namespace Go.Proofs.Ytfkchnjbbbhmjab.Ty
open Go.RowKit
open Tal
/-- what Frames tells: kinds and records -/
def FramesIs (B : Nat) (fs : List Fr) (e : Ending) (w : World) : Prop :=
  ∃ vk vr rs, e = .returned (.tuple #[vk, vr]) ∧ Out B w vk vr (fs.map Fr.k) rs rs ∧ rs.map Rc.zs = fs.map Fr.zs
theorem firstW_kind {bs : List Int} {f : Fr} (h : firstW bs = some f) : f.k = 68 ∨ f.k = 71 := by
  unfold firstW at h
  split at h
  · cases h
  · split at h
    · cases h
    · rename_i he
      split at h
      · cases h
      · split at h
        · cases h
        · simp only [Option.some.injEq] at h
          rw [← h]
          simp only
          generalize bs.getD 3 0 = k at *
          by_cases q : k = 68
          · exact .inl q
          · by_cases q' : k = 71
            · exact .inr q'
            · exact absurd (.inr ⟨q, q'⟩) he
end Go.Proofs.Ytfkchnjbbbhmjab.Ty
namespace Go.Proofs.Ytfkchnjbbbhmjab.Ty
open Go.RowKit
open Tal
set_option maxRecDepth 100000 in
set_option maxHeartbeats 2000000 in
theorem cfits_any (a : Option Addr) (cap : Nat) (zs : List Int) (s : Int) (w : World) (h : RowAt w a zs) :
    Calls Try.prog 74 #[.slice a zs.length cap, .int .i64 s] w fun e w' => e = .returned (.bool (crcN zs == s)) ∧ Below w.heap.size w w' := by
  have c := csum_any a cap zs w h
  clear h
  generalize crcN zs = n at *
  go_enter Try.func74, Try.ntmps74
  go_wp2_with fail
  refine c.mono ?_
  rintro e1 w1 ⟨rfl, hb⟩
  clear c
  go_wp2
  go_ret
  exact ⟨rfl, hb⟩
end Go.Proofs.Ytfkchnjbbbhmjab.Ty
namespace Go.Proofs.Ytfkchnjbbbhmjab.Ty
open Go.RowKit
open Tal
/-- records in memory -/
structure Recs (w : World) (a : Option Addr) (rs : List Rc) : Prop where
  le : rs.length ≤ 100000000
  at0 : rs = [] ∨ ∃ b off, a = some ⟨b, off, none⟩ ∧ b < w.heap.size ∧ w.rangeAt b off (rs.map Rc.val)
  rows : ∀ x ∈ rs, RowAt w x.a x.zs
theorem Recs.get {w : World} {a : Option Addr} {rs : List Rc} (h : Recs w a rs) (k : Nat) (hk : k < rs.length) : ∃ b off, a = some ⟨b, off, none⟩ ∧ b < w.heap.size ∧ w.cell? ⟨b, off + k, none⟩ = some (.slice rs[k].a rs[k].zs.length rs[k].cap) ∧ RowAt w rs[k].a rs[k].zs := by
  rcases h.at0 with q | ⟨b, off, rfl, hb, hr⟩
  · rw [q] at hk; simp at hk
  · refine ⟨b, off, rfl, hb, hr k _ ?_, h.rows _ (List.getElem_mem hk)⟩
    rw [List.getElem?_map, List.getElem?_eq_getElem hk]
    rfl
theorem Out.recs {B : Nat} {w : World} {vk vr : Value} {ks : List Int} {rs : List Rc} (h : Out B w vk vr ks rs rs) (hl : rs.length ≤ 100000000) : ∃ a cap, vr = .slice a rs.length cap ∧ Recs w a rs := by
  rcases own_range h.r with ⟨q, h0, _⟩ | ⟨g, cap, q, hb, hg, hn, hcm, hr⟩
  · exact ⟨none, 0, by rw [q, h0], hl, .inl (List.eq_nil_of_length_eq_zero h0), h.rows⟩
  · exact ⟨_, cap, q, hl, .inr ⟨g, 0, rfl, hg, hr⟩, h.rows⟩
set_option maxRecDepth 100000 in
set_option maxHeartbeats 4000000 in
theorem xsame_any (a1 a2 : Option Addr) (c1 c2 : Nat) (rs ss : List Rc) (w : World) (h1 : Recs w a1 rs) (h2 : Recs w a2 ss) (hE : rs.map Rc.zs = ss.map Rc.zs) :
    Calls Try.prog 16 #[.slice a1 rs.length c1, .slice a2 ss.length c2] w fun e w' => e = .returned (.bool true) ∧ Below w.heap.size w w' := by
  have hlen : ss.length = rs.length := by simpa using (congrArg List.length hE).symm
  have hle := h1.le
  rw [hlen]
  go_enter Try.func16, Try.ntmps16
  go_wp2_with fail
  go_loopw [5] (fun iv wr => ∃ k : Nat, k ≤ rs.length ∧ iv = .int .i64 (k : Int) ∧ Below w.heap.size w wr) (fun iv _ => rs.length - (intOf iv).toNat)
  case atStart => exact ⟨0, by omega, rfl, Below.refl _ _⟩
  case round =>
    obtain ⟨k, hk, rfl, hB⟩ := hrel
    by_cases hlt : k < rs.length
    · obtain ⟨b1, o1, rfl, hb1, hc1, hr1⟩ := h1.get k hlt
      obtain ⟨b2, o2, rfl, hb2, hc2, hr2⟩ := h2.get k (by omega)
      have hz : rs[k].zs = (ss[k]'(by omega)).zs := by
        have q := congrArg (·[k]?) hE
        simp only [List.getElem?_map] at q
        rw [List.getElem?_eq_getElem hlt, List.getElem?_eq_getElem (by omega)] at q
        simpa using q
      generalize rs[k] = x at *
      generalize (ss[k]'(by omega)) = y at *
      obtain ⟨xa, xc, xz⟩ := x
      obtain ⟨ya, yc, yz⟩ := y
      simp only at hz hc1 hc2 hr1 hr2
      subst hz
      clear h1 h2 hE hlen
      have hltI : (k : Int) < (rs.length : Int) := by omega
      go_wp2_with fail
      obtain ⟨w8, hw8⟩ : ∃ w8, wr.drew = w8 := ⟨_, rfl⟩
      have hB8 : Below w.heap.size w w8 := by rw [← hw8]; exact hB.drew
      have cA : ∀ w', Below w8.heap.size w8 w' → w'.cell? ⟨b1, o1 + k, none⟩ = some (.slice xa xz.length xc) := fun w' hw => (cell_block ((hB8.trans (hw.mono hB8.size)).block b1 hb1)).1.trans hc1
      have cB : ∀ w', Below w8.heap.size w8 w' → w'.cell? ⟨b2, o2 + k, none⟩ = some (.slice ya xz.length yc) := fun w' hw => (cell_block ((hB8.trans (hw.mono hB8.size)).block b2 hb2)).1.trans hc2
      have kA : ∀ w', Below w8.heap.size w8 w' → (convert 34 9 (.slice xa xz.length xc)).run Try.prog w' = .ok (.string (strOf xz)) w' := fun w' hw => _root_.Go.Proofs.Ytfkchnjbbbhmjab.row_str (cap := xc) (hr1.below (hB8.trans (hw.mono hB8.size)))
      have kB : ∀ w', Below w8.heap.size w8 w' → (convert 34 9 (.slice ya xz.length yc)).run Try.prog w' = .ok (.string (strOf xz)) w' := fun w' hw => _root_.Go.Proofs.Ytfkchnjbbbhmjab.row_str (cap := yc) (hr2.below (hB8.trans (hw.mono hB8.size)))
      refine hs_begin (S := (Below w8.heap.size w8)) 11 rfl (by kernel_rfl) ?_
      rw [hw8]
      clear hw8 hc1 hc2 hr1 hr2
      have hS : (Below w8.heap.size w8) w8 := Below.refl _ _
      refine hs_take (i := 0) (d := some 17) (v := ?_) rfl (by kernel_rfl) (by kernel_rfl) (by kernel_rfl) (by rfl) ?_ hS rfl ?_
      rotate_left
      · intro w' hw
        go_simp
        try with_reducible rfl
      simp only [Act.put, List.setIfInBounds_toArray, List.set_cons_zero, List.set_cons_succ]
      refine hs_take (i := 1) (d := some 18) (v := ?_) rfl (by kernel_rfl) (by kernel_rfl) (by kernel_rfl) (by rfl) ?_ hS rfl ?_
      rotate_left
      · intro w' hw
        go_simp
        try with_reducible rfl
      simp only [Act.put, List.setIfInBounds_toArray, List.set_cons_zero, List.set_cons_succ]
      refine hs_take (i := 2) (d := some 19) (v := ?_) rfl (by kernel_rfl) (by kernel_rfl) (by kernel_rfl) (by rfl) ?_ hS rfl ?_
      rotate_left
      · intro w' hw
        go_simp
        try with_reducible rfl
      simp only [Act.put, List.setIfInBounds_toArray, List.set_cons_zero, List.set_cons_succ]
      refine hs_take (i := 3) (d := some 20) (v := ?_) rfl (by kernel_rfl) (by kernel_rfl) (by kernel_rfl) (by rfl) ?_ hS rfl ?_
      rotate_left
      · intro w' hw
        have := cA w' hw
        go_simp
        try with_reducible rfl
      simp only [Act.put, List.setIfInBounds_toArray, List.set_cons_zero, List.set_cons_succ]
      refine hs_take (i := 4) (d := some 21) (v := .string (strOf xz)) rfl (by kernel_rfl) (by kernel_rfl) (by kernel_rfl) (by rfl) (fun w' hw => by have := kA w' hw; go_simp) hS rfl ?_
      simp only [Act.put, List.setIfInBounds_toArray, List.set_cons_zero, List.set_cons_succ]
      refine hs_take (i := 5) (d := some 22) (v := ?_) rfl (by kernel_rfl) (by kernel_rfl) (by kernel_rfl) (by rfl) ?_ hS rfl ?_
      rotate_left
      · intro w' hw
        go_simp
        try with_reducible rfl
      simp only [Act.put, List.setIfInBounds_toArray, List.set_cons_zero, List.set_cons_succ]
      refine hs_take (i := 6) (d := some 23) (v := ?_) rfl (by kernel_rfl) (by kernel_rfl) (by kernel_rfl) (by rfl) ?_ hS rfl ?_
      rotate_left
      · intro w' hw
        go_simp
        try with_reducible rfl
      simp only [Act.put, List.setIfInBounds_toArray, List.set_cons_zero, List.set_cons_succ]
      refine hs_take (i := 7) (d := some 24) (v := ?_) rfl (by kernel_rfl) (by kernel_rfl) (by kernel_rfl) (by rfl) ?_ hS rfl ?_
      rotate_left
      · intro w' hw
        go_simp
        try with_reducible rfl
      simp only [Act.put, List.setIfInBounds_toArray, List.set_cons_zero, List.set_cons_succ]
      refine hs_take (i := 8) (d := some 25) (v := ?_) rfl (by kernel_rfl) (by kernel_rfl) (by kernel_rfl) (by rfl) ?_ hS rfl ?_
      rotate_left
      · intro w' hw
        have := cB w' hw
        go_simp
        try with_reducible rfl
      simp only [Act.put, List.setIfInBounds_toArray, List.set_cons_zero, List.set_cons_succ]
      refine hs_take (i := 9) (d := some 26) (v := .string (strOf xz)) rfl (by kernel_rfl) (by kernel_rfl) (by kernel_rfl) (by rfl) (fun w' hw => by have := kB w' hw; go_simp) hS rfl ?_
      simp only [Act.put, List.setIfInBounds_toArray, List.set_cons_zero, List.set_cons_succ]
      refine hs_take (i := 10) (d := some 27) (v := .bool false) rfl (by kernel_rfl) (by kernel_rfl) (by kernel_rfl) (by rfl) (fun w' hw => by go_simp) hS rfl ?_
      simp only [Act.put, List.setIfInBounds_toArray, List.set_cons_zero, List.set_cons_succ]
      refine hs_done (by kernel_rfl) ?_
      clear cA cB kA kB hS
      go_wp2
      go_roundw
      case rel => exact ⟨k + 1, by omega, by go_num, hB8⟩
      case measure => simp [intOf]; omega
    · obtain rfl : k = rs.length := by omega
      go_wp2
      go_ret
      exact ⟨rfl, hB⟩
end Go.Proofs.Ytfkchnjbbbhmjab.Ty
namespace Go.Proofs.Ytfkchnjbbbhmjab.Ty
open Go.RowKit
open Tal
/-- the frame of whatever kind with which bytes begin -/
def fitW (bs : List Int) : Option Fr :=
  if bs.length < 4 then none else
  if (textS (bs.drop 4) 0 4194304).2.2 ≠ 0 then none else
  if crcN ((bs.drop 3).take (bs.length - (textS (bs.drop 4) 0 4194304).2.1.length - 3)) ≠ sumN (bs.take 3) then none else
  some ⟨bs.getD 3 0, (textS (bs.drop 4) 0 4194304).1, bs.length - (textS (bs.drop 4) 0 4194304).2.1.length⟩
/-- a record, or a turn -/
def Fr.good (f : Fr) : Bool := decide (f.k = 68) || (decide (f.k = 71) && decide (turnN f.zs ≠ 0))
theorem firstW_fit {bs : List Int} (hz : ∀ z ∈ bs, 0 ≤ z ∧ z < 256) : firstW bs = match fitW bs with
    | none => none
    | some f => if f.good = true then some f else none := by
  unfold firstW fitW
  by_cases h4 : bs.length < 4
  · rw [if_pos h4, if_pos h4]
  · rw [if_neg h4, if_neg h4]
    obtain ⟨rec, rest, er, hT⟩ : ∃ rec rest er, textS (bs.drop 4) 0 4194304 = (rec, rest, er) := ⟨_, _, _, rfl⟩
    rw [hT]
    simp only
    by_cases he : er = 0
    · subst he
      obtain ⟨hf, -, -⟩ := fits_iff hz (by omega) hT
      rw [if_neg (c := (0 : Int) ≠ 0) (by simp)]
      generalize bs.getD 3 0 = k at *
      by_cases hc : crcN ((bs.drop 3).take (bs.length - rest.length - 3)) = sumN (bs.take 3)
      · rw [if_neg (c := crcN _ ≠ _) (by simpa using hc)]
        simp only
        have hfr := hf.2 hc
        rw [if_neg (c := frameL k (strOf rec) ≠ _) (by simpa using hfr)]
        by_cases k1 : k = 68
        · subst k1
          simp [Fr.good]
        · by_cases k2 : k = 71
          · subst k2
            by_cases ht : turnN rec = 0
            · simp [Fr.good, ht]
            · simp [Fr.good, ht]
          · simp [Fr.good, k1, k2]
      · rw [if_pos (c := crcN _ ≠ _) hc]
        have hfr : frameL k (strOf rec) ≠ bs.take (bs.length - rest.length) := fun q => hc (hf.1 q)
        simp only
        split
        · rfl
        · first | rfl | rw [if_pos hfr]
    · rw [if_pos (c := er ≠ 0 ∨ _) (.inl he), if_pos (c := er ≠ 0) he]
theorem fitW_len {bs : List Int} {f : Fr} (hz : ∀ z ∈ bs, 0 ≤ z ∧ z < 256) (h : fitW bs = some f) : 4 ≤ f.n ∧ f.n ≤ bs.length := by
  unfold fitW at h
  split at h
  · cases h
  · rename_i h4
    split at h
    · cases h
    · rename_i he
      split at h
      · cases h
      · obtain ⟨rec, rest, er, hT⟩ : ∃ rec rest er, textS (bs.drop 4) 0 4194304 = (rec, rest, er) := ⟨_, _, _, rfl⟩
        rw [hT] at h he
        simp only [Option.some.injEq] at h
        have her : er = 0 := by
          by_cases q : er = 0
          · exact q
          · exact absurd q he
        subst her
        have := (fits_iff hz (by omega) hT).2.1
        subst h
        simp only
        omega
theorem fitW_kind {bs : List Int} {f : Fr} (hz : ∀ z ∈ bs, 0 ≤ z ∧ z < 256) (h : fitW bs = some f) : 0 ≤ f.k ∧ f.k < 256 ∧ (∀ z ∈ f.zs, 0 ≤ z ∧ z < 256) ∧ f.zs.length ≤ bs.length := by
  unfold fitW at h
  split at h
  · cases h
  · rename_i h4
    split at h
    · cases h
    · split at h
      · cases h
      · obtain ⟨⟨pc, pn, hp1⟩, -⟩ := textS_part (bs.drop 4) 0 4194304
        simp only [Option.some.injEq] at h
        subst h
        have hk : bs.getD 3 0 ∈ bs := by
          rw [List.getD_eq_getElem?_getD, List.getElem?_eq_getElem (show 3 < bs.length by omega)]
          exact List.getElem_mem _
        refine ⟨(hz _ hk).1, (hz _ hk).2, fun z q => ?_, ?_⟩
        · simp only [hp1] at q
          exact hz z (List.mem_of_mem_drop (List.mem_of_mem_drop (List.mem_of_mem_take q)))
        · simp only [hp1, List.length_take, List.length_drop]
          omega
def fitsN : Nat → List Int → List Fr
  | 0, _ => []
  | t + 1, bs => match fitW bs with
    | none => []
    | some f => f :: fitsN t (bs.drop f.n)
/-- the frames of whatever kind, one behind the other -/
def fitsW (bs : List Int) : List Fr := fitsN bs.length bs
theorem fitsN_more {bs : List Int} (hz : ∀ z ∈ bs, 0 ≤ z ∧ z < 256) : ∀ t, bs.length ≤ t → fitsN t bs = fitsN bs.length bs := by
  intro t
  induction t using Nat.strongRecOn generalizing bs with
  | _ t ih =>
    intro ht
    match t, ht with
    | 0, ht =>
      have : bs.length = 0 := by omega
      rw [this]
    | t + 1, ht =>
      cases hf : fitW bs with
      | none =>
        have : bs.length = 0 ∨ ∃ u, bs.length = u + 1 := by cases bs.length <;> simp
        rcases this with q | ⟨u, q⟩
        · rw [q]; simp only [fitsN, hf]
        · rw [q]; simp only [fitsN, hf]
      | some f =>
        obtain ⟨l1, l2⟩ := fitW_len hz hf
        obtain ⟨u, q⟩ : ∃ u, bs.length = u + 1 := ⟨bs.length - 1, by omega⟩
        have hz' : ∀ z ∈ bs.drop f.n, 0 ≤ z ∧ z < 256 := fun z hh => hz z (List.mem_of_mem_drop hh)
        have hd : (bs.drop f.n).length ≤ u := by rw [List.length_drop]; omega
        rw [q]
        simp only [fitsN, hf]
        rw [ih t (by omega) hz' (by omega), ih u (by omega) hz' hd]
theorem fitsW_step {bs : List Int} (hz : ∀ z ∈ bs, 0 ≤ z ∧ z < 256) : fitsW bs = match fitW bs with
    | none => []
    | some f => f :: fitsW (bs.drop f.n) := by
  cases hf : fitW bs with
  | none =>
    unfold fitsW
    cases bs.length <;> simp only [fitsN, hf]
  | some f =>
    obtain ⟨l1, l2⟩ := fitW_len hz hf
    obtain ⟨u, q⟩ : ∃ u, bs.length = u + 1 := ⟨bs.length - 1, by omega⟩
    have hz' : ∀ z ∈ bs.drop f.n, 0 ≤ z ∧ z < 256 := fun z hh => hz z (List.mem_of_mem_drop hh)
    unfold fitsW
    rw [q]
    simp only [fitsN, hf]
    rw [fitsN_more hz' u (by rw [List.length_drop]; omega)]
theorem fitsW_len {bs : List Int} (hz : ∀ z ∈ bs, 0 ≤ z ∧ z < 256) : (fitsW bs).length ≤ bs.length := by
  generalize hn : bs.length = n
  induction n using Nat.strongRecOn generalizing bs with
  | _ n ih =>
    rw [fitsW_step hz]
    cases hf : fitW bs with
    | none => simp
    | some f =>
      obtain ⟨l1, l2⟩ := fitW_len hz hf
      have := ih (bs.length - f.n) (by omega) (bs := bs.drop f.n) (fun z hh => hz z (List.mem_of_mem_drop hh)) (by rw [List.length_drop])
      simp only [List.length_cons]
      omega
/-- an area's frames are those that fit, up to the first that is neither a record nor a turn -/
theorem framesW_fits {bs : List Int} (hz : ∀ z ∈ bs, 0 ≤ z ∧ z < 256) : framesW bs = (fitsW bs).takeWhile Fr.good := by
  generalize hn : bs.length = n
  induction n using Nat.strongRecOn generalizing bs with
  | _ n ih =>
    rw [fitsW_step hz, framesW_step hz, firstW_fit hz]
    cases hf : fitW bs with
    | none => simp
    | some f =>
      obtain ⟨l1, l2⟩ := fitW_len hz hf
      cases hg : f.good with
      | false => simp [hg]
      | true =>
        have hi := ih (bs.length - f.n) (by omega) (bs := bs.drop f.n) (fun z hh => hz z (List.mem_of_mem_drop hh)) (by rw [List.length_drop])
        simp [hg, hi]
end Go.Proofs.Ytfkchnjbbbhmjab.Ty
