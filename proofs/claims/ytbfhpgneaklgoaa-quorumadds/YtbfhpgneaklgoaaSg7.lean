/- a row made with room, filled with signs; what lies behind them -/
import Derived.Test.YtbfhpgneaklgoaaSg6
import Derived.Test.YtbfhpgneaklgoaaNth
import Derived.Deep.QuietTactic
import Derived.BigQuiet
namespace Go.Proofs.Ytbfhpgneaklgoaa
open Go.RowKit Go.Shelf
attribute [local go_sem] Oper.semAt_some
section
variable {P : Program} {ops : Array Oper} {rest : List Oper} {o : Oper} {a : Act} {w : World} {Q : Exit → Act → World → Prop}
theorem wpList_make_at (hg : o.guard = none) (l c : Operand) (t : TypeId) (hop : o.op = Op.makeSlice t l c)
    (e : TypeId) (i : TypeInfo) (z : Value) (size : Nat) (h1 : P.underlying t = some (.slice e)) (h2 : P.info? e = some i) (h3 : i.zero = some z) (h4 : i.size = size)
    (kl kc : IntKind) (C : Int) (n : Nat) (hl : a.eval l = .int kl 0) (hc : a.eval c = .int kc C) (hC : C = (n : Int)) (b2 : i.bytes * n ≤ 281474976710656) (b3 : n ≤ maxLen) (zc : Array Value) (hzc : z.cells = zc)
    (hK : wpList P ops Q rest (a.put o.dst (.slice (some ⟨w.heap.size, 0, none⟩) 0 n)) (w.alloc (.cells (madeCells zc (n * size)) e))) :
    wpList P ops Q (o :: rest) a w := by
  refine wpList_plain hg fun K hK' => ?_
  subst hC
  subst h4
  subst hzc
  have h63' : (n : Int) ≤ 9223372036854775807 := by
    have h := b3
    simp [maxLen] at h
    omega
  have hb' : (i.bytes : Int) * (n : Int) ≤ 281474976710656 := by
    have h : ((i.bytes * n : Nat) : Int) ≤ 281474976710656 := by omega
    rwa [Int.natCast_mul] at h
  have hr := run_make (P := P) w t e i z h1 h2 h3 kl kc 0 n (Int.le_refl _) (by omega) hb' h63'
  simp only [Int.toNat_zero, Int.toNat_natCast] at hr
  unfold Oper.wp
  simp [execOp, hop, hl, hc, hr, Result.andThen]
  exact hK' _ _ hK
theorem wpList_append_at (hgd : o.guard = none) (s x : Operand) (t tx : TypeId)
    (ho : o.op = .call { callee := .builtin .append, args := #[s, x], argTypes := #[t, tx] })
    (e : TypeId) (i : TypeInfo) (size : Nat) (ht : P.underlying t = some (.slice e)) (hi : P.info? e = some i) (hsize : i.size = size)
    (b cap : Nat) (hv : a.eval s = .slice (some ⟨b, 0, none⟩) 0 cap)
    (xv : Value) (m : Nat) (news : List Value) (hx : a.eval x = xv) (hs : Src P size tx xv m news w) (hroom : m ≤ cap)
    (hth : w.there b 0 news.length)
    (h : wpList P ops Q rest (a.put o.dst (.slice (some ⟨b, 0, none⟩) m cap)) (w.setCells b 0 news)) : wpList P ops Q (o :: rest) a w := by
  refine wpList_plain hgd fun K hK => ?_
  subst hsize
  have hr := run_append_room_src (P := P) w t tx o.type e i ht hi b 0 0 cap xv m news hs (by omega) (fun j hj => ?c1) (fun j hj => ?c2)
  case c1 => simpa using (hth j hj).1
  case c2 => simpa using (hth j hj).2
  simp only [Nat.zero_mul, Nat.zero_add] at hr
  unfold Oper.wp execOp
  simp only [ho, resolve, invoke, builtin, Sem.run_bind, Sem.run_pure, Result.andThen_ok, List.map_toArray, List.map_cons, List.map_nil, hv, hx, hr]
  exact hK _ _ h
theorem wpList_load_mid_g (hw : Region.wanted o (yielded ops a.tmps) = true) (ty : TypeId) (x : Operand) (ho : o.op = .load ty x)
    (b off : Nat) (hx : a.eval x = .pointer (some ⟨b, off, none⟩)) (cs : List Value) (d : TypeDesc) (hc : w.rangeAt b off cs)
    (hu : P.underlying ty = some d) (hd : d.isRow = true) (hi : (P.info? ty).map (·.size) = some cs.length)
    (h : wpList P ops Q rest (a.put o.dst (.agg cs.toArray)) w) : wpList P ops Q (o :: rest) a w := by
  refine wpList_step fun K hK => ?_
  rw [if_pos hw]
  unfold Oper.wp execOp
  simp only [ho, hx, Instr.loadAt, Instr.sureAddr, Sem.run_bind, Sem.run_pure, Result.andThen_ok, run_loadVar_mid w b off ty cs d hc hu hd hi]
  exact hK _ _ h
end
def zS : Sg := ⟨0, List.replicate 16 0⟩
theorem zS_ok : zS.ok := ⟨by decide, by decide, by decide, by decide⟩
theorem zS_cells : zS.cells = (#[.int .i64 0, .int .u8 0, .int .u8 0, .int .u8 0, .int .u8 0, .int .u8 0, .int .u8 0, .int .u8 0, .int .u8 0, .int .u8 0, .int .u8 0, .int .u8 0, .int .u8 0, .int .u8 0, .int .u8 0, .int .u8 0, .int .u8 0] : Array Value).toList := rfl
theorem made_at (n k j : Nat) (hk : k < n) (hj : j < 17) : (madeCells #[.int .i64 0, .int .u8 0, .int .u8 0, .int .u8 0, .int .u8 0, .int .u8 0, .int .u8 0, .int .u8 0, .int .u8 0, .int .u8 0, .int .u8 0, .int .u8 0, .int .u8 0, .int .u8 0, .int .u8 0, .int .u8 0, .int .u8 0] (n * 17))[k * 17 + j]? = (#[.int .i64 0, .int .u8 0, .int .u8 0, .int .u8 0, .int .u8 0, .int .u8 0, .int .u8 0, .int .u8 0, .int .u8 0, .int .u8 0, .int .u8 0, .int .u8 0, .int .u8 0, .int .u8 0, .int .u8 0, .int .u8 0, .int .u8 0] : Array Value)[j]? := by
  have hlt : k * 17 + j < n * 17 := by omega
  unfold madeCells
  rw [Array.getElem?_map, Array.getElem?_eq_getElem (by rw [Array.size_range]; exact hlt), Array.getElem_range]
  have e : (k * 17 + j) % (#[.int .i64 0, .int .u8 0, .int .u8 0, .int .u8 0, .int .u8 0, .int .u8 0, .int .u8 0, .int .u8 0, .int .u8 0, .int .u8 0, .int .u8 0, .int .u8 0, .int .u8 0, .int .u8 0, .int .u8 0, .int .u8 0, .int .u8 0] : Array Value).size = j := by
    show (k * 17 + j) % 17 = j
    omega
  rw [Option.map_some, e, getElem!_pos _ j (by show j < 17; exact hj), Array.getElem?_eq_getElem]
theorem room_row (w : World) (rs : List Sg) (hall : ∀ r ∈ rs, r.ok) :
    ((w.alloc (.cells (madeCells #[.int .i64 0, .int .u8 0, .int .u8 0, .int .u8 0, .int .u8 0, .int .u8 0, .int .u8 0, .int .u8 0, .int .u8 0, .int .u8 0, .int .u8 0, .int .u8 0, .int .u8 0, .int .u8 0, .int .u8 0, .int .u8 0, .int .u8 0] ((rs.length + 5) * 17)) 29)).setCells w.heap.size 0 (flatS rs)).rangeAt w.heap.size 0 (flatS rs) ∧
    ((w.alloc (.cells (madeCells #[.int .i64 0, .int .u8 0, .int .u8 0, .int .u8 0, .int .u8 0, .int .u8 0, .int .u8 0, .int .u8 0, .int .u8 0, .int .u8 0, .int .u8 0, .int .u8 0, .int .u8 0, .int .u8 0, .int .u8 0, .int .u8 0, .int .u8 0] ((rs.length + 5) * 17)) 29)).setCells w.heap.size 0 (flatS rs)).rangeAt w.heap.size (rs.length * 17) zS.cells ∧
    Below w.heap.size w ((w.alloc (.cells (madeCells #[.int .i64 0, .int .u8 0, .int .u8 0, .int .u8 0, .int .u8 0, .int .u8 0, .int .u8 0, .int .u8 0, .int .u8 0, .int .u8 0, .int .u8 0, .int .u8 0, .int .u8 0, .int .u8 0, .int .u8 0, .int .u8 0, .int .u8 0] ((rs.length + 5) * 17)) 29)).setCells w.heap.size 0 (flatS rs)) ∧
    ((w.alloc (.cells (madeCells #[.int .i64 0, .int .u8 0, .int .u8 0, .int .u8 0, .int .u8 0, .int .u8 0, .int .u8 0, .int .u8 0, .int .u8 0, .int .u8 0, .int .u8 0, .int .u8 0, .int .u8 0, .int .u8 0, .int .u8 0, .int .u8 0, .int .u8 0] ((rs.length + 5) * 17)) 29)).setCells w.heap.size 0 (flatS rs)).heap.size = w.heap.size + 1 ∧
    (w.alloc (.cells (madeCells #[.int .i64 0, .int .u8 0, .int .u8 0, .int .u8 0, .int .u8 0, .int .u8 0, .int .u8 0, .int .u8 0, .int .u8 0, .int .u8 0, .int .u8 0, .int .u8 0, .int .u8 0, .int .u8 0, .int .u8 0, .int .u8 0, .int .u8 0] ((rs.length + 5) * 17)) 29)).there w.heap.size 0 (flatS rs).length := by
  have hfl := flatS_length hall
  have hth : (w.alloc (.cells (madeCells #[.int .i64 0, .int .u8 0, .int .u8 0, .int .u8 0, .int .u8 0, .int .u8 0, .int .u8 0, .int .u8 0, .int .u8 0, .int .u8 0, .int .u8 0, .int .u8 0, .int .u8 0, .int .u8 0, .int .u8 0, .int .u8 0, .int .u8 0] ((rs.length + 5) * 17)) 29)).there w.heap.size 0 (flatS rs).length := by
    have := there_new w (madeCells #[.int .i64 0, .int .u8 0, .int .u8 0, .int .u8 0, .int .u8 0, .int .u8 0, .int .u8 0, .int .u8 0, .int .u8 0, .int .u8 0, .int .u8 0, .int .u8 0, .int .u8 0, .int .u8 0, .int .u8 0, .int .u8 0, .int .u8 0] ((rs.length + 5) * 17)) 29
    intro j hj
    exact this j (by rw [size_madeCells]; omega)
  refine ⟨World.rangeAt_setCells_same _ _ _ _ hth, ?_, below_sets (Nat.le_refl _) _ _ _ ((Below.refl _ _).alloc (Nat.le_refl _) _), by rw [size_sets]; simp, hth⟩
  intro j v hv
  rw [World.cell?_setCells_out _ _ _ _ _ (fun _ _ => .inr (by show 0 + _ ≤ rs.length * 17 + j; omega))]
  have hj : j < 17 := by
    have := (List.getElem?_eq_some_iff.1 hv).1
    simpa [zS_ok.length] using this
  rw [zS_cells, Array.getElem?_toList, ← made_at (rs.length + 5) rs.length j (by omega) hj] at hv
  unfold World.cell?
  rw [World.alloc_heap_new]
  exact hv
theorem nodes_shape {W : World} {n₀ : Nat} {v : Value} {rs : List Sg} (h : W.ownsRow n₀ 3 1 v rs.length (nodesOf rs)) :
    ∃ g c, v = .slice g rs.length c ∧ (rs = [] ∨ ∃ b, g = some ⟨b, 0, none⟩ ∧ b < W.heap.size ∧ ∀ k (hk : k < rs.length), W.cell? ⟨b, k, none⟩ = some (.int .i64 rs[k].n)) := by
  rcases h.2 with ⟨rfl, h0⟩ | ⟨g, c, cur, rfl, _, hgb, hnc, _, hcs, ht⟩
  · refine ⟨none, 0, by rw [h0], .inl (List.eq_nil_of_length_eq_zero h0)⟩
  · refine ⟨_, _, rfl, .inr ⟨g, rfl, (Array.getElem?_eq_some_iff.1 hgb).1, fun k hk => ?_⟩⟩
    have e := congrArg (fun l => l[k]?) ht
    simp only [nodesOf, List.getElem?_map, List.getElem?_eq_getElem hk, Option.map_some, Nat.mul_one] at e
    rw [List.getElem?_take_of_lt hk, Array.getElem?_toList] at e
    unfold World.cell?
    rw [hgb]
    exact e
end Go.Proofs.Ytbfhpgneaklgoaa
