/- signs, marks, what is kept of a node: their cells, compared -/
import Derived.Test.YtfaagiilldkdgaaP0
import Derived.Test.YtfaagiilldkdgaaHeld
import Derived.Test.YtfaagiilldkdgaaFork
import Derived.Test.YtfaagiilldkdgaaPL
import Derived.Test.YtfaagiilldkdgaaQArgs
import Derived.Laws.StructEq
import Derived.Deep.Cut
import Derived.Lib.ItoaWalk
import Derived.Laws.EntriesVeiled
namespace Go.Proofs.Ytfaagiilldkdgaa
open Go.RowKit
theorem hide {p : Prop} (h : p) : Hid p := h
def I64 (z : Int) : Prop := -9223372036854775808 ≤ z ∧ z ≤ 9223372036854775807
def B8 (zs : List Int) : Prop := ∀ z ∈ zs, 0 ≤ z ∧ z < 256
structure Sg where
  n : Int
  t : List Int
deriving DecidableEq, Inhabited
structure Sg.ok (r : Sg) : Prop where
  tl : r.t.length = 16
  tb : B8 r.t
  n : I64 r.n
def Sg.cells (r : Sg) : List Value := .int .i64 r.n :: v8 r.t
theorem Sg.ok.length {r : Sg} (h : r.ok) : r.cells.length = 17 := by
  have := h.tl
  simp [Sg.cells, v8]
  omega
theorem Sg.one (r : Sg) : ∀ v ∈ r.cells, v.oneCell' = true := by
  intro v hv
  rcases List.mem_cons.1 hv with rfl | hv
  · rfl
  · exact v8_one r.t v hv
theorem Sg.tag {w : World} {b i : Nat} {x : Sg} (h : w.rangeAt b i x.cells) : w.rangeAt b (i + 1) (v8 x.t) := fun j u hu => by
  have := h (1 + j) u (by rw [Nat.add_comm]; exact hu)
  rwa [← Nat.add_assoc] at this
/-- arrays and structs compared -/
theorem all_range : ∀ (xs ys : List Int), xs.length = ys.length → ((List.range xs.length).all fun i => xs.getD i 0 == ys.getD i 0) = (xs == ys)
  | [], [], _ => rfl
  | x :: xs, y :: ys, h => by
    have ih := all_range xs ys (by simpa using h)
    rw [List.length_cons, List.range_succ_eq_map, List.all_cons, List.all_map]
    simp only [List.getD_cons_zero, Function.comp_def, List.getD_cons_succ, ih]
    simp [List.cons_beq_cons]
  | [], _ :: _, h => by simp at h
  | _ :: _, [], h => by simp at h
theorem run_equal8 {P : Program} (w : World) (d : Nat) (t e : TypeId) (n : Nat) (ht : P.underlying t = some (.array n e)) (he : P.underlying e = some (.int .u8)) (hsz : (P.info? e).map (·.size) = some 1)
    (xs ys : List Int) (hx : xs.length = n) (hy : ys.length = n) :
    (Op.equalIn (d + 2) t (.agg (v8 xs).toArray) (.agg (v8 ys).toArray)).run P w = .ok (xs == ys) w := by
  rw [← all_range xs ys (hx.trans hy.symm), hx, List.range_eq_range', Op.equalIn]
  simp only [Sem.run_bind, run_underlying ht, Result.andThen_ok, run_size hsz, Std.Legacy.Range.forIn_eq_forIn_range', Std.Legacy.Range.size, Nat.sub_zero, Nat.add_sub_cancel, Nat.div_one]
  have hl : ∀ i ∈ List.range' 0 n 1, i < n := fun i hi => by simpa using (List.mem_range'_1.1 hi).2
  generalize List.range' 0 n 1 = l at hl ⊢
  induction l with
  | nil => simp
  | cons i l ih =>
    have hi : i < n := hl i (by simp)
    have px : (part e (v8 xs).toArray (i * 1)).run P w = .ok (.int .u8 (xs.getD i 0)) w := by
      simp [part, isAgg, run_underlying he, v8, List.getElem?_eq_getElem (show i < xs.length by omega)]
    have py : (part e (v8 ys).toArray (i * 1)).run P w = .ok (.int .u8 (ys.getD i 0)) w := by
      simp [part, isAgg, run_underlying he, v8, List.getElem?_eq_getElem (show i < ys.length by omega)]
    have pe : (Op.equalIn (d + 1) e (.int .u8 (xs.getD i 0)) (.int .u8 (ys.getD i 0))).run P w = .ok (xs.getD i 0 == ys.getD i 0) w := run_equalIn_int w d e .u8 .u8 _ _ he
    simp only [List.forIn_cons, Sem.run_bind, px, py, pe, Result.andThen_ok, List.all_cons]
    cases hb : (xs.getD i 0 == ys.getD i 0)
    · simp
    · simp only [Bool.not_true, Bool.false_eq_true, if_false, Sem.run_pure, Result.andThen_ok, Bool.true_and]
      exact ih fun j hj => hl j (by simp [hj])
theorem iszD : (Try.prog.info? 29).map (·.size) = some 32 := by kernel_rfl
theorem iszT : (Try.prog.info? 31).map (·.size) = some 16 := by kernel_rfl
theorem fldS : (Try.prog.fieldsOf 57).toList.map (fun f => (f.name, f.type, f.offset)) = [("Node", 3, 0), ("Tag", 31, 1)] := by kernel_rfl
theorem undS : Try.prog.underlying 57 = some (.struct (Try.prog.fieldsOf 57)) := by kernel_rfl
theorem sihS : Try.prog.stoodInHeld 57 = false := by kernel_rfl
theorem part_intV (w : World) (q : List Value) (i : Nat) (c : Int) (h : q[i]? = some (.int .i64 c)) : (part 3 q.toArray i).run Try.prog w = .ok (.int .i64 c) w := by
  simp [part, isAgg, run_underlying Try.underlying3, h]
theorem part_tagS (w : World) (x : Sg) (hd : x.t.length = 16) : (part 31 x.cells.toArray 1).run Try.prog w = .ok (.agg (v8 x.t).toArray) w := by
  have hx : List.take 16 x.cells.tail = v8 x.t := by
    show List.take 16 (v8 x.t) = v8 x.t
    rw [List.take_of_length_le (by rw [v8_length, hd]; exact Nat.le_refl _)]
  simp [part, isAgg, run_underlying Try.underlying31, run_size iszT, hx]
theorem eqT (x y : List Int) (hx : x.length = 16) (hy : y.length = 16) (w : World) : (binOp .eql 31 (.agg (v8 x).toArray) (.agg (v8 y).toArray)).run Try.prog w = .ok (.bool (x == y)) w := by
  rw [run_eql_struct, run_equal8 w 9998 31 5 16 Try.underlying31 Try.underlying5 isz8 x y hx hy]; rfl
theorem neqT (x y : List Int) (hx : x.length = 16) (hy : y.length = 16) (w : World) : (binOp .neq 31 (.agg (v8 x).toArray) (.agg (v8 y).toArray)).run Try.prog w = .ok (.bool (!(x == y))) w := by
  rw [run_neq_struct, run_equal8 w 9998 31 5 16 Try.underlying31 Try.underlying5 isz8 x y hx hy]; rfl
theorem neqD (x y : List Int) (hx : x.length = 32) (hy : y.length = 32) (w : World) : (binOp .neq 29 (.agg (v8 x).toArray) (.agg (v8 y).toArray)).run Try.prog w = .ok (.bool (!(x == y))) w := by
  rw [run_neq_struct, run_equal8 w 9998 29 5 32 Try.underlying29 Try.underlying5 isz8 x y hx hy]; rfl
theorem sgEqIn (x y : Sg) (hx : x.t.length = 16) (hy : y.t.length = 16) (d : Nat) (w : World) :
    (Op.equalIn (d + 2 + 1) 57 (.agg x.cells.toArray) (.agg y.cells.toArray)).run Try.prog w = .ok ((x.n == y.n) && (x.t == y.t)) w := by
  rw [run_equalIn_struct w (d + 2) 57 _ _ undS sihS]
  have hf := fldS
  generalize (Try.prog.fieldsOf 57).toList = fs at hf
  obtain ⟨f0, f1, rfl⟩ : ∃ f0 f1, fs = [f0, f1] := by
    rcases fs with _ | ⟨f0, _ | ⟨f1, _ | ⟨f2, fs⟩⟩⟩ <;> simp at hf
    exact ⟨f0, f1, rfl⟩
  simp only [List.map_cons, List.map_nil, List.cons.injEq, Prod.mk.injEq, and_true] at hf
  obtain ⟨⟨a0, b0, d0⟩, ⟨a1, b1, d1⟩⟩ := hf
  have p0 := part_intV w x.cells 0 x.n rfl
  have q0 := part_intV w y.cells 0 y.n rfl
  have p4 := part_tagS w x hx
  have q4 := part_tagS w y hy
  have e0 := fun a b => run_equalIn_int (P := Try.prog) w (d + 1) 3 .i64 .i64 a b Try.underlying3
  have e4 := run_equal8 (P := Try.prog) w d 31 5 16 Try.underlying31 Try.underlying5 isz8 x.t y.t hx hy
  generalize x.cells.toArray = q at *
  generalize y.cells.toArray = q' at *
  obtain ⟨T, hT⟩ : ∃ T, (v8 x.t).toArray = T := ⟨_, rfl⟩
  obtain ⟨T', hT'⟩ : ∃ T, (v8 y.t).toArray = T := ⟨_, rfl⟩
  rw [hT] at p4 e4
  rw [hT'] at q4 e4
  clear hT hT'
  obtain ⟨D, hD⟩ : ∃ D, d + 1 + 1 = D := ⟨_, rfl⟩
  have e4 : (Op.equalIn (d + 1 + 1) 31 (.agg T) (.agg T')).run Try.prog w = .ok (x.t == y.t) w := e4
  rw [hD] at e4
  have n0 : ¬ ("Node" = "_") := by decide
  have n1 : ¬ ("Tag" = "_") := by decide
  simp only [Op.eqFields, a0, a1, b0, b1, d0, d1, ne_eq, n0, n1, not_false_eq_true, if_true]
  rw [show d + 2 = d + 1 + 1 from rfl, hD]
  rw [hD] at e0
  clear hD
  simp only [Sem.run_bind, p0, q0, Result.andThen_ok, e0]
  cases (x.n == y.n)
  · simp only [Bool.not_false, if_true, Sem.run_pure, Bool.false_and]
  · simp only [Bool.not_true, Bool.false_eq_true, if_false, Sem.run_bind, p4, q4, Result.andThen_ok, e4, Bool.true_and]
    cases (x.t == y.t)
    · simp only [Bool.not_false, if_true, Sem.run_pure]
    · simp only [Bool.not_true, Bool.false_eq_true, if_false, Sem.run_pure]
theorem eqS (x y : Sg) (hx : x.ok) (hy : y.ok) (w : World) : (binOp .eql 57 (.agg x.cells.toArray) (.agg y.cells.toArray)).run Try.prog w = .ok (.bool ((x.n == y.n) && (x.t == y.t))) w := by
  rw [run_eql_struct, sgEqIn x y hx.tl hy.tl 9997 w]; rfl
theorem neqS (x y : Sg) (hx : x.ok) (hy : y.ok) (w : World) : (binOp .neq 57 (.agg x.cells.toArray) (.agg y.cells.toArray)).run Try.prog w = .ok (.bool (!((x.n == y.n) && (x.t == y.t)))) w := by
  rw [run_neq_struct, sgEqIn x y hx.tl hy.tl 9997 w]; rfl
theorem eqD (x y : List Int) (hx : x.length = 32) (hy : y.length = 32) (w : World) : (binOp .eql 29 (.agg (v8 x).toArray) (.agg (v8 y).toArray)).run Try.prog w = .ok (.bool (x == y)) w := by
  rw [run_eql_struct, run_equal8 w 9998 29 5 32 Try.underlying29 Try.underlying5 isz8 x y hx hy]; rfl
/-- what is kept of a node: its mark's epoch, digest, tag -/
structure Mk where
  e : Int
  d : List Int
  t : List Int
deriving DecidableEq, Inhabited
structure Mk.ok (x : Mk) : Prop where
  e : I64 x.e
  dl : x.d.length = 32
  db : B8 x.d
  tl : x.t.length = 16
  tb : B8 x.t
def mkC (e : Int) (d : List Int) : List Value := .int .i64 e :: v8 d
def Mk.mark (x : Mk) : List Value := mkC x.e x.d
def Mk.cells (x : Mk) : List Value := mkC x.e x.d ++ v8 x.t
theorem mkC_len (e : Int) {d : List Int} (h : d.length = 32) : (mkC e d).length = 33 := by simp [mkC, h]
theorem mkC_one (e : Int) (d : List Int) : ∀ v ∈ mkC e d, v.oneCell' = true := by
  intro v hv
  rcases List.mem_cons.1 hv with rfl | hv
  · rfl
  · exact v8_one d v hv
theorem Mk.ok.len {x : Mk} (h : x.ok) : x.cells.length = 49 := by rw [Mk.cells, List.length_append, mkC_len x.e h.dl, v8_length, h.tl]
theorem Mk.one (x : Mk) : ∀ v ∈ x.cells, v.oneCell' = true := by
  intro v hv
  rcases List.mem_append.1 hv with hv | hv
  · exact mkC_one _ _ v hv
  · exact v8_one _ v hv
def mk0 : Mk := ⟨0, List.replicate 32 0, List.replicate 16 0⟩
theorem mk0_ok : mk0.ok := ⟨by unfold I64 mk0; decide, by decide, by unfold B8 mk0; decide, by decide, by unfold B8 mk0; decide⟩
theorem fldM : (Try.prog.fieldsOf 59).toList.map (fun f => (f.name, f.type, f.offset)) = [("epoch", 3, 0), ("digest", 29, 1)] := by kernel_rfl
theorem undM : Try.prog.underlying 59 = some (.struct (Try.prog.fieldsOf 59)) := by kernel_rfl
theorem sihM : Try.prog.stoodInHeld 59 = false := by kernel_rfl
theorem iszM : (Try.prog.info? 59).map (·.size) = some 33 := by kernel_rfl
theorem iszS : (Try.prog.info? 61).map (·.size) = some 49 := by kernel_rfl
theorem iszG : (Try.prog.info? 57).map (·.size) = some 17 := by kernel_rfl
theorem part_digM (w : World) (e : Int) (d : List Int) (hd : d.length = 32) : (part 29 (mkC e d).toArray 1).run Try.prog w = .ok (.agg (v8 d).toArray) w := by
  have hx : List.take 32 (mkC e d).tail = v8 d := by
    show List.take 32 (v8 d) = v8 d
    rw [List.take_of_length_le (by rw [v8_length, hd]; exact Nat.le_refl _)]
  simp [part, isAgg, run_underlying Try.underlying29, run_size iszD, hx]
theorem mkEqIn (a b : Int) (x y : List Int) (hx : x.length = 32) (hy : y.length = 32) (d : Nat) (w : World) :
    (Op.equalIn (d + 2 + 1) 59 (.agg (mkC a x).toArray) (.agg (mkC b y).toArray)).run Try.prog w = .ok ((a == b) && (x == y)) w := by
  rw [run_equalIn_struct w (d + 2) 59 _ _ undM sihM]
  have hf := fldM
  generalize (Try.prog.fieldsOf 59).toList = fs at hf
  obtain ⟨f0, f1, rfl⟩ : ∃ f0 f1, fs = [f0, f1] := by
    rcases fs with _ | ⟨f0, _ | ⟨f1, _ | ⟨f2, fs⟩⟩⟩ <;> simp at hf
    exact ⟨f0, f1, rfl⟩
  simp only [List.map_cons, List.map_nil, List.cons.injEq, Prod.mk.injEq, and_true] at hf
  obtain ⟨⟨a0, b0, d0⟩, ⟨a1, b1, d1⟩⟩ := hf
  have p0 := part_intV w (mkC a x) 0 a rfl
  have q0 := part_intV w (mkC b y) 0 b rfl
  have p4 := part_digM w a x hx
  have q4 := part_digM w b y hy
  have e0 := fun u v => run_equalIn_int (P := Try.prog) w (d + 1) 3 .i64 .i64 u v Try.underlying3
  have e4 := run_equal8 (P := Try.prog) w d 29 5 32 Try.underlying29 Try.underlying5 isz8 x y hx hy
  generalize (mkC a x).toArray = q at *
  generalize (mkC b y).toArray = q' at *
  obtain ⟨T, hT⟩ : ∃ T, (v8 x).toArray = T := ⟨_, rfl⟩
  obtain ⟨T', hT'⟩ : ∃ T, (v8 y).toArray = T := ⟨_, rfl⟩
  rw [hT] at p4 e4
  rw [hT'] at q4 e4
  clear hT hT'
  obtain ⟨D, hD⟩ : ∃ D, d + 1 + 1 = D := ⟨_, rfl⟩
  have e4 : (Op.equalIn (d + 1 + 1) 29 (.agg T) (.agg T')).run Try.prog w = .ok (x == y) w := e4
  rw [hD] at e4
  have n0 : ¬ ("epoch" = "_") := by decide
  have n1 : ¬ ("digest" = "_") := by decide
  simp only [Op.eqFields, a0, a1, b0, b1, d0, d1, ne_eq, n0, n1, not_false_eq_true, if_true]
  rw [show d + 2 = d + 1 + 1 from rfl, hD]
  rw [hD] at e0
  clear hD
  simp only [Sem.run_bind, p0, q0, Result.andThen_ok, e0]
  cases (a == b)
  · simp only [Bool.not_false, if_true, Sem.run_pure, Bool.false_and]
  · simp only [Bool.not_true, Bool.false_eq_true, if_false, Sem.run_bind, p4, q4, Result.andThen_ok, e4, Bool.true_and]
    cases (x == y)
    · simp only [Bool.not_false, if_true, Sem.run_pure]
    · simp only [Bool.not_true, Bool.false_eq_true, if_false, Sem.run_pure]
theorem eqM (a b : Int) (x y : List Int) (hx : x.length = 32) (hy : y.length = 32) (w : World) : (binOp .eql 59 (.agg (mkC a x).toArray) (.agg (mkC b y).toArray)).run Try.prog w = .ok (.bool ((a == b) && (x == y))) w := by
  rw [run_eql_struct, mkEqIn a b x y hx hy 9997 w]; rfl
theorem there_newN (w : World) (arr : Array Value) (t : TypeId) {n : Nat} (h : arr.size = n) : (w.alloc (.cells arr t)).there w.heap.size 0 n := h ▸ there_new w arr t
theorem all_one {cs : List Value} (h : ∀ v ∈ cs, v.oneCell' = true) : cs.toArray.all (·.oneCell') = true := by
  rw [Array.all_eq_true_iff_forall_mem]
  intro v hv
  exact h v (by simpa using hv)
theorem exec_load {P : Program} {o : Oper} {a : Act} {w : World} {ty : TypeId} {x : Operand} {b off : Nat} {v : Value} (ho : o.op = .load ty x) (hx : a.eval x = .pointer (some ⟨b, off, none⟩)) (hr : (loadVar ty ⟨b, off, none⟩).run P w = .ok v w) : (execOp a.eval o).run P w = .ok (.value v) w := by
  unfold execOp
  simp only [ho, hx, Instr.loadAt, Instr.sureAddr, Sem.run_bind, Sem.run_pure, Result.andThen_ok, hr]
theorem exec_store {P : Program} {o : Oper} {a : Act} {w w' : World} {ty : TypeId} {x y : Operand} {b off : Nat} {v : Value} (ho : o.op = .store ty x y) (hx : a.eval x = .pointer (some ⟨b, off, none⟩)) (hy : a.eval y = v) (hr : (storeVar ty ⟨b, off, none⟩ v).run P w = .ok () w') : (execOp a.eval o).run P w = .ok .skip w' := by
  unfold execOp
  simp only [ho, hx, hy, Instr.storeAt, Instr.sureAddr, Sem.run_bind, Sem.run_pure, Result.andThen_ok, hr]
theorem ret_tuple {a b : Value} (h : a = b) : Ending.returned a = .returned b := by rw [h]
theorem wpList_load_g {P : Program} {ops : Array Oper} {rest : List Oper} {op : Oper} {a : Act} {w : World} {Q : Exit → Act → World → Prop} (hgd : Region.wanted op (yielded ops a.tmps) = true) (ty : TypeId) (x : Operand) (ho : op.op = .load ty x)
    (b o : Nat) (hx : a.eval x = .pointer (some ⟨b, o, none⟩)) (cs : List Value) (d : TypeDesc) (hc : w.rangeAt b o cs)
    (hu : P.underlying ty = some d) (hd : d.isRow = true) (hi : (P.info? ty).map (·.size) = some cs.length)
    (h : wpList P ops Q rest (a.put op.dst (.agg cs.toArray)) w) : wpList P ops Q (op :: rest) a w :=
  wpList_step fun _ hK => by rw [if_pos hgd]; exact wp_load_mid ty x ho b o hx cs d hc hu hd hi (hK _ _ h)
theorem fold_at (off : Nat) : ∀ (u : List Value) (k : Nat) (arr : Array Value), off + k + u.length ≤ arr.size → List.foldl (fun (cs : Array Value) (x : Value × Nat) => cs.setIfInBounds (off + x.snd) x.fst) arr (u.zipIdx k) = (arr.toList.take (off + k) ++ (u ++ arr.toList.drop (off + k + u.length))).toArray
  | [], k, arr, h => by simp
  | a :: u, k, arr, h => by
    simp only [List.length_cons] at h
    rw [List.zipIdx_cons, List.foldl_cons, fold_at off u (k + 1) _ (by simp; omega)]
    congr 1
    have hlt : off + k < arr.toList.length := by simp; omega
    rw [Array.toList_setIfInBounds]
    simp only [List.length_cons]
    rw [List.drop_set_of_lt (by omega), show off + (k + 1) + u.length = off + k + (u.length + 1) by omega, show off + (k + 1) = off + k + 1 by omega, List.take_succ_eq_append_getElem (by simpa using hlt), List.getElem_set_self, List.take_set_of_le (Nat.le_refl _)]
    simp
theorem fill_step {place : Nat → Option (Nat × Nat)} {i off n : Nat} {v : Value} {rest : List (Nat × Value)} {vs pre mid post : List Value} (hp : place i = some (off, n)) (hn : mid.length = n) (hpre : pre.length = off) (hv : v.cells = vs.toArray) (hl : vs.length = n) :
    Instr.fill place (pre ++ (mid ++ post)).toArray ((i, v) :: rest) = Instr.fill place (pre ++ (vs ++ post)).toArray rest := by
  subst hn hpre
  rw [Instr.fill, hp]
  simp only [hv, List.size_toArray, hl, ne_eq, not_true_eq_false, decide_false, Bool.false_or, List.length_append]
  rw [if_neg (by simp)]
  congr 1
  have := fold_at pre.length vs 0 (pre ++ (mid ++ post)).toArray (by simp; omega)
  simp only [Nat.add_zero] at this
  rw [show (vs.toArray.zipIdx.foldl (fun cs (x : Value × Nat) => cs.setIfInBounds (pre.length + x.2) x.1) (pre ++ (mid ++ post)).toArray) = List.foldl (fun (cs : Array Value) (x : Value × Nat) => cs.setIfInBounds (pre.length + x.snd) x.fst) (pre ++ (mid ++ post)).toArray (vs.zipIdx 0) by simp, this]
  congr 1
  rw [List.take_left, hl, ← List.append_assoc pre mid post, ← List.length_append, List.drop_left]
theorem build_fill {P : Program} {t : TypeId} {zs : List Value} {pl : Array (Nat × Nat)} {w : World} (hz : (zeroValue t).run P w = .ok (.agg zs.toArray) w) (hu : P.underlying t = some (.struct (P.fieldsOf t)))
    (hp : (((P.fieldsOf t).mapM fun f => do pure (f.offset, ← sizeOf f.type) : Sem (Array (Nat × Nat)))).run P w = .ok pl w) (parts : Array (Nat × Value)) (cs : List Value) (h : Instr.fill (pl[·]?) zs.toArray parts.toList = some cs.toArray) : (Instr.build t parts).run P w = .ok (.agg cs.toArray) w := by
  unfold Instr.build
  simp only [Sem.run_bind, hz, Result.andThen_ok, run_underlying hu]
  rw [hp]
  simp only [Result.andThen_ok, Value.cells]
  rw [h]
  rfl
theorem fill_two {pl : Array (Nat × Nat)} {n m : Nat} {z1 z2 c1 c2 : List Value} {v1 v2 : Value} (h0 : pl[0]? = some (0, n)) (h1 : pl[1]? = some (n, m)) (l1 : z1.length = n) (l2 : z2.length = m) (k1 : c1.length = n) (k2 : c2.length = m) (e1 : v1.cells = c1.toArray) (e2 : v2.cells = c2.toArray) :
    Instr.fill (pl[·]?) (z1 ++ z2).toArray [(0, v1), (1, v2)] = some (c1 ++ c2).toArray := by
  have s1 : z1 ++ z2 = [] ++ (z1 ++ z2) := rfl
  rw [s1, fill_step (off := 0) (n := n) (vs := c1) h0 l1 rfl e1 k1]
  have s2 : [] ++ (c1 ++ z2) = c1 ++ (z2 ++ []) := by simp
  rw [s2, fill_step (off := n) (n := m) (vs := c2) h1 l2 k1 e2 k2]
  simp [Instr.fill]
set_option maxRecDepth 100000 in
theorem zeroSg (w : World) : (zeroValue 57).run Try.prog w = .ok (.agg ([Value.int .i64 0] ++ v8 (List.replicate 16 0)).toArray) w := by kernel_rfl
set_option maxRecDepth 100000 in
theorem build_sign (n : Int) (t : List Value) (ht : t.length = 16) (w : World) : (Instr.build 57 #[(0, .int .i64 n), (1, .agg t.toArray)]).run Try.prog w = .ok (.agg (.int .i64 n :: t).toArray) w :=
  build_fill (zs := [Value.int .i64 0] ++ v8 (List.replicate 16 0)) (pl := #[(0, 1), (1, 16)]) (zeroSg w) (by kernel_rfl) (by kernel_rfl) _ _ (fill_two (c1 := [.int .i64 n]) rfl rfl rfl rfl rfl ht rfl rfl)
theorem ex_build {P : Program} {o : Oper} {a : Act} {w : World} {t : TypeId} {parts : List (Nat × Operand)} {vs : List (Nat × Value)} {v : Value} (ho : o.op = .build t parts.toArray) (hv : (parts.map fun (x : Nat × Operand) => (x.1, a.eval x.2)) = vs)
    (hr : (Instr.build t vs.toArray).run P w = .ok v w) : (execOp a.eval o).run P w = .ok (.value v) w := by
  subst hv
  have e : Array.map (fun (x : Nat × Operand) => (x.1, a.eval x.2)) parts.toArray = (parts.map fun (x : Nat × Operand) => (x.1, a.eval x.2)).toArray := by simp
  unfold execOp
  simp only [ho]
  rw [show (Instr.build t (Array.map (fun x => match x with | (i, x) => (i, a.eval x)) parts.toArray)) = Instr.build t (parts.map fun (x : Nat × Operand) => (x.1, a.eval x.2)).toArray from congrArg _ e]
  simp only [Sem.run_bind, hr, Result.andThen_ok, Sem.run_pure]
theorem wpList_build {P : Program} {ops : Array Oper} {rest : List Oper} {o : Oper} {a : Act} {w : World} {Q : Exit → Act → World → Prop} (hgd : Region.wanted o (yielded ops a.tmps) = true) (t : TypeId) (parts : List (Nat × Operand)) (ho : o.op = .build t parts.toArray) (vs : List (Nat × Value)) (v : Value) (hv : (parts.map fun (x : Nat × Operand) => (x.1, a.eval x.2)) = vs)
    (hr : (Instr.build t vs.toArray).run P w = .ok v w) (h : wpList P ops Q rest (a.put o.dst v) w) : wpList P ops Q (o :: rest) a w := by
  refine wpList_step fun K hK => ?_
  rw [if_pos hgd]
  unfold Oper.wp
  rw [ex_build ho hv hr]
  exact hK _ _ h
theorem zeroMk (w : World) : (zeroValue 59).run Try.prog w = .ok (.agg ([Value.int .i64 0] ++ v8 (List.replicate 32 0)).toArray) w := by kernel_rfl
set_option maxRecDepth 100000 in
theorem build_mark (n : Int) (t : List Value) (ht : t.length = 32) (w : World) : (Instr.build 59 #[(0, .int .i64 n), (1, .agg t.toArray)]).run Try.prog w = .ok (.agg (.int .i64 n :: t).toArray) w :=
  build_fill (zs := [Value.int .i64 0] ++ v8 (List.replicate 32 0)) (pl := #[(0, 1), (1, 32)]) (zeroMk w) (by kernel_rfl) (by kernel_rfl) _ _ (fill_two (c1 := [.int .i64 n]) rfl rfl rfl rfl rfl ht rfl rfl)
theorem zeroSig (w : World) : (zeroValue 61).run Try.prog w = .ok (.agg mk0.cells.toArray) w := by kernel_rfl
set_option maxRecDepth 100000 in
theorem build_signed (u t : List Value) (hu : u.length = 33) (ht : t.length = 16) (w : World) : (Instr.build 61 #[(0, .agg u.toArray), (1, .agg t.toArray)]).run Try.prog w = .ok (.agg (u ++ t).toArray) w :=
  build_fill (zs := mkC 0 (List.replicate 32 0) ++ v8 (List.replicate 16 0)) (pl := #[(0, 33), (33, 16)]) (zeroSig w) (by kernel_rfl) (by kernel_rfl) _ _ (fill_two rfl rfl rfl rfl hu ht rfl rfl)
end Go.Proofs.Ytfaagiilldkdgaa
