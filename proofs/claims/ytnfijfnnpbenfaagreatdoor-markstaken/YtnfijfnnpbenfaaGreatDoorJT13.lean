/- signs, marks, what is kept of a node: their cells, compared; MarksTaken: bytes of a text, one of them put anew; two tags compared; marks in memory: a map by nod -/
import Derived.Test.YtnfijfnnpbenfaaGreatDoorJT0
import Derived.Test.YtnfijfnnpbenfaaGreatDoorJT4
import Derived.Test.YtnfijfnnpbenfaaGreatDoorJT6
import Derived.Test.YtnfijfnnpbenfaaGreatDoorJT7
import Derived.Test.YtnfijfnnpbenfaaGreatDoorJT8
import Derived.Test.YtnfijfnnpbenfaaGreatDoorJT12
import Derived.Laws.StructEq
import Derived.Deep.Cut
import Derived.Lib.ItoaWalk
import Derived.Laws.EntriesVeiled
import Derived.Test.YtnfijfnnpbenfaaGreatDoorJT5
import Derived.Test.YtnfijfnnpbenfaaGreatDoorJT3
import Derived.Maps.RangeWalk
import Derived.DeepKeys4
import Derived.Maps.OwnSet
import Derived.Deep.Upon
import Derived.RangeFuncBox
namespace Go.Proofs.YtnfijfnnpbenfaaGreatDoor.Mk
open Go.RowKit
def I64 (z : Int) : Prop := -9223372036854775808 ≤ z ∧ z ≤ 9223372036854775807
def B8 (zs : List Int) : Prop := ∀ z ∈ zs, 0 ≤ z ∧ z < 256
structure Sg where
 n : Int
 t : List Int
deriving DecidableEq, Inhabited
structure Sg.ok (r : Sg) : Prop where
 tl : r.t.length = 16
 tb : B8 r.t
 n : I64 r.n
def Sg.cells (r : Sg) : List Value := .int .i64 r.n :: v8 r.t
theorem Sg.ok.length {r : Sg} (h : r.ok) : r.cells.length = 17 := by
 have := h.tl
 simp [Sg.cells, v8]
 omega
theorem Sg.one (r : Sg) : ∀ v ∈ r.cells, v.oneCell' = true := by
 intro v hv
 rcases List.mem_cons.1 hv with rfl | hv
 ·rfl
 ·exact v8_one r.t v hv
theorem run_equal8 {P : Program} (w : World) (d : Nat) (t e : TypeId) (n : Nat) (ht : P.underlying t = some (.array n e)) (he : P.underlying e = some (.int .u8)) (hsz : (P.info? e).map (·.size) = some 1)
    (xs ys : List Int) (hx : xs.length = n) (hy : ys.length = n) :
    (Op.equalIn (d + 2) t (.agg (v8 xs).toArray) (.agg (v8 ys).toArray)).run P w = .ok (xs == ys) w := by
  rw [← all_range xs ys (hx.trans hy.symm), hx, List.range_eq_range', Op.equalIn]
  simp only [Sem.run_bind, run_underlying ht, Result.andThen_ok, run_size hsz, Std.Legacy.Range.forIn_eq_forIn_range', Std.Legacy.Range.size, Nat.sub_zero, Nat.add_sub_cancel, Nat.div_one]
  have hl : ∀ i ∈ List.range' 0 n 1, i < n := fun i hi => by simpa using (List.mem_range'_1.1 hi).2
  generalize List.range' 0 n 1 = l at hl ⊢
  induction l with
  | nil => simp
  | cons i l ih =>
    have hi : i < n := hl i (by simp)
    have px : (part e (v8 xs).toArray (i * 1)).run P w = .ok (.int .u8 (xs.getD i 0)) w := by
      simp [part, isAgg, run_underlying he, v8, List.getElem?_eq_getElem (show i < xs.length by omega)]
    have py : (part e (v8 ys).toArray (i * 1)).run P w = .ok (.int .u8 (ys.getD i 0)) w := by
      simp [part, isAgg, run_underlying he, v8, List.getElem?_eq_getElem (show i < ys.length by omega)]
    have pe : (Op.equalIn (d + 1) e (.int .u8 (xs.getD i 0)) (.int .u8 (ys.getD i 0))).run P w = .ok (xs.getD i 0 == ys.getD i 0) w := run_equalIn_int w d e .u8 .u8 _ _ he
    simp only [List.forIn_cons, Sem.run_bind, px, py, pe, Result.andThen_ok, List.all_cons]
    cases hb : (xs.getD i 0 == ys.getD i 0)
    · simp
    · simp only [Bool.not_true, Bool.false_eq_true, if_false, Sem.run_pure, Result.andThen_ok, Bool.true_and]
      exact ih fun j hj => hl j (by simp [hj])
theorem fldS : (Tryz.prog.fieldsOf 56).toList.map (fun f => (f.name, f.type, f.offset)) = [("Node", 3, 0), ("Tag", 51, 1)] := by kernel_rfl
theorem undS : Tryz.prog.underlying 56 = some (.struct (Tryz.prog.fieldsOf 56)) := by kernel_rfl
theorem sihS : Tryz.prog.stoodInHeld 56 = false := by kernel_rfl
theorem part_tagS (w : World) (x : Sg) (hd : x.t.length = 16) : (part 51 x.cells.toArray 1).run Tryz.prog w = .ok (.agg (v8 x.t).toArray) w := by
 have hx : List.take 16 x.cells.tail = v8 x.t := by
  show List.take 16 (v8 x.t) = v8 x.t
  rw [List.take_of_length_le (by rw [v8_length, hd]; exact Nat.le_refl _)]
 simp [part, isAgg, run_underlying Tryz.underlying51, run_size iszT, hx]
theorem sgEqIn (x y : Sg) (hx : x.t.length = 16) (hy : y.t.length = 16) (d : Nat) (w : World) :
  (Op.equalIn (d + 2 + 1) 56 (.agg x.cells.toArray) (.agg y.cells.toArray)).run Tryz.prog w = .ok ((x.n == y.n) && (x.t == y.t)) w := by
 rw [run_equalIn_struct w (d + 2) 56 _ _ undS sihS]
 have hf := fldS
 generalize (Tryz.prog.fieldsOf 56).toList = fs at hf
 obtain ⟨f0, f1, rfl⟩ : ∃ f0 f1, fs = [f0, f1] := by
  rcases fs with _ | ⟨f0, _ | ⟨f1, _ | ⟨f2, fs⟩⟩⟩ <;> simp at hf
  exact ⟨f0, f1, rfl⟩
 simp only [List.map_cons, List.map_nil, List.cons.injEq, Prod.mk.injEq, and_true] at hf
 obtain ⟨⟨a0, b0, d0⟩, ⟨a1, b1, d1⟩⟩ := hf
 have p0 := part_intV w x.cells 0 x.n rfl
 have q0 := part_intV w y.cells 0 y.n rfl
 have p4 := part_tagS w x hx
 have q4 := part_tagS w y hy
 have e0 := fun a b => run_equalIn_int (P := Tryz.prog) w (d + 1) 3 .i64 .i64 a b Tryz.underlying3
 have e4 := run_equal8 (P := Tryz.prog) w d 51 5 16 Tryz.underlying51 Tryz.underlying5 isz8 x.t y.t hx hy
 generalize x.cells.toArray = q at *
 generalize y.cells.toArray = q' at *
 obtain ⟨T, hT⟩ : ∃ T, (v8 x.t).toArray = T := ⟨_, rfl⟩
 obtain ⟨T', hT'⟩ : ∃ T, (v8 y.t).toArray = T := ⟨_, rfl⟩
 rw [hT] at p4 e4
 rw [hT'] at q4 e4
 clear hT hT'
 obtain ⟨D, hD⟩ : ∃ D, d + 1 + 1 = D := ⟨_, rfl⟩
 have e4 : (Op.equalIn (d + 1 + 1) 51 (.agg T) (.agg T')).run Tryz.prog w = .ok (x.t == y.t) w := e4
 rw [hD] at e4
 have n0 : ¬ ("Node" = "_") := by decide
 have n1 : ¬ ("Tag" = "_") := by decide
 simp only [Op.eqFields, a0, a1, b0, b1, d0, d1, ne_eq, n0, n1, not_false_eq_true, if_true]
 rw [show d + 2 = d + 1 + 1 from rfl, hD]
 rw [hD] at e0
 clear hD
 simp only [Sem.run_bind, p0, q0, Result.andThen_ok, e0]
 cases (x.n == y.n)
 ·simp only [Bool.not_false, if_true, Sem.run_pure, Bool.false_and]
 ·simp only [Bool.not_true, Bool.false_eq_true, if_false, Sem.run_bind, p4, q4, Result.andThen_ok, e4, Bool.true_and]
  cases (x.t == y.t)
  ·simp only [Bool.not_false, if_true, Sem.run_pure]
  ·simp only [Bool.not_true, Bool.false_eq_true, if_false, Sem.run_pure]
theorem eqS (x y : Sg) (hx : x.ok) (hy : y.ok) (w : World) : (binOp .eql 56 (.agg x.cells.toArray) (.agg y.cells.toArray)).run Tryz.prog w = .ok (.bool ((x.n == y.n) && (x.t == y.t))) w := by
 rw [run_eql_struct, sgEqIn x y hx.tl hy.tl 9997 w]; rfl
structure Mk where
 e : Int
 d : List Int
 t : List Int
deriving DecidableEq, Inhabited
structure Mk.ok (x : Mk) : Prop where
 e : I64 x.e
 dl : x.d.length = 32
 db : B8 x.d
 tl : x.t.length = 16
 tb : B8 x.t
def mkC (e : Int) (d : List Int) : List Value := .int .i64 e :: v8 d
def Mk.cells (x : Mk) : List Value := mkC x.e x.d ++ v8 x.t
theorem mkC_len (e : Int) {d : List Int} (h : d.length = 32) : (mkC e d).length = 33 := by simp [mkC, h]
theorem mkC_one (e : Int) (d : List Int) : ∀ v ∈ mkC e d, v.oneCell' = true := by
 intro v hv
 rcases List.mem_cons.1 hv with rfl | hv
 ·rfl
 ·exact v8_one d v hv
theorem Mk.ok.len {x : Mk} (h : x.ok) : x.cells.length = 49 := by rw [Mk.cells, List.length_append, mkC_len x.e h.dl, v8_length, h.tl]
theorem Mk.one (x : Mk) : ∀ v ∈ x.cells, v.oneCell' = true := by
 intro v hv
 rcases List.mem_append.1 hv with hv | hv
 ·exact mkC_one _ _ v hv
 ·exact v8_one _ v hv
def mk0 : Mk := ⟨0, List.replicate 32 0, List.replicate 16 0⟩
theorem mk0_ok : mk0.ok := ⟨by unfold I64 mk0; decide, by decide, by unfold B8 mk0; decide, by decide, by unfold B8 mk0; decide⟩
theorem fldM : (Tryz.prog.fieldsOf 120).toList.map (fun f => (f.name, f.type, f.offset)) = [("epoch", 3, 0), ("digest", 32, 1)] := by kernel_rfl
theorem undM : Tryz.prog.underlying 120 = some (.struct (Tryz.prog.fieldsOf 120)) := by kernel_rfl
theorem sihM : Tryz.prog.stoodInHeld 120 = false := by kernel_rfl
theorem iszM : (Tryz.prog.info? 120).map (·.size) = some 33 := by kernel_rfl
theorem iszS : (Tryz.prog.info? 122).map (·.size) = some 49 := by kernel_rfl
theorem iszG : (Tryz.prog.info? 56).map (·.size) = some 17 := by kernel_rfl
theorem part_digM (w : World) (e : Int) (d : List Int) (hd : d.length = 32) : (part 32 (mkC e d).toArray 1).run Tryz.prog w = .ok (.agg (v8 d).toArray) w := by
 have hx : List.take 32 (mkC e d).tail = v8 d := by
  show List.take 32 (v8 d) = v8 d
  rw [List.take_of_length_le (by rw [v8_length, hd]; exact Nat.le_refl _)]
 simp [part, isAgg, run_underlying Tryz.underlying32, run_size iszD, hx]
theorem mkEqIn (a b : Int) (x y : List Int) (hx : x.length = 32) (hy : y.length = 32) (d : Nat) (w : World) :
  (Op.equalIn (d + 2 + 1) 120 (.agg (mkC a x).toArray) (.agg (mkC b y).toArray)).run Tryz.prog w = .ok ((a == b) && (x == y)) w := by
 rw [run_equalIn_struct w (d + 2) 120 _ _ undM sihM]
 have hf := fldM
 generalize (Tryz.prog.fieldsOf 120).toList = fs at hf
 obtain ⟨f0, f1, rfl⟩ : ∃ f0 f1, fs = [f0, f1] := by
  rcases fs with _ | ⟨f0, _ | ⟨f1, _ | ⟨f2, fs⟩⟩⟩ <;> simp at hf
  exact ⟨f0, f1, rfl⟩
 simp only [List.map_cons, List.map_nil, List.cons.injEq, Prod.mk.injEq, and_true] at hf
 obtain ⟨⟨a0, b0, d0⟩, ⟨a1, b1, d1⟩⟩ := hf
 have p0 := part_intV w (mkC a x) 0 a rfl
 have q0 := part_intV w (mkC b y) 0 b rfl
 have p4 := part_digM w a x hx
 have q4 := part_digM w b y hy
 have e0 := fun u v => run_equalIn_int (P := Tryz.prog) w (d + 1) 3 .i64 .i64 u v Tryz.underlying3
 have e4 := run_equal8 (P := Tryz.prog) w d 32 5 32 Tryz.underlying32 Tryz.underlying5 isz8 x y hx hy
 generalize (mkC a x).toArray = q at *
 generalize (mkC b y).toArray = q' at *
 obtain ⟨T, hT⟩ : ∃ T, (v8 x).toArray = T := ⟨_, rfl⟩
 obtain ⟨T', hT'⟩ : ∃ T, (v8 y).toArray = T := ⟨_, rfl⟩
 rw [hT] at p4 e4
 rw [hT'] at q4 e4
 clear hT hT'
 obtain ⟨D, hD⟩ : ∃ D, d + 1 + 1 = D := ⟨_, rfl⟩
 have e4 : (Op.equalIn (d + 1 + 1) 32 (.agg T) (.agg T')).run Tryz.prog w = .ok (x == y) w := e4
 rw [hD] at e4
 have n0 : ¬ ("epoch" = "_") := by decide
 have n1 : ¬ ("digest" = "_") := by decide
 simp only [Op.eqFields, a0, a1, b0, b1, d0, d1, ne_eq, n0, n1, not_false_eq_true, if_true]
 rw [show d + 2 = d + 1 + 1 from rfl, hD]
 rw [hD] at e0
 clear hD
 simp only [Sem.run_bind, p0, q0, Result.andThen_ok, e0]
 cases (a == b)
 ·simp only [Bool.not_false, if_true, Sem.run_pure, Bool.false_and]
 ·simp only [Bool.not_true, Bool.false_eq_true, if_false, Sem.run_bind, p4, q4, Result.andThen_ok, e4, Bool.true_and]
  cases (x == y)
  ·simp only [Bool.not_false, if_true, Sem.run_pure]
  ·simp only [Bool.not_true, Bool.false_eq_true, if_false, Sem.run_pure]
theorem eqM (a b : Int) (x y : List Int) (hx : x.length = 32) (hy : y.length = 32) (w : World) : (binOp .eql 120 (.agg (mkC a x).toArray) (.agg (mkC b y).toArray)).run Tryz.prog w = .ok (.bool ((a == b) && (x == y))) w := by
 rw [run_eql_struct, mkEqIn a b x y hx hy 9997 w]; rfl
theorem exec_load {P : Program} {o : Oper} {a : Act} {w : World} {ty : TypeId} {x : Operand} {b off : Nat} {v : Value} (ho : o.op = .load ty x) (hx : a.eval x = .pointer (some ⟨b, off, none⟩)) (hr : (loadVar ty ⟨b, off, none⟩).run P w = .ok v w) : (execOp a.eval o).run P w = .ok (.value v) w := by
 unfold execOp
 simp only [ho, hx, Instr.loadAt, Instr.sureAddr, Sem.run_bind, Sem.run_pure, Result.andThen_ok, hr]
theorem exec_store {P : Program} {o : Oper} {a : Act} {w w' : World} {ty : TypeId} {x y : Operand} {b off : Nat} {v : Value} (ho : o.op = .store ty x y) (hx : a.eval x = .pointer (some ⟨b, off, none⟩)) (hy : a.eval y = v) (hr : (storeVar ty ⟨b, off, none⟩ v).run P w = .ok () w') : (execOp a.eval o).run P w = .ok .skip w' := by
 unfold execOp
 simp only [ho, hx, hy, Instr.storeAt, Instr.sureAddr, Sem.run_bind, Sem.run_pure, Result.andThen_ok, hr]
theorem build_fill {P : Program} {t : TypeId} {zs : List Value} {pl : Array (Nat × Nat)} {w : World} (hz : (zeroValue t).run P w = .ok (.agg zs.toArray) w) (hu : P.underlying t = some (.struct (P.fieldsOf t)))
  (hp : (((P.fieldsOf t).mapM fun f => do pure (f.offset, ← sizeOf f.type) : Sem (Array (Nat × Nat)))).run P w = .ok pl w) (parts : Array (Nat × Value)) (cs : List Value) (h : Instr.fill (pl[·]?) zs.toArray parts.toList = some cs.toArray) : (Instr.build t parts).run P w = .ok (.agg cs.toArray) w := by
 unfold Instr.build
 simp only [Sem.run_bind, hz, Result.andThen_ok, run_underlying hu]
 rw [hp]
 simp only [Result.andThen_ok, Value.cells]
 rw [h]
 rfl
theorem fill_two {pl : Array (Nat × Nat)} {n m : Nat} {z1 z2 c1 c2 : List Value} {v1 v2 : Value} (h0 : pl[0]? = some (0, n)) (h1 : pl[1]? = some (n, m)) (l1 : z1.length = n) (l2 : z2.length = m) (k1 : c1.length = n) (k2 : c2.length = m) (e1 : v1.cells = c1.toArray) (e2 : v2.cells = c2.toArray) :
  Instr.fill (pl[·]?) (z1 ++ z2).toArray [(0, v1), (1, v2)] = some (c1 ++ c2).toArray := by
 have s1 : z1 ++ z2 = [] ++ (z1 ++ z2) := rfl
 rw [s1, fill_step (off := 0) (n := n) (vs := c1) h0 l1 rfl e1 k1]
 have s2 : [] ++ (c1 ++ z2) = c1 ++ (z2 ++ []) := by simp
 rw [s2, fill_step (off := n) (n := m) (vs := c2) h1 l2 k1 e2 k2]
 simp [Instr.fill]
set_option maxRecDepth 100000 in
theorem zeroSg (w : World) : (zeroValue 56).run Tryz.prog w = .ok (.agg ([Value.int .i64 0] ++ v8 (List.replicate 16 0)).toArray) w := by kernel_rfl
set_option maxRecDepth 100000 in
theorem build_sign (n : Int) (t : List Value) (ht : t.length = 16) (w : World) : (Instr.build 56 #[(0, .int .i64 n), (1, .agg t.toArray)]).run Tryz.prog w = .ok (.agg (.int .i64 n :: t).toArray) w :=
 build_fill (zs := [Value.int .i64 0] ++ v8 (List.replicate 16 0)) (pl := #[(0, 1), (1, 16)]) (zeroSg w) (by kernel_rfl) (by kernel_rfl) _ _ (fill_two (c1 := [.int .i64 n]) rfl rfl rfl rfl rfl ht rfl rfl)
theorem zeroMk (w : World) : (zeroValue 120).run Tryz.prog w = .ok (.agg ([Value.int .i64 0] ++ v8 (List.replicate 32 0)).toArray) w := by kernel_rfl
set_option maxRecDepth 100000 in
theorem build_mark (n : Int) (t : List Value) (ht : t.length = 32) (w : World) : (Instr.build 120 #[(0, .int .i64 n), (1, .agg t.toArray)]).run Tryz.prog w = .ok (.agg (.int .i64 n :: t).toArray) w :=
 build_fill (zs := [Value.int .i64 0] ++ v8 (List.replicate 32 0)) (pl := #[(0, 1), (1, 32)]) (zeroMk w) (by kernel_rfl) (by kernel_rfl) _ _ (fill_two (c1 := [.int .i64 n]) rfl rfl rfl rfl rfl ht rfl rfl)
theorem zeroSig (w : World) : (zeroValue 122).run Tryz.prog w = .ok (.agg mk0.cells.toArray) w := by kernel_rfl
set_option maxRecDepth 100000 in
theorem build_signed (u t : List Value) (hu : u.length = 33) (ht : t.length = 16) (w : World) : (Instr.build 122 #[(0, .agg u.toArray), (1, .agg t.toArray)]).run Tryz.prog w = .ok (.agg (u ++ t).toArray) w :=
 build_fill (zs := mkC 0 (List.replicate 32 0) ++ v8 (List.replicate 16 0)) (pl := #[(0, 33), (33, 16)]) (zeroSig w) (by kernel_rfl) (by kernel_rfl) _ _ (fill_two rfl rfl rfl rfl hu ht rfl rfl)
end Go.Proofs.YtnfijfnnpbenfaaGreatDoor.Mk
namespace Go.Proofs.YtnfijfnnpbenfaaGreatDoor
open Go.RowKit
open Sha Tal
set_option linter.unusedVariables false
set_option linter.unusedSimpArgs false
theorem bytes_of2 (s : ByteArray) (hs : s.size ≤ 1000000) (w : World) : ∃ c w1, (convert 9 57 (.string s)).run Tryz.prog w = .ok (.slice (some ⟨w.heap.size, 0, none⟩) (strL s).length c) w1 ∧ w1.rangeAt w.heap.size 0 (v8 (strL s)) ∧ w1.there w.heap.size 0 (strL s).length ∧ w.heap.size < w1.heap.size ∧ Below w.heap.size w w1 := by
 refine ⟨grownCap w s.size 0 5, Lib.bytesWorld w 5 s, ?_, ?_, ?_, ?_, ?_⟩
 ·rw [Lib.run_convert_string_bytes w 9 57 5 s Tryz.underlying9 Tryz.underlying57 Tryz.underlying5, strL_length]
 ·intro j v hv
  have hj : j < s.size := by
   have := (List.getElem?_eq_some_iff.1 hv).1
   rwa [v8_length, strL_length] at this
  rw [Nat.zero_add, Lib.bytesWorld_cell w 5 s j hj, ← hv]
  have hj' : j < s.data.toList.length := by simpa using hj
  simp only [v8, strL, List.map_map, List.getElem?_map, List.getElem?_eq_getElem hj', List.getD_eq_getElem?_getD, Option.getD_some, Option.map_some, Function.comp]
 ·intro j hj
  rw [strL_length] at hj
  rw [Nat.zero_add]
  refine ⟨by rw [Lib.bytesWorld_cell w 5 s j hj]; rfl, ?_⟩
  have hle : s.size ≤ (Lib.bytesCells w 5 s).size := by simp [Lib.bytesCells]
  simp [World.frozen?, Lib.bytesWorld_at_new]
  omega
 ·rw [Lib.bytesWorld_size]; omega
 ·exact ⟨rfl, rfl, rfl, by rw [Lib.bytesWorld_size]; omega, fun k hk => Lib.bytesWorld_at_old w 5 s k hk⟩
theorem row_set {w : World} {X : Nat} {zs : List Int} (h : w.rangeAt X 0 (v8 zs)) (m : Nat) (y : Int) : (w.setCells X m [.int .u8 y]).rangeAt X 0 (v8 (zs.set m y)) := by
 have := range_set h m (.int .u8 y)
 rw [Nat.zero_add] at this
 have e : v8 (zs.set m y) = (v8 zs).set m (.int .u8 y) := by simp [v8, List.map_set]
 rw [e]
 exact this
theorem eqTg (x y : List Int) (hx : x.length = 16) (hy : y.length = 16) (w : World) : (binOp .eql 51 (.agg (v8 x).toArray) (.agg (v8 y).toArray)).run Tryz.prog w = .ok (.bool (x == y)) w := by
 rw [run_eql_struct, run_equal8 w 9998 51 5 16 Tryz.underlying51 Tryz.underlying5 isz8 x y hx hy]; rfl
theorem build_sg (n : Int) (t : List Value) (ht : t.length = 16) (w : World) : (Instr.build 56 #[(0, .int .i64 n), (1, .agg t.toArray)]).run Tryz.prog w = .ok (.agg (.int .i64 n :: t).toArray) w :=
 Mk.build_sign n t ht w
theorem bytes_ne {s : Stt} (h : s.ok) : 0 < s.bytes.length := by
 have hd := h.dl
 unfold Stt.bytes Stt.b3 Stt.b2 Stt.b1
 simp only [List.length_append]
 omega
end Go.Proofs.YtnfijfnnpbenfaaGreatDoor
namespace Go.Proofs.YtnfijfnnpbenfaaGreatDoor.Mk
open Go.RowKit
set_option linter.unusedVariables false
theorem lawI : Maps.Keyed Tryz.prog 3 := Maps.int_keyed Tryz.underlying3
theorem key_int (k : Int) (hk : I64 k) : Go.keyOf Tryz.prog 3 (.int .i64 k) = some (.int .i64 k) := by
 have wc : (Lit.int .i64 k).wf = true := by simp only [Lit.wf, Bool.and_eq_true, decide_eq_true_eq]; exact hk
 unfold Go.keyOf
 rw [Tryz.underlying3]
 simp [mapKey, Tryz.underlying3, wc]
def anyE : Value → Option (DataW Value × List MemPlace) := fun v => some (.held v, [])
def MapM (w : World) (b n : Nat) (m : Int → Option Mk) : Prop :=
 ∃ D : DataW Value, w.ownsMap Tryz.prog 3 anyE b n D ∧ (∀ k d, I64 k → m k = some d → ∀ zd, D.atKey (.int .i64 k) zd = .held (.agg d.cells.toArray)) ∧ ∀ k, I64 k → Maps.has D (.int .i64 k) = (m k).isSome
theorem MapM.lt {w : World} {b n : Nat} {m : Int → Option Mk} (h : MapM w b n m) : b < w.heap.size := by
 obtain ⟨D, h, _⟩ := h
 exact h.lt
theorem MapM.at {w w' : World} {b n : Nat} {m : Int → Option Mk} (h : MapM w b n m) (hb : w'.heap[b]? = w.heap[b]?) : MapM w' b n m := by
 obtain ⟨D, ⟨es, cl, h1, h2⟩, h3⟩ := h
 exact ⟨D, ⟨es, cl, by rw [hb]; exact h1, h2⟩, h3⟩
theorem MapM.made (w : World) : MapM (w.alloc (.map #[] 0)) w.heap.size 0 (fun _ => none) :=
 ⟨_, World.ownsMap_made w Tryz.prog 3 anyE, by simp, fun k _ => by simp [Maps.has]⟩
theorem MapM.val {w : World} {b n : Nat} {m : Int → Option Mk} {D : DataW Value} (h1 : ∀ k d, I64 k → m k = some d → ∀ zd, D.atKey (.int .i64 k) zd = .held (.agg d.cells.toArray)) (h2 : ∀ k, I64 k → Maps.has D (.int .i64 k) = (m k).isSome) (k : Int) (hk : I64 k) : D.atKey (.int .i64 k) (.held (.agg mk0.cells.toArray)) = .held (.agg ((m k).getD mk0).cells.toArray) := by
  cases hm : m k with
  | none =>
    have := h2 k hk
    rw [hm] at this
    exact Maps.atKey_of_not_has this _
  | some d => exact h1 k d hk hm _
theorem MapM.look {w : World} {b n : Nat} {m : Int → Option Mk} (h : MapM w b n m) (k : Int) (hk : I64 k) :
  (Instr.lookup 116 (.map (some b)) (.int .i64 k) true).run Tryz.prog w = .ok (.tuple #[.agg ((m k).getD mk0).cells.toArray, .bool (m k).isSome]) w := by
 obtain ⟨D, hown, hat, hhas⟩ := h
 obtain ⟨v, ps, hrun, hv⟩ := hown.look_ok lawI Tryz.underlying116 (zeroSig w) (zd := .held (.agg mk0.cells.toArray)) (zp := []) rfl (key_int k hk)
 simp only [anyE, Option.some.injEq, Prod.mk.injEq] at hv
 rw [hrun, hhas k hk]
 have := hv.1
 rw [MapM.val (w := w) (b := b) (n := n) hat hhas k hk] at this
 simp only [DataW.held.injEq] at this
 rw [this]
theorem MapM.get {w : World} {b n : Nat} {m : Int → Option Mk} (h : MapM w b n m) (k : Int) (hk : I64 k) :
  (Instr.lookup 116 (.map (some b)) (.int .i64 k) false).run Tryz.prog w = .ok (.agg ((m k).getD mk0).cells.toArray) w := by
 obtain ⟨D, hown, hat, hhas⟩ := h
 obtain ⟨v, ps, hrun, hv⟩ := hown.lookup lawI Tryz.underlying116 (zeroSig w) (zd := .held (.agg mk0.cells.toArray)) (zp := []) rfl (key_int k hk)
 simp only [anyE, Option.some.injEq, Prod.mk.injEq] at hv
 rw [hrun]
 have := hv.1
 rw [MapM.val (w := w) (b := b) (n := n) hat hhas k hk] at this
 simp only [DataW.held.injEq] at this
 rw [this]
def putM (m : Int → Option Mk) (k : Int) (d : Mk) : Int → Option Mk := fun j => if j = k then some d else m j
theorem MapM.store {w : World} {b n : Nat} {m : Int → Option Mk} (h : MapM w b n m) (k : Int) (hk : I64 k) (d : Mk) (hn : n < 1000000) :
  ∃ w', (Instr.mapUpdate 116 (.map (some b)) (.int .i64 k) (.agg d.cells.toArray)).run Tryz.prog w = .ok () w' ∧ MapM w' b (n + 1) (putM m k d) ∧ w.grownBy w' (some b) := by
 obtain ⟨D, hown, hat, hhas⟩ := h
 have hkey := key_int k hk
 obtain ⟨w', hrun, h1, h2⟩ := hown.store lawI Tryz.underlying116 (by unfold maxLen; omega) hkey (val := .agg d.cells.toArray) (d := .held (.agg d.cells.toArray)) (ps := []) rfl
 refine ⟨w', hrun, ⟨_, h1, fun j e hj hm zd => ?_, fun j hj => ?_⟩, h2.grown⟩
 ·unfold putM at hm
  by_cases e1 : j = k
  ·subst e1
   rw [if_pos rfl] at hm
   obtain rfl := Option.some.inj hm
   exact Maps.atKey_put_same hown.isMap (lawI.key hkey) _ _
  ·rw [if_neg e1] at hm
   rw [Maps.atKey_put_other (by simpa using e1)]
   exact hat j e hj hm zd
 ·unfold putM
  by_cases e1 : j = k
  ·subst e1
   rw [if_pos rfl, Maps.has_put_same hown.isMap (lawI.key hkey)]
   rfl
  ·rw [if_neg e1, Maps.has_put_other (by simpa using e1), hhas j hj]
theorem ex_look {P : Program} {o : Oper} {a : Act} {w : World} {t : TypeId} {m x : Operand} {c : Bool} {mv kv v : Value} (ho : o.op = .lookup t m x c) (hm : a.eval m = mv) (hx : a.eval x = kv) (hr : (Instr.lookup t mv kv c).run P w = .ok v w) : (execOp a.eval o).run P w = .ok (.value v) w := by
 unfold execOp
 simp only [ho, hm, hx, Sem.run_bind, hr, Result.andThen_ok, Sem.run_pure]
theorem MapM.more {w : World} {b n n' : Nat} {m : Int → Option Mk} (h : MapM w b n m) (hn : n ≤ n') : MapM w b n' m := by
 obtain ⟨D, ⟨es, cl, h1, h2, h3, h4⟩, h5⟩ := h
 exact ⟨D, ⟨es, cl, h1, h2, Nat.le_trans h3 hn, h4⟩, h5⟩
structure MkAt (w : World) (B b n : Nat) (N : Int) (m : Int → Option Mk) : Prop where
 lt : B < w.heap.size
 c0 : w.cell? ⟨B, 0, none⟩ = some (.int .i64 N)
 c1 : w.cell? ⟨B, 1, none⟩ = some (.map (some b))
 mp : MapM w b n m
 good : 4 ≤ N ∧ N ≤ 64
 ok : ∀ k x, m k = some x → x.ok ∧ 0 ≤ k ∧ k < N ∧ 1 ≤ x.e ∧ x.e ≤ 1048576
theorem MkAt.ne {w : World} {B b n : Nat} {N : Int} {m : Int → Option Mk} (h : MkAt w B b n N m) : b ≠ B := by
 rintro rfl
 obtain ⟨D, ⟨es, cl, h1, _⟩, _⟩ := h.mp
 have := h.c0
 simp [World.cell?, h1] at this
theorem MkAt.at {w w' : World} {B b n : Nat} {N : Int} {m : Int → Option Mk} (h : MkAt w B b n N m) (hs : w.heap.size ≤ w'.heap.size) (h1 : w'.heap[B]? = w.heap[B]?) (h2 : w'.heap[b]? = w.heap[b]?) : MkAt w' B b n N m := by
 refine ⟨Nat.lt_of_lt_of_le h.lt hs, ?_, ?_, h.mp.at h2, h.good, h.ok⟩
 ·rw [← h.c0]; simp [World.cell?, h1]
 ·rw [← h.c1]; simp [World.cell?, h1]
theorem MkAt.below {w w' : World} {B b n : Nat} {N : Int} {m : Int → Option Mk} (h : MkAt w B b n N m) (hb : Below w.heap.size w w') : MkAt w' B b n N m := h.at hb.size (hb.block _ h.lt) (hb.block _ h.mp.lt)
theorem MkAt.drew {w : World} {B b n : Nat} {N : Int} {m : Int → Option Mk} (h : MkAt w B b n N m) : MkAt w.drew B b n N m := h.below (Below.refl _ _).drew
theorem MkAt.val {w : World} {B b n : Nat} {N : Int} {m : Int → Option Mk} (h : MkAt w B b n N m) (k : Int) : ((m k).getD mk0).ok := by
  cases hm : m k with
  | none => exact mk0_ok
  | some x => exact (h.ok k x hm).1
def NoMk (w : World) (v : Value) : Prop := v = .pointer none ∨ ∃ B, v = .pointer (some ⟨B, 0, none⟩) ∧ B < w.heap.size ∧ w.cell? ⟨B, 0, none⟩ = some (.int .i64 0)
set_option maxHeartbeats 400000 in
theorem isMade_yes (B b n : Nat) (N : Int) (m : Int → Option Mk) (w : World) (h : MkAt w B b n N m) : Calls Tryz.prog 60 #[.pointer (some ⟨B, 0, none⟩)] w fun e w' => e = .returned (.bool true) ∧ w' = w := by
 have c0 := h.c0
 have hN : N > 0 := by have := h.good; omega
 have hd : decide (N > 0) = true := decide_eq_true hN
 clear h
 go_enter Tryz.func60, Tryz.ntmps60
 go_wp2
 go_ret
 exact ⟨by simp, rfl⟩
set_option maxHeartbeats 400000 in
theorem new_yes (n : Int) (w : World) (h : Nq.goodB n = true) : Calls Tryz.prog 21 #[.int .i64 n] w fun e w' => e = .returned (.pointer (some ⟨w.heap.size + 1, 0, none⟩)) ∧ MkAt w' (w.heap.size + 1) w.heap.size 0 n (fun _ => none) ∧ Below w.heap.size w w' := by
 have cg := Nq.good_any n w
 rw [h] at cg
 have hg := Nq.goodB_true h
 clear h
 have hmm := @run_makeMap Tryz.prog
 go_enter Tryz.func21, Tryz.ntmps21
 go_wp2_with fail
 refine cg.mono ?_
 rintro _ wx ⟨rfl, hx⟩
 obtain rfl := hx.symm
 clear hx
 go_wp2_with fail
 go_ret
 have hb1 : Below w.heap.size w (w.alloc (.map #[] 0)) := (Below.refl _ _).alloc (Nat.le_refl _) _
 have hb2 : Below (w.alloc (.map #[] 0)).heap.size (w.alloc (.map #[] 0)) ((w.alloc (.map #[] 0)).alloc (.cells #[.int .i64 n, .map (some w.heap.size)] 118)) := (Below.refl _ _).alloc (Nat.le_refl _) _
 have hr := range_new (w.alloc (.map #[] 0)) #[.int .i64 n, .map (some w.heap.size)] 118
 have e1 : (w.alloc (.map #[] 0)).heap.size = w.heap.size + 1 := by simp
 refine ⟨rfl, ⟨by simp, ?_, ?_, (MapM.made w).at (hb2.block _ (by simp)), ⟨hg.1, hg.2.1⟩, by simp⟩, hb1.trans (hb2.mono (by simp))⟩
 ·have := hr 0 _ rfl
  rwa [e1] at this
 ·have := hr 1 _ rfl
  rwa [e1] at this
theorem ex_update {P : Program} {o : Oper} {a : Act} {w w' : World} {t : TypeId} {m x y : Operand} {mv kv v : Value} (ho : o.op = .mapUpdate t m x y) (hm : a.eval m = mv) (hx : a.eval x = kv) (hy : a.eval y = v) (hr : (Instr.mapUpdate t mv kv v).run P w = .ok () w') : (execOp a.eval o).run P w = .ok .skip w' := by
 unfold execOp
 simp only [ho, hm, hx, hy, Sem.run_bind, Sem.run_pure, Result.andThen_ok, hr]
theorem ex_mid {P : Program} {op : Oper} {a : Act} {ty : TypeId} {x : Operand} (ho : op.op = .load ty x) {b o : Nat} (hx : a.eval x = .pointer (some ⟨b, o, none⟩)) {cs : List Value} {d : TypeDesc} {w : World} (hr : w.rangeAt b o cs) (hu : P.underlying ty = some d) (hd : d.isRow = true) (hi : (P.info? ty).map (·.size) = some cs.length) : (execOp a.eval op).run P w = .ok (.value (.agg cs.toArray)) w :=
 exec_load ho hx (run_loadVar_mid w b o ty cs d hr hu hd hi)
theorem ex_put {P : Program} {o : Oper} {a : Act} {w : World} {ty : TypeId} {x y : Operand} {b off : Nat} {cs : Array Value} (ho : o.op = .store ty x y) (hx : a.eval x = .pointer (some ⟨b, off, none⟩)) (hy : a.eval y = .agg cs) (ht : w.there b off cs.size) (hi : (P.info? ty).map (·.size) = some cs.size) (h1 : cs.all (·.oneCell') = true) : (execOp a.eval o).run P w = .ok .skip (w.setCells b off cs.toList) :=
 exec_store ho hx hy (run_storeVar_mid w b off ty cs ht hi h1)
section
variable {P : Program} {ops : Array Oper} {Q : Exit → Act → World → Prop}
end
theorem setCells_size (w : World) (b o : Nat) (vs : List Value) : (w.setCells b o vs).heap.size = w.heap.size := size_sets b vs o w
theorem run_field2 (u t : List Value) (hu : u.length = 33) (w : World) : (Instr.field 122 (.agg (u ++ t).toArray) 0).run Tryz.prog w = .ok (.agg u.toArray) w := by
 unfold Instr.field
 simp only [Sem.run_bind, run_underlying Tryz.underlying122, Result.andThen_ok]
 simp [asAgg, part, isAgg, run_underlying Tryz.underlying120, run_size iszM]
 rw [← hu]; simp
theorem ex_field {P : Program} {o : Oper} {a : Act} {w : World} {t : TypeId} {x : Operand} {k : Nat} {xv v : Value} (ho : o.op = .field t x k) (hx : a.eval x = xv) (hr : (Instr.field t xv k).run P w = .ok v w) : (execOp a.eval o).run P w = .ok (.value v) w := by
 unfold execOp
 simp only [ho, hx, Sem.run_bind, hr, Result.andThen_ok, Sem.run_pure]
def d0 : List Int := List.replicate 32 0
end Go.Proofs.YtnfijfnnpbenfaaGreatDoor.Mk
namespace Go.Proofs.YtnfijfnnpbenfaaGreatDoor.Mk
open Go.RowKit
set_option linter.unusedVariables false
def bad (N node e : Int) : Bool := decide (node < 0 ∨ N ≤ node ∨ e < 1 ∨ 1048576 < e)
def wasOf (m : Int → Option Mk) (k : Int) : Mk := (m k).getD mk0
def addE (N : Int) (m : Int → Option Mk) (k : Int) (x : Mk) : Int :=
 if bad N k x.e then 2 else if (wasOf m k).e = x.e ∧ (wasOf m k).d = x.d then 0 else if (wasOf m k).e = x.e then 181 else if x.e < (wasOf m k).e then 90 else 0
def addM (N : Int) (m : Int → Option Mk) (k : Int) (x : Mk) : Int → Option Mk :=
 if bad N k x.e then m else if (wasOf m k).e < x.e then putM m k x else m
theorem two_box {w w1 : World} {q r : List Value} {t1 t2 : TypeId} (h : (w.alloc (.cells q.toArray t1)).alloc (.cells r.toArray t2) = w1) : Below w.heap.size w w1 ∧ w1.rangeAt w.heap.size 0 q ∧ w1.rangeAt (w.heap.size + 1) 0 r ∧ w1.heap.size ≥ w.heap.size + 2 := by
 subst h
 have hb1 : Below w.heap.size w (w.alloc (.cells q.toArray t1)) := (Below.refl _ _).alloc (Nat.le_refl _) _
 have hb2 : Below (w.alloc (.cells q.toArray t1)).heap.size (w.alloc (.cells q.toArray t1)) ((w.alloc (.cells q.toArray t1)).alloc (.cells r.toArray t2)) := (Below.refl _ _).alloc (Nat.le_refl _) _
 refine ⟨hb1.trans (hb2.mono (by simp)), range_below (by simpa using range_new w q.toArray t1) hb2 (by simp), ?_, by simp⟩
 have := range_new (w.alloc (.cells q.toArray t1)) r.toArray t2
 simpa using this
set_option maxHeartbeats 1000000 in
theorem add_b1 (B b n : Nat) (N : Int) (m : Int → Option Mk) (k e : Int) (u t : List Value) (w : World) (h : MkAt w B b n N m) (hk : k < 0) : Calls Tryz.prog 22 #[.pointer (some ⟨B, 0, none⟩), .int .i64 k, .int .i64 e, .agg u.toArray, .agg t.toArray] w fun e w' => e = .returned (.int .i64 2) ∧ Below w.heap.size w w' := by
 go_enter Tryz.func22, Tryz.ntmps22
 go_upto_region 1 with fail
 go_name_world w1 hw1
 obtain ⟨hB1, hRd, hRt, hsz1⟩ := two_box hw1
 clear hw1
 have h1 := h.below hB1
 have cM := isMade_yes B b n N m w1 h1
 have c0 := h1.c0
 go_wp2_with fail
 refine cM.mono ?_
 rintro _ wx ⟨rfl, hx'⟩
 obtain rfl := hx'.symm
 clear hx' cM
 go_wp2_with fail
 go_ret
 exact ⟨rfl, hB1⟩
set_option maxHeartbeats 1000000 in
theorem add_b2 (B b n : Nat) (N : Int) (m : Int → Option Mk) (k e : Int) (u t : List Value) (w : World) (h : MkAt w B b n N m) (hk : 0 ≤ k) (hk2 : N ≤ k) : Calls Tryz.prog 22 #[.pointer (some ⟨B, 0, none⟩), .int .i64 k, .int .i64 e, .agg u.toArray, .agg t.toArray] w fun e w' => e = .returned (.int .i64 2) ∧ Below w.heap.size w w' := by
 go_enter Tryz.func22, Tryz.ntmps22
 go_upto_region 1 with fail
 go_name_world w1 hw1
 obtain ⟨hB1, hRd, hRt, hsz1⟩ := two_box hw1
 clear hw1
 have h1 := h.below hB1
 have cM := isMade_yes B b n N m w1 h1
 have c0 := h1.c0
 go_wp2_with fail
 refine cM.mono ?_
 rintro _ wx ⟨rfl, hx'⟩
 obtain rfl := hx'.symm
 clear hx' cM
 go_wp2_with fail
 go_ret
 exact ⟨rfl, hB1⟩
set_option maxHeartbeats 1000000 in
theorem add_b3 (B b n : Nat) (N : Int) (m : Int → Option Mk) (k e : Int) (u t : List Value) (w : World) (h : MkAt w B b n N m) (hk : 0 ≤ k) (hk2 : k < N) (he : e < 1) : Calls Tryz.prog 22 #[.pointer (some ⟨B, 0, none⟩), .int .i64 k, .int .i64 e, .agg u.toArray, .agg t.toArray] w fun e w' => e = .returned (.int .i64 2) ∧ Below w.heap.size w w' := by
 go_enter Tryz.func22, Tryz.ntmps22
 go_upto_region 1 with fail
 go_name_world w1 hw1
 obtain ⟨hB1, hRd, hRt, hsz1⟩ := two_box hw1
 clear hw1
 have h1 := h.below hB1
 have cM := isMade_yes B b n N m w1 h1
 have c0 := h1.c0
 go_wp2_with fail
 refine cM.mono ?_
 rintro _ wx ⟨rfl, hx'⟩
 obtain rfl := hx'.symm
 clear hx' cM
 go_wp2_with fail
 go_ret
 exact ⟨rfl, hB1⟩
set_option maxHeartbeats 1000000 in
theorem add_b4 (B b n : Nat) (N : Int) (m : Int → Option Mk) (k e : Int) (u t : List Value) (w : World) (h : MkAt w B b n N m) (hk : 0 ≤ k) (hk2 : k < N) (he1 : 1 ≤ e) (he : 1048576 < e) : Calls Tryz.prog 22 #[.pointer (some ⟨B, 0, none⟩), .int .i64 k, .int .i64 e, .agg u.toArray, .agg t.toArray] w fun e w' => e = .returned (.int .i64 2) ∧ Below w.heap.size w w' := by
 go_enter Tryz.func22, Tryz.ntmps22
 go_upto_region 1 with fail
 go_name_world w1 hw1
 obtain ⟨hB1, hRd, hRt, hsz1⟩ := two_box hw1
 clear hw1
 have h1 := h.below hB1
 have cM := isMade_yes B b n N m w1 h1
 have c0 := h1.c0
 go_wp2_with fail
 refine cM.mono ?_
 rintro _ wx ⟨rfl, hx'⟩
 obtain rfl := hx'.symm
 clear hx' cM
 go_wp2_with fail
 go_ret
 exact ⟨rfl, hB1⟩
def SAd (B b n : Nat) (N : Int) (m : Int → Option Mk) (D : Nat) (u t : List Value) (x : World) : Prop := MkAt x B b n N m ∧ x.rangeAt D 0 u ∧ x.rangeAt (D + 1) 0 t
theorem SAd.below {B b n D : Nat} {N : Int} {m : Int → Option Mk} {u t : List Value} {x y : World} (h : SAd B b n N m D u t x) (hb : Below x.heap.size x y) (hD : D + 2 ≤ x.heap.size) : SAd B b n N m D u t y :=
 ⟨h.1.below hb, range_below h.2.1 hb (by omega), range_below h.2.2 hb (by omega)⟩
theorem SAd.set {B b n D : Nat} {N : Int} {m : Int → Option Mk} {u t : List Value} {x : World} (h : SAd B b n N m D u t x) {Z : Nat} (hZ : D + 2 ≤ Z) (hB : B < D) (hb : b < D) (o : Nat) (cs : List Value) : SAd B b n N m D u t (x.setCells Z o cs) :=
 ⟨h.1.at (by rw [setCells_size]; exact Nat.le_refl _) (World.heap_setCells_other x Z o cs h.1.lt (by omega)) (World.heap_setCells_other x Z o cs h.1.mp.lt (by omega)), World.rangeAt_setCells_apart h.2.1 _ _ _ (.inl (by omega)), World.rangeAt_setCells_apart h.2.2 _ _ _ (.inl (by omega))⟩
theorem add_done {w w8 w9 : World} {B b n : Nat} {N k : Int} {m : Int → Option Mk} {x : Mk} (h : MkAt w B b n N m) (hx : x.ok) (hk : 0 ≤ k ∧ k < N) (he : 1 ≤ x.e ∧ x.e ≤ 1048576) (h8 : MkAt w8 B b n N m) (hm : MapM w9 b (n + 1) (putM m k x)) (hg : w8.grownBy w9 (some b)) (hb : Below w.heap.size w w8) :
  MkAt w9 B b (n + 1) N (putM m k x) ∧ Off (fun z => z = b) w w9 := by
 have hne := h.ne
 have hB : w9.heap[B]? = w8.heap[B]? := hg.block B h8.lt (fun e => hne (by injection e with e; exact e.symm))
 refine ⟨⟨Nat.lt_of_lt_of_le h8.lt hg.size, ?_, ?_, hm, h.good, fun j y hj => ?_⟩, (Off.of_below hb).trans (Off.of_grown hg (fun k hk => by injection hk with hk; exact hk.symm)) (fun _ _ q => q)⟩
 ·rw [← h8.c0]; simp [World.cell?, hB]
 ·rw [← h8.c1]; simp [World.cell?, hB]
 ·unfold putM at hj
  split at hj
  ·rename_i e
   subst e
   obtain rfl := Option.some.inj hj
   exact ⟨hx, hk.1, hk.2, he.1, he.2⟩
  ·exact h.ok j y hj
set_option maxRecDepth 100000 in
set_option maxHeartbeats 4000000 in
theorem add_same (B b n : Nat) (N : Int) (m : Int → Option Mk) (k : Int) (x : Mk) (hx : x.ok) (w : World) (h : MkAt w B b n N m) (hk : 0 ≤ k) (hk2 : k < N) (he1 : 1 ≤ x.e) (he2 : x.e ≤ 1048576) (hv : (wasOf m k).e = x.e ∧ (wasOf m k).d = x.d) : Calls Tryz.prog 22 #[.pointer (some ⟨B, 0, none⟩), .int .i64 k, .int .i64 x.e, .agg (v8 x.d).toArray, .agg (v8 x.t).toArray] w fun e w' => e = .returned (.int .i64 0) ∧ MkAt w' B b n N m ∧ Below w.heap.size w w' := by
 have hk64 : I64 k := by have := h.good; unfold I64; omega
 have hlk : ∀ w', MkAt w' B b n N m → (Instr.lookup 116 (.map (some b)) (.int .i64 k) false).run Tryz.prog w' = .ok (.agg (wasOf m k).cells.toArray) w' := fun w' h' => h'.mp.get k hk64
 have hyo := h.val k
 have hyo : (wasOf m k).ok := hyo
 have hcmp := fun w' => eqM (wasOf m k).e x.e (wasOf m k).d x.d hyo.dl hx.dl w'
 have hbm := fun w' => build_mark x.e (v8 x.d) (by rw [v8_length, hx.dl]) w'
 have hBw := h.lt
 have hbw := h.mp.lt
 generalize wasOf m k = yy at *
 obtain ⟨ye, yd, yt0⟩ := yy
 obtain ⟨xe, xd, xt⟩ := x
 simp only at *
 have hcb : ((ye == xe) && (yd == xd)) = true := by simpa using hv
 simp only [hcb] at hcmp
 clear hcb
 obtain ⟨u, hu⟩ : ∃ u, Hid (v8 xd = u) := ⟨_, hide rfl⟩
 obtain ⟨t, ht⟩ : ∃ u, Hid (v8 xt = u) := ⟨_, hide rfl⟩
 obtain ⟨y, hy⟩ : ∃ u, Hid (mkC ye yd = u) := ⟨_, hide rfl⟩
 obtain ⟨yt, hyt⟩ : ∃ u, Hid (v8 yt0 = u) := ⟨_, hide rfl⟩
 obtain ⟨c, hc⟩ : ∃ u, Hid (mkC xe xd = u) := ⟨_, hide rfl⟩
 have hy33 : y.length = 33 := by rw [← hy.out]; exact mkC_len _ hyo.dl
 have hc33 : c.length = 33 := by rw [← hc.out]; exact mkC_len _ hx.dl
 have hu32 : u.length = 32 := by rw [← hu.out, v8_length]; exact hx.dl
 have ht16 : t.length = 16 := by rw [← ht.out, v8_length]; exact hx.tl
 have hy1 : ∀ v ∈ y, v.oneCell' = true := by rw [← hy.out]; exact mkC_one _ _
 have hc1 : ∀ v ∈ c, v.oneCell' = true := by rw [← hc.out]; exact mkC_one _ _
 have y0 : y[0]? = some (.int .i64 ye) := by rw [← hy.out]; rfl
 have hiD : (Tryz.prog.info? 32).map (·.size) = some u.length := by rw [hu32]; exact iszD
 have hiT : (Tryz.prog.info? 51).map (·.size) = some t.length := by rw [ht16]; exact iszT
 have hiy : (Tryz.prog.info? 120).map (·.size) = some y.length := by rw [hy33]; exact iszM
 have hic : (Tryz.prog.info? 120).map (·.size) = some c.length := by rw [hc33]; exact iszM
 simp only [Mk.cells, hy.out, hyt.out] at hlk
 have hbm : ∀ w' : World, (Instr.build 120 #[(0, .int .i64 xe), (1, .agg u.toArray)]).run Tryz.prog w' = .ok (.agg c.toArray) w' := fun w' => by rw [← hc.out, ← hu.out]; exact hbm w'
 simp only [hy.out, hc.out] at hcmp
 rw [hu.out, ht.out]
 have hzm := zeroMk
 obtain ⟨zm, hzz⟩ : ∃ z, Hid (([Value.int .i64 0] ++ v8 (List.replicate 32 0)) = z) := ⟨_, hide rfl⟩
 have hzm33 : zm.length = 33 := by rw [← hzz.out]; rfl
 simp only [hzz.out] at hzm
 clear hzz hyt hy
 have HV := hide hv
 clear hv
 go_enter Tryz.func22, Tryz.ntmps22
 go_upto_region 1 with fail
 go_name_world w1 hw1
 obtain ⟨hB1, hRd, hRt, hsz1⟩ := two_box hw1
 clear hw1
 have h1 := h.below hB1
 have cM := isMade_yes B b n N m w1 h1
 have c0 := h1.c0
 go_wp2_with fail
 refine cM.mono ?_
 rintro _ wx ⟨rfl, hx'⟩
 obtain rfl := hx'.symm
 clear hx' cM
 go_upto_region 7 with fail
 clear c0
 have hS : SAd B b n N m w.heap.size u t w1.drew := ⟨h1.drew, (World.rangeAt_drew _ _ _ _).2 hRd, (World.rangeAt_drew _ _ _ _).2 hRt⟩
 have hb8 : Below w.heap.size w w1.drew := hB1.drew
 have hs8 : w.heap.size + 2 ≤ w1.drew.heap.size := hsz1
 refine hs_begin (S := SAd B b n N m w.heap.size u t) 14 rfl (by kernel_rfl) ?_
 obtain ⟨w8, hw8⟩ : ∃ w8, w1.drew = w8 := ⟨_, rfl⟩
 rw [hw8] at hS hb8 hs8 ⊢
 clear hw8 h1 hRd hRt hsz1 hB1
 refine hs_t 0 35 (?_) rfl (by kernel_rfl) (by kernel_rfl) (by kernel_rfl) (by rfl) ?_ hS rfl ?_
 rotate_left
 ·intro w' hw
  go_simp
  try with_reducible rfl
 simp only [nz]
 refine hs_t 1 36 (?_) rfl (by kernel_rfl) (by kernel_rfl) (by kernel_rfl) (by rfl) ?_ hS rfl ?_
 rotate_left
 ·intro w' hw
  go_simp
  try with_reducible rfl
 simp only [nz]
 refine hs_t 2 37 (?_) rfl (by kernel_rfl) (by kernel_rfl) (by kernel_rfl) (by rfl) ?_ hS rfl ?_
 rotate_left
 ·intro w' hw
  go_simp
  try with_reducible rfl
 simp only [nz]
 refine hs_t 3 38 (.map (some b)) rfl (by kernel_rfl) (by kernel_rfl) (by kernel_rfl) (by rfl) (fun w' hw => pl_one rfl rfl hw.1.c1 Tryz.underlying116 rfl) hS rfl ?_
 simp only [nz]
 refine hs_t 4 39 (?_) rfl (by kernel_rfl) (by kernel_rfl) (by kernel_rfl) (by rfl) ?_ hS rfl ?_
 rotate_left
 ·intro w' hw
  go_simp
  try with_reducible rfl
 simp only [nz]
 refine hs_t 5 40 (.agg (y ++ yt).toArray) rfl (by kernel_rfl) (by kernel_rfl) (by kernel_rfl) (by rfl) (fun w' hw => ex_look rfl rfl rfl (hlk w' hw.1)) hS rfl ?_
 simp only [nz]
 refine hs_t 6 41 (.agg y.toArray) rfl (by kernel_rfl) (by kernel_rfl) (by kernel_rfl) (by rfl) (fun w' hw => ex_field rfl rfl (run_field2 y yt hy33 w')) hS rfl ?_
 simp only [nz]
 refine hs_t 7 42 (?_) rfl (by kernel_rfl) (by kernel_rfl) (by kernel_rfl) (by rfl) ?_ hS rfl ?_
 rotate_left
 ·intro w' hw
  go_simp
  try with_reducible rfl
 simp only [nz]
 refine hs_t 8 43 (.agg u.toArray) rfl (by kernel_rfl) (by kernel_rfl) (by kernel_rfl) (by rfl) (fun w' hw => ex_mid rfl rfl hw.2.1 Tryz.underlying32 rfl hiD) hS rfl ?_
 simp only [nz]
 refine hs_t 9 44 (.agg c.toArray) rfl (by kernel_rfl) (by kernel_rfl) (by kernel_rfl) (by rfl) (fun w' hw => ex_build rfl rfl (hbm w')) hS rfl ?_
 simp only [nz]
 clear hlk hbm
 refine hs_fork (i := 10) (j := 11) (by kernel_rfl) ?_ ?_
 ·have hb9 : Below w8.heap.size w8 (w8.alloc (.cells zm.toArray 120)) := (Below.refl _ _).alloc (Nat.le_refl _) _
  have hS := hS.below hb9 hs8
  refine st_run (i := 10) (d := some 11) (v := .pointer (some ⟨w8.heap.size, 0, none⟩)) (w' := w8.alloc (.cells zm.toArray 120)) rfl (by rfl) (ex_alloc rfl (hzm _)) rfl hS ?_
  simp only [nz]
  have hT9 := there_newN w8 zm.toArray 120 (n := 33) (by simpa using hzm33)
  obtain ⟨w9, hw9⟩ : ∃ w9, w8.alloc (.cells zm.toArray 120) = w9 := ⟨_, rfl⟩
  have hs9 : w9.heap.size = w8.heap.size + 1 := by rw [← hw9]; simp
  rw [hw9] at hS hb9 hT9 ⊢
  clear hw9
  have hb10 : Below w9.heap.size w9 (w9.alloc (.cells zm.toArray 120)) := (Below.refl _ _).alloc (Nat.le_refl _) _
  have hS := hS.below hb10 (by omega)
  refine hs_run (i := 11) (d := some 12) (v := .pointer (some ⟨w9.heap.size, 0, none⟩)) (w' := w9.alloc (.cells zm.toArray 120)) rfl (by kernel_rfl) (by rfl) (ex_alloc rfl (hzm _)) rfl hS ?_
  simp only [nz]
  have hT10 := there_newN w9 zm.toArray 120 (n := 33) (by simpa using hzm33)
  have hT9 := there_below hT9 hb10 (by omega)
  obtain ⟨w10, hw10⟩ : ∃ w10, w9.alloc (.cells zm.toArray 120) = w10 := ⟨_, rfl⟩
  have hs10 : w9.heap.size < w10.heap.size := by rw [← hw10]; simp
  rw [hw10] at hS hb10 hT10 hT9 ⊢
  clear hw10
  have hbl : Below w.heap.size w w10 := hb8.trans ((hb9.mono hb8.size).trans (hb10.mono (by have := hb8.size; omega)))
  obtain ⟨A, hA⟩ : ∃ A, A = w8.heap.size := ⟨_, rfl⟩
  obtain ⟨C, hC⟩ : ∃ C, C = w9.heap.size := ⟨_, rfl⟩
  have hTA : w10.there A 0 33 := by rw [hA]; exact hT9
  have hTC : w10.there C 0 33 := by rw [hC]; exact hT10
  have hAC : A ≠ C := by omega
  have hAw : w.heap.size + 2 ≤ A := by omega
  have hCw : w.heap.size + 2 ≤ C := by omega
  rw [← hA, ← hC]
  clear hb9 hb10 hT9 hT10 hs9 hs10 hb8 hA hC hs8
  have hA11 : (w10.setCells A 0 y).rangeAt A 0 y := World.rangeAt_setCells_same _ _ _ _ (by rw [hy33]; exact hTA)
  have hS := hS.set hAw hBw hbw 0 y
  refine hs_store (i := 12) (w' := w10.setCells A 0 y) rfl (by kernel_rfl) (by rfl) (ex_put (cs := y.toArray) rfl rfl rfl (by simpa [hy33] using hTA) (by simpa [hy33] using iszM) (all_one hy1)) rfl hS ?_
  have hTC := World.there_setCells hTC A 0 y
  have hbl := below_sets (B := w.heap.size) (b := A) (by omega) y 0 w10 hbl
  obtain ⟨w11, hw11⟩ : ∃ w11, w10.setCells A 0 y = w11 := ⟨_, rfl⟩
  rw [hw11] at hS hA11 hTC hbl ⊢
  clear hw11 hTA
  have hC12 : (w11.setCells C 0 c).rangeAt C 0 c := World.rangeAt_setCells_same _ _ _ _ (by rw [hc33]; exact hTC)
  have hA12 : (w11.setCells C 0 c).rangeAt A 0 y := World.rangeAt_setCells_apart hA11 _ _ _ (.inl hAC)
  have hS := hS.set hCw hBw hbw 0 c
  refine hs_store (i := 13) (w' := w11.setCells C 0 c) rfl (by kernel_rfl) (by rfl) (ex_put (cs := c.toArray) rfl rfl rfl (by simpa [hc33] using hTC) (by simpa [hc33] using iszM) (all_one hc1)) rfl hS ?_
  refine hs_done (by kernel_rfl) ?_
  have hbl := below_sets (B := w.heap.size) (b := C) (by omega) c 0 w11 hbl
  obtain ⟨w12, hw12⟩ : ∃ w12, w11.setCells C 0 c = w12 := ⟨_, rfl⟩
  rw [hw12] at hS hA12 hC12 hbl ⊢
  clear hw12 hA11 hTC
  have hAe := hA12 0 _ y0
  simp only [Nat.add_zero] at hAe
  go_upto_region 8 with fail
  try simp only [Act.put]
  refine pl_begin ?_
  refine pl_t 46 (.agg y.toArray) (by rfl) (ex_mid rfl rfl hA12 Tryz.underlying120 rfl hiy) rfl ?_
  simp only [nz]
  refine pl_t 47 (.agg c.toArray) (by rfl) (ex_mid rfl rfl hC12 Tryz.underlying120 rfl hic) rfl ?_
  simp only [nz]
  refine pl_t 48 (.bool true) (by rfl) (ex_bin rfl rfl rfl (by kernel_rfl) (hcmp w12)) rfl ?_
  simp only [nz]
  refine pl_t 45 (?_) (by rfl) ?_ rfl ?_
  rotate_left
  ·go_simp
   try with_reducible rfl
  simp only [nz]
  refine pl_nil ?_
  go_wp2_with fail
  go_ret
  exact ⟨rfl, hS.1, hbl⟩
 ·have hb9 : Below w8.heap.size w8 (w8.alloc (.cells zm.toArray 120)) := (Below.refl _ _).alloc (Nat.le_refl _) _
  have hS := hS.below hb9 hs8
  refine st_run (i := 11) (d := some 12) (v := .pointer (some ⟨w8.heap.size, 0, none⟩)) (w' := w8.alloc (.cells zm.toArray 120)) rfl (by rfl) (ex_alloc rfl (hzm _)) rfl hS ?_
  simp only [nz]
  have hT9 := there_newN w8 zm.toArray 120 (n := 33) (by simpa using hzm33)
  obtain ⟨w9, hw9⟩ : ∃ w9, w8.alloc (.cells zm.toArray 120) = w9 := ⟨_, rfl⟩
  have hs9 : w9.heap.size = w8.heap.size + 1 := by rw [← hw9]; simp
  rw [hw9] at hS hb9 hT9 ⊢
  clear hw9
  have hb10 : Below w9.heap.size w9 (w9.alloc (.cells zm.toArray 120)) := (Below.refl _ _).alloc (Nat.le_refl _) _
  have hS := hS.below hb10 (by omega)
  refine hs_run (i := 10) (d := some 11) (v := .pointer (some ⟨w9.heap.size, 0, none⟩)) (w' := w9.alloc (.cells zm.toArray 120)) rfl (by kernel_rfl) (by rfl) (ex_alloc rfl (hzm _)) rfl hS ?_
  simp only [nz]
  have hT10 := there_newN w9 zm.toArray 120 (n := 33) (by simpa using hzm33)
  have hT9 := there_below hT9 hb10 (by omega)
  obtain ⟨w10, hw10⟩ : ∃ w10, w9.alloc (.cells zm.toArray 120) = w10 := ⟨_, rfl⟩
  have hs10 : w9.heap.size < w10.heap.size := by rw [← hw10]; simp
  rw [hw10] at hS hb10 hT10 hT9 ⊢
  clear hw10
  have hbl : Below w.heap.size w w10 := hb8.trans ((hb9.mono hb8.size).trans (hb10.mono (by have := hb8.size; omega)))
  obtain ⟨A, hA⟩ : ∃ A, A = w9.heap.size := ⟨_, rfl⟩
  obtain ⟨C, hC⟩ : ∃ C, C = w8.heap.size := ⟨_, rfl⟩
  have hTA : w10.there A 0 33 := by rw [hA]; exact hT10
  have hTC : w10.there C 0 33 := by rw [hC]; exact hT9
  have hAC : A ≠ C := by omega
  have hAw : w.heap.size + 2 ≤ A := by omega
  have hCw : w.heap.size + 2 ≤ C := by omega
  rw [← hA, ← hC]
  clear hb9 hb10 hT9 hT10 hs9 hs10 hb8 hA hC hs8
  have hA11 : (w10.setCells A 0 y).rangeAt A 0 y := World.rangeAt_setCells_same _ _ _ _ (by rw [hy33]; exact hTA)
  have hS := hS.set hAw hBw hbw 0 y
  refine hs_store (i := 12) (w' := w10.setCells A 0 y) rfl (by kernel_rfl) (by rfl) (ex_put (cs := y.toArray) rfl rfl rfl (by simpa [hy33] using hTA) (by simpa [hy33] using iszM) (all_one hy1)) rfl hS ?_
  have hTC := World.there_setCells hTC A 0 y
  have hbl := below_sets (B := w.heap.size) (b := A) (by omega) y 0 w10 hbl
  obtain ⟨w11, hw11⟩ : ∃ w11, w10.setCells A 0 y = w11 := ⟨_, rfl⟩
  rw [hw11] at hS hA11 hTC hbl ⊢
  clear hw11 hTA
  have hC12 : (w11.setCells C 0 c).rangeAt C 0 c := World.rangeAt_setCells_same _ _ _ _ (by rw [hc33]; exact hTC)
  have hA12 : (w11.setCells C 0 c).rangeAt A 0 y := World.rangeAt_setCells_apart hA11 _ _ _ (.inl hAC)
  have hS := hS.set hCw hBw hbw 0 c
  refine hs_store (i := 13) (w' := w11.setCells C 0 c) rfl (by kernel_rfl) (by rfl) (ex_put (cs := c.toArray) rfl rfl rfl (by simpa [hc33] using hTC) (by simpa [hc33] using iszM) (all_one hc1)) rfl hS ?_
  refine hs_done (by kernel_rfl) ?_
  have hbl := below_sets (B := w.heap.size) (b := C) (by omega) c 0 w11 hbl
  obtain ⟨w12, hw12⟩ : ∃ w12, w11.setCells C 0 c = w12 := ⟨_, rfl⟩
  rw [hw12] at hS hA12 hC12 hbl ⊢
  clear hw12 hA11 hTC
  have hAe := hA12 0 _ y0
  simp only [Nat.add_zero] at hAe
  go_upto_region 8 with fail
  try simp only [Act.put]
  refine pl_begin ?_
  refine pl_t 46 (.agg y.toArray) (by rfl) (ex_mid rfl rfl hA12 Tryz.underlying120 rfl hiy) rfl ?_
  simp only [nz]
  refine pl_t 47 (.agg c.toArray) (by rfl) (ex_mid rfl rfl hC12 Tryz.underlying120 rfl hic) rfl ?_
  simp only [nz]
  refine pl_t 48 (.bool true) (by rfl) (ex_bin rfl rfl rfl (by kernel_rfl) (hcmp w12)) rfl ?_
  simp only [nz]
  refine pl_t 45 (?_) (by rfl) ?_ rfl ?_
  rotate_left
  ·go_simp
   try with_reducible rfl
  simp only [nz]
  refine pl_nil ?_
  go_wp2_with fail
  go_ret
  exact ⟨rfl, hS.1, hbl⟩
set_option maxRecDepth 100000 in
set_option maxHeartbeats 4000000 in
theorem add_other (B b n : Nat) (N : Int) (m : Int → Option Mk) (k : Int) (x : Mk) (hx : x.ok) (w : World) (h : MkAt w B b n N m) (hk : 0 ≤ k) (hk2 : k < N) (he1 : 1 ≤ x.e) (he2 : x.e ≤ 1048576) (hv : ¬ ((wasOf m k).e = x.e ∧ (wasOf m k).d = x.d)) (hee : (wasOf m k).e = x.e) : Calls Tryz.prog 22 #[.pointer (some ⟨B, 0, none⟩), .int .i64 k, .int .i64 x.e, .agg (v8 x.d).toArray, .agg (v8 x.t).toArray] w fun e w' => e = .returned (.int .i64 181) ∧ MkAt w' B b n N m ∧ Below w.heap.size w w' := by
 have hk64 : I64 k := by have := h.good; unfold I64; omega
 have hlk : ∀ w', MkAt w' B b n N m → (Instr.lookup 116 (.map (some b)) (.int .i64 k) false).run Tryz.prog w' = .ok (.agg (wasOf m k).cells.toArray) w' := fun w' h' => h'.mp.get k hk64
 have hyo := h.val k
 have hyo : (wasOf m k).ok := hyo
 have hcmp := fun w' => eqM (wasOf m k).e x.e (wasOf m k).d x.d hyo.dl hx.dl w'
 have hbm := fun w' => build_mark x.e (v8 x.d) (by rw [v8_length, hx.dl]) w'
 have hBw := h.lt
 have hbw := h.mp.lt
 generalize wasOf m k = yy at *
 obtain ⟨ye, yd, yt0⟩ := yy
 obtain ⟨xe, xd, xt⟩ := x
 simp only at *
 have hcb : ((ye == xe) && (yd == xd)) = false := by simpa using hv
 simp only [hcb] at hcmp
 clear hcb
 obtain ⟨u, hu⟩ : ∃ u, Hid (v8 xd = u) := ⟨_, hide rfl⟩
 obtain ⟨t, ht⟩ : ∃ u, Hid (v8 xt = u) := ⟨_, hide rfl⟩
 obtain ⟨y, hy⟩ : ∃ u, Hid (mkC ye yd = u) := ⟨_, hide rfl⟩
 obtain ⟨yt, hyt⟩ : ∃ u, Hid (v8 yt0 = u) := ⟨_, hide rfl⟩
 obtain ⟨c, hc⟩ : ∃ u, Hid (mkC xe xd = u) := ⟨_, hide rfl⟩
 have hy33 : y.length = 33 := by rw [← hy.out]; exact mkC_len _ hyo.dl
 have hc33 : c.length = 33 := by rw [← hc.out]; exact mkC_len _ hx.dl
 have hu32 : u.length = 32 := by rw [← hu.out, v8_length]; exact hx.dl
 have ht16 : t.length = 16 := by rw [← ht.out, v8_length]; exact hx.tl
 have hy1 : ∀ v ∈ y, v.oneCell' = true := by rw [← hy.out]; exact mkC_one _ _
 have hc1 : ∀ v ∈ c, v.oneCell' = true := by rw [← hc.out]; exact mkC_one _ _
 have y0 : y[0]? = some (.int .i64 ye) := by rw [← hy.out]; rfl
 have hiD : (Tryz.prog.info? 32).map (·.size) = some u.length := by rw [hu32]; exact iszD
 have hiT : (Tryz.prog.info? 51).map (·.size) = some t.length := by rw [ht16]; exact iszT
 have hiy : (Tryz.prog.info? 120).map (·.size) = some y.length := by rw [hy33]; exact iszM
 have hic : (Tryz.prog.info? 120).map (·.size) = some c.length := by rw [hc33]; exact iszM
 simp only [Mk.cells, hy.out, hyt.out] at hlk
 have hbm : ∀ w' : World, (Instr.build 120 #[(0, .int .i64 xe), (1, .agg u.toArray)]).run Tryz.prog w' = .ok (.agg c.toArray) w' := fun w' => by rw [← hc.out, ← hu.out]; exact hbm w'
 simp only [hy.out, hc.out] at hcmp
 rw [hu.out, ht.out]
 have hzm := zeroMk
 obtain ⟨zm, hzz⟩ : ∃ z, Hid (([Value.int .i64 0] ++ v8 (List.replicate 32 0)) = z) := ⟨_, hide rfl⟩
 have hzm33 : zm.length = 33 := by rw [← hzz.out]; rfl
 simp only [hzz.out] at hzm
 have hq : (ye == xe) = true := by simpa using hee
 have HE := hide hee
 clear hee
 clear hzz hyt hy
 have HV := hide hv
 clear hv
 go_enter Tryz.func22, Tryz.ntmps22
 go_upto_region 1 with fail
 go_name_world w1 hw1
 obtain ⟨hB1, hRd, hRt, hsz1⟩ := two_box hw1
 clear hw1
 have h1 := h.below hB1
 have cM := isMade_yes B b n N m w1 h1
 have c0 := h1.c0
 go_wp2_with fail
 refine cM.mono ?_
 rintro _ wx ⟨rfl, hx'⟩
 obtain rfl := hx'.symm
 clear hx' cM
 go_upto_region 7 with fail
 clear c0
 have hS : SAd B b n N m w.heap.size u t w1.drew := ⟨h1.drew, (World.rangeAt_drew _ _ _ _).2 hRd, (World.rangeAt_drew _ _ _ _).2 hRt⟩
 have hb8 : Below w.heap.size w w1.drew := hB1.drew
 have hs8 : w.heap.size + 2 ≤ w1.drew.heap.size := hsz1
 refine hs_begin (S := SAd B b n N m w.heap.size u t) 14 rfl (by kernel_rfl) ?_
 obtain ⟨w8, hw8⟩ : ∃ w8, w1.drew = w8 := ⟨_, rfl⟩
 rw [hw8] at hS hb8 hs8 ⊢
 clear hw8 h1 hRd hRt hsz1 hB1
 refine hs_t 0 35 (?_) rfl (by kernel_rfl) (by kernel_rfl) (by kernel_rfl) (by rfl) ?_ hS rfl ?_
 rotate_left
 ·intro w' hw
  go_simp
  try with_reducible rfl
 simp only [nz]
 refine hs_t 1 36 (?_) rfl (by kernel_rfl) (by kernel_rfl) (by kernel_rfl) (by rfl) ?_ hS rfl ?_
 rotate_left
 ·intro w' hw
  go_simp
  try with_reducible rfl
 simp only [nz]
 refine hs_t 2 37 (?_) rfl (by kernel_rfl) (by kernel_rfl) (by kernel_rfl) (by rfl) ?_ hS rfl ?_
 rotate_left
 ·intro w' hw
  go_simp
  try with_reducible rfl
 simp only [nz]
 refine hs_t 3 38 (.map (some b)) rfl (by kernel_rfl) (by kernel_rfl) (by kernel_rfl) (by rfl) (fun w' hw => pl_one rfl rfl hw.1.c1 Tryz.underlying116 rfl) hS rfl ?_
 simp only [nz]
 refine hs_t 4 39 (?_) rfl (by kernel_rfl) (by kernel_rfl) (by kernel_rfl) (by rfl) ?_ hS rfl ?_
 rotate_left
 ·intro w' hw
  go_simp
  try with_reducible rfl
 simp only [nz]
 refine hs_t 5 40 (.agg (y ++ yt).toArray) rfl (by kernel_rfl) (by kernel_rfl) (by kernel_rfl) (by rfl) (fun w' hw => ex_look rfl rfl rfl (hlk w' hw.1)) hS rfl ?_
 simp only [nz]
 refine hs_t 6 41 (.agg y.toArray) rfl (by kernel_rfl) (by kernel_rfl) (by kernel_rfl) (by rfl) (fun w' hw => ex_field rfl rfl (run_field2 y yt hy33 w')) hS rfl ?_
 simp only [nz]
 refine hs_t 7 42 (?_) rfl (by kernel_rfl) (by kernel_rfl) (by kernel_rfl) (by rfl) ?_ hS rfl ?_
 rotate_left
 ·intro w' hw
  go_simp
  try with_reducible rfl
 simp only [nz]
 refine hs_t 8 43 (.agg u.toArray) rfl (by kernel_rfl) (by kernel_rfl) (by kernel_rfl) (by rfl) (fun w' hw => ex_mid rfl rfl hw.2.1 Tryz.underlying32 rfl hiD) hS rfl ?_
 simp only [nz]
 refine hs_t 9 44 (.agg c.toArray) rfl (by kernel_rfl) (by kernel_rfl) (by kernel_rfl) (by rfl) (fun w' hw => ex_build rfl rfl (hbm w')) hS rfl ?_
 simp only [nz]
 clear hlk hbm
 refine hs_fork (i := 10) (j := 11) (by kernel_rfl) ?_ ?_
 ·have hb9 : Below w8.heap.size w8 (w8.alloc (.cells zm.toArray 120)) := (Below.refl _ _).alloc (Nat.le_refl _) _
  have hS := hS.below hb9 hs8
  refine st_run (i := 10) (d := some 11) (v := .pointer (some ⟨w8.heap.size, 0, none⟩)) (w' := w8.alloc (.cells zm.toArray 120)) rfl (by rfl) (ex_alloc rfl (hzm _)) rfl hS ?_
  simp only [nz]
  have hT9 := there_newN w8 zm.toArray 120 (n := 33) (by simpa using hzm33)
  obtain ⟨w9, hw9⟩ : ∃ w9, w8.alloc (.cells zm.toArray 120) = w9 := ⟨_, rfl⟩
  have hs9 : w9.heap.size = w8.heap.size + 1 := by rw [← hw9]; simp
  rw [hw9] at hS hb9 hT9 ⊢
  clear hw9
  have hb10 : Below w9.heap.size w9 (w9.alloc (.cells zm.toArray 120)) := (Below.refl _ _).alloc (Nat.le_refl _) _
  have hS := hS.below hb10 (by omega)
  refine hs_run (i := 11) (d := some 12) (v := .pointer (some ⟨w9.heap.size, 0, none⟩)) (w' := w9.alloc (.cells zm.toArray 120)) rfl (by kernel_rfl) (by rfl) (ex_alloc rfl (hzm _)) rfl hS ?_
  simp only [nz]
  have hT10 := there_newN w9 zm.toArray 120 (n := 33) (by simpa using hzm33)
  have hT9 := there_below hT9 hb10 (by omega)
  obtain ⟨w10, hw10⟩ : ∃ w10, w9.alloc (.cells zm.toArray 120) = w10 := ⟨_, rfl⟩
  have hs10 : w9.heap.size < w10.heap.size := by rw [← hw10]; simp
  rw [hw10] at hS hb10 hT10 hT9 ⊢
  clear hw10
  have hbl : Below w.heap.size w w10 := hb8.trans ((hb9.mono hb8.size).trans (hb10.mono (by have := hb8.size; omega)))
  obtain ⟨A, hA⟩ : ∃ A, A = w8.heap.size := ⟨_, rfl⟩
  obtain ⟨C, hC⟩ : ∃ C, C = w9.heap.size := ⟨_, rfl⟩
  have hTA : w10.there A 0 33 := by rw [hA]; exact hT9
  have hTC : w10.there C 0 33 := by rw [hC]; exact hT10
  have hAC : A ≠ C := by omega
  have hAw : w.heap.size + 2 ≤ A := by omega
  have hCw : w.heap.size + 2 ≤ C := by omega
  rw [← hA, ← hC]
  clear hb9 hb10 hT9 hT10 hs9 hs10 hb8 hA hC hs8
  have hA11 : (w10.setCells A 0 y).rangeAt A 0 y := World.rangeAt_setCells_same _ _ _ _ (by rw [hy33]; exact hTA)
  have hS := hS.set hAw hBw hbw 0 y
  refine hs_store (i := 12) (w' := w10.setCells A 0 y) rfl (by kernel_rfl) (by rfl) (ex_put (cs := y.toArray) rfl rfl rfl (by simpa [hy33] using hTA) (by simpa [hy33] using iszM) (all_one hy1)) rfl hS ?_
  have hTC := World.there_setCells hTC A 0 y
  have hbl := below_sets (B := w.heap.size) (b := A) (by omega) y 0 w10 hbl
  obtain ⟨w11, hw11⟩ : ∃ w11, w10.setCells A 0 y = w11 := ⟨_, rfl⟩
  rw [hw11] at hS hA11 hTC hbl ⊢
  clear hw11 hTA
  have hC12 : (w11.setCells C 0 c).rangeAt C 0 c := World.rangeAt_setCells_same _ _ _ _ (by rw [hc33]; exact hTC)
  have hA12 : (w11.setCells C 0 c).rangeAt A 0 y := World.rangeAt_setCells_apart hA11 _ _ _ (.inl hAC)
  have hS := hS.set hCw hBw hbw 0 c
  refine hs_store (i := 13) (w' := w11.setCells C 0 c) rfl (by kernel_rfl) (by rfl) (ex_put (cs := c.toArray) rfl rfl rfl (by simpa [hc33] using hTC) (by simpa [hc33] using iszM) (all_one hc1)) rfl hS ?_
  refine hs_done (by kernel_rfl) ?_
  have hbl := below_sets (B := w.heap.size) (b := C) (by omega) c 0 w11 hbl
  obtain ⟨w12, hw12⟩ : ∃ w12, w11.setCells C 0 c = w12 := ⟨_, rfl⟩
  rw [hw12] at hS hA12 hC12 hbl ⊢
  clear hw12 hA11 hTC
  have hAe := hA12 0 _ y0
  simp only [Nat.add_zero] at hAe
  go_upto_region 8 with fail
  try simp only [Act.put]
  refine pl_begin ?_
  refine pl_t 46 (.agg y.toArray) (by rfl) (ex_mid rfl rfl hA12 Tryz.underlying120 rfl hiy) rfl ?_
  simp only [nz]
  refine pl_t 47 (.agg c.toArray) (by rfl) (ex_mid rfl rfl hC12 Tryz.underlying120 rfl hic) rfl ?_
  simp only [nz]
  refine pl_t 48 (.bool false) (by rfl) (ex_bin rfl rfl rfl (by kernel_rfl) (hcmp w12)) rfl ?_
  simp only [nz]
  refine pl_t 45 (?_) (by rfl) ?_ rfl ?_
  rotate_left
  ·go_simp
   try with_reducible rfl
  simp only [nz]
  refine pl_nil ?_
  go_wp2_with fail
  go_ret
  exact ⟨rfl, hS.1, hbl⟩
 ·have hb9 : Below w8.heap.size w8 (w8.alloc (.cells zm.toArray 120)) := (Below.refl _ _).alloc (Nat.le_refl _) _
  have hS := hS.below hb9 hs8
  refine st_run (i := 11) (d := some 12) (v := .pointer (some ⟨w8.heap.size, 0, none⟩)) (w' := w8.alloc (.cells zm.toArray 120)) rfl (by rfl) (ex_alloc rfl (hzm _)) rfl hS ?_
  simp only [nz]
  have hT9 := there_newN w8 zm.toArray 120 (n := 33) (by simpa using hzm33)
  obtain ⟨w9, hw9⟩ : ∃ w9, w8.alloc (.cells zm.toArray 120) = w9 := ⟨_, rfl⟩
  have hs9 : w9.heap.size = w8.heap.size + 1 := by rw [← hw9]; simp
  rw [hw9] at hS hb9 hT9 ⊢
  clear hw9
  have hb10 : Below w9.heap.size w9 (w9.alloc (.cells zm.toArray 120)) := (Below.refl _ _).alloc (Nat.le_refl _) _
  have hS := hS.below hb10 (by omega)
  refine hs_run (i := 10) (d := some 11) (v := .pointer (some ⟨w9.heap.size, 0, none⟩)) (w' := w9.alloc (.cells zm.toArray 120)) rfl (by kernel_rfl) (by rfl) (ex_alloc rfl (hzm _)) rfl hS ?_
  simp only [nz]
  have hT10 := there_newN w9 zm.toArray 120 (n := 33) (by simpa using hzm33)
  have hT9 := there_below hT9 hb10 (by omega)
  obtain ⟨w10, hw10⟩ : ∃ w10, w9.alloc (.cells zm.toArray 120) = w10 := ⟨_, rfl⟩
  have hs10 : w9.heap.size < w10.heap.size := by rw [← hw10]; simp
  rw [hw10] at hS hb10 hT10 hT9 ⊢
  clear hw10
  have hbl : Below w.heap.size w w10 := hb8.trans ((hb9.mono hb8.size).trans (hb10.mono (by have := hb8.size; omega)))
  obtain ⟨A, hA⟩ : ∃ A, A = w9.heap.size := ⟨_, rfl⟩
  obtain ⟨C, hC⟩ : ∃ C, C = w8.heap.size := ⟨_, rfl⟩
  have hTA : w10.there A 0 33 := by rw [hA]; exact hT10
  have hTC : w10.there C 0 33 := by rw [hC]; exact hT9
  have hAC : A ≠ C := by omega
  have hAw : w.heap.size + 2 ≤ A := by omega
  have hCw : w.heap.size + 2 ≤ C := by omega
  rw [← hA, ← hC]
  clear hb9 hb10 hT9 hT10 hs9 hs10 hb8 hA hC hs8
  have hA11 : (w10.setCells A 0 y).rangeAt A 0 y := World.rangeAt_setCells_same _ _ _ _ (by rw [hy33]; exact hTA)
  have hS := hS.set hAw hBw hbw 0 y
  refine hs_store (i := 12) (w' := w10.setCells A 0 y) rfl (by kernel_rfl) (by rfl) (ex_put (cs := y.toArray) rfl rfl rfl (by simpa [hy33] using hTA) (by simpa [hy33] using iszM) (all_one hy1)) rfl hS ?_
  have hTC := World.there_setCells hTC A 0 y
  have hbl := below_sets (B := w.heap.size) (b := A) (by omega) y 0 w10 hbl
  obtain ⟨w11, hw11⟩ : ∃ w11, w10.setCells A 0 y = w11 := ⟨_, rfl⟩
  rw [hw11] at hS hA11 hTC hbl ⊢
  clear hw11 hTA
  have hC12 : (w11.setCells C 0 c).rangeAt C 0 c := World.rangeAt_setCells_same _ _ _ _ (by rw [hc33]; exact hTC)
  have hA12 : (w11.setCells C 0 c).rangeAt A 0 y := World.rangeAt_setCells_apart hA11 _ _ _ (.inl hAC)
  have hS := hS.set hCw hBw hbw 0 c
  refine hs_store (i := 13) (w' := w11.setCells C 0 c) rfl (by kernel_rfl) (by rfl) (ex_put (cs := c.toArray) rfl rfl rfl (by simpa [hc33] using hTC) (by simpa [hc33] using iszM) (all_one hc1)) rfl hS ?_
  refine hs_done (by kernel_rfl) ?_
  have hbl := below_sets (B := w.heap.size) (b := C) (by omega) c 0 w11 hbl
  obtain ⟨w12, hw12⟩ : ∃ w12, w11.setCells C 0 c = w12 := ⟨_, rfl⟩
  rw [hw12] at hS hA12 hC12 hbl ⊢
  clear hw12 hA11 hTC
  have hAe := hA12 0 _ y0
  simp only [Nat.add_zero] at hAe
  go_upto_region 8 with fail
  try simp only [Act.put]
  refine pl_begin ?_
  refine pl_t 46 (.agg y.toArray) (by rfl) (ex_mid rfl rfl hA12 Tryz.underlying120 rfl hiy) rfl ?_
  simp only [nz]
  refine pl_t 47 (.agg c.toArray) (by rfl) (ex_mid rfl rfl hC12 Tryz.underlying120 rfl hic) rfl ?_
  simp only [nz]
  refine pl_t 48 (.bool false) (by rfl) (ex_bin rfl rfl rfl (by kernel_rfl) (hcmp w12)) rfl ?_
  simp only [nz]
  refine pl_t 45 (?_) (by rfl) ?_ rfl ?_
  rotate_left
  ·go_simp
   try with_reducible rfl
  simp only [nz]
  refine pl_nil ?_
  go_wp2_with fail
  go_ret
  exact ⟨rfl, hS.1, hbl⟩
set_option maxRecDepth 100000 in
set_option maxHeartbeats 4000000 in
theorem add_old (B b n : Nat) (N : Int) (m : Int → Option Mk) (k : Int) (x : Mk) (hx : x.ok) (w : World) (h : MkAt w B b n N m) (hk : 0 ≤ k) (hk2 : k < N) (he1 : 1 ≤ x.e) (he2 : x.e ≤ 1048576) (hv : ¬ ((wasOf m k).e = x.e ∧ (wasOf m k).d = x.d)) (hee : x.e < (wasOf m k).e) : Calls Tryz.prog 22 #[.pointer (some ⟨B, 0, none⟩), .int .i64 k, .int .i64 x.e, .agg (v8 x.d).toArray, .agg (v8 x.t).toArray] w fun e w' => e = .returned (.int .i64 90) ∧ MkAt w' B b n N m ∧ Below w.heap.size w w' := by
 have hk64 : I64 k := by have := h.good; unfold I64; omega
 have hlk : ∀ w', MkAt w' B b n N m → (Instr.lookup 116 (.map (some b)) (.int .i64 k) false).run Tryz.prog w' = .ok (.agg (wasOf m k).cells.toArray) w' := fun w' h' => h'.mp.get k hk64
 have hyo := h.val k
 have hyo : (wasOf m k).ok := hyo
 have hcmp := fun w' => eqM (wasOf m k).e x.e (wasOf m k).d x.d hyo.dl hx.dl w'
 have hbm := fun w' => build_mark x.e (v8 x.d) (by rw [v8_length, hx.dl]) w'
 have hBw := h.lt
 have hbw := h.mp.lt
 generalize wasOf m k = yy at *
 obtain ⟨ye, yd, yt0⟩ := yy
 obtain ⟨xe, xd, xt⟩ := x
 simp only at *
 have hcb : ((ye == xe) && (yd == xd)) = false := by simpa using hv
 simp only [hcb] at hcmp
 clear hcb
 obtain ⟨u, hu⟩ : ∃ u, Hid (v8 xd = u) := ⟨_, hide rfl⟩
 obtain ⟨t, ht⟩ : ∃ u, Hid (v8 xt = u) := ⟨_, hide rfl⟩
 obtain ⟨y, hy⟩ : ∃ u, Hid (mkC ye yd = u) := ⟨_, hide rfl⟩
 obtain ⟨yt, hyt⟩ : ∃ u, Hid (v8 yt0 = u) := ⟨_, hide rfl⟩
 obtain ⟨c, hc⟩ : ∃ u, Hid (mkC xe xd = u) := ⟨_, hide rfl⟩
 have hy33 : y.length = 33 := by rw [← hy.out]; exact mkC_len _ hyo.dl
 have hc33 : c.length = 33 := by rw [← hc.out]; exact mkC_len _ hx.dl
 have hu32 : u.length = 32 := by rw [← hu.out, v8_length]; exact hx.dl
 have ht16 : t.length = 16 := by rw [← ht.out, v8_length]; exact hx.tl
 have hy1 : ∀ v ∈ y, v.oneCell' = true := by rw [← hy.out]; exact mkC_one _ _
 have hc1 : ∀ v ∈ c, v.oneCell' = true := by rw [← hc.out]; exact mkC_one _ _
 have y0 : y[0]? = some (.int .i64 ye) := by rw [← hy.out]; rfl
 have hiD : (Tryz.prog.info? 32).map (·.size) = some u.length := by rw [hu32]; exact iszD
 have hiT : (Tryz.prog.info? 51).map (·.size) = some t.length := by rw [ht16]; exact iszT
 have hiy : (Tryz.prog.info? 120).map (·.size) = some y.length := by rw [hy33]; exact iszM
 have hic : (Tryz.prog.info? 120).map (·.size) = some c.length := by rw [hc33]; exact iszM
 simp only [Mk.cells, hy.out, hyt.out] at hlk
 have hbm : ∀ w' : World, (Instr.build 120 #[(0, .int .i64 xe), (1, .agg u.toArray)]).run Tryz.prog w' = .ok (.agg c.toArray) w' := fun w' => by rw [← hc.out, ← hu.out]; exact hbm w'
 simp only [hy.out, hc.out] at hcmp
 rw [hu.out, ht.out]
 have hzm := zeroMk
 obtain ⟨zm, hzz⟩ : ∃ z, Hid (([Value.int .i64 0] ++ v8 (List.replicate 32 0)) = z) := ⟨_, hide rfl⟩
 have hzm33 : zm.length = 33 := by rw [← hzz.out]; rfl
 simp only [hzz.out] at hzm
 have hq : (ye == xe) = false := by simp; omega
 clear hzz hyt hy
 have HV := hide hv
 clear hv
 go_enter Tryz.func22, Tryz.ntmps22
 go_upto_region 1 with fail
 go_name_world w1 hw1
 obtain ⟨hB1, hRd, hRt, hsz1⟩ := two_box hw1
 clear hw1
 have h1 := h.below hB1
 have cM := isMade_yes B b n N m w1 h1
 have c0 := h1.c0
 go_wp2_with fail
 refine cM.mono ?_
 rintro _ wx ⟨rfl, hx'⟩
 obtain rfl := hx'.symm
 clear hx' cM
 go_upto_region 7 with fail
 clear c0
 have hS : SAd B b n N m w.heap.size u t w1.drew := ⟨h1.drew, (World.rangeAt_drew _ _ _ _).2 hRd, (World.rangeAt_drew _ _ _ _).2 hRt⟩
 have hb8 : Below w.heap.size w w1.drew := hB1.drew
 have hs8 : w.heap.size + 2 ≤ w1.drew.heap.size := hsz1
 refine hs_begin (S := SAd B b n N m w.heap.size u t) 14 rfl (by kernel_rfl) ?_
 obtain ⟨w8, hw8⟩ : ∃ w8, w1.drew = w8 := ⟨_, rfl⟩
 rw [hw8] at hS hb8 hs8 ⊢
 clear hw8 h1 hRd hRt hsz1 hB1
 refine hs_t 0 35 (?_) rfl (by kernel_rfl) (by kernel_rfl) (by kernel_rfl) (by rfl) ?_ hS rfl ?_
 rotate_left
 ·intro w' hw
  go_simp
  try with_reducible rfl
 simp only [nz]
 refine hs_t 1 36 (?_) rfl (by kernel_rfl) (by kernel_rfl) (by kernel_rfl) (by rfl) ?_ hS rfl ?_
 rotate_left
 ·intro w' hw
  go_simp
  try with_reducible rfl
 simp only [nz]
 refine hs_t 2 37 (?_) rfl (by kernel_rfl) (by kernel_rfl) (by kernel_rfl) (by rfl) ?_ hS rfl ?_
 rotate_left
 ·intro w' hw
  go_simp
  try with_reducible rfl
 simp only [nz]
 refine hs_t 3 38 (.map (some b)) rfl (by kernel_rfl) (by kernel_rfl) (by kernel_rfl) (by rfl) (fun w' hw => pl_one rfl rfl hw.1.c1 Tryz.underlying116 rfl) hS rfl ?_
 simp only [nz]
 refine hs_t 4 39 (?_) rfl (by kernel_rfl) (by kernel_rfl) (by kernel_rfl) (by rfl) ?_ hS rfl ?_
 rotate_left
 ·intro w' hw
  go_simp
  try with_reducible rfl
 simp only [nz]
 refine hs_t 5 40 (.agg (y ++ yt).toArray) rfl (by kernel_rfl) (by kernel_rfl) (by kernel_rfl) (by rfl) (fun w' hw => ex_look rfl rfl rfl (hlk w' hw.1)) hS rfl ?_
 simp only [nz]
 refine hs_t 6 41 (.agg y.toArray) rfl (by kernel_rfl) (by kernel_rfl) (by kernel_rfl) (by rfl) (fun w' hw => ex_field rfl rfl (run_field2 y yt hy33 w')) hS rfl ?_
 simp only [nz]
 refine hs_t 7 42 (?_) rfl (by kernel_rfl) (by kernel_rfl) (by kernel_rfl) (by rfl) ?_ hS rfl ?_
 rotate_left
 ·intro w' hw
  go_simp
  try with_reducible rfl
 simp only [nz]
 refine hs_t 8 43 (.agg u.toArray) rfl (by kernel_rfl) (by kernel_rfl) (by kernel_rfl) (by rfl) (fun w' hw => ex_mid rfl rfl hw.2.1 Tryz.underlying32 rfl hiD) hS rfl ?_
 simp only [nz]
 refine hs_t 9 44 (.agg c.toArray) rfl (by kernel_rfl) (by kernel_rfl) (by kernel_rfl) (by rfl) (fun w' hw => ex_build rfl rfl (hbm w')) hS rfl ?_
 simp only [nz]
 clear hlk hbm
 refine hs_fork (i := 10) (j := 11) (by kernel_rfl) ?_ ?_
 ·have hb9 : Below w8.heap.size w8 (w8.alloc (.cells zm.toArray 120)) := (Below.refl _ _).alloc (Nat.le_refl _) _
  have hS := hS.below hb9 hs8
  refine st_run (i := 10) (d := some 11) (v := .pointer (some ⟨w8.heap.size, 0, none⟩)) (w' := w8.alloc (.cells zm.toArray 120)) rfl (by rfl) (ex_alloc rfl (hzm _)) rfl hS ?_
  simp only [nz]
  have hT9 := there_newN w8 zm.toArray 120 (n := 33) (by simpa using hzm33)
  obtain ⟨w9, hw9⟩ : ∃ w9, w8.alloc (.cells zm.toArray 120) = w9 := ⟨_, rfl⟩
  have hs9 : w9.heap.size = w8.heap.size + 1 := by rw [← hw9]; simp
  rw [hw9] at hS hb9 hT9 ⊢
  clear hw9
  have hb10 : Below w9.heap.size w9 (w9.alloc (.cells zm.toArray 120)) := (Below.refl _ _).alloc (Nat.le_refl _) _
  have hS := hS.below hb10 (by omega)
  refine hs_run (i := 11) (d := some 12) (v := .pointer (some ⟨w9.heap.size, 0, none⟩)) (w' := w9.alloc (.cells zm.toArray 120)) rfl (by kernel_rfl) (by rfl) (ex_alloc rfl (hzm _)) rfl hS ?_
  simp only [nz]
  have hT10 := there_newN w9 zm.toArray 120 (n := 33) (by simpa using hzm33)
  have hT9 := there_below hT9 hb10 (by omega)
  obtain ⟨w10, hw10⟩ : ∃ w10, w9.alloc (.cells zm.toArray 120) = w10 := ⟨_, rfl⟩
  have hs10 : w9.heap.size < w10.heap.size := by rw [← hw10]; simp
  rw [hw10] at hS hb10 hT10 hT9 ⊢
  clear hw10
  have hbl : Below w.heap.size w w10 := hb8.trans ((hb9.mono hb8.size).trans (hb10.mono (by have := hb8.size; omega)))
  obtain ⟨A, hA⟩ : ∃ A, A = w8.heap.size := ⟨_, rfl⟩
  obtain ⟨C, hC⟩ : ∃ C, C = w9.heap.size := ⟨_, rfl⟩
  have hTA : w10.there A 0 33 := by rw [hA]; exact hT9
  have hTC : w10.there C 0 33 := by rw [hC]; exact hT10
  have hAC : A ≠ C := by omega
  have hAw : w.heap.size + 2 ≤ A := by omega
  have hCw : w.heap.size + 2 ≤ C := by omega
  rw [← hA, ← hC]
  clear hb9 hb10 hT9 hT10 hs9 hs10 hb8 hA hC hs8
  have hA11 : (w10.setCells A 0 y).rangeAt A 0 y := World.rangeAt_setCells_same _ _ _ _ (by rw [hy33]; exact hTA)
  have hS := hS.set hAw hBw hbw 0 y
  refine hs_store (i := 12) (w' := w10.setCells A 0 y) rfl (by kernel_rfl) (by rfl) (ex_put (cs := y.toArray) rfl rfl rfl (by simpa [hy33] using hTA) (by simpa [hy33] using iszM) (all_one hy1)) rfl hS ?_
  have hTC := World.there_setCells hTC A 0 y
  have hbl := below_sets (B := w.heap.size) (b := A) (by omega) y 0 w10 hbl
  obtain ⟨w11, hw11⟩ : ∃ w11, w10.setCells A 0 y = w11 := ⟨_, rfl⟩
  rw [hw11] at hS hA11 hTC hbl ⊢
  clear hw11 hTA
  have hC12 : (w11.setCells C 0 c).rangeAt C 0 c := World.rangeAt_setCells_same _ _ _ _ (by rw [hc33]; exact hTC)
  have hA12 : (w11.setCells C 0 c).rangeAt A 0 y := World.rangeAt_setCells_apart hA11 _ _ _ (.inl hAC)
  have hS := hS.set hCw hBw hbw 0 c
  refine hs_store (i := 13) (w' := w11.setCells C 0 c) rfl (by kernel_rfl) (by rfl) (ex_put (cs := c.toArray) rfl rfl rfl (by simpa [hc33] using hTC) (by simpa [hc33] using iszM) (all_one hc1)) rfl hS ?_
  refine hs_done (by kernel_rfl) ?_
  have hbl := below_sets (B := w.heap.size) (b := C) (by omega) c 0 w11 hbl
  obtain ⟨w12, hw12⟩ : ∃ w12, w11.setCells C 0 c = w12 := ⟨_, rfl⟩
  rw [hw12] at hS hA12 hC12 hbl ⊢
  clear hw12 hA11 hTC
  have hAe := hA12 0 _ y0
  simp only [Nat.add_zero] at hAe
  go_upto_region 8 with fail
  try simp only [Act.put]
  refine pl_begin ?_
  refine pl_t 46 (.agg y.toArray) (by rfl) (ex_mid rfl rfl hA12 Tryz.underlying120 rfl hiy) rfl ?_
  simp only [nz]
  refine pl_t 47 (.agg c.toArray) (by rfl) (ex_mid rfl rfl hC12 Tryz.underlying120 rfl hic) rfl ?_
  simp only [nz]
  refine pl_t 48 (.bool false) (by rfl) (ex_bin rfl rfl rfl (by kernel_rfl) (hcmp w12)) rfl ?_
  simp only [nz]
  refine pl_t 45 (?_) (by rfl) ?_ rfl ?_
  rotate_left
  ·go_simp
   try with_reducible rfl
  simp only [nz]
  refine pl_nil ?_
  go_wp2_with fail
  go_ret
  exact ⟨rfl, hS.1, hbl⟩
 ·have hb9 : Below w8.heap.size w8 (w8.alloc (.cells zm.toArray 120)) := (Below.refl _ _).alloc (Nat.le_refl _) _
  have hS := hS.below hb9 hs8
  refine st_run (i := 11) (d := some 12) (v := .pointer (some ⟨w8.heap.size, 0, none⟩)) (w' := w8.alloc (.cells zm.toArray 120)) rfl (by rfl) (ex_alloc rfl (hzm _)) rfl hS ?_
  simp only [nz]
  have hT9 := there_newN w8 zm.toArray 120 (n := 33) (by simpa using hzm33)
  obtain ⟨w9, hw9⟩ : ∃ w9, w8.alloc (.cells zm.toArray 120) = w9 := ⟨_, rfl⟩
  have hs9 : w9.heap.size = w8.heap.size + 1 := by rw [← hw9]; simp
  rw [hw9] at hS hb9 hT9 ⊢
  clear hw9
  have hb10 : Below w9.heap.size w9 (w9.alloc (.cells zm.toArray 120)) := (Below.refl _ _).alloc (Nat.le_refl _) _
  have hS := hS.below hb10 (by omega)
  refine hs_run (i := 10) (d := some 11) (v := .pointer (some ⟨w9.heap.size, 0, none⟩)) (w' := w9.alloc (.cells zm.toArray 120)) rfl (by kernel_rfl) (by rfl) (ex_alloc rfl (hzm _)) rfl hS ?_
  simp only [nz]
  have hT10 := there_newN w9 zm.toArray 120 (n := 33) (by simpa using hzm33)
  have hT9 := there_below hT9 hb10 (by omega)
  obtain ⟨w10, hw10⟩ : ∃ w10, w9.alloc (.cells zm.toArray 120) = w10 := ⟨_, rfl⟩
  have hs10 : w9.heap.size < w10.heap.size := by rw [← hw10]; simp
  rw [hw10] at hS hb10 hT10 hT9 ⊢
  clear hw10
  have hbl : Below w.heap.size w w10 := hb8.trans ((hb9.mono hb8.size).trans (hb10.mono (by have := hb8.size; omega)))
  obtain ⟨A, hA⟩ : ∃ A, A = w9.heap.size := ⟨_, rfl⟩
  obtain ⟨C, hC⟩ : ∃ C, C = w8.heap.size := ⟨_, rfl⟩
  have hTA : w10.there A 0 33 := by rw [hA]; exact hT10
  have hTC : w10.there C 0 33 := by rw [hC]; exact hT9
  have hAC : A ≠ C := by omega
  have hAw : w.heap.size + 2 ≤ A := by omega
  have hCw : w.heap.size + 2 ≤ C := by omega
  rw [← hA, ← hC]
  clear hb9 hb10 hT9 hT10 hs9 hs10 hb8 hA hC hs8
  have hA11 : (w10.setCells A 0 y).rangeAt A 0 y := World.rangeAt_setCells_same _ _ _ _ (by rw [hy33]; exact hTA)
  have hS := hS.set hAw hBw hbw 0 y
  refine hs_store (i := 12) (w' := w10.setCells A 0 y) rfl (by kernel_rfl) (by rfl) (ex_put (cs := y.toArray) rfl rfl rfl (by simpa [hy33] using hTA) (by simpa [hy33] using iszM) (all_one hy1)) rfl hS ?_
  have hTC := World.there_setCells hTC A 0 y
  have hbl := below_sets (B := w.heap.size) (b := A) (by omega) y 0 w10 hbl
  obtain ⟨w11, hw11⟩ : ∃ w11, w10.setCells A 0 y = w11 := ⟨_, rfl⟩
  rw [hw11] at hS hA11 hTC hbl ⊢
  clear hw11 hTA
  have hC12 : (w11.setCells C 0 c).rangeAt C 0 c := World.rangeAt_setCells_same _ _ _ _ (by rw [hc33]; exact hTC)
  have hA12 : (w11.setCells C 0 c).rangeAt A 0 y := World.rangeAt_setCells_apart hA11 _ _ _ (.inl hAC)
  have hS := hS.set hCw hBw hbw 0 c
  refine hs_store (i := 13) (w' := w11.setCells C 0 c) rfl (by kernel_rfl) (by rfl) (ex_put (cs := c.toArray) rfl rfl rfl (by simpa [hc33] using hTC) (by simpa [hc33] using iszM) (all_one hc1)) rfl hS ?_
  refine hs_done (by kernel_rfl) ?_
  have hbl := below_sets (B := w.heap.size) (b := C) (by omega) c 0 w11 hbl
  obtain ⟨w12, hw12⟩ : ∃ w12, w11.setCells C 0 c = w12 := ⟨_, rfl⟩
  rw [hw12] at hS hA12 hC12 hbl ⊢
  clear hw12 hA11 hTC
  have hAe := hA12 0 _ y0
  simp only [Nat.add_zero] at hAe
  go_upto_region 8 with fail
  try simp only [Act.put]
  refine pl_begin ?_
  refine pl_t 46 (.agg y.toArray) (by rfl) (ex_mid rfl rfl hA12 Tryz.underlying120 rfl hiy) rfl ?_
  simp only [nz]
  refine pl_t 47 (.agg c.toArray) (by rfl) (ex_mid rfl rfl hC12 Tryz.underlying120 rfl hic) rfl ?_
  simp only [nz]
  refine pl_t 48 (.bool false) (by rfl) (ex_bin rfl rfl rfl (by kernel_rfl) (hcmp w12)) rfl ?_
  simp only [nz]
  refine pl_t 45 (?_) (by rfl) ?_ rfl ?_
  rotate_left
  ·go_simp
   try with_reducible rfl
  simp only [nz]
  refine pl_nil ?_
  go_wp2_with fail
  go_ret
  exact ⟨rfl, hS.1, hbl⟩
def SPut (B b n : Nat) (N : Int) (m : Int → Option Mk) (D C : Nat) (c t : List Value) (x : World) : Prop := (MkAt x B b n N m ∨ True) ∧ x.rangeAt C 0 c ∧ x.rangeAt (D + 1) 0 t ∧ x.cell? ⟨B, 1, none⟩ = some (.map (some b))
set_option maxRecDepth 100000 in
set_option maxHeartbeats 4000000 in
theorem add_put (B b n : Nat) (N : Int) (m : Int → Option Mk) (k : Int) (x : Mk) (hx : x.ok) (w : World) (h : MkAt w B b n N m) (hk : 0 ≤ k) (hk2 : k < N) (he1 : 1 ≤ x.e) (he2 : x.e ≤ 1048576) (hv : ¬ ((wasOf m k).e = x.e ∧ (wasOf m k).d = x.d)) (hee : (wasOf m k).e < x.e) (hn : n < 1000000) : Calls Tryz.prog 22 #[.pointer (some ⟨B, 0, none⟩), .int .i64 k, .int .i64 x.e, .agg (v8 x.d).toArray, .agg (v8 x.t).toArray] w fun e w' => e = .returned (.int .i64 0) ∧ MkAt w' B b (n + 1) N (putM m k x) ∧ Off (fun z => z = b) w w' := by
 have hk64 : I64 k := by have := h.good; unfold I64; omega
 have hlk : ∀ w', MkAt w' B b n N m → (Instr.lookup 116 (.map (some b)) (.int .i64 k) false).run Tryz.prog w' = .ok (.agg (wasOf m k).cells.toArray) w' := fun w' h' => h'.mp.get k hk64
 have hyo := h.val k
 have hyo : (wasOf m k).ok := hyo
 have hcmp := fun w' => eqM (wasOf m k).e x.e (wasOf m k).d x.d hyo.dl hx.dl w'
 have hbm := fun w' => build_mark x.e (v8 x.d) (by rw [v8_length, hx.dl]) w'
 have hBw := h.lt
 have hbw := h.mp.lt
 generalize wasOf m k = yy at *
 obtain ⟨ye, yd, yt0⟩ := yy
 obtain ⟨xe, xd, xt⟩ := x
 simp only at *
 have hcb : ((ye == xe) && (yd == xd)) = false := by simpa using hv
 simp only [hcb] at hcmp
 clear hcb
 obtain ⟨u, hu⟩ : ∃ u, Hid (v8 xd = u) := ⟨_, hide rfl⟩
 obtain ⟨t, ht⟩ : ∃ u, Hid (v8 xt = u) := ⟨_, hide rfl⟩
 obtain ⟨y, hy⟩ : ∃ u, Hid (mkC ye yd = u) := ⟨_, hide rfl⟩
 obtain ⟨yt, hyt⟩ : ∃ u, Hid (v8 yt0 = u) := ⟨_, hide rfl⟩
 obtain ⟨c, hc⟩ : ∃ u, Hid (mkC xe xd = u) := ⟨_, hide rfl⟩
 have hy33 : y.length = 33 := by rw [← hy.out]; exact mkC_len _ hyo.dl
 have hc33 : c.length = 33 := by rw [← hc.out]; exact mkC_len _ hx.dl
 have hu32 : u.length = 32 := by rw [← hu.out, v8_length]; exact hx.dl
 have ht16 : t.length = 16 := by rw [← ht.out, v8_length]; exact hx.tl
 have hy1 : ∀ v ∈ y, v.oneCell' = true := by rw [← hy.out]; exact mkC_one _ _
 have hc1 : ∀ v ∈ c, v.oneCell' = true := by rw [← hc.out]; exact mkC_one _ _
 have y0 : y[0]? = some (.int .i64 ye) := by rw [← hy.out]; rfl
 have hiD : (Tryz.prog.info? 32).map (·.size) = some u.length := by rw [hu32]; exact iszD
 have hiT : (Tryz.prog.info? 51).map (·.size) = some t.length := by rw [ht16]; exact iszT
 have hiy : (Tryz.prog.info? 120).map (·.size) = some y.length := by rw [hy33]; exact iszM
 have hic : (Tryz.prog.info? 120).map (·.size) = some c.length := by rw [hc33]; exact iszM
 simp only [Mk.cells, hy.out, hyt.out] at hlk
 have hbm : ∀ w' : World, (Instr.build 120 #[(0, .int .i64 xe), (1, .agg u.toArray)]).run Tryz.prog w' = .ok (.agg c.toArray) w' := fun w' => by rw [← hc.out, ← hu.out]; exact hbm w'
 simp only [hy.out, hc.out] at hcmp
 rw [hu.out, ht.out]
 have hzm := zeroMk
 obtain ⟨zm, hzz⟩ : ∃ z, Hid (([Value.int .i64 0] ++ v8 (List.replicate 32 0)) = z) := ⟨_, hide rfl⟩
 have hzm33 : zm.length = 33 := by rw [← hzz.out]; rfl
 simp only [hzz.out] at hzm
 have hq : (ye == xe) = false := by simp; omega
 have c00 : c[0]? = some (.int .i64 xe) := by rw [← hc.out]; rfl
 clear hzz hyt hy
 have HV := hide hv
 clear hv
 go_enter Tryz.func22, Tryz.ntmps22
 go_upto_region 1 with fail
 go_name_world w1 hw1
 obtain ⟨hB1, hRd, hRt, hsz1⟩ := two_box hw1
 clear hw1
 have h1 := h.below hB1
 have cM := isMade_yes B b n N m w1 h1
 have c0 := h1.c0
 go_wp2_with fail
 refine cM.mono ?_
 rintro _ wx ⟨rfl, hx'⟩
 obtain rfl := hx'.symm
 clear hx' cM
 go_upto_region 7 with fail
 clear c0
 have hS : SAd B b n N m w.heap.size u t w1.drew := ⟨h1.drew, (World.rangeAt_drew _ _ _ _).2 hRd, (World.rangeAt_drew _ _ _ _).2 hRt⟩
 have hb8 : Below w.heap.size w w1.drew := hB1.drew
 have hs8 : w.heap.size + 2 ≤ w1.drew.heap.size := hsz1
 refine hs_begin (S := SAd B b n N m w.heap.size u t) 14 rfl (by kernel_rfl) ?_
 obtain ⟨w8, hw8⟩ : ∃ w8, w1.drew = w8 := ⟨_, rfl⟩
 rw [hw8] at hS hb8 hs8 ⊢
 clear hw8 h1 hRd hRt hsz1 hB1
 refine hs_t 0 35 (?_) rfl (by kernel_rfl) (by kernel_rfl) (by kernel_rfl) (by rfl) ?_ hS rfl ?_
 rotate_left
 ·intro w' hw
  go_simp
  try with_reducible rfl
 simp only [nz]
 refine hs_t 1 36 (?_) rfl (by kernel_rfl) (by kernel_rfl) (by kernel_rfl) (by rfl) ?_ hS rfl ?_
 rotate_left
 ·intro w' hw
  go_simp
  try with_reducible rfl
 simp only [nz]
 refine hs_t 2 37 (?_) rfl (by kernel_rfl) (by kernel_rfl) (by kernel_rfl) (by rfl) ?_ hS rfl ?_
 rotate_left
 ·intro w' hw
  go_simp
  try with_reducible rfl
 simp only [nz]
 refine hs_t 3 38 (.map (some b)) rfl (by kernel_rfl) (by kernel_rfl) (by kernel_rfl) (by rfl) (fun w' hw => pl_one rfl rfl hw.1.c1 Tryz.underlying116 rfl) hS rfl ?_
 simp only [nz]
 refine hs_t 4 39 (?_) rfl (by kernel_rfl) (by kernel_rfl) (by kernel_rfl) (by rfl) ?_ hS rfl ?_
 rotate_left
 ·intro w' hw
  go_simp
  try with_reducible rfl
 simp only [nz]
 refine hs_t 5 40 (.agg (y ++ yt).toArray) rfl (by kernel_rfl) (by kernel_rfl) (by kernel_rfl) (by rfl) (fun w' hw => ex_look rfl rfl rfl (hlk w' hw.1)) hS rfl ?_
 simp only [nz]
 refine hs_t 6 41 (.agg y.toArray) rfl (by kernel_rfl) (by kernel_rfl) (by kernel_rfl) (by rfl) (fun w' hw => ex_field rfl rfl (run_field2 y yt hy33 w')) hS rfl ?_
 simp only [nz]
 refine hs_t 7 42 (?_) rfl (by kernel_rfl) (by kernel_rfl) (by kernel_rfl) (by rfl) ?_ hS rfl ?_
 rotate_left
 ·intro w' hw
  go_simp
  try with_reducible rfl
 simp only [nz]
 refine hs_t 8 43 (.agg u.toArray) rfl (by kernel_rfl) (by kernel_rfl) (by kernel_rfl) (by rfl) (fun w' hw => ex_mid rfl rfl hw.2.1 Tryz.underlying32 rfl hiD) hS rfl ?_
 simp only [nz]
 refine hs_t 9 44 (.agg c.toArray) rfl (by kernel_rfl) (by kernel_rfl) (by kernel_rfl) (by rfl) (fun w' hw => ex_build rfl rfl (hbm w')) hS rfl ?_
 simp only [nz]
 clear hlk hbm
 refine hs_fork (i := 10) (j := 11) (by kernel_rfl) ?_ ?_
 ·have hb9 : Below w8.heap.size w8 (w8.alloc (.cells zm.toArray 120)) := (Below.refl _ _).alloc (Nat.le_refl _) _
  have hS := hS.below hb9 hs8
  refine st_run (i := 10) (d := some 11) (v := .pointer (some ⟨w8.heap.size, 0, none⟩)) (w' := w8.alloc (.cells zm.toArray 120)) rfl (by rfl) (ex_alloc rfl (hzm _)) rfl hS ?_
  simp only [nz]
  have hT9 := there_newN w8 zm.toArray 120 (n := 33) (by simpa using hzm33)
  obtain ⟨w9, hw9⟩ : ∃ w9, w8.alloc (.cells zm.toArray 120) = w9 := ⟨_, rfl⟩
  have hs9 : w9.heap.size = w8.heap.size + 1 := by rw [← hw9]; simp
  rw [hw9] at hS hb9 hT9 ⊢
  clear hw9
  have hb10 : Below w9.heap.size w9 (w9.alloc (.cells zm.toArray 120)) := (Below.refl _ _).alloc (Nat.le_refl _) _
  have hS := hS.below hb10 (by omega)
  refine hs_run (i := 11) (d := some 12) (v := .pointer (some ⟨w9.heap.size, 0, none⟩)) (w' := w9.alloc (.cells zm.toArray 120)) rfl (by kernel_rfl) (by rfl) (ex_alloc rfl (hzm _)) rfl hS ?_
  simp only [nz]
  have hT10 := there_newN w9 zm.toArray 120 (n := 33) (by simpa using hzm33)
  have hT9 := there_below hT9 hb10 (by omega)
  obtain ⟨w10, hw10⟩ : ∃ w10, w9.alloc (.cells zm.toArray 120) = w10 := ⟨_, rfl⟩
  have hs10 : w9.heap.size < w10.heap.size := by rw [← hw10]; simp
  rw [hw10] at hS hb10 hT10 hT9 ⊢
  clear hw10
  have hbl : Below w.heap.size w w10 := hb8.trans ((hb9.mono hb8.size).trans (hb10.mono (by have := hb8.size; omega)))
  obtain ⟨A, hA⟩ : ∃ A, A = w8.heap.size := ⟨_, rfl⟩
  obtain ⟨C, hC⟩ : ∃ C, C = w9.heap.size := ⟨_, rfl⟩
  have hTA : w10.there A 0 33 := by rw [hA]; exact hT9
  have hTC : w10.there C 0 33 := by rw [hC]; exact hT10
  have hAC : A ≠ C := by omega
  have hAw : w.heap.size + 2 ≤ A := by omega
  have hCw : w.heap.size + 2 ≤ C := by omega
  rw [← hA, ← hC]
  clear hb9 hb10 hT9 hT10 hs9 hs10 hb8 hA hC hs8
  have hA11 : (w10.setCells A 0 y).rangeAt A 0 y := World.rangeAt_setCells_same _ _ _ _ (by rw [hy33]; exact hTA)
  have hS := hS.set hAw hBw hbw 0 y
  refine hs_store (i := 12) (w' := w10.setCells A 0 y) rfl (by kernel_rfl) (by rfl) (ex_put (cs := y.toArray) rfl rfl rfl (by simpa [hy33] using hTA) (by simpa [hy33] using iszM) (all_one hy1)) rfl hS ?_
  have hTC := World.there_setCells hTC A 0 y
  have hbl := below_sets (B := w.heap.size) (b := A) (by omega) y 0 w10 hbl
  obtain ⟨w11, hw11⟩ : ∃ w11, w10.setCells A 0 y = w11 := ⟨_, rfl⟩
  rw [hw11] at hS hA11 hTC hbl ⊢
  clear hw11 hTA
  have hC12 : (w11.setCells C 0 c).rangeAt C 0 c := World.rangeAt_setCells_same _ _ _ _ (by rw [hc33]; exact hTC)
  have hA12 : (w11.setCells C 0 c).rangeAt A 0 y := World.rangeAt_setCells_apart hA11 _ _ _ (.inl hAC)
  have hS := hS.set hCw hBw hbw 0 c
  refine hs_store (i := 13) (w' := w11.setCells C 0 c) rfl (by kernel_rfl) (by rfl) (ex_put (cs := c.toArray) rfl rfl rfl (by simpa [hc33] using hTC) (by simpa [hc33] using iszM) (all_one hc1)) rfl hS ?_
  refine hs_done (by kernel_rfl) ?_
  have hbl := below_sets (B := w.heap.size) (b := C) (by omega) c 0 w11 hbl
  obtain ⟨w12, hw12⟩ : ∃ w12, w11.setCells C 0 c = w12 := ⟨_, rfl⟩
  rw [hw12] at hS hA12 hC12 hbl ⊢
  clear hw12 hA11 hTC
  have hAe := hA12 0 _ y0
  simp only [Nat.add_zero] at hAe
  go_upto_region 8 with fail
  try simp only [Act.put]
  refine pl_begin ?_
  refine pl_t 46 (.agg y.toArray) (by rfl) (ex_mid rfl rfl hA12 Tryz.underlying120 rfl hiy) rfl ?_
  simp only [nz]
  refine pl_t 47 (.agg c.toArray) (by rfl) (ex_mid rfl rfl hC12 Tryz.underlying120 rfl hic) rfl ?_
  simp only [nz]
  refine pl_t 48 (.bool false) (by rfl) (ex_bin rfl rfl rfl (by kernel_rfl) (hcmp w12)) rfl ?_
  simp only [nz]
  refine pl_t 45 (?_) (by rfl) ?_ rfl ?_
  rotate_left
  ·go_simp
   try with_reducible rfl
  simp only [nz]
  refine pl_nil ?_
  go_upto_region 14 with fail
  have hM13 : MkAt w12.drew B b n N m := hS.1.drew
  have hS : SPut B b n N m w.heap.size C c t w12.drew := ⟨.inr trivial, (World.rangeAt_drew _ _ _ _).2 hC12, (World.rangeAt_drew _ _ _ _).2 hS.2.2, hM13.c1⟩
  have hbl := hbl.drew
  refine hs_begin (S := SPut B b n N m w.heap.size C c t) 9 rfl (by kernel_rfl) ?_
  obtain ⟨w13, hw13⟩ : ∃ w13, w12.drew = w13 := ⟨_, rfl⟩
  rw [hw13] at hS hbl hM13 ⊢
  clear hw13
  refine hs_t 0 59 (?_) rfl (by kernel_rfl) (by kernel_rfl) (by kernel_rfl) (by rfl) ?_ hS rfl ?_
  rotate_left
  ·intro w' hw
   go_simp
   try with_reducible rfl
  simp only [nz]
  refine hs_t 1 60 (?_) rfl (by kernel_rfl) (by kernel_rfl) (by kernel_rfl) (by rfl) ?_ hS rfl ?_
  rotate_left
  ·intro w' hw
   go_simp
   try with_reducible rfl
  simp only [nz]
  refine hs_t 2 61 (?_) rfl (by kernel_rfl) (by kernel_rfl) (by kernel_rfl) (by rfl) ?_ hS rfl ?_
  rotate_left
  ·intro w' hw
   go_simp
   try with_reducible rfl
  simp only [nz]
  refine hs_t 3 62 (.map (some b)) rfl (by kernel_rfl) (by kernel_rfl) (by kernel_rfl) (by rfl) (fun w' hw => pl_one rfl rfl hw.2.2.2 Tryz.underlying116 rfl) hS rfl ?_
  simp only [nz]
  refine hs_t 4 63 (?_) rfl (by kernel_rfl) (by kernel_rfl) (by kernel_rfl) (by rfl) ?_ hS rfl ?_
  rotate_left
  ·intro w' hw
   go_simp
   try with_reducible rfl
  simp only [nz]
  refine hs_t 5 64 (.agg c.toArray) rfl (by kernel_rfl) (by kernel_rfl) (by kernel_rfl) (by rfl) (fun w' hw => ex_mid rfl rfl hw.2.1 Tryz.underlying120 rfl hic) hS rfl ?_
  simp only [nz]
  refine hs_t 6 65 (.agg t.toArray) rfl (by kernel_rfl) (by kernel_rfl) (by kernel_rfl) (by rfl) (fun w' hw => ex_mid rfl rfl hw.2.2.1 Tryz.underlying51 rfl hiT) hS rfl ?_
  simp only [nz]
  refine hs_t 7 66 (.agg (c ++ t).toArray) rfl (by kernel_rfl) (by kernel_rfl) (by kernel_rfl) (by rfl) (fun w' hw => ex_build rfl rfl (build_signed c t hc33 ht16 w')) hS rfl ?_
  simp only [nz]
  obtain ⟨w14, hrun, hm14, hg14⟩ := hM13.mp.store k hk64 ⟨xe, xd, xt⟩ hn
  simp only [Mk.cells, hc.out, ht.out] at hrun
  have hdone := add_done h hx ⟨hk, hk2⟩ ⟨he1, he2⟩ hM13 hm14 hg14 hbl
  have hClt : C < w13.heap.size := by
   rcases Nat.lt_or_ge C w13.heap.size with q | q
   ·exact q
   ·have := hS.2.1 0 _ c00
    simp [World.cell?, q] at this
  have hne := h.ne
  have hS14 : SPut B b n N m w.heap.size C c t w14 := ⟨.inr trivial, range_at hS.2.1 (hg14.block _ hClt (fun q => by injection q with q; omega)), range_at hS.2.2.1 (hg14.block _ (by omega) (fun q => by injection q with q; omega)), hdone.1.c1⟩
  refine hs_store (i := 8) (w' := w14) rfl (by kernel_rfl) (by rfl) (ex_update rfl rfl rfl rfl hrun) rfl hS14 ?_
  refine hs_done (by kernel_rfl) ?_
  go_wp2_with fail
  go_ret
  exact ⟨rfl, hdone⟩
 ·have hb9 : Below w8.heap.size w8 (w8.alloc (.cells zm.toArray 120)) := (Below.refl _ _).alloc (Nat.le_refl _) _
  have hS := hS.below hb9 hs8
  refine st_run (i := 11) (d := some 12) (v := .pointer (some ⟨w8.heap.size, 0, none⟩)) (w' := w8.alloc (.cells zm.toArray 120)) rfl (by rfl) (ex_alloc rfl (hzm _)) rfl hS ?_
  simp only [nz]
  have hT9 := there_newN w8 zm.toArray 120 (n := 33) (by simpa using hzm33)
  obtain ⟨w9, hw9⟩ : ∃ w9, w8.alloc (.cells zm.toArray 120) = w9 := ⟨_, rfl⟩
  have hs9 : w9.heap.size = w8.heap.size + 1 := by rw [← hw9]; simp
  rw [hw9] at hS hb9 hT9 ⊢
  clear hw9
  have hb10 : Below w9.heap.size w9 (w9.alloc (.cells zm.toArray 120)) := (Below.refl _ _).alloc (Nat.le_refl _) _
  have hS := hS.below hb10 (by omega)
  refine hs_run (i := 10) (d := some 11) (v := .pointer (some ⟨w9.heap.size, 0, none⟩)) (w' := w9.alloc (.cells zm.toArray 120)) rfl (by kernel_rfl) (by rfl) (ex_alloc rfl (hzm _)) rfl hS ?_
  simp only [nz]
  have hT10 := there_newN w9 zm.toArray 120 (n := 33) (by simpa using hzm33)
  have hT9 := there_below hT9 hb10 (by omega)
  obtain ⟨w10, hw10⟩ : ∃ w10, w9.alloc (.cells zm.toArray 120) = w10 := ⟨_, rfl⟩
  have hs10 : w9.heap.size < w10.heap.size := by rw [← hw10]; simp
  rw [hw10] at hS hb10 hT10 hT9 ⊢
  clear hw10
  have hbl : Below w.heap.size w w10 := hb8.trans ((hb9.mono hb8.size).trans (hb10.mono (by have := hb8.size; omega)))
  obtain ⟨A, hA⟩ : ∃ A, A = w9.heap.size := ⟨_, rfl⟩
  obtain ⟨C, hC⟩ : ∃ C, C = w8.heap.size := ⟨_, rfl⟩
  have hTA : w10.there A 0 33 := by rw [hA]; exact hT10
  have hTC : w10.there C 0 33 := by rw [hC]; exact hT9
  have hAC : A ≠ C := by omega
  have hAw : w.heap.size + 2 ≤ A := by omega
  have hCw : w.heap.size + 2 ≤ C := by omega
  rw [← hA, ← hC]
  clear hb9 hb10 hT9 hT10 hs9 hs10 hb8 hA hC hs8
  have hA11 : (w10.setCells A 0 y).rangeAt A 0 y := World.rangeAt_setCells_same _ _ _ _ (by rw [hy33]; exact hTA)
  have hS := hS.set hAw hBw hbw 0 y
  refine hs_store (i := 12) (w' := w10.setCells A 0 y) rfl (by kernel_rfl) (by rfl) (ex_put (cs := y.toArray) rfl rfl rfl (by simpa [hy33] using hTA) (by simpa [hy33] using iszM) (all_one hy1)) rfl hS ?_
  have hTC := World.there_setCells hTC A 0 y
  have hbl := below_sets (B := w.heap.size) (b := A) (by omega) y 0 w10 hbl
  obtain ⟨w11, hw11⟩ : ∃ w11, w10.setCells A 0 y = w11 := ⟨_, rfl⟩
  rw [hw11] at hS hA11 hTC hbl ⊢
  clear hw11 hTA
  have hC12 : (w11.setCells C 0 c).rangeAt C 0 c := World.rangeAt_setCells_same _ _ _ _ (by rw [hc33]; exact hTC)
  have hA12 : (w11.setCells C 0 c).rangeAt A 0 y := World.rangeAt_setCells_apart hA11 _ _ _ (.inl hAC)
  have hS := hS.set hCw hBw hbw 0 c
  refine hs_store (i := 13) (w' := w11.setCells C 0 c) rfl (by kernel_rfl) (by rfl) (ex_put (cs := c.toArray) rfl rfl rfl (by simpa [hc33] using hTC) (by simpa [hc33] using iszM) (all_one hc1)) rfl hS ?_
  refine hs_done (by kernel_rfl) ?_
  have hbl := below_sets (B := w.heap.size) (b := C) (by omega) c 0 w11 hbl
  obtain ⟨w12, hw12⟩ : ∃ w12, w11.setCells C 0 c = w12 := ⟨_, rfl⟩
  rw [hw12] at hS hA12 hC12 hbl ⊢
  clear hw12 hA11 hTC
  have hAe := hA12 0 _ y0
  simp only [Nat.add_zero] at hAe
  go_upto_region 8 with fail
  try simp only [Act.put]
  refine pl_begin ?_
  refine pl_t 46 (.agg y.toArray) (by rfl) (ex_mid rfl rfl hA12 Tryz.underlying120 rfl hiy) rfl ?_
  simp only [nz]
  refine pl_t 47 (.agg c.toArray) (by rfl) (ex_mid rfl rfl hC12 Tryz.underlying120 rfl hic) rfl ?_
  simp only [nz]
  refine pl_t 48 (.bool false) (by rfl) (ex_bin rfl rfl rfl (by kernel_rfl) (hcmp w12)) rfl ?_
  simp only [nz]
  refine pl_t 45 (?_) (by rfl) ?_ rfl ?_
  rotate_left
  ·go_simp
   try with_reducible rfl
  simp only [nz]
  refine pl_nil ?_
  go_upto_region 14 with fail
  have hM13 : MkAt w12.drew B b n N m := hS.1.drew
  have hS : SPut B b n N m w.heap.size C c t w12.drew := ⟨.inr trivial, (World.rangeAt_drew _ _ _ _).2 hC12, (World.rangeAt_drew _ _ _ _).2 hS.2.2, hM13.c1⟩
  have hbl := hbl.drew
  refine hs_begin (S := SPut B b n N m w.heap.size C c t) 9 rfl (by kernel_rfl) ?_
  obtain ⟨w13, hw13⟩ : ∃ w13, w12.drew = w13 := ⟨_, rfl⟩
  rw [hw13] at hS hbl hM13 ⊢
  clear hw13
  refine hs_t 0 59 (?_) rfl (by kernel_rfl) (by kernel_rfl) (by kernel_rfl) (by rfl) ?_ hS rfl ?_
  rotate_left
  ·intro w' hw
   go_simp
   try with_reducible rfl
  simp only [nz]
  refine hs_t 1 60 (?_) rfl (by kernel_rfl) (by kernel_rfl) (by kernel_rfl) (by rfl) ?_ hS rfl ?_
  rotate_left
  ·intro w' hw
   go_simp
   try with_reducible rfl
  simp only [nz]
  refine hs_t 2 61 (?_) rfl (by kernel_rfl) (by kernel_rfl) (by kernel_rfl) (by rfl) ?_ hS rfl ?_
  rotate_left
  ·intro w' hw
   go_simp
   try with_reducible rfl
  simp only [nz]
  refine hs_t 3 62 (.map (some b)) rfl (by kernel_rfl) (by kernel_rfl) (by kernel_rfl) (by rfl) (fun w' hw => pl_one rfl rfl hw.2.2.2 Tryz.underlying116 rfl) hS rfl ?_
  simp only [nz]
  refine hs_t 4 63 (?_) rfl (by kernel_rfl) (by kernel_rfl) (by kernel_rfl) (by rfl) ?_ hS rfl ?_
  rotate_left
  ·intro w' hw
   go_simp
   try with_reducible rfl
  simp only [nz]
  refine hs_t 5 64 (.agg c.toArray) rfl (by kernel_rfl) (by kernel_rfl) (by kernel_rfl) (by rfl) (fun w' hw => ex_mid rfl rfl hw.2.1 Tryz.underlying120 rfl hic) hS rfl ?_
  simp only [nz]
  refine hs_t 6 65 (.agg t.toArray) rfl (by kernel_rfl) (by kernel_rfl) (by kernel_rfl) (by rfl) (fun w' hw => ex_mid rfl rfl hw.2.2.1 Tryz.underlying51 rfl hiT) hS rfl ?_
  simp only [nz]
  refine hs_t 7 66 (.agg (c ++ t).toArray) rfl (by kernel_rfl) (by kernel_rfl) (by kernel_rfl) (by rfl) (fun w' hw => ex_build rfl rfl (build_signed c t hc33 ht16 w')) hS rfl ?_
  simp only [nz]
  obtain ⟨w14, hrun, hm14, hg14⟩ := hM13.mp.store k hk64 ⟨xe, xd, xt⟩ hn
  simp only [Mk.cells, hc.out, ht.out] at hrun
  have hdone := add_done h hx ⟨hk, hk2⟩ ⟨he1, he2⟩ hM13 hm14 hg14 hbl
  have hClt : C < w13.heap.size := by
   rcases Nat.lt_or_ge C w13.heap.size with q | q
   ·exact q
   ·have := hS.2.1 0 _ c00
    simp [World.cell?, q] at this
  have hne := h.ne
  have hS14 : SPut B b n N m w.heap.size C c t w14 := ⟨.inr trivial, range_at hS.2.1 (hg14.block _ hClt (fun q => by injection q with q; omega)), range_at hS.2.2.1 (hg14.block _ (by omega) (fun q => by injection q with q; omega)), hdone.1.c1⟩
  refine hs_store (i := 8) (w' := w14) rfl (by kernel_rfl) (by rfl) (ex_update rfl rfl rfl rfl hrun) rfl hS14 ?_
  refine hs_done (by kernel_rfl) ?_
  go_wp2_with fail
  go_ret
  exact ⟨rfl, hdone⟩
theorem add_any (B b n : Nat) (N : Int) (m : Int → Option Mk) (k : Int) (x : Mk) (hx : x.ok) (w : World) (h : MkAt w B b n N m) (hn : n < 1000000) : Calls Tryz.prog 22 #[.pointer (some ⟨B, 0, none⟩), .int .i64 k, .int .i64 x.e, .agg (v8 x.d).toArray, .agg (v8 x.t).toArray] w fun e w' => e = .returned (.int .i64 (addE N m k x)) ∧ MkAt w' B b (n + 1) N (addM N m k x) ∧ Off (fun z => z = b) w w' := by
 have mo : ∀ {w' : World}, MkAt w' B b n N m → MkAt w' B b (n + 1) N m := fun q => ⟨q.lt, q.c0, q.c1, q.mp.more (Nat.le_succ _), q.good, q.ok⟩
 by_cases hbd : bad N k x.e = true
 ·unfold addE addM
  rw [if_pos hbd, if_pos hbd]
  have hh : k < 0 ∨ N ≤ k ∨ x.e < 1 ∨ 1048576 < x.e := by simpa [bad] using hbd
  have fin : ∀ {e : Ending} {w' : World}, (e = .returned (.int .i64 2) ∧ Below w.heap.size w w') → e = .returned (.int .i64 2) ∧ MkAt w' B b (n + 1) N m ∧ Off (fun z => z = b) w w' := fun q => ⟨q.1, mo (h.below q.2), Off.of_below q.2⟩
  by_cases q1 : k < 0
  ·exact (add_b1 B b n N m k x.e _ _ w h q1).mono (fun _ _ q => fin q)
  ·by_cases q2 : N ≤ k
   ·exact (add_b2 B b n N m k x.e _ _ w h (by omega) q2).mono (fun _ _ q => fin q)
   ·by_cases q3 : x.e < 1
    ·exact (add_b3 B b n N m k x.e _ _ w h (by omega) (by omega) q3).mono (fun _ _ q => fin q)
    ·exact (add_b4 B b n N m k x.e _ _ w h (by omega) (by omega) (by omega) (by omega)).mono (fun _ _ q => fin q)
 ·unfold addE addM
  rw [if_neg hbd, if_neg hbd]
  have hh : ¬ (k < 0 ∨ N ≤ k ∨ x.e < 1 ∨ 1048576 < x.e) := by simpa [bad] using hbd
  by_cases hv : (wasOf m k).e = x.e ∧ (wasOf m k).d = x.d
  ·rw [if_pos hv, if_neg (by omega)]
   exact (add_same B b n N m k x hx w h (by omega) (by omega) (by omega) (by omega) hv).mono (fun _ _ q => ⟨q.1, mo q.2.1, Off.of_below q.2.2⟩)
  ·rw [if_neg hv]
   by_cases he : (wasOf m k).e = x.e
   ·rw [if_pos he, if_neg (by omega)]
    exact (add_other B b n N m k x hx w h (by omega) (by omega) (by omega) (by omega) hv he).mono (fun _ _ q => ⟨q.1, mo q.2.1, Off.of_below q.2.2⟩)
   ·rw [if_neg he]
    by_cases ho : x.e < (wasOf m k).e
    ·rw [if_pos ho, if_neg (by omega)]
     exact (add_old B b n N m k x hx w h (by omega) (by omega) (by omega) (by omega) hv ho).mono (fun _ _ q => ⟨q.1, mo q.2.1, Off.of_below q.2.2⟩)
    ·rw [if_neg ho, if_pos (by omega)]
     exact add_put B b n N m k x hx w h (by omega) (by omega) (by omega) (by omega) hv (by omega) hn
open Go.RowKit
set_option linter.unusedVariables false
set_option maxRecDepth 100000 in
set_option maxHeartbeats 4000000 in
theorem each_any (B b n : Nat) (N : Int) (m : Int → Option Mk) (g : Nat) (eg : ∀ args w, (callFunc g args).run Tryz.prog w = .ok (.enter g args) w) (caps : Array Value) (J : Nat → World → Prop) (hJ : ∀ k W, J k W → MkAt W B b n N m)
  (hB : ∀ k W W', J k W → Below W.heap.size W W' → J k W')
  (hC : ∀ (k : Nat) x W, (k : Int) < N → J k W → m k = some x → Calls Tryz.prog g (#[.int .i64 (k : Int), .agg x.cells.toArray] ++ caps) W fun e W' => e = .returned (.tuple #[]) ∧ J (k + 1) W')
  (hno : ∀ (k : Nat) W, (k : Int) < N → J k W → m k = none → J (k + 1) W) (w : World) (h0 : J 0 w) :
  Calls Tryz.prog 61 #[.pointer (some ⟨B, 0, none⟩), .func (.func g) #[] caps] w fun e w' => e = .returned (.tuple #[]) ∧ J N.toNat w' := by
 have h := hJ 0 w h0
 have cM := isMade_yes B b n N m w h
 have c0 := h.c0
 have hN := h.good
 obtain ⟨hN1, hN2⟩ := hN
 clear h
 go_enter Tryz.func61, Tryz.ntmps61
 go_wp2_with fail
 refine cM.mono ?_
 rintro _ wx ⟨rfl, hx⟩
 obtain rfl := hx.symm
 clear hx cM
 go_wp2_with fail
 go_loopw [14] (fun kv wr => ∃ k : Nat, (k : Int) ≤ N ∧ kv = .int .i64 (k : Int) ∧ J k wr) (fun kv _ => (N - intOf kv).toNat)
 case atStart => exact ⟨0, by omega, rfl, h0⟩
 case round =>
  clear c0 h0
  obtain ⟨k, hk, rfl, hJk⟩ := hrel
  by_cases hlt : (k : Int) < N
  ·have hM := hJ k wr hJk
   have hk64 : I64 (k : Int) := by unfold I64; omega
   have hlk : ∀ w', MkAt w' B b n N m → (Instr.lookup 116 (.map (some b)) (.int .i64 (k : Int)) true).run Tryz.prog w' = .ok (.tuple #[.agg ((m k).getD mk0).cells.toArray, .bool (m k).isSome]) w' := fun w' h' => h'.mp.look k hk64
   have hy := hM.val k
   cases hmk : m k with
   | none =>
    rw [hmk] at hlk hy
    simp only [Option.getD_none, Option.isSome_none] at hlk hy
    obtain ⟨y, hyy⟩ : ∃ y, Hid (mk0 = y) := ⟨_, hide rfl⟩
    have hy49 : y.cells.length = 49 := by rw [← hyy.out]; exact hy.len
    have hlk : ∀ w', MkAt w' B b n N m → (Instr.lookup 116 (.map (some b)) (.int .i64 (k : Int)) true).run Tryz.prog w' = .ok (.tuple #[.agg y.cells.toArray, .bool false]) w' := by rw [← hyy.out]; exact hlk
    have HN := hide (hno k)
    have HM := hide hmk
    clear hyy hy hmk hno
    go_upto_region 4 with fail
    try simp only [Act.put]
    refine pl_begin ?_
    refine pl_t 18 (?_) (by rfl) ?_ rfl ?_
    rotate_left
    ·go_simp
     try with_reducible rfl
    simp only [nz]
    refine pl_t 19 (?_) (by rfl) ?_ rfl ?_
    rotate_left
    ·go_simp
     try with_reducible rfl
    simp only [nz]
    refine pl_t 20 (?_) (by rfl) ?_ rfl ?_
    rotate_left
    ·go_simp
     try with_reducible rfl
    simp only [nz]
    refine pl_t 21 (.map (some b)) (by rfl) (pl_one rfl rfl hM.c1 Tryz.underlying116 rfl) rfl ?_
    simp only [nz]
    refine pl_t 22 (?_) (by rfl) ?_ rfl ?_
    rotate_left
    ·go_simp
     try with_reducible rfl
    simp only [nz]
    refine pl_t 23 (.tuple #[.agg y.cells.toArray, .bool false]) (by rfl) (ex_look rfl rfl rfl (hlk wr hM)) rfl ?_
    simp only [nz]
    refine pl_t 17 (?_) (by rfl) ?_ rfl ?_
    rotate_left
    ·go_simp
     try with_reducible rfl
    simp only [nz]
    refine pl_t 24 (?_) (by rfl) ?_ rfl ?_
    rotate_left
    ·go_simp
     try with_reducible rfl
    simp only [nz]
    refine pl_t 25 (?_) (by rfl) ?_ rfl ?_
    rotate_left
    ·go_simp
     try with_reducible rfl
    simp only [nz]
    refine pl_run (d := some 5) (v := .pointer (some ⟨wr.heap.size, 0, none⟩)) (w' := wr.alloc (.cells mk0.cells.toArray 122)) (by rfl) (ex_alloc rfl (zeroSig _)) rfl ?_
    simp only [nz]
    refine pl_store (w' := (wr.alloc (.cells mk0.cells.toArray 122)).setCells wr.heap.size 0 y.cells) (by rfl) (ex_put (cs := y.cells.toArray) rfl rfl rfl (there_newN _ _ _ (by simp [hy49, mk0_ok.len])) (by simpa [hy49] using iszS) (all_one y.one)) rfl ?_
    refine pl_t 6 (?_) (by rfl) ?_ rfl ?_
    rotate_left
    ·go_simp
     try with_reducible rfl
    simp only [nz]
    refine pl_nil ?_
    obtain ⟨hF1, hF2, hF3, hF4⟩ := fresh_store wr mk0.cells.toArray 122 y.cells (by simp [hy49, mk0_ok.len])
    generalize (wr.alloc (.cells mk0.cells.toArray 122)).setCells wr.heap.size 0 y.cells = w7 at *
    have hJ7 := hB k wr w7 hJk hF2
    have hJ8 := HN.out w7 hlt hJ7 HM.out
    clear hF1 hF2 hF3 hF4 hJ7 hJk hM hlk
    go_wp2_with fail
    go_roundw
    case rel => exact ⟨k + 1, by omega, by go_num, hJ8⟩
    case measure => simp [intOf]; omega
   | some y =>
    rw [hmk] at hlk hy
    simp only [Option.getD_some, Option.isSome_some] at hlk hy
    have hy49 := hy.len
    have HC := hide (hC k y)
    have HM := hide hmk
    clear hmk hno
    go_upto_region 4 with fail
    try simp only [Act.put]
    refine pl_begin ?_
    refine pl_t 18 (?_) (by rfl) ?_ rfl ?_
    rotate_left
    ·go_simp
     try with_reducible rfl
    simp only [nz]
    refine pl_t 19 (?_) (by rfl) ?_ rfl ?_
    rotate_left
    ·go_simp
     try with_reducible rfl
    simp only [nz]
    refine pl_t 20 (?_) (by rfl) ?_ rfl ?_
    rotate_left
    ·go_simp
     try with_reducible rfl
    simp only [nz]
    refine pl_t 21 (.map (some b)) (by rfl) (pl_one rfl rfl hM.c1 Tryz.underlying116 rfl) rfl ?_
    simp only [nz]
    refine pl_t 22 (?_) (by rfl) ?_ rfl ?_
    rotate_left
    ·go_simp
     try with_reducible rfl
    simp only [nz]
    refine pl_t 23 (.tuple #[.agg y.cells.toArray, .bool true]) (by rfl) (ex_look rfl rfl rfl (hlk wr hM)) rfl ?_
    simp only [nz]
    refine pl_t 17 (?_) (by rfl) ?_ rfl ?_
    rotate_left
    ·go_simp
     try with_reducible rfl
    simp only [nz]
    refine pl_t 24 (?_) (by rfl) ?_ rfl ?_
    rotate_left
    ·go_simp
     try with_reducible rfl
    simp only [nz]
    refine pl_t 25 (?_) (by rfl) ?_ rfl ?_
    rotate_left
    ·go_simp
     try with_reducible rfl
    simp only [nz]
    refine pl_run (d := some 5) (v := .pointer (some ⟨wr.heap.size, 0, none⟩)) (w' := wr.alloc (.cells mk0.cells.toArray 122)) (by rfl) (ex_alloc rfl (zeroSig _)) rfl ?_
    simp only [nz]
    refine pl_store (w' := (wr.alloc (.cells mk0.cells.toArray 122)).setCells wr.heap.size 0 y.cells) (by rfl) (ex_put (cs := y.cells.toArray) rfl rfl rfl (there_newN _ _ _ (by simp [hy49, mk0_ok.len])) (by simpa [hy49] using iszS) (all_one y.one)) rfl ?_
    refine pl_t 6 (?_) (by rfl) ?_ rfl ?_
    rotate_left
    ·go_simp
     try with_reducible rfl
    simp only [nz]
    refine pl_nil ?_
    obtain ⟨hF1, hF2, hF3, hF4⟩ := fresh_store wr mk0.cells.toArray 122 y.cells (by simp [hy49, mk0_ok.len])
    generalize (wr.alloc (.cells mk0.cells.toArray 122)).setCells wr.heap.size 0 y.cells = w7 at *
    have hJ7 := hB k wr w7 hJk hF2
    have cC := HC.out w7 hlt hJ7 HM.out
    have hiS : (Tryz.prog.info? 122).map (·.size) = some y.cells.length := by rw [hy49]; exact iszS
    clear hF2 hF3 hF4 hJk hM hlk HC hC
    go_upto_region 6 with fail
    try simp only [Act.put]
    refine pl_begin ?_
    refine pl_t 27 (?_) (by rfl) ?_ rfl ?_
    rotate_left
    ·go_simp
     try with_reducible rfl
    simp only [nz]
    refine pl_t 28 (?_) (by rfl) ?_ rfl ?_
    rotate_left
    ·go_simp
     try with_reducible rfl
    simp only [nz]
    refine pl_t 29 (.agg y.cells.toArray) (by rfl) (ex_mid rfl rfl hF1 Tryz.underlying122 rfl hiS) rfl ?_
    simp only [nz]
    refine pl_call (d := some 30) (by rfl) (by go_simp; first | done | exact ⟨rfl, rfl⟩ | with_reducible rfl) rfl ?_
    refine (cC).mono ?_
    rintro _ w8 ⟨rfl, hJ8⟩
    refine ⟨_, rfl, ?_⟩
    simp only [nz]
    refine pl_nil ?_
    go_wp2_with fail
    go_roundw
    case rel => exact ⟨k + 1, by omega, by go_num, hJ8⟩
    case measure => simp [intOf]; omega
  ·obtain rfl : (k : Int) = N := by omega
   go_wp2_with fail
   go_end0
   exact ⟨rfl, by simpa using hJk⟩
end Go.Proofs.YtnfijfnnpbenfaaGreatDoor.Mk
