/- votes, signs, what a book keeps: their cells -/
import Derived.Test.YtogmkcabndgllaaP0
import Derived.Test.YtogmkcabndgllaaHeld
import Derived.Test.YtogmkcabndgllaaFork
import Derived.Laws.StructEq
namespace Go.Proofs.Ytogmkcabndgllaa
open Go.RowKit
theorem hide {p : Prop} (h : p) : Hid p := h
def I64 (z : Int) : Prop := -9223372036854775808 ≤ z ∧ z ≤ 9223372036854775807
def B8 (zs : List Int) : Prop := ∀ z ∈ zs, 0 ≤ z ∧ z < 256
structure Vt where
  k : Int
  e : Int
  v : Int
  s : Int
  d : List Int
deriving DecidableEq, Inhabited
structure Vt.ok (x : Vt) : Prop where
  k : I64 x.k
  e : I64 x.e
  v : I64 x.v
  s : I64 x.s
  dl : x.d.length = 32
  db : B8 x.d
def Vt.cells (x : Vt) : List Value := .int .i64 x.k :: .int .i64 x.e :: .int .i64 x.v :: .int .i64 x.s :: v8 x.d
theorem Vt.ok.len {x : Vt} (h : x.ok) : x.cells.length = 36 := by
  have := h.dl
  simp [Vt.cells, v8]
  omega
theorem Vt.one (x : Vt) : ∀ v ∈ x.cells, v.oneCell' = true := by
  intro v hv
  simp only [Vt.cells, List.mem_cons] at hv
  rcases hv with rfl | rfl | rfl | rfl | hv
  · rfl
  · rfl
  · rfl
  · rfl
  · exact v8_one x.d v hv
theorem Vt.four {w : World} {b i : Nat} {x : Vt} (h : w.rangeAt b i x.cells) : w.cell? ⟨b, i, none⟩ = some (.int .i64 x.k) ∧ w.cell? ⟨b, i + 1, none⟩ = some (.int .i64 x.e) ∧ w.cell? ⟨b, i + 2, none⟩ = some (.int .i64 x.v) ∧ w.cell? ⟨b, i + 3, none⟩ = some (.int .i64 x.s) :=
  ⟨h 0 _ rfl, h 1 _ rfl, h 2 _ rfl, h 3 _ rfl⟩
theorem Vt.dig {w : World} {b i : Nat} {x : Vt} (h : w.rangeAt b i x.cells) : w.rangeAt b (i + 4) (v8 x.d) := fun j u hu => by
  have := h (4 + j) u (by rw [Nat.add_comm]; exact hu)
  rwa [← Nat.add_assoc] at this
def vt0 : Vt := ⟨0, 0, 0, 0, List.replicate 32 0⟩
theorem vt0_ok : vt0.ok := ⟨by unfold I64; decide, by unfold I64; decide, by unfold I64; decide, by unfold I64; decide, by decide, by unfold B8; decide⟩
structure Sg where
  n : Int
  t : List Int
deriving DecidableEq, Inhabited
structure Sg.ok (r : Sg) : Prop where
  tl : r.t.length = 16
  tb : B8 r.t
  n : I64 r.n
def Sg.cells (r : Sg) : List Value := .int .i64 r.n :: v8 r.t
theorem Sg.ok.length {r : Sg} (h : r.ok) : r.cells.length = 17 := by
  have := h.tl
  simp [Sg.cells, v8]
  omega
theorem Sg.one (r : Sg) : ∀ v ∈ r.cells, v.oneCell' = true := by
  intro v hv
  rcases List.mem_cons.1 hv with rfl | hv
  · rfl
  · exact v8_one r.t v hv
theorem Sg.tag {w : World} {b i : Nat} {x : Sg} (h : w.rangeAt b i x.cells) : w.rangeAt b (i + 1) (v8 x.t) := fun j u hu => by
  have := h (1 + j) u (by rw [Nat.add_comm]; exact hu)
  rwa [← Nat.add_assoc] at this
/-- a node's vote -/
structure On where
  n : Int
  v : Vt
  t : List Int
deriving DecidableEq, Inhabited
structure On.ok (x : On) : Prop where
  n : I64 x.n
  v : x.v.ok
  tl : x.t.length = 16
  tb : B8 x.t
def On.sig (x : On) : List Value := x.v.cells ++ v8 x.t
def On.cells (x : On) : List Value := .int .i64 x.n :: x.sig
theorem On.ok.sl {x : On} (h : x.ok) : x.sig.length = 52 := by
  rw [On.sig, List.length_append, h.v.len, v8_length, h.tl]
theorem On.ok.len {x : On} (h : x.ok) : x.cells.length = 53 := by rw [On.cells, List.length_cons, h.sl]
theorem On.sone (x : On) : ∀ v ∈ x.sig, v.oneCell' = true := by
  intro v hv
  rcases List.mem_append.1 hv with hv | hv
  · exact x.v.one v hv
  · exact v8_one x.t v hv
theorem On.one (x : On) : ∀ v ∈ x.cells, v.oneCell' = true := by
  intro v hv
  rcases List.mem_cons.1 hv with rfl | hv
  · rfl
  · exact x.sone v hv
theorem On.parts {w : World} {b i : Nat} {x : On} (hx : x.ok) (h : w.rangeAt b i x.cells) : w.cell? ⟨b, i, none⟩ = some (.int .i64 x.n) ∧ w.rangeAt b (i + 1) x.v.cells ∧ w.rangeAt b (i + 37) (v8 x.t) := by
  have hs : w.rangeAt b (i + 1) (x.v.cells ++ v8 x.t) := fun j u hu => by
    have := h (1 + j) u (by rw [Nat.add_comm]; exact hu)
    rwa [← Nat.add_assoc] at this
  refine ⟨h 0 _ rfl, range_left hs, ?_⟩
  have := range_right hs
  rwa [hx.v.len] at this
/-- arrays and structs compared -/
theorem all_range : ∀ (xs ys : List Int), xs.length = ys.length → ((List.range xs.length).all fun i => xs.getD i 0 == ys.getD i 0) = (xs == ys)
  | [], [], _ => rfl
  | x :: xs, y :: ys, h => by
    have ih := all_range xs ys (by simpa using h)
    rw [List.length_cons, List.range_succ_eq_map, List.all_cons, List.all_map]
    simp only [List.getD_cons_zero, Function.comp_def, List.getD_cons_succ, ih]
    simp [List.cons_beq_cons]
  | [], _ :: _, h => by simp at h
  | _ :: _, [], h => by simp at h
theorem run_equal8 {P : Program} (w : World) (d : Nat) (t e : TypeId) (n : Nat) (ht : P.underlying t = some (.array n e)) (he : P.underlying e = some (.int .u8)) (hsz : (P.info? e).map (·.size) = some 1)
    (xs ys : List Int) (hx : xs.length = n) (hy : ys.length = n) :
    (Op.equalIn (d + 2) t (.agg (v8 xs).toArray) (.agg (v8 ys).toArray)).run P w = .ok (xs == ys) w := by
  rw [← all_range xs ys (hx.trans hy.symm), hx, List.range_eq_range', Op.equalIn]
  simp only [Sem.run_bind, run_underlying ht, Result.andThen_ok, run_size hsz, Std.Legacy.Range.forIn_eq_forIn_range', Std.Legacy.Range.size, Nat.sub_zero, Nat.add_sub_cancel, Nat.div_one]
  have hl : ∀ i ∈ List.range' 0 n 1, i < n := fun i hi => by simpa using (List.mem_range'_1.1 hi).2
  generalize List.range' 0 n 1 = l at hl ⊢
  induction l with
  | nil => simp
  | cons i l ih =>
    have hi : i < n := hl i (by simp)
    have px : (part e (v8 xs).toArray (i * 1)).run P w = .ok (.int .u8 (xs.getD i 0)) w := by
      simp [part, isAgg, run_underlying he, v8, List.getElem?_eq_getElem (show i < xs.length by omega)]
    have py : (part e (v8 ys).toArray (i * 1)).run P w = .ok (.int .u8 (ys.getD i 0)) w := by
      simp [part, isAgg, run_underlying he, v8, List.getElem?_eq_getElem (show i < ys.length by omega)]
    have pe : (Op.equalIn (d + 1) e (.int .u8 (xs.getD i 0)) (.int .u8 (ys.getD i 0))).run P w = .ok (xs.getD i 0 == ys.getD i 0) w := run_equalIn_int w d e .u8 .u8 _ _ he
    simp only [List.forIn_cons, Sem.run_bind, px, py, pe, Result.andThen_ok, List.all_cons]
    cases hb : (xs.getD i 0 == ys.getD i 0)
    · simp
    · simp only [Bool.not_true, Bool.false_eq_true, if_false, Sem.run_pure, Result.andThen_ok, Bool.true_and]
      exact ih fun j hj => hl j (by simp [hj])
theorem iszD : (Try.prog.info? 29).map (·.size) = some 32 := by kernel_rfl
theorem iszT : (Try.prog.info? 33).map (·.size) = some 16 := by kernel_rfl
theorem fldV : (Try.prog.fieldsOf 31).toList.map (fun f => (f.name, f.type, f.offset)) = [("Kind", 3, 0), ("Epoch", 3, 1), ("View", 3, 2), ("Slot", 3, 3), ("Digest", 29, 4)] := by kernel_rfl
theorem undV : Try.prog.underlying 31 = some (.struct (Try.prog.fieldsOf 31)) := by kernel_rfl
theorem sihV : Try.prog.stoodInHeld 31 = false := by kernel_rfl
theorem fldS : (Try.prog.fieldsOf 52).toList.map (fun f => (f.name, f.type, f.offset)) = [("Node", 3, 0), ("Tag", 33, 1)] := by kernel_rfl
theorem undS : Try.prog.underlying 52 = some (.struct (Try.prog.fieldsOf 52)) := by kernel_rfl
theorem sihS : Try.prog.stoodInHeld 52 = false := by kernel_rfl
theorem part_intV (w : World) (q : List Value) (i : Nat) (c : Int) (h : q[i]? = some (.int .i64 c)) : (part 3 q.toArray i).run Try.prog w = .ok (.int .i64 c) w := by
  simp [part, isAgg, run_underlying Try.underlying3, h]
theorem part_digV (w : World) (x : Vt) (hd : x.d.length = 32) : (part 29 x.cells.toArray 4).run Try.prog w = .ok (.agg (v8 x.d).toArray) w := by
  have hx : List.take 32 (List.drop 4 x.cells) = v8 x.d := by
    show List.take 32 (v8 x.d) = v8 x.d
    rw [List.take_of_length_le (by rw [v8_length, hd]; exact Nat.le_refl _)]
  simp [part, isAgg, run_underlying Try.underlying29, run_size iszD, hx]
theorem part_tagS (w : World) (x : Sg) (hd : x.t.length = 16) : (part 33 x.cells.toArray 1).run Try.prog w = .ok (.agg (v8 x.t).toArray) w := by
  have hx : List.take 16 x.cells.tail = v8 x.t := by
    show List.take 16 (v8 x.t) = v8 x.t
    rw [List.take_of_length_le (by rw [v8_length, hd]; exact Nat.le_refl _)]
  simp [part, isAgg, run_underlying Try.underlying33, run_size iszT, hx]
def vtB (x y : Vt) : Bool := (x.k == y.k) && ((x.e == y.e) && ((x.v == y.v) && ((x.s == y.s) && (x.d == y.d))))
theorem vtB_iff {x y : Vt} : vtB x y = true ↔ x = y := by
  obtain ⟨k, e, v, s, d⟩ := x
  obtain ⟨k', e', v', s', d'⟩ := y
  simp [vtB]
theorem vtB_dec (x y : Vt) : vtB x y = decide (x = y) := by
  by_cases h : x = y
  · rw [decide_eq_true h]; exact vtB_iff.2 h
  · rw [decide_eq_false h]
    cases hb : vtB x y
    · rfl
    · exact absurd (vtB_iff.1 hb) h
theorem vtEqIn (x y : Vt) (hx : x.d.length = 32) (hy : y.d.length = 32) (d : Nat) (w : World) :
    (Op.equalIn (d + 2 + 1) 31 (.agg x.cells.toArray) (.agg y.cells.toArray)).run Try.prog w = .ok (vtB x y) w := by
  rw [run_equalIn_struct w (d + 2) 31 _ _ undV sihV]
  have hf := fldV
  generalize (Try.prog.fieldsOf 31).toList = fs at hf
  obtain ⟨f0, f1, f2, f3, f4, rfl⟩ : ∃ f0 f1 f2 f3 f4, fs = [f0, f1, f2, f3, f4] := by
    rcases fs with _ | ⟨f0, _ | ⟨f1, _ | ⟨f2, _ | ⟨f3, _ | ⟨f4, _ | ⟨f5, fs⟩⟩⟩⟩⟩⟩ <;> simp at hf
    exact ⟨f0, f1, f2, f3, f4, rfl⟩
  simp only [List.map_cons, List.map_nil, List.cons.injEq, Prod.mk.injEq, and_true] at hf
  obtain ⟨⟨a0, b0, d0⟩, ⟨a1, b1, d1⟩, ⟨a2, b2, d2⟩, ⟨a3, b3, d3⟩, ⟨a4, b4, d4⟩⟩ := hf
  have p0 := part_intV w x.cells 0 x.k rfl
  have q0 := part_intV w y.cells 0 y.k rfl
  have p1 := part_intV w x.cells 1 x.e rfl
  have q1 := part_intV w y.cells 1 y.e rfl
  have p2 := part_intV w x.cells 2 x.v rfl
  have q2 := part_intV w y.cells 2 y.v rfl
  have p3 := part_intV w x.cells 3 x.s rfl
  have q3 := part_intV w y.cells 3 y.s rfl
  have p4 := part_digV w x hx
  have q4 := part_digV w y hy
  have e0 := fun a b => run_equalIn_int (P := Try.prog) w (d + 1) 3 .i64 .i64 a b Try.underlying3
  have e4 := run_equal8 (P := Try.prog) w d 29 5 32 Try.underlying29 Try.underlying5 isz8 x.d y.d hx hy
  unfold vtB
  generalize x.cells.toArray = q at *
  generalize y.cells.toArray = q' at *
  obtain ⟨T, hT⟩ : ∃ T, (v8 x.d).toArray = T := ⟨_, rfl⟩
  obtain ⟨T', hT'⟩ : ∃ T, (v8 y.d).toArray = T := ⟨_, rfl⟩
  rw [hT] at p4 e4
  rw [hT'] at q4 e4
  clear hT hT'
  obtain ⟨D, hD⟩ : ∃ D, d + 1 + 1 = D := ⟨_, rfl⟩
  have e4 : (Op.equalIn (d + 1 + 1) 29 (.agg T) (.agg T')).run Try.prog w = .ok (x.d == y.d) w := e4
  rw [hD] at e4
  have n0 : ¬ ("Kind" = "_") := by decide
  have n1 : ¬ ("Epoch" = "_") := by decide
  have n2 : ¬ ("View" = "_") := by decide
  have n3 : ¬ ("Slot" = "_") := by decide
  have n4 : ¬ ("Digest" = "_") := by decide
  simp only [Op.eqFields, a0, a1, a2, a3, a4, b0, b1, b2, b3, b4, d0, d1, d2, d3, d4, ne_eq, n0, n1, n2, n3, n4, not_false_eq_true, if_true]
  rw [show d + 2 = d + 1 + 1 from rfl, hD]
  rw [hD] at e0
  clear hD
  simp only [Sem.run_bind, p0, q0, Result.andThen_ok, e0]
  cases (x.k == y.k)
  · simp only [Bool.not_false, if_true, Sem.run_pure, Bool.false_and]
  · simp only [Bool.not_true, Bool.false_eq_true, if_false, Sem.run_bind, p1, q1, Result.andThen_ok, e0, Bool.true_and]
    cases (x.e == y.e)
    · simp only [Bool.not_false, if_true, Sem.run_pure, Bool.false_and]
    · simp only [Bool.not_true, Bool.false_eq_true, if_false, Sem.run_bind, p2, q2, Result.andThen_ok, e0, Bool.true_and]
      cases (x.v == y.v)
      · simp only [Bool.not_false, if_true, Sem.run_pure, Bool.false_and]
      · simp only [Bool.not_true, Bool.false_eq_true, if_false, Sem.run_bind, p3, q3, Result.andThen_ok, e0, Bool.true_and]
        cases (x.s == y.s)
        · simp only [Bool.not_false, if_true, Sem.run_pure, Bool.false_and]
        · simp only [Bool.not_true, Bool.false_eq_true, if_false, Sem.run_bind, p4, q4, Result.andThen_ok, e4, Bool.true_and]
          cases (x.d == y.d)
          · simp only [Bool.not_false, if_true, Sem.run_pure]
          · simp only [Bool.not_true, Bool.false_eq_true, if_false, Sem.run_pure]
theorem eqV (x y : Vt) (hx : x.ok) (hy : y.ok) (w : World) : (binOp .eql 31 (.agg x.cells.toArray) (.agg y.cells.toArray)).run Try.prog w = .ok (.bool (decide (x = y))) w := by
  rw [run_eql_struct, vtEqIn x y hx.dl hy.dl 9997 w, ← vtB_dec]; rfl
theorem neqV (x y : Vt) (hx : x.ok) (hy : y.ok) (w : World) : (binOp .neq 31 (.agg x.cells.toArray) (.agg y.cells.toArray)).run Try.prog w = .ok (.bool (!decide (x = y))) w := by
  rw [run_neq_struct, vtEqIn x y hx.dl hy.dl 9997 w, ← vtB_dec]; rfl
theorem eqT (x y : List Int) (hx : x.length = 16) (hy : y.length = 16) (w : World) : (binOp .eql 33 (.agg (v8 x).toArray) (.agg (v8 y).toArray)).run Try.prog w = .ok (.bool (x == y)) w := by
  rw [run_eql_struct, run_equal8 w 9998 33 5 16 Try.underlying33 Try.underlying5 isz8 x y hx hy]; rfl
theorem neqT (x y : List Int) (hx : x.length = 16) (hy : y.length = 16) (w : World) : (binOp .neq 33 (.agg (v8 x).toArray) (.agg (v8 y).toArray)).run Try.prog w = .ok (.bool (!(x == y))) w := by
  rw [run_neq_struct, run_equal8 w 9998 33 5 16 Try.underlying33 Try.underlying5 isz8 x y hx hy]; rfl
theorem neqD (x y : List Int) (hx : x.length = 32) (hy : y.length = 32) (w : World) : (binOp .neq 29 (.agg (v8 x).toArray) (.agg (v8 y).toArray)).run Try.prog w = .ok (.bool (!(x == y))) w := by
  rw [run_neq_struct, run_equal8 w 9998 29 5 32 Try.underlying29 Try.underlying5 isz8 x y hx hy]; rfl
theorem sgEqIn (x y : Sg) (hx : x.t.length = 16) (hy : y.t.length = 16) (d : Nat) (w : World) :
    (Op.equalIn (d + 2 + 1) 52 (.agg x.cells.toArray) (.agg y.cells.toArray)).run Try.prog w = .ok ((x.n == y.n) && (x.t == y.t)) w := by
  rw [run_equalIn_struct w (d + 2) 52 _ _ undS sihS]
  have hf := fldS
  generalize (Try.prog.fieldsOf 52).toList = fs at hf
  obtain ⟨f0, f1, rfl⟩ : ∃ f0 f1, fs = [f0, f1] := by
    rcases fs with _ | ⟨f0, _ | ⟨f1, _ | ⟨f2, fs⟩⟩⟩ <;> simp at hf
    exact ⟨f0, f1, rfl⟩
  simp only [List.map_cons, List.map_nil, List.cons.injEq, Prod.mk.injEq, and_true] at hf
  obtain ⟨⟨a0, b0, d0⟩, ⟨a1, b1, d1⟩⟩ := hf
  have p0 := part_intV w x.cells 0 x.n rfl
  have q0 := part_intV w y.cells 0 y.n rfl
  have p4 := part_tagS w x hx
  have q4 := part_tagS w y hy
  have e0 := fun a b => run_equalIn_int (P := Try.prog) w (d + 1) 3 .i64 .i64 a b Try.underlying3
  have e4 := run_equal8 (P := Try.prog) w d 33 5 16 Try.underlying33 Try.underlying5 isz8 x.t y.t hx hy
  generalize x.cells.toArray = q at *
  generalize y.cells.toArray = q' at *
  obtain ⟨T, hT⟩ : ∃ T, (v8 x.t).toArray = T := ⟨_, rfl⟩
  obtain ⟨T', hT'⟩ : ∃ T, (v8 y.t).toArray = T := ⟨_, rfl⟩
  rw [hT] at p4 e4
  rw [hT'] at q4 e4
  clear hT hT'
  obtain ⟨D, hD⟩ : ∃ D, d + 1 + 1 = D := ⟨_, rfl⟩
  have e4 : (Op.equalIn (d + 1 + 1) 33 (.agg T) (.agg T')).run Try.prog w = .ok (x.t == y.t) w := e4
  rw [hD] at e4
  have n0 : ¬ ("Node" = "_") := by decide
  have n1 : ¬ ("Tag" = "_") := by decide
  simp only [Op.eqFields, a0, a1, b0, b1, d0, d1, ne_eq, n0, n1, not_false_eq_true, if_true]
  rw [show d + 2 = d + 1 + 1 from rfl, hD]
  rw [hD] at e0
  clear hD
  simp only [Sem.run_bind, p0, q0, Result.andThen_ok, e0]
  cases (x.n == y.n)
  · simp only [Bool.not_false, if_true, Sem.run_pure, Bool.false_and]
  · simp only [Bool.not_true, Bool.false_eq_true, if_false, Sem.run_bind, p4, q4, Result.andThen_ok, e4, Bool.true_and]
    cases (x.t == y.t)
    · simp only [Bool.not_false, if_true, Sem.run_pure]
    · simp only [Bool.not_true, Bool.false_eq_true, if_false, Sem.run_pure]
theorem eqS (x y : Sg) (hx : x.ok) (hy : y.ok) (w : World) : (binOp .eql 52 (.agg x.cells.toArray) (.agg y.cells.toArray)).run Try.prog w = .ok (.bool ((x.n == y.n) && (x.t == y.t))) w := by
  rw [run_eql_struct, sgEqIn x y hx.tl hy.tl 9997 w]; rfl
theorem neqS (x y : Sg) (hx : x.ok) (hy : y.ok) (w : World) : (binOp .neq 52 (.agg x.cells.toArray) (.agg y.cells.toArray)).run Try.prog w = .ok (.bool (!((x.n == y.n) && (x.t == y.t)))) w := by
  rw [run_neq_struct, sgEqIn x y hx.tl hy.tl 9997 w]; rfl
end Go.Proofs.Ytogmkcabndgllaa
