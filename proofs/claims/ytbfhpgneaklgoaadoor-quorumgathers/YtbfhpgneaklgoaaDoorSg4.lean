/- the document's Same and Add of signs -/
import Derived.Test.YtbfhpgneaklgoaaDoorSg3
import Derived.Deep.RegionHeld3
namespace Go.Proofs.YtbfhpgneaklgoaaDoor
open Go.RowKit
theorem fldS : (Tryd.prog.fieldsOf 43).toList.map (fun f => (f.name, f.type, f.offset)) = [("Node", 3, 0), ("Tag", 38, 1)] := by kernel_rfl
theorem undS : Tryd.prog.underlying 43 = some (.struct (Tryd.prog.fieldsOf 43)) := by kernel_rfl
theorem sihS : Tryd.prog.stoodInHeld 43 = false := by kernel_rfl
theorem iszTS : (Tryd.prog.info? 38).map (·.size) = some 16 := by kernel_rfl
theorem part_intS (w : World) (q : List Value) (i : Nat) (c : Int) (h : q[i]? = some (.int .i64 c)) : (part 3 q.toArray i).run Tryd.prog w = .ok (.int .i64 c) w := by
  simp [part, isAgg, run_underlying Tryd.underlying3, h]
theorem part_tagS (w : World) (n : Int) (t : List Int) (ht : t.length = 16) : (part 38 (Sg.cells ⟨n, t⟩).toArray 1).run Tryd.prog w = .ok (.agg (v8 t).toArray) w := by
  have hx : List.take 16 (Sg.cells ⟨n, t⟩).tail = v8 t := by
    show List.take 16 (v8 t) = v8 t
    rw [List.take_of_length_le (by rw [v8_length, ht]; exact Nat.le_refl _)]
  simp [part, isAgg, run_underlying Tryd.underlying38, run_size iszTS, hx]
def sgB (r r' : Sg) : Bool := (r.n == r'.n) && (r.t == r'.t)
theorem sgB_iff {r r' : Sg} : sgB r r' = true ↔ r = r' := by
  obtain ⟨n, t⟩ := r
  obtain ⟨n', t'⟩ := r'
  simp [sgB]
theorem sgEqIn (d : Nat) (n : Int) (t : List Int) (n' : Int) (t' : List Int) (ht : t.length = 16) (ht' : t'.length = 16) (w : World) :
    (Op.equalIn (d + 2 + 1) 43 (.agg (Sg.cells ⟨n, t⟩).toArray) (.agg (Sg.cells ⟨n', t'⟩).toArray)).run Tryd.prog w = .ok ((n == n') && (t == t')) w := by
  rw [run_equalIn_struct w (d + 2) 43 _ _ undS sihS]
  have hf := fldS
  generalize (Tryd.prog.fieldsOf 43).toList = fs at hf
  obtain ⟨f0, f1, rfl⟩ : ∃ f0 f1, fs = [f0, f1] := by
    rcases fs with _ | ⟨f0, _ | ⟨f1, _ | ⟨f2, fs⟩⟩⟩ <;> simp at hf
    exact ⟨f0, f1, rfl⟩
  simp only [List.map_cons, List.map_nil, List.cons.injEq, Prod.mk.injEq, and_true] at hf
  obtain ⟨⟨a0, b0, d0⟩, ⟨a1, b1, d1⟩⟩ := hf
  have p0 := part_intS w (Sg.cells ⟨n, t⟩) 0 n rfl
  have p1 := part_intS w (Sg.cells ⟨n', t'⟩) 0 n' rfl
  have p6 := part_tagS w n t ht
  have p7 := part_tagS w n' t' ht'
  have e0 := run_equalIn_int (P := Tryd.prog) w (d + 1) 3 .i64 .i64 n n' Tryd.underlying3
  have e3 := run_equal8 (P := Tryd.prog) w d 38 5 16 Tryd.underlying38 Tryd.underlying5 isz8 t t' ht ht'
  generalize (Sg.cells ⟨n, t⟩).toArray = q at *
  generalize (Sg.cells ⟨n', t'⟩).toArray = q' at *
  obtain ⟨T, hT⟩ : ∃ T, (v8 t).toArray = T := ⟨_, rfl⟩
  obtain ⟨T', hT'⟩ : ∃ T, (v8 t').toArray = T := ⟨_, rfl⟩
  rw [hT] at p6 e3
  rw [hT'] at p7 e3
  clear hT hT'
  obtain ⟨D, hD⟩ : ∃ D, d + 1 + 1 = D := ⟨_, rfl⟩
  have e3 : (Op.equalIn (d + 1 + 1) 38 (.agg T) (.agg T')).run Tryd.prog w = .ok (t == t') w := e3
  rw [hD] at e3
  have hn0 : ¬ ("Node" = "_") := by decide
  have hn3 : ¬ ("Tag" = "_") := by decide
  simp only [Op.eqFields, a0, a1, b0, b1, d0, d1, ne_eq, hn0, hn3, not_false_eq_true, if_true]
  rw [show d + 2 = d + 1 + 1 from rfl, hD]
  rw [hD] at e0
  clear hD
  simp only [Sem.run_bind, p0, p1, Result.andThen_ok, e0]
  cases (n == n')
  · simp only [Bool.not_false, if_true, Sem.run_pure, Bool.false_and]
  · simp only [Bool.not_true, Bool.false_eq_true, if_false, Sem.run_bind, p6, p7, Result.andThen_ok, e3, Bool.true_and]
    cases (t == t')
    · simp only [Bool.not_false, if_true, Sem.run_pure]
    · simp only [Bool.not_true, Bool.false_eq_true, if_false, Sem.run_pure]
theorem neqSg (r r' : Sg) (h : r.ok) (h' : r'.ok) (w : World) :
    (binOp .neq 43 (.agg r.cells.toArray) (.agg r'.cells.toArray)).run Tryd.prog w = .ok (.bool (!(sgB r r'))) w := by
  obtain ⟨n, t⟩ := r
  obtain ⟨n', t'⟩ := r'
  rw [run_neq_struct, sgEqIn 9997 n t n' t' h.tl h'.tl]; rfl
theorem eqInSg (r r' : Sg) (h : r.ok) (h' : r'.ok) (w : World) :
    (Op.equalIn 10000 43 (.agg r.cells.toArray) (.agg r'.cells.toArray)).run Tryd.prog w = .ok (sgB r r') w := by
  obtain ⟨n, t⟩ := r
  obtain ⟨n', t'⟩ := r'
  exact sgEqIn 9997 n t n' t' h.tl h'.tl w
def eqSs (rs rs' : List Sg) : Prop := rs = rs'
end Go.Proofs.YtbfhpgneaklgoaaDoor
