/- Two requests, compared. -/
import Derived.Test.YtbfcbjjhdadicaaDoorPX
import Derived.Test.YtbfcbjjhdadicaaDoorEql
namespace Go.Proofs.YtbfcbjjhdadicaaDoor
open Go.RowKit
open Sha Tal
theorem iszT : (Tryd.prog.info? 33).map (·.size) = some 16 := by kernel_rfl
theorem fldR : (Tryd.prog.fieldsOf 35).toList.map (fun f => (f.name, f.type, f.offset)) = [("Client", 3, 0), ("Num", 3, 1), ("Data", 9, 2), ("Tag", 33, 3)] := by kernel_rfl
theorem part_int (w : World) (q : List Value) (i : Nat) (c : Int) (h : q[i]? = some (.int .i64 c)) : (part 3 q.toArray i).run Tryd.prog w = .ok (.int .i64 c) w := by
  simp [part, isAgg, run_underlying Tryd.underlying3, h]
theorem part_str (w : World) (q : List Value) (i : Nat) (s : ByteArray) (h : q[i]? = some (.string s)) : (part 9 q.toArray i).run Tryd.prog w = .ok (.string s) w := by
  simp [part, isAgg, run_underlying Tryd.underlying9, h]
theorem part_tag (w : World) (c n : Int) (s : ByteArray) (t : List Int) (ht : t.length = 16) : (part 33 (reqL c n s t).toArray 3).run Tryd.prog w = .ok (.agg (v8 t).toArray) w := by
  have hx : List.take 16 (List.drop 3 (reqL c n s t)) = v8 t := by
    show List.take 16 (v8 t) = v8 t
    rw [List.take_of_length_le (by rw [v8_length, ht]; exact Nat.le_refl _)]
  simp [part, isAgg, run_underlying Tryd.underlying33, run_size iszT, hx]
theorem undR : Tryd.prog.underlying 35 = some (.struct (Tryd.prog.fieldsOf 35)) := by kernel_rfl
theorem sihR : Tryd.prog.stoodInHeld 35 = false := by kernel_rfl
def reqB (c n : Int) (s : ByteArray) (t : List Int) (c' n' : Int) (s' : ByteArray) (t' : List Int) : Bool := (c == c') && ((n == n') && ((s.toList == s'.toList) && (t == t')))
theorem reqEqIn (d : Nat) (c n : Int) (s : ByteArray) (t : List Int) (c' n' : Int) (s' : ByteArray) (t' : List Int) (ht : t.length = 16) (ht' : t'.length = 16) (w : World) :
    (Op.equalIn (d + 2 + 1) 35 (.agg (reqL c n s t).toArray) (.agg (reqL c' n' s' t').toArray)).run Tryd.prog w = .ok (reqB c n s t c' n' s' t') w := by
  rw [run_equalIn_struct w (d + 2) 35 _ _ undR sihR]
  have hf := fldR
  generalize (Tryd.prog.fieldsOf 35).toList = fs at hf
  obtain ⟨f0, f1, f2, f3, rfl⟩ : ∃ f0 f1 f2 f3, fs = [f0, f1, f2, f3] := by
    rcases fs with _ | ⟨f0, _ | ⟨f1, _ | ⟨f2, _ | ⟨f3, _ | ⟨f4, fs⟩⟩⟩⟩⟩ <;> simp at hf
    exact ⟨f0, f1, f2, f3, rfl⟩
  simp only [List.map_cons, List.map_nil, List.cons.injEq, Prod.mk.injEq, and_true] at hf
  obtain ⟨⟨a0, b0, d0⟩, ⟨a1, b1, d1⟩, ⟨a2, b2, d2⟩, ⟨a3, b3, d3⟩⟩ := hf
  have p0 := part_int w (reqL c n s t) 0 c rfl
  have p1 := part_int w (reqL c' n' s' t') 0 c' rfl
  have p2 := part_int w (reqL c n s t) 1 n rfl
  have p3 := part_int w (reqL c' n' s' t') 1 n' rfl
  have p4 := part_str w (reqL c n s t) 2 s rfl
  have p5 := part_str w (reqL c' n' s' t') 2 s' rfl
  have p6 := part_tag w c n s t ht
  have p7 := part_tag w c' n' s' t' ht'
  have e0 := run_equalIn_int (P := Tryd.prog) w (d + 1) 3 .i64 .i64 c c' Tryd.underlying3
  have e1 := run_equalIn_int (P := Tryd.prog) w (d + 1) 3 .i64 .i64 n n' Tryd.underlying3
  have e2 := run_equalIn_string (P := Tryd.prog) w (d + 1) 9 s s' Tryd.underlying9
  have e3 := run_equal8 (P := Tryd.prog) w d 33 5 16 Tryd.underlying33 Tryd.underlying5 isz8 t t' ht ht'
  unfold reqB
  generalize (reqL c n s t).toArray = q at *
  generalize (reqL c' n' s' t').toArray = q' at *
  obtain ⟨T, hT⟩ : ∃ T, (v8 t).toArray = T := ⟨_, rfl⟩
  obtain ⟨T', hT'⟩ : ∃ T, (v8 t').toArray = T := ⟨_, rfl⟩
  rw [hT] at p6 e3
  rw [hT'] at p7 e3
  clear hT hT'
  obtain ⟨D, hD⟩ : ∃ D, d + 1 + 1 = D := ⟨_, rfl⟩
  have e3 : (Op.equalIn (d + 1 + 1) 33 (.agg T) (.agg T')).run Tryd.prog w = .ok (t == t') w := e3
  rw [hD] at e3
  have hn0 : ¬ ("Client" = "_") := by decide
  have hn1 : ¬ ("Num" = "_") := by decide
  have hn2 : ¬ ("Data" = "_") := by decide
  have hn3 : ¬ ("Tag" = "_") := by decide
  simp only [Op.eqFields, a0, a1, a2, a3, b0, b1, b2, b3, d0, d1, d2, d3, ne_eq, hn0, hn1, hn2, hn3, not_false_eq_true, if_true]
  rw [show d + 2 = d + 1 + 1 from rfl, hD]
  rw [hD] at e0 e1 e2
  clear hD
  simp only [Sem.run_bind, p0, p1, Result.andThen_ok, e0]
  cases (c == c')
  · simp only [Bool.not_false, if_true, Sem.run_pure, Bool.false_and]
  · simp only [Bool.not_true, Bool.false_eq_true, if_false, Sem.run_bind, p2, p3, Result.andThen_ok, e1, Bool.true_and]
    cases (n == n')
    · simp only [Bool.not_false, if_true, Sem.run_pure, Bool.false_and]
    · simp only [Bool.not_true, Bool.false_eq_true, if_false, Sem.run_bind, p4, p5, Result.andThen_ok, e2, Bool.true_and]
      cases (s.toList == s'.toList)
      · simp only [Bool.not_false, if_true, Sem.run_pure, Bool.false_and]
      · simp only [Bool.not_true, Bool.false_eq_true, if_false, Sem.run_bind, p6, p7, Result.andThen_ok, e3, Bool.true_and]
        cases (t == t')
        · simp only [Bool.not_false, if_true, Sem.run_pure]
        · simp only [Bool.not_true, Bool.false_eq_true, if_false, Sem.run_pure]
theorem eqReq (c n : Int) (s : ByteArray) (t : List Int) (c' n' : Int) (s' : ByteArray) (t' : List Int) (ht : t.length = 16) (ht' : t'.length = 16) (w : World) :
    (binOp .eql 35 (.agg (reqL c n s t).toArray) (.agg (reqL c' n' s' t').toArray)).run Tryd.prog w = .ok (.bool (reqB c n s t c' n' s' t')) w := by
  rw [run_eql_struct, reqEqIn 9997 c n s t c' n' s' t' ht ht']; rfl
theorem reqB_same (c n : Int) (s : ByteArray) (t : List Int) : reqB c n s t c n s t = true := by simp [reqB]
end Go.Proofs.YtbfcbjjhdadicaaDoor
