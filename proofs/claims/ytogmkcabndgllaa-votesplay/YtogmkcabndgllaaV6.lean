/- structs that are built out of parts -/
import Derived.Test.YtogmkcabndgllaaV5
namespace Go.Proofs.Ytogmkcabndgllaa
open Go.RowKit
theorem fold_at (off : Nat) : ∀ (u : List Value) (k : Nat) (arr : Array Value), off + k + u.length ≤ arr.size → List.foldl (fun (cs : Array Value) (x : Value × Nat) => cs.setIfInBounds (off + x.snd) x.fst) arr (u.zipIdx k) = (arr.toList.take (off + k) ++ (u ++ arr.toList.drop (off + k + u.length))).toArray
  | [], k, arr, h => by simp
  | a :: u, k, arr, h => by
    simp only [List.length_cons] at h
    rw [List.zipIdx_cons, List.foldl_cons, fold_at off u (k + 1) _ (by simp; omega)]
    congr 1
    have hlt : off + k < arr.toList.length := by simp; omega
    rw [Array.toList_setIfInBounds]
    simp only [List.length_cons]
    rw [List.drop_set_of_lt (by omega), show off + (k + 1) + u.length = off + k + (u.length + 1) by omega, show off + (k + 1) = off + k + 1 by omega, List.take_succ_eq_append_getElem (by simpa using hlt), List.getElem_set_self, List.take_set_of_le (Nat.le_refl _)]
    simp
theorem fill_step {place : Nat → Option (Nat × Nat)} {i off n : Nat} {v : Value} {rest : List (Nat × Value)} {vs pre mid post : List Value} (hp : place i = some (off, n)) (hn : mid.length = n) (hpre : pre.length = off) (hv : v.cells = vs.toArray) (hl : vs.length = n) :
    Instr.fill place (pre ++ (mid ++ post)).toArray ((i, v) :: rest) = Instr.fill place (pre ++ (vs ++ post)).toArray rest := by
  subst hn hpre
  rw [Instr.fill, hp]
  simp only [hv, List.size_toArray, hl, ne_eq, not_true_eq_false, decide_false, Bool.false_or, List.length_append]
  rw [if_neg (by simp)]
  congr 1
  have := fold_at pre.length vs 0 (pre ++ (mid ++ post)).toArray (by simp; omega)
  simp only [Nat.add_zero] at this
  rw [show (vs.toArray.zipIdx.foldl (fun cs (x : Value × Nat) => cs.setIfInBounds (pre.length + x.2) x.1) (pre ++ (mid ++ post)).toArray) = List.foldl (fun (cs : Array Value) (x : Value × Nat) => cs.setIfInBounds (pre.length + x.snd) x.fst) (pre ++ (mid ++ post)).toArray (vs.zipIdx 0) by simp, this]
  congr 1
  rw [List.take_left, hl, ← List.append_assoc pre mid post, ← List.length_append, List.drop_left]
theorem build_fill {P : Program} {t : TypeId} {zs : List Value} {pl : Array (Nat × Nat)} {w : World} (hz : (zeroValue t).run P w = .ok (.agg zs.toArray) w) (hu : P.underlying t = some (.struct (P.fieldsOf t)))
    (hp : (((P.fieldsOf t).mapM fun f => do pure (f.offset, ← sizeOf f.type) : Sem (Array (Nat × Nat)))).run P w = .ok pl w) (parts : Array (Nat × Value)) (cs : List Value) (h : Instr.fill (pl[·]?) zs.toArray parts.toList = some cs.toArray) : (Instr.build t parts).run P w = .ok (.agg cs.toArray) w := by
  unfold Instr.build
  simp only [Sem.run_bind, hz, Result.andThen_ok, run_underlying hu]
  rw [hp]
  simp only [Result.andThen_ok, Value.cells]
  rw [h]
  rfl
theorem fill_two {pl : Array (Nat × Nat)} {n m : Nat} {z1 z2 c1 c2 : List Value} {v1 v2 : Value} (h0 : pl[0]? = some (0, n)) (h1 : pl[1]? = some (n, m)) (l1 : z1.length = n) (l2 : z2.length = m) (k1 : c1.length = n) (k2 : c2.length = m) (e1 : v1.cells = c1.toArray) (e2 : v2.cells = c2.toArray) :
    Instr.fill (pl[·]?) (z1 ++ z2).toArray [(0, v1), (1, v2)] = some (c1 ++ c2).toArray := by
  have s1 : z1 ++ z2 = [] ++ (z1 ++ z2) := rfl
  rw [s1, fill_step (off := 0) (n := n) (vs := c1) h0 l1 rfl e1 k1]
  have s2 : [] ++ (c1 ++ z2) = c1 ++ (z2 ++ []) := by simp
  rw [s2, fill_step (off := n) (n := m) (vs := c2) h1 l2 k1 e2 k2]
  simp [Instr.fill]
set_option maxRecDepth 100000 in
theorem build_signed (u t : List Value) (hu : u.length = 36) (ht : t.length = 16) (w : World) : (Instr.build 63 #[(0, .agg u.toArray), (1, .agg t.toArray)]).run Try.prog w = .ok (.agg (u ++ t).toArray) w :=
  build_fill (zs := vt0.cells ++ v8 (List.replicate 16 0)) (pl := #[(0, 36), (36, 16)]) (zeroSig w) (by kernel_rfl) (by kernel_rfl) _ _ (fill_two rfl rfl vt0_ok.len rfl hu ht rfl rfl)
set_option maxRecDepth 100000 in
theorem zeroSg (w : World) : (zeroValue 52).run Try.prog w = .ok (.agg ([Value.int .i64 0] ++ v8 (List.replicate 16 0)).toArray) w := by kernel_rfl
set_option maxRecDepth 100000 in
theorem build_sign (n : Int) (t : List Value) (ht : t.length = 16) (w : World) : (Instr.build 52 #[(0, .int .i64 n), (1, .agg t.toArray)]).run Try.prog w = .ok (.agg (.int .i64 n :: t).toArray) w :=
  build_fill (zs := [Value.int .i64 0] ++ v8 (List.replicate 16 0)) (pl := #[(0, 1), (1, 16)]) (zeroSg w) (by kernel_rfl) (by kernel_rfl) _ _ (fill_two (c1 := [.int .i64 n]) rfl rfl rfl rfl rfl ht rfl rfl)
set_option maxRecDepth 100000 in
theorem zeroCt (w : World) : (zeroValue 44).run Try.prog w = .ok (.agg (vt0.cells ++ [Value.slice none 0 0]).toArray) w := by kernel_rfl
set_option maxRecDepth 100000 in
theorem build_cert (u : List Value) (hu : u.length = 36) (a : Option Addr) (n c : Nat) (w : World) : (Instr.build 44 #[(0, .agg u.toArray), (1, .slice a n c)]).run Try.prog w = .ok (.agg (u ++ [Value.slice a n c]).toArray) w :=
  build_fill (zs := vt0.cells ++ [Value.slice none 0 0]) (pl := #[(0, 36), (36, 1)]) (zeroCt w) (by kernel_rfl) (by kernel_rfl) _ _ (fill_two (c2 := [.slice a n c]) rfl rfl vt0_ok.len rfl hu rfl rfl rfl)
theorem ex_build {P : Program} {o : Oper} {a : Act} {w : World} {t : TypeId} {parts : List (Nat × Operand)} {vs : List (Nat × Value)} {v : Value} (ho : o.op = .build t parts.toArray) (hv : (parts.map fun (x : Nat × Operand) => (x.1, a.eval x.2)) = vs)
    (hr : (Instr.build t vs.toArray).run P w = .ok v w) : (execOp a.eval o).run P w = .ok (.value v) w := by
  subst hv
  have e : Array.map (fun (x : Nat × Operand) => (x.1, a.eval x.2)) parts.toArray = (parts.map fun (x : Nat × Operand) => (x.1, a.eval x.2)).toArray := by simp
  unfold execOp
  simp only [ho]
  rw [show (Instr.build t (Array.map (fun x => match x with | (i, x) => (i, a.eval x)) parts.toArray)) = Instr.build t (parts.map fun (x : Nat × Operand) => (x.1, a.eval x.2)).toArray from congrArg _ e]
  simp only [Sem.run_bind, hr, Result.andThen_ok, Sem.run_pure]
theorem wpList_build {P : Program} {ops : Array Oper} {rest : List Oper} {o : Oper} {a : Act} {w : World} {Q : Exit → Act → World → Prop} (hgd : Region.wanted o (yielded ops a.tmps) = true) (t : TypeId) (parts : List (Nat × Operand)) (ho : o.op = .build t parts.toArray) (vs : List (Nat × Value)) (v : Value) (hv : (parts.map fun (x : Nat × Operand) => (x.1, a.eval x.2)) = vs)
    (hr : (Instr.build t vs.toArray).run P w = .ok v w) (h : wpList P ops Q rest (a.put o.dst v) w) : wpList P ops Q (o :: rest) a w := by
  refine wpList_step fun K hK => ?_
  rw [if_pos hgd]
  unfold Oper.wp
  rw [ex_build ho hv hr]
  exact hK _ _ h
theorem ex_update {P : Program} {o : Oper} {a : Act} {w w' : World} {t : TypeId} {m x y : Operand} {mv kv v : Value} (ho : o.op = .mapUpdate t m x y) (hm : a.eval m = mv) (hx : a.eval x = kv) (hy : a.eval y = v) (hr : (Instr.mapUpdate t mv kv v).run P w = .ok () w') : (execOp a.eval o).run P w = .ok .skip w' := by
  unfold execOp
  simp only [ho, hm, hx, hy, Sem.run_bind, Sem.run_pure, Result.andThen_ok, hr]
end Go.Proofs.Ytogmkcabndgllaa
