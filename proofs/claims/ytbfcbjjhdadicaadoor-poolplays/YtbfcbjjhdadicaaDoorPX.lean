/- a slice of one struct -/
import Derived.Test.YtbfcbjjhdadicaaDoorP1
import Derived.Test.YtbfcbjjhdadicaaDoorRefSum
namespace Go.Proofs.YtbfcbjjhdadicaaDoor
open Go Go.RowKit
theorem take_set_one {α : Type} (l : List α) (k : Nat) (a : α) (hk : k < l.length) : (l.set k a).take (k + 1) = l.take k ++ [a] := by
  apply List.ext_getElem?
  intro i
  rcases Nat.lt_trichotomy i k with h | h | h
  · rw [List.getElem?_take_of_lt (by omega), List.getElem?_set_ne (by omega), List.getElem?_append_left (by rw [List.length_take]; omega), List.getElem?_take_of_lt h]
  · subst h
    rw [List.getElem?_take_of_lt (by omega), List.getElem?_set_self hk, List.getElem?_append_right (by rw [List.length_take]; omega), List.length_take, Nat.min_eq_left (by omega), Nat.sub_self]
    rfl
  · rw [List.getElem?_eq_none (by rw [List.length_take]; omega), List.getElem?_eq_none (by rw [List.length_append, List.length_take]; simp; omega)]
theorem fold_sets : ∀ (u : List Value) (k : Nat) (arr : Array Value), k + u.length = arr.size → List.foldl (fun (cs : Array Value) (x : Value × Nat) => cs.setIfInBounds x.snd x.fst) arr (u.zipIdx k) = (arr.toList.take k ++ u).toArray
  | [], k, arr, h => by
    simp only [List.length_nil, Nat.add_zero] at h
    rw [List.take_of_length_le (by simp [h])]
    simp
  | a :: u, k, arr, h => by
    simp only [List.length_cons] at h
    rw [List.zipIdx_cons, List.foldl_cons, fold_sets u (k + 1) _ (by simp; omega)]
    congr 1
    show List.take (k + 1) (arr.setIfInBounds k a).toList ++ u = _
    rw [Array.toList_setIfInBounds, take_set_one _ _ _ (by simp; omega), List.append_assoc]
    rfl
theorem fold_u (arr : Array Value) (u : List Value) (h : u.length = arr.size) : List.foldl (fun (cs : Array Value) (x : Value × Nat) => cs.setIfInBounds x.snd x.fst) arr u.zipIdx = u.toArray := by
  have := fold_sets u 0 arr (by omega)
  simpa using this
theorem run_bs1 {P : Program} (t e : TypeId) (i : TypeInfo) (z : Value) (u : List Value) (ht : P.underlying t = some (.slice e)) (hi : P.info? e = some i) (hz : i.zero = some z) (hs : i.size = u.length) (h0 : 0 < u.length) (hm : u.length ≤ 1000) (w : World) :
    (Instr.buildSlice t 1 #[(0, .agg u.toArray)]).run P w = .ok (.slice (some ⟨w.heap.size, 0, none⟩) 1 1) (w.alloc (.cells u.toArray e)) := by
  have h1 : ¬ 2 ^ 24 < u.length := by omega
  have h2 : u ≠ [] := fun h => by rw [h] at h0; simp at h0
  have hf := fold_u ((Array.range u.length).map (z.cells[· % z.cells.size]!)) u (by simp)
  unfold Instr.buildSlice
  simp [run_underlying ht, sizeOf, zeroValue, typeInfo, hi, hz, hs, h1, h2, Instr.fill, Value.cells, newRow]
  rw [fold_u _ u (by simp)]
theorem exec_bs1 {P : Program} {o : Oper} {a : Act} {w : World} {t e : TypeId} {x : Operand} {u : List Value} (ho : o.op = .buildSlice t 1 #[(0, x)]) (hx : a.eval x = .agg u.toArray) (hr : (Instr.buildSlice t 1 #[(0, .agg u.toArray)]).run P w = .ok (.slice (some ⟨w.heap.size, 0, none⟩) 1 1) (w.alloc (.cells u.toArray e))) :
   (execOp a.eval o).run P w = .ok (.value (.slice (some ⟨w.heap.size, 0, none⟩) 1 1)) (w.alloc (.cells u.toArray e)) := by
  unfold execOp
  simp [ho, hx, hr]
theorem wpList_run1 {P : Program} {ops : Array Oper} {rest : List Oper} {o : Oper} {a : Act} {w w' : World} {v : Value} {Q : Exit → Act → World → Prop} (hgd : o.guard = none) (hr : (execOp a.eval o).run P w = .ok (.value v) w') (h : wpList P ops Q rest (a.put o.dst v) w') : wpList P ops Q (o :: rest) a w := by
  refine wpList_plain hgd fun K hK => ?_
  unfold Oper.wp
  rw [hr]
  exact hK _ _ h
theorem exec_append1 {P : Program} {o : Oper} {a : Act} {w w' : World} {s x : Operand} {t tx : TypeId} {v xv v' : Value} (ho : o.op = .call { callee := .builtin .append, args := #[s, x], argTypes := #[t, tx] }) (hv : a.eval s = v) (hx : a.eval x = xv)
    (hr : (Builtin.append_ #[t, tx] o.type #[v, xv]).run P w = .ok v' w') : (execOp a.eval o).run P w = .ok (.value v') w' := by
  unfold execOp
  simp [ho, resolve, invoke, builtin, hv, hx, hr]
theorem iszR : (Tryd.prog.info? 35).map (·.size) = some 19 := by kernel_rfl
theorem Rq.ok.isz {r : Rq} (h : r.ok) : (Tryd.prog.info? 35).map (·.size) = some r.cells.length := by rw [h.length]; exact iszR
theorem Rq.ok.iszA {r : Rq} (h : r.ok) : (Tryd.prog.info? 35).map (·.size) = some r.cells.toArray.size := by rw [List.size_toArray, h.length]; exact iszR
def zeroReq : List Value := reqL 0 0 ⟨#[]⟩ (List.replicate 16 0)
theorem infoR : (Tryd.prog.info? 35).map (fun i => (i.zero, i.size, i.bytes)) = some (some (.agg zeroReq.toArray), 19, 48) := by kernel_rfl
theorem bs_req {u : List Value} (hu : u.length = 19) (w : World) : (Instr.buildSlice 43 1 #[(0, .agg u.toArray)]).run Tryd.prog w = .ok (.slice (some ⟨w.heap.size, 0, none⟩) 1 1) (w.alloc (.cells u.toArray 35)) := by
  obtain ⟨i, hi, hzz⟩ := Option.map_eq_some_iff.1 infoR
  simp only [Prod.mk.injEq] at hzz
  obtain ⟨hz, hs, hb⟩ := hzz
  exact run_bs1 43 35 i _ u Tryd.underlying43 hi hz (by rw [hs, hu]) (by omega) (by omega) w
/-- append of one request to a row of one's own -/
theorem append_reqB {w : World} {B : Nat} {v : Value} {n : Nat} {xs u : List Value} (hBw : B ≤ w.heap.size) (hown : w.ownsRow B 35 19 v n xs) (hu : u.length = 19) (h1 : ∀ x ∈ u, x.oneCell' = true) (hn : n ≤ 100000000) (ty : TypeId) :
    ∃ v' w', (Builtin.append_ #[43, 43] ty #[v, .slice (some ⟨w.heap.size, 0, none⟩) 1 1]).run Tryd.prog (w.alloc (.cells u.toArray 35)) = .ok v' w' ∧ w'.ownsRow B 35 19 v' (n + 1) (xs ++ u) ∧
      w.grownBy w' v.ownBlock ∧ (∀ g, v'.ownBlock = some g → v.ownBlock = some g ∨ w.heap.size ≤ g) := by
  obtain ⟨i, hi, hzz⟩ := Option.map_eq_some_iff.1 infoR
  simp only [Prod.mk.injEq] at hzz
  obtain ⟨hz, hs, hb⟩ := hzz
  have hB : Below w.heap.size w (w.alloc (.cells u.toArray 35)) := (Below.refl _ _).alloc (Nat.le_refl _) _
  have hown' : (w.alloc (.cells u.toArray 35)).ownsRow B 35 19 v n xs := owns_at hown (fun g hg => hB.block g (owns_lt hown hg))
  have hr := range_new w u.toArray 35
  have hsrc : Src Tryd.prog 19 43 (.slice (some ⟨w.heap.size, 0, none⟩) 1 1) 1 u (w.alloc (.cells u.toArray 35)) :=
    Src.ofSlice _ Tryd.underlying43 ⟨w.heap.size, 0, none⟩ 1 1 _ (by simpa using hu) (fun j x hx => by have := hr j x (by simpa using hx); rw [Addr.add_mid]; exact this) h1
  obtain ⟨v', w', hrun, ho, hg, hap⟩ := run_append_own_src2 (P := Tryd.prog) (w.alloc (.cells u.toArray 35)) B 43 43 ty 35 i _ 19 48 Tryd.underlying43 hi hz hs hb (by rfl) v n xs hown' _ 1 u hsrc (by unfold maxLen; omega) (by omega) (Nat.le_trans hBw hB.size)
  refine ⟨v', w', hrun, ho, ?_, fun g hg' => ?_⟩
  · exact ⟨hg.os, hg.tape, hg.output, Nat.le_trans hB.size hg.size, fun k hk hne => (hg.block k (Nat.lt_of_lt_of_le hk hB.size) hne).trans (hB.block k hk)⟩
  · rcases hap g hg' with h | h
    · exact .inl h
    · right; rw [h]; exact hB.size
theorem append_req {w : World} {v : Value} {n : Nat} {xs u : List Value} (hown : w.ownsRow 0 35 19 v n xs) (hu : u.length = 19) (h1 : ∀ x ∈ u, x.oneCell' = true) (hn : n ≤ 100000000) (ty : TypeId) :
    ∃ v' w', (Builtin.append_ #[43, 43] ty #[v, .slice (some ⟨w.heap.size, 0, none⟩) 1 1]).run Tryd.prog (w.alloc (.cells u.toArray 35)) = .ok v' w' ∧ w'.ownsRow 0 35 19 v' (n + 1) (xs ++ u) ∧
      w.grownBy w' v.ownBlock ∧ (∀ g, v'.ownBlock = some g → v.ownBlock = some g ∨ w.heap.size ≤ g) := append_reqB (Nat.zero_le _) hown hu h1 hn ty
theorem wpList_append_run {P : Program} {ops : Array Oper} {rest : List Oper} {o : Oper} {a : Act} {w : World} {Q : Exit → Act → World → Prop} (hgd : o.guard = none) (s x : Operand) (t tx : TypeId)
    (ho : o.op = .call { callee := .builtin .append, args := #[s, x], argTypes := #[t, tx] }) (v xv v' : Value) (w' : World) (hv : a.eval s = v) (hx : a.eval x = xv)
    (hr : (Builtin.append_ #[t, tx] o.type #[v, xv]).run P w = .ok v' w') (h : wpList P ops Q rest (a.put o.dst v') w') : wpList P ops Q (o :: rest) a w := by
  refine wpList_plain hgd fun K hK => ?_
  unfold Oper.wp execOp
  simp only [ho, resolve, invoke, builtin, Sem.run_bind, Sem.run_pure, Result.andThen_ok, List.map_toArray, List.map_cons, List.map_nil, hv, hx, hr]
  exact hK _ _ h
def intsV (zs : List Int) : List Value := zs.map (Value.int .i64)
theorem infoI : (Tryd.prog.info? 3).map (fun i => (i.zero, i.size, i.bytes)) = some (some (.int .i64 0), 1, 8) := by kernel_rfl
/-- append of one int to a row of one's own -/
theorem append_int {w : World} {B : Nat} {v : Value} {n : Nat} {xs : List Value} (z : Int) (hBw : B ≤ w.heap.size) (hown : w.ownsRow B 3 1 v n xs) (hn : n ≤ 100000000) (ty : TypeId) :
    ∃ v' w', (Builtin.append_ #[36, 36] ty #[v, .slice (some ⟨w.heap.size, 0, none⟩) 1 1]).run Tryd.prog (w.alloc (.cells #[.int .i64 z] 3)) = .ok v' w' ∧ w'.ownsRow B 3 1 v' (n + 1) (xs ++ [.int .i64 z]) ∧
      w.grownBy w' v.ownBlock ∧ (∀ g, v'.ownBlock = some g → v.ownBlock = some g ∨ w.heap.size ≤ g) := by
  obtain ⟨i, hi, hzz⟩ := Option.map_eq_some_iff.1 infoI
  simp only [Prod.mk.injEq] at hzz
  obtain ⟨hz, hs, hb⟩ := hzz
  have hB : Below w.heap.size w (w.alloc (.cells #[.int .i64 z] 3)) := (Below.refl _ _).alloc (Nat.le_refl _) _
  have hown' : (w.alloc (.cells #[.int .i64 z] 3)).ownsRow B 3 1 v n xs := owns_at hown (fun g hg => hB.block g (owns_lt hown hg))
  have hr := range_new w #[.int .i64 z] 3
  have hsrc : Src Tryd.prog 1 36 (.slice (some ⟨w.heap.size, 0, none⟩) 1 1) 1 [.int .i64 z] (w.alloc (.cells #[.int .i64 z] 3)) :=
    Src.ofSlice _ Tryd.underlying36 ⟨w.heap.size, 0, none⟩ 1 1 _ rfl (fun j x hx => by have := hr j x (by simpa using hx); rw [Addr.add_mid]; exact this) (fun x hx => by rw [List.mem_singleton.1 hx]; rfl)
  obtain ⟨v', w', hrun, ho, hg, hap⟩ := run_append_own_src2 (P := Tryd.prog) (w.alloc (.cells #[.int .i64 z] 3)) B 36 36 ty 3 i _ 1 8 Tryd.underlying36 hi hz hs hb (by rfl) v n xs hown' _ 1 _ hsrc (by unfold maxLen; omega) (by omega) (Nat.le_trans hBw hB.size)
  refine ⟨v', w', hrun, ho, ?_, fun g hg' => ?_⟩
  · exact ⟨hg.os, hg.tape, hg.output, Nat.le_trans hB.size hg.size, fun k hk hne => (hg.block k (Nat.lt_of_lt_of_le hk hB.size) hne).trans (hB.block k hk)⟩
  · rcases hap g hg' with h | h
    · exact .inl h
    · right; rw [h]; exact hB.size
theorem owns_slice {w : World} {B : Nat} {e : TypeId} {s : Nat} {v : Value} {n : Nat} {xs : List Value} (h : w.ownsRow B e s v n xs) : ∃ a cap, v = .slice a n cap := by
  rcases h.2 with ⟨rfl, rfl⟩ | ⟨g, cap, cur, rfl, _⟩
  · exact ⟨none, 0, rfl⟩
  · exact ⟨_, cap, rfl⟩
theorem owns_base {w : World} {B : Nat} {e : TypeId} {s : Nat} {v : Value} {n : Nat} {xs : List Value} (h : w.ownsRow B e s v n xs) : ∀ g, v.ownBlock = some g → B ≤ g := by
  rcases h.2 with ⟨rfl, rfl⟩ | ⟨g, cap, cur, rfl, hb, _⟩
  · intro g hg; cases hg
  · intro g' hg; cases hg; exact hb
theorem ownsB {w w' : World} {B : Nat} {e : TypeId} {s : Nat} {v : Value} {n : Nat} {xs : List Value} (h : w.ownsRow B e s v n xs) (hb : Below w.heap.size w w') : w'.ownsRow B e s v n xs :=
  owns_at h (fun g hg => hb.block g (owns_lt h hg))
theorem grown_below {w0 w w' : World} {B : Nat} {v : Value} (h : Below B w0 w) (hs : B ≤ w.heap.size) (hg : w.grownBy w' v.ownBlock) (hv : ∀ g, v.ownBlock = some g → B ≤ g) : Below B w0 w' := h.grown hg hs hv
def IntsAt (w : World) (a : Option Addr) (zs : List Int) : Prop := zs = [] ∨ ∃ b off, a = some ⟨b, off, none⟩ ∧ b < w.heap.size ∧ w.rangeAt b off (intsV zs)
theorem IntsAt.below {w w' : World} {a : Option Addr} {zs : List Int} (h : IntsAt w a zs) (hb : Below w.heap.size w w') : IntsAt w' a zs := by
  rcases h with h | ⟨b, off, rfl, h1, h2⟩
  · exact .inl h
  · exact .inr ⟨b, off, rfl, Nat.lt_of_lt_of_le h1 hb.size, range_below h2 hb h1⟩
theorem IntsAt.cell {w : World} {a : Option Addr} {zs : List Int} (h : IntsAt w a zs) {i : Nat} (hi : i < zs.length) : ∃ b off, a = some ⟨b, off, none⟩ ∧ w.cell? ⟨b, off + i, none⟩ = some (.int .i64 zs[i]) := by
  rcases h with rfl | ⟨b, off, rfl, h1, h2⟩
  · simp at hi
  · exact ⟨b, off, rfl, h2 i _ (by simp [intsV, List.getElem?_eq_getElem hi])⟩
theorem ints_own {w : World} {B : Nat} {v : Value} {zs : List Int} (h : w.ownsRow B 3 1 v zs.length (intsV zs)) : ∃ a cap, v = .slice a zs.length cap ∧ IntsAt w a zs := by
  rcases h.2 with ⟨rfl, h0⟩ | ⟨g, cap, cur, rfl, hb, hg, hn, hcm, hcs, ht⟩
  · have : zs = [] := List.eq_nil_of_length_eq_zero h0
    subst this
    exact ⟨none, 0, rfl, .inl rfl⟩
  · refine ⟨_, cap, rfl, .inr ⟨g, 0, rfl, (Array.getElem?_eq_some_iff.1 hg).1, fun j u hu => ?_⟩⟩
    have := h.cells (g := g) rfl j u hu
    rwa [Addr.add_mid] at this
theorem own_reqs0 {w : World} {B : Nat} {v : Value} {rs : List Rq} (h : w.ownsRow B 35 19 v rs.length (flatR rs)) (hok : ∀ r ∈ rs, r.ok) (hm : rs.length ≤ maxLen) :
    ∃ a cap, v = .slice a rs.length cap ∧ rs.length ≤ cap ∧ cap ≤ maxLen ∧ ReqsAt w a rs ∧ ∀ x, a = some x → B ≤ x.block := by
  rcases h.2 with ⟨rfl, h0⟩ | ⟨g, cap, cur, rfl, hb, hg, hn, hcm, hcs, ht⟩
  · have : rs = [] := List.eq_nil_of_length_eq_zero h0
    subst this
    exact ⟨none, 0, rfl, by simp, by unfold maxLen; omega, ReqsAt.none, fun x hx => by cases hx⟩
  · refine ⟨_, cap, rfl, hn, hcm, ⟨hm, hok, Or.inr ⟨g, 0, rfl, (Array.getElem?_eq_some_iff.1 hg).1, fun j u hu => ?_⟩⟩, fun x hx => by cases hx; exact hb⟩
    have := h.cells (g := g) rfl j u hu
    rwa [Addr.add_mid] at this
end Go.Proofs.YtbfcbjjhdadicaaDoor
