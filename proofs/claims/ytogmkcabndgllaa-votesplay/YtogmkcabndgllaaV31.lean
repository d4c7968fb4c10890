/- the document's Add: what it leans on -/
import Derived.Test.YtogmkcabndgllaaV27
namespace Go.Proofs.Ytogmkcabndgllaa
open Go Go.RowKit
def flatO (rs : List On) : List Value := rs.flatMap On.cells
theorem flatO_len {rs : List On} (h : ∀ r ∈ rs, r.ok) : (flatO rs).length = rs.length * 53 := flat_len_k (fun y hy => (h y hy).len)
theorem infoOn : (Try.prog.info? 67).map (fun i => (i.zero, i.size, i.bytes)) = some (some (.agg on0.cells.toArray), 53, 88) := by kernel_rfl
theorem load_oneV {P : Program} (w : World) {b off : Nat} {ty : TypeId} {v : Value} {d : TypeDesc} (hc : w.cell? ⟨b, off, none⟩ = some v) (hu : P.underlying ty = some d) (hd : d.isRow = false) : (loadVar ty ⟨b, off, none⟩).run P w = .ok v w := by
  cases d <;> simp_all [loadVar, isAgg, run_underlying, TypeDesc.isRow]
theorem bs_one {u : List Value} (hu : u.length = 53) (w : World) : (Instr.buildSlice 59 1 #[(0, .agg u.toArray)]).run Try.prog w = .ok (.slice (some ⟨w.heap.size, 0, none⟩) 1 1) (w.alloc (.cells u.toArray 67)) := by
  obtain ⟨i, hi, hz, hs, hb⟩ := info_parts infoOn
  exact run_bs1 59 67 i _ u Try.underlying59 hi hz (by rw [hs, hu]) (by omega) (by omega) w
section
variable {P : Program} {ops : Array Oper} {Q : Exit → Act → World → Prop}
theorem hs_forkL {l : List Nat} {S : World → Prop} {fuel : Nat} {listed : Array Bool} {a : Act} {w : World} (hr : Region.ready .any ops listed = l) (hl : l ≠ [])
    (h : ∀ i ∈ l, StepS P ops Q S fuel listed i a w) : HeldS P ops Q S (fuel + 1) listed a w := by
  subst hr
  refine wpAnyH_all rfl ?_ ?_
  · exact hl
  · intro k hk
    exact h k hk
theorem hs_runX {i : Nat} {S : World → Prop} {oi : Oper} {d : Option Nat} {R : Value → World → Prop} {fuel : Nat} {listed : Array Bool} {a : Act} {w : World} (hi : ops[i]? = some oi)
    (hr : Region.ready .any ops listed = [i]) (hw : Region.wanted oi (yielded ops a.tmps) = true) (hdst : oi.dst = d) (hy : ∃ v w', (execOp a.eval oi).run P w = .ok (.value v) w' ∧ R v w')
    (h : ∀ v w', R v w' → S w' ∧ HeldS P ops Q S fuel (listed.setIfInBounds i true) (a.put d v) w') : HeldS P ops Q S (fuel + 1) listed a w := by
  obtain ⟨v, w', h1, h2⟩ := hy
  obtain ⟨h4, h5⟩ := h v w' h2
  exact hs_run hi hr hw h1 hdst h4 h5
theorem st_runX {i : Nat} {S : World → Prop} {oi : Oper} {d : Option Nat} {R : Value → World → Prop} {fuel : Nat} {listed : Array Bool} {a : Act} {w : World} (hi : ops[i]? = some oi)
    (hw : Region.wanted oi (yielded ops a.tmps) = true) (hdst : oi.dst = d) (hy : ∃ v w', (execOp a.eval oi).run P w = .ok (.value v) w' ∧ R v w')
    (h : ∀ v w', R v w' → S w' ∧ HeldS P ops Q S fuel (listed.setIfInBounds i true) (a.put d v) w') : StepS P ops Q S fuel listed i a w := by
  obtain ⟨v, w', h1, h2⟩ := hy
  obtain ⟨h4, h5⟩ := h v w' h2
  exact st_run hi hw h1 hdst h4 h5
end
theorem ex_load {o : Oper} {a : Act} {w : World} {x : Operand} {b off : Nat} {v : Value} (ho : o.op = .load 59 x) (hx : a.eval x = .pointer (some ⟨b, off, none⟩)) (hc : w.cell? ⟨b, off, none⟩ = some v) :
    ∃ v' w', (execOp a.eval o).run Try.prog w = .ok (.value v') w' ∧ (v' = v ∧ w' = w) := ⟨v, w, exec_load ho hx (load_oneV w hc Try.underlying59 rfl), rfl, rfl⟩
theorem ex_bs0 {o : Oper} {a : Act} {w : World} (ho : o.op = .buildSlice 59 0 #[]) :
    ∃ v w', (execOp a.eval o).run Try.prog w = .ok (.value v) w' ∧ (Below w.heap.size w w' ∧ w'.ownsRow w.heap.size 67 53 v 0 []) := by
  refine ⟨.slice (some ⟨w.heap.size, 0, none⟩) 0 0, w.alloc (.cells #[] 67), ?_, (Below.refl _ _).alloc (Nat.le_refl _) _, ?_⟩
  · obtain ⟨i, hi, hzz⟩ := Option.map_eq_some_iff.1 infoOn
    simp only [Prod.mk.injEq] at hzz
    obtain ⟨hz, hs, hb⟩ := hzz
    unfold execOp
    simp [ho, Instr.buildSlice, run_underlying Try.underlying59, sizeOf, typeInfo, hi, Instr.fill, newRow]
    have e : (Array.map (fun _ : Nat => (default : Value)) (Array.range 0)) = #[] := by
      apply Array.ext
      · simp
      · intro i h1 h2
        simp at h2
    rw [e]
  · exact ⟨rfl, .inr ⟨w.heap.size, 0, #[], rfl, Nat.le_refl _, heap_alloc_new w _, Nat.le_refl _, by unfold maxLen; omega, rfl, rfl⟩⟩
theorem ex_bs1 {o : Oper} {a : Act} {w : World} {x : Operand} {u : List Value} (ho : o.op = .buildSlice 59 1 #[(0, x)]) (hx : a.eval x = .agg u.toArray) (hu : u.length = 53) :
    ∃ v w', (execOp a.eval o).run Try.prog w = .ok (.value v) w' ∧ ∃ cb : Nat, v = .slice (some ⟨cb, 0, none⟩) 1 1 ∧ w'.rangeAt cb 0 u ∧ cb < w'.heap.size ∧ w.heap.size ≤ cb ∧ Below w.heap.size w w' :=
  ⟨_, _, exec_bs1 ho hx (bs_one hu w), w.heap.size, rfl, by simpa using range_new w u.toArray 67, by simp, Nat.le_refl _, (Below.refl _ _).alloc (Nat.le_refl _) _⟩
theorem src_any {w : World} {a : Option Addr} {rs : List On} (ho : ∀ y ∈ rs, y.ok) (h : RowOf On.cells w a rs) (cap : Nat) : Src Try.prog 53 59 (.slice a rs.length cap) rs.length (flatO rs) w := by
  cases a with
  | none =>
    have : rs = [] := by
      rcases h with q | ⟨b, off, hx, _⟩
      · exact q
      · cases hx
    subst this
    exact Src.ofNil _ Try.underlying59 cap
  | some x =>
    refine Src.ofSlice w Try.underlying59 x rs.length cap _ (flatO_len ho) (fun j u hu => ?_) (fun v hv => ?_)
    · rcases h with rfl | ⟨b, off, hx, _, hr⟩
      · simp [flatO] at hu
      · cases hx
        rw [Addr.add_mid]
        exact hr j u hu
    · obtain ⟨y, _, hy⟩ := List.mem_flatMap.1 hv
      exact y.one v hy
theorem ex_append {o : Oper} {a : Act} {w : World} {s x : Operand} {B : Nat} {v : Value} {ra : Option Addr} {cap : Nat} {L : List On} (ho : o.op = .call { callee := .builtin .append, args := #[s, x], argTypes := #[59, 59] }) (hv : a.eval s = v) (hx : a.eval x = .slice ra L.length cap)
    (hown : w.ownsRow B 67 53 v 0 []) (hB : B ≤ w.heap.size) (hLo : ∀ y ∈ L, y.ok) (hrow : RowOf On.cells w ra L) (hL : L.length ≤ 100000) :
    ∃ v' w', (execOp a.eval o).run Try.prog w = .ok (.value v') w' ∧ (w'.ownsRow B 67 53 v' L.length (flatO L) ∧ w.grownBy w' v.ownBlock ∧ ∀ g, v'.ownBlock = some g → v.ownBlock = some g ∨ w.heap.size ≤ g) := by
  obtain ⟨i, hi, hzz⟩ := Option.map_eq_some_iff.1 infoOn
  simp only [Prod.mk.injEq] at hzz
  obtain ⟨hz, hs, hb⟩ := hzz
  obtain ⟨v', w', hrun, ho2, hg, hap⟩ := run_append_own_src2 (P := Try.prog) w B 59 59 o.type 67 i _ 53 88 Try.underlying59 hi hz hs hb (by rfl) v 0 [] hown _ L.length (flatO L) (src_any hLo hrow cap) (by unfold maxLen; omega) (by omega) hB
  exact ⟨v', w', exec_append1 ho hv hx hrun, by simpa using ho2, hg, fun g hg' => (hap g hg').imp id (fun e => by omega)⟩
theorem ex_append1 {o : Oper} {a : Act} {w : World} {s x : Operand} {B cb : Nat} {v : Value} {n : Nat} {xs u : List Value} (ho : o.op = .call { callee := .builtin .append, args := #[s, x], argTypes := #[59, 59] }) (hv : a.eval s = v) (hx : a.eval x = .slice (some ⟨cb, 0, none⟩) 1 1)
    (hown : w.ownsRow B 67 53 v n xs) (hB : B ≤ w.heap.size) (hr : w.rangeAt cb 0 u) (hu : u.length = 53) (h1 : ∀ y ∈ u, y.oneCell' = true) (hn : n ≤ 100000) :
    ∃ v' w', (execOp a.eval o).run Try.prog w = .ok (.value v') w' ∧ (w'.ownsRow B 67 53 v' (n + 1) (xs ++ u) ∧ w.grownBy w' v.ownBlock ∧ ∀ g, v'.ownBlock = some g → v.ownBlock = some g ∨ w.heap.size ≤ g) := by
  obtain ⟨i, hi, hzz⟩ := Option.map_eq_some_iff.1 infoOn
  simp only [Prod.mk.injEq] at hzz
  obtain ⟨hz, hs, hb⟩ := hzz
  have hsrc : Src Try.prog 53 59 (.slice (some ⟨cb, 0, none⟩) 1 1) 1 u w := Src.ofSlice _ Try.underlying59 ⟨cb, 0, none⟩ 1 1 _ (by simpa using hu) (fun j y hy => by have := hr j y hy; rw [Addr.add_mid]; exact this) h1
  obtain ⟨v', w', hrun, ho2, hg, hap⟩ := run_append_own_src2 (P := Try.prog) w B 59 59 o.type 67 i _ 53 88 Try.underlying59 hi hz hs hb (by rfl) v n xs hown _ 1 u hsrc (by unfold maxLen; omega) (by omega) hB
  exact ⟨v', w', exec_append1 ho hv hx hrun, ho2, hg, fun g hg' => (hap g hg').imp id (fun e => by omega)⟩

end Go.Proofs.Ytogmkcabndgllaa
