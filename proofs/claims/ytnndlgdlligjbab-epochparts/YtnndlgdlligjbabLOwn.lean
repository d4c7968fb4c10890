/- leaders.owner: a contract. -/
import Derived.Test.YtnndlgdlligjbabLAmong
namespace Go.Proofs.Ytnndlgdlligjbab
open Go.RowKit Go.Shelf
attribute [local go_sem] Oper.semAt_some
theorem boxed_own {β : Type} (B : Nat) (t : TypeId) (f : β → Value) (G : β → Prop) : Own (fun s W => Boxed W B t (f s) ∧ G s) := by
  rintro s X Y row ⟨hv, hG⟩ hg hrow
  refine ⟨hv.kept hg (fun e' => ?_), hG⟩
  obtain ⟨o, ho, hc⟩ := hrow B e'.symm
  rw [show X.heap[B]? = _ from hv] at ho; cases ho; cases hc
theorem boxed_putObj {W : World} {B : Nat} {t : TypeId} {v : Value} (h : Boxed W B t v) {l : Nat} (o' : Obj) (hne : B ≠ l) : Boxed (W.putObj l o') B t v := h.kept (grownBy_putObj' W l o') (by simpa using hne)
theorem results_cell {fn : Func} {p : Tmp} {ty : TypeId} (h : fn.results = #[.cell p ty]) (tmps : Array Value) (P : Program) (w : World) {a : Addr} {v : Value} (ha : tmps.getD p undef = .pointer (some a)) (hv : (loadVar ty a).run P w = .ok v w) : (results fn tmps).run P w = .ok v w := by
  have e : (results fn tmps).run P w = ((asAddr (tmps.getD p undef)).run P w).andThen fun a w₁ => (loadVar ty a).run P w₁ := by
    simp only [results, h]
    simp [Sem.run_bind, Result.andThen]
  rw [e, ha]
  simp [asAddr, hv, Result.andThen]
theorem load3 (w : World) (B : Nat) (x : Int) (hc : w.cell? ⟨B, 0, none⟩ = some (.int .i64 x)) : (loadVar 3 ⟨B, 0, none⟩).run Try.prog w = .ok (.int .i64 x) w := by
  simp [go_sem, loadVar, hc]
def lastN (pre : List Nat) : Nat := pre.getLast?.getD 0
theorem lastN_snoc (l : List Nat) (x : Nat) : lastN (l ++ [x]) = x := by simp [lastN]
theorem own_stop {N f : Nat} {p : Nat → Bool} {l : List Nat} {x : Nat} (hpre : l ++ [x] <+: roundF N f N) (hl : ∀ y ∈ l, p y = false) (hx : p x = true) : ownO N p f = some x := by
  obtain ⟨r, hr⟩ := hpre
  unfold ownO
  rw [← hr, List.append_assoc, List.find?_append, find_none hl, Option.none_or]
  simp [hx]
theorem own_congr {N f : Nat} {p q : Nat → Bool} (h : ∀ k, k < N → p k = q k) (hN : 1 ≤ N) : ownO N p f = ownO N q f := by
  unfold ownO
  have : ∀ l : List Nat, (∀ x ∈ l, p x = q x) → l.find? p = l.find? q := by
    intro l
    induction l with
    | nil => intro _; rfl
    | cons x l ih =>
      intro hl
      have h1 := hl x (by simp)
      have h2 := ih (fun y hy => hl y (by simp [hy]))
      cases hx : q x
      · rw [List.find?_cons_of_neg (by rw [h1, hx]; simp), List.find?_cons_of_neg (by rw [hx]; simp), h2]
      · rw [List.find?_cons_of_pos (by rw [h1, hx]), List.find?_cons_of_pos hx]
  refine this _ fun x hx => h x ?_
  simp only [roundF, List.mem_map] at hx
  obtain ⟨i, _, rfl⟩ := hx
  exact Nat.mod_lt _ hN
end Go.Proofs.Ytnndlgdlligjbab
