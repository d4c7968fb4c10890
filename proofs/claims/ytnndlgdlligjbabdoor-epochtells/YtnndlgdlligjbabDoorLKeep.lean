/- rows of one's own, boxes and blocks that stay: small laws. -/
import Derived.Test.YtnndlgdlligjbabDoorLFrom
import Derived.Test.YtnndlgdlligjbabDoorAppend
namespace Go.Proofs.YtnndlgdlligjbabDoor.Ld
open Go.RowKit Go.Shelf
/-- the block Bs lies as it lay -/
def KeepsAt (Bs : Nat) (A B : World) : Prop := Bs < A.heap.size → B.heap[Bs]? = A.heap[Bs]?
theorem KeepsAt.cell {Bs : Nat} {A B : World} (h : KeepsAt Bs A B) {v : Value} (e : A.cell? ⟨Bs, 0, none⟩ = some v) : B.cell? ⟨Bs, 0, none⟩ = some v := by
  have hb : Bs < A.heap.size := by
    rcases Nat.lt_or_ge Bs A.heap.size with h' | h'
    · exact h'
    · simp [World.cell?, h'] at e
  simp only [World.cell?, h hb] at e ⊢
  exact e
theorem KeepsAt.tr {Bs : Nat} {A B C : World} (h : KeepsAt Bs A B) (k : KeepsAt Bs B C) : KeepsAt Bs A C := by
  intro hb
  have h1 := h hb
  have : Bs < B.heap.size := by
    rcases Nat.lt_or_ge Bs B.heap.size with h' | h'
    · exact h'
    · rw [Array.getElem?_eq_none h', Array.getElem?_eq_getElem hb] at h1; cases h1
  rw [k this, h1]
theorem KeepsAt.of_below {Bs : Nat} {A B : World} (h : Below A.heap.size A B) : KeepsAt Bs A B := fun hb => h.block Bs hb
/-- two blocks lie as they lay -/
def Keeps2 (b d : Nat) (A B : World) : Prop := KeepsAt b A B ∧ KeepsAt d A B
theorem Keeps2.rf (b d : Nat) (A : World) : Keeps2 b d A A := ⟨fun _ => rfl, fun _ => rfl⟩
theorem Keeps2.tr {b d : Nat} {A B C : World} (h : Keeps2 b d A B) (k : Keeps2 b d B C) : Keeps2 b d A C := ⟨h.1.tr k.1, h.2.tr k.2⟩
theorem keeps2_b {b d : Nat} {w : World} (hb : b < w.heap.size) (hd : d < w.heap.size) (W : World) (l : Nat) (o o' : Obj) (hl : w.heap.size ≤ l) (_ : W.heap[l]? = some o) (_ : o.isCells = false) (_ : o.isWalk = false) : Keeps2 b d W (W.putObj l o') :=
  ⟨fun _ => World.putObj_heap_other (by omega), fun _ => World.putObj_heap_other (by omega)⟩
theorem gb_below {A B : World} (h : Below A.heap.size A B) : A.grownBy B none := ⟨h.os, h.tape, h.output, h.size, fun k hk _ => h.block k hk⟩
theorem ownsRow_below {A B : World} {base : Nat} {e : TypeId} {size : Nat} {v : Value} {k : Nat} {xs : List Value} (h : A.ownsRow base e size v k xs) (hb : Below A.heap.size A B) : B.ownsRow base e size v k xs := h.kept (gb_below hb) (by cases v.ownBlock <;> simp)
theorem boxed_below {A B : World} {b : Nat} {t : TypeId} {v : Value} (h : Boxed A b t v) (hb : Below A.heap.size A B) : Boxed B b t v := h.kept (gb_below hb) (by simp)
theorem ownsRow_low {W : World} {base base' : Nat} {e : TypeId} {size : Nat} {v : Value} {k : Nat} {xs : List Value} (hb : base' ≤ base) (h : W.ownsRow base e size v k xs) : W.ownsRow base' e size v k xs := by
  refine ⟨h.1, ?_⟩
  rcases h.2 with h | ⟨g, cap, cur, e1, e2, e3⟩
  · exact .inl h
  · exact .inr ⟨g, cap, cur, e1, Nat.le_trans hb e2, e3⟩
theorem ownsRow_slice {W : World} {base : Nat} {e : TypeId} {size : Nat} {v : Value} {k : Nat} {xs : List Value} (h : W.ownsRow base e size v k xs) : ∃ a cap, v = .slice a k cap := by
  rcases h.2 with ⟨rfl, rfl⟩ | ⟨g, cap, cur, rfl, _⟩
  · exact ⟨none, 0, rfl⟩
  · exact ⟨_, _, rfl⟩
theorem appended_keeps {W w1 : World} {n₀ B : Nat} {e : TypeId} {size : Nat} {v v' : Value} {k : Nat} {xs : List Value} {tmp : Obj}
    (hrow : W.ownsRow n₀ e size v k xs) (hgrow : (W.alloc tmp).grownBy w1 v.ownBlock) {K : Nat} (hK : K < n₀) (hne : K ≠ B) : KeepsAt K W (w1.setCell ⟨B, 0, none⟩ v') := by
  intro hb
  have e1 : (w1.setCell ⟨B, 0, none⟩ v').heap[K]? = w1.heap[K]? := (grownBy_setCell' w1 B v').block K (by have := hgrow.size; simp at this; omega) (by simp; exact hne)
  have e2 : w1.heap[K]? = (W.alloc tmp).heap[K]? := by
    refine hgrow.block K (by simp; omega) ?_
    rcases hrow.2 with ⟨rfl, _⟩ | ⟨g, cap, cur, rfl, hb', _⟩
    · simp [Value.ownBlock]
    · simp [Value.ownBlock]; omega
  rw [e1, e2]
  exact Below.heap_alloc W tmp K hb
theorem appended_box {W w1 : World} {n₀ B : Nat} {t e : TypeId} {size : Nat} {v v' : Value} {k m : Nat} {xs ys : List Value} {tmp : Obj}
    (hv : Boxed W B t v) (hte : t ≠ e) (hrow : W.ownsRow n₀ e size v k xs) (hn₀ : n₀ ≤ W.heap.size) (hB : B ≤ n₀)
    (hown' : w1.ownsRow n₀ e size v' m ys) (hgrow : (W.alloc tmp).grownBy w1 v.ownBlock) :
    Boxed w1 B t v ∧ Boxed (w1.setCell ⟨B, 0, none⟩ v') B t v' ∧ (w1.setCell ⟨B, 0, none⟩ v').ownsRow n₀ e size v' m ys ∧ KeepsOthers W (w1.setCell ⟨B, 0, none⟩ v') ∧ Below B W (w1.setCell ⟨B, 0, none⟩ v') := by
  obtain ⟨a1, a2, a3, a4, a5⟩ := hv.appended hte (ownsRow_low hB hrow) (Nat.le_trans hB hn₀) (Nat.le_refl _) (ownsRow_low hB hown') hgrow
  exact ⟨a1, a2, hown'.kept (grownBy_setCell' w1 B v') (.inr (a1.not_row hte hown').symm), a4, a5⟩
def vals (l : List Nat) : List Value := l.map fun (x : Nat) => Value.int .i64 (x : Int)
def ints (l : List Nat) : List Int := l.map Int.ofNat
theorem vals_snoc (l : List Nat) (x : Nat) : vals (l ++ [x]) = vals l ++ [Value.int .i64 (x : Int)] := by simp [vals]
theorem vals_ints (l : List Nat) : vals l = (ints l).map (Value.int .i64) := by simp [vals, ints]
theorem ints_length (l : List Nat) : (ints l).length = l.length := by simp [ints]
theorem mem_ints {l : List Nat} {j : Nat} : (j : Int) ∈ ints l ↔ j ∈ l := by
  unfold ints
  rw [List.mem_map]
  constructor
  · rintro ⟨a, h, e⟩
    have : a = j := Int.ofNat.inj e
    exact this ▸ h
  · intro h; exact ⟨j, h, rfl⟩
theorem own_cell {w : World} {base : Nat} {e : TypeId} {g n cap : Nat} {ts : List Int} {p : Nat} {x : Int} (h : w.ownsRow base e 1 (.slice (some ⟨g, 0, none⟩) n cap) n (ts.map (Value.int .i64))) (hp : ts[p]? = some x) : w.cell? ⟨g, p, none⟩ = some (.int .i64 x) := by
  have := h.cells (g := g) rfl p (.int .i64 x) (by rw [List.getElem?_map, hp]; rfl)
  by_cases h0 : p = 0
  · rw [h0] at this ⊢; simpa [Addr.add] using this
  · simpa [Addr.add, h0] using this
theorem RowI.cellsAt {w : World} {x : Addr} {zs : List Int} (h : RowI w (some x) zs) : ∀ j u, (zs.map (Value.int .i64))[j]? = some u → w.cell? (x.add j) = some u := by
  intro j u hu
  obtain ⟨h1, rfl | ⟨b, off, hx, hb, hc⟩⟩ := h
  · simp at hu
  · simp only [Option.some.injEq] at hx
    subst hx
    rw [List.getElem?_map] at hu
    cases hz : zs[j]? with
    | none => simp [hz] at hu
    | some z =>
      simp [hz] at hu
      subst hu
      have hj : j < zs.length := (List.getElem?_eq_some_iff.1 hz).1
      have := hc j hj
      rw [hz] at this
      by_cases h0 : j = 0
      · subst h0; simpa [Addr.add] using this
      · simpa [Addr.add, h0] using this
theorem RowI.none_nil {w : World} {zs : List Int} (h : RowI w none zs) : zs = [] := by
  obtain ⟨h1, h | ⟨b, off, hx, hb, hc⟩⟩ := h
  · exact h
  · cases hx
theorem RowI.src {w : World} {a : Option Addr} {zs : List Int} (h : RowI w a zs) (cap : Nat) : Src Tryd.prog 1 24 (.slice a zs.length cap) zs.length (zs.map (Value.int .i64)) w := by
  cases a with
  | none => obtain rfl := h.none_nil; exact Src.ofNil w Tryd.underlying24 cap
  | some x =>
    refine Src.ofSlice w Tryd.underlying24 x zs.length cap _ (by simp) h.cellsAt (fun u hu => ?_)
    obtain ⟨z, _, rfl⟩ := List.mem_map.1 hu
    rfl
theorem own_rowI {w : World} {base : Nat} {v : Value} {zs : List Int} (h : w.ownsRow base 3 1 v zs.length (zs.map (Value.int .i64))) (hm : zs.length ≤ maxLen) :
    ∃ a cap, v = .slice a zs.length cap ∧ RowI w a zs := by
  rcases h.2 with ⟨rfl, h0⟩ | ⟨g, cap, cur, rfl, hb, hg, hn, hcm, hcs, ht⟩
  · have : zs = [] := List.eq_nil_of_length_eq_zero h0
    subst this
    exact ⟨none, 0, rfl, hm, Or.inl rfl⟩
  · refine ⟨_, cap, rfl, hm, Or.inr ⟨g, 0, rfl, (Array.getElem?_eq_some_iff.1 hg).1, fun j hj => ?_⟩⟩
    rw [Nat.zero_add, List.getElem?_eq_getElem hj]
    exact own_cell h (List.getElem?_eq_getElem hj)
theorem own_set {w : World} {base : Nat} {v : Value} {l : List Nat} (h : w.ownsRow base 3 1 v l.length (vals l)) (hl : l.length ≤ 100000) :
    ∃ a cap, v = .slice a l.length cap ∧ RowI w a (ints l) := by
  rw [vals_ints, ← ints_length l] at h
  have := own_rowI h (by rw [ints_length]; unfold maxLen; omega)
  rwa [ints_length] at this
end Go.Proofs.YtnndlgdlligjbabDoor.Ld
