/- a pool in memory -/
import Derived.Test.YtbfcbjjhdadicaaDoorP2
import Derived.Deep.OwnRows
namespace Go.Proofs.YtbfcbjjhdadicaaDoor
open Go.RowKit
open Sha Tal
structure Pl where
  p : Nat
  o : Nat
  m : Nat
  vs : List Value
def Pl.own (P : Pl) (b : Nat) : Prop := b = P.p ∨ b = P.o ∨ b = P.m ∨ ∃ v ∈ P.vs, v.ownBlock = some b
def Pl.set (P : Pl) (i : Nat) (v : Value) : Pl := ⟨P.p, P.o, P.m, P.vs.set i v⟩
def bkt (k : Nat) (r : Rq) : Nat := (bucketV r.c r.n (k : Int)).toNat
structure RowsAt (w : World) (P : Pl) (room : Nat) (ls : List (List Rq)) : Prop where
  c0 : w.cell? ⟨P.p, 0, none⟩ = some (.int .i64 (room : Int))
  c1 : w.cell? ⟨P.p, 1, none⟩ = some (.slice (some ⟨P.o, 0, none⟩) ls.length ls.length)
  c2 : w.cell? ⟨P.p, 2, none⟩ = some (.map (some P.m))
  oc : w.rangeAt P.o 0 P.vs
  ot : w.there P.o 0 ls.length
  vl : P.vs.length = ls.length
  rows : ∀ (i : Nat) (v : Value) (l : List Rq), P.vs[i]? = some v → ls[i]? = some l → w.ownsRow 0 35 19 v l.length (flatR l)
  rok : ∀ l ∈ ls, ∀ r ∈ l, r.ok
  few : ∀ l ∈ ls, l.length ≤ room
  room : room ≤ 16
  pos : 0 < ls.length
  le : ls.length ≤ 64
  bk : ∀ (i : Nat) (l : List Rq), ls[i]? = some l → ∀ r ∈ l, bkt ls.length r = i ∧ 0 ≤ r.c ∧ 0 ≤ r.n
  po : P.p ≠ P.o
  pm : P.p ≠ P.m
  om : P.o ≠ P.m
  vp : ∀ v ∈ P.vs, ∀ g, v.ownBlock = some g → g ≠ P.p ∧ g ≠ P.o ∧ g ≠ P.m
  ap : ∀ (i j : Nat) (v v' : Value) (g : Nat), P.vs[i]? = some v → P.vs[j]? = some v' → v.ownBlock = some g → v'.ownBlock = some g → i = j
  ml : P.m < w.heap.size
def flatP (ls : List (List Rq)) : List (Int × Int) := ls.flatten.map pk
structure PoolAt (w : World) (P : Pl) (room : Nat) (ls : List (List Rq)) : Prop where
  R : RowsAt w P room ls
  prs : PairsAt w P.m (flatP ls)
  nd : (flatP ls).Nodup
theorem cell_lt {w : World} {b o : Nat} {v : Value} (h : w.cell? ⟨b, o, none⟩ = some v) : b < w.heap.size := World.block_lt_of_cell? w _ h
theorem cell_at {w w' : World} {b o : Nat} {v : Value} (h : w.cell? ⟨b, o, none⟩ = some v) (hb : w'.heap[b]? = w.heap[b]?) : w'.cell? ⟨b, o, none⟩ = some v := by
  rw [← h]
  simp [World.cell?, hb]
theorem there_at {w w' : World} {b o n : Nat} (h : w.there b o n) (hb : w'.heap[b]? = w.heap[b]?) : w'.there b o n := fun j hj => by
  have := h j hj
  simpa [World.cell?, World.frozen?, hb] using this
theorem mem_get {α : Type} {l : List α} {v : α} (h : v ∈ l) : ∃ i : Nat, l[i]? = some v := by
  obtain ⟨i, hi, rfl⟩ := List.mem_iff_getElem.1 h
  exact ⟨i, List.getElem?_eq_getElem hi⟩
theorem RowsAt.both {w : World} {P : Pl} {room : Nat} {ls : List (List Rq)} (h : RowsAt w P room ls) {i : Nat} {v : Value} (hv : P.vs[i]? = some v) : ∃ l, ls[i]? = some l := by
  have hi := (List.getElem?_eq_some_iff.1 hv).1
  rw [h.vl] at hi
  exact ⟨ls[i], List.getElem?_eq_getElem hi⟩
theorem RowsAt.own_lt {w : World} {P : Pl} {room : Nat} {ls : List (List Rq)} (h : RowsAt w P room ls) {b : Nat} (hb : P.own b) : b < w.heap.size := by
  rcases hb with rfl | rfl | rfl | ⟨v, hv, hg⟩
  · exact cell_lt h.c0
  · have h0 : 0 < P.vs.length := by rw [h.vl]; exact h.pos
    have := h.oc 0 _ (List.getElem?_eq_getElem h0)
    exact cell_lt this
  · exact h.ml
  · obtain ⟨i, hi⟩ := mem_get hv
    obtain ⟨l, hl⟩ := h.both hi
    exact owns_lt (h.rows i v l hi hl) hg
theorem RowsAt.at {w w' : World} {P : Pl} {room : Nat} {ls : List (List Rq)} (h : RowsAt w P room ls) (hb : ∀ b, P.own b → w'.heap[b]? = w.heap[b]?) (hs : w.heap.size ≤ w'.heap.size) : RowsAt w' P room ls :=
  { h with
    c0 := cell_at h.c0 (hb _ (.inl rfl))
    c1 := cell_at h.c1 (hb _ (.inl rfl))
    c2 := cell_at h.c2 (hb _ (.inl rfl))
    oc := range_at h.oc (hb _ (.inr (.inl rfl)))
    ot := there_at h.ot (hb _ (.inr (.inl rfl)))
    rows := fun i v l hv hl => owns_at (h.rows i v l hv hl) (fun g hg => hb g (.inr (.inr (.inr ⟨v, List.mem_of_getElem? hv, hg⟩))))
    ml := Nat.lt_of_lt_of_le h.ml hs }
theorem PoolAt.at {w w' : World} {P : Pl} {room : Nat} {ls : List (List Rq)} (h : PoolAt w P room ls) (hb : ∀ b, P.own b → w'.heap[b]? = w.heap[b]?) (hs : w.heap.size ≤ w'.heap.size) : PoolAt w' P room ls :=
  ⟨h.R.at hb hs, h.prs.at (hb _ (.inr (.inr (.inl rfl)))), h.nd⟩
theorem PoolAt.below {w w' : World} {P : Pl} {room : Nat} {ls : List (List Rq)} (h : PoolAt w P room ls) (hb : Below w.heap.size w w') : PoolAt w' P room ls :=
  h.at (fun b hb' => hb.block b (h.R.own_lt hb')) hb.size
theorem RowsAt.below {w w' : World} {P : Pl} {room : Nat} {ls : List (List Rq)} (h : RowsAt w P room ls) (hb : Below w.heap.size w w') : RowsAt w' P room ls :=
  h.at (fun b hb' => hb.block b (h.own_lt hb')) hb.size
/-- another row for one bucket -/
theorem RowsAt.put {w w' : World} {P : Pl} {room : Nat} {ls : List (List Rq)} (h : RowsAt w P room ls) {i : Nat} {v v' : Value} {l' : List Rq} (hv : P.vs[i]? = some v)
    (hb : ∀ b, P.own b → b ≠ P.o → b ≠ P.m → v.ownBlock ≠ some b → w'.heap[b]? = w.heap[b]?) (hm : P.m < w'.heap.size) (ho : w'.rangeAt P.o 0 (P.vs.set i v')) (hot : w'.there P.o 0 ls.length) (hr : w'.ownsRow 0 35 19 v' l'.length (flatR l'))
    (hap : ∀ g, v'.ownBlock = some g → v.ownBlock = some g ∨ w.heap.size ≤ g) (hok : ∀ r ∈ l', r.ok) (hf : l'.length ≤ room) (hk : ∀ r ∈ l', bkt ls.length r = i ∧ 0 ≤ r.c ∧ 0 ≤ r.n) : RowsAt w' (P.set i v') room (ls.set i l') := by
  have hi : i < P.vs.length := (List.getElem?_eq_some_iff.1 hv).1
  have hvm : v ∈ P.vs := List.mem_of_getElem? hv
  have hvp := h.vp v hvm
  have hp : w'.heap[P.p]? = w.heap[P.p]? := hb P.p (.inl rfl) h.po h.pm (fun e => (hvp _ e).1 rfl)
  have old : ∀ b, P.own b → b < w.heap.size := fun b hb' => h.own_lt hb'
  have mem' : ∀ x, x ∈ P.vs.set i v' → x = v' ∨ x ∈ P.vs := fun x hx => (List.mem_or_eq_of_mem_set hx).symm
  have nv : ∀ g, v'.ownBlock = some g → g ≠ P.p ∧ g ≠ P.o ∧ g ≠ P.m := fun g hg => by
    rcases hap g hg with h1 | h1
    · exact hvp g h1
    · have l1 := old P.p (.inl rfl)
      have l2 := old P.o (.inr (.inl rfl))
      have l3 := old P.m (.inr (.inr (.inl rfl)))
      exact ⟨by omega, by omega, by omega⟩
  exact
    { c0 := cell_at h.c0 hp
      c1 := by rw [List.length_set]; exact cell_at h.c1 hp
      c2 := cell_at h.c2 hp
      oc := ho
      ot := by rw [List.length_set]; exact hot
      vl := by simp [Pl.set, h.vl]
      rows := fun j x l hx hl => by
        simp only [Pl.set, List.getElem?_set] at hx hl
        by_cases hij : i = j
        · subst hij
          rw [if_pos rfl, if_pos hi] at hx
          rw [if_pos rfl, if_pos (by rw [← h.vl]; exact hi)] at hl
          obtain rfl := Option.some.inj hx
          obtain rfl := Option.some.inj hl
          exact hr
        · rw [if_neg hij] at hx hl
          refine owns_at (h.rows j x l hx hl) (fun g hg => ?_)
          have hxm := List.mem_of_getElem? hx
          have hxp := h.vp x hxm g hg
          exact hb g (.inr (.inr (.inr ⟨x, hxm, hg⟩))) hxp.2.1 hxp.2.2 (fun e => hij (h.ap i j v x g hv hx e hg))
      rok := fun l hl => by
        rcases List.mem_or_eq_of_mem_set hl with h1 | rfl
        · exact h.rok l h1
        · exact hok
      few := fun l hl => by
        rcases List.mem_or_eq_of_mem_set hl with h1 | rfl
        · exact h.few l h1
        · exact hf
      room := h.room
      pos := by rw [List.length_set]; exact h.pos
      le := by rw [List.length_set]; exact h.le
      bk := fun j l hl => by
        rw [List.length_set]
        rw [List.getElem?_set] at hl
        by_cases hij : i = j
        · subst hij
          rw [if_pos rfl, if_pos (by rw [← h.vl]; exact hi)] at hl
          obtain rfl := Option.some.inj hl
          exact hk
        · rw [if_neg hij] at hl
          exact h.bk j l hl
      po := h.po
      pm := h.pm
      om := h.om
      vp := fun x hx g hg => by
        rcases mem' x hx with rfl | h1
        · exact nv g hg
        · exact h.vp x h1 g hg
      ap := fun a b x y g hx hy hg1 hg2 => by
        simp only [Pl.set, List.getElem?_set] at hx hy
        have lt : ∀ (z : Value) (j : Nat), P.vs[j]? = some z → z.ownBlock = some g → g < w.heap.size := fun z j hz hzg => old g (.inr (.inr (.inr ⟨z, List.mem_of_getElem? hz, hzg⟩)))
        by_cases h1 : i = a
        · by_cases h2 : i = b
          · omega
          · subst h1
            rw [if_pos rfl, if_pos hi] at hx
            rw [if_neg h2] at hy
            obtain rfl := Option.some.inj hx
            rcases hap g hg1 with h3 | h3
            · exact absurd (h.ap i b v y g hv hy h3 hg2) h2
            · have := lt y b hy hg2; omega
        · by_cases h2 : i = b
          · subst h2
            rw [if_pos rfl, if_pos hi] at hy
            rw [if_neg h1] at hx
            obtain rfl := Option.some.inj hy
            rcases hap g hg2 with h3 | h3
            · exact absurd (h.ap i a v x g hv hx h3 hg1) h1
            · have := lt x a hx hg1; omega
          · rw [if_neg h1] at hx
            rw [if_neg h2] at hy
            exact h.ap a b x y g hx hy hg1 hg2
      ml := hm }
theorem own_put {P : Pl} {i : Nat} {v v' : Value} {n : Nat} (hv : P.vs[i]? = some v) (hap : ∀ g, v'.ownBlock = some g → v.ownBlock = some g ∨ n ≤ g) : ∀ b, (P.set i v').own b → P.own b ∨ n ≤ b := by
  rintro b (h | h | h | ⟨x, hx, hg⟩)
  · exact .inl (.inl h)
  · exact .inl (.inr (.inl h))
  · exact .inl (.inr (.inr (.inl h)))
  · rcases List.mem_or_eq_of_mem_set hx with h1 | rfl
    · exact .inl (.inr (.inr (.inr ⟨x, h1, hg⟩)))
    · rcases hap b hg with h2 | h2
      · exact .inl (.inr (.inr (.inr ⟨v, List.mem_of_getElem? hv, h2⟩)))
      · exact .inr h2
theorem flat_len {ls : List (List Rq)} {room : Nat} (h : ∀ l ∈ ls, l.length ≤ room) : (flatP ls).length ≤ ls.length * room := by
  unfold flatP
  rw [List.length_map]
  induction ls with
  | nil => simp
  | cons l ls ih =>
    have h1 := h l (by simp)
    have h2 := ih (fun x hx => h x (by simp [hx]))
    simp only [List.flatten_cons, List.length_append, List.length_cons, Nat.add_mul, Nat.one_mul]
    omega
theorem PoolAt.small {w : World} {P : Pl} {room : Nat} {ls : List (List Rq)} (h : PoolAt w P room ls) : (flatP ls).length ≤ 1024 := by
  have h1 := flat_len h.R.few
  have h2 := h.R.room
  have h3 := h.R.le
  have : ls.length * room ≤ 64 * 16 := Nat.mul_le_mul h3 h2
  omega
theorem run_store1 {P : Program} (w : World) (b o : Nat) (ty : TypeId) (v : Value) (ht : w.there b o 1) (hi : (P.info? ty).map (·.size) = some 1) (h1 : v.oneCell' = true) :
    (storeVar ty ⟨b, o, none⟩ v).run P w = .ok () (w.setCell ⟨b, o, none⟩ v) := by
  have hc : v.cells = #[v] := by cases v <;> first | rfl | simp [Value.oneCell'] at h1
  have := run_storeCells_cells (P := P) b o [v] 0 w (fun j hj => by simpa using (ht j (by simpa using hj)).1) (fun j hj => by simpa using (ht j (by simpa using hj)).2)
    (fun x hx => by simp at hx; subst hx; exact h1)
  cases hq : P.info? ty with
  | none => simp [hq] at hi
  | some i =>
    have hs : i.size = 1 := by simp [hq] at hi; omega
    simp only [Nat.add_zero] at this
    simp [storeVar, sizeOf, typeInfo, hq, hc, hs, this, World.setCells]
def ptr (P : Pl) : Value := .pointer (some ⟨P.p, 0, none⟩)
set_option maxRecDepth 100000 in
set_option maxHeartbeats 2000000 in
theorem made_any (P : Pl) (room : Nat) (ls : List (List Rq)) (w : World) (h : RowsAt w P room ls) :
    Calls Tryd.prog 29 #[ptr P] w fun e w' => e = .returned (.bool true) ∧ w' = w := by
  have h1 := h.c1
  have hp : (0 : Int) < (ls.length : Int) := by have := h.pos; omega
  have hp' : 0 < ls.length := h.pos
  clear h
  unfold ptr
  go_enter Tryd.func29, Tryd.ntmps29
  go_wp2_with fail
  go_ret
  exact ⟨rfl, rfl⟩
set_option maxRecDepth 100000 in
set_option maxHeartbeats 2000000 in
theorem len_any (P : Pl) (room : Nat) (ls : List (List Rq)) (w : World) (h : PoolAt w P room ls) :
    Calls Tryd.prog 13 #[ptr P] w fun e w' => e = .returned (.int .i64 ((flatP ls).length : Int)) ∧ w' = w := by
  have cm := made_any P room ls w h.R
  have h2 := h.R.c2
  obtain ⟨D, hown, hsz, -⟩ := h.prs
  rw [← hsz]
  clear hsz h
  unfold ptr at cm ⊢
  go_enter Tryd.func13, Tryd.ntmps13
  go_wp2_with fail
  refine cm.mono ?_
  rintro e w' ⟨rfl, hw⟩
  obtain rfl := hw.symm
  clear cm
  go_wp2_with (first
    | (at_len; refine wpList_len_own _ rfl _ 59 rfl 75 90 Tryd.underlying59 _ P.m _ D rfl hown ?_))
  go_ret
  exact ⟨rfl, rfl⟩
set_option maxRecDepth 100000 in
set_option maxHeartbeats 2000000 in
theorem phas_any (P : Pl) (room : Nat) (ls : List (List Rq)) (c n : Int) (hc : I64 c) (hn : I64 n) (w : World) (h : PoolAt w P room ls) :
    Calls Tryd.prog 14 #[ptr P, .int .i64 c, .int .i64 n] w fun e w' => e = .returned (.bool (decide ((c, n) ∈ flatP ls))) ∧ Below w.heap.size w w' := by
  have cm := made_any P room ls w h.R
  have h2 := h.R.c2
  have ch := has_any P.m (flatP ls) c n hc hn w h.prs
  obtain ⟨B, hB⟩ : ∃ B, Hid (decide ((c, n) ∈ flatP ls) = B) := ⟨_, hide rfl⟩
  rw [hB.out] at ch ⊢
  clear h hB hc hn
  unfold ptr at cm ⊢
  go_enter Tryd.func14, Tryd.ntmps14
  go_wp2_with fail
  refine cm.mono ?_
  rintro e w' ⟨rfl, hw⟩
  obtain rfl := hw.symm
  clear cm
  go_wp2_with fail
  refine ch.mono ?_
  rintro e w1 ⟨rfl, hb⟩
  clear ch
  go_wp2_with fail
  go_ret
  exact ⟨rfl, hb⟩
end Go.Proofs.YtbfcbjjhdadicaaDoor
