/- a net: Look; rows that lose one; a net: Take; a net: Send and Take, whatever is asked; slices of acts among the arguments; acts that are not too many; NetOnce -/
import Derived.Test.YtilbjeeabecfjaaGreatJK0
import Derived.Test.YtilbjeeabecfjaaGreatJK9
import Derived.Test.YtilbjeeabecfjaaGreatJK2
import Derived.Deep.Slices
import Derived.Lib.LaidTab
import Derived.Deep.DeepCutAuto
import Derived.Deep.CutBlock
namespace Go.Proofs.YtilbjeeabecfjaaGreat
open Go.RowKit
open Sha Tal
set_option linter.unusedVariables false
set_option linter.unusedSimpArgs false
def offT (off cap : Nat) : Nat := if cap = 1 then off else off + 19
theorem slice_lo (g off n cap : Nat) (h1 : 1 ≤ n) (h2 : n ≤ cap) (w : World) : (Instr.sliceAt 67 (.slice (some ⟨g, off, none⟩) n cap) (some (.int .i64 1)) none none).run Tryz.prog w = .ok (.slice (some ⟨g, offT off cap, none⟩) (n - 1) (cap - 1)) w := by
 have h3 : (1 : Int) ≤ n := by omega
 have h4 : (n : Int) ≤ cap := by omega
 by_cases hc : cap = 1
 ·subst hc
  simp [go_sem, offT]
  intro h; omega
 ·simp [go_sem, offT, hc, Addr.add_lit]
  intro h; omega
theorem slice_hi (g off n cap j : Nat) (h2 : j ≤ cap) (w : World) : (Instr.sliceAt 67 (.slice (some ⟨g, off, none⟩) n cap) none (some (.int .i64 (j : Int))) none).run Tryz.prog w = .ok (.slice (some ⟨g, off, none⟩) j cap) w := by
 have h4 : (j : Int) ≤ cap := by omega
 by_cases hc : cap = 0
 ·subst hc
  simp [go_sem]
  intro h; omega
 ·simp [go_sem, hc]
  intro h; omega
theorem ex_sliceL {P : Program} {o : Oper} {a : Act} {w : World} {t : TypeId} {x y : Operand} {u v r : Value} (ho : o.op = .slice t x (some y) none none) (hx : a.eval x = u) (hy : a.eval y = v) (hr : (Instr.sliceAt t u (some v) none none).run P w = .ok r w) : (execOp a.eval o).run P w = .ok (.value r) w := by
 unfold execOp
 simp [ho, hx, hy, hr]
theorem ex_sliceH {P : Program} {o : Oper} {a : Act} {w : World} {t : TypeId} {x y : Operand} {u v r : Value} (ho : o.op = .slice t x none (some y) none) (hx : a.eval x = u) (hy : a.eval y = v) (hr : (Instr.sliceAt t u none (some v) none).run P w = .ok r w) : (execOp a.eval o).run P w = .ok (.value r) w := by
 unfold execOp
 simp [ho, hx, hy, hr]
theorem exec_copy1 {P : Program} {o : Oper} {a : Act} {w w' : World} {s x : Operand} {t tx : TypeId} {v xv v' : Value} (ho : o.op = .call { callee := .builtin .copy, args := #[s, x], argTypes := #[t, tx] }) (hv : a.eval s = v) (hx : a.eval x = xv)
    (hr : (Builtin.copy_ #[t, tx] o.type #[v, xv]).run P w = .ok v' w') : (execOp a.eval o).run P w = .ok (.value v') w' := by
  unfold execOp
  simp [ho, resolve, invoke, builtin, hv, hx, hr]
theorem exec_del1 {P : Program} {o : Oper} {a : Act} {w w' : World} {s x : Operand} {t tx : TypeId} {v xv v' : Value} (ho : o.op = .call { callee := .builtin .delete, args := #[s, x], argTypes := #[t, tx] }) (hv : a.eval s = v) (hx : a.eval x = xv)
    (hr : (Builtin.delete_ #[t, tx] o.type #[v, xv]).run P w = .ok v' w') : (execOp a.eval o).run P w = .ok (.value v') w' := by
  unfold execOp
  simp [ho, resolve, invoke, builtin, hv, hx, hr]
theorem run_copy_wide {P : Program} (w : World) (dT sT ty elem : TypeId) (b o dLen dCap : Nat) (a : Addr) (sLen sCap k m : Nat) (cs : List Value)
    (hu : P.underlying dT = some (.slice elem)) (hs : (P.info? elem).map (·.size) = some k) (hm : Nat.min sLen dLen = m) (hn : cs.length = m * k)
    (hsrc : ∀ j v, cs[j]? = some v → w.cell? (a.add j) = some v) (ht : w.there b o cs.length) (h1 : ∀ v ∈ cs, v.oneCell' = true) :
    (Builtin.copy_ #[dT, sT] ty #[.slice (some ⟨b, o, none⟩) dLen dCap, .slice (some a) sLen sCap]).run P w = .ok (goInt m) (w.setCells b o cs) := by
  have hl := run_loadCells_list (P := P) w a cs hsrc
  have hst := run_storeCells_cells (P := P) b o cs 0 w (by simpa using fun j hj => (ht j hj).1) (by simpa using fun j hj => (ht j hj).2) h1
  cases hq : P.info? elem with
  | none => simp [hq] at hs
  | some i =>
    have hi : i.size = k := by simpa [hq] using hs
    rw [hn] at hl
    simp [Builtin.copy_, run_underlying hu, Builtin.lenOf, Builtin.firstCells, sizeOf, typeInfo, hq, hi, hm, hl, hst]
theorem RowQ.parts {w : World} {B : Nat} {e : TypeId} {k : Nat} {v : Value} {n : Nat} {xs : List Value} (h : RowQ w B e k v n xs) (hn : 0 < n) : ∃ g off cap, v = .slice (some ⟨g, off, none⟩) n cap ∧ B ≤ g ∧ g < w.heap.size ∧ n ≤ cap ∧ cap ≤ maxLen ∧ w.rangeAt g off xs ∧ w.there g off (cap * k) := by
 rcases h.2 with ⟨_, h0⟩ | h
 ·omega
 ·exact h
theorem pk_elem {w : World} {g off : Nat} {ys : List Pk} (hg : g < w.heap.size) (h : w.rangeAt g off (ys.flatMap Pk.cells)) (hok : ∀ y ∈ ys, y.ok) (j : Nat) (hj : j < ys.length) : w.rangeAt g (off + j * 19) (ys[j]).cells := by
 obtain ⟨b, o, he, _, hr⟩ := RowOf.elem (f := Pk.cells) (k := 19) (a := some ⟨g, off, none⟩) (ys := ys) (.inr ⟨g, off, rfl, hg, h⟩) (fun y hy => Pk.len (hok y hy)) j hj
 simp only [Option.some.injEq, Addr.mk.injEq] at he
 obtain ⟨rfl, rfl, _⟩ := he
 exact hr
theorem flat_pk {ys : List Pk} (hok : ∀ y ∈ ys, y.ok) : (ys.flatMap Pk.cells).length = ys.length * 19 := by
  induction ys with
  | nil => rfl
  | cons y ys ih =>
    rw [List.flatMap_cons, List.length_append, Pk.len (hok y (by simp)), ih (fun z hz => hok z (by simp [hz])), List.length_cons]
    omega
theorem row_take {w : World} {B g off cap : Nat} {ys : List Pk} {zl : List Value} (hB : B ≤ g) (hg : g < w.heap.size) (hok : ∀ y ∈ ys, y.ok) (j : Nat) (hj : j < ys.length) (hc : ys.length ≤ cap) (hm : cap ≤ maxLen) (hr : w.rangeAt g off (ys.flatMap Pk.cells)) (ht : w.there g off (cap * 19)) (hz : zl.length = 19) :
  RowQ ((w.setCells g (offT off cap) ((ys.take j).flatMap Pk.cells)).setCells g off zl) B 44 19 (.slice (some ⟨g, offT off cap, none⟩) (ys.length - 1) (cap - 1)) (ys.eraseIdx j).length ((ys.eraseIdx j).flatMap Pk.cells) := by
 have hel : (ys.eraseIdx j).length = ys.length - 1 := by rw [List.length_eraseIdx]; simp [hj]
 have hoke : ∀ y ∈ ys.eraseIdx j, y.ok := fun y hy => hok y (List.mem_of_mem_eraseIdx hy)
 have ht1 : w.there g (offT off cap) ((cap - 1) * 19) := fun i hi => by
  unfold offT
  split
  ·rename_i h1
   subst h1
   simp at hi
  ·have := ht (19 + i) (by omega)
   rw [← Nat.add_assoc] at this
   exact this
 have hfl := flat_pk (ys := ys.take j) (fun y hy => hok y (List.mem_of_mem_take hy))
 rw [List.length_take, Nat.min_eq_left (Nat.le_of_lt hj)] at hfl
 refine ⟨by rw [flat_pk hoke], .inr ⟨g, offT off cap, cap - 1, by rw [hel], hB, by rw [size_sets, size_sets]; exact hg, by rw [hel]; omega, by omega, ?_, World.there_setCells (World.there_setCells ht1 _ _ _) _ _ _⟩⟩
 by_cases h1 : cap = 1
 ·have hnil : ys.eraseIdx j = [] := List.eq_nil_of_length_eq_zero (by rw [hel]; omega)
  rw [hnil]
  intro i v hv
  simp at hv
 ·have ho : offT off cap = off + 19 := by unfold offT; rw [if_neg h1]
  rw [ho]
  have hth : w.there g (off + 19) ((ys.take j).flatMap Pk.cells).length := fun i hi => by
   rw [hfl] at hi
   have := ht (19 + i) (by omega)
   rw [← Nat.add_assoc] at this
   exact this
  have r1 : (w.setCells g (off + 19) ((ys.take j).flatMap Pk.cells)).rangeAt g (off + 19) ((ys.take j).flatMap Pk.cells) := World.rangeAt_setCells_same w g (off + 19) _ hth
  have hsplit : ys.flatMap Pk.cells = (ys.take (j + 1)).flatMap Pk.cells ++ (ys.drop (j + 1)).flatMap Pk.cells := by
   rw [← List.flatMap_append, List.take_append_drop]
  have hf1 := flat_pk (ys := ys.take (j + 1)) (fun y hy => hok y (List.mem_of_mem_take hy))
  rw [List.length_take, Nat.min_eq_left (show j + 1 ≤ ys.length from hj)] at hf1
  have r2 : w.rangeAt g (off + (j + 1) * 19) ((ys.drop (j + 1)).flatMap Pk.cells) := fun i v hv => by
   have h3 := hr ((j + 1) * 19 + i) v (by rw [hsplit, List.getElem?_append_right (by rw [hf1]; omega), hf1]; simpa using hv)
   rw [← Nat.add_assoc] at h3
   exact h3
  have r3 : (w.setCells g (off + 19) ((ys.take j).flatMap Pk.cells)).rangeAt g (off + (j + 1) * 19) ((ys.drop (j + 1)).flatMap Pk.cells) := World.rangeAt_setCells_apart r2 g (off + 19) _ (.inr (.inr (by rw [hfl]; omega)))
  have r1 := World.rangeAt_setCells_apart r1 g off zl (.inr (.inr (by rw [hz]; exact Nat.le_refl _)))
  have r3 := World.rangeAt_setCells_apart r3 g off zl (.inr (.inr (by rw [hz]; omega)))
  rw [List.eraseIdx_eq_take_drop_succ, List.flatMap_append]
  intro i v hv
  by_cases hi : i < ((ys.take j).flatMap Pk.cells).length
  ·rw [List.getElem?_append_left hi] at hv
   exact r1 i v hv
  ·rw [List.getElem?_append_right (by omega)] at hv
   have h3 := r3 _ v hv
   rw [hfl] at h3 hi
   rw [show off + (j + 1) * 19 + (i - j * 19) = off + 19 + i by omega] at h3
   exact h3
theorem NetAt.setWay {w w1 : World} {B K : Nat} {P : Nd} {s : Nt} {l : Int} (h : NetAt w B K P s l) (ys : List Pk) (hys : ∀ y ∈ ys, y.ok) {v' : Value} (ho : RowQ w1 B 44 19 v' ys.length (ys.flatMap Pk.cells)) (hg : w.grownBy w1 P.v1.ownBlock) (hap : ∀ g, v'.ownBlock = some g → P.v1.ownBlock = some g ∨ w.heap.size ≤ g) :
  NetAt (w1.setCell ⟨P.p, 1, none⟩ v') B K ⟨P.p, v', P.v6, P.m2, P.m3, P.m7⟩ ⟨s.nodes, ys, s.on, s.kn, s.past, s.th, s.sent, s.taken⟩ l := by
 have hk : ∀ b, b < w.heap.size → P.v1.ownBlock ≠ some b → w1.heap[b]? = w.heap[b]? := fun b h1 h2 => hg.block b h1 (fun e => h2 e.symm)
 obtain ⟨c, t, o1, o6, g2, g3, g7, lt, bp, b2, b3, b7, n2, n3, n7, n23, n27, n37, r1, r6, kw, ko, kk, kp, kt⟩ := h
 have hp := hk P.p lt (fun e => (r1 _ e).1 rfl)
 have hb : ∀ b, b ≠ P.p → (w1.setCell ⟨P.p, 1, none⟩ v').heap[b]? = w1.heap[b]? := fun b hb => Below.heap_setCell w1 ⟨P.p, 1, none⟩ v' b hb
 have hc := range_set (range_at c hp) 1 v'
 rw [Nat.zero_add] at hc
 have ne' : ∀ g, v'.ownBlock = some g → g ≠ P.p ∧ g ≠ P.m2 ∧ g ≠ P.m3 ∧ g ≠ P.m7 ∧ P.v6.ownBlock ≠ some g := fun g hv => by
  rcases hap g hv with h1 | h1
  ·exact r1 g h1
  ·exact ⟨by omega, by have := g2.lt; omega, by have := g3.lt; omega, by have := g7.lt; omega, fun e => by have := owns_lt o6 e; omega⟩
 have h2 : P.v1.ownBlock ≠ some P.m2 := fun e => (r1 _ e).2.1 rfl
 have h3 : P.v1.ownBlock ≠ some P.m3 := fun e => (r1 _ e).2.2.1 rfl
 have h7 : P.v1.ownBlock ≠ some P.m7 := fun e => (r1 _ e).2.2.2.1 rfl
 refine ⟨hc, there_set (cells_blk t hp) ⟨P.p, 1, none⟩ v', ?_, owns_at (owns_at o6 fun g hv => hk g (owns_lt o6 hv) (r6 g hv).2.2.2.2) (fun g hv => hb g (r6 g hv).1), (g2.at (hk _ g2.lt h2)).at (hb _ n2), (g3.at (hk _ g3.lt h3)).at (hb _ n3), (g7.at (hk _ g7.lt h7)).at (hb _ n7), ?_, bp, b2, b3, b7, n2, n3, n7, n23, n27, n37, ne', fun g hv => ⟨(r6 g hv).1, (r6 g hv).2.1, (r6 g hv).2.2.1, (r6 g hv).2.2.2.1, fun e => (ne' g e).2.2.2.2 hv⟩, ?_, ko, kk, kp, kt⟩
 ·show RowQ _ B 44 19 v' ys.length (ys.flatMap Pk.cells)
  exact ho.at fun g hv => hb g (ne' g hv).1
 ·have := hg.size
  show P.p < _
  simp
  omega
 ·exact hys
theorem SetAt.drop {t mt e : TypeId} {u : Value} {w : World} {b n : Nat} {p : Lit → Prop} (h : SetAt t u w b n p) (K : Maps.Keyed Tryz.prog t) (hm : Tryz.prog.underlying mt = some (.map t e)) {key : Value} {kl : Lit} (hkey : Go.keyOf Tryz.prog t key = some kl) (ty : TypeId) :
  ∃ w', (Builtin.delete_ #[mt, t] ty #[.map (some b), key]).run Tryz.prog w = .ok (.tuple #[]) w' ∧ SetAt t u w' b n (fun k => k ≠ kl ∧ p k) ∧ w.grownBy w' (some b) := by
 obtain ⟨D, hown, hhas, hat⟩ := h
 obtain ⟨w', hrun, h1, h2⟩ := hown.drop K hm hkey ty
 refine ⟨w', hrun, ⟨_, h1, fun k => ?_, fun k zd hk => ?_⟩, h2.grown⟩
 ·by_cases he : k = kl
  ·subst he
   rw [Maps.has_del_same]
   simp
  ·rw [Maps.has_del_other he, hhas]
   exact ⟨fun q => ⟨he, q⟩, fun q => q.2⟩
 ·rw [Maps.atKey_del_other hk.1]
  exact hat k zd hk.2
theorem NetAt.delOn {w w1 : World} {B K : Nat} {P : Nd} {s : Nt} {l : Int} (h : NetAt w B K P s l) (x : Pk) (hx : x.ok) (L : List Pk) (hL : ∀ y, y ∈ L ↔ y ∈ s.on ∧ y ≠ x) (hm : SetAt 44 unitV w1 P.m2 K (fun k => k ≠ klP x ∧ ∃ y ∈ s.on, k = klP y)) (hg : w.grownBy w1 (some P.m2)) :
  NetAt w1 B K P ⟨s.nodes, s.way, L, s.kn, s.past, s.th, s.sent, s.taken⟩ l := by
 have hk : ∀ b, b < w.heap.size → b ≠ P.m2 → w1.heap[b]? = w.heap[b]? := fun b h1 h2 => hg.block b h1 (fun e => h2 (Option.some.inj e))
 obtain ⟨c, t, o1, o6, g2, g3, g7, lt, bp, b2, b3, b7, n2, n3, n7, n23, n27, n37, r1, r6, kw, ko, kk, kp, kt⟩ := h
 have hp := hk P.p lt n2.symm
 refine ⟨range_at c hp, cells_blk t hp, o1.at fun g hv => hk g (o1.lt hv).2 (r1 g hv).2.1, owns_at o6 fun g hv => hk g (owns_lt o6 hv) (r6 g hv).2.1, hm.same fun k => ?_, g3.at (hk _ g3.lt n23.symm), g7.at (hk _ g7.lt n27.symm), Nat.lt_of_lt_of_le lt hg.size, bp, b2, b3, b7, n2, n3, n7, n23, n27, n37, r1, r6, kw, fun y hy => ko y ((hL y).1 hy).1, kk, kp, kt⟩
 constructor
 ·rintro ⟨h1, y, hy, rfl⟩
  exact ⟨y, (hL y).2 ⟨hy, fun e => h1 (by rw [e])⟩, rfl⟩
 ·rintro ⟨y, hy, rfl⟩
  obtain ⟨h1, h2⟩ := (hL y).1 hy
  exact ⟨fun e => h2 (klP_inj (ko y h1) hx e), y, h1, rfl⟩
theorem NetAt.takenAt {w : World} {B K : Nat} {P : Nd} {s : Nt} {l : Int} (h : NetAt w B K P s l) (n : Int) : NetAt (w.setCell ⟨P.p, 9, none⟩ (.int .i64 n)) B K P ⟨s.nodes, s.way, s.on, s.kn, s.past, s.th, s.sent, n⟩ l :=
 h.cell 9 _ rfl rfl rfl rfl rfl rfl
set_option maxRecDepth 100000 in
set_option maxHeartbeats 4000000 in
theorem nlook_out (B K : Nat) (P : Nd) (s : Nt) (l : Int) (i : Int) (w : World) (h : NetAt w B K P s l) (hn : 0 < s.nodes) (hi : i < 0 ∨ (s.way.length : Int) ≤ i) : Calls Tryz.prog 17 #[.pointer (some ⟨P.p, 0, none⟩), .int .i64 i] w fun e w' => e = .returned (.tuple #[.agg infoPk0.toArray, .int .i64 260]) ∧ Below w.heap.size w w' := by
 obtain ⟨z, hzl, hz1, hzr, hzb, hze⟩ : ∃ z : List Value, z.length = 19 ∧ (∀ v ∈ z, v.oneCell' = true) ∧ (∀ w : World, (zeroValue 44).run Tryz.prog w = .ok (.agg z.toArray) w) ∧ (∀ w : World, (Instr.build 44 #[]).run Tryz.prog w = .ok (.agg z.toArray) w) ∧ Hid (infoPk0 = z) := ⟨infoPk0, pk0_len, pk0_one, zeroPk, buildPk0, hide rfl⟩
 try rw [hze.out]
 have iz : (Tryz.prog.info? 44).map (·.size) = some z.length := by rw [hzl]; exact isz_pk
 obtain ⟨hBk, rX, sX⟩ := boxed_new w z 44
 have tX := there_newN w z.toArray 44 (n := 19) (by simp [hzl])
 have h0 := h.below hBk
 have cm := nmade_any P.p s.nodes (w.alloc (.cells z.toArray 44)) h0.c0
 rw [decide_eq_true hn] at cm
 obtain ⟨a, cap, hv⟩ := h0.o1.slice
 have c1 := h0.c 1 _ rfl
 rw [hv] at c1
 obtain ⟨n, hnn⟩ : ∃ n, s.way.length = n := ⟨_, rfl⟩
 rw [hnn] at c1
 have c1 : (w.alloc (.cells z.toArray 44)).cell? ⟨P.p, 1, none⟩ = some (.slice a n cap) := c1
 rw [hnn] at hi
 clear hnn hv
 obtain ⟨W, hW⟩ : ∃ W, Hid (w.alloc (.cells z.toArray 44) = W) := ⟨_, hide rfl⟩
 rw [hW.out] at hBk tX cm c1
 clear h0 rX sX hn h hze
 go_enter Tryz.func17, Tryz.ntmps17
 go_upto_region 0 with fail
 try simp only [Act.put]
 refine pl_begin ?_
 refine pl_run (d := some 4) (v := .pointer (some ⟨w.heap.size, 0, none⟩)) (w' := w.alloc (.cells z.toArray 44)) (by rfl) (ex_alloc rfl (hzr _)) rfl ?_
 simp only [nz]
 rw [hW.out]
 refine pl_t 5 (?_) (by rfl) ?_ rfl ?_
 rotate_left
 ·go_simp
  try with_reducible rfl
 simp only [nz]
 refine pl_nil ?_
 clear hW hzr
 go_upto_region 1 with fail
 try simp only [Act.put]
 refine pl_begin ?_
 refine pl_t 7 (?_) (by rfl) ?_ rfl ?_
 rotate_left
 ·go_simp
  try with_reducible rfl
 simp only [nz]
 refine pl_call (d := some 8) (by rfl) (by go_simp; first | done | exact ⟨rfl, rfl⟩ | with_reducible rfl) rfl ?_
 refine (cm).mono ?_
 rintro _ wc ⟨rfl, hwc⟩
 refine ⟨_, rfl, ?_⟩
 simp only [nz]
 obtain rfl := hwc.symm
 refine pl_t 9 (?_) (by rfl) ?_ rfl ?_
 rotate_left
 ·go_simp
  try with_reducible rfl
 simp only [nz]
 refine pl_t 6 (?_) (by rfl) ?_ rfl ?_
 rotate_left
 ·go_simp
  try with_reducible rfl
 simp only [nz]
 refine pl_nil ?_
 clear cm
 go_upto_region 3 with fail
 by_cases hi0 : i < 0
 ·try simp only [Act.put]
  refine pl_begin ?_
  refine pl_t 12 (?_) (by rfl) ?_ rfl ?_
  rotate_left
  ·go_simp
   try with_reducible rfl
  simp only [nz]
  refine pl_t 13 (.bool true) (by rfl) (by go_simp <;> (try simp [*])) rfl ?_
  simp only [nz]
  refine pl_t 14 (?_) (by rfl) ?_ rfl ?_
  rotate_left
  ·go_simp
   try with_reducible rfl
  simp only [nz]
  refine pl_skip (d := some 15) (by rfl) rfl ?_
  simp only [nz]
  refine pl_skip (d := some 16) (by rfl) rfl ?_
  simp only [nz]
  refine pl_skip (d := some 17) (by rfl) rfl ?_
  simp only [nz]
  refine pl_skip (d := some 18) (by rfl) rfl ?_
  simp only [nz]
  refine pl_skip (d := some 19) (by rfl) rfl ?_
  simp only [nz]
  refine pl_skip (d := some 20) (by rfl) rfl ?_
  simp only [nz]
  refine pl_skip (d := some 21) (by rfl) rfl ?_
  simp only [nz]
  refine pl_t 22 (?_) (by rfl) ?_ rfl ?_
  rotate_left
  ·go_simp
   try with_reducible rfl
  simp only [nz]
  refine pl_t 11 (?_) (by rfl) ?_ rfl ?_
  rotate_left
  ·go_simp
   try with_reducible rfl
  simp only [nz]
  refine pl_nil ?_
  clear hi0 hi c1
  go_upto_region 4 with fail
  try simp only [Act.put]
  refine pl_begin ?_
  refine pl_t 23 (.agg z.toArray) (by rfl) (ex_build (parts := []) (vs := []) rfl rfl (hzb _)) rfl ?_
  simp only [nz]
  refine pl_store (w' := W.setCells w.heap.size 0 z) (by rfl) (ex_put (cs := z.toArray) rfl rfl rfl (by simpa [hzl] using tX) (by simpa using iz) (all_one hz1)) rfl ?_
  refine pl_t 5 (?_) (by rfl) ?_ rfl ?_
  rotate_left
  ·go_simp
   try with_reducible rfl
  simp only [nz]
  refine pl_nil ?_
  have hrs := run_loadVar_mid (P := Tryz.prog) (W.setCells w.heap.size 0 z) w.heap.size 0 44 z _ (World.rangeAt_setCells_same W w.heap.size 0 z (by rw [hzl]; exact tX)) Tryz.underlying44 rfl iz
  have HF : Hid (Below w.heap.size w (W.setCells w.heap.size 0 z)) := hide (below_sets (Nat.le_refl _) _ _ _ hBk)
  clear tX hBk
  go_wp2_with fail
  refine bodyPost_ret (results_ct rfl _ _ _ rfl hrs) rfl ?_
  exact ⟨rfl, HF.out⟩
 ·have hi : (n : Int) ≤ i := hi.resolve_left hi0
  try simp only [Act.put]
  refine pl_begin ?_
  refine pl_t 12 (?_) (by rfl) ?_ rfl ?_
  rotate_left
  ·go_simp
   try with_reducible rfl
  simp only [nz]
  refine pl_t 13 (.bool false) (by rfl) (by go_simp <;> (try simp [*])) rfl ?_
  simp only [nz]
  refine pl_t 14 (?_) (by rfl) ?_ rfl ?_
  rotate_left
  ·go_simp
   try with_reducible rfl
  simp only [nz]
  refine pl_t 15 (?_) (by rfl) ?_ rfl ?_
  rotate_left
  ·go_simp
   try with_reducible rfl
  simp only [nz]
  refine pl_t 16 (?_) (by rfl) ?_ rfl ?_
  rotate_left
  ·go_simp
   try with_reducible rfl
  simp only [nz]
  refine pl_t 17 (?_) (by rfl) ?_ rfl ?_
  rotate_left
  ·go_simp
   try with_reducible rfl
  simp only [nz]
  refine pl_t 18 (?_) (by rfl) ?_ rfl ?_
  rotate_left
  ·go_simp
   try with_reducible rfl
  simp only [nz]
  refine pl_t 19 (.slice a n cap) (by rfl) (pl_one rfl rfl c1 Tryz.underlying67 rfl) rfl ?_
  simp only [nz]
  refine pl_t 20 (?_) (by rfl) ?_ rfl ?_
  rotate_left
  ·go_simp
   try with_reducible rfl
  simp only [nz]
  refine pl_t 21 (.bool true) (by rfl) (by go_simp <;> (try simp [*])) rfl ?_
  simp only [nz]
  refine pl_t 22 (?_) (by rfl) ?_ rfl ?_
  rotate_left
  ·go_simp
   try with_reducible rfl
  simp only [nz]
  refine pl_t 11 (?_) (by rfl) ?_ rfl ?_
  rotate_left
  ·go_simp
   try with_reducible rfl
  simp only [nz]
  refine pl_nil ?_
  clear hi0 hi c1
  go_upto_region 4 with fail
  try simp only [Act.put]
  refine pl_begin ?_
  refine pl_t 23 (.agg z.toArray) (by rfl) (ex_build (parts := []) (vs := []) rfl rfl (hzb _)) rfl ?_
  simp only [nz]
  refine pl_store (w' := W.setCells w.heap.size 0 z) (by rfl) (ex_put (cs := z.toArray) rfl rfl rfl (by simpa [hzl] using tX) (by simpa using iz) (all_one hz1)) rfl ?_
  refine pl_t 5 (?_) (by rfl) ?_ rfl ?_
  rotate_left
  ·go_simp
   try with_reducible rfl
  simp only [nz]
  refine pl_nil ?_
  have hrs := run_loadVar_mid (P := Tryz.prog) (W.setCells w.heap.size 0 z) w.heap.size 0 44 z _ (World.rangeAt_setCells_same W w.heap.size 0 z (by rw [hzl]; exact tX)) Tryz.underlying44 rfl iz
  have HF : Hid (Below w.heap.size w (W.setCells w.heap.size 0 z)) := hide (below_sets (Nat.le_refl _) _ _ _ hBk)
  clear tX hBk
  go_wp2_with fail
  refine bodyPost_ret (results_ct rfl _ _ _ rfl hrs) rfl ?_
  exact ⟨rfl, HF.out⟩
set_option maxRecDepth 100000 in
set_option maxHeartbeats 4000000 in
theorem nlook_in (B K : Nat) (P : Nd) (s : Nt) (l : Int) (w : World) (h : NetAt w B K P s l) (hn : 0 < s.nodes) (j : Nat) (hj : j < s.way.length) : Calls Tryz.prog 17 #[.pointer (some ⟨P.p, 0, none⟩), .int .i64 (j : Int)] w fun e w' => e = .returned (.tuple #[.agg (s.way[j]).cells.toArray, .int .i64 0]) ∧ Below w.heap.size w w' := by
 obtain ⟨z, hzl, hz1, hzr, hzb, hze⟩ : ∃ z : List Value, z.length = 19 ∧ (∀ v ∈ z, v.oneCell' = true) ∧ (∀ w : World, (zeroValue 44).run Tryz.prog w = .ok (.agg z.toArray) w) ∧ (∀ w : World, (Instr.build 44 #[]).run Tryz.prog w = .ok (.agg z.toArray) w) ∧ Hid (infoPk0 = z) := ⟨infoPk0, pk0_len, pk0_one, zeroPk, buildPk0, hide rfl⟩
 try rw [hze.out]
 have iz : (Tryz.prog.info? 44).map (·.size) = some z.length := by rw [hzl]; exact isz_pk
 obtain ⟨hBk, rX, sX⟩ := boxed_new w z 44
 have tX := there_newN w z.toArray 44 (n := 19) (by simp [hzl])
 have h0 := h.below hBk
 have cm := nmade_any P.p s.nodes (w.alloc (.cells z.toArray 44)) h0.c0
 rw [decide_eq_true hn] at cm
 obtain ⟨g, off, cap, hv, hBg, hg, hnc, hcm, hr, ht⟩ := h0.o1.parts (by omega)
 have c1 := h0.c 1 _ rfl
 rw [hv] at c1
 have hre := pk_elem hg hr h0.kw j hj
 have hql : (s.way[j]).cells.length = 19 := Pk.len (h.kw _ (List.getElem_mem hj))
 have hq1 := pk_one s.way[j]
 obtain ⟨q, hq⟩ : ∃ q, Hid ((s.way[j]).cells = q) := ⟨_, hide rfl⟩
 rw [hq.out] at hre hql hq1
 obtain ⟨n, hnn⟩ : ∃ n, s.way.length = n := ⟨_, rfl⟩
 rw [hnn] at c1
 have c1 : (w.alloc (.cells z.toArray 44)).cell? ⟨P.p, 1, none⟩ = some (.slice (some ⟨g, off, none⟩) n cap) := c1
 have iq : (Tryz.prog.info? 44).map (·.size) = some q.length := by rw [hql]; exact isz_pk
 have hjn : j < n := by omega
 have hj1 : ¬ ((j : Int) < 0) := by omega
 have hj2 : ¬ ((n : Int) ≤ (j : Int)) := by omega
 rw [hq.out]
 clear hr ht hnn hv hnc hcm hBg hg hq
 obtain ⟨W, hW⟩ : ∃ W, Hid (w.alloc (.cells z.toArray 44) = W) := ⟨_, hide rfl⟩
 rw [hW.out] at hBk tX cm c1 hre
 clear h0 rX sX hn h hze hj
 go_enter Tryz.func17, Tryz.ntmps17
 go_upto_region 0 with fail
 try simp only [Act.put]
 refine pl_begin ?_
 refine pl_run (d := some 4) (v := .pointer (some ⟨w.heap.size, 0, none⟩)) (w' := w.alloc (.cells z.toArray 44)) (by rfl) (ex_alloc rfl (hzr _)) rfl ?_
 simp only [nz]
 rw [hW.out]
 refine pl_t 5 (?_) (by rfl) ?_ rfl ?_
 rotate_left
 ·go_simp
  try with_reducible rfl
 simp only [nz]
 refine pl_nil ?_
 clear hW hzr
 go_upto_region 1 with fail
 try simp only [Act.put]
 refine pl_begin ?_
 refine pl_t 7 (?_) (by rfl) ?_ rfl ?_
 rotate_left
 ·go_simp
  try with_reducible rfl
 simp only [nz]
 refine pl_call (d := some 8) (by rfl) (by go_simp; first | done | exact ⟨rfl, rfl⟩ | with_reducible rfl) rfl ?_
 refine (cm).mono ?_
 rintro _ wc ⟨rfl, hwc⟩
 refine ⟨_, rfl, ?_⟩
 simp only [nz]
 obtain rfl := hwc.symm
 refine pl_t 9 (?_) (by rfl) ?_ rfl ?_
 rotate_left
 ·go_simp
  try with_reducible rfl
 simp only [nz]
 refine pl_t 6 (?_) (by rfl) ?_ rfl ?_
 rotate_left
 ·go_simp
  try with_reducible rfl
 simp only [nz]
 refine pl_nil ?_
 clear cm
 go_upto_region 3 with fail
 try simp only [Act.put]
 refine pl_begin ?_
 refine pl_t 12 (?_) (by rfl) ?_ rfl ?_
 rotate_left
 ·go_simp
  try with_reducible rfl
 simp only [nz]
 refine pl_t 13 (.bool false) (by rfl) (by go_simp <;> (try simp [*])) rfl ?_
 simp only [nz]
 refine pl_t 14 (?_) (by rfl) ?_ rfl ?_
 rotate_left
 ·go_simp
  try with_reducible rfl
 simp only [nz]
 refine pl_t 15 (?_) (by rfl) ?_ rfl ?_
 rotate_left
 ·go_simp
  try with_reducible rfl
 simp only [nz]
 refine pl_t 16 (?_) (by rfl) ?_ rfl ?_
 rotate_left
 ·go_simp
  try with_reducible rfl
 simp only [nz]
 refine pl_t 17 (?_) (by rfl) ?_ rfl ?_
 rotate_left
 ·go_simp
  try with_reducible rfl
 simp only [nz]
 refine pl_t 18 (?_) (by rfl) ?_ rfl ?_
 rotate_left
 ·go_simp
  try with_reducible rfl
 simp only [nz]
 refine pl_t 19 (.slice (some ⟨g, off, none⟩) n cap) (by rfl) (pl_one rfl rfl c1 Tryz.underlying67 rfl) rfl ?_
 simp only [nz]
 refine pl_t 20 (?_) (by rfl) ?_ rfl ?_
 rotate_left
 ·go_simp
  try with_reducible rfl
 simp only [nz]
 refine pl_t 21 (.bool false) (by rfl) (by go_simp <;> (try simp [*])) rfl ?_
 simp only [nz]
 refine pl_t 22 (?_) (by rfl) ?_ rfl ?_
 rotate_left
 ·go_simp
  try with_reducible rfl
 simp only [nz]
 refine pl_t 11 (?_) (by rfl) ?_ rfl ?_
 rotate_left
 ·go_simp
  try with_reducible rfl
 simp only [nz]
 refine pl_nil ?_
 clear hj1 hj2
 go_upto_region 5 with fail
 try simp only [Act.put]
 refine pl_begin ?_
 refine pl_t 24 (?_) (by rfl) ?_ rfl ?_
 rotate_left
 ·go_simp
  try with_reducible rfl
 simp only [nz]
 refine pl_t 25 (?_) (by rfl) ?_ rfl ?_
 rotate_left
 ·go_simp
  try with_reducible rfl
 simp only [nz]
 refine pl_t 26 (?_) (by rfl) ?_ rfl ?_
 rotate_left
 ·go_simp
  try with_reducible rfl
 simp only [nz]
 refine pl_t 27 (.slice (some ⟨g, off, none⟩) n cap) (by rfl) (pl_one rfl rfl c1 Tryz.underlying67 rfl) rfl ?_
 simp only [nz]
 refine pl_t 28 (?_) (by rfl) ?_ rfl ?_
 rotate_left
 ·go_simp
  try with_reducible rfl
 simp only [nz]
 refine pl_t 29 (.pointer (some ⟨g, off + j * 19, none⟩)) (by rfl) (by go_simp <;> (try simp [*])) rfl ?_
 simp only [nz]
 refine pl_t 30 (.agg q.toArray) (by rfl) (ex_mid rfl rfl hre Tryz.underlying44 rfl iq) rfl ?_
 simp only [nz]
 refine pl_store (w' := W.setCells w.heap.size 0 q) (by rfl) (ex_put (cs := q.toArray) rfl rfl rfl (by simpa [hql] using tX) (by simpa using iq) (all_one hq1)) rfl ?_
 refine pl_t 5 (?_) (by rfl) ?_ rfl ?_
 rotate_left
 ·go_simp
  try with_reducible rfl
 simp only [nz]
 refine pl_nil ?_
 clear c1 hre hjn
 have hrs := run_loadVar_mid (P := Tryz.prog) (W.setCells w.heap.size 0 q) w.heap.size 0 44 q _ (World.rangeAt_setCells_same W w.heap.size 0 q (by rw [hql]; exact tX)) Tryz.underlying44 rfl iq
 have HF : Hid (Below w.heap.size w (W.setCells w.heap.size 0 q)) := hide (below_sets (Nat.le_refl _) _ _ _ hBk)
 clear tX hBk
 go_wp2_with fail
 refine bodyPost_ret (results_ct rfl _ _ _ rfl hrs) rfl ?_
 exact ⟨rfl, HF.out⟩
theorem mem_er {α : Type} {l : List α} {j : Nat} (hj : j < l.length) (hn : l.Nodup) (y : α) : y ∈ l.eraseIdx j ↔ y ∈ l ∧ y ≠ l[j] := by
 have e : l = l.take j ++ l[j] :: l.drop (j + 1) := by rw [List.getElem_cons_drop, List.take_append_drop]
 have hn2 := hn
 rw [e, List.nodup_append, List.nodup_cons] at hn2
 obtain ⟨h1, ⟨h2, h3⟩, h4⟩ := hn2
 rw [List.eraseIdx_eq_take_drop_succ, List.mem_append]
 constructor
 ·rintro (h | h)
  ·exact ⟨List.mem_of_mem_take h, h4 y h _ (List.mem_cons_self ..)⟩
  ·exact ⟨List.mem_of_mem_drop h, fun q => h2 (q ▸ h)⟩
 ·rintro ⟨h, hne⟩
  rw [e] at h
  rcases List.mem_append.1 h with h | h
  ·exact .inl h
  ·rcases List.mem_cons.1 h with h | h
   ·exact absurd h hne
   ·exact .inr h
theorem NetAt.f9 {w : World} {B K : Nat} {P : Nd} {s : Nt} {l : Int} (h : NetAt w B K P s l) : w.frozen? ⟨P.p, 9, none⟩ = false := by
 have := (h.t 9 (by omega)).2
 simpa using this
set_option maxRecDepth 100000 in
set_option maxHeartbeats 8000000 in
theorem ntake_in (B K : Nat) (P : Nd) (s : Nt) (w : World) (h : NetAt w B K P s 0) (hn : 0 < s.nodes) (j : Nat) (hj : j < s.way.length) (hnd : s.way.Nodup) (hon : ∀ y, y ∈ s.on ↔ y ∈ s.way) (t0 : 0 ≤ s.taken) (t1 : s.taken ≤ 1000000000) : Calls Tryz.prog 15 #[.pointer (some ⟨P.p, 0, none⟩), .int .i64 (j : Int)] w fun e w' => e = .returned (.tuple #[.agg (s.way[j]).cells.toArray, .int .i64 0]) ∧ Off P.own w w' ∧ ∃ v1 : Value, NetAt w' B K ⟨P.p, v1, P.v6, P.m2, P.m3, P.m7⟩ ⟨s.nodes, s.way.eraseIdx j, s.way.eraseIdx j, s.kn, s.past, s.th, s.sent, s.taken + 1⟩ 0 ∧ ∀ g, v1.ownBlock = some g → P.v1.ownBlock = some g := by
 have hL := fun y => (mem_er hj hnd y).trans (and_congr_left' (hon y).symm)
 have hL : ∀ y, y ∈ s.way.eraseIdx j ↔ y ∈ s.on ∧ y ≠ s.way[j] := hL
 have hpo : (s.way[j]).ok := h.kw _ (List.getElem_mem hj)
 have hke : ∀ y ∈ s.way.eraseIdx j, y.ok := fun y hy => h.kw y (List.mem_of_mem_eraseIdx hy)
 have hkp := key_pk (s.way[j]) hpo
 have hel : (s.way.eraseIdx j).length = s.way.length - 1 := by rw [List.length_eraseIdx]; simp [hj]
 have cl0 := fun W (h : NetAt W B K P s 0) => nlook_in B K P s 0 W h hn j hj
 have hpl : (s.way[j]).cells.length = 19 := Pk.len hpo
 have hp1 := pk_one s.way[j]
 obtain ⟨E, hE⟩ : ∃ E, Hid (s.way.eraseIdx j = E) := ⟨_, hide rfl⟩
 rw [hE.out] at hL hke hel ⊢
 obtain ⟨p, hp⟩ : ∃ p, Hid (s.way[j] = p) := ⟨_, hide rfl⟩
 rw [hp.out] at hL hpo hkp hpl hp1 ⊢
 simp only [hp.out] at cl0
 obtain ⟨pq, hpq⟩ : ∃ q, Hid (p.cells = q) := ⟨_, hide rfl⟩
 rw [hpq.out] at hkp hpl hp1 ⊢
 simp only [hpq.out] at cl0
 have ip : (Tryz.prog.info? 44).map (·.size) = some pq.length := by rw [hpl]; exact isz_pk
 obtain ⟨z, hzl, hz1, hzr, hzb, hze⟩ : ∃ z : List Value, z.length = 19 ∧ (∀ v ∈ z, v.oneCell' = true) ∧ (∀ w : World, (zeroValue 44).run Tryz.prog w = .ok (.agg z.toArray) w) ∧ (∀ w : World, (Instr.build 44 #[]).run Tryz.prog w = .ok (.agg z.toArray) w) ∧ Hid (infoPk0 = z) := ⟨infoPk0, pk0_len, pk0_one, zeroPk, buildPk0, hide rfl⟩
 have iz : (Tryz.prog.info? 44).map (·.size) = some z.length := by rw [hzl]; exact isz_pk
 obtain ⟨hBk, -, sX⟩ := boxed_new w z 44
 have tX := there_newN w z.toArray 44 (n := 19) (by simp [hzl])
 have h0 := h.below hBk
 have nX : ∀ b, P.own b → b ≠ w.heap.size := fun b hb e => by have := h.own_lt hb; omega
 have cl := cl0 _ h0
 have hO : Off P.own w (w.alloc (.cells z.toArray 44)) := Off.of_below hBk
 obtain ⟨W, hW⟩ : ∃ W, Hid (w.alloc (.cells z.toArray 44) = W) := ⟨_, hide rfl⟩
 obtain ⟨X, hX⟩ : ∃ X, Hid (w.heap.size = X) := ⟨_, hide rfl⟩
 rw [hW.out] at tX h0 cl hO sX
 rw [hX.out] at tX sX nX
 clear hBk cl0 h hn hnd hon hze
 go_enter Tryz.func15, Tryz.ntmps15
 go_upto_region 0 with fail
 try simp only [Act.put]
 refine pl_begin ?_
 refine pl_run (d := some 4) (v := .pointer (some ⟨w.heap.size, 0, none⟩)) (w' := w.alloc (.cells z.toArray 44)) (by rfl) (ex_alloc rfl (hzr _)) rfl ?_
 simp only [nz]
 rw [hW.out, hX.out]
 refine pl_t 5 (?_) (by rfl) ?_ rfl ?_
 rotate_left
 ·go_simp
  try with_reducible rfl
 simp only [nz]
 refine pl_nil ?_
 clear hW
 go_upto_region 1 with fail
 try simp only [Act.put]
 refine pl_begin ?_
 refine pl_t 9 (?_) (by rfl) ?_ rfl ?_
 rotate_left
 ·go_simp
  try with_reducible rfl
 simp only [nz]
 refine pl_t 10 (?_) (by rfl) ?_ rfl ?_
 rotate_left
 ·go_simp
  try with_reducible rfl
 simp only [nz]
 refine pl_call (d := some 11) (by rfl) (by go_simp; first | done | exact ⟨rfl, rfl⟩ | with_reducible rfl) rfl ?_
 refine (cl).mono ?_
 rintro _ w1 ⟨rfl, hb1⟩
 refine ⟨_, rfl, ?_⟩
 simp only [nz]
 refine pl_t 8 (?_) (by rfl) ?_ rfl ?_
 rotate_left
 ·go_simp
  try with_reducible rfl
 simp only [nz]
 refine pl_t 12 (?_) (by rfl) ?_ rfl ?_
 rotate_left
 ·go_simp
  try with_reducible rfl
 simp only [nz]
 refine pl_t 13 (?_) (by rfl) ?_ rfl ?_
 rotate_left
 ·go_simp
  try with_reducible rfl
 simp only [nz]
 refine pl_run (d := some 6) (v := .pointer (some ⟨w1.heap.size, 0, none⟩)) (w' := w1.alloc (.cells z.toArray 44)) (by rfl) (ex_alloc rfl (hzr _)) rfl ?_
 simp only [nz]
 refine pl_store (w' := (w1.alloc (.cells z.toArray 44)).setCells w1.heap.size 0 pq) (by rfl) (ex_put (cs := pq.toArray) rfl rfl rfl (there_newN _ _ _ (by simp [hzl, hpl])) (by simpa using ip) (all_one hp1)) rfl ?_
 refine pl_t 7 (?_) (by rfl) ?_ rfl ?_
 rotate_left
 ·go_simp
  try with_reducible rfl
 simp only [nz]
 refine pl_nil ?_
 obtain ⟨rY, hF, hF3, -⟩ := fresh_store w1 z.toArray 44 pq (by simp [hzl, hpl])
 have tX := there_below (there_below tX hb1 sX) hF (Nat.lt_of_lt_of_le sX hb1.size)
 have h1 := h0.below hb1
 have nY : ∀ b, P.own b → b ≠ w1.heap.size := fun b hb e => by have := h1.own_lt hb; omega
 have h1 := h1.below hF
 have hO := (hO.trans (Off.of_below (F := P.own) hb1) (fun _ _ q => q)).trans (Off.of_below (F := P.own) hF) (fun _ _ q => q)
 have sX := Nat.lt_of_lt_of_le (Nat.lt_of_lt_of_le sX hb1.size) hF.size
 have sY : w1.heap.size < ((w1.alloc (.cells z.toArray 44)).setCells w1.heap.size 0 pq).heap.size := by omega
 obtain ⟨Y, hY⟩ : ∃ D, w1.heap.size = D := ⟨_, rfl⟩
 rw [hY] at rY tX h1 nY hO sX sY
 simp only [hY]
 obtain ⟨V, hV⟩ : ∃ V, (w1.alloc (.cells z.toArray 44)).setCells Y 0 pq = V := ⟨_, rfl⟩
 rw [hV] at rY tX h1 hO sX sY ⊢
 clear hV hY hF hF3 hb1 cl h0 hzr
 have h1 : NetAt V.drew B K P s 0 := h1.on (Nat.le_refl _) (fun _ _ => rfl)
 have hO := hO.drew
 have rY : V.drew.rangeAt Y 0 pq := (World.rangeAt_drew _ _ _ _).2 rY
 have tX : V.drew.there X 0 19 := there_blkO tX rfl
 have sX : X < V.drew.heap.size := sX
 have sY : Y < V.drew.heap.size := sY
 obtain ⟨g, off, cap, hv, hBg, hg, hnc, hcm, hr, ht⟩ := h1.o1.parts (by omega)
 have hvb : P.v1.ownBlock = some g := by rw [hv]; rfl
 have hq := row_take (zl := z) hBg hg h1.kw j hj hnc hcm hr ht hzl
 rw [hE.out] at hq
 have hcs1 : ((s.way.take j).flatMap Pk.cells).length = j * 19 := by
  rw [flat_pk (fun y hy => h1.kw y (List.mem_of_mem_take hy)), List.length_take, Nat.min_eq_left (Nat.le_of_lt hj)]
 have hcs2 : ∀ i v, ((s.way.take j).flatMap Pk.cells)[i]? = some v → V.drew.cell? ((⟨g, off, none⟩ : Addr).add i) = some v := fun i v hv => by
  have h3 := hr i v (by
   have e : s.way.flatMap Pk.cells = (s.way.take j).flatMap Pk.cells ++ (s.way.drop j).flatMap Pk.cells := by rw [← List.flatMap_append, List.take_append_drop]
   rw [e, List.getElem?_append_left (List.getElem?_eq_some_iff.1 hv).1]; exact hv)
  simpa [Addr.add_lit] using h3
 have hcs3 : ∀ v ∈ (s.way.take j).flatMap Pk.cells, v.oneCell' = true := fun v hv => by
  obtain ⟨y, _, hv⟩ := List.mem_flatMap.1 hv
  exact pk_one y v hv
 obtain ⟨cs, hcs⟩ : ∃ c, Hid ((s.way.take j).flatMap Pk.cells = c) := ⟨_, hide rfl⟩
 rw [hcs.out] at hq hcs1 hcs2 hcs3
 have c1 : V.drew.cell? ⟨P.p, 1, none⟩ = some P.v1 := h1.c 1 _ rfl
 rw [hv] at c1
 have hgp : g ≠ P.p := (h1.r1 g hvb).1
 have hgX : X ≠ g := (nX g (.inr (.inr (.inr (.inr (.inl hvb)))))).symm
 have hgY : Y ≠ g := (nY g (.inr (.inr (.inr (.inr (.inl hvb)))))).symm
 obtain ⟨n, hnn⟩ : ∃ n, Hid (s.way.length = n) := ⟨_, hide rfl⟩
 rw [hnn.out] at c1 hq hnc hel hj
 have hjn : j ≤ n - 1 := by omega
 have hn1 : 1 ≤ n := by omega
 have htc : V.drew.there g (offT off cap) cs.length := fun i hi => by
  rw [hcs1] at hi
  have hc2 : 2 ≤ cap := by omega
  have := ht (19 + i) (by omega)
  rw [← Nat.add_assoc] at this
  unfold offT
  rw [if_neg (by omega)]
  exact this
 have tz : V.drew.there g off 19 := fun i hi => ht i (by omega)
 go_upto_region 4 with fail
 refine hs_begin (S := fun w' : World => w'.cell? ⟨P.p, 1, none⟩ = some (.slice (some ⟨g, off, none⟩) n cap)) 12 rfl (by kernel_rfl) ?_
 obtain ⟨u0, hu0⟩ : ∃ u, V.drew = u := ⟨_, rfl⟩
 rw [hu0] at h1 hO rY tX sX sY hq hr ht hcs2 c1 htc tz hg ⊢
 clear hu0 hr ht
 have hS : (fun w' : World => w'.cell? ⟨P.p, 1, none⟩ = some (.slice (some ⟨g, off, none⟩) n cap)) u0 := c1
 have b4 : ∀ b, b ≠ g → (u0.setCells g (offT off cap) cs).heap[b]? = u0.heap[b]? := fun b hb => blk_sets (Ne.symm (Ne.symm hb))
 have c14 : (u0.setCells g (offT off cap) cs).cell? ⟨P.p, 1, none⟩ = some (.slice (some ⟨g, off, none⟩) n cap) := by
  have h3 := b4 P.p hgp.symm
  rw [← c1]; simp only [World.cell?, h3]
 refine hs_t 0 18 (?_) rfl (by kernel_rfl) (by kernel_rfl) (by kernel_rfl) (by rfl) ?_ hS rfl ?_
 rotate_left
 ·intro w' hw
  go_simp
  try with_reducible rfl
 simp only [nz]
 refine hs_t 1 19 (?_) rfl (by kernel_rfl) (by kernel_rfl) (by kernel_rfl) (by rfl) ?_ hS rfl ?_
 rotate_left
 ·intro w' hw
  go_simp
  try with_reducible rfl
 simp only [nz]
 refine hs_t 2 20 (?_) rfl (by kernel_rfl) (by kernel_rfl) (by kernel_rfl) (by rfl) ?_ hS rfl ?_
 rotate_left
 ·intro w' hw
  go_simp
  try with_reducible rfl
 simp only [nz]
 refine hs_t 3 21 (.slice (some ⟨g, off, none⟩) n cap) rfl (by kernel_rfl) (by kernel_rfl) (by kernel_rfl) (by rfl) (fun w' hw => pl_one rfl rfl hw Tryz.underlying67 rfl) hS rfl ?_
 simp only [nz]
 refine hs_t 4 22 (.slice (some ⟨g, offT off cap, none⟩) (n - 1) (cap - 1)) rfl (by kernel_rfl) (by kernel_rfl) (by kernel_rfl) (by rfl) (fun w' hw => ex_sliceL rfl rfl rfl (slice_lo g off n cap hn1 hnc _)) hS rfl ?_
 simp only [nz]
 refine hs_t 5 23 (?_) rfl (by kernel_rfl) (by kernel_rfl) (by kernel_rfl) (by rfl) ?_ hS rfl ?_
 rotate_left
 ·intro w' hw
  go_simp
  try with_reducible rfl
 simp only [nz]
 refine hs_t 6 24 (?_) rfl (by kernel_rfl) (by kernel_rfl) (by kernel_rfl) (by rfl) ?_ hS rfl ?_
 rotate_left
 ·intro w' hw
  go_simp
  try with_reducible rfl
 simp only [nz]
 refine hs_t 7 25 (?_) rfl (by kernel_rfl) (by kernel_rfl) (by kernel_rfl) (by rfl) ?_ hS rfl ?_
 rotate_left
 ·intro w' hw
  go_simp
  try with_reducible rfl
 simp only [nz]
 refine hs_t 8 26 (.slice (some ⟨g, off, none⟩) n cap) rfl (by kernel_rfl) (by kernel_rfl) (by kernel_rfl) (by rfl) (fun w' hw => pl_one rfl rfl hw Tryz.underlying67 rfl) hS rfl ?_
 simp only [nz]
 refine hs_t 9 27 (?_) rfl (by kernel_rfl) (by kernel_rfl) (by kernel_rfl) (by rfl) ?_ hS rfl ?_
 rotate_left
 ·intro w' hw
  go_simp
  try with_reducible rfl
 simp only [nz]
 refine hs_t 10 28 (.slice (some ⟨g, off, none⟩) j cap) rfl (by kernel_rfl) (by kernel_rfl) (by kernel_rfl) (by rfl) (fun w' hw => ex_sliceH rfl rfl rfl (slice_hi g off n cap j (by omega) _)) hS rfl ?_
 simp only [nz]
 refine hs_run (i := 11) (d := some 29) (v := goInt j) (w' := u0.setCells g (offT off cap) cs) rfl (by kernel_rfl) (by rfl) (exec_copy1 rfl rfl rfl (run_copy_wide u0 67 67 _ 44 g (offT off cap) (n - 1) (cap - 1) ⟨g, off, none⟩ j cap 19 j cs Tryz.underlying67 isz_pk (Nat.min_eq_left hjn) hcs1 hcs2 htc hcs3)) rfl c14 ?_
 simp only [nz]
 refine hs_done (by kernel_rfl) ?_
 have b5 : ∀ b, b ≠ g → ((u0.setCells g (offT off cap) cs).setCells g off z).heap[b]? = u0.heap[b]? := fun b hb => (blk_sets (Ne.symm (Ne.symm hb))).trans (b4 b hb)
 have g5 : u0.grownBy ((u0.setCells g (offT off cap) cs).setCells g off z) P.v1.ownBlock := by
  rw [hvb]; exact gb_trans (gb_setsR u0 g cs _) (gb_setsR _ g z _)
 have tz4 : (u0.setCells g (offT off cap) cs).there g off 19 := World.there_setCells tz _ _ _
 have c15 : ((u0.setCells g (offT off cap) cs).setCells g off z).cell? ⟨P.p, 1, none⟩ = some (.slice (some ⟨g, off, none⟩) n cap) := by
  have h3 := b5 P.p hgp.symm
  rw [← c1]; simp only [World.cell?, h3]
 clear hS c1 hcs1 hcs2 hcs3 htc tz
 go_upto_region 5 with fail
 try simp only [Act.put]
 refine pl_begin ?_
 refine pl_t 30 (?_) (by rfl) ?_ rfl ?_
 rotate_left
 ·go_simp
  try with_reducible rfl
 simp only [nz]
 refine pl_t 31 (?_) (by rfl) ?_ rfl ?_
 rotate_left
 ·go_simp
  try with_reducible rfl
 simp only [nz]
 refine pl_t 32 (?_) (by rfl) ?_ rfl ?_
 rotate_left
 ·go_simp
  try with_reducible rfl
 simp only [nz]
 refine pl_t 33 (.slice (some ⟨g, off, none⟩) n cap) (by rfl) (pl_one rfl rfl c14 Tryz.underlying67 rfl) rfl ?_
 simp only [nz]
 refine pl_t 34 (.agg z.toArray) (by rfl) (ex_build (parts := []) (vs := []) rfl rfl (hzb _)) rfl ?_
 simp only [nz]
 refine pl_t 35 (.pointer (some ⟨g, off, none⟩)) (by rfl) (by go_simp <;> (try simp) <;> (try omega)) rfl ?_
 simp only [nz]
 refine pl_store (w' := (u0.setCells g (offT off cap) cs).setCells g off z) (by rfl) (ex_put (cs := z.toArray) rfl rfl rfl (by simpa [hzl] using tz4) (by simpa using iz) (all_one hz1)) rfl ?_
 refine pl_nil ?_
 clear tz4 c14 b4
 have hq : RowQ ((u0.setCells g (offT off cap) cs).setCells g off z) B 44 19 (.slice (some ⟨g, offT off cap, none⟩) (n - 1) (cap - 1)) E.length (E.flatMap Pk.cells) := hq
 have h6 := h1.setWay E hke hq g5 (fun g' hg' => .inl (by rw [hvb]; exact hg'))
 have hO6 := (hO.trans (Off.of_grown (F := P.own) g5 (fun k hk => .inr (.inr (.inr (.inr (.inl hk)))))) (fun _ _ q => q)).trans (Off.cell ((u0.setCells g (offT off cap) cs).setCells g off z) 1 (.slice (some ⟨g, offT off cap, none⟩) (n - 1) (cap - 1))) (fun _ _ q => q)
 have tp5 : ((u0.setCells g (offT off cap) cs).setCells g off z).there P.p 0 10 := there_blkO h1.t (b5 P.p hgp.symm)
 have rY6 := range_at rY (b5 Y hgY)
 have tX6 := there_blkO tX (b5 X hgX)
 have sX6 := Nat.lt_of_lt_of_le sX g5.size
 have sY6 := Nat.lt_of_lt_of_le sY g5.size
 obtain ⟨u5, hu5⟩ : ∃ u, (u0.setCells g (offT off cap) cs).setCells g off z = u := ⟨_, rfl⟩
 rw [hu5] at h6 hO6 tp5 rY6 tX6 sX6 sY6 c15 ⊢
 have HVB := hide hvb
 have HV := hide hv
 clear hu5 b5 g5 hq h1 hO rY tX sX sY hvb hv
 go_upto_region 6 with fail
 try simp only [Act.put]
 refine pl_begin ?_
 refine pl_t 36 (?_) (by rfl) ?_ rfl ?_
 rotate_left
 ·go_simp
  try with_reducible rfl
 simp only [nz]
 refine pl_t 37 (?_) (by rfl) ?_ rfl ?_
 rotate_left
 ·go_simp
  try with_reducible rfl
 simp only [nz]
 refine pl_t 38 (?_) (by rfl) ?_ rfl ?_
 rotate_left
 ·go_simp
  try with_reducible rfl
 simp only [nz]
 refine pl_t 39 (?_) (by rfl) ?_ rfl ?_
 rotate_left
 ·go_simp
  try with_reducible rfl
 simp only [nz]
 refine pl_t 40 (.slice (some ⟨g, off, none⟩) n cap) (by rfl) (pl_one rfl rfl c15 Tryz.underlying67 rfl) rfl ?_
 simp only [nz]
 refine pl_t 41 (.slice (some ⟨g, offT off cap, none⟩) (n - 1) (cap - 1)) (by rfl) (ex_sliceL rfl rfl rfl (slice_lo g off n cap hn1 hnc _)) rfl ?_
 simp only [nz]
 refine pl_t 42 (?_) (by rfl) ?_ rfl ?_
 rotate_left
 ·go_simp
  try with_reducible rfl
 simp only [nz]
 refine pl_t 43 (?_) (by rfl) ?_ rfl ?_
 rotate_left
 ·go_simp
  try with_reducible rfl
 simp only [nz]
 refine pl_store (w' := u5.setCell ⟨P.p, 1, none⟩ (.slice (some ⟨g, offT off cap, none⟩) (n - 1) (cap - 1))) (by rfl) (ex_put1 (n := 10) rfl rfl rfl tp5 (by decide) isz_pks rfl rfl) rfl ?_
 refine pl_nil ?_
 have hB6 : ∀ b, b ≠ P.p → (u5.setCell ⟨P.p, 1, none⟩ (.slice (some ⟨g, offT off cap, none⟩) (n - 1) (cap - 1))).heap[b]? = u5.heap[b]? := fun b hb => Below.heap_setCell u5 ⟨P.p, 1, none⟩ _ b hb
 have rY6 := range_at rY6 (hB6 Y (nY P.p (.inl rfl)).symm)
 have tX6 := there_blkO tX6 (hB6 X (nX P.p (.inl rfl)).symm)
 have sX6 : X < (u5.setCell ⟨P.p, 1, none⟩ (.slice (some ⟨g, offT off cap, none⟩) (n - 1) (cap - 1))).heap.size := by simpa using sX6
 have sY6 : Y < (u5.setCell ⟨P.p, 1, none⟩ (.slice (some ⟨g, offT off cap, none⟩) (n - 1) (cap - 1))).heap.size := by simpa using sY6
 have HQ : Hid (∀ g', (Value.slice (some ⟨g, offT off cap, none⟩) (n - 1) (cap - 1)).ownBlock = some g' → P.v1.ownBlock = some g') := hide fun g' hg' => by rw [HVB.out]; exact hg'
 obtain ⟨v1, hv1⟩ : ∃ v, Value.slice (some ⟨g, offT off cap, none⟩) (n - 1) (cap - 1) = v := ⟨_, rfl⟩
 rw [hv1] at hB6 rY6 tX6 sX6 sY6 h6 hO6 HQ ⊢
 clear hB6
 obtain ⟨u6, hu6⟩ : ∃ u, u5.setCell ⟨P.p, 1, none⟩ v1 = u := ⟨_, rfl⟩
 rw [hu6] at rY6 tX6 sX6 sY6 h6 hO6 ⊢
 clear hu6 tp5 c15 hv1
 have h6 : NetAt u6.drew B K ⟨P.p, v1, P.v6, P.m2, P.m3, P.m7⟩ ⟨s.nodes, E, s.on, s.kn, s.past, s.th, s.sent, s.taken⟩ 0 := h6.on (Nat.le_refl _) (fun _ _ => rfl)
 have hO6 := hO6.drew
 have rY6 : u6.drew.rangeAt Y 0 pq := (World.rangeAt_drew _ _ _ _).2 rY6
 have tX6 : u6.drew.there X 0 19 := there_blkO tX6 rfl
 have sX6 : X < u6.drew.heap.size := sX6
 have sY6 : Y < u6.drew.heap.size := sY6
 have hYm : Y ≠ P.m2 := (nY P.m2 (.inr (.inl rfl))).symm
 have hXm : X ≠ P.m2 := (nX P.m2 (.inr (.inl rfl))).symm
 have hXp : X ≠ P.p := (nX P.p (.inl rfl)).symm
 have hYp : Y ≠ P.p := (nY P.p (.inl rfl)).symm
 go_upto_region 7 with fail
 refine hs_begin (S := fun w' : World => w'.cell? ⟨P.p, 2, none⟩ = some (.map (some P.m2)) ∧ w'.rangeAt Y 0 pq) 6 rfl (by kernel_rfl) ?_
 obtain ⟨u7, hu7⟩ : ∃ u, u6.drew = u := ⟨_, rfl⟩
 rw [hu7] at h6 hO6 rY6 tX6 sX6 sY6 ⊢
 clear hu7
 obtain ⟨u8, hrun, hm, hg8⟩ := h6.g2.drop lawPk Tryz.underlying68 hkp 0
 have h7 := h6.delOn p hpo E hL hm hg8
 have hblk : ∀ b, b < u7.heap.size → b ≠ P.m2 → u8.heap[b]? = u7.heap[b]? := fun b h1 h2 => hg8.block b h1 (fun e => h2 (Option.some.inj e))
 have c2 : u7.cell? ⟨P.p, 2, none⟩ = some (.map (some P.m2)) := h6.c 2 _ rfl
 have c28 : u8.cell? ⟨P.p, 2, none⟩ = some (.map (some P.m2)) := h7.c 2 _ rfl
 have rY8 : u8.rangeAt Y 0 pq := range_at rY6 (hblk Y sY6 hYm)
 have tX8 : u8.there X 0 19 := there_blkO tX6 (hblk X sX6 hXm)
 have sX8 := Nat.lt_of_lt_of_le sX6 hg8.size
 have hO8 := hO6.trans (Off.of_grown (F := P.own) hg8 (fun k hk => by cases hk; exact .inr (.inl rfl))) (fun _ _ q => q)
 have hS : (fun w' : World => w'.cell? ⟨P.p, 2, none⟩ = some (.map (some P.m2)) ∧ w'.rangeAt Y 0 pq) u7 := ⟨c2, rY6⟩
 refine hs_t 0 44 (?_) rfl (by kernel_rfl) (by kernel_rfl) (by kernel_rfl) (by rfl) ?_ hS rfl ?_
 rotate_left
 ·intro w' hw
  go_simp
  try with_reducible rfl
 simp only [nz]
 refine hs_t 1 45 (?_) rfl (by kernel_rfl) (by kernel_rfl) (by kernel_rfl) (by rfl) ?_ hS rfl ?_
 rotate_left
 ·intro w' hw
  go_simp
  try with_reducible rfl
 simp only [nz]
 refine hs_t 2 46 (?_) rfl (by kernel_rfl) (by kernel_rfl) (by kernel_rfl) (by rfl) ?_ hS rfl ?_
 rotate_left
 ·intro w' hw
  go_simp
  try with_reducible rfl
 simp only [nz]
 refine hs_t 3 47 (.map (some P.m2)) rfl (by kernel_rfl) (by kernel_rfl) (by kernel_rfl) (by rfl) (fun w' hw => pl_one rfl rfl hw.1 Tryz.underlying68 rfl) hS rfl ?_
 simp only [nz]
 refine hs_t 4 48 (.agg pq.toArray) rfl (by kernel_rfl) (by kernel_rfl) (by kernel_rfl) (by rfl) (fun w' hw => ex_mid rfl rfl hw.2 Tryz.underlying44 rfl ip) hS rfl ?_
 simp only [nz]
 refine hs_run (i := 5) (d := none) (v := .tuple #[]) (w' := u8) rfl (by kernel_rfl) (by rfl) (exec_del1 rfl rfl rfl hrun) rfl ⟨c28, rY8⟩ ?_
 simp only [nz]
 refine hs_done (by kernel_rfl) ?_
 clear hS hrun hm hg8 hblk c2 c28 h6 hO6 rY6 tX6 sX6 sY6 hkp
 have ca := aadd_any P.p 9 s.taken u8 (h7.c 9 _ rfl) h7.f9 t0 t1
 have h9 := h7.takenAt (s.taken + 1)
 have hO9 := hO8.trans (Off.cell (P := P) u8 9 (.int .i64 (s.taken + 1))) (fun _ _ q => q)
 have rY9 := range_at rY8 (Below.heap_setCell u8 ⟨P.p, 9, none⟩ (.int .i64 (s.taken + 1)) Y hYp)
 have tX9 := there_blkO tX8 (Below.heap_setCell u8 ⟨P.p, 9, none⟩ (.int .i64 (s.taken + 1)) X hXp)
 have sX9 : X < (u8.setCell ⟨P.p, 9, none⟩ (.int .i64 (s.taken + 1))).heap.size := by simpa using sX8
 obtain ⟨u9, hu9⟩ : ∃ u, u8.setCell ⟨P.p, 9, none⟩ (.int .i64 (s.taken + 1)) = u := ⟨_, rfl⟩
 rw [hu9] at h9 hO9 rY9 tX9 sX9
 simp only [hu9] at ca
 have H9 := hide h9
 have HO := hide hO9
 clear hu9 h7 hO8 rY8 tX8 sX8 h9 hO9
 go_upto_region 8 with fail
 try simp only [Act.put]
 refine pl_begin ?_
 refine pl_t 49 (?_) (by rfl) ?_ rfl ?_
 rotate_left
 ·go_simp
  try with_reducible rfl
 simp only [nz]
 refine pl_t 50 (?_) (by rfl) ?_ rfl ?_
 rotate_left
 ·go_simp
  try with_reducible rfl
 simp only [nz]
 refine pl_t 51 (.pointer (some ⟨P.p, 9, none⟩)) (by rfl) (by go_simp) rfl ?_
 simp only [nz]
 refine pl_call (d := some 52) (by rfl) (by go_simp; first | done | exact ⟨rfl, rfl⟩ | with_reducible rfl) rfl ?_
 refine (ca).mono ?_
 rintro _ wd ⟨rfl, hwd⟩
 refine ⟨_, rfl, ?_⟩
 simp only [nz]
 obtain rfl := hwd.symm
 refine pl_nil ?_
 clear ca
 go_upto_region 9 with fail
 try simp only [Act.put]
 refine pl_begin ?_
 refine pl_t 53 (.agg pq.toArray) (by rfl) (ex_mid rfl rfl rY9 Tryz.underlying44 rfl ip) rfl ?_
 simp only [nz]
 refine pl_store (w' := u9.setCells X 0 pq) (by rfl) (ex_put (cs := pq.toArray) rfl rfl rfl (by simpa [hpl] using tX9) (by simpa using ip) (all_one hp1)) rfl ?_
 refine pl_t 5 (?_) (by rfl) ?_ rfl ?_
 rotate_left
 ·go_simp
  try with_reducible rfl
 simp only [nz]
 refine pl_nil ?_
 have hrs := run_loadVar_mid (P := Tryz.prog) (u9.setCells X 0 pq) X 0 44 pq _ (World.rangeAt_setCells_same u9 X 0 pq (by rw [hpl]; exact tX9)) Tryz.underlying44 rfl ip
 have hbX : ∀ b, b ≠ X → (u9.setCells X 0 pq).heap[b]? = u9.heap[b]? := fun b hb => blk_sets (Ne.symm (Ne.symm hb))
 have nX9 : ∀ b, Nd.own ⟨P.p, v1, P.v6, P.m2, P.m3, P.m7⟩ b → b ≠ X := fun b hb => by
  rcases hb with hb | hb | hb | hb | hb | hb
  ·exact nX b (.inl hb)
  ·exact nX b (.inr (.inl hb))
  ·exact nX b (.inr (.inr (.inl hb)))
  ·exact nX b (.inr (.inr (.inr (.inl hb))))
  ·exact nX b (.inr (.inr (.inr (.inr (.inl (HQ.out b hb))))))
  ·exact nX b (.inr (.inr (.inr (.inr (.inr hb)))))
 have HF := hide (H9.out.on (w' := u9.setCells X 0 pq) (by rw [size_sets]; exact Nat.le_refl _) (fun b hb => hbX b (nX9 b hb)))
 have HG : Hid (Off P.own w (u9.setCells X 0 pq)) := hide ⟨HO.out.1.trans (below_sets (Nat.zero_le _) _ _ _ (Below.refl _ _)), fun b hb hf => by
  rw [hbX b (fun e => by rw [← hX.out] at e; omega)]
  exact HO.out.2 b hb hf⟩
 clear tX9 rY9 sX9 hbX nX9 nX nY hYm hXm hXp hYp
 go_wp2_with fail
 refine bodyPost_ret (results_ct rfl _ _ _ rfl hrs) rfl ?_
 exact ⟨rfl, HG.out, v1, HF.out, HQ.out⟩
theorem claimsC_len (N : Int) (sb : ByteArray) : (claimsC N sb).length ≤ 660000 := by
  unfold claimsC
  split
  · simp
  · split
    · simp
    · rename_i h0 h
      have hf := fit_dec (Decidable.not_not.1 h)
      have h1 := hf.le N
      have h2 := hf.nl
      have h3 : ∀ l : List Ev, (l.flatMap (newC N)).length ≤ l.length * 10001 := fun l => by
        induction l with
        | nil => simp
        | cons a l ih =>
          rw [List.flatMap_cons, List.length_append, List.length_cons, Nat.succ_mul]
          have := newC_len N a
          omega
      have h4 := h3 (decS (strL sb)).1.ne
      rw [List.length_append]
      have : (decS (strL sb)).1.ne.length * 10001 ≤ 64 * 10001 := Nat.mul_le_mul_right _ h2
      omega
open Classical in
noncomputable def sendS (s : Nt) (dt : Int) (x : Ev) : Nt × Int :=
 if dt < 0 ∨ s.nodes ≤ dt then (s, 2)
 else if (⟨dt, x⟩ : Pk) ∈ s.way then (s, 0)
 else if 16384 ≤ s.way.length then (s, 100)
 else if x ∈ s.past then (⟨s.nodes, s.way ++ [⟨dt, x⟩], s.on ++ [⟨dt, x⟩], s.kn, s.past, s.th, s.sent + 1, s.taken⟩, 0)
 else (⟨s.nodes, s.way ++ [⟨dt, x⟩], s.on ++ [⟨dt, x⟩], s.kn ++ x :: claimsC s.nodes x.s, s.past ++ [x], s.th ++ [x], s.sent + 1, s.taken⟩, 0)
structure Inv (s : Nt) (k : Nat) : Prop where
 nd : s.way.Nodup
 on : s.on = s.way
 th : s.th = s.past
 wl : s.way.length ≤ k
 pl : s.past.length ≤ k
 s0 : 0 ≤ s.sent
 s1 : s.sent ≤ k
 t0 : 0 ≤ s.taken
 t1 : s.taken ≤ k
 n0 : 0 < s.nodes
theorem Inv.mono {s : Nt} {k m : Nat} (h : Inv s k) (hm : k ≤ m) : Inv s m :=
 ⟨h.nd, h.on, h.th, Nat.le_trans h.wl hm, Nat.le_trans h.pl hm, h.s0, by have := h.s1; omega, h.t0, by have := h.t1; omega, h.n0⟩
theorem send_inv {s : Nt} {k : Nat} (h : Inv s k) (dt : Int) (x : Ev) : Inv (sendS s dt x).1 (k + 1) := by
 unfold sendS
 split
 ·exact h.mono (by omega)
 ·split
  ·exact h.mono (by omega)
  ·rename_i hno
   have hnd : (s.way ++ [(⟨dt, x⟩ : Pk)]).Nodup := by
    rw [List.nodup_append]
    refine ⟨h.nd, by simp, fun a ha b hb e => hno ?_⟩
    rw [List.mem_singleton.1 hb] at e
    rw [← e]; exact ha
   split
   ·exact h.mono (by omega)
   ·split
    ·exact ⟨hnd, by show s.on ++ _ = s.way ++ _; rw [h.on], h.th, by show (s.way ++ _).length ≤ _; rw [List.length_append]; have := h.wl; simp; omega, Nat.le_succ_of_le h.pl, by show 0 ≤ s.sent + 1; have := h.s0; omega, by show s.sent + 1 ≤ _; have := h.s1; omega, h.t0, by have := h.t1; show s.taken ≤ _; omega, h.n0⟩
    ·exact ⟨hnd, by show s.on ++ _ = s.way ++ _; rw [h.on], by show s.th ++ _ = s.past ++ _; rw [h.th], by show (s.way ++ _).length ≤ _; rw [List.length_append]; have := h.wl; simp; omega, by show (s.past ++ _).length ≤ _; rw [List.length_append]; have := h.pl; simp; omega, by show 0 ≤ s.sent + 1; have := h.s0; omega, by show s.sent + 1 ≤ _; have := h.s1; omega, h.t0, by have := h.t1; show s.taken ≤ _; omega, h.n0⟩
open Classical in
noncomputable def takeS (s : Nt) (i : Int) : Nt × Option Pk :=
 if 0 ≤ i ∧ i < (s.way.length : Int) then (⟨s.nodes, s.way.eraseIdx i.toNat, s.way.eraseIdx i.toNat, s.kn, s.past, s.th, s.sent, s.taken + 1⟩, s.way[i.toNat]?) else (s, none)
def takeV : Option Pk → Value
  | some p => .tuple #[.agg p.cells.toArray, .int .i64 0]
  | none => .tuple #[.agg infoPk0.toArray, .int .i64 260]
theorem take_inv {s : Nt} {k : Nat} (h : Inv s k) (i : Int) : Inv (takeS s i).1 (k + 1) := by
 unfold takeS
 split
 ·have hl : (s.way.eraseIdx i.toNat).length ≤ s.way.length := List.length_eraseIdx_le _ _
  exact ⟨h.nd.eraseIdx _, rfl, h.th, by show (s.way.eraseIdx i.toNat).length ≤ _; have := h.wl; omega, Nat.le_succ_of_le h.pl, h.s0, by have := h.s1; show s.sent ≤ _; omega, by show 0 ≤ s.taken + 1; have := h.t0; omega, by show s.taken + 1 ≤ _; have := h.t1; omega, h.n0⟩
 ·exact h.mono (by omega)
set_option maxRecDepth 100000 in
set_option maxHeartbeats 4000000 in
theorem nsend_bad (B K : Nat) (P : Nd) (s : Nt) (dt : Int) (q : List Value) (w : World) (h : NetAt w B K P s 0) (hn : 0 < s.nodes) (hd : dt < 0 ∨ s.nodes ≤ dt) : Calls Tryz.prog 13 #[.pointer (some ⟨P.p, 0, none⟩), .int .i64 dt, .agg q.toArray] w fun e w' => e = .returned (.int .i64 2) ∧ Below w.heap.size w w' := by
 have hB : Below w.heap.size w (w.alloc (.cells q.toArray 32)) := (Below.refl _ _).alloc (Nat.le_refl _) _
 have h0 := h.below hB
 have cm := nmade_any P.p s.nodes _ h0.c0
 rw [decide_eq_true hn] at cm
 have c0 := h0.c0
 obtain ⟨nn, hnn⟩ : ∃ n, s.nodes = n := ⟨_, rfl⟩
 rw [hnn] at c0 hd
 clear h h0 hn hnn
 go_enter Tryz.func13, Tryz.ntmps13
 go_upto_region 1 with fail
 obtain ⟨W, hW⟩ : ∃ W, w.alloc (.cells q.toArray 32) = W := ⟨_, rfl⟩
 rw [hW] at hB c0
 simp only [hW] at cm ⊢
 clear hW
 try simp only [Act.put]
 refine pl_begin ?_
 refine pl_t 11 (?_) (by rfl) ?_ rfl ?_
 rotate_left
 ·go_simp
  try with_reducible rfl
 simp only [nz]
 refine pl_call (d := some 12) (by rfl) (by go_simp; first | done | exact ⟨rfl, rfl⟩ | with_reducible rfl) rfl ?_
 refine (cm).mono ?_
 rintro _ wc ⟨rfl, hwc⟩
 refine ⟨_, rfl, ?_⟩
 simp only [nz]
 obtain rfl := hwc.symm
 refine pl_t 13 (?_) (by rfl) ?_ rfl ?_
 rotate_left
 ·go_simp
  try with_reducible rfl
 simp only [nz]
 refine pl_t 10 (?_) (by rfl) ?_ rfl ?_
 rotate_left
 ·go_simp
  try with_reducible rfl
 simp only [nz]
 refine pl_nil ?_
 clear cm
 go_upto_region 3 with fail
 have HB := hide hB
 clear hB
 by_cases k0 : dt < 0
 ·try simp only [Act.put]
  refine pl_begin ?_
  refine pl_t 15 (?_) (by rfl) ?_ rfl ?_
  rotate_left
  ·go_simp
   try with_reducible rfl
  simp only [nz]
  refine pl_t 16 (.bool true) (by rfl) (by go_simp <;> (try simp [*])) rfl ?_
  simp only [nz]
  refine pl_t 17 (?_) (by rfl) ?_ rfl ?_
  rotate_left
  ·go_simp
   try with_reducible rfl
  simp only [nz]
  refine pl_skip (d := some 18) (by rfl) rfl ?_
  simp only [nz]
  refine pl_skip (d := some 19) (by rfl) rfl ?_
  simp only [nz]
  refine pl_skip (d := some 20) (by rfl) rfl ?_
  simp only [nz]
  refine pl_skip (d := some 21) (by rfl) rfl ?_
  simp only [nz]
  refine pl_skip (d := some 22) (by rfl) rfl ?_
  simp only [nz]
  refine pl_skip (d := some 23) (by rfl) rfl ?_
  simp only [nz]
  refine pl_t 24 (?_) (by rfl) ?_ rfl ?_
  rotate_left
  ·go_simp
   try with_reducible rfl
  simp only [nz]
  refine pl_t 14 (?_) (by rfl) ?_ rfl ?_
  rotate_left
  ·go_simp
   try with_reducible rfl
  simp only [nz]
  refine pl_nil ?_
  clear k0 hd c0
  go_wp2_with fail
  go_ret
  exact ⟨rfl, HB.out⟩
 ·have k1 := hd.resolve_left k0
  try simp only [Act.put]
  refine pl_begin ?_
  refine pl_t 15 (?_) (by rfl) ?_ rfl ?_
  rotate_left
  ·go_simp
   try with_reducible rfl
  simp only [nz]
  refine pl_t 16 (.bool false) (by rfl) (by go_simp <;> (try simp [*])) rfl ?_
  simp only [nz]
  refine pl_t 17 (?_) (by rfl) ?_ rfl ?_
  rotate_left
  ·go_simp
   try with_reducible rfl
  simp only [nz]
  refine pl_t 18 (?_) (by rfl) ?_ rfl ?_
  rotate_left
  ·go_simp
   try with_reducible rfl
  simp only [nz]
  refine pl_t 19 (?_) (by rfl) ?_ rfl ?_
  rotate_left
  ·go_simp
   try with_reducible rfl
  simp only [nz]
  refine pl_t 20 (?_) (by rfl) ?_ rfl ?_
  rotate_left
  ·go_simp
   try with_reducible rfl
  simp only [nz]
  refine pl_t 21 (?_) (by rfl) ?_ rfl ?_
  rotate_left
  ·go_simp
   try with_reducible rfl
  simp only [nz]
  refine pl_t 22 (.int .i64 nn) (by rfl) (pl_one rfl rfl c0 Tryz.underlying3 rfl) rfl ?_
  simp only [nz]
  refine pl_t 23 (.bool true) (by rfl) (by go_simp <;> (try simp [*])) rfl ?_
  simp only [nz]
  refine pl_t 24 (?_) (by rfl) ?_ rfl ?_
  rotate_left
  ·go_simp
   try with_reducible rfl
  simp only [nz]
  refine pl_t 14 (?_) (by rfl) ?_ rfl ?_
  rotate_left
  ·go_simp
   try with_reducible rfl
  simp only [nz]
  refine pl_nil ?_
  clear k0 k1 hd c0
  go_wp2_with fail
  go_ret
  exact ⟨rfl, HB.out⟩
set_option maxRecDepth 100000 in
set_option maxHeartbeats 2000000 in
theorem ntake_out (B K : Nat) (P : Nd) (s : Nt) (i : Int) (w : World) (h : NetAt w B K P s 0) (hn : 0 < s.nodes) (hi : i < 0 ∨ (s.way.length : Int) ≤ i) : Calls Tryz.prog 15 #[.pointer (some ⟨P.p, 0, none⟩), .int .i64 i] w fun e w' => e = .returned (.tuple #[.agg infoPk0.toArray, .int .i64 260]) ∧ Below w.heap.size w w' := by
 have cl0 := fun w0 (hb : Below w.heap.size w w0) => nlook_out B K P s 0 i w0 (h.below hb) hn hi
 obtain ⟨z, hzl, hz1, hzr, hzb, hze⟩ : ∃ z : List Value, z.length = 19 ∧ (∀ v ∈ z, v.oneCell' = true) ∧ (∀ w : World, (zeroValue 44).run Tryz.prog w = .ok (.agg z.toArray) w) ∧ (∀ w : World, (Instr.build 44 #[]).run Tryz.prog w = .ok (.agg z.toArray) w) ∧ Hid (infoPk0 = z) := ⟨infoPk0, pk0_len, pk0_one, zeroPk, buildPk0, hide rfl⟩
 rw [hze.out]
 simp only [hze.out] at cl0
 have iz : (Tryz.prog.info? 44).map (·.size) = some z.length := by rw [hzl]; exact isz_pk
 obtain ⟨hBk, rX, sX⟩ := boxed_new w z 44
 have tX := there_newN w z.toArray 44 (n := 19) (by simp [hzl])
 have cm := cl0 (w.alloc (.cells z.toArray 44)) hBk
 obtain ⟨W, hW⟩ : ∃ W, Hid (w.alloc (.cells z.toArray 44) = W) := ⟨_, hide rfl⟩
 rw [hW.out] at hBk rX sX tX cm
 clear h hn hi cl0 hze
 go_enter Tryz.func15, Tryz.ntmps15
 go_upto_region 0 with fail
 try simp only [Act.put]
 refine pl_begin ?_
 refine pl_run (d := some 4) (v := .pointer (some ⟨w.heap.size, 0, none⟩)) (w' := w.alloc (.cells z.toArray 44)) (by rfl) (ex_alloc rfl (hzr _)) rfl ?_
 simp only [nz]
 rw [hW.out]
 refine pl_t 5 (?_) (by rfl) ?_ rfl ?_
 rotate_left
 ·go_simp
  try with_reducible rfl
 simp only [nz]
 refine pl_nil ?_
 clear hW
 go_upto_region 1 with fail
 try simp only [Act.put]
 refine pl_begin ?_
 refine pl_t 9 (?_) (by rfl) ?_ rfl ?_
 rotate_left
 ·go_simp
  try with_reducible rfl
 simp only [nz]
 refine pl_t 10 (?_) (by rfl) ?_ rfl ?_
 rotate_left
 ·go_simp
  try with_reducible rfl
 simp only [nz]
 refine pl_call (d := some 11) (by rfl) (by go_simp; first | done | exact ⟨rfl, rfl⟩ | with_reducible rfl) rfl ?_
 refine (cm).mono ?_
 rintro _ w1 ⟨rfl, hb1⟩
 refine ⟨_, rfl, ?_⟩
 simp only [nz]
 refine pl_t 8 (?_) (by rfl) ?_ rfl ?_
 rotate_left
 ·go_simp
  try with_reducible rfl
 simp only [nz]
 refine pl_t 12 (?_) (by rfl) ?_ rfl ?_
 rotate_left
 ·go_simp
  try with_reducible rfl
 simp only [nz]
 refine pl_t 13 (?_) (by rfl) ?_ rfl ?_
 rotate_left
 ·go_simp
  try with_reducible rfl
 simp only [nz]
 refine pl_run (d := some 6) (v := .pointer (some ⟨w1.heap.size, 0, none⟩)) (w' := w1.alloc (.cells z.toArray 44)) (by rfl) (ex_alloc rfl (hzr _)) rfl ?_
 simp only [nz]
 refine pl_store (w' := (w1.alloc (.cells z.toArray 44)).setCells w1.heap.size 0 z) (by rfl) (ex_put (cs := z.toArray) rfl rfl rfl (there_newN _ _ _ (by simp [hzl])) (by simpa using iz) (all_one hz1)) rfl ?_
 refine pl_t 7 (?_) (by rfl) ?_ rfl ?_
 rotate_left
 ·go_simp
  try with_reducible rfl
 simp only [nz]
 refine pl_nil ?_
 obtain ⟨rY, hF, hF3, -⟩ := fresh_store w1 z.toArray 44 z (by simp [hzl])
 have tX := there_below (there_below tX hb1 sX) hF (Nat.lt_of_lt_of_le sX hb1.size)
 have hB := (hBk.trans (hb1.mono hBk.size)).trans (hF.mono (Nat.le_trans hBk.size hb1.size))
 obtain ⟨D, hD⟩ : ∃ D, w1.heap.size = D := ⟨_, rfl⟩
 rw [hD] at tX hB
 simp only [hD]
 obtain ⟨V, hV⟩ : ∃ V, (w1.alloc (.cells z.toArray 44)).setCells D 0 z = V := ⟨_, rfl⟩
 rw [hV] at tX hB ⊢
 clear hV hD hF hF3 rY hb1 cm hBk rX sX hzr
 go_upto_region 3 with fail
 try simp only [Act.put]
 refine pl_begin ?_
 refine pl_t 16 (.agg z.toArray) (by rfl) (ex_build (parts := []) (vs := []) rfl rfl (hzb _)) rfl ?_
 simp only [nz]
 refine pl_t 17 (?_) (by rfl) ?_ rfl ?_
 rotate_left
 ·go_simp
  try with_reducible rfl
 simp only [nz]
 refine pl_store (w' := V.setCells w.heap.size 0 z) (by rfl) (ex_put (cs := z.toArray) rfl rfl rfl (by simpa [hzl] using tX) (by simpa using iz) (all_one hz1)) rfl ?_
 refine pl_t 5 (?_) (by rfl) ?_ rfl ?_
 rotate_left
 ·go_simp
  try with_reducible rfl
 simp only [nz]
 refine pl_nil ?_
 have hrs := run_loadVar_mid (P := Tryz.prog) (V.setCells w.heap.size 0 z) w.heap.size 0 44 z _ (World.rangeAt_setCells_same V w.heap.size 0 z (by rw [hzl]; exact tX)) Tryz.underlying44 rfl iz
 have HF : Hid (Below w.heap.size w (V.setCells w.heap.size 0 z)) := hide (below_sets (Nat.le_refl _) _ _ _ hB)
 clear tX hB
 go_wp2_with fail
 refine bodyPost_ret (results_ct rfl _ _ _ rfl hrs) rfl ?_
 exact ⟨rfl, HF.out⟩
theorem nsend_all (B K k : Nat) (P : Nd) (s : Nt) (dt : Int) (x : Ev) (w : World) (h : NetAt w B K P s 0) (hi : Inv s k) (hk : k ≤ 1000) (hK : K ≤ 700000 * k) (hx : x.ok) (hxs : x.s.size ≤ 40000) (d0 : -9223372036854775808 ≤ dt) (d1 : dt ≤ 9223372036854775807) : Calls Tryz.prog 13 #[.pointer (some ⟨P.p, 0, none⟩), .int .i64 dt, .agg x.cells.toArray] w fun e w' => e = .returned (.int .i64 (sendS s dt x).2) ∧ Off P.own w w' ∧ ∃ (P' : Nd) (K' : Nat), P'.p = P.p ∧ K' ≤ 700000 * (k + 1) ∧ NetAt w' B K' P' (sendS s dt x).1 0 ∧ ∀ b, P'.own b → P.own b ∨ w.heap.size ≤ b := by
 have s1 := hi.s1
 have wl := hi.wl
 unfold sendS
 split
 ·rename_i hd
  refine (nsend_bad B K P s dt x.cells w h hi.n0 hd).mono ?_
  rintro e w' ⟨rfl, hb⟩
  exact ⟨rfl, Off.of_below hb, P, K, rfl, by omega, h.below hb, fun b q => .inl q⟩
 ·rename_i hd
  have hP : (⟨dt, x⟩ : Pk).ok := ⟨d0, d1, hx⟩
  have t0 : 0 ≤ dt := by omega
  have t1 : dt < s.nodes := by omega
  split
  ·rename_i hm
   refine (nsend_dup B K P s dt x w h hi.n0 hx t0 t1 hP (by rw [hi.on]; exact hm)).mono ?_
   rintro e w' ⟨rfl, hN, hO⟩
   exact ⟨rfl, hO, P, K, rfl, by omega, hN, fun b q => .inl q⟩
  ·rename_i hm
   split
   ·omega
   ·split
    ·rename_i hp
     refine (nsend_old B K P s dt x w h hi.n0 hx t0 t1 hP (by rw [hi.on]; exact hm) (by rw [hi.th]; exact hp) (by omega) (by omega) hi.s0 (by omega)).mono ?_
     rintro e w' ⟨rfl, hO, P', hp', hN, hG⟩
     exact ⟨rfl, hO, P', K + 1, hp', by omega, hN, hG⟩
    ·rename_i hp
     have hcl := claimsC_len s.nodes x.s
     refine (nsend_new B K P s dt x w h hi.n0 hx t0 t1 hP (by rw [hi.on]; exact hm) (by rw [hi.th]; exact hp) (by omega) (by omega) (by have := hi.pl; omega) hxs hi.s0 (by omega)).mono ?_
     rintro e w' ⟨rfl, hO, P', hp', hN, hG⟩
     exact ⟨rfl, hO, P', _, hp', by omega, hN, hG⟩
theorem ntake_all (B K k : Nat) (P : Nd) (s : Nt) (i : Int) (w : World) (h : NetAt w B K P s 0) (hi : Inv s k) (hk : k ≤ 1000) : Calls Tryz.prog 15 #[.pointer (some ⟨P.p, 0, none⟩), .int .i64 i] w fun e w' => e = .returned (takeV (takeS s i).2) ∧ Off P.own w w' ∧ ∃ P' : Nd, P'.p = P.p ∧ NetAt w' B K P' (takeS s i).1 0 ∧ ∀ b, P'.own b → P.own b ∨ w.heap.size ≤ b := by
 unfold takeS
 split
 ·rename_i hr
  obtain ⟨j, rfl⟩ : ∃ j : Nat, i = (j : Int) := ⟨i.toNat, by omega⟩
  have hj : j < s.way.length := by omega
  have ht := hi.t1
  refine (ntake_in B K P s w h hi.n0 j hj hi.nd (fun y => by rw [hi.on]) hi.t0 (by omega)).mono ?_
  rintro e w' ⟨rfl, hO, v1, hN, hG⟩
  have e1 : ((j : Int)).toNat = j := by omega
  rw [e1, List.getElem?_eq_getElem hj]
  exact ⟨rfl, hO, ⟨P.p, v1, P.v6, P.m2, P.m3, P.m7⟩, rfl, hN, fun b hb => (own_v1 (P := P) (n := w.heap.size) (fun g hg => .inl (hG g hg)) b hb)⟩
 ·rename_i hr
  refine (ntake_out B K P s i w h hi.n0 (by omega)).mono ?_
  rintro e w' ⟨rfl, hb⟩
  exact ⟨rfl, Off.of_below hb, P, rfl, h.below hb, fun b q => .inl q⟩
open Go.ChangeShapes Go.WideShapes Go.ChangeAt Go.RowKit
theorem cells_some {w : World} {base n : Nat} {x : Addr} {cs : List Value} (h : w.cells? base x n = some cs) : cs.length = n ∧ ∀ j v, cs[j]? = some v → w.cell? (x.add j) = some v := by
 unfold World.cells? at h
 split at h
 ·have hl := Lib.mapM_length h
  refine ⟨by simpa using hl, fun j v hv => ?_⟩
  have hj : j < n := by
   have := (List.getElem?_eq_some_iff.1 hv).1
   have : cs.length = n := by simpa using hl
   omega
  obtain ⟨y, hy, hf⟩ := Lib.mapM_at h j j (by simp [hj])
  rw [hv] at hy
  exact hf.trans hy.symm
 ·cases h
theorem flat_getA {α : Type} {f : α → List Value} {k : Nat} (hk : 0 < k) (R : Nat → α) : ∀ (n : Nat), (∀ i, i < n → (f (R i)).length = k) → ∀ j, j < n * k → (((List.range n).map R).flatMap f)[j]? = (f (R (j / k)))[j % k]? := by
  intro n
  induction n with
  | zero => intro _ j hj; omega
  | succ n ih =>
    intro hR j hj
    have hl : (((List.range n).map R).flatMap f).length = n * k := by
      have := flat_len_k (f := f) (k := k) (ys := (List.range n).map R) (fun y hy => by
        obtain ⟨i, hi, rfl⟩ := List.mem_map.1 hy
        exact hR i (by have := List.mem_range.1 hi; omega))
      simpa using this
    rw [List.range_succ, List.map_append, List.flatMap_append]
    by_cases h : j < n * k
    · rw [List.getElem?_append_left (by omega), ih (fun i hi => hR i (by omega)) j h]
    · rw [List.getElem?_append_right (by omega), hl]
      have e0 : j = (j - n * k) + k * n := by rw [Nat.mul_comm k n]; omega
      have hlt : j - n * k < k := by rw [Nat.add_mul, Nat.one_mul] at hj; omega
      have e1 : j / k = n := by rw [e0, Nat.add_mul_div_left _ _ hk, Nat.div_eq_of_lt hlt]; omega
      have e2 : j % k = j - n * k := by
        have := congrArg (· % k) e0
        simp only [Nat.add_mul_mod_self_left] at this
        rw [this, Nat.mod_eq_of_lt hlt]
      rw [e1, e2]
      simp
set_option maxRecDepth 100000 in
theorem rows_of {α : Type} [Inhabited α] (f : α → List Value) (ok : α → Prop) (k : Nat) (hk : 0 < k) (tl te : TypeId) (hu : Tryz.prog.underlying tl = some (.slice te)) (hct : Tryz.prog.cellsOf te = k) (hf : ∀ y, ok y → (f y).length = k)
  {H : Type} {enc : TypeId × Value → H} {W : World} {b : Nat} {sp : Nat → Bool} {held : Bool} {fuel : Nat} {l : List Value} {x : DataW H × List MemPlace}
  (hel : ∀ (m : Nat) (l : List Value) (z : DataW H × List MemPlace), DataW.trod enc Tryz.prog W b sp held m te l = some z → ∃ y, l = f y ∧ ok y)
  (h : DataW.trod enc Tryz.prog W b sp held fuel tl l = some x) : ∃ (a : Option Addr) (cap : Nat) (ys : List α), l = [.slice a ys.length cap] ∧ ys.length ≤ cap ∧ cap ≤ maxLen ∧ (∀ y ∈ ys, ok y) ∧ RowOf f W a ys := by
 rcases Deep.open_slice hu h with ⟨rfl, _⟩ | ⟨a, len, cap, m, n, D, Pl, rfl, hb, hlc, hcm, hm, _, hel2⟩
 ·exact ⟨none, 0, [], rfl, by simp, by simp, by simp, .inl rfl⟩
 ·rw [hct] at hel2
  have hml : len ≤ m := by rw [hm]; split <;> omega
  have key : ∀ i, i < len → ∃ y : α, W.cells? b (a.add (i * k)) k = some (f y) ∧ ok y := fun i hi => by
   obtain ⟨cs, h1, h2⟩ := hel2 i (by omega)
   obtain ⟨y, rfl, hy⟩ := hel _ _ _ h2
   exact ⟨y, h1, hy⟩
  obtain ⟨R, hR⟩ := Deep.choose_lt key
  refine ⟨some a, cap, (List.range len).map R, by simp, by simpa using hlc, hcm, ?_, ?_⟩
  ·intro y hy
   obtain ⟨i, hi, rfl⟩ := List.mem_map.1 hy
   exact (hR i (List.mem_range.1 hi)).2
  ·by_cases h0 : len = 0
   ·left; simp [h0]
   ·right
    obtain ⟨bb, off, spot⟩ := a
    have hlen0 := hf _ (hR 0 (by omega)).2
    have hc := (cells_some (hR 0 (by omega)).1).2 0 ((f (R 0))[0]'(by omega)) (List.getElem?_eq_getElem _)
    have hspot : spot = none := by simpa [Addr.add] using World.cell?_spot hc
    subst hspot
    refine ⟨bb, off, rfl, ?_, fun j v hv => ?_⟩
    ·have := World.block_lt_of_cell? W _ hc; simpa [Addr.add] using this
    ·have hj : j < len * k := by
      have := (List.getElem?_eq_some_iff.1 hv).1
      rw [flat_len_k (k := k)] at this
      ·simpa using this
      ·intro y hy
       obtain ⟨i, hi, rfl⟩ := List.mem_map.1 hy
       exact hf _ (hR i (List.mem_range.1 hi)).2
     rw [flat_getA hk R len (fun i hi => hf _ (hR i hi).2) j hj] at hv
     have hdm : j / k < len := (Nat.div_lt_iff_lt_mul hk).2 hj
     have := (cells_some (hR (j / k) hdm).1).2 _ _ hv
     rw [Addr.add_mid, Addr.add_mid] at this
     rw [← this]
     congr 2
     have := Nat.div_add_mod j k
     rw [Nat.mul_comm] at this
     omega
theorem ac_len {a : Ac} (h : a.ok) : a.cells.length = 20 := by
 have h1 : a.x.cells.length = 18 := EvE.len a.x h.x
 show (_ :: _ :: a.x.cells).length = 20
 rw [List.length_cons, List.length_cons, h1]
theorem ac_one (a : Ac) : ∀ v ∈ a.cells, v.oneCell' = true := fun v hv => by
 rcases List.mem_cons.1 hv with rfl | hv
 ·rfl
 ·rcases List.mem_cons.1 hv with rfl | hv
  ·rfl
  ·exact EvE.one a.x v hv
def AcE : El Ac where
 f := Ac.cells
 k := 20
 ok := Ac.ok
 len := fun _ h => ac_len h
 one := ac_one
instance : Inhabited Ac := ⟨⟨0, 0, ⟨0, ⟨#[]⟩, []⟩⟩⟩
set_option maxRecDepth 100000 in
theorem open_acts {H : Type} {enc : TypeId × Value → H} {W : World} {base b : Nat} {sp : Nat → Bool} {held : Bool} {fuel : Nat} {v : Value} {x : DataW H × List MemPlace} (hv : Value.okWide Tryz.prog W .any base 22 v)
  (h : DataW.trod enc Tryz.prog W b sp held fuel 22 v.cells.toList = some x) : ∃ y : Sl Ac, v = y.val ∧ y.At AcE W := by
 obtain ⟨a0, len, cap, rfl⟩ := okWide_slice Tryz.underlying22 hv
 obtain ⟨a, cap', ys, h1, h2, h3, h4, h5⟩ := rows_of AcE.f AcE.ok 20 (by decide) 22 34 Tryz.underlying22 (by kernel_rfl) AcE.len (fun m l z hz => act_of hz) h
 simp [Value.cells] at h1
 obtain ⟨rfl, rfl, rfl⟩ := h1
 exact ⟨⟨a0, cap, ys⟩, rfl, Nat.le_trans h2 h3, h4, h5⟩
theorem zeroAct (w : World) : (zeroValue 34).run Tryz.prog w = .ok (.agg ([Value.int .i64 0, .int .i64 0, .int .i64 0, .string ⟨#[]⟩] ++ v8 (List.replicate 16 0)).toArray) w := by kernel_rfl
theorem isz_act : (Tryz.prog.info? 34).map (·.size) = some 20 := by kernel_rfl
set_option maxRecDepth 100000 in
set_option maxHeartbeats 8000000 in
theorem light26_any (y : Sl Ac) (w : World) (h : y.At AcE w) : Calls Tryz.prog 9 #[y.val] w fun e w' => ∃ b : Bool, e = .returned (.bool b) ∧ Below w.heap.size w w' ∧ (b = true → y.xs.length ≤ 100 ∧ ∀ a ∈ y.xs, a.x.s.size ≤ 2000) := by
 obtain ⟨ya, yc, xs⟩ := y
 obtain ⟨zu, hzu, hzl⟩ : ∃ z : List Value, (∀ w : World, (zeroValue 34).run Tryz.prog w = .ok (.agg z.toArray) w) ∧ z.length = 20 := ⟨_, zeroAct, rfl⟩
 obtain ⟨n, hyn⟩ : ∃ n, xs.length = n := ⟨_, rfl⟩
 have HY := hide h
 have HYn := hide hyn
 have HNm : Hid (n ≤ 9223372036854775807) := hide (by rw [← hyn]; exact h.1)
 simp only [Sl.val, hyn]
 clear h hyn
 have HB0 : Hid (Below w.heap.size w w ∧ ∀ i (hi : i < xs.length), i < 0 → (xs[i]).x.s.size ≤ 2000) := hide ⟨Below.refl _ _, fun i _ h0 => by omega⟩
 go_enter Tryz.func9, Tryz.ntmps9
 go_upto_region 1 with fail
 by_cases hl : n ≤ 100
 rotate_left
 ·have h2 : (100 : Int) < n := by omega
  try simp only [Act.put]
  refine pl_begin ?_
  refine pl_t 5 (?_) (by rfl) ?_ rfl ?_
  rotate_left
  ·go_simp
   try with_reducible rfl
  simp only [nz]
  refine pl_t 6 (?_) (by rfl) ?_ rfl ?_
  rotate_left
  ·go_simp
   try with_reducible rfl
  simp only [nz]
  refine pl_t 7 (.bool true) (by rfl) (by go_simp <;> (try simp [*])) rfl ?_
  simp only [nz]
  refine pl_nil ?_
  clear h2 hl HB0
  go_wp2_with fail
  go_ret
  exact ⟨false, rfl, Below.refl _ _, fun q => by cases q⟩
 have h2 : ¬ (100 : Int) < n := by omega
 have HL := hide hl
 try simp only [Act.put]
 refine pl_begin ?_
 refine pl_t 5 (?_) (by rfl) ?_ rfl ?_
 rotate_left
 ·go_simp
  try with_reducible rfl
 simp only [nz]
 refine pl_t 6 (?_) (by rfl) ?_ rfl ?_
 rotate_left
 ·go_simp
  try with_reducible rfl
 simp only [nz]
 refine pl_t 7 (.bool false) (by rfl) (by go_simp <;> (try simp [*])) rfl ?_
 simp only [nz]
 refine pl_nil ?_
 clear h2 hl
 go_wp2_with fail
 go_loopw [10] (fun iv wr => ∃ k : Nat, k ≤ n ∧ iv = .int .i64 (k : Int) ∧ Hid (Below w.heap.size w wr ∧ ∀ i (hi : i < xs.length), i < k → (xs[i]).x.s.size ≤ 2000)) (fun iv _ => n - (intOf iv).toNat)
 case atStart => exact ⟨0, by omega, rfl, HB0⟩
 case round =>
  clear HB0
  obtain ⟨k, hk, rfl, HK⟩ := hrel
  by_cases hlt : k < n
  ·have k1 : (k : Int) < n := by omega
   have hn9 : n ≤ 9223372036854775807 := HNm.out
   have hkx : k < xs.length := by rw [HYn.out]; exact hlt
   obtain ⟨b, off, hab0, hbw, hre0⟩ := HY.out.elem k hkx
   have hab : ya = some ⟨b, off, none⟩ := hab0
   have okx : Ac.ok xs[k] := HY.out.2.1 _ (List.getElem_mem hkx)
   have hre : wr.rangeAt b (off + k * 20) (xs[k]).cells := range_below hre0 HK.out.1 hbw
   have hul := ac_len okx
   have hu1 := ac_one xs[k]
   have e3 : (xs[k]).cells[3]? = some (.string (xs[k]).x.s) := rfl
   obtain ⟨sx, hsx⟩ : ∃ s, Hid ((xs[k]).x.s = s) := ⟨_, hide rfl⟩
   rw [hsx.out] at e3
   obtain ⟨u, hu⟩ : ∃ u, Hid ((xs[k]).cells = u) := ⟨_, hide rfl⟩
   rw [hu.out] at hre hul hu1 e3
   obtain ⟨zs, hzs⟩ : ∃ z, sx.size = z := ⟨_, rfl⟩
   have iu : (Tryz.prog.info? 34).map (·.size) = some u.length := by rw [hul]; exact isz_act
   subst hab
   clear hu okx hab0 hre0
   go_upto_region 5 with fail
   try simp only [Act.put]
   refine pl_begin ?_
   refine pl_t 12 (.pointer (some ⟨b, off + k * 20, none⟩)) (by rfl) (by go_simp <;> (try simp [*])) rfl ?_
   simp only [nz]
   refine pl_t 13 (.agg u.toArray) (by rfl) (ex_mid rfl rfl hre Tryz.underlying34 rfl iu) rfl ?_
   simp only [nz]
   refine pl_run (d := some 4) (v := .pointer (some ⟨wr.heap.size, 0, none⟩)) (w' := wr.alloc (.cells zu.toArray 34)) (by rfl) (ex_alloc rfl (hzu _)) rfl ?_
   simp only [nz]
   refine pl_store (w' := (wr.alloc (.cells zu.toArray 34)).setCells wr.heap.size 0 u) (by rfl) (ex_put (cs := u.toArray) rfl rfl rfl (there_newN _ _ _ (by simp [hzl, hul])) (by simpa using iu) (all_one hu1)) rfl ?_
   refine pl_nil ?_
   obtain ⟨rU, hF, hF3, -⟩ := fresh_store wr zu.toArray 34 u (by simp [hzl, hul])
   have HB5 := hide (HK.out.1.trans (hF.mono HK.out.1.size))
   have HS := hide HK.out.2
   obtain ⟨D, hD⟩ : ∃ D, wr.heap.size = D := ⟨_, rfl⟩
   rw [hD] at rU HB5
   simp only [hD]
   obtain ⟨w5, hw5⟩ : ∃ W, (wr.alloc (.cells zu.toArray 34)).setCells D 0 u = W := ⟨_, rfl⟩
   rw [hw5] at rU HB5 ⊢
   have c3 : w5.cell? ⟨D, 3, none⟩ = some (.string sx) := rU 3 _ e3
   clear hw5 hD hF hF3 HK hre hzu rU e3
   go_upto_region 6 with fail
   by_cases hz : zs ≤ 2000
   rotate_left
   ·have h2 : (2000 : Int) < zs := by omega
    try simp only [Act.put]
    refine pl_begin ?_
    refine pl_t 14 (.pointer (some ⟨D, 2, none⟩)) (by rfl) (by go_simp) rfl ?_
    simp only [nz]
    refine pl_t 15 (.pointer (some ⟨D, 3, none⟩)) (by rfl) (by go_simp) rfl ?_
    simp only [nz]
    refine pl_t 16 (.string sx) (by rfl) (pl_one rfl rfl c3 Tryz.underlying9 rfl) rfl ?_
    simp only [nz]
    refine pl_t 17 (.int .i64 (zs : Int)) (by rfl) (by go_simp <;> (try simp [hzs])) rfl ?_
    simp only [nz]
    refine pl_t 18 (.bool true) (by rfl) (by go_simp <;> (try simp [*])) rfl ?_
    simp only [nz]
    refine pl_nil ?_
    clear h2 hz hzs c3
    go_wp2_with fail
    go_ret
    exact ⟨false, rfl, HB5.out, fun q => by cases q⟩
   ·have h2 : ¬ (2000 : Int) < zs := by omega
    try simp only [Act.put]
    refine pl_begin ?_
    refine pl_t 14 (.pointer (some ⟨D, 2, none⟩)) (by rfl) (by go_simp) rfl ?_
    simp only [nz]
    refine pl_t 15 (.pointer (some ⟨D, 3, none⟩)) (by rfl) (by go_simp) rfl ?_
    simp only [nz]
    refine pl_t 16 (.string sx) (by rfl) (pl_one rfl rfl c3 Tryz.underlying9 rfl) rfl ?_
    simp only [nz]
    refine pl_t 17 (.int .i64 (zs : Int)) (by rfl) (by go_simp <;> (try simp [hzs])) rfl ?_
    simp only [nz]
    refine pl_t 18 (.bool false) (by rfl) (by go_simp <;> (try simp [*])) rfl ?_
    simp only [nz]
    refine pl_nil ?_
    have HK6 : Hid (Below w.heap.size w w5 ∧ ∀ i (hi : i < xs.length), i < k + 1 → (xs[i]).x.s.size ≤ 2000) := hide ⟨HB5.out, fun i hi h => by
     by_cases e : i < k
     ·exact HS.out i hi e
     ·obtain rfl : i = k := by omega
      rw [hsx.out, hzs]; exact hz⟩
    clear h2 hz hzs c3 HS
    go_wp2_with fail
    go_roundw
    case rel => exact ⟨k + 1, by omega, by go_num, HK6⟩
    case measure => simp [intOf]; omega
  ·obtain rfl : k = n := by omega
   have HF := hide HK.out.1
   have HS : Hid (xs.length ≤ 100 ∧ ∀ a ∈ xs, a.x.s.size ≤ 2000) := hide ⟨by rw [HYn.out]; exact HL.out, fun a ha => by
    obtain ⟨i, hi, rfl⟩ := List.mem_iff_getElem.1 ha
    exact HK.out.2 i hi (by rw [← HYn.out]; exact hi)⟩
   clear HK
   go_wp2_with fail
   go_ret
   exact ⟨true, rfl, HF.out, fun _ => ⟨HL.out, HS.out.2⟩⟩
theorem inv0 (n : Int) (h : 0 < n) : Inv ⟨n, [], [], [], [], [], 0, 0⟩ 0 := ⟨List.nodup_nil, rfl, rfl, by simp, by simp, Int.le_refl 0, by simp, Int.le_refl 0, by simp, h⟩
end Go.Proofs.YtilbjeeabecfjaaGreat
