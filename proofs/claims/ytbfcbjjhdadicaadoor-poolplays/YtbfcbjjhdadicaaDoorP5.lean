/- pool.Add -/
import Derived.Test.YtbfcbjjhdadicaaDoorP4
import Derived.Test.YtbfcbjjhdadicaaDoorPX
import Derived.BigQuiet
import Derived.WalkSmall
namespace Go.Proofs.YtbfcbjjhdadicaaDoor
open Go.RowKit
open Sha Tal
theorem Glob.off {F : Nat → Prop} {w w' : World} (h : Glob w) (k : Off F w w') (h0 : ¬ F 0) (h1 : ¬ F 1) : Glob w' :=
  ⟨range_at h.1 (k.2 0 (by have := h.2.2; omega) h0), range_at h.2.1 (k.2 1 (by have := h.2.2; omega) h1), Nat.le_trans h.2.2 k.size⟩
def addE (room : Nat) (ls : List (List Rq)) (r : Rq) : Int :=
  if r.c < 0 ∨ r.n < 0 then 2 else if pk r ∈ flatP ls then 101 else if room ≤ (ls.getD (bkt ls.length r) []).length then 100 else 0
def addL (room : Nat) (ls : List (List Rq)) (r : Rq) : List (List Rq) :=
  if addE room ls r = 0 then ls.set (bkt ls.length r) (ls.getD (bkt ls.length r) [] ++ [r]) else ls
theorem bkt_lt {k : Nat} (r : Rq) (hk : 0 < k) : bkt k r < k ∧ ((bkt k r : Nat) : Int) = bucketV r.c r.n (k : Int) := by
  have h := bucketV_range r.c r.n (k : Int)
  unfold bkt
  rcases h.2 with h1 | h1 <;> omega
theorem flat_perm {ls : List (List Rq)} {i : Nat} {l : List Rq} (hl : ls[i]? = some l) (r : Rq) : (pk r :: flatP ls).Perm (flatP (ls.set i (l ++ [r]))) := by
  induction ls generalizing i with
  | nil => simp at hl
  | cons a ls ih =>
    cases i with
    | zero =>
      simp only [List.getElem?_cons_zero, Option.some.injEq] at hl
      subst hl
      simp only [flatP, List.set_cons_zero, List.flatten_cons, List.map_append, List.append_assoc, List.map_cons, List.cons_append, List.nil_append]
      exact List.perm_middle.symm
    | succ i =>
      simp only [List.getElem?_cons_succ] at hl
      have := ih hl
      simp only [flatP, List.set_cons_succ, List.flatten_cons, List.map_append] at this ⊢
      exact List.perm_middle.symm.trans (List.Perm.append_left _ this)
theorem exec_storeP {P : Program} {o : Oper} {a : Act} {w w' : World} {ty : TypeId} {x y : Operand} {ad : Addr} {v : Value} (ho : o.op = .store ty x y) (hx : a.eval x = .pointer (some ad)) (hy : a.eval y = v) (hr : (storeVar ty ad v).run P w = .ok () w') : (execOp a.eval o).run P w = .ok .skip w' := by
  unfold execOp
  simp [ho, hx, hy, Instr.storeAt, Instr.sureAddr, hr]
theorem iszV : (Tryd.prog.info? 43).map (·.size) = some 1 := by kernel_rfl
theorem load_one {P : Program} (w : World) {b o : Nat} {ty : TypeId} {v : Value} {d : TypeDesc} (hc : w.cell? ⟨b, o, none⟩ = some v) (hu : P.underlying ty = some d) (hd : d.isRow = false) : (loadVar ty ⟨b, o, none⟩).run P w = .ok v w := by
  simp only [loadVar, isAgg, run_underlying hu, Sem.run_bind, Result.andThen_ok]
  cases d <;> first | (simp [TypeDesc.isRow] at hd; done) | simp [go_sem, hc]
theorem add_fin {w w9 wD wF : World} {P : Pl} {room : Nat} {ls : List (List Rq)} {i : Nat} {v v' : Value} {l : List Rq} {r : Rq} {u : List Value} (h : PoolAt w P room ls) (hv : P.vs[i]? = some v) (hl : ls[i]? = some l) (hB9 : Below w.heap.size w w9) (hgr : w9.grownBy wD v.ownBlock)
    (hown : wD.ownsRow 0 35 19 v' (l.length + 1) (flatR l ++ u)) (hu : r.cells = u) (hap : ∀ g, v'.ownBlock = some g → v.ownBlock = some g ∨ w9.heap.size ≤ g) (hF : Off (fun b => b = P.m) (wD.setCell ⟨P.o, i, none⟩ v') wF)
    (hp : PairsAt wF P.m (if (r.c, r.n) ∈ flatP ls then flatP ls else (r.c, r.n) :: flatP ls)) (hm : ¬ pk r ∈ flatP ls) (hok : r.ok) (hfew : l.length < room) (hbk : bkt ls.length r = i ∧ 0 ≤ r.c ∧ 0 ≤ r.n) :
    ∃ Q : Pl, Q.p = P.p ∧ PoolAt wF Q room (ls.set i (l ++ [r])) ∧ Off P.own w wF ∧ ∀ b, Q.own b → P.own b ∨ w.heap.size ≤ b := by
  have hvm : v ∈ P.vs := List.mem_of_getElem? hv
  have old : ∀ b, P.own b → b < w.heap.size := fun b hb => h.R.own_lt hb
  have oo : P.own P.o := .inr (.inl rfl)
  have ov : ∀ g, v.ownBlock = some g → P.own g := fun g hg => .inr (.inr (.inr ⟨v, hvm, hg⟩))
  have hap' : ∀ g, v'.ownBlock = some g → v.ownBlock = some g ∨ w.heap.size ≤ g := fun g hg => by
    rcases hap g hg with h1 | h1
    · exact .inl h1
    · right; have := hB9.size; omega
  have hD : Off (fun b => v.ownBlock = some b ∨ b = P.o ∨ b = P.m) w wD := (Off.of_below hB9).trans (Off.of_grown hgr (fun k hk => hk)) (fun b _ hb => .inl hb)
  have hG : Off (fun b => v.ownBlock = some b ∨ b = P.o ∨ b = P.m) w (wD.setCell ⟨P.o, i, none⟩ v') := hD.trans (Off.of_setCell (F := fun b => b = P.o) wD _ _ rfl) (fun b _ hb => .inr (.inl hb))
  have hT : Off (fun b => v.ownBlock = some b ∨ b = P.o ∨ b = P.m) w wF := hG.trans hF (fun b _ hb => .inr (.inr hb))
  have sD : w.heap.size ≤ wD.heap.size := hD.size
  have hoD : wD.heap[P.o]? = w.heap[P.o]? := (hgr.block _ (Nat.lt_of_lt_of_le (old _ oo) hB9.size) (fun e => (h.R.vp v hvm _ e.symm).2.1 rfl)).trans (hB9.block _ (old _ oo))
  have hoF : wF.heap[P.o]? = (wD.setCell ⟨P.o, i, none⟩ v').heap[P.o]? := hF.2 _ (by have := old _ oo; simp only [World.setCell, Array.size_modify]; omega) h.R.om
  have hil : i < ls.length := (List.getElem?_eq_some_iff.1 hl).1
  refine ⟨P.set i v', rfl, ⟨RowsAt.put h.R hv (fun b hb h1 h2 h3 => hT.2 b (old b hb) (fun q => by rcases q with q | q | q; exact h3 q; exact h1 q; exact h2 q)) (Nat.lt_of_lt_of_le h.R.ml hT.size) ?_ ?_ ?_ hap' ?_ ?_ ?_, ?_, ?_⟩, hT.mono (fun b _ hb => by rcases hb with q | q | q; exact ov b q; exact .inr (.inl q); exact .inr (.inr (.inl q))), own_put hv hap'⟩
  · refine range_at ?_ hoF
    have := range_set (range_at h.R.oc hoD) i v'
    rwa [Nat.zero_add] at this
  · exact there_at (there_set (there_at h.R.ot hoD) _ _) hoF
  · have e1 : (l ++ [r]).length = l.length + 1 := by simp
    have e2 : flatR (l ++ [r]) = flatR l ++ u := by rw [flatR_append, ← hu]; simp [flatR]
    rw [e1, e2]
    refine owns_at hown (fun g hg => ?_)
    have hgD : g < wD.heap.size := owns_lt hown hg
    have hne : g ≠ P.o ∧ g ≠ P.m := by
      rcases hap' g hg with h1 | h1
      · exact (h.R.vp v hvm g h1).2
      · have l2 := old P.o oo
        have l3 := h.R.ml
        exact ⟨by omega, by omega⟩
    rw [hF.2 g (by simp only [World.setCell, Array.size_modify]; exact hgD) hne.2]
    exact Below.heap_setCell _ _ _ _ hne.1
  · intro x hx
    rcases List.mem_append.1 hx with h1 | h1
    · exact h.R.rok l (List.mem_of_getElem? hl) x h1
    · rw [List.mem_singleton.1 h1]; exact hok
  · simp; omega
  · intro x hx
    rcases List.mem_append.1 hx with h1 | h1
    · exact h.R.bk i l hl x h1
    · rw [List.mem_singleton.1 h1]; exact hbk
  · rw [if_neg (show ¬ (r.c, r.n) ∈ flatP ls from hm)] at hp
    exact hp.perm (flat_perm hl r)
  · exact (flat_perm hl r).nodup_iff.1 (List.nodup_cons.2 ⟨hm, h.nd⟩)
set_option maxRecDepth 100000 in
set_option maxHeartbeats 4000000 in
theorem padd_any (P : Pl) (room : Nat) (ls : List (List Rq)) (r : Rq) (w : World) (h : PoolAt w P room ls) (hr : r.ok) (hG : Glob w) :
    Calls Tryd.prog 19 #[ptr P, .agg r.cells.toArray] w fun e w' => e = .returned (.int .i64 (addE room ls r)) ∧ ∃ Q : Pl, Q.p = P.p ∧ PoolAt w' Q room (addL room ls r) ∧ Off P.own w w' ∧ ∀ b, Q.own b → P.own b ∨ w.heap.size ≤ b := by
  have hB1 : Below w.heap.size w (w.alloc (.cells r.cells.toArray 35)) := (Below.refl _ _).alloc (Nat.le_refl _) _
  have hR1 : (w.alloc (.cells r.cells.toArray 35)).rangeAt w.heap.size 0 r.cells := by simpa using range_new w r.cells.toArray 35
  obtain ⟨W1, hW1⟩ : ∃ W1, w.alloc (.cells r.cells.toArray 35) = W1 := ⟨_, rfl⟩
  rw [hW1] at hB1 hR1
  have hXW : w.heap.size < W1.heap.size := by rw [← hW1]; simp
  have hiu := hr.isz
  have hul := hr.length
  have hu1 := r.one
  obtain ⟨d0, d1, -⟩ := reqL_0 hR1
  have cpo := pairOf_any r
  obtain ⟨u, hu⟩ : ∃ u, Hid (r.cells = u) := ⟨_, hide rfl⟩
  simp only [hu.out] at cpo
  rw [hu.out] at hR1 hiu hul hu1 hW1 ⊢
  have cm := made_any P room ls W1 (h.R.below hB1)
  have hI : I64 r.c ∧ I64 r.n := ⟨⟨hr.cl, hr.ch⟩, ⟨hr.nl, hr.nh⟩⟩
  have chs := fun w0 (h0 : PairsAt w0 P.m (flatP ls)) => has_any P.m (flatP ls) r.c r.n hI.1 hI.2 w0 h0
  have HE : Hid (addE room ls r = if r.c < 0 ∨ r.n < 0 then 2 else if pk r ∈ flatP ls then 101 else if room ≤ (ls.getD (bkt ls.length r) []).length then 100 else 0) := hide rfl
  unfold ptr at cm ⊢
  have stay : ∀ w', Below w.heap.size w w' → ∃ Q : Pl, Q.p = P.p ∧ PoolAt w' Q room ls ∧ Off P.own w w' ∧ ∀ b, Q.own b → P.own b ∨ w.heap.size ≤ b := fun w' hb => ⟨P, rfl, h.below hb, Off.of_below hb, fun b hb => .inl hb⟩
  by_cases hc : r.c < 0
  · have HA : Hid (addE room ls r = 2) := hide (by rw [HE.out, if_pos (.inl hc)])
    have HL : Hid (addL room ls r = ls) := hide (by unfold addL; rw [HA.out]; rfl)
    rw [HA.out, HL.out]
    clear HE HA HL chs cpo hR1 hI
    go_enter Tryd.func19, Tryd.ntmps19
    go_wp2_with fail
    refine cm.mono ?_
    rintro e w' ⟨rfl, hw⟩
    obtain rfl := hw.symm
    clear cm
    go_wp2_with fail
    go_ret
    exact ⟨rfl, stay _ hB1⟩
  by_cases hn : r.n < 0
  · have HA : Hid (addE room ls r = 2) := hide (by rw [HE.out, if_pos (.inr hn)])
    have HL : Hid (addL room ls r = ls) := hide (by unfold addL; rw [HA.out]; rfl)
    rw [HA.out, HL.out]
    clear HE HA HL chs cpo hR1 hI
    go_enter Tryd.func19, Tryd.ntmps19
    go_wp2_with fail
    refine cm.mono ?_
    rintro e w' ⟨rfl, hw⟩
    obtain rfl := hw.symm
    clear cm
    go_wp2_with fail
    go_ret
    exact ⟨rfl, stay _ hB1⟩
  rw [if_neg (by omega)] at HE
  by_cases hm : pk r ∈ flatP ls
  · have HA : Hid (addE room ls r = 101) := hide (by rw [HE.out, if_pos hm])
    have HL : Hid (addL room ls r = ls) := hide (by unfold addL; rw [HA.out]; rfl)
    rw [HA.out, HL.out]
    have hd : decide ((r.c, r.n) ∈ flatP ls) = true := decide_eq_true hm
    simp only [hd] at chs
    clear HE HA HL hI hd hm
    go_enter Tryd.func19, Tryd.ntmps19
    go_wp2_with fail
    refine cm.mono ?_
    rintro e w' ⟨rfl, hw⟩
    obtain rfl := hw.symm
    clear cm
    go_upto_region 5 with fail
    obtain ⟨w5, hw5⟩ : ∃ w5, W1.drew = w5 := ⟨_, rfl⟩
    have hB5 : Below w.heap.size w w5 := by rw [← hw5]; exact hB1.drew
    have hX5 : w.heap.size < w5.heap.size := by rw [← hw5]; exact hXW
    have hR5 : w5.rangeAt w.heap.size 0 u := by rw [← hw5]; exact (World.rangeAt_drew _ _ _ _).2 hR1
    have kx : ∀ w', Below w5.heap.size w5 w' → w'.rangeAt w.heap.size 0 u := fun w' hw' => range_below hR5 hw' hX5
    have P5 := h.R.below hB5
    have k2 : ∀ w', Below w5.heap.size w5 w' → w'.cell? ⟨P.p, 2, none⟩ = some (.map (some P.m)) := fun w' hw' => (P5.below hw').c2
    refine hs_begin (S := (Below w5.heap.size w5)) 8 rfl (by kernel_rfl) ?_
    rw [hw5]
    clear hw5
    have hS : (Below w5.heap.size w5) w5 := Below.refl _ _
    refine hs_take (i := 0) (d := some 20) (v := ?_) rfl (by kernel_rfl) (by kernel_rfl) (by kernel_rfl) (by rfl) ?_ hS rfl ?_
    rotate_left
    · intro w' hw
      go_simp
      try with_reducible rfl
    simp only [Act.put, List.setIfInBounds_toArray, List.set_cons_zero, List.set_cons_succ]
    refine hs_take (i := 1) (d := some 21) (v := ?_) rfl (by kernel_rfl) (by kernel_rfl) (by kernel_rfl) (by rfl) ?_ hS rfl ?_
    rotate_left
    · intro w' hw
      go_simp
      try with_reducible rfl
    simp only [Act.put, List.setIfInBounds_toArray, List.set_cons_zero, List.set_cons_succ]
    refine hs_take (i := 2) (d := some 22) (v := ?_) rfl (by kernel_rfl) (by kernel_rfl) (by kernel_rfl) (by rfl) ?_ hS rfl ?_
    rotate_left
    · intro w' hw
      go_simp
      try with_reducible rfl
    simp only [Act.put, List.setIfInBounds_toArray, List.set_cons_zero, List.set_cons_succ]
    refine hs_take (i := 3) (d := some 23) (v := ?_) rfl (by kernel_rfl) (by kernel_rfl) (by kernel_rfl) (by rfl) ?_ hS rfl ?_
    rotate_left
    · intro w' hw
      have hc := k2 w' hw
      go_simp
      try with_reducible rfl
    simp only [Act.put, List.setIfInBounds_toArray, List.set_cons_zero, List.set_cons_succ]
    refine hs_take (i := 4) (d := some 24) (v := .agg u.toArray) rfl (by kernel_rfl) (by kernel_rfl) (by kernel_rfl) (by rfl) (fun w' hw => exec_load rfl rfl (run_loadVar_mid (P := Tryd.prog) w' w.heap.size 0 35 u _ (kx w' hw) Tryd.underlying35 rfl hiu)) hS rfl ?_
    simp only [Act.put, List.setIfInBounds_toArray, List.set_cons_zero, List.set_cons_succ]
    refine hs_call (i := 5) (d := some 25) rfl (by kernel_rfl) (by rfl) (by go_simp; first | done | exact ⟨rfl, rfl⟩ | with_reducible rfl) rfl ?_
    refine (cpo w5).mono ?_
    rintro e' wA ⟨rfl, hbA⟩
    have hS : (Below w5.heap.size w5) wA := hbA
    refine ⟨_, rfl, hS, ?_⟩
    simp only [Act.put, List.setIfInBounds_toArray, List.set_cons_zero, List.set_cons_succ]
    refine hs_call (i := 6) (d := some 26) rfl (by kernel_rfl) (by rfl) (by go_simp; first | done | exact ⟨rfl, rfl⟩ | with_reducible rfl) rfl ?_
    refine (chs wA (h.prs.below (hB5.trans (hbA.mono hB5.size)))).mono ?_
    rintro e' wB ⟨rfl, hbB⟩
    have hS : (Below w5.heap.size w5) wB := hbA.trans (hbB.mono hbA.size)
    refine ⟨_, rfl, hS, ?_⟩
    simp only [Act.put, List.setIfInBounds_toArray, List.set_cons_zero, List.set_cons_succ]
    have hbB' := hbA.trans (hbB.mono hbA.size)
    refine hs_take (i := 7) (d := some 19) (v := ?_) rfl (by kernel_rfl) (by kernel_rfl) (by kernel_rfl) (by rfl) ?_ hS rfl ?_
    rotate_left
    · intro w' hw
      go_simp
      try with_reducible rfl
    simp only [Act.put, List.setIfInBounds_toArray, List.set_cons_zero, List.set_cons_succ]
    refine hs_done (by kernel_rfl) ?_
    go_wp2_with fail
    go_ret
    exact ⟨rfl, stay _ (hB5.trans (hbB'.mono hB5.size))⟩
  rw [if_neg hm] at HE
  have hkl := bkt_lt r h.R.pos
  have cbk := fun w0 (hG0 : Glob w0) => bucket_any r.c r.n (ls.length : Int) w0 hG0 hr.ch hr.nh (by have := h.R.le; simp [Lit.wf, IntKind.min, IntKind.max, IntKind.signed, IntKind.bits]; omega)
  rw [← hkl.2] at cbk
  obtain ⟨i, hi⟩ : ∃ i, Hid (bkt ls.length r = i) := ⟨_, hide rfl⟩
  rw [hi.out] at HE hkl
  simp only [hi.out] at cbk
  have hil := hkl.1
  clear hkl
  obtain ⟨l, hl⟩ : ∃ l, ls[i]? = some l := ⟨ls[i], List.getElem?_eq_getElem hil⟩
  have hgl : ls.getD i [] = l := by simp [List.getD, hl]
  rw [hgl] at HE
  obtain ⟨v, hv⟩ : ∃ v, P.vs[i]? = some v := ⟨P.vs[i]'(by rw [h.R.vl]; exact hil), List.getElem?_eq_getElem _⟩
  have hrow := h.R.rows i v l hv hl
  obtain ⟨a, cap, hva, hcl, hcm, -, -⟩ := own_reqs0 hrow (h.R.rok l (List.mem_of_getElem? hl)) (by have := h.R.few l (List.mem_of_getElem? hl); have := h.R.room; unfold maxLen; omega)
  have hd : decide ((r.c, r.n) ∈ flatP ls) = false := decide_eq_false hm
  simp only [hd] at chs
  clear hd hgl
  by_cases hfull : room ≤ l.length
  · have HA : Hid (addE room ls r = 100) := hide (by rw [HE.out, if_pos hfull])
    have HL : Hid (addL room ls r = ls) := hide (by unfold addL; rw [HA.out]; rfl)
    rw [HA.out, HL.out]
    clear HE HA HL hI hm
    have hfI : (room : Int) ≤ (l.length : Int) := by omega
    go_enter Tryd.func19, Tryd.ntmps19
    go_wp2_with fail
    refine cm.mono ?_
    rintro e w' ⟨rfl, hw⟩
    obtain rfl := hw.symm
    clear cm
    go_upto_region 5 with fail
    obtain ⟨w5, hw5⟩ : ∃ w5, W1.drew = w5 := ⟨_, rfl⟩
    have hB5 : Below w.heap.size w w5 := by rw [← hw5]; exact hB1.drew
    have hX5 : w.heap.size < w5.heap.size := by rw [← hw5]; exact hXW
    have hR5 : w5.rangeAt w.heap.size 0 u := by rw [← hw5]; exact (World.rangeAt_drew _ _ _ _).2 hR1
    have kx : ∀ w', Below w5.heap.size w5 w' → w'.rangeAt w.heap.size 0 u := fun w' hw' => range_below hR5 hw' hX5
    have P5 := h.R.below hB5
    have k2 : ∀ w', Below w5.heap.size w5 w' → w'.cell? ⟨P.p, 2, none⟩ = some (.map (some P.m)) := fun w' hw' => (P5.below hw').c2
    refine hs_begin (S := (Below w5.heap.size w5)) 8 rfl (by kernel_rfl) ?_
    rw [hw5]
    clear hw5
    have hS : (Below w5.heap.size w5) w5 := Below.refl _ _
    refine hs_take (i := 0) (d := some 20) (v := ?_) rfl (by kernel_rfl) (by kernel_rfl) (by kernel_rfl) (by rfl) ?_ hS rfl ?_
    rotate_left
    · intro w' hw
      go_simp
      try with_reducible rfl
    simp only [Act.put, List.setIfInBounds_toArray, List.set_cons_zero, List.set_cons_succ]
    refine hs_take (i := 1) (d := some 21) (v := ?_) rfl (by kernel_rfl) (by kernel_rfl) (by kernel_rfl) (by rfl) ?_ hS rfl ?_
    rotate_left
    · intro w' hw
      go_simp
      try with_reducible rfl
    simp only [Act.put, List.setIfInBounds_toArray, List.set_cons_zero, List.set_cons_succ]
    refine hs_take (i := 2) (d := some 22) (v := ?_) rfl (by kernel_rfl) (by kernel_rfl) (by kernel_rfl) (by rfl) ?_ hS rfl ?_
    rotate_left
    · intro w' hw
      go_simp
      try with_reducible rfl
    simp only [Act.put, List.setIfInBounds_toArray, List.set_cons_zero, List.set_cons_succ]
    refine hs_take (i := 3) (d := some 23) (v := ?_) rfl (by kernel_rfl) (by kernel_rfl) (by kernel_rfl) (by rfl) ?_ hS rfl ?_
    rotate_left
    · intro w' hw
      have hc := k2 w' hw
      go_simp
      try with_reducible rfl
    simp only [Act.put, List.setIfInBounds_toArray, List.set_cons_zero, List.set_cons_succ]
    refine hs_take (i := 4) (d := some 24) (v := .agg u.toArray) rfl (by kernel_rfl) (by kernel_rfl) (by kernel_rfl) (by rfl) (fun w' hw => exec_load rfl rfl (run_loadVar_mid (P := Tryd.prog) w' w.heap.size 0 35 u _ (kx w' hw) Tryd.underlying35 rfl hiu)) hS rfl ?_
    simp only [Act.put, List.setIfInBounds_toArray, List.set_cons_zero, List.set_cons_succ]
    refine hs_call (i := 5) (d := some 25) rfl (by kernel_rfl) (by rfl) (by go_simp; first | done | exact ⟨rfl, rfl⟩ | with_reducible rfl) rfl ?_
    refine (cpo w5).mono ?_
    rintro e' wA ⟨rfl, hbA⟩
    have hS : (Below w5.heap.size w5) wA := hbA
    refine ⟨_, rfl, hS, ?_⟩
    simp only [Act.put, List.setIfInBounds_toArray, List.set_cons_zero, List.set_cons_succ]
    refine hs_call (i := 6) (d := some 26) rfl (by kernel_rfl) (by rfl) (by go_simp; first | done | exact ⟨rfl, rfl⟩ | with_reducible rfl) rfl ?_
    refine (chs wA (h.prs.below (hB5.trans (hbA.mono hB5.size)))).mono ?_
    rintro e' wB ⟨rfl, hbB⟩
    have hS : (Below w5.heap.size w5) wB := hbA.trans (hbB.mono hbA.size)
    refine ⟨_, rfl, hS, ?_⟩
    simp only [Act.put, List.setIfInBounds_toArray, List.set_cons_zero, List.set_cons_succ]
    have hbB' := hbA.trans (hbB.mono hbA.size)
    refine hs_take (i := 7) (d := some 19) (v := ?_) rfl (by kernel_rfl) (by kernel_rfl) (by kernel_rfl) (by rfl) ?_ hS rfl ?_
    rotate_left
    · intro w' hw
      go_simp
      try with_reducible rfl
    simp only [Act.put, List.setIfInBounds_toArray, List.set_cons_zero, List.set_cons_succ]
    refine hs_done (by kernel_rfl) ?_
    have hB6 := hB5.trans (hbB'.mono hB5.size)
    have hR6 := kx _ hbB'
    have hX6 := Nat.lt_of_lt_of_le hX5 hbB'.size
    clear kx k2 P5
    go_upto_region 7 with fail
    obtain ⟨w7, hw7⟩ : ∃ w7, wB.drew = w7 := ⟨_, rfl⟩
    have hB7 : Below w.heap.size w w7 := by rw [← hw7]; exact hB6.drew
    have hX7 : w.heap.size < w7.heap.size := by rw [← hw7]; exact hX6
    have hR7 : w7.rangeAt w.heap.size 0 u := by rw [← hw7]; exact (World.rangeAt_drew _ _ _ _).2 hR6
    have P7 := h.R.below hB7
    rw [← hu.out] at hR7
    have x0 : ∀ w', Below w7.heap.size w7 w' → w'.cell? ⟨w.heap.size, 0, none⟩ = some (.int .i64 r.c) := fun w' hw' => (reqL_0 (range_below hR7 hw' hX7)).1
    have x1 : ∀ w', Below w7.heap.size w7 w' → w'.cell? ⟨w.heap.size, 1, none⟩ = some (.int .i64 r.n) := fun w' hw' => (reqL_0 (range_below hR7 hw' hX7)).2.1
    rw [hu.out] at hR7
    have k1 : ∀ w', Below w7.heap.size w7 w' → w'.cell? ⟨P.p, 1, none⟩ = some (.slice (some ⟨P.o, 0, none⟩) ls.length ls.length) := fun w' hw' => (P7.below hw').c1
    have cbk := cbk w7 (hG.below hB7)
    refine hs_begin (S := (Below w7.heap.size w7)) 11 rfl (by kernel_rfl) ?_
    rw [hw7]
    clear hw7
    have hS : (Below w7.heap.size w7) w7 := Below.refl _ _
    refine hs_take (i := 0) (d := some 27) (v := ?_) rfl (by kernel_rfl) (by kernel_rfl) (by kernel_rfl) (by rfl) ?_ hS rfl ?_
    rotate_left
    · intro w' hw
      go_simp
      try with_reducible rfl
    simp only [Act.put, List.setIfInBounds_toArray, List.set_cons_zero, List.set_cons_succ]
    refine hs_take (i := 1) (d := some 28) (v := ?_) rfl (by kernel_rfl) (by kernel_rfl) (by kernel_rfl) (by rfl) ?_ hS rfl ?_
    rotate_left
    · intro w' hw
      have hc := x0 w' hw
      go_simp
      try with_reducible rfl
    simp only [Act.put, List.setIfInBounds_toArray, List.set_cons_zero, List.set_cons_succ]
    refine hs_take (i := 2) (d := some 29) (v := ?_) rfl (by kernel_rfl) (by kernel_rfl) (by kernel_rfl) (by rfl) ?_ hS rfl ?_
    rotate_left
    · intro w' hw
      go_simp
      try with_reducible rfl
    simp only [Act.put, List.setIfInBounds_toArray, List.set_cons_zero, List.set_cons_succ]
    refine hs_take (i := 3) (d := some 30) (v := ?_) rfl (by kernel_rfl) (by kernel_rfl) (by kernel_rfl) (by rfl) ?_ hS rfl ?_
    rotate_left
    · intro w' hw
      have hc := x1 w' hw
      go_simp
      try with_reducible rfl
    simp only [Act.put, List.setIfInBounds_toArray, List.set_cons_zero, List.set_cons_succ]
    refine hs_take (i := 4) (d := some 31) (v := ?_) rfl (by kernel_rfl) (by kernel_rfl) (by kernel_rfl) (by rfl) ?_ hS rfl ?_
    rotate_left
    · intro w' hw
      go_simp
      try with_reducible rfl
    simp only [Act.put, List.setIfInBounds_toArray, List.set_cons_zero, List.set_cons_succ]
    refine hs_take (i := 5) (d := some 32) (v := ?_) rfl (by kernel_rfl) (by kernel_rfl) (by kernel_rfl) (by rfl) ?_ hS rfl ?_
    rotate_left
    · intro w' hw
      go_simp
      try with_reducible rfl
    simp only [Act.put, List.setIfInBounds_toArray, List.set_cons_zero, List.set_cons_succ]
    refine hs_take (i := 6) (d := some 33) (v := ?_) rfl (by kernel_rfl) (by kernel_rfl) (by kernel_rfl) (by rfl) ?_ hS rfl ?_
    rotate_left
    · intro w' hw
      go_simp
      try with_reducible rfl
    simp only [Act.put, List.setIfInBounds_toArray, List.set_cons_zero, List.set_cons_succ]
    refine hs_take (i := 7) (d := some 34) (v := ?_) rfl (by kernel_rfl) (by kernel_rfl) (by kernel_rfl) (by rfl) ?_ hS rfl ?_
    rotate_left
    · intro w' hw
      have hc := k1 w' hw
      go_simp
      try with_reducible rfl
    simp only [Act.put, List.setIfInBounds_toArray, List.set_cons_zero, List.set_cons_succ]
    refine hs_take (i := 8) (d := some 35) (v := ?_) rfl (by kernel_rfl) (by kernel_rfl) (by kernel_rfl) (by rfl) ?_ hS rfl ?_
    rotate_left
    · intro w' hw
      go_simp
      try with_reducible rfl
    simp only [Act.put, List.setIfInBounds_toArray, List.set_cons_zero, List.set_cons_succ]
    refine hs_call (i := 9) (d := some 36) rfl (by kernel_rfl) (by rfl) (by go_simp; first | done | exact ⟨rfl, rfl⟩ | with_reducible rfl) rfl ?_
    refine cbk.mono ?_
    rintro e' wC ⟨rfl, hbC⟩
    have hS : (Below w7.heap.size w7) wC := hbC
    refine ⟨_, rfl, hS, ?_⟩
    simp only [Act.put, List.setIfInBounds_toArray, List.set_cons_zero, List.set_cons_succ]
    refine hs_take (i := 10) (d := some 5) (v := ?_) rfl (by kernel_rfl) (by kernel_rfl) (by kernel_rfl) (by rfl) ?_ hS rfl ?_
    rotate_left
    · intro w' hw
      go_simp
      try with_reducible rfl
    simp only [Act.put, List.setIfInBounds_toArray, List.set_cons_zero, List.set_cons_succ]
    refine hs_done (by kernel_rfl) ?_
    have hB8 := hB7.trans (hbC.mono hB7.size)
    have hR8 := range_below hR7 hbC hX7
    have hX8 := Nat.lt_of_lt_of_le hX7 hbC.size
    have P8 := h.R.below hB8
    clear x0 x1 k1 P7 cbk
    have q0 := P8.c0
    have q1 := P8.c1
    have qo : wC.cell? ⟨P.o, i, none⟩ = some (.slice a l.length cap) := by
      have := P8.oc i v hv
      rw [Nat.zero_add] at this
      rw [this, hva]
    have hil1 : (i : Int) < (ls.length : Int) := by omega
    go_upto_region 8 with fail
    go_quiet (fail)
    obtain ⟨wQ, hwQ⟩ : ∃ wQ, wC.drewN nq = wQ := ⟨_, rfl⟩
    have hCQ : Below wC.heap.size wC wQ := by rw [← hwQ]; exact below_drewN (Below.refl _ _) nq
    have hBq := hB8.trans (hCQ.mono hB8.size)
    rw [hwQ]
    clear hwQ
    go_wp2_with fail
    go_ret
    exact ⟨rfl, stay _ hBq⟩
  · have HA : Hid (addE room ls r = 0) := hide (by rw [HE.out, if_neg hfull])
    have HL : Hid (addL room ls r = ls.set i (l ++ [r])) := hide (by unfold addL; rw [HA.out, if_pos rfl, hi.out]; simp [List.getD, hl])
    rw [HA.out, HL.out]
    clear HE HA HL hI
    have hfI : ¬ (room : Int) ≤ (l.length : Int) := by omega
    go_enter Tryd.func19, Tryd.ntmps19
    go_wp2_with fail
    refine cm.mono ?_
    rintro e w' ⟨rfl, hw⟩
    obtain rfl := hw.symm
    clear cm
    go_upto_region 5 with fail
    obtain ⟨w5, hw5⟩ : ∃ w5, W1.drew = w5 := ⟨_, rfl⟩
    have hB5 : Below w.heap.size w w5 := by rw [← hw5]; exact hB1.drew
    have hX5 : w.heap.size < w5.heap.size := by rw [← hw5]; exact hXW
    have hR5 : w5.rangeAt w.heap.size 0 u := by rw [← hw5]; exact (World.rangeAt_drew _ _ _ _).2 hR1
    have kx : ∀ w', Below w5.heap.size w5 w' → w'.rangeAt w.heap.size 0 u := fun w' hw' => range_below hR5 hw' hX5
    have P5 := h.R.below hB5
    have k2 : ∀ w', Below w5.heap.size w5 w' → w'.cell? ⟨P.p, 2, none⟩ = some (.map (some P.m)) := fun w' hw' => (P5.below hw').c2
    refine hs_begin (S := (Below w5.heap.size w5)) 8 rfl (by kernel_rfl) ?_
    rw [hw5]
    clear hw5
    have hS : (Below w5.heap.size w5) w5 := Below.refl _ _
    refine hs_take (i := 0) (d := some 20) (v := ?_) rfl (by kernel_rfl) (by kernel_rfl) (by kernel_rfl) (by rfl) ?_ hS rfl ?_
    rotate_left
    · intro w' hw
      go_simp
      try with_reducible rfl
    simp only [Act.put, List.setIfInBounds_toArray, List.set_cons_zero, List.set_cons_succ]
    refine hs_take (i := 1) (d := some 21) (v := ?_) rfl (by kernel_rfl) (by kernel_rfl) (by kernel_rfl) (by rfl) ?_ hS rfl ?_
    rotate_left
    · intro w' hw
      go_simp
      try with_reducible rfl
    simp only [Act.put, List.setIfInBounds_toArray, List.set_cons_zero, List.set_cons_succ]
    refine hs_take (i := 2) (d := some 22) (v := ?_) rfl (by kernel_rfl) (by kernel_rfl) (by kernel_rfl) (by rfl) ?_ hS rfl ?_
    rotate_left
    · intro w' hw
      go_simp
      try with_reducible rfl
    simp only [Act.put, List.setIfInBounds_toArray, List.set_cons_zero, List.set_cons_succ]
    refine hs_take (i := 3) (d := some 23) (v := ?_) rfl (by kernel_rfl) (by kernel_rfl) (by kernel_rfl) (by rfl) ?_ hS rfl ?_
    rotate_left
    · intro w' hw
      have hc := k2 w' hw
      go_simp
      try with_reducible rfl
    simp only [Act.put, List.setIfInBounds_toArray, List.set_cons_zero, List.set_cons_succ]
    refine hs_take (i := 4) (d := some 24) (v := .agg u.toArray) rfl (by kernel_rfl) (by kernel_rfl) (by kernel_rfl) (by rfl) (fun w' hw => exec_load rfl rfl (run_loadVar_mid (P := Tryd.prog) w' w.heap.size 0 35 u _ (kx w' hw) Tryd.underlying35 rfl hiu)) hS rfl ?_
    simp only [Act.put, List.setIfInBounds_toArray, List.set_cons_zero, List.set_cons_succ]
    refine hs_call (i := 5) (d := some 25) rfl (by kernel_rfl) (by rfl) (by go_simp; first | done | exact ⟨rfl, rfl⟩ | with_reducible rfl) rfl ?_
    refine (cpo w5).mono ?_
    rintro e' wA ⟨rfl, hbA⟩
    have hS : (Below w5.heap.size w5) wA := hbA
    refine ⟨_, rfl, hS, ?_⟩
    simp only [Act.put, List.setIfInBounds_toArray, List.set_cons_zero, List.set_cons_succ]
    refine hs_call (i := 6) (d := some 26) rfl (by kernel_rfl) (by rfl) (by go_simp; first | done | exact ⟨rfl, rfl⟩ | with_reducible rfl) rfl ?_
    refine (chs wA (h.prs.below (hB5.trans (hbA.mono hB5.size)))).mono ?_
    rintro e' wB ⟨rfl, hbB⟩
    have hS : (Below w5.heap.size w5) wB := hbA.trans (hbB.mono hbA.size)
    refine ⟨_, rfl, hS, ?_⟩
    simp only [Act.put, List.setIfInBounds_toArray, List.set_cons_zero, List.set_cons_succ]
    have hbB' := hbA.trans (hbB.mono hbA.size)
    refine hs_take (i := 7) (d := some 19) (v := ?_) rfl (by kernel_rfl) (by kernel_rfl) (by kernel_rfl) (by rfl) ?_ hS rfl ?_
    rotate_left
    · intro w' hw
      go_simp
      try with_reducible rfl
    simp only [Act.put, List.setIfInBounds_toArray, List.set_cons_zero, List.set_cons_succ]
    refine hs_done (by kernel_rfl) ?_
    have hB6 := hB5.trans (hbB'.mono hB5.size)
    have hR6 := kx _ hbB'
    have hX6 := Nat.lt_of_lt_of_le hX5 hbB'.size
    clear kx k2 P5
    go_upto_region 7 with fail
    obtain ⟨w7, hw7⟩ : ∃ w7, wB.drew = w7 := ⟨_, rfl⟩
    have hB7 : Below w.heap.size w w7 := by rw [← hw7]; exact hB6.drew
    have hX7 : w.heap.size < w7.heap.size := by rw [← hw7]; exact hX6
    have hR7 : w7.rangeAt w.heap.size 0 u := by rw [← hw7]; exact (World.rangeAt_drew _ _ _ _).2 hR6
    have P7 := h.R.below hB7
    rw [← hu.out] at hR7
    have x0 : ∀ w', Below w7.heap.size w7 w' → w'.cell? ⟨w.heap.size, 0, none⟩ = some (.int .i64 r.c) := fun w' hw' => (reqL_0 (range_below hR7 hw' hX7)).1
    have x1 : ∀ w', Below w7.heap.size w7 w' → w'.cell? ⟨w.heap.size, 1, none⟩ = some (.int .i64 r.n) := fun w' hw' => (reqL_0 (range_below hR7 hw' hX7)).2.1
    rw [hu.out] at hR7
    have k1 : ∀ w', Below w7.heap.size w7 w' → w'.cell? ⟨P.p, 1, none⟩ = some (.slice (some ⟨P.o, 0, none⟩) ls.length ls.length) := fun w' hw' => (P7.below hw').c1
    have cbk := cbk w7 (hG.below hB7)
    refine hs_begin (S := (Below w7.heap.size w7)) 11 rfl (by kernel_rfl) ?_
    rw [hw7]
    clear hw7
    have hS : (Below w7.heap.size w7) w7 := Below.refl _ _
    refine hs_take (i := 0) (d := some 27) (v := ?_) rfl (by kernel_rfl) (by kernel_rfl) (by kernel_rfl) (by rfl) ?_ hS rfl ?_
    rotate_left
    · intro w' hw
      go_simp
      try with_reducible rfl
    simp only [Act.put, List.setIfInBounds_toArray, List.set_cons_zero, List.set_cons_succ]
    refine hs_take (i := 1) (d := some 28) (v := ?_) rfl (by kernel_rfl) (by kernel_rfl) (by kernel_rfl) (by rfl) ?_ hS rfl ?_
    rotate_left
    · intro w' hw
      have hc := x0 w' hw
      go_simp
      try with_reducible rfl
    simp only [Act.put, List.setIfInBounds_toArray, List.set_cons_zero, List.set_cons_succ]
    refine hs_take (i := 2) (d := some 29) (v := ?_) rfl (by kernel_rfl) (by kernel_rfl) (by kernel_rfl) (by rfl) ?_ hS rfl ?_
    rotate_left
    · intro w' hw
      go_simp
      try with_reducible rfl
    simp only [Act.put, List.setIfInBounds_toArray, List.set_cons_zero, List.set_cons_succ]
    refine hs_take (i := 3) (d := some 30) (v := ?_) rfl (by kernel_rfl) (by kernel_rfl) (by kernel_rfl) (by rfl) ?_ hS rfl ?_
    rotate_left
    · intro w' hw
      have hc := x1 w' hw
      go_simp
      try with_reducible rfl
    simp only [Act.put, List.setIfInBounds_toArray, List.set_cons_zero, List.set_cons_succ]
    refine hs_take (i := 4) (d := some 31) (v := ?_) rfl (by kernel_rfl) (by kernel_rfl) (by kernel_rfl) (by rfl) ?_ hS rfl ?_
    rotate_left
    · intro w' hw
      go_simp
      try with_reducible rfl
    simp only [Act.put, List.setIfInBounds_toArray, List.set_cons_zero, List.set_cons_succ]
    refine hs_take (i := 5) (d := some 32) (v := ?_) rfl (by kernel_rfl) (by kernel_rfl) (by kernel_rfl) (by rfl) ?_ hS rfl ?_
    rotate_left
    · intro w' hw
      go_simp
      try with_reducible rfl
    simp only [Act.put, List.setIfInBounds_toArray, List.set_cons_zero, List.set_cons_succ]
    refine hs_take (i := 6) (d := some 33) (v := ?_) rfl (by kernel_rfl) (by kernel_rfl) (by kernel_rfl) (by rfl) ?_ hS rfl ?_
    rotate_left
    · intro w' hw
      go_simp
      try with_reducible rfl
    simp only [Act.put, List.setIfInBounds_toArray, List.set_cons_zero, List.set_cons_succ]
    refine hs_take (i := 7) (d := some 34) (v := ?_) rfl (by kernel_rfl) (by kernel_rfl) (by kernel_rfl) (by rfl) ?_ hS rfl ?_
    rotate_left
    · intro w' hw
      have hc := k1 w' hw
      go_simp
      try with_reducible rfl
    simp only [Act.put, List.setIfInBounds_toArray, List.set_cons_zero, List.set_cons_succ]
    refine hs_take (i := 8) (d := some 35) (v := ?_) rfl (by kernel_rfl) (by kernel_rfl) (by kernel_rfl) (by rfl) ?_ hS rfl ?_
    rotate_left
    · intro w' hw
      go_simp
      try with_reducible rfl
    simp only [Act.put, List.setIfInBounds_toArray, List.set_cons_zero, List.set_cons_succ]
    refine hs_call (i := 9) (d := some 36) rfl (by kernel_rfl) (by rfl) (by go_simp; first | done | exact ⟨rfl, rfl⟩ | with_reducible rfl) rfl ?_
    refine cbk.mono ?_
    rintro e' wC ⟨rfl, hbC⟩
    have hS : (Below w7.heap.size w7) wC := hbC
    refine ⟨_, rfl, hS, ?_⟩
    simp only [Act.put, List.setIfInBounds_toArray, List.set_cons_zero, List.set_cons_succ]
    refine hs_take (i := 10) (d := some 5) (v := ?_) rfl (by kernel_rfl) (by kernel_rfl) (by kernel_rfl) (by rfl) ?_ hS rfl ?_
    rotate_left
    · intro w' hw
      go_simp
      try with_reducible rfl
    simp only [Act.put, List.setIfInBounds_toArray, List.set_cons_zero, List.set_cons_succ]
    refine hs_done (by kernel_rfl) ?_
    have hB8 := hB7.trans (hbC.mono hB7.size)
    have hR8 := range_below hR7 hbC hX7
    have hX8 := Nat.lt_of_lt_of_le hX7 hbC.size
    have P8 := h.R.below hB8
    clear x0 x1 k1 P7 cbk
    have q0 := P8.c0
    have q1 := P8.c1
    have qo : wC.cell? ⟨P.o, i, none⟩ = some (.slice a l.length cap) := by
      have := P8.oc i v hv
      rw [Nat.zero_add] at this
      rw [this, hva]
    have hil1 : (i : Int) < (ls.length : Int) := by omega
    go_upto_region 8 with fail
    go_quiet (fail)
    obtain ⟨wQ, hwQ⟩ : ∃ wQ, wC.drewN nq = wQ := ⟨_, rfl⟩
    have hCQ : Below wC.heap.size wC wQ := by rw [← hwQ]; exact below_drewN (Below.refl _ _) nq
    have hBq := hB8.trans (hCQ.mono hB8.size)
    rw [hwQ]
    clear hwQ
    go_wp2_with fail
    go_upto_region 10 with fail
    obtain ⟨w9, hw9⟩ : ∃ w9, wQ.drew = w9 := ⟨_, rfl⟩
    have hB9 : Below w.heap.size w w9 := by rw [← hw9]; exact hBq.drew
    have hC9 : Below wC.heap.size wC w9 := by rw [← hw9]; exact hCQ.drew
    have hX9 : w.heap.size < w9.heap.size := Nat.lt_of_lt_of_le hX8 hC9.size
    have hR9 : w9.rangeAt w.heap.size 0 u := range_below hR8 hC9 hX8
    have P9 := h.below hB9
    obtain ⟨FV2, hFV⟩ : ∃ F : Nat → Prop, F = fun b => v.ownBlock = some b ∨ b = P.o := ⟨_, rfl⟩
    have hvm : v ∈ P.vs := List.mem_of_getElem? hv
    have hvlt : ∀ g, v.ownBlock = some g → g < w.heap.size := fun g hg => h.R.own_lt (.inr (.inr (.inr ⟨v, hvm, hg⟩)))
    have hFp : ¬ FV2 P.p := by rw [hFV]; rintro (q | q); exact (h.R.vp v hvm _ q).1 rfl; exact h.R.po q
    have hFx : ¬ FV2 w.heap.size := by rw [hFV]; rintro (q | q); have := hvlt _ q; omega; have := h.R.own_lt (.inr (.inl q) : P.own w.heap.size); omega
    have k1 : ∀ w', Off FV2 w9 w' → w'.cell? ⟨P.p, 1, none⟩ = some (.slice (some ⟨P.o, 0, none⟩) ls.length ls.length) := fun w' hw' => cell_at P9.R.c1 (hw'.2 P.p (P9.R.own_lt (.inl rfl)) hFp)
    have kx : ∀ w', Off FV2 w9 w' → w'.rangeAt w.heap.size 0 u := fun w' hw' => range_at hR9 (hw'.2 _ hX9 hFx)
    have qo2 : w9.cell? ⟨P.o, i, none⟩ = some (.slice a l.length cap) := cell_at qo (hC9.block _ (P8.own_lt (.inr (.inl rfl))))
    have hBa : Below w9.heap.size w9 (w9.alloc (.cells u.toArray 35)) := (Below.refl _ _).alloc (Nat.le_refl _) _
    have qo3 : (w9.alloc (.cells u.toArray 35)).cell? ⟨P.o, i, none⟩ = some (.slice a l.length cap) := cell_at qo2 (hBa.block _ (P9.R.own_lt (.inr (.inl rfl))))
    have hrow9 := P9.R.rows i v l hv hl
    have hsm : l.length ≤ 100000000 := by have := h.R.room; omega
    obtain ⟨v', wD, hrun, hownD, hgr, hap⟩ := append_req hrow9 hul hu1 hsm 43
    have hoD : wD.heap[P.o]? = w9.heap[P.o]? := hgr.block _ (P9.R.own_lt (.inr (.inl rfl))) (fun e => (h.R.vp v hvm _ e.symm).2.1 rfl)
    have hv1 : v'.oneCell' = true := by rcases hownD.2 with ⟨rfl, _⟩ | ⟨g, c2, cur, rfl, _⟩ <;> rfl
    have hst := run_store1 (P := Tryd.prog) wD P.o i 43 v' (by have := there_part (there_at P9.R.ot hoD) i 1 (by omega); rwa [Nat.zero_add] at this) iszV hv1
    rw [hva] at hrun
    refine hs_begin (S := (Off FV2 w9)) 17 rfl (by kernel_rfl) ?_
    rw [hw9]
    clear hw9 qo q0 q1
    have hS : (Off FV2 w9) w9 := Off.refl _ _
    refine hs_take (i := 0) (d := some 50) (v := ?_) rfl (by kernel_rfl) (by kernel_rfl) (by kernel_rfl) (by rfl) ?_ hS rfl ?_
    rotate_left
    · intro w' hw
      go_simp
      try with_reducible rfl
    simp only [Act.put, List.setIfInBounds_toArray, List.set_cons_zero, List.set_cons_succ]
    refine hs_take (i := 1) (d := some 51) (v := ?_) rfl (by kernel_rfl) (by kernel_rfl) (by kernel_rfl) (by rfl) ?_ hS rfl ?_
    rotate_left
    · intro w' hw
      go_simp
      try with_reducible rfl
    simp only [Act.put, List.setIfInBounds_toArray, List.set_cons_zero, List.set_cons_succ]
    refine hs_take (i := 2) (d := some 52) (v := ?_) rfl (by kernel_rfl) (by kernel_rfl) (by kernel_rfl) (by rfl) ?_ hS rfl ?_
    rotate_left
    · intro w' hw
      go_simp
      try with_reducible rfl
    simp only [Act.put, List.setIfInBounds_toArray, List.set_cons_zero, List.set_cons_succ]
    refine hs_take (i := 3) (d := some 53) (v := ?_) rfl (by kernel_rfl) (by kernel_rfl) (by kernel_rfl) (by rfl) ?_ hS rfl ?_
    rotate_left
    · intro w' hw
      have hc := k1 w' hw
      go_simp
      try with_reducible rfl
    simp only [Act.put, List.setIfInBounds_toArray, List.set_cons_zero, List.set_cons_succ]
    refine hs_take (i := 4) (d := some 54) (v := ?_) rfl (by kernel_rfl) (by kernel_rfl) (by kernel_rfl) (by rfl) ?_ hS rfl ?_
    rotate_left
    · intro w' hw
      go_simp
      try with_reducible rfl
    simp only [Act.put, List.setIfInBounds_toArray, List.set_cons_zero, List.set_cons_succ]
    refine hs_take (i := 5) (d := some 55) (v := ?_) rfl (by kernel_rfl) (by kernel_rfl) (by kernel_rfl) (by rfl) ?_ hS rfl ?_
    rotate_left
    · intro w' hw
      go_simp
      try with_reducible rfl
    simp only [Act.put, List.setIfInBounds_toArray, List.set_cons_zero, List.set_cons_succ]
    refine hs_take (i := 6) (d := some 56) (v := ?_) rfl (by kernel_rfl) (by kernel_rfl) (by kernel_rfl) (by rfl) ?_ hS rfl ?_
    rotate_left
    · intro w' hw
      go_simp
      try with_reducible rfl
    simp only [Act.put, List.setIfInBounds_toArray, List.set_cons_zero, List.set_cons_succ]
    refine hs_take (i := 7) (d := some 57) (v := ?_) rfl (by kernel_rfl) (by kernel_rfl) (by kernel_rfl) (by rfl) ?_ hS rfl ?_
    rotate_left
    · intro w' hw
      go_simp
      try with_reducible rfl
    simp only [Act.put, List.setIfInBounds_toArray, List.set_cons_zero, List.set_cons_succ]
    refine hs_take (i := 8) (d := some 58) (v := ?_) rfl (by kernel_rfl) (by kernel_rfl) (by kernel_rfl) (by rfl) ?_ hS rfl ?_
    rotate_left
    · intro w' hw
      have hc := k1 w' hw
      go_simp
      try with_reducible rfl
    simp only [Act.put, List.setIfInBounds_toArray, List.set_cons_zero, List.set_cons_succ]
    refine hs_take (i := 9) (d := some 59) (v := ?_) rfl (by kernel_rfl) (by kernel_rfl) (by kernel_rfl) (by rfl) ?_ hS rfl ?_
    rotate_left
    · intro w' hw
      go_simp
      try with_reducible rfl
    simp only [Act.put, List.setIfInBounds_toArray, List.set_cons_zero, List.set_cons_succ]
    refine hs_take (i := 10) (d := some 60) (v := ?_) rfl (by kernel_rfl) (by kernel_rfl) (by kernel_rfl) (by rfl) ?_ hS rfl ?_
    rotate_left
    · intro w' hw
      go_simp
      try with_reducible rfl
    simp only [Act.put, List.setIfInBounds_toArray, List.set_cons_zero, List.set_cons_succ]
    refine hs_take (i := 12) (d := some 62) (v := .agg u.toArray) rfl (by kernel_rfl) (by kernel_rfl) (by kernel_rfl) (by rfl) (fun w' hw => exec_load rfl rfl (run_loadVar_mid (P := Tryd.prog) w' w.heap.size 0 35 u _ (kx w' hw) Tryd.underlying35 rfl hiu)) hS rfl ?_
    simp only [Act.put, List.setIfInBounds_toArray, List.set_cons_zero, List.set_cons_succ]
    refine hs_fork (i := 11) (j := 13) (by kernel_rfl) ?_ ?_
    · have hS : (Off FV2 w9) w9 := Off.refl _ _
      refine st_run (i := 11) (d := some 61) (v := .slice a l.length cap) (w' := w9) rfl (by rfl) (exec_load rfl rfl (load_one w9 qo2 Tryd.underlying43 rfl)) rfl hS ?_
      simp only [Act.put, List.setIfInBounds_toArray, List.set_cons_zero, List.set_cons_succ]
      have hS : (Off FV2 w9) (w9.alloc (.cells u.toArray 35)) := Off.of_below ((Below.refl _ _).alloc (Nat.le_refl _) _)
      refine hs_run (i := 13) (d := some 63) (v := .slice (some ⟨w9.heap.size, 0, none⟩) 1 1) (w' := (w9.alloc (.cells u.toArray 35))) rfl (by kernel_rfl) (by rfl) (exec_bs1 rfl rfl (bs_req hul w9)) rfl hS ?_
      simp only [Act.put, List.setIfInBounds_toArray, List.set_cons_zero, List.set_cons_succ]
      have hS : (Off FV2 w9) wD := Off.of_grown hgr (fun k hk => by rw [hFV]; exact Or.inl hk)
      refine hs_run (i := 14) (d := some 64) (v := v') (w' := wD) rfl (by kernel_rfl) (by rfl) (exec_append1 rfl rfl rfl hrun) rfl hS ?_
      simp only [Act.put, List.setIfInBounds_toArray, List.set_cons_zero, List.set_cons_succ]
      refine hs_take (i := 15) (d := some 65) (v := ?_) rfl (by kernel_rfl) (by kernel_rfl) (by kernel_rfl) (by rfl) ?_ hS rfl ?_
      rotate_left
      · intro w' hw
        go_simp
        try with_reducible rfl
      simp only [Act.put, List.setIfInBounds_toArray, List.set_cons_zero, List.set_cons_succ]
      have hSG : (Off FV2 w9) (wD.setCell ⟨P.o, i, none⟩ v') := hS.trans (Off.of_setCell (F := FV2) wD _ _ (by rw [hFV]; exact .inr rfl)) (fun _ _ q => q)
      refine hs_store (i := 16) (w' := (wD.setCell ⟨P.o, i, none⟩ v')) rfl (by kernel_rfl) (by rfl) (exec_storeP rfl rfl rfl hst) rfl hSG ?_
      refine hs_done (by kernel_rfl) ?_
      obtain ⟨wG, hwGe⟩ : ∃ wG, wD.setCell ⟨P.o, i, none⟩ v' = wG := ⟨_, rfl⟩
      rw [hwGe] at hSG ⊢
      clear kx k1
      go_upto_region 11 with fail
      obtain ⟨w11, hw11⟩ : ∃ w11, wG.drew = w11 := ⟨_, rfl⟩
      have hS11 : Off FV2 w9 w11 := by rw [← hw11]; exact hSG.drew
      have hR11 : w11.rangeAt w.heap.size 0 u := range_at hR9 (hS11.2 _ hX9 hFx)
      have hX11 : w.heap.size < w11.heap.size := Nat.lt_of_lt_of_le hX9 hS11.size
      have hFm : ¬ FV2 P.m := by rw [hFV]; rintro (q | q); exact (h.R.vp v hvm _ q).2.2 rfl; exact h.R.om q.symm
      have HP : Hid (PairsAt w11 P.m (flatP ls)) := hide (P9.prs.at (hS11.2 _ P9.R.ml hFm))
      have c211 : w11.cell? ⟨P.p, 2, none⟩ = some (.map (some P.m)) := cell_at P9.R.c2 (hS11.2 P.p (P9.R.own_lt (.inl rfl)) hFp)
      have hp11 : P.p < w11.heap.size := Nat.lt_of_lt_of_le (P9.R.own_lt (.inl rfl)) hS11.size
      have k2 : ∀ w', Off (fun b => b = P.m) w11 w' → w'.cell? ⟨P.p, 2, none⟩ = some (.map (some P.m)) := fun w' hw' => cell_at c211 (hw'.2 P.p hp11 h.R.pm)
      have hxm : w.heap.size ≠ P.m := fun e => by have := h.R.ml; omega
      have kx : ∀ w', Off (fun b => b = P.m) w11 w' → w'.rangeAt w.heap.size 0 u := fun w' hw' => range_at hR11 (hw'.2 _ hX11 hxm)
      have cad := fun w0 (h0 : PairsAt w0 P.m (flatP ls)) => addP_any P.m (flatP ls) r.c r.n ⟨hr.cl, hr.ch⟩ ⟨hr.nl, hr.nh⟩ w0 h0 (by have := h.small; omega)
      refine hs_begin (S := (Off (fun b => b = P.m) w11)) 7 rfl (by kernel_rfl) ?_
      rw [hw11]
      have hS : (Off (fun b => b = P.m) w11) w11 := Off.refl _ _
      refine hs_take (i := 0) (d := some 66) (v := ?_) rfl (by kernel_rfl) (by kernel_rfl) (by kernel_rfl) (by rfl) ?_ hS rfl ?_
      rotate_left
      · intro w' hw
        go_simp
        try with_reducible rfl
      simp only [Act.put, List.setIfInBounds_toArray, List.set_cons_zero, List.set_cons_succ]
      refine hs_take (i := 1) (d := some 67) (v := ?_) rfl (by kernel_rfl) (by kernel_rfl) (by kernel_rfl) (by rfl) ?_ hS rfl ?_
      rotate_left
      · intro w' hw
        go_simp
        try with_reducible rfl
      simp only [Act.put, List.setIfInBounds_toArray, List.set_cons_zero, List.set_cons_succ]
      refine hs_take (i := 2) (d := some 68) (v := ?_) rfl (by kernel_rfl) (by kernel_rfl) (by kernel_rfl) (by rfl) ?_ hS rfl ?_
      rotate_left
      · intro w' hw
        go_simp
        try with_reducible rfl
      simp only [Act.put, List.setIfInBounds_toArray, List.set_cons_zero, List.set_cons_succ]
      refine hs_take (i := 3) (d := some 69) (v := ?_) rfl (by kernel_rfl) (by kernel_rfl) (by kernel_rfl) (by rfl) ?_ hS rfl ?_
      rotate_left
      · intro w' hw
        have hc := k2 w' hw
        go_simp
        try with_reducible rfl
      simp only [Act.put, List.setIfInBounds_toArray, List.set_cons_zero, List.set_cons_succ]
      refine hs_take (i := 4) (d := some 70) (v := .agg u.toArray) rfl (by kernel_rfl) (by kernel_rfl) (by kernel_rfl) (by rfl) (fun w' hw => exec_load rfl rfl (run_loadVar_mid (P := Tryd.prog) w' w.heap.size 0 35 u _ (kx w' hw) Tryd.underlying35 rfl hiu)) hS rfl ?_
      simp only [Act.put, List.setIfInBounds_toArray, List.set_cons_zero, List.set_cons_succ]
      refine hs_call (i := 5) (d := some 71) rfl (by kernel_rfl) (by rfl) (by go_simp; first | done | exact ⟨rfl, rfl⟩ | with_reducible rfl) rfl ?_
      refine (cpo w11).mono ?_
      rintro e' wE ⟨rfl, hbE⟩
      have hS : (Off (fun b => b = P.m) w11) wE := Off.of_below hbE
      refine ⟨_, rfl, hS, ?_⟩
      simp only [Act.put, List.setIfInBounds_toArray, List.set_cons_zero, List.set_cons_succ]
      refine hs_call (i := 6) (d := some 72) rfl (by kernel_rfl) (by rfl) (by go_simp; first | done | exact ⟨rfl, rfl⟩ | with_reducible rfl) rfl ?_
      refine (cad wE (HP.out.below hbE)).mono ?_
      rintro e' wF ⟨rfl, hPE, hgE⟩
      have hS : (Off (fun b => b = P.m) w11) wF := (Off.of_below hbE).trans (Off.of_grown hgE (fun k hk => (Option.some.inj hk).symm)) (fun _ _ q => q)
      refine ⟨_, rfl, hS, ?_⟩
      simp only [Act.put, List.setIfInBounds_toArray, List.set_cons_zero, List.set_cons_succ]
      have hwG : Off (fun b => b = P.m) (wD.setCell ⟨P.o, i, none⟩ v') wF := by
        rw [hwGe]
        have := hS
        rw [← hw11] at this
        exact ⟨⟨this.1.os, this.1.tape, this.1.output, this.1.size, fun k hk => absurd hk (Nat.not_lt_zero k)⟩, this.2⟩
      refine hs_done (by kernel_rfl) ?_
      go_wp2_with fail
      go_ret
      exact ⟨rfl, add_fin h hv hl hB9 hgr hownD hu.out hap hwG hPE hm hr (by omega) ⟨hi.out, by omega, by omega⟩⟩
    · have hS : (Off FV2 w9) (w9.alloc (.cells u.toArray 35)) := Off.of_below ((Below.refl _ _).alloc (Nat.le_refl _) _)
      refine st_run (i := 13) (d := some 63) (v := .slice (some ⟨w9.heap.size, 0, none⟩) 1 1) (w' := (w9.alloc (.cells u.toArray 35))) rfl (by rfl) (exec_bs1 rfl rfl (bs_req hul w9)) rfl hS ?_
      simp only [Act.put, List.setIfInBounds_toArray, List.set_cons_zero, List.set_cons_succ]
      have hS : (Off FV2 w9) (w9.alloc (.cells u.toArray 35)) := Off.of_below ((Below.refl _ _).alloc (Nat.le_refl _) _)
      refine hs_run (i := 11) (d := some 61) (v := .slice a l.length cap) (w' := (w9.alloc (.cells u.toArray 35))) rfl (by kernel_rfl) (by rfl) (exec_load rfl rfl (load_one _ qo3 Tryd.underlying43 rfl)) rfl hS ?_
      simp only [Act.put, List.setIfInBounds_toArray, List.set_cons_zero, List.set_cons_succ]
      have hS : (Off FV2 w9) wD := Off.of_grown hgr (fun k hk => by rw [hFV]; exact Or.inl hk)
      refine hs_run (i := 14) (d := some 64) (v := v') (w' := wD) rfl (by kernel_rfl) (by rfl) (exec_append1 rfl rfl rfl hrun) rfl hS ?_
      simp only [Act.put, List.setIfInBounds_toArray, List.set_cons_zero, List.set_cons_succ]
      refine hs_take (i := 15) (d := some 65) (v := ?_) rfl (by kernel_rfl) (by kernel_rfl) (by kernel_rfl) (by rfl) ?_ hS rfl ?_
      rotate_left
      · intro w' hw
        go_simp
        try with_reducible rfl
      simp only [Act.put, List.setIfInBounds_toArray, List.set_cons_zero, List.set_cons_succ]
      have hSG : (Off FV2 w9) (wD.setCell ⟨P.o, i, none⟩ v') := hS.trans (Off.of_setCell (F := FV2) wD _ _ (by rw [hFV]; exact .inr rfl)) (fun _ _ q => q)
      refine hs_store (i := 16) (w' := (wD.setCell ⟨P.o, i, none⟩ v')) rfl (by kernel_rfl) (by rfl) (exec_storeP rfl rfl rfl hst) rfl hSG ?_
      refine hs_done (by kernel_rfl) ?_
      obtain ⟨wG, hwGe⟩ : ∃ wG, wD.setCell ⟨P.o, i, none⟩ v' = wG := ⟨_, rfl⟩
      rw [hwGe] at hSG ⊢
      clear kx k1
      go_upto_region 11 with fail
      obtain ⟨w11, hw11⟩ : ∃ w11, wG.drew = w11 := ⟨_, rfl⟩
      have hS11 : Off FV2 w9 w11 := by rw [← hw11]; exact hSG.drew
      have hR11 : w11.rangeAt w.heap.size 0 u := range_at hR9 (hS11.2 _ hX9 hFx)
      have hX11 : w.heap.size < w11.heap.size := Nat.lt_of_lt_of_le hX9 hS11.size
      have hFm : ¬ FV2 P.m := by rw [hFV]; rintro (q | q); exact (h.R.vp v hvm _ q).2.2 rfl; exact h.R.om q.symm
      have HP : Hid (PairsAt w11 P.m (flatP ls)) := hide (P9.prs.at (hS11.2 _ P9.R.ml hFm))
      have c211 : w11.cell? ⟨P.p, 2, none⟩ = some (.map (some P.m)) := cell_at P9.R.c2 (hS11.2 P.p (P9.R.own_lt (.inl rfl)) hFp)
      have hp11 : P.p < w11.heap.size := Nat.lt_of_lt_of_le (P9.R.own_lt (.inl rfl)) hS11.size
      have k2 : ∀ w', Off (fun b => b = P.m) w11 w' → w'.cell? ⟨P.p, 2, none⟩ = some (.map (some P.m)) := fun w' hw' => cell_at c211 (hw'.2 P.p hp11 h.R.pm)
      have hxm : w.heap.size ≠ P.m := fun e => by have := h.R.ml; omega
      have kx : ∀ w', Off (fun b => b = P.m) w11 w' → w'.rangeAt w.heap.size 0 u := fun w' hw' => range_at hR11 (hw'.2 _ hX11 hxm)
      have cad := fun w0 (h0 : PairsAt w0 P.m (flatP ls)) => addP_any P.m (flatP ls) r.c r.n ⟨hr.cl, hr.ch⟩ ⟨hr.nl, hr.nh⟩ w0 h0 (by have := h.small; omega)
      refine hs_begin (S := (Off (fun b => b = P.m) w11)) 7 rfl (by kernel_rfl) ?_
      rw [hw11]
      have hS : (Off (fun b => b = P.m) w11) w11 := Off.refl _ _
      refine hs_take (i := 0) (d := some 66) (v := ?_) rfl (by kernel_rfl) (by kernel_rfl) (by kernel_rfl) (by rfl) ?_ hS rfl ?_
      rotate_left
      · intro w' hw
        go_simp
        try with_reducible rfl
      simp only [Act.put, List.setIfInBounds_toArray, List.set_cons_zero, List.set_cons_succ]
      refine hs_take (i := 1) (d := some 67) (v := ?_) rfl (by kernel_rfl) (by kernel_rfl) (by kernel_rfl) (by rfl) ?_ hS rfl ?_
      rotate_left
      · intro w' hw
        go_simp
        try with_reducible rfl
      simp only [Act.put, List.setIfInBounds_toArray, List.set_cons_zero, List.set_cons_succ]
      refine hs_take (i := 2) (d := some 68) (v := ?_) rfl (by kernel_rfl) (by kernel_rfl) (by kernel_rfl) (by rfl) ?_ hS rfl ?_
      rotate_left
      · intro w' hw
        go_simp
        try with_reducible rfl
      simp only [Act.put, List.setIfInBounds_toArray, List.set_cons_zero, List.set_cons_succ]
      refine hs_take (i := 3) (d := some 69) (v := ?_) rfl (by kernel_rfl) (by kernel_rfl) (by kernel_rfl) (by rfl) ?_ hS rfl ?_
      rotate_left
      · intro w' hw
        have hc := k2 w' hw
        go_simp
        try with_reducible rfl
      simp only [Act.put, List.setIfInBounds_toArray, List.set_cons_zero, List.set_cons_succ]
      refine hs_take (i := 4) (d := some 70) (v := .agg u.toArray) rfl (by kernel_rfl) (by kernel_rfl) (by kernel_rfl) (by rfl) (fun w' hw => exec_load rfl rfl (run_loadVar_mid (P := Tryd.prog) w' w.heap.size 0 35 u _ (kx w' hw) Tryd.underlying35 rfl hiu)) hS rfl ?_
      simp only [Act.put, List.setIfInBounds_toArray, List.set_cons_zero, List.set_cons_succ]
      refine hs_call (i := 5) (d := some 71) rfl (by kernel_rfl) (by rfl) (by go_simp; first | done | exact ⟨rfl, rfl⟩ | with_reducible rfl) rfl ?_
      refine (cpo w11).mono ?_
      rintro e' wE ⟨rfl, hbE⟩
      have hS : (Off (fun b => b = P.m) w11) wE := Off.of_below hbE
      refine ⟨_, rfl, hS, ?_⟩
      simp only [Act.put, List.setIfInBounds_toArray, List.set_cons_zero, List.set_cons_succ]
      refine hs_call (i := 6) (d := some 72) rfl (by kernel_rfl) (by rfl) (by go_simp; first | done | exact ⟨rfl, rfl⟩ | with_reducible rfl) rfl ?_
      refine (cad wE (HP.out.below hbE)).mono ?_
      rintro e' wF ⟨rfl, hPE, hgE⟩
      have hS : (Off (fun b => b = P.m) w11) wF := (Off.of_below hbE).trans (Off.of_grown hgE (fun k hk => (Option.some.inj hk).symm)) (fun _ _ q => q)
      refine ⟨_, rfl, hS, ?_⟩
      simp only [Act.put, List.setIfInBounds_toArray, List.set_cons_zero, List.set_cons_succ]
      have hwG : Off (fun b => b = P.m) (wD.setCell ⟨P.o, i, none⟩ v') wF := by
        rw [hwGe]
        have := hS
        rw [← hw11] at this
        exact ⟨⟨this.1.os, this.1.tape, this.1.output, this.1.size, fun k hk => absurd hk (Nat.not_lt_zero k)⟩, this.2⟩
      refine hs_done (by kernel_rfl) ?_
      go_wp2_with fail
      go_ret
      exact ⟨rfl, add_fin h hv hl hB9 hgr hownD hu.out hap hwG hPE hm hr (by omega) ⟨hi.out, by omega, by omega⟩⟩
end Go.Proofs.YtbfcbjjhdadicaaDoor
