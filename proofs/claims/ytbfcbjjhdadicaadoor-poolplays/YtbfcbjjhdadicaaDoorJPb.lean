/- the document's Add pairsOf; the document's Sweep the pool and the document's pool side by side raddlelaw10.both the document's Same of lists that are alike raddlelaw10.both: what is picked -/
import Derived.Test.YtbfcbjjhdadicaaDoorJPa
import Derived.Test.YtbfcbjjhdadicaaDoorJW2
import Derived.Test.YtbfcbjjhdadicaaDoorP16
namespace Go.Proofs.YtbfcbjjhdadicaaDoor
open Go.RowKit
open Sha Tal
section
variable {P : Program} {ops : Array Oper} {Q : Exit → Act → World → Prop}
theorem hs_forkL {l : List Nat} {S : World → Prop} {fuel : Nat} {listed : Array Bool} {a : Act} {w : World} (hr : Region.ready .any ops listed = l) (hl : l ≠ [])
    (h : ∀ i ∈ l, StepS P ops Q S fuel listed i a w) : HeldS P ops Q S (fuel + 1) listed a w := by
  subst hr
  refine wpAnyH_all rfl ?_ ?_
  · exact hl
  · intro k hk
    exact h k hk
theorem hs_runX {i : Nat} {S : World → Prop} {oi : Oper} {d : Option Nat} {R : Value → World → Prop} {fuel : Nat} {listed : Array Bool} {a : Act} {w : World} (hi : ops[i]? = some oi)
    (hr : Region.ready .any ops listed = [i]) (hw : Region.wanted oi (yielded ops a.tmps) = true) (hdst : oi.dst = d) (hy : ∃ v w', (execOp a.eval oi).run P w = .ok (.value v) w' ∧ R v w')
    (h : ∀ v w', R v w' → S w' ∧ HeldS P ops Q S fuel (listed.setIfInBounds i true) (a.put d v) w') : HeldS P ops Q S (fuel + 1) listed a w := by
  obtain ⟨v, w', h1, h2⟩ := hy
  obtain ⟨h4, h5⟩ := h v w' h2
  exact hs_run hi hr hw h1 hdst h4 h5
theorem st_runX {i : Nat} {S : World → Prop} {oi : Oper} {d : Option Nat} {R : Value → World → Prop} {fuel : Nat} {listed : Array Bool} {a : Act} {w : World} (hi : ops[i]? = some oi)
    (hw : Region.wanted oi (yielded ops a.tmps) = true) (hdst : oi.dst = d) (hy : ∃ v w', (execOp a.eval oi).run P w = .ok (.value v) w' ∧ R v w')
    (h : ∀ v w', R v w' → S w' ∧ HeldS P ops Q S fuel (listed.setIfInBounds i true) (a.put d v) w') : StepS P ops Q S fuel listed i a w := by
  obtain ⟨v, w', h1, h2⟩ := hy
  obtain ⟨h4, h5⟩ := h v w' h2
  exact st_run hi hw h1 hdst h4 h5
end
theorem ex_load {o : Oper} {a : Act} {w : World} {x : Operand} {b off : Nat} {v : Value} (ho : o.op = .load 43 x) (hx : a.eval x = .pointer (some ⟨b, off, none⟩)) (hc : w.cell? ⟨b, off, none⟩ = some v) :
    ∃ v' w', (execOp a.eval o).run Tryd.prog w = .ok (.value v') w' ∧ (v' = v ∧ w' = w) := ⟨v, w, exec_load ho hx (load_one w hc Tryd.underlying43 rfl), rfl, rfl⟩
theorem ex_bs0 {o : Oper} {a : Act} {w : World} (ho : o.op = .buildSlice 43 0 #[]) :
    ∃ v w', (execOp a.eval o).run Tryd.prog w = .ok (.value v) w' ∧ (Below w.heap.size w w' ∧ w'.ownsRow w.heap.size 35 19 v 0 []) := by
  refine ⟨.slice (some ⟨w.heap.size, 0, none⟩) 0 0, w.alloc (.cells #[] 35), ?_, (Below.refl _ _).alloc (Nat.le_refl _) _, ?_⟩
  · obtain ⟨i, hi, hzz⟩ := Option.map_eq_some_iff.1 infoR
    simp only [Prod.mk.injEq] at hzz
    obtain ⟨hz, hs, hb⟩ := hzz
    unfold execOp
    simp [ho, Instr.buildSlice, run_underlying Tryd.underlying43, sizeOf, typeInfo, hi, Instr.fill, newRow]
    have e : (Array.map (fun _ : Nat => (default : Value)) (Array.range 0)) = #[] := by
      apply Array.ext
      · simp
      · intro i h1 h2
        simp at h2
    rw [e]
  · exact ⟨rfl, .inr ⟨w.heap.size, 0, #[], rfl, Nat.le_refl _, heap_alloc_new w _, Nat.le_refl _, by unfold maxLen; omega, rfl, rfl⟩⟩
theorem ex_bs1 {o : Oper} {a : Act} {w : World} {x : Operand} {u : List Value} (ho : o.op = .buildSlice 43 1 #[(0, x)]) (hx : a.eval x = .agg u.toArray) (hu : u.length = 19) :
    ∃ v w', (execOp a.eval o).run Tryd.prog w = .ok (.value v) w' ∧ ∃ cb : Nat, v = .slice (some ⟨cb, 0, none⟩) 1 1 ∧ w'.rangeAt cb 0 u ∧ cb < w'.heap.size ∧ w.heap.size ≤ cb ∧ Below w.heap.size w w' :=
  ⟨_, _, exec_bs1 ho hx (bs_req hu w), w.heap.size, rfl, by simpa using range_new w u.toArray 35, by simp, Nat.le_refl _, (Below.refl _ _).alloc (Nat.le_refl _) _⟩
theorem src_any {w : World} {a : Option Addr} {rs : List Rq} (h : ReqsAt w a rs) (cap : Nat) : Src Tryd.prog 19 43 (.slice a rs.length cap) rs.length (flatR rs) w := by
  cases a with
  | none =>
    have : rs = [] := by
      rcases h.2.2 with q | ⟨b, off, hx, _⟩
      · exact q
      · cases hx
    subst this
    exact Src.ofNil _ Tryd.underlying43 cap
  | some x => exact h.src cap
theorem ex_append {o : Oper} {a : Act} {w : World} {s x : Operand} {B : Nat} {v : Value} {ra : Option Addr} {cap : Nat} {L : List Rq} (ho : o.op = .call { callee := .builtin .append, args := #[s, x], argTypes := #[43, 43] }) (hv : a.eval s = v) (hx : a.eval x = .slice ra L.length cap)
    (hown : w.ownsRow B 35 19 v 0 []) (hB : B ≤ w.heap.size) (hrow : ReqsAt w ra L) (hL : L.length ≤ 100000) :
    ∃ v' w', (execOp a.eval o).run Tryd.prog w = .ok (.value v') w' ∧ (w'.ownsRow B 35 19 v' L.length (flatR L) ∧ w.grownBy w' v.ownBlock ∧ ∀ g, v'.ownBlock = some g → v.ownBlock = some g ∨ w.heap.size ≤ g) := by
  obtain ⟨i, hi, hzz⟩ := Option.map_eq_some_iff.1 infoR
  simp only [Prod.mk.injEq] at hzz
  obtain ⟨hz, hs, hb⟩ := hzz
  obtain ⟨v', w', hrun, ho2, hg, hap⟩ := run_append_own_src2 (P := Tryd.prog) w B 43 43 o.type 35 i _ 19 48 Tryd.underlying43 hi hz hs hb (by rfl) v 0 [] hown _ L.length (flatR L) (src_any hrow cap) (by unfold maxLen; omega) (by omega) hB
  exact ⟨v', w', exec_append1 ho hv hx hrun, by simpa using ho2, hg, fun g hg' => (hap g hg').imp id (fun e => by omega)⟩
theorem ex_append1 {o : Oper} {a : Act} {w : World} {s x : Operand} {B cb : Nat} {v : Value} {n : Nat} {xs u : List Value} (ho : o.op = .call { callee := .builtin .append, args := #[s, x], argTypes := #[43, 43] }) (hv : a.eval s = v) (hx : a.eval x = .slice (some ⟨cb, 0, none⟩) 1 1)
    (hown : w.ownsRow B 35 19 v n xs) (hB : B ≤ w.heap.size) (hr : w.rangeAt cb 0 u) (hu : u.length = 19) (h1 : ∀ y ∈ u, y.oneCell' = true) (hn : n ≤ 100000) :
    ∃ v' w', (execOp a.eval o).run Tryd.prog w = .ok (.value v') w' ∧ (w'.ownsRow B 35 19 v' (n + 1) (xs ++ u) ∧ w.grownBy w' v.ownBlock ∧ ∀ g, v'.ownBlock = some g → v.ownBlock = some g ∨ w.heap.size ≤ g) := by
  obtain ⟨i, hi, hzz⟩ := Option.map_eq_some_iff.1 infoR
  simp only [Prod.mk.injEq] at hzz
  obtain ⟨hz, hs, hb⟩ := hzz
  have hsrc : Src Tryd.prog 19 43 (.slice (some ⟨cb, 0, none⟩) 1 1) 1 u w := Src.ofSlice _ Tryd.underlying43 ⟨cb, 0, none⟩ 1 1 _ (by simpa using hu) (fun j y hy => by have := hr j y hy; rw [Addr.add_mid]; exact this) h1
  obtain ⟨v', w', hrun, ho2, hg, hap⟩ := run_append_own_src2 (P := Tryd.prog) w B 43 43 o.type 35 i _ 19 48 Tryd.underlying43 hi hz hs hb (by rfl) v n xs hown _ 1 u hsrc (by unfold maxLen; omega) (by omega) hB
  exact ⟨v', w', exec_append1 ho hv hx hrun, ho2, hg, fun g hg' => (hap g hg').imp id (fun e => by omega)⟩
theorem ref_fin {w9 W : World} {rp k room : Nat} {a : Option Addr} {cap : Nat} {L : List Rq} {r : Rq} {u : List Value} {vea : Option Addr} {vec : Nat} (h : RefAt w9 rp k room a cap L) (hB : Below w9.heap.size w9 W) (hown : W.ownsRow w9.heap.size 35 19 (.slice vea (L.length + 1) vec) (L.length + 1) (flatR L ++ u)) (hu : r.cells = u) (hr : r.ok) :
    RefAt (W.setCell ⟨rp, 2, none⟩ (.slice vea (L.length + 1) vec)) rp k room vea vec (L ++ [r]) ∧ ∀ x, vea = some x → w9.heap.size ≤ x.block := by
  have hW := h.below hB
  have e1 : (L ++ [r]).length = L.length + 1 := by simp
  have e2 : flatR (L ++ [r]) = flatR L ++ u := by rw [flatR_append, ← hu]; simp [flatR]
  have hok : ∀ x ∈ L ++ [r], x.ok := fun x hx => by
    rcases List.mem_append.1 hx with q | q
    · exact h.row.2.1 x q
    · rw [List.mem_singleton.1 q]; exact hr
  have hbase : ∀ x, vea = some x → w9.heap.size ≤ x.block := fun x hx => owns_base hown _ (by rw [hx]; rfl)
  have hlt : ∀ x, vea = some x → x.block < W.heap.size := fun x hx => owns_lt hown (by rw [hx]; rfl)
  have hrp : rp < w9.heap.size := h.lt
  have hne : ∀ x, vea = some x → x.block ≠ rp := fun x hx => by have := hbase x hx; omega
  have hown2 : (W.setCell ⟨rp, 2, none⟩ (.slice vea (L.length + 1) vec)).ownsRow w9.heap.size 35 19 (.slice vea (L ++ [r]).length vec) (L ++ [r]).length (flatR (L ++ [r])) := by
    rw [e1, e2]
    exact owns_at hown (fun g hg => Below.heap_setCell _ _ _ _ (by have := owns_base hown g hg; show g ≠ rp; omega))
  have hml : (L ++ [r]).length ≤ maxLen := by
    rcases hown.2 with ⟨q, _⟩ | ⟨g, c2, cur, q, _, _, hn, hm, _⟩
    · cases q
    · rw [e1]; omega
  obtain ⟨a2, c2, he, -, -, hR, -⟩ := own_reqs0 hown2 hok hml
  cases he
  have RS := range_set (cs := [.int .i64 (k : Int), .int .i64 (room : Int), .slice a L.length cap]) (w := W) (b := rp) (o := 0) (fun j v hv => by
    match j, hv with
    | 0, hv => simp at hv; subst hv; exact hW.c0
    | 1, hv => simp at hv; subst hv; exact hW.c1
    | 2, hv => simp at hv; subst hv; exact hW.c2
    | n + 3, hv => simp at hv) 2 (.slice vea (L.length + 1) vec)
  have r0 := RS 0 _ rfl
  have r1 := RS 1 _ rfl
  have r2 := RS 2 _ rfl
  simp only [Nat.zero_add] at r0 r1 r2
  exact ⟨⟨r0, r1, by rw [e1]; exact r2, there_set hW.th _ _, hR, hne, fun x hx => by have := hlt x hx; simpa [World.setCell] using this⟩, hbase⟩
def RefNext (w w' : World) (rp k room : Nat) (a : Option Addr) (L : List Rq) : Prop := ∃ a' cap', RefAt w' rp k room a' cap' L ∧ Off (fun b => b = rp) w w' ∧ ∀ x, a' = some x → a = some x ∨ w.heap.size ≤ x.block
def raddE (k room : Nat) (L : List Rq) (r : Rq) : Int :=
  if r.c < 0 ∨ r.n < 0 then 2 else if pk r ∈ L.map pk then 101 else if room ≤ (L.filter (inB k (bucketV r.c r.n (k : Int)))).length then 100 else 0
def raddL (k room : Nat) (L : List Rq) (r : Rq) : List Rq := if raddE k room L r = 0 then L ++ [r] else L
set_option maxRecDepth 100000 in
set_option maxHeartbeats 4000000 in
theorem radd_any (rp k room : Nat) (a : Option Addr) (cap : Nat) (L : List Rq) (r : Rq) (w : World) (h : RefAt w rp k room a cap L) (hr : r.ok) (hk : k ≤ 64) (hL : L.length ≤ 100000) :
    Calls Tryd.prog 26 #[rptr rp, .agg r.cells.toArray] w fun e w' => e = .returned (.int .i64 (raddE k room L r)) ∧ RefNext w w' rp k room a (raddL k room L r) := by
  have hB1 : Below w.heap.size w (w.alloc (.cells r.cells.toArray 35)) := (Below.refl _ _).alloc (Nat.le_refl _) _
  have hR1 : (w.alloc (.cells r.cells.toArray 35)).rangeAt w.heap.size 0 r.cells := by simpa using range_new w r.cells.toArray 35
  have hXW : w.heap.size < (w.alloc (.cells r.cells.toArray 35)).heap.size := by simp
  obtain ⟨W1, hW1⟩ : ∃ W1, w.alloc (.cells r.cells.toArray 35) = W1 := ⟨_, rfl⟩
  rw [hW1] at hB1 hR1 hXW
  have hiu := hr.isz
  have hul := hr.length
  have hu1 := r.one
  obtain ⟨d0, d1, -⟩ := reqL_0 hR1
  have hkw : (Lit.int .i64 (k : Int)).wf = true := by simp [Lit.wf, IntKind.min, IntKind.max, IntKind.signed, IntKind.bits]; omega
  have cb := fun W => refBucket_any r.c r.n (k : Int) W hr.ch hr.nh hkw
  have chs := rhas_any rp k room a cap L r.c r.n W1 (h.below hB1)
  have cin := fun z W h0 => rin_any rp k room a cap L z W h0 hk hL
  have stay : ∀ w', Below w.heap.size w w' → raddL k room L r = L → RefNext w w' rp k room a (raddL k room L r) := fun w' hb e => ⟨a, cap, by rw [e]; exact h.below hb, Off.of_below hb, fun x hx => .inl hx⟩
  obtain ⟨u, hu⟩ : ∃ u, Hid (r.cells = u) := ⟨_, hide rfl⟩
  rw [hu.out] at hR1 hiu hul hu1 hW1 ⊢
  have HE : Hid (raddE k room L r = if r.c < 0 ∨ r.n < 0 then 2 else if pk r ∈ L.map pk then 101 else if room ≤ (L.filter (inB k (bucketV r.c r.n (k : Int)))).length then 100 else 0) := hide rfl
  unfold rptr at chs cin ⊢
  by_cases hneg : r.c < 0 ∨ r.n < 0
  · have HE0 : Hid (raddE k room L r = 2) := hide (by rw [HE.out, if_pos hneg])
    have HL0 : Hid (raddL k room L r = L) := hide (by unfold raddL; rw [HE0.out]; rfl)
    rw [HE0.out]
    clear HE chs cin cb HE0
    by_cases hc : r.c < 0
    · clear hneg
      go_enter Tryd.func26, Tryd.ntmps26
      go_wp2_with fail
      go_ret
      exact ⟨rfl, stay _ hB1 HL0.out⟩
    · have hn : r.n < 0 := by omega
      clear hneg
      go_enter Tryd.func26, Tryd.ntmps26
      go_wp2_with fail
      go_ret
      exact ⟨rfl, stay _ hB1 HL0.out⟩
  rw [if_neg hneg] at HE
  have hc : ¬ r.c < 0 := by omega
  have hn : ¬ r.n < 0 := by omega
  clear hneg
  by_cases hm : pk r ∈ L.map pk
  · have HE0 : Hid (raddE k room L r = 101) := hide (by rw [HE.out, if_pos hm])
    have HL0 : Hid (raddL k room L r = L) := hide (by unfold raddL; rw [HE0.out]; rfl)
    rw [HE0.out]
    rw [decide_eq_true (show (r.c, r.n) ∈ L.map pk from hm)] at chs
    clear HE cin cb HE0 hm
    go_enter Tryd.func26, Tryd.ntmps26
    go_wp2_with fail
    refine chs.mono ?_
    rintro e w2 ⟨rfl, hb2⟩
    clear chs
    go_wp2_with fail
    go_ret
    exact ⟨rfl, stay _ (hB1.trans (hb2.mono hB1.size)) HL0.out⟩
  rw [if_neg hm] at HE
  rw [decide_eq_false (show ¬ (r.c, r.n) ∈ L.map pk from hm)] at chs
  obtain ⟨Bv, hBv⟩ : ∃ Bv, Hid (bucketV r.c r.n (k : Int) = Bv) := ⟨_, hide rfl⟩
  simp only [hBv.out] at cb
  rw [hBv.out] at HE
  have cin := cin Bv
  obtain ⟨IL, hIL⟩ : ∃ IL : Nat, Hid ((L.filter (inB k Bv)).length = IL) := ⟨_, hide rfl⟩
  simp only [hIL.out] at cin
  rw [hIL.out] at HE
  clear hm hBv
  go_enter Tryd.func26, Tryd.ntmps26
  go_wp2_with fail
  refine chs.mono ?_
  rintro e w2 ⟨rfl, hb2⟩
  have hB2 := hB1.trans (hb2.mono hB1.size)
  have hR2 := range_below hR1 hb2 hXW
  have hX2 := Nat.lt_of_lt_of_le hXW hb2.size
  clear chs d0 d1
  go_upto_region 5 with fail
  obtain ⟨w8, hw8⟩ : ∃ w8, w2.drew = w8 := ⟨_, rfl⟩
  have hB28 : Below w2.heap.size w2 w8 := by rw [← hw8]; exact (Below.refl _ _).drew
  have hB8 := hB2.trans (hB28.mono hB2.size)
  have hRf8 := h.below hB8
  have hR8 := range_below hR2 hB28 hX2
  have hX8 := Nat.lt_of_lt_of_le hX2 hB28.size
  rw [← hu.out] at hR8
  have x0 : ∀ w', Below w8.heap.size w8 w' → w'.cell? ⟨w.heap.size, 0, none⟩ = some (.int .i64 r.c) := fun w' hw' => (reqL_0 (range_below hR8 hw' hX8)).1
  have x1 : ∀ w', Below w8.heap.size w8 w' → w'.cell? ⟨w.heap.size, 1, none⟩ = some (.int .i64 r.n) := fun w' hw' => (reqL_0 (range_below hR8 hw' hX8)).2.1
  rw [hu.out] at hR8
  have k0 : ∀ w', Below w8.heap.size w8 w' → w'.cell? ⟨rp, 0, none⟩ = some (.int .i64 (k : Int)) := fun w' hw' => (hRf8.below hw').c0
  have k1 : ∀ w', Below w8.heap.size w8 w' → w'.cell? ⟨rp, 1, none⟩ = some (.int .i64 (room : Int)) := fun w' hw' => (hRf8.below hw').c1
  by_cases hfull : room ≤ IL
  · have HE0 : Hid (raddE k room L r = 100) := hide (by rw [HE.out, if_pos hfull])
    have HL0 : Hid (raddL k room L r = L) := hide (by unfold raddL; rw [HE0.out]; rfl)
    have hfI : (room : Int) ≤ (IL : Int) := by omega
    refine hs_begin (S := (Below w8.heap.size w8)) 17 rfl (by kernel_rfl) ?_
    rw [hw8]
    clear hw8
    have hS : (Below w8.heap.size w8) w8 := Below.refl _ _
    refine hs_take (i := 0) (d := some 19) (v := ?_) rfl (by kernel_rfl) (by kernel_rfl) (by kernel_rfl) (by rfl) ?_ hS rfl ?_
    rotate_left
    · intro w' hw
      go_simp
      try with_reducible rfl
    simp only [Act.put, List.setIfInBounds_toArray, List.set_cons_zero, List.set_cons_succ]
    refine hs_take (i := 1) (d := some 20) (v := ?_) rfl (by kernel_rfl) (by kernel_rfl) (by kernel_rfl) (by rfl) ?_ hS rfl ?_
    rotate_left
    · intro w' hw
      go_simp
      try with_reducible rfl
    simp only [Act.put, List.setIfInBounds_toArray, List.set_cons_zero, List.set_cons_succ]
    refine hs_take (i := 2) (d := some 21) (v := ?_) rfl (by kernel_rfl) (by kernel_rfl) (by kernel_rfl) (by rfl) ?_ hS rfl ?_
    rotate_left
    · intro w' hw
      have hc := x0 w' hw
      go_simp
      try with_reducible rfl
    simp only [Act.put, List.setIfInBounds_toArray, List.set_cons_zero, List.set_cons_succ]
    refine hs_take (i := 3) (d := some 22) (v := ?_) rfl (by kernel_rfl) (by kernel_rfl) (by kernel_rfl) (by rfl) ?_ hS rfl ?_
    rotate_left
    · intro w' hw
      go_simp
      try with_reducible rfl
    simp only [Act.put, List.setIfInBounds_toArray, List.set_cons_zero, List.set_cons_succ]
    refine hs_take (i := 4) (d := some 23) (v := ?_) rfl (by kernel_rfl) (by kernel_rfl) (by kernel_rfl) (by rfl) ?_ hS rfl ?_
    rotate_left
    · intro w' hw
      have hc := x1 w' hw
      go_simp
      try with_reducible rfl
    simp only [Act.put, List.setIfInBounds_toArray, List.set_cons_zero, List.set_cons_succ]
    refine hs_take (i := 5) (d := some 24) (v := ?_) rfl (by kernel_rfl) (by kernel_rfl) (by kernel_rfl) (by rfl) ?_ hS rfl ?_
    rotate_left
    · intro w' hw
      go_simp
      try with_reducible rfl
    simp only [Act.put, List.setIfInBounds_toArray, List.set_cons_zero, List.set_cons_succ]
    refine hs_take (i := 6) (d := some 25) (v := ?_) rfl (by kernel_rfl) (by kernel_rfl) (by kernel_rfl) (by rfl) ?_ hS rfl ?_
    rotate_left
    · intro w' hw
      go_simp
      try with_reducible rfl
    simp only [Act.put, List.setIfInBounds_toArray, List.set_cons_zero, List.set_cons_succ]
    refine hs_take (i := 7) (d := some 26) (v := ?_) rfl (by kernel_rfl) (by kernel_rfl) (by kernel_rfl) (by rfl) ?_ hS rfl ?_
    rotate_left
    · intro w' hw
      go_simp
      try with_reducible rfl
    simp only [Act.put, List.setIfInBounds_toArray, List.set_cons_zero, List.set_cons_succ]
    refine hs_take (i := 8) (d := some 27) (v := ?_) rfl (by kernel_rfl) (by kernel_rfl) (by kernel_rfl) (by rfl) ?_ hS rfl ?_
    rotate_left
    · intro w' hw
      have hc := k0 w' hw
      go_simp
      try with_reducible rfl
    simp only [Act.put, List.setIfInBounds_toArray, List.set_cons_zero, List.set_cons_succ]
    refine hs_take (i := 12) (d := some 31) (v := ?_) rfl (by kernel_rfl) (by kernel_rfl) (by kernel_rfl) (by rfl) ?_ hS rfl ?_
    rotate_left
    · intro w' hw
      go_simp
      try with_reducible rfl
    simp only [Act.put, List.setIfInBounds_toArray, List.set_cons_zero, List.set_cons_succ]
    refine hs_take (i := 13) (d := some 32) (v := ?_) rfl (by kernel_rfl) (by kernel_rfl) (by kernel_rfl) (by rfl) ?_ hS rfl ?_
    rotate_left
    · intro w' hw
      go_simp
      try with_reducible rfl
    simp only [Act.put, List.setIfInBounds_toArray, List.set_cons_zero, List.set_cons_succ]
    refine hs_take (i := 14) (d := some 33) (v := ?_) rfl (by kernel_rfl) (by kernel_rfl) (by kernel_rfl) (by rfl) ?_ hS rfl ?_
    rotate_left
    · intro w' hw
      go_simp
      try with_reducible rfl
    simp only [Act.put, List.setIfInBounds_toArray, List.set_cons_zero, List.set_cons_succ]
    refine hs_take (i := 15) (d := some 34) (v := ?_) rfl (by kernel_rfl) (by kernel_rfl) (by kernel_rfl) (by rfl) ?_ hS rfl ?_
    rotate_left
    · intro w' hw
      have hc := k1 w' hw
      go_simp
      try with_reducible rfl
    simp only [Act.put, List.setIfInBounds_toArray, List.set_cons_zero, List.set_cons_succ]
    refine hs_call (i := 9) (d := some 28) rfl (by kernel_rfl) (by rfl) (by go_simp; first | done | exact ⟨rfl, rfl⟩ | with_reducible rfl) rfl ?_
    refine (cb w8).mono ?_
    rintro e' wA ⟨rfl, hbA⟩
    have hS : (Below w8.heap.size w8) wA := hbA
    refine ⟨_, rfl, hS, ?_⟩
    simp only [Act.put, List.setIfInBounds_toArray, List.set_cons_zero, List.set_cons_succ]
    refine hs_call (i := 10) (d := some 29) rfl (by kernel_rfl) (by rfl) (by go_simp; first | done | exact ⟨rfl, rfl⟩ | with_reducible rfl) rfl ?_
    refine (cin wA (hRf8.below hbA)).mono ?_
    rintro e' wB ⟨vv, rfl, hov, hbB⟩
    obtain ⟨iva, ivc, rfl⟩ := owns_slice hov
    have hS : (Below w8.heap.size w8) wB := hbA.trans (hbB.mono hbA.size)
    refine ⟨_, rfl, hS, ?_⟩
    simp only [Act.put, List.setIfInBounds_toArray, List.set_cons_zero, List.set_cons_succ]
    refine hs_take (i := 11) (d := some 30) (v := ?_) rfl (by kernel_rfl) (by kernel_rfl) (by kernel_rfl) (by rfl) ?_ hS rfl ?_
    rotate_left
    · intro w' hw
      go_simp
      try with_reducible rfl
    simp only [Act.put, List.setIfInBounds_toArray, List.set_cons_zero, List.set_cons_succ]
    refine hs_take (i := 16) (d := some 35) (v := .bool true) rfl (by kernel_rfl) (by kernel_rfl) (by kernel_rfl) (by rfl) (fun w' hw => by go_simp) hS rfl ?_
    simp only [Act.put, List.setIfInBounds_toArray, List.set_cons_zero, List.set_cons_succ]
    refine hs_done (by kernel_rfl) ?_
    have hBf := hB8.trans (hS.mono hB8.size)
    go_wp2_with fail
    go_ret
    exact ⟨by rw [HE0.out]; rfl, stay _ hBf HL0.out⟩
  · have HE0 : Hid (raddE k room L r = 0) := hide (by rw [HE.out, if_neg hfull])
    have HL0 : Hid (raddL k room L r = L ++ [r]) := hide (by unfold raddL; rw [if_pos HE0.out])
    have hfI : ¬ (room : Int) ≤ (IL : Int) := by omega
    refine hs_begin (S := (Below w8.heap.size w8)) 17 rfl (by kernel_rfl) ?_
    rw [hw8]
    clear hw8
    have hS : (Below w8.heap.size w8) w8 := Below.refl _ _
    refine hs_take (i := 0) (d := some 19) (v := ?_) rfl (by kernel_rfl) (by kernel_rfl) (by kernel_rfl) (by rfl) ?_ hS rfl ?_
    rotate_left
    · intro w' hw
      go_simp
      try with_reducible rfl
    simp only [Act.put, List.setIfInBounds_toArray, List.set_cons_zero, List.set_cons_succ]
    refine hs_take (i := 1) (d := some 20) (v := ?_) rfl (by kernel_rfl) (by kernel_rfl) (by kernel_rfl) (by rfl) ?_ hS rfl ?_
    rotate_left
    · intro w' hw
      go_simp
      try with_reducible rfl
    simp only [Act.put, List.setIfInBounds_toArray, List.set_cons_zero, List.set_cons_succ]
    refine hs_take (i := 2) (d := some 21) (v := ?_) rfl (by kernel_rfl) (by kernel_rfl) (by kernel_rfl) (by rfl) ?_ hS rfl ?_
    rotate_left
    · intro w' hw
      have hc := x0 w' hw
      go_simp
      try with_reducible rfl
    simp only [Act.put, List.setIfInBounds_toArray, List.set_cons_zero, List.set_cons_succ]
    refine hs_take (i := 3) (d := some 22) (v := ?_) rfl (by kernel_rfl) (by kernel_rfl) (by kernel_rfl) (by rfl) ?_ hS rfl ?_
    rotate_left
    · intro w' hw
      go_simp
      try with_reducible rfl
    simp only [Act.put, List.setIfInBounds_toArray, List.set_cons_zero, List.set_cons_succ]
    refine hs_take (i := 4) (d := some 23) (v := ?_) rfl (by kernel_rfl) (by kernel_rfl) (by kernel_rfl) (by rfl) ?_ hS rfl ?_
    rotate_left
    · intro w' hw
      have hc := x1 w' hw
      go_simp
      try with_reducible rfl
    simp only [Act.put, List.setIfInBounds_toArray, List.set_cons_zero, List.set_cons_succ]
    refine hs_take (i := 5) (d := some 24) (v := ?_) rfl (by kernel_rfl) (by kernel_rfl) (by kernel_rfl) (by rfl) ?_ hS rfl ?_
    rotate_left
    · intro w' hw
      go_simp
      try with_reducible rfl
    simp only [Act.put, List.setIfInBounds_toArray, List.set_cons_zero, List.set_cons_succ]
    refine hs_take (i := 6) (d := some 25) (v := ?_) rfl (by kernel_rfl) (by kernel_rfl) (by kernel_rfl) (by rfl) ?_ hS rfl ?_
    rotate_left
    · intro w' hw
      go_simp
      try with_reducible rfl
    simp only [Act.put, List.setIfInBounds_toArray, List.set_cons_zero, List.set_cons_succ]
    refine hs_take (i := 7) (d := some 26) (v := ?_) rfl (by kernel_rfl) (by kernel_rfl) (by kernel_rfl) (by rfl) ?_ hS rfl ?_
    rotate_left
    · intro w' hw
      go_simp
      try with_reducible rfl
    simp only [Act.put, List.setIfInBounds_toArray, List.set_cons_zero, List.set_cons_succ]
    refine hs_take (i := 8) (d := some 27) (v := ?_) rfl (by kernel_rfl) (by kernel_rfl) (by kernel_rfl) (by rfl) ?_ hS rfl ?_
    rotate_left
    · intro w' hw
      have hc := k0 w' hw
      go_simp
      try with_reducible rfl
    simp only [Act.put, List.setIfInBounds_toArray, List.set_cons_zero, List.set_cons_succ]
    refine hs_take (i := 12) (d := some 31) (v := ?_) rfl (by kernel_rfl) (by kernel_rfl) (by kernel_rfl) (by rfl) ?_ hS rfl ?_
    rotate_left
    · intro w' hw
      go_simp
      try with_reducible rfl
    simp only [Act.put, List.setIfInBounds_toArray, List.set_cons_zero, List.set_cons_succ]
    refine hs_take (i := 13) (d := some 32) (v := ?_) rfl (by kernel_rfl) (by kernel_rfl) (by kernel_rfl) (by rfl) ?_ hS rfl ?_
    rotate_left
    · intro w' hw
      go_simp
      try with_reducible rfl
    simp only [Act.put, List.setIfInBounds_toArray, List.set_cons_zero, List.set_cons_succ]
    refine hs_take (i := 14) (d := some 33) (v := ?_) rfl (by kernel_rfl) (by kernel_rfl) (by kernel_rfl) (by rfl) ?_ hS rfl ?_
    rotate_left
    · intro w' hw
      go_simp
      try with_reducible rfl
    simp only [Act.put, List.setIfInBounds_toArray, List.set_cons_zero, List.set_cons_succ]
    refine hs_take (i := 15) (d := some 34) (v := ?_) rfl (by kernel_rfl) (by kernel_rfl) (by kernel_rfl) (by rfl) ?_ hS rfl ?_
    rotate_left
    · intro w' hw
      have hc := k1 w' hw
      go_simp
      try with_reducible rfl
    simp only [Act.put, List.setIfInBounds_toArray, List.set_cons_zero, List.set_cons_succ]
    refine hs_call (i := 9) (d := some 28) rfl (by kernel_rfl) (by rfl) (by go_simp; first | done | exact ⟨rfl, rfl⟩ | with_reducible rfl) rfl ?_
    refine (cb w8).mono ?_
    rintro e' wA ⟨rfl, hbA⟩
    have hS : (Below w8.heap.size w8) wA := hbA
    refine ⟨_, rfl, hS, ?_⟩
    simp only [Act.put, List.setIfInBounds_toArray, List.set_cons_zero, List.set_cons_succ]
    refine hs_call (i := 10) (d := some 29) rfl (by kernel_rfl) (by rfl) (by go_simp; first | done | exact ⟨rfl, rfl⟩ | with_reducible rfl) rfl ?_
    refine (cin wA (hRf8.below hbA)).mono ?_
    rintro e' wB ⟨vv, rfl, hov, hbB⟩
    obtain ⟨iva, ivc, rfl⟩ := owns_slice hov
    have hS : (Below w8.heap.size w8) wB := hbA.trans (hbB.mono hbA.size)
    refine ⟨_, rfl, hS, ?_⟩
    simp only [Act.put, List.setIfInBounds_toArray, List.set_cons_zero, List.set_cons_succ]
    refine hs_take (i := 11) (d := some 30) (v := ?_) rfl (by kernel_rfl) (by kernel_rfl) (by kernel_rfl) (by rfl) ?_ hS rfl ?_
    rotate_left
    · intro w' hw
      go_simp
      try with_reducible rfl
    simp only [Act.put, List.setIfInBounds_toArray, List.set_cons_zero, List.set_cons_succ]
    refine hs_take (i := 16) (d := some 35) (v := .bool false) rfl (by kernel_rfl) (by kernel_rfl) (by kernel_rfl) (by rfl) (fun w' hw => by go_simp) hS rfl ?_
    simp only [Act.put, List.setIfInBounds_toArray, List.set_cons_zero, List.set_cons_succ]
    refine hs_done (by kernel_rfl) ?_
    have hBf := hB8.trans (hS.mono hB8.size)
    have hRB := range_below hR8 hS hX8
    have hXB := Nat.lt_of_lt_of_le hX8 hS.size
    go_upto_region 7 with fail
    obtain ⟨w9, hw9⟩ : ∃ w9, wB.drew = w9 := ⟨_, rfl⟩
    have hBB9 : Below wB.heap.size wB w9 := by rw [← hw9]; exact (Below.refl _ _).drew
    have hB9 := hBf.trans (hBB9.mono hBf.size)
    have hRf9 := h.below hB9
    have hR9 := range_below hRB hBB9 hXB
    have hX9 := Nat.lt_of_lt_of_le hXB hBB9.size
    have hxr : w.heap.size ≠ rp := by have := h.lt; omega
    have kx : ∀ w', Off (fun b => b = rp) w9 w' → w'.rangeAt w.heap.size 0 u := fun w' hw' => range_at hR9 (hw'.2 _ hX9 hxr)
    clear x0 x1 k0 k1 stay cin cb
    refine hs_begin (S := (Off (fun b => b = rp) w9)) 13 rfl (by kernel_rfl) ?_
    rw [hw9]
    clear hw9
    have hS : (Off (fun b => b = rp) w9) w9 := Off.refl _ _
    have hB : Below w9.heap.size w9 w9 := Below.refl _ _
    refine hs_take (i := 0) (d := some 36) (v := ?_) rfl (by kernel_rfl) (by kernel_rfl) (by kernel_rfl) (by rfl) ?_ hS rfl ?_
    rotate_left
    · intro w' hw
      go_simp
      try with_reducible rfl
    simp only [Act.put, List.setIfInBounds_toArray, List.set_cons_zero, List.set_cons_succ]
    refine hs_take (i := 2) (d := some 38) (v := ?_) rfl (by kernel_rfl) (by kernel_rfl) (by kernel_rfl) (by rfl) ?_ hS rfl ?_
    rotate_left
    · intro w' hw
      go_simp
      try with_reducible rfl
    simp only [Act.put, List.setIfInBounds_toArray, List.set_cons_zero, List.set_cons_succ]
    refine hs_take (i := 3) (d := some 39) (v := ?_) rfl (by kernel_rfl) (by kernel_rfl) (by kernel_rfl) (by rfl) ?_ hS rfl ?_
    rotate_left
    · intro w' hw
      go_simp
      try with_reducible rfl
    simp only [Act.put, List.setIfInBounds_toArray, List.set_cons_zero, List.set_cons_succ]
    refine hs_take (i := 4) (d := some 40) (v := ?_) rfl (by kernel_rfl) (by kernel_rfl) (by kernel_rfl) (by rfl) ?_ hS rfl ?_
    rotate_left
    · intro w' hw
      go_simp
      try with_reducible rfl
    simp only [Act.put, List.setIfInBounds_toArray, List.set_cons_zero, List.set_cons_succ]
    refine hs_take (i := 7) (d := some 43) (v := .agg u.toArray) rfl (by kernel_rfl) (by kernel_rfl) (by kernel_rfl) (by rfl) (fun w' hw => exec_load rfl rfl (run_loadVar_mid (P := Tryd.prog) w' w.heap.size 0 35 u _ (kx w' hw) Tryd.underlying35 rfl hiu)) hS rfl ?_
    simp only [Act.put, List.setIfInBounds_toArray, List.set_cons_zero, List.set_cons_succ]
    refine hs_forkL (l := [1, 5, 8]) (by kernel_rfl) (by simp) ?_
    intro ii hii
    simp only [List.mem_cons, List.not_mem_nil, or_false] at hii
    rcases hii with rfl | rfl | rfl
    · refine st_runX (i := 1) (d := some 37) rfl (by rfl) rfl (ex_bs0 rfl) ?_
      rintro vB W' ⟨hbW, hown0⟩
      have hown := owns_weak hown0 hB.size
      have hB := hB.trans (hbW.mono hB.size)
      clear hbW hown0
      refine ⟨Off.of_below hB, ?_⟩
      simp only [Act.put, List.setIfInBounds_toArray, List.set_cons_zero, List.set_cons_succ]
      refine hs_forkL (l := [5, 8]) (by kernel_rfl) (by simp) ?_
      intro ii hii
      simp only [List.mem_cons, List.not_mem_nil, or_false] at hii
      rcases hii with rfl | rfl
      · refine st_runX (i := 5) (d := some 41) rfl (by rfl) rfl (ex_load rfl rfl (hRf9.below hB).c2) ?_
        rintro vA W' ⟨rfl, hx⟩
        obtain rfl := hx.symm
        clear hx
        refine ⟨Off.of_below hB, ?_⟩
        simp only [Act.put, List.setIfInBounds_toArray, List.set_cons_zero, List.set_cons_succ]
        refine hs_forkL (l := [6, 8]) (by kernel_rfl) (by simp) ?_
        intro ii hii
        simp only [List.mem_cons, List.not_mem_nil, or_false] at hii
        rcases hii with rfl | rfl
        · refine st_runX (i := 6) (d := some 42) rfl (by rfl) rfl (ex_append rfl rfl rfl hown hB.size (hRf9.below hB).row hL) ?_
          rintro vD W' ⟨hownD, hgrD, hapD⟩
          have hB := hB.grown hgrD hB.size (owns_base hown)
          clear hown hgrD hapD
          have hown := hownD
          obtain ⟨vB, hvB⟩ : ∃ x, x = vD := ⟨_, rfl⟩
          rw [← hvB] at hown ⊢
          clear hvB hownD
          refine ⟨Off.of_below hB, ?_⟩
          simp only [Act.put, List.setIfInBounds_toArray, List.set_cons_zero, List.set_cons_succ]
          refine hs_runX (i := 8) (d := some 44) rfl (by kernel_rfl) (by rfl) rfl (ex_bs1 rfl rfl hul) ?_
          rintro vC W' ⟨cb, rfl, hrC, hlC, hgC, hbW⟩
          have hgC2 := Nat.le_trans hB.size hgC
          have hnB : ∀ g, vB.ownBlock = some g → g ≠ cb := fun g hg => by have := owns_lt hown hg; omega
          have hown := ownsB hown hbW
          have hB := hB.trans (hbW.mono hB.size)
          clear hbW hgC
          refine ⟨Off.of_below hB, ?_⟩
          simp only [Act.put, List.setIfInBounds_toArray, List.set_cons_zero, List.set_cons_succ]
          refine hs_runX (i := 9) (d := some 45) rfl (by kernel_rfl) (by rfl) rfl (ex_append1 rfl rfl rfl hown hB.size hrC hul hu1 hL) ?_
          rintro vE W' ⟨hownE, hgrE, hapE⟩
          have hB := hB.grown hgrE hB.size (owns_base hown)
          refine ⟨Off.of_below hB, ?_⟩
          have hS := Off.of_below (F := fun b => b = rp) hB
          simp only [Act.put, List.setIfInBounds_toArray, List.set_cons_zero, List.set_cons_succ]
          refine hs_take (i := 10) (d := some 46) (v := ?_) rfl (by kernel_rfl) (by kernel_rfl) (by kernel_rfl) (by rfl) ?_ hS rfl ?_
          rotate_left
          · intro w' hw
            go_simp
            try with_reducible rfl
          simp only [Act.put, List.setIfInBounds_toArray, List.set_cons_zero, List.set_cons_succ]
          refine hs_take (i := 11) (d := some 47) (v := ?_) rfl (by kernel_rfl) (by kernel_rfl) (by kernel_rfl) (by rfl) ?_ hS rfl ?_
          rotate_left
          · intro w' hw
            go_simp
            try with_reducible rfl
          simp only [Act.put, List.setIfInBounds_toArray, List.set_cons_zero, List.set_cons_succ]
          have hlE := (hRf9.below (hB)).th
          obtain ⟨vea, vec, rfl⟩ := owns_slice hownE
          have hst := run_store1 (P := Tryd.prog) _ rp 2 43 (.slice vea (L.length + 1) vec) (by have := there_part hlE 2 1 (by omega); rwa [Nat.zero_add] at this) iszV rfl
          have hSF := (Off.of_below (F := fun b => b = rp) hB).trans (Off.of_setCell (F := fun b => b = rp) _ ⟨rp, 2, none⟩ (.slice vea (L.length + 1) vec) rfl) (fun _ _ q => q)
          refine hs_store (i := 12) rfl (by kernel_rfl) (by rfl) (exec_storeP rfl rfl rfl hst) rfl hSF ?_
          refine hs_done (by kernel_rfl) ?_
          have HFIN := hide (ref_fin hRf9 hB hownE hu.out hr)
          go_wp2_with fail
          go_ret
          exact ⟨by rw [HE0.out]; rfl, ⟨_, _, by rw [HL0.out]; exact HFIN.out.1, (Off.of_below hB9).trans hSF (fun _ _ q => q), fun x hx => .inr (Nat.le_trans hB9.size (HFIN.out.2 x hx))⟩⟩
        · refine st_runX (i := 8) (d := some 44) rfl (by rfl) rfl (ex_bs1 rfl rfl hul) ?_
          rintro vC W' ⟨cb, rfl, hrC, hlC, hgC, hbW⟩
          have hgC2 := Nat.le_trans hB.size hgC
          have hnB : ∀ g, vB.ownBlock = some g → g ≠ cb := fun g hg => by have := owns_lt hown hg; omega
          have hown := ownsB hown hbW
          have hB := hB.trans (hbW.mono hB.size)
          clear hbW hgC
          refine ⟨Off.of_below hB, ?_⟩
          simp only [Act.put, List.setIfInBounds_toArray, List.set_cons_zero, List.set_cons_succ]
          refine hs_runX (i := 6) (d := some 42) rfl (by kernel_rfl) (by rfl) rfl (ex_append rfl rfl rfl hown hB.size (hRf9.below hB).row hL) ?_
          rintro vD W' ⟨hownD, hgrD, hapD⟩
          have hrC := range_at hrC (hgrD.block _ hlC (fun e => hnB _ e.symm rfl))
          have hnD : ∀ g, vD.ownBlock = some g → g ≠ cb := fun g hg => by
            rcases hapD g hg with q | q
            · exact hnB g q
            · omega
          have hlC := Nat.lt_of_lt_of_le hlC hgrD.size
          have hB := hB.grown hgrD hB.size (owns_base hown)
          clear hown hgrD hapD
          have hown := hownD
          have hnB := hnD
          obtain ⟨vB, hvB⟩ : ∃ x, x = vD := ⟨_, rfl⟩
          rw [← hvB] at hown ⊢
          rw [← hvB] at hnB
          clear hvB hownD
          refine ⟨Off.of_below hB, ?_⟩
          simp only [Act.put, List.setIfInBounds_toArray, List.set_cons_zero, List.set_cons_succ]
          refine hs_runX (i := 9) (d := some 45) rfl (by kernel_rfl) (by rfl) rfl (ex_append1 rfl rfl rfl hown hB.size hrC hul hu1 hL) ?_
          rintro vE W' ⟨hownE, hgrE, hapE⟩
          have hB := hB.grown hgrE hB.size (owns_base hown)
          refine ⟨Off.of_below hB, ?_⟩
          have hS := Off.of_below (F := fun b => b = rp) hB
          simp only [Act.put, List.setIfInBounds_toArray, List.set_cons_zero, List.set_cons_succ]
          refine hs_take (i := 10) (d := some 46) (v := ?_) rfl (by kernel_rfl) (by kernel_rfl) (by kernel_rfl) (by rfl) ?_ hS rfl ?_
          rotate_left
          · intro w' hw
            go_simp
            try with_reducible rfl
          simp only [Act.put, List.setIfInBounds_toArray, List.set_cons_zero, List.set_cons_succ]
          refine hs_take (i := 11) (d := some 47) (v := ?_) rfl (by kernel_rfl) (by kernel_rfl) (by kernel_rfl) (by rfl) ?_ hS rfl ?_
          rotate_left
          · intro w' hw
            go_simp
            try with_reducible rfl
          simp only [Act.put, List.setIfInBounds_toArray, List.set_cons_zero, List.set_cons_succ]
          have hlE := (hRf9.below (hB)).th
          obtain ⟨vea, vec, rfl⟩ := owns_slice hownE
          have hst := run_store1 (P := Tryd.prog) _ rp 2 43 (.slice vea (L.length + 1) vec) (by have := there_part hlE 2 1 (by omega); rwa [Nat.zero_add] at this) iszV rfl
          have hSF := (Off.of_below (F := fun b => b = rp) hB).trans (Off.of_setCell (F := fun b => b = rp) _ ⟨rp, 2, none⟩ (.slice vea (L.length + 1) vec) rfl) (fun _ _ q => q)
          refine hs_store (i := 12) rfl (by kernel_rfl) (by rfl) (exec_storeP rfl rfl rfl hst) rfl hSF ?_
          refine hs_done (by kernel_rfl) ?_
          have HFIN := hide (ref_fin hRf9 hB hownE hu.out hr)
          go_wp2_with fail
          go_ret
          exact ⟨by rw [HE0.out]; rfl, ⟨_, _, by rw [HL0.out]; exact HFIN.out.1, (Off.of_below hB9).trans hSF (fun _ _ q => q), fun x hx => .inr (Nat.le_trans hB9.size (HFIN.out.2 x hx))⟩⟩
      · refine st_runX (i := 8) (d := some 44) rfl (by rfl) rfl (ex_bs1 rfl rfl hul) ?_
        rintro vC W' ⟨cb, rfl, hrC, hlC, hgC, hbW⟩
        have hgC2 := Nat.le_trans hB.size hgC
        have hnB : ∀ g, vB.ownBlock = some g → g ≠ cb := fun g hg => by have := owns_lt hown hg; omega
        have hown := ownsB hown hbW
        have hB := hB.trans (hbW.mono hB.size)
        clear hbW hgC
        refine ⟨Off.of_below hB, ?_⟩
        simp only [Act.put, List.setIfInBounds_toArray, List.set_cons_zero, List.set_cons_succ]
        refine hs_runX (i := 5) (d := some 41) rfl (by kernel_rfl) (by rfl) rfl (ex_load rfl rfl (hRf9.below hB).c2) ?_
        rintro vA W' ⟨rfl, hx⟩
        obtain rfl := hx.symm
        clear hx
        refine ⟨Off.of_below hB, ?_⟩
        simp only [Act.put, List.setIfInBounds_toArray, List.set_cons_zero, List.set_cons_succ]
        refine hs_runX (i := 6) (d := some 42) rfl (by kernel_rfl) (by rfl) rfl (ex_append rfl rfl rfl hown hB.size (hRf9.below hB).row hL) ?_
        rintro vD W' ⟨hownD, hgrD, hapD⟩
        have hrC := range_at hrC (hgrD.block _ hlC (fun e => hnB _ e.symm rfl))
        have hnD : ∀ g, vD.ownBlock = some g → g ≠ cb := fun g hg => by
          rcases hapD g hg with q | q
          · exact hnB g q
          · omega
        have hlC := Nat.lt_of_lt_of_le hlC hgrD.size
        have hB := hB.grown hgrD hB.size (owns_base hown)
        clear hown hgrD hapD
        have hown := hownD
        have hnB := hnD
        obtain ⟨vB, hvB⟩ : ∃ x, x = vD := ⟨_, rfl⟩
        rw [← hvB] at hown ⊢
        rw [← hvB] at hnB
        clear hvB hownD
        refine ⟨Off.of_below hB, ?_⟩
        simp only [Act.put, List.setIfInBounds_toArray, List.set_cons_zero, List.set_cons_succ]
        refine hs_runX (i := 9) (d := some 45) rfl (by kernel_rfl) (by rfl) rfl (ex_append1 rfl rfl rfl hown hB.size hrC hul hu1 hL) ?_
        rintro vE W' ⟨hownE, hgrE, hapE⟩
        have hB := hB.grown hgrE hB.size (owns_base hown)
        refine ⟨Off.of_below hB, ?_⟩
        have hS := Off.of_below (F := fun b => b = rp) hB
        simp only [Act.put, List.setIfInBounds_toArray, List.set_cons_zero, List.set_cons_succ]
        refine hs_take (i := 10) (d := some 46) (v := ?_) rfl (by kernel_rfl) (by kernel_rfl) (by kernel_rfl) (by rfl) ?_ hS rfl ?_
        rotate_left
        · intro w' hw
          go_simp
          try with_reducible rfl
        simp only [Act.put, List.setIfInBounds_toArray, List.set_cons_zero, List.set_cons_succ]
        refine hs_take (i := 11) (d := some 47) (v := ?_) rfl (by kernel_rfl) (by kernel_rfl) (by kernel_rfl) (by rfl) ?_ hS rfl ?_
        rotate_left
        · intro w' hw
          go_simp
          try with_reducible rfl
        simp only [Act.put, List.setIfInBounds_toArray, List.set_cons_zero, List.set_cons_succ]
        have hlE := (hRf9.below (hB)).th
        obtain ⟨vea, vec, rfl⟩ := owns_slice hownE
        have hst := run_store1 (P := Tryd.prog) _ rp 2 43 (.slice vea (L.length + 1) vec) (by have := there_part hlE 2 1 (by omega); rwa [Nat.zero_add] at this) iszV rfl
        have hSF := (Off.of_below (F := fun b => b = rp) hB).trans (Off.of_setCell (F := fun b => b = rp) _ ⟨rp, 2, none⟩ (.slice vea (L.length + 1) vec) rfl) (fun _ _ q => q)
        refine hs_store (i := 12) rfl (by kernel_rfl) (by rfl) (exec_storeP rfl rfl rfl hst) rfl hSF ?_
        refine hs_done (by kernel_rfl) ?_
        have HFIN := hide (ref_fin hRf9 hB hownE hu.out hr)
        go_wp2_with fail
        go_ret
        exact ⟨by rw [HE0.out]; rfl, ⟨_, _, by rw [HL0.out]; exact HFIN.out.1, (Off.of_below hB9).trans hSF (fun _ _ q => q), fun x hx => .inr (Nat.le_trans hB9.size (HFIN.out.2 x hx))⟩⟩
    · refine st_runX (i := 5) (d := some 41) rfl (by rfl) rfl (ex_load rfl rfl (hRf9.below hB).c2) ?_
      rintro vA W' ⟨rfl, hx⟩
      obtain rfl := hx.symm
      clear hx
      refine ⟨Off.of_below hB, ?_⟩
      simp only [Act.put, List.setIfInBounds_toArray, List.set_cons_zero, List.set_cons_succ]
      refine hs_forkL (l := [1, 8]) (by kernel_rfl) (by simp) ?_
      intro ii hii
      simp only [List.mem_cons, List.not_mem_nil, or_false] at hii
      rcases hii with rfl | rfl
      · refine st_runX (i := 1) (d := some 37) rfl (by rfl) rfl (ex_bs0 rfl) ?_
        rintro vB W' ⟨hbW, hown0⟩
        have hown := owns_weak hown0 hB.size
        have hB := hB.trans (hbW.mono hB.size)
        clear hbW hown0
        refine ⟨Off.of_below hB, ?_⟩
        simp only [Act.put, List.setIfInBounds_toArray, List.set_cons_zero, List.set_cons_succ]
        refine hs_forkL (l := [6, 8]) (by kernel_rfl) (by simp) ?_
        intro ii hii
        simp only [List.mem_cons, List.not_mem_nil, or_false] at hii
        rcases hii with rfl | rfl
        · refine st_runX (i := 6) (d := some 42) rfl (by rfl) rfl (ex_append rfl rfl rfl hown hB.size (hRf9.below hB).row hL) ?_
          rintro vD W' ⟨hownD, hgrD, hapD⟩
          have hB := hB.grown hgrD hB.size (owns_base hown)
          clear hown hgrD hapD
          have hown := hownD
          obtain ⟨vB, hvB⟩ : ∃ x, x = vD := ⟨_, rfl⟩
          rw [← hvB] at hown ⊢
          clear hvB hownD
          refine ⟨Off.of_below hB, ?_⟩
          simp only [Act.put, List.setIfInBounds_toArray, List.set_cons_zero, List.set_cons_succ]
          refine hs_runX (i := 8) (d := some 44) rfl (by kernel_rfl) (by rfl) rfl (ex_bs1 rfl rfl hul) ?_
          rintro vC W' ⟨cb, rfl, hrC, hlC, hgC, hbW⟩
          have hgC2 := Nat.le_trans hB.size hgC
          have hnB : ∀ g, vB.ownBlock = some g → g ≠ cb := fun g hg => by have := owns_lt hown hg; omega
          have hown := ownsB hown hbW
          have hB := hB.trans (hbW.mono hB.size)
          clear hbW hgC
          refine ⟨Off.of_below hB, ?_⟩
          simp only [Act.put, List.setIfInBounds_toArray, List.set_cons_zero, List.set_cons_succ]
          refine hs_runX (i := 9) (d := some 45) rfl (by kernel_rfl) (by rfl) rfl (ex_append1 rfl rfl rfl hown hB.size hrC hul hu1 hL) ?_
          rintro vE W' ⟨hownE, hgrE, hapE⟩
          have hB := hB.grown hgrE hB.size (owns_base hown)
          refine ⟨Off.of_below hB, ?_⟩
          have hS := Off.of_below (F := fun b => b = rp) hB
          simp only [Act.put, List.setIfInBounds_toArray, List.set_cons_zero, List.set_cons_succ]
          refine hs_take (i := 10) (d := some 46) (v := ?_) rfl (by kernel_rfl) (by kernel_rfl) (by kernel_rfl) (by rfl) ?_ hS rfl ?_
          rotate_left
          · intro w' hw
            go_simp
            try with_reducible rfl
          simp only [Act.put, List.setIfInBounds_toArray, List.set_cons_zero, List.set_cons_succ]
          refine hs_take (i := 11) (d := some 47) (v := ?_) rfl (by kernel_rfl) (by kernel_rfl) (by kernel_rfl) (by rfl) ?_ hS rfl ?_
          rotate_left
          · intro w' hw
            go_simp
            try with_reducible rfl
          simp only [Act.put, List.setIfInBounds_toArray, List.set_cons_zero, List.set_cons_succ]
          have hlE := (hRf9.below (hB)).th
          obtain ⟨vea, vec, rfl⟩ := owns_slice hownE
          have hst := run_store1 (P := Tryd.prog) _ rp 2 43 (.slice vea (L.length + 1) vec) (by have := there_part hlE 2 1 (by omega); rwa [Nat.zero_add] at this) iszV rfl
          have hSF := (Off.of_below (F := fun b => b = rp) hB).trans (Off.of_setCell (F := fun b => b = rp) _ ⟨rp, 2, none⟩ (.slice vea (L.length + 1) vec) rfl) (fun _ _ q => q)
          refine hs_store (i := 12) rfl (by kernel_rfl) (by rfl) (exec_storeP rfl rfl rfl hst) rfl hSF ?_
          refine hs_done (by kernel_rfl) ?_
          have HFIN := hide (ref_fin hRf9 hB hownE hu.out hr)
          go_wp2_with fail
          go_ret
          exact ⟨by rw [HE0.out]; rfl, ⟨_, _, by rw [HL0.out]; exact HFIN.out.1, (Off.of_below hB9).trans hSF (fun _ _ q => q), fun x hx => .inr (Nat.le_trans hB9.size (HFIN.out.2 x hx))⟩⟩
        · refine st_runX (i := 8) (d := some 44) rfl (by rfl) rfl (ex_bs1 rfl rfl hul) ?_
          rintro vC W' ⟨cb, rfl, hrC, hlC, hgC, hbW⟩
          have hgC2 := Nat.le_trans hB.size hgC
          have hnB : ∀ g, vB.ownBlock = some g → g ≠ cb := fun g hg => by have := owns_lt hown hg; omega
          have hown := ownsB hown hbW
          have hB := hB.trans (hbW.mono hB.size)
          clear hbW hgC
          refine ⟨Off.of_below hB, ?_⟩
          simp only [Act.put, List.setIfInBounds_toArray, List.set_cons_zero, List.set_cons_succ]
          refine hs_runX (i := 6) (d := some 42) rfl (by kernel_rfl) (by rfl) rfl (ex_append rfl rfl rfl hown hB.size (hRf9.below hB).row hL) ?_
          rintro vD W' ⟨hownD, hgrD, hapD⟩
          have hrC := range_at hrC (hgrD.block _ hlC (fun e => hnB _ e.symm rfl))
          have hnD : ∀ g, vD.ownBlock = some g → g ≠ cb := fun g hg => by
            rcases hapD g hg with q | q
            · exact hnB g q
            · omega
          have hlC := Nat.lt_of_lt_of_le hlC hgrD.size
          have hB := hB.grown hgrD hB.size (owns_base hown)
          clear hown hgrD hapD
          have hown := hownD
          have hnB := hnD
          obtain ⟨vB, hvB⟩ : ∃ x, x = vD := ⟨_, rfl⟩
          rw [← hvB] at hown ⊢
          rw [← hvB] at hnB
          clear hvB hownD
          refine ⟨Off.of_below hB, ?_⟩
          simp only [Act.put, List.setIfInBounds_toArray, List.set_cons_zero, List.set_cons_succ]
          refine hs_runX (i := 9) (d := some 45) rfl (by kernel_rfl) (by rfl) rfl (ex_append1 rfl rfl rfl hown hB.size hrC hul hu1 hL) ?_
          rintro vE W' ⟨hownE, hgrE, hapE⟩
          have hB := hB.grown hgrE hB.size (owns_base hown)
          refine ⟨Off.of_below hB, ?_⟩
          have hS := Off.of_below (F := fun b => b = rp) hB
          simp only [Act.put, List.setIfInBounds_toArray, List.set_cons_zero, List.set_cons_succ]
          refine hs_take (i := 10) (d := some 46) (v := ?_) rfl (by kernel_rfl) (by kernel_rfl) (by kernel_rfl) (by rfl) ?_ hS rfl ?_
          rotate_left
          · intro w' hw
            go_simp
            try with_reducible rfl
          simp only [Act.put, List.setIfInBounds_toArray, List.set_cons_zero, List.set_cons_succ]
          refine hs_take (i := 11) (d := some 47) (v := ?_) rfl (by kernel_rfl) (by kernel_rfl) (by kernel_rfl) (by rfl) ?_ hS rfl ?_
          rotate_left
          · intro w' hw
            go_simp
            try with_reducible rfl
          simp only [Act.put, List.setIfInBounds_toArray, List.set_cons_zero, List.set_cons_succ]
          have hlE := (hRf9.below (hB)).th
          obtain ⟨vea, vec, rfl⟩ := owns_slice hownE
          have hst := run_store1 (P := Tryd.prog) _ rp 2 43 (.slice vea (L.length + 1) vec) (by have := there_part hlE 2 1 (by omega); rwa [Nat.zero_add] at this) iszV rfl
          have hSF := (Off.of_below (F := fun b => b = rp) hB).trans (Off.of_setCell (F := fun b => b = rp) _ ⟨rp, 2, none⟩ (.slice vea (L.length + 1) vec) rfl) (fun _ _ q => q)
          refine hs_store (i := 12) rfl (by kernel_rfl) (by rfl) (exec_storeP rfl rfl rfl hst) rfl hSF ?_
          refine hs_done (by kernel_rfl) ?_
          have HFIN := hide (ref_fin hRf9 hB hownE hu.out hr)
          go_wp2_with fail
          go_ret
          exact ⟨by rw [HE0.out]; rfl, ⟨_, _, by rw [HL0.out]; exact HFIN.out.1, (Off.of_below hB9).trans hSF (fun _ _ q => q), fun x hx => .inr (Nat.le_trans hB9.size (HFIN.out.2 x hx))⟩⟩
      · refine st_runX (i := 8) (d := some 44) rfl (by rfl) rfl (ex_bs1 rfl rfl hul) ?_
        rintro vC W' ⟨cb, rfl, hrC, hlC, hgC, hbW⟩
        have hgC2 := Nat.le_trans hB.size hgC
        have hB := hB.trans (hbW.mono hB.size)
        clear hbW hgC
        refine ⟨Off.of_below hB, ?_⟩
        simp only [Act.put, List.setIfInBounds_toArray, List.set_cons_zero, List.set_cons_succ]
        refine hs_runX (i := 1) (d := some 37) rfl (by kernel_rfl) (by rfl) rfl (ex_bs0 rfl) ?_
        rintro vB W' ⟨hbW, hown0⟩
        have hown := owns_weak hown0 hB.size
        have hB := hB.trans (hbW.mono hB.size)
        have hrC := range_below hrC hbW hlC
        have hnB : ∀ g, vB.ownBlock = some g → g ≠ cb := fun g hg => by have := owns_base hown0 g hg; omega
        have hlC := Nat.lt_of_lt_of_le hlC hbW.size
        clear hbW hown0
        refine ⟨Off.of_below hB, ?_⟩
        simp only [Act.put, List.setIfInBounds_toArray, List.set_cons_zero, List.set_cons_succ]
        refine hs_runX (i := 6) (d := some 42) rfl (by kernel_rfl) (by rfl) rfl (ex_append rfl rfl rfl hown hB.size (hRf9.below hB).row hL) ?_
        rintro vD W' ⟨hownD, hgrD, hapD⟩
        have hrC := range_at hrC (hgrD.block _ hlC (fun e => hnB _ e.symm rfl))
        have hnD : ∀ g, vD.ownBlock = some g → g ≠ cb := fun g hg => by
          rcases hapD g hg with q | q
          · exact hnB g q
          · omega
        have hlC := Nat.lt_of_lt_of_le hlC hgrD.size
        have hB := hB.grown hgrD hB.size (owns_base hown)
        clear hown hgrD hapD
        have hown := hownD
        have hnB := hnD
        obtain ⟨vB, hvB⟩ : ∃ x, x = vD := ⟨_, rfl⟩
        rw [← hvB] at hown ⊢
        rw [← hvB] at hnB
        clear hvB hownD
        refine ⟨Off.of_below hB, ?_⟩
        simp only [Act.put, List.setIfInBounds_toArray, List.set_cons_zero, List.set_cons_succ]
        refine hs_runX (i := 9) (d := some 45) rfl (by kernel_rfl) (by rfl) rfl (ex_append1 rfl rfl rfl hown hB.size hrC hul hu1 hL) ?_
        rintro vE W' ⟨hownE, hgrE, hapE⟩
        have hB := hB.grown hgrE hB.size (owns_base hown)
        refine ⟨Off.of_below hB, ?_⟩
        have hS := Off.of_below (F := fun b => b = rp) hB
        simp only [Act.put, List.setIfInBounds_toArray, List.set_cons_zero, List.set_cons_succ]
        refine hs_take (i := 10) (d := some 46) (v := ?_) rfl (by kernel_rfl) (by kernel_rfl) (by kernel_rfl) (by rfl) ?_ hS rfl ?_
        rotate_left
        · intro w' hw
          go_simp
          try with_reducible rfl
        simp only [Act.put, List.setIfInBounds_toArray, List.set_cons_zero, List.set_cons_succ]
        refine hs_take (i := 11) (d := some 47) (v := ?_) rfl (by kernel_rfl) (by kernel_rfl) (by kernel_rfl) (by rfl) ?_ hS rfl ?_
        rotate_left
        · intro w' hw
          go_simp
          try with_reducible rfl
        simp only [Act.put, List.setIfInBounds_toArray, List.set_cons_zero, List.set_cons_succ]
        have hlE := (hRf9.below (hB)).th
        obtain ⟨vea, vec, rfl⟩ := owns_slice hownE
        have hst := run_store1 (P := Tryd.prog) _ rp 2 43 (.slice vea (L.length + 1) vec) (by have := there_part hlE 2 1 (by omega); rwa [Nat.zero_add] at this) iszV rfl
        have hSF := (Off.of_below (F := fun b => b = rp) hB).trans (Off.of_setCell (F := fun b => b = rp) _ ⟨rp, 2, none⟩ (.slice vea (L.length + 1) vec) rfl) (fun _ _ q => q)
        refine hs_store (i := 12) rfl (by kernel_rfl) (by rfl) (exec_storeP rfl rfl rfl hst) rfl hSF ?_
        refine hs_done (by kernel_rfl) ?_
        have HFIN := hide (ref_fin hRf9 hB hownE hu.out hr)
        go_wp2_with fail
        go_ret
        exact ⟨by rw [HE0.out]; rfl, ⟨_, _, by rw [HL0.out]; exact HFIN.out.1, (Off.of_below hB9).trans hSF (fun _ _ q => q), fun x hx => .inr (Nat.le_trans hB9.size (HFIN.out.2 x hx))⟩⟩
    · refine st_runX (i := 8) (d := some 44) rfl (by rfl) rfl (ex_bs1 rfl rfl hul) ?_
      rintro vC W' ⟨cb, rfl, hrC, hlC, hgC, hbW⟩
      have hgC2 := Nat.le_trans hB.size hgC
      have hB := hB.trans (hbW.mono hB.size)
      clear hbW hgC
      refine ⟨Off.of_below hB, ?_⟩
      simp only [Act.put, List.setIfInBounds_toArray, List.set_cons_zero, List.set_cons_succ]
      refine hs_forkL (l := [1, 5]) (by kernel_rfl) (by simp) ?_
      intro ii hii
      simp only [List.mem_cons, List.not_mem_nil, or_false] at hii
      rcases hii with rfl | rfl
      · refine st_runX (i := 1) (d := some 37) rfl (by rfl) rfl (ex_bs0 rfl) ?_
        rintro vB W' ⟨hbW, hown0⟩
        have hown := owns_weak hown0 hB.size
        have hB := hB.trans (hbW.mono hB.size)
        have hrC := range_below hrC hbW hlC
        have hnB : ∀ g, vB.ownBlock = some g → g ≠ cb := fun g hg => by have := owns_base hown0 g hg; omega
        have hlC := Nat.lt_of_lt_of_le hlC hbW.size
        clear hbW hown0
        refine ⟨Off.of_below hB, ?_⟩
        simp only [Act.put, List.setIfInBounds_toArray, List.set_cons_zero, List.set_cons_succ]
        refine hs_runX (i := 5) (d := some 41) rfl (by kernel_rfl) (by rfl) rfl (ex_load rfl rfl (hRf9.below hB).c2) ?_
        rintro vA W' ⟨rfl, hx⟩
        obtain rfl := hx.symm
        clear hx
        refine ⟨Off.of_below hB, ?_⟩
        simp only [Act.put, List.setIfInBounds_toArray, List.set_cons_zero, List.set_cons_succ]
        refine hs_runX (i := 6) (d := some 42) rfl (by kernel_rfl) (by rfl) rfl (ex_append rfl rfl rfl hown hB.size (hRf9.below hB).row hL) ?_
        rintro vD W' ⟨hownD, hgrD, hapD⟩
        have hrC := range_at hrC (hgrD.block _ hlC (fun e => hnB _ e.symm rfl))
        have hnD : ∀ g, vD.ownBlock = some g → g ≠ cb := fun g hg => by
          rcases hapD g hg with q | q
          · exact hnB g q
          · omega
        have hlC := Nat.lt_of_lt_of_le hlC hgrD.size
        have hB := hB.grown hgrD hB.size (owns_base hown)
        clear hown hgrD hapD
        have hown := hownD
        have hnB := hnD
        obtain ⟨vB, hvB⟩ : ∃ x, x = vD := ⟨_, rfl⟩
        rw [← hvB] at hown ⊢
        rw [← hvB] at hnB
        clear hvB hownD
        refine ⟨Off.of_below hB, ?_⟩
        simp only [Act.put, List.setIfInBounds_toArray, List.set_cons_zero, List.set_cons_succ]
        refine hs_runX (i := 9) (d := some 45) rfl (by kernel_rfl) (by rfl) rfl (ex_append1 rfl rfl rfl hown hB.size hrC hul hu1 hL) ?_
        rintro vE W' ⟨hownE, hgrE, hapE⟩
        have hB := hB.grown hgrE hB.size (owns_base hown)
        refine ⟨Off.of_below hB, ?_⟩
        have hS := Off.of_below (F := fun b => b = rp) hB
        simp only [Act.put, List.setIfInBounds_toArray, List.set_cons_zero, List.set_cons_succ]
        refine hs_take (i := 10) (d := some 46) (v := ?_) rfl (by kernel_rfl) (by kernel_rfl) (by kernel_rfl) (by rfl) ?_ hS rfl ?_
        rotate_left
        · intro w' hw
          go_simp
          try with_reducible rfl
        simp only [Act.put, List.setIfInBounds_toArray, List.set_cons_zero, List.set_cons_succ]
        refine hs_take (i := 11) (d := some 47) (v := ?_) rfl (by kernel_rfl) (by kernel_rfl) (by kernel_rfl) (by rfl) ?_ hS rfl ?_
        rotate_left
        · intro w' hw
          go_simp
          try with_reducible rfl
        simp only [Act.put, List.setIfInBounds_toArray, List.set_cons_zero, List.set_cons_succ]
        have hlE := (hRf9.below (hB)).th
        obtain ⟨vea, vec, rfl⟩ := owns_slice hownE
        have hst := run_store1 (P := Tryd.prog) _ rp 2 43 (.slice vea (L.length + 1) vec) (by have := there_part hlE 2 1 (by omega); rwa [Nat.zero_add] at this) iszV rfl
        have hSF := (Off.of_below (F := fun b => b = rp) hB).trans (Off.of_setCell (F := fun b => b = rp) _ ⟨rp, 2, none⟩ (.slice vea (L.length + 1) vec) rfl) (fun _ _ q => q)
        refine hs_store (i := 12) rfl (by kernel_rfl) (by rfl) (exec_storeP rfl rfl rfl hst) rfl hSF ?_
        refine hs_done (by kernel_rfl) ?_
        have HFIN := hide (ref_fin hRf9 hB hownE hu.out hr)
        go_wp2_with fail
        go_ret
        exact ⟨by rw [HE0.out]; rfl, ⟨_, _, by rw [HL0.out]; exact HFIN.out.1, (Off.of_below hB9).trans hSF (fun _ _ q => q), fun x hx => .inr (Nat.le_trans hB9.size (HFIN.out.2 x hx))⟩⟩
      · refine st_runX (i := 5) (d := some 41) rfl (by rfl) rfl (ex_load rfl rfl (hRf9.below hB).c2) ?_
        rintro vA W' ⟨rfl, hx⟩
        obtain rfl := hx.symm
        clear hx
        refine ⟨Off.of_below hB, ?_⟩
        simp only [Act.put, List.setIfInBounds_toArray, List.set_cons_zero, List.set_cons_succ]
        refine hs_runX (i := 1) (d := some 37) rfl (by kernel_rfl) (by rfl) rfl (ex_bs0 rfl) ?_
        rintro vB W' ⟨hbW, hown0⟩
        have hown := owns_weak hown0 hB.size
        have hB := hB.trans (hbW.mono hB.size)
        have hrC := range_below hrC hbW hlC
        have hnB : ∀ g, vB.ownBlock = some g → g ≠ cb := fun g hg => by have := owns_base hown0 g hg; omega
        have hlC := Nat.lt_of_lt_of_le hlC hbW.size
        clear hbW hown0
        refine ⟨Off.of_below hB, ?_⟩
        simp only [Act.put, List.setIfInBounds_toArray, List.set_cons_zero, List.set_cons_succ]
        refine hs_runX (i := 6) (d := some 42) rfl (by kernel_rfl) (by rfl) rfl (ex_append rfl rfl rfl hown hB.size (hRf9.below hB).row hL) ?_
        rintro vD W' ⟨hownD, hgrD, hapD⟩
        have hrC := range_at hrC (hgrD.block _ hlC (fun e => hnB _ e.symm rfl))
        have hnD : ∀ g, vD.ownBlock = some g → g ≠ cb := fun g hg => by
          rcases hapD g hg with q | q
          · exact hnB g q
          · omega
        have hlC := Nat.lt_of_lt_of_le hlC hgrD.size
        have hB := hB.grown hgrD hB.size (owns_base hown)
        clear hown hgrD hapD
        have hown := hownD
        have hnB := hnD
        obtain ⟨vB, hvB⟩ : ∃ x, x = vD := ⟨_, rfl⟩
        rw [← hvB] at hown ⊢
        rw [← hvB] at hnB
        clear hvB hownD
        refine ⟨Off.of_below hB, ?_⟩
        simp only [Act.put, List.setIfInBounds_toArray, List.set_cons_zero, List.set_cons_succ]
        refine hs_runX (i := 9) (d := some 45) rfl (by kernel_rfl) (by rfl) rfl (ex_append1 rfl rfl rfl hown hB.size hrC hul hu1 hL) ?_
        rintro vE W' ⟨hownE, hgrE, hapE⟩
        have hB := hB.grown hgrE hB.size (owns_base hown)
        refine ⟨Off.of_below hB, ?_⟩
        have hS := Off.of_below (F := fun b => b = rp) hB
        simp only [Act.put, List.setIfInBounds_toArray, List.set_cons_zero, List.set_cons_succ]
        refine hs_take (i := 10) (d := some 46) (v := ?_) rfl (by kernel_rfl) (by kernel_rfl) (by kernel_rfl) (by rfl) ?_ hS rfl ?_
        rotate_left
        · intro w' hw
          go_simp
          try with_reducible rfl
        simp only [Act.put, List.setIfInBounds_toArray, List.set_cons_zero, List.set_cons_succ]
        refine hs_take (i := 11) (d := some 47) (v := ?_) rfl (by kernel_rfl) (by kernel_rfl) (by kernel_rfl) (by rfl) ?_ hS rfl ?_
        rotate_left
        · intro w' hw
          go_simp
          try with_reducible rfl
        simp only [Act.put, List.setIfInBounds_toArray, List.set_cons_zero, List.set_cons_succ]
        have hlE := (hRf9.below (hB)).th
        obtain ⟨vea, vec, rfl⟩ := owns_slice hownE
        have hst := run_store1 (P := Tryd.prog) _ rp 2 43 (.slice vea (L.length + 1) vec) (by have := there_part hlE 2 1 (by omega); rwa [Nat.zero_add] at this) iszV rfl
        have hSF := (Off.of_below (F := fun b => b = rp) hB).trans (Off.of_setCell (F := fun b => b = rp) _ ⟨rp, 2, none⟩ (.slice vea (L.length + 1) vec) rfl) (fun _ _ q => q)
        refine hs_store (i := 12) rfl (by kernel_rfl) (by rfl) (exec_storeP rfl rfl rfl hst) rfl hSF ?_
        refine hs_done (by kernel_rfl) ?_
        have HFIN := hide (ref_fin hRf9 hB hownE hu.out hr)
        go_wp2_with fail
        go_ret
        exact ⟨by rw [HE0.out]; rfl, ⟨_, _, by rw [HL0.out]; exact HFIN.out.1, (Off.of_below hB9).trans hSF (fun _ _ q => q), fun x hx => .inr (Nat.le_trans hB9.size (HFIN.out.2 x hx))⟩⟩
end Go.Proofs.YtbfcbjjhdadicaaDoor
namespace Go.Proofs.YtbfcbjjhdadicaaDoor
open Go.RowKit
open Sha Tal
def addS (S : List (Int × Int)) (p : Int × Int) : List (Int × Int) := if p ∈ S then S else p :: S
def pairsL (us : List Bx) : List (Int × Int) := (us.flatMap (fun x => x.rs.map pk)).foldl addS []
theorem mem_addS (l : List (Int × Int)) : ∀ (S : List (Int × Int)) (p : Int × Int), p ∈ l.foldl addS S ↔ p ∈ S ∨ p ∈ l := by
  induction l with
  | nil => intro S p; simp
  | cons a l ih =>
    intro S p
    rw [List.foldl_cons, ih, List.mem_cons]
    unfold addS
    split
    · rename_i h
      constructor
      · rintro (q | q)
        · exact .inl q
        · exact .inr (.inr q)
      · rintro (q | q | q)
        · exact .inl q
        · rw [q]; exact .inl h
        · exact .inr q
    · rw [List.mem_cons]
      constructor
      · rintro ((q | q) | q)
        · exact .inr (.inl q)
        · exact .inl q
        · exact .inr (.inr q)
      · rintro (q | q | q)
        · exact .inl (.inr q)
        · exact .inl (.inl q)
        · exact .inr q
theorem mem_pairsL (us : List Bx) (r : Rq) : pk r ∈ pairsL us ↔ busyB us r = true := by
  unfold pairsL busyB meetB
  rw [mem_addS, List.any_eq_true]
  simp only [List.not_mem_nil, false_or, List.mem_flatMap, decide_eq_true_eq]
set_option maxRecDepth 100000 in
set_option maxHeartbeats 4000000 in
theorem pairsOf_any (a : Option Addr) (cap : Nat) (us : List Bx) (w : World) (h : RowOf Bx.cells w a us) (hok : ∀ x ∈ us, x.ok w) (hul : us.length ≤ 800) (hrl : ∀ x ∈ us, x.rs.length ≤ 200) :
    Calls Tryd.prog 40 #[.slice a us.length cap] w fun e w' => ∃ m, e = .returned (.map (some m)) ∧ PairsAt w' m (pairsL us) ∧ Below w.heap.size w w' := by
  have hmm := @run_makeMap Tryd.prog
  have hp := PairsAt.made w
  have hB0 : Below w.heap.size w (w.alloc (.map #[] 0)) := (Below.refl _ _).alloc (Nat.le_refl _) _
  go_enter Tryd.func40, Tryd.ntmps40
  go_wp2_with fail
  obtain ⟨M, hM⟩ : ∃ M, w.heap.size = M := ⟨_, rfl⟩
  obtain ⟨w1, hw1⟩ : ∃ w1, w.alloc (.map #[] 0) = w1 := ⟨_, rfl⟩
  rw [hw1] at hp hB0 ⊢
  have hMw : w.heap.size ≤ M := by omega
  rw [hM] at hp ⊢
  clear hw1 hmm hM
  go_loopw [11] (fun iv wr => ∃ (i : Nat) (S : List (Int × Int)), i ≤ us.length ∧ iv = .int .i64 (i : Int) ∧ Hid (S = pairsL (us.take i)) ∧ S.length ≤ i * 200 ∧ PairsAt wr M S ∧ Below w.heap.size w wr) (fun iv _ => us.length - (intOf iv).toNat)
  case atStart => exact ⟨0, [], by omega, rfl, hide (by simp [pairsL]), by simp, hp, hB0⟩
  case round =>
    clear hp hB0
    obtain ⟨i, S, hi, rfl, HS, hSl, hP, hB⟩ := hrel
    by_cases hlt : i < us.length
    · have i1 : (i : Int) < (us.length : Int) := by omega
      obtain ⟨ub, uo, rfl, hub, hre⟩ := (h.below hB).elem (k := 2) (fun _ _ => rfl) i hlt
      have HT := hide (List.take_succ_eq_append_getElem hlt)
      have hxok := (hok _ (List.getElem_mem hlt)).2.2
      have hxr := hrl _ (List.getElem_mem hlt)
      generalize us[i] = x at *
      have c0 : wr.cell? ⟨ub, uo + i * 2, none⟩ = some (.bool x.q) := hre 0 _ rfl
      have c1 : wr.cell? ⟨ub, uo + i * 2 + 1, none⟩ = some (.slice x.a x.rs.length x.cap) := hre 1 _ rfl
      obtain ⟨w2, hw2⟩ : ∃ w2, wr.alloc (.cells #[.bool x.q, .slice x.a x.rs.length x.cap] 54) = w2 := ⟨_, rfl⟩
      have hB2 : Below wr.heap.size wr w2 := by rw [← hw2]; exact (Below.refl _ _).alloc (Nat.le_refl _) _
      have g1 : w2.cell? ⟨wr.heap.size, 1, none⟩ = some (.slice x.a x.rs.length x.cap) := by rw [← hw2]; exact (range_new wr #[.bool x.q, .slice x.a x.rs.length x.cap] 54) 1 _ rfl
      clear hre
      go_wp2_with fail
      clear hw2 c0 c1
      have hBw2 := hB.trans (hB2.mono hB.size)
      have hP2 := hP.below hB2
      go_loopw [18] (fun iv wq => ∃ (j : Nat) (S2 : List (Int × Int)), j ≤ x.rs.length ∧ iv = .int .i64 (j : Int) ∧ Hid (S2 = ((x.rs.take j).map pk).foldl addS S) ∧ S2.length ≤ S.length + j ∧ PairsAt wq M S2 ∧ Below w.heap.size w wq) (fun iv _ => x.rs.length - (intOf iv).toNat)
      case atStart => exact ⟨0, S, by omega, rfl, hide (by simp), by omega, hP2, hBw2⟩
      case round =>
        clear hP2 hBw2 g1 hB2
        obtain ⟨j, S2, hj, rfl, HS2, hS2l, hPq, hBq⟩ := hrel
        by_cases hlt2 : j < x.rs.length
        · have j1 : (j : Int) < (x.rs.length : Int) := by omega
          obtain ⟨rb, roff, hxa, hrb, hre⟩ := (hxok.below hBq).elem j hlt2
          have HT2 := hide (List.take_succ_eq_append_getElem hlt2)
          have hok : x.rs[j].ok := hxok.2.1 _ (List.getElem_mem hlt2)
          generalize x.rs[j] = r at *
          rw [hxa]
          have hiq := hok.isz
          have hiA := hok.iszA
          have hN := hok.blank wr
          have h1c := all_oneCell_toArray r.one
          have hul := hok.length
          have hu1 := r.one
          have cpo := pairOf_any r
          have F := fresh_store wr #[.int .i64 0, .int .i64 0, .string ⟨#[]⟩, .int .u8 0, .int .u8 0, .int .u8 0, .int .u8 0, .int .u8 0, .int .u8 0, .int .u8 0, .int .u8 0, .int .u8 0, .int .u8 0, .int .u8 0, .int .u8 0, .int .u8 0, .int .u8 0, .int .u8 0, .int .u8 0] 35 r.cells (by rw [hok.length]; rfl)
          obtain ⟨u, hu⟩ : ∃ u, Hid (r.cells = u) := ⟨_, hide rfl⟩
          rw [hu.out] at hre hiq hiA hN h1c F hul hu1
          simp only [hu.out] at cpo
          have cad := fun W h0 => addP_any M S2 r.c r.n ⟨hok.cl, hok.ch⟩ ⟨hok.nl, hok.nh⟩ W h0 (by omega)
          clear hok
          go_upto_region 7 with fail
          try simp only [Act.put]
          refine wp_region_list ?_
          refine wpList_step fun K hK => ?_
          go_simp
          refine hK _ _ ?_
          clear hK K
          refine wpList_load_mid rfl 35 _ rfl _ _ rfl u _ hre Tryd.underlying35 rfl hiq ?_
          go_upto_region 8 with (refine wpList_store_mid (op := ⟨none, .store 35 (.tmp 7) (.tmp 21), _, _, _, none⟩) rfl 35 _ _ rfl _ _ u.toArray rfl rfl hN hiA h1c ?_)
          go_name_world w3 hw3
          rw [show (wr.alloc (.cells #[.int .i64 0, .int .i64 0, .string ⟨#[]⟩, .int .u8 0, .int .u8 0, .int .u8 0, .int .u8 0, .int .u8 0, .int .u8 0, .int .u8 0, .int .u8 0, .int .u8 0, .int .u8 0, .int .u8 0, .int .u8 0, .int .u8 0, .int .u8 0, .int .u8 0, .int .u8 0] 35)).setCells wr.heap.size 0 u = w3 from hw3] at F
          clear hw3 hN
          obtain ⟨hR3, hF3, hz3, -⟩ := F
          have hP3 := hPq.below hF3
          have hB3 := hBq.trans (hF3.mono hBq.size)
          go_upto_region 8 with fail
          refine wp_region_list ?_
          refine wpList_step fun K hK => ?_
          go_simp
          refine hK _ _ ?_
          clear hK K
          refine wpList_load_mid rfl 35 _ rfl _ _ rfl u _ hR3 Tryd.underlying35 rfl hiq ?_
          go_wp2_with fail
          refine (cpo w3).mono ?_
          rintro e w4 ⟨rfl, hb4⟩
          have cad := cad w4 (hP3.below hb4)
          have hB4 := hB3.trans (hb4.mono hB3.size)
          go_wp2_with fail
          refine cad.mono ?_
          rintro e w5 ⟨rfl, hP5, hgr⟩
          have hB5 : Below w.heap.size w w5 := hB4.grown hgr hB4.size (fun g hg => by cases hg; exact hMw)
          have HS3 : Hid ((if (r.c, r.n) ∈ S2 then S2 else (r.c, r.n) :: S2) = ((x.rs.take (j + 1)).map pk).foldl addS S) := hide (by
            rw [HT2.out, List.map_append, List.foldl_append, ← HS2.out]
            rfl)
          have hl3 : (if (r.c, r.n) ∈ S2 then S2 else (r.c, r.n) :: S2).length ≤ S.length + (j + 1) := by
            split
            · omega
            · rw [List.length_cons]; omega
          generalize (if (r.c, r.n) ∈ S2 then S2 else (r.c, r.n) :: S2) = S3 at *
          clear cad HS2 HT2
          rw [← hxa]
          go_wp2_with fail
          go_roundw
          case rel => exact ⟨j + 1, S3, by omega, by go_num, HS3, hl3, hP5, hB5⟩
          case measure => simp [intOf]; omega
        · have j1 : ¬ (j : Int) < (x.rs.length : Int) := by omega
          have HS3 : Hid (S2 = pairsL (us.take (i + 1))) := hide (by
            rw [HS2.out, HS.out, HT.out, List.take_of_length_le (show x.rs.length ≤ j by omega)]
            unfold pairsL
            rw [List.flatMap_append, List.foldl_append]
            simp)
          have hl3 : S2.length ≤ (i + 1) * 200 := by rw [Nat.add_mul]; omega
          clear HS2 HS HT
          go_wp2_with fail
          go_roundw
          case rel => exact ⟨i + 1, S2, by omega, by go_num, HS3, hl3, hPq, hBq⟩
          case measure => simp [intOf]; omega
    · have i1 : ¬ (i : Int) < (us.length : Int) := by omega
      have HS3 : Hid (S = pairsL us) := hide (by rw [HS.out, List.take_of_length_le (by omega)])
      clear HS
      go_wp2_with fail
      go_ret
      exact ⟨_, rfl, by rw [← HS3.out]; exact hP, hB⟩
theorem sweep_fin {w W : World} {rp k room : Nat} {a : Option Addr} {cap : Nat} {L rest : List Rq} {vea : Option Addr} {vec : Nat} (h : RefAt w rp k room a cap L) (hB : Below w.heap.size w W) (hown : W.ownsRow w.heap.size 35 19 (.slice vea rest.length vec) rest.length (flatR rest)) (hok : ∀ x ∈ rest, x.ok) (hl : rest.length ≤ 100000) :
    RefNext w (W.setCell ⟨rp, 2, none⟩ (.slice vea rest.length vec)) rp k room a rest := by
  have hW := h.below hB
  have hrp : rp < w.heap.size := h.lt
  have hbase : ∀ x, vea = some x → w.heap.size ≤ x.block := fun x hx => owns_base hown _ (by rw [hx]; rfl)
  have hlt : ∀ x, vea = some x → x.block < W.heap.size := fun x hx => owns_lt hown (by rw [hx]; rfl)
  have hown2 : (W.setCell ⟨rp, 2, none⟩ (.slice vea rest.length vec)).ownsRow w.heap.size 35 19 (.slice vea rest.length vec) rest.length (flatR rest) := owns_at hown (fun g hg => Below.heap_setCell _ _ _ _ (by have := owns_base hown g hg; show g ≠ rp; omega))
  obtain ⟨a2, c2, he, -, -, hR, -⟩ := own_reqs0 hown2 hok (by unfold maxLen; omega)
  cases he
  have RS := range_set (cs := [.int .i64 (k : Int), .int .i64 (room : Int), .slice a L.length cap]) (w := W) (b := rp) (o := 0) (fun j v hv => by
    match j, hv with
    | 0, hv => simp at hv; subst hv; exact hW.c0
    | 1, hv => simp at hv; subst hv; exact hW.c1
    | 2, hv => simp at hv; subst hv; exact hW.c2
    | n + 3, hv => simp at hv) 2 (.slice vea rest.length vec)
  have r0 := RS 0 _ rfl
  have r1 := RS 1 _ rfl
  have r2 := RS 2 _ rfl
  simp only [Nat.zero_add] at r0 r1 r2
  exact ⟨vea, vec, ⟨r0, r1, r2, there_set hW.th _ _, hR, fun x hx => by have := hbase x hx; omega, fun x hx => by have := hlt x hx; simpa [World.setCell] using this⟩, (Off.of_below hB).trans (Off.of_setCell (F := fun b => b = rp) W _ _ rfl) (fun _ _ q => q), fun x hx => .inr (hbase x hx)⟩
theorem rdone_q (q : Int × Int) (hq : winOk q) (n : Int) (hn : n ≤ 9223372036854775807) (w : World) :
    Calls Tryd.prog 48 #[.agg (winL q).toArray, .int .i64 n] w fun e w' => e = .returned (.bool (doneQ q n)) ∧ Below w.heap.size w w' := by
  have h := Wn.refDoneW_any q.1 q.2.toNat (by have := hq.2; omega) n hn w
  rw [Int.toNat_of_nonneg hq.2.1] at h
  exact h
set_option maxRecDepth 100000 in
set_option maxHeartbeats 4000000 in
theorem rsweep_any (rp k room : Nat) (a : Option Addr) (cap : Nat) (L : List Rq) (ca : Option Addr) (cc : Nat) (ws : List (Int × Int)) (w : World) (h : RefAt w rp k room a cap L) (hL : L.length ≤ 2000) (h0 : ∀ r ∈ L, 0 ≤ r.c) (hws : RowOf winL w ca ws) (hwok : ∀ q ∈ ws, winOk q) :
    Calls Tryd.prog 28 #[rptr rp, .slice ca ws.length cc] w fun e w' => e = .returned (.int .i64 ((L.length : Int) - ((L.filter (leftR ws)).length : Int))) ∧ RefNext w w' rp k room a (L.filter (leftR ws)) := by
  unfold rptr
  go_enter Tryd.func28, Tryd.ntmps28
  go_wp2_with fail
  go_loopw [5, 6] (fun v iv wr => ∃ (j : Nat) (rest : List Rq), j ≤ L.length ∧ iv = .int .i64 (j : Int) ∧ Hid (rest = (L.take j).filter (leftR ws)) ∧ rest.length ≤ j ∧ wr.ownsRow w.heap.size 35 19 v rest.length (flatR rest) ∧ Below w.heap.size w wr) (fun _ iv _ => L.length - (intOf iv).toNat)
  case atStart => exact ⟨0, [], by omega, rfl, hide (by simp), by simp, World.ownsRow_nil _ _ _ _, Below.refl _ _⟩
  case round =>
    obtain ⟨j, rest, hj, rfl, HR, hrl, hxr, hB⟩ := hrel
    have hrf := h.below hB
    have c2 := hrf.c2
    obtain ⟨xa, xc, rfl⟩ := owns_slice hxr
    by_cases hlt : j < L.length
    · have j1 : (j : Int) < (L.length : Int) := by omega
      obtain ⟨rb, roff, rfl, hrb, hre⟩ := hrf.row.elem j hlt
      have HTK := hide (List.take_succ_eq_append_getElem hlt)
      have hok : L[j].ok := h.row.2.1 _ (List.getElem_mem hlt)
      have hnn := h0 _ (List.getElem_mem hlt)
      generalize L[j] = r at *
      have hnh := hok.nh
      obtain ⟨C, hC⟩ := Int.eq_ofNat_of_zero_le hnn
      have hiq := hok.isz
      have hiA := hok.iszA
      have hN := hok.blank wr
      have h1c := all_oneCell_toArray r.one
      have hul := hok.length
      have hu1 := r.one
      have cpo := pairOf_any r
      have F := fresh_store wr #[.int .i64 0, .int .i64 0, .string ⟨#[]⟩, .int .u8 0, .int .u8 0, .int .u8 0, .int .u8 0, .int .u8 0, .int .u8 0, .int .u8 0, .int .u8 0, .int .u8 0, .int .u8 0, .int .u8 0, .int .u8 0, .int .u8 0, .int .u8 0, .int .u8 0, .int .u8 0] 35 r.cells (by rw [hok.length]; rfl)
      obtain ⟨u, hu⟩ : ∃ u, Hid (r.cells = u) := ⟨_, hide rfl⟩
      rw [hu.out] at hre hiq hiA hN h1c F hul hu1
      simp only [hu.out] at cpo
      clear hrf
      go_upto_region 5 with fail
      try simp only [Act.put]
      refine wp_region_list ?_
      refine wpList_step fun K hK => ?_
      go_simp
      refine hK _ _ ?_
      clear hK K
      refine wpList_step fun K hK => ?_
      go_simp
      refine hK _ _ ?_
      clear hK K
      refine wpList_step fun K hK => ?_
      go_simp
      refine hK _ _ ?_
      clear hK K
      refine wpList_step fun K hK => ?_
      go_simp
      refine hK _ _ ?_
      clear hK K
      refine wpList_step fun K hK => ?_
      go_simp
      refine hK _ _ ?_
      clear hK K
      refine wpList_step fun K hK => ?_
      go_simp
      refine hK _ _ ?_
      clear hK K
      refine wpList_load_mid rfl 35 _ rfl _ _ rfl u _ hre Tryd.underlying35 rfl hiq ?_
      go_upto_region 6 with (refine wpList_store_mid (op := ⟨none, .store 35 (.tmp 7) (.tmp 24), _, _, _, none⟩) rfl 35 _ _ rfl _ _ u.toArray rfl rfl hN hiA h1c ?_)
      go_name_world w4 hw4
      rw [show (wr.alloc (.cells #[.int .i64 0, .int .i64 0, .string ⟨#[]⟩, .int .u8 0, .int .u8 0, .int .u8 0, .int .u8 0, .int .u8 0, .int .u8 0, .int .u8 0, .int .u8 0, .int .u8 0, .int .u8 0, .int .u8 0, .int .u8 0, .int .u8 0, .int .u8 0, .int .u8 0, .int .u8 0] 35)).setCells wr.heap.size 0 u = w4 from hw4] at F
      clear hw4 hN
      obtain ⟨hR3, hF3, hz3, -⟩ := F
      have hx3 := ownsB hxr hF3
      have hBw4 : Below w.heap.size w w4 := hB.trans (hF3.mono hB.size)
      clear hxr hre
      obtain ⟨w8, hw8⟩ : ∃ w8, w4.drew = w8 := ⟨_, rfl⟩
      have hB8 : Below w4.heap.size w4 w8 := by rw [← hw8]; exact (Below.refl _ _).drew
      have hX8 : wr.heap.size < w8.heap.size := by have := hB8.size; omega
      have hR8 := range_below hR3 hB8 (by omega)
      rw [← hu.out] at hR8
      have x0 : ∀ w', Below w8.heap.size w8 w' → w'.cell? ⟨wr.heap.size, 0, none⟩ = some (.int .i64 (C : Int)) := fun w' hw' => by rw [← hC]; exact (reqL_0 (range_below hR8 hw' hX8)).1
      have x1 : ∀ w', Below w8.heap.size w8 w' → w'.cell? ⟨wr.heap.size, 1, none⟩ = some (.int .i64 r.n) := fun w' hw' => (reqL_0 (range_below hR8 hw' hX8)).2.1
      rw [hu.out] at hR8
      have HV : Hid (leftR ws r = match ws[C]? with | none => true | some q => !doneQ q r.n) := hide (by unfold leftR; rw [hC]; rfl)
      by_cases hcw : C < ws.length
      · obtain ⟨wb, woff, rfl, hwb, hrew⟩ := (hws.below (hBw4.trans (hB8.mono hBw4.size))).elem (k := 2) (fun _ _ => rfl) C hcw
        have hqk := hwok _ (List.getElem_mem hcw)
        rw [List.getElem?_eq_getElem hcw] at HV
        obtain ⟨q, hqq⟩ : ∃ q, Hid (ws[C] = q) := ⟨_, hide rfl⟩
        rw [hqq.out] at hrew hqk HV
        have HV2 : Hid (leftR ws r = !doneQ q r.n) := hide HV.out
        have hCI : (C : Int) < (ws.length : Int) := by omega
        have kw : ∀ w', Below w8.heap.size w8 w' → w'.rangeAt wb (woff + C * 2) (winL q) := fun w' hw' => range_below hrew hw' hwb
        have hiw : (Tryd.prog.info? 69).map (·.size) = some (winL q).length := by kernel_rfl
        have cd := rdone_q q hqk r.n hnh
        clear HV hrew hqq
        cases hD : doneQ q r.n
        · have HP : Hid (leftR ws r = true) := hide (by rw [HV2.out, hD]; rfl)
          rw [hD] at cd
          clear HV2
          refine hs_begin (S := (Below w8.heap.size w8)) 15 rfl (by kernel_rfl) ?_
          rw [hw8]
          clear hw8
          have hS : (Below w8.heap.size w8) w8 := Below.refl _ _
          refine hs_take (i := 0) (d := some 25) (v := ?_) rfl (by kernel_rfl) (by kernel_rfl) (by kernel_rfl) (by rfl) ?_ hS rfl ?_
          rotate_left
          · intro w' hw
            go_simp
            try with_reducible rfl
          simp only [Act.put, List.setIfInBounds_toArray, List.set_cons_zero, List.set_cons_succ]
          refine hs_take (i := 1) (d := some 26) (v := ?_) rfl (by kernel_rfl) (by kernel_rfl) (by kernel_rfl) (by rfl) ?_ hS rfl ?_
          rotate_left
          · intro w' hw
            have hc := x0 w' hw
            go_simp
            try with_reducible rfl
          simp only [Act.put, List.setIfInBounds_toArray, List.set_cons_zero, List.set_cons_succ]
          refine hs_take (i := 2) (d := some 27) (v := ?_) rfl (by kernel_rfl) (by kernel_rfl) (by kernel_rfl) (by rfl) ?_ hS rfl ?_
          rotate_left
          · intro w' hw
            go_simp
            try with_reducible rfl
          simp only [Act.put, List.setIfInBounds_toArray, List.set_cons_zero, List.set_cons_succ]
          refine hs_take (i := 3) (d := some 28) (v := ?_) rfl (by kernel_rfl) (by kernel_rfl) (by kernel_rfl) (by rfl) ?_ hS rfl ?_
          rotate_left
          · intro w' hw
            go_simp
            try with_reducible rfl
          simp only [Act.put, List.setIfInBounds_toArray, List.set_cons_zero, List.set_cons_succ]
          refine hs_take (i := 4) (d := some 29) (v := .bool true) rfl (by kernel_rfl) (by kernel_rfl) (by kernel_rfl) (by rfl) (fun w' hw => by go_simp) hS rfl ?_
          simp only [Act.put, List.setIfInBounds_toArray, List.set_cons_zero, List.set_cons_succ]
          refine hs_take (i := 5) (d := some 30) (v := ?_) rfl (by kernel_rfl) (by kernel_rfl) (by kernel_rfl) (by rfl) ?_ hS rfl ?_
          rotate_left
          · intro w' hw
            go_simp
            try with_reducible rfl
          simp only [Act.put, List.setIfInBounds_toArray, List.set_cons_zero, List.set_cons_succ]
          refine hs_take (i := 6) (d := some 31) (v := ?_) rfl (by kernel_rfl) (by kernel_rfl) (by kernel_rfl) (by rfl) ?_ hS rfl ?_
          rotate_left
          · intro w' hw
            go_simp
            try with_reducible rfl
          simp only [Act.put, List.setIfInBounds_toArray, List.set_cons_zero, List.set_cons_succ]
          refine hs_take (i := 7) (d := some 32) (v := ?_) rfl (by kernel_rfl) (by kernel_rfl) (by kernel_rfl) (by rfl) ?_ hS rfl ?_
          rotate_left
          · intro w' hw
            go_simp
            try with_reducible rfl
          simp only [Act.put, List.setIfInBounds_toArray, List.set_cons_zero, List.set_cons_succ]
          refine hs_take (i := 8) (d := some 33) (v := ?_) rfl (by kernel_rfl) (by kernel_rfl) (by kernel_rfl) (by rfl) ?_ hS rfl ?_
          rotate_left
          · intro w' hw
            have hc := x0 w' hw
            go_simp
            try with_reducible rfl
          simp only [Act.put, List.setIfInBounds_toArray, List.set_cons_zero, List.set_cons_succ]
          refine hs_take (i := 9) (d := some 34) (v := ?_) rfl (by kernel_rfl) (by kernel_rfl) (by kernel_rfl) (by rfl) ?_ hS rfl ?_
          rotate_left
          · intro w' hw
            go_simp
            try with_reducible rfl
          simp only [Act.put, List.setIfInBounds_toArray, List.set_cons_zero, List.set_cons_succ]
          refine hs_take (i := 11) (d := some 36) (v := ?_) rfl (by kernel_rfl) (by kernel_rfl) (by kernel_rfl) (by rfl) ?_ hS rfl ?_
          rotate_left
          · intro w' hw
            go_simp
            try with_reducible rfl
          simp only [Act.put, List.setIfInBounds_toArray, List.set_cons_zero, List.set_cons_succ]
          refine hs_take (i := 12) (d := some 37) (v := ?_) rfl (by kernel_rfl) (by kernel_rfl) (by kernel_rfl) (by rfl) ?_ hS rfl ?_
          rotate_left
          · intro w' hw
            have hc := x1 w' hw
            go_simp
            try with_reducible rfl
          simp only [Act.put, List.setIfInBounds_toArray, List.set_cons_zero, List.set_cons_succ]
          refine hs_take (i := 10) (d := some 35) (v := .agg (winL q).toArray) rfl (by kernel_rfl) (by kernel_rfl) (by kernel_rfl) (by rfl) (fun w' hw => exec_load rfl rfl (run_loadVar_mid (P := Tryd.prog) w' wb (woff + C * 2) 69 (winL q) _ (kw w' hw) Tryd.underlying69 rfl hiw)) hS rfl ?_
          simp only [Act.put, List.setIfInBounds_toArray, List.set_cons_zero, List.set_cons_succ]
          refine hs_call (i := 13) (d := some 38) rfl (by kernel_rfl) (by rfl) (by go_simp; first | done | exact ⟨rfl, rfl⟩ | with_reducible rfl) rfl ?_
          refine (cd w8).mono ?_
          rintro e' wA ⟨rfl, hbA⟩
          have hS : (Below w8.heap.size w8) wA := hbA
          refine ⟨_, rfl, hS, ?_⟩
          simp only [Act.put, List.setIfInBounds_toArray, List.set_cons_zero, List.set_cons_succ]
          refine hs_take (i := 14) (d := some 39) (v := ?_) rfl (by kernel_rfl) (by kernel_rfl) (by kernel_rfl) (by rfl) ?_ hS rfl ?_
          rotate_left
          · intro w' hw
            go_simp
            try with_reducible rfl
          simp only [Act.put, List.setIfInBounds_toArray, List.set_cons_zero, List.set_cons_succ]
          refine hs_done (by kernel_rfl) ?_
          have hwE : Below w4.heap.size w4 wA := hB8.trans (hS.mono hB8.size)
          have hR9 : wA.rangeAt wr.heap.size 0 u := range_below hR8 hS hX8
          have HR2 : Hid (rest ++ [r] = (L.take (j + 1)).filter (leftR ws)) := hide (by rw [HTK.out, List.filter_append, ← HR.out]; simp [HP.out])
          have hxE := ownsB hx3 hwE
          have hBA3 : Below w.heap.size w wA := hBw4.trans (hwE.mono hBw4.size)
          obtain ⟨v', wF, hrun, hoA, hgr, hap⟩ := append_reqB hBA3.size hxE hul hu1 (by omega) 43
          go_upto_region 7 with fail
          refine wp_region_list ?_
          refine wpList_step fun K hK => ?_
          go_simp
          refine hK _ _ ?_
          clear hK K
          refine wpList_load_mid rfl 35 _ rfl _ _ rfl u _ hR9 Tryd.underlying35 rfl hiq ?_
          refine wpList_run1 rfl (exec_bs1 rfl rfl (bs_req hul wA)) ?_
          refine wpList_run1 rfl (exec_append1 rfl rfl rfl hrun) ?_
          obtain ⟨va3, vcap3, rfl⟩ := owns_slice hoA
          go_wp2_with fail
          go_roundw
          case rel =>
            refine ⟨j + 1, rest ++ [r], by omega, by go_num, HR2, by simp; omega, ?_, hBA3.grown hgr hBA3.size (owns_base hxE)⟩
            rw [flatR_append]
            have e1 : flatR [r] = u := by rw [← hu.out]; simp [flatR]
            rw [e1]
            simpa using hoA
          case measure => simp [intOf]; omega
        · have HP : Hid (leftR ws r = false) := hide (by rw [HV2.out, hD]; rfl)
          rw [hD] at cd
          clear HV2
          have HR2 : Hid (rest = (L.take (j + 1)).filter (leftR ws)) := hide (by rw [HTK.out, List.filter_append, ← HR.out]; simp [HP.out])
          refine hs_begin (S := (Below w8.heap.size w8)) 15 rfl (by kernel_rfl) ?_
          rw [hw8]
          clear hw8
          have hS : (Below w8.heap.size w8) w8 := Below.refl _ _
          refine hs_take (i := 0) (d := some 25) (v := ?_) rfl (by kernel_rfl) (by kernel_rfl) (by kernel_rfl) (by rfl) ?_ hS rfl ?_
          rotate_left
          · intro w' hw
            go_simp
            try with_reducible rfl
          simp only [Act.put, List.setIfInBounds_toArray, List.set_cons_zero, List.set_cons_succ]
          refine hs_take (i := 1) (d := some 26) (v := ?_) rfl (by kernel_rfl) (by kernel_rfl) (by kernel_rfl) (by rfl) ?_ hS rfl ?_
          rotate_left
          · intro w' hw
            have hc := x0 w' hw
            go_simp
            try with_reducible rfl
          simp only [Act.put, List.setIfInBounds_toArray, List.set_cons_zero, List.set_cons_succ]
          refine hs_take (i := 2) (d := some 27) (v := ?_) rfl (by kernel_rfl) (by kernel_rfl) (by kernel_rfl) (by rfl) ?_ hS rfl ?_
          rotate_left
          · intro w' hw
            go_simp
            try with_reducible rfl
          simp only [Act.put, List.setIfInBounds_toArray, List.set_cons_zero, List.set_cons_succ]
          refine hs_take (i := 3) (d := some 28) (v := ?_) rfl (by kernel_rfl) (by kernel_rfl) (by kernel_rfl) (by rfl) ?_ hS rfl ?_
          rotate_left
          · intro w' hw
            go_simp
            try with_reducible rfl
          simp only [Act.put, List.setIfInBounds_toArray, List.set_cons_zero, List.set_cons_succ]
          refine hs_take (i := 4) (d := some 29) (v := .bool true) rfl (by kernel_rfl) (by kernel_rfl) (by kernel_rfl) (by rfl) (fun w' hw => by go_simp) hS rfl ?_
          simp only [Act.put, List.setIfInBounds_toArray, List.set_cons_zero, List.set_cons_succ]
          refine hs_take (i := 5) (d := some 30) (v := ?_) rfl (by kernel_rfl) (by kernel_rfl) (by kernel_rfl) (by rfl) ?_ hS rfl ?_
          rotate_left
          · intro w' hw
            go_simp
            try with_reducible rfl
          simp only [Act.put, List.setIfInBounds_toArray, List.set_cons_zero, List.set_cons_succ]
          refine hs_take (i := 6) (d := some 31) (v := ?_) rfl (by kernel_rfl) (by kernel_rfl) (by kernel_rfl) (by rfl) ?_ hS rfl ?_
          rotate_left
          · intro w' hw
            go_simp
            try with_reducible rfl
          simp only [Act.put, List.setIfInBounds_toArray, List.set_cons_zero, List.set_cons_succ]
          refine hs_take (i := 7) (d := some 32) (v := ?_) rfl (by kernel_rfl) (by kernel_rfl) (by kernel_rfl) (by rfl) ?_ hS rfl ?_
          rotate_left
          · intro w' hw
            go_simp
            try with_reducible rfl
          simp only [Act.put, List.setIfInBounds_toArray, List.set_cons_zero, List.set_cons_succ]
          refine hs_take (i := 8) (d := some 33) (v := ?_) rfl (by kernel_rfl) (by kernel_rfl) (by kernel_rfl) (by rfl) ?_ hS rfl ?_
          rotate_left
          · intro w' hw
            have hc := x0 w' hw
            go_simp
            try with_reducible rfl
          simp only [Act.put, List.setIfInBounds_toArray, List.set_cons_zero, List.set_cons_succ]
          refine hs_take (i := 9) (d := some 34) (v := ?_) rfl (by kernel_rfl) (by kernel_rfl) (by kernel_rfl) (by rfl) ?_ hS rfl ?_
          rotate_left
          · intro w' hw
            go_simp
            try with_reducible rfl
          simp only [Act.put, List.setIfInBounds_toArray, List.set_cons_zero, List.set_cons_succ]
          refine hs_take (i := 11) (d := some 36) (v := ?_) rfl (by kernel_rfl) (by kernel_rfl) (by kernel_rfl) (by rfl) ?_ hS rfl ?_
          rotate_left
          · intro w' hw
            go_simp
            try with_reducible rfl
          simp only [Act.put, List.setIfInBounds_toArray, List.set_cons_zero, List.set_cons_succ]
          refine hs_take (i := 12) (d := some 37) (v := ?_) rfl (by kernel_rfl) (by kernel_rfl) (by kernel_rfl) (by rfl) ?_ hS rfl ?_
          rotate_left
          · intro w' hw
            have hc := x1 w' hw
            go_simp
            try with_reducible rfl
          simp only [Act.put, List.setIfInBounds_toArray, List.set_cons_zero, List.set_cons_succ]
          refine hs_take (i := 10) (d := some 35) (v := .agg (winL q).toArray) rfl (by kernel_rfl) (by kernel_rfl) (by kernel_rfl) (by rfl) (fun w' hw => exec_load rfl rfl (run_loadVar_mid (P := Tryd.prog) w' wb (woff + C * 2) 69 (winL q) _ (kw w' hw) Tryd.underlying69 rfl hiw)) hS rfl ?_
          simp only [Act.put, List.setIfInBounds_toArray, List.set_cons_zero, List.set_cons_succ]
          refine hs_call (i := 13) (d := some 38) rfl (by kernel_rfl) (by rfl) (by go_simp; first | done | exact ⟨rfl, rfl⟩ | with_reducible rfl) rfl ?_
          refine (cd w8).mono ?_
          rintro e' wA ⟨rfl, hbA⟩
          have hS : (Below w8.heap.size w8) wA := hbA
          refine ⟨_, rfl, hS, ?_⟩
          simp only [Act.put, List.setIfInBounds_toArray, List.set_cons_zero, List.set_cons_succ]
          refine hs_take (i := 14) (d := some 39) (v := ?_) rfl (by kernel_rfl) (by kernel_rfl) (by kernel_rfl) (by rfl) ?_ hS rfl ?_
          rotate_left
          · intro w' hw
            go_simp
            try with_reducible rfl
          simp only [Act.put, List.setIfInBounds_toArray, List.set_cons_zero, List.set_cons_succ]
          refine hs_done (by kernel_rfl) ?_
          have hwE : Below w4.heap.size w4 wA := hB8.trans (hS.mono hB8.size)
          have hxE := ownsB hx3 hwE
          go_wp2_with fail
          go_roundw
          case rel => exact ⟨j + 1, rest, by omega, by go_num, HR2, by omega, hxE, hBw4.trans (hwE.mono hBw4.size)⟩
          case measure => simp [intOf]; omega
      · rw [List.getElem?_eq_none (by omega)] at HV
        have HP : Hid (leftR ws r = true) := hide HV.out
        have hCI : ¬ (C : Int) < (ws.length : Int) := by omega
        clear HV
        refine hs_begin (S := (Below w8.heap.size w8)) 15 rfl (by kernel_rfl) ?_
        rw [hw8]
        have hS : (Below w8.heap.size w8) w8 := Below.refl _ _
        refine hs_take (i := 0) (d := some 25) (v := ?_) rfl (by kernel_rfl) (by kernel_rfl) (by kernel_rfl) (by rfl) ?_ hS rfl ?_
        rotate_left
        · intro w' hw
          go_simp
          try with_reducible rfl
        simp only [Act.put, List.setIfInBounds_toArray, List.set_cons_zero, List.set_cons_succ]
        refine hs_take (i := 1) (d := some 26) (v := ?_) rfl (by kernel_rfl) (by kernel_rfl) (by kernel_rfl) (by rfl) ?_ hS rfl ?_
        rotate_left
        · intro w' hw
          have hc := x0 w' hw
          go_simp
          try with_reducible rfl
        simp only [Act.put, List.setIfInBounds_toArray, List.set_cons_zero, List.set_cons_succ]
        refine hs_take (i := 2) (d := some 27) (v := ?_) rfl (by kernel_rfl) (by kernel_rfl) (by kernel_rfl) (by rfl) ?_ hS rfl ?_
        rotate_left
        · intro w' hw
          go_simp
          try with_reducible rfl
        simp only [Act.put, List.setIfInBounds_toArray, List.set_cons_zero, List.set_cons_succ]
        refine hs_take (i := 3) (d := some 28) (v := ?_) rfl (by kernel_rfl) (by kernel_rfl) (by kernel_rfl) (by rfl) ?_ hS rfl ?_
        rotate_left
        · intro w' hw
          go_simp
          try with_reducible rfl
        simp only [Act.put, List.setIfInBounds_toArray, List.set_cons_zero, List.set_cons_succ]
        refine hs_take (i := 4) (d := some 29) (v := .bool false) rfl (by kernel_rfl) (by kernel_rfl) (by kernel_rfl) (by rfl) (fun w' hw => by go_simp) hS rfl ?_
        simp only [Act.put, List.setIfInBounds_toArray, List.set_cons_zero, List.set_cons_succ]
        refine hs_take (i := 5) (d := some 30) (v := ?_) rfl (by kernel_rfl) (by kernel_rfl) (by kernel_rfl) (by rfl) ?_ hS rfl ?_
        rotate_left
        · intro w' hw
          go_simp
          try with_reducible rfl
        simp only [Act.put, List.setIfInBounds_toArray, List.set_cons_zero, List.set_cons_succ]
        refine hs_skip (i := 6) (d := some 31) rfl (by kernel_rfl) (by kernel_rfl) (by kernel_rfl) (by rfl) hS rfl ?_
        simp only [Act.put, List.setIfInBounds_toArray, List.set_cons_zero, List.set_cons_succ]
        refine hs_skip (i := 7) (d := some 32) rfl (by kernel_rfl) (by kernel_rfl) (by kernel_rfl) (by rfl) hS rfl ?_
        simp only [Act.put, List.setIfInBounds_toArray, List.set_cons_zero, List.set_cons_succ]
        refine hs_skip (i := 8) (d := some 33) rfl (by kernel_rfl) (by kernel_rfl) (by kernel_rfl) (by rfl) hS rfl ?_
        simp only [Act.put, List.setIfInBounds_toArray, List.set_cons_zero, List.set_cons_succ]
        refine hs_skip (i := 9) (d := some 34) rfl (by kernel_rfl) (by kernel_rfl) (by kernel_rfl) (by rfl) hS rfl ?_
        simp only [Act.put, List.setIfInBounds_toArray, List.set_cons_zero, List.set_cons_succ]
        refine hs_skip (i := 10) (d := some 35) rfl (by kernel_rfl) (by kernel_rfl) (by kernel_rfl) (by rfl) hS rfl ?_
        simp only [Act.put, List.setIfInBounds_toArray, List.set_cons_zero, List.set_cons_succ]
        refine hs_skip (i := 11) (d := some 36) rfl (by kernel_rfl) (by kernel_rfl) (by kernel_rfl) (by rfl) hS rfl ?_
        simp only [Act.put, List.setIfInBounds_toArray, List.set_cons_zero, List.set_cons_succ]
        refine hs_skip (i := 12) (d := some 37) rfl (by kernel_rfl) (by kernel_rfl) (by kernel_rfl) (by rfl) hS rfl ?_
        simp only [Act.put, List.setIfInBounds_toArray, List.set_cons_zero, List.set_cons_succ]
        refine hs_skip (i := 13) (d := some 38) rfl (by kernel_rfl) (by kernel_rfl) (by kernel_rfl) (by rfl) hS rfl ?_
        simp only [Act.put, List.setIfInBounds_toArray, List.set_cons_zero, List.set_cons_succ]
        refine hs_take (i := 14) (d := some 39) (v := .bool false) rfl (by kernel_rfl) (by kernel_rfl) (by kernel_rfl) (by rfl) (fun w' hw => by go_simp) hS rfl ?_
        simp only [Act.put, List.setIfInBounds_toArray, List.set_cons_zero, List.set_cons_succ]
        refine hs_done (by kernel_rfl) ?_
        obtain ⟨wA, hwA⟩ : ∃ wA, wA = w8 := ⟨_, rfl⟩
        have hwE : Below w4.heap.size w4 wA := by rw [hwA]; exact hB8
        have hR9 : wA.rangeAt wr.heap.size 0 u := by rw [hwA]; exact hR8
        rw [← hwA]
        clear hw8 hwA
        have HR2 : Hid (rest ++ [r] = (L.take (j + 1)).filter (leftR ws)) := hide (by rw [HTK.out, List.filter_append, ← HR.out]; simp [HP.out])
        have hxE := ownsB hx3 hwE
        have hBA3 : Below w.heap.size w wA := hBw4.trans (hwE.mono hBw4.size)
        obtain ⟨v', wF, hrun, hoA, hgr, hap⟩ := append_reqB hBA3.size hxE hul hu1 (by omega) 43
        go_upto_region 7 with fail
        refine wp_region_list ?_
        refine wpList_step fun K hK => ?_
        go_simp
        refine hK _ _ ?_
        clear hK K
        refine wpList_load_mid rfl 35 _ rfl _ _ rfl u _ hR9 Tryd.underlying35 rfl hiq ?_
        refine wpList_run1 rfl (exec_bs1 rfl rfl (bs_req hul wA)) ?_
        refine wpList_run1 rfl (exec_append1 rfl rfl rfl hrun) ?_
        obtain ⟨va3, vcap3, rfl⟩ := owns_slice hoA
        go_wp2_with fail
        go_roundw
        case rel =>
          refine ⟨j + 1, rest ++ [r], by omega, by go_num, HR2, by simp; omega, ?_, hBA3.grown hgr hBA3.size (owns_base hxE)⟩
          rw [flatR_append]
          have e1 : flatR [r] = u := by rw [← hu.out]; simp [flatR]
          rw [e1]
          simpa using hoA
        case measure => simp [intOf]; omega
    · have j1 : ¬ (j : Int) < (L.length : Int) := by omega
      have hrest : rest = L.filter (leftR ws) := by rw [HR.out, List.take_of_length_le (by omega)]
      have hq2 : wr.frozen? ⟨rp, 2, none⟩ = false := by
        have := (hrf.th 2 (by omega)).2
        rwa [Nat.zero_add] at this
      have HF := hide (sweep_fin h hB hxr (fun x hx => h.row.2.1 x (by rw [hrest] at hx; exact (List.mem_filter.1 hx).1)) (by omega))
      have hwr : wrap64 ((L.length : Int) - (rest.length : Int)) = (L.length : Int) - (rest.length : Int) := by
        obtain ⟨p, hp⟩ : ∃ p : Int, (L.length : Int) = p := ⟨_, rfl⟩
        obtain ⟨q, hq⟩ : ∃ q : Int, (rest.length : Int) = q := ⟨_, rfl⟩
        rw [hp, hq]
        simp only [wrap64]
        omega
      have HRS := hide hrest
      clear hrest HR hrf hxr
      go_wp2_with fail
      go_ret
      exact ⟨by rw [← HRS.out]; rfl, by rw [← HRS.out]; exact HF.out⟩
end Go.Proofs.YtbfcbjjhdadicaaDoor
namespace Go.Proofs.YtbfcbjjhdadicaaDoor
open Go.RowKit
open Sha Tal
theorem flat_perm2 {ls : List (List Rq)} {i : Nat} {l : List Rq} (hl : ls[i]? = some l) (r : Rq) : (ls.set i (l ++ [r])).flatten.Perm (r :: ls.flatten) := by
  induction ls generalizing i with
  | nil => simp at hl
  | cons a ls ih =>
    cases i with
    | zero =>
      simp only [List.getElem?_cons_zero, Option.some.injEq] at hl
      subst hl
      simp only [List.set_cons_zero, List.flatten_cons, List.append_assoc, List.cons_append, List.nil_append]
      exact List.perm_middle
    | succ i =>
      simp only [List.getElem?_cons_succ] at hl
      have := ih hl
      simp only [List.set_cons_succ, List.flatten_cons]
      exact (List.Perm.append_left _ this).trans List.perm_middle
structure Rel (k : Nat) (ls : List (List Rq)) (L : List Rq) : Prop where
  len : ls.length = k
  bk : ∀ i, i < k → ls.getD i [] = L.filter (inB k (i : Int))
  perm : ls.flatten.Perm L
  nn : ∀ r ∈ L, 0 ≤ r.c ∧ 0 ≤ r.n
theorem Rel.pairs {k : Nat} {ls : List (List Rq)} {L : List Rq} (h : Rel k ls L) : (flatP ls).Perm (L.map pk) := h.perm.map pk
theorem Rel.size {k : Nat} {ls : List (List Rq)} {L : List Rq} (h : Rel k ls L) : (flatP ls).length = L.length := by rw [h.pairs.length_eq, List.length_map]
theorem Rel.mem {k : Nat} {ls : List (List Rq)} {L : List Rq} (h : Rel k ls L) (p : Int × Int) : p ∈ flatP ls ↔ p ∈ L.map pk := h.pairs.mem_iff
theorem Rel.new (k : Nat) : Rel k (List.replicate k []) [] := by
  refine ⟨by simp, fun i hi => by simp [List.getD, hi], ?_, fun r hr => by cases hr⟩
  have : (List.replicate k ([] : List Rq)).flatten = [] := by
    induction k with
    | zero => rfl
    | succ n ih => rw [List.replicate_succ, List.flatten_cons, ih]; rfl
  rw [this]
theorem bkt_in {k : Nat} (hk : 0 < k) (r : Rq) (i : Nat) : inB k (i : Int) r = decide (bkt k r = i) := by
  unfold inB
  rw [← (bkt_lt r hk).2]
  congr 1
  exact propext ⟨fun h => by omega, fun h => by omega⟩
theorem Rel.addE {k room : Nat} {ls : List (List Rq)} {L : List Rq} (h : Rel k ls L) (hk : 0 < k) (r : Rq) : Go.Proofs.YtbfcbjjhdadicaaDoor.addE room ls r = raddE k room L r := by
  unfold Go.Proofs.YtbfcbjjhdadicaaDoor.addE raddE
  have hb := (bkt_lt r hk)
  rw [h.len, h.bk _ hb.1, hb.2]
  simp only [h.mem]
theorem Rel.add {k room : Nat} {ls : List (List Rq)} {L : List Rq} (h : Rel k ls L) (hk : 0 < k) (r : Rq) : Rel k (addL room ls r) (raddL k room L r) := by
  unfold addL raddL
  rw [h.addE hk]
  split
  · rename_i he
    have hb := (bkt_lt r hk)
    rw [h.len]
    have hbl : bkt k r < ls.length := by rw [h.len]; exact hb.1
    have hpos : 0 ≤ r.c ∧ 0 ≤ r.n := by
      unfold raddE at he
      by_cases hx : r.c < 0 ∨ r.n < 0
      · rw [if_pos hx] at he; omega
      · omega
    refine ⟨by simp [h.len], fun i hi => ?_, ?_, fun x hx => ?_⟩
    · rw [List.filter_append]
      have hgi := h.bk i hi
      by_cases hib : bkt k r = i
      · subst hib
        have e1 : [r].filter (inB k ((bkt k r : Nat) : Int)) = [r] := by simp [bkt_in hk]
        rw [e1, ← hgi]
        simp [List.getD, hbl]
      · have e1 : [r].filter (inB k (i : Int)) = [] := by simp [bkt_in hk, hib]
        rw [e1, ← hgi]
        simp [List.getD, hib]
    · have hl : ls[bkt k r]? = some (ls.getD (bkt k r) []) := by simp [List.getD, hbl]
      have hs : (ls.set (bkt k r) (ls.getD (bkt k r) [] ++ [r])).flatten.Perm (r :: ls.flatten) := flat_perm2 hl r
      exact hs.trans ((List.Perm.cons r h.perm).trans (List.perm_append_singleton r L).symm)
    · rcases List.mem_append.1 hx with q | q
      · exact h.nn x q
      · rw [List.mem_singleton.1 q]; exact hpos
  · exact h
theorem Rel.filter {k : Nat} {ls : List (List Rq)} {L : List Rq} (h : Rel k ls L) (p : Rq → Bool) : Rel k (ls.map (List.filter p)) (L.filter p) := by
  refine ⟨by simp [h.len], fun i hi => ?_, ?_, fun r hr => h.nn r (List.mem_filter.1 hr).1⟩
  · have := h.bk i hi
    have hil : i < ls.length := by rw [h.len]; exact hi
    simp only [List.getD, List.getElem?_map, List.getElem?_eq_getElem hil, Option.map_some, Option.getD_some] at this ⊢
    rw [this, List.filter_filter, List.filter_filter]
    congr 1
    funext x
    exact Bool.and_comm _ _
  · rw [← List.filter_flatten]
    exact h.perm.filter p
theorem Rel.inL {k : Nat} {ls : List (List Rq)} {L : List Rq} (h : Rel k ls L) (hk : 0 < k) (z : Int) : Go.Proofs.YtbfcbjjhdadicaaDoor.inL ls z = L.filter (inB k z) := by
  unfold Go.Proofs.YtbfcbjjhdadicaaDoor.inL
  rw [h.len]
  split
  · rename_i hz
    obtain ⟨Z, rfl⟩ := Int.eq_ofNat_of_zero_le hz.1
    rw [show ((Z : Int)).toNat = Z from rfl]
    exact h.bk Z (by omega)
  · rename_i hz
    symm
    rw [List.filter_eq_nil_iff]
    intro r _
    have := bucketV_range r.c r.n (k : Int)
    simp only [inB, decide_eq_true_eq]
    intro e
    rw [e] at this
    apply hz
    refine ⟨this.1, ?_⟩
    rcases this.2 with q | q <;> omega
theorem Rel.pick {k : Nat} {ls : List (List Rq)} {L : List Rq} (h : Rel k ls L) (us : List Bx) (most : Int) (bs : List Int) (hbs : ∀ z ∈ bs, 0 ≤ z ∧ z < (k : Int)) : pickL (pairsL us) most bs ls = rpickL k us most bs L := by
  unfold pickL rpickL
  have e1 : bs.flatMap (bucketOf ls) = bs.flatMap (rbk k L) := by
    induction bs with
    | nil => rfl
    | cons z bs ih =>
      rw [List.flatMap_cons, List.flatMap_cons, ih (fun y hy => hbs y (by simp [hy]))]
      congr 1
      obtain ⟨Z, rfl⟩ := Int.eq_ofNat_of_zero_le (hbs z (by simp)).1
      have := h.bk Z (by have := (hbs (Z : Int) (by simp)).2; omega)
      unfold bucketOf rbk
      exact this
  have e2 : goodR (pairsL us) = freeB us := by
    funext r
    unfold goodR freeB
    have := mem_pairsL us r
    cases hb : busyB us r
    · have hn : ¬ pk r ∈ pairsL us := fun q => by rw [this, hb] at q; cases q
      simp [hn]
    · have hn : pk r ∈ pairsL us := this.2 hb
      simp [hn]
  rw [e1, e2]
structure BothIn (w0 w : World) (P : Pl) (rp room k : Nat) (ls : List (List Rq)) (a : Option Addr) (cap : Nat) (L : List Rq) : Prop where
  p : PoolIn w0 w P room ls
  r : RefAt w rp k room a cap L
  rel : Rel k ls L
  rb : w0.heap.size ≤ rp
  nr : ¬ P.own rp
  ab : ∀ x, a = some x → w0.heap.size ≤ x.block ∧ ¬ P.own x.block
theorem RefAt.at {w w' : World} {rp k room : Nat} {a : Option Addr} {cap : Nat} {L : List Rq} (h : RefAt w rp k room a cap L) (hs : w.heap.size ≤ w'.heap.size) (hb : w'.heap[rp]? = w.heap[rp]?) (ha : ∀ x, a = some x → w'.heap[x.block]? = w.heap[x.block]?) : RefAt w' rp k room a cap L := by
  refine ⟨cell_at h.c0 hb, cell_at h.c1 hb, cell_at h.c2 hb, there_at h.th hb, ?_, h.ne, fun x hx => Nat.lt_of_lt_of_le (h.bl x hx) hs⟩
  refine ⟨h.row.1, h.row.2.1, ?_⟩
  rcases h.row.2.2 with q | ⟨b, off, rfl, h1, h2⟩
  · exact .inl q
  · exact .inr ⟨b, off, rfl, Nat.lt_of_lt_of_le h1 hs, range_at h2 (ha _ rfl)⟩
theorem BothIn.below {w0 w w' : World} {P : Pl} {rp room k : Nat} {ls : List (List Rq)} {a : Option Addr} {cap : Nat} {L : List Rq} (h : BothIn w0 w P rp room k ls a cap L) (hb : Below w.heap.size w w') : BothIn w0 w' P rp room k ls a cap L :=
  ⟨h.p.below hb, h.r.below hb, h.rel, h.rb, h.nr, h.ab⟩
/-- the pool took a step -/
theorem BothIn.left {w0 w w' : World} {P Q : Pl} {rp room k : Nat} {ls : List (List Rq)} {a : Option Addr} {cap : Nat} {L : List Rq} (h : BothIn w0 w P rp room k ls a cap L) (hoff : Off P.own w w') (hown : ∀ b, Q.own b → P.own b ∨ w.heap.size ≤ b) :
    RefAt w' rp k room a cap L ∧ ¬ Q.own rp ∧ ∀ x, a = some x → w0.heap.size ≤ x.block ∧ ¬ Q.own x.block := by
  have hl := h.r.lt
  refine ⟨h.r.at hoff.size (hoff.2 _ hl h.nr) (fun x hx => hoff.2 _ (h.r.bl x hx) (h.ab x hx).2), fun hq => ?_, fun x hx => ⟨(h.ab x hx).1, fun hq => ?_⟩⟩
  · rcases hown _ hq with q | q
    · exact h.nr q
    · omega
  · rcases hown _ hq with q | q
    · exact (h.ab x hx).2 q
    · have := h.r.bl x hx; omega
/-- the document's pool took a step -/
theorem both_right {w0 w w' : World} {Q : Pl} {rp room k : Nat} {ls : List (List Rq)} {a : Option Addr} {L' : List Rq} (hp : PoolIn w0 w Q room ls) (hrel : Rel k ls L') (hrb : w0.heap.size ≤ rp) (hnr : ¬ Q.own rp) (hab : ∀ x, a = some x → w0.heap.size ≤ x.block ∧ ¬ Q.own x.block) (hn : RefNext w w' rp k room a L') :
    ∃ a' cap', BothIn w0 w' Q rp room k ls a' cap' L' := by
  obtain ⟨a', cap', hr, hoff, hax⟩ := hn
  have hb : Below w0.heap.size w0 w' := hp.b.trans (hoff.below hp.b.size (fun b hb e => by omega))
  refine ⟨a', cap', ⟨⟨hp.at_.at (fun b hq => hoff.2 b (hp.at_.R.own_lt hq) (fun e => by rw [e] at hq; exact hnr hq)) hoff.size, hb, hp.own⟩, hr, hrel, hrb, hnr, fun x hx => ?_⟩⟩
  rcases hax x hx with q | q
  · exact hab x q
  · refine ⟨Nat.le_trans hp.b.size q, fun hq => ?_⟩
    have := hp.at_.R.own_lt hq
    omega
end Go.Proofs.YtbfcbjjhdadicaaDoor
namespace Go.Proofs.YtbfcbjjhdadicaaDoor
open Go.RowKit
open Sha Tal
set_option linter.unusedVariables false
def BothNext (w0 w w' : World) (P : Pl) (rp room k : Nat) : Prop := ∃ Q ls' a' cap' L', ptr Q = ptr P ∧ BothIn w0 w' Q rp room k ls' a' cap' L' ∧ Off (fun b => P.own b ∨ b = rp) w w'
set_option maxRecDepth 100000 in
set_option maxHeartbeats 4000000 in
theorem both0 (w0 w : World) (P : Pl) (rp room k : Nat) (ls : List (List Rq)) (a : Option Addr) (cap : Nat) (L : List Rq) (A : Ac) (h : BothIn w0 w P rp room k ls a cap L) (hk0 : 0 < k) (hk : k ≤ 64) (hok : A.ok w0) (hl : lightA A) (hG : Glob w0) (hK : A.kind = 0) :
    Calls Tryd.prog 12 #[ptr P, rptr rp, .agg A.cells.toArray] w fun e w' => e = .returned (.bool true) ∧ BothNext w0 w w' P rp room k := by
  have hB1 : Below w.heap.size w (w.alloc (.cells A.cells.toArray 40)) := (Below.refl _ _).alloc (Nat.le_refl _) _
  have hX1 : (w.alloc (.cells A.cells.toArray 40)).rangeAt w.heap.size 0 A.cells := by simpa using range_new w A.cells.toArray 40
  have hXl : w.heap.size < (w.alloc (.cells A.cells.toArray 40)).heap.size := by simp
  obtain ⟨W1, hW1⟩ : ∃ W1, w.alloc (.cells A.cells.toArray 40) = W1 := ⟨_, rfl⟩
  rw [hW1] at hB1 hX1 hXl
  obtain ⟨X, hX⟩ : ∃ X, w.heap.size = X := ⟨_, rfl⟩
  rw [hX] at hX1 hXl
  have hnX : ¬ P.own X := fun q => by have := h.p.at_.R.own_lt q; omega
  have hXr : X ≠ rp := by have := h.r.lt; omega
  have ha := act_cells hok.r hX1
  simp only [Nat.zero_add] at ha
  obtain ⟨f0, f1, f2, f20, f21, f22, f23⟩ := ha
  have h1 := h.below hB1
  have hsm : L.length ≤ 1024 := by rw [← h.rel.size]; exact h.p.at_.small
  rw [hK] at f0
  obtain ⟨cs, hcs⟩ : ∃ cs, Hid (A.cells = cs) := ⟨_, hide rfl⟩
  rw [hcs.out] at hW1 ⊢
  obtain ⟨q, hqp⟩ : ∃ q, Hid (ptr P = .pointer (some q)) := ⟨_, hide rfl⟩
  rw [hqp.out]
  have hiu := hok.r.isz
  obtain ⟨u, hu⟩ : ∃ u, Hid (A.r.cells = u) := ⟨_, hide rfl⟩
  rw [hu.out] at hiu
  unfold rptr
  go_enter Tryd.func12, Tryd.ntmps12
  go_upto_region 3 with fail
  obtain ⟨w8, hw8⟩ : ∃ w8, W1.drew = w8 := ⟨_, rfl⟩
  have hB8 : Below W1.heap.size W1 w8 := by rw [← hw8]; exact (Below.refl _ _).drew
  have h8 := h1.below hB8
  have hX8 : X < w8.heap.size := Nat.lt_of_lt_of_le hXl hB8.size
  have hR8 := range_below hX1 hB8 hXl
  have kr : ∀ w', (fun w' : World => w'.rangeAt X 0 A.cells) w' → w'.rangeAt X 1 u := fun w' hw' => by
    have := act_req hw'
    rw [hu.out, Nat.zero_add] at this
    exact this
  have cA := padd_in h8.p A.r hok.r hG
  have cR := fun W hr => radd_any rp k room a cap L A.r W hr hok.r hk (by omega)
  have hrel := h8.rel.add (room := room) hk0 A.r
  rw [hqp.out, h8.rel.addE hk0] at cA
  unfold rptr at cR
  rw [hu.out] at cA
  simp only [hu.out] at cR
  generalize raddE k room L A.r = E at *
  refine hs_begin (S := (fun w' : World => w'.rangeAt X 0 A.cells)) 10 rfl (by kernel_rfl) ?_
  rw [hw8]
  clear hw8
  have hS : (fun w' : World => w'.rangeAt X 0 A.cells) w8 := hR8
  refine hs_take (i := 0) (d := some 14) (v := ?_) rfl (by kernel_rfl) (by kernel_rfl) (by kernel_rfl) (by rfl) ?_ hS rfl ?_
  rotate_left
  · intro w' hw
    go_simp
    try with_reducible rfl
  simp only [Act.put, List.setIfInBounds_toArray, List.set_cons_zero, List.set_cons_succ]
  refine hs_take (i := 1) (d := some 15) (v := ?_) rfl (by kernel_rfl) (by kernel_rfl) (by kernel_rfl) (by rfl) ?_ hS rfl ?_
  rotate_left
  · intro w' hw
    go_simp
    try with_reducible rfl
  simp only [Act.put, List.setIfInBounds_toArray, List.set_cons_zero, List.set_cons_succ]
  refine hs_take (i := 2) (d := some 16) (v := .agg u.toArray) rfl (by kernel_rfl) (by kernel_rfl) (by kernel_rfl) (by rfl) (fun w' hw => exec_load rfl rfl (run_loadVar_mid (P := Tryd.prog) w' X 1 35 u _ (kr w' hw) Tryd.underlying35 rfl hiu)) hS rfl ?_
  simp only [Act.put, List.setIfInBounds_toArray, List.set_cons_zero, List.set_cons_succ]
  refine hs_take (i := 4) (d := some 18) (v := ?_) rfl (by kernel_rfl) (by kernel_rfl) (by kernel_rfl) (by rfl) ?_ hS rfl ?_
  rotate_left
  · intro w' hw
    go_simp
    try with_reducible rfl
  simp only [Act.put, List.setIfInBounds_toArray, List.set_cons_zero, List.set_cons_succ]
  refine hs_take (i := 5) (d := some 19) (v := ?_) rfl (by kernel_rfl) (by kernel_rfl) (by kernel_rfl) (by rfl) ?_ hS rfl ?_
  rotate_left
  · intro w' hw
    go_simp
    try with_reducible rfl
  simp only [Act.put, List.setIfInBounds_toArray, List.set_cons_zero, List.set_cons_succ]
  refine hs_take (i := 6) (d := some 20) (v := .agg u.toArray) rfl (by kernel_rfl) (by kernel_rfl) (by kernel_rfl) (by rfl) (fun w' hw => exec_load rfl rfl (run_loadVar_mid (P := Tryd.prog) w' X 1 35 u _ (kr w' hw) Tryd.underlying35 rfl hiu)) hS rfl ?_
  simp only [Act.put, List.setIfInBounds_toArray, List.set_cons_zero, List.set_cons_succ]
  refine hs_call (i := 3) (d := some 17) rfl (by kernel_rfl) (by rfl) (by go_simp; first | done | exact ⟨rfl, rfl⟩ | with_reducible rfl) rfl ?_
  refine (cA).mono ?_
  rintro e' wm ⟨rfl, Q, hq, hpQ, hoff, hown⟩
  have hXm : X < wm.heap.size := Nat.lt_of_lt_of_le hX8 hoff.size
  have hlf := h8.left hoff hown
  have hS : (fun w' : World => w'.rangeAt X 0 A.cells) wm := range_at hS (hoff.2 X hX8 hnX)
  refine ⟨_, rfl, hS, ?_⟩
  simp only [Act.put, List.setIfInBounds_toArray, List.set_cons_zero, List.set_cons_succ]
  refine hs_call (i := 7) (d := some 21) rfl (by kernel_rfl) (by rfl) (by go_simp; first | done | exact ⟨rfl, rfl⟩ | with_reducible rfl) rfl ?_
  refine (cR wm hlf.1).mono ?_
  rintro e' wz ⟨rfl, hnext⟩
  obtain ⟨a9, cap9, -, hoff9, -⟩ := id hnext
  have hS : (fun w' : World => w'.rangeAt X 0 A.cells) wz := range_at hS (hoff9.2 X hXm hXr)
  refine ⟨_, rfl, hS, ?_⟩
  simp only [Act.put, List.setIfInBounds_toArray, List.set_cons_zero, List.set_cons_succ]
  refine hs_take (i := 8) (d := some 22) (v := .bool true) rfl (by kernel_rfl) (by kernel_rfl) (by kernel_rfl) (by rfl) (fun w' hw => by go_simp) hS rfl ?_
  simp only [Act.put, List.setIfInBounds_toArray, List.set_cons_zero, List.set_cons_succ]
  refine hs_take (i := 9) (d := some 6) (v := ?_) rfl (by kernel_rfl) (by kernel_rfl) (by kernel_rfl) (by rfl) ?_ hS rfl ?_
  rotate_left
  · intro w' hw
    go_simp
    try with_reducible rfl
  simp only [Act.put, List.setIfInBounds_toArray, List.set_cons_zero, List.set_cons_succ]
  refine hs_done (by kernel_rfl) ?_
  obtain ⟨a', cap', hb⟩ := both_right hpQ hrel h8.rb hlf.2.1 hlf.2.2 hnext
  go_wp2_with fail
  go_ret
  exact ⟨rfl, Q, _, a', cap', _, by rw [hq, hqp.out], hb, (Off.of_below (hB1.trans (hB8.mono hB1.size))).trans ((hoff.mono (fun b _ q => .inl q)).trans (hoff9.mono (fun b _ q => .inr q)) (fun _ _ q => q)) (fun _ _ q => q)⟩
set_option maxRecDepth 100000 in
set_option maxHeartbeats 4000000 in
theorem both2 (w0 w : World) (P : Pl) (rp room k : Nat) (ls : List (List Rq)) (a : Option Addr) (cap : Nat) (L : List Rq) (A : Ac) (h : BothIn w0 w P rp room k ls a cap L) (hk0 : 0 < k) (hk : k ≤ 64) (hok : A.ok w0) (hl : lightA A) (hG : Glob w0) (hK : A.kind = 2) :
    Calls Tryd.prog 12 #[ptr P, rptr rp, .agg A.cells.toArray] w fun e w' => e = .returned (.bool true) ∧ BothNext w0 w w' P rp room k := by
  have hB1 : Below w.heap.size w (w.alloc (.cells A.cells.toArray 40)) := (Below.refl _ _).alloc (Nat.le_refl _) _
  have hX1 : (w.alloc (.cells A.cells.toArray 40)).rangeAt w.heap.size 0 A.cells := by simpa using range_new w A.cells.toArray 40
  have hXl : w.heap.size < (w.alloc (.cells A.cells.toArray 40)).heap.size := by simp
  obtain ⟨W1, hW1⟩ : ∃ W1, w.alloc (.cells A.cells.toArray 40) = W1 := ⟨_, rfl⟩
  rw [hW1] at hB1 hX1 hXl
  obtain ⟨X, hX⟩ : ∃ X, w.heap.size = X := ⟨_, rfl⟩
  rw [hX] at hX1 hXl
  have hnX : ¬ P.own X := fun q => by have := h.p.at_.R.own_lt q; omega
  have hXr : X ≠ rp := by have := h.r.lt; omega
  have ha := act_cells hok.r hX1
  simp only [Nat.zero_add] at ha
  obtain ⟨f0, f1, f2, f20, f21, f22, f23⟩ := ha
  have h1 := h.below hB1
  have hsm : L.length ≤ 1024 := by rw [← h.rel.size]; exact h.p.at_.small
  rw [hK] at f0
  obtain ⟨cs, hcs⟩ : ∃ cs, Hid (A.cells = cs) := ⟨_, hide rfl⟩
  rw [hcs.out] at hW1 ⊢
  obtain ⟨q, hqp⟩ : ∃ q, Hid (ptr P = .pointer (some q)) := ⟨_, hide rfl⟩
  rw [hqp.out]
  unfold rptr
  go_enter Tryd.func12, Tryd.ntmps12
  go_upto_region 14 with fail
  obtain ⟨w8, hw8⟩ : ∃ w8, W1.drew = w8 := ⟨_, rfl⟩
  have hB8 : Below W1.heap.size W1 w8 := by rw [← hw8]; exact (Below.refl _ _).drew
  have h8 := h1.below hB8
  have hX8 : X < w8.heap.size := Nat.lt_of_lt_of_le hXl hB8.size
  have hR8 := range_below hX1 hB8 hXl
  have k23 : ∀ w', (fun w' : World => w'.rangeAt X 0 A.cells) w' → w'.cell? ⟨X, 23, none⟩ = some (.slice A.wa A.ws.length A.wc) := fun w' hw' => by
    have := (act_cells hok.r hw').2.2.2.2.2.2
    rwa [Nat.zero_add] at this
  have cA := psweep_in h8.p (cap := A.wc) hok.w hok.wo
  have hrel := h8.rel.filter (leftR A.ws)
  have hsz0 := h8.rel.size
  have hsz1 := hrel.size
  have hnn : ∀ r ∈ L, 0 ≤ r.c := fun r hr => (h8.rel.nn r hr).1
  have cR := fun W hr hw => rsweep_any rp k room a cap L A.wa A.wc A.ws W hr (by omega) hnn hw hok.wo
  have hwm : ∀ {W : World} {Q : Pl} {ls2 : List (List Rq)}, PoolIn w0 W Q room ls2 → RowOf winL W A.wa A.ws := fun hp => hok.w.below hp.b
  rw [hqp.out] at cA
  unfold rptr at cR
  refine hs_begin (S := (fun w' : World => w'.rangeAt X 0 A.cells)) 10 rfl (by kernel_rfl) ?_
  rw [hw8]
  clear hw8
  have hS : (fun w' : World => w'.rangeAt X 0 A.cells) w8 := hR8
  refine hs_take (i := 0) (d := some 60) (v := ?_) rfl (by kernel_rfl) (by kernel_rfl) (by kernel_rfl) (by rfl) ?_ hS rfl ?_
  rotate_left
  · intro w' hw
    go_simp
    try with_reducible rfl
  simp only [Act.put, List.setIfInBounds_toArray, List.set_cons_zero, List.set_cons_succ]
  refine hs_take (i := 1) (d := some 61) (v := ?_) rfl (by kernel_rfl) (by kernel_rfl) (by kernel_rfl) (by rfl) ?_ hS rfl ?_
  rotate_left
  · intro w' hw
    go_simp
    try with_reducible rfl
  simp only [Act.put, List.setIfInBounds_toArray, List.set_cons_zero, List.set_cons_succ]
  refine hs_take (i := 2) (d := some 62) (v := ?_) rfl (by kernel_rfl) (by kernel_rfl) (by kernel_rfl) (by rfl) ?_ hS rfl ?_
  rotate_left
  · intro w' hw
    have hc := k23 w' hw
    go_simp
    try with_reducible rfl
  simp only [Act.put, List.setIfInBounds_toArray, List.set_cons_zero, List.set_cons_succ]
  refine hs_take (i := 4) (d := some 64) (v := ?_) rfl (by kernel_rfl) (by kernel_rfl) (by kernel_rfl) (by rfl) ?_ hS rfl ?_
  rotate_left
  · intro w' hw
    go_simp
    try with_reducible rfl
  simp only [Act.put, List.setIfInBounds_toArray, List.set_cons_zero, List.set_cons_succ]
  refine hs_take (i := 5) (d := some 65) (v := ?_) rfl (by kernel_rfl) (by kernel_rfl) (by kernel_rfl) (by rfl) ?_ hS rfl ?_
  rotate_left
  · intro w' hw
    go_simp
    try with_reducible rfl
  simp only [Act.put, List.setIfInBounds_toArray, List.set_cons_zero, List.set_cons_succ]
  refine hs_take (i := 6) (d := some 66) (v := ?_) rfl (by kernel_rfl) (by kernel_rfl) (by kernel_rfl) (by rfl) ?_ hS rfl ?_
  rotate_left
  · intro w' hw
    have hc := k23 w' hw
    go_simp
    try with_reducible rfl
  simp only [Act.put, List.setIfInBounds_toArray, List.set_cons_zero, List.set_cons_succ]
  refine hs_call (i := 3) (d := some 63) rfl (by kernel_rfl) (by rfl) (by go_simp; first | done | exact ⟨rfl, rfl⟩ | with_reducible rfl) rfl ?_
  refine (cA).mono ?_
  rintro e' wm ⟨N, rfl, hN, Q, hq, hpQ, hoff, hown⟩
  have hXm : X < wm.heap.size := Nat.lt_of_lt_of_le hX8 hoff.size
  have hlf := h8.left hoff hown
  have hS : (fun w' : World => w'.rangeAt X 0 A.cells) wm := range_at hS (hoff.2 X hX8 hnX)
  refine ⟨_, rfl, hS, ?_⟩
  simp only [Act.put, List.setIfInBounds_toArray, List.set_cons_zero, List.set_cons_succ]
  refine hs_call (i := 7) (d := some 67) rfl (by kernel_rfl) (by rfl) (by go_simp; first | done | exact ⟨rfl, rfl⟩ | with_reducible rfl) rfl ?_
  refine (cR wm hlf.1 (hwm hpQ)).mono ?_
  rintro e' wz ⟨rfl, hnext⟩
  obtain ⟨a9, cap9, -, hoff9, -⟩ := id hnext
  have hNe : (L.length : Int) - ((L.filter (leftR A.ws)).length : Int) = (N : Int) := by omega
  rw [hNe]
  have hS : (fun w' : World => w'.rangeAt X 0 A.cells) wz := range_at hS (hoff9.2 X hXm hXr)
  refine ⟨_, rfl, hS, ?_⟩
  simp only [Act.put, List.setIfInBounds_toArray, List.set_cons_zero, List.set_cons_succ]
  refine hs_take (i := 8) (d := some 68) (v := .bool true) rfl (by kernel_rfl) (by kernel_rfl) (by kernel_rfl) (by rfl) (fun w' hw => by go_simp) hS rfl ?_
  simp only [Act.put, List.setIfInBounds_toArray, List.set_cons_zero, List.set_cons_succ]
  refine hs_take (i := 9) (d := some 6) (v := ?_) rfl (by kernel_rfl) (by kernel_rfl) (by kernel_rfl) (by rfl) ?_ hS rfl ?_
  rotate_left
  · intro w' hw
    go_simp
    try with_reducible rfl
  simp only [Act.put, List.setIfInBounds_toArray, List.set_cons_zero, List.set_cons_succ]
  refine hs_done (by kernel_rfl) ?_
  obtain ⟨a', cap', hb⟩ := both_right hpQ hrel h8.rb hlf.2.1 hlf.2.2 hnext
  go_wp2_with fail
  go_ret
  exact ⟨rfl, Q, _, a', cap', _, by rw [hq, hqp.out], hb, (Off.of_below (hB1.trans (hB8.mono hB1.size))).trans ((hoff.mono (fun b _ q => .inl q)).trans (hoff9.mono (fun b _ q => .inr q)) (fun _ _ q => q)) (fun _ _ q => q)⟩
set_option maxRecDepth 100000 in
set_option maxHeartbeats 4000000 in
theorem bothD (w0 w : World) (P : Pl) (rp room k : Nat) (ls : List (List Rq)) (a : Option Addr) (cap : Nat) (L : List Rq) (A : Ac) (h : BothIn w0 w P rp room k ls a cap L) (hk0 : 0 < k) (hk : k ≤ 64) (hok : A.ok w0) (hl : lightA A) (hG : Glob w0) (h0 : A.kind ≠ 0) (h1k : A.kind ≠ 1) (h2 : A.kind ≠ 2) (h3 : A.kind ≠ 3) :
    Calls Tryd.prog 12 #[ptr P, rptr rp, .agg A.cells.toArray] w fun e w' => e = .returned (.bool true) ∧ BothNext w0 w w' P rp room k := by
  have hB1 : Below w.heap.size w (w.alloc (.cells A.cells.toArray 40)) := (Below.refl _ _).alloc (Nat.le_refl _) _
  have hX1 : (w.alloc (.cells A.cells.toArray 40)).rangeAt w.heap.size 0 A.cells := by simpa using range_new w A.cells.toArray 40
  have hXl : w.heap.size < (w.alloc (.cells A.cells.toArray 40)).heap.size := by simp
  obtain ⟨W1, hW1⟩ : ∃ W1, w.alloc (.cells A.cells.toArray 40) = W1 := ⟨_, rfl⟩
  rw [hW1] at hB1 hX1 hXl
  obtain ⟨X, hX⟩ : ∃ X, w.heap.size = X := ⟨_, rfl⟩
  rw [hX] at hX1 hXl
  have hnX : ¬ P.own X := fun q => by have := h.p.at_.R.own_lt q; omega
  have hXr : X ≠ rp := by have := h.r.lt; omega
  have ha := act_cells hok.r hX1
  simp only [Nat.zero_add] at ha
  obtain ⟨f0, f1, f2, f20, f21, f22, f23⟩ := ha
  have h1 := h.below hB1
  have hsm : L.length ≤ 1024 := by rw [← h.rel.size]; exact h.p.at_.small
  obtain ⟨cs, hcs⟩ : ∃ cs, Hid (A.cells = cs) := ⟨_, hide rfl⟩
  rw [hcs.out] at hW1 ⊢
  obtain ⟨q, hqp⟩ : ∃ q, Hid (ptr P = .pointer (some q)) := ⟨_, hide rfl⟩
  rw [hqp.out]
  have b0 : (A.kind == 0) = false := by simpa using h0
  have b1 : (A.kind == 1) = false := by simpa using h1k
  have b2 : (A.kind == 2) = false := by simpa using h2
  have b3 : (A.kind == 3) = false := by simpa using h3
  unfold rptr
  go_enter Tryd.func12, Tryd.ntmps12
  go_wp2_with fail
  go_ret
  exact ⟨rfl, P, ls, a, cap, L, rfl, h1, Off.of_below hB1⟩
theorem filter_none (L : List Rq) : L.filter (fun _ => false) = [] := by induction L with
  | nil => rfl
  | cons a L ih => simp
set_option maxRecDepth 100000 in
set_option maxHeartbeats 4000000 in
theorem both3 (w0 w : World) (P : Pl) (rp room k : Nat) (ls : List (List Rq)) (a : Option Addr) (cap : Nat) (L : List Rq) (A : Ac) (h : BothIn w0 w P rp room k ls a cap L) (hk0 : 0 < k) (hk : k ≤ 64) (hok : A.ok w0) (hl : lightA A) (hG : Glob w0) (hK : A.kind = 3) :
    Calls Tryd.prog 12 #[ptr P, rptr rp, .agg A.cells.toArray] w fun e w' => e = .returned (.bool true) ∧ BothNext w0 w w' P rp room k := by
  have hB1 : Below w.heap.size w (w.alloc (.cells A.cells.toArray 40)) := (Below.refl _ _).alloc (Nat.le_refl _) _
  have hX1 : (w.alloc (.cells A.cells.toArray 40)).rangeAt w.heap.size 0 A.cells := by simpa using range_new w A.cells.toArray 40
  have hXl : w.heap.size < (w.alloc (.cells A.cells.toArray 40)).heap.size := by simp
  obtain ⟨W1, hW1⟩ : ∃ W1, w.alloc (.cells A.cells.toArray 40) = W1 := ⟨_, rfl⟩
  rw [hW1] at hB1 hX1 hXl
  obtain ⟨X, hX⟩ : ∃ X, w.heap.size = X := ⟨_, rfl⟩
  rw [hX] at hX1 hXl
  have hnX : ¬ P.own X := fun q => by have := h.p.at_.R.own_lt q; omega
  have hXr : X ≠ rp := by have := h.r.lt; omega
  have ha := act_cells hok.r hX1
  simp only [Nat.zero_add] at ha
  obtain ⟨f0, f1, f2, f20, f21, f22, f23⟩ := ha
  have h1 := h.below hB1
  have hsm : L.length ≤ 1024 := by rw [← h.rel.size]; exact h.p.at_.small
  rw [hK] at f0
  obtain ⟨cs, hcs⟩ : ∃ cs, Hid (A.cells = cs) := ⟨_, hide rfl⟩
  rw [hcs.out] at hW1 ⊢
  obtain ⟨q, hqp⟩ : ∃ q, Hid (ptr P = .pointer (some q)) := ⟨_, hide rfl⟩
  rw [hqp.out]
  have g2 := h1.r.c2
  have gf : W1.frozen? ⟨rp, 2, none⟩ = false := by
    have := (h1.r.th 2 (by omega)).2
    rwa [Nat.zero_add] at this
  have hn1 : RefNext W1 (W1.setCell ⟨rp, 2, none⟩ (.slice none 0 0)) rp k room a [] := sweep_fin (rest := []) h1.r (Below.refl _ _) (World.ownsRow_nil _ _ _ _) (fun x hx => by cases hx) (by simp)
  obtain ⟨W2, hW2⟩ : ∃ W2, W1.setCell ⟨rp, 2, none⟩ (.slice none 0 0) = W2 := ⟨_, rfl⟩
  rw [hW2] at hn1
  obtain ⟨a9, cap9, hr9, hoff9, hax9⟩ := id hn1
  have hb2 : Below w0.heap.size w0 W2 := h1.p.b.trans (hoff9.below h1.p.b.size (fun b hb e => by have := h1.rb; omega))
  have hp2 : PoolIn w0 W2 P room ls := ⟨h1.p.at_.at (fun b hq => hoff9.2 b (h1.p.at_.R.own_lt hq) (fun e => by rw [e] at hq; exact h1.nr hq)) hoff9.size, hb2, h1.p.own⟩
  have hab2 : ∀ x, a9 = some x → w0.heap.size ≤ x.block ∧ ¬ P.own x.block := fun x hx => by
    rcases hax9 x hx with q | q
    · exact h1.ab x q
    · exact ⟨Nat.le_trans h1.p.b.size q, fun hq => by have := h1.p.at_.R.own_lt hq; omega⟩
  have cC := pclear_in hp2
  rw [hqp.out] at cC
  have hrel := h1.rel.filter (fun _ => false)
  rw [filter_none] at hrel
  unfold rptr
  go_enter Tryd.func12, Tryd.ntmps12
  go_wp2_with fail
  refine cC.mono ?_
  rintro e w5 ⟨rfl, Q, hq, hpQ, hoff, hown⟩
  clear cC
  go_wp2_with fail
  go_ret
  have hl9 := hr9.lt
  have hnr5 : ¬ Q.own rp := fun hx => by
    rcases hown _ hx with q | q
    · exact h1.nr q
    · omega
  have hab5 : ∀ x, a9 = some x → w0.heap.size ≤ x.block ∧ ¬ Q.own x.block := fun x hx => ⟨(hab2 x hx).1, fun hy => by
    rcases hown _ hy with q | q
    · exact (hab2 x hx).2 q
    · have := hr9.bl x hx; omega⟩
  have hr5 : RefAt w5 rp k room a9 cap9 [] := hr9.at hoff.size (hoff.2 _ hl9 h1.nr) (fun x hx => hoff.2 _ (hr9.bl x hx) (hab2 x hx).2)
  exact ⟨rfl, Q, _, a9, cap9, [], by rw [hq, hqp.out], ⟨hpQ, hr5, hrel, h1.rb, hnr5, hab5⟩, (Off.of_below hB1).trans ((hoff9.mono (fun b _ q => .inr q)).trans (hoff.mono (fun b _ q => .inl q)) (fun _ _ q => q)) (fun _ _ q => q)⟩
end Go.Proofs.YtbfcbjjhdadicaaDoor
namespace Go.Proofs.YtbfcbjjhdadicaaDoor
open Go.RowKit
open Sha Tal
set_option maxRecDepth 100000 in
set_option maxHeartbeats 2000000 in
theorem same7_any (a a' : Option Addr) (cap cap' : Nat) (rs : List Rq) (w : World) (h : ReqsAt w a rs) (h' : ReqsAt w a' rs) :
    Calls Tryd.prog 31 #[.agg #[.bool false, .slice a rs.length cap], .agg #[.bool false, .slice a' rs.length cap']] w fun e w' => e = .returned (.bool true) ∧ Below w.heap.size w w' := by
  obtain ⟨W1, hW1⟩ : ∃ W1, (w.alloc (.cells #[.bool false, .slice a rs.length cap] 54)).alloc (.cells #[.bool false, .slice a' rs.length cap'] 54) = W1 := ⟨_, rfl⟩
  have hB1 : Below w.heap.size w W1 := by rw [← hW1]; exact ((Below.refl _ _).alloc (Nat.le_refl _) _).alloc (by simp) _
  have ra := range_new w #[.bool false, .slice a rs.length cap] 54
  have rb : W1.rangeAt (w.heap.size + 1) 0 [.bool false, .slice a' rs.length cap'] := by
    rw [← hW1]
    have := range_new (w.alloc (.cells #[.bool false, .slice a rs.length cap] 54)) #[.bool false, .slice a' rs.length cap'] 54
    simpa using this
  have ra2 : W1.rangeAt w.heap.size 0 [.bool false, .slice a rs.length cap] := by
    rw [← hW1]
    exact range_at ra (Below.heap_alloc _ _ _ (by simp))
  have c0 := ra2 0 _ rfl
  have c1 := ra2 1 _ rfl
  have d0 := rb 0 _ rfl
  have d1 := rb 1 _ rfl
  have hs1 : w.heap.size + 1 < W1.heap.size := cell_lt d0
  rw [Nat.zero_add] at c0 c1 d0 d1
  have hrl := h.1
  unfold maxLen at hrl
  clear ra ra2 rb
  go_enter Tryd.func31, Tryd.ntmps31
  go_wp2_with fail
  go_loopw [5] (fun iv wr => ∃ k : Nat, k ≤ rs.length ∧ iv = .int .i64 (k : Int) ∧ Below W1.heap.size W1 wr) (fun iv _ => rs.length - (intOf iv).toNat)
  case atStart => exact ⟨0, by omega, rfl, Below.refl _ _⟩
  case round =>
    clear hW1
    obtain ⟨k, hk, rfl, hB⟩ := hrel
    have hx0 : w.heap.size < W1.heap.size := by omega
    have c1' := cell_at c1 (hB.block _ hx0)
    by_cases hlt : k < rs.length
    · have k0 : (k : Int) < (rs.length : Int) := by omega
      have hBr : Below w.heap.size w wr := hB1.trans (hB.mono hB1.size)
      obtain ⟨b1, o1, rfl, hb1, hre1⟩ := (h.below hBr).elem k hlt
      obtain ⟨b2, o2, rfl, hb2, hre2⟩ := (h'.below hBr).elem k hlt
      have hok := h.2.1 _ (List.getElem_mem hlt)
      have heq := fun w' => neq_self _ hok w'
      have hiu := hok.isz
      obtain ⟨u, hu⟩ : ∃ u, Hid (rs[k].cells = u) := ⟨_, hide rfl⟩
      rw [hu.out] at hre1 hre2 hiu
      simp only [hu.out] at heq
      clear hok hu
      go_upto_region 6 with fail
      obtain ⟨w8, hw8⟩ : ∃ w8, wr.drew = w8 := ⟨_, rfl⟩
      have hB8 : Below wr.heap.size wr w8 := by rw [← hw8]; exact (Below.refl _ _).drew
      have hB18 : Below W1.heap.size W1 w8 := hB.trans (hB8.mono hB.size)
      have q1 := range_below hre1 hB8 hb1
      have q2 := range_below hre2 hB8 hb2
      have l1 : b1 < w8.heap.size := Nat.lt_of_lt_of_le hb1 hB8.size
      have l2 : b2 < w8.heap.size := Nat.lt_of_lt_of_le hb2 hB8.size
      have k1 : ∀ w', Below w8.heap.size w8 w' → w'.rangeAt b1 (o1 + k * 19) u := fun w' hw' => range_below q1 hw' l1
      have k2 : ∀ w', Below w8.heap.size w8 w' → w'.rangeAt b2 (o2 + k * 19) u := fun w' hw' => range_below q2 hw' l2
      have x1 : ∀ w', Below w8.heap.size w8 w' → w'.cell? ⟨w.heap.size, 1, none⟩ = some (.slice (some ⟨b1, o1, none⟩) rs.length cap) := fun w' hw' => cell_at c1 ((hB18.trans (hw'.mono hB18.size)).block _ hx0)
      have y1 : ∀ w', Below w8.heap.size w8 w' → w'.cell? ⟨w.heap.size + 1, 1, none⟩ = some (.slice (some ⟨b2, o2, none⟩) rs.length cap') := fun w' hw' => cell_at d1 ((hB18.trans (hw'.mono hB18.size)).block _ hs1)
      refine hs_begin (S := (Below w8.heap.size w8)) 11 rfl (by kernel_rfl) ?_
      rw [hw8]
      clear hw8
      have hS : (Below w8.heap.size w8) w8 := Below.refl _ _
      refine hs_take (i := 0) (d := some 27) (v := ?_) rfl (by kernel_rfl) (by kernel_rfl) (by kernel_rfl) (by rfl) ?_ hS rfl ?_
      rotate_left
      · intro w' hw
        go_simp
        try with_reducible rfl
      simp only [Act.put, List.setIfInBounds_toArray, List.set_cons_zero, List.set_cons_succ]
      refine hs_take (i := 1) (d := some 28) (v := ?_) rfl (by kernel_rfl) (by kernel_rfl) (by kernel_rfl) (by rfl) ?_ hS rfl ?_
      rotate_left
      · intro w' hw
        have hc := x1 w' hw
        go_simp
        try with_reducible rfl
      simp only [Act.put, List.setIfInBounds_toArray, List.set_cons_zero, List.set_cons_succ]
      refine hs_take (i := 2) (d := some 29) (v := ?_) rfl (by kernel_rfl) (by kernel_rfl) (by kernel_rfl) (by rfl) ?_ hS rfl ?_
      rotate_left
      · intro w' hw
        go_simp
        try with_reducible rfl
      simp only [Act.put, List.setIfInBounds_toArray, List.set_cons_zero, List.set_cons_succ]
      refine hs_take (i := 3) (d := some 30) (v := ?_) rfl (by kernel_rfl) (by kernel_rfl) (by kernel_rfl) (by rfl) ?_ hS rfl ?_
      rotate_left
      · intro w' hw
        go_simp
        try with_reducible rfl
      simp only [Act.put, List.setIfInBounds_toArray, List.set_cons_zero, List.set_cons_succ]
      refine hs_take (i := 5) (d := some 32) (v := ?_) rfl (by kernel_rfl) (by kernel_rfl) (by kernel_rfl) (by rfl) ?_ hS rfl ?_
      rotate_left
      · intro w' hw
        go_simp
        try with_reducible rfl
      simp only [Act.put, List.setIfInBounds_toArray, List.set_cons_zero, List.set_cons_succ]
      refine hs_take (i := 6) (d := some 33) (v := ?_) rfl (by kernel_rfl) (by kernel_rfl) (by kernel_rfl) (by rfl) ?_ hS rfl ?_
      rotate_left
      · intro w' hw
        have hc := y1 w' hw
        go_simp
        try with_reducible rfl
      simp only [Act.put, List.setIfInBounds_toArray, List.set_cons_zero, List.set_cons_succ]
      refine hs_take (i := 7) (d := some 34) (v := ?_) rfl (by kernel_rfl) (by kernel_rfl) (by kernel_rfl) (by rfl) ?_ hS rfl ?_
      rotate_left
      · intro w' hw
        go_simp
        try with_reducible rfl
      simp only [Act.put, List.setIfInBounds_toArray, List.set_cons_zero, List.set_cons_succ]
      refine hs_take (i := 8) (d := some 35) (v := ?_) rfl (by kernel_rfl) (by kernel_rfl) (by kernel_rfl) (by rfl) ?_ hS rfl ?_
      rotate_left
      · intro w' hw
        go_simp
        try with_reducible rfl
      simp only [Act.put, List.setIfInBounds_toArray, List.set_cons_zero, List.set_cons_succ]
      refine hs_take (i := 4) (d := some 31) (v := .agg u.toArray) rfl (by kernel_rfl) (by kernel_rfl) (by kernel_rfl) (by rfl) (fun w' hw => exec_load rfl rfl (run_loadVar_mid (P := Tryd.prog) w' b1 (o1 + k * 19) 35 u _ (k1 w' hw) Tryd.underlying35 rfl hiu)) hS rfl ?_
      simp only [Act.put, List.setIfInBounds_toArray, List.set_cons_zero, List.set_cons_succ]
      refine hs_take (i := 9) (d := some 36) (v := .agg u.toArray) rfl (by kernel_rfl) (by kernel_rfl) (by kernel_rfl) (by rfl) (fun w' hw => exec_load rfl rfl (run_loadVar_mid (P := Tryd.prog) w' b2 (o2 + k * 19) 35 u _ (k2 w' hw) Tryd.underlying35 rfl hiu)) hS rfl ?_
      simp only [Act.put, List.setIfInBounds_toArray, List.set_cons_zero, List.set_cons_succ]
      refine hs_take (i := 10) (d := some 37) (v := .bool false) rfl (by kernel_rfl) (by kernel_rfl) (by kernel_rfl) (by rfl) (fun w' hw => by have hq := heq w'; go_simp) hS rfl ?_
      simp only [Act.put, List.setIfInBounds_toArray, List.set_cons_zero, List.set_cons_succ]
      refine hs_done (by kernel_rfl) ?_
      go_wp2_with fail
      go_roundw
      case rel => exact ⟨k + 1, by omega, by go_num, hB18⟩
      case measure => simp [intOf]; omega
    · have k0 : ¬ (k : Int) < (rs.length : Int) := by omega
      go_wp2_with fail
      go_ret
      exact ⟨rfl, hB1.trans (hB.mono hB1.size)⟩
set_option maxRecDepth 100000 in
set_option maxHeartbeats 2000000 in
theorem sameR_any (a a' : Option Addr) (cap cap' : Nat) (rs : List Rq) (w : World) (h : ReqsAt w a rs) (h' : ReqsAt w a' rs) :
    Calls Tryd.prog 16 #[.slice a rs.length cap, .slice a' rs.length cap'] w fun e w' => e = .returned (.bool true) ∧ Below w.heap.size w w' := by
  have c7 := same7_any a a' cap cap' rs w h h'
  go_enter Tryd.func16, Tryd.ntmps16
  go_wp2_with fail
  refine c7.mono ?_
  rintro e w1 ⟨rfl, hb⟩
  clear c7
  go_wp2_with fail
  go_ret
  exact ⟨rfl, hb⟩
end Go.Proofs.YtbfcbjjhdadicaaDoor
namespace Go.Proofs.YtbfcbjjhdadicaaDoor
open Go.RowKit
open Sha Tal
set_option linter.unusedVariables false
theorem owns_max {w : World} {B : Nat} {e : TypeId} {s : Nat} {v : Value} {n : Nat} {xs : List Value} (h : w.ownsRow B e s v n xs) : n ≤ maxLen := by
  rcases h.2 with ⟨rfl, rfl⟩ | ⟨g, cap, cur, rfl, _, _, h1, h2, _⟩
  · exact Nat.zero_le _
  · omega
def NumsAt (w : World) (g n : Nat) : Prop := ∀ i, i < n → (∃ z, w.cell? ⟨g, i * 19 + 1, none⟩ = some (.int .i64 z)) ∧ w.frozen? ⟨g, i * 19 + 1, none⟩ = false
theorem NumsAt.set {w : World} {g n : Nat} (h : NumsAt w g n) {j : Nat} (hj : j < n) (z : Int) : NumsAt (w.setCell ⟨g, j * 19 + 1, none⟩ (.int .i64 z)) g n := fun i hi => by
  obtain ⟨⟨y, hy⟩, hf⟩ := h i hi
  refine ⟨?_, by simpa [World.frozen?, World.setCell] using (there_set (w := w) (b := g) (o := i * 19 + 1) (n := 1) (fun m hm => by
    obtain rfl : m = 0 := by omega
    exact ⟨by rw [Nat.add_zero, hy]; rfl, hf⟩) ⟨g, j * 19 + 1, none⟩ (.int .i64 z) 0 (by omega)).2⟩
  have hr : w.rangeAt g (i * 19 + 1) [.int .i64 y] := fun m v hv => by
    match m, hv with
    | 0, hv => simp at hv; subst hv; exact hy
    | n + 1, hv => simp at hv
  by_cases hij : i = j
  · subst hij
    have := range_set hr 0 (.int .i64 z)
    exact ⟨z, by have := this 0 _ rfl; simpa using this⟩
  · have := range_other hr ⟨g, j * 19 + 1, none⟩ (.int .i64 z) (fun _ => by simp only [List.length_singleton]; omega)
    exact ⟨y, by have := this 0 _ rfl; simpa using this⟩
theorem nums_of {w : World} {B g n cap : Nat} {rs : List Rq} (h : w.ownsRow B 35 19 (.slice (some ⟨g, 0, none⟩) n cap) n (flatR rs)) (hn : rs.length = n) (hok : ∀ r ∈ rs, r.ok) : NumsAt w g n := fun i hi => by
  have hi' : i < rs.length := by omega
  refine ⟨⟨rs[i].n, ?_⟩, ?_⟩
  · have hl := flatR_split rs i hi'
    have hr : w.rangeAt g 0 (flatR rs) := fun j u hu => by
      have := h.cells (g := g) rfl j u hu
      rwa [Addr.add_mid] at this
    rw [hl] at hr
    have h3 := range_part hr
    rw [flatR_length (fun r hr => hok r (List.mem_of_mem_take hr)), List.length_take, Nat.min_eq_left (by omega), Nat.zero_add] at h3
    exact h3 1 _ rfl
  · rcases h.2 with ⟨q, _⟩ | ⟨g', c', cur, q, _, hg, _⟩
    · cases q
    · cases q
      simp [World.frozen?, hg]
set_option maxRecDepth 100000 in
set_option maxHeartbeats 4000000 in
theorem both1 (w0 w : World) (P : Pl) (rp room k : Nat) (ls : List (List Rq)) (a : Option Addr) (cap : Nat) (L : List Rq) (A : Ac) (h : BothIn w0 w P rp room k ls a cap L) (hk0 : 0 < k) (hk : k ≤ 64) (hok : A.ok w0) (hl : lightA A) (hG : Glob w0) (hK : A.kind = 1) :
    Calls Tryd.prog 12 #[ptr P, rptr rp, .agg A.cells.toArray] w fun e w' => e = .returned (.bool true) ∧ BothNext w0 w w' P rp room k := by
  have hB1 : Below w.heap.size w (w.alloc (.cells A.cells.toArray 40)) := (Below.refl _ _).alloc (Nat.le_refl _) _
  have hX1 : (w.alloc (.cells A.cells.toArray 40)).rangeAt w.heap.size 0 A.cells := by simpa using range_new w A.cells.toArray 40
  have hXl : w.heap.size < (w.alloc (.cells A.cells.toArray 40)).heap.size := by simp
  obtain ⟨W1, hW1⟩ : ∃ W1, w.alloc (.cells A.cells.toArray 40) = W1 := ⟨_, rfl⟩
  rw [hW1] at hB1 hX1 hXl
  obtain ⟨X, hX⟩ : ∃ X, w.heap.size = X := ⟨_, rfl⟩
  rw [hX] at hX1 hXl
  have hnX : ¬ P.own X := fun q => by have := h.p.at_.R.own_lt q; omega
  have hXr : X ≠ rp := by have := h.r.lt; omega
  have ha := act_cells hok.r hX1
  simp only [Nat.zero_add] at ha
  obtain ⟨f0, f1, f2, f20, f21, f22, f23⟩ := ha
  have h1 := h.below hB1
  have hsm : L.length ≤ 1024 := by rw [← h.rel.size]; exact h.p.at_.small
  rw [hK] at f0
  obtain ⟨cs, hcs⟩ : ∃ cs, Hid (A.cells = cs) := ⟨_, hide rfl⟩
  rw [hcs.out] at hW1 ⊢
  obtain ⟨q, hqp⟩ : ∃ q, Hid (ptr P = .pointer (some q)) := ⟨_, hide rfl⟩
  rw [hqp.out]
  have hok1 := hok.below h1.p.b
  have hus : A.us.length ≤ 800 := by have := wt_len A.us; have := hl.2.2.2; omega
  have husr : ∀ x ∈ A.us, x.rs.length ≤ 200 := fun x hx => by have e1 := wt_mem hx; have e2 := wtR_len x.rs; have := hl.2.2.2; omega
  have hbz := hl.1
  have cP := pick_any P room ls A.ba A.bc A.bz A.most A.ua A.us.length A.uc (pairsL A.us) W1 h1.p.at_ hok1.b (by omega) (pairsOf_any A.ua A.uc A.us W1 hok1.u hok1.uo hus husr)
  have cR := fun W (hr : RefAt W rp k room a cap L) (ho : A.ok W) => rpick_any rp k room a cap L A.ba A.bc A.bz A.most A.ua A.uc A.us W hr hk (by omega) ho.b (by omega) ho.u ho.uo (by omega)
  have hEq := h1.rel.pick A.us A.most (onceL k A.bz) (once_in k A.bz)
  have hRm : ∀ r ∈ rpickL k A.us A.most (onceL k A.bz) L, r.ok := fun r hr => by
    have h2 := List.mem_of_mem_take hr
    obtain ⟨z, _, hz2⟩ := List.mem_flatMap.1 (List.mem_filter.1 h2).1
    exact h.r.row.2.1 r (List.mem_filter.1 hz2).1
  rw [hqp.out, h1.rel.len, hEq] at cP
  unfold rptr at cR ⊢
  generalize rpickL k A.us A.most (onceL k A.bz) L = R at *
  clear hEq
  go_enter Tryd.func12, Tryd.ntmps12
  go_wp2_with fail
  refine cP.mono ?_
  rintro e w2 ⟨v1, rfl, ho1, hb2⟩
  have hRl := owns_max ho1
  obtain ⟨a1, cp1, rfl, -, -, hRA1, hba1⟩ := own_reqs0 ho1 hRm hRl
  have h2 := h1.below hb2
  have cR := cR w2 h2.r (hok.below h2.p.b)
  have g20 := cell_at f20 (hb2.block _ hXl)
  have g21 := cell_at f21 (hb2.block _ hXl)
  have g22 := cell_at f22 (hb2.block _ hXl)
  clear cP
  go_wp2_with fail
  refine cR.mono ?_
  rintro e w3 ⟨v2, rfl, ho2, hb3⟩
  obtain ⟨a2, cp2, rfl, -, -, hRA2, -⟩ := own_reqs0 ho2 hRm hRl
  have cS := sameR_any a1 a2 cp1 cp2 R w3 (hRA1.below hb3) hRA2
  clear cR
  go_wp2_with fail
  refine cS.mono ?_
  rintro e w4 ⟨rfl, hb4⟩
  have hb24 := hb3.trans (hb4.mono hb3.size)
  have ho4 := ownsB ho1 hb24
  have hB4 : Below w.heap.size w w4 := hB1.trans ((hb2.trans (hb24.mono hb2.size)).mono hB1.size)
  have hNA : R.length = 0 ∨ ∃ g, a1 = some ⟨g, 0, none⟩ ∧ W1.heap.size ≤ g ∧ NumsAt w4 g R.length := by
    rcases ho4.2 with ⟨q1, q2⟩ | ⟨g, c, cur, q1, q2, q3⟩
    · exact .inl q2
    · cases q1
      exact .inr ⟨g, rfl, q2, nums_of ho4 rfl hRm⟩
  unfold maxLen at hRl
  clear cS ho1 ho2 hRA1 hRA2 ho4
  go_wp2_with fail
  go_loopw [45] (fun iv wr => ∃ i : Nat, i ≤ R.length ∧ iv = .int .i64 (i : Int) ∧ (R.length = 0 ∨ ∃ g, a1 = some ⟨g, 0, none⟩ ∧ W1.heap.size ≤ g ∧ NumsAt wr g R.length) ∧ Below w.heap.size w wr) (fun iv _ => R.length - (intOf iv).toNat)
  case atStart => exact ⟨0, by omega, rfl, hNA, hB4⟩
  case round =>
    obtain ⟨i, hi, rfl, hN, hB⟩ := hrel
    by_cases hlt : i < R.length
    · have i1 : (i : Int) < (R.length : Int) := by omega
      rcases hN with q | ⟨g, rfl, hg, hN⟩
      · omega
      · obtain ⟨⟨z, hz⟩, hf⟩ := hN i hlt
        have hgX : w.heap.size ≤ g := by omega
        obtain ⟨n, hn⟩ : ∃ n, n = R.length := ⟨_, rfl⟩
        go_wp2_with fail
        go_roundw
        case rel => exact ⟨i + 1, by omega, by go_num, .inr ⟨g, rfl, hg, hN.set hlt _⟩, hB.setCell hgX _⟩
        case measure => simp [intOf]; omega
    · have i1 : ¬ (i : Int) < (R.length : Int) := by omega
      go_wp2_with fail
      go_ret
      exact ⟨rfl, P, ls, a, cap, L, rfl, h.below hB, Off.of_below hB⟩
theorem both_any (w0 w : World) (P : Pl) (rp room k : Nat) (ls : List (List Rq)) (a : Option Addr) (cap : Nat) (L : List Rq) (A : Ac) (h : BothIn w0 w P rp room k ls a cap L) (hk0 : 0 < k) (hk : k ≤ 64) (hok : A.ok w0) (hl : lightA A) (hG : Glob w0) :
    Calls Tryd.prog 12 #[ptr P, rptr rp, .agg A.cells.toArray] w fun e w' => e = .returned (.bool true) ∧ BothNext w0 w w' P rp room k := by
  by_cases h0 : A.kind = 0
  · exact both0 w0 w P rp room k ls a cap L A h hk0 hk hok hl hG h0
  by_cases h1 : A.kind = 1
  · exact both1 w0 w P rp room k ls a cap L A h hk0 hk hok hl hG h1
  by_cases h2 : A.kind = 2
  · exact both2 w0 w P rp room k ls a cap L A h hk0 hk hok hl hG h2
  by_cases h3 : A.kind = 3
  · exact both3 w0 w P rp room k ls a cap L A h hk0 hk hok hl hG h3
  exact bothD w0 w P rp room k ls a cap L A h hk0 hk hok hl hG h0 h1 h2 h3
end Go.Proofs.YtbfcbjjhdadicaaDoor
