/- requests and batches as bytes: the program's and the document's; A plain region, operation by operation: what is wanted yields its value, what is not is passed  -/
import Derived.Test.YtilbjeeabecfjaaGreatJK0
import Derived.Test.YtilbjeeabecfjaaGreatJK2
import Derived.Test.YtilbjeeabecfjaaGreatJK1
import Derived.Laws.MakeOwn
import Derived.Deep.OwnRows
import Derived.Deep.Upon
import Derived.Deep.Cut
import Derived.Deep.DeepCutAuto
import Derived.WalkKit
import Derived.Deep.RegionHeld3
namespace Go.Proofs.YtilbjeeabecfjaaGreat
open Go.RowKit
open Sha Tal
set_option linter.unusedVariables false
set_option linter.unusedSimpArgs false
theorem owns_mono {w : World} {B B' : Nat} {e : TypeId} {v : Value} {n : Nat} {xs : List Value} (h : w.ownsRow B e 1 v n xs) (hB : B' ≤ B) : w.ownsRow B' e 1 v n xs := by
 refine ⟨h.1, ?_⟩
 rcases h.2 with h | ⟨g, cap, cur, hv, hg, r⟩
 ·exact .inl h
 ·exact .inr ⟨g, cap, cur, hv, Nat.le_trans hB hg, r⟩
def reqL (c n : Int) (s : ByteArray) (t : List Int) : List Value := .int .i64 c :: .int .i64 n :: .string s :: v8 t
theorem req_cells (w : World) (c n : Int) (s : ByteArray) (t : List Int) : (w.alloc (.cells (reqL c n s t).toArray 157)).rangeAt w.heap.size 0 (reqL c n s t) := by
 have := range_new w (reqL c n s t).toArray 157
 simpa using this
theorem reqL_0 {w : World} {b : Nat} {c n : Int} {s : ByteArray} {t : List Int} (h : w.rangeAt b 0 (reqL c n s t)) : w.cell? ⟨b, 0, none⟩ = some (.int .i64 c) ∧ w.cell? ⟨b, 1, none⟩ = some (.int .i64 n) ∧ w.cell? ⟨b, 2, none⟩ = some (.string s) :=
 ⟨h 0 _ rfl, h 1 _ rfl, h 2 _ rfl⟩
set_option maxRecDepth 100000 in
set_option maxHeartbeats 2000000 in
theorem fields_any (a : Option Addr) (cap : Nat) (zs : List Int) (c n : Int) (s : ByteArray) (t : List Int) (w : World) (h : RowAt w a zs) (hm : zs.length ≤ 1000000) (hc : c ≤ 9223372036854775807) (hn : n ≤ 9223372036854775807) (hs : s.size ≤ 1000000) :
   Calls Tryz.prog 106 #[.slice a zs.length cap, .agg (reqL c n s t).toArray] w fun e w' => ∃ v, e = .returned v ∧ Mine w' w.heap.size v (zs ++ putL c ++ putL n ++ textL s) ∧ Below w.heap.size w w' := by
  have hB1 : Below w.heap.size w (w.alloc (.cells (reqL c n s t).toArray 157)) := (Below.refl _ _).alloc (Nat.le_refl _) _
  have hR1 := req_cells w c n s t
  have hz1 : w.heap.size < (w.alloc (.cells (reqL c n s t).toArray 157)).heap.size := by simp
  have hlc := putL_length c (by omega)
  have hln := putL_length n (by omega)
  obtain ⟨q, hq⟩ : ∃ q, Hid (reqL c n s t = q) := ⟨_, rfl⟩
  rw [hq.out] at hB1 hz1 ⊢
  rw [hq.out] at hR1
  obtain ⟨z1, hz1'⟩ : ∃ z1, Hid (zs ++ putL c = z1) := ⟨_, rfl⟩
  obtain ⟨z2, hz2'⟩ : ∃ z2, Hid (z1 ++ putL n = z2) := ⟨_, rfl⟩
  have l1 : z1.length ≤ 1000009 := by rw [← hz1'.out, List.length_append]; omega
  have l2 : z2.length ≤ 1000018 := by rw [← hz2'.out, List.length_append]; omega
  rw [hz1'.out, hz2'.out]
  clear hlc hln
  go_enter Tryz.func106, Tryz.ntmps106
  go_wp2_with fail
  go_name_world w1 hw1
  rw [show w.alloc (.cells q.toArray 157) = w1 from hw1] at hB1 hR1 hz1
  clear hw1
  have hB4 := hB1.drew
  have hR4 : w1.drew.rangeAt w.heap.size 0 q := (World.rangeAt_drew _ _ _ _).2 hR1
  have hz4 : w.heap.size < w1.drew.heap.size := hz1
  have h4 := h.below hB4
  clear hB1 hR1 hz1
  obtain ⟨X, hX⟩ : ∃ X, Hid (w.heap.size = X) := ⟨_, rfl⟩
  rw [hX.out] at hR4 hz4 ⊢
  obtain ⟨w5, hw5⟩ : ∃ w5, w1.drew = w5 := ⟨_, rfl⟩
  rw [hw5] at hB4 hR4 hz4 h4
  have cells : ∀ w', Below w5.heap.size w5 w' → w'.cell? ⟨X, 0, none⟩ = some (.int .i64 c) ∧ w'.cell? ⟨X, 1, none⟩ = some (.int .i64 n) ∧ w'.cell? ⟨X, 2, none⟩ = some (.string s) := fun w' hw' => by
    have := range_below hR4 hw' hz4
    rw [← hq.out] at this
    exact reqL_0 this
  refine hs_begin (S := (Below w5.heap.size w5)) 11 rfl (by kernel_rfl) ?_
  rw [hw5]
  clear hw5 hR4
  have hS : (Below w5.heap.size w5) w5 := Below.refl _ _
  refine hs_t 0 5 (?_) rfl (by kernel_rfl) (by kernel_rfl) (by kernel_rfl) (by rfl) ?_ hS rfl ?_
  rotate_left
  · intro w' hw
    go_simp
    try with_reducible rfl
  simp only [nz]
  refine hs_t 1 6 (?_) rfl (by kernel_rfl) (by kernel_rfl) (by kernel_rfl) (by rfl) ?_ hS rfl ?_
  rotate_left
  · intro w' hw
    go_simp
    try with_reducible rfl
  simp only [nz]
  refine hs_t 2 7 (?_) rfl (by kernel_rfl) (by kernel_rfl) (by kernel_rfl) (by rfl) ?_ hS rfl ?_
  rotate_left
  · intro w' hw
    have hc := (cells w' hw).1
    go_simp
    try with_reducible rfl
  simp only [nz]
  refine hs_t 4 9 (?_) rfl (by kernel_rfl) (by kernel_rfl) (by kernel_rfl) (by rfl) ?_ hS rfl ?_
  rotate_left
  · intro w' hw
    go_simp
    try with_reducible rfl
  simp only [nz]
  refine hs_t 5 10 (?_) rfl (by kernel_rfl) (by kernel_rfl) (by kernel_rfl) (by rfl) ?_ hS rfl ?_
  rotate_left
  · intro w' hw
    have hc := (cells w' hw).2.1
    go_simp
    try with_reducible rfl
  simp only [nz]
  refine hs_t 7 12 (?_) rfl (by kernel_rfl) (by kernel_rfl) (by kernel_rfl) (by rfl) ?_ hS rfl ?_
  rotate_left
  · intro w' hw
    go_simp
    try with_reducible rfl
  simp only [nz]
  refine hs_t 8 13 (?_) rfl (by kernel_rfl) (by kernel_rfl) (by kernel_rfl) (by rfl) ?_ hS rfl ?_
  rotate_left
  · intro w' hw
    have hc := (cells w' hw).2.2
    go_simp
    try with_reducible rfl
  simp only [nz]
  clear cells
  have c6 := put_any a cap zs c w5 h4 (by omega) hc
  rw [hz1'.out] at c6
  refine hs_call (i := 3) (d := some 8) rfl (by kernel_rfl) (by rfl) (by go_simp; first | done | exact ⟨rfl, rfl⟩ | with_reducible rfl) rfl ?_
  refine (c6).mono ?_
  rintro e' w6 ⟨v6, rfl, hM6, hw6⟩
  have hS : (Below w5.heap.size w5) w6 := hS.trans (hw6.mono hS.size)
  refine ⟨_, rfl, hS, ?_⟩
  simp only [nz]
  obtain ⟨a6, cap6, rfl, _, _, hrow6⟩ := hM6.rowAt (by unfold maxLen; omega)
  clear c6 hM6 hw6
  have c7 := put_any a6 cap6 z1 n w6 hrow6 (by omega) hn
  rw [hz2'.out] at c7
  refine hs_call (i := 6) (d := some 11) rfl (by kernel_rfl) (by rfl) (by go_simp; first | done | exact ⟨rfl, rfl⟩ | with_reducible rfl) rfl ?_
  refine (c7).mono ?_
  rintro e' w7 ⟨v7, rfl, hM7, hw7⟩
  have hS : (Below w5.heap.size w5) w7 := hS.trans (hw7.mono hS.size)
  refine ⟨_, rfl, hS, ?_⟩
  simp only [nz]
  obtain ⟨a7, cap7, rfl, _, _, hrow7⟩ := hM7.rowAt (by unfold maxLen; omega)
  have hs7 : w5.heap.size ≤ w7.heap.size := hS.size
  clear c7 hM7 hw7 hrow6
  have c8 := putText_any a7 cap7 z2 s w7 hrow7 (by omega) (by omega)
  refine hs_call (i := 9) (d := some 14) rfl (by kernel_rfl) (by rfl) (by go_simp; first | done | exact ⟨rfl, rfl⟩ | with_reducible rfl) rfl ?_
  refine (c8).mono ?_
  rintro e' w8 ⟨v8, rfl, hM8, hw8⟩
  have hS : (Below w5.heap.size w5) w8 := hS.trans (hw8.mono hS.size)
  refine ⟨_, rfl, hS, ?_⟩
  simp only [nz]
  have hfin := hB4.trans (hS.mono hB4.size)
  have hM9 : Mine w8 w.heap.size v8 (z2 ++ textL s) := ⟨owns_mono hM8.1 (by have := hB4.size; omega), hM8.2⟩
  clear c8 hM8 hw8 hrow7
  refine hs_t 10 4 (?_) rfl (by kernel_rfl) (by kernel_rfl) (by kernel_rfl) (by rfl) ?_ hS rfl ?_
  rotate_left
  · intro w' hw
    go_simp
    try with_reducible rfl
  simp only [nz]
  refine hs_done (by kernel_rfl) ?_
  go_wp2
  go_ret
  exact ⟨_, rfl, hM9, hfin⟩
theorem reqL_length (c n : Int) (s : ByteArray) (t : List Int) (ht : t.length = 16) : (reqL c n s t).length = 19 := by simp [reqL, v8_length, ht]
theorem iszR : (Tryz.prog.info? 157).map (·.size) = some 19 := by kernel_rfl
theorem reqL_one (c n : Int) (s : ByteArray) (t : List Int) : ∀ v ∈ reqL c n s t, v.oneCell' = true := by
 intro v hv
 simp only [reqL, List.mem_cons] at hv
 rcases hv with rfl | rfl | rfl | hv
 ·rfl
 ·rfl
 ·rfl
 ·exact v8_one t v hv
structure BRq where
 c : Int
 n : Int
 s : ByteArray
 t : List Int
deriving Inhabited
structure BRq.ok (r : BRq) : Prop where
 tl : r.t.length = 16
 tb : ∀ z ∈ r.t, 0 ≤ z ∧ z < 256
 sl : r.s.size ≤ maxLen
 cl : -9223372036854775808 ≤ r.c
 ch : r.c ≤ 9223372036854775807
 nl : -9223372036854775808 ≤ r.n
 nh : r.n ≤ 9223372036854775807
def BRq.cells (r : BRq) : List Value := reqL r.c r.n r.s r.t
theorem BRq.ok.length {r : BRq} (h : r.ok) : r.cells.length = 19 := by
 have := h.tl
 simp [BRq.cells, reqL, v8]
 omega
theorem BRq.one (r : BRq) : ∀ v ∈ r.cells, v.oneCell' = true := reqL_one _ _ _ _
def flatR (rs : List BRq) : List Value := rs.flatMap BRq.cells
theorem flatR_append (a b : List BRq) : flatR (a ++ b) = flatR a ++ flatR b := by simp [flatR]
def ReqsAt (w : World) (a : Option Addr) (rs : List BRq) : Prop :=
 rs.length ≤ maxLen ∧ (∀ r ∈ rs, r.ok) ∧ (rs = [] ∨ ∃ b off, a = some ⟨b, off, none⟩ ∧ b < w.heap.size ∧ w.rangeAt b off (flatR rs))
theorem ReqsAt.below {w w' : World} {a : Option Addr} {rs : List BRq} (h : ReqsAt w a rs) (hb : Below w.heap.size w w') : ReqsAt w' a rs := by
 refine ⟨h.1, h.2.1, ?_⟩
 rcases h.2.2 with h | ⟨b, off, rfl, h1, h2⟩
 ·exact Or.inl h
 ·exact Or.inr ⟨b, off, rfl, Nat.lt_of_lt_of_le h1 hb.size, range_below h2 hb h1⟩
theorem ReqsAt.none {w : World} {a : Option Addr} : ReqsAt w a [] := ⟨by simp, by simp, .inl rfl⟩
def batV (b : Bool) (a : Option Addr) (n cap : Nat) : Value := .agg #[.bool b, .slice a n cap]
def BRq.bytes (r : BRq) : List Int := putL r.c ++ putL r.n ++ textL r.s ++ r.t
def batL (q : Bool) (rs : List BRq) : List Int := if q then putL 0 else putL ((rs.length : Int) + 1) ++ rs.flatMap BRq.bytes
theorem BRq.ok.isz {r : BRq} (h : r.ok) : (Tryz.prog.info? 157).map (·.size) = some r.cells.length := by rw [h.length]; exact iszR
theorem BRq.ok.iszA {r : BRq} (h : r.ok) : (Tryz.prog.info? 157).map (·.size) = some r.cells.toArray.size := by rw [List.size_toArray, h.length]; exact iszR
def BatBox (w : World) (b : Nat) (q : Bool) (a : Option Addr) (n cap : Nat) : Prop := b < w.heap.size ∧ w.cell? ⟨b, 0, none⟩ = some (.bool q) ∧ w.cell? ⟨b, 1, none⟩ = some (.slice a n cap) ∧ w.rangeAt b 0 [.bool q, .slice a n cap]
theorem BatBox.below {w w' : World} {b : Nat} {q : Bool} {a : Option Addr} {n cap : Nat} (h : BatBox w b q a n cap) (hb : Below w.heap.size w w') : BatBox w' b q a n cap :=
 ⟨Nat.lt_of_lt_of_le h.1 hb.size, (hb.cell (p := ⟨b, 0, none⟩) h.1).trans h.2.1, (hb.cell (p := ⟨b, 1, none⟩) h.1).trans h.2.2.1, range_below h.2.2.2 hb h.1⟩
theorem iszB : (Tryz.prog.info? 97).map (·.size) = some 2 := by kernel_rfl
open Go Go.RowKit
section
variable {P : Program} {ops : Array Oper} {Q : Exit → Act → World → Prop}
structure Pl (P : Program) (ops : Array Oper) (Q : Exit → Act → World → Prop) (l : List Oper) (a : Act) (w : World) : Prop where
 out : wpList P ops Q l a w
theorem pl_begin {id : Nat} {a : Act} {w : World} (h : Pl P ops Q ops.toList a w) : (Code.region id ops false).wp P Q a w := wp_region_list h.out
theorem pl_nil {a : Act} {w : World} (h : Q .normal a w) : Pl P ops Q [] a w := ⟨wpList_nil h⟩
theorem pl_take {o : Oper} {rest : List Oper} {d : Option Nat} {v : Value} {a : Act} {w : World} (hw : Region.wanted o (yielded ops a.tmps) = true) (hy : (execOp a.eval o).run P w = .ok (.value v) w) (hd : o.dst = d)
  (h : Pl P ops Q rest (a.put d v) w) : Pl P ops Q (o :: rest) a w := by
 subst hd
 refine ⟨wpList_step fun K hK => ?_⟩
 rw [if_pos hw]
 unfold Oper.wp
 rw [hy]
 exact hK _ _ h.out
theorem pl_t (d : Nat) (v : Value) {o : Oper} {rest : List Oper} {a : Act} {w : World} (hw : Region.wanted o (yielded ops a.tmps) = true) (hy : (execOp a.eval o).run P w = .ok (.value v) w) (hd : o.dst = some d) (h : Pl P ops Q rest (a.put (some d) v) w) : Pl P ops Q (o :: rest) a w := pl_take hw hy hd h
theorem pl_skip {o : Oper} {rest : List Oper} {d : Option Nat} {a : Act} {w : World} (hw : Region.wanted o (yielded ops a.tmps) = false) (hd : o.dst = d)
  (h : Pl P ops Q rest (a.put d undef) w) : Pl P ops Q (o :: rest) a w := by
 subst hd
 refine ⟨wpList_step fun K hK => ?_⟩
 rw [if_neg (by simp [hw])]
 exact hK _ _ h.out
theorem pl_run {o : Oper} {rest : List Oper} {d : Option Nat} {v : Value} {a : Act} {w w' : World} (hw : Region.wanted o (yielded ops a.tmps) = true) (hy : (execOp a.eval o).run P w = .ok (.value v) w') (hd : o.dst = d)
  (h : Pl P ops Q rest (a.put d v) w') : Pl P ops Q (o :: rest) a w := by
 subst hd
 refine ⟨wpList_step fun K hK => ?_⟩
 rw [if_pos hw]
 unfold Oper.wp
 rw [hy]
 exact hK _ _ h.out
theorem pl_call {o : Oper} {rest : List Oper} {d : Option Nat} {f : FuncId} {args : Array Value} {a : Act} {w : World} (hw : Region.wanted o (yielded ops a.tmps) = true) (hy : (execOp a.eval o).run P w = .ok (.enter f args) w) (hd : o.dst = d)
  (h : Calls P f args w fun e w' => ∃ v, e = .returned v ∧ Pl P ops Q rest (a.put d v) w') : Pl P ops Q (o :: rest) a w := by
 subst hd
 refine ⟨wpList_step fun K hK => ?_⟩
 rw [if_pos hw]
 unfold Oper.wp
 rw [hy]
 refine h.mono ?_
 rintro e w' ⟨v, rfl, hk⟩
 exact hK _ _ hk.out
theorem run_load_one (w : World) (p : Addr) (ty : TypeId) (v : Value) (d : TypeDesc) (hc : w.cell? p = some v) (hu : P.underlying ty = some d) (hd : d.isRow = false) : (loadVar ty p).run P w = .ok v w := by
 have hagg : (isAgg ty).run P w = .ok false w := by
  unfold isAgg
  rw [Sem.run_bind, run_underlying hu w]
  cases d <;> simp_all
 simp [loadVar, Sem.run_bind, hagg, load, Sem.run, hc]
theorem pl_one {o : Oper} {a : Act} {w : World} {ty : TypeId} {x : Operand} (ho : o.op = .load ty x) {p : Addr} (hx : a.eval x = .pointer (some p)) {v : Value} {d : TypeDesc} (hc : w.cell? p = some v) (hu : P.underlying ty = some d) (hd : d.isRow = false) : (execOp a.eval o).run P w = .ok (.value v) w := by
 unfold execOp
 simp only [ho, hx, Instr.loadAt, Instr.sureAddr, Sem.run_bind, Sem.run_pure, Result.andThen_ok, run_load_one w p ty v d hc hu hd]
end
end Go.Proofs.YtilbjeeabecfjaaGreat
namespace Go.Proofs.YtilbjeeabecfjaaGreat
open Go.RowKit
open Sha Tal
set_option linter.unusedVariables false
set_option linter.unusedSimpArgs false
theorem exec_load {P : Program} {o : Oper} {a : Act} {w : World} {ty : TypeId} {x : Operand} {b off : Nat} {v : Value} (ho : o.op = .load ty x) (hx : a.eval x = .pointer (some ⟨b, off, none⟩)) (hr : (loadVar ty ⟨b, off, none⟩).run P w = .ok v w) : (execOp a.eval o).run P w = .ok (.value v) w := by
 unfold execOp
 simp only [ho, hx, Instr.loadAt, Instr.sureAddr, Sem.run_bind, Sem.run_pure, Result.andThen_ok, hr]
theorem exec_store {P : Program} {o : Oper} {a : Act} {w w' : World} {ty : TypeId} {x y : Operand} {b off : Nat} {v : Value} (ho : o.op = .store ty x y) (hx : a.eval x = .pointer (some ⟨b, off, none⟩)) (hy : a.eval y = v) (hr : (storeVar ty ⟨b, off, none⟩ v).run P w = .ok () w') : (execOp a.eval o).run P w = .ok .skip w' := by
 unfold execOp
 simp only [ho, hx, hy, Instr.storeAt, Instr.sureAddr, Sem.run_bind, Sem.run_pure, Result.andThen_ok, hr]
theorem ex_mid {P : Program} {op : Oper} {a : Act} {ty : TypeId} {x : Operand} (ho : op.op = .load ty x) {b o : Nat} (hx : a.eval x = .pointer (some ⟨b, o, none⟩)) {cs : List Value} {d : TypeDesc} {w : World} (hr : w.rangeAt b o cs) (hu : P.underlying ty = some d) (hd : d.isRow = true) (hi : (P.info? ty).map (·.size) = some cs.length) : (execOp a.eval op).run P w = .ok (.value (.agg cs.toArray)) w :=
 exec_load ho hx (run_loadVar_mid w b o ty cs d hr hu hd hi)
theorem ex_put {P : Program} {o : Oper} {a : Act} {w : World} {ty : TypeId} {x y : Operand} {b off : Nat} {cs : Array Value} (ho : o.op = .store ty x y) (hx : a.eval x = .pointer (some ⟨b, off, none⟩)) (hy : a.eval y = .agg cs) (ht : w.there b off cs.size) (hi : (P.info? ty).map (·.size) = some cs.size) (h1 : cs.all (·.oneCell') = true) : (execOp a.eval o).run P w = .ok .skip (w.setCells b off cs.toList) :=
 exec_store ho hx hy (run_storeVar_mid w b off ty cs ht hi h1)
theorem ex_alloc {P : Program} {o : Oper} {a : Act} {w : World} {t : TypeId} {z : Value} (ho : o.op = .alloc t) (hz : (zeroValue t).run P w = .ok z w) : (execOp a.eval o).run P w = .ok (.value (.pointer (some ⟨w.heap.size, 0, none⟩))) (w.alloc (.cells z.cells t)) := by
 unfold execOp
 simp [ho, hz, Instr.alloc, newVar, newRow]
section
variable {P : Program} {ops : Array Oper} {Q : Exit → Act → World → Prop}
theorem pl_store {o : Oper} {rest : List Oper} {a : Act} {w w' : World} (hw : Region.wanted o (yielded ops a.tmps) = true) (hy : (execOp a.eval o).run P w = .ok .skip w') (hd : o.dst = none)
  (h : Pl P ops Q rest a w') : Pl P ops Q (o :: rest) a w := by
 refine ⟨wpList_step fun K hK => ?_⟩
 rw [if_pos hw]
 unfold Oper.wp
 rw [hy, Oper.upon_skip, hd]
 exact hK _ _ h.out
end
theorem there_newN (w : World) (arr : Array Value) (t : TypeId) {n : Nat} (h : arr.size = n) : (w.alloc (.cells arr t)).there w.heap.size 0 n := h ▸ there_new w arr t
theorem all_one {cs : List Value} (h : ∀ v ∈ cs, v.oneCell' = true) : cs.toArray.all (·.oneCell') = true := by
 rw [Array.all_eq_true_iff_forall_mem]
 intro v hv
 exact h v (by simpa using hv)
def WrOn (X : Nat) (v : Value) (zs bs : List Int) (w : World) (e : Ending) (w' : World) : Prop := ∃ v', e = .returned (.tuple #[]) ∧ WrAt w' X v' (zs ++ bs) false ∧ Off (WrF X v) w w' ∧ RowOn w v v'
theorem rowon_refl (w : World) (v : Value) : RowOn w v v := fun g hg => .inl hg
theorem WrOn.from {X : Nat} {v : Value} {zs bs : List Int} {w w1 : World} {e : Ending} {w' : World} (hb : Below w.heap.size w w1) (h : WrOn X v zs bs w1 e w') : WrOn X v zs bs w e w' := by
 obtain ⟨v', q1, q2, q3, q4⟩ := h
 have T := wr_trans (Off.of_below hb) (rowon_refl w v) q3 q4
 exact ⟨v', q1, q2, T.1, T.2⟩
def sgL (g : Sg) : List Int := putL g.n ++ g.t
def sgsL (xs : List Sg) : List Int := putL xs.length ++ xs.flatMap sgL
def evL (g : Ev) : List Int := putL g.n ++ (textL g.s ++ g.t)
def evsL (xs : List Ev) : List Int := putL xs.length ++ xs.flatMap evL
def vtL (x : Vt) : List Int := ([x.k, x.e, x.v, x.s].flatMap putL) ++ x.d
def BRq.of (r : Rq) : BRq := ⟨r.c, r.n, r.s, r.t⟩
def ctL (x : Vt) (xs : List Sg) : List Int := vtL x ++ sgsL xs
def hdL (h : Hd) : List Int := batL h.q (h.rs.xs.map BRq.of) ++ ctL h.vt h.sg.xs
def hdsL (xs : List Hd) : List Int := putL xs.length ++ xs.flatMap hdL
end Go.Proofs.YtilbjeeabecfjaaGreat
namespace Go.Proofs.YtilbjeeabecfjaaGreat
open Go.RowKit
open Sha Tal
set_option linter.unusedVariables false
set_option linter.unusedSimpArgs false
theorem iszEv : (Tryz.prog.info? 32).map (·.size) = some 18 := by kernel_rfl
theorem iszSg : (Tryz.prog.info? 131).map (·.size) = some 17 := by kernel_rfl
theorem zeroSg : ∃ z : List Value, z.length = 17 ∧ ∀ w : World, (zeroValue 131).run Tryz.prog w = .ok (.agg z.toArray) w := ⟨[.int .i64 0] ++ v8 (List.replicate 16 0), by decide, fun w => by kernel_rfl⟩
theorem zeroEv : ∃ z : List Value, z.length = 18 ∧ ∀ w : World, (zeroValue 32).run Tryz.prog w = .ok (.agg z.toArray) w := ⟨[.int .i64 0, .string ⟨#[]⟩] ++ v8 (List.replicate 16 0), by decide, fun w => by kernel_rfl⟩
open Go.RowKit
open Sha Tal
def Hd.zero : Hd := ⟨false, ⟨none, 0, []⟩, Vt.zero, ⟨none, 0, []⟩⟩
def HdsAt (w : World) (x : Sl Hd) : Prop := x.At HdE w ∧ ∀ h ∈ x.xs, h.At w
theorem HdsAt.below {w w' : World} {x : Sl Hd} (k : HdsAt w x) (hb : Below w.heap.size w w') : HdsAt w' x := ⟨k.1.below hb, fun h hh => (k.2 h hh).below hb⟩
open Go.RowKit
open Sha Tal
def chgB (a b c : Int) (x : Sl Hd) (a' b' c' : Int) (y : Sl Hd) : Bool := ((a == a') && ((b == b') && (c == c'))) && sameL Hd.B x.xs y.xs
open Go.RowKit
open Sha Tal
set_option linter.unusedVariables false
set_option linter.unusedSimpArgs false
theorem iszBa : (Tryz.prog.info? 97).map (·.size) = some 2 := by kernel_rfl
theorem iszCe : (Tryz.prog.info? 107).map (·.size) = some 37 := by kernel_rfl
theorem iszVo : (Tryz.prog.info? 101).map (·.size) = some 36 := by kernel_rfl
theorem iszCh : (Tryz.prog.info? 104).map (·.size) = some 4 := by kernel_rfl
theorem boxed_new (w : World) (q : List Value) (t : TypeId) : Below w.heap.size w (w.alloc (.cells q.toArray t)) ∧ (w.alloc (.cells q.toArray t)).rangeAt w.heap.size 0 q ∧ w.heap.size < (w.alloc (.cells q.toArray t)).heap.size :=
 ⟨(Below.refl _ _).alloc (Nat.le_refl _) _, by simpa using range_new w q.toArray t, by simp⟩
open Go.RowKit
open Sha Tal
structure Mg where
 k : Int
 e : Int
 l : Int
 v : Int
 s : Int
 q : Bool
 rs : Sl Rq
 vt : Vt
 ce : Int
 cl : Int
 cv : Int
 he : Sl Hd
 ne : Sl Ev
 d : List Int
 ct : Vt
 cs : Sl Sg
 st : ByteArray
 sg : Sl Sg
def Mg.ms (m : Mg) : Ms := ⟨m.k, m.e, m.l, m.v, m.s, m.q, m.rs.val, m.vt, m.ce, m.cl, m.cv, m.he.val, m.ne.val, m.d, m.ct, m.cs.val, m.st, m.sg.val⟩
structure Mg.ok (m : Mg) : Prop where
 vt : m.vt.ok
 ct : m.ct.ok
 dl : m.d.length = 32
 db : ∀ z ∈ m.d, 0 ≤ z ∧ z < 256
theorem Mg.ok.ms {m : Mg} (h : m.ok) : m.ms.ok := ⟨h.vt, h.ct, h.dl, h.db, rfl, rfl, rfl, rfl, rfl⟩
structure Mg.At (m : Mg) (w : World) : Prop where
 rs : m.rs.At RqE w
 he : HdsAt w m.he
 ne : m.ne.At EvE w
 cs : m.cs.At SgE w
 sg : m.sg.At SgE w
theorem Mg.At.below {m : Mg} {w w' : World} (h : m.At w) (hb : Below w.heap.size w w') : m.At w' := ⟨h.rs.below hb, h.he.below hb, h.ne.below hb, h.cs.below hb, h.sg.below hb⟩
def Mg.nB (a b : Mg) : Bool := (a.k == b.k) && ((a.e == b.e) && ((a.l == b.l) && ((a.v == b.v) && (a.s == b.s))))
def Mg.fB (a b : Mg) : Bool := vtB a.vt b.vt && ((a.d == b.d) && (a.st.toList == b.st.toList))
def Mg.lB (a b : Mg) : Bool := batB a.q a.rs b.q b.rs && (chgB a.ce a.cl a.cv a.he b.ce b.cl b.cv b.he && (sameL Ev.B a.ne.xs b.ne.xs && (certB a.ct a.cs b.ct b.cs && sameL Sg.B a.sg.xs b.sg.xs)))
def Mg.B (a b : Mg) : Bool := Mg.nB a b && (Mg.fB a b && Mg.lB a b)
open Go.RowKit
open Sha Tal
set_option linter.unusedVariables false
set_option linter.unusedSimpArgs false
def Mg.body (m : Mg) : List Int :=
 if m.k = 1 then [m.e, m.s].flatMap putL ++ batL m.q (m.rs.xs.map BRq.of)
 else if m.k = 2 then vtL m.vt
 else if m.k = 3 then [m.ce, m.cl, m.cv].flatMap putL ++ hdsL m.he.xs
 else if m.k = 4 then [m.e, m.l, m.v].flatMap putL ++ evsL m.ne.xs
 else if m.k = 5 then putL m.e ++ m.d
 else if m.k = 6 then [m.e, m.s].flatMap putL
 else if m.k = 7 then batL m.q (m.rs.xs.map BRq.of) ++ ctL m.ct m.cs.xs
 else textL m.st ++ sgsL m.sg.xs
def Mg.bytes (m : Mg) : List Int := putL m.k ++ m.body
open Go.RowKit
open Sha Tal
set_option linter.unusedVariables false
set_option linter.unusedSimpArgs false
def FOn (zs bs : List Int) (w : World) (e : Ending) (w' : World) : Prop := ∃ v, e = .returned v ∧ Mine w' w.heap.size v (zs ++ bs) ∧ Below w.heap.size w w'
theorem FOn.row {zs bs L : List Int} {w w' : World} {e : Ending} (h : FOn zs bs w e w') (hL : zs ++ bs = L) (hm : L.length ≤ 4000000) : ∃ a cap, e = .returned (.slice a L.length cap) ∧ RowAt w' a L ∧ Mine w' w.heap.size (.slice a L.length cap) L ∧ Below w.heap.size w w' := by
 subst hL
 obtain ⟨v, rfl, h1, h2⟩ := h
 obtain ⟨a, cap, rfl, _, _, hr⟩ := h1.rowAt (by unfold maxLen; omega)
 exact ⟨a, cap, rfl, hr, h1, h2⟩
open Go.RowKit
open Sha Tal
open Go.RowKit
open Sha Tal
structure Bst (w X : World) (b2 : Nat) (q : List Value) : Prop where
 A : X.rangeAt w.heap.size 0 q
 T : X.there b2 0 119
 T1 : X.there (w.heap.size + 1) 0 119
 B : Below w.heap.size w X
 h2 : w.heap.size + 2 ≤ b2
 hs : b2 < X.heap.size
theorem Bst.below {w X Y : World} {b2 : Nat} {q : List Value} (h : Bst w X b2 q) (hb : Below X.heap.size X Y) : Bst w Y b2 q :=
 ⟨range_below h.A hb (by have := h.h2; have := h.hs; omega), there_below h.T hb h.hs, there_below h.T1 hb (by have := h.h2; have := h.hs; omega), h.B.trans (hb.mono h.B.size), h.h2, Nat.lt_of_lt_of_le h.hs hb.size⟩
theorem put_e {c : Ms} {X : World} {b : Nat} (x : Int) (r : X.rangeAt b 0 c.cells) (ht : X.there b 1 1) : (X.setCells b 1 [.int .i64 x]).rangeAt b 0 { c with e := x }.cells :=
 range_put (pre := [Value.int .i64 c.k]) (mid := [.int .i64 c.e]) (vs := [.int .i64 x]) r 1 rfl ht rfl
theorem put_l {c : Ms} {X : World} {b : Nat} (x : Int) (r : X.rangeAt b 0 c.cells) (ht : X.there b 2 1) : (X.setCells b 2 [.int .i64 x]).rangeAt b 0 { c with l := x }.cells :=
 range_put (pre := [Value.int .i64 c.k, Value.int .i64 c.e]) (mid := [.int .i64 c.l]) (vs := [.int .i64 x]) r 2 rfl ht rfl
theorem put_v {c : Ms} {X : World} {b : Nat} (x : Int) (r : X.rangeAt b 0 c.cells) (ht : X.there b 3 1) : (X.setCells b 3 [.int .i64 x]).rangeAt b 0 { c with v := x }.cells :=
 range_put (pre := [Value.int .i64 c.k, Value.int .i64 c.e, Value.int .i64 c.l]) (mid := [.int .i64 c.v]) (vs := [.int .i64 x]) r 3 rfl ht rfl
theorem put_s {c : Ms} {X : World} {b : Nat} (x : Int) (r : X.rangeAt b 0 c.cells) (ht : X.there b 4 1) : (X.setCells b 4 [.int .i64 x]).rangeAt b 0 { c with s := x }.cells :=
 range_put (pre := [Value.int .i64 c.k, Value.int .i64 c.e, Value.int .i64 c.l, Value.int .i64 c.v]) (mid := [.int .i64 c.s]) (vs := [.int .i64 x]) r 4 rfl ht rfl
theorem put_b {c : Ms} {X : World} {b : Nat} (x : Bool) (y : Value) (r : X.rangeAt b 0 c.cells) (ht : X.there b 5 2) : (X.setCells b 5 [.bool x, y]).rangeAt b 0 { c with q := x, rs := y }.cells :=
 range_put (pre := [Value.int .i64 c.k, .int .i64 c.e, .int .i64 c.l, .int .i64 c.v, .int .i64 c.s]) (mid := [.bool c.q, c.rs]) (vs := [.bool x, y]) r 5 rfl ht rfl
theorem put_vt {c : Ms} {X : World} {b : Nat} (x : Vt) (hx : x.ok) (hc : c.vt.ok) (r : X.rangeAt b 0 c.cells) (ht : X.there b 7 36) : (X.setCells b 7 x.cells).rangeAt b 0 { c with vt := x }.cells :=
 range_put (pre := [.int .i64 c.k, .int .i64 c.e, .int .i64 c.l, .int .i64 c.v, .int .i64 c.s, .bool c.q, c.rs]) (mid := c.vt.cells) (vs := x.cells) r 7 rfl (by rw [hx.len]; exact ht) (by rw [hx.len, hc.len])
theorem put_ch {c : Ms} {X : World} {b : Nat} (x y z : Int) (u : Value) (hc : c.vt.ok) (r : X.rangeAt b 0 c.cells) (ht : X.there b 43 4) : (X.setCells b 43 [.int .i64 x, .int .i64 y, .int .i64 z, u]).rangeAt b 0 { c with ce := x, cl := y, cv := z, he := u }.cells := by
 have h := range_put (pre := [.int .i64 c.k, .int .i64 c.e, .int .i64 c.l, .int .i64 c.v, .int .i64 c.s, .bool c.q, c.rs] ++ c.vt.cells) (mid := [.int .i64 c.ce, .int .i64 c.cl, .int .i64 c.cv, c.he]) (vs := [.int .i64 x, .int .i64 y, .int .i64 z, u]) (post := c.ne :: (v8 c.d ++ (c.ct.cells ++ [c.cs, .string c.st, c.sg]))) (by simpa [Ms.cells, List.append_assoc] using r) 43 (by simp [hc.len]) ht rfl
 simpa [Ms.cells, List.append_assoc] using h
theorem put_ne {c : Ms} {X : World} {b : Nat} (x : Value) (hc : c.vt.ok) (r : X.rangeAt b 0 c.cells) (ht : X.there b 47 1) : (X.setCells b 47 [x]).rangeAt b 0 { c with ne := x }.cells := by
 have h := range_put (pre := [.int .i64 c.k, .int .i64 c.e, .int .i64 c.l, .int .i64 c.v, .int .i64 c.s, .bool c.q, c.rs] ++ c.vt.cells ++ [.int .i64 c.ce, .int .i64 c.cl, .int .i64 c.cv, c.he]) (mid := [c.ne]) (vs := [x]) (post := v8 c.d ++ (c.ct.cells ++ [c.cs, .string c.st, c.sg])) (by simpa [Ms.cells, List.append_assoc] using r) 47 (by simp [hc.len]) ht rfl
 simpa [Ms.cells, List.append_assoc] using h
theorem put_d {c : Ms} {X : World} {b : Nat} (x : List Int) (hx : x.length = 32) (hd : c.d.length = 32) (hc : c.vt.ok) (r : X.rangeAt b 0 c.cells) (ht : X.there b 48 32) : (X.setCells b 48 (v8 x)).rangeAt b 0 { c with d := x }.cells := by
 have h := range_put (pre := [.int .i64 c.k, .int .i64 c.e, .int .i64 c.l, .int .i64 c.v, .int .i64 c.s, .bool c.q, c.rs] ++ c.vt.cells ++ [.int .i64 c.ce, .int .i64 c.cl, .int .i64 c.cv, c.he, c.ne]) (mid := v8 c.d) (vs := v8 x) (post := c.ct.cells ++ [c.cs, .string c.st, c.sg]) (by simpa [Ms.cells, List.append_assoc] using r) 48 (by simp [hc.len]) (by rw [v8_length, hx]; exact ht) (by rw [v8_length, v8_length, hx, hd])
 simpa [Ms.cells, List.append_assoc] using h
theorem put_ct {c : Ms} {X : World} {b : Nat} (x : Vt) (y : Value) (hx : x.ok) (hy : c.ct.ok) (hd : c.d.length = 32) (hc : c.vt.ok) (r : X.rangeAt b 0 c.cells) (ht : X.there b 80 37) : (X.setCells b 80 (x.cells ++ [y])).rangeAt b 0 { c with ct := x, cs := y }.cells := by
 have h := range_put (pre := [.int .i64 c.k, .int .i64 c.e, .int .i64 c.l, .int .i64 c.v, .int .i64 c.s, .bool c.q, c.rs] ++ c.vt.cells ++ [.int .i64 c.ce, .int .i64 c.cl, .int .i64 c.cv, c.he, c.ne] ++ v8 c.d) (mid := c.ct.cells ++ [c.cs]) (vs := x.cells ++ [y]) (post := [.string c.st, c.sg]) (by simpa [Ms.cells, List.append_assoc] using r) 80 (by simp [hc.len, hd]) (by simp [hx.len]; exact ht) (by simp [hx.len, hy.len])
 simpa [Ms.cells, List.append_assoc] using h
theorem put_st {c : Ms} {X : World} {b : Nat} (x : ByteArray) (hy : c.ct.ok) (hd : c.d.length = 32) (hc : c.vt.ok) (r : X.rangeAt b 0 c.cells) (ht : X.there b 117 1) : (X.setCells b 117 [.string x]).rangeAt b 0 { c with st := x }.cells := by
 have h := range_put (pre := [.int .i64 c.k, .int .i64 c.e, .int .i64 c.l, .int .i64 c.v, .int .i64 c.s, .bool c.q, c.rs] ++ c.vt.cells ++ [.int .i64 c.ce, .int .i64 c.cl, .int .i64 c.cv, c.he, c.ne] ++ v8 c.d ++ (c.ct.cells ++ [c.cs])) (mid := [.string c.st]) (vs := [.string x]) (post := [c.sg]) (by simpa [Ms.cells, List.append_assoc] using r) 117 (by simp [hc.len, hd, hy.len]) ht rfl
 simpa [Ms.cells, List.append_assoc] using h
theorem put_sg {c : Ms} {X : World} {b : Nat} (x : Value) (hy : c.ct.ok) (hd : c.d.length = 32) (hc : c.vt.ok) (r : X.rangeAt b 0 c.cells) (ht : X.there b 118 1) : (X.setCells b 118 [x]).rangeAt b 0 { c with sg := x }.cells := by
 have h := range_put (pre := [.int .i64 c.k, .int .i64 c.e, .int .i64 c.l, .int .i64 c.v, .int .i64 c.s, .bool c.q, c.rs] ++ c.vt.cells ++ [.int .i64 c.ce, .int .i64 c.cl, .int .i64 c.cv, c.he, c.ne] ++ v8 c.d ++ (c.ct.cells ++ [c.cs, .string c.st])) (mid := [c.sg]) (vs := [x]) (post := []) (by simpa [Ms.cells, List.append_assoc] using r) 118 (by simp [hc.len, hd, hy.len]) ht rfl
 simpa [Ms.cells, List.append_assoc] using h
open Go.RowKit
open Sha Tal
def Ms.bare2 (m : Ms) : Ms := { Ms.plain 2 0 0 Vt.zero zeros32 with vt := m.vt }
open Go.RowKit
open Sha Tal
def Sg.zero : Sg := ⟨0, List.replicate 16 0⟩
def Ev.zero : Ev := ⟨0, ⟨#[]⟩, List.replicate 16 0⟩
def Rq.zero : Rq := ⟨0, 0, ⟨#[]⟩, List.replicate 16 0⟩
def mayL {α : Type} (most : Int) (p : α → Bool) (xs : List α) : Bool := decide ((xs.length : Int) ≤ most) && xs.all p
open Go.RowKit
open Sha Tal
def Sg.may (g : Sg) : Bool := inB g.n 64
def Ev.may (g : Ev) : Bool := inB g.n 64 && decide ((g.s.size : Int) ≤ 4194304)
def Rq.may (g : Rq) : Bool := inB g.c 8 && (inB g.n 1099511627776 && decide ((g.s.size : Int) ≤ 64))
def sgsMay (x : Sl Sg) : Bool := mayL 64 Sg.may x.xs
def batMay (q : Bool) (x : Sl Rq) : Bool := if q then decide (x.xs.length = 0) else mayL 4 Rq.may x.xs
open Go.RowKit
open Sha Tal
def certMay (x : Vt) (s : Sl Sg) : Bool := x.may && sgsMay s
def Hd.may (h : Hd) : Bool := batMay h.q h.rs && certMay h.vt h.sg
def chgMay (a b c : Int) (x : Sl Hd) : Bool := (inB a 1048576 && (inB b 64 && inB c 1099511627776)) && mayL 4 Hd.may x.xs
open Go.RowKit
open Sha Tal
def Mg.mayL (m : Mg) : Bool := batMay m.q m.rs && (chgMay m.ce m.cl m.cv m.he && (Go.Proofs.YtilbjeeabecfjaaGreat.mayL 64 Ev.may m.ne.xs && (decide ((m.st.size : Int) ≤ 4194304) && sgsMay m.sg)))
def Mg.may (m : Mg) : Bool := (inB m.e 1048576 && inB m.l 64) && ((inB m.v 1099511627776 && inB m.s 1099511627776) && ((if m.k = 2 then m.vt.may else true) && ((if m.k = 7 then certMay m.ct m.cs else true) && m.mayL)))
open Go.RowKit
open Sha Tal
def Mg.plain (k : Int) : Mg := ⟨k, 0, 0, 0, 0, false, ⟨none, 0, []⟩, Vt.zero, 0, 0, 0, ⟨none, 0, []⟩, ⟨none, 0, []⟩, zeros32, Vt.zero, ⟨none, 0, []⟩, ⟨#[]⟩, ⟨none, 0, []⟩⟩
theorem hds_none {w : World} : HdsAt w ⟨none, 0, []⟩ := ⟨RowsAt.none, fun _ h => by cases h⟩
def Mg.bare (m : Mg) : Mg :=
 if m.k = 1 then { Mg.plain 1 with q := m.q, rs := m.rs, e := m.e, s := m.s }
 else if m.k = 2 then { Mg.plain 2 with vt := m.vt }
 else if m.k = 3 then { Mg.plain 3 with ce := m.ce, cl := m.cl, cv := m.cv, he := m.he }
 else if m.k = 4 then { Mg.plain 4 with e := m.e, l := m.l, v := m.v, ne := m.ne }
 else if m.k = 5 then { Mg.plain 5 with e := m.e, d := m.d }
 else if m.k = 6 then { Mg.plain 6 with e := m.e, s := m.s }
 else if m.k = 7 then { Mg.plain 7 with q := m.q, rs := m.rs, ct := m.ct, cs := m.cs }
 else if m.k = 8 then { Mg.plain 8 with st := m.st, sg := m.sg }
 else Mg.plain m.k
def Mg.good (m : Mg) : Bool := decide (1 ≤ m.k ∧ m.k ≤ 8) && (Mg.B m m.bare && m.may)
open Go.RowKit
open Sha Tal
set_option linter.unusedVariables false
set_option linter.unusedSimpArgs false
structure Bat where
 q : Bool
 a : Option Addr
 cap : Nat
 rs : List BRq
def Bat.cells (x : Bat) : List Value := [.bool x.q, .slice x.a x.rs.length x.cap]
def Bat.at (x : Bat) (w : World) : Prop := ReqsAt w x.a x.rs ∧ True ∧ True
theorem Bat.at.below {x : Bat} {w w' : World} (h : x.at w) (hb : Below w.heap.size w w') : x.at w' := ⟨h.1.below hb, h.2.1, h.2.2⟩
def BatsAt (w : World) (b : Nat) (xs : List Bat) : Prop := xs.length ≤ 2 ∧ (∀ x ∈ xs, x.at w) ∧ b < w.heap.size ∧ w.rangeAt b 0 (xs.flatMap Bat.cells)
theorem BatsAt.below {w w' : World} {b : Nat} {xs : List Bat} (h : BatsAt w b xs) (hb : Below w.heap.size w w') : BatsAt w' b xs :=
 ⟨h.1, fun x hx => (h.2.1 x hx).below hb, Nat.lt_of_lt_of_le h.2.2.1 hb.size, range_below h.2.2.2 hb h.2.2.1⟩
theorem BatsAt.cell {w : World} {b : Nat} {xs : List Bat} (h : BatsAt w b xs) (k : Nat) (hk : k < xs.length) : w.cell? ⟨b, k * 2 + 1, none⟩ = some (.slice xs[k].a xs[k].rs.length xs[k].cap) := by
  have h4 := h.2.2.2
  have h1 := h.1
  match xs, k, hk, h4 with
  | [x], 0, _, h4 => exact h4 1 _ rfl
  | [x, y], 0, _, h4 => exact h4 1 _ rfl
  | [x, y], 1, _, h4 => exact h4 3 _ rfl
  | x :: y :: z :: l, _, _, _ => simp at h1
open Go.RowKit
open Sha Tal
set_option linter.unusedVariables false
set_option linter.unusedSimpArgs false
set_option maxHeartbeats 1600000 in
theorem raw_big (R : Nat) (rest : List Int) (e n : Int) (w : World) (h : St w R rest e) (hl : rest.length ≤ 40000) :
  Calls Tryz.prog 103 #[.pointer (some ⟨R, 0, none⟩), .int .i64 n] w fun en w' => ∃ v, en = .returned v ∧ Mine w' w.heap.size v (rawS rest e n).1 ∧ St w' R (rawS rest e n).2.1 (rawS rest e n).2.2 ∧ w.grownBy w' (some R) := by
 by_cases he : e = 0
 ·subst he
  by_cases hn : n < 0
  ·have HS : Hid (rawS rest 0 n = ([], rest, 2)) := by show _ = _; unfold rawS; rw [if_pos rfl, if_pos hn]
   go_enter Tryz.func103, Tryz.ntmps103
   go_wp2_with fail
   refine (err_made R 0 w h.1).mono ?_
   rintro en w1 ⟨rfl, rfl⟩
   go_wp2_with fail
   refine (fail_any R 0 2 w1 h.1).mono ?_
   rintro en w2 ⟨rfl, hE2, hg2⟩
   go_wp2_with fail
   go_ret
   rw [HS.out]
   exact ⟨_, rfl, Mine.nil _ _, ⟨hE2, fun h => by cases h⟩, hg2⟩
  ·by_cases hf : (rest.length : Int) < n
   ·have HS : Hid (rawS rest 0 n = ([], rest, 10)) := by show _ = _; unfold rawS; rw [if_pos rfl, if_neg hn, if_pos hf]
    go_enter Tryz.func103, Tryz.ntmps103
    go_wp2_with fail
    refine (err_made R 0 w h.1).mono ?_
    rintro en w1 ⟨rfl, rfl⟩
    go_wp2_with fail
    refine (next_few R rest n w1 h hf).mono ?_
    rintro en w2 ⟨rfl, hS2, hg2⟩
    have cc := clone_any none 0 [] w2 (nil_row w2) (by simp)
    simp only [List.length_nil] at cc
    go_wp2_with fail
    refine cc.mono ?_
    rintro en w3 ⟨v, rfl, hm, hb⟩
    go_wp2_with fail
    go_ret
    rw [HS.out]
    exact ⟨_, rfl, hm.mono' hg2.size, hS2.below hb, gb_trans hg2 (gb_below hb _)⟩
   ·have HS : Hid (rawS rest 0 n = (rest.take n.toNat, rest.drop n.toNat, 0)) := by show _ = _; unfold rawS; rw [if_pos rfl, if_neg hn, if_neg hf]
    go_enter Tryz.func103, Tryz.ntmps103
    go_wp2_with fail
    refine (err_made R 0 w h.1).mono ?_
    rintro en w1 ⟨rfl, rfl⟩
    go_wp2_with fail
    refine (next_there R rest n w1 h (by omega) (by omega)).mono ?_
    rintro en w2 ⟨a, cap, rfl, hca, hra, hS2, hg2⟩
    have cc := clone_any a cap (rest.take n.toNat) w2 hra (by rw [List.length_take]; omega)
    rw [List.length_take_of_le (by omega)] at cc
    go_wp2_with fail
    refine cc.mono ?_
    rintro en w3 ⟨v, rfl, hm, hb⟩
    go_wp2_with fail
    go_ret
    rw [HS.out]
    exact ⟨_, rfl, hm.mono' hg2.size, hS2.below hb, gb_trans hg2 (gb_below hb _)⟩
 ·have HS : Hid (rawS rest e n = ([], rest, e)) := by show _ = _; unfold rawS; rw [if_neg he]
  have he' : (e == 0) = false := by simpa using he
  go_enter Tryz.func103, Tryz.ntmps103
  go_wp2_with fail
  refine (err_made R e w h.1).mono ?_
  rintro en w1 ⟨rfl, rfl⟩
  go_wp2_with fail
  go_ret
  rw [HS.out]
  exact ⟨_, rfl, Mine.nil _ _, h, gb_refl _ _⟩
theorem gb_onR {w W W' : World} {R B : Nat} (h : w.grownBy W (some R)) (hb : Below B W W') (hB : w.heap.size ≤ B) : w.grownBy W' (some R) :=
 ⟨hb.os.trans h.os, hb.tape.trans h.tape, hb.output.trans h.output, Nat.le_trans h.size hb.size, fun i hi hr => (hb.block i (by omega)).trans (h.block i hi hr)⟩
theorem gb_setsR (W : World) (b : Nat) : ∀ (vs : List Value) (o : Nat), W.grownBy (W.setCells b o vs) (some b) := by
  intro vs
  induction vs generalizing W with
  | nil => intro o; exact gb_refl _ _
  | cons v vs ih => intro o; exact gb_trans (gb_set W b o v) (ih _ (o + 1))
theorem range_gbR {w w' : World} {R b : Nat} {cs : List Value} (h : w.rangeAt b 0 cs) (hg : w.grownBy w' (some R)) (hb : b < w.heap.size) (hne : b ≠ R) : w'.rangeAt b 0 cs := fun j v hv => by
 rw [(@cell_block w w' b (0 + j) (hg.block b hb (by intro q; injection q with q; exact hne q))).1]
 exact h j v hv
theorem there_gbR {w w' : World} {R b n : Nat} (h : w.there b 0 n) (hg : w.grownBy w' (some R)) (hb : b < w.heap.size) (hne : b ≠ R) : w'.there b 0 n := fun j hj => by
 have hk := @cell_block w w' b (0 + j) (hg.block b hb (by intro q; injection q with q; exact hne q))
 exact ⟨by rw [hk.1]; exact (h j hj).1, by rw [hk.2]; exact (h j hj).2⟩
theorem exec_copy {P : Program} {o : Oper} {a : Act} {w w' : World} {s x : Operand} {t tx : TypeId} {v xv v' : Value} (ho : o.op = .call { callee := .builtin .copy, args := #[s, x], argTypes := #[t, tx] }) (hv : a.eval s = v) (hx : a.eval x = xv)
    (hr : (Builtin.copy_ #[t, tx] o.type #[v, xv]).run P w = .ok v' w') : (execOp a.eval o).run P w = .ok (.value v') w' := by
  unfold execOp
  simp only [ho, resolve, invoke, builtin, Sem.run_bind, Sem.run_pure, Result.andThen_ok, List.map_toArray, List.map_cons, List.map_nil, hv, hx, hr]
theorem numS_len (rest : List Int) (e most : Int) : (numS rest e most).2.1.length ≤ rest.length := by
 unfold numS
 split
 ·split
  ·split
   ·exact Nat.le_refl _
   ·show (rest.drop _).length ≤ _; rw [List.length_drop]; omega
  ·exact Nat.le_refl _
 ·exact Nat.le_refl _
theorem textS_len (rest : List Int) (e most : Int) : (textS rest e most).2.1.length ≤ rest.length := by
 have h := numS_len rest e 9223372036854775807
 unfold textS
 split
 ·split
  ·exact Nat.le_refl _
  ·split
   ·exact Nat.le_refl _
   ·show ((numS rest e 9223372036854775807).2.1.drop _).length ≤ _; rw [List.length_drop]; omega
 ·exact Nat.le_refl _
def padN (n : Nat) (zs : List Int) : List Int := if zs.length = n then zs else List.replicate n 0
theorem rawS_len (rest : List Int) (e n : Int) : (rawS rest e n).2.1.length ≤ rest.length := by
 unfold rawS
 split
 ·split
  ·exact Nat.le_refl _
  ·split
   ·exact Nat.le_refl _
   ·show (rest.drop _).length ≤ _; rw [List.length_drop]; omega
 ·exact Nat.le_refl _
theorem rawS_N (rest : List Int) (e : Int) (n : Nat) : (rawS rest e n).1.length = n ∨ (rawS rest e n).1 = [] := by
 unfold rawS
 split
 ·split
  ·exact .inr rfl
  ·split
   ·exact .inr rfl
   ·left; show (rest.take _).length = n; rw [List.length_take]; omega
 ·exact .inr rfl
theorem copy_pad {w : World} {B n : Nat} {a : Option Addr} {cap : Nat} {t : List Int} (h0 : 0 < n) (hT : w.there B 0 n) (hz : w.rangeAt B 0 (v8 (List.replicate n (0 : Int)))) (hrow : RowAt w a t) (ht : t.length = n ∨ t = []) :
  ∃ w', (Builtin.copy_ #[135, 135] 3 #[.slice (some ⟨B, 0, none⟩) n n, .slice a t.length cap]).run Tryz.prog w = .ok (goInt t.length) w' ∧ w'.rangeAt B 0 (v8 (padN n t)) ∧ w' = w.setCells B 0 (v8 t) := by
 rcases ht with ht | rfl
 ·rcases hrow.2.2 with rfl | ⟨b, off, rfl, hb, hr⟩
  ·exfalso; simp at ht; omega
  ·refine ⟨_, ?_, ?_, rfl⟩
   ·have := run_copy_cells (P := Tryz.prog) w 135 135 3 5 B 0 n n ⟨b, off, none⟩ t.length cap (v8 t) Tryz.underlying135 isz8 (by rw [v8_length, ht]; exact (Nat.min_self _).symm) (fun j v hv => by rw [Addr.add_mid]; exact hr j v hv) (fun j hj => by rw [v8_length] at hj; exact (hT j (by omega)).1) (fun j hj => by rw [v8_length] at hj; exact (hT j (by omega)).2) (v8_one _)
    rw [v8_length] at this
    exact this
   ·unfold padN
    rw [if_pos ht]
    exact World.rangeAt_setCells_same w B 0 (v8 t) (by rw [v8_length, ht]; exact hT)
 ·refine ⟨w, run_copy_none (P := Tryz.prog) w 135 135 3 5 _ a n n 0 cap Tryz.underlying135 isz8 (by simp), ?_, rfl⟩
  unfold padN
  rw [if_neg (by simp; omega)]
  exact hz
theorem padN_len (n : Nat) (zs : List Int) : (padN n zs).length = n := by
 unfold padN
 split
 ·assumption
 ·simp
theorem there_belowN {w w' : World} {b n : Nat} (h : w.there b 0 n) (hb : Below w.heap.size w w') (hlt : b < w.heap.size) : w'.there b 0 n := there_blk h (hb.block b hlt)
theorem blk_sets {w : World} {b q o : Nat} {vs : List Value} (h : q ≠ b) : (w.setCells b o vs).heap[q]? = w.heap[q]? := by
 by_cases hq : q < w.heap.size
 ·exact (gb_setsR w b vs o).block q hq (by intro e; injection e with e; exact h e)
 ·have h1 : w.heap.size ≤ q := by omega
  rw [Array.getElem?_eq_none (by rw [size_sets]; exact h1), Array.getElem?_eq_none h1]
set_option maxRecDepth 100000 in
set_option maxHeartbeats 1000000 in
theorem rtag_any (Q R : Nat) (z : Bool) (rest : List Int) (e : Int) (w : World) (h : St w R rest e) (hq : MrAt w Q R z) (hl : rest.length ≤ 40000) : Calls Tryz.prog 102 #[.pointer (some ⟨Q, 0, none⟩)] w fun en w' => en = .returned (.agg (v8 (padN 16 (rawS rest e 16).1)).toArray) ∧ St w' R (rawS rest e 16).2.1 (rawS rest e 16).2.2 ∧ w.grownBy w' (some R) := by
 obtain ⟨zc, hzc, hzr⟩ : ∃ zc : List Value, Hid (zc = v8 (List.replicate 16 (0 : Int))) ∧ ∀ w' : World, (zeroValue 30).run Tryz.prog w' = .ok (.agg zc.toArray) w' := ⟨_, hide rfl, fun w => by kernel_rfl⟩
 have hRw := h.1.1
 have hQw := hq.lt
 obtain ⟨hB1, hr1, hs1⟩ := boxed_new w zc 30
 have ht1 := there_newN w zc.toArray 30 (n := 16) (by rw [hzc.out]; simp)
 have hip : (Tryz.prog.info? 30).map (·.size) = some (v8 (padN 16 (rawS rest e 16).1)).length := by rw [v8_length, padN_len]; kernel_rfl
 have hp1 := v8_one (padN 16 (rawS rest e 16).1)
 have hpl : (v8 (padN 16 (rawS rest e 16).1)).length = 16 := by rw [v8_length, padN_len]
 obtain ⟨pc, hpc⟩ : ∃ p, Hid (v8 (padN 16 (rawS rest e 16).1) = p) := ⟨_, hide rfl⟩
 rw [hpc.out] at hip hp1 hpl ⊢
 go_enter Tryz.func102, Tryz.ntmps102
 go_upto_region 0 with fail
 try simp only [Act.put]
 refine pl_begin ?_
 refine pl_run (d := some 2) (v := .pointer (some ⟨w.heap.size, 0, none⟩)) (w' := w.alloc (.cells zc.toArray 30)) (by rfl) (ex_alloc rfl (hzr _)) rfl ?_
 simp only [nz]
 refine pl_nil ?_
 obtain ⟨W1, hW1⟩ : ∃ W, w.alloc (.cells zc.toArray 30) = W := ⟨_, rfl⟩
 rw [hW1] at hB1 hr1 hs1 ht1 ⊢
 clear hW1
 obtain ⟨hB2, hr2, hs2⟩ := boxed_new W1 zc 30
 have ht2 := there_newN W1 zc.toArray 30 (n := 16) (by rw [hzc.out]; simp)
 go_upto_region 1 with fail
 try simp only [Act.put]
 refine pl_begin ?_
 refine pl_run (d := some 3) (v := .pointer (some ⟨W1.heap.size, 0, none⟩)) (w' := W1.alloc (.cells zc.toArray 30)) (by rfl) (ex_alloc rfl (hzr _)) rfl ?_
 simp only [nz]
 refine pl_nil ?_
 obtain ⟨W2, hW2⟩ : ∃ W, W1.alloc (.cells zc.toArray 30) = W := ⟨_, rfl⟩
 rw [hW2] at hB2 hr2 hs2 ht2 ⊢
 clear hW2
 rw [hzc.out] at hr2
 have thA0 := there_belowN ht1 hB2 hs1
 have hBW := hB1.trans (hB2.mono hB1.size)
 clear hr1 ht1 hzr hzc
 go_upto_region 2 with fail
 have hB8 : Below w.heap.size w W2.drew := hBW.drew
 have rz8 : W2.drew.rangeAt W1.heap.size 0 _ := (World.rangeAt_drew _ _ _ _).2 hr2
 have th8 : W2.drew.there W1.heap.size 0 16 := ht2
 have thA8 : W2.drew.there w.heap.size 0 16 := thA0
 have hB1' : W1.heap.size < W2.drew.heap.size := hs2
 refine hs_begin (S := (fun W' => MrAt W' Q R z)) 7 rfl (by kernel_rfl) ?_
 obtain ⟨w8, hw8⟩ : ∃ W, W2.drew = W := ⟨_, rfl⟩
 rw [hw8] at hB8 rz8 th8 thA8 hB1' ⊢
 clear hw8 hr2 ht2 thA0 hBW hs2 hB2
 have st8 := h.below hB8
 have hq8 := hq.below hB8
 have hne1 : W1.heap.size ≠ R := by omega
 have hS : (fun W' => MrAt W' Q R z) w8 := hq8
 refine hs_t 0 4 (?_) rfl (by kernel_rfl) (by kernel_rfl) (by kernel_rfl) (by rfl) ?_ hS rfl ?_
 rotate_left
 ·intro w' hw
  go_simp
  try with_reducible rfl
 simp only [nz]
 refine hs_t 1 5 (?_) rfl (by kernel_rfl) (by kernel_rfl) (by kernel_rfl) (by rfl) ?_ hS rfl ?_
 rotate_left
 ·intro w' hw
  go_simp
  try with_reducible rfl
 simp only [nz]
 refine hs_t 2 6 (?_) rfl (by kernel_rfl) (by kernel_rfl) (by kernel_rfl) (by rfl) ?_ hS rfl ?_
 rotate_left
 ·intro w' hw
  go_simp
  try with_reducible rfl
 simp only [nz]
 refine hs_t 3 7 (?_) rfl (by kernel_rfl) (by kernel_rfl) (by kernel_rfl) (by rfl) ?_ hS rfl ?_
 rotate_left
 ·intro w' hw
  go_simp
  try with_reducible rfl
 simp only [nz]
 refine hs_t 4 8 (.pointer (some ⟨R, 0, none⟩)) rfl (by kernel_rfl) (by kernel_rfl) (by kernel_rfl) (by rfl) (fun w' hw => pl_one rfl rfl hw.c0 Tryz.underlying142 rfl) hS rfl ?_
 simp only [nz]
 refine hs_call (i := 5) (d := some 9) rfl (by kernel_rfl) (by rfl) (by go_simp; first | done | exact ⟨rfl, rfl⟩ | with_reducible rfl) rfl ?_
 refine (raw_big R rest e 16 w8 st8 hl).mono ?_
 rintro _ w9 ⟨v9, rfl, m9, st9, g9⟩
 have hS : (fun W' => MrAt W' Q R z) w9 := hq8.gb g9
 refine ⟨_, rfl, hS, ?_⟩
 obtain ⟨av, cv, hve, _, _, row9⟩ := m9.rowAt (by unfold maxLen; have hN : (rawS rest e 16).1.length = 16 ∨ (rawS rest e 16).1 = [] := rawS_N rest e 16; rcases hN with h | h <;> (rw [h]; simp))
 rw [hve]
 obtain ⟨wc, hcp, hrc, hwc⟩ := copy_pad (n := 16) (cap := cv) (by decide) (there_gbR th8 g9 hB1' hne1) (range_gbR rz8 g9 hB1' hne1) row9 (rawS_N rest e 16)
 clear hve
 simp only [nz]
 have hSc : (fun W' => MrAt W' Q R z) wc := by rw [hwc]; exact (hq8.gb g9).at (blk_sets (by omega)) (by rw [size_sets]; exact Nat.le_refl _)
 refine hs_run (i := 6) (d := some 10) (v := goInt (rawS rest e 16).1.length) (w' := wc) rfl (by kernel_rfl) (by rfl) (exec_copy rfl rfl rfl hcp) rfl hSc ?_
 simp only [nz]
 refine hs_done (by kernel_rfl) ?_
 have g8 : w.grownBy w8 (some R) := gb_below hB8 _
 have g9' := gb_trans g8 g9
 have hlow : Below w.heap.size w9 wc := by rw [hwc]; exact below_sets (by omega) _ _ _ (Below.refl _ _)
 have thA : wc.there w.heap.size 0 16 := by rw [hwc]; exact World.there_setCells (there_gbR thA8 g9 (by omega) (by omega)) _ _ _
 have gc := gb_onR g9' hlow (Nat.le_refl _)
 have sc : St wc R _ _ := st9.belowN hlow hRw
 rw [hpc.out] at hrc
 clear hwc hcp m9 row9 st8 hq8 g9 g8 st9 hlow hS rz8 th8 thA8 hB8 hpc
 go_upto_region 3 with fail
 try simp only [Act.put]
 refine pl_begin ?_
 refine pl_t 11 (.agg pc.toArray) (by rfl) (ex_mid rfl rfl hrc Tryz.underlying30 rfl hip) rfl ?_
 simp only [nz]
 refine pl_store (w' := wc.setCells w.heap.size 0 pc) (by rfl) (ex_put (cs := pc.toArray) rfl rfl rfl (by simpa [hpl] using thA) (by simpa using hip) (all_one hp1)) rfl ?_
 refine pl_nil ?_
 have hrs := run_loadVar_mid (P := Tryz.prog) (wc.setCells w.heap.size 0 pc) w.heap.size 0 30 pc _ (World.rangeAt_setCells_same wc w.heap.size 0 pc (by rw [hpl]; exact thA)) Tryz.underlying30 rfl hip
 have gf := gb_onR gc (below_sets (B := w.heap.size) (b := w.heap.size) (Nat.le_refl _) pc 0 _ (Below.refl _ wc)) (Nat.le_refl _)
 have sf : St (wc.setCells w.heap.size 0 pc) R _ _ := sc.belowN (n := w.heap.size) (below_sets (Nat.le_refl _) pc 0 _ (Below.refl _ wc)) hRw
 clear sc gc
 go_wp2_with fail
 refine bodyPost_ret (v := .agg pc.toArray) ?_ rfl ?_
 ·simp [results, Tryz.results102, Act.put, asAddr, hrs]
 ·exact ⟨rfl, sf, gf⟩
set_option maxRecDepth 100000 in
set_option maxHeartbeats 1000000 in
theorem rdigest_any (Q R : Nat) (z : Bool) (rest : List Int) (e : Int) (w : World) (h : St w R rest e) (hq : MrAt w Q R z) (hl : rest.length ≤ 40000) : Calls Tryz.prog 66 #[.pointer (some ⟨Q, 0, none⟩)] w fun en w' => en = .returned (.agg (v8 (padN 32 (rawS rest e 32).1)).toArray) ∧ St w' R (rawS rest e 32).2.1 (rawS rest e 32).2.2 ∧ w.grownBy w' (some R) := by
 obtain ⟨zc, hzc, hzr⟩ : ∃ zc : List Value, Hid (zc = v8 (List.replicate 32 (0 : Int))) ∧ ∀ w' : World, (zeroValue 99).run Tryz.prog w' = .ok (.agg zc.toArray) w' := ⟨_, hide rfl, fun w => by kernel_rfl⟩
 have hRw := h.1.1
 have hQw := hq.lt
 obtain ⟨hB1, hr1, hs1⟩ := boxed_new w zc 99
 have ht1 := there_newN w zc.toArray 99 (n := 32) (by rw [hzc.out]; simp)
 have hip : (Tryz.prog.info? 99).map (·.size) = some (v8 (padN 32 (rawS rest e 32).1)).length := by rw [v8_length, padN_len]; kernel_rfl
 have hp1 := v8_one (padN 32 (rawS rest e 32).1)
 have hpl : (v8 (padN 32 (rawS rest e 32).1)).length = 32 := by rw [v8_length, padN_len]
 obtain ⟨pc, hpc⟩ : ∃ p, Hid (v8 (padN 32 (rawS rest e 32).1) = p) := ⟨_, hide rfl⟩
 rw [hpc.out] at hip hp1 hpl ⊢
 go_enter Tryz.func66, Tryz.ntmps66
 go_upto_region 0 with fail
 try simp only [Act.put]
 refine pl_begin ?_
 refine pl_run (d := some 2) (v := .pointer (some ⟨w.heap.size, 0, none⟩)) (w' := w.alloc (.cells zc.toArray 99)) (by rfl) (ex_alloc rfl (hzr _)) rfl ?_
 simp only [nz]
 refine pl_nil ?_
 obtain ⟨W1, hW1⟩ : ∃ W, w.alloc (.cells zc.toArray 99) = W := ⟨_, rfl⟩
 rw [hW1] at hB1 hr1 hs1 ht1 ⊢
 clear hW1
 obtain ⟨hB2, hr2, hs2⟩ := boxed_new W1 zc 99
 have ht2 := there_newN W1 zc.toArray 99 (n := 32) (by rw [hzc.out]; simp)
 go_upto_region 1 with fail
 try simp only [Act.put]
 refine pl_begin ?_
 refine pl_run (d := some 3) (v := .pointer (some ⟨W1.heap.size, 0, none⟩)) (w' := W1.alloc (.cells zc.toArray 99)) (by rfl) (ex_alloc rfl (hzr _)) rfl ?_
 simp only [nz]
 refine pl_nil ?_
 obtain ⟨W2, hW2⟩ : ∃ W, W1.alloc (.cells zc.toArray 99) = W := ⟨_, rfl⟩
 rw [hW2] at hB2 hr2 hs2 ht2 ⊢
 clear hW2
 rw [hzc.out] at hr2
 have thA0 := there_belowN ht1 hB2 hs1
 have hBW := hB1.trans (hB2.mono hB1.size)
 clear hr1 ht1 hzr hzc
 go_upto_region 2 with fail
 have hB8 : Below w.heap.size w W2.drew := hBW.drew
 have rz8 : W2.drew.rangeAt W1.heap.size 0 _ := (World.rangeAt_drew _ _ _ _).2 hr2
 have th8 : W2.drew.there W1.heap.size 0 32 := ht2
 have thA8 : W2.drew.there w.heap.size 0 32 := thA0
 have hB1' : W1.heap.size < W2.drew.heap.size := hs2
 refine hs_begin (S := (fun W' => MrAt W' Q R z)) 7 rfl (by kernel_rfl) ?_
 obtain ⟨w8, hw8⟩ : ∃ W, W2.drew = W := ⟨_, rfl⟩
 rw [hw8] at hB8 rz8 th8 thA8 hB1' ⊢
 clear hw8 hr2 ht2 thA0 hBW hs2 hB2
 have st8 := h.below hB8
 have hq8 := hq.below hB8
 have hne1 : W1.heap.size ≠ R := by omega
 have hS : (fun W' => MrAt W' Q R z) w8 := hq8
 refine hs_t 0 4 (?_) rfl (by kernel_rfl) (by kernel_rfl) (by kernel_rfl) (by rfl) ?_ hS rfl ?_
 rotate_left
 ·intro w' hw
  go_simp
  try with_reducible rfl
 simp only [nz]
 refine hs_t 1 5 (?_) rfl (by kernel_rfl) (by kernel_rfl) (by kernel_rfl) (by rfl) ?_ hS rfl ?_
 rotate_left
 ·intro w' hw
  go_simp
  try with_reducible rfl
 simp only [nz]
 refine hs_t 2 6 (?_) rfl (by kernel_rfl) (by kernel_rfl) (by kernel_rfl) (by rfl) ?_ hS rfl ?_
 rotate_left
 ·intro w' hw
  go_simp
  try with_reducible rfl
 simp only [nz]
 refine hs_t 3 7 (?_) rfl (by kernel_rfl) (by kernel_rfl) (by kernel_rfl) (by rfl) ?_ hS rfl ?_
 rotate_left
 ·intro w' hw
  go_simp
  try with_reducible rfl
 simp only [nz]
 refine hs_t 4 8 (.pointer (some ⟨R, 0, none⟩)) rfl (by kernel_rfl) (by kernel_rfl) (by kernel_rfl) (by rfl) (fun w' hw => pl_one rfl rfl hw.c0 Tryz.underlying142 rfl) hS rfl ?_
 simp only [nz]
 refine hs_call (i := 5) (d := some 9) rfl (by kernel_rfl) (by rfl) (by go_simp; first | done | exact ⟨rfl, rfl⟩ | with_reducible rfl) rfl ?_
 refine (raw_big R rest e 32 w8 st8 hl).mono ?_
 rintro _ w9 ⟨v9, rfl, m9, st9, g9⟩
 have hS : (fun W' => MrAt W' Q R z) w9 := hq8.gb g9
 refine ⟨_, rfl, hS, ?_⟩
 obtain ⟨av, cv, hve, _, _, row9⟩ := m9.rowAt (by unfold maxLen; have hN : (rawS rest e 32).1.length = 32 ∨ (rawS rest e 32).1 = [] := rawS_N rest e 32; rcases hN with h | h <;> (rw [h]; simp))
 rw [hve]
 obtain ⟨wc, hcp, hrc, hwc⟩ := copy_pad (n := 32) (cap := cv) (by decide) (there_gbR th8 g9 hB1' hne1) (range_gbR rz8 g9 hB1' hne1) row9 (rawS_N rest e 32)
 clear hve
 simp only [nz]
 have hSc : (fun W' => MrAt W' Q R z) wc := by rw [hwc]; exact (hq8.gb g9).at (blk_sets (by omega)) (by rw [size_sets]; exact Nat.le_refl _)
 refine hs_run (i := 6) (d := some 10) (v := goInt (rawS rest e 32).1.length) (w' := wc) rfl (by kernel_rfl) (by rfl) (exec_copy rfl rfl rfl hcp) rfl hSc ?_
 simp only [nz]
 refine hs_done (by kernel_rfl) ?_
 have g8 : w.grownBy w8 (some R) := gb_below hB8 _
 have g9' := gb_trans g8 g9
 have hlow : Below w.heap.size w9 wc := by rw [hwc]; exact below_sets (by omega) _ _ _ (Below.refl _ _)
 have thA : wc.there w.heap.size 0 32 := by rw [hwc]; exact World.there_setCells (there_gbR thA8 g9 (by omega) (by omega)) _ _ _
 have gc := gb_onR g9' hlow (Nat.le_refl _)
 have sc : St wc R _ _ := st9.belowN hlow hRw
 rw [hpc.out] at hrc
 clear hwc hcp m9 row9 st8 hq8 g9 g8 st9 hlow hS rz8 th8 thA8 hB8 hpc
 go_upto_region 3 with fail
 try simp only [Act.put]
 refine pl_begin ?_
 refine pl_t 11 (.agg pc.toArray) (by rfl) (ex_mid rfl rfl hrc Tryz.underlying99 rfl hip) rfl ?_
 simp only [nz]
 refine pl_store (w' := wc.setCells w.heap.size 0 pc) (by rfl) (ex_put (cs := pc.toArray) rfl rfl rfl (by simpa [hpl] using thA) (by simpa using hip) (all_one hp1)) rfl ?_
 refine pl_nil ?_
 have hrs := run_loadVar_mid (P := Tryz.prog) (wc.setCells w.heap.size 0 pc) w.heap.size 0 99 pc _ (World.rangeAt_setCells_same wc w.heap.size 0 pc (by rw [hpl]; exact thA)) Tryz.underlying99 rfl hip
 have gf := gb_onR gc (below_sets (B := w.heap.size) (b := w.heap.size) (Nat.le_refl _) pc 0 _ (Below.refl _ wc)) (Nat.le_refl _)
 have sf : St (wc.setCells w.heap.size 0 pc) R _ _ := sc.belowN (n := w.heap.size) (below_sets (Nat.le_refl _) pc 0 _ (Below.refl _ wc)) hRw
 clear sc gc
 go_wp2_with fail
 refine bodyPost_ret (v := .agg pc.toArray) ?_ rfl ?_
 ·simp [results, Tryz.results66, Act.put, asAddr, hrs]
 ·exact ⟨rfl, sf, gf⟩
open Go.RowKit
open Sha Tal
theorem RdE.gb {w w' : World} {R : Nat} {e : Int} {r : Option Nat} (h : RdE w R e) (hg : w.grownBy w' r) (hr : some R ≠ r) : RdE w' R e :=
 h.below (hg.block R h.1 hr) hg.size
theorem St.gb {w w' : World} {R g : Nat} {rest : List Int} {e : Int} (h : St w R rest e) (hg : w.grownBy w' (some g)) (hr : R < g) : St w' R rest e := by
 refine ⟨h.1.gb hg (by intro q; injection q with q; omega), fun he => ?_⟩
 obtain ⟨a, cap, h0, hc, hm, hrow, hlt⟩ := h.2 he
 refine ⟨a, cap, (cell_block (hg.block R h.1.1 (by intro q; injection q with q; omega))).1.trans h0, hc, hm, hrow.gb hg (.inr (fun x hx => by have := hlt x hx; omega)), hlt⟩
theorem RSt.gb {B : Nat} {w w' : World} {X g : Nat} {rest : List Int} {e : Int} (h : RSt B w X rest e) (hg : w.grownBy w' (some g)) (hr : g < B ∧ g ≠ X ∨ X < g) : RSt B w' X rest e := by
 obtain ⟨zs, p, ⟨hX, ⟨a, cap, h0, hc, hm, hrow, hlt⟩, h1, h2, f0, f1, f2, hp, hl⟩, hd⟩ := h
 have hne : some X ≠ some g := by intro q; injection q with q; omega
 have hk := fun j => @cell_block w w' X j (hg.block X hX hne)
 exact ⟨zs, p, ⟨Nat.lt_of_lt_of_le hX hg.size, ⟨a, cap, (hk 0).1.trans h0, hc, hm, hrow.gb hg (.inr (fun x hx => by have := hlt x hx; omega)), hlt⟩, (hk 1).1.trans h1, (hk 2).1.trans h2, (hk 0).2.trans f0, (hk 1).2.trans f1, (hk 2).2.trans f2, hp, hl⟩, hd⟩
structure Kept (w : World) (R X : Nat) (W : World) : Prop where
 os : W.os = w.os
 tape : W.tape = w.tape
 output : W.output = w.output
 size : w.heap.size ≤ W.heap.size
 block : ∀ k, k < w.heap.size → k ≠ R → k ≠ X → W.heap[k]? = w.heap[k]?
theorem Kept.refl (w : World) (R X : Nat) : Kept w R X w := ⟨rfl, rfl, rfl, Nat.le_refl _, fun _ _ _ _ => rfl⟩
theorem Kept.gb {w W W' : World} {R X g : Nat} (h : Kept w R X W) (hg : W.grownBy W' (some g)) (hr : g = R ∨ g = X ∨ w.heap.size ≤ g) : Kept w R X W' :=
 ⟨hg.os.trans h.os, hg.tape.trans h.tape, hg.output.trans h.output, Nat.le_trans h.size hg.size, fun k hk k1 k2 => (hg.block k (Nat.lt_of_lt_of_le hk h.size) (by intro q; injection q with q; omega)).trans (h.block k hk k1 k2)⟩
theorem Kept.below {w W W' : World} {R X : Nat} (h : Kept w R X W) (hb : Below W.heap.size W W') : Kept w R X W' :=
 ⟨hb.os.trans h.os, hb.tape.trans h.tape, hb.output.trans h.output, Nat.le_trans h.size hb.size, fun k hk k1 k2 => (hb.block k (Nat.lt_of_lt_of_le hk h.size)).trans (h.block k hk k1 k2)⟩
theorem Kept.to {w0 w W : World} {R X : Nat} (h : Kept w R X W) (hb : Below w0.heap.size w0 w) (hR : w0.heap.size ≤ R) (hX : w0.heap.size ≤ X) : Below w0.heap.size w0 W :=
 ⟨h.os.trans hb.os, h.tape.trans hb.tape, h.output.trans hb.output, Nat.le_trans hb.size h.size, fun k hk => (h.block k (Nat.lt_of_lt_of_le hk hb.size) (by omega) (by omega)).trans (hb.block k hk)⟩
structure Two (B : Nat) (w : World) (R X : Nat) (W : World) (rest : List Int) (e : Int) : Prop where
 own : St W R rest e
 doc : RSt B W X rest e
 kept : Kept w R X W
theorem Two.below {B : Nat} {w W W' : World} {R X : Nat} {rest : List Int} {e : Int} (h : Two B w R X W rest e) (hb : Below W.heap.size W W') : Two B w R X W' rest e :=
 ⟨h.own.below hb, h.doc.below hb, h.kept.below hb⟩
theorem Two.gb {B : Nat} {w W W' : World} {R X g : Nat} {rest : List Int} {e : Int} (h : Two B w R X W rest e) (hg : W.grownBy W' (some g)) (h1 : R < X) (h2 : X < g) (h3 : w.heap.size ≤ g) : Two B w R X W' rest e :=
 ⟨h.own.gb hg (by omega), h.doc.gb hg (.inr h2), h.kept.gb hg (.inr (.inr h3))⟩
theorem numR_nonneg (zs : List Int) (hz : ∀ z ∈ zs, 0 ≤ z ∧ z < 256) : 0 ≤ (numR zs).1 := by
  cases zs with
  | nil => simp [numR]
  | cons k tl =>
    simp only [numR]
    split
    · simp
    · split
      · simp
      · split
        · have hb := val_bound (tl.take k.toNat) (fun z hzz => hz z (List.mem_cons_of_mem _ (List.mem_of_mem_take hzz)))
          simp only [valR]
          split
          · simp
          · exact hb.1
        · simp
theorem St.pos {w : World} {R : Nat} {rest : List Int} {e : Int} (h : St w R rest e) : 0 ≤ (numS rest e 9223372036854775807).1 := by
 unfold numS
 by_cases he : e = 0
 ·rw [if_pos he]
  obtain ⟨a, cap, h0, hc, hm, hrow, hlt⟩ := h.2 he
  have := numR_nonneg rest hrow.2.1
  split
  ·split
   ·simp
   ·exact this
  ·simp
 ·rw [if_neg he]; simp
open Go.RowKit
open Sha Tal
set_option linter.unusedVariables false
set_option linter.unusedSimpArgs false
theorem build_fill {P : Program} {t : TypeId} {zs : List Value} {pl : Array (Nat × Nat)} {w : World} (hz : (zeroValue t).run P w = .ok (.agg zs.toArray) w) (hu : P.underlying t = some (.struct (P.fieldsOf t)))
  (hp : (((P.fieldsOf t).mapM fun f => do pure (f.offset, ← sizeOf f.type) : Sem (Array (Nat × Nat)))).run P w = .ok pl w) (parts : Array (Nat × Value)) (cs : List Value) (h : Instr.fill (pl[·]?) zs.toArray parts.toList = some cs.toArray) : (Instr.build t parts).run P w = .ok (.agg cs.toArray) w := by
 unfold Instr.build
 simp only [Sem.run_bind, hz, Result.andThen_ok, run_underlying hu]
 rw [hp]
 simp only [Result.andThen_ok, Value.cells]
 rw [h]
 rfl
theorem fill_two {pl : Array (Nat × Nat)} {n m : Nat} {z1 z2 c1 c2 : List Value} {v1 v2 : Value} (h0 : pl[0]? = some (0, n)) (h1 : pl[1]? = some (n, m)) (l1 : z1.length = n) (l2 : z2.length = m) (k1 : c1.length = n) (k2 : c2.length = m) (e1 : v1.cells = c1.toArray) (e2 : v2.cells = c2.toArray) :
  Instr.fill (pl[·]?) (z1 ++ z2).toArray [(0, v1), (1, v2)] = some (c1 ++ c2).toArray := by
 have s1 : z1 ++ z2 = [] ++ (z1 ++ z2) := rfl
 rw [s1, fill_step (off := 0) (n := n) (vs := c1) h0 l1 rfl e1 k1]
 have s2 : [] ++ (c1 ++ z2) = c1 ++ (z2 ++ []) := by simp
 rw [s2, fill_step (off := n) (n := m) (vs := c2) h1 l2 k1 e2 k2]
 simp [Instr.fill]
set_option maxRecDepth 100000 in
theorem zeroSgE (w : World) : (zeroValue 131).run Tryz.prog w = .ok (.agg ([Value.int .i64 0] ++ v8 (List.replicate 16 0)).toArray) w := by kernel_rfl
set_option maxRecDepth 100000 in
theorem build_sign (n : Int) (t : List Value) (ht : t.length = 16) (w : World) : (Instr.build 131 #[(0, .int .i64 n), (1, .agg t.toArray)]).run Tryz.prog w = .ok (.agg (.int .i64 n :: t).toArray) w :=
 build_fill (zs := [Value.int .i64 0] ++ v8 (List.replicate 16 0)) (pl := #[(0, 1), (1, 16)]) (zeroSgE w) (by kernel_rfl) (by kernel_rfl) _ _ (fill_two (c1 := [.int .i64 n]) rfl rfl rfl rfl rfl ht rfl rfl)
theorem ex_build {P : Program} {o : Oper} {a : Act} {w : World} {t : TypeId} {parts : List (Nat × Operand)} {vs : List (Nat × Value)} {v : Value} (ho : o.op = .build t parts.toArray) (hv : (parts.map fun (x : Nat × Operand) => (x.1, a.eval x.2)) = vs)
  (hr : (Instr.build t vs.toArray).run P w = .ok v w) : (execOp a.eval o).run P w = .ok (.value v) w := by
 subst hv
 have e : Array.map (fun (x : Nat × Operand) => (x.1, a.eval x.2)) parts.toArray = (parts.map fun (x : Nat × Operand) => (x.1, a.eval x.2)).toArray := by simp
 unfold execOp
 simp only [ho]
 rw [show (Instr.build t (Array.map (fun x => match x with | (i, x) => (i, a.eval x)) parts.toArray)) = Instr.build t (parts.map fun (x : Nat × Operand) => (x.1, a.eval x.2)).toArray from congrArg _ e]
 simp only [Sem.run_bind, hr, Result.andThen_ok, Sem.run_pure]
theorem zeroEvE (w : World) : (zeroValue 32).run Tryz.prog w = .ok (.agg ([Value.int .i64 0] ++ ([Value.string ⟨#[]⟩] ++ v8 (List.replicate 16 0))).toArray) w := by kernel_rfl
theorem fill_three {pl : Array (Nat × Nat)} {n m k : Nat} {z1 z2 z3 c1 c2 c3 : List Value} {v1 v2 v3 : Value} (h0 : pl[0]? = some (0, n)) (h1 : pl[1]? = some (n, m)) (h2 : pl[2]? = some (n + m, k)) (l1 : z1.length = n) (l2 : z2.length = m) (l3 : z3.length = k) (k1 : c1.length = n) (k2 : c2.length = m) (k3 : c3.length = k) (e1 : v1.cells = c1.toArray) (e2 : v2.cells = c2.toArray) (e3 : v3.cells = c3.toArray) :
  Instr.fill (pl[·]?) (z1 ++ (z2 ++ z3)).toArray [(0, v1), (1, v2), (2, v3)] = some (c1 ++ (c2 ++ c3)).toArray := by
 have s1 : z1 ++ (z2 ++ z3) = [] ++ (z1 ++ (z2 ++ z3)) := rfl
 rw [s1, fill_step (off := 0) (n := n) (vs := c1) h0 l1 rfl e1 k1]
 have s2 : [] ++ (c1 ++ (z2 ++ z3)) = c1 ++ (z2 ++ z3) := by simp
 rw [s2, fill_step (off := n) (n := m) (vs := c2) h1 l2 k1 e2 k2]
 have s3 : c1 ++ (c2 ++ z3) = (c1 ++ c2) ++ (z3 ++ []) := by simp
 rw [s3, fill_step (off := n + m) (n := k) (vs := c3) h2 l3 (by simp [k1, k2]) e3 k3]
 simp [Instr.fill]
set_option maxRecDepth 100000 in
theorem build_env (n : Int) (b : ByteArray) (t : List Value) (ht : t.length = 16) (w : World) : (Instr.build 32 #[(0, .int .i64 n), (1, .string b), (2, .agg t.toArray)]).run Tryz.prog w = .ok (.agg (.int .i64 n :: .string b :: t).toArray) w :=
 build_fill (zs := [Value.int .i64 0] ++ ([Value.string ⟨#[]⟩] ++ v8 (List.replicate 16 0))) (pl := #[(0, 1), (1, 1), (2, 16)]) (zeroEvE w) (by kernel_rfl) (by kernel_rfl) _ _ (fill_three (c1 := [.int .i64 n]) (c2 := [.string b]) rfl rfl rfl rfl rfl rfl rfl rfl ht rfl rfl rfl)
def sgS (rest : List Int) (e : Int) : Sg × List Int × Int :=
 let x1 := numS rest e 64
 let x2 := rawS x1.2.1 x1.2.2 16
 (⟨x1.1, padN 16 x2.1⟩, x2.2.1, x2.2.2)
def evS (rest : List Int) (e : Int) : Ev × List Int × Int :=
 let x1 := numS rest e 64
 let x2 := textS x1.2.1 x1.2.2 4194304
 let x3 := rawS x2.2.1 x2.2.2 16
 (⟨x1.1, strOf x2.1, padN 16 x3.1⟩, x3.2.1, x3.2.2)
theorem sgS_len (rest : List Int) (e : Int) : (sgS rest e).2.1.length ≤ rest.length := Nat.le_trans (rawS_len _ _ _) (numS_len _ _ _)
theorem evS_len (rest : List Int) (e : Int) : (evS rest e).2.1.length ≤ rest.length := Nat.le_trans (rawS_len _ _ _) (Nat.le_trans (textS_len _ _ _) (numS_len _ _ _))
set_option maxRecDepth 100000 in
set_option maxHeartbeats 1000000 in
theorem rsign_any (Q R : Nat) (z : Bool) (rest : List Int) (e : Int) (w : World) (h : St w R rest e) (hq : MrAt w Q R z) (hl : rest.length ≤ 40000) : Calls Tryz.prog 70 #[.pointer (some ⟨Q, 0, none⟩)] w fun en w' => en = .returned (.agg (sgS rest e).1.cells.toArray) ∧ St w' R (sgS rest e).2.1 (sgS rest e).2.2 ∧ w.grownBy w' (some R) := by
 obtain ⟨zc, hzl, hzr⟩ := zeroSg
 have hRw := h.1.1
 have hQw := hq.lt
 have l1 := numS_len rest e 64
 have cn := fun w0 h0 => num_any R rest e 64 w0 h0
 show Calls Tryz.prog 70 _ w fun en w' => en = .returned (.agg (Value.int .i64 (numS rest e 64).1 :: v8 (padN 16 (rawS (numS rest e 64).2.1 (numS rest e 64).2.2 16).1)).toArray) ∧ St w' R (rawS (numS rest e 64).2.1 (numS rest e 64).2.2 16).2.1 (rawS (numS rest e 64).2.1 (numS rest e 64).2.2 16).2.2 ∧ w.grownBy w' (some R)
 obtain ⟨v1, hv1⟩ : ∃ x, (numS rest e 64).1 = x := ⟨_, rfl⟩
 obtain ⟨r1, hr1'⟩ : ∃ x, (numS rest e 64).2.1 = x := ⟨_, rfl⟩
 obtain ⟨e1, he1⟩ : ∃ x, (numS rest e 64).2.2 = x := ⟨_, rfl⟩
 simp only [hv1, hr1', he1] at l1 cn ⊢
 clear hv1 hr1' he1
 have ct := fun w0 h0 hq0 => rtag_any Q R z r1 e1 w0 h0 hq0 (by omega)
 have htl : (v8 (padN 16 (rawS r1 e1 16).1)).length = 16 := by rw [v8_length, padN_len]
 have hp1 : ∀ v ∈ (Value.int .i64 v1 :: v8 (padN 16 (rawS r1 e1 16).1)), v.oneCell' = true := SgE.one ⟨v1, padN 16 (rawS r1 e1 16).1⟩
 obtain ⟨t, htt⟩ : ∃ t, v8 (padN 16 (rawS r1 e1 16).1) = t := ⟨_, rfl⟩
 obtain ⟨r2, hr2'⟩ : ∃ x, (rawS r1 e1 16).2.1 = x := ⟨_, rfl⟩
 obtain ⟨e2, he2⟩ : ∃ x, (rawS r1 e1 16).2.2 = x := ⟨_, rfl⟩
 simp only [htt, hr2', he2] at ct htl hp1 ⊢
 clear htt hr2' he2
 have hbs := fun w0 => build_sign v1 t htl w0
 have hip : (Tryz.prog.info? 131).map (·.size) = some (Value.int .i64 v1 :: t).length := by simp only [List.length_cons, htl]; exact iszSg
 have hpl : (Value.int .i64 v1 :: t).length = 17 := by simp only [List.length_cons, htl]
 obtain ⟨pc, hpc⟩ : ∃ p, Value.int .i64 v1 :: t = p := ⟨_, rfl⟩
 simp only [hpc] at hbs hip hp1 hpl ⊢
 clear hpc htl
 obtain ⟨hB1, hr1, hs1⟩ := boxed_new w zc 131
 have ht1 := there_newN w zc.toArray 131 (n := 17) (by simp [hzl])
 go_enter Tryz.func70, Tryz.ntmps70
 go_upto_region 0 with fail
 try simp only [Act.put]
 refine pl_begin ?_
 refine pl_run (d := some 2) (v := .pointer (some ⟨w.heap.size, 0, none⟩)) (w' := w.alloc (.cells zc.toArray 131)) (by rfl) (ex_alloc rfl (hzr _)) rfl ?_
 simp only [nz]
 refine pl_nil ?_
 obtain ⟨W1, hW1⟩ : ∃ W, w.alloc (.cells zc.toArray 131) = W := ⟨_, rfl⟩
 rw [hW1] at hB1 hr1 hs1 ht1 ⊢
 clear hW1 hr1 hzr hzl
 have st1 := h.below hB1
 have hq1 := hq.below hB1
 have g1 : w.grownBy W1 (some R) := gb_below hB1 _
 go_upto_region 1 with fail
 try simp only [Act.put]
 refine pl_begin ?_
 refine pl_t 3 (?_) (by rfl) ?_ rfl ?_
 rotate_left
 ·go_simp
  try with_reducible rfl
 simp only [nz]
 refine pl_t 4 (?_) (by rfl) ?_ rfl ?_
 rotate_left
 ·go_simp
  try with_reducible rfl
 simp only [nz]
 refine pl_t 5 (?_) (by rfl) ?_ rfl ?_
 rotate_left
 ·go_simp
  try with_reducible rfl
 simp only [nz]
 refine pl_t 6 (.pointer (some ⟨R, 0, none⟩)) (by rfl) (pl_one rfl rfl hq1.c0 Tryz.underlying142 rfl) rfl ?_
 simp only [nz]
 refine pl_call (d := some 7) (by rfl) (by go_simp; first | done | exact ⟨rfl, rfl⟩ | with_reducible rfl) rfl ?_
 refine (cn W1 st1).mono ?_
 rintro _ w2 ⟨rfl, st2, g2⟩
 refine ⟨_, rfl, ?_⟩
 simp only [nz]
 refine pl_t 8 (?_) (by rfl) ?_ rfl ?_
 rotate_left
 ·go_simp
  try with_reducible rfl
 simp only [nz]
 refine pl_call (d := some 9) (by rfl) (by go_simp; first | done | exact ⟨rfl, rfl⟩ | with_reducible rfl) rfl ?_
 refine (ct w2 st2 (hq1.gb g2)).mono ?_
 rintro _ w3 ⟨rfl, st3, g3⟩
 refine ⟨_, rfl, ?_⟩
 simp only [nz]
 refine pl_t 10 (.agg pc.toArray) (by rfl) (ex_build (parts := [(0, .tmp 7), (1, .tmp 9)]) rfl rfl (hbs _)) rfl ?_
 simp only [nz]
 have g23 := gb_trans g2 g3
 have thA : w3.there w.heap.size 0 17 := there_gbR ht1 g23 hs1 (by omega)
 have gc := gb_trans g1 g23
 have sc := st3
 refine pl_store (w' := w3.setCells w.heap.size 0 pc) (by rfl) (ex_put (cs := pc.toArray) rfl rfl rfl (by simpa [hpl] using thA) (by simpa using hip) (all_one hp1)) rfl ?_
 refine pl_nil ?_
 have gf := gb_onR gc (below_sets (B := w.heap.size) (b := w.heap.size) (Nat.le_refl _) pc 0 _ (Below.refl _ w3)) (Nat.le_refl _)
 have sf : St (w3.setCells w.heap.size 0 pc) R _ _ := sc.belowN (n := w.heap.size) (below_sets (Nat.le_refl _) pc 0 _ (Below.refl _ w3)) hRw
 have hrs := run_loadVar_mid (P := Tryz.prog) (w3.setCells w.heap.size 0 pc) w.heap.size 0 131 pc _ (World.rangeAt_setCells_same w3 w.heap.size 0 pc (by rw [hpl]; exact thA)) Tryz.underlying131 rfl hip
 clear sc gc
 go_wp2_with fail
 refine bodyPost_ret (v := .agg pc.toArray) ?_ rfl ?_
 ·simp [results, Tryz.results70, Act.put, asAddr, hrs]
 ·exact ⟨rfl, sf, gf⟩
set_option maxRecDepth 100000 in
set_option maxHeartbeats 1000000 in
theorem renv_any (Q R : Nat) (z : Bool) (rest : List Int) (e : Int) (w : World) (h : St w R rest e) (hq : MrAt w Q R z) (hl : rest.length ≤ 40000) : Calls Tryz.prog 65 #[.pointer (some ⟨Q, 0, none⟩)] w fun en w' => en = .returned (.agg (evS rest e).1.cells.toArray) ∧ St w' R (evS rest e).2.1 (evS rest e).2.2 ∧ w.grownBy w' (some R) := by
 obtain ⟨zc, hzl, hzr⟩ := zeroEv
 have hRw := h.1.1
 have hQw := hq.lt
 have l1 := numS_len rest e 64
 have cn := fun w0 h0 => num_any R rest e 64 w0 h0
 have l2 := textS_len (numS rest e 64).2.1 (numS rest e 64).2.2 4194304
 have cx := fun w0 h0 => text_any R (numS rest e 64).2.1 (numS rest e 64).2.2 4194304 w0 h0 h0.pos
 show Calls Tryz.prog 65 _ w fun en w' => en = .returned (.agg (Value.int .i64 (numS rest e 64).1 :: .string (strOf (textS (numS rest e 64).2.1 (numS rest e 64).2.2 4194304).1) :: v8 (padN 16 (rawS (textS (numS rest e 64).2.1 (numS rest e 64).2.2 4194304).2.1 (textS (numS rest e 64).2.1 (numS rest e 64).2.2 4194304).2.2 16).1)).toArray) ∧ St w' R (rawS (textS (numS rest e 64).2.1 (numS rest e 64).2.2 4194304).2.1 (textS (numS rest e 64).2.1 (numS rest e 64).2.2 4194304).2.2 16).2.1 (rawS (textS (numS rest e 64).2.1 (numS rest e 64).2.2 4194304).2.1 (textS (numS rest e 64).2.1 (numS rest e 64).2.2 4194304).2.2 16).2.2 ∧ w.grownBy w' (some R)
 obtain ⟨v1, hv1⟩ : ∃ x, (numS rest e 64).1 = x := ⟨_, rfl⟩
 obtain ⟨r1, hr1'⟩ : ∃ x, (numS rest e 64).2.1 = x := ⟨_, rfl⟩
 obtain ⟨e1, he1⟩ : ∃ x, (numS rest e 64).2.2 = x := ⟨_, rfl⟩
 simp only [hv1, hr1', he1] at l1 cn l2 cx ⊢
 clear hv1 hr1' he1
 obtain ⟨v2, hv2⟩ : ∃ x, strOf (textS r1 e1 4194304).1 = x := ⟨_, rfl⟩
 obtain ⟨r2, hr2'⟩ : ∃ x, (textS r1 e1 4194304).2.1 = x := ⟨_, rfl⟩
 obtain ⟨e2, he2⟩ : ∃ x, (textS r1 e1 4194304).2.2 = x := ⟨_, rfl⟩
 simp only [hv2, hr2', he2] at l2 cx ⊢
 clear hv2 hr2' he2
 have ct := fun w0 h0 hq0 => rtag_any Q R z r2 e2 w0 h0 hq0 (by omega)
 have htl : (v8 (padN 16 (rawS r2 e2 16).1)).length = 16 := by rw [v8_length, padN_len]
 have hp1 : ∀ v ∈ (Value.int .i64 v1 :: .string v2 :: v8 (padN 16 (rawS r2 e2 16).1)), v.oneCell' = true := EvE.one ⟨v1, v2, padN 16 (rawS r2 e2 16).1⟩
 obtain ⟨t, htt⟩ : ∃ t, v8 (padN 16 (rawS r2 e2 16).1) = t := ⟨_, rfl⟩
 obtain ⟨r3, hr3'⟩ : ∃ x, (rawS r2 e2 16).2.1 = x := ⟨_, rfl⟩
 obtain ⟨e3, he3⟩ : ∃ x, (rawS r2 e2 16).2.2 = x := ⟨_, rfl⟩
 simp only [htt, hr3', he3] at ct htl hp1 ⊢
 clear htt hr3' he3
 have hbs := fun w0 => build_env v1 v2 t htl w0
 have hip : (Tryz.prog.info? 32).map (·.size) = some (Value.int .i64 v1 :: .string v2 :: t).length := by simp only [List.length_cons, htl]; exact iszEv
 have hpl : (Value.int .i64 v1 :: .string v2 :: t).length = 18 := by simp only [List.length_cons, htl]
 obtain ⟨pc, hpc⟩ : ∃ p, Value.int .i64 v1 :: .string v2 :: t = p := ⟨_, rfl⟩
 simp only [hpc] at hbs hip hp1 hpl ⊢
 clear hpc htl
 obtain ⟨hB1, hr1, hs1⟩ := boxed_new w zc 32
 have ht1 := there_newN w zc.toArray 32 (n := 18) (by simp [hzl])
 go_enter Tryz.func65, Tryz.ntmps65
 go_upto_region 0 with fail
 try simp only [Act.put]
 refine pl_begin ?_
 refine pl_run (d := some 2) (v := .pointer (some ⟨w.heap.size, 0, none⟩)) (w' := w.alloc (.cells zc.toArray 32)) (by rfl) (ex_alloc rfl (hzr _)) rfl ?_
 simp only [nz]
 refine pl_nil ?_
 obtain ⟨W1, hW1⟩ : ∃ W, w.alloc (.cells zc.toArray 32) = W := ⟨_, rfl⟩
 rw [hW1] at hB1 hr1 hs1 ht1 ⊢
 clear hW1 hr1 hzr hzl
 go_upto_region 1 with fail
 have hB8 := hB1.drew
 have ht8 : W1.drew.there w.heap.size 0 18 := ht1
 have hs8 : w.heap.size < W1.drew.heap.size := hs1
 refine hs_begin (S := (fun W' => MrAt W' Q R z)) 14 rfl (by kernel_rfl) ?_
 obtain ⟨w8, hw8⟩ : ∃ W, W1.drew = W := ⟨_, rfl⟩
 rw [hw8] at hB8 ht8 hs8 ⊢
 clear hw8
 have st8 := h.below hB8
 have g8 : w.grownBy w8 (some R) := gb_below hB8 _
 have hS : (fun W' => MrAt W' Q R z) w8 := hq.below hB8
 refine hs_t 0 3 (?_) rfl (by kernel_rfl) (by kernel_rfl) (by kernel_rfl) (by rfl) ?_ hS rfl ?_
 rotate_left
 ·intro w' hw
  go_simp
  try with_reducible rfl
 simp only [nz]
 refine hs_t 1 4 (?_) rfl (by kernel_rfl) (by kernel_rfl) (by kernel_rfl) (by rfl) ?_ hS rfl ?_
 rotate_left
 ·intro w' hw
  go_simp
  try with_reducible rfl
 simp only [nz]
 refine hs_t 2 5 (?_) rfl (by kernel_rfl) (by kernel_rfl) (by kernel_rfl) (by rfl) ?_ hS rfl ?_
 rotate_left
 ·intro w' hw
  go_simp
  try with_reducible rfl
 simp only [nz]
 refine hs_t 3 6 (.pointer (some ⟨R, 0, none⟩)) rfl (by kernel_rfl) (by kernel_rfl) (by kernel_rfl) (by rfl) (fun w' hw => pl_one rfl rfl hw.c0 Tryz.underlying142 rfl) hS rfl ?_
 simp only [nz]
 refine hs_t 5 8 (?_) rfl (by kernel_rfl) (by kernel_rfl) (by kernel_rfl) (by rfl) ?_ hS rfl ?_
 rotate_left
 ·intro w' hw
  go_simp
  try with_reducible rfl
 simp only [nz]
 refine hs_t 6 9 (?_) rfl (by kernel_rfl) (by kernel_rfl) (by kernel_rfl) (by rfl) ?_ hS rfl ?_
 rotate_left
 ·intro w' hw
  go_simp
  try with_reducible rfl
 simp only [nz]
 refine hs_t 7 10 (?_) rfl (by kernel_rfl) (by kernel_rfl) (by kernel_rfl) (by rfl) ?_ hS rfl ?_
 rotate_left
 ·intro w' hw
  go_simp
  try with_reducible rfl
 simp only [nz]
 refine hs_t 8 11 (.pointer (some ⟨R, 0, none⟩)) rfl (by kernel_rfl) (by kernel_rfl) (by kernel_rfl) (by rfl) (fun w' hw => pl_one rfl rfl hw.c0 Tryz.underlying142 rfl) hS rfl ?_
 simp only [nz]
 refine hs_t 10 13 (?_) rfl (by kernel_rfl) (by kernel_rfl) (by kernel_rfl) (by rfl) ?_ hS rfl ?_
 rotate_left
 ·intro w' hw
  go_simp
  try with_reducible rfl
 simp only [nz]
 refine hs_call (i := 4) (d := some 7) rfl (by kernel_rfl) (by rfl) (by go_simp; first | done | exact ⟨rfl, rfl⟩ | with_reducible rfl) rfl ?_
 refine (cn w8 st8).mono ?_
 rintro _ w2 ⟨rfl, st2, g2⟩
 have hS : (fun W' => MrAt W' Q R z) w2 := hS.gb g2
 refine ⟨_, rfl, hS, ?_⟩
 simp only [nz]
 refine hs_call (i := 9) (d := some 12) rfl (by kernel_rfl) (by rfl) (by go_simp; first | done | exact ⟨rfl, rfl⟩ | with_reducible rfl) rfl ?_
 refine (cx w2 st2).mono ?_
 rintro _ w3 ⟨rfl, st3, g3⟩
 have hS : (fun W' => MrAt W' Q R z) w3 := hS.gb g3
 refine ⟨_, rfl, hS, ?_⟩
 simp only [nz]
 refine hs_call (i := 11) (d := some 14) rfl (by kernel_rfl) (by rfl) (by go_simp; first | done | exact ⟨rfl, rfl⟩ | with_reducible rfl) rfl ?_
 refine (ct w3 st3 hS).mono ?_
 rintro _ w4 ⟨rfl, st4, g4⟩
 have hS : (fun W' => MrAt W' Q R z) w4 := hS.gb g4
 refine ⟨_, rfl, hS, ?_⟩
 simp only [nz]
 refine hs_t 12 15 (.agg pc.toArray) rfl (by kernel_rfl) (by kernel_rfl) (by kernel_rfl) (by rfl) (fun w' hw => ex_build (parts := [(0, .tmp 7), (1, .tmp 12), (2, .tmp 14)]) rfl rfl (hbs _)) hS rfl ?_
 simp only [nz]
 have g24 := gb_trans (gb_trans g2 g3) g4
 have thA : w4.there w.heap.size 0 18 := there_gbR ht8 g24 hs8 (by omega)
 have gc := gb_trans g8 g24
 have sc := st4
 have hSE : (fun W' => MrAt W' Q R z) (w4.setCells w.heap.size 0 pc) := hS.at (blk_sets (by omega)) (by rw [size_sets]; exact Nat.le_refl _)
 refine hs_store (i := 13) (w' := w4.setCells w.heap.size 0 pc) rfl (by kernel_rfl) (by rfl) (ex_put (cs := pc.toArray) rfl rfl rfl (by simpa [hpl] using thA) (by simpa using hip) (all_one hp1)) rfl hSE ?_
 refine hs_done (by kernel_rfl) ?_
 have gf := gb_onR gc (below_sets (B := w.heap.size) (b := w.heap.size) (Nat.le_refl _) pc 0 _ (Below.refl _ w4)) (Nat.le_refl _)
 have sf : St (w4.setCells w.heap.size 0 pc) R _ _ := sc.belowN (n := w.heap.size) (below_sets (Nat.le_refl _) pc 0 _ (Below.refl _ w4)) hRw
 have hrs := run_loadVar_mid (P := Tryz.prog) (w4.setCells w.heap.size 0 pc) w.heap.size 0 32 pc _ (World.rangeAt_setCells_same w4 w.heap.size 0 pc (by rw [hpl]; exact thA)) Tryz.underlying32 rfl hip
 clear sc gc
 go_wp2_with fail
 refine bodyPost_ret (v := .agg pc.toArray) ?_ rfl ?_
 ·simp [results, Tryz.results65, Act.put, asAddr, hrs]
 ·exact ⟨rfl, sf, gf⟩
open Go.RowKit
open Sha Tal
set_option linter.unusedVariables false
set_option linter.unusedSimpArgs false
theorem there_part1 {w : World} {b n o m : Nat} (h : w.there b 0 n) (hm : o + m ≤ n) : w.there b o m := fun j hj => by
 have := h (o + j) (by omega)
 rwa [Nat.zero_add] at this
theorem ex_put1 {P : Program} {o : Oper} {a : Act} {w : World} {ty : TypeId} {x y : Operand} {b off n : Nat} {v : Value} (ho : o.op = .store ty x y) (hx : a.eval x = .pointer (some ⟨b, off, none⟩)) (hy : a.eval y = v) (ht : w.there b 0 n) (hn : off < n) (hi : (P.info? ty).map (·.size) = some 1) (hvc : v.cells = #[v]) (h1 : v.oneCell' = true) : (execOp a.eval o).run P w = .ok .skip (w.setCells b off [v]) := by
 refine exec_store ho hx hy ?_
 have e : storeVar ty ⟨b, off, none⟩ v = storeVar ty ⟨b, off, none⟩ (.agg #[v]) := by unfold storeVar; rw [hvc]; rfl
 rw [e, run_storeVar_mid w b off ty #[v] (there_part1 ht (by simp; omega)) hi (by simpa using h1)]
theorem Kept.of {w W : World} {R Q : Nat} (hg : w.grownBy W (some R)) : Kept w R Q W := (Kept.refl w R Q).gb hg (.inl rfl)
theorem Kept.trans {w W W' : World} {R Q : Nat} (h : Kept w R Q W) (k : Kept W R Q W') : Kept w R Q W' :=
 ⟨k.os.trans h.os, k.tape.trans h.tape, k.output.trans h.output, Nat.le_trans h.size k.size, fun i hi k1 k2 => (k.block i (Nat.lt_of_lt_of_le hi h.size) k1 k2).trans (h.block i hi k1 k2)⟩
theorem Kept.newSets {w W : World} {R Q b : Nat} (h : Kept w R Q W) (hb : w.heap.size ≤ b) (o : Nat) (vs : List Value) : Kept w R Q (W.setCells b o vs) :=
 h.gb (gb_setsR W b vs o) (.inr (.inr hb))
theorem MrAt.zero {w : World} {Q R : Nat} {z : Bool} (h : MrAt w Q R z) : MrAt (w.setCells Q 1 [.bool true]) Q R true := by
  have h1 := h.lt
  have hT : w.there Q 1 [Value.bool true].length := fun j hj => by
    obtain rfl : j = 0 := by simp at hj; omega
    exact ⟨by show (w.cell? ⟨Q, 1, none⟩).isSome = true; rw [h.c1]; rfl, h.f1⟩
  refine ⟨by rw [size_sets]; exact h1, h.ne, ?_, ?_, ?_⟩
  · have hr : w.rangeAt Q 0 [.pointer (some ⟨R, 0, none⟩)] := fun j v hv => by
      match j, hv with
      | 0, hv => cases hv; exact h.c0
    exact (World.rangeAt_setCells_apart hr Q 1 [.bool true] (.inr (.inl (by simp)))) 0 _ rfl
  · exact World.rangeAt_setCells_same w Q 1 [.bool true] hT 0 _ rfl
  · exact (World.there_setCells hT Q 1 [.bool true] 0 (by simp)).2
def kdZ (rest : List Int) (e most : Int) (z : Bool) : Bool := if (numS rest e most).1 == 0 then (if (numS rest e most).2.2 == 0 then true else z) else z
set_option maxRecDepth 100000 in
set_option maxHeartbeats 1000000 in
theorem rkind_any (Q R : Nat) (z : Bool) (rest : List Int) (e most : Int) (w : World) (h : St w R rest e) (hq : MrAt w Q R z) (thQ0 : w.there Q 0 2) : Calls Tryz.prog 59 #[.pointer (some ⟨Q, 0, none⟩), .int .i64 most] w fun en w' => en = .returned (.int .i64 (numS rest e most).1) ∧ St w' R (numS rest e most).2.1 (numS rest e most).2.2 ∧ MrAt w' Q R (kdZ rest e most z) ∧ Kept w R Q w' ∧ w'.there Q 0 2 := by
 have cn := num_any R rest e most w h
 unfold kdZ
 obtain ⟨v1, hv1⟩ : ∃ x, (numS rest e most).1 = x := ⟨_, rfl⟩
 obtain ⟨r1, hr1⟩ : ∃ x, (numS rest e most).2.1 = x := ⟨_, rfl⟩
 obtain ⟨e1, he1⟩ : ∃ x, (numS rest e most).2.2 = x := ⟨_, rfl⟩
 simp only [hv1, hr1, he1] at cn ⊢
 clear hv1 hr1 he1
 obtain ⟨b0, hb0⟩ : ∃ b, Hid ((v1 == 0) = b) := ⟨_, hide rfl⟩
 obtain ⟨b1, hb1⟩ : ∃ b, Hid ((e1 == 0) = b) := ⟨_, hide rfl⟩
 rw [hb0.out, hb1.out]
 obtain ⟨zz, hzz⟩ : ∃ x : Bool, Hid ((if b0 = true then (if b1 = true then true else z) else z) = x) := ⟨_, hide rfl⟩
 rw [hzz.out]
 have hQl := hq.lt
 have hne := hq.ne
 go_enter Tryz.func59, Tryz.ntmps59
 go_upto_region 1 with fail
 try simp only [Act.put]
 refine pl_begin ?_
 refine pl_t 6 (?_) (by rfl) ?_ rfl ?_
 rotate_left
 ·go_simp
  try with_reducible rfl
 simp only [nz]
 refine pl_t 7 (?_) (by rfl) ?_ rfl ?_
 rotate_left
 ·go_simp
  try with_reducible rfl
 simp only [nz]
 refine pl_t 8 (?_) (by rfl) ?_ rfl ?_
 rotate_left
 ·go_simp
  try with_reducible rfl
 simp only [nz]
 refine pl_t 9 (.pointer (some ⟨R, 0, none⟩)) (by rfl) (pl_one rfl rfl hq.c0 Tryz.underlying142 rfl) rfl ?_
 simp only [nz]
 refine pl_t 10 (?_) (by rfl) ?_ rfl ?_
 rotate_left
 ·go_simp
  try with_reducible rfl
 simp only [nz]
 refine pl_call (d := some 11) (by rfl) (by go_simp; first | done | exact ⟨rfl, rfl⟩ | with_reducible rfl) rfl ?_
 refine (cn).mono ?_
 rintro _ w2 ⟨rfl, st2, g2⟩
 refine ⟨_, rfl, ?_⟩
 simp only [nz]
 refine pl_t 5 (?_) (by rfl) ?_ rfl ?_
 rotate_left
 ·go_simp
  try with_reducible rfl
 simp only [nz]
 refine pl_nil ?_
 have hq2 := hq.gb g2
 have thQ := there_gbR thQ0 g2 hQl (by omega)
 clear cn
 go_upto_region 2 with fail
 try simp only [Act.put]
 refine pl_begin ?_
 refine pl_t 12 (?_) (by rfl) ?_ rfl ?_
 rotate_left
 ·go_simp
  try with_reducible rfl
 simp only [nz]
 refine pl_t 13 (.bool b0) (by rfl) (by rw [← hb0.out]; go_simp) rfl ?_
 simp only [nz]
 cases b0
 ·refine pl_t 14 (?_) (by rfl) ?_ rfl ?_
  rotate_left
  ·go_simp
   try with_reducible rfl
  simp only [nz]
  refine pl_skip (d := some 15) (by rfl) rfl ?_
  simp only [nz]
  refine pl_skip (d := some 16) (by rfl) rfl ?_
  simp only [nz]
  refine pl_skip (d := some 17) (by rfl) rfl ?_
  simp only [nz]
  refine pl_skip (d := some 18) (by rfl) rfl ?_
  simp only [nz]
  refine pl_skip (d := some 19) (by rfl) rfl ?_
  simp only [nz]
  refine pl_skip (d := some 20) (by rfl) rfl ?_
  simp only [nz]
  refine pl_t 21 (?_) (by rfl) ?_ rfl ?_
  rotate_left
  ·go_simp
   try with_reducible rfl
  simp only [nz]
  refine pl_nil ?_
  have HF : Hid (St w2 R r1 e1 ∧ MrAt w2 Q R z ∧ Kept w R Q w2 ∧ w2.there Q 0 2) := hide ⟨st2, hq2, Kept.of g2, thQ⟩
  go_wp2_with fail
  go_ret
  have e := hzz.out; simp at e; subst e; exact ⟨rfl, HF.out⟩
 ·refine pl_t 14 (?_) (by rfl) ?_ rfl ?_
  rotate_left
  ·go_simp
   try with_reducible rfl
  simp only [nz]
  refine pl_t 15 (?_) (by rfl) ?_ rfl ?_
  rotate_left
  ·go_simp
   try with_reducible rfl
  simp only [nz]
  refine pl_t 16 (?_) (by rfl) ?_ rfl ?_
  rotate_left
  ·go_simp
   try with_reducible rfl
  simp only [nz]
  refine pl_t 17 (?_) (by rfl) ?_ rfl ?_
  rotate_left
  ·go_simp
   try with_reducible rfl
  simp only [nz]
  refine pl_t 18 (.pointer (some ⟨R, 0, none⟩)) (by rfl) (pl_one rfl rfl hq2.c0 Tryz.underlying142 rfl) rfl ?_
  simp only [nz]
  refine pl_call (d := some 19) (by rfl) (by go_simp; first | done | exact ⟨rfl, rfl⟩ | with_reducible rfl) rfl ?_
  refine (err_made R e1 w2 st2.1).mono ?_
  rintro _ w3 ⟨rfl, hx⟩
  obtain rfl := hx.symm
  clear hx
  refine ⟨_, rfl, ?_⟩
  simp only [nz]
  refine pl_t 20 (.bool b1) (by rfl) (by rw [← hb1.out]; go_simp) rfl ?_
  simp only [nz]
  cases b1
  ·refine pl_t 21 (?_) (by rfl) ?_ rfl ?_
   rotate_left
   ·go_simp
    try with_reducible rfl
   simp only [nz]
   refine pl_nil ?_
   have HF : Hid (St w2 R r1 e1 ∧ MrAt w2 Q R z ∧ Kept w R Q w2 ∧ w2.there Q 0 2) := hide ⟨st2, hq2, Kept.of g2, thQ⟩
   go_wp2_with fail
   go_ret
   have e := hzz.out; simp at e; subst e; exact ⟨rfl, HF.out⟩
  ·refine pl_t 21 (?_) (by rfl) ?_ rfl ?_
   rotate_left
   ·go_simp
    try with_reducible rfl
   simp only [nz]
   refine pl_nil ?_
   go_upto_region 3 with fail
   try simp only [Act.put]
   refine pl_begin ?_
   refine pl_t 22 (?_) (by rfl) ?_ rfl ?_
   rotate_left
   ·go_simp
    try with_reducible rfl
   simp only [nz]
   refine pl_t 23 (?_) (by rfl) ?_ rfl ?_
   rotate_left
   ·go_simp
    try with_reducible rfl
   simp only [nz]
   refine pl_t 24 (?_) (by rfl) ?_ rfl ?_
   rotate_left
   ·go_simp
    try with_reducible rfl
   simp only [nz]
   refine pl_store (w' := w2.setCells Q 1 [.bool true]) (by rfl) (ex_put1 (n := 2) rfl rfl rfl thQ (by decide) (by kernel_rfl) rfl rfl) rfl ?_
   refine pl_nil ?_
   have HF : Hid (St (w2.setCells Q 1 [.bool true]) R r1 e1 ∧ MrAt (w2.setCells Q 1 [.bool true]) Q R true ∧ Kept w R Q (w2.setCells Q 1 [.bool true]) ∧ (w2.setCells Q 1 [.bool true]).there Q 0 2) := hide ⟨st2.gb (gb_setsR w2 Q _ _) hq2.ne, hq2.zero, (Kept.of g2).gb (gb_setsR w2 Q _ _) (.inr (.inl rfl)), World.there_setCells thQ _ _ _⟩
   go_wp2_with fail
   go_ret
   have e := hzz.out; simp at e; subst e; exact ⟨rfl, HF.out⟩
open Go.RowKit
open Sha Tal
set_option linter.unusedVariables false
set_option linter.unusedSimpArgs false
theorem Kept.blk {w W : World} {R Q b : Nat} (h : Kept w R Q W) (hb : b < w.heap.size) (h1 : b ≠ R) (h2 : b ≠ Q) : W.heap[b]? = w.heap[b]? := h.block b hb h1 h2
theorem range_blk {w w' : World} {b o : Nat} {cs : List Value} (h : w.rangeAt b o cs) (hb : w'.heap[b]? = w.heap[b]?) : w'.rangeAt b o cs := fun j v hv => by
 rw [(@cell_block w w' b (o + j) hb).1]
 exact h j v hv
structure VS (w : World) (Q R A B n : Nat) (q : List Value) (z : Bool) (W : World) : Prop where
 row : W.rangeAt B 0 q
 box : W.there B 0 n
 ans : W.there A 0 n
 kept : Kept w R Q W
 mr : MrAt W Q R z
 qt : W.there Q 0 2
 la : A < W.heap.size
 lb : B < W.heap.size
 na : w.heap.size ≤ A
 nb : w.heap.size ≤ B
 ne : A ≠ B
 rq : R < w.heap.size ∧ Q < w.heap.size
theorem VS.on {w W W' : World} {Q R A B n : Nat} {q : List Value} {z z' : Bool} (h : VS w Q R A B n q z W) (k : Kept W R Q W') (m : MrAt W' Q R z') (t : W'.there Q 0 2) : VS w Q R A B n q z' W' := by
 have h1 := h.na
 have h2 := h.nb
 have h3 := h.rq
 exact ⟨range_blk h.row (k.blk h.lb (by omega) (by omega)), there_blk h.box (k.blk h.lb (by omega) (by omega)), there_blk h.ans (k.blk h.la (by omega) (by omega)), h.kept.trans k, m, t, Nat.lt_of_lt_of_le h.la k.size, Nat.lt_of_lt_of_le h.lb k.size, h1, h2, h.ne, h3⟩
theorem VS.gb {w W W' : World} {Q R A B n : Nat} {q : List Value} {z : Bool} (h : VS w Q R A B n q z W) (g : W.grownBy W' (some R)) : VS w Q R A B n q z W' :=
 h.on (Kept.of g) (h.mr.gb g) (there_gbR h.qt g h.mr.lt (by have := h.mr.ne; omega))
theorem VS.set {w W : World} {Q R A B n : Nat} {q q' : List Value} {z : Bool} (h : VS w Q R A B n q z W) (o : Nat) (vs : List Value) (hq : (W.setCells B o vs).rangeAt B 0 q') : VS w Q R A B n q' z (W.setCells B o vs) := by
 have h1 := h.na
 have h2 := h.nb
 have h3 := h.rq
 exact ⟨hq, World.there_setCells h.box _ _ _, World.there_setCells h.ans _ _ _, h.kept.newSets h2 _ _, h.mr.at (blk_sets (by omega)) (by rw [size_sets]; exact Nat.le_refl _), World.there_setCells h.qt _ _ _, by rw [size_sets]; exact h.la, by rw [size_sets]; exact h.lb, h1, h2, h.ne, h3⟩
theorem VS.drew {w W : World} {Q R A B n : Nat} {q : List Value} {z : Bool} (h : VS w Q R A B n q z W) : VS w Q R A B n q z W.drew :=
 ⟨(World.rangeAt_drew _ _ _ _).2 h.row, h.box, h.ans, h.kept.below ((Below.refl _ _).drew), h.mr.below ((Below.refl _ _).drew), h.qt, h.la, h.lb, h.na, h.nb, h.ne, h.rq⟩
theorem VS.st {w W : World} {Q R A B n o : Nat} {q vs rest : List Value} {z : Bool} {zs : List Int} {e : Int} (h : VS w Q R A B n q z W) (hs : St W R zs e) : St (W.setCells B o vs) R zs e :=
 hs.gb (gb_setsR W B vs o) (by have := h.nb; have := h.rq; omega)
def vtS (rest : List Int) (e : Int) : Vt × List Int × Int :=
 let x0 := numS rest e 2
 let x1 := numS x0.2.1 x0.2.2 1048576
 let x2 := numS x1.2.1 x1.2.2 1099511627776
 let x3 := numS x2.2.1 x2.2.2 1099511627776
 let x4 := rawS x3.2.1 x3.2.2 32
 (⟨x0.1, x1.1, x2.1, x3.1, padN 32 x4.1⟩, x4.2.1, x4.2.2)
theorem vtS_len (rest : List Int) (e : Int) : (vtS rest e).2.1.length ≤ rest.length := Nat.le_trans (rawS_len _ _ _) (Nat.le_trans (numS_len _ _ _) (Nat.le_trans (numS_len _ _ _) (Nat.le_trans (numS_len _ _ _) (numS_len _ _ _))))
theorem vt_put {W : World} {B : Nat} {a b c d : Value} {t : List Value} (h : W.rangeAt B 0 (a :: b :: c :: d :: t)) (x : Value) :
  (W.setCells B 0 [x]).rangeAt B 0 (x :: b :: c :: d :: t) ∧ (W.setCells B 1 [x]).rangeAt B 0 (a :: x :: c :: d :: t) ∧ (W.setCells B 2 [x]).rangeAt B 0 (a :: b :: x :: d :: t) ∧ (W.setCells B 3 [x]).rangeAt B 0 (a :: b :: c :: x :: t) := by
 have k0 := range_set h 0 x
 have k1 := range_set h 1 x
 have k2 := range_set h 2 x
 have k3 := range_set h 3 x
 exact ⟨k0, k1, k2, k3⟩
theorem zeroVt : ∃ z : List Value, (∀ w : World, (zeroValue 101).run Tryz.prog w = .ok (.agg z.toArray) w) ∧ z.length = 36 ∧ ∃ t, t.length = 32 ∧ z = .int .i64 0 :: .int .i64 0 :: .int .i64 0 :: .int .i64 0 :: t := ⟨Vt.zero.cells, fun w => by kernel_rfl, by decide, _, by decide, rfl⟩
theorem range_tail4 {W : World} {B : Nat} {a b c d : Value} {t dv : List Value} (h : W.rangeAt B 0 (a :: b :: c :: d :: t)) (hT : W.there B 4 dv.length) : (W.setCells B 4 dv).rangeAt B 0 (a :: b :: c :: d :: dv) := by
 have h1 : W.rangeAt B 0 ([a, b, c, d] ++ t) := h
 have k1 := World.rangeAt_setCells_apart (range_left h1) B 4 dv (.inr (.inl (by simp)))
 have k2 := World.rangeAt_setCells_same W B 4 dv hT
 exact range_join (cs := [a, b, c, d]) k1 k2
set_option maxRecDepth 100000 in
set_option maxHeartbeats 1000000 in
theorem rvote_any (Q R : Nat) (z : Bool) (rest : List Int) (e : Int) (w : World) (h : St w R rest e) (hq : MrAt w Q R z) (thQ : w.there Q 0 2) (hl : rest.length ≤ 40000) : Calls Tryz.prog 62 #[.pointer (some ⟨Q, 0, none⟩)] w fun en w' => en = .returned (.agg (vtS rest e).1.cells.toArray) ∧ St w' R (vtS rest e).2.1 (vtS rest e).2.2 ∧ MrAt w' Q R (kdZ rest e 2 z) ∧ Kept w R Q w' ∧ w'.there Q 0 2 := by
 obtain ⟨zc, hzr, hzl, tz, htl, hzc⟩ := zeroVt
 have hRw := h.1.1
 have hQw := hq.lt
 obtain ⟨z1, hz1⟩ : ∃ x, kdZ rest e 2 z = x := ⟨_, rfl⟩
 have ck := fun w0 h0 m0 t0 => rkind_any Q R z rest e 2 w0 h0 m0 t0
 have l0 := numS_len rest e 2
 simp only [hz1] at ck ⊢
 clear hz1
 show Calls Tryz.prog 62 _ w fun en w' => en = .returned (.agg (Vt.cells ⟨(numS rest e 2).1, (numS (numS rest e 2).2.1 (numS rest e 2).2.2 1048576).1, (numS (numS (numS rest e 2).2.1 (numS rest e 2).2.2 1048576).2.1 (numS (numS rest e 2).2.1 (numS rest e 2).2.2 1048576).2.2 1099511627776).1, (numS (numS (numS (numS rest e 2).2.1 (numS rest e 2).2.2 1048576).2.1 (numS (numS rest e 2).2.1 (numS rest e 2).2.2 1048576).2.2 1099511627776).2.1 (numS (numS (numS rest e 2).2.1 (numS rest e 2).2.2 1048576).2.1 (numS (numS rest e 2).2.1 (numS rest e 2).2.2 1048576).2.2 1099511627776).2.2 1099511627776).1, padN 32 (rawS (numS (numS (numS (numS rest e 2).2.1 (numS rest e 2).2.2 1048576).2.1 (numS (numS rest e 2).2.1 (numS rest e 2).2.2 1048576).2.2 1099511627776).2.1 (numS (numS (numS rest e 2).2.1 (numS rest e 2).2.2 1048576).2.1 (numS (numS rest e 2).2.1 (numS rest e 2).2.2 1048576).2.2 1099511627776).2.2 1099511627776).2.1 (numS (numS (numS (numS rest e 2).2.1 (numS rest e 2).2.2 1048576).2.1 (numS (numS rest e 2).2.1 (numS rest e 2).2.2 1048576).2.2 1099511627776).2.1 (numS (numS (numS rest e 2).2.1 (numS rest e 2).2.2 1048576).2.1 (numS (numS rest e 2).2.1 (numS rest e 2).2.2 1048576).2.2 1099511627776).2.2 1099511627776).2.2 32).1⟩).toArray) ∧ St w' R (rawS (numS (numS (numS (numS rest e 2).2.1 (numS rest e 2).2.2 1048576).2.1 (numS (numS rest e 2).2.1 (numS rest e 2).2.2 1048576).2.2 1099511627776).2.1 (numS (numS (numS rest e 2).2.1 (numS rest e 2).2.2 1048576).2.1 (numS (numS rest e 2).2.1 (numS rest e 2).2.2 1048576).2.2 1099511627776).2.2 1099511627776).2.1 (numS (numS (numS (numS rest e 2).2.1 (numS rest e 2).2.2 1048576).2.1 (numS (numS rest e 2).2.1 (numS rest e 2).2.2 1048576).2.2 1099511627776).2.1 (numS (numS (numS rest e 2).2.1 (numS rest e 2).2.2 1048576).2.1 (numS (numS rest e 2).2.1 (numS rest e 2).2.2 1048576).2.2 1099511627776).2.2 1099511627776).2.2 32).2.1 (rawS (numS (numS (numS (numS rest e 2).2.1 (numS rest e 2).2.2 1048576).2.1 (numS (numS rest e 2).2.1 (numS rest e 2).2.2 1048576).2.2 1099511627776).2.1 (numS (numS (numS rest e 2).2.1 (numS rest e 2).2.2 1048576).2.1 (numS (numS rest e 2).2.1 (numS rest e 2).2.2 1048576).2.2 1099511627776).2.2 1099511627776).2.1 (numS (numS (numS (numS rest e 2).2.1 (numS rest e 2).2.2 1048576).2.1 (numS (numS rest e 2).2.1 (numS rest e 2).2.2 1048576).2.2 1099511627776).2.1 (numS (numS (numS rest e 2).2.1 (numS rest e 2).2.2 1048576).2.1 (numS (numS rest e 2).2.1 (numS rest e 2).2.2 1048576).2.2 1099511627776).2.2 1099511627776).2.2 32).2.2 ∧ MrAt w' Q R z1 ∧ Kept w R Q w' ∧ w'.there Q 0 2
 obtain ⟨v0, hv0⟩ : ∃ x, (numS rest e 2).1 = x := ⟨_, rfl⟩
 obtain ⟨r0, hr0⟩ : ∃ x, (numS rest e 2).2.1 = x := ⟨_, rfl⟩
 obtain ⟨e0, he0⟩ : ∃ x, (numS rest e 2).2.2 = x := ⟨_, rfl⟩
 simp only [hv0, hr0, he0] at ck l0 ⊢
 clear hv0 hr0 he0
 have l1 := numS_len r0 e0 1048576
 have c1 := fun w0 h0 => num_any R r0 e0 1048576 w0 h0
 obtain ⟨v1, hv1⟩ : ∃ x, (numS r0 e0 1048576).1 = x := ⟨_, rfl⟩
 obtain ⟨r1, hr1⟩ : ∃ x, (numS r0 e0 1048576).2.1 = x := ⟨_, rfl⟩
 obtain ⟨e1, he1⟩ : ∃ x, (numS r0 e0 1048576).2.2 = x := ⟨_, rfl⟩
 simp only [hv1, hr1, he1] at c1 l1 ⊢
 clear hv1 hr1 he1
 have l2 := numS_len r1 e1 1099511627776
 have c2 := fun w0 h0 => num_any R r1 e1 1099511627776 w0 h0
 obtain ⟨v2, hv2⟩ : ∃ x, (numS r1 e1 1099511627776).1 = x := ⟨_, rfl⟩
 obtain ⟨r2, hr2⟩ : ∃ x, (numS r1 e1 1099511627776).2.1 = x := ⟨_, rfl⟩
 obtain ⟨e2, he2⟩ : ∃ x, (numS r1 e1 1099511627776).2.2 = x := ⟨_, rfl⟩
 simp only [hv2, hr2, he2] at c2 l2 ⊢
 clear hv2 hr2 he2
 have l3 := numS_len r2 e2 1099511627776
 have c3 := fun w0 h0 => num_any R r2 e2 1099511627776 w0 h0
 obtain ⟨v3, hv3⟩ : ∃ x, (numS r2 e2 1099511627776).1 = x := ⟨_, rfl⟩
 obtain ⟨r3, hr3⟩ : ∃ x, (numS r2 e2 1099511627776).2.1 = x := ⟨_, rfl⟩
 obtain ⟨e3, he3⟩ : ∃ x, (numS r2 e2 1099511627776).2.2 = x := ⟨_, rfl⟩
 simp only [hv3, hr3, he3] at c3 l3 ⊢
 clear hv3 hr3 he3
 have c4 := fun w0 h0 m0 => rdigest_any Q R z1 r3 e3 w0 h0 m0 (by omega)
 have hdl : (v8 (padN 32 (rawS r3 e3 32).1)).length = 32 := by rw [v8_length, padN_len]
 have hd1 := v8_one (padN 32 (rawS r3 e3 32).1)
 show Calls Tryz.prog 62 _ w fun en w' => en = .returned (.agg (Value.int .i64 v0 :: .int .i64 v1 :: .int .i64 v2 :: .int .i64 v3 :: v8 (padN 32 (rawS r3 e3 32).1)).toArray) ∧ _
 obtain ⟨dv, hdv⟩ : ∃ t, v8 (padN 32 (rawS r3 e3 32).1) = t := ⟨_, rfl⟩
 obtain ⟨r4, hr4⟩ : ∃ x, (rawS r3 e3 32).2.1 = x := ⟨_, rfl⟩
 obtain ⟨e4, he4⟩ : ∃ x, (rawS r3 e3 32).2.2 = x := ⟨_, rfl⟩
 simp only [hdv, hr4, he4] at c4 hdl hd1 ⊢
 clear hdv hr4 he4
 have hpl : (Value.int .i64 v0 :: .int .i64 v1 :: .int .i64 v2 :: .int .i64 v3 :: dv).length = 36 := by simp only [List.length_cons, hdl]
 have hip : (Tryz.prog.info? 101).map (·.size) = some (Value.int .i64 v0 :: .int .i64 v1 :: .int .i64 v2 :: .int .i64 v3 :: dv).length := by rw [hpl]; exact iszVo
 have hp1 : ∀ v ∈ (Value.int .i64 v0 :: .int .i64 v1 :: .int .i64 v2 :: .int .i64 v3 :: dv), v.oneCell' = true := fun v hv => by
  simp only [List.mem_cons] at hv
  rcases hv with rfl | rfl | rfl | rfl | hv
  ·rfl
  ·rfl
  ·rfl
  ·rfl
  ·exact hd1 v hv
 obtain ⟨hB1, hr1, hs1⟩ := boxed_new w zc 101
 have ht1 := there_newN w zc.toArray 101 (n := 36) (by simp [hzl])
 obtain ⟨pc, hpc⟩ : ∃ p, Hid (Value.int .i64 v0 :: .int .i64 v1 :: .int .i64 v2 :: .int .i64 v3 :: dv = p) := ⟨_, hide rfl⟩
 rw [hpc.out] at hpl hip hp1 ⊢
 go_enter Tryz.func62, Tryz.ntmps62
 go_upto_region 0 with fail
 try simp only [Act.put]
 refine pl_begin ?_
 refine pl_run (d := some 2) (v := .pointer (some ⟨w.heap.size, 0, none⟩)) (w' := w.alloc (.cells zc.toArray 101)) (by rfl) (ex_alloc rfl (hzr _)) rfl ?_
 simp only [nz]
 refine pl_nil ?_
 obtain ⟨W1, hW1⟩ : ∃ W, w.alloc (.cells zc.toArray 101) = W := ⟨_, rfl⟩
 rw [hW1] at hB1 hr1 hs1 ht1 ⊢
 clear hW1 hr1
 obtain ⟨hB2, hr2, hs2⟩ := boxed_new W1 zc 101
 have ht2 := there_newN W1 zc.toArray 101 (n := 36) (by simp [hzl])
 go_upto_region 1 with fail
 try simp only [Act.put]
 refine pl_begin ?_
 refine pl_run (d := some 3) (v := .pointer (some ⟨W1.heap.size, 0, none⟩)) (w' := W1.alloc (.cells zc.toArray 101)) (by rfl) (ex_alloc rfl (hzr _)) rfl ?_
 simp only [nz]
 refine pl_nil ?_
 obtain ⟨W2, hW2⟩ : ∃ W, W1.alloc (.cells zc.toArray 101) = W := ⟨_, rfl⟩
 rw [hW2] at hB2 hr2 hs2 ht2 ⊢
 clear hW2
 rw [hzc] at hr2
 have hBW := hB1.trans (hB2.mono hB1.size)
 have V0 : VS w Q R w.heap.size W1.heap.size 36 _ z W2 := ⟨hr2, ht2, there_belowN ht1 hB2 hs1, (Kept.refl w R Q).below hBW, hq.below hBW, there_belowN thQ hBW hQw, Nat.lt_of_lt_of_le hs1 hB2.size, hs2, Nat.le_refl _, hB1.size, by omega, hRw, hQw⟩
 have st2 := h.below hBW
 clear hr2 ht2 ht1 hzr hzc hzl hB1 hB2 hBW hs2 h hq thQ
 go_upto_region 2 with fail
 try simp only [Act.put]
 refine pl_begin ?_
 refine pl_t 4 (?_) (by rfl) ?_ rfl ?_
 rotate_left
 ·go_simp
  try with_reducible rfl
 simp only [nz]
 refine pl_call (d := some 5) (by rfl) (by go_simp; first | done | exact ⟨rfl, rfl⟩ | with_reducible rfl) rfl ?_
 refine (ck W2 st2 V0.mr V0.qt).mono ?_
 rintro _ w3 ⟨rfl, st3, m3, k3, t3⟩
 refine ⟨_, rfl, ?_⟩
 simp only [nz]
 refine pl_t 6 (?_) (by rfl) ?_ rfl ?_
 rotate_left
 ·go_simp
  try with_reducible rfl
 simp only [nz]
 have V3 := V0.on k3 m3 t3
 have V4 := V3.set 0 [.int .i64 v0] (vt_put V3.row _).1
 have st4 := V3.st (o := 0) (vs := [.int .i64 v0]) (rest := []) st3
 refine pl_store (w' := w3.setCells W1.heap.size 0 [.int .i64 v0]) (by rfl) (ex_put1 (n := 36) rfl rfl rfl V3.box (by decide) iszI rfl rfl) rfl ?_
 refine pl_nil ?_
 obtain ⟨w4, hw4⟩ : ∃ W, w3.setCells W1.heap.size 0 [.int .i64 v0] = W := ⟨_, rfl⟩
 rw [hw4] at V4 st4 ⊢
 clear hw4 V3 st3 m3 k3 t3 V0 st2 ck
 go_upto_region 3 with fail
 have V8 := V4.drew
 have st8 := st4.below (Below.refl _ _).drew
 refine hs_begin (S := (fun W' => MrAt W' Q R z1)) 21 rfl (by kernel_rfl) ?_
 obtain ⟨w8, hw8⟩ : ∃ W, w4.drew = W := ⟨_, rfl⟩
 rw [hw8] at V8 st8 ⊢
 clear hw8 V4 st4
 have hS : (fun W' => MrAt W' Q R z1) w8 := V8.mr
 refine hs_t 0 7 (?_) rfl (by kernel_rfl) (by kernel_rfl) (by kernel_rfl) (by rfl) ?_ hS rfl ?_
 rotate_left
 ·intro w' hw
  go_simp
  try with_reducible rfl
 simp only [nz]
 refine hs_t 1 8 (?_) rfl (by kernel_rfl) (by kernel_rfl) (by kernel_rfl) (by rfl) ?_ hS rfl ?_
 rotate_left
 ·intro w' hw
  go_simp
  try with_reducible rfl
 simp only [nz]
 refine hs_t 2 9 (?_) rfl (by kernel_rfl) (by kernel_rfl) (by kernel_rfl) (by rfl) ?_ hS rfl ?_
 rotate_left
 ·intro w' hw
  go_simp
  try with_reducible rfl
 simp only [nz]
 refine hs_t 3 10 (.pointer (some ⟨R, 0, none⟩)) rfl (by kernel_rfl) (by kernel_rfl) (by kernel_rfl) (by rfl) (fun w' hw => pl_one rfl rfl hw.c0 Tryz.underlying142 rfl) hS rfl ?_
 simp only [nz]
 refine hs_t 5 12 (?_) rfl (by kernel_rfl) (by kernel_rfl) (by kernel_rfl) (by rfl) ?_ hS rfl ?_
 rotate_left
 ·intro w' hw
  go_simp
  try with_reducible rfl
 simp only [nz]
 refine hs_t 6 13 (?_) rfl (by kernel_rfl) (by kernel_rfl) (by kernel_rfl) (by rfl) ?_ hS rfl ?_
 rotate_left
 ·intro w' hw
  go_simp
  try with_reducible rfl
 simp only [nz]
 refine hs_t 7 14 (?_) rfl (by kernel_rfl) (by kernel_rfl) (by kernel_rfl) (by rfl) ?_ hS rfl ?_
 rotate_left
 ·intro w' hw
  go_simp
  try with_reducible rfl
 simp only [nz]
 refine hs_t 8 15 (.pointer (some ⟨R, 0, none⟩)) rfl (by kernel_rfl) (by kernel_rfl) (by kernel_rfl) (by rfl) (fun w' hw => pl_one rfl rfl hw.c0 Tryz.underlying142 rfl) hS rfl ?_
 simp only [nz]
 refine hs_t 10 17 (?_) rfl (by kernel_rfl) (by kernel_rfl) (by kernel_rfl) (by rfl) ?_ hS rfl ?_
 rotate_left
 ·intro w' hw
  go_simp
  try with_reducible rfl
 simp only [nz]
 refine hs_t 11 18 (?_) rfl (by kernel_rfl) (by kernel_rfl) (by kernel_rfl) (by rfl) ?_ hS rfl ?_
 rotate_left
 ·intro w' hw
  go_simp
  try with_reducible rfl
 simp only [nz]
 refine hs_t 12 19 (?_) rfl (by kernel_rfl) (by kernel_rfl) (by kernel_rfl) (by rfl) ?_ hS rfl ?_
 rotate_left
 ·intro w' hw
  go_simp
  try with_reducible rfl
 simp only [nz]
 refine hs_t 13 20 (.pointer (some ⟨R, 0, none⟩)) rfl (by kernel_rfl) (by kernel_rfl) (by kernel_rfl) (by rfl) (fun w' hw => pl_one rfl rfl hw.c0 Tryz.underlying142 rfl) hS rfl ?_
 simp only [nz]
 refine hs_call (i := 4) (d := some 11) rfl (by kernel_rfl) (by rfl) (by go_simp; first | done | exact ⟨rfl, rfl⟩ | with_reducible rfl) rfl ?_
 refine (c1 w8 st8).mono ?_
 rintro _ w5 ⟨rfl, st5, g5⟩
 have hS : (fun W' => MrAt W' Q R z1) w5 := hS.gb g5
 refine ⟨_, rfl, hS, ?_⟩
 simp only [nz]
 refine hs_t 15 22 (?_) rfl (by kernel_rfl) (by kernel_rfl) (by kernel_rfl) (by rfl) ?_ hS rfl ?_
 rotate_left
 ·intro w' hw
  go_simp
  try with_reducible rfl
 simp only [nz]
 refine hs_call (i := 9) (d := some 16) rfl (by kernel_rfl) (by rfl) (by go_simp; first | done | exact ⟨rfl, rfl⟩ | with_reducible rfl) rfl ?_
 refine (c2 w5 st5).mono ?_
 rintro _ w6 ⟨rfl, st6, g6⟩
 have hS : (fun W' => MrAt W' Q R z1) w6 := hS.gb g6
 refine ⟨_, rfl, hS, ?_⟩
 simp only [nz]
 refine hs_call (i := 14) (d := some 21) rfl (by kernel_rfl) (by rfl) (by go_simp; first | done | exact ⟨rfl, rfl⟩ | with_reducible rfl) rfl ?_
 refine (c3 w6 st6).mono ?_
 rintro _ w7 ⟨rfl, st7, g7⟩
 have hS : (fun W' => MrAt W' Q R z1) w7 := hS.gb g7
 refine ⟨_, rfl, hS, ?_⟩
 simp only [nz]
 have V7 := ((V8.gb g5).gb g6).gb g7
 have Va := V7.set 1 [.int .i64 v1] (vt_put V7.row _).2.1
 have sta := V7.st (o := 1) (vs := [.int .i64 v1]) (rest := []) st7
 refine hs_store (i := 16) (w' := w7.setCells W1.heap.size 1 [.int .i64 v1]) rfl (by kernel_rfl) (by rfl) (ex_put1 (n := 36) rfl rfl rfl V7.box (by decide) iszI rfl rfl) rfl Va.mr ?_
 obtain ⟨w_16, hw_16⟩ : ∃ W, w7.setCells W1.heap.size 1 [.int .i64 v1] = W := ⟨_, rfl⟩
 rw [hw_16] at Va sta ⊢
 clear hw_16
 have hS : (fun W' => MrAt W' Q R z1) w_16 := Va.mr
 refine hs_t 17 23 (?_) rfl (by kernel_rfl) (by kernel_rfl) (by kernel_rfl) (by rfl) ?_ hS rfl ?_
 rotate_left
 ·intro w' hw
  go_simp
  try with_reducible rfl
 simp only [nz]
 have Vb := Va.set 2 [.int .i64 v2] (vt_put Va.row _).2.2.1
 have stb := Va.st (o := 2) (vs := [.int .i64 v2]) (rest := []) sta
 refine hs_store (i := 18) (w' := w_16.setCells W1.heap.size 2 [.int .i64 v2]) rfl (by kernel_rfl) (by rfl) (ex_put1 (n := 36) rfl rfl rfl Va.box (by decide) iszI rfl rfl) rfl Vb.mr ?_
 obtain ⟨w_18, hw_18⟩ : ∃ W, w_16.setCells W1.heap.size 2 [.int .i64 v2] = W := ⟨_, rfl⟩
 rw [hw_18] at Vb stb ⊢
 clear hw_18
 have hS : (fun W' => MrAt W' Q R z1) w_18 := Vb.mr
 refine hs_t 19 24 (?_) rfl (by kernel_rfl) (by kernel_rfl) (by kernel_rfl) (by rfl) ?_ hS rfl ?_
 rotate_left
 ·intro w' hw
  go_simp
  try with_reducible rfl
 simp only [nz]
 have Vc := Vb.set 3 [.int .i64 v3] (vt_put Vb.row _).2.2.2
 have stc := Vb.st (o := 3) (vs := [.int .i64 v3]) (rest := []) stb
 refine hs_store (i := 20) (w' := w_18.setCells W1.heap.size 3 [.int .i64 v3]) rfl (by kernel_rfl) (by rfl) (ex_put1 (n := 36) rfl rfl rfl Vb.box (by decide) iszI rfl rfl) rfl Vc.mr ?_
 obtain ⟨w_20, hw_20⟩ : ∃ W, w_18.setCells W1.heap.size 3 [.int .i64 v3] = W := ⟨_, rfl⟩
 rw [hw_20] at Vc stc ⊢
 clear hw_20
 have hS : (fun W' => MrAt W' Q R z1) w_20 := Vc.mr
 refine hs_done (by kernel_rfl) ?_
 clear V7 Va Vb sta stb st5 st6 st7 g5 g6 g7 V8 st8 hS c1 c2 c3
 go_upto_region 4 with fail
 try simp only [Act.put]
 refine pl_begin ?_
 refine pl_t 25 (?_) (by rfl) ?_ rfl ?_
 rotate_left
 ·go_simp
  try with_reducible rfl
 simp only [nz]
 refine pl_call (d := some 26) (by rfl) (by go_simp; first | done | exact ⟨rfl, rfl⟩ | with_reducible rfl) rfl ?_
 refine (c4 w_20 stc Vc.mr).mono ?_
 rintro _ wd ⟨rfl, std, gd⟩
 refine ⟨_, rfl, ?_⟩
 simp only [nz]
 refine pl_t 27 (?_) (by rfl) ?_ rfl ?_
 rotate_left
 ·go_simp
  try with_reducible rfl
 simp only [nz]
 have Vd := Vc.gb gd
 have Ve := Vd.set 4 dv (range_tail4 Vd.row (by rw [hdl]; exact there_part1 Vd.box (by decide)))
 have ste := Vd.st (o := 4) (vs := dv) (rest := []) std
 refine pl_store (w' := wd.setCells W1.heap.size 4 dv) (by rfl) (ex_put (cs := dv.toArray) rfl rfl rfl (by simpa [hdl] using there_part1 Vd.box (o := 4) (m := 32) (by decide)) (by simpa [hdl] using iszD) (all_one hd1)) rfl ?_
 refine pl_nil ?_
 obtain ⟨we, hwe⟩ : ∃ W, wd.setCells W1.heap.size 4 dv = W := ⟨_, rfl⟩
 rw [hwe] at Ve ste ⊢
 clear hwe Vd std gd Vc stc c4
 have rpc := Ve.row
 rw [hpc.out] at rpc
 have hlow : Below w.heap.size we (we.setCells w.heap.size 0 pc) := below_sets (Nat.le_refl _) pc 0 _ (Below.refl _ we)
 go_upto_region 5 with fail
 try simp only [Act.put]
 refine pl_begin ?_
 refine pl_t 28 (.agg pc.toArray) (by rfl) (ex_mid rfl rfl rpc Tryz.underlying101 rfl hip) rfl ?_
 simp only [nz]
 refine pl_store (w' := we.setCells w.heap.size 0 pc) (by rfl) (ex_put (cs := pc.toArray) rfl rfl rfl (by simpa [hpl] using Ve.ans) (by simpa using hip) (all_one hp1)) rfl ?_
 refine pl_nil ?_
 have hrs := run_loadVar_mid (P := Tryz.prog) (we.setCells w.heap.size 0 pc) w.heap.size 0 101 pc _ (World.rangeAt_setCells_same we w.heap.size 0 pc (by rw [hpl]; exact Ve.ans)) Tryz.underlying101 rfl hip
 have HF : Hid (St (we.setCells w.heap.size 0 pc) R r4 e4 ∧ MrAt (we.setCells w.heap.size 0 pc) Q R z1 ∧ Kept w R Q (we.setCells w.heap.size 0 pc) ∧ (we.setCells w.heap.size 0 pc).there Q 0 2) := hide ⟨ste.belowN hlow hRw, Ve.mr.at (blk_sets (by omega)) (by rw [size_sets]; exact Nat.le_refl _), Ve.kept.newSets (Nat.le_refl _) _ _, World.there_setCells Ve.qt _ _ _⟩
 clear Ve ste hlow rpc
 go_wp2_with fail
 refine bodyPost_ret (v := .agg pc.toArray) ?_ rfl ?_
 ·simp [results, Tryz.results62, Act.put, asAddr, hrs]
 ·exact ⟨rfl, HF.out⟩
end Go.Proofs.YtilbjeeabecfjaaGreat
