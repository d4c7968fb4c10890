/- votes compared; lists without an element; certs and messages without lists against themselves; fieldsMay and Good at messages without lists; Good of a message t -/
import Derived.Test.YtilbjeeabecfjaaGreatJK0
import Derived.Test.YtilbjeeabecfjaaGreatJK1
import Derived.Lib.SlBytesConst
import Derived.WalkLawsBesides
import Derived.SliceStrings
import Derived.BigQuiet
import Derived.Lib.ConvBytes
import Derived.Laws.ResultCell
import Derived.Maps.RangeWalk
import Derived.Maps.OwnSet
import Derived.DeepKeys4
import Derived.Conc.MuLone
import Derived.KernelRfl
namespace Go.Proofs.YtilbjeeabecfjaaGreat
open Go.RowKit
open Sha Tal
theorem fldV : (Tryz.prog.fieldsOf 101).toList.map (fun f => (f.name, f.type, f.offset)) = [("Kind", 3, 0), ("Epoch", 3, 1), ("View", 3, 2), ("Slot", 3, 3), ("Digest", 99, 4)] := by kernel_rfl
theorem undV : Tryz.prog.underlying 101 = some (.struct (Tryz.prog.fieldsOf 101)) := by kernel_rfl
theorem sihV : Tryz.prog.stoodInHeld 101 = false := by kernel_rfl
theorem part_intV (w : World) (q : List Value) (i : Nat) (c : Int) (h : q[i]? = some (.int .i64 c)) : (part 3 q.toArray i).run Tryz.prog w = .ok (.int .i64 c) w := by
 simp [part, isAgg, run_underlying Tryz.underlying3, h]
theorem part_digV (w : World) (x : Vt) (hd : x.d.length = 32) : (part 99 x.cells.toArray 4).run Tryz.prog w = .ok (.agg (v8 x.d).toArray) w := by
 have hx : List.take 32 (List.drop 4 x.cells) = v8 x.d := by
  show List.take 32 (v8 x.d) = v8 x.d
  rw [List.take_of_length_le (by rw [v8_length, hd]; exact Nat.le_refl _)]
 simp [part, isAgg, run_underlying Tryz.underlying99, run_size iszD, hx]
def vtB (x y : Vt) : Bool := (x.k == y.k) && ((x.e == y.e) && ((x.v == y.v) && ((x.s == y.s) && (x.d == y.d))))
theorem vtB_iff {x y : Vt} : vtB x y = true ↔ x = y := by
 obtain ⟨k, e, v, s, d⟩ := x
 obtain ⟨k', e', v', s', d'⟩ := y
 simp [vtB]
theorem vtEqIn (x y : Vt) (hx : x.d.length = 32) (hy : y.d.length = 32) (d : Nat) (w : World) :
  (Op.equalIn (d + 2 + 1) 101 (.agg x.cells.toArray) (.agg y.cells.toArray)).run Tryz.prog w = .ok (vtB x y) w := by
 rw [run_equalIn_struct w (d + 2) 101 _ _ undV sihV]
 have hf := fldV
 generalize (Tryz.prog.fieldsOf 101).toList = fs at hf
 obtain ⟨f0, f1, f2, f3, f4, rfl⟩ : ∃ f0 f1 f2 f3 f4, fs = [f0, f1, f2, f3, f4] := by
  rcases fs with _ | ⟨f0, _ | ⟨f1, _ | ⟨f2, _ | ⟨f3, _ | ⟨f4, _ | ⟨f5, fs⟩⟩⟩⟩⟩⟩ <;> simp at hf
  exact ⟨f0, f1, f2, f3, f4, rfl⟩
 simp only [List.map_cons, List.map_nil, List.cons.injEq, Prod.mk.injEq, and_true] at hf
 obtain ⟨⟨a0, b0, d0⟩, ⟨a1, b1, d1⟩, ⟨a2, b2, d2⟩, ⟨a3, b3, d3⟩, ⟨a4, b4, d4⟩⟩ := hf
 have p0 := part_intV w x.cells 0 x.k rfl
 have q0 := part_intV w y.cells 0 y.k rfl
 have p1 := part_intV w x.cells 1 x.e rfl
 have q1 := part_intV w y.cells 1 y.e rfl
 have p2 := part_intV w x.cells 2 x.v rfl
 have q2 := part_intV w y.cells 2 y.v rfl
 have p3 := part_intV w x.cells 3 x.s rfl
 have q3 := part_intV w y.cells 3 y.s rfl
 have p4 := part_digV w x hx
 have q4 := part_digV w y hy
 have e0 := fun a b => run_equalIn_int (P := Tryz.prog) w (d + 1) 3 .i64 .i64 a b Tryz.underlying3
 have e4 := run_equal8 (P := Tryz.prog) w d 99 5 32 Tryz.underlying99 Tryz.underlying5 isz8 x.d y.d hx hy
 unfold vtB
 generalize x.cells.toArray = q at *
 generalize y.cells.toArray = q' at *
 obtain ⟨T, hT⟩ : ∃ T, (v8 x.d).toArray = T := ⟨_, rfl⟩
 obtain ⟨T', hT'⟩ : ∃ T, (v8 y.d).toArray = T := ⟨_, rfl⟩
 rw [hT] at p4 e4
 rw [hT'] at q4 e4
 clear hT hT'
 obtain ⟨D, hD⟩ : ∃ D, d + 1 + 1 = D := ⟨_, rfl⟩
 have e4 : (Op.equalIn (d + 1 + 1) 99 (.agg T) (.agg T')).run Tryz.prog w = .ok (x.d == y.d) w := e4
 rw [hD] at e4
 have n0 : ¬ ("Kind" = "_") := by decide
 have n1 : ¬ ("Epoch" = "_") := by decide
 have n2 : ¬ ("View" = "_") := by decide
 have n3 : ¬ ("Slot" = "_") := by decide
 have n4 : ¬ ("Digest" = "_") := by decide
 simp only [Op.eqFields, a0, a1, a2, a3, a4, b0, b1, b2, b3, b4, d0, d1, d2, d3, d4, ne_eq, n0, n1, n2, n3, n4, not_false_eq_true, if_true]
 rw [show d + 2 = d + 1 + 1 from rfl, hD]
 rw [hD] at e0
 clear hD
 simp only [Sem.run_bind, p0, q0, Result.andThen_ok, e0]
 cases (x.k == y.k)
 ·simp only [Bool.not_false, if_true, Sem.run_pure, Bool.false_and]
 ·simp only [Bool.not_true, Bool.false_eq_true, if_false, Sem.run_bind, p1, q1, Result.andThen_ok, e0, Bool.true_and]
  cases (x.e == y.e)
  ·simp only [Bool.not_false, if_true, Sem.run_pure, Bool.false_and]
  ·simp only [Bool.not_true, Bool.false_eq_true, if_false, Sem.run_bind, p2, q2, Result.andThen_ok, e0, Bool.true_and]
   cases (x.v == y.v)
   ·simp only [Bool.not_false, if_true, Sem.run_pure, Bool.false_and]
   ·simp only [Bool.not_true, Bool.false_eq_true, if_false, Sem.run_bind, p3, q3, Result.andThen_ok, e0, Bool.true_and]
    cases (x.s == y.s)
    ·simp only [Bool.not_false, if_true, Sem.run_pure, Bool.false_and]
    ·simp only [Bool.not_true, Bool.false_eq_true, if_false, Sem.run_bind, p4, q4, Result.andThen_ok, e4, Bool.true_and]
     cases (x.d == y.d)
     ·simp only [Bool.not_false, if_true, Sem.run_pure]
     ·simp only [Bool.not_true, Bool.false_eq_true, if_false, Sem.run_pure]
theorem eqInV (x y : Vt) (hx : x.d.length = 32) (hy : y.d.length = 32) (w : World) : (Op.equalIn 10000 101 (.agg x.cells.toArray) (.agg y.cells.toArray)).run Tryz.prog w = .ok (vtB x y) w := vtEqIn x y hx hy 9997 w
theorem eqInD (x y : List Int) (hx : x.length = 32) (hy : y.length = 32) (w : World) : (Op.equalIn 10000 99 (.agg (v8 x).toArray) (.agg (v8 y).toArray)).run Tryz.prog w = .ok (x == y) w := run_equal8 w 9998 99 5 32 Tryz.underlying99 Tryz.underlying5 isz8 x y hx hy
theorem vtB_self (x : Vt) : vtB x x = true := vtB_iff.2 rfl
theorem eqR0 (w : World) : Calls Tryz.prog 189 #[.slice none 0 0, .slice none 0 0] w fun e w' => e = .returned (.bool true) ∧ w' = w := by
 go_enter Tryz.func189, Tryz.ntmps189
 go_wp2
 go_loopw [13] (fun iv wr => iv = .int .i64 0 ∧ wr = w) (fun _ _ => 0)
 case atStart => exact ⟨rfl, rfl⟩
 case round =>
  obtain ⟨rfl, rfl⟩ := hrel
  go_wp2
  go_ret
  exact ⟨rfl, rfl⟩
theorem eqE0 (w : World) : Calls Tryz.prog 174 #[.slice none 0 0, .slice none 0 0] w fun e w' => e = .returned (.bool true) ∧ w' = w := by
 go_enter Tryz.func174, Tryz.ntmps174
 go_wp2
 go_loopw [13] (fun iv wr => iv = .int .i64 0 ∧ wr = w) (fun _ _ => 0)
 case atStart => exact ⟨rfl, rfl⟩
 case round =>
  obtain ⟨rfl, rfl⟩ := hrel
  go_wp2
  go_ret
  exact ⟨rfl, rfl⟩
theorem eqS0 (w : World) : Calls Tryz.prog 176 #[.slice none 0 0, .slice none 0 0] w fun e w' => e = .returned (.bool true) ∧ w' = w := by
 go_enter Tryz.func176, Tryz.ntmps176
 go_wp2
 go_loopw [13] (fun iv wr => iv = .int .i64 0 ∧ wr = w) (fun _ _ => 0)
 case atStart => exact ⟨rfl, rfl⟩
 case round =>
  obtain ⟨rfl, rfl⟩ := hrel
  go_wp2
  go_ret
  exact ⟨rfl, rfl⟩
theorem eqH0 (f : Value) (w : World) : Calls Tryz.prog 190 #[.slice none 0 0, .slice none 0 0, f] w fun e w' => e = .returned (.bool true) ∧ w' = w := by
 go_enter Tryz.func190, Tryz.ntmps190
 go_wp2
 go_loopw [17] (fun iv wr => iv = .int .i64 0 ∧ wr = w) (fun _ _ => 0)
 case atStart => exact ⟨rfl, rfl⟩
 case round =>
  obtain ⟨rfl, rfl⟩ := hrel
  go_wp2
  go_ret
  exact ⟨rfl, rfl⟩
theorem amR0 (m : Int) (f : Value) (hm : 0 ≤ m) (w : World) : Calls Tryz.prog 192 #[.slice none 0 0, .int .i64 m, f] w fun e w' => e = .returned (.bool true) ∧ w' = w := by
 go_enter Tryz.func192, Tryz.ntmps192
 go_wp2
 go_loopw [15] (fun iv wr => iv = .int .i64 0 ∧ wr = w) (fun _ _ => 0)
 case atStart => exact ⟨rfl, rfl⟩
 case round =>
  obtain ⟨rfl, rfl⟩ := hrel
  go_wp2
  go_ret
  exact ⟨rfl, rfl⟩
theorem amH0 (m : Int) (f : Value) (hm : 0 ≤ m) (w : World) : Calls Tryz.prog 194 #[.slice none 0 0, .int .i64 m, f] w fun e w' => e = .returned (.bool true) ∧ w' = w := by
 go_enter Tryz.func194, Tryz.ntmps194
 go_wp2
 go_loopw [15] (fun iv wr => iv = .int .i64 0 ∧ wr = w) (fun _ _ => 0)
 case atStart => exact ⟨rfl, rfl⟩
 case round =>
  obtain ⟨rfl, rfl⟩ := hrel
  go_wp2
  go_ret
  exact ⟨rfl, rfl⟩
theorem amS0 (m : Int) (f : Value) (hm : 0 ≤ m) (w : World) : Calls Tryz.prog 196 #[.slice none 0 0, .int .i64 m, f] w fun e w' => e = .returned (.bool true) ∧ w' = w := by
 go_enter Tryz.func196, Tryz.ntmps196
 go_wp2
 go_loopw [15] (fun iv wr => iv = .int .i64 0 ∧ wr = w) (fun _ _ => 0)
 case atStart => exact ⟨rfl, rfl⟩
 case round =>
  obtain ⟨rfl, rfl⟩ := hrel
  go_wp2
  go_ret
  exact ⟨rfl, rfl⟩
theorem amE0 (m : Int) (f : Value) (hm : 0 ≤ m) (w : World) : Calls Tryz.prog 182 #[.slice none 0 0, .int .i64 m, f] w fun e w' => e = .returned (.bool true) ∧ w' = w := by
 go_enter Tryz.func182, Tryz.ntmps182
 go_wp2
 go_loopw [15] (fun iv wr => iv = .int .i64 0 ∧ wr = w) (fun _ _ => 0)
 case atStart => exact ⟨rfl, rfl⟩
 case round =>
  obtain ⟨rfl, rfl⟩ := hrel
  go_wp2
  go_ret
  exact ⟨rfl, rfl⟩
def bat0 (q : Bool) : Value := .agg #[.bool q, .slice none 0 0]
theorem bsame0 (q : Bool) (w : World) : Calls Tryz.prog 172 #[bat0 q, bat0 q] w fun e w' => e = .returned (.bool true) ∧ Below w.heap.size w w' := by
 have hB : Below w.heap.size w ((w.alloc (.cells #[.bool q, .slice none 0 0] 97)).alloc (.cells #[.bool q, .slice none 0 0] 97)) := ((Below.refl _ w).alloc (Nat.le_refl _) _).alloc (by simp) _
 unfold bat0
 cases q
 all_goals
  go_enter Tryz.func172, Tryz.ntmps172
  go_wp2_with (go_at_call 189; refine (eqR0 _).mono ?_; rintro e1 w1 ⟨rfl, hx⟩; obtain rfl := hx.symm; clear hx)
  go_ret
  exact ⟨rfl, hB⟩
theorem batMay0 (q : Bool) (w : World) : Calls Tryz.prog 180 #[bat0 q] w fun e w' => e = .returned (.bool true) ∧ Below w.heap.size w w' := by
 have hB : Below w.heap.size w (w.alloc (.cells #[.bool q, .slice none 0 0] 97)) := (Below.refl _ w).alloc (Nat.le_refl _) _
 unfold bat0
 cases q
 all_goals
  go_enter Tryz.func180, Tryz.ntmps180
  go_wp2_with (go_at_call 192; refine (amR0 _ _ (by omega) _).mono ?_; rintro e1 w1 ⟨rfl, hx⟩; obtain rfl := hx.symm; clear hx)
  go_ret
  exact ⟨rfl, hB⟩
theorem sigMay0 (w : World) : Calls Tryz.prog 184 #[.slice none 0 0] w fun e w' => e = .returned (.bool true) ∧ w' = w := by
 go_enter Tryz.func184, Tryz.ntmps184
 go_wp2_with (go_at_call 196; refine (amS0 _ _ (by omega) _).mono ?_; rintro e1 w1 ⟨rfl, hx⟩; obtain rfl := hx.symm; clear hx)
 go_ret
 exact ⟨rfl, rfl⟩
def chg0 : Value := .agg #[.int .i64 0, .int .i64 0, .int .i64 0, .slice none 0 0]
theorem schg0 (w : World) : Calls Tryz.prog 173 #[chg0, chg0] w fun e w' => e = .returned (.bool true) ∧ Below w.heap.size w w' := by
 have hB : Below w.heap.size w ((w.alloc (.cells #[.int .i64 0, .int .i64 0, .int .i64 0, .slice none 0 0] 104)).alloc (.cells #[.int .i64 0, .int .i64 0, .int .i64 0, .slice none 0 0] 104)) := ((Below.refl _ w).alloc (Nat.le_refl _) _).alloc (by simp) _
 unfold chg0
 go_enter Tryz.func173, Tryz.ntmps173
 go_wp2_with (go_at_call 190; refine (eqH0 _ _).mono ?_; rintro e1 w1 ⟨rfl, hx⟩; obtain rfl := hx.symm; clear hx)
 go_ret
 exact ⟨rfl, hB⟩
theorem chgMay0 (w : World) : Calls Tryz.prog 181 #[chg0] w fun e w' => e = .returned (.bool true) ∧ Below w.heap.size w w' := by
 have hB : Below w.heap.size w (w.alloc (.cells #[.int .i64 0, .int .i64 0, .int .i64 0, .slice none 0 0] 104)) := (Below.refl _ w).alloc (Nat.le_refl _) _
 have i1 : inB 0 1048576 = true := rfl
 have i2 : inB 0 64 = true := rfl
 have i3 : inB 0 1099511627776 = true := rfl
 unfold chg0
 go_enter Tryz.func181, Tryz.ntmps181
 go_wp2_with (first | (go_at_call 177; refine (within_any _ _ _).mono ?_; rintro e1 w1 ⟨rfl, hx⟩; obtain rfl := hx.symm; clear hx; (first | rw [i1] | rw [i2] | rw [i3])) | (go_at_call 194; refine (amH0 _ _ (by omega) _).mono ?_; rintro e1 w1 ⟨rfl, hx⟩; obtain rfl := hx.symm; clear hx))
 go_ret
 exact ⟨rfl, hB⟩
theorem wpList_load_g {P : Program} {ops : Array Oper} {rest : List Oper} {op : Oper} {a : Act} {w : World} {Q : Exit → Act → World → Prop} (hgd : Region.wanted op (yielded ops a.tmps) = true) (ty : TypeId) (x : Operand) (ho : op.op = .load ty x)
  (b o : Nat) (hx : a.eval x = .pointer (some ⟨b, o, none⟩)) (cs : List Value) (d : TypeDesc) (hc : w.rangeAt b o cs)
  (hu : P.underlying ty = some d) (hd : d.isRow = true) (hi : (P.info? ty).map (·.size) = some cs.length)
  (h : wpList P ops Q rest (a.put op.dst (.agg cs.toArray)) w) : wpList P ops Q (op :: rest) a w :=
 wpList_step fun _ hK => by rw [if_pos hgd]; exact wp_load_mid ty x ho b o hx cs d hc hu hd hi (hK _ _ h)
theorem iszC : (Tryz.prog.info? 107).map (·.size) = some 37 := by kernel_rfl
def cert0 (x : Vt) : List Value := x.cells ++ [.slice none 0 0]
theorem two_boxes (q : List Value) (t : TypeId) (w : World) : ((w.alloc (.cells q.toArray t)).alloc (.cells q.toArray t)).rangeAt w.heap.size 0 q ∧ ((w.alloc (.cells q.toArray t)).alloc (.cells q.toArray t)).rangeAt (w.heap.size + 1) 0 q ∧ Below w.heap.size w ((w.alloc (.cells q.toArray t)).alloc (.cells q.toArray t)) ∧ w.heap.size + 2 ≤ ((w.alloc (.cells q.toArray t)).alloc (.cells q.toArray t)).heap.size := by
 have hB : Below w.heap.size w (w.alloc (.cells q.toArray t)) := (Below.refl _ _).alloc (Nat.le_refl _) _
 have hB2 : Below (w.alloc (.cells q.toArray t)).heap.size (w.alloc (.cells q.toArray t)) ((w.alloc (.cells q.toArray t)).alloc (.cells q.toArray t)) := (Below.refl _ _).alloc (Nat.le_refl _) _
 have h1 := range_new w q.toArray t
 have h2 := range_new (w.alloc (.cells q.toArray t)) q.toArray t
 rw [World.size_alloc] at h2
 exact ⟨range_below (by simpa using h1) hB2 (by simp), by simpa using h2, hB.trans (hB2.mono (by simp)), by simp⟩
set_option maxRecDepth 100000 in
set_option maxHeartbeats 2000000 in
theorem scert0 (x : Vt) (hx : x.ok) (w : World) : Calls Tryz.prog 175 #[.agg (cert0 x).toArray, .agg (cert0 x).toArray] w fun e w' => e = .returned (.bool true) ∧ Below w.heap.size w w' := by
 obtain ⟨hA, hA', hB, hs⟩ := two_boxes (cert0 x) 107 w
 have r1 := range_left hA
 have r1' := range_left hA'
 have c1 := range_right hA 0 _ rfl
 have c1' := range_right hA' 0 _ rfl
 rw [hx.len] at c1 c1'
 simp only [Nat.zero_add, Nat.add_zero] at c1 c1'
 have ix : (Tryz.prog.info? 101).map (·.size) = some x.cells.length := by rw [hx.len]; exact iszV
 have hq := eqInV x x hx.dl hx.dl
 rw [vtB_self] at hq
 clear hA hA' hs hx
 generalize cert0 x = q at *
 generalize x.cells = u at *
 go_enter Tryz.func175, Tryz.ntmps175
 go_upto_region 1 with fail
 go_name_world w1 hw1
 rw [show (w.alloc (.cells q.toArray 107)).alloc (.cells q.toArray 107) = w1 from hw1] at r1 r1' c1 c1' hB
 clear hw1
 go_wp2_with (first | (refine wpList_load_mid rfl 101 _ rfl _ _ rfl u _ r1 Tryz.underlying101 rfl ix ?_) | (refine wpList_load_mid rfl 101 _ rfl _ _ rfl u _ r1' Tryz.underlying101 rfl ix ?_) | (go_at_call 176; refine (eqS0 _).mono ?_; rintro e1 w2 ⟨rfl, hx⟩; obtain rfl := hx.symm; clear hx))
 go_ret
 exact ⟨rfl, hB⟩
set_option maxRecDepth 100000 in
set_option maxHeartbeats 4000000 in
theorem msame0 (k e s : Int) (x : Vt) (d : List Int) (hx : x.ok) (hd : d.length = 32) (hdb : ∀ z ∈ d, 0 ≤ z ∧ z < 256) (w : World) : Calls Tryz.prog 152 #[.agg (Ms.plain k e s x d).cells.toArray, .agg (Ms.plain k e s x d).cells.toArray] w fun e w' => e = .returned (.bool true) ∧ Below w.heap.size w w' := by
 have hm := Ms.plain_ok k e s hx hd hdb
 obtain ⟨hA, hA', hB, hs⟩ := two_boxes (Ms.plain k e s x d).cells 109 w
 obtain ⟨W, hW⟩ : ∃ W, Hid ((w.alloc (.cells (Ms.plain k e s x d).cells.toArray 109)).alloc (.cells (Ms.plain k e s x d).cells.toArray 109) = W) := ⟨_, hide rfl⟩
 rw [hW.out] at hA hA' hB hs
 have M := hm.at hA
 have M' := hm.at hA'
 have ix : (Tryz.prog.info? 101).map (·.size) = some x.cells.length := by rw [hx.len]; exact iszV
 have id : (Tryz.prog.info? 99).map (·.size) = some (v8 d).length := by rw [v8_length, hd]; exact iszD
 have ic : (Tryz.prog.info? 107).map (·.size) = some (cert0 Vt.zero).length := by rw [show (cert0 Vt.zero).length = 37 from rfl]; exact iszC
 have hq := eqInV x x hx.dl hx.dl
 have hq2 := eqInD d d hd hd
 rw [vtB_self] at hq
 rw [show (d == d) = true by simp] at hq2
 have cC := fun w0 => scert0 Vt.zero Vt.zero_ok w0
 have cK : W.cell? ⟨w.heap.size, 0, none⟩ = some (.int .i64 k) := M.k
 have cE : W.cell? ⟨w.heap.size, 1, none⟩ = some (.int .i64 e) := M.e
 have cL : W.cell? ⟨w.heap.size, 2, none⟩ = some (.int .i64 0) := M.l
 have cV : W.cell? ⟨w.heap.size, 3, none⟩ = some (.int .i64 0) := M.v
 have cS : W.cell? ⟨w.heap.size, 4, none⟩ = some (.int .i64 s) := M.s
 have cQ : W.cell? ⟨w.heap.size, 5, none⟩ = some (.bool false) := M.q
 have cR : W.cell? ⟨w.heap.size, 6, none⟩ = some (.slice none 0 0) := M.rs
 have c1 : W.cell? ⟨w.heap.size, 43, none⟩ = some (.int .i64 0) := M.ce
 have c2 : W.cell? ⟨w.heap.size, 44, none⟩ = some (.int .i64 0) := M.cl
 have c3 : W.cell? ⟨w.heap.size, 45, none⟩ = some (.int .i64 0) := M.cv
 have cH : W.cell? ⟨w.heap.size, 46, none⟩ = some (.slice none 0 0) := M.he
 have cN : W.cell? ⟨w.heap.size, 47, none⟩ = some (.slice none 0 0) := M.ne
 have cT : W.cell? ⟨w.heap.size, 117, none⟩ = some (.string ⟨#[]⟩) := M.st
 have cG : W.cell? ⟨w.heap.size, 118, none⟩ = some (.slice none 0 0) := M.sg
 have rV : W.rangeAt (w.heap.size) 7 x.cells := M.vt
 have rD : W.rangeAt (w.heap.size) 48 (v8 d) := M.d
 have rC : W.rangeAt (w.heap.size) 80 (cert0 Vt.zero) := M.ct
 have cK' : W.cell? ⟨w.heap.size + 1, 0, none⟩ = some (.int .i64 k) := M'.k
 have cE' : W.cell? ⟨w.heap.size + 1, 1, none⟩ = some (.int .i64 e) := M'.e
 have cL' : W.cell? ⟨w.heap.size + 1, 2, none⟩ = some (.int .i64 0) := M'.l
 have cV' : W.cell? ⟨w.heap.size + 1, 3, none⟩ = some (.int .i64 0) := M'.v
 have cS' : W.cell? ⟨w.heap.size + 1, 4, none⟩ = some (.int .i64 s) := M'.s
 have cQ' : W.cell? ⟨w.heap.size + 1, 5, none⟩ = some (.bool false) := M'.q
 have cR' : W.cell? ⟨w.heap.size + 1, 6, none⟩ = some (.slice none 0 0) := M'.rs
 have c1' : W.cell? ⟨w.heap.size + 1, 43, none⟩ = some (.int .i64 0) := M'.ce
 have c2' : W.cell? ⟨w.heap.size + 1, 44, none⟩ = some (.int .i64 0) := M'.cl
 have c3' : W.cell? ⟨w.heap.size + 1, 45, none⟩ = some (.int .i64 0) := M'.cv
 have cH' : W.cell? ⟨w.heap.size + 1, 46, none⟩ = some (.slice none 0 0) := M'.he
 have cN' : W.cell? ⟨w.heap.size + 1, 47, none⟩ = some (.slice none 0 0) := M'.ne
 have cT' : W.cell? ⟨w.heap.size + 1, 117, none⟩ = some (.string ⟨#[]⟩) := M'.st
 have cG' : W.cell? ⟨w.heap.size + 1, 118, none⟩ = some (.slice none 0 0) := M'.sg
 have rV' : W.rangeAt (w.heap.size + 1) 7 x.cells := M'.vt
 have rD' : W.rangeAt (w.heap.size + 1) 48 (v8 d) := M'.d
 have rC' : W.rangeAt (w.heap.size + 1) 80 (cert0 Vt.zero) := M'.ct
 clear hA hA' hm M M' hx hd hdb
 generalize (Ms.plain k e s x d).cells = q at *
 generalize x.cells = u at *
 generalize v8 d = ud at *
 generalize cert0 Vt.zero = uc at *
 go_enter Tryz.func152, Tryz.ntmps152
 go_upto_region 1 with fail
 go_name_world w1 hw1
 obtain rfl : W = w1 := hW.out.symm.trans hw1
 clear hw1 hW
 go_upto_region 3 with fail
 try simp only [Act.put]
 refine wp_region_list ?_
 refine wpList_step fun K hK => ?_
 go_simp
 refine hK _ _ ?_
 clear hK K
 refine wpList_load_mid rfl 101 _ rfl _ _ rfl u _ rV Tryz.underlying101 rfl ix ?_
 refine wpList_step fun K hK => ?_
 go_simp
 refine hK _ _ ?_
 clear hK K
 refine wpList_load_mid rfl 101 _ rfl _ _ rfl u _ rV' Tryz.underlying101 rfl ix ?_
 refine wpList_step fun K hK => ?_
 go_simp
 try rw [hq]
 try go_simp
 refine hK _ _ ?_
 clear hK K
 refine wpList_step fun K hK => ?_
 go_simp
 refine hK _ _ ?_
 clear hK K
 refine wpList_step fun K hK => ?_
 go_simp
 refine hK _ _ ?_
 clear hK K
 refine wpList_load_g (by rfl) 99 _ rfl _ _ rfl ud _ rD Tryz.underlying99 rfl id ?_
 refine wpList_step fun K hK => ?_
 go_simp
 refine hK _ _ ?_
 clear hK K
 refine wpList_load_g (by rfl) 99 _ rfl _ _ rfl ud _ rD' Tryz.underlying99 rfl id ?_
 refine wpList_step fun K hK => ?_
 go_simp
 try rw [hq2]
 try go_simp
 refine hK _ _ ?_
 clear hK K
 refine wpList_step fun K hK => ?_
 go_simp
 refine hK _ _ ?_
 clear hK K
 refine wpList_step fun K hK => ?_
 go_simp
 refine hK _ _ ?_
 clear hK K
 refine wpList_step fun K hK => ?_
 go_simp
 refine hK _ _ ?_
 clear hK K
 refine wpList_step fun K hK => ?_
 go_simp
 refine hK _ _ ?_
 clear hK K
 refine wpList_step fun K hK => ?_
 go_simp
 refine hK _ _ ?_
 clear hK K
 refine wpList_step fun K hK => ?_
 go_simp
 refine hK _ _ ?_
 clear hK K
 refine wpList_step fun K hK => ?_
 go_simp
 refine hK _ _ ?_
 clear hK K
 refine wpList_step fun K hK => ?_
 go_simp
 refine hK _ _ ?_
 clear hK K
 refine wpList_step fun K hK => ?_
 go_simp
 refine hK _ _ ?_
 clear hK K
 go_upto_region 5 with fail
 clear cK cE cL cV cS cK' cE' cL' cV' cS' rV rV' rD rD' cT cT' hq hq2
 go_wp2_with fail
 refine (bsame0 false _).mono ?_
 rintro e2 w2 ⟨rfl, hb2⟩
 have up := fun i v (h : W.cell? ⟨w.heap.size, i, none⟩ = some v) => (hb2.cell (p := ⟨w.heap.size, i, none⟩) (show w.heap.size < W.heap.size by omega)).trans h
 replace c1 := up _ _ c1
 replace c2 := up _ _ c2
 replace c3 := up _ _ c3
 replace cH := up _ _ cH
 replace cN := up _ _ cN
 replace cG := up _ _ cG
 replace rC := range_below rC hb2 (by omega)
 clear up
 have up' := fun i v (h : W.cell? ⟨w.heap.size + 1, i, none⟩ = some v) => (hb2.cell (p := ⟨w.heap.size + 1, i, none⟩) (show w.heap.size + 1 < W.heap.size by omega)).trans h
 replace c1' := up' _ _ c1'
 replace c2' := up' _ _ c2'
 replace c3' := up' _ _ c3'
 replace cH' := up' _ _ cH'
 replace cN' := up' _ _ cN'
 replace cG' := up' _ _ cG'
 replace rC' := range_below rC' hb2 (by omega)
 clear up'
 have hs2 := Nat.le_trans hs hb2.size
 have hB2 := hB.trans (hb2.mono (by omega))
 clear cQ cR cQ' cR' hb2 hs hB
 go_wp2_with fail
 refine (schg0 _).mono ?_
 rintro e3 w3 ⟨rfl, hb3⟩
 have up := fun i v (h : w2.cell? ⟨w.heap.size, i, none⟩ = some v) => (hb3.cell (p := ⟨w.heap.size, i, none⟩) (show w.heap.size < w2.heap.size by omega)).trans h
 replace cN := up _ _ cN
 replace cG := up _ _ cG
 replace rC := range_below rC hb3 (by omega)
 clear up
 have up' := fun i v (h : w2.cell? ⟨w.heap.size + 1, i, none⟩ = some v) => (hb3.cell (p := ⟨w.heap.size + 1, i, none⟩) (show w.heap.size + 1 < w2.heap.size by omega)).trans h
 replace cN' := up' _ _ cN'
 replace cG' := up' _ _ cG'
 replace rC' := range_below rC' hb3 (by omega)
 clear up'
 have hs3 := Nat.le_trans hs2 hb3.size
 have hB3 := hB2.trans (hb3.mono (by omega))
 clear c1 c2 c3 cH c1' c2' c3' cH' hb3 hs2 hB2
 go_wp2_with fail
 refine (eqE0 _).mono ?_
 rintro e4 w4 ⟨rfl, hx⟩
 obtain rfl := hx.symm
 clear hx cN cN'
 go_wp2_with (first | (refine wpList_load_g (by rfl) 107 _ rfl _ _ rfl uc _ rC Tryz.underlying107 rfl ic ?_) | (refine wpList_load_g (by rfl) 107 _ rfl _ _ rfl uc _ rC' Tryz.underlying107 rfl ic ?_))
 refine (cC _).mono ?_
 rintro e5 w5 ⟨rfl, hb5⟩
 have up := fun i v (h : w3.cell? ⟨w.heap.size, i, none⟩ = some v) => (hb5.cell (p := ⟨w.heap.size, i, none⟩) (show w.heap.size < w3.heap.size by omega)).trans h
 replace cG := up _ _ cG
 clear up
 have up' := fun i v (h : w3.cell? ⟨w.heap.size + 1, i, none⟩ = some v) => (hb5.cell (p := ⟨w.heap.size + 1, i, none⟩) (show w.heap.size + 1 < w3.heap.size by omega)).trans h
 replace cG' := up' _ _ cG'
 clear up'
 have hB5 := hB3.trans (hb5.mono (by omega))
 clear rC rC' hb5 hs3 hB3 cC
 go_wp2_with fail
 refine (eqS0 _).mono ?_
 rintro e6 w6 ⟨rfl, hx⟩
 obtain rfl := hx.symm
 clear hx cG cG'
 go_wp2_with fail
 go_ret
 exact ⟨rfl, hB5⟩
theorem plain_ok2 {x : Vt} (hx : x.ok) : (Ms.plain 2 0 0 x zeros32).ok := Ms.plain_ok 2 0 0 hx zeros32_len zeros32_byte
set_option maxRecDepth 100000 in
set_option maxHeartbeats 4000000 in
theorem fmay2 (x : Vt) (hx : x.ok) (w : World) : Calls Tryz.prog 154 #[.agg (Ms.plain 2 0 0 x zeros32).cells.toArray] w fun e w' => e = .returned (.bool x.may) ∧ Below w.heap.size w w' := by
 have hm : (Ms.plain 2 0 0 x zeros32).ok := plain_ok2 hx
 have hB : Below w.heap.size w (w.alloc (.cells (Ms.plain 2 0 0 x zeros32).cells.toArray 109)) := (Below.refl _ _).alloc (Nat.le_refl _) _
 have hs : w.heap.size < (w.alloc (.cells (Ms.plain 2 0 0 x zeros32).cells.toArray 109)).heap.size := by simp
 have M := (Ms.plain 2 0 0 x zeros32).box hm w
 obtain ⟨W, hW⟩ : ∃ W, Hid (w.alloc (.cells (Ms.plain 2 0 0 x zeros32).cells.toArray 109) = W) := ⟨_, hide rfl⟩
 rw [hW.out] at hB hs M
 have cK : W.cell? ⟨w.heap.size, 0, none⟩ = some (.int .i64 2) := M.k
 have cE : W.cell? ⟨w.heap.size, 1, none⟩ = some (.int .i64 0) := M.e
 have cL : W.cell? ⟨w.heap.size, 2, none⟩ = some (.int .i64 0) := M.l
 have cV : W.cell? ⟨w.heap.size, 3, none⟩ = some (.int .i64 0) := M.v
 have cS : W.cell? ⟨w.heap.size, 4, none⟩ = some (.int .i64 0) := M.s
 have cQ : W.cell? ⟨w.heap.size, 5, none⟩ = some (.bool false) := M.q
 have cR : W.cell? ⟨w.heap.size, 6, none⟩ = some (.slice none 0 0) := M.rs
 have c1 : W.cell? ⟨w.heap.size, 43, none⟩ = some (.int .i64 0) := M.ce
 have c2 : W.cell? ⟨w.heap.size, 44, none⟩ = some (.int .i64 0) := M.cl
 have c3 : W.cell? ⟨w.heap.size, 45, none⟩ = some (.int .i64 0) := M.cv
 have cH : W.cell? ⟨w.heap.size, 46, none⟩ = some (.slice none 0 0) := M.he
 have cN : W.cell? ⟨w.heap.size, 47, none⟩ = some (.slice none 0 0) := M.ne
 have cT : W.cell? ⟨w.heap.size, 117, none⟩ = some (.string ⟨#[]⟩) := M.st
 have cG : W.cell? ⟨w.heap.size, 118, none⟩ = some (.slice none 0 0) := M.sg
 have rV : W.rangeAt w.heap.size 7 x.cells := M.vt
 have ix : (Tryz.prog.info? 101).map (·.size) = some x.cells.length := by rw [hx.len]; exact iszV
 have i1 : inB 0 1048576 = true := rfl
 have i2 : inB 0 64 = true := rfl
 have i3 : inB 0 1099511627776 = true := rfl
 have i4 := i3
 have i5 := i3
 have cv := fun w0 => voteMay_any x w0
 generalize x.may = b at *
 generalize (Ms.plain 2 0 0 x zeros32).cells = q at *
 generalize x.cells = u at *
 clear hm M hx
 go_enter Tryz.func154, Tryz.ntmps154
 go_upto_region 1 with fail
 go_name_world w1 hw1
 obtain rfl : W = w1 := hW.out.symm.trans hw1
 clear hw1 hW
 go_upto_region 5 with (go_at_call 177; refine (within_any _ _ _).mono ?_; rintro e1 w1 ⟨rfl, hx⟩; obtain rfl := hx.symm; clear hx; (first | rw [i1] | rw [i2] | rw [i3] | rw [i4] | rw [i5]))
 go_wp2_with (refine wpList_load_g (by rfl) 101 _ rfl _ _ rfl u _ rV Tryz.underlying101 rfl ix ?_)
 refine (cv _).mono ?_
 rintro e2 w2 ⟨rfl, hb2⟩
 have up := fun i v (h : W.cell? ⟨w.heap.size, i, none⟩ = some v) => (hb2.cell (p := ⟨w.heap.size, i, none⟩) (show w.heap.size < W.heap.size by omega)).trans h
 replace cK := up _ _ cK
 replace cQ := up _ _ cQ
 replace cR := up _ _ cR
 replace c1 := up _ _ c1
 replace c2 := up _ _ c2
 replace c3 := up _ _ c3
 replace cH := up _ _ cH
 replace cN := up _ _ cN
 replace cT := up _ _ cT
 replace cG := up _ _ cG
 clear up
 replace hB := hB.trans (hb2.mono (by omega))
 replace hs := Nat.lt_of_lt_of_le hs hb2.size
 clear cE cL cV cS rV cv hb2
 cases b
 ·go_wp2
  go_ret
  exact ⟨rfl, hB⟩
 ·go_wp2_with fail
  refine (batMay0 false _).mono ?_
  rintro e3 w3 ⟨rfl, hb3⟩
  have up := fun i v (h : w2.cell? ⟨w.heap.size, i, none⟩ = some v) => (hb3.cell (p := ⟨w.heap.size, i, none⟩) (show w.heap.size < w2.heap.size by omega)).trans h
  replace c1 := up _ _ c1
  replace c2 := up _ _ c2
  replace c3 := up _ _ c3
  replace cH := up _ _ cH
  replace cN := up _ _ cN
  replace cT := up _ _ cT
  replace cG := up _ _ cG
  clear up
  have hs3 := Nat.lt_of_lt_of_le hs hb3.size
  have hB3 := hB.trans (hb3.mono (by omega))
  clear cQ cR hb3 hB hs
  go_wp2_with fail
  refine (chgMay0 _).mono ?_
  rintro e4 w4 ⟨rfl, hb4⟩
  have up := fun i v (h : w3.cell? ⟨w.heap.size, i, none⟩ = some v) => (hb4.cell (p := ⟨w.heap.size, i, none⟩) (show w.heap.size < w3.heap.size by omega)).trans h
  replace cN := up _ _ cN
  replace cT := up _ _ cT
  replace cG := up _ _ cG
  clear up
  have hs4 := Nat.lt_of_lt_of_le hs3 hb4.size
  have hB4 := hB3.trans (hb4.mono (by omega))
  clear c1 c2 c3 cH hb4 hB3 hs3
  go_wp2_with fail
  refine (amE0 _ _ (by omega) _).mono ?_
  rintro e5 w5 ⟨rfl, hx⟩
  obtain rfl := hx.symm
  clear hx cN
  go_wp2_with fail
  refine (sigMay0 _).mono ?_
  rintro e6 w6 ⟨rfl, hx⟩
  obtain rfl := hx.symm
  clear hx cT cG
  go_wp2_with fail
  go_ret
  exact ⟨rfl, hB4⟩
set_option maxRecDepth 100000 in
set_option maxHeartbeats 4000000 in
theorem good0 (q : List Value) (k : Int) (b : Bool) (w : World) (hq : q.length = 119) (h0 : q[0]? = some (.int .i64 k)) (h1 : 1 ≤ k) (h8 : k ≤ 8)
  (hb : ∀ w, Calls Tryz.prog 153 #[.agg q.toArray] w (BareOk w q))
  (hsm : ∀ w, Calls Tryz.prog 152 #[.agg q.toArray, .agg q.toArray] w fun e w' => e = .returned (.bool true) ∧ Below w.heap.size w w')
  (hf : ∀ w, Calls Tryz.prog 154 #[.agg q.toArray] w fun e w' => e = .returned (.bool b) ∧ Below w.heap.size w w') :
  Calls Tryz.prog 133 #[.agg q.toArray] w fun e w' => e = .returned (.bool b) ∧ Below w.heap.size w w' := by
 have hB : Below w.heap.size w (w.alloc (.cells q.toArray 109)) := (Below.refl _ _).alloc (Nat.le_refl _) _
 have hs : w.heap.size < (w.alloc (.cells q.toArray 109)).heap.size := by simp
 have hA : (w.alloc (.cells q.toArray 109)).rangeAt w.heap.size 0 q := by simpa using range_new w q.toArray 109
 have c0 := hA 0 _ h0
 simp only [Nat.add_zero] at c0
 have iq : (Tryz.prog.info? 109).map (·.size) = some q.length := by rw [hq]; exact iszM
 clear hq h0
 go_enter Tryz.func133, Tryz.ntmps133
 go_upto_region 2 with fail
 obtain ⟨w8, hw8⟩ : ∃ w8, (w.alloc (.cells q.toArray 109)).drew = w8 := ⟨_, rfl⟩
 have hB8 : Below w.heap.size w w8 := by rw [← hw8]; exact hB.drew
 have hA8 : w8.rangeAt w.heap.size 0 q := by rw [← hw8]; exact (World.rangeAt_drew _ _ _ _).2 hA
 have hs8 : w.heap.size < w8.heap.size := by rw [← hw8]; exact hs
 refine hs_begin (S := (Below w8.heap.size w8)) 12 rfl (by kernel_rfl) ?_
 rw [hw8]
 clear hw8 hA hB hs c0
 have hS : (Below w8.heap.size w8) w8 := Below.refl _ _
 refine hs_t 0 12 (?_) rfl (by kernel_rfl) (by kernel_rfl) (by kernel_rfl) (by rfl) ?_ hS rfl ?_
 rotate_left
 ·intro w' hw
  go_simp
  try with_reducible rfl
 simp only [nz]
 refine hs_t 1 13 (?_) rfl (by kernel_rfl) (by kernel_rfl) (by kernel_rfl) (by rfl) ?_ hS rfl ?_
 rotate_left
 ·intro w' hw
  go_simp
  try with_reducible rfl
 simp only [nz]
 refine hs_t 2 14 (.agg q.toArray) rfl (by kernel_rfl) (by kernel_rfl) (by kernel_rfl) (by rfl) (fun w' hw => exec_loadC rfl rfl (run_loadVar_mid (P := Tryz.prog) w' w.heap.size 0 109 q _ (range_below hA8 hw hs8) Tryz.underlying109 rfl iq)) hS rfl ?_
 simp only [nz]
 refine hs_t 3 15 (.agg q.toArray) rfl (by kernel_rfl) (by kernel_rfl) (by kernel_rfl) (by rfl) (fun w' hw => exec_loadC rfl rfl (run_loadVar_mid (P := Tryz.prog) w' w.heap.size 0 109 q _ (range_below hA8 hw hs8) Tryz.underlying109 rfl iq)) hS rfl ?_
 simp only [nz]
 refine hs_call (i := 4) (d := some 16) rfl (by kernel_rfl) (by rfl) (by go_simp; first | done | exact ⟨rfl, rfl⟩ | with_reducible rfl) rfl ?_
 refine (hb _).mono ?_
 rintro e' wn1 ⟨rfl, hb1⟩
 have hS : (Below w8.heap.size w8) wn1 := hS.trans (hb1.mono hS.size)
 refine ⟨_, rfl, hS, ?_⟩
 simp only [nz]
 refine hs_call (i := 5) (d := some 17) rfl (by kernel_rfl) (by rfl) (by go_simp; first | done | exact ⟨rfl, rfl⟩ | with_reducible rfl) rfl ?_
 refine (hsm _).mono ?_
 rintro e' wn2 ⟨rfl, hb2⟩
 have hS : (Below w8.heap.size w8) wn2 := hS.trans (hb2.mono hS.size)
 refine ⟨_, rfl, hS, ?_⟩
 simp only [nz]
 refine hs_t 6 18 (?_) rfl (by kernel_rfl) (by kernel_rfl) (by kernel_rfl) (by rfl) ?_ hS rfl ?_
 rotate_left
 ·intro w' hw
  go_simp
  try with_reducible rfl
 simp only [nz]
 refine hs_t 7 19 (?_) rfl (by kernel_rfl) (by kernel_rfl) (by kernel_rfl) (by rfl) ?_ hS rfl ?_
 rotate_left
 ·intro w' hw
  go_simp
  try with_reducible rfl
 simp only [nz]
 refine hs_t 8 20 (.agg q.toArray) rfl (by kernel_rfl) (by kernel_rfl) (by kernel_rfl) (by rfl) (fun w' hw => exec_loadC rfl rfl (run_loadVar_mid (P := Tryz.prog) w' w.heap.size 0 109 q _ (range_below hA8 hw hs8) Tryz.underlying109 rfl iq)) hS rfl ?_
 simp only [nz]
 refine hs_call (i := 9) (d := some 21) rfl (by kernel_rfl) (by rfl) (by go_simp; first | done | exact ⟨rfl, rfl⟩ | with_reducible rfl) rfl ?_
 refine (hf _).mono ?_
 rintro e' wn3 ⟨rfl, hb3⟩
 have hS : (Below w8.heap.size w8) wn3 := hS.trans (hb3.mono hS.size)
 refine ⟨_, rfl, hS, ?_⟩
 simp only [nz]
 refine hs_t 10 22 (?_) rfl (by kernel_rfl) (by kernel_rfl) (by kernel_rfl) (by rfl) ?_ hS rfl ?_
 rotate_left
 ·intro w' hw
  go_simp
  try with_reducible rfl
 simp only [nz]
 refine hs_t 11 2 (?_) rfl (by kernel_rfl) (by kernel_rfl) (by kernel_rfl) (by rfl) ?_ hS rfl ?_
 rotate_left
 ·intro w' hw
  go_simp
  try with_reducible rfl
 simp only [nz]
 refine hs_done (by kernel_rfl) ?_
 go_wp2
 go_ret
 exact ⟨rfl, hB8.trans (hS.mono (by omega))⟩
open Sha
def strOf (zs : List Int) : ByteArray := zs.foldl (fun r n => r.push (UInt8.ofNat n.toNat)) ByteArray.empty
theorem row_str {w : World} {b off cap : Nat} {zs : List Int} (h : w.rangeAt b off (v8 zs)) : (convert 135 9 (.slice (some ⟨b, off, none⟩) zs.length cap)).run Tryz.prog w = .ok (.string (strOf zs)) w := by
 rw [run_convert_bytes_string w 135 9 5 (some ⟨b, off, none⟩) zs.length cap Tryz.underlying135 Tryz.underlying5 Tryz.underlying9]
 have := run_loadCells_list (P := Tryz.prog) w ⟨b, off, none⟩ (v8 zs) (fun j v hv => by rw [Addr.add_mid]; exact h j v hv)
 rw [v8_length] at this
 exact run_bytesToString w ⟨b, off, none⟩ zs.length cap zs this
theorem nil_str (w : World) : (convert 135 9 (.slice none 0 0)).run Tryz.prog w = .ok (.string (strOf [])) w := by kernel_rfl
set_option maxRecDepth 100000 in
theorem mine_str {w : World} {B : Nat} {v : Value} {zs : List Int} (h : Mine w B v zs) : (convert 135 9 v).run Tryz.prog w = .ok (.string (strOf zs)) w := by
 rcases own_range h.1 with ⟨rfl, h0, _⟩ | ⟨g, cap, rfl, _, _, _, _, hr⟩
 ·have : zs = [] := List.eq_nil_of_length_eq_zero h0
  subst this
  exact nil_str w
 ·exact row_str hr
theorem wr_new (w : World) : WrAt (w.alloc (.cells #[.slice none 0 0, .bool false] 212)) w.heap.size (.slice none 0 0) [] false where
 lt := by simp
 c0 := by have := range_new w #[.slice none 0 0, .bool false] 212 0 _ rfl; exact this
 c1 := by have := range_new w #[.slice none 0 0, .bool false] 212 1 _ rfl; exact this
 th := there_new w #[.slice none 0 0, .bool false] 212
 me := ⟨World.ownsRow_nil _ _ _ _, by simp⟩
def encV (b : Bool) (zs : List Int) : Value := if b then .tuple #[.string (strOf zs), .int .i64 0] else .tuple #[.string ⟨#[]⟩, .int .i64 130]
def Writes (q : List Value) (zs : List Int) : Prop := ∀ (X : Nat) (w : World), WrAt w X (.slice none 0 0) [] false → Calls Tryz.prog 134 #[.pointer (some ⟨X, 0, none⟩), .agg q.toArray] w fun e w' => ∃ v', e = .returned (.tuple #[]) ∧ WrAt w' X v' zs false ∧ Off (WrF X (.slice none 0 0)) w w' ∧ RowOn w (.slice none 0 0) v'
set_option maxRecDepth 100000 in
set_option maxHeartbeats 4000000 in
theorem enc0 (q : List Value) (b : Bool) (zs : List Int) (w : World) (hq : q.length = 119)
  (hg : ∀ w, Calls Tryz.prog 133 #[.agg q.toArray] w fun e w' => e = .returned (.bool b) ∧ Below w.heap.size w w') (hw : b = true → Writes q zs) :
  Calls Tryz.prog 126 #[.agg q.toArray] w fun e w' => e = .returned (encV b zs) ∧ Below w.heap.size w w' := by
 have hB : Below w.heap.size w (w.alloc (.cells q.toArray 109)) := (Below.refl _ _).alloc (Nat.le_refl _) _
 have hs : w.heap.size < (w.alloc (.cells q.toArray 109)).heap.size := by simp
 have hA : (w.alloc (.cells q.toArray 109)).rangeAt w.heap.size 0 q := by simpa using range_new w q.toArray 109
 have iq : (Tryz.prog.info? 109).map (·.size) = some q.length := by rw [hq]; exact iszM
 clear hq
 cases b
 ·show Calls Tryz.prog 126 #[.agg q.toArray] w fun e w' => e = .returned (.tuple #[.string ⟨#[]⟩, .int .i64 130]) ∧ Below w.heap.size w w'
  clear hw
  go_enter Tryz.func126, Tryz.ntmps126
  go_upto_region 1 with fail
  go_name_world w1 hw1
  rw [show w.alloc (.cells q.toArray 109) = w1 from hw1] at hB hs hA
  clear hw1
  go_wp2_with (refine wpList_load_mid rfl 109 _ rfl _ _ rfl q _ hA Tryz.underlying109 rfl iq ?_)
  refine (hg _).mono ?_
  rintro e2 w2 ⟨rfl, hb2⟩
  have hB2 := hB.trans (hb2.mono (by omega))
  clear hA hg hB hb2
  go_wp2
  go_ret2
  exact ⟨rfl, hB2⟩
 ·show Calls Tryz.prog 126 #[.agg q.toArray] w fun e w' => e = .returned (.tuple #[.string (strOf zs), .int .i64 0]) ∧ Below w.heap.size w w'
  replace hw := hw rfl
  obtain ⟨sz, hsz⟩ : ∃ sz, Hid (strOf zs = sz) := ⟨_, hide rfl⟩
  rw [hsz.out]
  go_enter Tryz.func126, Tryz.ntmps126
  go_upto_region 1 with fail
  go_name_world w1 hw1
  rw [show w.alloc (.cells q.toArray 109) = w1 from hw1] at hB hs hA
  clear hw1
  go_wp2_with (refine wpList_load_mid rfl 109 _ rfl _ _ rfl q _ hA Tryz.underlying109 rfl iq ?_)
  refine (hg _).mono ?_
  rintro e2 w2 ⟨rfl, hb2⟩
  have hB2 := hB.trans (hb2.mono (by omega))
  have hA2 := range_below hA hb2 hs
  have hs2 := Nat.lt_of_lt_of_le hs hb2.size
  clear hA hg hB hb2 hs
  go_upto_region 4 with fail
  have hN := wr_new w2
  have hB3 : Below w2.heap.size w2 (w2.alloc (.cells #[.slice none 0 0, .bool false] 212)) := (Below.refl _ _).alloc (Nat.le_refl _) _
  go_name_world w3 hw3
  rw [show w2.alloc (.cells #[.slice none 0 0, .bool false] 212) = w3 from hw3] at hN hB3
  clear hw3
  have hA3 := range_below hA2 hB3 hs2
  have hB4 := hB2.trans (hB3.mono (by omega))
  have cw := hw w2.heap.size w3 hN
  have hs3 := hN.lt
  clear hA2 hB2 hB3 hw hN
  go_wp2_with (refine wpList_load_mid rfl 109 _ rfl _ _ rfl q _ hA3 Tryz.underlying109 rfl iq ?_)
  refine cw.mono ?_
  rintro e5 w5 ⟨v5, rfl, hW5, hO5, _⟩
  have c0 := hW5.c0
  have c1 := hW5.c1
  have hcs := mine_str hW5.me
  have hB5 := hB4.trans (hO5.below (n := w.heap.size) (by omega) (fun b hb hf => by
   rcases hf with hf | hf
   ·omega
   ·cases hf))
  obtain ⟨a5, cap5, rfl⟩ : ∃ a cap, v5 = .slice a zs.length cap := by
   rcases own_range hW5.me.1 with ⟨rfl, h0, _⟩ | ⟨g, cap, rfl, _⟩
   ·exact ⟨none, 0, by rw [h0]⟩
   ·exact ⟨_, cap, rfl⟩
  rw [hsz.out] at hcs
  clear hsz cw hW5 hO5 hA3 hB4
  go_wp2
  go_ret2
  exact ⟨rfl, hB5⟩
theorem wrS_ok {zs bs : List Int} (h : zs.length + bs.length ≤ 4194304) : wrS (zs, false) bs = (zs ++ bs, false) := by
 have e : fullB false bs.length zs = false := by
  unfold fullB
  rw [Bool.false_or]
  exact decide_eq_false (by omega)
 unfold wrS
 simp only [e, wrL_f]
theorem putL_len {n : Int} (h : n ≤ 9223372036854775807) : (putL n).length ≤ 9 := putL_length n (by omega)
theorem wrN1 {zs : List Int} {a : Int} (ha : a ≤ 9223372036854775807) (hz : zs.length ≤ 1000) : wrN (zs, false) [a] = (zs ++ putL a, false) := by
 have := putL_len ha
 show wrS (zs, false) (putL a) = _
 rw [wrS_ok (by omega)]
theorem wrN4 {zs : List Int} {a b c d : Int} (ha : a ≤ 9223372036854775807) (hb : b ≤ 9223372036854775807) (hc : c ≤ 9223372036854775807) (hd : d ≤ 9223372036854775807) (hz : zs.length ≤ 1000) : wrN (zs, false) [a, b, c, d] = (zs ++ putL a ++ putL b ++ putL c ++ putL d, false) := by
 have h1 := putL_len ha
 have h2 := putL_len hb
 have h3 := putL_len hc
 have h4 := putL_len hd
 show wrS (wrS (wrS (wrS (zs, false) (putL a)) (putL b)) (putL c)) (putL d) = _
 rw [wrS_ok (by omega), wrS_ok (by rw [List.length_append]; omega), wrS_ok (by simp only [List.length_append]; omega), wrS_ok (by simp only [List.length_append]; omega)]
def voteL (x : Vt) : List Int := putL 2 ++ putL x.k ++ putL x.e ++ putL x.v ++ putL x.s ++ x.d
theorem writes2 {x : Vt} (hx : x.ok) : Writes (Ms.plain 2 0 0 x zeros32).cells (voteL x) := fun X w h => by
 have := wmsg2 X (.slice none 0 0) ([], false) (Ms.plain 2 0 0 x zeros32) w (plain_ok2 hx) rfl h (by simp)
 have e : wrS (wrN (wrN ([], false) [2]) [x.k, x.e, x.v, x.s]) x.d = (voteL x, false) := by
  have p := @putL_len 2 (by omega)
  have h1 := putL_len hx.k
  have h2 := putL_len hx.e
  have h3 := putL_len hx.v
  have h4 := putL_len hx.s
  have h5 := hx.dl
  rw [wrN1 (by omega) (by simp), List.nil_append, wrN4 hx.k hx.e hx.v hx.s (by omega), wrS_ok (by simp only [List.length_append]; omega)]
  rfl
 show Calls _ _ _ w _
 have e1 : (wrS (wrN (wrN ([], false) [2]) [(Ms.plain 2 0 0 x zeros32).vt.k, (Ms.plain 2 0 0 x zeros32).vt.e, (Ms.plain 2 0 0 x zeros32).vt.v, (Ms.plain 2 0 0 x zeros32).vt.s]) (Ms.plain 2 0 0 x zeros32).vt.d) = (voteL x, false) := e
 rw [e1] at this
 exact this
theorem good2 (x : Vt) (hx : x.ok) (w : World) : Calls Tryz.prog 133 #[.agg (Ms.plain 2 0 0 x zeros32).cells.toArray] w fun e w' => e = .returned (.bool x.may) ∧ Below w.heap.size w w' :=
 good0 _ 2 x.may w (plain_ok2 hx).len rfl (by omega) (by omega) (fun w => bare2 x hx w) (fun w => msame0 2 0 0 x zeros32 hx zeros32_len zeros32_byte w) (fun w => fmay2 x hx w)
theorem enc2 (x : Vt) (hx : x.ok) (w : World) : Calls Tryz.prog 126 #[.agg (Ms.plain 2 0 0 x zeros32).cells.toArray] w fun e w' => e = .returned (encV x.may (voteL x)) ∧ Below w.heap.size w w' :=
 enc0 _ _ _ w (plain_ok2 hx).len (fun w => good2 x hx w) (fun _ => writes2 hx)
def optS (b : Bool) (zs : List Int) : ByteArray := if b then strOf zs else ⟨#[]⟩
theorem encV_opt (b : Bool) (zs : List Int) : ∃ n : Int, encV b zs = .tuple #[.string (optS b zs), .int .i64 n] := by
 cases b
 ·exact ⟨130, rfl⟩
 ·exact ⟨0, rfl⟩
set_option maxRecDepth 100000 in
set_option maxHeartbeats 2000000 in
theorem bytesOf0 (q : List Value) (b : Bool) (zs : List Int) (w : World) (hq : q.length = 119) (he : ∀ w, Calls Tryz.prog 126 #[.agg q.toArray] w fun e w' => e = .returned (encV b zs) ∧ Below w.heap.size w w') :
  Calls Tryz.prog 107 #[.agg q.toArray] w fun e w' => e = .returned (.string (optS b zs)) ∧ Below w.heap.size w w' := by
 have hB : Below w.heap.size w (w.alloc (.cells q.toArray 109)) := (Below.refl _ _).alloc (Nat.le_refl _) _
 have hA : (w.alloc (.cells q.toArray 109)).rangeAt w.heap.size 0 q := by simpa using range_new w q.toArray 109
 have iq : (Tryz.prog.info? 109).map (·.size) = some q.length := by rw [hq]; exact iszM
 obtain ⟨n, hn⟩ := encV_opt b zs
 rw [hn] at he
 clear hq hn
 generalize optS b zs = sz at *
 go_enter Tryz.func107, Tryz.ntmps107
 go_upto_region 1 with fail
 go_name_world w1 hw1
 rw [show w.alloc (.cells q.toArray 109) = w1 from hw1] at hB hA
 clear hw1
 go_wp2_with (refine wpList_load_mid rfl 109 _ rfl _ _ rfl q _ hA Tryz.underlying109 rfl iq ?_)
 refine (he _).mono ?_
 rintro e2 w2 ⟨rfl, hb2⟩
 have hB2 := hB.trans (hb2.mono hB.size)
 clear hA he hB hb2
 go_wp2
 go_ret
 exact ⟨rfl, hB2⟩
set_option maxRecDepth 100000 in
set_option maxHeartbeats 2000000 in
theorem vote13_any (x : Vt) (hx : x.ok) (w : World) : Calls Tryz.prog 73 #[.agg x.cells.toArray] w fun e w' => e = .returned (.string (optS x.may (voteL x))) ∧ Below w.heap.size w w' := by
 have hB : Below w.heap.size w (w.alloc (.cells x.cells.toArray 101)) := (Below.refl _ _).alloc (Nat.le_refl _) _
 have hA := Vt.box w x
 have ix : (Tryz.prog.info? 101).map (·.size) = some x.cells.length := by rw [hx.len]; exact iszV
 have hb := build_vote x hx
 have cb := fun w => bytesOf0 _ _ _ w (plain_ok2 hx).len (fun w => enc2 x hx w)
 clear hx
 generalize optS x.may (voteL x) = sz at *
 generalize (Ms.plain 2 0 0 x zeros32).cells = q at *
 generalize x.cells = u at *
 go_enter Tryz.func73, Tryz.ntmps73
 go_upto_region 1 with fail
 go_name_world w1 hw1
 rw [show w.alloc (.cells u.toArray 101) = w1 from hw1] at hB hA
 clear hw1
 go_wp2_with (first | (refine wpList_load_mid rfl 101 _ rfl _ _ rfl u _ hA Tryz.underlying101 rfl ix ?_) | (refine wpList_build rfl 109 [(0, .const (.int .i64 2)), (6, .tmp 3)] rfl [(0, .int .i64 2), (6, .agg u.toArray)] _ rfl (hb _) ?_))
 refine (cb _).mono ?_
 rintro e2 w2 ⟨rfl, hb2⟩
 have hB2 := hB.trans (hb2.mono hB.size)
 clear hA cb hB hb2
 go_wp2
 go_ret
 exact ⟨rfl, hB2⟩
theorem voteL_len {x : Vt} (hx : x.ok) : (voteL x).length ≤ 1000 := by
 have p := @putL_len 2 (by omega)
 have h1 := putL_len hx.k
 have h2 := putL_len hx.e
 have h3 := putL_len hx.v
 have h4 := putL_len hx.s
 have h5 := hx.dl
 simp only [voteL, List.length_append]
 omega
theorem row_mine {w : World} {a : Option Addr} {zs : List Int} (h : RowAt w a zs) (cap : Nat) : (convert 135 9 (.slice a zs.length cap)).run Tryz.prog w = .ok (.string (strOf zs)) w := by
 rcases h.2.2 with rfl | ⟨b, off, rfl, _, hr⟩
 ·rw [List.length_nil, run_convert_bytes_string w 135 9 5 a 0 cap Tryz.underlying135 Tryz.underlying5 Tryz.underlying9]
  cases a <;> rfl
 ·exact row_str hr
def RdE (w : World) (R : Nat) (e : Int) : Prop :=
 R < w.heap.size ∧ (∃ a n c, w.cell? ⟨R, 0, none⟩ = some (.slice a n c)) ∧ w.cell? ⟨R, 1, none⟩ = some (.bool true) ∧ w.cell? ⟨R, 2, none⟩ = some (.int .i64 e) ∧
 w.frozen? ⟨R, 0, none⟩ = false ∧ w.frozen? ⟨R, 1, none⟩ = false ∧ w.frozen? ⟨R, 2, none⟩ = false
def Rest (w : World) (R : Nat) (rest : List Int) : Prop :=
 ∃ a cap, w.cell? ⟨R, 0, none⟩ = some (.slice a rest.length cap) ∧ rest.length ≤ cap ∧ cap ≤ maxLen ∧ RowAt w a rest ∧ ∀ x, a = some x → x.block < R
def St (w : World) (R : Nat) (rest : List Int) (e : Int) : Prop := RdE w R e ∧ (e = 0 → Rest w R rest)
theorem RdE.set0 {w : World} {R : Nat} {e : Int} (h : RdE w R e) (a : Option Addr) (n c : Nat) : RdE (w.setCell ⟨R, 0, none⟩ (.slice a n c)) R e := by
 obtain ⟨hR, ⟨a', n', c', h0⟩, h1, h2, f0, f1, f2⟩ := h
 refine ⟨by simpa [World.setCell] using hR, ⟨a, n, c, World.cell?_setCell_same _ _ _ h0⟩, (World.cell?_setCell_other _ _ _ _ (by simp)).trans h1, (World.cell?_setCell_other _ _ _ _ (by simp)).trans h2,
  (World.frozen?_setCell _ _ _ _).trans f0, (World.frozen?_setCell _ _ _ _).trans f1, (World.frozen?_setCell _ _ _ _).trans f2⟩
theorem RdE.set2 {w : World} {R : Nat} {e : Int} (h : RdE w R e) (e' : Int) : RdE (w.setCell ⟨R, 2, none⟩ (.int .i64 e')) R e' := by
 obtain ⟨hR, ⟨a', n', c', h0⟩, h1, h2, f0, f1, f2⟩ := h
 refine ⟨by simpa [World.setCell] using hR, ⟨a', n', c', (World.cell?_setCell_other _ _ _ _ (by simp)).trans h0⟩, (World.cell?_setCell_other _ _ _ _ (by simp)).trans h1, World.cell?_setCell_same _ _ _ h2,
  (World.frozen?_setCell _ _ _ _).trans f0, (World.frozen?_setCell _ _ _ _).trans f1, (World.frozen?_setCell _ _ _ _).trans f2⟩
theorem RowAt.get {w : World} {a : Option Addr} {zs : List Int} (h : RowAt w a zs) (k : Nat) (hk : k < zs.length) : ∃ b off, a = some ⟨b, off, none⟩ ∧ b < w.heap.size ∧ w.cell? ⟨b, off + k, none⟩ = some (.int .u8 (zs.getD k 0)) ∧ 0 ≤ zs.getD k 0 ∧ zs.getD k 0 < 256 := by
 rcases h.2.2 with rfl | ⟨b, off, rfl, hb, hr⟩
 ·simp at hk
 ·refine ⟨b, off, rfl, hb, get8 hr hk, ?_⟩
  rw [List.getD_eq_getElem?_getD, List.getElem?_eq_getElem hk]
  exact h.2.1 _ (List.getElem_mem hk)
theorem cutA_lt {a : Option Addr} {R cap n : Nat} (h : ∀ x, a = some x → x.block < R) : ∀ x, cutA a cap n = some x → x.block < R := by
  intro x hx
  unfold cutA at hx
  split at hx
  · exact h x hx
  · cases a with
    | none => simp at hx
    | some y =>
      simp only [Option.map_some, Option.some.injEq] at hx
      subst hx
      have := h y rfl
      unfold Addr.add
      split <;> exact this
theorem lt_ne {a : Option Addr} {R : Nat} (h : ∀ x, a = some x → x.block < R) : ∀ x, a = some x → x.block ≠ R := fun x hx => Nat.ne_of_lt (h x hx)
theorem err_made (R : Nat) (e : Int) (w : World) (h : RdE w R e) :
  Calls Tryz.prog 94 #[.pointer (some ⟨R, 0, none⟩)] w fun en w' => en = .returned (.int .i64 e) ∧ w' = w := by
 obtain ⟨hR, ⟨a, n, c, h0⟩, h1, h2, f0, f1, f2⟩ := h
 go_enter Tryz.func94, Tryz.ntmps94
 go_wp2
 go_ret
 exact ⟨rfl, rfl⟩
theorem left_any (R : Nat) (a : Option Addr) (n c : Nat) (w : World) (h0 : w.cell? ⟨R, 0, none⟩ = some (.slice a n c)) :
  Calls Tryz.prog 105 #[.pointer (some ⟨R, 0, none⟩)] w fun en w' => en = .returned (.int .i64 (n : Int)) ∧ w' = w := by
 go_enter Tryz.func105, Tryz.ntmps105
 go_wp2
 go_ret
 exact ⟨rfl, rfl⟩
set_option maxHeartbeats 400000 in
theorem take_any (R : Nat) (a : Option Addr) (n len c : Nat) (w : World) (h0 : w.cell? ⟨R, 0, none⟩ = some (.slice a len c)) (f0 : w.frozen? ⟨R, 0, none⟩ = false) (hn : n ≤ len) (hc : len ≤ c) (hm : c ≤ maxLen) :
  Calls Tryz.prog 121 #[.pointer (some ⟨R, 0, none⟩), .int .i64 (n : Int)] w fun en w' => en = .returned (.slice a n c) ∧ w' = w.setCell ⟨R, 0, none⟩ (.slice (cutA a c n) (len - n) (c - n)) := by
 unfold maxLen at hm
 by_cases h : c = n
 ·subst h
  obtain rfl : len = c := by omega
  go_enter Tryz.func121, Tryz.ntmps121
  go_wp2
  go_ret
  exact ⟨rfl, by simp [cutA]⟩
 ·go_enter Tryz.func121, Tryz.ntmps121
  go_wp2
  go_ret
  exact ⟨rfl, by simp [cutA, h]⟩
set_option maxHeartbeats 400000 in
theorem fail_any (R : Nat) (e0 e : Int) (w : World) (h : RdE w R e0) :
  Calls Tryz.prog 96 #[.pointer (some ⟨R, 0, none⟩), .int .i64 e] w fun en w' => en = .returned (.tuple #[]) ∧ RdE w' R e ∧ w.grownBy w' (some R) := by
 have hE := (h.set2 e).set0 none 0 0
 have hg := gb_trans (gb_set w R 2 (.int .i64 e)) (gb_set (w.setCell ⟨R, 2, none⟩ (.int .i64 e)) R 0 (.slice none 0 0))
 obtain ⟨hR, ⟨a, n, c, h0⟩, h1, h2, f0, f1, f2⟩ := h
 go_enter Tryz.func96, Tryz.ntmps96
 go_wp2
 go_end0
 exact ⟨rfl, hE, hg⟩
theorem val_bound (l : List Int) (h : ∀ z ∈ l, 0 ≤ z ∧ z < 256) : 0 ≤ val l ∧ val l < 256 ^ l.length := by
  have : ∀ k, k ≤ l.length → 0 ≤ val (l.take k) ∧ val (l.take k) < 256 ^ k := by
    intro k
    induction k with
    | zero => intro _; simp [val]
    | succ k ih =>
      intro hk
      have hlt : k < l.length := by omega
      obtain ⟨i1, i2⟩ := ih (by omega)
      have hz := h l[k] (List.getElem_mem hlt)
      rw [List.take_succ_eq_append_getElem hlt, val_snoc, Int.pow_succ]
      omega
  have := this l.length (Nat.le_refl _)
  rwa [List.take_length] at this
theorem val_take (l : List Int) (k : Nat) (h : k < l.length) : val (l.take (k + 1)) = val (l.take k) * 256 + l.getD k 0 := by
 rw [List.take_succ_eq_append_getElem h, val_snoc, List.getD_eq_getElem?_getD, List.getElem?_eq_getElem h]; rfl
theorem or_join (x d : Int) (h0 : 0 ≤ x) (h1 : x < 72057594037927936) (h2 : 0 ≤ d) (h3 : d < 256) : bits .or .u64 (x * 256) d = x * 256 + d := by
 obtain ⟨m, rfl⟩ := Int.eq_ofNat_of_zero_le h0
 obtain ⟨q, rfl⟩ := Int.eq_ofNat_of_zero_le h2
 have e : ((m : Int) * 256) = ((m * 256 : Nat) : Int) := by omega
 rw [e, u64_or_nat _ _ (by omega) (by omega), nat_join 8 _ _ (by omega) (by omega)]
 omega
def valR (ds : List Int) : Int × Int := if ds.head? = some 0 ∨ 9223372036854775807 < val ds then (0, 11) else (val ds, 0)
set_option maxHeartbeats 800000 in
theorem value_any (a : Option Addr) (cap : Nat) (ds : List Int) (w : World) (h : RowAt w a ds) (hl : ds.length ≤ 8) :
    Calls Tryz.prog 122 #[.slice a ds.length cap] w fun en w' => en = .returned (.tuple #[.int .i64 (valR ds).1, .int .i64 (valR ds).2]) ∧ w' = w := by
  by_cases hh : ds.head? = some 0
  · have HV : Hid (valR ds = (0, 11)) := by show _ = _; simp [valR, hh]
    obtain ⟨tl, rfl⟩ : ∃ tl, ds = 0 :: tl := by
      cases ds with
      | nil => simp at hh
      | cons x tl => simp at hh; exact ⟨tl, by rw [hh]⟩
    obtain ⟨b, off, rfl, hb, hc, _⟩ := h.get 0 (by simp)
    have hc' : w.cell? ⟨b, off, none⟩ = some (.int .u8 0) := by simpa using hc
    have hp : (0 : Int) < ((0 :: tl : List Int).length : Int) := by simp
    generalize (0 :: tl : List Int) = ds at *
    go_enter Tryz.func122, Tryz.ntmps122
    go_wp2
    go_ret2
    rw [HV.out]
    exact ⟨rfl, rfl⟩
  · have hz := h.2.1
    have hstart : ds = [] ∨ ∃ b off z, a = some ⟨b, off, none⟩ ∧ w.cell? ⟨b, off, none⟩ = some (.int .u8 z) ∧ (z == 0) = false ∧ 0 < ds.length := by
      cases ds with
      | nil => exact Or.inl rfl
      | cons x tl =>
        obtain ⟨b, off, rfl, hb, hc, _⟩ := h.get 0 (by simp)
        exact Or.inr ⟨b, off, x, rfl, by simpa using hc, by simpa using hh, by simp⟩
    have hval := val_bound ds hz
    rcases hstart with rfl | ⟨b, off, z0, rfl, hc0, hne, hpos⟩
    · go_enter Tryz.func122, Tryz.ntmps122
      go_wp2
      refine wp_loop_rounds 1 ?_
      rw [rounds_succ]
      go_wp2
      go_ret2
      exact ⟨rfl, rfl⟩
    · have hp : (0 : Int) < (ds.length : Int) := by omega
      have hc : ∀ j, j < ds.length → w.cell? ⟨b, off + j, none⟩ = some (.int .u8 (ds.getD j 0)) := by
        obtain ⟨_, _, hd | ⟨b', off', hx, _, hc⟩⟩ := h
        · rw [hd] at hpos; simp at hpos
        · simp only [Option.some.injEq, Addr.mk.injEq] at hx
          obtain ⟨rfl, rfl, _⟩ := hx
          exact fun j hj => get8 hc hj
      have HC : Hid (∀ j, j < ds.length → w.cell? ⟨b, off + j, none⟩ = some (.int .u8 (ds.getD j 0))) := hc
      have HR : Hid (valR ds = if 9223372036854775807 < val ds then (0, 11) else (val ds, 0)) := by show _ = _; simp [valR, hh]
      clear hc h hh
      go_enter Tryz.func122, Tryz.ntmps122
      go_wp2
      go_loop [4, 17] (fun n i => ∃ k : Nat, k ≤ ds.length ∧ i = .int .i64 k ∧ n = .int .u64 (val (ds.take k))) (fun _ i => ds.length - (intOf i).toNat)
      case atStart => exact ⟨0, by omega, rfl, rfl⟩
      case round =>
        obtain ⟨k, hk, rfl, rfl⟩ := hrel
        by_cases hlt : k < ds.length
        · obtain ⟨z, hcx, hz0, hz1, HV⟩ : ∃ z, w.cell? ⟨b, off + k, none⟩ = some (.int .u8 z) ∧ 0 ≤ z ∧ z < 256 ∧ Hid (val (ds.take (k + 1)) = val (ds.take k) * 256 + z) := by
            refine ⟨ds.getD k 0, HC.out k hlt, ?_, ?_, val_take ds k hlt⟩ <;> rw [List.getD_eq_getElem?_getD, List.getElem?_eq_getElem hlt]
            · exact (hz _ (List.getElem_mem hlt)).1
            · exact (hz _ (List.getElem_mem hlt)).2
          have hb7 : 0 ≤ val (ds.take k) ∧ val (ds.take k) < 72057594037927936 := by
            have := val_bound (ds.take k) (fun z hz' => hz z (List.mem_of_mem_take hz'))
            rw [List.length_take_of_le (by omega)] at this
            have h7 : 256 ^ k ≤ 72057594037927936 := Nat.le_trans (Nat.pow_le_pow_right (by omega) (show k ≤ 7 by omega)) (by decide)
            have e7 : ((256 ^ k : Nat) : Int) = (256 : Int) ^ k := Int.natCast_pow 256 k
            rw [← e7] at this
            omega
          obtain ⟨hx0, hx1⟩ := hb7
          have ej := or_join (val (ds.take k)) z hx0 hx1 hz0 hz1
          generalize val (ds.take k) = X at *
          go_wp2
          go_round
          case rel => exact ⟨k + 1, by omega, by go_num, by rw [HV.out]⟩
          case measure => simp [intOf]; omega
        · obtain rfl : k = ds.length := by omega
          rw [List.take_length]
          by_cases hbig : 9223372036854775807 < val ds
          · go_wp2
            go_ret2
            rw [HR.out, if_pos hbig]
            exact ⟨rfl, rfl⟩
          · go_wp2
            go_ret2
            rw [HR.out, if_neg (by omega)]
            exact ⟨rfl, rfl⟩
def numR : List Int → Int × Nat × Int
  | [] => (0, 0, 10)
  | k :: tl => if 8 < k then (0, 0, 11) else if (tl.length : Int) < k then (0, 0, 10) else
      if (valR (tl.take k.toNat)).2 = 0 then ((valR (tl.take k.toNat)).1, 1 + k.toNat, 0) else (0, 0, (valR (tl.take k.toNat)).2)
theorem valR_err (ds : List Int) (h : (valR ds).2 ≠ 0) : valR ds = (0, 11) := by
 unfold valR at h ⊢
 split
 ·rfl
 ·rename_i hh; rw [if_neg hh] at h; exact absurd rfl h
theorem Rest.cell {w : World} {R : Nat} {rest : List Int} (h : Rest w R rest) : ∃ a cap, w.cell? ⟨R, 0, none⟩ = some (.slice a rest.length cap) ∧ rest.length ≤ cap ∧ cap ≤ maxLen ∧ RowAt w a rest ∧ ∀ x, a = some x → x.block < R := h
set_option maxHeartbeats 1600000 in
theorem number_any (R : Nat) (e0 : Int) (rest : List Int) (w : World) (hE : RdE w R e0) (hR : Rest w R rest) :
  Calls Tryz.prog 95 #[.pointer (some ⟨R, 0, none⟩)] w fun en w' => en = .returned (.tuple #[.int .i64 (numR rest).1, .int .i64 (numR rest).2.2]) ∧ RdE w' R e0 ∧ w.grownBy w' (some R) ∧ ((numR rest).2.2 = 0 → Rest w' R (rest.drop (numR rest).2.1)) := by
 obtain ⟨a, cap, h0, hc, hm, hrow, hlt⟩ := hR
 have hne := lt_ne hlt
 have f0 := hE.2.2.2.2.1
 cases rest with
 | nil =>
  have h0' : w.cell? ⟨R, 0, none⟩ = some (.slice a 0 cap) := h0
  go_enter Tryz.func95, Tryz.ntmps95
  go_wp2_with fail
  refine (left_any R a 0 cap w h0').mono ?_
  rintro e w1 ⟨rfl, rfl⟩
  go_wp2
  go_ret2
  exact ⟨rfl, hE, gb_refl _ _, fun h => by cases h⟩
 | cons k tl =>
  obtain ⟨b, off, rfl, hb, hcb, hk0, hk1⟩ := hrow.get 0 (by simp)
  have hk : (k :: tl).getD 0 0 = k := rfl
  rw [hk] at hcb hk0 hk1
  have hbR : b ≠ R := hne _ rfl
  have hcb1 : (w.setCell ⟨R, 0, none⟩ (.slice (cutA (some ⟨b, off, none⟩) cap 1) ((k :: tl).length - 1) (cap - 1))).cell? ⟨b, off, none⟩ = some (.int .u8 k) :=
   (World.cell?_setCell_other _ _ _ _ (by intro hx; injection hx with hx1; exact hbR hx1.symm)).trans (by simpa using hcb)
  have hE1 := hE.set0 (cutA (some ⟨b, off, none⟩) cap 1) ((k :: tl).length - 1) (cap - 1)
  have hg1 := gb_set w R 0 (.slice (cutA (some ⟨b, off, none⟩) cap 1) ((k :: tl).length - 1) (cap - 1))
  have hr1 := (hrow.drop 1 cap (by simp) hc).gb hg1 (.inr (cutA_ne hne))
  have h01 : (w.setCell ⟨R, 0, none⟩ (.slice (cutA (some ⟨b, off, none⟩) cap 1) ((k :: tl).length - 1) (cap - 1))).cell? ⟨R, 0, none⟩ = some (.slice (cutA (some ⟨b, off, none⟩) cap 1) ((k :: tl).length - 1) (cap - 1)) := World.cell?_setCell_same _ _ _ h0
  have hlen : (k :: tl).length - 1 = tl.length := by simp
  rw [hlen] at hE1 hg1 hr1 h01 hcb1
  generalize hW1 : w.setCell ⟨R, 0, none⟩ (.slice (cutA (some ⟨b, off, none⟩) cap 1) tl.length (cap - 1)) = W1 at *
  have c1 := take_any R (some ⟨b, off, none⟩) 1 (k :: tl).length cap w h0 f0 (by simp) hc hm
  rw [hlen, hW1] at c1
  have HW1 : Hid (w.setCell ⟨R, 0, none⟩ (.slice (cutA (some ⟨b, off, none⟩) cap 1) tl.length (cap - 1)) = W1) := hW1
  clear hW1
  have hpos : (((k :: tl).length : Int) == 0) = false := by simp; omega
  have hnm := cutA_ne (cap := cap) (n := 1) hne
  have hltm := cutA_lt (cap := cap) (n := 1) hlt
  generalize hA1 : cutA (some ⟨b, off, none⟩) cap 1 = A1 at *
  clear hA1
  have cl := left_any R (some ⟨b, off, none⟩) (k :: tl).length cap w h0
  go_enter Tryz.func95, Tryz.ntmps95
  go_wp2_with fail
  refine cl.mono ?_
  rintro e w1 ⟨rfl, rfl⟩
  clear cl
  go_wp2_with fail
  refine c1.mono ?_
  rintro e w2 ⟨rfl, rfl⟩
  clear c1
  by_cases hk8 : 8 < k
  ·have HN : Hid (numR (k :: tl) = (0, 0, 11)) := by show _ = _; simp [numR, hk8]
   go_wp2_with fail
   go_ret2
   rw [HN.out]
   exact ⟨rfl, hE1, hg1, fun h => by cases h⟩
  ·by_cases hkl : (tl.length : Int) < k
   ·have HN : Hid (numR (k :: tl) = (0, 0, 10)) := by show _ = _; simp [numR, hk8, hkl]
    go_wp2_with fail
    refine (left_any R A1 tl.length (cap - 1) w2 h01).mono ?_
    rintro e w3 ⟨rfl, rfl⟩
    go_wp2_with fail
    go_ret2
    rw [HN.out]
    exact ⟨rfl, hE1, hg1, fun h => by cases h⟩
   ·obtain ⟨q, hqk⟩ : ∃ q : Nat, k.toNat = q := ⟨_, rfl⟩
    have hkq : (q : Int) = k := by omega
    have hq : q ≤ tl.length := by omega
    have hcl : tl.length ≤ cap - 1 := by simp at hc; omega
    have c2 := take_any R A1 q tl.length (cap - 1) w2 h01 hE1.2.2.2.2.1 hq hcl (by omega)
    rw [hkq] at c2
    have hE2 := hE1.set0 (cutA A1 (cap - 1) q) (tl.length - q) (cap - 1 - q)
    have hg2 := gb_set w2 R 0 (.slice (cutA A1 (cap - 1) q) (tl.length - q) (cap - 1 - q))
    have hr1' : RowAt w2 A1 tl := by simpa using hr1
    have hr2 := (hr1'.take q).gb hg2 (.inr hnm)
    have hr3 := (hr1'.drop q (cap - 1) hq hcl)
    have h02 : (w2.setCell ⟨R, 0, none⟩ (.slice (cutA A1 (cap - 1) q) (tl.length - q) (cap - 1 - q))).cell? ⟨R, 0, none⟩ = some (.slice (cutA A1 (cap - 1) q) (tl.length - q) (cap - 1 - q)) := World.cell?_setCell_same _ _ _ h01
    have hRest : Rest (w2.setCell ⟨R, 0, none⟩ (.slice (cutA A1 (cap - 1) q) (tl.length - q) (cap - 1 - q))) R (tl.drop q) := by
     refine ⟨cutA A1 (cap - 1) q, cap - 1 - q, by rw [List.length_drop]; exact h02, by rw [List.length_drop]; omega, by omega, ?_, ?_⟩
     ·exact hr3.gb hg2 (.inr (cutA_ne hnm))
     ·exact cutA_lt hltm
    generalize w2.setCell ⟨R, 0, none⟩ (.slice (cutA A1 (cap - 1) q) (tl.length - q) (cap - 1 - q)) = W2 at *
    have hqt : (tl.take q).length = q := List.length_take_of_le hq
    have c3 := value_any A1 (cap - 1) (tl.take q) W2 hr2 (by omega)
    rw [hqt] at c3
    have HN : Hid (numR (k :: tl) = if (valR (tl.take q)).2 = 0 then ((valR (tl.take q)).1, 1 + q, 0) else (0, 0, (valR (tl.take q)).2)) := by
     show _ = _
     simp only [numR, if_neg hk8, if_neg hkl, hqk]
    clear hr1 hr2 hr3 hqt hqk hkq
    go_wp2_with fail
    refine (left_any R A1 tl.length (cap - 1) w2 h01).mono ?_
    rintro e w3 ⟨rfl, rfl⟩
    go_wp2_with fail
    refine c2.mono ?_
    rintro e w4 ⟨rfl, rfl⟩
    clear c2
    go_wp2_with fail
    refine c3.mono ?_
    rintro e w5 ⟨rfl, rfl⟩
    clear c3
    go_wp2_with fail
    go_ret2
    refine ⟨?_, hE2, gb_trans hg1 hg2, ?_⟩
    ·rw [HN.out]
     by_cases hv : (valR (tl.take q)).2 = 0
     ·rw [if_pos hv, hv]; exact rfl
     ·rw [if_neg hv, valR_err _ hv]; exact rfl
    ·rw [HN.out]
     by_cases hv : (valR (tl.take q)).2 = 0
     ·rw [if_pos hv]; intro _; rw [Nat.add_comm]; exact hRest
     ·rw [if_neg hv]; intro h; exact absurd h hv
def numS (rest : List Int) (e most : Int) : Int × List Int × Int :=
 if e = 0 then
  if (numR rest).2.2 = 0 then
   if most < (numR rest).1 then (0, rest, 3) else ((numR rest).1, rest.drop (numR rest).2.1, 0)
  else (0, rest, (numR rest).2.2)
 else (0, rest, e)
set_option maxHeartbeats 1600000 in
theorem num_any (R : Nat) (rest : List Int) (e most : Int) (w : World) (h : St w R rest e) :
  Calls Tryz.prog 60 #[.pointer (some ⟨R, 0, none⟩), .int .i64 most] w fun en w' => en = .returned (.int .i64 (numS rest e most).1) ∧ St w' R (numS rest e most).2.1 (numS rest e most).2.2 ∧ w.grownBy w' (some R) := by
 obtain ⟨hE, hR⟩ := h
 by_cases he : e = 0
 ·subst he
  have hR := hR rfl
  have cn := number_any R 0 rest w hE hR
  have HS : Hid (numS rest 0 most = if (numR rest).2.2 = 0 then (if most < (numR rest).1 then (0, rest, 3) else ((numR rest).1, rest.drop (numR rest).2.1, 0)) else (0, rest, (numR rest).2.2)) := by show _ = _; simp [numS]
  generalize (numR rest).1 = v at *
  generalize (numR rest).2.1 = c at *
  generalize (numR rest).2.2 = er at *
  by_cases her : er = 0
  ·subst her
   rw [if_pos rfl] at HS
   by_cases hmost : most < v
   ·rw [if_pos hmost] at HS
    go_enter Tryz.func60, Tryz.ntmps60
    go_wp2_with fail
    refine (err_made R 0 w hE).mono ?_
    rintro e w1 ⟨rfl, rfl⟩
    go_wp2_with fail
    refine cn.mono ?_
    rintro e w2 ⟨rfl, hE2, hg2, hR2⟩
    go_wp2_with fail
    refine (fail_any R 0 3 w2 hE2).mono ?_
    rintro e w3 ⟨rfl, hE3, hg3⟩
    go_wp2_with fail
    go_ret
    rw [HS.out]
    exact ⟨rfl, ⟨hE3, fun h => by cases h⟩, gb_trans hg2 hg3⟩
   ·rw [if_neg hmost] at HS
    go_enter Tryz.func60, Tryz.ntmps60
    go_wp2_with fail
    refine (err_made R 0 w hE).mono ?_
    rintro e w1 ⟨rfl, rfl⟩
    go_wp2_with fail
    refine cn.mono ?_
    rintro e w2 ⟨rfl, hE2, hg2, hR2⟩
    have hR3 := hR2 (by trivial)
    clear hR2 cn
    go_wp2_with fail
    go_ret
    rw [HS.out]
    exact ⟨rfl, ⟨hE2, fun _ => hR3⟩, hg2⟩
  ·have her' : (er == 0) = false := by simpa using her
   rw [if_neg her] at HS
   go_enter Tryz.func60, Tryz.ntmps60
   go_wp2_with fail
   refine (err_made R 0 w hE).mono ?_
   rintro e w1 ⟨rfl, rfl⟩
   go_wp2_with fail
   refine cn.mono ?_
   rintro e w2 ⟨rfl, hE2, hg2, hR2⟩
   clear hR2 cn
   go_wp2_with fail
   refine (fail_any R 0 er w2 hE2).mono ?_
   rintro e w3 ⟨rfl, hE3, hg3⟩
   go_wp2_with fail
   go_ret
   rw [HS.out]
   exact ⟨rfl, ⟨hE3, fun h => absurd h her⟩, gb_trans hg2 hg3⟩
 ·have HS : Hid (numS rest e most = (0, rest, e)) := by show _ = _; simp [numS, he]
  have he' : (e == 0) = false := by simpa using he
  go_enter Tryz.func60, Tryz.ntmps60
  go_wp2_with fail
  refine (err_made R e w hE).mono ?_
  rintro en w1 ⟨rfl, rfl⟩
  go_wp2_with fail
  go_ret
  rw [HS.out]
  exact ⟨rfl, ⟨hE, fun h => absurd h he⟩, gb_refl _ _⟩
theorem RowAt.none_nil {w : World} {zs : List Int} (h : RowAt w none zs) : zs = [] := by
 rcases h.2.2 with h | ⟨b, off, hx, _⟩
 ·exact h
 ·cases hx
theorem RowAt.str {w : World} {a : Option Addr} {zs : List Int} (h : RowAt w a zs) (cap : Nat) : (convert 135 9 (.slice a zs.length cap)).run Tryz.prog w = .ok (.string (strOf zs)) w := row_mine h cap
set_option maxHeartbeats 800000 in
theorem clone_any (a : Option Addr) (cap : Nat) (zs : List Int) (w : World) (h : RowAt w a zs) (hm : zs.length ≤ 549755813888) :
  Calls Tryz.prog 93 #[.slice a zs.length cap] w fun e w' => ∃ v, e = .returned v ∧ Mine w' w.heap.size v zs ∧ Below w.heap.size w w' := by
 obtain ⟨i0, hi, hz0, hz1, hz2⟩ := info_parts info8
 cases a with
 | none =>
  obtain rfl := h.none_nil
  have hn := fun w => Lib.run_eql_slice_nil (P := Tryz.prog) w 135 5 none 0 cap 0 0 Tryz.underlying135
  go_enter Tryz.func93, Tryz.ntmps93
  go_wp2
  go_ret
  exact ⟨_, rfl, ⟨World.ownsRow_nil _ _ _ _, by simp⟩, Below.refl _ _⟩
 | some x =>
  have hn := fun w => Lib.run_eql_slice_nil (P := Tryz.prog) w 135 5 (some x) zs.length cap 0 0 Tryz.underlying135
  go_enter Tryz.func93, Tryz.ntmps93
  go_wp2_with (at_builtin; refine wpList_append_own_src _ rfl _ _ 135 135 rfl w.heap.size 5 i0 (.int .u8 0) 1 1 Tryz.underlying135 hi hz0 hz1 hz2 rfl _ 0 [] rfl (World.ownsRow_made w #[] 0 (Nat.le_refl _) (by simp) (by simp)) (.slice (some x) zs.length cap) zs.length (zs.map (Value.int .u8)) rfl ((h.below ((Below.refl _ _).alloc (Nat.le_refl _) _)).src cap) ?c1 ?c2 ?c3 ?_)
  case c1 => unfold maxLen; omega
  case c2 => omega
  case c3 => simp
  intro v' w1 hown hgrow
  have hb1 : Below w.heap.size w w1 := ((Below.refl _ _).alloc (Nat.le_refl _) _).grown hgrow (by simp) (fun k hk => by simp [Value.ownBlock] at hk; omega)
  go_wp2
  go_ret
  exact ⟨_, rfl, ⟨by simpa using hown, h.2.1⟩, hb1⟩
set_option maxHeartbeats 800000 in
theorem read_any (a : Option Addr) (cap : Nat) (zs : List Int) (w : World) (h : RowAt w a zs) (hm : zs.length ≤ 549755813888) :
  Calls Tryz.prog 58 #[.slice a zs.length cap] w fun e w' => ∃ R, e = .returned (.pointer (some ⟨R, 0, none⟩)) ∧ w.heap.size ≤ R ∧ St w' R zs 0 ∧ Below w.heap.size w w' := by
 go_enter Tryz.func58, Tryz.ntmps58
 go_wp2_with fail
 refine (clone_any a cap zs w h hm).mono ?_
 rintro e w1 ⟨v, rfl, hmine, hb⟩
 obtain ⟨a', cap', rfl, hc1, hc2, hr⟩ := hmine.rowAt (by unfold maxLen; omega)
 have hblk : ∀ x, a' = some x → x.block < w1.heap.size := fun x hx => (hmine.1.lt x.block (by simp [hx, Value.ownBlock])).2
 have hb2 : Below w1.heap.size w1 (w1.alloc (.cells #[.slice a' zs.length cap', .bool true, .int .i64 0] 180)) := (Below.refl _ _).alloc (Nat.le_refl _) _
 have hSt : St (w1.alloc (.cells #[.slice a' zs.length cap', .bool true, .int .i64 0] 180)) w1.heap.size zs 0 := by
  have cs : ∀ j, (w1.alloc (.cells #[.slice a' zs.length cap', .bool true, .int .i64 0] 180)).cell? ⟨w1.heap.size, j, none⟩ = (#[.slice a' zs.length cap', .bool true, .int .i64 0] : Array Value)[j]? := fun j => World.cell?_alloc_at _ _ _ _ rfl
  have fs : ∀ j, (w1.alloc (.cells #[.slice a' zs.length cap', .bool true, .int .i64 0] 180)).frozen? ⟨w1.heap.size, j, none⟩ = false := fun j => World.frozen?_alloc_at _ _ _ _ rfl
  exact ⟨⟨by simp, ⟨a', zs.length, cap', cs 0⟩, cs 1, cs 2, fs 0, fs 1, fs 2⟩, fun _ => ⟨a', cap', cs 0, hc1, hc2, hr.below hb2, hblk⟩⟩
 go_wp2_with fail
 go_ret
 exact ⟨_, rfl, hb.size, hSt, hb.trans (hb2.mono hb.size)⟩
set_option maxHeartbeats 800000 in
theorem next_few (R : Nat) (rest : List Int) (n : Int) (w : World) (h : St w R rest 0) (hn : (rest.length : Int) < n) :
  Calls Tryz.prog 104 #[.pointer (some ⟨R, 0, none⟩), .int .i64 n] w fun en w' => en = .returned (.slice none 0 0) ∧ St w' R rest 10 ∧ w.grownBy w' (some R) := by
 obtain ⟨hE, hR⟩ := h
 obtain ⟨a, cap, h0, hc, hm, hrow, hne⟩ := hR rfl
 go_enter Tryz.func104, Tryz.ntmps104
 go_wp2_with fail
 refine (left_any R a rest.length cap w h0).mono ?_
 rintro en w1 ⟨rfl, rfl⟩
 go_wp2_with fail
 refine (fail_any R 0 10 w1 hE).mono ?_
 rintro en w2 ⟨rfl, hE2, hg2⟩
 go_wp2_with fail
 go_ret
 exact ⟨rfl, ⟨hE2, fun h => by cases h⟩, hg2⟩
set_option maxHeartbeats 800000 in
theorem next_there (R : Nat) (rest : List Int) (n : Int) (w : World) (h : St w R rest 0) (hn0 : 0 ≤ n) (hn : n ≤ (rest.length : Int)) :
  Calls Tryz.prog 104 #[.pointer (some ⟨R, 0, none⟩), .int .i64 n] w fun en w' => ∃ a cap, en = .returned (.slice a n.toNat cap) ∧ n.toNat ≤ cap ∧ RowAt w' a (rest.take n.toNat) ∧ St w' R (rest.drop n.toNat) 0 ∧ w.grownBy w' (some R) := by
 obtain ⟨hE, hR⟩ := h
 obtain ⟨a, cap, h0, hc, hm, hrow, hlt⟩ := hR rfl
 have hne := lt_ne hlt
 obtain ⟨q, hq⟩ : ∃ q : Nat, n.toNat = q := ⟨_, rfl⟩
 have hqn : (q : Int) = n := by omega
 rw [hq]
 have ct := take_any R a q rest.length cap w h0 hE.2.2.2.2.1 (by omega) hc hm
 rw [hqn] at ct
 have hE2 := hE.set0 (cutA a cap q) (rest.length - q) (cap - q)
 have hg2 := gb_set w R 0 (.slice (cutA a cap q) (rest.length - q) (cap - q))
 have hr2 := (hrow.take q).gb hg2 (.inr hne)
 have h02 : (w.setCell ⟨R, 0, none⟩ (.slice (cutA a cap q) (rest.length - q) (cap - q))).cell? ⟨R, 0, none⟩ = some (.slice (cutA a cap q) (rest.length - q) (cap - q)) := World.cell?_setCell_same _ _ _ h0
 have hRest : Rest (w.setCell ⟨R, 0, none⟩ (.slice (cutA a cap q) (rest.length - q) (cap - q))) R (rest.drop q) :=
  ⟨cutA a cap q, cap - q, by rw [List.length_drop]; exact h02, by rw [List.length_drop]; omega, by omega, (hrow.drop q cap (by omega) hc).gb hg2 (.inr (cutA_ne hne)), cutA_lt hlt⟩
 have hqc : q ≤ cap := by omega
 generalize w.setCell ⟨R, 0, none⟩ (.slice (cutA a cap q) (rest.length - q) (cap - q)) = W2 at *
 have hnn : ¬ ((rest.length : Int) < n) := by omega
 clear hq hqn
 go_enter Tryz.func104, Tryz.ntmps104
 go_wp2_with fail
 refine (left_any R a rest.length cap w h0).mono ?_
 rintro en w1 ⟨rfl, rfl⟩
 go_wp2_with fail
 refine ct.mono ?_
 rintro en w2 ⟨rfl, rfl⟩
 go_wp2_with fail
 go_ret
 exact ⟨a, cap, rfl, hqc, hr2, ⟨hE2, fun _ => hRest⟩, hg2⟩
def textS (rest : List Int) (e most : Int) : List Int × List Int × Int :=
 if (numS rest e 9223372036854775807).2.2 = 0 then
  if most < (numS rest e 9223372036854775807).1 then ([], rest, 3)
  else if ((numS rest e 9223372036854775807).2.1.length : Int) < (numS rest e 9223372036854775807).1 then ([], rest, 10)
  else ((numS rest e 9223372036854775807).2.1.take (numS rest e 9223372036854775807).1.toNat, (numS rest e 9223372036854775807).2.1.drop (numS rest e 9223372036854775807).1.toNat, 0)
 else ([], rest, (numS rest e 9223372036854775807).2.2)
theorem St.other {w : World} {R : Nat} {rest : List Int} {e : Int} (h : St w R rest e) (he : e ≠ 0) (rest' : List Int) : St w R rest' e := ⟨h.1, fun h0 => absurd h0 he⟩
set_option maxHeartbeats 1600000 in
theorem text_any (R : Nat) (rest : List Int) (e most : Int) (w : World) (h : St w R rest e) (hpos : 0 ≤ (numS rest e 9223372036854775807).1) :
  Calls Tryz.prog 68 #[.pointer (some ⟨R, 0, none⟩), .int .i64 most] w fun en w' => en = .returned (.string (strOf (textS rest e most).1)) ∧ St w' R (textS rest e most).2.1 (textS rest e most).2.2 ∧ w.grownBy w' (some R) := by
 have cn := num_any R rest e 9223372036854775807 w h
 have HT : Hid (textS rest e most = if (numS rest e 9223372036854775807).2.2 = 0 then
  (if most < (numS rest e 9223372036854775807).1 then ([], rest, 3)
  else if ((numS rest e 9223372036854775807).2.1.length : Int) < (numS rest e 9223372036854775807).1 then ([], rest, 10)
  else ((numS rest e 9223372036854775807).2.1.take (numS rest e 9223372036854775807).1.toNat, (numS rest e 9223372036854775807).2.1.drop (numS rest e 9223372036854775807).1.toNat, 0))
  else ([], rest, (numS rest e 9223372036854775807).2.2)) := rfl
 generalize (numS rest e 9223372036854775807).1 = n at *
 generalize (numS rest e 9223372036854775807).2.1 = r1 at *
 generalize (numS rest e 9223372036854775807).2.2 = e1 at *
 have hs0 : strOf [] = ⟨#[]⟩ := rfl
 by_cases he : e1 = 0
 ·subst he
  rw [if_pos rfl] at HT
  by_cases hmost : most < n
  ·rw [if_pos hmost] at HT
   go_enter Tryz.func68, Tryz.ntmps68
   go_wp2_with fail
   refine cn.mono ?_
   rintro en w1 ⟨rfl, hS1, hg1⟩
   clear cn
   go_wp2_with fail
   refine (err_made R 0 w1 hS1.1).mono ?_
   rintro en w2 ⟨rfl, rfl⟩
   go_wp2_with fail
   refine (fail_any R 0 3 w2 hS1.1).mono ?_
   rintro en w3 ⟨rfl, hE3, hg3⟩
   go_wp2_with fail
   go_ret
   rw [HT.out]
   exact ⟨rfl, ⟨hE3, fun h => by cases h⟩, gb_trans hg1 hg3⟩
  ·rw [if_neg hmost] at HT
   by_cases hlen : (r1.length : Int) < n
   ·rw [if_pos hlen] at HT
    have sn : ∀ w : World, (convert 135 9 (.slice none 0 0)).run Tryz.prog w = .ok (.string ⟨#[]⟩) w := fun w => (nil_row w).str 0
    go_enter Tryz.func68, Tryz.ntmps68
    go_wp2_with fail
    refine cn.mono ?_
    rintro en w1 ⟨rfl, hS1, hg1⟩
    clear cn
    go_wp2_with fail
    refine (err_made R 0 w1 hS1.1).mono ?_
    rintro en w2 ⟨rfl, rfl⟩
    go_wp2_with fail
    refine (next_few R r1 n w2 hS1 hlen).mono ?_
    rintro en w3 ⟨rfl, hS3, hg3⟩
    have s3 := sn w3
    go_wp2_with fail
    go_ret
    rw [HT.out]
    exact ⟨rfl, hS3.other (by omega) _, gb_trans hg1 hg3⟩
   ·rw [if_neg hlen] at HT
    go_enter Tryz.func68, Tryz.ntmps68
    go_wp2_with fail
    refine cn.mono ?_
    rintro en w1 ⟨rfl, hS1, hg1⟩
    clear cn
    go_wp2_with fail
    refine (err_made R 0 w1 hS1.1).mono ?_
    rintro en w2 ⟨rfl, rfl⟩
    go_wp2_with fail
    refine (next_there R r1 n w2 hS1 hpos (by omega)).mono ?_
    rintro en w3 ⟨a, cap, rfl, hca, hra, hS3, hg3⟩
    have s3 := hra.str cap
    rw [List.length_take_of_le (by omega)] at s3
    go_wp2_with fail
    go_ret
    rw [HT.out]
    exact ⟨rfl, hS3, gb_trans hg1 hg3⟩
 ·rw [if_neg he] at HT
  have he' : (e1 == 0) = false := by simpa using he
  go_enter Tryz.func68, Tryz.ntmps68
  go_wp2_with fail
  refine cn.mono ?_
  rintro en w1 ⟨rfl, hS1, hg1⟩
  clear cn
  go_wp2_with fail
  refine (err_made R e1 w1 hS1.1).mono ?_
  rintro en w2 ⟨rfl, rfl⟩
  go_wp2_with fail
  go_ret
  rw [HT.out]
  exact ⟨rfl, hS1.other he _, hg1⟩
namespace Tal
theorem digs_val (ds : List Int) (hz : ∀ z ∈ ds, 0 ≤ z ∧ z < 256) (hh : ds.head? ≠ some 0) (hv : val ds ≤ 9223372036854775807) : digs (val ds).toNat = ds := by
  have key : ∀ k, k ≤ ds.length → val (ds.take k) ≤ 9223372036854775807 → digs (val (ds.take k)).toNat = ds.take k := by
    intro k
    induction k with
    | zero => intro _ _; simp [val, digs_zero]
    | succ k ih =>
      intro hk hle
      have hlt : k < ds.length := by omega
      have e := val_take ds k hlt
      have hb := val_bound (ds.take k) (fun z h => hz z (List.mem_of_mem_take h))
      have hd : 0 ≤ ds.getD k 0 ∧ ds.getD k 0 < 256 := by
        rw [List.getD_eq_getElem?_getD, List.getElem?_eq_getElem hlt]; exact hz _ (List.getElem_mem hlt)
      have hi := ih (by omega) (by omega)
      have hpos : 0 < val (ds.take (k + 1)) := by
        by_cases h0 : k = 0
        · subst h0
          have : val (ds.take 0) = 0 := by simp [val]
          rw [e, this]
          cases ds with
          | nil => simp at hlt
          | cons x tl => simp at hh hd ⊢; omega
        · have : 0 < val (ds.take k) := by
            rcases Int.lt_or_eq_of_le hb.1 with h | h
            · exact h
            · rw [← h] at hi
              have hl := congrArg List.length hi
              rw [List.length_take_of_le (by omega)] at hl
              have : (digs (0 : Int).toNat).length = 0 := by decide
              omega
          omega
      have ht : ds.take (k + 1) = ds.take k ++ [ds.getD k 0] := by
        rw [List.take_succ_eq_append_getElem hlt, List.getD_eq_getElem?_getD, List.getElem?_eq_getElem hlt]; rfl
      have e1 : (val (ds.take (k + 1))).toNat / 256 = (val (ds.take k)).toNat := by omega
      have e2 : ((((val (ds.take (k + 1))).toNat % 256 : Nat)) : Int) = ds.getD k 0 := by omega
      rw [digs_succ _ (by omega) (by omega), e1, e2, hi, ht]
  have := key ds.length (Nat.le_refl _)
  rw [List.take_length] at this
  exact this hv
theorem numR_form (zs : List Int) (hz : ∀ z ∈ zs, 0 ≤ z ∧ z < 256) (h : (numR zs).2.2 = 0) :
    putL (numR zs).1 = zs.take (numR zs).2.1 ∧ (numR zs).2.1 ≤ zs.length ∧ 0 ≤ (numR zs).1 ∧ (numR zs).1 ≤ 9223372036854775807 := by
  cases zs with
  | nil => simp [numR] at h
  | cons k tl =>
    have hk := hz k (by simp)
    by_cases h8 : 8 < k
    · simp [numR, h8] at h
    · by_cases hl : (tl.length : Int) < k
      · simp [numR, h8, hl] at h
      · by_cases hv : (valR (tl.take k.toNat)).2 = 0
        · have e : numR (k :: tl) = ((valR (tl.take k.toNat)).1, 1 + k.toNat, 0) := by simp only [numR, if_neg h8, if_neg hl, if_pos hv]
          rw [e]
          have hds : ∀ z ∈ tl.take k.toNat, 0 ≤ z ∧ z < 256 := fun z h => hz z (by simp [List.mem_of_mem_take h])
          have hb := val_bound _ hds
          have hnot : ¬ ((tl.take k.toNat).head? = some 0 ∨ 9223372036854775807 < val (tl.take k.toNat)) := by
            intro hc; unfold valR at hv; rw [if_pos hc] at hv; cases hv
          have e1 : (valR (tl.take k.toNat)).1 = val (tl.take k.toNat) := by unfold valR; rw [if_neg hnot]
          have hlen : (tl.take k.toNat).length = k.toNat := List.length_take_of_le (by omega)
          have hd := digs_val (tl.take k.toNat) hds (fun h => hnot (Or.inl h)) (by omega)
          have hw : (wid (val (tl.take k.toNat)).toNat : Int) = k := by
            rw [← digs_length, hd, hlen]; omega
          simp only [e1]
          refine ⟨?_, by simp; omega, hb.1, by omega⟩
          unfold putL
          rw [if_neg (by omega), numB, hd, hw, Nat.add_comm]
          rfl
        · simp only [numR, if_neg h8, if_neg hl, if_neg hv] at h
          exact absurd h hv
end Tal
open Sha Tal
open Go.RowKit
variable {B : Nat}
def Rf (B : Nat) (w : World) (X : Nat) (zs : List Int) (p : Nat) (e : Int) : Prop :=
 X < w.heap.size ∧ (∃ a cap, w.cell? ⟨X, 0, none⟩ = some (.slice a zs.length cap) ∧ zs.length ≤ cap ∧ cap ≤ maxLen ∧ RowAt w a zs ∧ ∀ x, a = some x → B ≤ x.block ∧ x.block < X) ∧
 w.cell? ⟨X, 1, none⟩ = some (.int .i64 (p : Int)) ∧ w.cell? ⟨X, 2, none⟩ = some (.int .i64 e) ∧ w.frozen? ⟨X, 0, none⟩ = false ∧ w.frozen? ⟨X, 1, none⟩ = false ∧ w.frozen? ⟨X, 2, none⟩ = false ∧ p ≤ zs.length ∧ zs.length ≤ 40000
theorem suc_ne {a : Option Addr} {X : Nat} (h : ∀ x, a = some x → B ≤ x.block ∧ x.block < X) : ∀ x, a = some x → x.block ≠ X := fun x hx => Nat.ne_of_lt (h x hx).2
namespace Tal
end Tal
theorem Rf.rest {w : World} {X : Nat} {zs : List Int} {p : Nat} {e : Int} (h : Rf B w X zs p e) : ∃ a cap, w.cell? ⟨X, 0, none⟩ = some (.slice a zs.length cap) ∧ zs.length ≤ cap ∧ cap ≤ maxLen ∧ RowAt w (cutA a cap p) (zs.drop p) := by
 obtain ⟨hX, ⟨a, cap, h0, hc, hm, hr, hne⟩, h1, h2, f0, f1, f2, hp, hl⟩ := h
 exact ⟨a, cap, h0, hc, hm, hr.drop p cap hp hc⟩
open Go.RowKit
open Sha Tal
variable {B : Nat}
theorem Rf.set2 {w : World} {X : Nat} {zs : List Int} {p : Nat} {e : Int} (h : Rf B w X zs p e) (e' : Int) : Rf B (w.setCell ⟨X, 2, none⟩ (.int .i64 e')) X zs p e' := by
 obtain ⟨hX, ⟨a, cap, h0, hc, hm, hr, hne⟩, h1, h2, f0, f1, f2, hp, hl⟩ := h
 exact ⟨by simpa [World.setCell] using hX, ⟨a, cap, (World.cell?_setCell_other _ _ _ _ (by simp)).trans h0, hc, hm, hr.gb (gb_set w X 2 _) (.inr (suc_ne hne)), hne⟩, (World.cell?_setCell_other _ _ _ _ (by simp)).trans h1, World.cell?_setCell_same _ _ _ h2,
  (World.frozen?_setCell _ _ _ _).trans f0, (World.frozen?_setCell _ _ _ _).trans f1, (World.frozen?_setCell _ _ _ _).trans f2, hp, hl⟩
def RSt (B : Nat) (w : World) (X : Nat) (rest : List Int) (e : Int) : Prop := ∃ zs p, Rf B w X zs p e ∧ (e = 0 → zs.drop p = rest)
end Go.Proofs.YtilbjeeabecfjaaGreat
namespace Go.Proofs.YtilbjeeabecfjaaGreat
open Go.RowKit
open Sha Tal
variable {B : Nat}
def rawS (rest : List Int) (e n : Int) : List Int × List Int × Int :=
 if e = 0 then
  if n < 0 then ([], rest, 2)
  else if (rest.length : Int) < n then ([], rest, 10)
  else (rest.take n.toNat, rest.drop n.toNat, 0)
 else ([], rest, e)
theorem cell_block {w w' : World} {b j : Nat} (h : w'.heap[b]? = w.heap[b]?) : w'.cell? ⟨b, j, none⟩ = w.cell? ⟨b, j, none⟩ ∧ w'.frozen? ⟨b, j, none⟩ = w.frozen? ⟨b, j, none⟩ := by
 constructor
 ·simp only [World.cell?, h]
 ·simp only [World.frozen?, h]
theorem RdE.below {w w' : World} {R : Nat} {e : Int} (h : RdE w R e) (hb : w'.heap[R]? = w.heap[R]?) (hs : w.heap.size ≤ w'.heap.size) : RdE w' R e := by
 obtain ⟨hR, ⟨a, n, c, h0⟩, h1, h2, f0, f1, f2⟩ := h
 have hc := fun j => (cell_block (j := j) hb)
 exact ⟨Nat.lt_of_lt_of_le hR hs, ⟨a, n, c, (hc 0).1.trans h0⟩, (hc 1).1.trans h1, (hc 2).1.trans h2, (hc 0).2.trans f0, (hc 1).2.trans f1, (hc 2).2.trans f2⟩
theorem St.below {w w' : World} {R : Nat} {rest : List Int} {e : Int} (h : St w R rest e) (hb : Below w.heap.size w w') : St w' R rest e := by
 have hR := h.1.1
 refine ⟨h.1.below (hb.block R hR) hb.size, fun he => ?_⟩
 obtain ⟨a, cap, h0, hc, hm, hr, hne⟩ := h.2 he
 exact ⟨a, cap, (cell_block (hb.block R hR)).1.trans h0, hc, hm, hr.below hb, hne⟩
theorem Rf.below {w w' : World} {X : Nat} {zs : List Int} {p : Nat} {e : Int} (h : Rf B w X zs p e) (hb : Below w.heap.size w w') : Rf B w' X zs p e := by
 obtain ⟨hX, ⟨a, cap, h0, hc, hm, hr, hne⟩, h1, h2, f0, f1, f2, hp, hl⟩ := h
 have hk := fun j => (cell_block (j := j) (hb.block X hX))
 exact ⟨Nat.lt_of_lt_of_le hX hb.size, ⟨a, cap, (hk 0).1.trans h0, hc, hm, hr.below hb, hne⟩, (hk 1).1.trans h1, (hk 2).1.trans h2, (hk 0).2.trans f0, (hk 1).2.trans f1, (hk 2).2.trans f2, hp, hl⟩
theorem RSt.below {w w' : World} {X : Nat} {rest : List Int} {e : Int} (h : RSt B w X rest e) (hb : Below w.heap.size w w') : RSt B w' X rest e := by
 obtain ⟨zs, p, h1, h2⟩ := h
 exact ⟨zs, p, h1.below hb, h2⟩
theorem Mine.nil (w : World) (B : Nat) : Mine w B (.slice none 0 0) [] := ⟨World.ownsRow_nil _ _ _ _, by simp⟩
theorem Mine.mono' {w : World} {B B' : Nat} {v : Value} {zs : List Int} (h : Mine w B v zs) (hb : B' ≤ B) : Mine w B' v zs := by
 refine ⟨⟨h.1.1, ?_⟩, h.2⟩
 rcases h.1.2 with h | ⟨g, cap, cur, hv, hg, r⟩
 ·exact .inl h
 ·exact .inr ⟨g, cap, cur, hv, Nat.le_trans hb hg, r⟩
end Go.Proofs.YtilbjeeabecfjaaGreat
namespace Go.Proofs.YtilbjeeabecfjaaGreat
open Go.RowKit
open Sha Tal
theorem bytes_of (s : ByteArray) (hs : s.size ≤ 1099511627) (w : World) : ∃ c w1, (convert 9 135 (.string s)).run Tryz.prog w = .ok (.slice (some ⟨w.heap.size, 0, none⟩) (strL s).length c) w1 ∧ RowAt w1 (some ⟨w.heap.size, 0, none⟩) (strL s) ∧ Below w.heap.size w w1 := by
 refine ⟨grownCap w s.size 0 5, Lib.bytesWorld w 5 s, ?_, ?_, ?_⟩
 ·rw [Lib.run_convert_string_bytes w 9 135 5 s Tryz.underlying9 Tryz.underlying135 Tryz.underlying5, strL_length]
 ·refine ⟨by rw [strL_length]; unfold maxLen; omega, strL_byte s, .inr ⟨_, _, rfl, by rw [Lib.bytesWorld_size]; omega, fun j v hv => ?_⟩⟩
  have hj : j < s.size := by
   have := (List.getElem?_eq_some_iff.1 hv).1
   rwa [v8_length, strL_length] at this
  rw [Nat.zero_add, Lib.bytesWorld_cell w 5 s j hj, ← hv]
  have hj' : j < s.data.toList.length := by simpa using hj
  simp only [v8, strL, List.map_map, List.getElem?_map, List.getElem?_eq_getElem hj', List.getD_eq_getElem?_getD, Option.getD_some, Option.map_some, Function.comp]
 ·exact ⟨rfl, rfl, rfl, by rw [Lib.bytesWorld_size]; omega, fun k hk => Lib.bytesWorld_at_old w 5 s k hk⟩
structure MrAt (w : World) (Q R : Nat) (z : Bool) : Prop where
 lt : Q < w.heap.size
 ne : R < Q
 c0 : w.cell? ⟨Q, 0, none⟩ = some (.pointer (some ⟨R, 0, none⟩))
 c1 : w.cell? ⟨Q, 1, none⟩ = some (.bool z)
 f1 : w.frozen? ⟨Q, 1, none⟩ = false
theorem MrAt.at {w w' : World} {Q R : Nat} {z : Bool} (h : MrAt w Q R z) (hb : w'.heap[Q]? = w.heap[Q]?) (hs : w.heap.size ≤ w'.heap.size) : MrAt w' Q R z :=
 ⟨Nat.lt_of_lt_of_le h.lt hs, h.ne, (cell_block hb).1.trans h.c0, (cell_block hb).1.trans h.c1, (cell_block hb).2.trans h.f1⟩
theorem MrAt.gb {w w' : World} {Q R : Nat} {z : Bool} (h : MrAt w Q R z) (hg : w.grownBy w' (some R)) : MrAt w' Q R z :=
 h.at (hg.block Q h.lt (fun e => by have := h.ne; cases e; omega)) hg.size
theorem MrAt.below {w w' : World} {Q R : Nat} {z : Bool} (h : MrAt w Q R z) (hb : Below w.heap.size w w') : MrAt w' Q R z := h.at (hb.block Q h.lt) hb.size
def doneE (rest : List Int) (e : Int) : Int := if e = 0 then (if rest.length = 0 then 0 else 12) else e
set_option maxRecDepth 100000 in
set_option maxHeartbeats 2000000 in
theorem done_any (R : Nat) (rest : List Int) (e : Int) (w : World) (h : St w R rest e) : Calls Tryz.prog 71 #[.pointer (some ⟨R, 0, none⟩)] w fun en w' => en = .returned (.int .i64 (doneE rest e)) ∧ w' = w := by
 have ce := err_made R e w h.1
 by_cases he : e = 0
 ·subst he
  obtain ⟨a, cap, h0, _⟩ := h.2 rfl
  have cl := left_any R a rest.length cap w h0
  have E : doneE rest 0 = if rest.length = 0 then 0 else 12 := by simp [doneE]
  rw [E]
  clear E h
  by_cases hr : rest.length = 0
  ·rw [if_pos hr]
   rw [hr] at cl
   clear hr h0
   go_enter Tryz.func71, Tryz.ntmps71
   go_wp2_with fail
   refine ce.mono ?_
   rintro e1 w1 ⟨rfl, hx⟩
   obtain rfl := hx.symm
   clear hx
   go_wp2_with fail
   refine cl.mono ?_
   rintro e2 w2 ⟨rfl, hx⟩
   obtain rfl := hx.symm
   clear hx
   go_wp2
   go_ret
   exact ⟨rfl, rfl⟩
  ·rw [if_neg hr]
   have hr' : (0 : Int) < rest.length := by omega
   obtain ⟨n, hn⟩ : ∃ n : Int, (rest.length : Int) = n := ⟨_, rfl⟩
   rw [hn] at cl hr'
   clear hr hn h0
   go_enter Tryz.func71, Tryz.ntmps71
   go_wp2_with fail
   refine ce.mono ?_
   rintro e1 w1 ⟨rfl, hx⟩
   obtain rfl := hx.symm
   clear hx
   go_wp2_with fail
   refine cl.mono ?_
   rintro e2 w2 ⟨rfl, hx⟩
   obtain rfl := hx.symm
   clear hx
   go_wp2
   go_ret
   exact ⟨rfl, rfl⟩
 ·have E : doneE rest e = e := by simp [doneE, he]
  rw [E]
  have n1 : (e != 0) = true := bne_iff_ne.2 he
  clear E h he
  go_enter Tryz.func71, Tryz.ntmps71
  go_wp2_with fail
  refine ce.mono ?_
  rintro e1 w1 ⟨rfl, hx⟩
  obtain rfl := hx.symm
  clear hx
  go_wp2
  go_ret
  exact ⟨rfl, rfl⟩
set_option maxRecDepth 100000 in
set_option maxHeartbeats 2000000 in
theorem fault_ok (Q R : Nat) (rest : List Int) (e : Int) (w : World) (h : St w R rest e) (hq : MrAt w Q R false) : Calls Tryz.prog 47 #[.pointer (some ⟨Q, 0, none⟩)] w fun en w' => en = .returned (.int .i64 (doneE rest e)) ∧ w' = w := by
 have cd := done_any R rest e w h
 have c0 := hq.c0
 have c1 := hq.c1
 generalize doneE rest e = r at *
 clear h hq
 go_enter Tryz.func47, Tryz.ntmps47
 go_wp2_with fail
 refine cd.mono ?_
 rintro e1 w1 ⟨rfl, hx⟩
 obtain rfl := hx.symm
 clear hx cd
 go_wp2
 go_ret
 exact ⟨rfl, rfl⟩
theorem there_blk {w w' : World} {b o n : Nat} (h : w.there b o n) (hb : w'.heap[b]? = w.heap[b]?) : w'.there b o n := fun j hj => by
 have := h j hj
 exact ⟨by rw [(cell_block hb).1]; exact this.1, (cell_block hb).2.trans this.2⟩
theorem St.belowN {w w' : World} {R n : Nat} {rest : List Int} {e : Int} (h : St w R rest e) (hb : Below n w w') (hn : R < n) : St w' R rest e := by
 refine ⟨h.1.below (hb.block R hn) hb.size, fun he => ?_⟩
 obtain ⟨a, cap, h0, hc, hm, hr, hne⟩ := h.2 he
 refine ⟨a, cap, (cell_block (hb.block R hn)).1.trans h0, hc, hm, ⟨hr.1, hr.2.1, ?_⟩, hne⟩
 rcases hr.2.2 with q | ⟨b, off, rfl, q1, q2⟩
 ·exact .inl q
 ·exact .inr ⟨b, off, rfl, Nat.lt_of_lt_of_le q1 hb.size, range_below q2 hb (by have := hne _ rfl; simp only at this; omega)⟩
theorem strOf_strL (s : ByteArray) : strOf (strL s) = s := by
 unfold strOf strL
 rw [foldl_push_byteCells]
 cases s; simp
namespace Tal
theorem head_digs (n : Nat) (h0 : 0 < n) (h : n < 2 ^ 63) : (digs n).head? ≠ some 0 := by
  obtain ⟨_, b, c⟩ := wid_bounds 8 n h (by omega)
  obtain ⟨c1, c2⟩ := c h0
  have hg := digK_get (wid n) n 0 c1
  have hl := digs_length n
  unfold digs at hl ⊢
  cases hd : digK (wid n) n with
  | nil => simp
  | cons x tl =>
    rw [hd] at hg
    have hg' : x = ((n / 256 ^ (wid n - 1 - 0) % 256 : Nat) : Int) := hg
    rw [Nat.sub_zero] at hg'
    have hlt : n / 256 ^ (wid n - 1) < 256 := by
      rw [Nat.div_lt_iff_lt_mul (Nat.pow_pos (by omega)), Nat.mul_comm, ← Nat.pow_succ]
      have e : (wid n - 1).succ = wid n := by omega
      rw [e]; exact b
    have hpos : 0 < n / 256 ^ (wid n - 1) := Nat.div_pos c2 (Nat.pow_pos (by omega))
    rw [Nat.mod_eq_of_lt hlt] at hg'
    intro hc
    simp only [List.head?_cons, Option.some.injEq] at hc
    omega
theorem numR_back (n : Nat) (h : n < 2 ^ 63) (more : List Int) : numR (numB n ++ more) = ((n : Int), 1 + wid n, 0) := by
 have hw := wid_le n h
 have hv := val_digs n h
 have ht : (digs n ++ more).take (wid n) = digs n := by rw [List.take_append_of_le_length (by rw [digs_length]; exact Nat.le_refl _), List.take_of_length_le (by rw [digs_length]; exact Nat.le_refl _)]
 have hh : ¬ ((digs n).head? = some 0 ∨ 9223372036854775807 < val (digs n)) := by
  rw [hv]
  by_cases h0 : n = 0
  ·subst h0; rw [digs_zero]; simp
  ·intro hc
   rcases hc with hc | hc
   ·exact head_digs n (by omega) h hc
   ·omega
 have e : valR (digs n) = ((n : Int), 0) := by unfold valR; rw [if_neg hh, hv]
 have e0 : numB n ++ more = (wid n : Int) :: (digs n ++ more) := rfl
 rw [e0]
 simp only [numR]
 rw [if_neg (by omega), if_neg (by rw [List.length_append, digs_length]; omega), Int.toNat_natCast, ht, e]
 simp
theorem numS_back (x most : Int) (h0 : 0 ≤ x) (h1 : x ≤ 9223372036854775807) (hm : x ≤ most) (more : List Int) : numS (putL x ++ more) 0 most = (x, more, 0) := by
 have e : putL x = numB x.toNat := by unfold putL; rw [if_neg (by omega)]
 have hr := numR_back x.toNat (by omega) more
 have hx : ((x.toNat : Nat) : Int) = x := by omega
 rw [hx] at hr
 have hd : (numB x.toNat ++ more).drop (1 + wid x.toNat) = more := by
  have : (numB x.toNat).length = 1 + wid x.toNat := by simp only [numB, List.length_cons, digs_length]; omega
  rw [← this, List.drop_append_of_le_length (Nat.le_refl _)]; simp
 unfold numS
 rw [e, hr, if_pos rfl, if_pos rfl, if_neg (by omega), hd]
end Tal
theorem textS_back (s : ByteArray) (most : Int) (hs : s.size ≤ 1099511627) (hm : (s.size : Int) ≤ most) (more : List Int) : textS (textL s ++ more) 0 most = (strL s, more, 0) := by
 have e : textL s ++ more = putL (s.size : Int) ++ (strL s ++ more) := by unfold textL; rw [List.append_assoc]
 have hn := numS_back (s.size : Int) 9223372036854775807 (by omega) (by omega) (by omega) (strL s ++ more)
 unfold textS
 rw [e, hn]
 simp only [Int.toNat_natCast]
 rw [if_pos trivial, if_neg (by omega), if_neg (by rw [List.length_append, strL_length]; omega)]
 have hl := strL_length s
 rw [List.take_append_of_le_length (by omega), List.take_of_length_le (by omega), List.drop_append_of_le_length (by omega), List.drop_of_length_le (by omega), List.nil_append]
theorem strOf_list (zs : List Int) : (strOf zs).toList = zs.map (fun n => UInt8.ofNat n.toNat) := by
  have key : ∀ (zs : List Int) (r : ByteArray), (zs.foldl (fun r n => r.push (UInt8.ofNat n.toNat)) r).data.toList = r.data.toList ++ zs.map (fun n => UInt8.ofNat n.toNat) := by
    intro zs
    induction zs with
    | nil => intro r; simp
    | cons z zs ih => intro r; rw [List.foldl_cons, ih]; simp [ByteArray.push]
  rw [ByteArray.toList_eq]
  unfold strOf
  rw [key]
  rfl
theorem strOf_inj : ∀ {xs ys : List Int}, (∀ z ∈ xs, 0 ≤ z ∧ z < 256) → (∀ z ∈ ys, 0 ≤ z ∧ z < 256) → (strOf xs).toList = (strOf ys).toList → xs = ys := by
 intro xs ys hx hy h
 rw [strOf_list, strOf_list] at h
 have hl : xs.length = ys.length := by simpa using congrArg List.length h
 apply List.ext_getElem hl
 intro i h1 h2
 have := congrArg (·[i]?) h
 simp only [List.getElem?_map, List.getElem?_eq_getElem h1, List.getElem?_eq_getElem h2, Option.map_some, Option.some.injEq] at this
 have a1 := hx _ (List.getElem_mem h1)
 have a2 := hy _ (List.getElem_mem h2)
 have := congrArg UInt8.toNat this
 simp only [UInt8.toNat_ofNat'] at this
 omega
open Go.RowKit
open Sha Tal
theorem results_ct {fn : Func} {p u : Tmp} {ty : TypeId} (h : fn.results = #[.cell p ty, .tmp u]) (tmps : Array Value) (P : Program) (w : World) {a : Addr} {v : Value} (ha : tmps.getD p undef = .pointer (some a)) (hv : (loadVar ty a).run P w = .ok v w) : (results fn tmps).run P w = .ok (.tuple #[v, tmps.getD u undef]) w := by
 rw [results_cell_tmp h, ha]
 simp [asAddr, hv, Result.andThen]
def RowOf {α : Type} (f : α → List Value) (w : World) (a : Option Addr) (ys : List α) : Prop := ys = [] ∨ ∃ b off, a = some ⟨b, off, none⟩ ∧ b < w.heap.size ∧ w.rangeAt b off (ys.flatMap f)
theorem RowOf.below {α : Type} {f : α → List Value} {w w' : World} {a : Option Addr} {ys : List α} (h : RowOf f w a ys) (hb : Below w.heap.size w w') : RowOf f w' a ys := by
 rcases h with h | ⟨b, off, rfl, h1, h2⟩
 ·exact .inl h
 ·exact .inr ⟨b, off, rfl, Nat.lt_of_lt_of_le h1 hb.size, range_below h2 hb h1⟩
theorem flat_len_k {α : Type} {f : α → List Value} {k : Nat} {ys : List α} (h : ∀ y ∈ ys, (f y).length = k) : (ys.flatMap f).length = ys.length * k := by
  induction ys with
  | nil => simp
  | cons y ys ih =>
    have h1 := h y (by simp)
    have h2 := ih (fun x hx => h x (by simp [hx]))
    simp only [List.flatMap_cons, List.length_append, List.length_cons, Nat.add_mul, Nat.one_mul]
    omega
theorem RowOf.elem {α : Type} {f : α → List Value} {k : Nat} {w : World} {a : Option Addr} {ys : List α} (h : RowOf f w a ys) (hk : ∀ y ∈ ys, (f y).length = k) (i : Nat) (hi : i < ys.length) : ∃ b off, a = some ⟨b, off, none⟩ ∧ b < w.heap.size ∧ w.rangeAt b (off + i * k) (f ys[i]) := by
 rcases h with h0 | ⟨b, off, rfl, h1, h2⟩
 ·subst h0; simp at hi
 ·refine ⟨b, off, rfl, h1, ?_⟩
  have e : ys.take i ++ (ys[i] :: ys.drop (i + 1)) = ys := by rw [← List.drop_eq_getElem_cons hi, List.take_append_drop]
  have e2 : ys.flatMap f = (ys.take i).flatMap f ++ f ys[i] ++ (ys.drop (i + 1)).flatMap f := by
   have := congrArg (List.flatMap f) e
   rw [← this]
   simp only [List.flatMap_append, List.flatMap_cons, List.append_assoc]
  rw [e2] at h2
  have h3 := range_part h2
  rwa [flat_len_k (fun y hy => hk y (List.mem_of_mem_take hy)), List.length_take, Nat.min_eq_left (by omega)] at h3
structure El (α : Type) where
 f : α → List Value
 k : Nat
 ok : α → Prop
 len : ∀ y, ok y → (f y).length = k
 one : ∀ y, ∀ v ∈ f y, v.oneCell' = true
def RowsAt {α : Type} (E : El α) (w : World) (a : Option Addr) (ys : List α) : Prop := ys.length ≤ maxLen ∧ (∀ y ∈ ys, E.ok y) ∧ RowOf E.f w a ys
theorem RowsAt.below {α : Type} {E : El α} {w w' : World} {a : Option Addr} {ys : List α} (h : RowsAt E w a ys) (hb : Below w.heap.size w w') : RowsAt E w' a ys := ⟨h.1, h.2.1, h.2.2.below hb⟩
theorem RowsAt.elem {α : Type} {E : El α} {w : World} {a : Option Addr} {ys : List α} (h : RowsAt E w a ys) (i : Nat) (hi : i < ys.length) : ∃ b off, a = some ⟨b, off, none⟩ ∧ b < w.heap.size ∧ w.rangeAt b (off + i * E.k) (E.f ys[i]) := h.2.2.elem (fun y hy => E.len y (h.2.1 y hy)) i hi
theorem RowsAt.none {α : Type} {E : El α} {w : World} {a : Option Addr} : RowsAt E w a [] := ⟨by simp, by simp, .inl rfl⟩
theorem RowsAt.drew {α : Type} {E : El α} {w : World} {a : Option Addr} {ys : List α} (h : RowsAt E w a ys) : RowsAt E w.drew a ys := h.below ((Below.refl _ _).drew)
structure Sg where
 n : Int
 t : List Int
deriving Inhabited
structure Sg.ok (r : Sg) : Prop where
 tl : r.t.length = 16
 tb : ∀ z ∈ r.t, 0 ≤ z ∧ z < 256
 nl : -9223372036854775808 ≤ r.n
 nh : r.n ≤ 9223372036854775807
def Sg.cells (r : Sg) : List Value := .int .i64 r.n :: v8 r.t
def SgE : El Sg where
 f := Sg.cells
 k := 17
 ok := Sg.ok
 len := fun r h => by have := h.tl; simp [Sg.cells, v8]; omega
 one := fun r v hv => by
  rcases List.mem_cons.1 hv with rfl | hv
  ·rfl
  ·exact v8_one r.t v hv
structure Ev where
 n : Int
 s : ByteArray
 t : List Int
deriving Inhabited
structure Ev.ok (r : Ev) : Prop where
 tl : r.t.length = 16
 tb : ∀ z ∈ r.t, 0 ≤ z ∧ z < 256
 sl : r.s.size ≤ maxLen
 nl : -9223372036854775808 ≤ r.n
 nh : r.n ≤ 9223372036854775807
def Ev.cells (r : Ev) : List Value := .int .i64 r.n :: .string r.s :: v8 r.t
def EvE : El Ev where
 f := Ev.cells
 k := 18
 ok := Ev.ok
 len := fun r h => by have := h.tl; simp [Ev.cells, v8]; omega
 one := fun r v hv => by
  simp only [Ev.cells, List.mem_cons] at hv
  rcases hv with rfl | rfl | hv
  ·rfl
  ·rfl
  ·exact v8_one r.t v hv
structure Rq where
 c : Int
 n : Int
 s : ByteArray
 t : List Int
deriving Inhabited
structure Rq.ok (r : Rq) : Prop where
 tl : r.t.length = 16
 tb : ∀ z ∈ r.t, 0 ≤ z ∧ z < 256
 sl : r.s.size ≤ maxLen
 cl : -9223372036854775808 ≤ r.c
 ch : r.c ≤ 9223372036854775807
 nl : -9223372036854775808 ≤ r.n
 nh : r.n ≤ 9223372036854775807
def Rq.cells (r : Rq) : List Value := .int .i64 r.c :: .int .i64 r.n :: .string r.s :: v8 r.t
def RqE : El Rq where
 f := Rq.cells
 k := 19
 ok := Rq.ok
 len := fun r h => by have := h.tl; simp [Rq.cells, v8]; omega
 one := fun r v hv => by
  simp only [Rq.cells, List.mem_cons] at hv
  rcases hv with rfl | rfl | rfl | hv
  ·rfl
  ·rfl
  ·rfl
  ·exact v8_one r.t v hv
theorem iszT : (Tryz.prog.info? 30).map (·.size) = some 16 := by kernel_rfl
def Sg.B (x y : Sg) : Bool := (x.n == y.n) && ((x.t == y.t))
set_option linter.unusedVariables false
set_option linter.unusedSimpArgs false
theorem laidOut : laidOutB Tryz.prog = true := by kernel_rfl
theorem lawEv : Maps.Keyed Tryz.prog 32 := Maps.Keyed.of_law (deep_law_laid laidOut (m := 5) (by decide) (of_decide_eq_true (by kernel_rfl)) (by kernel_rfl) (by kernel_rfl))
theorem lawCl : Maps.Keyed Tryz.prog 36 := Maps.Keyed.of_law (deep_law_laid laidOut (m := 5) (by decide) (of_decide_eq_true (by kernel_rfl)) (by kernel_rfl) (by kernel_rfl))
theorem lawPk : Maps.Keyed Tryz.prog 44 := Maps.Keyed.of_law (deep_law_laid laidOut (m := 5) (by decide) (of_decide_eq_true (by kernel_rfl)) (by kernel_rfl) (by kernel_rfl))
theorem lits_int (d : Nat) (c : Int) (h1 : -9223372036854775808 ≤ c) (h2 : c ≤ 9223372036854775807) : Tryz.prog.keyLits (d + 1) 3 [.int .i64 c] = some [.int .i64 c] := by
 have wc : (Lit.int .i64 c).wf = true := by
  simp [Lit.wf, IntKind.min, IntKind.max, IntKind.signed, IntKind.bits]
  omega
 simp only [Program.keyLits, Tryz.underlying3, wc, and_self, if_true]
theorem lits_str (d : Nat) (s : ByteArray) (h : s.size ≤ maxLen) : Tryz.prog.keyLits (d + 1) 9 [.string s] = some [.string s.data.toList] := by
 simp only [Program.keyLits, Tryz.underlying9, h, if_true]
theorem mapM_ok {α β : Type} (f : α → Option β) (g : α → β) : ∀ l : List α, (∀ x ∈ l, f x = some (g x)) → l.mapM f = some (l.map g)
  | [], _ => by simp
  | a :: l, h => by
    rw [List.mapM_cons, h a (by simp), mapM_ok f g l (fun x hx => h x (by simp [hx]))]
    simp
theorem lits_tag (d : Nat) (zs : List Int) (hl : zs.length = 16) (hb : ∀ z ∈ zs, 0 ≤ z ∧ z < 256) : Tryz.prog.keyLits (d + 1 + 1) 30 (v8 zs) = some ((List.range 16).map (fun i => [Lit.int .u8 (zs.getD i 0)])).flatten := by
 have hc2 : Tryz.prog.cellsOf 30 = 16 := by kernel_rfl
 have hc1 : Tryz.prog.cellsOf 5 = 1 := by kernel_rfl
 unfold Program.keyLits
 simp only [Tryz.underlying30]
 rw [if_pos (by rw [hc2, v8_length, hl]), hc1]
 rw [mapM_ok _ (fun i => [Lit.int .u8 (zs.getD i 0)])]
 ·rfl
 ·intro i hi
  have hi : i < 16 := List.mem_range.1 hi
  have h1 : (List.drop (i * 1) (v8 zs)).take 1 = [.int .u8 (zs.getD i 0)] := by
   rw [Nat.mul_one, v8, List.drop_eq_getElem_cons (by simp; omega)]
   simp [List.getElem?_eq_getElem (show i < zs.length by omega)]
  rw [h1]
  have hz := hb (zs.getD i 0) (by simp [List.getElem?_eq_getElem (show i < zs.length by omega)])
  have wc : (Lit.int .u8 (zs.getD i 0)).wf = true := by
   simp [Lit.wf, IntKind.min, IntKind.max, IntKind.signed, IntKind.bits]
   simp at hz
   omega
  simp only [Program.keyLits, Tryz.underlying5, wc, and_self, if_true]
def litsE (x : Ev) : List Lit := [.int .i64 x.n] ++ ([.string x.s.data.toList] ++ ((List.range 16).map (fun i => [Lit.int .u8 (x.t.getD i 0)])).flatten)
theorem lits_env (d : Nat) (x : Ev) (hx : x.ok) : Tryz.prog.keyLits (d + 1 + 1 + 1) 32 x.cells = some (litsE x) := by
 have hc2 : Tryz.prog.cellsOf 32 = 18 := by kernel_rfl
 have hcd : Tryz.prog.cellsOf 30 = 16 := by kernel_rfl
 have hc1 : Tryz.prog.cellsOf 3 = 1 := by kernel_rfl
 have hc3 : Tryz.prog.cellsOf 9 = 1 := by kernel_rfl
 have hl : x.cells.length = 18 := EvE.len x hx
 have h1 := lits_int (d + 1) x.n hx.nl hx.nh
 have h2 := lits_str (d + 1) x.s hx.sl
 have h5 := lits_tag d x.t hx.tl hx.tb
 have ht : List.take 16 (v8 x.t) = v8 x.t := List.take_of_length_le (by rw [v8_length, hx.tl]; exact Nat.le_refl _)
 unfold litsE
 generalize ((List.range 16).map (fun i => [Lit.int .u8 (x.t.getD i 0)])).flatten = L at *
 unfold Program.keyLits
 simp only [Tryz.underlying32]
 rw [if_pos ⟨by rw [hc2, hl], by decide +kernel⟩]
 unfold Ev.cells
 simp only [List.mapM_cons, List.mapM_nil, hc1, hc3, hcd, List.drop_zero, List.take_succ_cons, List.take_zero, List.drop_succ_cons, ht, h1, h2, h5, Option.bind_eq_bind, Option.bind_some, Option.pure_def, Option.map_some, List.flatten_cons, List.flatten_nil, List.append_nil, List.cons_append, List.nil_append]
theorem lits_cl (d : Nat) (x : Ev) (hx : x.ok) : Tryz.prog.keyLits (d + 1 + 1 + 1) 36 x.cells = some (litsE x) := by
 have hc2 : Tryz.prog.cellsOf 36 = 18 := by kernel_rfl
 have hcd : Tryz.prog.cellsOf 30 = 16 := by kernel_rfl
 have hc1 : Tryz.prog.cellsOf 3 = 1 := by kernel_rfl
 have hc3 : Tryz.prog.cellsOf 9 = 1 := by kernel_rfl
 have hl : x.cells.length = 18 := EvE.len x hx
 have h1 := lits_int (d + 1) x.n hx.nl hx.nh
 have h2 := lits_str (d + 1) x.s hx.sl
 have h5 := lits_tag d x.t hx.tl hx.tb
 have ht : List.take 16 (v8 x.t) = v8 x.t := List.take_of_length_le (by rw [v8_length, hx.tl]; exact Nat.le_refl _)
 unfold litsE
 generalize ((List.range 16).map (fun i => [Lit.int .u8 (x.t.getD i 0)])).flatten = L at *
 unfold Program.keyLits
 simp only [Tryz.underlying36]
 rw [if_pos ⟨by rw [hc2, hl], by decide +kernel⟩]
 unfold Ev.cells
 simp only [List.mapM_cons, List.mapM_nil, hc1, hc3, hcd, List.drop_zero, List.take_succ_cons, List.take_zero, List.drop_succ_cons, ht, h1, h2, h5, Option.bind_eq_bind, Option.bind_some, Option.pure_def, Option.map_some, List.flatten_cons, List.flatten_nil, List.append_nil, List.cons_append, List.nil_append]
structure Pk where
 dt : Int
 x : Ev
def Pk.cells (p : Pk) : List Value := .int .i64 p.dt :: p.x.cells
structure Pk.ok (p : Pk) : Prop where
 lo : -9223372036854775808 ≤ p.dt
 hi : p.dt ≤ 9223372036854775807
 x : p.x.ok
theorem Pk.len {p : Pk} (h : p.ok) : p.cells.length = 19 := by
 have h1 : p.x.cells.length = 18 := EvE.len p.x h.x
 show (_ :: p.x.cells).length = 19
 rw [List.length_cons, h1]
def litsP (p : Pk) : List Lit := [.int .i64 p.dt] ++ litsE p.x
theorem lits_pk (d : Nat) (p : Pk) (hp : p.ok) : Tryz.prog.keyLits (d + 1 + 1 + 1 + 1) 44 p.cells = some (litsP p) := by
 have hc2 : Tryz.prog.cellsOf 44 = 19 := by kernel_rfl
 have hcd : Tryz.prog.cellsOf 32 = 18 := by kernel_rfl
 have hc1 : Tryz.prog.cellsOf 3 = 1 := by kernel_rfl
 have hl := Pk.len hp
 have hxl : p.x.cells.length = 18 := EvE.len p.x hp.x
 have h1 := lits_int (d + 1 + 1) p.dt hp.lo hp.hi
 have h5 := lits_env d p.x hp.x
 have ht : List.take 18 p.x.cells = p.x.cells := List.take_of_length_le (by rw [hxl]; exact Nat.le_refl _)
 unfold litsP
 generalize litsE p.x = L at *
 unfold Program.keyLits
 simp only [Tryz.underlying44]
 rw [if_pos ⟨by rw [hc2, hl], by decide +kernel⟩]
 unfold Pk.cells
 generalize p.x.cells = q at *
 simp only [List.mapM_cons, List.mapM_nil, hc1, hcd, List.drop_zero, List.take_succ_cons, List.take_zero, List.drop_succ_cons, ht, h1, h5, Option.bind_eq_bind, Option.bind_some, Option.pure_def, Option.map_some, List.flatten_cons, List.flatten_nil, List.append_nil, List.cons_append, List.nil_append]
def klE (x : Ev) : Lit := .string (keyBytes (litsE x))
def klP (p : Pk) : Lit := .string (keyBytes (litsP p))
theorem key_env (x : Ev) (hx : x.ok) : Go.keyOf Tryz.prog 32 (.agg x.cells.toArray) = some (klE x) := by
 have hk : Tryz.prog.keyType 32 = true := by kernel_rfl
 have hc2 : Tryz.prog.cellsOf 32 = 18 := by kernel_rfl
 have hl : x.cells.length = 18 := EvE.len x hx
 have hf : (Value.agg x.cells.toArray).formed Tryz.prog 32 = true := by
  simp only [Value.formed, Tryz.underlying32, hc2, List.size_toArray, hl]
  rfl
 have hd : Tryz.prog.types.size + 1 = (276 - 3) + 1 + 1 + 1 + 1 := by kernel_rfl
 have h1 := lits_env ((276 - 3) + 1) x hx
 unfold Go.keyOf
 rw [Tryz.underlying32]
 simp only [hk, hf, Bool.and_self, if_true, hd, Value.cells]
 rw [h1]
 rfl
theorem key_cl (x : Ev) (hx : x.ok) : Go.keyOf Tryz.prog 36 (.agg x.cells.toArray) = some (klE x) := by
 have hk : Tryz.prog.keyType 36 = true := by kernel_rfl
 have hc2 : Tryz.prog.cellsOf 36 = 18 := by kernel_rfl
 have hl : x.cells.length = 18 := EvE.len x hx
 have hf : (Value.agg x.cells.toArray).formed Tryz.prog 36 = true := by
  simp only [Value.formed, Tryz.underlying36, hc2, List.size_toArray, hl]
  rfl
 have hd : Tryz.prog.types.size + 1 = (276 - 3) + 1 + 1 + 1 + 1 := by kernel_rfl
 have h1 := lits_cl ((276 - 3) + 1) x hx
 unfold Go.keyOf
 rw [Tryz.underlying36]
 simp only [hk, hf, Bool.and_self, if_true, hd, Value.cells]
 rw [h1]
 rfl
theorem key_pk (x : Pk) (hx : x.ok) : Go.keyOf Tryz.prog 44 (.agg x.cells.toArray) = some (klP x) := by
 have hk : Tryz.prog.keyType 44 = true := by kernel_rfl
 have hc2 : Tryz.prog.cellsOf 44 = 19 := by kernel_rfl
 have hl := Pk.len hx
 have hf : (Value.agg x.cells.toArray).formed Tryz.prog 44 = true := by
  simp only [Value.formed, Tryz.underlying44, hc2, List.size_toArray, hl]
  rfl
 have hd : Tryz.prog.types.size + 1 = (276 - 3) + 1 + 1 + 1 + 1 := by kernel_rfl
 have h1 := lits_pk (276 - 3) x hx
 unfold Go.keyOf
 rw [Tryz.underlying44]
 simp only [hk, hf, Bool.and_self, if_true, hd, Value.cells]
 rw [h1]
 rfl
theorem v8_inj {a b : List Int} (h : v8 a = v8 b) : a = b := by
  have := congrArg (List.map (fun v => match v with | Value.int _ z => z | _ => 0)) h
  simpa [v8, Function.comp_def] using this
theorem Ev.cells_inj {x y : Ev} (h : x.cells = y.cells) : x = y := by
 obtain ⟨a, b, c⟩ := x
 obtain ⟨a', b', c'⟩ := y
 simp only [Ev.cells, List.cons.injEq, Value.int.injEq, Value.string.injEq, true_and] at h
 obtain ⟨rfl, rfl, h⟩ := h
 rw [v8_inj h]
theorem Pk.cells_inj {x y : Pk} (h : x.cells = y.cells) : x = y := by
 obtain ⟨a, b⟩ := x
 obtain ⟨a', b'⟩ := y
 simp only [Pk.cells, List.cons.injEq, Value.int.injEq, true_and] at h
 obtain ⟨rfl, h⟩ := h
 rw [Ev.cells_inj h]
theorem klE_inj {x y : Ev} (hx : x.ok) (hy : y.ok) (h : klE x = klE y) : x = y := by
 have h1 := key_env x hx
 rw [h] at h1
 have h2 := lawEv.inj h1 (key_env y hy)
 simp only [Value.agg.injEq] at h2
 have h3 := congrArg Array.toList h2
 exact Ev.cells_inj (by simpa using h3)
theorem klP_inj {x y : Pk} (hx : x.ok) (hy : y.ok) (h : klP x = klP y) : x = y := by
 have h1 := key_pk x hx
 rw [h] at h1
 have h2 := lawPk.inj h1 (key_pk y hy)
 simp only [Value.agg.injEq] at h2
 have h3 := congrArg Array.toList h2
 exact Pk.cells_inj (by simpa using h3)
def anyE : Value → Option (DataW Value × List MemPlace) := fun v => some (.held v, [])
def SetAt (t : TypeId) (u : Value) (w : World) (b n : Nat) (p : Lit → Prop) : Prop :=
 ∃ D : DataW Value, w.ownsMap Tryz.prog t anyE b n D ∧ (∀ kl, Maps.has D kl = true ↔ p kl) ∧ ∀ kl zd, p kl → D.atKey kl zd = .held u
theorem SetAt.lt {t : TypeId} {u : Value} {w : World} {b n : Nat} {p : Lit → Prop} (h : SetAt t u w b n p) : b < w.heap.size := by
 obtain ⟨D, h, _⟩ := h
 exact h.lt
theorem SetAt.at {t : TypeId} {u : Value} {w w' : World} {b n : Nat} {p : Lit → Prop} (h : SetAt t u w b n p) (hb : w'.heap[b]? = w.heap[b]?) : SetAt t u w' b n p := by
 obtain ⟨D, ⟨es, cl, h1, h2⟩, h3⟩ := h
 exact ⟨D, ⟨es, cl, by rw [hb]; exact h1, h2⟩, h3⟩
theorem SetAt.made (t : TypeId) (u : Value) (w : World) : SetAt t u (w.alloc (.map #[] 0)) w.heap.size 0 (fun _ => False) :=
 ⟨_, World.ownsMap_made w Tryz.prog t anyE, fun kl => by simp [Maps.has], fun _ _ h => h.elim⟩
theorem SetAt.same {t : TypeId} {u : Value} {w : World} {b n : Nat} {p q : Lit → Prop} (h : SetAt t u w b n p) (hpq : ∀ k, p k ↔ q k) : SetAt t u w b n q := by
 obtain rfl : p = q := funext fun k => propext (hpq k)
 exact h
theorem SetAt.look {t mt e : TypeId} {u z : Value} {w : World} {b n : Nat} {p : Lit → Prop} (h : SetAt t u w b n p) (K : Maps.Keyed Tryz.prog t) (hm : Tryz.prog.underlying mt = some (.map t e)) (hz : (zeroValue e).run Tryz.prog w = .ok z w) {key : Value} {kl : Lit} (hkey : Go.keyOf Tryz.prog t key = some kl) (c : Bool) (hc : c = true ↔ p kl) :
  (Instr.lookup mt (.map (some b)) key true).run Tryz.prog w = .ok (.tuple #[if c then u else z, .bool c]) w := by
 obtain ⟨D, hown, hhas, hat⟩ := h
 obtain ⟨v, ps, hrun, hv⟩ := hown.look_ok K hm hz (zd := .held z) (zp := []) rfl hkey
 simp only [anyE, Option.some.injEq, Prod.mk.injEq] at hv
 rw [hrun]
 have hcc : Maps.has D kl = c := by
  cases c
  ·exact Bool.eq_false_iff.2 fun q => absurd (hc.2 ((hhas kl).1 q)) (by decide)
  ·exact (hhas kl).2 (hc.1 rfl)
 rw [hcc]
 have h1 := hv.1
 cases c
 ·rw [Maps.atKey_of_not_has hcc] at h1
  simp only [DataW.held.injEq] at h1
  rw [h1]; rfl
 ·rw [hat kl _ (hc.1 rfl)] at h1
  simp only [DataW.held.injEq] at h1
  rw [h1]; rfl
theorem SetAt.store {t mt e : TypeId} {u : Value} {w : World} {b n : Nat} {p : Lit → Prop} (h : SetAt t u w b n p) (K : Maps.Keyed Tryz.prog t) (hm : Tryz.prog.underlying mt = some (.map t e)) {key : Value} {kl : Lit} (hkey : Go.keyOf Tryz.prog t key = some kl) (hn : n ≤ 1000000000) :
  ∃ w', (Instr.mapUpdate mt (.map (some b)) key u).run Tryz.prog w = .ok () w' ∧ SetAt t u w' b (n + 1) (fun k => k = kl ∨ p k) ∧ w.grownBy w' (some b) := by
 obtain ⟨D, hown, hhas, hat⟩ := h
 obtain ⟨w', hrun, h1, h2⟩ := hown.store K hm (by unfold maxLen; omega) hkey (val := u) (d := .held u) (ps := []) rfl
 refine ⟨w', hrun, ⟨_, h1, fun k => ?_, fun k zd hk => ?_⟩, h2.grown⟩
 ·by_cases he : k = kl
  ·subst he
   rw [Maps.has_put_same hown.isMap (K.key hkey)]
   exact ⟨fun _ => .inl rfl, fun _ => rfl⟩
  ·rw [Maps.has_put_other he, hhas]
   exact ⟨.inr, fun h => h.resolve_left he⟩
 ·by_cases he : k = kl
  ·subst he
   exact Maps.atKey_put_same hown.isMap (K.key hkey) _ _
  ·rw [Maps.atKey_put_other he]
   exact hat k zd (hk.resolve_left he)
open Go.MuLone
abbrev muLink : Go.Conc.Locks.MuLink := { lock := 40, unlock := 41, ilock := 50, iunlock := 51, lockSlow := 78, unlockSlow := 81, disable := 74, enable := 76, acquire := 77, relMerge := 79, cas32 := 75, add32 := 80, tMutex := 76, tIMutex := 74, tPMutex := 132, tPIMutex := 160, tPI32 := 162, tUP := 164, tNoCopy := 71, tU32 := 72 }
theorem muLib : Go.Conc.Locks.MuLib Tryz.prog muLink :=
 ⟨Tryz.func40, Tryz.func41, Tryz.func50, Tryz.func51, Tryz.func74, Tryz.func76, Tryz.func77, Tryz.func79, Tryz.func75, Tryz.func80, Tryz.underlying74, Tryz.runUnderlying74, Tryz.sizeOf74, Tryz.isAgg74, Tryz.zeroValue74, Tryz.underlying76, Tryz.runUnderlying76, Tryz.sizeOf76, Tryz.isAgg76, Tryz.zeroValue76, Tryz.underlying132, Tryz.runUnderlying132, Tryz.sizeOf132, Tryz.isAgg132, Tryz.zeroValue132, Tryz.underlying160, Tryz.runUnderlying160, Tryz.sizeOf160, Tryz.isAgg160, Tryz.zeroValue160, Tryz.underlying162, Tryz.runUnderlying162, Tryz.sizeOf162, Tryz.isAgg162, Tryz.zeroValue162, Tryz.underlying164, Tryz.runUnderlying164, Tryz.sizeOf164, Tryz.isAgg164, Tryz.zeroValue164, Tryz.underlying71, Tryz.runUnderlying71, Tryz.sizeOf71, Tryz.isAgg71, Tryz.zeroValue71, Tryz.underlying21, Tryz.runUnderlying21, Tryz.sizeOf21, Tryz.isAgg21, Tryz.zeroValue21, (by kernel_rfl)⟩
def Ev.B (x y : Ev) : Bool := (x.n == y.n) && ((x.s.toList == y.s.toList) && ((x.t == y.t)))
def Rq.B (x y : Rq) : Bool := (x.c == y.c) && ((x.n == y.n) && ((x.s.toList == y.s.toList) && ((x.t == y.t))))
def sameL {α : Type} (B : α → α → Bool) : List α → List α → Bool
  | [], [] => true
  | x :: xs, y :: ys => B x y && sameL B xs ys
  | _, _ => false
structure Sl (α : Type) where
 a : Option Addr
 cap : Nat
 xs : List α
instance {α : Type} : Inhabited (Sl α) := ⟨⟨none, 0, []⟩⟩
def Sl.val {α : Type} (x : Sl α) : Value := .slice x.a x.xs.length x.cap
def Sl.At {α : Type} (E : El α) (w : World) (x : Sl α) : Prop := RowsAt E w x.a x.xs
theorem Sl.At.below {α : Type} {E : El α} {w w' : World} {x : Sl α} (h : x.At E w) (hb : Below w.heap.size w w') : x.At E w' := RowsAt.below h hb
def batB (q : Bool) (x : Sl Rq) (q' : Bool) (x' : Sl Rq) : Bool := (q == q') && sameL Rq.B x.xs x'.xs
def certL (x : Vt) (s : Sl Sg) : List Value := x.cells ++ [s.val]
def certB (x : Vt) (s : Sl Sg) (y : Vt) (t : Sl Sg) : Bool := vtB x y && sameL Sg.B s.xs t.xs
structure Hd where
 q : Bool
 rs : Sl Rq
 vt : Vt
 sg : Sl Sg
instance : Inhabited Hd := ⟨⟨false, default, Vt.zero, default⟩⟩
def Hd.cells (h : Hd) : List Value := .bool h.q :: h.rs.val :: certL h.vt h.sg
def HdE : El Hd where
 f := Hd.cells
 k := 39
 ok := fun h => h.vt.ok
 len := fun h hv => by have := hv.len; simp [Hd.cells, certL]; omega
 one := fun h v hv => by
  simp only [Hd.cells, certL, List.mem_cons, List.mem_append, List.not_mem_nil, or_false] at hv
  rcases hv with rfl | rfl | hv | rfl
  ·rfl
  ·rfl
  ·exact Vt.one _ v hv
  ·rfl
def Hd.At (w : World) (h : Hd) : Prop := h.rs.At RqE w ∧ h.sg.At SgE w
theorem Hd.At.below {w w' : World} {h : Hd} (k : h.At w) (hb : Below w.heap.size w w') : h.At w' := ⟨k.1.below hb, k.2.below hb⟩
def Hd.B (h g : Hd) : Bool := batB h.q h.rs g.q g.rs && certB h.vt h.sg g.vt g.sg
theorem iszH : (Tryz.prog.info? 129).map (·.size) = some 39 := by kernel_rfl
end Go.Proofs.YtilbjeeabecfjaaGreat
