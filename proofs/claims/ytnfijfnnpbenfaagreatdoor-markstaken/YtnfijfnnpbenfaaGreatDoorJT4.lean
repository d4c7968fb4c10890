/- votes compared; lists without an element; certs and messages without lists against themselves; fieldsMay and Good at messages without lists; Good of a message t -/
import Derived.Test.YtnfijfnnpbenfaaGreatDoorJT0
import Derived.Test.YtnfijfnnpbenfaaGreatDoorJT3
namespace Go.Proofs.YtnfijfnnpbenfaaGreatDoor
open Go.RowKit
open Sha Tal
theorem fldV : (Tryz.prog.fieldsOf 89).toList.map (fun f => (f.name, f.type, f.offset)) = [("Kind", 3, 0), ("Epoch", 3, 1), ("View", 3, 2), ("Slot", 3, 3), ("Digest", 32, 4)] := by kernel_rfl
theorem undV : Tryz.prog.underlying 89 = some (.struct (Tryz.prog.fieldsOf 89)) := by kernel_rfl
theorem sihV : Tryz.prog.stoodInHeld 89 = false := by kernel_rfl
theorem part_intV (w : World) (q : List Value) (i : Nat) (c : Int) (h : q[i]? = some (.int .i64 c)) : (part 3 q.toArray i).run Tryz.prog w = .ok (.int .i64 c) w := by
 simp [part, isAgg, run_underlying Tryz.underlying3, h]
theorem part_digV (w : World) (x : Vt) (hd : x.d.length = 32) : (part 32 x.cells.toArray 4).run Tryz.prog w = .ok (.agg (v8 x.d).toArray) w := by
 have hx : List.take 32 (List.drop 4 x.cells) = v8 x.d := by
  show List.take 32 (v8 x.d) = v8 x.d
  rw [List.take_of_length_le (by rw [v8_length, hd]; exact Nat.le_refl _)]
 simp [part, isAgg, run_underlying Tryz.underlying32, run_size iszD, hx]
def vtB (x y : Vt) : Bool := (x.k == y.k) && ((x.e == y.e) && ((x.v == y.v) && ((x.s == y.s) && (x.d == y.d))))
theorem vtB_iff {x y : Vt} : vtB x y = true ↔ x = y := by
 obtain ⟨k, e, v, s, d⟩ := x
 obtain ⟨k', e', v', s', d'⟩ := y
 simp [vtB]
theorem vtEqIn (x y : Vt) (hx : x.d.length = 32) (hy : y.d.length = 32) (d : Nat) (w : World) :
  (Op.equalIn (d + 2 + 1) 89 (.agg x.cells.toArray) (.agg y.cells.toArray)).run Tryz.prog w = .ok (vtB x y) w := by
 rw [run_equalIn_struct w (d + 2) 89 _ _ undV sihV]
 have hf := fldV
 generalize (Tryz.prog.fieldsOf 89).toList = fs at hf
 obtain ⟨f0, f1, f2, f3, f4, rfl⟩ : ∃ f0 f1 f2 f3 f4, fs = [f0, f1, f2, f3, f4] := by
  rcases fs with _ | ⟨f0, _ | ⟨f1, _ | ⟨f2, _ | ⟨f3, _ | ⟨f4, _ | ⟨f5, fs⟩⟩⟩⟩⟩⟩ <;> simp at hf
  exact ⟨f0, f1, f2, f3, f4, rfl⟩
 simp only [List.map_cons, List.map_nil, List.cons.injEq, Prod.mk.injEq, and_true] at hf
 obtain ⟨⟨a0, b0, d0⟩, ⟨a1, b1, d1⟩, ⟨a2, b2, d2⟩, ⟨a3, b3, d3⟩, ⟨a4, b4, d4⟩⟩ := hf
 have p0 := part_intV w x.cells 0 x.k rfl
 have q0 := part_intV w y.cells 0 y.k rfl
 have p1 := part_intV w x.cells 1 x.e rfl
 have q1 := part_intV w y.cells 1 y.e rfl
 have p2 := part_intV w x.cells 2 x.v rfl
 have q2 := part_intV w y.cells 2 y.v rfl
 have p3 := part_intV w x.cells 3 x.s rfl
 have q3 := part_intV w y.cells 3 y.s rfl
 have p4 := part_digV w x hx
 have q4 := part_digV w y hy
 have e0 := fun a b => run_equalIn_int (P := Tryz.prog) w (d + 1) 3 .i64 .i64 a b Tryz.underlying3
 have e4 := run_equal8 (P := Tryz.prog) w d 32 5 32 Tryz.underlying32 Tryz.underlying5 isz8 x.d y.d hx hy
 unfold vtB
 generalize x.cells.toArray = q at *
 generalize y.cells.toArray = q' at *
 obtain ⟨T, hT⟩ : ∃ T, (v8 x.d).toArray = T := ⟨_, rfl⟩
 obtain ⟨T', hT'⟩ : ∃ T, (v8 y.d).toArray = T := ⟨_, rfl⟩
 rw [hT] at p4 e4
 rw [hT'] at q4 e4
 clear hT hT'
 obtain ⟨D, hD⟩ : ∃ D, d + 1 + 1 = D := ⟨_, rfl⟩
 have e4 : (Op.equalIn (d + 1 + 1) 32 (.agg T) (.agg T')).run Tryz.prog w = .ok (x.d == y.d) w := e4
 rw [hD] at e4
 have n0 : ¬ ("Kind" = "_") := by decide
 have n1 : ¬ ("Epoch" = "_") := by decide
 have n2 : ¬ ("View" = "_") := by decide
 have n3 : ¬ ("Slot" = "_") := by decide
 have n4 : ¬ ("Digest" = "_") := by decide
 simp only [Op.eqFields, a0, a1, a2, a3, a4, b0, b1, b2, b3, b4, d0, d1, d2, d3, d4, ne_eq, n0, n1, n2, n3, n4, not_false_eq_true, if_true]
 rw [show d + 2 = d + 1 + 1 from rfl, hD]
 rw [hD] at e0
 clear hD
 simp only [Sem.run_bind, p0, q0, Result.andThen_ok, e0]
 cases (x.k == y.k)
 ·simp only [Bool.not_false, if_true, Sem.run_pure, Bool.false_and]
 ·simp only [Bool.not_true, Bool.false_eq_true, if_false, Sem.run_bind, p1, q1, Result.andThen_ok, e0, Bool.true_and]
  cases (x.e == y.e)
  ·simp only [Bool.not_false, if_true, Sem.run_pure, Bool.false_and]
  ·simp only [Bool.not_true, Bool.false_eq_true, if_false, Sem.run_bind, p2, q2, Result.andThen_ok, e0, Bool.true_and]
   cases (x.v == y.v)
   ·simp only [Bool.not_false, if_true, Sem.run_pure, Bool.false_and]
   ·simp only [Bool.not_true, Bool.false_eq_true, if_false, Sem.run_bind, p3, q3, Result.andThen_ok, e0, Bool.true_and]
    cases (x.s == y.s)
    ·simp only [Bool.not_false, if_true, Sem.run_pure, Bool.false_and]
    ·simp only [Bool.not_true, Bool.false_eq_true, if_false, Sem.run_bind, p4, q4, Result.andThen_ok, e4, Bool.true_and]
     cases (x.d == y.d)
     ·simp only [Bool.not_false, if_true, Sem.run_pure]
     ·simp only [Bool.not_true, Bool.false_eq_true, if_false, Sem.run_pure]
theorem eqInV (x y : Vt) (hx : x.d.length = 32) (hy : y.d.length = 32) (w : World) : (Op.equalIn 10000 89 (.agg x.cells.toArray) (.agg y.cells.toArray)).run Tryz.prog w = .ok (vtB x y) w := vtEqIn x y hx hy 9997 w
theorem eqInD (x y : List Int) (hx : x.length = 32) (hy : y.length = 32) (w : World) : (Op.equalIn 10000 32 (.agg (v8 x).toArray) (.agg (v8 y).toArray)).run Tryz.prog w = .ok (x == y) w := run_equal8 w 9998 32 5 32 Tryz.underlying32 Tryz.underlying5 isz8 x y hx hy
theorem vtB_self (x : Vt) : vtB x x = true := vtB_iff.2 rfl
theorem eqR0 (w : World) : Calls Tryz.prog 211 #[.slice none 0 0, .slice none 0 0] w fun e w' => e = .returned (.bool true) ∧ w' = w := by
 go_enter Tryz.func211, Tryz.ntmps211
 go_wp2
 go_loopw [13] (fun iv wr => iv = .int .i64 0 ∧ wr = w) (fun _ _ => 0)
 case atStart => exact ⟨rfl, rfl⟩
 case round =>
  obtain ⟨rfl, rfl⟩ := hrel
  go_wp2
  go_ret
  exact ⟨rfl, rfl⟩
theorem eqE0 (w : World) : Calls Tryz.prog 182 #[.slice none 0 0, .slice none 0 0] w fun e w' => e = .returned (.bool true) ∧ w' = w := by
 go_enter Tryz.func182, Tryz.ntmps182
 go_wp2
 go_loopw [13] (fun iv wr => iv = .int .i64 0 ∧ wr = w) (fun _ _ => 0)
 case atStart => exact ⟨rfl, rfl⟩
 case round =>
  obtain ⟨rfl, rfl⟩ := hrel
  go_wp2
  go_ret
  exact ⟨rfl, rfl⟩
theorem eqS0 (w : World) : Calls Tryz.prog 184 #[.slice none 0 0, .slice none 0 0] w fun e w' => e = .returned (.bool true) ∧ w' = w := by
 go_enter Tryz.func184, Tryz.ntmps184
 go_wp2
 go_loopw [13] (fun iv wr => iv = .int .i64 0 ∧ wr = w) (fun _ _ => 0)
 case atStart => exact ⟨rfl, rfl⟩
 case round =>
  obtain ⟨rfl, rfl⟩ := hrel
  go_wp2
  go_ret
  exact ⟨rfl, rfl⟩
theorem eqH0 (f : Value) (w : World) : Calls Tryz.prog 212 #[.slice none 0 0, .slice none 0 0, f] w fun e w' => e = .returned (.bool true) ∧ w' = w := by
 go_enter Tryz.func212, Tryz.ntmps212
 go_wp2
 go_loopw [17] (fun iv wr => iv = .int .i64 0 ∧ wr = w) (fun _ _ => 0)
 case atStart => exact ⟨rfl, rfl⟩
 case round =>
  obtain ⟨rfl, rfl⟩ := hrel
  go_wp2
  go_ret
  exact ⟨rfl, rfl⟩
theorem xsH0 (w : World) : Calls Tryz.prog 166 #[.slice none 0 0, .slice none 0 0] w fun e w' => e = .returned (.bool true) ∧ w' = w := by
 go_enter Tryz.func166, Tryz.ntmps166
 go_wp2
 go_loopw [5] (fun iv wr => iv = .int .i64 0 ∧ wr = w) (fun _ _ => 0)
 case atStart => exact ⟨rfl, rfl⟩
 case round =>
  obtain ⟨rfl, rfl⟩ := hrel
  go_wp2
  go_ret
  exact ⟨rfl, rfl⟩
theorem xsN0 (w : World) : Calls Tryz.prog 168 #[.slice none 0 0, .slice none 0 0] w fun e w' => e = .returned (.bool true) ∧ w' = w := by
 go_enter Tryz.func168, Tryz.ntmps168
 go_wp2
 go_loopw [5] (fun iv wr => iv = .int .i64 0 ∧ wr = w) (fun _ _ => 0)
 case atStart => exact ⟨rfl, rfl⟩
 case round =>
  obtain ⟨rfl, rfl⟩ := hrel
  go_wp2
  go_ret
  exact ⟨rfl, rfl⟩
theorem xsS0 (w : World) : Calls Tryz.prog 170 #[.slice none 0 0, .slice none 0 0] w fun e w' => e = .returned (.bool true) ∧ w' = w := by
 go_enter Tryz.func170, Tryz.ntmps170
 go_wp2
 go_loopw [5] (fun iv wr => iv = .int .i64 0 ∧ wr = w) (fun _ _ => 0)
 case atStart => exact ⟨rfl, rfl⟩
 case round =>
  obtain ⟨rfl, rfl⟩ := hrel
  go_wp2
  go_ret
  exact ⟨rfl, rfl⟩
theorem xh0 (w : World) : Calls Tryz.prog 126 #[.slice none 0 0] w fun e w' => e = .returned (.bool true) ∧ w' = w := by
 go_enter Tryz.func126, Tryz.ntmps126
 go_wp2
 go_loopw [3] (fun iv wr => iv = .int .i64 0 ∧ wr = w) (fun _ _ => 0)
 case atStart => exact ⟨rfl, rfl⟩
 case round =>
  obtain ⟨rfl, rfl⟩ := hrel
  go_wp2
  go_ret
  exact ⟨rfl, rfl⟩
theorem xn0 (w : World) : Calls Tryz.prog 128 #[.slice none 0 0] w fun e w' => e = .returned (.bool true) ∧ w' = w := by
 go_enter Tryz.func128, Tryz.ntmps128
 go_wp2
 go_loopw [3] (fun iv wr => iv = .int .i64 0 ∧ wr = w) (fun _ _ => 0)
 case atStart => exact ⟨rfl, rfl⟩
 case round =>
  obtain ⟨rfl, rfl⟩ := hrel
  go_wp2
  go_ret
  exact ⟨rfl, rfl⟩
theorem xg0 (w : World) : Calls Tryz.prog 129 #[.slice none 0 0] w fun e w' => e = .returned (.bool true) ∧ w' = w := by
 go_enter Tryz.func129, Tryz.ntmps129
 go_wp2
 go_loopw [3] (fun iv wr => iv = .int .i64 0 ∧ wr = w) (fun _ _ => 0)
 case atStart => exact ⟨rfl, rfl⟩
 case round =>
  obtain ⟨rfl, rfl⟩ := hrel
  go_wp2
  go_ret
  exact ⟨rfl, rfl⟩
theorem amR0 (m : Int) (f : Value) (hm : 0 ≤ m) (w : World) : Calls Tryz.prog 214 #[.slice none 0 0, .int .i64 m, f] w fun e w' => e = .returned (.bool true) ∧ w' = w := by
 go_enter Tryz.func214, Tryz.ntmps214
 go_wp2
 go_loopw [15] (fun iv wr => iv = .int .i64 0 ∧ wr = w) (fun _ _ => 0)
 case atStart => exact ⟨rfl, rfl⟩
 case round =>
  obtain ⟨rfl, rfl⟩ := hrel
  go_wp2
  go_ret
  exact ⟨rfl, rfl⟩
theorem amH0 (m : Int) (f : Value) (hm : 0 ≤ m) (w : World) : Calls Tryz.prog 216 #[.slice none 0 0, .int .i64 m, f] w fun e w' => e = .returned (.bool true) ∧ w' = w := by
 go_enter Tryz.func216, Tryz.ntmps216
 go_wp2
 go_loopw [15] (fun iv wr => iv = .int .i64 0 ∧ wr = w) (fun _ _ => 0)
 case atStart => exact ⟨rfl, rfl⟩
 case round =>
  obtain ⟨rfl, rfl⟩ := hrel
  go_wp2
  go_ret
  exact ⟨rfl, rfl⟩
theorem amS0 (m : Int) (f : Value) (hm : 0 ≤ m) (w : World) : Calls Tryz.prog 218 #[.slice none 0 0, .int .i64 m, f] w fun e w' => e = .returned (.bool true) ∧ w' = w := by
 go_enter Tryz.func218, Tryz.ntmps218
 go_wp2
 go_loopw [15] (fun iv wr => iv = .int .i64 0 ∧ wr = w) (fun _ _ => 0)
 case atStart => exact ⟨rfl, rfl⟩
 case round =>
  obtain ⟨rfl, rfl⟩ := hrel
  go_wp2
  go_ret
  exact ⟨rfl, rfl⟩
theorem amE0 (m : Int) (f : Value) (hm : 0 ≤ m) (w : World) : Calls Tryz.prog 190 #[.slice none 0 0, .int .i64 m, f] w fun e w' => e = .returned (.bool true) ∧ w' = w := by
 go_enter Tryz.func190, Tryz.ntmps190
 go_wp2
 go_loopw [15] (fun iv wr => iv = .int .i64 0 ∧ wr = w) (fun _ _ => 0)
 case atStart => exact ⟨rfl, rfl⟩
 case round =>
  obtain ⟨rfl, rfl⟩ := hrel
  go_wp2
  go_ret
  exact ⟨rfl, rfl⟩
def bat0 (q : Bool) : Value := .agg #[.bool q, .slice none 0 0]
theorem bsame0 (q : Bool) (w : World) : Calls Tryz.prog 180 #[bat0 q, bat0 q] w fun e w' => e = .returned (.bool true) ∧ Below w.heap.size w w' := by
 have hB : Below w.heap.size w ((w.alloc (.cells #[.bool q, .slice none 0 0] 87)).alloc (.cells #[.bool q, .slice none 0 0] 87)) := ((Below.refl _ w).alloc (Nat.le_refl _) _).alloc (by simp) _
 unfold bat0
 cases q
 all_goals
  go_enter Tryz.func180, Tryz.ntmps180
  go_wp2_with (go_at_call 211; refine (eqR0 _).mono ?_; rintro e1 w1 ⟨rfl, hx⟩; obtain rfl := hx.symm; clear hx)
  go_ret
  exact ⟨rfl, hB⟩
theorem xbsame0 (q : Bool) (w : World) : Calls Tryz.prog 167 #[bat0 q, bat0 q] w fun e w' => e = .returned (.bool true) ∧ Below w.heap.size w w' := by
 have hB : Below w.heap.size w ((w.alloc (.cells #[.bool q, .slice none 0 0] 87)).alloc (.cells #[.bool q, .slice none 0 0] 87)) := ((Below.refl _ w).alloc (Nat.le_refl _) _).alloc (by simp) _
 unfold bat0
 cases q
 all_goals
  go_enter Tryz.func167, Tryz.ntmps167
  go_wp2
  go_loopw [5] (fun iv wr => iv = .int .i64 0 ∧ wr = ((w.alloc (.cells #[.bool _, .slice none 0 0] 87)).alloc (.cells #[.bool _, .slice none 0 0] 87))) (fun _ _ => 0)
  case atStart => exact ⟨rfl, rfl⟩
  case round =>
   obtain ⟨rfl, rfl⟩ := hrel
   go_wp2
   go_ret
   exact ⟨rfl, hB⟩
theorem plain0 (q : Bool) (w : World) : Calls Tryz.prog 127 #[bat0 q] w fun e w' => e = .returned (.bool true) ∧ Below w.heap.size w w' := by
 have hB : Below w.heap.size w (w.alloc (.cells #[.bool q, .slice none 0 0] 87)) := (Below.refl _ w).alloc (Nat.le_refl _) _
 unfold bat0
 cases q
 all_goals
  go_enter Tryz.func127, Tryz.ntmps127
  go_wp2
  go_loopw [3] (fun iv wr => iv = .int .i64 0 ∧ wr = (w.alloc (.cells #[.bool _, .slice none 0 0] 87))) (fun _ _ => 0)
  case atStart => exact ⟨rfl, rfl⟩
  case round =>
   obtain ⟨rfl, rfl⟩ := hrel
   go_wp2
   go_ret
   exact ⟨rfl, hB⟩
theorem batMay0 (q : Bool) (w : World) : Calls Tryz.prog 188 #[bat0 q] w fun e w' => e = .returned (.bool true) ∧ Below w.heap.size w w' := by
 have hB : Below w.heap.size w (w.alloc (.cells #[.bool q, .slice none 0 0] 87)) := (Below.refl _ w).alloc (Nat.le_refl _) _
 unfold bat0
 cases q
 all_goals
  go_enter Tryz.func188, Tryz.ntmps188
  go_wp2_with (go_at_call 214; refine (amR0 _ _ (by omega) _).mono ?_; rintro e1 w1 ⟨rfl, hx⟩; obtain rfl := hx.symm; clear hx)
  go_ret
  exact ⟨rfl, hB⟩
theorem sigMay0 (w : World) : Calls Tryz.prog 192 #[.slice none 0 0] w fun e w' => e = .returned (.bool true) ∧ w' = w := by
 go_enter Tryz.func192, Tryz.ntmps192
 go_wp2_with (go_at_call 218; refine (amS0 _ _ (by omega) _).mono ?_; rintro e1 w1 ⟨rfl, hx⟩; obtain rfl := hx.symm; clear hx)
 go_ret
 exact ⟨rfl, rfl⟩
def chg0 : Value := .agg #[.int .i64 0, .int .i64 0, .int .i64 0, .slice none 0 0]
theorem schg0 (w : World) : Calls Tryz.prog 181 #[chg0, chg0] w fun e w' => e = .returned (.bool true) ∧ Below w.heap.size w w' := by
 have hB : Below w.heap.size w ((w.alloc (.cells #[.int .i64 0, .int .i64 0, .int .i64 0, .slice none 0 0] 92)).alloc (.cells #[.int .i64 0, .int .i64 0, .int .i64 0, .slice none 0 0] 92)) := ((Below.refl _ w).alloc (Nat.le_refl _) _).alloc (by simp) _
 unfold chg0
 go_enter Tryz.func181, Tryz.ntmps181
 go_wp2_with (go_at_call 212; refine (eqH0 _ _).mono ?_; rintro e1 w1 ⟨rfl, hx⟩; obtain rfl := hx.symm; clear hx)
 go_ret
 exact ⟨rfl, hB⟩
theorem chgMay0 (w : World) : Calls Tryz.prog 189 #[chg0] w fun e w' => e = .returned (.bool true) ∧ Below w.heap.size w w' := by
 have hB : Below w.heap.size w (w.alloc (.cells #[.int .i64 0, .int .i64 0, .int .i64 0, .slice none 0 0] 92)) := (Below.refl _ w).alloc (Nat.le_refl _) _
 have i1 : inB 0 1048576 = true := rfl
 have i2 : inB 0 64 = true := rfl
 have i3 : inB 0 1099511627776 = true := rfl
 unfold chg0
 go_enter Tryz.func189, Tryz.ntmps189
 go_wp2_with (first | (go_at_call 185; refine (within_any _ _ _).mono ?_; rintro e1 w1 ⟨rfl, hx⟩; obtain rfl := hx.symm; clear hx; (first | rw [i1] | rw [i2] | rw [i3])) | (go_at_call 216; refine (amH0 _ _ (by omega) _).mono ?_; rintro e1 w1 ⟨rfl, hx⟩; obtain rfl := hx.symm; clear hx))
 go_ret
 exact ⟨rfl, hB⟩
theorem wpList_load_g {P : Program} {ops : Array Oper} {rest : List Oper} {op : Oper} {a : Act} {w : World} {Q : Exit → Act → World → Prop} (hgd : Region.wanted op (yielded ops a.tmps) = true) (ty : TypeId) (x : Operand) (ho : op.op = .load ty x)
  (b o : Nat) (hx : a.eval x = .pointer (some ⟨b, o, none⟩)) (cs : List Value) (d : TypeDesc) (hc : w.rangeAt b o cs)
  (hu : P.underlying ty = some d) (hd : d.isRow = true) (hi : (P.info? ty).map (·.size) = some cs.length)
  (h : wpList P ops Q rest (a.put op.dst (.agg cs.toArray)) w) : wpList P ops Q (op :: rest) a w :=
 wpList_step fun _ hK => by rw [if_pos hgd]; exact wp_load_mid ty x ho b o hx cs d hc hu hd hi (hK _ _ h)
theorem iszC : (Tryz.prog.info? 95).map (·.size) = some 37 := by kernel_rfl
def cert0 (x : Vt) : List Value := x.cells ++ [.slice none 0 0]
theorem two_boxes (q : List Value) (t : TypeId) (w : World) : ((w.alloc (.cells q.toArray t)).alloc (.cells q.toArray t)).rangeAt w.heap.size 0 q ∧ ((w.alloc (.cells q.toArray t)).alloc (.cells q.toArray t)).rangeAt (w.heap.size + 1) 0 q ∧ Below w.heap.size w ((w.alloc (.cells q.toArray t)).alloc (.cells q.toArray t)) ∧ w.heap.size + 2 ≤ ((w.alloc (.cells q.toArray t)).alloc (.cells q.toArray t)).heap.size := by
 have hB : Below w.heap.size w (w.alloc (.cells q.toArray t)) := (Below.refl _ _).alloc (Nat.le_refl _) _
 have hB2 : Below (w.alloc (.cells q.toArray t)).heap.size (w.alloc (.cells q.toArray t)) ((w.alloc (.cells q.toArray t)).alloc (.cells q.toArray t)) := (Below.refl _ _).alloc (Nat.le_refl _) _
 have h1 := range_new w q.toArray t
 have h2 := range_new (w.alloc (.cells q.toArray t)) q.toArray t
 rw [World.size_alloc] at h2
 exact ⟨range_below (by simpa using h1) hB2 (by simp), by simpa using h2, hB.trans (hB2.mono (by simp)), by simp⟩
set_option maxRecDepth 100000 in
set_option maxHeartbeats 2000000 in
theorem scert0 (x : Vt) (hx : x.ok) (w : World) : Calls Tryz.prog 183 #[.agg (cert0 x).toArray, .agg (cert0 x).toArray] w fun e w' => e = .returned (.bool true) ∧ Below w.heap.size w w' := by
 obtain ⟨hA, hA', hB, hs⟩ := two_boxes (cert0 x) 95 w
 have r1 := range_left hA
 have r1' := range_left hA'
 have c1 := range_right hA 0 _ rfl
 have c1' := range_right hA' 0 _ rfl
 rw [hx.len] at c1 c1'
 simp only [Nat.zero_add, Nat.add_zero] at c1 c1'
 have ix : (Tryz.prog.info? 89).map (·.size) = some x.cells.length := by rw [hx.len]; exact iszV
 have hq := eqInV x x hx.dl hx.dl
 rw [vtB_self] at hq
 clear hA hA' hs hx
 generalize cert0 x = q at *
 generalize x.cells = u at *
 go_enter Tryz.func183, Tryz.ntmps183
 go_upto_region 1 with fail
 go_name_world w1 hw1
 rw [show (w.alloc (.cells q.toArray 95)).alloc (.cells q.toArray 95) = w1 from hw1] at r1 r1' c1 c1' hB
 clear hw1
 go_wp2_with (first | (refine wpList_load_mid rfl 89 _ rfl _ _ rfl u _ r1 Tryz.underlying89 rfl ix ?_) | (refine wpList_load_mid rfl 89 _ rfl _ _ rfl u _ r1' Tryz.underlying89 rfl ix ?_) | (go_at_call 184; refine (eqS0 _).mono ?_; rintro e1 w2 ⟨rfl, hx⟩; obtain rfl := hx.symm; clear hx))
 go_ret
 exact ⟨rfl, hB⟩
set_option maxRecDepth 100000 in
set_option maxHeartbeats 2000000 in
theorem xscert0 (x : Vt) (hx : x.ok) (w : World) : Calls Tryz.prog 169 #[.agg (cert0 x).toArray, .agg (cert0 x).toArray] w fun e w' => e = .returned (.bool true) ∧ Below w.heap.size w w' := by
 obtain ⟨hA, hA', hB, hs⟩ := two_boxes (cert0 x) 95 w
 have r1 := range_left hA
 have r1' := range_left hA'
 have c1 := range_right hA 0 _ rfl
 have c1' := range_right hA' 0 _ rfl
 rw [hx.len] at c1 c1'
 simp only [Nat.zero_add, Nat.add_zero] at c1 c1'
 have ix : (Tryz.prog.info? 89).map (·.size) = some x.cells.length := by rw [hx.len]; exact iszV
 have hq := eqInV x x hx.dl hx.dl
 rw [vtB_self] at hq
 clear hA hA' hs hx
 generalize cert0 x = q at *
 generalize x.cells = u at *
 go_enter Tryz.func169, Tryz.ntmps169
 go_upto_region 1 with fail
 go_name_world w1 hw1
 rw [show (w.alloc (.cells q.toArray 95)).alloc (.cells q.toArray 95) = w1 from hw1] at r1 r1' c1 c1' hB
 clear hw1
 go_wp2_with (first | (refine wpList_load_mid rfl 89 _ rfl _ _ rfl u _ r1 Tryz.underlying89 rfl ix ?_) | (refine wpList_load_mid rfl 89 _ rfl _ _ rfl u _ r1' Tryz.underlying89 rfl ix ?_) | (go_at_call 170; refine (xsS0 _).mono ?_; rintro e1 w2 ⟨rfl, hx⟩; obtain rfl := hx.symm; clear hx))
 go_ret
 exact ⟨rfl, hB⟩
set_option maxRecDepth 100000 in
set_option maxHeartbeats 4000000 in
theorem msame0 (k e s : Int) (x : Vt) (d : List Int) (hx : x.ok) (hd : d.length = 32) (hdb : ∀ z ∈ d, 0 ≤ z ∧ z < 256) (w : World) : Calls Tryz.prog 150 #[.agg (Ms.plain k e s x d).cells.toArray, .agg (Ms.plain k e s x d).cells.toArray] w fun e w' => e = .returned (.bool true) ∧ Below w.heap.size w w' := by
 have hm := Ms.plain_ok k e s hx hd hdb
 obtain ⟨hA, hA', hB, hs⟩ := two_boxes (Ms.plain k e s x d).cells 97 w
 obtain ⟨W, hW⟩ : ∃ W, Hid ((w.alloc (.cells (Ms.plain k e s x d).cells.toArray 97)).alloc (.cells (Ms.plain k e s x d).cells.toArray 97) = W) := ⟨_, hide rfl⟩
 rw [hW.out] at hA hA' hB hs
 have M := hm.at hA
 have M' := hm.at hA'
 have ix : (Tryz.prog.info? 89).map (·.size) = some x.cells.length := by rw [hx.len]; exact iszV
 have id : (Tryz.prog.info? 32).map (·.size) = some (v8 d).length := by rw [v8_length, hd]; exact iszD
 have ic : (Tryz.prog.info? 95).map (·.size) = some (cert0 Vt.zero).length := by rw [show (cert0 Vt.zero).length = 37 from rfl]; exact iszC
 have hq := eqInV x x hx.dl hx.dl
 have hq2 := eqInD d d hd hd
 rw [vtB_self] at hq
 rw [show (d == d) = true by simp] at hq2
 have cC := fun w0 => scert0 Vt.zero Vt.zero_ok w0
 have cK : W.cell? ⟨w.heap.size, 0, none⟩ = some (.int .i64 k) := M.k
 have cE : W.cell? ⟨w.heap.size, 1, none⟩ = some (.int .i64 e) := M.e
 have cL : W.cell? ⟨w.heap.size, 2, none⟩ = some (.int .i64 0) := M.l
 have cV : W.cell? ⟨w.heap.size, 3, none⟩ = some (.int .i64 0) := M.v
 have cS : W.cell? ⟨w.heap.size, 4, none⟩ = some (.int .i64 s) := M.s
 have cQ : W.cell? ⟨w.heap.size, 5, none⟩ = some (.bool false) := M.q
 have cR : W.cell? ⟨w.heap.size, 6, none⟩ = some (.slice none 0 0) := M.rs
 have c1 : W.cell? ⟨w.heap.size, 43, none⟩ = some (.int .i64 0) := M.ce
 have c2 : W.cell? ⟨w.heap.size, 44, none⟩ = some (.int .i64 0) := M.cl
 have c3 : W.cell? ⟨w.heap.size, 45, none⟩ = some (.int .i64 0) := M.cv
 have cH : W.cell? ⟨w.heap.size, 46, none⟩ = some (.slice none 0 0) := M.he
 have cN : W.cell? ⟨w.heap.size, 47, none⟩ = some (.slice none 0 0) := M.ne
 have cT : W.cell? ⟨w.heap.size, 117, none⟩ = some (.string ⟨#[]⟩) := M.st
 have cG : W.cell? ⟨w.heap.size, 118, none⟩ = some (.slice none 0 0) := M.sg
 have rV : W.rangeAt (w.heap.size) 7 x.cells := M.vt
 have rD : W.rangeAt (w.heap.size) 48 (v8 d) := M.d
 have rC : W.rangeAt (w.heap.size) 80 (cert0 Vt.zero) := M.ct
 have cK' : W.cell? ⟨w.heap.size + 1, 0, none⟩ = some (.int .i64 k) := M'.k
 have cE' : W.cell? ⟨w.heap.size + 1, 1, none⟩ = some (.int .i64 e) := M'.e
 have cL' : W.cell? ⟨w.heap.size + 1, 2, none⟩ = some (.int .i64 0) := M'.l
 have cV' : W.cell? ⟨w.heap.size + 1, 3, none⟩ = some (.int .i64 0) := M'.v
 have cS' : W.cell? ⟨w.heap.size + 1, 4, none⟩ = some (.int .i64 s) := M'.s
 have cQ' : W.cell? ⟨w.heap.size + 1, 5, none⟩ = some (.bool false) := M'.q
 have cR' : W.cell? ⟨w.heap.size + 1, 6, none⟩ = some (.slice none 0 0) := M'.rs
 have c1' : W.cell? ⟨w.heap.size + 1, 43, none⟩ = some (.int .i64 0) := M'.ce
 have c2' : W.cell? ⟨w.heap.size + 1, 44, none⟩ = some (.int .i64 0) := M'.cl
 have c3' : W.cell? ⟨w.heap.size + 1, 45, none⟩ = some (.int .i64 0) := M'.cv
 have cH' : W.cell? ⟨w.heap.size + 1, 46, none⟩ = some (.slice none 0 0) := M'.he
 have cN' : W.cell? ⟨w.heap.size + 1, 47, none⟩ = some (.slice none 0 0) := M'.ne
 have cT' : W.cell? ⟨w.heap.size + 1, 117, none⟩ = some (.string ⟨#[]⟩) := M'.st
 have cG' : W.cell? ⟨w.heap.size + 1, 118, none⟩ = some (.slice none 0 0) := M'.sg
 have rV' : W.rangeAt (w.heap.size + 1) 7 x.cells := M'.vt
 have rD' : W.rangeAt (w.heap.size + 1) 48 (v8 d) := M'.d
 have rC' : W.rangeAt (w.heap.size + 1) 80 (cert0 Vt.zero) := M'.ct
 clear hA hA' hm M M' hx hd hdb
 generalize (Ms.plain k e s x d).cells = q at *
 generalize x.cells = u at *
 generalize v8 d = ud at *
 generalize cert0 Vt.zero = uc at *
 go_enter Tryz.func150, Tryz.ntmps150
 go_upto_region 1 with fail
 go_name_world w1 hw1
 obtain rfl : W = w1 := hW.out.symm.trans hw1
 clear hw1 hW
 go_upto_region 3 with fail
 try simp only [Act.put]
 refine wp_region_list ?_
 refine wpList_step fun K hK => ?_
 go_simp
 refine hK _ _ ?_
 clear hK K
 refine wpList_load_mid rfl 89 _ rfl _ _ rfl u _ rV Tryz.underlying89 rfl ix ?_
 refine wpList_step fun K hK => ?_
 go_simp
 refine hK _ _ ?_
 clear hK K
 refine wpList_load_mid rfl 89 _ rfl _ _ rfl u _ rV' Tryz.underlying89 rfl ix ?_
 refine wpList_step fun K hK => ?_
 go_simp
 try rw [hq]
 try go_simp
 refine hK _ _ ?_
 clear hK K
 refine wpList_step fun K hK => ?_
 go_simp
 refine hK _ _ ?_
 clear hK K
 refine wpList_step fun K hK => ?_
 go_simp
 refine hK _ _ ?_
 clear hK K
 refine wpList_load_g (by rfl) 32 _ rfl _ _ rfl ud _ rD Tryz.underlying32 rfl id ?_
 refine wpList_step fun K hK => ?_
 go_simp
 refine hK _ _ ?_
 clear hK K
 refine wpList_load_g (by rfl) 32 _ rfl _ _ rfl ud _ rD' Tryz.underlying32 rfl id ?_
 refine wpList_step fun K hK => ?_
 go_simp
 try rw [hq2]
 try go_simp
 refine hK _ _ ?_
 clear hK K
 refine wpList_step fun K hK => ?_
 go_simp
 refine hK _ _ ?_
 clear hK K
 refine wpList_step fun K hK => ?_
 go_simp
 refine hK _ _ ?_
 clear hK K
 refine wpList_step fun K hK => ?_
 go_simp
 refine hK _ _ ?_
 clear hK K
 refine wpList_step fun K hK => ?_
 go_simp
 refine hK _ _ ?_
 clear hK K
 refine wpList_step fun K hK => ?_
 go_simp
 refine hK _ _ ?_
 clear hK K
 refine wpList_step fun K hK => ?_
 go_simp
 refine hK _ _ ?_
 clear hK K
 refine wpList_step fun K hK => ?_
 go_simp
 refine hK _ _ ?_
 clear hK K
 refine wpList_step fun K hK => ?_
 go_simp
 refine hK _ _ ?_
 clear hK K
 refine wpList_step fun K hK => ?_
 go_simp
 refine hK _ _ ?_
 clear hK K
 go_upto_region 5 with fail
 clear cK cE cL cV cS cK' cE' cL' cV' cS' rV rV' rD rD' cT cT' hq hq2
 go_wp2_with fail
 refine (bsame0 false _).mono ?_
 rintro e2 w2 ⟨rfl, hb2⟩
 have up := fun i v (h : W.cell? ⟨w.heap.size, i, none⟩ = some v) => (hb2.cell (p := ⟨w.heap.size, i, none⟩) (show w.heap.size < W.heap.size by omega)).trans h
 replace c1 := up _ _ c1
 replace c2 := up _ _ c2
 replace c3 := up _ _ c3
 replace cH := up _ _ cH
 replace cN := up _ _ cN
 replace cG := up _ _ cG
 replace rC := range_below rC hb2 (by omega)
 clear up
 have up' := fun i v (h : W.cell? ⟨w.heap.size + 1, i, none⟩ = some v) => (hb2.cell (p := ⟨w.heap.size + 1, i, none⟩) (show w.heap.size + 1 < W.heap.size by omega)).trans h
 replace c1' := up' _ _ c1'
 replace c2' := up' _ _ c2'
 replace c3' := up' _ _ c3'
 replace cH' := up' _ _ cH'
 replace cN' := up' _ _ cN'
 replace cG' := up' _ _ cG'
 replace rC' := range_below rC' hb2 (by omega)
 clear up'
 have hs2 := Nat.le_trans hs hb2.size
 have hB2 := hB.trans (hb2.mono (by omega))
 clear cQ cR cQ' cR' hb2 hs hB
 go_wp2_with fail
 refine (schg0 _).mono ?_
 rintro e3 w3 ⟨rfl, hb3⟩
 have up := fun i v (h : w2.cell? ⟨w.heap.size, i, none⟩ = some v) => (hb3.cell (p := ⟨w.heap.size, i, none⟩) (show w.heap.size < w2.heap.size by omega)).trans h
 replace cN := up _ _ cN
 replace cG := up _ _ cG
 replace rC := range_below rC hb3 (by omega)
 clear up
 have up' := fun i v (h : w2.cell? ⟨w.heap.size + 1, i, none⟩ = some v) => (hb3.cell (p := ⟨w.heap.size + 1, i, none⟩) (show w.heap.size + 1 < w2.heap.size by omega)).trans h
 replace cN' := up' _ _ cN'
 replace cG' := up' _ _ cG'
 replace rC' := range_below rC' hb3 (by omega)
 clear up'
 have hs3 := Nat.le_trans hs2 hb3.size
 have hB3 := hB2.trans (hb3.mono (by omega))
 clear c1 c2 c3 cH c1' c2' c3' cH' hb3 hs2 hB2
 go_wp2_with fail
 refine (eqE0 _).mono ?_
 rintro e4 w4 ⟨rfl, hx⟩
 obtain rfl := hx.symm
 clear hx cN cN'
 go_wp2_with (first | (refine wpList_load_g (by rfl) 95 _ rfl _ _ rfl uc _ rC Tryz.underlying95 rfl ic ?_) | (refine wpList_load_g (by rfl) 95 _ rfl _ _ rfl uc _ rC' Tryz.underlying95 rfl ic ?_))
 refine (cC _).mono ?_
 rintro e5 w5 ⟨rfl, hb5⟩
 have up := fun i v (h : w3.cell? ⟨w.heap.size, i, none⟩ = some v) => (hb5.cell (p := ⟨w.heap.size, i, none⟩) (show w.heap.size < w3.heap.size by omega)).trans h
 replace cG := up _ _ cG
 clear up
 have up' := fun i v (h : w3.cell? ⟨w.heap.size + 1, i, none⟩ = some v) => (hb5.cell (p := ⟨w.heap.size + 1, i, none⟩) (show w.heap.size + 1 < w3.heap.size by omega)).trans h
 replace cG' := up' _ _ cG'
 clear up'
 have hB5 := hB3.trans (hb5.mono (by omega))
 clear rC rC' hb5 hs3 hB3 cC
 go_wp2_with fail
 refine (eqS0 _).mono ?_
 rintro e6 w6 ⟨rfl, hx⟩
 obtain rfl := hx.symm
 clear hx cG cG'
 go_wp2_with fail
 go_ret
 exact ⟨rfl, hB5⟩
theorem iszH4 : (Tryz.prog.info? 92).map (·.size) = some 4 := by kernel_rfl
theorem one4 : (#[Value.int .i64 0, .int .i64 0, .int .i64 0, .slice none 0 0] : Array Value).all (·.oneCell') = true := by simp [Value.oneCell']
set_option maxRecDepth 100000 in
set_option maxHeartbeats 4000000 in
theorem xsame0 (k e s : Int) (x : Vt) (d : List Int) (hx : x.ok) (hd : d.length = 32) (hdb : ∀ z ∈ d, 0 ≤ z ∧ z < 256) (w : World) : Calls Tryz.prog 123 #[.agg (Ms.plain k e s x d).cells.toArray, .agg (Ms.plain k e s x d).cells.toArray] w fun e w' => e = .returned (.bool true) ∧ Below w.heap.size w w' := by
 have hm := Ms.plain_ok k e s hx hd hdb
 obtain ⟨hA, hA', hB, hs⟩ := two_boxes (Ms.plain k e s x d).cells 97 w
 obtain ⟨W, hW⟩ : ∃ W, Hid ((w.alloc (.cells (Ms.plain k e s x d).cells.toArray 97)).alloc (.cells (Ms.plain k e s x d).cells.toArray 97) = W) := ⟨_, hide rfl⟩
 rw [hW.out] at hA hA' hB hs
 have M := hm.at hA
 have M' := hm.at hA'
 have ix : (Tryz.prog.info? 89).map (·.size) = some x.cells.length := by rw [hx.len]; exact iszV
 have id : (Tryz.prog.info? 32).map (·.size) = some (v8 d).length := by rw [v8_length, hd]; exact iszD
 have ic : (Tryz.prog.info? 95).map (·.size) = some (cert0 Vt.zero).length := by rw [show (cert0 Vt.zero).length = 37 from rfl]; exact iszC
 have hq := eqInV x x hx.dl hx.dl
 have hq2 := eqInD d d hd hd
 rw [vtB_self] at hq
 rw [show (d == d) = true by simp] at hq2
 have cC := fun w0 => xscert0 Vt.zero Vt.zero_ok w0
 have cK : W.cell? ⟨w.heap.size, 0, none⟩ = some (.int .i64 k) := M.k
 have cE : W.cell? ⟨w.heap.size, 1, none⟩ = some (.int .i64 e) := M.e
 have cL : W.cell? ⟨w.heap.size, 2, none⟩ = some (.int .i64 0) := M.l
 have cV : W.cell? ⟨w.heap.size, 3, none⟩ = some (.int .i64 0) := M.v
 have cS : W.cell? ⟨w.heap.size, 4, none⟩ = some (.int .i64 s) := M.s
 have cQ : W.cell? ⟨w.heap.size, 5, none⟩ = some (.bool false) := M.q
 have cR : W.cell? ⟨w.heap.size, 6, none⟩ = some (.slice none 0 0) := M.rs
 have c1 : W.cell? ⟨w.heap.size, 43, none⟩ = some (.int .i64 0) := M.ce
 have c2 : W.cell? ⟨w.heap.size, 44, none⟩ = some (.int .i64 0) := M.cl
 have c3 : W.cell? ⟨w.heap.size, 45, none⟩ = some (.int .i64 0) := M.cv
 have cH : W.cell? ⟨w.heap.size, 46, none⟩ = some (.slice none 0 0) := M.he
 have cN : W.cell? ⟨w.heap.size, 47, none⟩ = some (.slice none 0 0) := M.ne
 have cT : W.cell? ⟨w.heap.size, 117, none⟩ = some (.string ⟨#[]⟩) := M.st
 have cG : W.cell? ⟨w.heap.size, 118, none⟩ = some (.slice none 0 0) := M.sg
 have rV : W.rangeAt (w.heap.size) 7 x.cells := M.vt
 have rD : W.rangeAt (w.heap.size) 48 (v8 d) := M.d
 have rC : W.rangeAt (w.heap.size) 80 (cert0 Vt.zero) := M.ct
 have cK' : W.cell? ⟨w.heap.size + 1, 0, none⟩ = some (.int .i64 k) := M'.k
 have cE' : W.cell? ⟨w.heap.size + 1, 1, none⟩ = some (.int .i64 e) := M'.e
 have cL' : W.cell? ⟨w.heap.size + 1, 2, none⟩ = some (.int .i64 0) := M'.l
 have cV' : W.cell? ⟨w.heap.size + 1, 3, none⟩ = some (.int .i64 0) := M'.v
 have cS' : W.cell? ⟨w.heap.size + 1, 4, none⟩ = some (.int .i64 s) := M'.s
 have cQ' : W.cell? ⟨w.heap.size + 1, 5, none⟩ = some (.bool false) := M'.q
 have cR' : W.cell? ⟨w.heap.size + 1, 6, none⟩ = some (.slice none 0 0) := M'.rs
 have c1' : W.cell? ⟨w.heap.size + 1, 43, none⟩ = some (.int .i64 0) := M'.ce
 have c2' : W.cell? ⟨w.heap.size + 1, 44, none⟩ = some (.int .i64 0) := M'.cl
 have c3' : W.cell? ⟨w.heap.size + 1, 45, none⟩ = some (.int .i64 0) := M'.cv
 have cH' : W.cell? ⟨w.heap.size + 1, 46, none⟩ = some (.slice none 0 0) := M'.he
 have cN' : W.cell? ⟨w.heap.size + 1, 47, none⟩ = some (.slice none 0 0) := M'.ne
 have cT' : W.cell? ⟨w.heap.size + 1, 117, none⟩ = some (.string ⟨#[]⟩) := M'.st
 have cG' : W.cell? ⟨w.heap.size + 1, 118, none⟩ = some (.slice none 0 0) := M'.sg
 have rV' : W.rangeAt (w.heap.size + 1) 7 x.cells := M'.vt
 have rD' : W.rangeAt (w.heap.size + 1) 48 (v8 d) := M'.d
 have rC' : W.rangeAt (w.heap.size + 1) 80 (cert0 Vt.zero) := M'.ct
 clear hA hA' hm M M' hx hd hdb
 generalize (Ms.plain k e s x d).cells = q at *
 generalize x.cells = u at *
 generalize v8 d = ud at *
 generalize cert0 Vt.zero = uc at *
 go_enter Tryz.func123, Tryz.ntmps123
 go_upto_region 1 with fail
 go_name_world w1 hw1
 obtain rfl : W = w1 := hW.out.symm.trans hw1
 clear hw1 hW
 try simp only [Act.put]
 refine wp_region_list ?_
 refine wpList_step fun K hK => ?_
 go_simp
 refine hK _ _ ?_
 clear hK K
 refine wpList_step fun K hK => ?_
 go_simp
 refine hK _ _ ?_
 clear hK K
 refine wpList_step fun K hK => ?_
 go_simp
 refine hK _ _ ?_
 clear hK K
 refine wpList_step fun K hK => ?_
 go_simp
 refine hK _ _ ?_
 clear hK K
 refine wpList_step fun K hK => ?_
 go_simp
 refine hK _ _ ?_
 clear hK K
 refine wpList_step fun K hK => ?_
 go_simp
 refine hK _ _ ?_
 clear hK K
 refine wpList_step fun K hK => ?_
 go_simp
 refine hK _ _ ?_
 clear hK K
 refine wpList_step fun K hK => ?_
 go_simp
 refine hK _ _ ?_
 clear hK K
 refine wpList_step fun K hK => ?_
 go_simp
 refine hK _ _ ?_
 clear hK K
 refine wpList_step fun K hK => ?_
 go_simp
 refine hK _ _ ?_
 clear hK K
 refine wpList_step fun K hK => ?_
 go_simp
 refine hK _ _ ?_
 clear hK K
 refine wpList_step fun K hK => ?_
 go_simp
 refine hK _ _ ?_
 clear hK K
 refine wpList_step fun K hK => ?_
 go_simp
 refine hK _ _ ?_
 clear hK K
 refine wpList_step fun K hK => ?_
 go_simp
 refine hK _ _ ?_
 clear hK K
 refine wpList_step fun K hK => ?_
 go_simp
 refine hK _ _ ?_
 clear hK K
 refine wpList_step fun K hK => ?_
 go_simp
 refine hK _ _ ?_
 clear hK K
 refine wpList_step fun K hK => ?_
 go_simp
 refine hK _ _ ?_
 clear hK K
 refine wpList_step fun K hK => ?_
 go_simp
 refine hK _ _ ?_
 clear hK K
 refine wpList_step fun K hK => ?_
 go_simp
 refine hK _ _ ?_
 clear hK K
 refine wpList_step fun K hK => ?_
 go_simp
 refine hK _ _ ?_
 clear hK K
 refine wpList_step fun K hK => ?_
 go_simp
 refine hK _ _ ?_
 clear hK K
 refine wpList_step fun K hK => ?_
 go_simp
 refine hK _ _ ?_
 clear hK K
 refine wpList_step fun K hK => ?_
 go_simp
 refine hK _ _ ?_
 clear hK K
 refine wpList_step fun K hK => ?_
 go_simp
 refine hK _ _ ?_
 clear hK K
 refine wpList_step fun K hK => ?_
 go_simp
 refine hK _ _ ?_
 clear hK K
 refine wpList_step fun K hK => ?_
 go_simp
 refine hK _ _ ?_
 clear hK K
 refine wpList_step fun K hK => ?_
 go_simp
 refine hK _ _ ?_
 clear hK K
 refine wpList_step fun K hK => ?_
 go_simp
 refine hK _ _ ?_
 clear hK K
 refine wpList_step fun K hK => ?_
 go_simp
 refine hK _ _ ?_
 clear hK K
 refine wpList_step fun K hK => ?_
 go_simp
 refine hK _ _ ?_
 clear hK K
 refine wpList_step fun K hK => ?_
 go_simp
 refine hK _ _ ?_
 clear hK K
 refine wpList_step fun K hK => ?_
 go_simp
 refine hK _ _ ?_
 clear hK K
 refine wpList_step fun K hK => ?_
 go_simp
 refine hK _ _ ?_
 clear hK K
 refine wpList_step fun K hK => ?_
 go_simp
 refine hK _ _ ?_
 clear hK K
 refine wpList_step fun K hK => ?_
 go_simp
 refine hK _ _ ?_
 clear hK K
 refine wpList_load_g (by rfl) 89 _ rfl _ _ rfl u _ rV Tryz.underlying89 rfl ix ?_
 refine wpList_step fun K hK => ?_
 go_simp
 refine hK _ _ ?_
 clear hK K
 refine wpList_load_g (by rfl) 89 _ rfl _ _ rfl u _ rV' Tryz.underlying89 rfl ix ?_
 refine wpList_step fun K hK => ?_
 go_simp
 try rw [hq]
 try go_simp
 refine hK _ _ ?_
 clear hK K
 refine wpList_step fun K hK => ?_
 go_simp
 refine hK _ _ ?_
 clear hK K
 refine wpList_step fun K hK => ?_
 go_simp
 refine hK _ _ ?_
 clear hK K
 refine wpList_step fun K hK => ?_
 go_simp
 refine hK _ _ ?_
 clear hK K
 refine wpList_load_g (by rfl) 32 _ rfl _ _ rfl ud _ rD Tryz.underlying32 rfl id ?_
 refine wpList_step fun K hK => ?_
 go_simp
 refine hK _ _ ?_
 clear hK K
 refine wpList_load_g (by rfl) 32 _ rfl _ _ rfl ud _ rD' Tryz.underlying32 rfl id ?_
 refine wpList_step fun K hK => ?_
 go_simp
 try rw [hq2]
 try go_simp
 refine hK _ _ ?_
 clear hK K
 refine wpList_step fun K hK => ?_
 go_simp
 refine hK _ _ ?_
 clear hK K
 refine wpList_step fun K hK => ?_
 go_simp
 refine hK _ _ ?_
 clear hK K
 refine wpList_step fun K hK => ?_
 go_simp
 refine hK _ _ ?_
 clear hK K
 refine wpList_step fun K hK => ?_
 go_simp
 refine hK _ _ ?_
 clear hK K
 refine wpList_step fun K hK => ?_
 go_simp
 refine hK _ _ ?_
 clear hK K
 refine wpList_step fun K hK => ?_
 go_simp
 refine hK _ _ ?_
 clear hK K
 refine wpList_step fun K hK => ?_
 go_simp
 refine hK _ _ ?_
 clear hK K
 refine wpList_step fun K hK => ?_
 go_simp
 refine hK _ _ ?_
 clear hK K
 go_upto_region 3 with fail
 clear cK cE cL cV cS cK' cE' cL' cV' cS' rV rV' rD rD' cT cT' hq hq2
 obtain ⟨r2, hb2, hz2, _⟩ := fresh_store W #[.int .i64 0, .int .i64 0, .int .i64 0, .slice none 0 0] 92 [.int .i64 0, .int .i64 0, .int .i64 0, .slice none 0 0] rfl
 have hT2 := there_new W #[.int .i64 0, .int .i64 0, .int .i64 0, .slice none 0 0] 92
 go_upto_region 4 with (refine wpList_store_mid rfl 92 _ _ rfl _ _ #[.int .i64 0, .int .i64 0, .int .i64 0, .slice none 0 0] rfl rfl hT2 iszH4 one4 ?_)
 go_name_world w2 hw2
 rw [show (W.alloc (.cells #[.int .i64 0, .int .i64 0, .int .i64 0, .slice none 0 0] 92)).setCells W.heap.size 0 [.int .i64 0, .int .i64 0, .int .i64 0, .slice none 0 0] = w2 from hw2] at r2 hb2 hz2
 have hs2 : W.heap.size < w2.heap.size := by omega
 clear hw2 hz2 hT2
 have up := fun i v (h : W.cell? ⟨w.heap.size, i, none⟩ = some v) => (hb2.cell (p := ⟨w.heap.size, i, none⟩) (show w.heap.size < W.heap.size by omega)).trans h
 replace c1 := up _ _ c1
 replace c2 := up _ _ c2
 replace c3 := up _ _ c3
 replace cH := up _ _ cH
 replace cQ := up _ _ cQ
 replace cR := up _ _ cR
 replace cN := up _ _ cN
 replace cG := up _ _ cG
 replace rC := range_below rC hb2 (by omega)
 clear up
 have up' := fun i v (h : W.cell? ⟨w.heap.size + 1, i, none⟩ = some v) => (hb2.cell (p := ⟨w.heap.size + 1, i, none⟩) (show w.heap.size + 1 < W.heap.size by omega)).trans h
 replace c1' := up' _ _ c1'
 replace c2' := up' _ _ c2'
 replace c3' := up' _ _ c3'
 replace cH' := up' _ _ cH'
 replace cQ' := up' _ _ cQ'
 replace cR' := up' _ _ cR'
 replace cN' := up' _ _ cN'
 replace cG' := up' _ _ cG'
 replace rC' := range_below rC' hb2 (by omega)
 clear up'
 have hBa := hB.trans (hb2.mono (by omega))
 clear hB
 obtain ⟨r3, hb3, hz3, _⟩ := fresh_store w2 #[.int .i64 0, .int .i64 0, .int .i64 0, .slice none 0 0] 92 [.int .i64 0, .int .i64 0, .int .i64 0, .slice none 0 0] rfl
 have hT3 := there_new w2 #[.int .i64 0, .int .i64 0, .int .i64 0, .slice none 0 0] 92
 go_upto_region 5 with (refine wpList_store_mid rfl 92 _ _ rfl _ _ #[.int .i64 0, .int .i64 0, .int .i64 0, .slice none 0 0] rfl rfl hT3 iszH4 one4 ?_)
 go_name_world w3 hw3
 rw [show (w2.alloc (.cells #[.int .i64 0, .int .i64 0, .int .i64 0, .slice none 0 0] 92)).setCells w2.heap.size 0 [.int .i64 0, .int .i64 0, .int .i64 0, .slice none 0 0] = w3 from hw3] at r3 hb3 hz3
 have hs3 : w2.heap.size < w3.heap.size := by omega
 clear hw3 hz3 hT3
 have up := fun i v (h : w2.cell? ⟨w.heap.size, i, none⟩ = some v) => (hb3.cell (p := ⟨w.heap.size, i, none⟩) (show w.heap.size < w2.heap.size by omega)).trans h
 replace cQ := up _ _ cQ
 replace cR := up _ _ cR
 replace cN := up _ _ cN
 replace cG := up _ _ cG
 replace rC := range_below rC hb3 (by omega)
 clear up
 have up' := fun i v (h : w2.cell? ⟨w.heap.size + 1, i, none⟩ = some v) => (hb3.cell (p := ⟨w.heap.size + 1, i, none⟩) (show w.heap.size + 1 < w2.heap.size by omega)).trans h
 replace cQ' := up' _ _ cQ'
 replace cR' := up' _ _ cR'
 replace cN' := up' _ _ cN'
 replace cG' := up' _ _ cG'
 replace rC' := range_below rC' hb3 (by omega)
 clear up'
 have hBb := hBa.trans (hb3.mono (by omega))
 have d0 := range_below r2 hb3 (by omega) 0 _ rfl
 have d1 := range_below r2 hb3 (by omega) 1 _ rfl
 have d2 := range_below r2 hb3 (by omega) 2 _ rfl
 have d3 := range_below r2 hb3 (by omega) 3 _ rfl
 have f0 := r3 0 _ rfl
 have f1 := r3 1 _ rfl
 have f2 := r3 2 _ rfl
 have f3 := r3 3 _ rfl
 simp only [Nat.zero_add, Nat.add_zero] at d0 d1 d2 d3 f0 f1 f2 f3
 have hs4 : w.heap.size + 2 ≤ w3.heap.size := by omega
 clear r2 r3 hb2 hb3 hBa c1 c2 c3 cH c1' c2' c3' cH' hs hs2 hs3
 go_wp2_with fail
 refine (xsH0 _).mono ?_
 rintro e4 w4 ⟨rfl, hx⟩
 obtain rfl := hx.symm
 clear hx d0 d1 d2 d3 f0 f1 f2 f3
 go_upto_region 7 with fail
 go_wp2_with fail
 refine (xbsame0 false _).mono ?_
 rintro e5 w5 ⟨rfl, hb5⟩
 have up := fun i v (h : w3.cell? ⟨w.heap.size, i, none⟩ = some v) => (hb5.cell (p := ⟨w.heap.size, i, none⟩) (show w.heap.size < w3.heap.size by omega)).trans h
 replace cN := up _ _ cN
 replace cG := up _ _ cG
 replace rC := range_below rC hb5 (by omega)
 clear up
 have up' := fun i v (h : w3.cell? ⟨w.heap.size + 1, i, none⟩ = some v) => (hb5.cell (p := ⟨w.heap.size + 1, i, none⟩) (show w.heap.size + 1 < w3.heap.size by omega)).trans h
 replace cN' := up' _ _ cN'
 replace cG' := up' _ _ cG'
 replace rC' := range_below rC' hb5 (by omega)
 clear up'
 have hs5 := Nat.le_trans hs4 hb5.size
 have hB5 := hBb.trans (hb5.mono (by omega))
 clear cQ cR cQ' cR' hb5 hs4 hBb
 go_wp2_with fail
 refine (xsN0 _).mono ?_
 rintro e6 w6 ⟨rfl, hx⟩
 obtain rfl := hx.symm
 clear hx cN cN'
 go_wp2_with (first | (refine wpList_load_g (by rfl) 95 _ rfl _ _ rfl uc _ rC Tryz.underlying95 rfl ic ?_) | (refine wpList_load_g (by rfl) 95 _ rfl _ _ rfl uc _ rC' Tryz.underlying95 rfl ic ?_))
 refine (cC _).mono ?_
 rintro e7 w7 ⟨rfl, hb7⟩
 have up := fun i v (h : w5.cell? ⟨w.heap.size, i, none⟩ = some v) => (hb7.cell (p := ⟨w.heap.size, i, none⟩) (show w.heap.size < w5.heap.size by omega)).trans h
 replace cG := up _ _ cG
 clear up
 have up' := fun i v (h : w5.cell? ⟨w.heap.size + 1, i, none⟩ = some v) => (hb7.cell (p := ⟨w.heap.size + 1, i, none⟩) (show w.heap.size + 1 < w5.heap.size by omega)).trans h
 replace cG' := up' _ _ cG'
 clear up'
 have hB7 := hB5.trans (hb7.mono (by omega))
 clear rC rC' hb7 hs5 hB5 cC
 go_wp2_with fail
 refine (xsS0 _).mono ?_
 rintro e8 w8 ⟨rfl, hx⟩
 obtain rfl := hx.symm
 clear hx cG cG'
 go_wp2_with fail
 go_ret
 exact ⟨rfl, hB7⟩
set_option maxRecDepth 100000 in
set_option maxHeartbeats 4000000 in
theorem fmay5 (e : Int) (d : List Int) (hd : d.length = 32) (hdb : ∀ z ∈ d, 0 ≤ z ∧ z < 256) (w : World) : Calls Tryz.prog 152 #[.agg (Ms.plain 5 e 0 Vt.zero d).cells.toArray] w fun er w' => er = .returned (.bool (inB e 1048576)) ∧ Below w.heap.size w w' := by
 have hm : (Ms.plain 5 e 0 Vt.zero d).ok := Ms.plain_ok 5 e 0 Vt.zero_ok hd hdb
 have hB : Below w.heap.size w (w.alloc (.cells (Ms.plain 5 e 0 Vt.zero d).cells.toArray 97)) := (Below.refl _ _).alloc (Nat.le_refl _) _
 have hs : w.heap.size < (w.alloc (.cells (Ms.plain 5 e 0 Vt.zero d).cells.toArray 97)).heap.size := by simp
 have M := (Ms.plain 5 e 0 Vt.zero d).box hm w
 obtain ⟨W, hW⟩ : ∃ W, Hid (w.alloc (.cells (Ms.plain 5 e 0 Vt.zero d).cells.toArray 97) = W) := ⟨_, hide rfl⟩
 rw [hW.out] at hB hs M
 have cK : W.cell? ⟨w.heap.size, 0, none⟩ = some (.int .i64 5) := M.k
 have cE : W.cell? ⟨w.heap.size, 1, none⟩ = some (.int .i64 e) := M.e
 have cL : W.cell? ⟨w.heap.size, 2, none⟩ = some (.int .i64 0) := M.l
 have cV : W.cell? ⟨w.heap.size, 3, none⟩ = some (.int .i64 0) := M.v
 have cS : W.cell? ⟨w.heap.size, 4, none⟩ = some (.int .i64 0) := M.s
 have cQ : W.cell? ⟨w.heap.size, 5, none⟩ = some (.bool false) := M.q
 have cR : W.cell? ⟨w.heap.size, 6, none⟩ = some (.slice none 0 0) := M.rs
 have c1 : W.cell? ⟨w.heap.size, 43, none⟩ = some (.int .i64 0) := M.ce
 have c2 : W.cell? ⟨w.heap.size, 44, none⟩ = some (.int .i64 0) := M.cl
 have c3 : W.cell? ⟨w.heap.size, 45, none⟩ = some (.int .i64 0) := M.cv
 have cH : W.cell? ⟨w.heap.size, 46, none⟩ = some (.slice none 0 0) := M.he
 have cN : W.cell? ⟨w.heap.size, 47, none⟩ = some (.slice none 0 0) := M.ne
 have cT : W.cell? ⟨w.heap.size, 117, none⟩ = some (.string ⟨#[]⟩) := M.st
 have cG : W.cell? ⟨w.heap.size, 118, none⟩ = some (.slice none 0 0) := M.sg
 have i1 : inB 0 1048576 = true := rfl
 have i2 : inB 0 64 = true := rfl
 have i3 : inB 0 1099511627776 = true := rfl
 have i5 := i3
 cases i4 : inB e 1048576
 ·generalize (Ms.plain 5 e 0 Vt.zero d).cells = q at *
  clear hm M hd hdb i1
  go_enter Tryz.func152, Tryz.ntmps152
  go_upto_region 1 with fail
  go_name_world w1 hw1
  obtain rfl : W = w1 := hW.out.symm.trans hw1
  clear hw1 hW
  go_wp2_with (go_at_call 185; refine (within_any _ _ _).mono ?_; rintro e1 w1 ⟨rfl, hx⟩; obtain rfl := hx.symm; clear hx; (first | rw [i2] | rw [i3] | rw [i4] | rw [i5]))
  go_ret
  exact ⟨rfl, hB⟩
 ·generalize (Ms.plain 5 e 0 Vt.zero d).cells = q at *
  clear hm M hd hdb
  go_enter Tryz.func152, Tryz.ntmps152
  go_upto_region 1 with fail
  go_name_world w1 hw1
  obtain rfl : W = w1 := hW.out.symm.trans hw1
  clear hw1 hW
  go_upto_region 9 with (go_at_call 185; refine (within_any _ _ _).mono ?_; rintro e1 w1 ⟨rfl, hx⟩; obtain rfl := hx.symm; clear hx; (first | rw [i1] | rw [i2] | rw [i3] | rw [i4] | rw [i5]))
  go_wp2_with fail
  refine (batMay0 false _).mono ?_
  rintro e3 w3 ⟨rfl, hb3⟩
  have up := fun i v (h : W.cell? ⟨w.heap.size, i, none⟩ = some v) => (hb3.cell (p := ⟨w.heap.size, i, none⟩) (show w.heap.size < W.heap.size by omega)).trans h
  replace c1 := up _ _ c1
  replace c2 := up _ _ c2
  replace c3 := up _ _ c3
  replace cH := up _ _ cH
  replace cN := up _ _ cN
  replace cT := up _ _ cT
  replace cG := up _ _ cG
  clear up
  have hs3 := Nat.lt_of_lt_of_le hs hb3.size
  have hB3 := hB.trans (hb3.mono (by omega))
  clear cQ cR hb3 hB hs
  go_wp2_with fail
  refine (chgMay0 _).mono ?_
  rintro e4 w4 ⟨rfl, hb4⟩
  have up := fun i v (h : w3.cell? ⟨w.heap.size, i, none⟩ = some v) => (hb4.cell (p := ⟨w.heap.size, i, none⟩) (show w.heap.size < w3.heap.size by omega)).trans h
  replace cN := up _ _ cN
  replace cT := up _ _ cT
  replace cG := up _ _ cG
  clear up
  have hs4 := Nat.lt_of_lt_of_le hs3 hb4.size
  have hB4 := hB3.trans (hb4.mono (by omega))
  clear c1 c2 c3 cH hb4 hB3 hs3
  go_wp2_with fail
  refine (amE0 _ _ (by omega) _).mono ?_
  rintro e5 w5 ⟨rfl, hx⟩
  obtain rfl := hx.symm
  clear hx cN
  go_wp2_with fail
  refine (sigMay0 _).mono ?_
  rintro e6 w6 ⟨rfl, hx⟩
  obtain rfl := hx.symm
  clear hx cT cG
  go_wp2_with fail
  go_ret
  exact ⟨rfl, hB4⟩
set_option maxRecDepth 100000 in
set_option maxHeartbeats 4000000 in
theorem good0 (q : List Value) (k : Int) (b : Bool) (w : World) (hq : q.length = 119) (h0 : q[0]? = some (.int .i64 k)) (h1 : 1 ≤ k) (h8 : k ≤ 8)
  (hb : ∀ w, Calls Tryz.prog 151 #[.agg q.toArray] w (BareOk w q))
  (hsm : ∀ w, Calls Tryz.prog 150 #[.agg q.toArray, .agg q.toArray] w fun e w' => e = .returned (.bool true) ∧ Below w.heap.size w w')
  (hf : ∀ w, Calls Tryz.prog 152 #[.agg q.toArray] w fun e w' => e = .returned (.bool b) ∧ Below w.heap.size w w') :
  Calls Tryz.prog 115 #[.agg q.toArray] w fun e w' => e = .returned (.bool b) ∧ Below w.heap.size w w' := by
 have hB : Below w.heap.size w (w.alloc (.cells q.toArray 97)) := (Below.refl _ _).alloc (Nat.le_refl _) _
 have hs : w.heap.size < (w.alloc (.cells q.toArray 97)).heap.size := by simp
 have hA : (w.alloc (.cells q.toArray 97)).rangeAt w.heap.size 0 q := by simpa using range_new w q.toArray 97
 have c0 := hA 0 _ h0
 simp only [Nat.add_zero] at c0
 have iq : (Tryz.prog.info? 97).map (·.size) = some q.length := by rw [hq]; exact iszM
 clear hq h0
 go_enter Tryz.func115, Tryz.ntmps115
 go_upto_region 2 with fail
 obtain ⟨w8, hw8⟩ : ∃ w8, (w.alloc (.cells q.toArray 97)).drew = w8 := ⟨_, rfl⟩
 have hB8 : Below w.heap.size w w8 := by rw [← hw8]; exact hB.drew
 have hA8 : w8.rangeAt w.heap.size 0 q := by rw [← hw8]; exact (World.rangeAt_drew _ _ _ _).2 hA
 have hs8 : w.heap.size < w8.heap.size := by rw [← hw8]; exact hs
 refine hs_begin (S := (Below w8.heap.size w8)) 12 rfl (by kernel_rfl) ?_
 rw [hw8]
 clear hw8 hA hB hs c0
 have hS : (Below w8.heap.size w8) w8 := Below.refl _ _
 refine hs_t 0 12 (?_) rfl (by kernel_rfl) (by kernel_rfl) (by kernel_rfl) (by rfl) ?_ hS rfl ?_
 rotate_left
 ·intro w' hw
  go_simp
  try with_reducible rfl
 simp only [nz]
 refine hs_t 1 13 (?_) rfl (by kernel_rfl) (by kernel_rfl) (by kernel_rfl) (by rfl) ?_ hS rfl ?_
 rotate_left
 ·intro w' hw
  go_simp
  try with_reducible rfl
 simp only [nz]
 refine hs_t 2 14 (.agg q.toArray) rfl (by kernel_rfl) (by kernel_rfl) (by kernel_rfl) (by rfl) (fun w' hw => exec_loadC rfl rfl (run_loadVar_mid (P := Tryz.prog) w' w.heap.size 0 97 q _ (range_below hA8 hw hs8) Tryz.underlying97 rfl iq)) hS rfl ?_
 simp only [nz]
 refine hs_t 3 15 (.agg q.toArray) rfl (by kernel_rfl) (by kernel_rfl) (by kernel_rfl) (by rfl) (fun w' hw => exec_loadC rfl rfl (run_loadVar_mid (P := Tryz.prog) w' w.heap.size 0 97 q _ (range_below hA8 hw hs8) Tryz.underlying97 rfl iq)) hS rfl ?_
 simp only [nz]
 refine hs_call (i := 4) (d := some 16) rfl (by kernel_rfl) (by rfl) (by go_simp; first | done | exact ⟨rfl, rfl⟩ | with_reducible rfl) rfl ?_
 refine (hb _).mono ?_
 rintro e' wn1 ⟨rfl, hb1⟩
 have hS : (Below w8.heap.size w8) wn1 := hS.trans (hb1.mono hS.size)
 refine ⟨_, rfl, hS, ?_⟩
 simp only [nz]
 refine hs_call (i := 5) (d := some 17) rfl (by kernel_rfl) (by rfl) (by go_simp; first | done | exact ⟨rfl, rfl⟩ | with_reducible rfl) rfl ?_
 refine (hsm _).mono ?_
 rintro e' wn2 ⟨rfl, hb2⟩
 have hS : (Below w8.heap.size w8) wn2 := hS.trans (hb2.mono hS.size)
 refine ⟨_, rfl, hS, ?_⟩
 simp only [nz]
 refine hs_t 6 18 (?_) rfl (by kernel_rfl) (by kernel_rfl) (by kernel_rfl) (by rfl) ?_ hS rfl ?_
 rotate_left
 ·intro w' hw
  go_simp
  try with_reducible rfl
 simp only [nz]
 refine hs_t 7 19 (?_) rfl (by kernel_rfl) (by kernel_rfl) (by kernel_rfl) (by rfl) ?_ hS rfl ?_
 rotate_left
 ·intro w' hw
  go_simp
  try with_reducible rfl
 simp only [nz]
 refine hs_t 8 20 (.agg q.toArray) rfl (by kernel_rfl) (by kernel_rfl) (by kernel_rfl) (by rfl) (fun w' hw => exec_loadC rfl rfl (run_loadVar_mid (P := Tryz.prog) w' w.heap.size 0 97 q _ (range_below hA8 hw hs8) Tryz.underlying97 rfl iq)) hS rfl ?_
 simp only [nz]
 refine hs_call (i := 9) (d := some 21) rfl (by kernel_rfl) (by rfl) (by go_simp; first | done | exact ⟨rfl, rfl⟩ | with_reducible rfl) rfl ?_
 refine (hf _).mono ?_
 rintro e' wn3 ⟨rfl, hb3⟩
 have hS : (Below w8.heap.size w8) wn3 := hS.trans (hb3.mono hS.size)
 refine ⟨_, rfl, hS, ?_⟩
 simp only [nz]
 refine hs_t 10 22 (?_) rfl (by kernel_rfl) (by kernel_rfl) (by kernel_rfl) (by rfl) ?_ hS rfl ?_
 rotate_left
 ·intro w' hw
  go_simp
  try with_reducible rfl
 simp only [nz]
 refine hs_t 11 2 (?_) rfl (by kernel_rfl) (by kernel_rfl) (by kernel_rfl) (by rfl) ?_ hS rfl ?_
 rotate_left
 ·intro w' hw
  go_simp
  try with_reducible rfl
 simp only [nz]
 refine hs_done (by kernel_rfl) ?_
 go_wp2
 go_ret
 exact ⟨rfl, hB8.trans (hS.mono (by omega))⟩
theorem nil_str (w : World) : (convert 57 9 (.slice none 0 0)).run Tryz.prog w = .ok (.string (strOf [])) w := by kernel_rfl
set_option maxRecDepth 100000 in
theorem mine_str {w : World} {B : Nat} {v : Value} {zs : List Int} (h : Mine w B v zs) : (convert 57 9 v).run Tryz.prog w = .ok (.string (strOf zs)) w := by
 rcases own_range h.1 with ⟨rfl, h0, _⟩ | ⟨g, cap, rfl, _, _, _, _, hr⟩
 ·have : zs = [] := List.eq_nil_of_length_eq_zero h0
  subst this
  exact nil_str w
 ·exact row_str hr
theorem wr_new (w : World) : WrAt (w.alloc (.cells #[.slice none 0 0, .bool false] 179)) w.heap.size (.slice none 0 0) [] false where
 lt := by simp
 c0 := by have := range_new w #[.slice none 0 0, .bool false] 179 0 _ rfl; exact this
 c1 := by have := range_new w #[.slice none 0 0, .bool false] 179 1 _ rfl; exact this
 th := there_new w #[.slice none 0 0, .bool false] 179
 me := ⟨World.ownsRow_nil _ _ _ _, by simp⟩
def encV (b : Bool) (zs : List Int) : Value := if b then .tuple #[.string (strOf zs), .int .i64 0] else .tuple #[.string ⟨#[]⟩, .int .i64 130]
def Writes (q : List Value) (zs : List Int) : Prop := ∀ (X : Nat) (w : World), WrAt w X (.slice none 0 0) [] false → Calls Tryz.prog 116 #[.pointer (some ⟨X, 0, none⟩), .agg q.toArray] w fun e w' => ∃ v', e = .returned (.tuple #[]) ∧ WrAt w' X v' zs false ∧ Off (WrF X (.slice none 0 0)) w w' ∧ RowOn w (.slice none 0 0) v'
set_option maxRecDepth 100000 in
set_option maxHeartbeats 4000000 in
theorem enc0 (q : List Value) (b : Bool) (zs : List Int) (w : World) (hq : q.length = 119)
  (hg : ∀ w, Calls Tryz.prog 115 #[.agg q.toArray] w fun e w' => e = .returned (.bool b) ∧ Below w.heap.size w w') (hw : b = true → Writes q zs) :
  Calls Tryz.prog 80 #[.agg q.toArray] w fun e w' => e = .returned (encV b zs) ∧ Below w.heap.size w w' := by
 have hB : Below w.heap.size w (w.alloc (.cells q.toArray 97)) := (Below.refl _ _).alloc (Nat.le_refl _) _
 have hs : w.heap.size < (w.alloc (.cells q.toArray 97)).heap.size := by simp
 have hA : (w.alloc (.cells q.toArray 97)).rangeAt w.heap.size 0 q := by simpa using range_new w q.toArray 97
 have iq : (Tryz.prog.info? 97).map (·.size) = some q.length := by rw [hq]; exact iszM
 clear hq
 cases b
 ·show Calls Tryz.prog 80 #[.agg q.toArray] w fun e w' => e = .returned (.tuple #[.string ⟨#[]⟩, .int .i64 130]) ∧ Below w.heap.size w w'
  clear hw
  go_enter Tryz.func80, Tryz.ntmps80
  go_upto_region 1 with fail
  go_name_world w1 hw1
  rw [show w.alloc (.cells q.toArray 97) = w1 from hw1] at hB hs hA
  clear hw1
  go_wp2_with (refine wpList_load_mid rfl 97 _ rfl _ _ rfl q _ hA Tryz.underlying97 rfl iq ?_)
  refine (hg _).mono ?_
  rintro e2 w2 ⟨rfl, hb2⟩
  have hB2 := hB.trans (hb2.mono (by omega))
  clear hA hg hB hb2
  go_wp2
  go_ret2
  exact ⟨rfl, hB2⟩
 ·show Calls Tryz.prog 80 #[.agg q.toArray] w fun e w' => e = .returned (.tuple #[.string (strOf zs), .int .i64 0]) ∧ Below w.heap.size w w'
  replace hw := hw rfl
  obtain ⟨sz, hsz⟩ : ∃ sz, Hid (strOf zs = sz) := ⟨_, hide rfl⟩
  rw [hsz.out]
  go_enter Tryz.func80, Tryz.ntmps80
  go_upto_region 1 with fail
  go_name_world w1 hw1
  rw [show w.alloc (.cells q.toArray 97) = w1 from hw1] at hB hs hA
  clear hw1
  go_wp2_with (refine wpList_load_mid rfl 97 _ rfl _ _ rfl q _ hA Tryz.underlying97 rfl iq ?_)
  refine (hg _).mono ?_
  rintro e2 w2 ⟨rfl, hb2⟩
  have hB2 := hB.trans (hb2.mono (by omega))
  have hA2 := range_below hA hb2 hs
  have hs2 := Nat.lt_of_lt_of_le hs hb2.size
  clear hA hg hB hb2 hs
  go_upto_region 4 with fail
  have hN := wr_new w2
  have hB3 : Below w2.heap.size w2 (w2.alloc (.cells #[.slice none 0 0, .bool false] 179)) := (Below.refl _ _).alloc (Nat.le_refl _) _
  go_name_world w3 hw3
  rw [show w2.alloc (.cells #[.slice none 0 0, .bool false] 179) = w3 from hw3] at hN hB3
  clear hw3
  have hA3 := range_below hA2 hB3 hs2
  have hB4 := hB2.trans (hB3.mono (by omega))
  have cw := hw w2.heap.size w3 hN
  have hs3 := hN.lt
  clear hA2 hB2 hB3 hw hN
  go_wp2_with (refine wpList_load_mid rfl 97 _ rfl _ _ rfl q _ hA3 Tryz.underlying97 rfl iq ?_)
  refine cw.mono ?_
  rintro e5 w5 ⟨v5, rfl, hW5, hO5, _⟩
  have c0 := hW5.c0
  have c1 := hW5.c1
  have hcs := mine_str hW5.me
  have hB5 := hB4.trans (hO5.below (n := w.heap.size) (by omega) (fun b hb hf => by
   rcases hf with hf | hf
   ·omega
   ·cases hf))
  obtain ⟨a5, cap5, rfl⟩ : ∃ a cap, v5 = .slice a zs.length cap := by
   rcases own_range hW5.me.1 with ⟨rfl, h0, _⟩ | ⟨g, cap, rfl, _⟩
   ·exact ⟨none, 0, by rw [h0]⟩
   ·exact ⟨_, cap, rfl⟩
  rw [hsz.out] at hcs
  clear hsz cw hW5 hO5 hA3 hB4
  go_wp2
  go_ret2
  exact ⟨rfl, hB5⟩
theorem wrS_ok {zs bs : List Int} (h : zs.length + bs.length ≤ 4194304) : wrS (zs, false) bs = (zs ++ bs, false) := by
 have e : fullB false bs.length zs = false := by
  unfold fullB
  rw [Bool.false_or]
  exact decide_eq_false (by omega)
 unfold wrS
 simp only [e, wrL_f]
theorem putL_len {n : Int} (h : n ≤ 9223372036854775807) : (putL n).length ≤ 9 := putL_length n (by omega)
theorem wrN1 {zs : List Int} {a : Int} (ha : a ≤ 9223372036854775807) (hz : zs.length ≤ 1000) : wrN (zs, false) [a] = (zs ++ putL a, false) := by
 have := putL_len ha
 show wrS (zs, false) (putL a) = _
 rw [wrS_ok (by omega)]
def markL (e : Int) (d : List Int) : List Int := putL 5 ++ putL e ++ d
theorem writes5 {e : Int} {d : List Int} (he : e ≤ 9223372036854775807) (hd : d.length = 32) (hdb : ∀ z ∈ d, 0 ≤ z ∧ z < 256) : Writes (Ms.plain 5 e 0 Vt.zero d).cells (markL e d) := fun X w h => by
 have := wmsg5 X (.slice none 0 0) ([], false) (Ms.plain 5 e 0 Vt.zero d) w (Ms.plain_ok 5 e 0 Vt.zero_ok hd hdb) rfl he h (by simp)
 have e1 : (wrS (wrN (wrN ([], false) [5]) [(Ms.plain 5 e 0 Vt.zero d).e]) (Ms.plain 5 e 0 Vt.zero d).d) = (markL e d, false) := by
  show wrS (wrN (wrN ([], false) [5]) [e]) d = _
  have p := @putL_len 5 (by omega)
  have h1 := putL_len he
  rw [wrN1 (by omega) (by simp), List.nil_append, wrN1 he (by omega), wrS_ok (by simp only [List.length_append]; omega)]
  rfl
 rw [e1] at this
 exact this
theorem good5 (e : Int) (d : List Int) (hd : d.length = 32) (hdb : ∀ z ∈ d, 0 ≤ z ∧ z < 256) (w : World) : Calls Tryz.prog 115 #[.agg (Ms.plain 5 e 0 Vt.zero d).cells.toArray] w fun er w' => er = .returned (.bool (inB e 1048576)) ∧ Below w.heap.size w w' :=
 good0 _ 5 _ w (Ms.plain_ok 5 e 0 Vt.zero_ok hd hdb).len rfl (by omega) (by omega) (fun w => bare5 e d hd hdb w) (fun w => msame0 5 e 0 Vt.zero d Vt.zero_ok hd hdb w) (fun w => fmay5 e d hd hdb w)
theorem enc5 (e : Int) (d : List Int) (he : e ≤ 9223372036854775807) (hd : d.length = 32) (hdb : ∀ z ∈ d, 0 ≤ z ∧ z < 256) (w : World) : Calls Tryz.prog 80 #[.agg (Ms.plain 5 e 0 Vt.zero d).cells.toArray] w fun er w' => er = .returned (encV (inB e 1048576) (markL e d)) ∧ Below w.heap.size w w' :=
 enc0 _ _ _ w (Ms.plain_ok 5 e 0 Vt.zero_ok hd hdb).len (fun w => good5 e d hd hdb w) (fun _ => writes5 he hd hdb)
def optS (b : Bool) (zs : List Int) : ByteArray := if b then strOf zs else ⟨#[]⟩
theorem encV_opt (b : Bool) (zs : List Int) : ∃ n : Int, encV b zs = .tuple #[.string (optS b zs), .int .i64 n] := by
 cases b
 ·exact ⟨130, rfl⟩
 ·exact ⟨0, rfl⟩
set_option maxRecDepth 100000 in
set_option maxHeartbeats 2000000 in
theorem bytesOf0 (q : List Value) (b : Bool) (zs : List Int) (w : World) (hq : q.length = 119) (he : ∀ w, Calls Tryz.prog 80 #[.agg q.toArray] w fun e w' => e = .returned (encV b zs) ∧ Below w.heap.size w w') :
  Calls Tryz.prog 40 #[.agg q.toArray] w fun e w' => e = .returned (.string (optS b zs)) ∧ Below w.heap.size w w' := by
 have hB : Below w.heap.size w (w.alloc (.cells q.toArray 97)) := (Below.refl _ _).alloc (Nat.le_refl _) _
 have hA : (w.alloc (.cells q.toArray 97)).rangeAt w.heap.size 0 q := by simpa using range_new w q.toArray 97
 have iq : (Tryz.prog.info? 97).map (·.size) = some q.length := by rw [hq]; exact iszM
 obtain ⟨n, hn⟩ := encV_opt b zs
 rw [hn] at he
 clear hq hn
 generalize optS b zs = sz at *
 go_enter Tryz.func40, Tryz.ntmps40
 go_upto_region 1 with fail
 go_name_world w1 hw1
 rw [show w.alloc (.cells q.toArray 97) = w1 from hw1] at hB hA
 clear hw1
 go_wp2_with (refine wpList_load_mid rfl 97 _ rfl _ _ rfl q _ hA Tryz.underlying97 rfl iq ?_)
 refine (he _).mono ?_
 rintro e2 w2 ⟨rfl, hb2⟩
 have hB2 := hB.trans (hb2.mono hB.size)
 clear hA he hB hb2
 go_wp2
 go_ret
 exact ⟨rfl, hB2⟩
set_option maxRecDepth 100000 in
set_option maxHeartbeats 2000000 in
theorem mark13_any (e : Int) (d : List Int) (he : e ≤ 9223372036854775807) (hd : d.length = 32) (hdb : ∀ z ∈ d, 0 ≤ z ∧ z < 256) (w : World) : Calls Tryz.prog 12 #[.int .i64 e, .agg (v8 d).toArray] w fun er w' => er = .returned (.string (optS (inB e 1048576) (markL e d))) ∧ Below w.heap.size w w' := by
 have hB : Below w.heap.size w (w.alloc (.cells (v8 d).toArray 32)) := (Below.refl _ _).alloc (Nat.le_refl _) _
 have hA := box_range w d 32
 have id : (Tryz.prog.info? 32).map (·.size) = some (v8 d).length := by rw [v8_length, hd]; exact iszD
 have hb := build_mark e d hd
 have cb := fun w => bytesOf0 _ _ _ w (Ms.plain_ok 5 e 0 Vt.zero_ok hd hdb).len (fun w => enc5 e d he hd hdb w)
 clear hd hdb he
 generalize optS (inB e 1048576) (markL e d) = sz at *
 generalize (Ms.plain 5 e 0 Vt.zero d).cells = q at *
 generalize v8 d = u at *
 go_enter Tryz.func12, Tryz.ntmps12
 go_upto_region 1 with fail
 go_name_world w1 hw1
 rw [show w.alloc (.cells u.toArray 32) = w1 from hw1] at hB hA
 clear hw1
 go_wp2_with (first | (refine wpList_load_mid rfl 32 _ rfl _ _ rfl u _ hA Tryz.underlying32 rfl id ?_) | (refine wpList_build rfl 97 [(0, .const (.int .i64 5)), (1, .tmp 5), (9, .tmp 6)] rfl [(0, .int .i64 5), (1, .int .i64 e), (9, .agg u.toArray)] _ rfl (hb _) ?_))
 refine (cb _).mono ?_
 rintro e2 w2 ⟨rfl, hb2⟩
 have hB2 := hB.trans (hb2.mono hB.size)
 clear hA cb hB hb2
 go_wp2
 go_ret
 exact ⟨rfl, hB2⟩
theorem wpList_store_c {P : Program} {ops : Array Oper} {rest : List Oper} {op : Oper} {a : Act} {w : World} {Q : Exit → Act → World → Prop} (hgd : op.guard = none) (ty : TypeId) (x y : Operand) (ho : op.op = .store ty x y)
  (b o : Nat) (v : Value) (hx : a.eval x = .pointer (some ⟨b, o, none⟩)) (hy : a.eval y = v)
  (ht : w.there b o 1) (hi : (P.info? ty).map (·.size) = some 1) (hv : v.cells = #[v]) (h1 : v.oneCell' = true)
  (h : wpList P ops Q rest (a.put op.dst undef) (w.setCells b o [v])) : wpList P ops Q (op :: rest) a w :=
 wpList_plain hgd fun _ hK => by
  unfold Oper.wp execOp
  simp only [ho, hx, hy, Instr.storeAt, Instr.sureAddr, Sem.run_bind, Sem.run_pure, Result.andThen_ok, store_cell w b o ty v ht hi hv h1]
  exact hK _ _ h
set_option maxRecDepth 100000 in
set_option maxHeartbeats 2000000 in
theorem only5 (e : Int) (d : List Int) (hd : d.length = 32) (hdb : ∀ z ∈ d, 0 ≤ z ∧ z < 256) (w : World) : Calls Tryz.prog 124 #[.agg (Ms.plain 5 e 0 Vt.zero d).cells.toArray] w (BareOk w (Ms.plain 5 e 0 Vt.zero d).cells) := by
 have hm : (Ms.plain 5 e 0 Vt.zero d).ok := Ms.plain_ok 5 e 0 Vt.zero_ok hd hdb
 have hk : (Ms.plain 5 0 0 Vt.zero zeros32).ok := Ms.plain_ok 5 0 0 Vt.zero_ok zeros32_len zeros32_byte
 have hz0 : Ms.zero.ok := Ms.plain_ok 0 0 0 Vt.zero_ok zeros32_len zeros32_byte
 have lm := hm.len
 have lk := hk.len
 have lz := hz0.len
 have om := all_oneCell_toArray hm.one
 have ok := all_oneCell_toArray hk.one
 have hz := zeroM
 have hbk := build_kind 5
 have hat : ∀ (w' : World) b, w'.rangeAt b 0 (Ms.plain 5 e 0 Vt.zero d).cells → w'.cell? ⟨b, 0, none⟩ = some (.int .i64 5) ∧ w'.cell? ⟨b, 1, none⟩ = some (.int .i64 e) ∧ w'.rangeAt b 48 (v8 d) := fun w' b h => ⟨(hm.at h).k, (hm.at h).e, (hm.at h).d⟩
 have ld : (v8 d).length = 32 := by rw [v8_length, hd]
 have od := all_oneCell_toArray (v8_one d)
 have hput : ∀ (w' : World) b, w'.rangeAt b 0 (Ms.plain 5 0 0 Vt.zero zeros32).cells → w'.there b 0 119 → ((w'.setCells b 1 [.int .i64 e]).setCells b 48 (v8 d)).rangeAt b 0 (Ms.plain 5 e 0 Vt.zero d).cells := fun w' b h ht => by
  have h1 := range_put (pre := [Value.int .i64 5]) (mid := [Value.int .i64 0]) (vs := [Value.int .i64 e]) h 1 rfl (by have := there_part ht 1 1 (by omega); rwa [Nat.zero_add] at this) rfl
  exact range_put (pre := [Value.int .i64 5, .int .i64 e, .int .i64 0, .int .i64 0, .int .i64 0, .bool false, .slice none 0 0] ++ (Vt.zero.cells ++ [Value.int .i64 0, .int .i64 0, .int .i64 0, .slice none 0 0, .slice none 0 0])) (mid := v8 zeros32) (vs := v8 d) (post := Vt.zero.cells ++ [Value.slice none 0 0, .string ⟨#[]⟩, .slice none 0 0]) h1 48 rfl (by rw [ld]; have := there_part (World.there_setCells ht b 1 [Value.int .i64 e]) 48 32 (by omega); rwa [Nat.zero_add] at this) (by rw [ld]; rfl)
 have im : (Tryz.prog.info? 97).map (·.size) = some (Ms.plain 5 e 0 Vt.zero d).cells.length := by rw [lm]; exact iszM
 have im' : (Tryz.prog.info? 97).map (·.size) = some (Ms.plain 5 e 0 Vt.zero d).cells.toArray.size := by rw [List.size_toArray, lm]; exact iszM
 have ik' : (Tryz.prog.info? 97).map (·.size) = some (Ms.plain 5 0 0 Vt.zero zeros32).cells.toArray.size := by rw [List.size_toArray, lk]; exact iszM
 have id : (Tryz.prog.info? 32).map (·.size) = some (v8 d).length := by rw [ld]; exact iszD
 have id' : (Tryz.prog.info? 32).map (·.size) = some (v8 d).toArray.size := by rw [List.size_toArray, ld]; exact iszD
 clear hm hk hz0
 generalize (Ms.plain 5 e 0 Vt.zero d).cells = q at *
 generalize (Ms.plain 5 0 0 Vt.zero zeros32).cells = qk at *
 generalize Ms.zero.cells = z at *
 clear hd hdb
 generalize v8 d = u at *
 obtain ⟨hA, hT, hB, hs⟩ := bare_box q z w lz
 go_enter Tryz.func124, Tryz.ntmps124
 go_upto_region 1 with fail
 go_name_world w1 hw1
 rw [show (w.alloc (.cells q.toArray 97)).alloc (.cells z.toArray 97) = w1 from hw1] at hA hT hB hs
 clear hw1
 have c0 := (hat _ _ hA).1
 obtain ⟨r2, hB2, hs2, hT2⟩ := fresh_store w1 z.toArray 97 qk (by rw [List.size_toArray, lz, lk])
 rw [show z.toArray.size = 119 by simpa using lz] at hT2
 have hTz : (w1.alloc (.cells z.toArray 97)).there w1.heap.size 0 qk.toArray.size := by
  have := there_new w1 z.toArray 97
  rw [show z.toArray.size = 119 by simpa using lz] at this
  rw [show qk.toArray.size = 119 by simpa using lk]
  exact this
 go_upto_region 2 with (first | (refine wpList_build rfl 97 [(0, .tmp 5)] rfl [(0, .int .i64 5)] _ rfl (hbk _) ?_) | refine wpList_store_mid rfl 97 _ _ rfl _ _ qk.toArray rfl rfl hTz ik' ok ?_)
 go_name_world w2 hw2
 rw [show (w1.alloc (.cells z.toArray 97)).setCells w1.heap.size 0 qk = w2 from hw2] at r2 hB2 hs2 hT2
 have hs2' : w1.heap.size < w2.heap.size := by omega
 clear hw2 hs2 hTz
 have hA2 := range_below hA hB2 (by omega)
 have hT1 := there_below hT hB2 (by omega)
 have hBw := hB.trans (hB2.mono (by omega))
 have c2 := (hat _ _ hA2).1
 clear hA hT hB hB2 c0
 have hT6 : w2.there w1.heap.size 1 1 := by have := there_part hT2 1 1 (by omega); rwa [Nat.zero_add] at this
 have hA6 : (w2.setCells w1.heap.size 1 [.int .i64 e]).rangeAt w.heap.size 0 q := World.rangeAt_setCells_apart hA2 _ _ _ (.inl (by omega))
 have hT7 : (w2.setCells w1.heap.size 1 [.int .i64 e]).there w1.heap.size 48 u.toArray.size := by
  rw [show u.toArray.size = 32 by simpa using ld]
  have := there_part (World.there_setCells hT2 w1.heap.size 1 [Value.int .i64 e]) 48 32 (by omega)
  rwa [Nat.zero_add] at this
 have r3 := hput _ _ r2 hT2
 have hT3 : ((w2.setCells w1.heap.size 1 [.int .i64 e]).setCells w1.heap.size 48 u).there (w.heap.size + 1) 0 q.toArray.size := by
  rw [show q.toArray.size = 119 by simpa using lm]
  exact World.there_setCells (World.there_setCells hT1 _ _ _) _ _ _
 have hB3 := below_sets (show w.heap.size ≤ w1.heap.size by omega) u 48 _ (below_sets (show w.heap.size ≤ w1.heap.size by omega) [.int .i64 e] 1 _ hBw)
 have ce := (hat _ _ hA2).2.1
 clear hA2 r2 hT2 hT1 hBw
 go_upto_region 18 with (refine wpList_store_c rfl 3 _ _ rfl _ _ (.int .i64 e) rfl rfl hT6 iszI rfl rfl ?_)
 go_name_world w4 hw4
 rw [show w2.setCells w1.heap.size 1 [.int .i64 e] = w4 from hw4] at hA6 hT7 r3 hT3 hB3
 clear hw4 hT6 c2 ce
 have rd := (hat _ _ hA6).2.2
 clear hA6
 go_upto_region 28 with (first | (refine wpList_load_mid rfl 32 _ rfl _ _ rfl u _ rd Tryz.underlying32 rfl id ?_) | (refine wpList_store_mid rfl 32 _ _ rfl _ _ u.toArray rfl rfl hT7 id' od ?_))
 go_name_world w3 hw3
 rw [show w4.setCells w1.heap.size 48 u = w3 from hw3] at r3 hT3 hB3
 clear hw3 hT7 rd
 have r4 := World.rangeAt_setCells_same w3 (w.heap.size + 1) 0 q (by have := hT3; rwa [List.size_toArray] at this)
 have hB4 := below_sets (show w.heap.size ≤ w.heap.size + 1 by omega) q 0 _ hB3
 have hrs := run_loadVar_mid (P := Tryz.prog) _ (w.heap.size + 1) 0 97 q _ r4 Tryz.underlying97 rfl im
 go_wp2_with (first | (refine wpList_load_mid rfl 97 _ rfl _ _ rfl q _ r3 Tryz.underlying97 rfl im ?_) | (refine wpList_store_mid rfl 97 _ _ rfl _ _ q.toArray rfl rfl hT3 im' om ?_))
 exact bodyPost_ret (v := .agg q.toArray) (by simp [results, Tryz.results124, asAddr, hrs, Act.put]) rfl ⟨rfl, hB4⟩
set_option maxRecDepth 100000 in
set_option maxHeartbeats 4000000 in
theorem xgood5 (e : Int) (d : List Int) (hd : d.length = 32) (hdb : ∀ z ∈ d, 0 ≤ z ∧ z < 256) (w : World) : Calls Tryz.prog 95 #[.agg (Ms.plain 5 e 0 Vt.zero d).cells.toArray] w fun er w' => er = .returned (.bool (inB e 1048576)) ∧ Below w.heap.size w w' := by
 have hm : (Ms.plain 5 e 0 Vt.zero d).ok := Ms.plain_ok 5 e 0 Vt.zero_ok hd hdb
 have hB : Below w.heap.size w (w.alloc (.cells (Ms.plain 5 e 0 Vt.zero d).cells.toArray 97)) := (Below.refl _ _).alloc (Nat.le_refl _) _
 have hs : w.heap.size < (w.alloc (.cells (Ms.plain 5 e 0 Vt.zero d).cells.toArray 97)).heap.size := by simp
 have hA : (w.alloc (.cells (Ms.plain 5 e 0 Vt.zero d).cells.toArray 97)).rangeAt w.heap.size 0 (Ms.plain 5 e 0 Vt.zero d).cells := by simpa using range_new w (Ms.plain 5 e 0 Vt.zero d).cells.toArray 97
 have iq : (Tryz.prog.info? 97).map (·.size) = some (Ms.plain 5 e 0 Vt.zero d).cells.length := by rw [hm.len]; exact iszM
 have hon := fun w0 => only5 e d hd hdb w0
 have hsm := fun w0 => xsame0 5 e 0 Vt.zero d Vt.zero_ok hd hdb w0
 obtain ⟨W, hW⟩ : ∃ W, Hid (w.alloc (.cells (Ms.plain 5 e 0 Vt.zero d).cells.toArray 97) = W) := ⟨_, hide rfl⟩
 rw [hW.out] at hB hs hA
 have M := hm.at hA
 have cK : W.cell? ⟨w.heap.size, 0, none⟩ = some (.int .i64 5) := M.k
 have cE : W.cell? ⟨w.heap.size, 1, none⟩ = some (.int .i64 e) := M.e
 have cL : W.cell? ⟨w.heap.size, 2, none⟩ = some (.int .i64 0) := M.l
 have cV : W.cell? ⟨w.heap.size, 3, none⟩ = some (.int .i64 0) := M.v
 have cS : W.cell? ⟨w.heap.size, 4, none⟩ = some (.int .i64 0) := M.s
 have cQ : W.cell? ⟨w.heap.size, 5, none⟩ = some (.bool false) := M.q
 have cR : W.cell? ⟨w.heap.size, 6, none⟩ = some (.slice none 0 0) := M.rs
 have c1 : W.cell? ⟨w.heap.size, 43, none⟩ = some (.int .i64 0) := M.ce
 have c2 : W.cell? ⟨w.heap.size, 44, none⟩ = some (.int .i64 0) := M.cl
 have c3 : W.cell? ⟨w.heap.size, 45, none⟩ = some (.int .i64 0) := M.cv
 have cH : W.cell? ⟨w.heap.size, 46, none⟩ = some (.slice none 0 0) := M.he
 have cN : W.cell? ⟨w.heap.size, 47, none⟩ = some (.slice none 0 0) := M.ne
 have cT : W.cell? ⟨w.heap.size, 117, none⟩ = some (.string ⟨#[]⟩) := M.st
 have cG : W.cell? ⟨w.heap.size, 118, none⟩ = some (.slice none 0 0) := M.sg
 have i1 : inB 0 1048576 = true := rfl
 have i2 : inB 0 64 = true := rfl
 have i3 : inB 0 1099511627776 = true := rfl
 cases i4 : inB e 1048576
 ·clear hm M hd hdb i1
  generalize (Ms.plain 5 e 0 Vt.zero d).cells = q at *
  go_enter Tryz.func95, Tryz.ntmps95
  go_upto_region 1 with fail
  rw [show w.alloc (.cells q.toArray 97) = W from hW.out]
  clear hW
  obtain ⟨w8, hw8⟩ : ∃ w8, W.drew = w8 := ⟨_, rfl⟩
  have hB8 : Below w.heap.size w w8 := by rw [← hw8]; exact hB.drew
  have hA8 : w8.rangeAt w.heap.size 0 q := by rw [← hw8]; exact (World.rangeAt_drew _ _ _ _).2 hA
  have hs8 : w.heap.size < w8.heap.size := by rw [← hw8]; exact hs
  have dr : ∀ i v, W.cell? ⟨w.heap.size, i, none⟩ = some v → w8.cell? ⟨w.heap.size, i, none⟩ = some v := fun i v h => by rw [← hw8]; exact h
  replace cK := dr _ _ cK
  replace cE := dr _ _ cE
  replace cL := dr _ _ cL
  replace cV := dr _ _ cV
  replace cS := dr _ _ cS
  replace cQ := dr _ _ cQ
  replace cR := dr _ _ cR
  replace c1 := dr _ _ c1
  replace c2 := dr _ _ c2
  replace c3 := dr _ _ c3
  replace cH := dr _ _ cH
  replace cN := dr _ _ cN
  replace cT := dr _ _ cT
  replace cG := dr _ _ cG
  refine hs_begin (S := (Below w8.heap.size w8)) 15 rfl (by kernel_rfl) ?_
  rw [hw8]
  clear hw8 hA hB hs dr
  have hS : (Below w8.heap.size w8) w8 := Below.refl _ _
  refine hs_t 0 5 (?_) rfl (by kernel_rfl) (by kernel_rfl) (by kernel_rfl) (by rfl) ?_ hS rfl ?_
  rotate_left
  ·intro w' hw
   go_simp
   try with_reducible rfl
  simp only [nz]
  refine hs_t 1 6 (?_) rfl (by kernel_rfl) (by kernel_rfl) (by kernel_rfl) (by rfl) ?_ hS rfl ?_
  rotate_left
  ·intro w' hw
   have := (hw.cell (p := ⟨w.heap.size, 0, none⟩) hs8).trans cK
   go_simp
   try with_reducible rfl
  simp only [nz]
  refine hs_t 2 7 (?_) rfl (by kernel_rfl) (by kernel_rfl) (by kernel_rfl) (by rfl) ?_ hS rfl ?_
  rotate_left
  ·intro w' hw
   go_simp
   try with_reducible rfl
  simp only [nz]
  refine hs_t 3 8 (?_) rfl (by kernel_rfl) (by kernel_rfl) (by kernel_rfl) (by rfl) ?_ hS rfl ?_
  rotate_left
  ·intro w' hw
   go_simp
   try with_reducible rfl
  simp only [nz]
  refine hs_t 4 9 (?_) rfl (by kernel_rfl) (by kernel_rfl) (by kernel_rfl) (by rfl) ?_ hS rfl ?_
  rotate_left
  ·intro w' hw
   go_simp
   try with_reducible rfl
  simp only [nz]
  refine hs_t 5 10 (?_) rfl (by kernel_rfl) (by kernel_rfl) (by kernel_rfl) (by rfl) ?_ hS rfl ?_
  rotate_left
  ·intro w' hw
   have := (hw.cell (p := ⟨w.heap.size, 0, none⟩) hs8).trans cK
   go_simp
   try with_reducible rfl
  simp only [nz]
  refine hs_t 6 11 (?_) rfl (by kernel_rfl) (by kernel_rfl) (by kernel_rfl) (by rfl) ?_ hS rfl ?_
  rotate_left
  ·intro w' hw
   go_simp
   try with_reducible rfl
  simp only [nz]
  refine hs_t 7 12 (?_) rfl (by kernel_rfl) (by kernel_rfl) (by kernel_rfl) (by rfl) ?_ hS rfl ?_
  rotate_left
  ·intro w' hw
   go_simp
   try with_reducible rfl
  simp only [nz]
  refine hs_t 8 13 (?_) rfl (by kernel_rfl) (by kernel_rfl) (by kernel_rfl) (by rfl) ?_ hS rfl ?_
  rotate_left
  ·intro w' hw
   go_simp
   try with_reducible rfl
  simp only [nz]
  refine hs_t 9 14 (.agg q.toArray) rfl (by kernel_rfl) (by kernel_rfl) (by kernel_rfl) (by rfl) (fun w' hw => exec_loadC rfl rfl (run_loadVar_mid (P := Tryz.prog) w' w.heap.size 0 97 q _ (range_below hA8 hw hs8) Tryz.underlying97 rfl iq)) hS rfl ?_
  simp only [nz]
  refine hs_t 10 15 (.agg q.toArray) rfl (by kernel_rfl) (by kernel_rfl) (by kernel_rfl) (by rfl) (fun w' hw => exec_loadC rfl rfl (run_loadVar_mid (P := Tryz.prog) w' w.heap.size 0 97 q _ (range_below hA8 hw hs8) Tryz.underlying97 rfl iq)) hS rfl ?_
  simp only [nz]
  refine hs_call (i := 11) (d := some 16) rfl (by kernel_rfl) (by rfl) (by go_simp; first | done | exact ⟨rfl, rfl⟩ | with_reducible rfl) rfl ?_
  refine (hon _).mono ?_
  rintro e' wn1 ⟨rfl, hb1⟩
  have hS : (Below w8.heap.size w8) wn1 := hS.trans (hb1.mono hS.size)
  refine ⟨_, rfl, hS, ?_⟩
  simp only [nz]
  refine hs_call (i := 12) (d := some 17) rfl (by kernel_rfl) (by rfl) (by go_simp; first | done | exact ⟨rfl, rfl⟩ | with_reducible rfl) rfl ?_
  refine (hsm _).mono ?_
  rintro e' wn2 ⟨rfl, hb2⟩
  have hS : (Below w8.heap.size w8) wn2 := hS.trans (hb2.mono hS.size)
  refine ⟨_, rfl, hS, ?_⟩
  simp only [nz]
  refine hs_t 13 18 (?_) rfl (by kernel_rfl) (by kernel_rfl) (by kernel_rfl) (by rfl) ?_ hS rfl ?_
  rotate_left
  ·intro w' hw
   go_simp
   try with_reducible rfl
  simp only [nz]
  refine hs_t 14 19 (?_) rfl (by kernel_rfl) (by kernel_rfl) (by kernel_rfl) (by rfl) ?_ hS rfl ?_
  rotate_left
  ·intro w' hw
   go_simp
   try with_reducible rfl
  simp only [nz]
  refine hs_done (by kernel_rfl) ?_
  have up := fun i v (h : w8.cell? ⟨w.heap.size, i, none⟩ = some v) => (hS.cell (p := ⟨w.heap.size, i, none⟩) hs8).trans h
  replace cK := up _ _ cK
  replace cE := up _ _ cE
  replace cL := up _ _ cL
  replace cV := up _ _ cV
  replace cS := up _ _ cS
  replace cQ := up _ _ cQ
  replace cR := up _ _ cR
  replace c1 := up _ _ c1
  replace c2 := up _ _ c2
  replace c3 := up _ _ c3
  replace cH := up _ _ cH
  replace cN := up _ _ cN
  replace cT := up _ _ cT
  replace cG := up _ _ cG
  clear up
  have hsn := Nat.lt_of_lt_of_le hs8 hS.size
  have hBn := hB8.trans (hS.mono (by omega))
  clear hA8 hS hb1 hb2 hs8 hB8 hon hsm iq
  go_upto_region 4 with (go_at_call 125; refine (upto_any _ _ _).mono ?_; rintro e1 w1 ⟨rfl, hx⟩; obtain rfl := hx.symm; clear hx; (first | rw [i4]))
  obtain ⟨r3, hb3, hz3, _⟩ := fresh_store wn2 #[.int .i64 0, .int .i64 0, .int .i64 0, .slice none 0 0] 92 [.int .i64 0, .int .i64 0, .int .i64 0, .slice none 0 0] rfl
  have hT3 := there_new wn2 #[.int .i64 0, .int .i64 0, .int .i64 0, .slice none 0 0] 92
  go_upto_region 5 with (refine wpList_store_mid rfl 92 _ _ rfl _ _ #[.int .i64 0, .int .i64 0, .int .i64 0, .slice none 0 0] rfl rfl hT3 iszH4 one4 ?_)
  go_name_world w3 hw3
  rw [show (wn2.alloc (.cells #[.int .i64 0, .int .i64 0, .int .i64 0, .slice none 0 0] 92)).setCells wn2.heap.size 0 [.int .i64 0, .int .i64 0, .int .i64 0, .slice none 0 0] = w3 from hw3] at r3 hb3 hz3
  clear hw3 hz3 hT3
  have up := fun i v (h : wn2.cell? ⟨w.heap.size, i, none⟩ = some v) => (hb3.cell (p := ⟨w.heap.size, i, none⟩) hsn).trans h
  replace cK := up _ _ cK
  clear up
  have hB3 := hBn.trans (hb3.mono (by omega))
  clear r3 hb3 hBn hsn cE cL cV cS c1 c2 c3 cH cQ cR cN cT cG
  go_wp2
  go_ret
  exact ⟨rfl, hB3⟩
 ·clear hm M hd hdb
  generalize (Ms.plain 5 e 0 Vt.zero d).cells = q at *
  go_enter Tryz.func95, Tryz.ntmps95
  go_upto_region 1 with fail
  rw [show w.alloc (.cells q.toArray 97) = W from hW.out]
  clear hW
  obtain ⟨w8, hw8⟩ : ∃ w8, W.drew = w8 := ⟨_, rfl⟩
  have hB8 : Below w.heap.size w w8 := by rw [← hw8]; exact hB.drew
  have hA8 : w8.rangeAt w.heap.size 0 q := by rw [← hw8]; exact (World.rangeAt_drew _ _ _ _).2 hA
  have hs8 : w.heap.size < w8.heap.size := by rw [← hw8]; exact hs
  have dr : ∀ i v, W.cell? ⟨w.heap.size, i, none⟩ = some v → w8.cell? ⟨w.heap.size, i, none⟩ = some v := fun i v h => by rw [← hw8]; exact h
  replace cK := dr _ _ cK
  replace cE := dr _ _ cE
  replace cL := dr _ _ cL
  replace cV := dr _ _ cV
  replace cS := dr _ _ cS
  replace cQ := dr _ _ cQ
  replace cR := dr _ _ cR
  replace c1 := dr _ _ c1
  replace c2 := dr _ _ c2
  replace c3 := dr _ _ c3
  replace cH := dr _ _ cH
  replace cN := dr _ _ cN
  replace cT := dr _ _ cT
  replace cG := dr _ _ cG
  refine hs_begin (S := (Below w8.heap.size w8)) 15 rfl (by kernel_rfl) ?_
  rw [hw8]
  clear hw8 hA hB hs dr
  have hS : (Below w8.heap.size w8) w8 := Below.refl _ _
  refine hs_t 0 5 (?_) rfl (by kernel_rfl) (by kernel_rfl) (by kernel_rfl) (by rfl) ?_ hS rfl ?_
  rotate_left
  ·intro w' hw
   go_simp
   try with_reducible rfl
  simp only [nz]
  refine hs_t 1 6 (?_) rfl (by kernel_rfl) (by kernel_rfl) (by kernel_rfl) (by rfl) ?_ hS rfl ?_
  rotate_left
  ·intro w' hw
   have := (hw.cell (p := ⟨w.heap.size, 0, none⟩) hs8).trans cK
   go_simp
   try with_reducible rfl
  simp only [nz]
  refine hs_t 2 7 (?_) rfl (by kernel_rfl) (by kernel_rfl) (by kernel_rfl) (by rfl) ?_ hS rfl ?_
  rotate_left
  ·intro w' hw
   go_simp
   try with_reducible rfl
  simp only [nz]
  refine hs_t 3 8 (?_) rfl (by kernel_rfl) (by kernel_rfl) (by kernel_rfl) (by rfl) ?_ hS rfl ?_
  rotate_left
  ·intro w' hw
   go_simp
   try with_reducible rfl
  simp only [nz]
  refine hs_t 4 9 (?_) rfl (by kernel_rfl) (by kernel_rfl) (by kernel_rfl) (by rfl) ?_ hS rfl ?_
  rotate_left
  ·intro w' hw
   go_simp
   try with_reducible rfl
  simp only [nz]
  refine hs_t 5 10 (?_) rfl (by kernel_rfl) (by kernel_rfl) (by kernel_rfl) (by rfl) ?_ hS rfl ?_
  rotate_left
  ·intro w' hw
   have := (hw.cell (p := ⟨w.heap.size, 0, none⟩) hs8).trans cK
   go_simp
   try with_reducible rfl
  simp only [nz]
  refine hs_t 6 11 (?_) rfl (by kernel_rfl) (by kernel_rfl) (by kernel_rfl) (by rfl) ?_ hS rfl ?_
  rotate_left
  ·intro w' hw
   go_simp
   try with_reducible rfl
  simp only [nz]
  refine hs_t 7 12 (?_) rfl (by kernel_rfl) (by kernel_rfl) (by kernel_rfl) (by rfl) ?_ hS rfl ?_
  rotate_left
  ·intro w' hw
   go_simp
   try with_reducible rfl
  simp only [nz]
  refine hs_t 8 13 (?_) rfl (by kernel_rfl) (by kernel_rfl) (by kernel_rfl) (by rfl) ?_ hS rfl ?_
  rotate_left
  ·intro w' hw
   go_simp
   try with_reducible rfl
  simp only [nz]
  refine hs_t 9 14 (.agg q.toArray) rfl (by kernel_rfl) (by kernel_rfl) (by kernel_rfl) (by rfl) (fun w' hw => exec_loadC rfl rfl (run_loadVar_mid (P := Tryz.prog) w' w.heap.size 0 97 q _ (range_below hA8 hw hs8) Tryz.underlying97 rfl iq)) hS rfl ?_
  simp only [nz]
  refine hs_t 10 15 (.agg q.toArray) rfl (by kernel_rfl) (by kernel_rfl) (by kernel_rfl) (by rfl) (fun w' hw => exec_loadC rfl rfl (run_loadVar_mid (P := Tryz.prog) w' w.heap.size 0 97 q _ (range_below hA8 hw hs8) Tryz.underlying97 rfl iq)) hS rfl ?_
  simp only [nz]
  refine hs_call (i := 11) (d := some 16) rfl (by kernel_rfl) (by rfl) (by go_simp; first | done | exact ⟨rfl, rfl⟩ | with_reducible rfl) rfl ?_
  refine (hon _).mono ?_
  rintro e' wn1 ⟨rfl, hb1⟩
  have hS : (Below w8.heap.size w8) wn1 := hS.trans (hb1.mono hS.size)
  refine ⟨_, rfl, hS, ?_⟩
  simp only [nz]
  refine hs_call (i := 12) (d := some 17) rfl (by kernel_rfl) (by rfl) (by go_simp; first | done | exact ⟨rfl, rfl⟩ | with_reducible rfl) rfl ?_
  refine (hsm _).mono ?_
  rintro e' wn2 ⟨rfl, hb2⟩
  have hS : (Below w8.heap.size w8) wn2 := hS.trans (hb2.mono hS.size)
  refine ⟨_, rfl, hS, ?_⟩
  simp only [nz]
  refine hs_t 13 18 (?_) rfl (by kernel_rfl) (by kernel_rfl) (by kernel_rfl) (by rfl) ?_ hS rfl ?_
  rotate_left
  ·intro w' hw
   go_simp
   try with_reducible rfl
  simp only [nz]
  refine hs_t 14 19 (?_) rfl (by kernel_rfl) (by kernel_rfl) (by kernel_rfl) (by rfl) ?_ hS rfl ?_
  rotate_left
  ·intro w' hw
   go_simp
   try with_reducible rfl
  simp only [nz]
  refine hs_done (by kernel_rfl) ?_
  have up := fun i v (h : w8.cell? ⟨w.heap.size, i, none⟩ = some v) => (hS.cell (p := ⟨w.heap.size, i, none⟩) hs8).trans h
  replace cK := up _ _ cK
  replace cE := up _ _ cE
  replace cL := up _ _ cL
  replace cV := up _ _ cV
  replace cS := up _ _ cS
  replace cQ := up _ _ cQ
  replace cR := up _ _ cR
  replace c1 := up _ _ c1
  replace c2 := up _ _ c2
  replace c3 := up _ _ c3
  replace cH := up _ _ cH
  replace cN := up _ _ cN
  replace cT := up _ _ cT
  replace cG := up _ _ cG
  clear up
  have hsn := Nat.lt_of_lt_of_le hs8 hS.size
  have hBn := hB8.trans (hS.mono (by omega))
  clear hA8 hS hb1 hb2 hs8 hB8 hon hsm iq
  go_upto_region 4 with (go_at_call 125; refine (upto_any _ _ _).mono ?_; rintro e1 w1 ⟨rfl, hx⟩; obtain rfl := hx.symm; clear hx; (first | rw [i4] | rw [i2] | rw [i3]))
  obtain ⟨r3, hb3, hz3, _⟩ := fresh_store wn2 #[.int .i64 0, .int .i64 0, .int .i64 0, .slice none 0 0] 92 [.int .i64 0, .int .i64 0, .int .i64 0, .slice none 0 0] rfl
  have hT3 := there_new wn2 #[.int .i64 0, .int .i64 0, .int .i64 0, .slice none 0 0] 92
  go_upto_region 5 with (refine wpList_store_mid rfl 92 _ _ rfl _ _ #[.int .i64 0, .int .i64 0, .int .i64 0, .slice none 0 0] rfl rfl hT3 iszH4 one4 ?_)
  go_name_world w3 hw3
  rw [show (wn2.alloc (.cells #[.int .i64 0, .int .i64 0, .int .i64 0, .slice none 0 0] 92)).setCells wn2.heap.size 0 [.int .i64 0, .int .i64 0, .int .i64 0, .slice none 0 0] = w3 from hw3] at r3 hb3 hz3
  clear hw3 hz3 hT3
  have up := fun i v (h : wn2.cell? ⟨w.heap.size, i, none⟩ = some v) => (hb3.cell (p := ⟨w.heap.size, i, none⟩) hsn).trans h
  replace cK := up _ _ cK
  replace cQ := up _ _ cQ
  replace cR := up _ _ cR
  replace cN := up _ _ cN
  replace cT := up _ _ cT
  replace cG := up _ _ cG
  clear up
  have hs3 := Nat.lt_of_lt_of_le hsn hb3.size
  have hB3 := hBn.trans (hb3.mono (by omega))
  have d0 := r3 0 _ rfl
  have d1 := r3 1 _ rfl
  have d2 := r3 2 _ rfl
  have d3 := r3 3 _ rfl
  simp only [Nat.zero_add, Nat.add_zero] at d0 d1 d2 d3
  clear r3 hb3 hBn hsn cE cL cV cS c1 c2 c3 cH
  go_upto_region 6 with (first | (go_at_call 125; refine (upto_any _ _ _).mono ?_; rintro e1 w1 ⟨rfl, hx⟩; obtain rfl := hx.symm; clear hx; (first | rw [i1] | rw [i2] | rw [i3])) | (go_at_call 126; refine (xh0 _).mono ?_; rintro e1 w1 ⟨rfl, hx⟩; obtain rfl := hx.symm; clear hx))
  clear d0 d1 d2 d3
  go_wp2_with fail
  refine (plain0 false _).mono ?_
  rintro e4 w4 ⟨rfl, hb4⟩
  have up := fun i v (h : w3.cell? ⟨w.heap.size, i, none⟩ = some v) => (hb4.cell (p := ⟨w.heap.size, i, none⟩) hs3).trans h
  replace cK := up _ _ cK
  replace cN := up _ _ cN
  replace cT := up _ _ cT
  replace cG := up _ _ cG
  clear up
  have hs4 := Nat.lt_of_lt_of_le hs3 hb4.size
  have hB4 := hB3.trans (hb4.mono (by omega))
  clear hb4 hB3 hs3 cQ cR
  go_upto_region 7 with (first | (go_at_call 128; refine (xn0 _).mono ?_; rintro e1 w1 ⟨rfl, hx⟩; obtain rfl := hx.symm; clear hx) | (go_at_call 129; refine (xg0 _).mono ?_; rintro e1 w1 ⟨rfl, hx⟩; obtain rfl := hx.symm; clear hx))
  clear cN cT cG
  go_wp2
  go_ret
  exact ⟨rfl, hB4⟩
def ownF (v : Value) : Nat → Prop := fun b => v.ownBlock = some b
theorem own_trans {v v1 v2 : Value} {w w1 w2 : World} (h : Off (ownF v) w w1) (r : RowOn w v v1) (h' : Off (ownF v1) w1 w2) (r' : RowOn w1 v1 v2) : Off (ownF v) w w2 ∧ RowOn w v v2 := by
 refine ⟨h.trans h' (fun b hb hf => ?_), fun g hg => ?_⟩
 ·rcases r b hf with e | e
  ·exact e
  ·omega
 ·rcases r' g hg with e | e
  ·exact r g e
  ·exact .inr (Nat.le_trans h.size e)
set_option maxRecDepth 100000 in
set_option maxHeartbeats 2000000 in
theorem xdig_any (B : Nat) (v : Value) (zs d : List Int) (w : World) (h : Mine w B v zs) (hB : B ≤ w.heap.size) (hz : zs.length ≤ 10000000) (hd : d.length = 32) (hdb : ∀ z ∈ d, 0 ≤ z ∧ z < 256) :
  Calls Tryz.prog 137 #[v, .agg (v8 d).toArray] w fun e w' => ∃ v', e = .returned v' ∧ Mine w' B v' (zs ++ d) ∧ Off (ownF v) w w' ∧ RowOn w v v' := by
 obtain ⟨i0, hi, hz0, hz1, hz2⟩ := info_parts info8
 have hB1 : Below w.heap.size w (w.alloc (.cells (v8 d).toArray 32)) := (Below.refl _ _).alloc (Nat.le_refl _) _
 have hR1 := box_range w d 32
 have hs1 : w.heap.size < (w.alloc (.cells (v8 d).toArray 32)).heap.size := by simp
 have hown := h.from
 have h1 := h.below hB1
 have hO1 : Off (ownF v) w (w.alloc (.cells (v8 d).toArray 32)) := Off.of_below hB1
 obtain ⟨w1, hw1⟩ : ∃ w1, Hid (w.alloc (.cells (v8 d).toArray 32) = w1) := ⟨_, hide rfl⟩
 rw [hw1.out] at hB1 hR1 hs1 h1 hO1
 generalize hu : (v8 d).toArray = u at *
 go_enter Tryz.func137, Tryz.ntmps137
 go_upto_region 1 with fail
 rw [show w.alloc (.cells u 32) = w1 from hw1.out]
 clear hw1 hu h
 go_wp2_with fail
 go_loopw [0, 5] (fun oo iv wr' => ∃ (k : Nat) (o : Value), k ≤ 32 ∧ iv = .int .i64 (k : Int) ∧ o = oo ∧ Hid (Mine wr' B o (zs ++ d.take k) ∧ Off (ownF v) w1 wr' ∧ RowOn w1 v o)) (fun _ iv _ => 32 - (intOf iv).toNat)
 case atStart => exact ⟨0, _, by omega, rfl, rfl, hide ⟨by simpa using h1, Off.refl _ _, fun g hg => .inl hg⟩⟩
 case round =>
  clear h1
  obtain ⟨k, o, hk, rfl, ho, HK⟩ := hrel
  subst ho
  by_cases hlt : k < 32
  ·have k1 : (k : Int) < 32 := by omega
   obtain ⟨hM, hO, hRo⟩ := HK.out
   clear HK
   have hrow := range_at hR1 (hO.2 _ hs1 (fun hf => by have := (hown _ hf).2; omega))
   have ck : wr.cell? ⟨w.heap.size, k, none⟩ = some (.int .u8 (d.getD k 0)) := by
    have := hrow k (.int .u8 (d.getD k 0)) (by simp [v8, List.getElem?_eq_getElem (show k < d.length by omega)])
    rwa [Nat.zero_add] at this
   have hzk : 0 ≤ d.getD k 0 ∧ d.getD k 0 < 256 := hdb _ (by simp [List.getElem?_eq_getElem (show k < d.length by omega)])
   have HT : Hid (d.take (k + 1) = d.take k ++ [d.getD k 0]) := hide (by
    rw [List.take_add_one]; simp [List.getElem?_eq_getElem (show k < d.length by omega), List.getD_eq_getElem?_getD])
   have hlt2 : (d.take k).length = k := by rw [List.length_take]; omega
   obtain ⟨z, hzz⟩ : ∃ z, Hid (d.getD k 0 = z) := ⟨_, hide rfl⟩
   rw [hzz.out] at ck HT hzk
   obtain ⟨ys, hys⟩ : ∃ ys, Hid (zs ++ d.take k = ys) := ⟨_, hide rfl⟩
   have hyl : ys.length ≤ 10000032 := by rw [← hys.out, List.length_append, hlt2]; omega
   rw [hys.out] at hM
   have HY : Hid (zs ++ d.take (k + 1) = ys ++ [z]) := hide (by rw [HT.out, ← List.append_assoc, hys.out])
   have hBr : B ≤ wr.heap.size := by have := hO.size; omega
   clear hzz hys HT hlt2 hrow
   go_wp2_with (at_builtin; refine wpList_append_own_src2 _ rfl _ _ 57 57 rfl B 5 i0 (.int .u8 0) 1 1 Tryz.underlying57 hi hz0 hz1 hz2 rfl _ _ _ rfl (hM.1.alloc _) _ 1 _ rfl (b1_src _ _) ?c1 ?c2 ?c3 ?_)
   case c1 => unfold maxLen; omega
   case c2 => omega
   case c3 => simp; omega
   intro v5 w5 hown5 hgrow5 hon5
   have hM5 : Mine w5 B v5 (ys ++ [z]) := Mine.mk' _ hown5 (by simp) (by simp) (fun x hx => by
    rcases List.mem_append.1 hx with hx | hx
    ·exact hM.2 x hx
    ·rw [List.mem_singleton.1 hx]; exact hzk)
   have hBA : Below wr.heap.size wr (wr.alloc (.cells #[.int .u8 z] 5)) := (Below.refl _ _).alloc (Nat.le_refl _) _
   have hO5 : Off (ownF o) wr w5 := (Off.of_below (F := ownF o) hBA).trans (Off.of_grown (F := ownF o) hgrow5 (fun k hk => hk)) (fun _ _ q => q)
   have hR5 : RowOn wr o v5 := fun g hg => by
    rcases hon5 g hg with e | e
    ·exact .inl e
    ·have := hBA.size; exact .inr (by omega)
   have T := own_trans hO hRo hO5 hR5
   have T' := hide (And.intro hM5 T)
   clear hown5 hgrow5 hon5 hM5 hO5 hR5 T hM hO hRo hBA ck
   go_wp2_with fail
   go_roundw
   case rel => exact ⟨k + 1, _, by omega, by go_num, rfl, hide ⟨by rw [HY.out]; exact T'.out.1, T'.out.2.1, T'.out.2.2⟩⟩
   case measure => simp [intOf]; omega
  ·obtain rfl : k = 32 := by omega
   obtain ⟨hM, hO, hRo⟩ := HK.out
   clear HK
   go_wp2_with fail
   go_ret
   rw [List.take_of_length_le (by omega)] at hM
   refine ⟨_, rfl, hM, hO1.trans hO (fun _ _ q => q), fun g hg => ?_⟩
   rcases hRo g hg with e | e
   ·exact .inl e
   ·exact .inr (by omega)
theorem Mine.base {w : World} {B B' : Nat} {v : Value} {zs : List Int} (h : Mine w B v zs) (hB : B' ≤ B) : Mine w B' v zs := by
 refine ⟨⟨h.1.1, ?_⟩, h.2⟩
 rcases h.1.2 with q | ⟨g, c, cur, q1, q2, q3⟩
 ·exact .inl q
 ·exact .inr ⟨g, c, cur, q1, Nat.le_trans hB q2, q3⟩
theorem off_below {w w' : World} {B n : Nat} {v : Value} {zs : List Int} (h : Off (ownF v) w w') (hM : Mine w B v zs) (hn : n ≤ B) (hs : n ≤ w.heap.size) : Below n w w' :=
 h.below hs (fun b hb hf => by have := (hM.from b hf).1; omega)
def Tells (q : List Value) (zs : List Int) : Prop := ∀ w, Calls Tryz.prog 96 #[.agg q.toArray] w fun e w' => ∃ v, e = .returned v ∧ Mine w' w.heap.size v zs ∧ Below w.heap.size w w'
set_option maxRecDepth 100000 in
set_option maxHeartbeats 4000000 in
theorem xbytes5 {e : Int} {d : List Int} (he : e ≤ 9223372036854775807) (hd : d.length = 32) (hdb : ∀ z ∈ d, 0 ≤ z ∧ z < 256) : Tells (Ms.plain 5 e 0 Vt.zero d).cells (markL e d) := fun w => by
 have hm := Ms.plain_ok 5 e 0 Vt.zero_ok hd hdb
 have hB1 : Below w.heap.size w (w.alloc (.cells (Ms.plain 5 e 0 Vt.zero d).cells.toArray 97)) := (Below.refl _ _).alloc (Nat.le_refl _) _
 have hsz : w.heap.size < (w.alloc (.cells (Ms.plain 5 e 0 Vt.zero d).cells.toArray 97)).heap.size := by simp
 have M := (Ms.plain 5 e 0 Vt.zero d).box hm w
 have ck : _root_.Go.World.cell? _ ⟨w.heap.size, 0, none⟩ = some (.int .i64 5) := M.k
 have ce : _root_.Go.World.cell? _ ⟨w.heap.size, 1, none⟩ = some (.int .i64 e) := M.e
 have rd : _root_.Go.World.rangeAt _ w.heap.size 48 (v8 d) := M.d
 have id : (Tryz.prog.info? 32).map (·.size) = some (v8 d).length := by rw [v8_length, hd]; exact iszD
 have hp5 := @putL_len 5 (by omega)
 have hpe := putL_len he
 have c5 := fun w0 => refPut_any none 0 [] 5 w0 (nil_row w0) (by simp) (by omega)
 simp only [List.nil_append, List.length_nil] at c5
 have cp := fun a cap zs w0 h hz => refPut_any a cap zs e w0 h hz he
 show Calls Tryz.prog 96 _ w fun er w' => ∃ v, er = .returned v ∧ Mine w' w.heap.size v (putL 5 ++ putL e ++ d) ∧ Below w.heap.size w w'
 clear hm M he
 generalize (Ms.plain 5 e 0 Vt.zero d).cells = q at *
 generalize putL 5 = p5 at *
 generalize putL e = pe at *
 go_enter Tryz.func96, Tryz.ntmps96
 go_upto_region 1 with fail
 go_name_world w1 hw1
 rw [show w.alloc (.cells q.toArray 97) = w1 from hw1] at hB1 ck rd hsz ce
 clear hw1
 go_wp2_with fail
 refine (c5 _).mono ?_
 rintro e2 w2 ⟨v2, rfl, hM2, hb2⟩
 obtain ⟨a2, cap2, rfl, _, _, hr2⟩ := hM2.rowAt (by unfold maxLen; omega)
 have hB2 := hB1.trans (hb2.mono hB1.size)
 have hs2 := Nat.lt_of_lt_of_le hsz hb2.size
 replace ck := (hb2.cell (p := ⟨w.heap.size, 0, none⟩) hsz).trans ck
 replace ce := (hb2.cell (p := ⟨w.heap.size, 1, none⟩) hsz).trans ce
 replace rd := range_below rd hb2 hsz
 clear c5 hM2 hb2 hB1 hsz
 go_upto_region 21 with fail
 obtain ⟨w8, hw8⟩ : ∃ w8, w2.drew = w8 := ⟨_, rfl⟩
 have hB8 : Below w.heap.size w w8 := by rw [← hw8]; exact hB2.drew
 have hs8 : w.heap.size < w8.heap.size := by rw [← hw8]; exact hs2
 have hr8 : RowAt w8 a2 p5 := hr2.below (by rw [← hw8]; exact (Below.refl _ _).drew)
 have dr : ∀ i v, w2.cell? ⟨w.heap.size, i, none⟩ = some v → w8.cell? ⟨w.heap.size, i, none⟩ = some v := fun i v h => by rw [← hw8]; exact h
 replace ce := dr _ _ ce
 have rd8 : w8.rangeAt w.heap.size 48 (v8 d) := by rw [← hw8]; exact (World.rangeAt_drew _ _ _ _).2 rd
 have hld : ∀ w', Below w8.heap.size w8 w' → (loadVar 32 ⟨w.heap.size, 48, none⟩).run Tryz.prog w' = .ok (.agg (v8 d).toArray) w' := fun w' hw => run_loadVar_mid (P := Tryz.prog) w' w.heap.size 48 32 (v8 d) _ (range_below rd8 hw hs8) Tryz.underlying32 rfl id
 obtain ⟨u, hu⟩ : ∃ u, Hid ((v8 d).toArray = u) := ⟨_, hide rfl⟩
 rw [hu.out] at hld
 refine hs_begin (S := (Below w8.heap.size w8)) 8 rfl (by kernel_rfl) ?_
 rw [hw8]
 clear hw8 dr hB2 hs2 rd rd8 id hr2 ck
 have hS : (Below w8.heap.size w8) w8 := Below.refl _ _
 refine hs_t 0 113 (?_) rfl (by kernel_rfl) (by kernel_rfl) (by kernel_rfl) (by rfl) ?_ hS rfl ?_
 rotate_left
 ·intro w' hw
  go_simp
  try with_reducible rfl
 simp only [nz]
 refine hs_t 1 114 (?_) rfl (by kernel_rfl) (by kernel_rfl) (by kernel_rfl) (by rfl) ?_ hS rfl ?_
 rotate_left
 ·intro w' hw
  go_simp
  try with_reducible rfl
 simp only [nz]
 refine hs_t 2 115 (?_) rfl (by kernel_rfl) (by kernel_rfl) (by kernel_rfl) (by rfl) ?_ hS rfl ?_
 rotate_left
 ·intro w' hw
  have := (hw.cell (p := ⟨w.heap.size, 1, none⟩) hs8).trans ce
  go_simp
  try with_reducible rfl
 simp only [nz]
 refine hs_t 4 117 (?_) rfl (by kernel_rfl) (by kernel_rfl) (by kernel_rfl) (by rfl) ?_ hS rfl ?_
 rotate_left
 ·intro w' hw
  go_simp
  try with_reducible rfl
 simp only [nz]
 refine hs_t 5 118 (.agg u) rfl (by kernel_rfl) (by kernel_rfl) (by kernel_rfl) (by rfl) (fun w' hw => exec_loadC rfl rfl (hld w' hw)) hS rfl ?_
 simp only [nz]
 refine hs_call (i := 3) (d := some 116) rfl (by kernel_rfl) (by rfl) (by go_simp; first | done | exact ⟨rfl, rfl⟩ | with_reducible rfl) rfl ?_
 refine (cp _ _ _ _ hr8 (by omega)).mono ?_
 rintro e' wn1 ⟨v3, rfl, hM3, hb3⟩
 have hS : (Below w8.heap.size w8) wn1 := hb3
 refine ⟨_, rfl, hS, ?_⟩
 simp only [nz]
 have hl1 : (p5 ++ pe).length ≤ 10000000 := by rw [List.length_append]; omega
 have cd := xdig_any w8.heap.size v3 (p5 ++ pe) d wn1 hM3 hb3.size hl1 hd hdb
 rw [hu.out] at cd
 refine hs_call (i := 6) (d := some 119) rfl (by kernel_rfl) (by rfl) (by go_simp; first | done | exact ⟨rfl, rfl⟩ | with_reducible rfl) rfl ?_
 refine (cd).mono ?_
 rintro e' wn2 ⟨v6, rfl, hM6, hO6, hr6⟩
 have hS : (Below w8.heap.size w8) wn2 := hb3.trans (off_below hO6 hM3 (Nat.le_refl _) hb3.size)
 refine ⟨_, rfl, hS, ?_⟩
 simp only [nz]
 refine hs_t 7 3 (?_) rfl (by kernel_rfl) (by kernel_rfl) (by kernel_rfl) (by rfl) ?_ hS rfl ?_
 rotate_left
 ·intro w' hw
  go_simp
  try with_reducible rfl
 simp only [nz]
 refine hs_done (by kernel_rfl) ?_
 have hM7 := hM6.base (B' := w.heap.size) (by omega)
 have hB7 := hB8.trans (hS.mono (by omega))
 clear hM6 hO6 hr6 hM3 hb3 cd hld cp
 go_wp2_with fail
 go_ret
 exact ⟨_, rfl, hM7, hB7⟩
set_option maxRecDepth 100000 in
set_option maxHeartbeats 4000000 in
theorem xenc0 (q : List Value) (b : Bool) (zs : List Int) (w : World) (hq : q.length = 119) (hl : zs.length ≤ 1000)
  (hg : ∀ w, Calls Tryz.prog 95 #[.agg q.toArray] w fun e w' => e = .returned (.bool b) ∧ Below w.heap.size w w') (ht : Tells q zs) :
  Calls Tryz.prog 57 #[.agg q.toArray] w fun e w' => e = .returned (encV b zs) ∧ Below w.heap.size w w' := by
 have hB : Below w.heap.size w (w.alloc (.cells q.toArray 97)) := (Below.refl _ _).alloc (Nat.le_refl _) _
 have hs : w.heap.size < (w.alloc (.cells q.toArray 97)).heap.size := by simp
 have hA : (w.alloc (.cells q.toArray 97)).rangeAt w.heap.size 0 q := by simpa using range_new w q.toArray 97
 have iq : (Tryz.prog.info? 97).map (·.size) = some q.length := by rw [hq]; exact iszM
 clear hq
 cases b
 ·show Calls Tryz.prog 57 #[.agg q.toArray] w fun e w' => e = .returned (.tuple #[.string ⟨#[]⟩, .int .i64 130]) ∧ Below w.heap.size w w'
  clear ht
  go_enter Tryz.func57, Tryz.ntmps57
  go_upto_region 1 with fail
  go_name_world w1 hw1
  rw [show w.alloc (.cells q.toArray 97) = w1 from hw1] at hB hs hA
  clear hw1
  go_wp2_with (refine wpList_load_mid rfl 97 _ rfl _ _ rfl q _ hA Tryz.underlying97 rfl iq ?_)
  refine (hg _).mono ?_
  rintro e2 w2 ⟨rfl, hb2⟩
  have hB2 := hB.trans (hb2.mono (by omega))
  clear hA hg hB hb2
  go_wp2
  go_ret2
  exact ⟨rfl, hB2⟩
 ·show Calls Tryz.prog 57 #[.agg q.toArray] w fun e w' => e = .returned (.tuple #[.string (strOf zs), .int .i64 0]) ∧ Below w.heap.size w w'
  obtain ⟨sz, hsz⟩ : ∃ sz, Hid (strOf zs = sz) := ⟨_, hide rfl⟩
  rw [hsz.out]
  go_enter Tryz.func57, Tryz.ntmps57
  go_upto_region 1 with fail
  go_name_world w1 hw1
  rw [show w.alloc (.cells q.toArray 97) = w1 from hw1] at hB hs hA
  clear hw1
  go_wp2_with (refine wpList_load_mid rfl 97 _ rfl _ _ rfl q _ hA Tryz.underlying97 rfl iq ?_)
  refine (hg _).mono ?_
  rintro e2 w2 ⟨rfl, hb2⟩
  have hB2 := hB.trans (hb2.mono (by omega))
  have hA2 := range_below hA hb2 hs
  have hs2 := Nat.lt_of_lt_of_le hs hb2.size
  clear hA hg hB hb2 hs
  go_wp2_with (refine wpList_load_mid rfl 97 _ rfl _ _ rfl q _ hA2 Tryz.underlying97 rfl iq ?_)
  refine (ht _).mono ?_
  rintro e3 w3 ⟨v3, rfl, hM3, hb3⟩
  have hcs := mine_str hM3
  rw [hsz.out] at hcs
  have hB3 := hB2.trans (hb3.mono (by omega))
  obtain ⟨a5, cap5, rfl⟩ : ∃ a cap, v3 = .slice a zs.length cap := by
   rcases own_range hM3.1 with ⟨rfl, h0, _⟩ | ⟨g, cap, rfl, _⟩
   ·exact ⟨none, 0, by rw [h0]⟩
   ·exact ⟨_, cap, rfl⟩
  have hl' : (zs.length : Int) ≤ 1000 := by omega
  clear hsz hM3 hb3 hA2 hB2 ht
  go_wp2
  go_ret2
  exact ⟨rfl, hB3⟩
theorem markL_len {e : Int} {d : List Int} (he : e ≤ 9223372036854775807) (hd : d.length = 32) : (markL e d).length ≤ 1000 := by
 have p := @putL_len 5 (by omega)
 have h1 := putL_len he
 simp only [markL, List.length_append]
 omega
set_option maxRecDepth 100000 in
set_option maxHeartbeats 2000000 in
theorem xmark13_any (e : Int) (d : List Int) (he : e ≤ 9223372036854775807) (hd : d.length = 32) (hdb : ∀ z ∈ d, 0 ≤ z ∧ z < 256) (w : World) : Calls Tryz.prog 19 #[.int .i64 e, .agg (v8 d).toArray] w fun er w' => er = .returned (.string (optS (inB e 1048576) (markL e d))) ∧ Below w.heap.size w w' := by
 have hB : Below w.heap.size w (w.alloc (.cells (v8 d).toArray 32)) := (Below.refl _ _).alloc (Nat.le_refl _) _
 have hA := box_range w d 32
 have id : (Tryz.prog.info? 32).map (·.size) = some (v8 d).length := by rw [v8_length, hd]; exact iszD
 have hb := build_mark e d hd
 have cb := fun w => xenc0 _ _ _ w (Ms.plain_ok 5 e 0 Vt.zero_ok hd hdb).len (markL_len he hd) (fun w => xgood5 e d hd hdb w) (xbytes5 he hd hdb)
 obtain ⟨n, hn⟩ := encV_opt (inB e 1048576) (markL e d)
 simp only [hn] at cb
 clear hd hdb he hn
 generalize optS (inB e 1048576) (markL e d) = sz at *
 generalize (Ms.plain 5 e 0 Vt.zero d).cells = q at *
 generalize v8 d = u at *
 go_enter Tryz.func19, Tryz.ntmps19
 go_upto_region 1 with fail
 go_name_world w1 hw1
 rw [show w.alloc (.cells u.toArray 32) = w1 from hw1] at hB hA
 clear hw1
 go_wp2_with (first | (refine wpList_load_mid rfl 32 _ rfl _ _ rfl u _ hA Tryz.underlying32 rfl id ?_) | (refine wpList_build rfl 97 [(0, .const (.int .i64 5)), (1, .tmp 8), (9, .tmp 9)] rfl [(0, .int .i64 5), (1, .int .i64 e), (9, .agg u.toArray)] _ rfl (hb _) ?_))
 refine (cb _).mono ?_
 rintro e2 w2 ⟨rfl, hb2⟩
 have hB2 := hB.trans (hb2.mono hB.size)
 clear hA cb hB hb2
 go_wp2
 go_ret
 exact ⟨rfl, hB2⟩
theorem row_mine {w : World} {a : Option Addr} {zs : List Int} (h : RowAt w a zs) (cap : Nat) : (convert 57 9 (.slice a zs.length cap)).run Tryz.prog w = .ok (.string (strOf zs)) w := by
 rcases h.2.2 with rfl | ⟨b, off, rfl, _, hr⟩
 ·rw [List.length_nil, run_convert_bytes_string w 57 9 5 a 0 cap Tryz.underlying57 Tryz.underlying5 Tryz.underlying9]
  cases a <;> rfl
 ·exact row_str hr
def RdE (w : World) (R : Nat) (e : Int) : Prop :=
 R < w.heap.size ∧ (∃ a n c, w.cell? ⟨R, 0, none⟩ = some (.slice a n c)) ∧ w.cell? ⟨R, 1, none⟩ = some (.bool true) ∧ w.cell? ⟨R, 2, none⟩ = some (.int .i64 e) ∧
 w.frozen? ⟨R, 0, none⟩ = false ∧ w.frozen? ⟨R, 1, none⟩ = false ∧ w.frozen? ⟨R, 2, none⟩ = false
def Rest (w : World) (R : Nat) (rest : List Int) : Prop :=
 ∃ a cap, w.cell? ⟨R, 0, none⟩ = some (.slice a rest.length cap) ∧ rest.length ≤ cap ∧ cap ≤ maxLen ∧ RowAt w a rest ∧ ∀ x, a = some x → x.block < R
def St (w : World) (R : Nat) (rest : List Int) (e : Int) : Prop := RdE w R e ∧ (e = 0 → Rest w R rest)
theorem RdE.set0 {w : World} {R : Nat} {e : Int} (h : RdE w R e) (a : Option Addr) (n c : Nat) : RdE (w.setCell ⟨R, 0, none⟩ (.slice a n c)) R e := by
 obtain ⟨hR, ⟨a', n', c', h0⟩, h1, h2, f0, f1, f2⟩ := h
 refine ⟨by simpa [World.setCell] using hR, ⟨a, n, c, World.cell?_setCell_same _ _ _ h0⟩, (World.cell?_setCell_other _ _ _ _ (by simp)).trans h1, (World.cell?_setCell_other _ _ _ _ (by simp)).trans h2,
  (World.frozen?_setCell _ _ _ _).trans f0, (World.frozen?_setCell _ _ _ _).trans f1, (World.frozen?_setCell _ _ _ _).trans f2⟩
theorem RdE.set2 {w : World} {R : Nat} {e : Int} (h : RdE w R e) (e' : Int) : RdE (w.setCell ⟨R, 2, none⟩ (.int .i64 e')) R e' := by
 obtain ⟨hR, ⟨a', n', c', h0⟩, h1, h2, f0, f1, f2⟩ := h
 refine ⟨by simpa [World.setCell] using hR, ⟨a', n', c', (World.cell?_setCell_other _ _ _ _ (by simp)).trans h0⟩, (World.cell?_setCell_other _ _ _ _ (by simp)).trans h1, World.cell?_setCell_same _ _ _ h2,
  (World.frozen?_setCell _ _ _ _).trans f0, (World.frozen?_setCell _ _ _ _).trans f1, (World.frozen?_setCell _ _ _ _).trans f2⟩
theorem RowAt.get {w : World} {a : Option Addr} {zs : List Int} (h : RowAt w a zs) (k : Nat) (hk : k < zs.length) : ∃ b off, a = some ⟨b, off, none⟩ ∧ b < w.heap.size ∧ w.cell? ⟨b, off + k, none⟩ = some (.int .u8 (zs.getD k 0)) ∧ 0 ≤ zs.getD k 0 ∧ zs.getD k 0 < 256 := by
 rcases h.2.2 with rfl | ⟨b, off, rfl, hb, hr⟩
 ·simp at hk
 ·refine ⟨b, off, rfl, hb, get8 hr hk, ?_⟩
  rw [List.getD_eq_getElem?_getD, List.getElem?_eq_getElem hk]
  exact h.2.1 _ (List.getElem_mem hk)
theorem cutA_lt {a : Option Addr} {R cap n : Nat} (h : ∀ x, a = some x → x.block < R) : ∀ x, cutA a cap n = some x → x.block < R := by
  intro x hx
  unfold cutA at hx
  split at hx
  · exact h x hx
  · cases a with
    | none => simp at hx
    | some y =>
      simp only [Option.map_some, Option.some.injEq] at hx
      subst hx
      have := h y rfl
      unfold Addr.add
      split <;> exact this
theorem lt_ne {a : Option Addr} {R : Nat} (h : ∀ x, a = some x → x.block < R) : ∀ x, a = some x → x.block ≠ R := fun x hx => Nat.ne_of_lt (h x hx)
theorem err_made (R : Nat) (e : Int) (w : World) (h : RdE w R e) :
  Calls Tryz.prog 109 #[.pointer (some ⟨R, 0, none⟩)] w fun en w' => en = .returned (.int .i64 e) ∧ w' = w := by
 obtain ⟨hR, ⟨a, n, c, h0⟩, h1, h2, f0, f1, f2⟩ := h
 go_enter Tryz.func109, Tryz.ntmps109
 go_wp2
 go_ret
 exact ⟨rfl, rfl⟩
theorem left_any (R : Nat) (a : Option Addr) (n c : Nat) (w : World) (h0 : w.cell? ⟨R, 0, none⟩ = some (.slice a n c)) :
  Calls Tryz.prog 110 #[.pointer (some ⟨R, 0, none⟩)] w fun en w' => en = .returned (.int .i64 (n : Int)) ∧ w' = w := by
 go_enter Tryz.func110, Tryz.ntmps110
 go_wp2
 go_ret
 exact ⟨rfl, rfl⟩
set_option maxHeartbeats 400000 in
theorem take_any (R : Nat) (a : Option Addr) (n len c : Nat) (w : World) (h0 : w.cell? ⟨R, 0, none⟩ = some (.slice a len c)) (f0 : w.frozen? ⟨R, 0, none⟩ = false) (hn : n ≤ len) (hc : len ≤ c) (hm : c ≤ maxLen) :
  Calls Tryz.prog 175 #[.pointer (some ⟨R, 0, none⟩), .int .i64 (n : Int)] w fun en w' => en = .returned (.slice a n c) ∧ w' = w.setCell ⟨R, 0, none⟩ (.slice (cutA a c n) (len - n) (c - n)) := by
 unfold maxLen at hm
 by_cases h : c = n
 ·subst h
  obtain rfl : len = c := by omega
  go_enter Tryz.func175, Tryz.ntmps175
  go_wp2
  go_ret
  exact ⟨rfl, by simp [cutA]⟩
 ·go_enter Tryz.func175, Tryz.ntmps175
  go_wp2
  go_ret
  exact ⟨rfl, by simp [cutA, h]⟩
set_option maxHeartbeats 400000 in
theorem fail_any (R : Nat) (e0 e : Int) (w : World) (h : RdE w R e0) :
  Calls Tryz.prog 146 #[.pointer (some ⟨R, 0, none⟩), .int .i64 e] w fun en w' => en = .returned (.tuple #[]) ∧ RdE w' R e ∧ w.grownBy w' (some R) := by
 have hE := (h.set2 e).set0 none 0 0
 have hg := gb_trans (gb_set w R 2 (.int .i64 e)) (gb_set (w.setCell ⟨R, 2, none⟩ (.int .i64 e)) R 0 (.slice none 0 0))
 obtain ⟨hR, ⟨a, n, c, h0⟩, h1, h2, f0, f1, f2⟩ := h
 go_enter Tryz.func146, Tryz.ntmps146
 go_wp2
 go_end0
 exact ⟨rfl, hE, hg⟩
theorem val_bound (l : List Int) (h : ∀ z ∈ l, 0 ≤ z ∧ z < 256) : 0 ≤ val l ∧ val l < 256 ^ l.length := by
  have : ∀ k, k ≤ l.length → 0 ≤ val (l.take k) ∧ val (l.take k) < 256 ^ k := by
    intro k
    induction k with
    | zero => intro _; simp [val]
    | succ k ih =>
      intro hk
      have hlt : k < l.length := by omega
      obtain ⟨i1, i2⟩ := ih (by omega)
      have hz := h l[k] (List.getElem_mem hlt)
      rw [List.take_succ_eq_append_getElem hlt, val_snoc, Int.pow_succ]
      omega
  have := this l.length (Nat.le_refl _)
  rwa [List.take_length] at this
theorem val_take (l : List Int) (k : Nat) (h : k < l.length) : val (l.take (k + 1)) = val (l.take k) * 256 + l.getD k 0 := by
 rw [List.take_succ_eq_append_getElem h, val_snoc, List.getD_eq_getElem?_getD, List.getElem?_eq_getElem h]; rfl
theorem or_join (x d : Int) (h0 : 0 ≤ x) (h1 : x < 72057594037927936) (h2 : 0 ≤ d) (h3 : d < 256) : bits .or .u64 (x * 256) d = x * 256 + d := by
 obtain ⟨m, rfl⟩ := Int.eq_ofNat_of_zero_le h0
 obtain ⟨q, rfl⟩ := Int.eq_ofNat_of_zero_le h2
 have e : ((m : Int) * 256) = ((m * 256 : Nat) : Int) := by omega
 rw [e, u64_or_nat _ _ (by omega) (by omega), nat_join 8 _ _ (by omega) (by omega)]
 omega
def valR (ds : List Int) : Int × Int := if ds.head? = some 0 ∨ 9223372036854775807 < val ds then (0, 11) else (val ds, 0)
set_option maxHeartbeats 800000 in
theorem value_any (a : Option Addr) (cap : Nat) (ds : List Int) (w : World) (h : RowAt w a ds) (hl : ds.length ≤ 8) :
    Calls Tryz.prog 176 #[.slice a ds.length cap] w fun en w' => en = .returned (.tuple #[.int .i64 (valR ds).1, .int .i64 (valR ds).2]) ∧ w' = w := by
  by_cases hh : ds.head? = some 0
  · have HV : Hid (valR ds = (0, 11)) := by show _ = _; simp [valR, hh]
    obtain ⟨tl, rfl⟩ : ∃ tl, ds = 0 :: tl := by
      cases ds with
      | nil => simp at hh
      | cons x tl => simp at hh; exact ⟨tl, by rw [hh]⟩
    obtain ⟨b, off, rfl, hb, hc, _⟩ := h.get 0 (by simp)
    have hc' : w.cell? ⟨b, off, none⟩ = some (.int .u8 0) := by simpa using hc
    have hp : (0 : Int) < ((0 :: tl : List Int).length : Int) := by simp
    generalize (0 :: tl : List Int) = ds at *
    go_enter Tryz.func176, Tryz.ntmps176
    go_wp2
    go_ret2
    rw [HV.out]
    exact ⟨rfl, rfl⟩
  · have hz := h.2.1
    have hstart : ds = [] ∨ ∃ b off z, a = some ⟨b, off, none⟩ ∧ w.cell? ⟨b, off, none⟩ = some (.int .u8 z) ∧ (z == 0) = false ∧ 0 < ds.length := by
      cases ds with
      | nil => exact Or.inl rfl
      | cons x tl =>
        obtain ⟨b, off, rfl, hb, hc, _⟩ := h.get 0 (by simp)
        exact Or.inr ⟨b, off, x, rfl, by simpa using hc, by simpa using hh, by simp⟩
    have hval := val_bound ds hz
    rcases hstart with rfl | ⟨b, off, z0, rfl, hc0, hne, hpos⟩
    · go_enter Tryz.func176, Tryz.ntmps176
      go_wp2
      refine wp_loop_rounds 1 ?_
      rw [rounds_succ]
      go_wp2
      go_ret2
      exact ⟨rfl, rfl⟩
    · have hp : (0 : Int) < (ds.length : Int) := by omega
      have hc : ∀ j, j < ds.length → w.cell? ⟨b, off + j, none⟩ = some (.int .u8 (ds.getD j 0)) := by
        obtain ⟨_, _, hd | ⟨b', off', hx, _, hc⟩⟩ := h
        · rw [hd] at hpos; simp at hpos
        · simp only [Option.some.injEq, Addr.mk.injEq] at hx
          obtain ⟨rfl, rfl, _⟩ := hx
          exact fun j hj => get8 hc hj
      have HC : Hid (∀ j, j < ds.length → w.cell? ⟨b, off + j, none⟩ = some (.int .u8 (ds.getD j 0))) := hc
      have HR : Hid (valR ds = if 9223372036854775807 < val ds then (0, 11) else (val ds, 0)) := by show _ = _; simp [valR, hh]
      clear hc h hh
      go_enter Tryz.func176, Tryz.ntmps176
      go_wp2
      go_loop [4, 17] (fun n i => ∃ k : Nat, k ≤ ds.length ∧ i = .int .i64 k ∧ n = .int .u64 (val (ds.take k))) (fun _ i => ds.length - (intOf i).toNat)
      case atStart => exact ⟨0, by omega, rfl, rfl⟩
      case round =>
        obtain ⟨k, hk, rfl, rfl⟩ := hrel
        by_cases hlt : k < ds.length
        · obtain ⟨z, hcx, hz0, hz1, HV⟩ : ∃ z, w.cell? ⟨b, off + k, none⟩ = some (.int .u8 z) ∧ 0 ≤ z ∧ z < 256 ∧ Hid (val (ds.take (k + 1)) = val (ds.take k) * 256 + z) := by
            refine ⟨ds.getD k 0, HC.out k hlt, ?_, ?_, val_take ds k hlt⟩ <;> rw [List.getD_eq_getElem?_getD, List.getElem?_eq_getElem hlt]
            · exact (hz _ (List.getElem_mem hlt)).1
            · exact (hz _ (List.getElem_mem hlt)).2
          have hb7 : 0 ≤ val (ds.take k) ∧ val (ds.take k) < 72057594037927936 := by
            have := val_bound (ds.take k) (fun z hz' => hz z (List.mem_of_mem_take hz'))
            rw [List.length_take_of_le (by omega)] at this
            have h7 : 256 ^ k ≤ 72057594037927936 := Nat.le_trans (Nat.pow_le_pow_right (by omega) (show k ≤ 7 by omega)) (by decide)
            have e7 : ((256 ^ k : Nat) : Int) = (256 : Int) ^ k := Int.natCast_pow 256 k
            rw [← e7] at this
            omega
          obtain ⟨hx0, hx1⟩ := hb7
          have ej := or_join (val (ds.take k)) z hx0 hx1 hz0 hz1
          generalize val (ds.take k) = X at *
          go_wp2
          go_round
          case rel => exact ⟨k + 1, by omega, by go_num, by rw [HV.out]⟩
          case measure => simp [intOf]; omega
        · obtain rfl : k = ds.length := by omega
          rw [List.take_length]
          by_cases hbig : 9223372036854775807 < val ds
          · go_wp2
            go_ret2
            rw [HR.out, if_pos hbig]
            exact ⟨rfl, rfl⟩
          · go_wp2
            go_ret2
            rw [HR.out, if_neg (by omega)]
            exact ⟨rfl, rfl⟩
def numR : List Int → Int × Nat × Int
  | [] => (0, 0, 10)
  | k :: tl => if 8 < k then (0, 0, 11) else if (tl.length : Int) < k then (0, 0, 10) else
      if (valR (tl.take k.toNat)).2 = 0 then ((valR (tl.take k.toNat)).1, 1 + k.toNat, 0) else (0, 0, (valR (tl.take k.toNat)).2)
theorem valR_err (ds : List Int) (h : (valR ds).2 ≠ 0) : valR ds = (0, 11) := by
 unfold valR at h ⊢
 split
 ·rfl
 ·rename_i hh; rw [if_neg hh] at h; exact absurd rfl h
set_option maxHeartbeats 1600000 in
theorem number_any (R : Nat) (e0 : Int) (rest : List Int) (w : World) (hE : RdE w R e0) (hR : Rest w R rest) :
  Calls Tryz.prog 145 #[.pointer (some ⟨R, 0, none⟩)] w fun en w' => en = .returned (.tuple #[.int .i64 (numR rest).1, .int .i64 (numR rest).2.2]) ∧ RdE w' R e0 ∧ w.grownBy w' (some R) ∧ ((numR rest).2.2 = 0 → Rest w' R (rest.drop (numR rest).2.1)) := by
 obtain ⟨a, cap, h0, hc, hm, hrow, hlt⟩ := hR
 have hne := lt_ne hlt
 have f0 := hE.2.2.2.2.1
 cases rest with
 | nil =>
  have h0' : w.cell? ⟨R, 0, none⟩ = some (.slice a 0 cap) := h0
  go_enter Tryz.func145, Tryz.ntmps145
  go_wp2_with fail
  refine (left_any R a 0 cap w h0').mono ?_
  rintro e w1 ⟨rfl, rfl⟩
  go_wp2
  go_ret2
  exact ⟨rfl, hE, gb_refl _ _, fun h => by cases h⟩
 | cons k tl =>
  obtain ⟨b, off, rfl, hb, hcb, hk0, hk1⟩ := hrow.get 0 (by simp)
  have hk : (k :: tl).getD 0 0 = k := rfl
  rw [hk] at hcb hk0 hk1
  have hbR : b ≠ R := hne _ rfl
  have hcb1 : (w.setCell ⟨R, 0, none⟩ (.slice (cutA (some ⟨b, off, none⟩) cap 1) ((k :: tl).length - 1) (cap - 1))).cell? ⟨b, off, none⟩ = some (.int .u8 k) :=
   (World.cell?_setCell_other _ _ _ _ (by intro hx; injection hx with hx1; exact hbR hx1.symm)).trans (by simpa using hcb)
  have hE1 := hE.set0 (cutA (some ⟨b, off, none⟩) cap 1) ((k :: tl).length - 1) (cap - 1)
  have hg1 := gb_set w R 0 (.slice (cutA (some ⟨b, off, none⟩) cap 1) ((k :: tl).length - 1) (cap - 1))
  have hr1 := (hrow.drop 1 cap (by simp) hc).gb hg1 (.inr (cutA_ne hne))
  have h01 : (w.setCell ⟨R, 0, none⟩ (.slice (cutA (some ⟨b, off, none⟩) cap 1) ((k :: tl).length - 1) (cap - 1))).cell? ⟨R, 0, none⟩ = some (.slice (cutA (some ⟨b, off, none⟩) cap 1) ((k :: tl).length - 1) (cap - 1)) := World.cell?_setCell_same _ _ _ h0
  have hlen : (k :: tl).length - 1 = tl.length := by simp
  rw [hlen] at hE1 hg1 hr1 h01 hcb1
  generalize hW1 : w.setCell ⟨R, 0, none⟩ (.slice (cutA (some ⟨b, off, none⟩) cap 1) tl.length (cap - 1)) = W1 at *
  have c1 := take_any R (some ⟨b, off, none⟩) 1 (k :: tl).length cap w h0 f0 (by simp) hc hm
  rw [hlen, hW1] at c1
  have HW1 : Hid (w.setCell ⟨R, 0, none⟩ (.slice (cutA (some ⟨b, off, none⟩) cap 1) tl.length (cap - 1)) = W1) := hW1
  clear hW1
  have hpos : (((k :: tl).length : Int) == 0) = false := by simp; omega
  have hnm := cutA_ne (cap := cap) (n := 1) hne
  have hltm := cutA_lt (cap := cap) (n := 1) hlt
  generalize hA1 : cutA (some ⟨b, off, none⟩) cap 1 = A1 at *
  clear hA1
  have cl := left_any R (some ⟨b, off, none⟩) (k :: tl).length cap w h0
  go_enter Tryz.func145, Tryz.ntmps145
  go_wp2_with fail
  refine cl.mono ?_
  rintro e w1 ⟨rfl, rfl⟩
  clear cl
  go_wp2_with fail
  refine c1.mono ?_
  rintro e w2 ⟨rfl, rfl⟩
  clear c1
  by_cases hk8 : 8 < k
  ·have HN : Hid (numR (k :: tl) = (0, 0, 11)) := by show _ = _; simp [numR, hk8]
   go_wp2_with fail
   go_ret2
   rw [HN.out]
   exact ⟨rfl, hE1, hg1, fun h => by cases h⟩
  ·by_cases hkl : (tl.length : Int) < k
   ·have HN : Hid (numR (k :: tl) = (0, 0, 10)) := by show _ = _; simp [numR, hk8, hkl]
    go_wp2_with fail
    refine (left_any R A1 tl.length (cap - 1) w2 h01).mono ?_
    rintro e w3 ⟨rfl, rfl⟩
    go_wp2_with fail
    go_ret2
    rw [HN.out]
    exact ⟨rfl, hE1, hg1, fun h => by cases h⟩
   ·obtain ⟨q, hqk⟩ : ∃ q : Nat, k.toNat = q := ⟨_, rfl⟩
    have hkq : (q : Int) = k := by omega
    have hq : q ≤ tl.length := by omega
    have hcl : tl.length ≤ cap - 1 := by simp at hc; omega
    have c2 := take_any R A1 q tl.length (cap - 1) w2 h01 hE1.2.2.2.2.1 hq hcl (by omega)
    rw [hkq] at c2
    have hE2 := hE1.set0 (cutA A1 (cap - 1) q) (tl.length - q) (cap - 1 - q)
    have hg2 := gb_set w2 R 0 (.slice (cutA A1 (cap - 1) q) (tl.length - q) (cap - 1 - q))
    have hr1' : RowAt w2 A1 tl := by simpa using hr1
    have hr2 := (hr1'.take q).gb hg2 (.inr hnm)
    have hr3 := (hr1'.drop q (cap - 1) hq hcl)
    have h02 : (w2.setCell ⟨R, 0, none⟩ (.slice (cutA A1 (cap - 1) q) (tl.length - q) (cap - 1 - q))).cell? ⟨R, 0, none⟩ = some (.slice (cutA A1 (cap - 1) q) (tl.length - q) (cap - 1 - q)) := World.cell?_setCell_same _ _ _ h01
    have hRest : Rest (w2.setCell ⟨R, 0, none⟩ (.slice (cutA A1 (cap - 1) q) (tl.length - q) (cap - 1 - q))) R (tl.drop q) := by
     refine ⟨cutA A1 (cap - 1) q, cap - 1 - q, by rw [List.length_drop]; exact h02, by rw [List.length_drop]; omega, by omega, ?_, ?_⟩
     ·exact hr3.gb hg2 (.inr (cutA_ne hnm))
     ·exact cutA_lt hltm
    generalize w2.setCell ⟨R, 0, none⟩ (.slice (cutA A1 (cap - 1) q) (tl.length - q) (cap - 1 - q)) = W2 at *
    have hqt : (tl.take q).length = q := List.length_take_of_le hq
    have c3 := value_any A1 (cap - 1) (tl.take q) W2 hr2 (by omega)
    rw [hqt] at c3
    have HN : Hid (numR (k :: tl) = if (valR (tl.take q)).2 = 0 then ((valR (tl.take q)).1, 1 + q, 0) else (0, 0, (valR (tl.take q)).2)) := by
     show _ = _
     simp only [numR, if_neg hk8, if_neg hkl, hqk]
    clear hr1 hr2 hr3 hqt hqk hkq
    go_wp2_with fail
    refine (left_any R A1 tl.length (cap - 1) w2 h01).mono ?_
    rintro e w3 ⟨rfl, rfl⟩
    go_wp2_with fail
    refine c2.mono ?_
    rintro e w4 ⟨rfl, rfl⟩
    clear c2
    go_wp2_with fail
    refine c3.mono ?_
    rintro e w5 ⟨rfl, rfl⟩
    clear c3
    go_wp2_with fail
    go_ret2
    refine ⟨?_, hE2, gb_trans hg1 hg2, ?_⟩
    ·rw [HN.out]
     by_cases hv : (valR (tl.take q)).2 = 0
     ·rw [if_pos hv, hv]; exact rfl
     ·rw [if_neg hv, valR_err _ hv]; exact rfl
    ·rw [HN.out]
     by_cases hv : (valR (tl.take q)).2 = 0
     ·rw [if_pos hv]; intro _; rw [Nat.add_comm]; exact hRest
     ·rw [if_neg hv]; intro h; exact absurd h hv
end Go.Proofs.YtnfijfnnpbenfaaGreatDoor
