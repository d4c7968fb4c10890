/- NetKnows: what was claimed is known, and what was not is not; without any condition -/
import Derived.Test.YtilbjeeabecfjaaGreatJK0
import Derived.Test.YtilbjeeabecfjaaGreatJK10
import Derived.Test.YtilbjeeabecfjaaGreatJK2
import Derived.WalkKit
namespace Go.Proofs.YtilbjeeabecfjaaGreat
open Go.RowKit
open Sha Tal
set_option linter.unusedVariables false
set_option linter.unusedSimpArgs false
theorem toList_iff {a b : ByteArray} : a.toList = b.toList ↔ a = b := by
 constructor
 ·intro h
  rw [ByteArray.toList_eq, ByteArray.toList_eq] at h
  exact ByteArray.ext (Array.toList_inj.1 h)
 ·intro h; rw [h]
theorem part_strV (w : World) (q : List Value) (i : Nat) (c : ByteArray) (h : q[i]? = some (.string c)) : (part 9 q.toArray i).run Tryz.prog w = .ok (.string c) w := by
 simp [part, isAgg, run_underlying Tryz.underlying9, h]
theorem part_tagV (w : World) (q : List Value) (i : Nat) (t : List Int) (h : List.take 16 (List.drop i q) = v8 t) : (part 30 q.toArray i).run Tryz.prog w = .ok (.agg (v8 t).toArray) w := by
 simp [part, isAgg, run_underlying Tryz.underlying30, run_size iszT, h]
theorem Ev.B_iff {x y : Ev} : Ev.B x y = true ↔ x = y := by
 cases x
 cases y
 simp [Ev.B, toList_iff]
theorem ex_bin {P : Program} {o : Oper} {a : Act} {w : World} {op : BinOp} {t t2 : TypeId} {x y : Operand} {u v : Array Value} {r : Value} (ho : o.op = .binOp op t x y t2) (hx : a.eval x = .agg u) (hy : a.eval y = .agg v) (hm : P.eqGuardType P.depth t = false) (hr : (binOp op t (.agg u) (.agg v)).run P w = .ok r w) : (execOp a.eval o).run P w = .ok (.value r) w := by
 unfold execOp
 simp only [ho, hx, hy, Sem.run_bind, run_eqGuard_agg w op t x y u v hm, Result.andThen_ok, hr, Sem.run_pure]
theorem fldCl : (Tryz.prog.fieldsOf 36).toList.map (fun f => (f.name, f.type, f.offset)) = [("ID", 3, 0), ("Body", 9, 1), ("Tag", 30, 2)] := by kernel_rfl
theorem undCl : Tryz.prog.underlying 36 = some (.struct (Tryz.prog.fieldsOf 36)) := by kernel_rfl
theorem sihCl : Tryz.prog.stoodInHeld 36 = false := by kernel_rfl
theorem Cl_eqIn (x y : Ev) (hx : x.t.length = 16) (hy : y.t.length = 16) (d : Nat) (w : World) :
  (Op.equalIn (d + 2 + 1) 36 (.agg x.cells.toArray) (.agg y.cells.toArray)).run Tryz.prog w = .ok (Ev.B x y) w := by
 rw [run_equalIn_struct w (d + 2) 36 _ _ undCl sihCl]
 have hf := fldCl
 generalize (Tryz.prog.fieldsOf 36).toList = fs at hf
 obtain ⟨f0, f1, f2, rfl⟩ : ∃ f0 f1 f2, fs = [f0, f1, f2] := by
  rcases fs with _ | ⟨f0, _ | ⟨f1, _ | ⟨f2, _ | ⟨f3, fs⟩⟩⟩⟩ <;> simp at hf
  exact ⟨f0, f1, f2, rfl⟩
 simp only [List.map_cons, List.map_nil, List.cons.injEq, Prod.mk.injEq, and_true] at hf
 obtain ⟨⟨a0, b0, d0⟩, ⟨a1, b1, d1⟩, ⟨a2, b2, d2⟩⟩ := hf
 have p0 := part_intV w x.cells 0 x.n rfl
 have q0 := part_intV w y.cells 0 y.n rfl
 have p1 := part_strV w x.cells 1 x.s rfl
 have q1 := part_strV w y.cells 1 y.s rfl
 have p2 := part_tagV w x.cells 2 x.t (by show List.take 16 (v8 x.t) = v8 x.t; rw [List.take_of_length_le (by rw [v8_length, hx]; exact Nat.le_refl _)])
 have q2 := part_tagV w y.cells 2 y.t (by show List.take 16 (v8 y.t) = v8 y.t; rw [List.take_of_length_le (by rw [v8_length, hy]; exact Nat.le_refl _)])
 have eI := fun a b => run_equalIn_int (P := Tryz.prog) w (d + 1) 3 .i64 .i64 a b Tryz.underlying3
 have eS := fun a b => run_equalIn_string (P := Tryz.prog) w (d + 1) 9 a b Tryz.underlying9
 have eT := run_equal8 (P := Tryz.prog) w d 30 5 16 Tryz.underlying30 Tryz.underlying5 isz8 x.t y.t hx hy
 unfold Ev.B
 generalize x.cells.toArray = q at *
 generalize y.cells.toArray = q' at *
 obtain ⟨T, hT⟩ : ∃ T, (v8 x.t).toArray = T := ⟨_, rfl⟩
 obtain ⟨T', hT'⟩ : ∃ T, (v8 y.t).toArray = T := ⟨_, rfl⟩
 rw [hT] at p2 eT
 rw [hT'] at q2 eT
 clear hT hT'
 obtain ⟨D, hD⟩ : ∃ D, d + 1 + 1 = D := ⟨_, rfl⟩
 have eT : (Op.equalIn (d + 1 + 1) 30 (.agg T) (.agg T')).run Tryz.prog w = .ok (x.t == y.t) w := eT
 rw [hD] at eT
 have n0 : ¬ ("ID" = "_") := by decide
 have n1 : ¬ ("Body" = "_") := by decide
 have n2 : ¬ ("Tag" = "_") := by decide
 simp only [Op.eqFields, a0, b0, d0, a1, b1, d1, a2, b2, d2, ne_eq, n0, n1, n2, not_false_eq_true, if_true]
 rw [show d + 2 = d + 1 + 1 from rfl, hD]
 rw [hD] at eI
 simp only [hD] at eS
 clear hD
 simp only [Sem.run_bind, p0, q0, Result.andThen_ok, eI]
 cases (x.n == y.n)
 ·simp only [Bool.not_false, if_true, Sem.run_pure, Bool.false_and]
 ·simp only [Bool.not_true, Bool.false_eq_true, if_false, Sem.run_bind, p1, q1, Result.andThen_ok, eS, Bool.true_and]
  cases (x.s.toList == y.s.toList)
  ·simp only [Bool.not_false, if_true, Sem.run_pure, Bool.false_and]
  ·simp only [Bool.not_true, Bool.false_eq_true, if_false, Sem.run_bind, p2, q2, Result.andThen_ok, eT, Bool.true_and]
   cases (x.t == y.t)
   ·simp only [Bool.not_false, if_true, Sem.run_pure]
   ·simp only [Bool.not_true, Bool.false_eq_true, if_false, Sem.run_pure]
theorem Cl_eq10 (x y : Ev) (hx : x.ok) (hy : y.ok) (w : World) : (Op.equalIn 10000 36 (.agg x.cells.toArray) (.agg y.cells.toArray)).run Tryz.prog w = .ok (Ev.B x y) w := Cl_eqIn x y hx.tl hy.tl 9997 w
theorem Cl_eq (x y : Ev) (hx : x.ok) (hy : y.ok) (w : World) : (binOp .eql 36 (.agg x.cells.toArray) (.agg y.cells.toArray)).run Tryz.prog w = .ok (.bool (Ev.B x y)) w := by
 rw [run_eql_struct, Cl_eq10 x y hx hy w]; rfl
structure InvK (s : Nt) : Prop where
 pw : ∀ p ∈ s.way, p.x ∈ s.past
 pk : ∀ x ∈ s.past, x ∈ s.kn ∧ ∀ y ∈ claimsC s.nodes x.s, y ∈ s.kn
theorem send_k {s : Nt} (h : InvK s) (dt : Int) (x : Ev) : InvK (sendS s dt x).1 ∧ (sendS s dt x).1.nodes = s.nodes ∧ ((sendS s dt x).2 ≠ 0 → (sendS s dt x).1 = s) ∧ ((sendS s dt x).2 = 0 → ∀ z, z ∈ (sendS s dt x).1.kn ↔ z ∈ s.kn ∨ z ∈ x :: claimsC s.nodes x.s) := by
 unfold sendS
 split
 ·exact ⟨h, rfl, fun _ => rfl, fun q => by simp at q⟩
 ·split
  ·rename_i hm
   have hp := h.pw _ hm
   have hk := h.pk _ hp
   refine ⟨h, rfl, fun _ => rfl, fun _ z => ⟨.inl, fun q => q.elim id fun q => ?_⟩⟩
   rcases List.mem_cons.1 q with rfl | q
   ·exact hk.1
   ·exact hk.2 z q
  ·split
   ·exact ⟨h, rfl, fun _ => rfl, fun q => by simp at q⟩
   ·split
    ·rename_i hp
     have hk := h.pk _ hp
     refine ⟨⟨fun p hp' => ?_, h.pk⟩, rfl, fun q => absurd rfl q, fun _ z => ⟨.inl, fun q => q.elim id fun q => ?_⟩⟩
     ·rcases List.mem_append.1 hp' with q | q
      ·exact h.pw p q
      ·rw [List.mem_singleton.1 q]; exact hp
     ·rcases List.mem_cons.1 q with rfl | q
      ·exact hk.1
      ·exact hk.2 z q
    ·refine ⟨⟨fun p hp' => ?_, fun y hy => ?_⟩, rfl, fun q => absurd rfl q, fun _ z => List.mem_append⟩
     ·rcases List.mem_append.1 hp' with q | q
      ·exact List.mem_append.2 (.inl (h.pw p q))
      ·rw [List.mem_singleton.1 q]; exact List.mem_append.2 (.inr (List.mem_singleton.2 rfl))
     ·rcases List.mem_append.1 hy with q | q
      ·exact ⟨List.mem_append.2 (.inl (h.pk y q).1), fun z hz => List.mem_append.2 (.inl ((h.pk y q).2 z hz))⟩
      ·rw [List.mem_singleton.1 q]
       exact ⟨List.mem_append.2 (.inr List.mem_cons_self), fun z hz => List.mem_append.2 (.inr (List.mem_cons_of_mem _ hz))⟩
theorem take_k {s : Nt} (h : InvK s) (i : Int) : InvK (takeS s i).1 ∧ (takeS s i).1.nodes = s.nodes ∧ (takeS s i).1.kn = s.kn := by
 unfold takeS
 split
 ·exact ⟨⟨fun p hp => h.pw p (List.mem_of_mem_eraseIdx hp), h.pk⟩, rfl, rfl⟩
 ·exact ⟨h, rfl, rfl⟩
theorem note_k {s : Nt} (h : InvK s) (x : Ev) : InvK ⟨s.nodes, s.way, s.on, s.kn ++ [x], s.past, s.th, s.sent, s.taken⟩ :=
 ⟨h.pw, fun y hy => ⟨List.mem_append.2 (.inl (h.pk y hy).1), fun z hz => List.mem_append.2 (.inl ((h.pk y hy).2 z hz))⟩⟩
theorem note_inv {s : Nt} {k : Nat} (h : Inv s k) (x : Ev) : Inv ⟨s.nodes, s.way, s.on, s.kn ++ [x], s.past, s.th, s.sent, s.taken⟩ k := ⟨h.nd, h.on, h.th, h.wl, h.pl, h.s0, h.s1, h.t0, h.t1, h.n0⟩
def AheadK (N B : Nat) (c : Ev) (w : World) (k : Nat) (kb : Bool) (wr : World) : Prop := ∃ (P' : Nd) (K' : Nat) (s' : Nt), P'.p = N ∧ K' ≤ 700000 * k ∧ NetAt wr B K' P' s' 0 ∧ Inv s' k ∧ InvK s' ∧ s'.nodes = 4 ∧ (kb = true ↔ c ∈ s'.kn) ∧ Below B w wr
def MidK (N B : Nat) (c : Ev) (w : World) (k : Nat) (kb : Bool) (l : Value) (wr : World) : Prop := ∃ (y : Sl Ev) (P' : Nd) (K' : Nat) (s' : Nt), l = y.val ∧ y.At EvE wr ∧ P'.p = N ∧ K' ≤ 700000 * k ∧ NetAt wr B K' P' s' 0 ∧ Inv s' k ∧ InvK s' ∧ s'.nodes = 4 ∧ (c ∈ s'.kn ↔ kb = true ∨ c ∈ y.xs) ∧ (∀ z ∈ y.xs, z ∈ s'.kn) ∧ Below B w wr
theorem own_new (w : World) (u : List Value) (hu : u.length = 18) : (w.alloc (.cells u.toArray 36)).ownsRow w.heap.size 36 18 (.slice (some ⟨w.heap.size, 0, none⟩) 1 1) 1 u :=
 ⟨by rw [hu], .inr ⟨w.heap.size, 1, u.toArray, rfl, Nat.le_refl _, heap_alloc_new w _, Nat.le_refl _, by unfold maxLen; omega, by simp [hu], by simp [← hu]⟩⟩
theorem ex_appC {o : Oper} {a : Act} {w : World} {s x : Operand} {R : Nat} {v : Value} {n : Nat} {xs : List Value} {y : Sl Ev} (ho : o.op = .call { callee := .builtin .append, args := #[s, x], argTypes := #[63, 63] }) (hv : a.eval s = v) (hx : a.eval x = y.val)
    (hown : w.ownsRow R 36 18 v n xs) (hR : R ≤ w.heap.size) (hy : y.At EvE w) (hn : n ≤ 1000000) (hm : y.xs.length ≤ 1000000) :
    ∃ v' w', (execOp a.eval o).run Tryz.prog w = .ok (.value v') w' ∧ (w'.ownsRow R 36 18 v' (n + y.xs.length) (xs ++ y.xs.flatMap Ev.cells) ∧ w.grownBy w' v.ownBlock) := by
  obtain ⟨i1, hi1, hiz, his, hib⟩ := info_parts infoCl
  have hfl : (y.xs.flatMap Ev.cells).length = y.xs.length * 18 := flat_len_k (k := 18) (fun z hz => EvE.len z (hy.2.1 z hz))
  have h1 : ∀ u ∈ y.xs.flatMap Ev.cells, u.oneCell' = true := fun u hu => by
    obtain ⟨z, _, hz⟩ := List.mem_flatMap.1 hu
    exact EvE.one z u hz
  have hsrc : Src Tryz.prog 18 63 y.val y.xs.length (y.xs.flatMap Ev.cells) w := by
    obtain ⟨ya, yc, ys⟩ := y
    rcases hy.2.2 with h0 | ⟨b, off, hab, hlt, hr⟩
    · have h0 : ys = [] := h0
      subst h0
      cases ya with
      | none => exact Src.ofNil _ Tryz.underlying63 yc
      | some ad => exact Src.ofSlice _ Tryz.underlying63 ad 0 yc [] rfl (fun j u hu => by simp at hu) (fun u hu => by simp at hu)
    · have hab : ya = some ⟨b, off, none⟩ := hab
      subst hab
      exact Src.ofSlice _ Tryz.underlying63 ⟨b, off, none⟩ ys.length yc _ hfl (fun j u hu => by have := hr j u hu; rw [Addr.add_mid]; exact this) h1
  obtain ⟨v', w', hrun, h2, h3, -⟩ := run_append_own_src2 (P := Tryz.prog) w R 63 63 o.type 36 i1 _ 18 i1.bytes Tryz.underlying63 hi1 hiz his rfl (by decide) v n xs hown y.val y.xs.length _ hsrc (by unfold maxLen; omega) (Nat.le_trans (Nat.mul_le_mul (show n + y.xs.length ≤ 2000000 by omega) (show i1.bytes ≤ 40 by rw [hib]; decide)) (by decide)) hR
  exact ⟨v', w', exec_append1 ho hv hx hrun, h2, h3⟩
set_option maxRecDepth 100000 in
set_option maxHeartbeats 16000000 in
theorem netKnows_walk (y : Sl Ac) (c : Ev) (w : World) (h : y.At AcE w) (hc : c.ok) : Calls Tryz.prog 4 #[y.val, .agg c.cells.toArray] w fun e w' => e = .returned (.bool true) ∧ Below w.heap.size w w' := by
 obtain ⟨cz, hcl, hcr⟩ : ∃ z : List Value, z.length = 18 ∧ (∀ w : World, (zeroValue 36).run Tryz.prog w = .ok (.agg z.toArray) w) := ⟨infoEv0, ev0_len, zeroClz⟩
 obtain ⟨ya, yc, xs⟩ := y
 obtain ⟨zu, hzu, hzl⟩ : ∃ z : List Value, (∀ w : World, (zeroValue 34).run Tryz.prog w = .ok (.agg z.toArray) w) ∧ z.length = 20 := ⟨_, zeroAct, rfl⟩
 obtain ⟨zp, hpl, hp1, hpr, hpe⟩ : ∃ z : List Value, z.length = 19 ∧ (∀ v ∈ z, v.oneCell' = true) ∧ (∀ w : World, (zeroValue 44).run Tryz.prog w = .ok (.agg z.toArray) w) ∧ Hid (infoPk0 = z) := ⟨infoPk0, pk0_len, pk0_one, zeroPk, hide rfl⟩
 obtain ⟨n, hyn⟩ : ∃ n, xs.length = n := ⟨_, rfl⟩
 have HYn := hide hyn
 have HNm : Hid (n ≤ 9223372036854775807) := hide (by rw [← hyn]; exact h.1)
 have hccl : c.cells.length = 18 := EvE.len c hc
 have icc : (Tryz.prog.info? 36).map (·.size) = some c.cells.length := by rw [hccl]; exact isz_cl
 have ecc : c.cells[1]? = some (.string c.s) := rfl
 have hceq := fun (x : Ev) (hx : x.ok) w0 => Cl_eq x c hx hc w0
 have cKc := fun (K : Nat) (P : Nd) (s : Nt) W kb (h : NetAt W (w.alloc (.cells c.cells.toArray 36)).heap.size K P s 0) hn hi => nknows_any (w.alloc (.cells c.cells.toArray 36)).heap.size K P s 0 c W h hn hc kb hi
 obtain ⟨cq, hcq⟩ : ∃ q, Hid (c.cells = q) := ⟨_, hide rfl⟩
 simp only [hcq.out] at hccl icc ecc hceq cKc ⊢
 obtain ⟨hBk, rC, sC⟩ := boxed_new w cq 36
 obtain ⟨w0, hw0⟩ : ∃ W, Hid (w.alloc (.cells cq.toArray 36) = W) := ⟨_, hide rfl⟩
 simp only [hw0.out] at hBk rC sC cKc
 obtain ⟨B, hB⟩ : ∃ B, Hid (w0.heap.size = B) := ⟨_, hide rfl⟩
 obtain ⟨CB, hCB⟩ : ∃ B, Hid (w.heap.size = B) := ⟨_, hide rfl⟩
 have cN := nnew_any 4 w0 good4
 rw [hB.out] at cN sC
 rw [hCB.out] at rC sC
 simp only [hB.out] at cKc
 have cLt := fun w1 (h : RowsAt AcE w1 ya xs) => light26_any ⟨ya, yc, xs⟩ w1 h
 simp only [Sl.val, hyn] at cLt ⊢
 have HY := hide (h.below hBk)
 have HBk := hide hBk
 have c1 : w0.cell? ⟨CB, 1, none⟩ = some (.string c.s) := rC 1 _ ecc
 obtain ⟨zs, hzs⟩ : ∃ z, c.s.size = z := ⟨_, rfl⟩
 obtain ⟨cs, hcs⟩ : ∃ z, Hid (c.s = z) := ⟨_, hide rfl⟩
 rw [hcs.out] at c1 hzs
 clear h hyn hBk ecc
 go_enter Tryz.func4, Tryz.ntmps4
 go_upto_region 1 with fail
 try simp only [hw0.out, hCB.out]
 clear hw0
 try simp only [Act.put]
 refine pl_begin ?_
 refine pl_call (d := some 13) (by rfl) (by go_simp; first | done | exact ⟨rfl, rfl⟩ | with_reducible rfl) rfl ?_
 refine (cN).mono ?_
 rintro _ w1 ⟨P0, rfl, hN1, hb1⟩
 refine ⟨_, rfl, ?_⟩
 simp only [nz]
 refine pl_t 5 (?_) (by rfl) ?_ rfl ?_
 rotate_left
 ·go_simp
  try with_reducible rfl
 simp only [nz]
 refine pl_nil ?_
 obtain ⟨N, hNp⟩ : ∃ N, P0.p = N := ⟨_, rfl⟩
 rw [hNp]
 have HNp := hide hNp
 clear cN hNp
 go_upto_region 2 with fail
 have cL := cLt w1 (HY.out.below (by rw [hB.out]; exact hb1))
 try simp only [Act.put]
 refine pl_begin ?_
 refine pl_t 14 (?_) (by rfl) ?_ rfl ?_
 rotate_left
 ·go_simp
  try with_reducible rfl
 simp only [nz]
 refine pl_t 15 (.bool false) (by rfl) (by go_simp) rfl ?_
 simp only [nz]
 refine pl_t 16 (?_) (by rfl) ?_ rfl ?_
 rotate_left
 ·go_simp
  try with_reducible rfl
 simp only [nz]
 refine pl_t 17 (?_) (by rfl) ?_ rfl ?_
 rotate_left
 ·go_simp
  try with_reducible rfl
 simp only [nz]
 refine pl_call (d := some 18) (by rfl) (by go_simp; first | done | exact ⟨rfl, rfl⟩ | with_reducible rfl) rfl ?_
 refine (cL).mono ?_
 rintro _ w2 ⟨lb, rfl, hb2, hlt⟩
 refine ⟨_, rfl, ?_⟩
 simp only [nz]
 have hN2 := hN1.below hb2
 have B2 := hb1.trans (hb2.mono (by have := hb1.size; rw [hB.out] at this; exact this))
 have c1 := (B2.cell (p := ⟨CB, 1, none⟩) sC).trans c1
 clear cL cLt hN1 hb1 hb2
 cases lb
 ·refine pl_t 19 (?_) (by rfl) ?_ rfl ?_
  rotate_left
  ·go_simp
   try with_reducible rfl
  simp only [nz]
  refine pl_t 20 (?_) (by rfl) ?_ rfl ?_
  rotate_left
  ·go_simp
   try with_reducible rfl
  simp only [nz]
  refine pl_t 21 (?_) (by rfl) ?_ rfl ?_
  rotate_left
  ·go_simp
   try with_reducible rfl
  simp only [nz]
  refine pl_skip (d := some 22) (by rfl) rfl ?_
  simp only [nz]
  refine pl_skip (d := some 23) (by rfl) rfl ?_
  simp only [nz]
  refine pl_skip (d := some 24) (by rfl) rfl ?_
  simp only [nz]
  refine pl_skip (d := some 25) (by rfl) rfl ?_
  simp only [nz]
  refine pl_t 26 (?_) (by rfl) ?_ rfl ?_
  rotate_left
  ·go_simp
   try with_reducible rfl
  simp only [nz]
  refine pl_nil ?_
  clear hlt c1
  go_upto_region 3 with fail
  try simp only [Act.put]
  refine pl_begin ?_
  refine pl_t 27 (?_) (by rfl) ?_ rfl ?_
  rotate_left
  ·go_simp
   try with_reducible rfl
  simp only [nz]
  refine pl_t 28 (.bool true) (by rfl) (by go_simp) rfl ?_
  simp only [nz]
  refine pl_t 29 (?_) (by rfl) ?_ rfl ?_
  rotate_left
  ·go_simp
   try with_reducible rfl
  simp only [nz]
  refine pl_call (d := some 30) (by rfl) (by go_simp; first | done | exact ⟨rfl, rfl⟩ | with_reducible rfl) rfl ?_
  refine (lives26_any w2).mono ?_
  rintro _ wL ⟨rfl, hbL⟩
  refine ⟨_, rfl, ?_⟩
  simp only [nz]
  refine pl_t 31 (?_) (by rfl) ?_ rfl ?_
  rotate_left
  ·go_simp
   try with_reducible rfl
  simp only [nz]
  refine pl_t 4 (?_) (by rfl) ?_ rfl ?_
  rotate_left
  ·go_simp
   try with_reducible rfl
  simp only [nz]
  refine pl_nil ?_
  have HB := hide (HBk.out.trans ((B2.trans (hbL.mono (by have := B2.size; rw [hB.out] at this; exact this))).mono (by rw [hCB.out]; omega)))
  clear B2 hbL hN2
  go_wp2_with fail
  go_ret
  exact ⟨rfl, HB.out⟩
 ·refine pl_t 19 (?_) (by rfl) ?_ rfl ?_
  rotate_left
  ·go_simp
   try with_reducible rfl
  simp only [nz]
  refine pl_t 20 (?_) (by rfl) ?_ rfl ?_
  rotate_left
  ·go_simp
   try with_reducible rfl
  simp only [nz]
  refine pl_t 21 (?_) (by rfl) ?_ rfl ?_
  rotate_left
  ·go_simp
   try with_reducible rfl
  simp only [nz]
  refine pl_t 22 (.pointer (some ⟨CB, 1, none⟩)) (by rfl) (by go_simp) rfl ?_
  simp only [nz]
  refine pl_t 23 (.string cs) (by rfl) (pl_one rfl rfl c1 Tryz.underlying9 rfl) rfl ?_
  simp only [nz]
  refine pl_t 24 (.int .i64 (zs : Int)) (by rfl) (by go_simp <;> (try simp [hzs])) rfl ?_
  simp only [nz]
  by_cases hz : zs ≤ 2000
  rotate_left
  ·have h2 : (2000 : Int) < zs := by omega
   refine pl_t 25 (.bool true) (by rfl) (by go_simp <;> (try simp [*])) rfl ?_
   simp only [nz]
   refine pl_t 26 (?_) (by rfl) ?_ rfl ?_
   rotate_left
   ·go_simp
    try with_reducible rfl
   simp only [nz]
   refine pl_nil ?_
   clear hlt c1 h2 hz hzs
   go_upto_region 3 with fail
   try simp only [Act.put]
   refine pl_begin ?_
   refine pl_t 27 (?_) (by rfl) ?_ rfl ?_
   rotate_left
   ·go_simp
    try with_reducible rfl
   simp only [nz]
   refine pl_t 28 (.bool true) (by rfl) (by go_simp) rfl ?_
   simp only [nz]
   refine pl_t 29 (?_) (by rfl) ?_ rfl ?_
   rotate_left
   ·go_simp
    try with_reducible rfl
   simp only [nz]
   refine pl_call (d := some 30) (by rfl) (by go_simp; first | done | exact ⟨rfl, rfl⟩ | with_reducible rfl) rfl ?_
   refine (lives26_any w2).mono ?_
   rintro _ wL ⟨rfl, hbL⟩
   refine ⟨_, rfl, ?_⟩
   simp only [nz]
   refine pl_t 31 (?_) (by rfl) ?_ rfl ?_
   rotate_left
   ·go_simp
    try with_reducible rfl
   simp only [nz]
   refine pl_t 4 (?_) (by rfl) ?_ rfl ?_
   rotate_left
   ·go_simp
    try with_reducible rfl
   simp only [nz]
   refine pl_nil ?_
   have HB := hide (HBk.out.trans ((B2.trans (hbL.mono (by have := B2.size; rw [hB.out] at this; exact this))).mono (by rw [hCB.out]; omega)))
   clear B2 hbL hN2
   go_wp2_with fail
   go_ret
   exact ⟨rfl, HB.out⟩
  ·have h2 : ¬ (2000 : Int) < zs := by omega
   refine pl_t 25 (.bool false) (by rfl) (by go_simp <;> (try simp [*])) rfl ?_
   simp only [nz]
   refine pl_t 26 (?_) (by rfl) ?_ rfl ?_
   rotate_left
   ·go_simp
    try with_reducible rfl
   simp only [nz]
   refine pl_nil ?_
   clear h2 hz hzs c1
   have hlt := hlt rfl
   have HLn : Hid (n ≤ 100) := hide hlt.1
   have HLs := hide hlt.2
   have HB0 : Hid (AheadK N B c w0 0 false w2) := hide ⟨P0, 0, _, HNp.out, by omega, hN2, inv0 4 (by decide), ⟨fun p hp => by simp at hp, fun x hx => by simp at hx⟩, rfl, by simp, B2⟩
   clear hlt hN2 B2
   go_upto_region 4 with fail
   try simp only [Act.put]
   refine pl_begin ?_
   refine pl_t 6 (?_) (by rfl) ?_ rfl ?_
   rotate_left
   ·go_simp
    try with_reducible rfl
   simp only [nz]
   refine pl_nil ?_
   go_upto_region 5 with fail
   try simp only [Act.put]
   refine pl_begin ?_
   refine pl_t 32 (?_) (by rfl) ?_ rfl ?_
   rotate_left
   ·go_simp
    try with_reducible rfl
   simp only [nz]
   refine pl_t 33 (?_) (by rfl) ?_ rfl ?_
   rotate_left
   ·go_simp
    try with_reducible rfl
   simp only [nz]
   refine pl_t 34 (?_) (by rfl) ?_ rfl ?_
   rotate_left
   ·go_simp
    try with_reducible rfl
   simp only [nz]
   refine pl_nil ?_
   go_wp2_with fail
   go_loopw [34, 6] (fun iv kv wr => ∃ (k : Nat) (kb : Bool), k ≤ n ∧ iv = .int .i64 (k : Int) ∧ kv = .bool kb ∧ Hid (AheadK N B c w0 k kb wr)) (fun iv _ _ => n - (intOf iv).toNat)
   case atStart => exact ⟨0, false, by omega, rfl, rfl, HB0⟩
   case round =>
    clear HB0
    obtain ⟨k, kb, hk, rfl, rfl, HK⟩ := hrel
    by_cases hlt : k < n
    ·have k1 : (k : Int) < n := by omega
     have hn9 : n ≤ 9223372036854775807 := HNm.out
     have hkx : k < xs.length := by rw [HYn.out]; exact hlt
     obtain ⟨b, off, hab0, hbw, hre0⟩ := HY.out.elem k hkx
     have hab : ya = some ⟨b, off, none⟩ := hab0
     have okx : Ac.ok xs[k] := HY.out.2.1 _ (List.getElem_mem hkx)
     have hxs : (xs[k]).x.s.size ≤ 2000 := HLs.out _ (List.getElem_mem hkx)
     obtain ⟨P1, K1, s1, hp1', hK1, hN, hI, hIK, h4, hkb, hBw⟩ := HK.out
     have hre : wr.rangeAt b (off + k * 20) (xs[k]).cells := range_below hre0 (by rw [hB.out]; exact hBw) hbw
     have hul := ac_len okx
     have hu1 := ac_one xs[k]
     have hex : ∀ (W : World) (D : Nat), W.rangeAt D 0 (xs[k]).cells → W.rangeAt D 2 (xs[k]).x.cells := fun W D hr j v hv => by
      have := hr (j + 2) v hv
      rw [show 0 + (j + 2) = 2 + j by omega] at this
      exact this
     obtain ⟨a, ha⟩ : ∃ a, Hid (xs[k] = a) := ⟨_, hide rfl⟩
     rw [ha.out] at okx hxs hre hul hu1
     simp only [ha.out] at hex
     obtain ⟨ak, adt, x⟩ := a
     have okx' := okx.x
     have hxs : x.s.size ≤ 2000 := hxs
     have hxl : x.cells.length = 18 := EvE.len x okx'
     have hx1 : ∀ v ∈ x.cells, v.oneCell' = true := EvE.one x
     have ixx : (Tryz.prog.info? 32).map (·.size) = some x.cells.length := by rw [hxl]; exact isz_en
     have ixc : (Tryz.prog.info? 36).map (·.size) = some x.cells.length := by rw [hxl]; exact isz_cl
     have hbc := fun w0 => build_cl x.n x.s (v8 x.t) (by rw [v8_length, okx'.tl]) w0
     have hbc : ∀ w0, (Instr.build 36 #[(0, .int .i64 x.n), (1, .string x.s), (2, .agg (v8 x.t).toArray)]).run Tryz.prog w0 = .ok (.agg x.cells.toArray) w0 := hbc
     have it : (Tryz.prog.info? 30).map (·.size) = some (v8 x.t).length := by rw [v8_length, okx'.tl]; exact iszT
     have e0 : (Ac.cells ⟨ak, adt, x⟩)[0]? = some (.int .i64 ak) := rfl
     have e1 : (Ac.cells ⟨ak, adt, x⟩)[1]? = some (.int .i64 adt) := rfl
     have e2 : (Ac.cells ⟨ak, adt, x⟩)[2]? = some (.int .i64 x.n) := rfl
     have e3 : (Ac.cells ⟨ak, adt, x⟩)[3]? = some (.string x.s) := rfl
     have e4 : ∀ (W : World) (D : Nat), W.rangeAt D 0 (Ac.cells ⟨ak, adt, x⟩) → W.rangeAt D 4 (v8 x.t) := fun W D hr j v hv => by
      have := hr (j + 4) v hv
      rw [show 0 + (j + 4) = 4 + j by omega] at this
      exact this
     obtain ⟨u, hu⟩ : ∃ u, Hid (Ac.cells ⟨ak, adt, x⟩ = u) := ⟨_, hide rfl⟩
     rw [hu.out] at hre hul hu1 e0 e1 e2 e3
     simp only [hu.out] at hex e4
     have iu : (Tryz.prog.info? 34).map (·.size) = some u.length := by rw [hul]; exact isz_act
     have hex : ∀ (W : World) (D : Nat), W.rangeAt D 0 u → W.rangeAt D 2 x.cells := hex
     subst hab
     clear hu hab0 hre0 ha HK
     go_upto_region 7 with fail
     try simp only [Act.put]
     refine pl_begin ?_
     refine pl_t 36 (.pointer (some ⟨b, off + k * 20, none⟩)) (by rfl) (by go_simp <;> (try simp [*])) rfl ?_
     simp only [nz]
     refine pl_t 37 (.agg u.toArray) (by rfl) (ex_mid rfl rfl hre Tryz.underlying34 rfl iu) rfl ?_
     simp only [nz]
     refine pl_run (d := some 8) (v := .pointer (some ⟨wr.heap.size, 0, none⟩)) (w' := wr.alloc (.cells zu.toArray 34)) (by rfl) (ex_alloc rfl (hzu _)) rfl ?_
     simp only [nz]
     refine pl_store (w' := (wr.alloc (.cells zu.toArray 34)).setCells wr.heap.size 0 u) (by rfl) (ex_put (cs := u.toArray) rfl rfl rfl (there_newN _ _ _ (by simp [hzl, hul])) (by simpa using iu) (all_one hu1)) rfl ?_
     refine pl_nil ?_
     obtain ⟨rU, hF, hF3, -⟩ := fresh_store wr zu.toArray 34 u (by simp [hzl, hul])
     have nD : ∀ b, P1.own b → b ≠ wr.heap.size := fun b hb e => by have := hN.own_lt hb; omega
     have hBw := hBw.trans (hF.mono (by have := hBw.size; rw [hB.out] at this; exact this))
     have hN := hN.below hF
     have sD : wr.heap.size < ((wr.alloc (.cells zu.toArray 34)).setCells wr.heap.size 0 u).heap.size := by omega
     obtain ⟨D, hD⟩ : ∃ D, wr.heap.size = D := ⟨_, rfl⟩
     rw [hD] at rU hN hBw nD sD
     simp only [hD]
     obtain ⟨w5, hw5⟩ : ∃ W, (wr.alloc (.cells zu.toArray 34)).setCells D 0 u = W := ⟨_, rfl⟩
     rw [hw5] at rU hN hBw sD ⊢
     clear hw5 hD hF hF3 hre
     go_upto_region 8 with fail
     have r4 := e4 w5 D rU
     try simp only [Act.put]
     refine pl_begin ?_
     refine pl_t 38 (.pointer (some ⟨D, 2, none⟩)) (by rfl) (by go_simp) rfl ?_
     simp only [nz]
     refine pl_t 39 (.pointer (some ⟨D, 2, none⟩)) (by rfl) (by go_simp) rfl ?_
     simp only [nz]
     refine pl_t 40 (.int .i64 x.n) (by rfl) (pl_one rfl rfl (rU 2 _ e2) Tryz.underlying3 rfl) rfl ?_
     simp only [nz]
     refine pl_t 41 (.pointer (some ⟨D, 2, none⟩)) (by rfl) (by go_simp) rfl ?_
     simp only [nz]
     refine pl_t 42 (.pointer (some ⟨D, 3, none⟩)) (by rfl) (by go_simp) rfl ?_
     simp only [nz]
     refine pl_t 43 (.string x.s) (by rfl) (pl_one rfl rfl (rU 3 _ e3) Tryz.underlying9 rfl) rfl ?_
     simp only [nz]
     refine pl_t 44 (.pointer (some ⟨D, 2, none⟩)) (by rfl) (by go_simp) rfl ?_
     simp only [nz]
     refine pl_t 45 (.pointer (some ⟨D, 4, none⟩)) (by rfl) (by go_simp) rfl ?_
     simp only [nz]
     refine pl_t 46 (.agg (v8 x.t).toArray) (by rfl) (ex_mid rfl rfl r4 Tryz.underlying30 rfl it) rfl ?_
     simp only [nz]
     refine pl_t 47 (.agg x.cells.toArray) (by rfl) (ex_build (parts := [(0, .tmp 40), (1, .tmp 43), (2, .tmp 46)]) (vs := [(0, .int .i64 x.n), (1, .string x.s), (2, .agg (v8 x.t).toArray)]) rfl (by first | with_reducible rfl | rfl | simp [Act.eval]) (hbc _)) rfl ?_
     simp only [nz]
     refine pl_run (d := some 9) (v := .pointer (some ⟨w5.heap.size, 0, none⟩)) (w' := w5.alloc (.cells cz.toArray 36)) (by rfl) (ex_alloc rfl (hcr _)) rfl ?_
     simp only [nz]
     refine pl_store (w' := (w5.alloc (.cells cz.toArray 36)).setCells w5.heap.size 0 x.cells) (by rfl) (ex_put (cs := x.cells.toArray) rfl rfl rfl (there_newN _ _ _ (by simp [hcl, hxl])) (by simpa using ixc) (all_one hx1)) rfl ?_
     refine pl_nil ?_
     obtain ⟨rE, hF, hF3, -⟩ := fresh_store w5 cz.toArray 36 x.cells (by simp [hcl, hxl])
     have nE : ∀ b, P1.own b → b ≠ w5.heap.size := fun b hb e => by have := hN.own_lt hb; omega
     have hBw := hBw.trans (hF.mono (by have := hBw.size; rw [hB.out] at this; exact this))
     have hN := hN.below hF
     have rU := range_below rU hF sD
     have sD := Nat.lt_of_lt_of_le sD hF.size
     have sE : w5.heap.size < ((w5.alloc (.cells cz.toArray 36)).setCells w5.heap.size 0 x.cells).heap.size := by omega
     obtain ⟨E, hE⟩ : ∃ D, w5.heap.size = D := ⟨_, rfl⟩
     rw [hE] at rE rU hN hBw nE sD sE
     simp only [hE]
     obtain ⟨w6, hw6⟩ : ∃ W, (w5.alloc (.cells cz.toArray 36)).setCells E 0 x.cells = W := ⟨_, rfl⟩
     rw [hw6] at rE rU hN hBw sD sE ⊢
     clear hw6 hE hF hF3 r4 e2 e3 e4 hbc it
     go_upto_region 9 with fail
     obtain ⟨i1, hi1, hiz, his, hib⟩ := info_parts infoCl
     have hrn : (Instr.buildSlice 63 1 #[(0, .agg x.cells.toArray)]).run Tryz.prog w6 = .ok (.slice (some ⟨w6.heap.size, 0, none⟩) 1 1) (w6.alloc (.cells x.cells.toArray 36)) := run_bs1 63 36 i1 _ x.cells Tryz.underlying63 hi1 hiz (by rw [his, hxl]) (by omega) (by omega) _
     try simp only [Act.put]
     refine pl_begin ?_
     refine pl_t 48 (.agg x.cells.toArray) (by rfl) (ex_mid rfl rfl rE Tryz.underlying36 rfl ixc) rfl ?_
     simp only [nz]
     refine pl_run (d := some 49) (v := .slice (some ⟨w6.heap.size, 0, none⟩) 1 1) (w' := w6.alloc (.cells x.cells.toArray 36)) (by rfl) (exec_bs1 rfl rfl hrn) rfl ?_
     simp only [nz]
     refine pl_t 10 (?_) (by rfl) ?_ rfl ?_
     rotate_left
     ·go_simp
      try with_reducible rfl
     simp only [nz]
     refine pl_nil ?_
     obtain ⟨hbR, rR, sR⟩ := boxed_new w6 x.cells 36
     have hoR := own_new w6 x.cells hxl
     have nR : ∀ b, P1.own b → b ≠ w6.heap.size := fun b hb e => by have := hN.own_lt hb; omega
     have hBR : B ≤ w6.heap.size := by have := hBw.size; rw [hB.out] at this; exact this
     have hBw := hBw.trans (hbR.mono (by have := hBw.size; rw [hB.out] at this; exact this))
     have hN := hN.below hbR
     have rU := range_below rU hbR sD
     have rE := range_below rE hbR sE
     have sD := Nat.lt_of_lt_of_le sD hbR.size
     have sE := Nat.lt_of_lt_of_le sE hbR.size
     obtain ⟨R, hR⟩ : ∃ D, w6.heap.size = D := ⟨_, rfl⟩
     rw [hR] at rR hoR nR sR hBR
     have HBR := hide hBR
     have NDD := hide nD
     simp only [hR]
     obtain ⟨w7, hw7⟩ : ∃ W, w6.alloc (.cells x.cells.toArray 36) = W := ⟨_, rfl⟩
     rw [hw7] at rR hoR rU rE hN hBw sD sE sR ⊢
     clear hw7 hR hbR hrn hi1 hiz his hib
     go_upto_region 10 with fail
     try simp only [Act.put]
     refine pl_begin ?_
     refine pl_t 50 (.pointer (some ⟨D, 0, none⟩)) (by rfl) (by go_simp) rfl ?_
     simp only [nz]
     refine pl_t 51 (.int .i64 ak) (by rfl) (pl_one rfl rfl (rU 0 _ e0) Tryz.underlying3 rfl) rfl ?_
     simp only [nz]
     refine pl_nil ?_
     have c1 : w7.cell? ⟨D, 1, none⟩ = some (.int .i64 adt) := rU 1 _ e1
     have c3 : w7.cell? ⟨D, 3, none⟩ = some (.string x.s) := (hex w7 D rU) 1 _ rfl
     have rX := hex w7 D rU
     have k100 : k ≤ 1000 := by have := HLn.out; omega
     have hxs4 : x.s.size ≤ 40000 := by omega
     have cS := nsend_all B K1 k P1 s1 adt x w7 hN hI k100 hK1 okx' hxs4 okx.tl okx.th
     have cT := ntake_all B K1 k P1 s1 adt w7 hN hI k100
     have cNo := nnote_any B K1 P1 s1 0 x w7 hN hI.n0 okx' (by omega)
     have cCl := fun W => claims_any 4 x.s W hxs4
     unfold ClaimsA at cCl
     have hcl6 := claimsC_len 4 x.s
     rw [hp1'] at cS cT cNo
     have hsk := send_k hIK adt x
     have htk := take_k hIK adt
     rw [h4] at hsk htk
     have HSI := hide (send_inv hI adt x)
     have HTI := hide (take_inv hI adt)
     have HSK := hide hsk
     have HTK := hide htk
     have HN := hide hN
     have HI := hide hI
     have HIK := hide hIK
     have H4 := hide h4
     have HBw := hide hBw
     have HK1 := hide hK1
     have HP1 := hide hp1'
     have HKB := hide hkb
     have HX := hide okx'
     have HL6 := hide hcl6
     have gE : ∀ (W' : World), Off P1.own w7 W' → Below B w7 W' := fun W' hO => hO.low (by have := HBw.out.size; rw [hB.out] at this; exact this) (fun b hb => HN.out.own_ge hb)
     have GE := hide gE
     have hy1 : Sl.At EvE w7 (⟨some ⟨R, 0, none⟩, 1, [x]⟩ : Sl Ev) := ⟨by show 1 ≤ maxLen; unfold maxLen; omega, fun z hz => by rw [List.mem_singleton.1 hz]; exact okx', .inr ⟨R, 0, rfl, sR, by have e : ([x] : List Ev).flatMap Ev.cells = x.cells := (by simp); show w7.rangeAt R 0 (([x] : List Ev).flatMap Ev.cells); rw [e]; exact rR⟩⟩
     have HY1 := hide hy1
     have hy0 : ∀ W, Sl.At EvE W (⟨none, 0, []⟩ : Sl Ev) := fun W => RowsAt.none
     have HY0 := hide hy0
     have HOR := hide hoR
     have HNR := hide nR
     have HSR := hide sR
     clear hN hI hIK h4 hBw hK1 hp1' hkb okx okx' hxs hxs4 hsk htk hcl6 gE hy1 hy0 hoR nR nE nD sD sE hBR e0 e1 hex rU sR rR
     obtain ⟨xq, hxq⟩ : ∃ q, Hid (x.cells = q) := ⟨_, hide rfl⟩
     rw [hxq.out] at cS cNo rX rE ixx ixc
     clear hxl hx1
     go_upto_block 2 with fail
     go_cut [10] (fun l wx => Hid (MidK N B c w0 (k + 1) kb l wx))
     case first =>
      by_cases q0 : ak = 0
      ·subst q0
       go_upto_region 12 with fail
       try simp only [Act.put]
       refine pl_begin ?_
       refine pl_t 53 (.bool true) (by rfl) (by go_simp) rfl ?_
       simp only [nz]
       refine pl_t 52 (?_) (by rfl) ?_ rfl ?_
       rotate_left
       ·go_simp
        try with_reducible rfl
       simp only [nz]
       refine pl_nil ?_
       go_upto_region 13 with fail
       obtain ⟨er, her⟩ : ∃ e, (sendS s1 adt x).2 = e := ⟨_, rfl⟩
       rw [her] at cS
       by_cases he : er = 0
       ·subst he
        try simp only [Act.put]
        refine pl_begin ?_
        refine pl_t 54 (?_) (by rfl) ?_ rfl ?_
        rotate_left
        ·go_simp
         try with_reducible rfl
        simp only [nz]
        refine pl_t 55 (.pointer (some ⟨D, 1, none⟩)) (by rfl) (by go_simp) rfl ?_
        simp only [nz]
        refine pl_t 56 (.int .i64 adt) (by rfl) (pl_one rfl rfl c1 Tryz.underlying3 rfl) rfl ?_
        simp only [nz]
        refine pl_t 57 (.pointer (some ⟨D, 2, none⟩)) (by rfl) (by go_simp) rfl ?_
        simp only [nz]
        refine pl_t 58 (.agg xq.toArray) (by rfl) (ex_mid rfl rfl rX Tryz.underlying32 rfl ixx) rfl ?_
        simp only [nz]
        refine pl_call (d := some 59) (by rfl) (by go_simp; first | done | exact ⟨rfl, rfl⟩ | with_reducible rfl) rfl ?_
        refine (cS).mono ?_
        rintro _ w8 ⟨rfl, hO, P2, K2, hp2, hK2, hN2, hG2⟩
        refine ⟨_, rfl, ?_⟩
        simp only [nz]
        refine pl_t 60 (.bool false) (by rfl) (by go_simp) rfl ?_
        simp only [nz]
        refine pl_nil ?_
        have c38 : w8.cell? ⟨D, 3, none⟩ = some (.string x.s) := by
         rw [← c3]; have := hO.2 D (World.block_lt_of_cell? w7 _ c3) (fun q => NDD.out D q rfl); simp only [World.cell?, this]
        have ho8 := owns_at HOR.out (fun g hg => by cases hg; exact hO.2 R HSR.out (fun q => HNR.out R q rfl))
        have hB8 := HBw.out.trans (GE.out _ hO)
        have nR2 : ∀ b, P2.own b → b ≠ R := fun b hb => by
         rcases hG2 b hb with q | q
         ·exact HNR.out b q
         ·have := HSR.out; omega
        have sR8 := Nat.lt_of_lt_of_le HSR.out hO.size
        clear hO hG2 cS cT cNo c1 c3 rX rE
        go_upto_region 15 with fail
        try simp only [Act.put]
        refine pl_begin ?_
        refine pl_t 61 (?_) (by rfl) ?_ rfl ?_
        rotate_left
        ·go_simp
         try with_reducible rfl
        simp only [nz]
        refine pl_t 62 (.pointer (some ⟨D, 2, none⟩)) (by rfl) (by go_simp) rfl ?_
        simp only [nz]
        refine pl_t 63 (.pointer (some ⟨D, 3, none⟩)) (by rfl) (by go_simp) rfl ?_
        simp only [nz]
        refine pl_t 64 (.string x.s) (by rfl) (pl_one rfl rfl c38 Tryz.underlying9 rfl) rfl ?_
        simp only [nz]
        refine pl_call (d := some 65) (by rfl) (by go_simp; first | done | exact ⟨rfl, rfl⟩ | with_reducible rfl) rfl ?_
        refine (cCl w8).mono ?_
        rintro _ w9 ⟨yc, rfl, hyx, hya, hb9⟩
        refine ⟨_, rfl, ?_⟩
        simp only [nz]
        have ho9 := owns_at ho8 (fun g hg => by cases hg; exact hb9.block R sR8)
        have hN9 := hN2.below hb9
        have hB9 := hB8.trans (hb9.mono (by have := hB8.size; rw [hB.out] at this; exact this))
        refine pl_runX (d := some 66) (by rfl) rfl (ex_appC rfl rfl rfl ho9 (Nat.le_of_lt (Nat.lt_of_lt_of_le sR8 hb9.size)) hya (by omega) (by rw [hyx]; have := HL6.out; omega)) ?_
        rintro v8_ wA ⟨hoA, gA⟩
        simp only [nz]
        refine pl_t 10 (?_) (by rfl) ?_ rfl ?_
        rotate_left
        ·go_simp
         try with_reducible rfl
        simp only [nz]
        refine pl_nil ?_
        rw [hyx] at hoA
        have hflat : x.cells ++ (claimsC 4 x.s).flatMap Ev.cells = (x :: claimsC 4 x.s).flatMap Ev.cells := by rw [List.flatMap_cons]
        rw [hflat, Nat.add_comm] at hoA
        have hokc : ∀ z ∈ x :: claimsC 4 x.s, z.ok := fun z hz => by
         rcases List.mem_cons.1 hz with rfl | hz
         ·exact HX.out
         ·rw [← hyx] at hz; exact hya.2.1 z hz
        obtain ⟨yy, hyv, hyxs, hyat, -⟩ := own_rows (E := EvE) (ys := x :: claimsC 4 x.s) hoA hokc (by have := HL6.out; rw [List.length_cons]; unfold maxLen; omega)
        have hBA : Below B w9 wA := ⟨gA.os, gA.tape, gA.output, gA.size, fun i hi => gA.block i (by have := hB9.size; rw [hB.out] at this; omega) (fun e => by have h3 := HBR.out; have e : R = i := (Option.some.inj (show some i = some R from e)).symm; omega)⟩
        have hNA : NetAt wA B K2 P2 (sendS s1 adt x).1 0 := hN9.on gA.size (fun b hb => gA.block b (hN9.own_lt hb) (fun e => nR2 b hb (by cases e; rfl)))
        have HF : Hid (MidK N B c w0 (k + 1) kb v8_ wA) := hide ⟨yy, P2, K2, _, hyv, hyat, hp2, hK2, hNA, HSI.out, HSK.out.1, HSK.out.2.1, by rw [HSK.out.2.2.2 her c, hyxs, HKB.out], fun z hz => (HSK.out.2.2.2 her z).2 (.inr (by rw [← hyxs]; exact hz)), hB9.trans hBA⟩
        clear hyv hyxs hyat hBA hNA hoA gA hB9 hN9 ho9 hb9 hya hyx hB8 ho8 c38 hp2 hK2 hN2 her hflat hokc nR2
        go_wp2_with fail
        go_meet
        exact HF
       ·have heb : (er == 0) = false := by simpa using he
        try simp only [Act.put]
        refine pl_begin ?_
        refine pl_t 54 (?_) (by rfl) ?_ rfl ?_
        rotate_left
        ·go_simp
         try with_reducible rfl
        simp only [nz]
        refine pl_t 55 (.pointer (some ⟨D, 1, none⟩)) (by rfl) (by go_simp) rfl ?_
        simp only [nz]
        refine pl_t 56 (.int .i64 adt) (by rfl) (pl_one rfl rfl c1 Tryz.underlying3 rfl) rfl ?_
        simp only [nz]
        refine pl_t 57 (.pointer (some ⟨D, 2, none⟩)) (by rfl) (by go_simp) rfl ?_
        simp only [nz]
        refine pl_t 58 (.agg xq.toArray) (by rfl) (ex_mid rfl rfl rX Tryz.underlying32 rfl ixx) rfl ?_
        simp only [nz]
        refine pl_call (d := some 59) (by rfl) (by go_simp; first | done | exact ⟨rfl, rfl⟩ | with_reducible rfl) rfl ?_
        refine (cS).mono ?_
        rintro _ w8 ⟨rfl, hO, P2, K2, hp2, hK2, hN2, hG2⟩
        refine ⟨_, rfl, ?_⟩
        simp only [nz]
        refine pl_t 60 (.bool true) (by rfl) (by go_simp <;> (try simp [*])) rfl ?_
        simp only [nz]
        refine pl_nil ?_
        have hse := HSK.out.2.2.1 (by rw [her]; exact he)
        have HF : Hid (MidK N B c w0 (k + 1) kb (.slice none 0 0) w8) := hide ⟨⟨none, 0, []⟩, P2, K2, _, rfl, HY0.out w8, hp2, hK2, hN2, HSI.out, HSK.out.1, HSK.out.2.1, by rw [hse]; simp [HKB.out], fun z hz => by simp at hz, HBw.out.trans (GE.out _ hO)⟩
        clear hO hG2 cS cT cNo c1 c3 rX rE hp2 hK2 hN2 hse her he heb
        go_upto_region 14 with fail
        try simp only [Act.put]
        refine pl_begin ?_
        refine pl_t 10 (?_) (by rfl) ?_ rfl ?_
        rotate_left
        ·go_simp
         try with_reducible rfl
        simp only [nz]
        refine pl_nil ?_
        go_wp2_with fail
        go_meet
        exact HF
      ·have q0b : (ak == 0) = false := by simpa using q0
       go_upto_region 12 with fail
       try simp only [Act.put]
       refine pl_begin ?_
       refine pl_t 53 (.bool false) (by rfl) (by go_simp <;> (try simp [*])) rfl ?_
       simp only [nz]
       refine pl_t 52 (?_) (by rfl) ?_ rfl ?_
       rotate_left
       ·go_simp
        try with_reducible rfl
       simp only [nz]
       refine pl_nil ?_
       clear q0 q0b cS
       by_cases q1 : ak = 1
       ·subst q1
        go_upto_region 16 with fail
        try simp only [Act.put]
        refine pl_begin ?_
        refine pl_t 68 (.bool true) (by rfl) (by go_simp) rfl ?_
        simp only [nz]
        refine pl_t 67 (?_) (by rfl) ?_ rfl ?_
        rotate_left
        ·go_simp
         try with_reducible rfl
        simp only [nz]
        refine pl_nil ?_
        have hsh : ∃ v, takeV (takeS s1 adt).2 = v := ⟨_, rfl⟩
        obtain ⟨tv_, htv⟩ := hsh
        rw [htv] at cT
        clear htv
        go_upto_region 17 with fail
        try simp only [Act.put]
        refine pl_begin ?_
        refine pl_t 69 (?_) (by rfl) ?_ rfl ?_
        rotate_left
        ·go_simp
         try with_reducible rfl
        simp only [nz]
        refine pl_t 70 (.pointer (some ⟨D, 1, none⟩)) (by rfl) (by go_simp) rfl ?_
        simp only [nz]
        refine pl_t 71 (.int .i64 adt) (by rfl) (pl_one rfl rfl c1 Tryz.underlying3 rfl) rfl ?_
        simp only [nz]
        refine pl_call (d := some 72) (by rfl) (by go_simp; first | done | exact ⟨rfl, rfl⟩ | with_reducible rfl) rfl ?_
        refine (cT).mono ?_
        rintro _ w8 ⟨rfl, hO, P2, hp2, hN2, hG2⟩
        refine ⟨_, rfl, ?_⟩
        simp only [nz]
        refine pl_nil ?_
        have HF : Hid (MidK N B c w0 (k + 1) kb (.slice none 0 0) w8) := hide ⟨⟨none, 0, []⟩, P2, K1, _, rfl, HY0.out w8, hp2, by have := HK1.out; omega, hN2, HTI.out, HTK.out.1, HTK.out.2.1, by rw [HTK.out.2.2]; simp [HKB.out], fun z hz => by simp at hz, HBw.out.trans (GE.out _ hO)⟩
        clear hO hG2 cT cNo c1 c3 rX rE hp2 hN2
        go_upto_region 18 with fail
        try simp only [Act.put]
        refine pl_begin ?_
        refine pl_t 10 (?_) (by rfl) ?_ rfl ?_
        rotate_left
        ·go_simp
         try with_reducible rfl
        simp only [nz]
        refine pl_nil ?_
        go_wp2_with fail
        go_meet
        exact HF
       ·have q1b : (ak == 1) = false := by simpa using q1
        go_upto_region 16 with fail
        try simp only [Act.put]
        refine pl_begin ?_
        refine pl_t 68 (.bool false) (by rfl) (by go_simp <;> (try simp [*])) rfl ?_
        simp only [nz]
        refine pl_t 67 (?_) (by rfl) ?_ rfl ?_
        rotate_left
        ·go_simp
         try with_reducible rfl
        simp only [nz]
        refine pl_nil ?_
        clear q1 q1b cT
        by_cases q3 : ak = 3
        ·subst q3
         go_upto_region 19 with fail
         try simp only [Act.put]
         refine pl_begin ?_
         refine pl_t 74 (.bool true) (by rfl) (by go_simp) rfl ?_
         simp only [nz]
         refine pl_t 73 (?_) (by rfl) ?_ rfl ?_
         rotate_left
         ·go_simp
          try with_reducible rfl
         simp only [nz]
         refine pl_nil ?_
         go_upto_region 20 with fail
         try simp only [Act.put]
         refine pl_begin ?_
         refine pl_t 75 (?_) (by rfl) ?_ rfl ?_
         rotate_left
         ·go_simp
          try with_reducible rfl
         simp only [nz]
         refine pl_t 76 (.agg xq.toArray) (by rfl) (ex_mid rfl rfl rE Tryz.underlying36 rfl ixc) rfl ?_
         simp only [nz]
         refine pl_call (d := some 77) (by rfl) (by go_simp; first | done | exact ⟨rfl, rfl⟩ | with_reducible rfl) rfl ?_
         refine (cNo).mono ?_
         rintro _ w8 ⟨rfl, hN2, hO⟩
         refine ⟨_, rfl, ?_⟩
         simp only [nz]
         refine pl_nil ?_
         have hO1 : Off P1.own w7 w8 := hO.mono fun b _ hb => by rw [hb]; exact .inr (.inr (.inl rfl))
         have hyR : Sl.At EvE w8 (⟨some ⟨R, 0, none⟩, 1, [x]⟩ : Sl Ev) := by
          obtain ⟨g1, g2, g3⟩ := HY1.out
          refine ⟨g1, g2, ?_⟩
          rcases g3 with g3 | ⟨b, o, hab, hlt, hr⟩
          ·cases g3
          ·have hab : some (⟨R, 0, none⟩ : Addr) = some ⟨b, o, none⟩ := hab
           cases hab
           exact .inr ⟨R, 0, rfl, Nat.lt_of_lt_of_le hlt hO1.size, range_at hr (hO1.2 R HSR.out (fun q => HNR.out R q rfl))⟩
         have HF : Hid (MidK N B c w0 (k + 1) kb (.slice (some ⟨R, 0, none⟩) 1 1) w8) := hide ⟨⟨some ⟨R, 0, none⟩, 1, [x]⟩, P1, K1 + 1, _, rfl, hyR, HP1.out, by have := HK1.out; omega, hN2, note_inv (HI.out.mono (by omega)) x, note_k HIK.out x, H4.out, by show c ∈ s1.kn ++ [x] ↔ _; rw [List.mem_append, HKB.out], fun z hz => List.mem_append.2 (.inr hz), HBw.out.trans (GE.out _ hO1)⟩
         clear hO hO1 hyR cNo c1 c3 rX rE hN2
         go_wp2_with fail
         go_meet
         exact HF
        ·have q3b : (ak == 3) = false := by simpa using q3
         go_upto_region 19 with fail
         try simp only [Act.put]
         refine pl_begin ?_
         refine pl_t 74 (.bool false) (by rfl) (by go_simp <;> (try simp [*])) rfl ?_
         simp only [nz]
         refine pl_t 73 (?_) (by rfl) ?_ rfl ?_
         rotate_left
         ·go_simp
          try with_reducible rfl
         simp only [nz]
         refine pl_nil ?_
         have HF : Hid (MidK N B c w0 (k + 1) kb (.slice none 0 0) w7) := hide ⟨⟨none, 0, []⟩, P1, K1, s1, rfl, HY0.out w7, HP1.out, by have := HK1.out; omega, HN.out, HI.out.mono (by omega), HIK.out, H4.out, by simp [HKB.out], fun z hz => by simp at hz, HBw.out⟩
         clear cNo c1 c3 rX rE q3 q3b
         go_upto_region 11 with fail
         try simp only [Act.put]
         refine pl_begin ?_
         refine pl_t 10 (?_) (by rfl) ?_ rfl ?_
         rotate_left
         ·go_simp
          try with_reducible rfl
         simp only [nz]
         refine pl_nil ?_
         go_wp2_with fail
         go_meet
         exact HF
     case rest =>
      obtain ⟨y2, P2, K2, s2, hl, hya, hp2, hK2, hN2, hI2, hIK2, h42, hck, hsub, hB2⟩ := hcut.out
      clear hcut
      obtain ⟨a2, q2, zs⟩ := y2
      obtain ⟨m, hm⟩ : ∃ m, zs.length = m := ⟨_, rfl⟩
      simp only [Sl.val, hm] at hl
      subst hl
      have HM := hide hm
      have HZ := hide hya
      have HP2 := hide hp2
      have HK2 := hide hK2
      have HN2 := hide hN2
      have HI2 := hide hI2
      have HIK2 := hide hIK2
      have H42 := hide h42
      have HCK := hide hck
      have HSUB := hide hsub
      have HB2 := hide hB2
      have sC2 : CB < wc.heap.size := Nat.lt_of_lt_of_le sC (by have := hB2.size; rw [hB.out] at this; exact this)
      have HRC := hide (range_below rC hB2 sC)
      have HSC := hide sC2
      have HB0 : Hid ((kb = true ↔ kb = true ∨ c ∈ zs.take 0) ∧ Below wc.heap.size wc wc) := hide ⟨by simp, Below.refl _ _⟩
      have hm9 : m ≤ 9223372036854775807 := by rw [← hm]; exact hya.1
      have HM9 := hide hm9
      clear hm hya hp2 hK2 hN2 hI2 hIK2 h42 hck hsub hB2 sC2 hm9
      try clear cS
      try clear cT
      try clear cNo
      try clear cCl
      try clear HSI
      try clear HTI
      try clear HSK
      try clear HTK
      try clear HN
      try clear HI
      try clear HIK
      try clear H4
      try clear HBw
      try clear HK1
      try clear HP1
      try clear HKB
      try clear HX
      try clear HL6
      try clear GE
      try clear HY1
      try clear HY0
      try clear HOR
      try clear HNR
      try clear HSR
      try clear NDD
      try clear HBR
      try clear c1
      try clear c3
      try clear rX
      try clear rE
      try clear ixx
      try clear ixc
      go_upto_region 21 with fail
      try simp only [Act.put]
      refine pl_begin ?_
      refine pl_t 78 (?_) (by rfl) ?_ rfl ?_
      rotate_left
      ·go_simp
       try with_reducible rfl
      simp only [nz]
      refine pl_t 79 (?_) (by rfl) ?_ rfl ?_
      rotate_left
      ·go_simp
       try with_reducible rfl
      simp only [nz]
      refine pl_t 80 (?_) (by rfl) ?_ rfl ?_
      rotate_left
      ·go_simp
       try with_reducible rfl
      simp only [nz]
      refine pl_nil ?_
      go_wp2_with fail
      go_loopw [80, 6] (fun iv kv wr => ∃ (i : Nat) (kb' : Bool), i ≤ m ∧ iv = .int .i64 (i : Int) ∧ kv = .bool kb' ∧ Hid ((kb' = true ↔ kb = true ∨ c ∈ zs.take i) ∧ Below wc.heap.size wc wr)) (fun iv _ _ => m - (intOf iv).toNat)
      case atStart => exact ⟨0, kb, by omega, rfl, rfl, HB0⟩
      case round =>
       clear HB0
       obtain ⟨i, kb2, hi, rfl, rfl, HK⟩ := hrel
       by_cases hlt : i < m
       ·have i1 : (i : Int) < m := by omega
        have hm9 : m ≤ 9223372036854775807 := HM9.out
        have hix : i < zs.length := by rw [HM.out]; exact hlt
        obtain ⟨b2, off2, hab0, hbw, hre0⟩ := HZ.out.elem i hix
        have hab : a2 = some ⟨b2, off2, none⟩ := hab0
        have okz : Ev.ok zs[i] := HZ.out.2.1 _ (List.getElem_mem hix)
        have hre : wr.rangeAt b2 (off2 + i * 18) (zs[i]).cells := range_below hre0 HK.out.2 hbw
        have hul : (zs[i]).cells.length = 18 := EvE.len _ okz
        have hu1 : ∀ v ∈ (zs[i]).cells, v.oneCell' = true := EvE.one zs[i]
        have cKn := fun W (h : NetAt W B K2 P2 s2 0) => nknows_any B K2 P2 s2 0 (zs[i]) W h HI2.out.n0 okz true ⟨fun _ => HSUB.out _ (List.getElem_mem hix), fun _ => rfl⟩
        simp only [HP2.out] at cKn
        have heq := hceq (zs[i]) okz
        obtain ⟨bz, hbz⟩ : ∃ v, Ev.B zs[i] c = v := ⟨_, rfl⟩
        have hbi : bz = true ↔ zs[i] = c := by rw [← hbz]; exact Ev.B_iff
        have htk : ∀ kb3 : Bool, (kb3 = true ↔ kb2 = true ∨ bz = true) → (kb3 = true ↔ kb = true ∨ c ∈ zs.take (i + 1)) := fun kb3 h => by
         rw [h, HK.out.1, take_add zs i hix, List.mem_append, List.mem_singleton, hbi, or_assoc, eq_comm (a := c)]
        have HTK := hide htk
        simp only [hbz] at heq
        obtain ⟨q, hq⟩ : ∃ q, Hid ((zs[i]).cells = q) := ⟨_, hide rfl⟩
        rw [hq.out] at hre hul hu1
        simp only [hq.out] at cKn heq
        have iq : (Tryz.prog.info? 36).map (·.size) = some q.length := by rw [hul]; exact isz_cl
        subst hab
        clear hq hbz hbi htk okz hab0 hre0
        go_upto_region 23 with fail
        try simp only [Act.put]
        refine pl_begin ?_
        refine pl_t 82 (.pointer (some ⟨b2, off2 + i * 18, none⟩)) (by rfl) (by go_simp <;> (try simp [*])) rfl ?_
        simp only [nz]
        refine pl_t 83 (.agg q.toArray) (by rfl) (ex_mid rfl rfl hre Tryz.underlying36 rfl iq) rfl ?_
        simp only [nz]
        refine pl_run (d := some 12) (v := .pointer (some ⟨wr.heap.size, 0, none⟩)) (w' := wr.alloc (.cells cz.toArray 36)) (by rfl) (ex_alloc rfl (hcr _)) rfl ?_
        simp only [nz]
        refine pl_store (w' := (wr.alloc (.cells cz.toArray 36)).setCells wr.heap.size 0 q) (by rfl) (ex_put (cs := q.toArray) rfl rfl rfl (there_newN _ _ _ (by simp [hcl, hul])) (by simpa using iq) (all_one hu1)) rfl ?_
        refine pl_nil ?_
        obtain ⟨rQ, hF, hF3, -⟩ := fresh_store wr cz.toArray 36 q (by simp [hcl, hul])
        have hB5 := HK.out.2.trans (hF.mono HK.out.2.size)
        have sG : wr.heap.size < ((wr.alloc (.cells cz.toArray 36)).setCells wr.heap.size 0 q).heap.size := by omega
        obtain ⟨G, hG⟩ : ∃ D, wr.heap.size = D := ⟨_, rfl⟩
        rw [hG] at rQ hB5 sG
        simp only [hG]
        obtain ⟨w5, hw5⟩ : ∃ W, (wr.alloc (.cells cz.toArray 36)).setCells G 0 q = W := ⟨_, rfl⟩
        rw [hw5] at rQ hB5 sG ⊢
        clear hw5 hG hF hF3 hre
        have cK5 := cKn w5 (HN2.out.below hB5)
        go_upto_region 24 with fail
        try simp only [Act.put]
        refine pl_begin ?_
        refine pl_t 84 (?_) (by rfl) ?_ rfl ?_
        rotate_left
        ·go_simp
         try with_reducible rfl
        simp only [nz]
        refine pl_t 85 (.agg q.toArray) (by rfl) (ex_mid rfl rfl rQ Tryz.underlying36 rfl iq) rfl ?_
        simp only [nz]
        refine pl_call (d := some 86) (by rfl) (by go_simp; first | done | exact ⟨rfl, rfl⟩ | with_reducible rfl) rfl ?_
        refine (cK5).mono ?_
        rintro _ w6 ⟨rfl, hb6⟩
        refine ⟨_, rfl, ?_⟩
        simp only [nz]
        refine pl_t 87 (.bool false) (by rfl) (by go_simp) rfl ?_
        simp only [nz]
        refine pl_nil ?_
        have rQ6 := range_below rQ hb6 sG
        have hB6 := hB5.trans (hb6.mono hB5.size)
        have rC6 := range_below HRC.out hB6 HSC.out
        have HB6 := hide hB6
        clear cK5 cKn rQ hb6 hB5 hB6 sG
        go_upto_region 26 with fail
        cases kb2
        ·try simp only [Act.put]
         refine pl_begin ?_
         refine pl_t 88 (?_) (by rfl) ?_ rfl ?_
         rotate_left
         ·go_simp
          try with_reducible rfl
         simp only [nz]
         refine pl_t 89 (?_) (by rfl) ?_ rfl ?_
         rotate_left
         ·go_simp
          try with_reducible rfl
         simp only [nz]
         refine pl_t 90 (.agg q.toArray) (by rfl) (ex_mid rfl rfl rQ6 Tryz.underlying36 rfl iq) rfl ?_
         simp only [nz]
         refine pl_t 91 (.agg cq.toArray) (by rfl) (ex_mid rfl rfl rC6 Tryz.underlying36 rfl icc) rfl ?_
         simp only [nz]
         refine pl_t 92 (.bool bz) (by rfl) (ex_bin rfl rfl rfl (by kernel_rfl) (heq _)) rfl ?_
         simp only [nz]
         refine pl_t 93 (?_) (by rfl) ?_ rfl ?_
         rotate_left
         ·go_simp
          try with_reducible rfl
         simp only [nz]
         refine pl_t 6 (?_) (by rfl) ?_ rfl ?_
         rotate_left
         ·go_simp
          try with_reducible rfl
         simp only [nz]
         refine pl_nil ?_
         have HF : Hid ((bz = true ↔ kb = true ∨ c ∈ zs.take (i + 1)) ∧ Below wc.heap.size wc w6) := hide ⟨HTK.out bz (by simp), HB6.out⟩
         clear heq rQ6 rC6 HK
         go_wp2_with fail
         go_roundw
         case rel => exact ⟨i + 1, bz, by omega, by go_num, rfl, HF⟩
         case measure => simp [intOf]; omega
        ·try simp only [Act.put]
         refine pl_begin ?_
         refine pl_t 88 (?_) (by rfl) ?_ rfl ?_
         rotate_left
         ·go_simp
          try with_reducible rfl
         simp only [nz]
         refine pl_t 89 (?_) (by rfl) ?_ rfl ?_
         rotate_left
         ·go_simp
          try with_reducible rfl
         simp only [nz]
         refine pl_skip (d := some 90) (by rfl) rfl ?_
         simp only [nz]
         refine pl_skip (d := some 91) (by rfl) rfl ?_
         simp only [nz]
         refine pl_skip (d := some 92) (by rfl) rfl ?_
         simp only [nz]
         refine pl_t 93 (?_) (by rfl) ?_ rfl ?_
         rotate_left
         ·go_simp
          try with_reducible rfl
         simp only [nz]
         refine pl_t 6 (?_) (by rfl) ?_ rfl ?_
         rotate_left
         ·go_simp
          try with_reducible rfl
         simp only [nz]
         refine pl_nil ?_
         have HF : Hid ((true = true ↔ kb = true ∨ c ∈ zs.take (i + 1)) ∧ Below wc.heap.size wc w6) := hide ⟨HTK.out true (by simp), HB6.out⟩
         clear heq rQ6 rC6 HK
         go_wp2_with fail
         go_roundw
         case rel => exact ⟨i + 1, true, by omega, by go_num, rfl, HF⟩
         case measure => simp [intOf]; omega
       ·obtain rfl : i = m := by omega
        have e : zs.take i = zs := List.take_of_length_le (by rw [HM.out]; exact Nat.le_refl _)
        have hBe := HB2.out.trans (HK.out.2.mono (by have := HB2.out.size; rw [hB.out] at this; exact this))
        have HF : Hid (AheadK N B c w0 (k + 1) kb2 wr) := hide ⟨P2, K2, s2, HP2.out, HK2.out, HN2.out.below HK.out.2, HI2.out, HIK2.out, H42.out, by rw [HK.out.1, e]; exact HCK.out.symm, hBe⟩
        clear HK HM e hBe
        go_wp2_with fail
        go_roundw
        case rel => exact ⟨k + 1, kb2, by omega, by go_num, rfl, HF⟩
        case measure => simp [intOf]; omega
    ·obtain rfl : k = n := by omega
     obtain ⟨P1, K1, s1, hp1', hK1, hN, hI, hIK, h4, hkb, hBw⟩ := HK.out
     have cK := cKc K1 P1 s1 wr kb hN hI.n0 hkb
     rw [hp1'] at cK
     have rC1 := range_below rC hBw sC
     have HBw := hide hBw
     clear HK hN hp1' hBw
     go_upto_region 29 with fail
     try simp only [Act.put]
     refine pl_begin ?_
     refine pl_t 96 (?_) (by rfl) ?_ rfl ?_
     rotate_left
     ·go_simp
      try with_reducible rfl
     simp only [nz]
     refine pl_t 97 (.agg cq.toArray) (by rfl) (ex_mid rfl rfl rC1 Tryz.underlying36 rfl icc) rfl ?_
     simp only [nz]
     refine pl_call (d := some 98) (by rfl) (by go_simp; first | done | exact ⟨rfl, rfl⟩ | with_reducible rfl) rfl ?_
     refine (cK).mono ?_
     rintro _ wz ⟨rfl, hbz⟩
     refine ⟨_, rfl, ?_⟩
     simp only [nz]
     refine pl_t 99 (?_) (by rfl) ?_ rfl ?_
     rotate_left
     ·go_simp
      try with_reducible rfl
     simp only [nz]
     refine pl_t 100 (.bool true) (by rfl) (by go_simp <;> (try simp)) rfl ?_
     simp only [nz]
     refine pl_t 101 (?_) (by rfl) ?_ rfl ?_
     rotate_left
     ·go_simp
      try with_reducible rfl
     simp only [nz]
     refine pl_call (d := some 102) (by rfl) (by go_simp; first | done | exact ⟨rfl, rfl⟩ | with_reducible rfl) rfl ?_
     refine (lives26_any wz).mono ?_
     rintro _ wL ⟨rfl, hbL⟩
     refine ⟨_, rfl, ?_⟩
     simp only [nz]
     refine pl_t 103 (?_) (by rfl) ?_ rfl ?_
     rotate_left
     ·go_simp
      try with_reducible rfl
     simp only [nz]
     refine pl_t 4 (?_) (by rfl) ?_ rfl ?_
     rotate_left
     ·go_simp
      try with_reducible rfl
     simp only [nz]
     refine pl_nil ?_
     have hBz := HBw.out.trans (hbz.mono (by have := HBw.out.size; rw [hB.out] at this; exact this))
     have HB := hide (HBk.out.trans ((hBz.trans (hbL.mono (by have := hBz.size; rw [hB.out] at this; exact this))).mono (by rw [hCB.out]; omega)))
     clear hbz hbL hBz cK rC1
     go_wp2_with fail
     go_ret
     exact ⟨rfl, HB.out⟩
end Go.Proofs.YtilbjeeabecfjaaGreat
namespace Go.Proofs.YtilbjeeabecfjaaGreat.netKnows
open Go.ChangeShapes Go.WideShapes Go.ChangeAt Go.RowKit
open Go.ChangeMaps (open_string shut_string)
set_option linter.unusedVariables false
set_option maxRecDepth 100000 in
theorem lifted (os : Os) (started : os.Started) (H : Type) (enc : TypeId × Value → H) :
  ReturnsInHanded {} Tryz.checked os 4 .any (Rows.netKnowsSpec.pre6 enc Tryz.prog Tryz.f4 Rows.netKnowsRow.domain false) (Rows.netKnowsSpec.post enc Tryz.prog Tryz.f4 false true false false) := by
 refine returnsInHanded_of_change (C := Tryz.checked) own started (by kernel_rfl) Tryz.func4
  (ChangeSpec.witness6 (enc := enc) (C := Tryz.checked) false ⟨#[], #[.slice none 0 0, .agg #[.int .i64 0, .string ⟨#[]⟩, .int .u8 0, .int .u8 0, .int .u8 0, .int .u8 0, .int .u8 0, .int .u8 0, .int .u8 0, .int .u8 0, .int .u8 0, .int .u8 0, .int .u8 0, .int .u8 0, .int .u8 0, .int .u8 0, .int .u8 0, .int .u8 0]], []⟩ 8 (by kernel_rfl) (by kernel_rfl) (by kernel_rfl) (by kernel_rfl)) ?_
 intro W base args ds gs before hval0 hW hcnd _
 have hval : ∀ (j : Nat) t v, Tryz.f4.params[j]? = some t → args[j]? = some v → Value.okWide Tryz.prog W .any base t v := hval0
 have hW' := hW
 obtain ⟨p, q, hA0, hV, rfl, hfz, hnd⟩ := hW
 have hA : DataW.TrodAll enc Tryz.prog W 0 (fun _ => true) true Tryz.f4.params.toList args.toList ds p := hA0
 rw [Tryz.params4] at hA hval
 obtain ⟨v0, vs0, d0, ds0, p0, q0, hargs, rfl, rfl, h0, r0⟩ := trodAll_cons hA
 obtain ⟨v1, vs1, d1, ds1, p1, q1, rfl, rfl, rfl, h1, r1⟩ := trodAll_cons r0
 obtain ⟨rfl, rfl, rfl⟩ := trodAll_nil r1
 obtain rfl : args = #[v0, v1] := by cases args; simp_all
 obtain ⟨rfl, rfl⟩ := trodVars_none hV
 have k0 := h0
 have lt0 : ∀ x ∈ p0, x.block < W.heap.size := by obtain ⟨m, hm⟩ := k0; exact DataW.trod_lt m _ _ _ hm
 obtain ⟨fuel0, hf0⟩ := h0
 obtain ⟨x0, rfl, at0⟩ := open_acts (hval 0 22 v0 rfl rfl) hf0
 have k1 := h1
 have lt1 : ∀ x ∈ p1, x.block < W.heap.size := by obtain ⟨m, hm⟩ := k1; exact DataW.trod_lt m _ _ _ hm
 obtain ⟨fuel1, hf1⟩ := h1
 obtain ⟨x1, rfl, ok1⟩ := open_claim (hval 1 36 v1 rfl rfl) hf1
 clear hA0 hval0
 refine (netKnows_walk x0 x1 W at0 ok1).mono fun e W' ⟨he, bel⟩ => ?_
 subst he
 exact ⟨_, rfl, _, _, _, [], _, [], hW', trodAll_mk1 (shut_bool Tryz.underlying4 _), (trodAll_cons_mk (Below.trod laidOut (by kernel_rfl) (of_decide_eq_true (by kernel_rfl)) k0 bel lt0) (trodAll_cons_mk (Below.trod laidOut (by kernel_rfl) (of_decide_eq_true (by kernel_rfl)) k1 bel lt1) trodAll_mk0)), rfl, bel.frame _, fun h => by cases h⟩
theorem over : Rows.netKnowsRow.holds Tryz.pinned (OpenSpec.ofChange Rows.netKnowsSpec) :=
 OpenClaim.holds_of_wide 4 Tryz.f4 rfl rfl rfl rfl rfl rfl rfl ⟨rfl, rfl, rfl, rfl, rfl⟩ rfl rfl rfl rfl rfl (by kernel_rfl) Tryz.func4 (by kernel_rfl)
  (of_decide_eq_true (by kernel_rfl)) (by unfold Func.isWrapper; first | (rw [if_pos (by decide +kernel)]; kernel_rfl) | (rw [if_neg (by decide +kernel)]; exact ⟨rfl, rfl⟩))
  (fun os started H enc _ => lifted os started H enc)
end Go.Proofs.YtilbjeeabecfjaaGreat.netKnows
namespace Go.Proofs.YtilbjeeabecfjaaGreat
theorem netKnows_holds : Rows.NetKnowsSaid := netKnows.over
#print axioms netKnows_holds
end Go.Proofs.YtilbjeeabecfjaaGreat
