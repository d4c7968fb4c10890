/- envelopes and requests compared; lists compared; batches and certs compared; what was held, compared; requests and batches as bytes: the program's and the document's; A plain region, operation by operation: what is wanted yields its value, what is not is passed over. -/
import Derived.Test.YtgjalkbianpibaaGreatJE4
import Derived.Test.YtgjalkbianpibaaGreatJE1
import Derived.Laws.MakeOwn
import Derived.Deep.OwnRows
namespace Go.Proofs.YtgjalkbianpibaaGreat
open Go.RowKit
open Sha Tal
theorem fldEv : (Tryz.prog.fieldsOf 57).toList.map (fun f => (f.name, f.type, f.offset)) = [("From", 3, 0), ("Body", 9, 1), ("Tag", 55, 2)] := by kernel_rfl
theorem undEv : Tryz.prog.underlying 57 = some (.struct (Tryz.prog.fieldsOf 57)) := by kernel_rfl
theorem sihEv : Tryz.prog.stoodInHeld 57 = false := by kernel_rfl
def Ev.B (x y : Ev) : Bool := (x.n == y.n) && ((x.s.toList == y.s.toList) && ((x.t == y.t)))
theorem Ev.B_iff {x y : Ev} : Ev.B x y = true ↔ x = y := by
  cases x
  cases y
  simp [Ev.B, toList_iff]
theorem Ev.eqIn (x y : Ev) (hx : x.t.length = 16) (hy : y.t.length = 16) (d : Nat) (w : World) :
    (Op.equalIn (d + 2 + 1) 57 (.agg x.cells.toArray) (.agg y.cells.toArray)).run Tryz.prog w = .ok (Ev.B x y) w := by
  rw [run_equalIn_struct w (d + 2) 57 _ _ undEv sihEv]
  have hf := fldEv
  generalize (Tryz.prog.fieldsOf 57).toList = fs at hf
  obtain ⟨f0, f1, f2, rfl⟩ : ∃ f0 f1 f2, fs = [f0, f1, f2] := by
    rcases fs with _ | ⟨f0, _ | ⟨f1, _ | ⟨f2, _ | ⟨f3, fs⟩⟩⟩⟩ <;> simp at hf
    exact ⟨f0, f1, f2, rfl⟩
  simp only [List.map_cons, List.map_nil, List.cons.injEq, Prod.mk.injEq, and_true] at hf
  obtain ⟨⟨a0, b0, d0⟩, ⟨a1, b1, d1⟩, ⟨a2, b2, d2⟩⟩ := hf
  have p0 := part_intV w x.cells 0 x.n rfl
  have q0 := part_intV w y.cells 0 y.n rfl
  have p1 := part_strV w x.cells 1 x.s rfl
  have q1 := part_strV w y.cells 1 y.s rfl
  have p2 := part_tagV w x.cells 2 x.t (by show List.take 16 (v8 x.t) = v8 x.t; rw [List.take_of_length_le (by rw [v8_length, hx]; exact Nat.le_refl _)])
  have q2 := part_tagV w y.cells 2 y.t (by show List.take 16 (v8 y.t) = v8 y.t; rw [List.take_of_length_le (by rw [v8_length, hy]; exact Nat.le_refl _)])
  have eI := fun a b => run_equalIn_int (P := Tryz.prog) w (d + 1) 3 .i64 .i64 a b Tryz.underlying3
  have eS := fun a b => run_equalIn_string (P := Tryz.prog) w (d + 1) 9 a b Tryz.underlying9
  have eT := run_equal8 (P := Tryz.prog) w d 55 5 16 Tryz.underlying55 Tryz.underlying5 isz8 x.t y.t hx hy
  unfold Ev.B
  generalize x.cells.toArray = q at *
  generalize y.cells.toArray = q' at *
  obtain ⟨T, hT⟩ : ∃ T, (v8 x.t).toArray = T := ⟨_, rfl⟩
  obtain ⟨T', hT'⟩ : ∃ T, (v8 y.t).toArray = T := ⟨_, rfl⟩
  rw [hT] at p2 eT
  rw [hT'] at q2 eT
  clear hT hT'
  obtain ⟨D, hD⟩ : ∃ D, d + 1 + 1 = D := ⟨_, rfl⟩
  have eT : (Op.equalIn (d + 1 + 1) 55 (.agg T) (.agg T')).run Tryz.prog w = .ok (x.t == y.t) w := eT
  rw [hD] at eT
  have n0 : ¬ ("From" = "_") := by decide
  have n1 : ¬ ("Body" = "_") := by decide
  have n2 : ¬ ("Tag" = "_") := by decide
  simp only [Op.eqFields, a0, b0, d0, a1, b1, d1, a2, b2, d2, ne_eq, n0, n1, n2, not_false_eq_true, if_true]
  rw [show d + 2 = d + 1 + 1 from rfl, hD]
  rw [hD] at eI
  simp only [hD] at eS
  clear hD
  simp only [Sem.run_bind, p0, q0, Result.andThen_ok, eI]
  cases (x.n == y.n)
  · simp only [Bool.not_false, if_true, Sem.run_pure, Bool.false_and]
  · simp only [Bool.not_true, Bool.false_eq_true, if_false, Sem.run_bind, p1, q1, Result.andThen_ok, eS, Bool.true_and]
    cases (x.s.toList == y.s.toList)
    · simp only [Bool.not_false, if_true, Sem.run_pure, Bool.false_and]
    · simp only [Bool.not_true, Bool.false_eq_true, if_false, Sem.run_bind, p2, q2, Result.andThen_ok, eT, Bool.true_and]
      cases (x.t == y.t)
      · simp only [Bool.not_false, if_true, Sem.run_pure]
      · simp only [Bool.not_true, Bool.false_eq_true, if_false, Sem.run_pure]
theorem Ev.eq10 (x y : Ev) (hx : x.ok) (hy : y.ok) (w : World) : (Op.equalIn 10000 57 (.agg x.cells.toArray) (.agg y.cells.toArray)).run Tryz.prog w = .ok (Ev.B x y) w := Ev.eqIn x y hx.tl hy.tl 9997 w
theorem fldRq : (Tryz.prog.fieldsOf 93).toList.map (fun f => (f.name, f.type, f.offset)) = [("Client", 3, 0), ("Num", 3, 1), ("Data", 9, 2), ("Tag", 55, 3)] := by kernel_rfl
theorem undRq : Tryz.prog.underlying 93 = some (.struct (Tryz.prog.fieldsOf 93)) := by kernel_rfl
theorem sihRq : Tryz.prog.stoodInHeld 93 = false := by kernel_rfl
def Rq.B (x y : Rq) : Bool := (x.c == y.c) && ((x.n == y.n) && ((x.s.toList == y.s.toList) && ((x.t == y.t))))
theorem Rq.B_iff {x y : Rq} : Rq.B x y = true ↔ x = y := by
  cases x
  cases y
  simp [Rq.B, toList_iff]
theorem Rq.eqIn (x y : Rq) (hx : x.t.length = 16) (hy : y.t.length = 16) (d : Nat) (w : World) :
    (Op.equalIn (d + 2 + 1) 93 (.agg x.cells.toArray) (.agg y.cells.toArray)).run Tryz.prog w = .ok (Rq.B x y) w := by
  rw [run_equalIn_struct w (d + 2) 93 _ _ undRq sihRq]
  have hf := fldRq
  generalize (Tryz.prog.fieldsOf 93).toList = fs at hf
  obtain ⟨f0, f1, f2, f3, rfl⟩ : ∃ f0 f1 f2 f3, fs = [f0, f1, f2, f3] := by
    rcases fs with _ | ⟨f0, _ | ⟨f1, _ | ⟨f2, _ | ⟨f3, _ | ⟨f4, fs⟩⟩⟩⟩⟩ <;> simp at hf
    exact ⟨f0, f1, f2, f3, rfl⟩
  simp only [List.map_cons, List.map_nil, List.cons.injEq, Prod.mk.injEq, and_true] at hf
  obtain ⟨⟨a0, b0, d0⟩, ⟨a1, b1, d1⟩, ⟨a2, b2, d2⟩, ⟨a3, b3, d3⟩⟩ := hf
  have p0 := part_intV w x.cells 0 x.c rfl
  have q0 := part_intV w y.cells 0 y.c rfl
  have p1 := part_intV w x.cells 1 x.n rfl
  have q1 := part_intV w y.cells 1 y.n rfl
  have p2 := part_strV w x.cells 2 x.s rfl
  have q2 := part_strV w y.cells 2 y.s rfl
  have p3 := part_tagV w x.cells 3 x.t (by show List.take 16 (v8 x.t) = v8 x.t; rw [List.take_of_length_le (by rw [v8_length, hx]; exact Nat.le_refl _)])
  have q3 := part_tagV w y.cells 3 y.t (by show List.take 16 (v8 y.t) = v8 y.t; rw [List.take_of_length_le (by rw [v8_length, hy]; exact Nat.le_refl _)])
  have eI := fun a b => run_equalIn_int (P := Tryz.prog) w (d + 1) 3 .i64 .i64 a b Tryz.underlying3
  have eS := fun a b => run_equalIn_string (P := Tryz.prog) w (d + 1) 9 a b Tryz.underlying9
  have eT := run_equal8 (P := Tryz.prog) w d 55 5 16 Tryz.underlying55 Tryz.underlying5 isz8 x.t y.t hx hy
  unfold Rq.B
  generalize x.cells.toArray = q at *
  generalize y.cells.toArray = q' at *
  obtain ⟨T, hT⟩ : ∃ T, (v8 x.t).toArray = T := ⟨_, rfl⟩
  obtain ⟨T', hT'⟩ : ∃ T, (v8 y.t).toArray = T := ⟨_, rfl⟩
  rw [hT] at p3 eT
  rw [hT'] at q3 eT
  clear hT hT'
  obtain ⟨D, hD⟩ : ∃ D, d + 1 + 1 = D := ⟨_, rfl⟩
  have eT : (Op.equalIn (d + 1 + 1) 55 (.agg T) (.agg T')).run Tryz.prog w = .ok (x.t == y.t) w := eT
  rw [hD] at eT
  have n0 : ¬ ("Client" = "_") := by decide
  have n1 : ¬ ("Num" = "_") := by decide
  have n2 : ¬ ("Data" = "_") := by decide
  have n3 : ¬ ("Tag" = "_") := by decide
  simp only [Op.eqFields, a0, b0, d0, a1, b1, d1, a2, b2, d2, a3, b3, d3, ne_eq, n0, n1, n2, n3, not_false_eq_true, if_true]
  rw [show d + 2 = d + 1 + 1 from rfl, hD]
  rw [hD] at eI
  simp only [hD] at eS
  clear hD
  simp only [Sem.run_bind, p0, q0, Result.andThen_ok, eI]
  cases (x.c == y.c)
  · simp only [Bool.not_false, if_true, Sem.run_pure, Bool.false_and]
  · simp only [Bool.not_true, Bool.false_eq_true, if_false, Sem.run_bind, p1, q1, Result.andThen_ok, eI, Bool.true_and]
    cases (x.n == y.n)
    · simp only [Bool.not_false, if_true, Sem.run_pure, Bool.false_and]
    · simp only [Bool.not_true, Bool.false_eq_true, if_false, Sem.run_bind, p2, q2, Result.andThen_ok, eS, Bool.true_and]
      cases (x.s.toList == y.s.toList)
      · simp only [Bool.not_false, if_true, Sem.run_pure, Bool.false_and]
      · simp only [Bool.not_true, Bool.false_eq_true, if_false, Sem.run_bind, p3, q3, Result.andThen_ok, eT, Bool.true_and]
        cases (x.t == y.t)
        · simp only [Bool.not_false, if_true, Sem.run_pure]
        · simp only [Bool.not_true, Bool.false_eq_true, if_false, Sem.run_pure]
theorem Rq.eq10 (x y : Rq) (hx : x.ok) (hy : y.ok) (w : World) : (Op.equalIn 10000 93 (.agg x.cells.toArray) (.agg y.cells.toArray)).run Tryz.prog w = .ok (Rq.B x y) w := Rq.eqIn x y hx.tl hy.tl 9997 w
end Go.Proofs.YtgjalkbianpibaaGreat
namespace Go.Proofs.YtgjalkbianpibaaGreat
open Go.RowKit
open Sha Tal
def sameL {α : Type} (B : α → α → Bool) : List α → List α → Bool
  | [], [] => true
  | x :: xs, y :: ys => B x y && sameL B xs ys
  | _, _ => false
theorem sameL_iff {α : Type} {B : α → α → Bool} (h : ∀ x y, B x y = true ↔ x = y) : ∀ xs ys : List α, sameL B xs ys = true ↔ xs = ys
  | [], [] => by simp [sameL]
  | x :: xs, y :: ys => by simp [sameL, h, sameL_iff h xs ys]
  | [], _ :: _ => by simp [sameL]
  | _ :: _, [] => by simp [sameL]
set_option maxRecDepth 100000 in
set_option maxHeartbeats 2000000 in
theorem equalS_any (a : Option Addr) (cap : Nat) (rs : List Sg) (a' : Option Addr) (cap' : Nat) (rs' : List Sg) (w : World) (h : RowsAt SgE w a rs) (h' : RowsAt SgE w a' rs') :
    Calls Tryz.prog 33 #[.slice a rs.length cap, .slice a' rs'.length cap'] w fun e w' => ((e = .returned (.bool true) ∧ rs = rs') ∨ (e = .returned (.bool false) ∧ ¬ rs = rs')) ∧ Below w.heap.size w w' := by
  have hml := h.1
  have hml' := h'.1
  unfold maxLen at hml hml'
  have hall := h.2.1
  have hall' := h'.2.1
  by_cases hlen : rs.length = rs'.length
  rotate_left
  · have e0 : ((rs.length : Int) == rs'.length) = false := by simp; omega
    have HL := hide hlen
    clear hlen
    go_enter Tryz.func33, Tryz.ntmps33
    go_wp2
    go_ret
    exact ⟨.inr ⟨rfl, fun hh => HL.out (by rw [hh])⟩, Below.refl _ _⟩
  · have e0 : ((rs.length : Int) == rs'.length) = true := by simp; omega
    have HL := hide hlen
    clear hlen
    go_enter Tryz.func33, Tryz.ntmps33
    go_wp2
    go_loopw [13] (fun iv wr => ∃ k : Nat, k ≤ rs.length ∧ iv = .int .i64 (k : Int) ∧ Hid (∀ j (hj : j < rs.length) (hj' : j < rs'.length), j < k → rs[j] = rs'[j]) ∧ Below w.heap.size w wr) (fun iv _ => rs.length - (intOf iv).toNat)
    case atStart => exact ⟨0, by omega, rfl, hide (fun j _ _ hj => absurd hj (by omega)), Below.refl _ _⟩
    case round =>
      clear e0
      obtain ⟨k, hk, rfl, HM, hB⟩ := hrel
      by_cases hlt : k < rs.length
      · have k1 : (k : Int) < rs.length := by omega
        have hlt' : k < rs'.length := by have := HL.out; omega
        have k1' : (k : Int) < rs'.length := by omega
        obtain ⟨b, off, rfl, hb, hre⟩ := (h.below hB).elem k hlt
        have hre : wr.rangeAt b (off + k * 17) rs[k].cells := hre
        obtain ⟨b', off', rfl, hb', hre'⟩ := (h'.below hB).elem k hlt'
        have hre' : wr.rangeAt b' (off' + k * 17) rs'[k].cells := hre'
        obtain ⟨r, hr⟩ : ∃ r, Hid (rs[k] = r) := ⟨_, hide rfl⟩
        obtain ⟨r', hr'⟩ : ∃ r', Hid (rs'[k] = r') := ⟨_, hide rfl⟩
        have hok : r.ok := by rw [← hr.out]; exact hall _ (List.getElem_mem hlt)
        have hok' : r'.ok := by rw [← hr'.out]; exact hall' _ (List.getElem_mem hlt')
        rw [hr.out] at hre
        rw [hr'.out] at hre'
        have HM' : Hid (r = r' → ∀ j (hj : j < rs.length) (hj' : j < rs'.length), j < k + 1 → rs[j] = rs'[j]) := hide (fun hp j hj hj' hjk => by
          by_cases e : j = k
          · subst e; rw [hr.out, hr'.out]; exact hp
          · exact HM.out j hj hj' (by omega))
        have HN' : Hid (r ≠ r' → rs ≠ rs') := hide (fun hp he => by
          apply hp
          rw [← hr.out, ← hr'.out]
          subst he
          rfl)
        clear hr hr' HM
        have hiu : (Tryz.prog.info? 78).map (·.size) = some r.cells.length := by rw [show r.cells.length = 17 from SgE.len r hok]; kernel_rfl
        have hiu' : (Tryz.prog.info? 78).map (·.size) = some r'.cells.length := by rw [show r'.cells.length = 17 from SgE.len r' hok']; kernel_rfl
        have hne := fun w0 => Sg.eq10 r r' hok hok' w0
        obtain ⟨u, hu⟩ : ∃ u, Hid (r.cells = u) := ⟨_, hide rfl⟩
        obtain ⟨u', hu'⟩ : ∃ u', Hid (r'.cells = u') := ⟨_, hide rfl⟩
        rw [hu.out] at hre hiu
        rw [hu'.out] at hre' hiu'
        simp only [hu.out, hu'.out] at hne
        clear hu hu' hok hok'
        by_cases hrr : r = r'
        · have e1 : Sg.B r r' = true := Sg.B_iff.2 hrr
          rw [e1] at hne
          have HR := hide hrr
          clear hrr e1
          go_upto_region 6 with fail
          obtain ⟨w5, hw5⟩ : ∃ w5, wr.drew = w5 := ⟨_, rfl⟩
          have hB5 : Below w.heap.size w w5 := by rw [← hw5]; exact hB.drew
          have hre5 : w5.rangeAt b (off + k * 17) u := by rw [← hw5]; exact (World.rangeAt_drew _ _ _ _).2 hre
          have hre5' : w5.rangeAt b' (off' + k * 17) u' := by rw [← hw5]; exact (World.rangeAt_drew _ _ _ _).2 hre'
          have hb5 : b < w5.heap.size := by rw [← hw5]; exact hb
          have hb5' : b' < w5.heap.size := by rw [← hw5]; exact hb'
          refine hs_begin (S := (Below w5.heap.size w5)) 9 rfl (by kernel_rfl) ?_
          rw [hw5]
          clear hw5 hB hre hre' hb hb'
          have hS : (Below w5.heap.size w5) w5 := Below.refl _ _
          refine hs_take (i := 0) (d := some 16) (v := ?_) rfl (by kernel_rfl) (by kernel_rfl) (by kernel_rfl) (by rfl) ?_ hS rfl ?_
          rotate_left
          · intro w' hw
            go_simp
            try with_reducible rfl
          simp only [Act.put, List.setIfInBounds_toArray, List.set_cons_zero, List.set_cons_succ]
          refine hs_take (i := 1) (d := some 17) (v := ?_) rfl (by kernel_rfl) (by kernel_rfl) (by kernel_rfl) (by rfl) ?_ hS rfl ?_
          rotate_left
          · intro w' hw
            go_simp
            try with_reducible rfl
          simp only [Act.put, List.setIfInBounds_toArray, List.set_cons_zero, List.set_cons_succ]
          refine hs_take (i := 2) (d := some 18) (v := ?_) rfl (by kernel_rfl) (by kernel_rfl) (by kernel_rfl) (by rfl) ?_ hS rfl ?_
          rotate_left
          · intro w' hw
            go_simp
            try with_reducible rfl
          simp only [Act.put, List.setIfInBounds_toArray, List.set_cons_zero, List.set_cons_succ]
          refine hs_take (i := 3) (d := some 19) (v := .agg u.toArray) rfl (by kernel_rfl) (by kernel_rfl) (by kernel_rfl) (by rfl) (fun w' hw => exec_loadC rfl rfl (run_loadVar_mid (P := Tryz.prog) w' b (off + k * 17) 78 u _ (range_below hre5 hw hb5) Tryz.underlying78 rfl hiu)) hS rfl ?_
          simp only [Act.put, List.setIfInBounds_toArray, List.set_cons_zero, List.set_cons_succ]
          refine hs_take (i := 4) (d := some 20) (v := ?_) rfl (by kernel_rfl) (by kernel_rfl) (by kernel_rfl) (by rfl) ?_ hS rfl ?_
          rotate_left
          · intro w' hw
            go_simp
            try with_reducible rfl
          simp only [Act.put, List.setIfInBounds_toArray, List.set_cons_zero, List.set_cons_succ]
          refine hs_take (i := 5) (d := some 21) (v := ?_) rfl (by kernel_rfl) (by kernel_rfl) (by kernel_rfl) (by rfl) ?_ hS rfl ?_
          rotate_left
          · intro w' hw
            go_simp
            try with_reducible rfl
          simp only [Act.put, List.setIfInBounds_toArray, List.set_cons_zero, List.set_cons_succ]
          refine hs_take (i := 6) (d := some 22) (v := ?_) rfl (by kernel_rfl) (by kernel_rfl) (by kernel_rfl) (by rfl) ?_ hS rfl ?_
          rotate_left
          · intro w' hw
            go_simp
            try with_reducible rfl
          simp only [Act.put, List.setIfInBounds_toArray, List.set_cons_zero, List.set_cons_succ]
          refine hs_take (i := 7) (d := some 23) (v := .agg u'.toArray) rfl (by kernel_rfl) (by kernel_rfl) (by kernel_rfl) (by rfl) (fun w' hw => exec_loadC rfl rfl (run_loadVar_mid (P := Tryz.prog) w' b' (off' + k * 17) 78 u' _ (range_below hre5' hw hb5') Tryz.underlying78 rfl hiu')) hS rfl ?_
          simp only [Act.put, List.setIfInBounds_toArray, List.set_cons_zero, List.set_cons_succ]
          refine hs_take (i := 8) (d := some 24) (v := .bool false) rfl (by kernel_rfl) (by kernel_rfl) (by kernel_rfl) (by rfl) (fun w' hw => by have hc := hne w'; go_simp) hS rfl ?_
          simp only [Act.put, List.setIfInBounds_toArray, List.set_cons_zero, List.set_cons_succ]
          refine hs_done (by kernel_rfl) ?_
          go_wp2
          go_roundw
          case rel => exact ⟨k + 1, by omega, by go_num, hide (HM'.out HR.out), hB5⟩
          case measure => simp [intOf]; omega
        · have e1 : Sg.B r r' = false := by
            cases hx : Sg.B r r'
            · rfl
            · exact absurd (Sg.B_iff.1 hx) hrr
          rw [e1] at hne
          have HR := hide hrr
          clear hrr e1
          go_upto_region 6 with fail
          obtain ⟨w5, hw5⟩ : ∃ w5, wr.drew = w5 := ⟨_, rfl⟩
          have hB5 : Below w.heap.size w w5 := by rw [← hw5]; exact hB.drew
          have hre5 : w5.rangeAt b (off + k * 17) u := by rw [← hw5]; exact (World.rangeAt_drew _ _ _ _).2 hre
          have hre5' : w5.rangeAt b' (off' + k * 17) u' := by rw [← hw5]; exact (World.rangeAt_drew _ _ _ _).2 hre'
          have hb5 : b < w5.heap.size := by rw [← hw5]; exact hb
          have hb5' : b' < w5.heap.size := by rw [← hw5]; exact hb'
          refine hs_begin (S := (Below w5.heap.size w5)) 9 rfl (by kernel_rfl) ?_
          rw [hw5]
          clear hw5 hB hre hre' hb hb'
          have hS : (Below w5.heap.size w5) w5 := Below.refl _ _
          refine hs_take (i := 0) (d := some 16) (v := ?_) rfl (by kernel_rfl) (by kernel_rfl) (by kernel_rfl) (by rfl) ?_ hS rfl ?_
          rotate_left
          · intro w' hw
            go_simp
            try with_reducible rfl
          simp only [Act.put, List.setIfInBounds_toArray, List.set_cons_zero, List.set_cons_succ]
          refine hs_take (i := 1) (d := some 17) (v := ?_) rfl (by kernel_rfl) (by kernel_rfl) (by kernel_rfl) (by rfl) ?_ hS rfl ?_
          rotate_left
          · intro w' hw
            go_simp
            try with_reducible rfl
          simp only [Act.put, List.setIfInBounds_toArray, List.set_cons_zero, List.set_cons_succ]
          refine hs_take (i := 2) (d := some 18) (v := ?_) rfl (by kernel_rfl) (by kernel_rfl) (by kernel_rfl) (by rfl) ?_ hS rfl ?_
          rotate_left
          · intro w' hw
            go_simp
            try with_reducible rfl
          simp only [Act.put, List.setIfInBounds_toArray, List.set_cons_zero, List.set_cons_succ]
          refine hs_take (i := 3) (d := some 19) (v := .agg u.toArray) rfl (by kernel_rfl) (by kernel_rfl) (by kernel_rfl) (by rfl) (fun w' hw => exec_loadC rfl rfl (run_loadVar_mid (P := Tryz.prog) w' b (off + k * 17) 78 u _ (range_below hre5 hw hb5) Tryz.underlying78 rfl hiu)) hS rfl ?_
          simp only [Act.put, List.setIfInBounds_toArray, List.set_cons_zero, List.set_cons_succ]
          refine hs_take (i := 4) (d := some 20) (v := ?_) rfl (by kernel_rfl) (by kernel_rfl) (by kernel_rfl) (by rfl) ?_ hS rfl ?_
          rotate_left
          · intro w' hw
            go_simp
            try with_reducible rfl
          simp only [Act.put, List.setIfInBounds_toArray, List.set_cons_zero, List.set_cons_succ]
          refine hs_take (i := 5) (d := some 21) (v := ?_) rfl (by kernel_rfl) (by kernel_rfl) (by kernel_rfl) (by rfl) ?_ hS rfl ?_
          rotate_left
          · intro w' hw
            go_simp
            try with_reducible rfl
          simp only [Act.put, List.setIfInBounds_toArray, List.set_cons_zero, List.set_cons_succ]
          refine hs_take (i := 6) (d := some 22) (v := ?_) rfl (by kernel_rfl) (by kernel_rfl) (by kernel_rfl) (by rfl) ?_ hS rfl ?_
          rotate_left
          · intro w' hw
            go_simp
            try with_reducible rfl
          simp only [Act.put, List.setIfInBounds_toArray, List.set_cons_zero, List.set_cons_succ]
          refine hs_take (i := 7) (d := some 23) (v := .agg u'.toArray) rfl (by kernel_rfl) (by kernel_rfl) (by kernel_rfl) (by rfl) (fun w' hw => exec_loadC rfl rfl (run_loadVar_mid (P := Tryz.prog) w' b' (off' + k * 17) 78 u' _ (range_below hre5' hw hb5') Tryz.underlying78 rfl hiu')) hS rfl ?_
          simp only [Act.put, List.setIfInBounds_toArray, List.set_cons_zero, List.set_cons_succ]
          refine hs_take (i := 8) (d := some 24) (v := .bool true) rfl (by kernel_rfl) (by kernel_rfl) (by kernel_rfl) (by rfl) (fun w' hw => by have hc := hne w'; go_simp) hS rfl ?_
          simp only [Act.put, List.setIfInBounds_toArray, List.set_cons_zero, List.set_cons_succ]
          refine hs_done (by kernel_rfl) ?_
          go_wp2
          go_ret
          exact ⟨.inr ⟨rfl, fun hh => HN'.out HR.out hh⟩, hB5⟩
      · have k1 : ¬ (k : Int) < rs.length := by omega
        have HE : Hid (rs = rs') := hide (List.ext_getElem HL.out (fun j hj hj' => HM.out j hj hj' (by omega)))
        clear HM
        go_wp2
        go_ret
        exact ⟨.inl ⟨rfl, HE.out⟩, hB⟩
theorem equalS_anyB (a : Option Addr) (cap : Nat) (rs : List Sg) (a' : Option Addr) (cap' : Nat) (rs' : List Sg) (w : World) (h : RowsAt SgE w a rs) (h' : RowsAt SgE w a' rs') :
    Calls Tryz.prog 33 #[.slice a rs.length cap, .slice a' rs'.length cap'] w fun e w' => e = .returned (.bool (sameL Sg.B rs rs')) ∧ Below w.heap.size w w' := by
  refine (equalS_any a cap rs a' cap' rs' w h h').mono ?_
  rintro e w1 ⟨hc, hb⟩
  have I := sameL_iff (fun x y => Sg.B_iff (x := x) (y := y)) rs rs'
  refine ⟨?_, hb⟩
  rcases hc with ⟨rfl, he⟩ | ⟨rfl, he⟩
  · rw [I.2 he]
  · cases hq : sameL Sg.B rs rs'
    · rfl
    · exact absurd (I.1 hq) he
set_option maxRecDepth 100000 in
set_option maxHeartbeats 2000000 in
theorem equalE_any (a : Option Addr) (cap : Nat) (rs : List Ev) (a' : Option Addr) (cap' : Nat) (rs' : List Ev) (w : World) (h : RowsAt EvE w a rs) (h' : RowsAt EvE w a' rs') :
    Calls Tryz.prog 31 #[.slice a rs.length cap, .slice a' rs'.length cap'] w fun e w' => ((e = .returned (.bool true) ∧ rs = rs') ∨ (e = .returned (.bool false) ∧ ¬ rs = rs')) ∧ Below w.heap.size w w' := by
  have hml := h.1
  have hml' := h'.1
  unfold maxLen at hml hml'
  have hall := h.2.1
  have hall' := h'.2.1
  by_cases hlen : rs.length = rs'.length
  rotate_left
  · have e0 : ((rs.length : Int) == rs'.length) = false := by simp; omega
    have HL := hide hlen
    clear hlen
    go_enter Tryz.func31, Tryz.ntmps31
    go_wp2
    go_ret
    exact ⟨.inr ⟨rfl, fun hh => HL.out (by rw [hh])⟩, Below.refl _ _⟩
  · have e0 : ((rs.length : Int) == rs'.length) = true := by simp; omega
    have HL := hide hlen
    clear hlen
    go_enter Tryz.func31, Tryz.ntmps31
    go_wp2
    go_loopw [13] (fun iv wr => ∃ k : Nat, k ≤ rs.length ∧ iv = .int .i64 (k : Int) ∧ Hid (∀ j (hj : j < rs.length) (hj' : j < rs'.length), j < k → rs[j] = rs'[j]) ∧ Below w.heap.size w wr) (fun iv _ => rs.length - (intOf iv).toNat)
    case atStart => exact ⟨0, by omega, rfl, hide (fun j _ _ hj => absurd hj (by omega)), Below.refl _ _⟩
    case round =>
      clear e0
      obtain ⟨k, hk, rfl, HM, hB⟩ := hrel
      by_cases hlt : k < rs.length
      · have k1 : (k : Int) < rs.length := by omega
        have hlt' : k < rs'.length := by have := HL.out; omega
        have k1' : (k : Int) < rs'.length := by omega
        obtain ⟨b, off, rfl, hb, hre⟩ := (h.below hB).elem k hlt
        have hre : wr.rangeAt b (off + k * 18) rs[k].cells := hre
        obtain ⟨b', off', rfl, hb', hre'⟩ := (h'.below hB).elem k hlt'
        have hre' : wr.rangeAt b' (off' + k * 18) rs'[k].cells := hre'
        obtain ⟨r, hr⟩ : ∃ r, Hid (rs[k] = r) := ⟨_, hide rfl⟩
        obtain ⟨r', hr'⟩ : ∃ r', Hid (rs'[k] = r') := ⟨_, hide rfl⟩
        have hok : r.ok := by rw [← hr.out]; exact hall _ (List.getElem_mem hlt)
        have hok' : r'.ok := by rw [← hr'.out]; exact hall' _ (List.getElem_mem hlt')
        rw [hr.out] at hre
        rw [hr'.out] at hre'
        have HM' : Hid (r = r' → ∀ j (hj : j < rs.length) (hj' : j < rs'.length), j < k + 1 → rs[j] = rs'[j]) := hide (fun hp j hj hj' hjk => by
          by_cases e : j = k
          · subst e; rw [hr.out, hr'.out]; exact hp
          · exact HM.out j hj hj' (by omega))
        have HN' : Hid (r ≠ r' → rs ≠ rs') := hide (fun hp he => by
          apply hp
          rw [← hr.out, ← hr'.out]
          subst he
          rfl)
        clear hr hr' HM
        have hiu : (Tryz.prog.info? 57).map (·.size) = some r.cells.length := by rw [show r.cells.length = 18 from EvE.len r hok]; kernel_rfl
        have hiu' : (Tryz.prog.info? 57).map (·.size) = some r'.cells.length := by rw [show r'.cells.length = 18 from EvE.len r' hok']; kernel_rfl
        have hne := fun w0 => Ev.eq10 r r' hok hok' w0
        obtain ⟨u, hu⟩ : ∃ u, Hid (r.cells = u) := ⟨_, hide rfl⟩
        obtain ⟨u', hu'⟩ : ∃ u', Hid (r'.cells = u') := ⟨_, hide rfl⟩
        rw [hu.out] at hre hiu
        rw [hu'.out] at hre' hiu'
        simp only [hu.out, hu'.out] at hne
        clear hu hu' hok hok'
        by_cases hrr : r = r'
        · have e1 : Ev.B r r' = true := Ev.B_iff.2 hrr
          rw [e1] at hne
          have HR := hide hrr
          clear hrr e1
          go_upto_region 6 with fail
          obtain ⟨w5, hw5⟩ : ∃ w5, wr.drew = w5 := ⟨_, rfl⟩
          have hB5 : Below w.heap.size w w5 := by rw [← hw5]; exact hB.drew
          have hre5 : w5.rangeAt b (off + k * 18) u := by rw [← hw5]; exact (World.rangeAt_drew _ _ _ _).2 hre
          have hre5' : w5.rangeAt b' (off' + k * 18) u' := by rw [← hw5]; exact (World.rangeAt_drew _ _ _ _).2 hre'
          have hb5 : b < w5.heap.size := by rw [← hw5]; exact hb
          have hb5' : b' < w5.heap.size := by rw [← hw5]; exact hb'
          refine hs_begin (S := (Below w5.heap.size w5)) 9 rfl (by kernel_rfl) ?_
          rw [hw5]
          clear hw5 hB hre hre' hb hb'
          have hS : (Below w5.heap.size w5) w5 := Below.refl _ _
          refine hs_take (i := 0) (d := some 16) (v := ?_) rfl (by kernel_rfl) (by kernel_rfl) (by kernel_rfl) (by rfl) ?_ hS rfl ?_
          rotate_left
          · intro w' hw
            go_simp
            try with_reducible rfl
          simp only [Act.put, List.setIfInBounds_toArray, List.set_cons_zero, List.set_cons_succ]
          refine hs_take (i := 1) (d := some 17) (v := ?_) rfl (by kernel_rfl) (by kernel_rfl) (by kernel_rfl) (by rfl) ?_ hS rfl ?_
          rotate_left
          · intro w' hw
            go_simp
            try with_reducible rfl
          simp only [Act.put, List.setIfInBounds_toArray, List.set_cons_zero, List.set_cons_succ]
          refine hs_take (i := 2) (d := some 18) (v := ?_) rfl (by kernel_rfl) (by kernel_rfl) (by kernel_rfl) (by rfl) ?_ hS rfl ?_
          rotate_left
          · intro w' hw
            go_simp
            try with_reducible rfl
          simp only [Act.put, List.setIfInBounds_toArray, List.set_cons_zero, List.set_cons_succ]
          refine hs_take (i := 3) (d := some 19) (v := .agg u.toArray) rfl (by kernel_rfl) (by kernel_rfl) (by kernel_rfl) (by rfl) (fun w' hw => exec_loadC rfl rfl (run_loadVar_mid (P := Tryz.prog) w' b (off + k * 18) 57 u _ (range_below hre5 hw hb5) Tryz.underlying57 rfl hiu)) hS rfl ?_
          simp only [Act.put, List.setIfInBounds_toArray, List.set_cons_zero, List.set_cons_succ]
          refine hs_take (i := 4) (d := some 20) (v := ?_) rfl (by kernel_rfl) (by kernel_rfl) (by kernel_rfl) (by rfl) ?_ hS rfl ?_
          rotate_left
          · intro w' hw
            go_simp
            try with_reducible rfl
          simp only [Act.put, List.setIfInBounds_toArray, List.set_cons_zero, List.set_cons_succ]
          refine hs_take (i := 5) (d := some 21) (v := ?_) rfl (by kernel_rfl) (by kernel_rfl) (by kernel_rfl) (by rfl) ?_ hS rfl ?_
          rotate_left
          · intro w' hw
            go_simp
            try with_reducible rfl
          simp only [Act.put, List.setIfInBounds_toArray, List.set_cons_zero, List.set_cons_succ]
          refine hs_take (i := 6) (d := some 22) (v := ?_) rfl (by kernel_rfl) (by kernel_rfl) (by kernel_rfl) (by rfl) ?_ hS rfl ?_
          rotate_left
          · intro w' hw
            go_simp
            try with_reducible rfl
          simp only [Act.put, List.setIfInBounds_toArray, List.set_cons_zero, List.set_cons_succ]
          refine hs_take (i := 7) (d := some 23) (v := .agg u'.toArray) rfl (by kernel_rfl) (by kernel_rfl) (by kernel_rfl) (by rfl) (fun w' hw => exec_loadC rfl rfl (run_loadVar_mid (P := Tryz.prog) w' b' (off' + k * 18) 57 u' _ (range_below hre5' hw hb5') Tryz.underlying57 rfl hiu')) hS rfl ?_
          simp only [Act.put, List.setIfInBounds_toArray, List.set_cons_zero, List.set_cons_succ]
          refine hs_take (i := 8) (d := some 24) (v := .bool false) rfl (by kernel_rfl) (by kernel_rfl) (by kernel_rfl) (by rfl) (fun w' hw => by have hc := hne w'; go_simp) hS rfl ?_
          simp only [Act.put, List.setIfInBounds_toArray, List.set_cons_zero, List.set_cons_succ]
          refine hs_done (by kernel_rfl) ?_
          go_wp2
          go_roundw
          case rel => exact ⟨k + 1, by omega, by go_num, hide (HM'.out HR.out), hB5⟩
          case measure => simp [intOf]; omega
        · have e1 : Ev.B r r' = false := by
            cases hx : Ev.B r r'
            · rfl
            · exact absurd (Ev.B_iff.1 hx) hrr
          rw [e1] at hne
          have HR := hide hrr
          clear hrr e1
          go_upto_region 6 with fail
          obtain ⟨w5, hw5⟩ : ∃ w5, wr.drew = w5 := ⟨_, rfl⟩
          have hB5 : Below w.heap.size w w5 := by rw [← hw5]; exact hB.drew
          have hre5 : w5.rangeAt b (off + k * 18) u := by rw [← hw5]; exact (World.rangeAt_drew _ _ _ _).2 hre
          have hre5' : w5.rangeAt b' (off' + k * 18) u' := by rw [← hw5]; exact (World.rangeAt_drew _ _ _ _).2 hre'
          have hb5 : b < w5.heap.size := by rw [← hw5]; exact hb
          have hb5' : b' < w5.heap.size := by rw [← hw5]; exact hb'
          refine hs_begin (S := (Below w5.heap.size w5)) 9 rfl (by kernel_rfl) ?_
          rw [hw5]
          clear hw5 hB hre hre' hb hb'
          have hS : (Below w5.heap.size w5) w5 := Below.refl _ _
          refine hs_take (i := 0) (d := some 16) (v := ?_) rfl (by kernel_rfl) (by kernel_rfl) (by kernel_rfl) (by rfl) ?_ hS rfl ?_
          rotate_left
          · intro w' hw
            go_simp
            try with_reducible rfl
          simp only [Act.put, List.setIfInBounds_toArray, List.set_cons_zero, List.set_cons_succ]
          refine hs_take (i := 1) (d := some 17) (v := ?_) rfl (by kernel_rfl) (by kernel_rfl) (by kernel_rfl) (by rfl) ?_ hS rfl ?_
          rotate_left
          · intro w' hw
            go_simp
            try with_reducible rfl
          simp only [Act.put, List.setIfInBounds_toArray, List.set_cons_zero, List.set_cons_succ]
          refine hs_take (i := 2) (d := some 18) (v := ?_) rfl (by kernel_rfl) (by kernel_rfl) (by kernel_rfl) (by rfl) ?_ hS rfl ?_
          rotate_left
          · intro w' hw
            go_simp
            try with_reducible rfl
          simp only [Act.put, List.setIfInBounds_toArray, List.set_cons_zero, List.set_cons_succ]
          refine hs_take (i := 3) (d := some 19) (v := .agg u.toArray) rfl (by kernel_rfl) (by kernel_rfl) (by kernel_rfl) (by rfl) (fun w' hw => exec_loadC rfl rfl (run_loadVar_mid (P := Tryz.prog) w' b (off + k * 18) 57 u _ (range_below hre5 hw hb5) Tryz.underlying57 rfl hiu)) hS rfl ?_
          simp only [Act.put, List.setIfInBounds_toArray, List.set_cons_zero, List.set_cons_succ]
          refine hs_take (i := 4) (d := some 20) (v := ?_) rfl (by kernel_rfl) (by kernel_rfl) (by kernel_rfl) (by rfl) ?_ hS rfl ?_
          rotate_left
          · intro w' hw
            go_simp
            try with_reducible rfl
          simp only [Act.put, List.setIfInBounds_toArray, List.set_cons_zero, List.set_cons_succ]
          refine hs_take (i := 5) (d := some 21) (v := ?_) rfl (by kernel_rfl) (by kernel_rfl) (by kernel_rfl) (by rfl) ?_ hS rfl ?_
          rotate_left
          · intro w' hw
            go_simp
            try with_reducible rfl
          simp only [Act.put, List.setIfInBounds_toArray, List.set_cons_zero, List.set_cons_succ]
          refine hs_take (i := 6) (d := some 22) (v := ?_) rfl (by kernel_rfl) (by kernel_rfl) (by kernel_rfl) (by rfl) ?_ hS rfl ?_
          rotate_left
          · intro w' hw
            go_simp
            try with_reducible rfl
          simp only [Act.put, List.setIfInBounds_toArray, List.set_cons_zero, List.set_cons_succ]
          refine hs_take (i := 7) (d := some 23) (v := .agg u'.toArray) rfl (by kernel_rfl) (by kernel_rfl) (by kernel_rfl) (by rfl) (fun w' hw => exec_loadC rfl rfl (run_loadVar_mid (P := Tryz.prog) w' b' (off' + k * 18) 57 u' _ (range_below hre5' hw hb5') Tryz.underlying57 rfl hiu')) hS rfl ?_
          simp only [Act.put, List.setIfInBounds_toArray, List.set_cons_zero, List.set_cons_succ]
          refine hs_take (i := 8) (d := some 24) (v := .bool true) rfl (by kernel_rfl) (by kernel_rfl) (by kernel_rfl) (by rfl) (fun w' hw => by have hc := hne w'; go_simp) hS rfl ?_
          simp only [Act.put, List.setIfInBounds_toArray, List.set_cons_zero, List.set_cons_succ]
          refine hs_done (by kernel_rfl) ?_
          go_wp2
          go_ret
          exact ⟨.inr ⟨rfl, fun hh => HN'.out HR.out hh⟩, hB5⟩
      · have k1 : ¬ (k : Int) < rs.length := by omega
        have HE : Hid (rs = rs') := hide (List.ext_getElem HL.out (fun j hj hj' => HM.out j hj hj' (by omega)))
        clear HM
        go_wp2
        go_ret
        exact ⟨.inl ⟨rfl, HE.out⟩, hB⟩
theorem equalE_anyB (a : Option Addr) (cap : Nat) (rs : List Ev) (a' : Option Addr) (cap' : Nat) (rs' : List Ev) (w : World) (h : RowsAt EvE w a rs) (h' : RowsAt EvE w a' rs') :
    Calls Tryz.prog 31 #[.slice a rs.length cap, .slice a' rs'.length cap'] w fun e w' => e = .returned (.bool (sameL Ev.B rs rs')) ∧ Below w.heap.size w w' := by
  refine (equalE_any a cap rs a' cap' rs' w h h').mono ?_
  rintro e w1 ⟨hc, hb⟩
  have I := sameL_iff (fun x y => Ev.B_iff (x := x) (y := y)) rs rs'
  refine ⟨?_, hb⟩
  rcases hc with ⟨rfl, he⟩ | ⟨rfl, he⟩
  · rw [I.2 he]
  · cases hq : sameL Ev.B rs rs'
    · rfl
    · exact absurd (I.1 hq) he
set_option maxRecDepth 100000 in
set_option maxHeartbeats 2000000 in
theorem equalQ_any (a : Option Addr) (cap : Nat) (rs : List Rq) (a' : Option Addr) (cap' : Nat) (rs' : List Rq) (w : World) (h : RowsAt RqE w a rs) (h' : RowsAt RqE w a' rs') :
    Calls Tryz.prog 74 #[.slice a rs.length cap, .slice a' rs'.length cap'] w fun e w' => ((e = .returned (.bool true) ∧ rs = rs') ∨ (e = .returned (.bool false) ∧ ¬ rs = rs')) ∧ Below w.heap.size w w' := by
  have hml := h.1
  have hml' := h'.1
  unfold maxLen at hml hml'
  have hall := h.2.1
  have hall' := h'.2.1
  by_cases hlen : rs.length = rs'.length
  rotate_left
  · have e0 : ((rs.length : Int) == rs'.length) = false := by simp; omega
    have HL := hide hlen
    clear hlen
    go_enter Tryz.func74, Tryz.ntmps74
    go_wp2
    go_ret
    exact ⟨.inr ⟨rfl, fun hh => HL.out (by rw [hh])⟩, Below.refl _ _⟩
  · have e0 : ((rs.length : Int) == rs'.length) = true := by simp; omega
    have HL := hide hlen
    clear hlen
    go_enter Tryz.func74, Tryz.ntmps74
    go_wp2
    go_loopw [13] (fun iv wr => ∃ k : Nat, k ≤ rs.length ∧ iv = .int .i64 (k : Int) ∧ Hid (∀ j (hj : j < rs.length) (hj' : j < rs'.length), j < k → rs[j] = rs'[j]) ∧ Below w.heap.size w wr) (fun iv _ => rs.length - (intOf iv).toNat)
    case atStart => exact ⟨0, by omega, rfl, hide (fun j _ _ hj => absurd hj (by omega)), Below.refl _ _⟩
    case round =>
      clear e0
      obtain ⟨k, hk, rfl, HM, hB⟩ := hrel
      by_cases hlt : k < rs.length
      · have k1 : (k : Int) < rs.length := by omega
        have hlt' : k < rs'.length := by have := HL.out; omega
        have k1' : (k : Int) < rs'.length := by omega
        obtain ⟨b, off, rfl, hb, hre⟩ := (h.below hB).elem k hlt
        have hre : wr.rangeAt b (off + k * 19) rs[k].cells := hre
        obtain ⟨b', off', rfl, hb', hre'⟩ := (h'.below hB).elem k hlt'
        have hre' : wr.rangeAt b' (off' + k * 19) rs'[k].cells := hre'
        obtain ⟨r, hr⟩ : ∃ r, Hid (rs[k] = r) := ⟨_, hide rfl⟩
        obtain ⟨r', hr'⟩ : ∃ r', Hid (rs'[k] = r') := ⟨_, hide rfl⟩
        have hok : r.ok := by rw [← hr.out]; exact hall _ (List.getElem_mem hlt)
        have hok' : r'.ok := by rw [← hr'.out]; exact hall' _ (List.getElem_mem hlt')
        rw [hr.out] at hre
        rw [hr'.out] at hre'
        have HM' : Hid (r = r' → ∀ j (hj : j < rs.length) (hj' : j < rs'.length), j < k + 1 → rs[j] = rs'[j]) := hide (fun hp j hj hj' hjk => by
          by_cases e : j = k
          · subst e; rw [hr.out, hr'.out]; exact hp
          · exact HM.out j hj hj' (by omega))
        have HN' : Hid (r ≠ r' → rs ≠ rs') := hide (fun hp he => by
          apply hp
          rw [← hr.out, ← hr'.out]
          subst he
          rfl)
        clear hr hr' HM
        have hiu : (Tryz.prog.info? 93).map (·.size) = some r.cells.length := by rw [show r.cells.length = 19 from RqE.len r hok]; kernel_rfl
        have hiu' : (Tryz.prog.info? 93).map (·.size) = some r'.cells.length := by rw [show r'.cells.length = 19 from RqE.len r' hok']; kernel_rfl
        have hne := fun w0 => Rq.eq10 r r' hok hok' w0
        obtain ⟨u, hu⟩ : ∃ u, Hid (r.cells = u) := ⟨_, hide rfl⟩
        obtain ⟨u', hu'⟩ : ∃ u', Hid (r'.cells = u') := ⟨_, hide rfl⟩
        rw [hu.out] at hre hiu
        rw [hu'.out] at hre' hiu'
        simp only [hu.out, hu'.out] at hne
        clear hu hu' hok hok'
        by_cases hrr : r = r'
        · have e1 : Rq.B r r' = true := Rq.B_iff.2 hrr
          rw [e1] at hne
          have HR := hide hrr
          clear hrr e1
          go_upto_region 6 with fail
          obtain ⟨w5, hw5⟩ : ∃ w5, wr.drew = w5 := ⟨_, rfl⟩
          have hB5 : Below w.heap.size w w5 := by rw [← hw5]; exact hB.drew
          have hre5 : w5.rangeAt b (off + k * 19) u := by rw [← hw5]; exact (World.rangeAt_drew _ _ _ _).2 hre
          have hre5' : w5.rangeAt b' (off' + k * 19) u' := by rw [← hw5]; exact (World.rangeAt_drew _ _ _ _).2 hre'
          have hb5 : b < w5.heap.size := by rw [← hw5]; exact hb
          have hb5' : b' < w5.heap.size := by rw [← hw5]; exact hb'
          refine hs_begin (S := (Below w5.heap.size w5)) 9 rfl (by kernel_rfl) ?_
          rw [hw5]
          clear hw5 hB hre hre' hb hb'
          have hS : (Below w5.heap.size w5) w5 := Below.refl _ _
          refine hs_take (i := 0) (d := some 16) (v := ?_) rfl (by kernel_rfl) (by kernel_rfl) (by kernel_rfl) (by rfl) ?_ hS rfl ?_
          rotate_left
          · intro w' hw
            go_simp
            try with_reducible rfl
          simp only [Act.put, List.setIfInBounds_toArray, List.set_cons_zero, List.set_cons_succ]
          refine hs_take (i := 1) (d := some 17) (v := ?_) rfl (by kernel_rfl) (by kernel_rfl) (by kernel_rfl) (by rfl) ?_ hS rfl ?_
          rotate_left
          · intro w' hw
            go_simp
            try with_reducible rfl
          simp only [Act.put, List.setIfInBounds_toArray, List.set_cons_zero, List.set_cons_succ]
          refine hs_take (i := 2) (d := some 18) (v := ?_) rfl (by kernel_rfl) (by kernel_rfl) (by kernel_rfl) (by rfl) ?_ hS rfl ?_
          rotate_left
          · intro w' hw
            go_simp
            try with_reducible rfl
          simp only [Act.put, List.setIfInBounds_toArray, List.set_cons_zero, List.set_cons_succ]
          refine hs_take (i := 3) (d := some 19) (v := .agg u.toArray) rfl (by kernel_rfl) (by kernel_rfl) (by kernel_rfl) (by rfl) (fun w' hw => exec_loadC rfl rfl (run_loadVar_mid (P := Tryz.prog) w' b (off + k * 19) 93 u _ (range_below hre5 hw hb5) Tryz.underlying93 rfl hiu)) hS rfl ?_
          simp only [Act.put, List.setIfInBounds_toArray, List.set_cons_zero, List.set_cons_succ]
          refine hs_take (i := 4) (d := some 20) (v := ?_) rfl (by kernel_rfl) (by kernel_rfl) (by kernel_rfl) (by rfl) ?_ hS rfl ?_
          rotate_left
          · intro w' hw
            go_simp
            try with_reducible rfl
          simp only [Act.put, List.setIfInBounds_toArray, List.set_cons_zero, List.set_cons_succ]
          refine hs_take (i := 5) (d := some 21) (v := ?_) rfl (by kernel_rfl) (by kernel_rfl) (by kernel_rfl) (by rfl) ?_ hS rfl ?_
          rotate_left
          · intro w' hw
            go_simp
            try with_reducible rfl
          simp only [Act.put, List.setIfInBounds_toArray, List.set_cons_zero, List.set_cons_succ]
          refine hs_take (i := 6) (d := some 22) (v := ?_) rfl (by kernel_rfl) (by kernel_rfl) (by kernel_rfl) (by rfl) ?_ hS rfl ?_
          rotate_left
          · intro w' hw
            go_simp
            try with_reducible rfl
          simp only [Act.put, List.setIfInBounds_toArray, List.set_cons_zero, List.set_cons_succ]
          refine hs_take (i := 7) (d := some 23) (v := .agg u'.toArray) rfl (by kernel_rfl) (by kernel_rfl) (by kernel_rfl) (by rfl) (fun w' hw => exec_loadC rfl rfl (run_loadVar_mid (P := Tryz.prog) w' b' (off' + k * 19) 93 u' _ (range_below hre5' hw hb5') Tryz.underlying93 rfl hiu')) hS rfl ?_
          simp only [Act.put, List.setIfInBounds_toArray, List.set_cons_zero, List.set_cons_succ]
          refine hs_take (i := 8) (d := some 24) (v := .bool false) rfl (by kernel_rfl) (by kernel_rfl) (by kernel_rfl) (by rfl) (fun w' hw => by have hc := hne w'; go_simp) hS rfl ?_
          simp only [Act.put, List.setIfInBounds_toArray, List.set_cons_zero, List.set_cons_succ]
          refine hs_done (by kernel_rfl) ?_
          go_wp2
          go_roundw
          case rel => exact ⟨k + 1, by omega, by go_num, hide (HM'.out HR.out), hB5⟩
          case measure => simp [intOf]; omega
        · have e1 : Rq.B r r' = false := by
            cases hx : Rq.B r r'
            · rfl
            · exact absurd (Rq.B_iff.1 hx) hrr
          rw [e1] at hne
          have HR := hide hrr
          clear hrr e1
          go_upto_region 6 with fail
          obtain ⟨w5, hw5⟩ : ∃ w5, wr.drew = w5 := ⟨_, rfl⟩
          have hB5 : Below w.heap.size w w5 := by rw [← hw5]; exact hB.drew
          have hre5 : w5.rangeAt b (off + k * 19) u := by rw [← hw5]; exact (World.rangeAt_drew _ _ _ _).2 hre
          have hre5' : w5.rangeAt b' (off' + k * 19) u' := by rw [← hw5]; exact (World.rangeAt_drew _ _ _ _).2 hre'
          have hb5 : b < w5.heap.size := by rw [← hw5]; exact hb
          have hb5' : b' < w5.heap.size := by rw [← hw5]; exact hb'
          refine hs_begin (S := (Below w5.heap.size w5)) 9 rfl (by kernel_rfl) ?_
          rw [hw5]
          clear hw5 hB hre hre' hb hb'
          have hS : (Below w5.heap.size w5) w5 := Below.refl _ _
          refine hs_take (i := 0) (d := some 16) (v := ?_) rfl (by kernel_rfl) (by kernel_rfl) (by kernel_rfl) (by rfl) ?_ hS rfl ?_
          rotate_left
          · intro w' hw
            go_simp
            try with_reducible rfl
          simp only [Act.put, List.setIfInBounds_toArray, List.set_cons_zero, List.set_cons_succ]
          refine hs_take (i := 1) (d := some 17) (v := ?_) rfl (by kernel_rfl) (by kernel_rfl) (by kernel_rfl) (by rfl) ?_ hS rfl ?_
          rotate_left
          · intro w' hw
            go_simp
            try with_reducible rfl
          simp only [Act.put, List.setIfInBounds_toArray, List.set_cons_zero, List.set_cons_succ]
          refine hs_take (i := 2) (d := some 18) (v := ?_) rfl (by kernel_rfl) (by kernel_rfl) (by kernel_rfl) (by rfl) ?_ hS rfl ?_
          rotate_left
          · intro w' hw
            go_simp
            try with_reducible rfl
          simp only [Act.put, List.setIfInBounds_toArray, List.set_cons_zero, List.set_cons_succ]
          refine hs_take (i := 3) (d := some 19) (v := .agg u.toArray) rfl (by kernel_rfl) (by kernel_rfl) (by kernel_rfl) (by rfl) (fun w' hw => exec_loadC rfl rfl (run_loadVar_mid (P := Tryz.prog) w' b (off + k * 19) 93 u _ (range_below hre5 hw hb5) Tryz.underlying93 rfl hiu)) hS rfl ?_
          simp only [Act.put, List.setIfInBounds_toArray, List.set_cons_zero, List.set_cons_succ]
          refine hs_take (i := 4) (d := some 20) (v := ?_) rfl (by kernel_rfl) (by kernel_rfl) (by kernel_rfl) (by rfl) ?_ hS rfl ?_
          rotate_left
          · intro w' hw
            go_simp
            try with_reducible rfl
          simp only [Act.put, List.setIfInBounds_toArray, List.set_cons_zero, List.set_cons_succ]
          refine hs_take (i := 5) (d := some 21) (v := ?_) rfl (by kernel_rfl) (by kernel_rfl) (by kernel_rfl) (by rfl) ?_ hS rfl ?_
          rotate_left
          · intro w' hw
            go_simp
            try with_reducible rfl
          simp only [Act.put, List.setIfInBounds_toArray, List.set_cons_zero, List.set_cons_succ]
          refine hs_take (i := 6) (d := some 22) (v := ?_) rfl (by kernel_rfl) (by kernel_rfl) (by kernel_rfl) (by rfl) ?_ hS rfl ?_
          rotate_left
          · intro w' hw
            go_simp
            try with_reducible rfl
          simp only [Act.put, List.setIfInBounds_toArray, List.set_cons_zero, List.set_cons_succ]
          refine hs_take (i := 7) (d := some 23) (v := .agg u'.toArray) rfl (by kernel_rfl) (by kernel_rfl) (by kernel_rfl) (by rfl) (fun w' hw => exec_loadC rfl rfl (run_loadVar_mid (P := Tryz.prog) w' b' (off' + k * 19) 93 u' _ (range_below hre5' hw hb5') Tryz.underlying93 rfl hiu')) hS rfl ?_
          simp only [Act.put, List.setIfInBounds_toArray, List.set_cons_zero, List.set_cons_succ]
          refine hs_take (i := 8) (d := some 24) (v := .bool true) rfl (by kernel_rfl) (by kernel_rfl) (by kernel_rfl) (by rfl) (fun w' hw => by have hc := hne w'; go_simp) hS rfl ?_
          simp only [Act.put, List.setIfInBounds_toArray, List.set_cons_zero, List.set_cons_succ]
          refine hs_done (by kernel_rfl) ?_
          go_wp2
          go_ret
          exact ⟨.inr ⟨rfl, fun hh => HN'.out HR.out hh⟩, hB5⟩
      · have k1 : ¬ (k : Int) < rs.length := by omega
        have HE : Hid (rs = rs') := hide (List.ext_getElem HL.out (fun j hj hj' => HM.out j hj hj' (by omega)))
        clear HM
        go_wp2
        go_ret
        exact ⟨.inl ⟨rfl, HE.out⟩, hB⟩
theorem equalQ_anyB (a : Option Addr) (cap : Nat) (rs : List Rq) (a' : Option Addr) (cap' : Nat) (rs' : List Rq) (w : World) (h : RowsAt RqE w a rs) (h' : RowsAt RqE w a' rs') :
    Calls Tryz.prog 74 #[.slice a rs.length cap, .slice a' rs'.length cap'] w fun e w' => e = .returned (.bool (sameL Rq.B rs rs')) ∧ Below w.heap.size w w' := by
  refine (equalQ_any a cap rs a' cap' rs' w h h').mono ?_
  rintro e w1 ⟨hc, hb⟩
  have I := sameL_iff (fun x y => Rq.B_iff (x := x) (y := y)) rs rs'
  refine ⟨?_, hb⟩
  rcases hc with ⟨rfl, he⟩ | ⟨rfl, he⟩
  · rw [I.2 he]
  · cases hq : sameL Rq.B rs rs'
    · rfl
    · exact absurd (I.1 hq) he
end Go.Proofs.YtgjalkbianpibaaGreat
namespace Go.Proofs.YtgjalkbianpibaaGreat
open Go.RowKit
open Sha Tal
theorem two_boxG (q q' : List Value) (t : TypeId) (w : World) : ((w.alloc (.cells q.toArray t)).alloc (.cells q'.toArray t)).rangeAt w.heap.size 0 q ∧ ((w.alloc (.cells q.toArray t)).alloc (.cells q'.toArray t)).rangeAt (w.heap.size + 1) 0 q' ∧ Below w.heap.size w ((w.alloc (.cells q.toArray t)).alloc (.cells q'.toArray t)) ∧ w.heap.size + 2 ≤ ((w.alloc (.cells q.toArray t)).alloc (.cells q'.toArray t)).heap.size := by
  have hB : Below w.heap.size w (w.alloc (.cells q.toArray t)) := (Below.refl _ _).alloc (Nat.le_refl _) _
  have hB2 : Below (w.alloc (.cells q.toArray t)).heap.size (w.alloc (.cells q.toArray t)) ((w.alloc (.cells q.toArray t)).alloc (.cells q'.toArray t)) := (Below.refl _ _).alloc (Nat.le_refl _) _
  have h1 := range_new w q.toArray t
  have h2 := range_new (w.alloc (.cells q.toArray t)) q'.toArray t
  rw [World.size_alloc] at h2
  exact ⟨range_below (by simpa using h1) hB2 (by simp), by simpa using h2, hB.trans (hB2.mono (by simp)), by simp⟩
/-- a slice and what lies in it -/
structure Sl (α : Type) where
  a : Option Addr
  cap : Nat
  xs : List α
instance {α : Type} : Inhabited (Sl α) := ⟨⟨none, 0, []⟩⟩
def Sl.val {α : Type} (x : Sl α) : Value := .slice x.a x.xs.length x.cap
def Sl.At {α : Type} (E : El α) (w : World) (x : Sl α) : Prop := RowsAt E w x.a x.xs
theorem Sl.At.below {α : Type} {E : El α} {w w' : World} {x : Sl α} (h : x.At E w) (hb : Below w.heap.size w w') : x.At E w' := RowsAt.below h hb
def batB (q : Bool) (x : Sl Rq) (q' : Bool) (x' : Sl Rq) : Bool := (q == q') && sameL Rq.B x.xs x'.xs
set_option maxRecDepth 100000 in
set_option maxHeartbeats 2000000 in
theorem bsame_any (q : Bool) (x : Sl Rq) (q' : Bool) (x' : Sl Rq) (w : World) (h : x.At RqE w) (h' : x'.At RqE w) :
    Calls Tryz.prog 29 #[.agg #[.bool q, x.val], .agg #[.bool q', x'.val]] w fun e w' => e = .returned (.bool (batB q x q' x')) ∧ Below w.heap.size w w' := by
  obtain ⟨a, cap, rs⟩ := x
  obtain ⟨a', cap', rs'⟩ := x'
  have ce := fun w0 h0 h1 => equalQ_anyB a cap rs a' cap' rs' w0 h0 h1
  have hB : Below w.heap.size w ((w.alloc (.cells #[.bool q, .slice a rs.length cap] 24)).alloc (.cells #[.bool q', .slice a' rs'.length cap'] 24)) := ((Below.refl _ w).alloc (Nat.le_refl _) _).alloc (by simp) _
  have h1 : RowsAt RqE _ a rs := RowsAt.below h hB
  have h1' : RowsAt RqE _ a' rs' := RowsAt.below h' hB
  have E : batB q ⟨a, cap, rs⟩ q' ⟨a', cap', rs'⟩ = ((q == q') && sameL Rq.B rs rs') := rfl
  rw [E]
  clear E h h'
  simp only [Sl.val]
  generalize sameL Rq.B rs rs' = sb at *
  cases q <;> cases q'
  case false.true | true.false =>
    clear ce
    go_enter Tryz.func29, Tryz.ntmps29
    go_wp2
    go_ret
    exact ⟨rfl, hB⟩
  all_goals
    cases sb
    all_goals
      go_enter Tryz.func29, Tryz.ntmps29
      go_wp2_with fail
      refine (ce _ h1 h1').mono ?_
      rintro e w2 ⟨rfl, hb2⟩
      have hB2 := hB.trans (hb2.mono hB.size)
      clear ce h1 h1' hb2
      go_wp2
      go_ret
      exact ⟨rfl, hB2⟩
def certL (x : Vt) (s : Sl Sg) : List Value := x.cells ++ [s.val]
def certB (x : Vt) (s : Sl Sg) (y : Vt) (t : Sl Sg) : Bool := vtB x y && sameL Sg.B s.xs t.xs
theorem Sl.one {α : Type} (x : Sl α) : x.val.oneCell' = true := rfl
set_option maxRecDepth 100000 in
set_option maxHeartbeats 2000000 in
theorem scert_any (x y : Vt) (s t : Sl Sg) (w : World) (hx : x.ok) (hy : y.ok) (hs : s.At SgE w) (ht : t.At SgE w) : Calls Tryz.prog 32 #[.agg (certL x s).toArray, .agg (certL y t).toArray] w fun e w' => e = .returned (.bool (certB x s y t)) ∧ Below w.heap.size w w' := by
  obtain ⟨hA, hA', hB, hz⟩ := two_boxG (certL x s) (certL y t) 35 w
  have r1 := range_left hA
  have r1' := range_left hA'
  have c1 := range_right hA 0 _ rfl
  have c1' := range_right hA' 0 _ rfl
  rw [hx.len] at c1
  rw [hy.len] at c1'
  simp only [Nat.zero_add, Nat.add_zero] at c1 c1'
  have ix : (Tryz.prog.info? 28).map (·.size) = some x.cells.length := by rw [hx.len]; exact iszV
  have iy : (Tryz.prog.info? 28).map (·.size) = some y.cells.length := by rw [hy.len]; exact iszV
  have hq := eqInV x y hx.dl hy.dl
  obtain ⟨a, cap, rs⟩ := s
  obtain ⟨a', cap', rs'⟩ := t
  have ce := fun w0 h0 h1 => equalS_anyB a cap rs a' cap' rs' w0 h0 h1
  have h1 : RowsAt SgE _ a rs := RowsAt.below hs hB
  have h1' : RowsAt SgE _ a' rs' := RowsAt.below ht hB
  have E : certB x ⟨a, cap, rs⟩ y ⟨a', cap', rs'⟩ = (vtB x y && sameL Sg.B rs rs') := rfl
  rw [E]
  simp only [Sl.val] at c1 c1'
  clear hA hA' hz hx hy E hs ht
  generalize certL x ⟨a, cap, rs⟩ = q at *
  generalize certL y ⟨a', cap', rs'⟩ = q' at *
  generalize x.cells = u at *
  generalize y.cells = u' at *
  generalize vtB x y = vb at *
  generalize sameL Sg.B rs rs' = sb at *
  cases vb
  · go_enter Tryz.func32, Tryz.ntmps32
    go_upto_region 1 with fail
    go_name_world w1 hw1
    rw [show (w.alloc (.cells q.toArray 35)).alloc (.cells q'.toArray 35) = w1 from hw1] at r1 r1' c1 c1' hB h1 h1'
    clear hw1 ce
    go_wp2_with (first | (refine wpList_load_mid rfl 28 _ rfl _ _ rfl u _ r1 Tryz.underlying28 rfl ix ?_) | (refine wpList_load_mid rfl 28 _ rfl _ _ rfl u' _ r1' Tryz.underlying28 rfl iy ?_))
    go_ret
    exact ⟨rfl, hB⟩
  · cases sb
    all_goals
      go_enter Tryz.func32, Tryz.ntmps32
      go_upto_region 1 with fail
      go_name_world w1 hw1
      rw [show (w.alloc (.cells q.toArray 35)).alloc (.cells q'.toArray 35) = w1 from hw1] at r1 r1' c1 c1' hB h1 h1'
      clear hw1
      go_wp2_with (first | (refine wpList_load_mid rfl 28 _ rfl _ _ rfl u _ r1 Tryz.underlying28 rfl ix ?_) | (refine wpList_load_mid rfl 28 _ rfl _ _ rfl u' _ r1' Tryz.underlying28 rfl iy ?_))
      refine (ce _ h1 h1').mono ?_
      rintro e2 w2 ⟨rfl, hb2⟩
      have hB2 := hB.trans (hb2.mono hB.size)
      clear ce h1 h1' hb2 c1 c1' r1 r1'
      go_wp2
      go_ret
      exact ⟨rfl, hB2⟩
end Go.Proofs.YtgjalkbianpibaaGreat
namespace Go.Proofs.YtgjalkbianpibaaGreat
open Go.RowKit
open Sha Tal
/-- a batch that was held, and its cert -/
structure Hd where
  q : Bool
  rs : Sl Rq
  vt : Vt
  sg : Sl Sg
instance : Inhabited Hd := ⟨⟨false, default, Vt.zero, default⟩⟩
def Hd.cells (h : Hd) : List Value := .bool h.q :: h.rs.val :: certL h.vt h.sg
def HdE : El Hd where
  f := Hd.cells
  k := 39
  ok := fun h => h.vt.ok
  len := fun h hv => by have := hv.len; simp [Hd.cells, certL]; omega
  one := fun h v hv => by
    simp only [Hd.cells, certL, List.mem_cons, List.mem_append, List.not_mem_nil, or_false] at hv
    rcases hv with rfl | rfl | hv | rfl
    · rfl
    · rfl
    · exact Vt.one _ v hv
    · rfl
def Hd.At (w : World) (h : Hd) : Prop := h.rs.At RqE w ∧ h.sg.At SgE w
theorem Hd.At.below {w w' : World} {h : Hd} (k : h.At w) (hb : Below w.heap.size w w') : h.At w' := ⟨k.1.below hb, k.2.below hb⟩
def Hd.B (h g : Hd) : Bool := batB h.q h.rs g.q g.rs && certB h.vt h.sg g.vt g.sg
theorem iszH : (Tryz.prog.info? 53).map (·.size) = some 39 := by kernel_rfl
set_option maxRecDepth 100000 in
set_option maxHeartbeats 2000000 in
theorem sheld_any (h g : Hd) (w : World) (kh : h.vt.ok) (kg : g.vt.ok) (ah : h.At w) (ag : g.At w) : Calls Tryz.prog 76 #[.agg h.cells.toArray, .agg g.cells.toArray] w fun e w' => e = .returned (.bool (Hd.B h g)) ∧ Below w.heap.size w w' := by
  obtain ⟨hA, hA', hB, hz⟩ := two_boxG h.cells g.cells 53 w
  have c0 := hA 0 _ rfl
  have c1 := hA 1 _ rfl
  have c0' := hA' 0 _ rfl
  have c1' := hA' 1 _ rfl
  simp only [Nat.zero_add, Nat.add_zero] at c0 c1 c0' c1'
  have rc : World.rangeAt _ w.heap.size 2 (certL h.vt h.sg) := range_right (cs := [.bool h.q, h.rs.val]) hA
  have rc' : World.rangeAt _ (w.heap.size + 1) 2 (certL g.vt g.sg) := range_right (cs := [.bool g.q, g.rs.val]) hA'
  have ic : (Tryz.prog.info? 35).map (·.size) = some (certL h.vt h.sg).length := by rw [show (certL h.vt h.sg).length = 37 by simp [certL, kh.len]]; exact iszC
  have ic' : (Tryz.prog.info? 35).map (·.size) = some (certL g.vt g.sg).length := by rw [show (certL g.vt g.sg).length = 37 by simp [certL, kg.len]]; exact iszC
  have h1 := ah.below hB
  have g1 := ag.below hB
  have cb := fun w0 k1 k2 => bsame_any h.q h.rs g.q g.rs w0 k1 k2
  have cc := fun w0 k1 k2 => scert_any h.vt g.vt h.sg g.sg w0 kh kg k1 k2
  unfold Hd.B
  obtain ⟨W, hW⟩ : ∃ W, Hid ((w.alloc (.cells h.cells.toArray 53)).alloc (.cells g.cells.toArray 53) = W) := ⟨_, hide rfl⟩
  rw [hW.out] at c0 c1 c0' c1' rc rc' hB hz h1 g1
  generalize h.cells = q at *
  generalize g.cells = q' at *
  generalize certL h.vt h.sg = u at *
  generalize certL g.vt g.sg = u' at *
  generalize batB h.q h.rs g.q g.rs = b1 at *
  generalize certB h.vt h.sg g.vt g.sg = b2 at *
  obtain ⟨hrq, hrs⟩ := h1
  obtain ⟨grq, grs⟩ := g1
  have B1 := cb W hrq grq
  obtain ⟨_, ⟨a, cap, rs⟩, _, sg⟩ := h
  obtain ⟨_, ⟨a', cap', rs'⟩, _, sg'⟩ := g
  simp only [Sl.val] at c1 c1' B1
  clear hA hA' kh kg ah ag cb hrq grq
  cases b1
  · go_enter Tryz.func76, Tryz.ntmps76
    go_upto_region 1 with fail
    go_name_world w1 hw1
    obtain rfl : W = w1 := hW.out.symm.trans hw1
    clear hw1 hW cc
    go_wp2_with fail
    refine B1.mono ?_
    rintro e2 w2 ⟨rfl, hb2⟩
    have hB2 := hB.trans (hb2.mono (by omega))
    clear B1 c0 c1 c0' c1' rc rc' hb2
    go_wp2
    go_ret
    exact ⟨rfl, hB2⟩
  · cases b2
    all_goals
      go_enter Tryz.func76, Tryz.ntmps76
      go_upto_region 1 with fail
      go_name_world w1 hw1
      obtain rfl : W = w1 := hW.out.symm.trans hw1
      clear hw1 hW
      go_wp2_with fail
      refine B1.mono ?_
      rintro e2 w2 ⟨rfl, hb2⟩
      have hB2 := hB.trans (hb2.mono (by omega))
      have C2 := cc w2 (hrs.below hb2) (grs.below hb2)
      have rc2 := range_below rc hb2 (by omega)
      have rc2' := range_below rc' hb2 (by omega)
      clear B1 c0 c1 c0' c1' rc rc' hb2 cc hrs grs
      go_wp2_with (first | (refine wpList_load_g (by rfl) 35 _ rfl _ _ rfl u _ rc2 Tryz.underlying35 rfl ic ?_) | (refine wpList_load_g (by rfl) 35 _ rfl _ _ rfl u' _ rc2' Tryz.underlying35 rfl ic' ?_))
      refine C2.mono ?_
      rintro e3 w3 ⟨rfl, hb3⟩
      have hB3 := hB2.trans (hb3.mono hB2.size)
      clear C2 rc2 rc2' hb3
      go_wp2
      go_ret
      exact ⟨rfl, hB3⟩
end Go.Proofs.YtgjalkbianpibaaGreat
namespace Go.Proofs.YtgjalkbianpibaaGreat
open Go.RowKit
open Sha Tal
set_option linter.unusedVariables false
set_option linter.unusedSimpArgs false
theorem owns_mono {w : World} {B B' : Nat} {e : TypeId} {v : Value} {n : Nat} {xs : List Value} (h : w.ownsRow B e 1 v n xs) (hB : B' ≤ B) : w.ownsRow B' e 1 v n xs := by
  refine ⟨h.1, ?_⟩
  rcases h.2 with h | ⟨g, cap, cur, hv, hg, r⟩
  · exact .inl h
  · exact .inr ⟨g, cap, cur, hv, Nat.le_trans hB hg, r⟩
def reqL (c n : Int) (s : ByteArray) (t : List Int) : List Value := .int .i64 c :: .int .i64 n :: .string s :: v8 t
theorem req_cells (w : World) (c n : Int) (s : ByteArray) (t : List Int) : (w.alloc (.cells (reqL c n s t).toArray 93)).rangeAt w.heap.size 0 (reqL c n s t) := by
  have := range_new w (reqL c n s t).toArray 93
  simpa using this
theorem reqL_0 {w : World} {b : Nat} {c n : Int} {s : ByteArray} {t : List Int} (h : w.rangeAt b 0 (reqL c n s t)) : w.cell? ⟨b, 0, none⟩ = some (.int .i64 c) ∧ w.cell? ⟨b, 1, none⟩ = some (.int .i64 n) ∧ w.cell? ⟨b, 2, none⟩ = some (.string s) :=
  ⟨h 0 _ rfl, h 1 _ rfl, h 2 _ rfl⟩
set_option maxRecDepth 100000 in
set_option maxHeartbeats 2000000 in
theorem fields_any (a : Option Addr) (cap : Nat) (zs : List Int) (c n : Int) (s : ByteArray) (t : List Int) (w : World) (h : RowAt w a zs) (hm : zs.length ≤ 1000000) (hc : c ≤ 9223372036854775807) (hn : n ≤ 9223372036854775807) (hs : s.size ≤ 1000000) :
   Calls Tryz.prog 139 #[.slice a zs.length cap, .agg (reqL c n s t).toArray] w fun e w' => ∃ v, e = .returned v ∧ Mine w' w.heap.size v (zs ++ putL c ++ putL n ++ textL s) ∧ Below w.heap.size w w' := by
  have hB1 : Below w.heap.size w (w.alloc (.cells (reqL c n s t).toArray 93)) := (Below.refl _ _).alloc (Nat.le_refl _) _
  have hR1 := req_cells w c n s t
  have hz1 : w.heap.size < (w.alloc (.cells (reqL c n s t).toArray 93)).heap.size := by simp
  have hlc := putL_length c (by omega)
  have hln := putL_length n (by omega)
  obtain ⟨q, hq⟩ : ∃ q, Hid (reqL c n s t = q) := ⟨_, rfl⟩
  rw [hq.out] at hB1 hz1 ⊢
  rw [hq.out] at hR1
  obtain ⟨z1, hz1'⟩ : ∃ z1, Hid (zs ++ putL c = z1) := ⟨_, rfl⟩
  obtain ⟨z2, hz2'⟩ : ∃ z2, Hid (z1 ++ putL n = z2) := ⟨_, rfl⟩
  have l1 : z1.length ≤ 1000009 := by rw [← hz1'.out, List.length_append]; omega
  have l2 : z2.length ≤ 1000018 := by rw [← hz2'.out, List.length_append]; omega
  rw [hz1'.out, hz2'.out]
  clear hlc hln
  go_enter Tryz.func139, Tryz.ntmps139
  go_wp2_with fail
  go_name_world w1 hw1
  rw [show w.alloc (.cells q.toArray 93) = w1 from hw1] at hB1 hR1 hz1
  clear hw1
  have hB4 := hB1.drew
  have hR4 : w1.drew.rangeAt w.heap.size 0 q := (World.rangeAt_drew _ _ _ _).2 hR1
  have hz4 : w.heap.size < w1.drew.heap.size := hz1
  have h4 := h.below hB4
  clear hB1 hR1 hz1
  obtain ⟨X, hX⟩ : ∃ X, Hid (w.heap.size = X) := ⟨_, rfl⟩
  rw [hX.out] at hR4 hz4 ⊢
  obtain ⟨w5, hw5⟩ : ∃ w5, w1.drew = w5 := ⟨_, rfl⟩
  rw [hw5] at hB4 hR4 hz4 h4
  have cells : ∀ w', Below w5.heap.size w5 w' → w'.cell? ⟨X, 0, none⟩ = some (.int .i64 c) ∧ w'.cell? ⟨X, 1, none⟩ = some (.int .i64 n) ∧ w'.cell? ⟨X, 2, none⟩ = some (.string s) := fun w' hw' => by
    have := range_below hR4 hw' hz4
    rw [← hq.out] at this
    exact reqL_0 this
  refine hs_begin (S := (Below w5.heap.size w5)) 11 rfl (by kernel_rfl) ?_
  rw [hw5]
  clear hw5 hR4
  have hS : (Below w5.heap.size w5) w5 := Below.refl _ _
  refine hs_take (i := 0) (d := some 5) (v := ?_) rfl (by kernel_rfl) (by kernel_rfl) (by kernel_rfl) (by rfl) ?_ hS rfl ?_
  rotate_left
  · intro w' hw
    go_simp
    try with_reducible rfl
  simp only [Act.put, List.setIfInBounds_toArray, List.set_cons_zero, List.set_cons_succ]
  refine hs_take (i := 1) (d := some 6) (v := ?_) rfl (by kernel_rfl) (by kernel_rfl) (by kernel_rfl) (by rfl) ?_ hS rfl ?_
  rotate_left
  · intro w' hw
    go_simp
    try with_reducible rfl
  simp only [Act.put, List.setIfInBounds_toArray, List.set_cons_zero, List.set_cons_succ]
  refine hs_take (i := 2) (d := some 7) (v := ?_) rfl (by kernel_rfl) (by kernel_rfl) (by kernel_rfl) (by rfl) ?_ hS rfl ?_
  rotate_left
  · intro w' hw
    have hc := (cells w' hw).1
    go_simp
    try with_reducible rfl
  simp only [Act.put, List.setIfInBounds_toArray, List.set_cons_zero, List.set_cons_succ]
  refine hs_take (i := 4) (d := some 9) (v := ?_) rfl (by kernel_rfl) (by kernel_rfl) (by kernel_rfl) (by rfl) ?_ hS rfl ?_
  rotate_left
  · intro w' hw
    go_simp
    try with_reducible rfl
  simp only [Act.put, List.setIfInBounds_toArray, List.set_cons_zero, List.set_cons_succ]
  refine hs_take (i := 5) (d := some 10) (v := ?_) rfl (by kernel_rfl) (by kernel_rfl) (by kernel_rfl) (by rfl) ?_ hS rfl ?_
  rotate_left
  · intro w' hw
    have hc := (cells w' hw).2.1
    go_simp
    try with_reducible rfl
  simp only [Act.put, List.setIfInBounds_toArray, List.set_cons_zero, List.set_cons_succ]
  refine hs_take (i := 7) (d := some 12) (v := ?_) rfl (by kernel_rfl) (by kernel_rfl) (by kernel_rfl) (by rfl) ?_ hS rfl ?_
  rotate_left
  · intro w' hw
    go_simp
    try with_reducible rfl
  simp only [Act.put, List.setIfInBounds_toArray, List.set_cons_zero, List.set_cons_succ]
  refine hs_take (i := 8) (d := some 13) (v := ?_) rfl (by kernel_rfl) (by kernel_rfl) (by kernel_rfl) (by rfl) ?_ hS rfl ?_
  rotate_left
  · intro w' hw
    have hc := (cells w' hw).2.2
    go_simp
    try with_reducible rfl
  simp only [Act.put, List.setIfInBounds_toArray, List.set_cons_zero, List.set_cons_succ]
  clear cells
  have c6 := put_any a cap zs c w5 h4 (by omega) hc
  rw [hz1'.out] at c6
  refine hs_call (i := 3) (d := some 8) rfl (by kernel_rfl) (by rfl) (by go_simp; first | done | exact ⟨rfl, rfl⟩ | with_reducible rfl) rfl ?_
  refine (c6).mono ?_
  rintro e' w6 ⟨v6, rfl, hM6, hw6⟩
  have hS : (Below w5.heap.size w5) w6 := hS.trans (hw6.mono hS.size)
  refine ⟨_, rfl, hS, ?_⟩
  simp only [Act.put, List.setIfInBounds_toArray, List.set_cons_zero, List.set_cons_succ]
  obtain ⟨a6, cap6, rfl, _, _, hrow6⟩ := hM6.rowAt (by unfold maxLen; omega)
  clear c6 hM6 hw6
  have c7 := put_any a6 cap6 z1 n w6 hrow6 (by omega) hn
  rw [hz2'.out] at c7
  refine hs_call (i := 6) (d := some 11) rfl (by kernel_rfl) (by rfl) (by go_simp; first | done | exact ⟨rfl, rfl⟩ | with_reducible rfl) rfl ?_
  refine (c7).mono ?_
  rintro e' w7 ⟨v7, rfl, hM7, hw7⟩
  have hS : (Below w5.heap.size w5) w7 := hS.trans (hw7.mono hS.size)
  refine ⟨_, rfl, hS, ?_⟩
  simp only [Act.put, List.setIfInBounds_toArray, List.set_cons_zero, List.set_cons_succ]
  obtain ⟨a7, cap7, rfl, _, _, hrow7⟩ := hM7.rowAt (by unfold maxLen; omega)
  have hs7 : w5.heap.size ≤ w7.heap.size := hS.size
  clear c7 hM7 hw7 hrow6
  have c8 := putText_any a7 cap7 z2 s w7 hrow7 (by omega) (by omega)
  refine hs_call (i := 9) (d := some 14) rfl (by kernel_rfl) (by rfl) (by go_simp; first | done | exact ⟨rfl, rfl⟩ | with_reducible rfl) rfl ?_
  refine (c8).mono ?_
  rintro e' w8 ⟨v8, rfl, hM8, hw8⟩
  have hS : (Below w5.heap.size w5) w8 := hS.trans (hw8.mono hS.size)
  refine ⟨_, rfl, hS, ?_⟩
  simp only [Act.put, List.setIfInBounds_toArray, List.set_cons_zero, List.set_cons_succ]
  have hfin := hB4.trans (hS.mono hB4.size)
  have hM9 : Mine w8 w.heap.size v8 (z2 ++ textL s) := ⟨owns_mono hM8.1 (by have := hB4.size; omega), hM8.2⟩
  clear c8 hM8 hw8 hrow7
  refine hs_take (i := 10) (d := some 4) (v := ?_) rfl (by kernel_rfl) (by kernel_rfl) (by kernel_rfl) (by rfl) ?_ hS rfl ?_
  rotate_left
  · intro w' hw
    go_simp
    try with_reducible rfl
  simp only [Act.put, List.setIfInBounds_toArray, List.set_cons_zero, List.set_cons_succ]
  refine hs_done (by kernel_rfl) ?_
  go_wp2
  go_ret
  exact ⟨_, rfl, hM9, hfin⟩
theorem reqL_length (c n : Int) (s : ByteArray) (t : List Int) (ht : t.length = 16) : (reqL c n s t).length = 19 := by simp [reqL, v8_length, ht]
theorem iszR : (Tryz.prog.info? 93).map (·.size) = some 19 := by kernel_rfl
theorem reqL_one (c n : Int) (s : ByteArray) (t : List Int) : ∀ v ∈ reqL c n s t, v.oneCell' = true := by
  intro v hv
  simp only [reqL, List.mem_cons] at hv
  rcases hv with rfl | rfl | rfl | hv
  · rfl
  · rfl
  · rfl
  · exact v8_one t v hv
theorem reqL_tag {w : World} {b : Nat} {c n : Int} {s : ByteArray} {t : List Int} (h : w.rangeAt b 0 (reqL c n s t)) : w.rangeAt b 3 (v8 t) := by
  have e : reqL c n s t = [.int .i64 c, .int .i64 n, .string s] ++ v8 t := rfl
  rw [e] at h
  exact range_right h
set_option maxRecDepth 100000 in
set_option maxHeartbeats 2000000 in
theorem rput_any (a : Option Addr) (cap : Nat) (zs : List Int) (c n : Int) (s : ByteArray) (t : List Int) (w : World) (h : RowAt w a zs) (hz : zs.length ≤ 1000000) (ht : t.length = 16) (htb : ∀ z ∈ t, 0 ≤ z ∧ z < 256) (hc : c ≤ 9223372036854775807) (hn : n ≤ 9223372036854775807) (hs : s.size ≤ 1000000) :
   Calls Tryz.prog 138 #[.slice a zs.length cap, .agg (reqL c n s t).toArray] w fun e w' => ∃ v, e = .returned v ∧ Mine w' w.heap.size v (zs ++ (putL c ++ putL n ++ textL s) ++ t) ∧ Below w.heap.size w w' := by
  obtain ⟨i0, hi, hz0, hz1, hz2⟩ := info_parts info8
  have hB1 : Below w.heap.size w (w.alloc (.cells (reqL c n s t).toArray 93)) := (Below.refl _ _).alloc (Nat.le_refl _) _
  have hR1 := req_cells w c n s t
  have hz1' : w.heap.size < (w.alloc (.cells (reqL c n s t).toArray 93)).heap.size := by simp
  have hiq : (Tryz.prog.info? 93).map (·.size) = some (reqL c n s t).length := by rw [reqL_length c n s t ht]; exact iszR
  have cf := fun w0 => fields_any none 0 [] c n s t w0 (nil_row w0) (by simp) hc hn hs
  simp only [List.nil_append, List.length_nil] at cf
  have htg := fun (w0 : World) (b0 : Nat) h1 => @reqL_tag w0 b0 c n s t h1
  have lF : (putL c ++ putL n ++ textL s).length ≤ 1000100 := by
    have h1 := putL_length c (by omega)
    have h2 := putL_length n (by omega)
    have h3 := putL_length s.size (by omega)
    simp only [textL, List.length_append, strL_length]
    omega
  obtain ⟨F, hF⟩ : ∃ F, Hid (putL c ++ putL n ++ textL s = F) := ⟨_, hide rfl⟩
  simp only [hF.out] at cf
  rw [hF.out] at lF ⊢
  obtain ⟨q, hq⟩ : ∃ q, Hid (reqL c n s t = q) := ⟨_, hide rfl⟩
  rw [hq.out] at hB1 hR1 hz1' hiq ⊢
  simp only [hq.out] at cf htg
  go_enter Tryz.func138, Tryz.ntmps138
  go_upto_region 1 with fail
  go_name_world w1 hw1
  rw [hw1] at hB1 hR1 hz1'
  clear hw1
  obtain ⟨X, hX⟩ : ∃ X, Hid (w.heap.size = X) := ⟨_, hide rfl⟩
  rw [hX.out] at hR1 hz1' ⊢
  try simp only [Act.put]
  refine wp_region_list ?_
  refine wpList_load_mid rfl 93 _ rfl _ _ rfl q _ hR1 Tryz.underlying93 rfl hiq ?_
  go_wp2_with fail
  refine (cf w1).mono ?_
  rintro e w2 ⟨v2, rfl, m2, hw2⟩
  have hB2 := hB1.trans (hw2.mono hB1.size)
  have hR2 := range_below hR1 hw2 hz1'
  have hX2 := Nat.lt_of_lt_of_le hz1' hw2.size
  obtain ⟨a2, cap2, rfl, _, _, row2⟩ := m2.rowAt (by unfold maxLen; omega)
  have mF := m2.2
  clear cf m2 hw2 hB1 hR1 hz1'
  go_wp2_with (first
    | refine wpList_make_own _ rfl _ _ 59 rfl w2.heap.size 5 i0 (.int .u8 0) 1 Tryz.underlying59 hi hz0 hz1 .i64 .i64 _ (zs.length + F.length + 16) rfl rfl ?d1 ?d2 ?d3 ?d4 ?_)
  case d1 => omega
  case d2 => rw [hz2]; omega
  case d3 => unfold maxLen; omega
  case d4 => exact Nat.le_refl _
  intro w3 hown3 hgrow3
  have hb3 : Below w2.heap.size w2 w3 := (Below.refl _ _).grown hgrow3 (Nat.le_refl _) (fun k hk => by cases hk)
  go_wp2_with (at_builtin; refine wpList_append_own_src _ rfl _ _ 59 59 rfl w2.heap.size 5 i0 (.int .u8 0) 1 1 Tryz.underlying59 hi hz0 hz1 hz2 rfl _ 0 [] rfl hown3 (.slice a zs.length cap) zs.length (v8 zs) rfl ((h.below (hB2.trans (hb3.mono hB2.size))).src cap) ?c1 ?c2 ?c3 ?_)
  case c1 => unfold maxLen; omega
  case c2 => omega
  case c3 => exact hb3.size
  intro v4 w4 hown4 hgrow4
  have hb4 := below_grown hb3 hb3.size hown3 hgrow4
  have hown4' : w4.ownsRow w2.heap.size 5 1 v4 zs.length (v8 zs) := by simpa using hown4
  obtain ⟨b4, cp4, rfl⟩ : ∃ b cp, v4 = .slice b zs.length cp := by
    rcases hown4'.2 with ⟨rfl, h0⟩ | ⟨g, cp, cur, rfl, _⟩
    · exact ⟨none, 0, by rw [h0]⟩
    · exact ⟨_, _, rfl⟩
  clear hown3 hgrow3 hown4 hgrow4 hb3
  go_wp2_with (at_builtin; refine wpList_append_own_src _ rfl _ _ 59 59 rfl w2.heap.size 5 i0 (.int .u8 0) 1 1 Tryz.underlying59 hi hz0 hz1 hz2 rfl _ zs.length (v8 zs) rfl hown4' (.slice a2 F.length cap2) F.length (v8 F) rfl ((row2.below hb4).src cap2) ?c1 ?c2 ?c3 ?_)
  case c1 => unfold maxLen; omega
  case c2 => omega
  case c3 => exact hb4.size
  intro v5 w5 hown5 hgrow5
  have hb5 := below_grown hb4 hb4.size hown4' hgrow5
  obtain ⟨b5, cp5, rfl⟩ : ∃ b cp, v5 = .slice b (zs.length + F.length) cp := by
    rcases hown5.2 with ⟨rfl, h0⟩ | ⟨g, cp, cur, rfl, _⟩
    · exact ⟨none, 0, by rw [h0]⟩
    · exact ⟨_, _, rfl⟩
  have hR5 := htg w5 X (range_below hR2 hb5 hX2)
  have hX5 := Nat.lt_of_lt_of_le hX2 hb5.size
  have rowT : RowAt w5 (some ⟨X, 3, none⟩) t := ⟨by unfold maxLen; omega, htb, Or.inr ⟨X, 3, rfl, hX5, hR5⟩⟩
  have srcT := rowT.src 16
  rw [ht] at srcT
  have hsl := fun w0 => slice_all (P := Tryz.prog) Tryz.underlying55 isz8 X 3 (by decide) w0
  clear hown4' hgrow5 hb4 row2 hR2
  go_wp2_with (at_builtin; refine wpList_append_own_src _ rfl _ _ 59 59 rfl w2.heap.size 5 i0 (.int .u8 0) 1 1 Tryz.underlying59 hi hz0 hz1 hz2 rfl _ (zs.length + F.length) (v8 zs ++ v8 F) rfl hown5 (.slice (some ⟨X, 3, none⟩) 16 16) 16 (v8 t) rfl srcT ?c1 ?c2 ?c3 ?_)
  case c1 => unfold maxLen; omega
  case c2 => omega
  case c3 => exact hb5.size
  intro v6 w6 hown6 hgrow6
  have hb6 := below_grown hb5 hb5.size hown5 hgrow6
  go_wp2_with fail
  go_ret
  refine ⟨_, rfl, ?_, hB2.trans (hb6.mono hB2.size)⟩
  have hm := Mine.mk' (zs ++ F ++ t) hown6 (by simp [ht]; omega) (by simp [v8]) (by
    intro z hz'
    rcases List.mem_append.1 hz' with hz' | hz'
    · rcases List.mem_append.1 hz' with hz' | hz'
      · exact h.2.1 z hz'
      · exact mF z hz'
    · exact htb z hz')
  exact hm.mono' hB2.size
set_option maxRecDepth 100000 in
set_option maxHeartbeats 2000000 in
theorem refRPut_any (a : Option Addr) (cap : Nat) (zs : List Int) (c n : Int) (s : ByteArray) (t : List Int) (w : World) (h : RowAt w a zs) (hz : zs.length ≤ 1000000) (ht : t.length = 16) (htb : ∀ z ∈ t, 0 ≤ z ∧ z < 256) (hc : c ≤ 9223372036854775807) (hn : n ≤ 9223372036854775807) (hs : s.size ≤ 100000) :
   Calls Tryz.prog 107 #[.slice a zs.length cap, .agg (reqL c n s t).toArray] w fun e w' => ∃ v, e = .returned v ∧ Mine w' w.heap.size v (zs ++ (putL c ++ putL n ++ textL s) ++ t) ∧ Below w.heap.size w w' := by
  obtain ⟨i0, hi, hz0, hz1, hz2⟩ := info_parts info8
  have hB1 : Below w.heap.size w (w.alloc (.cells (reqL c n s t).toArray 93)) := (Below.refl _ _).alloc (Nat.le_refl _) _
  have hR1 := req_cells w c n s t
  have hz1' : w.heap.size < (w.alloc (.cells (reqL c n s t).toArray 93)).heap.size := by simp
  have hq0 := fun (w0 : World) (b0 : Nat) h0 => @reqL_0 w0 b0 c n s t h0
  have htg := fun (w0 : World) (b0 : Nat) h1 => @reqL_tag w0 b0 c n s t h1
  have l1 := putL_length c (by omega)
  have l2 := putL_length n (by omega)
  have l3 := putL_length s.size (by omega)
  have c1 := fun w0 h0 => refPut_any a cap zs c w0 h0 (by omega) hc
  have c2 := fun a0 cap0 w0 h0 => refPut_any a0 cap0 (zs ++ putL c) n w0 h0 (by rw [List.length_append]; omega) hn
  have c3 := fun a0 cap0 w0 h0 => refPutText_any a0 cap0 (zs ++ putL c ++ putL n) s w0 h0 (by rw [List.length_append, List.length_append]; omega) (by omega)
  have e1 : (zs ++ putL c).length ≤ 1000100 := by rw [List.length_append]; omega
  have e2 : (zs ++ putL c ++ putL n).length ≤ 1000200 := by rw [List.length_append, List.length_append]; omega
  have e3 : (zs ++ putL c ++ putL n ++ textL s).length ≤ 2000000 := by simp only [textL, List.length_append, strL_length]; omega
  obtain ⟨L1, hL1⟩ : ∃ L1, Hid (zs ++ putL c = L1) := ⟨_, hide rfl⟩
  simp only [hL1.out] at c1 c2 c3
  rw [hL1.out] at e1 e2 e3
  obtain ⟨L2, hL2⟩ : ∃ L2, Hid (L1 ++ putL n = L2) := ⟨_, hide rfl⟩
  simp only [hL2.out] at c2 c3
  rw [hL2.out] at e2 e3
  obtain ⟨L3, hL3⟩ : ∃ L3, Hid (L2 ++ textL s = L3) := ⟨_, hide rfl⟩
  simp only [hL3.out] at c3
  rw [hL3.out] at e3
  clear l1 l2 l3
  obtain ⟨q, hq⟩ : ∃ q, Hid (reqL c n s t = q) := ⟨_, hide rfl⟩
  rw [hq.out] at hB1 hR1 hz1' ⊢
  simp only [hq.out] at hq0 htg
  go_enter Tryz.func107, Tryz.ntmps107
  go_upto_region 1 with fail
  go_name_world w1 hw1
  rw [hw1] at hB1 hR1 hz1'
  clear hw1
  obtain ⟨X, hX⟩ : ∃ X, Hid (w.heap.size = X) := ⟨_, hide rfl⟩
  rw [hX.out] at hR1 hz1' ⊢
  have hB4 := hB1.drew
  have hR4 : w1.drew.rangeAt X 0 q := (World.rangeAt_drew _ _ _ _).2 hR1
  have hX4 : X < w1.drew.heap.size := hz1'
  clear hB1 hR1 hz1'
  try simp only [Act.put]
  obtain ⟨w5, hw5⟩ : ∃ w5, w1.drew = w5 := ⟨_, rfl⟩
  rw [hw5] at hB4 hR4 hX4
  refine hs_begin (S := (Below w5.heap.size w5)) 11 rfl (by kernel_rfl) ?_
  rw [hw5]
  clear hw5
  have hS : (Below w5.heap.size w5) w5 := Below.refl _ _
  have qc : ∀ w', Below w5.heap.size w5 w' → w'.cell? ⟨X, 0, none⟩ = some (.int .i64 c) := fun w' hw' => (hq0 w' X (range_below hR4 hw' hX4)).1
  have qn : ∀ w', Below w5.heap.size w5 w' → w'.cell? ⟨X, 1, none⟩ = some (.int .i64 n) := fun w' hw' => (hq0 w' X (range_below hR4 hw' hX4)).2.1
  have qs : ∀ w', Below w5.heap.size w5 w' → w'.cell? ⟨X, 2, none⟩ = some (.string s) := fun w' hw' => (hq0 w' X (range_below hR4 hw' hX4)).2.2
  refine hs_take (i := 0) (d := some 6) (v := ?_) rfl (by kernel_rfl) (by kernel_rfl) (by kernel_rfl) (by rfl) ?_ hS rfl ?_
  rotate_left
  · intro w' hw
    go_simp
    try with_reducible rfl
  simp only [Act.put, List.setIfInBounds_toArray, List.set_cons_zero, List.set_cons_succ]
  refine hs_take (i := 1) (d := some 7) (v := ?_) rfl (by kernel_rfl) (by kernel_rfl) (by kernel_rfl) (by rfl) ?_ hS rfl ?_
  rotate_left
  · intro w' hw
    go_simp
    try with_reducible rfl
  simp only [Act.put, List.setIfInBounds_toArray, List.set_cons_zero, List.set_cons_succ]
  refine hs_take (i := 2) (d := some 8) (v := ?_) rfl (by kernel_rfl) (by kernel_rfl) (by kernel_rfl) (by rfl) ?_ hS rfl ?_
  rotate_left
  · intro w' hw
    have h := qc w' hw
    go_simp
    try with_reducible rfl
  simp only [Act.put, List.setIfInBounds_toArray, List.set_cons_zero, List.set_cons_succ]
  refine hs_take (i := 4) (d := some 10) (v := ?_) rfl (by kernel_rfl) (by kernel_rfl) (by kernel_rfl) (by rfl) ?_ hS rfl ?_
  rotate_left
  · intro w' hw
    go_simp
    try with_reducible rfl
  simp only [Act.put, List.setIfInBounds_toArray, List.set_cons_zero, List.set_cons_succ]
  refine hs_take (i := 5) (d := some 11) (v := ?_) rfl (by kernel_rfl) (by kernel_rfl) (by kernel_rfl) (by rfl) ?_ hS rfl ?_
  rotate_left
  · intro w' hw
    have h := qn w' hw
    go_simp
    try with_reducible rfl
  simp only [Act.put, List.setIfInBounds_toArray, List.set_cons_zero, List.set_cons_succ]
  refine hs_take (i := 7) (d := some 13) (v := ?_) rfl (by kernel_rfl) (by kernel_rfl) (by kernel_rfl) (by rfl) ?_ hS rfl ?_
  rotate_left
  · intro w' hw
    go_simp
    try with_reducible rfl
  simp only [Act.put, List.setIfInBounds_toArray, List.set_cons_zero, List.set_cons_succ]
  refine hs_take (i := 8) (d := some 14) (v := ?_) rfl (by kernel_rfl) (by kernel_rfl) (by kernel_rfl) (by rfl) ?_ hS rfl ?_
  rotate_left
  · intro w' hw
    have h := qs w' hw
    go_simp
    try with_reducible rfl
  simp only [Act.put, List.setIfInBounds_toArray, List.set_cons_zero, List.set_cons_succ]
  refine hs_call (i := 3) (d := some 9) rfl (by kernel_rfl) (by rfl) (by go_simp; first | done | exact ⟨rfl, rfl⟩ | with_reducible rfl) rfl ?_
  refine (c1 w5 (h.below hB4)).mono ?_
  rintro e' w6 ⟨v1, rfl, m1, hw6⟩
  have hS : (Below w5.heap.size w5) w6 := hS.trans (hw6.mono hS.size)
  refine ⟨_, rfl, hS, ?_⟩
  simp only [Act.put, List.setIfInBounds_toArray, List.set_cons_zero, List.set_cons_succ]
  obtain ⟨a1, cap1, rfl, _, _, row1⟩ := m1.rowAt (by unfold maxLen; omega)
  clear m1 c1
  refine hs_call (i := 6) (d := some 12) rfl (by kernel_rfl) (by rfl) (by go_simp; first | done | exact ⟨rfl, rfl⟩ | with_reducible rfl) rfl ?_
  refine (c2 a1 cap1 w6 row1).mono ?_
  rintro e' w7 ⟨v2, rfl, m2, hw7⟩
  have hS : (Below w5.heap.size w5) w7 := hS.trans (hw7.mono hS.size)
  refine ⟨_, rfl, hS, ?_⟩
  simp only [Act.put, List.setIfInBounds_toArray, List.set_cons_zero, List.set_cons_succ]
  obtain ⟨a2, cap2, rfl, _, _, row2⟩ := m2.rowAt (by unfold maxLen; omega)
  clear m2 c2 row1
  refine hs_call (i := 9) (d := some 15) rfl (by kernel_rfl) (by rfl) (by go_simp; first | done | exact ⟨rfl, rfl⟩ | with_reducible rfl) rfl ?_
  refine (c3 a2 cap2 w7 row2).mono ?_
  rintro e' w8 ⟨v3, rfl, m3, hw8⟩
  have hS : (Below w5.heap.size w5) w8 := hS.trans (hw8.mono hS.size)
  refine ⟨_, rfl, hS, ?_⟩
  simp only [Act.put, List.setIfInBounds_toArray, List.set_cons_zero, List.set_cons_succ]
  have hB8 := hB4.trans (hS.mono hB4.size)
  have hm8 := m3.mono' (B' := X + 1) (by have := hw6.size; have := hw7.size; omega)
  have hR8 := htg w8 X (range_below hR4 hS hX4)
  have hX8 := Nat.lt_of_lt_of_le hX4 hS.size
  clear c3 row2 m3 hw7 hw8
  refine hs_take (i := 10) (d := some 0) (v := ?_) rfl (by kernel_rfl) (by kernel_rfl) (by kernel_rfl) (by rfl) ?_ hS rfl ?_
  rotate_left
  · intro w' hw
    go_simp
    try with_reducible rfl
  simp only [Act.put, List.setIfInBounds_toArray, List.set_cons_zero]
  refine hs_done (by kernel_rfl) ?_
  clear hS qc qn qs hq0 hR4 hX4 hB4 hw6
  have eL : Hid (L3 = zs ++ (putL c ++ putL n ++ textL s)) := by show _ = _; rw [← hL3.out, ← hL2.out, ← hL1.out]; simp
  have hwX : w.heap.size ≤ X := by rw [hX.out]; exact Nat.le_refl _
  obtain ⟨a3, cap3, rfl⟩ : ∃ a cp, v3 = .slice a L3.length cp := by
    rcases hm8.1.2 with ⟨rfl, h0⟩ | ⟨g, cp, cur, rfl, _⟩
    · exact ⟨none, 0, by rw [h0]⟩
    · exact ⟨_, _, rfl⟩
  go_wp2_with fail
  go_loopw [0, 5] (fun v kv wr => ∃ k : Nat, k ≤ 16 ∧ kv = .int .i64 (k : Int) ∧ Mine wr (X + 1) v (L3 ++ t.take k) ∧ Below (X + 1) w8 wr) (fun _ kv _ => 16 - (intOf kv).toNat)
  case atStart => exact ⟨0, by omega, rfl, by simpa using hm8, Below.refl _ _⟩
  case round =>
    clear hm8
    obtain ⟨k, hk, rfl, hm, hB⟩ := hrel
    have lk : (L3 ++ t.take k).length ≤ 2000100 := by rw [List.length_append, List.length_take]; omega
    by_cases hlt : k < 16
    · have hkt : k < t.length := by omega
      have hR := range_below hR8 hB (by omega)
      have hcx := get8 hR hkt
      have hbx := htb _ (List.getElem_mem hkt)
      have hnx : Hid (L3 ++ t.take (k + 1) = (L3 ++ t.take k) ++ [t[k]]) := by show _ = _; rw [List.take_succ_eq_append_getElem hkt, List.append_assoc]
      have egd : t.getD k 0 = t[k] := by rw [List.getD_eq_getElem?_getD, List.getElem?_eq_getElem hkt]; rfl
      rw [egd] at hcx
      clear egd
      generalize t[k] = x at *
      obtain ⟨M, hM⟩ : ∃ M, Hid (L3 ++ t.take k = M) := ⟨_, hide rfl⟩
      rw [hM.out] at hm hnx lk
      obtain ⟨am, cm, rfl⟩ : ∃ a cp, u0 = .slice a M.length cp := by
        rcases hm.1.2 with ⟨rfl, h0⟩ | ⟨g, cp, cur, rfl, _⟩
        · exact ⟨none, 0, by rw [h0]⟩
        · exact ⟨_, _, rfl⟩
      have hsz := hB.size
      have hsrc : Src Tryz.prog 1 59 (.slice (some ⟨wr.heap.size, 0, none⟩) 1 1) 1 [.int .u8 x] (wr.alloc (.cells #[.int .u8 x] 5)) := Src.ofSlice _ Tryz.underlying59 ⟨wr.heap.size, 0, none⟩ 1 1 [.int .u8 x] (by simp) (fun j u hu => by rw [Addr.add_mid]; exact range_new wr #[.int .u8 x] 5 j u hu) (fun u hu => by obtain rfl := List.mem_singleton.1 hu; rfl)
      have hown := owns_below hm.1 ((Below.refl wr.heap.size wr).alloc (Nat.le_refl _) (.cells #[.int .u8 x] 5))
      go_wp2_with (at_builtin; refine wpList_append_own_src _ rfl _ _ 59 59 rfl (X + 1) 5 i0 (.int .u8 0) 1 1 Tryz.underlying59 hi hz0 hz1 hz2 rfl _ M.length _ rfl hown _ 1 _ rfl hsrc ?c1 ?c2 ?c3 ?_)
      case c1 => unfold maxLen; omega
      case c2 => omega
      case c3 => simp; omega
      intro v6 w6 hown6 hgr6
      have hB6 : Below (X + 1) w8 w6 := below_grown (hB.alloc (by omega) _) (by simp; omega) hown hgr6
      have hm6 := Mine.mk' (M ++ [x]) hown6 (by simp) (by simp) (by
        intro z hz'
        rcases List.mem_append.1 hz' with hz' | hz'
        · exact hm.2 z hz'
        · obtain rfl := List.mem_singleton.1 hz'; exact hbx)
      obtain ⟨a6, c6, rfl⟩ : ∃ a cp, v6 = .slice a (M ++ [x]).length cp := by
        rcases hm6.1.2 with ⟨rfl, h0⟩ | ⟨g, cp, cur, rfl, _⟩
        · exact ⟨none, 0, by rw [h0]⟩
        · exact ⟨_, _, rfl⟩
      go_wp2_with fail
      go_roundw
      case rel => exact ⟨k + 1, by omega, by go_num, by rw [hnx.out]; exact hm6, hB6⟩
      case measure => simp [intOf]; omega
    · obtain rfl : k = 16 := by omega
      have hfin : Hid (L3 ++ t.take 16 = zs ++ (putL c ++ putL n ++ textL s) ++ t) := by show _ = _; rw [List.take_of_length_le (by omega), eL.out]
      rw [hfin.out] at hm
      have hmf := hm.mono' (B' := w.heap.size) (by omega)
      go_wp2_with fail
      go_ret
      exact ⟨_, rfl, hmf, hB8.trans (hB.mono (by omega))⟩
structure BRq where
  c : Int
  n : Int
  s : ByteArray
  t : List Int
deriving Inhabited
structure BRq.ok (r : BRq) : Prop where
  tl : r.t.length = 16
  tb : ∀ z ∈ r.t, 0 ≤ z ∧ z < 256
  sl : r.s.size ≤ maxLen
  cl : -9223372036854775808 ≤ r.c
  ch : r.c ≤ 9223372036854775807
  nl : -9223372036854775808 ≤ r.n
  nh : r.n ≤ 9223372036854775807
def BRq.cells (r : BRq) : List Value := reqL r.c r.n r.s r.t
theorem BRq.ok.length {r : BRq} (h : r.ok) : r.cells.length = 19 := by
  have := h.tl
  simp [BRq.cells, reqL, v8]
  omega
theorem BRq.one (r : BRq) : ∀ v ∈ r.cells, v.oneCell' = true := reqL_one _ _ _ _
def flatR (rs : List BRq) : List Value := rs.flatMap BRq.cells
theorem flatR_length {rs : List BRq} (h : ∀ r ∈ rs, r.ok) : (flatR rs).length = rs.length * 19 := by
  induction rs with
  | nil => rfl
  | cons r rs ih =>
    have h1 := (h r (by simp)).length
    have h2 := ih (fun x hx => h x (by simp [hx]))
    simp only [flatR, List.flatMap_cons, List.length_append, List.length_cons] at *
    omega
theorem flatR_append (a b : List BRq) : flatR (a ++ b) = flatR a ++ flatR b := by simp [flatR]
theorem flatR_one (rs : List BRq) : ∀ v ∈ flatR rs, v.oneCell' = true := fun v hv => by
  obtain ⟨r, _, h⟩ := List.mem_flatMap.1 hv
  exact r.one v h
/-- a slice of requests -/
def ReqsAt (w : World) (a : Option Addr) (rs : List BRq) : Prop :=
  rs.length ≤ maxLen ∧ (∀ r ∈ rs, r.ok) ∧ (rs = [] ∨ ∃ b off, a = some ⟨b, off, none⟩ ∧ b < w.heap.size ∧ w.rangeAt b off (flatR rs))
theorem ReqsAt.below {w w' : World} {a : Option Addr} {rs : List BRq} (h : ReqsAt w a rs) (hb : Below w.heap.size w w') : ReqsAt w' a rs := by
  refine ⟨h.1, h.2.1, ?_⟩
  rcases h.2.2 with h | ⟨b, off, rfl, h1, h2⟩
  · exact Or.inl h
  · exact Or.inr ⟨b, off, rfl, Nat.lt_of_lt_of_le h1 hb.size, range_below h2 hb h1⟩
theorem flatR_split (rs : List BRq) (i : Nat) (hi : i < rs.length) : flatR rs = flatR (rs.take i) ++ rs[i].cells ++ flatR (rs.drop (i + 1)) := by
  have e : rs.take i ++ (rs[i] :: rs.drop (i + 1)) = rs := by rw [← List.drop_eq_getElem_cons hi, List.take_append_drop]
  have e2 := congrArg flatR e
  rw [← e2]
  simp only [flatR, List.flatMap_append, List.flatMap_cons, List.append_assoc]
theorem ReqsAt.elem {w : World} {a : Option Addr} {rs : List BRq} (h : ReqsAt w a rs) (i : Nat) (hi : i < rs.length) : ∃ b off, a = some ⟨b, off, none⟩ ∧ b < w.heap.size ∧ w.rangeAt b (off + i * 19) rs[i].cells := by
  rcases h.2.2 with h0 | ⟨b, off, rfl, h1, h2⟩
  · subst h0; simp at hi
  · refine ⟨b, off, rfl, h1, ?_⟩
    rw [flatR_split rs i hi] at h2
    have h3 := range_part h2
    rwa [flatR_length (fun r hr => h.2.1 r (List.mem_of_mem_take hr)), List.length_take, Nat.min_eq_left (by omega)] at h3
theorem ReqsAt.none {w : World} {a : Option Addr} : ReqsAt w a [] := ⟨by simp, by simp, .inl rfl⟩
def batV (b : Bool) (a : Option Addr) (n cap : Nat) : Value := .agg #[.bool b, .slice a n cap]
def BRq.bytes (r : BRq) : List Int := putL r.c ++ putL r.n ++ textL r.s ++ r.t
def batL (q : Bool) (rs : List BRq) : List Int := if q then putL 0 else putL ((rs.length : Int) + 1) ++ rs.flatMap BRq.bytes
theorem BRq.ok.isz {r : BRq} (h : r.ok) : (Tryz.prog.info? 93).map (·.size) = some r.cells.length := by rw [h.length]; exact iszR
theorem BRq.ok.iszA {r : BRq} (h : r.ok) : (Tryz.prog.info? 93).map (·.size) = some r.cells.toArray.size := by rw [List.size_toArray, h.length]; exact iszR
theorem BRq.ok.blank {r : BRq} (h : r.ok) (w : World) : (w.alloc (.cells #[.int .i64 0, .int .i64 0, .string ⟨#[]⟩, .int .u8 0, .int .u8 0, .int .u8 0, .int .u8 0, .int .u8 0, .int .u8 0, .int .u8 0, .int .u8 0, .int .u8 0, .int .u8 0, .int .u8 0, .int .u8 0, .int .u8 0, .int .u8 0, .int .u8 0, .int .u8 0] 93)).there w.heap.size 0 r.cells.toArray.size := by
  have := there_new w #[.int .i64 0, .int .i64 0, .string ⟨#[]⟩, .int .u8 0, .int .u8 0, .int .u8 0, .int .u8 0, .int .u8 0, .int .u8 0, .int .u8 0, .int .u8 0, .int .u8 0, .int .u8 0, .int .u8 0, .int .u8 0, .int .u8 0, .int .u8 0, .int .u8 0, .int .u8 0] 93
  have e : r.cells.toArray.size = 19 := by rw [List.size_toArray, h.length]
  rw [e]; exact this
def BatBox (w : World) (b : Nat) (q : Bool) (a : Option Addr) (n cap : Nat) : Prop := b < w.heap.size ∧ w.cell? ⟨b, 0, none⟩ = some (.bool q) ∧ w.cell? ⟨b, 1, none⟩ = some (.slice a n cap) ∧ w.rangeAt b 0 [.bool q, .slice a n cap]
theorem BatBox.below {w w' : World} {b : Nat} {q : Bool} {a : Option Addr} {n cap : Nat} (h : BatBox w b q a n cap) (hb : Below w.heap.size w w') : BatBox w' b q a n cap :=
  ⟨Nat.lt_of_lt_of_le h.1 hb.size, (hb.cell (p := ⟨b, 0, none⟩) h.1).trans h.2.1, (hb.cell (p := ⟨b, 1, none⟩) h.1).trans h.2.2.1, range_below h.2.2.2 hb h.1⟩
theorem BatBox.mk (w : World) (q : Bool) (a : Option Addr) (n cap : Nat) : BatBox (w.alloc (.cells #[.bool q, .slice a n cap] 24)) w.heap.size q a n cap := by
  have := range_new w #[.bool q, .slice a n cap] 24
  exact ⟨by simp, this 0 _ rfl, this 1 _ rfl, this⟩
theorem iszB : (Tryz.prog.info? 24).map (·.size) = some 2 := by kernel_rfl
def batP (rs : List BRq) (k : Nat) : List Int := putL ((rs.length : Int) + 1) ++ (rs.take k).flatMap BRq.bytes
theorem batP_succ (rs : List BRq) (k : Nat) (hk : k < rs.length) : batP rs (k + 1) = batP rs k ++ rs[k].bytes := by
  unfold batP
  rw [List.take_succ_eq_append_getElem hk]
  simp only [List.flatMap_append, List.flatMap_cons, List.flatMap_nil, List.append_nil, List.append_assoc]
theorem batP_all (rs : List BRq) : batP rs rs.length = batL false rs := by unfold batP batL; simp
theorem putL_le (n : Int) (h : n ≤ 9223372036854775807) : (putL n).length ≤ 9 := by
  have := putL_length n (by omega)
  omega
theorem bytes_le {r : BRq} (h : r.ok) (hs : r.s.size ≤ 4000) : r.bytes.length ≤ 4100 := by
  have h1 := putL_le r.c h.ch
  have h2 := putL_le r.n h.nh
  have h3 := putL_le (r.s.size : Int) (by omega)
  have h4 := h.tl
  simp only [BRq.bytes, textL, List.length_append, strL_length]
  omega
theorem flat_le : ∀ (rs : List BRq), (∀ r ∈ rs, r.ok) → (∀ r ∈ rs, r.s.size ≤ 4000) → (rs.flatMap BRq.bytes).length ≤ rs.length * 4100
  | [], _, _ => by simp
  | r :: rs, h1, h2 => by
    have k1 := bytes_le (h1 r (by simp)) (h2 r (by simp))
    have k2 := flat_le rs (fun x hx => h1 x (by simp [hx])) (fun x hx => h2 x (by simp [hx]))
    simp only [List.flatMap_cons, List.length_append, List.length_cons]
    omega
theorem batP_le (rs : List BRq) (k : Nat) (hn : rs.length ≤ 200) (h1 : ∀ r ∈ rs, r.ok) (h2 : ∀ r ∈ rs, r.s.size ≤ 4000) : (batP rs k).length ≤ 900000 := by
  have k1 := putL_le ((rs.length : Int) + 1) (by omega)
  have k2 := flat_le (rs.take k) (fun x hx => h1 x (List.mem_of_mem_take hx)) (fun x hx => h2 x (List.mem_of_mem_take hx))
  have k3 : (rs.take k).length ≤ 200 := by rw [List.length_take]; omega
  have k4 : (rs.take k).length * 4100 ≤ 200 * 4100 := Nat.mul_le_mul_right _ k3
  simp only [batP, List.length_append]
  omega
theorem batL_le (q : Bool) (rs : List BRq) (hn : rs.length ≤ 200) (h1 : ∀ r ∈ rs, r.ok) (h2 : ∀ r ∈ rs, r.s.size ≤ 4000) : (batL q rs).length ≤ 900000 := by
  cases q with
  | false => rw [← batP_all]; exact batP_le rs _ hn h1 h2
  | true => have := putL_le 0 (by omega); simp only [batL, if_true]; omega
theorem BRq.ok.put {r : BRq} (h : r.ok) (hs : r.s.size ≤ 4000) (w : World) : Calls Tryz.prog 138 #[.slice none 0 0, .agg r.cells.toArray] w fun e w' => ∃ v, e = .returned v ∧ Mine w' w.heap.size v r.bytes ∧ Below w.heap.size w w' := by
  have := rput_any none 0 [] r.c r.n r.s r.t w (nil_row w) (by simp) h.tl h.tb h.ch h.nh (by omega)
  simpa only [List.nil_append, List.length_nil, BRq.bytes, BRq.cells] using this
theorem BRq.ok.refPut {r : BRq} (h : r.ok) (hs : r.s.size ≤ 4000) (a : Option Addr) (cap : Nat) (zs : List Int) (w : World) (hr : RowAt w a zs) (hz : zs.length ≤ 1000000) : Calls Tryz.prog 107 #[.slice a zs.length cap, .agg r.cells.toArray] w fun e w' => ∃ v, e = .returned v ∧ Mine w' w.heap.size v (zs ++ r.bytes) ∧ Below w.heap.size w w' := by
  have := refRPut_any a cap zs r.c r.n r.s r.t w hr hz h.tl h.tb h.ch h.nh (by omega)
  simpa only [BRq.bytes, BRq.cells, List.append_assoc] using this
set_option maxRecDepth 100000 in
set_option maxHeartbeats 2000000 in
theorem bytesOf_any (q : Bool) (a : Option Addr) (cap : Nat) (rs : List BRq) (w : World) (h : ReqsAt w a rs) (hn : rs.length ≤ 200) (hs : ∀ r ∈ rs, r.s.size ≤ 4000) :
    Calls Tryz.prog 133 #[batV q a rs.length cap] w fun e w' => ∃ v, e = .returned v ∧ Mine w' w.heap.size v (batL q rs) ∧ Below w.heap.size w w' := by
  obtain ⟨i0, hi, hz0, hz1, hz2⟩ := info_parts info8
  unfold batV
  have hB1 : Below w.heap.size w (w.alloc (.cells #[.bool q, .slice a rs.length cap] 24)) := (Below.refl _ _).alloc (Nat.le_refl _) _
  have hb1 := BatBox.mk w q a rs.length cap
  cases q with
  | true =>
    have cp := fun w0 => put_any none 0 [] 0 w0 (nil_row w0) (by simp) (by omega)
    simp only [List.nil_append, List.length_nil] at cp
    have hL : Hid (batL true rs = putL 0) := by show _ = _; simp [batL]
    rw [hL.out]
    go_enter Tryz.func133, Tryz.ntmps133
    go_upto_region 1 with fail
    go_name_world w1 hw1
    rw [hw1] at hB1 hb1
    clear hw1
    obtain ⟨_, c0, c1, _⟩ := hb1
    go_wp2_with fail
    refine (cp w1).mono ?_
    rintro e w2 ⟨v2, rfl, m2, hw2⟩
    go_wp2_with fail
    go_ret
    exact ⟨_, rfl, m2.mono' hB1.size, hB1.trans (hw2.mono hB1.size)⟩
  | false =>
    have hall := h.2.1
    have hle := fun k => batP_le rs k hn hall hs
    have cp := fun w0 => put_any none 0 [] ((rs.length : Int) + 1) w0 (nil_row w0) (by simp) (by omega)
    simp only [List.nil_append, List.length_nil] at cp
    have h1 := h.below hB1
    go_enter Tryz.func133, Tryz.ntmps133
    go_upto_region 1 with fail
    go_name_world w1 hw1
    rw [hw1] at hB1 hb1 h1
    clear hw1
    obtain ⟨_, c0, c1, _⟩ := hb1
    go_wp2_with fail
    refine (cp w1).mono ?_
    rintro e w2 ⟨v2, rfl, m2, hw2⟩
    have c1' := (hw2.cell (p := ⟨w.heap.size, 1, none⟩) (by omega)).trans c1
    clear cp
    go_wp2
    go_loopw [3, 17] (fun ov iv wr => ∃ k : Nat, k ≤ rs.length ∧ iv = .int .i64 (k : Int) ∧ Hid (Mine wr w1.heap.size ov (batP rs k)) ∧ Below w1.heap.size w1 wr) (fun _ iv _ => rs.length - (intOf iv).toNat)
    case atStart => exact ⟨0, by omega, rfl, hide (by simpa [batP] using m2), hw2⟩
    case round =>
      clear c1' m2 hw2
      obtain ⟨k, hk, rfl, HM, hB⟩ := hrel
      by_cases hlt : k < rs.length
      · have k1 : (k : Int) < rs.length := by omega
        have hrow := h1.below hB
        have HS := hide (batP_succ rs k hlt)
        have hlen := hle k
        obtain ⟨b, off, rfl, hb, hre⟩ := hrow.elem k hlt
        obtain ⟨r, hr⟩ : ∃ r, Hid (rs[k] = r) := ⟨_, hide rfl⟩
        have hok : r.ok := by rw [← hr.out]; exact hall _ (List.getElem_mem hlt)
        have hrs : r.s.size ≤ 4000 := by rw [← hr.out]; exact hs _ (List.getElem_mem hlt)
        rw [hr.out] at hre HS
        clear hr hrow
        have hiq := hok.isz
        have hiA := hok.iszA
        have hN := hok.blank wr
        have h1c := all_oneCell_toArray r.one
        have hbl := bytes_le hok hrs
        have cpr := fun w0 => hok.put hrs w0
        have F := fresh_store wr #[.int .i64 0, .int .i64 0, .string ⟨#[]⟩, .int .u8 0, .int .u8 0, .int .u8 0, .int .u8 0, .int .u8 0, .int .u8 0, .int .u8 0, .int .u8 0, .int .u8 0, .int .u8 0, .int .u8 0, .int .u8 0, .int .u8 0, .int .u8 0, .int .u8 0, .int .u8 0] 93 r.cells (by rw [hok.length]; rfl)
        obtain ⟨q, hq⟩ : ∃ q, Hid (r.cells = q) := ⟨_, hide rfl⟩
        rw [hq.out] at hre hiq hiA hN h1c F
        simp only [hq.out] at cpr
        obtain ⟨bs, hbs⟩ : ∃ bs, Hid (r.bytes = bs) := ⟨_, hide rfl⟩
        simp only [hbs.out] at cpr
        rw [hbs.out] at HS hbl
        clear hq hbs hok hrs
        go_upto_region 6 with fail
        try simp only [Act.put]
        refine wp_region_list ?_
        refine wpList_step fun K hK => ?_
        go_simp
        refine hK _ _ ?_
        clear hK K
        refine wpList_load_mid rfl 93 _ rfl _ _ rfl q _ hre Tryz.underlying93 rfl hiq ?_
        go_upto_region 7 with (refine wpList_store_mid (op := ⟨none, .store 93 (.tmp 5) (.tmp 20), _, _, _, none⟩) rfl 93 _ _ rfl _ _ q.toArray rfl rfl hN hiA h1c ?_)
        go_name_world w3 hw3
        rw [show (wr.alloc (.cells #[.int .i64 0, .int .i64 0, .string ⟨#[]⟩, .int .u8 0, .int .u8 0, .int .u8 0, .int .u8 0, .int .u8 0, .int .u8 0, .int .u8 0, .int .u8 0, .int .u8 0, .int .u8 0, .int .u8 0, .int .u8 0, .int .u8 0, .int .u8 0, .int .u8 0, .int .u8 0] 93)).setCells wr.heap.size 0 q = w3 from hw3] at F
        clear hw3 hN
        obtain ⟨hR3, hF3, hz3, _⟩ := F
        have hB3 := hB.trans (hF3.mono hB.size)
        have HM3 := hide (HM.out.below hF3)
        clear HM hF3 hre
        try simp only [Act.put]
        refine wp_region_list ?_
        refine wpList_step fun K hK => ?_
        go_simp
        refine hK _ _ ?_
        clear hK K
        refine wpList_load_mid rfl 93 _ rfl _ _ rfl q _ hR3 Tryz.underlying93 rfl hiq ?_
        go_wp2_with fail
        refine (cpr w3).mono ?_
        rintro e w4 ⟨v4, rfl, m4, hw4⟩
        have hB4 := hB3.trans (hw4.mono hB3.size)
        have m3 := HM3.out.below hw4
        obtain ⟨a4, cap4, rfl, _, _, row4⟩ := m4.rowAt (by unfold maxLen; omega)
        clear HM3 cpr
        go_wp2_with (at_builtin; refine wpList_append_own_src _ rfl _ _ 59 59 rfl w1.heap.size 5 i0 (.int .u8 0) 1 1 Tryz.underlying59 hi hz0 hz1 hz2 rfl _ (batP rs k).length ((batP rs k).map (Value.int .u8)) rfl m3.1 (.slice a4 bs.length cap4) bs.length (v8 bs) rfl (row4.src cap4) ?c1 ?c2 ?c3 ?_)
        case c1 => unfold maxLen; omega
        case c2 => omega
        case c3 => exact hB4.size
        intro v5 w5 hown5 hgrow5
        have hB5 := below_grown hB4 hB4.size m3.1 hgrow5
        have mbs := m4.2
        have mbp := m3.2
        clear m3 m4 row4 hgrow5
        go_wp2
        go_roundw
        case rel =>
          refine ⟨k + 1, by omega, by go_num, hide ?_, hB5⟩
          rw [HS.out]
          exact Mine.mk' (batP rs k ++ bs) hown5 (by simp) (by simp [v8]) (by
            intro z hz'
            rcases List.mem_append.1 hz' with hz' | hz'
            · exact mbp z hz'
            · exact mbs z hz')
        case measure => simp [intOf]; omega
      · obtain rfl : k = rs.length := by omega
        go_wp2
        go_ret
        exact ⟨_, rfl, by rw [← batP_all]; exact HM.out.mono' hB1.size, hB1.trans (hB.mono hB1.size)⟩
theorem batI (q : Bool) (a : Option Addr) (n cap : Nat) : (Tryz.prog.info? 24).map (·.size) = some [Value.bool q, .slice a n cap].length := iszB
set_option maxRecDepth 100000 in
set_option maxHeartbeats 2000000 in
theorem bput_any (a0 : Option Addr) (cap0 : Nat) (zs : List Int) (q : Bool) (a : Option Addr) (cap : Nat) (rs : List BRq) (w : World) (h0 : RowAt w a0 zs) (hzl : zs.length ≤ 90000) (h : ReqsAt w a rs) (hn : rs.length ≤ 200) (hs : ∀ r ∈ rs, r.s.size ≤ 4000) :
    Calls Tryz.prog 101 #[.slice a0 zs.length cap0, batV q a rs.length cap] w fun e w' => ∃ v, e = .returned v ∧ Mine w' w.heap.size v (zs ++ batL q rs) ∧ Below w.heap.size w w' := by
  obtain ⟨i0, hi, hz0, hz1, hz2⟩ := info_parts info8
  have lF := batL_le q rs hn h.2.1 hs
  have cf := fun w0 h0 => bytesOf_any q a cap rs w0 h0 hn hs
  unfold batV at cf ⊢
  obtain ⟨F, hF⟩ : ∃ F, Hid (batL q rs = F) := ⟨_, hide rfl⟩
  rw [hF.out] at lF ⊢
  simp only [hF.out] at cf
  clear hF
  have hB1 : Below w.heap.size w (w.alloc (.cells #[.bool q, .slice a rs.length cap] 24)) := (Below.refl _ _).alloc (Nat.le_refl _) _
  have hb1 := BatBox.mk w q a rs.length cap
  have h1 := h.below hB1
  have hib := batI q a rs.length cap
  go_enter Tryz.func101, Tryz.ntmps101
  go_upto_region 1 with fail
  go_name_world w1 hw1
  rw [hw1] at hB1 hb1 h1
  clear hw1
  try simp only [Act.put]
  refine wp_region_list ?_
  refine wpList_load_mid rfl 24 _ rfl _ _ rfl [.bool q, .slice a rs.length cap] _ hb1.2.2.2 Tryz.underlying24 rfl hib ?_
  go_wp2_with fail
  refine (cf w1 h1).mono ?_
  rintro e w2 ⟨v2, rfl, m2, hw2⟩
  have hB2 := hB1.trans (hw2.mono hB1.size)
  obtain ⟨a2, cap2, rfl, _, _, row2⟩ := m2.rowAt (by unfold maxLen; omega)
  have mF := m2.2
  clear cf m2 hw2 hb1 h1 hib h
  go_wp2_with (first
    | refine wpList_make_own _ rfl _ _ 59 rfl w2.heap.size 5 i0 (.int .u8 0) 1 Tryz.underlying59 hi hz0 hz1 .i64 .i64 _ (zs.length + F.length) rfl rfl ?d1 ?d2 ?d3 ?d4 ?_)
  case d1 => omega
  case d2 => rw [hz2]; omega
  case d3 => unfold maxLen; omega
  case d4 => exact Nat.le_refl _
  intro w3 hown3 hgrow3
  have hb3 : Below w2.heap.size w2 w3 := (Below.refl _ _).grown hgrow3 (Nat.le_refl _) (fun k hk => by cases hk)
  go_wp2_with (at_builtin; refine wpList_append_own_src _ rfl _ _ 59 59 rfl w2.heap.size 5 i0 (.int .u8 0) 1 1 Tryz.underlying59 hi hz0 hz1 hz2 rfl _ 0 [] rfl hown3 (.slice a0 zs.length cap0) zs.length (v8 zs) rfl ((h0.below (hB2.trans (hb3.mono hB2.size))).src cap0) ?c1 ?c2 ?c3 ?_)
  case c1 => unfold maxLen; omega
  case c2 => omega
  case c3 => exact hb3.size
  intro v4 w4 hown4 hgrow4
  have hb4 := below_grown hb3 hb3.size hown3 hgrow4
  have hown4' : w4.ownsRow w2.heap.size 5 1 v4 zs.length (v8 zs) := by simpa using hown4
  obtain ⟨b4, cp4, rfl⟩ : ∃ b cp, v4 = .slice b zs.length cp := by
    rcases hown4'.2 with ⟨rfl, h0⟩ | ⟨g, cp, cur, rfl, _⟩
    · exact ⟨none, 0, by rw [h0]⟩
    · exact ⟨_, _, rfl⟩
  clear hown3 hgrow3 hown4 hgrow4 hb3
  go_wp2_with (at_builtin; refine wpList_append_own_src _ rfl _ _ 59 59 rfl w2.heap.size 5 i0 (.int .u8 0) 1 1 Tryz.underlying59 hi hz0 hz1 hz2 rfl _ zs.length (v8 zs) rfl hown4' (.slice a2 F.length cap2) F.length (v8 F) rfl ((row2.below hb4).src cap2) ?c1 ?c2 ?c3 ?_)
  case c1 => unfold maxLen; omega
  case c2 => omega
  case c3 => exact hb4.size
  intro v5 w5 hown5 hgrow5
  have hb5 := below_grown hb4 hb4.size hown4' hgrow5
  go_wp2_with fail
  go_ret
  refine ⟨_, rfl, ?_, hB2.trans (hb5.mono hB2.size)⟩
  have hm := Mine.mk' (zs ++ F) hown5 (by simp) (by simp [v8]) (by
    intro z hz'
    rcases List.mem_append.1 hz' with hz' | hz'
    · exact h0.2.1 z hz'
    · exact mF z hz')
  exact hm.mono' hB2.size
set_option maxRecDepth 100000 in
set_option maxHeartbeats 2000000 in
theorem refBput_any (a0 : Option Addr) (cap0 : Nat) (zs : List Int) (q : Bool) (a : Option Addr) (cap : Nat) (rs : List BRq) (w : World) (h0 : RowAt w a0 zs) (hzl : zs.length ≤ 90000) (h : ReqsAt w a rs) (hn : rs.length ≤ 200) (hs : ∀ r ∈ rs, r.s.size ≤ 4000) :
    Calls Tryz.prog 58 #[.slice a0 zs.length cap0, batV q a rs.length cap] w fun e w' => ∃ v, e = .returned v ∧ Mine w' w.heap.size v (zs ++ batL q rs) ∧ Below w.heap.size w w' := by
  unfold batV
  have hB1 : Below w.heap.size w (w.alloc (.cells #[.bool q, .slice a rs.length cap] 24)) := (Below.refl _ _).alloc (Nat.le_refl _) _
  have hb1 := BatBox.mk w q a rs.length cap
  cases q with
  | true =>
    have cp := fun w0 h0 => refPut_any a0 cap0 zs 0 w0 h0 (by omega) (by omega)
    have hL : Hid (batL true rs = putL 0) := by show _ = _; simp [batL]
    rw [hL.out]
    go_enter Tryz.func58, Tryz.ntmps58
    go_upto_region 1 with fail
    go_name_world w1 hw1
    rw [hw1] at hB1 hb1
    clear hw1
    obtain ⟨_, c0, c1, _⟩ := hb1
    go_wp2_with fail
    refine (cp w1 (h0.below hB1)).mono ?_
    rintro e w2 ⟨v2, rfl, m2, hw2⟩
    go_wp2_with fail
    go_ret
    exact ⟨_, rfl, m2.mono' hB1.size, hB1.trans (hw2.mono hB1.size)⟩
  | false =>
    have hall := h.2.1
    have hle := fun k => batP_le rs k hn hall hs
    have cp := fun w0 h0 => refPut_any a0 cap0 zs ((rs.length : Int) + 1) w0 h0 (by omega) (by omega)
    have h1 := h.below hB1
    go_enter Tryz.func58, Tryz.ntmps58
    go_upto_region 1 with fail
    go_name_world w1 hw1
    rw [hw1] at hB1 hb1 h1
    clear hw1
    obtain ⟨hX, c0, c1, _⟩ := hb1
    obtain ⟨X, hXe⟩ : ∃ X, Hid (w.heap.size = X) := ⟨_, hide rfl⟩
    rw [hXe.out] at hX c0 c1 ⊢
    go_wp2_with fail
    refine (cp w1 (h0.below hB1)).mono ?_
    rintro e w2 ⟨v2, rfl, m2, hw2⟩
    clear cp
    go_wp2
    go_loopw [0, 5] (fun ov iv wr => ∃ k : Nat, k ≤ rs.length ∧ iv = .int .i64 (k : Int) ∧ Hid (Mine wr w1.heap.size ov (zs ++ batP rs k)) ∧ Below w1.heap.size w1 wr) (fun _ iv _ => rs.length - (intOf iv).toNat)
    case atStart => exact ⟨0, by omega, rfl, hide (by simpa [batP] using m2), hw2⟩
    case round =>
      clear m2 hw2 c0
      obtain ⟨k, hk, rfl, HM, hB⟩ := hrel
      have c1' := (hB.cell (p := ⟨X, 1, none⟩) hX).trans c1
      by_cases hlt : k < rs.length
      · have k1 : (k : Int) < rs.length := by omega
        have hrow := h1.below hB
        have HS := hide (batP_succ rs k hlt)
        have hlen := hle k
        obtain ⟨b, off, rfl, hb, hre⟩ := hrow.elem k hlt
        obtain ⟨r, hr⟩ : ∃ r, Hid (rs[k] = r) := ⟨_, hide rfl⟩
        have hok : r.ok := by rw [← hr.out]; exact hall _ (List.getElem_mem hlt)
        have hrs : r.s.size ≤ 4000 := by rw [← hr.out]; exact hs _ (List.getElem_mem hlt)
        rw [hr.out] at hre HS
        clear hr hrow
        have hiq := hok.isz
        have hlz : (zs ++ batP rs k).length ≤ 1000000 := by rw [List.length_append]; omega
        obtain ⟨ys, hys⟩ : ∃ ys, Hid (zs ++ batP rs k = ys) := ⟨_, hide rfl⟩
        rw [hys.out] at HM hlz
        obtain ⟨ay, capy, rfl, _, _, rowy⟩ := HM.out.rowAt (by unfold maxLen; omega)
        have cpr := hok.refPut hrs ay capy ys wr rowy hlz
        obtain ⟨q, hq⟩ : ∃ q, Hid (r.cells = q) := ⟨_, hide rfl⟩
        rw [hq.out] at hre hiq cpr
        have HS' : Hid (zs ++ batP rs (k + 1) = ys ++ r.bytes) := hide (by rw [HS.out, ← hys.out, List.append_assoc])
        obtain ⟨bs, hbs⟩ : ∃ bs, Hid (r.bytes = bs) := ⟨_, hide rfl⟩
        rw [hbs.out] at HS' cpr
        clear hq hbs hok hrs HS hys HM hlz rowy
        go_upto_region 7 with fail
        try simp only [Act.put]
        refine wp_region_list ?_
        refine wpList_step fun K hK => ?_
        go_simp
        refine hK _ _ ?_
        clear hK K
        refine wpList_step fun K hK => ?_
        go_simp
        refine hK _ _ ?_
        clear hK K
        refine wpList_step fun K hK => ?_
        go_simp
        refine hK _ _ ?_
        clear hK K
        refine wpList_step fun K hK => ?_
        go_simp
        refine hK _ _ ?_
        clear hK K
        refine wpList_step fun K hK => ?_
        go_simp
        refine hK _ _ ?_
        clear hK K
        refine wpList_load_mid rfl 93 _ rfl _ _ rfl q _ hre Tryz.underlying93 rfl hiq ?_
        go_wp2_with fail
        refine cpr.mono ?_
        rintro e w4 ⟨v4, rfl, m4, hw4⟩
        have hB4 := hB.trans (hw4.mono hB.size)
        have m5 := hide (m4.mono' hB.size)
        clear cpr m4
        go_wp2
        go_roundw
        case rel => exact ⟨k + 1, by omega, by go_num, hide (by rw [HS'.out]; exact m5.out), hB4⟩
        case measure => simp [intOf]; omega
      · obtain rfl : k = rs.length := by omega
        go_wp2
        go_ret
        exact ⟨_, rfl, by rw [← batP_all]; exact HM.out.mono' hB1.size, hB1.trans (hB.mono hB1.size)⟩
end Go.Proofs.YtgjalkbianpibaaGreat
namespace Go.Proofs.YtgjalkbianpibaaGreat
open Go Go.RowKit
section
variable {P : Program} {ops : Array Oper} {Q : Exit → Act → World → Prop}
structure Pl (P : Program) (ops : Array Oper) (Q : Exit → Act → World → Prop) (l : List Oper) (a : Act) (w : World) : Prop where
  out : wpList P ops Q l a w
theorem pl_begin {id : Nat} {a : Act} {w : World} (h : Pl P ops Q ops.toList a w) : (Code.region id ops false).wp P Q a w := wp_region_list h.out
theorem pl_nil {a : Act} {w : World} (h : Q .normal a w) : Pl P ops Q [] a w := ⟨wpList_nil h⟩
theorem pl_take {o : Oper} {rest : List Oper} {d : Option Nat} {v : Value} {a : Act} {w : World} (hw : Region.wanted o (yielded ops a.tmps) = true) (hy : (execOp a.eval o).run P w = .ok (.value v) w) (hd : o.dst = d)
    (h : Pl P ops Q rest (a.put d v) w) : Pl P ops Q (o :: rest) a w := by
  subst hd
  refine ⟨wpList_step fun K hK => ?_⟩
  rw [if_pos hw]
  unfold Oper.wp
  rw [hy]
  exact hK _ _ h.out
theorem pl_skip {o : Oper} {rest : List Oper} {d : Option Nat} {a : Act} {w : World} (hw : Region.wanted o (yielded ops a.tmps) = false) (hd : o.dst = d)
    (h : Pl P ops Q rest (a.put d undef) w) : Pl P ops Q (o :: rest) a w := by
  subst hd
  refine ⟨wpList_step fun K hK => ?_⟩
  rw [if_neg (by simp [hw])]
  exact hK _ _ h.out
theorem pl_run {o : Oper} {rest : List Oper} {d : Option Nat} {v : Value} {a : Act} {w w' : World} (hw : Region.wanted o (yielded ops a.tmps) = true) (hy : (execOp a.eval o).run P w = .ok (.value v) w') (hd : o.dst = d)
    (h : Pl P ops Q rest (a.put d v) w') : Pl P ops Q (o :: rest) a w := by
  subst hd
  refine ⟨wpList_step fun K hK => ?_⟩
  rw [if_pos hw]
  unfold Oper.wp
  rw [hy]
  exact hK _ _ h.out
theorem pl_call {o : Oper} {rest : List Oper} {d : Option Nat} {f : FuncId} {args : Array Value} {a : Act} {w : World} (hw : Region.wanted o (yielded ops a.tmps) = true) (hy : (execOp a.eval o).run P w = .ok (.enter f args) w) (hd : o.dst = d)
    (h : Calls P f args w fun e w' => ∃ v, e = .returned v ∧ Pl P ops Q rest (a.put d v) w') : Pl P ops Q (o :: rest) a w := by
  subst hd
  refine ⟨wpList_step fun K hK => ?_⟩
  rw [if_pos hw]
  unfold Oper.wp
  rw [hy]
  refine h.mono ?_
  rintro e w' ⟨v, rfl, hk⟩
  exact hK _ _ hk.out
theorem run_load_one (w : World) (p : Addr) (ty : TypeId) (v : Value) (d : TypeDesc) (hc : w.cell? p = some v) (hu : P.underlying ty = some d) (hd : d.isRow = false) : (loadVar ty p).run P w = .ok v w := by
  have hagg : (isAgg ty).run P w = .ok false w := by
    unfold isAgg
    rw [Sem.run_bind, run_underlying hu w]
    cases d <;> simp_all
  simp [loadVar, Sem.run_bind, hagg, load, Sem.run, hc]
theorem pl_one {o : Oper} {a : Act} {w : World} {ty : TypeId} {x : Operand} (ho : o.op = .load ty x) {p : Addr} (hx : a.eval x = .pointer (some p)) {v : Value} {d : TypeDesc} (hc : w.cell? p = some v) (hu : P.underlying ty = some d) (hd : d.isRow = false) : (execOp a.eval o).run P w = .ok (.value v) w := by
  unfold execOp
  simp only [ho, hx, Instr.loadAt, Instr.sureAddr, Sem.run_bind, Sem.run_pure, Result.andThen_ok, run_load_one w p ty v d hc hu hd]
end
end Go.Proofs.YtgjalkbianpibaaGreat
