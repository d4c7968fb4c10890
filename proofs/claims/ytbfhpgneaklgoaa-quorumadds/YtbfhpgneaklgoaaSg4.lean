/- the document's Same and Add of signs -/
import Derived.Test.YtbfhpgneaklgoaaSg3
import Derived.Deep.RegionHeld3
namespace Go.Proofs.Ytbfhpgneaklgoaa
open Go.RowKit
theorem fldS : (Try.prog.fieldsOf 29).toList.map (fun f => (f.name, f.type, f.offset)) = [("Node", 3, 0), ("Tag", 27, 1)] := by kernel_rfl
theorem undS : Try.prog.underlying 29 = some (.struct (Try.prog.fieldsOf 29)) := by kernel_rfl
theorem sihS : Try.prog.stoodInHeld 29 = false := by kernel_rfl
theorem iszTS : (Try.prog.info? 27).map (·.size) = some 16 := by kernel_rfl
theorem part_intS (w : World) (q : List Value) (i : Nat) (c : Int) (h : q[i]? = some (.int .i64 c)) : (part 3 q.toArray i).run Try.prog w = .ok (.int .i64 c) w := by
  simp [part, isAgg, run_underlying Try.underlying3, h]
theorem part_tagS (w : World) (n : Int) (t : List Int) (ht : t.length = 16) : (part 27 (Sg.cells ⟨n, t⟩).toArray 1).run Try.prog w = .ok (.agg (v8 t).toArray) w := by
  have hx : List.take 16 (Sg.cells ⟨n, t⟩).tail = v8 t := by
    show List.take 16 (v8 t) = v8 t
    rw [List.take_of_length_le (by rw [v8_length, ht]; exact Nat.le_refl _)]
  simp [part, isAgg, run_underlying Try.underlying27, run_size iszTS, hx]
def sgB (r r' : Sg) : Bool := (r.n == r'.n) && (r.t == r'.t)
theorem sgB_iff {r r' : Sg} : sgB r r' = true ↔ r = r' := by
  obtain ⟨n, t⟩ := r
  obtain ⟨n', t'⟩ := r'
  simp [sgB]
theorem sgEqIn (d : Nat) (n : Int) (t : List Int) (n' : Int) (t' : List Int) (ht : t.length = 16) (ht' : t'.length = 16) (w : World) :
    (Op.equalIn (d + 2 + 1) 29 (.agg (Sg.cells ⟨n, t⟩).toArray) (.agg (Sg.cells ⟨n', t'⟩).toArray)).run Try.prog w = .ok ((n == n') && (t == t')) w := by
  rw [run_equalIn_struct w (d + 2) 29 _ _ undS sihS]
  have hf := fldS
  generalize (Try.prog.fieldsOf 29).toList = fs at hf
  obtain ⟨f0, f1, rfl⟩ : ∃ f0 f1, fs = [f0, f1] := by
    rcases fs with _ | ⟨f0, _ | ⟨f1, _ | ⟨f2, fs⟩⟩⟩ <;> simp at hf
    exact ⟨f0, f1, rfl⟩
  simp only [List.map_cons, List.map_nil, List.cons.injEq, Prod.mk.injEq, and_true] at hf
  obtain ⟨⟨a0, b0, d0⟩, ⟨a1, b1, d1⟩⟩ := hf
  have p0 := part_intS w (Sg.cells ⟨n, t⟩) 0 n rfl
  have p1 := part_intS w (Sg.cells ⟨n', t'⟩) 0 n' rfl
  have p6 := part_tagS w n t ht
  have p7 := part_tagS w n' t' ht'
  have e0 := run_equalIn_int (P := Try.prog) w (d + 1) 3 .i64 .i64 n n' Try.underlying3
  have e3 := run_equal8 (P := Try.prog) w d 27 5 16 Try.underlying27 Try.underlying5 isz8 t t' ht ht'
  generalize (Sg.cells ⟨n, t⟩).toArray = q at *
  generalize (Sg.cells ⟨n', t'⟩).toArray = q' at *
  obtain ⟨T, hT⟩ : ∃ T, (v8 t).toArray = T := ⟨_, rfl⟩
  obtain ⟨T', hT'⟩ : ∃ T, (v8 t').toArray = T := ⟨_, rfl⟩
  rw [hT] at p6 e3
  rw [hT'] at p7 e3
  clear hT hT'
  obtain ⟨D, hD⟩ : ∃ D, d + 1 + 1 = D := ⟨_, rfl⟩
  have e3 : (Op.equalIn (d + 1 + 1) 27 (.agg T) (.agg T')).run Try.prog w = .ok (t == t') w := e3
  rw [hD] at e3
  have hn0 : ¬ ("Node" = "_") := by decide
  have hn3 : ¬ ("Tag" = "_") := by decide
  simp only [Op.eqFields, a0, a1, b0, b1, d0, d1, ne_eq, hn0, hn3, not_false_eq_true, if_true]
  rw [show d + 2 = d + 1 + 1 from rfl, hD]
  rw [hD] at e0
  clear hD
  simp only [Sem.run_bind, p0, p1, Result.andThen_ok, e0]
  cases (n == n')
  · simp only [Bool.not_false, if_true, Sem.run_pure, Bool.false_and]
  · simp only [Bool.not_true, Bool.false_eq_true, if_false, Sem.run_bind, p6, p7, Result.andThen_ok, e3, Bool.true_and]
    cases (t == t')
    · simp only [Bool.not_false, if_true, Sem.run_pure]
    · simp only [Bool.not_true, Bool.false_eq_true, if_false, Sem.run_pure]
theorem neqSg (r r' : Sg) (h : r.ok) (h' : r'.ok) (w : World) :
    (binOp .neq 29 (.agg r.cells.toArray) (.agg r'.cells.toArray)).run Try.prog w = .ok (.bool (!(sgB r r'))) w := by
  obtain ⟨n, t⟩ := r
  obtain ⟨n', t'⟩ := r'
  rw [run_neq_struct, sgEqIn 9997 n t n' t' h.tl h'.tl]; rfl
theorem eqInSg (r r' : Sg) (h : r.ok) (h' : r'.ok) (w : World) :
    (Op.equalIn 10000 29 (.agg r.cells.toArray) (.agg r'.cells.toArray)).run Try.prog w = .ok (sgB r r') w := by
  obtain ⟨n, t⟩ := r
  obtain ⟨n', t'⟩ := r'
  exact sgEqIn 9997 n t n' t' h.tl h'.tl w
def eqSs (rs rs' : List Sg) : Prop := rs = rs'
theorem own_low {w w' : World} {B : Nat} {v : Value} {n : Nat} {xs : List Value} (h : w.ownsRow B 29 17 v n xs) (hb : Below w.heap.size w w') : w'.ownsRow B 29 17 v n xs := by
  refine ⟨h.1, ?_⟩
  rcases h.2 with h | ⟨g, cap, cur, hv, hg, hh, r⟩
  · exact .inl h
  · exact .inr ⟨g, cap, cur, hv, hg, by rw [hb.block g (Array.getElem?_eq_some_iff.1 hh).1]; exact hh, r⟩
set_option maxRecDepth 100000 in
set_option maxHeartbeats 2000000 in
theorem sameS_any (a : Option Addr) (cap : Nat) (rs : List Sg) (a' : Option Addr) (cap' : Nat) (rs' : List Sg) (w : World) (h : SigsAt w a rs) (h' : SigsAt w a' rs') :
    Calls Try.prog 17 #[.slice a rs.length cap, .slice a' rs'.length cap'] w fun e w' => ((e = .returned (.bool true) ∧ eqSs rs rs') ∨ (e = .returned (.bool false) ∧ ¬ eqSs rs rs')) ∧ Below w.heap.size w w' := by
  have hml := h.1
  have hml' := h'.1
  unfold maxLen at hml hml'
  have hall := h.2.1
  have hall' := h'.2.1
  by_cases hlen : rs.length = rs'.length
  rotate_left
  · have e0 : ((rs.length : Int) == rs'.length) = false := by simp; omega
    have HL := hide hlen
    clear hlen
    go_enter Try.func17, Try.ntmps17
    go_wp2
    go_ret
    exact ⟨.inr ⟨rfl, fun hh => HL.out (by rw [show rs = rs' from hh])⟩, Below.refl _ _⟩
  · have e0 : ((rs.length : Int) == rs'.length) = true := by simp; omega
    have HL := hide hlen
    clear hlen
    go_enter Try.func17, Try.ntmps17
    go_wp2
    go_loopw [5] (fun iv wr => ∃ k : Nat, k ≤ rs.length ∧ iv = .int .i64 (k : Int) ∧ Hid (∀ j (hj : j < rs.length) (hj' : j < rs'.length), j < k → rs[j] = rs'[j]) ∧ Below w.heap.size w wr) (fun iv _ => rs.length - (intOf iv).toNat)
    case atStart => exact ⟨0, by omega, rfl, hide (fun j _ _ hj => absurd hj (by omega)), Below.refl _ _⟩
    case round =>
      clear e0
      obtain ⟨k, hk, rfl, HM, hB⟩ := hrel
      by_cases hlt : k < rs.length
      · have k1 : (k : Int) < rs.length := by omega
        have hlt' : k < rs'.length := by have := HL.out; omega
        have k1' : (k : Int) < rs'.length := by omega
        obtain ⟨b, off, rfl, hb, hre⟩ := (h.below hB).elem k hlt
        obtain ⟨b', off', rfl, hb', hre'⟩ := (h'.below hB).elem k hlt'
        obtain ⟨r, hr⟩ : ∃ r, Hid (rs[k] = r) := ⟨_, hide rfl⟩
        obtain ⟨r', hr'⟩ : ∃ r', Hid (rs'[k] = r') := ⟨_, hide rfl⟩
        have hok : r.ok := by rw [← hr.out]; exact hall _ (List.getElem_mem hlt)
        have hok' : r'.ok := by rw [← hr'.out]; exact hall' _ (List.getElem_mem hlt')
        rw [hr.out] at hre
        rw [hr'.out] at hre'
        have HM' : Hid (r = r' → ∀ j (hj : j < rs.length) (hj' : j < rs'.length), j < k + 1 → rs[j] = rs'[j]) := hide (fun hp j hj hj' hjk => by
          by_cases e : j = k
          · subst e; rw [hr.out, hr'.out]; exact hp
          · exact HM.out j hj hj' (by omega))
        have HN' : Hid (r ≠ r' → rs ≠ rs') := hide (fun hp he => by
          apply hp
          rw [← hr.out, ← hr'.out]
          subst he
          rfl)
        clear hr hr' HM
        have hiu := hok.isz
        have hiu' := hok'.isz
        have hne := fun w0 => neqSg r r' hok hok' w0
        obtain ⟨u, hu⟩ : ∃ u, Hid (r.cells = u) := ⟨_, hide rfl⟩
        obtain ⟨u', hu'⟩ : ∃ u', Hid (r'.cells = u') := ⟨_, hide rfl⟩
        rw [hu.out] at hre hiu
        rw [hu'.out] at hre' hiu'
        simp only [hu.out, hu'.out] at hne
        clear hu hu' hok hok'
        by_cases hrr : r = r'
        · have e1 : sgB r r' = true := sgB_iff.2 hrr
          rw [e1] at hne
          simp only [Bool.not_true] at hne
          have HR := hide hrr
          clear hrr e1
          go_upto_region 6 with fail
          obtain ⟨w5, hw5⟩ : ∃ w5, wr.drew = w5 := ⟨_, rfl⟩
          have hB5 : Below w.heap.size w w5 := by rw [← hw5]; exact hB.drew
          have hre5 : w5.rangeAt b (off + k * 17) u := by rw [← hw5]; exact (World.rangeAt_drew _ _ _ _).2 hre
          have hre5' : w5.rangeAt b' (off' + k * 17) u' := by rw [← hw5]; exact (World.rangeAt_drew _ _ _ _).2 hre'
          have hb5 : b < w5.heap.size := by rw [← hw5]; exact hb
          have hb5' : b' < w5.heap.size := by rw [← hw5]; exact hb'
          refine hs_begin (S := (Below w5.heap.size w5)) 9 rfl (by kernel_rfl) ?_
          rw [hw5]
          clear hw5 hB hre hre' hb hb'
          have hS : (Below w5.heap.size w5) w5 := Below.refl _ _
          refine hs_take (i := 0) (d := some 17) (v := ?_) rfl (by kernel_rfl) (by kernel_rfl) (by kernel_rfl) (by rfl) ?_ hS rfl ?_
          rotate_left
          · intro w' hw
            go_simp
            try with_reducible rfl
          simp only [Act.put, List.setIfInBounds_toArray, List.set_cons_zero, List.set_cons_succ]
          refine hs_take (i := 1) (d := some 18) (v := ?_) rfl (by kernel_rfl) (by kernel_rfl) (by kernel_rfl) (by rfl) ?_ hS rfl ?_
          rotate_left
          · intro w' hw
            go_simp
            try with_reducible rfl
          simp only [Act.put, List.setIfInBounds_toArray, List.set_cons_zero, List.set_cons_succ]
          refine hs_take (i := 2) (d := some 19) (v := ?_) rfl (by kernel_rfl) (by kernel_rfl) (by kernel_rfl) (by rfl) ?_ hS rfl ?_
          rotate_left
          · intro w' hw
            go_simp
            try with_reducible rfl
          simp only [Act.put, List.setIfInBounds_toArray, List.set_cons_zero, List.set_cons_succ]
          refine hs_take (i := 3) (d := some 20) (v := .agg u.toArray) rfl (by kernel_rfl) (by kernel_rfl) (by kernel_rfl) (by rfl) (fun w' hw => exec_load rfl rfl (run_loadVar_mid (P := Try.prog) w' b (off + k * 17) 29 u _ (range_below hre5 hw hb5) Try.underlying29 rfl hiu)) hS rfl ?_
          simp only [Act.put, List.setIfInBounds_toArray, List.set_cons_zero, List.set_cons_succ]
          refine hs_take (i := 4) (d := some 21) (v := ?_) rfl (by kernel_rfl) (by kernel_rfl) (by kernel_rfl) (by rfl) ?_ hS rfl ?_
          rotate_left
          · intro w' hw
            go_simp
            try with_reducible rfl
          simp only [Act.put, List.setIfInBounds_toArray, List.set_cons_zero, List.set_cons_succ]
          refine hs_take (i := 5) (d := some 22) (v := ?_) rfl (by kernel_rfl) (by kernel_rfl) (by kernel_rfl) (by rfl) ?_ hS rfl ?_
          rotate_left
          · intro w' hw
            go_simp
            try with_reducible rfl
          simp only [Act.put, List.setIfInBounds_toArray, List.set_cons_zero, List.set_cons_succ]
          refine hs_take (i := 6) (d := some 23) (v := ?_) rfl (by kernel_rfl) (by kernel_rfl) (by kernel_rfl) (by rfl) ?_ hS rfl ?_
          rotate_left
          · intro w' hw
            go_simp
            try with_reducible rfl
          simp only [Act.put, List.setIfInBounds_toArray, List.set_cons_zero, List.set_cons_succ]
          refine hs_take (i := 7) (d := some 24) (v := .agg u'.toArray) rfl (by kernel_rfl) (by kernel_rfl) (by kernel_rfl) (by rfl) (fun w' hw => exec_load rfl rfl (run_loadVar_mid (P := Try.prog) w' b' (off' + k * 17) 29 u' _ (range_below hre5' hw hb5') Try.underlying29 rfl hiu')) hS rfl ?_
          simp only [Act.put, List.setIfInBounds_toArray, List.set_cons_zero, List.set_cons_succ]
          refine hs_take (i := 8) (d := some 25) (v := .bool false) rfl (by kernel_rfl) (by kernel_rfl) (by kernel_rfl) (by rfl) (fun w' hw => by have hc := hne w'; go_simp) hS rfl ?_
          simp only [Act.put, List.setIfInBounds_toArray, List.set_cons_zero, List.set_cons_succ]
          refine hs_done (by kernel_rfl) ?_
          go_wp2
          go_roundw
          case rel => exact ⟨k + 1, by omega, by go_num, hide (HM'.out HR.out), hB5⟩
          case measure => simp [intOf]; omega
        · have e1 : sgB r r' = false := by
            cases hx : sgB r r'
            · rfl
            · exact absurd (sgB_iff.1 hx) hrr
          rw [e1] at hne
          simp only [Bool.not_false] at hne
          have HR := hide hrr
          clear hrr e1
          go_upto_region 6 with fail
          obtain ⟨w5, hw5⟩ : ∃ w5, wr.drew = w5 := ⟨_, rfl⟩
          have hB5 : Below w.heap.size w w5 := by rw [← hw5]; exact hB.drew
          have hre5 : w5.rangeAt b (off + k * 17) u := by rw [← hw5]; exact (World.rangeAt_drew _ _ _ _).2 hre
          have hre5' : w5.rangeAt b' (off' + k * 17) u' := by rw [← hw5]; exact (World.rangeAt_drew _ _ _ _).2 hre'
          have hb5 : b < w5.heap.size := by rw [← hw5]; exact hb
          have hb5' : b' < w5.heap.size := by rw [← hw5]; exact hb'
          refine hs_begin (S := (Below w5.heap.size w5)) 9 rfl (by kernel_rfl) ?_
          rw [hw5]
          clear hw5 hB hre hre' hb hb'
          have hS : (Below w5.heap.size w5) w5 := Below.refl _ _
          refine hs_take (i := 0) (d := some 17) (v := ?_) rfl (by kernel_rfl) (by kernel_rfl) (by kernel_rfl) (by rfl) ?_ hS rfl ?_
          rotate_left
          · intro w' hw
            go_simp
            try with_reducible rfl
          simp only [Act.put, List.setIfInBounds_toArray, List.set_cons_zero, List.set_cons_succ]
          refine hs_take (i := 1) (d := some 18) (v := ?_) rfl (by kernel_rfl) (by kernel_rfl) (by kernel_rfl) (by rfl) ?_ hS rfl ?_
          rotate_left
          · intro w' hw
            go_simp
            try with_reducible rfl
          simp only [Act.put, List.setIfInBounds_toArray, List.set_cons_zero, List.set_cons_succ]
          refine hs_take (i := 2) (d := some 19) (v := ?_) rfl (by kernel_rfl) (by kernel_rfl) (by kernel_rfl) (by rfl) ?_ hS rfl ?_
          rotate_left
          · intro w' hw
            go_simp
            try with_reducible rfl
          simp only [Act.put, List.setIfInBounds_toArray, List.set_cons_zero, List.set_cons_succ]
          refine hs_take (i := 3) (d := some 20) (v := .agg u.toArray) rfl (by kernel_rfl) (by kernel_rfl) (by kernel_rfl) (by rfl) (fun w' hw => exec_load rfl rfl (run_loadVar_mid (P := Try.prog) w' b (off + k * 17) 29 u _ (range_below hre5 hw hb5) Try.underlying29 rfl hiu)) hS rfl ?_
          simp only [Act.put, List.setIfInBounds_toArray, List.set_cons_zero, List.set_cons_succ]
          refine hs_take (i := 4) (d := some 21) (v := ?_) rfl (by kernel_rfl) (by kernel_rfl) (by kernel_rfl) (by rfl) ?_ hS rfl ?_
          rotate_left
          · intro w' hw
            go_simp
            try with_reducible rfl
          simp only [Act.put, List.setIfInBounds_toArray, List.set_cons_zero, List.set_cons_succ]
          refine hs_take (i := 5) (d := some 22) (v := ?_) rfl (by kernel_rfl) (by kernel_rfl) (by kernel_rfl) (by rfl) ?_ hS rfl ?_
          rotate_left
          · intro w' hw
            go_simp
            try with_reducible rfl
          simp only [Act.put, List.setIfInBounds_toArray, List.set_cons_zero, List.set_cons_succ]
          refine hs_take (i := 6) (d := some 23) (v := ?_) rfl (by kernel_rfl) (by kernel_rfl) (by kernel_rfl) (by rfl) ?_ hS rfl ?_
          rotate_left
          · intro w' hw
            go_simp
            try with_reducible rfl
          simp only [Act.put, List.setIfInBounds_toArray, List.set_cons_zero, List.set_cons_succ]
          refine hs_take (i := 7) (d := some 24) (v := .agg u'.toArray) rfl (by kernel_rfl) (by kernel_rfl) (by kernel_rfl) (by rfl) (fun w' hw => exec_load rfl rfl (run_loadVar_mid (P := Try.prog) w' b' (off' + k * 17) 29 u' _ (range_below hre5' hw hb5') Try.underlying29 rfl hiu')) hS rfl ?_
          simp only [Act.put, List.setIfInBounds_toArray, List.set_cons_zero, List.set_cons_succ]
          refine hs_take (i := 8) (d := some 25) (v := .bool true) rfl (by kernel_rfl) (by kernel_rfl) (by kernel_rfl) (by rfl) (fun w' hw => by have hc := hne w'; go_simp) hS rfl ?_
          simp only [Act.put, List.setIfInBounds_toArray, List.set_cons_zero, List.set_cons_succ]
          refine hs_done (by kernel_rfl) ?_
          go_wp2
          go_ret
          exact ⟨.inr ⟨rfl, fun hh => HN'.out HR.out hh⟩, hB5⟩
      · have k1 : ¬ (k : Int) < rs.length := by omega
        have HE : Hid (eqSs rs rs') := hide (List.ext_getElem HL.out (fun j hj hj' => HM.out j hj hj' (by omega)))
        clear HM
        go_wp2
        go_ret
        exact ⟨.inl ⟨rfl, HE.out⟩, hB⟩
set_option maxRecDepth 100000 in
set_option maxHeartbeats 4000000 in
theorem refQAdd_any (a : Option Addr) (cap : Nat) (rs : List Sg) (s : Sg) (w : World) (h : SigsAt w a rs) (hs : s.ok) (hn : rs.length ≤ 1000) :
    Calls Try.prog 18 #[.slice a rs.length cap, .agg s.cells.toArray] w fun e w' => ∃ v, e = .returned v ∧ SOwn w' w.heap.size v (addS rs s) ∧ Below w.heap.size w w' := by
  obtain ⟨i1, hi1, hiz, his, hib⟩ := info_parts infoS
  have hall := h.2.1
  have hB1 : Below w.heap.size w (w.alloc (.cells s.cells.toArray 29)) := (Below.refl _ _).alloc (Nat.le_refl _) _
  have hR1 : (w.alloc (.cells s.cells.toArray 29)).rangeAt w.heap.size 0 s.cells := by simpa using range_new w s.cells.toArray 29
  have hz1 : w.heap.size < (w.alloc (.cells s.cells.toArray 29)).heap.size := by simp
  have ui := hs.isz
  have ul := hs.length
  have uo := s.one
  have hfold := fold_s #[.int .i64 0, .int .u8 0, .int .u8 0, .int .u8 0, .int .u8 0, .int .u8 0, .int .u8 0, .int .u8 0, .int .u8 0, .int .u8 0, .int .u8 0, .int .u8 0, .int .u8 0, .int .u8 0, .int .u8 0, .int .u8 0, .int .u8 0] s.cells (by rw [ul]; rfl)
  have HC := hide (show flatS [s] = s.cells by simp [flatS])
  have hx0 := fun (w0 : World) (b0 : Nat) (hh : w0.rangeAt b0 0 s.cells) => Sg.first hh
  obtain ⟨u, hu⟩ : ∃ u, Hid (s.cells = u) := ⟨_, hide rfl⟩
  rw [hu.out] at hB1 hR1 hz1 ui ul uo hfold HC ⊢
  simp only [hu.out] at hx0
  clear hu
  obtain ⟨L, hLe⟩ : ∃ L, Hid (addS rs s = L) := ⟨_, hide rfl⟩
  rw [hLe.out]
  go_enter Try.func18, Try.ntmps18
  go_upto_region 1 with fail
  go_name_world w1 hw1
  rw [hw1] at hB1 hR1 hz1
  clear hw1
  obtain ⟨X, hXe⟩ : ∃ X, Hid (w.heap.size = X) := ⟨_, hide rfl⟩
  have hX : X < w1.heap.size := by rw [← hXe.out]; exact hz1
  rw [hXe.out] at hR1 ⊢
  have x0 := hx0 w1 X hR1
  have h1 := h.below hB1
  clear hz1 hx0
  go_wp2
  go_loopw [6] (fun iv wr => ∃ (k : Nat), k ≤ rs.length ∧ iv = .int .i64 (k : Int) ∧ Hid (∀ j, (hj : j < rs.length) → j < k → eqN s rs[j] = false) ∧ Below w1.heap.size w1 wr) (fun iv _ => rs.length - (intOf iv).toNat)
  case atStart => exact ⟨0, by omega, rfl, hide (fun j _ hj => absurd hj (by omega)), Below.refl _ _⟩
  case round =>
    obtain ⟨k, hk, rfl, HD, hB⟩ := hrel
    by_cases hlt : k < rs.length
    · have k1 : (k : Int) < rs.length := by omega
      obtain ⟨b, off, rfl, hb, hre⟩ := h1.elem k hlt
      obtain ⟨c, hc⟩ : ∃ c, Hid (rs[k].n = c) := ⟨_, hide rfl⟩
      have e0 : w1.cell? ⟨b, off + k * 17, none⟩ = some (.int .i64 c) := by rw [← hc.out]; exact Sg.first hre
      clear hre
      by_cases hcc : c = s.n
      · have hb1 : (c == s.n) = true := by simpa using hcc
        have HA : Hid (L = rs) := hide (by
          rw [← hLe.out]
          unfold addS
          rw [if_pos]
          rw [List.any_eq_true]
          exact ⟨rs[k], List.getElem_mem hlt, by unfold eqN; rw [hc.out]; exact hb1⟩)
        clear hcc HD hc
        go_upto_region 5 with fail
        obtain ⟨w5, hw5⟩ : ∃ w5, wr.drew = w5 := ⟨_, rfl⟩
        have hB5 : Below w1.heap.size w1 w5 := by rw [← hw5]; exact hB.drew
        have c1 : ∀ w', Below w5.heap.size w5 w' → w'.cell? ⟨b, off + k * 17, none⟩ = some (.int .i64 c) := fun w' hw' => ((hB5.trans (hw'.mono hB5.size)).cell (p := ⟨b, off + k * 17, none⟩) hb).trans e0
        have c2 : ∀ w', Below w5.heap.size w5 w' → w'.cell? ⟨X, 0, none⟩ = some (.int .i64 s.n) := fun w' hw' => ((hB5.trans (hw'.mono hB5.size)).cell (p := ⟨X, 0, none⟩) hX).trans x0
        refine hs_begin (S := (Below w5.heap.size w5)) 8 rfl (by kernel_rfl) ?_
        rw [hw5]
        clear hw5
        have hS : (Below w5.heap.size w5) w5 := Below.refl _ _
        refine hs_take (i := 0) (d := some 15) (v := ?_) rfl (by kernel_rfl) (by kernel_rfl) (by kernel_rfl) (by rfl) ?_ hS rfl ?_
        rotate_left
        · intro w' hw
          go_simp
          try with_reducible rfl
        simp only [Act.put, List.setIfInBounds_toArray, List.set_cons_zero, List.set_cons_succ]
        refine hs_take (i := 1) (d := some 16) (v := ?_) rfl (by kernel_rfl) (by kernel_rfl) (by kernel_rfl) (by rfl) ?_ hS rfl ?_
        rotate_left
        · intro w' hw
          go_simp
          try with_reducible rfl
        simp only [Act.put, List.setIfInBounds_toArray, List.set_cons_zero, List.set_cons_succ]
        refine hs_take (i := 2) (d := some 17) (v := ?_) rfl (by kernel_rfl) (by kernel_rfl) (by kernel_rfl) (by rfl) ?_ hS rfl ?_
        rotate_left
        · intro w' hw
          go_simp
          try with_reducible rfl
        simp only [Act.put, List.setIfInBounds_toArray, List.set_cons_zero, List.set_cons_succ]
        refine hs_take (i := 3) (d := some 18) (v := ?_) rfl (by kernel_rfl) (by kernel_rfl) (by kernel_rfl) (by rfl) ?_ hS rfl ?_
        rotate_left
        · intro w' hw
          go_simp
          try with_reducible rfl
        simp only [Act.put, List.setIfInBounds_toArray, List.set_cons_zero, List.set_cons_succ]
        refine hs_take (i := 4) (d := some 19) (v := ?_) rfl (by kernel_rfl) (by kernel_rfl) (by kernel_rfl) (by rfl) ?_ hS rfl ?_
        rotate_left
        · intro w' hw
          have hc := c1 w' hw
          go_simp
          try with_reducible rfl
        simp only [Act.put, List.setIfInBounds_toArray, List.set_cons_zero, List.set_cons_succ]
        refine hs_take (i := 5) (d := some 20) (v := ?_) rfl (by kernel_rfl) (by kernel_rfl) (by kernel_rfl) (by rfl) ?_ hS rfl ?_
        rotate_left
        · intro w' hw
          go_simp
          try with_reducible rfl
        simp only [Act.put, List.setIfInBounds_toArray, List.set_cons_zero, List.set_cons_succ]
        refine hs_take (i := 6) (d := some 21) (v := ?_) rfl (by kernel_rfl) (by kernel_rfl) (by kernel_rfl) (by rfl) ?_ hS rfl ?_
        rotate_left
        · intro w' hw
          have hc := c2 w' hw
          go_simp
          try with_reducible rfl
        simp only [Act.put, List.setIfInBounds_toArray, List.set_cons_zero, List.set_cons_succ]
        refine hs_take (i := 7) (d := some 22) (v := .bool true) rfl (by kernel_rfl) (by kernel_rfl) (by kernel_rfl) (by rfl) (fun w' hw => by go_simp) hS rfl ?_
        simp only [Act.put, List.setIfInBounds_toArray, List.set_cons_zero, List.set_cons_succ]
        refine hs_done (by kernel_rfl) ?_
        have hb6 : Below w1.heap.size w1 (w5.alloc (.cells #[] 29)) := hB5.alloc hB5.size _
        have hown6 : (w5.alloc (.cells #[] 29)).ownsRow w1.heap.size 29 17 (.slice (some ⟨w5.heap.size, 0, none⟩) 0 0) 0 [] :=
          ⟨rfl, .inr ⟨w5.heap.size, 0, #[], rfl, hB5.size, heap_alloc_new w5 _, Nat.le_refl _, by unfold maxLen; omega, rfl, rfl⟩⟩
        have hsrc6 := (h1.below hb6).src cap
        go_wp2_with (at_builtin; refine wpList_append_own_src _ rfl _ _ 25 25 rfl w1.heap.size 29 i1 (.agg #[.int .i64 0, .int .u8 0, .int .u8 0, .int .u8 0, .int .u8 0, .int .u8 0, .int .u8 0, .int .u8 0, .int .u8 0, .int .u8 0, .int .u8 0, .int .u8 0, .int .u8 0, .int .u8 0, .int .u8 0, .int .u8 0, .int .u8 0]) 17 24 Try.underlying25 hi1 hiz his hib rfl _ 0 [] rfl hown6 (.slice (some ⟨b, off, none⟩) rs.length cap) rs.length (flatS rs) rfl hsrc6 ?c1 ?c2 ?c3 ?_)
        case c1 => unfold maxLen; omega
        case c2 => omega
        case c3 => first | exact hb6.size | (have hbz := hb6.size; simp at hbz; exact hbz)
        intro v7 w7 hown7 hgrow7
        have hB7 := own17 hb6 hb6.size hown6 hgrow7
        have HF : Hid (SOwn w7 w.heap.size v7 L) := hide (by rw [HA.out]; exact SOwn.mono (B := w1.heap.size) ⟨by simpa using hown7, hall⟩ hB1.size)
        clear hown7 hgrow7 hown6 hsrc6 HA
        go_wp2
        go_ret
        exact ⟨_, rfl, HF.out, hB1.trans (hB7.mono hB1.size)⟩
      · have hb1 : (c == s.n) = false := by simpa using hcc
        have HD' : Hid (∀ j, (hj : j < rs.length) → j < k + 1 → eqN s rs[j] = false) := hide (fun j hj hjk => by
          by_cases e : j = k
          · subst e; unfold eqN; rw [hc.out]; exact hb1
          · exact HD.out j hj (by omega))
        clear hcc HD hc
        go_upto_region 5 with fail
        obtain ⟨w5, hw5⟩ : ∃ w5, wr.drew = w5 := ⟨_, rfl⟩
        have hB5 : Below w1.heap.size w1 w5 := by rw [← hw5]; exact hB.drew
        have c1 : ∀ w', Below w5.heap.size w5 w' → w'.cell? ⟨b, off + k * 17, none⟩ = some (.int .i64 c) := fun w' hw' => ((hB5.trans (hw'.mono hB5.size)).cell (p := ⟨b, off + k * 17, none⟩) hb).trans e0
        have c2 : ∀ w', Below w5.heap.size w5 w' → w'.cell? ⟨X, 0, none⟩ = some (.int .i64 s.n) := fun w' hw' => ((hB5.trans (hw'.mono hB5.size)).cell (p := ⟨X, 0, none⟩) hX).trans x0
        refine hs_begin (S := (Below w5.heap.size w5)) 8 rfl (by kernel_rfl) ?_
        rw [hw5]
        clear hw5
        have hS : (Below w5.heap.size w5) w5 := Below.refl _ _
        refine hs_take (i := 0) (d := some 15) (v := ?_) rfl (by kernel_rfl) (by kernel_rfl) (by kernel_rfl) (by rfl) ?_ hS rfl ?_
        rotate_left
        · intro w' hw
          go_simp
          try with_reducible rfl
        simp only [Act.put, List.setIfInBounds_toArray, List.set_cons_zero, List.set_cons_succ]
        refine hs_take (i := 1) (d := some 16) (v := ?_) rfl (by kernel_rfl) (by kernel_rfl) (by kernel_rfl) (by rfl) ?_ hS rfl ?_
        rotate_left
        · intro w' hw
          go_simp
          try with_reducible rfl
        simp only [Act.put, List.setIfInBounds_toArray, List.set_cons_zero, List.set_cons_succ]
        refine hs_take (i := 2) (d := some 17) (v := ?_) rfl (by kernel_rfl) (by kernel_rfl) (by kernel_rfl) (by rfl) ?_ hS rfl ?_
        rotate_left
        · intro w' hw
          go_simp
          try with_reducible rfl
        simp only [Act.put, List.setIfInBounds_toArray, List.set_cons_zero, List.set_cons_succ]
        refine hs_take (i := 3) (d := some 18) (v := ?_) rfl (by kernel_rfl) (by kernel_rfl) (by kernel_rfl) (by rfl) ?_ hS rfl ?_
        rotate_left
        · intro w' hw
          go_simp
          try with_reducible rfl
        simp only [Act.put, List.setIfInBounds_toArray, List.set_cons_zero, List.set_cons_succ]
        refine hs_take (i := 4) (d := some 19) (v := ?_) rfl (by kernel_rfl) (by kernel_rfl) (by kernel_rfl) (by rfl) ?_ hS rfl ?_
        rotate_left
        · intro w' hw
          have hc := c1 w' hw
          go_simp
          try with_reducible rfl
        simp only [Act.put, List.setIfInBounds_toArray, List.set_cons_zero, List.set_cons_succ]
        refine hs_take (i := 5) (d := some 20) (v := ?_) rfl (by kernel_rfl) (by kernel_rfl) (by kernel_rfl) (by rfl) ?_ hS rfl ?_
        rotate_left
        · intro w' hw
          go_simp
          try with_reducible rfl
        simp only [Act.put, List.setIfInBounds_toArray, List.set_cons_zero, List.set_cons_succ]
        refine hs_take (i := 6) (d := some 21) (v := ?_) rfl (by kernel_rfl) (by kernel_rfl) (by kernel_rfl) (by rfl) ?_ hS rfl ?_
        rotate_left
        · intro w' hw
          have hc := c2 w' hw
          go_simp
          try with_reducible rfl
        simp only [Act.put, List.setIfInBounds_toArray, List.set_cons_zero, List.set_cons_succ]
        refine hs_take (i := 7) (d := some 22) (v := .bool false) rfl (by kernel_rfl) (by kernel_rfl) (by kernel_rfl) (by rfl) (fun w' hw => by go_simp) hS rfl ?_
        simp only [Act.put, List.setIfInBounds_toArray, List.set_cons_zero, List.set_cons_succ]
        refine hs_done (by kernel_rfl) ?_
        go_wp2
        go_roundw
        case rel => exact ⟨k + 1, by omega, by go_num, HD', hB5⟩
        case measure => simp [intOf]; omega
    · have k1 : ¬ (k : Int) < rs.length := by omega
      have HA : Hid (L = insS s rs) := hide (by
        rw [← hLe.out]
        unfold addS
        rw [if_neg]
        intro hh
        rw [List.any_eq_true] at hh
        obtain ⟨x, hx, hxe⟩ := hh
        obtain ⟨j, hj, rfl⟩ := List.mem_iff_getElem.1 hx
        rw [HD.out j hj (by omega)] at hxe
        cases hxe)
      obtain ⟨wo, rfl⟩ : ∃ wo, wo = wr := ⟨_, rfl⟩
      clear HD hk
      go_wp2
      go_loopw [5, 7, 8] (fun ov dv jv wr => ∃ (k : Nat) (d : Bool) (out : List Sg) (v : Value), v = ov ∧ k ≤ rs.length ∧ out.length ≤ k + (if d then 1 else 0) ∧ jv = .int .i64 (k : Int) ∧ dv = .bool d ∧ Hid (out ++ (if d then rs.drop k else insS s (rs.drop k)) = insS s rs) ∧ Hid (wr.ownsRow w1.heap.size 29 17 v out.length (flatS out)) ∧ Below w1.heap.size w1 wr) (fun _ _ jv _ => rs.length - (intOf jv).toNat)
      case atStart => exact ⟨0, false, [], _, rfl, by omega, by simp, rfl, rfl, hide (by simp), hide (World.ownsRow_nil _ _ _ _), hB⟩
      case round =>
        clear hB k1
        obtain ⟨k, d, out, v, rfl, hk, hol, rfl, rfl, HI, HO, hB⟩ := hrel
        by_cases hlt : k < rs.length
        · have k1 : (k : Int) < rs.length := by omega
          obtain ⟨b, off, rfl, hb, hre⟩ := h1.elem k hlt
          have hdr : rs.drop k = rs[k] :: rs.drop (k + 1) := List.drop_eq_getElem_cons hlt
          obtain ⟨r, hr⟩ : ∃ r, Hid (rs[k] = r) := ⟨_, hide rfl⟩
          have hok : r.ok := by rw [← hr.out]; exact hall _ (List.getElem_mem hlt)
          rw [hr.out] at hre hdr
          rw [hdr] at HI
          have ri := hok.isz
          have rl := hok.length
          have ro := r.one
          have hfold2 := fold_s #[.int .i64 0, .int .u8 0, .int .u8 0, .int .u8 0, .int .u8 0, .int .u8 0, .int .u8 0, .int .u8 0, .int .u8 0, .int .u8 0, .int .u8 0, .int .u8 0, .int .u8 0, .int .u8 0, .int .u8 0, .int .u8 0, .int .u8 0] r.cells (by rw [rl]; rfl)
          have HCr := hide (show flatS [r] = r.cells by simp [flatS])
          have e0 : w1.cell? ⟨b, off + k * 17, none⟩ = some (.int .i64 r.n) := Sg.first hre
          obtain ⟨c, hce⟩ : ∃ c, Hid (r.n = c) := ⟨_, hide rfl⟩
          rw [hce.out] at e0
          obtain ⟨y, hy⟩ : ∃ y, Hid (r.cells = y) := ⟨_, hide rfl⟩
          rw [hy.out] at hre ri rl ro hfold2 HCr
          clear hr hy hok hdr
          cases d with
          | true =>
            simp only [if_true] at hol
            go_upto_region 11 with fail
            obtain ⟨w5, hw5⟩ : ∃ w5, wr.drew = w5 := ⟨_, rfl⟩
            have hB5 : Below w1.heap.size w1 w5 := by rw [← hw5]; exact hB.drew
            have c1 : ∀ w', Below w5.heap.size w5 w' → w'.cell? ⟨b, off + k * 17, none⟩ = some (.int .i64 c) := fun w' hw' => ((hB5.trans (hw'.mono hB5.size)).cell (p := ⟨b, off + k * 17, none⟩) hb).trans e0
            have c2 : ∀ w', Below w5.heap.size w5 w' → w'.cell? ⟨X, 0, none⟩ = some (.int .i64 s.n) := fun w' hw' => ((hB5.trans (hw'.mono hB5.size)).cell (p := ⟨X, 0, none⟩) hX).trans x0
            refine hs_begin (S := (Below w5.heap.size w5)) 12 rfl (by kernel_rfl) ?_
            rw [hw5]
            have hw5x := hw5
            clear hw5
            have hS : (Below w5.heap.size w5) w5 := Below.refl _ _
            refine hs_take (i := 0) (d := some 32) (v := ?_) rfl (by kernel_rfl) (by kernel_rfl) (by kernel_rfl) (by rfl) ?_ hS rfl ?_
            rotate_left
            · intro w' hw
              go_simp
              try with_reducible rfl
            simp only [Act.put, List.setIfInBounds_toArray, List.set_cons_zero, List.set_cons_succ]
            refine hs_take (i := 1) (d := some 33) (v := ?_) rfl (by kernel_rfl) (by kernel_rfl) (by kernel_rfl) (by rfl) ?_ hS rfl ?_
            rotate_left
            · intro w' hw
              go_simp
              try with_reducible rfl
            simp only [Act.put, List.setIfInBounds_toArray, List.set_cons_zero, List.set_cons_succ]
            refine hs_take (i := 2) (d := some 34) (v := ?_) rfl (by kernel_rfl) (by kernel_rfl) (by kernel_rfl) (by rfl) ?_ hS rfl ?_
            rotate_left
            · intro w' hw
              go_simp
              try with_reducible rfl
            simp only [Act.put, List.setIfInBounds_toArray, List.set_cons_zero, List.set_cons_succ]
            refine hs_skip (i := 3) (d := some 35) rfl (by kernel_rfl) (by kernel_rfl) (by kernel_rfl) (by rfl) hS rfl ?_
            simp only [Act.put, List.setIfInBounds_toArray, List.set_cons_zero, List.set_cons_succ]
            refine hs_skip (i := 4) (d := some 36) rfl (by kernel_rfl) (by kernel_rfl) (by kernel_rfl) (by rfl) hS rfl ?_
            simp only [Act.put, List.setIfInBounds_toArray, List.set_cons_zero, List.set_cons_succ]
            refine hs_skip (i := 5) (d := some 37) rfl (by kernel_rfl) (by kernel_rfl) (by kernel_rfl) (by rfl) hS rfl ?_
            simp only [Act.put, List.setIfInBounds_toArray, List.set_cons_zero, List.set_cons_succ]
            refine hs_skip (i := 6) (d := some 38) rfl (by kernel_rfl) (by kernel_rfl) (by kernel_rfl) (by rfl) hS rfl ?_
            simp only [Act.put, List.setIfInBounds_toArray, List.set_cons_zero, List.set_cons_succ]
            refine hs_skip (i := 7) (d := some 39) rfl (by kernel_rfl) (by kernel_rfl) (by kernel_rfl) (by rfl) hS rfl ?_
            simp only [Act.put, List.setIfInBounds_toArray, List.set_cons_zero, List.set_cons_succ]
            refine hs_skip (i := 8) (d := some 40) rfl (by kernel_rfl) (by kernel_rfl) (by kernel_rfl) (by rfl) hS rfl ?_
            simp only [Act.put, List.setIfInBounds_toArray, List.set_cons_zero, List.set_cons_succ]
            refine hs_skip (i := 9) (d := some 41) rfl (by kernel_rfl) (by kernel_rfl) (by kernel_rfl) (by rfl) hS rfl ?_
            simp only [Act.put, List.setIfInBounds_toArray, List.set_cons_zero, List.set_cons_succ]
            refine hs_skip (i := 10) (d := some 42) rfl (by kernel_rfl) (by kernel_rfl) (by kernel_rfl) (by rfl) hS rfl ?_
            simp only [Act.put, List.setIfInBounds_toArray, List.set_cons_zero, List.set_cons_succ]
            refine hs_take (i := 11) (d := some 43) (v := .bool false) rfl (by kernel_rfl) (by kernel_rfl) (by kernel_rfl) (by rfl) (fun w' hw => by go_simp) hS rfl ?_
            simp only [Act.put, List.setIfInBounds_toArray, List.set_cons_zero, List.set_cons_succ]
            refine hs_done (by kernel_rfl) ?_
            have hre5 := range_below hre hB5 hb
            have HO5 := hide (own_low HO.out (Below.refl wr.heap.size wr).drew)
            have hB6 := hB5
            rw [show wr.drew = w5 from hw5x] at HO5
            go_upto_region 14 with fail
            try simp only [Act.put]
            refine wp_region_list ?_
            refine wpList_step fun K hK => ?_
            go_simp
            refine hK _ _ ?_
            clear hK K
            refine wpList_step fun K hK => ?_
            go_simp
            refine hK _ _ ?_
            clear hK K
            refine wpList_step fun K hK => ?_
            go_simp
            refine hK _ _ ?_
            clear hK K
            refine wpList_step fun K hK => ?_
            go_simp
            refine hK _ _ ?_
            clear hK K
            refine wpList_load_mid rfl 29 _ rfl _ _ rfl y _ hre5 Try.underlying29 rfl ri ?_
            have hb6r : Below w1.heap.size w1 (w5.alloc (.cells y.toArray 29)) := hB6.alloc hB6.size _
            have hsrcr := one_sign w5 y rl ro
            have hownr := HO5.out.alloc (.cells y.toArray 29)
            go_wp2_with (at_builtin; refine wpList_append_own_src _ rfl _ _ 25 25 rfl w1.heap.size 29 i1 (.agg #[.int .i64 0, .int .u8 0, .int .u8 0, .int .u8 0, .int .u8 0, .int .u8 0, .int .u8 0, .int .u8 0, .int .u8 0, .int .u8 0, .int .u8 0, .int .u8 0, .int .u8 0, .int .u8 0, .int .u8 0, .int .u8 0, .int .u8 0]) 17 24 Try.underlying25 hi1 hiz his hib rfl _ out.length (flatS out) rfl hownr (.slice (some ⟨w5.heap.size, 0, none⟩) 1 1) 1 y rfl hsrcr ?c1 ?c2 ?c3 ?_)
            case c1 => unfold maxLen; omega
            case c2 => omega
            case c3 => first | exact hb6r.size | (have hbz := hb6r.size; simp at hbz; exact hbz)
            intro v9 w9 hown9 hgrow9
            have hB9 := own17 hb6r hb6r.size hownr hgrow9
            have HO9 := hide hown9
            clear hown9 hgrow9 hownr hsrcr hb6r
            have HI' : Hid ((out ++ [r]) ++ (if true then rs.drop (k + 1) else insS s (rs.drop (k + 1))) = insS s rs) := hide (by
              have := HI.out
              simp only [if_true] at this ⊢
              rw [← this]
              simp)
            have HO' : Hid (w9.ownsRow w1.heap.size 29 17 v9 (out ++ [r]).length (flatS (out ++ [r]))) := hide (by
              rw [flatS_append, HCr.out, List.length_append]
              exact HO9.out)
            clear HO9 HO HI HO5
            go_wp2
            go_roundw
            case rel => exact ⟨k + 1, true, out ++ [r], _, rfl, by omega, by simp; omega, by go_num, rfl, HI', HO', hB9⟩
            case measure => simp [intOf]; omega
          | false =>
            simp only [Bool.false_eq_true, if_false] at hol
            by_cases hgt : s.n < c
            · have HG : Hid (gtN s r = true) := hide (by unfold gtN; rw [hce.out]; exact decide_eq_true hgt)
              go_upto_region 11 with fail
              obtain ⟨w5, hw5⟩ : ∃ w5, wr.drew = w5 := ⟨_, rfl⟩
              have hB5 : Below w1.heap.size w1 w5 := by rw [← hw5]; exact hB.drew
              have c1 : ∀ w', Below w5.heap.size w5 w' → w'.cell? ⟨b, off + k * 17, none⟩ = some (.int .i64 c) := fun w' hw' => ((hB5.trans (hw'.mono hB5.size)).cell (p := ⟨b, off + k * 17, none⟩) hb).trans e0
              have c2 : ∀ w', Below w5.heap.size w5 w' → w'.cell? ⟨X, 0, none⟩ = some (.int .i64 s.n) := fun w' hw' => ((hB5.trans (hw'.mono hB5.size)).cell (p := ⟨X, 0, none⟩) hX).trans x0
              refine hs_begin (S := (Below w5.heap.size w5)) 12 rfl (by kernel_rfl) ?_
              rw [hw5]
              have hw5x := hw5
              clear hw5
              have hS : (Below w5.heap.size w5) w5 := Below.refl _ _
              refine hs_take (i := 0) (d := some 32) (v := ?_) rfl (by kernel_rfl) (by kernel_rfl) (by kernel_rfl) (by rfl) ?_ hS rfl ?_
              rotate_left
              · intro w' hw
                go_simp
                try with_reducible rfl
              simp only [Act.put, List.setIfInBounds_toArray, List.set_cons_zero, List.set_cons_succ]
              refine hs_take (i := 1) (d := some 33) (v := ?_) rfl (by kernel_rfl) (by kernel_rfl) (by kernel_rfl) (by rfl) ?_ hS rfl ?_
              rotate_left
              · intro w' hw
                go_simp
                try with_reducible rfl
              simp only [Act.put, List.setIfInBounds_toArray, List.set_cons_zero, List.set_cons_succ]
              refine hs_take (i := 2) (d := some 34) (v := ?_) rfl (by kernel_rfl) (by kernel_rfl) (by kernel_rfl) (by rfl) ?_ hS rfl ?_
              rotate_left
              · intro w' hw
                go_simp
                try with_reducible rfl
              simp only [Act.put, List.setIfInBounds_toArray, List.set_cons_zero, List.set_cons_succ]
              refine hs_take (i := 3) (d := some 35) (v := ?_) rfl (by kernel_rfl) (by kernel_rfl) (by kernel_rfl) (by rfl) ?_ hS rfl ?_
              rotate_left
              · intro w' hw
                go_simp
                try with_reducible rfl
              simp only [Act.put, List.setIfInBounds_toArray, List.set_cons_zero, List.set_cons_succ]
              refine hs_take (i := 4) (d := some 36) (v := ?_) rfl (by kernel_rfl) (by kernel_rfl) (by kernel_rfl) (by rfl) ?_ hS rfl ?_
              rotate_left
              · intro w' hw
                go_simp
                try with_reducible rfl
              simp only [Act.put, List.setIfInBounds_toArray, List.set_cons_zero, List.set_cons_succ]
              refine hs_take (i := 5) (d := some 37) (v := ?_) rfl (by kernel_rfl) (by kernel_rfl) (by kernel_rfl) (by rfl) ?_ hS rfl ?_
              rotate_left
              · intro w' hw
                go_simp
                try with_reducible rfl
              simp only [Act.put, List.setIfInBounds_toArray, List.set_cons_zero, List.set_cons_succ]
              refine hs_take (i := 6) (d := some 38) (v := ?_) rfl (by kernel_rfl) (by kernel_rfl) (by kernel_rfl) (by rfl) ?_ hS rfl ?_
              rotate_left
              · intro w' hw
                go_simp
                try with_reducible rfl
              simp only [Act.put, List.setIfInBounds_toArray, List.set_cons_zero, List.set_cons_succ]
              refine hs_take (i := 7) (d := some 39) (v := ?_) rfl (by kernel_rfl) (by kernel_rfl) (by kernel_rfl) (by rfl) ?_ hS rfl ?_
              rotate_left
              · intro w' hw
                have hc := c1 w' hw
                go_simp
                try with_reducible rfl
              simp only [Act.put, List.setIfInBounds_toArray, List.set_cons_zero, List.set_cons_succ]
              refine hs_take (i := 8) (d := some 40) (v := ?_) rfl (by kernel_rfl) (by kernel_rfl) (by kernel_rfl) (by rfl) ?_ hS rfl ?_
              rotate_left
              · intro w' hw
                go_simp
                try with_reducible rfl
              simp only [Act.put, List.setIfInBounds_toArray, List.set_cons_zero, List.set_cons_succ]
              refine hs_take (i := 9) (d := some 41) (v := ?_) rfl (by kernel_rfl) (by kernel_rfl) (by kernel_rfl) (by rfl) ?_ hS rfl ?_
              rotate_left
              · intro w' hw
                have hc := c2 w' hw
                go_simp
                try with_reducible rfl
              simp only [Act.put, List.setIfInBounds_toArray, List.set_cons_zero, List.set_cons_succ]
              refine hs_take (i := 10) (d := some 42) (v := .bool true) rfl (by kernel_rfl) (by kernel_rfl) (by kernel_rfl) (by rfl) (fun w' hw => by go_simp) hS rfl ?_
              simp only [Act.put, List.setIfInBounds_toArray, List.set_cons_zero, List.set_cons_succ]
              refine hs_take (i := 11) (d := some 43) (v := .bool true) rfl (by kernel_rfl) (by kernel_rfl) (by kernel_rfl) (by rfl) (fun w' hw => by go_simp) hS rfl ?_
              simp only [Act.put, List.setIfInBounds_toArray, List.set_cons_zero, List.set_cons_succ]
              refine hs_done (by kernel_rfl) ?_
              have hre5 := range_below hre hB5 hb
              have hR5 := range_below hR1 hB5 hX
              have HO5 := hide (own_low HO.out (Below.refl wr.heap.size wr).drew)
              have hB6 := hB5
              rw [show wr.drew = w5 from hw5x] at HO5
              go_upto_region 12 with fail
              try simp only [Act.put]
              refine wp_region_list ?_
              refine wpList_step fun K hK => ?_
              go_simp
              refine hK _ _ ?_
              clear hK K
              refine wpList_load_mid rfl 29 _ rfl _ _ rfl u _ hR5 Try.underlying29 rfl ui ?_
              have hb6u : Below w1.heap.size w1 (w5.alloc (.cells u.toArray 29)) := hB6.alloc hB6.size _
              have hsrcu := one_sign w5 u ul uo
              have hownu := HO5.out.alloc (.cells u.toArray 29)
              go_wp2_with (at_builtin; refine wpList_append_own_src _ rfl _ _ 25 25 rfl w1.heap.size 29 i1 (.agg #[.int .i64 0, .int .u8 0, .int .u8 0, .int .u8 0, .int .u8 0, .int .u8 0, .int .u8 0, .int .u8 0, .int .u8 0, .int .u8 0, .int .u8 0, .int .u8 0, .int .u8 0, .int .u8 0, .int .u8 0, .int .u8 0, .int .u8 0]) 17 24 Try.underlying25 hi1 hiz his hib rfl _ out.length (flatS out) rfl hownu (.slice (some ⟨w5.heap.size, 0, none⟩) 1 1) 1 u rfl hsrcu ?c1 ?c2 ?c3 ?_)
              case c1 => unfold maxLen; omega
              case c2 => omega
              case c3 => first | exact hb6u.size | (have hbz := hb6u.size; simp at hbz; exact hbz)
              intro v8 w8 hown8 hgrow8
              have hB8 := own17 hb6u hb6u.size hownu hgrow8
              have HO8 := hide hown8
              clear hown8 hgrow8 hownu hsrcu hb6u
              have hre8 := range_below hre hB8 hb
              have hB7 := hB8
              go_upto_region 14 with fail
              try simp only [Act.put]
              refine wp_region_list ?_
              refine wpList_step fun K hK => ?_
              go_simp
              refine hK _ _ ?_
              clear hK K
              refine wpList_step fun K hK => ?_
              go_simp
              refine hK _ _ ?_
              clear hK K
              refine wpList_step fun K hK => ?_
              go_simp
              refine hK _ _ ?_
              clear hK K
              refine wpList_step fun K hK => ?_
              go_simp
              refine hK _ _ ?_
              clear hK K
              refine wpList_load_mid rfl 29 _ rfl _ _ rfl y _ hre8 Try.underlying29 rfl ri ?_
              have hb6r : Below w1.heap.size w1 (w8.alloc (.cells y.toArray 29)) := hB7.alloc hB7.size _
              have hsrcr := one_sign w8 y rl ro
              have hownr := HO8.out.alloc (.cells y.toArray 29)
              go_wp2_with (at_builtin; refine wpList_append_own_src _ rfl _ _ 25 25 rfl w1.heap.size 29 i1 (.agg #[.int .i64 0, .int .u8 0, .int .u8 0, .int .u8 0, .int .u8 0, .int .u8 0, .int .u8 0, .int .u8 0, .int .u8 0, .int .u8 0, .int .u8 0, .int .u8 0, .int .u8 0, .int .u8 0, .int .u8 0, .int .u8 0, .int .u8 0]) 17 24 Try.underlying25 hi1 hiz his hib rfl _ (out.length + 1) (flatS out ++ u) rfl hownr (.slice (some ⟨w8.heap.size, 0, none⟩) 1 1) 1 y rfl hsrcr ?c1 ?c2 ?c3 ?_)
              case c1 => unfold maxLen; omega
              case c2 => omega
              case c3 => first | exact hb6r.size | (have hbz := hb6r.size; simp at hbz; exact hbz)
              intro v9 w9 hown9 hgrow9
              have hB9 := own17 hb6r hb6r.size hownr hgrow9
              have HO9 := hide hown9
              clear hown9 hgrow9 hownr hsrcr hb6r
              have HI' : Hid ((out ++ [s] ++ [r]) ++ (if true then rs.drop (k + 1) else insS s (rs.drop (k + 1))) = insS s rs) := hide (by
                have := HI.out
                simp only [Bool.false_eq_true, if_false, insS, HG.out, if_true] at this ⊢
                rw [← this]
                simp)
              have HO' : Hid (w9.ownsRow w1.heap.size 29 17 v9 (out ++ [s] ++ [r]).length (flatS (out ++ [s] ++ [r]))) := hide (by
                rw [flatS_append, flatS_append, HCr.out, HC.out, List.length_append, List.length_append, List.append_assoc]
                exact HO9.out)
              clear HO9 HO HI HO5 HO8
              go_wp2
              go_roundw
              case rel => exact ⟨k + 1, true, out ++ [s] ++ [r], _, rfl, by omega, by simp; omega, by go_num, rfl, HI', HO', hB9⟩
              case measure => simp [intOf]; omega
            · have HG : Hid (gtN s r = false) := hide (by unfold gtN; rw [hce.out]; exact decide_eq_false hgt)
              go_upto_region 11 with fail
              obtain ⟨w5, hw5⟩ : ∃ w5, wr.drew = w5 := ⟨_, rfl⟩
              have hB5 : Below w1.heap.size w1 w5 := by rw [← hw5]; exact hB.drew
              have c1 : ∀ w', Below w5.heap.size w5 w' → w'.cell? ⟨b, off + k * 17, none⟩ = some (.int .i64 c) := fun w' hw' => ((hB5.trans (hw'.mono hB5.size)).cell (p := ⟨b, off + k * 17, none⟩) hb).trans e0
              have c2 : ∀ w', Below w5.heap.size w5 w' → w'.cell? ⟨X, 0, none⟩ = some (.int .i64 s.n) := fun w' hw' => ((hB5.trans (hw'.mono hB5.size)).cell (p := ⟨X, 0, none⟩) hX).trans x0
              refine hs_begin (S := (Below w5.heap.size w5)) 12 rfl (by kernel_rfl) ?_
              rw [hw5]
              have hw5x := hw5
              clear hw5
              have hS : (Below w5.heap.size w5) w5 := Below.refl _ _
              refine hs_take (i := 0) (d := some 32) (v := ?_) rfl (by kernel_rfl) (by kernel_rfl) (by kernel_rfl) (by rfl) ?_ hS rfl ?_
              rotate_left
              · intro w' hw
                go_simp
                try with_reducible rfl
              simp only [Act.put, List.setIfInBounds_toArray, List.set_cons_zero, List.set_cons_succ]
              refine hs_take (i := 1) (d := some 33) (v := ?_) rfl (by kernel_rfl) (by kernel_rfl) (by kernel_rfl) (by rfl) ?_ hS rfl ?_
              rotate_left
              · intro w' hw
                go_simp
                try with_reducible rfl
              simp only [Act.put, List.setIfInBounds_toArray, List.set_cons_zero, List.set_cons_succ]
              refine hs_take (i := 2) (d := some 34) (v := ?_) rfl (by kernel_rfl) (by kernel_rfl) (by kernel_rfl) (by rfl) ?_ hS rfl ?_
              rotate_left
              · intro w' hw
                go_simp
                try with_reducible rfl
              simp only [Act.put, List.setIfInBounds_toArray, List.set_cons_zero, List.set_cons_succ]
              refine hs_take (i := 3) (d := some 35) (v := ?_) rfl (by kernel_rfl) (by kernel_rfl) (by kernel_rfl) (by rfl) ?_ hS rfl ?_
              rotate_left
              · intro w' hw
                go_simp
                try with_reducible rfl
              simp only [Act.put, List.setIfInBounds_toArray, List.set_cons_zero, List.set_cons_succ]
              refine hs_take (i := 4) (d := some 36) (v := ?_) rfl (by kernel_rfl) (by kernel_rfl) (by kernel_rfl) (by rfl) ?_ hS rfl ?_
              rotate_left
              · intro w' hw
                go_simp
                try with_reducible rfl
              simp only [Act.put, List.setIfInBounds_toArray, List.set_cons_zero, List.set_cons_succ]
              refine hs_take (i := 5) (d := some 37) (v := ?_) rfl (by kernel_rfl) (by kernel_rfl) (by kernel_rfl) (by rfl) ?_ hS rfl ?_
              rotate_left
              · intro w' hw
                go_simp
                try with_reducible rfl
              simp only [Act.put, List.setIfInBounds_toArray, List.set_cons_zero, List.set_cons_succ]
              refine hs_take (i := 6) (d := some 38) (v := ?_) rfl (by kernel_rfl) (by kernel_rfl) (by kernel_rfl) (by rfl) ?_ hS rfl ?_
              rotate_left
              · intro w' hw
                go_simp
                try with_reducible rfl
              simp only [Act.put, List.setIfInBounds_toArray, List.set_cons_zero, List.set_cons_succ]
              refine hs_take (i := 7) (d := some 39) (v := ?_) rfl (by kernel_rfl) (by kernel_rfl) (by kernel_rfl) (by rfl) ?_ hS rfl ?_
              rotate_left
              · intro w' hw
                have hc := c1 w' hw
                go_simp
                try with_reducible rfl
              simp only [Act.put, List.setIfInBounds_toArray, List.set_cons_zero, List.set_cons_succ]
              refine hs_take (i := 8) (d := some 40) (v := ?_) rfl (by kernel_rfl) (by kernel_rfl) (by kernel_rfl) (by rfl) ?_ hS rfl ?_
              rotate_left
              · intro w' hw
                go_simp
                try with_reducible rfl
              simp only [Act.put, List.setIfInBounds_toArray, List.set_cons_zero, List.set_cons_succ]
              refine hs_take (i := 9) (d := some 41) (v := ?_) rfl (by kernel_rfl) (by kernel_rfl) (by kernel_rfl) (by rfl) ?_ hS rfl ?_
              rotate_left
              · intro w' hw
                have hc := c2 w' hw
                go_simp
                try with_reducible rfl
              simp only [Act.put, List.setIfInBounds_toArray, List.set_cons_zero, List.set_cons_succ]
              refine hs_take (i := 10) (d := some 42) (v := .bool false) rfl (by kernel_rfl) (by kernel_rfl) (by kernel_rfl) (by rfl) (fun w' hw => by go_simp) hS rfl ?_
              simp only [Act.put, List.setIfInBounds_toArray, List.set_cons_zero, List.set_cons_succ]
              refine hs_take (i := 11) (d := some 43) (v := .bool false) rfl (by kernel_rfl) (by kernel_rfl) (by kernel_rfl) (by rfl) (fun w' hw => by go_simp) hS rfl ?_
              simp only [Act.put, List.setIfInBounds_toArray, List.set_cons_zero, List.set_cons_succ]
              refine hs_done (by kernel_rfl) ?_
              have hre5 := range_below hre hB5 hb
              have HO5 := hide (own_low HO.out (Below.refl wr.heap.size wr).drew)
              have hB6 := hB5
              rw [show wr.drew = w5 from hw5x] at HO5
              go_upto_region 14 with fail
              try simp only [Act.put]
              refine wp_region_list ?_
              refine wpList_step fun K hK => ?_
              go_simp
              refine hK _ _ ?_
              clear hK K
              refine wpList_step fun K hK => ?_
              go_simp
              refine hK _ _ ?_
              clear hK K
              refine wpList_step fun K hK => ?_
              go_simp
              refine hK _ _ ?_
              clear hK K
              refine wpList_step fun K hK => ?_
              go_simp
              refine hK _ _ ?_
              clear hK K
              refine wpList_load_mid rfl 29 _ rfl _ _ rfl y _ hre5 Try.underlying29 rfl ri ?_
              have hb6r : Below w1.heap.size w1 (w5.alloc (.cells y.toArray 29)) := hB6.alloc hB6.size _
              have hsrcr := one_sign w5 y rl ro
              have hownr := HO5.out.alloc (.cells y.toArray 29)
              go_wp2_with (at_builtin; refine wpList_append_own_src _ rfl _ _ 25 25 rfl w1.heap.size 29 i1 (.agg #[.int .i64 0, .int .u8 0, .int .u8 0, .int .u8 0, .int .u8 0, .int .u8 0, .int .u8 0, .int .u8 0, .int .u8 0, .int .u8 0, .int .u8 0, .int .u8 0, .int .u8 0, .int .u8 0, .int .u8 0, .int .u8 0, .int .u8 0]) 17 24 Try.underlying25 hi1 hiz his hib rfl _ out.length (flatS out) rfl hownr (.slice (some ⟨w5.heap.size, 0, none⟩) 1 1) 1 y rfl hsrcr ?c1 ?c2 ?c3 ?_)
              case c1 => unfold maxLen; omega
              case c2 => omega
              case c3 => first | exact hb6r.size | (have hbz := hb6r.size; simp at hbz; exact hbz)
              intro v9 w9 hown9 hgrow9
              have hB9 := own17 hb6r hb6r.size hownr hgrow9
              have HO9 := hide hown9
              clear hown9 hgrow9 hownr hsrcr hb6r
              have HI' : Hid ((out ++ [r]) ++ (if false then rs.drop (k + 1) else insS s (rs.drop (k + 1))) = insS s rs) := hide (by
                have := HI.out
                simp only [Bool.false_eq_true, if_false, insS, HG.out] at this ⊢
                rw [← this]
                simp)
              have HO' : Hid (w9.ownsRow w1.heap.size 29 17 v9 (out ++ [r]).length (flatS (out ++ [r]))) := hide (by
                rw [flatS_append, HCr.out, List.length_append]
                exact HO9.out)
              clear HO9 HO HI HO5
              go_wp2
              go_roundw
              case rel => exact ⟨k + 1, false, out ++ [r], _, rfl, by omega, by simp; omega, by go_num, rfl, HI', HO', hB9⟩
              case measure => simp [intOf]; omega
        · have k1 : ¬ (k : Int) < rs.length := by omega
          have hdr : rs.drop k = [] := List.drop_of_length_le (by omega)
          rw [hdr] at HI
          have HK := hide (insS_ok hs rs hall)
          cases d with
          | true =>
            simp only [if_true] at hol
            have hx : wr.ownsRow w1.heap.size 29 17 v (insS s rs).length (flatS (insS s rs)) := by
              have := HI.out
              simp only [if_true, List.append_nil] at this
              rw [← this]
              exact HO.out
            have HF : Hid (SOwn wr w.heap.size v L) := hide (by rw [HA.out]; exact SOwn.mono (B := w1.heap.size) ⟨hx, HK.out⟩ hB1.size)
            clear hx
            clear HI HO HA HK hdr
            go_wp2
            go_ret
            exact ⟨_, rfl, HF.out, hB1.trans (hB.mono hB1.size)⟩
          | false =>
            simp only [Bool.false_eq_true, if_false] at hol
            have hR5 := range_below hR1 hB hX
            go_upto_region 16 with fail
            try simp only [Act.put]
            refine wp_region_list ?_
            refine wpList_step fun K hK => ?_
            go_simp
            refine hK _ _ ?_
            clear hK K
            refine wpList_load_mid rfl 29 _ rfl _ _ rfl u _ hR5 Try.underlying29 rfl ui ?_
            have hb6u : Below w1.heap.size w1 (wr.alloc (.cells u.toArray 29)) := hB.alloc hB.size _
            have hsrcu := one_sign wr u ul uo
            have hownu := HO.out.alloc (.cells u.toArray 29)
            go_wp2_with (at_builtin; refine wpList_append_own_src _ rfl _ _ 25 25 rfl w1.heap.size 29 i1 (.agg #[.int .i64 0, .int .u8 0, .int .u8 0, .int .u8 0, .int .u8 0, .int .u8 0, .int .u8 0, .int .u8 0, .int .u8 0, .int .u8 0, .int .u8 0, .int .u8 0, .int .u8 0, .int .u8 0, .int .u8 0, .int .u8 0, .int .u8 0]) 17 24 Try.underlying25 hi1 hiz his hib rfl _ out.length (flatS out) rfl hownu (.slice (some ⟨wr.heap.size, 0, none⟩) 1 1) 1 u rfl hsrcu ?c1 ?c2 ?c3 ?_)
            case c1 => unfold maxLen; omega
            case c2 => omega
            case c3 => first | exact hb6u.size | (have hbz := hb6u.size; simp at hbz; exact hbz)
            intro v9 w9 hown9 hgrow9
            have hB9 := own17 hb6u hb6u.size hownu hgrow9
            have HO9 := hide hown9
            clear hown9 hgrow9 hownu hsrcu hb6u
            have hx : w9.ownsRow w1.heap.size 29 17 v9 (insS s rs).length (flatS (insS s rs)) := by
              have := HI.out
              simp only [Bool.false_eq_true, if_false, insS] at this
              rw [← this, flatS_append, HC.out, List.length_append]
              exact HO9.out
            have HF : Hid (SOwn w9 w.heap.size v9 L) := hide (by rw [HA.out]; exact SOwn.mono (B := w1.heap.size) ⟨hx, HK.out⟩ hB1.size)
            clear hx
            clear HI HO HA HK hdr HO9
            go_wp2
            go_ret
            exact ⟨_, rfl, HF.out, hB1.trans (hB9.mono hB1.size)⟩
end Go.Proofs.Ytbfhpgneaklgoaa
