/- the document's comparisons, of what is the same; Of -/
import Derived.Test.YtogmkcabndgllaaDoorS8h
import Derived.Test.YtogmkcabndgllaaDoorSArgs
namespace Go.Proofs.YtogmkcabndgllaaDoor
open Go.RowKit
open Sha Tal
set_option linter.unusedVariables false
theorem results_c1 {fn : Func} {p : Tmp} {ty : TypeId} (h : fn.results = #[.cell p ty]) (tmps : Array Value) (P : Program) (w : World) {a : Addr} {v : Value} (ha : tmps.getD p undef = .pointer (some a)) (hv : (loadVar ty a).run P w = .ok v w) : (results fn tmps).run P w = .ok v w := by
  simp only [Array.getD_eq_getD_getElem?] at ha
  simp only [results, h]
  simp [ha, asAddr, hv]
theorem iszG : (Tryd.prog.info? 101).map (·.size) = some 17 := by kernel_rfl
theorem two_box {w : World} (q r : List Value) (t u : TypeId) : Below w.heap.size w ((w.alloc (.cells q.toArray t)).alloc (.cells r.toArray u)) ∧ ((w.alloc (.cells q.toArray t)).alloc (.cells r.toArray u)).rangeAt w.heap.size 0 q ∧ ((w.alloc (.cells q.toArray t)).alloc (.cells r.toArray u)).rangeAt (w.heap.size + 1) 0 r ∧ w.heap.size + 2 ≤ ((w.alloc (.cells q.toArray t)).alloc (.cells r.toArray u)).heap.size := by
  have hb1 : Below w.heap.size w (w.alloc (.cells q.toArray t)) := (Below.refl _ _).alloc (Nat.le_refl _) _
  have hb2 : Below (w.alloc (.cells q.toArray t)).heap.size (w.alloc (.cells q.toArray t)) ((w.alloc (.cells q.toArray t)).alloc (.cells r.toArray u)) := (Below.refl _ _).alloc (Nat.le_refl _) _
  refine ⟨hb1.trans (hb2.mono (by simp)), range_below (by simpa using range_new w q.toArray t) hb2 (by simp), ?_, by simp⟩
  have := range_new (w.alloc (.cells q.toArray t)) r.toArray u
  simpa using this
theorem flatS_length {rs : List Sg} (h : ∀ r ∈ rs, r.ok) : (flatS rs).length = rs.length * 17 := by
  induction rs with
  | nil => rfl
  | cons r rs ih =>
    have h1 := (h r (by simp)).length
    have h2 := ih (fun x hx => h x (by simp [hx]))
    simp only [flatS, List.flatMap_cons, List.length_append, List.length_cons] at *
    omega
theorem flatS_append (a b : List Sg) : flatS (a ++ b) = flatS a ++ flatS b := by simp [flatS]
theorem flatS_split (rs : List Sg) (i : Nat) (hi : i < rs.length) : flatS rs = flatS (rs.take i) ++ rs[i].cells ++ flatS (rs.drop (i + 1)) := by
  have e : rs.take i ++ (rs[i] :: rs.drop (i + 1)) = rs := by rw [← List.drop_eq_getElem_cons hi, List.take_append_drop]
  have e2 := congrArg flatS e
  rw [← e2]
  simp only [flatS, List.flatMap_append, List.flatMap_cons, List.append_assoc]
theorem sigs_elem {w : World} {a : Option Addr} {rs : List Sg} (h : SigsAt w a rs) (i : Nat) (hi : i < rs.length) : ∃ b off, a = some ⟨b, off, none⟩ ∧ b < w.heap.size ∧ w.rangeAt b (off + i * 17) rs[i].cells := by
  rcases h.2.2 with h0 | ⟨b, off, rfl, h1, h2⟩
  · subst h0; simp at hi
  · refine ⟨b, off, rfl, h1, ?_⟩
    rw [flatS_split rs i hi] at h2
    have h3 := range_part h2
    rwa [flatS_length (fun r hr => h.2.1 r (List.mem_of_mem_take hr)), List.length_take, Nat.min_eq_left (by omega)] at h3
theorem take_set_one {α : Type} (l : List α) (k : Nat) (a : α) (hk : k < l.length) : (l.set k a).take (k + 1) = l.take k ++ [a] := by
  apply List.ext_getElem?
  intro i
  rcases Nat.lt_trichotomy i k with h | h | h
  · rw [List.getElem?_take_of_lt (by omega), List.getElem?_set_ne (by omega), List.getElem?_append_left (by rw [List.length_take]; omega), List.getElem?_take_of_lt h]
  · subst h
    rw [List.getElem?_take_of_lt (by omega), List.getElem?_set_self hk, List.getElem?_append_right (by rw [List.length_take]; omega), List.length_take, Nat.min_eq_left (by omega), Nat.sub_self]
    rfl
  · rw [List.getElem?_eq_none (by rw [List.length_take]; omega), List.getElem?_eq_none (by rw [List.length_append, List.length_take]; simp; omega)]
theorem fold_sets : ∀ (u : List Value) (k : Nat) (arr : Array Value), k + u.length = arr.size → List.foldl (fun (cs : Array Value) (x : Value × Nat) => cs.setIfInBounds x.snd x.fst) arr (u.zipIdx k) = (arr.toList.take k ++ u).toArray
  | [], k, arr, h => by
    simp only [List.length_nil, Nat.add_zero] at h
    rw [List.take_of_length_le (by simp [h])]
    simp
  | a :: u, k, arr, h => by
    simp only [List.length_cons] at h
    rw [List.zipIdx_cons, List.foldl_cons, fold_sets u (k + 1) _ (by simp; omega)]
    congr 1
    show List.take (k + 1) (arr.setIfInBounds k a).toList ++ u = _
    rw [Array.toList_setIfInBounds, take_set_one _ _ _ (by simp; omega), List.append_assoc]
    rfl
theorem fold_u (arr : Array Value) (u : List Value) (h : u.length = arr.size) : List.foldl (fun (cs : Array Value) (x : Value × Nat) => cs.setIfInBounds x.snd x.fst) arr u.zipIdx = u.toArray := by
  have := fold_sets u 0 arr (by omega)
  simpa using this
theorem run_bs1 {P : Program} (t e : TypeId) (i : TypeInfo) (z : Value) (u : List Value) (ht : P.underlying t = some (.slice e)) (hi : P.info? e = some i) (hz : i.zero = some z) (hs : i.size = u.length) (h0 : 0 < u.length) (hm : u.length ≤ 1000) (w : World) :
    (Instr.buildSlice t 1 #[(0, .agg u.toArray)]).run P w = .ok (.slice (some ⟨w.heap.size, 0, none⟩) 1 1) (w.alloc (.cells u.toArray e)) := by
  have h1 : ¬ 2 ^ 24 < u.length := by omega
  have h2 : u ≠ [] := fun h => by rw [h] at h0; simp at h0
  have hf := fold_u ((Array.range u.length).map (z.cells[· % z.cells.size]!)) u (by simp)
  unfold Instr.buildSlice
  simp [run_underlying ht, sizeOf, zeroValue, typeInfo, hi, hz, hs, h1, h2, Instr.fill, Value.cells, newRow]
  rw [fold_u _ u (by simp)]
theorem SigsAt.elem {w : World} {a : Option Addr} {rs : List Sg} (h : SigsAt w a rs) (i : Nat) (hi : i < rs.length) : ∃ b off, a = some ⟨b, off, Option.none⟩ ∧ b < w.heap.size ∧ w.rangeAt b (off + i * 17) rs[i].cells := sigs_elem h i hi
def SX5 (b1 o1 b2 o2 : Nat) (c : List Value) (x : World) : Prop := x.rangeAt b1 o1 c ∧ x.rangeAt b2 o2 c
set_option maxRecDepth 100000 in
set_option maxHeartbeats 4000000 in
theorem xsame5_any (a1 a2 : Option Addr) (c1 c2 : Nat) (rs : List Sg) (hlen : rs.length ≤ 1000) (w : World) (h1 : SigsAt w a1 rs) (h2 : SigsAt w a2 rs) :
    Calls Tryd.prog 36 #[.slice a1 rs.length c1, .slice a2 rs.length c2] w fun e w' => e = .returned (.bool true) ∧ Below w.heap.size w w' := by
  go_enter Tryd.func36, Tryd.ntmps36
  go_wp2_with fail
  go_loopw [5] (fun iv wr => ∃ i : Nat, i ≤ rs.length ∧ iv = .int .i64 (i : Int) ∧ Hid (Below w.heap.size w wr)) (fun iv _ => rs.length - (intOf iv).toNat)
  case atStart => exact ⟨0, by omega, rfl, hide (Below.refl _ _)⟩
  case round =>
    obtain ⟨i, hi, rfl, HB⟩ := hrel
    have hB := HB.out
    clear HB
    by_cases hlt : i < rs.length
    · have hiI : (i : Int) < (rs.length : Int) := by omega
      obtain ⟨b1, o1, rfl, hb1, hr1⟩ := (h1.below hB).elem i hlt
      obtain ⟨b2, o2, rfl, hb2, hr2⟩ := (h2.below hB).elem i hlt
      have hok := h1.2.1 _ (List.getElem_mem hlt)
      have hnq := fun w' => neqS rs[i] rs[i] hok hok w'
      have ix : (Tryd.prog.info? 101).map (·.size) = some rs[i].cells.length := by rw [hok.length]; exact iszG
      obtain ⟨cx, hcx⟩ : ∃ cx, Hid (rs[i].cells = cx) := ⟨_, hide rfl⟩
      rw [hcx.out] at hr1 hr2 ix
      simp only [hcx.out, beq_self_eq_true, Bool.and_self, Bool.not_true] at hnq
      clear hcx hok
      obtain ⟨L, hL⟩ : ∃ L, Hid (rs.length = L) := ⟨_, hide rfl⟩
      obtain ⟨w8, hw8⟩ : ∃ w8, wr.drew = w8 := ⟨_, rfl⟩
      have hb8 : Below wr.heap.size wr w8 := by rw [← hw8]; exact (Below.refl _ _).drew
      have hS : SX5 b1 (o1 + i * 17) b2 (o2 + i * 17) cx w8 := ⟨range_below hr1 hb8 hb1, range_below hr2 hb8 hb2⟩
      have HB := hide (hB.trans (hb8.mono hB.size))
      clear hr1 hr2 hB hb8
      go_wp2_with fail
      refine hs_begin (S := SX5 b1 (o1 + i * 17) b2 (o2 + i * 17) cx) 9 rfl (by kernel_rfl) ?_
      rw [hw8]
      clear hw8
      refine hs_take (i := 0) (d := some 17) (v := ?_) rfl (by kernel_rfl) (by kernel_rfl) (by kernel_rfl) (by rfl) ?_ hS rfl ?_
      rotate_left
      · intro w' hw
        go_simp
        try with_reducible rfl
      simp only [Act.put, List.setIfInBounds_toArray, List.set_cons_zero, List.set_cons_succ]
      refine hs_take (i := 1) (d := some 18) (v := ?_) rfl (by kernel_rfl) (by kernel_rfl) (by kernel_rfl) (by rfl) ?_ hS rfl ?_
      rotate_left
      · intro w' hw
        go_simp
        try with_reducible rfl
      simp only [Act.put, List.setIfInBounds_toArray, List.set_cons_zero, List.set_cons_succ]
      refine hs_take (i := 2) (d := some 19) (v := ?_) rfl (by kernel_rfl) (by kernel_rfl) (by kernel_rfl) (by rfl) ?_ hS rfl ?_
      rotate_left
      · intro w' hw
        go_simp
        try with_reducible rfl
      simp only [Act.put, List.setIfInBounds_toArray, List.set_cons_zero, List.set_cons_succ]
      refine hs_take (i := 3) (d := some 20) (v := .agg cx.toArray) rfl (by kernel_rfl) (by kernel_rfl) (by kernel_rfl) (by rfl) (fun w' hw => exec_load rfl rfl (run_loadVar_mid (P := Tryd.prog) w' b1 (o1 + i * 17) 101 cx _ hw.1 Tryd.underlying101 rfl ix)) hS rfl ?_
      simp only [Act.put, List.setIfInBounds_toArray, List.set_cons_zero, List.set_cons_succ]
      refine hs_take (i := 4) (d := some 21) (v := ?_) rfl (by kernel_rfl) (by kernel_rfl) (by kernel_rfl) (by rfl) ?_ hS rfl ?_
      rotate_left
      · intro w' hw
        go_simp
        try with_reducible rfl
      simp only [Act.put, List.setIfInBounds_toArray, List.set_cons_zero, List.set_cons_succ]
      refine hs_take (i := 5) (d := some 22) (v := ?_) rfl (by kernel_rfl) (by kernel_rfl) (by kernel_rfl) (by rfl) ?_ hS rfl ?_
      rotate_left
      · intro w' hw
        go_simp
        try with_reducible rfl
      simp only [Act.put, List.setIfInBounds_toArray, List.set_cons_zero, List.set_cons_succ]
      refine hs_take (i := 6) (d := some 23) (v := ?_) rfl (by kernel_rfl) (by kernel_rfl) (by kernel_rfl) (by rfl) ?_ hS rfl ?_
      rotate_left
      · intro w' hw
        go_simp
        try with_reducible rfl
      simp only [Act.put, List.setIfInBounds_toArray, List.set_cons_zero, List.set_cons_succ]
      refine hs_take (i := 7) (d := some 24) (v := .agg cx.toArray) rfl (by kernel_rfl) (by kernel_rfl) (by kernel_rfl) (by rfl) (fun w' hw => exec_load rfl rfl (run_loadVar_mid (P := Tryd.prog) w' b2 (o2 + i * 17) 101 cx _ hw.2 Tryd.underlying101 rfl ix)) hS rfl ?_
      simp only [Act.put, List.setIfInBounds_toArray, List.set_cons_zero, List.set_cons_succ]
      refine hs_take (i := 8) (d := some 25) (v := .bool false) rfl (by kernel_rfl) (by kernel_rfl) (by kernel_rfl) (by rfl) (fun w' hw => by have := hnq w'; go_simp) hS rfl ?_
      simp only [Act.put, List.setIfInBounds_toArray, List.set_cons_zero, List.set_cons_succ]
      refine hs_done (by kernel_rfl) ?_
      go_wp2_with fail
      go_roundw
      case rel => exact ⟨i + 1, by omega, by go_num, HB⟩
      case measure => simp [intOf]; omega
    · obtain rfl : i = rs.length := by omega
      go_wp2_with fail
      go_ret
      exact ⟨rfl, hB⟩
set_option maxRecDepth 100000 in
set_option maxHeartbeats 4000000 in
theorem xsamecert_any (v : Vt) (hv : v.ok) (a1 a2 : Option Addr) (c1 c2 : Nat) (rs : List Sg) (hlen : rs.length ≤ 1000) (w : World) (h1 : SigsAt w a1 rs) (h2 : SigsAt w a2 rs) :
    Calls Tryd.prog 29 #[.agg (v.cells ++ [Value.slice a1 rs.length c1]).toArray, .agg (v.cells ++ [Value.slice a2 rs.length c2]).toArray] w fun e w' => e = .returned (.bool true) ∧ Below w.heap.size w w' := by
  have hb0 := two_box (w := w) (v.cells ++ [Value.slice a1 rs.length c1]) (v.cells ++ [Value.slice a2 rs.length c2]) 31 31
  have iu : (Tryd.prog.info? 28).map (·.size) = some v.cells.length := by rw [hv.len]; exact iszV
  have heq : ∀ w : World, (binOp .eql 28 (.agg v.cells.toArray) (.agg v.cells.toArray)).run Tryd.prog w = .ok (.bool true) w := fun w => by rw [eqV v v hv hv]; simp
  have hl := hv.len
  have p1 : (v.cells ++ [Value.slice a1 rs.length c1])[36]? = some (.slice a1 rs.length c1) := by rw [List.getElem?_append_right (by omega), hl]; rfl
  have p2 : (v.cells ++ [Value.slice a2 rs.length c2])[36]? = some (.slice a2 rs.length c2) := by rw [List.getElem?_append_right (by omega), hl]; rfl
  have pL : ∀ {w' : World} {b : Nat} {z : Value}, w'.rangeAt b 0 (v.cells ++ [z]) → w'.rangeAt b 0 v.cells := fun h => range_left h
  have c5 := fun w' h1 h2 => xsame5_any a1 a2 c1 c2 rs hlen w' h1 h2
  obtain ⟨u, hu⟩ : ∃ u, Hid (v.cells = u) := ⟨_, hide rfl⟩
  simp only [hu.out] at hb0 iu heq p1 p2 pL ⊢
  obtain ⟨x, hx⟩ : ∃ x, Hid (u ++ [Value.slice a1 rs.length c1] = x) := ⟨_, hide rfl⟩
  obtain ⟨y, hy⟩ : ∃ y, Hid (u ++ [Value.slice a2 rs.length c2] = y) := ⟨_, hide rfl⟩
  have pX : ∀ {w' : World} {b : Nat}, w'.rangeAt b 0 x → w'.rangeAt b 0 u := fun h => pL (z := Value.slice a1 rs.length c1) (by rw [hx.out]; exact h)
  have pY : ∀ {w' : World} {b : Nat}, w'.rangeAt b 0 y → w'.rangeAt b 0 u := fun h => pL (z := Value.slice a2 rs.length c2) (by rw [hy.out]; exact h)
  rw [hx.out] at p1
  rw [hy.out] at p2
  simp only [hx.out, hy.out] at hb0 ⊢
  clear pL hx hy hl hu
  go_enter Tryd.func29, Tryd.ntmps29
  go_upto_region 1 with fail
  go_name_world w1 hw1
  rw [hw1] at hb0
  clear hw1
  obtain ⟨hB1, hR1, hR2, hsz1⟩ := hb0
  have rx := pX hR1
  have ry := pY hR2
  have k1 := hR1 36 _ p1
  have k2 := hR2 36 _ p2
  rw [Nat.zero_add] at k1 k2
  have c51 := c5 w1 (h1.below hB1) (h2.below hB1)
  try simp only [Act.put]
  refine wp_region_list ?_
  refine wpList_step fun K hK => ?_
  go_simp
  refine hK _ _ ?_
  clear hK K
  refine wpList_load_mid rfl 28 _ rfl _ _ rfl u _ rx Tryd.underlying28 rfl iu ?_
  refine wpList_step fun K hK => ?_
  go_simp
  refine hK _ _ ?_
  clear hK K
  refine wpList_load_mid rfl 28 _ rfl _ _ rfl u _ ry Tryd.underlying28 rfl iu ?_
  refine wpList_step fun K hK => ?_
  go_simp
  try rw [heq]
  try go_simp
  refine hK _ _ ?_
  clear hK K
  go_wp2_with fail
  refine c51.mono ?_
  rintro _ w2 ⟨rfl, hB2⟩
  go_wp2_with fail
  go_ret
  exact ⟨rfl, hB1.trans (hB2.mono (by omega))⟩
theorem Ce.xsame (c : Ce) (hl : c.ss.length ≤ 1000) (w : World) (h : c.at w) : Calls Tryd.prog 29 #[.agg c.cells.toArray, .agg c.cells.toArray] w fun e w' => e = .returned (.bool true) ∧ Below w.heap.size w w' :=
  xsamecert_any c.v h.v c.a c.a c.cap c.cap c.ss hl w h.s h.s
set_option maxRecDepth 100000 in
set_option maxHeartbeats 4000000 in
theorem xent_self (n : Int) (b : Bat) (c : Ce) (hl : c.ss.length ≤ 1000) (w : World) (hb : b.at w) (hc : c.at w) : Calls Tryd.prog 20 #[.agg (entC n b c).toArray, .agg (entC n b c).toArray] w fun e w' => e = .returned (.bool true) ∧ Below w.heap.size w w' := by
  have hb0 := two_box (w := w) (entC n b c) (entC n b c) 35 35
  have pE : ∀ {w' : World} {Z : Nat}, w'.rangeAt Z 0 (entC n b c) → w'.cell? ⟨Z, 0, none⟩ = some (.int .i64 n) ∧ w'.rangeAt Z 1 b.cells ∧ w'.rangeAt Z 3 c.cells := fun h => by
    have := ent_parts h
    simpa using this
  have hib : (Tryd.prog.info? 24).map (·.size) = some b.cells.length := iszB
  have hic : (Tryd.prog.info? 31).map (·.size) = some c.cells.length := by rw [Ce.len hc.v]; exact iszCe
  obtain ⟨u, hu⟩ : ∃ u, Hid (entC n b c = u) := ⟨_, hide rfl⟩
  simp only [hu.out] at hb0 pE ⊢
  clear hu
  go_enter Tryd.func20, Tryd.ntmps20
  go_upto_region 1 with fail
  go_name_world w1 hw1
  rw [hw1] at hb0
  clear hw1
  obtain ⟨hB1, hR1, hR2, hsz1⟩ := hb0
  obtain ⟨a0, a1, a2⟩ := pE hR1
  obtain ⟨d0, d1, d2⟩ := pE hR2
  have cs1 := same_self b w1 (hb.below hB1)
  try simp only [Act.put]
  refine wp_region_list ?_
  refine wpList_step fun K hK => ?_
  go_simp
  refine hK _ _ ?_
  clear hK K
  refine wpList_step fun K hK => ?_
  go_simp
  refine hK _ _ ?_
  clear hK K
  refine wpList_step fun K hK => ?_
  go_simp
  refine hK _ _ ?_
  clear hK K
  refine wpList_step fun K hK => ?_
  go_simp
  refine hK _ _ ?_
  clear hK K
  refine wpList_step fun K hK => ?_
  go_simp
  refine hK _ _ ?_
  clear hK K
  refine wpList_step fun K hK => ?_
  go_simp
  refine hK _ _ ?_
  clear hK K
  refine wpList_step fun K hK => ?_
  go_simp
  refine hK _ _ ?_
  clear hK K
  refine wpList_load_g (by rfl) 24 _ rfl _ _ rfl b.cells _ a1 Tryd.underlying24 rfl hib ?_
  refine wpList_step fun K hK => ?_
  go_simp
  refine hK _ _ ?_
  clear hK K
  refine wpList_load_g (by rfl) 24 _ rfl _ _ rfl b.cells _ d1 Tryd.underlying24 rfl hib ?_
  go_wp2_with fail
  refine cs1.mono ?_
  rintro _ w2 ⟨rfl, hB2⟩
  clear cs1
  have a2 := range_below a2 hB2 (by omega)
  have d2 := range_below d2 hB2 (by omega)
  have hB := hB1.trans (hB2.mono hB1.size)
  have cs2 := c.xsame hl w2 (hc.below hB)
  go_wp2_with (first
    | (refine wpList_load_g (by rfl) 31 _ rfl w.heap.size 3 rfl c.cells _ a2 Tryd.underlying31 rfl hic ?_)
    | (refine wpList_load_g (by rfl) 31 _ rfl (w.heap.size + 1) 3 rfl c.cells _ d2 Tryd.underlying31 rfl hic ?_))
  refine cs2.mono ?_
  rintro _ w3 ⟨rfl, hB3⟩
  go_wp2_with fail
  go_ret
  exact ⟨rfl, hB.trans (hB3.mono hB.size)⟩
set_option maxRecDepth 100000 in
set_option maxHeartbeats 4000000 in
theorem xheld_self (X Y : Nat) (b : Bat) (c : Ce) (hl : c.ss.length ≤ 1000) (w : World) (hX : X < w.heap.size) (hY : Y < w.heap.size) (hx : w.rangeAt X 0 (heldC b c)) (hy : w.rangeAt Y 0 (heldC b c)) (hb : b.at w) (hc : c.at w) : Calls Tryd.prog 25 #[.slice (some ⟨X, 0, none⟩) 1 1, .slice (some ⟨Y, 0, none⟩) 1 1] w fun e w' => e = .returned (.bool true) ∧ Below w.heap.size w w' := by
  have hib : (Tryd.prog.info? 24).map (·.size) = some b.cells.length := iszB
  have hic : (Tryd.prog.info? 31).map (·.size) = some c.cells.length := by rw [Ce.len hc.v]; exact iszCe
  obtain ⟨x0, x2⟩ := held_parts hx
  obtain ⟨y0, y2⟩ := held_parts hy
  simp only [Nat.zero_add] at x2 y2
  clear hx hy
  go_enter Tryd.func25, Tryd.ntmps25
  go_wp2_with fail
  go_loopw [5] (fun iv wr => ∃ i : Nat, i ≤ 1 ∧ iv = .int .i64 (i : Int) ∧ Hid (Below w.heap.size w wr)) (fun iv _ => 1 - (intOf iv).toNat)
  case atStart => exact ⟨0, by omega, rfl, hide (Below.refl _ _)⟩
  case round =>
    obtain ⟨i, hi, rfl, HB⟩ := hrel
    have hB := HB.out
    clear HB
    by_cases hlt : i = 0
    · subst hlt
      have hs0 := hB.size
      go_upto_region 6 with fail
      obtain ⟨w8, hw8⟩ : ∃ w8, wr.drew = w8 := ⟨_, rfl⟩
      have hb8 : Below wr.heap.size wr w8 := by rw [← hw8]; exact (Below.refl _ _).drew
      have hB08 := hB.trans (hb8.mono hB.size)
      have hs8 := hB08.size
      have x0 := range_below x0 hB08 hX
      have x2 := range_below x2 hB08 hX
      have y0 := range_below y0 hB08 hY
      have y2 := range_below y2 hB08 hY
      have cs1 := same_self b w8 (hb.below hB08)
      try simp only [Act.put]
      refine hs_begin (S := (Below w8.heap.size w8)) 26 rfl (by kernel_rfl) ?_
      rw [hw8]
      clear hw8 hB hb8
      have hS : (Below w8.heap.size w8) w8 := Below.refl _ _
      refine hs_take (i := 0) (d := some 17) (v := ?_) rfl (by kernel_rfl) (by kernel_rfl) (by kernel_rfl) (by rfl) ?_ hS rfl ?_
      rotate_left
      · intro w' hw
        go_simp
        try with_reducible rfl
      simp only [Act.put, List.setIfInBounds_toArray, List.set_cons_zero, List.set_cons_succ]
      refine hs_take (i := 1) (d := some 18) (v := ?_) rfl (by kernel_rfl) (by kernel_rfl) (by kernel_rfl) (by rfl) ?_ hS rfl ?_
      rotate_left
      · intro w' hw
        go_simp
        try with_reducible rfl
      simp only [Act.put, List.setIfInBounds_toArray, List.set_cons_zero, List.set_cons_succ]
      refine hs_take (i := 2) (d := some 19) (v := ?_) rfl (by kernel_rfl) (by kernel_rfl) (by kernel_rfl) (by rfl) ?_ hS rfl ?_
      rotate_left
      · intro w' hw
        go_simp
        try with_reducible rfl
      simp only [Act.put, List.setIfInBounds_toArray, List.set_cons_zero, List.set_cons_succ]
      refine hs_take (i := 3) (d := some 20) (v := ?_) rfl (by kernel_rfl) (by kernel_rfl) (by kernel_rfl) (by rfl) ?_ hS rfl ?_
      rotate_left
      · intro w' hw
        go_simp
        try with_reducible rfl
      simp only [Act.put, List.setIfInBounds_toArray, List.set_cons_zero, List.set_cons_succ]
      refine hs_take (i := 4) (d := some 21) (v := .agg b.cells.toArray) rfl (by kernel_rfl) (by kernel_rfl) (by kernel_rfl) (by rfl) (fun w' hw => ex_mid rfl rfl (range_below x0 hw (by omega)) Tryd.underlying24 rfl hib) hS rfl ?_
      simp only [Act.put, List.setIfInBounds_toArray, List.set_cons_zero, List.set_cons_succ]
      refine hs_take (i := 5) (d := some 22) (v := ?_) rfl (by kernel_rfl) (by kernel_rfl) (by kernel_rfl) (by rfl) ?_ hS rfl ?_
      rotate_left
      · intro w' hw
        go_simp
        try with_reducible rfl
      simp only [Act.put, List.setIfInBounds_toArray, List.set_cons_zero, List.set_cons_succ]
      refine hs_take (i := 6) (d := some 23) (v := ?_) rfl (by kernel_rfl) (by kernel_rfl) (by kernel_rfl) (by rfl) ?_ hS rfl ?_
      rotate_left
      · intro w' hw
        go_simp
        try with_reducible rfl
      simp only [Act.put, List.setIfInBounds_toArray, List.set_cons_zero, List.set_cons_succ]
      refine hs_take (i := 7) (d := some 24) (v := ?_) rfl (by kernel_rfl) (by kernel_rfl) (by kernel_rfl) (by rfl) ?_ hS rfl ?_
      rotate_left
      · intro w' hw
        go_simp
        try with_reducible rfl
      simp only [Act.put, List.setIfInBounds_toArray, List.set_cons_zero, List.set_cons_succ]
      refine hs_take (i := 8) (d := some 25) (v := ?_) rfl (by kernel_rfl) (by kernel_rfl) (by kernel_rfl) (by rfl) ?_ hS rfl ?_
      rotate_left
      · intro w' hw
        go_simp
        try with_reducible rfl
      simp only [Act.put, List.setIfInBounds_toArray, List.set_cons_zero, List.set_cons_succ]
      refine hs_take (i := 9) (d := some 26) (v := .agg b.cells.toArray) rfl (by kernel_rfl) (by kernel_rfl) (by kernel_rfl) (by rfl) (fun w' hw => ex_mid rfl rfl (range_below y0 hw (by omega)) Tryd.underlying24 rfl hib) hS rfl ?_
      simp only [Act.put, List.setIfInBounds_toArray, List.set_cons_zero, List.set_cons_succ]
      refine hs_call (i := 10) (d := some 27) rfl (by kernel_rfl) (by rfl) (by go_simp; first | done | exact ⟨rfl, rfl⟩ | with_reducible rfl) rfl ?_
      refine (cs1).mono ?_
      rintro e' w9 ⟨rfl, hB9⟩
      have hS : (Below w8.heap.size w8) w9 := hB9
      refine ⟨_, rfl, hS, ?_⟩
      simp only [Act.put, List.setIfInBounds_toArray, List.set_cons_zero, List.set_cons_succ]
      refine hs_take (i := 11) (d := some 28) (v := ?_) rfl (by kernel_rfl) (by kernel_rfl) (by kernel_rfl) (by rfl) ?_ hS rfl ?_
      rotate_left
      · intro w' hw
        go_simp
        try with_reducible rfl
      simp only [Act.put, List.setIfInBounds_toArray, List.set_cons_zero, List.set_cons_succ]
      refine hs_take (i := 12) (d := some 29) (v := ?_) rfl (by kernel_rfl) (by kernel_rfl) (by kernel_rfl) (by rfl) ?_ hS rfl ?_
      rotate_left
      · intro w' hw
        go_simp
        try with_reducible rfl
      simp only [Act.put, List.setIfInBounds_toArray, List.set_cons_zero, List.set_cons_succ]
      refine hs_take (i := 13) (d := some 30) (v := ?_) rfl (by kernel_rfl) (by kernel_rfl) (by kernel_rfl) (by rfl) ?_ hS rfl ?_
      rotate_left
      · intro w' hw
        go_simp
        try with_reducible rfl
      simp only [Act.put, List.setIfInBounds_toArray, List.set_cons_zero, List.set_cons_succ]
      refine hs_take (i := 14) (d := some 31) (v := ?_) rfl (by kernel_rfl) (by kernel_rfl) (by kernel_rfl) (by rfl) ?_ hS rfl ?_
      rotate_left
      · intro w' hw
        go_simp
        try with_reducible rfl
      simp only [Act.put, List.setIfInBounds_toArray, List.set_cons_zero, List.set_cons_succ]
      refine hs_take (i := 15) (d := some 32) (v := ?_) rfl (by kernel_rfl) (by kernel_rfl) (by kernel_rfl) (by rfl) ?_ hS rfl ?_
      rotate_left
      · intro w' hw
        go_simp
        try with_reducible rfl
      simp only [Act.put, List.setIfInBounds_toArray, List.set_cons_zero, List.set_cons_succ]
      refine hs_take (i := 16) (d := some 33) (v := ?_) rfl (by kernel_rfl) (by kernel_rfl) (by kernel_rfl) (by rfl) ?_ hS rfl ?_
      rotate_left
      · intro w' hw
        go_simp
        try with_reducible rfl
      simp only [Act.put, List.setIfInBounds_toArray, List.set_cons_zero, List.set_cons_succ]
      refine hs_take (i := 17) (d := some 34) (v := .agg c.cells.toArray) rfl (by kernel_rfl) (by kernel_rfl) (by kernel_rfl) (by rfl) (fun w' hw => ex_mid rfl rfl (range_below x2 hw (by omega)) Tryd.underlying31 rfl hic) hS rfl ?_
      simp only [Act.put, List.setIfInBounds_toArray, List.set_cons_zero, List.set_cons_succ]
      refine hs_take (i := 18) (d := some 35) (v := ?_) rfl (by kernel_rfl) (by kernel_rfl) (by kernel_rfl) (by rfl) ?_ hS rfl ?_
      rotate_left
      · intro w' hw
        go_simp
        try with_reducible rfl
      simp only [Act.put, List.setIfInBounds_toArray, List.set_cons_zero, List.set_cons_succ]
      refine hs_take (i := 19) (d := some 36) (v := ?_) rfl (by kernel_rfl) (by kernel_rfl) (by kernel_rfl) (by rfl) ?_ hS rfl ?_
      rotate_left
      · intro w' hw
        go_simp
        try with_reducible rfl
      simp only [Act.put, List.setIfInBounds_toArray, List.set_cons_zero, List.set_cons_succ]
      refine hs_take (i := 20) (d := some 37) (v := ?_) rfl (by kernel_rfl) (by kernel_rfl) (by kernel_rfl) (by rfl) ?_ hS rfl ?_
      rotate_left
      · intro w' hw
        go_simp
        try with_reducible rfl
      simp only [Act.put, List.setIfInBounds_toArray, List.set_cons_zero, List.set_cons_succ]
      refine hs_take (i := 21) (d := some 38) (v := ?_) rfl (by kernel_rfl) (by kernel_rfl) (by kernel_rfl) (by rfl) ?_ hS rfl ?_
      rotate_left
      · intro w' hw
        go_simp
        try with_reducible rfl
      simp only [Act.put, List.setIfInBounds_toArray, List.set_cons_zero, List.set_cons_succ]
      refine hs_take (i := 22) (d := some 39) (v := .agg c.cells.toArray) rfl (by kernel_rfl) (by kernel_rfl) (by kernel_rfl) (by rfl) (fun w' hw => ex_mid rfl rfl (range_below y2 hw (by omega)) Tryd.underlying31 rfl hic) hS rfl ?_
      simp only [Act.put, List.setIfInBounds_toArray, List.set_cons_zero, List.set_cons_succ]
      have cs2 := c.xsame hl w9 ((hc.below hB08).below hB9)
      refine hs_call (i := 23) (d := some 40) rfl (by kernel_rfl) (by rfl) (by go_simp; first | done | exact ⟨rfl, rfl⟩ | with_reducible rfl) rfl ?_
      refine (cs2).mono ?_
      rintro e' w10 ⟨rfl, hB10⟩
      have hS : (Below w8.heap.size w8) w10 := hB9.trans (hB10.mono hB9.size)
      refine ⟨_, rfl, hS, ?_⟩
      simp only [Act.put, List.setIfInBounds_toArray, List.set_cons_zero, List.set_cons_succ]
      refine hs_take (i := 24) (d := some 41) (v := ?_) rfl (by kernel_rfl) (by kernel_rfl) (by kernel_rfl) (by rfl) ?_ hS rfl ?_
      rotate_left
      · intro w' hw
        go_simp
        try with_reducible rfl
      simp only [Act.put, List.setIfInBounds_toArray, List.set_cons_zero, List.set_cons_succ]
      refine hs_take (i := 25) (d := some 42) (v := ?_) rfl (by kernel_rfl) (by kernel_rfl) (by kernel_rfl) (by rfl) ?_ hS rfl ?_
      rotate_left
      · intro w' hw
        go_simp
        try with_reducible rfl
      simp only [Act.put, List.setIfInBounds_toArray, List.set_cons_zero, List.set_cons_succ]
      refine hs_done (by kernel_rfl) ?_
      have HB := hide (hB08.trans ((hB9.trans (hB10.mono hB9.size)).mono hB08.size))
      go_wp2_with fail
      go_roundw
      case rel => exact ⟨1, by omega, rfl, HB⟩
      case measure => simp [intOf]
    · obtain rfl : i = 1 := by omega
      go_wp2_with fail
      go_ret
      exact ⟨rfl, hB⟩
set_option maxRecDepth 100000 in
set_option maxHeartbeats 4000000 in
theorem of_any (s : Sl) (hv : s.vok) (w : World) : Calls Tryd.prog 10 #[.agg s.cells.toArray] w fun e w' => e = .returned (.agg s.cells.toArray) ∧ Below w.heap.size w w' := by
  have h85 : s.cells.length = 85 := Sl.len hv
  have h85a : s.cells.toArray.size = 85 := by simpa using h85
  have i1 : (Tryd.prog.info? 37).map (·.size) = some s.cells.length := by rw [h85]; exact iszTslot
  have i2 : (Tryd.prog.info? 44).map (·.size) = some s.cells.toArray.size := by rw [h85a]; exact iszTxslot
  have i2' : (Tryd.prog.info? 44).map (·.size) = some s.cells.length := by rw [h85]; exact iszTxslot
  have o1 := all_oneS s.one
  obtain ⟨z0, hz0⟩ : ∃ z, Hid (sl0.cells = z) := ⟨_, hide rfl⟩
  have z85a : z0.toArray.size = 85 := by rw [← hz0.out]; rfl
  have hzv : ∀ w', (zeroValue 44).run Tryd.prog w' = .ok (.agg z0.toArray) w' := fun w' => by rw [← hz0.out]; exact zero_Txslot w'
  clear hz0
  go_enter Tryd.func10, Tryd.ntmps10
  go_upto_region 1 with fail
  go_name_world w1 hw1
  have hb : Below w.heap.size w w1 ∧ w1.rangeAt w.heap.size 0 s.cells ∧ w1.there (w.heap.size + 1) 0 85 := by
    have hb1 : Below w.heap.size w (w.alloc (.cells s.cells.toArray 37)) := (Below.refl _ _).alloc (Nat.le_refl _) _
    have r1 := range_new w s.cells.toArray 37
    have key : ∀ z : Array Value, z.size = 85 → (w.alloc (.cells s.cells.toArray 37)).alloc (.cells z 44) = w1 → Below w.heap.size w w1 ∧ w1.rangeAt w.heap.size 0 s.cells ∧ w1.there (w.heap.size + 1) 0 85 := fun z hz he => by
      subst he
      have hb2 : Below (w.alloc (.cells s.cells.toArray 37)).heap.size (w.alloc (.cells s.cells.toArray 37)) ((w.alloc (.cells s.cells.toArray 37)).alloc (.cells z 44)) := (Below.refl _ _).alloc (Nat.le_refl _) _
      have t2 := there_new (w.alloc (.cells s.cells.toArray 37)) z 44
      rw [hz] at t2
      exact ⟨hb1.trans (hb2.mono (by simp)), range_below (by simpa using r1) hb2 (by simp), by simpa using t2⟩
    exact key _ (by first | exact z85a | rfl) hw1
  clear hw1 hzv
  obtain ⟨hB1, hR, hT⟩ := hb
  have hT2 : w1.there (w.heap.size + 1) 0 s.cells.toArray.size := by rw [h85a]; exact hT
  go_wp2_with (first
    | (refine wpList_load_mid rfl 37 _ rfl _ _ rfl s.cells _ hR Tryd.underlying37 rfl i1 ?_)
    | (refine wpList_store_mid rfl 44 _ _ rfl _ 0 s.cells.toArray rfl rfl hT2 i2 o1 ?_))
  refine bodyPost_ret (results_c1 rfl _ _ _ rfl (run_loadVar_mid (P := Tryd.prog) _ (w.heap.size + 1) 0 44 s.cells _ (World.rangeAt_setCells_same _ _ _ _ (by simpa using hT2)) Tryd.underlying44 rfl i2')) rfl ?_
  exact ⟨rfl, below_sets (by omega) _ _ _ hB1⟩
theorem exec_bs1 {P : Program} {o : Oper} {a : Act} {w : World} {t e : TypeId} {x : Operand} {u : List Value} (ho : o.op = .buildSlice t 1 #[(0, x)]) (hx : a.eval x = .agg u.toArray) (hr : (Instr.buildSlice t 1 #[(0, .agg u.toArray)]).run P w = .ok (.slice (some ⟨w.heap.size, 0, none⟩) 1 1) (w.alloc (.cells u.toArray e))) :
   (execOp a.eval o).run P w = .ok (.value (.slice (some ⟨w.heap.size, 0, none⟩) 1 1)) (w.alloc (.cells u.toArray e)) := by
  unfold execOp
  simp [ho, hx, hr]
theorem wpList_bs1 {P : Program} {ops : Array Oper} {rest : List Oper} {o : Oper} {a : Act} {w : World} {Q : Exit → Act → World → Prop} (hgd : Region.wanted o (yielded ops a.tmps) = true) (t : TypeId) (x : Operand) (ho : o.op = .buildSlice t 1 #[(0, x)]) {u : List Value} {e : TypeId} (hx : a.eval x = .agg u.toArray) (hr : (Instr.buildSlice t 1 #[(0, .agg u.toArray)]).run P w = .ok (.slice (some ⟨w.heap.size, 0, none⟩) 1 1) (w.alloc (.cells u.toArray e))) (h : wpList P ops Q rest (a.put o.dst (.slice (some ⟨w.heap.size, 0, none⟩) 1 1)) (w.alloc (.cells u.toArray e))) : wpList P ops Q (o :: rest) a w := by
  refine wpList_step fun K hK => ?_
  rw [if_pos hgd]
  unfold Oper.wp
  rw [exec_bs1 ho hx hr]
  exact hK _ _ h
set_option maxRecDepth 100000 in
theorem infoHe : (Tryd.prog.info? 33).map (fun i => (i.zero, i.size)) = some (some (.agg (bat0.cells ++ ce0.cells).toArray), 39) := by kernel_rfl
theorem hbs1 {u : List Value} (hu : u.length = 39) (w : World) : (Instr.buildSlice 76 1 #[(0, .agg u.toArray)]).run Tryd.prog w = .ok (.slice (some ⟨w.heap.size, 0, none⟩) 1 1) (w.alloc (.cells u.toArray 33)) := by
  obtain ⟨i, hi, hzz⟩ := Option.map_eq_some_iff.1 infoHe
  simp only [Prod.mk.injEq] at hzz
  obtain ⟨hz, hs⟩ := hzz
  exact run_bs1 76 33 i _ u Tryd.underlying76 hi hz (by rw [hs, hu]) (by omega) (by omega) w
set_option maxRecDepth 100000 in
set_option maxHeartbeats 4000000 in
theorem xslot_self (s : Sl) (w : World) (hs : s.raw w) (h1 : s.hc.ss.length ≤ 1000) (h2 : s.ec.ss.length ≤ 1000) : Calls Tryd.prog 11 #[.agg s.cells.toArray, .agg s.cells.toArray] w fun e w' => e = .returned (.bool true) ∧ Below w.heap.size w w' := by
  have hv := hs.vok
  have hb0 := two_box (w := w) s.cells s.cells 44 44
  have pS : ∀ {w' : World} {Z : Nat}, w'.rangeAt Z 0 s.cells → SlParts w' Z s := fun h => Sl.parts hv h
  have hib : (Tryd.prog.info? 24).map (·.size) = some s.b.cells.length := iszB
  have h39 : (heldC s.hb s.hc).length = 39 := heldC_len hv.h
  have hih : (Tryd.prog.info? 33).map (·.size) = some (heldC s.hb s.hc).length := by rw [h39]; exact iszHe
  have hie : (Tryd.prog.info? 35).map (·.size) = some (entC s.es s.eb s.ec).length := by rw [entC_len hv.e]; exact iszEn
  obtain ⟨u, hu⟩ : ∃ u, Hid (s.cells = u) := ⟨_, hide rfl⟩
  simp only [hu.out] at hb0 pS ⊢
  clear hu
  go_enter Tryd.func11, Tryd.ntmps11
  go_upto_region 1 with fail
  go_name_world w1 hw1
  rw [hw1] at hb0
  clear hw1
  obtain ⟨hB1, hR1, hR2, hsz1⟩ := hb0
  have P1 := pS hR1
  have P2 := pS hR2
  have a0 := P1.vw
  have a3 := P1.is
  have a43 := P1.ho
  have a84 := P1.de
  have d0 := P2.vw
  have d3 := P2.is
  have d43 := P2.ho
  have d84 := P2.de
  have a1 := P1.b
  have d1 := P2.b
  go_upto_region 3 with fail
  clear a0 a3 a43 a84 d0 d3 d43 d84
  have cs1 := same_self s.b w1 (hs.b.below hB1)
  try simp only [Act.put]
  refine wp_region_list ?_
  refine wpList_step fun K hK => ?_
  go_simp
  refine hK _ _ ?_
  clear hK K
  refine wpList_load_mid rfl 24 _ rfl _ _ rfl s.b.cells _ a1 Tryd.underlying24 rfl hib ?_
  refine wpList_step fun K hK => ?_
  go_simp
  refine hK _ _ ?_
  clear hK K
  refine wpList_load_mid rfl 24 _ rfl _ _ rfl s.b.cells _ d1 Tryd.underlying24 rfl hib ?_
  go_wp2_with fail
  refine cs1.mono ?_
  rintro _ w2 ⟨rfl, hB2⟩
  clear cs1 a1 d1
  have ah := range_below P1.h hB2 (by omega)
  have dh := range_below P2.h hB2 (by omega)
  have ae := range_below P1.e hB2 (by omega)
  have de := range_below P2.e hB2 (by omega)
  have hB := hB1.trans (hB2.mono hB1.size)
  have hz2 := hB2.size
  clear hB2 hB1 P1 P2 hR1 hR2 pS
  obtain ⟨hl, hhl⟩ : ∃ hl, Hid (heldC s.hb s.hc = hl) := ⟨_, hide rfl⟩
  rw [hhl.out] at ah dh h39 hih
  have q1 : Below w2.heap.size w2 (w2.alloc (.cells hl.toArray 33)) := (Below.refl _ _).alloc (Nat.le_refl _) _
  have q2 : Below (w2.alloc (.cells hl.toArray 33)).heap.size (w2.alloc (.cells hl.toArray 33)) ((w2.alloc (.cells hl.toArray 33)).alloc (.cells hl.toArray 33)) := (Below.refl _ _).alloc (Nat.le_refl _) _
  have q12 := q1.trans (q2.mono q1.size)
  have b0 := two_box (w := w2) hl hl 33 33
  obtain ⟨-, m1, m2, hz3⟩ := b0
  have hBB := hB.trans (q12.mono hB.size)
  have ae := range_below ae q12 (by omega)
  have de := range_below de q12 (by omega)
  have cs2 := xheld_self w2.heap.size (w2.heap.size + 1) s.hb s.hc h1 _ (by omega) (by omega) (by rw [hhl.out]; exact m1) (by rw [hhl.out]; exact m2) (hs.hb.below hBB) (hs.hc.below hBB)
  clear hhl m1 m2 q1 q2 q12
  go_wp2_with (first
    | (refine wpList_load_g (by rfl) 33 _ rfl w.heap.size 4 rfl hl _ ah Tryd.underlying33 rfl hih ?_)
    | (refine wpList_load_g (by rfl) 33 _ rfl (w.heap.size + 1) 4 rfl hl _ (range_below dh ((Below.refl _ _).alloc (Nat.le_refl _) _) (by omega)) Tryd.underlying33 rfl hih ?_)
    | (refine wpList_bs1 (by rfl) 76 _ rfl (u := hl) rfl (hbs1 h39 _) ?_))
  refine cs2.mono ?_
  rintro _ w3 ⟨rfl, hB3⟩
  clear cs2
  have ae := range_below ae hB3 (by omega)
  have de := range_below de hB3 (by omega)
  have hBB := hBB.trans (hB3.mono hBB.size)
  have cs3 := xent_self s.es s.eb s.ec h2 w3 (hs.eb.below hBB) (hs.ec.below hBB)
  clear ah dh hB3
  go_wp2_with (first
    | (refine wpList_load_g (by rfl) 35 _ rfl w.heap.size 44 rfl (entC s.es s.eb s.ec) _ ae Tryd.underlying35 rfl hie ?_)
    | (refine wpList_load_g (by rfl) 35 _ rfl (w.heap.size + 1) 44 rfl (entC s.es s.eb s.ec) _ de Tryd.underlying35 rfl hie ?_))
  refine cs3.mono ?_
  rintro _ w4 ⟨rfl, hB4⟩
  go_wp2_with fail
  go_ret
  exact ⟨rfl, hBB.trans (hB4.mono hBB.size)⟩
end Go.Proofs.YtogmkcabndgllaaDoor
