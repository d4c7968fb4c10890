/- the document's Count and Cert; certs compared -/
import Derived.Test.YtogmkcabndgllaaV26
import Derived.Test.YtogmkcabndgllaaV18
namespace Go.Proofs.Ytogmkcabndgllaa
open Go.RowKit
set_option maxRecDepth 100000 in
set_option maxHeartbeats 2000000 in
theorem xcount_any (X : Nat) (a0 : Option Addr) (cap0 : Nat) (N : Int) (st : List On) (v : Vt) (hv : v.ok) (w : World) (h : XAt w X a0 cap0 N st) (hlen : st.length < 1000000) :
    Calls Try.prog 13 #[.pointer (some ⟨X, 0, none⟩), .agg v.cells.toArray] w fun e w' => e = .returned (.int .i64 (countL st v)) ∧ Below w.heap.size w w' := by
  rw [count_signs h.bk v]
  have hb0 := one_box (w := w) v.cells 31
  have hiV : (Try.prog.info? 31).map (·.size) = some v.cells.length := by rw [hv.len]; exact iszV
  have cS := fun w' (h : XAt w' X a0 cap0 N st) => xsigns_any X a0 cap0 N st v hv w' h hlen
  obtain ⟨u, hu⟩ : ∃ u, Hid (v.cells = u) := ⟨_, hide rfl⟩
  obtain ⟨m, hm⟩ : ∃ m, Hid ((signsL N.toNat st v).length = m) := ⟨_, hide rfl⟩
  simp only [hu.out] at hb0 hiV cS ⊢
  rw [hm.out]
  go_enter Try.func13, Try.ntmps13
  go_upto_region 1 with fail
  go_name_world w1 hw1
  rw [hw1] at hb0
  clear hw1
  obtain ⟨hB1, hR1, hsz1⟩ := hb0
  have cS1 := cS w1 (h.below hB1)
  go_wp2_with (refine wpList_load_mid rfl 31 _ rfl _ _ rfl u _ hR1 Try.underlying31 rfl hiV ?_)
  refine cS1.mono ?_
  rintro _ w2 ⟨a, cap, rfl, -, -, -, -, hB2⟩
  rw [hm.out]
  go_wp2_with fail
  go_ret
  exact ⟨rfl, hB1.trans (hB2.mono (by omega))⟩
theorem SigsAt.take {w : World} {a : Option Addr} {rs : List Sg} (h : SigsAt w a rs) (n : Nat) : SigsAt w a (rs.take n) := by
  obtain ⟨h1, h2, h3⟩ := h
  refine ⟨by rw [List.length_take]; omega, fun r hr => h2 r (List.mem_of_mem_take hr), ?_⟩
  rcases h3 with rfl | ⟨b, off, rfl, hb, hr⟩
  · left; simp
  · right
    refine ⟨b, off, rfl, hb, ?_⟩
    have e : flatS rs = flatS (rs.take n) ++ flatS (rs.drop n) := by rw [← flatS_append, List.take_append_drop]
    rw [e] at hr
    exact range_left hr
def SXc (w : World) (u : List Value) (x : World) : Prop := x.rangeAt w.heap.size 0 u ∧ x.there (w.heap.size + 1) 0 37
theorem slice_to (a : Option Addr) (n cap nd : Nat) (h1 : nd ≤ cap) (w : World) : (Instr.sliceAt 42 (.slice a n cap) none (some (.int .i64 (nd : Int))) none).run Try.prog w = .ok (.slice a nd cap) w := by
  go_simp
set_option maxRecDepth 100000 in
set_option maxHeartbeats 4000000 in
theorem xcert_any (X : Nat) (a0 : Option Addr) (cap0 : Nat) (N : Int) (st : List On) (v : Vt) (hv : v.ok) (need : Int) (w : World) (h : XAt w X a0 cap0 N st) (hlen : st.length < 1000000) :
    Calls Try.prog 17 #[.pointer (some ⟨X, 0, none⟩), .agg v.cells.toArray, .int .i64 need] w fun e w' => ∃ a cap, e = .returned (.tuple #[.agg ((cvOf v (certOf N st v need)).cells ++ [Value.slice a ((certOf N st v need).getD []).length cap]).toArray, .bool (certOf N st v need).isSome]) ∧ SigsAt w' a ((certOf N st v need).getD []) ∧ (∀ x, a = some x → w.heap.size ≤ x.block) ∧ Below w.heap.size w w' := by
  have hcs := count_signs h.bk v
  have hgl := h.bk.good
  have hsle := signs_le N.toNat st v
  have hiV : (Try.prog.info? 31).map (·.size) = some v.cells.length := by rw [hv.len]; exact iszV
  have hu36 := hv.len
  have huo := v.one
  have cS := fun w' (h : XAt w' X a0 cap0 N st) => xsigns_any X a0 cap0 N st v hv w' h hlen
  by_cases hc : need < 1 ∨ (countL st v : Int) < need
  · rw [certOf_none hc]
    simp only [Option.getD_none, Option.isSome_none, cvOf, Bool.false_eq_true, if_false, List.length_nil]
    obtain ⟨u, hu⟩ : ∃ u, Hid (v.cells = u) := ⟨_, hide rfl⟩
    obtain ⟨m, hm⟩ : ∃ m, Hid ((signsL N.toNat st v).length = m) := ⟨_, hide rfl⟩
    simp only [hu.out] at hiV hu36 huo cS ⊢
    rw [hcs, hm.out] at hc
    rw [hm.out] at hsle
    clear hcs
    have hbz := build_ct0
    have z37 := ct0_len
    have z1 := ct0_one
    have iz : (Try.prog.info? 44).map (·.size) = some ct0.toArray.size := by rw [z37]; exact iszCt
    have HE : Hid (ct0 = vt0.cells ++ [Value.slice none 0 0]) := hide rfl
    generalize ct0 = z at *
    go_enter Try.func17, Try.ntmps17
    go_upto_region 1 with fail
    go_name_world w1 hw1
    obtain ⟨hB1, hR1, hT1, hsz1⟩ := box_new hw1
    simp only [List.size_toArray, List.length_cons, List.length_nil, Nat.zero_add, Nat.reduceAdd] at hT1
    clear hw1
    have cS1 := cS w1 (h.below hB1)
    go_wp2_with (refine wpList_load_mid rfl 31 _ rfl _ _ rfl u _ hR1 Try.underlying31 rfl hiV ?_)
    refine cS1.mono ?_
    rintro _ w2 ⟨a, cap, rfl, -, -, -, -, hB2⟩
    rw [hm.out]
    have hT2 := there_below hT1 hB2 (by omega)
    rw [← z37] at hT2
    by_cases h1 : need < 1
    · have hd : decide (need < 1) = true := decide_eq_true h1
      go_wp2_with (first | (refine wpList_build rfl 44 [] rfl [] (.agg z.toArray) rfl (hbz _) ?_) | (refine wpList_store_mid rfl 44 _ _ rfl _ 0 z.toArray rfl rfl hT2 iz z1 ?_))
      refine bodyPost_ret (results_ct rfl _ _ _ rfl (run_loadVar_mid (P := Try.prog) _ (w.heap.size + 1) 0 44 z _ (World.rangeAt_setCells_same _ _ _ _ (by simpa using hT2)) Try.underlying44 rfl (by simpa using iz))) rfl ?_
      exact ⟨none, 0, by rw [HE.out]; rfl, SigsAt.none, (fun x hx => by cases hx), below_sets (Nat.le_succ _) _ _ _ (hB1.trans (hB2.mono (by omega)))⟩
    · have hd : decide (need < 1) = false := decide_eq_false h1
      have h2 : (m : Int) < need := by omega
      clear hc
      go_wp2_with (first | (refine wpList_build rfl 44 [] rfl [] (.agg z.toArray) rfl (hbz _) ?_) | (refine wpList_store_mid rfl 44 _ _ rfl _ 0 z.toArray rfl rfl hT2 iz z1 ?_))
      refine bodyPost_ret (results_ct rfl _ _ _ rfl (run_loadVar_mid (P := Try.prog) _ (w.heap.size + 1) 0 44 z _ (World.rangeAt_setCells_same _ _ _ _ (by simpa using hT2)) Try.underlying44 rfl (by simpa using iz))) rfl ?_
      exact ⟨none, 0, by rw [HE.out]; rfl, SigsAt.none, (fun x hx => by cases hx), below_sets (Nat.le_succ _) _ _ _ (hB1.trans (hB2.mono (by omega)))⟩
  · obtain ⟨nd, rfl⟩ : ∃ nd : Nat, need = (nd : Int) := ⟨need.toNat, by omega⟩
    have hnd : 1 ≤ nd ∧ (nd : Int) ≤ countL st v := by omega
    rw [certOf_some hnd.1 hnd.2]
    have hln := cert_len h.bk hnd.2
    simp only [Option.getD_some, Option.isSome_some, cvOf, if_true, hln]
    have HTK : Hid (∀ {w' : World} {a : Option Addr}, SigsAt w' a (signsL N.toNat st v) → SigsAt w' a ((signsL N.toNat st v).take nd)) := hide (fun hs => hs.take nd)
    obtain ⟨u, hu⟩ : ∃ u, Hid (v.cells = u) := ⟨_, hide rfl⟩
    obtain ⟨m, hm⟩ : ∃ m, Hid ((signsL N.toNat st v).length = m) := ⟨_, hide rfl⟩
    simp only [hu.out] at hiV hu36 huo cS ⊢
    rw [hcs, hm.out] at hnd hc
    rw [hm.out] at hsle
    have hz37 : ∀ {a m cap}, (u ++ [Value.slice a m cap]).toArray.size = 37 := by intro a m cap; simp [hu36]
    clear hcs hln
    go_enter Try.func17, Try.ntmps17
    go_upto_region 1 with fail
    go_name_world w1 hw1
    obtain ⟨hB1, hR1, hT1, hsz1⟩ := box_new hw1
    simp only [List.size_toArray, List.length_cons, List.length_nil, Nat.zero_add, Nat.reduceAdd] at hT1
    clear hw1
    have cS1 := cS w1 (h.below hB1)
    go_wp2_with (refine wpList_load_mid rfl 31 _ rfl _ _ rfl u _ hR1 Try.underlying31 rfl hiV ?_)
    refine cS1.mono ?_
    rintro _ w2 ⟨a, cap, rfl, hsg, hcap, -, hba, hB2⟩
    rw [hm.out] at hcap ⊢
    have hd : decide ((nd : Int) < 1) = false := decide_eq_false (by omega)
    have hd2 : decide ((m : Int) < (nd : Int)) = false := decide_eq_false (by omega)
    have hd3 : ¬ (m : Int) < (nd : Int) := by omega
    have hsl := fun w' => slice_to a m cap nd (by omega) w'
    obtain ⟨w8, hw8⟩ : ∃ w8, w2.drew = w8 := ⟨_, rfl⟩
    have hb8 : Below w1.heap.size w1 w8 := by rw [← hw8]; exact hB2.drew
    have hS : SXc w u w8 := ⟨range_below hR1 hb8 (by omega), there_below hT1 hb8 (by omega)⟩
    have hsg8 : SigsAt w8 a ((signsL N.toNat st v).take nd) := by rw [← hw8]; exact HTK.out hsg.drew
    have HSG := hide hsg8
    clear hsg hsg8 HTK cS1 cS hc hB2
    go_wp2_with fail
    refine hs_begin (S := SXc w u) 7 rfl (by kernel_rfl) ?_
    rw [hw8]
    clear hw8
    refine hs_take (i := 0) (d := some 21) (v := .agg u.toArray) rfl (by kernel_rfl) (by kernel_rfl) (by kernel_rfl) (by rfl) (fun w' hw => exec_load rfl rfl (run_loadVar_mid (P := Try.prog) w' w.heap.size 0 31 u _ hw.1 Try.underlying31 rfl hiV)) hS rfl ?_
    simp only [Act.put, List.setIfInBounds_toArray, List.set_cons_zero, List.set_cons_succ]
    refine hs_take (i := 1) (d := some 22) (v := ?_) rfl (by kernel_rfl) (by kernel_rfl) (by kernel_rfl) (by rfl) ?_ hS rfl ?_
    rotate_left
    · intro w' hw
      go_simp
      try with_reducible rfl
    simp only [Act.put, List.setIfInBounds_toArray, List.set_cons_zero, List.set_cons_succ]
    refine hs_take (i := 2) (d := some 23) (v := ?_) rfl (by kernel_rfl) (by kernel_rfl) (by kernel_rfl) (by rfl) ?_ hS rfl ?_
    rotate_left
    · intro w' hw
      go_simp
      try with_reducible rfl
    simp only [Act.put, List.setIfInBounds_toArray, List.set_cons_zero, List.set_cons_succ]
    refine hs_take (i := 3) (d := some 24) (v := .slice a nd cap) rfl (by kernel_rfl) (by kernel_rfl) (by kernel_rfl) (by rfl) (fun w' hw => by have := hsl w'; go_simp) hS rfl ?_
    simp only [Act.put, List.setIfInBounds_toArray, List.set_cons_zero, List.set_cons_succ]
    refine hs_take (i := 4) (d := some 25) (v := .agg (u ++ [Value.slice a nd cap]).toArray) rfl (by kernel_rfl) (by kernel_rfl) (by kernel_rfl) (by rfl) (fun w' hw => ex_build rfl rfl (build_cert u hu36 a nd cap w')) hS rfl ?_
    simp only [Act.put, List.setIfInBounds_toArray, List.set_cons_zero, List.set_cons_succ]
    have hS5 : SXc w u (w8.setCells (w.heap.size + 1) 0 (u ++ [Value.slice a nd cap])) := ⟨World.rangeAt_setCells_apart hS.1 _ _ _ (.inl (by omega)), World.there_setCells hS.2 _ _ _⟩
    refine hs_store (i := 5) (w' := w8.setCells (w.heap.size + 1) 0 (u ++ [Value.slice a nd cap])) rfl (by kernel_rfl) (by rfl) (exec_store rfl rfl rfl (run_storeVar_mid _ _ _ 44 (u ++ [Value.slice a nd cap]).toArray (by rw [hz37]; exact hS.2) (by rw [hz37]; exact iszCt) (cert_one1 _ huo))) rfl hS5 ?_
    refine hs_take (i := 6) (d := some 7) (v := ?_) rfl (by kernel_rfl) (by kernel_rfl) (by kernel_rfl) (by rfl) ?_ hS5 rfl ?_
    rotate_left
    · intro w' hw
      go_simp
      try with_reducible rfl
    simp only [Act.put, List.setIfInBounds_toArray, List.set_cons_zero, List.set_cons_succ]
    refine hs_done (by kernel_rfl) ?_
    go_wp2_with fail
    refine bodyPost_ret (results_ct rfl _ _ _ rfl (run_loadVar_mid (P := Try.prog) _ (w.heap.size + 1) 0 44 (u ++ [Value.slice a nd cap]) _ (World.rangeAt_setCells_same _ _ _ _ (by rw [← List.size_toArray, hz37]; exact hS.2)) Try.underlying44 rfl (by rw [← List.size_toArray, hz37]; exact iszCt))) rfl ?_
    refine ⟨a, cap, rfl, ?_, fun x hx => by have := hba x hx; omega, below_sets (Nat.le_succ _) _ _ _ (hB1.trans (hb8.mono (by omega)))⟩
    refine SigsAt.at HSG.out (by rw [size_sets]; exact Nat.le_refl _) (fun x hx => ?_)
    have := hba x hx
    exact set_other _ _ _ _ _ (by omega)
end Go.Proofs.Ytogmkcabndgllaa
