/- Cert: nothing to tell -/
import Derived.Test.YtogmkcabndgllaaV12
namespace Go.Proofs.Ytogmkcabndgllaa
open Go.RowKit
theorem box_new {w w1 : World} {q : List Value} {a2 : Array Value} {t1 t2 : TypeId} (h : (w.alloc (.cells q.toArray t1)).alloc (.cells a2 t2) = w1) : Below w.heap.size w w1 ∧ w1.rangeAt w.heap.size 0 q ∧ w1.there (w.heap.size + 1) 0 a2.size ∧ w1.heap.size ≥ w.heap.size + 2 := by
  subst h
  have hb1 : Below w.heap.size w (w.alloc (.cells q.toArray t1)) := (Below.refl _ _).alloc (Nat.le_refl _) _
  have hb2 : Below (w.alloc (.cells q.toArray t1)).heap.size (w.alloc (.cells q.toArray t1)) ((w.alloc (.cells q.toArray t1)).alloc (.cells a2 t2)) := (Below.refl _ _).alloc (Nat.le_refl _) _
  refine ⟨hb1.trans (hb2.mono (by simp)), range_below (by simpa using range_new w q.toArray t1) hb2 (by simp), ?_, by simp⟩
  have := there_new (w.alloc (.cells q.toArray t1)) a2 t2
  simpa using this
theorem results_ct {fn : Func} {p u : Tmp} {ty : TypeId} (h : fn.results = #[.cell p ty, .tmp u]) (tmps : Array Value) (P : Program) (w : World) {a : Addr} {v : Value} (ha : tmps.getD p undef = .pointer (some a)) (hv : (loadVar ty a).run P w = .ok v w) : (results fn tmps).run P w = .ok (.tuple #[v, tmps.getD u undef]) w := by
  simp only [Array.getD_eq_getD_getElem?] at ha
  simp only [results, h]
  simp [Result.andThen, ha, asAddr, hv]
def ct0 : List Value := vt0.cells ++ [Value.slice none 0 0]
theorem ct0_len : ct0.toArray.size = 37 := by decide
theorem ct0_one : ct0.toArray.all (·.oneCell') = true := all_one (by
  intro v hv
  rcases List.mem_append.1 hv with h | h
  · exact vt0.one v h
  · simp only [List.mem_singleton] at h
    subst h
    rfl)
theorem iszCt : (Try.prog.info? 44).map (·.size) = some 37 := by kernel_rfl
set_option maxRecDepth 100000 in
theorem build_ct0 (w : World) : (Instr.build 44 #[]).run Try.prog w = .ok (.agg ct0.toArray) w :=
  build_fill (zs := ct0) (pl := #[(0, 36), (36, 1)]) (zeroCt w) (by kernel_rfl) (by kernel_rfl) _ _ rfl
set_option maxRecDepth 100000 in
set_option maxHeartbeats 2000000 in
theorem cert_none (p : Value) (v : Vt) (hv : v.ok) (need c : Int) (w : World) (hC : ∀ w1, Below w.heap.size w w1 → Calls Try.prog 12 #[p, .agg v.cells.toArray] w1 fun e w' => e = .returned (.int .i64 c) ∧ Below w1.heap.size w1 w') (hn : need < 1 ∨ c < need) :
    Calls Try.prog 16 #[p, .agg v.cells.toArray, .int .i64 need] w fun e w' => e = .returned (.tuple #[.agg ct0.toArray, .bool false]) ∧ Below w.heap.size w w' := by
  have hiV : (Try.prog.info? 31).map (·.size) = some v.cells.length := by rw [hv.len]; exact iszV
  have hu36 := hv.len
  obtain ⟨k, ep, vw, sl, d⟩ := v
  obtain ⟨u, hu⟩ : ∃ u, Hid ((Vt.mk k ep vw sl d).cells = u) := ⟨_, hide rfl⟩
  have c0k : (u)[0]? = some (.int .i64 k) := by rw [← hu.out]; rfl
  rw [hu.out] at hiV hu36 ⊢
  simp only [hu.out] at hC
  clear hu c0k
  obtain ⟨z, hz⟩ : ∃ z, Hid (ct0 = z) := ⟨_, hide rfl⟩
  have hbz : ∀ w' : World, (Instr.build 44 #[]).run Try.prog w' = .ok (.agg z.toArray) w' := fun w' => by rw [← hz.out]; exact build_ct0 w'
  have z37 : z.toArray.size = 37 := by rw [← hz.out]; exact ct0_len
  have z1 : z.toArray.all (·.oneCell') = true := by rw [← hz.out]; exact ct0_one
  have iz : (Try.prog.info? 44).map (·.size) = some z.toArray.size := by rw [z37]; exact iszCt
  rw [hz.out]
  clear hz
  by_cases h1 : need < 1
  · clear hn hC
    go_enter Try.func16, Try.ntmps16
    go_upto_region 1 with fail
    go_name_world w1 hw1
    obtain ⟨hB1, hR1, hT1, hsz1⟩ := box_new hw1
    simp only [List.size_toArray, List.length_cons, List.length_nil, Nat.zero_add, Nat.reduceAdd] at hT1
    clear hw1
    rw [← z37] at hT1
    go_wp2_with (first | (refine wpList_build rfl 44 [] rfl [] (.agg z.toArray) rfl (hbz _) ?_) | (refine wpList_store_mid rfl 44 _ _ rfl _ 0 z.toArray rfl rfl hT1 iz z1 ?_))
    refine bodyPost_ret (results_ct rfl _ _ _ rfl (run_loadVar_mid (P := Try.prog) _ (w.heap.size + 1) 0 44 z _ (World.rangeAt_setCells_same _ _ _ _ (by simpa using hT1)) Try.underlying44 rfl (by simpa using iz))) rfl ?_
    exact ⟨rfl, below_sets (Nat.le_succ _) _ _ _ hB1⟩
  · have hc : c < need := by omega
    have h1' : 1 ≤ need := by omega
    clear hn h1
    go_enter Try.func16, Try.ntmps16
    go_upto_region 1 with fail
    go_name_world w1 hw1
    obtain ⟨hB1, hR1, hT1, hsz1⟩ := box_new hw1
    simp only [List.size_toArray, List.length_cons, List.length_nil, Nat.zero_add, Nat.reduceAdd] at hT1
    clear hw1
    have cC := hC w1 hB1
    rw [← z37] at hT1
    have hd : decide (need < 1) = false := decide_eq_false (by omega)
    try simp only [Act.put]
    refine wp_region_list ?_
    refine wpList_step fun K hK => ?_
    go_simp
    refine hK _ _ ?_
    clear hK K
    refine wpList_step fun K hK => ?_
    go_simp
    refine hK _ _ ?_
    clear hK K
    refine wpList_step fun K hK => ?_
    go_simp
    refine hK _ _ ?_
    clear hK K
    refine wpList_step fun K hK => ?_
    go_simp
    refine hK _ _ ?_
    clear hK K
    refine wpList_load_g (by rfl) 31 _ rfl _ _ rfl u _ hR1 Try.underlying31 rfl hiV ?_
    go_wp2_with fail
    refine cC.mono ?_
    rintro _ w2 ⟨rfl, hB2⟩
    clear cC
    have hT2 := there_below hT1 hB2 (by omega)
    go_wp2_with (first | (refine wpList_build rfl 44 [] rfl [] (.agg z.toArray) rfl (hbz _) ?_) | (refine wpList_store_mid rfl 44 _ _ rfl _ 0 z.toArray rfl rfl hT2 iz z1 ?_))
    refine bodyPost_ret (results_ct rfl _ _ _ rfl (run_loadVar_mid (P := Try.prog) _ (w.heap.size + 1) 0 44 z _ (World.rangeAt_setCells_same _ _ _ _ (by simpa using hT2)) Try.underlying44 rfl (by simpa using iz))) rfl ?_
    exact ⟨rfl, below_sets (Nat.le_succ _) _ _ _ (hB1.trans (hB2.mono (by omega)))⟩
end Go.Proofs.Ytogmkcabndgllaa
