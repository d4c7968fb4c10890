/- the pool's pairs -/
import Derived.Test.YtbfcbjjhdadicaaDoorP1
import Derived.Maps.OwnSet
import Derived.DeepKeys4
namespace Go.Proofs.YtbfcbjjhdadicaaDoor
open Go.RowKit
open Sha Tal
theorem lawP : Maps.Keyed Tryd.prog 75 := Maps.Keyed.of_law (deep_law_laid laidOut (m := 5) (by decide) (of_decide_eq_true (by kernel_rfl)) (by kernel_rfl) (by kernel_rfl))
theorem zeroU (w : World) : (zeroValue 90).run Tryd.prog w = .ok (.agg #[]) w := by kernel_rfl
def klP (c n : Int) : Lit := .string (keyBytes [.int .i64 c, .int .i64 n])
theorem lits_int (d : Nat) (c : Int) (hc : -9223372036854775808 ≤ c ∧ c ≤ 9223372036854775807) : Tryd.prog.keyLits (d + 1) 3 [.int .i64 c] = some [.int .i64 c] := by
  have wc : (Lit.int .i64 c).wf = true := by simp only [Lit.wf, Bool.and_eq_true, decide_eq_true_eq]; exact hc
  simp only [Program.keyLits, Tryd.underlying3, wc, and_self, if_true]
theorem lits_pair (d : Nat) (c n : Int) (hc : -9223372036854775808 ≤ c ∧ c ≤ 9223372036854775807) (hn : -9223372036854775808 ≤ n ∧ n ≤ 9223372036854775807) : Tryd.prog.keyLits (d + 1 + 1) 75 [.int .i64 c, .int .i64 n] = some [.int .i64 c, .int .i64 n] := by
  have hc2 : Tryd.prog.cellsOf 75 = 2 := by kernel_rfl
  have hc1 : Tryd.prog.cellsOf 3 = 1 := by kernel_rfl
  have h1 := lits_int d c hc
  have h2 := lits_int d n hn
  unfold Program.keyLits
  simp only [Tryd.underlying75]
  rw [if_pos ⟨by rw [hc2]; rfl, by decide +kernel⟩]
  simp only [List.mapM_cons, List.mapM_nil, hc1, List.drop_zero, List.take_succ_cons, List.take_zero, List.drop_succ_cons, h1, h2, Option.bind_eq_bind, Option.bind_some, Option.pure_def, Option.map_some, List.flatten_cons, List.flatten_nil, List.append_nil, List.cons_append, List.nil_append]
theorem key_pair (c n : Int) (hc : -9223372036854775808 ≤ c ∧ c ≤ 9223372036854775807) (hn : -9223372036854775808 ≤ n ∧ n ≤ 9223372036854775807) : Go.keyOf Tryd.prog 75 (.agg #[.int .i64 c, .int .i64 n]) = some (klP c n) := by
  have hsz : Tryd.prog.types.size + 1 = 145 + 1 + 1 := by kernel_rfl
  have hk : Tryd.prog.keyType 75 = true := by kernel_rfl
  have hc2 : Tryd.prog.cellsOf 75 = 2 := by kernel_rfl
  have hf : (Value.agg #[.int .i64 c, .int .i64 n]).formed Tryd.prog 75 = true := by
    simp only [Value.formed, Tryd.underlying75, hc2]
    rfl
  unfold Go.keyOf
  rw [Tryd.underlying75]
  simp only [hk, hf, Bool.and_self, if_true, hsz, Value.cells]
  rw [lits_pair 145 c n hc hn]
  rfl
def pk (r : Rq) : Int × Int := (r.c, r.n)
def I64 (z : Int) : Prop := -9223372036854775808 ≤ z ∧ z ≤ 9223372036854775807

def PairsAt (w : World) (b : Nat) (S : List (Int × Int)) : Prop :=
  ∃ D : DataW Unit, w.ownsMap Tryd.prog 75 unitElem b S.length D ∧ Maps.size D = S.length ∧ ∀ c n : Int, I64 c → I64 n → Maps.has D (klP c n) = decide ((c, n) ∈ S)
theorem PairsAt.lt {w : World} {b : Nat} {S : List (Int × Int)} (h : PairsAt w b S) : b < w.heap.size := by
  obtain ⟨D, h, _⟩ := h
  exact h.lt
theorem PairsAt.at {w w' : World} {b : Nat} {S : List (Int × Int)} (h : PairsAt w b S) (hb : w'.heap[b]? = w.heap[b]?) : PairsAt w' b S := by
  obtain ⟨D, ⟨es, cl, h1, h2⟩, h3⟩ := h
  exact ⟨D, ⟨es, cl, by rw [hb]; exact h1, h2⟩, h3⟩
theorem PairsAt.below {w w' : World} {b : Nat} {S : List (Int × Int)} (h : PairsAt w b S) (hb : Below w.heap.size w w') : PairsAt w' b S := h.at (hb.block b h.lt)
theorem PairsAt.perm {w : World} {b : Nat} {S S' : List (Int × Int)} (h : PairsAt w b S) (hp : S.Perm S') : PairsAt w b S' := by
  obtain ⟨D, h1, h2, h3⟩ := h
  refine ⟨D, by rw [← hp.length_eq]; exact h1, by rw [← hp.length_eq]; exact h2, fun c n hc hn => ?_⟩
  rw [h3 c n hc hn]
  simp only [hp.mem_iff]
theorem PairsAt.made (w : World) : PairsAt (w.alloc (.map #[] 0)) w.heap.size [] :=
  ⟨_, World.ownsMap_made w Tryd.prog 75 unitElem, rfl, fun c n _ _ => by simp [Maps.has]⟩
theorem PairsAt.tight {w : World} {b N : Nat} {S : List (Int × Int)} {D : DataW Unit} (h : w.ownsMap Tryd.prog 75 unitElem b N D) (hs : Maps.size D = S.length) (hh : ∀ c n : Int, I64 c → I64 n → Maps.has D (klP c n) = decide ((c, n) ∈ S)) : PairsAt w b S := by
  refine ⟨D, ?_, hs, hh⟩
  obtain ⟨es, cl, h1, h2, h3, h4⟩ := h
  refine ⟨es, cl, h1, h2, ?_, h4⟩
  rw [← hs, h4]
  show es.size ≤ List.length _
  rw [length_read]
  exact Nat.le_refl _
theorem kl_inj {c n c' n' : Int} (hc : I64 c) (hn : I64 n) (hc' : I64 c') (hn' : I64 n') (h : klP c n = klP c' n') : c = c' ∧ n = n' := by
  have h1 := key_pair c n hc hn
  rw [h] at h1
  have h2 := lawP.inj h1 (key_pair c' n' hc' hn')
  simpa using h2
set_option maxRecDepth 100000 in
set_option maxHeartbeats 2000000 in
theorem has_any (b : Nat) (S : List (Int × Int)) (c n : Int) (hc : I64 c) (hn : I64 n) (w : World) (h : PairsAt w b S) :
    Calls Tryd.prog 30 #[.map (some b), .agg #[.int .i64 c, .int .i64 n]] w fun e w' => e = .returned (.bool (decide ((c, n) ∈ S))) ∧ Below w.heap.size w w' := by
  have hB1 : Below w.heap.size w (w.alloc (.cells #[.int .i64 c, .int .i64 n] 75)) := (Below.refl _ _).alloc (Nat.le_refl _) _
  have hR1 : (w.alloc (.cells #[.int .i64 c, .int .i64 n] 75)).rangeAt w.heap.size 0 [.int .i64 c, .int .i64 n] := by simpa using range_new w #[.int .i64 c, .int .i64 n] 75
  have d0 := hR1 0 _ rfl
  have d1 := hR1 1 _ rfl
  rw [Nat.zero_add] at d0 d1
  obtain ⟨D, hown, -, hD⟩ := h.below hB1
  have hkey := key_pair c n hc hn
  have hh := hD c n hc hn
  obtain ⟨B, hB⟩ : ∃ B, Hid (decide ((c, n) ∈ S) = B) := ⟨_, hide rfl⟩
  rw [hB.out] at hh ⊢
  obtain ⟨kl, hkl⟩ : ∃ kl, Hid (klP c n = kl) := ⟨_, hide rfl⟩
  rw [hkl.out] at hh hkey
  clear hkl hB hD hR1 h hc hn
  have hz := zeroU
  go_enter Tryd.func30, Tryd.ntmps30
  go_upto_region 1 with fail
  go_name_world w1 hw1
  rw [hw1] at hB1 d0 d1 hown
  clear hw1
  go_wp2_with (first
    | (at_lookup; refine wpList_lookup_own_unit _ rfl _ _ 59 rfl 75 90 lawP Tryd.underlying59 (zeroU _) b _ D rfl hown _ kl rfl hkey ?_; rw [hh]))
  go_ret
  exact ⟨rfl, hB1.alloc hB1.size _⟩
set_option maxRecDepth 100000 in
set_option maxHeartbeats 2000000 in
theorem addP_any (b : Nat) (S : List (Int × Int)) (c n : Int) (hc : I64 c) (hn : I64 n) (w : World) (h : PairsAt w b S) (hm : S.length < 1000000) :
    Calls Tryd.prog 37 #[.map (some b), .agg #[.int .i64 c, .int .i64 n]] w fun e w' => e = .returned (.tuple #[]) ∧ PairsAt w' b (if (c, n) ∈ S then S else (c, n) :: S) ∧ w.grownBy w' (some b) := by
  have hB1 : Below w.heap.size w (w.alloc (.cells #[.int .i64 c, .int .i64 n] 75)) := (Below.refl _ _).alloc (Nat.le_refl _) _
  have hR1 : (w.alloc (.cells #[.int .i64 c, .int .i64 n] 75)).rangeAt w.heap.size 0 [.int .i64 c, .int .i64 n] := by simpa using range_new w #[.int .i64 c, .int .i64 n] 75
  have d0 := hR1 0 _ rfl
  have d1 := hR1 1 _ rfl
  rw [Nat.zero_add] at d0 d1
  have hg0 : w.grownBy (w.alloc (.cells #[.int .i64 c, .int .i64 n] 75)) (some b) := World.grownBy_alloc w _ _
  obtain ⟨D, hown, hsz, hD⟩ := h.below hB1
  have hkey := key_pair c n hc hn
  have HS : Hid (Maps.size (D.put (klP c n) (.agg [])) = (if (c, n) ∈ S then S else (c, n) :: S).length) := hide (by
    rw [Maps.size_put (hown.tidy lawP), hD c n hc hn, hsz]
    by_cases hx : (c, n) ∈ S <;> simp [hx])
  have HN : Hid (∀ c' n' : Int, I64 c' → I64 n' → Maps.has (D.put (klP c n) (.agg [])) (klP c' n') = decide ((c', n') ∈ (if (c, n) ∈ S then S else (c, n) :: S))) := hide (fun c' n' hc' hn' => by
    by_cases he : c' = c ∧ n' = n
    · obtain ⟨rfl, rfl⟩ := he
      rw [Maps.has_put_same hown.isMap (lawP.key hkey)]
      by_cases hx : (c', n') ∈ S <;> simp [hx]
    · have hne : klP c' n' ≠ klP c n := fun hk => he (kl_inj hc' hn' hc hn hk)
      rw [Maps.has_put_other hne, hD c' n' hc' hn']
      have h3 : (c', n') ≠ (c, n) := fun h4 => he (by simpa using h4)
      by_cases hx : (c, n) ∈ S <;> simp [hx, h3])
  obtain ⟨S', hS'⟩ : ∃ S', Hid ((if (c, n) ∈ S then S else (c, n) :: S) = S') := ⟨_, hide rfl⟩
  simp only [hS'.out] at HN
  rw [hS'.out] at HS ⊢
  obtain ⟨kl, hkl⟩ : ∃ kl, Hid (klP c n = kl) := ⟨_, hide rfl⟩
  rw [hkl.out] at hkey HS
  simp only [hkl.out] at HN
  clear hkl hS' hD hR1 hsz h hc hn
  obtain ⟨N, hN⟩ : ∃ N, Hid (S.length = N) := ⟨_, hide rfl⟩
  rw [hN.out] at hown hm
  clear hN
  go_enter Tryd.func37, Tryd.ntmps37
  go_upto_region 1 with fail
  go_name_world w1 hw1
  rw [hw1] at hB1 d0 d1 hown hg0
  clear hw1
  go_wp2_with (first
    | (at_mapUpdate; refine wpList_mapUpdate_in _ rfl _ _ _ 59 rfl 75 90 lawP Tryd.underlying59 (unitElem (H := Unit)) b N D rfl hown (by unfold maxLen; omega) _ _ kl rfl rfl hkey (.agg []) [] unitElem_mk ?_; intro w2 hown2 hturn2))
  go_end0
  exact ⟨rfl, PairsAt.tight hown2 HS.out HN.out, gb_trans hg0 hturn2.grown⟩
theorem results_cellP {fn : Func} {p : Tmp} {ty : TypeId} (h : fn.results = #[.cell p ty]) (tmps : Array Value) (P : Program) (w : World) {a : Addr} {v : Value} (ha : tmps.getD p undef = .pointer (some a)) (hv : (loadVar ty a).run P w = .ok v w) : (results fn tmps).run P w = .ok v w := by
  have e : (results fn tmps).run P w = ((asAddr (tmps.getD p undef)).run P w).andThen fun a w₁ => (loadVar ty a).run P w₁ := by
    simp only [results, h]
    simp [Sem.run_bind, Result.andThen]
  rw [e, ha]
  simp [asAddr, hv, Result.andThen]
set_option maxRecDepth 100000 in
set_option maxHeartbeats 2000000 in
theorem pairOf_any (r : Rq) (w : World) :
    Calls Tryd.prog 35 #[.agg r.cells.toArray] w fun e w' => e = .returned (.agg #[.int .i64 r.c, .int .i64 r.n]) ∧ Below w.heap.size w w' := by
  have hB0 : Below w.heap.size w (w.alloc (.cells r.cells.toArray 35)) := (Below.refl _ _).alloc (Nat.le_refl _) _
  have hR1 : (w.alloc (.cells r.cells.toArray 35)).rangeAt w.heap.size 0 r.cells := by simpa using range_new w r.cells.toArray 35
  obtain ⟨W1, hW1⟩ : ∃ W1, (w.alloc (.cells r.cells.toArray 35)).alloc (.cells #[.int .i64 0, .int .i64 0] 75) = W1 := ⟨_, rfl⟩
  have hB1 : Below w.heap.size w W1 := by rw [← hW1]; exact hB0.alloc hB0.size _
  have hT : W1.heap[w.heap.size + 1]? = some (.cells #[.int .i64 0, .int .i64 0] 75) := by
    rw [← hW1]
    have := heap_alloc_new (w.alloc (.cells r.cells.toArray 35)) (.cells #[.int .i64 0, .int .i64 0] 75)
    simpa using this
  have hR2 : W1.rangeAt w.heap.size 0 r.cells := by
    rw [← hW1]
    exact range_at hR1 (Below.heap_alloc _ _ _ (by simp))
  obtain ⟨d0, d1, -⟩ := reqL_0 hR2
  have t0 : W1.cell? ⟨w.heap.size + 1, 0, none⟩ = some (.int .i64 0) := by simp [World.cell?, hT]
  have t1 : W1.cell? ⟨w.heap.size + 1, 1, none⟩ = some (.int .i64 0) := by simp [World.cell?, hT]
  have f0 : W1.frozen? ⟨w.heap.size + 1, 0, none⟩ = false := by simp [World.frozen?, hT]
  have f1 : W1.frozen? ⟨w.heap.size + 1, 1, none⟩ = false := by simp [World.frozen?, hT]
  have hth : W1.there (w.heap.size + 1) 0 2 := by
    rw [← hW1]
    have := there_new (w.alloc (.cells r.cells.toArray 35)) #[.int .i64 0, .int .i64 0] 75
    simpa using this
  have hip : (Tryd.prog.info? 75).map (·.size) = some [Value.int .i64 r.c, Value.int .i64 r.n].length := by kernel_rfl
  clear hR1 hR2 hB0 hT
  obtain ⟨q, hq⟩ : ∃ q, Hid (r.cells = q) := ⟨_, hide rfl⟩
  rw [hq.out] at hW1 ⊢
  clear hq
  go_enter Tryd.func35, Tryd.ntmps35
  go_upto_region 1 with fail

  clear hW1
  go_wp2_with fail
  have hRr : (W1.setCells (w.heap.size + 1) 0 [.int .i64 r.c, .int .i64 r.n]).rangeAt (w.heap.size + 1) 0 [.int .i64 r.c, .int .i64 r.n] := World.rangeAt_setCells_same W1 _ 0 _ hth
  have hrs := run_loadVar_mid (P := Tryd.prog) _ (w.heap.size + 1) 0 75 [.int .i64 r.c, .int .i64 r.n] _ hRr Tryd.underlying75 rfl hip
  exact bodyPost_ret (v := .agg #[.int .i64 r.c, .int .i64 r.n]) (results_cellP rfl _ _ _ rfl hrs) rfl ⟨rfl, (hB1.setCell (Nat.le_succ _) _).setCell (Nat.le_succ _) _⟩
end Go.Proofs.YtbfcbjjhdadicaaDoor
