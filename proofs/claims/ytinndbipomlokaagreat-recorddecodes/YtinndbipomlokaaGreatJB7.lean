/- the document's reader: tags and digests; the document's reader: votes; batch.Get and request.Get -/
import Derived.Test.YtinndbipomlokaaGreatJB0
import Derived.Test.YtinndbipomlokaaGreatJB6
import Derived.Laws.MakeOwn
namespace Go.Proofs.YtinndbipomlokaaGreat
open Go.RowKit
open Sha Tal
set_option linter.unusedVariables false
set_option linter.unusedSimpArgs false
def upTo (n : Nat) (t : List Int) (k : Nat) : List Int := t.take k ++ List.replicate (n - k) 0
theorem gb_low {w w' : World} {g n : Nat} (h : w.grownBy w' (some g)) (hn : n ≤ g) (hs : n ≤ w.heap.size) : Below n w w' :=
 ⟨h.os, h.tape, h.output, h.size, fun i hi => h.block i (by omega) (by intro q; injection q with q; omega)⟩
theorem upTo_set {n k : Nat} {t : List Int} (ht : t.length = n) (hk : k < n) : (v8 (upTo n t k)).set k (.int .u8 (t.getD k 0)) = v8 (upTo n t (k + 1)) := by
 unfold upTo
 have e : n - k = (n - (k + 1)) + 1 := by omega
 rw [e, List.replicate_succ]
 have h1 : (t.take k).length = k := by rw [List.length_take]; omega
 have h2 : t.take (k + 1) = t.take k ++ [t.getD k 0] := by
  rw [List.take_succ_eq_append_getElem (by omega)]
  simp [List.getD, List.getElem?_eq_getElem (show k < t.length by omega)]
 rw [h2]
 simp only [v8, List.map_append, List.map_cons, List.map_nil]
 have hm : min k t.length = k := Nat.min_eq_left (by omega)
 rw [List.set_append_right _ _ (by simp [hm])]
 simp [hm]
theorem upTo_all {n : Nat} {t : List Int} (ht : t.length = n) : upTo n t n = padN n t := by
 unfold upTo padN
 rw [if_pos ht, Nat.sub_self, ← ht, List.take_length]
 simp
theorem upTo_none {n : Nat} (h : 0 < n) : upTo n [] 0 = padN n [] := by
 unfold upTo padN
 rw [if_neg (by simp; omega)]
 simp
set_option maxRecDepth 100000 in
set_option maxHeartbeats 1000000 in
theorem xtagR_any (B X : Nat) (rest : List Int) (e : Int) (w : World) (h : RSt B w X rest e) (hX : X < w.heap.size) (hBX : B ≤ X) : Calls Tryz.prog 153 #[.pointer (some ⟨X, 0, none⟩)] w fun en w' => en = .returned (.agg (v8 (padN 16 (rawS rest e 16).1)).toArray) ∧ RSt B w' X (rawS rest e 16).2.1 (rawS rest e 16).2.2 ∧ w.grownBy w' (some X) := by
 obtain ⟨zc, hzc, hzr⟩ : ∃ zc : List Value, Hid (zc = v8 (List.replicate 16 (0 : Int))) ∧ ∀ w' : World, (zeroValue 89).run Tryz.prog w' = .ok (.agg zc.toArray) w' := ⟨_, hide rfl, fun w => by kernel_rfl⟩
 obtain ⟨hB1, hr1, hs1⟩ := boxed_new w zc 89
 have ht1 := there_newN w zc.toArray 89 (n := 16) (by rw [hzc.out]; simp)
 have hip : (Tryz.prog.info? 89).map (·.size) = some (v8 (padN 16 (rawS rest e 16).1)).length := by rw [v8_length, padN_len]; kernel_rfl
 have hp1 := v8_one (padN 16 (rawS rest e 16).1)
 have hpl : (v8 (padN 16 (rawS rest e 16).1)).length = 16 := by rw [v8_length, padN_len]
 obtain ⟨pc, hpc⟩ : ∃ p, Hid (v8 (padN 16 (rawS rest e 16).1) = p) := ⟨_, hide rfl⟩
 rw [hpc.out] at hip hp1 hpl ⊢
 go_enter Tryz.func153, Tryz.ntmps153
 go_upto_region 0 with fail
 try simp only [Act.put]
 refine pl_begin ?_
 refine pl_run (d := some 2) (v := .pointer (some ⟨w.heap.size, 0, none⟩)) (w' := w.alloc (.cells zc.toArray 89)) (by rfl) (ex_alloc rfl (hzr _)) rfl ?_
 simp only [nz]
 refine pl_nil ?_
 obtain ⟨W1, hW1⟩ : ∃ W, w.alloc (.cells zc.toArray 89) = W := ⟨_, rfl⟩
 rw [hW1] at hB1 hr1 hs1 ht1 ⊢
 clear hW1 hr1
 obtain ⟨hB2, hr2, hs2⟩ := boxed_new W1 zc 89
 have ht2 := there_newN W1 zc.toArray 89 (n := 16) (by rw [hzc.out]; simp)
 go_upto_region 1 with fail
 try simp only [Act.put]
 refine pl_begin ?_
 refine pl_run (d := some 3) (v := .pointer (some ⟨W1.heap.size, 0, none⟩)) (w' := W1.alloc (.cells zc.toArray 89)) (by rfl) (ex_alloc rfl (hzr _)) rfl ?_
 simp only [nz]
 refine pl_nil ?_
 obtain ⟨W2, hW2⟩ : ∃ W, W1.alloc (.cells zc.toArray 89) = W := ⟨_, rfl⟩
 rw [hW2] at hB2 hr2 hs2 ht2 ⊢
 clear hW2
 rw [hzc.out] at hr2
 have thA := there_belowN ht1 hB2 hs1
 have hBW := hB1.trans (hB2.mono hB1.size)
 have st2 := h.below hBW
 clear hzc hzr ht1
 go_upto_region 2 with fail
 try simp only [Act.put]
 refine pl_begin ?_
 refine pl_t 6 (?_) (by rfl) ?_ rfl ?_
 rotate_left
 ·go_simp
  try with_reducible rfl
 simp only [nz]
 refine pl_call (d := some 7) (by rfl) (by go_simp; first | done | exact ⟨rfl, rfl⟩ | with_reducible rfl) rfl ?_
 refine (refRaw_any X rest e 16 W2 st2).mono ?_
 rintro _ w3 hfin
 obtain ⟨v9, rfl, m3, st3, g3⟩ := hfin
 refine ⟨_, rfl, ?_⟩
 simp only [nz]
 refine pl_t 4 (?_) (by rfl) ?_ rfl ?_
 rotate_left
 ·go_simp
  try with_reducible rfl
 simp only [nz]
 refine pl_nil ?_
 have hN : (rawS rest e 16).1.length = 16 ∨ (rawS rest e 16).1 = [] := rawS_N rest e 16
 obtain ⟨a9, c9, hve, _, _, row9⟩ := m3.rowAt (by unfold maxLen; rcases hN with h | h <;> (rw [h]; simp))
 rw [hve]
 have hfrom : ∀ x, a9 = some x → W2.heap.size ≤ x.block := fun x hx => by
  rcases own_range m3.1 with ⟨hv, _, _⟩ | ⟨g, cap, hv, hg, _⟩
  ·rw [hve] at hv; injection hv with q1; rw [hx] at q1; cases q1
  ·rw [hve] at hv; injection hv with q1; rw [hx] at q1; injection q1 with q1; rw [q1]; exact hg
 obtain ⟨t, htt⟩ : ∃ t, Hid ((rawS rest e 16).1 = t) := ⟨_, hide rfl⟩
 rw [htt.out] at hN row9 ⊢
 have hA3 : w3.there w.heap.size 0 16 := there_gbR thA g3 (Nat.lt_of_lt_of_le hs1 hB2.size) (by omega)
 have hT3 : w3.there W1.heap.size 0 16 := there_gbR ht2 g3 hs2 (by omega)
 have hR3 : w3.rangeAt W1.heap.size 0 (v8 (upTo 16 t 0)) := by
  have := range_gbR hr2 g3 hs2 (by omega)
  simpa [upTo] using this
 have hz3 : W1.heap.size < w3.heap.size := Nat.lt_of_lt_of_le hs2 g3.size
 have htn : t.length ≤ 16 := by rcases hN with h | h <;> (rw [h]; simp)
 have HK0 : Hid (w3.rangeAt W1.heap.size 0 (v8 (upTo 16 t 0)) ∧ w3.there W1.heap.size 0 16 ∧ w3.there w.heap.size 0 16 ∧ RowAt w3 a9 t ∧ w3.grownBy w3 (some W1.heap.size)) := hide ⟨hR3, hT3, hA3, row9, gb_refl _ _⟩
 clear hve m3 hR3 hT3 hA3 row9 thA ht2 hr2
 go_upto_region 3 with fail
 go_wp2_with fail
 go_loopw [5] (fun iv wr => ∃ k : Nat, k ≤ t.length ∧ iv = .int .i64 (k : Int) ∧ Hid (wr.rangeAt W1.heap.size 0 (v8 (upTo 16 t k)) ∧ wr.there W1.heap.size 0 16 ∧ wr.there w.heap.size 0 16 ∧ RowAt wr a9 t ∧ w3.grownBy wr (some W1.heap.size))) (fun iv _ => t.length - (intOf iv).toNat)
 case atStart => exact ⟨0, by omega, rfl, HK0⟩
 case round =>
  clear HK0
  obtain ⟨k, hk, rfl, HK⟩ := hrel
  obtain ⟨hR, hth, hthA, hrow, hgr⟩ := HK.out
  clear HK
  by_cases hlt : k < t.length
  ·have htN : t.length = 16 := by
    rcases hN with h | h
    ·exact h
    ·rw [h] at hlt; simp at hlt
   have k1 : (k : Int) < t.length := by omega
   have kn : k < 16 := by omega
   have kn1 : (k : Int) < 16 := by omega
   have hus := upTo_set htN kn
   obtain ⟨b, off, hab, hb, hcb, hz0, hz1⟩ := hrow.get k hlt
   obtain ⟨c, hc⟩ : ∃ c, Hid (t.getD k 0 = c) := ⟨_, hide rfl⟩
   rw [hc.out] at hus hcb
   have hro : RowAt (wr.setCell ⟨W1.heap.size, k, none⟩ (.int .u8 c)) a9 t := hrow.other (.inr fun x hx => by have := hfrom x hx; show x.block ≠ W1.heap.size; omega)
   clear hc hz0 hz1
   subst hab
   go_upto_region 6 with fail
   try simp only [Act.put]
   refine pl_begin ?_
   refine pl_t 14 (?_) (by rfl) ?_ rfl ?_
   rotate_left
   ·go_simp
    try with_reducible rfl
   simp only [nz]
   refine pl_t 15 (?_) (by rfl) ?_ rfl ?_
   rotate_left
   ·go_simp
    try with_reducible rfl
   simp only [nz]
   refine pl_t 16 (?_) (by rfl) ?_ rfl ?_
   rotate_left
   ·go_simp
    try with_reducible rfl
   simp only [nz]
   refine pl_t 17 (?_) (by rfl) ?_ rfl ?_
   rotate_left
   ·go_simp
    try with_reducible rfl
   simp only [nz]
   refine pl_t 18 (.int .u8 c) (by rfl) (pl_one rfl rfl hcb Tryz.underlying5 rfl) rfl ?_
   simp only [nz]
   refine pl_t 19 (?_) (by rfl) ?_ rfl ?_
   rotate_left
   ·go_simp
    try with_reducible rfl
   simp only [nz]
   refine pl_store (w' := wr.setCells W1.heap.size k [.int .u8 c]) (by rfl) (ex_put1 (n := 16) rfl rfl rfl hth (by omega) isz8 rfl rfl) rfl ?_
   refine pl_nil ?_
   have hrs := range_set hR k (.int .u8 c)
   rw [Nat.zero_add, hus] at hrs
   have HN : Hid ((wr.setCells W1.heap.size k [.int .u8 c]).rangeAt W1.heap.size 0 (v8 (upTo 16 t (k + 1))) ∧ (wr.setCells W1.heap.size k [.int .u8 c]).there W1.heap.size 0 16 ∧ (wr.setCells W1.heap.size k [.int .u8 c]).there w.heap.size 0 16 ∧ RowAt (wr.setCells W1.heap.size k [.int .u8 c]) (some ⟨b, off, none⟩) t ∧ w3.grownBy (wr.setCells W1.heap.size k [.int .u8 c]) (some W1.heap.size)) := hide ⟨hrs, World.there_setCells hth _ _ _, World.there_setCells hthA _ _ _, hro, gb_trans hgr (gb_setsR _ _ _ _)⟩
   clear hrs hro hR hth hthA hrow hgr hcb
   go_wp2_with fail
   go_roundw
   case rel => exact ⟨k + 1, by omega, by go_num, HN⟩
   case measure => simp [intOf]; omega
  ·obtain rfl : k = t.length := by omega
   have rpc : wr.rangeAt W1.heap.size 0 pc := by
    rw [← hpc.out, htt.out]
    rcases hN with h | h
    ·have e := upTo_all h
     rw [h] at hR
     rw [e] at hR
     exact hR
    ·subst h
     have e := upTo_none (n := 16) (by decide)
     rw [← e]
     exact hR
   have hlow := gb_low hgr (n := w.heap.size) (by omega) (by omega)
   have gf := gb_onR (gb_onR (gb_trans (gb_below hBW (some X)) g3) hlow (Nat.le_refl _)) (below_sets (B := w.heap.size) (b := w.heap.size) (Nat.le_refl _) pc 0 _ (Below.refl _ wr)) (Nat.le_refl _)
   have sf := (st3.gb hgr (.inr (by omega))).gb (gb_setsR wr w.heap.size pc 0) (.inr hX)
   have hrs := run_loadVar_mid (P := Tryz.prog) (wr.setCells w.heap.size 0 pc) w.heap.size 0 89 pc _ (World.rangeAt_setCells_same wr w.heap.size 0 pc (by rw [hpl]; exact hthA)) Tryz.underlying89 rfl hip
   have HF : Hid (RSt B (wr.setCells w.heap.size 0 pc) X (rawS rest e 16).2.1 (rawS rest e 16).2.2 ∧ w.grownBy (wr.setCells w.heap.size 0 pc) (some X)) := hide ⟨sf, gf⟩
   clear sf gf hlow hR hrow hgr hth st3 g3
   go_upto_region 7 with fail
   try simp only [Act.put]
   refine pl_begin ?_
   refine pl_t 20 (.agg pc.toArray) (by rfl) (ex_mid rfl rfl rpc Tryz.underlying89 rfl hip) rfl ?_
   simp only [nz]
   refine pl_store (w' := wr.setCells w.heap.size 0 pc) (by rfl) (ex_put (cs := pc.toArray) rfl rfl rfl (by simpa [hpl] using hthA) (by simpa using hip) (all_one hp1)) rfl ?_
   refine pl_nil ?_
   go_wp2_with fail
   refine bodyPost_ret (v := .agg pc.toArray) ?_ rfl ?_
   ·simp [results, Tryz.results153, Act.put, asAddr, hrs]
   ·exact ⟨rfl, HF.out⟩
set_option maxRecDepth 100000 in
set_option maxHeartbeats 1000000 in
theorem xdigestR_any (B X : Nat) (rest : List Int) (e : Int) (w : World) (h : RSt B w X rest e) (hX : X < w.heap.size) (hBX : B ≤ X) : Calls Tryz.prog 118 #[.pointer (some ⟨X, 0, none⟩)] w fun en w' => en = .returned (.agg (v8 (padN 32 (rawS rest e 32).1)).toArray) ∧ RSt B w' X (rawS rest e 32).2.1 (rawS rest e 32).2.2 ∧ w.grownBy w' (some X) := by
 obtain ⟨zc, hzc, hzr⟩ : ∃ zc : List Value, Hid (zc = v8 (List.replicate 32 (0 : Int))) ∧ ∀ w' : World, (zeroValue 26).run Tryz.prog w' = .ok (.agg zc.toArray) w' := ⟨_, hide rfl, fun w => by kernel_rfl⟩
 obtain ⟨hB1, hr1, hs1⟩ := boxed_new w zc 26
 have ht1 := there_newN w zc.toArray 26 (n := 32) (by rw [hzc.out]; simp)
 have hip : (Tryz.prog.info? 26).map (·.size) = some (v8 (padN 32 (rawS rest e 32).1)).length := by rw [v8_length, padN_len]; kernel_rfl
 have hp1 := v8_one (padN 32 (rawS rest e 32).1)
 have hpl : (v8 (padN 32 (rawS rest e 32).1)).length = 32 := by rw [v8_length, padN_len]
 obtain ⟨pc, hpc⟩ : ∃ p, Hid (v8 (padN 32 (rawS rest e 32).1) = p) := ⟨_, hide rfl⟩
 rw [hpc.out] at hip hp1 hpl ⊢
 go_enter Tryz.func118, Tryz.ntmps118
 go_upto_region 0 with fail
 try simp only [Act.put]
 refine pl_begin ?_
 refine pl_run (d := some 2) (v := .pointer (some ⟨w.heap.size, 0, none⟩)) (w' := w.alloc (.cells zc.toArray 26)) (by rfl) (ex_alloc rfl (hzr _)) rfl ?_
 simp only [nz]
 refine pl_nil ?_
 obtain ⟨W1, hW1⟩ : ∃ W, w.alloc (.cells zc.toArray 26) = W := ⟨_, rfl⟩
 rw [hW1] at hB1 hr1 hs1 ht1 ⊢
 clear hW1 hr1
 obtain ⟨hB2, hr2, hs2⟩ := boxed_new W1 zc 26
 have ht2 := there_newN W1 zc.toArray 26 (n := 32) (by rw [hzc.out]; simp)
 go_upto_region 1 with fail
 try simp only [Act.put]
 refine pl_begin ?_
 refine pl_run (d := some 3) (v := .pointer (some ⟨W1.heap.size, 0, none⟩)) (w' := W1.alloc (.cells zc.toArray 26)) (by rfl) (ex_alloc rfl (hzr _)) rfl ?_
 simp only [nz]
 refine pl_nil ?_
 obtain ⟨W2, hW2⟩ : ∃ W, W1.alloc (.cells zc.toArray 26) = W := ⟨_, rfl⟩
 rw [hW2] at hB2 hr2 hs2 ht2 ⊢
 clear hW2
 rw [hzc.out] at hr2
 have thA := there_belowN ht1 hB2 hs1
 have hBW := hB1.trans (hB2.mono hB1.size)
 have st2 := h.below hBW
 clear hzc hzr ht1
 go_upto_region 2 with fail
 try simp only [Act.put]
 refine pl_begin ?_
 refine pl_t 6 (?_) (by rfl) ?_ rfl ?_
 rotate_left
 ·go_simp
  try with_reducible rfl
 simp only [nz]
 refine pl_call (d := some 7) (by rfl) (by go_simp; first | done | exact ⟨rfl, rfl⟩ | with_reducible rfl) rfl ?_
 refine (refRaw_any X rest e 32 W2 st2).mono ?_
 rintro _ w3 hfin
 obtain ⟨v9, rfl, m3, st3, g3⟩ := hfin
 refine ⟨_, rfl, ?_⟩
 simp only [nz]
 refine pl_t 4 (?_) (by rfl) ?_ rfl ?_
 rotate_left
 ·go_simp
  try with_reducible rfl
 simp only [nz]
 refine pl_nil ?_
 have hN : (rawS rest e 32).1.length = 32 ∨ (rawS rest e 32).1 = [] := rawS_N rest e 32
 obtain ⟨a9, c9, hve, _, _, row9⟩ := m3.rowAt (by unfold maxLen; rcases hN with h | h <;> (rw [h]; simp))
 rw [hve]
 have hfrom : ∀ x, a9 = some x → W2.heap.size ≤ x.block := fun x hx => by
  rcases own_range m3.1 with ⟨hv, _, _⟩ | ⟨g, cap, hv, hg, _⟩
  ·rw [hve] at hv; injection hv with q1; rw [hx] at q1; cases q1
  ·rw [hve] at hv; injection hv with q1; rw [hx] at q1; injection q1 with q1; rw [q1]; exact hg
 obtain ⟨t, htt⟩ : ∃ t, Hid ((rawS rest e 32).1 = t) := ⟨_, hide rfl⟩
 rw [htt.out] at hN row9 ⊢
 have hA3 : w3.there w.heap.size 0 32 := there_gbR thA g3 (Nat.lt_of_lt_of_le hs1 hB2.size) (by omega)
 have hT3 : w3.there W1.heap.size 0 32 := there_gbR ht2 g3 hs2 (by omega)
 have hR3 : w3.rangeAt W1.heap.size 0 (v8 (upTo 32 t 0)) := by
  have := range_gbR hr2 g3 hs2 (by omega)
  simpa [upTo] using this
 have hz3 : W1.heap.size < w3.heap.size := Nat.lt_of_lt_of_le hs2 g3.size
 have htn : t.length ≤ 32 := by rcases hN with h | h <;> (rw [h]; simp)
 have HK0 : Hid (w3.rangeAt W1.heap.size 0 (v8 (upTo 32 t 0)) ∧ w3.there W1.heap.size 0 32 ∧ w3.there w.heap.size 0 32 ∧ RowAt w3 a9 t ∧ w3.grownBy w3 (some W1.heap.size)) := hide ⟨hR3, hT3, hA3, row9, gb_refl _ _⟩
 clear hve m3 hR3 hT3 hA3 row9 thA ht2 hr2
 go_upto_region 3 with fail
 go_wp2_with fail
 go_loopw [5] (fun iv wr => ∃ k : Nat, k ≤ t.length ∧ iv = .int .i64 (k : Int) ∧ Hid (wr.rangeAt W1.heap.size 0 (v8 (upTo 32 t k)) ∧ wr.there W1.heap.size 0 32 ∧ wr.there w.heap.size 0 32 ∧ RowAt wr a9 t ∧ w3.grownBy wr (some W1.heap.size))) (fun iv _ => t.length - (intOf iv).toNat)
 case atStart => exact ⟨0, by omega, rfl, HK0⟩
 case round =>
  clear HK0
  obtain ⟨k, hk, rfl, HK⟩ := hrel
  obtain ⟨hR, hth, hthA, hrow, hgr⟩ := HK.out
  clear HK
  by_cases hlt : k < t.length
  ·have htN : t.length = 32 := by
    rcases hN with h | h
    ·exact h
    ·rw [h] at hlt; simp at hlt
   have k1 : (k : Int) < t.length := by omega
   have kn : k < 32 := by omega
   have kn1 : (k : Int) < 32 := by omega
   have hus := upTo_set htN kn
   obtain ⟨b, off, hab, hb, hcb, hz0, hz1⟩ := hrow.get k hlt
   obtain ⟨c, hc⟩ : ∃ c, Hid (t.getD k 0 = c) := ⟨_, hide rfl⟩
   rw [hc.out] at hus hcb
   have hro : RowAt (wr.setCell ⟨W1.heap.size, k, none⟩ (.int .u8 c)) a9 t := hrow.other (.inr fun x hx => by have := hfrom x hx; show x.block ≠ W1.heap.size; omega)
   clear hc hz0 hz1
   subst hab
   go_upto_region 6 with fail
   try simp only [Act.put]
   refine pl_begin ?_
   refine pl_t 14 (?_) (by rfl) ?_ rfl ?_
   rotate_left
   ·go_simp
    try with_reducible rfl
   simp only [nz]
   refine pl_t 15 (?_) (by rfl) ?_ rfl ?_
   rotate_left
   ·go_simp
    try with_reducible rfl
   simp only [nz]
   refine pl_t 16 (?_) (by rfl) ?_ rfl ?_
   rotate_left
   ·go_simp
    try with_reducible rfl
   simp only [nz]
   refine pl_t 17 (?_) (by rfl) ?_ rfl ?_
   rotate_left
   ·go_simp
    try with_reducible rfl
   simp only [nz]
   refine pl_t 18 (.int .u8 c) (by rfl) (pl_one rfl rfl hcb Tryz.underlying5 rfl) rfl ?_
   simp only [nz]
   refine pl_t 19 (?_) (by rfl) ?_ rfl ?_
   rotate_left
   ·go_simp
    try with_reducible rfl
   simp only [nz]
   refine pl_store (w' := wr.setCells W1.heap.size k [.int .u8 c]) (by rfl) (ex_put1 (n := 32) rfl rfl rfl hth (by omega) isz8 rfl rfl) rfl ?_
   refine pl_nil ?_
   have hrs := range_set hR k (.int .u8 c)
   rw [Nat.zero_add, hus] at hrs
   have HN : Hid ((wr.setCells W1.heap.size k [.int .u8 c]).rangeAt W1.heap.size 0 (v8 (upTo 32 t (k + 1))) ∧ (wr.setCells W1.heap.size k [.int .u8 c]).there W1.heap.size 0 32 ∧ (wr.setCells W1.heap.size k [.int .u8 c]).there w.heap.size 0 32 ∧ RowAt (wr.setCells W1.heap.size k [.int .u8 c]) (some ⟨b, off, none⟩) t ∧ w3.grownBy (wr.setCells W1.heap.size k [.int .u8 c]) (some W1.heap.size)) := hide ⟨hrs, World.there_setCells hth _ _ _, World.there_setCells hthA _ _ _, hro, gb_trans hgr (gb_setsR _ _ _ _)⟩
   clear hrs hro hR hth hthA hrow hgr hcb
   go_wp2_with fail
   go_roundw
   case rel => exact ⟨k + 1, by omega, by go_num, HN⟩
   case measure => simp [intOf]; omega
  ·obtain rfl : k = t.length := by omega
   have rpc : wr.rangeAt W1.heap.size 0 pc := by
    rw [← hpc.out, htt.out]
    rcases hN with h | h
    ·have e := upTo_all h
     rw [h] at hR
     rw [e] at hR
     exact hR
    ·subst h
     have e := upTo_none (n := 32) (by decide)
     rw [← e]
     exact hR
   have hlow := gb_low hgr (n := w.heap.size) (by omega) (by omega)
   have gf := gb_onR (gb_onR (gb_trans (gb_below hBW (some X)) g3) hlow (Nat.le_refl _)) (below_sets (B := w.heap.size) (b := w.heap.size) (Nat.le_refl _) pc 0 _ (Below.refl _ wr)) (Nat.le_refl _)
   have sf := (st3.gb hgr (.inr (by omega))).gb (gb_setsR wr w.heap.size pc 0) (.inr hX)
   have hrs := run_loadVar_mid (P := Tryz.prog) (wr.setCells w.heap.size 0 pc) w.heap.size 0 26 pc _ (World.rangeAt_setCells_same wr w.heap.size 0 pc (by rw [hpl]; exact hthA)) Tryz.underlying26 rfl hip
   have HF : Hid (RSt B (wr.setCells w.heap.size 0 pc) X (rawS rest e 32).2.1 (rawS rest e 32).2.2 ∧ w.grownBy (wr.setCells w.heap.size 0 pc) (some X)) := hide ⟨sf, gf⟩
   clear sf gf hlow hR hrow hgr hth st3 g3
   go_upto_region 7 with fail
   try simp only [Act.put]
   refine pl_begin ?_
   refine pl_t 20 (.agg pc.toArray) (by rfl) (ex_mid rfl rfl rpc Tryz.underlying26 rfl hip) rfl ?_
   simp only [nz]
   refine pl_store (w' := wr.setCells w.heap.size 0 pc) (by rfl) (ex_put (cs := pc.toArray) rfl rfl rfl (by simpa [hpl] using hthA) (by simpa using hip) (all_one hp1)) rfl ?_
   refine pl_nil ?_
   go_wp2_with fail
   refine bodyPost_ret (v := .agg pc.toArray) ?_ rfl ?_
   ·simp [results, Tryz.results118, Act.put, asAddr, hrs]
   ·exact ⟨rfl, HF.out⟩
structure XS (w : World) (X A B n : Nat) (q : List Value) (W : World) : Prop where
  row : W.rangeAt B 0 q
  box : W.there B 0 n
  ans : W.there A 0 n
  grown : w.grownBy W (some X)
  la : A < W.heap.size
  lb : B < W.heap.size
  na : w.heap.size ≤ A
  nb : w.heap.size ≤ B
  ne : A ≠ B
  lx : X < w.heap.size
theorem XS.gb {w W W' : World} {X A B n : Nat} {q : List Value} (h : XS w X A B n q W) (g : W.grownBy W' (some X)) : XS w X A B n q W' := by
 have h1 := h.na
 have h2 := h.nb
 have h3 := h.lx
 exact ⟨range_gbR h.row g h.lb (by omega), there_gbR h.box g h.lb (by omega), there_gbR h.ans g h.la (by omega), gb_trans h.grown g, Nat.lt_of_lt_of_le h.la g.size, Nat.lt_of_lt_of_le h.lb g.size, h1, h2, h.ne, h3⟩
theorem XS.set {w W : World} {X A B n : Nat} {q q' : List Value} (h : XS w X A B n q W) (o : Nat) (vs : List Value) (hq : (W.setCells B o vs).rangeAt B 0 q') : XS w X A B n q' (W.setCells B o vs) :=
 ⟨hq, World.there_setCells h.box _ _ _, World.there_setCells h.ans _ _ _, gb_onR h.grown (below_sets h.nb vs o _ (Below.refl _ W)) (Nat.le_refl _), by rw [size_sets]; exact h.la, by rw [size_sets]; exact h.lb, h.na, h.nb, h.ne, h.lx⟩
theorem XS.st {w W : World} {D X A B n o : Nat} {q vs : List Value} {zs : List Int} {e : Int} (h : XS w X A B n q W) (hs : RSt D W X zs e) : RSt D (W.setCells B o vs) X zs e :=
 hs.gb (gb_setsR W B vs o) (.inr (by have := h.nb; have := h.lx; omega))
theorem RSt.err {D X : Nat} {w : World} {zs : List Int} {e : Int} (h : RSt D w X zs e) : w.cell? ⟨X, 2, none⟩ = some (.int .i64 e) := by
 obtain ⟨_, _, hR, _⟩ := h
 exact hR.2.2.2.1
theorem RSt.bad {D X : Nat} {w : World} {zs : List Int} {e : Int} (h : RSt D w X zs e) (e' : Int) (he : e' ≠ 0) : RSt D (w.setCells X 2 [.int .i64 e']) X zs e' := by
 obtain ⟨a, p, hR, _⟩ := h
 exact ⟨a, p, hR.set2 e', fun h => absurd h he⟩
theorem RSt.there {D X : Nat} {w : World} {zs : List Int} {e : Int} (h : RSt D w X zs e) : w.there X 0 3 := by
 obtain ⟨_, _, hR, _⟩ := h
 obtain ⟨_, ⟨a, cap, c0, _⟩, c1, c2, f0, f1, f2, _⟩ := hR
 intro j hj
 match j, hj with
 | 0, _ => exact ⟨by show (w.cell? ⟨X, 0, none⟩).isSome = true; rw [c0]; rfl, f0⟩
 | 1, _ => exact ⟨by show (w.cell? ⟨X, 1, none⟩).isSome = true; rw [c1]; rfl, f1⟩
 | 2, _ => exact ⟨by show (w.cell? ⟨X, 2, none⟩).isSome = true; rw [c2]; rfl, f2⟩
def kdE (rest : List Int) (e most : Int) : Int := if (numS rest e most).2.2 == 0 then (if (numS rest e most).1 == 0 then 130 else (numS rest e most).2.2) else (numS rest e most).2.2
def xvtS (rest : List Int) (e : Int) : Vt × List Int × Int :=
  let x0 := numS rest e 2
  let x1 := numS x0.2.1 (kdE rest e 2) 1048576
  let x2 := numS x1.2.1 x1.2.2 1099511627776
  let x3 := numS x2.2.1 x2.2.2 1099511627776
  let x4 := rawS x3.2.1 x3.2.2 32
  (⟨x0.1, x1.1, x2.1, x3.1, padN 32 x4.1⟩, x4.2.1, x4.2.2)
set_option maxRecDepth 100000 in
set_option maxHeartbeats 1000000 in
theorem xgetVote_any (D X : Nat) (rest : List Int) (e : Int) (w : World) (h : RSt D w X rest e) (hX : X < w.heap.size) (hDX : D ≤ X) : Calls Tryz.prog 115 #[.pointer (some ⟨X, 0, none⟩)] w fun en w' => en = .returned (.agg (xvtS rest e).1.cells.toArray) ∧ RSt D w' X (xvtS rest e).2.1 (xvtS rest e).2.2 ∧ w.grownBy w' (some X) := by
 obtain ⟨zc, hzr, hzl, tz, htl, hzc⟩ := zeroVt
 have c0 := fun w0 h0 => refNum_any (B := D) X rest e 2 w0 h0
 unfold xvtS kdE
 simp only
 obtain ⟨v0, hv0⟩ : ∃ x, (numS rest e 2).1 = x := ⟨_, rfl⟩
 obtain ⟨r0, hr0⟩ : ∃ x, (numS rest e 2).2.1 = x := ⟨_, rfl⟩
 obtain ⟨e0, he0⟩ : ∃ x, (numS rest e 2).2.2 = x := ⟨_, rfl⟩
 simp only [hv0, hr0, he0] at c0 ⊢
 clear hv0 hr0 he0
 obtain ⟨b0, hb0⟩ : ∃ b, Hid ((e0 == 0) = b) := ⟨_, hide rfl⟩
 obtain ⟨b1, hb1⟩ : ∃ b, Hid ((v0 == 0) = b) := ⟨_, hide rfl⟩
 rw [hb0.out, hb1.out]
 obtain ⟨ek, hek⟩ : ∃ x : Int, Hid ((if b0 = true then (if b1 = true then 130 else e0) else e0) = x) := ⟨_, hide rfl⟩
 rw [hek.out]
 have c1 := fun w0 h0 => refNum_any (B := D) X r0 ek 1048576 w0 h0
 obtain ⟨v1, hv1⟩ : ∃ x, (numS r0 ek 1048576).1 = x := ⟨_, rfl⟩
 obtain ⟨r1, hr1⟩ : ∃ x, (numS r0 ek 1048576).2.1 = x := ⟨_, rfl⟩
 obtain ⟨e1, he1⟩ : ∃ x, (numS r0 ek 1048576).2.2 = x := ⟨_, rfl⟩
 simp only [hv1, hr1, he1] at c1 ⊢
 clear hv1 hr1 he1
 have c2 := fun w0 h0 => refNum_any (B := D) X r1 e1 1099511627776 w0 h0
 obtain ⟨v2, hv2⟩ : ∃ x, (numS r1 e1 1099511627776).1 = x := ⟨_, rfl⟩
 obtain ⟨r2, hr2⟩ : ∃ x, (numS r1 e1 1099511627776).2.1 = x := ⟨_, rfl⟩
 obtain ⟨e2, he2⟩ : ∃ x, (numS r1 e1 1099511627776).2.2 = x := ⟨_, rfl⟩
 simp only [hv2, hr2, he2] at c2 ⊢
 clear hv2 hr2 he2
 have c3 := fun w0 h0 => refNum_any (B := D) X r2 e2 1099511627776 w0 h0
 obtain ⟨v3, hv3⟩ : ∃ x, (numS r2 e2 1099511627776).1 = x := ⟨_, rfl⟩
 obtain ⟨r3, hr3⟩ : ∃ x, (numS r2 e2 1099511627776).2.1 = x := ⟨_, rfl⟩
 obtain ⟨e3, he3⟩ : ∃ x, (numS r2 e2 1099511627776).2.2 = x := ⟨_, rfl⟩
 simp only [hv3, hr3, he3] at c3 ⊢
 clear hv3 hr3 he3
 have c4 := fun w0 h0 hx => xdigestR_any D X r3 e3 w0 h0 hx hDX
 have hdl : (v8 (padN 32 (rawS r3 e3 32).1)).length = 32 := by rw [v8_length, padN_len]
 have hd1 := v8_one (padN 32 (rawS r3 e3 32).1)
 show Calls Tryz.prog 115 _ w fun en w' => en = .returned (.agg (Value.int .i64 v0 :: .int .i64 v1 :: .int .i64 v2 :: .int .i64 v3 :: v8 (padN 32 (rawS r3 e3 32).1)).toArray) ∧ _
 obtain ⟨dv, hdv⟩ : ∃ t, v8 (padN 32 (rawS r3 e3 32).1) = t := ⟨_, rfl⟩
 obtain ⟨r4, hr4⟩ : ∃ x, (rawS r3 e3 32).2.1 = x := ⟨_, rfl⟩
 obtain ⟨e4, he4⟩ : ∃ x, (rawS r3 e3 32).2.2 = x := ⟨_, rfl⟩
 simp only [hdv, hr4, he4] at c4 hdl hd1 ⊢
 clear hdv hr4 he4
 have hpl : (Value.int .i64 v0 :: .int .i64 v1 :: .int .i64 v2 :: .int .i64 v3 :: dv).length = 36 := by simp only [List.length_cons, hdl]
 have hip : (Tryz.prog.info? 28).map (·.size) = some (Value.int .i64 v0 :: .int .i64 v1 :: .int .i64 v2 :: .int .i64 v3 :: dv).length := by rw [hpl]; exact iszVo
 have hp1 : ∀ v ∈ (Value.int .i64 v0 :: .int .i64 v1 :: .int .i64 v2 :: .int .i64 v3 :: dv), v.oneCell' = true := fun v hv => by
  simp only [List.mem_cons] at hv
  rcases hv with rfl | rfl | rfl | rfl | hv
  ·rfl
  ·rfl
  ·rfl
  ·rfl
  ·exact hd1 v hv
 obtain ⟨hB1, hr1, hs1⟩ := boxed_new w zc 28
 have ht1 := there_newN w zc.toArray 28 (n := 36) (by simp [hzl])
 obtain ⟨pc, hpc⟩ : ∃ p, Hid (Value.int .i64 v0 :: .int .i64 v1 :: .int .i64 v2 :: .int .i64 v3 :: dv = p) := ⟨_, hide rfl⟩
 rw [hpc.out] at hpl hip hp1 ⊢
 go_enter Tryz.func115, Tryz.ntmps115
 go_upto_region 0 with fail
 try simp only [Act.put]
 refine pl_begin ?_
 refine pl_run (d := some 2) (v := .pointer (some ⟨w.heap.size, 0, none⟩)) (w' := w.alloc (.cells zc.toArray 28)) (by rfl) (ex_alloc rfl (hzr _)) rfl ?_
 simp only [nz]
 refine pl_nil ?_
 obtain ⟨W1, hW1⟩ : ∃ W, w.alloc (.cells zc.toArray 28) = W := ⟨_, rfl⟩
 rw [hW1] at hB1 hr1 hs1 ht1 ⊢
 clear hW1 hr1
 obtain ⟨hB2, hr2, hs2⟩ := boxed_new W1 zc 28
 have ht2 := there_newN W1 zc.toArray 28 (n := 36) (by simp [hzl])
 go_upto_region 1 with fail
 try simp only [Act.put]
 refine pl_begin ?_
 refine pl_run (d := some 3) (v := .pointer (some ⟨W1.heap.size, 0, none⟩)) (w' := W1.alloc (.cells zc.toArray 28)) (by rfl) (ex_alloc rfl (hzr _)) rfl ?_
 simp only [nz]
 refine pl_nil ?_
 obtain ⟨W2, hW2⟩ : ∃ W, W1.alloc (.cells zc.toArray 28) = W := ⟨_, rfl⟩
 rw [hW2] at hB2 hr2 hs2 ht2 ⊢
 clear hW2
 rw [hzc] at hr2
 have hBW := hB1.trans (hB2.mono hB1.size)
 have V0 : XS w X w.heap.size W1.heap.size 36 _ W2 := ⟨hr2, ht2, there_belowN ht1 hB2 hs1, gb_below hBW _, Nat.lt_of_lt_of_le hs1 hB2.size, hs2, Nat.le_refl _, hB1.size, by omega, hX⟩
 have s2 := h.below hBW
 clear hr2 ht2 ht1 hzr hzc hzl hB1 hB2 hBW hs2 h
 go_upto_region 2 with fail
 try simp only [Act.put]
 refine pl_begin ?_
 refine pl_t 4 (?_) (by rfl) ?_ rfl ?_
 rotate_left
 ·go_simp
  try with_reducible rfl
 simp only [nz]
 refine pl_call (d := some 5) (by rfl) (by go_simp; first | done | exact ⟨rfl, rfl⟩ | with_reducible rfl) rfl ?_
 refine (c0 W2 s2).mono ?_
 rintro _ wa0 ⟨rfl, sa0, ga0⟩
 refine ⟨_, rfl, ?_⟩
 simp only [nz]
 refine pl_t 6 (?_) (by rfl) ?_ rfl ?_
 rotate_left
 ·go_simp
  try with_reducible rfl
 simp only [nz]
 have Va0 := V0.gb ga0
 have Vb0 := Va0.set 0 [.int .i64 v0] (vt_put Va0.row _).1
 have sb0 := Va0.st (o := 0) (vs := [.int .i64 v0]) sa0
 refine pl_store (w' := wa0.setCells W1.heap.size 0 [.int .i64 v0]) (by rfl) (ex_put1 (n := 36) rfl rfl rfl Va0.box (by decide) iszI rfl rfl) rfl ?_
 refine pl_nil ?_
 obtain ⟨wb0, hwb0⟩ : ∃ W, wa0.setCells W1.heap.size 0 [.int .i64 v0] = W := ⟨_, rfl⟩
 rw [hwb0] at Vb0 sb0 ⊢
 clear hwb0 Va0 sa0 ga0
 clear c0 V0 s2
 go_upto_region 3 with fail
 try simp only [Act.put]
 refine pl_begin ?_
 refine pl_t 7 (?_) (by rfl) ?_ rfl ?_
 rotate_left
 ·go_simp
  try with_reducible rfl
 simp only [nz]
 refine pl_t 8 (?_) (by rfl) ?_ rfl ?_
 rotate_left
 ·go_simp
  try with_reducible rfl
 simp only [nz]
 refine pl_t 9 (?_) (by rfl) ?_ rfl ?_
 rotate_left
 ·go_simp
  try with_reducible rfl
 simp only [nz]
 refine pl_t 10 (.int .i64 e0) (by rfl) (pl_one rfl rfl sb0.err Tryz.underlying3 rfl) rfl ?_
 simp only [nz]
 refine pl_t 11 (.bool b0) (by rfl) (by rw [← hb0.out]; go_simp) rfl ?_
 simp only [nz]
 cases b0
 ·refine pl_t 12 (?_) (by rfl) ?_ rfl ?_
  rotate_left
  ·go_simp
   try with_reducible rfl
  simp only [nz]
  refine pl_skip (d := some 13) (by rfl) rfl ?_
  simp only [nz]
  refine pl_skip (d := some 14) (by rfl) rfl ?_
  simp only [nz]
  refine pl_skip (d := some 15) (by rfl) rfl ?_
  simp only [nz]
  refine pl_t 16 (?_) (by rfl) ?_ rfl ?_
  rotate_left
  ·go_simp
   try with_reducible rfl
  simp only [nz]
  refine pl_nil ?_
  obtain rfl : ek = e0 := by have := hek.out; simpa using this.symm
  have sk := sb0
  have Vk := Vb0
  go_upto_region 5 with fail
  try simp only [Act.put]
  refine pl_begin ?_
  refine pl_t 20 (?_) (by rfl) ?_ rfl ?_
  rotate_left
  ·go_simp
   try with_reducible rfl
  simp only [nz]
  refine pl_call (d := some 21) (by rfl) (by go_simp; first | done | exact ⟨rfl, rfl⟩ | with_reducible rfl) rfl ?_
  refine (c1 wb0 sk).mono ?_
  rintro _ wa1 ⟨rfl, sa1, ga1⟩
  refine ⟨_, rfl, ?_⟩
  simp only [nz]
  refine pl_t 22 (?_) (by rfl) ?_ rfl ?_
  rotate_left
  ·go_simp
   try with_reducible rfl
  simp only [nz]
  have Va1 := Vk.gb ga1
  have Vb1 := Va1.set 1 [.int .i64 v1] (vt_put Va1.row _).2.1
  have sb1 := Va1.st (o := 1) (vs := [.int .i64 v1]) sa1
  refine pl_store (w' := wa1.setCells W1.heap.size 1 [.int .i64 v1]) (by rfl) (ex_put1 (n := 36) rfl rfl rfl Va1.box (by decide) iszI rfl rfl) rfl ?_
  refine pl_nil ?_
  obtain ⟨wb1, hwb1⟩ : ∃ W, wa1.setCells W1.heap.size 1 [.int .i64 v1] = W := ⟨_, rfl⟩
  rw [hwb1] at Vb1 sb1 ⊢
  clear hwb1 Va1 sa1 ga1
  go_upto_region 6 with fail
  try simp only [Act.put]
  refine pl_begin ?_
  refine pl_t 23 (?_) (by rfl) ?_ rfl ?_
  rotate_left
  ·go_simp
   try with_reducible rfl
  simp only [nz]
  refine pl_call (d := some 24) (by rfl) (by go_simp; first | done | exact ⟨rfl, rfl⟩ | with_reducible rfl) rfl ?_
  refine (c2 wb1 sb1).mono ?_
  rintro _ wa2 ⟨rfl, sa2, ga2⟩
  refine ⟨_, rfl, ?_⟩
  simp only [nz]
  refine pl_t 25 (?_) (by rfl) ?_ rfl ?_
  rotate_left
  ·go_simp
   try with_reducible rfl
  simp only [nz]
  have Va2 := Vb1.gb ga2
  have Vb2 := Va2.set 2 [.int .i64 v2] (vt_put Va2.row _).2.2.1
  have sb2 := Va2.st (o := 2) (vs := [.int .i64 v2]) sa2
  refine pl_store (w' := wa2.setCells W1.heap.size 2 [.int .i64 v2]) (by rfl) (ex_put1 (n := 36) rfl rfl rfl Va2.box (by decide) iszI rfl rfl) rfl ?_
  refine pl_nil ?_
  obtain ⟨wb2, hwb2⟩ : ∃ W, wa2.setCells W1.heap.size 2 [.int .i64 v2] = W := ⟨_, rfl⟩
  rw [hwb2] at Vb2 sb2 ⊢
  clear hwb2 Va2 sa2 ga2
  go_upto_region 7 with fail
  try simp only [Act.put]
  refine pl_begin ?_
  refine pl_t 26 (?_) (by rfl) ?_ rfl ?_
  rotate_left
  ·go_simp
   try with_reducible rfl
  simp only [nz]
  refine pl_call (d := some 27) (by rfl) (by go_simp; first | done | exact ⟨rfl, rfl⟩ | with_reducible rfl) rfl ?_
  refine (c3 wb2 sb2).mono ?_
  rintro _ wa3 ⟨rfl, sa3, ga3⟩
  refine ⟨_, rfl, ?_⟩
  simp only [nz]
  refine pl_t 28 (?_) (by rfl) ?_ rfl ?_
  rotate_left
  ·go_simp
   try with_reducible rfl
  simp only [nz]
  have Va3 := Vb2.gb ga3
  have Vb3 := Va3.set 3 [.int .i64 v3] (vt_put Va3.row _).2.2.2
  have sb3 := Va3.st (o := 3) (vs := [.int .i64 v3]) sa3
  refine pl_store (w' := wa3.setCells W1.heap.size 3 [.int .i64 v3]) (by rfl) (ex_put1 (n := 36) rfl rfl rfl Va3.box (by decide) iszI rfl rfl) rfl ?_
  refine pl_nil ?_
  obtain ⟨wb3, hwb3⟩ : ∃ W, wa3.setCells W1.heap.size 3 [.int .i64 v3] = W := ⟨_, rfl⟩
  rw [hwb3] at Vb3 sb3 ⊢
  clear hwb3 Va3 sa3 ga3
  go_upto_region 8 with fail
  try simp only [Act.put]
  refine pl_begin ?_
  refine pl_t 29 (?_) (by rfl) ?_ rfl ?_
  rotate_left
  ·go_simp
   try with_reducible rfl
  simp only [nz]
  refine pl_call (d := some 30) (by rfl) (by go_simp; first | done | exact ⟨rfl, rfl⟩ | with_reducible rfl) rfl ?_
  refine (c4 wb3 sb3 (Nat.lt_of_lt_of_le Vb3.lx Vb3.grown.size)).mono ?_
  rintro _ wd ⟨rfl, sd, gd⟩
  refine ⟨_, rfl, ?_⟩
  simp only [nz]
  refine pl_t 31 (?_) (by rfl) ?_ rfl ?_
  rotate_left
  ·go_simp
   try with_reducible rfl
  simp only [nz]
  have Vd := Vb3.gb gd
  have Ve := Vd.set 4 dv (range_tail4 Vd.row (by rw [hdl]; exact there_part1 Vd.box (by decide)))
  have se := Vd.st (o := 4) (vs := dv) sd
  refine pl_store (w' := wd.setCells W1.heap.size 4 dv) (by rfl) (ex_put (cs := dv.toArray) rfl rfl rfl (by simpa [hdl] using there_part1 Vd.box (o := 4) (m := 32) (by decide)) (by simpa [hdl] using iszD) (all_one hd1)) rfl ?_
  refine pl_nil ?_
  obtain ⟨we, hwe⟩ : ∃ W, wd.setCells W1.heap.size 4 dv = W := ⟨_, rfl⟩
  rw [hwe] at Ve se ⊢
  clear hwe Vd sd gd
  have rpc := Ve.row
  rw [hpc.out] at rpc
  go_upto_region 9 with fail
  try simp only [Act.put]
  refine pl_begin ?_
  refine pl_t 32 (.agg pc.toArray) (by rfl) (ex_mid rfl rfl rpc Tryz.underlying28 rfl hip) rfl ?_
  simp only [nz]
  refine pl_store (w' := we.setCells w.heap.size 0 pc) (by rfl) (ex_put (cs := pc.toArray) rfl rfl rfl (by simpa [hpl] using Ve.ans) (by simpa using hip) (all_one hp1)) rfl ?_
  refine pl_nil ?_
  have hrs := run_loadVar_mid (P := Tryz.prog) (we.setCells w.heap.size 0 pc) w.heap.size 0 28 pc _ (World.rangeAt_setCells_same we w.heap.size 0 pc (by rw [hpl]; exact Ve.ans)) Tryz.underlying28 rfl hip
  have HF : Hid (RSt D (we.setCells w.heap.size 0 pc) X r4 e4 ∧ w.grownBy (we.setCells w.heap.size 0 pc) (some X)) := hide ⟨se.gb (gb_setsR we w.heap.size pc 0) (.inr Ve.lx), gb_onR Ve.grown (below_sets (B := w.heap.size) (b := w.heap.size) (Nat.le_refl _) pc 0 _ (Below.refl _ we)) (Nat.le_refl _)⟩
  clear Ve se rpc
  go_wp2_with fail
  refine bodyPost_ret (v := .agg pc.toArray) ?_ rfl ?_
  ·simp [results, Tryz.results115, Act.put, asAddr, hrs]
  ·exact ⟨rfl, HF.out⟩
 ·refine pl_t 12 (?_) (by rfl) ?_ rfl ?_
  rotate_left
  ·go_simp
   try with_reducible rfl
  simp only [nz]
  refine pl_t 13 (?_) (by rfl) ?_ rfl ?_
  rotate_left
  ·go_simp
   try with_reducible rfl
  simp only [nz]
  refine pl_t 14 (.int .i64 v0) (by rfl) (pl_one rfl rfl (Vb0.row 0 _ rfl) Tryz.underlying3 rfl) rfl ?_
  simp only [nz]
  refine pl_t 15 (.bool b1) (by rfl) (by rw [← hb1.out]; go_simp) rfl ?_
  simp only [nz]
  cases b1
  ·refine pl_t 16 (?_) (by rfl) ?_ rfl ?_
   rotate_left
   ·go_simp
    try with_reducible rfl
   simp only [nz]
   refine pl_nil ?_
   obtain rfl : ek = e0 := by have := hek.out; simpa using this.symm
   have sk := sb0
   have Vk := Vb0
   go_upto_region 5 with fail
   try simp only [Act.put]
   refine pl_begin ?_
   refine pl_t 20 (?_) (by rfl) ?_ rfl ?_
   rotate_left
   ·go_simp
    try with_reducible rfl
   simp only [nz]
   refine pl_call (d := some 21) (by rfl) (by go_simp; first | done | exact ⟨rfl, rfl⟩ | with_reducible rfl) rfl ?_
   refine (c1 wb0 sk).mono ?_
   rintro _ wa1 ⟨rfl, sa1, ga1⟩
   refine ⟨_, rfl, ?_⟩
   simp only [nz]
   refine pl_t 22 (?_) (by rfl) ?_ rfl ?_
   rotate_left
   ·go_simp
    try with_reducible rfl
   simp only [nz]
   have Va1 := Vk.gb ga1
   have Vb1 := Va1.set 1 [.int .i64 v1] (vt_put Va1.row _).2.1
   have sb1 := Va1.st (o := 1) (vs := [.int .i64 v1]) sa1
   refine pl_store (w' := wa1.setCells W1.heap.size 1 [.int .i64 v1]) (by rfl) (ex_put1 (n := 36) rfl rfl rfl Va1.box (by decide) iszI rfl rfl) rfl ?_
   refine pl_nil ?_
   obtain ⟨wb1, hwb1⟩ : ∃ W, wa1.setCells W1.heap.size 1 [.int .i64 v1] = W := ⟨_, rfl⟩
   rw [hwb1] at Vb1 sb1 ⊢
   clear hwb1 Va1 sa1 ga1
   go_upto_region 6 with fail
   try simp only [Act.put]
   refine pl_begin ?_
   refine pl_t 23 (?_) (by rfl) ?_ rfl ?_
   rotate_left
   ·go_simp
    try with_reducible rfl
   simp only [nz]
   refine pl_call (d := some 24) (by rfl) (by go_simp; first | done | exact ⟨rfl, rfl⟩ | with_reducible rfl) rfl ?_
   refine (c2 wb1 sb1).mono ?_
   rintro _ wa2 ⟨rfl, sa2, ga2⟩
   refine ⟨_, rfl, ?_⟩
   simp only [nz]
   refine pl_t 25 (?_) (by rfl) ?_ rfl ?_
   rotate_left
   ·go_simp
    try with_reducible rfl
   simp only [nz]
   have Va2 := Vb1.gb ga2
   have Vb2 := Va2.set 2 [.int .i64 v2] (vt_put Va2.row _).2.2.1
   have sb2 := Va2.st (o := 2) (vs := [.int .i64 v2]) sa2
   refine pl_store (w' := wa2.setCells W1.heap.size 2 [.int .i64 v2]) (by rfl) (ex_put1 (n := 36) rfl rfl rfl Va2.box (by decide) iszI rfl rfl) rfl ?_
   refine pl_nil ?_
   obtain ⟨wb2, hwb2⟩ : ∃ W, wa2.setCells W1.heap.size 2 [.int .i64 v2] = W := ⟨_, rfl⟩
   rw [hwb2] at Vb2 sb2 ⊢
   clear hwb2 Va2 sa2 ga2
   go_upto_region 7 with fail
   try simp only [Act.put]
   refine pl_begin ?_
   refine pl_t 26 (?_) (by rfl) ?_ rfl ?_
   rotate_left
   ·go_simp
    try with_reducible rfl
   simp only [nz]
   refine pl_call (d := some 27) (by rfl) (by go_simp; first | done | exact ⟨rfl, rfl⟩ | with_reducible rfl) rfl ?_
   refine (c3 wb2 sb2).mono ?_
   rintro _ wa3 ⟨rfl, sa3, ga3⟩
   refine ⟨_, rfl, ?_⟩
   simp only [nz]
   refine pl_t 28 (?_) (by rfl) ?_ rfl ?_
   rotate_left
   ·go_simp
    try with_reducible rfl
   simp only [nz]
   have Va3 := Vb2.gb ga3
   have Vb3 := Va3.set 3 [.int .i64 v3] (vt_put Va3.row _).2.2.2
   have sb3 := Va3.st (o := 3) (vs := [.int .i64 v3]) sa3
   refine pl_store (w' := wa3.setCells W1.heap.size 3 [.int .i64 v3]) (by rfl) (ex_put1 (n := 36) rfl rfl rfl Va3.box (by decide) iszI rfl rfl) rfl ?_
   refine pl_nil ?_
   obtain ⟨wb3, hwb3⟩ : ∃ W, wa3.setCells W1.heap.size 3 [.int .i64 v3] = W := ⟨_, rfl⟩
   rw [hwb3] at Vb3 sb3 ⊢
   clear hwb3 Va3 sa3 ga3
   go_upto_region 8 with fail
   try simp only [Act.put]
   refine pl_begin ?_
   refine pl_t 29 (?_) (by rfl) ?_ rfl ?_
   rotate_left
   ·go_simp
    try with_reducible rfl
   simp only [nz]
   refine pl_call (d := some 30) (by rfl) (by go_simp; first | done | exact ⟨rfl, rfl⟩ | with_reducible rfl) rfl ?_
   refine (c4 wb3 sb3 (Nat.lt_of_lt_of_le Vb3.lx Vb3.grown.size)).mono ?_
   rintro _ wd ⟨rfl, sd, gd⟩
   refine ⟨_, rfl, ?_⟩
   simp only [nz]
   refine pl_t 31 (?_) (by rfl) ?_ rfl ?_
   rotate_left
   ·go_simp
    try with_reducible rfl
   simp only [nz]
   have Vd := Vb3.gb gd
   have Ve := Vd.set 4 dv (range_tail4 Vd.row (by rw [hdl]; exact there_part1 Vd.box (by decide)))
   have se := Vd.st (o := 4) (vs := dv) sd
   refine pl_store (w' := wd.setCells W1.heap.size 4 dv) (by rfl) (ex_put (cs := dv.toArray) rfl rfl rfl (by simpa [hdl] using there_part1 Vd.box (o := 4) (m := 32) (by decide)) (by simpa [hdl] using iszD) (all_one hd1)) rfl ?_
   refine pl_nil ?_
   obtain ⟨we, hwe⟩ : ∃ W, wd.setCells W1.heap.size 4 dv = W := ⟨_, rfl⟩
   rw [hwe] at Ve se ⊢
   clear hwe Vd sd gd
   have rpc := Ve.row
   rw [hpc.out] at rpc
   go_upto_region 9 with fail
   try simp only [Act.put]
   refine pl_begin ?_
   refine pl_t 32 (.agg pc.toArray) (by rfl) (ex_mid rfl rfl rpc Tryz.underlying28 rfl hip) rfl ?_
   simp only [nz]
   refine pl_store (w' := we.setCells w.heap.size 0 pc) (by rfl) (ex_put (cs := pc.toArray) rfl rfl rfl (by simpa [hpl] using Ve.ans) (by simpa using hip) (all_one hp1)) rfl ?_
   refine pl_nil ?_
   have hrs := run_loadVar_mid (P := Tryz.prog) (we.setCells w.heap.size 0 pc) w.heap.size 0 28 pc _ (World.rangeAt_setCells_same we w.heap.size 0 pc (by rw [hpl]; exact Ve.ans)) Tryz.underlying28 rfl hip
   have HF : Hid (RSt D (we.setCells w.heap.size 0 pc) X r4 e4 ∧ w.grownBy (we.setCells w.heap.size 0 pc) (some X)) := hide ⟨se.gb (gb_setsR we w.heap.size pc 0) (.inr Ve.lx), gb_onR Ve.grown (below_sets (B := w.heap.size) (b := w.heap.size) (Nat.le_refl _) pc 0 _ (Below.refl _ we)) (Nat.le_refl _)⟩
   clear Ve se rpc
   go_wp2_with fail
   refine bodyPost_ret (v := .agg pc.toArray) ?_ rfl ?_
   ·simp [results, Tryz.results115, Act.put, asAddr, hrs]
   ·exact ⟨rfl, HF.out⟩
  ·refine pl_t 16 (?_) (by rfl) ?_ rfl ?_
   rotate_left
   ·go_simp
    try with_reducible rfl
   simp only [nz]
   refine pl_nil ?_
   obtain rfl : ek = 130 := by have := hek.out; simpa using this.symm
   go_upto_region 4 with fail
   try simp only [Act.put]
   refine pl_begin ?_
   refine pl_t 17 (?_) (by rfl) ?_ rfl ?_
   rotate_left
   ·go_simp
    try with_reducible rfl
   simp only [nz]
   refine pl_t 18 (?_) (by rfl) ?_ rfl ?_
   rotate_left
   ·go_simp
    try with_reducible rfl
   simp only [nz]
   refine pl_t 19 (?_) (by rfl) ?_ rfl ?_
   rotate_left
   ·go_simp
    try with_reducible rfl
   simp only [nz]
   have sk := sb0.bad 130 (by decide)
   have Vk := Vb0.gb (gb_setsR wb0 X [.int .i64 130] 2)
   refine pl_store (w' := wb0.setCells X 2 [.int .i64 130]) (by rfl) (ex_put1 (n := 3) rfl rfl rfl sb0.there (by decide) iszI rfl rfl) rfl ?_
   refine pl_nil ?_
   obtain ⟨wk, hwk⟩ : ∃ W, wb0.setCells X 2 [.int .i64 130] = W := ⟨_, rfl⟩
   rw [hwk] at sk Vk ⊢
   clear hwk
   go_upto_region 5 with fail
   try simp only [Act.put]
   refine pl_begin ?_
   refine pl_t 20 (?_) (by rfl) ?_ rfl ?_
   rotate_left
   ·go_simp
    try with_reducible rfl
   simp only [nz]
   refine pl_call (d := some 21) (by rfl) (by go_simp; first | done | exact ⟨rfl, rfl⟩ | with_reducible rfl) rfl ?_
   refine (c1 wk sk).mono ?_
   rintro _ wa1 ⟨rfl, sa1, ga1⟩
   refine ⟨_, rfl, ?_⟩
   simp only [nz]
   refine pl_t 22 (?_) (by rfl) ?_ rfl ?_
   rotate_left
   ·go_simp
    try with_reducible rfl
   simp only [nz]
   have Va1 := Vk.gb ga1
   have Vb1 := Va1.set 1 [.int .i64 v1] (vt_put Va1.row _).2.1
   have sb1 := Va1.st (o := 1) (vs := [.int .i64 v1]) sa1
   refine pl_store (w' := wa1.setCells W1.heap.size 1 [.int .i64 v1]) (by rfl) (ex_put1 (n := 36) rfl rfl rfl Va1.box (by decide) iszI rfl rfl) rfl ?_
   refine pl_nil ?_
   obtain ⟨wb1, hwb1⟩ : ∃ W, wa1.setCells W1.heap.size 1 [.int .i64 v1] = W := ⟨_, rfl⟩
   rw [hwb1] at Vb1 sb1 ⊢
   clear hwb1 Va1 sa1 ga1
   go_upto_region 6 with fail
   try simp only [Act.put]
   refine pl_begin ?_
   refine pl_t 23 (?_) (by rfl) ?_ rfl ?_
   rotate_left
   ·go_simp
    try with_reducible rfl
   simp only [nz]
   refine pl_call (d := some 24) (by rfl) (by go_simp; first | done | exact ⟨rfl, rfl⟩ | with_reducible rfl) rfl ?_
   refine (c2 wb1 sb1).mono ?_
   rintro _ wa2 ⟨rfl, sa2, ga2⟩
   refine ⟨_, rfl, ?_⟩
   simp only [nz]
   refine pl_t 25 (?_) (by rfl) ?_ rfl ?_
   rotate_left
   ·go_simp
    try with_reducible rfl
   simp only [nz]
   have Va2 := Vb1.gb ga2
   have Vb2 := Va2.set 2 [.int .i64 v2] (vt_put Va2.row _).2.2.1
   have sb2 := Va2.st (o := 2) (vs := [.int .i64 v2]) sa2
   refine pl_store (w' := wa2.setCells W1.heap.size 2 [.int .i64 v2]) (by rfl) (ex_put1 (n := 36) rfl rfl rfl Va2.box (by decide) iszI rfl rfl) rfl ?_
   refine pl_nil ?_
   obtain ⟨wb2, hwb2⟩ : ∃ W, wa2.setCells W1.heap.size 2 [.int .i64 v2] = W := ⟨_, rfl⟩
   rw [hwb2] at Vb2 sb2 ⊢
   clear hwb2 Va2 sa2 ga2
   go_upto_region 7 with fail
   try simp only [Act.put]
   refine pl_begin ?_
   refine pl_t 26 (?_) (by rfl) ?_ rfl ?_
   rotate_left
   ·go_simp
    try with_reducible rfl
   simp only [nz]
   refine pl_call (d := some 27) (by rfl) (by go_simp; first | done | exact ⟨rfl, rfl⟩ | with_reducible rfl) rfl ?_
   refine (c3 wb2 sb2).mono ?_
   rintro _ wa3 ⟨rfl, sa3, ga3⟩
   refine ⟨_, rfl, ?_⟩
   simp only [nz]
   refine pl_t 28 (?_) (by rfl) ?_ rfl ?_
   rotate_left
   ·go_simp
    try with_reducible rfl
   simp only [nz]
   have Va3 := Vb2.gb ga3
   have Vb3 := Va3.set 3 [.int .i64 v3] (vt_put Va3.row _).2.2.2
   have sb3 := Va3.st (o := 3) (vs := [.int .i64 v3]) sa3
   refine pl_store (w' := wa3.setCells W1.heap.size 3 [.int .i64 v3]) (by rfl) (ex_put1 (n := 36) rfl rfl rfl Va3.box (by decide) iszI rfl rfl) rfl ?_
   refine pl_nil ?_
   obtain ⟨wb3, hwb3⟩ : ∃ W, wa3.setCells W1.heap.size 3 [.int .i64 v3] = W := ⟨_, rfl⟩
   rw [hwb3] at Vb3 sb3 ⊢
   clear hwb3 Va3 sa3 ga3
   go_upto_region 8 with fail
   try simp only [Act.put]
   refine pl_begin ?_
   refine pl_t 29 (?_) (by rfl) ?_ rfl ?_
   rotate_left
   ·go_simp
    try with_reducible rfl
   simp only [nz]
   refine pl_call (d := some 30) (by rfl) (by go_simp; first | done | exact ⟨rfl, rfl⟩ | with_reducible rfl) rfl ?_
   refine (c4 wb3 sb3 (Nat.lt_of_lt_of_le Vb3.lx Vb3.grown.size)).mono ?_
   rintro _ wd ⟨rfl, sd, gd⟩
   refine ⟨_, rfl, ?_⟩
   simp only [nz]
   refine pl_t 31 (?_) (by rfl) ?_ rfl ?_
   rotate_left
   ·go_simp
    try with_reducible rfl
   simp only [nz]
   have Vd := Vb3.gb gd
   have Ve := Vd.set 4 dv (range_tail4 Vd.row (by rw [hdl]; exact there_part1 Vd.box (by decide)))
   have se := Vd.st (o := 4) (vs := dv) sd
   refine pl_store (w' := wd.setCells W1.heap.size 4 dv) (by rfl) (ex_put (cs := dv.toArray) rfl rfl rfl (by simpa [hdl] using there_part1 Vd.box (o := 4) (m := 32) (by decide)) (by simpa [hdl] using iszD) (all_one hd1)) rfl ?_
   refine pl_nil ?_
   obtain ⟨we, hwe⟩ : ∃ W, wd.setCells W1.heap.size 4 dv = W := ⟨_, rfl⟩
   rw [hwe] at Ve se ⊢
   clear hwe Vd sd gd
   have rpc := Ve.row
   rw [hpc.out] at rpc
   go_upto_region 9 with fail
   try simp only [Act.put]
   refine pl_begin ?_
   refine pl_t 32 (.agg pc.toArray) (by rfl) (ex_mid rfl rfl rpc Tryz.underlying28 rfl hip) rfl ?_
   simp only [nz]
   refine pl_store (w' := we.setCells w.heap.size 0 pc) (by rfl) (ex_put (cs := pc.toArray) rfl rfl rfl (by simpa [hpl] using Ve.ans) (by simpa using hip) (all_one hp1)) rfl ?_
   refine pl_nil ?_
   have hrs := run_loadVar_mid (P := Tryz.prog) (we.setCells w.heap.size 0 pc) w.heap.size 0 28 pc _ (World.rangeAt_setCells_same we w.heap.size 0 pc (by rw [hpl]; exact Ve.ans)) Tryz.underlying28 rfl hip
   have HF : Hid (RSt D (we.setCells w.heap.size 0 pc) X r4 e4 ∧ w.grownBy (we.setCells w.heap.size 0 pc) (some X)) := hide ⟨se.gb (gb_setsR we w.heap.size pc 0) (.inr Ve.lx), gb_onR Ve.grown (below_sets (B := w.heap.size) (b := w.heap.size) (Nat.le_refl _) pc 0 _ (Below.refl _ we)) (Nat.le_refl _)⟩
   clear Ve se rpc
   go_wp2_with fail
   refine bodyPost_ret (v := .agg pc.toArray) ?_ rfl ?_
   ·simp [results, Tryz.results115, Act.put, asAddr, hrs]
   ·exact ⟨rfl, HF.out⟩
def zeros16 : List Int := List.replicate 16 0
def noReq : List Value := reqL 0 0 ⟨#[]⟩ zeros16
theorem litReq : (#[.int .i64 0, .int .i64 0, .string ⟨#[]⟩, .int .u8 0, .int .u8 0, .int .u8 0, .int .u8 0, .int .u8 0, .int .u8 0, .int .u8 0, .int .u8 0, .int .u8 0, .int .u8 0, .int .u8 0, .int .u8 0, .int .u8 0, .int .u8 0, .int .u8 0, .int .u8 0] : Array Value) = noReq.toArray := by rfl
theorem iszN : (Tryz.prog.info? 91).map (·.size) = some noReq.toArray.size := by kernel_rfl
theorem strOf_aux : ∀ (zs : List Int) (r : ByteArray), (zs.foldl (fun r n => r.push (UInt8.ofNat n.toNat)) r).size = r.size + zs.length
 | [], r => by simp
 | z :: zs, r => by rw [List.foldl_cons, strOf_aux zs, ByteArray.size_push, List.length_cons]; omega
theorem strOf_size (zs : List Int) : (strOf zs).size = zs.length := by unfold strOf; rw [strOf_aux]; simp
set_option maxRecDepth 100000 in
theorem none_any (w : World) : Calls Tryz.prog 142 #[] w fun e w' => e = .returned (batV true none 0 0) ∧ Below w.heap.size w w' := by
 have F := fresh_store w #[.bool false, .slice none 0 0] 24 [.bool true, .slice none 0 0] rfl
 have hN : (w.alloc (.cells #[.bool false, .slice none 0 0] 24)).there w.heap.size 0 2 := there_new w #[.bool false, .slice none 0 0] 24
 have hrs := run_loadVar_mid (P := Tryz.prog) _ w.heap.size 0 24 [.bool true, .slice none 0 0] _ F.1 Tryz.underlying24 rfl iszB
 have hB := F.2.1
 go_enter Tryz.func142, Tryz.ntmps142
 go_upto_region 1 with fail
 try simp only [Act.put]
 refine wp_region_list ?_
 refine wpList_step fun K hK => ?_
 go_simp
 refine hK _ _ ?_
 clear hK K
 refine wpList_store_mid rfl 24 _ _ rfl _ _ #[.bool true, .slice none 0 0] rfl rfl hN iszB (by simp [Value.oneCell']) ?_
 go_wp2
 exact bodyPost_ret (v := .agg #[.bool true, .slice none 0 0]) (by simp [results, Tryz.results142, asAddr, hrs, Act.put]) rfl ⟨rfl, hB⟩
structure GS (w : World) (R : Nat) (q : List Value) (W : World) : Prop where
  row : W.rangeAt (w.heap.size + 1) 0 q
  box : W.there (w.heap.size + 1) 0 19
  ans : W.there w.heap.size 0 19
  grown : w.grownBy W (some R)
  size : w.heap.size + 2 ≤ W.heap.size
theorem GS.gb {w W W' : World} {R : Nat} {q : List Value} (h : GS w R q W) (hR : R < w.heap.size) (hg : W.grownBy W' (some R)) : GS w R q W' := by
 have hs := h.size
 exact ⟨range_gbR h.row hg (by omega) (by omega), there_gbR h.box hg (by omega) (by omega), there_gbR h.ans hg (by omega) (by omega), gb_trans h.grown hg, Nat.le_trans hs hg.size⟩
theorem GS.set {w W : World} {R : Nat} {q : List Value} (h : GS w R q W) (i : Nat) (v : Value) : GS w R (q.set i v) (W.setCell ⟨w.heap.size + 1, i, none⟩ v) := by
 have hr := range_set h.row i v
 rw [Nat.zero_add] at hr
 exact ⟨hr, there_set h.box _ _, there_set h.ans _ _, gb_onR h.grown ((Below.refl w.heap.size W).setCell (p := ⟨w.heap.size + 1, i, none⟩) (by show w.heap.size ≤ w.heap.size + 1; omega) v) (Nat.le_refl _), by have := h.size; simp [World.setCell]; exact this⟩
theorem GS.drew {w W : World} {R : Nat} {q : List Value} (h : GS w R q W) : GS w R q W.drew :=
 ⟨(World.rangeAt_drew _ _ _ _).2 h.row, h.box, h.ans, gb_onR h.grown (Below.refl w.heap.size W).drew (Nat.le_refl _), h.size⟩
theorem GS.tag {w W : World} {R : Nat} {c n : Int} {s : ByteArray} {z t : List Int} (h : GS w R (reqL c n s z) W) (ht : t.length = 16) : GS w R (reqL c n s t) (W.setCells (w.heap.size + 1) 3 (v8 t)) := by
 have e1 : reqL c n s z = [.int .i64 c, .int .i64 n, .string s] ++ v8 z := rfl
 have e2 : reqL c n s t = [.int .i64 c, .int .i64 n, .string s] ++ v8 t := rfl
 have hr := h.row
 rw [e1] at hr
 have h1 := World.rangeAt_setCells_apart (range_left hr) (w.heap.size + 1) 3 (v8 t) (.inr (.inl (by simp)))
 have h2 := World.rangeAt_setCells_same W (w.heap.size + 1) 3 (v8 t) (by rw [v8_length, ht]; exact fun j hj => h.box (3 + j) (by omega) |> fun q => by simpa using q)
 refine ⟨by rw [e2]; exact range_join h1 h2, World.there_setCells h.box _ _ _, World.there_setCells h.ans _ _ _, gb_onR h.grown (below_sets (by omega) _ 3 _ (Below.refl w.heap.size W)) (Nat.le_refl _), by rw [size_sets]; exact h.size⟩
theorem rawS_16 (rest : List Int) (e : Int) : ((rawS rest e 16).1.length = 16 ∨ (rawS rest e 16).1 = []) ∧ ((rawS rest e 16).2.2 = 0 → (rawS rest e 16).1.length = 16) := by
 unfold rawS
 split
 ·rename_i he
  rw [if_neg (by decide)]
  split
  ·exact ⟨.inr rfl, fun h => by cases h⟩
  ·have : (rest.take (16 : Int).toNat).length = 16 := by rw [List.length_take]; show min 16 rest.length = 16; omega
   exact ⟨.inl this, fun _ => this⟩
 ·rename_i he
  exact ⟨.inr rfl, fun h => absurd h he⟩
theorem noReq_copy {w W : World} {R : Nat} {c n : Int} {s : ByteArray} {t : List Int} {a : Option Addr} {cap : Nat} (h : GS w R (reqL c n s zeros16) W) (hrow : RowAt W a t) (ht : t.length = 16 ∨ t = []) :
  ∃ W' z, (Builtin.copy_ #[36, 36] 3 #[.slice (some ⟨w.heap.size + 1, 3, none⟩) 16 16, .slice a t.length cap]).run Tryz.prog W = .ok (goInt t.length) W' ∧ GS w R (reqL c n s z) W' ∧ z.length = 16 ∧ (t.length = 16 → z = t) ∧ Below w.heap.size W W' ∧ W.grownBy W' (some (w.heap.size + 1)) := by
 rcases ht with ht | rfl
 ·rcases hrow.2.2 with rfl | ⟨b, off, rfl, hb, hr⟩
  ·cases ht
  ·refine ⟨W.setCells (w.heap.size + 1) 3 (v8 t), t, ?_, h.tag ht, ht, fun _ => rfl, below_sets (by omega) _ 3 _ (Below.refl _ _), gb_setsR _ _ _ _⟩
   have := run_copy_cells (P := Tryz.prog) W 36 36 3 5 (w.heap.size + 1) 3 16 16 ⟨b, off, none⟩ t.length cap (v8 t) Tryz.underlying36 isz8 (by rw [v8_length, ht]; rfl) (fun j v hv => by rw [Addr.add_mid]; exact hr j v hv) (fun j hj => by rw [v8_length] at hj; have := h.box (3 + j) (by omega); rw [Nat.zero_add] at this; exact this.1) (fun j hj => by rw [v8_length] at hj; have := h.box (3 + j) (by omega); rw [Nat.zero_add] at this; exact this.2) (v8_one _)
   rw [v8_length] at this
   exact this
 ·exact ⟨W, zeros16, run_copy_none (P := Tryz.prog) W 36 36 3 5 _ a 16 16 0 cap Tryz.underlying36 isz8 rfl, h, rfl, fun h => absurd h (by decide), Below.refl _ _, gb_refl _ _⟩
structure GotR where
  c : Int
  n : Int
  s : List Int
  t : List Int
  rest : List Int
  err : Int
def rgetR (rest : List Int) (e : Int) : GotR :=
  let x1 := numS rest e 8
  let x2 := numS x1.2.1 x1.2.2 1099511627776
  let x3 := textS x2.2.1 x2.2.2 64
  let x4 := rawS x3.2.1 x3.2.2 16
  ⟨x1.1, x2.1, x3.1, x4.1, x4.2.1, x4.2.2⟩
def rgetL (g : GotR) : List Value := if g.err = 0 then reqL g.c g.n (strOf g.s) g.t else noReq
set_option maxRecDepth 100000 in
set_option maxHeartbeats 4000000 in
theorem rget_any (R : Nat) (rest : List Int) (e : Int) (w : World) (h : St w R rest e) (hl : rest.length ≤ 40000) :
  Calls Tryz.prog 109 #[.pointer (some ⟨R, 0, none⟩)] w fun en w' => en = .returned (.agg (rgetL (rgetR rest e)).toArray) ∧ St w' R (rgetR rest e).rest (rgetR rest e).err ∧ w.grownBy w' (some R) := by
 have hRw := h.1.1
 obtain ⟨G, hG⟩ : ∃ G, Hid (rgetR rest e = G) := ⟨_, rfl⟩
 rw [hG.out]
 have k0 := hG.out
 unfold rgetR at k0
 simp only at k0
 clear hG
 have l1 := numS_len rest e 8
 have c1 := fun w0 h0 => num_any R rest e 8 w0 h0
 obtain ⟨v1, hv1⟩ : ∃ x, Hid ((numS rest e 8).1 = x) := ⟨_, rfl⟩
 obtain ⟨r1, hr1⟩ : ∃ x, Hid ((numS rest e 8).2.1 = x) := ⟨_, rfl⟩
 obtain ⟨e1, he1⟩ : ∃ x, Hid ((numS rest e 8).2.2 = x) := ⟨_, rfl⟩
 simp only [hv1.out, hr1.out, he1.out] at k0 l1 c1
 have l2 := numS_len r1 e1 1099511627776
 have c2 := fun w0 h0 => num_any R r1 e1 1099511627776 w0 h0
 obtain ⟨v2, hv2⟩ : ∃ x, Hid ((numS r1 e1 1099511627776).1 = x) := ⟨_, rfl⟩
 obtain ⟨r2, hr2⟩ : ∃ x, Hid ((numS r1 e1 1099511627776).2.1 = x) := ⟨_, rfl⟩
 obtain ⟨e2, he2⟩ : ∃ x, Hid ((numS r1 e1 1099511627776).2.2 = x) := ⟨_, rfl⟩
 simp only [hv2.out, hr2.out, he2.out] at k0 l2 c2
 have l3 := textS_len r2 e2 64
 have c3 := fun w0 h0 hp => text_any R r2 e2 64 w0 h0 hp
 obtain ⟨v3, hv3⟩ : ∃ x, Hid ((textS r2 e2 64).1 = x) := ⟨_, rfl⟩
 obtain ⟨r3, hr3⟩ : ∃ x, Hid ((textS r2 e2 64).2.1 = x) := ⟨_, rfl⟩
 obtain ⟨e3, he3⟩ : ∃ x, Hid ((textS r2 e2 64).2.2 = x) := ⟨_, rfl⟩
 simp only [hv3.out, hr3.out, he3.out] at k0 l3 c3
 have f4 := rawS_16 r3 e3
 have c4 := fun w0 h0 => raw_big R r3 e3 16 w0 h0 (by omega)
 obtain ⟨v4, hv4⟩ : ∃ x, Hid ((rawS r3 e3 16).1 = x) := ⟨_, rfl⟩
 obtain ⟨r4, hr4⟩ : ∃ x, Hid ((rawS r3 e3 16).2.1 = x) := ⟨_, rfl⟩
 obtain ⟨e4, he4⟩ : ∃ x, Hid ((rawS r3 e3 16).2.2 = x) := ⟨_, rfl⟩
 simp only [hv4.out, hr4.out, he4.out] at k0 f4 c4
 obtain ⟨hv4l, hv4e⟩ := f4
 have G1 : Hid (rgetL G = if e4 = 0 then reqL v1 v2 (strOf v3) v4 else noReq) := hide (by rw [← k0]; rfl)
 have G2 : Hid (G.rest = r4) := hide (by rw [← k0])
 have G3 : Hid (G.err = e4) := hide (by rw [← k0])
 clear k0 hv1 hr1 he1 hv2 hr2 he2 hv3 hr3 he3 hv4 hr4 he4 l1 l2 l3 hl
 generalize strOf v3 = sv at *
 have hb1 : Below w.heap.size w (w.alloc (.cells noReq.toArray 91)) := (Below.refl _ _).alloc (Nat.le_refl _) _
 have ht1 := there_new w noReq.toArray 91
 have hz1 : (w.alloc (.cells noReq.toArray 91)).heap.size = w.heap.size + 1 := World.size_alloc _ _
 have hb2 : Below (w.alloc (.cells noReq.toArray 91)).heap.size (w.alloc (.cells noReq.toArray 91)) ((w.alloc (.cells noReq.toArray 91)).alloc (.cells noReq.toArray 91)) := (Below.refl _ _).alloc (Nat.le_refl _) _
 have ht2 := there_new (w.alloc (.cells noReq.toArray 91)) noReq.toArray 91
 have hr2 := range_new (w.alloc (.cells noReq.toArray 91)) noReq.toArray 91
 have hz2 : ((w.alloc (.cells noReq.toArray 91)).alloc (.cells noReq.toArray 91)).heap.size = w.heap.size + 2 := by rw [World.size_alloc, hz1]
 rw [hz1] at ht2 hr2
 have hb12 : Below w.heap.size w ((w.alloc (.cells noReq.toArray 91)).alloc (.cells noReq.toArray 91)) := hb1.trans (hb2.mono hb1.size)
 have gs0 : GS w R noReq ((w.alloc (.cells noReq.toArray 91)).alloc (.cells noReq.toArray 91)) := ⟨by simpa using hr2, ht2, there_below ht1 hb2 (by omega), gb_below hb12 _, by omega⟩
 have s0 := h.below hb12
 clear hb1 ht1 hb2 ht2 hr2 hb12 hz1 hz2 h
 go_enter Tryz.func109, Tryz.ntmps109
 go_upto_region 2 with fail
 obtain ⟨w1, hw1⟩ : ∃ w1, (w.alloc (.cells noReq.toArray 91)).alloc (.cells noReq.toArray 91) = w1 := ⟨_, rfl⟩
 rw [hw1] at gs0 s0
 rw [litReq, hw1]
 clear hw1
 try simp only [Act.put]
 have hsz := gs0.size
 go_wp2_with fail
 refine (c1 w1 s0).mono ?_
 rintro en w2 ⟨rfl, s2, g2⟩
 have gs2 := gs0.gb hRw g2
 clear c1 gs0 s0 g2 hsz
 have hq : w2.cell? ⟨w.heap.size + 1, 0, none⟩ = some (.int .i64 0) := gs2.row 0 _ rfl
 have hf : w2.frozen? ⟨w.heap.size + 1, 0, none⟩ = false := (gs2.box 0 (by decide)).2
 have gs3 := gs2.set 0 (.int .i64 v1)
 have s3 := s2.gb (gb_set w2 (w.heap.size + 1) 0 (.int .i64 v1)) (by omega)
 go_wp2_with fail
 obtain ⟨w3, hw3⟩ : ∃ w3, w2.setCell ⟨w.heap.size + 1, 0, none⟩ (.int .i64 v1) = w3 := ⟨_, rfl⟩
 rw [hw3] at gs3 s3 ⊢
 clear hw3 gs2 s2 hq hf
 refine (c2 w3 s3).mono ?_
 rintro en w4 ⟨rfl, s4, g4⟩
 have gs4 := gs3.gb hRw g4
 clear c2 gs3 s3 g4
 have hq : w4.cell? ⟨w.heap.size + 1, 1, none⟩ = some (.int .i64 0) := gs4.row 1 _ rfl
 have hf : w4.frozen? ⟨w.heap.size + 1, 1, none⟩ = false := (gs4.box 1 (by decide)).2
 have gs5 := gs4.set 1 (.int .i64 v2)
 have s5 := s4.gb (gb_set w4 (w.heap.size + 1) 1 (.int .i64 v2)) (by omega)
 go_wp2_with fail
 obtain ⟨w5, hw5⟩ : ∃ w5, w4.setCell ⟨w.heap.size + 1, 1, none⟩ (.int .i64 v2) = w5 := ⟨_, rfl⟩
 rw [hw5] at gs5 s5 ⊢
 clear hw5 gs4 s4 hq hf
 refine (c3 w5 s5 s5.pos).mono ?_
 rintro en w6 ⟨rfl, s6, g6⟩
 have gs6 := gs5.gb hRw g6
 clear c3 gs5 s5 g6
 have hq : w6.cell? ⟨w.heap.size + 1, 2, none⟩ = some (.string ⟨#[]⟩) := gs6.row 2 _ rfl
 have hf : w6.frozen? ⟨w.heap.size + 1, 2, none⟩ = false := (gs6.box 2 (by decide)).2
 have gs7 : GS w R (reqL v1 v2 sv zeros16) (w6.setCell ⟨w.heap.size + 1, 2, none⟩ (.string sv)) := gs6.set 2 (.string sv)
 have s7 := s6.gb (gb_set w6 (w.heap.size + 1) 2 (.string sv)) (by omega)
 go_wp2_with fail
 obtain ⟨w7, hw7⟩ : ∃ w7, w6.setCell ⟨w.heap.size + 1, 2, none⟩ (.string sv) = w7 := ⟨_, rfl⟩
 rw [hw7] at gs7 s7 ⊢
 clear hw7 gs6 s6 hq hf
 obtain ⟨w8, hw8⟩ : ∃ w8, w7.drew = w8 := ⟨_, rfl⟩
 refine hs_begin (S := (fun _ => True)) 5 rfl (by kernel_rfl) ?_
 have gs8 : GS w R (reqL v1 v2 sv zeros16) w8 := by rw [← hw8]; exact gs7.drew
 have s8 : St w8 R r3 e3 := by rw [← hw8]; exact s7.below (Below.refl _ _).drew
 rw [hw8]
 clear hw8 gs7 s7
 have hS : (fun _ => True) w8 := trivial
 refine hs_t 0 13 (?_) rfl (by kernel_rfl) (by kernel_rfl) (by kernel_rfl) (by rfl) ?_ hS rfl ?_
 rotate_left
 ·intro w' hw
  go_simp
  try with_reducible rfl
 simp only [nz]
 refine hs_t 1 14 (.slice (some ⟨w.heap.size + 1, 3, none⟩) 16 16) rfl (by kernel_rfl) (by kernel_rfl) (by kernel_rfl) (by rfl) (fun w' hw => by have hsl := slice_all (P := Tryz.prog) Tryz.underlying89 isz8 (w.heap.size + 1) 3 (by decide) w'; go_simp) hS rfl ?_
 simp only [nz]
 refine hs_t 2 15 (?_) rfl (by kernel_rfl) (by kernel_rfl) (by kernel_rfl) (by rfl) ?_ hS rfl ?_
 rotate_left
 ·intro w' hw
  go_simp
  try with_reducible rfl
 simp only [nz]
 refine hs_call (i := 3) (d := some 16) rfl (by kernel_rfl) (by rfl) (by go_simp; first | done | exact ⟨rfl, rfl⟩ | with_reducible rfl) rfl ?_
 refine (c4 w8 s8).mono ?_
 rintro e' w9 ⟨v9, rfl, m9, s9, g9⟩
 have hS : (fun _ => True) w9 := trivial
 refine ⟨_, rfl, hS, ?_⟩
 simp only [nz]
 have gs9 := gs8.gb hRw g9
 obtain ⟨a9, cap9, rfl, _, _, row9⟩ := m9.rowAt (by unfold maxLen; rcases hv4l with q | q <;> (first | omega | (rw [q]; decide)))
 clear c4 gs8 s8 g9 m9
 obtain ⟨w10, z, hcp, gs10, hz16, hzt, hb10, hg10⟩ := noReq_copy (cap := cap9) gs9 row9 hv4l
 have s10 := s9.gb hg10 (by omega)
 have hS : (fun _ => True) w10 := trivial
 refine hs_run (i := 4) (d := some 17) (v := goInt v4.length) (w' := w10) rfl (by kernel_rfl) (by rfl) (exec_copy rfl rfl rfl hcp) rfl hS ?_
 simp only [nz]
 refine hs_done (by kernel_rfl) ?_
 clear hcp gs9 s9 hb10 hg10 row9
 have ce := err_made R e4 w10 s10.1
 go_wp2_with fail
 refine ce.mono ?_
 rintro en w11 ⟨rfl, hx⟩
 obtain rfl := hx
 clear ce
 have hi := iszN
 have ho := all_oneCell_toArray (reqL_one 0 0 ⟨#[]⟩ zeros16)
 have hszz := gs10.size
 by_cases he : e4 = 0
 ·subst he
  have hzv := hzt (hv4e rfl)
  subst hzv
  have E1 : Hid (rgetL G = reqL v1 v2 sv z) := hide (by rw [G1.out, if_pos rfl])
  have hiq : (Tryz.prog.info? 91).map (·.size) = some (reqL v1 v2 sv z).length := by rw [reqL_length _ _ _ _ hz16]; exact iszR
  have hoq := all_oneCell_toArray (reqL_one v1 v2 sv z)
  have hiq' : (Tryz.prog.info? 91).map (·.size) = some (reqL v1 v2 sv z).toArray.size := by rw [List.size_toArray]; exact hiq
  obtain ⟨q, hq⟩ : ∃ q, Hid (reqL v1 v2 sv z = q) := ⟨_, rfl⟩
  have hql : q.length = 19 := by rw [← hq.out]; exact reqL_length _ _ _ _ hz16
  rw [hq.out] at E1 hiq hoq hiq'
  have hrow : w11.rangeAt (w.heap.size + 1) 0 q := by rw [← hq.out]; exact gs10.row
  have hans : w11.there w.heap.size 0 q.toArray.size := by have := gs10.ans; rw [← hql] at this; exact this
  clear hv4l hv4e hzt
  have hrs := run_loadVar_mid (P := Tryz.prog) (w11.setCells w.heap.size 0 q) w.heap.size 0 91 q _ (World.rangeAt_setCells_same w11 w.heap.size 0 q (by have := hans; simpa using this)) Tryz.underlying91 rfl hiq
  have gf := gb_onR gs10.grown (below_sets (B := w.heap.size) (b := w.heap.size) (Nat.le_refl _) q 0 _ (Below.refl _ w11)) (Nat.le_refl _)
  have sf := s10.gb (gb_setsR w11 w.heap.size q 0) hRw
  clear gs10 s10
  go_wp2_with (first | refine wpList_load_mid (op := ⟨some 22, .load 91 (.tmp 3), _, _, _, none⟩) rfl 91 _ rfl _ _ rfl q _ hrow Tryz.underlying91 rfl hiq ?_ | refine wpList_store_mid (op := ⟨none, .store 91 (.tmp 2) (.tmp 22), _, _, _, none⟩) rfl 91 _ _ rfl _ _ q.toArray rfl rfl hans hiq' hoq ?_)
  refine bodyPost_ret (v := .agg q.toArray) ?_ rfl ?_
  ·simp [results, Tryz.results109, Act.put, asAddr, hrs]
  ·exact ⟨by rw [E1.out], by rw [G2.out, G3.out]; exact sf, gf⟩
 ·have E1 : Hid (rgetL G = noReq) := hide (by rw [G1.out, if_neg he])
  have hnl : noReq.length = 19 := rfl
  have hans : w11.there w.heap.size 0 noReq.toArray.size := gs10.ans
  have hi' : (Tryz.prog.info? 91).map (·.size) = some noReq.length := by simpa using hi
  have hlit := litReq
  obtain ⟨q, hq⟩ : ∃ q, Hid (noReq = q) := ⟨_, rfl⟩
  have ho : (noReq.toArray.all fun x => x.oneCell') = true := ho
  rw [hq.out] at E1 hi ho hnl hans hi' hlit
  have hrs := run_loadVar_mid (P := Tryz.prog) (w11.setCells w.heap.size 0 q) w.heap.size 0 91 q _ (World.rangeAt_setCells_same w11 w.heap.size 0 q (by have := hans; simpa using this)) Tryz.underlying91 rfl hi'
  have gf := gb_onR gs10.grown (below_sets (B := w.heap.size) (b := w.heap.size) (Nat.le_refl _) q 0 _ (Below.refl _ w11)) (Nat.le_refl _)
  have sf := s10.gb (gb_setsR w11 w.heap.size q 0) hRw
  clear gs10 s10 hv4l hv4e hzt
  go_wp2_with (refine wpList_store_mid (op := ⟨none, .store 91 (.tmp 2) (.tmp 21), _, _, _, none⟩) rfl 91 _ _ rfl _ _ q.toArray rfl (by rw [← hlit]; rfl) hans hi ho ?_)
  refine bodyPost_ret (v := .agg q.toArray) ?_ rfl ?_
  ·simp [results, Tryz.results109, Act.put, asAddr, hrs]
  ·exact ⟨by rw [E1.out], by rw [G2.out, G3.out]; exact sf, gf⟩
def noRq : BRq := ⟨0, 0, ⟨#[]⟩, zeros16⟩
def rqOf (g : GotR) : BRq := if g.err = 0 then ⟨g.c, g.n, strOf g.s, g.t⟩ else noRq
theorem rqOf_cells (g : GotR) : rgetL g = (rqOf g).cells := by
 unfold rgetL rqOf
 split
 ·rfl
 ·rfl
def getRs : Nat → List Int → Int → List BRq × List Int × Int
  | 0, rest, e => ([], rest, e)
  | k + 1, rest, e => ((getRs k rest e).1 ++ [rqOf (rgetR (getRs k rest e).2.1 (getRs k rest e).2.2)], (rgetR (getRs k rest e).2.1 (getRs k rest e).2.2).rest, (rgetR (getRs k rest e).2.1 (getRs k rest e).2.2).err)
structure GotB where
  q : Bool
  rs : List BRq
  rest : List Int
  err : Int
def getB (rest : List Int) (e : Int) : GotB :=
  if (numS rest e 5).1 = 0 then ⟨decide ((numS rest e 5).2.2 = 0), [], (numS rest e 5).2.1, (numS rest e 5).2.2⟩
  else ⟨false, if (getRs ((numS rest e 5).1 - 1).toNat (numS rest e 5).2.1 (numS rest e 5).2.2).2.2 = 0 then (getRs ((numS rest e 5).1 - 1).toNat (numS rest e 5).2.1 (numS rest e 5).2.2).1 else [],
    (getRs ((numS rest e 5).1 - 1).toNat (numS rest e 5).2.1 (numS rest e 5).2.2).2.1, (getRs ((numS rest e 5).1 - 1).toNat (numS rest e 5).2.1 (numS rest e 5).2.2).2.2⟩
theorem getRs_length (k : Nat) (rest : List Int) (e : Int) : (getRs k rest e).1.length = k := by
 induction k with
 | zero => rfl
 | succ k ih => simp [getRs, ih]
def Bs (zs : List Int) : Prop := ∀ z ∈ zs, 0 ≤ z ∧ z < 256
theorem numS_sub (rest : List Int) (e most : Int) : ∃ k, (numS rest e most).2.1 = rest.drop k := by
 unfold numS
 split
 ·split
  ·split
   ·exact ⟨0, rfl⟩
   ·exact ⟨_, rfl⟩
  ·exact ⟨0, rfl⟩
 ·exact ⟨0, rfl⟩
theorem textS_sub (rest : List Int) (e most : Int) : ∃ k, (textS rest e most).2.1 = rest.drop k := by
 obtain ⟨k, hk⟩ := numS_sub rest e 9223372036854775807
 unfold textS
 split
 ·split
  ·exact ⟨0, rfl⟩
  ·split
   ·exact ⟨0, rfl⟩
   ·rw [hk]; exact ⟨k + (numS rest e 9223372036854775807).1.toNat, by rw [List.drop_drop]⟩
 ·exact ⟨0, rfl⟩
theorem rawS_sub (rest : List Int) (e n : Int) : ∃ k, (rawS rest e n).2.1 = rest.drop k := by
 unfold rawS
 split
 ·split
  ·exact ⟨0, rfl⟩
  ·split
   ·exact ⟨0, rfl⟩
   ·exact ⟨_, rfl⟩
 ·exact ⟨0, rfl⟩
theorem rgetR_sub (rest : List Int) (e : Int) : ∃ k, (rgetR rest e).rest = rest.drop k := by
 unfold rgetR
 obtain ⟨k1, h1⟩ := numS_sub rest e 8
 obtain ⟨k2, h2⟩ := numS_sub (numS rest e 8).2.1 (numS rest e 8).2.2 1099511627776
 obtain ⟨k3, h3⟩ := textS_sub (numS (numS rest e 8).2.1 (numS rest e 8).2.2 1099511627776).2.1 (numS (numS rest e 8).2.1 (numS rest e 8).2.2 1099511627776).2.2 64
 obtain ⟨k4, h4⟩ := rawS_sub (textS (numS (numS rest e 8).2.1 (numS rest e 8).2.2 1099511627776).2.1 (numS (numS rest e 8).2.1 (numS rest e 8).2.2 1099511627776).2.2 64).2.1 (textS (numS (numS rest e 8).2.1 (numS rest e 8).2.2 1099511627776).2.1 (numS (numS rest e 8).2.1 (numS rest e 8).2.2 1099511627776).2.2 64).2.2 16
 refine ⟨k1 + (k2 + (k3 + k4)), ?_⟩
 show (rawS _ _ 16).2.1 = _
 rw [h4, h3, h2, h1, List.drop_drop, List.drop_drop, List.drop_drop]
theorem Bs.sub {zs : List Int} (h : Bs zs) (k : Nat) : Bs (zs.drop k) := fun z hz => h z (List.mem_of_mem_drop hz)
theorem Bs.subT {zs : List Int} (h : Bs zs) (k : Nat) : Bs (zs.take k) := fun z hz => h z (List.mem_of_mem_take hz)
theorem numS_bd {rest : List Int} {e most : Int} (hb : e = 0 → Bs rest) (h0 : 0 ≤ most) : 0 ≤ (numS rest e most).1 ∧ (numS rest e most).1 ≤ most := by
 unfold numS
 split
 ·rename_i he
  split
  ·split
   ·exact ⟨by simp, h0⟩
   ·rename_i h1
    exact ⟨numR_nonneg rest (hb he), by show (numR rest).1 ≤ most; omega⟩
  ·exact ⟨by simp, h0⟩
 ·exact ⟨by simp, h0⟩
theorem numS_err {rest : List Int} {e most : Int} (h : (numS rest e most).2.2 = 0) : e = 0 := by
 unfold numS at h
 split at h
 ·assumption
 ·rename_i h0; exact absurd h h0
theorem numS_zero {rest : List Int} {e most : Int} (h : (numS rest e most).2.2 ≠ 0) : (numS rest e most).1 = 0 := by
 unfold numS at h ⊢
 split
 ·split
  ·split
   ·rfl
   ·rename_i h1 h2 h3; rw [if_pos h1, if_pos h2, if_neg h3] at h; exact absurd rfl h
  ·rfl
 ·rfl
theorem textS_err {rest : List Int} {e most : Int} (h : (textS rest e most).2.2 = 0) : e = 0 := by
 unfold textS at h
 split at h
 ·rename_i h0; exact numS_err h0
 ·rename_i h0; exact absurd h h0
theorem rawS_err {rest : List Int} {e n : Int} (h : (rawS rest e n).2.2 = 0) : e = 0 := by
 unfold rawS at h
 split at h
 ·assumption
 ·rename_i h0; exact absurd h h0
theorem textS_s {rest : List Int} {e most : Int} (h0 : 0 ≤ most) : ((textS rest e most).1.length : Int) ≤ most := by
 unfold textS
 split
 ·split
  ·simpa using h0
  ·rename_i h1
   split
   ·simpa using h0
   ·show (((numS rest e 9223372036854775807).2.1.take (numS rest e 9223372036854775807).1.toNat).length : Int) ≤ most
    rw [List.length_take]
    omega
 ·simpa using h0
theorem rawS_t {rest : List Int} {e n : Int} (hb : e = 0 → Bs rest) : Bs (rawS rest e n).1 := by
 unfold rawS
 split
 ·rename_i he
  split
  ·intro z hz; simp at hz
  ·split
   ·intro z hz; simp at hz
   ·exact (hb he).subT _
 ·intro z hz; simp at hz
theorem noRq_ok : noRq.ok := ⟨rfl, by intro z hz; simp [noRq, zeros16] at hz; omega, by simp [noRq, maxLen, ByteArray.size], by decide, by decide, by decide, by decide⟩
theorem rqOf_ok {rest : List Int} {e : Int} (hb : e = 0 → Bs rest) : (rqOf (rgetR rest e)).ok := by
 unfold rqOf
 split
 ·rename_i he
  have e4 := rawS_err (show (rawS (textS (numS (numS rest e 8).2.1 (numS rest e 8).2.2 1099511627776).2.1 (numS (numS rest e 8).2.1 (numS rest e 8).2.2 1099511627776).2.2 64).2.1 (textS (numS (numS rest e 8).2.1 (numS rest e 8).2.2 1099511627776).2.1 (numS (numS rest e 8).2.1 (numS rest e 8).2.2 1099511627776).2.2 64).2.2 16).2.2 = 0 from he)
  have e3 := textS_err e4
  have e2 := numS_err e3
  have e1 := numS_err e2
  have b0 := hb e1
  obtain ⟨k1, s1⟩ := numS_sub rest e 8
  have b1 : Bs (numS rest e 8).2.1 := by rw [s1]; exact b0.sub _
  obtain ⟨k2, s2⟩ := numS_sub (numS rest e 8).2.1 (numS rest e 8).2.2 1099511627776
  have b2 : Bs (numS (numS rest e 8).2.1 (numS rest e 8).2.2 1099511627776).2.1 := by rw [s2]; exact b1.sub _
  obtain ⟨k3, s3⟩ := textS_sub (numS (numS rest e 8).2.1 (numS rest e 8).2.2 1099511627776).2.1 (numS (numS rest e 8).2.1 (numS rest e 8).2.2 1099511627776).2.2 64
  have c1 := numS_bd (most := 8) hb (by omega)
  have c2 := numS_bd (rest := (numS rest e 8).2.1) (e := (numS rest e 8).2.2) (most := 1099511627776) (fun _ => b1) (by omega)
  have c3 := textS_s (rest := (numS (numS rest e 8).2.1 (numS rest e 8).2.2 1099511627776).2.1) (e := (numS (numS rest e 8).2.1 (numS rest e 8).2.2 1099511627776).2.2) (most := 64) (by omega)
  refine ⟨(rawS_16 _ _).2 he, rawS_t (fun _ => by rw [s3]; exact b2.sub _), ?_, ?_, ?_, ?_, ?_⟩
  ·show (strOf _).size ≤ maxLen
   rw [strOf_size]
   unfold maxLen
   have c3' : ((rgetR rest e).s.length : Int) ≤ 64 := c3
   omega
  ·show _ ≤ (rgetR rest e).c
   have : 0 ≤ (rgetR rest e).c := c1.1
   omega
  ·show (rgetR rest e).c ≤ _
   have : (rgetR rest e).c ≤ 8 := c1.2
   omega
  ·show _ ≤ (rgetR rest e).n
   have : 0 ≤ (rgetR rest e).n := c2.1
   omega
  ·show (rgetR rest e).n ≤ _
   have : (rgetR rest e).n ≤ 1099511627776 := c2.2
   omega
 ·exact noRq_ok
theorem rgetR_err {rest : List Int} {e : Int} (h : (rgetR rest e).err = 0) : e = 0 := numS_err (numS_err (textS_err (rawS_err h)))
theorem getRs_sub (k : Nat) (rest : List Int) (e : Int) : (∃ j, (getRs k rest e).2.1 = rest.drop j) ∧ ((getRs k rest e).2.2 = 0 → e = 0) := by
 induction k with
 | zero => exact ⟨⟨0, rfl⟩, id⟩
 | succ k ih =>
  obtain ⟨⟨j, hj⟩, h2⟩ := ih
  obtain ⟨i, hi⟩ := rgetR_sub (getRs k rest e).2.1 (getRs k rest e).2.2
  refine ⟨⟨j + i, ?_⟩, fun h => h2 (rgetR_err h)⟩
  show (rgetR (getRs k rest e).2.1 (getRs k rest e).2.2).rest = _
  rw [hi, hj, List.drop_drop]
theorem getRs_ok {rest : List Int} {e : Int} (hb : e = 0 → Bs rest) (k : Nat) : ∀ r ∈ (getRs k rest e).1, r.ok := by
 induction k with
 | zero => intro r hr; simp [getRs] at hr
 | succ k ih =>
  intro r hr
  rcases List.mem_append.1 (show r ∈ (getRs k rest e).1 ++ [rqOf (rgetR (getRs k rest e).2.1 (getRs k rest e).2.2)] from hr) with hr | hr
  ·exact ih r hr
  ·obtain rfl := List.mem_singleton.1 hr
   obtain ⟨⟨j, hj⟩, h2⟩ := getRs_sub k rest e
   exact rqOf_ok (fun h0 => by rw [hj]; exact (hb (h2 h0)).sub _)
theorem getRs_le (k : Nat) (rest : List Int) (e : Int) : (getRs k rest e).2.1.length ≤ rest.length := by
 obtain ⟨⟨j, hj⟩, _⟩ := getRs_sub k rest e
 rw [hj, List.length_drop]; omega
theorem infoR : (Tryz.prog.info? 91).map (fun i => (i.zero, i.size, i.bytes)) = some (some (.agg noReq.toArray), 19, 48) := by kernel_rfl
theorem own_reqs {w : World} {B : Nat} {v : Value} {rs : List BRq} (h : w.ownsRow B 91 19 v rs.length (flatR rs)) (hok : ∀ r ∈ rs, r.ok) (hm : rs.length ≤ maxLen) :
  ∃ a cap, v = .slice a rs.length cap ∧ rs.length ≤ cap ∧ cap ≤ maxLen ∧ ReqsAt w a rs ∧ ∀ x, a = some x → B ≤ x.block := by
 rcases h.2 with ⟨rfl, h0⟩ | ⟨g, cap, cur, rfl, hb, hg, hn, hcm, hcs, ht⟩
 ·have : rs = [] := List.eq_nil_of_length_eq_zero h0
  subst this
  exact ⟨none, 0, rfl, by simp, by unfold maxLen; omega, ReqsAt.none, fun x hx => by cases hx⟩
 ·refine ⟨_, cap, rfl, hn, hcm, ⟨hm, hok, Or.inr ⟨g, 0, rfl, (Array.getElem?_eq_some_iff.1 hg).1, fun j u hu => ?_⟩⟩, fun x hx => by cases hx; exact hb⟩
  have := h.cells (g := g) rfl j u hu
  rwa [Addr.add_mid] at this
theorem take_set_one {α : Type} (l : List α) (k : Nat) (a : α) (hk : k < l.length) : (l.set k a).take (k + 1) = l.take k ++ [a] := by
 apply List.ext_getElem?
 intro i
 rcases Nat.lt_trichotomy i k with h | h | h
 ·rw [List.getElem?_take_of_lt (by omega), List.getElem?_set_ne (by omega), List.getElem?_append_left (by rw [List.length_take]; omega), List.getElem?_take_of_lt h]
 ·subst h
  rw [List.getElem?_take_of_lt (by omega), List.getElem?_set_self hk, List.getElem?_append_right (by rw [List.length_take]; omega), List.length_take, Nat.min_eq_left (by omega), Nat.sub_self]
  rfl
 ·rw [List.getElem?_eq_none (by rw [List.length_take]; omega), List.getElem?_eq_none (by rw [List.length_append, List.length_take]; simp; omega)]
theorem fold_sets : ∀ (u : List Value) (k : Nat) (arr : Array Value), k + u.length = arr.size → List.foldl (fun (cs : Array Value) (x : Value × Nat) => cs.setIfInBounds x.snd x.fst) arr (u.zipIdx k) = (arr.toList.take k ++ u).toArray
 | [], k, arr, h => by
  simp only [List.length_nil, Nat.add_zero] at h
  rw [List.take_of_length_le (by simp [h])]
  simp
 | a :: u, k, arr, h => by
  simp only [List.length_cons] at h
  rw [List.zipIdx_cons, List.foldl_cons, fold_sets u (k + 1) _ (by simp; omega)]
  congr 1
  show List.take (k + 1) (arr.setIfInBounds k a).toList ++ u = _
  rw [Array.toList_setIfInBounds, take_set_one _ _ _ (by simp; omega), List.append_assoc]
  rfl
theorem fold_u (arr : Array Value) (u : List Value) (h : u.length = arr.size) : List.foldl (fun (cs : Array Value) (x : Value × Nat) => cs.setIfInBounds x.snd x.fst) arr u.zipIdx = u.toArray := by
 have := fold_sets u 0 arr (by omega)
 simpa using this
theorem ref_cell {w W : World} {X R o : Nat} (hg : w.grownBy W (some R)) (hX : X < w.heap.size) (hne : X ≠ R) : W.cell? ⟨X, o, none⟩ = w.cell? ⟨X, o, none⟩ :=
 (@cell_block w W X o (hg.block X hX (by intro q; injection q with q; exact hne q))).1
set_option maxRecDepth 100000 in
set_option maxHeartbeats 2000000 in
theorem get1_any (X R : Nat) (rest : List Int) (e : Int) (w : World) (hc : w.cell? ⟨X, 0, none⟩ = some (.pointer (some ⟨R, 0, none⟩))) (hX : X < w.heap.size) (h : St w R rest e) (hl : rest.length ≤ 40000) (hok : (rqOf (rgetR rest e)).ok) :
  Calls Tryz.prog 108 #[.pointer (some ⟨X, 0, none⟩)] w fun en w' => en = .returned (.agg (rqOf (rgetR rest e)).cells.toArray) ∧ St w' R (rgetR rest e).rest (rgetR rest e).err ∧ w.grownBy w' (some R) := by
 have hRw : R < w.heap.size := h.1.1
 have cg := fun w0 h0 => rget_any R rest e w0 h0 hl
 obtain ⟨G, hG⟩ : ∃ G, Hid (rgetR rest e = G) := ⟨_, hide rfl⟩
 simp only [rqOf_cells, hG.out] at cg
 rw [hG.out] at hok ⊢
 clear hG
 obtain ⟨r, hr⟩ : ∃ r, Hid (rqOf G = r) := ⟨_, hide rfl⟩
 simp only [hr.out] at cg
 rw [hr.out] at hok ⊢
 clear hr
 have hiq := hok.isz
 have hiA := hok.iszA
 have hql := hok.length
 have h1c := all_oneCell_toArray r.one
 have hN := there_new w #[.int .i64 0, .int .i64 0, .string ⟨#[]⟩, .int .u8 0, .int .u8 0, .int .u8 0, .int .u8 0, .int .u8 0, .int .u8 0, .int .u8 0, .int .u8 0, .int .u8 0, .int .u8 0, .int .u8 0, .int .u8 0, .int .u8 0, .int .u8 0, .int .u8 0, .int .u8 0] 91
 have hB1 : Below w.heap.size w (w.alloc (.cells #[.int .i64 0, .int .i64 0, .string ⟨#[]⟩, .int .u8 0, .int .u8 0, .int .u8 0, .int .u8 0, .int .u8 0, .int .u8 0, .int .u8 0, .int .u8 0, .int .u8 0, .int .u8 0, .int .u8 0, .int .u8 0, .int .u8 0, .int .u8 0, .int .u8 0, .int .u8 0] 91)) := (Below.refl _ _).alloc (Nat.le_refl _) _
 have hg1 : w.grownBy (w.alloc (.cells #[.int .i64 0, .int .i64 0, .string ⟨#[]⟩, .int .u8 0, .int .u8 0, .int .u8 0, .int .u8 0, .int .u8 0, .int .u8 0, .int .u8 0, .int .u8 0, .int .u8 0, .int .u8 0, .int .u8 0, .int .u8 0, .int .u8 0, .int .u8 0, .int .u8 0, .int .u8 0] 91)) (some R) := World.grownBy_alloc w _ _
 have hs1 : w.heap.size < (w.alloc (.cells #[.int .i64 0, .int .i64 0, .string ⟨#[]⟩, .int .u8 0, .int .u8 0, .int .u8 0, .int .u8 0, .int .u8 0, .int .u8 0, .int .u8 0, .int .u8 0, .int .u8 0, .int .u8 0, .int .u8 0, .int .u8 0, .int .u8 0, .int .u8 0, .int .u8 0, .int .u8 0] 91)).heap.size := by simp
 have hc1 := (hB1.cell (p := ⟨X, 0, none⟩) hX).trans hc
 have h1 := h.below hB1
 obtain ⟨u, hu⟩ : ∃ u, Hid (r.cells = u) := ⟨_, hide rfl⟩
 rw [hu.out] at hiq hiA hql h1c ⊢
 simp only [hu.out] at cg
 clear hu hok
 go_enter Tryz.func108, Tryz.ntmps108
 go_upto_region 1 with fail
 go_name_world w1 hw1
 rw [hw1] at hN hB1 hg1 hs1 hc1 h1
 clear hw1
 have hN : w1.there w.heap.size 0 19 := hN
 obtain ⟨D, hD⟩ : ∃ D, Hid (w.heap.size = D) := ⟨_, hide rfl⟩
 have hDR : D ≠ R := by rw [← hD.out]; omega
 have hRD : R < D := by rw [← hD.out]; exact hRw
 have hDw : w.heap.size ≤ D := by rw [← hD.out]; omega
 rw [hD.out] at hN hs1 ⊢
 go_wp2_with fail
 refine (cg w1 h1).mono ?_
 rintro en w2 ⟨rfl, h2, hg2⟩
 have hN2 := there_gbR hN hg2 hs1 hDR
 have hT2 : w2.there D 0 u.toArray.size := by
  have e : u.toArray.size = 19 := by rw [List.size_toArray, hql]
  rw [e]; exact hN2
 have hRr := World.rangeAt_setCells_same w2 D 0 u (by rw [hql]; exact hN2)
 have hg3 : w2.grownBy (w2.setCells D 0 u) (some D) := gb_setsR w2 D u 0
 have h3 := h2.gb hg3 hRD
 have hgw := gb_onR (gb_trans hg1 hg2) (below_sets hDw u 0 w2 (Below.refl w.heap.size w2)) (Nat.le_refl _)
 have hrs := run_loadVar_mid (P := Tryz.prog) (w2.setCells D 0 u) D 0 91 u _ hRr Tryz.underlying91 rfl hiq
 clear cg h1 h2 hN hN2 hg1 hg2 hg3 hRr hc1 hB1
 go_wp2_with (refine wpList_store_mid (op := ⟨none, .store 91 (.tmp 1) (.tmp 3), _, _, _, none⟩) rfl 91 _ _ rfl _ _ u.toArray rfl rfl hT2 hiA h1c ?_)
 exact bodyPost_ret (v := .agg u.toArray) (by simp [results, Tryz.results108, asAddr, hrs, Act.put]) rfl ⟨rfl, h3, hgw⟩
theorem ReqsAt.gb1 {w w' : World} {a : Option Addr} {rs : List BRq} {R : Nat} (h : ReqsAt w a rs) (hg : w.grownBy w' (some R)) (hne : ∀ x, a = some x → x.block ≠ R) : ReqsAt w' a rs := by
 refine ⟨h.1, h.2.1, ?_⟩
 rcases h.2.2 with h | ⟨b, off, rfl, h1, h2⟩
 ·exact Or.inl h
 ·refine Or.inr ⟨b, off, rfl, Nat.lt_of_lt_of_le h1 hg.size, fun j v hv => ?_⟩
  rw [(@cell_block w w' b (off + j) (hg.block b h1 (by intro q; injection q with q; exact hne _ rfl q))).1]
  exact h2 j v hv
theorem st_low {w w' : World} {R B : Nat} {rest : List Int} {e : Int} (h : St w R rest e) (hb : Below B w w') (hR : R < B) : St w' R rest e := by
 have key : ∀ b, b < B → w'.heap[b]? = w.heap[b]? := fun b hbb => hb.block b hbb
 obtain ⟨⟨h0, h1, h2, h3, f0, f1, f2⟩, hr⟩ := h
 have cR := fun o => @cell_block w w' R o (key R hR)
 refine ⟨⟨Nat.lt_of_lt_of_le h0 hb.size, by rw [(cR 0).1]; exact h1, by rw [(cR 1).1]; exact h2, by rw [(cR 2).1]; exact h3, by rw [(cR 0).2]; exact f0, by rw [(cR 1).2]; exact f1, by rw [(cR 2).2]; exact f2⟩, fun he => ?_⟩
 obtain ⟨a, cap, g1, g2, g3, g4, g5⟩ := hr he
 refine ⟨a, cap, by rw [(cR 0).1]; exact g1, g2, g3, ⟨g4.1, g4.2.1, ?_⟩, g5⟩
 rcases g4.2.2 with g | ⟨b, off, rfl, g6, g7⟩
 ·exact .inl g
 ·have hbR := g5 _ rfl
  exact .inr ⟨b, off, rfl, Nat.lt_of_lt_of_le g6 hb.size, fun j v hv => by rw [(@cell_block w w' b (off + j) (key b (by simp at hbR; omega))).1]; exact g7 j v hv⟩
structure RL (w : World) (R : Nat) (rest : List Int) (e : Int) (k : Nat) (v : Value) (W : World) : Prop where
  own : W.ownsRow (w.heap.size + 1) 91 19 v k (flatR (getRs k rest e).1)
  st : St W R (getRs k rest e).2.1 (getRs k rest e).2.2
  gb : w.grownBy W (some R)
  res : W.there w.heap.size 0 2
  size : w.heap.size + 1 ≤ W.heap.size
def rdB (rest : List Int) (e : Int) : GotB :=
  if (numS rest e 5).1 = 0 then ⟨true, [], (numS rest e 5).2.1, (numS rest e 5).2.2⟩
  else ⟨false, (getRs ((numS rest e 5).1 - 1).toNat (numS rest e 5).2.1 (numS rest e 5).2.2).1,
    (getRs ((numS rest e 5).1 - 1).toNat (numS rest e 5).2.1 (numS rest e 5).2.2).2.1, (getRs ((numS rest e 5).1 - 1).toNat (numS rest e 5).2.1 (numS rest e 5).2.2).2.2⟩
theorem own19 {w w' : World} {B n : Nat} {v : Value} {xs : List Value} {row : Option Nat} (h : w.ownsRow B 91 19 v n xs) (hg : w.grownBy w' row) (hr : ∀ g, row = some g → g < B) : w'.ownsRow B 91 19 v n xs := by
 refine h.kept hg ?_
 cases hv : v.ownBlock with
 | none => exact .inl rfl
 | some k =>
  right
  intro he
  have h1 := (h.lt k hv).1
  have h2 := hr k he.symm
  omega
set_option maxRecDepth 100000 in
set_option maxHeartbeats 4000000 in
theorem readB_any (X R : Nat) (rest : List Int) (e : Int) (w : World) (hc : w.cell? ⟨X, 0, none⟩ = some (.pointer (some ⟨R, 0, none⟩))) (hX : X < w.heap.size) (hXR : X ≠ R) (h : St w R rest e) (hl : rest.length ≤ 40000) (hbs : e = 0 → Bs rest) :
  Calls Tryz.prog 107 #[.func (.func 72) #[.pointer (some ⟨R, 0, none⟩)] #[], .func (.func 108) #[] #[.pointer (some ⟨X, 0, none⟩)]] w fun en w' => ∃ a cap, en = .returned (batV (rdB rest e).q a (rdB rest e).rs.length cap) ∧ (rdB rest e).rs.length ≤ cap ∧ cap ≤ maxLen ∧ ReqsAt w' a (rdB rest e).rs ∧ (∀ x, a = some x → w.heap.size ≤ x.block) ∧ St w' R (rdB rest e).rest (rdB rest e).err ∧ w.grownBy w' (some R) := by
 have hRw : R < w.heap.size := h.1.1
 obtain ⟨i1, hi1, hiz, his, hib⟩ := info_parts infoR
 have cn := fun w0 h0 => num_any R rest e 5 w0 h0
 have hx1 := numS_bd (most := 5) hbs (by omega)
 obtain ⟨j0, hj0⟩ := numS_sub rest e 5
 have hl2 : (numS rest e 5).2.1.length ≤ 40000 := by rw [hj0, List.length_drop]; omega
 have hbs2 : (numS rest e 5).2.2 = 0 → Bs (numS rest e 5).2.1 := fun h0 => by rw [hj0]; exact (hbs (numS_err h0)).sub _
 obtain ⟨G, hG⟩ : ∃ G, Hid (rdB rest e = G) := ⟨_, hide rfl⟩
 rw [hG.out]
 have hG := hG.out
 unfold rdB at hG
 obtain ⟨x1, hx1e⟩ : ∃ x, Hid ((numS rest e 5).1 = x) := ⟨_, hide rfl⟩
 obtain ⟨x2, hx2e⟩ : ∃ x, Hid ((numS rest e 5).2.1 = x) := ⟨_, hide rfl⟩
 obtain ⟨x3, hx3e⟩ : ∃ x, Hid ((numS rest e 5).2.2 = x) := ⟨_, hide rfl⟩
 simp only [hx1e.out, hx2e.out, hx3e.out] at cn hx1 hl2 hbs2 hG
 clear hx1e hx2e hx3e hj0 hbs hl
 have HG := hide hG
 clear hG
 have hN := there_new w #[.bool false, .slice none 0 0] 24
 have hB1 : Below w.heap.size w (w.alloc (.cells #[.bool false, .slice none 0 0] 24)) := (Below.refl _ _).alloc (Nat.le_refl _) _
 have hg1 : w.grownBy (w.alloc (.cells #[.bool false, .slice none 0 0] 24)) (some R) := World.grownBy_alloc w _ _
 have hs1 : w.heap.size + 1 ≤ (w.alloc (.cells #[.bool false, .slice none 0 0] 24)).heap.size := by simp
 go_enter Tryz.func107, Tryz.ntmps107
 go_upto_region 1 with fail
 go_name_world w1 hw1
 rw [hw1] at hN hB1 hg1 hs1
 clear hw1
 have hN : w1.there w.heap.size 0 2 := hN
 go_wp2_with fail
 refine (cn w1 (h.below hB1)).mono ?_
 rintro en w2 ⟨rfl, h2, hg2⟩
 have hgw2 := gb_trans hg1 hg2
 have hN2 := there_gbR hN hg2 (by omega) (by omega)
 have hs2 := Nat.le_trans hs1 hg2.size
 clear cn hN hB1 hg1 hg2 hs1
 by_cases hx0 : x1 = 0
 ·rw [if_pos hx0] at HG
  subst hx0
  go_wp2_with fail
  refine (none_any w2).mono ?_
  rintro en w3 ⟨rfl, hw3⟩
  have hN3 := there_below hN2 hw3 (by omega)
  have hgw3 := gb_onR hgw2 hw3 hgw2.size
  have h3 := h2.below hw3
  have hRr := World.rangeAt_setCells_same w3 w.heap.size 0 [.bool true, .slice none 0 0] hN3
  have hg4 : w3.grownBy (w3.setCells w.heap.size 0 [.bool true, .slice none 0 0]) (some w.heap.size) := gb_setsR w3 w.heap.size [.bool true, .slice none 0 0] 0
  have h4 := h3.gb hg4 hRw
  have hgw4 := gb_onR hgw3 (below_sets (Nat.le_refl w.heap.size) [.bool true, .slice none 0 0] 0 w3 (Below.refl w.heap.size w3)) (Nat.le_refl _)
  have hrs := run_loadVar_mid (P := Tryz.prog) (w3.setCells w.heap.size 0 [.bool true, .slice none 0 0]) w.heap.size 0 24 [.bool true, .slice none 0 0] _ hRr Tryz.underlying24 rfl iszB
  clear hN2 hgw2 h2 hw3 hgw3 h3 hRr hg4
  unfold batV
  go_wp2_with (refine wpList_store_mid (op := ⟨none, .store 24 (.tmp 4) (.tmp 11), _, _, _, none⟩) rfl 24 _ _ rfl _ _ #[.bool true, .slice none 0 0] rfl rfl hN3 iszB (by simp [Value.oneCell']) ?_)
  refine bodyPost_ret (v := .agg #[.bool true, .slice none 0 0]) (by simp [results, Tryz.results107, asAddr, hrs, Act.put]) rfl ⟨none, 0, ?_⟩
  rw [← HG.out]
  exact ⟨rfl, by simp, by unfold maxLen; omega, ReqsAt.none, (fun x hx => by cases hx), h4, hgw4⟩
 ·rw [if_neg hx0] at HG
  obtain ⟨K, rfl⟩ : ∃ K : Nat, x1 = (K : Int) + 1 := ⟨(x1 - 1).toNat, by omega⟩
  have hK4 : K ≤ 4 := by omega
  have b0 : (((K : Int) + 1) == 0) = false := by simp; omega
  have e3 : ((K : Int) + 1 - 1).toNat = K := by omega
  rw [e3] at HG
  have HB := hide hbs2
  have hwr : IntKind.i64.wrap ((K : Int) + 1 - 1) = (K : Int) := by rw [IntKind.wrap_i64] <;> omega
  clear hx0 hx1 e3 hbs2
  go_wp2_with (first
   | refine wpList_make_own _ rfl _ _ 22 rfl (w.heap.size + 1) 91 i1 (.agg noReq.toArray) 19 Tryz.underlying22 hi1 hiz his .i64 .i64 _ K rfl rfl ?d1 ?d2 ?d3 ?d4 ?_)
  case d1 => omega
  case d2 => rw [hib]; omega
  case d3 => unfold maxLen; omega
  case d4 => exact hs2
  intro w3 hown3 hgrow3
  have hb3 : Below w2.heap.size w2 w3 := (Below.refl _ _).grown hgrow3 (Nat.le_refl _) (fun k hk => by cases hk)
  have HL0 : Hid (RL w R x2 x3 0 (.slice (some ⟨w2.heap.size, 0, none⟩) 0 K) w3) := hide ⟨by simpa [getRs, flatR] using hown3, h2.below hb3, gb_onR hgw2 hb3 hgw2.size, there_below hN2 hb3 (by omega), Nat.le_trans hs2 hb3.size⟩
  clear hown3 hgrow3 hb3 h2 hgw2 hN2 hs2
  go_wp2
  go_loopw [6, 17] (fun ov iv wr => ∃ k : Nat, k ≤ K ∧ iv = .int .i64 (k : Int) ∧ Hid (RL w R x2 x3 k ov wr)) (fun _ iv _ => K - (intOf iv).toNat)
  case atStart => exact ⟨0, by omega, rfl, HL0⟩
  case round =>
   clear HL0
   obtain ⟨k, hk, rfl, HL⟩ := hrel
   by_cases hlt : k < K
   ·have k1 : (k : Int) < K := by omega
    have hcx := (ref_cell (o := 0) HL.out.gb hX hXR).trans hc
    have hXr : X < wr.heap.size := Nat.lt_of_lt_of_le hX HL.out.gb.size
    have hle := Nat.le_trans (getRs_le k x2 x3) hl2
    obtain ⟨⟨j, hj⟩, hje⟩ := getRs_sub k x2 x3
    have hok := rqOf_ok (rest := (getRs k x2 x3).2.1) (e := (getRs k x2 x3).2.2) (fun h0 => by rw [hj]; exact (HB.out (hje h0)).sub _)
    have cg := get1_any X R _ _ wr hcx hXr HL.out.st hle hok
    have HS : Hid (flatR (getRs (k + 1) x2 x3).1 = flatR (getRs k x2 x3).1 ++ (rqOf (rgetR (getRs k x2 x3).2.1 (getRs k x2 x3).2.2)).cells) := hide (by
     show flatR ((getRs k x2 x3).1 ++ [rqOf (rgetR (getRs k x2 x3).2.1 (getRs k x2 x3).2.2)]) = _
     rw [flatR_append]
     simp [flatR])
    have HT : Hid ((getRs (k + 1) x2 x3).2 = ((rgetR (getRs k x2 x3).2.1 (getRs k x2 x3).2.2).rest, (rgetR (getRs k x2 x3).2.1 (getRs k x2 x3).2.2).err)) := hide rfl
    obtain ⟨g, hg⟩ : ∃ g, Hid (rgetR (getRs k x2 x3).2.1 (getRs k x2 x3).2.2 = g) := ⟨_, hide rfl⟩
    rw [hg.out] at cg hok HS HT
    obtain ⟨r, hr⟩ : ∃ r, Hid (rqOf g = r) := ⟨_, hide rfl⟩
    rw [hr.out] at cg hok HS
    have hul := hok.length
    have hone := r.one
    obtain ⟨u, hu⟩ : ∃ u, Hid (r.cells = u) := ⟨_, hide rfl⟩
    rw [hu.out] at cg HS hul hone
    obtain ⟨xs, hxs⟩ : ∃ xs, Hid (flatR (getRs k x2 x3).1 = xs) := ⟨_, hide rfl⟩
    have hown := HL.out.own
    rw [hxs.out] at HS hown
    have HO := hide hown
    clear hg hr hu hok hj hje hle hcx hXr hown hxs
    go_wp2_with fail
    refine cg.mono ?_
    rintro en w4 ⟨rfl, h4, hg4⟩
    have hgw4 := gb_trans HL.out.gb hg4
    have hN4 := there_gbR HL.out.res hg4 (by have := HL.out.size; omega) (by omega)
    have hs4 := Nat.le_trans HL.out.size hg4.size
    have HO4 := hide (own19 HO.out hg4 (fun g hh => by cases hh; omega))
    clear cg hg4 HO
    have hb5 : Below w4.heap.size w4 (w4.alloc (.cells u.toArray 91)) := (Below.refl _ _).alloc (Nat.le_refl _) _
    have hR5 : (w4.alloc (.cells u.toArray 91)).rangeAt w4.heap.size 0 u := by simpa using range_new w4 u.toArray 91
    have hsrc : Src Tryz.prog 19 22 (.slice (some ⟨w4.heap.size, 0, none⟩) 1 1) 1 u (w4.alloc (.cells u.toArray 91)) :=
     Src.ofSlice _ Tryz.underlying22 ⟨w4.heap.size, 0, none⟩ 1 1 u (by omega) (fun j v hv => by rw [Addr.add_mid]; exact hR5 j v hv) hone
    have hown5 := HO4.out.alloc (.cells u.toArray 91)
    have HL5 := hide hown5
    have hfold := fold_u #[.int .i64 0, .int .i64 0, .string ⟨#[]⟩, .int .u8 0, .int .u8 0, .int .u8 0, .int .u8 0, .int .u8 0, .int .u8 0, .int .u8 0, .int .u8 0, .int .u8 0, .int .u8 0, .int .u8 0, .int .u8 0, .int .u8 0, .int .u8 0, .int .u8 0, .int .u8 0] u (by rw [hul]; rfl)
    go_wp2_with (at_builtin; refine wpList_append_own_src _ rfl _ _ 22 22 rfl (w.heap.size + 1) 91 i1 (.agg noReq.toArray) 19 48 Tryz.underlying22 hi1 hiz his hib rfl _ k xs rfl hown5 (.slice (some ⟨w4.heap.size, 0, none⟩) 1 1) 1 u rfl hsrc ?c1 ?c2 ?c3 ?_)
    case c1 => unfold maxLen; omega
    case c2 => omega
    case c3 => exact Nat.le_trans hs4 hb5.size
    intro v6 w6 hown6 hgrow6
    have hb6 : Below (w.heap.size + 1) w4 w6 := (hb5.mono hs4).grown hgrow6 (Nat.le_trans hs4 hb5.size) (fun k hk => (HL5.out.lt k hk).1)
    have HL6 : Hid (RL w R x2 x3 (k + 1) v6 w6) := hide ⟨by rw [HS.out]; exact hown6, by rw [HT.out]; exact st_low h4 hb6 (by omega), gb_onR hgw4 hb6 (by omega), there_below hN4 hb6 (by omega), Nat.le_trans hs4 hb6.size⟩
    clear hown5 hown6 hgrow6 hsrc hR5 hb5 HL5 HO4
    go_wp2
    go_roundw
    case rel => exact ⟨k + 1, by omega, by go_num, HL6⟩
    case measure => simp [intOf]; omega
   ·obtain rfl : k = K := by omega
    have HA := hide (getRs_ok (rest := x2) (e := x3) HB.out k)
    have HLen := hide (getRs_length k x2 x3)
    have hown := HL.out.own
    obtain ⟨aa, capp, rfl, hc1, hc2, hrow, hlo⟩ := own_reqs (rs := (getRs k x2 x3).1) (by rw [HLen.out]; exact hown) HA.out (by rw [HLen.out]; unfold maxLen; omega)
    rw [HLen.out] at hc1 ⊢
    have hN3 := HL.out.res
    have hRr := World.rangeAt_setCells_same wr w.heap.size 0 [.bool false, .slice aa k capp] hN3
    have hg4 : wr.grownBy (wr.setCells w.heap.size 0 [.bool false, .slice aa k capp]) (some w.heap.size) := gb_setsR wr w.heap.size _ 0
    have h4 := HL.out.st.gb hg4 hRw
    have hbl : Below w.heap.size wr (wr.setCells w.heap.size 0 [.bool false, .slice aa k capp]) := below_sets (Nat.le_refl w.heap.size) _ 0 wr (Below.refl w.heap.size wr)
    have hgw4 := gb_onR HL.out.gb hbl (Nat.le_refl _)
    have hrow4 : ReqsAt (wr.setCells w.heap.size 0 [.bool false, .slice aa k capp]) aa (getRs k x2 x3).1 := hrow.gb1 hg4 (fun x hx => by have := hlo x hx; omega)
    have hrs := run_loadVar_mid (P := Tryz.prog) (wr.setCells w.heap.size 0 [.bool false, .slice aa k capp]) w.heap.size 0 24 [.bool false, .slice aa k capp] _ hRr Tryz.underlying24 rfl iszB
    have HF : Hid ((∃ a cap, Ending.returned (.agg #[.bool false, .slice aa k capp]) = .returned (batV G.q a G.rs.length cap) ∧ G.rs.length ≤ cap ∧ cap ≤ maxLen ∧ ReqsAt (wr.setCells w.heap.size 0 [.bool false, .slice aa k capp]) a G.rs ∧ (∀ x, a = some x → w.heap.size ≤ x.block) ∧ St (wr.setCells w.heap.size 0 [.bool false, .slice aa k capp]) R G.rest G.err ∧ w.grownBy (wr.setCells w.heap.size 0 [.bool false, .slice aa k capp]) (some R))) := hide (by
     rw [← HG.out]
     refine ⟨aa, capp, ?_, ?_, hc2, hrow4, fun x hx => by have := hlo x hx; omega, h4, hgw4⟩
     ·simp only [HLen.out]; rfl
     ·simp only [HLen.out]; exact hc1)
    clear HG HL hrow hrow4 h4 hgw4 hg4 hRr hbl HA hown hlo
    go_wp2_with (refine wpList_store_mid (op := ⟨none, .store 24 (.tmp 4) (.tmp 26), _, _, _, none⟩) rfl 24 _ _ rfl _ _ #[.bool false, .slice aa k capp] rfl rfl hN3 iszB (by simp [Value.oneCell']) ?_)
    exact bodyPost_ret (v := .agg #[.bool false, .slice aa k capp]) (by simp [results, Tryz.results107, asAddr, hrs, Act.put]) rfl HF.out
theorem getB_good {rest : List Int} {e : Int} (h : (rdB rest e).err = 0) : getB rest e = rdB rest e := by
 unfold rdB at h ⊢
 unfold getB
 split
 ·rename_i h0
  rw [if_pos h0] at h
  simp only at h
  rw [h]
  rfl
 ·rename_i h0
  rw [if_neg h0] at h
  simp only at h
  rw [h, if_pos rfl]
theorem getB_bad {rest : List Int} {e : Int} (h : (rdB rest e).err ≠ 0) : getB rest e = ⟨false, [], (rdB rest e).rest, (rdB rest e).err⟩ := by
 unfold rdB at h ⊢
 unfold getB
 split
 ·rename_i h0
  rw [if_pos h0] at h
  simp only at h
  rw [decide_eq_false h]
 ·rename_i h0
  rw [if_neg h0] at h
  simp only at h
  rw [if_neg h]
set_option maxRecDepth 100000 in
set_option maxHeartbeats 4000000 in
theorem bget_any (R : Nat) (rest : List Int) (e : Int) (w : World) (h : St w R rest e) (hl : rest.length ≤ 40000) (hbs : e = 0 → Bs rest) :
  Calls Tryz.prog 73 #[.pointer (some ⟨R, 0, none⟩)] w fun en w' => ∃ a cap, en = .returned (batV (getB rest e).q a (getB rest e).rs.length cap) ∧ (getB rest e).rs.length ≤ cap ∧ cap ≤ maxLen ∧ ReqsAt w' a (getB rest e).rs ∧ (∀ x, a = some x → w.heap.size ≤ x.block) ∧ St w' R (getB rest e).rest (getB rest e).err ∧ w.grownBy w' (some R) := by
 have hRw : R < w.heap.size := h.1.1
 have cr := fun X w0 hc hX hXR h0 => readB_any X R rest e w0 hc hX hXR h0 hl hbs
 obtain ⟨G, hG⟩ : ∃ G, Hid (getB rest e = G) := ⟨_, hide rfl⟩
 rw [hG.out]
 have HG1 : Hid ((rdB rest e).err = 0 → G = rdB rest e) := hide (fun hh => by rw [← hG.out]; exact getB_good hh)
 have HG2 : Hid ((rdB rest e).err ≠ 0 → G = ⟨false, [], (rdB rest e).rest, (rdB rest e).err⟩) := hide (fun hh => by rw [← hG.out]; exact getB_bad hh)
 obtain ⟨F, hF⟩ : ∃ F, Hid (rdB rest e = F) := ⟨_, hide rfl⟩
 rw [hF.out] at HG1 HG2
 simp only [hF.out] at cr
 clear hF hG
 obtain ⟨q, rs, rest', err⟩ := F
 simp only at cr HG1 HG2
 unfold batV at cr
 have hB1 : Below w.heap.size w ((w.alloc (.cells #[.pointer (some ⟨R, 0, none⟩)] 72)).alloc (.cells #[.bool false, .slice none 0 0] 24)) := ((Below.refl _ _).alloc (Nat.le_refl _) _).alloc (by simp) _
 have hN1 := there_new (w.alloc (.cells #[.pointer (some ⟨R, 0, none⟩)] 72)) #[.bool false, .slice none 0 0] 24
 have hc1 : ((w.alloc (.cells #[.pointer (some ⟨R, 0, none⟩)] 72)).alloc (.cells #[.bool false, .slice none 0 0] 24)).cell? ⟨w.heap.size, 0, none⟩ = some (.pointer (some ⟨R, 0, none⟩)) :=
  World.rangeAt_alloc (range_new w #[.pointer (some ⟨R, 0, none⟩)] 72) _ 0 _ rfl
 have hg1 : w.grownBy ((w.alloc (.cells #[.pointer (some ⟨R, 0, none⟩)] 72)).alloc (.cells #[.bool false, .slice none 0 0] 24)) (some R) := gb_trans (World.grownBy_alloc w _ _) (World.grownBy_alloc _ _ _)
 have hs1 : w.heap.size + 2 ≤ ((w.alloc (.cells #[.pointer (some ⟨R, 0, none⟩)] 72)).alloc (.cells #[.bool false, .slice none 0 0] 24)).heap.size := by simp
 rw [World.size_alloc] at hN1
 go_enter Tryz.func73, Tryz.ntmps73
 go_upto_region 1 with fail
 go_name_world w1 hw1
 rw [hw1] at hB1 hN1 hc1 hg1 hs1
 clear hw1
 have hN1 : w1.there (w.heap.size + 1) 0 2 := hN1
 obtain ⟨X, hX⟩ : ∃ X, Hid (w.heap.size = X) := ⟨_, hide rfl⟩
 obtain ⟨Y, hY⟩ : ∃ Y, Hid (w.heap.size + 1 = Y) := ⟨_, hide rfl⟩
 have hXY : X < Y := by rw [← hX.out, ← hY.out]; omega
 have hRX : R < X := by rw [← hX.out]; exact hRw
 have hwX : w.heap.size ≤ X := by rw [← hX.out]; omega
 have hYs : Y < w1.heap.size := by rw [← hY.out]; omega
 rw [hY.out] at hN1 ⊢
 rw [hX.out] at hc1 ⊢
 have cr1 := cr X w1 hc1 (by omega) (by omega) (h.below hB1)
 clear cr
 go_wp2_with fail
 refine cr1.mono ?_
 rintro en w2 ⟨a, cap, rfl, hc2, hm2, hrow2, hlo2, h2, hg2⟩
 have hc2' := (ref_cell (o := 0) hg2 (by omega) (by omega)).trans hc1
 have hN2 := there_gbR hN1 hg2 hYs (by omega)
 have hgw2 := gb_trans hg1 hg2
 have hs2 := Nat.le_trans (Nat.succ_le_of_lt hYs) hg2.size
 have F := fresh_store w2 #[.bool false, .slice none 0 0] 24 [.bool q, .slice a rs.length cap] rfl
 have hNz : (w2.alloc (.cells #[.bool false, .slice none 0 0] 24)).there w2.heap.size 0 2 := there_new w2 #[.bool false, .slice none 0 0] 24
 clear cr1 hB1 hN1 hc1 hg1
 go_upto_region 2 with (refine wpList_store_mid (op := ⟨none, .store 24 (.tmp 3) (.tmp 7), _, _, _, none⟩) rfl 24 _ _ rfl _ _ #[.bool q, .slice a rs.length cap] rfl rfl hNz iszB (by simp [Value.oneCell']) ?_)
 go_name_world w3 hw3
 rw [show (w2.alloc (.cells #[.bool false, .slice none 0 0] 24)).setCells w2.heap.size 0 [.bool q, .slice a rs.length cap] = w3 from hw3] at F
 clear hw3 hNz
 obtain ⟨hR3, hF3, hz3, _⟩ := F
 have h3 := h2.below hF3
 have hc3 := (hF3.cell (p := ⟨X, 0, none⟩) (by show X < w2.heap.size; omega)).trans hc2'
 have hN3 := there_below hN2 hF3 (by omega)
 have hgw3 := gb_onR hgw2 hF3 hgw2.size
 have hrow3 := hrow2.below hF3
 have hz3' : w2.heap.size < w3.heap.size := by omega
 obtain ⟨Z, hZ⟩ : ∃ Z, Hid (w2.heap.size = Z) := ⟨_, hide rfl⟩
 have hYZ : Y < Z := by rw [← hZ.out]; omega
 rw [hZ.out] at hR3 hz3' ⊢
 clear hrow2 h2 hg2 hc2' hN2 hgw2 hF3 hz3
 try simp only [Act.put]
 go_wp2_with fail
 refine (err_made R err w3 h3.1).mono ?_
 rintro en w4 ⟨rfl, hx⟩
 obtain rfl := hx.symm
 clear hx
 by_cases he : err = 0
 ·have b0 : (err == 0) = true := by simpa using he
  have hGe := HG1.out he
  clear HG1 HG2 he
  have hRr := World.rangeAt_setCells_same w3 Y 0 [.bool q, .slice a rs.length cap] hN3
  have hg5 : w3.grownBy (w3.setCells Y 0 [.bool q, .slice a rs.length cap]) (some Y) := gb_setsR w3 Y _ 0
  have h5 := h3.gb hg5 (by omega)
  have hgw5 := gb_onR hgw3 (below_sets (show w.heap.size ≤ Y by omega) [.bool q, .slice a rs.length cap] 0 w3 (Below.refl w.heap.size w3)) (Nat.le_refl _)
  have hrow5 := hrow3.gb1 hg5 (fun x hx => by have := hlo2 x hx; omega)
  have hrs := run_loadVar_mid (P := Tryz.prog) (w3.setCells Y 0 [.bool q, .slice a rs.length cap]) Y 0 24 [.bool q, .slice a rs.length cap] _ hRr Tryz.underlying24 rfl iszB
  have HF : Hid (∃ a' cap', Ending.returned (.agg #[.bool q, .slice a rs.length cap]) = .returned (batV G.q a' G.rs.length cap') ∧ G.rs.length ≤ cap' ∧ cap' ≤ maxLen ∧ ReqsAt (w3.setCells Y 0 [.bool q, .slice a rs.length cap]) a' G.rs ∧ (∀ x, a' = some x → w.heap.size ≤ x.block) ∧ St (w3.setCells Y 0 [.bool q, .slice a rs.length cap]) R G.rest G.err ∧ w.grownBy (w3.setCells Y 0 [.bool q, .slice a rs.length cap]) (some R)) := hide (by
   rw [hGe]
   exact ⟨a, cap, rfl, hc2, hm2, hrow5, fun x hx => by have := hlo2 x hx; omega, h5, hgw5⟩)
  clear hGe hrow3 hrow5 h3 h5 hgw3 hgw5 hg5 hRr hlo2 hc3
  go_upto_region 4 with fail
  try simp only [Act.put]
  refine wp_region_list ?_
  refine wpList_load_mid rfl 24 _ rfl _ _ rfl [.bool q, .slice a rs.length cap] _ hR3 Tryz.underlying24 rfl iszB ?_
  refine wpList_store_mid rfl 24 _ _ rfl _ _ #[.bool q, .slice a rs.length cap] rfl rfl hN3 iszB (by simp [Value.oneCell']) ?_
  go_wp2
  exact bodyPost_ret (v := .agg #[.bool q, .slice a rs.length cap]) (by simp [results, Tryz.results73, asAddr, hrs, Act.put]) rfl HF.out
 ·have b0 : (err == 0) = false := by simpa using he
  have hGe := HG2.out he
  clear HG1 HG2 he
  have hRr := World.rangeAt_setCells_same w3 Y 0 [.bool false, .slice none 0 0] hN3
  have hg5 : w3.grownBy (w3.setCells Y 0 [.bool false, .slice none 0 0]) (some Y) := gb_setsR w3 Y _ 0
  have h5 := h3.gb hg5 (by omega)
  have hgw5 := gb_onR hgw3 (below_sets (show w.heap.size ≤ Y by omega) [.bool false, .slice none 0 0] 0 w3 (Below.refl w.heap.size w3)) (Nat.le_refl _)
  have hrs := run_loadVar_mid (P := Tryz.prog) (w3.setCells Y 0 [.bool false, .slice none 0 0]) Y 0 24 [.bool false, .slice none 0 0] _ hRr Tryz.underlying24 rfl iszB
  have HF : Hid (∃ a' cap', Ending.returned (.agg #[.bool false, .slice none 0 0]) = .returned (batV G.q a' G.rs.length cap') ∧ G.rs.length ≤ cap' ∧ cap' ≤ maxLen ∧ ReqsAt (w3.setCells Y 0 [.bool false, .slice none 0 0]) a' G.rs ∧ (∀ x, a' = some x → w.heap.size ≤ x.block) ∧ St (w3.setCells Y 0 [.bool false, .slice none 0 0]) R G.rest G.err ∧ w.grownBy (w3.setCells Y 0 [.bool false, .slice none 0 0]) (some R)) := hide (by
   rw [hGe]
   exact ⟨none, 0, rfl, by simp, by unfold maxLen; omega, ReqsAt.none, (fun x hx => by cases hx), h5, hgw5⟩)
  clear hGe hrow3 h3 h5 hgw3 hgw5 hg5 hRr hlo2 hc3
  go_upto_region 3 with fail
  try simp only [Act.put]
  refine wp_region_list ?_
  refine wpList_step fun K hK => ?_
  go_simp
  refine hK _ _ ?_
  clear hK K
  refine wpList_store_mid rfl 24 _ _ rfl _ _ #[.bool false, .slice none 0 0] rfl rfl hN3 iszB (by simp [Value.oneCell']) ?_
  go_wp2
  exact bodyPost_ret (v := .agg #[.bool false, .slice none 0 0]) (by simp [results, Tryz.results73, asAddr, hrs, Act.put]) rfl HF.out
end Go.Proofs.YtinndbipomlokaaGreat
