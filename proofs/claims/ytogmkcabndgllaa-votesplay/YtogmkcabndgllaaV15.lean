/- the chapter's example -/
import Derived.Test.YtogmkcabndgllaaV14
namespace Go.Proofs.Ytogmkcabndgllaa
open Go.RowKit
def cvOf (v : Vt) (c : Option (List Sg)) : Vt := if c.isSome then v else vt0
/-- Cert, whatever is asked -/
theorem cert_any (B b : Nat) (N : Int) (st : List On) (v : Vt) (hv : v.ok) (need : Int) (w : World) (h : BookAt w B b N st) (hlen : st.length < 1000000) :
    Calls Try.prog 16 #[.pointer (some ⟨B, 0, none⟩), .agg v.cells.toArray, .int .i64 need] w fun e w' => ∃ a cap, e = .returned (.tuple #[.agg ((cvOf v (certOf N st v need)).cells ++ [Value.slice a ((certOf N st v need).getD []).length cap]).toArray, .bool (certOf N st v need).isSome]) ∧ SigsAt w' a ((certOf N st v need).getD []) ∧ ((certOf N st v need).getD []).length ≤ cap ∧ (∀ x, a = some x → w.heap.size ≤ x.block) ∧ Below w.heap.size w w' := by
  unfold certOf cvOf
  by_cases hc : need < 1 ∨ (countL st v : Int) < need
  · rw [if_pos hc]
    refine (cert_none _ v hv need (countL st v) w (fun w1 hb => count_any B b N st v hv w1 (h.below hb) hlen) hc).mono ?_
    rintro e w' ⟨rfl, hb⟩
    exact ⟨none, 0, rfl, SigsAt.none, Nat.le_refl _, (fun x hx => by cases hx), hb⟩
  · rw [if_neg hc]
    exact cert_some B b N st v hv need w h hlen (by omega) (by omega)
theorem cert_no (p : Value) (v : Vt) (hv : v.ok) (need : Int) (w : World) (h : NoBook w p) :
    Calls Try.prog 16 #[p, .agg v.cells.toArray, .int .i64 need] w fun e w' => e = .returned (.tuple #[.agg ct0.toArray, .bool false]) ∧ Below w.heap.size w w' :=
  cert_none p v hv need 0 w (fun w1 hb => count_no p v w1 (h.below hb)) (by omega)
def lv : Vt := ⟨1, 0, 0, 3, List.replicate 32 0⟩
theorem lv_ok : lv.ok := ⟨by unfold I64 lv; decide, by unfold I64 lv; decide, by unfold I64 lv; decide, by unfold I64 lv; decide, by decide, by unfold B8 lv; decide⟩
def t0 : List Int := List.replicate 16 0
def t2 : List Int := 2 :: List.replicate 15 0
theorem t0_b : B8 t0 := by unfold B8 t0; decide
theorem t2_b : B8 t2 := by unfold B8 t2; decide
def o2 : On := ⟨2, lv, t2⟩
def o0 : On := ⟨0, lv, t0⟩
def o3 : On := ⟨3, lv, t0⟩
theorem o2_ok : o2.ok := ⟨by unfold I64 o2; decide, lv_ok, by decide, t2_b⟩
theorem o0_ok : o0.ok := ⟨by unfold I64 o0; decide, lv_ok, by decide, t0_b⟩
theorem o3_ok : o3.ok := ⟨by unfold I64 o3; decide, lv_ok, by decide, t0_b⟩
theorem e2 : addE 4 [] o2 = 0 := by decide
theorem l2 : addL 4 [] o2 = [o2] := by decide
theorem e0 : addE 4 [o2] o0 = 0 := by decide
theorem l0 : addL 4 [o2] o0 = [o2, o0] := by decide
theorem e3 : addE 4 [o2, o0] o3 = 0 := by decide
theorem l3 : addL 4 [o2, o0] o3 = [o2, o0, o3] := by decide
theorem cl3 : countL [o2, o0, o3] lv = 3 := by decide
theorem ce3 : certOf 4 [o2, o0, o3] lv 3 = some [⟨0, t0⟩, ⟨2, t2⟩, ⟨3, t0⟩] := by decide
set_option maxRecDepth 100000 in
theorem build_lv (w : World) : (Instr.build 31 #[(0, .int .i64 1), (3, .int .i64 3)]).run Try.prog w = .ok (.agg lv.cells.toArray) w := by kernel_rfl
set_option maxRecDepth 100000 in
theorem build_t2 (w : World) : (Instr.build 33 #[(0, .int .u8 2)]).run Try.prog w = .ok (.agg (v8 t2).toArray) w := by kernel_rfl
set_option maxRecDepth 100000 in
theorem build_t0 (w : World) : (Instr.build 33 #[]).run Try.prog w = .ok (.agg (v8 t0).toArray) w := by kernel_rfl
theorem one_filled {w w3 : World} {a1 : Array Value} {t1 : TypeId} {c1 : List Value} (h : (w.alloc (.cells a1 t1)).setCells w.heap.size 0 c1 = w3) (h1 : c1.length = a1.size) :
    Below w.heap.size w w3 ∧ w3.rangeAt w.heap.size 0 c1 ∧ w.heap.size < w3.heap.size ∧ w3.there w.heap.size 0 a1.size := by
  subst h
  obtain ⟨q1, q2, q3, q4⟩ := fresh_store w a1 t1 c1 h1
  exact ⟨q2, q1, by omega, q4⟩
set_option maxRecDepth 100000 in
set_option maxHeartbeats 8000000 in
theorem lives_any (w : World) : Calls Try.prog 9 #[] w fun e w' => e = .returned (.bool true) ∧ Below w.heap.size w w' := by
  have cN := new_yes 4 w (by decide)
  have hbv := build_lv
  have hb2 := build_t2
  have hb0 := build_t0
  have hl36 : lv.cells.toArray.size = 36 := by simpa using lv_ok.len
  have hl1 := all_one lv.one
  have hiV : (Try.prog.info? 31).map (·.size) = some lv.cells.length := by rw [lv_ok.len]; exact iszV
  have hiV2 : (Try.prog.info? 31).map (·.size) = some lv.cells.toArray.size := by rw [hl36]; exact iszV
  have heqS := fun w => eqS ⟨2, t2⟩ ⟨2, t2⟩ ⟨by decide, t2_b, by unfold I64; decide⟩ ⟨by decide, t2_b, by unfold I64; decide⟩ w
  have hbS := fun w => build_sign 2 (v8 t2) (by decide) w
  obtain ⟨u, hu⟩ : ∃ u, Hid (lv.cells = u) := ⟨_, hide rfl⟩
  obtain ⟨g2, hg2⟩ : ∃ g, Hid (v8 t2 = g) := ⟨_, hide rfl⟩
  obtain ⟨g0, hg0⟩ : ∃ g, Hid (v8 t0 = g) := ⟨_, hide rfl⟩
  have cA2 : ∀ B b w, BookAt w B b 4 [] → Calls Try.prog 10 #[.pointer (some ⟨B, 0, none⟩), .int .i64 2, .agg u.toArray, .agg g2.toArray] w fun e w' => e = .returned (.int .i64 0) ∧ BookAt w' B b 4 [o2] ∧ Off (fun z => z = b) w w' := fun B b w h => by
    have := add_any B b 4 [] o2 o2_ok w h (by simp)
    rw [e2, l2] at this
    rw [← hu.out, ← hg2.out]
    exact this
  have cA0 : ∀ B b w, BookAt w B b 4 [o2] → Calls Try.prog 10 #[.pointer (some ⟨B, 0, none⟩), .int .i64 0, .agg u.toArray, .agg g0.toArray] w fun e w' => e = .returned (.int .i64 0) ∧ BookAt w' B b 4 [o2, o0] ∧ Off (fun z => z = b) w w' := fun B b w h => by
    have := add_any B b 4 [o2] o0 o0_ok w h (by simp)
    rw [e0, l0] at this
    rw [← hu.out, ← hg0.out]
    exact this
  have cA3 : ∀ B b w, BookAt w B b 4 [o2, o0] → Calls Try.prog 10 #[.pointer (some ⟨B, 0, none⟩), .int .i64 3, .agg u.toArray, .agg g0.toArray] w fun e w' => e = .returned (.int .i64 0) ∧ BookAt w' B b 4 [o2, o0, o3] ∧ Off (fun z => z = b) w w' := fun B b w h => by
    have := add_any B b 4 [o2, o0] o3 o3_ok w h (by simp)
    rw [e3, l3] at this
    rw [← hu.out, ← hg0.out]
    exact this
  have cCt : ∀ B b w, BookAt w B b 4 [o2, o0, o3] → Calls Try.prog 12 #[.pointer (some ⟨B, 0, none⟩), .agg u.toArray] w fun e w' => e = .returned (.int .i64 3) ∧ Below w.heap.size w w' := fun B b w h => by
    have := count_any B b 4 [o2, o0, o3] lv lv_ok w h (by simp)
    rw [cl3] at this
    rw [← hu.out]
    exact this
  have cCe : ∀ B b w, BookAt w B b 4 [o2, o0, o3] → Calls Try.prog 16 #[.pointer (some ⟨B, 0, none⟩), .agg u.toArray, .int .i64 3] w fun e w' => ∃ g o cap, e = .returned (.tuple #[.agg (u ++ [Value.slice (some ⟨g, o, none⟩) 3 cap]).toArray, .bool true]) ∧ 3 ≤ cap ∧ w'.cell? ⟨g, o, none⟩ = some (.int .i64 0) ∧ w'.rangeAt g (o + 17) (.int .i64 2 :: g2) ∧ g < w'.heap.size ∧ Below w.heap.size w w' := fun B b w h => by
    have := cert_any B b 4 [o2, o0, o3] lv lv_ok 3 w h (by simp)
    rw [ce3] at this
    rw [← hu.out, ← hg2.out]
    refine this.mono ?_
    rintro e w' ⟨a, cap, rfl, hs, hc, _, hb⟩
    obtain ⟨b0, off0, rfl, hb0, hr0⟩ := hs.elem 0 (by decide)
    obtain ⟨b1, off1, ha1, hb1, hr1⟩ := hs.elem 1 (by decide)
    cases ha1
    refine ⟨b0, off0, cap, rfl, hc, ?_, ?_, hb0, hb⟩
    · have := hr0 0 _ rfl
      simpa using this
    · simpa [Sg.cells] using hr1
  have huo := lv.one
  rw [hu.out] at hl36 hl1 hiV hiV2 huo
  simp only [hu.out] at hbv
  simp only [hg2.out] at hb2 hbS
  simp only [hg0.out] at hb0
  have hg16 : g2.length = 16 := by rw [← hg2.out]; decide
  have heqS : ∀ w : World, (binOp .eql 52 (.agg (Value.int .i64 2 :: g2).toArray) (.agg (Value.int .i64 2 :: g2).toArray)).run Try.prog w = .ok (.bool true) w := fun w => by
    rw [← hg2.out]
    exact heqS w
  have hi17 : (Try.prog.info? 52).map (·.size) = some (Value.int .i64 2 :: g2).length := by rw [List.length_cons, hg16]; kernel_rfl
  clear hu hg2 hg0
  obtain ⟨us, hus⟩ : ∃ us, Hid ((Value.int .i64 2 :: g2) = us) := ⟨_, hide rfl⟩
  rw [hus.out] at hi17
  simp only [hus.out] at heqS hbS cCe
  go_enter Try.func9, Try.ntmps9
  go_wp2_with fail
  refine cN.mono ?_
  rintro _ w1 ⟨rfl, hk1, hB1⟩
  clear cN
  go_upto_region 3 with (first | (refine wpList_build rfl 31 [(0, .const (.int .i64 1)), (3, .const (.int .i64 3))] rfl [(0, .int .i64 1), (3, .int .i64 3)] (.agg u.toArray) rfl (hbv _) ?_) | (refine wpList_store_mid rfl 31 _ _ rfl _ 0 u.toArray rfl rfl (there_newN _ _ _ hl36.symm) hiV2 hl1 ?_))
  go_name_world w2 hw2
  obtain ⟨hB2, hR2, hlt2, -⟩ := one_filled hw2 (by simpa using hl36)
  clear hw2
  have hk := hk1.below hB2
  have hR := hR2
  have hlt := hlt2
  have hO : Off (fun z => z = w.heap.size) w w2 := Off.of_below (hB1.trans (hB2.mono hB1.size))
  have hs1 := hB1.size
  have hZb : w1.heap.size ≠ w.heap.size := by have := hk1.lt; omega
  clear hR2 hlt2 hk1 hB2 hB1
  go_wp2_with (first
    | (refine wpList_load_g (by rfl) 31 _ rfl _ _ rfl u _ hR Try.underlying31 rfl hiV ?_)
    | (refine wpList_build (by rfl) 33 [(0, .const (.int .u8 2))] rfl [(0, .int .u8 2)] (.agg g2.toArray) rfl (hb2 _) ?_)
    | (refine wpList_build (by rfl) 33 [] rfl [] (.agg g0.toArray) rfl (hb0 _) ?_))
  refine (cA2 _ _ w2 hk).mono ?_
  rintro _ w3 ⟨rfl, hkn, hOn⟩
  have hR := range_at hR (hOn.2 _ hlt hZb)
  have hlt := Nat.lt_of_lt_of_le hlt hOn.size
  have hO := hO.trans hOn (fun _ _ q => q)
  have hk := hkn
  clear hkn hOn cA2
  go_wp2_with (first
    | (refine wpList_load_g (by rfl) 31 _ rfl _ _ rfl u _ hR Try.underlying31 rfl hiV ?_)
    | (refine wpList_build (by rfl) 33 [(0, .const (.int .u8 2))] rfl [(0, .int .u8 2)] (.agg g2.toArray) rfl (hb2 _) ?_)
    | (refine wpList_build (by rfl) 33 [] rfl [] (.agg g0.toArray) rfl (hb0 _) ?_))
  refine (cA0 _ _ w3 hk).mono ?_
  rintro _ w4 ⟨rfl, hkn, hOn⟩
  have hR := range_at hR (hOn.2 _ hlt hZb)
  have hlt := Nat.lt_of_lt_of_le hlt hOn.size
  have hO := hO.trans hOn (fun _ _ q => q)
  have hk := hkn
  clear hkn hOn cA0
  go_wp2_with (first
    | (refine wpList_load_g (by rfl) 31 _ rfl _ _ rfl u _ hR Try.underlying31 rfl hiV ?_)
    | (refine wpList_build (by rfl) 33 [(0, .const (.int .u8 2))] rfl [(0, .int .u8 2)] (.agg g2.toArray) rfl (hb2 _) ?_)
    | (refine wpList_build (by rfl) 33 [] rfl [] (.agg g0.toArray) rfl (hb0 _) ?_))
  refine (cA3 _ _ w4 hk).mono ?_
  rintro _ w5 ⟨rfl, hkn, hOn⟩
  have hR := range_at hR (hOn.2 _ hlt hZb)
  have hlt := Nat.lt_of_lt_of_le hlt hOn.size
  have hO := hO.trans hOn (fun _ _ q => q)
  have hk := hkn
  clear hkn hOn cA3
  go_wp2_with (first
    | (refine wpList_load_g (by rfl) 31 _ rfl _ _ rfl u _ hR Try.underlying31 rfl hiV ?_)
    | (refine wpList_build (by rfl) 33 [(0, .const (.int .u8 2))] rfl [(0, .int .u8 2)] (.agg g2.toArray) rfl (hb2 _) ?_)
    | (refine wpList_build (by rfl) 33 [] rfl [] (.agg g0.toArray) rfl (hb0 _) ?_))
  refine (cCt _ _ w5 hk).mono ?_
  rintro _ w6 ⟨rfl, hBn⟩
  have hR := range_below hR hBn hlt
  have hlt := Nat.lt_of_lt_of_le hlt hBn.size
  have hO := hO.below_r hBn
  have hk := hk.below hBn
  clear hBn cCt
  go_wp2_with (refine wpList_load_mid rfl 31 _ rfl _ _ rfl u _ hR Try.underlying31 rfl hiV ?_)
  refine (cCe _ _ w6 hk).mono ?_
  rintro _ w7 ⟨g, o, cap, rfl, hcap, s0, sR, hgl, hBn⟩
  have hO := hO.below_r hBn
  clear hBn cCe hk hR hlt
  have hc37 : (u ++ [Value.slice (some ⟨g, o, none⟩) 3 cap]).toArray.size = 37 := by
    have := hl36
    simp at this
    simp [this]
  have hc1 : (u ++ [Value.slice (some ⟨g, o, none⟩) 3 cap]).toArray.all (·.oneCell') = true := by
    refine all_one (fun x hx => ?_)
    rcases List.mem_append.1 hx with q | q
    · exact huo x q
    · simp only [List.mem_singleton] at q
      subst q
      rfl
  have hic : (Try.prog.info? 44).map (·.size) = some (u ++ [Value.slice (some ⟨g, o, none⟩) 3 cap]).toArray.size := by rw [hc37]; exact iszCt
  have hul : u.length = 36 := by simpa using hl36
  have hcl : (u ++ [Value.slice (some ⟨g, o, none⟩) 3 cap])[36]? = some (.slice (some ⟨g, o, none⟩) 3 cap) := by
    rw [List.getElem?_append_right (by omega), hul]
    rfl
  obtain ⟨cc, hcc⟩ : ∃ cc, Hid (u ++ [Value.slice (some ⟨g, o, none⟩) 3 cap] = cc) := ⟨_, hide rfl⟩
  rw [hcc.out] at hc37 hc1 hic hcl ⊢
  clear hcc
  go_upto_region 6 with (refine wpList_store_mid rfl 44 _ _ rfl _ 0 cc.toArray rfl rfl (there_newN _ _ _ hc37.symm) hic hc1 ?_)
  go_name_world w8 hw8
  obtain ⟨hB8, hR8, hlt8, -⟩ := one_filled hw8 (by simpa using hc37)
  clear hw8
  have hc36 := hR8 36 _ hcl
  rw [Nat.zero_add] at hc36
  have s0 := (hB8.cell (p := ⟨g, o, none⟩) hgl).trans s0
  have sR := range_below sR hB8 hgl
  have hO := hO.below_r hB8
  try simp only [Act.put]
  go_wp2_with (first
    | (refine wpList_load_g (by rfl) 52 _ rfl _ _ rfl us _ sR Try.underlying52 rfl hi17 ?_)
    | (refine wpList_build (by rfl) 33 [(0, .const (.int .u8 2))] rfl [(0, .int .u8 2)] (.agg g2.toArray) rfl (hb2 _) ?_)
    | (refine wpList_build (by rfl) 52 [(0, .const (.int .i64 2)), (1, .tmp 62)] rfl [(0, .int .i64 2), (1, .agg g2.toArray)] (.agg us.toArray) rfl (hbS _) ?_))
  go_ret
  exact ⟨rfl, hO.below (Nat.le_refl _) (fun z hz q => by omega)⟩
end Go.Proofs.Ytogmkcabndgllaa
