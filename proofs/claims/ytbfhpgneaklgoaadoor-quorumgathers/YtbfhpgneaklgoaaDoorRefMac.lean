/- the document's Mac -/
import Derived.Test.YtbfhpgneaklgoaaDoorPad
namespace Go.Proofs.YtbfhpgneaklgoaaDoor
open Go.RowKit
open Sha
theorem exec_append {P : Program} {o : Oper} {a : Act} {w w' : World} {s x : Operand} {t tx : TypeId} {v xv v' : Value} (ho : o.op = .call { callee := .builtin .append, args := #[s, x], argTypes := #[t, tx] }) (hv : a.eval s = v) (hx : a.eval x = xv)
    (hr : (Builtin.append_ #[t, tx] o.type #[v, xv]).run P w = .ok v' w') : (execOp a.eval o).run P w = .ok (.value v') w' := by
  unfold execOp
  simp only [ho, resolve, invoke, builtin, Sem.run_bind, Sem.run_pure, Result.andThen_ok, List.map_toArray, List.map_cons, List.map_nil, hv, hx, hr]
/-- bytes of the call's own, with bytes behind them -/
theorem append_bytes {w : World} {B : Nat} {v : Value} {zs ys : List Int} {a : Option Addr} {cap : Nat} (ty : TypeId) (hB : B ≤ w.heap.size) (ho : w.ownsRow B 5 1 v zs.length (v8 zs)) (hz : ∀ z ∈ zs, 0 ≤ z ∧ z < 256) (hy : RowAt w a ys) (hl : zs.length + ys.length ≤ 10000000) :
    ∃ a' cap' w', (Builtin.append_ #[51, 51] ty #[v, .slice a ys.length cap]).run Tryd.prog w = .ok (.slice a' (zs ++ ys).length cap') w' ∧ w'.ownsRow B 5 1 (.slice a' (zs ++ ys).length cap') (zs ++ ys).length (v8 (zs ++ ys)) ∧ RowAt w' a' (zs ++ ys) ∧ (zs ++ ys).length ≤ cap' ∧ cap' ≤ maxLen ∧ w.grownBy w' v.ownBlock := by
  obtain ⟨i0, hi, hz0, hz1, hz2⟩ := info_parts info8
  obtain ⟨v', w', hr, hown, hgr⟩ := run_append_own_src (P := Tryd.prog) w B 51 51 ty 5 i0 (.int .u8 0) 1 1 Tryd.underlying51 hi hz0 hz1 hz2 rfl v zs.length (v8 zs) ho (.slice a ys.length cap) ys.length (v8 ys) (hy.src cap) (by unfold maxLen; omega) (by omega) hB
  rw [← v8_append, ← List.length_append] at hown
  obtain ⟨a', cap', rfl, h1, h2, h3⟩ := own_bytes hown (fun z hz' => by
    rcases List.mem_append.1 hz' with q | q
    · exact hz z q
    · exact hy.2.1 z q) (by rw [List.length_append]; unfold maxLen; omega)
  exact ⟨a', cap', w', hr, hown, h3, h1, h2, hgr⟩
theorem own_low {w : World} {B : Nat} {e : TypeId} {v : Value} {n : Nat} {xs : List Value} (h : w.ownsRow B e 1 v n xs) : ∀ k, v.ownBlock = some k → B ≤ k := by
  intro k hk
  rcases h.2 with ⟨rfl, _⟩ | ⟨g, cap, cur, rfl, hb, _⟩
  · simp [Value.ownBlock] at hk
  · have : g = k := by simpa [Value.ownBlock] using hk
    omega
set_option maxRecDepth 20000 in
set_option maxHeartbeats 2000000 in
theorem refMac_any (ka : Option Addr) (kc : Nat) (key : List Int) (a : Option Addr) (cap : Nat) (zs : List Int) (w : World) (hk : RowAt w ka key) (hkl : key.length ≤ 900000) (h : RowAt w a zs) (hl : zs.length ≤ 900000) :
   Calls Tryd.prog 50 #[.slice ka key.length kc, .slice a zs.length cap] w fun e w' => e = .returned (.agg (v8 (mac key zs)).toArray) ∧ Below w.heap.size w w' := by
  have hB0 : Below w.heap.size w (w.alloc (.cells (Array.replicate 32 (.int .u8 0)) 54)) := (Below.refl _ _).alloc (Nat.le_refl _) _
  have hT0 := (new_bytes w 32 54).2
  have cp := pad_any ka kc key 54 _ (hk.below hB0) (by omega)
  obtain ⟨k1, hk1⟩ : ∃ k1, Hid (xorL 54 (macBlock key) = k1) := ⟨_, rfl⟩
  have hl1 : k1.length = 64 := by rw [← hk1.out, xorL_len]; exact macBlock_len key
  have ho1 : ∀ z ∈ k1, 0 ≤ z ∧ z < 256 := by rw [← hk1.out]; exact xorL_ok _ _
  obtain ⟨k2, hk2⟩ : ∃ k2, Hid (xorL 92 (macBlock key) = k2) := ⟨_, rfl⟩
  have hl2 : k2.length = 64 := by rw [← hk2.out, xorL_len]; exact macBlock_len key
  have ho2 : ∀ z ∈ k2, 0 ≤ z ∧ z < 256 := by rw [← hk2.out]; exact xorL_ok _ _
  have HM : Hid (mac key zs = sha (k2 ++ sha (k1 ++ zs))) := by rw [← hk1.out, ← hk2.out]; rfl
  rw [hk1.out] at cp
  clear hk1
  go_enter Tryd.func50, Tryd.ntmps50
  go_wp2_with fail
  refine cp.mono ?_
  rintro e w1 ⟨v1, rfl, hown1, hw1⟩
  clear cp
  have hB1 := hB0.trans (hw1.mono hB0.size)
  have hs1 := hw1.size
  have hT1 := there_below hT0 hw1 (by simp)
  have hown1' : w1.ownsRow (w.heap.size + 1) 5 1 v1 k1.length (v8 k1) := by rw [hl1]; simpa using hown1
  simp only [World.size_alloc] at hs1
  obtain ⟨i0, hi, hz0, hz1, hz2⟩ := info_parts info8
  have hsrc := (h.below hB1).src cap
  go_wp2_with (at_builtin; refine wpList_append_own_src _ rfl _ _ 51 51 rfl (w.heap.size + 1) 5 i0 (.int .u8 0) 1 1 Tryd.underlying51 hi hz0 hz1 hz2 rfl _ k1.length _ rfl hown1' _ zs.length _ rfl hsrc ?c1 ?c2 ?c3 ?_)
  case c1 => unfold maxLen; omega
  case c2 => omega
  case c3 => omega
  intro v2 w2 hown2 hgr2
  have e12 : 64 + zs.length = (k1 ++ zs).length := by rw [List.length_append, hl1]
  rw [← v8_append, e12] at hown2
  clear e12
  obtain ⟨a2, cap2, rfl, _, _, hrow2⟩ := own_bytes hown2 (fun z hz' => by
    rcases List.mem_append.1 hz' with q | q
    · exact ho1 z q
    · exact h.2.1 z q) (by rw [List.length_append]; unfold maxLen; omega)
  clear hi hz0 hz1 hz2 hsrc
  have hB2a : Below (w.heap.size + 1) w1 w2 := (Below.refl _ _).grown hgr2 (by omega) (own_low hown1')
  have hB2 : Below w.heap.size w w2 := hB1.trans (hB2a.mono (by omega))
  have hT2 := there_below hT1 hB2a (by omega)
  have hs2 := hB2a.size
  have c2 := refSum_any a2 cap2 (k1 ++ zs) w2 hrow2 (by rw [List.length_append]; omega)
  obtain ⟨d, hd⟩ : ∃ d, Hid (sha (k1 ++ zs) = d) := ⟨_, rfl⟩
  have hdl : d.length = 32 := by rw [← hd.out]; exact sha_length _
  have hdo : ∀ z ∈ d, 0 ≤ z ∧ z < 256 := by rw [← hd.out]; exact sha_ok _
  rw [hd.out] at c2 HM
  clear hd hown1 hown1' hown2 hgr2 hrow2
  generalize (k1 ++ zs).length = n2 at *
  go_wp2_with fail
  refine c2.mono ?_
  rintro e w3 ⟨rfl, hw3⟩
  clear c2
  have hB3 := hB2.trans (hw3.mono hB2.size)
  have hT3 := there_below hT2 hw3 (by omega)
  have hs3 := hw3.size
  have F := fresh_store w3 (Array.replicate 32 (.int .u8 0)) 54 (v8 d) (by rw [v8_length, hdl]; rfl)
  have hN := there24 w3 d hdl
  have hi := info24 d hdl
  have h1c := all_oneCell_toArray (v8_one d)
  go_upto_region 2 with (refine wpList_store_mid (op := ⟨none, .store 54 (.tmp 5) (.tmp 10), _, _, _, none⟩) rfl 54 _ _ rfl _ _ (v8 d).toArray rfl rfl hN hi h1c ?_)
  go_name_world w4 hw4
  rw [show (w3.alloc (.cells (Array.replicate 32 (.int .u8 0)) 54)).setCells w3.heap.size 0 (v8 d) = w4 from hw4] at F
  obtain ⟨hR4, hB4', hz4', _⟩ := F
  have hz4 : w3.heap.size < w4.heap.size := by omega
  clear hz4' hw4 hN h1c hw3
  have hB4 := hB3.trans (hB4'.mono hB3.size)
  have hT4 := there_below hT3 hB4' (by omega)
  try simp only [Act.put]
  obtain ⟨I, hI⟩ : ∃ I, w3.heap.size = I := ⟨_, rfl⟩
  rw [hI] at hR4 hz4 ⊢
  have hIl : w.heap.size < I := by omega
  clear hI hB4' hT3 hT2 hT1 hT0 hB3 hB2a hB2 hB1 hB0 hs1 hs2 hs3
  have hi' : (Tryd.prog.info? 54).map (·.size) = some (v8 d).length := by simpa using hi
  go_wp2_with fail
  refine hs_begin (S := (fun W : World => W.rangeAt I 0 (v8 d))) 7 rfl (by kernel_rfl) ?_
  have hS : (fun W : World => W.rangeAt I 0 (v8 d)) w4.drew := (World.rangeAt_drew _ _ _ _).2 hR4
  have hB5 : Below w.heap.size w w4.drew := hB4.drew
  have hT5 : w4.drew.there w.heap.size 0 32 := hT4
  have hz5 : I < w4.drew.heap.size := hz4
  generalize w4.drew = w5 at hS hB5 hT5 hz5 ⊢
  refine hs_take (i := 0) (d := some 11) (v := ?_) rfl (by kernel_rfl) (by kernel_rfl) (by kernel_rfl) (by rfl) ?_ hS rfl ?_
  rotate_left
  · intro w' hw
    go_simp
    try with_reducible rfl
  simp only [Act.put, List.setIfInBounds_toArray, List.set_cons_zero, List.set_cons_succ]
  refine hs_take (i := 2) (d := some 13) (v := .agg (v8 d).toArray) rfl (by kernel_rfl) (by kernel_rfl) (by kernel_rfl) (by rfl) (fun w' hw => exec_load rfl rfl (run_loadVar_mid (P := Tryd.prog) w' I 0 54 (v8 d) _ hw Tryd.underlying54 rfl hi')) hS rfl ?_
  simp only [Act.put, List.setIfInBounds_toArray, List.set_cons_zero, List.set_cons_succ]
  have cp := pad_any ka kc key 92 w5 (hk.below hB5) (by omega)
  rw [hk2.out] at cp
  refine hs_call (i := 1) (d := some 12) rfl (by kernel_rfl) (by rfl) (by go_simp; first | done | exact ⟨rfl, rfl⟩ | with_reducible rfl) rfl ?_
  refine (cp).mono ?_
  rintro e' w6 ⟨v6, rfl, hown6, hw6⟩
  have hS : (fun W : World => W.rangeAt I 0 (v8 d)) w6 := range_below hS hw6 hz5
  refine ⟨_, rfl, hS, ?_⟩
  simp only [Act.put, List.setIfInBounds_toArray, List.set_cons_zero, List.set_cons_succ]
  have hB6 := hB5.trans (hw6.mono hB5.size)
  have hT6 := there_below hT5 hw6 (by omega)
  have hs6 := hw6.size
  clear cp
  refine hs_call (i := 3) (d := some 14) rfl (by kernel_rfl) (by rfl) (by go_simp; first | done | exact ⟨rfl, rfl⟩ | with_reducible rfl) rfl ?_
  refine (bytes_any d w6 hdl).mono ?_
  rintro e' w7 ⟨v7, rfl, hown7, hw7⟩
  have hS : (fun W : World => W.rangeAt I 0 (v8 d)) w7 := range_below hS hw7 (by omega)
  refine ⟨_, rfl, hS, ?_⟩
  simp only [Act.put, List.setIfInBounds_toArray, List.set_cons_zero, List.set_cons_succ]
  have hB7 := hB6.trans (hw7.mono hB6.size)
  have hT7 := there_below hT6 hw7 (by omega)
  have hs7 := hw7.size
  have hown6' : w7.ownsRow w5.heap.size 5 1 v6 k2.length (v8 k2) := by rw [hl2]; exact owns_below hown6 hw7
  obtain ⟨a7, cap7, rfl, _, _, hrow7⟩ := own_bytes hown7 hdo (by rw [hdl]; unfold maxLen; omega)
  obtain ⟨a8, cap8, w8, hr8, hown8, hrow8, _, _, hgr8⟩ := append_bytes (cap := cap7) 51 (by omega) hown6' ho2 hrow7 (by omega)
  have hB8a : Below w5.heap.size w7 w8 := (Below.refl _ _).grown hgr8 (by omega) (own_low hown6')
  have hB8 : Below w.heap.size w w8 := hB7.trans (hB8a.mono hB5.size)
  have hT8 := there_below hT7 hB8a (by omega)
  have hs8 := hB8a.size
  have hS : (fun W : World => W.rangeAt I 0 (v8 d)) w8 := range_below hS hB8a (by omega)
  refine hs_run (i := 4) (d := some 15) (v := .slice a8 (k2 ++ d).length cap8) (w' := w8) rfl (by kernel_rfl) (by rfl) (exec_append rfl rfl rfl hr8) rfl hS ?_
  simp only [Act.put, List.setIfInBounds_toArray, List.set_cons_zero, List.set_cons_succ]
  have c9 := refSum_any a8 cap8 (k2 ++ d) w8 hrow8 (by rw [List.length_append]; omega)
  obtain ⟨m, hm⟩ : ∃ m, Hid (sha (k2 ++ d) = m) := ⟨_, rfl⟩
  have hml : m.length = 32 := by rw [← hm.out]; exact sha_length _
  rw [hm.out] at c9 HM
  clear hr8
  generalize (k2 ++ d).length = n8 at *
  refine hs_call (i := 5) (d := some 16) rfl (by kernel_rfl) (by rfl) (by go_simp; first | done | exact ⟨rfl, rfl⟩ | with_reducible rfl) rfl ?_
  refine (c9).mono ?_
  rintro e' w9 ⟨rfl, hw9⟩
  have hS : (fun W : World => W.rangeAt I 0 (v8 d)) w9 := range_below hS hw9 (by omega)
  refine ⟨_, rfl, hS, ?_⟩
  simp only [Act.put, List.setIfInBounds_toArray, List.set_cons_zero, List.set_cons_succ]
  have hB9 := hB8.trans (hw9.mono hB8.size)
  have hT9 := there_below hT8 hw9 (by omega)
  have hT9' : w9.there w.heap.size 0 (v8 m).toArray.size := by
    have e : (v8 m).toArray.size = 32 := by rw [List.size_toArray, v8_length, hml]
    rw [e]; exact hT9
  have hst := run_storeVar_mid (P := Tryd.prog) w9 w.heap.size 0 54 (v8 m).toArray hT9' (info24 m hml) (all_oneCell_toArray (v8_one m))
  have hSn := World.rangeAt_setCells_apart hS w.heap.size 0 (v8 m) (Or.inl (by omega))
  refine hs_store (i := 6) (w' := w9.setCells w.heap.size 0 (v8 m)) rfl (by kernel_rfl) (by rfl) (exec_store rfl rfl rfl hst) rfl hSn ?_
  refine hs_done (by kernel_rfl) ?_
  have hRr := World.rangeAt_setCells_same w9 w.heap.size 0 (v8 m) (by rw [v8_length, hml]; exact hT9)
  have hBl := below_sets (Nat.le_refl w.heap.size) (v8 m) 0 w9 hB9
  have hrs := run_loadVar_mid (P := Tryd.prog) (w9.setCells w.heap.size 0 (v8 m)) w.heap.size 0 54 (v8 m) _ hRr Tryd.underlying54 rfl (by simpa using info24 m hml)
  go_wp2
  refine bodyPost_ret (v := .agg (v8 m).toArray) (by simp [results, Tryd.results50, asAddr, hrs]) rfl ⟨by rw [HM.out], hBl⟩
end Go.Proofs.YtbfhpgneaklgoaaDoor
