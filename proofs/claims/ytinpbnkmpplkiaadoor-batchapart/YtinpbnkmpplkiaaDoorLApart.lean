/- The law BatchApart: its walk. Unlike batches that may be read again have unlike bytes, and unlike digests, as long as those of unlike bytes are. Conditions: none beyond the row's own; the card ties the tables 'starts' and 'roots' of package digest to the program's text (of the pruned copy of the project). -/
import Derived.Test.YtinpbnkmpplkiaaDoorJBa
import Derived.Test.YtinpbnkmpplkiaaDoorFrameR
namespace Go.Proofs.YtinpbnkmpplkiaaDoor
open Go.RowKit
open Sha Tal
section
variable {P : Program} {ops : Array Oper} {Q : Exit → Act → World → Prop}
theorem hs_more {S S' : World → Prop} (h : ∀ w, S' w → S w) : ∀ (fuel : Nat) (listed : Array Bool) (a : Act) (w : World), HeldS P ops Q S' fuel listed a w → HeldS P ops Q S fuel listed a w
  | 0, _, _, _, k => k
  | fuel + 1, _, _, _, k => ⟨k.1, fun i hi => wpOp_mono (fun a' w' k' => ⟨h w' k'.1, hs_more h fuel _ a' w' k'.2⟩) (k.2 i hi)⟩
end
theorem strOf_list (zs : List Int) : (strOf zs).toList = zs.map (fun n => UInt8.ofNat n.toNat) := by
  have key : ∀ (zs : List Int) (r : ByteArray), (zs.foldl (fun r n => r.push (UInt8.ofNat n.toNat)) r).data.toList = r.data.toList ++ zs.map (fun n => UInt8.ofNat n.toNat) := by
    intro zs
    induction zs with
    | nil => intro r; simp
    | cons z zs ih => intro r; rw [List.foldl_cons, ih]; simp [ByteArray.push]
  rw [ByteArray.toList_eq]
  unfold strOf
  rw [key]
  rfl
theorem strOf_inj : ∀ {xs ys : List Int}, (∀ z ∈ xs, 0 ≤ z ∧ z < 256) → (∀ z ∈ ys, 0 ≤ z ∧ z < 256) → (strOf xs).toList = (strOf ys).toList → xs = ys := by
  intro xs ys hx hy h
  rw [strOf_list, strOf_list] at h
  have hl : xs.length = ys.length := by simpa using congrArg List.length h
  apply List.ext_getElem hl
  intro i h1 h2
  have := congrArg (·[i]?) h
  simp only [List.getElem?_map, List.getElem?_eq_getElem h1, List.getElem?_eq_getElem h2, Option.map_some, Option.some.injEq] at this
  have a1 := hx _ (List.getElem_mem h1)
  have a2 := hy _ (List.getElem_mem h2)
  have := congrArg UInt8.toNat this
  simp only [UInt8.toNat_ofNat'] at this
  omega
theorem bytes_ok {r : Rq} (h : r.ok) (hs : r.s.size ≤ 4000) : ∀ z ∈ r.bytes, 0 ≤ z ∧ z < 256 := by
  have h1 := h.ch
  have h2 := h.nh
  intro z hz
  unfold Rq.bytes textL at hz
  simp only [List.mem_append] at hz
  rcases hz with ((hz | hz) | (hz | hz)) | hz
  · exact putL_byte r.c (by omega) z hz
  · exact putL_byte r.n (by omega) z hz
  · exact putL_byte (r.s.size : Int) (by omega) z hz
  · exact strL_byte r.s z hz
  · exact h.tb z hz
theorem batL_ok (q : Bool) (rs : List Rq) (hn : rs.length ≤ 200) (h1 : ∀ r ∈ rs, r.ok) (h2 : ∀ r ∈ rs, r.s.size ≤ 4000) : ∀ z ∈ batL q rs, 0 ≤ z ∧ z < 256 := by
  intro z hz
  unfold batL at hz
  cases q with
  | true => exact putL_byte 0 (by omega) z hz
  | false =>
    simp only [Bool.false_eq_true, if_false, List.mem_append] at hz
    rcases hz with hz | hz
    · exact putL_byte ((rs.length : Int) + 1) (by omega) z hz
    · obtain ⟨r, hr, hz⟩ := List.mem_flatMap.1 hz
      exact bytes_ok (h1 r hr) (h2 r hr) z hz
theorem two_bats (w : World) (q : Bool) (a : Option Addr) (cap : Nat) (rs : List Rq) (q' : Bool) (a' : Option Addr) (cap' : Nat) (rs' : List Rq) (h : (Bat.mk q a cap rs).at w) (h' : (Bat.mk q' a' cap' rs').at w) :
    BatsAt (w.alloc (.cells #[.bool q, .slice a rs.length cap, .bool q', .slice a' rs'.length cap'] 24)) w.heap.size [⟨q, a, cap, rs⟩, ⟨q', a', cap', rs'⟩] := by
  have hb : Below w.heap.size w (w.alloc (.cells #[.bool q, .slice a rs.length cap, .bool q', .slice a' rs'.length cap'] 24)) := (Below.refl _ _).alloc (Nat.le_refl _) _
  refine ⟨by simp, fun x hx => ?_, by simp, range_new w #[.bool q, .slice a rs.length cap, .bool q', .slice a' rs'.length cap'] 24⟩
  rcases List.mem_cons.1 hx with rfl | hx
  · exact h.below hb
  · obtain rfl := List.mem_singleton.1 hx
    exact h'.below hb
theorem wtR_le : ∀ (rs : List Rq), rs.length * 20 ≤ wtR rs ∧ ∀ r ∈ rs, r.s.size ≤ wtR rs
  | [] => ⟨by simp [wtR], by simp⟩
  | r :: rs => by
    have ih := wtR_le rs
    have e : wtR (r :: rs) = 20 + r.s.size + wtR rs := by simp [wtR]
    refine ⟨by rw [e]; simp; omega, fun x hx => ?_⟩
    rw [e]
    rcases List.mem_cons.1 hx with rfl | hx
    · omega
    · have := ih.2 x hx; omega
theorem wt2 {q : Bool} {a : Option Addr} {cap : Nat} {rs : List Rq} {q' : Bool} {a' : Option Addr} {cap' : Nat} {rs' : List Rq} (h : wt [⟨q, a, cap, rs⟩, ⟨q', a', cap', rs'⟩] ≤ 4000) :
    (rs.length ≤ 200 ∧ ∀ r ∈ rs, r.s.size ≤ 4000) ∧ (rs'.length ≤ 200 ∧ ∀ r ∈ rs', r.s.size ≤ 4000) := by
  have e : wt [⟨q, a, cap, rs⟩, ⟨q', a', cap', rs'⟩] = 5 + wtR rs + (5 + wtR rs') := by simp [wt]
  rw [e] at h
  have h1 := wtR_le rs
  have h2 := wtR_le rs'
  exact ⟨⟨by omega, fun r hr => by have := h1.2 r hr; omega⟩, ⟨by omega, fun r hr => by have := h2.2 r hr; omega⟩⟩
theorem BatBox.drew {w : World} {b : Nat} {q : Bool} {a : Option Addr} {n cap : Nat} (h : BatBox w b q a n cap) : BatBox w.drew b q a n cap :=
  ⟨h.1, h.2.1, h.2.2.1, (World.rangeAt_drew _ _ _ _).2 h.2.2.2⟩
set_option maxRecDepth 100000 in
set_option maxHeartbeats 4000000 in
theorem apart_walk (q : Bool) (a : Option Addr) (cap : Nat) (rs : List Rq) (q' : Bool) (a' : Option Addr) (cap' : Nat) (rs' : List Rq) (w : World) (hG : Glob w) (h : ReqsAt w a rs) (hc : rs.length ≤ cap) (hm : cap ≤ maxLen) (h' : ReqsAt w a' rs') (hc' : rs'.length ≤ cap') (hm' : cap' ≤ maxLen) :
    Calls Tryd.prog 7 #[batV q a rs.length cap, batV q' a' rs'.length cap'] w fun e w' => e = .returned (.bool true) ∧ Below w.heap.size w w' := by
  have cp1 := fun w0 h0 => plain_any q a cap rs w0 h0
  have cp2 := fun w0 h0 => plain_any q' a' cap' rs' w0 h0
  have csm := fun w0 h0 h1 => refBSame_any q a cap rs q' a' cap' rs' w0 h0 h1
  unfold batV at cp1 cp2 csm ⊢
  have hB1 : Below w.heap.size w ((w.alloc (.cells #[.bool q, .slice a rs.length cap] 24)).alloc (.cells #[.bool q', .slice a' rs'.length cap'] 24)) := ((Below.refl _ _).alloc (Nat.le_refl _) _).alloc (by simp) _
  have hbx := BatBox.mk w q a rs.length cap
  have hby := BatBox.mk (w.alloc (.cells #[.bool q, .slice a rs.length cap] 24)) q' a' rs'.length cap'
  have hbx := hbx.below ((Below.refl _ _).alloc (Nat.le_refl _) (.cells #[.bool q', .slice a' rs'.length cap'] 24))
  rw [World.size_alloc] at hby
  have hib := batI q a rs.length cap
  have hib' := batI q' a' rs'.length cap'
  go_enter Tryd.func7, Tryd.ntmps7
  go_upto_region 1 with fail
  go_name_world w1 hw1
  rw [hw1] at hB1 hbx hby
  clear hw1
  obtain ⟨X, hXe⟩ : ∃ X, Hid (w.heap.size = X) := ⟨_, hide rfl⟩
  obtain ⟨Y, hYe⟩ : ∃ Y, Hid (w.heap.size + 1 = Y) := ⟨_, hide rfl⟩
  rw [hYe.out] at hby ⊢
  rw [hXe.out] at hbx ⊢
  have hL := two_bats w1 q a cap rs q' a' cap' rs' ⟨h.below hB1, hc, hm⟩ ⟨h'.below hB1, hc', hm'⟩
  have hB2' : Below w1.heap.size w1 (w1.alloc (.cells #[.bool q, .slice a rs.length cap, .bool q', .slice a' rs'.length cap'] 24)) := (Below.refl _ _).alloc (Nat.le_refl _) _
  have hB2 := hB1.trans (hB2'.mono hB1.size)
  have hbx2 := hbx.below hB2'
  have hby2 := hby.below hB2'
  have cl := light_any w1.heap.size 2 _ _ hL
  try simp only [Act.put]
  refine wp_region_list ?_
  refine wpList_load_mid rfl 24 _ rfl _ _ rfl [.bool q, .slice a rs.length cap] _ hbx.2.2.2 Tryd.underlying24 rfl hib ?_
  refine wpList_load_mid rfl 24 _ rfl _ _ rfl [.bool q', .slice a' rs'.length cap'] _ hby.2.2.2 Tryd.underlying24 rfl hib' ?_
  clear hbx hby hL
  simp only [List.length_cons, List.length_nil, Nat.zero_add] at cl
  go_wp2_with fail
  refine cl.mono ?_
  rintro e w3 hcase
  clear cl
  generalize w1.alloc (.cells #[.bool q, .slice a rs.length cap, .bool q', .slice a' rs'.length cap'] 24) = w2 at *
  rcases hcase with ⟨rfl, hw3⟩ | ⟨rfl, hw3, hwt⟩
  · have hB3 := hB2.trans (hw3.mono hB2.size)
    go_wp2_with fail
    refine (lives7_any w3 (hG.below hB3)).mono ?_
    rintro e wz ⟨rfl, hwz⟩
    go_wp2_with fail
    go_ret
    exact ⟨rfl, (hB3).trans (hwz.mono (hB3).size)⟩
  have hB3 := hB2.trans (hw3.mono hB2.size)
  have hbx3 := hbx2.below hw3
  have hby3 := hby2.below hw3
  clear hbx2 hby2 hB2' hB2 hw3
  obtain ⟨⟨hn, hs⟩, ⟨hn', hs'⟩⟩ := wt2 hwt
  clear hwt
  obtain ⟨_, x0, x1, _⟩ := id hbx3
  obtain ⟨_, y0, y1, _⟩ := id hby3
  go_wp2_with fail
  refine (cp1 w3 (h.below hB3)).mono ?_
  rintro e wp hcase
  rcases hcase with ⟨rfl, hwp, hpl⟩ | ⟨rfl, hwp⟩
  rotate_left
  · have hBp := hB3.trans (hwp.mono hB3.size)
    clear x0 x1 y0 y1
    go_wp2_with fail
    refine (lives7_any wp (hG.below hBp)).mono ?_
    rintro e wz ⟨rfl, hwz⟩
    go_wp2_with fail
    go_ret
    exact ⟨rfl, (hBp).trans (hwz.mono (hBp).size)⟩
  have hBp := hB3.trans (hwp.mono hB3.size)
  have hbxp := hbx3.below hwp
  have hbyp := hby3.below hwp
  clear x0 x1 y0 y1 hbx3 hby3 hB3 hwp cp1
  obtain ⟨_, x0, x1, _⟩ := id hbxp
  obtain ⟨_, y0, y1, _⟩ := id hbyp
  have HPL := hide hpl
  clear hpl
  go_wp2_with fail
  refine (cp2 wp (h'.below hBp)).mono ?_
  rintro e wr hcase
  rcases hcase with ⟨rfl, hwr, hpl'⟩ | ⟨rfl, hwr⟩
  rotate_left
  · have hBr := hBp.trans (hwr.mono hBp.size)
    clear x0 x1 y0 y1
    go_wp2_with fail
    refine (lives7_any wr (hG.below hBr)).mono ?_
    rintro e wz ⟨rfl, hwz⟩
    go_wp2_with fail
    go_ret
    exact ⟨rfl, (hBr).trans (hwz.mono (hBr).size)⟩
  have hBr := hBp.trans (hwr.mono hBp.size)
  have hbxr := hbxp.below hwr
  have hbyr := hbyp.below hwr
  clear x0 x1 y0 y1 hbxp hbyp hBp hwr cp2
  obtain ⟨_, x0, x1, _⟩ := id hbxr
  obtain ⟨_, y0, y1, _⟩ := id hbyr
  have HPL' := hide hpl'
  clear hpl'
  go_wp2_with fail
  refine (csm wr (h.below hBr) (h'.below hBr)).mono ?_
  rintro e w4 ⟨hcase, hw4⟩
  have hB4 := hBr.trans (hw4.mono hBr.size)
  have hbx4 := hbxr.below hw4
  have hby4 := hbyr.below hw4
  clear x0 x1 y0 y1 hbxr hbyr hBr hw4 csm
  have cp := fun w0 h0 => bput_any none 0 [] q a cap rs w0 (nil_row w0) (by simp) h0 hn hs
  have cp' := fun w0 h0 => bput_any none 0 [] q' a' cap' rs' w0 (nil_row w0) (by simp) h0 hn' hs'
  have cd := fun w0 g0 h0 => bdig_any q a cap rs w0 g0 h0 hn hs
  have cd' := fun w0 g0 h0 => bdig_any q' a' cap' rs' w0 g0 h0 hn' hs'
  have ce := fun w0 h0 => refBdig_any q a cap rs w0 h0 hn hs
  have ce' := fun w0 h0 => refBdig_any q' a' cap' rs' w0 h0 hn' hs'
  simp only [List.nil_append, List.length_nil] at cp cp'
  unfold batV at cp cp' cd cd' ce ce'
  have lL := batL_le q rs hn h.2.1 hs
  have lL' := batL_le q' rs' hn' h'.2.1 hs'
  have hL0 := batL_pos q rs
  have hL0' := batL_pos q' rs'
  have hde := fun w0 => eqIn46 (digB q rs) (digB q' rs') (sha_length _) (sha_length _) w0
  have HI : Hid ((strOf (batL q rs)).toList = (strOf (batL q' rs')).toList → eqBat q rs q' rs') := hide (fun hh => bat_inj HPL.out HPL'.out h.2.1 h'.2.1 (strOf_inj (batL_ok q rs hn h.2.1 hs) (batL_ok q' rs' hn' h'.2.1 hs') hh))
  have HJ : Hid (eqBat q rs q' rs' → batL q rs = batL q' rs' ∧ digB q rs = digB q' rs') := hide (fun hh => by rw [hh.1, hh.2]; exact ⟨rfl, rfl⟩)
  obtain ⟨L, hLe⟩ : ∃ L, Hid (batL q rs = L) := ⟨_, hide rfl⟩
  obtain ⟨L', hLe'⟩ : ∃ L, Hid (batL q' rs' = L) := ⟨_, hide rfl⟩
  obtain ⟨D, hDe⟩ : ∃ D, Hid (digB q rs = D) := ⟨_, hide rfl⟩
  obtain ⟨D', hDe'⟩ : ∃ D, Hid (digB q' rs' = D) := ⟨_, hide rfl⟩
  rw [hLe.out] at lL hL0
  rw [hLe'.out] at lL' hL0'
  rw [hLe.out, hLe'.out] at HI HJ
  rw [hDe.out, hDe'.out] at HJ
  simp only [hLe.out, hLe'.out, hDe.out, hDe'.out] at cp cp' cd cd' ce ce' hde
  clear hLe hLe' hDe hDe' HPL HPL'
  rcases hcase with ⟨rfl, heq⟩ | ⟨rfl, hneq⟩
  · obtain ⟨hLL, hDD⟩ := HJ.out heq
    subst hLL hDD
    have hdecf : (D == D) = true := by simp
    simp only [hdecf] at hde
    clear HI HJ heq
    have hdec := hdecf
    go_wp2_with fail
    obtain ⟨w5, hw5⟩ : ∃ w5, w4.drew = w5 := ⟨_, rfl⟩
    have hB5 : Below w.heap.size w w5 := by rw [← hw5]; exact hB4.drew
    have hbx5 : BatBox w5 X q a rs.length cap := by rw [← hw5]; exact hbx4.drew
    have hby5 : BatBox w5 Y q' a' rs'.length cap' := by rw [← hw5]; exact hby4.drew
    have h5 := h.below hB5
    have h5' := h'.below hB5
    refine hs_begin (S := (Below w5.heap.size w5)) 9 rfl (by kernel_rfl) ?_
    rw [hw5]
    clear hw5
    have hS : (Below w5.heap.size w5) w5 := Below.refl _ _
    refine hs_take (i := 0) (d := some 25) (v := .agg #[.bool q, .slice a rs.length cap]) rfl (by kernel_rfl) (by kernel_rfl) (by kernel_rfl) (by rfl) (fun w' hw => exec_load rfl rfl (run_loadVar_mid (P := Tryd.prog) w' X 0 24 [.bool q, .slice a rs.length cap] _ (hbx5.below hw).2.2.2 Tryd.underlying24 rfl hib)) hS rfl ?_
    simp only [Act.put, List.setIfInBounds_toArray, List.set_cons_zero, List.set_cons_succ]
    refine hs_take (i := 3) (d := some 28) (v := .agg #[.bool q', .slice a' rs'.length cap']) rfl (by kernel_rfl) (by kernel_rfl) (by kernel_rfl) (by rfl) (fun w' hw => exec_load rfl rfl (run_loadVar_mid (P := Tryd.prog) w' Y 0 24 [.bool q', .slice a' rs'.length cap'] _ (hby5.below hw).2.2.2 Tryd.underlying24 rfl hib')) hS rfl ?_
    simp only [Act.put, List.setIfInBounds_toArray, List.set_cons_zero, List.set_cons_succ]
    refine hs_take (i := 7) (d := some 32) (v := ?_) rfl (by kernel_rfl) (by kernel_rfl) (by kernel_rfl) (by rfl) ?_ hS rfl ?_
    rotate_left
    · intro w' hw
      go_simp
      try with_reducible rfl
    simp only [Act.put, List.setIfInBounds_toArray, List.set_cons_zero, List.set_cons_succ]
    refine hs_call (i := 1) (d := some 26) rfl (by kernel_rfl) (by rfl) (by go_simp; first | done | exact ⟨rfl, rfl⟩ | with_reducible rfl) rfl ?_
    refine (cp w5 h5).mono ?_
    rintro e' w6 ⟨v6, rfl, m6, hw6⟩
    have hS : (Below w5.heap.size w5) w6 := hS.trans (hw6.mono hS.size)
    refine ⟨_, rfl, hS, ?_⟩
    simp only [Act.put, List.setIfInBounds_toArray, List.set_cons_zero, List.set_cons_succ]
    obtain ⟨a6, cap6, rfl, _, _, row6⟩ := m6.rowAt (by unfold maxLen; omega)
    refine hs_more (S' := (Below w6.heap.size w6)) (fun w0 hh => hS.trans (hh.mono hS.size)) _ _ _ _ ?_
    have hS5 := hS
    have hS : (Below w6.heap.size w6) w6 := Below.refl _ _
    have cv6 : ∀ w', (Below w6.heap.size w6) w' → (convert 39 9 (.slice a6 L.length cap6)).run Tryd.prog w' = .ok (.string (strOf L)) w' := fun w' hw' => row_conv cap6 (row6.below hw') hL0
    refine hs_take (i := 2) (d := some 27) (v := ?_) rfl (by kernel_rfl) (by kernel_rfl) (by kernel_rfl) (by rfl) ?_ hS rfl ?_
    rotate_left
    · intro w' hw
      have hc := cv6 w' hw
      go_simp
      try with_reducible rfl
    simp only [Act.put, List.setIfInBounds_toArray, List.set_cons_zero, List.set_cons_succ]
    refine hs_call (i := 4) (d := some 29) rfl (by kernel_rfl) (by rfl) (by go_simp; first | done | exact ⟨rfl, rfl⟩ | with_reducible rfl) rfl ?_
    refine (cp' w6 (h5'.below hS5)).mono ?_
    rintro e' w7 ⟨v7, rfl, m7, hw7⟩
    have hS : (Below w6.heap.size w6) w7 := hS.trans (hw7.mono hS.size)
    refine ⟨_, rfl, hS, ?_⟩
    simp only [Act.put, List.setIfInBounds_toArray, List.set_cons_zero, List.set_cons_succ]
    obtain ⟨a7, cap7, rfl, _, _, row7⟩ := m7.rowAt (by unfold maxLen; omega)
    refine hs_more (S' := (Below w7.heap.size w7)) (fun w0 hh => hS.trans (hh.mono hS.size)) _ _ _ _ ?_
    have hS6 := hS
    have hS : (Below w7.heap.size w7) w7 := Below.refl _ _
    have cv7 : ∀ w', (Below w7.heap.size w7) w' → (convert 39 9 (.slice a7 L.length cap7)).run Tryd.prog w' = .ok (.string (strOf L)) w' := fun w' hw' => row_conv cap7 (row7.below hw') hL0'
    refine hs_take (i := 5) (d := some 30) (v := ?_) rfl (by kernel_rfl) (by kernel_rfl) (by kernel_rfl) (by rfl) ?_ hS rfl ?_
    rotate_left
    · intro w' hw
      have hc := cv7 w' hw
      go_simp
      try with_reducible rfl
    simp only [Act.put, List.setIfInBounds_toArray, List.set_cons_zero, List.set_cons_succ]
    refine hs_take (i := 6) (d := some 31) (v := .bool true) rfl (by kernel_rfl) (by kernel_rfl) (by kernel_rfl) (by rfl) (fun w' hw => by go_simp) hS rfl ?_
    simp only [Act.put, List.setIfInBounds_toArray, List.set_cons_zero, List.set_cons_succ]
    refine hs_take (i := 8) (d := some 33) (v := .bool false) rfl (by kernel_rfl) (by kernel_rfl) (by kernel_rfl) (by rfl) (fun w' hw => by go_simp) hS rfl ?_
    simp only [Act.put, List.setIfInBounds_toArray, List.set_cons_zero, List.set_cons_succ]
    refine hs_done (by kernel_rfl) ?_
    have hB8 := hB5.trans (hS5.mono hB5.size)
    have hB8 := hB8.trans (hS6.mono hB8.size)
    have hB8 := hB8.trans (hS.mono hB8.size)
    have hbx8 := ((hbx5.below hS5).below hS6).below hS
    have hby8 := ((hby5.below hS5).below hS6).below hS
    clear cv6 cv7 row6 row7 m6 m7 hw6 hw7 hS hS5 hS6 hbx5 hby5 hB5 hbx4 hby4 hB4 h5 h5'
    go_wp2_with fail
    obtain ⟨w9, hw9⟩ : ∃ w9, w7.drew = w9 := ⟨_, rfl⟩
    have hB9 : Below w.heap.size w w9 := by rw [← hw9]; exact hB8.drew
    have hbx9 : BatBox w9 X q a rs.length cap := by rw [← hw9]; exact hbx8.drew
    have hby9 : BatBox w9 Y q' a' rs'.length cap' := by rw [← hw9]; exact hby8.drew
    have h9 := h.below hB9
    have h9' := h'.below hB9
    refine hs_begin (S := (Below w9.heap.size w9)) 26 rfl (by kernel_rfl) ?_
    rw [hw9]
    clear hw9
    have hS : (Below w9.heap.size w9) w9 := Below.refl _ _
    refine hs_take (i := 0) (d := some 34) (v := .agg #[.bool q, .slice a rs.length cap]) rfl (by kernel_rfl) (by kernel_rfl) (by kernel_rfl) (by rfl) (fun w' hw => exec_load rfl rfl (run_loadVar_mid (P := Tryd.prog) w' X 0 24 [.bool q, .slice a rs.length cap] _ (hbx9.below hw).2.2.2 Tryd.underlying24 rfl hib)) hS rfl ?_
    simp only [Act.put, List.setIfInBounds_toArray, List.set_cons_zero, List.set_cons_succ]
    refine hs_take (i := 2) (d := some 36) (v := .agg #[.bool q', .slice a' rs'.length cap']) rfl (by kernel_rfl) (by kernel_rfl) (by kernel_rfl) (by rfl) (fun w' hw => exec_load rfl rfl (run_loadVar_mid (P := Tryd.prog) w' Y 0 24 [.bool q', .slice a' rs'.length cap'] _ (hby9.below hw).2.2.2 Tryd.underlying24 rfl hib')) hS rfl ?_
    simp only [Act.put, List.setIfInBounds_toArray, List.set_cons_zero, List.set_cons_succ]
    refine hs_take (i := 5) (d := some 39) (v := .agg #[.bool q, .slice a rs.length cap]) rfl (by kernel_rfl) (by kernel_rfl) (by kernel_rfl) (by rfl) (fun w' hw => exec_load rfl rfl (run_loadVar_mid (P := Tryd.prog) w' X 0 24 [.bool q, .slice a rs.length cap] _ (hbx9.below hw).2.2.2 Tryd.underlying24 rfl hib)) hS rfl ?_
    simp only [Act.put, List.setIfInBounds_toArray, List.set_cons_zero, List.set_cons_succ]
    refine hs_take (i := 7) (d := some 41) (v := .agg #[.bool q', .slice a' rs'.length cap']) rfl (by kernel_rfl) (by kernel_rfl) (by kernel_rfl) (by rfl) (fun w' hw => exec_load rfl rfl (run_loadVar_mid (P := Tryd.prog) w' Y 0 24 [.bool q', .slice a' rs'.length cap'] _ (hby9.below hw).2.2.2 Tryd.underlying24 rfl hib')) hS rfl ?_
    simp only [Act.put, List.setIfInBounds_toArray, List.set_cons_zero, List.set_cons_succ]
    refine hs_call (i := 1) (d := some 35) rfl (by kernel_rfl) (by rfl) (by go_simp; first | done | exact ⟨rfl, rfl⟩ | with_reducible rfl) rfl ?_
    refine (cd w9 (hG.below hB9) h9).mono ?_
    rintro e' w10 ⟨rfl, hw10⟩
    have hS : (Below w9.heap.size w9) w10 := hS.trans (hw10.mono hS.size)
    refine ⟨_, rfl, hS, ?_⟩
    simp only [Act.put, List.setIfInBounds_toArray, List.set_cons_zero, List.set_cons_succ]
    refine hs_call (i := 3) (d := some 37) rfl (by kernel_rfl) (by rfl) (by go_simp; first | done | exact ⟨rfl, rfl⟩ | with_reducible rfl) rfl ?_
    refine (cd' w10 (hG.below (hB9.trans (hS.mono hB9.size))) (h9'.below hS)).mono ?_
    rintro e' w11 ⟨rfl, hw11⟩
    have hS : (Below w9.heap.size w9) w11 := hS.trans (hw11.mono hS.size)
    refine ⟨_, rfl, hS, ?_⟩
    simp only [Act.put, List.setIfInBounds_toArray, List.set_cons_zero, List.set_cons_succ]
    refine hs_take (i := 4) (d := some 38) (v := .bool true) rfl (by kernel_rfl) (by kernel_rfl) (by kernel_rfl) (by rfl) (fun w' hw => by have hc := hde w'; go_simp) hS rfl ?_
    simp only [Act.put, List.setIfInBounds_toArray, List.set_cons_zero, List.set_cons_succ]
    refine hs_call (i := 6) (d := some 40) rfl (by kernel_rfl) (by rfl) (by go_simp; first | done | exact ⟨rfl, rfl⟩ | with_reducible rfl) rfl ?_
    refine (ce w11 (h9.below hS)).mono ?_
    rintro e' w12 ⟨rfl, hw12⟩
    have hS : (Below w9.heap.size w9) w12 := hS.trans (hw12.mono hS.size)
    refine ⟨_, rfl, hS, ?_⟩
    simp only [Act.put, List.setIfInBounds_toArray, List.set_cons_zero, List.set_cons_succ]
    refine hs_call (i := 8) (d := some 42) rfl (by kernel_rfl) (by rfl) (by go_simp; first | done | exact ⟨rfl, rfl⟩ | with_reducible rfl) rfl ?_
    refine (ce' w12 (h9'.below hS)).mono ?_
    rintro e' w13 ⟨rfl, hw13⟩
    have hS : (Below w9.heap.size w9) w13 := hS.trans (hw13.mono hS.size)
    refine ⟨_, rfl, hS, ?_⟩
    simp only [Act.put, List.setIfInBounds_toArray, List.set_cons_zero, List.set_cons_succ]
    refine hs_take (i := 9) (d := some 43) (v := .bool true) rfl (by kernel_rfl) (by kernel_rfl) (by kernel_rfl) (by rfl) (fun w' hw => by have hc := hde w'; go_simp) hS rfl ?_
    simp only [Act.put, List.setIfInBounds_toArray, List.set_cons_zero, List.set_cons_succ]
    refine hs_take (i := 10) (d := some 44) (v := .bool true) rfl (by kernel_rfl) (by kernel_rfl) (by kernel_rfl) (by rfl) (fun w' hw => by go_simp) hS rfl ?_
    simp only [Act.put, List.setIfInBounds_toArray, List.set_cons_zero, List.set_cons_succ]
    refine hs_take (i := 11) (d := some 45) (v := ?_) rfl (by kernel_rfl) (by kernel_rfl) (by kernel_rfl) (by rfl) ?_ hS rfl ?_
    rotate_left
    · intro w' hw
      go_simp
      try with_reducible rfl
    simp only [Act.put, List.setIfInBounds_toArray, List.set_cons_zero, List.set_cons_succ]
    refine hs_take (i := 12) (d := some 46) (v := ?_) rfl (by kernel_rfl) (by kernel_rfl) (by kernel_rfl) (by rfl) ?_ hS rfl ?_
    rotate_left
    · intro w' hw
      go_simp
      try with_reducible rfl
    simp only [Act.put, List.setIfInBounds_toArray, List.set_cons_zero, List.set_cons_succ]
    refine hs_take (i := 13) (d := some 47) (v := ?_) rfl (by kernel_rfl) (by kernel_rfl) (by kernel_rfl) (by rfl) ?_ hS rfl ?_
    rotate_left
    · intro w' hw
      go_simp
      try with_reducible rfl
    simp only [Act.put, List.setIfInBounds_toArray, List.set_cons_zero, List.set_cons_succ]
    refine hs_take (i := 14) (d := some 48) (v := ?_) rfl (by kernel_rfl) (by kernel_rfl) (by kernel_rfl) (by rfl) ?_ hS rfl ?_
    rotate_left
    · intro w' hw
      go_simp
      try with_reducible rfl
    simp only [Act.put, List.setIfInBounds_toArray, List.set_cons_zero, List.set_cons_succ]
    refine hs_take (i := 15) (d := some 49) (v := .agg #[.bool q, .slice a rs.length cap]) rfl (by kernel_rfl) (by kernel_rfl) (by kernel_rfl) (by rfl) (fun w' hw => exec_load rfl rfl (run_loadVar_mid (P := Tryd.prog) w' X 0 24 [.bool q, .slice a rs.length cap] _ (hbx9.below hw).2.2.2 Tryd.underlying24 rfl hib)) hS rfl ?_
    simp only [Act.put, List.setIfInBounds_toArray, List.set_cons_zero, List.set_cons_succ]
    refine hs_take (i := 17) (d := some 51) (v := .agg #[.bool q', .slice a' rs'.length cap']) rfl (by kernel_rfl) (by kernel_rfl) (by kernel_rfl) (by rfl) (fun w' hw => exec_load rfl rfl (run_loadVar_mid (P := Tryd.prog) w' Y 0 24 [.bool q', .slice a' rs'.length cap'] _ (hby9.below hw).2.2.2 Tryd.underlying24 rfl hib')) hS rfl ?_
    simp only [Act.put, List.setIfInBounds_toArray, List.set_cons_zero, List.set_cons_succ]
    refine hs_call (i := 16) (d := some 50) rfl (by kernel_rfl) (by rfl) (by go_simp; first | done | exact ⟨rfl, rfl⟩ | with_reducible rfl) rfl ?_
    refine (cd w13 (hG.below (hB9.trans (hS.mono hB9.size))) (h9.below hS)).mono ?_
    rintro e' w14 ⟨rfl, hw14⟩
    have hS : (Below w9.heap.size w9) w14 := hS.trans (hw14.mono hS.size)
    refine ⟨_, rfl, hS, ?_⟩
    simp only [Act.put, List.setIfInBounds_toArray, List.set_cons_zero, List.set_cons_succ]
    refine hs_call (i := 18) (d := some 52) rfl (by kernel_rfl) (by rfl) (by go_simp; first | done | exact ⟨rfl, rfl⟩ | with_reducible rfl) rfl ?_
    refine (cd' w14 (hG.below (hB9.trans (hS.mono hB9.size))) (h9'.below hS)).mono ?_
    rintro e' w15 ⟨rfl, hw15⟩
    have hS : (Below w9.heap.size w9) w15 := hS.trans (hw15.mono hS.size)
    refine ⟨_, rfl, hS, ?_⟩
    simp only [Act.put, List.setIfInBounds_toArray, List.set_cons_zero, List.set_cons_succ]
    refine hs_take (i := 19) (d := some 53) (v := .bool true) rfl (by kernel_rfl) (by kernel_rfl) (by kernel_rfl) (by rfl) (fun w' hw => by have hc := hde w'; go_simp) hS rfl ?_
    simp only [Act.put, List.setIfInBounds_toArray, List.set_cons_zero, List.set_cons_succ]
    refine hs_take (i := 20) (d := some 54) (v := .bool true) rfl (by kernel_rfl) (by kernel_rfl) (by kernel_rfl) (by rfl) (fun w' hw => by go_simp) hS rfl ?_
    simp only [Act.put, List.setIfInBounds_toArray, List.set_cons_zero, List.set_cons_succ]
    refine hs_take (i := 21) (d := some 55) (v := .bool true) rfl (by kernel_rfl) (by kernel_rfl) (by kernel_rfl) (by rfl) (fun w' hw => by go_simp) hS rfl ?_
    simp only [Act.put, List.setIfInBounds_toArray, List.set_cons_zero, List.set_cons_succ]
    refine hs_take (i := 22) (d := some 56) (v := ?_) rfl (by kernel_rfl) (by kernel_rfl) (by kernel_rfl) (by rfl) ?_ hS rfl ?_
    rotate_left
    · intro w' hw
      go_simp
      try with_reducible rfl
    simp only [Act.put, List.setIfInBounds_toArray, List.set_cons_zero, List.set_cons_succ]
    refine hs_call (i := 23) (d := some 57) rfl (by kernel_rfl) (by rfl) (by go_simp; first | done | exact ⟨rfl, rfl⟩ | with_reducible rfl) rfl ?_
    refine (lives7_any w15 (hG.below (hB9.trans (hS.mono hB9.size)))).mono ?_
    rintro e' w16 ⟨rfl, hw16⟩
    have hS : (Below w9.heap.size w9) w16 := hS.trans (hw16.mono hS.size)
    refine ⟨_, rfl, hS, ?_⟩
    simp only [Act.put, List.setIfInBounds_toArray, List.set_cons_zero, List.set_cons_succ]
    refine hs_take (i := 24) (d := some 58) (v := .bool true) rfl (by kernel_rfl) (by kernel_rfl) (by kernel_rfl) (by rfl) (fun w' hw => by go_simp) hS rfl ?_
    simp only [Act.put, List.setIfInBounds_toArray, List.set_cons_zero, List.set_cons_succ]
    refine hs_take (i := 25) (d := some 4) (v := ?_) rfl (by kernel_rfl) (by kernel_rfl) (by kernel_rfl) (by rfl) ?_ hS rfl ?_
    rotate_left
    · intro w' hw
      go_simp
      try with_reducible rfl
    simp only [Act.put, List.setIfInBounds_toArray, List.set_cons_zero, List.set_cons_succ]
    refine hs_done (by kernel_rfl) ?_
    have hfin := hB9.trans (hS.mono hB9.size)
    go_wp2_with fail
    go_ret
    exact ⟨rfl, hfin⟩
  · have hdecf : ¬ (strOf L).toList = (strOf L').toList := fun hh => hneq (HI.out hh)
    clear HI HJ hneq
    have hdec := hdecf
    go_wp2_with fail
    obtain ⟨w5, hw5⟩ : ∃ w5, w4.drew = w5 := ⟨_, rfl⟩
    have hB5 : Below w.heap.size w w5 := by rw [← hw5]; exact hB4.drew
    have hbx5 : BatBox w5 X q a rs.length cap := by rw [← hw5]; exact hbx4.drew
    have hby5 : BatBox w5 Y q' a' rs'.length cap' := by rw [← hw5]; exact hby4.drew
    have h5 := h.below hB5
    have h5' := h'.below hB5
    refine hs_begin (S := (Below w5.heap.size w5)) 9 rfl (by kernel_rfl) ?_
    rw [hw5]
    clear hw5
    have hS : (Below w5.heap.size w5) w5 := Below.refl _ _
    refine hs_take (i := 0) (d := some 25) (v := .agg #[.bool q, .slice a rs.length cap]) rfl (by kernel_rfl) (by kernel_rfl) (by kernel_rfl) (by rfl) (fun w' hw => exec_load rfl rfl (run_loadVar_mid (P := Tryd.prog) w' X 0 24 [.bool q, .slice a rs.length cap] _ (hbx5.below hw).2.2.2 Tryd.underlying24 rfl hib)) hS rfl ?_
    simp only [Act.put, List.setIfInBounds_toArray, List.set_cons_zero, List.set_cons_succ]
    refine hs_take (i := 3) (d := some 28) (v := .agg #[.bool q', .slice a' rs'.length cap']) rfl (by kernel_rfl) (by kernel_rfl) (by kernel_rfl) (by rfl) (fun w' hw => exec_load rfl rfl (run_loadVar_mid (P := Tryd.prog) w' Y 0 24 [.bool q', .slice a' rs'.length cap'] _ (hby5.below hw).2.2.2 Tryd.underlying24 rfl hib')) hS rfl ?_
    simp only [Act.put, List.setIfInBounds_toArray, List.set_cons_zero, List.set_cons_succ]
    refine hs_take (i := 7) (d := some 32) (v := ?_) rfl (by kernel_rfl) (by kernel_rfl) (by kernel_rfl) (by rfl) ?_ hS rfl ?_
    rotate_left
    · intro w' hw
      go_simp
      try with_reducible rfl
    simp only [Act.put, List.setIfInBounds_toArray, List.set_cons_zero, List.set_cons_succ]
    refine hs_call (i := 1) (d := some 26) rfl (by kernel_rfl) (by rfl) (by go_simp; first | done | exact ⟨rfl, rfl⟩ | with_reducible rfl) rfl ?_
    refine (cp w5 h5).mono ?_
    rintro e' w6 ⟨v6, rfl, m6, hw6⟩
    have hS : (Below w5.heap.size w5) w6 := hS.trans (hw6.mono hS.size)
    refine ⟨_, rfl, hS, ?_⟩
    simp only [Act.put, List.setIfInBounds_toArray, List.set_cons_zero, List.set_cons_succ]
    obtain ⟨a6, cap6, rfl, _, _, row6⟩ := m6.rowAt (by unfold maxLen; omega)
    refine hs_more (S' := (Below w6.heap.size w6)) (fun w0 hh => hS.trans (hh.mono hS.size)) _ _ _ _ ?_
    have hS5 := hS
    have hS : (Below w6.heap.size w6) w6 := Below.refl _ _
    have cv6 : ∀ w', (Below w6.heap.size w6) w' → (convert 39 9 (.slice a6 L.length cap6)).run Tryd.prog w' = .ok (.string (strOf L)) w' := fun w' hw' => row_conv cap6 (row6.below hw') hL0
    refine hs_take (i := 2) (d := some 27) (v := ?_) rfl (by kernel_rfl) (by kernel_rfl) (by kernel_rfl) (by rfl) ?_ hS rfl ?_
    rotate_left
    · intro w' hw
      have hc := cv6 w' hw
      go_simp
      try with_reducible rfl
    simp only [Act.put, List.setIfInBounds_toArray, List.set_cons_zero, List.set_cons_succ]
    refine hs_call (i := 4) (d := some 29) rfl (by kernel_rfl) (by rfl) (by go_simp; first | done | exact ⟨rfl, rfl⟩ | with_reducible rfl) rfl ?_
    refine (cp' w6 (h5'.below hS5)).mono ?_
    rintro e' w7 ⟨v7, rfl, m7, hw7⟩
    have hS : (Below w6.heap.size w6) w7 := hS.trans (hw7.mono hS.size)
    refine ⟨_, rfl, hS, ?_⟩
    simp only [Act.put, List.setIfInBounds_toArray, List.set_cons_zero, List.set_cons_succ]
    obtain ⟨a7, cap7, rfl, _, _, row7⟩ := m7.rowAt (by unfold maxLen; omega)
    refine hs_more (S' := (Below w7.heap.size w7)) (fun w0 hh => hS.trans (hh.mono hS.size)) _ _ _ _ ?_
    have hS6 := hS
    have hS : (Below w7.heap.size w7) w7 := Below.refl _ _
    have cv7 : ∀ w', (Below w7.heap.size w7) w' → (convert 39 9 (.slice a7 L'.length cap7)).run Tryd.prog w' = .ok (.string (strOf L')) w' := fun w' hw' => row_conv cap7 (row7.below hw') hL0'
    refine hs_take (i := 5) (d := some 30) (v := ?_) rfl (by kernel_rfl) (by kernel_rfl) (by kernel_rfl) (by rfl) ?_ hS rfl ?_
    rotate_left
    · intro w' hw
      have hc := cv7 w' hw
      go_simp
      try with_reducible rfl
    simp only [Act.put, List.setIfInBounds_toArray, List.set_cons_zero, List.set_cons_succ]
    refine hs_take (i := 6) (d := some 31) (v := .bool false) rfl (by kernel_rfl) (by kernel_rfl) (by kernel_rfl) (by rfl) (fun w' hw => by go_simp) hS rfl ?_
    simp only [Act.put, List.setIfInBounds_toArray, List.set_cons_zero, List.set_cons_succ]
    refine hs_take (i := 8) (d := some 33) (v := .bool false) rfl (by kernel_rfl) (by kernel_rfl) (by kernel_rfl) (by rfl) (fun w' hw => by go_simp) hS rfl ?_
    simp only [Act.put, List.setIfInBounds_toArray, List.set_cons_zero, List.set_cons_succ]
    refine hs_done (by kernel_rfl) ?_
    have hB8 := hB5.trans (hS5.mono hB5.size)
    have hB8 := hB8.trans (hS6.mono hB8.size)
    have hB8 := hB8.trans (hS.mono hB8.size)
    have hbx8 := ((hbx5.below hS5).below hS6).below hS
    have hby8 := ((hby5.below hS5).below hS6).below hS
    clear cv6 cv7 row6 row7 m6 m7 hw6 hw7 hS hS5 hS6 hbx5 hby5 hB5 hbx4 hby4 hB4 h5 h5'
    go_wp2_with fail
    obtain ⟨w9, hw9⟩ : ∃ w9, w7.drew = w9 := ⟨_, rfl⟩
    have hB9 : Below w.heap.size w w9 := by rw [← hw9]; exact hB8.drew
    have hbx9 : BatBox w9 X q a rs.length cap := by rw [← hw9]; exact hbx8.drew
    have hby9 : BatBox w9 Y q' a' rs'.length cap' := by rw [← hw9]; exact hby8.drew
    have h9 := h.below hB9
    have h9' := h'.below hB9
    refine hs_begin (S := (Below w9.heap.size w9)) 26 rfl (by kernel_rfl) ?_
    rw [hw9]
    clear hw9
    have hS : (Below w9.heap.size w9) w9 := Below.refl _ _
    refine hs_take (i := 0) (d := some 34) (v := .agg #[.bool q, .slice a rs.length cap]) rfl (by kernel_rfl) (by kernel_rfl) (by kernel_rfl) (by rfl) (fun w' hw => exec_load rfl rfl (run_loadVar_mid (P := Tryd.prog) w' X 0 24 [.bool q, .slice a rs.length cap] _ (hbx9.below hw).2.2.2 Tryd.underlying24 rfl hib)) hS rfl ?_
    simp only [Act.put, List.setIfInBounds_toArray, List.set_cons_zero, List.set_cons_succ]
    refine hs_take (i := 2) (d := some 36) (v := .agg #[.bool q', .slice a' rs'.length cap']) rfl (by kernel_rfl) (by kernel_rfl) (by kernel_rfl) (by rfl) (fun w' hw => exec_load rfl rfl (run_loadVar_mid (P := Tryd.prog) w' Y 0 24 [.bool q', .slice a' rs'.length cap'] _ (hby9.below hw).2.2.2 Tryd.underlying24 rfl hib')) hS rfl ?_
    simp only [Act.put, List.setIfInBounds_toArray, List.set_cons_zero, List.set_cons_succ]
    refine hs_take (i := 5) (d := some 39) (v := .agg #[.bool q, .slice a rs.length cap]) rfl (by kernel_rfl) (by kernel_rfl) (by kernel_rfl) (by rfl) (fun w' hw => exec_load rfl rfl (run_loadVar_mid (P := Tryd.prog) w' X 0 24 [.bool q, .slice a rs.length cap] _ (hbx9.below hw).2.2.2 Tryd.underlying24 rfl hib)) hS rfl ?_
    simp only [Act.put, List.setIfInBounds_toArray, List.set_cons_zero, List.set_cons_succ]
    refine hs_take (i := 7) (d := some 41) (v := .agg #[.bool q', .slice a' rs'.length cap']) rfl (by kernel_rfl) (by kernel_rfl) (by kernel_rfl) (by rfl) (fun w' hw => exec_load rfl rfl (run_loadVar_mid (P := Tryd.prog) w' Y 0 24 [.bool q', .slice a' rs'.length cap'] _ (hby9.below hw).2.2.2 Tryd.underlying24 rfl hib')) hS rfl ?_
    simp only [Act.put, List.setIfInBounds_toArray, List.set_cons_zero, List.set_cons_succ]
    refine hs_call (i := 1) (d := some 35) rfl (by kernel_rfl) (by rfl) (by go_simp; first | done | exact ⟨rfl, rfl⟩ | with_reducible rfl) rfl ?_
    refine (cd w9 (hG.below hB9) h9).mono ?_
    rintro e' w10 ⟨rfl, hw10⟩
    have hS : (Below w9.heap.size w9) w10 := hS.trans (hw10.mono hS.size)
    refine ⟨_, rfl, hS, ?_⟩
    simp only [Act.put, List.setIfInBounds_toArray, List.set_cons_zero, List.set_cons_succ]
    refine hs_call (i := 3) (d := some 37) rfl (by kernel_rfl) (by rfl) (by go_simp; first | done | exact ⟨rfl, rfl⟩ | with_reducible rfl) rfl ?_
    refine (cd' w10 (hG.below (hB9.trans (hS.mono hB9.size))) (h9'.below hS)).mono ?_
    rintro e' w11 ⟨rfl, hw11⟩
    have hS : (Below w9.heap.size w9) w11 := hS.trans (hw11.mono hS.size)
    refine ⟨_, rfl, hS, ?_⟩
    simp only [Act.put, List.setIfInBounds_toArray, List.set_cons_zero, List.set_cons_succ]
    refine hs_take (i := 4) (d := some 38) (v := .bool (D == D')) rfl (by kernel_rfl) (by kernel_rfl) (by kernel_rfl) (by rfl) (fun w' hw => by have hc := hde w'; go_simp) hS rfl ?_
    simp only [Act.put, List.setIfInBounds_toArray, List.set_cons_zero, List.set_cons_succ]
    refine hs_call (i := 6) (d := some 40) rfl (by kernel_rfl) (by rfl) (by go_simp; first | done | exact ⟨rfl, rfl⟩ | with_reducible rfl) rfl ?_
    refine (ce w11 (h9.below hS)).mono ?_
    rintro e' w12 ⟨rfl, hw12⟩
    have hS : (Below w9.heap.size w9) w12 := hS.trans (hw12.mono hS.size)
    refine ⟨_, rfl, hS, ?_⟩
    simp only [Act.put, List.setIfInBounds_toArray, List.set_cons_zero, List.set_cons_succ]
    refine hs_call (i := 8) (d := some 42) rfl (by kernel_rfl) (by rfl) (by go_simp; first | done | exact ⟨rfl, rfl⟩ | with_reducible rfl) rfl ?_
    refine (ce' w12 (h9'.below hS)).mono ?_
    rintro e' w13 ⟨rfl, hw13⟩
    have hS : (Below w9.heap.size w9) w13 := hS.trans (hw13.mono hS.size)
    refine ⟨_, rfl, hS, ?_⟩
    simp only [Act.put, List.setIfInBounds_toArray, List.set_cons_zero, List.set_cons_succ]
    refine hs_take (i := 9) (d := some 43) (v := .bool (D == D')) rfl (by kernel_rfl) (by kernel_rfl) (by kernel_rfl) (by rfl) (fun w' hw => by have hc := hde w'; go_simp) hS rfl ?_
    simp only [Act.put, List.setIfInBounds_toArray, List.set_cons_zero, List.set_cons_succ]
    refine hs_take (i := 10) (d := some 44) (v := .bool true) rfl (by kernel_rfl) (by kernel_rfl) (by kernel_rfl) (by rfl) (fun w' hw => by go_simp) hS rfl ?_
    simp only [Act.put, List.setIfInBounds_toArray, List.set_cons_zero, List.set_cons_succ]
    refine hs_take (i := 11) (d := some 45) (v := ?_) rfl (by kernel_rfl) (by kernel_rfl) (by kernel_rfl) (by rfl) ?_ hS rfl ?_
    rotate_left
    · intro w' hw
      go_simp
      try with_reducible rfl
    simp only [Act.put, List.setIfInBounds_toArray, List.set_cons_zero, List.set_cons_succ]
    refine hs_take (i := 12) (d := some 46) (v := ?_) rfl (by kernel_rfl) (by kernel_rfl) (by kernel_rfl) (by rfl) ?_ hS rfl ?_
    rotate_left
    · intro w' hw
      go_simp
      try with_reducible rfl
    simp only [Act.put, List.setIfInBounds_toArray, List.set_cons_zero, List.set_cons_succ]
    refine hs_take (i := 13) (d := some 47) (v := ?_) rfl (by kernel_rfl) (by kernel_rfl) (by kernel_rfl) (by rfl) ?_ hS rfl ?_
    rotate_left
    · intro w' hw
      go_simp
      try with_reducible rfl
    simp only [Act.put, List.setIfInBounds_toArray, List.set_cons_zero, List.set_cons_succ]
    refine hs_take (i := 14) (d := some 48) (v := ?_) rfl (by kernel_rfl) (by kernel_rfl) (by kernel_rfl) (by rfl) ?_ hS rfl ?_
    rotate_left
    · intro w' hw
      go_simp
      try with_reducible rfl
    simp only [Act.put, List.setIfInBounds_toArray, List.set_cons_zero, List.set_cons_succ]
    refine hs_skip (i := 15) (d := some 49) rfl (by kernel_rfl) (by kernel_rfl) (by kernel_rfl) (by rfl) hS rfl ?_
    simp only [Act.put, List.setIfInBounds_toArray, List.set_cons_zero, List.set_cons_succ]
    refine hs_skip (i := 16) (d := some 50) rfl (by kernel_rfl) (by kernel_rfl) (by kernel_rfl) (by rfl) hS rfl ?_
    simp only [Act.put, List.setIfInBounds_toArray, List.set_cons_zero, List.set_cons_succ]
    refine hs_skip (i := 17) (d := some 51) rfl (by kernel_rfl) (by kernel_rfl) (by kernel_rfl) (by rfl) hS rfl ?_
    simp only [Act.put, List.setIfInBounds_toArray, List.set_cons_zero, List.set_cons_succ]
    refine hs_skip (i := 18) (d := some 52) rfl (by kernel_rfl) (by kernel_rfl) (by kernel_rfl) (by rfl) hS rfl ?_
    simp only [Act.put, List.setIfInBounds_toArray, List.set_cons_zero, List.set_cons_succ]
    refine hs_skip (i := 19) (d := some 53) rfl (by kernel_rfl) (by kernel_rfl) (by kernel_rfl) (by rfl) hS rfl ?_
    simp only [Act.put, List.setIfInBounds_toArray, List.set_cons_zero, List.set_cons_succ]
    refine hs_take (i := 20) (d := some 54) (v := .bool true) rfl (by kernel_rfl) (by kernel_rfl) (by kernel_rfl) (by rfl) (fun w' hw => by go_simp) hS rfl ?_
    simp only [Act.put, List.setIfInBounds_toArray, List.set_cons_zero, List.set_cons_succ]
    refine hs_take (i := 21) (d := some 55) (v := .bool true) rfl (by kernel_rfl) (by kernel_rfl) (by kernel_rfl) (by rfl) (fun w' hw => by go_simp) hS rfl ?_
    simp only [Act.put, List.setIfInBounds_toArray, List.set_cons_zero, List.set_cons_succ]
    refine hs_take (i := 22) (d := some 56) (v := ?_) rfl (by kernel_rfl) (by kernel_rfl) (by kernel_rfl) (by rfl) ?_ hS rfl ?_
    rotate_left
    · intro w' hw
      go_simp
      try with_reducible rfl
    simp only [Act.put, List.setIfInBounds_toArray, List.set_cons_zero, List.set_cons_succ]
    refine hs_call (i := 23) (d := some 57) rfl (by kernel_rfl) (by rfl) (by go_simp; first | done | exact ⟨rfl, rfl⟩ | with_reducible rfl) rfl ?_
    refine (lives7_any w13 (hG.below (hB9.trans (hS.mono hB9.size)))).mono ?_
    rintro e' w16 ⟨rfl, hw16⟩
    have hS : (Below w9.heap.size w9) w16 := hS.trans (hw16.mono hS.size)
    refine ⟨_, rfl, hS, ?_⟩
    simp only [Act.put, List.setIfInBounds_toArray, List.set_cons_zero, List.set_cons_succ]
    refine hs_take (i := 24) (d := some 58) (v := .bool true) rfl (by kernel_rfl) (by kernel_rfl) (by kernel_rfl) (by rfl) (fun w' hw => by go_simp) hS rfl ?_
    simp only [Act.put, List.setIfInBounds_toArray, List.set_cons_zero, List.set_cons_succ]
    refine hs_take (i := 25) (d := some 4) (v := ?_) rfl (by kernel_rfl) (by kernel_rfl) (by kernel_rfl) (by rfl) ?_ hS rfl ?_
    rotate_left
    · intro w' hw
      go_simp
      try with_reducible rfl
    simp only [Act.put, List.setIfInBounds_toArray, List.set_cons_zero, List.set_cons_succ]
    refine hs_done (by kernel_rfl) ?_
    have hfin := hB9.trans (hS.mono hB9.size)
    go_wp2_with fail
    go_ret
    exact ⟨rfl, hfin⟩
end Go.Proofs.YtinpbnkmpplkiaaDoor
namespace Go.Proofs.YtinpbnkmpplkiaaDoor.batchApart
open Go.ChangeShapes Go.WideShapes Go.ChangeAt Go.RowKit
open Go.ChangeMaps (open_string shut_string)
set_option linter.unusedVariables false
set_option maxRecDepth 100000 in
theorem lifted (os : Os) (started : os.Started) (H : Type) (enc : TypeId × Value → H) :
    ReturnsInHanded {} Tryd.checked os 7 .any (fun w args => (Rows.batchApartSpec.pre enc Tryd.prog Tryd.f7 [] false w args ∧ laidMetH Tryd.prog laid2 w) ∧ sizedMet enc Tryd.prog Tryd.f7 (OpenSpec.ofChange Rows.batchApartSpec) false w args)
      (Rows.batchApartSpec.post enc Tryd.prog Tryd.f7 false true false false) := by
  refine returnsInHanded_of_change_and (C := Tryd.checked) (X := fun w _ => laidMetH Tryd.prog laid2 w) (fun _ _ _ hh h => h.of_heap hh) own started (by kernel_rfl) Tryd.func7
    (ChangeSpec.witness_shaped (enc := enc) (C := Tryd.checked) (os := os) (X := fun w _ => laidMetH Tryd.prog laid2 w) false (World.doorLaid Tryd.prog 400 os) #[.agg #[.bool false, .slice none 0 0], .agg #[.bool false, .slice none 0 0]] 8 rfl (World.shaped_of_RefB (by kernel_rfl) (by kernel_rfl)) (by kernel_rfl) (by kernel_rfl) (by kernel_rfl) (door_met os _)) ?_
  intro W base args ds gs before hval0 hW _ _ hL _
  have hval : ∀ (j : Nat) t v, Tryd.f7.params[j]? = some t → args[j]? = some v → Value.okWide Tryd.prog W .any base t v := hval0
  have hW' := hW
  obtain ⟨p, q, hA0, hV, rfl, hfz, hnd⟩ := hW
  have hA : DataW.TrodAll enc Tryd.prog W 0 (fun _ => true) true Tryd.f7.params.toList args.toList ds p := hA0
  rw [Tryd.params7] at hA hval
  obtain ⟨v0, vs0, d0, ds0, p0, q0, hargs, rfl, rfl, h0, r0⟩ := trodAll_cons hA
  obtain ⟨v1, vs1, d1, ds1, p1, q1, rfl, rfl, rfl, h1, r1⟩ := trodAll_cons r0
  obtain ⟨rfl, rfl, rfl⟩ := trodAll_nil r1
  obtain rfl : args = #[v0, v1] := by cases args; simp_all
  obtain ⟨rfl, rfl⟩ := trodVars_none hV
  have k0 := h0
  have lt0 : ∀ x ∈ p0, x.block < W.heap.size := by obtain ⟨m, hm⟩ := k0; exact DataW.trod_lt m _ _ _ hm
  have k1 := h1
  have lt1 : ∀ x ∈ p1, x.block < W.heap.size := by obtain ⟨m, hm⟩ := k1; exact DataW.trod_lt m _ _ _ hm
  obtain ⟨q0, a0, cap0, rs0, rfl, hc0, hm0, row0⟩ : ∃ (q : Bool) (a : Option Addr) (cap : Nat) (rs : List Rq), v0 = batV q a rs.length cap ∧ rs.length ≤ cap ∧ cap ≤ maxLen ∧ ReqsAt W a rs := by
    obtain ⟨fuel, hf⟩ := h0
    exact open_batch (hval 0 24 v0 rfl rfl) hf
  obtain ⟨q1, a1, cap1, rs1, rfl, hc1, hm1, row1⟩ : ∃ (q : Bool) (a : Option Addr) (cap : Nat) (rs : List Rq), v1 = batV q a rs.length cap ∧ rs.length ≤ cap ∧ cap ≤ maxLen ∧ ReqsAt W a rs := by
    obtain ⟨fuel, hf⟩ := h1
    exact open_batch (hval 1 24 v1 rfl rfl) hf
  have hG := glob_of hL
  clear hA0 hval0
  refine (apart_walk q0 a0 cap0 rs0 q1 a1 cap1 rs1 W hG row0 hc0 hm0 row1 hc1 hm1).mono fun e W' ⟨he, bel⟩ => ?_
  subst he
  exact ⟨_, rfl, _, _, _, [], _, [], hW', trodAll_mk1 (shut_bool Tryd.underlying4 _), (trodAll_cons_mk (Below.trod laidOut (by kernel_rfl) (of_decide_eq_true (by kernel_rfl)) k0 bel lt0) (trodAll_cons_mk (Below.trod laidOut (by kernel_rfl) (of_decide_eq_true (by kernel_rfl)) k1 bel lt1) trodAll_mk0)), rfl, bel.frame _, fun h => by cases h⟩
theorem over : Rows.BatchApartSaid :=
  OpenClaim.holds_of_wide 7 Tryd.f7 rfl rfl rfl rfl rfl rfl rfl ⟨rfl, rfl, rfl, rfl, rfl⟩ rfl rfl rfl rfl rfl (by kernel_rfl) Tryd.func7 (by kernel_rfl)
    (of_decide_eq_true (by kernel_rfl)) (by unfold Func.isWrapper; first | (rw [if_pos (by decide +kernel)]; kernel_rfl) | (rw [if_neg (by decide +kernel)]; exact ⟨rfl, rfl⟩))
    (fun os started H enc _ => lifted os started H enc)
end Go.Proofs.YtinpbnkmpplkiaaDoor.batchApart
namespace Go.Proofs.YtinpbnkmpplkiaaDoor
theorem batchApart_card : Rows.BatchApartCardSaid :=
  Claim7.holds_tied_plain_at .later [] [.data, .data] true (true, "61a8ae4d0ddc459a7597b5b9a09190dd4627ce038268ad30758d36005a2cb3ab") false
    batchApart.over (fun _ h => by cases h) (by kernel_rfl) (fun _ h => by cases h) batchApart_row_tie rfl ⟨rfl, rfl⟩ (by kernel_rfl) rfl
    (fun f fn hf hfn => by
      obtain rfl : f = 7 := Option.some.inj ((show Tryd.prog.funcNamed "raddle/raddlelaw07.BatchApart" = some 7 by kernel_rfl).symm.trans hf) |>.symm
      obtain rfl : fn = Tryd.f7 := (Option.some.inj (Tryd.func7.symm.trans hfn)).symm
      exact ⟨by kernel_rfl, fun j t ht => by
        rw [Tryd.params7] at ht
        rcases j with _ | _ | j
        · obtain rfl : t = 24 := by simpa using ht.symm
          exact (show Tryd.prog.wantsStandIn 24 = false by kernel_rfl)
        · obtain rfl : t = 24 := by simpa using ht.symm
          exact (show Tryd.prog.wantsStandIn 24 = false by kernel_rfl)
        · simp at ht⟩)
    (by kernel_rfl)
#print axioms batchApart_card
end Go.Proofs.YtinpbnkmpplkiaaDoor
