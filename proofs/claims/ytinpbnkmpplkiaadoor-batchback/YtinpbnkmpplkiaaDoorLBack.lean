/- The law BatchBack: its walk. A batch that may be read again is read as it was put, whatever stands behind it. Conditions: none beyond the row's own; the card ties the tables 'starts' and 'roots' of package digest to the program's text (of the pruned copy of the project). -/
import Derived.Test.YtinpbnkmpplkiaaDoorJBg
import Derived.Test.YtinpbnkmpplkiaaDoorJBa
import Derived.Test.YtinpbnkmpplkiaaDoorFrameR
namespace Go.Proofs.YtinpbnkmpplkiaaDoor
open Go.RowKit
open Sha Tal
theorem one_bat3 (w : World) (q : Bool) (a : Option Addr) (cap : Nat) (rs : List Rq) (h : (Bat.mk q a cap rs).at w) :
    BatsAt (w.alloc (.cells #[.bool q, .slice a rs.length cap] 24)) w.heap.size [⟨q, a, cap, rs⟩] := by
  have hb : Below w.heap.size w (w.alloc (.cells #[.bool q, .slice a rs.length cap] 24)) := (Below.refl _ _).alloc (Nat.le_refl _) _
  refine ⟨by simp, fun x hx => ?_, by simp, range_new w #[.bool q, .slice a rs.length cap] 24⟩
  obtain rfl := List.mem_singleton.1 hx
  exact h.below hb
theorem wtR_le3 : ∀ (rs : List Rq), rs.length * 20 ≤ wtR rs ∧ ∀ r ∈ rs, r.s.size ≤ wtR rs
  | [] => ⟨by simp [wtR], by simp⟩
  | r :: rs => by
    have ih := wtR_le3 rs
    have e : wtR (r :: rs) = 20 + r.s.size + wtR rs := by simp [wtR]
    refine ⟨by rw [e]; simp; omega, fun x hx => ?_⟩
    rw [e]
    rcases List.mem_cons.1 hx with rfl | hx
    · omega
    · have := ih.2 x hx; omega
theorem wt3 {q : Bool} {a : Option Addr} {cap : Nat} {rs : List Rq} (h : wt [⟨q, a, cap, rs⟩] ≤ 4000) : rs.length ≤ 200 ∧ ∀ r ∈ rs, r.s.size ≤ 4000 := by
  have e : wt [⟨q, a, cap, rs⟩] = 5 + wtR rs := by simp [wt]
  rw [e] at h
  have h1 := wtR_le3 rs
  exact ⟨by omega, fun r hr => by have := h1.2 r hr; omega⟩
theorem BatBox.drew3 {w : World} {b : Nat} {q : Bool} {a : Option Addr} {n cap : Nat} (h : BatBox w b q a n cap) : BatBox w.drew b q a n cap :=
  ⟨h.1, h.2.1, h.2.2.1, (World.rangeAt_drew _ _ _ _).2 h.2.2.2⟩
theorem BatBox.gb {w w' : World} {b R : Nat} {q : Bool} {a : Option Addr} {n cap : Nat} (h : BatBox w b q a n cap) (hg : w.grownBy w' (some R)) (hne : b ≠ R) : BatBox w' b q a n cap :=
  ⟨Nat.lt_of_lt_of_le h.1 hg.size, (ref_cell hg h.1 hne).trans h.2.1, (ref_cell hg h.1 hne).trans h.2.2.1, range_gbR h.2.2.2 hg h.1 hne⟩
theorem plain_len {q : Bool} {rs : List Rq} (h : plainB q rs) (ho : ∀ r ∈ rs, r.ok) : (batL q rs).length ≤ 1000 := by
  have hf := h.few
  cases q with
  | true => have := putL_le 0 (by omega); simp only [batL, if_true]; omega
  | false =>
    have k1 := putL_le ((rs.length : Int) + 1) (by omega)
    have key : ∀ (l : List Rq), (∀ r ∈ l, r.plain) → (∀ r ∈ l, r.ok) → (l.flatMap Rq.bytes).length ≤ l.length * 150 := by
      intro l
      induction l with
      | nil => intro _ _; simp
      | cons r l ih =>
        intro h1 h2
        have i1 := ih (fun x hx => h1 x (by simp [hx])) (fun x hx => h2 x (by simp [hx]))
        have hp := h1 r (by simp)
        have ho := h2 r (by simp)
        have g1 := putL_le r.c ho.ch
        have g2 := putL_le r.n ho.nh
        have g3 := putL_le (r.s.size : Int) (by have := hp.s1; omega)
        have g4 := ho.tl
        have g5 := hp.s1
        have : r.bytes.length ≤ 150 := by
          simp only [Rq.bytes, textL, List.length_append, strL_length]
          omega
        simp only [List.flatMap_cons, List.length_append, List.length_cons]
        omega
    have k2 := key rs h.all ho
    simp only [batL, Bool.false_eq_true, if_false, List.length_append]
    omega
theorem same_true {q : Bool} {rs : List Rq} {e : Ending} {p : Prop} (h : ((e = .returned (.bool true) ∧ eqBat q rs q rs) ∨ (e = .returned (.bool false) ∧ ¬ eqBat q rs q rs)) ∧ p) : e = .returned (.bool true) ∧ p := by
  rcases h with ⟨⟨h1, _⟩ | ⟨_, h2⟩, h3⟩
  · exact ⟨h1, h3⟩
  · exact absurd ⟨rfl, rfl⟩ h2
set_option maxRecDepth 100000 in
set_option maxHeartbeats 4000000 in
theorem back_walk (q : Bool) (a : Option Addr) (cap : Nat) (rs : List Rq) (ta : Option Addr) (tcap : Nat) (zs : List Int) (w : World) (hG : Glob w) (h : ReqsAt w a rs) (hc : rs.length ≤ cap) (hm : cap ≤ maxLen) (ht : RowAt w ta zs) :
    Calls Tryd.prog 6 #[batV q a rs.length cap, .slice ta zs.length tcap] w fun e w' => e = .returned (.bool true) ∧ Below w.heap.size w w' := by
  obtain ⟨i0, hi, hz0, hz1, hz2⟩ := info_parts info8
  have hml := ht.1
  unfold maxLen at hml
  have hall := h.2.1
  have cpl := fun w0 h0 => plain_any q a cap rs w0 h0
  have cpt := fun w0 h0 hn hs => bput_any none 0 [] q a cap rs w0 (nil_row w0) (by simp) h0 hn hs
  simp only [List.nil_append, List.length_nil] at cpt
  unfold batV at cpl cpt ⊢
  have hB1 : Below w.heap.size w (w.alloc (.cells #[.bool q, .slice a rs.length cap] 24)) := (Below.refl _ _).alloc (Nat.le_refl _) _
  have hbx := BatBox.mk w q a rs.length cap
  have hib := batI q a rs.length cap
  go_enter Tryd.func6, Tryd.ntmps6
  go_upto_region 1 with fail
  go_name_world w1 hw1
  rw [hw1] at hB1 hbx
  clear hw1
  obtain ⟨X, hXe⟩ : ∃ X, Hid (w.heap.size = X) := ⟨_, hide rfl⟩
  rw [hXe.out] at hbx ⊢
  have hL := one_bat3 w1 q a cap rs ⟨h.below hB1, hc, hm⟩
  have hB2' : Below w1.heap.size w1 (w1.alloc (.cells #[.bool q, .slice a rs.length cap] 24)) := (Below.refl _ _).alloc (Nat.le_refl _) _
  have hB2 := hB1.trans (hB2'.mono hB1.size)
  have hbx2 := hbx.below hB2'
  have cl := light_any w1.heap.size 1 _ _ hL
  try simp only [Act.put]
  refine wp_region_list ?_
  refine wpList_load_mid rfl 24 _ rfl _ _ rfl [.bool q, .slice a rs.length cap] _ hbx.2.2.2 Tryd.underlying24 rfl hib ?_
  clear hbx hL
  simp only [List.length_cons, List.length_nil, Nat.zero_add] at cl
  go_wp2_with fail
  refine cl.mono ?_
  rintro e w3 hcase
  clear cl
  generalize w1.alloc (.cells #[.bool q, .slice a rs.length cap] 24) = w2 at *
  rcases hcase with ⟨rfl, hw3⟩ | ⟨rfl, hw3, hwt⟩
  · have hB3 := hB2.trans (hw3.mono hB2.size)
    go_wp2_with fail
    refine (lives7_any w3 (hG.below hB3)).mono ?_
    rintro e wz ⟨rfl, hwz⟩
    go_wp2_with fail
    go_ret
    exact ⟨rfl, (hB3).trans (hwz.mono (hB3).size)⟩
  have hB3 := hB2.trans (hw3.mono hB2.size)
  have hbx3 := hbx2.below hw3
  clear hbx2 hB2' hB2 hw3
  obtain ⟨hn, hs⟩ := wt3 hwt
  clear hwt
  by_cases hlong : 2000 < zs.length
  · have hli : (2000 : Int) < zs.length := by omega
    go_wp2_with fail
    refine (lives7_any w3 (hG.below hB3)).mono ?_
    rintro e wz ⟨rfl, hwz⟩
    go_wp2_with fail
    go_ret
    exact ⟨rfl, (hB3).trans (hwz.mono (hB3).size)⟩
  have hli : ¬ (2000 : Int) < zs.length := by omega
  obtain ⟨_, x0, x1, _⟩ := id hbx3
  go_wp2_with fail
  refine (cpl w3 (h.below hB3)).mono ?_
  rintro e w4 hcase
  clear cpl x0 x1
  rcases hcase with ⟨rfl, hw4, hpl⟩ | ⟨rfl, hw4⟩
  rotate_left
  · have hB4 := hB3.trans (hw4.mono hB3.size)
    go_wp2_with fail
    refine (lives7_any w4 (hG.below hB4)).mono ?_
    rintro e wz ⟨rfl, hwz⟩
    go_wp2_with fail
    go_ret
    exact ⟨rfl, (hB4).trans (hwz.mono (hB4).size)⟩
  have hB4 := hB3.trans (hw4.mono hB3.size)
  have hbx4 := hbx3.below hw4
  have lL := plain_len hpl hall
  have hbk := getB_back q rs zs hpl hall
  have cp4 := cpt w4 (h.below hB4) hn hs
  obtain ⟨L, hLe⟩ : ∃ L, Hid (batL q rs = L) := ⟨_, hide rfl⟩
  rw [hLe.out] at lL hbk cp4
  have HBK := hide hbk
  clear hbk hLe hpl cpt hB3 hbx3 hw4
  go_upto_region 3 with fail
  try simp only [Act.put]
  refine wp_region_list ?_
  refine wpList_load_mid rfl 24 _ rfl _ _ rfl [.bool q, .slice a rs.length cap] _ hbx4.2.2.2 Tryd.underlying24 rfl hib ?_
  go_wp2_with fail
  refine cp4.mono ?_
  rintro e w5 ⟨v5, rfl, m5, hw5⟩
  have hB5 := hB4.trans (hw5.mono hB4.size)
  have mF := m5.2
  have own5 := m5.1
  obtain ⟨a5, cap5, rfl, _, _, row5⟩ := m5.rowAt (by unfold maxLen; omega)
  clear cp4 m5 row5
  go_wp2_with (at_builtin; refine wpList_append_own_src _ rfl _ _ 39 39 rfl w4.heap.size 5 i0 (.int .u8 0) 1 1 Tryd.underlying39 hi hz0 hz1 hz2 rfl _ L.length (v8 L) rfl own5 (.slice ta zs.length tcap) zs.length (v8 zs) rfl ((ht.below hB5).src tcap) ?c1 ?c2 ?c3 ?_)
  case c1 => unfold maxLen; omega
  case c2 => omega
  case c3 => exact hw5.size
  intro v6 w6 hown6 hgrow6
  have hb6 := below_grown hw5 hw5.size own5 hgrow6
  have hbx6 := hbx4.below hb6
  have hB6 := hB4.trans (hb6.mono hB4.size)
  obtain ⟨FT, hFT⟩ : ∃ FT, Hid (L ++ zs = FT) := ⟨_, hide rfl⟩
  have lFT : FT.length = L.length + zs.length := by rw [← hFT.out, List.length_append]
  rw [hFT.out] at HBK
  have M6 : Mine w6 w4.heap.size v6 FT := by
    rw [← hFT.out]
    exact Mine.mk' (L ++ zs) hown6 (by simp) (by simp [v8]) (fun z hz => by rcases List.mem_append.1 hz with k | k; exact mF z k; exact ht.2.1 z k)
  obtain ⟨a6, cap6, rfl, _, _, row6⟩ := M6.rowAt (by unfold maxLen; omega)
  have cr := read_any a6 cap6 FT w6 row6 (by omega)
  have hFl : FT.length ≤ 5000 := by omega
  have hbs : Bs FT := row6.2.1
  rw [lFT] at cr
  clear hown6 hgrow6 own5 M6 row6 hw5 hb6 hbx4 hB4 hFT hB5 mF
  go_wp2_with fail
  refine cr.mono ?_
  rintro e w7 ⟨R, rfl, hRw, sR, hb7⟩
  have hbx7 := hbx6.below hb7
  have hB7 := hB6.trans (hb7.mono hB6.size)
  have hXR : X < R := Nat.lt_of_lt_of_le hbx6.1 hRw
  have hwR : w.heap.size ≤ R := Nat.le_trans hB6.size hRw
  clear cr hbx6 hB6 hb7 hRw lFT
  go_wp2_with fail
  obtain ⟨w8, hw8⟩ : ∃ w8, w7.drew = w8 := ⟨_, rfl⟩
  refine hs_begin (S := (fun W => BatBox W X q a rs.length cap ∧ Below w.heap.size w W)) 20 rfl (by kernel_rfl) ?_
  have hS : (fun W => BatBox W X q a rs.length cap ∧ Below w.heap.size w W) w8 := by rw [← hw8]; exact ⟨hbx7.drew3, hB7.drew⟩
  have s8 : St w8 R FT 0 := by rw [← hw8]; exact sR.below (Below.refl _ _).drew
  rw [hw8]
  clear hw8 hbx7 hB7 sR
  have cg := bget_any R FT 0 w8 s8 hFl (fun _ => hbs)
  rw [HBK.out] at cg
  unfold batV at cg
  simp only at cg
  refine hs_take (i := 0) (d := some 26) (v := ?_) rfl (by kernel_rfl) (by kernel_rfl) (by kernel_rfl) (by rfl) ?_ hS rfl ?_
  rotate_left
  · intro w' hw
    go_simp
    try with_reducible rfl
  simp only [Act.put, List.setIfInBounds_toArray, List.set_cons_zero, List.set_cons_succ]
  refine hs_take (i := 2) (d := some 28) (v := .agg #[.bool q, .slice a rs.length cap]) rfl (by kernel_rfl) (by kernel_rfl) (by kernel_rfl) (by rfl) (fun w' hw => exec_load rfl rfl (run_loadVar_mid (P := Tryd.prog) w' X 0 24 [.bool q, .slice a rs.length cap] _ hw.1.2.2.2 Tryd.underlying24 rfl hib)) hS rfl ?_
  simp only [Act.put, List.setIfInBounds_toArray, List.set_cons_zero, List.set_cons_succ]
  refine hs_call (i := 1) (d := some 27) rfl (by kernel_rfl) (by rfl) (by go_simp; first | done | exact ⟨rfl, rfl⟩ | with_reducible rfl) rfl ?_
  refine (cg).mono ?_
  rintro e' w9 ⟨a9, cap9, rfl, hc9, hm9, row9, hlo9, s9, g9⟩
  have hS : (fun W => BatBox W X q a rs.length cap ∧ Below w.heap.size w W) w9 := ⟨hS.1.gb g9 (by omega), gb_belowR hS.2 g9 (by omega) hS.2.size⟩
  refine ⟨_, rfl, hS, ?_⟩
  simp only [Act.put, List.setIfInBounds_toArray, List.set_cons_zero, List.set_cons_succ]
  have csm := (refBSame_any q a9 cap9 rs q a cap rs w9 row9 (h.below hS.2)).mono (fun e w' hh => same_true hh)
  unfold batV at csm
  refine hs_call (i := 3) (d := some 29) rfl (by kernel_rfl) (by rfl) (by go_simp; first | done | exact ⟨rfl, rfl⟩ | with_reducible rfl) rfl ?_
  refine (csm).mono ?_
  rintro e' w10 ⟨rfl, hw10⟩
  have hS : (fun W => BatBox W X q a rs.length cap ∧ Below w.heap.size w W) w10 := ⟨hS.1.below hw10, hS.2.trans (hw10.mono hS.2.size)⟩
  refine ⟨_, rfl, hS, ?_⟩
  simp only [Act.put, List.setIfInBounds_toArray, List.set_cons_zero, List.set_cons_succ]
  have s10 := s9.below hw10
  refine hs_take (i := 4) (d := some 30) (v := ?_) rfl (by kernel_rfl) (by kernel_rfl) (by kernel_rfl) (by rfl) ?_ hS rfl ?_
  rotate_left
  · intro w' hw
    go_simp
    try with_reducible rfl
  simp only [Act.put, List.setIfInBounds_toArray, List.set_cons_zero, List.set_cons_succ]
  refine hs_take (i := 5) (d := some 31) (v := ?_) rfl (by kernel_rfl) (by kernel_rfl) (by kernel_rfl) (by rfl) ?_ hS rfl ?_
  rotate_left
  · intro w' hw
    go_simp
    try with_reducible rfl
  simp only [Act.put, List.setIfInBounds_toArray, List.set_cons_zero, List.set_cons_succ]
  refine hs_call (i := 6) (d := some 32) rfl (by kernel_rfl) (by rfl) (by go_simp; first | done | exact ⟨rfl, rfl⟩ | with_reducible rfl) rfl ?_
  refine (err_made R 0 w10 s10.1).mono ?_
  rintro e' w11 ⟨rfl, hx⟩
  have hS : (fun W => BatBox W X q a rs.length cap ∧ Below w.heap.size w W) w11 := by rw [hx]; exact hS
  refine ⟨_, rfl, hS, ?_⟩
  simp only [Act.put, List.setIfInBounds_toArray, List.set_cons_zero, List.set_cons_succ]
  obtain rfl := hx.symm
  refine hs_take (i := 7) (d := some 33) (v := .bool true) rfl (by kernel_rfl) (by kernel_rfl) (by kernel_rfl) (by rfl) (fun w' hw => by go_simp) hS rfl ?_
  simp only [Act.put, List.setIfInBounds_toArray, List.set_cons_zero, List.set_cons_succ]
  refine hs_take (i := 8) (d := some 34) (v := .bool true) rfl (by kernel_rfl) (by kernel_rfl) (by kernel_rfl) (by rfl) (fun w' hw => by go_simp) hS rfl ?_
  simp only [Act.put, List.setIfInBounds_toArray, List.set_cons_zero, List.set_cons_succ]
  refine hs_take (i := 9) (d := some 35) (v := ?_) rfl (by kernel_rfl) (by kernel_rfl) (by kernel_rfl) (by rfl) ?_ hS rfl ?_
  rotate_left
  · intro w' hw
    go_simp
    try with_reducible rfl
  simp only [Act.put, List.setIfInBounds_toArray, List.set_cons_zero, List.set_cons_succ]
  refine hs_take (i := 10) (d := some 36) (v := ?_) rfl (by kernel_rfl) (by kernel_rfl) (by kernel_rfl) (by rfl) ?_ hS rfl ?_
  rotate_left
  · intro w' hw
    go_simp
    try with_reducible rfl
  simp only [Act.put, List.setIfInBounds_toArray, List.set_cons_zero, List.set_cons_succ]
  refine hs_take (i := 12) (d := some 38) (v := ?_) rfl (by kernel_rfl) (by kernel_rfl) (by kernel_rfl) (by rfl) ?_ hS rfl ?_
  rotate_left
  · intro w' hw
    go_simp
    try with_reducible rfl
  simp only [Act.put, List.setIfInBounds_toArray, List.set_cons_zero, List.set_cons_succ]
  refine hs_take (i := 13) (d := some 39) (v := ?_) rfl (by kernel_rfl) (by kernel_rfl) (by kernel_rfl) (by rfl) ?_ hS rfl ?_
  rotate_left
  · intro w' hw
    go_simp
    try with_reducible rfl
  simp only [Act.put, List.setIfInBounds_toArray, List.set_cons_zero, List.set_cons_succ]
  have cl := leftR_any R zs 0 w10 s10
  rw [if_pos rfl] at cl
  refine hs_call (i := 11) (d := some 37) rfl (by kernel_rfl) (by rfl) (by go_simp; first | done | exact ⟨rfl, rfl⟩ | with_reducible rfl) rfl ?_
  refine (cl).mono ?_
  rintro e' w12 ⟨rfl, hx⟩
  have hS : (fun W => BatBox W X q a rs.length cap ∧ Below w.heap.size w W) w12 := by rw [hx]; exact hS
  refine ⟨_, rfl, hS, ?_⟩
  simp only [Act.put, List.setIfInBounds_toArray, List.set_cons_zero, List.set_cons_succ]
  obtain rfl := hx.symm
  refine hs_take (i := 14) (d := some 40) (v := .bool true) rfl (by kernel_rfl) (by kernel_rfl) (by kernel_rfl) (by rfl) (fun w' hw => by go_simp) hS rfl ?_
  simp only [Act.put, List.setIfInBounds_toArray, List.set_cons_zero, List.set_cons_succ]
  refine hs_take (i := 15) (d := some 41) (v := .bool true) rfl (by kernel_rfl) (by kernel_rfl) (by kernel_rfl) (by rfl) (fun w' hw => by go_simp) hS rfl ?_
  simp only [Act.put, List.setIfInBounds_toArray, List.set_cons_zero, List.set_cons_succ]
  refine hs_take (i := 16) (d := some 42) (v := ?_) rfl (by kernel_rfl) (by kernel_rfl) (by kernel_rfl) (by rfl) ?_ hS rfl ?_
  rotate_left
  · intro w' hw
    go_simp
    try with_reducible rfl
  simp only [Act.put, List.setIfInBounds_toArray, List.set_cons_zero, List.set_cons_succ]
  refine hs_call (i := 17) (d := some 43) rfl (by kernel_rfl) (by rfl) (by go_simp; first | done | exact ⟨rfl, rfl⟩ | with_reducible rfl) rfl ?_
  refine (lives7_any w10 (hG.below hS.2)).mono ?_
  rintro e' w13 ⟨rfl, hw13⟩
  have hS : (fun W => BatBox W X q a rs.length cap ∧ Below w.heap.size w W) w13 := ⟨hS.1.below hw13, hS.2.trans (hw13.mono hS.2.size)⟩
  refine ⟨_, rfl, hS, ?_⟩
  simp only [Act.put, List.setIfInBounds_toArray, List.set_cons_zero, List.set_cons_succ]
  refine hs_take (i := 18) (d := some 44) (v := .bool true) rfl (by kernel_rfl) (by kernel_rfl) (by kernel_rfl) (by rfl) (fun w' hw => by go_simp) hS rfl ?_
  simp only [Act.put, List.setIfInBounds_toArray, List.set_cons_zero, List.set_cons_succ]
  refine hs_take (i := 19) (d := some 4) (v := ?_) rfl (by kernel_rfl) (by kernel_rfl) (by kernel_rfl) (by rfl) ?_ hS rfl ?_
  rotate_left
  · intro w' hw
    go_simp
    try with_reducible rfl
  simp only [Act.put, List.setIfInBounds_toArray, List.set_cons_zero, List.set_cons_succ]
  refine hs_done (by kernel_rfl) ?_
  have hfin := hS.2
  go_wp2_with fail
  go_ret
  exact ⟨rfl, hfin⟩
end Go.Proofs.YtinpbnkmpplkiaaDoor
namespace Go.Proofs.YtinpbnkmpplkiaaDoor.batchBack
open Go.ChangeShapes Go.WideShapes Go.ChangeAt Go.RowKit
open Go.ChangeMaps (open_string shut_string)
set_option linter.unusedVariables false
set_option maxRecDepth 100000 in
theorem lifted (os : Os) (started : os.Started) (H : Type) (enc : TypeId × Value → H) :
    ReturnsInHanded {} Tryd.checked os 6 .any (fun w args => (Rows.batchBackSpec.pre enc Tryd.prog Tryd.f6 [] false w args ∧ laidMetH Tryd.prog laid2 w) ∧ sizedMet enc Tryd.prog Tryd.f6 (OpenSpec.ofChange Rows.batchBackSpec) false w args)
      (Rows.batchBackSpec.post enc Tryd.prog Tryd.f6 false true false false) := by
  refine returnsInHanded_of_change_and (C := Tryd.checked) (X := fun w _ => laidMetH Tryd.prog laid2 w) (fun _ _ _ hh h => h.of_heap hh) own started (by kernel_rfl) Tryd.func6
    (ChangeSpec.witness_shaped (enc := enc) (C := Tryd.checked) (os := os) (X := fun w _ => laidMetH Tryd.prog laid2 w) false (World.doorLaid Tryd.prog 400 os) #[.agg #[.bool false, .slice none 0 0], .slice none 0 0] 8 rfl (World.shaped_of_RefB (by kernel_rfl) (by kernel_rfl)) (by kernel_rfl) (by kernel_rfl) (by kernel_rfl) (door_met os _)) ?_
  intro W base args ds gs before hval0 hW _ _ hL _
  have hval : ∀ (j : Nat) t v, Tryd.f6.params[j]? = some t → args[j]? = some v → Value.okWide Tryd.prog W .any base t v := hval0
  have hW' := hW
  obtain ⟨p, q, hA0, hV, rfl, hfz, hnd⟩ := hW
  have hA : DataW.TrodAll enc Tryd.prog W 0 (fun _ => true) true Tryd.f6.params.toList args.toList ds p := hA0
  rw [Tryd.params6] at hA hval
  obtain ⟨v0, vs0, d0, ds0, p0, q0, hargs, rfl, rfl, h0, r0⟩ := trodAll_cons hA
  obtain ⟨v1, vs1, d1, ds1, p1, q1, rfl, rfl, rfl, h1, r1⟩ := trodAll_cons r0
  obtain ⟨rfl, rfl, rfl⟩ := trodAll_nil r1
  obtain rfl : args = #[v0, v1] := by cases args; simp_all
  obtain ⟨rfl, rfl⟩ := trodVars_none hV
  have k0 := h0
  have lt0 : ∀ x ∈ p0, x.block < W.heap.size := by obtain ⟨m, hm⟩ := k0; exact DataW.trod_lt m _ _ _ hm
  have k1 := h1
  have lt1 : ∀ x ∈ p1, x.block < W.heap.size := by obtain ⟨m, hm⟩ := k1; exact DataW.trod_lt m _ _ _ hm
  obtain ⟨q0, a0, cap0, rs0, rfl, hc0, hm0, row0⟩ : ∃ (q : Bool) (a : Option Addr) (cap : Nat) (rs : List Rq), v0 = batV q a rs.length cap ∧ rs.length ≤ cap ∧ cap ≤ maxLen ∧ ReqsAt W a rs := by
    obtain ⟨fuel, hf⟩ := h0
    exact open_batch (hval 0 24 v0 rfl rfl) hf
  obtain ⟨a1, len1, cap1, rfl⟩ := okWide_slice Tryd.underlying39 (hval 1 39 v1 rfl rfl)
  obtain ⟨z1, w1⟩ : ∃ zs, IsRow .u8 W a1 len1 cap1 zs := by
    obtain ⟨fuel, hf⟩ := h1
    rcases open_ints Tryd.underlying39 Tryd.underlying5 (by kernel_rfl) hf with ⟨hcs, _⟩ | ⟨x, l, c, zs, hcs, _, hl, hm, hz, _, hcell, hwz⟩
    · simp [Value.cells] at hcs
      obtain ⟨rfl, rfl, rfl⟩ := hcs
      exact ⟨[], .inl ⟨rfl, rfl, rfl, rfl⟩⟩
    · simp [Value.cells] at hcs
      obtain ⟨rfl, rfl, rfl⟩ := hcs
      exact ⟨zs, .inr ⟨_, rfl, hl, hm, by simpa using hz, hcell, hwz⟩⟩
  obtain ⟨y1, rfl, hc1, hm1, row1⟩ := w1.rowAt
  have hG := glob_of hL
  clear hA0 hval0
  refine (back_walk q0 a0 cap0 rs0 a1 cap1 y1 W hG row0 hc0 hm0 row1).mono fun e W' ⟨he, bel⟩ => ?_
  subst he
  exact ⟨_, rfl, _, _, _, [], _, [], hW', trodAll_mk1 (shut_bool Tryd.underlying4 _), (trodAll_cons_mk (Below.trod laidOut (by kernel_rfl) (of_decide_eq_true (by kernel_rfl)) k0 bel lt0) (trodAll_cons_mk (Below.trod laidOut (by kernel_rfl) (of_decide_eq_true (by kernel_rfl)) k1 bel lt1) trodAll_mk0)), rfl, bel.frame _, fun h => by cases h⟩
theorem over : Rows.BatchBackSaid :=
  OpenClaim.holds_of_wide 6 Tryd.f6 rfl rfl rfl rfl rfl rfl rfl ⟨rfl, rfl, rfl, rfl, rfl⟩ rfl rfl rfl rfl rfl (by kernel_rfl) Tryd.func6 (by kernel_rfl)
    (of_decide_eq_true (by kernel_rfl)) (by unfold Func.isWrapper; first | (rw [if_pos (by decide +kernel)]; kernel_rfl) | (rw [if_neg (by decide +kernel)]; exact ⟨rfl, rfl⟩))
    (fun os started H enc _ => lifted os started H enc)
end Go.Proofs.YtinpbnkmpplkiaaDoor.batchBack
namespace Go.Proofs.YtinpbnkmpplkiaaDoor
theorem batchBack_card : Rows.BatchBackCardSaid :=
  Claim7.holds_tied_plain_at .later [] [.data, .data] true (true, "61a8ae4d0ddc459a7597b5b9a09190dd4627ce038268ad30758d36005a2cb3ab") false
    batchBack.over (fun _ h => by cases h) (by kernel_rfl) (fun _ h => by cases h) batchBack_row_tie rfl ⟨rfl, rfl⟩ (by kernel_rfl) rfl
    (fun f fn hf hfn => by
      obtain rfl : f = 6 := Option.some.inj ((show Tryd.prog.funcNamed "raddle/raddlelaw07.BatchBack" = some 6 by kernel_rfl).symm.trans hf) |>.symm
      obtain rfl : fn = Tryd.f6 := (Option.some.inj (Tryd.func6.symm.trans hfn)).symm
      exact ⟨by kernel_rfl, fun j t ht => by
        rw [Tryd.params6] at ht
        rcases j with _ | _ | j
        · obtain rfl : t = 24 := by simpa using ht.symm
          exact (show Tryd.prog.wantsStandIn 24 = false by kernel_rfl)
        · obtain rfl : t = 39 := by simpa using ht.symm
          exact (show Tryd.prog.wantsStandIn 39 = false by kernel_rfl)
        · simp at ht⟩)
    (by kernel_rfl)
#print axioms batchBack_card
end Go.Proofs.YtinpbnkmpplkiaaDoor
