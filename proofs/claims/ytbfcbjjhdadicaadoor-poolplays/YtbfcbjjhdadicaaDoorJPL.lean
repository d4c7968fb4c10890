/- the walk of PoolPlays acts and requests by value For every number of buckets, every room and all acts, raddlelaw10.PoolPlays returns true: whatever requests come and go, what waits, in which order, and what is picked is as the document says. Conditions: none beyond the row's own; the card ties the tables 'starts' and 'roots' of package digest to the program's text (of the pruned copy of the project). -/
import Derived.Test.YtbfcbjjhdadicaaDoorJPb
import Derived.Test.YtbfcbjjhdadicaaDoorP9
import Derived.Test.YtbfcbjjhdadicaaDoorFrame
namespace Go.Proofs.YtbfcbjjhdadicaaDoor
open Go.RowKit
open Sha Tal
section
variable {P : Program} {ops : Array Oper} {Q : Exit → Act → World → Prop}
theorem hs_moreP {S S' : World → Prop} (h : ∀ w, S' w → S w) : ∀ (fuel : Nat) (listed : Array Bool) (a : Act) (w : World), HeldS P ops Q S' fuel listed a w → HeldS P ops Q S fuel listed a w
  | 0, _, _, _, k => k
  | fuel + 1, _, _, _, k => ⟨k.1, fun i hi => wpOp_mono (fun a' w' k' => ⟨h w' k'.1, hs_moreP h fuel _ a' w' k'.2⟩) (k.2 i hi)⟩
end
set_option maxRecDepth 100000 in
set_option maxHeartbeats 8000000 in
theorem plays_walk (z y : Int) (a : Option Addr) (cap : Nat) (As : List Ac) (w : World) (hrow : RowOf Ac.cells w a As) (hok : ∀ A ∈ As, A.ok w) (hG : Glob w) :
    Calls Tryd.prog 3 #[.int .i64 z, .int .i64 y, .slice a As.length cap] w fun e w' => e = .returned (.bool true) ∧ Below w.heap.size w w' := by
  by_cases hbad : z < 1 ∨ 64 < z ∨ y < 1 ∨ 16 < y
  · have cN := new_no z y w hbad
    have cR := rnew_no z y w hbad
    have cL := lives_any w hG
    go_enter Tryd.func3, Tryd.ntmps3
    go_wp2_with fail
    refine cN.mono ?_
    rintro e w' ⟨rfl, hx⟩
    obtain rfl := hx.symm
    clear cN hx
    go_wp2_with fail
    refine cR.mono ?_
    rintro e w' ⟨rfl, hx⟩
    obtain rfl := hx.symm
    clear cR hx
    go_wp2_with fail
    refine cL.mono ?_
    rintro e w9 ⟨rfl, hb9⟩
    clear cL
    go_wp2_with fail
    go_ret
    exact ⟨rfl, hb9⟩
  obtain ⟨k, rfl⟩ := Int.eq_ofNat_of_zero_le (show 0 ≤ z by omega)
  obtain ⟨room, rfl⟩ := Int.eq_ofNat_of_zero_le (show 0 ≤ y by omega)
  have hk0 : 0 < k := by omega
  have hk64 : k ≤ 64 := by omega
  have hr0 : 0 < room := by omega
  have hr16 : room ≤ 16 := by omega
  clear hbad
  have cN := new_yes k room w hk0 hk64 hr0 hr16
  have h0 := pnew_in w k room hk0 hk64 hr16
  obtain ⟨wa, hwa⟩ : ∃ wa, newW w k room = wa := ⟨_, rfl⟩
  rw [hwa] at cN h0
  obtain ⟨P0, hP0⟩ : ∃ P0, newPl w k = P0 := ⟨_, rfl⟩
  rw [hP0] at cN h0
  clear hwa hP0
  obtain ⟨q, hq⟩ : ∃ q, Hid (ptr P0 = .pointer (some q)) := ⟨_, hide rfl⟩
  rw [hq.out] at cN
  have cR := rnew_yes k room wa hk0 hk64 hr0 hr16
  have hRA := rnew_at k room wa
  obtain ⟨wb, hwb⟩ : ∃ wb, wa.alloc (.cells #[.int .i64 (k : Int), .int .i64 (room : Int), .slice none 0 0] 45) = wb := ⟨_, rfl⟩
  have hbb : Below wa.heap.size wa wb := by rw [← hwb]; exact (Below.refl _ _).alloc (Nat.le_refl _) _
  rw [hwb] at cR hRA
  have hBI : BothIn w wb P0 wa.heap.size room k (List.replicate k []) none 0 [] := ⟨h0.below hbb, hRA, Rel.new k, h0.b.size, fun hx => by have := h0.at_.R.own_lt hx; omega, fun x hx => by cases hx⟩
  obtain ⟨rp, hrp⟩ : ∃ rp, wa.heap.size = rp := ⟨_, rfl⟩
  rw [hrp] at cR hBI
  clear hwb hRA hbb hrp h0
  unfold rptr at cR
  go_enter Tryd.func3, Tryd.ntmps3
  go_wp2_with fail
  refine cN.mono ?_
  rintro e w' ⟨rfl, hx⟩
  obtain rfl := hx.symm
  clear cN hx
  go_wp2_with fail
  refine cR.mono ?_
  rintro e w' ⟨rfl, hx⟩
  obtain rfl := hx.symm
  clear cR hx
  have cli := light10_any a cap As wb (hrow.below hBI.p.b) (fun A hA => (hok A hA).below hBI.p.b)
  go_wp2_with fail
  refine cli.mono ?_
  rintro e w2 (⟨rfl, hb2⟩ | ⟨rfl, hb2, hl200, hlA⟩)
  · have h2 := hBI.below hb2
    have cL := lives_any w2 (hG.below h2.p.b)
    clear cli
    go_wp2_with fail
    refine cL.mono ?_
    rintro e w9 ⟨rfl, hb9⟩
    clear cL
    go_wp2_with fail
    go_ret
    exact ⟨rfl, h2.p.b.trans (hb9.mono h2.p.b.size)⟩
  have h2 := hBI.below hb2
  clear cli hBI
  go_wp2_with fail
  go_loopw [46] (fun iv wr => ∃ (j : Nat) (Q : Pl) (ls : List (List Rq)) (a' : Option Addr) (cap' : Nat) (L : List Rq), j ≤ As.length ∧ iv = .int .i64 (j : Int) ∧ Hid (ptr Q = .pointer (some q)) ∧ BothIn w wr Q rp room k ls a' cap' L) (fun iv _ => As.length - (intOf iv).toNat)
  case atStart => exact ⟨0, P0, _, _, _, _, by omega, rfl, hq, h2⟩
  case round =>
    clear h2 hq
    obtain ⟨j, Q2, ls, a2, cap2, L, hj, rfl, hqQ, h3⟩ := hrel
    by_cases hlt : j < As.length
    · have j1 : (j : Int) < (As.length : Int) := by omega
      obtain ⟨ab, aoff, rfl, hab, hre⟩ := (hrow.below h3.p.b).elem (k := 24) (fun A hA => (hok A hA).length) j hlt
      have hoW := hok _ (List.getElem_mem hlt)
      have hlt1 := hlA _ (List.getElem_mem hlt)
      generalize As[j] = A at *
      have hok0 := hok
      clear hok
      have hok := hoW.below h3.p.b
      have hnX : ¬ (Q2.own wr.heap.size ∨ wr.heap.size = rp) := fun hx => by
        rcases hx with hx | hx
        · exact Nat.lt_irrefl _ (h3.p.at_.R.own_lt hx)
        · have := h3.r.lt; omega
      have hiq : (Tryd.prog.info? 40).map (·.size) = some A.cells.length := by rw [hok.length]; exact iszA
      have hiA : (Tryd.prog.info? 40).map (·.size) = some A.cells.toArray.size := by rw [List.size_toArray, hok.length]; exact iszA
      have hN := act_blank hok.length wr
      have h1c := all_oneCell_toArray A.one
      have F := fresh_store wr #[.int .i64 0, .int .i64 0, .int .i64 0, .string ⟨#[]⟩, .int .u8 0, .int .u8 0, .int .u8 0, .int .u8 0, .int .u8 0, .int .u8 0, .int .u8 0, .int .u8 0, .int .u8 0, .int .u8 0, .int .u8 0, .int .u8 0, .int .u8 0, .int .u8 0, .int .u8 0, .int .u8 0, .slice none 0 0, .int .i64 0, .slice none 0 0, .slice none 0 0] 40 A.cells (by rw [hok.length]; rfl)
      obtain ⟨ua, hua⟩ : ∃ u, Hid (A.cells = u) := ⟨_, hide rfl⟩
      rw [hua.out] at hre hiq hiA hN h1c F
      have cB := fun W (h : BothIn w W Q2 rp room k ls a2 cap2 L) => both_any w W Q2 rp room k ls a2 cap2 L A h hk0 hk64 hoW hlt1 hG
      unfold rptr at cB
      simp only [hqQ.out, hua.out] at cB
      have hI : I64 A.r.c ∧ I64 A.r.n := ⟨⟨hok.r.cl, hok.r.ch⟩, ⟨hok.r.nl, hok.r.nh⟩⟩
      go_upto_region 9 with fail
      try simp only [Act.put]
      refine wp_region_list ?_
      refine wpList_step fun K hK => ?_
      go_simp
      refine hK _ _ ?_
      clear hK K
      refine wpList_load_mid rfl 40 _ rfl _ _ rfl ua _ hre Tryd.underlying40 rfl hiq ?_
      go_upto_region 10 with (refine wpList_store_mid (op := ⟨none, .store 40 (.tmp 12) (.tmp 49), _, _, _, none⟩) rfl 40 _ _ rfl _ _ ua.toArray rfl rfl hN hiA h1c ?_)
      go_name_world w3 hw3
      rw [show (wr.alloc (.cells #[.int .i64 0, .int .i64 0, .int .i64 0, .string ⟨#[]⟩, .int .u8 0, .int .u8 0, .int .u8 0, .int .u8 0, .int .u8 0, .int .u8 0, .int .u8 0, .int .u8 0, .int .u8 0, .int .u8 0, .int .u8 0, .int .u8 0, .int .u8 0, .int .u8 0, .int .u8 0, .int .u8 0, .slice none 0 0, .int .i64 0, .slice none 0 0, .slice none 0 0] 40)).setCells wr.heap.size 0 ua = w3 from hw3] at F
      clear hw3 hN
      obtain ⟨hR3, hF3, hz3, -⟩ := F
      rw [← hua.out] at hR3
      have h4 := h3.below hF3
      obtain ⟨X, hX⟩ : ∃ X, wr.heap.size = X := ⟨_, rfl⟩
      have hXl : X < w3.heap.size := by omega
      rw [hX] at hR3 hnX ⊢
      obtain ⟨w8, hw8⟩ : ∃ w8, w3.drew = w8 := ⟨_, rfl⟩
      have hB8 : Below w3.heap.size w3 w8 := by rw [← hw8]; exact (Below.refl _ _).drew
      have h8 := h4.below hB8
      have hX8 : X < w8.heap.size := Nat.lt_of_lt_of_le hXl hB8.size
      have hR8 := range_below hR3 hB8 hXl
      have kr : ∀ w', (fun w' : World => w'.rangeAt X 0 A.cells) w' → w'.rangeAt X 0 ua := fun w' hw' => by rw [← hua.out]; exact hw'
      have cB := cB w8 h8
      clear h3 h4 hre hF3 hX
      refine hs_begin (S := (fun w' : World => w'.rangeAt X 0 A.cells)) 34 rfl (by kernel_rfl) ?_
      rw [hw8]
      clear hw8
      have hS : (fun w' : World => w'.rangeAt X 0 A.cells) w8 := hR8
      refine hs_take (i := 0) (d := some 50) (v := ?_) rfl (by kernel_rfl) (by kernel_rfl) (by kernel_rfl) (by rfl) ?_ hS rfl ?_
      rotate_left
      · intro w' hw
        go_simp
        try with_reducible rfl
      simp only [Act.put, List.setIfInBounds_toArray, List.set_cons_zero, List.set_cons_succ]
      refine hs_take (i := 1) (d := some 51) (v := ?_) rfl (by kernel_rfl) (by kernel_rfl) (by kernel_rfl) (by rfl) ?_ hS rfl ?_
      rotate_left
      · intro w' hw
        go_simp
        try with_reducible rfl
      simp only [Act.put, List.setIfInBounds_toArray, List.set_cons_zero, List.set_cons_succ]
      refine hs_take (i := 2) (d := some 52) (v := .agg ua.toArray) rfl (by kernel_rfl) (by kernel_rfl) (by kernel_rfl) (by rfl) (fun w' hw => exec_load rfl rfl (run_loadVar_mid (P := Tryd.prog) w' X 0 40 ua _ (kr w' hw) Tryd.underlying40 rfl hiq)) hS rfl ?_
      simp only [Act.put, List.setIfInBounds_toArray, List.set_cons_zero, List.set_cons_succ]
      refine hs_call (i := 3) (d := some 53) rfl (by kernel_rfl) (by rfl) (by go_simp; first | done | exact ⟨rfl, rfl⟩ | with_reducible rfl) rfl ?_
      refine (cB).mono ?_
      rintro e' wm ⟨rfl, Q3, ls3, a3, cap3, L3, hq3, h5, hoff⟩
      have hS : (fun w' : World => w'.rangeAt X 0 A.cells) wm := range_at hS (hoff.2 X hX8 hnX)
      refine ⟨_, rfl, hS, ?_⟩
      simp only [Act.put, List.setIfInBounds_toArray, List.set_cons_zero, List.set_cons_succ]
      have hXm : X < wm.heap.size := Nat.lt_of_lt_of_le hX8 hoff.size
      have hSm := hS
      refine hs_moreP (S' := (Below wm.heap.size wm)) (fun w' hw' => range_below hSm hw' hXm) _ _ _ _ ?_
      have hS : (Below wm.heap.size wm) wm := Below.refl _ _
      have hq3' : Hid (ptr Q3 = .pointer (some q)) := hide (by rw [hq3, hqQ.out])
      have cLn := fun W (h : BothIn w W Q3 rp room k ls3 a3 cap3 L3) => len_any Q3 room ls3 W h.p.at_
      have cHs := fun W (h : BothIn w W Q3 rp room k ls3 a3 cap3 L3) => phas_any Q3 room ls3 A.r.c A.r.n hI.1 hI.2 W h.p.at_
      have cRh := fun W (h : BothIn w W Q3 rp room k ls3 a3 cap3 L3) => rhas_any rp k room a3 cap3 L3 A.r.c A.r.n W h.r
      simp only [hq3'.out, h5.rel.size] at cLn
      simp only [hq3'.out, h5.rel.mem] at cHs
      unfold rptr at cRh
      obtain ⟨HB, hHB⟩ : ∃ HB, Hid (decide ((A.r.c, A.r.n) ∈ L3.map pk) = HB) := ⟨_, hide rfl⟩
      simp only [hHB.out] at cHs cRh
      have m2 : ∀ w', Below wm.heap.size wm w' → w'.cell? ⟨rp, 2, none⟩ = some (.slice a3 L3.length cap3) := fun w' hw' => (h5.below hw').r.c2
      have m1 : ∀ w', Below wm.heap.size wm w' → w'.cell? ⟨X, 1, none⟩ = some (.int .i64 A.r.c) := fun w' hw' => by
        have := (act_cells hok.r (range_below hSm hw' hXm)).2.1
        rwa [Nat.zero_add] at this
      have mn : ∀ w', Below wm.heap.size wm w' → w'.cell? ⟨X, 2, none⟩ = some (.int .i64 A.r.n) := fun w' hw' => by
        have := (act_cells hok.r (range_below hSm hw' hXm)).2.2.1
        rwa [Nat.zero_add] at this
      refine hs_take (i := 4) (d := some 54) (v := .bool false) rfl (by kernel_rfl) (by kernel_rfl) (by kernel_rfl) (by rfl) (fun w' hw => by go_simp) hS rfl ?_
      simp only [Act.put, List.setIfInBounds_toArray, List.set_cons_zero, List.set_cons_succ]
      refine hs_take (i := 5) (d := some 55) (v := ?_) rfl (by kernel_rfl) (by kernel_rfl) (by kernel_rfl) (by rfl) ?_ hS rfl ?_
      rotate_left
      · intro w' hw
        go_simp
        try with_reducible rfl
      simp only [Act.put, List.setIfInBounds_toArray, List.set_cons_zero, List.set_cons_succ]
      refine hs_take (i := 6) (d := some 56) (v := ?_) rfl (by kernel_rfl) (by kernel_rfl) (by kernel_rfl) (by rfl) ?_ hS rfl ?_
      rotate_left
      · intro w' hw
        go_simp
        try with_reducible rfl
      simp only [Act.put, List.setIfInBounds_toArray, List.set_cons_zero, List.set_cons_succ]
      refine hs_take (i := 8) (d := some 58) (v := ?_) rfl (by kernel_rfl) (by kernel_rfl) (by kernel_rfl) (by rfl) ?_ hS rfl ?_
      rotate_left
      · intro w' hw
        go_simp
        try with_reducible rfl
      simp only [Act.put, List.setIfInBounds_toArray, List.set_cons_zero, List.set_cons_succ]
      refine hs_take (i := 9) (d := some 59) (v := ?_) rfl (by kernel_rfl) (by kernel_rfl) (by kernel_rfl) (by rfl) ?_ hS rfl ?_
      rotate_left
      · intro w' hw
        go_simp
        try with_reducible rfl
      simp only [Act.put, List.setIfInBounds_toArray, List.set_cons_zero, List.set_cons_succ]
      refine hs_take (i := 10) (d := some 60) (v := ?_) rfl (by kernel_rfl) (by kernel_rfl) (by kernel_rfl) (by rfl) ?_ hS rfl ?_
      rotate_left
      · intro w' hw
        go_simp
        try with_reducible rfl
      simp only [Act.put, List.setIfInBounds_toArray, List.set_cons_zero, List.set_cons_succ]
      refine hs_take (i := 11) (d := some 61) (v := ?_) rfl (by kernel_rfl) (by kernel_rfl) (by kernel_rfl) (by rfl) ?_ hS rfl ?_
      rotate_left
      · intro w' hw
        have hc := m2 w' hw
        go_simp
        try with_reducible rfl
      simp only [Act.put, List.setIfInBounds_toArray, List.set_cons_zero, List.set_cons_succ]
      refine hs_take (i := 12) (d := some 62) (v := ?_) rfl (by kernel_rfl) (by kernel_rfl) (by kernel_rfl) (by rfl) ?_ hS rfl ?_
      rotate_left
      · intro w' hw
        go_simp
        try with_reducible rfl
      simp only [Act.put, List.setIfInBounds_toArray, List.set_cons_zero, List.set_cons_succ]
      refine hs_call (i := 7) (d := some 57) rfl (by kernel_rfl) (by rfl) (by go_simp; first | done | exact ⟨rfl, rfl⟩ | with_reducible rfl) rfl ?_
      refine (cLn wm h5).mono ?_
      rintro e' wl ⟨rfl, hx⟩
      have hS : (Below wm.heap.size wm) wl := by rw [hx]; exact hS
      refine ⟨_, rfl, hS, ?_⟩
      simp only [Act.put, List.setIfInBounds_toArray, List.set_cons_zero, List.set_cons_succ]
      obtain rfl := hx.symm
      clear hx
      refine hs_take (i := 13) (d := some 63) (v := .bool false) rfl (by kernel_rfl) (by kernel_rfl) (by kernel_rfl) (by rfl) (fun w' hw => by go_simp) hS rfl ?_
      simp only [Act.put, List.setIfInBounds_toArray, List.set_cons_zero, List.set_cons_succ]
      refine hs_take (i := 14) (d := some 64) (v := .bool false) rfl (by kernel_rfl) (by kernel_rfl) (by kernel_rfl) (by rfl) (fun w' hw => by go_simp) hS rfl ?_
      simp only [Act.put, List.setIfInBounds_toArray, List.set_cons_zero, List.set_cons_succ]
      refine hs_take (i := 15) (d := some 65) (v := ?_) rfl (by kernel_rfl) (by kernel_rfl) (by kernel_rfl) (by rfl) ?_ hS rfl ?_
      rotate_left
      · intro w' hw
        go_simp
        try with_reducible rfl
      simp only [Act.put, List.setIfInBounds_toArray, List.set_cons_zero, List.set_cons_succ]
      refine hs_take (i := 16) (d := some 66) (v := ?_) rfl (by kernel_rfl) (by kernel_rfl) (by kernel_rfl) (by rfl) ?_ hS rfl ?_
      rotate_left
      · intro w' hw
        go_simp
        try with_reducible rfl
      simp only [Act.put, List.setIfInBounds_toArray, List.set_cons_zero, List.set_cons_succ]
      refine hs_take (i := 17) (d := some 67) (v := ?_) rfl (by kernel_rfl) (by kernel_rfl) (by kernel_rfl) (by rfl) ?_ hS rfl ?_
      rotate_left
      · intro w' hw
        go_simp
        try with_reducible rfl
      simp only [Act.put, List.setIfInBounds_toArray, List.set_cons_zero, List.set_cons_succ]
      refine hs_take (i := 18) (d := some 68) (v := ?_) rfl (by kernel_rfl) (by kernel_rfl) (by kernel_rfl) (by rfl) ?_ hS rfl ?_
      rotate_left
      · intro w' hw
        go_simp
        try with_reducible rfl
      simp only [Act.put, List.setIfInBounds_toArray, List.set_cons_zero, List.set_cons_succ]
      refine hs_take (i := 19) (d := some 69) (v := ?_) rfl (by kernel_rfl) (by kernel_rfl) (by kernel_rfl) (by rfl) ?_ hS rfl ?_
      rotate_left
      · intro w' hw
        have hc := m1 w' hw
        go_simp
        try with_reducible rfl
      simp only [Act.put, List.setIfInBounds_toArray, List.set_cons_zero, List.set_cons_succ]
      refine hs_take (i := 20) (d := some 70) (v := ?_) rfl (by kernel_rfl) (by kernel_rfl) (by kernel_rfl) (by rfl) ?_ hS rfl ?_
      rotate_left
      · intro w' hw
        go_simp
        try with_reducible rfl
      simp only [Act.put, List.setIfInBounds_toArray, List.set_cons_zero, List.set_cons_succ]
      refine hs_take (i := 21) (d := some 71) (v := ?_) rfl (by kernel_rfl) (by kernel_rfl) (by kernel_rfl) (by rfl) ?_ hS rfl ?_
      rotate_left
      · intro w' hw
        go_simp
        try with_reducible rfl
      simp only [Act.put, List.setIfInBounds_toArray, List.set_cons_zero, List.set_cons_succ]
      refine hs_take (i := 22) (d := some 72) (v := ?_) rfl (by kernel_rfl) (by kernel_rfl) (by kernel_rfl) (by rfl) ?_ hS rfl ?_
      rotate_left
      · intro w' hw
        have hc := mn w' hw
        go_simp
        try with_reducible rfl
      simp only [Act.put, List.setIfInBounds_toArray, List.set_cons_zero, List.set_cons_succ]
      refine hs_take (i := 24) (d := some 74) (v := ?_) rfl (by kernel_rfl) (by kernel_rfl) (by kernel_rfl) (by rfl) ?_ hS rfl ?_
      rotate_left
      · intro w' hw
        go_simp
        try with_reducible rfl
      simp only [Act.put, List.setIfInBounds_toArray, List.set_cons_zero, List.set_cons_succ]
      refine hs_take (i := 25) (d := some 75) (v := ?_) rfl (by kernel_rfl) (by kernel_rfl) (by kernel_rfl) (by rfl) ?_ hS rfl ?_
      rotate_left
      · intro w' hw
        go_simp
        try with_reducible rfl
      simp only [Act.put, List.setIfInBounds_toArray, List.set_cons_zero, List.set_cons_succ]
      refine hs_take (i := 26) (d := some 76) (v := ?_) rfl (by kernel_rfl) (by kernel_rfl) (by kernel_rfl) (by rfl) ?_ hS rfl ?_
      rotate_left
      · intro w' hw
        go_simp
        try with_reducible rfl
      simp only [Act.put, List.setIfInBounds_toArray, List.set_cons_zero, List.set_cons_succ]
      refine hs_take (i := 27) (d := some 77) (v := ?_) rfl (by kernel_rfl) (by kernel_rfl) (by kernel_rfl) (by rfl) ?_ hS rfl ?_
      rotate_left
      · intro w' hw
        have hc := m1 w' hw
        go_simp
        try with_reducible rfl
      simp only [Act.put, List.setIfInBounds_toArray, List.set_cons_zero, List.set_cons_succ]
      refine hs_take (i := 28) (d := some 78) (v := ?_) rfl (by kernel_rfl) (by kernel_rfl) (by kernel_rfl) (by rfl) ?_ hS rfl ?_
      rotate_left
      · intro w' hw
        go_simp
        try with_reducible rfl
      simp only [Act.put, List.setIfInBounds_toArray, List.set_cons_zero, List.set_cons_succ]
      refine hs_take (i := 29) (d := some 79) (v := ?_) rfl (by kernel_rfl) (by kernel_rfl) (by kernel_rfl) (by rfl) ?_ hS rfl ?_
      rotate_left
      · intro w' hw
        go_simp
        try with_reducible rfl
      simp only [Act.put, List.setIfInBounds_toArray, List.set_cons_zero, List.set_cons_succ]
      refine hs_take (i := 30) (d := some 80) (v := ?_) rfl (by kernel_rfl) (by kernel_rfl) (by kernel_rfl) (by rfl) ?_ hS rfl ?_
      rotate_left
      · intro w' hw
        have hc := mn w' hw
        go_simp
        try with_reducible rfl
      simp only [Act.put, List.setIfInBounds_toArray, List.set_cons_zero, List.set_cons_succ]
      refine hs_call (i := 23) (d := some 73) rfl (by kernel_rfl) (by rfl) (by go_simp; first | done | exact ⟨rfl, rfl⟩ | with_reducible rfl) rfl ?_
      refine (cHs wm h5).mono ?_
      rintro e' wA ⟨rfl, hbA⟩
      have hS : (Below wm.heap.size wm) wA := hbA
      refine ⟨_, rfl, hS, ?_⟩
      simp only [Act.put, List.setIfInBounds_toArray, List.set_cons_zero, List.set_cons_succ]
      refine hs_call (i := 31) (d := some 81) rfl (by kernel_rfl) (by rfl) (by go_simp; first | done | exact ⟨rfl, rfl⟩ | with_reducible rfl) rfl ?_
      refine (cRh wA (h5.below hbA)).mono ?_
      rintro e' wB ⟨rfl, hbB⟩
      have hS : (Below wm.heap.size wm) wB := hbA.trans (hbB.mono hbA.size)
      refine ⟨_, rfl, hS, ?_⟩
      simp only [Act.put, List.setIfInBounds_toArray, List.set_cons_zero, List.set_cons_succ]
      refine hs_take (i := 32) (d := some 82) (v := .bool false) rfl (by kernel_rfl) (by kernel_rfl) (by kernel_rfl) (by rfl) (fun w' hw => by go_simp) hS rfl ?_
      simp only [Act.put, List.setIfInBounds_toArray, List.set_cons_zero, List.set_cons_succ]
      refine hs_take (i := 33) (d := some 83) (v := .bool false) rfl (by kernel_rfl) (by kernel_rfl) (by kernel_rfl) (by rfl) (fun w' hw => by go_simp) hS rfl ?_
      simp only [Act.put, List.setIfInBounds_toArray, List.set_cons_zero, List.set_cons_succ]
      refine hs_done (by kernel_rfl) ?_
      have h6 := h5.below hS
      clear m1 m2 mn cLn cHs cRh hoff hSm cB kr
      have cIn := fun zz W (h : BothIn w W Q3 rp room k ls3 a3 cap3 L3) => pin_any Q3 room ls3 zz W h.p.at_
      have hsmL : L3.length ≤ 1024 := by rw [← h5.rel.size]; exact h5.p.at_.small
      have cRi := fun zz W (h : BothIn w W Q3 rp room k ls3 a3 cap3 L3) => rin_any rp k room a3 cap3 L3 zz W h.r hk64 (by omega)
      simp only [hq3'.out, h5.rel.inL hk0] at cIn
      unfold rptr at cRi
      have hokL := h5.r.row.2.1
      go_wp2_with fail
      go_loopw [13] (fun iv wr => ∃ t : Int, -1 ≤ t ∧ t ≤ (k : Int) + 1 ∧ iv = .int .i64 t ∧ BothIn w wr Q3 rp room k ls3 a3 cap3 L3) (fun iv _ => ((k : Int) + 1 - intOf iv).toNat)
      case atStart => exact ⟨-1, by omega, by omega, rfl, h6⟩
      case round =>
        clear h6
        obtain ⟨t, ht1, ht2, rfl, h6⟩ := hrel
        by_cases hle : t ≤ (k : Int)
        · have cIn := cIn t wr h6
          have hlf : (L3.filter (inB k t)).length ≤ 1024 := Nat.le_trans (List.length_filter_le _ _) hsmL
          have hrk : ∀ r ∈ L3.filter (inB k t), r.ok := fun r hr => hokL r (List.mem_filter.1 hr).1
          go_wp2_with fail
          refine cIn.mono ?_
          rintro e w5 ⟨v1, rfl, ho1, hb5⟩
          obtain ⟨b1, bc1, rfl, -, -, hRA1, -⟩ := own_reqs0 ho1 hrk (by unfold maxLen; omega)
          have h7 := h6.below hb5
          have cRi := cRi t w5 h7
          clear cIn ho1
          go_wp2_with fail
          refine cRi.mono ?_
          rintro e w6 ⟨v2, rfl, ho2, hb6⟩
          obtain ⟨b2, bc2, rfl, -, -, hRA2, -⟩ := own_reqs0 ho2 hrk (by unfold maxLen; omega)
          have h8 := h7.below hb6
          have cS := sameR_any b1 b2 bc1 bc2 _ w6 (hRA1.below hb6) hRA2
          clear cRi ho2
          go_wp2_with fail
          refine cS.mono ?_
          rintro e w7 ⟨rfl, hb7⟩
          have h9 := h8.below hb7
          clear cS
          go_wp2_with fail
          go_roundw
          case rel => exact ⟨t + 1, by omega, by omega, by go_num, h9⟩
          case measure => simp [intOf]; omega
        · go_wp2_with fail
          go_roundw
          case rel => exact ⟨j + 1, Q3, ls3, a3, cap3, L3, by omega, by go_num, hq3', h6⟩
          case measure => simp [intOf]; omega
    · have j1 : ¬ (j : Int) < (As.length : Int) := by omega
      have cL := lives_any wr (hG.below h3.p.b)
      go_wp2_with fail
      refine cL.mono ?_
      rintro e w9 ⟨rfl, hb9⟩
      clear cL
      go_wp2_with fail
      go_ret
      exact ⟨rfl, h3.p.b.trans (hb9.mono h3.p.b.size)⟩
end Go.Proofs.YtbfcbjjhdadicaaDoor
namespace Go.Proofs.YtbfcbjjhdadicaaDoor
open Go.ChangeShapes Go.WideShapes Go.ChangeAt Go.RowKit
open Sha Tal
set_option maxRecDepth 100000 in
theorem agg_of {W : World} {base : Nat} {t : TypeId} {fs : Array Field} {v : Value} (hu : Tryd.prog.underlying t = some (.struct fs)) (hv : Value.okWide Tryd.prog W .any base t v) : ∃ cs : Array Value, v = .agg cs := by
  unfold Value.okWide at hv
  rw [hu] at hv
  obtain ⟨cs, rfl, _⟩ := hv
  exact ⟨cs, rfl⟩
set_option maxRecDepth 100000 in
theorem open_act {H : Type} {enc : TypeId × Value → H} {W : World} {base b : Nat} {sp : Nat → Bool} {held : Bool} {fuel : Nat} {v : Value} {x : DataW H × List MemPlace} (hv : Value.okWide Tryd.prog W .any base 40 v)
    (h : DataW.trod enc Tryd.prog W b sp held fuel 40 v.cells.toList = some x) : ∃ A : Ac, v = .agg A.cells.toArray ∧ A.ok W := by
  obtain ⟨cs, rfl⟩ := agg_of Tryd.underlying40 hv
  obtain ⟨A, hA, ok⟩ := act_of h
  refine ⟨A, ?_, ok⟩
  rw [← hA]
  simp [Value.cells]
set_option maxRecDepth 100000 in
theorem open_rq {H : Type} {enc : TypeId × Value → H} {W : World} {base b : Nat} {sp : Nat → Bool} {held : Bool} {fuel : Nat} {v : Value} {x : DataW H × List MemPlace} (hv : Value.okWide Tryd.prog W .any base 35 v)
    (h : DataW.trod enc Tryd.prog W b sp held fuel 35 v.cells.toList = some x) : ∃ r : Rq, v = .agg r.cells.toArray ∧ r.ok := by
  obtain ⟨cs, rfl⟩ := agg_of Tryd.underlying35 hv
  obtain ⟨r, hr, ok⟩ := req_of h
  refine ⟨r, ?_, ok⟩
  rw [← hr]
  simp [Value.cells]
set_option maxRecDepth 100000 in
theorem acts_of {H : Type} {enc : TypeId × Value → H} {W : World} {b : Nat} {sp : Nat → Bool} {held : Bool} {fuel : Nat} {l : List Value} {x : DataW H × List MemPlace}
    (h : DataW.trod enc Tryd.prog W b sp held fuel 22 l = some x) : ∃ (a : Option Addr) (cap : Nat) (ys : List Ac), l = [.slice a ys.length cap] ∧ ys.length ≤ cap ∧ cap ≤ maxLen ∧ (∀ y ∈ ys, y.ok W) ∧ RowOf Ac.cells W a ys :=
  rows_of Ac.cells (Ac.ok W) 24 (by omega) 22 40 Tryd.underlying22 (by kernel_rfl) (fun _ h => h.length) (fun _ _ _ hz => act_of hz) h
set_option maxRecDepth 100000 in
theorem wins_of {H : Type} {enc : TypeId × Value → H} {W : World} {b : Nat} {sp : Nat → Bool} {held : Bool} {fuel : Nat} {l : List Value} {x : DataW H × List MemPlace}
    (h : DataW.trod enc Tryd.prog W b sp held fuel 38 l = some x) : ∃ (a : Option Addr) (cap : Nat) (ys : List (Int × Int)), l = [.slice a ys.length cap] ∧ ys.length ≤ cap ∧ cap ≤ maxLen ∧ (∀ y ∈ ys, winOk y) ∧ RowOf winL W a ys :=
  rows_of winL winOk 2 (by omega) 38 69 Tryd.underlying38 (by kernel_rfl) (fun _ _ => rfl) (fun _ _ _ hz => win_of hz) h
set_option maxRecDepth 100000 in
theorem reqs_of2 {H : Type} {enc : TypeId × Value → H} {W : World} {b : Nat} {sp : Nat → Bool} {held : Bool} {fuel : Nat} {l : List Value} {x : DataW H × List MemPlace}
    (h : DataW.trod enc Tryd.prog W b sp held fuel 43 l = some x) : ∃ (a : Option Addr) (cap : Nat) (ys : List Rq), l = [.slice a ys.length cap] ∧ ys.length ≤ cap ∧ cap ≤ maxLen ∧ (∀ y ∈ ys, y.ok) ∧ RowOf Rq.cells W a ys :=
  rows_of Rq.cells Rq.ok 19 (by omega) 43 35 Tryd.underlying43 (by kernel_rfl) (fun _ h => h.length) (fun _ _ _ hz => req_of hz) h
end Go.Proofs.YtbfcbjjhdadicaaDoor
namespace Go.Proofs.YtbfcbjjhdadicaaDoor.poolPlays
open Go.ChangeShapes Go.WideShapes Go.ChangeAt Go.RowKit
open Go.ChangeMaps (open_string shut_string)
set_option linter.unusedVariables false
set_option maxRecDepth 100000 in
theorem lifted (os : Os) (started : os.Started) (H : Type) (enc : TypeId × Value → H) :
    ReturnsInHanded {} Tryd.checked os 3 .any (fun w args => (Rows.poolPlaysSpec.pre enc Tryd.prog Tryd.f3 [] false w args ∧ laidMetH Tryd.prog laid2 w) ∧ sizedMet enc Tryd.prog Tryd.f3 (OpenSpec.ofChange Rows.poolPlaysSpec) false w args)
      (Rows.poolPlaysSpec.post enc Tryd.prog Tryd.f3 false true false false) := by
  refine returnsInHanded_of_change_and (C := Tryd.checked) (X := fun w _ => laidMetH Tryd.prog laid2 w) (fun _ _ _ hh h => h.of_heap hh) own started (by kernel_rfl) Tryd.func3
    (ChangeSpec.witness_shaped (enc := enc) (C := Tryd.checked) (os := os) (X := fun w _ => laidMetH Tryd.prog laid2 w) false (World.doorLaid Tryd.prog 400 os) #[.int .i64 0, .int .i64 0, .slice none 0 0] 8 rfl (World.shaped_of_RefB (by kernel_rfl) (by kernel_rfl)) (by kernel_rfl) (by kernel_rfl) (by kernel_rfl) (door_met os _)) ?_
  intro W base args ds gs before hval0 hW _ _ hL _
  have hval : ∀ (j : Nat) t v, Tryd.f3.params[j]? = some t → args[j]? = some v → Value.okWide Tryd.prog W .any base t v := hval0
  have hW' := hW
  obtain ⟨p, q, hA0, hV, rfl, hfz, hnd⟩ := hW
  have hA : DataW.TrodAll enc Tryd.prog W 0 (fun _ => true) true Tryd.f3.params.toList args.toList ds p := hA0
  rw [Tryd.params3] at hA hval
  obtain ⟨v0, vs0, d0, ds0, p0, q0, hargs, rfl, rfl, h0, r0⟩ := trodAll_cons hA
  obtain ⟨v1, vs1, d1, ds1, p1, q1, rfl, rfl, rfl, h1, r1⟩ := trodAll_cons r0
  obtain ⟨v2, vs2, d2, ds2, p2, q2, rfl, rfl, rfl, h2, r2⟩ := trodAll_cons r1
  obtain ⟨rfl, rfl, rfl⟩ := trodAll_nil r2
  obtain rfl : args = #[v0, v1, v2] := by cases args; simp_all
  obtain ⟨rfl, rfl⟩ := trodVars_none hV
  have k0 := h0
  have lt0 : ∀ x ∈ p0, x.block < W.heap.size := by obtain ⟨m, hm⟩ := k0; exact DataW.trod_lt m _ _ _ hm
  have k1 := h1
  have lt1 : ∀ x ∈ p1, x.block < W.heap.size := by obtain ⟨m, hm⟩ := k1; exact DataW.trod_lt m _ _ _ hm
  have k2 := h2
  have lt2 : ∀ x ∈ p2, x.block < W.heap.size := by obtain ⟨m, hm⟩ := k2; exact DataW.trod_lt m _ _ _ hm
  obtain ⟨n0, rfl, rfl, rfl, hn0⟩ := open_int Tryd.underlying3 (hval 0 3 v0 rfl rfl) h0
  obtain ⟨n1, rfl, rfl, rfl, hn1⟩ := open_int Tryd.underlying3 (hval 1 3 v1 rfl rfl) h1
  obtain ⟨al2, len2, cl2, rfl⟩ := okWide_slice Tryd.underlying22 (hval 2 22 v2 rfl rfl)
  obtain ⟨fuel2, hf2⟩ := h2
  obtain ⟨a2, cap2, ys2, hcs2, hc2, hm2, ok2, row2⟩ := acts_of hf2
  simp [Value.cells] at hcs2
  obtain ⟨rfl, rfl, rfl⟩ := hcs2
  have hG := glob_of hL
  clear hA0 hval0
  refine (plays_walk n0 n1 al2 cl2 ys2 W row2 ok2 hG).mono fun e W' ⟨he, bel⟩ => ?_
  subst he
  exact ⟨_, rfl, _, _, _, [], _, [], hW', trodAll_mk1 (shut_bool Tryd.underlying4 _), (trodAll_cons_mk (Below.trod laidOut (by kernel_rfl) (of_decide_eq_true (by kernel_rfl)) k0 bel lt0) (trodAll_cons_mk (Below.trod laidOut (by kernel_rfl) (of_decide_eq_true (by kernel_rfl)) k1 bel lt1) (trodAll_cons_mk (Below.trod laidOut (by kernel_rfl) (of_decide_eq_true (by kernel_rfl)) k2 bel lt2) trodAll_mk0))), rfl, bel.frame _, fun h => by cases h⟩
theorem over : Rows.PoolPlaysSaid :=
  OpenClaim.holds_of_wide 3 Tryd.f3 rfl rfl rfl rfl rfl rfl rfl ⟨rfl, rfl, rfl, rfl, rfl⟩ rfl rfl rfl rfl rfl (by kernel_rfl) Tryd.func3 (by kernel_rfl)
    (of_decide_eq_true (by kernel_rfl)) (by unfold Func.isWrapper; first | (rw [if_pos (by decide +kernel)]; kernel_rfl) | (rw [if_neg (by decide +kernel)]; exact ⟨rfl, rfl⟩))
    (fun os started H enc _ => lifted os started H enc)
end Go.Proofs.YtbfcbjjhdadicaaDoor.poolPlays
namespace Go.Proofs.YtbfcbjjhdadicaaDoor
theorem poolPlays_card : Rows.PoolPlaysCardSaid :=
  Claim7.holds_tied_plain_at .later [] [.data, .data] true (true, "15f8242bcfff4a6da0bd0f246fb945aa82358d4233e2f1118f44094cde8f5ec3") false
    poolPlays.over (fun _ h => by cases h) (by kernel_rfl) (fun _ h => by cases h) poolPlays_row_tie rfl ⟨rfl, rfl⟩ (by kernel_rfl) rfl
    (fun f fn hf hfn => by
      obtain rfl : f = 3 := Option.some.inj ((show Tryd.prog.funcNamed "raddle/raddlelaw10.PoolPlays" = some 3 by kernel_rfl).symm.trans hf) |>.symm
      obtain rfl : fn = Tryd.f3 := (Option.some.inj (Tryd.func3.symm.trans hfn)).symm
      exact ⟨by kernel_rfl, fun j t ht => by
        rw [Tryd.params3] at ht
        rcases j with _ | _ | _ | j
        · obtain rfl : t = 3 := by simpa using ht.symm
          exact (show Tryd.prog.wantsStandIn 3 = false by kernel_rfl)
        · obtain rfl : t = 3 := by simpa using ht.symm
          exact (show Tryd.prog.wantsStandIn 3 = false by kernel_rfl)
        · obtain rfl : t = 22 := by simpa using ht.symm
          exact (show Tryd.prog.wantsStandIn 22 = false by kernel_rfl)
        · simp at ht⟩)
    (by kernel_rfl)
#print axioms poolPlays_card
end Go.Proofs.YtbfcbjjhdadicaaDoor
