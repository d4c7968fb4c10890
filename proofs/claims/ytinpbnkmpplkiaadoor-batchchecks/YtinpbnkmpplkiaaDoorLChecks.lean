/- The law BatchOnce: its walk. the document's Good The law BatchChecks: its walk. Whether any batch may be, with so many clients and requests, and what stands in it twice, is as the document says. Conditions: none beyond the row's own; the card ties the tables 'starts' and 'roots' of package digest to the program's text (of the pruned copy of the project). -/
import Derived.Test.YtinpbnkmpplkiaaDoorJBb
import Derived.Test.YtinpbnkmpplkiaaDoorJBa
import Derived.Test.YtinpbnkmpplkiaaDoorFrameR
namespace Go.Proofs.YtinpbnkmpplkiaaDoor
open Go.RowKit
open Sha Tal
theorem one_bat (w : World) (q : Bool) (a : Option Addr) (cap : Nat) (rs : List Rq) (h : (Bat.mk q a cap rs).at w) :
    BatsAt (w.alloc (.cells #[.bool q, .slice a rs.length cap] 24)) w.heap.size [⟨q, a, cap, rs⟩] := by
  have hb : Below w.heap.size w (w.alloc (.cells #[.bool q, .slice a rs.length cap] 24)) := (Below.refl _ _).alloc (Nat.le_refl _) _
  refine ⟨by simp, fun x hx => ?_, by simp, range_new w #[.bool q, .slice a rs.length cap] 24⟩
  obtain rfl := List.mem_singleton.1 hx
  exact h.below hb
theorem wtR_le1 : ∀ (rs : List Rq), rs.length * 20 ≤ wtR rs ∧ ∀ r ∈ rs, r.s.size ≤ wtR rs
  | [] => ⟨by simp [wtR], by simp⟩
  | r :: rs => by
    have ih := wtR_le1 rs
    have e : wtR (r :: rs) = 20 + r.s.size + wtR rs := by simp [wtR]
    refine ⟨by rw [e]; simp; omega, fun x hx => ?_⟩
    rw [e]
    rcases List.mem_cons.1 hx with rfl | hx
    · omega
    · have := ih.2 x hx; omega
theorem wt1 {q : Bool} {a : Option Addr} {cap : Nat} {rs : List Rq} (h : wt [⟨q, a, cap, rs⟩] ≤ 4000) : rs.length ≤ 200 ∧ ∀ r ∈ rs, r.s.size ≤ 4000 := by
  have e : wt [⟨q, a, cap, rs⟩] = 5 + wtR rs := by simp [wt]
  rw [e] at h
  have h1 := wtR_le1 rs
  exact ⟨by omega, fun r hr => by have := h1.2 r hr; omega⟩
theorem oneK : rkL.toArray.all (·.oneCell') = true := by simp [rkL, Value.oneCell']
theorem GoodIs.zero {ds : List (List Int)} {N m most : Int} {q : Bool} {rs : List Rq} (h : GoodIs ds N m most q rs 0) : ∀ i, (hi : i < rs.length) → rs[i].good ds N m = 0 ∧ dupB rs i = false := by
  intro i hi
  rcases h with ⟨_, h⟩ | ⟨_, h⟩
  · cases h
  · rcases h with ⟨_, h⟩ | ⟨_, _, _, h, _⟩
    · exact stop_dup hi (h i hi)
    · exact absurd rfl h
set_option maxRecDepth 100000 in
set_option maxHeartbeats 4000000 in
theorem once_walk (q : Bool) (a : Option Addr) (cap : Nat) (rs : List Rq) (m : Int) (w : World) (hG : Glob w) (h : ReqsAt w a rs) (hc : rs.length ≤ cap) (hm : cap ≤ maxLen) :
    Calls Tryd.prog 8 #[batV q a rs.length cap, .int .i64 m] w fun e w' => e = .returned (.bool true) ∧ Below w.heap.size w w' := by
  have hall := h.2.1
  have cgd := fun p w0 hk hg h0 hn => bgood_any p (keysOf seedR 72) 4 m 100 q a cap rs w0 hk hg h0 hn
  unfold batV at cgd ⊢
  have hB1 : Below w.heap.size w (w.alloc (.cells #[.bool q, .slice a rs.length cap] 24)) := (Below.refl _ _).alloc (Nat.le_refl _) _
  have hbx := BatBox.mk w q a rs.length cap
  have hib := batI q a rs.length cap
  go_enter Tryd.func8, Tryd.ntmps8
  go_upto_region 1 with fail
  go_name_world w1 hw1
  rw [hw1] at hB1 hbx
  clear hw1
  obtain ⟨X, hXe⟩ : ∃ X, Hid (w.heap.size = X) := ⟨_, hide rfl⟩
  rw [hXe.out] at hbx ⊢
  have hL := one_bat w1 q a cap rs ⟨h.below hB1, hc, hm⟩
  have hB2' : Below w1.heap.size w1 (w1.alloc (.cells #[.bool q, .slice a rs.length cap] 24)) := (Below.refl _ _).alloc (Nat.le_refl _) _
  have hB2 := hB1.trans (hB2'.mono hB1.size)
  have hbx2 := hbx.below hB2'
  have cl := light_any w1.heap.size 1 _ _ hL
  try simp only [Act.put]
  refine wp_region_list ?_
  refine wpList_load_mid rfl 24 _ rfl _ _ rfl [.bool q, .slice a rs.length cap] _ hbx.2.2.2 Tryd.underlying24 rfl hib ?_
  clear hbx hL
  simp only [List.length_cons, List.length_nil, Nat.zero_add] at cl
  go_wp2_with fail
  refine cl.mono ?_
  rintro e w3 hcase
  clear cl
  generalize w1.alloc (.cells #[.bool q, .slice a rs.length cap] 24) = w2 at *
  rcases hcase with ⟨rfl, hw3⟩ | ⟨rfl, hw3, hwt⟩
  · have hB3 := hB2.trans (hw3.mono hB2.size)
    go_wp2_with fail
    refine (lives7_any w3 (hG.below hB3)).mono ?_
    rintro e wz ⟨rfl, hwz⟩
    go_wp2_with fail
    go_ret
    exact ⟨rfl, (hB3).trans (hwz.mono (hB3).size)⟩
  have hB3 := hB2.trans (hw3.mono hB2.size)
  have hbx3 := hbx2.below hw3
  clear hbx2 hB2' hB2 hw3
  obtain ⟨hn, hs⟩ := wt1 hwt
  clear hwt
  go_wp2_with fail
  refine (keys6_any w3 (hG.below hB3)).mono ?_
  rintro e w4 ⟨p, rfl, hp, hk4, hw4⟩
  have hB4 := hB3.trans (hw4.mono hB3.size)
  have hbx4 := hbx3.below hw4
  clear hB3 hbx3 hw4 hp
  have F := fresh_store w4 #[.string ⟨#[]⟩, .int .i64 0] 29 rkL rfl
  have hN2 : (w4.alloc (.cells #[.string ⟨#[]⟩, .int .i64 0] 29)).there w4.heap.size 0 rkL.toArray.size := there_new w4 #[.string ⟨#[]⟩, .int .i64 0] 29
  go_upto_region 4 with (refine wpList_store_mid (op := ⟨none, .store 29 (.tmp 6) (.tmp 19), _, _, _, none⟩) rfl 29 _ _ rfl _ _ rkL.toArray rfl rfl hN2 iszK oneK ?_)
  go_name_world w5 hw5
  rw [show (w4.alloc (.cells #[.string ⟨#[]⟩, .int .i64 0] 29)).setCells w4.heap.size 0 rkL = w5 from hw5] at F
  clear hw5 hN2
  obtain ⟨_, hF5, _, _⟩ := F
  have hB5 := hB4.trans (hF5.mono hB4.size)
  have hbx5 := hbx4.below hF5
  have hk5 := hk4.below hF5
  clear hB4 hbx4 hk4 hF5
  try simp only [Act.put]
  refine wp_region_list ?_
  refine wpList_step fun K hK => ?_
  go_simp
  refine hK _ _ ?_
  clear hK K
  refine wpList_step fun K hK => ?_
  go_simp
  refine hK _ _ ?_
  clear hK K
  refine wpList_load_mid rfl 24 _ rfl _ _ rfl [.bool q, .slice a rs.length cap] _ hbx5.2.2.2 Tryd.underlying24 rfl hib ?_
  go_wp2_with fail
  refine (cgd p w5 hk5 (hG.below hB5) (h.below hB5) hn).mono ?_
  rintro e w6 ⟨y, rfl, hy, hw6⟩
  have hB6 := hB5.trans (hw6.mono hB5.size)
  have hbx6 := hbx5.below hw6
  have hk6 := hk5.below hw6
  clear hB5 hbx5 hk5 hw6 cgd
  by_cases hy0 : y = 0
  rotate_left
  · have b0 : (y == 0) = false := by simpa using hy0
    clear hy hy0
    go_wp2_with fail
    refine (lives7_any w6 (hG.below hB6)).mono ?_
    rintro e wz ⟨rfl, hwz⟩
    go_wp2_with fail
    go_ret
    exact ⟨rfl, (hB6).trans (hwz.mono (hB6).size)⟩
  have b0 : (y == 0) = true := by simpa using hy0
  subst hy0
  have HY := hide hy.zero
  clear hy b0
  have h6 := h.below hB6
  have hG6 := hG.below hB6
  obtain ⟨hX6, _, x1, _⟩ := id hbx6
  clear hbx6
  go_wp2
  go_loopw [29] (fun iv wr => ∃ (k : Nat), k ≤ rs.length ∧ iv = .int .i64 (k : Int) ∧ Below w6.heap.size w6 wr) (fun iv _ => rs.length - (intOf iv).toNat)
  case atStart => exact ⟨0, by omega, rfl, Below.refl _ _⟩
  case round =>
    obtain ⟨k, hk, rfl, hB⟩ := hrel
    obtain ⟨wo, rfl⟩ : ∃ wo, wo = wr := ⟨_, rfl⟩
    by_cases hlt : k < rs.length
    · have k1 : (k : Int) < rs.length := by omega
      obtain ⟨b, off, rfl, hb, hre⟩ := (h6.below hB).elem k hlt
      obtain ⟨r, hr⟩ : ∃ r, Hid (rs[k] = r) := ⟨_, hide rfl⟩
      have hok : r.ok := by rw [← hr.out]; exact hall _ (List.getElem_mem hlt)
      rw [hr.out] at hre
      have HU : Hid (∀ j, (hj : j < k) → ¬ (rs[j].c = r.c ∧ rs[j].n = r.n)) := hide (fun j hj he => by
        have h1 := (HY.out k hlt).2
        have h2 := (dupB_iff hlt).2 ⟨j, hj, by rw [hr.out]; show (rs[j].c, rs[j].n) = (r.c, r.n); rw [he.1, he.2]⟩
        rw [h1] at h2; cases h2)
      have cg := fun w0 hk0 hg0 => good_any p (keysOf seedR 72) 4 m r.c r.n r.s r.t w0 hk0 hg0 hok.tl hok.ch
      have hgz : goodV (keysOf seedR 72) 4 m r.c r.n r.s r.t = 0 := by have := (HY.out k hlt).1; rw [hr.out] at this; exact this
      simp only [hgz] at cg
      clear hr hgz
      have hiq := hok.isz
      have hiA := hok.iszA
      have hN := hok.blank wo
      have h1c := all_oneCell_toArray r.one
      have F := fresh_store wo #[.int .i64 0, .int .i64 0, .string ⟨#[]⟩, .int .u8 0, .int .u8 0, .int .u8 0, .int .u8 0, .int .u8 0, .int .u8 0, .int .u8 0, .int .u8 0, .int .u8 0, .int .u8 0, .int .u8 0, .int .u8 0, .int .u8 0, .int .u8 0, .int .u8 0, .int .u8 0] 60 r.cells (by rw [hok.length]; rfl)
      have hcel := fun (w0 : World) (b0 : Nat) (hh : w0.rangeAt b0 0 r.cells) => reqL_0 hh
      obtain ⟨u, hu⟩ : ∃ u, Hid (r.cells = u) := ⟨_, hide rfl⟩
      rw [hu.out] at hre hiq hiA hN h1c F
      simp only [show reqL r.c r.n r.s r.t = u from hu.out] at cg
      simp only [hu.out] at hcel
      clear hu
      go_upto_region 8 with fail
      try simp only [Act.put]
      refine wp_region_list ?_
      refine wpList_step fun K hK => ?_
      go_simp
      refine hK _ _ ?_
      clear hK K
      refine wpList_step fun K hK => ?_
      go_simp
      refine hK _ _ ?_
      clear hK K
      refine wpList_load_mid rfl 60 _ rfl _ _ rfl u _ hre Tryd.underlying60 rfl hiq ?_
      go_upto_region 9 with (refine wpList_store_mid (op := ⟨none, .store 60 (.tmp 8) (.tmp 33), _, _, _, none⟩) rfl 60 _ _ rfl _ _ u.toArray rfl rfl hN hiA h1c ?_)
      go_name_world w7 hw7
      rw [show (wo.alloc (.cells #[.int .i64 0, .int .i64 0, .string ⟨#[]⟩, .int .u8 0, .int .u8 0, .int .u8 0, .int .u8 0, .int .u8 0, .int .u8 0, .int .u8 0, .int .u8 0, .int .u8 0, .int .u8 0, .int .u8 0, .int .u8 0, .int .u8 0, .int .u8 0, .int .u8 0, .int .u8 0] 60)).setCells wo.heap.size 0 u = w7 from hw7] at F
      clear hw7 hN
      obtain ⟨hR7, hF7, hz7, _⟩ := F
      have hB7 := hB.trans (hF7.mono hB.size)
      have hX7 : wo.heap.size < w7.heap.size := by omega
      clear hF7 hre hz7 hB
      obtain ⟨Y, hY⟩ : ∃ Y, Hid (wo.heap.size = Y) := ⟨_, hide rfl⟩
      rw [hY.out] at hR7 hX7 ⊢
      try simp only [Act.put]
      refine wp_region_list ?_
      refine wpList_step fun K hK => ?_
      go_simp
      refine hK _ _ ?_
      clear hK K
      refine wpList_step fun K hK => ?_
      go_simp
      refine hK _ _ ?_
      clear hK K
      refine wpList_load_mid rfl 60 _ rfl _ _ rfl u _ hR7 Tryd.underlying60 rfl hiq ?_
      go_wp2_with fail
      refine (cg w7 (hk6.below hB7) (hG6.below hB7)).mono ?_
      rintro e w8 ⟨rfl, hw8⟩
      have hB8 := hB7.trans (hw8.mono hB7.size)
      have hR8 := range_below hR7 hw8 hX7
      have hX8 := Nat.lt_of_lt_of_le hX7 hw8.size
      have x8 := (hB8.cell (p := ⟨X, 1, none⟩) hX6).trans x1
      obtain ⟨g0, g1, _⟩ := hcel w8 Y hR8
      clear hB7 hR7 hX7 cg hw8 hcel hY
      have hkc : k ≤ cap := by omega
      go_wp2
      go_loopw [44] (fun jv wr => ∃ (j : Nat), j ≤ k ∧ jv = .int .i64 (j : Int) ∧ Below w8.heap.size w8 wr) (fun jv _ => k - (intOf jv).toNat)
      case atStart => exact ⟨0, by omega, rfl, Below.refl _ _⟩
      case round =>
        clear x8
        obtain ⟨j, hj, rfl, hBj⟩ := hrel
        by_cases hjl : j < k
        · have j1 : (j : Int) < k := by omega
          have hjr : j < rs.length := by omega
          obtain ⟨b', off', hbe, hb', hre'⟩ := ((h6.below hB8).below hBj).elem j hjr
          obtain ⟨rfl, rfl⟩ : b = b' ∧ off = off' := by simpa using hbe
          obtain ⟨r', hr'⟩ : ∃ r, Hid (rs[j] = r) := ⟨_, hide rfl⟩
          have hok' : r'.ok := by rw [← hr'.out]; exact hall _ (List.getElem_mem hjr)
          have hne : ¬ (r'.c = r.c ∧ r'.n = r.n) := by rw [← hr'.out]; exact HU.out j hjl
          rw [hr'.out] at hre'
          have hiq' := hok'.isz
          have hiA' := hok'.iszA
          have hN' := hok'.blank wr
          have h1c' := all_oneCell_toArray r'.one
          have F := fresh_store wr #[.int .i64 0, .int .i64 0, .string ⟨#[]⟩, .int .u8 0, .int .u8 0, .int .u8 0, .int .u8 0, .int .u8 0, .int .u8 0, .int .u8 0, .int .u8 0, .int .u8 0, .int .u8 0, .int .u8 0, .int .u8 0, .int .u8 0, .int .u8 0, .int .u8 0, .int .u8 0] 60 r'.cells (by rw [hok'.length]; rfl)
          have hcel := fun (w0 : World) (b0 : Nat) (hh : w0.rangeAt b0 0 r'.cells) => reqL_0 hh
          obtain ⟨u', hu'⟩ : ∃ u, Hid (r'.cells = u) := ⟨_, hide rfl⟩
          rw [hu'.out] at hre' hiq' hiA' hN' h1c' F
          simp only [hu'.out] at hcel
          clear hu' hr' hbe hb' hok'
          go_upto_region 13 with fail
          try simp only [Act.put]
          refine wp_region_list ?_
          refine wpList_step fun K hK => ?_
          go_simp
          refine hK _ _ ?_
          clear hK K
          refine wpList_load_mid rfl 60 _ rfl _ _ rfl u' _ hre' Tryd.underlying60 rfl hiq' ?_
          go_upto_region 14 with (refine wpList_store_mid (op := ⟨none, .store 60 (.tmp 10) (.tmp 47), _, _, _, none⟩) rfl 60 _ _ rfl _ _ u'.toArray rfl rfl hN' hiA' h1c' ?_)
          go_name_world w9 hw9
          rw [show (wr.alloc (.cells #[.int .i64 0, .int .i64 0, .string ⟨#[]⟩, .int .u8 0, .int .u8 0, .int .u8 0, .int .u8 0, .int .u8 0, .int .u8 0, .int .u8 0, .int .u8 0, .int .u8 0, .int .u8 0, .int .u8 0, .int .u8 0, .int .u8 0, .int .u8 0, .int .u8 0, .int .u8 0] 60)).setCells wr.heap.size 0 u' = w9 from hw9] at F
          clear hw9 hN'
          obtain ⟨hR9, hF9, hz9, _⟩ := F
          have hB9 := hBj.trans (hF9.mono hBj.size)
          obtain ⟨f0, f1, _⟩ := hcel w9 _ hR9
          have y0 := (hB9.cell (p := ⟨Y, 0, none⟩) hX8).trans g0
          have y1 := (hB9.cell (p := ⟨Y, 1, none⟩) hX8).trans g1
          clear hF9 hre' hcel hR9 hBj
          by_cases hcc : r'.c = r.c
          · have hb1 : (r'.c == r.c) = true := by simpa using hcc
            have hb2 : (r'.n == r.n) = false := by
              have : ¬ r'.n = r.n := fun hx => hne ⟨hcc, hx⟩
              simpa using this
            clear hcc hne
            go_wp2
            go_roundw
            case rel => exact ⟨j + 1, by omega, by go_num, hB9⟩
            case measure => simp [intOf]; omega
          · have hb1 : (r'.c == r.c) = false := by simpa using hcc
            clear hcc hne
            go_wp2
            go_roundw
            case rel => exact ⟨j + 1, by omega, by go_num, hB9⟩
            case measure => simp [intOf]; omega
        · have j1 : ¬ (j : Int) < k := by omega
          go_wp2
          go_roundw
          case rel => exact ⟨k + 1, by omega, by go_num, hB8.trans (hBj.mono hB8.size)⟩
          case measure => simp [intOf]; omega
    · have k1 : ¬ (k : Int) < rs.length := by omega
      have hB10 := hB6.trans (hB.mono hB6.size)
      go_wp2_with fail
      refine (lives7_any wo (hG.below hB10)).mono ?_
      rintro e wz ⟨rfl, hwz⟩
      go_wp2_with fail
      go_ret
      exact ⟨rfl, (hB10).trans (hwz.mono (hB10).size)⟩
end Go.Proofs.YtinpbnkmpplkiaaDoor
namespace Go.Proofs.YtinpbnkmpplkiaaDoor
open Go.RowKit
open Sha Tal
theorem ReqsAt.take {w : World} {a : Option Addr} {rs : List Rq} (h : ReqsAt w a rs) (k : Nat) : ReqsAt w a (rs.take k) := by
  refine ⟨by have := h.1; rw [List.length_take]; omega, fun r hr => h.2.1 r (List.mem_of_mem_take hr), ?_⟩
  rcases h.2.2 with h0 | ⟨b, off, rfl, h1, h2⟩
  · left; rw [h0]; simp
  · right
    refine ⟨b, off, rfl, h1, ?_⟩
    have e : flatR rs = flatR (rs.take k) ++ flatR (rs.drop k) := by rw [← flatR_append, List.take_append_drop]
    rw [e] at h2
    exact range_left h2
theorem dupB_take {rs : List Rq} {k i : Nat} (hi : i < k) : dupB (rs.take k) i = dupB rs i := by
  unfold dupB
  rw [List.getElem?_take_of_lt hi, List.take_take, Nat.min_eq_left (by omega)]
theorem twice_ref {rs : List Rq} {z : Int} {k : Nat} (hz : TwiceIs (rs.take (k + 1)) z) (hk : k < rs.length) (hno : ∀ j, j < k → dupB rs j = false) : dupB rs k = decide (0 ≤ z) := by
  have hl : (rs.take (k + 1)).length = k + 1 := by rw [List.length_take]; omega
  rcases hz with ⟨rfl, h1⟩ | ⟨i, rfl, hi, h2, h3⟩
  · have := h1 k (by omega)
    rw [dupB_take (by omega)] at this
    rw [this]; rfl
  · rw [hl] at hi
    rw [dupB_take hi] at h2
    have hik : i = k := by
      by_cases e : i < k
      · rw [hno i e] at h2; cases h2
      · omega
    subst hik
    rw [h2, decide_eq_true (by omega)]
set_option maxRecDepth 100000 in
set_option maxHeartbeats 2000000 in
theorem refBgood_any (N m most : Int) (q : Bool) (a : Option Addr) (cap : Nat) (rs : List Rq) (w : World) (h : ReqsAt w a rs) (hn : rs.length ≤ 200) (hcp : rs.length ≤ cap) (hcm : cap ≤ maxLen) :
    Calls Tryd.prog 13 #[.agg rkL.toArray, .int .i64 N, .int .i64 m, .int .i64 most, batV q a rs.length cap] w fun e w' => ∃ y : Int, e = .returned (.int .i64 y) ∧ GoodIs (keysOf seedR 72) N m most q rs y ∧ Below w.heap.size w w' := by
  unfold batV
  unfold maxLen at hcm
  have hall := h.2.1
  have hB1 : Below w.heap.size w ((w.alloc (.cells rkL.toArray 29)).alloc (.cells #[.bool q, .slice a rs.length cap] 24)) := ((Below.refl _ _).alloc (Nat.le_refl _) _).alloc (by simp) _
  have hb1 := BatBox.mk (w.alloc (.cells rkL.toArray 29)) q a rs.length cap
  have hK1 : ((w.alloc (.cells rkL.toArray 29)).alloc (.cells #[.bool q, .slice a rs.length cap] 24)).rangeAt w.heap.size 0 rkL := World.rangeAt_alloc (range_new w rkL.toArray 29) _
  rw [World.size_alloc] at hb1
  obtain ⟨ds, hds⟩ : ∃ ds, Hid (keysOf seedR 72 = ds) := ⟨_, hide rfl⟩
  obtain ⟨Q, hQ⟩ : ∃ Q, Hid (GoodIs (keysOf seedR 72) N m most q rs = Q) := ⟨_, hide rfl⟩
  have HQT : Hid (tooMany q rs most → Q 70) := hide (fun hh => by rw [← hQ.out]; exact .inl ⟨hh, rfl⟩)
  have HQ0 : Hid (¬ tooMany q rs most → (∀ i, i < rs.length → stopV (keysOf seedR 72) N m rs i = 0) → Q 0) := hide (fun ht hh => by rw [← hQ.out]; exact .inr ⟨ht, .inl ⟨rfl, hh⟩⟩)
  have HQ1 : Hid (¬ tooMany q rs most → ∀ k y, k < rs.length → y = stopV (keysOf seedR 72) N m rs k → y ≠ 0 → (∀ j, j < k → stopV (keysOf seedR 72) N m rs j = 0) → Q y) := hide (fun ht k y hk hy h0 hh => by rw [← hQ.out]; exact .inr ⟨ht, .inr ⟨k, hk, hy, h0, hh⟩⟩)
  rw [hQ.out]
  rw [hds.out] at HQ0 HQ1
  clear hQ
  go_enter Tryd.func13, Tryd.ntmps13
  go_upto_region 1 with fail
  go_name_world w1 hw1
  rw [show (w.alloc (.cells rkL.toArray 29)).alloc (.cells #[.bool q, .slice a rs.length cap] 24) = w1 from hw1] at hB1 hb1 hK1
  clear hw1
  have h1 := h.below hB1
  obtain ⟨hX, c0, c1, _⟩ := hb1
  obtain ⟨V, hVe⟩ : ∃ V, Hid (w.heap.size = V) := ⟨_, hide rfl⟩
  obtain ⟨X, hXe⟩ : ∃ X, Hid (w.heap.size + 1 = X) := ⟨_, hide rfl⟩
  have hVX : V < w1.heap.size := by rw [← hVe.out]; omega
  rw [hXe.out] at hX c0 c1 ⊢
  rw [hVe.out] at hK1 ⊢
  by_cases hq : q = true ∧ rs ≠ []
  · have HZ : Hid (Q 70) := hide (HQT.out (.inl hq))
    obtain ⟨rfl, hq⟩ := hq
    have dq : decide (0 < rs.length) = true := decide_eq_true (List.length_pos_iff.2 hq)
    clear hq HQT HQ0 HQ1
    go_wp2
    go_ret
    exact ⟨_, rfl, HZ.out, hB1⟩
  by_cases hmo : most < (rs.length : Int)
  · have HZ : Hid (Q 70) := hide (HQT.out (.inr hmo))
    clear HQT HQ0 HQ1
    cases q
    · clear hq
      go_wp2
      go_ret
      exact ⟨_, rfl, HZ.out, hB1⟩
    · have hq0 : rs = [] := Classical.byContradiction fun hl => hq ⟨rfl, hl⟩
      subst hq0
      clear hq
      have hmo : most < 0 := hmo
      go_wp2
      go_ret
      exact ⟨_, rfl, HZ.out, hB1⟩
  have HT : Hid (¬ tooMany q rs most) := hide (fun hh => by
    rcases hh with hh | hh
    · exact hq hh
    · exact hmo hh)
  have hqq : q = false ∨ (q = true ∧ rs = []) := by
    cases q
    · exact .inl rfl
    · exact .inr ⟨rfl, Classical.byContradiction fun hl => hq ⟨rfl, hl⟩⟩
  clear hq
  have HR0 := hide (HQ0.out HT.out)
  have HR1 := hide (HQ1.out HT.out)
  clear HT HQT HQ0 HQ1
  rcases hqq with rfl | ⟨rfl, rfl⟩
  rotate_left
  · have hmo : ¬ most < 0 := hmo
    have HZ : Hid (Q 0) := hide (HR0.out (fun i hi => by simp at hi))
    clear HR0 HR1
    go_wp2
    go_loopw [11] (fun iv wr => iv = .int .i64 0 ∧ Below w1.heap.size w1 wr) (fun _ _ => 0)
    case atStart => exact ⟨rfl, Below.refl _ _⟩
    case round =>
      obtain ⟨rfl, hB⟩ := hrel
      have c2 := (hB.cell (p := ⟨X, 1, none⟩) hX).trans c1
      go_wp2
      go_ret
      exact ⟨_, rfl, HZ.out, hB1.trans (hB.mono hB1.size)⟩
  · go_wp2
    go_loopw [11] (fun iv wr => ∃ (k : Nat), k ≤ rs.length ∧ iv = .int .i64 (k : Int) ∧ Hid (∀ j, j < k → stopV ds N m rs j = 0) ∧ Below w1.heap.size w1 wr) (fun iv _ => rs.length - (intOf iv).toNat)
    case atStart => exact ⟨0, by omega, rfl, hide (fun j hj => absurd hj (by omega)), Below.refl _ _⟩
    case round =>
      obtain ⟨k, hk, rfl, HD, hB⟩ := hrel
      have c1' := (hB.cell (p := ⟨X, 1, none⟩) hX).trans c1
      by_cases hlt : k < rs.length
      · have k1 : (k : Int) < rs.length := by omega
        have hrow := h1.below hB
        obtain ⟨b, off, rfl, hb, hre⟩ := hrow.elem k hlt
        obtain ⟨r, hr⟩ : ∃ r, Hid (rs[k] = r) := ⟨_, hide rfl⟩
        have hok : r.ok := by rw [← hr.out]; exact hall _ (List.getElem_mem hlt)
        rw [hr.out] at hre
        have HU : Hid (stopV ds N m rs k = if r.good ds N m ≠ 0 then r.good ds N m else if dupB rs k then 202 else 0) := hide (by rw [stopV_at hlt, hr.out])
        have HV : Hid (∀ z, TwiceIs (rs.take (k + 1)) z → dupB rs k = decide (0 ≤ z)) := hide (fun z hz => twice_ref hz hlt (fun j hj => (stop_dup (by omega) (HD.out j hj)).2))
        have hiq := hok.isz
        have cg := fun w0 => refGood_any N m r.c r.n r.s r.t w0 hok.tl
        obtain ⟨u, hu⟩ : ∃ u, Hid (r.cells = u) := ⟨_, hide rfl⟩
        rw [hu.out] at hre hiq
        simp only [show reqL r.c r.n r.s r.t = u from hu.out, hds.out] at cg
        obtain ⟨g, hg⟩ : ∃ g, Hid (r.good ds N m = g) := ⟨_, hide rfl⟩
        simp only [show goodV ds N m r.c r.n r.s r.t = g from hg.out] at cg
        rw [hg.out] at HU
        clear hu hok hg hr hrow
        have hktl : (rs.take (k + 1)).length = k + 1 := by rw [List.length_take]; omega
        have ctw := fun w0 h0 => refTwice_any (some ⟨b, off, none⟩) cap (rs.take (k + 1)) w0 h0
        simp only [hktl] at ctw
        have hkc : k + 1 ≤ cap := by omega
        clear hktl
        go_upto_region 6 with fail
        obtain ⟨w5, hw5⟩ : ∃ w5, wr.drew = w5 := ⟨_, rfl⟩
        have hB5 : Below w1.heap.size w1 w5 := by rw [← hw5]; exact hB.drew
        have hre5 : w5.rangeAt b (off + k * 19) u := by rw [← hw5]; exact (World.rangeAt_drew _ _ _ _).2 hre
        have hb5 : b < w5.heap.size := by rw [← hw5]; exact hb
        have hK5 := range_below hK1 hB5 hVX
        have hV5 : V < w5.heap.size := Nat.lt_of_lt_of_le hVX hB5.size
        have c2 : ∀ w', Below w5.heap.size w5 w' → w'.cell? ⟨X, 1, none⟩ = some (.slice (some ⟨b, off, none⟩) rs.length cap) := fun w' hw' => ((hB5.trans (hw'.mono hB5.size)).cell (p := ⟨X, 1, none⟩) hX).trans c1
        refine hs_begin (S := (Below w5.heap.size w5)) 10 rfl (by kernel_rfl) ?_
        rw [hw5]
        clear hw5 c1' hB hre hb
        have hS : (Below w5.heap.size w5) w5 := Below.refl _ _
        refine hs_take (i := 0) (d := some 35) (v := .agg rkL.toArray) rfl (by kernel_rfl) (by kernel_rfl) (by kernel_rfl) (by rfl) (fun w' hw => exec_load rfl rfl (run_loadVar_mid (P := Tryd.prog) w' V 0 29 rkL _ (range_below hK5 hw hV5) Tryd.underlying29 rfl iszK)) hS rfl ?_
        simp only [Act.put, List.setIfInBounds_toArray, List.set_cons_zero, List.set_cons_succ]
        refine hs_take (i := 1) (d := some 36) (v := ?_) rfl (by kernel_rfl) (by kernel_rfl) (by kernel_rfl) (by rfl) ?_ hS rfl ?_
        rotate_left
        · intro w' hw
          go_simp
          try with_reducible rfl
        simp only [Act.put, List.setIfInBounds_toArray, List.set_cons_zero, List.set_cons_succ]
        refine hs_take (i := 2) (d := some 37) (v := ?_) rfl (by kernel_rfl) (by kernel_rfl) (by kernel_rfl) (by rfl) ?_ hS rfl ?_
        rotate_left
        · intro w' hw
          go_simp
          try with_reducible rfl
        simp only [Act.put, List.setIfInBounds_toArray, List.set_cons_zero, List.set_cons_succ]
        refine hs_take (i := 3) (d := some 38) (v := ?_) rfl (by kernel_rfl) (by kernel_rfl) (by kernel_rfl) (by rfl) ?_ hS rfl ?_
        rotate_left
        · intro w' hw
          go_simp
          try with_reducible rfl
        simp only [Act.put, List.setIfInBounds_toArray, List.set_cons_zero, List.set_cons_succ]
        refine hs_take (i := 4) (d := some 39) (v := ?_) rfl (by kernel_rfl) (by kernel_rfl) (by kernel_rfl) (by rfl) ?_ hS rfl ?_
        rotate_left
        · intro w' hw
          have hc := c2 w' hw
          go_simp
          try with_reducible rfl
        simp only [Act.put, List.setIfInBounds_toArray, List.set_cons_zero, List.set_cons_succ]
        refine hs_take (i := 5) (d := some 40) (v := ?_) rfl (by kernel_rfl) (by kernel_rfl) (by kernel_rfl) (by rfl) ?_ hS rfl ?_
        rotate_left
        · intro w' hw
          go_simp
          try with_reducible rfl
        simp only [Act.put, List.setIfInBounds_toArray, List.set_cons_zero, List.set_cons_succ]
        refine hs_take (i := 6) (d := some 41) (v := ?_) rfl (by kernel_rfl) (by kernel_rfl) (by kernel_rfl) (by rfl) ?_ hS rfl ?_
        rotate_left
        · intro w' hw
          go_simp
          try with_reducible rfl
        simp only [Act.put, List.setIfInBounds_toArray, List.set_cons_zero, List.set_cons_succ]
        refine hs_take (i := 7) (d := some 42) (v := .agg u.toArray) rfl (by kernel_rfl) (by kernel_rfl) (by kernel_rfl) (by rfl) (fun w' hw => exec_load rfl rfl (run_loadVar_mid (P := Tryd.prog) w' b (off + k * 19) 60 u _ (range_below hre5 hw hb5) Tryd.underlying60 rfl hiq)) hS rfl ?_
        simp only [Act.put, List.setIfInBounds_toArray, List.set_cons_zero, List.set_cons_succ]
        refine hs_call (i := 8) (d := some 43) rfl (by kernel_rfl) (by rfl) (by go_simp; first | done | exact ⟨rfl, rfl⟩ | with_reducible rfl) rfl ?_
        refine (cg w5).mono ?_
        rintro e' w6 ⟨rfl, hw6⟩
        have hS : (Below w5.heap.size w5) w6 := hS.trans (hw6.mono hS.size)
        refine ⟨_, rfl, hS, ?_⟩
        simp only [Act.put, List.setIfInBounds_toArray, List.set_cons_zero, List.set_cons_succ]
        refine hs_take (i := 9) (d := some 12) (v := ?_) rfl (by kernel_rfl) (by kernel_rfl) (by kernel_rfl) (by rfl) ?_ hS rfl ?_
        rotate_left
        · intro w' hw
          go_simp
          try with_reducible rfl
        simp only [Act.put, List.setIfInBounds_toArray, List.set_cons_zero, List.set_cons_succ]
        refine hs_done (by kernel_rfl) ?_
        have hB6 := hB5.trans (hS.mono hB5.size)
        have c6 := c2 w6 hS
        have hfin6 := hB1.trans (hB6.mono hB1.size)
        clear c2 hre5 hb5 hK5 hV5 cg hS hw6 hB5
        by_cases hg0 : g = 0
        · rw [if_neg (by rw [hg0]; simp)] at HU
          have b0 : (g == 0) = true := by simpa using hg0
          clear hg0
          go_wp2_with fail
          refine (ctw w6 ((h1.below hB6).take (k + 1))).mono ?_
          rintro e w7 ⟨z, rfl, hz, hw7⟩
          have hB7 := hB6.trans (hw7.mono hB6.size)
          have hfin := hB1.trans (hB7.mono hB1.size)
          have HW := hide (HV.out z hz)
          clear hz c6 ctw hw7 hB6 hfin6 HV b0
          by_cases hz0 : 0 ≤ z
          · rw [HW.out, if_pos (decide_eq_true hz0)] at HU
            have HF : Hid (Q 202) := hide (HR1.out k 202 hlt HU.out.symm (by decide) HD.out)
            clear HU HD HW
            go_wp2
            go_ret
            exact ⟨_, rfl, HF.out, hfin⟩
          · rw [HW.out, if_neg (by rw [decide_eq_false hz0]; decide)] at HU
            have HD' : Hid (∀ j, j < k + 1 → stopV ds N m rs j = 0) := hide (fun j hj => by
              by_cases e : j = k
              · rw [e]; exact HU.out
              · exact HD.out j (by omega))
            clear HU HD HW
            go_wp2
            go_roundw
            case rel => exact ⟨k + 1, by omega, by go_num, HD', hB7⟩
            case measure => simp [intOf]; omega
        · have b0 : (g == 0) = false := by simpa using hg0
          rw [if_pos hg0] at HU
          have HF : Hid (Q g) := hide (HR1.out k g hlt HU.out.symm hg0 HD.out)
          clear hg0 HU HD HV
          go_wp2
          go_ret
          exact ⟨_, rfl, HF.out, hfin6⟩
      · have HF : Hid (Q 0) := hide (HR0.out (fun i hi => HD.out i (by omega)))
        have k1 : ¬ (k : Int) < rs.length := by omega
        clear HD
        go_wp2
        go_ret
        exact ⟨_, rfl, HF.out, hB1.trans (hB.mono hB1.size)⟩
end Go.Proofs.YtinpbnkmpplkiaaDoor
namespace Go.Proofs.YtinpbnkmpplkiaaDoor
open Go.RowKit
open Sha Tal
theorem BatBox.drew1 {w : World} {b : Nat} {q : Bool} {a : Option Addr} {n cap : Nat} (h : BatBox w b q a n cap) : BatBox w.drew b q a n cap :=
  ⟨h.1, h.2.1, h.2.2.1, (World.rangeAt_drew _ _ _ _).2 h.2.2.2⟩
set_option maxRecDepth 100000 in
set_option maxHeartbeats 4000000 in
theorem checks_walk (q : Bool) (a : Option Addr) (cap : Nat) (rs : List Rq) (m most : Int) (w : World) (hG : Glob w) (h : ReqsAt w a rs) (hc : rs.length ≤ cap) (hm : cap ≤ maxLen) :
    Calls Tryd.prog 3 #[batV q a rs.length cap, .int .i64 m, .int .i64 most] w fun e w' => e = .returned (.bool true) ∧ Below w.heap.size w w' := by
  have cgd := fun p w0 hk hg h0 hn => bgood_any p (keysOf seedR 72) 4 m most q a cap rs w0 hk hg h0 hn
  have crg := fun w0 h0 hn hc hm => refBgood_any 4 m most q a cap rs w0 h0 hn hc hm
  have ctw := fun w0 h0 hn => twice_any a cap rs w0 h0 hn
  have crt := fun w0 h0 => refTwice_any a cap rs w0 h0
  have cnn := fun w0 => none_any w0
  have csm : ∀ w0 : World, Calls Tryd.prog 16 #[batV true none 0 0, batV true none 0 0] w0 fun e w' => e = .returned (.bool true) ∧ Below w0.heap.size w0 w' := fun w0 =>
    (refBSame_any true none 0 [] true none 0 [] w0 ReqsAt.none ReqsAt.none).mono (fun e w' hh => by
      rcases hh with ⟨⟨h1, _⟩ | ⟨_, h2⟩, h3⟩
      · exact ⟨h1, h3⟩
      · exact absurd ⟨rfl, rfl⟩ h2)
  unfold batV at cgd crg cnn csm ⊢
  have hB1 : Below w.heap.size w (w.alloc (.cells #[.bool q, .slice a rs.length cap] 24)) := (Below.refl _ _).alloc (Nat.le_refl _) _
  have hbx := BatBox.mk w q a rs.length cap
  have hib := batI q a rs.length cap
  go_enter Tryd.func3, Tryd.ntmps3
  go_upto_region 1 with fail
  go_name_world w1 hw1
  rw [hw1] at hB1 hbx
  clear hw1
  obtain ⟨X, hXe⟩ : ∃ X, Hid (w.heap.size = X) := ⟨_, hide rfl⟩
  rw [hXe.out] at hbx ⊢
  have hL := one_bat w1 q a cap rs ⟨h.below hB1, hc, hm⟩
  have hB2' : Below w1.heap.size w1 (w1.alloc (.cells #[.bool q, .slice a rs.length cap] 24)) := (Below.refl _ _).alloc (Nat.le_refl _) _
  have hB2 := hB1.trans (hB2'.mono hB1.size)
  have hbx2 := hbx.below hB2'
  have cl := light_any w1.heap.size 1 _ _ hL
  try simp only [Act.put]
  refine wp_region_list ?_
  refine wpList_load_mid rfl 24 _ rfl _ _ rfl [.bool q, .slice a rs.length cap] _ hbx.2.2.2 Tryd.underlying24 rfl hib ?_
  clear hbx hL
  simp only [List.length_cons, List.length_nil, Nat.zero_add] at cl
  go_wp2_with fail
  refine cl.mono ?_
  rintro e w3 hcase
  clear cl
  generalize w1.alloc (.cells #[.bool q, .slice a rs.length cap] 24) = w2 at *
  rcases hcase with ⟨rfl, hw3⟩ | ⟨rfl, hw3, hwt⟩
  · have hB3 := hB2.trans (hw3.mono hB2.size)
    go_wp2_with fail
    refine (lives7_any w3 (hG.below hB3)).mono ?_
    rintro e wz ⟨rfl, hwz⟩
    go_wp2_with fail
    go_ret
    exact ⟨rfl, (hB3).trans (hwz.mono (hB3).size)⟩
  have hB3 := hB2.trans (hw3.mono hB2.size)
  have hbx3 := hbx2.below hw3
  clear hbx2 hB2' hB2 hw3
  obtain ⟨hn, hs⟩ := wt1 hwt
  clear hwt
  go_wp2_with fail
  refine (keys6_any w3 (hG.below hB3)).mono ?_
  rintro e w4 ⟨p, rfl, hp, hk4, hw4⟩
  have hB4 := hB3.trans (hw4.mono hB3.size)
  have hbx4 := hbx3.below hw4
  clear hB3 hbx3 hw4 hp
  have F := fresh_store w4 #[.string ⟨#[]⟩, .int .i64 0] 29 rkL rfl
  have hN2 : (w4.alloc (.cells #[.string ⟨#[]⟩, .int .i64 0] 29)).there w4.heap.size 0 rkL.toArray.size := there_new w4 #[.string ⟨#[]⟩, .int .i64 0] 29
  go_upto_region 4 with (refine wpList_store_mid (op := ⟨none, .store 29 (.tmp 8) (.tmp 17), _, _, _, none⟩) rfl 29 _ _ rfl _ _ rkL.toArray rfl rfl hN2 iszK oneK ?_)
  go_name_world w5 hw5
  rw [show (w4.alloc (.cells #[.string ⟨#[]⟩, .int .i64 0] 29)).setCells w4.heap.size 0 rkL = w5 from hw5] at F
  clear hw5 hN2
  obtain ⟨hR5, hF5, hz5, _⟩ := F
  have hB5 := hB4.trans (hF5.mono hB4.size)
  have hbx5 := hbx4.below hF5
  have hk5 := hk4.below hF5
  obtain ⟨Y, hYe⟩ : ∃ Y, Hid (w4.heap.size = Y) := ⟨_, hide rfl⟩
  rw [hYe.out] at hR5 hz5 ⊢
  have hY5 : Y < w5.heap.size := by omega
  clear hB4 hbx4 hk4 hF5 hz5 hYe
  try simp only [Act.put]
  obtain ⟨w7, hw7⟩ : ∃ w7, w5.drew = w7 := ⟨_, rfl⟩
  have hB7 : Below w.heap.size w w7 := by rw [← hw7]; exact hB5.drew
  have hbx7 : BatBox w7 X q a rs.length cap := by rw [← hw7]; exact hbx5.drew1
  have hR7 : w7.rangeAt Y 0 rkL := by rw [← hw7]; exact (World.rangeAt_drew _ _ _ _).2 hR5
  have hY7 : Y < w7.heap.size := by rw [← hw7]; exact hY5
  have hk7 : KeysAt w7 p (keysOf seedR 72) := by rw [← hw7]; exact hk5.below (Below.refl _ _).drew
  have h7 := h.below hB7
  refine hs_begin (S := (Below w7.heap.size w7)) 29 rfl (by kernel_rfl) ?_
  rw [hw7]
  clear hw7 hB5 hbx5 hR5 hY5 hk5
  have hS : (Below w7.heap.size w7) w7 := Below.refl _ _
  refine hs_take (i := 0) (d := some 18) (v := ?_) rfl (by kernel_rfl) (by kernel_rfl) (by kernel_rfl) (by rfl) ?_ hS rfl ?_
  rotate_left
  · intro w' hw
    go_simp
    try with_reducible rfl
  simp only [Act.put, List.setIfInBounds_toArray, List.set_cons_zero, List.set_cons_succ]
  refine hs_take (i := 1) (d := some 19) (v := ?_) rfl (by kernel_rfl) (by kernel_rfl) (by kernel_rfl) (by rfl) ?_ hS rfl ?_
  rotate_left
  · intro w' hw
    go_simp
    try with_reducible rfl
  simp only [Act.put, List.setIfInBounds_toArray, List.set_cons_zero, List.set_cons_succ]
  refine hs_take (i := 2) (d := some 20) (v := ?_) rfl (by kernel_rfl) (by kernel_rfl) (by kernel_rfl) (by rfl) ?_ hS rfl ?_
  rotate_left
  · intro w' hw
    go_simp
    try with_reducible rfl
  simp only [Act.put, List.setIfInBounds_toArray, List.set_cons_zero, List.set_cons_succ]
  refine hs_take (i := 3) (d := some 21) (v := .agg #[.bool q, .slice a rs.length cap]) rfl (by kernel_rfl) (by kernel_rfl) (by kernel_rfl) (by rfl) (fun w' hw => exec_load rfl rfl (run_loadVar_mid (P := Tryd.prog) w' X 0 24 [.bool q, .slice a rs.length cap] _ (hbx7.below hw).2.2.2 Tryd.underlying24 rfl hib)) hS rfl ?_
  simp only [Act.put, List.setIfInBounds_toArray, List.set_cons_zero, List.set_cons_succ]
  refine hs_take (i := 5) (d := some 23) (v := .agg rkL.toArray) rfl (by kernel_rfl) (by kernel_rfl) (by kernel_rfl) (by rfl) (fun w' hw => exec_load rfl rfl (run_loadVar_mid (P := Tryd.prog) w' Y 0 29 rkL _ (range_below hR7 hw hY7) Tryd.underlying29 rfl iszK)) hS rfl ?_
  simp only [Act.put, List.setIfInBounds_toArray, List.set_cons_zero, List.set_cons_succ]
  refine hs_take (i := 6) (d := some 24) (v := ?_) rfl (by kernel_rfl) (by kernel_rfl) (by kernel_rfl) (by rfl) ?_ hS rfl ?_
  rotate_left
  · intro w' hw
    go_simp
    try with_reducible rfl
  simp only [Act.put, List.setIfInBounds_toArray, List.set_cons_zero, List.set_cons_succ]
  refine hs_take (i := 7) (d := some 25) (v := ?_) rfl (by kernel_rfl) (by kernel_rfl) (by kernel_rfl) (by rfl) ?_ hS rfl ?_
  rotate_left
  · intro w' hw
    go_simp
    try with_reducible rfl
  simp only [Act.put, List.setIfInBounds_toArray, List.set_cons_zero, List.set_cons_succ]
  refine hs_take (i := 8) (d := some 26) (v := .agg #[.bool q, .slice a rs.length cap]) rfl (by kernel_rfl) (by kernel_rfl) (by kernel_rfl) (by rfl) (fun w' hw => exec_load rfl rfl (run_loadVar_mid (P := Tryd.prog) w' X 0 24 [.bool q, .slice a rs.length cap] _ (hbx7.below hw).2.2.2 Tryd.underlying24 rfl hib)) hS rfl ?_
  simp only [Act.put, List.setIfInBounds_toArray, List.set_cons_zero, List.set_cons_succ]
  refine hs_call (i := 4) (d := some 22) rfl (by kernel_rfl) (by rfl) (by go_simp; first | done | exact ⟨rfl, rfl⟩ | with_reducible rfl) rfl ?_
  refine (cgd p w7 hk7 (hG.below hB7) h7 hn).mono ?_
  rintro e' w8 ⟨y, rfl, hy, hw8⟩
  have hS : (Below w7.heap.size w7) w8 := hS.trans (hw8.mono hS.size)
  refine ⟨_, rfl, hS, ?_⟩
  simp only [Act.put, List.setIfInBounds_toArray, List.set_cons_zero, List.set_cons_succ]
  refine hs_call (i := 9) (d := some 27) rfl (by kernel_rfl) (by rfl) (by go_simp; first | done | exact ⟨rfl, rfl⟩ | with_reducible rfl) rfl ?_
  refine (crg w8 (h7.below hS) hn hc hm).mono ?_
  rintro e' w9 ⟨y', rfl, hy', hw9⟩
  have hS : (Below w7.heap.size w7) w9 := hS.trans (hw9.mono hS.size)
  refine ⟨_, rfl, hS, ?_⟩
  simp only [Act.put, List.setIfInBounds_toArray, List.set_cons_zero, List.set_cons_succ]
  obtain rfl := hy.one hy'
  clear hy hy'
  refine hs_take (i := 10) (d := some 28) (v := .bool true) rfl (by kernel_rfl) (by kernel_rfl) (by kernel_rfl) (by rfl) (fun w' hw => by go_simp) hS rfl ?_
  simp only [Act.put, List.setIfInBounds_toArray, List.set_cons_zero, List.set_cons_succ]
  refine hs_take (i := 11) (d := some 29) (v := ?_) rfl (by kernel_rfl) (by kernel_rfl) (by kernel_rfl) (by rfl) ?_ hS rfl ?_
  rotate_left
  · intro w' hw
    go_simp
    try with_reducible rfl
  simp only [Act.put, List.setIfInBounds_toArray, List.set_cons_zero, List.set_cons_succ]
  refine hs_take (i := 12) (d := some 30) (v := ?_) rfl (by kernel_rfl) (by kernel_rfl) (by kernel_rfl) (by rfl) ?_ hS rfl ?_
  rotate_left
  · intro w' hw
    go_simp
    try with_reducible rfl
  simp only [Act.put, List.setIfInBounds_toArray, List.set_cons_zero, List.set_cons_succ]
  refine hs_take (i := 13) (d := some 31) (v := ?_) rfl (by kernel_rfl) (by kernel_rfl) (by kernel_rfl) (by rfl) ?_ hS rfl ?_
  rotate_left
  · intro w' hw
    have hc := (hbx7.below hw).2.2.1
    go_simp
    try with_reducible rfl
  simp only [Act.put, List.setIfInBounds_toArray, List.set_cons_zero, List.set_cons_succ]
  refine hs_take (i := 15) (d := some 33) (v := ?_) rfl (by kernel_rfl) (by kernel_rfl) (by kernel_rfl) (by rfl) ?_ hS rfl ?_
  rotate_left
  · intro w' hw
    go_simp
    try with_reducible rfl
  simp only [Act.put, List.setIfInBounds_toArray, List.set_cons_zero, List.set_cons_succ]
  refine hs_take (i := 16) (d := some 34) (v := ?_) rfl (by kernel_rfl) (by kernel_rfl) (by kernel_rfl) (by rfl) ?_ hS rfl ?_
  rotate_left
  · intro w' hw
    have hc := (hbx7.below hw).2.2.1
    go_simp
    try with_reducible rfl
  simp only [Act.put, List.setIfInBounds_toArray, List.set_cons_zero, List.set_cons_succ]
  refine hs_call (i := 14) (d := some 32) rfl (by kernel_rfl) (by rfl) (by go_simp; first | done | exact ⟨rfl, rfl⟩ | with_reducible rfl) rfl ?_
  refine (ctw w9 (h7.below hS) hn).mono ?_
  rintro e' w10 ⟨z, rfl, hz, hw10⟩
  have hS : (Below w7.heap.size w7) w10 := hS.trans (hw10.mono hS.size)
  refine ⟨_, rfl, hS, ?_⟩
  simp only [Act.put, List.setIfInBounds_toArray, List.set_cons_zero, List.set_cons_succ]
  refine hs_call (i := 17) (d := some 35) rfl (by kernel_rfl) (by rfl) (by go_simp; first | done | exact ⟨rfl, rfl⟩ | with_reducible rfl) rfl ?_
  refine (crt w10 (h7.below hS)).mono ?_
  rintro e' w11 ⟨z', rfl, hz', hw11⟩
  have hS : (Below w7.heap.size w7) w11 := hS.trans (hw11.mono hS.size)
  refine ⟨_, rfl, hS, ?_⟩
  simp only [Act.put, List.setIfInBounds_toArray, List.set_cons_zero, List.set_cons_succ]
  obtain rfl := hz.one hz'
  clear hz hz'
  refine hs_take (i := 18) (d := some 36) (v := .bool true) rfl (by kernel_rfl) (by kernel_rfl) (by kernel_rfl) (by rfl) (fun w' hw => by go_simp) hS rfl ?_
  simp only [Act.put, List.setIfInBounds_toArray, List.set_cons_zero, List.set_cons_succ]
  refine hs_take (i := 19) (d := some 37) (v := .bool true) rfl (by kernel_rfl) (by kernel_rfl) (by kernel_rfl) (by rfl) (fun w' hw => by go_simp) hS rfl ?_
  simp only [Act.put, List.setIfInBounds_toArray, List.set_cons_zero, List.set_cons_succ]
  refine hs_take (i := 20) (d := some 38) (v := ?_) rfl (by kernel_rfl) (by kernel_rfl) (by kernel_rfl) (by rfl) ?_ hS rfl ?_
  rotate_left
  · intro w' hw
    go_simp
    try with_reducible rfl
  simp only [Act.put, List.setIfInBounds_toArray, List.set_cons_zero, List.set_cons_succ]
  refine hs_take (i := 22) (d := some 40) (v := .agg #[.bool true, .slice none 0 0]) rfl (by kernel_rfl) (by kernel_rfl) (by kernel_rfl) (by rfl) (fun w' hw => by go_simp) hS rfl ?_
  simp only [Act.put, List.setIfInBounds_toArray, List.set_cons_zero, List.set_cons_succ]
  refine hs_call (i := 21) (d := some 39) rfl (by kernel_rfl) (by rfl) (by go_simp; first | done | exact ⟨rfl, rfl⟩ | with_reducible rfl) rfl ?_
  refine (cnn w11).mono ?_
  rintro e' w12 ⟨rfl, hw12⟩
  have hS : (Below w7.heap.size w7) w12 := hS.trans (hw12.mono hS.size)
  refine ⟨_, rfl, hS, ?_⟩
  simp only [Act.put, List.setIfInBounds_toArray, List.set_cons_zero, List.set_cons_succ]
  refine hs_call (i := 23) (d := some 41) rfl (by kernel_rfl) (by rfl) (by go_simp; first | done | exact ⟨rfl, rfl⟩ | with_reducible rfl) rfl ?_
  refine (csm w12).mono ?_
  rintro e' w13 ⟨rfl, hw13⟩
  have hS : (Below w7.heap.size w7) w13 := hS.trans (hw13.mono hS.size)
  refine ⟨_, rfl, hS, ?_⟩
  simp only [Act.put, List.setIfInBounds_toArray, List.set_cons_zero, List.set_cons_succ]
  refine hs_take (i := 24) (d := some 42) (v := .bool true) rfl (by kernel_rfl) (by kernel_rfl) (by kernel_rfl) (by rfl) (fun w' hw => by go_simp) hS rfl ?_
  simp only [Act.put, List.setIfInBounds_toArray, List.set_cons_zero, List.set_cons_succ]
  refine hs_take (i := 25) (d := some 43) (v := ?_) rfl (by kernel_rfl) (by kernel_rfl) (by kernel_rfl) (by rfl) ?_ hS rfl ?_
  rotate_left
  · intro w' hw
    go_simp
    try with_reducible rfl
  simp only [Act.put, List.setIfInBounds_toArray, List.set_cons_zero, List.set_cons_succ]
  refine hs_call (i := 26) (d := some 44) rfl (by kernel_rfl) (by rfl) (by go_simp; first | done | exact ⟨rfl, rfl⟩ | with_reducible rfl) rfl ?_
  refine (lives7_any w13 (hG.below (hB7.trans (hS.mono hB7.size)))).mono ?_
  rintro e' w14 ⟨rfl, hw14⟩
  have hS : (Below w7.heap.size w7) w14 := hS.trans (hw14.mono hS.size)
  refine ⟨_, rfl, hS, ?_⟩
  simp only [Act.put, List.setIfInBounds_toArray, List.set_cons_zero, List.set_cons_succ]
  refine hs_take (i := 27) (d := some 45) (v := .bool true) rfl (by kernel_rfl) (by kernel_rfl) (by kernel_rfl) (by rfl) (fun w' hw => by go_simp) hS rfl ?_
  simp only [Act.put, List.setIfInBounds_toArray, List.set_cons_zero, List.set_cons_succ]
  refine hs_take (i := 28) (d := some 6) (v := ?_) rfl (by kernel_rfl) (by kernel_rfl) (by kernel_rfl) (by rfl) ?_ hS rfl ?_
  rotate_left
  · intro w' hw
    go_simp
    try with_reducible rfl
  simp only [Act.put, List.setIfInBounds_toArray, List.set_cons_zero, List.set_cons_succ]
  refine hs_done (by kernel_rfl) ?_
  have hfin := hB7.trans (hS.mono hB7.size)
  go_wp2_with fail
  go_ret
  exact ⟨rfl, hfin⟩
end Go.Proofs.YtinpbnkmpplkiaaDoor
namespace Go.Proofs.YtinpbnkmpplkiaaDoor.batchChecks
open Go.ChangeShapes Go.WideShapes Go.ChangeAt Go.RowKit
open Go.ChangeMaps (open_string shut_string)
set_option linter.unusedVariables false
set_option maxRecDepth 100000 in
theorem lifted (os : Os) (started : os.Started) (H : Type) (enc : TypeId × Value → H) :
    ReturnsInHanded {} Tryd.checked os 3 .any (fun w args => (Rows.batchChecksSpec.pre enc Tryd.prog Tryd.f3 [] false w args ∧ laidMetH Tryd.prog laid2 w) ∧ sizedMet enc Tryd.prog Tryd.f3 (OpenSpec.ofChange Rows.batchChecksSpec) false w args)
      (Rows.batchChecksSpec.post enc Tryd.prog Tryd.f3 false true false false) := by
  refine returnsInHanded_of_change_and (C := Tryd.checked) (X := fun w _ => laidMetH Tryd.prog laid2 w) (fun _ _ _ hh h => h.of_heap hh) own started (by kernel_rfl) Tryd.func3
    (ChangeSpec.witness_shaped (enc := enc) (C := Tryd.checked) (os := os) (X := fun w _ => laidMetH Tryd.prog laid2 w) false (World.doorLaid Tryd.prog 400 os) #[.agg #[.bool false, .slice none 0 0], .int .i64 0, .int .i64 0] 8 rfl (World.shaped_of_RefB (by kernel_rfl) (by kernel_rfl)) (by kernel_rfl) (by kernel_rfl) (by kernel_rfl) (door_met os _)) ?_
  intro W base args ds gs before hval0 hW _ _ hL _
  have hval : ∀ (j : Nat) t v, Tryd.f3.params[j]? = some t → args[j]? = some v → Value.okWide Tryd.prog W .any base t v := hval0
  have hW' := hW
  obtain ⟨p, q, hA0, hV, rfl, hfz, hnd⟩ := hW
  have hA : DataW.TrodAll enc Tryd.prog W 0 (fun _ => true) true Tryd.f3.params.toList args.toList ds p := hA0
  rw [Tryd.params3] at hA hval
  obtain ⟨v0, vs0, d0, ds0, p0, q0, hargs, rfl, rfl, h0, r0⟩ := trodAll_cons hA
  obtain ⟨v1, vs1, d1, ds1, p1, q1, rfl, rfl, rfl, h1, r1⟩ := trodAll_cons r0
  obtain ⟨v2, vs2, d2, ds2, p2, q2, rfl, rfl, rfl, h2, r2⟩ := trodAll_cons r1
  obtain ⟨rfl, rfl, rfl⟩ := trodAll_nil r2
  obtain rfl : args = #[v0, v1, v2] := by cases args; simp_all
  obtain ⟨rfl, rfl⟩ := trodVars_none hV
  have k0 := h0
  have lt0 : ∀ x ∈ p0, x.block < W.heap.size := by obtain ⟨m, hm⟩ := k0; exact DataW.trod_lt m _ _ _ hm
  have k1 := h1
  have lt1 : ∀ x ∈ p1, x.block < W.heap.size := by obtain ⟨m, hm⟩ := k1; exact DataW.trod_lt m _ _ _ hm
  have k2 := h2
  have lt2 : ∀ x ∈ p2, x.block < W.heap.size := by obtain ⟨m, hm⟩ := k2; exact DataW.trod_lt m _ _ _ hm
  obtain ⟨q0, a0, cap0, rs0, rfl, hc0, hm0, row0⟩ : ∃ (q : Bool) (a : Option Addr) (cap : Nat) (rs : List Rq), v0 = batV q a rs.length cap ∧ rs.length ≤ cap ∧ cap ≤ maxLen ∧ ReqsAt W a rs := by
    obtain ⟨fuel, hf⟩ := h0
    exact open_batch (hval 0 24 v0 rfl rfl) hf
  obtain ⟨n1, rfl, rfl, rfl, hn1⟩ := open_int Tryd.underlying3 (hval 1 3 v1 rfl rfl) h1
  obtain ⟨n2, rfl, rfl, rfl, hn2⟩ := open_int Tryd.underlying3 (hval 2 3 v2 rfl rfl) h2
  have hG := glob_of hL
  clear hA0 hval0
  refine (checks_walk q0 a0 cap0 rs0 n1 n2 W hG row0 hc0 hm0).mono fun e W' ⟨he, bel⟩ => ?_
  subst he
  exact ⟨_, rfl, _, _, _, [], _, [], hW', trodAll_mk1 (shut_bool Tryd.underlying4 _), (trodAll_cons_mk (Below.trod laidOut (by kernel_rfl) (of_decide_eq_true (by kernel_rfl)) k0 bel lt0) (trodAll_cons_mk (Below.trod laidOut (by kernel_rfl) (of_decide_eq_true (by kernel_rfl)) k1 bel lt1) (trodAll_cons_mk (Below.trod laidOut (by kernel_rfl) (of_decide_eq_true (by kernel_rfl)) k2 bel lt2) trodAll_mk0))), rfl, bel.frame _, fun h => by cases h⟩
theorem over : Rows.BatchChecksSaid :=
  OpenClaim.holds_of_wide 3 Tryd.f3 rfl rfl rfl rfl rfl rfl rfl ⟨rfl, rfl, rfl, rfl, rfl⟩ rfl rfl rfl rfl rfl (by kernel_rfl) Tryd.func3 (by kernel_rfl)
    (of_decide_eq_true (by kernel_rfl)) (by unfold Func.isWrapper; first | (rw [if_pos (by decide +kernel)]; kernel_rfl) | (rw [if_neg (by decide +kernel)]; exact ⟨rfl, rfl⟩))
    (fun os started H enc _ => lifted os started H enc)
end Go.Proofs.YtinpbnkmpplkiaaDoor.batchChecks
namespace Go.Proofs.YtinpbnkmpplkiaaDoor
theorem batchChecks_card : Rows.BatchChecksCardSaid :=
  Claim7.holds_tied_plain_at .later [] [.data, .data] true (true, "61a8ae4d0ddc459a7597b5b9a09190dd4627ce038268ad30758d36005a2cb3ab") false
    batchChecks.over (fun _ h => by cases h) (by kernel_rfl) (fun _ h => by cases h) batchChecks_row_tie rfl ⟨rfl, rfl⟩ (by kernel_rfl) rfl
    (fun f fn hf hfn => by
      obtain rfl : f = 3 := Option.some.inj ((show Tryd.prog.funcNamed "raddle/raddlelaw07.BatchChecks" = some 3 by kernel_rfl).symm.trans hf) |>.symm
      obtain rfl : fn = Tryd.f3 := (Option.some.inj (Tryd.func3.symm.trans hfn)).symm
      exact ⟨by kernel_rfl, fun j t ht => by
        rw [Tryd.params3] at ht
        rcases j with _ | _ | _ | j
        · obtain rfl : t = 24 := by simpa using ht.symm
          exact (show Tryd.prog.wantsStandIn 24 = false by kernel_rfl)
        · obtain rfl : t = 3 := by simpa using ht.symm
          exact (show Tryd.prog.wantsStandIn 3 = false by kernel_rfl)
        · obtain rfl : t = 3 := by simpa using ht.symm
          exact (show Tryd.prog.wantsStandIn 3 = false by kernel_rfl)
        · simp at ht⟩)
    (by kernel_rfl)
#print axioms batchChecks_card
end Go.Proofs.YtinpbnkmpplkiaaDoor
