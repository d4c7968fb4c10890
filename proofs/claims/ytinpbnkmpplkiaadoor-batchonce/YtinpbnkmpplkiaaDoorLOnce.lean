/- The law BatchOnce: its walk. A batch that may be has no pair twice, and each of its requests is good: for whatever batch and number of clients. Conditions: none beyond the row's own; the card ties the tables 'starts' and 'roots' of package digest to the program's text (of the pruned copy of the project). -/
import Derived.Test.YtinpbnkmpplkiaaDoorJBb
import Derived.Test.YtinpbnkmpplkiaaDoorJBa
import Derived.Test.YtinpbnkmpplkiaaDoorFrameR
namespace Go.Proofs.YtinpbnkmpplkiaaDoor
open Go.RowKit
open Sha Tal
theorem one_bat (w : World) (q : Bool) (a : Option Addr) (cap : Nat) (rs : List Rq) (h : (Bat.mk q a cap rs).at w) :
    BatsAt (w.alloc (.cells #[.bool q, .slice a rs.length cap] 24)) w.heap.size [⟨q, a, cap, rs⟩] := by
  have hb : Below w.heap.size w (w.alloc (.cells #[.bool q, .slice a rs.length cap] 24)) := (Below.refl _ _).alloc (Nat.le_refl _) _
  refine ⟨by simp, fun x hx => ?_, by simp, range_new w #[.bool q, .slice a rs.length cap] 24⟩
  obtain rfl := List.mem_singleton.1 hx
  exact h.below hb
theorem wtR_le1 : ∀ (rs : List Rq), rs.length * 20 ≤ wtR rs ∧ ∀ r ∈ rs, r.s.size ≤ wtR rs
  | [] => ⟨by simp [wtR], by simp⟩
  | r :: rs => by
    have ih := wtR_le1 rs
    have e : wtR (r :: rs) = 20 + r.s.size + wtR rs := by simp [wtR]
    refine ⟨by rw [e]; simp; omega, fun x hx => ?_⟩
    rw [e]
    rcases List.mem_cons.1 hx with rfl | hx
    · omega
    · have := ih.2 x hx; omega
theorem wt1 {q : Bool} {a : Option Addr} {cap : Nat} {rs : List Rq} (h : wt [⟨q, a, cap, rs⟩] ≤ 4000) : rs.length ≤ 200 ∧ ∀ r ∈ rs, r.s.size ≤ 4000 := by
  have e : wt [⟨q, a, cap, rs⟩] = 5 + wtR rs := by simp [wt]
  rw [e] at h
  have h1 := wtR_le1 rs
  exact ⟨by omega, fun r hr => by have := h1.2 r hr; omega⟩
theorem oneK : rkL.toArray.all (·.oneCell') = true := by simp [rkL, Value.oneCell']
theorem GoodIs.zero {ds : List (List Int)} {N m most : Int} {q : Bool} {rs : List Rq} (h : GoodIs ds N m most q rs 0) : ∀ i, (hi : i < rs.length) → rs[i].good ds N m = 0 ∧ dupB rs i = false := by
  intro i hi
  rcases h with ⟨_, h⟩ | ⟨_, h⟩
  · cases h
  · rcases h with ⟨_, h⟩ | ⟨_, _, _, h, _⟩
    · exact stop_dup hi (h i hi)
    · exact absurd rfl h
set_option maxRecDepth 100000 in
set_option maxHeartbeats 4000000 in
theorem once_walk (q : Bool) (a : Option Addr) (cap : Nat) (rs : List Rq) (m : Int) (w : World) (hG : Glob w) (h : ReqsAt w a rs) (hc : rs.length ≤ cap) (hm : cap ≤ maxLen) :
    Calls Tryd.prog 8 #[batV q a rs.length cap, .int .i64 m] w fun e w' => e = .returned (.bool true) ∧ Below w.heap.size w w' := by
  have hall := h.2.1
  have cgd := fun p w0 hk hg h0 hn => bgood_any p (keysOf seedR 72) 4 m 100 q a cap rs w0 hk hg h0 hn
  unfold batV at cgd ⊢
  have hB1 : Below w.heap.size w (w.alloc (.cells #[.bool q, .slice a rs.length cap] 24)) := (Below.refl _ _).alloc (Nat.le_refl _) _
  have hbx := BatBox.mk w q a rs.length cap
  have hib := batI q a rs.length cap
  go_enter Tryd.func8, Tryd.ntmps8
  go_upto_region 1 with fail
  go_name_world w1 hw1
  rw [hw1] at hB1 hbx
  clear hw1
  obtain ⟨X, hXe⟩ : ∃ X, Hid (w.heap.size = X) := ⟨_, hide rfl⟩
  rw [hXe.out] at hbx ⊢
  have hL := one_bat w1 q a cap rs ⟨h.below hB1, hc, hm⟩
  have hB2' : Below w1.heap.size w1 (w1.alloc (.cells #[.bool q, .slice a rs.length cap] 24)) := (Below.refl _ _).alloc (Nat.le_refl _) _
  have hB2 := hB1.trans (hB2'.mono hB1.size)
  have hbx2 := hbx.below hB2'
  have cl := light_any w1.heap.size 1 _ _ hL
  try simp only [Act.put]
  refine wp_region_list ?_
  refine wpList_load_mid rfl 24 _ rfl _ _ rfl [.bool q, .slice a rs.length cap] _ hbx.2.2.2 Tryd.underlying24 rfl hib ?_
  clear hbx hL
  simp only [List.length_cons, List.length_nil, Nat.zero_add] at cl
  go_wp2_with fail
  refine cl.mono ?_
  rintro e w3 hcase
  clear cl
  generalize w1.alloc (.cells #[.bool q, .slice a rs.length cap] 24) = w2 at *
  rcases hcase with ⟨rfl, hw3⟩ | ⟨rfl, hw3, hwt⟩
  · have hB3 := hB2.trans (hw3.mono hB2.size)
    go_wp2_with fail
    refine (lives7_any w3 (hG.below hB3)).mono ?_
    rintro e wz ⟨rfl, hwz⟩
    go_wp2_with fail
    go_ret
    exact ⟨rfl, (hB3).trans (hwz.mono (hB3).size)⟩
  have hB3 := hB2.trans (hw3.mono hB2.size)
  have hbx3 := hbx2.below hw3
  clear hbx2 hB2' hB2 hw3
  obtain ⟨hn, hs⟩ := wt1 hwt
  clear hwt
  go_wp2_with fail
  refine (keys6_any w3 (hG.below hB3)).mono ?_
  rintro e w4 ⟨p, rfl, hp, hk4, hw4⟩
  have hB4 := hB3.trans (hw4.mono hB3.size)
  have hbx4 := hbx3.below hw4
  clear hB3 hbx3 hw4 hp
  have F := fresh_store w4 #[.string ⟨#[]⟩, .int .i64 0] 29 rkL rfl
  have hN2 : (w4.alloc (.cells #[.string ⟨#[]⟩, .int .i64 0] 29)).there w4.heap.size 0 rkL.toArray.size := there_new w4 #[.string ⟨#[]⟩, .int .i64 0] 29
  go_upto_region 4 with (refine wpList_store_mid (op := ⟨none, .store 29 (.tmp 6) (.tmp 19), _, _, _, none⟩) rfl 29 _ _ rfl _ _ rkL.toArray rfl rfl hN2 iszK oneK ?_)
  go_name_world w5 hw5
  rw [show (w4.alloc (.cells #[.string ⟨#[]⟩, .int .i64 0] 29)).setCells w4.heap.size 0 rkL = w5 from hw5] at F
  clear hw5 hN2
  obtain ⟨_, hF5, _, _⟩ := F
  have hB5 := hB4.trans (hF5.mono hB4.size)
  have hbx5 := hbx4.below hF5
  have hk5 := hk4.below hF5
  clear hB4 hbx4 hk4 hF5
  try simp only [Act.put]
  refine wp_region_list ?_
  refine wpList_step fun K hK => ?_
  go_simp
  refine hK _ _ ?_
  clear hK K
  refine wpList_step fun K hK => ?_
  go_simp
  refine hK _ _ ?_
  clear hK K
  refine wpList_load_mid rfl 24 _ rfl _ _ rfl [.bool q, .slice a rs.length cap] _ hbx5.2.2.2 Tryd.underlying24 rfl hib ?_
  go_wp2_with fail
  refine (cgd p w5 hk5 (hG.below hB5) (h.below hB5) hn).mono ?_
  rintro e w6 ⟨y, rfl, hy, hw6⟩
  have hB6 := hB5.trans (hw6.mono hB5.size)
  have hbx6 := hbx5.below hw6
  have hk6 := hk5.below hw6
  clear hB5 hbx5 hk5 hw6 cgd
  by_cases hy0 : y = 0
  rotate_left
  · have b0 : (y == 0) = false := by simpa using hy0
    clear hy hy0
    go_wp2_with fail
    refine (lives7_any w6 (hG.below hB6)).mono ?_
    rintro e wz ⟨rfl, hwz⟩
    go_wp2_with fail
    go_ret
    exact ⟨rfl, (hB6).trans (hwz.mono (hB6).size)⟩
  have b0 : (y == 0) = true := by simpa using hy0
  subst hy0
  have HY := hide hy.zero
  clear hy b0
  have h6 := h.below hB6
  have hG6 := hG.below hB6
  obtain ⟨hX6, _, x1, _⟩ := id hbx6
  clear hbx6
  go_wp2
  go_loopw [29] (fun iv wr => ∃ (k : Nat), k ≤ rs.length ∧ iv = .int .i64 (k : Int) ∧ Below w6.heap.size w6 wr) (fun iv _ => rs.length - (intOf iv).toNat)
  case atStart => exact ⟨0, by omega, rfl, Below.refl _ _⟩
  case round =>
    obtain ⟨k, hk, rfl, hB⟩ := hrel
    obtain ⟨wo, rfl⟩ : ∃ wo, wo = wr := ⟨_, rfl⟩
    by_cases hlt : k < rs.length
    · have k1 : (k : Int) < rs.length := by omega
      obtain ⟨b, off, rfl, hb, hre⟩ := (h6.below hB).elem k hlt
      obtain ⟨r, hr⟩ : ∃ r, Hid (rs[k] = r) := ⟨_, hide rfl⟩
      have hok : r.ok := by rw [← hr.out]; exact hall _ (List.getElem_mem hlt)
      rw [hr.out] at hre
      have HU : Hid (∀ j, (hj : j < k) → ¬ (rs[j].c = r.c ∧ rs[j].n = r.n)) := hide (fun j hj he => by
        have h1 := (HY.out k hlt).2
        have h2 := (dupB_iff hlt).2 ⟨j, hj, by rw [hr.out]; show (rs[j].c, rs[j].n) = (r.c, r.n); rw [he.1, he.2]⟩
        rw [h1] at h2; cases h2)
      have cg := fun w0 hk0 hg0 => good_any p (keysOf seedR 72) 4 m r.c r.n r.s r.t w0 hk0 hg0 hok.tl hok.ch
      have hgz : goodV (keysOf seedR 72) 4 m r.c r.n r.s r.t = 0 := by have := (HY.out k hlt).1; rw [hr.out] at this; exact this
      simp only [hgz] at cg
      clear hr hgz
      have hiq := hok.isz
      have hiA := hok.iszA
      have hN := hok.blank wo
      have h1c := all_oneCell_toArray r.one
      have F := fresh_store wo #[.int .i64 0, .int .i64 0, .string ⟨#[]⟩, .int .u8 0, .int .u8 0, .int .u8 0, .int .u8 0, .int .u8 0, .int .u8 0, .int .u8 0, .int .u8 0, .int .u8 0, .int .u8 0, .int .u8 0, .int .u8 0, .int .u8 0, .int .u8 0, .int .u8 0, .int .u8 0] 60 r.cells (by rw [hok.length]; rfl)
      have hcel := fun (w0 : World) (b0 : Nat) (hh : w0.rangeAt b0 0 r.cells) => reqL_0 hh
      obtain ⟨u, hu⟩ : ∃ u, Hid (r.cells = u) := ⟨_, hide rfl⟩
      rw [hu.out] at hre hiq hiA hN h1c F
      simp only [show reqL r.c r.n r.s r.t = u from hu.out] at cg
      simp only [hu.out] at hcel
      clear hu
      go_upto_region 8 with fail
      try simp only [Act.put]
      refine wp_region_list ?_
      refine wpList_step fun K hK => ?_
      go_simp
      refine hK _ _ ?_
      clear hK K
      refine wpList_step fun K hK => ?_
      go_simp
      refine hK _ _ ?_
      clear hK K
      refine wpList_load_mid rfl 60 _ rfl _ _ rfl u _ hre Tryd.underlying60 rfl hiq ?_
      go_upto_region 9 with (refine wpList_store_mid (op := ⟨none, .store 60 (.tmp 8) (.tmp 33), _, _, _, none⟩) rfl 60 _ _ rfl _ _ u.toArray rfl rfl hN hiA h1c ?_)
      go_name_world w7 hw7
      rw [show (wo.alloc (.cells #[.int .i64 0, .int .i64 0, .string ⟨#[]⟩, .int .u8 0, .int .u8 0, .int .u8 0, .int .u8 0, .int .u8 0, .int .u8 0, .int .u8 0, .int .u8 0, .int .u8 0, .int .u8 0, .int .u8 0, .int .u8 0, .int .u8 0, .int .u8 0, .int .u8 0, .int .u8 0] 60)).setCells wo.heap.size 0 u = w7 from hw7] at F
      clear hw7 hN
      obtain ⟨hR7, hF7, hz7, _⟩ := F
      have hB7 := hB.trans (hF7.mono hB.size)
      have hX7 : wo.heap.size < w7.heap.size := by omega
      clear hF7 hre hz7 hB
      obtain ⟨Y, hY⟩ : ∃ Y, Hid (wo.heap.size = Y) := ⟨_, hide rfl⟩
      rw [hY.out] at hR7 hX7 ⊢
      try simp only [Act.put]
      refine wp_region_list ?_
      refine wpList_step fun K hK => ?_
      go_simp
      refine hK _ _ ?_
      clear hK K
      refine wpList_step fun K hK => ?_
      go_simp
      refine hK _ _ ?_
      clear hK K
      refine wpList_load_mid rfl 60 _ rfl _ _ rfl u _ hR7 Tryd.underlying60 rfl hiq ?_
      go_wp2_with fail
      refine (cg w7 (hk6.below hB7) (hG6.below hB7)).mono ?_
      rintro e w8 ⟨rfl, hw8⟩
      have hB8 := hB7.trans (hw8.mono hB7.size)
      have hR8 := range_below hR7 hw8 hX7
      have hX8 := Nat.lt_of_lt_of_le hX7 hw8.size
      have x8 := (hB8.cell (p := ⟨X, 1, none⟩) hX6).trans x1
      obtain ⟨g0, g1, _⟩ := hcel w8 Y hR8
      clear hB7 hR7 hX7 cg hw8 hcel hY
      have hkc : k ≤ cap := by omega
      go_wp2
      go_loopw [44] (fun jv wr => ∃ (j : Nat), j ≤ k ∧ jv = .int .i64 (j : Int) ∧ Below w8.heap.size w8 wr) (fun jv _ => k - (intOf jv).toNat)
      case atStart => exact ⟨0, by omega, rfl, Below.refl _ _⟩
      case round =>
        clear x8
        obtain ⟨j, hj, rfl, hBj⟩ := hrel
        by_cases hjl : j < k
        · have j1 : (j : Int) < k := by omega
          have hjr : j < rs.length := by omega
          obtain ⟨b', off', hbe, hb', hre'⟩ := ((h6.below hB8).below hBj).elem j hjr
          obtain ⟨rfl, rfl⟩ : b = b' ∧ off = off' := by simpa using hbe
          obtain ⟨r', hr'⟩ : ∃ r, Hid (rs[j] = r) := ⟨_, hide rfl⟩
          have hok' : r'.ok := by rw [← hr'.out]; exact hall _ (List.getElem_mem hjr)
          have hne : ¬ (r'.c = r.c ∧ r'.n = r.n) := by rw [← hr'.out]; exact HU.out j hjl
          rw [hr'.out] at hre'
          have hiq' := hok'.isz
          have hiA' := hok'.iszA
          have hN' := hok'.blank wr
          have h1c' := all_oneCell_toArray r'.one
          have F := fresh_store wr #[.int .i64 0, .int .i64 0, .string ⟨#[]⟩, .int .u8 0, .int .u8 0, .int .u8 0, .int .u8 0, .int .u8 0, .int .u8 0, .int .u8 0, .int .u8 0, .int .u8 0, .int .u8 0, .int .u8 0, .int .u8 0, .int .u8 0, .int .u8 0, .int .u8 0, .int .u8 0] 60 r'.cells (by rw [hok'.length]; rfl)
          have hcel := fun (w0 : World) (b0 : Nat) (hh : w0.rangeAt b0 0 r'.cells) => reqL_0 hh
          obtain ⟨u', hu'⟩ : ∃ u, Hid (r'.cells = u) := ⟨_, hide rfl⟩
          rw [hu'.out] at hre' hiq' hiA' hN' h1c' F
          simp only [hu'.out] at hcel
          clear hu' hr' hbe hb' hok'
          go_upto_region 13 with fail
          try simp only [Act.put]
          refine wp_region_list ?_
          refine wpList_step fun K hK => ?_
          go_simp
          refine hK _ _ ?_
          clear hK K
          refine wpList_load_mid rfl 60 _ rfl _ _ rfl u' _ hre' Tryd.underlying60 rfl hiq' ?_
          go_upto_region 14 with (refine wpList_store_mid (op := ⟨none, .store 60 (.tmp 10) (.tmp 47), _, _, _, none⟩) rfl 60 _ _ rfl _ _ u'.toArray rfl rfl hN' hiA' h1c' ?_)
          go_name_world w9 hw9
          rw [show (wr.alloc (.cells #[.int .i64 0, .int .i64 0, .string ⟨#[]⟩, .int .u8 0, .int .u8 0, .int .u8 0, .int .u8 0, .int .u8 0, .int .u8 0, .int .u8 0, .int .u8 0, .int .u8 0, .int .u8 0, .int .u8 0, .int .u8 0, .int .u8 0, .int .u8 0, .int .u8 0, .int .u8 0] 60)).setCells wr.heap.size 0 u' = w9 from hw9] at F
          clear hw9 hN'
          obtain ⟨hR9, hF9, hz9, _⟩ := F
          have hB9 := hBj.trans (hF9.mono hBj.size)
          obtain ⟨f0, f1, _⟩ := hcel w9 _ hR9
          have y0 := (hB9.cell (p := ⟨Y, 0, none⟩) hX8).trans g0
          have y1 := (hB9.cell (p := ⟨Y, 1, none⟩) hX8).trans g1
          clear hF9 hre' hcel hR9 hBj
          by_cases hcc : r'.c = r.c
          · have hb1 : (r'.c == r.c) = true := by simpa using hcc
            have hb2 : (r'.n == r.n) = false := by
              have : ¬ r'.n = r.n := fun hx => hne ⟨hcc, hx⟩
              simpa using this
            clear hcc hne
            go_wp2
            go_roundw
            case rel => exact ⟨j + 1, by omega, by go_num, hB9⟩
            case measure => simp [intOf]; omega
          · have hb1 : (r'.c == r.c) = false := by simpa using hcc
            clear hcc hne
            go_wp2
            go_roundw
            case rel => exact ⟨j + 1, by omega, by go_num, hB9⟩
            case measure => simp [intOf]; omega
        · have j1 : ¬ (j : Int) < k := by omega
          go_wp2
          go_roundw
          case rel => exact ⟨k + 1, by omega, by go_num, hB8.trans (hBj.mono hB8.size)⟩
          case measure => simp [intOf]; omega
    · have k1 : ¬ (k : Int) < rs.length := by omega
      have hB10 := hB6.trans (hB.mono hB6.size)
      go_wp2_with fail
      refine (lives7_any wo (hG.below hB10)).mono ?_
      rintro e wz ⟨rfl, hwz⟩
      go_wp2_with fail
      go_ret
      exact ⟨rfl, (hB10).trans (hwz.mono (hB10).size)⟩
end Go.Proofs.YtinpbnkmpplkiaaDoor
namespace Go.Proofs.YtinpbnkmpplkiaaDoor.batchOnce
open Go.ChangeShapes Go.WideShapes Go.ChangeAt Go.RowKit
open Go.ChangeMaps (open_string shut_string)
set_option linter.unusedVariables false
set_option maxRecDepth 100000 in
theorem lifted (os : Os) (started : os.Started) (H : Type) (enc : TypeId × Value → H) :
    ReturnsInHanded {} Tryd.checked os 8 .any (fun w args => (Rows.batchOnceSpec.pre enc Tryd.prog Tryd.f8 [] false w args ∧ laidMetH Tryd.prog laid2 w) ∧ sizedMet enc Tryd.prog Tryd.f8 (OpenSpec.ofChange Rows.batchOnceSpec) false w args)
      (Rows.batchOnceSpec.post enc Tryd.prog Tryd.f8 false true false false) := by
  refine returnsInHanded_of_change_and (C := Tryd.checked) (X := fun w _ => laidMetH Tryd.prog laid2 w) (fun _ _ _ hh h => h.of_heap hh) own started (by kernel_rfl) Tryd.func8
    (ChangeSpec.witness_shaped (enc := enc) (C := Tryd.checked) (os := os) (X := fun w _ => laidMetH Tryd.prog laid2 w) false (World.doorLaid Tryd.prog 400 os) #[.agg #[.bool false, .slice none 0 0], .int .i64 0] 8 rfl (World.shaped_of_RefB (by kernel_rfl) (by kernel_rfl)) (by kernel_rfl) (by kernel_rfl) (by kernel_rfl) (door_met os _)) ?_
  intro W base args ds gs before hval0 hW _ _ hL _
  have hval : ∀ (j : Nat) t v, Tryd.f8.params[j]? = some t → args[j]? = some v → Value.okWide Tryd.prog W .any base t v := hval0
  have hW' := hW
  obtain ⟨p, q, hA0, hV, rfl, hfz, hnd⟩ := hW
  have hA : DataW.TrodAll enc Tryd.prog W 0 (fun _ => true) true Tryd.f8.params.toList args.toList ds p := hA0
  rw [Tryd.params8] at hA hval
  obtain ⟨v0, vs0, d0, ds0, p0, q0, hargs, rfl, rfl, h0, r0⟩ := trodAll_cons hA
  obtain ⟨v1, vs1, d1, ds1, p1, q1, rfl, rfl, rfl, h1, r1⟩ := trodAll_cons r0
  obtain ⟨rfl, rfl, rfl⟩ := trodAll_nil r1
  obtain rfl : args = #[v0, v1] := by cases args; simp_all
  obtain ⟨rfl, rfl⟩ := trodVars_none hV
  have k0 := h0
  have lt0 : ∀ x ∈ p0, x.block < W.heap.size := by obtain ⟨m, hm⟩ := k0; exact DataW.trod_lt m _ _ _ hm
  have k1 := h1
  have lt1 : ∀ x ∈ p1, x.block < W.heap.size := by obtain ⟨m, hm⟩ := k1; exact DataW.trod_lt m _ _ _ hm
  obtain ⟨q0, a0, cap0, rs0, rfl, hc0, hm0, row0⟩ : ∃ (q : Bool) (a : Option Addr) (cap : Nat) (rs : List Rq), v0 = batV q a rs.length cap ∧ rs.length ≤ cap ∧ cap ≤ maxLen ∧ ReqsAt W a rs := by
    obtain ⟨fuel, hf⟩ := h0
    exact open_batch (hval 0 24 v0 rfl rfl) hf
  obtain ⟨n1, rfl, rfl, rfl, hn1⟩ := open_int Tryd.underlying3 (hval 1 3 v1 rfl rfl) h1
  have hG := glob_of hL
  clear hA0 hval0
  refine (once_walk q0 a0 cap0 rs0 n1 W hG row0 hc0 hm0).mono fun e W' ⟨he, bel⟩ => ?_
  subst he
  exact ⟨_, rfl, _, _, _, [], _, [], hW', trodAll_mk1 (shut_bool Tryd.underlying4 _), (trodAll_cons_mk (Below.trod laidOut (by kernel_rfl) (of_decide_eq_true (by kernel_rfl)) k0 bel lt0) (trodAll_cons_mk (Below.trod laidOut (by kernel_rfl) (of_decide_eq_true (by kernel_rfl)) k1 bel lt1) trodAll_mk0)), rfl, bel.frame _, fun h => by cases h⟩
theorem over : Rows.BatchOnceSaid :=
  OpenClaim.holds_of_wide 8 Tryd.f8 rfl rfl rfl rfl rfl rfl rfl ⟨rfl, rfl, rfl, rfl, rfl⟩ rfl rfl rfl rfl rfl (by kernel_rfl) Tryd.func8 (by kernel_rfl)
    (of_decide_eq_true (by kernel_rfl)) (by unfold Func.isWrapper; first | (rw [if_pos (by decide +kernel)]; kernel_rfl) | (rw [if_neg (by decide +kernel)]; exact ⟨rfl, rfl⟩))
    (fun os started H enc _ => lifted os started H enc)
end Go.Proofs.YtinpbnkmpplkiaaDoor.batchOnce
namespace Go.Proofs.YtinpbnkmpplkiaaDoor
theorem batchOnce_card : Rows.BatchOnceCardSaid :=
  Claim7.holds_tied_plain_at .later [] [.data, .data] true (true, "61a8ae4d0ddc459a7597b5b9a09190dd4627ce038268ad30758d36005a2cb3ab") false
    batchOnce.over (fun _ h => by cases h) (by kernel_rfl) (fun _ h => by cases h) batchOnce_row_tie rfl ⟨rfl, rfl⟩ (by kernel_rfl) rfl
    (fun f fn hf hfn => by
      obtain rfl : f = 8 := Option.some.inj ((show Tryd.prog.funcNamed "raddle/raddlelaw07.BatchOnce" = some 8 by kernel_rfl).symm.trans hf) |>.symm
      obtain rfl : fn = Tryd.f8 := (Option.some.inj (Tryd.func8.symm.trans hfn)).symm
      exact ⟨by kernel_rfl, fun j t ht => by
        rw [Tryd.params8] at ht
        rcases j with _ | _ | j
        · obtain rfl : t = 24 := by simpa using ht.symm
          exact (show Tryd.prog.wantsStandIn 24 = false by kernel_rfl)
        · obtain rfl : t = 3 := by simpa using ht.symm
          exact (show Tryd.prog.wantsStandIn 3 = false by kernel_rfl)
        · simp at ht⟩)
    (by kernel_rfl)
#print axioms batchOnce_card
end Go.Proofs.YtinpbnkmpplkiaaDoor
