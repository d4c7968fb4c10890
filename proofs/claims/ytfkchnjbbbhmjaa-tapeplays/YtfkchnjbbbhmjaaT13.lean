/- what a tape that has no plan answers; the walk of TapeRefused -/
import Derived.Test.YtfkchnjbbbhmjaaT12
import Derived.Test.YtfkchnjbbbhmjaaT11
namespace Go.Proofs.Ytfkchnjbbbhmjaa
open Go.RowKit
theorem iszA : (Try.prog.info? 31).map (·.size) = some 5 := by kernel_rfl
theorem append_two {M : Mt} {k : Int} {zs : List Int} (hon : M.on = true) (hpl : M.pl = false) (hk : k = 0 ∨ k = 1) :
    (M.append k zs = (151, M) ∧ M.room < (M.a.length : Int) + M.b.length + zs.length) ∨ (M.append k zs).1 = 0 ∧ (M.append k zs).2.on = true ∧ (M.append k zs).2.pl = false ∧ (M.append k zs).2.room = M.room := by
  have hf : M.fault k = 0 := by unfold Mt.fault; rw [if_pos hk, if_pos hon]
  unfold Mt.append
  rw [if_pos hf]
  by_cases hr : M.room - ((M.a.length : Int) + M.b.length) < zs.length
  · rw [if_pos hr]
    exact .inl ⟨rfl, by omega⟩
  · rw [if_neg hr]
    unfold Mt.does
    rw [if_pos hf, if_neg (by rw [hpl]; simp)]
    cases decide (k = 1)
    · exact .inr ⟨rfl, hon, hpl, rfl⟩
    · exact .inr ⟨rfl, hon, hpl, rfl⟩
theorem fault_on {M : Mt} {k : Int} (hon : M.on = true) (hk : k = 0 ∨ k = 1) : M.fault k = 0 := by unfold Mt.fault; rw [if_pos hk, if_pos hon]
theorem fault_off {M : Mt} {k : Int} (hon : M.on = false) (hk : k = 0 ∨ k = 1) : M.fault k = 150 := by unfold Mt.fault; rw [if_pos hk, hon]; rfl
theorem append_off {M : Mt} {k : Int} {zs : List Int} (hon : M.on = false) (hk : k = 0 ∨ k = 1) : M.append k zs = (150, M) := by
  have := fault_off hon hk
  unfold Mt.append
  rw [if_neg (by omega), this]
theorem does_off {M : Mt} {k : Int} {f : Bool → Mt → Mt} (hon : M.on = false) (hk : k = 0 ∨ k = 1) : M.does k f = (150, M) := by
  have := fault_off hon hk
  unfold Mt.does
  rw [if_neg (by omega), this]
theorem lose_all {M : Mt} (h : M.ok) : (M.lose 1073741824).a.length = M.a.length ∧ (M.lose 1073741824).b.length = M.b.length := by
  have h1 := h.rm
  have h2 := h.rl
  have h3 := h.sa
  have h4 := h.sb
  constructor
  · simp only [Mt.lose, List.length_take, keptN]; omega
  · simp only [Mt.lose, List.length_take, keptN]; omega
theorem RowAt.old {w : World} {a : Option Addr} {zs : List Int} (h : RowAt w a zs) : zs = [] ∨ ∀ x, a = some x → x.block < w.heap.size := by
  rcases h.2.2 with q | ⟨b, off, rfl, h1, -⟩
  · exact .inl q
  · exact .inr (fun x hx => by cases hx; exact h1)
theorem two_of (z : Int) : wrap64 ((IntKind.u64.wrap z).tmod 2) = 0 ∨ wrap64 ((IntKind.u64.wrap z).tmod 2) = 1 := by
  rw [IntKind.wrap_u64]
  have h0 : 0 ≤ z % 18446744073709551616 := Int.emod_nonneg _ (by omega)
  rw [Int.tmod_eq_emod_of_nonneg h0]
  unfold wrap64
  omega
theorem room_of (z : Int) : 0 ≤ wrap64 ((IntKind.u64.wrap z).tmod 200) ∧ wrap64 ((IntKind.u64.wrap z).tmod 200) < 200 := by
  rw [IntKind.wrap_u64]
  have h0 : 0 ≤ z % 18446744073709551616 := Int.emod_nonneg _ (by omega)
  rw [Int.tmod_eq_emod_of_nonneg h0]
  unfold wrap64
  omega
set_option maxRecDepth 100000 in
set_option maxHeartbeats 4000000 in
theorem refused_walk (room : Int) (a : Option Addr) (cap : Nat) (ys : List Ac) (hl : ys.length ≤ maxLen) (w : World) (ho : ∀ y ∈ ys, y.ok w) (h : RowOf Ac.cells w a ys) :
    Calls Try.prog 5 #[.int .i64 room, .slice a ys.length cap] w fun e w' => e = .returned (.bool true) ∧ Below w.heap.size w w' := by
  have cL := fun w0 => lives_any w0
  have hR0 := room_of room
  obtain ⟨R, hR⟩ : ∃ R, wrap64 ((IntKind.u64.wrap room).tmod 200) = R := ⟨_, rfl⟩
  rw [hR] at hR0
  have c1 := live_new R w (by omega) (by omega)
  go_enter Try.func5, Try.ntmps5
  go_wp2_with fail
  refine c1.mono ?_
  rintro e w1 ⟨rfl, hB1, hT1⟩
  clear c1
  have cLi := Light_any a cap ys w1 hl (fun y hy => (ho y hy).below hB1) (h.below hB1)
  go_wp2_with fail
  refine cLi.mono ?_
  clear cLi
  rintro e w2 hLi
  rcases hLi with ⟨rfl, hB2⟩ | ⟨rfl, hB2, hwt⟩
  · have cL := cL w2
    have hBB := hB1.trans (hB2.mono hB1.size)
    go_wp2_with fail
    refine cL.mono ?_
    rintro e w9 ⟨rfl, hb9⟩
    clear cL
    go_wp2_with fail
    go_ret
    exact ⟨rfl, hBB.trans (hb9.mono hBB.size)⟩
  · have hT2 := hT1.below hB2
    have hBB := hB1.trans (hB2.mono hB1.size)
    clear hT1 hB1 hB2
    have hyl := wtA_len ys
    go_wp2_with fail
    go_loopw [37] (fun iv wr => ∃ (k : Nat) (M : Mt), k ≤ ys.length ∧ iv = .int .i64 (k : Int) ∧ Live (fun b => b < w.heap.size) wr w.heap.size M ∧ M.on = true ∧ M.pl = false ∧ M.room = R ∧ Below w.heap.size w wr) (fun iv _ => ys.length - (intOf iv).toNat)
    case atStart => exact ⟨0, Mt.new R, by omega, rfl, hT2, rfl, rfl, rfl, hBB⟩
    case round =>
      clear hT2 hBB
      obtain ⟨k, M, hk, rfl, hT, hon, hpl, hrm, hB⟩ := hrel
      obtain ⟨wo, rfl⟩ : ∃ wo, wo = wr := ⟨_, rfl⟩
      by_cases hlt : k < ys.length
      · have hltI : (k : Int) < (ys.length : Int) := by omega
        obtain ⟨rb, off, rfl, hrb, hre0⟩ := h.elem (k := 5) (fun _ _ => rfl) k hlt
        have hyo := ho _ (List.getElem_mem hlt)
        have hre := range_below hre0 hB hrb
        have hyw := wtA_mem (List.getElem_mem hlt)
        clear hre0
        obtain ⟨y, hy⟩ : ∃ y, Hid (ys[k] = y) := ⟨_, hide rfl⟩
        rw [hy.out] at hre hyo hyw
        clear hy
        obtain ⟨u, hu⟩ : ∃ u, Hid (y.cells = u) := ⟨_, hide rfl⟩
        rw [hu.out] at hre
        have hq2 := two_of y.area
        obtain ⟨q, hq⟩ : ∃ q, wrap64 ((IntKind.u64.wrap y.area).tmod 2) = q := ⟨_, rfl⟩
        rw [hq] at hq2
        have F := fresh_store wo #[.int .i64 0, .int .i64 0, .slice none 0 0, .int .i64 0, .int .i64 0] 31 u (by rw [← hu.out]; rfl)
        have hN : (wo.alloc (.cells #[.int .i64 0, .int .i64 0, .slice none 0 0, .int .i64 0, .int .i64 0] 31)).there wo.heap.size 0 u.toArray.size := by
          have := there_new wo #[.int .i64 0, .int .i64 0, .slice none 0 0, .int .i64 0, .int .i64 0] 31
          have e5 : u.toArray.size = 5 := by rw [← hu.out]; rfl
          rw [e5]; exact this
        have hiq : (Try.prog.info? 31).map (·.size) = some u.length := by rw [← hu.out]; exact iszA
        have hiA : (Try.prog.info? 31).map (·.size) = some u.toArray.size := by rw [← hu.out]; exact iszA
        have h1c : u.toArray.all (·.oneCell') = true := by rw [← hu.out]; exact all_oneCell_toArray (Ac.one y)
        go_upto_region 6 with fail
        try simp only [Act.put]
        refine wp_region_list ?_
        refine wpList_step fun K hK => ?_
        go_simp
        refine hK _ _ ?_
        clear hK K
        refine wpList_load_mid rfl 31 _ rfl _ _ rfl u _ hre Try.underlying31 rfl hiq ?_
        go_upto_region 7 with (refine wpList_store_mid (op := ⟨none, .store 31 (.tmp 7) (.tmp 40), _, _, _, none⟩) rfl 31 _ _ rfl _ _ u.toArray rfl rfl hN hiA h1c ?_)
        go_name_world w3 hw3
        rw [show (wo.alloc (.cells #[.int .i64 0, .int .i64 0, .slice none 0 0, .int .i64 0, .int .i64 0] 31)).setCells wo.heap.size 0 u = w3 from hw3] at F
        clear hw3 hN hiq hiA h1c
        obtain ⟨hR3, hF3, hz3, -⟩ := F
        rw [← hu.out] at hR3
        clear hu hre
        have x1 := (act_cells hR3).2.1
        have x2 := (act_cells hR3).2.2.1
        simp only [Nat.zero_add] at x1 x2
        clear hR3
        have hX : wo.heap.size < w3.heap.size := by omega
        have hT3 := hT.below hF3
        have cR := live_read hT3 q
        have hfq : M.fault q = 0 := fault_on hon hq2
        rw [hfq] at cR
        obtain ⟨zr, hzr⟩ : ∃ zr, Hid (M.read q = zr) := ⟨_, hide rfl⟩
        simp only [hzr.out] at cR
        go_wp2_with fail
        refine cR.mono ?_
        rintro e w4 ⟨ra, rcap, rfl, hRr, hB4, hfr⟩
        clear cR
        have hB34 := hF3.trans (hB4.mono hF3.size)
        have hT4 := hT.below hB34
        have cS := live_sure hT4 q
        obtain ⟨sv, hsv⟩ : ∃ sv, Hid ((if q = 0 then (M.sa : Int) else if q = 1 then (M.sb : Int) else 0) = sv) := ⟨_, hide rfl⟩
        rw [hsv.out] at cS
        have x24 : w4.cell? ⟨wo.heap.size, 2, none⟩ = some (.slice y.da y.zs.length y.dc) := (hB4.cell (p := ⟨wo.heap.size, 2, none⟩) hX).trans x2
        go_wp2_with fail
        refine cS.mono ?_
        rintro e wq ⟨rfl, hx⟩
        obtain rfl := hx.symm
        clear hx cS
        have hBw4 := hB.trans (hB34.mono hB.size)
        have cA := live_append (hT.widen hB34) (More.lt (fun b hb => Nat.lt_of_lt_of_le hb hB.size) hB34.size) q y.da y.dc y.zs (hyo.r.below hBw4) (by
          rcases hyo.r.old with e | e
          · exact .inl e
          · exact .inr (fun x hx => .inl (e x hx)))
        have HAP := hide (append_two (zs := y.zs) hon hpl hq2)
        clear hT4 hT3
        go_wp2_with fail
        refine cA.mono ?_
        rintro e w5 ⟨rfl, hT5, hO5⟩
        clear cA
        have hBw5 : Below w.heap.size w w5 := hBw4.trans (hO5.below hBw4.size (fun b hb e => e (.inl hb)))
        have hT5' := hT5.narrow (A' := fun b => b < w.heap.size) (fun b hb => .inl hb)
        rcases HAP.out with ⟨hap, hno⟩ | ⟨hap, h1, h2, h3⟩
        · rw [hap] at hT5' ⊢
          have HNO := hide hno
          have x8 : w5.cell? ⟨wo.heap.size, 2, none⟩ = some (.slice y.da y.zs.length y.dc) := cell_at x24 (hO5.2 _ (by have := hB4.size; omega) (fun e => e (.inr ⟨by omega, by have := hB4.size; omega⟩)))
          have hRr5 := hRr.off hO5 (by
            right
            intro x hx e
            have := hfr x hx
            exact e (.inr ⟨by omega, this.2⟩))
          clear hT5 HAP hap hno hRr
          have cR := live_read hT5' q
          rw [hfq] at cR
          simp only [hzr.out] at cR
          go_wp2_with fail
          refine cR.mono ?_
          rintro e w6 ⟨rb2, rcap2, rfl, hRr6, hB6, hfr6⟩
          clear cR
          have hT6 := hT5'.below hB6
          have hBw6 := hBw5.trans (hB6.mono hBw5.size)
          go_wp2_with fail
          obtain ⟨w8, hw8⟩ : ∃ w8, w6.drew = w8 := ⟨_, rfl⟩
          have hB8 : Below w6.heap.size w6 w8 := by rw [← hw8]; exact (Below.refl _ _).drew
          have hT8 := hT6.below hB8
          have hBw8 := hBw6.trans (hB8.mono hBw6.size)
          have hB58 := hB6.trans (hB8.mono hB6.size)
          have x8 : w8.cell? ⟨wo.heap.size, 2, none⟩ = some (.slice y.da y.zs.length y.dc) := cell_at x8 (hB58.block _ (by have := hB4.size; have := hO5.size; omega))
          have cS := live_sure hT8 q
          rw [hsv.out] at cS
          have cU := live_used hT8
          have kr1 := row_str (cap := rcap) (hRr5.below hB58)
          have kr2 := row_str (cap := rcap2) (hRr6.below hB8)
          obtain ⟨us, hus⟩ : ∃ us, Hid (((M.a.length : Int) + M.b.length) = us) := ⟨_, hide rfl⟩
          have hno := HNO.out
          have hok := hT8.ok
          have hus2 : 0 ≤ us ∧ us ≤ R ∧ R < us + (y.zs.length : Int) ∧ (y.zs.length : Int) ≤ 20000 := by
            have e1 := hus.out
            have e2 := hok.rm
            refine ⟨by omega, by omega, by omega, by omega⟩
          rw [hus.out] at cU
          obtain ⟨st, hst⟩ : ∃ st, Hid (strOf zr = st) := ⟨_, hide rfl⟩
          rw [hst.out] at kr1 kr2
          have RB : IntKind.i64.wrap ((IntKind.u64.wrap room).tmod 200) = R := by rw [IntKind.wrap_i64]; unfold wrap64 at hR; exact hR
          obtain ⟨g1, g2, g3, g4⟩ := hus2
          have WU : IntKind.i64.wrap (us + (y.zs.length : Int)) = us + (y.zs.length : Int) := by rw [IntKind.wrap_i64]; omega
          clear hno hok HNO hus hst hRr5 hRr6 x24 x1 x2 hyo hyw
          refine hs_begin (S := (fun w' : World => w' = w8)) 29 rfl (by kernel_rfl) ?_
          rw [hw8]
          clear hw8
          have hS : (fun w' : World => w' = w8) w8 := rfl
          refine hs_take (i := 0) (d := some 67) (v := ?_) rfl (by kernel_rfl) (by kernel_rfl) (by kernel_rfl) (by rfl) ?_ hS rfl ?_
          rotate_left
          · intro w' hw
            go_simp
            try with_reducible rfl
          simp only [Act.put, List.setIfInBounds_toArray, List.set_cons_zero, List.set_cons_succ]
          refine hs_take (i := 1) (d := some 68) (v := .bool false) rfl (by kernel_rfl) (by kernel_rfl) (by kernel_rfl) (by rfl) (fun w' hw => by go_simp) hS rfl ?_
          simp only [Act.put, List.setIfInBounds_toArray, List.set_cons_zero, List.set_cons_succ]
          refine hs_take (i := 2) (d := some 69) (v := .bool false) rfl (by kernel_rfl) (by kernel_rfl) (by kernel_rfl) (by rfl) (fun w' hw => by go_simp) hS rfl ?_
          simp only [Act.put, List.setIfInBounds_toArray, List.set_cons_zero, List.set_cons_succ]
          refine hs_take (i := 3) (d := some 70) (v := ?_) rfl (by kernel_rfl) (by kernel_rfl) (by kernel_rfl) (by rfl) ?_ hS rfl ?_
          rotate_left
          · intro w' hw
            go_simp
            try with_reducible rfl
          simp only [Act.put, List.setIfInBounds_toArray, List.set_cons_zero, List.set_cons_succ]
          refine hs_take (i := 4) (d := some 71) (v := ?_) rfl (by kernel_rfl) (by kernel_rfl) (by kernel_rfl) (by rfl) ?_ hS rfl ?_
          rotate_left
          · intro w' hw
            obtain rfl : w8 = w' := hw.symm; have hc := kr2
            go_simp
            try with_reducible rfl
          simp only [Act.put, List.setIfInBounds_toArray, List.set_cons_zero, List.set_cons_succ]
          refine hs_take (i := 5) (d := some 72) (v := ?_) rfl (by kernel_rfl) (by kernel_rfl) (by kernel_rfl) (by rfl) ?_ hS rfl ?_
          rotate_left
          · intro w' hw
            go_simp
            try with_reducible rfl
          simp only [Act.put, List.setIfInBounds_toArray, List.set_cons_zero, List.set_cons_succ]
          refine hs_take (i := 6) (d := some 73) (v := ?_) rfl (by kernel_rfl) (by kernel_rfl) (by kernel_rfl) (by rfl) ?_ hS rfl ?_
          rotate_left
          · intro w' hw
            obtain rfl : w8 = w' := hw.symm; have hc := kr1
            go_simp
            try with_reducible rfl
          simp only [Act.put, List.setIfInBounds_toArray, List.set_cons_zero, List.set_cons_succ]
          refine hs_take (i := 7) (d := some 74) (v := .bool false) rfl (by kernel_rfl) (by kernel_rfl) (by kernel_rfl) (by rfl) (fun w' hw => by go_simp) hS rfl ?_
          simp only [Act.put, List.setIfInBounds_toArray, List.set_cons_zero, List.set_cons_succ]
          refine hs_take (i := 8) (d := some 75) (v := .bool false) rfl (by kernel_rfl) (by kernel_rfl) (by kernel_rfl) (by rfl) (fun w' hw => by go_simp) hS rfl ?_
          simp only [Act.put, List.setIfInBounds_toArray, List.set_cons_zero, List.set_cons_succ]
          refine hs_take (i := 9) (d := some 76) (v := .bool false) rfl (by kernel_rfl) (by kernel_rfl) (by kernel_rfl) (by rfl) (fun w' hw => by go_simp) hS rfl ?_
          simp only [Act.put, List.setIfInBounds_toArray, List.set_cons_zero, List.set_cons_succ]
          refine hs_take (i := 10) (d := some 77) (v := ?_) rfl (by kernel_rfl) (by kernel_rfl) (by kernel_rfl) (by rfl) ?_ hS rfl ?_
          rotate_left
          · intro w' hw
            go_simp
            try with_reducible rfl
          simp only [Act.put, List.setIfInBounds_toArray, List.set_cons_zero, List.set_cons_succ]
          refine hs_take (i := 11) (d := some 78) (v := ?_) rfl (by kernel_rfl) (by kernel_rfl) (by kernel_rfl) (by rfl) ?_ hS rfl ?_
          rotate_left
          · intro w' hw
            go_simp
            try with_reducible rfl
          simp only [Act.put, List.setIfInBounds_toArray, List.set_cons_zero, List.set_cons_succ]
          refine hs_take (i := 13) (d := some 80) (v := ?_) rfl (by kernel_rfl) (by kernel_rfl) (by kernel_rfl) (by rfl) ?_ hS rfl ?_
          rotate_left
          · intro w' hw
            go_simp
            try with_reducible rfl
          simp only [Act.put, List.setIfInBounds_toArray, List.set_cons_zero, List.set_cons_succ]
          refine hs_call (i := 12) (d := some 79) rfl (by kernel_rfl) (by rfl) (by go_simp; first | done | exact ⟨rfl, rfl⟩ | with_reducible rfl) rfl ?_
          refine cS.mono ?_
          rintro e' w9 ⟨rfl, hx⟩
          obtain rfl := hx.symm
          clear hx
          refine ⟨_, rfl, rfl, ?_⟩
          simp only [Act.put, List.setIfInBounds_toArray, List.set_cons_zero, List.set_cons_succ]
          refine hs_take (i := 14) (d := some 81) (v := .bool false) rfl (by kernel_rfl) (by kernel_rfl) (by kernel_rfl) (by rfl) (fun w' hw => by go_simp) hS rfl ?_
          simp only [Act.put, List.setIfInBounds_toArray, List.set_cons_zero, List.set_cons_succ]
          refine hs_take (i := 15) (d := some 82) (v := .bool false) rfl (by kernel_rfl) (by kernel_rfl) (by kernel_rfl) (by rfl) (fun w' hw => by go_simp) hS rfl ?_
          simp only [Act.put, List.setIfInBounds_toArray, List.set_cons_zero, List.set_cons_succ]
          refine hs_take (i := 16) (d := some 83) (v := .bool false) rfl (by kernel_rfl) (by kernel_rfl) (by kernel_rfl) (by rfl) (fun w' hw => by go_simp) hS rfl ?_
          simp only [Act.put, List.setIfInBounds_toArray, List.set_cons_zero, List.set_cons_succ]
          refine hs_take (i := 17) (d := some 84) (v := ?_) rfl (by kernel_rfl) (by kernel_rfl) (by kernel_rfl) (by rfl) ?_ hS rfl ?_
          rotate_left
          · intro w' hw
            go_simp
            try with_reducible rfl
          simp only [Act.put, List.setIfInBounds_toArray, List.set_cons_zero, List.set_cons_succ]
          refine hs_take (i := 19) (d := some 86) (v := ?_) rfl (by kernel_rfl) (by kernel_rfl) (by kernel_rfl) (by rfl) ?_ hS rfl ?_
          rotate_left
          · intro w' hw
            go_simp
            try with_reducible rfl
          simp only [Act.put, List.setIfInBounds_toArray, List.set_cons_zero, List.set_cons_succ]
          refine hs_take (i := 20) (d := some 87) (v := ?_) rfl (by kernel_rfl) (by kernel_rfl) (by kernel_rfl) (by rfl) ?_ hS rfl ?_
          rotate_left
          · intro w' hw
            obtain rfl : w8 = w' := hw.symm; have hc := x8
            go_simp
            try with_reducible rfl
          simp only [Act.put, List.setIfInBounds_toArray, List.set_cons_zero, List.set_cons_succ]
          refine hs_take (i := 21) (d := some 88) (v := ?_) rfl (by kernel_rfl) (by kernel_rfl) (by kernel_rfl) (by rfl) ?_ hS rfl ?_
          rotate_left
          · intro w' hw
            go_simp
            try with_reducible rfl
          simp only [Act.put, List.setIfInBounds_toArray, List.set_cons_zero, List.set_cons_succ]
          refine hs_take (i := 23) (d := some 90) (v := ?_) rfl (by kernel_rfl) (by kernel_rfl) (by kernel_rfl) (by rfl) ?_ hS rfl ?_
          rotate_left
          · intro w' hw
            go_simp
            try with_reducible rfl
          simp only [Act.put, List.setIfInBounds_toArray, List.set_cons_zero, List.set_cons_succ]
          refine hs_take (i := 24) (d := some 91) (v := ?_) rfl (by kernel_rfl) (by kernel_rfl) (by kernel_rfl) (by rfl) ?_ hS rfl ?_
          rotate_left
          · intro w' hw
            go_simp
            try with_reducible rfl
          simp only [Act.put, List.setIfInBounds_toArray, List.set_cons_zero, List.set_cons_succ]
          refine hs_take (i := 25) (d := some 92) (v := ?_) rfl (by kernel_rfl) (by kernel_rfl) (by kernel_rfl) (by rfl) ?_ hS rfl ?_
          rotate_left
          · intro w' hw
            go_simp
            try with_reducible rfl
          simp only [Act.put, List.setIfInBounds_toArray, List.set_cons_zero, List.set_cons_succ]
          refine hs_take (i := 26) (d := some 93) (v := .int .i64 R) rfl (by kernel_rfl) (by kernel_rfl) (by kernel_rfl) (by rfl) (fun w' hw => by go_simp) hS rfl ?_
          simp only [Act.put, List.setIfInBounds_toArray, List.set_cons_zero, List.set_cons_succ]
          refine hs_call (i := 18) (d := some 85) rfl (by kernel_rfl) (by rfl) (by go_simp; first | done | exact ⟨rfl, rfl⟩ | with_reducible rfl) rfl ?_
          refine cU.mono ?_
          rintro e' w9 ⟨rfl, hx⟩
          obtain rfl := hx.symm
          clear hx
          refine ⟨_, rfl, rfl, ?_⟩
          simp only [Act.put, List.setIfInBounds_toArray, List.set_cons_zero, List.set_cons_succ]
          refine hs_take (i := 22) (d := some 89) (v := ?_) rfl (by kernel_rfl) (by kernel_rfl) (by kernel_rfl) (by rfl) ?_ hS rfl ?_
          rotate_left
          · intro w' hw
            go_simp
            try with_reducible rfl
          simp only [Act.put, List.setIfInBounds_toArray, List.set_cons_zero, List.set_cons_succ]
          refine hs_take (i := 27) (d := some 94) (v := .bool false) rfl (by kernel_rfl) (by kernel_rfl) (by kernel_rfl) (by rfl) (fun w' hw => by go_simp) hS rfl ?_
          simp only [Act.put, List.setIfInBounds_toArray, List.set_cons_zero, List.set_cons_succ]
          refine hs_take (i := 28) (d := some 95) (v := .bool false) rfl (by kernel_rfl) (by kernel_rfl) (by kernel_rfl) (by rfl) (fun w' hw => by go_simp) hS rfl ?_
          simp only [Act.put, List.setIfInBounds_toArray, List.set_cons_zero, List.set_cons_succ]
          refine hs_done (by kernel_rfl) ?_
          clear kr1 kr2 cS cU hS
          go_wp2_with fail
          go_roundw
          case rel => exact ⟨k + 1, M, by omega, by go_num, hT8, hon, hpl, hrm, hBw8⟩
          case measure => simp [intOf]; omega
        · rw [hap]
          generalize (M.append q y.zs).2 = M2 at *
          clear HAP hT5 hap hO5
          go_wp2_with fail
          go_roundw
          case rel => exact ⟨k + 1, M2, by omega, by go_num, hT5', h1, h2, h3.trans hrm, hBw5⟩
          case measure => simp [intOf]; omega
      · have k1 : ¬ (k : Int) < (ys.length : Int) := by omega
        have cU := live_used hT
        have lt : ∀ b, (fun b => b < w.heap.size) b → b < wo.heap.size := fun b hb => Nat.lt_of_lt_of_le hb hB.size
        have cF := live_fail hT lt 1073741824
        have hla := lose_all hT.ok
        have hfl : M.fail 1073741824 = (0, M.lose 1073741824) := by unfold Mt.fail; rw [if_pos hon]
        have hof : (M.lose 1073741824).on = false := rfl
        rw [hfl] at cF
        generalize M.lose 1073741824 = M2 at *
        obtain ⟨us, hus⟩ : ∃ us, Hid (((M.a.length : Int) + M.b.length) = us) := ⟨_, hide rfl⟩
        have hus2 : Hid (((M2.a.length : Int) + M2.b.length) = us) := hide (by rw [← hus.out]; omega)
        rw [hus.out] at cU
        clear hfl hla hon hpl hrm hT hus
        go_wp2_with fail
        refine cU.mono ?_
        rintro e wq ⟨rfl, hx⟩
        obtain rfl := hx.symm
        clear hx cU
        go_wp2_with fail
        refine cF.mono ?_
        rintro e w3 ⟨rfl, hT3, hO3⟩
        have hB3 : Below w.heap.size w w3 := hB.trans (hO3.below hB.size (fun b hb e => e hb))
        clear cF hO3 hB lt
        have cU := live_used hT3
        rw [hus2.out] at cU
        go_wp2_with fail
        refine cU.mono ?_
        rintro e wq ⟨rfl, hx⟩
        obtain rfl := hx.symm
        clear hx cU k1
        go_wp2_with fail
        go_loopw [110] (fun iv wr => ∃ (j : Nat), j ≤ ys.length ∧ iv = .int .i64 (j : Int) ∧ Live (fun b => b < w.heap.size) wr w.heap.size M2 ∧ Below w.heap.size w wr) (fun iv _ => ys.length - (intOf iv).toNat)
        case atStart => exact ⟨0, by omega, rfl, hT3, hB3⟩
        case round =>
          clear hT3 hB3 hk
          obtain ⟨j, hj, rfl, hT, hB⟩ := hrel
          obtain ⟨wo, rfl⟩ : ∃ wo, wo = wr := ⟨_, rfl⟩
          by_cases hlt : j < ys.length
          · have hltI : (j : Int) < (ys.length : Int) := by omega
            obtain ⟨rb, off, rfl, hrb, hre0⟩ := h.elem (k := 5) (fun _ _ => rfl) j hlt
            have hyo := ho _ (List.getElem_mem hlt)
            have hre := range_below hre0 hB hrb
            clear hre0
            obtain ⟨y, hy⟩ : ∃ y, Hid (ys[j] = y) := ⟨_, hide rfl⟩
            rw [hy.out] at hre hyo
            clear hy
            obtain ⟨u, hu⟩ : ∃ u, Hid (y.cells = u) := ⟨_, hide rfl⟩
            rw [hu.out] at hre
            have hq2 := two_of y.area
            obtain ⟨q, hq⟩ : ∃ q, wrap64 ((IntKind.u64.wrap y.area).tmod 2) = q := ⟨_, rfl⟩
            rw [hq] at hq2
            have F := fresh_store wo #[.int .i64 0, .int .i64 0, .slice none 0 0, .int .i64 0, .int .i64 0] 31 u (by rw [← hu.out]; rfl)
            have hN : (wo.alloc (.cells #[.int .i64 0, .int .i64 0, .slice none 0 0, .int .i64 0, .int .i64 0] 31)).there wo.heap.size 0 u.toArray.size := by
              have := there_new wo #[.int .i64 0, .int .i64 0, .slice none 0 0, .int .i64 0, .int .i64 0] 31
              have e5 : u.toArray.size = 5 := by rw [← hu.out]; rfl
              rw [e5]; exact this
            have hiq : (Try.prog.info? 31).map (·.size) = some u.length := by rw [← hu.out]; exact iszA
            have hiA : (Try.prog.info? 31).map (·.size) = some u.toArray.size := by rw [← hu.out]; exact iszA
            have h1c : u.toArray.all (·.oneCell') = true := by rw [← hu.out]; exact all_oneCell_toArray (Ac.one y)
            go_upto_region 20 with fail
            try simp only [Act.put]
            refine wp_region_list ?_
            refine wpList_step fun K hK => ?_
            go_simp
            refine hK _ _ ?_
            clear hK K
            refine wpList_load_mid rfl 31 _ rfl _ _ rfl u _ hre Try.underlying31 rfl hiq ?_
            go_upto_region 21 with (refine wpList_store_mid (op := ⟨none, .store 31 (.tmp 16) (.tmp 113), _, _, _, none⟩) rfl 31 _ _ rfl _ _ u.toArray rfl rfl hN hiA h1c ?_)
            go_name_world w3 hw3
            rw [show (wo.alloc (.cells #[.int .i64 0, .int .i64 0, .slice none 0 0, .int .i64 0, .int .i64 0] 31)).setCells wo.heap.size 0 u = w3 from hw3] at F
            clear hw3 hN hiq hiA h1c
            obtain ⟨hR3, hF3, hz3, -⟩ := F
            rw [← hu.out] at hR3
            clear hu hre
            have x1 := (act_cells hR3).2.1
            have x2 := (act_cells hR3).2.2.1
            simp only [Nat.zero_add] at x1 x2
            clear hR3
            have hT3 := hT.below hF3
            have hB3 := hB.trans (hF3.mono hB.size)
            have cA := live_append hT3 (fun b hb => Nat.lt_of_lt_of_le hb hB3.size) q y.da y.dc y.zs (hyo.r.below hB3) hyo.r.old
            rw [append_off hof hq2] at cA
            clear hT
            go_wp2_with fail
            refine cA.mono ?_
            rintro e w4 ⟨rfl, hT4, hO4⟩
            have hB4 : Below w.heap.size w w4 := hB3.trans (hO4.below hB3.size (fun b hb e => e hb))
            clear cA hO4 x1 x2 hT3 hB3
            have cY := live_sync hT4 (fun b hb => Nat.lt_of_lt_of_le hb hB4.size) q
            unfold Mt.sync at cY
            rw [does_off hof hq2] at cY
            go_wp2_with fail
            refine cY.mono ?_
            rintro e w5 ⟨rfl, hT5, hO5⟩
            have hB5 : Below w.heap.size w w5 := hB4.trans (hO5.below hB4.size (fun b hb e => e hb))
            clear cY hO5 hT4 hB4
            have cC := live_clear hT5 (fun b hb => Nat.lt_of_lt_of_le hb hB5.size) q
            unfold Mt.empty at cC
            rw [does_off hof hq2] at cC
            go_wp2_with fail
            refine cC.mono ?_
            rintro e w6 ⟨rfl, hT6, hO6⟩
            have hB6 : Below w.heap.size w w6 := hB5.trans (hO6.below hB5.size (fun b hb e => e hb))
            clear cC hO6 hT5 hB5
            have cU := live_used hT6
            rw [hus2.out] at cU
            go_wp2_with fail
            refine cU.mono ?_
            rintro e wq ⟨rfl, hx⟩
            obtain rfl := hx.symm
            clear hx cU
            go_wp2_with fail
            go_roundw
            case rel => exact ⟨j + 1, by omega, by go_num, hT6, hB6⟩
            case measure => simp [intOf]; omega
          · have j1 : ¬ (j : Int) < (ys.length : Int) := by omega
            have cL := cL wo
            go_wp2_with fail
            refine cL.mono ?_
            rintro e w9 ⟨rfl, hb9⟩
            clear cL
            go_wp2_with fail
            go_ret
            exact ⟨rfl, hB.trans (hb9.mono hB.size)⟩
end Go.Proofs.Ytfkchnjbbbhmjaa
