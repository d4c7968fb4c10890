/- what a tape that has no plan answers; the walk of TapeRefused; the document's tape: where it lies; New, fault, Used, Sure, Read, Arm; the document's first; a frame fits if and only if its sum is right; the frames of bytes -/
import Derived.Test.YtfkchnjbbbhmjaaXF6
import Derived.Test.YtfkchnjbbbhmjaaXF3
import Derived.Test.YtfkchnjbbbhmjaaXF5
namespace Go.Proofs.Ytfkchnjbbbhmjaa
open Go.RowKit
theorem iszA : (Try.prog.info? 31).map (·.size) = some 5 := by kernel_rfl
theorem append_two {M : Mt} {k : Int} {zs : List Int} (hon : M.on = true) (hpl : M.pl = false) (hk : k = 0 ∨ k = 1) :
    (M.append k zs = (151, M) ∧ M.room < (M.a.length : Int) + M.b.length + zs.length) ∨ (M.append k zs).1 = 0 ∧ (M.append k zs).2.on = true ∧ (M.append k zs).2.pl = false ∧ (M.append k zs).2.room = M.room := by
  have hf : M.fault k = 0 := by unfold Mt.fault; rw [if_pos hk, if_pos hon]
  unfold Mt.append
  rw [if_pos hf]
  by_cases hr : M.room - ((M.a.length : Int) + M.b.length) < zs.length
  · rw [if_pos hr]
    exact .inl ⟨rfl, by omega⟩
  · rw [if_neg hr]
    unfold Mt.does
    rw [if_pos hf, if_neg (by rw [hpl]; simp)]
    cases decide (k = 1)
    · exact .inr ⟨rfl, hon, hpl, rfl⟩
    · exact .inr ⟨rfl, hon, hpl, rfl⟩
theorem fault_on {M : Mt} {k : Int} (hon : M.on = true) (hk : k = 0 ∨ k = 1) : M.fault k = 0 := by unfold Mt.fault; rw [if_pos hk, if_pos hon]
theorem fault_off {M : Mt} {k : Int} (hon : M.on = false) (hk : k = 0 ∨ k = 1) : M.fault k = 150 := by unfold Mt.fault; rw [if_pos hk, hon]; rfl
theorem append_off {M : Mt} {k : Int} {zs : List Int} (hon : M.on = false) (hk : k = 0 ∨ k = 1) : M.append k zs = (150, M) := by
  have := fault_off hon hk
  unfold Mt.append
  rw [if_neg (by omega), this]
theorem does_off {M : Mt} {k : Int} {f : Bool → Mt → Mt} (hon : M.on = false) (hk : k = 0 ∨ k = 1) : M.does k f = (150, M) := by
  have := fault_off hon hk
  unfold Mt.does
  rw [if_neg (by omega), this]
theorem lose_all {M : Mt} (h : M.ok) : (M.lose 1073741824).a.length = M.a.length ∧ (M.lose 1073741824).b.length = M.b.length := by
  have h1 := h.rm
  have h2 := h.rl
  have h3 := h.sa
  have h4 := h.sb
  constructor
  · simp only [Mt.lose, List.length_take, keptN]; omega
  · simp only [Mt.lose, List.length_take, keptN]; omega
theorem RowAt.old {w : World} {a : Option Addr} {zs : List Int} (h : RowAt w a zs) : zs = [] ∨ ∀ x, a = some x → x.block < w.heap.size := by
  rcases h.2.2 with q | ⟨b, off, rfl, h1, -⟩
  · exact .inl q
  · exact .inr (fun x hx => by cases hx; exact h1)
theorem two_of (z : Int) : wrap64 ((IntKind.u64.wrap z).tmod 2) = 0 ∨ wrap64 ((IntKind.u64.wrap z).tmod 2) = 1 := by
  rw [IntKind.wrap_u64]
  have h0 : 0 ≤ z % 18446744073709551616 := Int.emod_nonneg _ (by omega)
  rw [Int.tmod_eq_emod_of_nonneg h0]
  unfold wrap64
  omega
theorem room_of (z : Int) : 0 ≤ wrap64 ((IntKind.u64.wrap z).tmod 200) ∧ wrap64 ((IntKind.u64.wrap z).tmod 200) < 200 := by
  rw [IntKind.wrap_u64]
  have h0 : 0 ≤ z % 18446744073709551616 := Int.emod_nonneg _ (by omega)
  rw [Int.tmod_eq_emod_of_nonneg h0]
  unfold wrap64
  omega
set_option maxRecDepth 100000 in
set_option maxHeartbeats 4000000 in
theorem refused_walk (room : Int) (a : Option Addr) (cap : Nat) (ys : List Ac) (hl : ys.length ≤ maxLen) (w : World) (ho : ∀ y ∈ ys, y.ok w) (h : RowOf Ac.cells w a ys) :
    Calls Try.prog 5 #[.int .i64 room, .slice a ys.length cap] w fun e w' => e = .returned (.bool true) ∧ Below w.heap.size w w' := by
  have cL := fun w0 => lives_any w0
  have hR0 := room_of room
  obtain ⟨R, hR⟩ : ∃ R, wrap64 ((IntKind.u64.wrap room).tmod 200) = R := ⟨_, rfl⟩
  rw [hR] at hR0
  have c1 := live_new R w (by omega) (by omega)
  go_enter Try.func5, Try.ntmps5
  go_wp2_with fail
  refine c1.mono ?_
  rintro e w1 ⟨rfl, hB1, hT1⟩
  clear c1
  have cLi := Light_any a cap ys w1 hl (fun y hy => (ho y hy).below hB1) (h.below hB1)
  go_wp2_with fail
  refine cLi.mono ?_
  clear cLi
  rintro e w2 hLi
  rcases hLi with ⟨rfl, hB2⟩ | ⟨rfl, hB2, hwt⟩
  · have cL := cL w2
    have hBB := hB1.trans (hB2.mono hB1.size)
    go_wp2_with fail
    refine cL.mono ?_
    rintro e w9 ⟨rfl, hb9⟩
    clear cL
    go_wp2_with fail
    go_ret
    exact ⟨rfl, hBB.trans (hb9.mono hBB.size)⟩
  · have hT2 := hT1.below hB2
    have hBB := hB1.trans (hB2.mono hB1.size)
    clear hT1 hB1 hB2
    have hyl := wtA_len ys
    go_wp2_with fail
    go_loopw [37] (fun iv wr => ∃ (k : Nat) (M : Mt), k ≤ ys.length ∧ iv = .int .i64 (k : Int) ∧ Live (fun b => b < w.heap.size) wr w.heap.size M ∧ M.on = true ∧ M.pl = false ∧ M.room = R ∧ Below w.heap.size w wr) (fun iv _ => ys.length - (intOf iv).toNat)
    case atStart => exact ⟨0, Mt.new R, by omega, rfl, hT2, rfl, rfl, rfl, hBB⟩
    case round =>
      clear hT2 hBB
      obtain ⟨k, M, hk, rfl, hT, hon, hpl, hrm, hB⟩ := hrel
      obtain ⟨wo, rfl⟩ : ∃ wo, wo = wr := ⟨_, rfl⟩
      by_cases hlt : k < ys.length
      · have hltI : (k : Int) < (ys.length : Int) := by omega
        obtain ⟨rb, off, rfl, hrb, hre0⟩ := h.elem (k := 5) (fun _ _ => rfl) k hlt
        have hyo := ho _ (List.getElem_mem hlt)
        have hre := range_below hre0 hB hrb
        have hyw := wtA_mem (List.getElem_mem hlt)
        clear hre0
        obtain ⟨y, hy⟩ : ∃ y, Hid (ys[k] = y) := ⟨_, hide rfl⟩
        rw [hy.out] at hre hyo hyw
        clear hy
        obtain ⟨u, hu⟩ : ∃ u, Hid (y.cells = u) := ⟨_, hide rfl⟩
        rw [hu.out] at hre
        have hq2 := two_of y.area
        obtain ⟨q, hq⟩ : ∃ q, wrap64 ((IntKind.u64.wrap y.area).tmod 2) = q := ⟨_, rfl⟩
        rw [hq] at hq2
        have F := fresh_store wo #[.int .i64 0, .int .i64 0, .slice none 0 0, .int .i64 0, .int .i64 0] 31 u (by rw [← hu.out]; rfl)
        have hN : (wo.alloc (.cells #[.int .i64 0, .int .i64 0, .slice none 0 0, .int .i64 0, .int .i64 0] 31)).there wo.heap.size 0 u.toArray.size := by
          have := there_new wo #[.int .i64 0, .int .i64 0, .slice none 0 0, .int .i64 0, .int .i64 0] 31
          have e5 : u.toArray.size = 5 := by rw [← hu.out]; rfl
          rw [e5]; exact this
        have hiq : (Try.prog.info? 31).map (·.size) = some u.length := by rw [← hu.out]; exact iszA
        have hiA : (Try.prog.info? 31).map (·.size) = some u.toArray.size := by rw [← hu.out]; exact iszA
        have h1c : u.toArray.all (·.oneCell') = true := by rw [← hu.out]; exact all_oneCell_toArray (Ac.one y)
        go_upto_region 6 with fail
        try simp only [Act.put]
        refine wp_region_list ?_
        refine wpList_step fun K hK => ?_
        go_simp
        refine hK _ _ ?_
        clear hK K
        refine wpList_load_mid rfl 31 _ rfl _ _ rfl u _ hre Try.underlying31 rfl hiq ?_
        go_upto_region 7 with (refine wpList_store_mid (op := ⟨none, .store 31 (.tmp 7) (.tmp 40), _, _, _, none⟩) rfl 31 _ _ rfl _ _ u.toArray rfl rfl hN hiA h1c ?_)
        go_name_world w3 hw3
        rw [show (wo.alloc (.cells #[.int .i64 0, .int .i64 0, .slice none 0 0, .int .i64 0, .int .i64 0] 31)).setCells wo.heap.size 0 u = w3 from hw3] at F
        clear hw3 hN hiq hiA h1c
        obtain ⟨hR3, hF3, hz3, -⟩ := F
        rw [← hu.out] at hR3
        clear hu hre
        have x1 := (act_cells hR3).2.1
        have x2 := (act_cells hR3).2.2.1
        simp only [Nat.zero_add] at x1 x2
        clear hR3
        have hX : wo.heap.size < w3.heap.size := by omega
        have hT3 := hT.below hF3
        have cR := live_read hT3 q
        have hfq : M.fault q = 0 := fault_on hon hq2
        rw [hfq] at cR
        obtain ⟨zr, hzr⟩ : ∃ zr, Hid (M.read q = zr) := ⟨_, hide rfl⟩
        simp only [hzr.out] at cR
        go_wp2_with fail
        refine cR.mono ?_
        rintro e w4 ⟨ra, rcap, rfl, hRr, hB4, hfr⟩
        clear cR
        have hB34 := hF3.trans (hB4.mono hF3.size)
        have hT4 := hT.below hB34
        have cS := live_sure hT4 q
        obtain ⟨sv, hsv⟩ : ∃ sv, Hid ((if q = 0 then (M.sa : Int) else if q = 1 then (M.sb : Int) else 0) = sv) := ⟨_, hide rfl⟩
        rw [hsv.out] at cS
        have x24 : w4.cell? ⟨wo.heap.size, 2, none⟩ = some (.slice y.da y.zs.length y.dc) := (hB4.cell (p := ⟨wo.heap.size, 2, none⟩) hX).trans x2
        go_wp2_with fail
        refine cS.mono ?_
        rintro e wq ⟨rfl, hx⟩
        obtain rfl := hx.symm
        clear hx cS
        have hBw4 := hB.trans (hB34.mono hB.size)
        have cA := live_append (hT.widen hB34) (More.lt (fun b hb => Nat.lt_of_lt_of_le hb hB.size) hB34.size) q y.da y.dc y.zs (hyo.r.below hBw4) (by
          rcases hyo.r.old with e | e
          · exact .inl e
          · exact .inr (fun x hx => .inl (e x hx)))
        have HAP := hide (append_two (zs := y.zs) hon hpl hq2)
        clear hT4 hT3
        go_wp2_with fail
        refine cA.mono ?_
        rintro e w5 ⟨rfl, hT5, hO5⟩
        clear cA
        have hBw5 : Below w.heap.size w w5 := hBw4.trans (hO5.below hBw4.size (fun b hb e => e (.inl hb)))
        have hT5' := hT5.narrow (A' := fun b => b < w.heap.size) (fun b hb => .inl hb)
        rcases HAP.out with ⟨hap, hno⟩ | ⟨hap, h1, h2, h3⟩
        · rw [hap] at hT5' ⊢
          have HNO := hide hno
          have x8 : w5.cell? ⟨wo.heap.size, 2, none⟩ = some (.slice y.da y.zs.length y.dc) := cell_at x24 (hO5.2 _ (by have := hB4.size; omega) (fun e => e (.inr ⟨by omega, by have := hB4.size; omega⟩)))
          have hRr5 := hRr.off hO5 (by
            right
            intro x hx e
            have := hfr x hx
            exact e (.inr ⟨by omega, this.2⟩))
          clear hT5 HAP hap hno hRr
          have cR := live_read hT5' q
          rw [hfq] at cR
          simp only [hzr.out] at cR
          go_wp2_with fail
          refine cR.mono ?_
          rintro e w6 ⟨rb2, rcap2, rfl, hRr6, hB6, hfr6⟩
          clear cR
          have hT6 := hT5'.below hB6
          have hBw6 := hBw5.trans (hB6.mono hBw5.size)
          go_wp2_with fail
          obtain ⟨w8, hw8⟩ : ∃ w8, w6.drew = w8 := ⟨_, rfl⟩
          have hB8 : Below w6.heap.size w6 w8 := by rw [← hw8]; exact (Below.refl _ _).drew
          have hT8 := hT6.below hB8
          have hBw8 := hBw6.trans (hB8.mono hBw6.size)
          have hB58 := hB6.trans (hB8.mono hB6.size)
          have x8 : w8.cell? ⟨wo.heap.size, 2, none⟩ = some (.slice y.da y.zs.length y.dc) := cell_at x8 (hB58.block _ (by have := hB4.size; have := hO5.size; omega))
          have cS := live_sure hT8 q
          rw [hsv.out] at cS
          have cU := live_used hT8
          have kr1 := row_str (cap := rcap) (hRr5.below hB58)
          have kr2 := row_str (cap := rcap2) (hRr6.below hB8)
          obtain ⟨us, hus⟩ : ∃ us, Hid (((M.a.length : Int) + M.b.length) = us) := ⟨_, hide rfl⟩
          have hno := HNO.out
          have hok := hT8.ok
          have hus2 : 0 ≤ us ∧ us ≤ R ∧ R < us + (y.zs.length : Int) ∧ (y.zs.length : Int) ≤ 20000 := by
            have e1 := hus.out
            have e2 := hok.rm
            refine ⟨by omega, by omega, by omega, by omega⟩
          rw [hus.out] at cU
          obtain ⟨st, hst⟩ : ∃ st, Hid (strOf zr = st) := ⟨_, hide rfl⟩
          rw [hst.out] at kr1 kr2
          have RB : IntKind.i64.wrap ((IntKind.u64.wrap room).tmod 200) = R := by rw [IntKind.wrap_i64]; unfold wrap64 at hR; exact hR
          obtain ⟨g1, g2, g3, g4⟩ := hus2
          have WU : IntKind.i64.wrap (us + (y.zs.length : Int)) = us + (y.zs.length : Int) := by rw [IntKind.wrap_i64]; omega
          clear hno hok HNO hus hst hRr5 hRr6 x24 x1 x2 hyo hyw
          refine hs_begin (S := (fun w' : World => w' = w8)) 29 rfl (by kernel_rfl) ?_
          rw [hw8]
          clear hw8
          have hS : (fun w' : World => w' = w8) w8 := rfl
          refine hs_take (i := 0) (d := some 67) (v := ?_) rfl (by kernel_rfl) (by kernel_rfl) (by kernel_rfl) (by rfl) ?_ hS rfl ?_
          rotate_left
          · intro w' hw
            go_simp
            try with_reducible rfl
          simp only [Act.put, List.setIfInBounds_toArray, List.set_cons_zero, List.set_cons_succ]
          refine hs_take (i := 1) (d := some 68) (v := .bool false) rfl (by kernel_rfl) (by kernel_rfl) (by kernel_rfl) (by rfl) (fun w' hw => by go_simp) hS rfl ?_
          simp only [Act.put, List.setIfInBounds_toArray, List.set_cons_zero, List.set_cons_succ]
          refine hs_take (i := 2) (d := some 69) (v := .bool false) rfl (by kernel_rfl) (by kernel_rfl) (by kernel_rfl) (by rfl) (fun w' hw => by go_simp) hS rfl ?_
          simp only [Act.put, List.setIfInBounds_toArray, List.set_cons_zero, List.set_cons_succ]
          refine hs_take (i := 3) (d := some 70) (v := ?_) rfl (by kernel_rfl) (by kernel_rfl) (by kernel_rfl) (by rfl) ?_ hS rfl ?_
          rotate_left
          · intro w' hw
            go_simp
            try with_reducible rfl
          simp only [Act.put, List.setIfInBounds_toArray, List.set_cons_zero, List.set_cons_succ]
          refine hs_take (i := 4) (d := some 71) (v := ?_) rfl (by kernel_rfl) (by kernel_rfl) (by kernel_rfl) (by rfl) ?_ hS rfl ?_
          rotate_left
          · intro w' hw
            obtain rfl : w8 = w' := hw.symm; have hc := kr2
            go_simp
            try with_reducible rfl
          simp only [Act.put, List.setIfInBounds_toArray, List.set_cons_zero, List.set_cons_succ]
          refine hs_take (i := 5) (d := some 72) (v := ?_) rfl (by kernel_rfl) (by kernel_rfl) (by kernel_rfl) (by rfl) ?_ hS rfl ?_
          rotate_left
          · intro w' hw
            go_simp
            try with_reducible rfl
          simp only [Act.put, List.setIfInBounds_toArray, List.set_cons_zero, List.set_cons_succ]
          refine hs_take (i := 6) (d := some 73) (v := ?_) rfl (by kernel_rfl) (by kernel_rfl) (by kernel_rfl) (by rfl) ?_ hS rfl ?_
          rotate_left
          · intro w' hw
            obtain rfl : w8 = w' := hw.symm; have hc := kr1
            go_simp
            try with_reducible rfl
          simp only [Act.put, List.setIfInBounds_toArray, List.set_cons_zero, List.set_cons_succ]
          refine hs_take (i := 7) (d := some 74) (v := .bool false) rfl (by kernel_rfl) (by kernel_rfl) (by kernel_rfl) (by rfl) (fun w' hw => by go_simp) hS rfl ?_
          simp only [Act.put, List.setIfInBounds_toArray, List.set_cons_zero, List.set_cons_succ]
          refine hs_take (i := 8) (d := some 75) (v := .bool false) rfl (by kernel_rfl) (by kernel_rfl) (by kernel_rfl) (by rfl) (fun w' hw => by go_simp) hS rfl ?_
          simp only [Act.put, List.setIfInBounds_toArray, List.set_cons_zero, List.set_cons_succ]
          refine hs_take (i := 9) (d := some 76) (v := .bool false) rfl (by kernel_rfl) (by kernel_rfl) (by kernel_rfl) (by rfl) (fun w' hw => by go_simp) hS rfl ?_
          simp only [Act.put, List.setIfInBounds_toArray, List.set_cons_zero, List.set_cons_succ]
          refine hs_take (i := 10) (d := some 77) (v := ?_) rfl (by kernel_rfl) (by kernel_rfl) (by kernel_rfl) (by rfl) ?_ hS rfl ?_
          rotate_left
          · intro w' hw
            go_simp
            try with_reducible rfl
          simp only [Act.put, List.setIfInBounds_toArray, List.set_cons_zero, List.set_cons_succ]
          refine hs_take (i := 11) (d := some 78) (v := ?_) rfl (by kernel_rfl) (by kernel_rfl) (by kernel_rfl) (by rfl) ?_ hS rfl ?_
          rotate_left
          · intro w' hw
            go_simp
            try with_reducible rfl
          simp only [Act.put, List.setIfInBounds_toArray, List.set_cons_zero, List.set_cons_succ]
          refine hs_take (i := 13) (d := some 80) (v := ?_) rfl (by kernel_rfl) (by kernel_rfl) (by kernel_rfl) (by rfl) ?_ hS rfl ?_
          rotate_left
          · intro w' hw
            go_simp
            try with_reducible rfl
          simp only [Act.put, List.setIfInBounds_toArray, List.set_cons_zero, List.set_cons_succ]
          refine hs_call (i := 12) (d := some 79) rfl (by kernel_rfl) (by rfl) (by go_simp; first | done | exact ⟨rfl, rfl⟩ | with_reducible rfl) rfl ?_
          refine cS.mono ?_
          rintro e' w9 ⟨rfl, hx⟩
          obtain rfl := hx.symm
          clear hx
          refine ⟨_, rfl, rfl, ?_⟩
          simp only [Act.put, List.setIfInBounds_toArray, List.set_cons_zero, List.set_cons_succ]
          refine hs_take (i := 14) (d := some 81) (v := .bool false) rfl (by kernel_rfl) (by kernel_rfl) (by kernel_rfl) (by rfl) (fun w' hw => by go_simp) hS rfl ?_
          simp only [Act.put, List.setIfInBounds_toArray, List.set_cons_zero, List.set_cons_succ]
          refine hs_take (i := 15) (d := some 82) (v := .bool false) rfl (by kernel_rfl) (by kernel_rfl) (by kernel_rfl) (by rfl) (fun w' hw => by go_simp) hS rfl ?_
          simp only [Act.put, List.setIfInBounds_toArray, List.set_cons_zero, List.set_cons_succ]
          refine hs_take (i := 16) (d := some 83) (v := .bool false) rfl (by kernel_rfl) (by kernel_rfl) (by kernel_rfl) (by rfl) (fun w' hw => by go_simp) hS rfl ?_
          simp only [Act.put, List.setIfInBounds_toArray, List.set_cons_zero, List.set_cons_succ]
          refine hs_take (i := 17) (d := some 84) (v := ?_) rfl (by kernel_rfl) (by kernel_rfl) (by kernel_rfl) (by rfl) ?_ hS rfl ?_
          rotate_left
          · intro w' hw
            go_simp
            try with_reducible rfl
          simp only [Act.put, List.setIfInBounds_toArray, List.set_cons_zero, List.set_cons_succ]
          refine hs_take (i := 19) (d := some 86) (v := ?_) rfl (by kernel_rfl) (by kernel_rfl) (by kernel_rfl) (by rfl) ?_ hS rfl ?_
          rotate_left
          · intro w' hw
            go_simp
            try with_reducible rfl
          simp only [Act.put, List.setIfInBounds_toArray, List.set_cons_zero, List.set_cons_succ]
          refine hs_take (i := 20) (d := some 87) (v := ?_) rfl (by kernel_rfl) (by kernel_rfl) (by kernel_rfl) (by rfl) ?_ hS rfl ?_
          rotate_left
          · intro w' hw
            obtain rfl : w8 = w' := hw.symm; have hc := x8
            go_simp
            try with_reducible rfl
          simp only [Act.put, List.setIfInBounds_toArray, List.set_cons_zero, List.set_cons_succ]
          refine hs_take (i := 21) (d := some 88) (v := ?_) rfl (by kernel_rfl) (by kernel_rfl) (by kernel_rfl) (by rfl) ?_ hS rfl ?_
          rotate_left
          · intro w' hw
            go_simp
            try with_reducible rfl
          simp only [Act.put, List.setIfInBounds_toArray, List.set_cons_zero, List.set_cons_succ]
          refine hs_take (i := 23) (d := some 90) (v := ?_) rfl (by kernel_rfl) (by kernel_rfl) (by kernel_rfl) (by rfl) ?_ hS rfl ?_
          rotate_left
          · intro w' hw
            go_simp
            try with_reducible rfl
          simp only [Act.put, List.setIfInBounds_toArray, List.set_cons_zero, List.set_cons_succ]
          refine hs_take (i := 24) (d := some 91) (v := ?_) rfl (by kernel_rfl) (by kernel_rfl) (by kernel_rfl) (by rfl) ?_ hS rfl ?_
          rotate_left
          · intro w' hw
            go_simp
            try with_reducible rfl
          simp only [Act.put, List.setIfInBounds_toArray, List.set_cons_zero, List.set_cons_succ]
          refine hs_take (i := 25) (d := some 92) (v := ?_) rfl (by kernel_rfl) (by kernel_rfl) (by kernel_rfl) (by rfl) ?_ hS rfl ?_
          rotate_left
          · intro w' hw
            go_simp
            try with_reducible rfl
          simp only [Act.put, List.setIfInBounds_toArray, List.set_cons_zero, List.set_cons_succ]
          refine hs_take (i := 26) (d := some 93) (v := .int .i64 R) rfl (by kernel_rfl) (by kernel_rfl) (by kernel_rfl) (by rfl) (fun w' hw => by go_simp) hS rfl ?_
          simp only [Act.put, List.setIfInBounds_toArray, List.set_cons_zero, List.set_cons_succ]
          refine hs_call (i := 18) (d := some 85) rfl (by kernel_rfl) (by rfl) (by go_simp; first | done | exact ⟨rfl, rfl⟩ | with_reducible rfl) rfl ?_
          refine cU.mono ?_
          rintro e' w9 ⟨rfl, hx⟩
          obtain rfl := hx.symm
          clear hx
          refine ⟨_, rfl, rfl, ?_⟩
          simp only [Act.put, List.setIfInBounds_toArray, List.set_cons_zero, List.set_cons_succ]
          refine hs_take (i := 22) (d := some 89) (v := ?_) rfl (by kernel_rfl) (by kernel_rfl) (by kernel_rfl) (by rfl) ?_ hS rfl ?_
          rotate_left
          · intro w' hw
            go_simp
            try with_reducible rfl
          simp only [Act.put, List.setIfInBounds_toArray, List.set_cons_zero, List.set_cons_succ]
          refine hs_take (i := 27) (d := some 94) (v := .bool false) rfl (by kernel_rfl) (by kernel_rfl) (by kernel_rfl) (by rfl) (fun w' hw => by go_simp) hS rfl ?_
          simp only [Act.put, List.setIfInBounds_toArray, List.set_cons_zero, List.set_cons_succ]
          refine hs_take (i := 28) (d := some 95) (v := .bool false) rfl (by kernel_rfl) (by kernel_rfl) (by kernel_rfl) (by rfl) (fun w' hw => by go_simp) hS rfl ?_
          simp only [Act.put, List.setIfInBounds_toArray, List.set_cons_zero, List.set_cons_succ]
          refine hs_done (by kernel_rfl) ?_
          clear kr1 kr2 cS cU hS
          go_wp2_with fail
          go_roundw
          case rel => exact ⟨k + 1, M, by omega, by go_num, hT8, hon, hpl, hrm, hBw8⟩
          case measure => simp [intOf]; omega
        · rw [hap]
          generalize (M.append q y.zs).2 = M2 at *
          clear HAP hT5 hap hO5
          go_wp2_with fail
          go_roundw
          case rel => exact ⟨k + 1, M2, by omega, by go_num, hT5', h1, h2, h3.trans hrm, hBw5⟩
          case measure => simp [intOf]; omega
      · have k1 : ¬ (k : Int) < (ys.length : Int) := by omega
        have cU := live_used hT
        have lt : ∀ b, (fun b => b < w.heap.size) b → b < wo.heap.size := fun b hb => Nat.lt_of_lt_of_le hb hB.size
        have cF := live_fail hT lt 1073741824
        have hla := lose_all hT.ok
        have hfl : M.fail 1073741824 = (0, M.lose 1073741824) := by unfold Mt.fail; rw [if_pos hon]
        have hof : (M.lose 1073741824).on = false := rfl
        rw [hfl] at cF
        generalize M.lose 1073741824 = M2 at *
        obtain ⟨us, hus⟩ : ∃ us, Hid (((M.a.length : Int) + M.b.length) = us) := ⟨_, hide rfl⟩
        have hus2 : Hid (((M2.a.length : Int) + M2.b.length) = us) := hide (by rw [← hus.out]; omega)
        rw [hus.out] at cU
        clear hfl hla hon hpl hrm hT hus
        go_wp2_with fail
        refine cU.mono ?_
        rintro e wq ⟨rfl, hx⟩
        obtain rfl := hx.symm
        clear hx cU
        go_wp2_with fail
        refine cF.mono ?_
        rintro e w3 ⟨rfl, hT3, hO3⟩
        have hB3 : Below w.heap.size w w3 := hB.trans (hO3.below hB.size (fun b hb e => e hb))
        clear cF hO3 hB lt
        have cU := live_used hT3
        rw [hus2.out] at cU
        go_wp2_with fail
        refine cU.mono ?_
        rintro e wq ⟨rfl, hx⟩
        obtain rfl := hx.symm
        clear hx cU k1
        go_wp2_with fail
        go_loopw [110] (fun iv wr => ∃ (j : Nat), j ≤ ys.length ∧ iv = .int .i64 (j : Int) ∧ Live (fun b => b < w.heap.size) wr w.heap.size M2 ∧ Below w.heap.size w wr) (fun iv _ => ys.length - (intOf iv).toNat)
        case atStart => exact ⟨0, by omega, rfl, hT3, hB3⟩
        case round =>
          clear hT3 hB3 hk
          obtain ⟨j, hj, rfl, hT, hB⟩ := hrel
          obtain ⟨wo, rfl⟩ : ∃ wo, wo = wr := ⟨_, rfl⟩
          by_cases hlt : j < ys.length
          · have hltI : (j : Int) < (ys.length : Int) := by omega
            obtain ⟨rb, off, rfl, hrb, hre0⟩ := h.elem (k := 5) (fun _ _ => rfl) j hlt
            have hyo := ho _ (List.getElem_mem hlt)
            have hre := range_below hre0 hB hrb
            clear hre0
            obtain ⟨y, hy⟩ : ∃ y, Hid (ys[j] = y) := ⟨_, hide rfl⟩
            rw [hy.out] at hre hyo
            clear hy
            obtain ⟨u, hu⟩ : ∃ u, Hid (y.cells = u) := ⟨_, hide rfl⟩
            rw [hu.out] at hre
            have hq2 := two_of y.area
            obtain ⟨q, hq⟩ : ∃ q, wrap64 ((IntKind.u64.wrap y.area).tmod 2) = q := ⟨_, rfl⟩
            rw [hq] at hq2
            have F := fresh_store wo #[.int .i64 0, .int .i64 0, .slice none 0 0, .int .i64 0, .int .i64 0] 31 u (by rw [← hu.out]; rfl)
            have hN : (wo.alloc (.cells #[.int .i64 0, .int .i64 0, .slice none 0 0, .int .i64 0, .int .i64 0] 31)).there wo.heap.size 0 u.toArray.size := by
              have := there_new wo #[.int .i64 0, .int .i64 0, .slice none 0 0, .int .i64 0, .int .i64 0] 31
              have e5 : u.toArray.size = 5 := by rw [← hu.out]; rfl
              rw [e5]; exact this
            have hiq : (Try.prog.info? 31).map (·.size) = some u.length := by rw [← hu.out]; exact iszA
            have hiA : (Try.prog.info? 31).map (·.size) = some u.toArray.size := by rw [← hu.out]; exact iszA
            have h1c : u.toArray.all (·.oneCell') = true := by rw [← hu.out]; exact all_oneCell_toArray (Ac.one y)
            go_upto_region 20 with fail
            try simp only [Act.put]
            refine wp_region_list ?_
            refine wpList_step fun K hK => ?_
            go_simp
            refine hK _ _ ?_
            clear hK K
            refine wpList_load_mid rfl 31 _ rfl _ _ rfl u _ hre Try.underlying31 rfl hiq ?_
            go_upto_region 21 with (refine wpList_store_mid (op := ⟨none, .store 31 (.tmp 16) (.tmp 113), _, _, _, none⟩) rfl 31 _ _ rfl _ _ u.toArray rfl rfl hN hiA h1c ?_)
            go_name_world w3 hw3
            rw [show (wo.alloc (.cells #[.int .i64 0, .int .i64 0, .slice none 0 0, .int .i64 0, .int .i64 0] 31)).setCells wo.heap.size 0 u = w3 from hw3] at F
            clear hw3 hN hiq hiA h1c
            obtain ⟨hR3, hF3, hz3, -⟩ := F
            rw [← hu.out] at hR3
            clear hu hre
            have x1 := (act_cells hR3).2.1
            have x2 := (act_cells hR3).2.2.1
            simp only [Nat.zero_add] at x1 x2
            clear hR3
            have hT3 := hT.below hF3
            have hB3 := hB.trans (hF3.mono hB.size)
            have cA := live_append hT3 (fun b hb => Nat.lt_of_lt_of_le hb hB3.size) q y.da y.dc y.zs (hyo.r.below hB3) hyo.r.old
            rw [append_off hof hq2] at cA
            clear hT
            go_wp2_with fail
            refine cA.mono ?_
            rintro e w4 ⟨rfl, hT4, hO4⟩
            have hB4 : Below w.heap.size w w4 := hB3.trans (hO4.below hB3.size (fun b hb e => e hb))
            clear cA hO4 x1 x2 hT3 hB3
            have cY := live_sync hT4 (fun b hb => Nat.lt_of_lt_of_le hb hB4.size) q
            unfold Mt.sync at cY
            rw [does_off hof hq2] at cY
            go_wp2_with fail
            refine cY.mono ?_
            rintro e w5 ⟨rfl, hT5, hO5⟩
            have hB5 : Below w.heap.size w w5 := hB4.trans (hO5.below hB4.size (fun b hb e => e hb))
            clear cY hO5 hT4 hB4
            have cC := live_clear hT5 (fun b hb => Nat.lt_of_lt_of_le hb hB5.size) q
            unfold Mt.empty at cC
            rw [does_off hof hq2] at cC
            go_wp2_with fail
            refine cC.mono ?_
            rintro e w6 ⟨rfl, hT6, hO6⟩
            have hB6 : Below w.heap.size w w6 := hB5.trans (hO6.below hB5.size (fun b hb e => e hb))
            clear cC hO6 hT5 hB5
            have cU := live_used hT6
            rw [hus2.out] at cU
            go_wp2_with fail
            refine cU.mono ?_
            rintro e wq ⟨rfl, hx⟩
            obtain rfl := hx.symm
            clear hx cU
            go_wp2_with fail
            go_roundw
            case rel => exact ⟨j + 1, by omega, by go_num, hT6, hB6⟩
            case measure => simp [intOf]; omega
          · have j1 : ¬ (j : Int) < (ys.length : Int) := by omega
            have cL := cL wo
            go_wp2_with fail
            refine cL.mono ?_
            rintro e w9 ⟨rfl, hb9⟩
            clear cL
            go_wp2_with fail
            go_ret
            exact ⟨rfl, hB.trans (hb9.mono hB.size)⟩
end Go.Proofs.Ytfkchnjbbbhmjaa
namespace Go.Proofs.Ytfkchnjbbbhmjaa
open Go.RowKit
section
variable {P : Program} {ops : Array Oper} {Q : Exit → Act → World → Prop}
theorem hs_forkL {l : List Nat} {S : World → Prop} {fuel : Nat} {listed : Array Bool} {a : Act} {w : World} (hr : Region.ready .any ops listed = l) (hl : l ≠ [])
    (h : ∀ i ∈ l, StepS P ops Q S fuel listed i a w) : HeldS P ops Q S (fuel + 1) listed a w := by
  subst hr
  refine wpAnyH_all rfl ?_ ?_
  · exact hl
  · intro k hk
    exact h k hk
theorem hs_runX {i : Nat} {S : World → Prop} {oi : Oper} {d : Option Nat} {R : Value → World → Prop} {fuel : Nat} {listed : Array Bool} {a : Act} {w : World} (hi : ops[i]? = some oi)
    (hr : Region.ready .any ops listed = [i]) (hw : Region.wanted oi (yielded ops a.tmps) = true) (hdst : oi.dst = d) (hy : ∃ v w', (execOp a.eval oi).run P w = .ok (.value v) w' ∧ R v w')
    (h : ∀ v w', R v w' → S w' ∧ HeldS P ops Q S fuel (listed.setIfInBounds i true) (a.put d v) w') : HeldS P ops Q S (fuel + 1) listed a w := by
  obtain ⟨v, w', h1, h2⟩ := hy
  obtain ⟨h4, h5⟩ := h v w' h2
  exact hs_run hi hr hw h1 hdst h4 h5
theorem st_runX {i : Nat} {S : World → Prop} {oi : Oper} {d : Option Nat} {R : Value → World → Prop} {fuel : Nat} {listed : Array Bool} {a : Act} {w : World} (hi : ops[i]? = some oi)
    (hw : Region.wanted oi (yielded ops a.tmps) = true) (hdst : oi.dst = d) (hy : ∃ v w', (execOp a.eval oi).run P w = .ok (.value v) w' ∧ R v w')
    (h : ∀ v w', R v w' → S w' ∧ HeldS P ops Q S fuel (listed.setIfInBounds i true) (a.put d v) w') : StepS P ops Q S fuel listed i a w := by
  obtain ⟨v, w', h1, h2⟩ := hy
  obtain ⟨h4, h5⟩ := h v w' h2
  exact st_run hi hw h1 hdst h4 h5
end
theorem exec_load {P : Program} {o : Oper} {a : Act} {w : World} {ty : TypeId} {x : Operand} {b off : Nat} {v : Value} (ho : o.op = .load ty x) (hx : a.eval x = .pointer (some ⟨b, off, none⟩)) (hr : (loadVar ty ⟨b, off, none⟩).run P w = .ok v w) : (execOp a.eval o).run P w = .ok (.value v) w := by
  unfold execOp
  simp only [ho, hx, Instr.loadAt, Instr.sureAddr, Sem.run_bind, Sem.run_pure, Result.andThen_ok, hr]
theorem load_one {P : Program} (w : World) {b o : Nat} {ty : TypeId} {v : Value} {d : TypeDesc} (hc : w.cell? ⟨b, o, none⟩ = some v) (hu : P.underlying ty = some d) (hd : d.isRow = false) : (loadVar ty ⟨b, o, none⟩).run P w = .ok v w := by
  simp only [loadVar, isAgg, run_underlying hu, Sem.run_bind, Result.andThen_ok]
  cases d <;> first | (simp [TypeDesc.isRow] at hd; done) | simp [go_sem, hc]
theorem exec_append1 {P : Program} {o : Oper} {a : Act} {w w' : World} {s x : Operand} {t tx : TypeId} {v xv v' : Value} (ho : o.op = .call { callee := .builtin .append, args := #[s, x], argTypes := #[t, tx] }) (hv : a.eval s = v) (hx : a.eval x = xv)
    (hr : (Builtin.append_ #[t, tx] o.type #[v, xv]).run P w = .ok v' w') : (execOp a.eval o).run P w = .ok (.value v') w' := by
  unfold execOp
  simp [ho, resolve, invoke, builtin, hv, hx, hr]
theorem exec_storeP {P : Program} {o : Oper} {a : Act} {w w' : World} {ty : TypeId} {x y : Operand} {ad : Addr} {v : Value} (ho : o.op = .store ty x y) (hx : a.eval x = .pointer (some ad)) (hy : a.eval y = v) (hr : (storeVar ty ad v).run P w = .ok () w') : (execOp a.eval o).run P w = .ok .skip w' := by
  unfold execOp
  simp [ho, hx, hy, Instr.storeAt, Instr.sureAddr, hr]
theorem run_store1 {P : Program} (w : World) (b o : Nat) (ty : TypeId) (v : Value) (ht : w.there b o 1) (hi : (P.info? ty).map (·.size) = some 1) (h1 : v.oneCell' = true) :
    (storeVar ty ⟨b, o, none⟩ v).run P w = .ok () (w.setCell ⟨b, o, none⟩ v) := by
  have hc : v.cells = #[v] := by cases v <;> first | rfl | simp [Value.oneCell'] at h1
  have := run_storeCells_cells (P := P) b o [v] 0 w (fun j hj => by simpa using (ht j (by simpa using hj)).1) (fun j hj => by simpa using (ht j (by simpa using hj)).2)
    (fun x hx => by simp at hx; subst hx; exact h1)
  cases hq : P.info? ty with
  | none => simp [hq] at hi
  | some i =>
    have hs : i.size = 1 := by simp [hq] at hi; omega
    simp only [Nat.add_zero] at this
    simp [storeVar, sizeOf, typeInfo, hq, hc, hs, this, World.setCells]
theorem ex_load {o : Oper} {a : Act} {w : World} {x : Operand} {b off : Nat} {v : Value} (ho : o.op = .load 29 x) (hx : a.eval x = .pointer (some ⟨b, off, none⟩)) (hc : w.cell? ⟨b, off, none⟩ = some v) :
    ∃ v' w', (execOp a.eval o).run Try.prog w = .ok (.value v') w' ∧ (v' = v ∧ w' = w) := ⟨v, w, exec_load ho hx (load_one w hc Try.underlying29 rfl), rfl, rfl⟩
theorem ex_bs0 {o : Oper} {a : Act} {w : World} (ho : o.op = .buildSlice 29 0 #[]) :
    ∃ v w', (execOp a.eval o).run Try.prog w = .ok (.value v) w' ∧ (v = .slice (some ⟨w.heap.size, 0, none⟩) 0 0 ∧ w' = w.alloc (.cells #[] 5)) := by
  refine ⟨.slice (some ⟨w.heap.size, 0, none⟩) 0 0, w.alloc (.cells #[] 5), ?_, rfl, rfl⟩
  obtain ⟨i, hi, hz, hs, hb⟩ := info_parts info8
  unfold execOp
  simp [ho, Instr.buildSlice, run_underlying Try.underlying29, sizeOf, typeInfo, hi, Instr.fill, newRow]
  have e : (Array.map (fun _ : Nat => (default : Value)) (Array.range 0)) = #[] := by
    apply Array.ext
    · simp
    · intro i h1 h2
      simp at h2
  rw [e]
theorem owns_new0 (w : World) : (w.alloc (.cells #[] 5)).ownsRow w.heap.size 5 1 (.slice (some ⟨w.heap.size, 0, none⟩) 0 0) 0 [] :=
  ⟨rfl, .inr ⟨w.heap.size, 0, #[], rfl, Nat.le_refl _, heap_alloc_new w _, Nat.le_refl _, by unfold maxLen; omega, rfl, rfl⟩⟩
theorem ex_append {o : Oper} {a : Act} {w : World} {s x : Operand} {B n : Nat} {v : Value} {xs : List Value} {ra : Option Addr} {cap : Nat} {L : List Int} (ho : o.op = .call { callee := .builtin .append, args := #[s, x], argTypes := #[29, 29] }) (hv : a.eval s = v) (hx : a.eval x = .slice ra L.length cap)
    (hown : w.ownsRow B 5 1 v n xs) (hB : B ≤ w.heap.size) (hrow : RowAt w ra L) (hL : n + L.length ≤ 100000000000) :
    ∃ v' w', (execOp a.eval o).run Try.prog w = .ok (.value v') w' ∧ (w'.ownsRow B 5 1 v' (n + L.length) (xs ++ v8 L) ∧ w.grownBy w' v.ownBlock) := by
  obtain ⟨i, hi, hz, hs, hb⟩ := info_parts info8
  obtain ⟨v', w', hrun, ho2, hg, hap⟩ := run_append_own_src2 (P := Try.prog) w B 29 29 o.type 5 i _ 1 1 Try.underlying29 hi hz hs hb (by rfl) v n xs hown _ L.length (v8 L) (hrow.src cap) (by unfold maxLen; omega) (by omega) hB
  exact ⟨v', w', exec_append1 ho hv hx hrun, ho2, hg⟩
/-- a tape of the document's -/
structure Rv where
  r : Nat
  aa : Option Addr
  ca : Nat
  ab : Option Addr
  cb : Nat
  x : Int
  y : Int
def rcells (t : Rv) (M : Mt) : List Value := [.int .i64 M.room, .slice t.aa M.a.length t.ca, .slice t.ab M.b.length t.cb, .int .i64 M.sa, .int .i64 M.sb, .bool (!M.on), .bool M.pl, .int .i64 t.x, .int .i64 t.y, .int .i64 M.ops, .int .i64 M.fa]
def Rv.own (t : Rv) (b : Nat) : Prop := b = t.r ∨ (∃ x, t.aa = some x ∧ x.block = b) ∨ ∃ x, t.ab = some x ∧ x.block = b
/-- a row of bytes in a block that is not R -/
structure RowN (w : World) (R : Nat) (a : Option Addr) (cap : Nat) (zs : List Int) : Prop where
  row : RowAt w a zs
  ne : ∀ x, a = some x → x.block ≠ R ∧ x.block < w.heap.size
  nil : a = none → cap = 0
  le : zs.length ≤ cap
  cm : cap ≤ maxLen
theorem RowN.at {w w' : World} {R : Nat} {a : Option Addr} {cap : Nat} {zs : List Int} (h : RowN w R a cap zs) (hs : w.heap.size ≤ w'.heap.size) (hb : ∀ x, a = some x → w'.heap[x.block]? = w.heap[x.block]?) : RowN w' R a cap zs := by
  refine ⟨⟨h.row.1, h.row.2.1, ?_⟩, fun x hx => ⟨(h.ne x hx).1, Nat.lt_of_lt_of_le (h.ne x hx).2 hs⟩, h.nil, h.le, h.cm⟩
  rcases h.row.2.2 with q | ⟨b, off, rfl, h1, h2⟩
  · exact .inl q
  · exact .inr ⟨b, off, rfl, Nat.lt_of_lt_of_le h1 hs, range_at h2 (hb _ rfl)⟩
theorem RowN.none {w : World} {R : Nat} : RowN w R none 0 [] := ⟨⟨by unfold maxLen; simp, by simp, .inl rfl⟩, by simp, fun _ => rfl, by simp, by unfold maxLen; omega⟩
structure RefAt (w : World) (t : Rv) (M : Mt) : Prop where
  c : w.rangeAt t.r 0 (rcells t M)
  th : w.there t.r 0 11
  ra : RowN w t.r t.aa t.ca M.a
  rb : RowN w t.r t.ab t.cb M.b
  px : M.pl = true → t.x = M.af ∧ t.y = M.ke
  ok : M.ok
theorem RefAt.lt {w : World} {t : Rv} {M : Mt} (h : RefAt w t M) : t.r < w.heap.size := there_lt h.th (by omega)
theorem RefAt.own_lt {w : World} {t : Rv} {M : Mt} (h : RefAt w t M) {b : Nat} (hb : t.own b) : b < w.heap.size := by
  rcases hb with rfl | ⟨x, hx, rfl⟩ | ⟨x, hx, rfl⟩
  · exact h.lt
  · exact (h.ra.ne x hx).2
  · exact (h.rb.ne x hx).2
theorem RefAt.at {w w' : World} {t : Rv} {M : Mt} (h : RefAt w t M) (hs : w.heap.size ≤ w'.heap.size) (hb : ∀ b, t.own b → w'.heap[b]? = w.heap[b]?) : RefAt w' t M :=
  ⟨range_at h.c (hb _ (.inl rfl)), there_at h.th (hb _ (.inl rfl)), h.ra.at hs (fun x hx => hb _ (.inr (.inl ⟨x, hx, rfl⟩))), h.rb.at hs (fun x hx => hb _ (.inr (.inr ⟨x, hx, rfl⟩))), h.px, h.ok⟩
theorem RefAt.below {w w' : World} {t : Rv} {M : Mt} (h : RefAt w t M) (hb : Below w.heap.size w w') : RefAt w' t M := h.at hb.size (fun b q => hb.block b (h.own_lt q))
theorem RefAt.off {w w' : World} {t : Rv} {M : Mt} {F : Nat → Prop} (h : RefAt w t M) (ho : Off F w w') (hF : ∀ b, t.own b → ¬ F b) : RefAt w' t M := h.at ho.size (fun b q => ho.2 b (h.own_lt q) (hF b q))
/-- another state of the document's tape: its block was written, rows are new -/
def RTurned (w w' : World) (t : Rv) (M : Mt) : Prop := ∃ t' : Rv, t'.r = t.r ∧ RefAt w' t' M ∧ Off (fun b => b = t.r) w w' ∧ ∀ b, t'.own b → t.own b ∨ w.heap.size ≤ b
theorem RTurned.same {w w' : World} {t : Rv} {M : Mt} (h : RefAt w t M) (hb : Below w.heap.size w w') : RTurned w w' t M := ⟨t, rfl, h.below hb, Off.of_below hb, fun _ q => .inl q⟩
theorem RTurned.trans {w w1 w2 : World} {t t1 : Rv} {M2 : Mt} (hr : t1.r = t.r) (ho : Off (fun b => b = t.r) w w1) (hn : ∀ b, t1.own b → t.own b ∨ w.heap.size ≤ b) (h : RTurned w1 w2 t1 M2) : RTurned w w2 t M2 := by
  obtain ⟨t2, e1, e2, e3, e4⟩ := h
  refine ⟨t2, e1.trans hr, e2, ho.trans e3 (fun b _ q => q.trans hr), fun b q => ?_⟩
  rcases e4 b q with q1 | q1
  · exact hn b q1
  · right; have := ho.size; omega
/-- one block was written; what it holds -/
structure CellsR (w wr : World) (p : Nat) (cs : List Value) : Prop where
  off : Off (fun b => b = p) w wr
  r : wr.rangeAt p 0 cs
  th : wr.there p 0 11
theorem CellsR.start {w : World} {t : Rv} {M : Mt} (h : RefAt w t M) : CellsR w w t.r (rcells t M) := ⟨Off.refl _ _, h.c, h.th⟩
theorem CellsR.set {w wr : World} {p : Nat} {cs : List Value} (h : CellsR w wr p cs) (i : Nat) (v : Value) : CellsR w (wr.setCell ⟨p, i, none⟩ v) p (cs.set i v) :=
  ⟨h.off.trans (Off.of_setCell (F := fun b => b = p) wr _ _ rfl) (fun _ _ q => q), by have := range_set h.r i v; rwa [Nat.zero_add] at this, there_set h.th _ _⟩
theorem CellsR.below {w wr wr' : World} {p : Nat} {cs : List Value} (h : CellsR w wr p cs) (hb : Below wr.heap.size wr wr') : CellsR w wr' p cs :=
  have hp := there_lt h.th (by omega)
  ⟨h.off.below_r hb, range_at h.r (hb.block p hp), there_at h.th (hb.block p hp)⟩
theorem CellsR.cell {w wr : World} {p : Nat} {cs : List Value} (h : CellsR w wr p cs) (i : Nat) {v : Value} (hv : cs[i]? = some v) : wr.cell? ⟨p, i, none⟩ = some v := by
  have := h.r i v hv
  rwa [Nat.zero_add] at this
theorem CellsR.fz {w wr : World} {p : Nat} {cs : List Value} (h : CellsR w wr p cs) (i : Nat) (hi : i < 11) : wr.frozen? ⟨p, i, none⟩ = false := by
  have := (h.th i hi).2
  rwa [Nat.zero_add] at this
def rptr (t : Rv) : Value := .pointer (some ⟨t.r, 0, none⟩)
section
variable {w : World} {t : Rv} {M : Mt}
theorem RefAt.cell (h : RefAt w t M) (i : Nat) {v : Value} (hv : (rcells t M)[i]? = some v) : w.cell? ⟨t.r, i, none⟩ = some v := by
  have := h.c i v hv
  rwa [Nat.zero_add] at this
theorem RefAt.fz (h : RefAt w t M) (i : Nat) (hi : i < 11) : w.frozen? ⟨t.r, i, none⟩ = false := by
  have := (h.th i hi).2
  rwa [Nat.zero_add] at this
/-- cells of the block that are other ones -/
theorem RTurned.of_cells {w1 w' : World} {t' : Rv} {M' : Mt} (hb : Below w.heap.size w w1) (hc : CellsR w1 w' t.r (rcells t' M')) (hr : t'.r = t.r) (ra : RowN w1 t.r t'.aa t'.ca M'.a) (rb : RowN w1 t.r t'.ab t'.cb M'.b)
    (ea : ∀ x, t'.aa = some x → t.own x.block ∨ w.heap.size ≤ x.block) (eb : ∀ x, t'.ab = some x → t.own x.block ∨ w.heap.size ≤ x.block) (px : M'.pl = true → t'.x = M'.af ∧ t'.y = M'.ke) (ok : M'.ok) : RTurned w w' t M' := by
  refine ⟨t', hr, ⟨by rw [hr]; exact hc.r, by rw [hr]; exact hc.th, ?_, ?_, px, ok⟩, ?_, ?_⟩
  · rw [hr]; exact ra.at hc.off.size (fun x hx => hc.off.2 _ (ra.ne x hx).2 (ra.ne x hx).1)
  · rw [hr]; exact rb.at hc.off.size (fun x hx => hc.off.2 _ (rb.ne x hx).2 (rb.ne x hx).1)
  · exact (Off.of_below hb).trans hc.off (fun _ _ q => q)
  · rintro b (q | ⟨x, hx, rfl⟩ | ⟨x, hx, rfl⟩)
    · exact .inl (.inl (q.trans hr))
    · exact ea x hx
    · exact eb x hx
end
end Go.Proofs.Ytfkchnjbbbhmjaa
namespace Go.Proofs.Ytfkchnjbbbhmjaa.Ty
open Go.RowKit
open Tal
variable {B T : Nat}
/-- a frame: kind, record, how many bytes it has -/
structure Fr where
  k : Int
  zs : List Int
  n : Nat
/-- the frame with which bytes begin -/
def firstW (bs : List Int) : Option Fr :=
  if bs.length < 4 then none else
  if (textS (bs.drop 4) 0 4194304).2.2 ≠ 0 ∨ (bs.getD 3 0 ≠ 68 ∧ bs.getD 3 0 ≠ 71) then none else
  if frameL (bs.getD 3 0) (strOf (textS (bs.drop 4) 0 4194304).1) ≠ bs.take (bs.length - (textS (bs.drop 4) 0 4194304).2.1.length) then none else
  if bs.getD 3 0 = 71 ∧ turnN (textS (bs.drop 4) 0 4194304).1 = 0 then none else
  some ⟨bs.getD 3 0, (textS (bs.drop 4) 0 4194304).1, bs.length - (textS (bs.drop 4) 0 4194304).2.1.length⟩
def FirstIs (n0 : Nat) (r : Option Fr) (e : Ending) (w : World) : Prop :=
  match r with
  | none => e = .returned (.tuple #[.int .u8 0, .slice none 0 0, .int .i64 0])
  | some f => ∃ g rc, e = .returned (.tuple #[.int .u8 f.k, .slice (some ⟨g, 0, none⟩) f.zs.length rc, .int .i64 (f.n : Int)]) ∧ RowAt w (some ⟨g, 0, none⟩) f.zs ∧ n0 ≤ g ∧ g < w.heap.size ∧ f.zs.length ≤ rc ∧ rc ≤ maxLen

theorem at_of {w : World} {X : Nat} {rest : List Int} (h : RSt B T w X rest 0) : ∃ p : Nat, p + rest.length = T ∧ w.cell? ⟨X, 1, none⟩ = some (.int .i64 (p : Int)) ∧ w.cell? ⟨X, 2, none⟩ = some (.int .i64 0) ∧ X < w.heap.size := by
  obtain ⟨zs, p, hR, hd⟩ := h
  obtain ⟨hX, -, h1, h2, -, -, -, hp, -, hT⟩ := hR
  refine ⟨p, ?_, h1, h2, hX⟩
  rw [← hd rfl, List.length_drop, ← hT]
  omega
theorem err_of {w : World} {X : Nat} {rest : List Int} {e : Int} (h : RSt B T w X rest e) : w.cell? ⟨X, 2, none⟩ = some (.int .i64 e) := by
  obtain ⟨zs, p, hR, hd⟩ := h
  exact hR.2.2.2.1
theorem frameL_len (k : Int) (zs : List Int) (hl : zs.length ≤ 100000000) : (frameL k (strOf zs)).length ≤ 100001000 := by
  have hpl := putL_length ((strOf zs).size : Int) (by rw [strOf_size]; omega)
  have hs := strOf_size zs
  simp only [frameL, sumL, kindL, textL, List.length_cons, List.length_append, strL_length, List.length_nil]
  omega
theorem numS_drop (r : List Int) (e m : Int) : ∃ c, (numS r e m).2.1 = r.drop c := by
  unfold numS
  split
  · split
    · split
      · exact ⟨0, rfl⟩
      · exact ⟨_, rfl⟩
    · exact ⟨0, rfl⟩
  · exact ⟨0, rfl⟩
theorem textS_part (r : List Int) (e m : Int) : (∃ c n, (textS r e m).1 = (r.drop c).take n) ∧ ∃ d, (textS r e m).2.1 = r.drop d := by
  obtain ⟨c, hc⟩ := numS_drop r e 9223372036854775807
  unfold textS
  rw [hc]
  split
  · split
    · exact ⟨⟨0, 0, by simp⟩, 0, rfl⟩
    · split
      · exact ⟨⟨0, 0, by simp⟩, 0, rfl⟩
      · exact ⟨⟨c, _, rfl⟩, _, List.drop_drop ..⟩
  · exact ⟨⟨0, 0, by simp⟩, 0, rfl⟩
set_option maxRecDepth 100000 in
set_option maxHeartbeats 4000000 in
theorem xfirst_any (a : Option Addr) (cap : Nat) (bs : List Int) (w : World) (h : RowAt w a bs) (hc : bs.length ≤ cap) (hm : cap ≤ maxLen) (hl : bs.length ≤ 100000000) :
    Calls Try.prog 63 #[.slice a bs.length cap] w fun e w' => FirstIs w.heap.size (firstW bs) e w' ∧ Below w.heap.size w w' := by
  unfold maxLen at hm
  by_cases h4 : bs.length < 4
  · have HF : Hid (firstW bs = none) := hide (by unfold firstW; rw [if_pos h4])
    have h4I : (bs.length : Int) < 4 := by omega
    clear h h4
    go_enter Try.func63, Try.ntmps63
    go_wp2
    go_ret3
    rw [HF.out]
    exact ⟨rfl, Below.refl _ _⟩
  · obtain ⟨b, off, rfl, hb, hk3, k0, k1⟩ := h.get 3 (by omega)
    have h4I : ¬ (bs.length : Int) < 4 := by omega
    have hge : 4 ≤ bs.length := by omega
    obtain ⟨⟨pc, pn, hp1⟩, pd, hp2⟩ := textS_part (bs.drop 4) 0 4194304
    obtain ⟨rec, rest, er, hT⟩ : ∃ rec rest er, Hid (textS (bs.drop 4) 0 4194304 = (rec, rest, er)) := ⟨_, _, _, hide rfl⟩
    rw [hT.out] at hp1 hp2
    have hrb : ∀ z ∈ rec, 0 ≤ z ∧ z < 256 := fun z hz => h.2.1 z (by
      simp only at hp1
      rw [hp1] at hz
      exact List.mem_of_mem_drop (List.mem_of_mem_drop (List.mem_of_mem_take hz)))
    have hrl : rec.length ≤ 100000000 := by
      have := congrArg List.length hp1
      simp only [List.length_take, List.length_drop] at this
      omega
    have hre : rest.length ≤ bs.length - 4 := by
      have := congrArg List.length hp2
      simp only [List.length_drop] at this
      omega
    clear hp1 hp2
    have HF : Hid (firstW bs = if er ≠ 0 ∨ (bs.getD 3 0 ≠ 68 ∧ bs.getD 3 0 ≠ 71) then none else
      if frameL (bs.getD 3 0) (strOf rec) ≠ bs.take (bs.length - rest.length) then none else
      if bs.getD 3 0 = 71 ∧ turnN rec = 0 then none else some ⟨bs.getD 3 0, rec, bs.length - rest.length⟩) := hide (by
        unfold firstW
        rw [if_neg h4, hT.out])
    generalize bs.getD 3 0 = k at *
    have hrow4 := h.drop 4 cap hge hc
    have cR := refRead_any _ (cap - 4) (bs.drop 4) w hrow4 (by rw [List.length_drop]; omega)
    rw [List.length_drop] at cR
    clear hrow4 h4
    by_cases hcap : cap = 4
    · subst hcap
      have hl4 : bs.length = 4 := by omega
      have hnil : bs.drop 4 = [] := List.drop_of_length_le (by omega)
      have hcut : cutA (some ⟨b, off, none⟩) 4 4 = some ⟨b, off, none⟩ := by unfold cutA; rw [if_pos rfl]
      rw [hcut] at cR
      have hT' := hT.out
      rw [hnil] at cR hT'
      have e10 : textS [] 0 4194304 = ([], [], 10) := rfl
      rw [e10] at hT'
      simp only [Prod.mk.injEq] at hT'
      obtain ⟨rfl, rfl, rfl⟩ := hT'
      rw [if_pos (.inl (by omega))] at HF
      rw [hl4] at cR ⊢
      clear hT hnil hcut hre hrl hrb e10 hc hm hl hge h4I hl4
      go_enter Try.func63, Try.ntmps63
      go_wp2_with fail
      refine cR.mono ?_
      rintro e1 w1 ⟨X, rfl, hX, hS1, hB1⟩
      clear cR
      have cT := refText_any X [] 0 4194304 w1 hS1
      have e10 : textS [] 0 4194304 = ([], [], 10) := rfl
      rw [e10] at cT
      simp only at cT
      clear hS1 e10
      go_wp2_with fail
      refine cT.mono ?_
      rintro e2 w2 ⟨rfl, hS2, hg2⟩
      clear cT
      have hB2 : Below w.heap.size w w2 := below_grown hB1 hg2 hX hB1.size
      clear hg2 hB1
      have he2 := err_of hS2
      go_wp2
      go_ret3
      rw [HF.out]
      exact ⟨rfl, hB2⟩
    · have hcut : cutA (some ⟨b, off, none⟩) cap 4 = some ⟨b, off + 4, none⟩ := by unfold cutA; rw [if_neg hcap]; rfl
      rw [hcut] at cR
      clear hcut
      go_enter Try.func63, Try.ntmps63
      go_wp2_with fail
      refine cR.mono ?_
      rintro e1 w1 ⟨X, rfl, hX, hS1, hB1⟩
      clear cR
      have cT := refText_any X (bs.drop 4) 0 4194304 w1 hS1
      rw [hT.out] at cT
      simp only at cT
      clear hS1
      go_wp2_with fail
      refine cT.mono ?_
      rintro e2 w2 ⟨rfl, hS2, hg2⟩
      clear cT
      have hB2 : Below w.heap.size w w2 := below_grown hB1 hg2 hX hB1.size
      clear hg2 hB1
      have he2 := err_of hS2
      by_cases her : er = 0
      · subst her
        obtain ⟨p, hpT, hp1, -, hXw⟩ := at_of hS2
        have n0 : ((0 : Int) != 0) = false := rfl
        by_cases hk : k ≠ 68 ∧ k ≠ 71
        · have n1 : (k != 68) = true := bne_iff_ne.2 hk.1
          have n2 : (k != 71) = true := bne_iff_ne.2 hk.2
          rw [if_pos (.inr hk)] at HF
          clear hk
          go_wp2
          go_ret3
          rw [HF.out]
          exact ⟨rfl, hB2⟩
        · rw [if_neg (by rintro (q | q); exact q rfl; exact hk q)] at HF
          obtain ⟨n, hn⟩ : ∃ n : Nat, Hid (bs.length - rest.length = n) := ⟨_, hide rfl⟩
          have hpn : 4 + (p : Int) = (n : Int) := by have := hn.out; omega
          have hnl : n ≤ bs.length := by have := hn.out; omega
          rw [hn.out] at HF
          have hkk : k = 68 ∨ k = 71 := by omega
          clear hk hn hpT hre hS2 n0
          have h2 := h.below hB2
          rcases hkk with rfl | rfl
          · go_wp2_with fail
            obtain ⟨w8, hw8⟩ : ∃ w8, w2.drew = w8 := ⟨_, rfl⟩
            have hB8 : Below w2.heap.size w2 w8 := by rw [← hw8]; exact (Below.refl _ _).drew
            have h8 := h2.below hB8
            have hB28 : Below w.heap.size w w8 := hB2.trans (hB8.mono hB2.size)
            have hnt : (bs.take n).length = n := by rw [List.length_take]; omega
            have k8 : ∀ w', Below w8.heap.size w8 w' → (convert 29 9 (.slice (some ⟨b, off, none⟩) n cap)).run Try.prog w' = .ok (.string (strOf (bs.take n))) w' := fun w' hw => by
              have := _root_.Go.Proofs.Ytfkchnjbbbhmjaa.row_str (cap := cap) ((h8.below hw).take n)
              rwa [hnt] at this
            obtain ⟨cap3, w9, hcv, hrow9, -, -, hB9, -⟩ := row_bytes rec w8 hrb hrl
            have cF := xframe_any 68 (some ⟨w8.heap.size, 0, none⟩) cap3 rec w9 hrow9 ⟨by omega, by omega⟩ hrl
            have hfl := frameL_len 68 rec hrl
            obtain ⟨fL, hfL⟩ : ∃ fL, Hid (frameL 68 (strOf rec) = fL) := ⟨_, hide rfl⟩
            rw [hfL.out] at cF HF hfl
            clear hfL h2 hrow9 hp1 he2 hnt
            refine hs_begin (S := (Below w8.heap.size w8)) 10 rfl (by kernel_rfl) ?_
            rw [hw8]
            clear hw8
            have hS : (Below w8.heap.size w8) w8 := Below.refl _ _
            refine hs_take (i := 0) (d := some 38) (v := ?_) rfl (by kernel_rfl) (by kernel_rfl) (by kernel_rfl) (by rfl) ?_ hS rfl ?_
            rotate_left
            · intro w' hw
              go_simp
              try with_reducible rfl
            simp only [Act.put, List.setIfInBounds_toArray, List.set_cons_zero, List.set_cons_succ]
            refine hs_take (i := 1) (d := some 39) (v := ?_) rfl (by kernel_rfl) (by kernel_rfl) (by kernel_rfl) (by rfl) ?_ hS rfl ?_
            rotate_left
            · intro w' hw
              go_simp
              try with_reducible rfl
            simp only [Act.put, List.setIfInBounds_toArray, List.set_cons_zero, List.set_cons_succ]
            refine hs_take (i := 5) (d := some 43) (v := ?_) rfl (by kernel_rfl) (by kernel_rfl) (by kernel_rfl) (by rfl) ?_ hS rfl ?_
            rotate_left
            · intro w' hw
              go_simp
              try with_reducible rfl
            simp only [Act.put, List.setIfInBounds_toArray, List.set_cons_zero, List.set_cons_succ]
            refine hs_take (i := 6) (d := some 44) (v := ?_) rfl (by kernel_rfl) (by kernel_rfl) (by kernel_rfl) (by rfl) ?_ hS rfl ?_
            rotate_left
            · intro w' hw
              go_simp
              try with_reducible rfl
            simp only [Act.put, List.setIfInBounds_toArray, List.set_cons_zero, List.set_cons_succ]
            refine hs_take (i := 7) (d := some 45) (v := .slice (some ⟨b, off, none⟩) n cap) rfl (by kernel_rfl) (by kernel_rfl) (by kernel_rfl) (by rfl) (fun w' hw => by go_simp; intro q; omega) hS rfl ?_
            simp only [Act.put, List.setIfInBounds_toArray, List.set_cons_zero, List.set_cons_succ]
            refine hs_take (i := 8) (d := some 46) (v := .string (strOf (bs.take n))) rfl (by kernel_rfl) (by kernel_rfl) (by kernel_rfl) (by rfl) (fun w' hw => by have := k8 w' hw; go_simp) hS rfl ?_
            simp only [Act.put, List.setIfInBounds_toArray, List.set_cons_zero, List.set_cons_succ]
            have hS : Below w8.heap.size w8 w9 := hB9
            refine hs_run (i := 2) (d := some 40) (v := .slice (some ⟨w8.heap.size, 0, none⟩) rec.length cap3) (w' := w9) rfl (by kernel_rfl) (by rfl) (ex_conv rfl rfl hcv) rfl hS ?_
            simp only [Act.put, List.setIfInBounds_toArray, List.set_cons_zero, List.set_cons_succ]
            refine hs_call (i := 3) (d := some 41) rfl (by kernel_rfl) (by rfl) (by go_simp; first | done | exact ⟨rfl, rfl⟩ | with_reducible rfl) rfl ?_
            refine (cF).mono ?_
            rintro e' w10 ⟨v4, rfl, hM4, hB4⟩
            have hS : Below w8.heap.size w8 w10 := hB9.trans (hB4.mono hB9.size)
            refine ⟨_, rfl, hS, ?_⟩
            simp only [Act.put, List.setIfInBounds_toArray, List.set_cons_zero, List.set_cons_succ]
            obtain ⟨a4, c4, rfl, -, -, hR4⟩ := hM4.row (by omega)
            have hS : Below w8.heap.size w8 w10 := hS
            refine hs_run (i := 4) (d := some 42) (v := .string (strOf fL)) (w' := w10) rfl (by kernel_rfl) (by rfl) (ex_conv rfl rfl (_root_.Go.Proofs.Ytfkchnjbbbhmjaa.row_str (cap := c4) hR4)) rfl hS ?_
            simp only [Act.put, List.setIfInBounds_toArray, List.set_cons_zero, List.set_cons_succ]
            refine hs_take (i := 9) (d := some 47) (v := ?_) rfl (by kernel_rfl) (by kernel_rfl) (by kernel_rfl) (by rfl) ?_ hS rfl ?_
            rotate_left
            · intro w' hw
              go_simp
              try with_reducible rfl
            simp only [Act.put, List.setIfInBounds_toArray, List.set_cons_zero, List.set_cons_succ]
            refine hs_done (by kernel_rfl) ?_

            have hfb := hR4.2.1
            have htb : ∀ z ∈ bs.take n, 0 ≤ z ∧ z < 256 := fun z hz => h.2.1 z (List.mem_of_mem_take hz)
            have hBA : Below w.heap.size w w10 := hB28.trans (hS.mono hB28.size)
            clear k8 hcv hB9 hB4 hM4 hR4 hS cF h8 hB8 hB28 hfl hX hB2 h
            by_cases hq : fL = bs.take n
            · have qq : ((strOf fL).toList == (strOf (bs.take n)).toList) = true := by rw [hq]; simp
              rw [if_neg (fun q => q hq)] at HF
              rw [qq]
              clear qq hq hfb htb
              obtain ⟨cap5, w11, hcv5, hrow5, hca5, hcb5, hB11, hsz5⟩ := row_bytes rec w10 hrb hrl
              have hBB : Below w.heap.size w w11 := hBA.trans (hB11.mono hBA.size)
              rw [if_neg (by omega)] at HF
              clear hB11 hpn
              go_wp2
              go_ret3
              rw [HF.out]
              exact ⟨⟨_, _, rfl, hrow5, hBA.size, hsz5, hca5, hcb5⟩, hBB⟩
            · have qq : ((strOf fL).toList == (strOf (bs.take n)).toList) = false := beq_eq_false_iff_ne.2 (fun q => hq (strOf_inj hfb htb q))
              rw [if_pos hq] at HF
              rw [qq]
              clear qq hq hfb htb
              go_wp2
              go_ret3
              rw [HF.out]
              exact ⟨rfl, hBA⟩
          · go_wp2_with fail
            obtain ⟨w8, hw8⟩ : ∃ w8, w2.drew = w8 := ⟨_, rfl⟩
            have hB8 : Below w2.heap.size w2 w8 := by rw [← hw8]; exact (Below.refl _ _).drew
            have h8 := h2.below hB8
            have hB28 : Below w.heap.size w w8 := hB2.trans (hB8.mono hB2.size)
            have hnt : (bs.take n).length = n := by rw [List.length_take]; omega
            have k8 : ∀ w', Below w8.heap.size w8 w' → (convert 29 9 (.slice (some ⟨b, off, none⟩) n cap)).run Try.prog w' = .ok (.string (strOf (bs.take n))) w' := fun w' hw => by
              have := _root_.Go.Proofs.Ytfkchnjbbbhmjaa.row_str (cap := cap) ((h8.below hw).take n)
              rwa [hnt] at this
            obtain ⟨cap3, w9, hcv, hrow9, -, -, hB9, -⟩ := row_bytes rec w8 hrb hrl
            have cF := xframe_any 71 (some ⟨w8.heap.size, 0, none⟩) cap3 rec w9 hrow9 ⟨by omega, by omega⟩ hrl
            have hfl := frameL_len 71 rec hrl
            obtain ⟨fL, hfL⟩ : ∃ fL, Hid (frameL 71 (strOf rec) = fL) := ⟨_, hide rfl⟩
            rw [hfL.out] at cF HF hfl
            clear hfL h2 hrow9 hp1 he2 hnt
            refine hs_begin (S := (Below w8.heap.size w8)) 10 rfl (by kernel_rfl) ?_
            rw [hw8]
            clear hw8
            have hS : (Below w8.heap.size w8) w8 := Below.refl _ _
            refine hs_take (i := 0) (d := some 38) (v := ?_) rfl (by kernel_rfl) (by kernel_rfl) (by kernel_rfl) (by rfl) ?_ hS rfl ?_
            rotate_left
            · intro w' hw
              go_simp
              try with_reducible rfl
            simp only [Act.put, List.setIfInBounds_toArray, List.set_cons_zero, List.set_cons_succ]
            refine hs_take (i := 1) (d := some 39) (v := ?_) rfl (by kernel_rfl) (by kernel_rfl) (by kernel_rfl) (by rfl) ?_ hS rfl ?_
            rotate_left
            · intro w' hw
              go_simp
              try with_reducible rfl
            simp only [Act.put, List.setIfInBounds_toArray, List.set_cons_zero, List.set_cons_succ]
            refine hs_take (i := 5) (d := some 43) (v := ?_) rfl (by kernel_rfl) (by kernel_rfl) (by kernel_rfl) (by rfl) ?_ hS rfl ?_
            rotate_left
            · intro w' hw
              go_simp
              try with_reducible rfl
            simp only [Act.put, List.setIfInBounds_toArray, List.set_cons_zero, List.set_cons_succ]
            refine hs_take (i := 6) (d := some 44) (v := ?_) rfl (by kernel_rfl) (by kernel_rfl) (by kernel_rfl) (by rfl) ?_ hS rfl ?_
            rotate_left
            · intro w' hw
              go_simp
              try with_reducible rfl
            simp only [Act.put, List.setIfInBounds_toArray, List.set_cons_zero, List.set_cons_succ]
            refine hs_take (i := 7) (d := some 45) (v := .slice (some ⟨b, off, none⟩) n cap) rfl (by kernel_rfl) (by kernel_rfl) (by kernel_rfl) (by rfl) (fun w' hw => by go_simp; intro q; omega) hS rfl ?_
            simp only [Act.put, List.setIfInBounds_toArray, List.set_cons_zero, List.set_cons_succ]
            refine hs_take (i := 8) (d := some 46) (v := .string (strOf (bs.take n))) rfl (by kernel_rfl) (by kernel_rfl) (by kernel_rfl) (by rfl) (fun w' hw => by have := k8 w' hw; go_simp) hS rfl ?_
            simp only [Act.put, List.setIfInBounds_toArray, List.set_cons_zero, List.set_cons_succ]
            have hS : Below w8.heap.size w8 w9 := hB9
            refine hs_run (i := 2) (d := some 40) (v := .slice (some ⟨w8.heap.size, 0, none⟩) rec.length cap3) (w' := w9) rfl (by kernel_rfl) (by rfl) (ex_conv rfl rfl hcv) rfl hS ?_
            simp only [Act.put, List.setIfInBounds_toArray, List.set_cons_zero, List.set_cons_succ]
            refine hs_call (i := 3) (d := some 41) rfl (by kernel_rfl) (by rfl) (by go_simp; first | done | exact ⟨rfl, rfl⟩ | with_reducible rfl) rfl ?_
            refine (cF).mono ?_
            rintro e' w10 ⟨v4, rfl, hM4, hB4⟩
            have hS : Below w8.heap.size w8 w10 := hB9.trans (hB4.mono hB9.size)
            refine ⟨_, rfl, hS, ?_⟩
            simp only [Act.put, List.setIfInBounds_toArray, List.set_cons_zero, List.set_cons_succ]
            obtain ⟨a4, c4, rfl, -, -, hR4⟩ := hM4.row (by omega)
            have hS : Below w8.heap.size w8 w10 := hS
            refine hs_run (i := 4) (d := some 42) (v := .string (strOf fL)) (w' := w10) rfl (by kernel_rfl) (by rfl) (ex_conv rfl rfl (_root_.Go.Proofs.Ytfkchnjbbbhmjaa.row_str (cap := c4) hR4)) rfl hS ?_
            simp only [Act.put, List.setIfInBounds_toArray, List.set_cons_zero, List.set_cons_succ]
            refine hs_take (i := 9) (d := some 47) (v := ?_) rfl (by kernel_rfl) (by kernel_rfl) (by kernel_rfl) (by rfl) ?_ hS rfl ?_
            rotate_left
            · intro w' hw
              go_simp
              try with_reducible rfl
            simp only [Act.put, List.setIfInBounds_toArray, List.set_cons_zero, List.set_cons_succ]
            refine hs_done (by kernel_rfl) ?_

            have hfb := hR4.2.1
            have htb : ∀ z ∈ bs.take n, 0 ≤ z ∧ z < 256 := fun z hz => h.2.1 z (List.mem_of_mem_take hz)
            have hBA : Below w.heap.size w w10 := hB28.trans (hS.mono hB28.size)
            clear k8 hcv hB9 hB4 hM4 hR4 hS cF h8 hB8 hB28 hfl hX hB2 h
            by_cases hq : fL = bs.take n
            · have qq : ((strOf fL).toList == (strOf (bs.take n)).toList) = true := by rw [hq]; simp
              rw [if_neg (fun q => q hq)] at HF
              rw [qq]
              clear qq hq hfb htb
              obtain ⟨cap5, w11, hcv5, hrow5, hca5, hcb5, hB11, hsz5⟩ := row_bytes rec w10 hrb hrl
              have hBB : Below w.heap.size w w11 := hBA.trans (hB11.mono hBA.size)
              have cX := xturn_any (some ⟨w10.heap.size, 0, none⟩) cap5 rec w11 hrow5 hrl
              obtain ⟨t, ht⟩ : ∃ t, Hid (turnN rec = t) := ⟨_, hide rfl⟩
              rw [ht.out] at cX HF
              clear hBA hB11 hpn ht hrow5
              by_cases h0 : t = 0
              · subst h0
                rw [if_pos (by simp)] at HF
                go_wp2_with fail
                refine cX.mono ?_
                rintro e5 w12 ⟨rfl, hB12⟩
                have hBC : Below w.heap.size w w12 := hBB.trans (hB12.mono hBB.size)
                clear cX hcv5 hBB hB12
                go_wp2
                go_ret3
                rw [HF.out]
                exact ⟨rfl, hBC⟩
              · rw [if_neg (fun q => h0 q.2)] at HF
                have n1 : (t == 0) = false := beq_eq_false_iff_ne.2 h0
                clear h0
                go_wp2_with fail
                refine cX.mono ?_
                rintro e5 w12 ⟨rfl, hB12⟩
                have hBC : Below w.heap.size w w12 := hBB.trans (hB12.mono hBB.size)
                clear cX hcv5 hBB hB12
                obtain ⟨cap6, w13, hcv6, hrow6, hca6, hcb6, hB13, hsz6⟩ := row_bytes rec w12 hrb hrl
                have hBD : Below w.heap.size w w13 := hBC.trans (hB13.mono hBC.size)
                clear hB13
                go_wp2
                go_ret3
                rw [HF.out]
                exact ⟨⟨_, _, rfl, hrow6, hBC.size, hsz6, hca6, hcb6⟩, hBD⟩
            · have qq : ((strOf fL).toList == (strOf (bs.take n)).toList) = false := beq_eq_false_iff_ne.2 (fun q => hq (strOf_inj hfb htb q))
              rw [if_pos hq] at HF
              rw [qq]
              clear qq hq hfb htb
              go_wp2
              go_ret3
              rw [HF.out]
              exact ⟨rfl, hBA⟩
      · have n1 : (er != 0) = true := bne_iff_ne.2 her
        rw [if_pos (.inl her)] at HF
        clear her
        go_wp2
        go_ret3
        rw [HF.out]
        exact ⟨rfl, hB2⟩
end Go.Proofs.Ytfkchnjbbbhmjaa.Ty
namespace Go.Proofs.Ytfkchnjbbbhmjaa.Ty
open Go.RowKit
open Tal
/-- what was read as a text is what would be put -/
theorem textS_form {r rec rest : List Int} {most : Int} (hz : ∀ z ∈ r, 0 ≤ z ∧ z < 256) (h : textS r 0 most = (rec, rest, 0)) : r = textL (strOf rec) ++ rest := by
  have hN := numS_max r hz
  have hF := numR_form r hz
  unfold textS at h
  rw [hN] at h
  by_cases h0 : (numR r).2.2 = 0
  · obtain ⟨f1, f2, f3, f4⟩ := hF h0
    rw [if_pos h0] at h
    simp only at h
    rw [if_pos trivial] at h
    generalize (numR r).1 = v at *
    generalize (numR r).2.1 = c at *
    obtain ⟨m, rfl⟩ := Int.eq_ofNat_of_zero_le f3
    split at h
    · simp at h
    · split at h
      · simp at h
      · rename_i hm hl
        simp only [Prod.mk.injEq, and_true, Int.toNat_natCast] at h
        obtain ⟨rfl, rfl⟩ := h
        have hb : ∀ z ∈ (r.drop c).take m, 0 ≤ z ∧ z < 256 := fun z q => hz z (List.mem_of_mem_drop (List.mem_of_mem_take q))
        unfold textL
        rw [strL_strOf hb, strOf_size, List.length_take, Nat.min_eq_left (by omega), f1, List.append_assoc, List.take_append_drop, List.take_append_drop]
  · rw [if_neg h0] at h
    simp only [if_neg h0, Prod.mk.injEq] at h
    exact absurd h.2.2 h0
theorem sumL_iff {b0 b1 b2 : Int} {bs : List Int} (h1 : 0 ≤ b1 ∧ b1 < 256) (h2 : 0 ≤ b2 ∧ b2 < 256) : sumL bs = [b0, b1, b2] ↔ crcN bs = sumN [b0, b1, b2] := by
  have hc := crcN_lt bs
  have e : sumN [b0, b1, b2] = ((0 * 256 + b0) * 256 + b1) * 256 + b2 := rfl
  rw [e]
  unfold sumL
  generalize crcN bs = c at *
  constructor
  · intro h
    simp only [List.cons.injEq, and_true] at h
    omega
  · intro h
    simp only [List.cons.injEq, and_true]
    omega
/-- the frame's bytes fit if and only if the sum of those behind it is the one that stands there -/
theorem fits_iff {bs rec rest : List Int} (hz : ∀ z ∈ bs, 0 ≤ z ∧ z < 256) (h4 : 4 ≤ bs.length) (h : textS (bs.drop 4) 0 4194304 = (rec, rest, 0)) :
    (frameL (bs.getD 3 0) (strOf rec) = bs.take (bs.length - rest.length) ↔ crcN ((bs.drop 3).take (bs.length - rest.length - 3)) = sumN (bs.take 3)) ∧ rest.length + 4 ≤ bs.length ∧ rest = bs.drop (bs.length - rest.length) := by
  have hf := textS_form (fun z q => hz z (List.mem_of_mem_drop q)) h
  obtain ⟨b0, b1, b2, k, tl, rfl⟩ : ∃ b0 b1 b2 k tl, bs = b0 :: b1 :: b2 :: k :: tl := by
    match bs, h4 with
    | b0 :: b1 :: b2 :: k :: tl, _ => exact ⟨b0, b1, b2, k, tl, rfl⟩
  simp only [List.drop_succ_cons, List.drop_zero] at hf
  subst hf
  clear h
  generalize htx : textL (strOf rec) = tx
  have hn : (b0 :: b1 :: b2 :: k :: (tx ++ rest)).length - rest.length = tx.length + 1 + 1 + 1 + 1 := by simp only [List.length_cons, List.length_append]; omega
  rw [hn]
  have hk : (b0 :: b1 :: b2 :: k :: (tx ++ rest)).getD 3 0 = k := rfl
  rw [hk]
  have hkl : kindL k (strOf rec) = k :: tx := by rw [← htx]; rfl
  refine ⟨?_, by simp only [List.length_cons, List.length_append]; omega, by simp⟩
  have e1 : tx.length + 1 + 1 + 1 + 1 - 3 = tx.length + 1 := by omega
  rw [e1]
  simp only [List.take_succ_cons, List.drop_succ_cons, List.drop_zero, List.take_zero, List.take_left]
  unfold frameL
  rw [hkl]
  rw [← sumL_iff (hz b1 (by simp)) (hz b2 (by simp))]
  constructor
  · intro q
    have : sumL (k :: tx) ++ (k :: tx) = [b0, b1, b2] ++ (k :: tx) := q
    exact List.append_cancel_right this
  · intro q
    rw [q]
    rfl
/-- the frames of bytes -/
def framesN : Nat → List Int → List Fr
  | 0, _ => []
  | t + 1, bs => match firstW bs with
    | none => []
    | some f => f :: framesN t (bs.drop f.n)
def framesW (bs : List Int) : List Fr := framesN bs.length bs
theorem firstW_len {bs : List Int} {f : Fr} (hz : ∀ z ∈ bs, 0 ≤ z ∧ z < 256) (h : firstW bs = some f) : 4 ≤ f.n ∧ f.n ≤ bs.length := by
  unfold firstW at h
  split at h
  · cases h
  · rename_i h4
    split at h
    · cases h
    · rename_i he
      split at h
      · cases h
      · split at h
        · cases h
        · obtain ⟨rec, rest, er, hT⟩ : ∃ rec rest er, textS (bs.drop 4) 0 4194304 = (rec, rest, er) := ⟨_, _, _, rfl⟩
          rw [hT] at h he
          simp only [Option.some.injEq] at h
          have her : er = 0 := by
            by_cases q : er = 0
            · exact q
            · exact absurd (.inl q) he
          subst her
          have := (fits_iff hz (by omega) hT).2.1
          subst h
          simp only
          omega
theorem framesN_more {bs : List Int} (hz : ∀ z ∈ bs, 0 ≤ z ∧ z < 256) : ∀ t, bs.length ≤ t → framesN t bs = framesN bs.length bs := by
  intro t
  induction t using Nat.strongRecOn generalizing bs with
  | _ t ih =>
    intro ht
    match t, ht with
    | 0, ht =>
      have : bs.length = 0 := by omega
      rw [this]
    | t + 1, ht =>
      cases hf : firstW bs with
      | none =>
        have : bs.length = 0 ∨ ∃ u, bs.length = u + 1 := by cases bs.length <;> simp
        rcases this with q | ⟨u, q⟩
        · rw [q]; simp only [framesN, hf]
        · rw [q]; simp only [framesN, hf]
      | some f =>
        obtain ⟨l1, l2⟩ := firstW_len hz hf
        obtain ⟨u, q⟩ : ∃ u, bs.length = u + 1 := ⟨bs.length - 1, by omega⟩
        have hz' : ∀ z ∈ bs.drop f.n, 0 ≤ z ∧ z < 256 := fun z hh => hz z (List.mem_of_mem_drop hh)
        have hd : (bs.drop f.n).length ≤ u := by rw [List.length_drop]; omega
        rw [q]
        simp only [framesN, hf]
        rw [ih t (by omega) hz' (by omega), ih u (by omega) hz' hd]
/-- one frame, then those behind it -/
theorem framesW_step {bs : List Int} (hz : ∀ z ∈ bs, 0 ≤ z ∧ z < 256) : framesW bs = match firstW bs with
    | none => []
    | some f => f :: framesW (bs.drop f.n) := by
  cases hf : firstW bs with
  | none =>
    unfold framesW
    cases bs.length <;> simp only [framesN, hf]
  | some f =>
    obtain ⟨l1, l2⟩ := firstW_len hz hf
    obtain ⟨u, q⟩ : ∃ u, bs.length = u + 1 := ⟨bs.length - 1, by omega⟩
    have hz' : ∀ z ∈ bs.drop f.n, 0 ≤ z ∧ z < 256 := fun z hh => hz z (List.mem_of_mem_drop hh)
    unfold framesW
    rw [q]
    simp only [framesN, hf]
    rw [framesN_more hz' u (by rw [List.length_drop]; omega)]
end Go.Proofs.Ytfkchnjbbbhmjaa.Ty
