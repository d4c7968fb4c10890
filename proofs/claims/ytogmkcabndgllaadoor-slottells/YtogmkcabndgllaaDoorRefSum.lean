/- the document's Sum -/
import Derived.Test.YtogmkcabndgllaaDoorBlock
import Derived.Test.YtogmkcabndgllaaDoorPadded
namespace Go.Proofs.YtogmkcabndgllaaDoor
open Go.RowKit
open Sha
theorem exec_load {P : Program} {o : Oper} {a : Act} {w : World} {ty : TypeId} {x : Operand} {b off : Nat} {v : Value} (ho : o.op = .load ty x) (hx : a.eval x = .pointer (some ⟨b, off, none⟩)) (hr : (loadVar ty ⟨b, off, none⟩).run P w = .ok v w) : (execOp a.eval o).run P w = .ok (.value v) w := by
  unfold execOp
  simp only [ho, hx, Instr.loadAt, Instr.sureAddr, Sem.run_bind, Sem.run_pure, Result.andThen_ok, hr]
theorem exec_store {P : Program} {o : Oper} {a : Act} {w w' : World} {ty : TypeId} {x y : Operand} {b off : Nat} {v : Value} (ho : o.op = .store ty x y) (hx : a.eval x = .pointer (some ⟨b, off, none⟩)) (hy : a.eval y = v) (hr : (storeVar ty ⟨b, off, none⟩ v).run P w = .ok () w') : (execOp a.eval o).run P w = .ok .skip w' := by
  unfold execOp
  simp only [ho, hx, hy, Instr.storeAt, Instr.sureAddr, Sem.run_bind, Sem.run_pure, Result.andThen_ok, hr]
theorem store8 {w : World} {H : Nat} (s : St) (hT : w.there H 0 8) : (storeVar 87 ⟨H, 0, none⟩ (.agg (v32 (list s)).toArray)).run Tryd.prog w = .ok () (w.setCells H 0 (v32 (list s))) := by
  have := run_storeVar_mid (P := Tryd.prog) w H 0 87 (v32 (list s)).toArray hT isz51' (all_oneCell_toArray (v32_one _))
  simpa using this
theorem load8 {w : World} {H : Nat} (s : St) (hR : w.rangeAt H 0 (v32 (list s))) : (loadVar 87 ⟨H, 0, none⟩).run Tryd.prog w = .ok (.agg (v32 (list s)).toArray) w :=
  run_loadVar_mid w H 0 87 (v32 (list s)) _ hR Tryd.underlying87 rfl isz51'
theorem feeds_block (s : St) (P : List Int) (j : Nat) (st : St) (h : feeds (s, []) (P.take (64 * j)) = (st, [])) (hj : 64 * (j + 1) ≤ P.length) : feeds (s, []) (P.take (64 * (j + 1))) = (Sha.block st ((P.drop (64 * j)).take 64), []) := by
  have e : P.take (64 * (j + 1)) = P.take (64 * j) ++ (P.drop (64 * j)).take 64 := by
    rw [show 64 * (j + 1) = 64 * j + 64 by omega, List.take_add]
  have hl : ((P.drop (64 * j)).take 64).length = 64 := by rw [List.length_take, List.length_drop]; omega
  rw [e, feeds_append, h, feeds_full st [] _ (by rw [hl]; rfl) (by simp)]
  rfl
theorem byte_eq (x : Wd) (k : Nat) : (x.toNat : Int) / 2 ^ (24 - 8 * k) % 256 = Sha.byteOf x k := by
  unfold Sha.byteOf
  simp
theorem four_take (x : Wd) (k : Nat) (hk : k < 4) : (four x).take (k + 1) = (four x).take k ++ [Sha.byteOf x k] := by
  match k, hk with
  | 0, _ => rfl
  | 1, _ => rfl
  | 2, _ => rfl
  | 3, _ => rfl
theorem pad_len (n : Nat) : ∃ N, n + (9 + (119 - n % 64) % 64) = 64 * N := ⟨(n + (9 + (119 - n % 64) % 64)) / 64, by omega⟩
set_option maxRecDepth 20000 in
set_option maxHeartbeats 2000000 in
theorem refSum_any (a : Option Addr) (cap : Nat) (zs : List Int) (w : World) (h : RowAt w a zs) (hm : zs.length ≤ 1000000) :
   Calls Tryd.prog 30 #[.slice a zs.length cap] w fun e w' => e = .returned (.agg (v8 (sha zs)).toArray) ∧ Below w.heap.size w w' := by
  have hB0 : Below w.heap.size w ((w.alloc (.cells (Array.replicate 32 (.int .u8 0)) 26)).alloc (.cells (Array.replicate 8 (.int .u32 0)) 87)) := ((Below.refl _ _).alloc (Nat.le_refl _) _).alloc (by simp) _
  have hD0 := World.there_alloc (new_bytes w 32 26).2 (.cells (Array.replicate 8 (.int .u32 0)) 87)
  have hH0 := new8 (w.alloc (.cells (Array.replicate 32 (.int .u8 0)) 26))
  have es : (w.alloc (.cells (Array.replicate 32 (.int .u8 0)) 26)).heap.size = w.heap.size + 1 := by simp
  rw [es] at hH0
  have h1s := all_oneCell_toArray (v32_one (list init))
  go_enter Tryd.func30, Tryd.ntmps30
  go_upto_region 2 with (refine wpList_store_mid (op := ⟨none, .store 87 (.tmp 3) (.tmp 9), _, _, _, none⟩) rfl 87 _ _ rfl (w.heap.size + 1) 0 (v32 (list init)).toArray rfl rfl hH0 isz51' h1s ?_)
  go_name_world w1 hw1
  obtain ⟨hB1, hD1, hH1, hT1, hz1⟩ : Below w.heap.size w w1 ∧ w1.there w.heap.size 0 32 ∧ w1.rangeAt (w.heap.size + 1) 0 (v32 (list init)) ∧ w1.there (w.heap.size + 1) 0 8 ∧ w1.heap.size = w.heap.size + 2 := by
    have q1 := below_sets (Nat.le_succ w.heap.size) (v32 (list init)) 0 _ hB0
    have q2 := World.there_setCells hD0 (w.heap.size + 1) 0 (v32 (list init))
    have q3 := World.rangeAt_setCells_same _ (w.heap.size + 1) 0 (v32 (list init)) hH0
    have q4 := World.there_setCells hH0 (w.heap.size + 1) 0 (v32 (list init))
    have q5 := size_sets (w.heap.size + 1) (v32 (list init)) 0 ((w.alloc (.cells (Array.replicate 32 (.int .u8 0)) 26)).alloc (.cells (Array.replicate 8 (.int .u32 0)) 87))
    have q6 : ((w.alloc (.cells (Array.replicate 32 (.int .u8 0)) 26)).alloc (.cells (Array.replicate 8 (.int .u32 0)) 87)).heap.size = w.heap.size + 2 := by simp
    rw [q6] at q5
    have e := hw1
    exact ⟨e ▸ q1, e ▸ q2, e ▸ q3, e ▸ q4, e ▸ q5⟩
  clear hw1 hB0 hD0 hH0 es h1s
  have cp := padded_any a cap zs w1 (h.below hB1) hm
  have hPl : (zs ++ Sha.tail zs.length).length = zs.length + (9 + (119 - zs.length % 64) % 64) := by rw [List.length_append, tail_length]
  obtain ⟨N, hN⟩ := pad_len zs.length
  rw [hN] at hPl
  have hPok : ∀ z ∈ zs ++ Sha.tail zs.length, 0 ≤ z ∧ z < 256 := fun z hz => by
    rcases List.mem_append.1 hz with hz | hz
    · exact h.2.1 z hz
    · exact tail_ok _ z hz
  have HSH : Hid (sha zs = Sha.bytes (feeds (init, []) (zs ++ Sha.tail zs.length)).1) := rfl
  generalize zs ++ Sha.tail zs.length = P at cp hPl hPok HSH
  have hN1 : 1 ≤ N := by omega
  have hN2 : N ≤ 20000 := by omega
  simp only [Act.put]
  go_wp2_with fail
  refine cp.mono ?_
  rintro e w2 ⟨v, rfl, hown, hw2⟩
  rw [hPl] at hown
  obtain ⟨g, cg, rfl, hgB, hgs, hgc, hgm, hgr⟩ : ∃ g cap, v = .slice (some ⟨g, 0, none⟩) (64 * N) cap ∧ w1.heap.size ≤ g ∧ g < w2.heap.size ∧ 64 * N ≤ cap ∧ cap ≤ maxLen ∧ w2.rangeAt g 0 (v8 P) := by
    rcases own_range hown with ⟨_, h0, _⟩ | q
    · omega
    · exact q
  unfold maxLen at hgm
  have hB2 := hB1.trans (hw2.mono hB1.size)
  have hD2 := there_below hD1 hw2 (by omega)
  have hH2 := range_below hH1 hw2 (by omega)
  have hT2 := there_below hT1 hw2 (by omega)
  have hs2 := hw2.size
  clear hown hw2 hD1 hH1 hT1 hB1 cp
  have hgw : w.heap.size + 2 ≤ g := by omega
  have hs2' : w.heap.size + 2 ≤ w2.heap.size := by omega
  clear hgB hs2 hz1
  go_wp2_with fail
  go_loopw [5] (fun i wr => ∃ (j : Nat) (st : St), j ≤ N ∧ i = .int .i64 (64 * (j : Int)) ∧ Hid (feeds (init, []) (P.take (64 * j)) = (st, [])) ∧ wr.rangeAt (w.heap.size + 1) 0 (v32 (list st)) ∧ wr.there (w.heap.size + 1) 0 8 ∧ wr.there w.heap.size 0 32 ∧ wr.rangeAt g 0 (v8 P) ∧ g < wr.heap.size ∧ Below w.heap.size w wr) (fun i _ => 64 * N - (intOf i).toNat)
  case atStart => exact ⟨0, init, by omega, rfl, rfl, hH2, hT2, hD2, hgr, hgs, hB2⟩
  case round =>
    clear hH2 hT2 hD2 hgr hgs hB2 hs2'
    obtain ⟨j, st, hj, rfl, hfd, hH, hT, hD, hgr, hgs, hB⟩ := hrel
    by_cases hlt : j < N
    · have hltI : 64 * (j : Int) < 64 * (N : Int) := by omega
      have hld := load8 st hH
      obtain ⟨bs, hbs⟩ : ∃ bs, Hid ((P.drop (64 * j)).take 64 = bs) := ⟨_, rfl⟩
      have hbl : bs.length = 64 := by rw [← hbs.out, List.length_take, List.length_drop]; omega
      have hbo : ∀ z ∈ bs, 0 ≤ z ∧ z < 256 := by rw [← hbs.out]; exact fun z hz => hPok z (List.mem_of_mem_drop (List.mem_of_mem_take hz))
      have hbr : wr.rangeAt g (64 * j) (v8 bs) := by
        have e : v8 P = v8 (P.take (64 * j)) ++ v8 bs ++ v8 ((P.drop (64 * j)).drop 64) := by
          rw [← v8_append, ← v8_append, ← hbs.out, List.append_assoc, List.take_append_drop, List.take_append_drop]
        rw [e] at hgr
        have := range_part hgr
        rwa [v8_length, List.length_take_of_le (by omega), Nat.zero_add] at this
      have HFN : Hid (feeds (init, []) (P.take (64 * (j + 1))) = (Sha.block st bs, [])) := by
        rw [← hbs.out]; exact feeds_block init P j st hfd.out (by omega)
      have hcp : 64 * j < cg := by omega
      go_wp2_with fail
      refine hs_begin (S := fun _ => True) 8 rfl (by kernel_rfl) ?_
      have hS : (fun _ : World => True) wr.drew := trivial
      have W1 : IntKind.i64.wrap (64 * (j : Int) + 64) = 64 * (j : Int) + 64 := by rw [IntKind.wrap_i64]; omega
      have i1 : 64 * (j : Int) + 64 ≤ (cg : Int) := by omega
      have hslx := fun w' => run_slice_lh (P := Tryd.prog) w' 80 (some ⟨g, 0, none⟩) (64 * N) cg Tryd.underlying80 .i64 .i64 (64 * (j : Int)) (64 * (j : Int) + 64) (by omega) (by omega) (by omega)
      refine hs_take (i := 1) (d := some 19) (v := ?_) rfl (by kernel_rfl) (by kernel_rfl) (by kernel_rfl) (by rfl) ?_ hS rfl ?_
      rotate_left
      · intro w' _
        go_simp
        try with_reducible rfl
      simp only [Act.put, List.setIfInBounds_toArray, List.set_cons_zero, List.set_cons_succ]
      refine hs_take (i := 2) (d := some 20) (v := ?_) rfl (by kernel_rfl) (by kernel_rfl) (by kernel_rfl) (by rfl) ?_ hS rfl ?_
      rotate_left
      · intro w' _
        go_simp
        try with_reducible rfl
      simp only [Act.put, List.setIfInBounds_toArray, List.set_cons_zero, List.set_cons_succ]
      refine hs_take (i := 3) (d := some 21) (v := ?_) rfl (by kernel_rfl) (by kernel_rfl) (by kernel_rfl) (by rfl) ?_ hS rfl ?_
      rotate_left
      · intro w' _
        go_simp
        try with_reducible rfl
      simp only [Act.put, List.setIfInBounds_toArray, List.set_cons_zero, List.set_cons_succ]
      refine hs_take (i := 4) (d := some 22) (v := ?_) rfl (by kernel_rfl) (by kernel_rfl) (by kernel_rfl) (by rfl) ?_ hS rfl ?_
      rotate_left
      · intro w' _
        go_simp
        try with_reducible rfl
      simp only [Act.put, List.setIfInBounds_toArray, List.set_cons_zero, List.set_cons_succ]
      refine hs_take (i := 5) (d := some 23) (v := .slice (some ⟨g, 64 * j, none⟩) 64 (cg - 64 * j)) rfl (by kernel_rfl) (by kernel_rfl) (by kernel_rfl) (by rfl) ?_ hS rfl ?_
      · intro w' _
        go_simp
        have et : (64 * (j : Int)).toNat = 64 * j := by omega
        have et2 : (64 * (j : Int) + 64).toNat = 64 * j + 64 := by omega
        rw [et, et2, if_neg (by omega)]
        exact ⟨rfl, by omega, rfl⟩
      simp only [Act.put, List.setIfInBounds_toArray, List.set_cons_zero, List.set_cons_succ]
      refine hs_run (i := 0) (d := some 18) (v := .agg (v32 (list st)).toArray) (w' := wr.drew) rfl (by kernel_rfl) (by rfl) (exec_load rfl rfl (load8 st ((World.rangeAt_drew _ _ _ _).2 hH))) rfl trivial ?_
      simp only [Act.put, List.setIfInBounds_toArray, List.set_cons_zero, List.set_cons_succ]
      refine hs_call (i := 6) (d := some 24) rfl (by kernel_rfl) (by rfl) (by go_simp; first | done | exact ⟨rfl, rfl⟩ | with_reducible rfl) rfl ?_
      refine (block_any st g (64 * j) (cg - 64 * j) bs wr.drew hbl hbo hgs ((World.rangeAt_drew _ _ _ _).2 hbr)).mono ?_
      rintro e' w4 ⟨rfl, hw4⟩
      refine ⟨_, rfl, trivial, ?_⟩
      simp only [Act.put, List.setIfInBounds_toArray, List.set_cons_zero, List.set_cons_succ]
      have hB4 : Below w.heap.size w w4 := hB.drew.trans (hw4.mono hB.size)
      have hs4 : wr.heap.size ≤ w4.heap.size := hw4.size
      have hb1 : w.heap.size + 1 < wr.heap.size := by omega
      have hT4 := there_below ((World.there_drew _ _ _ _).2 hT) hw4 hb1
      have hD4 := there_below ((World.there_drew _ _ _ _).2 hD) hw4 (show w.heap.size < wr.drew.heap.size by show w.heap.size < wr.heap.size; omega)
      have hg4 := range_below ((World.rangeAt_drew _ _ _ _).2 hgr) hw4 hgs
      refine hs_store (i := 7) (w' := w4.setCells (w.heap.size + 1) 0 (v32 (list (Sha.block st bs)))) rfl (by kernel_rfl) (by rfl) (exec_store rfl rfl rfl (store8 (Sha.block st bs) hT4)) rfl trivial ?_
      refine hs_done (by kernel_rfl) ?_
      have hR5 := World.rangeAt_setCells_same w4 (w.heap.size + 1) 0 (v32 (list (Sha.block st bs))) hT4
      have hT5 := World.there_setCells hT4 (w.heap.size + 1) 0 (v32 (list (Sha.block st bs)))
      have hD5 := World.there_setCells hD4 (w.heap.size + 1) 0 (v32 (list (Sha.block st bs)))
      have hg5 := World.rangeAt_setCells_apart hg4 (w.heap.size + 1) 0 (v32 (list (Sha.block st bs))) (Or.inl (by omega))
      have hB5 := below_sets (Nat.le_succ w.heap.size) (v32 (list (Sha.block st bs))) 0 w4 hB4
      have hz5 := size_sets (w.heap.size + 1) (v32 (list (Sha.block st bs))) 0 w4
      generalize w4.setCells (w.heap.size + 1) 0 (v32 (list (Sha.block st bs))) = w5 at *
      obtain ⟨st2, hst2⟩ : ∃ st2, Hid (Sha.block st bs = st2) := ⟨_, rfl⟩
      rw [hst2.out] at hR5 HFN ⊢
      clear hT4 hD4 hg4 hB4 hbr hbs hbl hbo hld hslx hst2
      go_wp2_with fail
      go_roundw
      case rel => exact ⟨j + 1, st2, by omega, by go_num, HFN, hR5, hT5, hD5, hg5, by omega, hB5⟩
      case measure => simp [intOf]; omega
    · have hjN : j = N := by omega
      have hltI : ¬ 64 * (j : Int) < 64 * (N : Int) := by omega
      have HSF : Hid (sha zs = Sha.bytes st) := by
        have e := hfd.out
        rw [hjN, List.take_of_length_le (by omega)] at e
        rw [HSH.out, e]; rfl
      have q := new_bytes wr 32 26
      have hH' := World.rangeAt_alloc hH (.cells (Array.replicate 32 (.int .u8 0)) 26)
      have hD' := World.there_alloc hD (.cells (Array.replicate 32 (.int .u8 0)) 26)
      have hB' : Below w.heap.size w (wr.alloc (.cells (Array.replicate 32 (.int .u8 0)) 26)) := hB.alloc hB.size _
      have hDw : w.heap.size + 1 < wr.heap.size := by omega
      clear hfd hjN hgr hT hH hD hB HSH
      go_upto_region 8 with fail
      go_name_world w6 hw6
      rw [show wr.alloc (.cells (Array.replicate 32 (.int .u8 0)) 26) = w6 from hw6] at q hH' hD' hB'
      clear hw6
      obtain ⟨hZ0, hN0⟩ := q
      generalize wr.heap.size = D at *
      go_wp2_with fail
      go_loopw [7] (fun i wr => ∃ ii : Nat, ii ≤ 8 ∧ i = .int .i64 (ii : Int) ∧ wr.rangeAt D 0 (v8 (outb ((list st).take ii) ++ List.replicate (32 - 4 * ii) (0 : Int))) ∧ wr.there D 0 32 ∧ wr.rangeAt (w.heap.size + 1) 0 (v32 (list st)) ∧ wr.there w.heap.size 0 32 ∧ Below w.heap.size w wr) (fun i _ => 8 - (intOf i).toNat)
      case atStart => exact ⟨0, by omega, rfl, hZ0, hN0, hH', hD', hB'⟩
      case round =>
        clear hZ0 hN0 hH' hD' hB'
        obtain ⟨ii, hi8, rfl, hZ, hN, hH, hD, hB⟩ := hrel
        by_cases hl8 : ii < 8
        · obtain ⟨x, hx⟩ : ∃ x, Hid ((list st).getD ii 0 = x) := ⟨_, rfl⟩
          have hxt : Hid ((list st).take (ii + 1) = (list st).take ii ++ [x]) := by
            have hl : ii < (list st).length := hl8
            rw [List.take_succ_eq_append_getElem hl, ← hx.out, List.getD_eq_getElem?_getD, List.getElem?_eq_getElem hl]; rfl
          have hol : Hid ((outb ((list st).take ii)).length = 4 * ii) := by
            show _ = _
            rw [outb_length, List.length_take]; simp [list]; omega
          go_wp2_with fail
          go_loopw [8] (fun i wr => ∃ kk : Nat, kk ≤ 4 ∧ i = .int .i64 (kk : Int) ∧ wr.rangeAt D 0 (v8 (outb ((list st).take ii) ++ (four x).take kk ++ List.replicate (32 - 4 * ii - kk) (0 : Int))) ∧ wr.there D 0 32 ∧ wr.rangeAt (w.heap.size + 1) 0 (v32 (list st)) ∧ wr.there w.heap.size 0 32 ∧ Below w.heap.size w wr) (fun i _ => 4 - (intOf i).toNat)
          case atStart => exact ⟨0, by omega, rfl, by simpa using hZ, hN, hH, hD, hB⟩
          case round =>
            clear hZ hN hH hD hB
            obtain ⟨kk, hk4, rfl, hZ, hN, hH, hD, hB⟩ := hrel
            by_cases hl4 : kk < 4
            · have hcx := get32 hH (i := ii) (show ii < 8 from hl8)
              rw [hx.out, Nat.zero_add] at hcx
              have hxl := x.isLt
              obtain ⟨u, hu⟩ := Option.isSome_iff_exists.1 (hN (4 * ii + kk) (by omega)).1
              have hf := (hN (4 * ii + kk) (by omega)).2
              rw [Nat.zero_add] at hu hf
              go_wp2_with fail
              rw [byte_eq]
              go_roundw
              case rel =>
                refine ⟨kk + 1, by omega, by go_num, ?_, there_set hN _ _, range_other hH _ _ (fun e => absurd e (by show D ≠ w.heap.size + 1; omega)), there_set hD _ _, hB.setCell (p := ⟨D, 4 * ii + kk, none⟩) (by show w.heap.size ≤ D; omega) _⟩
                have := range_set hZ (4 * ii + kk) (.int .u8 (Sha.byteOf x kk))
                rw [Nat.zero_add, v8_set] at this
                have e1 := set_fillI (outb ((list st).take ii) ++ (four x).take kk) (32 - 4 * ii - kk) (Sha.byteOf x kk) (by omega)
                have el : (outb ((list st).take ii) ++ (four x).take kk).length = 4 * ii + kk := by
                  rw [List.length_append, hol.out, List.length_take]; simp [four]; omega
                rw [el] at e1
                rw [e1] at this
                rw [four_take x kk hl4, ← List.append_assoc, show 32 - 4 * ii - (kk + 1) = 32 - 4 * ii - kk - 1 by omega]
                exact this
              case measure => simp [intOf]; omega
            · have hk : kk = 4 := by omega
              have hkI : ¬ (kk : Int) < 4 := by omega
              have hZ4 : wr.rangeAt D 0 (v8 (outb ((list st).take (ii + 1)) ++ List.replicate (32 - 4 * (ii + 1)) (0 : Int))) := by
                rw [hxt.out, outb_snoc]
                have e4 : (four x).take kk = four x := by rw [hk]; rfl
                rw [e4, show 32 - 4 * ii - kk = 32 - 4 * (ii + 1) by omega] at hZ
                exact hZ
              clear hZ hk
              go_wp2_with fail
              go_roundw
              case rel => exact ⟨ii + 1, by omega, by go_num, hZ4, hN, hH, hD, hB⟩
              case measure => simp [intOf]; omega
        · have hii : ii = 8 := by omega
          have hiI : ¬ (ii : Int) < 8 := by omega
          have hZ8 : wr.rangeAt D 0 (v8 (Sha.bytes st)) := by
            rw [hii] at hZ
            have e8 : (list st).take 8 = list st := rfl
            rw [e8] at hZ
            simpa [bytes_out] using hZ
          have hbl : (v8 (Sha.bytes st)).length = 32 := by rw [v8_length, bytes_out, outb_length]; rfl
          have h1c := v8_one (Sha.bytes st)
          obtain ⟨cs, hcs⟩ : ∃ cs, Hid (v8 (Sha.bytes st) = cs) := ⟨_, rfl⟩
          rw [hcs.out] at hZ8 hbl h1c
          have hi : (Tryd.prog.info? 26).map (·.size) = some cs.length := by rw [hbl]; exact isz24
          clear hZ hii
          go_upto_region 15 with fail
          refine wp_region_list ?_
          refine wpList_load_mid rfl 26 _ rfl _ _ rfl cs _ hZ8 Tryd.underlying26 rfl hi ?_
          refine wpList_store_mid rfl 26 _ _ rfl _ _ cs.toArray rfl rfl (by simpa [hbl] using hD) (by simpa using hi) (all_oneCell_toArray h1c) ?_
          have hRr := World.rangeAt_setCells_same wr w.heap.size 0 cs (by rw [hbl]; exact hD)
          have hBl := below_sets (Nat.le_refl w.heap.size) cs 0 wr hB
          generalize wr.setCells w.heap.size 0 cs = wx at *
          have hrs := run_loadVar_mid (P := Tryd.prog) wx w.heap.size 0 26 cs _ hRr Tryd.underlying26 rfl hi
          clear hi
          go_wp2_with fail
          refine bodyPost_ret (v := .agg cs.toArray) (by simp [results, Tryd.results30, asAddr, hrs]) rfl ⟨by rw [HSF.out, hcs.out], hBl⟩
end Go.Proofs.YtogmkcabndgllaaDoor
