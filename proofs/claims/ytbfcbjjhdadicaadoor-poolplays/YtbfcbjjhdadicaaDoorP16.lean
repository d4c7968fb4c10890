/- the walk of PoolFirst -/
import Derived.Test.YtbfcbjjhdadicaaDoorP15
import Derived.Test.YtbfcbjjhdadicaaDoorP13
namespace Go.Proofs.YtbfcbjjhdadicaaDoor
open Go.RowKit
open Sha Tal
theorem umod64 (z : Int) : ∃ k : Nat, 1 ≤ k ∧ k ≤ 64 ∧ wrap64 (1 + wrap64 ((IntKind.u64.wrap z).tmod 64)) = (k : Int) := by
  rw [IntKind.wrap_u64]
  have h0 : 0 ≤ z % 18446744073709551616 := Int.emod_nonneg _ (by decide)
  generalize z % 18446744073709551616 = q at h0
  rw [Int.tmod_eq_emod_of_nonneg h0]
  have h1 := Int.emod_nonneg q (b := 64) (by omega)
  have h2 := Int.emod_lt_of_pos q (b := 64) (by omega)
  generalize q % 64 = r at h1 h2
  refine ⟨(1 + r).toNat, by omega, by omega, ?_⟩
  simp only [wrap64]
  omega
theorem pk_inj {l : List Rq} (h : (l.map pk).Nodup) {x y : Rq} (hx : x ∈ l) (hy : y ∈ l) (he : pk x = pk y) : x = y := by
  induction l with
  | nil => cases hx
  | cons a l ih =>
    rw [List.map_cons, List.nodup_cons] at h
    rcases List.mem_cons.1 hx with hx1 | hx1
    · rcases List.mem_cons.1 hy with hy1 | hy1
      · rw [hx1, hy1]
      · exact absurd (by rw [← hx1, he]; exact List.mem_map_of_mem hy1) h.1
    · rcases List.mem_cons.1 hy with hy1 | hy1
      · exact absurd (by rw [← hy1, ← he]; exact List.mem_map_of_mem hx1) h.1
      · exact ih h.2 hx1 hy1
theorem neq_self (r : Rq) (h : r.ok) (w : World) : (binOp .neq 35 (.agg r.cells.toArray) (.agg r.cells.toArray)).run Tryd.prog w = .ok (.bool false) w := by
  show (binOp .neq 35 (.agg (reqL r.c r.n r.s r.t).toArray) (.agg (reqL r.c r.n r.s r.t).toArray)).run Tryd.prog w = _
  rw [run_neq_struct, reqEqIn 9997 r.c r.n r.s r.t r.c r.n r.s r.t h.tl h.tl, reqB_same]; rfl
/-- a request stands first in its bucket -/
def Heads (ls : List (List Rq)) (i : Nat) (r : Rq) : Prop := ∃ t, ls[i]? = some (r :: t)
theorem Heads.add {ls : List (List Rq)} {i : Nat} {r : Rq} (h : Heads ls i r) (room : Nat) (x : Rq) : Heads (addL room ls x) i r := by
  obtain ⟨t, ht⟩ := h
  unfold addL
  split
  · by_cases hi : bkt ls.length x = i
    · subst hi
      refine ⟨t ++ [x], ?_⟩
      rw [List.getElem?_set, if_pos rfl, if_pos (List.getElem?_eq_some_iff.1 ht).1]
      simp [List.getD, ht]
    · exact ⟨t, by rw [List.getElem?_set, if_neg hi, ht]⟩
  · exact ⟨t, ht⟩
theorem Heads.filter {ls : List (List Rq)} {i : Nat} {r : Rq} (h : Heads ls i r) (hnd : (flatP ls).Nodup) (p : Rq → Bool) (hin : pk r ∈ flatP (ls.map (List.filter p))) : Heads (ls.map (List.filter p)) i r := by
  obtain ⟨t, ht⟩ := h
  have hr : r ∈ ls.flatten := List.mem_flatten.2 ⟨r :: t, List.mem_of_getElem? ht, by simp⟩
  have hp : p r = true := by
    unfold flatP at hin
    obtain ⟨x, hx, he⟩ := List.mem_map.1 hin
    obtain ⟨l', hl', hxl⟩ := List.mem_flatten.1 hx
    obtain ⟨l, hl, rfl⟩ := List.mem_map.1 hl'
    have hxx := List.mem_filter.1 hxl
    have : x = r := pk_inj hnd (List.mem_flatten.2 ⟨l, hl, hxx.1⟩) hr he
    rw [← this]
    exact hxx.2
  refine ⟨t.filter p, ?_⟩
  rw [List.getElem?_map, ht]
  simp [hp]
theorem Heads.pick {ls : List (List Rq)} {i : Nat} {r : Rq} (h : Heads ls i r) : pickL [] 1 (onceL ls.length [(i : Int)]) ls = [r] := by
  obtain ⟨t, ht⟩ := h
  rw [pick_one (S := []) (List.getElem?_eq_some_iff.1 ht).1 rfl]
  simp [List.getD, ht]
theorem add_first {k : Nat} (hk : 0 < k) (r : Rq) (h0 : 0 ≤ r.c) (h1 : 0 ≤ r.n) : addE 16 (List.replicate k []) r = 0 ∧ Heads (addL 16 (List.replicate k []) r) (bkt k r) r ∧ (∀ j, j ≠ bkt k r → inL (addL 16 (List.replicate k []) r) (j : Int) = []) ∧ (addL 16 (List.replicate k []) r).length = k := by
  have hb := (bkt_lt r hk).1
  have e0 : addE 16 (List.replicate k []) r = 0 := by
    have hg : (List.replicate k ([] : List Rq)).getD (bkt k r) [] = [] := by simp [List.getD, hb]
    simp only [addE, flat_empty, List.length_replicate, hg]
    simp
    omega
  have e1 : addL 16 (List.replicate k []) r = (List.replicate k []).set (bkt k r) [r] := by
    unfold addL
    rw [if_pos e0]
    simp [List.getD, hb]
  refine ⟨e0, ⟨[], ?_⟩, ?_, ?_⟩
  · rw [e1, List.getElem?_set, if_pos rfl, if_pos (by simpa using hb)]
  · intro j hj
    rw [e1]
    unfold inL
    split
    · simp only [Int.toNat_natCast, List.getD, List.getElem?_set, if_neg (fun e : bkt k r = j => hj e.symm)]
      by_cases hjk : j < k
      · simp [hjk]
      · simp [hjk]
    · rfl
  · rw [e1]; simp
theorem add_neg {room : Nat} {ls : List (List Rq)} {r : Rq} (h : r.c < 0 ∨ r.n < 0) : addE room ls r = 2 := by unfold addE; rw [if_pos h]
set_option maxRecDepth 100000 in
set_option maxHeartbeats 4000000 in
theorem first_walk (z : Int) (r : Rq) (a : Option Addr) (cap : Nat) (As : List Ac) (w : World) (hr : r.ok) (hrow : RowOf Ac.cells w a As) (hok : ∀ A ∈ As, A.ok w) (hG : Glob w) :
    Calls Tryd.prog 5 #[.int .i64 z, .agg r.cells.toArray, .slice a As.length cap] w fun e w' => e = .returned (.bool true) ∧ Below w.heap.size w w' := by
  have hB1 : Below w.heap.size w (w.alloc (.cells r.cells.toArray 35)) := (Below.refl _ _).alloc (Nat.le_refl _) _
  have hR1 : (w.alloc (.cells r.cells.toArray 35)).rangeAt w.heap.size 0 r.cells := by simpa using range_new w r.cells.toArray 35
  have hXW : w.heap.size < (w.alloc (.cells r.cells.toArray 35)).heap.size := by simp
  have hiu := hr.isz
  have hul := hr.length
  have hsl := hr.sl
  have heq : ∀ w', (binOp .neq 35 (.agg r.cells.toArray) (.agg r.cells.toArray)).run Tryd.prog w' = .ok (.bool false) w' := fun w' => neq_self r hr w'
  have cadd := fun (w0 W : World) (P : Pl) (room : Nat) (ls : List (List Rq)) (h : PoolIn w0 W P room ls) (hG : Glob w0) => padd_in h r hr hG
  obtain ⟨W1, hW1⟩ : ∃ W1, w.alloc (.cells r.cells.toArray 35) = W1 := ⟨_, rfl⟩
  rw [hW1] at hB1 hR1 hXW
  obtain ⟨d0, d1, d2⟩ := reqL_0 hR1
  obtain ⟨u, hu⟩ : ∃ u, Hid (r.cells = u) := ⟨_, hide rfl⟩
  rw [hu.out] at hR1 hiu hW1 ⊢
  simp only [hu.out] at heq cadd
  have hrow1 := hrow.below hB1
  have hok1 : ∀ A ∈ As, A.ok W1 := fun A hA => (hok A hA).below hB1
  have hG1 := hG.below hB1
  go_enter Tryd.func5, Tryd.ntmps5
  go_upto_region 2 with fail
  obtain ⟨k, hk1, hk64, hke⟩ := umod64 z
  rw [hke]
  clear hke hW1 hrow hok
  have cN := new_yes k 16 W1 (by omega) hk64 (by omega) (by omega)
  have h0 := pnew_in W1 k 16 (by omega) hk64 (by omega)
  obtain ⟨wa, hwa⟩ : ∃ wa, newW W1 k 16 = wa := ⟨_, rfl⟩
  rw [hwa] at cN h0
  obtain ⟨P0, hP0⟩ : ∃ P0, newPl W1 k = P0 := ⟨_, rfl⟩
  rw [hP0] at cN h0
  clear hwa hP0
  have cN : Calls Tryd.prog 8 #[.int .i64 (k : Int), .int .i64 16] W1 fun e w' => e = .returned (.tuple #[ptr P0, .int .i64 0]) ∧ w' = wa := cN
  obtain ⟨q, hq⟩ : ∃ q, Hid (ptr P0 = .pointer (some q)) := ⟨_, hide rfl⟩
  rw [hq.out] at cN
  go_wp2_with fail
  refine cN.mono ?_
  rintro e w' ⟨rfl, hx⟩
  obtain rfl := hx.symm
  clear cN hx
  have cli := light10_any a cap As wa (hrow1.below h0.b) (fun A hA => (hok1 A hA).below h0.b)
  go_wp2_with fail
  refine cli.mono ?_
  rintro e w2 (⟨rfl, hb2⟩ | ⟨rfl, hb2, hl200, hlA⟩)
  · have h2 := h0.below hb2
    have cL := lives_any w2 (hG1.below h2.b)
    clear cli
    go_wp2_with fail
    refine cL.mono ?_
    rintro e w9 ⟨rfl, hb9⟩
    clear cL
    go_wp2_with fail
    go_ret
    exact ⟨rfl, hB1.trans ((h2.b.trans (hb9.mono h2.b.size)).mono hB1.size)⟩
  · have h2 := h0.below hb2
    clear cli
    have e2 : w2.cell? ⟨w.heap.size, 2, none⟩ = some (.string r.s) := cell_at d2 (h2.b.block _ hXW)
    unfold maxLen at hsl
    by_cases hbig : 1000 < r.s.size
    · have hbI : (1000 : Int) < (r.s.size : Int) := by omega
      have cL := lives_any w2 (hG1.below h2.b)
      go_wp2_with fail
      refine cL.mono ?_
      rintro e w9 ⟨rfl, hb9⟩
      clear cL
      go_wp2_with fail
      go_ret
      exact ⟨rfl, hB1.trans ((h2.b.trans (hb9.mono h2.b.size)).mono hB1.size)⟩
    · have hbI : ¬ (1000 : Int) < (r.s.size : Int) := by omega
      have hR2 := range_below hR1 h2.b hXW
      have ca := cadd W1 w2 P0 16 _ h2 hG1
      rw [hq.out] at ca
      clear cadd
      go_upto_region 5 with fail
      refine wp_region_list ?_
      refine wpList_step fun K hK => ?_
      go_simp
      refine hK _ _ ?_
      clear hK K
      refine wpList_load_mid rfl 35 _ rfl _ _ rfl u _ hR2 Tryd.underlying35 rfl hiu ?_
      clear hbI hbig e2 hsl
      by_cases hneg : r.c < 0 ∨ r.n < 0
      · have hE := add_neg (room := 16) (ls := List.replicate k []) hneg
        rw [hE] at ca
        clear hE
        go_wp2_with fail
        refine ca.mono ?_
        rintro e w3 ⟨rfl, Q, hp, h3, -, -⟩
        clear ca
        have x0 : w3.cell? ⟨w.heap.size, 0, none⟩ = some (.int .i64 r.c) := cell_at d0 (h3.b.block _ hXW)
        have x1 : w3.cell? ⟨w.heap.size, 1, none⟩ = some (.int .i64 r.n) := cell_at d1 (h3.b.block _ hXW)
        have cL := lives_any w3 (hG1.below h3.b)
        by_cases hc : r.c < 0
        · clear hneg
          go_wp2_with fail
          refine cL.mono ?_
          rintro e w9 ⟨rfl, hb9⟩
          clear cL
          go_wp2_with fail
          go_ret
          exact ⟨rfl, hB1.trans ((h3.b.trans (hb9.mono h3.b.size)).mono hB1.size)⟩
        · have hn : r.n < 0 := by omega
          clear hneg
          go_wp2_with fail
          refine cL.mono ?_
          rintro e w9 ⟨rfl, hb9⟩
          clear cL
          go_wp2_with fail
          go_ret
          exact ⟨rfl, hB1.trans ((h3.b.trans (hb9.mono h3.b.size)).mono hB1.size)⟩
      · obtain ⟨hE, hH, hO, hLen⟩ := add_first (k := k) (by omega) r (by omega) (by omega)
        rw [hE] at ca
        have hil := (bkt_lt r (k := k) (by omega)).1
        obtain ⟨i, hi⟩ : ∃ i, Hid (bkt k r = i) := ⟨_, hide rfl⟩
        rw [hi.out] at hH hO hil
        generalize addL 16 (List.replicate k []) r = ls1 at *
        clear hE hi hneg
        go_wp2_with fail
        refine ca.mono ?_
        rintro e w3 ⟨rfl, Q, hp, h3, -, -⟩
        have hqQ : Hid (ptr Q = .pointer (some q)) := hide hp
        clear ca h0 h2 hb2 hR2 hp
        have cIn := fun z W (h : PoolIn W1 W Q 16 ls1) => pin_any Q 16 ls1 z W h.at_
        simp only [hqQ.out] at cIn
        go_wp2_with fail
        go_loopw [10, 67] (fun av iv wr => ∃ b : Nat, b ≤ k ∧ iv = .int .i64 (b : Int) ∧ av = .int .i64 (if i < b then (i : Int) else -1) ∧ PoolIn W1 wr Q 16 ls1) (fun _ iv _ => k - (intOf iv).toNat)
        case atStart => exact ⟨0, by omega, rfl, by rw [if_neg (by omega)], h3⟩
        case round =>
          clear h3
          obtain ⟨b, hb, rfl, rfl, h3⟩ := hrel
          by_cases hlt : b < k
          · have k1 : (b : Int) < (k : Int) := by omega
            have cIn := cIn (b : Int) wr h3
            obtain ⟨at_, hat⟩ : ∃ at_ : Int, Hid ((if i < b then (i : Int) else -1) = at_) := ⟨_, hide rfl⟩
            simp only [hat.out]
            go_wp2_with fail
            refine cIn.mono ?_
            rintro e w4 ⟨v, rfl, ho, hb4⟩
            have h4 := h3.below hb4
            obtain ⟨va, vcap, rfl⟩ := owns_slice ho
            by_cases hbi : b = i
            · have hpos : 0 < (inL ls1 (b : Int)).length := by
                obtain ⟨t, ht⟩ := hH
                rw [hbi]
                unfold inL
                rw [if_pos ⟨by omega, by omega⟩]
                simp [List.getD, ht]
              obtain ⟨N, hN⟩ : ∃ N, Hid ((inL ls1 (b : Int)).length = N) := ⟨_, hide rfl⟩
              rw [hN.out] at hpos
              simp only [hN.out]
              have hposI : (0 : Int) < (N : Int) := by omega
              clear ho
              go_wp2_with fail
              go_roundw
              case rel => exact ⟨b + 1, by omega, by go_num, by rw [if_pos (by omega), hbi], h4⟩
              case measure => simp [intOf]; omega
            · have hz : (inL ls1 (b : Int)).length = 0 := by rw [hO b hbi]; rfl
              simp only [hz]
              clear ho
              go_wp2_with fail
              go_roundw
              case rel => exact ⟨b + 1, by omega, by go_num, by rw [← hat.out]; by_cases hx : i < b; rw [if_pos hx, if_pos (by omega)]; rw [if_neg hx, if_neg (by omega)], h4⟩
              case measure => simp [intOf]; omega
          · have k1 : ¬ (b : Int) < (k : Int) := by omega
            rw [if_pos (show i < b by omega)]
            clear cIn hO
            have hH0 : Hid (Heads ls1 i r) := hide hH
            clear hH
            go_wp2_with fail
            go_loopw [79] (fun iv wr => ∃ (j : Nat) (Q : Pl) (ls : List (List Rq)), j ≤ As.length ∧ iv = .int .i64 (j : Int) ∧ Hid (ptr Q = .pointer (some q)) ∧ PoolIn W1 wr Q 16 ls ∧ Hid (Heads ls i r) ∧ ls.length = k) (fun iv _ => As.length - (intOf iv).toNat)
            case atStart => exact ⟨0, Q, ls1, by omega, rfl, hqQ, h3, hH0, hLen⟩
            case round =>
              clear h3 hH0 hLen hqQ
              obtain ⟨j, Q2, ls, hj, rfl, hqQ, h3, hH, hLen⟩ := hrel
              by_cases hlt2 : j < As.length
              · have j1 : (j : Int) < (As.length : Int) := by omega
                obtain ⟨ab, aoff, rfl, hab, hre⟩ := (hrow1.below h3.b).elem (k := 24) (fun A hA => (hok1 A hA).length) j hlt2
                have hoW := hok1 _ (List.getElem_mem hlt2)
                generalize As[j] = A at *
                have hok := hoW.below h3.b
                have hiq : (Tryd.prog.info? 40).map (·.size) = some A.cells.length := by rw [hok.length]; exact iszA
                have hiA : (Tryd.prog.info? 40).map (·.size) = some A.cells.toArray.size := by rw [List.size_toArray, hok.length]; exact iszA
                have hN := act_blank hok.length wr
                have h1c := all_oneCell_toArray A.one
                have F := fresh_store wr #[.int .i64 0, .int .i64 0, .int .i64 0, .string ⟨#[]⟩, .int .u8 0, .int .u8 0, .int .u8 0, .int .u8 0, .int .u8 0, .int .u8 0, .int .u8 0, .int .u8 0, .int .u8 0, .int .u8 0, .int .u8 0, .int .u8 0, .int .u8 0, .int .u8 0, .int .u8 0, .int .u8 0, .slice none 0 0, .int .i64 0, .slice none 0 0, .slice none 0 0] 40 A.cells (by rw [hok.length]; rfl)
                obtain ⟨ua, hua⟩ : ∃ u, Hid (A.cells = u) := ⟨_, hide rfl⟩
                rw [hua.out] at hre hiq hiA hN h1c F
                clear hok1
                go_upto_region 16 with fail
                try simp only [Act.put]
                refine wp_region_list ?_
                refine wpList_step fun K hK => ?_
                go_simp
                refine hK _ _ ?_
                clear hK K
                refine wpList_load_mid rfl 40 _ rfl _ _ rfl ua _ hre Tryd.underlying40 rfl hiq ?_
                go_upto_region 17 with (refine wpList_store_mid (op := ⟨none, .store 40 (.tmp 13) (.tmp 82), _, _, _, none⟩) rfl 40 _ _ rfl _ _ ua.toArray rfl rfl hN hiA h1c ?_)
                go_name_world w3 hw3
                rw [show (wr.alloc (.cells #[.int .i64 0, .int .i64 0, .int .i64 0, .string ⟨#[]⟩, .int .u8 0, .int .u8 0, .int .u8 0, .int .u8 0, .int .u8 0, .int .u8 0, .int .u8 0, .int .u8 0, .int .u8 0, .int .u8 0, .int .u8 0, .int .u8 0, .int .u8 0, .int .u8 0, .int .u8 0, .int .u8 0, .slice none 0 0, .int .i64 0, .slice none 0 0, .slice none 0 0] 40)).setCells wr.heap.size 0 ua = w3 from hw3] at F
                clear hw3 hN
                obtain ⟨hR3, hF3, hz3, -⟩ := F
                rw [← hua.out] at hR3
                have h4 := h3.below hF3
                have ha := act_cells hok.r hR3
                simp only [Nat.zero_add] at ha
                obtain ⟨ca0, -, -, -, -, -, ca23⟩ := ha
                clear h3 hre hF3
                by_cases hk0 : A.kind = 0
                · rw [hk0] at ca0
                  have cA := padd_in h4 A.r hok.r hG1
                  have hRr := act_req hR3
                  have hiA2 := hok.r.isz
                  have hLen2 : (addL 16 ls A.r).length = k := by rw [← hLen]; unfold addL; split; simp; rfl
                  have hH5 : Hid (pk r ∈ flatP (addL 16 ls A.r) → Heads (addL 16 ls A.r) i r) := hide (fun _ => hH.out.add 16 A.r)
                  obtain ⟨E, hE⟩ : ∃ E, Hid (addE 16 ls A.r = E) := ⟨_, hide rfl⟩
                  rw [hE.out, hqQ.out] at cA
                  generalize addL 16 ls A.r = ls2 at *
                  obtain ⟨u2, hu2⟩ : ∃ u2, Hid (A.r.cells = u2) := ⟨_, hide rfl⟩
                  rw [hu2.out] at hRr hiA2 cA
                  clear hH hLen ca23 hE
                  go_upto_region 19 with fail
                  refine wp_region_list ?_
                  refine wpList_step fun K hK => ?_
                  go_simp
                  refine hK _ _ ?_
                  clear hK K
                  refine wpList_step fun K hK => ?_
                  go_simp
                  refine hK _ _ ?_
                  clear hK K
                  refine wpList_load_mid rfl 35 _ rfl _ _ rfl u2 _ hRr Tryd.underlying35 rfl hiA2 ?_
                  go_wp2_with fail
                  refine cA.mono ?_
                  rintro e w5 ⟨rfl, Q3, hp3, h5, -, -⟩
                  have hq3 : Hid (ptr Q3 = .pointer (some q)) := hide hp3
                  clear cA hp3 h4 hRr
                  have x0 : w5.cell? ⟨w.heap.size, 0, none⟩ = some (.int .i64 r.c) := cell_at d0 (h5.b.block _ hXW)
                  have x1 : w5.cell? ⟨w.heap.size, 1, none⟩ = some (.int .i64 r.n) := cell_at d1 (h5.b.block _ hXW)
                  have ch := phas_any Q3 16 ls2 r.c r.n ⟨hr.cl, hr.ch⟩ ⟨hr.nl, hr.nh⟩ w5 h5.at_
                  rw [hq3.out] at ch
                  by_cases hin : pk r ∈ flatP ls2
                  · rw [decide_eq_true (show (r.c, r.n) ∈ flatP ls2 from hin)] at ch
                    have hH6 := hH5.out hin
                    have HP := hide hH6.pick
                    have HH := hide hH6
                    clear hin hH5 hH6
                    go_wp2_with fail
                    refine ch.mono ?_
                    rintro e w6 ⟨rfl, hb6⟩
                    have h6 := h5.below hb6
                    clear ch x0 x1
                    obtain ⟨w7, hw7⟩ : ∃ w7, w6.alloc (.cells #[.int .i64 (i : Int)] 3) = w7 := ⟨_, rfl⟩
                    have hb7 : Below w6.heap.size w6 w7 := by rw [← hw7]; exact (Below.refl _ _).alloc (Nat.le_refl _) _
                    have hi7 : IntsAt w7 (some ⟨w6.heap.size, 0, none⟩) [(i : Int)] := by
                      rw [← hw7]
                      exact .inr ⟨_, _, rfl, by simp, by simpa [intsV] using range_new w6 #[.int .i64 (i : Int)] 3⟩
                    have h7 := h6.below hb7
                    have cP := pick_any Q3 16 ls2 (some ⟨w6.heap.size, 0, none⟩) 1 [(i : Int)] 1 none 0 0 [] w7 h7.at_ hi7 (by simp) (pairsOf_nil w7)
                    rw [hq3.out, HP.out] at cP
                    go_wp2_with fail
                    refine cP.mono ?_
                    rintro e w8a ⟨v, rfl, hv8, hb8a⟩
                    have h8a := h7.below hb8a
                    obtain ⟨la, lcap, rfl, -, -, hRA, -⟩ := own_reqs0 hv8 (fun x hx => by rw [List.mem_singleton.1 hx]; exact hr) (by unfold maxLen; simp)
                    obtain ⟨lb, loff, rfl, hlb6, hre6⟩ := hRA.elem 0 (by simp)
                    clear cP hv8 hRA HP hi7
                    go_upto_region 25 with fail
                    obtain ⟨w8, hw8⟩ : ∃ w8, w8a.drew = w8 := ⟨_, rfl⟩
                    have hB8 : Below w8a.heap.size w8a w8 := by rw [← hw8]; exact (Below.refl _ _).drew
                    have h8 := h8a.below hB8
                    have hlb : lb < w8.heap.size := Nat.lt_of_lt_of_le hlb6 hB8.size
                    have hrel8 : w8.rangeAt lb loff u := by
                      have := range_below hre6 hB8 hlb6
                      rw [← hu.out]
                      simpa using this
                    have hX8 : w.heap.size < w8.heap.size := Nat.lt_of_lt_of_le hXW h8.b.size
                    have hRx8 : w8.rangeAt w.heap.size 0 u := range_below hR1 h8.b hXW
                    have kl : ∀ w', Below w8.heap.size w8 w' → w'.rangeAt lb loff u := fun w' hw' => range_below hrel8 hw' hlb
                    have kx : ∀ w', Below w8.heap.size w8 w' → w'.rangeAt w.heap.size 0 u := fun w' hw' => range_below hRx8 hw' hX8
                    refine hs_begin (S := (Below w8.heap.size w8)) 10 rfl (by kernel_rfl) ?_
                    rw [hw8]
                    clear hw8
                    have hS : (Below w8.heap.size w8) w8 := Below.refl _ _
                    refine hs_take (i := 0) (d := some 109) (v := ?_) rfl (by kernel_rfl) (by kernel_rfl) (by kernel_rfl) (by rfl) ?_ hS rfl ?_
                    rotate_left
                    · intro w' hw
                      go_simp
                      try with_reducible rfl
                    simp only [Act.put, List.setIfInBounds_toArray, List.set_cons_zero, List.set_cons_succ]
                    refine hs_take (i := 1) (d := some 110) (v := ?_) rfl (by kernel_rfl) (by kernel_rfl) (by kernel_rfl) (by rfl) ?_ hS rfl ?_
                    rotate_left
                    · intro w' hw
                      go_simp
                      try with_reducible rfl
                    simp only [Act.put, List.setIfInBounds_toArray, List.set_cons_zero, List.set_cons_succ]
                    refine hs_take (i := 2) (d := some 111) (v := .bool false) rfl (by kernel_rfl) (by kernel_rfl) (by kernel_rfl) (by rfl) (fun w' hw => by go_simp) hS rfl ?_
                    simp only [Act.put, List.setIfInBounds_toArray, List.set_cons_zero, List.set_cons_succ]
                    refine hs_take (i := 3) (d := some 112) (v := ?_) rfl (by kernel_rfl) (by kernel_rfl) (by kernel_rfl) (by rfl) ?_ hS rfl ?_
                    rotate_left
                    · intro w' hw
                      go_simp
                      try with_reducible rfl
                    simp only [Act.put, List.setIfInBounds_toArray, List.set_cons_zero, List.set_cons_succ]
                    refine hs_take (i := 4) (d := some 113) (v := ?_) rfl (by kernel_rfl) (by kernel_rfl) (by kernel_rfl) (by rfl) ?_ hS rfl ?_
                    rotate_left
                    · intro w' hw
                      go_simp
                      try with_reducible rfl
                    simp only [Act.put, List.setIfInBounds_toArray, List.set_cons_zero, List.set_cons_succ]
                    refine hs_take (i := 5) (d := some 114) (v := ?_) rfl (by kernel_rfl) (by kernel_rfl) (by kernel_rfl) (by rfl) ?_ hS rfl ?_
                    rotate_left
                    · intro w' hw
                      go_simp
                      try with_reducible rfl
                    simp only [Act.put, List.setIfInBounds_toArray, List.set_cons_zero, List.set_cons_succ]
                    refine hs_take (i := 6) (d := some 115) (v := .agg u.toArray) rfl (by kernel_rfl) (by kernel_rfl) (by kernel_rfl) (by rfl) (fun w' hw => exec_load rfl rfl (run_loadVar_mid (P := Tryd.prog) w' lb loff 35 u _ (kl w' hw) Tryd.underlying35 rfl hiu)) hS rfl ?_
                    simp only [Act.put, List.setIfInBounds_toArray, List.set_cons_zero, List.set_cons_succ]
                    refine hs_take (i := 7) (d := some 116) (v := .agg u.toArray) rfl (by kernel_rfl) (by kernel_rfl) (by kernel_rfl) (by rfl) (fun w' hw => exec_load rfl rfl (run_loadVar_mid (P := Tryd.prog) w' w.heap.size 0 35 u _ (kx w' hw) Tryd.underlying35 rfl hiu)) hS rfl ?_
                    simp only [Act.put, List.setIfInBounds_toArray, List.set_cons_zero, List.set_cons_succ]
                    refine hs_take (i := 8) (d := some 117) (v := .bool false) rfl (by kernel_rfl) (by kernel_rfl) (by kernel_rfl) (by rfl) (fun w' hw => by have hq := heq w'; go_simp) hS rfl ?_
                    simp only [Act.put, List.setIfInBounds_toArray, List.set_cons_zero, List.set_cons_succ]
                    refine hs_take (i := 9) (d := some 118) (v := .bool false) rfl (by kernel_rfl) (by kernel_rfl) (by kernel_rfl) (by rfl) (fun w' hw => by go_simp) hS rfl ?_
                    simp only [Act.put, List.setIfInBounds_toArray, List.set_cons_zero, List.set_cons_succ]
                    refine hs_done (by kernel_rfl) ?_
                    go_wp2_with fail
                    go_roundw
                    case rel => exact ⟨j + 1, Q3, ls2, by omega, by go_num, hq3, h8, HH, hLen2⟩
                    case measure => simp [intOf]; omega
                  · rw [decide_eq_false (show ¬ (r.c, r.n) ∈ flatP ls2 from hin)] at ch
                    clear hin hH5
                    go_wp2_with fail
                    refine ch.mono ?_
                    rintro e w6 ⟨rfl, hb6⟩
                    have h6 := h5.below hb6
                    have cL := lives_any w6 (hG1.below h6.b)
                    clear ch
                    go_wp2_with fail
                    refine cL.mono ?_
                    rintro e w9 ⟨rfl, hb9⟩
                    clear cL
                    go_wp2_with fail
                    go_ret
                    exact ⟨rfl, hB1.trans ((h6.b.trans (hb9.mono h6.b.size)).mono hB1.size)⟩
                · by_cases hk2 : A.kind = 2
                  · rw [hk2] at ca0
                    have cS := psweep_in h4 (cap := A.wc) hoW.w hoW.wo
                    have hLen2 : (ls.map (List.filter (leftR A.ws))).length = k := by rw [List.length_map]; exact hLen
                    have hH5 : Hid (pk r ∈ flatP (ls.map (List.filter (leftR A.ws))) → Heads (ls.map (List.filter (leftR A.ws))) i r) := hide (fun q => hH.out.filter h4.at_.nd _ q)
                    rw [hqQ.out] at cS
                    generalize ls.map (List.filter (leftR A.ws)) = ls2 at *
                    clear hH hLen
                    go_wp2_with fail
                    refine cS.mono ?_
                    rintro e w5 ⟨N, rfl, -, Q3, hp3, h5, -, -⟩
                    have hq3 : Hid (ptr Q3 = .pointer (some q)) := hide hp3
                    clear cS hp3 h4
                    have x0 : w5.cell? ⟨w.heap.size, 0, none⟩ = some (.int .i64 r.c) := cell_at d0 (h5.b.block _ hXW)
                    have x1 : w5.cell? ⟨w.heap.size, 1, none⟩ = some (.int .i64 r.n) := cell_at d1 (h5.b.block _ hXW)
                    have ch := phas_any Q3 16 ls2 r.c r.n ⟨hr.cl, hr.ch⟩ ⟨hr.nl, hr.nh⟩ w5 h5.at_
                    rw [hq3.out] at ch
                    by_cases hin : pk r ∈ flatP ls2
                    · rw [decide_eq_true (show (r.c, r.n) ∈ flatP ls2 from hin)] at ch
                      have hH6 := hH5.out hin
                      have HP := hide hH6.pick
                      have HH := hide hH6
                      clear hin hH5 hH6
                      go_wp2_with fail
                      refine ch.mono ?_
                      rintro e w6 ⟨rfl, hb6⟩
                      have h6 := h5.below hb6
                      clear ch x0 x1
                      obtain ⟨w7, hw7⟩ : ∃ w7, w6.alloc (.cells #[.int .i64 (i : Int)] 3) = w7 := ⟨_, rfl⟩
                      have hb7 : Below w6.heap.size w6 w7 := by rw [← hw7]; exact (Below.refl _ _).alloc (Nat.le_refl _) _
                      have hi7 : IntsAt w7 (some ⟨w6.heap.size, 0, none⟩) [(i : Int)] := by
                        rw [← hw7]
                        exact .inr ⟨_, _, rfl, by simp, by simpa [intsV] using range_new w6 #[.int .i64 (i : Int)] 3⟩
                      have h7 := h6.below hb7
                      have cP := pick_any Q3 16 ls2 (some ⟨w6.heap.size, 0, none⟩) 1 [(i : Int)] 1 none 0 0 [] w7 h7.at_ hi7 (by simp) (pairsOf_nil w7)
                      rw [hq3.out, HP.out] at cP
                      go_wp2_with fail
                      refine cP.mono ?_
                      rintro e w8a ⟨v, rfl, hv8, hb8a⟩
                      have h8a := h7.below hb8a
                      obtain ⟨la, lcap, rfl, -, -, hRA, -⟩ := own_reqs0 hv8 (fun x hx => by rw [List.mem_singleton.1 hx]; exact hr) (by unfold maxLen; simp)
                      obtain ⟨lb, loff, rfl, hlb6, hre6⟩ := hRA.elem 0 (by simp)
                      clear cP hv8 hRA HP hi7
                      go_upto_region 25 with fail
                      obtain ⟨w8, hw8⟩ : ∃ w8, w8a.drew = w8 := ⟨_, rfl⟩
                      have hB8 : Below w8a.heap.size w8a w8 := by rw [← hw8]; exact (Below.refl _ _).drew
                      have h8 := h8a.below hB8
                      have hlb : lb < w8.heap.size := Nat.lt_of_lt_of_le hlb6 hB8.size
                      have hrel8 : w8.rangeAt lb loff u := by
                        have := range_below hre6 hB8 hlb6
                        rw [← hu.out]
                        simpa using this
                      have hX8 : w.heap.size < w8.heap.size := Nat.lt_of_lt_of_le hXW h8.b.size
                      have hRx8 : w8.rangeAt w.heap.size 0 u := range_below hR1 h8.b hXW
                      have kl : ∀ w', Below w8.heap.size w8 w' → w'.rangeAt lb loff u := fun w' hw' => range_below hrel8 hw' hlb
                      have kx : ∀ w', Below w8.heap.size w8 w' → w'.rangeAt w.heap.size 0 u := fun w' hw' => range_below hRx8 hw' hX8
                      refine hs_begin (S := (Below w8.heap.size w8)) 10 rfl (by kernel_rfl) ?_
                      rw [hw8]
                      clear hw8
                      have hS : (Below w8.heap.size w8) w8 := Below.refl _ _
                      refine hs_take (i := 0) (d := some 109) (v := ?_) rfl (by kernel_rfl) (by kernel_rfl) (by kernel_rfl) (by rfl) ?_ hS rfl ?_
                      rotate_left
                      · intro w' hw
                        go_simp
                        try with_reducible rfl
                      simp only [Act.put, List.setIfInBounds_toArray, List.set_cons_zero, List.set_cons_succ]
                      refine hs_take (i := 1) (d := some 110) (v := ?_) rfl (by kernel_rfl) (by kernel_rfl) (by kernel_rfl) (by rfl) ?_ hS rfl ?_
                      rotate_left
                      · intro w' hw
                        go_simp
                        try with_reducible rfl
                      simp only [Act.put, List.setIfInBounds_toArray, List.set_cons_zero, List.set_cons_succ]
                      refine hs_take (i := 2) (d := some 111) (v := .bool false) rfl (by kernel_rfl) (by kernel_rfl) (by kernel_rfl) (by rfl) (fun w' hw => by go_simp) hS rfl ?_
                      simp only [Act.put, List.setIfInBounds_toArray, List.set_cons_zero, List.set_cons_succ]
                      refine hs_take (i := 3) (d := some 112) (v := ?_) rfl (by kernel_rfl) (by kernel_rfl) (by kernel_rfl) (by rfl) ?_ hS rfl ?_
                      rotate_left
                      · intro w' hw
                        go_simp
                        try with_reducible rfl
                      simp only [Act.put, List.setIfInBounds_toArray, List.set_cons_zero, List.set_cons_succ]
                      refine hs_take (i := 4) (d := some 113) (v := ?_) rfl (by kernel_rfl) (by kernel_rfl) (by kernel_rfl) (by rfl) ?_ hS rfl ?_
                      rotate_left
                      · intro w' hw
                        go_simp
                        try with_reducible rfl
                      simp only [Act.put, List.setIfInBounds_toArray, List.set_cons_zero, List.set_cons_succ]
                      refine hs_take (i := 5) (d := some 114) (v := ?_) rfl (by kernel_rfl) (by kernel_rfl) (by kernel_rfl) (by rfl) ?_ hS rfl ?_
                      rotate_left
                      · intro w' hw
                        go_simp
                        try with_reducible rfl
                      simp only [Act.put, List.setIfInBounds_toArray, List.set_cons_zero, List.set_cons_succ]
                      refine hs_take (i := 6) (d := some 115) (v := .agg u.toArray) rfl (by kernel_rfl) (by kernel_rfl) (by kernel_rfl) (by rfl) (fun w' hw => exec_load rfl rfl (run_loadVar_mid (P := Tryd.prog) w' lb loff 35 u _ (kl w' hw) Tryd.underlying35 rfl hiu)) hS rfl ?_
                      simp only [Act.put, List.setIfInBounds_toArray, List.set_cons_zero, List.set_cons_succ]
                      refine hs_take (i := 7) (d := some 116) (v := .agg u.toArray) rfl (by kernel_rfl) (by kernel_rfl) (by kernel_rfl) (by rfl) (fun w' hw => exec_load rfl rfl (run_loadVar_mid (P := Tryd.prog) w' w.heap.size 0 35 u _ (kx w' hw) Tryd.underlying35 rfl hiu)) hS rfl ?_
                      simp only [Act.put, List.setIfInBounds_toArray, List.set_cons_zero, List.set_cons_succ]
                      refine hs_take (i := 8) (d := some 117) (v := .bool false) rfl (by kernel_rfl) (by kernel_rfl) (by kernel_rfl) (by rfl) (fun w' hw => by have hq := heq w'; go_simp) hS rfl ?_
                      simp only [Act.put, List.setIfInBounds_toArray, List.set_cons_zero, List.set_cons_succ]
                      refine hs_take (i := 9) (d := some 118) (v := .bool false) rfl (by kernel_rfl) (by kernel_rfl) (by kernel_rfl) (by rfl) (fun w' hw => by go_simp) hS rfl ?_
                      simp only [Act.put, List.setIfInBounds_toArray, List.set_cons_zero, List.set_cons_succ]
                      refine hs_done (by kernel_rfl) ?_
                      go_wp2_with fail
                      go_roundw
                      case rel => exact ⟨j + 1, Q3, ls2, by omega, by go_num, hq3, h8, HH, hLen2⟩
                      case measure => simp [intOf]; omega
                    · rw [decide_eq_false (show ¬ (r.c, r.n) ∈ flatP ls2 from hin)] at ch
                      clear hin hH5
                      go_wp2_with fail
                      refine ch.mono ?_
                      rintro e w6 ⟨rfl, hb6⟩
                      have h6 := h5.below hb6
                      have cL := lives_any w6 (hG1.below h6.b)
                      clear ch
                      go_wp2_with fail
                      refine cL.mono ?_
                      rintro e w9 ⟨rfl, hb9⟩
                      clear cL
                      go_wp2_with fail
                      go_ret
                      exact ⟨rfl, hB1.trans ((h6.b.trans (hb9.mono h6.b.size)).mono hB1.size)⟩
                  · have b0 : (A.kind == 0) = false := by simpa using hk0
                    have b2 : (A.kind == 2) = false := by simpa using hk2
                    obtain ⟨w5, hw5⟩ : ∃ w5, w5 = w3 := ⟨_, rfl⟩
                    have h5 : PoolIn W1 w5 Q2 16 ls := by rw [hw5]; exact h4
                    obtain ⟨Q3, hQ3⟩ : ∃ Q3, Q3 = Q2 := ⟨_, rfl⟩
                    obtain ⟨ls2, hls2⟩ : ∃ ls2, ls2 = ls := ⟨_, rfl⟩
                    rw [← hQ3, ← hls2] at h5
                    have hq3 : Hid (ptr Q3 = .pointer (some q)) := by rw [hQ3]; exact hqQ
                    have hLen2 : ls2.length = k := by rw [hls2]; exact hLen
                    have hH5 : Hid (pk r ∈ flatP ls2 → Heads ls2 i r) := hide (fun _ => by rw [hls2]; exact hH.out)
                    clear hQ3 hls2 hqQ hLen hH h4
                    subst hw5
                    have x0 : w5.cell? ⟨w.heap.size, 0, none⟩ = some (.int .i64 r.c) := cell_at d0 (h5.b.block _ hXW)
                    have x1 : w5.cell? ⟨w.heap.size, 1, none⟩ = some (.int .i64 r.n) := cell_at d1 (h5.b.block _ hXW)
                    have ch := phas_any Q3 16 ls2 r.c r.n ⟨hr.cl, hr.ch⟩ ⟨hr.nl, hr.nh⟩ w5 h5.at_
                    rw [hq3.out] at ch
                    by_cases hin : pk r ∈ flatP ls2
                    · rw [decide_eq_true (show (r.c, r.n) ∈ flatP ls2 from hin)] at ch
                      have hH6 := hH5.out hin
                      have HP := hide hH6.pick
                      have HH := hide hH6
                      clear hin hH5 hH6
                      go_wp2_with fail
                      refine ch.mono ?_
                      rintro e w6 ⟨rfl, hb6⟩
                      have h6 := h5.below hb6
                      clear ch x0 x1
                      obtain ⟨w7, hw7⟩ : ∃ w7, w6.alloc (.cells #[.int .i64 (i : Int)] 3) = w7 := ⟨_, rfl⟩
                      have hb7 : Below w6.heap.size w6 w7 := by rw [← hw7]; exact (Below.refl _ _).alloc (Nat.le_refl _) _
                      have hi7 : IntsAt w7 (some ⟨w6.heap.size, 0, none⟩) [(i : Int)] := by
                        rw [← hw7]
                        exact .inr ⟨_, _, rfl, by simp, by simpa [intsV] using range_new w6 #[.int .i64 (i : Int)] 3⟩
                      have h7 := h6.below hb7
                      have cP := pick_any Q3 16 ls2 (some ⟨w6.heap.size, 0, none⟩) 1 [(i : Int)] 1 none 0 0 [] w7 h7.at_ hi7 (by simp) (pairsOf_nil w7)
                      rw [hq3.out, HP.out] at cP
                      go_wp2_with fail
                      refine cP.mono ?_
                      rintro e w8a ⟨v, rfl, hv8, hb8a⟩
                      have h8a := h7.below hb8a
                      obtain ⟨la, lcap, rfl, -, -, hRA, -⟩ := own_reqs0 hv8 (fun x hx => by rw [List.mem_singleton.1 hx]; exact hr) (by unfold maxLen; simp)
                      obtain ⟨lb, loff, rfl, hlb6, hre6⟩ := hRA.elem 0 (by simp)
                      clear cP hv8 hRA HP hi7
                      go_upto_region 25 with fail
                      obtain ⟨w8, hw8⟩ : ∃ w8, w8a.drew = w8 := ⟨_, rfl⟩
                      have hB8 : Below w8a.heap.size w8a w8 := by rw [← hw8]; exact (Below.refl _ _).drew
                      have h8 := h8a.below hB8
                      have hlb : lb < w8.heap.size := Nat.lt_of_lt_of_le hlb6 hB8.size
                      have hrel8 : w8.rangeAt lb loff u := by
                        have := range_below hre6 hB8 hlb6
                        rw [← hu.out]
                        simpa using this
                      have hX8 : w.heap.size < w8.heap.size := Nat.lt_of_lt_of_le hXW h8.b.size
                      have hRx8 : w8.rangeAt w.heap.size 0 u := range_below hR1 h8.b hXW
                      have kl : ∀ w', Below w8.heap.size w8 w' → w'.rangeAt lb loff u := fun w' hw' => range_below hrel8 hw' hlb
                      have kx : ∀ w', Below w8.heap.size w8 w' → w'.rangeAt w.heap.size 0 u := fun w' hw' => range_below hRx8 hw' hX8
                      refine hs_begin (S := (Below w8.heap.size w8)) 10 rfl (by kernel_rfl) ?_
                      rw [hw8]
                      clear hw8
                      have hS : (Below w8.heap.size w8) w8 := Below.refl _ _
                      refine hs_take (i := 0) (d := some 109) (v := ?_) rfl (by kernel_rfl) (by kernel_rfl) (by kernel_rfl) (by rfl) ?_ hS rfl ?_
                      rotate_left
                      · intro w' hw
                        go_simp
                        try with_reducible rfl
                      simp only [Act.put, List.setIfInBounds_toArray, List.set_cons_zero, List.set_cons_succ]
                      refine hs_take (i := 1) (d := some 110) (v := ?_) rfl (by kernel_rfl) (by kernel_rfl) (by kernel_rfl) (by rfl) ?_ hS rfl ?_
                      rotate_left
                      · intro w' hw
                        go_simp
                        try with_reducible rfl
                      simp only [Act.put, List.setIfInBounds_toArray, List.set_cons_zero, List.set_cons_succ]
                      refine hs_take (i := 2) (d := some 111) (v := .bool false) rfl (by kernel_rfl) (by kernel_rfl) (by kernel_rfl) (by rfl) (fun w' hw => by go_simp) hS rfl ?_
                      simp only [Act.put, List.setIfInBounds_toArray, List.set_cons_zero, List.set_cons_succ]
                      refine hs_take (i := 3) (d := some 112) (v := ?_) rfl (by kernel_rfl) (by kernel_rfl) (by kernel_rfl) (by rfl) ?_ hS rfl ?_
                      rotate_left
                      · intro w' hw
                        go_simp
                        try with_reducible rfl
                      simp only [Act.put, List.setIfInBounds_toArray, List.set_cons_zero, List.set_cons_succ]
                      refine hs_take (i := 4) (d := some 113) (v := ?_) rfl (by kernel_rfl) (by kernel_rfl) (by kernel_rfl) (by rfl) ?_ hS rfl ?_
                      rotate_left
                      · intro w' hw
                        go_simp
                        try with_reducible rfl
                      simp only [Act.put, List.setIfInBounds_toArray, List.set_cons_zero, List.set_cons_succ]
                      refine hs_take (i := 5) (d := some 114) (v := ?_) rfl (by kernel_rfl) (by kernel_rfl) (by kernel_rfl) (by rfl) ?_ hS rfl ?_
                      rotate_left
                      · intro w' hw
                        go_simp
                        try with_reducible rfl
                      simp only [Act.put, List.setIfInBounds_toArray, List.set_cons_zero, List.set_cons_succ]
                      refine hs_take (i := 6) (d := some 115) (v := .agg u.toArray) rfl (by kernel_rfl) (by kernel_rfl) (by kernel_rfl) (by rfl) (fun w' hw => exec_load rfl rfl (run_loadVar_mid (P := Tryd.prog) w' lb loff 35 u _ (kl w' hw) Tryd.underlying35 rfl hiu)) hS rfl ?_
                      simp only [Act.put, List.setIfInBounds_toArray, List.set_cons_zero, List.set_cons_succ]
                      refine hs_take (i := 7) (d := some 116) (v := .agg u.toArray) rfl (by kernel_rfl) (by kernel_rfl) (by kernel_rfl) (by rfl) (fun w' hw => exec_load rfl rfl (run_loadVar_mid (P := Tryd.prog) w' w.heap.size 0 35 u _ (kx w' hw) Tryd.underlying35 rfl hiu)) hS rfl ?_
                      simp only [Act.put, List.setIfInBounds_toArray, List.set_cons_zero, List.set_cons_succ]
                      refine hs_take (i := 8) (d := some 117) (v := .bool false) rfl (by kernel_rfl) (by kernel_rfl) (by kernel_rfl) (by rfl) (fun w' hw => by have hq := heq w'; go_simp) hS rfl ?_
                      simp only [Act.put, List.setIfInBounds_toArray, List.set_cons_zero, List.set_cons_succ]
                      refine hs_take (i := 9) (d := some 118) (v := .bool false) rfl (by kernel_rfl) (by kernel_rfl) (by kernel_rfl) (by rfl) (fun w' hw => by go_simp) hS rfl ?_
                      simp only [Act.put, List.setIfInBounds_toArray, List.set_cons_zero, List.set_cons_succ]
                      refine hs_done (by kernel_rfl) ?_
                      go_wp2_with fail
                      go_roundw
                      case rel => exact ⟨j + 1, Q3, ls2, by omega, by go_num, hq3, h8, HH, hLen2⟩
                      case measure => simp [intOf]; omega
                    · rw [decide_eq_false (show ¬ (r.c, r.n) ∈ flatP ls2 from hin)] at ch
                      clear hin hH5
                      go_wp2_with fail
                      refine ch.mono ?_
                      rintro e w6 ⟨rfl, hb6⟩
                      have h6 := h5.below hb6
                      have cL := lives_any w6 (hG1.below h6.b)
                      clear ch
                      go_wp2_with fail
                      refine cL.mono ?_
                      rintro e w9 ⟨rfl, hb9⟩
                      clear cL
                      go_wp2_with fail
                      go_ret
                      exact ⟨rfl, hB1.trans ((h6.b.trans (hb9.mono h6.b.size)).mono hB1.size)⟩
              · have j1 : ¬ (j : Int) < (As.length : Int) := by omega
                have hi0 : (0 : Int) ≤ (i : Int) := by omega
                have cL := lives_any wr (hG1.below h3.b)
                go_wp2_with fail
                refine cL.mono ?_
                rintro e w9 ⟨rfl, hb9⟩
                clear cL
                go_wp2_with fail
                go_ret
                exact ⟨rfl, hB1.trans ((h3.b.trans (hb9.mono h3.b.size)).mono hB1.size)⟩
end Go.Proofs.YtbfcbjjhdadicaaDoor
