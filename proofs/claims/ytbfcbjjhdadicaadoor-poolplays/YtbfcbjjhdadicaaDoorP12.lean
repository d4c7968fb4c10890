/- pool.keep -/
import Derived.Test.YtbfcbjjhdadicaaDoorP12h
namespace Go.Proofs.YtbfcbjjhdadicaaDoor
open Go.RowKit
open Sha Tal
section
variable {P : Program} {ops : Array Oper} {Q : Exit → Act → World → Prop}
/-- as hs_run, the world told by an existence -/
theorem hs_runE {i : Nat} {S : World → Prop} {oi : Oper} {d : Option Nat} {v : Value} {R G : World → Prop} {fuel : Nat} {listed : Array Bool} {a : Act} {w : World} (hi : ops[i]? = some oi)
    (hr : Region.ready .any ops listed = [i]) (hw : Region.wanted oi (yielded ops a.tmps) = true) (hdst : oi.dst = d) (hy : ∃ w', (execOp a.eval oi).run P w = .ok (.value v) w' ∧ R w' ∧ G w')
    (h : ∀ w', R w' → G w' → S w' ∧ HeldS P ops Q S fuel (listed.setIfInBounds i true) (a.put d v) w') : HeldS P ops Q S (fuel + 1) listed a w := by
  obtain ⟨w', h1, h2, h3⟩ := hy
  obtain ⟨h4, h5⟩ := h w' h2 h3
  exact hs_run hi hr hw h1 hdst h4 h5
end
set_option maxRecDepth 100000 in
set_option maxHeartbeats 4000000 in
theorem keep_any (P : Pl) (room : Nat) (ls : List (List Rq)) (g : Nat) (eg : ∀ args w, (callFunc g args).run Tryd.prog w = .ok (.enter g args) w) (caps : Array Value) (p : Rq → Bool) (w : World) (h : PoolAt w P room ls)
    (hp : ∀ (r : Rq) (W : World), r.ok → 0 ≤ r.c → 0 ≤ r.n → Off P.own w W → Calls Tryd.prog g (#[.agg r.cells.toArray] ++ caps) W fun e W' => e = .returned (.bool (p r)) ∧ Below W.heap.size W W') :
    Calls Tryd.prog 38 #[ptr P, .func (.func g) #[] caps] w fun e w' => ∃ N : Nat, e = .returned (.int .i64 (N : Int)) ∧ N + (flatP (ls.map (List.filter p))).length = (flatP ls).length ∧ ∃ Q : Pl, Q.p = P.p ∧ PoolAt w' Q room (ls.map (List.filter p)) ∧ Off P.own w w' ∧ ∀ b, Q.own b → P.own b ∨ w.heap.size ≤ b := by
  have h1 := h.R.c1
  have hkl := h.R.le
  unfold ptr
  go_enter Tryd.func38, Tryd.ntmps38
  go_wp2_with fail
  go_loopw [5, 16] (fun gv iv wr => ∃ (b N : Nat) (vs : List Value), b ≤ ls.length ∧ iv = .int .i64 (b : Int) ∧ gv = .int .i64 (N : Int) ∧ N + (flatP (midL ls p b)).length = (flatP ls).length ∧ PoolAt wr ⟨P.p, P.o, P.m, vs⟩ room (midL ls p b) ∧ Off P.own w wr ∧ (∀ x, (Pl.mk P.p P.o P.m vs).own x → P.own x ∨ w.heap.size ≤ x)) (fun _ iv _ => ls.length - (intOf iv).toNat)
  case atStart => exact ⟨0, 0, P.vs, by omega, rfl, rfl, by rw [mid_zero]; omega, by rw [mid_zero]; exact h, Off.refl _ _, fun x hx => .inl hx⟩
  case round =>
    clear h1
    obtain ⟨b, N, vs, hb, rfl, rfl, hN, hPA, hoff, hown⟩ := hrel
    by_cases hlt : b < ls.length
    · have hltI : (b : Int) < (ls.length : Int) := by omega
      obtain ⟨l, hl⟩ : ∃ l, ls[b]? = some l := ⟨ls[b], List.getElem?_eq_getElem hlt⟩
      have hml := mid_get (p := p) hl
      have hmid := mid_len ls p b
      obtain ⟨v, hv⟩ : ∃ v, vs[b]? = some v := ⟨vs[b]'(by have := hPA.R.vl; simp only at this; omega), List.getElem?_eq_getElem _⟩
      have hrk := h.R.rok l (List.mem_of_getElem? hl)
      have hbk := h.R.bk b l hl
      have hlf : l.length ≤ 16 := Nat.le_trans (h.R.few l (List.mem_of_getElem? hl)) h.R.room
      have hroom := h.R.few l (List.mem_of_getElem? hl)
      obtain ⟨la, lcap, rfl, hlc, hlm, hRA, -⟩ := own_reqs0 (hPA.R.rows b v l hv hml) hrk (by unfold maxLen; omega)
      have qo : wr.cell? ⟨P.o, b, none⟩ = some (.slice la l.length lcap) := by
        have := hPA.R.oc b _ hv
        rwa [Nat.zero_add] at this
      have hflen := hPA.small
      obtain ⟨w2, hw2⟩ : ∃ w2, w2 = wr := ⟨_, rfl⟩
      subst hw2
      go_wp2_with fail
      go_loopw [5, 8, 23] (fun gv rv iv wq => ∃ (j M : Nat) (rest : List Rq), j ≤ l.length ∧ iv = .int .i64 (j : Int) ∧ gv = .int .i64 (M : Int) ∧ Hid (rest = (l.take j).filter p) ∧ M + (flatP ((midL ls p b).set b (rest ++ l.drop j))).length = (flatP ls).length ∧ wq.ownsRow w2.heap.size 35 19 rv rest.length (flatR rest) ∧ PairsAt wq P.m (flatP ((midL ls p b).set b (rest ++ l.drop j))) ∧ (flatP ((midL ls p b).set b (rest ++ l.drop j))).Nodup ∧ Off (fun x => x = P.m) w2 wq) (fun _ _ iv _ => l.length - (intOf iv).toNat)
      case atStart =>
        refine ⟨0, N, [], by omega, rfl, rfl, hide (by simp), ?_, World.ownsRow_nil _ _ _ _, ?_, ?_, Off.refl _ _⟩
        · rw [List.drop_zero, List.nil_append, mid_same hl]; exact hN
        · rw [List.drop_zero, List.nil_append, mid_same hl]; exact hPA.prs
        · rw [List.drop_zero, List.nil_append, mid_same hl]; exact hPA.nd
      case round =>
        clear qo hN
        obtain ⟨j, M, rest, hj, rfl, rfl, HR, hM, hrow, hPr, hnd, hof⟩ := hrel
        have hvm : Value.slice la l.length lcap ∈ vs := List.mem_of_getElem? hv
        have hm2 : P.m < w2.heap.size := hPA.R.ml
        have hwr : w2.heap.size ≤ wr.heap.size := hof.size
        have hPm : P.own P.m := .inr (.inr (.inl rfl))
        have hoffr : Off P.own w wr := hoff.trans hof (fun x _ hx => by rw [hx]; exact hPm)
        by_cases hlt2 : j < l.length
        · have hltI2 : (j : Int) < (l.length : Int) := by omega
          obtain ⟨rb, roff, rfl, hrb, hre2⟩ := hRA.elem j hlt2
          have hrm : rb ≠ P.m := (hPA.R.vp _ hvm rb rfl).2.2
          have hre := range_at hre2 (hof.2 rb hrb hrm)
          have HTK := hide (List.take_succ_eq_append_getElem hlt2)
          have HDR := hide (List.drop_eq_getElem_cons hlt2)
          have hok : l[j].ok := hrk _ (List.getElem_mem hlt2)
          have hnn := hbk _ (List.getElem_mem hlt2)
          clear hre2
          generalize l[j] = r at *
          have cpp := fun W => hp r W hok hnn.2.1 hnn.2.2
          have hI : I64 r.c ∧ I64 r.n := ⟨⟨hok.cl, hok.ch⟩, ⟨hok.nl, hok.nh⟩⟩
          have hiq := hok.isz
          have hiA := hok.iszA
          have hN := hok.blank wr
          have h1c := all_oneCell_toArray r.one
          have hul := hok.length
          have hu1 := r.one
          have cpo := pairOf_any r
          have F := fresh_store wr #[.int .i64 0, .int .i64 0, .string ⟨#[]⟩, .int .u8 0, .int .u8 0, .int .u8 0, .int .u8 0, .int .u8 0, .int .u8 0, .int .u8 0, .int .u8 0, .int .u8 0, .int .u8 0, .int .u8 0, .int .u8 0, .int .u8 0, .int .u8 0, .int .u8 0, .int .u8 0] 35 r.cells (by rw [hok.length]; rfl)
          obtain ⟨u, hu⟩ : ∃ u, Hid (r.cells = u) := ⟨_, hide rfl⟩
          rw [hu.out] at hre hiq hiA hN h1c F hul hu1
          simp only [hu.out] at cpo
          simp only [hu.out] at cpp
          obtain ⟨va2, vcap2, rfl⟩ := owns_slice hrow
          go_upto_region 8 with fail
          try simp only [Act.put]
          refine wp_region_list ?_
          refine wpList_step fun K hK => ?_
          go_simp
          refine hK _ _ ?_
          clear hK K
          refine wpList_load_mid rfl 35 _ rfl _ _ rfl u _ hre Tryd.underlying35 rfl hiq ?_
          go_upto_region 9 with (refine wpList_store_mid (op := ⟨none, .store 35 (.tmp 10) (.tmp 26), _, _, _, none⟩) rfl 35 _ _ rfl _ _ u.toArray rfl rfl hN hiA h1c ?_)
          go_name_world w3 hw3
          rw [show (wr.alloc (.cells #[.int .i64 0, .int .i64 0, .string ⟨#[]⟩, .int .u8 0, .int .u8 0, .int .u8 0, .int .u8 0, .int .u8 0, .int .u8 0, .int .u8 0, .int .u8 0, .int .u8 0, .int .u8 0, .int .u8 0, .int .u8 0, .int .u8 0, .int .u8 0, .int .u8 0, .int .u8 0] 35)).setCells wr.heap.size 0 u = w3 from hw3] at F
          clear hw3 hN
          obtain ⟨hR3, hF3, hz3, -⟩ := F
          have hrow3 := ownsB hrow hF3
          have hof3 : Off (fun x => x = P.m) w2 w3 := hof.below_r hF3
          have hoff3 : Off P.own w w3 := hoffr.below_r hF3
          have hPr3 := hPr.below hF3
          have cpp := cpp w3 hoff3
          clear hrow hre hPr hoffr
          go_upto_region 9 with fail
          refine wp_region_list ?_
          refine wpList_step fun K hK => ?_
          go_simp
          refine hK _ _ ?_
          clear hK K
          refine wpList_load_mid rfl 35 _ rfl _ _ rfl u _ hR3 Tryd.underlying35 rfl hiq ?_
          go_wp2_with fail
          refine cpp.mono ?_
          rintro e w4 ⟨rfl, hb4⟩
          have hrow4 := ownsB hrow3 hb4
          have hof4 : Off (fun x => x = P.m) w2 w4 := hof3.below_r hb4
          have hPr4 := hPr3.below hb4
          have hX4 : wr.heap.size < w4.heap.size := by have := hb4.size; omega
          have hR4 := range_below hR3 hb4 (by omega)
          have hs24 : w2.heap.size ≤ w4.heap.size := hof4.size
          clear cpp hrow3 hof3 hPr3 hoff3 hof
          cases hpr : p r
          · have HR2 : Hid (rest = (l.take (j + 1)).filter p) := hide (by rw [HTK.out, List.filter_append, ← HR.out]; simp [hpr])
            rw [HDR.out] at hPr4 hnd hM
            have hib : b < (midL ls p b).length := by rw [hmid]; exact hlt
            have hperm := flat_out hib rest (l.drop (j + 1)) r
            have hPr5 : PairsAt w4 P.m ((r.c, r.n) :: flatP ((midL ls p b).set b (rest ++ l.drop (j + 1)))) := hPr4.perm hperm
            have hnd5 := List.nodup_cons.1 (hperm.nodup_iff.1 hnd)
            have hnd2 : (r.c, r.n) ∉ flatP ((midL ls p b).set b (rest ++ l.drop (j + 1))) := hnd5.1
            have hnd3 := hnd5.2
            have hM2 : (M + 1) + (flatP ((midL ls p b).set b (rest ++ l.drop (j + 1)))).length = (flatP ls).length := by
              have := hperm.length_eq
              rw [List.length_cons] at this
              omega
            have hMs : M + 1 ≤ 100000 := by have := h.small; omega
            clear hPr4 hnd hnd5 hM hperm HR HTK HDR
            obtain ⟨S2, hS2⟩ : ∃ S2, Hid (flatP ((midL ls p b).set b (rest ++ l.drop (j + 1))) = S2) := ⟨_, hide rfl⟩
            rw [hS2.out] at hPr5 hnd2 hnd3 hM2
            go_upto_region 11 with fail
            obtain ⟨w8, hw8⟩ : ∃ w8, w4.drew = w8 := ⟨_, rfl⟩
            have hB8 : Below w4.heap.size w4 w8 := by rw [← hw8]; exact (Below.refl _ _).drew
            have hof8 : Off (fun x => x = P.m) w2 w8 := hof4.below_r hB8
            have hP8 := hPr5.below hB8
            have hR8 := range_below hR4 hB8 hX4
            have hX8 : wr.heap.size < w8.heap.size := Nat.lt_of_lt_of_le hX4 hB8.size
            have hrow8 := ownsB hrow4 hB8
            have hc2 : w8.cell? ⟨P.p, 2, none⟩ = some (.map (some P.m)) := cell_at hPA.R.c2 (hof8.2 P.p (hPA.R.own_lt (.inl rfl)) h.R.pm)
            have hp8 : P.p < w8.heap.size := Nat.lt_of_lt_of_le (hPA.R.own_lt (.inl rfl)) hof8.size
            have k2 : ∀ w', Off (fun x => x = P.m) w8 w' → w'.cell? ⟨P.p, 2, none⟩ = some (.map (some P.m)) := fun w' hw' => cell_at hc2 (hw'.2 P.p hp8 h.R.pm)
            have hxm : wr.heap.size ≠ P.m := by omega
            have kx : ∀ w', Off (fun x => x = P.m) w8 w' → w'.rangeAt wr.heap.size 0 u := fun w' hw' => range_at hR8 (hw'.2 _ hX8 hxm)
            clear hrow4 hPr5 hR4 hof4
            refine hs_begin (S := (Off (fun x => x = P.m) w8)) 7 rfl (by kernel_rfl) ?_
            rw [hw8]
            clear hw8
            have hS : (Off (fun x => x = P.m) w8) w8 := Off.refl _ _
            refine hs_take (i := 0) (d := some 34) (v := ?_) rfl (by kernel_rfl) (by kernel_rfl) (by kernel_rfl) (by rfl) ?_ hS rfl ?_
            rotate_left
            · intro w' hw
              go_simp
              try with_reducible rfl
            simp only [Act.put, List.setIfInBounds_toArray, List.set_cons_zero, List.set_cons_succ]
            refine hs_take (i := 1) (d := some 35) (v := ?_) rfl (by kernel_rfl) (by kernel_rfl) (by kernel_rfl) (by rfl) ?_ hS rfl ?_
            rotate_left
            · intro w' hw
              go_simp
              try with_reducible rfl
            simp only [Act.put, List.setIfInBounds_toArray, List.set_cons_zero, List.set_cons_succ]
            refine hs_take (i := 2) (d := some 36) (v := ?_) rfl (by kernel_rfl) (by kernel_rfl) (by kernel_rfl) (by rfl) ?_ hS rfl ?_
            rotate_left
            · intro w' hw
              go_simp
              try with_reducible rfl
            simp only [Act.put, List.setIfInBounds_toArray, List.set_cons_zero, List.set_cons_succ]
            refine hs_take (i := 3) (d := some 37) (v := ?_) rfl (by kernel_rfl) (by kernel_rfl) (by kernel_rfl) (by rfl) ?_ hS rfl ?_
            rotate_left
            · intro w' hw
              have hc := k2 w' hw
              go_simp
              try with_reducible rfl
            simp only [Act.put, List.setIfInBounds_toArray, List.set_cons_zero, List.set_cons_succ]
            refine hs_take (i := 4) (d := some 38) (v := .agg u.toArray) rfl (by kernel_rfl) (by kernel_rfl) (by kernel_rfl) (by rfl) (fun w' hw => exec_load rfl rfl (run_loadVar_mid (P := Tryd.prog) w' wr.heap.size 0 35 u _ (kx w' hw) Tryd.underlying35 rfl hiq)) hS rfl ?_
            simp only [Act.put, List.setIfInBounds_toArray, List.set_cons_zero, List.set_cons_succ]
            refine hs_call (i := 5) (d := some 39) rfl (by kernel_rfl) (by rfl) (by go_simp; first | done | exact ⟨rfl, rfl⟩ | with_reducible rfl) rfl ?_
            refine (cpo w8).mono ?_
            rintro e' wA ⟨rfl, hbA⟩
            have hS : (Off (fun x => x = P.m) w8) wA := Off.of_below hbA
            refine ⟨_, rfl, hS, ?_⟩
            simp only [Act.put, List.setIfInBounds_toArray, List.set_cons_zero, List.set_cons_succ]
            refine hs_runE (i := 6) (d := none) rfl (by kernel_rfl) (by rfl) rfl (exec_delete rfl rfl rfl hI.1 hI.2 (hP8.below hbA) hnd2) ?_
            intro wD hPD hgD
            have hS : (Off (fun x => x = P.m) w8) wD := (Off.of_below hbA).trans (Off.of_grown hgD (fun k hk => (Option.some.inj hk).symm)) (fun _ _ q => q)
            refine ⟨hS, ?_⟩
            simp only [Act.put]
            refine hs_done (by kernel_rfl) ?_
            go_wp2_with fail
            go_roundw
            case rel =>
              refine ⟨j + 1, M + 1, rest, by omega, by go_num, by go_num, HR2, by rw [hS2.out]; exact hM2, ?_, by rw [hS2.out]; exact hPD, by rw [hS2.out]; exact hnd3, hof8.trans hS (fun _ _ q => q)⟩
              exact owns_at hrow8 (fun x hx => hS.2 x (owns_lt hrow8 hx) (fun e => by have := owns_base hrow8 x hx; omega))
            case measure => simp [intOf]; omega
          · have HR2 : Hid (rest ++ [r] = (l.take (j + 1)).filter p) := hide (by rw [HTK.out, List.filter_append, ← HR.out]; simp [hpr])
            have e1 : rest ++ l.drop j = (rest ++ [r]) ++ l.drop (j + 1) := by rw [HDR.out]; simp
            rw [e1] at hPr4 hnd hM
            have hrl : rest.length ≤ 16 := by rw [HR.out]; exact Nat.le_trans (List.length_filter_le _ _) (by rw [List.length_take]; omega)
            clear HR HTK HDR e1
            obtain ⟨v', wA, hrun, hoA, hgr, hap⟩ := append_reqB hs24 hrow4 hul hu1 (by omega) 43
            have hgo : Off (fun x => w2.heap.size ≤ x) w4 wA := Off.of_grown hgr (fun x hx => owns_base hrow4 x hx)
            have hofA : Off (fun x => x = P.m) w2 wA := hof4.trans hgo (fun x hx q => by omega)
            have hPA2 := hPr4.at (hgo.2 P.m hPr4.lt (by omega))
            go_upto_region 10 with fail
            refine wp_region_list ?_
            refine wpList_step fun K hK => ?_
            go_simp
            refine hK _ _ ?_
            clear hK K
            refine wpList_load_mid rfl 35 _ rfl _ _ rfl u _ hR4 Tryd.underlying35 rfl hiq ?_
            refine wpList_run1 rfl (exec_bs1 rfl rfl (bs_req hul w4)) ?_
            refine wpList_run1 rfl (exec_append1 rfl rfl rfl hrun) ?_
            obtain ⟨va3, vcap3, rfl⟩ := owns_slice hoA
            clear hPr4 hof4 hrow4
            go_wp2_with fail
            go_roundw
            case rel =>
              refine ⟨j + 1, M, rest ++ [r], by omega, by go_num, rfl, HR2, hM, ?_, hPA2, hnd, hofA⟩
              rw [flatR_append]
              have e1 : flatR [r] = u := by rw [← hu.out]; simp [flatR]
              rw [e1]
              simpa using hoA
            case measure => simp [intOf]; omega
        · have hje : j = l.length := by omega
          have k2 : ¬ (j : Int) < (l.length : Int) := by omega
          have hrest : rest = l.filter p := by rw [HR.out, hje, List.take_length]
          rw [hje, List.drop_length, List.append_nil, hrest, mid_step hl] at hPr hnd hM
          have hPo : P.o < w2.heap.size := hPA.R.own_lt (.inr (.inl rfl))
          have hor : wr.heap[P.o]? = w2.heap[P.o]? := hof.2 P.o hPo h.R.om
          have hpr2 : wr.heap[P.p]? = w2.heap[P.p]? := hof.2 P.p (hPA.R.own_lt (.inl rfl)) h.R.pm
          have q1 : wr.cell? ⟨P.p, 1, none⟩ = some (.slice (some ⟨P.o, 0, none⟩) ls.length ls.length) := by
            have := cell_at hPA.R.c1 hpr2
            rwa [hmid] at this
          have qo : wr.cell? ⟨P.o, b, none⟩ = some (.slice la l.length lcap) := by
            have := hPA.R.oc b _ hv
            rw [Nat.zero_add] at this
            exact cell_at this hor
          have qt := there_at hPA.R.ot hor
          have qf : wr.frozen? ⟨P.o, b, none⟩ = false := by
            have := (qt b (by rw [hmid]; exact hlt)).2
            rwa [Nat.zero_add] at this
          obtain ⟨va2, vcap2, rfl⟩ := owns_slice hrow
          have hsl : (wr.setCell ⟨P.o, b, none⟩ (.slice va2 rest.length vcap2)).heap.size = wr.heap.size := by simp [World.setCell]
          have hap : ∀ x, (Value.slice va2 rest.length vcap2).ownBlock = some x → w2.heap.size ≤ x := owns_base hrow
          have hrf : ∀ x ∈ l.filter p, x ∈ l := fun x hx => (List.mem_filter.1 hx).1
          have HFIN : Hid (PoolAt (wr.setCell ⟨P.o, b, none⟩ (.slice va2 rest.length vcap2)) ⟨P.p, P.o, P.m, vs.set b (.slice va2 rest.length vcap2)⟩ room (midL ls p (b + 1))) := hide (by
            have hset := RowsAt.put (w' := wr.setCell ⟨P.o, b, none⟩ (.slice va2 rest.length vcap2)) (v' := .slice va2 rest.length vcap2) (l' := l.filter p) hPA.R hv
              (fun x hx h1 h2 _ => by
                rw [Below.heap_setCell _ _ _ _ h1]
                exact hof.2 x (hPA.R.own_lt hx) h2)
              (by rw [hsl]; exact Nat.lt_of_lt_of_le hm2 hwr)
              (by
                have := range_set (range_at hPA.R.oc hor) b (.slice va2 rest.length vcap2)
                rwa [Nat.zero_add] at this)
              (there_set qt _ _)
              (by
                rw [← hrest]
                exact owns_at (owns_weak hrow (Nat.zero_le _)) (fun x hx => Below.heap_setCell _ _ _ _ (by have := hap x hx; show x ≠ P.o; omega)))
              (fun x hx => .inr (hap x hx)) (fun x hx => hrk x (hrf x hx)) (Nat.le_trans (List.length_filter_le _ _) hroom) (fun x hx => by rw [hmid]; exact hbk x (hrf x hx))
            rw [mid_step hl] at hset
            refine ⟨hset, ?_, hnd⟩
            exact hPr.at (Below.heap_setCell _ _ _ _ (fun e => h.R.om e.symm)))
          have HOF : Hid (Off P.own w (wr.setCell ⟨P.o, b, none⟩ (.slice va2 rest.length vcap2))) := hide (hoffr.trans (Off.of_setCell (F := P.own) wr _ _ (.inr (.inl rfl))) (fun _ _ q => q))
          have HOW : Hid (∀ x, (Pl.mk P.p P.o P.m (vs.set b (.slice va2 rest.length vcap2))).own x → P.own x ∨ w.heap.size ≤ x) := hide (fun x hx => by
            rcases own_put (P := ⟨P.p, P.o, P.m, vs⟩) (n := w2.heap.size) hv (fun g hg => .inr (hap g hg)) x hx with q | q
            · exact hown x q
            · right; have := hoff.size; omega)
          have hltB : (b : Int) < (ls.length : Int) := by omega
          clear hPr hnd hrow hPA hRA hv hvm hof hoffr hor hpr2 qt hrest
          go_wp2_with fail
          go_roundw
          case rel => exact ⟨b + 1, M, _, by omega, by go_num, rfl, hM, HFIN.out, HOF.out, HOW.out⟩
          case measure => simp [intOf]; omega
    · have hbe : b = ls.length := by omega
      have k1 : ¬ (b : Int) < (ls.length : Int) := by omega
      go_wp2_with fail
      go_ret
      rw [hbe, mid_end] at hPA hN
      exact ⟨N, rfl, hN, ⟨P.p, P.o, P.m, vs⟩, rfl, hPA, hoff, hown⟩
end Go.Proofs.YtbfcbjjhdadicaaDoor
