/- pool.Pick -/
import Derived.Test.YtbfcbjjhdadicaaDoorP6
namespace Go.Proofs.YtbfcbjjhdadicaaDoor
open Go.RowKit
open Sha Tal
theorem owns_weak {w : World} {A B : Nat} {e : TypeId} {s : Nat} {v : Value} {n : Nat} {xs : List Value} (h : w.ownsRow B e s v n xs) (hA : A ≤ B) : w.ownsRow A e s v n xs := by
  refine ⟨h.1, ?_⟩
  rcases h.2 with q | ⟨g, cp, cur, q1, q2, q3⟩
  · exact .inl q
  · exact .inr ⟨g, cp, cur, q1, Nat.le_trans hA q2, q3⟩
theorem Rq.ok.blank {r : Rq} (h : r.ok) (w : World) : (w.alloc (.cells #[.int .i64 0, .int .i64 0, .string ⟨#[]⟩, .int .u8 0, .int .u8 0, .int .u8 0, .int .u8 0, .int .u8 0, .int .u8 0, .int .u8 0, .int .u8 0, .int .u8 0, .int .u8 0, .int .u8 0, .int .u8 0, .int .u8 0, .int .u8 0, .int .u8 0, .int .u8 0] 35)).there w.heap.size 0 r.cells.toArray.size := by
  have := there_new w #[.int .i64 0, .int .i64 0, .string ⟨#[]⟩, .int .u8 0, .int .u8 0, .int .u8 0, .int .u8 0, .int .u8 0, .int .u8 0, .int .u8 0, .int .u8 0, .int .u8 0, .int .u8 0, .int .u8 0, .int .u8 0, .int .u8 0, .int .u8 0, .int .u8 0, .int .u8 0] 35
  have e : r.cells.toArray.size = 19 := by rw [List.size_toArray, h.length]
  rw [e]; exact this
def bucketOf (ls : List (List Rq)) (z : Int) : List Rq := ls.getD z.toNat []
def goodR (S : List (Int × Int)) (r : Rq) : Bool := decide (pk r ∉ S)
def pickL (S : List (Int × Int)) (most : Int) (bs : List Int) (ls : List (List Rq)) : List Rq := ((bs.flatMap (bucketOf ls)).filter (goodR S)).take most.toNat
theorem flatM_len {ls : List (List Rq)} {room : Nat} (h : ∀ l ∈ ls, l.length ≤ room) (bs : List Int) : (bs.flatMap (bucketOf ls)).length ≤ bs.length * room := by
  induction bs with
  | nil => simp
  | cons b bs ih =>
    have h1 : (bucketOf ls b).length ≤ room := by
      unfold bucketOf
      by_cases hb : b.toNat < ls.length
      · simp only [List.getD, List.getElem?_eq_getElem hb, Option.getD_some]
        exact h _ (List.getElem_mem hb)
      · simp [List.getD, List.getElem?_eq_none (show ls.length ≤ b.toNat by omega)]
    rw [List.flatMap_cons, List.length_append, List.length_cons, Nat.add_mul, Nat.one_mul]
    omega
theorem flatM_snoc {ls : List (List Rq)} (bs : List Int) (j : Nat) (hj : j < bs.length) : (bs.take (j + 1)).flatMap (bucketOf ls) = (bs.take j).flatMap (bucketOf ls) ++ bucketOf ls bs[j] := by
  rw [List.take_succ_eq_append_getElem hj, List.flatMap_append]
  simp
theorem flatM_rest {ls : List (List Rq)} (bs : List Int) (j : Nat) : ∃ rest, bs.flatMap (bucketOf ls) = (bs.take j).flatMap (bucketOf ls) ++ rest := by
  refine ⟨(bs.drop j).flatMap (bucketOf ls), ?_⟩
  rw [← List.flatMap_append, List.take_append_drop]
theorem pick_stop {S : List (Int × Int)} {most : Int} {bs : List Int} {ls : List (List Rq)} {X rest out : List Rq} (hX : bs.flatMap (bucketOf ls) = X ++ rest) (ho : out = X.filter (goodR S)) (h1 : out.length ≤ most.toNat) (h2 : most ≤ (out.length : Int)) : pickL S most bs ls = out := by
  unfold pickL
  rw [hX, List.filter_append, ← ho]
  have : most.toNat = out.length := by omega
  rw [this, List.take_left]
theorem pick_end {S : List (Int × Int)} {most : Int} {bs : List Int} {ls : List (List Rq)} {out : List Rq} (ho : out = (bs.flatMap (bucketOf ls)).filter (goodR S)) (h1 : out.length ≤ most.toNat) : pickL S most bs ls = out := by
  unfold pickL
  rw [← ho, List.take_of_length_le h1]
set_option maxRecDepth 100000 in
set_option maxHeartbeats 4000000 in
theorem pick_any (P : Pl) (room : Nat) (ls : List (List Rq)) (a : Option Addr) (cap : Nat) (zs : List Int) (most : Int) (ba : Option Addr) (bn bc : Nat) (S : List (Int × Int)) (w : World) (h : PoolAt w P room ls) (hz : IntsAt w a zs) (hzl : zs.length ≤ 100000)
    (cpr : Calls Tryd.prog 40 #[.slice ba bn bc] w fun e w' => ∃ m, e = .returned (.map (some m)) ∧ PairsAt w' m S ∧ Below w.heap.size w w') :
    Calls Tryd.prog 21 #[ptr P, .slice a zs.length cap, .int .i64 most, .slice ba bn bc] w fun e w' => ∃ v, e = .returned v ∧ w'.ownsRow w.heap.size 35 19 v (pickL S most (onceL ls.length zs) ls).length (flatR (pickL S most (onceL ls.length zs) ls)) ∧ Below w.heap.size w w' := by
  have cm := made_any P room ls w h.R
  have hkl := h.R.le
  have con := fun w0 h0 h1 => once_any P room ls a cap zs w0 h0 h1 hzl
  have hol := once_len ls.length zs
  have hoi := once_in ls.length zs
  have HPK := @pick_stop S most (onceL ls.length zs) ls
  have HPE := @pick_end S most (onceL ls.length zs) ls
  obtain ⟨R, hR⟩ : ∃ R, Hid (pickL S most (onceL ls.length zs) ls = R) := ⟨_, hide rfl⟩
  simp only [hR.out] at HPK HPE
  rw [hR.out]
  clear hR
  generalize onceL ls.length zs = bs at *
  unfold ptr at cm con ⊢
  go_enter Tryd.func21, Tryd.ntmps21
  go_wp2_with fail
  refine cm.mono ?_
  rintro e w' ⟨rfl, hw⟩
  obtain rfl := hw.symm
  clear cm hw
  go_wp2_with fail
  refine cpr.mono ?_
  rintro e w1 ⟨tm, rfl, hT1, hB1⟩
  clear cpr
  have con := con w1 (h.R.below hB1) (hz.below hB1)
  go_wp2_with fail
  refine con.mono ?_
  rintro e w2 ⟨ov, rfl, hO2, hB12⟩
  have hB2 : Below w.heap.size w w2 := hB1.trans (hB12.mono hB1.size)
  have P2 := h.below hB2
  have hT2 := hT1.below hB12
  obtain ⟨oa, ocap, rfl, hO⟩ := ints_own hO2
  clear con hO2 hT1 hB12
  go_wp2_with fail
  go_loopw [10, 24] (fun v iv wr => ∃ (j : Nat) (out : List Rq), j ≤ bs.length ∧ iv = .int .i64 (j : Int) ∧ wr.ownsRow w2.heap.size 35 19 v out.length (flatR out) ∧ Hid (out = ((bs.take j).flatMap (bucketOf ls)).filter (goodR S)) ∧ out.length ≤ most.toNat ∧ Below w2.heap.size w2 wr) (fun _ iv _ => bs.length - (intOf iv).toNat)
  case atStart => exact ⟨0, [], by omega, rfl, World.ownsRow_nil _ _ _ _, hide (by simp), by simp, Below.refl _ _⟩
  case round =>
    obtain ⟨j, out, hj, rfl, ho, HO, hom, hB⟩ := hrel
    by_cases hlt : j < bs.length
    · have hltI : (j : Int) < (bs.length : Int) := by omega
      obtain ⟨b, off, rfl, hc⟩ := (hO.below hB).cell hlt
      have hbz := hoi bs[j] (List.getElem_mem hlt)
      have HSN := hide (flatM_snoc (ls := ls) bs j hlt)
      have HRE := hide (flatM_rest (ls := ls) bs (j + 1))
      have HLN := hide (flatM_len h.R.few (bs.take j))
      obtain ⟨z, hzz⟩ : ∃ z, Hid (bs[j] = z) := ⟨_, hide rfl⟩
      rw [hzz.out] at hc hbz HSN
      obtain ⟨Z, rfl⟩ := Int.eq_ofNat_of_zero_le hbz.1
      have hZ : Z < ls.length := by omega
      have hZI : (Z : Int) < (ls.length : Int) := by omega
      obtain ⟨l, hl⟩ : ∃ l, ls[Z]? = some l := ⟨ls[Z], List.getElem?_eq_getElem hZ⟩
      have hbl : bucketOf ls (Z : Int) = l := by simp [bucketOf, List.getD, hl]
      rw [hbl] at HSN
      have Pr := P2.below hB
      obtain ⟨v, hv⟩ : ∃ v, P.vs[Z]? = some v := ⟨P.vs[Z]'(by rw [h.R.vl]; exact hZ), List.getElem?_eq_getElem _⟩
      have hrk := h.R.rok l (List.mem_of_getElem? hl)
      have hlf : l.length ≤ 16 := Nat.le_trans (h.R.few l (List.mem_of_getElem? hl)) h.R.room
      obtain ⟨la, lcap, rfl, hlc, hlm, hRA, -⟩ := own_reqs0 (P2.R.rows Z v l hv hl) hrk (by unfold maxLen; omega)
      have q1 := Pr.R.c1
      have qo : wr.cell? ⟨P.o, Z, none⟩ = some (.slice la l.length lcap) := by
        have := Pr.R.oc Z _ hv
        rwa [Nat.zero_add] at this
      have hlen : out.length ≤ 1600000 := by
        have e1 := HLN.out
        have e2 : out.length ≤ ((bs.take j).flatMap (bucketOf ls)).length := by rw [HO.out]; exact List.length_filter_le _ _
        have e3 : (bs.take j).length * room ≤ 100000 * 16 := Nat.mul_le_mul (by rw [List.length_take]; omega) h.R.room
        omega
      obtain ⟨va, vcap, rfl⟩ := owns_slice ho
      clear HLN hzz hbz
      go_wp2_with fail
      go_loopw [10, 36] (fun v iv wq => ∃ (i : Nat) (o2 : List Rq), i ≤ l.length ∧ iv = .int .i64 (i : Int) ∧ wq.ownsRow w2.heap.size 35 19 v o2.length (flatR o2) ∧ Hid (o2 = ((bs.take j).flatMap (bucketOf ls) ++ l.take i).filter (goodR S)) ∧ o2.length ≤ most.toNat ∧ o2.length ≤ 1600000 + i ∧ Below w2.heap.size w2 wq) (fun _ iv _ => l.length - (intOf iv).toNat)
      case atStart => exact ⟨0, out, by omega, rfl, ho, hide (by rw [HO.out]; simp), hom, by omega, hB⟩
      case round =>
        clear ho HO hom hlen hB Pr q1 qo hc
        obtain ⟨i, o2, hi, rfl, ho, HO, hom, hlen, hB⟩ := hrel
        by_cases hlt2 : i < l.length
        · have hltI2 : (i : Int) < (l.length : Int) := by omega
          obtain ⟨rb, roff, rfl, hrb, hre⟩ := (hRA.below hB).elem i hlt2
          have HTK := hide (List.take_succ_eq_append_getElem hlt2)
          have hok : l[i].ok := hrk _ (List.getElem_mem hlt2)
          have HRS : Hid (∃ rest, bs.flatMap (bucketOf ls) = ((bs.take j).flatMap (bucketOf ls) ++ l.take i) ++ rest) := hide (by
            obtain ⟨rest, hrest⟩ := HRE.out
            refine ⟨l.drop i ++ rest, ?_⟩
            rw [hrest, HSN.out]
            simp only [List.append_assoc]
            rw [← List.append_assoc (l.take i), List.take_append_drop])
          generalize l[i] = r at *
          have hiq := hok.isz
          have hiA := hok.iszA
          have hN := hok.blank wr
          have h1c := all_oneCell_toArray r.one
          have hul := hok.length
          have hu1 := r.one
          have cpo := pairOf_any r
          have F := fresh_store wr #[.int .i64 0, .int .i64 0, .string ⟨#[]⟩, .int .u8 0, .int .u8 0, .int .u8 0, .int .u8 0, .int .u8 0, .int .u8 0, .int .u8 0, .int .u8 0, .int .u8 0, .int .u8 0, .int .u8 0, .int .u8 0, .int .u8 0, .int .u8 0, .int .u8 0, .int .u8 0] 35 r.cells (by rw [hok.length]; rfl)
          obtain ⟨u, hu⟩ : ∃ u, Hid (r.cells = u) := ⟨_, hide rfl⟩
          rw [hu.out] at hre hiq hiA hN h1c F hul hu1
          simp only [hu.out] at cpo
          obtain ⟨va2, vcap2, rfl⟩ := owns_slice ho
          go_upto_region 10 with fail
          try simp only [Act.put]
          refine wp_region_list ?_
          refine wpList_step fun K hK => ?_
          go_simp
          refine hK _ _ ?_
          clear hK K
          refine wpList_load_mid rfl 35 _ rfl _ _ rfl u _ hre Tryd.underlying35 rfl hiq ?_
          go_upto_region 11 with (refine wpList_store_mid (op := ⟨none, .store 35 (.tmp 14) (.tmp 39), _, _, _, none⟩) rfl 35 _ _ rfl _ _ u.toArray rfl rfl hN hiA h1c ?_)
          go_name_world w3 hw3
          rw [show (wr.alloc (.cells #[.int .i64 0, .int .i64 0, .string ⟨#[]⟩, .int .u8 0, .int .u8 0, .int .u8 0, .int .u8 0, .int .u8 0, .int .u8 0, .int .u8 0, .int .u8 0, .int .u8 0, .int .u8 0, .int .u8 0, .int .u8 0, .int .u8 0, .int .u8 0, .int .u8 0, .int .u8 0] 35)).setCells wr.heap.size 0 u = w3 from hw3] at F
          clear hw3 hN
          obtain ⟨hR3, hF3, hz3, -⟩ := F
          have hB3 := hB.trans (hF3.mono hB.size)
          have ho3 := ownsB ho hF3
          clear ho hre hB
          by_cases hst : most ≤ (o2.length : Int)
          · have HFIN : Hid (R = o2) := hide (by
              obtain ⟨rest, hrest⟩ := HRS.out
              exact HPK hrest HO.out hom hst)
            have hge : decide ((o2.length : Int) ≥ most) = true := decide_eq_true hst
            clear HPK HPE HRS HRE HSN HO
            go_wp2_with fail
            go_ret
            exact ⟨_, rfl, by rw [HFIN.out]; exact owns_weak ho3 hB2.size, hB2.trans (hB3.mono hB2.size)⟩
          · have hge : decide ((o2.length : Int) ≥ most) = false := decide_eq_false hst
            have hT3 := hT2.below hB3
            have hI : I64 r.c ∧ I64 r.n := ⟨⟨hok.cl, hok.ch⟩, ⟨hok.nl, hok.nh⟩⟩
            have chs := fun w0 h0 => has_any tm S r.c r.n hI.1 hI.2 w0 h0
            clear hok hI HRS HRE HSN
            go_upto_region 13 with fail
            refine wp_region_list ?_
            refine wpList_step fun K hK => ?_
            go_simp
            refine hK _ _ ?_
            clear hK K
            refine wpList_load_mid rfl 35 _ rfl _ _ rfl u _ hR3 Tryd.underlying35 rfl hiq ?_
            go_wp2_with fail
            refine (cpo w3).mono ?_
            rintro e w4 ⟨rfl, hb4⟩
            have chs := chs w4 (hT3.below hb4)
            have hB4 := hB3.trans (hb4.mono hB3.size)
            have ho4 := ownsB ho3 hb4
            have hR4 := range_below hR3 hb4 (by omega)
            have hz4 : wr.heap.size < w4.heap.size := by have := hb4.size; omega
            by_cases hmem : pk r ∈ S
            · have HO2 : Hid (o2 = ((bs.take j).flatMap (bucketOf ls) ++ l.take (i + 1)).filter (goodR S)) := hide (by
                rw [HTK.out, ← List.append_assoc, List.filter_append, ← HO.out]
                simp [goodR, hmem])
              rw [decide_eq_true (show (r.c, r.n) ∈ S from hmem)] at chs
              clear HO HTK hmem HPK HPE
              go_wp2_with fail
              refine chs.mono ?_
              rintro e w5 ⟨rfl, hb5⟩
              have hB5 := hB4.trans (hb5.mono hB4.size)
              have ho5 := ownsB ho4 hb5
              clear chs
              go_wp2_with fail
              go_roundw
              case rel => exact ⟨i + 1, o2, by omega, by go_num, ho5, HO2, hom, by omega, hB5⟩
              case measure => simp [intOf]; omega
            · have HO2 : Hid (o2 ++ [r] = ((bs.take j).flatMap (bucketOf ls) ++ l.take (i + 1)).filter (goodR S)) := hide (by
                rw [HTK.out, ← List.append_assoc, List.filter_append, ← HO.out]
                simp [goodR, hmem])
              rw [decide_eq_false (show ¬ (r.c, r.n) ∈ S from hmem)] at chs
              clear HO HTK hmem HPK HPE
              go_wp2_with fail
              refine chs.mono ?_
              rintro e w5 ⟨rfl, hb5⟩
              have hB5 := hB4.trans (hb5.mono hB4.size)
              have ho5 := ownsB ho4 hb5
              have hR5 := range_below hR4 hb5 hz4
              clear chs
              obtain ⟨v', wA, hrun, hoA, hgr, hap⟩ := append_reqB hB5.size ho5 hul hu1 (by omega) 43
              go_upto_region 14 with fail
              refine wp_region_list ?_
              refine wpList_step fun K hK => ?_
              go_simp
              refine hK _ _ ?_
              clear hK K
              refine wpList_load_mid rfl 35 _ rfl _ _ rfl u _ hR5 Tryd.underlying35 rfl hiq ?_
              refine wpList_run1 rfl (exec_bs1 rfl rfl (bs_req hul w5)) ?_
              refine wpList_run1 rfl (exec_append1 rfl rfl rfl hrun) ?_
              go_wp2_with fail
              have hBA : Below w2.heap.size w2 wA := hB5.grown hgr hB5.size (owns_base ho5)
              obtain ⟨va3, vcap3, rfl⟩ := owns_slice hoA
              go_roundw
              case rel =>
                refine ⟨i + 1, o2 ++ [r], by omega, by go_num, ?_, HO2, by simp; omega, by simp; omega, hBA⟩
                rw [flatR_append]
                have e1 : flatR [r] = u := by rw [← hu.out]; simp [flatR]
                rw [e1]
                simpa using hoA
              case measure => simp [intOf]; omega
        · have hie : i = l.length := by omega
          have k2 : ¬ (i : Int) < (l.length : Int) := by omega
          have HO2 : Hid (o2 = ((bs.take (j + 1)).flatMap (bucketOf ls)).filter (goodR S)) := hide (by
            rw [HSN.out, HO.out, hie, List.take_length])
          clear HO hie HPK HPE HRE HSN
          obtain ⟨va2, vcap2, rfl⟩ := owns_slice ho
          go_wp2_with fail
          go_roundw
          case rel => exact ⟨j + 1, o2, by omega, by go_num, ho, HO2, hom, hB⟩
          case measure => simp [intOf]; omega
    · have k1 : ¬ (j : Int) < (bs.length : Int) := by omega
      have HFIN : Hid (R = out) := hide (HPE (by rw [HO.out, List.take_of_length_le (by omega)]) hom)
      obtain ⟨va, vcap, rfl⟩ := owns_slice ho
      clear HPK HPE HO
      go_wp2_with fail
      go_ret
      exact ⟨_, rfl, by rw [HFIN.out]; exact owns_weak ho hB2.size, hB2.trans (hB.mono hB2.size)⟩
theorem pick_one {S : List (Int × Int)} {most : Int} {b : Nat} {ls : List (List Rq)} (hb : b < ls.length) (hS : S = []) : pickL S most (onceL ls.length [(b : Int)]) ls = (ls.getD b []).take most.toNat := by
  subst hS
  have e : onceL ls.length [(b : Int)] = [(b : Int)] := by
    have : (0 : Int) ≤ b ∧ (b : Int) < (ls.length : Int) := by omega
    simp [onceL, this]
  have e2 : ∀ l : List Rq, l.filter (goodR []) = l := fun l => List.filter_eq_self.2 (fun r _ => by simp [goodR])
  rw [e]
  simp [pickL, bucketOf, e2]
end Go.Proofs.YtbfcbjjhdadicaaDoor
