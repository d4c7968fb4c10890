/- NetOnce: no two packets on their way are alike; what is taken is there no more; without any condition -/
import Derived.Test.YtilbjeeabecfjaaGreatJO0
import Derived.Test.YtilbjeeabecfjaaGreatJO10
import Derived.Deep.DeepCutAuto
import Derived.Deep.CutBlock
import Derived.WalkKit
namespace Go.Proofs.YtilbjeeabecfjaaGreat
open Go.RowKit
open Sha Tal
set_option linter.unusedVariables false
set_option linter.unusedSimpArgs false
set_option maxRecDepth 100000 in
set_option maxHeartbeats 2000000 in
theorem good7 (w : World) : Calls Tryz.prog 25 #[.int .i64 7] w fun e w' => e = .returned (.bool true) ∧ w' = w := by
 go_enter Tryz.func25, Tryz.ntmps25
 go_wp2_with fail
 go_ret
 exact ⟨rfl, rfl⟩
theorem zeroBool (w : World) : (zeroValue 4).run Tryz.prog w = .ok (.bool false) w := by kernel_rfl
theorem SetAt.look1 {t mt e : TypeId} {u z : Value} {w : World} {b n : Nat} {p : Lit → Prop} (h : SetAt t u w b n p) (K : Maps.Keyed Tryz.prog t) (hm : Tryz.prog.underlying mt = some (.map t e)) (hz : (zeroValue e).run Tryz.prog w = .ok z w) {key : Value} {kl : Lit} (hkey : Go.keyOf Tryz.prog t key = some kl) (hc : ¬ p kl) :
  (Instr.lookup mt (.map (some b)) key false).run Tryz.prog w = .ok z w := by
 obtain ⟨D, hown, hhas, hat⟩ := h
 obtain ⟨v, ps, hrun, hv⟩ := hown.lookup K hm hz (zd := .held z) (zp := []) rfl hkey
 simp only [anyE, Option.some.injEq, Prod.mk.injEq] at hv
 rw [hrun]
 have hcc : Maps.has D kl = false := Bool.eq_false_iff.2 fun q => hc ((hhas kl).1 q)
 have h1 := hv.1
 rw [Maps.atKey_of_not_has hcc] at h1
 simp only [DataW.held.injEq] at h1
 rw [h1]
theorem inv0 (n : Int) (h : 0 < n) : Inv ⟨n, [], [], [], [], [], 0, 0⟩ 0 := ⟨List.nodup_nil, rfl, rfl, by simp, by simp, Int.le_refl 0, by simp, Int.le_refl 0, by simp, h⟩
theorem take_in {s : Nt} {i : Int} (h : 0 ≤ i ∧ i < (s.way.length : Int)) : ∃ p, takeV (takeS s i).2 = .tuple #[.agg (Pk.cells p).toArray, .int .i64 0] ∧ (takeS s i).1.way.length + 1 = s.way.length ∧ ((∀ y ∈ s.way, y.ok) → p.ok) := by
 have hlt : i.toNat < s.way.length := by omega
 unfold takeS
 rw [if_pos h, List.getElem?_eq_getElem hlt]
 exact ⟨s.way[i.toNat], rfl, by show (s.way.eraseIdx i.toNat).length + 1 = _; rw [List.length_eraseIdx]; simp [hlt]; omega, fun q => q _ (List.getElem_mem hlt)⟩
theorem take_not {s : Nt} {i : Int} (h : ¬ (0 ≤ i ∧ i < (s.way.length : Int))) : takeV (takeS s i).2 = .tuple #[.agg infoPk0.toArray, .int .i64 260] ∧ (takeS s i).1.way.length = s.way.length := by
 unfold takeS
 rw [if_neg h]
 exact ⟨rfl, rfl⟩
def Ahead (N B : Nat) (w : World) (k : Nat) (wr : World) : Prop := ∃ (P' : Nd) (K' : Nat) (s' : Nt), P'.p = N ∧ K' ≤ 700000 * k ∧ NetAt wr B K' P' s' 0 ∧ Inv s' k ∧ Below B w wr
set_option maxRecDepth 100000 in
set_option maxHeartbeats 16000000 in
theorem netOnce_walk (y : Sl Ac) (w : World) (h : y.At AcE w) : Calls Tryz.prog 5 #[y.val] w fun e w' => e = .returned (.bool true) ∧ Below w.heap.size w w' := by
 obtain ⟨ya, yc, xs⟩ := y
 obtain ⟨zu, hzu, hzl⟩ : ∃ z : List Value, (∀ w : World, (zeroValue 34).run Tryz.prog w = .ok (.agg z.toArray) w) ∧ z.length = 20 := ⟨_, zeroAct, rfl⟩
 obtain ⟨zp, hpl, hp1, hpr, hpe⟩ : ∃ z : List Value, z.length = 19 ∧ (∀ v ∈ z, v.oneCell' = true) ∧ (∀ w : World, (zeroValue 44).run Tryz.prog w = .ok (.agg z.toArray) w) ∧ Hid (infoPk0 = z) := ⟨infoPk0, pk0_len, pk0_one, zeroPk, hide rfl⟩
 obtain ⟨n, hyn⟩ : ∃ n, xs.length = n := ⟨_, rfl⟩
 have HYn := hide hyn
 have HNm : Hid (n ≤ 9223372036854775807) := hide (by rw [← hyn]; exact h.1)
 have cN := nnew_any 7 w good7
 have cLt := fun w0 (h : RowsAt AcE w0 ya xs) => light26_any ⟨ya, yc, xs⟩ w0 h
 simp only [Sl.val, hyn] at cLt ⊢
 have HY := hide h
 clear h hyn
 obtain ⟨B, hB⟩ : ∃ B, Hid (w.heap.size = B) := ⟨_, hide rfl⟩
 rw [hB.out] at cN ⊢
 go_enter Tryz.func5, Tryz.ntmps5
 go_upto_region 1 with fail
 try simp only [Act.put]
 refine pl_begin ?_
 refine pl_call (d := some 13) (by rfl) (by go_simp; first | done | exact ⟨rfl, rfl⟩ | with_reducible rfl) rfl ?_
 refine (cN).mono ?_
 rintro _ w1 ⟨P0, rfl, hN1, hb1⟩
 refine ⟨_, rfl, ?_⟩
 simp only [nz]
 refine pl_t 3 (?_) (by rfl) ?_ rfl ?_
 rotate_left
 ·go_simp
  try with_reducible rfl
 simp only [nz]
 refine pl_nil ?_
 obtain ⟨N, hNp⟩ : ∃ N, P0.p = N := ⟨_, rfl⟩
 rw [hNp]
 have HNp := hide hNp
 clear cN hNp
 go_upto_region 2 with fail
 have cL := cLt w1 (HY.out.below (by rw [hB.out]; exact hb1))
 try simp only [Act.put]
 refine pl_begin ?_
 refine pl_t 14 (?_) (by rfl) ?_ rfl ?_
 rotate_left
 ·go_simp
  try with_reducible rfl
 simp only [nz]
 refine pl_t 15 (.bool false) (by rfl) (by go_simp) rfl ?_
 simp only [nz]
 refine pl_t 16 (?_) (by rfl) ?_ rfl ?_
 rotate_left
 ·go_simp
  try with_reducible rfl
 simp only [nz]
 refine pl_t 17 (?_) (by rfl) ?_ rfl ?_
 rotate_left
 ·go_simp
  try with_reducible rfl
 simp only [nz]
 refine pl_call (d := some 18) (by rfl) (by go_simp; first | done | exact ⟨rfl, rfl⟩ | with_reducible rfl) rfl ?_
 refine (cL).mono ?_
 rintro _ w2 ⟨lb, rfl, hb2, hlt⟩
 refine ⟨_, rfl, ?_⟩
 simp only [nz]
 have hN2 := hN1.below hb2
 have B2 := hb1.trans (hb2.mono (by have := hb1.size; rw [hB.out] at this; exact this))
 clear cL cLt hN1 hb1 hb2
 cases lb
 ·refine pl_t 19 (?_) (by rfl) ?_ rfl ?_
  rotate_left
  ·go_simp
   try with_reducible rfl
  simp only [nz]
  refine pl_t 20 (?_) (by rfl) ?_ rfl ?_
  rotate_left
  ·go_simp
   try with_reducible rfl
  simp only [nz]
  refine pl_nil ?_
  clear hlt
  go_upto_region 3 with fail
  try simp only [Act.put]
  refine pl_begin ?_
  refine pl_t 21 (?_) (by rfl) ?_ rfl ?_
  rotate_left
  ·go_simp
   try with_reducible rfl
  simp only [nz]
  refine pl_t 22 (.bool true) (by rfl) (by go_simp) rfl ?_
  simp only [nz]
  refine pl_t 23 (?_) (by rfl) ?_ rfl ?_
  rotate_left
  ·go_simp
   try with_reducible rfl
  simp only [nz]
  refine pl_call (d := some 24) (by rfl) (by go_simp; first | done | exact ⟨rfl, rfl⟩ | with_reducible rfl) rfl ?_
  refine (lives26_any w2).mono ?_
  rintro _ wL ⟨rfl, hbL⟩
  refine ⟨_, rfl, ?_⟩
  simp only [nz]
  refine pl_t 25 (?_) (by rfl) ?_ rfl ?_
  rotate_left
  ·go_simp
   try with_reducible rfl
  simp only [nz]
  refine pl_t 2 (?_) (by rfl) ?_ rfl ?_
  rotate_left
  ·go_simp
   try with_reducible rfl
  simp only [nz]
  refine pl_nil ?_
  have HB := hide (B2.trans (hbL.mono (by have := B2.size; rw [hB.out] at this; exact this)))
  clear B2 hbL hN2
  go_wp2_with fail
  go_ret
  exact ⟨rfl, HB.out⟩
 ·refine pl_t 19 (?_) (by rfl) ?_ rfl ?_
  rotate_left
  ·go_simp
   try with_reducible rfl
  simp only [nz]
  refine pl_t 20 (?_) (by rfl) ?_ rfl ?_
  rotate_left
  ·go_simp
   try with_reducible rfl
  simp only [nz]
  refine pl_nil ?_
  have hlt := hlt rfl
  have HLn : Hid (n ≤ 100) := hide hlt.1
  have HLs := hide hlt.2
  have HB0 : Hid (Ahead N B w 0 w2) := hide ⟨P0, 0, _, HNp.out, by omega, hN2, inv0 7 (by decide), B2⟩
  clear hlt hN2 B2
  go_upto_region 4 with fail
  try simp only [Act.put]
  refine pl_begin ?_
  refine pl_t 26 (?_) (by rfl) ?_ rfl ?_
  rotate_left
  ·go_simp
   try with_reducible rfl
  simp only [nz]
  refine pl_t 27 (?_) (by rfl) ?_ rfl ?_
  rotate_left
  ·go_simp
   try with_reducible rfl
  simp only [nz]
  refine pl_t 28 (?_) (by rfl) ?_ rfl ?_
  rotate_left
  ·go_simp
   try with_reducible rfl
  simp only [nz]
  refine pl_nil ?_
  go_wp2_with fail
  go_loopw [28] (fun iv wr => ∃ k : Nat, k ≤ n ∧ iv = .int .i64 (k : Int) ∧ Hid (Ahead N B w k wr)) (fun iv _ => n - (intOf iv).toNat)
  case atStart => exact ⟨0, by omega, rfl, HB0⟩
  case round =>
   clear HB0
   obtain ⟨k, hk, rfl, HK⟩ := hrel
   by_cases hlt : k < n
   ·have k1 : (k : Int) < n := by omega
    have hn9 : n ≤ 9223372036854775807 := HNm.out
    have hkx : k < xs.length := by rw [HYn.out]; exact hlt
    obtain ⟨b, off, hab0, hbw, hre0⟩ := HY.out.elem k hkx
    have hab : ya = some ⟨b, off, none⟩ := hab0
    have okx : Ac.ok xs[k] := HY.out.2.1 _ (List.getElem_mem hkx)
    have hxs : (xs[k]).x.s.size ≤ 2000 := HLs.out _ (List.getElem_mem hkx)
    obtain ⟨P1, K1, s1, hp1', hK1, hN, hI, hBw⟩ := HK.out
    have hre : wr.rangeAt b (off + k * 20) (xs[k]).cells := range_below hre0 (by rw [hB.out]; exact hBw) hbw
    have hul := ac_len okx
    have hu1 := ac_one xs[k]
    have hex : ∀ (W : World) (D : Nat), W.rangeAt D 0 (xs[k]).cells → W.rangeAt D 2 (xs[k]).x.cells := fun W D hr j v hv => by
     have := hr (j + 2) v hv
     rw [show 0 + (j + 2) = 2 + j by omega] at this
     exact this
    obtain ⟨a, ha⟩ : ∃ a, Hid (xs[k] = a) := ⟨_, hide rfl⟩
    rw [ha.out] at okx hxs hre hul hu1
    simp only [ha.out] at hex
    have hxl : a.x.cells.length = 18 := EvE.len a.x okx.x
    have ixx : (Tryz.prog.info? 32).map (·.size) = some a.x.cells.length := by rw [hxl]; exact isz_en
    have e0 : a.cells[0]? = some (.int .i64 a.k) := rfl
    have e1 : a.cells[1]? = some (.int .i64 a.dt) := rfl
    obtain ⟨u, hu⟩ : ∃ u, Hid (a.cells = u) := ⟨_, hide rfl⟩
    rw [hu.out] at hre hul hu1 e0 e1
    simp only [hu.out] at hex
    have iu : (Tryz.prog.info? 34).map (·.size) = some u.length := by rw [hul]; exact isz_act
    subst hab
    clear hu hab0 hre0 ha HK
    go_upto_region 6 with fail
    try simp only [Act.put]
    refine pl_begin ?_
    refine pl_t 30 (.pointer (some ⟨b, off + k * 20, none⟩)) (by rfl) (by go_simp <;> (try simp [*])) rfl ?_
    simp only [nz]
    refine pl_t 31 (.agg u.toArray) (by rfl) (ex_mid rfl rfl hre Tryz.underlying34 rfl iu) rfl ?_
    simp only [nz]
    refine pl_run (d := some 5) (v := .pointer (some ⟨wr.heap.size, 0, none⟩)) (w' := wr.alloc (.cells zu.toArray 34)) (by rfl) (ex_alloc rfl (hzu _)) rfl ?_
    simp only [nz]
    refine pl_store (w' := (wr.alloc (.cells zu.toArray 34)).setCells wr.heap.size 0 u) (by rfl) (ex_put (cs := u.toArray) rfl rfl rfl (there_newN _ _ _ (by simp [hzl, hul])) (by simpa using iu) (all_one hu1)) rfl ?_
    refine pl_nil ?_
    obtain ⟨rU, hF, hF3, -⟩ := fresh_store wr zu.toArray 34 u (by simp [hzl, hul])
    have hBw := hBw.trans (hF.mono (by have := hBw.size; rw [hB.out] at this; exact this))
    have hN := hN.below hF
    obtain ⟨D, hD⟩ : ∃ D, wr.heap.size = D := ⟨_, rfl⟩
    rw [hD] at rU hN hBw
    simp only [hD]
    obtain ⟨w5, hw5⟩ : ∃ W, (wr.alloc (.cells zu.toArray 34)).setCells D 0 u = W := ⟨_, rfl⟩
    rw [hw5] at rU hN hBw ⊢
    have c0 : w5.cell? ⟨D, 0, none⟩ = some (.int .i64 a.k) := rU 0 _ e0
    have c1 : w5.cell? ⟨D, 1, none⟩ = some (.int .i64 a.dt) := rU 1 _ e1
    have rX := hex w5 D rU
    clear hw5 hD hF hF3 hre rU e0 e1 hex
    go_upto_region 7 with fail
    try simp only [Act.put]
    refine pl_begin ?_
    refine pl_t 32 (.pointer (some ⟨D, 0, none⟩)) (by rfl) (by go_simp) rfl ?_
    simp only [nz]
    refine pl_t 33 (.int .i64 a.k) (by rfl) (pl_one rfl rfl c0 Tryz.underlying3 rfl) rfl ?_
    simp only [nz]
    refine pl_nil ?_
    clear c0
    obtain ⟨kd, hkd⟩ : ∃ x, a.k = x := ⟨_, rfl⟩
    simp only [hkd]
    clear hkd
    have k100 : k ≤ 1000 := by have := HLn.out; omega
    have cS := nsend_all B K1 k P1 s1 a.dt a.x w5 hN hI k100 hK1 okx.x (by omega) okx.tl okx.th
    have cT := fun W (h : NetAt W B K1 P1 s1 0) => ntake_all B K1 k P1 s1 a.dt W h hI k100
    have cL := fun W (h : NetAt W B K1 P1 s1 0) => nlen_any B K1 P1 s1 0 W h hI.n0
    rw [hp1'] at cS
    simp only [hp1'] at cT cL
    have HSI := hide (send_inv hI a.dt a.x)
    have HTI := hide (take_inv hI a.dt)
    have HN := hide hN
    have HI := hide hI
    have HBw := hide hBw
    have HK1 := hide hK1
    have HP1 := hide hp1'
    have HOX := hide okx
    have gE : ∀ (W W' : World), Off P1.own W W' → B ≤ W.heap.size → Below B W W' := fun W W' hO hle => hO.low hle (fun b hb => HN.out.own_ge hb)
    have GE := hide gE
    clear hN hI hBw hK1 hp1' okx hxs gE
    obtain ⟨at_, hat⟩ : ∃ x, Hid (a.dt = x) := ⟨_, hide rfl⟩
    rw [hat.out] at cS c1 HSI HTI
    simp only [hat.out] at cT
    obtain ⟨xq, hxq⟩ : ∃ x, Hid (a.x.cells = x) := ⟨_, hide rfl⟩
    rw [hxq.out] at cS rX ixx
    have bB : B ≤ w5.heap.size := by have := HBw.out.size; rw [hB.out] at this; exact this
    have BB := hide bB
    clear bB
    go_upto_block 2 with fail
    go_cut [] (fun wx => Hid (Ahead N B w (k + 1) wx))
    case first =>
     by_cases q0 : kd = 0
     ·subst q0
      go_upto_region 8 with fail
      try simp only [Act.put]
      refine pl_begin ?_
      refine pl_t 35 (.bool true) (by rfl) (by go_simp) rfl ?_
      simp only [nz]
      refine pl_t 34 (?_) (by rfl) ?_ rfl ?_
      rotate_left
      ·go_simp
       try with_reducible rfl
      simp only [nz]
      refine pl_nil ?_
      go_upto_region 9 with fail
      try simp only [Act.put]
      refine pl_begin ?_
      refine pl_t 36 (?_) (by rfl) ?_ rfl ?_
      rotate_left
      ·go_simp
       try with_reducible rfl
      simp only [nz]
      refine pl_t 37 (.pointer (some ⟨D, 1, none⟩)) (by rfl) (by go_simp) rfl ?_
      simp only [nz]
      refine pl_t 38 (.int .i64 at_) (by rfl) (pl_one rfl rfl c1 Tryz.underlying3 rfl) rfl ?_
      simp only [nz]
      refine pl_t 39 (.pointer (some ⟨D, 2, none⟩)) (by rfl) (by go_simp) rfl ?_
      simp only [nz]
      refine pl_t 40 (.agg xq.toArray) (by rfl) (ex_mid rfl rfl rX Tryz.underlying32 rfl ixx) rfl ?_
      simp only [nz]
      refine pl_call (d := some 41) (by rfl) (by go_simp; first | done | exact ⟨rfl, rfl⟩ | with_reducible rfl) rfl ?_
      refine (cS).mono ?_
      rintro _ w6 ⟨rfl, hO, P2, K2, hp2, hK2, hN2, hG2⟩
      refine ⟨_, rfl, ?_⟩
      simp only [nz]
      refine pl_nil ?_
      have HF : Hid (Ahead N B w (k + 1) w6) := hide ⟨P2, K2, _, hp2, hK2, hN2, HSI.out, HBw.out.trans (GE.out _ _ hO BB.out)⟩
      clear hO hp2 hK2 hN2 hG2 cS cT cL c1 rX
      go_wp2_with fail
      go_meet
      exact HF
     ·have q0b : (kd == 0) = false := by simpa using q0
      go_upto_region 8 with fail
      try simp only [Act.put]
      refine pl_begin ?_
      refine pl_t 35 (.bool false) (by rfl) (by go_simp <;> (try simp [*])) rfl ?_
      simp only [nz]
      refine pl_t 34 (?_) (by rfl) ?_ rfl ?_
      rotate_left
      ·go_simp
       try with_reducible rfl
      simp only [nz]
      refine pl_nil ?_
      clear q0 q0b
      by_cases q1 : kd = 1
      ·subst q1
       go_upto_region 10 with fail
       try simp only [Act.put]
       refine pl_begin ?_
       refine pl_t 43 (.bool true) (by rfl) (by go_simp) rfl ?_
       simp only [nz]
       refine pl_t 42 (?_) (by rfl) ?_ rfl ?_
       rotate_left
       ·go_simp
        try with_reducible rfl
       simp only [nz]
       refine pl_nil ?_
       clear cS
       have cL5 := cL w5 HN.out
       have cT5 := cT w5 HN.out
       go_upto_region 11 with fail
       try simp only [Act.put]
       refine pl_begin ?_
       refine pl_t 44 (?_) (by rfl) ?_ rfl ?_
       rotate_left
       ·go_simp
        try with_reducible rfl
       simp only [nz]
       refine pl_call (d := some 45) (by rfl) (by go_simp; first | done | exact ⟨rfl, rfl⟩ | with_reducible rfl) rfl ?_
       refine (cL5).mono ?_
       rintro _ wd ⟨rfl, hwd⟩
       refine ⟨_, rfl, ?_⟩
       simp only [nz]
       obtain rfl := hwd.symm
       refine pl_t 6 (?_) (by rfl) ?_ rfl ?_
       rotate_left
       ·go_simp
        try with_reducible rfl
       simp only [nz]
       refine pl_nil ?_
       clear cL5
       obtain ⟨m1, hm1⟩ : ∃ m, s1.way.length = m := ⟨_, rfl⟩
       rw [hm1]
       have hm9 : m1 ≤ 100 := by have := HI.out.wl; have := HLn.out; omega
       by_cases hr : 0 ≤ at_ ∧ at_ < (s1.way.length : Int)
       ·obtain ⟨p, hp1', hp2', hp3⟩ := take_in hr
        have hpo := hp3 HN.out.kw
        have hql : (Pk.cells p).length = 19 := Pk.len hpo
        have hq1 := pk_one p
        rw [hp1'] at cT5
        have hm2 : (takeS s1 at_).1.way.length + 1 = m1 := by rw [hp2', hm1]
        obtain ⟨pq, hpq⟩ : ∃ q, Hid (Pk.cells p = q) := ⟨_, hide rfl⟩
        rw [hpq.out] at cT5 hql hq1
        clear hp1' hp2' hp3 hpo hpq hr
        have iq : (Tryz.prog.info? 44).map (·.size) = some pq.length := by rw [hql]; exact isz_pk
        go_upto_region 12 with fail
        try simp only [Act.put]
        refine pl_begin ?_
        refine pl_t 47 (?_) (by rfl) ?_ rfl ?_
        rotate_left
        ·go_simp
         try with_reducible rfl
        simp only [nz]
        refine pl_t 48 (.pointer (some ⟨D, 1, none⟩)) (by rfl) (by go_simp) rfl ?_
        simp only [nz]
        refine pl_t 49 (.int .i64 at_) (by rfl) (pl_one rfl rfl c1 Tryz.underlying3 rfl) rfl ?_
        simp only [nz]
        refine pl_call (d := some 50) (by rfl) (by go_simp; first | done | exact ⟨rfl, rfl⟩ | with_reducible rfl) rfl ?_
        refine (cT5).mono ?_
        rintro _ w6 ⟨rfl, hO, P2, hp2, hN2, hG2⟩
        refine ⟨_, rfl, ?_⟩
        simp only [nz]
        refine pl_t 46 (?_) (by rfl) ?_ rfl ?_
        rotate_left
        ·go_simp
         try with_reducible rfl
        simp only [nz]
        refine pl_t 51 (?_) (by rfl) ?_ rfl ?_
        rotate_left
        ·go_simp
         try with_reducible rfl
        simp only [nz]
        refine pl_t 52 (?_) (by rfl) ?_ rfl ?_
        rotate_left
        ·go_simp
         try with_reducible rfl
        simp only [nz]
        refine pl_run (d := some 7) (v := .pointer (some ⟨w6.heap.size, 0, none⟩)) (w' := w6.alloc (.cells zp.toArray 44)) (by rfl) (ex_alloc rfl (hpr _)) rfl ?_
        simp only [nz]
        refine pl_store (w' := (w6.alloc (.cells zp.toArray 44)).setCells w6.heap.size 0 pq) (by rfl) (ex_put (cs := pq.toArray) rfl rfl rfl (there_newN _ _ _ (by simp [hpl, hql])) (by simpa using iq) (all_one hq1)) rfl ?_
        refine pl_t 8 (?_) (by rfl) ?_ rfl ?_
        rotate_left
        ·go_simp
         try with_reducible rfl
        simp only [nz]
        refine pl_nil ?_
        obtain ⟨rQ, hF, hF3, -⟩ := fresh_store w6 zp.toArray 44 pq (by simp [hpl, hql])
        have hN3 := hN2.below hF
        have hB6 := HBw.out.trans (GE.out _ _ hO BB.out)
        have hB6 := hB6.trans (hF.mono (by have := hB6.size; rw [hB.out] at this; exact this))
        obtain ⟨E, hE⟩ : ∃ D, w6.heap.size = D := ⟨_, rfl⟩
        rw [hE] at hN3 hB6
        simp only [hE]
        obtain ⟨w7, hw7⟩ : ∃ W, (w6.alloc (.cells zp.toArray 44)).setCells E 0 pq = W := ⟨_, rfl⟩
        rw [hw7] at hN3 hB6 ⊢
        have cL7 := nlen_any B K1 P2 _ 0 w7 hN3 HTI.out.n0
        rw [hp2] at cL7
        have hmi : (((takeS s1 at_).1.way.length : Nat) : Int) = (m1 : Int) - 1 := by omega
        clear hm2
        obtain ⟨m2, hm2'⟩ : ∃ m, (takeS s1 at_).1.way.length = m := ⟨_, rfl⟩
        rw [hm2'] at cL7 hmi
        have HF : Hid (Ahead N B w (k + 1) w7) := hide ⟨P2, K1, _, hp2, by have := HK1.out; omega, hN3, HTI.out, hB6⟩
        clear hw7 hE rQ hF hF3 hN2 hO hG2 hp2 hN3 hB6 cT5 cT cL c1 rX hm1 hm2'
        go_upto_region 13 with fail
        try simp only [Act.put]
        refine pl_begin ?_
        refine pl_t 53 (?_) (by rfl) ?_ rfl ?_
        rotate_left
        ·go_simp
         try with_reducible rfl
        simp only [nz]
        refine pl_t 54 (.bool true) (by rfl) (by go_simp) rfl ?_
        simp only [nz]
        refine pl_t 55 (?_) (by rfl) ?_ rfl ?_
        rotate_left
        ·go_simp
         try with_reducible rfl
        simp only [nz]
        refine pl_call (d := some 56) (by rfl) (by go_simp; first | done | exact ⟨rfl, rfl⟩ | with_reducible rfl) rfl ?_
        refine (cL7).mono ?_
        rintro _ wd ⟨rfl, hwd⟩
        refine ⟨_, rfl, ?_⟩
        simp only [nz]
        obtain rfl := hwd.symm
        refine pl_t 57 (?_) (by rfl) ?_ rfl ?_
        rotate_left
        ·go_simp
         try with_reducible rfl
        simp only [nz]
        refine pl_t 58 (.int .i64 ((m1 : Int) - 1)) (by rfl) (by go_simp <;> (try (rw [Go.IntWalk.i64_left]; simp only [wrap64]; omega))) rfl ?_
        simp only [nz]
        refine pl_t 59 (.bool true) (by rfl) (by go_simp <;> (try simp) <;> (try omega)) rfl ?_
        simp only [nz]
        refine pl_t 60 (?_) (by rfl) ?_ rfl ?_
        rotate_left
        ·go_simp
         try with_reducible rfl
        simp only [nz]
        refine pl_nil ?_
        clear cL7 hmi
        go_wp2_with fail
        go_meet
        exact HF
       ·obtain ⟨hp1', hp2'⟩ := take_not hr
        rw [hp1', hpe.out] at cT5
        have hm2 : (takeS s1 at_).1.way.length = m1 := by rw [hp2', hm1]
        clear hp1' hp2' hr
        have iq : (Tryz.prog.info? 44).map (·.size) = some zp.length := by rw [hpl]; exact isz_pk
        go_upto_region 12 with fail
        try simp only [Act.put]
        refine pl_begin ?_
        refine pl_t 47 (?_) (by rfl) ?_ rfl ?_
        rotate_left
        ·go_simp
         try with_reducible rfl
        simp only [nz]
        refine pl_t 48 (.pointer (some ⟨D, 1, none⟩)) (by rfl) (by go_simp) rfl ?_
        simp only [nz]
        refine pl_t 49 (.int .i64 at_) (by rfl) (pl_one rfl rfl c1 Tryz.underlying3 rfl) rfl ?_
        simp only [nz]
        refine pl_call (d := some 50) (by rfl) (by go_simp; first | done | exact ⟨rfl, rfl⟩ | with_reducible rfl) rfl ?_
        refine (cT5).mono ?_
        rintro _ w6 ⟨rfl, hO, P2, hp2, hN2, hG2⟩
        refine ⟨_, rfl, ?_⟩
        simp only [nz]
        refine pl_t 46 (?_) (by rfl) ?_ rfl ?_
        rotate_left
        ·go_simp
         try with_reducible rfl
        simp only [nz]
        refine pl_t 51 (?_) (by rfl) ?_ rfl ?_
        rotate_left
        ·go_simp
         try with_reducible rfl
        simp only [nz]
        refine pl_t 52 (?_) (by rfl) ?_ rfl ?_
        rotate_left
        ·go_simp
         try with_reducible rfl
        simp only [nz]
        refine pl_run (d := some 7) (v := .pointer (some ⟨w6.heap.size, 0, none⟩)) (w' := w6.alloc (.cells zp.toArray 44)) (by rfl) (ex_alloc rfl (hpr _)) rfl ?_
        simp only [nz]
        refine pl_store (w' := (w6.alloc (.cells zp.toArray 44)).setCells w6.heap.size 0 zp) (by rfl) (ex_put (cs := zp.toArray) rfl rfl rfl (there_newN _ _ _ (by simp [hpl, hpl])) (by simpa using iq) (all_one hp1)) rfl ?_
        refine pl_t 8 (?_) (by rfl) ?_ rfl ?_
        rotate_left
        ·go_simp
         try with_reducible rfl
        simp only [nz]
        refine pl_nil ?_
        obtain ⟨rQ, hF, hF3, -⟩ := fresh_store w6 zp.toArray 44 zp (by simp [hpl, hpl])
        have hN3 := hN2.below hF
        have hB6 := HBw.out.trans (GE.out _ _ hO BB.out)
        have hB6 := hB6.trans (hF.mono (by have := hB6.size; rw [hB.out] at this; exact this))
        obtain ⟨E, hE⟩ : ∃ D, w6.heap.size = D := ⟨_, rfl⟩
        rw [hE] at hN3 hB6
        simp only [hE]
        obtain ⟨w7, hw7⟩ : ∃ W, (w6.alloc (.cells zp.toArray 44)).setCells E 0 zp = W := ⟨_, rfl⟩
        rw [hw7] at hN3 hB6 ⊢
        have cL7 := nlen_any B K1 P2 _ 0 w7 hN3 HTI.out.n0
        rw [hp2] at cL7
        have hmi : ¬ (((takeS s1 at_).1.way.length : Nat) : Int) = (m1 : Int) - 1 := by omega
        clear hm2
        obtain ⟨m2, hm2'⟩ : ∃ m, (takeS s1 at_).1.way.length = m := ⟨_, rfl⟩
        rw [hm2'] at cL7 hmi
        have HF : Hid (Ahead N B w (k + 1) w7) := hide ⟨P2, K1, _, hp2, by have := HK1.out; omega, hN3, HTI.out, hB6⟩
        clear hw7 hE rQ hF hF3 hN2 hO hG2 hp2 hN3 hB6 cT5 cT cL c1 rX hm1 hm2'
        go_upto_region 13 with fail
        try simp only [Act.put]
        refine pl_begin ?_
        refine pl_t 53 (?_) (by rfl) ?_ rfl ?_
        rotate_left
        ·go_simp
         try with_reducible rfl
        simp only [nz]
        refine pl_t 54 (.bool false) (by rfl) (by go_simp) rfl ?_
        simp only [nz]
        refine pl_t 55 (?_) (by rfl) ?_ rfl ?_
        rotate_left
        ·go_simp
         try with_reducible rfl
        simp only [nz]
        refine pl_call (d := some 56) (by rfl) (by go_simp; first | done | exact ⟨rfl, rfl⟩ | with_reducible rfl) rfl ?_
        refine (cL7).mono ?_
        rintro _ wd ⟨rfl, hwd⟩
        refine ⟨_, rfl, ?_⟩
        simp only [nz]
        obtain rfl := hwd.symm
        refine pl_t 57 (?_) (by rfl) ?_ rfl ?_
        rotate_left
        ·go_simp
         try with_reducible rfl
        simp only [nz]
        refine pl_t 58 (.int .i64 ((m1 : Int) - 1)) (by rfl) (by go_simp <;> (try (rw [Go.IntWalk.i64_left]; simp only [wrap64]; omega))) rfl ?_
        simp only [nz]
        refine pl_t 59 (.bool false) (by rfl) (by go_simp <;> (try simp) <;> (try omega)) rfl ?_
        simp only [nz]
        refine pl_t 60 (?_) (by rfl) ?_ rfl ?_
        rotate_left
        ·go_simp
         try with_reducible rfl
        simp only [nz]
        refine pl_nil ?_
        clear cL7 hmi
        go_wp2_with fail
        go_meet
        exact HF
      ·have q1b : (kd == 1) = false := by simpa using q1
       go_upto_region 10 with fail
       try simp only [Act.put]
       refine pl_begin ?_
       refine pl_t 43 (.bool false) (by rfl) (by go_simp <;> (try simp [*])) rfl ?_
       simp only [nz]
       refine pl_t 42 (?_) (by rfl) ?_ rfl ?_
       rotate_left
       ·go_simp
        try with_reducible rfl
       simp only [nz]
       refine pl_nil ?_
       have HF : Hid (Ahead N B w (k + 1) w5) := hide ⟨P1, K1, s1, HP1.out, by have := HK1.out; omega, HN.out, HI.out.mono (by omega), HBw.out⟩
       clear cS cT cL c1 rX q1 q1b
       go_wp2_with fail
       go_meet
       exact HF
    case rest =>
     obtain ⟨P2, K2, s2, hp2, hK2, hN2, hI2, hB2⟩ := hcut.out
     have HI2 := hide hI2
     have HB2 := hide hB2
     have HK2 := hide hK2
     have HP2 := hide hp2
     have hM : ∀ b, P2.own b → b ≠ wc.heap.size := fun b hb e => by have := hN2.own_lt hb; omega
     have hbm : Below wc.heap.size wc (wc.alloc (.map #[] 0)) := (Below.refl _ _).alloc (Nat.le_refl _) _
     have hN3 := hN2.below hbm
     have hS3 := (SetAt.made 44 (.bool true) wc).same (q := fun k => ∃ x ∈ s2.way.take 0, k = klP x) (by simp)
     have hB3 := hB2.trans (hbm.mono (by have := hB2.size; rw [hB.out] at this; exact this))
     have hMB : B ≤ wc.heap.size := by have := hB2.size; rw [hB.out] at this; exact this
     clear hcut cS cT cL HN HI HBw HK1 HP1 HSI HTI GE BB c1 rX hI2 hB2 hK2 hp2
     go_upto_region 15 with fail
     try simp only [Act.put]
     refine pl_begin ?_
     refine pl_run (d := some 61) (v := .map (some wc.heap.size)) (w' := wc.alloc (.map #[] 0)) (by rfl) (ex_mm rfl) rfl ?_
     simp only [nz]
     refine pl_t 9 (?_) (by rfl) ?_ rfl ?_
     rotate_left
     ·go_simp
      try with_reducible rfl
     simp only [nz]
     refine pl_nil ?_
     obtain ⟨M, hMe⟩ : ∃ M, wc.heap.size = M := ⟨_, rfl⟩
     rw [hMe] at hM hS3 hMB
     simp only [hMe]
     obtain ⟨w3, hw3⟩ : ∃ W, wc.alloc (.map #[] 0) = W := ⟨_, rfl⟩
     rw [hw3] at hN3 hS3 hB3 ⊢
     have cL3 := nlen_any B K2 P2 s2 0 w3 hN3 HI2.out.n0
     rw [HP2.out] at cL3
     obtain ⟨m, hm⟩ : ∃ m, s2.way.length = m := ⟨_, rfl⟩
     rw [hm] at cL3
     have HM := hide hm
     have hm9 : m ≤ 101 := by have := HI2.out.wl; have := HLn.out; omega
     have HNM := hide hM
     have HMB := hide hMB
     have HB0 : Hid (NetAt w3 B K2 P2 s2 0 ∧ SetAt 44 (.bool true) w3 M 0 (fun k => ∃ x ∈ s2.way.take 0, k = klP x) ∧ Below B w w3) := hide ⟨hN3, hS3, hB3⟩
     clear hw3 hMe hbm hN2 hN3 hS3 hB3 hM hm hMB
     go_upto_region 16 with fail
     try simp only [Act.put]
     refine pl_begin ?_
     refine pl_t 62 (?_) (by rfl) ?_ rfl ?_
     rotate_left
     ·go_simp
      try with_reducible rfl
     simp only [nz]
     refine pl_call (d := some 63) (by rfl) (by go_simp; first | done | exact ⟨rfl, rfl⟩ | with_reducible rfl) rfl ?_
     refine (cL3).mono ?_
     rintro _ wd ⟨rfl, hwd⟩
     refine ⟨_, rfl, ?_⟩
     simp only [nz]
     obtain rfl := hwd.symm
     refine pl_t 64 (?_) (by rfl) ?_ rfl ?_
     rotate_left
     ·go_simp
      try with_reducible rfl
     simp only [nz]
     refine pl_nil ?_
     clear cL3
     go_wp2_with fail
     go_loopw [64] (fun iv wr => ∃ i : Nat, i ≤ m ∧ iv = .int .i64 (i : Int) ∧ Hid (NetAt wr B K2 P2 s2 0 ∧ SetAt 44 (.bool true) wr M i (fun k => ∃ x ∈ s2.way.take i, k = klP x) ∧ Below B w wr)) (fun iv _ => m - (intOf iv).toNat)
     case atStart => exact ⟨0, by omega, rfl, HB0⟩
     case round =>
      clear HB0
      obtain ⟨i, hi, rfl, HK⟩ := hrel
      by_cases hlt : i < m
      ·have i1 : (i : Int) < m := by omega
       have hix : i < s2.way.length := by rw [HM.out]; exact hlt
       have hpo : (s2.way[i]).ok := HK.out.1.kw _ (List.getElem_mem hix)
       have hkp := key_pk (s2.way[i]) hpo
       have hql : (s2.way[i]).cells.length = 19 := Pk.len hpo
       have hq1 := pk_one s2.way[i]
       have cLk := nlook_in B K2 P2 s2 0 wr HK.out.1 HI2.out.n0 i hix
       rw [HP2.out] at cLk
       have hno : ¬ ∃ x ∈ s2.way.take i, klP s2.way[i] = klP x := fun ⟨x, hx, e⟩ => by
        have e2 := klP_inj hpo (HK.out.1.kw x (List.mem_of_mem_take hx)) e
        rw [← e2] at hx
        obtain ⟨j, hj, hje⟩ := List.mem_iff_getElem.1 hx
        rw [List.length_take] at hj
        rw [List.getElem_take] at hje
        exact (List.pairwise_iff_getElem.1 HI2.out.nd j i (by omega) hix (by omega)) hje
       have htk : ∀ k, (k = klP s2.way[i] ∨ ∃ x ∈ s2.way.take i, k = klP x) ↔ ∃ x ∈ s2.way.take (i + 1), k = klP x := fun k => by
        rw [take_add s2.way i hix]
        constructor
        ·rintro (rfl | ⟨x, hx, rfl⟩)
         ·exact ⟨_, List.mem_append.2 (.inr (List.mem_singleton.2 rfl)), rfl⟩
         ·exact ⟨x, List.mem_append.2 (.inl hx), rfl⟩
        ·rintro ⟨x, hx, rfl⟩
         rcases List.mem_append.1 hx with hx | hx
         ·exact .inr ⟨x, hx, rfl⟩
         ·rw [List.mem_singleton.1 hx]; exact .inl rfl
       have HTK := hide htk
       have HNO := hide hno
       obtain ⟨q, hq⟩ : ∃ q, Hid ((s2.way[i]).cells = q) := ⟨_, hide rfl⟩
       rw [hq.out] at hkp hql hq1 cLk
       have iq : (Tryz.prog.info? 44).map (·.size) = some q.length := by rw [hql]; exact isz_pk
       clear hq htk hno hpo
       go_upto_region 18 with fail
       try simp only [Act.put]
       refine pl_begin ?_
       refine pl_t 66 (?_) (by rfl) ?_ rfl ?_
       rotate_left
       ·go_simp
        try with_reducible rfl
       simp only [nz]
       refine pl_t 10 (?_) (by rfl) ?_ rfl ?_
       rotate_left
       ·go_simp
        try with_reducible rfl
       simp only [nz]
       refine pl_nil ?_
       go_upto_region 19 with fail
       try simp only [Act.put]
       refine pl_begin ?_
       refine pl_t 68 (?_) (by rfl) ?_ rfl ?_
       rotate_left
       ·go_simp
        try with_reducible rfl
       simp only [nz]
       refine pl_t 69 (?_) (by rfl) ?_ rfl ?_
       rotate_left
       ·go_simp
        try with_reducible rfl
       simp only [nz]
       refine pl_call (d := some 70) (by rfl) (by go_simp; first | done | exact ⟨rfl, rfl⟩ | with_reducible rfl) rfl ?_
       refine (cLk).mono ?_
       rintro _ w4 ⟨rfl, hb4⟩
       refine ⟨_, rfl, ?_⟩
       simp only [nz]
       refine pl_t 67 (?_) (by rfl) ?_ rfl ?_
       rotate_left
       ·go_simp
        try with_reducible rfl
       simp only [nz]
       refine pl_t 71 (?_) (by rfl) ?_ rfl ?_
       rotate_left
       ·go_simp
        try with_reducible rfl
       simp only [nz]
       refine pl_t 72 (?_) (by rfl) ?_ rfl ?_
       rotate_left
       ·go_simp
        try with_reducible rfl
       simp only [nz]
       refine pl_run (d := some 11) (v := .pointer (some ⟨w4.heap.size, 0, none⟩)) (w' := w4.alloc (.cells zp.toArray 44)) (by rfl) (ex_alloc rfl (hpr _)) rfl ?_
       simp only [nz]
       refine pl_store (w' := (w4.alloc (.cells zp.toArray 44)).setCells w4.heap.size 0 q) (by rfl) (ex_put (cs := q.toArray) rfl rfl rfl (there_newN _ _ _ (by simp [hpl, hql])) (by simpa using iq) (all_one hq1)) rfl ?_
       refine pl_t 12 (?_) (by rfl) ?_ rfl ?_
       rotate_left
       ·go_simp
        try with_reducible rfl
       simp only [nz]
       refine pl_nil ?_
       obtain ⟨rQ, hF, hF3, -⟩ := fresh_store w4 zp.toArray 44 q (by simp [hpl, hql])
       have hN5 := (HK.out.1.below hb4).below hF
       have hS5 : SetAt 44 (.bool true) w4 M i (fun k => ∃ x ∈ s2.way.take i, k = klP x) := HK.out.2.1.at (hb4.block _ HK.out.2.1.lt)
       have hS5 := hS5.at (hF.block _ hS5.lt)
       have hMl : M < w4.heap.size := Nat.lt_of_lt_of_le HK.out.2.1.lt hb4.size
       have hB5 := HK.out.2.2.trans (hb4.mono (by have := HK.out.2.2.size; rw [hB.out] at this; exact this))
       have hB5 := hB5.trans (hF.mono (by have := hB5.size; rw [hB.out] at this; exact this))
       obtain ⟨G, hG⟩ : ∃ D, w4.heap.size = D := ⟨_, rfl⟩
       rw [hG] at rQ hN5 hS5 hB5 hMl
       simp only [hG]
       obtain ⟨w5, hw5⟩ : ∃ W, (w4.alloc (.cells zp.toArray 44)).setCells G 0 q = W := ⟨_, rfl⟩
       rw [hw5] at rQ hN5 hS5 hB5 ⊢
       clear hw5 hG hF hF3 hb4 cLk HK
       have hlk := hS5.look1 lawPk Tryz.underlying66 (zeroBool w5) hkp HNO.out
       obtain ⟨w6, hrun, hm6, hg6⟩ := hS5.store lawPk Tryz.underlying66 hkp (by omega)
       have hB56 : Below B w5 w6 := ⟨hg6.os, hg6.tape, hg6.output, hg6.size, fun k hk => hg6.block k (by have := hB5.size; have := HMB.out; have := hS5.lt; omega) (fun e => by have := HMB.out; cases e; omega)⟩
       have HF : Hid (NetAt w6 B K2 P2 s2 0 ∧ SetAt 44 (.bool true) w6 M (i + 1) (fun k => ∃ x ∈ s2.way.take (i + 1), k = klP x) ∧ Below B w w6) := hide ⟨hN5.on hg6.size (fun b hb => hg6.block b (hN5.own_lt hb) (fun e => HNM.out b hb (by cases e; rfl))), hm6.same HTK.out, hB5.trans hB56⟩
       clear hN5 hS5 hB5 hm6 hg6 hB56 hMl hkp
       go_upto_region 20 with fail
       try simp only [Act.put]
       refine pl_begin ?_
       refine pl_t 73 (?_) (by rfl) ?_ rfl ?_
       rotate_left
       ·go_simp
        try with_reducible rfl
       simp only [nz]
       refine pl_t 74 (.bool false) (by rfl) (by go_simp) rfl ?_
       simp only [nz]
       refine pl_t 75 (?_) (by rfl) ?_ rfl ?_
       rotate_left
       ·go_simp
        try with_reducible rfl
       simp only [nz]
       refine pl_t 76 (?_) (by rfl) ?_ rfl ?_
       rotate_left
       ·go_simp
        try with_reducible rfl
       simp only [nz]
       refine pl_t 77 (.agg q.toArray) (by rfl) (ex_mid rfl rfl rQ Tryz.underlying44 rfl iq) rfl ?_
       simp only [nz]
       refine pl_t 78 (.bool false) (by rfl) (ex_look rfl rfl rfl hlk) rfl ?_
       simp only [nz]
       refine pl_t 79 (?_) (by rfl) ?_ rfl ?_
       rotate_left
       ·go_simp
        try with_reducible rfl
       simp only [nz]
       refine pl_nil ?_
       clear hlk
       go_upto_region 22 with fail
       try simp only [Act.put]
       refine pl_begin ?_
       refine pl_t 80 (?_) (by rfl) ?_ rfl ?_
       rotate_left
       ·go_simp
        try with_reducible rfl
       simp only [nz]
       refine pl_t 81 (.agg q.toArray) (by rfl) (ex_mid rfl rfl rQ Tryz.underlying44 rfl iq) rfl ?_
       simp only [nz]
       refine pl_store (w' := w6) (by rfl) (ex_mapUp rfl rfl rfl rfl hrun) rfl ?_
       refine pl_nil ?_
       clear hrun rQ
       go_wp2_with fail
       go_roundw
       case rel => exact ⟨i + 1, by omega, by go_num, HF⟩
       case measure => simp [intOf]; omega
      ·obtain rfl : i = m := by omega
       have HF : Hid (Ahead N B w (k + 1) wr) := hide ⟨P2, K2, s2, HP2.out, HK2.out, HK.out.1, HI2.out, HK.out.2.2⟩
       clear HK HM
       go_wp2_with fail
       go_roundw
       case rel => exact ⟨k + 1, by omega, by go_num, HF⟩
       case measure => simp [intOf]; omega
   ·obtain rfl : k = n := by omega
    obtain ⟨P1, K1, s1, -, -, -, -, hBw⟩ := HK.out
    clear HK
    go_upto_region 25 with fail
    try simp only [Act.put]
    refine pl_begin ?_
    refine pl_call (d := some 84) (by rfl) (by go_simp; first | done | exact ⟨rfl, rfl⟩ | with_reducible rfl) rfl ?_
    refine (lives26_any wr).mono ?_
    rintro _ wL ⟨rfl, hbL⟩
    refine ⟨_, rfl, ?_⟩
    simp only [nz]
    refine pl_t 2 (?_) (by rfl) ?_ rfl ?_
    rotate_left
    ·go_simp
     try with_reducible rfl
    simp only [nz]
    refine pl_nil ?_
    have HB := hide (hBw.trans (hbL.mono (by have := hBw.size; rw [hB.out] at this; exact this)))
    clear hBw hbL
    go_wp2_with fail
    go_ret
    exact ⟨rfl, HB.out⟩
end Go.Proofs.YtilbjeeabecfjaaGreat
namespace Go.Proofs.YtilbjeeabecfjaaGreat.netOnce
open Go.ChangeShapes Go.WideShapes Go.ChangeAt Go.RowKit
open Go.ChangeMaps (open_string shut_string)
set_option linter.unusedVariables false
set_option maxRecDepth 100000 in
theorem lifted (os : Os) (started : os.Started) (H : Type) (enc : TypeId × Value → H) :
  ReturnsInHanded {} Tryz.checked os 5 .any (Rows.netOnceSpec.pre6 enc Tryz.prog Tryz.f5 Rows.netOnceRow.domain false) (Rows.netOnceSpec.post enc Tryz.prog Tryz.f5 false true false false) := by
 refine returnsInHanded_of_change (C := Tryz.checked) own started (by kernel_rfl) Tryz.func5
  (ChangeSpec.witness6 (enc := enc) (C := Tryz.checked) false ⟨#[], #[.slice none 0 0], []⟩ 8 (by kernel_rfl) (by kernel_rfl) (by kernel_rfl) (by kernel_rfl)) ?_
 intro W base args ds gs before hval0 hW hcnd _
 have hval : ∀ (j : Nat) t v, Tryz.f5.params[j]? = some t → args[j]? = some v → Value.okWide Tryz.prog W .any base t v := hval0
 have hW' := hW
 obtain ⟨p, q, hA0, hV, rfl, hfz, hnd⟩ := hW
 have hA : DataW.TrodAll enc Tryz.prog W 0 (fun _ => true) true Tryz.f5.params.toList args.toList ds p := hA0
 rw [Tryz.params5] at hA hval
 obtain ⟨v0, vs0, d0, ds0, p0, q0, hargs, rfl, rfl, h0, r0⟩ := trodAll_cons hA
 obtain ⟨rfl, rfl, rfl⟩ := trodAll_nil r0
 obtain rfl : args = #[v0] := by cases args; simp_all
 obtain ⟨rfl, rfl⟩ := trodVars_none hV
 have k0 := h0
 have lt0 : ∀ x ∈ p0, x.block < W.heap.size := by obtain ⟨m, hm⟩ := k0; exact DataW.trod_lt m _ _ _ hm
 obtain ⟨fuel0, hf0⟩ := h0
 obtain ⟨x0, rfl, at0⟩ := open_acts (hval 0 22 v0 rfl rfl) hf0
 clear hA0 hval0
 refine (netOnce_walk x0 W at0).mono fun e W' ⟨he, bel⟩ => ?_
 subst he
 exact ⟨_, rfl, _, _, _, [], _, [], hW', trodAll_mk1 (shut_bool Tryz.underlying4 _), (trodAll_cons_mk (Below.trod laidOut (by kernel_rfl) (of_decide_eq_true (by kernel_rfl)) k0 bel lt0) trodAll_mk0), rfl, bel.frame _, fun h => by cases h⟩
theorem over : Rows.netOnceRow.holds Tryz.pinned (OpenSpec.ofChange Rows.netOnceSpec) :=
 OpenClaim.holds_of_wide 5 Tryz.f5 rfl rfl rfl rfl rfl rfl rfl ⟨rfl, rfl, rfl, rfl, rfl⟩ rfl rfl rfl rfl rfl (by kernel_rfl) Tryz.func5 (by kernel_rfl)
  (of_decide_eq_true (by kernel_rfl)) (by unfold Func.isWrapper; first | (rw [if_pos (by decide +kernel)]; kernel_rfl) | (rw [if_neg (by decide +kernel)]; exact ⟨rfl, rfl⟩))
  (fun os started H enc _ => lifted os started H enc)
end Go.Proofs.YtilbjeeabecfjaaGreat.netOnce
namespace Go.Proofs.YtilbjeeabecfjaaGreat
theorem netOnce_holds : Rows.NetOnceSaid := netOnce.over
#print axioms netOnce_holds
end Go.Proofs.YtilbjeeabecfjaaGreat
