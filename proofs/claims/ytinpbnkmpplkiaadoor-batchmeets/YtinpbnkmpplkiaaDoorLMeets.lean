/- batch.Meet batch.Same; slices.Equal at requests; the document's Meet The law BatchMeets: its walk. Whether any two batches have a request in common, and are the same, is as the document says. Conditions: none beyond the row's own; the card ties the tables 'starts' and 'roots' of package digest to the program's text (of the pruned copy of the project). -/
import Derived.Test.YtinpbnkmpplkiaaDoorJBb
import Derived.Test.YtinpbnkmpplkiaaDoorJBa
import Derived.Test.YtinpbnkmpplkiaaDoorFrameR
namespace Go.Proofs.YtinpbnkmpplkiaaDoor
open Go.RowKit
open Sha Tal
def anyIn (ps : List (Int × Int)) (rs : List Rq) : Bool := rs.any (fun r => decide (pk r ∈ ps))
theorem anyIn_true {ps : List (Int × Int)} {rs : List Rq} {k : Nat} (hk : k < rs.length) (h : pk rs[k] ∈ ps) : anyIn ps rs = true := by
  unfold anyIn
  rw [List.any_eq_true]
  exact ⟨rs[k], List.getElem_mem hk, decide_eq_true h⟩
theorem anyIn_false {ps : List (Int × Int)} {rs : List Rq} (h : ∀ j, (hj : j < rs.length) → pk rs[j] ∉ ps) : anyIn ps rs = false := by
  unfold anyIn
  rw [List.any_eq_false]
  intro r hr
  obtain ⟨j, hj, rfl⟩ := List.mem_iff_getElem.1 hr
  simpa using h j hj
theorem anyIn_congr {ps ps' : List (Int × Int)} (rs : List Rq) (h : ∀ x, x ∈ ps ↔ x ∈ ps') : anyIn ps rs = anyIn ps' rs := by
  unfold anyIn
  congr 1
  funext r
  exact decide_eq_decide.2 (h _)
def meetV (rs rs' : List Rq) : Bool := anyIn (rs.map pk) rs'
theorem meetV_symm (rs rs' : List Rq) : meetV rs rs' = meetV rs' rs := by
  rw [Bool.eq_iff_iff]
  unfold meetV anyIn
  simp only [List.any_eq_true, decide_eq_true_eq, List.mem_map]
  constructor
  · rintro ⟨r, hr, x, hx, he⟩; exact ⟨x, hx, r, hr, he.symm⟩
  · rintro ⟨r, hr, x, hx, he⟩; exact ⟨x, hx, r, hr, he.symm⟩
set_option maxRecDepth 100000 in
set_option maxHeartbeats 2000000 in
theorem indexF_any (M m : Nat) (ps : List (Int × Int)) (a : Option Addr) (cap : Nat) (rs : List Rq) (w : World) (hM : MetAt w M m ps) (h : ReqsAt w a rs) :
    Calls Tryd.prog 63 #[.slice a rs.length cap, .func (.func 38) #[.map (some M)] #[]] w fun e w' => ∃ z : Int, e = .returned (.int .i64 z) ∧ decide (0 ≤ z) = anyIn ps rs ∧ Below w.heap.size w w' := by
  have hml := h.1
  unfold maxLen at hml
  have hall := h.2.1
  go_enter Tryd.func63, Tryd.ntmps63
  go_wp2
  go_loopw [8] (fun iv wr => ∃ (k : Nat), k ≤ rs.length ∧ iv = .int .i64 (k : Int) ∧ Hid (∀ j, (hj : j < rs.length) → j < k → pk rs[j] ∉ ps) ∧ Below w.heap.size w wr) (fun iv _ => rs.length - (intOf iv).toNat)
  case atStart => exact ⟨0, by omega, rfl, hide (fun j _ hj => absurd hj (by omega)), Below.refl _ _⟩
  case round =>
    obtain ⟨k, hk, rfl, HD, hB⟩ := hrel
    by_cases hlt : k < rs.length
    · have k1 : (k : Int) < rs.length := by omega
      obtain ⟨b, off, rfl, hb, hre⟩ := (h.below hB).elem k hlt
      obtain ⟨r, hr⟩ : ∃ r, Hid (rs[k] = r) := ⟨_, hide rfl⟩
      have hok : r.ok := by rw [← hr.out]; exact hall _ (List.getElem_mem hlt)
      rw [hr.out] at hre
      have hiq := hok.isz
      have ch := fun w0 h0 => has_any M m ps r w0 h0 hok
      obtain ⟨u, hu⟩ : ∃ u, Hid (r.cells = u) := ⟨_, hide rfl⟩
      rw [hu.out] at hre hiq
      simp only [hu.out] at ch
      clear hu hok
      go_upto_region 4 with fail
      try simp only [Act.put]
      refine wp_region_list ?_
      refine wpList_step fun K hK => ?_
      go_simp
      refine hK _ _ ?_
      clear hK K
      refine wpList_step fun K hK => ?_
      go_simp
      refine hK _ _ ?_
      clear hK K
      refine wpList_step fun K hK => ?_
      go_simp
      refine hK _ _ ?_
      clear hK K
      refine wpList_step fun K hK => ?_
      go_simp
      refine hK _ _ ?_
      clear hK K
      refine wpList_load_mid rfl 60 _ rfl _ _ rfl u _ hre Tryd.underlying60 rfl hiq ?_
      go_wp2_with fail
      refine (ch wr (hM.below hB)).mono ?_
      rintro e w4 ⟨rfl, hw4⟩
      have hB4 := hB.trans (hw4.mono hB.size)
      clear ch hre hB
      by_cases hd : pk r ∈ ps
      · rw [decide_eq_true hd]
        have HZ : Hid (decide ((0 : Int) ≤ (k : Int)) = anyIn ps rs) := hide (by
          rw [decide_eq_true (by omega), anyIn_true hlt (by rw [hr.out]; exact hd)])
        clear hd HD hr
        go_wp2
        go_ret
        exact ⟨_, rfl, HZ.out, hB4⟩
      · rw [decide_eq_false hd]
        have HD' : Hid (∀ j, (hj : j < rs.length) → j < k + 1 → pk rs[j] ∉ ps) := hide (fun j hj hjk => by
          by_cases e : j = k
          · subst e; rw [hr.out]; exact hd
          · exact HD.out j hj (by omega))
        clear hd HD hr
        go_wp2
        go_roundw
        case rel => exact ⟨k + 1, by omega, by go_num, HD', hB4⟩
        case measure => simp [intOf]; omega
    · have HZ : Hid (decide ((0 : Int) ≤ -1) = anyIn ps rs) := hide (by
        rw [anyIn_false (fun j hj => HD.out j hj (by omega))]; rfl)
      have k1 : ¬ (k : Int) < rs.length := by omega
      clear HD
      go_wp2
      go_ret
      exact ⟨_, rfl, HZ.out, hB⟩
set_option maxRecDepth 100000 in
set_option maxHeartbeats 2000000 in
theorem containsF_any (M m : Nat) (ps : List (Int × Int)) (a : Option Addr) (cap : Nat) (rs : List Rq) (w : World) (hM : MetAt w M m ps) (h : ReqsAt w a rs) :
    Calls Tryd.prog 40 #[.slice a rs.length cap, .func (.func 38) #[.map (some M)] #[]] w fun e w' => e = .returned (.bool (anyIn ps rs)) ∧ Below w.heap.size w w' := by
  have ci := indexF_any M m ps a cap rs w hM h
  obtain ⟨B, hBe⟩ : ∃ B, Hid (anyIn ps rs = B) := ⟨_, hide rfl⟩
  rw [hBe.out] at ci ⊢
  go_enter Tryd.func40, Tryd.ntmps40
  go_wp2_with fail
  refine ci.mono ?_
  rintro e w1 ⟨z, rfl, hz, hw1⟩
  clear ci
  have HZ := hide hz
  clear hz
  go_wp2
  go_ret
  exact ⟨by show Ending.returned (.bool (decide (0 ≤ z))) = _; rw [HZ.out], hw1⟩
set_option maxRecDepth 100000 in
set_option maxHeartbeats 2000000 in
theorem meet_any (q : Bool) (a : Option Addr) (cap : Nat) (rs : List Rq) (q' : Bool) (a' : Option Addr) (cap' : Nat) (rs' : List Rq) (w : World) (h : ReqsAt w a rs) (h' : ReqsAt w a' rs') (hn : rs.length ≤ 200) :
    Calls Tryd.prog 18 #[batV q a rs.length cap, batV q' a' rs'.length cap'] w fun e w' => e = .returned (.bool (meetV rs rs')) ∧ Below w.heap.size w w' := by
  unfold batV
  have hall := h.2.1
  have hmm := @run_makeMap Tryd.prog
  have hB1 : Below w.heap.size w ((w.alloc (.cells #[.bool q, .slice a rs.length cap] 24)).alloc (.cells #[.bool q', .slice a' rs'.length cap'] 24)) := ((Below.refl _ _).alloc (Nat.le_refl _) _).alloc (by simp) _
  have hbx := BatBox.mk w q a rs.length cap
  have hby := BatBox.mk (w.alloc (.cells #[.bool q, .slice a rs.length cap] 24)) q' a' rs'.length cap'
  have hbx := hbx.below ((Below.refl _ _).alloc (Nat.le_refl _) (.cells #[.bool q', .slice a' rs'.length cap'] 24))
  rw [World.size_alloc] at hby
  obtain ⟨R, hR⟩ : ∃ R, Hid (meetV rs rs' = R) := ⟨_, hide rfl⟩
  rw [hR.out]
  go_enter Tryd.func18, Tryd.ntmps18
  go_upto_region 1 with fail
  go_name_world w1 hw1
  rw [hw1] at hB1 hbx hby
  clear hw1
  have h1 := h.below hB1
  have h1' := h'.below hB1
  have hm1 := MetAt.made w1
  have hBm : Below w1.heap.size w1 (w1.alloc (.map #[] 0)) := (Below.refl _ _).alloc (Nat.le_refl _) _
  have hbx2 := hbx.below hBm
  obtain ⟨hX, x0, x1, _⟩ := id hbx2
  obtain ⟨hY, y0, y1, _⟩ := id hby
  obtain ⟨X, hXe⟩ : ∃ X, Hid (w.heap.size = X) := ⟨_, hide rfl⟩
  obtain ⟨Y, hYe⟩ : ∃ Y, Hid (w.heap.size + 1 = Y) := ⟨_, hide rfl⟩
  rw [hYe.out] at hY y0 y1 ⊢
  rw [hXe.out] at hX x0 x1 ⊢
  clear hbx hby hbx2
  go_upto_region 2 with fail
  go_name_world w2 hw2
  rw [show w1.alloc (.map #[] 0) = w2 from hw2] at hm1 hBm x0 x1 hX
  clear hw2
  obtain ⟨M, hMe⟩ : ∃ M, Hid (w1.heap.size = M) := ⟨_, hide rfl⟩
  have hMl : w1.heap.size ≤ M := by rw [← hMe.out]; omega
  rw [hMe.out] at hm1 ⊢
  go_wp2
  go_loopw [12] (fun iv wr => ∃ (k : Nat) (ps : List (Int × Int)), k ≤ rs.length ∧ iv = .int .i64 (k : Int) ∧ Hid (MetAt wr M k ps) ∧ Hid (∀ x, x ∈ ps ↔ x ∈ (rs.take k).map pk) ∧ Below w1.heap.size w1 wr) (fun iv _ => rs.length - (intOf iv).toNat)
  case atStart => exact ⟨0, [], by omega, rfl, hide hm1, hide (by simp), hBm⟩
  case round =>
    clear x0 x1 y0 hm1 hBm hX
    obtain ⟨k, ps, hk, rfl, HM, HP, hB⟩ := hrel
    by_cases hlt : k < rs.length
    · have k1 : (k : Int) < rs.length := by omega
      obtain ⟨b, off, rfl, hb, hre⟩ := (h1.below hB).elem k hlt
      obtain ⟨r, hr⟩ : ∃ r, Hid (rs[k] = r) := ⟨_, hide rfl⟩
      have hok : r.ok := by rw [← hr.out]; exact hall _ (List.getElem_mem hlt)
      rw [hr.out] at hre
      have HP' : Hid (∀ x, x ∈ pk r :: ps ↔ x ∈ (rs.take (k + 1)).map pk) := hide (fun x => by
        rw [List.take_succ_eq_append_getElem hlt, hr.out, List.map_append, List.mem_append, List.mem_cons, HP.out x]
        simp only [List.map_cons, List.map_nil, List.mem_singleton]
        exact or_comm)
      clear hr HP
      have hiq := hok.isz
      have hiA := hok.iszA
      have hN := hok.blank wr
      have h1c := all_oneCell_toArray r.one
      have ca := fun w0 h0 => addP_any M k ps r w0 h0 (by omega) hok
      have F := fresh_store wr #[.int .i64 0, .int .i64 0, .string ⟨#[]⟩, .int .u8 0, .int .u8 0, .int .u8 0, .int .u8 0, .int .u8 0, .int .u8 0, .int .u8 0, .int .u8 0, .int .u8 0, .int .u8 0, .int .u8 0, .int .u8 0, .int .u8 0, .int .u8 0, .int .u8 0, .int .u8 0] 60 r.cells (by rw [hok.length]; rfl)
      obtain ⟨u, hu⟩ : ∃ u, Hid (r.cells = u) := ⟨_, hide rfl⟩
      rw [hu.out] at hre hiq hiA hN h1c F
      simp only [hu.out] at ca
      clear hu hok
      go_upto_region 4 with fail
      try simp only [Act.put]
      refine wp_region_list ?_
      refine wpList_step fun K hK => ?_
      go_simp
      refine hK _ _ ?_
      clear hK K
      refine wpList_load_mid rfl 60 _ rfl _ _ rfl u _ hre Tryd.underlying60 rfl hiq ?_
      go_upto_region 5 with (refine wpList_store_mid (op := ⟨none, .store 60 (.tmp 7) (.tmp 15), _, _, _, none⟩) rfl 60 _ _ rfl _ _ u.toArray rfl rfl hN hiA h1c ?_)
      go_name_world w3 hw3
      rw [show (wr.alloc (.cells #[.int .i64 0, .int .i64 0, .string ⟨#[]⟩, .int .u8 0, .int .u8 0, .int .u8 0, .int .u8 0, .int .u8 0, .int .u8 0, .int .u8 0, .int .u8 0, .int .u8 0, .int .u8 0, .int .u8 0, .int .u8 0, .int .u8 0, .int .u8 0, .int .u8 0, .int .u8 0] 60)).setCells wr.heap.size 0 u = w3 from hw3] at F
      clear hw3 hN
      obtain ⟨hR3, hF3, hz3, _⟩ := F
      have hB3 := hB.trans (hF3.mono hB.size)
      have HM3 := hide (HM.out.below hF3)
      clear HM hF3 hre hz3
      try simp only [Act.put]
      refine wp_region_list ?_
      refine wpList_step fun K hK => ?_
      go_simp
      refine hK _ _ ?_
      clear hK K
      refine wpList_load_mid rfl 60 _ rfl _ _ rfl u _ hR3 Tryd.underlying60 rfl hiq ?_
      go_wp2_with fail
      refine (ca w3 HM3.out).mono ?_
      rintro e w5 ⟨rfl, m5, hw5⟩
      have hB5 : Below w1.heap.size w1 w5 := hB3.grown hw5 hB3.size (fun j hj => by cases hj; exact hMl)
      have HM5 := hide m5
      clear m5 ca
      go_wp2
      go_roundw
      case rel => exact ⟨k + 1, _, by omega, by go_num, HM5, HP', hB5⟩
      case measure => simp [intOf]; omega
    · have k1 : ¬ (k : Int) < rs.length := by omega
      have hkl : k = rs.length := by omega
      have y1' := (hB.cell (p := ⟨Y, 1, none⟩) hY).trans y1
      have cc := containsF_any M k ps a' cap' rs' wr HM.out (h1'.below hB)
      have HE : Hid (anyIn ps rs' = R) := hide (by
        rw [← hR.out]
        unfold meetV
        refine anyIn_congr rs' (fun x => ?_)
        rw [HP.out x, hkl, List.take_length])
      rw [HE.out] at cc
      clear HM HP HE hkl y1
      go_wp2_with fail
      refine cc.mono ?_
      rintro e w6 ⟨rfl, hw6⟩
      have hB6 := hB.trans (hw6.mono hB.size)
      go_wp2
      go_ret
      exact ⟨rfl, hB1.trans (hB6.mono hB1.size)⟩
end Go.Proofs.YtinpbnkmpplkiaaDoor
namespace Go.Proofs.YtinpbnkmpplkiaaDoor
open Go.RowKit
open Sha Tal
def eqRs (rs rs' : List Rq) : Prop := rs = rs'
set_option maxRecDepth 100000 in
set_option maxHeartbeats 2000000 in
theorem equalR_any (a : Option Addr) (cap : Nat) (rs : List Rq) (a' : Option Addr) (cap' : Nat) (rs' : List Rq) (w : World) (h : ReqsAt w a rs) (h' : ReqsAt w a' rs') :
    Calls Tryd.prog 41 #[.slice a rs.length cap, .slice a' rs'.length cap'] w fun e w' => ((e = .returned (.bool true) ∧ eqRs rs rs') ∨ (e = .returned (.bool false) ∧ ¬ eqRs rs rs')) ∧ Below w.heap.size w w' := by
  have hml := h.1
  have hml' := h'.1
  unfold maxLen at hml hml'
  have hall := h.2.1
  have hall' := h'.2.1
  by_cases hlen : rs.length = rs'.length
  rotate_left
  · have e0 : ((rs.length : Int) == rs'.length) = false := by simp; omega
    have HL := hide hlen
    clear hlen
    go_enter Tryd.func41, Tryd.ntmps41
    go_wp2
    go_ret
    exact ⟨.inr ⟨rfl, fun hh => HL.out (by rw [show rs = rs' from hh])⟩, Below.refl _ _⟩
  · have e0 : ((rs.length : Int) == rs'.length) = true := by simp; omega
    have HL := hide hlen
    clear hlen
    go_enter Tryd.func41, Tryd.ntmps41
    go_wp2
    go_loopw [13] (fun iv wr => ∃ k : Nat, k ≤ rs.length ∧ iv = .int .i64 (k : Int) ∧ Hid (∀ j (hj : j < rs.length) (hj' : j < rs'.length), j < k → rs[j] = rs'[j]) ∧ Below w.heap.size w wr) (fun iv _ => rs.length - (intOf iv).toNat)
    case atStart => exact ⟨0, by omega, rfl, hide (fun j _ _ hj => absurd hj (by omega)), Below.refl _ _⟩
    case round =>
      clear e0
      obtain ⟨k, hk, rfl, HM, hB⟩ := hrel
      by_cases hlt : k < rs.length
      · have k1 : (k : Int) < rs.length := by omega
        have hlt' : k < rs'.length := by have := HL.out; omega
        have k1' : (k : Int) < rs'.length := by omega
        obtain ⟨b, off, rfl, hb, hre⟩ := (h.below hB).elem k hlt
        obtain ⟨b', off', rfl, hb', hre'⟩ := (h'.below hB).elem k hlt'
        obtain ⟨r, hr⟩ : ∃ r, Hid (rs[k] = r) := ⟨_, hide rfl⟩
        obtain ⟨r', hr'⟩ : ∃ r', Hid (rs'[k] = r') := ⟨_, hide rfl⟩
        have hok : r.ok := by rw [← hr.out]; exact hall _ (List.getElem_mem hlt)
        have hok' : r'.ok := by rw [← hr'.out]; exact hall' _ (List.getElem_mem hlt')
        rw [hr.out] at hre
        rw [hr'.out] at hre'
        have HM' : Hid (r = r' → ∀ j (hj : j < rs.length) (hj' : j < rs'.length), j < k + 1 → rs[j] = rs'[j]) := hide (fun hp j hj hj' hjk => by
          by_cases e : j = k
          · subst e; rw [hr.out, hr'.out]; exact hp
          · exact HM.out j hj hj' (by omega))
        have HN' : Hid (r ≠ r' → rs ≠ rs') := hide (fun hp he => by
          apply hp
          rw [← hr.out, ← hr'.out]
          subst he
          rfl)
        clear hr hr' HM
        have hiu := hok.isz
        have hiu' := hok'.isz
        have hne := fun w0 => neqReq r r' hok hok' w0
        obtain ⟨u, hu⟩ : ∃ u, Hid (r.cells = u) := ⟨_, hide rfl⟩
        obtain ⟨u', hu'⟩ : ∃ u', Hid (r'.cells = u') := ⟨_, hide rfl⟩
        rw [hu.out] at hre hiu
        rw [hu'.out] at hre' hiu'
        simp only [hu.out, hu'.out] at hne
        clear hu hu' hok hok'
        by_cases hrr : r = r'
        · have e1 : rqB r r' = true := rqB_iff.2 hrr
          rw [e1] at hne
          simp only [Bool.not_true] at hne
          have HR := hide hrr
          clear hrr e1
          go_upto_region 6 with fail
          obtain ⟨w5, hw5⟩ : ∃ w5, wr.drew = w5 := ⟨_, rfl⟩
          have hB5 : Below w.heap.size w w5 := by rw [← hw5]; exact hB.drew
          have hre5 : w5.rangeAt b (off + k * 19) u := by rw [← hw5]; exact (World.rangeAt_drew _ _ _ _).2 hre
          have hre5' : w5.rangeAt b' (off' + k * 19) u' := by rw [← hw5]; exact (World.rangeAt_drew _ _ _ _).2 hre'
          have hb5 : b < w5.heap.size := by rw [← hw5]; exact hb
          have hb5' : b' < w5.heap.size := by rw [← hw5]; exact hb'
          refine hs_begin (S := (Below w5.heap.size w5)) 9 rfl (by kernel_rfl) ?_
          rw [hw5]
          clear hw5 hB hre hre' hb hb'
          have hS : (Below w5.heap.size w5) w5 := Below.refl _ _
          refine hs_take (i := 0) (d := some 16) (v := ?_) rfl (by kernel_rfl) (by kernel_rfl) (by kernel_rfl) (by rfl) ?_ hS rfl ?_
          rotate_left
          · intro w' hw
            go_simp
            try with_reducible rfl
          simp only [Act.put, List.setIfInBounds_toArray, List.set_cons_zero, List.set_cons_succ]
          refine hs_take (i := 1) (d := some 17) (v := ?_) rfl (by kernel_rfl) (by kernel_rfl) (by kernel_rfl) (by rfl) ?_ hS rfl ?_
          rotate_left
          · intro w' hw
            go_simp
            try with_reducible rfl
          simp only [Act.put, List.setIfInBounds_toArray, List.set_cons_zero, List.set_cons_succ]
          refine hs_take (i := 2) (d := some 18) (v := ?_) rfl (by kernel_rfl) (by kernel_rfl) (by kernel_rfl) (by rfl) ?_ hS rfl ?_
          rotate_left
          · intro w' hw
            go_simp
            try with_reducible rfl
          simp only [Act.put, List.setIfInBounds_toArray, List.set_cons_zero, List.set_cons_succ]
          refine hs_take (i := 3) (d := some 19) (v := .agg u.toArray) rfl (by kernel_rfl) (by kernel_rfl) (by kernel_rfl) (by rfl) (fun w' hw => exec_load rfl rfl (run_loadVar_mid (P := Tryd.prog) w' b (off + k * 19) 60 u _ (range_below hre5 hw hb5) Tryd.underlying60 rfl hiu)) hS rfl ?_
          simp only [Act.put, List.setIfInBounds_toArray, List.set_cons_zero, List.set_cons_succ]
          refine hs_take (i := 4) (d := some 20) (v := ?_) rfl (by kernel_rfl) (by kernel_rfl) (by kernel_rfl) (by rfl) ?_ hS rfl ?_
          rotate_left
          · intro w' hw
            go_simp
            try with_reducible rfl
          simp only [Act.put, List.setIfInBounds_toArray, List.set_cons_zero, List.set_cons_succ]
          refine hs_take (i := 5) (d := some 21) (v := ?_) rfl (by kernel_rfl) (by kernel_rfl) (by kernel_rfl) (by rfl) ?_ hS rfl ?_
          rotate_left
          · intro w' hw
            go_simp
            try with_reducible rfl
          simp only [Act.put, List.setIfInBounds_toArray, List.set_cons_zero, List.set_cons_succ]
          refine hs_take (i := 6) (d := some 22) (v := ?_) rfl (by kernel_rfl) (by kernel_rfl) (by kernel_rfl) (by rfl) ?_ hS rfl ?_
          rotate_left
          · intro w' hw
            go_simp
            try with_reducible rfl
          simp only [Act.put, List.setIfInBounds_toArray, List.set_cons_zero, List.set_cons_succ]
          refine hs_take (i := 7) (d := some 23) (v := .agg u'.toArray) rfl (by kernel_rfl) (by kernel_rfl) (by kernel_rfl) (by rfl) (fun w' hw => exec_load rfl rfl (run_loadVar_mid (P := Tryd.prog) w' b' (off' + k * 19) 60 u' _ (range_below hre5' hw hb5') Tryd.underlying60 rfl hiu')) hS rfl ?_
          simp only [Act.put, List.setIfInBounds_toArray, List.set_cons_zero, List.set_cons_succ]
          refine hs_take (i := 8) (d := some 24) (v := .bool false) rfl (by kernel_rfl) (by kernel_rfl) (by kernel_rfl) (by rfl) (fun w' hw => by have hc := hne w'; go_simp) hS rfl ?_
          simp only [Act.put, List.setIfInBounds_toArray, List.set_cons_zero, List.set_cons_succ]
          refine hs_done (by kernel_rfl) ?_
          go_wp2
          go_roundw
          case rel => exact ⟨k + 1, by omega, by go_num, hide (HM'.out HR.out), hB5⟩
          case measure => simp [intOf]; omega
        · have e1 : rqB r r' = false := by
            cases hx : rqB r r'
            · rfl
            · exact absurd (rqB_iff.1 hx) hrr
          rw [e1] at hne
          simp only [Bool.not_false] at hne
          have HR := hide hrr
          clear hrr e1
          go_upto_region 6 with fail
          obtain ⟨w5, hw5⟩ : ∃ w5, wr.drew = w5 := ⟨_, rfl⟩
          have hB5 : Below w.heap.size w w5 := by rw [← hw5]; exact hB.drew
          have hre5 : w5.rangeAt b (off + k * 19) u := by rw [← hw5]; exact (World.rangeAt_drew _ _ _ _).2 hre
          have hre5' : w5.rangeAt b' (off' + k * 19) u' := by rw [← hw5]; exact (World.rangeAt_drew _ _ _ _).2 hre'
          have hb5 : b < w5.heap.size := by rw [← hw5]; exact hb
          have hb5' : b' < w5.heap.size := by rw [← hw5]; exact hb'
          refine hs_begin (S := (Below w5.heap.size w5)) 9 rfl (by kernel_rfl) ?_
          rw [hw5]
          clear hw5 hB hre hre' hb hb'
          have hS : (Below w5.heap.size w5) w5 := Below.refl _ _
          refine hs_take (i := 0) (d := some 16) (v := ?_) rfl (by kernel_rfl) (by kernel_rfl) (by kernel_rfl) (by rfl) ?_ hS rfl ?_
          rotate_left
          · intro w' hw
            go_simp
            try with_reducible rfl
          simp only [Act.put, List.setIfInBounds_toArray, List.set_cons_zero, List.set_cons_succ]
          refine hs_take (i := 1) (d := some 17) (v := ?_) rfl (by kernel_rfl) (by kernel_rfl) (by kernel_rfl) (by rfl) ?_ hS rfl ?_
          rotate_left
          · intro w' hw
            go_simp
            try with_reducible rfl
          simp only [Act.put, List.setIfInBounds_toArray, List.set_cons_zero, List.set_cons_succ]
          refine hs_take (i := 2) (d := some 18) (v := ?_) rfl (by kernel_rfl) (by kernel_rfl) (by kernel_rfl) (by rfl) ?_ hS rfl ?_
          rotate_left
          · intro w' hw
            go_simp
            try with_reducible rfl
          simp only [Act.put, List.setIfInBounds_toArray, List.set_cons_zero, List.set_cons_succ]
          refine hs_take (i := 3) (d := some 19) (v := .agg u.toArray) rfl (by kernel_rfl) (by kernel_rfl) (by kernel_rfl) (by rfl) (fun w' hw => exec_load rfl rfl (run_loadVar_mid (P := Tryd.prog) w' b (off + k * 19) 60 u _ (range_below hre5 hw hb5) Tryd.underlying60 rfl hiu)) hS rfl ?_
          simp only [Act.put, List.setIfInBounds_toArray, List.set_cons_zero, List.set_cons_succ]
          refine hs_take (i := 4) (d := some 20) (v := ?_) rfl (by kernel_rfl) (by kernel_rfl) (by kernel_rfl) (by rfl) ?_ hS rfl ?_
          rotate_left
          · intro w' hw
            go_simp
            try with_reducible rfl
          simp only [Act.put, List.setIfInBounds_toArray, List.set_cons_zero, List.set_cons_succ]
          refine hs_take (i := 5) (d := some 21) (v := ?_) rfl (by kernel_rfl) (by kernel_rfl) (by kernel_rfl) (by rfl) ?_ hS rfl ?_
          rotate_left
          · intro w' hw
            go_simp
            try with_reducible rfl
          simp only [Act.put, List.setIfInBounds_toArray, List.set_cons_zero, List.set_cons_succ]
          refine hs_take (i := 6) (d := some 22) (v := ?_) rfl (by kernel_rfl) (by kernel_rfl) (by kernel_rfl) (by rfl) ?_ hS rfl ?_
          rotate_left
          · intro w' hw
            go_simp
            try with_reducible rfl
          simp only [Act.put, List.setIfInBounds_toArray, List.set_cons_zero, List.set_cons_succ]
          refine hs_take (i := 7) (d := some 23) (v := .agg u'.toArray) rfl (by kernel_rfl) (by kernel_rfl) (by kernel_rfl) (by rfl) (fun w' hw => exec_load rfl rfl (run_loadVar_mid (P := Tryd.prog) w' b' (off' + k * 19) 60 u' _ (range_below hre5' hw hb5') Tryd.underlying60 rfl hiu')) hS rfl ?_
          simp only [Act.put, List.setIfInBounds_toArray, List.set_cons_zero, List.set_cons_succ]
          refine hs_take (i := 8) (d := some 24) (v := .bool true) rfl (by kernel_rfl) (by kernel_rfl) (by kernel_rfl) (by rfl) (fun w' hw => by have hc := hne w'; go_simp) hS rfl ?_
          simp only [Act.put, List.setIfInBounds_toArray, List.set_cons_zero, List.set_cons_succ]
          refine hs_done (by kernel_rfl) ?_
          go_wp2
          go_ret
          exact ⟨.inr ⟨rfl, fun hh => HN'.out HR.out hh⟩, hB5⟩
      · have k1 : ¬ (k : Int) < rs.length := by omega
        have HE : Hid (eqRs rs rs') := hide (List.ext_getElem HL.out (fun j hj hj' => HM.out j hj hj' (by omega)))
        clear HM
        go_wp2
        go_ret
        exact ⟨.inl ⟨rfl, HE.out⟩, hB⟩
set_option maxRecDepth 100000 in
set_option maxHeartbeats 2000000 in
theorem bsame_any (q : Bool) (a : Option Addr) (cap : Nat) (rs : List Rq) (q' : Bool) (a' : Option Addr) (cap' : Nat) (rs' : List Rq) (w : World) (h : ReqsAt w a rs) (h' : ReqsAt w a' rs') :
    Calls Tryd.prog 20 #[batV q a rs.length cap, batV q' a' rs'.length cap'] w fun e w' => ((e = .returned (.bool true) ∧ eqBat q rs q' rs') ∨ (e = .returned (.bool false) ∧ ¬ eqBat q rs q' rs')) ∧ Below w.heap.size w w' := by
  have ce := fun w0 h0 h1 => equalR_any a cap rs a' cap' rs' w0 h0 h1
  unfold batV
  have hB1 : Below w.heap.size w ((w.alloc (.cells #[.bool q, .slice a rs.length cap] 24)).alloc (.cells #[.bool q', .slice a' rs'.length cap'] 24)) := ((Below.refl _ _).alloc (Nat.le_refl _) _).alloc (by simp) _
  have hbx := BatBox.mk w q a rs.length cap
  have hby := BatBox.mk (w.alloc (.cells #[.bool q, .slice a rs.length cap] 24)) q' a' rs'.length cap'
  have hbx := hbx.below ((Below.refl _ _).alloc (Nat.le_refl _) (.cells #[.bool q', .slice a' rs'.length cap'] 24))
  rw [World.size_alloc] at hby
  go_enter Tryd.func20, Tryd.ntmps20
  go_upto_region 1 with fail
  go_name_world w1 hw1
  rw [hw1] at hB1 hbx hby
  clear hw1
  obtain ⟨hX, c0, c1, _⟩ := hbx
  obtain ⟨hY, d0, d1, _⟩ := hby
  obtain ⟨X, hXe⟩ : ∃ X, Hid (w.heap.size = X) := ⟨_, hide rfl⟩
  obtain ⟨Y, hYe⟩ : ∃ Y, Hid (w.heap.size + 1 = Y) := ⟨_, hide rfl⟩
  rw [hYe.out] at hY d0 d1 ⊢
  rw [hXe.out] at hX c0 c1 ⊢
  have h1 := h.below hB1
  have h1' := h'.below hB1
  cases q <;> cases q'
  case false.true | true.false =>
    clear ce
    go_wp2
    go_ret
    exact ⟨.inr ⟨rfl, fun hh => by cases hh.1⟩, hB1⟩
  all_goals
    go_wp2_with fail
    refine (ce w1 h1 h1').mono ?_
    rintro e w2 ⟨hcase, hw2⟩
    have hB2 := hB1.trans (hw2.mono hB1.size)
    clear ce c0 c1 d0 d1
    rcases hcase with ⟨rfl, he⟩ | ⟨rfl, he⟩
    · have HE := hide he
      clear he
      go_wp2
      go_ret
      exact ⟨.inl ⟨rfl, ⟨rfl, HE.out⟩⟩, hB2⟩
    · have HE := hide he
      clear he
      go_wp2
      go_ret
      exact ⟨.inr ⟨rfl, fun hh => HE.out hh.2⟩, hB2⟩
set_option maxRecDepth 100000 in
set_option maxHeartbeats 4000000 in
theorem refMeet_any (q : Bool) (a : Option Addr) (cap : Nat) (rs : List Rq) (q' : Bool) (a' : Option Addr) (cap' : Nat) (rs' : List Rq) (w : World) (h : ReqsAt w a rs) (h' : ReqsAt w a' rs') :
    Calls Tryd.prog 19 #[batV q a rs.length cap, batV q' a' rs'.length cap'] w fun e w' => e = .returned (.bool (meetV rs rs')) ∧ Below w.heap.size w w' := by
  unfold batV
  have hml := h.1
  have hml' := h'.1
  unfold maxLen at hml hml'
  have hB1 : Below w.heap.size w ((w.alloc (.cells #[.bool q, .slice a rs.length cap] 24)).alloc (.cells #[.bool q', .slice a' rs'.length cap'] 24)) := ((Below.refl _ _).alloc (Nat.le_refl _) _).alloc (by simp) _
  have hbx := BatBox.mk w q a rs.length cap
  have hby := BatBox.mk (w.alloc (.cells #[.bool q, .slice a rs.length cap] 24)) q' a' rs'.length cap'
  have hbx := hbx.below ((Below.refl _ _).alloc (Nat.le_refl _) (.cells #[.bool q', .slice a' rs'.length cap'] 24))
  rw [World.size_alloc] at hby
  obtain ⟨R, hR⟩ : ∃ R, Hid (meetV rs rs' = R) := ⟨_, hide rfl⟩
  rw [hR.out]
  have HT : Hid (∀ k j, (hk : k < rs.length) → (hj : j < rs'.length) → pk rs[k] = pk rs'[j] → R = true) := hide (fun k j hk hj he => by
    rw [← hR.out]
    exact anyIn_true hj (by rw [← he]; exact List.mem_map.2 ⟨_, List.getElem_mem hk, rfl⟩))
  have HF : Hid ((∀ k j, (hk : k < rs.length) → (hj : j < rs'.length) → pk rs[k] ≠ pk rs'[j]) → R = false) := hide (fun hh => by
    rw [← hR.out]
    refine anyIn_false (fun j hj hm => ?_)
    obtain ⟨x, hx, he⟩ := List.mem_map.1 hm
    obtain ⟨k, hk, rfl⟩ := List.mem_iff_getElem.1 hx
    exact hh k j hk hj he)
  clear hR
  go_enter Tryd.func19, Tryd.ntmps19
  go_upto_region 1 with fail
  go_name_world w1 hw1
  rw [hw1] at hB1 hbx hby
  clear hw1
  obtain ⟨hX, _, x1, _⟩ := hbx
  obtain ⟨hY, _, y1, _⟩ := hby
  obtain ⟨X, hXe⟩ : ∃ X, Hid (w.heap.size = X) := ⟨_, hide rfl⟩
  obtain ⟨Y, hYe⟩ : ∃ Y, Hid (w.heap.size + 1 = Y) := ⟨_, hide rfl⟩
  rw [hYe.out] at hY y1 ⊢
  rw [hXe.out] at hX x1 ⊢
  have h1 := h.below hB1
  have h1' := h'.below hB1
  go_wp2
  go_loopw [5] (fun iv wr => ∃ (k : Nat), k ≤ rs.length ∧ iv = .int .i64 (k : Int) ∧ Hid (∀ i j, (hi : i < rs.length) → (hj : j < rs'.length) → i < k → pk rs[i] ≠ pk rs'[j]) ∧ Below w1.heap.size w1 wr) (fun iv _ => rs.length - (intOf iv).toNat)
  case atStart => exact ⟨0, by omega, rfl, hide (fun i j _ _ hi => absurd hi (by omega)), Below.refl _ _⟩
  case round =>
    obtain ⟨k, hk, rfl, HD, hB⟩ := hrel
    obtain ⟨wo, rfl⟩ : ∃ wo, wo = wr := ⟨_, rfl⟩
    have xq := (hB.cell (p := ⟨X, 1, none⟩) hX).trans x1
    by_cases hlt : k < rs.length
    · have k1 : (k : Int) < rs.length := by omega
      obtain ⟨b, off, rfl, hb, hre⟩ := h1.elem k hlt
      obtain ⟨c, hc⟩ : ∃ c, Hid (rs[k].c = c) := ⟨_, hide rfl⟩
      obtain ⟨n, hn⟩ : ∃ n, Hid (rs[k].n = n) := ⟨_, hide rfl⟩
      have e0 : w1.cell? ⟨b, off + k * 19, none⟩ = some (.int .i64 c) := by rw [← hc.out]; exact hre 0 _ rfl
      have e1 : w1.cell? ⟨b, off + k * 19 + 1, none⟩ = some (.int .i64 n) := by rw [← hn.out]; exact hre 1 _ rfl
      clear hre
      go_wp2
      go_loopw [6] (fun jv wq => ∃ j : Nat, j ≤ rs'.length ∧ jv = .int .i64 (j : Int) ∧ Hid (∀ i, (hi : i < rs'.length) → i < j → pk rs'[i] ≠ (c, n)) ∧ Below w1.heap.size w1 wq) (fun jv _ => rs'.length - (intOf jv).toNat)
      case atStart => exact ⟨0, by omega, rfl, hide (fun i _ hi => absurd hi (by omega)), hB⟩
      case round =>
        clear xq
        obtain ⟨j, hj, rfl, HM, hbq⟩ := hrel
        clear hB
        have xq := (hbq.cell (p := ⟨X, 1, none⟩) hX).trans x1
        have yq := (hbq.cell (p := ⟨Y, 1, none⟩) hY).trans y1
        by_cases hjl : j < rs'.length
        · have j1 : (j : Int) < rs'.length := by omega
          obtain ⟨b', off', rfl, hb', hre'⟩ := h1'.elem j hjl
          obtain ⟨c', hc'⟩ : ∃ c, Hid (rs'[j].c = c) := ⟨_, hide rfl⟩
          obtain ⟨n', hn'⟩ : ∃ n, Hid (rs'[j].n = n) := ⟨_, hide rfl⟩
          have f0 : w1.cell? ⟨b', off' + j * 19, none⟩ = some (.int .i64 c') := by rw [← hc'.out]; exact hre' 0 _ rfl
          have f1 : w1.cell? ⟨b', off' + j * 19 + 1, none⟩ = some (.int .i64 n') := by rw [← hn'.out]; exact hre' 1 _ rfl
          have HE : Hid (pk rs'[j] = (c', n')) := hide (by rw [← hc'.out, ← hn'.out]; rfl)
          have HG : Hid (c = c' → n = n' → R = true) := hide (fun g1 g2 => HT.out k j hlt hjl (by
            show (rs[k].c, rs[k].n) = (rs'[j].c, rs'[j].n)
            rw [hc'.out, hn'.out, hc.out, hn.out, g1, g2]))
          clear hre' hc' hn'
          by_cases hcc : c = c'
          · by_cases hnn : n = n'
            · have HZ : Hid (R = true) := hide (HG.out hcc hnn)
              have hb1 : (c == c') = true := by simpa using hcc
              have hb2 : (n == n') = true := by simpa using hnn
              clear HE HG HM HD hcc hnn
              go_upto_region 7 with fail
              obtain ⟨w5, hw5⟩ : ∃ w5, wr.drew = w5 := ⟨_, rfl⟩
              have hB5 : Below w1.heap.size w1 w5 := by rw [← hw5]; exact hbq.drew
              have bx : ∀ w', Below w5.heap.size w5 w' → w'.cell? ⟨X, 1, none⟩ = some (.slice (some ⟨b, off, none⟩) rs.length cap) := fun w' hw' => ((hB5.trans (hw'.mono hB5.size)).cell (p := ⟨X, 1, none⟩) hX).trans x1
              have by' : ∀ w', Below w5.heap.size w5 w' → w'.cell? ⟨Y, 1, none⟩ = some (.slice (some ⟨b', off', none⟩) rs'.length cap') := fun w' hw' => ((hB5.trans (hw'.mono hB5.size)).cell (p := ⟨Y, 1, none⟩) hY).trans y1
              have c1 : ∀ w', Below w5.heap.size w5 w' → w'.cell? ⟨b, off + k * 19, none⟩ = some (.int .i64 c) := fun w' hw' => ((hB5.trans (hw'.mono hB5.size)).cell (p := ⟨b, off + k * 19, none⟩) hb).trans e0
              have c2 : ∀ w', Below w5.heap.size w5 w' → w'.cell? ⟨b, off + k * 19 + 1, none⟩ = some (.int .i64 n) := fun w' hw' => ((hB5.trans (hw'.mono hB5.size)).cell (p := ⟨b, off + k * 19 + 1, none⟩) hb).trans e1
              have d1 : ∀ w', Below w5.heap.size w5 w' → w'.cell? ⟨b', off' + j * 19, none⟩ = some (.int .i64 c') := fun w' hw' => ((hB5.trans (hw'.mono hB5.size)).cell (p := ⟨b', off' + j * 19, none⟩) hb').trans f0
              have d2 : ∀ w', Below w5.heap.size w5 w' → w'.cell? ⟨b', off' + j * 19 + 1, none⟩ = some (.int .i64 n') := fun w' hw' => ((hB5.trans (hw'.mono hB5.size)).cell (p := ⟨b', off' + j * 19 + 1, none⟩) hb').trans f1
              refine hs_begin (S := (Below w5.heap.size w5)) 28 rfl (by kernel_rfl) ?_
              rw [hw5]
              clear hw5 hbq xq yq
              have hS : (Below w5.heap.size w5) w5 := Below.refl _ _
              refine hs_take (i := 0) (d := some 21) (v := ?_) rfl (by kernel_rfl) (by kernel_rfl) (by kernel_rfl) (by rfl) ?_ hS rfl ?_
              rotate_left
              · intro w' hw
                go_simp
                try with_reducible rfl
              simp only [Act.put, List.setIfInBounds_toArray, List.set_cons_zero, List.set_cons_succ]
              refine hs_take (i := 1) (d := some 22) (v := ?_) rfl (by kernel_rfl) (by kernel_rfl) (by kernel_rfl) (by rfl) ?_ hS rfl ?_
              rotate_left
              · intro w' hw
                have hc := bx w' hw
                go_simp
                try with_reducible rfl
              simp only [Act.put, List.setIfInBounds_toArray, List.set_cons_zero, List.set_cons_succ]
              refine hs_take (i := 2) (d := some 23) (v := ?_) rfl (by kernel_rfl) (by kernel_rfl) (by kernel_rfl) (by rfl) ?_ hS rfl ?_
              rotate_left
              · intro w' hw
                go_simp
                try with_reducible rfl
              simp only [Act.put, List.setIfInBounds_toArray, List.set_cons_zero, List.set_cons_succ]
              refine hs_take (i := 3) (d := some 24) (v := ?_) rfl (by kernel_rfl) (by kernel_rfl) (by kernel_rfl) (by rfl) ?_ hS rfl ?_
              rotate_left
              · intro w' hw
                go_simp
                try with_reducible rfl
              simp only [Act.put, List.setIfInBounds_toArray, List.set_cons_zero, List.set_cons_succ]
              refine hs_take (i := 4) (d := some 25) (v := ?_) rfl (by kernel_rfl) (by kernel_rfl) (by kernel_rfl) (by rfl) ?_ hS rfl ?_
              rotate_left
              · intro w' hw
                go_simp
                try with_reducible rfl
              simp only [Act.put, List.setIfInBounds_toArray, List.set_cons_zero, List.set_cons_succ]
              refine hs_take (i := 5) (d := some 26) (v := ?_) rfl (by kernel_rfl) (by kernel_rfl) (by kernel_rfl) (by rfl) ?_ hS rfl ?_
              rotate_left
              · intro w' hw
                have hc := c1 w' hw
                go_simp
                try with_reducible rfl
              simp only [Act.put, List.setIfInBounds_toArray, List.set_cons_zero, List.set_cons_succ]
              refine hs_take (i := 6) (d := some 27) (v := ?_) rfl (by kernel_rfl) (by kernel_rfl) (by kernel_rfl) (by rfl) ?_ hS rfl ?_
              rotate_left
              · intro w' hw
                go_simp
                try with_reducible rfl
              simp only [Act.put, List.setIfInBounds_toArray, List.set_cons_zero, List.set_cons_succ]
              refine hs_take (i := 7) (d := some 28) (v := ?_) rfl (by kernel_rfl) (by kernel_rfl) (by kernel_rfl) (by rfl) ?_ hS rfl ?_
              rotate_left
              · intro w' hw
                have hc := by' w' hw
                go_simp
                try with_reducible rfl
              simp only [Act.put, List.setIfInBounds_toArray, List.set_cons_zero, List.set_cons_succ]
              refine hs_take (i := 8) (d := some 29) (v := ?_) rfl (by kernel_rfl) (by kernel_rfl) (by kernel_rfl) (by rfl) ?_ hS rfl ?_
              rotate_left
              · intro w' hw
                go_simp
                try with_reducible rfl
              simp only [Act.put, List.setIfInBounds_toArray, List.set_cons_zero, List.set_cons_succ]
              refine hs_take (i := 9) (d := some 30) (v := ?_) rfl (by kernel_rfl) (by kernel_rfl) (by kernel_rfl) (by rfl) ?_ hS rfl ?_
              rotate_left
              · intro w' hw
                go_simp
                try with_reducible rfl
              simp only [Act.put, List.setIfInBounds_toArray, List.set_cons_zero, List.set_cons_succ]
              refine hs_take (i := 10) (d := some 31) (v := ?_) rfl (by kernel_rfl) (by kernel_rfl) (by kernel_rfl) (by rfl) ?_ hS rfl ?_
              rotate_left
              · intro w' hw
                go_simp
                try with_reducible rfl
              simp only [Act.put, List.setIfInBounds_toArray, List.set_cons_zero, List.set_cons_succ]
              refine hs_take (i := 11) (d := some 32) (v := ?_) rfl (by kernel_rfl) (by kernel_rfl) (by kernel_rfl) (by rfl) ?_ hS rfl ?_
              rotate_left
              · intro w' hw
                have hc := d1 w' hw
                go_simp
                try with_reducible rfl
              simp only [Act.put, List.setIfInBounds_toArray, List.set_cons_zero, List.set_cons_succ]
              refine hs_take (i := 12) (d := some 33) (v := .bool true) rfl (by kernel_rfl) (by kernel_rfl) (by kernel_rfl) (by rfl) (fun w' hw => by go_simp) hS rfl ?_
              simp only [Act.put, List.setIfInBounds_toArray, List.set_cons_zero, List.set_cons_succ]
              refine hs_take (i := 13) (d := some 34) (v := ?_) rfl (by kernel_rfl) (by kernel_rfl) (by kernel_rfl) (by rfl) ?_ hS rfl ?_
              rotate_left
              · intro w' hw
                go_simp
                try with_reducible rfl
              simp only [Act.put, List.setIfInBounds_toArray, List.set_cons_zero, List.set_cons_succ]
              refine hs_take (i := 14) (d := some 35) (v := ?_) rfl (by kernel_rfl) (by kernel_rfl) (by kernel_rfl) (by rfl) ?_ hS rfl ?_
              rotate_left
              · intro w' hw
                go_simp
                try with_reducible rfl
              simp only [Act.put, List.setIfInBounds_toArray, List.set_cons_zero, List.set_cons_succ]
              refine hs_take (i := 15) (d := some 36) (v := ?_) rfl (by kernel_rfl) (by kernel_rfl) (by kernel_rfl) (by rfl) ?_ hS rfl ?_
              rotate_left
              · intro w' hw
                have hc := bx w' hw
                go_simp
                try with_reducible rfl
              simp only [Act.put, List.setIfInBounds_toArray, List.set_cons_zero, List.set_cons_succ]
              refine hs_take (i := 16) (d := some 37) (v := ?_) rfl (by kernel_rfl) (by kernel_rfl) (by kernel_rfl) (by rfl) ?_ hS rfl ?_
              rotate_left
              · intro w' hw
                go_simp
                try with_reducible rfl
              simp only [Act.put, List.setIfInBounds_toArray, List.set_cons_zero, List.set_cons_succ]
              refine hs_take (i := 17) (d := some 38) (v := ?_) rfl (by kernel_rfl) (by kernel_rfl) (by kernel_rfl) (by rfl) ?_ hS rfl ?_
              rotate_left
              · intro w' hw
                go_simp
                try with_reducible rfl
              simp only [Act.put, List.setIfInBounds_toArray, List.set_cons_zero, List.set_cons_succ]
              refine hs_take (i := 18) (d := some 39) (v := ?_) rfl (by kernel_rfl) (by kernel_rfl) (by kernel_rfl) (by rfl) ?_ hS rfl ?_
              rotate_left
              · intro w' hw
                go_simp
                try with_reducible rfl
              simp only [Act.put, List.setIfInBounds_toArray, List.set_cons_zero, List.set_cons_succ]
              refine hs_take (i := 19) (d := some 40) (v := ?_) rfl (by kernel_rfl) (by kernel_rfl) (by kernel_rfl) (by rfl) ?_ hS rfl ?_
              rotate_left
              · intro w' hw
                have hc := c2 w' hw
                go_simp
                try with_reducible rfl
              simp only [Act.put, List.setIfInBounds_toArray, List.set_cons_zero, List.set_cons_succ]
              refine hs_take (i := 20) (d := some 41) (v := ?_) rfl (by kernel_rfl) (by kernel_rfl) (by kernel_rfl) (by rfl) ?_ hS rfl ?_
              rotate_left
              · intro w' hw
                go_simp
                try with_reducible rfl
              simp only [Act.put, List.setIfInBounds_toArray, List.set_cons_zero, List.set_cons_succ]
              refine hs_take (i := 21) (d := some 42) (v := ?_) rfl (by kernel_rfl) (by kernel_rfl) (by kernel_rfl) (by rfl) ?_ hS rfl ?_
              rotate_left
              · intro w' hw
                have hc := by' w' hw
                go_simp
                try with_reducible rfl
              simp only [Act.put, List.setIfInBounds_toArray, List.set_cons_zero, List.set_cons_succ]
              refine hs_take (i := 22) (d := some 43) (v := ?_) rfl (by kernel_rfl) (by kernel_rfl) (by kernel_rfl) (by rfl) ?_ hS rfl ?_
              rotate_left
              · intro w' hw
                go_simp
                try with_reducible rfl
              simp only [Act.put, List.setIfInBounds_toArray, List.set_cons_zero, List.set_cons_succ]
              refine hs_take (i := 23) (d := some 44) (v := ?_) rfl (by kernel_rfl) (by kernel_rfl) (by kernel_rfl) (by rfl) ?_ hS rfl ?_
              rotate_left
              · intro w' hw
                go_simp
                try with_reducible rfl
              simp only [Act.put, List.setIfInBounds_toArray, List.set_cons_zero, List.set_cons_succ]
              refine hs_take (i := 24) (d := some 45) (v := ?_) rfl (by kernel_rfl) (by kernel_rfl) (by kernel_rfl) (by rfl) ?_ hS rfl ?_
              rotate_left
              · intro w' hw
                go_simp
                try with_reducible rfl
              simp only [Act.put, List.setIfInBounds_toArray, List.set_cons_zero, List.set_cons_succ]
              refine hs_take (i := 25) (d := some 46) (v := ?_) rfl (by kernel_rfl) (by kernel_rfl) (by kernel_rfl) (by rfl) ?_ hS rfl ?_
              rotate_left
              · intro w' hw
                have hc := d2 w' hw
                go_simp
                try with_reducible rfl
              simp only [Act.put, List.setIfInBounds_toArray, List.set_cons_zero, List.set_cons_succ]
              refine hs_take (i := 26) (d := some 47) (v := .bool true) rfl (by kernel_rfl) (by kernel_rfl) (by kernel_rfl) (by rfl) (fun w' hw => by go_simp) hS rfl ?_
              simp only [Act.put, List.setIfInBounds_toArray, List.set_cons_zero, List.set_cons_succ]
              refine hs_take (i := 27) (d := some 48) (v := .bool true) rfl (by kernel_rfl) (by kernel_rfl) (by kernel_rfl) (by rfl) (fun w' hw => by go_simp) hS rfl ?_
              simp only [Act.put, List.setIfInBounds_toArray, List.set_cons_zero, List.set_cons_succ]
              refine hs_done (by kernel_rfl) ?_
              go_wp2
              go_ret
              exact ⟨by rw [HZ.out]; rfl, hB1.trans (hB5.mono hB1.size)⟩
            · have hb2 : (n == n') = false := by simpa using hnn
              have hb1 : (c == c') = true := by simpa using hcc
              have HN : Hid (pk rs'[j] ≠ (c, n)) := hide (fun hx => hnn (by rw [HE.out] at hx; injection hx with _ h2; exact h2.symm))
              clear hnn hcc HE HG
              go_upto_region 7 with fail
              obtain ⟨w5, hw5⟩ : ∃ w5, wr.drew = w5 := ⟨_, rfl⟩
              have hB5 : Below w1.heap.size w1 w5 := by rw [← hw5]; exact hbq.drew
              have bx : ∀ w', Below w5.heap.size w5 w' → w'.cell? ⟨X, 1, none⟩ = some (.slice (some ⟨b, off, none⟩) rs.length cap) := fun w' hw' => ((hB5.trans (hw'.mono hB5.size)).cell (p := ⟨X, 1, none⟩) hX).trans x1
              have by' : ∀ w', Below w5.heap.size w5 w' → w'.cell? ⟨Y, 1, none⟩ = some (.slice (some ⟨b', off', none⟩) rs'.length cap') := fun w' hw' => ((hB5.trans (hw'.mono hB5.size)).cell (p := ⟨Y, 1, none⟩) hY).trans y1
              have c1 : ∀ w', Below w5.heap.size w5 w' → w'.cell? ⟨b, off + k * 19, none⟩ = some (.int .i64 c) := fun w' hw' => ((hB5.trans (hw'.mono hB5.size)).cell (p := ⟨b, off + k * 19, none⟩) hb).trans e0
              have c2 : ∀ w', Below w5.heap.size w5 w' → w'.cell? ⟨b, off + k * 19 + 1, none⟩ = some (.int .i64 n) := fun w' hw' => ((hB5.trans (hw'.mono hB5.size)).cell (p := ⟨b, off + k * 19 + 1, none⟩) hb).trans e1
              have d1 : ∀ w', Below w5.heap.size w5 w' → w'.cell? ⟨b', off' + j * 19, none⟩ = some (.int .i64 c') := fun w' hw' => ((hB5.trans (hw'.mono hB5.size)).cell (p := ⟨b', off' + j * 19, none⟩) hb').trans f0
              have d2 : ∀ w', Below w5.heap.size w5 w' → w'.cell? ⟨b', off' + j * 19 + 1, none⟩ = some (.int .i64 n') := fun w' hw' => ((hB5.trans (hw'.mono hB5.size)).cell (p := ⟨b', off' + j * 19 + 1, none⟩) hb').trans f1
              refine hs_begin (S := (Below w5.heap.size w5)) 28 rfl (by kernel_rfl) ?_
              rw [hw5]
              clear hw5 hbq xq yq
              have hS : (Below w5.heap.size w5) w5 := Below.refl _ _
              refine hs_take (i := 0) (d := some 21) (v := ?_) rfl (by kernel_rfl) (by kernel_rfl) (by kernel_rfl) (by rfl) ?_ hS rfl ?_
              rotate_left
              · intro w' hw
                go_simp
                try with_reducible rfl
              simp only [Act.put, List.setIfInBounds_toArray, List.set_cons_zero, List.set_cons_succ]
              refine hs_take (i := 1) (d := some 22) (v := ?_) rfl (by kernel_rfl) (by kernel_rfl) (by kernel_rfl) (by rfl) ?_ hS rfl ?_
              rotate_left
              · intro w' hw
                have hc := bx w' hw
                go_simp
                try with_reducible rfl
              simp only [Act.put, List.setIfInBounds_toArray, List.set_cons_zero, List.set_cons_succ]
              refine hs_take (i := 2) (d := some 23) (v := ?_) rfl (by kernel_rfl) (by kernel_rfl) (by kernel_rfl) (by rfl) ?_ hS rfl ?_
              rotate_left
              · intro w' hw
                go_simp
                try with_reducible rfl
              simp only [Act.put, List.setIfInBounds_toArray, List.set_cons_zero, List.set_cons_succ]
              refine hs_take (i := 3) (d := some 24) (v := ?_) rfl (by kernel_rfl) (by kernel_rfl) (by kernel_rfl) (by rfl) ?_ hS rfl ?_
              rotate_left
              · intro w' hw
                go_simp
                try with_reducible rfl
              simp only [Act.put, List.setIfInBounds_toArray, List.set_cons_zero, List.set_cons_succ]
              refine hs_take (i := 4) (d := some 25) (v := ?_) rfl (by kernel_rfl) (by kernel_rfl) (by kernel_rfl) (by rfl) ?_ hS rfl ?_
              rotate_left
              · intro w' hw
                go_simp
                try with_reducible rfl
              simp only [Act.put, List.setIfInBounds_toArray, List.set_cons_zero, List.set_cons_succ]
              refine hs_take (i := 5) (d := some 26) (v := ?_) rfl (by kernel_rfl) (by kernel_rfl) (by kernel_rfl) (by rfl) ?_ hS rfl ?_
              rotate_left
              · intro w' hw
                have hc := c1 w' hw
                go_simp
                try with_reducible rfl
              simp only [Act.put, List.setIfInBounds_toArray, List.set_cons_zero, List.set_cons_succ]
              refine hs_take (i := 6) (d := some 27) (v := ?_) rfl (by kernel_rfl) (by kernel_rfl) (by kernel_rfl) (by rfl) ?_ hS rfl ?_
              rotate_left
              · intro w' hw
                go_simp
                try with_reducible rfl
              simp only [Act.put, List.setIfInBounds_toArray, List.set_cons_zero, List.set_cons_succ]
              refine hs_take (i := 7) (d := some 28) (v := ?_) rfl (by kernel_rfl) (by kernel_rfl) (by kernel_rfl) (by rfl) ?_ hS rfl ?_
              rotate_left
              · intro w' hw
                have hc := by' w' hw
                go_simp
                try with_reducible rfl
              simp only [Act.put, List.setIfInBounds_toArray, List.set_cons_zero, List.set_cons_succ]
              refine hs_take (i := 8) (d := some 29) (v := ?_) rfl (by kernel_rfl) (by kernel_rfl) (by kernel_rfl) (by rfl) ?_ hS rfl ?_
              rotate_left
              · intro w' hw
                go_simp
                try with_reducible rfl
              simp only [Act.put, List.setIfInBounds_toArray, List.set_cons_zero, List.set_cons_succ]
              refine hs_take (i := 9) (d := some 30) (v := ?_) rfl (by kernel_rfl) (by kernel_rfl) (by kernel_rfl) (by rfl) ?_ hS rfl ?_
              rotate_left
              · intro w' hw
                go_simp
                try with_reducible rfl
              simp only [Act.put, List.setIfInBounds_toArray, List.set_cons_zero, List.set_cons_succ]
              refine hs_take (i := 10) (d := some 31) (v := ?_) rfl (by kernel_rfl) (by kernel_rfl) (by kernel_rfl) (by rfl) ?_ hS rfl ?_
              rotate_left
              · intro w' hw
                go_simp
                try with_reducible rfl
              simp only [Act.put, List.setIfInBounds_toArray, List.set_cons_zero, List.set_cons_succ]
              refine hs_take (i := 11) (d := some 32) (v := ?_) rfl (by kernel_rfl) (by kernel_rfl) (by kernel_rfl) (by rfl) ?_ hS rfl ?_
              rotate_left
              · intro w' hw
                have hc := d1 w' hw
                go_simp
                try with_reducible rfl
              simp only [Act.put, List.setIfInBounds_toArray, List.set_cons_zero, List.set_cons_succ]
              refine hs_take (i := 12) (d := some 33) (v := .bool true) rfl (by kernel_rfl) (by kernel_rfl) (by kernel_rfl) (by rfl) (fun w' hw => by go_simp) hS rfl ?_
              simp only [Act.put, List.setIfInBounds_toArray, List.set_cons_zero, List.set_cons_succ]
              refine hs_take (i := 13) (d := some 34) (v := ?_) rfl (by kernel_rfl) (by kernel_rfl) (by kernel_rfl) (by rfl) ?_ hS rfl ?_
              rotate_left
              · intro w' hw
                go_simp
                try with_reducible rfl
              simp only [Act.put, List.setIfInBounds_toArray, List.set_cons_zero, List.set_cons_succ]
              refine hs_take (i := 14) (d := some 35) (v := ?_) rfl (by kernel_rfl) (by kernel_rfl) (by kernel_rfl) (by rfl) ?_ hS rfl ?_
              rotate_left
              · intro w' hw
                go_simp
                try with_reducible rfl
              simp only [Act.put, List.setIfInBounds_toArray, List.set_cons_zero, List.set_cons_succ]
              refine hs_take (i := 15) (d := some 36) (v := ?_) rfl (by kernel_rfl) (by kernel_rfl) (by kernel_rfl) (by rfl) ?_ hS rfl ?_
              rotate_left
              · intro w' hw
                have hc := bx w' hw
                go_simp
                try with_reducible rfl
              simp only [Act.put, List.setIfInBounds_toArray, List.set_cons_zero, List.set_cons_succ]
              refine hs_take (i := 16) (d := some 37) (v := ?_) rfl (by kernel_rfl) (by kernel_rfl) (by kernel_rfl) (by rfl) ?_ hS rfl ?_
              rotate_left
              · intro w' hw
                go_simp
                try with_reducible rfl
              simp only [Act.put, List.setIfInBounds_toArray, List.set_cons_zero, List.set_cons_succ]
              refine hs_take (i := 17) (d := some 38) (v := ?_) rfl (by kernel_rfl) (by kernel_rfl) (by kernel_rfl) (by rfl) ?_ hS rfl ?_
              rotate_left
              · intro w' hw
                go_simp
                try with_reducible rfl
              simp only [Act.put, List.setIfInBounds_toArray, List.set_cons_zero, List.set_cons_succ]
              refine hs_take (i := 18) (d := some 39) (v := ?_) rfl (by kernel_rfl) (by kernel_rfl) (by kernel_rfl) (by rfl) ?_ hS rfl ?_
              rotate_left
              · intro w' hw
                go_simp
                try with_reducible rfl
              simp only [Act.put, List.setIfInBounds_toArray, List.set_cons_zero, List.set_cons_succ]
              refine hs_take (i := 19) (d := some 40) (v := ?_) rfl (by kernel_rfl) (by kernel_rfl) (by kernel_rfl) (by rfl) ?_ hS rfl ?_
              rotate_left
              · intro w' hw
                have hc := c2 w' hw
                go_simp
                try with_reducible rfl
              simp only [Act.put, List.setIfInBounds_toArray, List.set_cons_zero, List.set_cons_succ]
              refine hs_take (i := 20) (d := some 41) (v := ?_) rfl (by kernel_rfl) (by kernel_rfl) (by kernel_rfl) (by rfl) ?_ hS rfl ?_
              rotate_left
              · intro w' hw
                go_simp
                try with_reducible rfl
              simp only [Act.put, List.setIfInBounds_toArray, List.set_cons_zero, List.set_cons_succ]
              refine hs_take (i := 21) (d := some 42) (v := ?_) rfl (by kernel_rfl) (by kernel_rfl) (by kernel_rfl) (by rfl) ?_ hS rfl ?_
              rotate_left
              · intro w' hw
                have hc := by' w' hw
                go_simp
                try with_reducible rfl
              simp only [Act.put, List.setIfInBounds_toArray, List.set_cons_zero, List.set_cons_succ]
              refine hs_take (i := 22) (d := some 43) (v := ?_) rfl (by kernel_rfl) (by kernel_rfl) (by kernel_rfl) (by rfl) ?_ hS rfl ?_
              rotate_left
              · intro w' hw
                go_simp
                try with_reducible rfl
              simp only [Act.put, List.setIfInBounds_toArray, List.set_cons_zero, List.set_cons_succ]
              refine hs_take (i := 23) (d := some 44) (v := ?_) rfl (by kernel_rfl) (by kernel_rfl) (by kernel_rfl) (by rfl) ?_ hS rfl ?_
              rotate_left
              · intro w' hw
                go_simp
                try with_reducible rfl
              simp only [Act.put, List.setIfInBounds_toArray, List.set_cons_zero, List.set_cons_succ]
              refine hs_take (i := 24) (d := some 45) (v := ?_) rfl (by kernel_rfl) (by kernel_rfl) (by kernel_rfl) (by rfl) ?_ hS rfl ?_
              rotate_left
              · intro w' hw
                go_simp
                try with_reducible rfl
              simp only [Act.put, List.setIfInBounds_toArray, List.set_cons_zero, List.set_cons_succ]
              refine hs_take (i := 25) (d := some 46) (v := ?_) rfl (by kernel_rfl) (by kernel_rfl) (by kernel_rfl) (by rfl) ?_ hS rfl ?_
              rotate_left
              · intro w' hw
                have hc := d2 w' hw
                go_simp
                try with_reducible rfl
              simp only [Act.put, List.setIfInBounds_toArray, List.set_cons_zero, List.set_cons_succ]
              refine hs_take (i := 26) (d := some 47) (v := .bool false) rfl (by kernel_rfl) (by kernel_rfl) (by kernel_rfl) (by rfl) (fun w' hw => by go_simp) hS rfl ?_
              simp only [Act.put, List.setIfInBounds_toArray, List.set_cons_zero, List.set_cons_succ]
              refine hs_take (i := 27) (d := some 48) (v := .bool false) rfl (by kernel_rfl) (by kernel_rfl) (by kernel_rfl) (by rfl) (fun w' hw => by go_simp) hS rfl ?_
              simp only [Act.put, List.setIfInBounds_toArray, List.set_cons_zero, List.set_cons_succ]
              refine hs_done (by kernel_rfl) ?_
              go_wp2
              go_roundw
              case rel => exact ⟨j + 1, by omega, by go_num, hide (fun i hi hij => by
                by_cases e : i = j
                · subst e; exact HN.out
                · exact HM.out i hi (by omega)), hB5⟩
              case measure => simp [intOf]; omega
          · have hb1 : (c == c') = false := by simpa using hcc
            have HN : Hid (pk rs'[j] ≠ (c, n)) := hide (fun hx => hcc (by rw [HE.out] at hx; injection hx with h2 _; exact h2.symm))
            clear hcc HE HG
            go_upto_region 7 with fail
            obtain ⟨w5, hw5⟩ : ∃ w5, wr.drew = w5 := ⟨_, rfl⟩
            have hB5 : Below w1.heap.size w1 w5 := by rw [← hw5]; exact hbq.drew
            have bx : ∀ w', Below w5.heap.size w5 w' → w'.cell? ⟨X, 1, none⟩ = some (.slice (some ⟨b, off, none⟩) rs.length cap) := fun w' hw' => ((hB5.trans (hw'.mono hB5.size)).cell (p := ⟨X, 1, none⟩) hX).trans x1
            have by' : ∀ w', Below w5.heap.size w5 w' → w'.cell? ⟨Y, 1, none⟩ = some (.slice (some ⟨b', off', none⟩) rs'.length cap') := fun w' hw' => ((hB5.trans (hw'.mono hB5.size)).cell (p := ⟨Y, 1, none⟩) hY).trans y1
            have c1 : ∀ w', Below w5.heap.size w5 w' → w'.cell? ⟨b, off + k * 19, none⟩ = some (.int .i64 c) := fun w' hw' => ((hB5.trans (hw'.mono hB5.size)).cell (p := ⟨b, off + k * 19, none⟩) hb).trans e0
            have c2 : ∀ w', Below w5.heap.size w5 w' → w'.cell? ⟨b, off + k * 19 + 1, none⟩ = some (.int .i64 n) := fun w' hw' => ((hB5.trans (hw'.mono hB5.size)).cell (p := ⟨b, off + k * 19 + 1, none⟩) hb).trans e1
            have d1 : ∀ w', Below w5.heap.size w5 w' → w'.cell? ⟨b', off' + j * 19, none⟩ = some (.int .i64 c') := fun w' hw' => ((hB5.trans (hw'.mono hB5.size)).cell (p := ⟨b', off' + j * 19, none⟩) hb').trans f0
            have d2 : ∀ w', Below w5.heap.size w5 w' → w'.cell? ⟨b', off' + j * 19 + 1, none⟩ = some (.int .i64 n') := fun w' hw' => ((hB5.trans (hw'.mono hB5.size)).cell (p := ⟨b', off' + j * 19 + 1, none⟩) hb').trans f1
            refine hs_begin (S := (Below w5.heap.size w5)) 28 rfl (by kernel_rfl) ?_
            rw [hw5]
            clear hw5 hbq xq yq
            have hS : (Below w5.heap.size w5) w5 := Below.refl _ _
            refine hs_take (i := 0) (d := some 21) (v := ?_) rfl (by kernel_rfl) (by kernel_rfl) (by kernel_rfl) (by rfl) ?_ hS rfl ?_
            rotate_left
            · intro w' hw
              go_simp
              try with_reducible rfl
            simp only [Act.put, List.setIfInBounds_toArray, List.set_cons_zero, List.set_cons_succ]
            refine hs_take (i := 1) (d := some 22) (v := ?_) rfl (by kernel_rfl) (by kernel_rfl) (by kernel_rfl) (by rfl) ?_ hS rfl ?_
            rotate_left
            · intro w' hw
              have hc := bx w' hw
              go_simp
              try with_reducible rfl
            simp only [Act.put, List.setIfInBounds_toArray, List.set_cons_zero, List.set_cons_succ]
            refine hs_take (i := 2) (d := some 23) (v := ?_) rfl (by kernel_rfl) (by kernel_rfl) (by kernel_rfl) (by rfl) ?_ hS rfl ?_
            rotate_left
            · intro w' hw
              go_simp
              try with_reducible rfl
            simp only [Act.put, List.setIfInBounds_toArray, List.set_cons_zero, List.set_cons_succ]
            refine hs_take (i := 3) (d := some 24) (v := ?_) rfl (by kernel_rfl) (by kernel_rfl) (by kernel_rfl) (by rfl) ?_ hS rfl ?_
            rotate_left
            · intro w' hw
              go_simp
              try with_reducible rfl
            simp only [Act.put, List.setIfInBounds_toArray, List.set_cons_zero, List.set_cons_succ]
            refine hs_take (i := 4) (d := some 25) (v := ?_) rfl (by kernel_rfl) (by kernel_rfl) (by kernel_rfl) (by rfl) ?_ hS rfl ?_
            rotate_left
            · intro w' hw
              go_simp
              try with_reducible rfl
            simp only [Act.put, List.setIfInBounds_toArray, List.set_cons_zero, List.set_cons_succ]
            refine hs_take (i := 5) (d := some 26) (v := ?_) rfl (by kernel_rfl) (by kernel_rfl) (by kernel_rfl) (by rfl) ?_ hS rfl ?_
            rotate_left
            · intro w' hw
              have hc := c1 w' hw
              go_simp
              try with_reducible rfl
            simp only [Act.put, List.setIfInBounds_toArray, List.set_cons_zero, List.set_cons_succ]
            refine hs_take (i := 6) (d := some 27) (v := ?_) rfl (by kernel_rfl) (by kernel_rfl) (by kernel_rfl) (by rfl) ?_ hS rfl ?_
            rotate_left
            · intro w' hw
              go_simp
              try with_reducible rfl
            simp only [Act.put, List.setIfInBounds_toArray, List.set_cons_zero, List.set_cons_succ]
            refine hs_take (i := 7) (d := some 28) (v := ?_) rfl (by kernel_rfl) (by kernel_rfl) (by kernel_rfl) (by rfl) ?_ hS rfl ?_
            rotate_left
            · intro w' hw
              have hc := by' w' hw
              go_simp
              try with_reducible rfl
            simp only [Act.put, List.setIfInBounds_toArray, List.set_cons_zero, List.set_cons_succ]
            refine hs_take (i := 8) (d := some 29) (v := ?_) rfl (by kernel_rfl) (by kernel_rfl) (by kernel_rfl) (by rfl) ?_ hS rfl ?_
            rotate_left
            · intro w' hw
              go_simp
              try with_reducible rfl
            simp only [Act.put, List.setIfInBounds_toArray, List.set_cons_zero, List.set_cons_succ]
            refine hs_take (i := 9) (d := some 30) (v := ?_) rfl (by kernel_rfl) (by kernel_rfl) (by kernel_rfl) (by rfl) ?_ hS rfl ?_
            rotate_left
            · intro w' hw
              go_simp
              try with_reducible rfl
            simp only [Act.put, List.setIfInBounds_toArray, List.set_cons_zero, List.set_cons_succ]
            refine hs_take (i := 10) (d := some 31) (v := ?_) rfl (by kernel_rfl) (by kernel_rfl) (by kernel_rfl) (by rfl) ?_ hS rfl ?_
            rotate_left
            · intro w' hw
              go_simp
              try with_reducible rfl
            simp only [Act.put, List.setIfInBounds_toArray, List.set_cons_zero, List.set_cons_succ]
            refine hs_take (i := 11) (d := some 32) (v := ?_) rfl (by kernel_rfl) (by kernel_rfl) (by kernel_rfl) (by rfl) ?_ hS rfl ?_
            rotate_left
            · intro w' hw
              have hc := d1 w' hw
              go_simp
              try with_reducible rfl
            simp only [Act.put, List.setIfInBounds_toArray, List.set_cons_zero, List.set_cons_succ]
            refine hs_take (i := 12) (d := some 33) (v := .bool false) rfl (by kernel_rfl) (by kernel_rfl) (by kernel_rfl) (by rfl) (fun w' hw => by go_simp) hS rfl ?_
            simp only [Act.put, List.setIfInBounds_toArray, List.set_cons_zero, List.set_cons_succ]
            refine hs_take (i := 13) (d := some 34) (v := ?_) rfl (by kernel_rfl) (by kernel_rfl) (by kernel_rfl) (by rfl) ?_ hS rfl ?_
            rotate_left
            · intro w' hw
              go_simp
              try with_reducible rfl
            simp only [Act.put, List.setIfInBounds_toArray, List.set_cons_zero, List.set_cons_succ]
            refine hs_skip (i := 14) (d := some 35) rfl (by kernel_rfl) (by kernel_rfl) (by kernel_rfl) (by rfl) hS rfl ?_
            simp only [Act.put, List.setIfInBounds_toArray, List.set_cons_zero, List.set_cons_succ]
            refine hs_skip (i := 15) (d := some 36) rfl (by kernel_rfl) (by kernel_rfl) (by kernel_rfl) (by rfl) hS rfl ?_
            simp only [Act.put, List.setIfInBounds_toArray, List.set_cons_zero, List.set_cons_succ]
            refine hs_skip (i := 16) (d := some 37) rfl (by kernel_rfl) (by kernel_rfl) (by kernel_rfl) (by rfl) hS rfl ?_
            simp only [Act.put, List.setIfInBounds_toArray, List.set_cons_zero, List.set_cons_succ]
            refine hs_skip (i := 17) (d := some 38) rfl (by kernel_rfl) (by kernel_rfl) (by kernel_rfl) (by rfl) hS rfl ?_
            simp only [Act.put, List.setIfInBounds_toArray, List.set_cons_zero, List.set_cons_succ]
            refine hs_skip (i := 18) (d := some 39) rfl (by kernel_rfl) (by kernel_rfl) (by kernel_rfl) (by rfl) hS rfl ?_
            simp only [Act.put, List.setIfInBounds_toArray, List.set_cons_zero, List.set_cons_succ]
            refine hs_skip (i := 19) (d := some 40) rfl (by kernel_rfl) (by kernel_rfl) (by kernel_rfl) (by rfl) hS rfl ?_
            simp only [Act.put, List.setIfInBounds_toArray, List.set_cons_zero, List.set_cons_succ]
            refine hs_skip (i := 20) (d := some 41) rfl (by kernel_rfl) (by kernel_rfl) (by kernel_rfl) (by rfl) hS rfl ?_
            simp only [Act.put, List.setIfInBounds_toArray, List.set_cons_zero, List.set_cons_succ]
            refine hs_skip (i := 21) (d := some 42) rfl (by kernel_rfl) (by kernel_rfl) (by kernel_rfl) (by rfl) hS rfl ?_
            simp only [Act.put, List.setIfInBounds_toArray, List.set_cons_zero, List.set_cons_succ]
            refine hs_skip (i := 22) (d := some 43) rfl (by kernel_rfl) (by kernel_rfl) (by kernel_rfl) (by rfl) hS rfl ?_
            simp only [Act.put, List.setIfInBounds_toArray, List.set_cons_zero, List.set_cons_succ]
            refine hs_skip (i := 23) (d := some 44) rfl (by kernel_rfl) (by kernel_rfl) (by kernel_rfl) (by rfl) hS rfl ?_
            simp only [Act.put, List.setIfInBounds_toArray, List.set_cons_zero, List.set_cons_succ]
            refine hs_skip (i := 24) (d := some 45) rfl (by kernel_rfl) (by kernel_rfl) (by kernel_rfl) (by rfl) hS rfl ?_
            simp only [Act.put, List.setIfInBounds_toArray, List.set_cons_zero, List.set_cons_succ]
            refine hs_skip (i := 25) (d := some 46) rfl (by kernel_rfl) (by kernel_rfl) (by kernel_rfl) (by rfl) hS rfl ?_
            simp only [Act.put, List.setIfInBounds_toArray, List.set_cons_zero, List.set_cons_succ]
            refine hs_skip (i := 26) (d := some 47) rfl (by kernel_rfl) (by kernel_rfl) (by kernel_rfl) (by rfl) hS rfl ?_
            simp only [Act.put, List.setIfInBounds_toArray, List.set_cons_zero, List.set_cons_succ]
            refine hs_take (i := 27) (d := some 48) (v := .bool false) rfl (by kernel_rfl) (by kernel_rfl) (by kernel_rfl) (by rfl) (fun w' hw => by go_simp) hS rfl ?_
            simp only [Act.put, List.setIfInBounds_toArray, List.set_cons_zero, List.set_cons_succ]
            refine hs_done (by kernel_rfl) ?_
            go_wp2
            go_roundw
            case rel => exact ⟨j + 1, by omega, by go_num, hide (fun i hi hij => by
              by_cases e : i = j
              · subst e; exact HN.out
              · exact HM.out i hi (by omega)), hB5⟩
            case measure => simp [intOf]; omega
        · have HD' : Hid (∀ i j, (hi : i < rs.length) → (hj : j < rs'.length) → i < k + 1 → pk rs[i] ≠ pk rs'[j]) := hide (fun i y hi hy hik => by
            by_cases e : i = k
            · subst e
              intro he
              refine HM.out y hy (by omega) ?_
              rw [← he, ← hc.out, ← hn.out]
              rfl
            · exact HD.out i y hi hy (by omega))
          have j1 : ¬ (j : Int) < rs'.length := by omega
          clear HM HD
          go_wp2
          go_roundw
          case rel => exact ⟨k + 1, by omega, by go_num, HD', hbq⟩
          case measure => simp [intOf]; omega
    · have HZ : Hid (R = false) := hide (HF.out (fun i j hi hj => HD.out i j hi hj (by omega)))
      have k1 : ¬ (k : Int) < rs.length := by omega
      clear HD
      go_wp2
      go_ret
      exact ⟨by rw [HZ.out]; rfl, hB1.trans (hB.mono hB1.size)⟩
end Go.Proofs.YtinpbnkmpplkiaaDoor
namespace Go.Proofs.YtinpbnkmpplkiaaDoor
open Go.RowKit
open Sha Tal
theorem BatBox.drew2 {w : World} {b : Nat} {q : Bool} {a : Option Addr} {n cap : Nat} (h : BatBox w b q a n cap) : BatBox w.drew b q a n cap :=
  ⟨h.1, h.2.1, h.2.2.1, (World.rangeAt_drew _ _ _ _).2 h.2.2.2⟩
theorem two_bats2 (w : World) (q : Bool) (a : Option Addr) (cap : Nat) (rs : List Rq) (q' : Bool) (a' : Option Addr) (cap' : Nat) (rs' : List Rq) (h : (Bat.mk q a cap rs).at w) (h' : (Bat.mk q' a' cap' rs').at w) :
    BatsAt (w.alloc (.cells #[.bool q, .slice a rs.length cap, .bool q', .slice a' rs'.length cap'] 24)) w.heap.size [⟨q, a, cap, rs⟩, ⟨q', a', cap', rs'⟩] := by
  have hb : Below w.heap.size w (w.alloc (.cells #[.bool q, .slice a rs.length cap, .bool q', .slice a' rs'.length cap'] 24)) := (Below.refl _ _).alloc (Nat.le_refl _) _
  refine ⟨by simp, fun x hx => ?_, by simp, range_new w #[.bool q, .slice a rs.length cap, .bool q', .slice a' rs'.length cap'] 24⟩
  rcases List.mem_cons.1 hx with rfl | hx
  · exact h.below hb
  · obtain rfl := List.mem_singleton.1 hx
    exact h'.below hb
theorem wtR_le2 : ∀ (rs : List Rq), rs.length * 20 ≤ wtR rs
  | [] => by simp [wtR]
  | r :: rs => by
    have ih := wtR_le2 rs
    have e : wtR (r :: rs) = 20 + r.s.size + wtR rs := by simp [wtR]
    rw [e]; simp; omega
theorem wt2n {q : Bool} {a : Option Addr} {cap : Nat} {rs : List Rq} {q' : Bool} {a' : Option Addr} {cap' : Nat} {rs' : List Rq} (h : wt [⟨q, a, cap, rs⟩, ⟨q', a', cap', rs'⟩] ≤ 4000) : rs.length ≤ 200 ∧ rs'.length ≤ 200 := by
  have e : wt [⟨q, a, cap, rs⟩, ⟨q', a', cap', rs'⟩] = 5 + wtR rs + (5 + wtR rs') := by simp [wt]
  rw [e] at h
  have h1 := wtR_le2 rs
  have h2 := wtR_le2 rs'
  omega
theorem same_bool (q : Bool) (rs : List Rq) (q' : Bool) (rs' : List Rq) : ∃ E : Bool, ∀ (e : Ending) (p : Prop), (((e = .returned (.bool true) ∧ eqBat q rs q' rs') ∨ (e = .returned (.bool false) ∧ ¬ eqBat q rs q' rs')) ∧ p) → e = .returned (.bool E) ∧ p := by
  by_cases h : eqBat q rs q' rs'
  · refine ⟨true, fun e p hh => ?_⟩
    rcases hh with ⟨⟨h1, _⟩ | ⟨_, h2⟩, h3⟩
    · exact ⟨h1, h3⟩
    · exact absurd h h2
  · refine ⟨false, fun e p hh => ?_⟩
    rcases hh with ⟨⟨_, h2⟩ | ⟨h1, _⟩, h3⟩
    · exact absurd h2 h
    · exact ⟨h1, h3⟩
set_option maxRecDepth 100000 in
set_option maxHeartbeats 4000000 in
theorem meets_walk (q : Bool) (a : Option Addr) (cap : Nat) (rs : List Rq) (q' : Bool) (a' : Option Addr) (cap' : Nat) (rs' : List Rq) (w : World) (hG : Glob w) (h : ReqsAt w a rs) (hc : rs.length ≤ cap) (hm : cap ≤ maxLen) (h' : ReqsAt w a' rs') (hc' : rs'.length ≤ cap') (hm' : cap' ≤ maxLen) :
    Calls Tryd.prog 4 #[batV q a rs.length cap, batV q' a' rs'.length cap'] w fun e w' => e = .returned (.bool true) ∧ Below w.heap.size w w' := by
  have cm := fun w0 h0 h1 hn => meet_any q a cap rs q' a' cap' rs' w0 h0 h1 hn
  have cm' := fun w0 h0 h1 hn => meet_any q' a' cap' rs' q a cap rs w0 h0 h1 hn
  have cr := fun w0 h0 h1 => refMeet_any q a cap rs q' a' cap' rs' w0 h0 h1
  rw [meetV_symm rs' rs] at cm'
  obtain ⟨R, hR⟩ : ∃ R, Hid (meetV rs rs' = R) := ⟨_, hide rfl⟩
  simp only [hR.out] at cm cm' cr
  obtain ⟨E, hE⟩ := same_bool q rs q' rs'
  have cs := fun w0 h0 h1 => (bsame_any q a cap rs q' a' cap' rs' w0 h0 h1).mono (fun e w' hh => hE e _ hh)
  have ct := fun w0 h0 h1 => (refBSame_any q a cap rs q' a' cap' rs' w0 h0 h1).mono (fun e w' hh => hE e _ hh)
  have ca : ∀ (w0 : World), ReqsAt w0 a rs → Calls Tryd.prog 20 #[batV q a rs.length cap, batV q a rs.length cap] w0 fun e w' => e = .returned (.bool true) ∧ Below w0.heap.size w0 w' := fun w0 h0 =>
    (bsame_any q a cap rs q a cap rs w0 h0 h0).mono (fun e w' hh => by
      rcases hh with ⟨⟨h1, _⟩ | ⟨_, h2⟩, h3⟩
      · exact ⟨h1, h3⟩
      · exact absurd ⟨rfl, rfl⟩ h2)
  clear hE hR
  unfold batV at cm cm' cr cs ct ca ⊢
  have hB1 : Below w.heap.size w ((w.alloc (.cells #[.bool q, .slice a rs.length cap] 24)).alloc (.cells #[.bool q', .slice a' rs'.length cap'] 24)) := ((Below.refl _ _).alloc (Nat.le_refl _) _).alloc (by simp) _
  have hbx := BatBox.mk w q a rs.length cap
  have hby := BatBox.mk (w.alloc (.cells #[.bool q, .slice a rs.length cap] 24)) q' a' rs'.length cap'
  have hbx := hbx.below ((Below.refl _ _).alloc (Nat.le_refl _) (.cells #[.bool q', .slice a' rs'.length cap'] 24))
  rw [World.size_alloc] at hby
  have hib := batI q a rs.length cap
  have hib' := batI q' a' rs'.length cap'
  go_enter Tryd.func4, Tryd.ntmps4
  go_upto_region 1 with fail
  go_name_world w1 hw1
  rw [hw1] at hB1 hbx hby
  clear hw1
  obtain ⟨X, hXe⟩ : ∃ X, Hid (w.heap.size = X) := ⟨_, hide rfl⟩
  obtain ⟨Y, hYe⟩ : ∃ Y, Hid (w.heap.size + 1 = Y) := ⟨_, hide rfl⟩
  rw [hYe.out] at hby ⊢
  rw [hXe.out] at hbx ⊢
  have hL := two_bats2 w1 q a cap rs q' a' cap' rs' ⟨h.below hB1, hc, hm⟩ ⟨h'.below hB1, hc', hm'⟩
  have hB2' : Below w1.heap.size w1 (w1.alloc (.cells #[.bool q, .slice a rs.length cap, .bool q', .slice a' rs'.length cap'] 24)) := (Below.refl _ _).alloc (Nat.le_refl _) _
  have hB2 := hB1.trans (hB2'.mono hB1.size)
  have hbx2 := hbx.below hB2'
  have hby2 := hby.below hB2'
  have cl := light_any w1.heap.size 2 _ _ hL
  try simp only [Act.put]
  refine wp_region_list ?_
  refine wpList_load_mid rfl 24 _ rfl _ _ rfl [.bool q, .slice a rs.length cap] _ hbx.2.2.2 Tryd.underlying24 rfl hib ?_
  refine wpList_load_mid rfl 24 _ rfl _ _ rfl [.bool q', .slice a' rs'.length cap'] _ hby.2.2.2 Tryd.underlying24 rfl hib' ?_
  clear hbx hby hL
  simp only [List.length_cons, List.length_nil, Nat.zero_add] at cl
  go_wp2_with fail
  refine cl.mono ?_
  rintro e w3 hcase
  clear cl
  generalize w1.alloc (.cells #[.bool q, .slice a rs.length cap, .bool q', .slice a' rs'.length cap'] 24) = w2 at *
  rcases hcase with ⟨rfl, hw3⟩ | ⟨rfl, hw3, hwt⟩
  · have hB3 := hB2.trans (hw3.mono hB2.size)
    go_wp2_with fail
    refine (lives7_any w3 (hG.below hB3)).mono ?_
    rintro e wz ⟨rfl, hwz⟩
    go_wp2_with fail
    go_ret
    exact ⟨rfl, (hB3).trans (hwz.mono (hB3).size)⟩
  have hB3 := hB2.trans (hw3.mono hB2.size)
  have hbx3 := hbx2.below hw3
  have hby3 := hby2.below hw3
  clear hbx2 hby2 hB2' hB2 hw3
  obtain ⟨hn, hn'⟩ := wt2n hwt
  clear hwt
  go_wp2_with fail
  obtain ⟨w7, hw7⟩ : ∃ w7, w3.drew = w7 := ⟨_, rfl⟩
  have hB7 : Below w.heap.size w w7 := by rw [← hw7]; exact hB3.drew
  have hbx7 : BatBox w7 X q a rs.length cap := by rw [← hw7]; exact hbx3.drew2
  have hby7 : BatBox w7 Y q' a' rs'.length cap' := by rw [← hw7]; exact hby3.drew2
  have h7 := h.below hB7
  have h7' := h'.below hB7
  refine hs_begin (S := (Below w7.heap.size w7)) 34 rfl (by kernel_rfl) ?_
  rw [hw7]
  clear hw7 hB3 hbx3 hby3
  have hS : (Below w7.heap.size w7) w7 := Below.refl _ _
  refine hs_take (i := 0) (d := some 11) (v := .agg #[.bool q, .slice a rs.length cap]) rfl (by kernel_rfl) (by kernel_rfl) (by kernel_rfl) (by rfl) (fun w' hw => exec_load rfl rfl (run_loadVar_mid (P := Tryd.prog) w' X 0 24 [.bool q, .slice a rs.length cap] _ (hbx7.below hw).2.2.2 Tryd.underlying24 rfl hib)) hS rfl ?_
  simp only [Act.put, List.setIfInBounds_toArray, List.set_cons_zero, List.set_cons_succ]
  refine hs_take (i := 1) (d := some 12) (v := .agg #[.bool q', .slice a' rs'.length cap']) rfl (by kernel_rfl) (by kernel_rfl) (by kernel_rfl) (by rfl) (fun w' hw => exec_load rfl rfl (run_loadVar_mid (P := Tryd.prog) w' Y 0 24 [.bool q', .slice a' rs'.length cap'] _ (hby7.below hw).2.2.2 Tryd.underlying24 rfl hib')) hS rfl ?_
  simp only [Act.put, List.setIfInBounds_toArray, List.set_cons_zero, List.set_cons_succ]
  refine hs_take (i := 3) (d := some 14) (v := .agg #[.bool q, .slice a rs.length cap]) rfl (by kernel_rfl) (by kernel_rfl) (by kernel_rfl) (by rfl) (fun w' hw => exec_load rfl rfl (run_loadVar_mid (P := Tryd.prog) w' X 0 24 [.bool q, .slice a rs.length cap] _ (hbx7.below hw).2.2.2 Tryd.underlying24 rfl hib)) hS rfl ?_
  simp only [Act.put, List.setIfInBounds_toArray, List.set_cons_zero, List.set_cons_succ]
  refine hs_take (i := 4) (d := some 15) (v := .agg #[.bool q', .slice a' rs'.length cap']) rfl (by kernel_rfl) (by kernel_rfl) (by kernel_rfl) (by rfl) (fun w' hw => exec_load rfl rfl (run_loadVar_mid (P := Tryd.prog) w' Y 0 24 [.bool q', .slice a' rs'.length cap'] _ (hby7.below hw).2.2.2 Tryd.underlying24 rfl hib')) hS rfl ?_
  simp only [Act.put, List.setIfInBounds_toArray, List.set_cons_zero, List.set_cons_succ]
  refine hs_call (i := 2) (d := some 13) rfl (by kernel_rfl) (by rfl) (by go_simp; first | done | exact ⟨rfl, rfl⟩ | with_reducible rfl) rfl ?_
  refine (cm w7 (h7.below hS) (h7'.below hS) hn).mono ?_
  rintro e' w8 ⟨rfl, hw8⟩
  have hS : (Below w7.heap.size w7) w8 := hS.trans (hw8.mono hS.size)
  refine ⟨_, rfl, hS, ?_⟩
  simp only [Act.put, List.setIfInBounds_toArray, List.set_cons_zero, List.set_cons_succ]
  refine hs_call (i := 5) (d := some 16) rfl (by kernel_rfl) (by rfl) (by go_simp; first | done | exact ⟨rfl, rfl⟩ | with_reducible rfl) rfl ?_
  refine (cr w8 (h7.below hS) (h7'.below hS)).mono ?_
  rintro e' w9 ⟨rfl, hw9⟩
  have hS : (Below w7.heap.size w7) w9 := hS.trans (hw9.mono hS.size)
  refine ⟨_, rfl, hS, ?_⟩
  simp only [Act.put, List.setIfInBounds_toArray, List.set_cons_zero, List.set_cons_succ]
  refine hs_take (i := 6) (d := some 17) (v := .bool true) rfl (by kernel_rfl) (by kernel_rfl) (by kernel_rfl) (by rfl) (fun w' hw => by go_simp) hS rfl ?_
  simp only [Act.put, List.setIfInBounds_toArray, List.set_cons_zero, List.set_cons_succ]
  refine hs_take (i := 7) (d := some 18) (v := ?_) rfl (by kernel_rfl) (by kernel_rfl) (by kernel_rfl) (by rfl) ?_ hS rfl ?_
  rotate_left
  · intro w' hw
    go_simp
    try with_reducible rfl
  simp only [Act.put, List.setIfInBounds_toArray, List.set_cons_zero, List.set_cons_succ]
  refine hs_take (i := 8) (d := some 19) (v := .agg #[.bool q', .slice a' rs'.length cap']) rfl (by kernel_rfl) (by kernel_rfl) (by kernel_rfl) (by rfl) (fun w' hw => exec_load rfl rfl (run_loadVar_mid (P := Tryd.prog) w' Y 0 24 [.bool q', .slice a' rs'.length cap'] _ (hby7.below hw).2.2.2 Tryd.underlying24 rfl hib')) hS rfl ?_
  simp only [Act.put, List.setIfInBounds_toArray, List.set_cons_zero, List.set_cons_succ]
  refine hs_take (i := 9) (d := some 20) (v := .agg #[.bool q, .slice a rs.length cap]) rfl (by kernel_rfl) (by kernel_rfl) (by kernel_rfl) (by rfl) (fun w' hw => exec_load rfl rfl (run_loadVar_mid (P := Tryd.prog) w' X 0 24 [.bool q, .slice a rs.length cap] _ (hbx7.below hw).2.2.2 Tryd.underlying24 rfl hib)) hS rfl ?_
  simp only [Act.put, List.setIfInBounds_toArray, List.set_cons_zero, List.set_cons_succ]
  refine hs_take (i := 11) (d := some 22) (v := .agg #[.bool q, .slice a rs.length cap]) rfl (by kernel_rfl) (by kernel_rfl) (by kernel_rfl) (by rfl) (fun w' hw => exec_load rfl rfl (run_loadVar_mid (P := Tryd.prog) w' X 0 24 [.bool q, .slice a rs.length cap] _ (hbx7.below hw).2.2.2 Tryd.underlying24 rfl hib)) hS rfl ?_
  simp only [Act.put, List.setIfInBounds_toArray, List.set_cons_zero, List.set_cons_succ]
  refine hs_take (i := 12) (d := some 23) (v := .agg #[.bool q', .slice a' rs'.length cap']) rfl (by kernel_rfl) (by kernel_rfl) (by kernel_rfl) (by rfl) (fun w' hw => exec_load rfl rfl (run_loadVar_mid (P := Tryd.prog) w' Y 0 24 [.bool q', .slice a' rs'.length cap'] _ (hby7.below hw).2.2.2 Tryd.underlying24 rfl hib')) hS rfl ?_
  simp only [Act.put, List.setIfInBounds_toArray, List.set_cons_zero, List.set_cons_succ]
  refine hs_call (i := 10) (d := some 21) rfl (by kernel_rfl) (by rfl) (by go_simp; first | done | exact ⟨rfl, rfl⟩ | with_reducible rfl) rfl ?_
  refine (cm' w9 (h7'.below hS) (h7.below hS) hn').mono ?_
  rintro e' w10 ⟨rfl, hw10⟩
  have hS : (Below w7.heap.size w7) w10 := hS.trans (hw10.mono hS.size)
  refine ⟨_, rfl, hS, ?_⟩
  simp only [Act.put, List.setIfInBounds_toArray, List.set_cons_zero, List.set_cons_succ]
  refine hs_call (i := 13) (d := some 24) rfl (by kernel_rfl) (by rfl) (by go_simp; first | done | exact ⟨rfl, rfl⟩ | with_reducible rfl) rfl ?_
  refine (cr w10 (h7.below hS) (h7'.below hS)).mono ?_
  rintro e' w11 ⟨rfl, hw11⟩
  have hS : (Below w7.heap.size w7) w11 := hS.trans (hw11.mono hS.size)
  refine ⟨_, rfl, hS, ?_⟩
  simp only [Act.put, List.setIfInBounds_toArray, List.set_cons_zero, List.set_cons_succ]
  refine hs_take (i := 14) (d := some 25) (v := .bool true) rfl (by kernel_rfl) (by kernel_rfl) (by kernel_rfl) (by rfl) (fun w' hw => by go_simp) hS rfl ?_
  simp only [Act.put, List.setIfInBounds_toArray, List.set_cons_zero, List.set_cons_succ]
  refine hs_take (i := 15) (d := some 26) (v := .bool true) rfl (by kernel_rfl) (by kernel_rfl) (by kernel_rfl) (by rfl) (fun w' hw => by go_simp) hS rfl ?_
  simp only [Act.put, List.setIfInBounds_toArray, List.set_cons_zero, List.set_cons_succ]
  refine hs_take (i := 16) (d := some 27) (v := ?_) rfl (by kernel_rfl) (by kernel_rfl) (by kernel_rfl) (by rfl) ?_ hS rfl ?_
  rotate_left
  · intro w' hw
    go_simp
    try with_reducible rfl
  simp only [Act.put, List.setIfInBounds_toArray, List.set_cons_zero, List.set_cons_succ]
  refine hs_take (i := 17) (d := some 28) (v := .agg #[.bool q, .slice a rs.length cap]) rfl (by kernel_rfl) (by kernel_rfl) (by kernel_rfl) (by rfl) (fun w' hw => exec_load rfl rfl (run_loadVar_mid (P := Tryd.prog) w' X 0 24 [.bool q, .slice a rs.length cap] _ (hbx7.below hw).2.2.2 Tryd.underlying24 rfl hib)) hS rfl ?_
  simp only [Act.put, List.setIfInBounds_toArray, List.set_cons_zero, List.set_cons_succ]
  refine hs_take (i := 18) (d := some 29) (v := .agg #[.bool q', .slice a' rs'.length cap']) rfl (by kernel_rfl) (by kernel_rfl) (by kernel_rfl) (by rfl) (fun w' hw => exec_load rfl rfl (run_loadVar_mid (P := Tryd.prog) w' Y 0 24 [.bool q', .slice a' rs'.length cap'] _ (hby7.below hw).2.2.2 Tryd.underlying24 rfl hib')) hS rfl ?_
  simp only [Act.put, List.setIfInBounds_toArray, List.set_cons_zero, List.set_cons_succ]
  refine hs_take (i := 20) (d := some 31) (v := .agg #[.bool q, .slice a rs.length cap]) rfl (by kernel_rfl) (by kernel_rfl) (by kernel_rfl) (by rfl) (fun w' hw => exec_load rfl rfl (run_loadVar_mid (P := Tryd.prog) w' X 0 24 [.bool q, .slice a rs.length cap] _ (hbx7.below hw).2.2.2 Tryd.underlying24 rfl hib)) hS rfl ?_
  simp only [Act.put, List.setIfInBounds_toArray, List.set_cons_zero, List.set_cons_succ]
  refine hs_take (i := 21) (d := some 32) (v := .agg #[.bool q', .slice a' rs'.length cap']) rfl (by kernel_rfl) (by kernel_rfl) (by kernel_rfl) (by rfl) (fun w' hw => exec_load rfl rfl (run_loadVar_mid (P := Tryd.prog) w' Y 0 24 [.bool q', .slice a' rs'.length cap'] _ (hby7.below hw).2.2.2 Tryd.underlying24 rfl hib')) hS rfl ?_
  simp only [Act.put, List.setIfInBounds_toArray, List.set_cons_zero, List.set_cons_succ]
  refine hs_call (i := 19) (d := some 30) rfl (by kernel_rfl) (by rfl) (by go_simp; first | done | exact ⟨rfl, rfl⟩ | with_reducible rfl) rfl ?_
  refine (cs w11 (h7.below hS) (h7'.below hS)).mono ?_
  rintro e' w12 ⟨rfl, hw12⟩
  have hS : (Below w7.heap.size w7) w12 := hS.trans (hw12.mono hS.size)
  refine ⟨_, rfl, hS, ?_⟩
  simp only [Act.put, List.setIfInBounds_toArray, List.set_cons_zero, List.set_cons_succ]
  refine hs_call (i := 22) (d := some 33) rfl (by kernel_rfl) (by rfl) (by go_simp; first | done | exact ⟨rfl, rfl⟩ | with_reducible rfl) rfl ?_
  refine (ct w12 (h7.below hS) (h7'.below hS)).mono ?_
  rintro e' w13 ⟨rfl, hw13⟩
  have hS : (Below w7.heap.size w7) w13 := hS.trans (hw13.mono hS.size)
  refine ⟨_, rfl, hS, ?_⟩
  simp only [Act.put, List.setIfInBounds_toArray, List.set_cons_zero, List.set_cons_succ]
  refine hs_take (i := 23) (d := some 34) (v := .bool true) rfl (by kernel_rfl) (by kernel_rfl) (by kernel_rfl) (by rfl) (fun w' hw => by go_simp) hS rfl ?_
  simp only [Act.put, List.setIfInBounds_toArray, List.set_cons_zero, List.set_cons_succ]
  refine hs_take (i := 24) (d := some 35) (v := .bool true) rfl (by kernel_rfl) (by kernel_rfl) (by kernel_rfl) (by rfl) (fun w' hw => by go_simp) hS rfl ?_
  simp only [Act.put, List.setIfInBounds_toArray, List.set_cons_zero, List.set_cons_succ]
  refine hs_take (i := 25) (d := some 36) (v := ?_) rfl (by kernel_rfl) (by kernel_rfl) (by kernel_rfl) (by rfl) ?_ hS rfl ?_
  rotate_left
  · intro w' hw
    go_simp
    try with_reducible rfl
  simp only [Act.put, List.setIfInBounds_toArray, List.set_cons_zero, List.set_cons_succ]
  refine hs_take (i := 26) (d := some 37) (v := .agg #[.bool q, .slice a rs.length cap]) rfl (by kernel_rfl) (by kernel_rfl) (by kernel_rfl) (by rfl) (fun w' hw => exec_load rfl rfl (run_loadVar_mid (P := Tryd.prog) w' X 0 24 [.bool q, .slice a rs.length cap] _ (hbx7.below hw).2.2.2 Tryd.underlying24 rfl hib)) hS rfl ?_
  simp only [Act.put, List.setIfInBounds_toArray, List.set_cons_zero, List.set_cons_succ]
  refine hs_take (i := 27) (d := some 38) (v := .agg #[.bool q, .slice a rs.length cap]) rfl (by kernel_rfl) (by kernel_rfl) (by kernel_rfl) (by rfl) (fun w' hw => exec_load rfl rfl (run_loadVar_mid (P := Tryd.prog) w' X 0 24 [.bool q, .slice a rs.length cap] _ (hbx7.below hw).2.2.2 Tryd.underlying24 rfl hib)) hS rfl ?_
  simp only [Act.put, List.setIfInBounds_toArray, List.set_cons_zero, List.set_cons_succ]
  refine hs_call (i := 28) (d := some 39) rfl (by kernel_rfl) (by rfl) (by go_simp; first | done | exact ⟨rfl, rfl⟩ | with_reducible rfl) rfl ?_
  refine (ca w13 (h7.below hS)).mono ?_
  rintro e' w14 ⟨rfl, hw14⟩
  have hS : (Below w7.heap.size w7) w14 := hS.trans (hw14.mono hS.size)
  refine ⟨_, rfl, hS, ?_⟩
  simp only [Act.put, List.setIfInBounds_toArray, List.set_cons_zero, List.set_cons_succ]
  refine hs_take (i := 29) (d := some 40) (v := .bool true) rfl (by kernel_rfl) (by kernel_rfl) (by kernel_rfl) (by rfl) (fun w' hw => by go_simp) hS rfl ?_
  simp only [Act.put, List.setIfInBounds_toArray, List.set_cons_zero, List.set_cons_succ]
  refine hs_take (i := 30) (d := some 41) (v := ?_) rfl (by kernel_rfl) (by kernel_rfl) (by kernel_rfl) (by rfl) ?_ hS rfl ?_
  rotate_left
  · intro w' hw
    go_simp
    try with_reducible rfl
  simp only [Act.put, List.setIfInBounds_toArray, List.set_cons_zero, List.set_cons_succ]
  refine hs_call (i := 31) (d := some 42) rfl (by kernel_rfl) (by rfl) (by go_simp; first | done | exact ⟨rfl, rfl⟩ | with_reducible rfl) rfl ?_
  refine (lives7_any w14 (hG.below (hB7.trans (hS.mono hB7.size)))).mono ?_
  rintro e' w15 ⟨rfl, hw15⟩
  have hS : (Below w7.heap.size w7) w15 := hS.trans (hw15.mono hS.size)
  refine ⟨_, rfl, hS, ?_⟩
  simp only [Act.put, List.setIfInBounds_toArray, List.set_cons_zero, List.set_cons_succ]
  refine hs_take (i := 32) (d := some 43) (v := .bool true) rfl (by kernel_rfl) (by kernel_rfl) (by kernel_rfl) (by rfl) (fun w' hw => by go_simp) hS rfl ?_
  simp only [Act.put, List.setIfInBounds_toArray, List.set_cons_zero, List.set_cons_succ]
  refine hs_take (i := 33) (d := some 4) (v := ?_) rfl (by kernel_rfl) (by kernel_rfl) (by kernel_rfl) (by rfl) ?_ hS rfl ?_
  rotate_left
  · intro w' hw
    go_simp
    try with_reducible rfl
  simp only [Act.put, List.setIfInBounds_toArray, List.set_cons_zero, List.set_cons_succ]
  refine hs_done (by kernel_rfl) ?_
  have hfin := hB7.trans (hS.mono hB7.size)
  go_wp2_with fail
  go_ret
  exact ⟨rfl, hfin⟩
end Go.Proofs.YtinpbnkmpplkiaaDoor
namespace Go.Proofs.YtinpbnkmpplkiaaDoor.batchMeets
open Go.ChangeShapes Go.WideShapes Go.ChangeAt Go.RowKit
open Go.ChangeMaps (open_string shut_string)
set_option linter.unusedVariables false
set_option maxRecDepth 100000 in
theorem lifted (os : Os) (started : os.Started) (H : Type) (enc : TypeId × Value → H) :
    ReturnsInHanded {} Tryd.checked os 4 .any (fun w args => (Rows.batchMeetsSpec.pre enc Tryd.prog Tryd.f4 [] false w args ∧ laidMetH Tryd.prog laid2 w) ∧ sizedMet enc Tryd.prog Tryd.f4 (OpenSpec.ofChange Rows.batchMeetsSpec) false w args)
      (Rows.batchMeetsSpec.post enc Tryd.prog Tryd.f4 false true false false) := by
  refine returnsInHanded_of_change_and (C := Tryd.checked) (X := fun w _ => laidMetH Tryd.prog laid2 w) (fun _ _ _ hh h => h.of_heap hh) own started (by kernel_rfl) Tryd.func4
    (ChangeSpec.witness_shaped (enc := enc) (C := Tryd.checked) (os := os) (X := fun w _ => laidMetH Tryd.prog laid2 w) false (World.doorLaid Tryd.prog 400 os) #[.agg #[.bool false, .slice none 0 0], .agg #[.bool false, .slice none 0 0]] 8 rfl (World.shaped_of_RefB (by kernel_rfl) (by kernel_rfl)) (by kernel_rfl) (by kernel_rfl) (by kernel_rfl) (door_met os _)) ?_
  intro W base args ds gs before hval0 hW _ _ hL _
  have hval : ∀ (j : Nat) t v, Tryd.f4.params[j]? = some t → args[j]? = some v → Value.okWide Tryd.prog W .any base t v := hval0
  have hW' := hW
  obtain ⟨p, q, hA0, hV, rfl, hfz, hnd⟩ := hW
  have hA : DataW.TrodAll enc Tryd.prog W 0 (fun _ => true) true Tryd.f4.params.toList args.toList ds p := hA0
  rw [Tryd.params4] at hA hval
  obtain ⟨v0, vs0, d0, ds0, p0, q0, hargs, rfl, rfl, h0, r0⟩ := trodAll_cons hA
  obtain ⟨v1, vs1, d1, ds1, p1, q1, rfl, rfl, rfl, h1, r1⟩ := trodAll_cons r0
  obtain ⟨rfl, rfl, rfl⟩ := trodAll_nil r1
  obtain rfl : args = #[v0, v1] := by cases args; simp_all
  obtain ⟨rfl, rfl⟩ := trodVars_none hV
  have k0 := h0
  have lt0 : ∀ x ∈ p0, x.block < W.heap.size := by obtain ⟨m, hm⟩ := k0; exact DataW.trod_lt m _ _ _ hm
  have k1 := h1
  have lt1 : ∀ x ∈ p1, x.block < W.heap.size := by obtain ⟨m, hm⟩ := k1; exact DataW.trod_lt m _ _ _ hm
  obtain ⟨q0, a0, cap0, rs0, rfl, hc0, hm0, row0⟩ : ∃ (q : Bool) (a : Option Addr) (cap : Nat) (rs : List Rq), v0 = batV q a rs.length cap ∧ rs.length ≤ cap ∧ cap ≤ maxLen ∧ ReqsAt W a rs := by
    obtain ⟨fuel, hf⟩ := h0
    exact open_batch (hval 0 24 v0 rfl rfl) hf
  obtain ⟨q1, a1, cap1, rs1, rfl, hc1, hm1, row1⟩ : ∃ (q : Bool) (a : Option Addr) (cap : Nat) (rs : List Rq), v1 = batV q a rs.length cap ∧ rs.length ≤ cap ∧ cap ≤ maxLen ∧ ReqsAt W a rs := by
    obtain ⟨fuel, hf⟩ := h1
    exact open_batch (hval 1 24 v1 rfl rfl) hf
  have hG := glob_of hL
  clear hA0 hval0
  refine (meets_walk q0 a0 cap0 rs0 q1 a1 cap1 rs1 W hG row0 hc0 hm0 row1 hc1 hm1).mono fun e W' ⟨he, bel⟩ => ?_
  subst he
  exact ⟨_, rfl, _, _, _, [], _, [], hW', trodAll_mk1 (shut_bool Tryd.underlying4 _), (trodAll_cons_mk (Below.trod laidOut (by kernel_rfl) (of_decide_eq_true (by kernel_rfl)) k0 bel lt0) (trodAll_cons_mk (Below.trod laidOut (by kernel_rfl) (of_decide_eq_true (by kernel_rfl)) k1 bel lt1) trodAll_mk0)), rfl, bel.frame _, fun h => by cases h⟩
theorem over : Rows.BatchMeetsSaid :=
  OpenClaim.holds_of_wide 4 Tryd.f4 rfl rfl rfl rfl rfl rfl rfl ⟨rfl, rfl, rfl, rfl, rfl⟩ rfl rfl rfl rfl rfl (by kernel_rfl) Tryd.func4 (by kernel_rfl)
    (of_decide_eq_true (by kernel_rfl)) (by unfold Func.isWrapper; first | (rw [if_pos (by decide +kernel)]; kernel_rfl) | (rw [if_neg (by decide +kernel)]; exact ⟨rfl, rfl⟩))
    (fun os started H enc _ => lifted os started H enc)
end Go.Proofs.YtinpbnkmpplkiaaDoor.batchMeets
namespace Go.Proofs.YtinpbnkmpplkiaaDoor
theorem batchMeets_card : Rows.BatchMeetsCardSaid :=
  Claim7.holds_tied_plain_at .later [] [.data, .data] true (true, "61a8ae4d0ddc459a7597b5b9a09190dd4627ce038268ad30758d36005a2cb3ab") false
    batchMeets.over (fun _ h => by cases h) (by kernel_rfl) (fun _ h => by cases h) batchMeets_row_tie rfl ⟨rfl, rfl⟩ (by kernel_rfl) rfl
    (fun f fn hf hfn => by
      obtain rfl : f = 4 := Option.some.inj ((show Tryd.prog.funcNamed "raddle/raddlelaw07.BatchMeets" = some 4 by kernel_rfl).symm.trans hf) |>.symm
      obtain rfl : fn = Tryd.f4 := (Option.some.inj (Tryd.func4.symm.trans hfn)).symm
      exact ⟨by kernel_rfl, fun j t ht => by
        rw [Tryd.params4] at ht
        rcases j with _ | _ | j
        · obtain rfl : t = 24 := by simpa using ht.symm
          exact (show Tryd.prog.wantsStandIn 24 = false by kernel_rfl)
        · obtain rfl : t = 24 := by simpa using ht.symm
          exact (show Tryd.prog.wantsStandIn 24 = false by kernel_rfl)
        · simp at ht⟩)
    (by kernel_rfl)
#print axioms batchMeets_card
end Go.Proofs.YtinpbnkmpplkiaaDoor
