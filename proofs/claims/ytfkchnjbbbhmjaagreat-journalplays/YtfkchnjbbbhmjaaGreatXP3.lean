/- the document's tape: power goes -/
import Derived.Test.YtfkchnjbbbhmjaaGreatXP2
namespace Go.Proofs.YtfkchnjbbbhmjaaGreat
open Go.RowKit
/-- one area has lost what was not sure -/
def Mt.lostA (M : Mt) (k : Bool) (keep : Int) : Mt := M.setA k ((M.get k).take (keptN keep (M.get k).length (M.sr k))) (keptN keep (M.get k).length (M.sr k))
theorem Mt.ok.lostA {M : Mt} (h : M.ok) (k : Bool) (keep : Int) : (M.lostA k keep).ok := by
  have h1 := keptN_le keep h.sa
  have h2 := keptN_le keep h.sb
  have h3 := h.rm
  cases k
  · exact ⟨fun z hz => h.za z (List.mem_of_mem_take hz), h.zb, by simp only [Mt.lostA, Mt.setA, Mt.get, Mt.sr, List.length_take]; omega, h.sb, by simp only [Mt.lostA, Mt.setA, Mt.get, Mt.sr, List.length_take]; omega, h.rl, h.pa⟩
  · exact ⟨h.za, fun z hz => h.zb z (List.mem_of_mem_take hz), h.sa, by simp only [Mt.lostA, Mt.setA, Mt.get, Mt.sr, List.length_take]; omega, by simp only [Mt.lostA, Mt.setA, Mt.get, Mt.sr, List.length_take]; omega, h.rl, h.pa⟩
theorem lose_eq (M : Mt) (keep : Int) : M.lose keep = { (M.lostA false keep).lostA true keep with on := false, pl := false, fa := wrap64 (M.fa + 1) } := rfl
theorem row_new {w : World} {B R n : Nat} {v : Value} {zs : List Int} (h : w.ownsRow B 5 1 v n (v8 zs)) (hl : zs.length = n) (hR : R < B) (hz : ∀ z ∈ zs, 0 ≤ z ∧ z < 256) (hm : n ≤ 1073741824) :
    ∃ a cap, v = .slice a n cap ∧ RowN w R a cap zs ∧ ∀ x, a = some x → B ≤ x.block := by
  subst hl
  have hm' : zs.length ≤ maxLen := by unfold maxLen; omega
  rcases own_range h with ⟨rfl, h0, _⟩ | ⟨g, cap, rfl, hb', hg, hn, hcm, hrr⟩
  · have e0 : zs = [] := List.eq_nil_of_length_eq_zero h0
    subst e0
    exact ⟨none, 0, rfl, RowN.none, by simp⟩
  · exact ⟨_, cap, rfl, ⟨⟨hm', hz, .inr ⟨g, 0, rfl, hg, hrr⟩⟩, (fun x hx => by cases hx; exact ⟨by show g ≠ R; omega, hg⟩), (fun q => by cases q), hn, hcm⟩, (fun x hx => by cases hx; exact hb')⟩
theorem below_gr {B : Nat} {w w1 w2 : World} {v : Value} {n : Nat} {xs : List Value} (hb : Below B w w1) (hB : B ≤ w1.heap.size) (ho : w1.ownsRow B 5 1 v n xs) (hg : w1.grownBy w2 v.ownBlock) : Below B w w2 :=
  hb.grown hg hB (fun k hk => (ho.lt k hk).1)
theorem lostR_0 {w W W1 : World} {t : Rv} {M : Mt} (h : RefAt w t M) (keep : Int) (m : Nat) (hm : keptN keep M.a.length M.sa = m) (hB : Below w.heap.size w W) {a : Option Addr} {cap : Nat} (hr : RowN W t.r a cap (M.a.take m)) (hn : ∀ x, a = some x → w.heap.size ≤ x.block)
    (hB1 : Below (W.setCell ⟨t.r, 1, none⟩ (.slice a m cap)).heap.size (W.setCell ⟨t.r, 1, none⟩ (.slice a m cap)) W1) : RTurned w (W1.setCell ⟨t.r, 3, none⟩ (.int .i64 (m : Int))) t (M.lostA false keep) := by
  have hW := h.below hB
  have hml : (M.a.take m).length = m := by rw [List.length_take, ← hm]; have := keptN_le keep h.ok.sa; omega
  have hc := (((CellsR.start hW).set 1 (.slice a m cap)).below hB1).set 3 (.int .i64 (m : Int))
  have e : M.lostA false keep = { M with a := M.a.take m, sa := m } := by rw [← hm]; rfl
  have hok := h.ok.lostA false keep
  rw [e] at hok ⊢
  refine RTurned.of_cells (t := t) (t' := { t with aa := a, ca := cap }) hB ?_ rfl hr hW.rb (fun x hx => .inr (hn x hx)) (fun x hx => .inl (.inr (.inr ⟨x, hx, rfl⟩))) h.px hok
  have e2 : rcells { t with aa := a, ca := cap } { M with a := M.a.take m, sa := m } = ((rcells t M).set 1 (.slice a m cap)).set 3 (.int .i64 (m : Int)) := by
    unfold rcells
    rw [hml]
    rfl
  rw [e2]
  exact hc
theorem lostR_1 {w W W1 : World} {t : Rv} {M : Mt} (h : RefAt w t M) (keep : Int) (m : Nat) (hm : keptN keep M.b.length M.sb = m) (hB : Below w.heap.size w W) {a : Option Addr} {cap : Nat} (hr : RowN W t.r a cap (M.b.take m)) (hn : ∀ x, a = some x → w.heap.size ≤ x.block)
    (hB1 : Below (W.setCell ⟨t.r, 2, none⟩ (.slice a m cap)).heap.size (W.setCell ⟨t.r, 2, none⟩ (.slice a m cap)) W1) : RTurned w (W1.setCell ⟨t.r, 4, none⟩ (.int .i64 (m : Int))) t (M.lostA true keep) := by
  have hW := h.below hB
  have hml : (M.b.take m).length = m := by rw [List.length_take, ← hm]; have := keptN_le keep h.ok.sb; omega
  have hc := (((CellsR.start hW).set 2 (.slice a m cap)).below hB1).set 4 (.int .i64 (m : Int))
  have e : M.lostA true keep = { M with b := M.b.take m, sb := m } := by rw [← hm]; rfl
  have hok := h.ok.lostA true keep
  rw [e] at hok ⊢
  refine RTurned.of_cells (t := t) (t' := { t with ab := a, cb := cap }) hB ?_ rfl hW.ra hr (fun x hx => .inl (.inr (.inl ⟨x, hx, rfl⟩))) (fun x hx => .inr (hn x hx)) h.px hok
  have e2 : rcells { t with ab := a, cb := cap } { M with b := M.b.take m, sb := m } = ((rcells t M).set 2 (.slice a m cap)).set 4 (.int .i64 (m : Int)) := by
    unfold rcells
    rw [hml]
    rfl
  rw [e2]
  exact hc
set_option maxRecDepth 100000 in
set_option maxHeartbeats 8000000 in
theorem rgone_any (t : Rv) (M0 : Mt) (keep : Int) (w : World) (h : RefAt w t M0) :
    Calls Tryz.prog 53 #[rptr t, .int .i64 keep] w fun e w' => e = .returned (.tuple #[]) ∧ RTurned w w' t (M0.lose keep) := by
  have hB0 := RTurned.same h (Below.refl _ _)
  obtain ⟨M1, hM1⟩ : ∃ M1, Hid (M0.lostA false keep = M1) := ⟨_, hide rfl⟩
  obtain ⟨M2, hM2⟩ : ∃ M2, Hid (M1.lostA true keep = M2) := ⟨_, hide rfl⟩
  have hfa : M2.fa = M0.fa := by rw [← hM2.out, ← hM1.out]; rfl
  have hL : Hid (M0.lose keep = { M2 with on := false, pl := false, fa := wrap64 (M2.fa + 1) }) := hide (by rw [hfa, lose_eq, hM1.out, hM2.out])
  rw [hL.out]
  clear hL hfa h
  unfold rptr
  go_enter Tryz.func53, Tryz.ntmps53
  go_wp2_with fail
  go_loopw [4] (fun iv wr => (iv = .int .i64 0 ∧ RTurned w wr t M0) ∨ (iv = .int .i64 1 ∧ RTurned w wr t M1) ∨ (iv = .int .i64 2 ∧ RTurned w wr t M2)) (fun iv _ => 2 - (intOf iv).toNat)
  case atStart => exact .inl ⟨rfl, hB0⟩
  case round =>
    clear hB0
    obtain ⟨wo, rfl⟩ : ∃ wo, wo = wr := ⟨_, rfl⟩
    rcases hrel with ⟨rfl, ⟨r1, aa1, ca1, ab1, cb1, x1, y1⟩, p1, h1, o1, n1⟩ | ⟨rfl, ⟨r1, aa1, ca1, ab1, cb1, x1, y1⟩, p1, h1, o1, n1⟩ | ⟨rfl, ⟨r1, aa1, ca1, ab1, cb1, x1, y1⟩, p1, h1, o1, n1⟩
    · obtain rfl : r1 = t.r := p1
      obtain ⟨M, hM⟩ : ∃ M, M = M0 := ⟨_, rfl⟩
      rw [← hM] at h1
      have HM : Hid (M.lostA false keep = M1) := hide (by rw [hM]; exact hM1.out)
      clear hM hM1 hM2
      have q1 : wo.cell? ⟨t.r, 1, none⟩ = some (.slice aa1 M.a.length ca1) := h1.cell 1 rfl
      have q3 : wo.cell? ⟨t.r, 3, none⟩ = some (.int .i64 (M.sa : Int)) := h1.cell 3 rfl
      obtain ⟨m, hm⟩ : ∃ m, Hid (keptN keep M.a.length M.sa = m) := ⟨_, hide rfl⟩
      have hle : m ≤ M.a.length := by rw [← hm.out]; exact keptN_le keep h1.ok.sa
      have hsl := h1.ok.sa
      have hrl : M.a.length ≤ 1073741824 := by have := h1.ok.rm; have := h1.ok.rl; omega
      have hml : (M.a.take m).length = m := by rw [List.length_take]; omega
      have hzt : ∀ z ∈ M.a.take m, 0 ≤ z ∧ z < 256 := fun z hz => h1.ok.za z (List.mem_of_mem_take hz)
      have hmc : m ≤ ca1 := Nat.le_trans hle h1.ra.le
      have hcm : ca1 ≤ maxLen := h1.ra.cm
      have nl : 0 ≤ (M.a.length : Int) - M.sa := by omega
      have nh : (M.a.length : Int) - M.sa ≤ 1073741824 := by omega
      have hmm : 0 + (M.a.take m).length ≤ 100000000000 := by omega
      have hmk : (m : Int) = (M.sa : Int) + max 0 (min keep ((M.a.length : Int) - M.sa)) := by rw [← hm.out]; unfold keptN; omega
      have hmI : (m : Int) ≤ (ca1 : Int) := by omega
      by_cases hk : keep < (M.a.length : Int) - M.sa
      · by_cases hk0 : keep < 0
        · have HE : Hid (IntKind.i64.wrap (M.sa : Int) = (m : Int)) := hide (by
            have e : (M.sa : Int) = (m : Int) := by omega
            rw [e]; exact wrap_small m (by omega))
          clear hmk
          go_wp2_with fail
          go_quiet (fail)
          go_wp2_with fail
          obtain ⟨w8, hw8⟩ : ∃ w8, (wo.drewN nq).drew = w8 := ⟨_, rfl⟩
          have hB8 : Below wo.heap.size wo w8 := by rw [← hw8]; exact (below_drewN (Below.refl _ _) _).drew
          have h8 := h1.below hB8
          have hbA : Below w8.heap.size w8 (w8.alloc (.cells #[] 5)) := (Below.refl _ _).alloc (Nat.le_refl _) _
          have kS : ∀ W, Below w8.heap.size w8 W → W.cell? ⟨t.r, 3, none⟩ = some (.int .i64 (M.sa : Int)) := fun W hW => (h8.below hW).cell 3 rfl
          have kB : ∀ W, Below w8.heap.size w8 W → W.cell? ⟨t.r, 1, none⟩ = some (.slice aa1 M.a.length ca1) := fun W hW => (h8.below hW).cell 1 rfl
          have hrfl : Value.slice aa1 m ca1 = .slice aa1 (M.a.take m).length ca1 := by rw [hml]
          have hrow : RowAt (w8.alloc (.cells #[] 5)) aa1 (M.a.take m) := (h8.below hbA).ra.row.take m
          refine hs_begin (S := (fun w' : World => w'.cell? ⟨t.r, 3, none⟩ = some (.int .i64 (M.sa : Int)))) 23 rfl (by kernel_rfl) ?_
          rw [hw8]
          clear hw8
          have hS : (fun w' : World => w'.cell? ⟨t.r, 3, none⟩ = some (.int .i64 (M.sa : Int))) w8 := kS _ (Below.refl _ _)
          refine hs_take (i := 0) (d := some 29) (v := ?_) rfl (by kernel_rfl) (by kernel_rfl) (by kernel_rfl) (by rfl) ?_ hS rfl ?_
          rotate_left
          · intro w' hw
            go_simp
            try with_reducible rfl
          simp only [Act.put, List.setIfInBounds_toArray, List.set_cons_zero, List.set_cons_succ]
          refine hs_take (i := 1) (d := some 30) (v := ?_) rfl (by kernel_rfl) (by kernel_rfl) (by kernel_rfl) (by rfl) ?_ hS rfl ?_
          rotate_left
          · intro w' hw
            go_simp
            try with_reducible rfl
          simp only [Act.put, List.setIfInBounds_toArray, List.set_cons_zero, List.set_cons_succ]
          refine hs_take (i := 3) (d := some 32) (v := ?_) rfl (by kernel_rfl) (by kernel_rfl) (by kernel_rfl) (by rfl) ?_ hS rfl ?_
          rotate_left
          · intro w' hw
            go_simp
            try with_reducible rfl
          simp only [Act.put, List.setIfInBounds_toArray, List.set_cons_zero, List.set_cons_succ]
          refine hs_take (i := 4) (d := some 33) (v := ?_) rfl (by kernel_rfl) (by kernel_rfl) (by kernel_rfl) (by rfl) ?_ hS rfl ?_
          rotate_left
          · intro w' hw
            go_simp
            try with_reducible rfl
          simp only [Act.put, List.setIfInBounds_toArray, List.set_cons_zero, List.set_cons_succ]
          refine hs_take (i := 5) (d := some 34) (v := ?_) rfl (by kernel_rfl) (by kernel_rfl) (by kernel_rfl) (by rfl) ?_ hS rfl ?_
          rotate_left
          · intro w' hw
            go_simp
            try with_reducible rfl
          simp only [Act.put, List.setIfInBounds_toArray, List.set_cons_zero, List.set_cons_succ]
          refine hs_take (i := 6) (d := some 35) (v := ?_) rfl (by kernel_rfl) (by kernel_rfl) (by kernel_rfl) (by rfl) ?_ hS rfl ?_
          rotate_left
          · intro w' hw
            go_simp
            try with_reducible rfl
          simp only [Act.put, List.setIfInBounds_toArray, List.set_cons_zero, List.set_cons_succ]
          refine hs_take (i := 7) (d := some 36) (v := ?_) rfl (by kernel_rfl) (by kernel_rfl) (by kernel_rfl) (by rfl) ?_ hS rfl ?_
          rotate_left
          · intro w' hw
            go_simp
            try with_reducible rfl
          simp only [Act.put, List.setIfInBounds_toArray, List.set_cons_zero, List.set_cons_succ]
          refine hs_take (i := 9) (d := some 38) (v := ?_) rfl (by kernel_rfl) (by kernel_rfl) (by kernel_rfl) (by rfl) ?_ hS rfl ?_
          rotate_left
          · intro w' hw
            go_simp
            try with_reducible rfl
          simp only [Act.put, List.setIfInBounds_toArray, List.set_cons_zero, List.set_cons_succ]
          refine hs_take (i := 10) (d := some 39) (v := ?_) rfl (by kernel_rfl) (by kernel_rfl) (by kernel_rfl) (by rfl) ?_ hS rfl ?_
          rotate_left
          · intro w' hw
            go_simp
            try with_reducible rfl
          simp only [Act.put, List.setIfInBounds_toArray, List.set_cons_zero, List.set_cons_succ]
          refine hs_take (i := 11) (d := some 40) (v := ?_) rfl (by kernel_rfl) (by kernel_rfl) (by kernel_rfl) (by rfl) ?_ hS rfl ?_
          rotate_left
          · intro w' hw
            go_simp
            try with_reducible rfl
          simp only [Act.put, List.setIfInBounds_toArray, List.set_cons_zero, List.set_cons_succ]
          refine hs_take (i := 12) (d := some 41) (v := ?_) rfl (by kernel_rfl) (by kernel_rfl) (by kernel_rfl) (by rfl) ?_ hS rfl ?_
          rotate_left
          · intro w' hw
            go_simp
            try with_reducible rfl
          simp only [Act.put, List.setIfInBounds_toArray, List.set_cons_zero, List.set_cons_succ]
          refine hs_take (i := 13) (d := some 42) (v := ?_) rfl (by kernel_rfl) (by kernel_rfl) (by kernel_rfl) (by rfl) ?_ hS rfl ?_
          rotate_left
          · intro w' hw
            go_simp
            try with_reducible rfl
          simp only [Act.put, List.setIfInBounds_toArray, List.set_cons_zero, List.set_cons_succ]
          refine hs_take (i := 14) (d := some 43) (v := ?_) rfl (by kernel_rfl) (by kernel_rfl) (by kernel_rfl) (by rfl) ?_ hS rfl ?_
          rotate_left
          · intro w' hw
            have hc : w'.cell? ⟨t.r, 3, none⟩ = some (.int .i64 (M.sa : Int)) := hw
            go_simp
            try with_reducible rfl
          simp only [Act.put, List.setIfInBounds_toArray, List.set_cons_zero, List.set_cons_succ]
          refine hs_take (i := 15) (d := some 44) (v := ?_) rfl (by kernel_rfl) (by kernel_rfl) (by kernel_rfl) (by rfl) ?_ hS rfl ?_
          rotate_left
          · intro w' hw
            go_simp
            try with_reducible rfl
          simp only [Act.put, List.setIfInBounds_toArray, List.set_cons_zero, List.set_cons_succ]
          refine hs_take (i := 16) (d := some 45) (v := ?_) rfl (by kernel_rfl) (by kernel_rfl) (by kernel_rfl) (by rfl) ?_ hS rfl ?_
          rotate_left
          · intro w' hw
            go_simp
            try with_reducible rfl
          simp only [Act.put, List.setIfInBounds_toArray, List.set_cons_zero, List.set_cons_succ]
          rw [HE.out]
          refine hs_take (i := 19) (d := some 48) (v := ?_) rfl (by kernel_rfl) (by kernel_rfl) (by kernel_rfl) (by rfl) ?_ hS rfl ?_
          rotate_left
          · intro w' hw
            go_simp
            try with_reducible rfl
          simp only [Act.put, List.setIfInBounds_toArray, List.set_cons_zero, List.set_cons_succ]
          refine hs_take (i := 20) (d := some 49) (v := ?_) rfl (by kernel_rfl) (by kernel_rfl) (by kernel_rfl) (by rfl) ?_ hS rfl ?_
          rotate_left
          · intro w' hw
            go_simp
            try with_reducible rfl
          simp only [Act.put, List.setIfInBounds_toArray, List.set_cons_zero, List.set_cons_succ]
          refine hs_forkL (l := [2, 8]) (by kernel_rfl) (by simp) ?_
          intro ii hii
          simp only [List.mem_cons, List.not_mem_nil, or_false] at hii
          rcases hii with rfl | rfl
          · refine st_runX (i := 2) (d := some 31) rfl (by rfl) rfl (ex_bs0 rfl) ?_
            rintro vB W' ⟨rfl, rfl⟩
            refine ⟨kS _ hbA, ?_⟩
            simp only [Act.put, List.setIfInBounds_toArray, List.set_cons_zero, List.set_cons_succ]
            refine hs_runX (i := 8) (d := some 37) rfl (by kernel_rfl) (by rfl) rfl (ex_load rfl rfl (kB _ hbA)) ?_
            rintro vA W' ⟨rfl, hx⟩
            obtain rfl := hx.symm
            clear hx
            refine ⟨kS _ hbA, ?_⟩
            simp only [Act.put, List.setIfInBounds_toArray, List.set_cons_zero, List.set_cons_succ]
            have hS := kS _ hbA
            refine hs_take (i := 17) (d := some 46) (v := .slice aa1 m ca1) rfl (by kernel_rfl) (by kernel_rfl) (by kernel_rfl) (by rfl) (fun w' hw => by go_simp) hS rfl ?_
            simp only [Act.put, List.setIfInBounds_toArray, List.set_cons_zero, List.set_cons_succ]
            refine hs_runX (i := 18) (d := some 47) rfl (by kernel_rfl) (by rfl) rfl (ex_append rfl rfl hrfl (owns_new0 w8) (by simp) hrow hmm) ?_
            rintro vD W' ⟨hownD, hgrD⟩
            have hBD := below_gr hbA (by simp) (owns_new0 w8) hgrD
            rw [Nat.zero_add, List.nil_append] at hownD
            refine ⟨kS _ hBD, ?_⟩
            simp only [Act.put, List.setIfInBounds_toArray, List.set_cons_zero, List.set_cons_succ]
            obtain ⟨na, ncap, rfl, hRN, hNB⟩ := row_new hownD rfl (R := t.r) h8.lt hzt (by omega)
            have hS := kS _ hBD
            rw [hml]
            refine hs_take (i := 21) (d := some 50) (v := ?_) rfl (by kernel_rfl) (by kernel_rfl) (by kernel_rfl) (by rfl) ?_ hS rfl ?_
            rotate_left
            · intro w' hw
              go_simp
              try with_reducible rfl
            simp only [Act.put, List.setIfInBounds_toArray, List.set_cons_zero, List.set_cons_succ]
            have hth := (h8.below hBD).th
            have hst := run_store1 (P := Tryz.prog) W' t.r 1 35 (.slice na m ncap) (by have := there_part hth 1 1 (by omega); rwa [Nat.zero_add] at this) iszBs rfl
            refine hs_store (i := 22) rfl (by kernel_rfl) (by rfl) (exec_storeP rfl rfl rfl hst) rfl (set_there hS (by omega)) ?_
            refine hs_done (by kernel_rfl) ?_
            have xX : (W'.setCell ⟨t.r, 1, none⟩ (.slice na m ncap)).cell? ⟨t.r, 1, none⟩ = some (.slice na m ncap) := World.cell?_setCell_same _ _ _ (kB _ hBD)
            have hthY := there_set hth ⟨t.r, 1, none⟩ (.slice na m ncap)
            obtain ⟨wY, hwY⟩ : ∃ wY, W'.setCell ⟨t.r, 1, none⟩ (.slice na m ncap) = wY := ⟨_, rfl⟩
            have HX : Hid (∀ W1, Below wY.heap.size wY W1 → RTurned w (W1.setCell ⟨t.r, 3, none⟩ (.int .i64 (m : Int))) t (M.lostA false keep)) := hide (fun W1 hb => by
              rw [← hwY] at hb
              exact RTurned.trans (t1 := ⟨t.r, aa1, ca1, ab1, cb1, x1, y1⟩) rfl o1 n1 (lostR_0 h1 keep m hm.out (hB8.trans (hBD.mono hB8.size)) hRN (fun x hx => Nat.le_trans hB8.size (hNB x hx)) hb))
            rw [hwY] at xX hthY ⊢
            clear hwY hst hS hownD hgrD hBD hRN hNB kS hrow hbA h8 hB8
            go_wp2_with fail
            obtain ⟨wX, hwX⟩ : ∃ wX, wY.drew = wX := ⟨_, rfl⟩
            have hBX : Below wY.heap.size wY wX := by rw [← hwX]; exact (Below.refl _ _).drew
            have hxX : wX.cell? ⟨t.r, 1, none⟩ = some (.slice na m ncap) := by rw [← hwX]; exact xX
            have hthX : wX.there t.r 0 11 := by rw [← hwX]; exact (World.there_drew _ _ _ _).2 hthY
            refine hs_begin (S := (fun w' : World => w'.cell? ⟨t.r, 1, none⟩ = some (.slice na m ncap))) 13 rfl (by kernel_rfl) ?_
            rw [hwX]
            clear hwX
            have hS : (fun w' : World => w'.cell? ⟨t.r, 1, none⟩ = some (.slice na m ncap)) wX := hxX
            refine hs_take (i := 0) (d := some 51) (v := ?_) rfl (by kernel_rfl) (by kernel_rfl) (by kernel_rfl) (by rfl) ?_ hS rfl ?_
            rotate_left
            · intro w' hw
              go_simp
              try with_reducible rfl
            simp only [Act.put, List.setIfInBounds_toArray, List.set_cons_zero, List.set_cons_succ]
            refine hs_take (i := 1) (d := some 52) (v := ?_) rfl (by kernel_rfl) (by kernel_rfl) (by kernel_rfl) (by rfl) ?_ hS rfl ?_
            rotate_left
            · intro w' hw
              go_simp
              try with_reducible rfl
            simp only [Act.put, List.setIfInBounds_toArray, List.set_cons_zero, List.set_cons_succ]
            refine hs_take (i := 2) (d := some 53) (v := ?_) rfl (by kernel_rfl) (by kernel_rfl) (by kernel_rfl) (by rfl) ?_ hS rfl ?_
            rotate_left
            · intro w' hw
              go_simp
              try with_reducible rfl
            simp only [Act.put, List.setIfInBounds_toArray, List.set_cons_zero, List.set_cons_succ]
            refine hs_take (i := 3) (d := some 54) (v := ?_) rfl (by kernel_rfl) (by kernel_rfl) (by kernel_rfl) (by rfl) ?_ hS rfl ?_
            rotate_left
            · intro w' hw
              go_simp
              try with_reducible rfl
            simp only [Act.put, List.setIfInBounds_toArray, List.set_cons_zero, List.set_cons_succ]
            refine hs_take (i := 4) (d := some 55) (v := ?_) rfl (by kernel_rfl) (by kernel_rfl) (by kernel_rfl) (by rfl) ?_ hS rfl ?_
            rotate_left
            · intro w' hw
              go_simp
              try with_reducible rfl
            simp only [Act.put, List.setIfInBounds_toArray, List.set_cons_zero, List.set_cons_succ]
            refine hs_take (i := 5) (d := some 56) (v := ?_) rfl (by kernel_rfl) (by kernel_rfl) (by kernel_rfl) (by rfl) ?_ hS rfl ?_
            rotate_left
            · intro w' hw
              go_simp
              try with_reducible rfl
            simp only [Act.put, List.setIfInBounds_toArray, List.set_cons_zero, List.set_cons_succ]
            refine hs_take (i := 6) (d := some 57) (v := ?_) rfl (by kernel_rfl) (by kernel_rfl) (by kernel_rfl) (by rfl) ?_ hS rfl ?_
            rotate_left
            · intro w' hw
              go_simp
              try with_reducible rfl
            simp only [Act.put, List.setIfInBounds_toArray, List.set_cons_zero, List.set_cons_succ]
            refine hs_take (i := 7) (d := some 58) (v := ?_) rfl (by kernel_rfl) (by kernel_rfl) (by kernel_rfl) (by rfl) ?_ hS rfl ?_
            rotate_left
            · intro w' hw
              have hc : w'.cell? ⟨t.r, 1, none⟩ = some (.slice na m ncap) := hw
              go_simp
              try with_reducible rfl
            simp only [Act.put, List.setIfInBounds_toArray, List.set_cons_zero, List.set_cons_succ]
            refine hs_take (i := 8) (d := some 59) (v := ?_) rfl (by kernel_rfl) (by kernel_rfl) (by kernel_rfl) (by rfl) ?_ hS rfl ?_
            rotate_left
            · intro w' hw
              go_simp
              try with_reducible rfl
            simp only [Act.put, List.setIfInBounds_toArray, List.set_cons_zero, List.set_cons_succ]
            refine hs_take (i := 9) (d := some 60) (v := ?_) rfl (by kernel_rfl) (by kernel_rfl) (by kernel_rfl) (by rfl) ?_ hS rfl ?_
            rotate_left
            · intro w' hw
              go_simp
              try with_reducible rfl
            simp only [Act.put, List.setIfInBounds_toArray, List.set_cons_zero, List.set_cons_succ]
            refine hs_take (i := 10) (d := some 61) (v := ?_) rfl (by kernel_rfl) (by kernel_rfl) (by kernel_rfl) (by rfl) ?_ hS rfl ?_
            rotate_left
            · intro w' hw
              go_simp
              try with_reducible rfl
            simp only [Act.put, List.setIfInBounds_toArray, List.set_cons_zero, List.set_cons_succ]
            refine hs_take (i := 11) (d := some 62) (v := ?_) rfl (by kernel_rfl) (by kernel_rfl) (by kernel_rfl) (by rfl) ?_ hS rfl ?_
            rotate_left
            · intro w' hw
              go_simp
              try with_reducible rfl
            simp only [Act.put, List.setIfInBounds_toArray, List.set_cons_zero, List.set_cons_succ]
            have hst := run_store1 (P := Tryz.prog) wX t.r 3 3 (.int .i64 (m : Int)) (by have := there_part hthX 3 1 (by omega); rwa [Nat.zero_add] at this) iszI rfl
            refine hs_store (i := 12) rfl (by kernel_rfl) (by rfl) (exec_storeP rfl rfl rfl hst) rfl (set_there hS (by omega)) ?_
            refine hs_done (by kernel_rfl) ?_
            have HF := hide (HX.out wX hBX)
            clear HX hS hst
            go_wp2_with fail
            go_roundw
            case rel => exact .inr (.inl ⟨rfl, by rw [HM.out] at HF; exact HF.out⟩)
            case measure => simp [intOf]
          · refine st_runX (i := 8) (d := some 37) rfl (by rfl) rfl (ex_load rfl rfl (kB _ (Below.refl _ _))) ?_
            rintro vA W' ⟨rfl, hx⟩
            obtain rfl := hx.symm
            clear hx
            refine ⟨hS, ?_⟩
            simp only [Act.put, List.setIfInBounds_toArray, List.set_cons_zero, List.set_cons_succ]
            refine hs_take (i := 17) (d := some 46) (v := .slice aa1 m ca1) rfl (by kernel_rfl) (by kernel_rfl) (by kernel_rfl) (by rfl) (fun w' hw => by go_simp) hS rfl ?_
            simp only [Act.put, List.setIfInBounds_toArray, List.set_cons_zero, List.set_cons_succ]
            refine hs_runX (i := 2) (d := some 31) rfl (by kernel_rfl) (by rfl) rfl (ex_bs0 rfl) ?_
            rintro vB W' ⟨rfl, rfl⟩
            refine ⟨kS _ hbA, ?_⟩
            simp only [Act.put, List.setIfInBounds_toArray, List.set_cons_zero, List.set_cons_succ]
            refine hs_runX (i := 18) (d := some 47) rfl (by kernel_rfl) (by rfl) rfl (ex_append rfl rfl hrfl (owns_new0 w8) (by simp) hrow hmm) ?_
            rintro vD W' ⟨hownD, hgrD⟩
            have hBD := below_gr hbA (by simp) (owns_new0 w8) hgrD
            rw [Nat.zero_add, List.nil_append] at hownD
            refine ⟨kS _ hBD, ?_⟩
            simp only [Act.put, List.setIfInBounds_toArray, List.set_cons_zero, List.set_cons_succ]
            obtain ⟨na, ncap, rfl, hRN, hNB⟩ := row_new hownD rfl (R := t.r) h8.lt hzt (by omega)
            have hS := kS _ hBD
            rw [hml]
            refine hs_take (i := 21) (d := some 50) (v := ?_) rfl (by kernel_rfl) (by kernel_rfl) (by kernel_rfl) (by rfl) ?_ hS rfl ?_
            rotate_left
            · intro w' hw
              go_simp
              try with_reducible rfl
            simp only [Act.put, List.setIfInBounds_toArray, List.set_cons_zero, List.set_cons_succ]
            have hth := (h8.below hBD).th
            have hst := run_store1 (P := Tryz.prog) W' t.r 1 35 (.slice na m ncap) (by have := there_part hth 1 1 (by omega); rwa [Nat.zero_add] at this) iszBs rfl
            refine hs_store (i := 22) rfl (by kernel_rfl) (by rfl) (exec_storeP rfl rfl rfl hst) rfl (set_there hS (by omega)) ?_
            refine hs_done (by kernel_rfl) ?_
            have xX : (W'.setCell ⟨t.r, 1, none⟩ (.slice na m ncap)).cell? ⟨t.r, 1, none⟩ = some (.slice na m ncap) := World.cell?_setCell_same _ _ _ (kB _ hBD)
            have hthY := there_set hth ⟨t.r, 1, none⟩ (.slice na m ncap)
            obtain ⟨wY, hwY⟩ : ∃ wY, W'.setCell ⟨t.r, 1, none⟩ (.slice na m ncap) = wY := ⟨_, rfl⟩
            have HX : Hid (∀ W1, Below wY.heap.size wY W1 → RTurned w (W1.setCell ⟨t.r, 3, none⟩ (.int .i64 (m : Int))) t (M.lostA false keep)) := hide (fun W1 hb => by
              rw [← hwY] at hb
              exact RTurned.trans (t1 := ⟨t.r, aa1, ca1, ab1, cb1, x1, y1⟩) rfl o1 n1 (lostR_0 h1 keep m hm.out (hB8.trans (hBD.mono hB8.size)) hRN (fun x hx => Nat.le_trans hB8.size (hNB x hx)) hb))
            rw [hwY] at xX hthY ⊢
            clear hwY hst hS hownD hgrD hBD hRN hNB kS hrow hbA h8 hB8
            go_wp2_with fail
            obtain ⟨wX, hwX⟩ : ∃ wX, wY.drew = wX := ⟨_, rfl⟩
            have hBX : Below wY.heap.size wY wX := by rw [← hwX]; exact (Below.refl _ _).drew
            have hxX : wX.cell? ⟨t.r, 1, none⟩ = some (.slice na m ncap) := by rw [← hwX]; exact xX
            have hthX : wX.there t.r 0 11 := by rw [← hwX]; exact (World.there_drew _ _ _ _).2 hthY
            refine hs_begin (S := (fun w' : World => w'.cell? ⟨t.r, 1, none⟩ = some (.slice na m ncap))) 13 rfl (by kernel_rfl) ?_
            rw [hwX]
            clear hwX
            have hS : (fun w' : World => w'.cell? ⟨t.r, 1, none⟩ = some (.slice na m ncap)) wX := hxX
            refine hs_take (i := 0) (d := some 51) (v := ?_) rfl (by kernel_rfl) (by kernel_rfl) (by kernel_rfl) (by rfl) ?_ hS rfl ?_
            rotate_left
            · intro w' hw
              go_simp
              try with_reducible rfl
            simp only [Act.put, List.setIfInBounds_toArray, List.set_cons_zero, List.set_cons_succ]
            refine hs_take (i := 1) (d := some 52) (v := ?_) rfl (by kernel_rfl) (by kernel_rfl) (by kernel_rfl) (by rfl) ?_ hS rfl ?_
            rotate_left
            · intro w' hw
              go_simp
              try with_reducible rfl
            simp only [Act.put, List.setIfInBounds_toArray, List.set_cons_zero, List.set_cons_succ]
            refine hs_take (i := 2) (d := some 53) (v := ?_) rfl (by kernel_rfl) (by kernel_rfl) (by kernel_rfl) (by rfl) ?_ hS rfl ?_
            rotate_left
            · intro w' hw
              go_simp
              try with_reducible rfl
            simp only [Act.put, List.setIfInBounds_toArray, List.set_cons_zero, List.set_cons_succ]
            refine hs_take (i := 3) (d := some 54) (v := ?_) rfl (by kernel_rfl) (by kernel_rfl) (by kernel_rfl) (by rfl) ?_ hS rfl ?_
            rotate_left
            · intro w' hw
              go_simp
              try with_reducible rfl
            simp only [Act.put, List.setIfInBounds_toArray, List.set_cons_zero, List.set_cons_succ]
            refine hs_take (i := 4) (d := some 55) (v := ?_) rfl (by kernel_rfl) (by kernel_rfl) (by kernel_rfl) (by rfl) ?_ hS rfl ?_
            rotate_left
            · intro w' hw
              go_simp
              try with_reducible rfl
            simp only [Act.put, List.setIfInBounds_toArray, List.set_cons_zero, List.set_cons_succ]
            refine hs_take (i := 5) (d := some 56) (v := ?_) rfl (by kernel_rfl) (by kernel_rfl) (by kernel_rfl) (by rfl) ?_ hS rfl ?_
            rotate_left
            · intro w' hw
              go_simp
              try with_reducible rfl
            simp only [Act.put, List.setIfInBounds_toArray, List.set_cons_zero, List.set_cons_succ]
            refine hs_take (i := 6) (d := some 57) (v := ?_) rfl (by kernel_rfl) (by kernel_rfl) (by kernel_rfl) (by rfl) ?_ hS rfl ?_
            rotate_left
            · intro w' hw
              go_simp
              try with_reducible rfl
            simp only [Act.put, List.setIfInBounds_toArray, List.set_cons_zero, List.set_cons_succ]
            refine hs_take (i := 7) (d := some 58) (v := ?_) rfl (by kernel_rfl) (by kernel_rfl) (by kernel_rfl) (by rfl) ?_ hS rfl ?_
            rotate_left
            · intro w' hw
              have hc : w'.cell? ⟨t.r, 1, none⟩ = some (.slice na m ncap) := hw
              go_simp
              try with_reducible rfl
            simp only [Act.put, List.setIfInBounds_toArray, List.set_cons_zero, List.set_cons_succ]
            refine hs_take (i := 8) (d := some 59) (v := ?_) rfl (by kernel_rfl) (by kernel_rfl) (by kernel_rfl) (by rfl) ?_ hS rfl ?_
            rotate_left
            · intro w' hw
              go_simp
              try with_reducible rfl
            simp only [Act.put, List.setIfInBounds_toArray, List.set_cons_zero, List.set_cons_succ]
            refine hs_take (i := 9) (d := some 60) (v := ?_) rfl (by kernel_rfl) (by kernel_rfl) (by kernel_rfl) (by rfl) ?_ hS rfl ?_
            rotate_left
            · intro w' hw
              go_simp
              try with_reducible rfl
            simp only [Act.put, List.setIfInBounds_toArray, List.set_cons_zero, List.set_cons_succ]
            refine hs_take (i := 10) (d := some 61) (v := ?_) rfl (by kernel_rfl) (by kernel_rfl) (by kernel_rfl) (by rfl) ?_ hS rfl ?_
            rotate_left
            · intro w' hw
              go_simp
              try with_reducible rfl
            simp only [Act.put, List.setIfInBounds_toArray, List.set_cons_zero, List.set_cons_succ]
            refine hs_take (i := 11) (d := some 62) (v := ?_) rfl (by kernel_rfl) (by kernel_rfl) (by kernel_rfl) (by rfl) ?_ hS rfl ?_
            rotate_left
            · intro w' hw
              go_simp
              try with_reducible rfl
            simp only [Act.put, List.setIfInBounds_toArray, List.set_cons_zero, List.set_cons_succ]
            have hst := run_store1 (P := Tryz.prog) wX t.r 3 3 (.int .i64 (m : Int)) (by have := there_part hthX 3 1 (by omega); rwa [Nat.zero_add] at this) iszI rfl
            refine hs_store (i := 12) rfl (by kernel_rfl) (by rfl) (exec_storeP rfl rfl rfl hst) rfl (set_there hS (by omega)) ?_
            refine hs_done (by kernel_rfl) ?_
            have HF := hide (HX.out wX hBX)
            clear HX hS hst
            go_wp2_with fail
            go_roundw
            case rel => exact .inr (.inl ⟨rfl, by rw [HM.out] at HF; exact HF.out⟩)
            case measure => simp [intOf]
        · have HE : Hid (IntKind.i64.wrap ((M.sa : Int) + keep) = (m : Int)) := hide (by
            have e : ((M.sa : Int) + keep) = (m : Int) := by omega
            rw [e]; exact wrap_small m (by omega))
          clear hmk
          go_wp2_with fail
          go_quiet (fail)
          go_wp2_with fail
          obtain ⟨w8, hw8⟩ : ∃ w8, (wo.drewN nq).drew = w8 := ⟨_, rfl⟩
          have hB8 : Below wo.heap.size wo w8 := by rw [← hw8]; exact (below_drewN (Below.refl _ _) _).drew
          have h8 := h1.below hB8
          have hbA : Below w8.heap.size w8 (w8.alloc (.cells #[] 5)) := (Below.refl _ _).alloc (Nat.le_refl _) _
          have kS : ∀ W, Below w8.heap.size w8 W → W.cell? ⟨t.r, 3, none⟩ = some (.int .i64 (M.sa : Int)) := fun W hW => (h8.below hW).cell 3 rfl
          have kB : ∀ W, Below w8.heap.size w8 W → W.cell? ⟨t.r, 1, none⟩ = some (.slice aa1 M.a.length ca1) := fun W hW => (h8.below hW).cell 1 rfl
          have hrfl : Value.slice aa1 m ca1 = .slice aa1 (M.a.take m).length ca1 := by rw [hml]
          have hrow : RowAt (w8.alloc (.cells #[] 5)) aa1 (M.a.take m) := (h8.below hbA).ra.row.take m
          refine hs_begin (S := (fun w' : World => w'.cell? ⟨t.r, 3, none⟩ = some (.int .i64 (M.sa : Int)))) 23 rfl (by kernel_rfl) ?_
          rw [hw8]
          clear hw8
          have hS : (fun w' : World => w'.cell? ⟨t.r, 3, none⟩ = some (.int .i64 (M.sa : Int))) w8 := kS _ (Below.refl _ _)
          refine hs_take (i := 0) (d := some 29) (v := ?_) rfl (by kernel_rfl) (by kernel_rfl) (by kernel_rfl) (by rfl) ?_ hS rfl ?_
          rotate_left
          · intro w' hw
            go_simp
            try with_reducible rfl
          simp only [Act.put, List.setIfInBounds_toArray, List.set_cons_zero, List.set_cons_succ]
          refine hs_take (i := 1) (d := some 30) (v := ?_) rfl (by kernel_rfl) (by kernel_rfl) (by kernel_rfl) (by rfl) ?_ hS rfl ?_
          rotate_left
          · intro w' hw
            go_simp
            try with_reducible rfl
          simp only [Act.put, List.setIfInBounds_toArray, List.set_cons_zero, List.set_cons_succ]
          refine hs_take (i := 3) (d := some 32) (v := ?_) rfl (by kernel_rfl) (by kernel_rfl) (by kernel_rfl) (by rfl) ?_ hS rfl ?_
          rotate_left
          · intro w' hw
            go_simp
            try with_reducible rfl
          simp only [Act.put, List.setIfInBounds_toArray, List.set_cons_zero, List.set_cons_succ]
          refine hs_take (i := 4) (d := some 33) (v := ?_) rfl (by kernel_rfl) (by kernel_rfl) (by kernel_rfl) (by rfl) ?_ hS rfl ?_
          rotate_left
          · intro w' hw
            go_simp
            try with_reducible rfl
          simp only [Act.put, List.setIfInBounds_toArray, List.set_cons_zero, List.set_cons_succ]
          refine hs_take (i := 5) (d := some 34) (v := ?_) rfl (by kernel_rfl) (by kernel_rfl) (by kernel_rfl) (by rfl) ?_ hS rfl ?_
          rotate_left
          · intro w' hw
            go_simp
            try with_reducible rfl
          simp only [Act.put, List.setIfInBounds_toArray, List.set_cons_zero, List.set_cons_succ]
          refine hs_take (i := 6) (d := some 35) (v := ?_) rfl (by kernel_rfl) (by kernel_rfl) (by kernel_rfl) (by rfl) ?_ hS rfl ?_
          rotate_left
          · intro w' hw
            go_simp
            try with_reducible rfl
          simp only [Act.put, List.setIfInBounds_toArray, List.set_cons_zero, List.set_cons_succ]
          refine hs_take (i := 7) (d := some 36) (v := ?_) rfl (by kernel_rfl) (by kernel_rfl) (by kernel_rfl) (by rfl) ?_ hS rfl ?_
          rotate_left
          · intro w' hw
            go_simp
            try with_reducible rfl
          simp only [Act.put, List.setIfInBounds_toArray, List.set_cons_zero, List.set_cons_succ]
          refine hs_take (i := 9) (d := some 38) (v := ?_) rfl (by kernel_rfl) (by kernel_rfl) (by kernel_rfl) (by rfl) ?_ hS rfl ?_
          rotate_left
          · intro w' hw
            go_simp
            try with_reducible rfl
          simp only [Act.put, List.setIfInBounds_toArray, List.set_cons_zero, List.set_cons_succ]
          refine hs_take (i := 10) (d := some 39) (v := ?_) rfl (by kernel_rfl) (by kernel_rfl) (by kernel_rfl) (by rfl) ?_ hS rfl ?_
          rotate_left
          · intro w' hw
            go_simp
            try with_reducible rfl
          simp only [Act.put, List.setIfInBounds_toArray, List.set_cons_zero, List.set_cons_succ]
          refine hs_take (i := 11) (d := some 40) (v := ?_) rfl (by kernel_rfl) (by kernel_rfl) (by kernel_rfl) (by rfl) ?_ hS rfl ?_
          rotate_left
          · intro w' hw
            go_simp
            try with_reducible rfl
          simp only [Act.put, List.setIfInBounds_toArray, List.set_cons_zero, List.set_cons_succ]
          refine hs_take (i := 12) (d := some 41) (v := ?_) rfl (by kernel_rfl) (by kernel_rfl) (by kernel_rfl) (by rfl) ?_ hS rfl ?_
          rotate_left
          · intro w' hw
            go_simp
            try with_reducible rfl
          simp only [Act.put, List.setIfInBounds_toArray, List.set_cons_zero, List.set_cons_succ]
          refine hs_take (i := 13) (d := some 42) (v := ?_) rfl (by kernel_rfl) (by kernel_rfl) (by kernel_rfl) (by rfl) ?_ hS rfl ?_
          rotate_left
          · intro w' hw
            go_simp
            try with_reducible rfl
          simp only [Act.put, List.setIfInBounds_toArray, List.set_cons_zero, List.set_cons_succ]
          refine hs_take (i := 14) (d := some 43) (v := ?_) rfl (by kernel_rfl) (by kernel_rfl) (by kernel_rfl) (by rfl) ?_ hS rfl ?_
          rotate_left
          · intro w' hw
            have hc : w'.cell? ⟨t.r, 3, none⟩ = some (.int .i64 (M.sa : Int)) := hw
            go_simp
            try with_reducible rfl
          simp only [Act.put, List.setIfInBounds_toArray, List.set_cons_zero, List.set_cons_succ]
          refine hs_take (i := 15) (d := some 44) (v := ?_) rfl (by kernel_rfl) (by kernel_rfl) (by kernel_rfl) (by rfl) ?_ hS rfl ?_
          rotate_left
          · intro w' hw
            go_simp
            try with_reducible rfl
          simp only [Act.put, List.setIfInBounds_toArray, List.set_cons_zero, List.set_cons_succ]
          refine hs_take (i := 16) (d := some 45) (v := ?_) rfl (by kernel_rfl) (by kernel_rfl) (by kernel_rfl) (by rfl) ?_ hS rfl ?_
          rotate_left
          · intro w' hw
            go_simp
            try with_reducible rfl
          simp only [Act.put, List.setIfInBounds_toArray, List.set_cons_zero, List.set_cons_succ]
          rw [HE.out]
          refine hs_take (i := 19) (d := some 48) (v := ?_) rfl (by kernel_rfl) (by kernel_rfl) (by kernel_rfl) (by rfl) ?_ hS rfl ?_
          rotate_left
          · intro w' hw
            go_simp
            try with_reducible rfl
          simp only [Act.put, List.setIfInBounds_toArray, List.set_cons_zero, List.set_cons_succ]
          refine hs_take (i := 20) (d := some 49) (v := ?_) rfl (by kernel_rfl) (by kernel_rfl) (by kernel_rfl) (by rfl) ?_ hS rfl ?_
          rotate_left
          · intro w' hw
            go_simp
            try with_reducible rfl
          simp only [Act.put, List.setIfInBounds_toArray, List.set_cons_zero, List.set_cons_succ]
          refine hs_forkL (l := [2, 8]) (by kernel_rfl) (by simp) ?_
          intro ii hii
          simp only [List.mem_cons, List.not_mem_nil, or_false] at hii
          rcases hii with rfl | rfl
          · refine st_runX (i := 2) (d := some 31) rfl (by rfl) rfl (ex_bs0 rfl) ?_
            rintro vB W' ⟨rfl, rfl⟩
            refine ⟨kS _ hbA, ?_⟩
            simp only [Act.put, List.setIfInBounds_toArray, List.set_cons_zero, List.set_cons_succ]
            refine hs_runX (i := 8) (d := some 37) rfl (by kernel_rfl) (by rfl) rfl (ex_load rfl rfl (kB _ hbA)) ?_
            rintro vA W' ⟨rfl, hx⟩
            obtain rfl := hx.symm
            clear hx
            refine ⟨kS _ hbA, ?_⟩
            simp only [Act.put, List.setIfInBounds_toArray, List.set_cons_zero, List.set_cons_succ]
            have hS := kS _ hbA
            refine hs_take (i := 17) (d := some 46) (v := .slice aa1 m ca1) rfl (by kernel_rfl) (by kernel_rfl) (by kernel_rfl) (by rfl) (fun w' hw => by go_simp) hS rfl ?_
            simp only [Act.put, List.setIfInBounds_toArray, List.set_cons_zero, List.set_cons_succ]
            refine hs_runX (i := 18) (d := some 47) rfl (by kernel_rfl) (by rfl) rfl (ex_append rfl rfl hrfl (owns_new0 w8) (by simp) hrow hmm) ?_
            rintro vD W' ⟨hownD, hgrD⟩
            have hBD := below_gr hbA (by simp) (owns_new0 w8) hgrD
            rw [Nat.zero_add, List.nil_append] at hownD
            refine ⟨kS _ hBD, ?_⟩
            simp only [Act.put, List.setIfInBounds_toArray, List.set_cons_zero, List.set_cons_succ]
            obtain ⟨na, ncap, rfl, hRN, hNB⟩ := row_new hownD rfl (R := t.r) h8.lt hzt (by omega)
            have hS := kS _ hBD
            rw [hml]
            refine hs_take (i := 21) (d := some 50) (v := ?_) rfl (by kernel_rfl) (by kernel_rfl) (by kernel_rfl) (by rfl) ?_ hS rfl ?_
            rotate_left
            · intro w' hw
              go_simp
              try with_reducible rfl
            simp only [Act.put, List.setIfInBounds_toArray, List.set_cons_zero, List.set_cons_succ]
            have hth := (h8.below hBD).th
            have hst := run_store1 (P := Tryz.prog) W' t.r 1 35 (.slice na m ncap) (by have := there_part hth 1 1 (by omega); rwa [Nat.zero_add] at this) iszBs rfl
            refine hs_store (i := 22) rfl (by kernel_rfl) (by rfl) (exec_storeP rfl rfl rfl hst) rfl (set_there hS (by omega)) ?_
            refine hs_done (by kernel_rfl) ?_
            have xX : (W'.setCell ⟨t.r, 1, none⟩ (.slice na m ncap)).cell? ⟨t.r, 1, none⟩ = some (.slice na m ncap) := World.cell?_setCell_same _ _ _ (kB _ hBD)
            have hthY := there_set hth ⟨t.r, 1, none⟩ (.slice na m ncap)
            obtain ⟨wY, hwY⟩ : ∃ wY, W'.setCell ⟨t.r, 1, none⟩ (.slice na m ncap) = wY := ⟨_, rfl⟩
            have HX : Hid (∀ W1, Below wY.heap.size wY W1 → RTurned w (W1.setCell ⟨t.r, 3, none⟩ (.int .i64 (m : Int))) t (M.lostA false keep)) := hide (fun W1 hb => by
              rw [← hwY] at hb
              exact RTurned.trans (t1 := ⟨t.r, aa1, ca1, ab1, cb1, x1, y1⟩) rfl o1 n1 (lostR_0 h1 keep m hm.out (hB8.trans (hBD.mono hB8.size)) hRN (fun x hx => Nat.le_trans hB8.size (hNB x hx)) hb))
            rw [hwY] at xX hthY ⊢
            clear hwY hst hS hownD hgrD hBD hRN hNB kS hrow hbA h8 hB8
            go_wp2_with fail
            obtain ⟨wX, hwX⟩ : ∃ wX, wY.drew = wX := ⟨_, rfl⟩
            have hBX : Below wY.heap.size wY wX := by rw [← hwX]; exact (Below.refl _ _).drew
            have hxX : wX.cell? ⟨t.r, 1, none⟩ = some (.slice na m ncap) := by rw [← hwX]; exact xX
            have hthX : wX.there t.r 0 11 := by rw [← hwX]; exact (World.there_drew _ _ _ _).2 hthY
            refine hs_begin (S := (fun w' : World => w'.cell? ⟨t.r, 1, none⟩ = some (.slice na m ncap))) 13 rfl (by kernel_rfl) ?_
            rw [hwX]
            clear hwX
            have hS : (fun w' : World => w'.cell? ⟨t.r, 1, none⟩ = some (.slice na m ncap)) wX := hxX
            refine hs_take (i := 0) (d := some 51) (v := ?_) rfl (by kernel_rfl) (by kernel_rfl) (by kernel_rfl) (by rfl) ?_ hS rfl ?_
            rotate_left
            · intro w' hw
              go_simp
              try with_reducible rfl
            simp only [Act.put, List.setIfInBounds_toArray, List.set_cons_zero, List.set_cons_succ]
            refine hs_take (i := 1) (d := some 52) (v := ?_) rfl (by kernel_rfl) (by kernel_rfl) (by kernel_rfl) (by rfl) ?_ hS rfl ?_
            rotate_left
            · intro w' hw
              go_simp
              try with_reducible rfl
            simp only [Act.put, List.setIfInBounds_toArray, List.set_cons_zero, List.set_cons_succ]
            refine hs_take (i := 2) (d := some 53) (v := ?_) rfl (by kernel_rfl) (by kernel_rfl) (by kernel_rfl) (by rfl) ?_ hS rfl ?_
            rotate_left
            · intro w' hw
              go_simp
              try with_reducible rfl
            simp only [Act.put, List.setIfInBounds_toArray, List.set_cons_zero, List.set_cons_succ]
            refine hs_take (i := 3) (d := some 54) (v := ?_) rfl (by kernel_rfl) (by kernel_rfl) (by kernel_rfl) (by rfl) ?_ hS rfl ?_
            rotate_left
            · intro w' hw
              go_simp
              try with_reducible rfl
            simp only [Act.put, List.setIfInBounds_toArray, List.set_cons_zero, List.set_cons_succ]
            refine hs_take (i := 4) (d := some 55) (v := ?_) rfl (by kernel_rfl) (by kernel_rfl) (by kernel_rfl) (by rfl) ?_ hS rfl ?_
            rotate_left
            · intro w' hw
              go_simp
              try with_reducible rfl
            simp only [Act.put, List.setIfInBounds_toArray, List.set_cons_zero, List.set_cons_succ]
            refine hs_take (i := 5) (d := some 56) (v := ?_) rfl (by kernel_rfl) (by kernel_rfl) (by kernel_rfl) (by rfl) ?_ hS rfl ?_
            rotate_left
            · intro w' hw
              go_simp
              try with_reducible rfl
            simp only [Act.put, List.setIfInBounds_toArray, List.set_cons_zero, List.set_cons_succ]
            refine hs_take (i := 6) (d := some 57) (v := ?_) rfl (by kernel_rfl) (by kernel_rfl) (by kernel_rfl) (by rfl) ?_ hS rfl ?_
            rotate_left
            · intro w' hw
              go_simp
              try with_reducible rfl
            simp only [Act.put, List.setIfInBounds_toArray, List.set_cons_zero, List.set_cons_succ]
            refine hs_take (i := 7) (d := some 58) (v := ?_) rfl (by kernel_rfl) (by kernel_rfl) (by kernel_rfl) (by rfl) ?_ hS rfl ?_
            rotate_left
            · intro w' hw
              have hc : w'.cell? ⟨t.r, 1, none⟩ = some (.slice na m ncap) := hw
              go_simp
              try with_reducible rfl
            simp only [Act.put, List.setIfInBounds_toArray, List.set_cons_zero, List.set_cons_succ]
            refine hs_take (i := 8) (d := some 59) (v := ?_) rfl (by kernel_rfl) (by kernel_rfl) (by kernel_rfl) (by rfl) ?_ hS rfl ?_
            rotate_left
            · intro w' hw
              go_simp
              try with_reducible rfl
            simp only [Act.put, List.setIfInBounds_toArray, List.set_cons_zero, List.set_cons_succ]
            refine hs_take (i := 9) (d := some 60) (v := ?_) rfl (by kernel_rfl) (by kernel_rfl) (by kernel_rfl) (by rfl) ?_ hS rfl ?_
            rotate_left
            · intro w' hw
              go_simp
              try with_reducible rfl
            simp only [Act.put, List.setIfInBounds_toArray, List.set_cons_zero, List.set_cons_succ]
            refine hs_take (i := 10) (d := some 61) (v := ?_) rfl (by kernel_rfl) (by kernel_rfl) (by kernel_rfl) (by rfl) ?_ hS rfl ?_
            rotate_left
            · intro w' hw
              go_simp
              try with_reducible rfl
            simp only [Act.put, List.setIfInBounds_toArray, List.set_cons_zero, List.set_cons_succ]
            refine hs_take (i := 11) (d := some 62) (v := ?_) rfl (by kernel_rfl) (by kernel_rfl) (by kernel_rfl) (by rfl) ?_ hS rfl ?_
            rotate_left
            · intro w' hw
              go_simp
              try with_reducible rfl
            simp only [Act.put, List.setIfInBounds_toArray, List.set_cons_zero, List.set_cons_succ]
            have hst := run_store1 (P := Tryz.prog) wX t.r 3 3 (.int .i64 (m : Int)) (by have := there_part hthX 3 1 (by omega); rwa [Nat.zero_add] at this) iszI rfl
            refine hs_store (i := 12) rfl (by kernel_rfl) (by rfl) (exec_storeP rfl rfl rfl hst) rfl (set_there hS (by omega)) ?_
            refine hs_done (by kernel_rfl) ?_
            have HF := hide (HX.out wX hBX)
            clear HX hS hst
            go_wp2_with fail
            go_roundw
            case rel => exact .inr (.inl ⟨rfl, by rw [HM.out] at HF; exact HF.out⟩)
            case measure => simp [intOf]
          · refine st_runX (i := 8) (d := some 37) rfl (by rfl) rfl (ex_load rfl rfl (kB _ (Below.refl _ _))) ?_
            rintro vA W' ⟨rfl, hx⟩
            obtain rfl := hx.symm
            clear hx
            refine ⟨hS, ?_⟩
            simp only [Act.put, List.setIfInBounds_toArray, List.set_cons_zero, List.set_cons_succ]
            refine hs_take (i := 17) (d := some 46) (v := .slice aa1 m ca1) rfl (by kernel_rfl) (by kernel_rfl) (by kernel_rfl) (by rfl) (fun w' hw => by go_simp) hS rfl ?_
            simp only [Act.put, List.setIfInBounds_toArray, List.set_cons_zero, List.set_cons_succ]
            refine hs_runX (i := 2) (d := some 31) rfl (by kernel_rfl) (by rfl) rfl (ex_bs0 rfl) ?_
            rintro vB W' ⟨rfl, rfl⟩
            refine ⟨kS _ hbA, ?_⟩
            simp only [Act.put, List.setIfInBounds_toArray, List.set_cons_zero, List.set_cons_succ]
            refine hs_runX (i := 18) (d := some 47) rfl (by kernel_rfl) (by rfl) rfl (ex_append rfl rfl hrfl (owns_new0 w8) (by simp) hrow hmm) ?_
            rintro vD W' ⟨hownD, hgrD⟩
            have hBD := below_gr hbA (by simp) (owns_new0 w8) hgrD
            rw [Nat.zero_add, List.nil_append] at hownD
            refine ⟨kS _ hBD, ?_⟩
            simp only [Act.put, List.setIfInBounds_toArray, List.set_cons_zero, List.set_cons_succ]
            obtain ⟨na, ncap, rfl, hRN, hNB⟩ := row_new hownD rfl (R := t.r) h8.lt hzt (by omega)
            have hS := kS _ hBD
            rw [hml]
            refine hs_take (i := 21) (d := some 50) (v := ?_) rfl (by kernel_rfl) (by kernel_rfl) (by kernel_rfl) (by rfl) ?_ hS rfl ?_
            rotate_left
            · intro w' hw
              go_simp
              try with_reducible rfl
            simp only [Act.put, List.setIfInBounds_toArray, List.set_cons_zero, List.set_cons_succ]
            have hth := (h8.below hBD).th
            have hst := run_store1 (P := Tryz.prog) W' t.r 1 35 (.slice na m ncap) (by have := there_part hth 1 1 (by omega); rwa [Nat.zero_add] at this) iszBs rfl
            refine hs_store (i := 22) rfl (by kernel_rfl) (by rfl) (exec_storeP rfl rfl rfl hst) rfl (set_there hS (by omega)) ?_
            refine hs_done (by kernel_rfl) ?_
            have xX : (W'.setCell ⟨t.r, 1, none⟩ (.slice na m ncap)).cell? ⟨t.r, 1, none⟩ = some (.slice na m ncap) := World.cell?_setCell_same _ _ _ (kB _ hBD)
            have hthY := there_set hth ⟨t.r, 1, none⟩ (.slice na m ncap)
            obtain ⟨wY, hwY⟩ : ∃ wY, W'.setCell ⟨t.r, 1, none⟩ (.slice na m ncap) = wY := ⟨_, rfl⟩
            have HX : Hid (∀ W1, Below wY.heap.size wY W1 → RTurned w (W1.setCell ⟨t.r, 3, none⟩ (.int .i64 (m : Int))) t (M.lostA false keep)) := hide (fun W1 hb => by
              rw [← hwY] at hb
              exact RTurned.trans (t1 := ⟨t.r, aa1, ca1, ab1, cb1, x1, y1⟩) rfl o1 n1 (lostR_0 h1 keep m hm.out (hB8.trans (hBD.mono hB8.size)) hRN (fun x hx => Nat.le_trans hB8.size (hNB x hx)) hb))
            rw [hwY] at xX hthY ⊢
            clear hwY hst hS hownD hgrD hBD hRN hNB kS hrow hbA h8 hB8
            go_wp2_with fail
            obtain ⟨wX, hwX⟩ : ∃ wX, wY.drew = wX := ⟨_, rfl⟩
            have hBX : Below wY.heap.size wY wX := by rw [← hwX]; exact (Below.refl _ _).drew
            have hxX : wX.cell? ⟨t.r, 1, none⟩ = some (.slice na m ncap) := by rw [← hwX]; exact xX
            have hthX : wX.there t.r 0 11 := by rw [← hwX]; exact (World.there_drew _ _ _ _).2 hthY
            refine hs_begin (S := (fun w' : World => w'.cell? ⟨t.r, 1, none⟩ = some (.slice na m ncap))) 13 rfl (by kernel_rfl) ?_
            rw [hwX]
            clear hwX
            have hS : (fun w' : World => w'.cell? ⟨t.r, 1, none⟩ = some (.slice na m ncap)) wX := hxX
            refine hs_take (i := 0) (d := some 51) (v := ?_) rfl (by kernel_rfl) (by kernel_rfl) (by kernel_rfl) (by rfl) ?_ hS rfl ?_
            rotate_left
            · intro w' hw
              go_simp
              try with_reducible rfl
            simp only [Act.put, List.setIfInBounds_toArray, List.set_cons_zero, List.set_cons_succ]
            refine hs_take (i := 1) (d := some 52) (v := ?_) rfl (by kernel_rfl) (by kernel_rfl) (by kernel_rfl) (by rfl) ?_ hS rfl ?_
            rotate_left
            · intro w' hw
              go_simp
              try with_reducible rfl
            simp only [Act.put, List.setIfInBounds_toArray, List.set_cons_zero, List.set_cons_succ]
            refine hs_take (i := 2) (d := some 53) (v := ?_) rfl (by kernel_rfl) (by kernel_rfl) (by kernel_rfl) (by rfl) ?_ hS rfl ?_
            rotate_left
            · intro w' hw
              go_simp
              try with_reducible rfl
            simp only [Act.put, List.setIfInBounds_toArray, List.set_cons_zero, List.set_cons_succ]
            refine hs_take (i := 3) (d := some 54) (v := ?_) rfl (by kernel_rfl) (by kernel_rfl) (by kernel_rfl) (by rfl) ?_ hS rfl ?_
            rotate_left
            · intro w' hw
              go_simp
              try with_reducible rfl
            simp only [Act.put, List.setIfInBounds_toArray, List.set_cons_zero, List.set_cons_succ]
            refine hs_take (i := 4) (d := some 55) (v := ?_) rfl (by kernel_rfl) (by kernel_rfl) (by kernel_rfl) (by rfl) ?_ hS rfl ?_
            rotate_left
            · intro w' hw
              go_simp
              try with_reducible rfl
            simp only [Act.put, List.setIfInBounds_toArray, List.set_cons_zero, List.set_cons_succ]
            refine hs_take (i := 5) (d := some 56) (v := ?_) rfl (by kernel_rfl) (by kernel_rfl) (by kernel_rfl) (by rfl) ?_ hS rfl ?_
            rotate_left
            · intro w' hw
              go_simp
              try with_reducible rfl
            simp only [Act.put, List.setIfInBounds_toArray, List.set_cons_zero, List.set_cons_succ]
            refine hs_take (i := 6) (d := some 57) (v := ?_) rfl (by kernel_rfl) (by kernel_rfl) (by kernel_rfl) (by rfl) ?_ hS rfl ?_
            rotate_left
            · intro w' hw
              go_simp
              try with_reducible rfl
            simp only [Act.put, List.setIfInBounds_toArray, List.set_cons_zero, List.set_cons_succ]
            refine hs_take (i := 7) (d := some 58) (v := ?_) rfl (by kernel_rfl) (by kernel_rfl) (by kernel_rfl) (by rfl) ?_ hS rfl ?_
            rotate_left
            · intro w' hw
              have hc : w'.cell? ⟨t.r, 1, none⟩ = some (.slice na m ncap) := hw
              go_simp
              try with_reducible rfl
            simp only [Act.put, List.setIfInBounds_toArray, List.set_cons_zero, List.set_cons_succ]
            refine hs_take (i := 8) (d := some 59) (v := ?_) rfl (by kernel_rfl) (by kernel_rfl) (by kernel_rfl) (by rfl) ?_ hS rfl ?_
            rotate_left
            · intro w' hw
              go_simp
              try with_reducible rfl
            simp only [Act.put, List.setIfInBounds_toArray, List.set_cons_zero, List.set_cons_succ]
            refine hs_take (i := 9) (d := some 60) (v := ?_) rfl (by kernel_rfl) (by kernel_rfl) (by kernel_rfl) (by rfl) ?_ hS rfl ?_
            rotate_left
            · intro w' hw
              go_simp
              try with_reducible rfl
            simp only [Act.put, List.setIfInBounds_toArray, List.set_cons_zero, List.set_cons_succ]
            refine hs_take (i := 10) (d := some 61) (v := ?_) rfl (by kernel_rfl) (by kernel_rfl) (by kernel_rfl) (by rfl) ?_ hS rfl ?_
            rotate_left
            · intro w' hw
              go_simp
              try with_reducible rfl
            simp only [Act.put, List.setIfInBounds_toArray, List.set_cons_zero, List.set_cons_succ]
            refine hs_take (i := 11) (d := some 62) (v := ?_) rfl (by kernel_rfl) (by kernel_rfl) (by kernel_rfl) (by rfl) ?_ hS rfl ?_
            rotate_left
            · intro w' hw
              go_simp
              try with_reducible rfl
            simp only [Act.put, List.setIfInBounds_toArray, List.set_cons_zero, List.set_cons_succ]
            have hst := run_store1 (P := Tryz.prog) wX t.r 3 3 (.int .i64 (m : Int)) (by have := there_part hthX 3 1 (by omega); rwa [Nat.zero_add] at this) iszI rfl
            refine hs_store (i := 12) rfl (by kernel_rfl) (by rfl) (exec_storeP rfl rfl rfl hst) rfl (set_there hS (by omega)) ?_
            refine hs_done (by kernel_rfl) ?_
            have HF := hide (HX.out wX hBX)
            clear HX hS hst
            go_wp2_with fail
            go_roundw
            case rel => exact .inr (.inl ⟨rfl, by rw [HM.out] at HF; exact HF.out⟩)
            case measure => simp [intOf]
      · have HE : Hid (IntKind.i64.wrap ((M.sa : Int) + ((M.a.length : Int) - M.sa)) = (m : Int)) := hide (by
          have e : ((M.sa : Int) + ((M.a.length : Int) - M.sa)) = (m : Int) := by omega
          rw [e]; exact wrap_small m (by omega))
        clear hmk
        go_wp2_with fail
        go_quiet (fail)
        go_wp2_with fail
        obtain ⟨w8, hw8⟩ : ∃ w8, (wo.drewN nq).drew = w8 := ⟨_, rfl⟩
        have hB8 : Below wo.heap.size wo w8 := by rw [← hw8]; exact (below_drewN (Below.refl _ _) _).drew
        have h8 := h1.below hB8
        have hbA : Below w8.heap.size w8 (w8.alloc (.cells #[] 5)) := (Below.refl _ _).alloc (Nat.le_refl _) _
        have kS : ∀ W, Below w8.heap.size w8 W → W.cell? ⟨t.r, 3, none⟩ = some (.int .i64 (M.sa : Int)) := fun W hW => (h8.below hW).cell 3 rfl
        have kB : ∀ W, Below w8.heap.size w8 W → W.cell? ⟨t.r, 1, none⟩ = some (.slice aa1 M.a.length ca1) := fun W hW => (h8.below hW).cell 1 rfl
        have hrfl : Value.slice aa1 m ca1 = .slice aa1 (M.a.take m).length ca1 := by rw [hml]
        have hrow : RowAt (w8.alloc (.cells #[] 5)) aa1 (M.a.take m) := (h8.below hbA).ra.row.take m
        refine hs_begin (S := (fun w' : World => w'.cell? ⟨t.r, 3, none⟩ = some (.int .i64 (M.sa : Int)))) 23 rfl (by kernel_rfl) ?_
        rw [hw8]
        clear hw8
        have hS : (fun w' : World => w'.cell? ⟨t.r, 3, none⟩ = some (.int .i64 (M.sa : Int))) w8 := kS _ (Below.refl _ _)
        refine hs_take (i := 0) (d := some 29) (v := ?_) rfl (by kernel_rfl) (by kernel_rfl) (by kernel_rfl) (by rfl) ?_ hS rfl ?_
        rotate_left
        · intro w' hw
          go_simp
          try with_reducible rfl
        simp only [Act.put, List.setIfInBounds_toArray, List.set_cons_zero, List.set_cons_succ]
        refine hs_take (i := 1) (d := some 30) (v := ?_) rfl (by kernel_rfl) (by kernel_rfl) (by kernel_rfl) (by rfl) ?_ hS rfl ?_
        rotate_left
        · intro w' hw
          go_simp
          try with_reducible rfl
        simp only [Act.put, List.setIfInBounds_toArray, List.set_cons_zero, List.set_cons_succ]
        refine hs_take (i := 3) (d := some 32) (v := ?_) rfl (by kernel_rfl) (by kernel_rfl) (by kernel_rfl) (by rfl) ?_ hS rfl ?_
        rotate_left
        · intro w' hw
          go_simp
          try with_reducible rfl
        simp only [Act.put, List.setIfInBounds_toArray, List.set_cons_zero, List.set_cons_succ]
        refine hs_take (i := 4) (d := some 33) (v := ?_) rfl (by kernel_rfl) (by kernel_rfl) (by kernel_rfl) (by rfl) ?_ hS rfl ?_
        rotate_left
        · intro w' hw
          go_simp
          try with_reducible rfl
        simp only [Act.put, List.setIfInBounds_toArray, List.set_cons_zero, List.set_cons_succ]
        refine hs_take (i := 5) (d := some 34) (v := ?_) rfl (by kernel_rfl) (by kernel_rfl) (by kernel_rfl) (by rfl) ?_ hS rfl ?_
        rotate_left
        · intro w' hw
          go_simp
          try with_reducible rfl
        simp only [Act.put, List.setIfInBounds_toArray, List.set_cons_zero, List.set_cons_succ]
        refine hs_take (i := 6) (d := some 35) (v := ?_) rfl (by kernel_rfl) (by kernel_rfl) (by kernel_rfl) (by rfl) ?_ hS rfl ?_
        rotate_left
        · intro w' hw
          go_simp
          try with_reducible rfl
        simp only [Act.put, List.setIfInBounds_toArray, List.set_cons_zero, List.set_cons_succ]
        refine hs_take (i := 7) (d := some 36) (v := ?_) rfl (by kernel_rfl) (by kernel_rfl) (by kernel_rfl) (by rfl) ?_ hS rfl ?_
        rotate_left
        · intro w' hw
          go_simp
          try with_reducible rfl
        simp only [Act.put, List.setIfInBounds_toArray, List.set_cons_zero, List.set_cons_succ]
        refine hs_take (i := 9) (d := some 38) (v := ?_) rfl (by kernel_rfl) (by kernel_rfl) (by kernel_rfl) (by rfl) ?_ hS rfl ?_
        rotate_left
        · intro w' hw
          go_simp
          try with_reducible rfl
        simp only [Act.put, List.setIfInBounds_toArray, List.set_cons_zero, List.set_cons_succ]
        refine hs_take (i := 10) (d := some 39) (v := ?_) rfl (by kernel_rfl) (by kernel_rfl) (by kernel_rfl) (by rfl) ?_ hS rfl ?_
        rotate_left
        · intro w' hw
          go_simp
          try with_reducible rfl
        simp only [Act.put, List.setIfInBounds_toArray, List.set_cons_zero, List.set_cons_succ]
        refine hs_take (i := 11) (d := some 40) (v := ?_) rfl (by kernel_rfl) (by kernel_rfl) (by kernel_rfl) (by rfl) ?_ hS rfl ?_
        rotate_left
        · intro w' hw
          go_simp
          try with_reducible rfl
        simp only [Act.put, List.setIfInBounds_toArray, List.set_cons_zero, List.set_cons_succ]
        refine hs_take (i := 12) (d := some 41) (v := ?_) rfl (by kernel_rfl) (by kernel_rfl) (by kernel_rfl) (by rfl) ?_ hS rfl ?_
        rotate_left
        · intro w' hw
          go_simp
          try with_reducible rfl
        simp only [Act.put, List.setIfInBounds_toArray, List.set_cons_zero, List.set_cons_succ]
        refine hs_take (i := 13) (d := some 42) (v := ?_) rfl (by kernel_rfl) (by kernel_rfl) (by kernel_rfl) (by rfl) ?_ hS rfl ?_
        rotate_left
        · intro w' hw
          go_simp
          try with_reducible rfl
        simp only [Act.put, List.setIfInBounds_toArray, List.set_cons_zero, List.set_cons_succ]
        refine hs_take (i := 14) (d := some 43) (v := ?_) rfl (by kernel_rfl) (by kernel_rfl) (by kernel_rfl) (by rfl) ?_ hS rfl ?_
        rotate_left
        · intro w' hw
          have hc : w'.cell? ⟨t.r, 3, none⟩ = some (.int .i64 (M.sa : Int)) := hw
          go_simp
          try with_reducible rfl
        simp only [Act.put, List.setIfInBounds_toArray, List.set_cons_zero, List.set_cons_succ]
        refine hs_take (i := 15) (d := some 44) (v := ?_) rfl (by kernel_rfl) (by kernel_rfl) (by kernel_rfl) (by rfl) ?_ hS rfl ?_
        rotate_left
        · intro w' hw
          go_simp
          try with_reducible rfl
        simp only [Act.put, List.setIfInBounds_toArray, List.set_cons_zero, List.set_cons_succ]
        refine hs_take (i := 16) (d := some 45) (v := ?_) rfl (by kernel_rfl) (by kernel_rfl) (by kernel_rfl) (by rfl) ?_ hS rfl ?_
        rotate_left
        · intro w' hw
          go_simp
          try with_reducible rfl
        simp only [Act.put, List.setIfInBounds_toArray, List.set_cons_zero, List.set_cons_succ]
        rw [HE.out]
        refine hs_take (i := 19) (d := some 48) (v := ?_) rfl (by kernel_rfl) (by kernel_rfl) (by kernel_rfl) (by rfl) ?_ hS rfl ?_
        rotate_left
        · intro w' hw
          go_simp
          try with_reducible rfl
        simp only [Act.put, List.setIfInBounds_toArray, List.set_cons_zero, List.set_cons_succ]
        refine hs_take (i := 20) (d := some 49) (v := ?_) rfl (by kernel_rfl) (by kernel_rfl) (by kernel_rfl) (by rfl) ?_ hS rfl ?_
        rotate_left
        · intro w' hw
          go_simp
          try with_reducible rfl
        simp only [Act.put, List.setIfInBounds_toArray, List.set_cons_zero, List.set_cons_succ]
        refine hs_forkL (l := [2, 8]) (by kernel_rfl) (by simp) ?_
        intro ii hii
        simp only [List.mem_cons, List.not_mem_nil, or_false] at hii
        rcases hii with rfl | rfl
        · refine st_runX (i := 2) (d := some 31) rfl (by rfl) rfl (ex_bs0 rfl) ?_
          rintro vB W' ⟨rfl, rfl⟩
          refine ⟨kS _ hbA, ?_⟩
          simp only [Act.put, List.setIfInBounds_toArray, List.set_cons_zero, List.set_cons_succ]
          refine hs_runX (i := 8) (d := some 37) rfl (by kernel_rfl) (by rfl) rfl (ex_load rfl rfl (kB _ hbA)) ?_
          rintro vA W' ⟨rfl, hx⟩
          obtain rfl := hx.symm
          clear hx
          refine ⟨kS _ hbA, ?_⟩
          simp only [Act.put, List.setIfInBounds_toArray, List.set_cons_zero, List.set_cons_succ]
          have hS := kS _ hbA
          refine hs_take (i := 17) (d := some 46) (v := .slice aa1 m ca1) rfl (by kernel_rfl) (by kernel_rfl) (by kernel_rfl) (by rfl) (fun w' hw => by go_simp) hS rfl ?_
          simp only [Act.put, List.setIfInBounds_toArray, List.set_cons_zero, List.set_cons_succ]
          refine hs_runX (i := 18) (d := some 47) rfl (by kernel_rfl) (by rfl) rfl (ex_append rfl rfl hrfl (owns_new0 w8) (by simp) hrow hmm) ?_
          rintro vD W' ⟨hownD, hgrD⟩
          have hBD := below_gr hbA (by simp) (owns_new0 w8) hgrD
          rw [Nat.zero_add, List.nil_append] at hownD
          refine ⟨kS _ hBD, ?_⟩
          simp only [Act.put, List.setIfInBounds_toArray, List.set_cons_zero, List.set_cons_succ]
          obtain ⟨na, ncap, rfl, hRN, hNB⟩ := row_new hownD rfl (R := t.r) h8.lt hzt (by omega)
          have hS := kS _ hBD
          rw [hml]
          refine hs_take (i := 21) (d := some 50) (v := ?_) rfl (by kernel_rfl) (by kernel_rfl) (by kernel_rfl) (by rfl) ?_ hS rfl ?_
          rotate_left
          · intro w' hw
            go_simp
            try with_reducible rfl
          simp only [Act.put, List.setIfInBounds_toArray, List.set_cons_zero, List.set_cons_succ]
          have hth := (h8.below hBD).th
          have hst := run_store1 (P := Tryz.prog) W' t.r 1 35 (.slice na m ncap) (by have := there_part hth 1 1 (by omega); rwa [Nat.zero_add] at this) iszBs rfl
          refine hs_store (i := 22) rfl (by kernel_rfl) (by rfl) (exec_storeP rfl rfl rfl hst) rfl (set_there hS (by omega)) ?_
          refine hs_done (by kernel_rfl) ?_
          have xX : (W'.setCell ⟨t.r, 1, none⟩ (.slice na m ncap)).cell? ⟨t.r, 1, none⟩ = some (.slice na m ncap) := World.cell?_setCell_same _ _ _ (kB _ hBD)
          have hthY := there_set hth ⟨t.r, 1, none⟩ (.slice na m ncap)
          obtain ⟨wY, hwY⟩ : ∃ wY, W'.setCell ⟨t.r, 1, none⟩ (.slice na m ncap) = wY := ⟨_, rfl⟩
          have HX : Hid (∀ W1, Below wY.heap.size wY W1 → RTurned w (W1.setCell ⟨t.r, 3, none⟩ (.int .i64 (m : Int))) t (M.lostA false keep)) := hide (fun W1 hb => by
            rw [← hwY] at hb
            exact RTurned.trans (t1 := ⟨t.r, aa1, ca1, ab1, cb1, x1, y1⟩) rfl o1 n1 (lostR_0 h1 keep m hm.out (hB8.trans (hBD.mono hB8.size)) hRN (fun x hx => Nat.le_trans hB8.size (hNB x hx)) hb))
          rw [hwY] at xX hthY ⊢
          clear hwY hst hS hownD hgrD hBD hRN hNB kS hrow hbA h8 hB8
          go_wp2_with fail
          obtain ⟨wX, hwX⟩ : ∃ wX, wY.drew = wX := ⟨_, rfl⟩
          have hBX : Below wY.heap.size wY wX := by rw [← hwX]; exact (Below.refl _ _).drew
          have hxX : wX.cell? ⟨t.r, 1, none⟩ = some (.slice na m ncap) := by rw [← hwX]; exact xX
          have hthX : wX.there t.r 0 11 := by rw [← hwX]; exact (World.there_drew _ _ _ _).2 hthY
          refine hs_begin (S := (fun w' : World => w'.cell? ⟨t.r, 1, none⟩ = some (.slice na m ncap))) 13 rfl (by kernel_rfl) ?_
          rw [hwX]
          clear hwX
          have hS : (fun w' : World => w'.cell? ⟨t.r, 1, none⟩ = some (.slice na m ncap)) wX := hxX
          refine hs_take (i := 0) (d := some 51) (v := ?_) rfl (by kernel_rfl) (by kernel_rfl) (by kernel_rfl) (by rfl) ?_ hS rfl ?_
          rotate_left
          · intro w' hw
            go_simp
            try with_reducible rfl
          simp only [Act.put, List.setIfInBounds_toArray, List.set_cons_zero, List.set_cons_succ]
          refine hs_take (i := 1) (d := some 52) (v := ?_) rfl (by kernel_rfl) (by kernel_rfl) (by kernel_rfl) (by rfl) ?_ hS rfl ?_
          rotate_left
          · intro w' hw
            go_simp
            try with_reducible rfl
          simp only [Act.put, List.setIfInBounds_toArray, List.set_cons_zero, List.set_cons_succ]
          refine hs_take (i := 2) (d := some 53) (v := ?_) rfl (by kernel_rfl) (by kernel_rfl) (by kernel_rfl) (by rfl) ?_ hS rfl ?_
          rotate_left
          · intro w' hw
            go_simp
            try with_reducible rfl
          simp only [Act.put, List.setIfInBounds_toArray, List.set_cons_zero, List.set_cons_succ]
          refine hs_take (i := 3) (d := some 54) (v := ?_) rfl (by kernel_rfl) (by kernel_rfl) (by kernel_rfl) (by rfl) ?_ hS rfl ?_
          rotate_left
          · intro w' hw
            go_simp
            try with_reducible rfl
          simp only [Act.put, List.setIfInBounds_toArray, List.set_cons_zero, List.set_cons_succ]
          refine hs_take (i := 4) (d := some 55) (v := ?_) rfl (by kernel_rfl) (by kernel_rfl) (by kernel_rfl) (by rfl) ?_ hS rfl ?_
          rotate_left
          · intro w' hw
            go_simp
            try with_reducible rfl
          simp only [Act.put, List.setIfInBounds_toArray, List.set_cons_zero, List.set_cons_succ]
          refine hs_take (i := 5) (d := some 56) (v := ?_) rfl (by kernel_rfl) (by kernel_rfl) (by kernel_rfl) (by rfl) ?_ hS rfl ?_
          rotate_left
          · intro w' hw
            go_simp
            try with_reducible rfl
          simp only [Act.put, List.setIfInBounds_toArray, List.set_cons_zero, List.set_cons_succ]
          refine hs_take (i := 6) (d := some 57) (v := ?_) rfl (by kernel_rfl) (by kernel_rfl) (by kernel_rfl) (by rfl) ?_ hS rfl ?_
          rotate_left
          · intro w' hw
            go_simp
            try with_reducible rfl
          simp only [Act.put, List.setIfInBounds_toArray, List.set_cons_zero, List.set_cons_succ]
          refine hs_take (i := 7) (d := some 58) (v := ?_) rfl (by kernel_rfl) (by kernel_rfl) (by kernel_rfl) (by rfl) ?_ hS rfl ?_
          rotate_left
          · intro w' hw
            have hc : w'.cell? ⟨t.r, 1, none⟩ = some (.slice na m ncap) := hw
            go_simp
            try with_reducible rfl
          simp only [Act.put, List.setIfInBounds_toArray, List.set_cons_zero, List.set_cons_succ]
          refine hs_take (i := 8) (d := some 59) (v := ?_) rfl (by kernel_rfl) (by kernel_rfl) (by kernel_rfl) (by rfl) ?_ hS rfl ?_
          rotate_left
          · intro w' hw
            go_simp
            try with_reducible rfl
          simp only [Act.put, List.setIfInBounds_toArray, List.set_cons_zero, List.set_cons_succ]
          refine hs_take (i := 9) (d := some 60) (v := ?_) rfl (by kernel_rfl) (by kernel_rfl) (by kernel_rfl) (by rfl) ?_ hS rfl ?_
          rotate_left
          · intro w' hw
            go_simp
            try with_reducible rfl
          simp only [Act.put, List.setIfInBounds_toArray, List.set_cons_zero, List.set_cons_succ]
          refine hs_take (i := 10) (d := some 61) (v := ?_) rfl (by kernel_rfl) (by kernel_rfl) (by kernel_rfl) (by rfl) ?_ hS rfl ?_
          rotate_left
          · intro w' hw
            go_simp
            try with_reducible rfl
          simp only [Act.put, List.setIfInBounds_toArray, List.set_cons_zero, List.set_cons_succ]
          refine hs_take (i := 11) (d := some 62) (v := ?_) rfl (by kernel_rfl) (by kernel_rfl) (by kernel_rfl) (by rfl) ?_ hS rfl ?_
          rotate_left
          · intro w' hw
            go_simp
            try with_reducible rfl
          simp only [Act.put, List.setIfInBounds_toArray, List.set_cons_zero, List.set_cons_succ]
          have hst := run_store1 (P := Tryz.prog) wX t.r 3 3 (.int .i64 (m : Int)) (by have := there_part hthX 3 1 (by omega); rwa [Nat.zero_add] at this) iszI rfl
          refine hs_store (i := 12) rfl (by kernel_rfl) (by rfl) (exec_storeP rfl rfl rfl hst) rfl (set_there hS (by omega)) ?_
          refine hs_done (by kernel_rfl) ?_
          have HF := hide (HX.out wX hBX)
          clear HX hS hst
          go_wp2_with fail
          go_roundw
          case rel => exact .inr (.inl ⟨rfl, by rw [HM.out] at HF; exact HF.out⟩)
          case measure => simp [intOf]
        · refine st_runX (i := 8) (d := some 37) rfl (by rfl) rfl (ex_load rfl rfl (kB _ (Below.refl _ _))) ?_
          rintro vA W' ⟨rfl, hx⟩
          obtain rfl := hx.symm
          clear hx
          refine ⟨hS, ?_⟩
          simp only [Act.put, List.setIfInBounds_toArray, List.set_cons_zero, List.set_cons_succ]
          refine hs_take (i := 17) (d := some 46) (v := .slice aa1 m ca1) rfl (by kernel_rfl) (by kernel_rfl) (by kernel_rfl) (by rfl) (fun w' hw => by go_simp) hS rfl ?_
          simp only [Act.put, List.setIfInBounds_toArray, List.set_cons_zero, List.set_cons_succ]
          refine hs_runX (i := 2) (d := some 31) rfl (by kernel_rfl) (by rfl) rfl (ex_bs0 rfl) ?_
          rintro vB W' ⟨rfl, rfl⟩
          refine ⟨kS _ hbA, ?_⟩
          simp only [Act.put, List.setIfInBounds_toArray, List.set_cons_zero, List.set_cons_succ]
          refine hs_runX (i := 18) (d := some 47) rfl (by kernel_rfl) (by rfl) rfl (ex_append rfl rfl hrfl (owns_new0 w8) (by simp) hrow hmm) ?_
          rintro vD W' ⟨hownD, hgrD⟩
          have hBD := below_gr hbA (by simp) (owns_new0 w8) hgrD
          rw [Nat.zero_add, List.nil_append] at hownD
          refine ⟨kS _ hBD, ?_⟩
          simp only [Act.put, List.setIfInBounds_toArray, List.set_cons_zero, List.set_cons_succ]
          obtain ⟨na, ncap, rfl, hRN, hNB⟩ := row_new hownD rfl (R := t.r) h8.lt hzt (by omega)
          have hS := kS _ hBD
          rw [hml]
          refine hs_take (i := 21) (d := some 50) (v := ?_) rfl (by kernel_rfl) (by kernel_rfl) (by kernel_rfl) (by rfl) ?_ hS rfl ?_
          rotate_left
          · intro w' hw
            go_simp
            try with_reducible rfl
          simp only [Act.put, List.setIfInBounds_toArray, List.set_cons_zero, List.set_cons_succ]
          have hth := (h8.below hBD).th
          have hst := run_store1 (P := Tryz.prog) W' t.r 1 35 (.slice na m ncap) (by have := there_part hth 1 1 (by omega); rwa [Nat.zero_add] at this) iszBs rfl
          refine hs_store (i := 22) rfl (by kernel_rfl) (by rfl) (exec_storeP rfl rfl rfl hst) rfl (set_there hS (by omega)) ?_
          refine hs_done (by kernel_rfl) ?_
          have xX : (W'.setCell ⟨t.r, 1, none⟩ (.slice na m ncap)).cell? ⟨t.r, 1, none⟩ = some (.slice na m ncap) := World.cell?_setCell_same _ _ _ (kB _ hBD)
          have hthY := there_set hth ⟨t.r, 1, none⟩ (.slice na m ncap)
          obtain ⟨wY, hwY⟩ : ∃ wY, W'.setCell ⟨t.r, 1, none⟩ (.slice na m ncap) = wY := ⟨_, rfl⟩
          have HX : Hid (∀ W1, Below wY.heap.size wY W1 → RTurned w (W1.setCell ⟨t.r, 3, none⟩ (.int .i64 (m : Int))) t (M.lostA false keep)) := hide (fun W1 hb => by
            rw [← hwY] at hb
            exact RTurned.trans (t1 := ⟨t.r, aa1, ca1, ab1, cb1, x1, y1⟩) rfl o1 n1 (lostR_0 h1 keep m hm.out (hB8.trans (hBD.mono hB8.size)) hRN (fun x hx => Nat.le_trans hB8.size (hNB x hx)) hb))
          rw [hwY] at xX hthY ⊢
          clear hwY hst hS hownD hgrD hBD hRN hNB kS hrow hbA h8 hB8
          go_wp2_with fail
          obtain ⟨wX, hwX⟩ : ∃ wX, wY.drew = wX := ⟨_, rfl⟩
          have hBX : Below wY.heap.size wY wX := by rw [← hwX]; exact (Below.refl _ _).drew
          have hxX : wX.cell? ⟨t.r, 1, none⟩ = some (.slice na m ncap) := by rw [← hwX]; exact xX
          have hthX : wX.there t.r 0 11 := by rw [← hwX]; exact (World.there_drew _ _ _ _).2 hthY
          refine hs_begin (S := (fun w' : World => w'.cell? ⟨t.r, 1, none⟩ = some (.slice na m ncap))) 13 rfl (by kernel_rfl) ?_
          rw [hwX]
          clear hwX
          have hS : (fun w' : World => w'.cell? ⟨t.r, 1, none⟩ = some (.slice na m ncap)) wX := hxX
          refine hs_take (i := 0) (d := some 51) (v := ?_) rfl (by kernel_rfl) (by kernel_rfl) (by kernel_rfl) (by rfl) ?_ hS rfl ?_
          rotate_left
          · intro w' hw
            go_simp
            try with_reducible rfl
          simp only [Act.put, List.setIfInBounds_toArray, List.set_cons_zero, List.set_cons_succ]
          refine hs_take (i := 1) (d := some 52) (v := ?_) rfl (by kernel_rfl) (by kernel_rfl) (by kernel_rfl) (by rfl) ?_ hS rfl ?_
          rotate_left
          · intro w' hw
            go_simp
            try with_reducible rfl
          simp only [Act.put, List.setIfInBounds_toArray, List.set_cons_zero, List.set_cons_succ]
          refine hs_take (i := 2) (d := some 53) (v := ?_) rfl (by kernel_rfl) (by kernel_rfl) (by kernel_rfl) (by rfl) ?_ hS rfl ?_
          rotate_left
          · intro w' hw
            go_simp
            try with_reducible rfl
          simp only [Act.put, List.setIfInBounds_toArray, List.set_cons_zero, List.set_cons_succ]
          refine hs_take (i := 3) (d := some 54) (v := ?_) rfl (by kernel_rfl) (by kernel_rfl) (by kernel_rfl) (by rfl) ?_ hS rfl ?_
          rotate_left
          · intro w' hw
            go_simp
            try with_reducible rfl
          simp only [Act.put, List.setIfInBounds_toArray, List.set_cons_zero, List.set_cons_succ]
          refine hs_take (i := 4) (d := some 55) (v := ?_) rfl (by kernel_rfl) (by kernel_rfl) (by kernel_rfl) (by rfl) ?_ hS rfl ?_
          rotate_left
          · intro w' hw
            go_simp
            try with_reducible rfl
          simp only [Act.put, List.setIfInBounds_toArray, List.set_cons_zero, List.set_cons_succ]
          refine hs_take (i := 5) (d := some 56) (v := ?_) rfl (by kernel_rfl) (by kernel_rfl) (by kernel_rfl) (by rfl) ?_ hS rfl ?_
          rotate_left
          · intro w' hw
            go_simp
            try with_reducible rfl
          simp only [Act.put, List.setIfInBounds_toArray, List.set_cons_zero, List.set_cons_succ]
          refine hs_take (i := 6) (d := some 57) (v := ?_) rfl (by kernel_rfl) (by kernel_rfl) (by kernel_rfl) (by rfl) ?_ hS rfl ?_
          rotate_left
          · intro w' hw
            go_simp
            try with_reducible rfl
          simp only [Act.put, List.setIfInBounds_toArray, List.set_cons_zero, List.set_cons_succ]
          refine hs_take (i := 7) (d := some 58) (v := ?_) rfl (by kernel_rfl) (by kernel_rfl) (by kernel_rfl) (by rfl) ?_ hS rfl ?_
          rotate_left
          · intro w' hw
            have hc : w'.cell? ⟨t.r, 1, none⟩ = some (.slice na m ncap) := hw
            go_simp
            try with_reducible rfl
          simp only [Act.put, List.setIfInBounds_toArray, List.set_cons_zero, List.set_cons_succ]
          refine hs_take (i := 8) (d := some 59) (v := ?_) rfl (by kernel_rfl) (by kernel_rfl) (by kernel_rfl) (by rfl) ?_ hS rfl ?_
          rotate_left
          · intro w' hw
            go_simp
            try with_reducible rfl
          simp only [Act.put, List.setIfInBounds_toArray, List.set_cons_zero, List.set_cons_succ]
          refine hs_take (i := 9) (d := some 60) (v := ?_) rfl (by kernel_rfl) (by kernel_rfl) (by kernel_rfl) (by rfl) ?_ hS rfl ?_
          rotate_left
          · intro w' hw
            go_simp
            try with_reducible rfl
          simp only [Act.put, List.setIfInBounds_toArray, List.set_cons_zero, List.set_cons_succ]
          refine hs_take (i := 10) (d := some 61) (v := ?_) rfl (by kernel_rfl) (by kernel_rfl) (by kernel_rfl) (by rfl) ?_ hS rfl ?_
          rotate_left
          · intro w' hw
            go_simp
            try with_reducible rfl
          simp only [Act.put, List.setIfInBounds_toArray, List.set_cons_zero, List.set_cons_succ]
          refine hs_take (i := 11) (d := some 62) (v := ?_) rfl (by kernel_rfl) (by kernel_rfl) (by kernel_rfl) (by rfl) ?_ hS rfl ?_
          rotate_left
          · intro w' hw
            go_simp
            try with_reducible rfl
          simp only [Act.put, List.setIfInBounds_toArray, List.set_cons_zero, List.set_cons_succ]
          have hst := run_store1 (P := Tryz.prog) wX t.r 3 3 (.int .i64 (m : Int)) (by have := there_part hthX 3 1 (by omega); rwa [Nat.zero_add] at this) iszI rfl
          refine hs_store (i := 12) rfl (by kernel_rfl) (by rfl) (exec_storeP rfl rfl rfl hst) rfl (set_there hS (by omega)) ?_
          refine hs_done (by kernel_rfl) ?_
          have HF := hide (HX.out wX hBX)
          clear HX hS hst
          go_wp2_with fail
          go_roundw
          case rel => exact .inr (.inl ⟨rfl, by rw [HM.out] at HF; exact HF.out⟩)
          case measure => simp [intOf]
    · obtain rfl : r1 = t.r := p1
      obtain ⟨M, hM⟩ : ∃ M, M = M1 := ⟨_, rfl⟩
      rw [← hM] at h1
      have HM : Hid (M.lostA true keep = M2) := hide (by rw [hM]; exact hM2.out)
      clear hM hM1 hM2
      have q1 : wo.cell? ⟨t.r, 2, none⟩ = some (.slice ab1 M.b.length cb1) := h1.cell 2 rfl
      have q3 : wo.cell? ⟨t.r, 4, none⟩ = some (.int .i64 (M.sb : Int)) := h1.cell 4 rfl
      obtain ⟨m, hm⟩ : ∃ m, Hid (keptN keep M.b.length M.sb = m) := ⟨_, hide rfl⟩
      have hle : m ≤ M.b.length := by rw [← hm.out]; exact keptN_le keep h1.ok.sb
      have hsl := h1.ok.sb
      have hrl : M.b.length ≤ 1073741824 := by have := h1.ok.rm; have := h1.ok.rl; omega
      have hml : (M.b.take m).length = m := by rw [List.length_take]; omega
      have hzt : ∀ z ∈ M.b.take m, 0 ≤ z ∧ z < 256 := fun z hz => h1.ok.zb z (List.mem_of_mem_take hz)
      have hmc : m ≤ cb1 := Nat.le_trans hle h1.rb.le
      have hcm : cb1 ≤ maxLen := h1.rb.cm
      have nl : 0 ≤ (M.b.length : Int) - M.sb := by omega
      have nh : (M.b.length : Int) - M.sb ≤ 1073741824 := by omega
      have hmm : 0 + (M.b.take m).length ≤ 100000000000 := by omega
      have hmk : (m : Int) = (M.sb : Int) + max 0 (min keep ((M.b.length : Int) - M.sb)) := by rw [← hm.out]; unfold keptN; omega
      have hmI : (m : Int) ≤ (cb1 : Int) := by omega
      by_cases hk : keep < (M.b.length : Int) - M.sb
      · by_cases hk0 : keep < 0
        · have HE : Hid (IntKind.i64.wrap (M.sb : Int) = (m : Int)) := hide (by
            have e : (M.sb : Int) = (m : Int) := by omega
            rw [e]; exact wrap_small m (by omega))
          clear hmk
          go_wp2_with fail
          go_quiet (fail)
          go_wp2_with fail
          obtain ⟨w8, hw8⟩ : ∃ w8, (wo.drewN nq).drew = w8 := ⟨_, rfl⟩
          have hB8 : Below wo.heap.size wo w8 := by rw [← hw8]; exact (below_drewN (Below.refl _ _) _).drew
          have h8 := h1.below hB8
          have hbA : Below w8.heap.size w8 (w8.alloc (.cells #[] 5)) := (Below.refl _ _).alloc (Nat.le_refl _) _
          have kS : ∀ W, Below w8.heap.size w8 W → W.cell? ⟨t.r, 4, none⟩ = some (.int .i64 (M.sb : Int)) := fun W hW => (h8.below hW).cell 4 rfl
          have kB : ∀ W, Below w8.heap.size w8 W → W.cell? ⟨t.r, 2, none⟩ = some (.slice ab1 M.b.length cb1) := fun W hW => (h8.below hW).cell 2 rfl
          have hrfl : Value.slice ab1 m cb1 = .slice ab1 (M.b.take m).length cb1 := by rw [hml]
          have hrow : RowAt (w8.alloc (.cells #[] 5)) ab1 (M.b.take m) := (h8.below hbA).rb.row.take m
          refine hs_begin (S := (fun w' : World => w'.cell? ⟨t.r, 4, none⟩ = some (.int .i64 (M.sb : Int)))) 23 rfl (by kernel_rfl) ?_
          rw [hw8]
          clear hw8
          have hS : (fun w' : World => w'.cell? ⟨t.r, 4, none⟩ = some (.int .i64 (M.sb : Int))) w8 := kS _ (Below.refl _ _)
          refine hs_take (i := 0) (d := some 29) (v := ?_) rfl (by kernel_rfl) (by kernel_rfl) (by kernel_rfl) (by rfl) ?_ hS rfl ?_
          rotate_left
          · intro w' hw
            go_simp
            try with_reducible rfl
          simp only [Act.put, List.setIfInBounds_toArray, List.set_cons_zero, List.set_cons_succ]
          refine hs_take (i := 1) (d := some 30) (v := ?_) rfl (by kernel_rfl) (by kernel_rfl) (by kernel_rfl) (by rfl) ?_ hS rfl ?_
          rotate_left
          · intro w' hw
            go_simp
            try with_reducible rfl
          simp only [Act.put, List.setIfInBounds_toArray, List.set_cons_zero, List.set_cons_succ]
          refine hs_take (i := 3) (d := some 32) (v := ?_) rfl (by kernel_rfl) (by kernel_rfl) (by kernel_rfl) (by rfl) ?_ hS rfl ?_
          rotate_left
          · intro w' hw
            go_simp
            try with_reducible rfl
          simp only [Act.put, List.setIfInBounds_toArray, List.set_cons_zero, List.set_cons_succ]
          refine hs_take (i := 4) (d := some 33) (v := ?_) rfl (by kernel_rfl) (by kernel_rfl) (by kernel_rfl) (by rfl) ?_ hS rfl ?_
          rotate_left
          · intro w' hw
            go_simp
            try with_reducible rfl
          simp only [Act.put, List.setIfInBounds_toArray, List.set_cons_zero, List.set_cons_succ]
          refine hs_take (i := 5) (d := some 34) (v := ?_) rfl (by kernel_rfl) (by kernel_rfl) (by kernel_rfl) (by rfl) ?_ hS rfl ?_
          rotate_left
          · intro w' hw
            go_simp
            try with_reducible rfl
          simp only [Act.put, List.setIfInBounds_toArray, List.set_cons_zero, List.set_cons_succ]
          refine hs_take (i := 6) (d := some 35) (v := ?_) rfl (by kernel_rfl) (by kernel_rfl) (by kernel_rfl) (by rfl) ?_ hS rfl ?_
          rotate_left
          · intro w' hw
            go_simp
            try with_reducible rfl
          simp only [Act.put, List.setIfInBounds_toArray, List.set_cons_zero, List.set_cons_succ]
          refine hs_take (i := 7) (d := some 36) (v := ?_) rfl (by kernel_rfl) (by kernel_rfl) (by kernel_rfl) (by rfl) ?_ hS rfl ?_
          rotate_left
          · intro w' hw
            go_simp
            try with_reducible rfl
          simp only [Act.put, List.setIfInBounds_toArray, List.set_cons_zero, List.set_cons_succ]
          refine hs_take (i := 9) (d := some 38) (v := ?_) rfl (by kernel_rfl) (by kernel_rfl) (by kernel_rfl) (by rfl) ?_ hS rfl ?_
          rotate_left
          · intro w' hw
            go_simp
            try with_reducible rfl
          simp only [Act.put, List.setIfInBounds_toArray, List.set_cons_zero, List.set_cons_succ]
          refine hs_take (i := 10) (d := some 39) (v := ?_) rfl (by kernel_rfl) (by kernel_rfl) (by kernel_rfl) (by rfl) ?_ hS rfl ?_
          rotate_left
          · intro w' hw
            go_simp
            try with_reducible rfl
          simp only [Act.put, List.setIfInBounds_toArray, List.set_cons_zero, List.set_cons_succ]
          refine hs_take (i := 11) (d := some 40) (v := ?_) rfl (by kernel_rfl) (by kernel_rfl) (by kernel_rfl) (by rfl) ?_ hS rfl ?_
          rotate_left
          · intro w' hw
            go_simp
            try with_reducible rfl
          simp only [Act.put, List.setIfInBounds_toArray, List.set_cons_zero, List.set_cons_succ]
          refine hs_take (i := 12) (d := some 41) (v := ?_) rfl (by kernel_rfl) (by kernel_rfl) (by kernel_rfl) (by rfl) ?_ hS rfl ?_
          rotate_left
          · intro w' hw
            go_simp
            try with_reducible rfl
          simp only [Act.put, List.setIfInBounds_toArray, List.set_cons_zero, List.set_cons_succ]
          refine hs_take (i := 13) (d := some 42) (v := ?_) rfl (by kernel_rfl) (by kernel_rfl) (by kernel_rfl) (by rfl) ?_ hS rfl ?_
          rotate_left
          · intro w' hw
            go_simp
            try with_reducible rfl
          simp only [Act.put, List.setIfInBounds_toArray, List.set_cons_zero, List.set_cons_succ]
          refine hs_take (i := 14) (d := some 43) (v := ?_) rfl (by kernel_rfl) (by kernel_rfl) (by kernel_rfl) (by rfl) ?_ hS rfl ?_
          rotate_left
          · intro w' hw
            have hc : w'.cell? ⟨t.r, 4, none⟩ = some (.int .i64 (M.sb : Int)) := hw
            go_simp
            try with_reducible rfl
          simp only [Act.put, List.setIfInBounds_toArray, List.set_cons_zero, List.set_cons_succ]
          refine hs_take (i := 15) (d := some 44) (v := ?_) rfl (by kernel_rfl) (by kernel_rfl) (by kernel_rfl) (by rfl) ?_ hS rfl ?_
          rotate_left
          · intro w' hw
            go_simp
            try with_reducible rfl
          simp only [Act.put, List.setIfInBounds_toArray, List.set_cons_zero, List.set_cons_succ]
          refine hs_take (i := 16) (d := some 45) (v := ?_) rfl (by kernel_rfl) (by kernel_rfl) (by kernel_rfl) (by rfl) ?_ hS rfl ?_
          rotate_left
          · intro w' hw
            go_simp
            try with_reducible rfl
          simp only [Act.put, List.setIfInBounds_toArray, List.set_cons_zero, List.set_cons_succ]
          rw [HE.out]
          refine hs_take (i := 19) (d := some 48) (v := ?_) rfl (by kernel_rfl) (by kernel_rfl) (by kernel_rfl) (by rfl) ?_ hS rfl ?_
          rotate_left
          · intro w' hw
            go_simp
            try with_reducible rfl
          simp only [Act.put, List.setIfInBounds_toArray, List.set_cons_zero, List.set_cons_succ]
          refine hs_take (i := 20) (d := some 49) (v := ?_) rfl (by kernel_rfl) (by kernel_rfl) (by kernel_rfl) (by rfl) ?_ hS rfl ?_
          rotate_left
          · intro w' hw
            go_simp
            try with_reducible rfl
          simp only [Act.put, List.setIfInBounds_toArray, List.set_cons_zero, List.set_cons_succ]
          refine hs_forkL (l := [2, 8]) (by kernel_rfl) (by simp) ?_
          intro ii hii
          simp only [List.mem_cons, List.not_mem_nil, or_false] at hii
          rcases hii with rfl | rfl
          · refine st_runX (i := 2) (d := some 31) rfl (by rfl) rfl (ex_bs0 rfl) ?_
            rintro vB W' ⟨rfl, rfl⟩
            refine ⟨kS _ hbA, ?_⟩
            simp only [Act.put, List.setIfInBounds_toArray, List.set_cons_zero, List.set_cons_succ]
            refine hs_runX (i := 8) (d := some 37) rfl (by kernel_rfl) (by rfl) rfl (ex_load rfl rfl (kB _ hbA)) ?_
            rintro vA W' ⟨rfl, hx⟩
            obtain rfl := hx.symm
            clear hx
            refine ⟨kS _ hbA, ?_⟩
            simp only [Act.put, List.setIfInBounds_toArray, List.set_cons_zero, List.set_cons_succ]
            have hS := kS _ hbA
            refine hs_take (i := 17) (d := some 46) (v := .slice ab1 m cb1) rfl (by kernel_rfl) (by kernel_rfl) (by kernel_rfl) (by rfl) (fun w' hw => by go_simp) hS rfl ?_
            simp only [Act.put, List.setIfInBounds_toArray, List.set_cons_zero, List.set_cons_succ]
            refine hs_runX (i := 18) (d := some 47) rfl (by kernel_rfl) (by rfl) rfl (ex_append rfl rfl hrfl (owns_new0 w8) (by simp) hrow hmm) ?_
            rintro vD W' ⟨hownD, hgrD⟩
            have hBD := below_gr hbA (by simp) (owns_new0 w8) hgrD
            rw [Nat.zero_add, List.nil_append] at hownD
            refine ⟨kS _ hBD, ?_⟩
            simp only [Act.put, List.setIfInBounds_toArray, List.set_cons_zero, List.set_cons_succ]
            obtain ⟨na, ncap, rfl, hRN, hNB⟩ := row_new hownD rfl (R := t.r) h8.lt hzt (by omega)
            have hS := kS _ hBD
            rw [hml]
            refine hs_take (i := 21) (d := some 50) (v := ?_) rfl (by kernel_rfl) (by kernel_rfl) (by kernel_rfl) (by rfl) ?_ hS rfl ?_
            rotate_left
            · intro w' hw
              go_simp
              try with_reducible rfl
            simp only [Act.put, List.setIfInBounds_toArray, List.set_cons_zero, List.set_cons_succ]
            have hth := (h8.below hBD).th
            have hst := run_store1 (P := Tryz.prog) W' t.r 2 35 (.slice na m ncap) (by have := there_part hth 2 1 (by omega); rwa [Nat.zero_add] at this) iszBs rfl
            refine hs_store (i := 22) rfl (by kernel_rfl) (by rfl) (exec_storeP rfl rfl rfl hst) rfl (set_there hS (by omega)) ?_
            refine hs_done (by kernel_rfl) ?_
            have xX : (W'.setCell ⟨t.r, 2, none⟩ (.slice na m ncap)).cell? ⟨t.r, 2, none⟩ = some (.slice na m ncap) := World.cell?_setCell_same _ _ _ (kB _ hBD)
            have hthY := there_set hth ⟨t.r, 2, none⟩ (.slice na m ncap)
            obtain ⟨wY, hwY⟩ : ∃ wY, W'.setCell ⟨t.r, 2, none⟩ (.slice na m ncap) = wY := ⟨_, rfl⟩
            have HX : Hid (∀ W1, Below wY.heap.size wY W1 → RTurned w (W1.setCell ⟨t.r, 4, none⟩ (.int .i64 (m : Int))) t (M.lostA true keep)) := hide (fun W1 hb => by
              rw [← hwY] at hb
              exact RTurned.trans (t1 := ⟨t.r, aa1, ca1, ab1, cb1, x1, y1⟩) rfl o1 n1 (lostR_1 h1 keep m hm.out (hB8.trans (hBD.mono hB8.size)) hRN (fun x hx => Nat.le_trans hB8.size (hNB x hx)) hb))
            rw [hwY] at xX hthY ⊢
            clear hwY hst hS hownD hgrD hBD hRN hNB kS hrow hbA h8 hB8
            go_wp2_with fail
            obtain ⟨wX, hwX⟩ : ∃ wX, wY.drew = wX := ⟨_, rfl⟩
            have hBX : Below wY.heap.size wY wX := by rw [← hwX]; exact (Below.refl _ _).drew
            have hxX : wX.cell? ⟨t.r, 2, none⟩ = some (.slice na m ncap) := by rw [← hwX]; exact xX
            have hthX : wX.there t.r 0 11 := by rw [← hwX]; exact (World.there_drew _ _ _ _).2 hthY
            refine hs_begin (S := (fun w' : World => w'.cell? ⟨t.r, 2, none⟩ = some (.slice na m ncap))) 13 rfl (by kernel_rfl) ?_
            rw [hwX]
            clear hwX
            have hS : (fun w' : World => w'.cell? ⟨t.r, 2, none⟩ = some (.slice na m ncap)) wX := hxX
            refine hs_take (i := 0) (d := some 51) (v := ?_) rfl (by kernel_rfl) (by kernel_rfl) (by kernel_rfl) (by rfl) ?_ hS rfl ?_
            rotate_left
            · intro w' hw
              go_simp
              try with_reducible rfl
            simp only [Act.put, List.setIfInBounds_toArray, List.set_cons_zero, List.set_cons_succ]
            refine hs_take (i := 1) (d := some 52) (v := ?_) rfl (by kernel_rfl) (by kernel_rfl) (by kernel_rfl) (by rfl) ?_ hS rfl ?_
            rotate_left
            · intro w' hw
              go_simp
              try with_reducible rfl
            simp only [Act.put, List.setIfInBounds_toArray, List.set_cons_zero, List.set_cons_succ]
            refine hs_take (i := 2) (d := some 53) (v := ?_) rfl (by kernel_rfl) (by kernel_rfl) (by kernel_rfl) (by rfl) ?_ hS rfl ?_
            rotate_left
            · intro w' hw
              go_simp
              try with_reducible rfl
            simp only [Act.put, List.setIfInBounds_toArray, List.set_cons_zero, List.set_cons_succ]
            refine hs_take (i := 3) (d := some 54) (v := ?_) rfl (by kernel_rfl) (by kernel_rfl) (by kernel_rfl) (by rfl) ?_ hS rfl ?_
            rotate_left
            · intro w' hw
              go_simp
              try with_reducible rfl
            simp only [Act.put, List.setIfInBounds_toArray, List.set_cons_zero, List.set_cons_succ]
            refine hs_take (i := 4) (d := some 55) (v := ?_) rfl (by kernel_rfl) (by kernel_rfl) (by kernel_rfl) (by rfl) ?_ hS rfl ?_
            rotate_left
            · intro w' hw
              go_simp
              try with_reducible rfl
            simp only [Act.put, List.setIfInBounds_toArray, List.set_cons_zero, List.set_cons_succ]
            refine hs_take (i := 5) (d := some 56) (v := ?_) rfl (by kernel_rfl) (by kernel_rfl) (by kernel_rfl) (by rfl) ?_ hS rfl ?_
            rotate_left
            · intro w' hw
              go_simp
              try with_reducible rfl
            simp only [Act.put, List.setIfInBounds_toArray, List.set_cons_zero, List.set_cons_succ]
            refine hs_take (i := 6) (d := some 57) (v := ?_) rfl (by kernel_rfl) (by kernel_rfl) (by kernel_rfl) (by rfl) ?_ hS rfl ?_
            rotate_left
            · intro w' hw
              go_simp
              try with_reducible rfl
            simp only [Act.put, List.setIfInBounds_toArray, List.set_cons_zero, List.set_cons_succ]
            refine hs_take (i := 7) (d := some 58) (v := ?_) rfl (by kernel_rfl) (by kernel_rfl) (by kernel_rfl) (by rfl) ?_ hS rfl ?_
            rotate_left
            · intro w' hw
              have hc : w'.cell? ⟨t.r, 2, none⟩ = some (.slice na m ncap) := hw
              go_simp
              try with_reducible rfl
            simp only [Act.put, List.setIfInBounds_toArray, List.set_cons_zero, List.set_cons_succ]
            refine hs_take (i := 8) (d := some 59) (v := ?_) rfl (by kernel_rfl) (by kernel_rfl) (by kernel_rfl) (by rfl) ?_ hS rfl ?_
            rotate_left
            · intro w' hw
              go_simp
              try with_reducible rfl
            simp only [Act.put, List.setIfInBounds_toArray, List.set_cons_zero, List.set_cons_succ]
            refine hs_take (i := 9) (d := some 60) (v := ?_) rfl (by kernel_rfl) (by kernel_rfl) (by kernel_rfl) (by rfl) ?_ hS rfl ?_
            rotate_left
            · intro w' hw
              go_simp
              try with_reducible rfl
            simp only [Act.put, List.setIfInBounds_toArray, List.set_cons_zero, List.set_cons_succ]
            refine hs_take (i := 10) (d := some 61) (v := ?_) rfl (by kernel_rfl) (by kernel_rfl) (by kernel_rfl) (by rfl) ?_ hS rfl ?_
            rotate_left
            · intro w' hw
              go_simp
              try with_reducible rfl
            simp only [Act.put, List.setIfInBounds_toArray, List.set_cons_zero, List.set_cons_succ]
            refine hs_take (i := 11) (d := some 62) (v := ?_) rfl (by kernel_rfl) (by kernel_rfl) (by kernel_rfl) (by rfl) ?_ hS rfl ?_
            rotate_left
            · intro w' hw
              go_simp
              try with_reducible rfl
            simp only [Act.put, List.setIfInBounds_toArray, List.set_cons_zero, List.set_cons_succ]
            have hst := run_store1 (P := Tryz.prog) wX t.r 4 3 (.int .i64 (m : Int)) (by have := there_part hthX 4 1 (by omega); rwa [Nat.zero_add] at this) iszI rfl
            refine hs_store (i := 12) rfl (by kernel_rfl) (by rfl) (exec_storeP rfl rfl rfl hst) rfl (set_there hS (by omega)) ?_
            refine hs_done (by kernel_rfl) ?_
            have HF := hide (HX.out wX hBX)
            clear HX hS hst
            go_wp2_with fail
            go_roundw
            case rel => exact .inr (.inr ⟨rfl, by rw [HM.out] at HF; exact HF.out⟩)
            case measure => simp [intOf]
          · refine st_runX (i := 8) (d := some 37) rfl (by rfl) rfl (ex_load rfl rfl (kB _ (Below.refl _ _))) ?_
            rintro vA W' ⟨rfl, hx⟩
            obtain rfl := hx.symm
            clear hx
            refine ⟨hS, ?_⟩
            simp only [Act.put, List.setIfInBounds_toArray, List.set_cons_zero, List.set_cons_succ]
            refine hs_take (i := 17) (d := some 46) (v := .slice ab1 m cb1) rfl (by kernel_rfl) (by kernel_rfl) (by kernel_rfl) (by rfl) (fun w' hw => by go_simp) hS rfl ?_
            simp only [Act.put, List.setIfInBounds_toArray, List.set_cons_zero, List.set_cons_succ]
            refine hs_runX (i := 2) (d := some 31) rfl (by kernel_rfl) (by rfl) rfl (ex_bs0 rfl) ?_
            rintro vB W' ⟨rfl, rfl⟩
            refine ⟨kS _ hbA, ?_⟩
            simp only [Act.put, List.setIfInBounds_toArray, List.set_cons_zero, List.set_cons_succ]
            refine hs_runX (i := 18) (d := some 47) rfl (by kernel_rfl) (by rfl) rfl (ex_append rfl rfl hrfl (owns_new0 w8) (by simp) hrow hmm) ?_
            rintro vD W' ⟨hownD, hgrD⟩
            have hBD := below_gr hbA (by simp) (owns_new0 w8) hgrD
            rw [Nat.zero_add, List.nil_append] at hownD
            refine ⟨kS _ hBD, ?_⟩
            simp only [Act.put, List.setIfInBounds_toArray, List.set_cons_zero, List.set_cons_succ]
            obtain ⟨na, ncap, rfl, hRN, hNB⟩ := row_new hownD rfl (R := t.r) h8.lt hzt (by omega)
            have hS := kS _ hBD
            rw [hml]
            refine hs_take (i := 21) (d := some 50) (v := ?_) rfl (by kernel_rfl) (by kernel_rfl) (by kernel_rfl) (by rfl) ?_ hS rfl ?_
            rotate_left
            · intro w' hw
              go_simp
              try with_reducible rfl
            simp only [Act.put, List.setIfInBounds_toArray, List.set_cons_zero, List.set_cons_succ]
            have hth := (h8.below hBD).th
            have hst := run_store1 (P := Tryz.prog) W' t.r 2 35 (.slice na m ncap) (by have := there_part hth 2 1 (by omega); rwa [Nat.zero_add] at this) iszBs rfl
            refine hs_store (i := 22) rfl (by kernel_rfl) (by rfl) (exec_storeP rfl rfl rfl hst) rfl (set_there hS (by omega)) ?_
            refine hs_done (by kernel_rfl) ?_
            have xX : (W'.setCell ⟨t.r, 2, none⟩ (.slice na m ncap)).cell? ⟨t.r, 2, none⟩ = some (.slice na m ncap) := World.cell?_setCell_same _ _ _ (kB _ hBD)
            have hthY := there_set hth ⟨t.r, 2, none⟩ (.slice na m ncap)
            obtain ⟨wY, hwY⟩ : ∃ wY, W'.setCell ⟨t.r, 2, none⟩ (.slice na m ncap) = wY := ⟨_, rfl⟩
            have HX : Hid (∀ W1, Below wY.heap.size wY W1 → RTurned w (W1.setCell ⟨t.r, 4, none⟩ (.int .i64 (m : Int))) t (M.lostA true keep)) := hide (fun W1 hb => by
              rw [← hwY] at hb
              exact RTurned.trans (t1 := ⟨t.r, aa1, ca1, ab1, cb1, x1, y1⟩) rfl o1 n1 (lostR_1 h1 keep m hm.out (hB8.trans (hBD.mono hB8.size)) hRN (fun x hx => Nat.le_trans hB8.size (hNB x hx)) hb))
            rw [hwY] at xX hthY ⊢
            clear hwY hst hS hownD hgrD hBD hRN hNB kS hrow hbA h8 hB8
            go_wp2_with fail
            obtain ⟨wX, hwX⟩ : ∃ wX, wY.drew = wX := ⟨_, rfl⟩
            have hBX : Below wY.heap.size wY wX := by rw [← hwX]; exact (Below.refl _ _).drew
            have hxX : wX.cell? ⟨t.r, 2, none⟩ = some (.slice na m ncap) := by rw [← hwX]; exact xX
            have hthX : wX.there t.r 0 11 := by rw [← hwX]; exact (World.there_drew _ _ _ _).2 hthY
            refine hs_begin (S := (fun w' : World => w'.cell? ⟨t.r, 2, none⟩ = some (.slice na m ncap))) 13 rfl (by kernel_rfl) ?_
            rw [hwX]
            clear hwX
            have hS : (fun w' : World => w'.cell? ⟨t.r, 2, none⟩ = some (.slice na m ncap)) wX := hxX
            refine hs_take (i := 0) (d := some 51) (v := ?_) rfl (by kernel_rfl) (by kernel_rfl) (by kernel_rfl) (by rfl) ?_ hS rfl ?_
            rotate_left
            · intro w' hw
              go_simp
              try with_reducible rfl
            simp only [Act.put, List.setIfInBounds_toArray, List.set_cons_zero, List.set_cons_succ]
            refine hs_take (i := 1) (d := some 52) (v := ?_) rfl (by kernel_rfl) (by kernel_rfl) (by kernel_rfl) (by rfl) ?_ hS rfl ?_
            rotate_left
            · intro w' hw
              go_simp
              try with_reducible rfl
            simp only [Act.put, List.setIfInBounds_toArray, List.set_cons_zero, List.set_cons_succ]
            refine hs_take (i := 2) (d := some 53) (v := ?_) rfl (by kernel_rfl) (by kernel_rfl) (by kernel_rfl) (by rfl) ?_ hS rfl ?_
            rotate_left
            · intro w' hw
              go_simp
              try with_reducible rfl
            simp only [Act.put, List.setIfInBounds_toArray, List.set_cons_zero, List.set_cons_succ]
            refine hs_take (i := 3) (d := some 54) (v := ?_) rfl (by kernel_rfl) (by kernel_rfl) (by kernel_rfl) (by rfl) ?_ hS rfl ?_
            rotate_left
            · intro w' hw
              go_simp
              try with_reducible rfl
            simp only [Act.put, List.setIfInBounds_toArray, List.set_cons_zero, List.set_cons_succ]
            refine hs_take (i := 4) (d := some 55) (v := ?_) rfl (by kernel_rfl) (by kernel_rfl) (by kernel_rfl) (by rfl) ?_ hS rfl ?_
            rotate_left
            · intro w' hw
              go_simp
              try with_reducible rfl
            simp only [Act.put, List.setIfInBounds_toArray, List.set_cons_zero, List.set_cons_succ]
            refine hs_take (i := 5) (d := some 56) (v := ?_) rfl (by kernel_rfl) (by kernel_rfl) (by kernel_rfl) (by rfl) ?_ hS rfl ?_
            rotate_left
            · intro w' hw
              go_simp
              try with_reducible rfl
            simp only [Act.put, List.setIfInBounds_toArray, List.set_cons_zero, List.set_cons_succ]
            refine hs_take (i := 6) (d := some 57) (v := ?_) rfl (by kernel_rfl) (by kernel_rfl) (by kernel_rfl) (by rfl) ?_ hS rfl ?_
            rotate_left
            · intro w' hw
              go_simp
              try with_reducible rfl
            simp only [Act.put, List.setIfInBounds_toArray, List.set_cons_zero, List.set_cons_succ]
            refine hs_take (i := 7) (d := some 58) (v := ?_) rfl (by kernel_rfl) (by kernel_rfl) (by kernel_rfl) (by rfl) ?_ hS rfl ?_
            rotate_left
            · intro w' hw
              have hc : w'.cell? ⟨t.r, 2, none⟩ = some (.slice na m ncap) := hw
              go_simp
              try with_reducible rfl
            simp only [Act.put, List.setIfInBounds_toArray, List.set_cons_zero, List.set_cons_succ]
            refine hs_take (i := 8) (d := some 59) (v := ?_) rfl (by kernel_rfl) (by kernel_rfl) (by kernel_rfl) (by rfl) ?_ hS rfl ?_
            rotate_left
            · intro w' hw
              go_simp
              try with_reducible rfl
            simp only [Act.put, List.setIfInBounds_toArray, List.set_cons_zero, List.set_cons_succ]
            refine hs_take (i := 9) (d := some 60) (v := ?_) rfl (by kernel_rfl) (by kernel_rfl) (by kernel_rfl) (by rfl) ?_ hS rfl ?_
            rotate_left
            · intro w' hw
              go_simp
              try with_reducible rfl
            simp only [Act.put, List.setIfInBounds_toArray, List.set_cons_zero, List.set_cons_succ]
            refine hs_take (i := 10) (d := some 61) (v := ?_) rfl (by kernel_rfl) (by kernel_rfl) (by kernel_rfl) (by rfl) ?_ hS rfl ?_
            rotate_left
            · intro w' hw
              go_simp
              try with_reducible rfl
            simp only [Act.put, List.setIfInBounds_toArray, List.set_cons_zero, List.set_cons_succ]
            refine hs_take (i := 11) (d := some 62) (v := ?_) rfl (by kernel_rfl) (by kernel_rfl) (by kernel_rfl) (by rfl) ?_ hS rfl ?_
            rotate_left
            · intro w' hw
              go_simp
              try with_reducible rfl
            simp only [Act.put, List.setIfInBounds_toArray, List.set_cons_zero, List.set_cons_succ]
            have hst := run_store1 (P := Tryz.prog) wX t.r 4 3 (.int .i64 (m : Int)) (by have := there_part hthX 4 1 (by omega); rwa [Nat.zero_add] at this) iszI rfl
            refine hs_store (i := 12) rfl (by kernel_rfl) (by rfl) (exec_storeP rfl rfl rfl hst) rfl (set_there hS (by omega)) ?_
            refine hs_done (by kernel_rfl) ?_
            have HF := hide (HX.out wX hBX)
            clear HX hS hst
            go_wp2_with fail
            go_roundw
            case rel => exact .inr (.inr ⟨rfl, by rw [HM.out] at HF; exact HF.out⟩)
            case measure => simp [intOf]
        · have HE : Hid (IntKind.i64.wrap ((M.sb : Int) + keep) = (m : Int)) := hide (by
            have e : ((M.sb : Int) + keep) = (m : Int) := by omega
            rw [e]; exact wrap_small m (by omega))
          clear hmk
          go_wp2_with fail
          go_quiet (fail)
          go_wp2_with fail
          obtain ⟨w8, hw8⟩ : ∃ w8, (wo.drewN nq).drew = w8 := ⟨_, rfl⟩
          have hB8 : Below wo.heap.size wo w8 := by rw [← hw8]; exact (below_drewN (Below.refl _ _) _).drew
          have h8 := h1.below hB8
          have hbA : Below w8.heap.size w8 (w8.alloc (.cells #[] 5)) := (Below.refl _ _).alloc (Nat.le_refl _) _
          have kS : ∀ W, Below w8.heap.size w8 W → W.cell? ⟨t.r, 4, none⟩ = some (.int .i64 (M.sb : Int)) := fun W hW => (h8.below hW).cell 4 rfl
          have kB : ∀ W, Below w8.heap.size w8 W → W.cell? ⟨t.r, 2, none⟩ = some (.slice ab1 M.b.length cb1) := fun W hW => (h8.below hW).cell 2 rfl
          have hrfl : Value.slice ab1 m cb1 = .slice ab1 (M.b.take m).length cb1 := by rw [hml]
          have hrow : RowAt (w8.alloc (.cells #[] 5)) ab1 (M.b.take m) := (h8.below hbA).rb.row.take m
          refine hs_begin (S := (fun w' : World => w'.cell? ⟨t.r, 4, none⟩ = some (.int .i64 (M.sb : Int)))) 23 rfl (by kernel_rfl) ?_
          rw [hw8]
          clear hw8
          have hS : (fun w' : World => w'.cell? ⟨t.r, 4, none⟩ = some (.int .i64 (M.sb : Int))) w8 := kS _ (Below.refl _ _)
          refine hs_take (i := 0) (d := some 29) (v := ?_) rfl (by kernel_rfl) (by kernel_rfl) (by kernel_rfl) (by rfl) ?_ hS rfl ?_
          rotate_left
          · intro w' hw
            go_simp
            try with_reducible rfl
          simp only [Act.put, List.setIfInBounds_toArray, List.set_cons_zero, List.set_cons_succ]
          refine hs_take (i := 1) (d := some 30) (v := ?_) rfl (by kernel_rfl) (by kernel_rfl) (by kernel_rfl) (by rfl) ?_ hS rfl ?_
          rotate_left
          · intro w' hw
            go_simp
            try with_reducible rfl
          simp only [Act.put, List.setIfInBounds_toArray, List.set_cons_zero, List.set_cons_succ]
          refine hs_take (i := 3) (d := some 32) (v := ?_) rfl (by kernel_rfl) (by kernel_rfl) (by kernel_rfl) (by rfl) ?_ hS rfl ?_
          rotate_left
          · intro w' hw
            go_simp
            try with_reducible rfl
          simp only [Act.put, List.setIfInBounds_toArray, List.set_cons_zero, List.set_cons_succ]
          refine hs_take (i := 4) (d := some 33) (v := ?_) rfl (by kernel_rfl) (by kernel_rfl) (by kernel_rfl) (by rfl) ?_ hS rfl ?_
          rotate_left
          · intro w' hw
            go_simp
            try with_reducible rfl
          simp only [Act.put, List.setIfInBounds_toArray, List.set_cons_zero, List.set_cons_succ]
          refine hs_take (i := 5) (d := some 34) (v := ?_) rfl (by kernel_rfl) (by kernel_rfl) (by kernel_rfl) (by rfl) ?_ hS rfl ?_
          rotate_left
          · intro w' hw
            go_simp
            try with_reducible rfl
          simp only [Act.put, List.setIfInBounds_toArray, List.set_cons_zero, List.set_cons_succ]
          refine hs_take (i := 6) (d := some 35) (v := ?_) rfl (by kernel_rfl) (by kernel_rfl) (by kernel_rfl) (by rfl) ?_ hS rfl ?_
          rotate_left
          · intro w' hw
            go_simp
            try with_reducible rfl
          simp only [Act.put, List.setIfInBounds_toArray, List.set_cons_zero, List.set_cons_succ]
          refine hs_take (i := 7) (d := some 36) (v := ?_) rfl (by kernel_rfl) (by kernel_rfl) (by kernel_rfl) (by rfl) ?_ hS rfl ?_
          rotate_left
          · intro w' hw
            go_simp
            try with_reducible rfl
          simp only [Act.put, List.setIfInBounds_toArray, List.set_cons_zero, List.set_cons_succ]
          refine hs_take (i := 9) (d := some 38) (v := ?_) rfl (by kernel_rfl) (by kernel_rfl) (by kernel_rfl) (by rfl) ?_ hS rfl ?_
          rotate_left
          · intro w' hw
            go_simp
            try with_reducible rfl
          simp only [Act.put, List.setIfInBounds_toArray, List.set_cons_zero, List.set_cons_succ]
          refine hs_take (i := 10) (d := some 39) (v := ?_) rfl (by kernel_rfl) (by kernel_rfl) (by kernel_rfl) (by rfl) ?_ hS rfl ?_
          rotate_left
          · intro w' hw
            go_simp
            try with_reducible rfl
          simp only [Act.put, List.setIfInBounds_toArray, List.set_cons_zero, List.set_cons_succ]
          refine hs_take (i := 11) (d := some 40) (v := ?_) rfl (by kernel_rfl) (by kernel_rfl) (by kernel_rfl) (by rfl) ?_ hS rfl ?_
          rotate_left
          · intro w' hw
            go_simp
            try with_reducible rfl
          simp only [Act.put, List.setIfInBounds_toArray, List.set_cons_zero, List.set_cons_succ]
          refine hs_take (i := 12) (d := some 41) (v := ?_) rfl (by kernel_rfl) (by kernel_rfl) (by kernel_rfl) (by rfl) ?_ hS rfl ?_
          rotate_left
          · intro w' hw
            go_simp
            try with_reducible rfl
          simp only [Act.put, List.setIfInBounds_toArray, List.set_cons_zero, List.set_cons_succ]
          refine hs_take (i := 13) (d := some 42) (v := ?_) rfl (by kernel_rfl) (by kernel_rfl) (by kernel_rfl) (by rfl) ?_ hS rfl ?_
          rotate_left
          · intro w' hw
            go_simp
            try with_reducible rfl
          simp only [Act.put, List.setIfInBounds_toArray, List.set_cons_zero, List.set_cons_succ]
          refine hs_take (i := 14) (d := some 43) (v := ?_) rfl (by kernel_rfl) (by kernel_rfl) (by kernel_rfl) (by rfl) ?_ hS rfl ?_
          rotate_left
          · intro w' hw
            have hc : w'.cell? ⟨t.r, 4, none⟩ = some (.int .i64 (M.sb : Int)) := hw
            go_simp
            try with_reducible rfl
          simp only [Act.put, List.setIfInBounds_toArray, List.set_cons_zero, List.set_cons_succ]
          refine hs_take (i := 15) (d := some 44) (v := ?_) rfl (by kernel_rfl) (by kernel_rfl) (by kernel_rfl) (by rfl) ?_ hS rfl ?_
          rotate_left
          · intro w' hw
            go_simp
            try with_reducible rfl
          simp only [Act.put, List.setIfInBounds_toArray, List.set_cons_zero, List.set_cons_succ]
          refine hs_take (i := 16) (d := some 45) (v := ?_) rfl (by kernel_rfl) (by kernel_rfl) (by kernel_rfl) (by rfl) ?_ hS rfl ?_
          rotate_left
          · intro w' hw
            go_simp
            try with_reducible rfl
          simp only [Act.put, List.setIfInBounds_toArray, List.set_cons_zero, List.set_cons_succ]
          rw [HE.out]
          refine hs_take (i := 19) (d := some 48) (v := ?_) rfl (by kernel_rfl) (by kernel_rfl) (by kernel_rfl) (by rfl) ?_ hS rfl ?_
          rotate_left
          · intro w' hw
            go_simp
            try with_reducible rfl
          simp only [Act.put, List.setIfInBounds_toArray, List.set_cons_zero, List.set_cons_succ]
          refine hs_take (i := 20) (d := some 49) (v := ?_) rfl (by kernel_rfl) (by kernel_rfl) (by kernel_rfl) (by rfl) ?_ hS rfl ?_
          rotate_left
          · intro w' hw
            go_simp
            try with_reducible rfl
          simp only [Act.put, List.setIfInBounds_toArray, List.set_cons_zero, List.set_cons_succ]
          refine hs_forkL (l := [2, 8]) (by kernel_rfl) (by simp) ?_
          intro ii hii
          simp only [List.mem_cons, List.not_mem_nil, or_false] at hii
          rcases hii with rfl | rfl
          · refine st_runX (i := 2) (d := some 31) rfl (by rfl) rfl (ex_bs0 rfl) ?_
            rintro vB W' ⟨rfl, rfl⟩
            refine ⟨kS _ hbA, ?_⟩
            simp only [Act.put, List.setIfInBounds_toArray, List.set_cons_zero, List.set_cons_succ]
            refine hs_runX (i := 8) (d := some 37) rfl (by kernel_rfl) (by rfl) rfl (ex_load rfl rfl (kB _ hbA)) ?_
            rintro vA W' ⟨rfl, hx⟩
            obtain rfl := hx.symm
            clear hx
            refine ⟨kS _ hbA, ?_⟩
            simp only [Act.put, List.setIfInBounds_toArray, List.set_cons_zero, List.set_cons_succ]
            have hS := kS _ hbA
            refine hs_take (i := 17) (d := some 46) (v := .slice ab1 m cb1) rfl (by kernel_rfl) (by kernel_rfl) (by kernel_rfl) (by rfl) (fun w' hw => by go_simp) hS rfl ?_
            simp only [Act.put, List.setIfInBounds_toArray, List.set_cons_zero, List.set_cons_succ]
            refine hs_runX (i := 18) (d := some 47) rfl (by kernel_rfl) (by rfl) rfl (ex_append rfl rfl hrfl (owns_new0 w8) (by simp) hrow hmm) ?_
            rintro vD W' ⟨hownD, hgrD⟩
            have hBD := below_gr hbA (by simp) (owns_new0 w8) hgrD
            rw [Nat.zero_add, List.nil_append] at hownD
            refine ⟨kS _ hBD, ?_⟩
            simp only [Act.put, List.setIfInBounds_toArray, List.set_cons_zero, List.set_cons_succ]
            obtain ⟨na, ncap, rfl, hRN, hNB⟩ := row_new hownD rfl (R := t.r) h8.lt hzt (by omega)
            have hS := kS _ hBD
            rw [hml]
            refine hs_take (i := 21) (d := some 50) (v := ?_) rfl (by kernel_rfl) (by kernel_rfl) (by kernel_rfl) (by rfl) ?_ hS rfl ?_
            rotate_left
            · intro w' hw
              go_simp
              try with_reducible rfl
            simp only [Act.put, List.setIfInBounds_toArray, List.set_cons_zero, List.set_cons_succ]
            have hth := (h8.below hBD).th
            have hst := run_store1 (P := Tryz.prog) W' t.r 2 35 (.slice na m ncap) (by have := there_part hth 2 1 (by omega); rwa [Nat.zero_add] at this) iszBs rfl
            refine hs_store (i := 22) rfl (by kernel_rfl) (by rfl) (exec_storeP rfl rfl rfl hst) rfl (set_there hS (by omega)) ?_
            refine hs_done (by kernel_rfl) ?_
            have xX : (W'.setCell ⟨t.r, 2, none⟩ (.slice na m ncap)).cell? ⟨t.r, 2, none⟩ = some (.slice na m ncap) := World.cell?_setCell_same _ _ _ (kB _ hBD)
            have hthY := there_set hth ⟨t.r, 2, none⟩ (.slice na m ncap)
            obtain ⟨wY, hwY⟩ : ∃ wY, W'.setCell ⟨t.r, 2, none⟩ (.slice na m ncap) = wY := ⟨_, rfl⟩
            have HX : Hid (∀ W1, Below wY.heap.size wY W1 → RTurned w (W1.setCell ⟨t.r, 4, none⟩ (.int .i64 (m : Int))) t (M.lostA true keep)) := hide (fun W1 hb => by
              rw [← hwY] at hb
              exact RTurned.trans (t1 := ⟨t.r, aa1, ca1, ab1, cb1, x1, y1⟩) rfl o1 n1 (lostR_1 h1 keep m hm.out (hB8.trans (hBD.mono hB8.size)) hRN (fun x hx => Nat.le_trans hB8.size (hNB x hx)) hb))
            rw [hwY] at xX hthY ⊢
            clear hwY hst hS hownD hgrD hBD hRN hNB kS hrow hbA h8 hB8
            go_wp2_with fail
            obtain ⟨wX, hwX⟩ : ∃ wX, wY.drew = wX := ⟨_, rfl⟩
            have hBX : Below wY.heap.size wY wX := by rw [← hwX]; exact (Below.refl _ _).drew
            have hxX : wX.cell? ⟨t.r, 2, none⟩ = some (.slice na m ncap) := by rw [← hwX]; exact xX
            have hthX : wX.there t.r 0 11 := by rw [← hwX]; exact (World.there_drew _ _ _ _).2 hthY
            refine hs_begin (S := (fun w' : World => w'.cell? ⟨t.r, 2, none⟩ = some (.slice na m ncap))) 13 rfl (by kernel_rfl) ?_
            rw [hwX]
            clear hwX
            have hS : (fun w' : World => w'.cell? ⟨t.r, 2, none⟩ = some (.slice na m ncap)) wX := hxX
            refine hs_take (i := 0) (d := some 51) (v := ?_) rfl (by kernel_rfl) (by kernel_rfl) (by kernel_rfl) (by rfl) ?_ hS rfl ?_
            rotate_left
            · intro w' hw
              go_simp
              try with_reducible rfl
            simp only [Act.put, List.setIfInBounds_toArray, List.set_cons_zero, List.set_cons_succ]
            refine hs_take (i := 1) (d := some 52) (v := ?_) rfl (by kernel_rfl) (by kernel_rfl) (by kernel_rfl) (by rfl) ?_ hS rfl ?_
            rotate_left
            · intro w' hw
              go_simp
              try with_reducible rfl
            simp only [Act.put, List.setIfInBounds_toArray, List.set_cons_zero, List.set_cons_succ]
            refine hs_take (i := 2) (d := some 53) (v := ?_) rfl (by kernel_rfl) (by kernel_rfl) (by kernel_rfl) (by rfl) ?_ hS rfl ?_
            rotate_left
            · intro w' hw
              go_simp
              try with_reducible rfl
            simp only [Act.put, List.setIfInBounds_toArray, List.set_cons_zero, List.set_cons_succ]
            refine hs_take (i := 3) (d := some 54) (v := ?_) rfl (by kernel_rfl) (by kernel_rfl) (by kernel_rfl) (by rfl) ?_ hS rfl ?_
            rotate_left
            · intro w' hw
              go_simp
              try with_reducible rfl
            simp only [Act.put, List.setIfInBounds_toArray, List.set_cons_zero, List.set_cons_succ]
            refine hs_take (i := 4) (d := some 55) (v := ?_) rfl (by kernel_rfl) (by kernel_rfl) (by kernel_rfl) (by rfl) ?_ hS rfl ?_
            rotate_left
            · intro w' hw
              go_simp
              try with_reducible rfl
            simp only [Act.put, List.setIfInBounds_toArray, List.set_cons_zero, List.set_cons_succ]
            refine hs_take (i := 5) (d := some 56) (v := ?_) rfl (by kernel_rfl) (by kernel_rfl) (by kernel_rfl) (by rfl) ?_ hS rfl ?_
            rotate_left
            · intro w' hw
              go_simp
              try with_reducible rfl
            simp only [Act.put, List.setIfInBounds_toArray, List.set_cons_zero, List.set_cons_succ]
            refine hs_take (i := 6) (d := some 57) (v := ?_) rfl (by kernel_rfl) (by kernel_rfl) (by kernel_rfl) (by rfl) ?_ hS rfl ?_
            rotate_left
            · intro w' hw
              go_simp
              try with_reducible rfl
            simp only [Act.put, List.setIfInBounds_toArray, List.set_cons_zero, List.set_cons_succ]
            refine hs_take (i := 7) (d := some 58) (v := ?_) rfl (by kernel_rfl) (by kernel_rfl) (by kernel_rfl) (by rfl) ?_ hS rfl ?_
            rotate_left
            · intro w' hw
              have hc : w'.cell? ⟨t.r, 2, none⟩ = some (.slice na m ncap) := hw
              go_simp
              try with_reducible rfl
            simp only [Act.put, List.setIfInBounds_toArray, List.set_cons_zero, List.set_cons_succ]
            refine hs_take (i := 8) (d := some 59) (v := ?_) rfl (by kernel_rfl) (by kernel_rfl) (by kernel_rfl) (by rfl) ?_ hS rfl ?_
            rotate_left
            · intro w' hw
              go_simp
              try with_reducible rfl
            simp only [Act.put, List.setIfInBounds_toArray, List.set_cons_zero, List.set_cons_succ]
            refine hs_take (i := 9) (d := some 60) (v := ?_) rfl (by kernel_rfl) (by kernel_rfl) (by kernel_rfl) (by rfl) ?_ hS rfl ?_
            rotate_left
            · intro w' hw
              go_simp
              try with_reducible rfl
            simp only [Act.put, List.setIfInBounds_toArray, List.set_cons_zero, List.set_cons_succ]
            refine hs_take (i := 10) (d := some 61) (v := ?_) rfl (by kernel_rfl) (by kernel_rfl) (by kernel_rfl) (by rfl) ?_ hS rfl ?_
            rotate_left
            · intro w' hw
              go_simp
              try with_reducible rfl
            simp only [Act.put, List.setIfInBounds_toArray, List.set_cons_zero, List.set_cons_succ]
            refine hs_take (i := 11) (d := some 62) (v := ?_) rfl (by kernel_rfl) (by kernel_rfl) (by kernel_rfl) (by rfl) ?_ hS rfl ?_
            rotate_left
            · intro w' hw
              go_simp
              try with_reducible rfl
            simp only [Act.put, List.setIfInBounds_toArray, List.set_cons_zero, List.set_cons_succ]
            have hst := run_store1 (P := Tryz.prog) wX t.r 4 3 (.int .i64 (m : Int)) (by have := there_part hthX 4 1 (by omega); rwa [Nat.zero_add] at this) iszI rfl
            refine hs_store (i := 12) rfl (by kernel_rfl) (by rfl) (exec_storeP rfl rfl rfl hst) rfl (set_there hS (by omega)) ?_
            refine hs_done (by kernel_rfl) ?_
            have HF := hide (HX.out wX hBX)
            clear HX hS hst
            go_wp2_with fail
            go_roundw
            case rel => exact .inr (.inr ⟨rfl, by rw [HM.out] at HF; exact HF.out⟩)
            case measure => simp [intOf]
          · refine st_runX (i := 8) (d := some 37) rfl (by rfl) rfl (ex_load rfl rfl (kB _ (Below.refl _ _))) ?_
            rintro vA W' ⟨rfl, hx⟩
            obtain rfl := hx.symm
            clear hx
            refine ⟨hS, ?_⟩
            simp only [Act.put, List.setIfInBounds_toArray, List.set_cons_zero, List.set_cons_succ]
            refine hs_take (i := 17) (d := some 46) (v := .slice ab1 m cb1) rfl (by kernel_rfl) (by kernel_rfl) (by kernel_rfl) (by rfl) (fun w' hw => by go_simp) hS rfl ?_
            simp only [Act.put, List.setIfInBounds_toArray, List.set_cons_zero, List.set_cons_succ]
            refine hs_runX (i := 2) (d := some 31) rfl (by kernel_rfl) (by rfl) rfl (ex_bs0 rfl) ?_
            rintro vB W' ⟨rfl, rfl⟩
            refine ⟨kS _ hbA, ?_⟩
            simp only [Act.put, List.setIfInBounds_toArray, List.set_cons_zero, List.set_cons_succ]
            refine hs_runX (i := 18) (d := some 47) rfl (by kernel_rfl) (by rfl) rfl (ex_append rfl rfl hrfl (owns_new0 w8) (by simp) hrow hmm) ?_
            rintro vD W' ⟨hownD, hgrD⟩
            have hBD := below_gr hbA (by simp) (owns_new0 w8) hgrD
            rw [Nat.zero_add, List.nil_append] at hownD
            refine ⟨kS _ hBD, ?_⟩
            simp only [Act.put, List.setIfInBounds_toArray, List.set_cons_zero, List.set_cons_succ]
            obtain ⟨na, ncap, rfl, hRN, hNB⟩ := row_new hownD rfl (R := t.r) h8.lt hzt (by omega)
            have hS := kS _ hBD
            rw [hml]
            refine hs_take (i := 21) (d := some 50) (v := ?_) rfl (by kernel_rfl) (by kernel_rfl) (by kernel_rfl) (by rfl) ?_ hS rfl ?_
            rotate_left
            · intro w' hw
              go_simp
              try with_reducible rfl
            simp only [Act.put, List.setIfInBounds_toArray, List.set_cons_zero, List.set_cons_succ]
            have hth := (h8.below hBD).th
            have hst := run_store1 (P := Tryz.prog) W' t.r 2 35 (.slice na m ncap) (by have := there_part hth 2 1 (by omega); rwa [Nat.zero_add] at this) iszBs rfl
            refine hs_store (i := 22) rfl (by kernel_rfl) (by rfl) (exec_storeP rfl rfl rfl hst) rfl (set_there hS (by omega)) ?_
            refine hs_done (by kernel_rfl) ?_
            have xX : (W'.setCell ⟨t.r, 2, none⟩ (.slice na m ncap)).cell? ⟨t.r, 2, none⟩ = some (.slice na m ncap) := World.cell?_setCell_same _ _ _ (kB _ hBD)
            have hthY := there_set hth ⟨t.r, 2, none⟩ (.slice na m ncap)
            obtain ⟨wY, hwY⟩ : ∃ wY, W'.setCell ⟨t.r, 2, none⟩ (.slice na m ncap) = wY := ⟨_, rfl⟩
            have HX : Hid (∀ W1, Below wY.heap.size wY W1 → RTurned w (W1.setCell ⟨t.r, 4, none⟩ (.int .i64 (m : Int))) t (M.lostA true keep)) := hide (fun W1 hb => by
              rw [← hwY] at hb
              exact RTurned.trans (t1 := ⟨t.r, aa1, ca1, ab1, cb1, x1, y1⟩) rfl o1 n1 (lostR_1 h1 keep m hm.out (hB8.trans (hBD.mono hB8.size)) hRN (fun x hx => Nat.le_trans hB8.size (hNB x hx)) hb))
            rw [hwY] at xX hthY ⊢
            clear hwY hst hS hownD hgrD hBD hRN hNB kS hrow hbA h8 hB8
            go_wp2_with fail
            obtain ⟨wX, hwX⟩ : ∃ wX, wY.drew = wX := ⟨_, rfl⟩
            have hBX : Below wY.heap.size wY wX := by rw [← hwX]; exact (Below.refl _ _).drew
            have hxX : wX.cell? ⟨t.r, 2, none⟩ = some (.slice na m ncap) := by rw [← hwX]; exact xX
            have hthX : wX.there t.r 0 11 := by rw [← hwX]; exact (World.there_drew _ _ _ _).2 hthY
            refine hs_begin (S := (fun w' : World => w'.cell? ⟨t.r, 2, none⟩ = some (.slice na m ncap))) 13 rfl (by kernel_rfl) ?_
            rw [hwX]
            clear hwX
            have hS : (fun w' : World => w'.cell? ⟨t.r, 2, none⟩ = some (.slice na m ncap)) wX := hxX
            refine hs_take (i := 0) (d := some 51) (v := ?_) rfl (by kernel_rfl) (by kernel_rfl) (by kernel_rfl) (by rfl) ?_ hS rfl ?_
            rotate_left
            · intro w' hw
              go_simp
              try with_reducible rfl
            simp only [Act.put, List.setIfInBounds_toArray, List.set_cons_zero, List.set_cons_succ]
            refine hs_take (i := 1) (d := some 52) (v := ?_) rfl (by kernel_rfl) (by kernel_rfl) (by kernel_rfl) (by rfl) ?_ hS rfl ?_
            rotate_left
            · intro w' hw
              go_simp
              try with_reducible rfl
            simp only [Act.put, List.setIfInBounds_toArray, List.set_cons_zero, List.set_cons_succ]
            refine hs_take (i := 2) (d := some 53) (v := ?_) rfl (by kernel_rfl) (by kernel_rfl) (by kernel_rfl) (by rfl) ?_ hS rfl ?_
            rotate_left
            · intro w' hw
              go_simp
              try with_reducible rfl
            simp only [Act.put, List.setIfInBounds_toArray, List.set_cons_zero, List.set_cons_succ]
            refine hs_take (i := 3) (d := some 54) (v := ?_) rfl (by kernel_rfl) (by kernel_rfl) (by kernel_rfl) (by rfl) ?_ hS rfl ?_
            rotate_left
            · intro w' hw
              go_simp
              try with_reducible rfl
            simp only [Act.put, List.setIfInBounds_toArray, List.set_cons_zero, List.set_cons_succ]
            refine hs_take (i := 4) (d := some 55) (v := ?_) rfl (by kernel_rfl) (by kernel_rfl) (by kernel_rfl) (by rfl) ?_ hS rfl ?_
            rotate_left
            · intro w' hw
              go_simp
              try with_reducible rfl
            simp only [Act.put, List.setIfInBounds_toArray, List.set_cons_zero, List.set_cons_succ]
            refine hs_take (i := 5) (d := some 56) (v := ?_) rfl (by kernel_rfl) (by kernel_rfl) (by kernel_rfl) (by rfl) ?_ hS rfl ?_
            rotate_left
            · intro w' hw
              go_simp
              try with_reducible rfl
            simp only [Act.put, List.setIfInBounds_toArray, List.set_cons_zero, List.set_cons_succ]
            refine hs_take (i := 6) (d := some 57) (v := ?_) rfl (by kernel_rfl) (by kernel_rfl) (by kernel_rfl) (by rfl) ?_ hS rfl ?_
            rotate_left
            · intro w' hw
              go_simp
              try with_reducible rfl
            simp only [Act.put, List.setIfInBounds_toArray, List.set_cons_zero, List.set_cons_succ]
            refine hs_take (i := 7) (d := some 58) (v := ?_) rfl (by kernel_rfl) (by kernel_rfl) (by kernel_rfl) (by rfl) ?_ hS rfl ?_
            rotate_left
            · intro w' hw
              have hc : w'.cell? ⟨t.r, 2, none⟩ = some (.slice na m ncap) := hw
              go_simp
              try with_reducible rfl
            simp only [Act.put, List.setIfInBounds_toArray, List.set_cons_zero, List.set_cons_succ]
            refine hs_take (i := 8) (d := some 59) (v := ?_) rfl (by kernel_rfl) (by kernel_rfl) (by kernel_rfl) (by rfl) ?_ hS rfl ?_
            rotate_left
            · intro w' hw
              go_simp
              try with_reducible rfl
            simp only [Act.put, List.setIfInBounds_toArray, List.set_cons_zero, List.set_cons_succ]
            refine hs_take (i := 9) (d := some 60) (v := ?_) rfl (by kernel_rfl) (by kernel_rfl) (by kernel_rfl) (by rfl) ?_ hS rfl ?_
            rotate_left
            · intro w' hw
              go_simp
              try with_reducible rfl
            simp only [Act.put, List.setIfInBounds_toArray, List.set_cons_zero, List.set_cons_succ]
            refine hs_take (i := 10) (d := some 61) (v := ?_) rfl (by kernel_rfl) (by kernel_rfl) (by kernel_rfl) (by rfl) ?_ hS rfl ?_
            rotate_left
            · intro w' hw
              go_simp
              try with_reducible rfl
            simp only [Act.put, List.setIfInBounds_toArray, List.set_cons_zero, List.set_cons_succ]
            refine hs_take (i := 11) (d := some 62) (v := ?_) rfl (by kernel_rfl) (by kernel_rfl) (by kernel_rfl) (by rfl) ?_ hS rfl ?_
            rotate_left
            · intro w' hw
              go_simp
              try with_reducible rfl
            simp only [Act.put, List.setIfInBounds_toArray, List.set_cons_zero, List.set_cons_succ]
            have hst := run_store1 (P := Tryz.prog) wX t.r 4 3 (.int .i64 (m : Int)) (by have := there_part hthX 4 1 (by omega); rwa [Nat.zero_add] at this) iszI rfl
            refine hs_store (i := 12) rfl (by kernel_rfl) (by rfl) (exec_storeP rfl rfl rfl hst) rfl (set_there hS (by omega)) ?_
            refine hs_done (by kernel_rfl) ?_
            have HF := hide (HX.out wX hBX)
            clear HX hS hst
            go_wp2_with fail
            go_roundw
            case rel => exact .inr (.inr ⟨rfl, by rw [HM.out] at HF; exact HF.out⟩)
            case measure => simp [intOf]
      · have HE : Hid (IntKind.i64.wrap ((M.sb : Int) + ((M.b.length : Int) - M.sb)) = (m : Int)) := hide (by
          have e : ((M.sb : Int) + ((M.b.length : Int) - M.sb)) = (m : Int) := by omega
          rw [e]; exact wrap_small m (by omega))
        clear hmk
        go_wp2_with fail
        go_quiet (fail)
        go_wp2_with fail
        obtain ⟨w8, hw8⟩ : ∃ w8, (wo.drewN nq).drew = w8 := ⟨_, rfl⟩
        have hB8 : Below wo.heap.size wo w8 := by rw [← hw8]; exact (below_drewN (Below.refl _ _) _).drew
        have h8 := h1.below hB8
        have hbA : Below w8.heap.size w8 (w8.alloc (.cells #[] 5)) := (Below.refl _ _).alloc (Nat.le_refl _) _
        have kS : ∀ W, Below w8.heap.size w8 W → W.cell? ⟨t.r, 4, none⟩ = some (.int .i64 (M.sb : Int)) := fun W hW => (h8.below hW).cell 4 rfl
        have kB : ∀ W, Below w8.heap.size w8 W → W.cell? ⟨t.r, 2, none⟩ = some (.slice ab1 M.b.length cb1) := fun W hW => (h8.below hW).cell 2 rfl
        have hrfl : Value.slice ab1 m cb1 = .slice ab1 (M.b.take m).length cb1 := by rw [hml]
        have hrow : RowAt (w8.alloc (.cells #[] 5)) ab1 (M.b.take m) := (h8.below hbA).rb.row.take m
        refine hs_begin (S := (fun w' : World => w'.cell? ⟨t.r, 4, none⟩ = some (.int .i64 (M.sb : Int)))) 23 rfl (by kernel_rfl) ?_
        rw [hw8]
        clear hw8
        have hS : (fun w' : World => w'.cell? ⟨t.r, 4, none⟩ = some (.int .i64 (M.sb : Int))) w8 := kS _ (Below.refl _ _)
        refine hs_take (i := 0) (d := some 29) (v := ?_) rfl (by kernel_rfl) (by kernel_rfl) (by kernel_rfl) (by rfl) ?_ hS rfl ?_
        rotate_left
        · intro w' hw
          go_simp
          try with_reducible rfl
        simp only [Act.put, List.setIfInBounds_toArray, List.set_cons_zero, List.set_cons_succ]
        refine hs_take (i := 1) (d := some 30) (v := ?_) rfl (by kernel_rfl) (by kernel_rfl) (by kernel_rfl) (by rfl) ?_ hS rfl ?_
        rotate_left
        · intro w' hw
          go_simp
          try with_reducible rfl
        simp only [Act.put, List.setIfInBounds_toArray, List.set_cons_zero, List.set_cons_succ]
        refine hs_take (i := 3) (d := some 32) (v := ?_) rfl (by kernel_rfl) (by kernel_rfl) (by kernel_rfl) (by rfl) ?_ hS rfl ?_
        rotate_left
        · intro w' hw
          go_simp
          try with_reducible rfl
        simp only [Act.put, List.setIfInBounds_toArray, List.set_cons_zero, List.set_cons_succ]
        refine hs_take (i := 4) (d := some 33) (v := ?_) rfl (by kernel_rfl) (by kernel_rfl) (by kernel_rfl) (by rfl) ?_ hS rfl ?_
        rotate_left
        · intro w' hw
          go_simp
          try with_reducible rfl
        simp only [Act.put, List.setIfInBounds_toArray, List.set_cons_zero, List.set_cons_succ]
        refine hs_take (i := 5) (d := some 34) (v := ?_) rfl (by kernel_rfl) (by kernel_rfl) (by kernel_rfl) (by rfl) ?_ hS rfl ?_
        rotate_left
        · intro w' hw
          go_simp
          try with_reducible rfl
        simp only [Act.put, List.setIfInBounds_toArray, List.set_cons_zero, List.set_cons_succ]
        refine hs_take (i := 6) (d := some 35) (v := ?_) rfl (by kernel_rfl) (by kernel_rfl) (by kernel_rfl) (by rfl) ?_ hS rfl ?_
        rotate_left
        · intro w' hw
          go_simp
          try with_reducible rfl
        simp only [Act.put, List.setIfInBounds_toArray, List.set_cons_zero, List.set_cons_succ]
        refine hs_take (i := 7) (d := some 36) (v := ?_) rfl (by kernel_rfl) (by kernel_rfl) (by kernel_rfl) (by rfl) ?_ hS rfl ?_
        rotate_left
        · intro w' hw
          go_simp
          try with_reducible rfl
        simp only [Act.put, List.setIfInBounds_toArray, List.set_cons_zero, List.set_cons_succ]
        refine hs_take (i := 9) (d := some 38) (v := ?_) rfl (by kernel_rfl) (by kernel_rfl) (by kernel_rfl) (by rfl) ?_ hS rfl ?_
        rotate_left
        · intro w' hw
          go_simp
          try with_reducible rfl
        simp only [Act.put, List.setIfInBounds_toArray, List.set_cons_zero, List.set_cons_succ]
        refine hs_take (i := 10) (d := some 39) (v := ?_) rfl (by kernel_rfl) (by kernel_rfl) (by kernel_rfl) (by rfl) ?_ hS rfl ?_
        rotate_left
        · intro w' hw
          go_simp
          try with_reducible rfl
        simp only [Act.put, List.setIfInBounds_toArray, List.set_cons_zero, List.set_cons_succ]
        refine hs_take (i := 11) (d := some 40) (v := ?_) rfl (by kernel_rfl) (by kernel_rfl) (by kernel_rfl) (by rfl) ?_ hS rfl ?_
        rotate_left
        · intro w' hw
          go_simp
          try with_reducible rfl
        simp only [Act.put, List.setIfInBounds_toArray, List.set_cons_zero, List.set_cons_succ]
        refine hs_take (i := 12) (d := some 41) (v := ?_) rfl (by kernel_rfl) (by kernel_rfl) (by kernel_rfl) (by rfl) ?_ hS rfl ?_
        rotate_left
        · intro w' hw
          go_simp
          try with_reducible rfl
        simp only [Act.put, List.setIfInBounds_toArray, List.set_cons_zero, List.set_cons_succ]
        refine hs_take (i := 13) (d := some 42) (v := ?_) rfl (by kernel_rfl) (by kernel_rfl) (by kernel_rfl) (by rfl) ?_ hS rfl ?_
        rotate_left
        · intro w' hw
          go_simp
          try with_reducible rfl
        simp only [Act.put, List.setIfInBounds_toArray, List.set_cons_zero, List.set_cons_succ]
        refine hs_take (i := 14) (d := some 43) (v := ?_) rfl (by kernel_rfl) (by kernel_rfl) (by kernel_rfl) (by rfl) ?_ hS rfl ?_
        rotate_left
        · intro w' hw
          have hc : w'.cell? ⟨t.r, 4, none⟩ = some (.int .i64 (M.sb : Int)) := hw
          go_simp
          try with_reducible rfl
        simp only [Act.put, List.setIfInBounds_toArray, List.set_cons_zero, List.set_cons_succ]
        refine hs_take (i := 15) (d := some 44) (v := ?_) rfl (by kernel_rfl) (by kernel_rfl) (by kernel_rfl) (by rfl) ?_ hS rfl ?_
        rotate_left
        · intro w' hw
          go_simp
          try with_reducible rfl
        simp only [Act.put, List.setIfInBounds_toArray, List.set_cons_zero, List.set_cons_succ]
        refine hs_take (i := 16) (d := some 45) (v := ?_) rfl (by kernel_rfl) (by kernel_rfl) (by kernel_rfl) (by rfl) ?_ hS rfl ?_
        rotate_left
        · intro w' hw
          go_simp
          try with_reducible rfl
        simp only [Act.put, List.setIfInBounds_toArray, List.set_cons_zero, List.set_cons_succ]
        rw [HE.out]
        refine hs_take (i := 19) (d := some 48) (v := ?_) rfl (by kernel_rfl) (by kernel_rfl) (by kernel_rfl) (by rfl) ?_ hS rfl ?_
        rotate_left
        · intro w' hw
          go_simp
          try with_reducible rfl
        simp only [Act.put, List.setIfInBounds_toArray, List.set_cons_zero, List.set_cons_succ]
        refine hs_take (i := 20) (d := some 49) (v := ?_) rfl (by kernel_rfl) (by kernel_rfl) (by kernel_rfl) (by rfl) ?_ hS rfl ?_
        rotate_left
        · intro w' hw
          go_simp
          try with_reducible rfl
        simp only [Act.put, List.setIfInBounds_toArray, List.set_cons_zero, List.set_cons_succ]
        refine hs_forkL (l := [2, 8]) (by kernel_rfl) (by simp) ?_
        intro ii hii
        simp only [List.mem_cons, List.not_mem_nil, or_false] at hii
        rcases hii with rfl | rfl
        · refine st_runX (i := 2) (d := some 31) rfl (by rfl) rfl (ex_bs0 rfl) ?_
          rintro vB W' ⟨rfl, rfl⟩
          refine ⟨kS _ hbA, ?_⟩
          simp only [Act.put, List.setIfInBounds_toArray, List.set_cons_zero, List.set_cons_succ]
          refine hs_runX (i := 8) (d := some 37) rfl (by kernel_rfl) (by rfl) rfl (ex_load rfl rfl (kB _ hbA)) ?_
          rintro vA W' ⟨rfl, hx⟩
          obtain rfl := hx.symm
          clear hx
          refine ⟨kS _ hbA, ?_⟩
          simp only [Act.put, List.setIfInBounds_toArray, List.set_cons_zero, List.set_cons_succ]
          have hS := kS _ hbA
          refine hs_take (i := 17) (d := some 46) (v := .slice ab1 m cb1) rfl (by kernel_rfl) (by kernel_rfl) (by kernel_rfl) (by rfl) (fun w' hw => by go_simp) hS rfl ?_
          simp only [Act.put, List.setIfInBounds_toArray, List.set_cons_zero, List.set_cons_succ]
          refine hs_runX (i := 18) (d := some 47) rfl (by kernel_rfl) (by rfl) rfl (ex_append rfl rfl hrfl (owns_new0 w8) (by simp) hrow hmm) ?_
          rintro vD W' ⟨hownD, hgrD⟩
          have hBD := below_gr hbA (by simp) (owns_new0 w8) hgrD
          rw [Nat.zero_add, List.nil_append] at hownD
          refine ⟨kS _ hBD, ?_⟩
          simp only [Act.put, List.setIfInBounds_toArray, List.set_cons_zero, List.set_cons_succ]
          obtain ⟨na, ncap, rfl, hRN, hNB⟩ := row_new hownD rfl (R := t.r) h8.lt hzt (by omega)
          have hS := kS _ hBD
          rw [hml]
          refine hs_take (i := 21) (d := some 50) (v := ?_) rfl (by kernel_rfl) (by kernel_rfl) (by kernel_rfl) (by rfl) ?_ hS rfl ?_
          rotate_left
          · intro w' hw
            go_simp
            try with_reducible rfl
          simp only [Act.put, List.setIfInBounds_toArray, List.set_cons_zero, List.set_cons_succ]
          have hth := (h8.below hBD).th
          have hst := run_store1 (P := Tryz.prog) W' t.r 2 35 (.slice na m ncap) (by have := there_part hth 2 1 (by omega); rwa [Nat.zero_add] at this) iszBs rfl
          refine hs_store (i := 22) rfl (by kernel_rfl) (by rfl) (exec_storeP rfl rfl rfl hst) rfl (set_there hS (by omega)) ?_
          refine hs_done (by kernel_rfl) ?_
          have xX : (W'.setCell ⟨t.r, 2, none⟩ (.slice na m ncap)).cell? ⟨t.r, 2, none⟩ = some (.slice na m ncap) := World.cell?_setCell_same _ _ _ (kB _ hBD)
          have hthY := there_set hth ⟨t.r, 2, none⟩ (.slice na m ncap)
          obtain ⟨wY, hwY⟩ : ∃ wY, W'.setCell ⟨t.r, 2, none⟩ (.slice na m ncap) = wY := ⟨_, rfl⟩
          have HX : Hid (∀ W1, Below wY.heap.size wY W1 → RTurned w (W1.setCell ⟨t.r, 4, none⟩ (.int .i64 (m : Int))) t (M.lostA true keep)) := hide (fun W1 hb => by
            rw [← hwY] at hb
            exact RTurned.trans (t1 := ⟨t.r, aa1, ca1, ab1, cb1, x1, y1⟩) rfl o1 n1 (lostR_1 h1 keep m hm.out (hB8.trans (hBD.mono hB8.size)) hRN (fun x hx => Nat.le_trans hB8.size (hNB x hx)) hb))
          rw [hwY] at xX hthY ⊢
          clear hwY hst hS hownD hgrD hBD hRN hNB kS hrow hbA h8 hB8
          go_wp2_with fail
          obtain ⟨wX, hwX⟩ : ∃ wX, wY.drew = wX := ⟨_, rfl⟩
          have hBX : Below wY.heap.size wY wX := by rw [← hwX]; exact (Below.refl _ _).drew
          have hxX : wX.cell? ⟨t.r, 2, none⟩ = some (.slice na m ncap) := by rw [← hwX]; exact xX
          have hthX : wX.there t.r 0 11 := by rw [← hwX]; exact (World.there_drew _ _ _ _).2 hthY
          refine hs_begin (S := (fun w' : World => w'.cell? ⟨t.r, 2, none⟩ = some (.slice na m ncap))) 13 rfl (by kernel_rfl) ?_
          rw [hwX]
          clear hwX
          have hS : (fun w' : World => w'.cell? ⟨t.r, 2, none⟩ = some (.slice na m ncap)) wX := hxX
          refine hs_take (i := 0) (d := some 51) (v := ?_) rfl (by kernel_rfl) (by kernel_rfl) (by kernel_rfl) (by rfl) ?_ hS rfl ?_
          rotate_left
          · intro w' hw
            go_simp
            try with_reducible rfl
          simp only [Act.put, List.setIfInBounds_toArray, List.set_cons_zero, List.set_cons_succ]
          refine hs_take (i := 1) (d := some 52) (v := ?_) rfl (by kernel_rfl) (by kernel_rfl) (by kernel_rfl) (by rfl) ?_ hS rfl ?_
          rotate_left
          · intro w' hw
            go_simp
            try with_reducible rfl
          simp only [Act.put, List.setIfInBounds_toArray, List.set_cons_zero, List.set_cons_succ]
          refine hs_take (i := 2) (d := some 53) (v := ?_) rfl (by kernel_rfl) (by kernel_rfl) (by kernel_rfl) (by rfl) ?_ hS rfl ?_
          rotate_left
          · intro w' hw
            go_simp
            try with_reducible rfl
          simp only [Act.put, List.setIfInBounds_toArray, List.set_cons_zero, List.set_cons_succ]
          refine hs_take (i := 3) (d := some 54) (v := ?_) rfl (by kernel_rfl) (by kernel_rfl) (by kernel_rfl) (by rfl) ?_ hS rfl ?_
          rotate_left
          · intro w' hw
            go_simp
            try with_reducible rfl
          simp only [Act.put, List.setIfInBounds_toArray, List.set_cons_zero, List.set_cons_succ]
          refine hs_take (i := 4) (d := some 55) (v := ?_) rfl (by kernel_rfl) (by kernel_rfl) (by kernel_rfl) (by rfl) ?_ hS rfl ?_
          rotate_left
          · intro w' hw
            go_simp
            try with_reducible rfl
          simp only [Act.put, List.setIfInBounds_toArray, List.set_cons_zero, List.set_cons_succ]
          refine hs_take (i := 5) (d := some 56) (v := ?_) rfl (by kernel_rfl) (by kernel_rfl) (by kernel_rfl) (by rfl) ?_ hS rfl ?_
          rotate_left
          · intro w' hw
            go_simp
            try with_reducible rfl
          simp only [Act.put, List.setIfInBounds_toArray, List.set_cons_zero, List.set_cons_succ]
          refine hs_take (i := 6) (d := some 57) (v := ?_) rfl (by kernel_rfl) (by kernel_rfl) (by kernel_rfl) (by rfl) ?_ hS rfl ?_
          rotate_left
          · intro w' hw
            go_simp
            try with_reducible rfl
          simp only [Act.put, List.setIfInBounds_toArray, List.set_cons_zero, List.set_cons_succ]
          refine hs_take (i := 7) (d := some 58) (v := ?_) rfl (by kernel_rfl) (by kernel_rfl) (by kernel_rfl) (by rfl) ?_ hS rfl ?_
          rotate_left
          · intro w' hw
            have hc : w'.cell? ⟨t.r, 2, none⟩ = some (.slice na m ncap) := hw
            go_simp
            try with_reducible rfl
          simp only [Act.put, List.setIfInBounds_toArray, List.set_cons_zero, List.set_cons_succ]
          refine hs_take (i := 8) (d := some 59) (v := ?_) rfl (by kernel_rfl) (by kernel_rfl) (by kernel_rfl) (by rfl) ?_ hS rfl ?_
          rotate_left
          · intro w' hw
            go_simp
            try with_reducible rfl
          simp only [Act.put, List.setIfInBounds_toArray, List.set_cons_zero, List.set_cons_succ]
          refine hs_take (i := 9) (d := some 60) (v := ?_) rfl (by kernel_rfl) (by kernel_rfl) (by kernel_rfl) (by rfl) ?_ hS rfl ?_
          rotate_left
          · intro w' hw
            go_simp
            try with_reducible rfl
          simp only [Act.put, List.setIfInBounds_toArray, List.set_cons_zero, List.set_cons_succ]
          refine hs_take (i := 10) (d := some 61) (v := ?_) rfl (by kernel_rfl) (by kernel_rfl) (by kernel_rfl) (by rfl) ?_ hS rfl ?_
          rotate_left
          · intro w' hw
            go_simp
            try with_reducible rfl
          simp only [Act.put, List.setIfInBounds_toArray, List.set_cons_zero, List.set_cons_succ]
          refine hs_take (i := 11) (d := some 62) (v := ?_) rfl (by kernel_rfl) (by kernel_rfl) (by kernel_rfl) (by rfl) ?_ hS rfl ?_
          rotate_left
          · intro w' hw
            go_simp
            try with_reducible rfl
          simp only [Act.put, List.setIfInBounds_toArray, List.set_cons_zero, List.set_cons_succ]
          have hst := run_store1 (P := Tryz.prog) wX t.r 4 3 (.int .i64 (m : Int)) (by have := there_part hthX 4 1 (by omega); rwa [Nat.zero_add] at this) iszI rfl
          refine hs_store (i := 12) rfl (by kernel_rfl) (by rfl) (exec_storeP rfl rfl rfl hst) rfl (set_there hS (by omega)) ?_
          refine hs_done (by kernel_rfl) ?_
          have HF := hide (HX.out wX hBX)
          clear HX hS hst
          go_wp2_with fail
          go_roundw
          case rel => exact .inr (.inr ⟨rfl, by rw [HM.out] at HF; exact HF.out⟩)
          case measure => simp [intOf]
        · refine st_runX (i := 8) (d := some 37) rfl (by rfl) rfl (ex_load rfl rfl (kB _ (Below.refl _ _))) ?_
          rintro vA W' ⟨rfl, hx⟩
          obtain rfl := hx.symm
          clear hx
          refine ⟨hS, ?_⟩
          simp only [Act.put, List.setIfInBounds_toArray, List.set_cons_zero, List.set_cons_succ]
          refine hs_take (i := 17) (d := some 46) (v := .slice ab1 m cb1) rfl (by kernel_rfl) (by kernel_rfl) (by kernel_rfl) (by rfl) (fun w' hw => by go_simp) hS rfl ?_
          simp only [Act.put, List.setIfInBounds_toArray, List.set_cons_zero, List.set_cons_succ]
          refine hs_runX (i := 2) (d := some 31) rfl (by kernel_rfl) (by rfl) rfl (ex_bs0 rfl) ?_
          rintro vB W' ⟨rfl, rfl⟩
          refine ⟨kS _ hbA, ?_⟩
          simp only [Act.put, List.setIfInBounds_toArray, List.set_cons_zero, List.set_cons_succ]
          refine hs_runX (i := 18) (d := some 47) rfl (by kernel_rfl) (by rfl) rfl (ex_append rfl rfl hrfl (owns_new0 w8) (by simp) hrow hmm) ?_
          rintro vD W' ⟨hownD, hgrD⟩
          have hBD := below_gr hbA (by simp) (owns_new0 w8) hgrD
          rw [Nat.zero_add, List.nil_append] at hownD
          refine ⟨kS _ hBD, ?_⟩
          simp only [Act.put, List.setIfInBounds_toArray, List.set_cons_zero, List.set_cons_succ]
          obtain ⟨na, ncap, rfl, hRN, hNB⟩ := row_new hownD rfl (R := t.r) h8.lt hzt (by omega)
          have hS := kS _ hBD
          rw [hml]
          refine hs_take (i := 21) (d := some 50) (v := ?_) rfl (by kernel_rfl) (by kernel_rfl) (by kernel_rfl) (by rfl) ?_ hS rfl ?_
          rotate_left
          · intro w' hw
            go_simp
            try with_reducible rfl
          simp only [Act.put, List.setIfInBounds_toArray, List.set_cons_zero, List.set_cons_succ]
          have hth := (h8.below hBD).th
          have hst := run_store1 (P := Tryz.prog) W' t.r 2 35 (.slice na m ncap) (by have := there_part hth 2 1 (by omega); rwa [Nat.zero_add] at this) iszBs rfl
          refine hs_store (i := 22) rfl (by kernel_rfl) (by rfl) (exec_storeP rfl rfl rfl hst) rfl (set_there hS (by omega)) ?_
          refine hs_done (by kernel_rfl) ?_
          have xX : (W'.setCell ⟨t.r, 2, none⟩ (.slice na m ncap)).cell? ⟨t.r, 2, none⟩ = some (.slice na m ncap) := World.cell?_setCell_same _ _ _ (kB _ hBD)
          have hthY := there_set hth ⟨t.r, 2, none⟩ (.slice na m ncap)
          obtain ⟨wY, hwY⟩ : ∃ wY, W'.setCell ⟨t.r, 2, none⟩ (.slice na m ncap) = wY := ⟨_, rfl⟩
          have HX : Hid (∀ W1, Below wY.heap.size wY W1 → RTurned w (W1.setCell ⟨t.r, 4, none⟩ (.int .i64 (m : Int))) t (M.lostA true keep)) := hide (fun W1 hb => by
            rw [← hwY] at hb
            exact RTurned.trans (t1 := ⟨t.r, aa1, ca1, ab1, cb1, x1, y1⟩) rfl o1 n1 (lostR_1 h1 keep m hm.out (hB8.trans (hBD.mono hB8.size)) hRN (fun x hx => Nat.le_trans hB8.size (hNB x hx)) hb))
          rw [hwY] at xX hthY ⊢
          clear hwY hst hS hownD hgrD hBD hRN hNB kS hrow hbA h8 hB8
          go_wp2_with fail
          obtain ⟨wX, hwX⟩ : ∃ wX, wY.drew = wX := ⟨_, rfl⟩
          have hBX : Below wY.heap.size wY wX := by rw [← hwX]; exact (Below.refl _ _).drew
          have hxX : wX.cell? ⟨t.r, 2, none⟩ = some (.slice na m ncap) := by rw [← hwX]; exact xX
          have hthX : wX.there t.r 0 11 := by rw [← hwX]; exact (World.there_drew _ _ _ _).2 hthY
          refine hs_begin (S := (fun w' : World => w'.cell? ⟨t.r, 2, none⟩ = some (.slice na m ncap))) 13 rfl (by kernel_rfl) ?_
          rw [hwX]
          clear hwX
          have hS : (fun w' : World => w'.cell? ⟨t.r, 2, none⟩ = some (.slice na m ncap)) wX := hxX
          refine hs_take (i := 0) (d := some 51) (v := ?_) rfl (by kernel_rfl) (by kernel_rfl) (by kernel_rfl) (by rfl) ?_ hS rfl ?_
          rotate_left
          · intro w' hw
            go_simp
            try with_reducible rfl
          simp only [Act.put, List.setIfInBounds_toArray, List.set_cons_zero, List.set_cons_succ]
          refine hs_take (i := 1) (d := some 52) (v := ?_) rfl (by kernel_rfl) (by kernel_rfl) (by kernel_rfl) (by rfl) ?_ hS rfl ?_
          rotate_left
          · intro w' hw
            go_simp
            try with_reducible rfl
          simp only [Act.put, List.setIfInBounds_toArray, List.set_cons_zero, List.set_cons_succ]
          refine hs_take (i := 2) (d := some 53) (v := ?_) rfl (by kernel_rfl) (by kernel_rfl) (by kernel_rfl) (by rfl) ?_ hS rfl ?_
          rotate_left
          · intro w' hw
            go_simp
            try with_reducible rfl
          simp only [Act.put, List.setIfInBounds_toArray, List.set_cons_zero, List.set_cons_succ]
          refine hs_take (i := 3) (d := some 54) (v := ?_) rfl (by kernel_rfl) (by kernel_rfl) (by kernel_rfl) (by rfl) ?_ hS rfl ?_
          rotate_left
          · intro w' hw
            go_simp
            try with_reducible rfl
          simp only [Act.put, List.setIfInBounds_toArray, List.set_cons_zero, List.set_cons_succ]
          refine hs_take (i := 4) (d := some 55) (v := ?_) rfl (by kernel_rfl) (by kernel_rfl) (by kernel_rfl) (by rfl) ?_ hS rfl ?_
          rotate_left
          · intro w' hw
            go_simp
            try with_reducible rfl
          simp only [Act.put, List.setIfInBounds_toArray, List.set_cons_zero, List.set_cons_succ]
          refine hs_take (i := 5) (d := some 56) (v := ?_) rfl (by kernel_rfl) (by kernel_rfl) (by kernel_rfl) (by rfl) ?_ hS rfl ?_
          rotate_left
          · intro w' hw
            go_simp
            try with_reducible rfl
          simp only [Act.put, List.setIfInBounds_toArray, List.set_cons_zero, List.set_cons_succ]
          refine hs_take (i := 6) (d := some 57) (v := ?_) rfl (by kernel_rfl) (by kernel_rfl) (by kernel_rfl) (by rfl) ?_ hS rfl ?_
          rotate_left
          · intro w' hw
            go_simp
            try with_reducible rfl
          simp only [Act.put, List.setIfInBounds_toArray, List.set_cons_zero, List.set_cons_succ]
          refine hs_take (i := 7) (d := some 58) (v := ?_) rfl (by kernel_rfl) (by kernel_rfl) (by kernel_rfl) (by rfl) ?_ hS rfl ?_
          rotate_left
          · intro w' hw
            have hc : w'.cell? ⟨t.r, 2, none⟩ = some (.slice na m ncap) := hw
            go_simp
            try with_reducible rfl
          simp only [Act.put, List.setIfInBounds_toArray, List.set_cons_zero, List.set_cons_succ]
          refine hs_take (i := 8) (d := some 59) (v := ?_) rfl (by kernel_rfl) (by kernel_rfl) (by kernel_rfl) (by rfl) ?_ hS rfl ?_
          rotate_left
          · intro w' hw
            go_simp
            try with_reducible rfl
          simp only [Act.put, List.setIfInBounds_toArray, List.set_cons_zero, List.set_cons_succ]
          refine hs_take (i := 9) (d := some 60) (v := ?_) rfl (by kernel_rfl) (by kernel_rfl) (by kernel_rfl) (by rfl) ?_ hS rfl ?_
          rotate_left
          · intro w' hw
            go_simp
            try with_reducible rfl
          simp only [Act.put, List.setIfInBounds_toArray, List.set_cons_zero, List.set_cons_succ]
          refine hs_take (i := 10) (d := some 61) (v := ?_) rfl (by kernel_rfl) (by kernel_rfl) (by kernel_rfl) (by rfl) ?_ hS rfl ?_
          rotate_left
          · intro w' hw
            go_simp
            try with_reducible rfl
          simp only [Act.put, List.setIfInBounds_toArray, List.set_cons_zero, List.set_cons_succ]
          refine hs_take (i := 11) (d := some 62) (v := ?_) rfl (by kernel_rfl) (by kernel_rfl) (by kernel_rfl) (by rfl) ?_ hS rfl ?_
          rotate_left
          · intro w' hw
            go_simp
            try with_reducible rfl
          simp only [Act.put, List.setIfInBounds_toArray, List.set_cons_zero, List.set_cons_succ]
          have hst := run_store1 (P := Tryz.prog) wX t.r 4 3 (.int .i64 (m : Int)) (by have := there_part hthX 4 1 (by omega); rwa [Nat.zero_add] at this) iszI rfl
          refine hs_store (i := 12) rfl (by kernel_rfl) (by rfl) (exec_storeP rfl rfl rfl hst) rfl (set_there hS (by omega)) ?_
          refine hs_done (by kernel_rfl) ?_
          have HF := hide (HX.out wX hBX)
          clear HX hS hst
          go_wp2_with fail
          go_roundw
          case rel => exact .inr (.inr ⟨rfl, by rw [HM.out] at HF; exact HF.out⟩)
          case measure => simp [intOf]
    · obtain rfl : r1 = t.r := p1
      have q5 : wo.cell? ⟨t.r, 5, none⟩ = some (.bool (!M2.on)) := h1.cell 5 rfl
      have q6 : wo.cell? ⟨t.r, 6, none⟩ = some (.bool M2.pl) := h1.cell 6 rfl
      have q10 : wo.cell? ⟨t.r, 10, none⟩ = some (.int .i64 M2.fa) := h1.cell 10 rfl
      have f5 : wo.frozen? ⟨t.r, 5, none⟩ = false := h1.fz 5 (by omega)
      have f6 : wo.frozen? ⟨t.r, 6, none⟩ = false := h1.fz 6 (by omega)
      have f10 : wo.frozen? ⟨t.r, 10, none⟩ = false := h1.fz 10 (by omega)
      have HX : Hid (RTurned w (((wo.setCell ⟨t.r, 5, none⟩ (.bool true)).setCell ⟨t.r, 6, none⟩ (.bool false)).setCell ⟨t.r, 10, none⟩ (.int .i64 (wrap64 (M2.fa + 1)))) t { M2 with on := false, pl := false, fa := wrap64 (M2.fa + 1) }) := hide (by
        refine RTurned.trans (t1 := ⟨t.r, aa1, ca1, ab1, cb1, x1, y1⟩) rfl o1 n1 ?_
        exact RTurned.of_cells (t := ⟨t.r, aa1, ca1, ab1, cb1, x1, y1⟩) (t' := ⟨t.r, aa1, ca1, ab1, cb1, x1, y1⟩) (Below.refl _ _) ((((CellsR.start h1).set 5 (.bool true)).set 6 (.bool false)).set 10 _) rfl h1.ra h1.rb (fun x hx => .inl (.inr (.inl ⟨x, hx, rfl⟩))) (fun x hx => .inl (.inr (.inr ⟨x, hx, rfl⟩))) (fun q => by cases q) ⟨h1.ok.za, h1.ok.zb, h1.ok.sa, h1.ok.sb, h1.ok.rm, h1.ok.rl, fun q => by cases q⟩)
      clear h1 o1 n1
      go_wp2_with fail
      go_end0
      exact ⟨rfl, HX.out⟩
end Go.Proofs.YtfkchnjbbbhmjaaGreat
