/- the document's journal: Open; the document's journal: Sure; a tape and the document's side by side, each with its journal; both's open; what the two tapes keep whatever is done, and what Lay and Open leave of it; both's open; both's act: the steps of the two; both's act: kinds 3 to 7; both's act: kind 5, no journal, other kinds -/
import Derived.Test.YtfkchnjbbbhmjaaGreatXP9
namespace Go.Proofs.YtfkchnjbbbhmjaaGreat.Ty
open Go.RowKit
open Tal
/-- what is there behind the document's Open -/
structure XOpened (A : Nat → Prop) (w w' : World) (p q : Nat) (L : LayR) (zss : List (List Int)) (e : Ending) (A2 : Nat → Prop) : Prop where
  up : ∀ b, A b → A2 b
  own : A2 q
  lt : ∀ b, A2 b → b < w'.heap.size
  low : ∀ b, A2 b → A b ∨ w.heap.size ≤ b
  off : Off (fun b => b = p) w w'
  q0 : w.heap.size ≤ q
  live : RLive A2 w' p L.M
  said : (L.e ≠ 0 ∧ e = .returned (.tuple #[.pointer none, .slice none 0 0, .int .i64 L.e])) ∨
    (L.e = 0 ∧ JAt w' L.j ∧ ∃ v rs, e = .returned (.tuple #[.pointer (some ⟨q, 0, none⟩), v, .int .i64 0]) ∧ ROwn w.heap.size w' v rs ∧ rs.map Rc.zs = zss ∧ rs.length ≤ 100000000 ∧ (∀ x ∈ rs, ∀ ad, x.a = some ad → A2 ad.block) ∧ ∀ g, v.ownBlock = some g → A2 g)
theorem jat_newx (w : World) (j : Jv) (h : j.q = w.heap.size) : JAt (w.alloc (.cells #[.pointer (some ⟨j.p, 0, none⟩), .int .i64 j.ar, .int .i64 j.tu, .int .i64 j.fs] 47)) j := by
  have h1 := range_new w #[.pointer (some ⟨j.p, 0, none⟩), .int .i64 j.ar, .int .i64 j.tu, .int .i64 j.fs] 47
  have h2 := there_new w #[.pointer (some ⟨j.p, 0, none⟩), .int .i64 j.ar, .int .i64 j.tu, .int .i64 j.fs] 47
  rw [← h] at h1 h2
  exact ⟨h1, h2⟩
theorem _root_.Go.Proofs.YtfkchnjbbbhmjaaGreat.JAt.set1 {w : World} {j : Jv} (h : JAt w j) (a : Int) : JAt (w.setCell ⟨j.q, 1, none⟩ (.int .i64 a)) { j with ar := a } := by
  have r1 := range_set h.c 1 (.int .i64 a)
  rw [Nat.zero_add] at r1
  exact ⟨r1, there_set h.th _ _⟩
/-- which journal the document takes -/
theorem find_doc {M : Mt} (hon : M.on = true) (h0 : 0 ≤ turnW (framesW M.a)) :
    findK M 2 = if turnW (framesW M.a) < turnW (framesW M.b) then (1, turnW (framesW M.b), recsW (framesW M.b)) else if turnW (framesW M.a) = 0 then (1, 0, []) else (0, turnW (framesW M.a), recsW (framesW M.a)) := by
  have r0 : M.read ((0 : Nat) : Int) = M.a := by
    unfold Mt.read
    rw [if_pos (by unfold Mt.fault; rw [if_pos (.inl rfl), hon]; rfl)]
    rfl
  have r1 : M.read ((1 : Nat) : Int) = M.b := by
    unfold Mt.read
    rw [if_pos (by unfold Mt.fault; rw [if_pos (.inr rfl), hon]; rfl)]
    rfl
  have e : findK M 2 = stepF (stepF (1, 0, []) ((0 : Nat) : Int) (M.read ((0 : Nat) : Int))) ((1 : Nat) : Int) (M.read ((1 : Nat) : Int)) := rfl
  rw [e, r0, r1]
  by_cases ha : 0 < turnW (framesW M.a)
  · have e1 : stepF (1, 0, []) ((0 : Nat) : Int) M.a = (0, turnW (framesW M.a), recsW (framesW M.a)) := by unfold stepF; simp only; rw [if_pos ha]; rfl
    rw [e1]
    unfold stepF
    simp only
    by_cases hb : turnW (framesW M.a) < turnW (framesW M.b)
    · rw [if_pos hb, if_pos hb]; rfl
    · rw [if_neg hb, if_neg hb, if_neg (by omega)]
  · have e1 : stepF (1, 0, []) ((0 : Nat) : Int) M.a = (1, 0, []) := by unfold stepF; simp only; rw [if_neg ha]
    rw [e1]
    unfold stepF
    simp only
    have e0 : turnW (framesW M.a) = 0 := by omega
    rw [e0]
    by_cases hb : 0 < turnW (framesW M.b)
    · rw [if_pos hb, if_pos hb]; rfl
    · rw [if_neg hb, if_neg hb, if_pos rfl]
theorem read_ka' {M : Mt} (h : M.on = true) (k : Bool) : M.read (if k then 1 else 0) = M.get k := by
  unfold Mt.read
  rw [if_pos (by unfold Mt.fault; rw [h]; cases k <;> rfl)]
  cases k <;> rfl
set_option maxRecDepth 100000 in
set_option maxHeartbeats 8000000 in
theorem xopen_off (p : Nat) (M : Mt) (A : Nat → Prop) (w : World) (hT : RLive A w p M) (hon : M.on = false) :
    Calls Tryz.prog 24 #[.pointer (some ⟨p, 0, none⟩)] w fun e w' => e = .returned (.tuple #[.pointer none, .slice none 0 0, .int .i64 150]) ∧ w' = w := by
  have k5 := hT.dark
  rw [hon] at k5
  clear hT hon
  go_enter Tryz.func24, Tryz.ntmps24
  go_wp2
  go_ret3
  exact ⟨rfl, rfl⟩
/-- Lay of what was found, and what Open tells then -/
theorem lay_found (p q : Nat) (M : Mt) (A : Nat → Prop) (w w3 : World) (ar tu : Int) (ra : Option Addr) (rc : Nat) (rs : List Rc) (hT : RLive A w p M) (hA : ∀ b, A b → b < w.heap.size) (hB : Below w.heap.size w w3) (hJ : JAt w3 ⟨q, p, ar, tu, M.fa⟩) (hW : ROwn w.heap.size w3 (.slice ra rs.length rc) rs)
    (hq0 : w.heap.size ≤ q) (hvq : ∀ g, (Value.slice ra rs.length rc).ownBlock = some g → g ≠ q) (hxq : ∀ x ∈ rs, ∀ ad, x.a = some ad → ad.block ≠ q) (hrl : rs.length ≤ 100000000) (hf : findK M 2 = (ar, tu, rs.map Rc.zs)) :
    Calls Tryz.prog 36 #[.pointer (some ⟨q, 0, none⟩), .slice ra rs.length rc] w3 fun e w' => e = .returned (.int .i64 (openL M q p).e) ∧ Hid (((openL M q p).e = 0 → ∃ A2, XOpened A w w' p q (openL M q p) (findK M 2).2.2 (.returned (.tuple #[.pointer (some ⟨q, 0, none⟩), .slice ra rs.length rc, .int .i64 0])) A2) ∧ ((openL M q p).e ≠ 0 → ∃ A2, XOpened A w w' p q (openL M q p) (findK M 2).2.2 (.returned (.tuple #[.pointer none, .slice none 0 0, .int .i64 (openL M q p).e])) A2)) := by
  have hfk := findK_ok hT.ok 2 (by omega)
  have hpl := hT.lt
  have hEL : layM M ⟨q, p, ar, tu, M.fa⟩ rs = openL M q p := by
    unfold openL
    rw [hf]
    exact layM_zs M _ (by rw [zR_zs])
  rw [hf] at hfk
  obtain ⟨ra', rc', er, hR, -, hrb⟩ := hW.recs hrl
  simp only [Value.slice.injEq, true_and] at er
  obtain ⟨rfl, rfl⟩ := er
  have hrow : RowOf Rc.cells w3 ra rs := by
    rcases hR.at0 with h0 | ⟨b, off, e1, e2, e3⟩
    · exact .inl h0
    · exact .inr ⟨b, off, e1, e2, by rw [flat_val]; exact e3⟩
  have hA1 := More.lt (w1 := w3) hA hB.size
  have hAq : More A w w3 q := .inr ⟨hq0, hJ.lt⟩
  have cL := xlay_any ⟨q, p, ar, tu, M.fa⟩ M (More A w w3) ra rc rs w3 hJ ⟨hfk.a0, hfk.a1, hfk.t0, hfk.t1⟩ (hT.widen hB) hA1 hAq (by show ¬ (q = p); omega) hrow hrl
    (.inr (fun x hx => by have := (hrb x hx).1; show x.block ≠ p; omega)) (fun r hr => ⟨hW.rows r hr, .inr (fun x hx => by have := (hW.off r hr x hx).1; show x.block ≠ p; omega)⟩)
  rw [hEL] at cL
  refine cL.mono ?_
  rintro e w4 ⟨rfl, hT4, hJ4, hO4⟩
  have hoff : Off (fun b => b = p) w w4 := (Off.of_below hB).trans hO4 (fun b hb hq => by
    rcases hq with hq | hq
    · exact hq
    · have : b = q := hq
      omega)
  have lt4 : ∀ b, More A w w3 b → b < w4.heap.size := fun b h => Nat.lt_of_lt_of_le (hA1 b h) hO4.size
  refine ⟨rfl, hide ⟨fun h0 => ?_, fun h0 => ?_⟩⟩
  · have hW2 : ROwn w.heap.size w4 (.slice ra rs.length rc) rs := hW.off' hO4 (fun g e1 e2 => by
      rcases e2 with e2 | e2
      · have := (hW.r.lt g e1).1
        have e3 : g = p := e2
        omega
      · exact hvq g e1 e2) (fun x hx ad e1 e2 => by
      rcases e2 with e2 | e2
      · have := (hW.off x hx ad e1).1
        have e3 : ad.block = p := e2
        omega
      · exact hxq x hx ad e1 e2)
    exact ⟨More A w w3, fun b h => .inl h, hAq, lt4, fun b h => h.imp id (fun h => h.1), hoff, hq0, hT4, .inr ⟨h0, hJ4, _, rs, rfl, hW2, by rw [hf], hrl, fun x hx ad e1 => .inr ⟨(hW.off x hx ad e1).1, (hW.off x hx ad e1).2.1⟩, fun g e1 => .inr (hW.r.lt g e1)⟩⟩
  · exact ⟨More A w w3, fun b h => .inl h, hAq, lt4, fun b h => h.imp id (fun h => h.1), hoff, hq0, hT4, .inl ⟨h0, rfl⟩⟩
set_option maxRecDepth 100000 in
set_option maxHeartbeats 8000000 in
theorem xopen_on (p : Nat) (M : Mt) (A : Nat → Prop) (w : World) (hT : RLive A w p M) (hA : ∀ b, A b → b < w.heap.size) (hon : M.on = true) (hrm : M.room ≤ 100000000) :
    Calls Tryz.prog 24 #[.pointer (some ⟨p, 0, none⟩)] w fun e w' => ∃ q A2, XOpened A w w' p q (openL M q p) (findK M 2).2.2 e A2 := by
  have hok := hT.ok
  have k5 := hT.dark
  have hr0 : M.read 0 = M.a := read_ka' hon false
  have hr1 : M.read 1 = M.b := read_ka' hon true
  have hla : M.a.length ≤ 100000000 := by have := hok.rm; omega
  have hlb : M.b.length ≤ 100000000 := by have := hok.rm; omega
  have ht0 := turnW_ge (framesW M.a) (fun f hf => (frames_mem hok.za f hf).2)
  have ht1 := turnW_ge (framesW M.b) (fun f hf => (frames_mem hok.zb f hf).2)
  have HFD := hide (find_doc hon ht0.1)
  rw [hon] at k5
  have c0 := xarea_any A p M 0 M.a w hT hr0 hla
  have c1 := fun w1 (hb : Below w.heap.size w w1) => xarea_any A p M 1 M.b w1 (hT.below hb) hr1 hlb
  obtain ⟨ta, hta⟩ : ∃ ta, Hid (turnW (framesW M.a) = ta) := ⟨_, hide rfl⟩
  obtain ⟨tb, htb⟩ : ∃ tb, Hid (turnW (framesW M.b) = tb) := ⟨_, hide rfl⟩
  rw [hta.out] at c0 ht0
  simp only [htb.out] at c1
  rw [htb.out] at ht1
  have HFD2 : Hid (findK M 2 = if ta < tb then (1, tb, recsW (framesW M.b)) else if ta = 0 then (1, 0, []) else (0, ta, recsW (framesW M.a))) := hide (by rw [HFD.out, hta.out, htb.out])
  clear hr0 hr1 HFD hta htb
  obtain ⟨ht00, ht01⟩ := ht0
  obtain ⟨ht10, ht11⟩ := ht1
  go_enter Tryz.func24, Tryz.ntmps24
  go_wp2_with fail
  refine c0.mono ?_
  rintro e w1 ⟨⟨v0, rs0, rfl, hW0, hz0, hl0⟩, hB1⟩
  clear c0 k5
  have c1 := c1 w1 hB1
  go_wp2_with fail
  refine c1.mono ?_
  rintro e w2 ⟨⟨v1, rs1, rfl, hW1, hz1, hl1⟩, hB2⟩
  clear c1
  have hB02 := hB1.trans (hB2.mono hB1.size)
  have k10 := (hT.below hB02).fails
  obtain ⟨q, hq⟩ : ∃ q, Hid (w2.heap.size = q) := ⟨_, hide rfl⟩
  have hqw : w.heap.size ≤ q := by rw [← hq.out]; exact hB02.size
  have hJ0 := jat_newx w2 ⟨q, p, 0, ta, M.fa⟩ hq.out.symm
  have hbA : Below w2.heap.size w2 (w2.alloc (.cells #[.pointer (some ⟨p, 0, none⟩), .int .i64 0, .int .i64 ta, .int .i64 M.fa] 47)) := (Below.refl _ _).alloc (Nat.le_refl _) _
  have hW0' := (hW0.below hB2)
  have o0 : (∀ g, v0.ownBlock = some g → g ≠ q) ∧ ∀ x ∈ rs0, ∀ ad, x.a = some ad → ad.block ≠ q := ⟨fun g e1 => by have := (hW0'.r.lt g e1).2; rw [← hq.out]; omega, fun x hx ad e1 => by have := (hW0'.off x hx ad e1).2.1; rw [← hq.out]; omega⟩
  have o1 : (∀ g, v1.ownBlock = some g → g ≠ q) ∧ ∀ x ∈ rs1, ∀ ad, x.a = some ad → ad.block ≠ q := ⟨fun g e1 => by have := (hW1.r.lt g e1).2; rw [← hq.out]; omega, fun x hx ad e1 => by have := (hW1.off x hx ad e1).2.1; rw [← hq.out]; omega⟩
  have hW0'' := hW0'
  have hW1'' := (hW1.lower hB1.size)
  have hB03 := hB02.trans (hbA.mono hB02.size)
  obtain ⟨Le, hLe0⟩ : ∃ Le, Hid ((openL M q p).e = Le) := ⟨_, hide rfl⟩
  have FG : ∀ (ar tu : Int) (ra : Option Addr) (rc : Nat) (rs : List Rc), ROwn w.heap.size w2 (.slice ra rs.length rc) rs → (∀ g, (Value.slice ra rs.length rc).ownBlock = some g → g ≠ q) → (∀ x ∈ rs, ∀ ad, x.a = some ad → ad.block ≠ q) → rs.length ≤ 100000000 → findK M 2 = (ar, tu, rs.map Rc.zs) → _ := fun ar tu ra rc rs h1 h2 h3 h4 h5 =>
    lay_found p q M A w (w2.alloc (.cells #[.pointer (some ⟨p, 0, none⟩), .int .i64 ar, .int .i64 tu, .int .i64 M.fa] 47)) ar tu ra rc rs hT hA (hB02.alloc hB02.size _) (jat_newx w2 ⟨q, p, ar, tu, M.fa⟩ hq.out.symm) (h1.below ((Below.refl _ _).alloc (Nat.le_refl _) _)) hqw h2 h3 h4 h5
  obtain ⟨ra0, rc0, rfl, -, -, -⟩ := hW0.recs (by omega)
  obtain ⟨ra1, rc1, rfl, -, -, -⟩ := hW1.recs (by omega)
  have y1 := hJ0.cell 1 rfl
  have y2 := hJ0.cell 2 rfl
  have f1 : (w2.alloc (.cells #[.pointer (some ⟨p, 0, none⟩), .int .i64 0, .int .i64 ta, .int .i64 M.fa] 47)).frozen? ⟨q, 1, none⟩ = false := by have := (hJ0.th 1 (by omega)).2; rwa [Nat.zero_add] at this
  have f2 : (w2.alloc (.cells #[.pointer (some ⟨p, 0, none⟩), .int .i64 0, .int .i64 ta, .int .i64 M.fa] 47)).frozen? ⟨q, 2, none⟩ = false := by have := (hJ0.th 2 (by omega)).2; rwa [Nat.zero_add] at this
  have q2 : (w2.alloc (.cells #[.pointer (some ⟨p, 0, none⟩), .int .i64 0, .int .i64 ta, .int .i64 M.fa] 47)).heap.size = (w2.alloc (.cells #[.pointer (some ⟨p, 0, none⟩), .int .i64 0, .int .i64 ta, .int .i64 M.fa] 47)).heap.size := rfl
  clear q2 hW0 hW1 hW0' hbA
  by_cases hgt : ta < tb
  · have HF2 : Hid (findK M 2 = (1, tb, rs1.map Rc.zs)) := hide (by rw [HFD2.out, if_pos hgt, hz1])
    have FIN := FG 1 tb ra1 rc1 rs1 hW1'' o1.1 o1.2 (by omega) HF2.out
    rw [hLe0.out] at FIN
    (try simp only at FIN)
    have hb0 : (tb == 0) = false := beq_eq_false_iff_ne.2 (by omega)
    by_cases ha : ta = 0
    · have ha0 : (ta == 0) = true := beq_iff_eq.2 ha
      clear ha HFD2 HF2 hW0'' hW1'' hJ0 FG o0 o1 hB03 hT
      go_wp2_with fail
      rw [hq.out]
      go_wp2_with fail
      refine FIN.mono ?_
      rintro e w5 ⟨rfl, hfin⟩
      clear FIN
      by_cases hLe : Le = 0
      · subst hLe
        go_wp2
        go_ret3
        exact ⟨q, hfin.out.1 (by first | rfl | trivial)⟩
      · have n0 : (Le != 0) = true := bne_iff_ne.2 hLe
        have HN := hide hLe
        clear hLe
        go_wp2
        go_ret3
        exact ⟨q, hfin.out.2 HN.out⟩
    · have ha0 : (ta == 0) = false := beq_eq_false_iff_ne.2 ha
      clear ha HFD2 HF2 hW0'' hW1'' hJ0 FG o0 o1 hB03 hT
      go_wp2_with fail
      rw [hq.out]
      go_wp2_with fail
      refine FIN.mono ?_
      rintro e w5 ⟨rfl, hfin⟩
      clear FIN
      by_cases hLe : Le = 0
      · subst hLe
        go_wp2
        go_ret3
        exact ⟨q, hfin.out.1 (by first | rfl | trivial)⟩
      · have n0 : (Le != 0) = true := bne_iff_ne.2 hLe
        have HN := hide hLe
        clear hLe
        go_wp2
        go_ret3
        exact ⟨q, hfin.out.2 HN.out⟩
  · by_cases ha : ta = 0
    · have HF2 : Hid (findK M 2 = (1, 0, ([] : List Rc).map Rc.zs)) := hide (by rw [HFD2.out, if_neg hgt, if_pos ha]; rfl)
      have hb : tb = 0 := by omega
      subst ha hb
      have FIN := FG 1 0 none 0 [] (ROwn.nil _ _) (by simp [Value.ownBlock]) (by simp) (by simp) HF2.out
      rw [hLe0.out] at FIN
      simp only [List.length_nil] at FIN
      clear HFD2 HF2 hW0'' hW1'' hJ0 FG o0 o1 hB03 hT
      go_wp2_with fail
      rw [hq.out]
      go_wp2_with fail
      refine FIN.mono ?_
      rintro e w5 ⟨rfl, hfin⟩
      clear FIN
      by_cases hLe : Le = 0
      · subst hLe
        go_wp2
        go_ret3
        exact ⟨q, hfin.out.1 (by first | rfl | trivial)⟩
      · have n0 : (Le != 0) = true := bne_iff_ne.2 hLe
        have HN := hide hLe
        clear hLe
        go_wp2
        go_ret3
        exact ⟨q, hfin.out.2 HN.out⟩
    · have HF2 : Hid (findK M 2 = (0, ta, rs0.map Rc.zs)) := hide (by rw [HFD2.out, if_neg hgt, if_neg ha, hz0])
      have FIN := FG 0 ta ra0 rc0 rs0 hW0'' o0.1 o0.2 (by omega) HF2.out
      rw [hLe0.out] at FIN
      (try simp only at FIN)
      have ha0 : (ta == 0) = false := beq_eq_false_iff_ne.2 ha
      clear ha HFD2 HF2 hW0'' hW1'' hJ0 FG o0 o1 hB03 hT
      go_wp2_with fail
      rw [hq.out]
      go_wp2_with fail
      refine FIN.mono ?_
      rintro e w5 ⟨rfl, hfin⟩
      clear FIN
      by_cases hLe : Le = 0
      · subst hLe
        go_wp2
        go_ret3
        exact ⟨q, hfin.out.1 (by first | rfl | trivial)⟩
      · have n0 : (Le != 0) = true := bne_iff_ne.2 hLe
        have HN := hide hLe
        clear hLe
        go_wp2
        go_ret3
        exact ⟨q, hfin.out.2 HN.out⟩
end Go.Proofs.YtfkchnjbbbhmjaaGreat.Ty
namespace Go.Proofs.YtfkchnjbbbhmjaaGreat.Ty
open Go.RowKit
open Tal
/-- where an area's bytes lie -/
theorem RLive.rowc {A : Nat → Prop} {w : World} {r : Nat} {M : Mt} (h : RLive A w r M) (k : Bool) : ∃ a c, ∀ w', Below w.heap.size w w' → w'.cell? ⟨r, 1 + (if k then 1 else 0), none⟩ = some (.slice a (M.get k).length c) := by
  obtain ⟨t, rfl, hr, -⟩ := h
  cases k
  · exact ⟨_, _, fun w' hb => (hr.below hb).cell 1 rfl⟩
  · exact ⟨_, _, fun w' hb => (hr.below hb).cell 2 rfl⟩
/-- are all bytes of an area sure? -/
def Mt.allSure (M : Mt) (k : Bool) : Bool := decide (M.sureOf (if k then 1 else 0) = ((M.get k).length : Int))
set_option maxRecDepth 100000 in
set_option maxHeartbeats 4000000 in
theorem xsure_any (q p : Nat) (k : Bool) (tu fs : Int) (M : Mt) (A : Nat → Prop) (w : World) (h : JAt w ⟨q, p, (if k then 1 else 0), tu, fs⟩) (hT : RLive A w p M) : Calls Tryz.prog 14 #[.pointer (some ⟨q, 0, none⟩)] w fun e w' => e = .returned (.bool (Mt.allSure M k)) ∧ Below w.heap.size w w' := by
  obtain ⟨w8, hw8⟩ : ∃ w8, w.drew = w8 := ⟨_, rfl⟩
  have hB8 : Below w.heap.size w w8 := by rw [← hw8]; exact (Below.refl _ _).drew
  have cS := rl_sure (hT.below hB8) (if k then 1 else 0)
  have k0 : ∀ w', Below w8.heap.size w8 w' → w'.cell? ⟨q, 0, none⟩ = some (.pointer (some ⟨p, 0, none⟩)) := fun w' hw => (h.below (hB8.trans (hw.mono hB8.size))).cell 0 rfl
  have k1 : ∀ w', Below w8.heap.size w8 w' → w'.cell? ⟨q, 1, none⟩ = some (.int .i64 (if k then 1 else 0)) := fun w' hw => (h.below (hB8.trans (hw.mono hB8.size))).cell 1 rfl
  obtain ⟨ba, bc, kL⟩ := RLive.rowc (hT.below hB8) k
  unfold Mt.allSure
  obtain ⟨su, hsu⟩ : ∃ su, M.sureOf (if k then 1 else 0) = su := ⟨_, rfl⟩
  obtain ⟨n, hn⟩ : ∃ n : Nat, (M.get k).length = n := ⟨_, rfl⟩
  rw [hsu] at cS
  rw [hn] at kL
  rw [hsu, hn]
  obtain ⟨bb, hbb'⟩ : ∃ bb, Hid (decide (su = (n : Int)) = bb) := ⟨_, hide rfl⟩
  have hbb : (su == (n : Int)) = bb := by rw [← hbb'.out]; rfl
  rw [hbb'.out]
  clear hsu hn h hT
  go_enter Tryz.func14, Tryz.ntmps14
  go_wp2_with fail
  refine hs_begin (S := (Below w8.heap.size w8)) 24 rfl (by kernel_rfl) ?_
  rw [hw8]
  clear hw8
  have hS : (Below w8.heap.size w8) w8 := Below.refl _ _
  cases k
  all_goals
    simp only [Bool.false_eq_true, if_true, if_false, Nat.add_zero, Nat.reduceAdd] at cS k1 kL
    refine hs_take (i := 0) (d := some 3) (v := ?_) rfl (by kernel_rfl) (by kernel_rfl) (by kernel_rfl) (by rfl) ?_ hS rfl ?_
    rotate_left
    · intro w' hw
      go_simp
      try with_reducible rfl
    simp only [Act.put, List.setIfInBounds_toArray, List.set_cons_zero, List.set_cons_succ]
    refine hs_take (i := 1) (d := some 4) (v := ?_) rfl (by kernel_rfl) (by kernel_rfl) (by kernel_rfl) (by rfl) ?_ hS rfl ?_
    rotate_left
    · intro w' hw
      go_simp
      try with_reducible rfl
    simp only [Act.put, List.setIfInBounds_toArray, List.set_cons_zero, List.set_cons_succ]
    refine hs_take (i := 2) (d := some 5) (v := ?_) rfl (by kernel_rfl) (by kernel_rfl) (by kernel_rfl) (by rfl) ?_ hS rfl ?_
    rotate_left
    · intro w' hw
      go_simp
      try with_reducible rfl
    simp only [Act.put, List.setIfInBounds_toArray, List.set_cons_zero, List.set_cons_succ]
    refine hs_take (i := 3) (d := some 6) (v := ?_) rfl (by kernel_rfl) (by kernel_rfl) (by kernel_rfl) (by rfl) ?_ hS rfl ?_
    rotate_left
    · intro w' hw
      have := k0 w' hw
      go_simp
      try with_reducible rfl
    simp only [Act.put, List.setIfInBounds_toArray, List.set_cons_zero, List.set_cons_succ]
    refine hs_take (i := 4) (d := some 7) (v := ?_) rfl (by kernel_rfl) (by kernel_rfl) (by kernel_rfl) (by rfl) ?_ hS rfl ?_
    rotate_left
    · intro w' hw
      go_simp
      try with_reducible rfl
    simp only [Act.put, List.setIfInBounds_toArray, List.set_cons_zero, List.set_cons_succ]
    refine hs_take (i := 5) (d := some 8) (v := ?_) rfl (by kernel_rfl) (by kernel_rfl) (by kernel_rfl) (by rfl) ?_ hS rfl ?_
    rotate_left
    · intro w' hw
      go_simp
      try with_reducible rfl
    simp only [Act.put, List.setIfInBounds_toArray, List.set_cons_zero, List.set_cons_succ]
    refine hs_take (i := 6) (d := some 9) (v := ?_) rfl (by kernel_rfl) (by kernel_rfl) (by kernel_rfl) (by rfl) ?_ hS rfl ?_
    rotate_left
    · intro w' hw
      go_simp
      try with_reducible rfl
    simp only [Act.put, List.setIfInBounds_toArray, List.set_cons_zero, List.set_cons_succ]
    refine hs_take (i := 7) (d := some 10) (v := ?_) rfl (by kernel_rfl) (by kernel_rfl) (by kernel_rfl) (by rfl) ?_ hS rfl ?_
    rotate_left
    · intro w' hw
      have := k1 w' hw
      go_simp
      try with_reducible rfl
    simp only [Act.put, List.setIfInBounds_toArray, List.set_cons_zero, List.set_cons_succ]
    refine hs_take (i := 9) (d := some 12) (v := ?_) rfl (by kernel_rfl) (by kernel_rfl) (by kernel_rfl) (by rfl) ?_ hS rfl ?_
    rotate_left
    · intro w' hw
      go_simp
      try with_reducible rfl
    simp only [Act.put, List.setIfInBounds_toArray, List.set_cons_zero, List.set_cons_succ]
    refine hs_take (i := 10) (d := some 13) (v := ?_) rfl (by kernel_rfl) (by kernel_rfl) (by kernel_rfl) (by rfl) ?_ hS rfl ?_
    rotate_left
    · intro w' hw
      go_simp
      try with_reducible rfl
    simp only [Act.put, List.setIfInBounds_toArray, List.set_cons_zero, List.set_cons_succ]
    refine hs_take (i := 11) (d := some 14) (v := ?_) rfl (by kernel_rfl) (by kernel_rfl) (by kernel_rfl) (by rfl) ?_ hS rfl ?_
    rotate_left
    · intro w' hw
      go_simp
      try with_reducible rfl
    simp only [Act.put, List.setIfInBounds_toArray, List.set_cons_zero, List.set_cons_succ]
    refine hs_take (i := 12) (d := some 15) (v := ?_) rfl (by kernel_rfl) (by kernel_rfl) (by kernel_rfl) (by rfl) ?_ hS rfl ?_
    rotate_left
    · intro w' hw
      have := k0 w' hw
      go_simp
      try with_reducible rfl
    simp only [Act.put, List.setIfInBounds_toArray, List.set_cons_zero, List.set_cons_succ]
    refine hs_take (i := 13) (d := some 16) (v := ?_) rfl (by kernel_rfl) (by kernel_rfl) (by kernel_rfl) (by rfl) ?_ hS rfl ?_
    rotate_left
    · intro w' hw
      go_simp
      try with_reducible rfl
    simp only [Act.put, List.setIfInBounds_toArray, List.set_cons_zero, List.set_cons_succ]
    refine hs_take (i := 14) (d := some 17) (v := ?_) rfl (by kernel_rfl) (by kernel_rfl) (by kernel_rfl) (by rfl) ?_ hS rfl ?_
    rotate_left
    · intro w' hw
      go_simp
      try with_reducible rfl
    simp only [Act.put, List.setIfInBounds_toArray, List.set_cons_zero, List.set_cons_succ]
    refine hs_take (i := 15) (d := some 18) (v := ?_) rfl (by kernel_rfl) (by kernel_rfl) (by kernel_rfl) (by rfl) ?_ hS rfl ?_
    rotate_left
    · intro w' hw
      go_simp
      try with_reducible rfl
    simp only [Act.put, List.setIfInBounds_toArray, List.set_cons_zero, List.set_cons_succ]
    refine hs_take (i := 16) (d := some 19) (v := ?_) rfl (by kernel_rfl) (by kernel_rfl) (by kernel_rfl) (by rfl) ?_ hS rfl ?_
    rotate_left
    · intro w' hw
      have := k1 w' hw
      go_simp
      try with_reducible rfl
    simp only [Act.put, List.setIfInBounds_toArray, List.set_cons_zero, List.set_cons_succ]
    refine hs_take (i := 17) (d := some 20) (v := ?_) rfl (by kernel_rfl) (by kernel_rfl) (by kernel_rfl) (by rfl) ?_ hS rfl ?_
    rotate_left
    · intro w' hw
      go_simp
      try with_reducible rfl
    simp only [Act.put, List.setIfInBounds_toArray, List.set_cons_zero, List.set_cons_succ]
    refine hs_take (i := 18) (d := some 21) (v := ?_) rfl (by kernel_rfl) (by kernel_rfl) (by kernel_rfl) (by rfl) ?_ hS rfl ?_
    rotate_left
    · intro w' hw
      go_simp
      try with_reducible rfl
    simp only [Act.put, List.setIfInBounds_toArray, List.set_cons_zero, List.set_cons_succ]
    refine hs_take (i := 19) (d := some 22) (v := ?_) rfl (by kernel_rfl) (by kernel_rfl) (by kernel_rfl) (by rfl) ?_ hS rfl ?_
    rotate_left
    · intro w' hw
      go_simp
      try with_reducible rfl
    simp only [Act.put, List.setIfInBounds_toArray, List.set_cons_zero, List.set_cons_succ]
    refine hs_take (i := 20) (d := some 23) (v := ?_) rfl (by kernel_rfl) (by kernel_rfl) (by kernel_rfl) (by rfl) ?_ hS rfl ?_
    rotate_left
    · intro w' hw
      have := kL w' hw
      go_simp
      try with_reducible rfl
    simp only [Act.put, List.setIfInBounds_toArray, List.set_cons_zero, List.set_cons_succ]
    refine hs_take (i := 21) (d := some 24) (v := ?_) rfl (by kernel_rfl) (by kernel_rfl) (by kernel_rfl) (by rfl) ?_ hS rfl ?_
    rotate_left
    · intro w' hw
      go_simp
      try with_reducible rfl
    simp only [Act.put, List.setIfInBounds_toArray, List.set_cons_zero, List.set_cons_succ]
    refine hs_call (i := 8) (d := some 11) rfl (by kernel_rfl) (by rfl) (by go_simp; first | done | exact ⟨rfl, rfl⟩ | with_reducible rfl) rfl ?_
    refine (cS).mono ?_
    rintro e' wq ⟨rfl, hx⟩
    have hS : Below w8.heap.size w8 wq := by rw [hx]; exact hS
    refine ⟨_, rfl, hS, ?_⟩
    simp only [Act.put, List.setIfInBounds_toArray, List.set_cons_zero, List.set_cons_succ]
    obtain rfl := hx.symm
    clear hx
    refine hs_take (i := 22) (d := some 25) (v := .bool bb) rfl (by kernel_rfl) (by kernel_rfl) (by kernel_rfl) (by rfl) (fun w' hw => by have := hbb; go_simp) hS rfl ?_
    simp only [Act.put, List.setIfInBounds_toArray, List.set_cons_zero, List.set_cons_succ]
    refine hs_take (i := 23) (d := some 2) (v := .bool bb) rfl (by kernel_rfl) (by kernel_rfl) (by kernel_rfl) (by rfl) (fun w' hw => by go_simp) hS rfl ?_
    simp only [Act.put, List.setIfInBounds_toArray, List.set_cons_zero, List.set_cons_succ]
    refine hs_done (by kernel_rfl) ?_
    go_wp2
    go_ret
    exact ⟨rfl, hB8⟩
end Go.Proofs.YtfkchnjbbbhmjaaGreat.Ty
namespace Go.Proofs.YtfkchnjbbbhmjaaGreat.Ty
open Go.RowKit
open Tal
/-- a tape at p as M tells, the document's at r as N tells; none of their blocks is one of A's -/
def Pr2 (A : Nat → Prop) (w : World) (p r : Nat) (M N : Mt) : Prop := ∃ (t : Tv) (v : Rv), t.p = p ∧ v.r = r ∧ TapeAt w t M ∧ RefAt w v N ∧ (∀ b, t.own b → ¬ v.own b) ∧ (∀ b, t.own b → ¬ A b) ∧ ∀ b, v.own b → ¬ A b
theorem Pr2.below {A : Nat → Prop} {w w' : World} {p r : Nat} {M N : Mt} (h : Pr2 A w p r M N) (hb : Below w.heap.size w w') : Pr2 A w' p r M N := by
  obtain ⟨t, v, e1, e2, h1, h2, h3⟩ := h
  exact ⟨t, v, e1, e2, h1.below hb, h2.below hb, h3⟩
theorem Pr2.narrow {A A' : Nat → Prop} {w : World} {p r : Nat} {M N : Mt} (h : Pr2 A w p r M N) (hA : ∀ b, A' b → A b) : Pr2 A' w p r M N := by
  obtain ⟨t, v, e1, e2, h1, h2, h3, h4, h5⟩ := h
  exact ⟨t, v, e1, e2, h1, h2, h3, fun b q q1 => h4 b q (hA b q1), fun b q q1 => h5 b q (hA b q1)⟩
theorem Pr2.widen {A : Nat → Prop} {w w1 : World} {p r : Nat} {M N : Mt} (h : Pr2 A w p r M N) (hb : Below w.heap.size w w1) : Pr2 (More A w w1) w1 p r M N := by
  obtain ⟨t, v, e1, e2, h1, h2, h3, h4, h5⟩ := h
  refine ⟨t, v, e1, e2, h1.below hb, h2.below hb, h3, fun b q q1 => ?_, fun b q q1 => ?_⟩
  · rcases q1 with q1 | q1
    · exact h4 b q q1
    · have := h1.own_lt q; omega
  · rcases q1 with q1 | q1
    · exact h5 b q q1
    · have := h2.own_lt q; omega
theorem Pr2.off {A F : Nat → Prop} {w w1 : World} {p r : Nat} {M N : Mt} (h : Pr2 A w p r M N) (ho : Off F w w1) (hF : ∀ b, F b → A b) : Pr2 A w1 p r M N := by
  obtain ⟨t, v, e1, e2, h1, h2, h3, h4, h5⟩ := h
  exact ⟨t, v, e1, e2, h1.off ho (fun b q q1 => h4 b q (hF b q1)), h2.off ho (fun b q q1 => h5 b q (hF b q1)), h3, h4, h5⟩
theorem Pr2.ne {A : Nat → Prop} {w : World} {p r : Nat} {M N : Mt} (h : Pr2 A w p r M N) : ¬ A p ∧ ¬ A r ∧ ¬ (p = r) ∧ p < w.heap.size ∧ r < w.heap.size ∧ M.ok ∧ N.ok := by
  obtain ⟨t, v, rfl, rfl, h1, h2, h3, h4, h5⟩ := h
  exact ⟨h4 _ (.inl rfl), h5 _ (.inl rfl), fun e => h3 _ (.inl rfl) (.inl e), h1.own_lt (.inl rfl), h2.own_lt (.inl rfl), h1.ok, h2.ok⟩
/-- the tape alone: what must stay is A and the document's -/
theorem Pr2.tape {A : Nat → Prop} {w : World} {p r : Nat} {M N : Mt} (h : Pr2 A w p r M N) (hA : ∀ b, A b → b < w.heap.size) :
    ∃ B : Nat → Prop, (∀ b, A b → B b) ∧ (∀ b, B b → b < w.heap.size) ∧ Live B w p M ∧ ∀ (w1 : World) (M1 : Mt) (B1 : Nat → Prop), (∀ b, B b → B1 b) → Live B1 w1 p M1 → Off (fun b => A b ∨ ¬ B b) w w1 →
      ∃ A1 : Nat → Prop, (∀ b, A b → A1 b) ∧ (∀ b, A1 b → B1 b) ∧ (∀ b, B1 b → w.heap.size ≤ b → A1 b) ∧ Pr2 A1 w1 p r M1 N := by
  obtain ⟨t, v, e1, e2, h1, h2, h3, h4, h5⟩ := h
  refine ⟨fun b => A b ∨ v.own b, fun b q => .inl q, fun b q => ?_, ⟨t, e1, h1, fun b q q1 => ?_⟩, fun w1 M1 B1 hB1 hL hO => ?_⟩
  · rcases q with q | q
    · exact hA b q
    · exact h2.own_lt q
  · rcases q1 with q1 | q1
    · exact h4 b q q1
    · exact h3 b q q1
  · obtain ⟨t1, e3, h6, h7⟩ := hL
    refine ⟨fun b => B1 b ∧ ¬ v.own b, fun b q => ⟨hB1 b (.inl q), fun q1 => h5 b q1 q⟩, fun b q => q.1, fun b q q1 => ⟨q, fun q2 => by have := h2.own_lt q2; omega⟩, t1, v, e3, e2, h6, h2.off hO (fun b q q1 => q1.elim (h5 b q) (fun z => z (.inr q))), fun b q q1 => h7 b q (hB1 b (.inr q1)), fun b q q1 => h7 b q q1.1, fun b q q1 => q1.2 q⟩
/-- the document's tape alone -/
theorem Pr2.doc {A : Nat → Prop} {w : World} {p r : Nat} {M N : Mt} (h : Pr2 A w p r M N) (hA : ∀ b, A b → b < w.heap.size) :
    ∃ B : Nat → Prop, (∀ b, A b → B b) ∧ (∀ b, B b → b < w.heap.size) ∧ RLive B w r N ∧ ∀ (w1 : World) (N1 : Mt) (B1 : Nat → Prop), (∀ b, B b → B1 b) → RLive B1 w1 r N1 → Off (fun b => b = r ∨ (A b)) w w1 →
      ∃ A1 : Nat → Prop, (∀ b, A b → A1 b) ∧ (∀ b, A1 b → B1 b) ∧ (∀ b, B1 b → w.heap.size ≤ b → A1 b) ∧ Pr2 A1 w1 p r M N1 := by
  obtain ⟨t, v, e1, e2, h1, h2, h3, h4, h5⟩ := h
  refine ⟨fun b => A b ∨ t.own b, fun b q => .inl q, fun b q => ?_, ⟨v, e2, h2, fun b q q1 => ?_⟩, fun w1 N1 B1 hB1 hL hO => ?_⟩
  · rcases q with q | q
    · exact hA b q
    · exact h1.own_lt q
  · rcases q1 with q1 | q1
    · exact h5 b q q1
    · exact h3 b q1 q
  · obtain ⟨v1, e3, h6, h7⟩ := hL
    have hvr : ¬ t.own r := fun q => h3 r q (by rw [← e2]; exact .inl rfl)
    refine ⟨fun b => B1 b ∧ ¬ t.own b, fun b q => ⟨hB1 b (.inl q), fun q1 => h4 b q1 q⟩, fun b q => q.1, fun b q q1 => ⟨q, fun q2 => by have := h1.own_lt q2; omega⟩, t, v1, e1, e3, h1.off hO (fun b q q1 => ?_), h6, fun b q q1 => h7 b q1 (hB1 b (.inr q)), fun b q q1 => q1.2 q, fun b q q1 => h7 b q q1.1⟩
    rcases q1 with q1 | q1
    · rw [q1] at q; exact hvr q
    · exact h4 b q q1
/-- the two journals: none, or alike -/
structure BAt (w : World) (bq p r : Nat) (jv jr : Option Addr) : Prop where
  c : w.rangeAt bq 0 [.pointer (some ⟨p, 0, none⟩), .pointer jv, .pointer (some ⟨r, 0, none⟩), .pointer jr]
  th : w.there bq 0 4
theorem BAt.at {w w' : World} {bq p r : Nat} {jv jr : Option Addr} (h : BAt w bq p r jv jr) (hb : w'.heap[bq]? = w.heap[bq]?) : BAt w' bq p r jv jr := ⟨range_at h.c hb, there_at h.th hb⟩
theorem BAt.lt {w : World} {bq p r : Nat} {jv jr : Option Addr} (h : BAt w bq p r jv jr) : bq < w.heap.size := there_lt h.th (by omega)
theorem BAt.cell {w : World} {bq p r : Nat} {jv jr : Option Addr} (h : BAt w bq p r jv jr) (i : Nat) {v : Value} (hv : [Value.pointer (some ⟨p, 0, none⟩), .pointer jv, .pointer (some ⟨r, 0, none⟩), .pointer jr][i]? = some v) : w.cell? ⟨bq, i, none⟩ = some v := by
  have := h.c i v hv
  rwa [Nat.zero_add] at this
theorem BAt.set {w : World} {bq p r : Nat} {jv jr : Option Addr} (h : BAt w bq p r jv jr) (a b : Option Addr) : BAt ((w.setCell ⟨bq, 1, none⟩ (.pointer a)).setCell ⟨bq, 3, none⟩ (.pointer b)) bq p r a b := by
  have r1 := range_set h.c 1 (.pointer a)
  rw [Nat.zero_add] at r1
  have r2 := range_set r1 3 (.pointer b)
  rw [Nat.zero_add] at r2
  exact ⟨r2, there_set (there_set h.th _ _) _ _⟩
end Go.Proofs.YtfkchnjbbbhmjaaGreat.Ty
namespace Go.Proofs.YtfkchnjbbbhmjaaGreat.Ty
open Go.RowKit
open Tal
/-- what stays so, whatever is done -/
structure Kp (R : Int) (M : Mt) : Prop where
  sa : M.sa ≤ M.a.length
  sb : M.sb ≤ M.b.length
  room : M.room = R
  dark : M.on = false → M.sa = M.a.length ∧ M.sb = M.b.length
theorem Kp.lose {R : Int} {M : Mt} (h : Kp R M) (keep : Int) : Kp R (M.lose keep) := by
  have h1 := keptN_le keep h.sa
  have h2 := keptN_le keep h.sb
  have e1 : (M.lose keep).sa = (M.lose keep).a.length := by simp only [Mt.lose, List.length_take]; omega
  have e2 : (M.lose keep).sb = (M.lose keep).b.length := by simp only [Mt.lose, List.length_take]; omega
  exact ⟨by omega, by omega, h.room, fun _ => ⟨e1, e2⟩⟩
theorem Kp.count {R : Int} {M : Mt} (h : Kp R M) : Kp R M.count := ⟨h.sa, h.sb, h.room, h.dark⟩
theorem Kp.does {R : Int} {M : Mt} (h : Kp R M) (area : Int) (f : Bool → Mt → Mt) (hf : ∀ k N, N.on = true → Kp R N → Kp R (f k N)) : Kp R (M.does area f).2 := by
  unfold Mt.does
  by_cases h0 : M.fault area = 0
  · have hon : M.on = true := by
      cases e : M.on
      · exfalso
        unfold Mt.fault at h0
        rw [e] at h0
        split at h0 <;> simp at h0
      · rfl
    rw [if_pos h0]
    by_cases hp : M.pl = true ∧ M.af = 0
    · rw [if_pos hp]; exact h.lose _
    · rw [if_neg hp]; exact hf _ _ hon h.count
  · rw [if_neg h0]; exact h
theorem Kp.sync {R : Int} {M : Mt} (h : Kp R M) (area : Int) : Kp R (M.sync area).2 := h.does area _ fun k N hon hN => by
  have e := hN.room
  have a1 := hN.sa
  have a2 := hN.sb
  cases k
  · exact ⟨by simp [Mt.settle, Mt.setA, Mt.get], a2, e, fun q => by rw [show (Mt.settle false N).on = N.on from rfl, hon] at q; cases q⟩
  · exact ⟨a1, by simp [Mt.settle, Mt.setA, Mt.get], e, fun q => by rw [show (Mt.settle true N).on = N.on from rfl, hon] at q; cases q⟩
theorem Kp.empty {R : Int} {M : Mt} (h : Kp R M) (area : Int) : Kp R (M.empty area).2 := h.does area _ fun k N hon hN => by
  have e := hN.room
  have a1 := hN.sa
  have a2 := hN.sb
  cases k
  · exact ⟨by simp [Mt.clear, Mt.setA], a2, e, fun q => by rw [show (Mt.clear false N).on = N.on from rfl, hon] at q; cases q⟩
  · exact ⟨a1, by simp [Mt.clear, Mt.setA], e, fun q => by rw [show (Mt.clear true N).on = N.on from rfl, hon] at q; cases q⟩
theorem Kp.append {R : Int} {M : Mt} (h : Kp R M) (area : Int) (zs : List Int) : Kp R (M.append area zs).2 := by
  unfold Mt.append
  split
  · split
    · exact h
    · refine h.does area _ fun k N hon hN => ?_
      have e := hN.room
      have a1 := hN.sa
      have a2 := hN.sb
      cases k
      · exact ⟨by simp only [Mt.put, Mt.setA, Mt.get, Mt.sr, List.length_append]; omega, a2, e, fun q => by rw [show (Mt.put zs false N).on = N.on from rfl, hon] at q; cases q⟩
      · exact ⟨a1, by simp only [Mt.put, Mt.setA, Mt.get, Mt.sr, List.length_append]; omega, e, fun q => by rw [show (Mt.put zs true N).on = N.on from rfl, hon] at q; cases q⟩
  · exact h
theorem Kp.arm {R : Int} {M : Mt} (h : Kp R M) (n keep : Int) : Kp R (M.arm n keep).2 := by
  unfold Mt.arm
  split
  · exact h
  · split
    · exact ⟨h.sa, h.sb, h.room, h.dark⟩
    · exact h
theorem Kp.fail {R : Int} {M : Mt} (h : Kp R M) (keep : Int) : Kp R (M.fail keep).2 := by
  unfold Mt.fail
  split
  · exact h.lose keep
  · exact h
theorem Kp.power {R : Int} {M : Mt} (h : Kp R M) : Kp R { M with on := true } := ⟨h.sa, h.sb, h.room, fun q => by cases q⟩
theorem Kp.onward {R : Int} {r : Int × Mt} {f : Mt → Int × Mt} (h : Kp R r.2) (hf : ∀ N, Kp R N → Kp R (f N).2) : Kp R (onward r f).2 := by
  unfold Go.Proofs.YtfkchnjbbbhmjaaGreat.onward
  split
  · exact hf _ h
  · exact h
theorem Kp.recs {R : Int} (area : Int) : ∀ (zss : List (List Int)) {M : Mt}, Kp R M → Kp R (layRecs area zss M).2
  | [], _, h => h
  | z :: zs, M, h => by
    unfold layRecs
    split
    · exact Kp.recs area zs (h.append area _)
    · exact h.append area _
theorem Kp.write {R : Int} {M : Mt} (h : Kp R M) (area tu : Int) (zss : List (List Int)) : Kp R (writeM M area tu zss).2 := by
  unfold writeM
  exact (h.empty area).onward fun _ h1 => (Kp.recs area zss h1).onward fun _ h2 => (h2.append area _).onward fun _ h3 => h3.sync area
theorem Kp.jsync {R : Int} {M : Mt} (h : Kp R M) (j : Jv) : Kp R (M.jsync j).2 := by
  unfold Mt.jsync
  split
  · exact h.sync _
  · exact h
theorem Kp.jappend {R : Int} {M : Mt} (h : Kp R M) (j : Jv) (zs : List Int) : Kp R (M.jappend j zs).2 := by
  unfold Mt.jappend
  split
  · split
    · exact h.append _ _
    · exact h
  · exact h
/-- Lay of two journals alike comes to the same -/
theorem layM_two (M : Mt) (q p q' r : Nat) (k : Bool) (tu fs : Int) (rs : List Rc) (t0 : 0 ≤ tu) (t1 : tu ≤ 1099511627776) :
    ∃ (e : Int) (M' : Mt) (k' : Bool) (tu' : Int), layM M ⟨q, p, (if k then 1 else 0), tu, fs⟩ rs = ⟨e, M', ⟨q, p, (if k' then 1 else 0), tu', fs⟩⟩ ∧ layM M ⟨q', r, (if k then 1 else 0), tu, fs⟩ rs = ⟨e, M', ⟨q', r, (if k' then 1 else 0), tu', fs⟩⟩ ∧ 0 ≤ tu' ∧ tu' ≤ 1099511627776 ∧ ∀ R, Kp R M → Kp R M' := by
  unfold layM
  simp only
  by_cases hx : takesE (M.jon fs) rs = 0
  · rw [if_pos hx, if_pos hx]
    by_cases ht : 1099511627776 ≤ tu
    · rw [if_pos ht, if_pos ht]
      exact ⟨_, _, k, tu, rfl, rfl, t0, t1, fun _ h => h⟩
    · rw [if_neg ht, if_neg ht]
      obtain ⟨we, hwe⟩ : ∃ we, writeM M (1 - if k then 1 else 0) (tu + 1) (rs.map Rc.zs) = we := ⟨_, rfl⟩
      have hK : ∀ R, Kp R M → Kp R we.2 := fun R h => by rw [← hwe]; exact h.write _ _ _
      rw [hwe]
      unfold layW
      simp only
      have ek : (1 - if k then 1 else 0 : Int) = if (!k) then 1 else 0 := by cases k <;> rfl
      rw [ek]
      by_cases h0 : we.1 = 0
      · rw [if_pos h0, if_pos h0]
        exact ⟨_, _, !k, tu + 1, rfl, rfl, by omega, by omega, hK⟩
      · rw [if_neg h0, if_neg h0]
        by_cases h1 : we.1 = 151
        · rw [if_pos h1, if_pos h1]
          generalize (if (!k) then 1 else 0 : Int) = o
          by_cases h2 : (we.2.empty o).1 = 0
          · rw [if_pos h2, if_pos h2]
            exact ⟨_, _, k, tu, rfl, rfl, t0, t1, fun R h => (hK R h).empty _⟩
          · rw [if_neg h2, if_neg h2]
            exact ⟨_, _, k, tu, rfl, rfl, t0, t1, fun R h => (hK R h).empty _⟩
        · rw [if_neg h1, if_neg h1]
          exact ⟨_, _, k, tu, rfl, rfl, t0, t1, hK⟩
  · rw [if_neg hx, if_neg hx]
    exact ⟨_, _, k, tu, rfl, rfl, t0, t1, fun _ h => h⟩
theorem openL_two {M : Mt} (h : M.ok) : ∃ (e : Int) (M' : Mt) (k' : Bool) (tu' : Int), (∀ q p, openL M q p = ⟨e, M', ⟨q, p, (if k' then 1 else 0), tu', M.fa⟩⟩) ∧ 0 ≤ tu' ∧ tu' ≤ 1099511627776 ∧ ∀ R, Kp R M → Kp R M' := by
  have hf := findK_ok h 2 (by omega)
  obtain ⟨k, hk⟩ : ∃ k : Bool, (findK M 2).1 = if k then 1 else 0 := by
    have := hf.a0
    have := hf.a1
    by_cases e : (findK M 2).1 = 1
    · exact ⟨true, e⟩
    · exact ⟨false, by show _ = (0 : Int); omega⟩
  obtain ⟨e, M', k', tu', -, -, b1, b2, hK⟩ := layM_two M 0 0 0 0 k (findK M 2).2.1 M.fa (zR (findK M 2).2.2) hf.t0 hf.t1
  have hall : ∀ q p, openL M q p = ⟨(openL M 0 0).e, (openL M 0 0).M, ⟨q, p, (openL M 0 0).j.ar, (openL M 0 0).j.tu, M.fa⟩⟩ := fun q p => by
    unfold openL
    rw [hk]
    obtain ⟨e2, M2, k2, tu2, a1, a2, -⟩ := layM_two M q p 0 0 k (findK M 2).2.1 M.fa (zR (findK M 2).2.2) hf.t0 hf.t1
    rw [a1, a2]
  obtain ⟨e2, M2, k2, tu2, a1, -, c1, c2, c3⟩ := layM_two M 0 0 0 0 k (findK M 2).2.1 M.fa (zR (findK M 2).2.2) hf.t0 hf.t1
  have a0 : openL M 0 0 = ⟨e2, M2, ⟨0, 0, (if k2 then 1 else 0), tu2, M.fa⟩⟩ := by unfold openL; rw [hk]; exact a1
  refine ⟨e2, M2, k2, tu2, fun q p => ?_, c1, c2, c3⟩
  rw [hall q p, a0]
end Go.Proofs.YtfkchnjbbbhmjaaGreat.Ty
namespace Go.Proofs.YtfkchnjbbbhmjaaGreat.Ty
open Go.RowKit
open Tal
/-- the two journals: none, or alike -/
def Jn (n0 : Nat) (A : Nat → Prop) (w : World) (bq p r : Nat) (jv jr : Option Addr) : Prop :=
  (jv = none ∧ jr = none) ∨ ∃ (q q' : Nat) (k : Bool) (tu fs : Int), jv = some ⟨q, 0, none⟩ ∧ jr = some ⟨q', 0, none⟩ ∧ JAt w ⟨q, p, (if k then 1 else 0), tu, fs⟩ ∧ JAt w ⟨q', r, (if k then 1 else 0), tu, fs⟩ ∧ (A q ∧ A q' ∧ n0 ≤ q ∧ n0 ≤ q') ∧ (¬ (q = q') ∧ ¬ (q = bq) ∧ ¬ (q' = bq)) ∧ 0 ≤ tu ∧ tu ≤ 1099511627776
theorem Jn.off {n0 : Nat} {A F : Nat → Prop} {w w' : World} {bq p r : Nat} {jv jr : Option Addr} (h : Jn n0 A w bq p r jv jr) (ho : Off F w w') (hF : ∀ b, F b → A b → b = bq) : Jn n0 A w' bq p r jv jr := by
  rcases h with h | ⟨q, q', k, tu, fs, e1, e2, j1, j2, ⟨a1, a2, a3⟩, ⟨n1, n2, n3⟩, t⟩
  · exact .inl h
  · exact .inr ⟨q, q', k, tu, fs, e1, e2, j1.at (ho.2 q j1.lt (fun z => n2 (hF q z a1))), j2.at (ho.2 q' j2.lt (fun z => n3 (hF q' z a2))), ⟨a1, a2, a3⟩, ⟨n1, n2, n3⟩, t⟩
theorem Jn.up {n0 : Nat} {A A' : Nat → Prop} {w : World} {bq p r : Nat} {jv jr : Option Addr} (h : Jn n0 A w bq p r jv jr) (hA : ∀ b, A b → A' b) : Jn n0 A' w bq p r jv jr := by
  rcases h with h | ⟨q, q', k, tu, fs, e1, e2, j1, j2, ⟨a1, a2, a3⟩, n, t⟩
  · exact .inl h
  · exact .inr ⟨q, q', k, tu, fs, e1, e2, j1, j2, ⟨hA q a1, hA q' a2, a3⟩, n, t⟩
/-- what the law's pair is -/
structure Bs (n0 : Nat) (R : Int) (A : Nat → Prop) (w : World) (bq p r : Nat) (M : Mt) (jv jr : Option Addr) : Prop where
  lt : ∀ b, A b → b < w.heap.size
  up : ∀ b, b < n0 → A b
  bq0 : n0 ≤ bq
  own : A bq
  box : BAt w bq p r jv jr
  pr : Pr2 A w p r M M
  js : Jn n0 A w bq p r jv jr
  kp : Kp R M
  small : R ≤ 100000
theorem Bs.below {n0 : Nat} {R : Int} {A : Nat → Prop} {w w' : World} {bq p r : Nat} {M : Mt} {jv jr : Option Addr} (h : Bs n0 R A w bq p r M jv jr) (hb : Below w.heap.size w w') : Bs n0 R A w' bq p r M jv jr :=
  ⟨fun b z => Nat.lt_of_lt_of_le (h.lt b z) hb.size, h.up, h.bq0, h.own, h.box.at (hb.block _ h.box.lt), h.pr.below hb, h.js.off (Off.of_below (F := fun _ => False) hb) (fun _ z => z.elim), h.kp, h.small⟩
theorem bs_close {n0 : Nat} {R : Int} {A A0 : Nat → Prop} {w w2 : World} {bq p r : Nat} {M : Mt} {jv0 jr0 jv jr : Option Addr} (lt : ∀ b, A b → b < w2.heap.size) (up : ∀ b, b < n0 → A b) (bq0 : n0 ≤ bq) (own : A bq) (box : BAt w2 bq p r jv0 jr0) (pr : Pr2 A w2 p r M M) (js : Jn n0 A w2 bq p r jv jr) (kp : Kp R M) (small : R ≤ 100000) (hB : Below n0 w w2) (hO : Off (fun b => b = bq ∨ ¬ A0 b) w w2) :
    ∀ w3, Below ((w2.setCell ⟨bq, 1, none⟩ (.pointer jv)).setCell ⟨bq, 3, none⟩ (.pointer jr)).heap.size ((w2.setCell ⟨bq, 1, none⟩ (.pointer jv)).setCell ⟨bq, 3, none⟩ (.pointer jr)) w3 → Below n0 w w3 ∧ Off (fun b => b = bq ∨ ¬ A0 b) w w3 ∧ Bs n0 R A w3 bq p r M jv jr := by
  have box2 := box.set jv jr
  have o1 : Off (fun b => b = bq) w2 (w2.setCell ⟨bq, 1, none⟩ (.pointer jv)) := Off.of_setCell _ _ _ rfl
  have o2 : Off (fun b => b = bq) w2 ((w2.setCell ⟨bq, 1, none⟩ (.pointer jv)).setCell ⟨bq, 3, none⟩ (.pointer jr)) := o1.trans (Off.of_setCell (F := fun b => b = bq) _ _ _ rfl) (fun _ _ z => z)
  generalize ((w2.setCell ⟨bq, 1, none⟩ (.pointer jv)).setCell ⟨bq, 3, none⟩ (.pointer jr)) = W at *
  have hbq := box.lt
  have hn : n0 ≤ w2.heap.size := by omega
  have hBW : Below n0 w W := hB.trans (o2.below hn (fun b hb z => by omega))
  intro w3 hb
  have hbs : Bs n0 R A W bq p r M jv jr := ⟨fun b z => Nat.lt_of_lt_of_le (lt b z) o2.size, up, bq0, own, box2, pr.off o2 (fun b z => by rw [z]; exact own), js.off o2 (fun b z _ => z), kp, small⟩
  exact ⟨hBW.trans (hb.mono (Nat.le_trans hn o2.size)), (hO.trans o2 (fun b _ z => .inl z)).below_r hb, hbs.below hb⟩
set_option maxRecDepth 100000 in
set_option maxHeartbeats 8000000 in
theorem bopen_off (n0 bq p r : Nat) (R : Int) (A : Nat → Prop) (M : Mt) (jv jr : Option Addr) (w : World) (h : Bs n0 R A w bq p r M jv jr) (hon : M.on = false) :
    Calls Tryz.prog 8 #[.pointer (some ⟨bq, 0, none⟩)] w fun e w' => e = .returned (.bool true) ∧ Below n0 w w' ∧ Off (fun b => b = bq ∨ ¬ A b) w w' ∧ ∃ A' M' jv' jr', Bs n0 R A' w' bq p r M' jv' jr' := by
  obtain ⟨B, hAB, hBlt, hLB, -⟩ := h.pr.tape h.lt
  have cO := open_off p M B w hLB hon
  have k0 := h.box.cell 0 rfl
  have HS := hide h
  have c2 : ∀ w1, Below w.heap.size w w1 → Calls Tryz.prog 24 #[.pointer (some ⟨r, 0, none⟩)] w1 fun e w' => e = .returned (.tuple #[.pointer none, .slice none 0 0, .int .i64 150]) ∧ w' = w1 := fun w1 hb => by
    obtain ⟨C, -, -, hLC, -⟩ := (h.below hb).pr.doc (h.below hb).lt
    exact xopen_off r M C w1 hLC hon
  clear h hLB hBlt hAB hon
  go_enter Tryz.func8, Tryz.ntmps8
  go_wp2_with fail
  refine cO.mono ?_
  rintro e w1 ⟨rfl, hB1⟩
  clear cO k0
  have c2 := c2 w1 hB1
  have h1 := HS.out.below hB1
  have k2 := h1.box.cell 2 rfl
  have f1 : w1.frozen? ⟨bq, 1, none⟩ = false := by have := (h1.box.th 1 (by omega)).2; rwa [Nat.zero_add] at this
  have f3 : w1.frozen? ⟨bq, 3, none⟩ = false := by have := (h1.box.th 3 (by omega)).2; rwa [Nat.zero_add] at this
  have y1 := h1.box.cell 1 rfl
  have y3 := h1.box.cell 3 rfl
  have hn : n0 ≤ w.heap.size := by have := HS.out.bq0; have := HS.out.box.lt; omega
  have HC := hide (bs_close (jv := none) (jr := none) h1.lt h1.up h1.bq0 h1.own h1.box h1.pr (.inl ⟨rfl, rfl⟩) h1.kp h1.small (hB1.mono hn) (A0 := A) (Off.of_below hB1))
  clear h1 hn
  go_wp2_with fail
  refine c2.mono ?_
  rintro e w2 ⟨rfl, hw⟩
  obtain rfl := hw.symm
  clear c2 hw k2
  have cS := xsame_any none none 0 0 [] [] ((w1.setCell ⟨bq, 1, none⟩ (.pointer none)).setCell ⟨bq, 3, none⟩ (.pointer none)) ⟨by simp, .inl rfl, by simp⟩ ⟨by simp, .inl rfl, by simp⟩ rfl
  simp only [List.length_nil] at cS
  go_wp2_with fail
  refine cS.mono ?_
  rintro e w3 ⟨rfl, hB3⟩
  clear cS
  go_wp2
  go_ret
  exact ⟨rfl, (HC.out w3 hB3).1, (HC.out w3 hB3).2.1, A, M, none, none, (HC.out w3 hB3).2.2⟩
set_option maxRecDepth 100000 in
set_option maxHeartbeats 8000000 in
theorem bopen_on (n0 bq p r : Nat) (R : Int) (A : Nat → Prop) (M : Mt) (jv jr : Option Addr) (w : World) (h : Bs n0 R A w bq p r M jv jr) (hon : M.on = true) :
    Calls Tryz.prog 8 #[.pointer (some ⟨bq, 0, none⟩)] w fun e w' => e = .returned (.bool true) ∧ Below n0 w w' ∧ Off (fun b => b = bq ∨ ¬ A b) w w' ∧ ∃ A' M' jv' jr', Bs n0 R A' w' bq p r M' jv' jr' := by
  obtain ⟨B, hAB, hBlt, hLB, hcont⟩ := h.pr.tape h.lt
  have hok := hLB.ok
  have hrm : M.room ≤ 100000000 := by have := h.kp.room; have := h.small; omega
  obtain ⟨Le, M', k', tu', hall, tu0, tu1, hkp⟩ := openL_two hok
  have cO := open_on p M B w hLB hBlt hon hrm
  simp only [hall] at cO
  have k0 := h.box.cell 0 rfl
  have hbq := h.box.lt
  have hn : n0 ≤ w.heap.size := by have := h.bq0; omega
  have HS := hide h
  have HK := hide (hkp R h.kp)
  have HH := hide hall
  clear h hLB hkp hall hok
  go_enter Tryz.func8, Tryz.ntmps8
  go_wp2_with fail
  refine cO.mono ?_
  rintro e w1 ⟨q, B2, h2up, h2q, h2lt, h2low, h2off, hq0, hT1, hsaid⟩
  clear cO k0
  simp only at hT1 hsaid
  obtain ⟨A1, a1up, a1B, a1new, hP1⟩ := hcont w1 M' B2 h2up hT1 (h2off.mono (fun b _ z => .inr z))
  have a1lt : ∀ b, A1 b → b < w1.heap.size := fun b hb => h2lt b (a1B b hb)
  have box1 := HS.out.box.at (h2off.2 bq hbq (fun z => z (hAB bq HS.out.own)))
  have hB1 : Below n0 w w1 := h2off.below hn (fun b hb z => z (hAB b (HS.out.up b hb)))
  have a1q : A1 q := a1new q h2q hq0
  have hO1 : Off (fun b => b = bq ∨ ¬ A b) w w1 := h2off.mono (fun b _ z => .inr (fun z1 => z (hAB b z1)))
  have hw1 := h2off.size
  obtain ⟨C, hAC, hClt, hLC, hcont2⟩ := hP1.doc a1lt
  have hne1 := hP1.ne
  have cX := xopen_on r M C w1 hLC hClt hon hrm
  simp only [HH.out] at cX
  have k2 := box1.cell 2 rfl
  have HSA := hide hsaid
  clear hT1 h2off h2up hcont hsaid hP1 hLC hClt
  have aft : ∀ (q' : Nat) (w2 : World) (C2 : Nat → Prop) (e : Ending), XOpened C w1 w2 r q' ⟨Le, M', ⟨q', r, (if k' then 1 else 0), tu', M.fa⟩⟩ (findK M 2).2.2 e C2 →
      ∃ A2 : Nat → Prop, (∀ b, A2 b → b < w2.heap.size) ∧ (∀ b, b < n0 → A2 b) ∧ A2 bq ∧ A2 q ∧ A2 q' ∧ BAt w2 bq p r jv jr ∧ Pr2 A2 w2 p r M' M' ∧ Below n0 w w2 ∧ Off (fun b => b = r) w1 w2 ∧ w1.heap.size ≤ q' ∧ Off (fun b => b = bq ∨ ¬ A b) w w2 := fun q' w2 C2 e hX => by
    obtain ⟨A2, a2up, a2C, a2new, hP2⟩ := hcont2 w2 M' C2 hX.up hX.live (hX.off.mono (fun b _ z => .inl z))
    have rn : ¬ A1 r := hne1.2.1
    refine ⟨A2, fun b hb => hX.lt b (a2C b hb), fun b hb => a2up b (a1up b (HS.out.up b hb)), a2up _ (a1up _ HS.out.own), a2up _ a1q, a2new q' hX.own hX.q0, box1.at (hX.off.2 bq (by omega) (fun z => rn (by rw [← z]; exact a1up _ HS.out.own))), hP2, hB1.trans (hX.off.below (by omega) (fun b hb z => rn (by rw [← z]; exact a1up _ (HS.out.up b hb)))), hX.off, hX.q0, hO1.trans hX.off (fun b _ z => .inr (fun z1 => rn (by rw [← z]; exact a1up _ z1)))⟩
  have hqr : ¬ (q = r) := fun z => hne1.2.1 (by rw [← z]; exact a1q)
  have nr : ∀ b, B2 b → w.heap.size ≤ b → ¬ (b = r) := fun b hb hb2 z => hne1.2.1 (by rw [← z]; exact a1new b hb hb2)
  have hq1 := a1lt q a1q
  have HAFT := hide aft
  clear aft hcont2 a1up a1B a1new hAB hBlt hAC
  by_cases hLe : Le = 0
  · subst hLe
    rcases HSA.out with ⟨hx, -⟩ | ⟨-, hJ1, v, rs, rfl, hW, hzs, hrl, hrA, hvA⟩
    · exact absurd rfl hx
    obtain ⟨ra, rc, rfl, -, -, -⟩ := hW.recs hrl
    clear HSA
    go_wp2_with fail
    refine cX.mono ?_
    rintro e w2 ⟨q', C2, hX⟩
    clear cX k2
    obtain ⟨A2, lt2, up2, own2, a2q, a2q', box2, pr2, hB2, off2, hq'0, hO2⟩ := HAFT.out q' w2 C2 e hX
    rcases hX.said with ⟨hx, -⟩ | ⟨-, hJ2, v', rs', rfl, hW', hzs', hrl', -, -⟩
    · exact absurd rfl hx
    obtain ⟨ra', rc', rfl, hR', -, hrb'⟩ := hW'.recs hrl'
    have hW2 : ROwn w.heap.size w2 (.slice ra rs.length rc) rs := hW.off' off2 (fun g e1 e2 => nr g (hvA g e1) (hW.r.lt g e1).1 e2) (fun x hx ad e1 e2 => nr ad.block (hrA x hx ad e1) (hW.off x hx ad e1).1 e2)
    have hJ12 := hJ1.at (off2.2 q hq1 hqr)
    have f1 : w2.frozen? ⟨bq, 1, none⟩ = false := by have := (box2.th 1 (by omega)).2; rwa [Nat.zero_add] at this
    have f3 : w2.frozen? ⟨bq, 3, none⟩ = false := by have := (box2.th 3 (by omega)).2; rwa [Nat.zero_add] at this
    have y1 := box2.cell 1 rfl
    have y3 := box2.cell 3 rfl
    have HC := hide (bs_close (jv := some ⟨q, 0, none⟩) (jr := some ⟨q', 0, none⟩) lt2 up2 HS.out.bq0 own2 box2 pr2 (.inr ⟨q, q', k', tu', M.fa, rfl, rfl, hJ12, hJ2, ⟨a2q, a2q', by omega, by omega⟩, ⟨by omega, by omega, by omega⟩, tu0, tu1⟩) HK.out HS.out.small hB2 (A0 := A) hO2)
    have s1 := (hW2.set (q := bq) (o := 1) hbq (.pointer (some ⟨q, 0, none⟩))).set (q := bq) (o := 3) hbq (.pointer (some ⟨q', 0, none⟩))
    have s2 := (hW'.set (q := bq) (o := 1) (by omega) (.pointer (some ⟨q, 0, none⟩))).set (q := bq) (o := 3) (by omega) (.pointer (some ⟨q', 0, none⟩))
    obtain ⟨ra1, rc1, e1, hR1, -, -⟩ := s1.recs hrl
    obtain ⟨ra2, rc2, e2, hR2, -, -⟩ := s2.recs hrl'
    simp only [Value.slice.injEq, true_and] at e1 e2
    obtain ⟨rfl, rfl⟩ := e1
    obtain ⟨rfl, rfl⟩ := e2
    have cS := xsame_any ra ra' rc rc' rs rs' ((w2.setCell ⟨bq, 1, none⟩ (.pointer (some ⟨q, 0, none⟩))).setCell ⟨bq, 3, none⟩ (.pointer (some ⟨q', 0, none⟩))) hR1 hR2 (hzs.trans hzs'.symm)
    clear s1 s2 hR1 hR2 hW hW' hW2 hR' hX lt2 up2 own2 box2 pr2 hJ12 hJ1 hJ2 off2 hB2
    go_wp2_with fail
    refine cS.mono ?_
    rintro e w3 ⟨rfl, hB3⟩
    clear cS
    go_wp2
    go_ret
    exact ⟨rfl, (HC.out w3 hB3).1, (HC.out w3 hB3).2.1, A2, M', _, _, (HC.out w3 hB3).2.2⟩
  · rcases HSA.out with ⟨-, rfl⟩ | ⟨hx, -⟩
    case inr => exact absurd hx hLe
    clear HSA
    have HN := hide hLe
    clear hLe
    have ee : (Le == Le) = true := by simp
    go_wp2_with fail
    refine cX.mono ?_
    rintro e w2 ⟨q', C2, hX⟩
    clear cX k2
    obtain ⟨A2, lt2, up2, own2, a2q, a2q', box2, pr2, hB2, off2, hq'0, hO2⟩ := HAFT.out q' w2 C2 e hX
    rcases hX.said with ⟨-, rfl⟩ | ⟨hx, -⟩
    case inr => exact absurd hx HN.out
    have f1 : w2.frozen? ⟨bq, 1, none⟩ = false := by have := (box2.th 1 (by omega)).2; rwa [Nat.zero_add] at this
    have f3 : w2.frozen? ⟨bq, 3, none⟩ = false := by have := (box2.th 3 (by omega)).2; rwa [Nat.zero_add] at this
    have y1 := box2.cell 1 rfl
    have y3 := box2.cell 3 rfl
    have HC := hide (bs_close (jv := none) (jr := none) lt2 up2 HS.out.bq0 own2 box2 pr2 (.inl ⟨rfl, rfl⟩) HK.out HS.out.small hB2 (A0 := A) hO2)
    have cS := xsame_any none none 0 0 [] [] ((w2.setCell ⟨bq, 1, none⟩ (.pointer none)).setCell ⟨bq, 3, none⟩ (.pointer none)) ⟨by simp, .inl rfl, by simp⟩ ⟨by simp, .inl rfl, by simp⟩ rfl
    simp only [List.length_nil] at cS
    clear hX lt2 up2 own2 box2 pr2 off2 hB2
    go_wp2_with fail
    refine cS.mono ?_
    rintro e w3 ⟨rfl, hB3⟩
    clear cS
    go_wp2
    go_ret
    exact ⟨rfl, (HC.out w3 hB3).1, (HC.out w3 hB3).2.1, A2, M', none, none, (HC.out w3 hB3).2.2⟩
theorem bopen_any (n0 bq p r : Nat) (R : Int) (A : Nat → Prop) (M : Mt) (jv jr : Option Addr) (w : World) (h : Bs n0 R A w bq p r M jv jr) :
    Calls Tryz.prog 8 #[.pointer (some ⟨bq, 0, none⟩)] w fun e w' => e = .returned (.bool true) ∧ Below n0 w w' ∧ Off (fun b => b = bq ∨ ¬ A b) w w' ∧ ∃ A' M' jv' jr', Bs n0 R A' w' bq p r M' jv' jr' := by
  cases hon : M.on
  · exact bopen_off n0 bq p r R A M jv jr w h hon
  · exact bopen_on n0 bq p r R A M jv jr w h hon
end Go.Proofs.YtfkchnjbbbhmjaaGreat.Ty
namespace Go.Proofs.YtfkchnjbbbhmjaaGreat.Ty
open Go.RowKit
open Tal
/-- the program's tape has gone on, the document's not yet -/
structure Ms (n0 : Nat) (R : Int) (A : Nat → Prop) (w : World) (bq p r : Nat) (M N : Mt) (jv jr : Option Addr) : Prop where
  lt : ∀ b, A b → b < w.heap.size
  up : ∀ b, b < n0 → A b
  bq0 : n0 ≤ bq
  own : A bq
  box : BAt w bq p r jv jr
  pr : Pr2 A w p r M N
  js : Jn n0 A w bq p r jv jr
  small : R ≤ 100000
theorem Bs.wide {n0 : Nat} {R : Int} {A : Nat → Prop} {w w1 : World} {bq p r : Nat} {M : Mt} {jv jr : Option Addr} (h : Bs n0 R A w bq p r M jv jr) (hb : Below w.heap.size w w1) : Bs n0 R (More A w w1) w1 bq p r M jv jr := by
  have h1 := h.below hb
  exact ⟨More.lt h.lt hb.size, fun b z => .inl (h.up b z), h.bq0, .inl h.own, h1.box, h.pr.widen hb, h1.js.up (fun b z => .inl z), h.kp, h.small⟩
theorem Bs.first {n0 : Nat} {R : Int} {A : Nat → Prop} {w : World} {bq p r : Nat} {M : Mt} {jv jr : Option Addr} (h : Bs n0 R A w bq p r M jv jr) :
    ∃ B : Nat → Prop, (∀ b, A b → B b) ∧ (∀ b, B b → b < w.heap.size) ∧ Live B w p M ∧ ∀ (w1 : World) (M1 : Mt), Live B w1 p M1 → Off (fun b => ¬ B b) w w1 → ∃ A' : Nat → Prop, (∀ b, A b → A' b) ∧ Ms n0 R A' w1 bq p r M1 M jv jr ∧ Off (fun b => ¬ A b) w w1 := by
  obtain ⟨B, hAB, hBlt, hLB, hcont⟩ := h.pr.tape h.lt
  refine ⟨B, hAB, hBlt, hLB, fun w1 M1 hL hO => ?_⟩
  obtain ⟨A1, a1, a2, -, hP⟩ := hcont w1 M1 B (fun _ z => z) hL (hO.mono (fun b _ z => .inr z))
  have hO' : Off (fun b => ¬ A b) w w1 := hO.mono (fun b _ z z1 => z (hAB b z1))
  exact ⟨A1, a1, ⟨fun b z => Nat.lt_of_lt_of_le (hBlt b (a2 b z)) hO.size, fun b z => a1 b (h.up b z), h.bq0, a1 _ h.own, h.box.at (hO'.2 _ h.box.lt (fun z => z h.own)), hP, (h.js.off hO' (fun b z z1 => absurd z1 z)).up a1, h.small⟩, hO'⟩
theorem Ms.second {n0 : Nat} {R : Int} {A : Nat → Prop} {w : World} {bq p r : Nat} {M N : Mt} {jv jr : Option Addr} (h : Ms n0 R A w bq p r M N jv jr) :
    ∃ C : Nat → Prop, (∀ b, A b → C b) ∧ (∀ b, C b → b < w.heap.size) ∧ RLive C w r N ∧ ∀ (w1 : World), Kp R M → RLive C w1 r M → Off (fun b => b = r) w w1 → ∃ A' : Nat → Prop, (∀ b, A b → A' b) ∧ Bs n0 R A' w1 bq p r M jv jr ∧ Off (fun b => ¬ A b) w w1 := by
  obtain ⟨C, hAC, hClt, hLC, hcont⟩ := h.pr.doc h.lt
  have hnr := h.pr.ne.2.1
  refine ⟨C, hAC, hClt, hLC, fun w1 hK hL hO => ?_⟩
  obtain ⟨A1, a1, a2, -, hP⟩ := hcont w1 M C (fun _ z => z) hL (hO.mono (fun b _ z => .inl z))
  have hO' : Off (fun b => ¬ A b) w w1 := hO.mono (fun b _ z z1 => hnr (by rw [← z]; exact z1))
  exact ⟨A1, a1, ⟨fun b z => Nat.lt_of_lt_of_le (hClt b (a2 b z)) hO.size, fun b z => a1 b (h.up b z), h.bq0, a1 _ h.own, h.box.at (hO'.2 _ h.box.lt (fun z => z h.own)), hP, (h.js.off hO' (fun b z z1 => absurd z1 z)).up a1, hK, h.small⟩, hO'⟩
/-- an act: kind, a record, records, a number, what to keep -/
structure Av where
  kind : Int
  rd : Rc
  ra : Option Addr
  rc : Nat
  rs : List Rc
  n : Int
  keep : Int
def Av.cells (y : Av) : List Value := [.int .i64 y.kind, .slice y.rd.a y.rd.zs.length y.rd.cap, .slice y.ra y.rs.length y.rc, .int .i64 y.n, .int .i64 y.keep]
/-- what an act points to lies below n0 -/
structure Av.ok (n0 : Nat) (w : World) (y : Av) : Prop where
  n : y.n ≤ 9223372036854775807
  row : RowAt w y.rd.a y.rd.zs
  rb : y.rd.zs = [] ∨ ∀ x, y.rd.a = some x → x.block < n0
  len : y.rs.length ≤ 100
  rows : RowOf Rc.cells w y.ra y.rs
  rsb : y.rs = [] ∨ ∀ x, y.ra = some x → x.block < n0
  each : ∀ x ∈ y.rs, RowAt w x.a x.zs ∧ (x.zs = [] ∨ ∀ ad, x.a = some ad → ad.block < n0)
theorem row_keep {w w' : World} {a : Option Addr} {zs : List Int} (h : RowAt w a zs) (hs : w.heap.size ≤ w'.heap.size) {P : Nat → Prop} (hb : zs = [] ∨ ∀ x, a = some x → P x.block) (hk : ∀ b, b < w.heap.size → P b → w'.heap[b]? = w.heap[b]?) : RowAt w' a zs := by
  refine ⟨h.1, h.2.1, ?_⟩
  rcases hb with hb | hb
  · exact .inl hb
  · rcases h.2.2 with z | ⟨bb, off, z, hbb, hr⟩
    · exact .inl z
    · exact .inr ⟨bb, off, z, Nat.lt_of_lt_of_le hbb hs, range_at hr (hk bb hbb (hb _ z))⟩
theorem Av.ok.below {n0 : Nat} {w w' : World} {y : Av} (h : y.ok n0 w) (hb : Below n0 w w') : y.ok n0 w' := by
  have hk : ∀ b, b < w.heap.size → b < n0 → w'.heap[b]? = w.heap[b]? := fun b _ z => hb.block b z
  refine ⟨h.n, row_keep h.row hb.size h.rb hk, h.rb, h.len, ?_, h.rsb, fun x hx => ⟨row_keep (h.each x hx).1 hb.size (h.each x hx).2 hk, (h.each x hx).2⟩⟩
  rcases h.rows with z | ⟨b, off, e1, e2, e3⟩
  · exact .inl z
  · rcases h.rsb with z | z
    · exact .inl z
    · exact .inr ⟨b, off, e1, Nat.lt_of_lt_of_le e2 hb.size, range_at e3 (hb.block b (z _ e1))⟩
theorem av_cells {w : World} {b : Nat} {y : Av} (h : w.rangeAt b 0 y.cells) : w.cell? ⟨b, 0, none⟩ = some (.int .i64 y.kind) ∧ w.cell? ⟨b, 1, none⟩ = some (.slice y.rd.a y.rd.zs.length y.rd.cap) ∧ w.cell? ⟨b, 2, none⟩ = some (.slice y.ra y.rs.length y.rc) ∧ w.cell? ⟨b, 3, none⟩ = some (.int .i64 y.n) ∧ w.cell? ⟨b, 4, none⟩ = some (.int .i64 y.keep) := by
  refine ⟨?_, ?_, ?_, ?_, ?_⟩
  · have := h 0 _ rfl; rwa [Nat.zero_add] at this
  · have := h 1 _ rfl; rwa [Nat.zero_add] at this
  · have := h 2 _ rfl; rwa [Nat.zero_add] at this
  · have := h 3 _ rfl; rwa [Nat.zero_add] at this
  · have := h 4 _ rfl; rwa [Nat.zero_add] at this
/-- the act in a box of its own: the pair beside it -/
structure Bx (n0 : Nat) (R : Int) (A : Nat → Prop) (w w1 : World) (bq p r X : Nat) (M : Mt) (jv jr : Option Addr) (y : Av) : Prop where
  b : Bs n0 R A w1 bq p r M jv jr
  a : A X
  ok : y.ok n0 w1
  bel : Below w.heap.size w w1
  y0 : w1.cell? ⟨X, 0, none⟩ = some (.int .i64 y.kind)
  y1 : w1.cell? ⟨X, 1, none⟩ = some (.slice y.rd.a y.rd.zs.length y.rd.cap)
  y2 : w1.cell? ⟨X, 2, none⟩ = some (.slice y.ra y.rs.length y.rc)
  y3 : w1.cell? ⟨X, 3, none⟩ = some (.int .i64 y.n)
  y4 : w1.cell? ⟨X, 4, none⟩ = some (.int .i64 y.keep)
  hn : n0 ≤ w.heap.size
theorem bx_new {n0 : Nat} {R : Int} {A : Nat → Prop} {w : World} {bq p r : Nat} {M : Mt} {jv jr : Option Addr} {y : Av} (h : Bs n0 R A w bq p r M jv jr) (hy : y.ok n0 w) :
    Bx n0 R (More A w (w.alloc (.cells y.cells.toArray 38))) w (w.alloc (.cells y.cells.toArray 38)) bq p r w.heap.size M jv jr y := by
  have hn : n0 ≤ w.heap.size := by have := h.bq0; have := h.box.lt; omega
  have hB1 : Below w.heap.size w (w.alloc (.cells y.cells.toArray 38)) := (Below.refl _ _).alloc (Nat.le_refl _) _
  have hR1 : (w.alloc (.cells y.cells.toArray 38)).rangeAt w.heap.size 0 y.cells := by simpa using range_new w y.cells.toArray 38
  obtain ⟨y0, y1, y2, y3, y4⟩ := av_cells hR1
  exact ⟨h.wide hB1, .inr ⟨Nat.le_refl _, by simp⟩, hy.below (hB1.mono hn), hB1, y0, y1, y2, y3, y4, hn⟩
end Go.Proofs.YtfkchnjbbbhmjaaGreat.Ty
namespace Go.Proofs.YtfkchnjbbbhmjaaGreat.Ty
open Go.RowKit
open Tal
set_option linter.unusedVariables false
set_option maxRecDepth 100000 in
set_option maxHeartbeats 8000000 in
theorem act_3 (n0 bq p r : Nat) (R : Int) (A : Nat → Prop) (M : Mt) (jv jr : Option Addr) (y : Av) (w : World) (h : Bs n0 R A w bq p r M jv jr) (hy : y.ok n0 w) (hk : y.kind = 3) :
    Calls Tryz.prog 9 #[.pointer (some ⟨bq, 0, none⟩), .agg y.cells.toArray] w fun e w' => e = .returned (.bool true) ∧ Below n0 w w' ∧ ∃ A' M' jv' jr', Bs n0 R A' w' bq p r M' jv' jr' := by
  have hx := bx_new h hy
  have hXb0 : ¬ (w.heap.size = bq) := by have := h.box.lt; omega
  obtain ⟨w1, hw1⟩ : ∃ w1, w.alloc (.cells y.cells.toArray 38) = w1 := ⟨_, rfl⟩
  rw [hw1] at hx
  generalize More A w w1 = A1 at hx
  have y0 := hx.y0
  rw [hk] at y0
  have HX := hide hx
  have hXl : w.heap.size < w1.heap.size := hx.b.lt _ hx.a
  have hbl := hx.b.box.lt
  have zp := hx.b.box.cell 0 rfl
  have zr := hx.b.box.cell 2 rfl
  obtain ⟨u, hu⟩ : ∃ u, Hid (y.cells = u) := ⟨_, hide rfl⟩
  rw [hu.out] at hw1 ⊢
  clear hu h hy hk
  have c := bopen_any n0 bq p r R A1 M jv jr w1 HX.out.b
  clear hx zp zr
  go_enter Tryz.func9, Tryz.ntmps9
  go_wp2_with fail
  try rw [hw1]
  refine c.mono ?_
  rintro e w2 ⟨rfl, hB2, -, hEx⟩
  clear c
  have HE := hide hEx
  clear hEx
  go_wp2
  go_ret
  exact ⟨rfl, (HX.out.bel.mono HX.out.hn).trans hB2, HE.out⟩
set_option maxRecDepth 100000 in
set_option maxHeartbeats 8000000 in
theorem act_4 (n0 bq p r : Nat) (R : Int) (A : Nat → Prop) (M : Mt) (jv jr : Option Addr) (y : Av) (w : World) (h : Bs n0 R A w bq p r M jv jr) (hy : y.ok n0 w) (hk : y.kind = 4) :
    Calls Tryz.prog 9 #[.pointer (some ⟨bq, 0, none⟩), .agg y.cells.toArray] w fun e w' => e = .returned (.bool true) ∧ Below n0 w w' ∧ ∃ A' M' jv' jr', Bs n0 R A' w' bq p r M' jv' jr' := by
  have hx := bx_new h hy
  have hXb0 : ¬ (w.heap.size = bq) := by have := h.box.lt; omega
  obtain ⟨w1, hw1⟩ : ∃ w1, w.alloc (.cells y.cells.toArray 38) = w1 := ⟨_, rfl⟩
  rw [hw1] at hx
  generalize More A w w1 = A1 at hx
  have y0 := hx.y0
  rw [hk] at y0
  have HX := hide hx
  have hXl : w.heap.size < w1.heap.size := hx.b.lt _ hx.a
  have hbl := hx.b.box.lt
  have zp := hx.b.box.cell 0 rfl
  have zr := hx.b.box.cell 2 rfl
  obtain ⟨u, hu⟩ : ∃ u, Hid (y.cells = u) := ⟨_, hide rfl⟩
  rw [hu.out] at hw1 ⊢
  clear hu h hy hk
  clear hx
  go_enter Tryz.func9, Tryz.ntmps9
  go_wp2_with fail
  try rw [hw1]
  obtain ⟨w8, hw8⟩ : ∃ w8, w1.drew = w8 := ⟨_, rfl⟩
  have B18 : Below w1.heap.size w1 w8 := by rw [← hw8]; exact (Below.refl _ _).drew
  have hn1 : n0 ≤ w1.heap.size := Nat.le_trans HX.out.hn HX.out.bel.size
  have hn8 : n0 ≤ w8.heap.size := Nat.le_trans hn1 B18.size
  have B08 : Below n0 w w8 := (HX.out.bel.mono HX.out.hn).trans (B18.mono hn1)
  obtain ⟨B, hAB, hBlt, hLB, hfirst⟩ := (HX.out.b.below B18).first
  have y1 := HX.out.y1
  have y2 := HX.out.y2
  have y3 := HX.out.y3
  have y4 := HX.out.y4
  have y8 := HX.out.ok.below ((B18.mono hn1))
  refine hs_begin (S := (fun W : World => W.heap[w.heap.size]? = w1.heap[w.heap.size]? ∧ W.cell? ⟨bq, 0, none⟩ = some (.pointer (some ⟨p, 0, none⟩)) ∧ W.cell? ⟨bq, 2, none⟩ = some (.pointer (some ⟨r, 0, none⟩)))) 20 rfl (by kernel_rfl) ?_
  rw [hw8]
  clear hw8
  have hS : (fun W : World => W.heap[w.heap.size]? = w1.heap[w.heap.size]? ∧ W.cell? ⟨bq, 0, none⟩ = some (.pointer (some ⟨p, 0, none⟩)) ∧ W.cell? ⟨bq, 2, none⟩ = some (.pointer (some ⟨r, 0, none⟩))) w8 := ⟨B18.block _ hXl, cell_at zp (B18.block _ hbl), cell_at zr (B18.block _ hbl)⟩
  refine hs_take (i := 0) (d := some 13) (v := ?_) rfl (by kernel_rfl) (by kernel_rfl) (by kernel_rfl) (by rfl) ?_ hS rfl ?_
  rotate_left
  · intro w' hw
    go_simp
    try with_reducible rfl
  simp only [Act.put, List.setIfInBounds_toArray, List.set_cons_zero, List.set_cons_succ]
  refine hs_take (i := 1) (d := some 14) (v := ?_) rfl (by kernel_rfl) (by kernel_rfl) (by kernel_rfl) (by rfl) ?_ hS rfl ?_
  rotate_left
  · intro w' hw
    go_simp
    try with_reducible rfl
  simp only [Act.put, List.setIfInBounds_toArray, List.set_cons_zero, List.set_cons_succ]
  refine hs_take (i := 2) (d := some 15) (v := ?_) rfl (by kernel_rfl) (by kernel_rfl) (by kernel_rfl) (by rfl) ?_ hS rfl ?_
  rotate_left
  · intro w' hw
    go_simp
    try with_reducible rfl
  simp only [Act.put, List.setIfInBounds_toArray, List.set_cons_zero, List.set_cons_succ]
  refine hs_take (i := 3) (d := some 16) (v := ?_) rfl (by kernel_rfl) (by kernel_rfl) (by kernel_rfl) (by rfl) ?_ hS rfl ?_
  rotate_left
  · intro w' hw
    have hc := hw.2.1
    go_simp
    try with_reducible rfl
  simp only [Act.put, List.setIfInBounds_toArray, List.set_cons_zero, List.set_cons_succ]
  refine hs_take (i := 4) (d := some 17) (v := ?_) rfl (by kernel_rfl) (by kernel_rfl) (by kernel_rfl) (by rfl) ?_ hS rfl ?_
  rotate_left
  · intro w' hw
    go_simp
    try with_reducible rfl
  simp only [Act.put, List.setIfInBounds_toArray, List.set_cons_zero, List.set_cons_succ]
  refine hs_take (i := 5) (d := some 18) (v := ?_) rfl (by kernel_rfl) (by kernel_rfl) (by kernel_rfl) (by rfl) ?_ hS rfl ?_
  rotate_left
  · intro w' hw
    have hc := cell_at y3 hw.1
    go_simp
    try with_reducible rfl
  simp only [Act.put, List.setIfInBounds_toArray, List.set_cons_zero, List.set_cons_succ]
  refine hs_take (i := 6) (d := some 19) (v := ?_) rfl (by kernel_rfl) (by kernel_rfl) (by kernel_rfl) (by rfl) ?_ hS rfl ?_
  rotate_left
  · intro w' hw
    go_simp
    try with_reducible rfl
  simp only [Act.put, List.setIfInBounds_toArray, List.set_cons_zero, List.set_cons_succ]
  refine hs_take (i := 7) (d := some 20) (v := ?_) rfl (by kernel_rfl) (by kernel_rfl) (by kernel_rfl) (by rfl) ?_ hS rfl ?_
  rotate_left
  · intro w' hw
    have hc := cell_at y4 hw.1
    go_simp
    try with_reducible rfl
  simp only [Act.put, List.setIfInBounds_toArray, List.set_cons_zero, List.set_cons_succ]
  refine hs_take (i := 9) (d := some 22) (v := ?_) rfl (by kernel_rfl) (by kernel_rfl) (by kernel_rfl) (by rfl) ?_ hS rfl ?_
  rotate_left
  · intro w' hw
    go_simp
    try with_reducible rfl
  simp only [Act.put, List.setIfInBounds_toArray, List.set_cons_zero, List.set_cons_succ]
  refine hs_take (i := 10) (d := some 23) (v := ?_) rfl (by kernel_rfl) (by kernel_rfl) (by kernel_rfl) (by rfl) ?_ hS rfl ?_
  rotate_left
  · intro w' hw
    go_simp
    try with_reducible rfl
  simp only [Act.put, List.setIfInBounds_toArray, List.set_cons_zero, List.set_cons_succ]
  refine hs_take (i := 11) (d := some 24) (v := ?_) rfl (by kernel_rfl) (by kernel_rfl) (by kernel_rfl) (by rfl) ?_ hS rfl ?_
  rotate_left
  · intro w' hw
    go_simp
    try with_reducible rfl
  simp only [Act.put, List.setIfInBounds_toArray, List.set_cons_zero, List.set_cons_succ]
  refine hs_take (i := 12) (d := some 25) (v := ?_) rfl (by kernel_rfl) (by kernel_rfl) (by kernel_rfl) (by rfl) ?_ hS rfl ?_
  rotate_left
  · intro w' hw
    have hc := hw.2.2
    go_simp
    try with_reducible rfl
  simp only [Act.put, List.setIfInBounds_toArray, List.set_cons_zero, List.set_cons_succ]
  refine hs_take (i := 13) (d := some 26) (v := ?_) rfl (by kernel_rfl) (by kernel_rfl) (by kernel_rfl) (by rfl) ?_ hS rfl ?_
  rotate_left
  · intro w' hw
    go_simp
    try with_reducible rfl
  simp only [Act.put, List.setIfInBounds_toArray, List.set_cons_zero, List.set_cons_succ]
  refine hs_take (i := 14) (d := some 27) (v := ?_) rfl (by kernel_rfl) (by kernel_rfl) (by kernel_rfl) (by rfl) ?_ hS rfl ?_
  rotate_left
  · intro w' hw
    have hc := cell_at y3 hw.1
    go_simp
    try with_reducible rfl
  simp only [Act.put, List.setIfInBounds_toArray, List.set_cons_zero, List.set_cons_succ]
  refine hs_take (i := 15) (d := some 28) (v := ?_) rfl (by kernel_rfl) (by kernel_rfl) (by kernel_rfl) (by rfl) ?_ hS rfl ?_
  rotate_left
  · intro w' hw
    go_simp
    try with_reducible rfl
  simp only [Act.put, List.setIfInBounds_toArray, List.set_cons_zero, List.set_cons_succ]
  refine hs_take (i := 16) (d := some 29) (v := ?_) rfl (by kernel_rfl) (by kernel_rfl) (by kernel_rfl) (by rfl) ?_ hS rfl ?_
  rotate_left
  · intro w' hw
    have hc := cell_at y4 hw.1
    go_simp
    try with_reducible rfl
  simp only [Act.put, List.setIfInBounds_toArray, List.set_cons_zero, List.set_cons_succ]
  refine hs_call (i := 8) (d := some 21) rfl (by kernel_rfl) (by rfl) (by go_simp; first | done | exact ⟨rfl, rfl⟩ | with_reducible rfl) rfl ?_
  refine (live_arm hLB hBlt y.n y.keep y8.n).mono ?_
  rintro e' wA ⟨rfl, hTA, hOA⟩
  obtain ⟨A2, hA2, hm2, hoff2⟩ := hfirst wA _ hTA hOA
  obtain ⟨C, hAC, hClt, hLC, hsec⟩ := hm2.second
  have hS : (fun W : World => W.heap[w.heap.size]? = w1.heap[w.heap.size]? ∧ W.cell? ⟨bq, 0, none⟩ = some (.pointer (some ⟨p, 0, none⟩)) ∧ W.cell? ⟨bq, 2, none⟩ = some (.pointer (some ⟨r, 0, none⟩))) wA := ⟨(hoff2.2 _ (Nat.lt_of_lt_of_le hXl B18.size) (fun z => z HX.out.a)).trans hS.1, hm2.box.cell 0 rfl, hm2.box.cell 2 rfl⟩
  have yA := y8.below (hoff2.below hn8 (fun b hb z => z (HX.out.b.up b hb)))
  refine ⟨_, rfl, hS, ?_⟩
  simp only [Act.put, List.setIfInBounds_toArray, List.set_cons_zero, List.set_cons_succ]
  refine hs_call (i := 17) (d := some 30) rfl (by kernel_rfl) (by rfl) (by go_simp; first | done | exact ⟨rfl, rfl⟩ | with_reducible rfl) rfl ?_
  refine (rl_arm hLC hClt y.n y.keep y8.n).mono ?_
  rintro e' wB ⟨rfl, hRB, hOB⟩
  obtain ⟨A3, hA3, hb3, hoff3⟩ := hsec wB (HX.out.b.kp.arm _ _) hRB hOB
  have hS : (fun W : World => W.heap[w.heap.size]? = w1.heap[w.heap.size]? ∧ W.cell? ⟨bq, 0, none⟩ = some (.pointer (some ⟨p, 0, none⟩)) ∧ W.cell? ⟨bq, 2, none⟩ = some (.pointer (some ⟨r, 0, none⟩))) wB := ⟨(hoff3.2 _ (hm2.lt _ (hA2 _ HX.out.a)) (fun z => z (hA2 _ HX.out.a))).trans hS.1, hb3.box.cell 0 rfl, hb3.box.cell 2 rfl⟩
  have BB : Below n0 w wB := (B08.trans (hoff2.below hn8 (fun b hb z => z (HX.out.b.up b hb)))).trans (hoff3.below (Nat.le_trans hn8 hoff2.size) (fun b hb z => z (hm2.up b hb)))
  refine ⟨_, rfl, hS, ?_⟩
  simp only [Act.put, List.setIfInBounds_toArray, List.set_cons_zero, List.set_cons_succ]
  refine hs_take (i := 18) (d := some 31) (v := .bool true) rfl (by kernel_rfl) (by kernel_rfl) (by kernel_rfl) (by rfl) (fun w' hw => by go_simp) hS rfl ?_
  simp only [Act.put, List.setIfInBounds_toArray, List.set_cons_zero, List.set_cons_succ]
  refine hs_take (i := 19) (d := some 4) (v := ?_) rfl (by kernel_rfl) (by kernel_rfl) (by kernel_rfl) (by rfl) ?_ hS rfl ?_
  rotate_left
  · intro w' hw
    go_simp
    try with_reducible rfl
  simp only [Act.put, List.setIfInBounds_toArray, List.set_cons_zero, List.set_cons_succ]
  refine hs_done (by kernel_rfl) ?_
  have HE : Hid (Below n0 w wB ∧ ∃ A' M' jv' jr', Bs n0 R A' wB bq p r M' jv' jr') := hide ⟨BB, A3, _, _, _, hb3⟩
  clear hS hb3 hm2 hsec hfirst hLC hLB
  go_wp2_with fail
  go_ret
  exact ⟨rfl, HE.out⟩
set_option maxRecDepth 100000 in
set_option maxHeartbeats 8000000 in
theorem act_6 (n0 bq p r : Nat) (R : Int) (A : Nat → Prop) (M : Mt) (jv jr : Option Addr) (y : Av) (w : World) (h : Bs n0 R A w bq p r M jv jr) (hy : y.ok n0 w) (hk : y.kind = 6) :
    Calls Tryz.prog 9 #[.pointer (some ⟨bq, 0, none⟩), .agg y.cells.toArray] w fun e w' => e = .returned (.bool true) ∧ Below n0 w w' ∧ ∃ A' M' jv' jr', Bs n0 R A' w' bq p r M' jv' jr' := by
  have hx := bx_new h hy
  have hXb0 : ¬ (w.heap.size = bq) := by have := h.box.lt; omega
  obtain ⟨w1, hw1⟩ : ∃ w1, w.alloc (.cells y.cells.toArray 38) = w1 := ⟨_, rfl⟩
  rw [hw1] at hx
  generalize More A w w1 = A1 at hx
  have y0 := hx.y0
  rw [hk] at y0
  have HX := hide hx
  have hXl : w.heap.size < w1.heap.size := hx.b.lt _ hx.a
  have hbl := hx.b.box.lt
  have zp := hx.b.box.cell 0 rfl
  have zr := hx.b.box.cell 2 rfl
  obtain ⟨u, hu⟩ : ∃ u, Hid (y.cells = u) := ⟨_, hide rfl⟩
  rw [hu.out] at hw1 ⊢
  clear hu h hy hk
  clear hx
  have hXb : ¬ (w.heap.size = bq) := hXb0
  go_enter Tryz.func9, Tryz.ntmps9
  go_wp2_with fail
  try rw [hw1]
  obtain ⟨w8, hw8⟩ : ∃ w8, w1.drew = w8 := ⟨_, rfl⟩
  have B18 : Below w1.heap.size w1 w8 := by rw [← hw8]; exact (Below.refl _ _).drew
  have hn1 : n0 ≤ w1.heap.size := Nat.le_trans HX.out.hn HX.out.bel.size
  have hn8 : n0 ≤ w8.heap.size := Nat.le_trans hn1 B18.size
  have B08 : Below n0 w w8 := (HX.out.bel.mono HX.out.hn).trans (B18.mono hn1)
  obtain ⟨B, hAB, hBlt, hLB, hfirst⟩ := (HX.out.b.below B18).first
  have y1 := HX.out.y1
  have y2 := HX.out.y2
  have y3 := HX.out.y3
  have y4 := HX.out.y4
  have y8 := HX.out.ok.below ((B18.mono hn1))
  refine hs_begin (S := (fun W : World => W.heap[w.heap.size]? = w1.heap[w.heap.size]? ∧ W.cell? ⟨bq, 0, none⟩ = some (.pointer (some ⟨p, 0, none⟩)) ∧ W.cell? ⟨bq, 2, none⟩ = some (.pointer (some ⟨r, 0, none⟩)))) 24 rfl (by kernel_rfl) ?_
  rw [hw8]
  clear hw8
  have hS : (fun W : World => W.heap[w.heap.size]? = w1.heap[w.heap.size]? ∧ W.cell? ⟨bq, 0, none⟩ = some (.pointer (some ⟨p, 0, none⟩)) ∧ W.cell? ⟨bq, 2, none⟩ = some (.pointer (some ⟨r, 0, none⟩))) w8 := ⟨B18.block _ hXl, cell_at zp (B18.block _ hbl), cell_at zr (B18.block _ hbl)⟩
  refine hs_take (i := 0) (d := some 64) (v := ?_) rfl (by kernel_rfl) (by kernel_rfl) (by kernel_rfl) (by rfl) ?_ hS rfl ?_
  rotate_left
  · intro w' hw
    go_simp
    try with_reducible rfl
  simp only [Act.put, List.setIfInBounds_toArray, List.set_cons_zero, List.set_cons_succ]
  refine hs_take (i := 1) (d := some 65) (v := ?_) rfl (by kernel_rfl) (by kernel_rfl) (by kernel_rfl) (by rfl) ?_ hS rfl ?_
  rotate_left
  · intro w' hw
    go_simp
    try with_reducible rfl
  simp only [Act.put, List.setIfInBounds_toArray, List.set_cons_zero, List.set_cons_succ]
  refine hs_take (i := 2) (d := some 66) (v := ?_) rfl (by kernel_rfl) (by kernel_rfl) (by kernel_rfl) (by rfl) ?_ hS rfl ?_
  rotate_left
  · intro w' hw
    go_simp
    try with_reducible rfl
  simp only [Act.put, List.setIfInBounds_toArray, List.set_cons_zero, List.set_cons_succ]
  refine hs_take (i := 3) (d := some 67) (v := ?_) rfl (by kernel_rfl) (by kernel_rfl) (by kernel_rfl) (by rfl) ?_ hS rfl ?_
  rotate_left
  · intro w' hw
    have hc := hw.2.1
    go_simp
    try with_reducible rfl
  simp only [Act.put, List.setIfInBounds_toArray, List.set_cons_zero, List.set_cons_succ]
  refine hs_take (i := 4) (d := some 68) (v := ?_) rfl (by kernel_rfl) (by kernel_rfl) (by kernel_rfl) (by rfl) ?_ hS rfl ?_
  rotate_left
  · intro w' hw
    go_simp
    try with_reducible rfl
  simp only [Act.put, List.setIfInBounds_toArray, List.set_cons_zero, List.set_cons_succ]
  refine hs_take (i := 5) (d := some 69) (v := ?_) rfl (by kernel_rfl) (by kernel_rfl) (by kernel_rfl) (by rfl) ?_ hS rfl ?_
  rotate_left
  · intro w' hw
    have hc := cell_at y3 hw.1
    go_simp
    try with_reducible rfl
  simp only [Act.put, List.setIfInBounds_toArray, List.set_cons_zero, List.set_cons_succ]
  refine hs_take (i := 6) (d := some 70) (v := ?_) rfl (by kernel_rfl) (by kernel_rfl) (by kernel_rfl) (by rfl) ?_ hS rfl ?_
  rotate_left
  · intro w' hw
    go_simp
    try with_reducible rfl
  simp only [Act.put, List.setIfInBounds_toArray, List.set_cons_zero, List.set_cons_succ]
  refine hs_take (i := 7) (d := some 71) (v := ?_) rfl (by kernel_rfl) (by kernel_rfl) (by kernel_rfl) (by rfl) ?_ hS rfl ?_
  rotate_left
  · intro w' hw
    have hc := cell_at y1 hw.1
    go_simp
    try with_reducible rfl
  simp only [Act.put, List.setIfInBounds_toArray, List.set_cons_zero, List.set_cons_succ]
  refine hs_take (i := 9) (d := some 73) (v := ?_) rfl (by kernel_rfl) (by kernel_rfl) (by kernel_rfl) (by rfl) ?_ hS rfl ?_
  rotate_left
  · intro w' hw
    go_simp
    try with_reducible rfl
  simp only [Act.put, List.setIfInBounds_toArray, List.set_cons_zero, List.set_cons_succ]
  refine hs_take (i := 10) (d := some 74) (v := ?_) rfl (by kernel_rfl) (by kernel_rfl) (by kernel_rfl) (by rfl) ?_ hS rfl ?_
  rotate_left
  · intro w' hw
    go_simp
    try with_reducible rfl
  simp only [Act.put, List.setIfInBounds_toArray, List.set_cons_zero, List.set_cons_succ]
  refine hs_take (i := 11) (d := some 75) (v := ?_) rfl (by kernel_rfl) (by kernel_rfl) (by kernel_rfl) (by rfl) ?_ hS rfl ?_
  rotate_left
  · intro w' hw
    go_simp
    try with_reducible rfl
  simp only [Act.put, List.setIfInBounds_toArray, List.set_cons_zero, List.set_cons_succ]
  refine hs_take (i := 12) (d := some 76) (v := ?_) rfl (by kernel_rfl) (by kernel_rfl) (by kernel_rfl) (by rfl) ?_ hS rfl ?_
  rotate_left
  · intro w' hw
    have hc := hw.2.2
    go_simp
    try with_reducible rfl
  simp only [Act.put, List.setIfInBounds_toArray, List.set_cons_zero, List.set_cons_succ]
  refine hs_take (i := 13) (d := some 77) (v := ?_) rfl (by kernel_rfl) (by kernel_rfl) (by kernel_rfl) (by rfl) ?_ hS rfl ?_
  rotate_left
  · intro w' hw
    go_simp
    try with_reducible rfl
  simp only [Act.put, List.setIfInBounds_toArray, List.set_cons_zero, List.set_cons_succ]
  refine hs_take (i := 14) (d := some 78) (v := ?_) rfl (by kernel_rfl) (by kernel_rfl) (by kernel_rfl) (by rfl) ?_ hS rfl ?_
  rotate_left
  · intro w' hw
    have hc := cell_at y3 hw.1
    go_simp
    try with_reducible rfl
  simp only [Act.put, List.setIfInBounds_toArray, List.set_cons_zero, List.set_cons_succ]
  refine hs_take (i := 15) (d := some 79) (v := ?_) rfl (by kernel_rfl) (by kernel_rfl) (by kernel_rfl) (by rfl) ?_ hS rfl ?_
  rotate_left
  · intro w' hw
    go_simp
    try with_reducible rfl
  simp only [Act.put, List.setIfInBounds_toArray, List.set_cons_zero, List.set_cons_succ]
  refine hs_take (i := 16) (d := some 80) (v := ?_) rfl (by kernel_rfl) (by kernel_rfl) (by kernel_rfl) (by rfl) ?_ hS rfl ?_
  rotate_left
  · intro w' hw
    have hc := cell_at y1 hw.1
    go_simp
    try with_reducible rfl
  simp only [Act.put, List.setIfInBounds_toArray, List.set_cons_zero, List.set_cons_succ]
  refine hs_call (i := 8) (d := some 72) rfl (by kernel_rfl) (by rfl) (by go_simp; first | done | exact ⟨rfl, rfl⟩ | with_reducible rfl) rfl ?_
  refine (live_append hLB hBlt y.n y.rd.a y.rd.cap y.rd.zs y8.row (y8.rb.imp id (fun z x e => hAB _ (HX.out.b.up _ (z x e))))).mono ?_
  rintro e' wA ⟨rfl, hTA, hOA⟩
  obtain ⟨A2, hA2, hm2, hoff2⟩ := hfirst wA _ hTA hOA
  obtain ⟨C, hAC, hClt, hLC, hsec⟩ := hm2.second
  have hS : (fun W : World => W.heap[w.heap.size]? = w1.heap[w.heap.size]? ∧ W.cell? ⟨bq, 0, none⟩ = some (.pointer (some ⟨p, 0, none⟩)) ∧ W.cell? ⟨bq, 2, none⟩ = some (.pointer (some ⟨r, 0, none⟩))) wA := ⟨(hoff2.2 _ (Nat.lt_of_lt_of_le hXl B18.size) (fun z => z HX.out.a)).trans hS.1, hm2.box.cell 0 rfl, hm2.box.cell 2 rfl⟩
  have yA := y8.below (hoff2.below hn8 (fun b hb z => z (HX.out.b.up b hb)))
  refine ⟨_, rfl, hS, ?_⟩
  simp only [Act.put, List.setIfInBounds_toArray, List.set_cons_zero, List.set_cons_succ]
  refine hs_call (i := 17) (d := some 81) rfl (by kernel_rfl) (by rfl) (by go_simp; first | done | exact ⟨rfl, rfl⟩ | with_reducible rfl) rfl ?_
  refine (rl_append hLC hClt y.n y.rd.a y.rd.cap y.rd.zs yA.row (yA.rb.imp id (fun z x e e2 => hm2.pr.ne.2.1 (by rw [← e2]; exact hm2.up _ (z x e))))).mono ?_
  rintro e' wB ⟨rfl, hRB, hOB⟩
  obtain ⟨A3, hA3, hb3, hoff3⟩ := hsec wB (HX.out.b.kp.append _ _) hRB hOB
  have hS : (fun W : World => W.heap[w.heap.size]? = w1.heap[w.heap.size]? ∧ W.cell? ⟨bq, 0, none⟩ = some (.pointer (some ⟨p, 0, none⟩)) ∧ W.cell? ⟨bq, 2, none⟩ = some (.pointer (some ⟨r, 0, none⟩))) wB := ⟨(hoff3.2 _ (hm2.lt _ (hA2 _ HX.out.a)) (fun z => z (hA2 _ HX.out.a))).trans hS.1, hb3.box.cell 0 rfl, hb3.box.cell 2 rfl⟩
  have BB : Below n0 w wB := (B08.trans (hoff2.below hn8 (fun b hb z => z (HX.out.b.up b hb)))).trans (hoff3.below (Nat.le_trans hn8 hoff2.size) (fun b hb z => z (hm2.up b hb)))
  refine ⟨_, rfl, hS, ?_⟩
  simp only [Act.put, List.setIfInBounds_toArray, List.set_cons_zero, List.set_cons_succ]
  refine hs_take (i := 18) (d := some 82) (v := .bool true) rfl (by kernel_rfl) (by kernel_rfl) (by kernel_rfl) (by rfl) (fun w' hw => by go_simp) hS rfl ?_
  simp only [Act.put, List.setIfInBounds_toArray, List.set_cons_zero, List.set_cons_succ]
  refine hs_take (i := 19) (d := some 83) (v := ?_) rfl (by kernel_rfl) (by kernel_rfl) (by kernel_rfl) (by rfl) ?_ hS rfl ?_
  rotate_left
  · intro w' hw
    go_simp
    try with_reducible rfl
  simp only [Act.put, List.setIfInBounds_toArray, List.set_cons_zero, List.set_cons_succ]
  refine hs_take (i := 20) (d := some 84) (v := ?_) rfl (by kernel_rfl) (by kernel_rfl) (by kernel_rfl) (by rfl) ?_ hS rfl ?_
  rotate_left
  · intro w' hw
    go_simp
    try with_reducible rfl
  simp only [Act.put, List.setIfInBounds_toArray, List.set_cons_zero, List.set_cons_succ]
  refine hs_call (i := 21) (d := some 85) rfl (by kernel_rfl) (by rfl) (by go_simp; first | done | exact ⟨rfl, rfl⟩ | with_reducible rfl) rfl ?_
  refine (bopen_any n0 bq p r R A3 _ jv jr wB hb3).mono ?_
  rintro e' wC ⟨rfl, hBC, hOC, A4, M4, jv4, jr4, hb4⟩
  have hS : (fun W : World => W.heap[w.heap.size]? = w1.heap[w.heap.size]? ∧ W.cell? ⟨bq, 0, none⟩ = some (.pointer (some ⟨p, 0, none⟩)) ∧ W.cell? ⟨bq, 2, none⟩ = some (.pointer (some ⟨r, 0, none⟩))) wC := ⟨(hOC.2 _ (hb3.lt _ (hA3 _ (hA2 _ HX.out.a))) (fun z => z.elim (by omega) (fun z => z (hA3 _ (hA2 _ HX.out.a))))).trans hS.1, hb4.box.cell 0 rfl, hb4.box.cell 2 rfl⟩
  have BC : Below n0 w wC := BB.trans hBC
  refine ⟨_, rfl, hS, ?_⟩
  simp only [Act.put, List.setIfInBounds_toArray, List.set_cons_zero, List.set_cons_succ]
  refine hs_take (i := 22) (d := some 86) (v := ?_) rfl (by kernel_rfl) (by kernel_rfl) (by kernel_rfl) (by rfl) ?_ hS rfl ?_
  rotate_left
  · intro w' hw
    go_simp
    try with_reducible rfl
  simp only [Act.put, List.setIfInBounds_toArray, List.set_cons_zero, List.set_cons_succ]
  refine hs_take (i := 23) (d := some 4) (v := ?_) rfl (by kernel_rfl) (by kernel_rfl) (by kernel_rfl) (by rfl) ?_ hS rfl ?_
  rotate_left
  · intro w' hw
    go_simp
    try with_reducible rfl
  simp only [Act.put, List.setIfInBounds_toArray, List.set_cons_zero, List.set_cons_succ]
  refine hs_done (by kernel_rfl) ?_
  have HE : Hid (Below n0 w wC ∧ ∃ A' M' jv' jr', Bs n0 R A' wC bq p r M' jv' jr') := hide ⟨BC, A4, _, _, _, hb4⟩
  clear hS hb4 hb3 hm2 hsec hfirst hLC hLB
  go_wp2_with fail
  go_ret
  exact ⟨rfl, HE.out⟩
set_option maxRecDepth 100000 in
set_option maxHeartbeats 8000000 in
theorem act_7 (n0 bq p r : Nat) (R : Int) (A : Nat → Prop) (M : Mt) (jv jr : Option Addr) (y : Av) (w : World) (h : Bs n0 R A w bq p r M jv jr) (hy : y.ok n0 w) (hk : y.kind = 7) :
    Calls Tryz.prog 9 #[.pointer (some ⟨bq, 0, none⟩), .agg y.cells.toArray] w fun e w' => e = .returned (.bool true) ∧ Below n0 w w' ∧ ∃ A' M' jv' jr', Bs n0 R A' w' bq p r M' jv' jr' := by
  have hx := bx_new h hy
  have hXb0 : ¬ (w.heap.size = bq) := by have := h.box.lt; omega
  obtain ⟨w1, hw1⟩ : ∃ w1, w.alloc (.cells y.cells.toArray 38) = w1 := ⟨_, rfl⟩
  rw [hw1] at hx
  generalize More A w w1 = A1 at hx
  have y0 := hx.y0
  rw [hk] at y0
  have HX := hide hx
  have hXl : w.heap.size < w1.heap.size := hx.b.lt _ hx.a
  have hbl := hx.b.box.lt
  have zp := hx.b.box.cell 0 rfl
  have zr := hx.b.box.cell 2 rfl
  obtain ⟨u, hu⟩ : ∃ u, Hid (y.cells = u) := ⟨_, hide rfl⟩
  rw [hu.out] at hw1 ⊢
  clear hu h hy hk
  clear hx
  have hXb : ¬ (w.heap.size = bq) := hXb0
  go_enter Tryz.func9, Tryz.ntmps9
  go_wp2_with fail
  try rw [hw1]
  obtain ⟨w8, hw8⟩ : ∃ w8, w1.drew = w8 := ⟨_, rfl⟩
  have B18 : Below w1.heap.size w1 w8 := by rw [← hw8]; exact (Below.refl _ _).drew
  have hn1 : n0 ≤ w1.heap.size := Nat.le_trans HX.out.hn HX.out.bel.size
  have hn8 : n0 ≤ w8.heap.size := Nat.le_trans hn1 B18.size
  have B08 : Below n0 w w8 := (HX.out.bel.mono HX.out.hn).trans (B18.mono hn1)
  obtain ⟨B, hAB, hBlt, hLB, hfirst⟩ := (HX.out.b.below B18).first
  have y1 := HX.out.y1
  have y2 := HX.out.y2
  have y3 := HX.out.y3
  have y4 := HX.out.y4
  have y8 := HX.out.ok.below ((B18.mono hn1))
  refine hs_begin (S := (fun W : World => W.heap[w.heap.size]? = w1.heap[w.heap.size]? ∧ W.cell? ⟨bq, 0, none⟩ = some (.pointer (some ⟨p, 0, none⟩)) ∧ W.cell? ⟨bq, 2, none⟩ = some (.pointer (some ⟨r, 0, none⟩)))) 20 rfl (by kernel_rfl) ?_
  rw [hw8]
  clear hw8
  have hS : (fun W : World => W.heap[w.heap.size]? = w1.heap[w.heap.size]? ∧ W.cell? ⟨bq, 0, none⟩ = some (.pointer (some ⟨p, 0, none⟩)) ∧ W.cell? ⟨bq, 2, none⟩ = some (.pointer (some ⟨r, 0, none⟩))) w8 := ⟨B18.block _ hXl, cell_at zp (B18.block _ hbl), cell_at zr (B18.block _ hbl)⟩
  refine hs_take (i := 0) (d := some 89) (v := ?_) rfl (by kernel_rfl) (by kernel_rfl) (by kernel_rfl) (by rfl) ?_ hS rfl ?_
  rotate_left
  · intro w' hw
    go_simp
    try with_reducible rfl
  simp only [Act.put, List.setIfInBounds_toArray, List.set_cons_zero, List.set_cons_succ]
  refine hs_take (i := 1) (d := some 90) (v := ?_) rfl (by kernel_rfl) (by kernel_rfl) (by kernel_rfl) (by rfl) ?_ hS rfl ?_
  rotate_left
  · intro w' hw
    go_simp
    try with_reducible rfl
  simp only [Act.put, List.setIfInBounds_toArray, List.set_cons_zero, List.set_cons_succ]
  refine hs_take (i := 2) (d := some 91) (v := ?_) rfl (by kernel_rfl) (by kernel_rfl) (by kernel_rfl) (by rfl) ?_ hS rfl ?_
  rotate_left
  · intro w' hw
    go_simp
    try with_reducible rfl
  simp only [Act.put, List.setIfInBounds_toArray, List.set_cons_zero, List.set_cons_succ]
  refine hs_take (i := 3) (d := some 92) (v := ?_) rfl (by kernel_rfl) (by kernel_rfl) (by kernel_rfl) (by rfl) ?_ hS rfl ?_
  rotate_left
  · intro w' hw
    have hc := hw.2.1
    go_simp
    try with_reducible rfl
  simp only [Act.put, List.setIfInBounds_toArray, List.set_cons_zero, List.set_cons_succ]
  refine hs_take (i := 4) (d := some 93) (v := ?_) rfl (by kernel_rfl) (by kernel_rfl) (by kernel_rfl) (by rfl) ?_ hS rfl ?_
  rotate_left
  · intro w' hw
    go_simp
    try with_reducible rfl
  simp only [Act.put, List.setIfInBounds_toArray, List.set_cons_zero, List.set_cons_succ]
  refine hs_take (i := 5) (d := some 94) (v := ?_) rfl (by kernel_rfl) (by kernel_rfl) (by kernel_rfl) (by rfl) ?_ hS rfl ?_
  rotate_left
  · intro w' hw
    have hc := cell_at y3 hw.1
    go_simp
    try with_reducible rfl
  simp only [Act.put, List.setIfInBounds_toArray, List.set_cons_zero, List.set_cons_succ]
  refine hs_take (i := 7) (d := some 96) (v := ?_) rfl (by kernel_rfl) (by kernel_rfl) (by kernel_rfl) (by rfl) ?_ hS rfl ?_
  rotate_left
  · intro w' hw
    go_simp
    try with_reducible rfl
  simp only [Act.put, List.setIfInBounds_toArray, List.set_cons_zero, List.set_cons_succ]
  refine hs_take (i := 8) (d := some 97) (v := ?_) rfl (by kernel_rfl) (by kernel_rfl) (by kernel_rfl) (by rfl) ?_ hS rfl ?_
  rotate_left
  · intro w' hw
    go_simp
    try with_reducible rfl
  simp only [Act.put, List.setIfInBounds_toArray, List.set_cons_zero, List.set_cons_succ]
  refine hs_take (i := 9) (d := some 98) (v := ?_) rfl (by kernel_rfl) (by kernel_rfl) (by kernel_rfl) (by rfl) ?_ hS rfl ?_
  rotate_left
  · intro w' hw
    go_simp
    try with_reducible rfl
  simp only [Act.put, List.setIfInBounds_toArray, List.set_cons_zero, List.set_cons_succ]
  refine hs_take (i := 10) (d := some 99) (v := ?_) rfl (by kernel_rfl) (by kernel_rfl) (by kernel_rfl) (by rfl) ?_ hS rfl ?_
  rotate_left
  · intro w' hw
    have hc := hw.2.2
    go_simp
    try with_reducible rfl
  simp only [Act.put, List.setIfInBounds_toArray, List.set_cons_zero, List.set_cons_succ]
  refine hs_take (i := 11) (d := some 100) (v := ?_) rfl (by kernel_rfl) (by kernel_rfl) (by kernel_rfl) (by rfl) ?_ hS rfl ?_
  rotate_left
  · intro w' hw
    go_simp
    try with_reducible rfl
  simp only [Act.put, List.setIfInBounds_toArray, List.set_cons_zero, List.set_cons_succ]
  refine hs_take (i := 12) (d := some 101) (v := ?_) rfl (by kernel_rfl) (by kernel_rfl) (by kernel_rfl) (by rfl) ?_ hS rfl ?_
  rotate_left
  · intro w' hw
    have hc := cell_at y3 hw.1
    go_simp
    try with_reducible rfl
  simp only [Act.put, List.setIfInBounds_toArray, List.set_cons_zero, List.set_cons_succ]
  refine hs_call (i := 6) (d := some 95) rfl (by kernel_rfl) (by rfl) (by go_simp; first | done | exact ⟨rfl, rfl⟩ | with_reducible rfl) rfl ?_
  refine (live_clear hLB hBlt y.n).mono ?_
  rintro e' wA ⟨rfl, hTA, hOA⟩
  obtain ⟨A2, hA2, hm2, hoff2⟩ := hfirst wA _ hTA hOA
  obtain ⟨C, hAC, hClt, hLC, hsec⟩ := hm2.second
  have hS : (fun W : World => W.heap[w.heap.size]? = w1.heap[w.heap.size]? ∧ W.cell? ⟨bq, 0, none⟩ = some (.pointer (some ⟨p, 0, none⟩)) ∧ W.cell? ⟨bq, 2, none⟩ = some (.pointer (some ⟨r, 0, none⟩))) wA := ⟨(hoff2.2 _ (Nat.lt_of_lt_of_le hXl B18.size) (fun z => z HX.out.a)).trans hS.1, hm2.box.cell 0 rfl, hm2.box.cell 2 rfl⟩
  have yA := y8.below (hoff2.below hn8 (fun b hb z => z (HX.out.b.up b hb)))
  refine ⟨_, rfl, hS, ?_⟩
  simp only [Act.put, List.setIfInBounds_toArray, List.set_cons_zero, List.set_cons_succ]
  refine hs_call (i := 13) (d := some 102) rfl (by kernel_rfl) (by rfl) (by go_simp; first | done | exact ⟨rfl, rfl⟩ | with_reducible rfl) rfl ?_
  refine (rl_clear hLC hClt y.n).mono ?_
  rintro e' wB ⟨rfl, hRB, hOB⟩
  obtain ⟨A3, hA3, hb3, hoff3⟩ := hsec wB (HX.out.b.kp.empty _) hRB hOB
  have hS : (fun W : World => W.heap[w.heap.size]? = w1.heap[w.heap.size]? ∧ W.cell? ⟨bq, 0, none⟩ = some (.pointer (some ⟨p, 0, none⟩)) ∧ W.cell? ⟨bq, 2, none⟩ = some (.pointer (some ⟨r, 0, none⟩))) wB := ⟨(hoff3.2 _ (hm2.lt _ (hA2 _ HX.out.a)) (fun z => z (hA2 _ HX.out.a))).trans hS.1, hb3.box.cell 0 rfl, hb3.box.cell 2 rfl⟩
  have BB : Below n0 w wB := (B08.trans (hoff2.below hn8 (fun b hb z => z (HX.out.b.up b hb)))).trans (hoff3.below (Nat.le_trans hn8 hoff2.size) (fun b hb z => z (hm2.up b hb)))
  refine ⟨_, rfl, hS, ?_⟩
  simp only [Act.put, List.setIfInBounds_toArray, List.set_cons_zero, List.set_cons_succ]
  refine hs_take (i := 14) (d := some 103) (v := .bool true) rfl (by kernel_rfl) (by kernel_rfl) (by kernel_rfl) (by rfl) (fun w' hw => by go_simp) hS rfl ?_
  simp only [Act.put, List.setIfInBounds_toArray, List.set_cons_zero, List.set_cons_succ]
  refine hs_take (i := 15) (d := some 104) (v := ?_) rfl (by kernel_rfl) (by kernel_rfl) (by kernel_rfl) (by rfl) ?_ hS rfl ?_
  rotate_left
  · intro w' hw
    go_simp
    try with_reducible rfl
  simp only [Act.put, List.setIfInBounds_toArray, List.set_cons_zero, List.set_cons_succ]
  refine hs_take (i := 16) (d := some 105) (v := ?_) rfl (by kernel_rfl) (by kernel_rfl) (by kernel_rfl) (by rfl) ?_ hS rfl ?_
  rotate_left
  · intro w' hw
    go_simp
    try with_reducible rfl
  simp only [Act.put, List.setIfInBounds_toArray, List.set_cons_zero, List.set_cons_succ]
  refine hs_call (i := 17) (d := some 106) rfl (by kernel_rfl) (by rfl) (by go_simp; first | done | exact ⟨rfl, rfl⟩ | with_reducible rfl) rfl ?_
  refine (bopen_any n0 bq p r R A3 _ jv jr wB hb3).mono ?_
  rintro e' wC ⟨rfl, hBC, hOC, A4, M4, jv4, jr4, hb4⟩
  have hS : (fun W : World => W.heap[w.heap.size]? = w1.heap[w.heap.size]? ∧ W.cell? ⟨bq, 0, none⟩ = some (.pointer (some ⟨p, 0, none⟩)) ∧ W.cell? ⟨bq, 2, none⟩ = some (.pointer (some ⟨r, 0, none⟩))) wC := ⟨(hOC.2 _ (hb3.lt _ (hA3 _ (hA2 _ HX.out.a))) (fun z => z.elim (by omega) (fun z => z (hA3 _ (hA2 _ HX.out.a))))).trans hS.1, hb4.box.cell 0 rfl, hb4.box.cell 2 rfl⟩
  have BC : Below n0 w wC := BB.trans hBC
  refine ⟨_, rfl, hS, ?_⟩
  simp only [Act.put, List.setIfInBounds_toArray, List.set_cons_zero, List.set_cons_succ]
  refine hs_take (i := 18) (d := some 107) (v := ?_) rfl (by kernel_rfl) (by kernel_rfl) (by kernel_rfl) (by rfl) ?_ hS rfl ?_
  rotate_left
  · intro w' hw
    go_simp
    try with_reducible rfl
  simp only [Act.put, List.setIfInBounds_toArray, List.set_cons_zero, List.set_cons_succ]
  refine hs_take (i := 19) (d := some 4) (v := ?_) rfl (by kernel_rfl) (by kernel_rfl) (by kernel_rfl) (by rfl) ?_ hS rfl ?_
  rotate_left
  · intro w' hw
    go_simp
    try with_reducible rfl
  simp only [Act.put, List.setIfInBounds_toArray, List.set_cons_zero, List.set_cons_succ]
  refine hs_done (by kernel_rfl) ?_
  have HE : Hid (Below n0 w wC ∧ ∃ A' M' jv' jr', Bs n0 R A' wC bq p r M' jv' jr') := hide ⟨BC, A4, _, _, _, hb4⟩
  clear hS hb4 hb3 hm2 hsec hfirst hLC hLB
  go_wp2_with fail
  go_ret
  exact ⟨rfl, HE.out⟩
end Go.Proofs.YtfkchnjbbbhmjaaGreat.Ty
namespace Go.Proofs.YtfkchnjbbbhmjaaGreat.Ty
open Go.RowKit
open Tal
set_option linter.unusedVariables false
theorem rl_dark {C : Nat → Prop} {w : World} {r : Nat} {N : Mt} (h : RLive C w r N) (hC : ∀ b, C b → b < w.heap.size) : RLive C (w.setCell ⟨r, 5, none⟩ (.bool false)) r { N with on := true } ∧ Off (fun b => b = r) w (w.setCell ⟨r, 5, none⟩ (.bool false)) ∧ w.frozen? ⟨r, 5, none⟩ = false ∧ w.cell? ⟨r, 5, none⟩ = some (.bool (!N.on)) := by
  have k5 := h.dark
  obtain ⟨t, rfl, h1, hk⟩ := h
  have hRT : RTurned w (w.setCell ⟨t.r, 5, none⟩ (.bool false)) t { N with on := true } := RTurned.of_cells (t := t) (t' := t) (Below.refl _ _) ((CellsR.start h1).set 5 _) rfl h1.ra h1.rb (fun x hx => .inl (.inr (.inl ⟨x, hx, rfl⟩))) (fun x hx => .inl (.inr (.inr ⟨x, hx, rfl⟩))) h1.px h1.ok.power
  have f5 := h1.fz 5 (by omega)
  exact ⟨(RLive.turn hk hC hRT).1, (RLive.turn hk hC hRT).2, f5, k5⟩
set_option maxRecDepth 100000 in
set_option maxHeartbeats 8000000 in
theorem act_5 (n0 bq p r : Nat) (R : Int) (A : Nat → Prop) (M : Mt) (jv jr : Option Addr) (y : Av) (w : World) (h : Bs n0 R A w bq p r M jv jr) (hy : y.ok n0 w) (hk : y.kind = 5) :
    Calls Tryz.prog 9 #[.pointer (some ⟨bq, 0, none⟩), .agg y.cells.toArray] w fun e w' => e = .returned (.bool true) ∧ Below n0 w w' ∧ ∃ A' M' jv' jr', Bs n0 R A' w' bq p r M' jv' jr' := by
  have hx := bx_new h hy
  have hXb0 : ¬ (w.heap.size = bq) := by have := h.box.lt; omega
  obtain ⟨w1, hw1⟩ : ∃ w1, w.alloc (.cells y.cells.toArray 38) = w1 := ⟨_, rfl⟩
  rw [hw1] at hx
  generalize More A w w1 = A1 at hx
  have y0 := hx.y0
  rw [hk] at y0
  have HX := hide hx
  have hXl : w.heap.size < w1.heap.size := hx.b.lt _ hx.a
  have hbl := hx.b.box.lt
  have zp := hx.b.box.cell 0 rfl
  have zr := hx.b.box.cell 2 rfl
  obtain ⟨u, hu⟩ : ∃ u, Hid (y.cells = u) := ⟨_, hide rfl⟩
  rw [hu.out] at hw1 ⊢
  clear hu h hy hk
  clear hx
  go_enter Tryz.func9, Tryz.ntmps9
  go_wp2_with fail
  try rw [hw1]
  obtain ⟨w8, hw8⟩ : ∃ w8, w1.drew = w8 := ⟨_, rfl⟩
  have B18 : Below w1.heap.size w1 w8 := by rw [← hw8]; exact (Below.refl _ _).drew
  have hn1 : n0 ≤ w1.heap.size := Nat.le_trans HX.out.hn HX.out.bel.size
  have hn8 : n0 ≤ w8.heap.size := Nat.le_trans hn1 B18.size
  have B08 : Below n0 w w8 := (HX.out.bel.mono HX.out.hn).trans (B18.mono hn1)
  obtain ⟨B, hAB, hBlt, hLB, hfirst⟩ := (HX.out.b.below B18).first
  have y1 := HX.out.y1
  have y2 := HX.out.y2
  have y3 := HX.out.y3
  have y4 := HX.out.y4
  have y8 := HX.out.ok.below ((B18.mono hn1))
  refine hs_begin (S := (fun W : World => W.heap[w.heap.size]? = w1.heap[w.heap.size]? ∧ W.cell? ⟨bq, 0, none⟩ = some (.pointer (some ⟨p, 0, none⟩)) ∧ W.cell? ⟨bq, 2, none⟩ = some (.pointer (some ⟨r, 0, none⟩)))) 15 rfl (by kernel_rfl) ?_
  rw [hw8]
  clear hw8
  have hS : (fun W : World => W.heap[w.heap.size]? = w1.heap[w.heap.size]? ∧ W.cell? ⟨bq, 0, none⟩ = some (.pointer (some ⟨p, 0, none⟩)) ∧ W.cell? ⟨bq, 2, none⟩ = some (.pointer (some ⟨r, 0, none⟩))) w8 := ⟨B18.block _ hXl, cell_at zp (B18.block _ hbl), cell_at zr (B18.block _ hbl)⟩
  refine hs_take (i := 0) (d := some 34) (v := ?_) rfl (by kernel_rfl) (by kernel_rfl) (by kernel_rfl) (by rfl) ?_ hS rfl ?_
  rotate_left
  · intro w' hw
    go_simp
    try with_reducible rfl
  simp only [Act.put, List.setIfInBounds_toArray, List.set_cons_zero, List.set_cons_succ]
  refine hs_take (i := 1) (d := some 35) (v := ?_) rfl (by kernel_rfl) (by kernel_rfl) (by kernel_rfl) (by rfl) ?_ hS rfl ?_
  rotate_left
  · intro w' hw
    go_simp
    try with_reducible rfl
  simp only [Act.put, List.setIfInBounds_toArray, List.set_cons_zero, List.set_cons_succ]
  refine hs_take (i := 2) (d := some 36) (v := ?_) rfl (by kernel_rfl) (by kernel_rfl) (by kernel_rfl) (by rfl) ?_ hS rfl ?_
  rotate_left
  · intro w' hw
    go_simp
    try with_reducible rfl
  simp only [Act.put, List.setIfInBounds_toArray, List.set_cons_zero, List.set_cons_succ]
  refine hs_take (i := 3) (d := some 37) (v := ?_) rfl (by kernel_rfl) (by kernel_rfl) (by kernel_rfl) (by rfl) ?_ hS rfl ?_
  rotate_left
  · intro w' hw
    have hc := hw.2.1
    go_simp
    try with_reducible rfl
  simp only [Act.put, List.setIfInBounds_toArray, List.set_cons_zero, List.set_cons_succ]
  refine hs_take (i := 4) (d := some 38) (v := ?_) rfl (by kernel_rfl) (by kernel_rfl) (by kernel_rfl) (by rfl) ?_ hS rfl ?_
  rotate_left
  · intro w' hw
    go_simp
    try with_reducible rfl
  simp only [Act.put, List.setIfInBounds_toArray, List.set_cons_zero, List.set_cons_succ]
  refine hs_take (i := 5) (d := some 39) (v := ?_) rfl (by kernel_rfl) (by kernel_rfl) (by kernel_rfl) (by rfl) ?_ hS rfl ?_
  rotate_left
  · intro w' hw
    have hc := cell_at y4 hw.1
    go_simp
    try with_reducible rfl
  simp only [Act.put, List.setIfInBounds_toArray, List.set_cons_zero, List.set_cons_succ]
  refine hs_take (i := 7) (d := some 41) (v := ?_) rfl (by kernel_rfl) (by kernel_rfl) (by kernel_rfl) (by rfl) ?_ hS rfl ?_
  rotate_left
  · intro w' hw
    go_simp
    try with_reducible rfl
  simp only [Act.put, List.setIfInBounds_toArray, List.set_cons_zero, List.set_cons_succ]
  refine hs_take (i := 8) (d := some 42) (v := ?_) rfl (by kernel_rfl) (by kernel_rfl) (by kernel_rfl) (by rfl) ?_ hS rfl ?_
  rotate_left
  · intro w' hw
    go_simp
    try with_reducible rfl
  simp only [Act.put, List.setIfInBounds_toArray, List.set_cons_zero, List.set_cons_succ]
  refine hs_take (i := 9) (d := some 43) (v := ?_) rfl (by kernel_rfl) (by kernel_rfl) (by kernel_rfl) (by rfl) ?_ hS rfl ?_
  rotate_left
  · intro w' hw
    go_simp
    try with_reducible rfl
  simp only [Act.put, List.setIfInBounds_toArray, List.set_cons_zero, List.set_cons_succ]
  refine hs_take (i := 10) (d := some 44) (v := ?_) rfl (by kernel_rfl) (by kernel_rfl) (by kernel_rfl) (by rfl) ?_ hS rfl ?_
  rotate_left
  · intro w' hw
    have hc := hw.2.2
    go_simp
    try with_reducible rfl
  simp only [Act.put, List.setIfInBounds_toArray, List.set_cons_zero, List.set_cons_succ]
  refine hs_take (i := 11) (d := some 45) (v := ?_) rfl (by kernel_rfl) (by kernel_rfl) (by kernel_rfl) (by rfl) ?_ hS rfl ?_
  rotate_left
  · intro w' hw
    go_simp
    try with_reducible rfl
  simp only [Act.put, List.setIfInBounds_toArray, List.set_cons_zero, List.set_cons_succ]
  refine hs_take (i := 12) (d := some 46) (v := ?_) rfl (by kernel_rfl) (by kernel_rfl) (by kernel_rfl) (by rfl) ?_ hS rfl ?_
  rotate_left
  · intro w' hw
    have hc := cell_at y4 hw.1
    go_simp
    try with_reducible rfl
  simp only [Act.put, List.setIfInBounds_toArray, List.set_cons_zero, List.set_cons_succ]
  refine hs_call (i := 6) (d := some 40) rfl (by kernel_rfl) (by rfl) (by go_simp; first | done | exact ⟨rfl, rfl⟩ | with_reducible rfl) rfl ?_
  refine (live_fail hLB hBlt y.keep).mono ?_
  rintro e' wA ⟨rfl, hTA, hOA⟩
  obtain ⟨A2, hA2, hm2, hoff2⟩ := hfirst wA _ hTA hOA
  obtain ⟨C, hAC, hClt, hLC, hsec⟩ := hm2.second
  have hS : (fun W : World => W.heap[w.heap.size]? = w1.heap[w.heap.size]? ∧ W.cell? ⟨bq, 0, none⟩ = some (.pointer (some ⟨p, 0, none⟩)) ∧ W.cell? ⟨bq, 2, none⟩ = some (.pointer (some ⟨r, 0, none⟩))) wA := ⟨(hoff2.2 _ (Nat.lt_of_lt_of_le hXl B18.size) (fun z => z HX.out.a)).trans hS.1, hm2.box.cell 0 rfl, hm2.box.cell 2 rfl⟩
  have yA := y8.below (hoff2.below hn8 (fun b hb z => z (HX.out.b.up b hb)))
  refine ⟨_, rfl, hS, ?_⟩
  simp only [Act.put, List.setIfInBounds_toArray, List.set_cons_zero, List.set_cons_succ]
  refine hs_call (i := 13) (d := some 47) rfl (by kernel_rfl) (by rfl) (by go_simp; first | done | exact ⟨rfl, rfl⟩ | with_reducible rfl) rfl ?_
  refine (rl_fail hLC hClt y.keep).mono ?_
  rintro e' wB ⟨rfl, hRB, hOB⟩
  obtain ⟨A3, hA3, hb3, hoff3⟩ := hsec wB (HX.out.b.kp.fail _) hRB hOB
  have hS : (fun W : World => W.heap[w.heap.size]? = w1.heap[w.heap.size]? ∧ W.cell? ⟨bq, 0, none⟩ = some (.pointer (some ⟨p, 0, none⟩)) ∧ W.cell? ⟨bq, 2, none⟩ = some (.pointer (some ⟨r, 0, none⟩))) wB := ⟨(hoff3.2 _ (hm2.lt _ (hA2 _ HX.out.a)) (fun z => z (hA2 _ HX.out.a))).trans hS.1, hb3.box.cell 0 rfl, hb3.box.cell 2 rfl⟩
  have BB : Below n0 w wB := (B08.trans (hoff2.below hn8 (fun b hb z => z (HX.out.b.up b hb)))).trans (hoff3.below (Nat.le_trans hn8 hoff2.size) (fun b hb z => z (hm2.up b hb)))
  refine ⟨_, rfl, hS, ?_⟩
  simp only [Act.put, List.setIfInBounds_toArray, List.set_cons_zero, List.set_cons_succ]
  refine hs_take (i := 14) (d := some 48) (v := .bool false) rfl (by kernel_rfl) (by kernel_rfl) (by kernel_rfl) (by rfl) (fun w' hw => by go_simp) hS rfl ?_
  simp only [Act.put, List.setIfInBounds_toArray, List.set_cons_zero, List.set_cons_succ]
  refine hs_done (by kernel_rfl) ?_
  have kpB := hb3.kp
  generalize (M.fail y.keep).2 = MB at *
  have zpB := hb3.box.cell 0 rfl
  obtain ⟨B5, hAB5, hBlt5, hLB5, hfirst5⟩ := hb3.first
  have cP := live_power hLB5 hBlt5
  have HB := hide hb3
  have nB : n0 ≤ wB.heap.size := by have := hb3.bq0; have := hb3.box.lt; omega
  clear hS hb3 hm2 hsec hfirst hLC hLB hLB5 y1 y2 y3 y4 y8 yA
  go_wp2_with fail
  refine cP.mono ?_
  rintro e wC ⟨rfl, hTC, hOC⟩
  clear cP
  obtain ⟨A5, hA5, hm5, hoff5⟩ := hfirst5 wC _ hTC hOC
  obtain ⟨C5, hAC5, hClt5, hLC5, hsec5⟩ := hm5.second
  obtain ⟨hD1, hD2, f5, k5⟩ := rl_dark hLC5 hClt5
  have zrC := hm5.box.cell 2 rfl
  obtain ⟨A6, hA6, hb6, hoff6⟩ := hsec5 _ kpB.power hD1 hD2
  have cO := bopen_any n0 bq p r R A6 _ jv jr _ hb6
  have BD : Below n0 w (wC.setCell ⟨r, 5, none⟩ (.bool false)) := (BB.trans (hoff5.below nB (fun b hb z => z (HB.out.up b hb)))).trans (hoff6.below (Nat.le_trans nB hoff5.size) (fun b hb z => z (hm5.up b hb)))
  clear hm5 hsec5 hLC5 hD1 hD2 hb6 hoff6 hTC hOC hfirst5
  go_wp2_with fail
  refine cO.mono ?_
  rintro e w9 ⟨rfl, hB9, -, hEx⟩
  clear cO
  have HE := hide hEx
  clear hEx
  go_wp2
  go_ret
  exact ⟨rfl, BD.trans hB9, HE.out⟩
set_option maxRecDepth 100000 in
set_option maxHeartbeats 8000000 in
theorem act_none (n0 bq p r : Nat) (R : Int) (A : Nat → Prop) (M : Mt) (jv : Option Addr) (y : Av) (w : World) (h : Bs n0 R A w bq p r M jv none) (hy : y.ok n0 w) (hk : ¬ (y.kind = 3) ∧ ¬ (y.kind = 4) ∧ ¬ (y.kind = 5) ∧ ¬ (y.kind = 6) ∧ ¬ (y.kind = 7)) :
    Calls Tryz.prog 9 #[.pointer (some ⟨bq, 0, none⟩), .agg y.cells.toArray] w fun e w' => e = .returned (.bool true) ∧ Below n0 w w' ∧ ∃ A' M' jv' jr', Bs n0 R A' w' bq p r M' jv' jr' := by
  have hx := bx_new h hy
  have hXb0 : ¬ (w.heap.size = bq) := by have := h.box.lt; omega
  obtain ⟨w1, hw1⟩ : ∃ w1, w.alloc (.cells y.cells.toArray 38) = w1 := ⟨_, rfl⟩
  rw [hw1] at hx
  generalize More A w w1 = A1 at hx
  have y0 := hx.y0
  have HX := hide hx
  have hXl : w.heap.size < w1.heap.size := hx.b.lt _ hx.a
  have hbl := hx.b.box.lt
  have zp := hx.b.box.cell 0 rfl
  have zr := hx.b.box.cell 2 rfl
  obtain ⟨u, hu⟩ : ∃ u, Hid (y.cells = u) := ⟨_, hide rfl⟩
  rw [hu.out] at hw1 ⊢
  clear hu h hy
  have e3 : (y.kind == 3) = false := by simp; omega
  have e4 : (y.kind == 4) = false := by simp; omega
  have e5 : (y.kind == 5) = false := by simp; omega
  have e6 : (y.kind == 6) = false := by simp; omega
  have e7 : (y.kind == 7) = false := by simp; omega
  have z3 := HX.out.b.box.cell 3 rfl
  have HE : Hid (Below n0 w w1 ∧ ∃ A' M' jv' jr', Bs n0 R A' w1 bq p r M' jv' jr') := hide ⟨HX.out.bel.mono HX.out.hn, A1, _, _, _, HX.out.b⟩
  clear hx zp zr hk
  go_enter Tryz.func9, Tryz.ntmps9
  go_wp2_with fail
  go_ret
  exact ⟨rfl, HE.out⟩
set_option maxRecDepth 100000 in
set_option maxHeartbeats 8000000 in
theorem act_other (n0 bq p r q : Nat) (R : Int) (A : Nat → Prop) (M : Mt) (jv : Option Addr) (y : Av) (w : World) (h : Bs n0 R A w bq p r M jv (some ⟨q, 0, none⟩)) (hy : y.ok n0 w) (hk : (¬ (y.kind = 0) ∧ ¬ (y.kind = 1) ∧ ¬ (y.kind = 2)) ∧ ¬ (y.kind = 3) ∧ ¬ (y.kind = 4) ∧ ¬ (y.kind = 5) ∧ ¬ (y.kind = 6) ∧ ¬ (y.kind = 7)) :
    Calls Tryz.prog 9 #[.pointer (some ⟨bq, 0, none⟩), .agg y.cells.toArray] w fun e w' => e = .returned (.bool true) ∧ Below n0 w w' ∧ ∃ A' M' jv' jr', Bs n0 R A' w' bq p r M' jv' jr' := by
  have hx := bx_new h hy
  have hXb0 : ¬ (w.heap.size = bq) := by have := h.box.lt; omega
  obtain ⟨w1, hw1⟩ : ∃ w1, w.alloc (.cells y.cells.toArray 38) = w1 := ⟨_, rfl⟩
  rw [hw1] at hx
  generalize More A w w1 = A1 at hx
  have y0 := hx.y0
  have HX := hide hx
  have hXl : w.heap.size < w1.heap.size := hx.b.lt _ hx.a
  have hbl := hx.b.box.lt
  have zp := hx.b.box.cell 0 rfl
  have zr := hx.b.box.cell 2 rfl
  obtain ⟨u, hu⟩ : ∃ u, Hid (y.cells = u) := ⟨_, hide rfl⟩
  rw [hu.out] at hw1 ⊢
  clear hu h hy
  have e0 : (y.kind == 0) = false := by simp; omega
  have e1 : (y.kind == 1) = false := by simp; omega
  have e2 : (y.kind == 2) = false := by simp; omega
  have e3 : (y.kind == 3) = false := by simp; omega
  have e4 : (y.kind == 4) = false := by simp; omega
  have e5 : (y.kind == 5) = false := by simp; omega
  have e6 : (y.kind == 6) = false := by simp; omega
  have e7 : (y.kind == 7) = false := by simp; omega
  have z3 := HX.out.b.box.cell 3 rfl
  have HE : Hid (Below n0 w w1 ∧ ∃ A' M' jv' jr', Bs n0 R A' w1 bq p r M' jv' jr') := hide ⟨HX.out.bel.mono HX.out.hn, A1, _, _, _, HX.out.b⟩
  clear hx zp zr hk
  go_enter Tryz.func9, Tryz.ntmps9
  go_wp2_with fail
  go_ret
  exact ⟨rfl, HE.out⟩
end Go.Proofs.YtfkchnjbbbhmjaaGreat.Ty
