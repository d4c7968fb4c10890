/- good messages: with and without their places; what was read is not too much; messages by value -/
import Derived.Test.YtahdmajppnffeaaJM21
import Derived.Test.YtahdmajppnffeaaJM13
import Derived.Test.YtahdmajppnffeaaJM14
import Derived.Deep.Slices
import Derived.Test.YtahdmajppnffeaaRows
import Derived.ProofKit
import Derived.OpenShut
import Derived.ShutString
import Derived.ChangeOld
import Derived.Below
import Derived.Lib.LaidTab
namespace Go.Proofs.Ytahdmajppnffeaa
open Go.RowKit
open Sha Tal
set_option linter.unusedVariables false
set_option linter.unusedSimpArgs false
theorem sameL_eqv {α β : Type} {B : α → α → Bool} {f : α → β} (h : ∀ x y, f x = f y → B x y = true) : ∀ xs ys : List α, xs.map f = ys.map f → sameL B xs ys = true
  | [], [], _ => rfl
  | x :: xs, y :: ys, e => by
    simp only [List.map_cons, List.cons.injEq] at e
    unfold sameL
    rw [h x y e.1, sameL_eqv h xs ys e.2]
    rfl
  | [], y :: ys, e => by cases e
  | x :: xs, [], e => by cases e
theorem certB_eqv {x y : Vt} {s t : Sl Sg} (h : x = y) (h2 : s.xs = t.xs) : certB x s y t = true := by
  unfold certB
  rw [vtB_iff.2 h, (sameL_iff (fun x y => Sg.B_iff) _ _).2 h2]
  rfl
theorem batB_eqv {q r : Bool} {x y : Sl Rq} (h : q = r) (h2 : x.xs = y.xs) : batB q x r y = true := by
  unfold batB
  rw [h, (sameL_iff (fun x y => Rq.B_iff) _ _).2 h2]
  simp
theorem Hd.B_eqv (x y : Hd) (h : x.pure = y.pure) : Hd.B x y = true := by
  unfold Hd.pure at h
  simp only [Hp.mk.injEq] at h
  obtain ⟨h1, h2, h3, h4⟩ := h
  unfold Hd.B
  rw [batB_eqv h1 h2, certB_eqv h3 h4]
  rfl
theorem Mg.B_eqv (a b : Mg) (h : a.pure = b.pure) : Mg.B a b = true := by
  unfold Mg.pure at h
  simp only [Mp.mk.injEq] at h
  obtain ⟨h1, h2, h3, h4, h5, h6, h7, h8, h9, h10, h11, h12, h13, h14, h15, h16, h17, h18⟩ := h
  unfold Mg.B Mg.nB Mg.fB Mg.lB chgB
  rw [vtB_iff.2 h8, batB_eqv h6 h7, certB_eqv h15 h16, (sameL_iff (fun x y => Ev.B_iff) _ _).2 h13, (sameL_iff (fun x y => Sg.B_iff) _ _).2 h18, sameL_eqv Hd.B_eqv _ _ h12, h1, h2, h3, h4, h5, h9, h10, h11, h14, h17]
  simp
theorem certB_pure {x y : Vt} {s t : Sl Sg} (h : certB x s y t = true) : x = y ∧ s.xs = t.xs := by
  unfold certB at h
  rw [Bool.and_eq_true] at h
  exact ⟨vtB_iff.1 h.1, (sameL_iff (fun x y => Sg.B_iff) _ _).1 h.2⟩
theorem batB_pure {q r : Bool} {x y : Sl Rq} (h : batB q x r y = true) : q = r ∧ x.xs = y.xs := by
  unfold batB at h
  rw [Bool.and_eq_true] at h
  exact ⟨by simpa using h.1, (sameL_iff (fun x y => Rq.B_iff) _ _).1 h.2⟩
theorem Hd.B_pure (x y : Hd) (h : Hd.B x y = true) : x.pure = y.pure := by
  unfold Hd.B at h
  rw [Bool.and_eq_true] at h
  obtain ⟨h1, h2⟩ := batB_pure h.1
  obtain ⟨h3, h4⟩ := certB_pure h.2
  unfold Hd.pure
  rw [h1, h2, h3, h4]
theorem sameL_pure {α β : Type} {B : α → α → Bool} {f : α → β} (h : ∀ x y, B x y = true → f x = f y) : ∀ xs ys : List α, sameL B xs ys = true → xs.map f = ys.map f
  | [], [], _ => rfl
  | x :: xs, y :: ys, e => by
    unfold sameL at e
    rw [Bool.and_eq_true] at e
    rw [List.map_cons, List.map_cons, h x y e.1, sameL_pure h xs ys e.2]
  | [], y :: ys, e => by cases e
  | x :: xs, [], e => by cases e
theorem Mg.B_pure (a b : Mg) (h : Mg.B a b = true) : a.pure = b.pure := by
  unfold Mg.B Mg.nB Mg.fB Mg.lB chgB at h
  simp only [Bool.and_eq_true, beq_iff_eq] at h
  obtain ⟨⟨h1, h2, h3, h4, h5⟩, ⟨h6, h7, h8⟩, h9, ⟨⟨h10, h11, h12⟩, h13⟩, h14, h15, h16⟩ := h
  obtain ⟨b1, b2⟩ := batB_pure h9
  obtain ⟨c1, c2⟩ := certB_pure h15
  unfold Mg.pure
  rw [h1, h2, h3, h4, h5, b1, b2, vtB_iff.1 h6, h10, h11, h12, sameL_pure Hd.B_pure _ _ h13, (sameL_iff (fun x y => Ev.B_iff) _ _).1 h14, h7, c1, c2, toList_iff.1 h8, (sameL_iff (fun x y => Sg.B_iff) _ _).1 h16]
theorem sg_may {g : Sg} (o : g.ok) : g.may = true → sgOk g := fun h => ⟨inB_iff.1 h, o.tl, o.tb⟩
theorem may_sg {g : Sg} (h : sgOk g) : g.may = true := inB_iff.2 h.1
theorem ev_may {g : Ev} (o : g.ok) (h : g.may = true) : evOk g := by
  unfold Ev.may at h
  rw [Bool.and_eq_true] at h
  exact ⟨inB_iff.1 h.1, of_decide_eq_true h.2, o.tl, o.tb⟩
theorem may_ev {g : Ev} (h : evOk g) : g.may = true := by
  unfold Ev.may
  rw [inB_iff.2 h.1, decide_eq_true h.2.1]
  rfl
theorem rq_may {g : Rq} (o : g.ok) (h : g.may = true) : rqOk g := by
  unfold Rq.may at h
  rw [Bool.and_eq_true, Bool.and_eq_true] at h
  exact ⟨inB_iff.1 h.1, inB_iff.1 h.2.1, of_decide_eq_true h.2.2, o.tl, o.tb⟩
theorem may_rq {g : Rq} (h : rqOk g) : g.may = true := by
  unfold Rq.may
  rw [inB_iff.2 h.1, inB_iff.2 h.2.1, decide_eq_true h.2.2.1]
  rfl
theorem vt_may {x : Vt} (o : x.ok) (h : x.may = true) : vtOk x := by
  unfold Vt.may at h
  simp only [Bool.and_eq_true, Bool.or_eq_true, decide_eq_true_eq] at h
  obtain ⟨h1, h2, h3, h4⟩ := h
  exact ⟨by omega, inB_iff.1 h2, inB_iff.1 h3, inB_iff.1 h4, o.dl, o.db⟩
theorem may_vt {x : Vt} (h : vtOk x) : x.may = true := by
  obtain ⟨h1, h2, h3, h4, _⟩ := h
  unfold Vt.may
  rw [inB_iff.2 h2, inB_iff.2 h3, inB_iff.2 h4]
  have : x.k = 1 ∨ x.k = 2 := by omega
  rcases this with q | q <;> simp [q]
theorem mayL_iff {α : Type} {most : Int} {p : α → Bool} {xs : List α} : mayL most p xs = true ↔ (xs.length : Int) ≤ most ∧ ∀ x ∈ xs, p x = true := by
  unfold mayL
  rw [Bool.and_eq_true, decide_eq_true_iff, List.all_eq_true]
theorem bat_may {q : Bool} {x : Sl Rq} (o : ∀ y ∈ x.xs, y.ok) (h : batMay q x = true) : baOk (q, x.xs) := by
  unfold batMay at h
  cases q
  · obtain ⟨h1, h2⟩ := mayL_iff.1 h
    exact ⟨(fun e => by cases e), (by show x.xs.length ≤ 4; omega), fun r hr => rq_may (o r hr) (h2 r hr)⟩
  · have e : x.xs = [] := List.eq_nil_of_length_eq_zero (of_decide_eq_true h)
    exact ⟨(fun _ => e), (by show x.xs.length ≤ 4; rw [e]; simp), fun r hr => by rw [show x.xs = [] from e] at hr; cases hr⟩
theorem may_bat {q : Bool} {x : Sl Rq} (h : baOk (q, x.xs)) : batMay q x = true := by
  unfold batMay
  cases q
  · have h2 : x.xs.length ≤ 4 := h.2.1
    exact mayL_iff.2 ⟨by omega, fun r hr => may_rq (h.2.2 r hr)⟩
  · have e : x.xs = [] := h.1 rfl
    rw [if_pos rfl, e]
    rfl
theorem sgs_may {x : Sl Sg} (o : ∀ y ∈ x.xs, y.ok) (h : sgsMay x = true) : (x.xs.length : Int) ≤ 64 ∧ ∀ y ∈ x.xs, sgOk y := by
  obtain ⟨h1, h2⟩ := mayL_iff.1 h
  exact ⟨h1, fun y hy => sg_may (o y hy) (h2 y hy)⟩
theorem may_sgs {x : Sl Sg} (h : (x.xs.length : Int) ≤ 64 ∧ ∀ y ∈ x.xs, sgOk y) : sgsMay x = true := mayL_iff.2 ⟨h.1, fun y hy => may_sg (h.2 y hy)⟩
theorem cert_may {v : Vt} {x : Sl Sg} (ov : v.ok) (o : ∀ y ∈ x.xs, y.ok) (h : certMay v x = true) : ceOk (v, x.xs) := by
  unfold certMay at h
  rw [Bool.and_eq_true] at h
  exact ⟨vt_may ov h.1, sgs_may o h.2⟩
theorem may_cert {v : Vt} {x : Sl Sg} (h : ceOk (v, x.xs)) : certMay v x = true := by
  unfold certMay
  rw [may_vt h.1, may_sgs h.2]
  rfl
theorem hd_may {h : Hd} {w : World} (ov : h.vt.ok) (a : h.At w) (k : h.may = true) : hpOk h.pure := by
  unfold Hd.may at k
  rw [Bool.and_eq_true] at k
  exact ⟨bat_may a.1.2.1 k.1, cert_may ov a.2.2.1 k.2⟩
theorem may_hd {h : Hd} (k : hpOk h.pure) : h.may = true := by
  unfold Hd.may
  rw [may_bat (q := h.q) (x := h.rs) k.1, may_cert (v := h.vt) (x := h.sg) k.2]
  rfl
theorem chg_may {a b c : Int} {x : Sl Hd} {w : World} (at_ : HdsAt w x) (h : chgMay a b c x = true) : cpOk ⟨a, b, c, x.xs.map Hd.pure⟩ := by
  unfold chgMay at h
  simp only [Bool.and_eq_true] at h
  obtain ⟨⟨h1, h2, h3⟩, h4⟩ := h
  obtain ⟨h5, h6⟩ := mayL_iff.1 h4
  refine ⟨inB_iff.1 h1, inB_iff.1 h2, inB_iff.1 h3, by show ((x.xs.map Hd.pure).length : Int) ≤ 4; rw [List.length_map]; exact h5, fun y hy => ?_⟩
  obtain ⟨g, hg, rfl⟩ := List.mem_map.1 hy
  exact hd_may (at_.1.2.1 g hg) (at_.2 g hg) (h6 g hg)
theorem may_chg {a b c : Int} {x : Sl Hd} (h : cpOk ⟨a, b, c, x.xs.map Hd.pure⟩) : chgMay a b c x = true := by
  obtain ⟨h1, h2, h3, h4, h5⟩ := h
  unfold chgMay
  rw [inB_iff.2 h1, inB_iff.2 h2, inB_iff.2 h3, mayL_iff.2 ⟨by have h4 : ((x.xs.map Hd.pure).length : Int) ≤ 4 := h4; rwa [List.length_map] at h4, fun g hg => may_hd (h5 _ (List.mem_map_of_mem hg))⟩]
  rfl
theorem hds_pure (xs : List Hd) : hdsL xs = putL ((xs.map Hd.pure).length) ++ (xs.map Hd.pure).flatMap hpL := by
  unfold hdsL
  rw [List.length_map, List.flatMap_map]
  rfl
theorem bytes_pure (m : Mg) (h : 1 ≤ m.k ∧ m.k ≤ 8) : m.bytes = m.pure.bytes := by
  have hk : m.k = 1 ∨ m.k = 2 ∨ m.k = 3 ∨ m.k = 4 ∨ m.k = 5 ∨ m.k = 6 ∨ m.k = 7 ∨ m.k = 8 := by omega
  show putL m.k ++ m.body = putL m.k ++ (if m.k = 1 then body1 m.pure else if m.k = 2 then body2 m.pure else if m.k = 3 then body3 m.pure else if m.k = 4 then body4 m.pure else if m.k = 5 then body5 m.pure else if m.k = 6 then body6 m.pure else if m.k = 7 then body7 m.pure else body8 m.pure)
  unfold Mg.body
  rcases hk with h | h | h | h | h | h | h | h <;> rw [h]
  · have e : [m.e, m.s].flatMap putL ++ batL m.q (m.rs.xs.map BRq.of) = putL m.e ++ (putL m.s ++ baL (m.q, m.rs.xs)) := by simp [List.append_assoc, baL]
    exact congrArg (putL 1 ++ ·) e
  · rfl
  · have e : [m.ce, m.cl, m.cv].flatMap putL ++ hdsL m.he.xs = putL m.ce ++ (putL m.cl ++ (putL m.cv ++ (putL ((m.he.xs.map Hd.pure).length) ++ (m.he.xs.map Hd.pure).flatMap hpL))) := by rw [hds_pure]; simp [List.append_assoc]
    exact congrArg (putL 3 ++ ·) e
  · have e : [m.e, m.l, m.v].flatMap putL ++ evsL m.ne.xs = putL m.e ++ (putL m.l ++ (putL m.v ++ evsL m.ne.xs)) := by simp [List.append_assoc]
    exact congrArg (putL 4 ++ ·) e
  · rfl
  · have e : [m.e, m.s].flatMap putL = putL m.e ++ putL m.s := by simp [List.append_assoc]
    exact congrArg (putL 6 ++ ·) e
  · rfl
  · rfl
theorem ev_all {x : Sl Ev} {w : World} (a : x.At EvE w) (h : mayL 64 Ev.may x.xs = true) : (x.xs.length : Int) ≤ 64 ∧ ∀ y ∈ x.xs, evOk y := by
  obtain ⟨h1, h2⟩ := mayL_iff.1 h
  exact ⟨h1, fun y hy => ev_may (a.2.1 y hy) (h2 y hy)⟩
theorem good_pure {m : Mg} {w : World} (om : m.ok) (am : m.At w) (hg : m.good = true) : m.pure.good := by
  unfold Mg.good at hg
  rw [Bool.and_eq_true, Bool.and_eq_true, decide_eq_true_iff] at hg
  obtain ⟨hk, hB, hm⟩ := hg
  have hp := Mg.B_pure _ _ hB
  unfold Mg.may Mg.mayL at hm
  simp only [Bool.and_eq_true] at hm
  obtain ⟨⟨e1, e2⟩, ⟨e3, e4⟩, e5, e6, e7, e8, e9, e10, e11⟩ := hm
  have hks : m.k = 1 ∨ m.k = 2 ∨ m.k = 3 ∨ m.k = 4 ∨ m.k = 5 ∨ m.k = 6 ∨ m.k = 7 ∨ m.k = 8 := by omega
  rcases hks with h | h | h | h | h | h | h | h
  · rw [Mg.bare_1 h] at hp
    refine .inl ⟨h, ⟨inB_iff.1 e1, inB_iff.1 e4, bat_may am.rs.2.1 e7⟩, ?_⟩
    exact hp.symm
  · rw [Mg.bare_2 h] at hp
    refine .inr (.inl ⟨h, vt_may om.vt (by rw [if_pos h] at e5; exact e5), ?_⟩)
    exact hp.symm
  · rw [Mg.bare_3 h] at hp
    refine .inr (.inr (.inl ⟨h, chg_may am.he e8, ?_⟩))
    exact hp.symm
  · rw [Mg.bare_4 h] at hp
    refine .inr (.inr (.inr (.inl ⟨h, ⟨inB_iff.1 e1, inB_iff.1 e2, inB_iff.1 e3, ev_all am.ne e9⟩, ?_⟩)))
    exact hp.symm
  · rw [Mg.bare_5 h] at hp
    refine .inr (.inr (.inr (.inr (.inl ⟨h, ⟨inB_iff.1 e1, om.dl, om.db⟩, ?_⟩))))
    exact hp.symm
  · rw [Mg.bare_6 h] at hp
    refine .inr (.inr (.inr (.inr (.inr (.inl ⟨h, ⟨inB_iff.1 e1, inB_iff.1 e4⟩, ?_⟩)))))
    exact hp.symm
  · rw [Mg.bare_7 h] at hp
    refine .inr (.inr (.inr (.inr (.inr (.inr (.inl ⟨h, ⟨bat_may am.rs.2.1 e7, cert_may om.ct am.cs.2.1 (by rw [if_pos h] at e6; exact e6)⟩, ?_⟩))))))
    exact hp.symm
  · rw [Mg.bare_8 h] at hp
    refine .inr (.inr (.inr (.inr (.inr (.inr (.inr (⟨h, ⟨of_decide_eq_true e10, sgs_may am.sg.2.1 e11⟩, ?_⟩)))))))
    exact hp.symm
theorem pure_good {x : Mg} (h : x.pure.good) : x.good = true := by
  rcases h with ⟨h, k, o⟩ | ⟨h, k, o⟩ | ⟨h, k, o⟩ | ⟨h, k, o⟩ | ⟨h, k, o⟩ | ⟨h, k, o⟩ | ⟨h, k, o⟩ | ⟨h, k, o⟩
  · have hk : x.k = 1 := h
    have hp : x.pure = x.bare.pure := by rw [Mg.bare_1 hk]; exact o.symm
    have hB := Mg.B_eqv _ _ hp
    have o2 := o.symm
    unfold Mg.pure onlyP1 at o2
    simp only [Mp.mk.injEq, and_true, true_and] at o2
    unfold Mg.good
    rw [hB]
    have hd : decide (1 ≤ x.k ∧ x.k ≤ 8) = true := by rw [hk]; decide
    rw [hd]
    show x.may = true
    unfold Mg.may Mg.mayL
    rw [hk]
    obtain ⟨z_k, z_l, z_v, z_vt, z_ce, z_cl, z_cv, z_he, z_ne, z_d, z_ct, z_cs, z_st, z_sg⟩ := o2
    have w_e : inB x.e 1048576 = true := inB_iff.2 k.1
    have w_l : inB x.l 64 = true := by rw [z_l]; decide
    have w_v : inB x.v 1099511627776 = true := by rw [z_v]; decide
    have w_s : inB x.s 1099511627776 = true := inB_iff.2 k.2.1
    have w_b : batMay x.q x.rs = true := may_bat k.2.2
    have w_c : chgMay x.ce x.cl x.cv x.he = true := may_chg (by rw [z_ce, z_cl, z_cv, show x.he.xs.map Hd.pure = [] from z_he]; exact ⟨(by decide), (by decide), (by decide), (by simp), fun r hr => by cases hr⟩)
    have w_n : Go.Proofs.Ytahdmajppnffeaa.mayL 64 Ev.may x.ne.xs = true := by rw [z_ne]; rfl
    have w_t : decide ((x.st.size : Int) ≤ 4194304) = true := by rw [z_st]; rfl
    have w_g : sgsMay x.sg = true := may_sgs (by rw [z_sg]; exact ⟨(by simp), fun r hr => by cases hr⟩)
    have w_2 : (if (1 : Int) = 2 then x.vt.may else true) = true := rfl
    have w_7 : (if (1 : Int) = 7 then certMay x.ct x.cs else true) = true := rfl
    rw [w_e, w_l, w_v, w_s, w_b, w_c, w_n, w_t, w_g, w_2, w_7]
    rfl
  · have hk : x.k = 2 := h
    have hp : x.pure = x.bare.pure := by rw [Mg.bare_2 hk]; exact o.symm
    have hB := Mg.B_eqv _ _ hp
    have o2 := o.symm
    unfold Mg.pure onlyP2 at o2
    simp only [Mp.mk.injEq, and_true, true_and] at o2
    unfold Mg.good
    rw [hB]
    have hd : decide (1 ≤ x.k ∧ x.k ≤ 8) = true := by rw [hk]; decide
    rw [hd]
    show x.may = true
    unfold Mg.may Mg.mayL
    rw [hk]
    obtain ⟨z_k, z_e, z_l, z_v, z_s, z_q, z_rs, z_ce, z_cl, z_cv, z_he, z_ne, z_d, z_ct, z_cs, z_st, z_sg⟩ := o2
    have w_e : inB x.e 1048576 = true := by rw [z_e]; decide
    have w_l : inB x.l 64 = true := by rw [z_l]; decide
    have w_v : inB x.v 1099511627776 = true := by rw [z_v]; decide
    have w_s : inB x.s 1099511627776 = true := by rw [z_s]; decide
    have w_b : batMay x.q x.rs = true := may_bat (by rw [z_q, z_rs]; exact ⟨(fun e => by cases e), (by simp), fun r hr => by cases hr⟩)
    have w_c : chgMay x.ce x.cl x.cv x.he = true := may_chg (by rw [z_ce, z_cl, z_cv, show x.he.xs.map Hd.pure = [] from z_he]; exact ⟨(by decide), (by decide), (by decide), (by simp), fun r hr => by cases hr⟩)
    have w_n : Go.Proofs.Ytahdmajppnffeaa.mayL 64 Ev.may x.ne.xs = true := by rw [z_ne]; rfl
    have w_t : decide ((x.st.size : Int) ≤ 4194304) = true := by rw [z_st]; rfl
    have w_g : sgsMay x.sg = true := may_sgs (by rw [z_sg]; exact ⟨(by simp), fun r hr => by cases hr⟩)
    have w_2 : (if (2 : Int) = 2 then x.vt.may else true) = true := may_vt k
    have w_7 : (if (2 : Int) = 7 then certMay x.ct x.cs else true) = true := rfl
    rw [w_e, w_l, w_v, w_s, w_b, w_c, w_n, w_t, w_g, w_2, w_7]
    rfl
  · have hk : x.k = 3 := h
    have hp : x.pure = x.bare.pure := by rw [Mg.bare_3 hk]; exact o.symm
    have hB := Mg.B_eqv _ _ hp
    have o2 := o.symm
    unfold Mg.pure onlyP3 at o2
    simp only [Mp.mk.injEq, and_true, true_and] at o2
    unfold Mg.good
    rw [hB]
    have hd : decide (1 ≤ x.k ∧ x.k ≤ 8) = true := by rw [hk]; decide
    rw [hd]
    show x.may = true
    unfold Mg.may Mg.mayL
    rw [hk]
    obtain ⟨z_k, z_e, z_l, z_v, z_s, z_q, z_rs, z_vt, z_ne, z_d, z_ct, z_cs, z_st, z_sg⟩ := o2
    have w_e : inB x.e 1048576 = true := by rw [z_e]; decide
    have w_l : inB x.l 64 = true := by rw [z_l]; decide
    have w_v : inB x.v 1099511627776 = true := by rw [z_v]; decide
    have w_s : inB x.s 1099511627776 = true := by rw [z_s]; decide
    have w_b : batMay x.q x.rs = true := may_bat (by rw [z_q, z_rs]; exact ⟨(fun e => by cases e), (by simp), fun r hr => by cases hr⟩)
    have w_c : chgMay x.ce x.cl x.cv x.he = true := may_chg k
    have w_n : Go.Proofs.Ytahdmajppnffeaa.mayL 64 Ev.may x.ne.xs = true := by rw [z_ne]; rfl
    have w_t : decide ((x.st.size : Int) ≤ 4194304) = true := by rw [z_st]; rfl
    have w_g : sgsMay x.sg = true := may_sgs (by rw [z_sg]; exact ⟨(by simp), fun r hr => by cases hr⟩)
    have w_2 : (if (3 : Int) = 2 then x.vt.may else true) = true := rfl
    have w_7 : (if (3 : Int) = 7 then certMay x.ct x.cs else true) = true := rfl
    rw [w_e, w_l, w_v, w_s, w_b, w_c, w_n, w_t, w_g, w_2, w_7]
    rfl
  · have hk : x.k = 4 := h
    have hp : x.pure = x.bare.pure := by rw [Mg.bare_4 hk]; exact o.symm
    have hB := Mg.B_eqv _ _ hp
    have o2 := o.symm
    unfold Mg.pure onlyP4 at o2
    simp only [Mp.mk.injEq, and_true, true_and] at o2
    unfold Mg.good
    rw [hB]
    have hd : decide (1 ≤ x.k ∧ x.k ≤ 8) = true := by rw [hk]; decide
    rw [hd]
    show x.may = true
    unfold Mg.may Mg.mayL
    rw [hk]
    obtain ⟨z_k, z_s, z_q, z_rs, z_vt, z_ce, z_cl, z_cv, z_he, z_d, z_ct, z_cs, z_st, z_sg⟩ := o2
    have w_e : inB x.e 1048576 = true := inB_iff.2 k.1
    have w_l : inB x.l 64 = true := inB_iff.2 k.2.1
    have w_v : inB x.v 1099511627776 = true := inB_iff.2 k.2.2.1
    have w_s : inB x.s 1099511627776 = true := by rw [z_s]; decide
    have w_b : batMay x.q x.rs = true := may_bat (by rw [z_q, z_rs]; exact ⟨(fun e => by cases e), (by simp), fun r hr => by cases hr⟩)
    have w_c : chgMay x.ce x.cl x.cv x.he = true := may_chg (by rw [z_ce, z_cl, z_cv, show x.he.xs.map Hd.pure = [] from z_he]; exact ⟨(by decide), (by decide), (by decide), (by simp), fun r hr => by cases hr⟩)
    have w_n : Go.Proofs.Ytahdmajppnffeaa.mayL 64 Ev.may x.ne.xs = true := mayL_iff.2 ⟨k.2.2.2.1, fun y hy => may_ev (k.2.2.2.2 y hy)⟩
    have w_t : decide ((x.st.size : Int) ≤ 4194304) = true := by rw [z_st]; rfl
    have w_g : sgsMay x.sg = true := may_sgs (by rw [z_sg]; exact ⟨(by simp), fun r hr => by cases hr⟩)
    have w_2 : (if (4 : Int) = 2 then x.vt.may else true) = true := rfl
    have w_7 : (if (4 : Int) = 7 then certMay x.ct x.cs else true) = true := rfl
    rw [w_e, w_l, w_v, w_s, w_b, w_c, w_n, w_t, w_g, w_2, w_7]
    rfl
  · have hk : x.k = 5 := h
    have hp : x.pure = x.bare.pure := by rw [Mg.bare_5 hk]; exact o.symm
    have hB := Mg.B_eqv _ _ hp
    have o2 := o.symm
    unfold Mg.pure onlyP5 at o2
    simp only [Mp.mk.injEq, and_true, true_and] at o2
    unfold Mg.good
    rw [hB]
    have hd : decide (1 ≤ x.k ∧ x.k ≤ 8) = true := by rw [hk]; decide
    rw [hd]
    show x.may = true
    unfold Mg.may Mg.mayL
    rw [hk]
    obtain ⟨z_k, z_l, z_v, z_s, z_q, z_rs, z_vt, z_ce, z_cl, z_cv, z_he, z_ne, z_ct, z_cs, z_st, z_sg⟩ := o2
    have w_e : inB x.e 1048576 = true := inB_iff.2 k.1
    have w_l : inB x.l 64 = true := by rw [z_l]; decide
    have w_v : inB x.v 1099511627776 = true := by rw [z_v]; decide
    have w_s : inB x.s 1099511627776 = true := by rw [z_s]; decide
    have w_b : batMay x.q x.rs = true := may_bat (by rw [z_q, z_rs]; exact ⟨(fun e => by cases e), (by simp), fun r hr => by cases hr⟩)
    have w_c : chgMay x.ce x.cl x.cv x.he = true := may_chg (by rw [z_ce, z_cl, z_cv, show x.he.xs.map Hd.pure = [] from z_he]; exact ⟨(by decide), (by decide), (by decide), (by simp), fun r hr => by cases hr⟩)
    have w_n : Go.Proofs.Ytahdmajppnffeaa.mayL 64 Ev.may x.ne.xs = true := by rw [z_ne]; rfl
    have w_t : decide ((x.st.size : Int) ≤ 4194304) = true := by rw [z_st]; rfl
    have w_g : sgsMay x.sg = true := may_sgs (by rw [z_sg]; exact ⟨(by simp), fun r hr => by cases hr⟩)
    have w_2 : (if (5 : Int) = 2 then x.vt.may else true) = true := rfl
    have w_7 : (if (5 : Int) = 7 then certMay x.ct x.cs else true) = true := rfl
    rw [w_e, w_l, w_v, w_s, w_b, w_c, w_n, w_t, w_g, w_2, w_7]
    rfl
  · have hk : x.k = 6 := h
    have hp : x.pure = x.bare.pure := by rw [Mg.bare_6 hk]; exact o.symm
    have hB := Mg.B_eqv _ _ hp
    have o2 := o.symm
    unfold Mg.pure onlyP6 at o2
    simp only [Mp.mk.injEq, and_true, true_and] at o2
    unfold Mg.good
    rw [hB]
    have hd : decide (1 ≤ x.k ∧ x.k ≤ 8) = true := by rw [hk]; decide
    rw [hd]
    show x.may = true
    unfold Mg.may Mg.mayL
    rw [hk]
    obtain ⟨z_k, z_l, z_v, z_q, z_rs, z_vt, z_ce, z_cl, z_cv, z_he, z_ne, z_d, z_ct, z_cs, z_st, z_sg⟩ := o2
    have w_e : inB x.e 1048576 = true := inB_iff.2 k.1
    have w_l : inB x.l 64 = true := by rw [z_l]; decide
    have w_v : inB x.v 1099511627776 = true := by rw [z_v]; decide
    have w_s : inB x.s 1099511627776 = true := inB_iff.2 k.2
    have w_b : batMay x.q x.rs = true := may_bat (by rw [z_q, z_rs]; exact ⟨(fun e => by cases e), (by simp), fun r hr => by cases hr⟩)
    have w_c : chgMay x.ce x.cl x.cv x.he = true := may_chg (by rw [z_ce, z_cl, z_cv, show x.he.xs.map Hd.pure = [] from z_he]; exact ⟨(by decide), (by decide), (by decide), (by simp), fun r hr => by cases hr⟩)
    have w_n : Go.Proofs.Ytahdmajppnffeaa.mayL 64 Ev.may x.ne.xs = true := by rw [z_ne]; rfl
    have w_t : decide ((x.st.size : Int) ≤ 4194304) = true := by rw [z_st]; rfl
    have w_g : sgsMay x.sg = true := may_sgs (by rw [z_sg]; exact ⟨(by simp), fun r hr => by cases hr⟩)
    have w_2 : (if (6 : Int) = 2 then x.vt.may else true) = true := rfl
    have w_7 : (if (6 : Int) = 7 then certMay x.ct x.cs else true) = true := rfl
    rw [w_e, w_l, w_v, w_s, w_b, w_c, w_n, w_t, w_g, w_2, w_7]
    rfl
  · have hk : x.k = 7 := h
    have hp : x.pure = x.bare.pure := by rw [Mg.bare_7 hk]; exact o.symm
    have hB := Mg.B_eqv _ _ hp
    have o2 := o.symm
    unfold Mg.pure onlyP7 at o2
    simp only [Mp.mk.injEq, and_true, true_and] at o2
    unfold Mg.good
    rw [hB]
    have hd : decide (1 ≤ x.k ∧ x.k ≤ 8) = true := by rw [hk]; decide
    rw [hd]
    show x.may = true
    unfold Mg.may Mg.mayL
    rw [hk]
    obtain ⟨z_k, z_e, z_l, z_v, z_s, z_vt, z_ce, z_cl, z_cv, z_he, z_ne, z_d, z_st, z_sg⟩ := o2
    have w_e : inB x.e 1048576 = true := by rw [z_e]; decide
    have w_l : inB x.l 64 = true := by rw [z_l]; decide
    have w_v : inB x.v 1099511627776 = true := by rw [z_v]; decide
    have w_s : inB x.s 1099511627776 = true := by rw [z_s]; decide
    have w_b : batMay x.q x.rs = true := may_bat k.1
    have w_c : chgMay x.ce x.cl x.cv x.he = true := may_chg (by rw [z_ce, z_cl, z_cv, show x.he.xs.map Hd.pure = [] from z_he]; exact ⟨(by decide), (by decide), (by decide), (by simp), fun r hr => by cases hr⟩)
    have w_n : Go.Proofs.Ytahdmajppnffeaa.mayL 64 Ev.may x.ne.xs = true := by rw [z_ne]; rfl
    have w_t : decide ((x.st.size : Int) ≤ 4194304) = true := by rw [z_st]; rfl
    have w_g : sgsMay x.sg = true := may_sgs (by rw [z_sg]; exact ⟨(by simp), fun r hr => by cases hr⟩)
    have w_2 : (if (7 : Int) = 2 then x.vt.may else true) = true := rfl
    have w_7 : (if (7 : Int) = 7 then certMay x.ct x.cs else true) = true := may_cert k.2
    rw [w_e, w_l, w_v, w_s, w_b, w_c, w_n, w_t, w_g, w_2, w_7]
    rfl
  · have hk : x.k = 8 := h
    have hp : x.pure = x.bare.pure := by rw [Mg.bare_8 hk]; exact o.symm
    have hB := Mg.B_eqv _ _ hp
    have o2 := o.symm
    unfold Mg.pure onlyP8 at o2
    simp only [Mp.mk.injEq, and_true, true_and] at o2
    unfold Mg.good
    rw [hB]
    have hd : decide (1 ≤ x.k ∧ x.k ≤ 8) = true := by rw [hk]; decide
    rw [hd]
    show x.may = true
    unfold Mg.may Mg.mayL
    rw [hk]
    obtain ⟨z_k, z_e, z_l, z_v, z_s, z_q, z_rs, z_vt, z_ce, z_cl, z_cv, z_he, z_ne, z_d, z_ct, z_cs⟩ := o2
    have w_e : inB x.e 1048576 = true := by rw [z_e]; decide
    have w_l : inB x.l 64 = true := by rw [z_l]; decide
    have w_v : inB x.v 1099511627776 = true := by rw [z_v]; decide
    have w_s : inB x.s 1099511627776 = true := by rw [z_s]; decide
    have w_b : batMay x.q x.rs = true := may_bat (by rw [z_q, z_rs]; exact ⟨(fun e => by cases e), (by simp), fun r hr => by cases hr⟩)
    have w_c : chgMay x.ce x.cl x.cv x.he = true := may_chg (by rw [z_ce, z_cl, z_cv, show x.he.xs.map Hd.pure = [] from z_he]; exact ⟨(by decide), (by decide), (by decide), (by simp), fun r hr => by cases hr⟩)
    have w_n : Go.Proofs.Ytahdmajppnffeaa.mayL 64 Ev.may x.ne.xs = true := by rw [z_ne]; rfl
    have w_t : decide ((x.st.size : Int) ≤ 4194304) = true := decide_eq_true k.1
    have w_g : sgsMay x.sg = true := may_sgs k.2
    have w_2 : (if (8 : Int) = 2 then x.vt.may else true) = true := rfl
    have w_7 : (if (8 : Int) = 7 then certMay x.ct x.cs else true) = true := rfl
    rw [w_e, w_l, w_v, w_s, w_b, w_c, w_n, w_t, w_g, w_2, w_7]
    rfl
end Go.Proofs.Ytahdmajppnffeaa
namespace Go.Proofs.Ytahdmajppnffeaa
open Go.RowKit
open Sha Tal
set_option linter.unusedVariables false
set_option linter.unusedSimpArgs false
theorem Bs.app {a b : List Int} (h : Bs a) (k : Bs b) : Bs (a ++ b) := fun z hz => (List.mem_append.1 hz).elim (h z) (k z)
theorem Bs.flat {α : Type} {f : α → List Int} {xs : List α} (h : ∀ x ∈ xs, Bs (f x)) : Bs (xs.flatMap f) := fun z hz => by
  obtain ⟨x, hx, hz⟩ := List.mem_flatMap.1 hz
  exact h x hx z hz
theorem put_bs {n m : Int} (h : 0 ≤ n ∧ n ≤ m) (hm : m ≤ 9223372036854775807) : Bs (putL n) := putL_byte n (by omega)
theorem len_bs (n : Nat) (m : Int) (h : (n : Int) ≤ m) (hm : m ≤ 9223372036854775807) : Bs (putL (n : Int)) := putL_byte n (by omega)
theorem text_bs {s : ByteArray} {m : Int} (h : (s.size : Int) ≤ m) (hm : m ≤ 9223372036854775807) : Bs (textL s) := (len_bs _ m h hm).app (strL_byte s)
theorem sg_bs {g : Sg} (h : sgOk g) : Bs (sgL g) := (put_bs h.1 (by decide)).app h.2.2
theorem ev_bs {g : Ev} (h : evOk g) : Bs (evL g) := (put_bs h.1 (by decide)).app ((text_bs h.2.1 (by decide)).app h.2.2.2)
theorem vt_bs {x : Vt} (h : vtOk x) : Bs (vtL x) := by
  obtain ⟨h1, h2, h3, h4, h5, h6⟩ := h
  refine Bs.app (Bs.flat fun n hn => ?_) h6
  simp only [List.mem_cons, List.not_mem_nil, or_false] at hn
  rcases hn with rfl | rfl | rfl | rfl
  · exact put_bs (m := 2) ⟨by omega, by omega⟩ (by decide)
  · exact put_bs h2 (by decide)
  · exact put_bs h3 (by decide)
  · exact put_bs h4 (by decide)
theorem rq_bs {r : Rq} (h : rqOk r) : Bs (rqL r) := (((put_bs h.1 (by decide)).app (put_bs h.2.1 (by decide))).app (text_bs h.2.2.1 (by decide))).app h.2.2.2.2
theorem ba_bs {c : Bool × List Rq} (h : baOk c) : Bs (baL c) := by
  obtain ⟨q, rs⟩ := c
  cases q
  · have e : baL (false, rs) = putL ((rs.length : Int) + 1) ++ rs.flatMap rqL := by
      unfold baL batL
      rw [if_neg (show ¬ (false = true) by decide), List.length_map, List.flatMap_map]
      rfl
    rw [e]
    have h2 : rs.length ≤ 4 := h.2.1
    exact Bs.app (putL_byte _ (by omega)) (Bs.flat fun r hr => rq_bs (h.2.2 r hr))
  · have e : baL (true, rs) = putL 0 := rfl
    rw [e]
    exact putL_byte 0 (by omega)
theorem sgs_bs {xs : List Sg} (h : (xs.length : Int) ≤ 64 ∧ ∀ x ∈ xs, sgOk x) : Bs (sgsL xs) := (len_bs _ 64 h.1 (by decide)).app (Bs.flat fun x hx => sg_bs (h.2 x hx))
theorem evs_bs {xs : List Ev} (h : (xs.length : Int) ≤ 64 ∧ ∀ x ∈ xs, evOk x) : Bs (evsL xs) := (len_bs _ 64 h.1 (by decide)).app (Bs.flat fun x hx => ev_bs (h.2 x hx))
theorem ce_bs {v : Vt} {xs : List Sg} (h : ceOk (v, xs)) : Bs (ctL v xs) := (vt_bs h.1).app (sgs_bs h.2)
theorem hp_bs {x : Hp} (h : hpOk x) : Bs (hpL x) := (ba_bs h.1).app (ce_bs h.2)
theorem cp_bs {c : Cp} (h : cpOk c) : Bs (cpL c) := (put_bs h.1 (by decide)).app ((put_bs h.2.1 (by decide)).app ((put_bs h.2.2.1 (by decide)).app ((len_bs _ 4 h.2.2.2.1 (by decide)).app (Bs.flat fun x hx => hp_bs (h.2.2.2.2 x hx)))))
theorem Mp.bytes_bs {m : Mp} (h : m.good) : Bs m.bytes := by
  rcases h with ⟨h, k⟩ | ⟨h, k⟩ | ⟨h, k⟩ | ⟨h, k⟩ | ⟨h, k⟩ | ⟨h, k⟩ | ⟨h, k⟩ | ⟨h, k⟩
  · have e : m.bytes = putL 1 ++ body1 m := by unfold Mp.bytes; rw [h]; rfl
    rw [e]; exact (show Bs (putL 1) from putL_byte 1 (by omega)).app ((put_bs k.1.1 (by decide)).app ((put_bs k.1.2.1 (by decide)).app (ba_bs k.1.2.2)))
  · have e : m.bytes = putL 2 ++ body2 m := by unfold Mp.bytes; rw [h]; rfl
    rw [e]; exact (show Bs (putL 2) from putL_byte 2 (by omega)).app (vt_bs k.1)
  · have e : m.bytes = putL 3 ++ body3 m := by unfold Mp.bytes; rw [h]; rfl
    rw [e]; exact (show Bs (putL 3) from putL_byte 3 (by omega)).app (cp_bs k.1)
  · have e : m.bytes = putL 4 ++ body4 m := by unfold Mp.bytes; rw [h]; rfl
    rw [e]; exact (show Bs (putL 4) from putL_byte 4 (by omega)).app ((put_bs k.1.1 (by decide)).app ((put_bs k.1.2.1 (by decide)).app ((put_bs k.1.2.2.1 (by decide)).app (evs_bs k.1.2.2.2))))
  · have e : m.bytes = putL 5 ++ body5 m := by unfold Mp.bytes; rw [h]; rfl
    rw [e]; exact (show Bs (putL 5) from putL_byte 5 (by omega)).app ((put_bs k.1.1 (by decide)).app k.1.2.2)
  · have e : m.bytes = putL 6 ++ body6 m := by unfold Mp.bytes; rw [h]; rfl
    rw [e]; exact (show Bs (putL 6) from putL_byte 6 (by omega)).app ((put_bs k.1.1 (by decide)).app (put_bs k.1.2 (by decide)))
  · have e : m.bytes = putL 7 ++ body7 m := by unfold Mp.bytes; rw [h]; rfl
    rw [e]; exact (show Bs (putL 7) from putL_byte 7 (by omega)).app ((ba_bs k.1.1).app (ce_bs k.1.2))
  · have e : m.bytes = putL 8 ++ body8 m := by unfold Mp.bytes; rw [h]; rfl
    rw [e]; exact (show Bs (putL 8) from putL_byte 8 (by omega)).app ((text_bs k.1.1 (by decide)).app (sgs_bs k.1.2))
theorem flat_part {α : Type} {f : α → List Int} {xs : List α} {x : α} (h : x ∈ xs) : (f x).length ≤ (xs.flatMap f).length := by
  induction xs with
  | nil => cases h
  | cons y ys ih =>
    rw [List.flatMap_cons, List.length_append]
    rcases List.mem_cons.1 h with rfl | h
    · omega
    · have := ih h; omega
theorem rs_few {q : Bool} {x : Sl Rq} (h : batMay q x = true) : x.xs.length ≤ 200 ∧ ∀ r ∈ x.xs, r.s.size ≤ 4000 := by
  unfold batMay at h
  cases q
  · obtain ⟨h1, h2⟩ := mayL_iff.1 h
    refine ⟨by omega, fun r hr => ?_⟩
    have := h2 r hr
    unfold Rq.may at this
    rw [Bool.and_eq_true, Bool.and_eq_true] at this
    have := of_decide_eq_true this.2.2
    omega
  · have e : x.xs.length = 0 := of_decide_eq_true h
    have e2 : x.xs = [] := List.eq_nil_of_length_eq_zero e
    exact ⟨by omega, fun r hr => by rw [e2] at hr; cases hr⟩
theorem fine_pure {x : Mg} (h : x.pure.good) (hl : x.bytes.length ≤ 40000) : x.Fine := by
  have hg := pure_good h
  unfold Mg.good at hg
  rw [Bool.and_eq_true, Bool.and_eq_true] at hg
  have hm := hg.2.2
  have hk := of_decide_eq_true hg.1
  unfold Mg.may Mg.mayL at hm
  simp only [Bool.and_eq_true] at hm
  obtain ⟨⟨e1, e2⟩, ⟨e3, e4⟩, e5, e6, e7, e8, e9, e10, e11⟩ := hm
  have b1 := (inB_iff.1 e1).2
  have b2 := (inB_iff.1 e2).2
  have b3 := (inB_iff.1 e3).2
  have b4 := (inB_iff.1 e4).2
  unfold chgMay at e8
  simp only [Bool.and_eq_true] at e8
  obtain ⟨⟨c1, c2, c3⟩, c4⟩ := e8
  have d1 := (inB_iff.1 c1).2
  have d2 := (inB_iff.1 c2).2
  have d3 := (inB_iff.1 c3).2
  obtain ⟨c5, c6⟩ := mayL_iff.1 c4
  obtain ⟨n1, n2⟩ := mayL_iff.1 e9
  have g1 := (mayL_iff.1 e11).1
  have hcs : x.cs.xs.length ≤ 1000 := by
    rcases h with ⟨_, k, o⟩ | ⟨_, k, o⟩ | ⟨_, k, o⟩ | ⟨_, k, o⟩ | ⟨_, k, o⟩ | ⟨_, k, o⟩ | ⟨_, k, o⟩ | ⟨_, k, o⟩
    case inr.inr.inr.inr.inr.inr.inl =>
      have := k.2.2.1
      have : ((x.cs.xs.length : Nat) : Int) ≤ 64 := this
      omega
    all_goals
      have e : [] = x.cs.xs := congrArg Mp.cs o
      rw [← e]
      simp
  have hne : ∀ g ∈ x.ne.xs, g.s.size ≤ 1000000 := by
    rcases h with ⟨_, k, o⟩ | ⟨_, k, o⟩ | ⟨_, k, o⟩ | ⟨h4, k, o⟩ | ⟨_, k, o⟩ | ⟨_, k, o⟩ | ⟨_, k, o⟩ | ⟨_, k, o⟩
    case inr.inr.inr.inl =>
      intro g hgm
      have h4 : x.k = 4 := h4
      have e : x.bytes = putL 4 ++ ([x.e, x.l, x.v].flatMap putL ++ evsL x.ne.xs) := by unfold Mg.bytes Mg.body; rw [h4]; rfl
      rw [e, List.length_append, List.length_append] at hl
      have h5 := flat_part (f := evL) hgm
      unfold evsL at hl
      rw [List.length_append] at hl
      have h6 : (strL g.s).length ≤ (evL g).length := by unfold evL textL; simp only [List.length_append]; omega
      rw [strL_length] at h6
      omega
    all_goals
      have e : [] = x.ne.xs := congrArg Mp.ne o
      rw [← e]
      intro g hgm
      cases hgm
  have hst : x.st.size ≤ 1000000 := by
    rcases h with ⟨_, k, o⟩ | ⟨_, k, o⟩ | ⟨_, k, o⟩ | ⟨_, k, o⟩ | ⟨_, k, o⟩ | ⟨_, k, o⟩ | ⟨_, k, o⟩ | ⟨h8, k, o⟩
    case inr.inr.inr.inr.inr.inr.inr =>
      have h8 : x.k = 8 := h8
      have e : x.bytes = putL 8 ++ (textL x.st ++ sgsL x.sg.xs) := by unfold Mg.bytes Mg.body; rw [h8]; rfl
      rw [e, List.length_append, List.length_append] at hl
      unfold textL at hl
      rw [List.length_append, strL_length] at hl
      omega
    all_goals
      have e : (⟨#[]⟩ : ByteArray) = x.st := congrArg Mp.st o
      rw [← e]
      decide
  exact ⟨by omega, by omega, by omega, by omega, by omega, by omega, by omega, (rs_few e7).1, (rs_few e7).2, by omega, fun g hgm => by
    have := c6 g hgm
    unfold Hd.may certMay at this
    simp only [Bool.and_eq_true] at this
    have s1 := (mayL_iff.1 this.2.2).1
    exact ⟨by omega, (rs_few this.1).1, (rs_few this.1).2⟩, by omega, hne, hcs, by omega, hst, hl⟩
end Go.Proofs.Ytahdmajppnffeaa
namespace Go.Proofs.Ytahdmajppnffeaa
open Go.ChangeShapes Go.WideShapes Go.ChangeAt Go.RowKit
open Sha Tal
set_option linter.unusedVariables false
set_option linter.constructorNameAsVariable false
theorem own : ownKnob Try.prog.godebug = none := by kernel_rfl
theorem laidOut : laidOutB Try.prog = true := by kernel_rfl
theorem wf64 {z : Int} (h : (Lit.int .i64 z).wf = true) : -9223372036854775808 ≤ z ∧ z ≤ 9223372036854775807 := by
  simp only [Lit.wf, Bool.and_eq_true, decide_eq_true_eq] at h
  exact h
theorem some_at {α : Type} {xs : List α} {n i : Nat} (hl : xs.length = n) (hi : i < n) : ∃ y, xs[i]? = some y := ⟨xs[i]'(by omega), List.getElem?_eq_getElem (by omega)⟩
theorem drop_one {α : Type} {l : List α} {o : Nat} {v : α} (h : (l.drop o).take 1 = [v]) : l[o]? = some v := by
  have := congrArg (·[0]?) h
  simpa [List.getElem?_take, List.getElem?_drop] using this
section
variable {H : Type} {enc : TypeId × Value → H} {W : World} {b : Nat} {sp : Nat → Bool} {held : Bool} {m : Nat}
theorem int_at {l : List Value} {o : Nat} {y : DataW H × List MemPlace} (h : DataW.trod enc Try.prog W b sp held m 3 ((l.drop o).take 1) = some y) : ∃ z, l[o]? = some (.int .i64 z) ∧ -9223372036854775808 ≤ z ∧ z ≤ 9223372036854775807 := by
  obtain ⟨z, hc, rfl, hw⟩ := DataW.trod_int Try.underlying3 h
  exact ⟨z, drop_one hc, wf64 hw⟩
theorem bytes_at {t n : Nat} {l : List Value} {y : DataW H × List MemPlace} (hu : Try.prog.underlying t = some (.array n 5)) (hct : Try.prog.cellsOf t = n) (h : DataW.trod enc Try.prog W b sp held m t l = some y) : ∃ zs : List Int, l = v8 zs ∧ zs.length = n ∧ ∀ z ∈ zs, 0 ≤ z ∧ z < 256 := by
  have hce : Try.prog.cellsOf 5 = 1 := by kernel_rfl
  cases m with
  | zero => simp [DataW.trod] at h
  | succ m =>
    simp only [DataW.trod, hu, hce, hct, Nat.mul_one] at h
    split at h
    · rename_i hsz
      obtain ⟨xs, hm, hx⟩ := Option.map_eq_some_iff.1 h
      have key : ∀ i, i < n → ∃ z, l[i]? = some (.int .u8 z) ∧ 0 ≤ z ∧ z < 256 := fun i hi => by
        obtain ⟨y, hy, hf⟩ := Lib.mapM_at hm i i (by simp [hi])
        obtain ⟨z, hc, rfl, hw⟩ := DataW.trod_int Try.underlying5 hf
        refine ⟨z, drop_one hc, ?_⟩
        simp [Lit.wf, IntKind.min, IntKind.max, IntKind.signed, IntKind.bits] at hw
        omega
      have hln : l.length = n := by simpa using hsz
      refine ⟨l.map (fun v => match v with | .int _ z => z | _ => 0), ?_, by simpa using hln, ?_⟩
      · apply List.ext_getElem?
        intro i
        by_cases hi : i < n
        · obtain ⟨z, hz, _⟩ := key i hi
          simp only [v8, List.map_map, List.getElem?_map, hz, Option.map_some]
          rfl
        · rw [List.getElem?_eq_none (by omega), List.getElem?_eq_none (by simp [v8]; omega)]
      · intro z hz
        obtain ⟨u, hu, rfl⟩ := List.mem_map.1 hz
        obtain ⟨i, hi, rfl⟩ := List.mem_iff_getElem.1 hu
        obtain ⟨z, hz, hb⟩ := key i (by omega)
        rw [List.getElem?_eq_getElem hi] at hz
        rw [Option.some.inj hz]
        exact hb
    · cases h
end
set_option maxRecDepth 100000 in
theorem vote_of {H : Type} {enc : TypeId × Value → H} {W : World} {b : Nat} {sp : Nat → Bool} {held : Bool} {fuel : Nat} {l : List Value} {x : DataW H × List MemPlace}
    (h : DataW.trod enc Try.prog W b sp held fuel 28 l = some x) : ∃ r : Vt, l = r.cells ∧ r.ok := by
  have hct : Try.prog.cellsOf 28 = 36 := by kernel_rfl
  have hci : Try.prog.cellsOf 3 = 1 := by kernel_rfl
  have hcg : Try.prog.cellsOf 26 = 32 := by kernel_rfl
  obtain ⟨xs, m, _, rfl, hcl, hl, hf⟩ := DataW.trod_struct Try.underlying28 h
  rw [hct] at hcl
  have hl : xs.length = 5 := hl
  have h0 : DataW.trod enc Try.prog W b sp held m 3 ((l.drop 0).take (Try.prog.cellsOf 3)) = xs[0]? := hf 0 _ rfl
  have h1 : DataW.trod enc Try.prog W b sp held m 3 ((l.drop 1).take (Try.prog.cellsOf 3)) = xs[1]? := hf 1 _ rfl
  have h2 : DataW.trod enc Try.prog W b sp held m 3 ((l.drop 2).take (Try.prog.cellsOf 3)) = xs[2]? := hf 2 _ rfl
  have h3 : DataW.trod enc Try.prog W b sp held m 3 ((l.drop 3).take (Try.prog.cellsOf 3)) = xs[3]? := hf 3 _ rfl
  have h4 : DataW.trod enc Try.prog W b sp held m 26 ((l.drop 4).take (Try.prog.cellsOf 26)) = xs[4]? := hf 4 _ rfl
  rw [hci] at h0 h1 h2 h3
  rw [hcg] at h4
  obtain ⟨y0, e0⟩ := some_at hl (show 0 < 5 by omega)
  obtain ⟨y1, e1⟩ := some_at hl (show 1 < 5 by omega)
  obtain ⟨y2, e2⟩ := some_at hl (show 2 < 5 by omega)
  obtain ⟨y3, e3⟩ := some_at hl (show 3 < 5 by omega)
  obtain ⟨y4, e4⟩ := some_at hl (show 4 < 5 by omega)
  obtain ⟨k, g0, _, b0⟩ := int_at (h0.trans e0)
  obtain ⟨ep, g1, _, b1⟩ := int_at (h1.trans e1)
  obtain ⟨vi, g2, _, b2⟩ := int_at (h2.trans e2)
  obtain ⟨sl, g3, _, b3⟩ := int_at (h3.trans e3)
  obtain ⟨d, g4, hd, hb⟩ := bytes_at Try.underlying26 hcg (h4.trans e4)
  refine ⟨⟨k, ep, vi, sl, d⟩, ?_, ⟨b0, b1, b2, b3, hd, hb⟩⟩
  show l = .int .i64 k :: .int .i64 ep :: .int .i64 vi :: .int .i64 sl :: v8 d
  match l, hcl with
  | a0 :: a1 :: a2 :: a3 :: l, hcl =>
    simp at g0 g1 g2 g3 hcl
    have : List.take 32 l = v8 d := g4
    rw [List.take_of_length_le (by omega)] at this
    subst g0 g1 g2 g3 this
    rfl
theorem cells_some {w : World} {base n : Nat} {x : Addr} {cs : List Value} (h : w.cells? base x n = some cs) : cs.length = n ∧ ∀ j v, cs[j]? = some v → w.cell? (x.add j) = some v := by
  unfold World.cells? at h
  split at h
  · have hl := Lib.mapM_length h
    refine ⟨by simpa using hl, fun j v hv => ?_⟩
    have hj : j < n := by
      have := (List.getElem?_eq_some_iff.1 hv).1
      have : cs.length = n := by simpa using hl
      omega
    obtain ⟨y, hy, hf⟩ := Lib.mapM_at h j j (by simp [hj])
    rw [hv] at hy
    exact hf.trans hy.symm
  · cases h
theorem flat_getA {α : Type} {f : α → List Value} {k : Nat} (hk : 0 < k) (R : Nat → α) : ∀ (n : Nat), (∀ i, i < n → (f (R i)).length = k) → ∀ j, j < n * k → (((List.range n).map R).flatMap f)[j]? = (f (R (j / k)))[j % k]? := by
  intro n
  induction n with
  | zero => intro _ j hj; omega
  | succ n ih =>
    intro hR j hj
    have hl : (((List.range n).map R).flatMap f).length = n * k := by
      have := flat_len_k (f := f) (k := k) (ys := (List.range n).map R) (fun y hy => by
        obtain ⟨i, hi, rfl⟩ := List.mem_map.1 hy
        exact hR i (by have := List.mem_range.1 hi; omega))
      simpa using this
    rw [List.range_succ, List.map_append, List.flatMap_append]
    by_cases h : j < n * k
    · rw [List.getElem?_append_left (by omega), ih (fun i hi => hR i (by omega)) j h]
    · rw [List.getElem?_append_right (by omega), hl]
      have e0 : j = (j - n * k) + k * n := by rw [Nat.mul_comm k n]; omega
      have hlt : j - n * k < k := by rw [Nat.add_mul, Nat.one_mul] at hj; omega
      have e1 : j / k = n := by rw [e0, Nat.add_mul_div_left _ _ hk, Nat.div_eq_of_lt hlt]; omega
      have e2 : j % k = j - n * k := by
        have := congrArg (· % k) e0
        simp only [Nat.add_mul_mod_self_left] at this
        rw [this, Nat.mod_eq_of_lt hlt]
      rw [e1, e2]
      simp
set_option maxRecDepth 100000 in
theorem rows_of {α : Type} [Inhabited α] (f : α → List Value) (ok : α → Prop) (k : Nat) (hk : 0 < k) (tl te : TypeId) (hu : Try.prog.underlying tl = some (.slice te)) (hct : Try.prog.cellsOf te = k) (hf : ∀ y, ok y → (f y).length = k)
    {H : Type} {enc : TypeId × Value → H} {W : World} {b : Nat} {sp : Nat → Bool} {held : Bool} {fuel : Nat} {l : List Value} {x : DataW H × List MemPlace}
    (hel : ∀ (m : Nat) (l : List Value) (z : DataW H × List MemPlace), DataW.trod enc Try.prog W b sp held m te l = some z → ∃ y, l = f y ∧ ok y)
    (h : DataW.trod enc Try.prog W b sp held fuel tl l = some x) : ∃ (a : Option Addr) (cap : Nat) (ys : List α), l = [.slice a ys.length cap] ∧ ys.length ≤ cap ∧ cap ≤ maxLen ∧ (∀ y ∈ ys, ok y) ∧ RowOf f W a ys := by
  rcases Deep.open_slice hu h with ⟨rfl, _⟩ | ⟨a, len, cap, m, n, D, Pl, rfl, hb, hlc, hcm, hm, _, hel2⟩
  · exact ⟨none, 0, [], rfl, by simp, by simp, by simp, .inl rfl⟩
  · rw [hct] at hel2
    have hml : len ≤ m := by rw [hm]; split <;> omega
    have key : ∀ i, i < len → ∃ y : α, W.cells? b (a.add (i * k)) k = some (f y) ∧ ok y := fun i hi => by
      obtain ⟨cs, h1, h2⟩ := hel2 i (by omega)
      obtain ⟨y, rfl, hy⟩ := hel _ _ _ h2
      exact ⟨y, h1, hy⟩
    obtain ⟨R, hR⟩ := Deep.choose_lt key
    refine ⟨some a, cap, (List.range len).map R, by simp, by simpa using hlc, hcm, ?_, ?_⟩
    · intro y hy
      obtain ⟨i, hi, rfl⟩ := List.mem_map.1 hy
      exact (hR i (List.mem_range.1 hi)).2
    · by_cases h0 : len = 0
      · left; simp [h0]
      · right
        obtain ⟨bb, off, spot⟩ := a
        have hlen0 := hf _ (hR 0 (by omega)).2
        have hc := (cells_some (hR 0 (by omega)).1).2 0 ((f (R 0))[0]'(by omega)) (List.getElem?_eq_getElem _)
        have hspot : spot = none := by simpa [Addr.add] using World.cell?_spot hc
        subst hspot
        refine ⟨bb, off, rfl, ?_, fun j v hv => ?_⟩
        · have := World.block_lt_of_cell? W _ hc; simpa [Addr.add] using this
        · have hj : j < len * k := by
            have := (List.getElem?_eq_some_iff.1 hv).1
            rw [flat_len_k (k := k)] at this
            · simpa using this
            · intro y hy
              obtain ⟨i, hi, rfl⟩ := List.mem_map.1 hy
              exact hf _ (hR i (List.mem_range.1 hi)).2
          rw [flat_getA hk R len (fun i hi => hf _ (hR i hi).2) j hj] at hv
          have hdm : j / k < len := (Nat.div_lt_iff_lt_mul hk).2 hj
          have := (cells_some (hR (j / k) hdm).1).2 _ _ hv
          rw [Addr.add_mid, Addr.add_mid] at this
          rw [← this]
          congr 2
          have := Nat.div_add_mod j k
          rw [Nat.mul_comm] at this
          omega
theorem take_cut {α : Type} (l : List α) (o n k : Nat) : (l.drop o).take (n + k) = (l.drop o).take n ++ (l.drop (o + n)).take k := by
  rw [List.take_add, List.drop_drop]
theorem take_whole {α : Type} {l : List α} {n : Nat} (h : l.length = n) : l = (l.drop 0).take n := by
  rw [List.drop_zero, List.take_of_length_le (by omega)]
set_option maxRecDepth 100000 in
theorem sign_of {H : Type} {enc : TypeId × Value → H} {W : World} {b : Nat} {sp : Nat → Bool} {held : Bool} {fuel : Nat} {l : List Value} {x : DataW H × List MemPlace}
    (h : DataW.trod enc Try.prog W b sp held fuel 86 l = some x) : ∃ r : Sg, l = SgE.f r ∧ SgE.ok r := by
  have hct : Try.prog.cellsOf 86 = 17 := by kernel_rfl
  obtain ⟨xs, m, _, rfl, hcl, hl, hf⟩ := DataW.trod_struct Try.underlying86 h
  rw [hct] at hcl
  have hl : xs.length = 2 := hl
  have h0 : DataW.trod enc Try.prog W b sp held m 3 ((l.drop 0).take (Try.prog.cellsOf 3)) = xs[0]? := hf 0 _ rfl
  rw [show Try.prog.cellsOf 3 = 1 by kernel_rfl] at h0
  obtain ⟨y0, e0⟩ := some_at hl (show 0 < 2 by omega)
  obtain ⟨z0, g0, _, wz0⟩ := DataW.trod_int Try.underlying3 (h0.trans e0)
  have bz0 := wf64 wz0
  have h1 : DataW.trod enc Try.prog W b sp held m 53 ((l.drop 1).take (Try.prog.cellsOf 53)) = xs[1]? := hf 1 _ rfl
  rw [show Try.prog.cellsOf 53 = 16 by kernel_rfl] at h1
  obtain ⟨y1, e1⟩ := some_at hl (show 1 < 2 by omega)
  obtain ⟨z1, g1, lz1, bz1⟩ := bytes_at Try.underlying53 (by kernel_rfl) (h1.trans e1)
  refine ⟨⟨z0, z1⟩, ?_, ⟨lz1, bz1, bz0.1, bz0.2⟩⟩
  have e := take_whole (n := 1 + (16)) hcl
  rw [take_cut, g0, g1] at e
  first | exact e | (rw [e]; rfl) | (rw [e]; simp)
set_option maxRecDepth 100000 in
theorem env_of {H : Type} {enc : TypeId × Value → H} {W : World} {b : Nat} {sp : Nat → Bool} {held : Bool} {fuel : Nat} {l : List Value} {x : DataW H × List MemPlace}
    (h : DataW.trod enc Try.prog W b sp held fuel 55 l = some x) : ∃ r : Ev, l = EvE.f r ∧ EvE.ok r := by
  have hct : Try.prog.cellsOf 55 = 18 := by kernel_rfl
  obtain ⟨xs, m, _, rfl, hcl, hl, hf⟩ := DataW.trod_struct Try.underlying55 h
  rw [hct] at hcl
  have hl : xs.length = 3 := hl
  have h0 : DataW.trod enc Try.prog W b sp held m 3 ((l.drop 0).take (Try.prog.cellsOf 3)) = xs[0]? := hf 0 _ rfl
  rw [show Try.prog.cellsOf 3 = 1 by kernel_rfl] at h0
  obtain ⟨y0, e0⟩ := some_at hl (show 0 < 3 by omega)
  obtain ⟨z0, g0, _, wz0⟩ := DataW.trod_int Try.underlying3 (h0.trans e0)
  have bz0 := wf64 wz0
  have h1 : DataW.trod enc Try.prog W b sp held m 9 ((l.drop 1).take (Try.prog.cellsOf 9)) = xs[1]? := hf 1 _ rfl
  rw [show Try.prog.cellsOf 9 = 1 by kernel_rfl] at h1
  obtain ⟨y1, e1⟩ := some_at hl (show 1 < 3 by omega)
  obtain ⟨z1, g1, _, bz1⟩ := DataW.trod_string Try.underlying9 (h1.trans e1)
  have h2 : DataW.trod enc Try.prog W b sp held m 53 ((l.drop 2).take (Try.prog.cellsOf 53)) = xs[2]? := hf 2 _ rfl
  rw [show Try.prog.cellsOf 53 = 16 by kernel_rfl] at h2
  obtain ⟨y2, e2⟩ := some_at hl (show 2 < 3 by omega)
  obtain ⟨z2, g2, lz2, bz2⟩ := bytes_at Try.underlying53 (by kernel_rfl) (h2.trans e2)
  refine ⟨⟨z0, z1, z2⟩, ?_, ⟨lz2, bz2, bz1, bz0.1, bz0.2⟩⟩
  have e := take_whole (n := 1 + (1 + (16))) hcl
  rw [take_cut, take_cut, g0, g1, g2] at e
  first | exact e | (rw [e]; rfl) | (rw [e]; simp)
set_option maxRecDepth 100000 in
theorem req_of {H : Type} {enc : TypeId × Value → H} {W : World} {b : Nat} {sp : Nat → Bool} {held : Bool} {fuel : Nat} {l : List Value} {x : DataW H × List MemPlace}
    (h : DataW.trod enc Try.prog W b sp held fuel 73 l = some x) : ∃ r : Rq, l = RqE.f r ∧ RqE.ok r := by
  have hct : Try.prog.cellsOf 73 = 19 := by kernel_rfl
  obtain ⟨xs, m, _, rfl, hcl, hl, hf⟩ := DataW.trod_struct Try.underlying73 h
  rw [hct] at hcl
  have hl : xs.length = 4 := hl
  have h0 : DataW.trod enc Try.prog W b sp held m 3 ((l.drop 0).take (Try.prog.cellsOf 3)) = xs[0]? := hf 0 _ rfl
  rw [show Try.prog.cellsOf 3 = 1 by kernel_rfl] at h0
  obtain ⟨y0, e0⟩ := some_at hl (show 0 < 4 by omega)
  obtain ⟨z0, g0, _, wz0⟩ := DataW.trod_int Try.underlying3 (h0.trans e0)
  have bz0 := wf64 wz0
  have h1 : DataW.trod enc Try.prog W b sp held m 3 ((l.drop 1).take (Try.prog.cellsOf 3)) = xs[1]? := hf 1 _ rfl
  rw [show Try.prog.cellsOf 3 = 1 by kernel_rfl] at h1
  obtain ⟨y1, e1⟩ := some_at hl (show 1 < 4 by omega)
  obtain ⟨z1, g1, _, wz1⟩ := DataW.trod_int Try.underlying3 (h1.trans e1)
  have bz1 := wf64 wz1
  have h2 : DataW.trod enc Try.prog W b sp held m 9 ((l.drop 2).take (Try.prog.cellsOf 9)) = xs[2]? := hf 2 _ rfl
  rw [show Try.prog.cellsOf 9 = 1 by kernel_rfl] at h2
  obtain ⟨y2, e2⟩ := some_at hl (show 2 < 4 by omega)
  obtain ⟨z2, g2, _, bz2⟩ := DataW.trod_string Try.underlying9 (h2.trans e2)
  have h3 : DataW.trod enc Try.prog W b sp held m 53 ((l.drop 3).take (Try.prog.cellsOf 53)) = xs[3]? := hf 3 _ rfl
  rw [show Try.prog.cellsOf 53 = 16 by kernel_rfl] at h3
  obtain ⟨y3, e3⟩ := some_at hl (show 3 < 4 by omega)
  obtain ⟨z3, g3, lz3, bz3⟩ := bytes_at Try.underlying53 (by kernel_rfl) (h3.trans e3)
  refine ⟨⟨z0, z1, z2, z3⟩, ?_, ⟨lz3, bz3, bz2, bz0.1, bz0.2, bz1.1, bz1.2⟩⟩
  have e := take_whole (n := 1 + (1 + (1 + (16)))) hcl
  rw [take_cut, take_cut, take_cut, g0, g1, g2, g3] at e
  first | exact e | (rw [e]; rfl) | (rw [e]; simp)
set_option maxRecDepth 100000 in
theorem signs_of {H : Type} {enc : TypeId × Value → H} {W : World} {b : Nat} {sp : Nat → Bool} {held : Bool} {fuel : Nat} {l : List Value} {x : DataW H × List MemPlace}
    (h : DataW.trod enc Try.prog W b sp held fuel 33 l = some x) : ∃ y : Sl Sg, l = [y.val] ∧ y.At SgE W := by
  obtain ⟨a, cap, ys, h1, h2, h3, h4, h5⟩ := rows_of SgE.f SgE.ok 17 (by decide) 33 86 Try.underlying33 (by kernel_rfl) SgE.len (fun m l z hz => sign_of hz) h
  exact ⟨⟨a, cap, ys⟩, h1, Nat.le_trans h2 h3, h4, h5⟩
set_option maxRecDepth 100000 in
theorem envs_of {H : Type} {enc : TypeId × Value → H} {W : World} {b : Nat} {sp : Nat → Bool} {held : Bool} {fuel : Nat} {l : List Value} {x : DataW H × List MemPlace}
    (h : DataW.trod enc Try.prog W b sp held fuel 32 l = some x) : ∃ y : Sl Ev, l = [y.val] ∧ y.At EvE W := by
  obtain ⟨a, cap, ys, h1, h2, h3, h4, h5⟩ := rows_of EvE.f EvE.ok 18 (by decide) 32 55 Try.underlying32 (by kernel_rfl) EvE.len (fun m l z hz => env_of hz) h
  exact ⟨⟨a, cap, ys⟩, h1, Nat.le_trans h2 h3, h4, h5⟩
set_option maxRecDepth 100000 in
theorem reqs_of {H : Type} {enc : TypeId × Value → H} {W : World} {b : Nat} {sp : Nat → Bool} {held : Bool} {fuel : Nat} {l : List Value} {x : DataW H × List MemPlace}
    (h : DataW.trod enc Try.prog W b sp held fuel 22 l = some x) : ∃ y : Sl Rq, l = [y.val] ∧ y.At RqE W := by
  obtain ⟨a, cap, ys, h1, h2, h3, h4, h5⟩ := rows_of RqE.f RqE.ok 19 (by decide) 22 73 Try.underlying22 (by kernel_rfl) RqE.len (fun m l z hz => req_of hz) h
  exact ⟨⟨a, cap, ys⟩, h1, Nat.le_trans h2 h3, h4, h5⟩
set_option maxRecDepth 100000 in
theorem batch_of {H : Type} {enc : TypeId × Value → H} {W : World} {b : Nat} {sp : Nat → Bool} {held : Bool} {fuel : Nat} {l : List Value} {x : DataW H × List MemPlace}
    (h : DataW.trod enc Try.prog W b sp held fuel 24 l = some x) : ∃ (q : Bool) (r : Sl Rq), l = [.bool q, r.val] ∧ r.At RqE W := by
  have hct : Try.prog.cellsOf 24 = 2 := by kernel_rfl
  obtain ⟨xs, m, _, rfl, hcl, hl, hf⟩ := DataW.trod_struct Try.underlying24 h
  rw [hct] at hcl
  have hl : xs.length = 2 := hl
  have h0 : DataW.trod enc Try.prog W b sp held m 4 ((l.drop 0).take (Try.prog.cellsOf 4)) = xs[0]? := hf 0 _ rfl
  rw [show Try.prog.cellsOf 4 = 1 by kernel_rfl] at h0
  obtain ⟨y0, e0⟩ := some_at hl (show 0 < 2 by omega)
  obtain ⟨z0, g0, _⟩ := DataW.trod_bool Try.underlying4 (h0.trans e0)
  have h1 : DataW.trod enc Try.prog W b sp held m 22 ((l.drop 1).take (Try.prog.cellsOf 22)) = xs[1]? := hf 1 _ rfl
  rw [show Try.prog.cellsOf 22 = 1 by kernel_rfl] at h1
  obtain ⟨y1, e1⟩ := some_at hl (show 1 < 2 by omega)
  obtain ⟨z1, g1, bz1⟩ := reqs_of (h1.trans e1)
  refine ⟨z0, z1, ?_, bz1⟩
  have e := take_whole (n := 1 + (1)) hcl
  rw [take_cut, g0, g1] at e
  first | exact e | (rw [e]; rfl) | (rw [e]; simp)
set_option maxRecDepth 100000 in
theorem cert_of {H : Type} {enc : TypeId × Value → H} {W : World} {b : Nat} {sp : Nat → Bool} {held : Bool} {fuel : Nat} {l : List Value} {x : DataW H × List MemPlace}
    (h : DataW.trod enc Try.prog W b sp held fuel 35 l = some x) : ∃ (v : Vt) (r : Sl Sg), l = certL v r ∧ v.ok ∧ r.At SgE W := by
  have hct : Try.prog.cellsOf 35 = 37 := by kernel_rfl
  obtain ⟨xs, m, _, rfl, hcl, hl, hf⟩ := DataW.trod_struct Try.underlying35 h
  rw [hct] at hcl
  have hl : xs.length = 2 := hl
  have h0 : DataW.trod enc Try.prog W b sp held m 28 ((l.drop 0).take (Try.prog.cellsOf 28)) = xs[0]? := hf 0 _ rfl
  rw [show Try.prog.cellsOf 28 = 36 by kernel_rfl] at h0
  obtain ⟨y0, e0⟩ := some_at hl (show 0 < 2 by omega)
  obtain ⟨z0, g0, bz0⟩ := vote_of (h0.trans e0)
  have h1 : DataW.trod enc Try.prog W b sp held m 33 ((l.drop 36).take (Try.prog.cellsOf 33)) = xs[1]? := hf 1 _ rfl
  rw [show Try.prog.cellsOf 33 = 1 by kernel_rfl] at h1
  obtain ⟨y1, e1⟩ := some_at hl (show 1 < 2 by omega)
  obtain ⟨z1, g1, bz1⟩ := signs_of (h1.trans e1)
  refine ⟨z0, z1, ?_, bz0, bz1⟩
  have e := take_whole (n := 36 + (1)) hcl
  rw [take_cut, g0, g1] at e
  first | exact e | (rw [e]; rfl) | (rw [e]; simp)
set_option maxRecDepth 100000 in
theorem held_of {H : Type} {enc : TypeId × Value → H} {W : World} {b : Nat} {sp : Nat → Bool} {held : Bool} {fuel : Nat} {l : List Value} {x : DataW H × List MemPlace}
    (h : DataW.trod enc Try.prog W b sp held fuel 51 l = some x) : ∃ r : Hd, l = HdE.f r ∧ (HdE.ok r ∧ r.At W) := by
  have hct : Try.prog.cellsOf 51 = 39 := by kernel_rfl
  obtain ⟨xs, m, _, rfl, hcl, hl, hf⟩ := DataW.trod_struct Try.underlying51 h
  rw [hct] at hcl
  have hl : xs.length = 2 := hl
  have h0 : DataW.trod enc Try.prog W b sp held m 24 ((l.drop 0).take (Try.prog.cellsOf 24)) = xs[0]? := hf 0 _ rfl
  rw [show Try.prog.cellsOf 24 = 2 by kernel_rfl] at h0
  obtain ⟨y0, e0⟩ := some_at hl (show 0 < 2 by omega)
  obtain ⟨q0, z0, g0, bz0⟩ := batch_of (h0.trans e0)
  have h1 : DataW.trod enc Try.prog W b sp held m 35 ((l.drop 2).take (Try.prog.cellsOf 35)) = xs[1]? := hf 1 _ rfl
  rw [show Try.prog.cellsOf 35 = 37 by kernel_rfl] at h1
  obtain ⟨y1, e1⟩ := some_at hl (show 1 < 2 by omega)
  obtain ⟨v1, z1, g1, bv1, bz1⟩ := cert_of (h1.trans e1)
  refine ⟨⟨q0, z0, v1, z1⟩, ?_, bv1, bz0, bz1⟩
  have e := take_whole (n := 2 + (37)) hcl
  rw [take_cut, g0, g1] at e
  first | exact e | (rw [e]; rfl) | (rw [e]; simp)
set_option maxRecDepth 100000 in
theorem helds_of {H : Type} {enc : TypeId × Value → H} {W : World} {b : Nat} {sp : Nat → Bool} {held : Bool} {fuel : Nat} {l : List Value} {x : DataW H × List MemPlace}
    (h : DataW.trod enc Try.prog W b sp held fuel 29 l = some x) : ∃ y : Sl Hd, l = [y.val] ∧ HdsAt W y := by
  obtain ⟨a, cap, ys, h1, h2, h3, h4, h5⟩ := rows_of HdE.f (fun r => HdE.ok r ∧ r.At W) 39 (by decide) 29 51 Try.underlying29 (by kernel_rfl) (fun y hy => HdE.len y hy.1) (fun m l z hz => held_of hz) h
  exact ⟨⟨a, cap, ys⟩, h1, ⟨Nat.le_trans h2 h3, fun y hy => (h4 y hy).1, h5⟩, fun y hy => (h4 y hy).2⟩
set_option maxRecDepth 100000 in
theorem change_of {H : Type} {enc : TypeId × Value → H} {W : World} {b : Nat} {sp : Nat → Bool} {held : Bool} {fuel : Nat} {l : List Value} {x : DataW H × List MemPlace}
    (h : DataW.trod enc Try.prog W b sp held fuel 31 l = some x) : ∃ (a c d : Int) (r : Sl Hd), l = [.int .i64 a, .int .i64 c, .int .i64 d, r.val] ∧ HdsAt W r := by
  have hct : Try.prog.cellsOf 31 = 4 := by kernel_rfl
  obtain ⟨xs, m, _, rfl, hcl, hl, hf⟩ := DataW.trod_struct Try.underlying31 h
  rw [hct] at hcl
  have hl : xs.length = 4 := hl
  have h0 : DataW.trod enc Try.prog W b sp held m 3 ((l.drop 0).take (Try.prog.cellsOf 3)) = xs[0]? := hf 0 _ rfl
  rw [show Try.prog.cellsOf 3 = 1 by kernel_rfl] at h0
  obtain ⟨y0, e0⟩ := some_at hl (show 0 < 4 by omega)
  obtain ⟨z0, g0, _, wz0⟩ := DataW.trod_int Try.underlying3 (h0.trans e0)
  have bz0 := wf64 wz0
  have h1 : DataW.trod enc Try.prog W b sp held m 3 ((l.drop 1).take (Try.prog.cellsOf 3)) = xs[1]? := hf 1 _ rfl
  rw [show Try.prog.cellsOf 3 = 1 by kernel_rfl] at h1
  obtain ⟨y1, e1⟩ := some_at hl (show 1 < 4 by omega)
  obtain ⟨z1, g1, _, wz1⟩ := DataW.trod_int Try.underlying3 (h1.trans e1)
  have bz1 := wf64 wz1
  have h2 : DataW.trod enc Try.prog W b sp held m 3 ((l.drop 2).take (Try.prog.cellsOf 3)) = xs[2]? := hf 2 _ rfl
  rw [show Try.prog.cellsOf 3 = 1 by kernel_rfl] at h2
  obtain ⟨y2, e2⟩ := some_at hl (show 2 < 4 by omega)
  obtain ⟨z2, g2, _, wz2⟩ := DataW.trod_int Try.underlying3 (h2.trans e2)
  have bz2 := wf64 wz2
  have h3 : DataW.trod enc Try.prog W b sp held m 29 ((l.drop 3).take (Try.prog.cellsOf 29)) = xs[3]? := hf 3 _ rfl
  rw [show Try.prog.cellsOf 29 = 1 by kernel_rfl] at h3
  obtain ⟨y3, e3⟩ := some_at hl (show 3 < 4 by omega)
  obtain ⟨z3, g3, bz3⟩ := helds_of (h3.trans e3)
  refine ⟨z0, z1, z2, z3, ?_, bz3⟩
  have e := take_whole (n := 1 + (1 + (1 + (1)))) hcl
  rw [take_cut, take_cut, take_cut, g0, g1, g2, g3] at e
  first | exact e | (rw [e]; rfl) | (rw [e]; simp)
set_option maxRecDepth 100000 in
theorem msg_of {H : Type} {enc : TypeId × Value → H} {W : World} {b : Nat} {sp : Nat → Bool} {held : Bool} {fuel : Nat} {l : List Value} {x : DataW H × List MemPlace}
    (h : DataW.trod enc Try.prog W b sp held fuel 37 l = some x) : ∃ m : Mg, l = m.ms.cells ∧ m.ok ∧ m.At W := by
  have hct : Try.prog.cellsOf 37 = 119 := by kernel_rfl
  obtain ⟨xs, m, _, rfl, hcl, hl, hf⟩ := DataW.trod_struct Try.underlying37 h
  rw [hct] at hcl
  have hl : xs.length = 13 := hl
  have h0 : DataW.trod enc Try.prog W b sp held m 3 ((l.drop 0).take (Try.prog.cellsOf 3)) = xs[0]? := hf 0 _ rfl
  rw [show Try.prog.cellsOf 3 = 1 by kernel_rfl] at h0
  obtain ⟨y0, e0⟩ := some_at hl (show 0 < 13 by omega)
  obtain ⟨z0, g0, _, wz0⟩ := DataW.trod_int Try.underlying3 (h0.trans e0)
  have bz0 := wf64 wz0
  have h1 : DataW.trod enc Try.prog W b sp held m 3 ((l.drop 1).take (Try.prog.cellsOf 3)) = xs[1]? := hf 1 _ rfl
  rw [show Try.prog.cellsOf 3 = 1 by kernel_rfl] at h1
  obtain ⟨y1, e1⟩ := some_at hl (show 1 < 13 by omega)
  obtain ⟨z1, g1, _, wz1⟩ := DataW.trod_int Try.underlying3 (h1.trans e1)
  have bz1 := wf64 wz1
  have h2 : DataW.trod enc Try.prog W b sp held m 3 ((l.drop 2).take (Try.prog.cellsOf 3)) = xs[2]? := hf 2 _ rfl
  rw [show Try.prog.cellsOf 3 = 1 by kernel_rfl] at h2
  obtain ⟨y2, e2⟩ := some_at hl (show 2 < 13 by omega)
  obtain ⟨z2, g2, _, wz2⟩ := DataW.trod_int Try.underlying3 (h2.trans e2)
  have bz2 := wf64 wz2
  have h3 : DataW.trod enc Try.prog W b sp held m 3 ((l.drop 3).take (Try.prog.cellsOf 3)) = xs[3]? := hf 3 _ rfl
  rw [show Try.prog.cellsOf 3 = 1 by kernel_rfl] at h3
  obtain ⟨y3, e3⟩ := some_at hl (show 3 < 13 by omega)
  obtain ⟨z3, g3, _, wz3⟩ := DataW.trod_int Try.underlying3 (h3.trans e3)
  have bz3 := wf64 wz3
  have h4 : DataW.trod enc Try.prog W b sp held m 3 ((l.drop 4).take (Try.prog.cellsOf 3)) = xs[4]? := hf 4 _ rfl
  rw [show Try.prog.cellsOf 3 = 1 by kernel_rfl] at h4
  obtain ⟨y4, e4⟩ := some_at hl (show 4 < 13 by omega)
  obtain ⟨z4, g4, _, wz4⟩ := DataW.trod_int Try.underlying3 (h4.trans e4)
  have bz4 := wf64 wz4
  have h5 : DataW.trod enc Try.prog W b sp held m 24 ((l.drop 5).take (Try.prog.cellsOf 24)) = xs[5]? := hf 5 _ rfl
  rw [show Try.prog.cellsOf 24 = 2 by kernel_rfl] at h5
  obtain ⟨y5, e5⟩ := some_at hl (show 5 < 13 by omega)
  obtain ⟨q5, z5, g5, bz5⟩ := batch_of (h5.trans e5)
  have h6 : DataW.trod enc Try.prog W b sp held m 28 ((l.drop 7).take (Try.prog.cellsOf 28)) = xs[6]? := hf 6 _ rfl
  rw [show Try.prog.cellsOf 28 = 36 by kernel_rfl] at h6
  obtain ⟨y6, e6⟩ := some_at hl (show 6 < 13 by omega)
  obtain ⟨z6, g6, bz6⟩ := vote_of (h6.trans e6)
  have h7 : DataW.trod enc Try.prog W b sp held m 31 ((l.drop 43).take (Try.prog.cellsOf 31)) = xs[7]? := hf 7 _ rfl
  rw [show Try.prog.cellsOf 31 = 4 by kernel_rfl] at h7
  obtain ⟨y7, e7⟩ := some_at hl (show 7 < 13 by omega)
  obtain ⟨ca7, cb7, cc7, z7, g7, bz7⟩ := change_of (h7.trans e7)
  have h8 : DataW.trod enc Try.prog W b sp held m 32 ((l.drop 47).take (Try.prog.cellsOf 32)) = xs[8]? := hf 8 _ rfl
  rw [show Try.prog.cellsOf 32 = 1 by kernel_rfl] at h8
  obtain ⟨y8, e8⟩ := some_at hl (show 8 < 13 by omega)
  obtain ⟨z8, g8, bz8⟩ := envs_of (h8.trans e8)
  have h9 : DataW.trod enc Try.prog W b sp held m 26 ((l.drop 48).take (Try.prog.cellsOf 26)) = xs[9]? := hf 9 _ rfl
  rw [show Try.prog.cellsOf 26 = 32 by kernel_rfl] at h9
  obtain ⟨y9, e9⟩ := some_at hl (show 9 < 13 by omega)
  obtain ⟨z9, g9, lz9, bz9⟩ := bytes_at Try.underlying26 (by kernel_rfl) (h9.trans e9)
  have h10 : DataW.trod enc Try.prog W b sp held m 35 ((l.drop 80).take (Try.prog.cellsOf 35)) = xs[10]? := hf 10 _ rfl
  rw [show Try.prog.cellsOf 35 = 37 by kernel_rfl] at h10
  obtain ⟨y10, e10⟩ := some_at hl (show 10 < 13 by omega)
  obtain ⟨v10, z10, g10, bv10, bz10⟩ := cert_of (h10.trans e10)
  have h11 : DataW.trod enc Try.prog W b sp held m 9 ((l.drop 117).take (Try.prog.cellsOf 9)) = xs[11]? := hf 11 _ rfl
  rw [show Try.prog.cellsOf 9 = 1 by kernel_rfl] at h11
  obtain ⟨y11, e11⟩ := some_at hl (show 11 < 13 by omega)
  obtain ⟨z11, g11, _, bz11⟩ := DataW.trod_string Try.underlying9 (h11.trans e11)
  have h12 : DataW.trod enc Try.prog W b sp held m 33 ((l.drop 118).take (Try.prog.cellsOf 33)) = xs[12]? := hf 12 _ rfl
  rw [show Try.prog.cellsOf 33 = 1 by kernel_rfl] at h12
  obtain ⟨y12, e12⟩ := some_at hl (show 12 < 13 by omega)
  obtain ⟨z12, g12, bz12⟩ := signs_of (h12.trans e12)
  refine ⟨⟨z0, z1, z2, z3, z4, q5, z5, z6, ca7, cb7, cc7, z7, z8, z9, v10, z10, z11, z12⟩, ?_, ⟨bz6, bv10, lz9, bz9⟩, ⟨bz5, bz7, bz8, bz10, bz12⟩⟩
  have e := take_whole (n := 1 + (1 + (1 + (1 + (1 + (2 + (36 + (4 + (1 + (32 + (37 + (1 + (1))))))))))))) hcl
  rw [take_cut, take_cut, take_cut, take_cut, take_cut, take_cut, take_cut, take_cut, take_cut, take_cut, take_cut, take_cut, g0, g1, g2, g3, g4, g5, g6, g7, g8, g9, g10, g11, g12] at e
  rw [e]; simp [Mg.ms, Ms.cells, certL, List.append_assoc]
set_option maxRecDepth 100000 in
theorem open_msg {H : Type} {enc : TypeId × Value → H} {W : World} {base b : Nat} {sp : Nat → Bool} {held : Bool} {fuel : Nat} {v : Value} {x : DataW H × List MemPlace} (hv : Value.okWide Try.prog W .any base 37 v)
    (h : DataW.trod enc Try.prog W b sp held fuel 37 v.cells.toList = some x) : ∃ m : Mg, v = .agg m.ms.cells.toArray ∧ m.ok ∧ m.At W := by
  unfold Value.okWide at hv
  rw [Try.underlying37] at hv
  obtain ⟨cs, rfl, hsz, _⟩ := hv
  obtain ⟨r, h1, h2, h3⟩ := msg_of h
  refine ⟨r, ?_, h2, h3⟩
  simp only [Value.cells] at h1
  rw [← h1]
end Go.Proofs.Ytahdmajppnffeaa
