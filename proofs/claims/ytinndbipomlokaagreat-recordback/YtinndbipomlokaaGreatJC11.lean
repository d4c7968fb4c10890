/- records: which may be, as the document says; it is what the program says; what was read is not too much; records: their bytes; records: read out of bytes -/
import Derived.Test.YtinndbipomlokaaGreatJC0
import Derived.Test.YtinndbipomlokaaGreatJC10
import Derived.Test.YtinndbipomlokaaGreatJC6
import Derived.Test.YtinndbipomlokaaGreatJC3
import Derived.Test.YtinndbipomlokaaGreatJC5
import Derived.Deep.Cut
import Derived.Deep.DeepCutAuto
import Derived.Test.YtinndbipomlokaaGreatJC2
namespace Go.Proofs.YtinndbipomlokaaGreat
open Go.RowKit
open Sha Tal
set_option linter.unusedVariables false
set_option linter.unusedSimpArgs false
theorem mkK_cases (k : Int) : (k = 1 ∧ mkK k = 1) ∨ (k = 3 ∧ mkK k = 4) ∨ (k = 5 ∧ mkK k = 8) ∨ (k = 2 ∧ mkK k = 7) ∨ (k = 4 ∧ mkK k = 7) ∨ (mkK k = 0 ∧ ¬ (1 ≤ k ∧ k ≤ 5)) := by
 by_cases h1 : k = 1
 ·exact .inl ⟨h1, by rw [h1]; rfl⟩
 by_cases h3 : k = 3
 ·exact .inr (.inl ⟨h3, by rw [h3]; rfl⟩)
 by_cases h5 : k = 5
 ·exact .inr (.inr (.inl ⟨h5, by rw [h5]; rfl⟩))
 by_cases h2 : k = 2
 ·exact .inr (.inr (.inr (.inl ⟨h2, by rw [h2]; rfl⟩)))
 by_cases h4 : k = 4
 ·exact .inr (.inr (.inr (.inr (.inl ⟨h4, by rw [h4]; rfl⟩))))
 ·exact .inr (.inr (.inr (.inr (.inr ⟨by unfold mkK; rw [if_neg h1, if_neg h3, if_neg h5, if_neg h2, if_neg h4], by omega⟩))))
theorem Rc.told_k (r : Rc) : r.told.pure.k = mkK r.k := rfl
theorem Rc.told_bare {r : Rc} (h : r.told.pure.good) : (1 ≤ r.k ∧ r.k ≤ 5) ∧ r.pure = r.bare.pure := by
 have hk := Rc.told_k r
 rcases mkK_cases r.k with ⟨e, m⟩ | ⟨e, m⟩ | ⟨e, m⟩ | ⟨e, m⟩ | ⟨e, m⟩ | ⟨m, n⟩
 ·rw [m] at hk
  rcases h with h | h | h | h | h | h | h | h <;> (first | (have := h.1; omega) | skip)
  refine ⟨by omega, ?_⟩
  have o := h.2.2
  have hl : (0 : Int) = r.l := congrArg Mp.l o
  have hct : Vt.zero = r.ct := congrArg Mp.ct o
  have hcs : [] = r.cs.xs := congrArg Mp.cs o
  have hst : (⟨#[]⟩ : ByteArray) = r.st := congrArg Mp.st o
  have hsg : [] = r.sg.xs := congrArg Mp.sg o
  rw [Rc.bare1 e]
  show (⟨r.k, r.l, r.v, r.s, r.q, r.rs.xs, r.ct, r.cs.xs, r.st, r.sg.xs⟩ : Rp) = ⟨r.k, 0, r.v, r.s, r.q, r.rs.xs, Vt.zero, [], ⟨#[]⟩, []⟩
  rw [← hl, ← hct, ← hcs, ← hst, ← hsg]
 ·rw [m] at hk
  rcases h with h | h | h | h | h | h | h | h <;> (first | (have := h.1; omega) | skip)
  refine ⟨by omega, ?_⟩
  have o := h.2.2
  have hs : (0 : Int) = r.s := congrArg Mp.s o
  have hq : false = r.q := congrArg Mp.q o
  have hrs : [] = r.rs.xs := congrArg Mp.rs o
  have hct : Vt.zero = r.ct := congrArg Mp.ct o
  have hcs : [] = r.cs.xs := congrArg Mp.cs o
  have hst : (⟨#[]⟩ : ByteArray) = r.st := congrArg Mp.st o
  have hsg : [] = r.sg.xs := congrArg Mp.sg o
  rw [Rc.bare3 e]
  show (⟨r.k, r.l, r.v, r.s, r.q, r.rs.xs, r.ct, r.cs.xs, r.st, r.sg.xs⟩ : Rp) = ⟨r.k, r.l, r.v, 0, false, [], Vt.zero, [], ⟨#[]⟩, []⟩
  rw [← hs, ← hq, ← hrs, ← hct, ← hcs, ← hst, ← hsg]
 ·rw [m] at hk
  rcases h with h | h | h | h | h | h | h | h <;> (first | (have := h.1; omega) | skip)
  refine ⟨by omega, ?_⟩
  have o := h.2.2
  have hl : (0 : Int) = r.l := congrArg Mp.l o
  have hv : (0 : Int) = (if r.k = 1 then 0 else r.v) := congrArg Mp.v o
  rw [if_neg (by omega)] at hv
  have hs : (0 : Int) = r.s := congrArg Mp.s o
  have hq : false = r.q := congrArg Mp.q o
  have hrs : [] = r.rs.xs := congrArg Mp.rs o
  have hct : Vt.zero = r.ct := congrArg Mp.ct o
  have hcs : [] = r.cs.xs := congrArg Mp.cs o
  rw [Rc.bare5 e]
  show (⟨r.k, r.l, r.v, r.s, r.q, r.rs.xs, r.ct, r.cs.xs, r.st, r.sg.xs⟩ : Rp) = ⟨r.k, 0, 0, 0, false, [], Vt.zero, [], r.st, r.sg.xs⟩
  rw [← hl, ← hv, ← hs, ← hq, ← hrs, ← hct, ← hcs]
 ·rw [m] at hk
  rcases h with h | h | h | h | h | h | h | h <;> (first | (have := h.1; omega) | skip)
  refine ⟨by omega, ?_⟩
  have o := h.2.2
  have hl : (0 : Int) = r.l := congrArg Mp.l o
  have hv : (0 : Int) = (if r.k = 1 then 0 else r.v) := congrArg Mp.v o
  rw [if_neg (by omega)] at hv
  have hs : (0 : Int) = r.s := congrArg Mp.s o
  have hst : (⟨#[]⟩ : ByteArray) = r.st := congrArg Mp.st o
  have hsg : [] = r.sg.xs := congrArg Mp.sg o
  rw [Rc.bare2 e]
  show (⟨r.k, r.l, r.v, r.s, r.q, r.rs.xs, r.ct, r.cs.xs, r.st, r.sg.xs⟩ : Rp) = ⟨r.k, 0, 0, 0, r.q, r.rs.xs, r.ct, r.cs.xs, ⟨#[]⟩, []⟩
  rw [← hl, ← hv, ← hs, ← hst, ← hsg]
 ·rw [m] at hk
  rcases h with h | h | h | h | h | h | h | h <;> (first | (have := h.1; omega) | skip)
  refine ⟨by omega, ?_⟩
  have o := h.2.2
  have hl : (0 : Int) = r.l := congrArg Mp.l o
  have hv : (0 : Int) = (if r.k = 1 then 0 else r.v) := congrArg Mp.v o
  rw [if_neg (by omega)] at hv
  have hs : (0 : Int) = r.s := congrArg Mp.s o
  have hst : (⟨#[]⟩ : ByteArray) = r.st := congrArg Mp.st o
  have hsg : [] = r.sg.xs := congrArg Mp.sg o
  rw [Rc.bare4 e]
  show (⟨r.k, r.l, r.v, r.s, r.q, r.rs.xs, r.ct, r.cs.xs, r.st, r.sg.xs⟩ : Rp) = ⟨r.k, 0, 0, 0, r.q, r.rs.xs, r.ct, r.cs.xs, ⟨#[]⟩, []⟩
  rw [← hl, ← hv, ← hs, ← hst, ← hsg]
 ·rw [m] at hk
  rcases h with h | h | h | h | h | h | h | h <;> (have := h.1; omega)
theorem Bs.app {a b : List Int} (h : Bs a) (k : Bs b) : Bs (a ++ b) := fun z hz => (List.mem_append.1 hz).elim (h z) (k z)
theorem Bs.flat {α : Type} {f : α → List Int} {xs : List α} (h : ∀ x ∈ xs, Bs (f x)) : Bs (xs.flatMap f) := fun z hz => by
 obtain ⟨x, hx, hz⟩ := List.mem_flatMap.1 hz
 exact h x hx z hz
theorem put_bs {n m : Int} (h : 0 ≤ n ∧ n ≤ m) (hm : m ≤ 9223372036854775807) : Bs (putL n) := putL_byte n (by omega)
theorem len_bs (n : Nat) (m : Int) (h : (n : Int) ≤ m) (hm : m ≤ 9223372036854775807) : Bs (putL (n : Int)) := putL_byte n (by omega)
theorem text_bs {s : ByteArray} {m : Int} (h : (s.size : Int) ≤ m) (hm : m ≤ 9223372036854775807) : Bs (textL s) := (len_bs _ m h hm).app (strL_byte s)
theorem sg_bs {g : Sg} (h : sgOk g) : Bs (sgL g) := (put_bs h.1 (by decide)).app h.2.2
theorem ev_bs {g : Ev} (h : evOk g) : Bs (evL g) := (put_bs h.1 (by decide)).app ((text_bs h.2.1 (by decide)).app h.2.2.2)
theorem vt_bs {x : Vt} (h : vtOk x) : Bs (vtL x) := by
 obtain ⟨h1, h2, h3, h4, h5, h6⟩ := h
 refine Bs.app (Bs.flat fun n hn => ?_) h6
 simp only [List.mem_cons, List.not_mem_nil, or_false] at hn
 rcases hn with rfl | rfl | rfl | rfl
 ·exact put_bs (m := 2) ⟨by omega, by omega⟩ (by decide)
 ·exact put_bs h2 (by decide)
 ·exact put_bs h3 (by decide)
 ·exact put_bs h4 (by decide)
theorem rq_bs {r : Rq} (h : rqOk r) : Bs (rqL r) := (((put_bs h.1 (by decide)).app (put_bs h.2.1 (by decide))).app (text_bs h.2.2.1 (by decide))).app h.2.2.2.2
theorem ba_bs {c : Bool × List Rq} (h : baOk c) : Bs (baL c) := by
 obtain ⟨q, rs⟩ := c
 cases q
 ·have e : baL (false, rs) = putL ((rs.length : Int) + 1) ++ rs.flatMap rqL := by
   unfold baL batL
   rw [if_neg (show ¬ (false = true) by decide), List.length_map, List.flatMap_map]
   rfl
  rw [e]
  have h2 : rs.length ≤ 4 := h.2.1
  exact Bs.app (putL_byte _ (by omega)) (Bs.flat fun r hr => rq_bs (h.2.2 r hr))
 ·have e : baL (true, rs) = putL 0 := rfl
  rw [e]
  exact putL_byte 0 (by omega)
theorem sgs_bs {xs : List Sg} (h : (xs.length : Int) ≤ 64 ∧ ∀ x ∈ xs, sgOk x) : Bs (sgsL xs) := (len_bs _ 64 h.1 (by decide)).app (Bs.flat fun x hx => sg_bs (h.2 x hx))
theorem evs_bs {xs : List Ev} (h : (xs.length : Int) ≤ 64 ∧ ∀ x ∈ xs, evOk x) : Bs (evsL xs) := (len_bs _ 64 h.1 (by decide)).app (Bs.flat fun x hx => ev_bs (h.2 x hx))
theorem ce_bs {v : Vt} {xs : List Sg} (h : ceOk (v, xs)) : Bs (ctL v xs) := (vt_bs h.1).app (sgs_bs h.2)
theorem hp_bs {x : Hp} (h : hpOk x) : Bs (hpL x) := (ba_bs h.1).app (ce_bs h.2)
theorem cp_bs {c : Cp} (h : cpOk c) : Bs (cpL c) := (put_bs h.1 (by decide)).app ((put_bs h.2.1 (by decide)).app ((put_bs h.2.2.1 (by decide)).app ((len_bs _ 4 h.2.2.2.1 (by decide)).app (Bs.flat fun x hx => hp_bs (h.2.2.2.2 x hx)))))
theorem Mp.bytes_bs {m : Mp} (h : m.good) : Bs m.bytes := by
 rcases h with ⟨h, k⟩ | ⟨h, k⟩ | ⟨h, k⟩ | ⟨h, k⟩ | ⟨h, k⟩ | ⟨h, k⟩ | ⟨h, k⟩ | ⟨h, k⟩
 ·have e : m.bytes = putL 1 ++ body1 m := by unfold Mp.bytes; rw [h]; rfl
  rw [e]; exact (show Bs (putL 1) from putL_byte 1 (by omega)).app ((put_bs k.1.1 (by decide)).app ((put_bs k.1.2.1 (by decide)).app (ba_bs k.1.2.2)))
 ·have e : m.bytes = putL 2 ++ body2 m := by unfold Mp.bytes; rw [h]; rfl
  rw [e]; exact (show Bs (putL 2) from putL_byte 2 (by omega)).app (vt_bs k.1)
 ·have e : m.bytes = putL 3 ++ body3 m := by unfold Mp.bytes; rw [h]; rfl
  rw [e]; exact (show Bs (putL 3) from putL_byte 3 (by omega)).app (cp_bs k.1)
 ·have e : m.bytes = putL 4 ++ body4 m := by unfold Mp.bytes; rw [h]; rfl
  rw [e]; exact (show Bs (putL 4) from putL_byte 4 (by omega)).app ((put_bs k.1.1 (by decide)).app ((put_bs k.1.2.1 (by decide)).app ((put_bs k.1.2.2.1 (by decide)).app (evs_bs k.1.2.2.2))))
 ·have e : m.bytes = putL 5 ++ body5 m := by unfold Mp.bytes; rw [h]; rfl
  rw [e]; exact (show Bs (putL 5) from putL_byte 5 (by omega)).app ((put_bs k.1.1 (by decide)).app k.1.2.2)
 ·have e : m.bytes = putL 6 ++ body6 m := by unfold Mp.bytes; rw [h]; rfl
  rw [e]; exact (show Bs (putL 6) from putL_byte 6 (by omega)).app ((put_bs k.1.1 (by decide)).app (put_bs k.1.2 (by decide)))
 ·have e : m.bytes = putL 7 ++ body7 m := by unfold Mp.bytes; rw [h]; rfl
  rw [e]; exact (show Bs (putL 7) from putL_byte 7 (by omega)).app ((ba_bs k.1.1).app (ce_bs k.1.2))
 ·have e : m.bytes = putL 8 ++ body8 m := by unfold Mp.bytes; rw [h]; rfl
  rw [e]; exact (show Bs (putL 8) from putL_byte 8 (by omega)).app ((text_bs k.1.1 (by decide)).app (sgs_bs k.1.2))
theorem flat_part {α : Type} {f : α → List Int} {xs : List α} {x : α} (h : x ∈ xs) : (f x).length ≤ (xs.flatMap f).length := by
 induction xs with
 | nil => cases h
 | cons y ys ih =>
  rw [List.flatMap_cons, List.length_append]
  rcases List.mem_cons.1 h with rfl | h
  ·omega
  ·have := ih h; omega
theorem rs_few {q : Bool} {x : Sl Rq} (h : batMay q x = true) : x.xs.length ≤ 200 ∧ ∀ r ∈ x.xs, r.s.size ≤ 4000 := by
 unfold batMay at h
 cases q
 ·obtain ⟨h1, h2⟩ := mayL_iff.1 h
  refine ⟨by omega, fun r hr => ?_⟩
  have := h2 r hr
  unfold Rq.may at this
  rw [Bool.and_eq_true, Bool.and_eq_true] at this
  have := of_decide_eq_true this.2.2
  omega
 ·have e : x.xs.length = 0 := of_decide_eq_true h
  have e2 : x.xs = [] := List.eq_nil_of_length_eq_zero e
  exact ⟨by omega, fun r hr => by rw [e2] at hr; cases hr⟩
theorem fine_pure {x : Mg} (h : x.pure.good) (hl : x.bytes.length ≤ 40000) : x.Fine := by
 have hg := pure_good h
 unfold Mg.good at hg
 rw [Bool.and_eq_true, Bool.and_eq_true] at hg
 have hm := hg.2.2
 have hk := of_decide_eq_true hg.1
 unfold Mg.may Mg.mayL at hm
 simp only [Bool.and_eq_true] at hm
 obtain ⟨⟨e1, e2⟩, ⟨e3, e4⟩, e5, e6, e7, e8, e9, e10, e11⟩ := hm
 have b1 := (inB_iff.1 e1).2
 have b2 := (inB_iff.1 e2).2
 have b3 := (inB_iff.1 e3).2
 have b4 := (inB_iff.1 e4).2
 unfold chgMay at e8
 simp only [Bool.and_eq_true] at e8
 obtain ⟨⟨c1, c2, c3⟩, c4⟩ := e8
 have d1 := (inB_iff.1 c1).2
 have d2 := (inB_iff.1 c2).2
 have d3 := (inB_iff.1 c3).2
 obtain ⟨c5, c6⟩ := mayL_iff.1 c4
 obtain ⟨n1, n2⟩ := mayL_iff.1 e9
 have g1 := (mayL_iff.1 e11).1
 have hcs : x.cs.xs.length ≤ 1000 := by
  rcases h with ⟨_, k, o⟩ | ⟨_, k, o⟩ | ⟨_, k, o⟩ | ⟨_, k, o⟩ | ⟨_, k, o⟩ | ⟨_, k, o⟩ | ⟨_, k, o⟩ | ⟨_, k, o⟩
  case inr.inr.inr.inr.inr.inr.inl =>
   have := k.2.2.1
   have : ((x.cs.xs.length : Nat) : Int) ≤ 64 := this
   omega
  all_goals
   have e : [] = x.cs.xs := congrArg Mp.cs o
   rw [← e]
   simp
 have hne : ∀ g ∈ x.ne.xs, g.s.size ≤ 1000000 := by
  rcases h with ⟨_, k, o⟩ | ⟨_, k, o⟩ | ⟨_, k, o⟩ | ⟨h4, k, o⟩ | ⟨_, k, o⟩ | ⟨_, k, o⟩ | ⟨_, k, o⟩ | ⟨_, k, o⟩
  case inr.inr.inr.inl =>
   intro g hgm
   have h4 : x.k = 4 := h4
   have e : x.bytes = putL 4 ++ ([x.e, x.l, x.v].flatMap putL ++ evsL x.ne.xs) := by unfold Mg.bytes Mg.body; rw [h4]; rfl
   rw [e, List.length_append, List.length_append] at hl
   have h5 := flat_part (f := evL) hgm
   unfold evsL at hl
   rw [List.length_append] at hl
   have h6 : (strL g.s).length ≤ (evL g).length := by unfold evL textL; simp only [List.length_append]; omega
   rw [strL_length] at h6
   omega
  all_goals
   have e : [] = x.ne.xs := congrArg Mp.ne o
   rw [← e]
   intro g hgm
   cases hgm
 have hst : x.st.size ≤ 1000000 := by
  rcases h with ⟨_, k, o⟩ | ⟨_, k, o⟩ | ⟨_, k, o⟩ | ⟨_, k, o⟩ | ⟨_, k, o⟩ | ⟨_, k, o⟩ | ⟨_, k, o⟩ | ⟨h8, k, o⟩
  case inr.inr.inr.inr.inr.inr.inr =>
   have h8 : x.k = 8 := h8
   have e : x.bytes = putL 8 ++ (textL x.st ++ sgsL x.sg.xs) := by unfold Mg.bytes Mg.body; rw [h8]; rfl
   rw [e, List.length_append, List.length_append] at hl
   unfold textL at hl
   rw [List.length_append, strL_length] at hl
   omega
  all_goals
   have e : (⟨#[]⟩ : ByteArray) = x.st := congrArg Mp.st o
   rw [← e]
   decide
 exact ⟨by omega, by omega, by omega, by omega, by omega, by omega, by omega, (rs_few e7).1, (rs_few e7).2, by omega, fun g hgm => by
  have := c6 g hgm
  unfold Hd.may certMay at this
  simp only [Bool.and_eq_true] at this
  have s1 := (mayL_iff.1 this.2.2).1
  exact ⟨by omega, (rs_few this.1).1, (rs_few this.1).2⟩, by omega, hne, hcs, by omega, hst, hl⟩
def Rc.bytes (r : Rc) : List Int := if r.k = 1 then ((putL r.k ++ putL r.s) ++ putL r.v) ++ batL r.q (r.rs.xs.map BRq.of) else if r.k = 3 then (putL r.k ++ putL r.l) ++ putL r.v else putL r.k ++ textL (strOf r.told.bytes)
def Rc.Fine (r : Rc) : Prop := r.told.Fine ∧ r.v ≤ 9223372036854775807 ∧ 1 ≤ r.k ∧ r.k ≤ 5
def encZ (r : Rc) : List Int := if r.good then r.bytes else []
def encE (r : Rc) : Int := if r.good then 0 else 240
def EncR (r : Rc) (w : World) (e : Ending) (w' : World) : Prop := ∃ v, e = .returned (.tuple #[v, .int .i64 (encE r)]) ∧ Mine w' w.heap.size v (encZ r) ∧ Below w.heap.size w w'
theorem tput_on (a : Option Addr) (cap : Nat) (zs : List Int) (n : Int) (w : World) (h : RowAt w a zs) (hz : zs.length ≤ 1000000) (hn : n ≤ 9223372036854775807) : Calls Tryz.prog 47 #[.slice a zs.length cap, .int .i64 n] w fun e w' => FOn zs (putL n) w e w' := put_any a cap zs n w h (by omega) hn
theorem ttext_on (a : Option Addr) (cap : Nat) (zs : List Int) (s : ByteArray) (w : World) (h : RowAt w a zs) (hz : zs.length ≤ 1000000) (hs : s.size ≤ 1000000) : Calls Tryz.prog 50 #[.slice a zs.length cap, .string s] w fun e w' => FOn zs (textL s) w e w' := putText_any a cap zs s w h (by omega) (by omega)
theorem tbat_on (a0 : Option Addr) (cap0 : Nat) (zs : List Int) (q : Bool) (x : Sl Rq) (w : World) (h : RowAt w a0 zs) (hz : zs.length ≤ 90000) (hx : x.At RqE w) (hn : x.xs.length ≤ 200) (hs : ∀ r ∈ x.xs, r.s.size ≤ 4000) : Calls Tryz.prog 48 #[.slice a0 zs.length cap0, .agg #[.bool q, x.val]] w fun e w' => FOn zs (batL q (x.xs.map BRq.of)) w e w' := by
 have c := bput_any a0 cap0 zs q x.a x.cap (x.xs.map BRq.of) w h hz (reqs_at hx) (by rw [List.length_map]; exact hn) (fun r hr => by
  obtain ⟨y, hy, rfl⟩ := List.mem_map.1 hr
  exact hs y hy)
 unfold batV at c
 rw [List.length_map] at c
 exact c
theorem nil_mine (w : World) (B : Nat) : Mine w B (.slice none 0 0) [] := ⟨World.ownsRow_nil w B 5 1, fun z h => by cases h⟩
theorem Rc.told_bs {r : Rc} {w : World} (h : r.ct.ok) (am : r.At w) (hg : r.good = true) : r.told.bytes = r.told.pure.bytes ∧ Bs r.told.bytes := by
 unfold Rc.good at hg
 rw [Bool.and_eq_true] at hg
 have hp := good_pure (Rc.told_ok h) (Rc.told_at am) hg.2
 have e := bytes_pure r.told (Mg.good_k hg.2)
 exact ⟨e, by rw [e]; exact Mp.bytes_bs hp⟩
theorem strOf_len (zs : List Int) : (strOf zs).size = zs.length := strOf_size zs
theorem Rc.bytes_le {r : Rc} {w : World} (am : r.At w) (h : r.Fine) : r.bytes.length ≤ 3000000 := by
 obtain ⟨hf, hv, k1, k5⟩ := h
 have hs : r.s ≤ 9223372036854775807 := hf.s
 have hl : r.l ≤ 9223372036854775807 := hf.l
 have p1 := putL_le r.k (by omega)
 have p2 := putL_le r.s hs
 have p3 := putL_le r.v hv
 have p4 := putL_le r.l hl
 have hall := hf.all
 unfold Rc.bytes
 split
 ·have hb : (batL r.q (r.rs.xs.map BRq.of)).length ≤ 900000 := batL_le r.q (r.rs.xs.map BRq.of) (by rw [List.length_map]; exact hf.rn) (reqs_at am.rs).2.1 (fun y hy => by
   obtain ⟨z, hz, rfl⟩ := List.mem_map.1 hy
   exact hf.rs z hz)
  simp only [List.length_append]
  omega
 split
 ·simp only [List.length_append]
  omega
 ·have ht : (textL (strOf r.told.bytes)).length ≤ 41000 := by
   unfold textL
   rw [List.length_append, strL_length, strOf_len]
   have := putL_le ((strOf r.told.bytes).size : Int) (by rw [strOf_len]; omega)
   rw [strOf_len] at this
   omega
  simp only [List.length_append]
  omega
set_option maxRecDepth 100000 in
set_option maxHeartbeats 2000000 in
theorem kbytesOf_any (r : Rc) (w : World) (h : r.ct.ok) (am : r.At w) (hg : r.good = true) (hf : r.Fine) : Calls Tryz.prog 20 #[.agg r.cells.toArray] w fun e w' => ∃ v, e = .returned (.tuple #[v, .int .i64 0]) ∧ Mine w' w.heap.size v r.bytes ∧ Below w.heap.size w w' := by
 have hlen := Rc.bytes_le am hf
 obtain ⟨hf, hv0, k1, k5⟩ := hf
 have hs0 : r.s ≤ 9223372036854775807 := hf.s
 have hl0 : r.l ≤ 9223372036854775807 := hf.l
 have hk0 : r.k ≤ 9223372036854775807 := by omega
 have ic : (Tryz.prog.info? 33).map (·.size) = some r.cells.length := by rw [Rc.len h]; exact iszRc
 have hrn : r.rs.xs.length ≤ 200 := hf.rn
 have hrs : ∀ y ∈ r.rs.xs, y.s.size ≤ 4000 := hf.rs
 have hbl := strOf_len r.told.bytes
 have hal := hf.all
 have hts : (strOf r.told.bytes).size ≤ 40000 := by rw [hbl]; exact hal
 have cK := fun w0 => tput_on none 0 [] r.k w0 (nil_row w0) (by simp) hk0
 simp only [List.length_nil] at cK
 have cT := fun w0 => ktold_any r w0 h
 have cE := fun w0 (h0 : Below w.heap.size w w0) => enc_any r.told w0 (Rc.told_ok h) (Rc.told_at (am.below h0)) (fun _ => hf)
 have hgt : r.told.good = true := by unfold Rc.good at hg; rw [Bool.and_eq_true] at hg; exact hg.2
 rw [hgt] at cE
 have cB := fun a c zs w0 (h0 : Below w.heap.size w w0) h1 h2 => tbat_on a c zs r.q r.rs w0 h1 h2 (am.rs.below h0) hrn hrs
 obtain ⟨Z, hZ⟩ : ∃ Z, Hid (r.bytes = Z) := ⟨_, hide rfl⟩
 rw [hZ.out] at hlen ⊢
 obtain ⟨tb, htb⟩ : ∃ t, Hid (strOf r.told.bytes = t) := ⟨_, hide rfl⟩
 unfold encV at cE
 simp only [if_true] at cE
 simp only [htb.out] at cE hbl hts
 obtain ⟨L1, hL1⟩ : ∃ L, Hid (([] : List Int) ++ putL r.k = L) := ⟨_, hide rfl⟩
 have l1 : L1.length ≤ 9 := by rw [← hL1.out]; exact putL_le r.k hk0
 obtain ⟨L2, hL2⟩ : ∃ L, Hid (L1 ++ putL r.s = L) := ⟨_, hide rfl⟩
 have l2 : L2.length ≤ 18 := by rw [← hL2.out, List.length_append]; have := putL_le r.s hs0; omega
 obtain ⟨L3, hL3⟩ : ∃ L, Hid (L2 ++ putL r.v = L) := ⟨_, hide rfl⟩
 have l3 : L3.length ≤ 27 := by rw [← hL3.out, List.length_append]; have := putL_le r.v hv0; omega
 obtain ⟨M2, hM2⟩ : ∃ L, Hid (L1 ++ putL r.l = L) := ⟨_, hide rfl⟩
 have m2 : M2.length ≤ 18 := by rw [← hM2.out, List.length_append]; have := putL_le r.l hl0; omega
 obtain ⟨M3, hM3⟩ : ∃ L, Hid (M2 ++ putL r.v = L) := ⟨_, hide rfl⟩
 have m3 : M3.length ≤ 27 := by rw [← hM3.out, List.length_append]; have := putL_le r.v hv0; omega
 have z1 : r.k = 1 → Hid (L3 ++ batL r.q (r.rs.xs.map BRq.of) = Z) := fun e => hide (by rw [← hZ.out, ← hL3.out, ← hL2.out, ← hL1.out]; unfold Rc.bytes; rw [if_pos e]; simp)
 have z3 : r.k = 3 → Hid (M3 = Z) := fun e => hide (by rw [← hZ.out, ← hM3.out, ← hM2.out, ← hL1.out]; unfold Rc.bytes; rw [if_neg (by omega), if_pos e]; simp)
 have z7 : r.k ≠ 1 → r.k ≠ 3 → Hid (L1 ++ textL tb = Z) := fun e1 e3 => hide (by rw [← hZ.out, ← hL1.out, ← htb.out]; unfold Rc.bytes; rw [if_neg e1, if_neg e3]; simp)
 obtain ⟨hB1, hR1, hs1⟩ := boxed_new w r.cells 33
 have hp := fun {W : World} {b : Nat} (hR : W.rangeAt b 0 r.cells) => rc_parts h hR
 clear am hg hgt hal hZ htb
 go_enter Tryz.func20, Tryz.ntmps20
 go_upto_region 1 with fail
 obtain ⟨V0, hV0⟩ : ∃ q : World, w.alloc (.cells r.cells.toArray 33) = q := ⟨_, rfl⟩
 rw [hV0] at hB1 hR1 hs1 ⊢
 clear hV0
 have k0 : V0.cell? ⟨w.heap.size, 0, none⟩ = some (.int .i64 r.k) := hR1 0 _ rfl
 try simp only [Act.put]
 refine pl_begin ?_
 refine pl_t 7 (?_) (by rfl) ?_ rfl ?_
 rotate_left
 ·go_simp
  try with_reducible rfl
 simp only [nz]
 refine pl_t 8 (.int .i64 r.k) (by rfl) (pl_one rfl rfl k0 Tryz.underlying3 rfl) rfl ?_
 simp only [nz]
 refine pl_call (d := some 9) (by rfl) (by go_simp; first | done | exact ⟨rfl, rfl⟩ | with_reducible rfl) rfl ?_
 refine (cK V0).mono ?_
 rintro e9 w1 hf9
 obtain ⟨a1, c1, rfl, row1, mine1, hb9⟩ := FOn.row hf9 hL1.out (by omega)
 have hN1 : Below w.heap.size w w1 := hB1.trans (hb9.mono hB1.size)
 clear hf9
 refine ⟨_, rfl, ?_⟩
 simp only [nz]
 refine pl_t 4 (?_) (by rfl) ?_ rfl ?_
 rotate_left
 ·go_simp
  try with_reducible rfl
 simp only [nz]
 refine pl_nil ?_
 have hR := range_below hR1 hb9 hs1
 have hsw : w.heap.size < w1.heap.size := Nat.lt_of_lt_of_le hs1 hb9.size
 replace mine1 : Mine w1 w.heap.size (.slice a1 L1.length c1) L1 := ⟨owns_mono mine1.1 (Nat.le_of_lt hs1), mine1.2⟩
 clear hB1 hR1 hs1 k0 hb9 cK
 have hB1 := hN1
 have hs1 := hsw
 clear hN1 hsw
 have q0 : w1.cell? ⟨w.heap.size, 0, none⟩ = some (.int .i64 r.k) := hR 0 _ rfl
 have q1 : w1.cell? ⟨w.heap.size, 1, none⟩ = some (.int .i64 r.l) := hR 1 _ rfl
 have q2 : w1.cell? ⟨w.heap.size, 2, none⟩ = some (.int .i64 r.v) := hR 2 _ rfl
 have q3 : w1.cell? ⟨w.heap.size, 3, none⟩ = some (.int .i64 r.s) := hR 3 _ rfl
 go_upto_region 2 with fail
 try simp only [Act.put]
 refine pl_begin ?_
 refine pl_t 10 (?_) (by rfl) ?_ rfl ?_
 rotate_left
 ·go_simp
  try with_reducible rfl
 simp only [nz]
 refine pl_t 11 (.int .i64 r.k) (by rfl) (pl_one rfl rfl q0 Tryz.underlying3 rfl) rfl ?_
 simp only [nz]
 refine pl_nil ?_
 by_cases hk1 : r.k = 1
 ·have z := z1 hk1
  go_upto_region 3 with fail
  try simp only [Act.put]
  refine pl_begin ?_
  refine pl_t 13 (.bool true) (by rfl) (by go_simp <;> (try simp [*])) rfl ?_
  simp only [nz]
  refine pl_t 12 (?_) (by rfl) ?_ rfl ?_
  rotate_left
  ·go_simp
   try with_reducible rfl
  simp only [nz]
  refine pl_nil ?_
  clear z1 z3 z7 hM2 hM3 cT cE hL1
  go_upto_region 4 with fail
  refine hs_begin (S := (Below w1.drew.heap.size w1.drew)) 8 rfl (by kernel_rfl) ?_
  have hB8 := hB1.drew
  have hs8 : w.heap.size < w1.drew.heap.size := hs1
  replace row1 : RowAt w1.drew a1 L1 := row1.below (Below.refl _ _).drew
  have q1 : w1.drew.cell? ⟨w.heap.size, 1, none⟩ = some (.int .i64 r.l) := q1
  have q2 : w1.drew.cell? ⟨w.heap.size, 2, none⟩ = some (.int .i64 r.v) := q2
  have q3 : w1.drew.cell? ⟨w.heap.size, 3, none⟩ = some (.int .i64 r.s) := q3
  have hRd := (World.rangeAt_drew _ _ _ _).2 hR
  obtain ⟨w8, hw8⟩ : ∃ W, w1.drew = W := ⟨_, rfl⟩
  rw [hw8] at hB8 hs8 row1 q1 q2 q3 hRd ⊢
  clear hw8 hB1 hs1 hR mine1
  have hS : (Below w8.heap.size w8) w8 := Below.refl _ _
  refine hs_t 0 14 (?_) rfl (by kernel_rfl) (by kernel_rfl) (by kernel_rfl) (by rfl) ?_ hS rfl ?_
  rotate_left
  ·intro w' hw
   go_simp
   try with_reducible rfl
  simp only [nz]
  refine hs_t 1 15 (?_) rfl (by kernel_rfl) (by kernel_rfl) (by kernel_rfl) (by rfl) ?_ hS rfl ?_
  rotate_left
  ·intro w' hw
   go_simp
   try with_reducible rfl
  simp only [nz]
  refine hs_t 2 16 (.int .i64 r.s) rfl (by kernel_rfl) (by kernel_rfl) (by kernel_rfl) (by rfl) (fun w' hw => pl_one rfl rfl ((hw.cell (p := ⟨w.heap.size, 3, none⟩) hs8).trans q3) Tryz.underlying3 rfl) hS rfl ?_
  simp only [nz]
  refine hs_t 4 18 (?_) rfl (by kernel_rfl) (by kernel_rfl) (by kernel_rfl) (by rfl) ?_ hS rfl ?_
  rotate_left
  ·intro w' hw
   go_simp
   try with_reducible rfl
  simp only [nz]
  refine hs_t 5 19 (.int .i64 r.v) rfl (by kernel_rfl) (by kernel_rfl) (by kernel_rfl) (by rfl) (fun w' hw => pl_one rfl rfl ((hw.cell (p := ⟨w.heap.size, 2, none⟩) hs8).trans q2) Tryz.underlying3 rfl) hS rfl ?_
  simp only [nz]
  refine hs_call (i := 3) (d := some 17) rfl (by kernel_rfl) (by rfl) (by go_simp; first | done | exact ⟨rfl, rfl⟩ | with_reducible rfl) rfl ?_
  refine (tput_on a1 c1 L1 r.s w8 row1 (by omega) hs0).mono ?_
  rintro e9 w9 hf9
  obtain ⟨a2, c2, rfl, row2, mine2, hb9⟩ := FOn.row hf9 hL2.out (by omega)
  have hS : (Below w8.heap.size w8) w9 := hS.trans (hb9.mono hS.size)
  have hS9 := hS
  clear hf9 hb9
  refine ⟨_, rfl, hS, ?_⟩
  simp only [nz]
  refine hs_call (i := 6) (d := some 20) rfl (by kernel_rfl) (by rfl) (by go_simp; first | done | exact ⟨rfl, rfl⟩ | with_reducible rfl) rfl ?_
  refine (tput_on a2 c2 L2 r.v w9 row2 (by omega) hv0).mono ?_
  rintro e9 w10 hf9
  obtain ⟨a3, c3, rfl, row3, mine3, hb9⟩ := FOn.row hf9 hL3.out (by omega)
  have hS : (Below w8.heap.size w8) w10 := hS.trans (hb9.mono hS.size)
  clear hf9 hb9
  refine ⟨_, rfl, hS, ?_⟩
  simp only [nz]
  refine hs_t 7 4 (?_) rfl (by kernel_rfl) (by kernel_rfl) (by kernel_rfl) (by rfl) ?_ hS rfl ?_
  rotate_left
  ·intro w' hw
   go_simp
   try with_reducible rfl
  simp only [nz]
  refine hs_done (by kernel_rfl) ?_
  have rR := range_below hRd hS hs8
  have sR := Nat.lt_of_lt_of_le hs8 hS.size
  have BB := hB8.trans (hS.mono hB8.size)
  obtain ⟨rb, -, -, -⟩ := hp rR
  clear hp
  go_upto_region 5 with fail
  try simp only [Act.put]
  refine pl_begin ?_
  refine pl_t 21 (?_) (by rfl) ?_ rfl ?_
  rotate_left
  ·go_simp
   try with_reducible rfl
  simp only [nz]
  refine pl_t 22 (?_) (by rfl) ?_ rfl ?_
  rotate_left
  ·go_simp
   try with_reducible rfl
  simp only [nz]
  refine pl_t 23 (.agg #[.bool r.q, r.rs.val]) (by rfl) (ex_mid rfl rfl rb Tryz.underlying24 rfl iszBa) rfl ?_
  simp only [nz]
  refine pl_call (d := some 24) (by rfl) (by go_simp; first | done | exact ⟨rfl, rfl⟩ | with_reducible rfl) rfl ?_
  refine (cB a3 c3 L3 w10 BB row3 (by omega)).mono ?_
  rintro e9 w11 hf9
  obtain ⟨a4, c4, rfl, row4, mine4, hb9⟩ := FOn.row hf9 z.out (by omega)
  have hN4 : Below w.heap.size w w11 := BB.trans (hb9.mono BB.size)
  clear hf9
  refine ⟨_, rfl, ?_⟩
  simp only [nz]
  refine pl_t 2 (?_) (by rfl) ?_ rfl ?_
  rotate_left
  ·go_simp
   try with_reducible rfl
  simp only [nz]
  refine pl_t 3 (?_) (by rfl) ?_ rfl ?_
  rotate_left
  ·go_simp
   try with_reducible rfl
  simp only [nz]
  refine pl_nil ?_
  replace mine4 : Mine w11 w.heap.size (.slice a4 Z.length c4) Z := ⟨owns_mono mine4.1 BB.size, mine4.2⟩
  have HM := hide mine4
  clear mine4 row4 hb9
  go_wp2_with fail
  go_ret2
  exact ⟨_, rfl, HM.out, hN4⟩
 have n1 : (r.k == 1) = false := by simpa using hk1
 clear z1
 go_upto_region 3 with fail
 try simp only [Act.put]
 refine pl_begin ?_
 refine pl_t 13 (.bool false) (by rfl) (by go_simp <;> (try simp [*])) rfl ?_
 simp only [nz]
 refine pl_t 12 (?_) (by rfl) ?_ rfl ?_
 rotate_left
 ·go_simp
  try with_reducible rfl
 simp only [nz]
 refine pl_nil ?_
 by_cases hk3 : r.k = 3
 ·have z := z3 hk3
  go_upto_region 6 with fail
  try simp only [Act.put]
  refine pl_begin ?_
  refine pl_t 26 (.bool true) (by rfl) (by go_simp <;> (try simp [*])) rfl ?_
  simp only [nz]
  refine pl_t 25 (?_) (by rfl) ?_ rfl ?_
  rotate_left
  ·go_simp
   try with_reducible rfl
  simp only [nz]
  refine pl_nil ?_
  clear z3 z7 hL2 hL3 cT cE hL1 cB hp
  go_upto_region 7 with fail
  refine hs_begin (S := (Below w1.drew.heap.size w1.drew)) 9 rfl (by kernel_rfl) ?_
  have hB8 := hB1.drew
  have hs8 : w.heap.size < w1.drew.heap.size := hs1
  replace row1 : RowAt w1.drew a1 L1 := row1.below (Below.refl _ _).drew
  have q1 : w1.drew.cell? ⟨w.heap.size, 1, none⟩ = some (.int .i64 r.l) := q1
  have q2 : w1.drew.cell? ⟨w.heap.size, 2, none⟩ = some (.int .i64 r.v) := q2
  have q3 : w1.drew.cell? ⟨w.heap.size, 3, none⟩ = some (.int .i64 r.s) := q3
  have hRd := (World.rangeAt_drew _ _ _ _).2 hR
  obtain ⟨w8, hw8⟩ : ∃ W, w1.drew = W := ⟨_, rfl⟩
  rw [hw8] at hB8 hs8 row1 q1 q2 q3 hRd ⊢
  clear hw8 hB1 hs1 hR mine1
  have hS : (Below w8.heap.size w8) w8 := Below.refl _ _
  refine hs_t 0 27 (?_) rfl (by kernel_rfl) (by kernel_rfl) (by kernel_rfl) (by rfl) ?_ hS rfl ?_
  rotate_left
  ·intro w' hw
   go_simp
   try with_reducible rfl
  simp only [nz]
  refine hs_t 1 28 (?_) rfl (by kernel_rfl) (by kernel_rfl) (by kernel_rfl) (by rfl) ?_ hS rfl ?_
  rotate_left
  ·intro w' hw
   go_simp
   try with_reducible rfl
  simp only [nz]
  refine hs_t 2 29 (.int .i64 r.l) rfl (by kernel_rfl) (by kernel_rfl) (by kernel_rfl) (by rfl) (fun w' hw => pl_one rfl rfl ((hw.cell (p := ⟨w.heap.size, 1, none⟩) hs8).trans q1) Tryz.underlying3 rfl) hS rfl ?_
  simp only [nz]
  refine hs_t 4 31 (?_) rfl (by kernel_rfl) (by kernel_rfl) (by kernel_rfl) (by rfl) ?_ hS rfl ?_
  rotate_left
  ·intro w' hw
   go_simp
   try with_reducible rfl
  simp only [nz]
  refine hs_t 5 32 (.int .i64 r.v) rfl (by kernel_rfl) (by kernel_rfl) (by kernel_rfl) (by rfl) (fun w' hw => pl_one rfl rfl ((hw.cell (p := ⟨w.heap.size, 2, none⟩) hs8).trans q2) Tryz.underlying3 rfl) hS rfl ?_
  simp only [nz]
  refine hs_call (i := 3) (d := some 30) rfl (by kernel_rfl) (by rfl) (by go_simp; first | done | exact ⟨rfl, rfl⟩ | with_reducible rfl) rfl ?_
  refine (tput_on a1 c1 L1 r.l w8 row1 (by omega) hl0).mono ?_
  rintro e9 w9 hf9
  obtain ⟨a2, c2, rfl, row2, mine2, hb9⟩ := FOn.row hf9 hM2.out (by omega)
  have hS : (Below w8.heap.size w8) w9 := hS.trans (hb9.mono hS.size)
  have hS9 := hS
  clear hf9 hb9
  refine ⟨_, rfl, hS, ?_⟩
  simp only [nz]
  refine hs_call (i := 6) (d := some 33) rfl (by kernel_rfl) (by rfl) (by go_simp; first | done | exact ⟨rfl, rfl⟩ | with_reducible rfl) rfl ?_
  refine (tput_on a2 c2 M2 r.v w9 row2 (by omega) hv0).mono ?_
  rintro e9 w10 hf9
  obtain ⟨a3, c3, rfl, row3, mine3, hb9⟩ := FOn.row hf9 hM3.out (by omega)
  have hS : (Below w8.heap.size w8) w10 := hS.trans (hb9.mono hS.size)
  clear hf9 hb9
  refine ⟨_, rfl, hS, ?_⟩
  simp only [nz]
  refine hs_t 7 2 (?_) rfl (by kernel_rfl) (by kernel_rfl) (by kernel_rfl) (by rfl) ?_ hS rfl ?_
  rotate_left
  ·intro w' hw
   go_simp
   try with_reducible rfl
  simp only [nz]
  refine hs_t 8 3 (?_) rfl (by kernel_rfl) (by kernel_rfl) (by kernel_rfl) (by rfl) ?_ hS rfl ?_
  rotate_left
  ·intro w' hw
   go_simp
   try with_reducible rfl
  simp only [nz]
  refine hs_done (by kernel_rfl) ?_
  have BB := hB8.trans (hS.mono hB8.size)
  have HM : Hid (Mine w10 w.heap.size (.slice a3 Z.length c3) Z) := hide (by
   rw [← z.out]
   exact ⟨owns_mono mine3.1 (Nat.le_trans hB8.size hS9.size), mine3.2⟩)
  have e3 : M3.length = Z.length := congrArg List.length z.out
  clear mine3 mine2 row3 row2 row1
  go_wp2_with fail
  go_ret2
  exact ⟨_, rfl, by rw [e3]; exact HM.out, BB⟩
 have n3 : (r.k == 3) = false := by simpa using hk3
 have z := z7 hk1 hk3
 clear z3 z7 hL2 hL3 hM2 hM3 cB hp
 go_upto_region 6 with fail
 try simp only [Act.put]
 refine pl_begin ?_
 refine pl_t 26 (.bool false) (by rfl) (by go_simp <;> (try simp [*])) rfl ?_
 simp only [nz]
 refine pl_t 25 (?_) (by rfl) ?_ rfl ?_
 rotate_left
 ·go_simp
  try with_reducible rfl
 simp only [nz]
 refine pl_nil ?_
 go_upto_region 8 with fail
 try simp only [Act.put]
 refine pl_begin ?_
 refine pl_t 35 (.agg r.cells.toArray) (by rfl) (ex_mid rfl rfl hR Tryz.underlying33 rfl ic) rfl ?_
 simp only [nz]
 refine pl_call (d := some 36) (by rfl) (by go_simp; first | done | exact ⟨rfl, rfl⟩ | with_reducible rfl) rfl ?_
 refine (cT w1).mono ?_
 rintro _ w2 ⟨rfl, hb2⟩
 refine ⟨_, rfl, ?_⟩
 simp only [nz]
 refine pl_call (d := some 37) (by rfl) (by go_simp; first | done | exact ⟨rfl, rfl⟩ | with_reducible rfl) rfl ?_
 refine (cE w2 (hB1.trans (hb2.mono hB1.size))).mono ?_
 rintro _ w3 ⟨rfl, hb3⟩
 refine ⟨_, rfl, ?_⟩
 simp only [nz]
 refine pl_t 34 (?_) (by rfl) ?_ rfl ?_
 rotate_left
 ·go_simp
  try with_reducible rfl
 simp only [nz]
 refine pl_t 38 (?_) (by rfl) ?_ rfl ?_
 rotate_left
 ·go_simp
  try with_reducible rfl
 simp only [nz]
 refine pl_t 39 (?_) (by rfl) ?_ rfl ?_
 rotate_left
 ·go_simp
  try with_reducible rfl
 simp only [nz]
 refine pl_t 5 (?_) (by rfl) ?_ rfl ?_
 rotate_left
 ·go_simp
  try with_reducible rfl
 simp only [nz]
 refine pl_t 6 (?_) (by rfl) ?_ rfl ?_
 rotate_left
 ·go_simp
  try with_reducible rfl
 simp only [nz]
 refine pl_nil ?_
 have B3 := (hB1.trans (hb2.mono hB1.size)).trans (hb3.mono (Nat.le_trans hB1.size hb2.size))
 have row3 := (row1.below hb2).below hb3
 clear mine1 row1
 go_upto_region 9 with fail
 try simp only [Act.put]
 refine pl_begin ?_
 refine pl_t 40 (?_) (by rfl) ?_ rfl ?_
 rotate_left
 ·go_simp
  try with_reducible rfl
 simp only [nz]
 refine pl_t 41 (?_) (by rfl) ?_ rfl ?_
 rotate_left
 ·go_simp
  try with_reducible rfl
 simp only [nz]
 refine pl_call (d := some 42) (by rfl) (by go_simp; first | done | exact ⟨rfl, rfl⟩ | with_reducible rfl) rfl ?_
 refine (ttext_on a1 c1 L1 tb w3 row3 (by omega) (by omega)).mono ?_
 rintro e9 w4 hf9
 obtain ⟨a4, c4, rfl, row4, mine4, hb9⟩ := FOn.row hf9 z.out (by omega)
 have hN4 : Below w.heap.size w w4 := B3.trans (hb9.mono B3.size)
 clear hf9
 refine ⟨_, rfl, ?_⟩
 simp only [nz]
 refine pl_t 43 (?_) (by rfl) ?_ rfl ?_
 rotate_left
 ·go_simp
  try with_reducible rfl
 simp only [nz]
 refine pl_t 2 (?_) (by rfl) ?_ rfl ?_
 rotate_left
 ·go_simp
  try with_reducible rfl
 simp only [nz]
 refine pl_t 3 (?_) (by rfl) ?_ rfl ?_
 rotate_left
 ·go_simp
  try with_reducible rfl
 simp only [nz]
 refine pl_nil ?_
 replace mine4 : Mine w4 w.heap.size (.slice a4 Z.length c4) Z := ⟨owns_mono mine4.1 B3.size, mine4.2⟩
 have HM := hide mine4
 clear mine4 row4 hb9
 go_wp2_with fail
 go_ret2
 exact ⟨_, rfl, HM.out, hN4⟩
set_option maxRecDepth 100000 in
set_option maxHeartbeats 2000000 in
theorem kencode_any (r : Rc) (w : World) (h : r.ct.ok) (am : r.At w) (hf : r.good = true → r.Fine) : Calls Tryz.prog 9 #[.agg r.cells.toArray] w fun e w' => EncR r w e w' := by
 have ic : (Tryz.prog.info? 33).map (·.size) = some r.cells.length := by rw [Rc.len h]; exact iszRc
 have cG := fun w0 (h0 : Below w.heap.size w w0) => kgood_any r w0 h (am.below h0)
 have cB := fun hg w0 (h0 : Below w.heap.size w w0) => kbytesOf_any r w0 h (am.below h0) hg (hf hg)
 have hl := fun hg => Rc.bytes_le am (hf hg)
 obtain ⟨E, hE⟩ : ∃ E, Hid (encE r = E) := ⟨_, hide rfl⟩
 obtain ⟨Z, hZ⟩ : ∃ E, Hid (encZ r = E) := ⟨_, hide rfl⟩
 obtain ⟨Y, hY⟩ : ∃ E, Hid (r.bytes = E) := ⟨_, hide rfl⟩
 have e1 : r.good = true → E = 0 ∧ Z = Y := fun hg => by rw [← hE.out, ← hZ.out, ← hY.out]; unfold encE encZ; rw [if_pos hg, if_pos hg]; exact ⟨rfl, rfl⟩
 have e2 : r.good = false → E = 240 ∧ Z = [] := fun hg => by rw [← hE.out, ← hZ.out]; unfold encE encZ; rw [if_neg (by rw [hg]; decide), if_neg (by rw [hg]; decide)]; exact ⟨rfl, rfl⟩
 unfold EncR
 rw [hE.out, hZ.out]
 simp only [hY.out] at cB hl
 clear hE hZ hY
 obtain ⟨g, hg⟩ : ∃ g, Hid (r.good = g) := ⟨_, hide rfl⟩
 rw [hg.out] at hf e1 e2
 simp only [hg.out] at cG cB hl
 clear hg
 obtain ⟨hB1, hR1, hs1⟩ := boxed_new w r.cells 33
 go_enter Tryz.func9, Tryz.ntmps9
 go_upto_region 1 with fail
 obtain ⟨V0, hV0⟩ : ∃ q : World, w.alloc (.cells r.cells.toArray 33) = q := ⟨_, rfl⟩
 rw [hV0] at hB1 hR1 hs1 ⊢
 clear hV0
 try simp only [Act.put]
 refine pl_begin ?_
 refine pl_t 6 (.agg r.cells.toArray) (by rfl) (ex_mid rfl rfl hR1 Tryz.underlying33 rfl ic) rfl ?_
 simp only [nz]
 refine pl_call (d := some 7) (by rfl) (by go_simp; first | done | exact ⟨rfl, rfl⟩ | with_reducible rfl) rfl ?_
 refine (cG V0 hB1).mono ?_
 rintro _ w1 ⟨rfl, hb1⟩
 refine ⟨_, rfl, ?_⟩
 simp only [nz]
 cases g
 ·refine pl_t 8 (?_) (by rfl) ?_ rfl ?_
  rotate_left
  ·go_simp
   try with_reducible rfl
  simp only [nz]
  refine pl_nil ?_
  obtain ⟨rfl, rfl⟩ := e2 rfl
  have HB := hide (hB1.trans (hb1.mono hB1.size))
  clear hB1 hR1 hs1 hb1 cG cB hl e1 e2
  go_wp2_with fail
  go_ret2
  exact ⟨_, rfl, nil_mine _ _, HB.out⟩
 ·refine pl_t 8 (?_) (by rfl) ?_ rfl ?_
  rotate_left
  ·go_simp
   try with_reducible rfl
  simp only [nz]
  refine pl_nil ?_
  obtain ⟨rfl, rfl⟩ := e1 rfl
  have hb := hB1.trans (hb1.mono hB1.size)
  have hR := range_below hR1 hb1 hs1
  have hlz := hl rfl
  have cb := cB rfl
  clear hB1 hR1 hs1 hb1 cG cB hl e1 e2
  go_upto_region 3 with fail
  try simp only [Act.put]
  refine pl_begin ?_
  refine pl_t 10 (.agg r.cells.toArray) (by rfl) (ex_mid rfl rfl hR Tryz.underlying33 rfl ic) rfl ?_
  simp only [nz]
  refine pl_call (d := some 11) (by rfl) (by go_simp; first | done | exact ⟨rfl, rfl⟩ | with_reducible rfl) rfl ?_
  refine (cb w1 hb).mono ?_
  rintro _ w2 ⟨v2, rfl, mine2, hb2⟩
  obtain ⟨a2, c2, rfl, -, -, row2⟩ := mine2.rowAt (by unfold maxLen; omega)
  refine ⟨_, rfl, ?_⟩
  simp only [nz]
  refine pl_t 9 (?_) (by rfl) ?_ rfl ?_
  rotate_left
  ·go_simp
   try with_reducible rfl
  simp only [nz]
  refine pl_t 12 (?_) (by rfl) ?_ rfl ?_
  rotate_left
  ·go_simp
   try with_reducible rfl
  simp only [nz]
  refine pl_t 13 (?_) (by rfl) ?_ rfl ?_
  rotate_left
  ·go_simp
   try with_reducible rfl
  simp only [nz]
  refine pl_t 4 (?_) (by rfl) ?_ rfl ?_
  rotate_left
  ·go_simp
   try with_reducible rfl
  simp only [nz]
  refine pl_t 5 (?_) (by rfl) ?_ rfl ?_
  rotate_left
  ·go_simp
   try with_reducible rfl
  simp only [nz]
  refine pl_nil ?_
  have HM : Hid (Mine w2 w.heap.size (.slice a2 Z.length c2) Z) := hide ⟨owns_mono mine2.1 hb.size, mine2.2⟩
  have HB := hide (hb.trans (hb2.mono hb.size))
  clear mine2 row2 hb2 hb hR cb
  go_upto_region 4 with fail
  try simp only [Act.put]
  refine pl_begin ?_
  refine pl_t 15 (?_) (by rfl) ?_ rfl ?_
  rotate_left
  ·go_simp
   try with_reducible rfl
  simp only [nz]
  refine pl_t 16 (.bool false) (by rfl) (by go_simp) rfl ?_
  simp only [nz]
  refine pl_t 14 (?_) (by rfl) ?_ rfl ?_
  rotate_left
  ·go_simp
   try with_reducible rfl
  simp only [nz]
  refine pl_nil ?_
  go_upto_region 6 with fail
  try simp only [Act.put]
  refine pl_begin ?_
  refine pl_t 19 (?_) (by rfl) ?_ rfl ?_
  rotate_left
  ·go_simp
   try with_reducible rfl
  simp only [nz]
  refine pl_t 20 (?_) (by rfl) ?_ rfl ?_
  rotate_left
  ·go_simp
   try with_reducible rfl
  simp only [nz]
  refine pl_t 21 (.bool false) (by rfl) (by go_simp <;> (try simp) <;> (try omega)) rfl ?_
  simp only [nz]
  refine pl_t 18 (?_) (by rfl) ?_ rfl ?_
  rotate_left
  ·go_simp
   try with_reducible rfl
  simp only [nz]
  refine pl_nil ?_
  go_wp2_with fail
  go_ret2
  exact ⟨_, rfl, HM.out, HB.out⟩
def Rp.zero (k : Int) : Rp := ⟨k, 0, 0, 0, false, [], Vt.zero, [], ⟨#[]⟩, []⟩
def krA (s : Xst) : (Rp × ByteArray) × Xst := (({ Rp.zero 1 with s := (xnuS 1099511627776 s).1, v := (xnuS 1099511627776 (xnuS 1099511627776 s).2).1, q := (xbaS (xnuS 1099511627776 (xnuS 1099511627776 s).2).2).1.1, rs := (xbaS (xnuS 1099511627776 (xnuS 1099511627776 s).2).2).1.2 }, ⟨#[]⟩), (xbaS (xnuS 1099511627776 (xnuS 1099511627776 s).2).2).2)
def krV (s : Xst) : (Rp × ByteArray) × Xst := (({ Rp.zero 3 with l := (xnuS 64 s).1, v := (xnuS 1099511627776 (xnuS 64 s).2).1 }, ⟨#[]⟩), (xnuS 1099511627776 (xnuS 64 s).2).2)
def krT (k : Int) (s : Xst) : (Rp × ByteArray) × Xst := ((Rp.zero k, (xtxS 4194304 s).1), (xtxS 4194304 s).2)
def krS (s : Xst) : (Rp × ByteArray) × Xst :=
  if (xnuS 5 s).1 = 1 then krA (xnuS 5 s).2
  else if (xnuS 5 s).1 = 3 then krV (xnuS 5 s).2
  else if (xnuS 5 s).1 = 2 ∨ (xnuS 5 s).1 = 4 ∨ (xnuS 5 s).1 = 5 then krT (xnuS 5 s).1 (xnuS 5 s).2
  else ((Rp.zero (xnuS 5 s).1, ⟨#[]⟩), (xnuS 5 s).2)
theorem pnumS (R : Nat) (most : Int) (s : Xst) (w : World) (h : St w R s.1 s.2) : Calls Tryz.prog 72 #[.pointer (some ⟨R, 0, none⟩), .int .i64 most] w fun en w' => en = .returned (.int .i64 (xnuS most s).1) ∧ St w' R (xnuS most s).2.1 (xnuS most s).2.2 ∧ w.grownBy w' (some R) := num_any R s.1 s.2 most w h
theorem ptextS (R : Nat) (most : Int) (s : Xst) (w : World) (h : St w R s.1 s.2) : Calls Tryz.prog 74 #[.pointer (some ⟨R, 0, none⟩), .int .i64 most] w fun en w' => en = .returned (.string (xtxS most s).1) ∧ St w' R (xtxS most s).2.1 (xtxS most s).2.2 ∧ w.grownBy w' (some R) := text_any R s.1 s.2 most w h h.pos
theorem pbatS (R : Nat) (s : Xst) (w : World) (h : St w R s.1 s.2) (hl : s.1.length ≤ 40000) : Calls Tryz.prog 73 #[.pointer (some ⟨R, 0, none⟩)] w fun en w' => ∃ x : Sl Rq, en = .returned (.agg #[.bool (xbaS s).1.1, x.val]) ∧ x.xs = (xbaS s).1.2 ∧ x.At RqE w' ∧ x.Bk (fun b => w.heap.size ≤ b) ∧ St w' R (xbaS s).2.1 (xbaS s).2.2 ∧ w.grownBy w' (some R) :=
 (bget_any R s.1 s.2 w h hl h.bs).mono (by
  rintro _ w1 ⟨a, cap, rfl, h1, h2, h3, h4, h5, h6⟩
  have e : (getB s.1 s.2).rs.length = ((getB s.1 s.2).rs.map BRq.un).length := (List.length_map ..).symm
  refine ⟨⟨a, cap, _⟩, ?_, rfl, rows_req h3, ?_, h5, h6⟩
  ·show _ = Ending.returned (.agg #[_, .slice a ((getB s.1 s.2).rs.map BRq.un).length cap])
   rw [← e]; rfl
  ·intro b hne hb
   exact h4 b hb)
structure KR (w : World) (R X : Nat) (c : Rc) (s : Xst) (W : World) : Prop where
  own : W.rangeAt X 0 c.cells
  thX : W.there X 0 45
  st : St W R s.1 s.2
  gb : w.grownBy W (some R)
  lx : X < W.heap.size
  xw : w.heap.size ≤ X
  rx : R < w.heap.size
  ok : c.ct.ok
theorem KR.on {w W W' : World} {R X : Nat} {c : Rc} {s : Xst} (h : KR w R X c s W) (s' : Xst) (hs : St W' R s'.1 s'.2) (hg : W.grownBy W' (some R)) : KR w R X c s' W' := by
 have h1 := h.xw
 have h2 := h.rx
 have hb := hg.block X h.lx (by intro q; injection q with q; omega)
 exact ⟨range_blk h.own hb, there_blk h.thX hb, hs, gb_trans h.gb hg, Nat.lt_of_lt_of_le h.lx hg.size, h1, h2, h.ok⟩
theorem KR.put {w W : World} {R X : Nat} {c c' : Rc} {s : Xst} (h : KR w R X c s W) (hc : c'.ct.ok) (pre mid vs post : List Value) (e1 : c.cells = pre ++ (mid ++ post)) (e2 : c'.cells = pre ++ (vs ++ post)) (o : Nat) (ho : pre.length = o) (hl : vs.length = mid.length) (hn : o + vs.length ≤ 45) : KR w R X c' s (W.setCells X o vs) := by
 have h1 := h.xw
 have h2 := h.rx
 have hb : Below w.heap.size W (W.setCells X o vs) := below_sets h1 vs o _ (Below.refl _ _)
 exact ⟨by rw [e2]; exact range_put (by rw [← e1]; exact h.own) o ho (there_part1 h.thX hn) hl, World.there_setCells h.thX X o vs, h.st.belowN hb h2, ⟨hb.os.trans h.gb.os, hb.tape.trans h.gb.tape, hb.output.trans h.gb.output, Nat.le_trans h.gb.size hb.size, fun i hi hne => (hb.block i hi).trans (h.gb.block i hi hne)⟩, by rw [size_sets]; exact h.lx, h1, h2, hc⟩
theorem KR.k {w W : World} {R X : Nat} {c : Rc} {s : Xst} (h : KR w R X c s W) (x : Int) : KR w R X { c with k := x } s (W.setCells X 0 [.int .i64 x]) :=
 h.put (c' := { c with k := x }) h.ok [] [.int .i64 c.k] [.int .i64 x] _ rfl rfl 0 rfl rfl (by simp)
theorem KR.l {w W : World} {R X : Nat} {c : Rc} {s : Xst} (h : KR w R X c s W) (x : Int) : KR w R X { c with l := x } s (W.setCells X 1 [.int .i64 x]) :=
 h.put (c' := { c with l := x }) h.ok [.int .i64 c.k] [.int .i64 c.l] [.int .i64 x] _ rfl rfl 1 rfl rfl (by simp)
theorem KR.v {w W : World} {R X : Nat} {c : Rc} {s : Xst} (h : KR w R X c s W) (x : Int) : KR w R X { c with v := x } s (W.setCells X 2 [.int .i64 x]) :=
 h.put (c' := { c with v := x }) h.ok [.int .i64 c.k, .int .i64 c.l] [.int .i64 c.v] [.int .i64 x] _ rfl rfl 2 rfl rfl (by simp)
theorem KR.s {w W : World} {R X : Nat} {c : Rc} {s : Xst} (h : KR w R X c s W) (x : Int) : KR w R X { c with s := x } s (W.setCells X 3 [.int .i64 x]) :=
 h.put (c' := { c with s := x }) h.ok [.int .i64 c.k, .int .i64 c.l, .int .i64 c.v] [.int .i64 c.s] [.int .i64 x] _ rfl rfl 3 rfl rfl (by simp)
theorem KR.b {w W : World} {R X : Nat} {c : Rc} {s : Xst} (h : KR w R X c s W) (q : Bool) (x : Sl Rq) : KR w R X { c with q := q, rs := x } s (W.setCells X 4 [.bool q, x.val]) :=
 h.put (c' := { c with q := q, rs := x }) h.ok [.int .i64 c.k, .int .i64 c.l, .int .i64 c.v, .int .i64 c.s] [.bool c.q, c.rs.val] [.bool q, x.val] _ rfl rfl 4 rfl rfl (by simp)
def ReadK (w : World) (R : Nat) (p : (Rp × ByteArray) × Xst) (en : Ending) (w' : World) : Prop := ∃ c : Rc, en = .returned (.tuple #[.agg c.cells.toArray, .string p.1.2]) ∧ c.pure = p.1.1 ∧ c.ct.ok ∧ c.rs.At RqE w' ∧ c.cs = ⟨none, 0, []⟩ ∧ c.sg = ⟨none, 0, []⟩ ∧ c.rs.Bk (fun b => w.heap.size ≤ b) ∧ St w' R p.2.1 p.2.2 ∧ w.grownBy w' (some R)
theorem xnuS_len (most : Int) (s : Xst) : (xnuS most s).2.1.length ≤ s.1.length := numS_len _ _ _
set_option maxRecDepth 100000 in
set_option maxHeartbeats 2000000 in
theorem kread_any (R : Nat) (s : Xst) (w : World) (h : St w R s.1 s.2) (hl : s.1.length ≤ 40000) : Calls Tryz.prog 36 #[.pointer (some ⟨R, 0, none⟩)] w fun en w' => ReadK w R (krS s) en w' := by
 obtain ⟨zc, hz0, hzl, hzr⟩ : ∃ z : List Value, Hid (z = (Rc.zero 0).cells) ∧ z.length = 45 ∧ ∀ w : World, (zeroValue 33).run Tryz.prog w = .ok (.agg z.toArray) w := ⟨_, hide rfl, Rc.len Vt.zero_ok, zeroRc⟩
 have hR : R < w.heap.size := h.1.1
 have c1 := fun w0 h0 => pnumS R 5 s w0 h0
 have l1 : (xnuS 5 s).2.1.length ≤ 40000 := Nat.le_trans (xnuS_len 5 s) hl
 unfold krS
 generalize xnuS 5 s = p at c1 l1 ⊢
 obtain ⟨k, s1⟩ := p
 simp only at c1 l1 ⊢
 obtain ⟨PP, HP1⟩ : ∃ P, Hid (P = (if k = 1 then krA s1 else if k = 3 then krV s1 else if k = 2 ∨ k = 4 ∨ k = 5 then krT k s1 else ((Rp.zero k, ⟨#[]⟩), s1))) := ⟨_, hide rfl⟩
 rw [← HP1.out]
 obtain ⟨hB1, hr0, hs1⟩ := boxed_new w zc 33
 have ht1 := there_newN w zc.toArray 33 (n := 45) (by simp [hzl])
 have on : KR w R w.heap.size (Rc.zero 0) s (w.alloc (.cells zc.toArray 33)) := ⟨by rw [← hz0.out]; exact hr0, ht1, h.below hB1, ⟨hB1.os, hB1.tape, hB1.output, hB1.size, fun i hi _ => hB1.block i hi⟩, hs1, Nat.le_refl _, hR, Vt.zero_ok⟩
 clear hB1 hr0 hs1 ht1 hz0 hzl h hl
 obtain ⟨X, hX⟩ : ∃ X, w.heap.size = X := ⟨_, rfl⟩
 have hXs : X = w.heap.size := hX.symm
 go_enter Tryz.func36, Tryz.ntmps36
 go_upto_region 0 with fail
 try simp only [Act.put]
 refine pl_begin ?_
 refine pl_run (d := some 2) (v := .pointer (some ⟨w.heap.size, 0, none⟩)) (w' := w.alloc (.cells zc.toArray 33)) (by rfl) (ex_alloc rfl (hzr _)) rfl ?_
 simp only [nz]
 refine pl_t 3 (?_) (by rfl) ?_ rfl ?_
 rotate_left
 ·go_simp
  try with_reducible rfl
 simp only [nz]
 refine pl_nil ?_
 obtain ⟨W1, hW1⟩ : ∃ W, w.alloc (.cells zc.toArray 33) = W := ⟨_, rfl⟩
 rw [hW1] at on ⊢
 rw [hX] at on
 simp only [hX]
 have HX := hide hXs
 clear hW1 hX hXs hR hzr
 go_upto_region 1 with fail
 try simp only [Act.put]
 refine pl_begin ?_
 refine pl_t 4 (?_) (by rfl) ?_ rfl ?_
 rotate_left
 ·go_simp
  try with_reducible rfl
 simp only [nz]
 refine pl_call (d := some 5) (by rfl) (by go_simp; first | done | exact ⟨rfl, rfl⟩ | with_reducible rfl) rfl ?_
 refine (c1 W1 on.st).mono ?_
 rintro _ o1W ⟨rfl, hs9, hg9⟩
 have o1 := on.on _ hs9 hg9
 clear hs9 hg9
 refine ⟨_, rfl, ?_⟩
 simp only [nz]
 refine pl_t 6 (?_) (by rfl) ?_ rfl ?_
 rotate_left
 ·go_simp
  try with_reducible rfl
 simp only [nz]
 refine pl_store (w' := o1W.setCells X 0 [.int .i64 k]) (by rfl) (ex_put1 (n := 45) rfl rfl rfl o1.thX (by decide) iszI rfl rfl) rfl ?_
 refine pl_nil ?_
 have o1' := o1.k k
 obtain ⟨o1V, ho1⟩ : ∃ W, o1W.setCells X 0 [.int .i64 k] = W := ⟨_, rfl⟩
 rw [ho1] at o1' ⊢
 clear ho1 o1 on
 have on := o1'
 clear o1' c1
 have k0 : o1V.cell? ⟨X, 0, none⟩ = some (.int .i64 k) := on.own 0 _ rfl
 go_upto_region 2 with fail
 try simp only [Act.put]
 refine pl_begin ?_
 refine pl_t 7 (?_) (by rfl) ?_ rfl ?_
 rotate_left
 ·go_simp
  try with_reducible rfl
 simp only [nz]
 refine pl_t 8 (.int .i64 k) (by rfl) (pl_one rfl rfl k0 Tryz.underlying3 rfl) rfl ?_
 simp only [nz]
 refine pl_nil ?_
 clear k0
 by_cases hk1 : k = 1
 ·have HP : PP = krA s1 := by rw [HP1.out, if_pos hk1]
  clear HP1
  subst hk1
  unfold krA at HP
  have c2 := fun w0 h0 => pnumS R 1099511627776 s1 w0 h0
  have l2 := Nat.le_trans (xnuS_len 1099511627776 s1) l1
  generalize xnuS 1099511627776 s1 = p at c2 l2 HP
  obtain ⟨x2, s2⟩ := p
  simp only at c2 l2 HP
  have c3 := fun w0 h0 => pnumS R 1099511627776 s2 w0 h0
  have l3 := Nat.le_trans (xnuS_len 1099511627776 s2) l2
  generalize xnuS 1099511627776 s2 = p at c3 l3 HP
  obtain ⟨x3, s3⟩ := p
  simp only at c3 l3 HP
  have c4 := fun w0 h0 => pbatS R s3 w0 h0 l3
  generalize xbaS s3 = p at c4 HP
  obtain ⟨⟨q4, rs4⟩, s4⟩ := p
  simp only at c4 HP
  have HPP := hide HP
  clear HP
  clear l1 l2 l3
  go_upto_region 3 with fail
  try simp only [Act.put]
  refine pl_begin ?_
  refine pl_t 10 (.bool true) (by rfl) (by go_simp <;> (try simp [*])) rfl ?_
  simp only [nz]
  refine pl_t 9 (?_) (by rfl) ?_ rfl ?_
  rotate_left
  ·go_simp
   try with_reducible rfl
  simp only [nz]
  refine pl_nil ?_
  go_upto_region 8 with fail
  try simp only [Act.put]
  refine pl_begin ?_
  refine pl_t 18 (?_) (by rfl) ?_ rfl ?_
  rotate_left
  ·go_simp
   try with_reducible rfl
  simp only [nz]
  refine pl_call (d := some 19) (by rfl) (by go_simp; first | done | exact ⟨rfl, rfl⟩ | with_reducible rfl) rfl ?_
  refine (c2 o1V on.st).mono ?_
  rintro _ o2W ⟨rfl, hs9, hg9⟩
  have o2 := on.on _ hs9 hg9
  clear hs9 hg9
  refine ⟨_, rfl, ?_⟩
  simp only [nz]
  refine pl_t 20 (?_) (by rfl) ?_ rfl ?_
  rotate_left
  ·go_simp
   try with_reducible rfl
  simp only [nz]
  refine pl_store (w' := o2W.setCells X 3 [.int .i64 x2]) (by rfl) (ex_put1 (n := 45) rfl rfl rfl o2.thX (by decide) iszI rfl rfl) rfl ?_
  refine pl_nil ?_
  have o2' := o2.s x2
  obtain ⟨o2V, ho2⟩ : ∃ W, o2W.setCells X 3 [.int .i64 x2] = W := ⟨_, rfl⟩
  rw [ho2] at o2' ⊢
  clear ho2 o2 on
  go_upto_region 9 with fail
  try simp only [Act.put]
  refine pl_begin ?_
  refine pl_t 21 (?_) (by rfl) ?_ rfl ?_
  rotate_left
  ·go_simp
   try with_reducible rfl
  simp only [nz]
  refine pl_call (d := some 22) (by rfl) (by go_simp; first | done | exact ⟨rfl, rfl⟩ | with_reducible rfl) rfl ?_
  refine (c3 o2V o2'.st).mono ?_
  rintro _ o3W ⟨rfl, hs9, hg9⟩
  have o3 := o2'.on _ hs9 hg9
  clear hs9 hg9
  refine ⟨_, rfl, ?_⟩
  simp only [nz]
  refine pl_t 23 (?_) (by rfl) ?_ rfl ?_
  rotate_left
  ·go_simp
   try with_reducible rfl
  simp only [nz]
  refine pl_store (w' := o3W.setCells X 2 [.int .i64 x3]) (by rfl) (ex_put1 (n := 45) rfl rfl rfl o3.thX (by decide) iszI rfl rfl) rfl ?_
  refine pl_nil ?_
  have o3' := o3.v x3
  obtain ⟨o3V, ho3⟩ : ∃ W, o3W.setCells X 2 [.int .i64 x3] = W := ⟨_, rfl⟩
  rw [ho3] at o3' ⊢
  clear ho3 o3 o2'
  clear c2 c3
  go_upto_region 10 with fail
  try simp only [Act.put]
  refine pl_begin ?_
  refine pl_t 24 (?_) (by rfl) ?_ rfl ?_
  rotate_left
  ·go_simp
   try with_reducible rfl
  simp only [nz]
  refine pl_call (d := some 25) (by rfl) (by go_simp; first | done | exact ⟨rfl, rfl⟩ | with_reducible rfl) rfl ?_
  refine (c4 o3V o3'.st).mono ?_
  rintro _ o4W ⟨x, rfl, hxx, hxa, hxb, hs9, hg9⟩
  have lX := o3'.lx
  have o4 := o3'.on _ hs9 hg9
  clear hs9 hg9
  refine ⟨_, rfl, ?_⟩
  simp only [nz]
  refine pl_t 26 (?_) (by rfl) ?_ rfl ?_
  rotate_left
  ·go_simp
   try with_reducible rfl
  simp only [nz]
  refine pl_store (w' := o4W.setCells X 4 [.bool q4, x.val]) (by rfl) (ex_put (cs := #[.bool q4, x.val]) rfl rfl rfl (there_part1 o4.thX (by simp)) iszBa (bat_all _ _)) rfl ?_
  refine pl_nil ?_
  have o5 := o4.b q4 x
  have hx5 : x.At RqE (o4W.setCells X 4 [.bool q4, x.val]) := hxa.put hxb (fun b hb => by omega)
  obtain ⟨o5V, ho5⟩ : ∃ W, o4W.setCells X 4 [.bool q4, x.val] = W := ⟨_, rfl⟩
  rw [ho5] at o5 hx5 ⊢
  clear ho5 o4 o3' c4
  obtain ⟨C, hC⟩ : ∃ C : Rc, C = ⟨1, 0, x3, x2, q4, x, Vt.zero, ⟨none, 0, []⟩, ⟨#[]⟩, ⟨none, 0, []⟩⟩ := ⟨_, rfl⟩
  replace o5 : KR w R X C s4 o5V := by rw [hC]; exact o5
  have hC1 : C.pure = { Rp.zero 1 with s := x2, v := x3, q := q4, rs := rs4 } := by rw [hC, ← hxx]; rfl
  have hC2 : C.rs = x ∧ C.cs = ⟨none, 0, []⟩ ∧ C.sg = ⟨none, 0, []⟩ := by rw [hC]; exact ⟨rfl, rfl, rfl⟩
  clear hC
  obtain ⟨qc, hqc⟩ : ∃ q, Hid (C.cells = q) := ⟨_, hide rfl⟩
  have hql : C.cells.length = 45 := Rc.len o5.ok
  have hq1 := Rc.one C
  have ho := o5.own
  rw [hqc.out] at hql hq1 ho
  have hiq : (Tryz.prog.info? 33).map (·.size) = some qc.length := by rw [hql]; exact iszRc
  have hth := o5.thX
  have hx1 := o5.xw
  have hx2 := o5.rx
  have hx3 := o5.lx
  go_upto_region 14 with fail
  try simp only [Act.put]
  refine pl_begin ?_
  refine pl_t 35 (.agg qc.toArray) (by rfl) (ex_mid rfl rfl ho Tryz.underlying33 rfl hiq) rfl ?_
  simp only [nz]
  refine pl_t 36 (?_) (by rfl) ?_ rfl ?_
  rotate_left
  ·go_simp
   try with_reducible rfl
  simp only [nz]
  refine pl_store (w' := o5V.setCells X 0 qc) (by rfl) (ex_put (cs := qc.toArray) rfl rfl rfl (by simpa [hql] using hth) (by simpa using hiq) (all_one hq1)) rfl ?_
  refine pl_t 3 (?_) (by rfl) ?_ rfl ?_
  rotate_left
  ·go_simp
   try with_reducible rfl
  simp only [nz]
  refine pl_nil ?_
  have hrs := run_loadVar_mid (P := Tryz.prog) (o5V.setCells X 0 qc) X 0 33 qc _ (World.rangeAt_setCells_same o5V X 0 qc (by rw [hql]; exact hth)) Tryz.underlying33 rfl hiq
  have HF : Hid (Ending.returned (.tuple #[.agg qc.toArray, .string ⟨#[]⟩]) = .returned (.tuple #[.agg C.cells.toArray, .string ⟨#[]⟩])) := hide (by rw [hqc.out])
  have hb9 : Below w.heap.size o5V (o5V.setCells X 0 qc) := below_sets hx1 qc 0 _ (Below.refl _ _)
  have HG := hide (o5.put (c' := C) o5.ok [] C.cells C.cells [] (by simp) (by simp) 0 rfl rfl (by rw [Rc.len o5.ok]; decide))
  rw [hqc.out] at HG
  have hx6 : x.At RqE (o5V.setCells X 0 qc) := hx5.put hxb (fun b hb => by omega)
  have HZ : Hid (C.pure = { Rp.zero 1 with s := x2, v := x3, q := q4, rs := rs4 } ∧ C.ct.ok ∧ C.rs.At RqE (o5V.setCells X 0 qc) ∧ C.cs = ⟨none, 0, []⟩ ∧ C.sg = ⟨none, 0, []⟩ ∧ C.rs.Bk (fun b => w.heap.size ≤ b)) := hide ⟨hC1, o5.ok, by rw [hC2.1]; exact hx6, hC2.2.1, hC2.2.2, by rw [hC2.1, ← HX.out]; exact hxb.mono (fun b hb => by omega)⟩
  clear hx5 hx6 hxa hxb hC1 hC2 lX hxx
  clear ho hth hx1 hx2 hx3 hb9 o5 hql hq1 hqc
  go_wp2_with fail
  refine bodyPost_ret (results_ct rfl _ _ _ rfl hrs) rfl ?_
  obtain ⟨z1, z2, z3, z4, z5, z6⟩ := HZ.out
  rw [HPP.out]
  exact ⟨C, HF.out, z1, z2, z3, z4, z5, z6, HG.out.st, HG.out.gb⟩
 have n1 : (k == 1) = false := by simpa using hk1
 go_upto_region 3 with fail
 try simp only [Act.put]
 refine pl_begin ?_
 refine pl_t 10 (.bool false) (by rfl) (by go_simp <;> (try simp [*])) rfl ?_
 simp only [nz]
 refine pl_t 9 (?_) (by rfl) ?_ rfl ?_
 rotate_left
 ·go_simp
  try with_reducible rfl
 simp only [nz]
 refine pl_nil ?_
 by_cases hk3 : k = 3
 ·have HP : PP = krV s1 := by rw [HP1.out, if_neg hk1, if_pos hk3]
  clear HP1
  subst hk3
  unfold krV at HP
  have c2 := fun w0 h0 => pnumS R 64 s1 w0 h0
  generalize xnuS 64 s1 = p at c2 HP
  obtain ⟨x2, s2⟩ := p
  simp only at c2 HP
  have c3 := fun w0 h0 => pnumS R 1099511627776 s2 w0 h0
  generalize xnuS 1099511627776 s2 = p at c3 HP
  obtain ⟨x3, s3⟩ := p
  simp only at c3 HP
  have HPP := hide HP
  clear HP l1 hk1
  go_upto_region 4 with fail
  try simp only [Act.put]
  refine pl_begin ?_
  refine pl_t 12 (.bool true) (by rfl) (by go_simp <;> (try simp [*])) rfl ?_
  simp only [nz]
  refine pl_t 11 (?_) (by rfl) ?_ rfl ?_
  rotate_left
  ·go_simp
   try with_reducible rfl
  simp only [nz]
  refine pl_nil ?_
  go_upto_region 11 with fail
  try simp only [Act.put]
  refine pl_begin ?_
  refine pl_t 27 (?_) (by rfl) ?_ rfl ?_
  rotate_left
  ·go_simp
   try with_reducible rfl
  simp only [nz]
  refine pl_call (d := some 28) (by rfl) (by go_simp; first | done | exact ⟨rfl, rfl⟩ | with_reducible rfl) rfl ?_
  refine (c2 o1V on.st).mono ?_
  rintro _ o2W ⟨rfl, hs9, hg9⟩
  have o2 := on.on _ hs9 hg9
  clear hs9 hg9
  refine ⟨_, rfl, ?_⟩
  simp only [nz]
  refine pl_t 29 (?_) (by rfl) ?_ rfl ?_
  rotate_left
  ·go_simp
   try with_reducible rfl
  simp only [nz]
  refine pl_store (w' := o2W.setCells X 1 [.int .i64 x2]) (by rfl) (ex_put1 (n := 45) rfl rfl rfl o2.thX (by decide) iszI rfl rfl) rfl ?_
  refine pl_nil ?_
  have o2' := o2.l x2
  obtain ⟨o2V, ho2⟩ : ∃ W, o2W.setCells X 1 [.int .i64 x2] = W := ⟨_, rfl⟩
  rw [ho2] at o2' ⊢
  clear ho2 o2 on
  go_upto_region 12 with fail
  try simp only [Act.put]
  refine pl_begin ?_
  refine pl_t 30 (?_) (by rfl) ?_ rfl ?_
  rotate_left
  ·go_simp
   try with_reducible rfl
  simp only [nz]
  refine pl_call (d := some 31) (by rfl) (by go_simp; first | done | exact ⟨rfl, rfl⟩ | with_reducible rfl) rfl ?_
  refine (c3 o2V o2'.st).mono ?_
  rintro _ o3W ⟨rfl, hs9, hg9⟩
  have o3 := o2'.on _ hs9 hg9
  clear hs9 hg9
  refine ⟨_, rfl, ?_⟩
  simp only [nz]
  refine pl_t 32 (?_) (by rfl) ?_ rfl ?_
  rotate_left
  ·go_simp
   try with_reducible rfl
  simp only [nz]
  refine pl_store (w' := o3W.setCells X 2 [.int .i64 x3]) (by rfl) (ex_put1 (n := 45) rfl rfl rfl o3.thX (by decide) iszI rfl rfl) rfl ?_
  refine pl_nil ?_
  have o3' := o3.v x3
  obtain ⟨o3V, ho3⟩ : ∃ W, o3W.setCells X 2 [.int .i64 x3] = W := ⟨_, rfl⟩
  rw [ho3] at o3' ⊢
  clear ho3 o3 o2'
  clear c2 c3
  have o5 := o3'
  clear o3'
  obtain ⟨C, hC⟩ : ∃ C : Rc, C = ⟨3, x2, x3, 0, false, ⟨none, 0, []⟩, Vt.zero, ⟨none, 0, []⟩, ⟨#[]⟩, ⟨none, 0, []⟩⟩ := ⟨_, rfl⟩
  replace o5 : KR w R X C s3 o3V := by rw [hC]; exact o5
  have hC1 : C.pure = { Rp.zero 3 with l := x2, v := x3 } := by rw [hC]; rfl
  have hC2 : C.rs = ⟨none, 0, []⟩ ∧ C.cs = ⟨none, 0, []⟩ ∧ C.sg = ⟨none, 0, []⟩ := by rw [hC]; exact ⟨rfl, rfl, rfl⟩
  clear hC
  obtain ⟨qc, hqc⟩ : ∃ q, Hid (C.cells = q) := ⟨_, hide rfl⟩
  have hql : C.cells.length = 45 := Rc.len o5.ok
  have hq1 := Rc.one C
  have ho := o5.own
  rw [hqc.out] at hql hq1 ho
  have hiq : (Tryz.prog.info? 33).map (·.size) = some qc.length := by rw [hql]; exact iszRc
  have hth := o5.thX
  have hx1 := o5.xw
  have hx2 := o5.rx
  have hx3 := o5.lx
  go_upto_region 14 with fail
  try simp only [Act.put]
  refine pl_begin ?_
  refine pl_t 35 (.agg qc.toArray) (by rfl) (ex_mid rfl rfl ho Tryz.underlying33 rfl hiq) rfl ?_
  simp only [nz]
  refine pl_t 36 (?_) (by rfl) ?_ rfl ?_
  rotate_left
  ·go_simp
   try with_reducible rfl
  simp only [nz]
  refine pl_store (w' := o3V.setCells X 0 qc) (by rfl) (ex_put (cs := qc.toArray) rfl rfl rfl (by simpa [hql] using hth) (by simpa using hiq) (all_one hq1)) rfl ?_
  refine pl_t 3 (?_) (by rfl) ?_ rfl ?_
  rotate_left
  ·go_simp
   try with_reducible rfl
  simp only [nz]
  refine pl_nil ?_
  have hrs := run_loadVar_mid (P := Tryz.prog) (o3V.setCells X 0 qc) X 0 33 qc _ (World.rangeAt_setCells_same o3V X 0 qc (by rw [hql]; exact hth)) Tryz.underlying33 rfl hiq
  have HF : Hid (Ending.returned (.tuple #[.agg qc.toArray, .string ⟨#[]⟩]) = .returned (.tuple #[.agg C.cells.toArray, .string ⟨#[]⟩])) := hide (by rw [hqc.out])
  have hb9 : Below w.heap.size o3V (o3V.setCells X 0 qc) := below_sets hx1 qc 0 _ (Below.refl _ _)
  have HG := hide (o5.put (c' := C) o5.ok [] C.cells C.cells [] (by simp) (by simp) 0 rfl rfl (by rw [Rc.len o5.ok]; decide))
  rw [hqc.out] at HG
  have HZ : Hid (C.pure = { Rp.zero 3 with l := x2, v := x3 } ∧ C.ct.ok ∧ C.rs.At RqE (o3V.setCells X 0 qc) ∧ C.cs = ⟨none, 0, []⟩ ∧ C.sg = ⟨none, 0, []⟩ ∧ C.rs.Bk (fun b => w.heap.size ≤ b)) := hide ⟨hC1, o5.ok, by rw [hC2.1]; exact RowsAt.none, hC2.2.1, hC2.2.2, by rw [hC2.1]; exact fun b h1 _ => absurd rfl h1⟩
  clear hC1 hC2
  clear ho hth hx1 hx2 hx3 hb9 o5 hql hq1 hqc
  go_wp2_with fail
  refine bodyPost_ret (results_ct rfl _ _ _ rfl hrs) rfl ?_
  obtain ⟨z1, z2, z3, z4, z5, z6⟩ := HZ.out
  rw [HPP.out]
  exact ⟨C, HF.out, z1, z2, z3, z4, z5, z6, HG.out.st, HG.out.gb⟩
 have n3 : (k == 3) = false := by simpa using hk3
 go_upto_region 4 with fail
 try simp only [Act.put]
 refine pl_begin ?_
 refine pl_t 12 (.bool false) (by rfl) (by go_simp <;> (try simp [*])) rfl ?_
 simp only [nz]
 refine pl_t 11 (?_) (by rfl) ?_ rfl ?_
 rotate_left
 ·go_simp
  try with_reducible rfl
 simp only [nz]
 refine pl_nil ?_
 by_cases hk2 : k = 2
 ·have HP : PP = krT k s1 := by rw [HP1.out, if_neg hk1, if_neg hk3, if_pos (.inl hk2)]
  clear HP1
  have n2 : (k == 2) = true := by simpa using hk2
  clear hk1 hk3 hk2
  go_upto_region 5 with fail
  try simp only [Act.put]
  refine pl_begin ?_
  refine pl_t 14 (.bool true) (by rfl) (by go_simp <;> (try simp [*])) rfl ?_
  simp only [nz]
  refine pl_t 13 (?_) (by rfl) ?_ rfl ?_
  rotate_left
  ·go_simp
   try with_reducible rfl
  simp only [nz]
  refine pl_nil ?_
  unfold krT at HP
  have c2 := fun w0 h0 => ptextS R 4194304 s1 w0 h0
  generalize xtxS 4194304 s1 = p at c2 HP
  obtain ⟨tx, s2⟩ := p
  simp only at c2 HP
  have HPP := hide HP
  clear HP l1
  go_upto_region 13 with fail
  try simp only [Act.put]
  refine pl_begin ?_
  refine pl_t 33 (?_) (by rfl) ?_ rfl ?_
  rotate_left
  ·go_simp
   try with_reducible rfl
  simp only [nz]
  refine pl_call (d := some 34) (by rfl) (by go_simp; first | done | exact ⟨rfl, rfl⟩ | with_reducible rfl) rfl ?_
  refine (c2 o1V on.st).mono ?_
  rintro _ o2W ⟨rfl, hs9, hg9⟩
  have o5 := on.on _ hs9 hg9
  clear hs9 hg9 on c2
  refine ⟨_, rfl, ?_⟩
  simp only [nz]
  refine pl_t 3 (?_) (by rfl) ?_ rfl ?_
  rotate_left
  ·go_simp
   try with_reducible rfl
  simp only [nz]
  refine pl_nil ?_
  obtain ⟨C, hC⟩ : ∃ C : Rc, C = Rc.zero k := ⟨_, rfl⟩
  replace o5 : KR w R X C s2 o2W := by rw [hC]; exact o5
  have hC1 : C.pure = Rp.zero k := by rw [hC]; rfl
  have hC2 : C.rs = ⟨none, 0, []⟩ ∧ C.cs = ⟨none, 0, []⟩ ∧ C.sg = ⟨none, 0, []⟩ := by rw [hC]; exact ⟨rfl, rfl, rfl⟩
  clear hC
  obtain ⟨qc, hqc⟩ : ∃ q, Hid (C.cells = q) := ⟨_, hide rfl⟩
  have hql : C.cells.length = 45 := Rc.len o5.ok
  have hq1 := Rc.one C
  have ho := o5.own
  rw [hqc.out] at hql hq1 ho
  have hiq : (Tryz.prog.info? 33).map (·.size) = some qc.length := by rw [hql]; exact iszRc
  have hth := o5.thX
  have hx1 := o5.xw
  have hx2 := o5.rx
  have hx3 := o5.lx
  go_upto_region 14 with fail
  try simp only [Act.put]
  refine pl_begin ?_
  refine pl_t 35 (.agg qc.toArray) (by rfl) (ex_mid rfl rfl ho Tryz.underlying33 rfl hiq) rfl ?_
  simp only [nz]
  refine pl_t 36 (?_) (by rfl) ?_ rfl ?_
  rotate_left
  ·go_simp
   try with_reducible rfl
  simp only [nz]
  refine pl_store (w' := o2W.setCells X 0 qc) (by rfl) (ex_put (cs := qc.toArray) rfl rfl rfl (by simpa [hql] using hth) (by simpa using hiq) (all_one hq1)) rfl ?_
  refine pl_t 3 (?_) (by rfl) ?_ rfl ?_
  rotate_left
  ·go_simp
   try with_reducible rfl
  simp only [nz]
  refine pl_nil ?_
  have hrs := run_loadVar_mid (P := Tryz.prog) (o2W.setCells X 0 qc) X 0 33 qc _ (World.rangeAt_setCells_same o2W X 0 qc (by rw [hql]; exact hth)) Tryz.underlying33 rfl hiq
  have HF : Hid (Ending.returned (.tuple #[.agg qc.toArray, .string tx]) = .returned (.tuple #[.agg C.cells.toArray, .string tx])) := hide (by rw [hqc.out])
  have hb9 : Below w.heap.size o2W (o2W.setCells X 0 qc) := below_sets hx1 qc 0 _ (Below.refl _ _)
  have HG := hide (o5.put (c' := C) o5.ok [] C.cells C.cells [] (by simp) (by simp) 0 rfl rfl (by rw [Rc.len o5.ok]; decide))
  rw [hqc.out] at HG
  have HZ : Hid (C.pure = Rp.zero k ∧ C.ct.ok ∧ C.rs.At RqE (o2W.setCells X 0 qc) ∧ C.cs = ⟨none, 0, []⟩ ∧ C.sg = ⟨none, 0, []⟩ ∧ C.rs.Bk (fun b => w.heap.size ≤ b)) := hide ⟨hC1, o5.ok, by rw [hC2.1]; exact RowsAt.none, hC2.2.1, hC2.2.2, by rw [hC2.1]; exact fun b h1 _ => absurd rfl h1⟩
  clear hC1 hC2
  clear ho hth hx1 hx2 hx3 hb9 o5 hql hq1 hqc
  go_wp2_with fail
  refine bodyPost_ret (results_ct rfl _ _ _ rfl hrs) rfl ?_
  obtain ⟨z1, z2, z3, z4, z5, z6⟩ := HZ.out
  rw [HPP.out]
  exact ⟨C, HF.out, z1, z2, z3, z4, z5, z6, HG.out.st, HG.out.gb⟩
 have n2 : (k == 2) = false := by simpa using hk2
 go_upto_region 5 with fail
 try simp only [Act.put]
 refine pl_begin ?_
 refine pl_t 14 (.bool false) (by rfl) (by go_simp <;> (try simp [*])) rfl ?_
 simp only [nz]
 refine pl_t 13 (?_) (by rfl) ?_ rfl ?_
 rotate_left
 ·go_simp
  try with_reducible rfl
 simp only [nz]
 refine pl_nil ?_
 by_cases hk4 : k = 4
 ·have HP : PP = krT k s1 := by rw [HP1.out, if_neg hk1, if_neg hk3, if_pos (.inr (.inl hk4))]
  clear HP1
  have n4 : (k == 4) = true := by simpa using hk4
  clear hk1 hk3 hk2 hk4
  go_upto_region 6 with fail
  try simp only [Act.put]
  refine pl_begin ?_
  refine pl_t 15 (.bool true) (by rfl) (by go_simp <;> (try simp [*])) rfl ?_
  simp only [nz]
  refine pl_t 13 (?_) (by rfl) ?_ rfl ?_
  rotate_left
  ·go_simp
   try with_reducible rfl
  simp only [nz]
  refine pl_nil ?_
  unfold krT at HP
  have c2 := fun w0 h0 => ptextS R 4194304 s1 w0 h0
  generalize xtxS 4194304 s1 = p at c2 HP
  obtain ⟨tx, s2⟩ := p
  simp only at c2 HP
  have HPP := hide HP
  clear HP l1
  go_upto_region 13 with fail
  try simp only [Act.put]
  refine pl_begin ?_
  refine pl_t 33 (?_) (by rfl) ?_ rfl ?_
  rotate_left
  ·go_simp
   try with_reducible rfl
  simp only [nz]
  refine pl_call (d := some 34) (by rfl) (by go_simp; first | done | exact ⟨rfl, rfl⟩ | with_reducible rfl) rfl ?_
  refine (c2 o1V on.st).mono ?_
  rintro _ o2W ⟨rfl, hs9, hg9⟩
  have o5 := on.on _ hs9 hg9
  clear hs9 hg9 on c2
  refine ⟨_, rfl, ?_⟩
  simp only [nz]
  refine pl_t 3 (?_) (by rfl) ?_ rfl ?_
  rotate_left
  ·go_simp
   try with_reducible rfl
  simp only [nz]
  refine pl_nil ?_
  obtain ⟨C, hC⟩ : ∃ C : Rc, C = Rc.zero k := ⟨_, rfl⟩
  replace o5 : KR w R X C s2 o2W := by rw [hC]; exact o5
  have hC1 : C.pure = Rp.zero k := by rw [hC]; rfl
  have hC2 : C.rs = ⟨none, 0, []⟩ ∧ C.cs = ⟨none, 0, []⟩ ∧ C.sg = ⟨none, 0, []⟩ := by rw [hC]; exact ⟨rfl, rfl, rfl⟩
  clear hC
  obtain ⟨qc, hqc⟩ : ∃ q, Hid (C.cells = q) := ⟨_, hide rfl⟩
  have hql : C.cells.length = 45 := Rc.len o5.ok
  have hq1 := Rc.one C
  have ho := o5.own
  rw [hqc.out] at hql hq1 ho
  have hiq : (Tryz.prog.info? 33).map (·.size) = some qc.length := by rw [hql]; exact iszRc
  have hth := o5.thX
  have hx1 := o5.xw
  have hx2 := o5.rx
  have hx3 := o5.lx
  go_upto_region 14 with fail
  try simp only [Act.put]
  refine pl_begin ?_
  refine pl_t 35 (.agg qc.toArray) (by rfl) (ex_mid rfl rfl ho Tryz.underlying33 rfl hiq) rfl ?_
  simp only [nz]
  refine pl_t 36 (?_) (by rfl) ?_ rfl ?_
  rotate_left
  ·go_simp
   try with_reducible rfl
  simp only [nz]
  refine pl_store (w' := o2W.setCells X 0 qc) (by rfl) (ex_put (cs := qc.toArray) rfl rfl rfl (by simpa [hql] using hth) (by simpa using hiq) (all_one hq1)) rfl ?_
  refine pl_t 3 (?_) (by rfl) ?_ rfl ?_
  rotate_left
  ·go_simp
   try with_reducible rfl
  simp only [nz]
  refine pl_nil ?_
  have hrs := run_loadVar_mid (P := Tryz.prog) (o2W.setCells X 0 qc) X 0 33 qc _ (World.rangeAt_setCells_same o2W X 0 qc (by rw [hql]; exact hth)) Tryz.underlying33 rfl hiq
  have HF : Hid (Ending.returned (.tuple #[.agg qc.toArray, .string tx]) = .returned (.tuple #[.agg C.cells.toArray, .string tx])) := hide (by rw [hqc.out])
  have hb9 : Below w.heap.size o2W (o2W.setCells X 0 qc) := below_sets hx1 qc 0 _ (Below.refl _ _)
  have HG := hide (o5.put (c' := C) o5.ok [] C.cells C.cells [] (by simp) (by simp) 0 rfl rfl (by rw [Rc.len o5.ok]; decide))
  rw [hqc.out] at HG
  have HZ : Hid (C.pure = Rp.zero k ∧ C.ct.ok ∧ C.rs.At RqE (o2W.setCells X 0 qc) ∧ C.cs = ⟨none, 0, []⟩ ∧ C.sg = ⟨none, 0, []⟩ ∧ C.rs.Bk (fun b => w.heap.size ≤ b)) := hide ⟨hC1, o5.ok, by rw [hC2.1]; exact RowsAt.none, hC2.2.1, hC2.2.2, by rw [hC2.1]; exact fun b h1 _ => absurd rfl h1⟩
  clear hC1 hC2
  clear ho hth hx1 hx2 hx3 hb9 o5 hql hq1 hqc
  go_wp2_with fail
  refine bodyPost_ret (results_ct rfl _ _ _ rfl hrs) rfl ?_
  obtain ⟨z1, z2, z3, z4, z5, z6⟩ := HZ.out
  rw [HPP.out]
  exact ⟨C, HF.out, z1, z2, z3, z4, z5, z6, HG.out.st, HG.out.gb⟩
 have n4 : (k == 4) = false := by simpa using hk4
 go_upto_region 6 with fail
 try simp only [Act.put]
 refine pl_begin ?_
 refine pl_t 15 (.bool false) (by rfl) (by go_simp <;> (try simp [*])) rfl ?_
 simp only [nz]
 refine pl_t 13 (?_) (by rfl) ?_ rfl ?_
 rotate_left
 ·go_simp
  try with_reducible rfl
 simp only [nz]
 refine pl_nil ?_
 by_cases hk5 : k = 5
 ·have HP : PP = krT k s1 := by rw [HP1.out, if_neg hk1, if_neg hk3, if_pos (.inr (.inr hk5))]
  clear HP1
  have n5 : (k == 5) = true := by simpa using hk5
  clear hk1 hk3 hk2 hk4 hk5
  go_upto_region 7 with fail
  try simp only [Act.put]
  refine pl_begin ?_
  refine pl_t 17 (.bool true) (by rfl) (by go_simp <;> (try simp [*])) rfl ?_
  simp only [nz]
  refine pl_t 16 (?_) (by rfl) ?_ rfl ?_
  rotate_left
  ·go_simp
   try with_reducible rfl
  simp only [nz]
  refine pl_nil ?_
  unfold krT at HP
  have c2 := fun w0 h0 => ptextS R 4194304 s1 w0 h0
  generalize xtxS 4194304 s1 = p at c2 HP
  obtain ⟨tx, s2⟩ := p
  simp only at c2 HP
  have HPP := hide HP
  clear HP l1
  go_upto_region 13 with fail
  try simp only [Act.put]
  refine pl_begin ?_
  refine pl_t 33 (?_) (by rfl) ?_ rfl ?_
  rotate_left
  ·go_simp
   try with_reducible rfl
  simp only [nz]
  refine pl_call (d := some 34) (by rfl) (by go_simp; first | done | exact ⟨rfl, rfl⟩ | with_reducible rfl) rfl ?_
  refine (c2 o1V on.st).mono ?_
  rintro _ o2W ⟨rfl, hs9, hg9⟩
  have o5 := on.on _ hs9 hg9
  clear hs9 hg9 on c2
  refine ⟨_, rfl, ?_⟩
  simp only [nz]
  refine pl_t 3 (?_) (by rfl) ?_ rfl ?_
  rotate_left
  ·go_simp
   try with_reducible rfl
  simp only [nz]
  refine pl_nil ?_
  obtain ⟨C, hC⟩ : ∃ C : Rc, C = Rc.zero k := ⟨_, rfl⟩
  replace o5 : KR w R X C s2 o2W := by rw [hC]; exact o5
  have hC1 : C.pure = Rp.zero k := by rw [hC]; rfl
  have hC2 : C.rs = ⟨none, 0, []⟩ ∧ C.cs = ⟨none, 0, []⟩ ∧ C.sg = ⟨none, 0, []⟩ := by rw [hC]; exact ⟨rfl, rfl, rfl⟩
  clear hC
  obtain ⟨qc, hqc⟩ : ∃ q, Hid (C.cells = q) := ⟨_, hide rfl⟩
  have hql : C.cells.length = 45 := Rc.len o5.ok
  have hq1 := Rc.one C
  have ho := o5.own
  rw [hqc.out] at hql hq1 ho
  have hiq : (Tryz.prog.info? 33).map (·.size) = some qc.length := by rw [hql]; exact iszRc
  have hth := o5.thX
  have hx1 := o5.xw
  have hx2 := o5.rx
  have hx3 := o5.lx
  go_upto_region 14 with fail
  try simp only [Act.put]
  refine pl_begin ?_
  refine pl_t 35 (.agg qc.toArray) (by rfl) (ex_mid rfl rfl ho Tryz.underlying33 rfl hiq) rfl ?_
  simp only [nz]
  refine pl_t 36 (?_) (by rfl) ?_ rfl ?_
  rotate_left
  ·go_simp
   try with_reducible rfl
  simp only [nz]
  refine pl_store (w' := o2W.setCells X 0 qc) (by rfl) (ex_put (cs := qc.toArray) rfl rfl rfl (by simpa [hql] using hth) (by simpa using hiq) (all_one hq1)) rfl ?_
  refine pl_t 3 (?_) (by rfl) ?_ rfl ?_
  rotate_left
  ·go_simp
   try with_reducible rfl
  simp only [nz]
  refine pl_nil ?_
  have hrs := run_loadVar_mid (P := Tryz.prog) (o2W.setCells X 0 qc) X 0 33 qc _ (World.rangeAt_setCells_same o2W X 0 qc (by rw [hql]; exact hth)) Tryz.underlying33 rfl hiq
  have HF : Hid (Ending.returned (.tuple #[.agg qc.toArray, .string tx]) = .returned (.tuple #[.agg C.cells.toArray, .string tx])) := hide (by rw [hqc.out])
  have hb9 : Below w.heap.size o2W (o2W.setCells X 0 qc) := below_sets hx1 qc 0 _ (Below.refl _ _)
  have HG := hide (o5.put (c' := C) o5.ok [] C.cells C.cells [] (by simp) (by simp) 0 rfl rfl (by rw [Rc.len o5.ok]; decide))
  rw [hqc.out] at HG
  have HZ : Hid (C.pure = Rp.zero k ∧ C.ct.ok ∧ C.rs.At RqE (o2W.setCells X 0 qc) ∧ C.cs = ⟨none, 0, []⟩ ∧ C.sg = ⟨none, 0, []⟩ ∧ C.rs.Bk (fun b => w.heap.size ≤ b)) := hide ⟨hC1, o5.ok, by rw [hC2.1]; exact RowsAt.none, hC2.2.1, hC2.2.2, by rw [hC2.1]; exact fun b h1 _ => absurd rfl h1⟩
  clear hC1 hC2
  clear ho hth hx1 hx2 hx3 hb9 o5 hql hq1 hqc
  go_wp2_with fail
  refine bodyPost_ret (results_ct rfl _ _ _ rfl hrs) rfl ?_
  obtain ⟨z1, z2, z3, z4, z5, z6⟩ := HZ.out
  rw [HPP.out]
  exact ⟨C, HF.out, z1, z2, z3, z4, z5, z6, HG.out.st, HG.out.gb⟩
 have n5 : (k == 5) = false := by simpa using hk5
 have HPP : Hid (PP = ((Rp.zero k, ⟨#[]⟩), s1)) := hide (by rw [HP1.out, if_neg hk1, if_neg hk3, if_neg (by omega)])
 clear HP1 hk1 hk3 hk2 hk4 hk5 l1
 go_upto_region 7 with fail
 try simp only [Act.put]
 refine pl_begin ?_
 refine pl_t 17 (.bool false) (by rfl) (by go_simp <;> (try simp [*])) rfl ?_
 simp only [nz]
 refine pl_t 16 (?_) (by rfl) ?_ rfl ?_
 rotate_left
 ·go_simp
  try with_reducible rfl
 simp only [nz]
 refine pl_nil ?_
 have o5 := on
 clear on
 obtain ⟨C, hC⟩ : ∃ C : Rc, C = Rc.zero k := ⟨_, rfl⟩
 replace o5 : KR w R X C s1 o1V := by rw [hC]; exact o5
 have hC1 : C.pure = Rp.zero k := by rw [hC]; rfl
 have hC2 : C.rs = ⟨none, 0, []⟩ ∧ C.cs = ⟨none, 0, []⟩ ∧ C.sg = ⟨none, 0, []⟩ := by rw [hC]; exact ⟨rfl, rfl, rfl⟩
 clear hC
 obtain ⟨qc, hqc⟩ : ∃ q, Hid (C.cells = q) := ⟨_, hide rfl⟩
 have hql : C.cells.length = 45 := Rc.len o5.ok
 have hq1 := Rc.one C
 have ho := o5.own
 rw [hqc.out] at hql hq1 ho
 have hiq : (Tryz.prog.info? 33).map (·.size) = some qc.length := by rw [hql]; exact iszRc
 have hth := o5.thX
 have hx1 := o5.xw
 have hx2 := o5.rx
 have hx3 := o5.lx
 go_upto_region 14 with fail
 try simp only [Act.put]
 refine pl_begin ?_
 refine pl_t 35 (.agg qc.toArray) (by rfl) (ex_mid rfl rfl ho Tryz.underlying33 rfl hiq) rfl ?_
 simp only [nz]
 refine pl_t 36 (?_) (by rfl) ?_ rfl ?_
 rotate_left
 ·go_simp
  try with_reducible rfl
 simp only [nz]
 refine pl_store (w' := o1V.setCells X 0 qc) (by rfl) (ex_put (cs := qc.toArray) rfl rfl rfl (by simpa [hql] using hth) (by simpa using hiq) (all_one hq1)) rfl ?_
 refine pl_t 3 (?_) (by rfl) ?_ rfl ?_
 rotate_left
 ·go_simp
  try with_reducible rfl
 simp only [nz]
 refine pl_nil ?_
 have hrs := run_loadVar_mid (P := Tryz.prog) (o1V.setCells X 0 qc) X 0 33 qc _ (World.rangeAt_setCells_same o1V X 0 qc (by rw [hql]; exact hth)) Tryz.underlying33 rfl hiq
 have HF : Hid (Ending.returned (.tuple #[.agg qc.toArray, .string ⟨#[]⟩]) = .returned (.tuple #[.agg C.cells.toArray, .string ⟨#[]⟩])) := hide (by rw [hqc.out])
 have hb9 : Below w.heap.size o1V (o1V.setCells X 0 qc) := below_sets hx1 qc 0 _ (Below.refl _ _)
 have HG := hide (o5.put (c' := C) o5.ok [] C.cells C.cells [] (by simp) (by simp) 0 rfl rfl (by rw [Rc.len o5.ok]; decide))
 rw [hqc.out] at HG
 have HZ : Hid (C.pure = Rp.zero k ∧ C.ct.ok ∧ C.rs.At RqE (o1V.setCells X 0 qc) ∧ C.cs = ⟨none, 0, []⟩ ∧ C.sg = ⟨none, 0, []⟩ ∧ C.rs.Bk (fun b => w.heap.size ≤ b)) := hide ⟨hC1, o5.ok, by rw [hC2.1]; exact RowsAt.none, hC2.2.1, hC2.2.2, by rw [hC2.1]; exact fun b h1 _ => absurd rfl h1⟩
 clear hC1 hC2
 clear ho hth hx1 hx2 hx3 hb9 o5 hql hq1 hqc
 go_wp2_with fail
 refine bodyPost_ret (results_ct rfl _ _ _ rfl hrs) rfl ?_
 obtain ⟨z1, z2, z3, z4, z5, z6⟩ := HZ.out
 rw [HPP.out]
 exact ⟨C, HF.out, z1, z2, z3, z4, z5, z6, HG.out.st, HG.out.gb⟩
end Go.Proofs.YtinndbipomlokaaGreat
