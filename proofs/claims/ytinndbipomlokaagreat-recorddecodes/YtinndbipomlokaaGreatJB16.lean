/- For all bytes, raddlelaw24.RecordDecodes returns true: any bytes are the record that the document says, or have its error. Conditions: none beyond the row's own. -/
import Derived.Test.YtinndbipomlokaaGreatJB0
import Derived.Test.YtinndbipomlokaaGreatJB13
import Derived.Test.YtinndbipomlokaaGreatJB15
import Derived.Test.YtinndbipomlokaaGreatJB5
import Derived.Test.YtinndbipomlokaaGreatJB3
import Derived.Deep.Cut
import Derived.Deep.DeepCutAuto
import Derived.Deep.Slices
import Derived.Test.YtinndbipomlokaaGreatRows
import Derived.ProofKit
import Derived.OpenShut
import Derived.ShutString
import Derived.ChangeOld
import Derived.Below
import Derived.Lib.LaidTab
import Derived.WalkKit
namespace Go.Proofs.YtinndbipomlokaaGreat
open Go.RowKit
open Sha Tal
set_option linter.unusedVariables false
set_option linter.unusedSimpArgs false
def wtE (xs : List Ev) : Nat := (xs.map fun g => g.s.size).sum
def Mg.light (m : Mg) : Prop := m.st.size ≤ 6000 ∧ m.cs.xs.length ≤ 100 ∧ wtE m.ne.xs ≤ 6000
theorem flat_bound {α : Type} {f : α → List Int} {K : Nat} : ∀ (xs : List α), (∀ x ∈ xs, (f x).length ≤ K) → (xs.flatMap f).length ≤ xs.length * K
 | [], _ => by simp
 | x :: xs, h => by
  have h1 := h x (by simp)
  have h2 := flat_bound xs (fun y hy => h y (by simp [hy]))
  simp only [List.flatMap_cons, List.length_append, List.length_cons, Nat.add_mul, Nat.one_mul]
  omega
theorem inB_le {n m : Int} (h : inB n m = true) : 0 ≤ n ∧ n ≤ m := by
 unfold inB at h
 exact of_decide_eq_true h
theorem batMay_le {q : Bool} {x : Sl Rq} (h : batMay q x = true) : x.xs.length ≤ 4 ∧ ∀ r ∈ x.xs, r.s.size ≤ 64 := by
 unfold batMay at h
 split at h
 ·have := of_decide_eq_true h
  have e : x.xs = [] := List.eq_nil_of_length_eq_zero this
  rw [e]
  simp
 ·unfold mayL at h
  rw [Bool.and_eq_true] at h
  have h1 := of_decide_eq_true h.1
  refine ⟨by omega, fun r hr => ?_⟩
  have h2 := List.all_eq_true.1 h.2 r hr
  unfold Rq.may at h2
  rw [Bool.and_eq_true, Bool.and_eq_true] at h2
  have := of_decide_eq_true h2.2.2
  omega
theorem req_le {r : Rq} (h : r.ok) (hs : r.s.size ≤ 64) : (BRq.of r).bytes.length ≤ 120 := by
 have h1 := putL_le r.c h.ch
 have h2 := putL_le r.n h.nh
 have h3 := putL_le (r.s.size : Int) (by omega)
 have h4 := h.tl
 simp only [BRq.of, BRq.bytes, textL, List.length_append, strL_length]
 omega
theorem bat_le {q : Bool} {x : Sl Rq} {w : World} (hx : x.At RqE w) (hm : batMay q x = true) : (batL q (x.xs.map BRq.of)).length ≤ 500 := by
 obtain ⟨h1, h2⟩ := batMay_le hm
 unfold batL
 split
 ·have := putL_le 0 (by omega); omega
 ·have k := flat_bound (f := BRq.bytes) (K := 120) (x.xs.map BRq.of) (fun y hy => by
   obtain ⟨r, hr, rfl⟩ := List.mem_map.1 hy
   exact req_le (hx.2.1 r hr) (h2 r hr))
  rw [List.length_map] at k
  have p := putL_le (((x.xs.map BRq.of).length : Int) + 1) (by rw [List.length_map]; omega)
  rw [List.length_append]
  omega
theorem sgs_le {xs : List Sg} (h : ∀ g ∈ xs, g.ok) (hn : xs.length ≤ 100) : (sgsL xs).length ≤ 2600 := by
 have k := flat_bound (f := sgL) (K := 25) xs (fun g hg => by
  have h1 := putL_le g.n (h g hg).nh
  have h2 := (h g hg).tl
  unfold sgL
  rw [List.length_append]
  omega)
 have p := putL_le (xs.length : Int) (by omega)
 unfold sgsL
 rw [List.length_append]
 omega
theorem vt_le {x : Vt} (h : x.ok) : (vtL x).length ≤ 68 := by
 have h1 := putL_le x.k h.k
 have h2 := putL_le x.e h.e
 have h3 := putL_le x.v h.v
 have h4 := putL_le x.s h.s
 have h5 := h.dl
 simp only [vtL, List.flatMap_cons, List.flatMap_nil, List.append_nil, List.length_append]
 omega
theorem ct_le {x : Vt} {xs : List Sg} (hx : x.ok) (h : ∀ g ∈ xs, g.ok) (hn : xs.length ≤ 100) : (ctL x xs).length ≤ 2700 := by
 have h1 := vt_le hx
 have h2 := sgs_le h hn
 unfold ctL
 rw [List.length_append]
 omega
theorem sgsMay_le {x : Sl Sg} (h : sgsMay x = true) : x.xs.length ≤ 64 := by
 unfold sgsMay mayL at h
 rw [Bool.and_eq_true] at h
 have := of_decide_eq_true h.1
 omega
theorem hd_le {g : Hd} {w : World} (ho : g.vt.ok) (ha : g.At w) (hm : g.may = true) : (hdL g).length ≤ 3200 ∧ g.sg.xs.length ≤ 64 ∧ g.rs.xs.length ≤ 4 ∧ ∀ r ∈ g.rs.xs, r.s.size ≤ 64 := by
 unfold Hd.may certMay at hm
 rw [Bool.and_eq_true, Bool.and_eq_true] at hm
 obtain ⟨h1, _, h3⟩ := hm
 have hs := sgsMay_le h3
 have k1 := bat_le ha.1 h1
 have k2 := ct_le ho (ha.2.2.1) (by omega : g.sg.xs.length ≤ 100)
 obtain ⟨b1, b2⟩ := batMay_le h1
 refine ⟨?_, hs, b1, b2⟩
 unfold hdL
 rw [List.length_append]
 omega
theorem evs_le : ∀ (xs : List Ev), (∀ g ∈ xs, g.ok) → (∀ g ∈ xs, g.s.size ≤ 6000) → (xs.flatMap evL).length ≤ xs.length * 34 + wtE xs
 | [], _, _ => by simp
 | x :: xs, h, hs => by
  have h2 := evs_le xs (fun y hy => h y (by simp [hy])) (fun y hy => hs y (by simp [hy]))
  have h0 := h x (by simp)
  have h1 := putL_le x.n h0.nh
  have h4 := hs x (by simp)
  have h3 := putL_le (x.s.size : Int) (by omega)
  have h5 := h0.tl
  have hw : wtE (x :: xs) = x.s.size + wtE xs := by simp [wtE]
  rw [hw]
  simp only [List.flatMap_cons, List.length_append, List.length_cons, Nat.add_mul, Nat.one_mul, evL, textL, strL_length]
  omega
theorem wtE_mem : ∀ {xs : List Ev} {g : Ev}, g ∈ xs → g.s.size ≤ wtE xs
 | x :: xs, g, h => by
  have hw : wtE (x :: xs) = x.s.size + wtE xs := by simp [wtE]
  rcases List.mem_cons.1 h with rfl | h
  ·omega
  ·have := wtE_mem h; omega
theorem fine_of {m : Mg} {w : World} (om : m.ok) (am : m.At w) (hg : m.good = true) (hl : m.light) : m.Fine := by
 obtain ⟨h1, h8⟩ := Mg.good_k hg
 obtain ⟨l1, l2, l3⟩ := hl
 unfold Mg.good at hg
 rw [Bool.and_eq_true, Bool.and_eq_true] at hg
 have hm := hg.2.2
 clear hg
 unfold Mg.may Mg.mayL chgMay at hm
 simp only [Bool.and_eq_true] at hm
 obtain ⟨⟨a1, a2⟩, ⟨a3, a4⟩, a5, a6, a7, ⟨⟨c1, c2, c3⟩, c4⟩, a9, a10, a11⟩ := hm
 have e1 := inB_le a1
 have e2 := inB_le a2
 have e3 := inB_le a3
 have e4 := inB_le a4
 have e5 := inB_le c1
 have e6 := inB_le c2
 have e7 := inB_le c3
 clear a1 a2 a3 a4 a5 a6 c1 c2 c3
 obtain ⟨b1, b2⟩ := batMay_le a7
 have b3 := bat_le am.rs a7
 have s1 := sgsMay_le a11
 have s2 := sgs_le am.sg.2.1 (by omega : m.sg.xs.length ≤ 100)
 have s3 := ct_le om.ct am.cs.2.1 l2
 unfold mayL at c4 a9
 rw [Bool.and_eq_true] at c4 a9
 have d1 := of_decide_eq_true c4.1
 have d2 := of_decide_eq_true a9.1
 have hh := fun g (hgm : g ∈ m.he.xs) => hd_le (am.he.1.2.1 g hgm) (am.he.2 g hgm) (List.all_eq_true.1 c4.2 g hgm)
 have f1 := flat_bound (f := hdL) (K := 3200) m.he.xs (fun g hgm => (hh g hgm).1)
 have hs := fun g (hgm : g ∈ m.ne.xs) => Nat.le_trans (wtE_mem hgm) l3
 have f2 := evs_le m.ne.xs am.ne.2.1 hs
 have f3 := vt_le om.vt
 have p (n : Int) (hn : n ≤ 9223372036854775807) := putL_le n hn
 have pk := p m.k (by omega)
 have pe := p m.e (by omega)
 have ps := p m.s (by omega)
 have pl := p m.l (by omega)
 have pv := p m.v (by omega)
 have pc := p m.ce (by omega)
 have pd := p m.cl (by omega)
 have pf := p m.cv (by omega)
 have ph := p (m.he.xs.length : Int) (by omega)
 have pn := p (m.ne.xs.length : Int) (by omega)
 have pt := p (m.st.size : Int) (by omega)
 have dl := om.dl
 refine ⟨by omega, by omega, by omega, by omega, by omega, by omega, by omega, by omega, fun r hr => by have := b2 r hr; omega, by omega, fun g hgm => ?_, by omega, fun g hgm => by have := hs g hgm; omega, by omega, by omega, by omega, ?_⟩
 ·obtain ⟨_, q1, q2, q3⟩ := hh g hgm
  exact ⟨by omega, by omega, fun r hr => by have := q3 r hr; omega⟩
 ·unfold Mg.bytes
  rw [List.length_append]
  have hk : m.body.length ≤ 39000 := by
   unfold Mg.body
   split
   ·simp only [List.flatMap_cons, List.flatMap_nil, List.append_nil, List.length_append]; omega
   split
   ·omega
   split
   ·simp only [hdsL, List.flatMap_cons, List.flatMap_nil, List.append_nil, List.length_append]; omega
   split
   ·simp only [evsL, List.flatMap_cons, List.flatMap_nil, List.append_nil, List.length_append]; omega
   split
   ·simp only [List.length_append]; omega
   split
   ·simp only [List.flatMap_cons, List.flatMap_nil, List.append_nil, List.length_append]; omega
   split
   ·simp only [List.length_append]; omega
   ·simp only [textL, strL_length, List.length_append]; omega
  omega
def RcE : El Rc where
  f := Rc.cells
  k := 45
  ok := fun r => r.ct.ok
  len := fun r h => Rc.len h
  one := fun r => r.one
def RcsAt (w : World) (x : Sl Rc) : Prop := x.At RcE w ∧ ∀ r ∈ x.xs, r.At w
theorem RcsAt.below {w w' : World} {x : Sl Rc} (k : RcsAt w x) (hb : Below w.heap.size w w') : RcsAt w' x := ⟨k.1.below hb, fun h hh => (k.2 h hh).below hb⟩
def Rc.light (r : Rc) : Prop := r.st.size ≤ 4000 ∧ r.cs.xs.length ≤ 100 ∧ r.sg.xs.length ≤ 100
theorem fine_rc {r : Rc} {w : World} (h : r.ct.ok) (am : r.At w) (hl : r.light) (hg : r.good = true) : r.Fine := by
 have hg' := hg
 unfold Rc.good at hg'
 rw [Bool.and_eq_true] at hg'
 have hv := of_decide_eq_true hg'.1
 have hp := good_pure (Rc.told_ok h) (Rc.told_at am) hg'.2
 obtain ⟨hk, -⟩ := Rc.told_bare hp
 exact ⟨fine_of (Rc.told_ok h) (Rc.told_at am) hg'.2 ⟨Nat.le_trans hl.1 (by decide), hl.2.1, Nat.zero_le _⟩, by omega, hk.1, hk.2⟩
set_option maxRecDepth 100000 in
set_option maxHeartbeats 2000000 in
theorem kread_view (R : Nat) (s : Xst) (w : World) (h : St w R s.1 s.2) (hl : s.1.length ≤ 40000) (hk3 : (xnuS 5 s).1 = 3) : Calls Tryz.prog 36 #[.pointer (some ⟨R, 0, none⟩)] w fun en w' => ReadK w R (krV (xnuS 5 s).2) en w' := by
 obtain ⟨zc, hz0, hzl, hzr⟩ : ∃ z : List Value, Hid (z = (Rc.zero 0).cells) ∧ z.length = 45 ∧ ∀ w : World, (zeroValue 33).run Tryz.prog w = .ok (.agg z.toArray) w := ⟨_, hide rfl, Rc.len Vt.zero_ok, zeroRc⟩
 have hR : R < w.heap.size := h.1.1
 have c1 := fun w0 h0 => pnumS R 5 s w0 h0
 have l1 : (xnuS 5 s).2.1.length ≤ 40000 := Nat.le_trans (xnuS_len 5 s) hl
 generalize xnuS 5 s = p at c1 l1 hk3 ⊢
 obtain ⟨k, s1⟩ := p
 simp only at c1 l1 hk3 ⊢
 subst hk3
 obtain ⟨PP, HP⟩ : ∃ P, P = krV s1 := ⟨_, rfl⟩
 rw [← HP]
 unfold krV at HP
 have c2 := fun w0 h0 => pnumS R 64 s1 w0 h0
 generalize xnuS 64 s1 = p at c2 HP
 obtain ⟨x2, s2⟩ := p
 simp only at c2 HP
 have c3 := fun w0 h0 => pnumS R 1099511627776 s2 w0 h0
 generalize xnuS 1099511627776 s2 = p at c3 HP
 obtain ⟨x3, s3⟩ := p
 simp only at c3 HP
 have HPP := hide HP
 clear HP l1
 obtain ⟨hB1, hr0, hs1⟩ := boxed_new w zc 33
 have ht1 := there_newN w zc.toArray 33 (n := 45) (by simp [hzl])
 have on : KR w R w.heap.size (Rc.zero 0) s (w.alloc (.cells zc.toArray 33)) := ⟨by rw [← hz0.out]; exact hr0, ht1, h.below hB1, ⟨hB1.os, hB1.tape, hB1.output, hB1.size, fun i hi _ => hB1.block i hi⟩, hs1, Nat.le_refl _, hR, Vt.zero_ok⟩
 clear hB1 hr0 hs1 ht1 hz0 hzl h hl
 obtain ⟨X, hX⟩ : ∃ X, w.heap.size = X := ⟨_, rfl⟩
 have hXs : X = w.heap.size := hX.symm
 go_enter Tryz.func36, Tryz.ntmps36
 go_upto_region 0 with fail
 try simp only [Act.put]
 refine pl_begin ?_
 refine pl_run (d := some 2) (v := .pointer (some ⟨w.heap.size, 0, none⟩)) (w' := w.alloc (.cells zc.toArray 33)) (by rfl) (ex_alloc rfl (hzr _)) rfl ?_
 simp only [nz]
 refine pl_t 3 (?_) (by rfl) ?_ rfl ?_
 rotate_left
 ·go_simp
  try with_reducible rfl
 simp only [nz]
 refine pl_nil ?_
 obtain ⟨W1, hW1⟩ : ∃ W, w.alloc (.cells zc.toArray 33) = W := ⟨_, rfl⟩
 rw [hW1] at on ⊢
 rw [hX] at on
 simp only [hX]
 have HX := hide hXs
 clear hW1 hX hXs hR hzr
 go_upto_region 1 with fail
 try simp only [Act.put]
 refine pl_begin ?_
 refine pl_t 4 (?_) (by rfl) ?_ rfl ?_
 rotate_left
 ·go_simp
  try with_reducible rfl
 simp only [nz]
 refine pl_call (d := some 5) (by rfl) (by go_simp; first | done | exact ⟨rfl, rfl⟩ | with_reducible rfl) rfl ?_
 refine (c1 W1 on.st).mono ?_
 rintro _ o1W ⟨rfl, hs9, hg9⟩
 have o1 := on.on _ hs9 hg9
 clear hs9 hg9
 refine ⟨_, rfl, ?_⟩
 simp only [nz]
 refine pl_t 6 (?_) (by rfl) ?_ rfl ?_
 rotate_left
 ·go_simp
  try with_reducible rfl
 simp only [nz]
 refine pl_store (w' := o1W.setCells X 0 [.int .i64 3]) (by rfl) (ex_put1 (n := 45) rfl rfl rfl o1.thX (by decide) iszI rfl rfl) rfl ?_
 refine pl_nil ?_
 have o1' := o1.k 3
 obtain ⟨o1V, ho1⟩ : ∃ W, o1W.setCells X 0 [.int .i64 3] = W := ⟨_, rfl⟩
 rw [ho1] at o1' ⊢
 clear ho1 o1 on
 have on := o1'
 clear o1' c1
 have k0 : o1V.cell? ⟨X, 0, none⟩ = some (.int .i64 3) := on.own 0 _ rfl
 go_upto_region 2 with fail
 try simp only [Act.put]
 refine pl_begin ?_
 refine pl_t 7 (?_) (by rfl) ?_ rfl ?_
 rotate_left
 ·go_simp
  try with_reducible rfl
 simp only [nz]
 refine pl_t 8 (.int .i64 3) (by rfl) (pl_one rfl rfl k0 Tryz.underlying3 rfl) rfl ?_
 simp only [nz]
 refine pl_nil ?_
 clear k0
 go_upto_region 3 with fail
 try simp only [Act.put]
 refine pl_begin ?_
 refine pl_t 10 (.bool false) (by rfl) (by go_simp <;> (try simp [*])) rfl ?_
 simp only [nz]
 refine pl_t 9 (?_) (by rfl) ?_ rfl ?_
 rotate_left
 ·go_simp
  try with_reducible rfl
 simp only [nz]
 refine pl_nil ?_
 go_upto_region 4 with fail
 try simp only [Act.put]
 refine pl_begin ?_
 refine pl_t 12 (.bool true) (by rfl) (by go_simp <;> (try simp [*])) rfl ?_
 simp only [nz]
 refine pl_t 11 (?_) (by rfl) ?_ rfl ?_
 rotate_left
 ·go_simp
  try with_reducible rfl
 simp only [nz]
 refine pl_nil ?_
 go_upto_region 11 with fail
 try simp only [Act.put]
 refine pl_begin ?_
 refine pl_t 27 (?_) (by rfl) ?_ rfl ?_
 rotate_left
 ·go_simp
  try with_reducible rfl
 simp only [nz]
 refine pl_call (d := some 28) (by rfl) (by go_simp; first | done | exact ⟨rfl, rfl⟩ | with_reducible rfl) rfl ?_
 refine (c2 o1V on.st).mono ?_
 rintro _ o2W ⟨rfl, hs9, hg9⟩
 have o2 := on.on _ hs9 hg9
 clear hs9 hg9
 refine ⟨_, rfl, ?_⟩
 simp only [nz]
 refine pl_t 29 (?_) (by rfl) ?_ rfl ?_
 rotate_left
 ·go_simp
  try with_reducible rfl
 simp only [nz]
 refine pl_store (w' := o2W.setCells X 1 [.int .i64 x2]) (by rfl) (ex_put1 (n := 45) rfl rfl rfl o2.thX (by decide) iszI rfl rfl) rfl ?_
 refine pl_nil ?_
 have o2' := o2.l x2
 obtain ⟨o2V, ho2⟩ : ∃ W, o2W.setCells X 1 [.int .i64 x2] = W := ⟨_, rfl⟩
 rw [ho2] at o2' ⊢
 clear ho2 o2 on
 go_upto_region 12 with fail
 try simp only [Act.put]
 refine pl_begin ?_
 refine pl_t 30 (?_) (by rfl) ?_ rfl ?_
 rotate_left
 ·go_simp
  try with_reducible rfl
 simp only [nz]
 refine pl_call (d := some 31) (by rfl) (by go_simp; first | done | exact ⟨rfl, rfl⟩ | with_reducible rfl) rfl ?_
 refine (c3 o2V o2'.st).mono ?_
 rintro _ o3W ⟨rfl, hs9, hg9⟩
 have o3 := o2'.on _ hs9 hg9
 clear hs9 hg9
 refine ⟨_, rfl, ?_⟩
 simp only [nz]
 refine pl_t 32 (?_) (by rfl) ?_ rfl ?_
 rotate_left
 ·go_simp
  try with_reducible rfl
 simp only [nz]
 refine pl_store (w' := o3W.setCells X 2 [.int .i64 x3]) (by rfl) (ex_put1 (n := 45) rfl rfl rfl o3.thX (by decide) iszI rfl rfl) rfl ?_
 refine pl_nil ?_
 have o3' := o3.v x3
 obtain ⟨o3V, ho3⟩ : ∃ W, o3W.setCells X 2 [.int .i64 x3] = W := ⟨_, rfl⟩
 rw [ho3] at o3' ⊢
 clear ho3 o3 o2'
 clear c2 c3
 have o5 := o3'
 clear o3'
 obtain ⟨C, hC⟩ : ∃ C : Rc, C = ⟨3, x2, x3, 0, false, ⟨none, 0, []⟩, Vt.zero, ⟨none, 0, []⟩, ⟨#[]⟩, ⟨none, 0, []⟩⟩ := ⟨_, rfl⟩
 replace o5 : KR w R X C s3 o3V := by rw [hC]; exact o5
 have hC1 : C.pure = { Rp.zero 3 with l := x2, v := x3 } := by rw [hC]; rfl
 have hC2 : C.rs = ⟨none, 0, []⟩ ∧ C.cs = ⟨none, 0, []⟩ ∧ C.sg = ⟨none, 0, []⟩ := by rw [hC]; exact ⟨rfl, rfl, rfl⟩
 clear hC
 obtain ⟨qc, hqc⟩ : ∃ q, Hid (C.cells = q) := ⟨_, hide rfl⟩
 have hql : C.cells.length = 45 := Rc.len o5.ok
 have hq1 := Rc.one C
 have ho := o5.own
 rw [hqc.out] at hql hq1 ho
 have hiq : (Tryz.prog.info? 33).map (·.size) = some qc.length := by rw [hql]; exact iszRc
 have hth := o5.thX
 have hx1 := o5.xw
 have hx2 := o5.rx
 have hx3 := o5.lx
 go_upto_region 14 with fail
 try simp only [Act.put]
 refine pl_begin ?_
 refine pl_t 35 (.agg qc.toArray) (by rfl) (ex_mid rfl rfl ho Tryz.underlying33 rfl hiq) rfl ?_
 simp only [nz]
 refine pl_t 36 (?_) (by rfl) ?_ rfl ?_
 rotate_left
 ·go_simp
  try with_reducible rfl
 simp only [nz]
 refine pl_store (w' := o3V.setCells X 0 qc) (by rfl) (ex_put (cs := qc.toArray) rfl rfl rfl (by simpa [hql] using hth) (by simpa using hiq) (all_one hq1)) rfl ?_
 refine pl_t 3 (?_) (by rfl) ?_ rfl ?_
 rotate_left
 ·go_simp
  try with_reducible rfl
 simp only [nz]
 refine pl_nil ?_
 have hrs := run_loadVar_mid (P := Tryz.prog) (o3V.setCells X 0 qc) X 0 33 qc _ (World.rangeAt_setCells_same o3V X 0 qc (by rw [hql]; exact hth)) Tryz.underlying33 rfl hiq
 have HF : Hid (Ending.returned (.tuple #[.agg qc.toArray, .string ⟨#[]⟩]) = .returned (.tuple #[.agg C.cells.toArray, .string ⟨#[]⟩])) := hide (by rw [hqc.out])
 have hb9 : Below w.heap.size o3V (o3V.setCells X 0 qc) := below_sets hx1 qc 0 _ (Below.refl _ _)
 have HG := hide (o5.put (c' := C) o5.ok [] C.cells C.cells [] (by simp) (by simp) 0 rfl rfl (by rw [Rc.len o5.ok]; decide))
 rw [hqc.out] at HG
 have HZ : Hid (C.pure = { Rp.zero 3 with l := x2, v := x3 } ∧ C.ct.ok ∧ C.rs.At RqE (o3V.setCells X 0 qc) ∧ C.cs = ⟨none, 0, []⟩ ∧ C.sg = ⟨none, 0, []⟩ ∧ C.rs.Bk (fun b => w.heap.size ≤ b)) := hide ⟨hC1, o5.ok, by rw [hC2.1]; exact RowsAt.none, hC2.2.1, hC2.2.2, by rw [hC2.1]; exact fun b h1 _ => absurd rfl h1⟩
 clear hC1 hC2
 clear ho hth hx1 hx2 hx3 hb9 o5 hql hq1 hqc
 go_wp2_with fail
 refine bodyPost_ret (results_ct rfl _ _ _ rfl hrs) rfl ?_
 obtain ⟨z1, z2, z3, z4, z5, z6⟩ := HZ.out
 rw [HPP.out]
 exact ⟨C, HF.out, z1, z2, z3, z4, z5, z6, HG.out.st, HG.out.gb⟩
set_option maxRecDepth 100000 in
set_option maxHeartbeats 2000000 in
theorem kdecode_view (a : Option Addr) (cap : Nat) (zs : List Int) (w : World) (h : RowAt w a zs) (hl : zs.length ≤ 40000) (hk : (xnuS 5 (zs, 0)).1 = 3) : Calls Tryz.prog 15 #[.slice a zs.length cap] w fun en w' => DecK w (kfin (krV (xnuS 5 (zs, 0)).2)) en w' := by
 obtain ⟨zc, hz0, hzl, hz1, hzr, hbn⟩ : ∃ z : List Value, Hid (z = (Rc.zero 0).cells) ∧ z.length = 45 ∧ (∀ v ∈ z, v.oneCell' = true) ∧ (∀ w : World, (zeroValue 33).run Tryz.prog w = .ok (.agg z.toArray) w) ∧ (∀ w : World, (Instr.build 33 #[]).run Tryz.prog w = .ok (.agg z.toArray) w) := ⟨_, hide rfl, Rc.len Vt.zero_ok, Rc.one (Rc.zero 0), zeroRc, build_rn⟩
 have cR := fun w0 h0 => read_any a cap zs w0 h0 (by omega)
 have cK := fun R w0 h0 => kread_view R (zs, 0) w0 h0 hl hk
 have hk3 : (krV (xnuS 5 (zs, 0)).2).1.1.k = 3 := rfl
 unfold kfin
 generalize krV (xnuS 5 (zs, 0)).2 = p at cK hk3 ⊢
 obtain ⟨⟨rp, tx⟩, rest, er⟩ := p
 simp only at cK hk3 ⊢
 have cD := fun R w0 h0 => done_any R rest er w0 h0
 obtain ⟨d, hd⟩ : ∃ d, doneE rest er = d := ⟨_, rfl⟩
 rw [hd]
 simp only [hd] at cD
 clear hd
 obtain ⟨oT, hoT⟩ : ∃ o, ofT rp.k (strL tx) = o := ⟨_, rfl⟩
 rw [hoT]
 obtain ⟨PP, hPP⟩ : ∃ P, Hid ((if d ≠ 0 then (Rp.zero 0, d) else if rp.k = 1 ∨ rp.k = 3 then (rp, 0) else oT) = P) := ⟨_, hide rfl⟩
 rw [hPP.out]
 obtain ⟨hB1, -, hs1⟩ := boxed_new w zc 33
 have ht1 := there_newN w zc.toArray 33 (n := 45) (by simp [hzl])
 have h1 := h.below hB1
 obtain ⟨A, hA⟩ : ∃ X, w.heap.size = X := ⟨_, rfl⟩
 have HAw : Hid (A = w.heap.size) := hide hA.symm
 clear h hoT
 go_enter Tryz.func15, Tryz.ntmps15
 go_upto_region 0 with fail
 try simp only [Act.put]
 refine pl_begin ?_
 refine pl_run (d := some 2) (v := .pointer (some ⟨w.heap.size, 0, none⟩)) (w' := w.alloc (.cells zc.toArray 33)) (by rfl) (ex_alloc rfl (hzr _)) rfl ?_
 simp only [nz]
 refine pl_t 3 (?_) (by rfl) ?_ rfl ?_
 rotate_left
 ·go_simp
  try with_reducible rfl
 simp only [nz]
 refine pl_nil ?_
 obtain ⟨W1, hW1⟩ : ∃ W, w.alloc (.cells zc.toArray 33) = W := ⟨_, rfl⟩
 rw [hW1] at hB1 hs1 ht1 h1 ⊢
 rw [hA] at hs1 ht1
 simp only [hA]
 clear hW1
 go_upto_region 1 with fail
 try simp only [Act.put]
 refine pl_begin ?_
 refine pl_t 8 (?_) (by rfl) ?_ rfl ?_
 rotate_left
 ·go_simp
  try with_reducible rfl
 simp only [nz]
 refine pl_call (d := some 9) (by rfl) (by go_simp; first | done | exact ⟨rfl, rfl⟩ | with_reducible rfl) rfl ?_
 refine (cR W1 h1).mono ?_
 rintro _ w2 ⟨R, rfl, hRw, S2, hb2⟩
 refine ⟨_, rfl, ?_⟩
 simp only [nz]
 refine pl_t 4 (?_) (by rfl) ?_ rfl ?_
 rotate_left
 ·go_simp
  try with_reducible rfl
 simp only [nz]
 refine pl_nil ?_
 have hT2 := there_below ht1 hb2 hs1
 have hB2 : Below w.heap.size w w2 := hB1.trans (hb2.mono hB1.size)
 have hs2 := Nat.lt_of_lt_of_le hs1 hb2.size
 have hRA : A < R := by omega
 have hR2 : R < w2.heap.size := S2.1.1
 clear h1 cR
 go_upto_region 2 with fail
 try simp only [Act.put]
 refine pl_begin ?_
 refine pl_t 11 (?_) (by rfl) ?_ rfl ?_
 rotate_left
 ·go_simp
  try with_reducible rfl
 simp only [nz]
 refine pl_call (d := some 12) (by rfl) (by go_simp; first | done | exact ⟨rfl, rfl⟩ | with_reducible rfl) rfl ?_
 refine (cK R w2 S2).mono ?_
 rintro _ w3 ⟨c, rfl, hcp, hco, hca, hcs, hcg, hcb, S3, hg3⟩
 refine ⟨_, rfl, ?_⟩
 simp only [nz]
 have hql : c.cells.length = 45 := Rc.len hco
 have hq1 := Rc.one c
 have hiq : (Tryz.prog.info? 33).map (·.size) = some c.cells.length := by rw [hql]; exact iszRc
 refine pl_t 10 (?_) (by rfl) ?_ rfl ?_
 rotate_left
 ·go_simp
  try with_reducible rfl
 simp only [nz]
 refine pl_t 13 (?_) (by rfl) ?_ rfl ?_
 rotate_left
 ·go_simp
  try with_reducible rfl
 simp only [nz]
 refine pl_t 14 (?_) (by rfl) ?_ rfl ?_
 rotate_left
 ·go_simp
  try with_reducible rfl
 simp only [nz]
 refine pl_run (d := some 5) (v := .pointer (some ⟨w3.heap.size, 0, none⟩)) (w' := w3.alloc (.cells zc.toArray 33)) (by rfl) (ex_alloc rfl (hzr _)) rfl ?_
 simp only [nz]
 refine pl_store (w' := (w3.alloc (.cells zc.toArray 33)).setCells w3.heap.size 0 c.cells) (by rfl) (ex_put (cs := c.cells.toArray) rfl rfl rfl (there_newN _ _ _ (by simp [hzl, hql])) (by simpa using hiq) (all_one hq1)) rfl ?_
 refine pl_t 6 (?_) (by rfl) ?_ rfl ?_
 rotate_left
 ·go_simp
  try with_reducible rfl
 simp only [nz]
 refine pl_nil ?_
 obtain ⟨r4, hF2, hF3, -⟩ := fresh_store w3 zc.toArray 33 c.cells (by simp [hzl, hql])
 have hne : (some A : Option Nat) ≠ some R := by intro q; injection q with q; omega
 have hT3 := there_blk hT2 (hg3.block A hs2 hne)
 have hB3 : Below w.heap.size w w3 := ⟨hg3.os.trans hB2.os, hg3.tape.trans hB2.tape, hg3.output.trans hB2.output, Nat.le_trans hB2.size hg3.size, fun i hi => (hg3.block i (Nat.lt_of_lt_of_le hi hB2.size) (by intro q; injection q with q; omega)).trans (hB2.block i hi)⟩
 have hs3 : A < w3.heap.size := Nat.lt_of_lt_of_le hs2 hg3.size
 have hT4 := there_below hT3 hF2 hs3
 have hB4 := hB3.trans (hF2.mono hB3.size)
 have S4 := S3.below hF2
 have HCC : Hid (c.pure = rp ∧ c.At w3 ∧ c.Bk (fun b => A < b)) := hide ⟨hcp, ⟨hca, by rw [hcs]; exact RowsAt.none, by rw [hcg]; exact RowsAt.none⟩, ⟨hcb.mono (fun b hb => by omega), by rw [hcs]; exact nil_bk, by rw [hcg]; exact nil_bk⟩⟩
 replace HCC : Hid (c.pure = rp ∧ c.At ((w3.alloc (.cells zc.toArray 33)).setCells w3.heap.size 0 c.cells) ∧ c.Bk (fun b => A < b)) := hide ⟨HCC.out.1, ⟨HCC.out.2.1.rs.below hF2, HCC.out.2.1.cs.below hF2, HCC.out.2.1.sg.below hF2⟩, HCC.out.2.2⟩
 obtain ⟨X, hX⟩ : ∃ X, w3.heap.size = X := ⟨_, rfl⟩
 simp only [hX] at r4 hF3 hs3 hT4 hB4 S4 HCC ⊢
 obtain ⟨w4, hw4⟩ : ∃ W, (w3.alloc (.cells zc.toArray 33)).setCells X 0 c.cells = W := ⟨_, rfl⟩
 simp only [hw4] at r4 hF3 hT4 hB4 S4 HCC ⊢
 have hX4 : X < w4.heap.size := by omega
 have hck : c.k = rp.k := congrArg Rp.k HCC.out.1
 clear hF2 hF3 hT3 hB3 hB2 hb2 hcp hca hcs hcg hcb S3 hg3 hw4 hX hne hT2 S2 hB1 hs1 ht1 hs2 hRw cK hzr
 go_upto_region 3 with fail
 try simp only [Act.put]
 refine pl_begin ?_
 refine pl_t 15 (?_) (by rfl) ?_ rfl ?_
 rotate_left
 ·go_simp
  try with_reducible rfl
 simp only [nz]
 refine pl_call (d := some 16) (by rfl) (by go_simp; first | done | exact ⟨rfl, rfl⟩ | with_reducible rfl) rfl ?_
 refine (cD R w4 S4).mono ?_
 rintro _ w5 ⟨rfl, hx⟩
 obtain rfl := hx.symm
 clear hx
 refine ⟨_, rfl, ?_⟩
 simp only [nz]
 refine pl_t 7 (?_) (by rfl) ?_ rfl ?_
 rotate_left
 ·go_simp
  try with_reducible rfl
 simp only [nz]
 refine pl_nil ?_
 clear cD S4
 go_upto_region 4 with fail
 by_cases hd : d = 0
 rotate_left
 ·have hdb : (d != 0) = true := by simpa using hd
  have HP : Hid (PP = (Rp.zero 0, d)) := hide (by rw [← hPP.out, if_pos hd])
  clear hPP hd
  try simp only [Act.put]
  refine pl_begin ?_
  refine pl_t 17 (?_) (by rfl) ?_ rfl ?_
  rotate_left
  ·go_simp
   try with_reducible rfl
  simp only [nz]
  refine pl_t 18 (.bool true) (by rfl) (by go_simp <;> (try simp [*])) rfl ?_
  simp only [nz]
  refine pl_nil ?_
  go_upto_region 5 with fail
  try simp only [Act.put]
  refine pl_begin ?_
  refine pl_t 19 (.agg zc.toArray) (by rfl) (ex_build (parts := []) rfl rfl (hbn _)) rfl ?_
  simp only [nz]
  refine pl_t 20 (?_) (by rfl) ?_ rfl ?_
  rotate_left
  ·go_simp
   try with_reducible rfl
  simp only [nz]
  refine pl_store (w' := w4.setCells A 0 zc) (by rfl) (ex_put (cs := zc.toArray) rfl rfl rfl (by simpa [hzl] using hT4) (by simpa [hzl] using iszRc) (all_one hz1)) rfl ?_
  refine pl_t 3 (?_) (by rfl) ?_ rfl ?_
  rotate_left
  ·go_simp
   try with_reducible rfl
  simp only [nz]
  refine pl_nil ?_
  have hrs := run_loadVar_mid (P := Tryz.prog) (w4.setCells A 0 zc) A 0 33 zc _ (World.rangeAt_setCells_same w4 A 0 zc (by rw [hzl]; exact hT4)) Tryz.underlying33 rfl (by rw [hzl]; exact iszRc)
  have HF : Hid (DecK w PP (.returned (.tuple #[.agg zc.toArray, .int .i64 d])) (w4.setCells A 0 zc)) := hide (by
   rw [HP.out]
   exact deck_out (c := Rc.zero 0) hz0.out.symm HAw.out hB4 rfl rfl Vt.zero_ok (Rc.zero_at _ _) ⟨nil_bk, nil_bk, nil_bk⟩)
  clear r4 hB4 hT4 hX4 HCC
  go_wp2_with fail
  refine bodyPost_ret (results_ct rfl _ _ _ rfl hrs) rfl ?_
  exact HF.out
 subst hd
 try simp only [Act.put]
 refine pl_begin ?_
 refine pl_t 17 (?_) (by rfl) ?_ rfl ?_
 rotate_left
 ·go_simp
  try with_reducible rfl
 simp only [nz]
 refine pl_t 18 (.bool false) (by rfl) (by go_simp) rfl ?_
 simp only [nz]
 refine pl_nil ?_
 have k4 : w4.cell? ⟨X, 0, none⟩ = some (.int .i64 rp.k) := by rw [← hck]; exact r4 0 _ rfl
 go_upto_region 6 with fail
 try simp only [Act.put]
 refine pl_begin ?_
 refine pl_t 21 (?_) (by rfl) ?_ rfl ?_
 rotate_left
 ·go_simp
  try with_reducible rfl
 simp only [nz]
 refine pl_t 22 (.int .i64 rp.k) (by rfl) (pl_one rfl rfl k4 Tryz.underlying3 rfl) rfl ?_
 simp only [nz]
 refine pl_nil ?_
 have hk1 : rp.k ≠ 1 := by omega
 have n1 : (rp.k == 1) = false := by simpa using hk1
 go_upto_region 7 with fail
 try simp only [Act.put]
 refine pl_begin ?_
 refine pl_t 24 (.bool false) (by rfl) (by go_simp <;> (try simp [*])) rfl ?_
 simp only [nz]
 refine pl_t 23 (?_) (by rfl) ?_ rfl ?_
 rotate_left
 ·go_simp
  try with_reducible rfl
 simp only [nz]
 refine pl_nil ?_
 ·have HP : Hid (PP = (rp, 0)) := hide (by rw [← hPP.out, if_neg (by decide), if_pos (.inr hk3)])
  clear hPP hk1
  go_upto_region 8 with fail
  try simp only [Act.put]
  refine pl_begin ?_
  refine pl_t 25 (.bool true) (by rfl) (by go_simp <;> (try simp [*])) rfl ?_
  simp only [nz]
  refine pl_t 23 (?_) (by rfl) ?_ rfl ?_
  rotate_left
  ·go_simp
   try with_reducible rfl
  simp only [nz]
  refine pl_nil ?_
  have hql2 := hql
  obtain ⟨qc, hqc⟩ : ∃ q, Hid (c.cells = q) := ⟨_, hide rfl⟩
  simp only [hqc.out] at hql hq1 hiq r4
  go_upto_region 9 with fail
  try simp only [Act.put]
  refine pl_begin ?_
  refine pl_t 26 (.agg qc.toArray) (by rfl) (ex_mid rfl rfl r4 Tryz.underlying33 rfl hiq) rfl ?_
  simp only [nz]
  refine pl_store (w' := w4.setCells A 0 qc) (by rfl) (ex_put (cs := qc.toArray) rfl rfl rfl (by simpa [hql] using hT4) (by simpa using hiq) (all_one hq1)) rfl ?_
  refine pl_t 3 (?_) (by rfl) ?_ rfl ?_
  rotate_left
  ·go_simp
   try with_reducible rfl
  simp only [nz]
  refine pl_nil ?_
  have hrs := run_loadVar_mid (P := Tryz.prog) (w4.setCells A 0 qc) A 0 33 qc _ (World.rangeAt_setCells_same w4 A 0 qc (by rw [hql]; exact hT4)) Tryz.underlying33 rfl (by rw [hql]; exact iszRc)
  have HF : Hid (DecK w PP (.returned (.tuple #[.agg qc.toArray, .int .i64 0])) (w4.setCells A 0 qc)) := hide (by
   rw [HP.out]
   exact deck_out (c := c) hqc.out HAw.out hB4 rfl HCC.out.1 hco HCC.out.2.1 (by rw [← HAw.out]; exact HCC.out.2.2))
  clear r4 hB4 hT4 hX4 HCC k4
  go_wp2_with fail
  refine bodyPost_ret (results_ct rfl _ _ _ rfl hrs) rfl ?_
  exact HF.out
set_option maxRecDepth 100000 in
set_option maxHeartbeats 2000000 in
theorem kbytesOf_view (r : Rc) (w : World) (h : r.ct.ok) (am : r.At w) (hg : r.good = true) (hf : r.Fine) (HK3 : Hid (r.k = 3)) : Calls Tryz.prog 20 #[.agg r.cells.toArray] w fun e w' => ∃ v, e = .returned (.tuple #[v, .int .i64 0]) ∧ Mine w' w.heap.size v r.bytes ∧ Below w.heap.size w w' := by
 have hlen := Rc.bytes_le am hf
 obtain ⟨hf, hv0, k1, k5⟩ := hf
 have hs0 : r.s ≤ 9223372036854775807 := hf.s
 have hl0 : r.l ≤ 9223372036854775807 := hf.l
 have hk0 : r.k ≤ 9223372036854775807 := by omega
 have ic : (Tryz.prog.info? 33).map (·.size) = some r.cells.length := by rw [Rc.len h]; exact iszRc
 have hrn : r.rs.xs.length ≤ 200 := hf.rn
 have hrs : ∀ y ∈ r.rs.xs, y.s.size ≤ 4000 := hf.rs
 have hbl := strOf_len r.told.bytes
 have hal := hf.all
 have hts : (strOf r.told.bytes).size ≤ 40000 := by rw [hbl]; exact hal
 have cK := fun w0 => tput_on none 0 [] r.k w0 (nil_row w0) (by simp) hk0
 simp only [List.length_nil] at cK
 have hgt : r.told.good = true := by unfold Rc.good at hg; rw [Bool.and_eq_true] at hg; exact hg.2
 obtain ⟨Z, hZ⟩ : ∃ Z, Hid (r.bytes = Z) := ⟨_, hide rfl⟩
 rw [hZ.out] at hlen ⊢
 obtain ⟨tb, htb⟩ : ∃ t, Hid (strOf r.told.bytes = t) := ⟨_, hide rfl⟩
 obtain ⟨L1, hL1⟩ : ∃ L, Hid (([] : List Int) ++ putL r.k = L) := ⟨_, hide rfl⟩
 have l1 : L1.length ≤ 9 := by rw [← hL1.out]; exact putL_le r.k hk0
 obtain ⟨L2, hL2⟩ : ∃ L, Hid (L1 ++ putL r.s = L) := ⟨_, hide rfl⟩
 have l2 : L2.length ≤ 18 := by rw [← hL2.out, List.length_append]; have := putL_le r.s hs0; omega
 obtain ⟨L3, hL3⟩ : ∃ L, Hid (L2 ++ putL r.v = L) := ⟨_, hide rfl⟩
 have l3 : L3.length ≤ 27 := by rw [← hL3.out, List.length_append]; have := putL_le r.v hv0; omega
 obtain ⟨M2, hM2⟩ : ∃ L, Hid (L1 ++ putL r.l = L) := ⟨_, hide rfl⟩
 have m2 : M2.length ≤ 18 := by rw [← hM2.out, List.length_append]; have := putL_le r.l hl0; omega
 obtain ⟨M3, hM3⟩ : ∃ L, Hid (M2 ++ putL r.v = L) := ⟨_, hide rfl⟩
 have m3 : M3.length ≤ 27 := by rw [← hM3.out, List.length_append]; have := putL_le r.v hv0; omega
 have z1 : r.k = 1 → Hid (L3 ++ batL r.q (r.rs.xs.map BRq.of) = Z) := fun e => hide (by rw [← hZ.out, ← hL3.out, ← hL2.out, ← hL1.out]; unfold Rc.bytes; rw [if_pos e]; simp)
 have z3 : r.k = 3 → Hid (M3 = Z) := fun e => hide (by rw [← hZ.out, ← hM3.out, ← hM2.out, ← hL1.out]; unfold Rc.bytes; rw [if_neg (by omega), if_pos e]; simp)
 have z7 : r.k ≠ 1 → r.k ≠ 3 → Hid (L1 ++ textL tb = Z) := fun e1 e3 => hide (by rw [← hZ.out, ← hL1.out, ← htb.out]; unfold Rc.bytes; rw [if_neg e1, if_neg e3]; simp)
 obtain ⟨hB1, hR1, hs1⟩ := boxed_new w r.cells 33
 have hp := fun {W : World} {b : Nat} (hR : W.rangeAt b 0 r.cells) => rc_parts h hR
 clear am hg hgt hal hZ htb
 go_enter Tryz.func20, Tryz.ntmps20
 go_upto_region 1 with fail
 obtain ⟨V0, hV0⟩ : ∃ q : World, w.alloc (.cells r.cells.toArray 33) = q := ⟨_, rfl⟩
 rw [hV0] at hB1 hR1 hs1 ⊢
 clear hV0
 have k0 : V0.cell? ⟨w.heap.size, 0, none⟩ = some (.int .i64 r.k) := hR1 0 _ rfl
 try simp only [Act.put]
 refine pl_begin ?_
 refine pl_t 7 (?_) (by rfl) ?_ rfl ?_
 rotate_left
 ·go_simp
  try with_reducible rfl
 simp only [nz]
 refine pl_t 8 (.int .i64 r.k) (by rfl) (pl_one rfl rfl k0 Tryz.underlying3 rfl) rfl ?_
 simp only [nz]
 refine pl_call (d := some 9) (by rfl) (by go_simp; first | done | exact ⟨rfl, rfl⟩ | with_reducible rfl) rfl ?_
 refine (cK V0).mono ?_
 rintro e9 w1 hf9
 obtain ⟨a1, c1, rfl, row1, mine1, hb9⟩ := FOn.row hf9 hL1.out (by omega)
 have hN1 : Below w.heap.size w w1 := hB1.trans (hb9.mono hB1.size)
 clear hf9
 refine ⟨_, rfl, ?_⟩
 simp only [nz]
 refine pl_t 4 (?_) (by rfl) ?_ rfl ?_
 rotate_left
 ·go_simp
  try with_reducible rfl
 simp only [nz]
 refine pl_nil ?_
 have hR := range_below hR1 hb9 hs1
 have hsw : w.heap.size < w1.heap.size := Nat.lt_of_lt_of_le hs1 hb9.size
 replace mine1 : Mine w1 w.heap.size (.slice a1 L1.length c1) L1 := ⟨owns_mono mine1.1 (Nat.le_of_lt hs1), mine1.2⟩
 clear hB1 hR1 hs1 k0 hb9 cK
 have hB1 := hN1
 have hs1 := hsw
 clear hN1 hsw
 have q0 : w1.cell? ⟨w.heap.size, 0, none⟩ = some (.int .i64 r.k) := hR 0 _ rfl
 have q1 : w1.cell? ⟨w.heap.size, 1, none⟩ = some (.int .i64 r.l) := hR 1 _ rfl
 have q2 : w1.cell? ⟨w.heap.size, 2, none⟩ = some (.int .i64 r.v) := hR 2 _ rfl
 have q3 : w1.cell? ⟨w.heap.size, 3, none⟩ = some (.int .i64 r.s) := hR 3 _ rfl
 go_upto_region 2 with fail
 try simp only [Act.put]
 refine pl_begin ?_
 refine pl_t 10 (?_) (by rfl) ?_ rfl ?_
 rotate_left
 ·go_simp
  try with_reducible rfl
 simp only [nz]
 refine pl_t 11 (.int .i64 r.k) (by rfl) (pl_one rfl rfl q0 Tryz.underlying3 rfl) rfl ?_
 simp only [nz]
 refine pl_nil ?_
 have hk3 := HK3.out
 have hk1 : r.k ≠ 1 := by omega
 have n1 : (r.k == 1) = false := by simpa using hk1
 clear z1
 go_upto_region 3 with fail
 try simp only [Act.put]
 refine pl_begin ?_
 refine pl_t 13 (.bool false) (by rfl) (by go_simp <;> (try simp [*])) rfl ?_
 simp only [nz]
 refine pl_t 12 (?_) (by rfl) ?_ rfl ?_
 rotate_left
 ·go_simp
  try with_reducible rfl
 simp only [nz]
 refine pl_nil ?_
 ·have z := z3 hk3
  go_upto_region 6 with fail
  try simp only [Act.put]
  refine pl_begin ?_
  refine pl_t 26 (.bool true) (by rfl) (by go_simp <;> (try simp [*])) rfl ?_
  simp only [nz]
  refine pl_t 25 (?_) (by rfl) ?_ rfl ?_
  rotate_left
  ·go_simp
   try with_reducible rfl
  simp only [nz]
  refine pl_nil ?_
  clear z3 z7 hL2 hL3 hL1 hp
  go_upto_region 7 with fail
  refine hs_begin (S := (Below w1.drew.heap.size w1.drew)) 9 rfl (by kernel_rfl) ?_
  have hB8 := hB1.drew
  have hs8 : w.heap.size < w1.drew.heap.size := hs1
  replace row1 : RowAt w1.drew a1 L1 := row1.below (Below.refl _ _).drew
  have q1 : w1.drew.cell? ⟨w.heap.size, 1, none⟩ = some (.int .i64 r.l) := q1
  have q2 : w1.drew.cell? ⟨w.heap.size, 2, none⟩ = some (.int .i64 r.v) := q2
  have q3 : w1.drew.cell? ⟨w.heap.size, 3, none⟩ = some (.int .i64 r.s) := q3
  have hRd := (World.rangeAt_drew _ _ _ _).2 hR
  obtain ⟨w8, hw8⟩ : ∃ W, w1.drew = W := ⟨_, rfl⟩
  rw [hw8] at hB8 hs8 row1 q1 q2 q3 hRd ⊢
  clear hw8 hB1 hs1 hR mine1
  have hS : (Below w8.heap.size w8) w8 := Below.refl _ _
  refine hs_t 0 27 (?_) rfl (by kernel_rfl) (by kernel_rfl) (by kernel_rfl) (by rfl) ?_ hS rfl ?_
  rotate_left
  ·intro w' hw
   go_simp
   try with_reducible rfl
  simp only [nz]
  refine hs_t 1 28 (?_) rfl (by kernel_rfl) (by kernel_rfl) (by kernel_rfl) (by rfl) ?_ hS rfl ?_
  rotate_left
  ·intro w' hw
   go_simp
   try with_reducible rfl
  simp only [nz]
  refine hs_t 2 29 (.int .i64 r.l) rfl (by kernel_rfl) (by kernel_rfl) (by kernel_rfl) (by rfl) (fun w' hw => pl_one rfl rfl ((hw.cell (p := ⟨w.heap.size, 1, none⟩) hs8).trans q1) Tryz.underlying3 rfl) hS rfl ?_
  simp only [nz]
  refine hs_t 4 31 (?_) rfl (by kernel_rfl) (by kernel_rfl) (by kernel_rfl) (by rfl) ?_ hS rfl ?_
  rotate_left
  ·intro w' hw
   go_simp
   try with_reducible rfl
  simp only [nz]
  refine hs_t 5 32 (.int .i64 r.v) rfl (by kernel_rfl) (by kernel_rfl) (by kernel_rfl) (by rfl) (fun w' hw => pl_one rfl rfl ((hw.cell (p := ⟨w.heap.size, 2, none⟩) hs8).trans q2) Tryz.underlying3 rfl) hS rfl ?_
  simp only [nz]
  refine hs_call (i := 3) (d := some 30) rfl (by kernel_rfl) (by rfl) (by go_simp; first | done | exact ⟨rfl, rfl⟩ | with_reducible rfl) rfl ?_
  refine (tput_on a1 c1 L1 r.l w8 row1 (by omega) hl0).mono ?_
  rintro e9 w9 hf9
  obtain ⟨a2, c2, rfl, row2, mine2, hb9⟩ := FOn.row hf9 hM2.out (by omega)
  have hS : (Below w8.heap.size w8) w9 := hS.trans (hb9.mono hS.size)
  have hS9 := hS
  clear hf9 hb9
  refine ⟨_, rfl, hS, ?_⟩
  simp only [nz]
  refine hs_call (i := 6) (d := some 33) rfl (by kernel_rfl) (by rfl) (by go_simp; first | done | exact ⟨rfl, rfl⟩ | with_reducible rfl) rfl ?_
  refine (tput_on a2 c2 M2 r.v w9 row2 (by omega) hv0).mono ?_
  rintro e9 w10 hf9
  obtain ⟨a3, c3, rfl, row3, mine3, hb9⟩ := FOn.row hf9 hM3.out (by omega)
  have hS : (Below w8.heap.size w8) w10 := hS.trans (hb9.mono hS.size)
  clear hf9 hb9
  refine ⟨_, rfl, hS, ?_⟩
  simp only [nz]
  refine hs_t 7 2 (?_) rfl (by kernel_rfl) (by kernel_rfl) (by kernel_rfl) (by rfl) ?_ hS rfl ?_
  rotate_left
  ·intro w' hw
   go_simp
   try with_reducible rfl
  simp only [nz]
  refine hs_t 8 3 (?_) rfl (by kernel_rfl) (by kernel_rfl) (by kernel_rfl) (by rfl) ?_ hS rfl ?_
  rotate_left
  ·intro w' hw
   go_simp
   try with_reducible rfl
  simp only [nz]
  refine hs_done (by kernel_rfl) ?_
  have BB := hB8.trans (hS.mono hB8.size)
  have HM : Hid (Mine w10 w.heap.size (.slice a3 Z.length c3) Z) := hide (by
   rw [← z.out]
   exact ⟨owns_mono mine3.1 (Nat.le_trans hB8.size hS9.size), mine3.2⟩)
  have e3 : M3.length = Z.length := congrArg List.length z.out
  clear mine3 mine2 row3 row2 row1
  go_wp2_with fail
  go_ret2
  exact ⟨_, rfl, by rw [e3]; exact HM.out, BB⟩
set_option maxRecDepth 100000 in
set_option maxHeartbeats 2000000 in
theorem kencode_view (r : Rc) (w : World) (h : r.ct.ok) (am : r.At w) (hf : r.good = true → r.Fine) (HK3 : Hid (r.k = 3)) : Calls Tryz.prog 9 #[.agg r.cells.toArray] w fun e w' => EncR r w e w' := by
 have ic : (Tryz.prog.info? 33).map (·.size) = some r.cells.length := by rw [Rc.len h]; exact iszRc
 have cG := fun w0 (h0 : Below w.heap.size w w0) => kgood_any r w0 h (am.below h0)
 have cB := fun hg w0 (h0 : Below w.heap.size w w0) => kbytesOf_view r w0 h (am.below h0) hg (hf hg) HK3
 have hl := fun hg => Rc.bytes_le am (hf hg)
 obtain ⟨E, hE⟩ : ∃ E, Hid (encE r = E) := ⟨_, hide rfl⟩
 obtain ⟨Z, hZ⟩ : ∃ E, Hid (encZ r = E) := ⟨_, hide rfl⟩
 obtain ⟨Y, hY⟩ : ∃ E, Hid (r.bytes = E) := ⟨_, hide rfl⟩
 have e1 : r.good = true → E = 0 ∧ Z = Y := fun hg => by rw [← hE.out, ← hZ.out, ← hY.out]; unfold encE encZ; rw [if_pos hg, if_pos hg]; exact ⟨rfl, rfl⟩
 have e2 : r.good = false → E = 240 ∧ Z = [] := fun hg => by rw [← hE.out, ← hZ.out]; unfold encE encZ; rw [if_neg (by rw [hg]; decide), if_neg (by rw [hg]; decide)]; exact ⟨rfl, rfl⟩
 unfold EncR
 rw [hE.out, hZ.out]
 simp only [hY.out] at cB hl
 clear hE hZ hY
 obtain ⟨g, hg⟩ : ∃ g, Hid (r.good = g) := ⟨_, hide rfl⟩
 rw [hg.out] at hf e1 e2
 simp only [hg.out] at cG cB hl
 clear hg
 obtain ⟨hB1, hR1, hs1⟩ := boxed_new w r.cells 33
 go_enter Tryz.func9, Tryz.ntmps9
 go_upto_region 1 with fail
 obtain ⟨V0, hV0⟩ : ∃ q : World, w.alloc (.cells r.cells.toArray 33) = q := ⟨_, rfl⟩
 rw [hV0] at hB1 hR1 hs1 ⊢
 clear hV0
 try simp only [Act.put]
 refine pl_begin ?_
 refine pl_t 6 (.agg r.cells.toArray) (by rfl) (ex_mid rfl rfl hR1 Tryz.underlying33 rfl ic) rfl ?_
 simp only [nz]
 refine pl_call (d := some 7) (by rfl) (by go_simp; first | done | exact ⟨rfl, rfl⟩ | with_reducible rfl) rfl ?_
 refine (cG V0 hB1).mono ?_
 rintro _ w1 ⟨rfl, hb1⟩
 refine ⟨_, rfl, ?_⟩
 simp only [nz]
 cases g
 ·refine pl_t 8 (?_) (by rfl) ?_ rfl ?_
  rotate_left
  ·go_simp
   try with_reducible rfl
  simp only [nz]
  refine pl_nil ?_
  obtain ⟨rfl, rfl⟩ := e2 rfl
  have HB := hide (hB1.trans (hb1.mono hB1.size))
  clear hB1 hR1 hs1 hb1 cG cB hl e1 e2
  go_wp2_with fail
  go_ret2
  exact ⟨_, rfl, nil_mine _ _, HB.out⟩
 ·refine pl_t 8 (?_) (by rfl) ?_ rfl ?_
  rotate_left
  ·go_simp
   try with_reducible rfl
  simp only [nz]
  refine pl_nil ?_
  obtain ⟨rfl, rfl⟩ := e1 rfl
  have hb := hB1.trans (hb1.mono hB1.size)
  have hR := range_below hR1 hb1 hs1
  have hlz := hl rfl
  have cb := cB rfl
  clear hB1 hR1 hs1 hb1 cG cB hl e1 e2
  go_upto_region 3 with fail
  try simp only [Act.put]
  refine pl_begin ?_
  refine pl_t 10 (.agg r.cells.toArray) (by rfl) (ex_mid rfl rfl hR Tryz.underlying33 rfl ic) rfl ?_
  simp only [nz]
  refine pl_call (d := some 11) (by rfl) (by go_simp; first | done | exact ⟨rfl, rfl⟩ | with_reducible rfl) rfl ?_
  refine (cb w1 hb).mono ?_
  rintro _ w2 ⟨v2, rfl, mine2, hb2⟩
  obtain ⟨a2, c2, rfl, -, -, row2⟩ := mine2.rowAt (by unfold maxLen; omega)
  refine ⟨_, rfl, ?_⟩
  simp only [nz]
  refine pl_t 9 (?_) (by rfl) ?_ rfl ?_
  rotate_left
  ·go_simp
   try with_reducible rfl
  simp only [nz]
  refine pl_t 12 (?_) (by rfl) ?_ rfl ?_
  rotate_left
  ·go_simp
   try with_reducible rfl
  simp only [nz]
  refine pl_t 13 (?_) (by rfl) ?_ rfl ?_
  rotate_left
  ·go_simp
   try with_reducible rfl
  simp only [nz]
  refine pl_t 4 (?_) (by rfl) ?_ rfl ?_
  rotate_left
  ·go_simp
   try with_reducible rfl
  simp only [nz]
  refine pl_t 5 (?_) (by rfl) ?_ rfl ?_
  rotate_left
  ·go_simp
   try with_reducible rfl
  simp only [nz]
  refine pl_nil ?_
  have HM : Hid (Mine w2 w.heap.size (.slice a2 Z.length c2) Z) := hide ⟨owns_mono mine2.1 hb.size, mine2.2⟩
  have HB := hide (hb.trans (hb2.mono hb.size))
  clear mine2 row2 hb2 hb hR cb
  go_upto_region 4 with fail
  try simp only [Act.put]
  refine pl_begin ?_
  refine pl_t 15 (?_) (by rfl) ?_ rfl ?_
  rotate_left
  ·go_simp
   try with_reducible rfl
  simp only [nz]
  refine pl_t 16 (.bool false) (by rfl) (by go_simp) rfl ?_
  simp only [nz]
  refine pl_t 14 (?_) (by rfl) ?_ rfl ?_
  rotate_left
  ·go_simp
   try with_reducible rfl
  simp only [nz]
  refine pl_nil ?_
  go_upto_region 6 with fail
  try simp only [Act.put]
  refine pl_begin ?_
  refine pl_t 19 (?_) (by rfl) ?_ rfl ?_
  rotate_left
  ·go_simp
   try with_reducible rfl
  simp only [nz]
  refine pl_t 20 (?_) (by rfl) ?_ rfl ?_
  rotate_left
  ·go_simp
   try with_reducible rfl
  simp only [nz]
  refine pl_t 21 (.bool false) (by rfl) (by go_simp <;> (try simp) <;> (try omega)) rfl ?_
  simp only [nz]
  refine pl_t 18 (?_) (by rfl) ?_ rfl ?_
  rotate_left
  ·go_simp
   try with_reducible rfl
  simp only [nz]
  refine pl_nil ?_
  go_wp2_with fail
  go_ret2
  exact ⟨_, rfl, HM.out, HB.out⟩
def exR : Rc := ⟨3, 2, 1, 0, false, ⟨none, 0, []⟩, Vt.zero, ⟨none, 0, []⟩, ⟨#[]⟩, ⟨none, 0, []⟩⟩
def exZ : List Int := [1, 3, 1, 2, 1, 1]
theorem exR_good : exR.good = true := by kernel_rfl
theorem exR_at (w : World) : exR.At w := ⟨RowsAt.none, RowsAt.none, RowsAt.none⟩
theorem exR_ok : exR.ct.ok := Vt.zero_ok
theorem exR_fine (w : World) : exR.Fine := fine_rc exR_ok (exR_at w) ⟨by decide, by decide, by decide⟩ exR_good
theorem exR_enc : encZ exR = exZ ∧ encE exR = 0 := by
 unfold encZ encE
 rw [if_pos exR_good, if_pos exR_good]
 exact ⟨by decide, rfl⟩
theorem exR_fin : kfin (krV (xnuS 5 (exZ, 0)).2) = kdec exZ := rfl
theorem exR_dec : (kdec exZ).2 = 0 ∧ (kdec exZ).1.v = 1 := by decide
theorem exR_str : strOf exZ = ⟨#[1, 3, 1, 2, 1, 1]⟩ := by decide
theorem build_ex (w : World) : (Instr.build 33 #[(0, .int .i64 3), (1, .int .i64 2), (2, .int .i64 1)]).run Tryz.prog w = .ok (.agg exR.cells.toArray) w := build_rec _ _ w rfl
set_option maxRecDepth 100000 in
set_option maxHeartbeats 1000000 in
theorem lives24_any (w : World) : Calls Tryz.prog 8 #[] w fun e w' => e = .returned (.bool true) ∧ Below w.heap.size w w' := by
 have cE := fun w0 => kencode_view exR w0 exR_ok (exR_at w0) (fun _ => exR_fine w0) (hide rfl)
 unfold EncR at cE
 rw [exR_enc.1, exR_enc.2] at cE
 have cD := fun a cap w0 h0 => kdecode_view a cap exZ w0 h0 (by decide) (by decide)
 rw [exR_fin] at cD
 obtain ⟨zc, hzl, hzr⟩ : ∃ z : List Value, z.length = 45 ∧ ∀ w : World, (zeroValue 33).run Tryz.prog w = .ok (.agg z.toArray) w := ⟨_, Rc.len Vt.zero_ok, zeroRc⟩
 have hd := exR_dec
 have hss := exR_str
 have hbe := build_ex w
 obtain ⟨qx, hqx⟩ : ∃ q, Hid (exR.cells = q) := ⟨_, hide rfl⟩
 simp only [hqx.out] at cE hbe
 have hzl6 : exZ.length ≤ 6 := Nat.le_refl _
 obtain ⟨Z, hZ⟩ : ∃ Z, exZ = Z := ⟨_, rfl⟩
 rw [hZ] at hd hss hzl6
 simp only [hZ] at cE cD
 clear hZ hqx
 unfold DecK at cD
 rw [hd.1] at cD
 go_enter Tryz.func8, Tryz.ntmps8
 go_upto_region 1 with fail
 try simp only [Act.put]
 refine pl_begin ?_
 refine pl_t 6 (.agg qx.toArray) (by rfl) (ex_build (parts := [(0, .const (.int .i64 3)), (1, .const (.int .i64 2)), (2, .const (.int .i64 1))]) rfl rfl hbe) rfl ?_
 simp only [nz]
 refine pl_call (d := some 7) (by rfl) (by go_simp; first | done | exact ⟨rfl, rfl⟩ | with_reducible rfl) rfl ?_
 refine (cE w).mono ?_
 rintro _ w1 ⟨v1, rfl, mine1, hb1⟩
 obtain ⟨a1, c1, rfl, -, -, row1⟩ := mine1.rowAt (by unfold maxLen; omega)
 refine ⟨_, rfl, ?_⟩
 simp only [nz]
 refine pl_t 5 (?_) (by rfl) ?_ rfl ?_
 rotate_left
 ·go_simp
  try with_reducible rfl
 simp only [nz]
 refine pl_t 8 (?_) (by rfl) ?_ rfl ?_
 rotate_left
 ·go_simp
  try with_reducible rfl
 simp only [nz]
 refine pl_t 9 (?_) (by rfl) ?_ rfl ?_
 rotate_left
 ·go_simp
  try with_reducible rfl
 simp only [nz]
 refine pl_t 1 (?_) (by rfl) ?_ rfl ?_
 rotate_left
 ·go_simp
  try with_reducible rfl
 simp only [nz]
 refine pl_t 2 (?_) (by rfl) ?_ rfl ?_
 rotate_left
 ·go_simp
  try with_reducible rfl
 simp only [nz]
 refine pl_nil ?_
 clear mine1 cE hbe
 go_upto_region 2 with fail
 try simp only [Act.put]
 refine pl_begin ?_
 refine pl_t 11 (?_) (by rfl) ?_ rfl ?_
 rotate_left
 ·go_simp
  try with_reducible rfl
 simp only [nz]
 refine pl_call (d := some 12) (by rfl) (by go_simp; first | done | exact ⟨rfl, rfl⟩ | with_reducible rfl) rfl ?_
 refine (cD a1 c1 w1 row1).mono ?_
 rintro _ w2 ⟨c, rfl, hp, hco, -, -, hb2⟩
 refine ⟨_, rfl, ?_⟩
 simp only [nz]
 have hql : c.cells.length = 45 := Rc.len hco
 have hq1 := Rc.one c
 have hiq : (Tryz.prog.info? 33).map (·.size) = some c.cells.length := by rw [hql]; exact iszRc
 refine pl_t 10 (?_) (by rfl) ?_ rfl ?_
 rotate_left
 ·go_simp
  try with_reducible rfl
 simp only [nz]
 refine pl_t 13 (?_) (by rfl) ?_ rfl ?_
 rotate_left
 ·go_simp
  try with_reducible rfl
 simp only [nz]
 refine pl_t 14 (?_) (by rfl) ?_ rfl ?_
 rotate_left
 ·go_simp
  try with_reducible rfl
 simp only [nz]
 refine pl_run (d := some 3) (v := .pointer (some ⟨w2.heap.size, 0, none⟩)) (w' := w2.alloc (.cells zc.toArray 33)) (by rfl) (ex_alloc rfl (hzr _)) rfl ?_
 simp only [nz]
 refine pl_store (w' := (w2.alloc (.cells zc.toArray 33)).setCells w2.heap.size 0 c.cells) (by rfl) (ex_put (cs := c.cells.toArray) rfl rfl rfl (there_newN _ _ _ (by simp [hzl, hql])) (by simpa using hiq) (all_one hq1)) rfl ?_
 refine pl_t 4 (?_) (by rfl) ?_ rfl ?_
 rotate_left
 ·go_simp
  try with_reducible rfl
 simp only [nz]
 refine pl_nil ?_
 obtain ⟨r4, hF2, hF3, -⟩ := fresh_store w2 zc.toArray 33 c.cells (by simp [hzl, hql])
 have hv : c.v = 1 := by have := congrArg Rp.v hp; rw [hd.2] at this; exact this
 have hcv := row_mine ((row1.below hb2).below hF2) c1
 rw [hss] at hcv
 have HB := hide ((hb1.trans (hb2.mono hb1.size)).trans (hF2.mono (Nat.le_trans hb1.size hb2.size)))
 obtain ⟨w3, hw3⟩ : ∃ W, (w2.alloc (.cells zc.toArray 33)).setCells w2.heap.size 0 c.cells = W := ⟨_, rfl⟩
 rw [hw3] at r4 hcv HB ⊢
 have k2 : w3.cell? ⟨w2.heap.size, 2, none⟩ = some (.int .i64 1) := by rw [← hv]; exact r4 2 _ rfl
 clear hw3 hF2 hF3 r4 row1 hb1 hb2 hd hss hp cD hv
 go_upto_region 3 with fail
 try simp only [Act.put]
 refine pl_begin ?_
 refine pl_t 15 (?_) (by rfl) ?_ rfl ?_
 rotate_left
 ·go_simp
  try with_reducible rfl
 simp only [nz]
 refine pl_t 16 (.bool true) (by rfl) (by go_simp) rfl ?_
 simp only [nz]
 refine pl_t 17 (?_) (by rfl) ?_ rfl ?_
 rotate_left
 ·go_simp
  try with_reducible rfl
 simp only [nz]
 refine pl_t 18 (?_) (by rfl) ?_ rfl ?_
 rotate_left
 ·go_simp
  try with_reducible rfl
 simp only [nz]
 refine pl_t 19 (.bool true) (by rfl) (by go_simp) rfl ?_
 simp only [nz]
 refine pl_t 20 (?_) (by rfl) ?_ rfl ?_
 rotate_left
 ·go_simp
  try with_reducible rfl
 simp only [nz]
 refine pl_t 21 (?_) (by rfl) ?_ rfl ?_
 rotate_left
 ·go_simp
  try with_reducible rfl
 simp only [nz]
 refine pl_t 22 (?_) (by rfl) ?_ rfl ?_
 rotate_left
 ·go_simp
  try with_reducible rfl
 simp only [nz]
 refine pl_t 23 (.string ⟨#[1, 3, 1, 2, 1, 1]⟩) (by rfl) (exec_conv rfl rfl hcv) rfl ?_
 simp only [nz]
 refine pl_t 24 (.bool true) (by rfl) (by go_simp) rfl ?_
 simp only [nz]
 refine pl_t 25 (?_) (by rfl) ?_ rfl ?_
 rotate_left
 ·go_simp
  try with_reducible rfl
 simp only [nz]
 refine pl_t 26 (?_) (by rfl) ?_ rfl ?_
 rotate_left
 ·go_simp
  try with_reducible rfl
 simp only [nz]
 refine pl_t 27 (?_) (by rfl) ?_ rfl ?_
 rotate_left
 ·go_simp
  try with_reducible rfl
 simp only [nz]
 refine pl_t 28 (.int .i64 1) (by rfl) (pl_one rfl rfl k2 Tryz.underlying3 rfl) rfl ?_
 simp only [nz]
 refine pl_t 29 (.bool true) (by rfl) (by go_simp) rfl ?_
 simp only [nz]
 refine pl_t 30 (?_) (by rfl) ?_ rfl ?_
 rotate_left
 ·go_simp
  try with_reducible rfl
 simp only [nz]
 refine pl_t 0 (?_) (by rfl) ?_ rfl ?_
 rotate_left
 ·go_simp
  try with_reducible rfl
 simp only [nz]
 refine pl_nil ?_
 go_wp2_with fail
 go_ret
 exact ⟨rfl, HB.out⟩
theorem Rc.At.below' {r : Rc} {w w' : World} (h : r.At w) (hb : Below w.heap.size w w') : r.At w' := ⟨h.rs.below hb, h.cs.below hb, h.sg.below hb⟩
set_option maxRecDepth 100000 in
set_option maxHeartbeats 1000000 in
theorem decodes_walk (a : Option Addr) (cap : Nat) (zs : List Int) (w : World) (h : RowAt w a zs) : Calls Tryz.prog 4 #[.slice a zs.length cap] w fun e w' => e = .returned (.bool true) ∧ Below w.heap.size w w' := by
 obtain ⟨zc, hzl, hzr⟩ : ∃ z : List Value, z.length = 45 ∧ ∀ w : World, (zeroValue 33).run Tryz.prog w = .ok (.agg z.toArray) w := ⟨_, Rc.len Vt.zero_ok, zeroRc⟩
 have hml : zs.length ≤ maxLen := h.1
 unfold maxLen at hml
 obtain ⟨p0, hp0⟩ : ∃ p, Hid (decide (20000 < (zs.length : Int)) = p) := ⟨_, hide rfl⟩
 go_enter Tryz.func4, Tryz.ntmps4
 go_upto_region 1 with fail
 try simp only [Act.put]
 refine pl_begin ?_
 refine pl_t 7 (?_) (by rfl) ?_ rfl ?_
 rotate_left
 ·go_simp
  try with_reducible rfl
 simp only [nz]
 refine pl_t 8 (?_) (by rfl) ?_ rfl ?_
 rotate_left
 ·go_simp
  try with_reducible rfl
 simp only [nz]
 refine pl_t 9 (.bool p0) (by rfl) (by rw [← hp0.out]; go_simp) rfl ?_
 simp only [nz]
 refine pl_nil ?_
 cases p0
 rotate_left
 ·clear hp0 h
  go_upto_region 2 with fail
  try simp only [Act.put]
  refine pl_begin ?_
  refine pl_call (d := some 10) (by rfl) (by go_simp; first | done | exact ⟨rfl, rfl⟩ | with_reducible rfl) rfl ?_
  refine (lives24_any w).mono ?_
  rintro _ w1 ⟨rfl, hb1⟩
  refine ⟨_, rfl, ?_⟩
  simp only [nz]
  refine pl_t 2 (?_) (by rfl) ?_ rfl ?_
  rotate_left
  ·go_simp
   try with_reducible rfl
  simp only [nz]
  refine pl_nil ?_
  go_wp2_with fail
  go_ret
  exact ⟨rfl, hb1⟩
 have hl : zs.length ≤ 40000 := by have := of_decide_eq_false hp0.out; omega
 have cK := fun w0 h0 => kdecode_any a cap zs w0 h0 hl
 have kX := fun w0 h0 => xkdecode_any a cap zs w0 h0 hl
 unfold DecK at cK kX
 generalize kdec zs = P at cK kX
 obtain ⟨rp, er⟩ := P
 simp only at cK kX
 clear hp0 hml hl
 have roww := h
 clear h
 go_upto_region 3 with fail
 try simp only [Act.put]
 refine pl_begin ?_
 refine pl_t 12 (?_) (by rfl) ?_ rfl ?_
 rotate_left
 ·go_simp
  try with_reducible rfl
 simp only [nz]
 refine pl_call (d := some 13) (by rfl) (by go_simp; first | done | exact ⟨rfl, rfl⟩ | with_reducible rfl) rfl ?_
 refine (cK w roww).mono ?_
 rintro _ w1 ⟨c, rfl, cp, co, ca, cb, hb1⟩
 refine ⟨_, rfl, ?_⟩
 simp only [nz]
 have cl : c.cells.length = 45 := Rc.len co
 have c1 := Rc.one c
 have ci : (Tryz.prog.info? 33).map (·.size) = some c.cells.length := by rw [cl]; exact iszRc
 refine pl_t 11 (?_) (by rfl) ?_ rfl ?_
 rotate_left
 ·go_simp
  try with_reducible rfl
 simp only [nz]
 refine pl_t 14 (?_) (by rfl) ?_ rfl ?_
 rotate_left
 ·go_simp
  try with_reducible rfl
 simp only [nz]
 refine pl_t 15 (?_) (by rfl) ?_ rfl ?_
 rotate_left
 ·go_simp
  try with_reducible rfl
 simp only [nz]
 refine pl_run (d := some 3) (v := .pointer (some ⟨w1.heap.size, 0, none⟩)) (w' := w1.alloc (.cells zc.toArray 33)) (by rfl) (ex_alloc rfl (hzr _)) rfl ?_
 simp only [nz]
 refine pl_store (w' := (w1.alloc (.cells zc.toArray 33)).setCells w1.heap.size 0 c.cells) (by rfl) (ex_put (cs := c.cells.toArray) rfl rfl rfl (there_newN _ _ _ (by simp [hzl, cl])) (by simpa using ci) (all_one c1)) rfl ?_
 refine pl_t 4 (?_) (by rfl) ?_ rfl ?_
 rotate_left
 ·go_simp
  try with_reducible rfl
 simp only [nz]
 refine pl_nil ?_
 obtain ⟨cr, cF, cz, -⟩ := fresh_store w1 zc.toArray 33 c.cells (by simp [hzl, cl])
 replace ca : c.At _ := ca.below' cF
 have roww1 := (roww.below hb1).below cF
 have cX := hb1.trans (cF.mono hb1.size)
 obtain ⟨cB, cBB⟩ : ∃ B, w1.heap.size = B := ⟨_, rfl⟩
 simp only [cBB] at cr cz ca roww1 cX ⊢
 obtain ⟨w1V, hw1⟩ : ∃ W, (w1.alloc (.cells zc.toArray 33)).setCells cB 0 c.cells = W := ⟨_, rfl⟩
 simp only [hw1] at cr cz ca roww1 cX ⊢
 have cs : cB < w1V.heap.size := by omega
 clear hw1 cF cBB
 have roww1V := roww1
 clear roww1 roww cK
 go_upto_region 4 with fail
 try simp only [Act.put]
 refine pl_begin ?_
 refine pl_t 17 (?_) (by rfl) ?_ rfl ?_
 rotate_left
 ·go_simp
  try with_reducible rfl
 simp only [nz]
 refine pl_call (d := some 18) (by rfl) (by go_simp; first | done | exact ⟨rfl, rfl⟩ | with_reducible rfl) rfl ?_
 refine (kX w1V roww1V).mono ?_
 rintro _ w2 ⟨d, rfl, dp, do_, da, db, hb2⟩
 refine ⟨_, rfl, ?_⟩
 simp only [nz]
 have dl : d.cells.length = 45 := Rc.len do_
 have d1 := Rc.one d
 have di : (Tryz.prog.info? 33).map (·.size) = some d.cells.length := by rw [dl]; exact iszRc
 refine pl_t 16 (?_) (by rfl) ?_ rfl ?_
 rotate_left
 ·go_simp
  try with_reducible rfl
 simp only [nz]
 refine pl_t 19 (?_) (by rfl) ?_ rfl ?_
 rotate_left
 ·go_simp
  try with_reducible rfl
 simp only [nz]
 refine pl_t 20 (?_) (by rfl) ?_ rfl ?_
 rotate_left
 ·go_simp
  try with_reducible rfl
 simp only [nz]
 refine pl_run (d := some 5) (v := .pointer (some ⟨w2.heap.size, 0, none⟩)) (w' := w2.alloc (.cells zc.toArray 33)) (by rfl) (ex_alloc rfl (hzr _)) rfl ?_
 simp only [nz]
 refine pl_store (w' := (w2.alloc (.cells zc.toArray 33)).setCells w2.heap.size 0 d.cells) (by rfl) (ex_put (cs := d.cells.toArray) rfl rfl rfl (there_newN _ _ _ (by simp [hzl, dl])) (by simpa using di) (all_one d1)) rfl ?_
 refine pl_t 6 (?_) (by rfl) ?_ rfl ?_
 rotate_left
 ·go_simp
  try with_reducible rfl
 simp only [nz]
 refine pl_nil ?_
 obtain ⟨dr, dF, dz, -⟩ := fresh_store w2 zc.toArray 33 d.cells (by simp [hzl, dl])
 replace da : d.At _ := da.below' dF
 have roww2 := (roww1V.below hb2).below dF
 have dX := hb2.trans (dF.mono hb2.size)
 obtain ⟨dB, dBB⟩ : ∃ B, w2.heap.size = B := ⟨_, rfl⟩
 simp only [dBB] at dr dz da roww2 dX ⊢
 obtain ⟨w2V, hw2⟩ : ∃ W, (w2.alloc (.cells zc.toArray 33)).setCells dB 0 d.cells = W := ⟨_, rfl⟩
 simp only [hw2] at dr dz da roww2 dX ⊢
 have ds : dB < w2V.heap.size := by omega
 clear hw2 dF dBB
 clear roww1V roww2 kX
 have cr2 := range_below cr dX cs
 have ca2 := ca.below' dX
 have BB := cX.trans (dX.mono cX.size)
 have hs2 := Nat.lt_of_lt_of_le cs dX.size
 have hBt : Rc.B c d = true := Rc.B_eqv (cp.trans dp.symm)
 have cS := xksame_any c d w2V co do_ ca2 da
 rw [hBt] at cS
 clear hBt ca2 da ca cX dX hb1 hb2 cb db
 obtain ⟨qc, hqc⟩ : ∃ q, c.cells = q := ⟨_, rfl⟩
 obtain ⟨qd, hqd⟩ : ∃ q, d.cells = q := ⟨_, rfl⟩
 simp only [hqc, hqd] at cS cr2 dr ci di ⊢
 clear hqc hqd
 go_upto_region 5 with fail
 try simp only [Act.put]
 refine pl_begin ?_
 refine pl_t 21 (.agg qc.toArray) (by rfl) (ex_mid rfl rfl cr2 Tryz.underlying33 rfl ci) rfl ?_
 simp only [nz]
 refine pl_t 22 (.agg qd.toArray) (by rfl) (ex_mid rfl rfl dr Tryz.underlying33 rfl di) rfl ?_
 simp only [nz]
 refine pl_call (d := some 23) (by rfl) (by go_simp; first | done | exact ⟨rfl, rfl⟩ | with_reducible rfl) rfl ?_
 refine (cS).mono ?_
 rintro _ w9 ⟨rfl, hb9⟩
 refine ⟨_, rfl, ?_⟩
 simp only [nz]
 refine pl_t 24 (?_) (by rfl) ?_ rfl ?_
 rotate_left
 ·go_simp
  try with_reducible rfl
 simp only [nz]
 refine pl_t 25 (?_) (by rfl) ?_ rfl ?_
 rotate_left
 ·go_simp
  try with_reducible rfl
 simp only [nz]
 refine pl_t 26 (?_) (by rfl) ?_ rfl ?_
 rotate_left
 ·go_simp
  try with_reducible rfl
 simp only [nz]
 refine pl_t 27 (.bool true) (by rfl) (by go_simp) rfl ?_
 simp only [nz]
 refine pl_t 28 (?_) (by rfl) ?_ rfl ?_
 rotate_left
 ·go_simp
  try with_reducible rfl
 simp only [nz]
 refine pl_t 29 (?_) (by rfl) ?_ rfl ?_
 rotate_left
 ·go_simp
  try with_reducible rfl
 simp only [nz]
 refine pl_call (d := some 30) (by rfl) (by go_simp; first | done | exact ⟨rfl, rfl⟩ | with_reducible rfl) rfl ?_
 refine (lives24_any w9).mono ?_
 rintro _ w10 ⟨rfl, hb10⟩
 refine ⟨_, rfl, ?_⟩
 simp only [nz]
 refine pl_t 31 (?_) (by rfl) ?_ rfl ?_
 rotate_left
 ·go_simp
  try with_reducible rfl
 simp only [nz]
 refine pl_t 2 (?_) (by rfl) ?_ rfl ?_
 rotate_left
 ·go_simp
  try with_reducible rfl
 simp only [nz]
 refine pl_nil ?_
 have HB := hide (BB.trans (hb9.trans (hb10.mono hb9.size) |>.mono BB.size))
 go_wp2_with fail
 go_ret
 exact ⟨rfl, HB.out⟩
end Go.Proofs.YtinndbipomlokaaGreat
namespace Go.Proofs.YtinndbipomlokaaGreat
open Go.ChangeShapes Go.WideShapes Go.ChangeAt Go.RowKit
open Sha Tal
set_option linter.unusedVariables false
set_option linter.constructorNameAsVariable false
theorem own : ownKnob Tryz.prog.godebug = none := by kernel_rfl
theorem laidOut : laidOutB Tryz.prog = true := by kernel_rfl
section
variable {H : Type} {enc : TypeId × Value → H} {W : World} {b : Nat} {sp : Nat → Bool} {held : Bool} {m : Nat}
end
theorem cells_some {w : World} {base n : Nat} {x : Addr} {cs : List Value} (h : w.cells? base x n = some cs) : cs.length = n ∧ ∀ j v, cs[j]? = some v → w.cell? (x.add j) = some v := by
 unfold World.cells? at h
 split at h
 ·have hl := Lib.mapM_length h
  refine ⟨by simpa using hl, fun j v hv => ?_⟩
  have hj : j < n := by
   have := (List.getElem?_eq_some_iff.1 hv).1
   have : cs.length = n := by simpa using hl
   omega
  obtain ⟨y, hy, hf⟩ := Lib.mapM_at h j j (by simp [hj])
  rw [hv] at hy
  exact hf.trans hy.symm
 ·cases h
theorem flat_getA {α : Type} {f : α → List Value} {k : Nat} (hk : 0 < k) (R : Nat → α) : ∀ (n : Nat), (∀ i, i < n → (f (R i)).length = k) → ∀ j, j < n * k → (((List.range n).map R).flatMap f)[j]? = (f (R (j / k)))[j % k]? := by
 intro n
 induction n with
 | zero => intro _ j hj; omega
 | succ n ih =>
  intro hR j hj
  have hl : (((List.range n).map R).flatMap f).length = n * k := by
   have := flat_len_k (f := f) (k := k) (ys := (List.range n).map R) (fun y hy => by
    obtain ⟨i, hi, rfl⟩ := List.mem_map.1 hy
    exact hR i (by have := List.mem_range.1 hi; omega))
   simpa using this
  rw [List.range_succ, List.map_append, List.flatMap_append]
  by_cases h : j < n * k
  ·rw [List.getElem?_append_left (by omega), ih (fun i hi => hR i (by omega)) j h]
  ·rw [List.getElem?_append_right (by omega), hl]
   have e0 : j = (j - n * k) + k * n := by rw [Nat.mul_comm k n]; omega
   have hlt : j - n * k < k := by rw [Nat.add_mul, Nat.one_mul] at hj; omega
   have e1 : j / k = n := by rw [e0, Nat.add_mul_div_left _ _ hk, Nat.div_eq_of_lt hlt]; omega
   have e2 : j % k = j - n * k := by
    have := congrArg (· % k) e0
    simp only [Nat.add_mul_mod_self_left] at this
    rw [this, Nat.mod_eq_of_lt hlt]
   rw [e1, e2]
   simp
set_option maxRecDepth 100000 in
theorem rows_of {α : Type} [Inhabited α] (f : α → List Value) (ok : α → Prop) (k : Nat) (hk : 0 < k) (tl te : TypeId) (hu : Tryz.prog.underlying tl = some (.slice te)) (hct : Tryz.prog.cellsOf te = k) (hf : ∀ y, ok y → (f y).length = k)
  {H : Type} {enc : TypeId × Value → H} {W : World} {b : Nat} {sp : Nat → Bool} {held : Bool} {fuel : Nat} {l : List Value} {x : DataW H × List MemPlace}
  (hel : ∀ (m : Nat) (l : List Value) (z : DataW H × List MemPlace), DataW.trod enc Tryz.prog W b sp held m te l = some z → ∃ y, l = f y ∧ ok y)
  (h : DataW.trod enc Tryz.prog W b sp held fuel tl l = some x) : ∃ (a : Option Addr) (cap : Nat) (ys : List α), l = [.slice a ys.length cap] ∧ ys.length ≤ cap ∧ cap ≤ maxLen ∧ (∀ y ∈ ys, ok y) ∧ RowOf f W a ys := by
 rcases Deep.open_slice hu h with ⟨rfl, _⟩ | ⟨a, len, cap, m, n, D, Pl, rfl, hb, hlc, hcm, hm, _, hel2⟩
 ·exact ⟨none, 0, [], rfl, by simp, by simp, by simp, .inl rfl⟩
 ·rw [hct] at hel2
  have hml : len ≤ m := by rw [hm]; split <;> omega
  have key : ∀ i, i < len → ∃ y : α, W.cells? b (a.add (i * k)) k = some (f y) ∧ ok y := fun i hi => by
   obtain ⟨cs, h1, h2⟩ := hel2 i (by omega)
   obtain ⟨y, rfl, hy⟩ := hel _ _ _ h2
   exact ⟨y, h1, hy⟩
  obtain ⟨R, hR⟩ := Deep.choose_lt key
  refine ⟨some a, cap, (List.range len).map R, by simp, by simpa using hlc, hcm, ?_, ?_⟩
  ·intro y hy
   obtain ⟨i, hi, rfl⟩ := List.mem_map.1 hy
   exact (hR i (List.mem_range.1 hi)).2
  ·by_cases h0 : len = 0
   ·left; simp [h0]
   ·right
    obtain ⟨bb, off, spot⟩ := a
    have hlen0 := hf _ (hR 0 (by omega)).2
    have hc := (cells_some (hR 0 (by omega)).1).2 0 ((f (R 0))[0]'(by omega)) (List.getElem?_eq_getElem _)
    have hspot : spot = none := by simpa [Addr.add] using World.cell?_spot hc
    subst hspot
    refine ⟨bb, off, rfl, ?_, fun j v hv => ?_⟩
    ·have := World.block_lt_of_cell? W _ hc; simpa [Addr.add] using this
    ·have hj : j < len * k := by
      have := (List.getElem?_eq_some_iff.1 hv).1
      rw [flat_len_k (k := k)] at this
      ·simpa using this
      ·intro y hy
       obtain ⟨i, hi, rfl⟩ := List.mem_map.1 hy
       exact hf _ (hR i (List.mem_range.1 hi)).2
     rw [flat_getA hk R len (fun i hi => hf _ (hR i hi).2) j hj] at hv
     have hdm : j / k < len := (Nat.div_lt_iff_lt_mul hk).2 hj
     have := (cells_some (hR (j / k) hdm).1).2 _ _ hv
     rw [Addr.add_mid, Addr.add_mid] at this
     rw [← this]
     congr 2
     have := Nat.div_add_mod j k
     rw [Nat.mul_comm] at this
     omega
end Go.Proofs.YtinndbipomlokaaGreat
namespace Go.Proofs.YtinndbipomlokaaGreat
open Go.ChangeShapes Go.WideShapes Go.ChangeAt Go.RowKit
open Sha Tal
set_option linter.unusedVariables false
set_option linter.constructorNameAsVariable false
instance : Inhabited Rc := ⟨Rc.zero 0⟩
set_option maxRecDepth 100000 in
theorem bytesD_of {H : Type} {enc : TypeId × Value → H} {W : World} {b : Nat} {sp : Nat → Bool} {held : Bool} {fuel : Nat} {l : List Value} {x : DataW H × List MemPlace}
  (h : DataW.trod enc Tryz.prog W b sp held fuel 36 l = some x) : ∃ (a : Option Addr) (cap : Nat) (zs : List Int), l = [.slice a zs.length cap] ∧ zs.length ≤ cap ∧ cap ≤ maxLen ∧ RowAt W a zs := by
 obtain ⟨a, cap, zs, h1, h2, h3, h4, h5⟩ := rows_of (fun z : Int => [Value.int .u8 z]) (fun z => 0 ≤ z ∧ z < 256) 1 (by omega) 36 5 Tryz.underlying36 (by kernel_rfl) (fun _ _ => rfl) (fun m l z hz => by
  obtain ⟨c, hc, rfl, hw⟩ := DataW.trod_int Tryz.underlying5 hz
  refine ⟨c, by simpa using hc, ?_⟩
  simp [Lit.wf, IntKind.min, IntKind.max, IntKind.signed, IntKind.bits] at hw
  omega) h
 refine ⟨a, cap, zs, h1, h2, h3, by omega, h4, ?_⟩
 rcases h5 with h5 | ⟨b, off, rfl, h6, h7⟩
 ·exact .inl h5
 ·refine .inr ⟨b, off, rfl, h6, ?_⟩
  have e : ∀ ys : List Int, ys.flatMap (fun z : Int => [Value.int .u8 z]) = v8 ys := fun ys => by
   induction ys with
   | nil => rfl
   | cons z ys ih => rw [List.flatMap_cons, ih]; rfl
  rwa [e] at h7
set_option maxRecDepth 100000 in
theorem open_bytesK {H : Type} {enc : TypeId × Value → H} {W : World} {base b : Nat} {sp : Nat → Bool} {held : Bool} {fuel : Nat} {v : Value} {x : DataW H × List MemPlace} (hv : Value.okWide Tryz.prog W .any base 36 v)
  (h : DataW.trod enc Tryz.prog W b sp held fuel 36 v.cells.toList = some x) : ∃ (a : Option Addr) (cap : Nat) (zs : List Int), v = .slice a zs.length cap ∧ zs.length ≤ cap ∧ cap ≤ maxLen ∧ RowAt W a zs := by
 obtain ⟨a0, len, cap, rfl⟩ := okWide_slice Tryz.underlying36 hv
 obtain ⟨a, cap', ys, h1, h2, h3, h4⟩ := bytesD_of h
 simp [Value.cells] at h1
 obtain ⟨rfl, rfl, rfl⟩ := h1
 exact ⟨a0, cap, ys, rfl, h2, h3, h4⟩
end Go.Proofs.YtinndbipomlokaaGreat
namespace Go.Proofs.YtinndbipomlokaaGreat.recordDecodes
open Go.ChangeShapes Go.WideShapes Go.ChangeAt Go.RowKit
open Go.ChangeMaps (open_string shut_string)
set_option linter.unusedVariables false
set_option maxRecDepth 100000 in
theorem lifted (os : Os) (started : os.Started) (H : Type) (enc : TypeId × Value → H) :
  ReturnsInHanded {} Tryz.checked os 4 .any (Rows.recordDecodesSpec.pre6 enc Tryz.prog Tryz.f4 Rows.recordDecodesRow.domain false) (Rows.recordDecodesSpec.post enc Tryz.prog Tryz.f4 false true false false) := by
 refine returnsInHanded_of_change (C := Tryz.checked) own started (by kernel_rfl) Tryz.func4
  (ChangeSpec.witness6 (enc := enc) (C := Tryz.checked) false ⟨#[], #[.slice none 0 0], []⟩ 8 (by kernel_rfl) (by kernel_rfl) (by kernel_rfl) (by kernel_rfl)) ?_
 intro W base args ds gs before hval0 hW hcnd _
 have hval : ∀ (j : Nat) t v, Tryz.f4.params[j]? = some t → args[j]? = some v → Value.okWide Tryz.prog W .any base t v := hval0
 have hW' := hW
 obtain ⟨p, q, hA0, hV, rfl, hfz, hnd⟩ := hW
 have hA : DataW.TrodAll enc Tryz.prog W 0 (fun _ => true) true Tryz.f4.params.toList args.toList ds p := hA0
 rw [Tryz.params4] at hA hval
 obtain ⟨v0, vs0, d0, ds0, p0, q0, hargs, rfl, rfl, h0, r0⟩ := trodAll_cons hA
 obtain ⟨rfl, rfl, rfl⟩ := trodAll_nil r0
 obtain rfl : args = #[v0] := by cases args; simp_all
 obtain ⟨rfl, rfl⟩ := trodVars_none hV
 have k0 := h0
 have lt0 : ∀ x ∈ p0, x.block < W.heap.size := by obtain ⟨m, hm⟩ := k0; exact DataW.trod_lt m _ _ _ hm
 obtain ⟨fuel0, hf0⟩ := h0
 obtain ⟨al0, cl0, zs0, rfl, le0, lm0, row0⟩ := open_bytesK (hval 0 36 v0 rfl rfl) hf0
 clear hA0 hval0
 refine (decodes_walk al0 cl0 zs0 W row0).mono fun e W' ⟨he, bel⟩ => ?_
 subst he
 exact ⟨_, rfl, _, _, _, [], _, [], hW', trodAll_mk1 (shut_bool Tryz.underlying4 _), (trodAll_cons_mk (Below.trod laidOut (by kernel_rfl) (of_decide_eq_true (by kernel_rfl)) k0 bel lt0) trodAll_mk0), rfl, bel.frame _, fun h => by cases h⟩
theorem over : Rows.recordDecodesRow.holds Tryz.pinned (OpenSpec.ofChange Rows.recordDecodesSpec) :=
 OpenClaim.holds_of_wide 4 Tryz.f4 rfl rfl rfl rfl rfl rfl rfl ⟨rfl, rfl, rfl, rfl, rfl⟩ rfl rfl rfl rfl rfl (by kernel_rfl) Tryz.func4 (by kernel_rfl)
  (of_decide_eq_true (by kernel_rfl)) (by unfold Func.isWrapper; first | (rw [if_pos (by decide +kernel)]; kernel_rfl) | (rw [if_neg (by decide +kernel)]; exact ⟨rfl, rfl⟩))
  (fun os started H enc _ => lifted os started H enc)
end Go.Proofs.YtinndbipomlokaaGreat.recordDecodes
namespace Go.Proofs.YtinndbipomlokaaGreat
theorem recordDecodes_holds : Rows.RecordDecodesSaid := recordDecodes.over
#print axioms recordDecodes_holds
end Go.Proofs.YtinndbipomlokaaGreat
