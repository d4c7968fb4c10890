/- claims of certs, of messages; the tags of a message, but for its news; the document: claims of batches, of certs; the document: the tags of a message, but for i -/
import Derived.Test.YtcbpbkefggekmaaGreatDoorJB0
import Derived.Test.YtcbpbkefggekmaaGreatDoorJB11
import Derived.Deep.DeepCutAuto
import Derived.Test.YtcbpbkefggekmaaGreatDoorJB8
import Derived.Test.YtcbpbkefggekmaaGreatDoorJB9
import Derived.Test.YtcbpbkefggekmaaGreatDoorJB10
import Derived.Test.YtcbpbkefggekmaaGreatDoorJB3
import Derived.Test.YtcbpbkefggekmaaGreatDoorJB7
import Derived.Test.YtcbpbkefggekmaaGreatDoorJB5
import Derived.Deep.Cut
namespace Go.Proofs.YtcbpbkefggekmaaGreatDoor
open Go.RowKit
open Sha Tal
set_option linter.unusedVariables false
set_option linter.unusedSimpArgs false
theorem HdsAt.grow {w w' : World} {O : Nat} {v v' : Value} {x : Sl Hd} (h : HdsAt w x) (k : Grow w w' O v v') (hb : x.Bk (Clr O v)) (hb2 : ∀ y ∈ x.xs, y.Bk (Clr O v)) : HdsAt w' x :=
 ⟨h.1.grow k hb, fun y hy => ⟨(h.2 y hy).1.grow k (hb2 y hy).1, (h.2 y hy).2.grow k (hb2 y hy).2⟩⟩
theorem Mg.At.grow {m : Mg} {w w' : World} {O : Nat} {v v' : Value} (h : m.At w) (k : Grow w w' O v v') (hb : m.Bk (Clr O v)) : m.At w' :=
 ⟨h.rs.grow k hb.1, h.he.grow k hb.2.1 hb.2.2.1, h.ne.grow k hb.2.2.2.1, h.cs.grow k hb.2.2.2.2.1, h.sg.grow k hb.2.2.2.2.2⟩
theorem Mg.Bk.grow {m : Mg} {w w' : World} {O : Nat} {v v' : Value} (h : m.At w) (k : Grow w w' O v v') (hb : m.Bk (Clr O v)) : m.Bk (Clr O v') :=
 ⟨hb.1.grow h.rs k, hb.2.1.grow h.he.1 k, fun y hy => ⟨(hb.2.2.1 y hy).1.grow (h.he.2 y hy).1 k, (hb.2.2.1 y hy).2.grow (h.he.2 y hy).2 k⟩, hb.2.2.2.1.grow h.ne k, hb.2.2.2.2.1.grow h.cs k, hb.2.2.2.2.2.grow h.sg k⟩
def hdC (N : Int) (h : Hp) : List Ev := batC N h.rs ++ cerC h.vt h.sg
def heC (N : Int) (hs : List Hp) : List Ev := hs.flatMap (hdC N)
def ownC (N : Int) (m : Mp) : List Ev := batC N m.rs ++ cerC m.ct m.cs ++ heC N m.he ++ sgC m.sg
theorem heC_succ {N : Int} {hs : List Hp} {k : Nat} (hk : k < hs.length) : heC N (hs.take (k + 1)) = heC N (hs.take k) ++ hdC N hs[k] := by
 have e : hs.take (k + 1) = hs.take k ++ [hs[k]] := by rw [List.take_add_one, List.getElem?_eq_getElem hk]; rfl
 unfold heC
 rw [e, List.flatMap_append]
 simp
theorem heC_le (N : Int) (hs : List Hp) (k : Nat) : (heC N (hs.take k)).length ≤ (heC N hs).length := by
 have : heC N hs = heC N (hs.take k) ++ heC N (hs.drop k) := by
  unfold heC
  rw [← List.flatMap_append, List.take_append_drop]
 rw [this, List.length_append]
 omega
theorem batC_len (N : Int) (rs : List Rq) : (batC N rs).length = rs.length := by simp [batC]
theorem cerC_len (v : Vt) (ss : List Sg) : (cerC v ss).length = ss.length := by simp [cerC]
theorem sgC_len (ss : List Sg) : (sgC ss).length = ss.length := by simp [sgC]
theorem zeroSg17 (w : World) : (zeroValue 133).run Tryz.prog w = .ok (.agg ([Value.int .i64 0] ++ v8 (List.replicate 16 0)).toArray) w := zeroSgE w
set_option maxRecDepth 100000 in
set_option maxHeartbeats 1000000 in
theorem cclaims_any (vt : Vt) (x : Sl Sg) (O : Nat) (v : Value) (cs : List Ev) (w : World) (h : OutC w O v cs) (hvt : vt.ok) (hx : x.At SgE w) (hc : x.Bk (Clr O v)) (hn : cs.length + x.xs.length ≤ 1000000000) :
  Calls Tryz.prog 81 #[.agg (certL vt x).toArray, addV O] w fun en w' => en = .returned (.tuple #[]) ∧ ∃ v', OutC w' O v' (cs ++ cerC vt x.xs) ∧ Grow w w' O v v' := by
 obtain ⟨z17, hzl, hzr⟩ : ∃ z : List Value, z.length = 17 ∧ (∀ w : World, (zeroValue 133).run Tryz.prog w = .ok (.agg z.toArray) w) := ⟨_, rfl, zeroSg17⟩
 have ca := fun w0 vk ds e he h0 hl => cadd_any O vk ds e w0 h0 he hl
 have cv := fun w0 => vote13_any vt hvt w0
 have hvl := hvt.len
 obtain ⟨B1, r1, s1⟩ := boxed_new w (certL vt x) 50
 have r1v : (w.alloc (.cells (certL vt x).toArray 50)).rangeAt w.heap.size 0 vt.cells := range_left r1
 have pr : (w.alloc (.cells (certL vt x).toArray 50)).cell? ⟨w.heap.size, 36, none⟩ = some x.val := by
  have := range_right r1 0 _ rfl
  simpa [hvl] using this
 have HC0 : CI w (w.alloc (.cells (certL vt x).toArray 50)) O v v cs := ⟨h.below B1, Grow.of B1 _ _⟩
 have iv : (Tryz.prog.info? 43).map (·.size) = some vt.cells.length := by rw [hvl]; kernel_rfl
 obtain ⟨bv, hbv⟩ : ∃ b, Hid (optS vt.may (voteL vt) = b) := ⟨_, hide rfl⟩
 simp only [hbv.out] at cv
 obtain ⟨xa, xc, xs⟩ := x
 obtain ⟨n, hxn⟩ : ∃ n, xs.length = n := ⟨_, rfl⟩
 have hval : (Sl.mk xa xc xs).val = .slice xa n xc := by unfold Sl.val; rw [← hxn]
 have hn : cs.length + xs.length ≤ 1000000000 := hn
 rw [hval] at pr
 obtain ⟨q, hq⟩ : ∃ q, Hid (certL vt ⟨xa, xc, xs⟩ = q) := ⟨_, hide rfl⟩
 rw [hq.out] at B1 pr s1 HC0 r1v ⊢
 obtain ⟨vc, hvc⟩ : ∃ q, Hid (vt.cells = q) := ⟨_, hide rfl⟩
 rw [hvc.out] at iv r1v
 simp only [hvc.out] at cv
 clear hval r1 hvl hq hvc
 have HN := hide hxn
 have HXX : Hid (Sl.At SgE w ⟨xa, xc, xs⟩) := hide hx
 have HCC := hide hc
 have HNN := hide hn
 have HVT := hide hvt
 clear hx hc hn hxn h hvt
 go_enter Tryz.func81, Tryz.ntmps81
 go_upto_region 1 with fail
 go_name_world W hW
 rw [show w.alloc (.cells q.toArray 50) = W from hW] at B1 pr s1 HC0 r1v
 clear hW
 try simp only [Act.put]
 refine pl_begin ?_
 refine pl_t 7 (?_) (by rfl) ?_ rfl ?_
 rotate_left
 ·go_simp
  try with_reducible rfl
 simp only [nz]
 refine pl_t 8 (.agg vc.toArray) (by rfl) (ex_mid rfl rfl r1v Tryz.underlying43 rfl iv) rfl ?_
 simp only [nz]
 refine pl_call (d := some 9) (by rfl) (by go_simp; first | done | exact ⟨rfl, rfl⟩ | with_reducible rfl) rfl ?_
 refine (cv W).mono ?_
 rintro _ w1 ⟨rfl, hb1⟩
 refine ⟨_, rfl, ?_⟩
 simp only [nz]
 refine pl_t 4 (?_) (by rfl) ?_ rfl ?_
 rotate_left
 ·go_simp
  try with_reducible rfl
 simp only [nz]
 refine pl_nil ?_
 have pr := (hb1.cell (p := ⟨w.heap.size, 36, none⟩) s1).trans pr
 have HC1 := hide (HC0.later hb1)
 clear HC0 r1v cv iv hb1 B1
 go_upto_region 2 with fail
 try simp only [Act.put]
 refine pl_begin ?_
 refine pl_t 10 (?_) (by rfl) ?_ rfl ?_
 rotate_left
 ·go_simp
  try with_reducible rfl
 simp only [nz]
 refine pl_t 11 (.slice xa n xc) (by rfl) (pl_one rfl rfl pr Tryz.underlying48 rfl) rfl ?_
 simp only [nz]
 refine pl_t 12 (?_) (by rfl) ?_ rfl ?_
 rotate_left
 ·go_simp
  try with_reducible rfl
 simp only [nz]
 refine pl_t 13 (?_) (by rfl) ?_ rfl ?_
 rotate_left
 ·go_simp
  try with_reducible rfl
 simp only [nz]
 refine pl_nil ?_
 clear pr s1
 have HC1 : Hid (CI w w1 O v v (cs ++ (cerC vt xs).take 0)) := hide (by rw [List.take_zero, List.append_nil]; exact HC1.out)
 unfold addV
 go_wp2_with fail
 go_loopw [13] (fun iv wr => ∃ (k : Nat) (vk : Value), k ≤ n ∧ iv = .int .i64 (k : Int) ∧ Hid (CI w wr O v vk (cs ++ (cerC vt xs).take k))) (fun iv _ => n - (intOf iv).toNat)
 case atStart => exact ⟨0, v, by omega, rfl, HC1⟩
 case round =>
  clear HC1
  obtain ⟨k, vk, hk, rfl, HK⟩ := hrel
  by_cases hlt : k < n
  ·have k1 : (k : Int) < n := by omega
   have hn9 : n ≤ 1000000000 := by have h1 := HNN.out; have h2 := HN.out; omega
   have hkx : k < xs.length := by rw [HN.out]; exact hlt
   obtain ⟨b, off, hab, hbw, hre⟩ := (HXX.out.grow HK.out.grow HCC.out).elem k hkx
   have hab : xa = some ⟨b, off, none⟩ := hab
   have hre : wr.rangeAt b (off + k * 17) (SgE.f xs[k]) := hre
   have okx : Sg.ok xs[k] := HXX.out.2.1 _ (List.getElem_mem hkx)
   have HT : Hid ((cerC vt xs).take (k + 1) = (cerC vt xs).take k ++ [⟨(xs[k]).n, optS vt.may (voteL vt), (xs[k]).t⟩]) := hide (take_succ_map hkx)
   have HL : (cs ++ (cerC vt xs).take k).length ≤ 1000000000 := by have := HNN.out; simp only [List.length_append, List.length_take]; omega
   obtain ⟨g, hg⟩ : ∃ g, xs[k] = g := ⟨_, rfl⟩
   rw [hg] at hre okx HT
   clear hg
   have hok : Ev.ok ⟨g.n, optS vt.may (voteL vt), g.t⟩ := cerC_ok HVT.out okx
   have ca := fun w0 vk ds h0 hl => ca w0 vk ds _ hok h0 hl
   have hut : SgE.f g = .int .i64 g.n :: v8 g.t := rfl
   have it16 : (Tryz.prog.info? 23).map (·.size) = some (v8 g.t).length := by rw [v8_length, okx.tl]; exact iszT
   have iu : (Tryz.prog.info? 133).map (·.size) = some (SgE.f g).length := by rw [SgE.len g okx]; kernel_rfl
   have hul : (SgE.f g).length = 17 := SgE.len g okx
   have hu1 := SgE.one g
   obtain ⟨id, hid⟩ : ∃ i, g.n = i := ⟨_, rfl⟩
   have hbd := hbv
   obtain ⟨tg, htg⟩ : ∃ t, g.t = t := ⟨_, rfl⟩
   rw [hid, htg] at HT
   rw [hid] at hut
   rw [hbd.out] at HT
   rw [htg] at hut it16
   simp only [hid, hbd.out, htg] at ca
   clear hbd
   clear okx hok htg hid
   obtain ⟨u, hu⟩ : ∃ u, Hid (SgE.f g = u) := ⟨_, hide rfl⟩
   rw [hu.out] at hre iu hul hu1 hut
   clear hu
   rw [hab]
   go_upto_region 4 with fail
   obtain ⟨r5, hF, hF3, -⟩ := fresh_store wr z17.toArray 133 u (by simp [hzl, hul])
   try simp only [Act.put]
   refine pl_begin ?_
   refine pl_t 15 (?_) (by rfl) ?_ rfl ?_
   rotate_left
   ·go_simp
    try with_reducible rfl
   simp only [nz]
   refine pl_t 16 (.agg u.toArray) (by rfl) (ex_mid rfl rfl hre Tryz.underlying133 rfl iu) rfl ?_
   simp only [nz]
   refine pl_run (d := some 6) (v := .pointer (some ⟨wr.heap.size, 0, none⟩)) (w' := wr.alloc (.cells z17.toArray 133)) (by rfl) (ex_alloc rfl (hzr _)) rfl ?_
   simp only [nz]
   refine pl_store (w' := (wr.alloc (.cells z17.toArray 133)).setCells wr.heap.size 0 u) (by rfl) (ex_put (cs := u.toArray) rfl rfl rfl (there_newN _ _ _ (by simp [hzl, hul])) (by simpa using iu) (all_one hu1)) rfl ?_
   refine pl_nil ?_
   have HC := HK.out.later hF
   clear HK
   obtain ⟨X, hX⟩ : ∃ X, wr.heap.size = X := ⟨_, rfl⟩
   simp only [hX] at r5 HC hF3 ⊢
   obtain ⟨w5, hw5⟩ : ∃ W, (wr.alloc (.cells z17.toArray 133)).setCells X 0 u = W := ⟨_, rfl⟩
   rw [hw5] at r5 HC hF3 ⊢
   have sX : X < w5.heap.size := by omega
   clear hw5 hX hF hF3 hre hab
   have c0 : w5.cell? ⟨X, 0, none⟩ = some (.int .i64 id) := by simpa using r5 0 _ (by rw [hut]; rfl)
   have ct : w5.rangeAt X 1 (v8 tg) := fun j y hy => by
    have := r5 (j + 1) y (by rw [hut]; exact hy)
    rw [show 0 + (j + 1) = 1 + j by omega] at this
    exact this
   clear r5
   go_upto_region 5 with fail
   try simp only [Act.put]
   refine pl_begin ?_
   refine pl_t 17 (?_) (by rfl) ?_ rfl ?_
   rotate_left
   ·go_simp
    try with_reducible rfl
   simp only [nz]
   refine pl_t 18 (?_) (by rfl) ?_ rfl ?_
   rotate_left
   ·go_simp
    try with_reducible rfl
   simp only [nz]
   refine pl_t 19 (.int .i64 id) (by rfl) (pl_one rfl rfl c0 Tryz.underlying3 rfl) rfl ?_
   simp only [nz]
   refine pl_t 20 (?_) (by rfl) ?_ rfl ?_
   rotate_left
   ·go_simp
    try with_reducible rfl
   simp only [nz]
   refine pl_t 21 (?_) (by rfl) ?_ rfl ?_
   rotate_left
   ·go_simp
    try with_reducible rfl
   simp only [nz]
   refine pl_t 22 (.agg (v8 tg).toArray) (by rfl) (ex_mid rfl rfl ct Tryz.underlying23 rfl it16) rfl ?_
   simp only [nz]
   refine pl_call (d := some 23) (by rfl) (by go_simp; first | done | exact ⟨rfl, rfl⟩ | with_reducible rfl) rfl ?_
   refine (ca w5 vk (cs ++ (cerC vt xs).take k) HC.out HL).mono ?_
   rintro _ wc ⟨rfl, v', ho', hg'⟩
   refine ⟨_, rfl, ?_⟩
   simp only [nz]
   refine pl_nil ?_
   have HD : Hid (CI w wc O v v' (cs ++ (cerC vt xs).take (k + 1))) := hide (by
    rw [HT.out, ← List.append_assoc]
    exact HC.add ho' hg')
   clear HC ho' hg' c0 ct ca HT iu it16 hul hu1 hut hzr hzl
   go_wp2_with fail
   go_roundw
   case rel => exact ⟨k + 1, v', by omega, by go_num, HD⟩
   case measure => simp [intOf]; omega
  ·obtain rfl : k = n := by omega
   have HE : Hid (OutC wr O vk (cs ++ cerC vt xs) ∧ Grow w wr O v vk) := hide (by
    have h1 := HK.out.out
    rw [List.take_of_length_le (by rw [cerC_len, HN.out]; exact Nat.le_refl _)] at h1
    exact ⟨h1, HK.out.grow⟩)
   clear HK ca hlt
   go_wp2_with fail
   go_end0
   exact ⟨rfl, vk, HE.out⟩
theorem pair_at {w : World} {b o : Nat} {x y : Value} (h0 : w.cell? ⟨b, o, none⟩ = some x) (h1 : w.cell? ⟨b, o + 1, none⟩ = some y) : w.rangeAt b o [x, y] := fun j u hu => by
 rcases j with _ | _ | j
 ·simp at hu; subst hu; exact h0
 ·simp at hu; subst hu; exact h1
 ·simp at hu
theorem iszBaV (q : Bool) (x : Value) : (Tryz.prog.info? 39).map (·.size) = some [Value.bool q, x].length := by kernel_rfl
theorem zeroHd39 : ∃ z : List Value, z.length = 39 ∧ (∀ w : World, (zeroValue 113).run Tryz.prog w = .ok (.agg z.toArray) w) := ⟨_, rfl, zeroHdE⟩
structure Small (m : Mg) : Prop where
 rs : ∀ r ∈ m.rs.xs, r.s.size ≤ 100000
 he : ∀ h ∈ m.he.xs, ∀ r ∈ h.rs.xs, r.s.size ≤ 100000
theorem ownC_len (N : Int) (m : Mg) : (ownC N m.pure).length = m.rs.xs.length + m.cs.xs.length + (heC N (m.he.xs.map Hd.pure)).length + m.sg.xs.length := by
 unfold ownC
 simp only [List.length_append, batC_len, cerC_len, sgC_len]
 rfl
set_option maxRecDepth 100000 in
set_option maxHeartbeats 2000000 in
theorem oclaims_any (N : Int) (m : Mg) (O : Nat) (v : Value) (cs : List Ev) (w : World) (h : OutC w O v cs) (mo : m.ok) (ma0 : m.At w) (mb : m.Bk (Clr O v)) (hn : cs.length + (ownC N m.pure).length ≤ 1000000000) (hsm : Small m) :
  Calls Tryz.prog 53 #[.int .i64 N, .agg m.ms.cells.toArray, addV O] w fun en w' => en = .returned (.tuple #[]) ∧ ∃ v', OutC w' O v' (cs ++ ownC N m.pure) ∧ Grow w w' O v v' := by
 obtain ⟨z39, hzl, hzr⟩ := zeroHd39
 obtain ⟨z17, hsl, hsr⟩ : ∃ z : List Value, z.length = 17 ∧ (∀ w : World, (zeroValue 133).run Tryz.prog w = .ok (.agg z.toArray) w) := ⟨_, rfl, zeroSg17⟩
 have ca := fun w0 vk ds e he h0 hl => cadd_any O vk ds e w0 h0 he hl
 rw [ownC_len] at hn
 have HN := hide hn
 obtain ⟨B1, r1, sA⟩ := boxed_new w m.ms.cells 52
 have MA : m.ms.at (w.alloc (.cells m.ms.cells.toArray 52)) w.heap.size := mo.ms.at r1
 have HC0 : CI (w.alloc (.cells m.ms.cells.toArray 52)) (w.alloc (.cells m.ms.cells.toArray 52)) O v v cs := ⟨h.below B1, Grow.refl _ _ _⟩
 have ma := ma0.below B1
 have hcA : Clr O v w.heap.size := ⟨by have := h.lt; omega, fun e => by have := (h.own.lt _ e).2; omega⟩
 have iC : (Tryz.prog.info? 50).map (·.size) = some (certL m.ct m.cs).length := by unfold certL; rw [List.length_append, mo.ct.len]; kernel_rfl
 have HB1 := hide (Grow.of B1 O v)
 have rB : (w.alloc (.cells m.ms.cells.toArray 52)).rangeAt w.heap.size 5 [.bool m.q, m.rs.val] := pair_at MA.q MA.rs
 have rC0 : (w.alloc (.cells m.ms.cells.toArray 52)).rangeAt w.heap.size 80 (certL m.ct m.cs) := MA.ct
 have pH0 : (w.alloc (.cells m.ms.cells.toArray 52)).cell? ⟨w.heap.size, 46, none⟩ = some m.he.val := MA.he
 have pS0 : (w.alloc (.cells m.ms.cells.toArray 52)).cell? ⟨w.heap.size, 118, none⟩ = some m.sg.val := MA.sg
 clear MA r1 ma0 h hn B1
 obtain ⟨q, hq⟩ : ∃ q, m.ms.cells = q := ⟨_, rfl⟩
 rw [hq] at sA HC0 ma HB1 rB rC0 pH0 pS0
 rw [hq]
 clear hq
 go_enter Tryz.func53, Tryz.ntmps53
 go_upto_region 1 with fail
 obtain ⟨W, hW⟩ : ∃ W, w.alloc (.cells q.toArray 52) = W := ⟨_, rfl⟩
 rw [hW] at sA HC0 ma HB1 rB rC0 pH0 pS0 ⊢
 clear hW
 obtain ⟨A, hA⟩ : ∃ A, w.heap.size = A := ⟨_, rfl⟩
 rw [hA] at sA hcA rB rC0 pH0 pS0
 simp only [hA]
 clear hA
 try simp only [Act.put]
 refine pl_begin ?_
 refine pl_t 10 (?_) (by rfl) ?_ rfl ?_
 rotate_left
 ·go_simp
  try with_reducible rfl
 simp only [nz]
 refine pl_t 11 (?_) (by rfl) ?_ rfl ?_
 rotate_left
 ·go_simp
  try with_reducible rfl
 simp only [nz]
 refine pl_t 12 (.agg #[.bool m.q, m.rs.val]) (by rfl) (ex_mid (cs := [.bool m.q, m.rs.val]) rfl rfl rB Tryz.underlying39 rfl (iszBaV _ _)) rfl ?_
 simp only [nz]
 refine pl_t 13 (?_) (by rfl) ?_ rfl ?_
 rotate_left
 ·go_simp
  try with_reducible rfl
 simp only [nz]
 refine pl_call (d := some 14) (by rfl) (by go_simp; first | done | exact ⟨rfl, rfl⟩ | with_reducible rfl) rfl ?_
 refine (bclaims_any N m.q m.rs O v cs W HC0.out ma.rs mb.1 (by have := HN.out; omega) hsm.rs).mono ?_
 rintro _ w1 ⟨rfl, v1, o1, g1⟩
 refine ⟨_, rfl, ?_⟩
 simp only [nz]
 refine pl_nil ?_
 have HC1 := HC0.add o1 g1
 have rC := HC1.grow.range sA hcA rC0
 clear rB o1 g1 HC0
 go_upto_region 2 with fail
 try simp only [Act.put]
 refine pl_begin ?_
 refine pl_t 15 (?_) (by rfl) ?_ rfl ?_
 rotate_left
 ·go_simp
  try with_reducible rfl
 simp only [nz]
 refine pl_t 16 (.agg (certL m.ct m.cs).toArray) (by rfl) (ex_mid rfl rfl rC Tryz.underlying50 rfl iC) rfl ?_
 simp only [nz]
 refine pl_t 17 (?_) (by rfl) ?_ rfl ?_
 rotate_left
 ·go_simp
  try with_reducible rfl
 simp only [nz]
 refine pl_call (d := some 18) (by rfl) (by go_simp; first | done | exact ⟨rfl, rfl⟩ | with_reducible rfl) rfl ?_
 refine (cclaims_any m.ct m.cs O v1 _ w1 HC1.out mo.ct (ma.cs.grow HC1.grow mb.2.2.2.2.1) (mb.2.2.2.2.1.grow ma.cs HC1.grow) (by have := HN.out; rw [List.length_append, batC_len]; omega)).mono ?_
 rintro _ w2 ⟨rfl, v2, o2, g2⟩
 refine ⟨_, rfl, ?_⟩
 simp only [nz]
 refine pl_nil ?_
 have HC2 := HC1.add o2 g2
 have pH := (cell_block (j := 46) (HC2.grow.keep sA hcA).1).1.trans pH0
 obtain ⟨C2, hC2⟩ : ∃ C, Hid (cs ++ batC N m.rs.xs ++ cerC m.ct m.cs.xs = C) := ⟨_, hide rfl⟩
 rw [hC2.out] at HC2
 have hC2l : C2.length = cs.length + m.rs.xs.length + m.cs.xs.length := by rw [← hC2.out]; simp only [List.length_append, batC_len, cerC_len]
 clear rC rC0 pH0 o2 g2 HC1 iC
 obtain ⟨⟨ha, hc, hs⟩, hhe⟩ : ∃ x, m.he = x := ⟨_, rfl⟩
 obtain ⟨hl, hhl⟩ : ∃ n, hs.length = n := ⟨_, rfl⟩
 have hval : (m.he).val = .slice ha hl hc := by rw [hhe]; unfold Sl.val; rw [← hhl]
 rw [hval] at pH
 clear hval
 have HH := hide hhe
 have HL2 : Hid (hs.length = hl) := hide hhl
 have HA := hide ma
 have HB := hide mb
 clear hhe hhl ma
 go_upto_region 3 with fail
 try simp only [Act.put]
 refine pl_begin ?_
 refine pl_t 19 (?_) (by rfl) ?_ rfl ?_
 rotate_left
 ·go_simp
  try with_reducible rfl
 simp only [nz]
 refine pl_t 20 (?_) (by rfl) ?_ rfl ?_
 rotate_left
 ·go_simp
  try with_reducible rfl
 simp only [nz]
 refine pl_t 21 (.slice ha hl hc) (by rfl) (pl_one rfl rfl pH Tryz.underlying44 rfl) rfl ?_
 simp only [nz]
 refine pl_t 22 (?_) (by rfl) ?_ rfl ?_
 rotate_left
 ·go_simp
  try with_reducible rfl
 simp only [nz]
 refine pl_t 23 (?_) (by rfl) ?_ rfl ?_
 rotate_left
 ·go_simp
  try with_reducible rfl
 simp only [nz]
 refine pl_nil ?_
 have HC3 : Hid (CI W w2 O v v2 (C2 ++ heC N ((hs.map Hd.pure).take 0))) := hide (by simpa [heC] using HC2)
 clear HC2 pH
 unfold addV
 go_wp2_with fail
 go_loopw [23] (fun iv wr => ∃ (k : Nat) (vk : Value), k ≤ hl ∧ iv = .int .i64 (k : Int) ∧ Hid (CI W wr O v vk (C2 ++ heC N ((hs.map Hd.pure).take k)))) (fun iv _ => hl - (intOf iv).toNat)
 case atStart => exact ⟨0, v2, by omega, rfl, HC3⟩
 case round =>
  clear HC3
  obtain ⟨k, vk, hk, rfl, HK⟩ := hrel
  by_cases hlt : k < hl
  ·have k1 : (k : Int) < hl := by omega
   have hl9 : hl ≤ 9223372036854775807 := by
    have h1 := HA.out.he.1.1
    rw [HH.out] at h1
    have h2 : hs.length ≤ maxLen := h1
    rw [HL2.out] at h2
    unfold maxLen at h2
    omega
   have hkx : k < hs.length := by rw [HL2.out]; exact hlt
   have hat : HdsAt wr ⟨ha, hc, hs⟩ := by
    have := HA.out.he.grow HK.out.grow HB.out.2.1 HB.out.2.2.1
    rw [HH.out] at this
    exact this
   obtain ⟨b, off, hab, hbw, hre⟩ := hat.1.elem k hkx
   have hab : ha = some ⟨b, off, none⟩ := hab
   have hre : wr.rangeAt b (off + k * 39) (HdE.f hs[k]) := hre
   have hmem : hs[k] ∈ m.he.xs := by rw [HH.out]; exact List.getElem_mem hkx
   have gat := hat.2 _ (List.getElem_mem hkx)
   have gbk0 := HB.out.2.2.1 _ hmem
   have gat0 := HA.out.he.2 _ hmem
   have gbk : (hs[k]).Bk (Clr O vk) := ⟨gbk0.1.grow gat0.1 HK.out.grow, gbk0.2.grow gat0.2 HK.out.grow⟩
   have gsm := hsm.he _ hmem
   have okx : Vt.ok (hs[k]).vt := hat.1.2.1 _ (List.getElem_mem hkx)
   have HT : Hid (heC N ((hs.map Hd.pure).take (k + 1)) = heC N ((hs.map Hd.pure).take k) ++ (batC N (hs[k]).rs.xs ++ cerC (hs[k]).vt (hs[k]).sg.xs)) := hide (by
    rw [heC_succ (by simpa using hkx)]
    simp [hdC, Hd.pure])
   have HL : Hid ((C2 ++ heC N ((hs.map Hd.pure).take k)).length + (hs[k]).rs.xs.length + (hs[k]).sg.xs.length ≤ 1000000000) := hide (by
    have h1 := heC_le N (hs.map Hd.pure) (k + 1)
    rw [HT.out] at h1
    simp only [List.length_append, batC_len, cerC_len] at h1 ⊢
    have h2 := HN.out
    rw [HH.out] at h2
    simp only at h2
    omega)
   clear hat gbk0 gat0
   obtain ⟨g, hg⟩ : ∃ g, hs[k] = g := ⟨_, rfl⟩
   rw [hg] at hre gat gbk gsm okx HT HL
   clear hg hmem
   have gvt := okx
   have hul : (HdE.f g).length = 39 := HdE.len g okx
   have iu : (Tryz.prog.info? 113).map (·.size) = some (HdE.f g).length := by rw [hul]; kernel_rfl
   have hu1 := HdE.one g
   have hgf : HdE.f g = .bool g.q :: g.rs.val :: certL g.vt g.sg := rfl
   have iG : (Tryz.prog.info? 50).map (·.size) = some (certL g.vt g.sg).length := by unfold certL; rw [List.length_append, okx.len]; kernel_rfl
   obtain ⟨u, hu⟩ : ∃ u, Hid (HdE.f g = u) := ⟨_, hide rfl⟩
   rw [hu.out] at hre hul iu hu1 hgf
   clear hu okx
   rw [hab]
   go_upto_region 5 with fail
   obtain ⟨r5, hF, hF3, -⟩ := fresh_store wr z39.toArray 113 u (by simp [hzl, hul])
   try simp only [Act.put]
   refine pl_begin ?_
   refine pl_t 25 (?_) (by rfl) ?_ rfl ?_
   rotate_left
   ·go_simp
    try with_reducible rfl
   simp only [nz]
   refine pl_t 26 (.agg u.toArray) (by rfl) (ex_mid rfl rfl hre Tryz.underlying113 rfl iu) rfl ?_
   simp only [nz]
   refine pl_run (d := some 7) (v := .pointer (some ⟨wr.heap.size, 0, none⟩)) (w' := wr.alloc (.cells z39.toArray 113)) (by rfl) (ex_alloc rfl (hzr _)) rfl ?_
   simp only [nz]
   refine pl_store (w' := (wr.alloc (.cells z39.toArray 113)).setCells wr.heap.size 0 u) (by rfl) (ex_put (cs := u.toArray) rfl rfl rfl (there_newN _ _ _ (by simp [hzl, hul])) (by simpa using iu) (all_one hu1)) rfl ?_
   refine pl_nil ?_
   have HC := HK.out.later hF
   have HX := clr_new HK.out (Nat.le_refl _)
   have gat := gat.below hF
   clear HK
   obtain ⟨X, hX⟩ : ∃ X, wr.heap.size = X := ⟨_, rfl⟩
   simp only [hX] at r5 HC HX hF3 gat ⊢
   obtain ⟨w5, hw5⟩ : ∃ W, (wr.alloc (.cells z39.toArray 113)).setCells X 0 u = W := ⟨_, rfl⟩
   rw [hw5] at r5 HC hF3 gat ⊢
   have sX : X < w5.heap.size := by omega
   clear hw5 hX hF hF3 hre hab
   have rB : w5.rangeAt X 0 [.bool g.q, g.rs.val] := pair_at (by simpa using r5 0 _ (by rw [hgf]; rfl)) (by simpa using r5 1 _ (by rw [hgf]; rfl))
   have rC0 : w5.rangeAt X 2 (certL g.vt g.sg) := fun j y hy => by
    have := r5 (j + 2) y (by rw [hgf]; exact hy)
    rw [show 0 + (j + 2) = 2 + j by omega] at this
    exact this
   clear r5
   go_upto_region 6 with fail
   try simp only [Act.put]
   refine pl_begin ?_
   refine pl_t 27 (?_) (by rfl) ?_ rfl ?_
   rotate_left
   ·go_simp
    try with_reducible rfl
   simp only [nz]
   refine pl_t 28 (?_) (by rfl) ?_ rfl ?_
   rotate_left
   ·go_simp
    try with_reducible rfl
   simp only [nz]
   refine pl_t 29 (.agg #[.bool g.q, g.rs.val]) (by rfl) (ex_mid (cs := [.bool g.q, g.rs.val]) rfl rfl rB Tryz.underlying39 rfl (iszBaV _ _)) rfl ?_
   simp only [nz]
   refine pl_t 30 (?_) (by rfl) ?_ rfl ?_
   rotate_left
   ·go_simp
    try with_reducible rfl
   simp only [nz]
   refine pl_call (d := some 31) (by rfl) (by go_simp; first | done | exact ⟨rfl, rfl⟩ | with_reducible rfl) rfl ?_
   refine (bclaims_any N g.q g.rs O vk _ w5 HC.out gat.1 gbk.1 (by have := HL.out; omega) gsm).mono ?_
   rintro _ w6 ⟨rfl, v6, o6, g6⟩
   refine ⟨_, rfl, ?_⟩
   simp only [nz]
   refine pl_nil ?_
   have rC := g6.range sX HX rC0
   clear rB rC0
   go_upto_region 7 with fail
   try simp only [Act.put]
   refine pl_begin ?_
   refine pl_t 32 (?_) (by rfl) ?_ rfl ?_
   rotate_left
   ·go_simp
    try with_reducible rfl
   simp only [nz]
   refine pl_t 33 (.agg (certL g.vt g.sg).toArray) (by rfl) (ex_mid rfl rfl rC Tryz.underlying50 rfl iG) rfl ?_
   simp only [nz]
   refine pl_t 34 (?_) (by rfl) ?_ rfl ?_
   rotate_left
   ·go_simp
    try with_reducible rfl
   simp only [nz]
   refine pl_call (d := some 35) (by rfl) (by go_simp; first | done | exact ⟨rfl, rfl⟩ | with_reducible rfl) rfl ?_
   refine (cclaims_any g.vt g.sg O v6 _ w6 o6 gvt (gat.2.grow g6 gbk.2) (gbk.2.grow gat.2 g6) (by have := HL.out; rw [List.length_append, batC_len]; omega)).mono ?_
   rintro _ w7 ⟨rfl, v7, o7, g7⟩
   refine ⟨_, rfl, ?_⟩
   simp only [nz]
   refine pl_nil ?_
   have HD : Hid (CI W w7 O v v7 (C2 ++ heC N ((hs.map Hd.pure).take (k + 1)))) := hide (by
    rw [HT.out, ← List.append_assoc, ← List.append_assoc]
    exact (HC.add o6 g6).add o7 g7)
   clear HC o6 g6 o7 g7 rC HT HL iu iG hul hu1 hgf gat gbk gsm gvt hsl hsr hzl hzr pS0
   go_wp2_with fail
   go_roundw
   case rel => exact ⟨k + 1, v7, by omega, by go_num, HD⟩
   case measure => simp [intOf]; omega
  ·obtain rfl : k = hl := by omega
   have HC4 : CI W wr O v vk (C2 ++ heC N (hs.map Hd.pure)) := by
    have h1 := HK.out
    rw [List.take_of_length_le (by rw [List.length_map, HL2.out]; exact Nat.le_refl _)] at h1
    exact h1
   obtain ⟨C3, hC3⟩ : ∃ C, Hid (C2 ++ heC N (hs.map Hd.pure) = C) := ⟨_, hide rfl⟩
   rw [hC3.out] at HC4
   have pS := (cell_block (j := 118) (HC4.grow.keep sA hcA).1).1.trans pS0
   obtain ⟨⟨xa, xc, xs⟩, hsg⟩ : ∃ x, m.sg = x := ⟨_, rfl⟩
   obtain ⟨n, hxn⟩ : ∃ n, xs.length = n := ⟨_, rfl⟩
   have hval : (m.sg).val = .slice xa n xc := by rw [hsg]; unfold Sl.val; rw [← hxn]
   rw [hval] at pS
   have HNN : Hid (C3.length + xs.length ≤ 1000000000) := hide (by
    have h2 := HN.out
    rw [HH.out, hsg] at h2
    simp only at h2
    rw [← hC3.out]
    simp only [List.length_append]
    omega)
   have HXX : Hid (Sl.At SgE W ⟨xa, xc, xs⟩) := hide (by have := HA.out.sg; rw [hsg] at this; exact this)
   have HCC : Hid (Sl.Bk (Sl.mk xa xc xs) (Clr O v)) := hide (by have := HB.out.2.2.2.2.2; rw [hsg] at this; exact this)
   have HSG := hide hsg
   have HX3 := hide hxn
   have HN2 := HN
   clear HN hval hsg hxn HK hlt hk
   have HN := HX3
   go_upto_region 9 with fail
   try simp only [Act.put]
   refine pl_begin ?_
   refine pl_t 37 (?_) (by rfl) ?_ rfl ?_
   rotate_left
   ·go_simp
    try with_reducible rfl
   simp only [nz]
   refine pl_t 38 (.slice xa n xc) (by rfl) (pl_one rfl rfl pS Tryz.underlying48 rfl) rfl ?_
   simp only [nz]
   refine pl_t 39 (?_) (by rfl) ?_ rfl ?_
   rotate_left
   ·go_simp
    try with_reducible rfl
   simp only [nz]
   refine pl_t 40 (?_) (by rfl) ?_ rfl ?_
   rotate_left
   ·go_simp
    try with_reducible rfl
   simp only [nz]
   refine pl_nil ?_
   have HC5 : Hid (CI W wr O v vk (C3 ++ (sgC xs).take 0)) := hide (by rw [List.take_zero, List.append_nil]; exact HC4)
   clear pS HC4 pS0
   go_wp2_with fail
   go_loopw [40] (fun iv wr => ∃ (k : Nat) (vk : Value), k ≤ n ∧ iv = .int .i64 (k : Int) ∧ Hid (CI W wr O v vk (C3 ++ (sgC xs).take k))) (fun iv _ => n - (intOf iv).toNat)
   case atStart => exact ⟨0, vk, by omega, rfl, HC5⟩
   case round =>
    clear HC5
    obtain ⟨k, vk, hk, rfl, HK⟩ := hrel
    by_cases hlt : k < n
    ·have k1 : (k : Int) < n := by omega
     have hn9 : n ≤ 1000000000 := by have h1 := HNN.out; have h2 := HN.out; omega
     have hkx : k < xs.length := by rw [HN.out]; exact hlt
     obtain ⟨b, off, hab, hbw, hre⟩ := (HXX.out.grow HK.out.grow HCC.out).elem k hkx
     have hab : xa = some ⟨b, off, none⟩ := hab
     have hre : wr.rangeAt b (off + k * 17) (SgE.f xs[k]) := hre
     have okx : Sg.ok xs[k] := HXX.out.2.1 _ (List.getElem_mem hkx)
     have HT : Hid ((sgC xs).take (k + 1) = (sgC xs).take k ++ [⟨(xs[k]).n, (⟨#[]⟩ : ByteArray), (xs[k]).t⟩]) := hide (take_succ_map hkx)
     have HL : (C3 ++ (sgC xs).take k).length ≤ 1000000000 := by have := HNN.out; simp only [List.length_append, List.length_take]; omega
     obtain ⟨g, hg⟩ : ∃ g, xs[k] = g := ⟨_, rfl⟩
     rw [hg] at hre okx HT
     clear hg
     have hok : Ev.ok ⟨g.n, (⟨#[]⟩ : ByteArray), g.t⟩ := sgC_ok okx
     have ca := fun w0 vk ds h0 hl => ca w0 vk ds _ hok h0 hl
     have hut : SgE.f g = .int .i64 g.n :: v8 g.t := rfl
     have it16 : (Tryz.prog.info? 23).map (·.size) = some (v8 g.t).length := by rw [v8_length, okx.tl]; exact iszT
     have iu : (Tryz.prog.info? 133).map (·.size) = some (SgE.f g).length := by rw [SgE.len g okx]; kernel_rfl
     have hul : (SgE.f g).length = 17 := SgE.len g okx
     have hu1 := SgE.one g
     obtain ⟨id, hid⟩ : ∃ i, g.n = i := ⟨_, rfl⟩
     obtain ⟨tg, htg⟩ : ∃ t, g.t = t := ⟨_, rfl⟩
     rw [hid, htg] at HT
     rw [hid] at hut
     rw [htg] at hut it16
     simp only [hid, htg] at ca
     clear okx hok htg hid
     obtain ⟨u, hu⟩ : ∃ u, Hid (SgE.f g = u) := ⟨_, hide rfl⟩
     rw [hu.out] at hre iu hul hu1 hut
     clear hu
     rw [hab]
     go_upto_region 11 with fail
     obtain ⟨r5, hF, hF3, -⟩ := fresh_store wr z17.toArray 133 u (by simp [hsl, hul])
     try simp only [Act.put]
     refine pl_begin ?_
     refine pl_t 42 (?_) (by rfl) ?_ rfl ?_
     rotate_left
     ·go_simp
      try with_reducible rfl
     simp only [nz]
     refine pl_t 43 (.agg u.toArray) (by rfl) (ex_mid rfl rfl hre Tryz.underlying133 rfl iu) rfl ?_
     simp only [nz]
     refine pl_run (d := some 9) (v := .pointer (some ⟨wr.heap.size, 0, none⟩)) (w' := wr.alloc (.cells z17.toArray 133)) (by rfl) (ex_alloc rfl (hsr _)) rfl ?_
     simp only [nz]
     refine pl_store (w' := (wr.alloc (.cells z17.toArray 133)).setCells wr.heap.size 0 u) (by rfl) (ex_put (cs := u.toArray) rfl rfl rfl (there_newN _ _ _ (by simp [hsl, hul])) (by simpa using iu) (all_one hu1)) rfl ?_
     refine pl_nil ?_
     have HC := HK.out.later hF
     clear HK
     obtain ⟨X, hX⟩ : ∃ X, wr.heap.size = X := ⟨_, rfl⟩
     simp only [hX] at r5 HC hF3 ⊢
     obtain ⟨w5, hw5⟩ : ∃ W, (wr.alloc (.cells z17.toArray 133)).setCells X 0 u = W := ⟨_, rfl⟩
     rw [hw5] at r5 HC hF3 ⊢
     have sX : X < w5.heap.size := by omega
     clear hw5 hX hF hF3 hre hab
     have c0 : w5.cell? ⟨X, 0, none⟩ = some (.int .i64 id) := by simpa using r5 0 _ (by rw [hut]; rfl)
     have ct : w5.rangeAt X 1 (v8 tg) := fun j y hy => by
      have := r5 (j + 1) y (by rw [hut]; exact hy)
      rw [show 0 + (j + 1) = 1 + j by omega] at this
      exact this
     clear r5
     go_upto_region 12 with fail
     try simp only [Act.put]
     refine pl_begin ?_
     refine pl_t 44 (?_) (by rfl) ?_ rfl ?_
     rotate_left
     ·go_simp
      try with_reducible rfl
     simp only [nz]
     refine pl_t 45 (?_) (by rfl) ?_ rfl ?_
     rotate_left
     ·go_simp
      try with_reducible rfl
     simp only [nz]
     refine pl_t 46 (.int .i64 id) (by rfl) (pl_one rfl rfl c0 Tryz.underlying3 rfl) rfl ?_
     simp only [nz]
     refine pl_t 47 (?_) (by rfl) ?_ rfl ?_
     rotate_left
     ·go_simp
      try with_reducible rfl
     simp only [nz]
     refine pl_t 48 (.agg (v8 tg).toArray) (by rfl) (ex_mid rfl rfl ct Tryz.underlying23 rfl it16) rfl ?_
     simp only [nz]
     refine pl_call (d := some 49) (by rfl) (by go_simp; first | done | exact ⟨rfl, rfl⟩ | with_reducible rfl) rfl ?_
     refine (ca w5 vk (C3 ++ (sgC xs).take k) HC.out HL).mono ?_
     rintro _ wc ⟨rfl, v', ho', hg'⟩
     refine ⟨_, rfl, ?_⟩
     simp only [nz]
     refine pl_nil ?_
     have HD : Hid (CI W wc O v v' (C3 ++ (sgC xs).take (k + 1))) := hide (by
      rw [HT.out, ← List.append_assoc]
      exact HC.add ho' hg')
     clear HC ho' hg' c0 ct ca HT iu it16 hul hu1 hut hsr hsl
     go_wp2_with fail
     go_roundw
     case rel => exact ⟨k + 1, v', by omega, by go_num, HD⟩
     case measure => simp [intOf]; omega
    ·obtain rfl : k = n := by omega
     have HE : Hid (OutC wr O vk (cs ++ ownC N m.pure) ∧ Grow w wr O v vk) := hide (by
      have h1 := HK.out.out
      rw [List.take_of_length_le (by rw [sgC_len, HN.out]; exact Nat.le_refl _), ← hC3.out, ← hC2.out] at h1
      have e : cs ++ ownC N m.pure = cs ++ batC N m.rs.xs ++ cerC m.ct m.cs.xs ++ heC N (hs.map Hd.pure) ++ sgC xs := by
       unfold ownC Mg.pure
       rw [HH.out, HSG.out]
       simp only [List.append_assoc]
      rw [e]
      exact ⟨h1, HB1.out.trans HK.out.grow⟩)
     clear HK ca hlt
     go_wp2_with fail
     go_end0
     exact ⟨rfl, vk, HE.out⟩
structure OutX (w : World) (B : Nat) (v : Value) (cs : List Ev) : Prop where
 own : w.ownsRow B 70 18 v cs.length (cs.flatMap Ev.cells)
 ok : ∀ c ∈ cs, c.ok
 le : B ≤ w.heap.size
theorem OutX.below {w w' : World} {B : Nat} {v : Value} {cs : List Ev} (h : OutX w B v cs) (hb : Below w.heap.size w w') : OutX w' B v cs :=
 ⟨own_blk h.own (fun g hg => hb.block g (h.own.lt g hg).2), h.ok, Nat.le_trans h.le hb.size⟩
structure Kp (w : World) (v : Value) (W : World) : Prop where
 size : w.heap.size ≤ W.heap.size
 block : ∀ i, i < w.heap.size → v.ownBlock ≠ some i → W.heap[i]? = w.heap[i]?
theorem Kp.refl (w : World) (v : Value) : Kp w v w := ⟨Nat.le_refl _, fun _ _ _ => rfl⟩
theorem Kp.below {w W W' : World} {v : Value} (h : Kp w v W) (hb : Below W.heap.size W W') : Kp w v W' := ⟨Nat.le_trans h.size hb.size, fun i hi hv => (hb.block i (Nat.lt_of_lt_of_le hi h.size)).trans (h.block i hi hv)⟩
theorem Kp.cell {w W : World} {v : Value} {b j : Nat} (h : Kp w v W) (hb : b < w.heap.size) (hc : v.ownBlock ≠ some b) : W.cell? ⟨b, j, none⟩ = w.cell? ⟨b, j, none⟩ := (cell_block (h.block b hb hc)).1
theorem Kp.range {w W : World} {v : Value} {b o : Nat} {cs : List Value} (h : Kp w v W) (hb : b < w.heap.size) (hc : v.ownBlock ≠ some b) (hr : w.rangeAt b o cs) : W.rangeAt b o cs := fun j u hu => (h.cell hb hc).trans (hr j u hu)
structure GrX (w w' : World) (v v' : Value) : Prop where
 os : w'.os = w.os
 tape : w'.tape = w.tape
 output : w'.output = w.output
 kp : Kp w v w'
 own : ∀ g, v'.ownBlock = some g → v.ownBlock = some g ∨ w.heap.size ≤ g
theorem GrX.refl (w : World) (v : Value) : GrX w w v v := ⟨rfl, rfl, rfl, Kp.refl _ _, fun _ h => .inl h⟩
theorem GrX.of {w w' : World} (hb : Below w.heap.size w w') (v : Value) : GrX w w' v v := ⟨hb.os, hb.tape, hb.output, (Kp.refl _ _).below hb, fun _ h => .inl h⟩
theorem GrX.trans {a b c : World} {v v' v'' : Value} (h : GrX a b v v') (k : GrX b c v' v'') : GrX a c v v'' where
 os := k.os.trans h.os
 tape := k.tape.trans h.tape
 output := k.output.trans h.output
 kp := ⟨Nat.le_trans h.kp.size k.kp.size, fun i hi h2 => (k.kp.block i (Nat.lt_of_lt_of_le hi h.kp.size) (fun e => by
  rcases h.own i e with e | e
  ·exact h2 e
  ·omega)).trans (h.kp.block i hi h2)⟩
 own := fun g hg => by
  rcases k.own g hg with e | e
  ·exact h.own g e
  ·exact .inr (Nat.le_trans h.kp.size e)
theorem GrX.ne {w w' : World} {v v' : Value} (h : GrX w w' v v') {b : Nat} (hb : b < w.heap.size) (hc : v.ownBlock ≠ some b) : v'.ownBlock ≠ some b := fun e => by
 rcases h.own b e with e | e
 ·exact hc e
 ·omega
theorem Kp.gr {w a b : World} {v v' : Value} (h : Kp w v a) (k : GrX a b v v') : Kp w v b := ⟨Nat.le_trans h.size k.kp.size, fun i hi h2 => (k.kp.block i (Nat.lt_of_lt_of_le hi h.size) h2).trans (h.block i hi h2)⟩
structure CX (B : Nat) (w wr : World) (v vk : Value) (cs : List Ev) : Prop where
 out : OutX wr B vk cs
 grow : GrX w wr v vk
theorem CX.later {B : Nat} {w wr w' : World} {v vk : Value} {cs : List Ev} (h : CX B w wr v vk cs) (hb : Below wr.heap.size wr w') : CX B w w' v vk cs := ⟨h.out.below hb, h.grow.trans (GrX.of hb _)⟩
theorem CX.add {B : Nat} {w wr w' : World} {v vk v' : Value} {cs ds : List Ev} (h : CX B w wr v vk cs) (ho : OutX w' B v' ds) (hg : GrX wr w' vk v') : CX B w w' v v' ds := ⟨ho, h.grow.trans hg⟩
def ownX (N : Int) (m : Mp) : List Ev := batC N m.rs ++ heC N m.he ++ (if m.k = 7 then cerC m.ct m.cs else []) ++ sgC m.sg
structure XS (w : World) (X A B n : Nat) (q : List Value) (W : World) : Prop where
 row : W.rangeAt B 0 q
 box : W.there B 0 n
 ans : W.there A 0 n
 grown : w.grownBy W (some X)
 la : A < W.heap.size
 lb : B < W.heap.size
 na : w.heap.size ≤ A
 nb : w.heap.size ≤ B
 ne : A ≠ B
 lx : X < w.heap.size
theorem XS.gb {w W W' : World} {X A B n : Nat} {q : List Value} (h : XS w X A B n q W) (g : W.grownBy W' (some X)) : XS w X A B n q W' := by
 have h1 := h.na
 have h2 := h.nb
 have h3 := h.lx
 exact ⟨range_gbR h.row g h.lb (by omega), there_gbR h.box g h.lb (by omega), there_gbR h.ans g h.la (by omega), gb_trans h.grown g, Nat.lt_of_lt_of_le h.la g.size, Nat.lt_of_lt_of_le h.lb g.size, h1, h2, h.ne, h3⟩
theorem XS.set {w W : World} {X A B n : Nat} {q q' : List Value} (h : XS w X A B n q W) (o : Nat) (vs : List Value) (hq : (W.setCells B o vs).rangeAt B 0 q') : XS w X A B n q' (W.setCells B o vs) :=
 ⟨hq, World.there_setCells h.box _ _ _, World.there_setCells h.ans _ _ _, gb_onR h.grown (below_sets h.nb vs o _ (Below.refl _ W)) (Nat.le_refl _), by rw [size_sets]; exact h.la, by rw [size_sets]; exact h.lb, h.na, h.nb, h.ne, h.lx⟩
theorem XS.st {w W : World} {D X A B n o : Nat} {q vs : List Value} {zs : List Int} {e : Int} (h : XS w X A B n q W) (hs : RSt D W X zs e) : RSt D (W.setCells B o vs) X zs e :=
 hs.gb (gb_setsR W B vs o) (.inr (by have := h.nb; have := h.lx; omega))
theorem RSt.err {D X : Nat} {w : World} {zs : List Int} {e : Int} (h : RSt D w X zs e) : w.cell? ⟨X, 2, none⟩ = some (.int .i64 e) := by
 obtain ⟨_, _, hR, _⟩ := h
 exact hR.2.2.2.1
theorem RSt.bad {D X : Nat} {w : World} {zs : List Int} {e : Int} (h : RSt D w X zs e) (e' : Int) (he : e' ≠ 0) : RSt D (w.setCells X 2 [.int .i64 e']) X zs e' := by
 obtain ⟨a, p, hR, _⟩ := h
 exact ⟨a, p, hR.set2 e', fun h => absurd h he⟩
theorem RSt.there {D X : Nat} {w : World} {zs : List Int} {e : Int} (h : RSt D w X zs e) : w.there X 0 3 := by
  obtain ⟨_, _, hR, _⟩ := h
  obtain ⟨_, ⟨a, cap, c0, _⟩, c1, c2, f0, f1, f2, _⟩ := hR
  intro j hj
  match j, hj with
  | 0, _ => exact ⟨by show (w.cell? ⟨X, 0, none⟩).isSome = true; rw [c0]; rfl, f0⟩
  | 1, _ => exact ⟨by show (w.cell? ⟨X, 1, none⟩).isSome = true; rw [c1]; rfl, f1⟩
  | 2, _ => exact ⟨by show (w.cell? ⟨X, 2, none⟩).isSome = true; rw [c2]; rfl, f2⟩
def kdE (rest : List Int) (e most : Int) : Int := if (numS rest e most).2.2 == 0 then (if (numS rest e most).1 == 0 then 130 else (numS rest e most).2.2) else (numS rest e most).2.2
def xvtS (rest : List Int) (e : Int) : Vt × List Int × Int :=
 let x0 := numS rest e 2
 let x1 := numS x0.2.1 (kdE rest e 2) 1048576
 let x2 := numS x1.2.1 x1.2.2 1099511627776
 let x3 := numS x2.2.1 x2.2.2 1099511627776
 let x4 := rawS x3.2.1 x3.2.2 32
 (⟨x0.1, x1.1, x2.1, x3.1, padN 32 x4.1⟩, x4.2.1, x4.2.2)
theorem RSt.lt {D : Nat} {w : World} {R : Nat} {rest : List Int} {e : Int} (h : RSt D w R rest e) : R < w.heap.size := by
 obtain ⟨zs, p, hR, _⟩ := h
 exact hR.1
theorem rst_low {D : Nat} {w w' : World} {R B : Nat} {rest : List Int} {e : Int} (h : RSt D w R rest e) (hb : Below B w w') (hR : R < B) : RSt D w' R rest e := by
 have key : ∀ b, b < B → w'.heap[b]? = w.heap[b]? := fun b hbb => hb.block b hbb
 obtain ⟨zs, p, ⟨h0, ⟨a, cap, g1, g2, g3, g4, g5⟩, h2, h3, f0, f1, f2⟩, hd⟩ := h
 have cR := fun o => @cell_block w w' R o (key R hR)
 refine ⟨zs, p, ⟨Nat.lt_of_lt_of_le h0 hb.size, ⟨a, cap, by rw [(cR 0).1]; exact g1, g2, g3, ⟨g4.1, g4.2.1, ?_⟩, g5⟩, by rw [(cR 1).1]; exact h2, by rw [(cR 2).1]; exact h3, by rw [(cR 0).2]; exact f0, by rw [(cR 1).2]; exact f1, by rw [(cR 2).2]; exact f2⟩, hd⟩
 rcases g4.2.2 with g | ⟨b, off, rfl, g6, g7⟩
 ·exact .inl g
 ·have hbR := (g5 _ rfl).2
  exact .inr ⟨b, off, rfl, Nat.lt_of_lt_of_le g6 hb.size, fun j v hv => by rw [(@cell_block w w' b (off + j) (key b (by simp at hbR; omega))).1]; exact g7 j v hv⟩
abbrev Xst := List Int × Int
structure XR (w : World) (D X : Nat) (s : Xst) : Prop where
 st : RSt D w X s.1 s.2
 lx : X < w.heap.size
 ld : D ≤ X
theorem RSt.bs {D X : Nat} {w : World} {rest : List Int} {e : Int} (h : RSt D w X rest e) : e = 0 → Bs rest := fun he => by
 obtain ⟨zs, p, ⟨_, ⟨a, cap, _, _, _, hr, _⟩, _⟩, h2⟩ := h
 rw [← h2 he]
 exact Bs.sub (fun z hz => hr.2.1 z hz) _
theorem XR.gb {w w' : World} {D X : Nat} {s s' : Xst} (h : XR w D X s) (hg : w.grownBy w' (some X)) (hs : RSt D w' X s'.1 s'.2) : XR w' D X s' := ⟨hs, Nat.lt_of_lt_of_le h.lx hg.size, h.ld⟩
theorem XR.low {w w' : World} {D X n : Nat} {s : Xst} (h : XR w D X s) (hb : Below n w w') (hX : X < n) : XR w' D X s := ⟨rst_low h.st hb hX, Nat.lt_of_lt_of_le h.lx hb.size, h.ld⟩
theorem XR.below {w w' : World} {D X : Nat} {s : Xst} (h : XR w D X s) (hb : Below w.heap.size w w') : XR w' D X s := h.low hb h.lx
def xnuS (most : Int) (s : Xst) : Int × Xst := numS s.1 s.2 most
def xtgS (s : Xst) : List Int × Xst := (padN 16 (rawS s.1 s.2 16).1, (rawS s.1 s.2 16).2)
def xsiS (s : Xst) : Sg × Xst := (⟨(xnuS 64 s).1, (xtgS (xnuS 64 s).2).1⟩, (xtgS (xnuS 64 s).2).2)
def xvoS (s : Xst) : Vt × Xst := xvtS s.1 s.2
def xbaS (s : Xst) : (Bool × List Rq) × Xst := (((getB s.1 s.2).q, (getB s.1 s.2).rs.map BRq.un), (getB s.1 s.2).rest, (getB s.1 s.2).err)
def xitG {α : Type} (one : Xst → α × Xst) (s : Xst) : Nat → List α × Xst
  | 0 => ([], s)
  | k + 1 => if (xitG one s k).2.2 = 0 then ((xitG one s k).1 ++ [(one (xitG one s k).2).1], (one (xitG one s k).2).2) else xitG one s k
def xlsS {α : Type} (most : Int) (one : Xst → α × Xst) (s : Xst) : List α × Xst := xitG one (xnuS most s).2 (xnuS most s).1.toNat
def xceS (s : Xst) : (Vt × List Sg) × Xst := (((xvoS s).1, (xlsS 64 xsiS (xvoS s).2).1), (xlsS 64 xsiS (xvoS s).2).2)
def xheS (s : Xst) : Hp × Xst := (⟨(xbaS s).1.1, (xbaS s).1.2, (xceS (xbaS s).2).1.1, (xceS (xbaS s).2).1.2⟩, (xceS (xbaS s).2).2)
structure XV (w : World) (X A B n : Nat) (q : List Value) (W : World) : Prop where
 row : W.rangeAt B 0 q
 box : W.there B 0 n
 ans : W.there A 0 n
 gr : w.grownBy W (some X)
 lb : B < W.heap.size
 na : w.heap.size ≤ A
 ab : A < B
 lx : X < w.heap.size
theorem XV.on {w W W' : World} {X A B n : Nat} {q : List Value} (h : XV w X A B n q W) (g : W.grownBy W' (some X)) : XV w X A B n q W' := by
 have h1 := h.na
 have h2 := h.ab
 have h3 := h.lx
 have h4 := h.lb
 exact ⟨range_gbR h.row g h.lb (by omega), there_gbR h.box g h.lb (by omega), there_gbR h.ans g (by omega) (by omega), gb_trans h.gr g, Nat.lt_of_lt_of_le h.lb g.size, h1, h2, h3⟩
theorem XV.set {w W : World} {X A B n : Nat} {q q' : List Value} (h : XV w X A B n q W) (o : Nat) (vs : List Value) (hq : (W.setCells B o vs).rangeAt B 0 q') : XV w X A B n q' (W.setCells B o vs) :=
 ⟨hq, World.there_setCells h.box _ _ _, World.there_setCells h.ans _ _ _, gb_onR h.gr (below_sets (by have := h.na; have := h.ab; omega) vs o _ (Below.refl _ W)) (Nat.le_refl _), by rw [size_sets]; exact h.lb, h.na, h.ab, h.lx⟩
theorem XV.low {w W W' : World} {X A B n m : Nat} {q : List Value} (h : XV w X A B n q W) (hb : Below m W W') (hm : B < m) : XV w X A B n q W' := by
 have h1 := h.na
 have h2 := h.ab
 exact ⟨range_blk h.row (hb.block B hm), there_blk h.box (hb.block B hm), there_blk h.ans (hb.block A (by omega)), gb_onR h.gr hb (by omega), Nat.lt_of_lt_of_le h.lb hb.size, h1, h2, h.lx⟩
theorem XV.part {w W : World} {X A B n : Nat} {q : List Value} (h : XV w X A B n q W) (o m : Nat) (hm : o + m ≤ n) : W.there B o m := there_part1 h.box hm
structure XH (w : World) (D X A B : Nat) (a b c : Int) (t : Xst) (k : Nat) (W : World) : Prop where
 ex : ∃ (v : Value) (ys : List Hd), XV w X A B 4 [.int .i64 a, .int .i64 b, .int .i64 c, v] W ∧ ys.map Hd.pure = (xitG xheS t k).1 ∧ W.ownsRow (B + 1) 113 39 v ys.length (ys.flatMap Hd.cells) ∧ ∀ y ∈ ys, y.vt.ok ∧ y.At W ∧ y.Bk (fun b => B < b ∧ b < W.heap.size ∧ v.ownBlock ≠ some b)
 rs : XR W D X (xitG xheS t k).2
theorem own_gb {w w' : World} {B k n g : Nat} {t : TypeId} {v : Value} {xs : List Value} (h : w.ownsRow B t k v n xs) (hg : w.grownBy w' (some g)) (hlt : g < B) : w'.ownsRow B t k v n xs :=
  h.kept hg (by
    cases hv : v.ownBlock with
    | none => exact .inl rfl
    | some q => exact .inr (by have := (h.lt q hv).1; intro q2; injection q2 with q2; omega))
theorem XH.step {w wr w4 w8 w6 w7 w9 : World} {D X A B k : Nat} {a b c : Int} {t : Xst} {v v9 : Value} {q : Bool} {x : Sl Rq} {vt : Vt} {y : Sl Sg} {ys : List Hd} (hAB : B + 1 ≤ wr.heap.size) (hXB : X < B) (hst : (xitG xheS t k).2.2 = 0)
  (hA : x.At RqE w4) (hB : x.Bk (fun b => wr.heap.size ≤ b ∧ b < w4.heap.size)) (hC : y.At SgE w6) (hD : y.Bk (fun b => w8.heap.size ≤ b ∧ b < w6.heap.size)) (hvt : vt.ok)
  (e1 : Hd.pure ⟨q, x, vt, y⟩ = (xheS (xitG xheS t k).2).1) (g4 : wr.grownBy w4 (some X)) (l8 : Below w4.heap.size w4 w8) (g6 : w8.grownBy w6 (some X)) (hb7 : Below w6.heap.size w6 w7) (g9 : w7.grownBy w9 v.ownBlock) (gb : ∀ g, v9.ownBlock = some g → v.ownBlock = some g ∨ w7.heap.size ≤ g)
  (e2 : ys.map Hd.pure = (xitG xheS t k).1) (HO : wr.ownsRow (B + 1) 113 39 v ys.length (ys.flatMap Hd.cells)) (hys : ∀ y ∈ ys, y.vt.ok ∧ y.At wr ∧ y.Bk (fun b => B < b ∧ b < wr.heap.size ∧ v.ownBlock ≠ some b))
  (o9 : w9.ownsRow (B + 1) 113 39 v9 (ys.length + 1) (ys.flatMap Hd.cells ++ Hd.cells ⟨q, x, vt, y⟩)) (Ve : XV w X A B 4 [.int .i64 a, .int .i64 b, .int .i64 c, v9] (w9.setCells B 3 [v9])) (S9 : XR w9 D X (xheS (xitG xheS t k).2).2) : XH w D X A B a b c t (k + 1) (w9.setCells B 3 [v9]) := by
 have z4 := g4.size
 have z8 := l8.size
 have z6 := g6.size
 have z7 := hb7.size
 have z9 := g9.size
 have hs : xitG xheS t (k + 1) = ((xitG xheS t k).1 ++ [(xheS (xitG xheS t k).2).1], (xheS (xitG xheS t k).2).2) := by
  show (if (xitG xheS t k).2.2 = 0 then _ else _) = _
  rw [if_pos hst]
 have zs : (w9.setCells B 3 [v9]).heap.size = w9.heap.size := size_sets ..
 have b9 : ∀ b, b ≠ B → (w9.setCells B 3 [v9]).heap[b]? = w9.heap[b]? := fun b hb => blk_sets hb
 have bl : ∀ b, b < w6.heap.size → v.ownBlock ≠ some b → w9.heap[b]? = w6.heap[b]? := fun b h1 h2 => (g9.block b (by omega) (fun q => h2 q.symm)).trans (hb7.block b h1)
 have nX : ∀ b : Nat, b ≠ X → some b ≠ some X := fun b hb q => by injection q with q; exact hb q
 have nv : ∀ b, wr.heap.size ≤ b → v.ownBlock ≠ some b := fun b hb q => by have := (HO.lt b q).2; omega
 refine ⟨⟨v9, ys ++ [⟨q, x, vt, y⟩], Ve, ?_, ?_, ?_⟩, by rw [hs]; exact S9.low (below_sets (Nat.le_refl _) [v9] 3 _ (Below.refl _ w9)) hXB⟩
 ·rw [List.map_append, e2, hs]
  show _ = (xitG xheS t k).1 ++ [(xheS (xitG xheS t k).2).1]
  rw [← e1]
  rfl
 ·have o : w9.ownsRow (B + 1) 113 39 v9 (ys ++ [(⟨q, x, vt, y⟩ : Hd)]).length ((ys ++ [(⟨q, x, vt, y⟩ : Hd)]).flatMap Hd.cells) := by
   rw [List.flatMap_append, List.length_append]
   simpa using o9
  exact own_gb o (gb_setsR w9 B [v9] 3) (by omega)
 ·intro u hu
  rcases List.mem_append.1 hu with g | g
  ·obtain ⟨u1, u2, u3⟩ := hys u g
   refine ⟨u1, u2.on (by omega) u3 (fun b hb hlt => ?_), u3.mono (fun b hb => ⟨hb.1, by omega, fun q => ?_⟩)⟩
   ·rw [b9 b (by omega), bl b (by omega) hb.2.2, g6.block b (by omega) (nX b (by omega)), l8.block b (by omega), g4.block b (by omega) (nX b (by omega))]
   ·rcases gb b q with g1 | g1
    ·exact hb.2.2 g1
    ·omega
  ·rw [List.mem_singleton.1 g]
   refine ⟨hvt, ⟨hA.on (by omega) hB (fun b hb hlt => ?_), hC.on (by omega) hD (fun b hb hlt => ?_)⟩, hB.mono (fun b hb => ⟨by omega, by omega, fun q => ?_⟩), hD.mono (fun b hb => ⟨by omega, by omega, fun q => ?_⟩)⟩
   ·rw [b9 b (by omega), bl b (by omega) (nv b hb.1), g6.block b (by omega) (nX b (by omega)), l8.block b (by omega)]
   ·rw [b9 b (by omega), bl b (by omega) (nv b (by omega))]
   ·rcases gb b q with g1 | g1
    ·exact nv b hb.1 g1
    ·omega
   ·rcases gb b q with g1 | g1
    ·exact nv b (by omega) g1
    ·omega
structure XW (w : World) (D X A B n : Nat) (q : List Value) (s : Xst) (W : World) : Prop where
 row : W.rangeAt B 0 q
 box : W.there B 0 n
 ans : W.there A 0 n
 gr : w.grownBy W (some X)
 rs : XR W D X s
 la : A < W.heap.size
 lb : B < W.heap.size
 na : w.heap.size ≤ A
 nb : w.heap.size ≤ B
 ne : A ≠ B
 lx : X < w.heap.size
theorem XW.on {w W W' : World} {D X A B n : Nat} {q : List Value} {s s' : Xst} (h : XW w D X A B n q s W) (g : W.grownBy W' (some X)) (S : XR W' D X s') : XW w D X A B n q s' W' := by
 have h1 := h.na
 have h2 := h.nb
 have h3 := h.lx
 exact ⟨range_gbR h.row g h.lb (by omega), there_gbR h.box g h.lb (by omega), there_gbR h.ans g h.la (by omega), gb_trans h.gr g, S, Nat.lt_of_lt_of_le h.la g.size, Nat.lt_of_lt_of_le h.lb g.size, h1, h2, h.ne, h3⟩
theorem XW.set {w W : World} {D X A B n : Nat} {q q' : List Value} {s : Xst} (h : XW w D X A B n q s W) (o : Nat) (vs : List Value) (hq : (W.setCells B o vs).rangeAt B 0 q') : XW w D X A B n q' s (W.setCells B o vs) := by
 have h2 := h.nb
 have h3 := h.lx
 have lo : Below w.heap.size W (W.setCells B o vs) := below_sets h2 vs o _ (Below.refl _ W)
 exact ⟨hq, World.there_setCells h.box _ _ _, World.there_setCells h.ans _ _ _, gb_onR h.gr lo (Nat.le_refl _), h.rs.low lo h3, by rw [size_sets]; exact h.la, by rw [size_sets]; exact h.lb, h.na, h2, h.ne, h3⟩
theorem XW.part {w W : World} {D X A B n : Nat} {q : List Value} {s : Xst} (h : XW w D X A B n q s W) (o m : Nat) (hm : o + m ≤ n) : W.there B o m := there_part1 h.box hm
def cod (s : Rst) : Int := if s.2.2 = true then 130 else s.2.1
def Sim (s : Rst) (t : Xst) : Prop := (s = (t.1, 0, false) ∧ t.2 = 0) ∨ (cod s ≠ 0 ∧ t.2 = cod s)
structure Pair {α : Type} (f : Rst → α × Rst) (xf : Xst → α × Xst) : Prop where
 bad : ∀ s, cod s ≠ 0 → cod (f s).2 = cod s
 xbad : ∀ t, t.2 ≠ 0 → (xf t).2.2 = t.2
 ok : ∀ r, Sim (f (r, 0, false)).2 (xf (r, 0)).2 ∧ (cod (f (r, 0, false)).2 = 0 → (f (r, 0, false)).1 = (xf (r, 0)).1)
theorem Sim.good {s : Rst} {t : Xst} (h : Sim s t) (h0 : cod s = 0) : s = (t.1, 0, false) ∧ t.2 = 0 := by
 rcases h with h | h
 ·exact h
 ·exact absurd h0 h.1
theorem Pair.go {α : Type} {f : Rst → α × Rst} {xf : Xst → α × Xst} (p : Pair f xf) {s : Rst} {t : Xst} (h : Sim s t) : Sim (f s).2 (xf t).2 ∧ (cod (f s).2 = 0 → (f s).1 = (xf t).1) := by
 rcases h with ⟨h1, h2⟩ | ⟨h1, h2⟩
 ·obtain ⟨r, e⟩ := t
  subst h1
  have h2 : e = 0 := h2
  subst h2
  exact p.ok r
 ·have c := p.bad s h1
  refine ⟨.inr ⟨by rw [c]; exact h1, ?_⟩, fun q => absurd (c.symm.trans q) h1⟩
  rw [p.xbad t (by rw [h2]; exact h1), h2, c]
theorem Pair.simple {α : Type} (g : List Int → Int → α × List Int × Int) (hg : ∀ r e, e ≠ 0 → (g r e).2.2 = e) : Pair (fun s => ((g s.1 s.2.1).1, (g s.1 s.2.1).2.1, (g s.1 s.2.1).2.2, s.2.2)) (fun t => ((g t.1 t.2).1, (g t.1 t.2).2)) := by
 refine ⟨fun s h => ?_, fun t h => hg _ _ h, fun r => ⟨?_, fun _ => rfl⟩⟩
 ·obtain ⟨r, e, z⟩ := s
  cases z
  ·exact hg r e h
  ·rfl
 ·show Sim ((g r 0).2.1, (g r 0).2.2, false) (g r 0).2
  by_cases q : (g r 0).2.2 = 0
  ·exact .inl ⟨by rw [q], q⟩
  ·exact .inr ⟨q, rfl⟩
theorem Pair.bind {α β γ : Type} {f : Rst → α × Rst} {xf : Xst → α × Xst} {g : Rst → β × Rst} {xg : Xst → β × Xst} (h : α → β → γ) (p : Pair f xf) (q : Pair g xg) : Pair (fun s => (h (f s).1 (g (f s).2).1, (g (f s).2).2)) (fun t => (h (xf t).1 (xg (xf t).2).1, (xg (xf t).2).2)) := by
 refine ⟨fun s hs => ?_, fun t ht => ?_, fun r => ?_⟩
 ·show cod (g (f s).2).2 = cod s
  rw [q.bad _ (by rw [p.bad s hs]; exact hs), p.bad s hs]
 ·show (xg (xf t).2).2.2 = t.2
  rw [q.xbad _ (by rw [p.xbad t ht]; exact ht), p.xbad t ht]
 ·obtain ⟨h1, h2⟩ := p.ok r
  obtain ⟨h3, h4⟩ := q.go h1
  refine ⟨h3, fun hc => ?_⟩
  have hc1 : cod (f (r, 0, false)).2 = 0 := by
   by_cases c : cod (f (r, 0, false)).2 = 0
   ·exact c
   ·exact absurd ((q.bad _ c).symm.trans hc) c
  show h _ _ = h _ _
  rw [h2 hc1, h4 hc]
theorem Pair.map {α β : Type} {f : Rst → α × Rst} {xf : Xst → α × Xst} (h : α → β) (p : Pair f xf) : Pair (fun s => (h (f s).1, (f s).2)) (fun t => (h (xf t).1, (xf t).2)) :=
 ⟨p.bad, p.xbad, fun r => ⟨(p.ok r).1, fun hc => by show h _ = h _; rw [(p.ok r).2 hc]⟩⟩
theorem Pair.pure {α : Type} (a : α) : Pair (fun s => (a, s)) (fun t => (a, t)) := ⟨fun _ _ => rfl, fun _ _ => rfl, fun r => ⟨.inl ⟨rfl, rfl⟩, fun _ => rfl⟩⟩
theorem itG_bad {α : Type} {one : Rst → α × Rst} (h : ∀ s, cod s ≠ 0 → cod (one s).2 = cod s) {s : Rst} (hs : cod s ≠ 0) : ∀ k, cod (itG one s k).2 = cod s := by
  intro k
  induction k with
  | zero => rfl
  | succ k ih => show cod (one (itG one s k).2).2 = _; rw [h _ (by rw [ih]; exact hs), ih]
theorem numS_bad (most : Int) (r : List Int) (e : Int) (h : e ≠ 0) : (numS r e most).2.2 = e := by
 unfold numS
 rw [if_neg h]
theorem textS_bad (most : Int) (r : List Int) (e : Int) (h : e ≠ 0) : (textS r e most).2.2 = e := by
 have := numS_bad 9223372036854775807 r e h
 unfold textS
 rw [if_neg (by rw [this]; exact h)]
 exact this
theorem rawS_bad (n : Int) (r : List Int) (e : Int) (h : e ≠ 0) : (rawS r e n).2.2 = e := by
 unfold rawS
 rw [if_neg h]
def vt4 (v : Int) (r : List Int) (e : Int) : Vt × List Int × Int :=
 (⟨v, (numS r e 1048576).1, (numS (numS r e 1048576).2.1 (numS r e 1048576).2.2 1099511627776).1, (numS (numS (numS r e 1048576).2.1 (numS r e 1048576).2.2 1099511627776).2.1 (numS (numS r e 1048576).2.1 (numS r e 1048576).2.2 1099511627776).2.2 1099511627776).1, padN 32 (rawS (numS (numS (numS r e 1048576).2.1 (numS r e 1048576).2.2 1099511627776).2.1 (numS (numS r e 1048576).2.1 (numS r e 1048576).2.2 1099511627776).2.2 1099511627776).2.1 (numS (numS (numS r e 1048576).2.1 (numS r e 1048576).2.2 1099511627776).2.1 (numS (numS r e 1048576).2.1 (numS r e 1048576).2.2 1099511627776).2.2 1099511627776).2.2 32).1⟩, (rawS (numS (numS (numS r e 1048576).2.1 (numS r e 1048576).2.2 1099511627776).2.1 (numS (numS r e 1048576).2.1 (numS r e 1048576).2.2 1099511627776).2.2 1099511627776).2.1 (numS (numS (numS r e 1048576).2.1 (numS r e 1048576).2.2 1099511627776).2.1 (numS (numS r e 1048576).2.1 (numS r e 1048576).2.2 1099511627776).2.2 1099511627776).2.2 32).2)
structure Codec {α : Type} (f : Rst → α × Rst) (enc : α → List Int) (ok : α → Prop) : Prop where
 bad : ∀ s, cod s ≠ 0 → cod (f s).2 = cod s
 back : ∀ a q, ok a → f (enc a ++ q, 0, false) = (a, q, 0, false)
 form : ∀ r, Bs r → cod (f (r, 0, false)).2 = 0 → ∃ a q, ok a ∧ f (r, 0, false) = (a, q, 0, false) ∧ r = enc a ++ q
theorem Bs.right {a q : List Int} (h : Bs (a ++ q)) : Bs q := fun z hz => h z (List.mem_append_right _ hz)
theorem Bs.left {a q : List Int} (h : Bs (a ++ q)) : Bs a := fun z hz => h z (List.mem_append_left _ hz)
theorem cod0 {r : List Int} {e : Int} {z : Bool} (h : cod (r, e, z) = 0) : z = false ∧ e = 0 := by
 unfold cod at h
 cases z
 ·exact ⟨rfl, h⟩
 ·exact absurd h (show (130 : Int) ≠ 0 by decide)
theorem Codec.simple {α : Type} {g : List Int → Int → α × List Int × Int} {enc : α → List Int} {ok : α → Prop} (h1 : ∀ r e, e ≠ 0 → (g r e).2.2 = e) (h2 : ∀ a q, ok a → g (enc a ++ q) 0 = (a, q, 0)) (h3 : ∀ r, Bs r → (g r 0).2.2 = 0 → ∃ a q, ok a ∧ g r 0 = (a, q, 0) ∧ r = enc a ++ q) :
  Codec (fun s => ((g s.1 s.2.1).1, (g s.1 s.2.1).2.1, (g s.1 s.2.1).2.2, s.2.2)) enc ok := by
 refine ⟨fun s h => ?_, fun a q ha => ?_, fun r hb hc => ?_⟩
 ·obtain ⟨r, e, z⟩ := s
  cases z
  ·exact h1 r e h
  ·rfl
 ·show ((g (enc a ++ q) 0).1, (g (enc a ++ q) 0).2.1, (g (enc a ++ q) 0).2.2, false) = _
  rw [h2 a q ha]
 ·obtain ⟨a, q, k1, k2, k3⟩ := h3 r hb (cod0 hc).2
  exact ⟨a, q, k1, by show ((g r 0).1, (g r 0).2.1, (g r 0).2.2, false) = _; rw [k2], k3⟩
theorem Codec.bind {α β : Type} {f : Rst → α × Rst} {g : Rst → β × Rst} {e1 : α → List Int} {e2 : β → List Int} {o1 : α → Prop} {o2 : β → Prop} (p : Codec f e1 o1) (q : Codec g e2 o2) : Codec (fun s => (((f s).1, (g (f s).2).1), (g (f s).2).2)) (fun c => e1 c.1 ++ e2 c.2) (fun c => o1 c.1 ∧ o2 c.2) := by
 refine ⟨fun s hs => ?_, fun c t hc => ?_, fun r hb hc => ?_⟩
 ·show cod (g (f s).2).2 = cod s
  rw [q.bad _ (by rw [p.bad s hs]; exact hs), p.bad s hs]
 ·obtain ⟨a, b⟩ := c
  show (((f (e1 a ++ e2 b ++ t, 0, false)).1, (g (f (e1 a ++ e2 b ++ t, 0, false)).2).1), (g (f (e1 a ++ e2 b ++ t, 0, false)).2).2) = _
  rw [List.append_assoc, p.back a _ hc.1]
  show ((a, (g (e2 b ++ t, 0, false)).1), (g (e2 b ++ t, 0, false)).2) = _
  rw [q.back b t hc.2]
 ·have hc1 : cod (f (r, 0, false)).2 = 0 := by
   by_cases c : cod (f (r, 0, false)).2 = 0
   ·exact c
   ·exact absurd ((q.bad _ c).symm.trans hc) c
  obtain ⟨a, r1, k1, k2, k3⟩ := p.form r hb hc1
  have hc2 : cod (g (f (r, 0, false)).2).2 = 0 := hc
  rw [k2] at hc2
  obtain ⟨b, r2, m1, m2, m3⟩ := q.form r1 (by rw [k3] at hb; exact hb.right) hc2
  refine ⟨(a, b), r2, ⟨k1, m1⟩, ?_, by rw [k3, m3, List.append_assoc]⟩
  show (((f (r, 0, false)).1, (g (f (r, 0, false)).2).1), (g (f (r, 0, false)).2).2) = _
  rw [k2]
  show ((a, (g (r1, 0, false)).1), (g (r1, 0, false)).2) = _
  rw [m2]
theorem Codec.map {α β : Type} {f : Rst → α × Rst} {enc : α → List Int} {ok : α → Prop} (h : α → β) (g : β → α) (hg : ∀ a, g (h a) = a) (p : Codec f enc ok) : Codec (fun s => (h (f s).1, (f s).2)) (fun b => enc (g b)) (fun b => ok (g b) ∧ h (g b) = b) := by
 refine ⟨p.bad, fun b q hb => ?_, fun r hb hc => ?_⟩
 ·show (h (f (enc (g b) ++ q, 0, false)).1, (f (enc (g b) ++ q, 0, false)).2) = _
  rw [p.back _ q hb.1]
  show (h (g b), _) = _
  rw [hb.2]
 ·obtain ⟨a, q, k1, k2, k3⟩ := p.form r hb hc
  refine ⟨h a, q, ⟨by rw [hg]; exact k1, by rw [hg]⟩, ?_, by rw [hg]; exact k3⟩
  show (h (f (r, 0, false)).1, (f (r, 0, false)).2) = _
  rw [k2]
theorem it_back {α : Type} {one : Rst → α × Rst} {enc : α → List Int} {ok : α → Prop} (p : Codec one enc ok) (q : List Int) (xs : List α) (h : ∀ x ∈ xs, ok x) : ∀ k, k ≤ xs.length → itG one (xs.flatMap enc ++ q, 0, false) k = (xs.take k, (xs.drop k).flatMap enc ++ q, 0, false) := by
  intro k
  induction k with
  | zero => intro _; simp [itG]
  | succ k ih =>
    intro hk
    have i := ih (by omega)
    have hd : xs.drop k = xs[k] :: xs.drop (k + 1) := List.drop_eq_getElem_cons (by omega)
    show ((itG one (xs.flatMap enc ++ q, 0, false) k).1 ++ [(one (itG one (xs.flatMap enc ++ q, 0, false) k).2).1], (one (itG one (xs.flatMap enc ++ q, 0, false) k).2).2) = _
    rw [i]
    show (xs.take k ++ [(one ((xs.drop k).flatMap enc ++ q, 0, false)).1], (one ((xs.drop k).flatMap enc ++ q, 0, false)).2) = _
    rw [hd, List.flatMap_cons, List.append_assoc, p.back _ _ (h _ (List.getElem_mem (by omega))), List.take_succ_eq_append_getElem (by omega)]
theorem it_form {α : Type} {one : Rst → α × Rst} {enc : α → List Int} {ok : α → Prop} (p : Codec one enc ok) (r : List Int) (hb : Bs r) : ∀ k, cod (itG one (r, 0, false) k).2 = 0 → ∃ xs q, xs.length = k ∧ (∀ x ∈ xs, ok x) ∧ itG one (r, 0, false) k = (xs, q, 0, false) ∧ r = xs.flatMap enc ++ q := by
  intro k
  induction k with
  | zero => intro _; exact ⟨[], r, rfl, (fun x hx => by cases hx), rfl, rfl⟩
  | succ k ih =>
    intro hc
    have hc : cod (one (itG one (r, 0, false) k).2).2 = 0 := hc
    have c0 : cod (itG one (r, 0, false) k).2 = 0 := by
      by_cases c : cod (itG one (r, 0, false) k).2 = 0
      · exact c
      · exact absurd ((p.bad _ c).symm.trans hc) c
    obtain ⟨xs, q, h1, h2, h3, h4⟩ := ih c0
    rw [h3] at hc
    obtain ⟨a, q', k1, k2, k3⟩ := p.form q (by rw [h4] at hb; exact hb.right) hc
    refine ⟨xs ++ [a], q', by simp [h1], fun x hx => ?_, ?_, by rw [h4, k3, List.flatMap_append]; simp⟩
    · rcases List.mem_append.1 hx with g | g
      · exact h2 x g
      · rw [List.mem_singleton.1 g]; exact k1
    · show ((itG one (r, 0, false) k).1 ++ [(one (itG one (r, 0, false) k).2).1], (one (itG one (r, 0, false) k).2).2) = _
      rw [h3]
      show (xs ++ [(one (q, 0, false)).1], (one (q, 0, false)).2) = _
      rw [k2]
theorem num_form {most : Int} {r : List Int} (hb : Bs r) (h : (numS r 0 most).2.2 = 0) : ∃ n q, (0 ≤ n ∧ n ≤ most ∧ n ≤ 9223372036854775807) ∧ numS r 0 most = (n, q, 0) ∧ r = putL n ++ q := by
 unfold numS at h ⊢
 rw [if_pos rfl] at h ⊢
 by_cases h1 : (numR r).2.2 = 0
 ·rw [if_pos h1] at h ⊢
  obtain ⟨k1, k2, k3, k4⟩ := numR_form r hb h1
  by_cases h2 : most < (numR r).1
  ·rw [if_pos h2] at h; exact absurd h (show (3 : Int) ≠ 0 by decide)
  ·rw [if_neg h2]
   refine ⟨(numR r).1, _, ⟨k3, by omega, k4⟩, rfl, ?_⟩
   rw [k1, List.take_append_drop]
 ·rw [if_neg h1] at h
  exact absurd h h1
theorem nu_codec (most : Int) (hm : most ≤ 9223372036854775807) : Codec (nuS most) putL (fun n => 0 ≤ n ∧ n ≤ most) :=
 Codec.simple (g := fun r e => numS r e most) (numS_bad most) (fun a q h => numS_back a most h.1 (by omega) h.2 q) (fun r hb h => by
  obtain ⟨n, q, k1, k2, k3⟩ := num_form hb h
  exact ⟨n, q, ⟨k1.1, k1.2.1⟩, k2, k3⟩)
theorem ki_codec (most : Int) (hm : most ≤ 9223372036854775807) : Codec (kiS most) putL (fun n => 1 ≤ n ∧ n ≤ most) := by
 refine ⟨fun s h => ?_, fun a q ha => ?_, fun r hb hc => ?_⟩
 ·obtain ⟨r, e, z⟩ := s
  cases z
  ·have h : e ≠ 0 := h
   have h1 := numS_bad most r e h
   have k : kdZ r e most false = false := by
    unfold kdZ
    rw [h1]
    have : (e == 0) = false := by simpa using h
    rw [this]
    simp
   show (if kdZ r e most false = true then 130 else (numS r e most).2.2) = e
   rw [k, if_neg (by decide)]
   exact h1
  ·have k : kdZ r e most true = true := by
    unfold kdZ
    simp
   show (if kdZ r e most true = true then 130 else (numS r e most).2.2) = 130
   rw [k, if_pos rfl]
 ·show ((numS (putL a ++ q) 0 most).1, (numS (putL a ++ q) 0 most).2.1, (numS (putL a ++ q) 0 most).2.2, kdZ (putL a ++ q) 0 most false) = _
  unfold kdZ
  rw [numS_back a most (by omega) (by omega) ha.2 q]
  have : (a == 0) = false := by simp; omega
  simp [this]
 ·have hc : cod ((numS r 0 most).2.1, (numS r 0 most).2.2, kdZ r 0 most false) = 0 := hc
  obtain ⟨z0, e0⟩ := cod0 hc
  obtain ⟨n, q, k1, k2, k3⟩ := num_form hb e0
  have hz : kdZ r 0 most false = false := z0
  unfold kdZ at z0
  rw [k2] at z0
  have hn : n ≠ 0 := fun q => by rw [q] at z0; simp at z0
  refine ⟨n, q, ⟨by omega, k1.2.1⟩, ?_, k3⟩
  show ((numS r 0 most).1, (numS r 0 most).2.1, (numS r 0 most).2.2, kdZ r 0 most false) = _
  rw [hz, k2]
theorem raw_back (n : Nat) (d q : List Int) (h : d.length = n) : rawS (d ++ q) 0 n = (d, q, 0) := by
 unfold rawS
 rw [if_pos rfl, if_neg (by omega), if_neg (by rw [List.length_append]; omega)]
 have e : (n : Int).toNat = d.length := by omega
 rw [e, List.take_left, List.drop_left]
theorem raw_form {n : Nat} {r : List Int} (h : (rawS r 0 n).2.2 = 0) : ∃ d q, d.length = n ∧ rawS r 0 n = (d, q, 0) ∧ r = d ++ q := by
 unfold rawS at h ⊢
 rw [if_pos rfl, if_neg (by omega)] at h ⊢
 by_cases h1 : (r.length : Int) < n
 ·rw [if_pos h1] at h; exact absurd h (show (10 : Int) ≠ 0 by decide)
 ·rw [if_neg h1]
  exact ⟨_, _, by rw [List.length_take]; omega, rfl, (List.take_append_drop _ _).symm⟩
theorem pad_codec (n : Nat) (m : Int) (hm : m = (n : Int)) : Codec (fun s => (padN n (rawS s.1 s.2.1 m).1, (rawS s.1 s.2.1 m).2.1, (rawS s.1 s.2.1 m).2.2, s.2.2)) (fun d => d) (fun d => d.length = n ∧ Bs d) := by
 subst hm
 exact Codec.simple (g := fun r e => (padN n (rawS r e n).1, (rawS r e n).2)) (fun r e h => rawS_bad n r e h) (fun a q h => by
  show (padN n (rawS (a ++ q) 0 n).1, (rawS (a ++ q) 0 n).2) = _
  rw [raw_back n a q h.1]
  show (padN n a, _) = _
  unfold padN
  rw [if_pos h.1]) (fun r hb h => by
  obtain ⟨d, q, k1, k2, k3⟩ := raw_form (n := n) h
  refine ⟨d, q, ⟨k1, by rw [k3] at hb; exact hb.left⟩, ?_, k3⟩
  show (padN n (rawS r 0 n).1, (rawS r 0 n).2) = _
  rw [k2]
  show (padN n d, _) = _
  unfold padN
  rw [if_pos k1])
theorem strL_strOf {zs : List Int} (h : ∀ z ∈ zs, 0 ≤ z ∧ z < 256) : strL (strOf zs) = zs := strOf_inj (strL_byte _) h (by rw [strOf_strL])
theorem tx_codec (most : Int) (hm : most ≤ 1099511627) : Codec (txS most) textL (fun s => (s.size : Int) ≤ most) :=
 Codec.simple (g := fun r e => (strOf (textS r e most).1, (textS r e most).2)) (fun r e h => textS_bad most r e h) (fun s q h => by
  show (strOf (textS (textL s ++ q) 0 most).1, (textS (textL s ++ q) 0 most).2) = _
  rw [textS_back s most (by omega) h q]
  show (strOf (strL s), _) = _
  rw [strOf_strL]) (fun r hb h => by
  have h : (textS r 0 most).2.2 = 0 := h
  have hn : (numS r 0 9223372036854775807).2.2 = 0 := by
   by_cases c : (numS r 0 9223372036854775807).2.2 = 0
   ·exact c
   ·unfold textS at h; rw [if_neg c] at h; exact absurd h c
  obtain ⟨n, q, k1, k2, k3⟩ := num_form hb hn
  show ∃ a q, _ ∧ (strOf (textS r 0 most).1, (textS r 0 most).2) = _ ∧ _
  unfold textS at h ⊢
  rw [if_pos hn, k2] at h ⊢
  by_cases c1 : most < n
  ·rw [if_pos c1] at h; exact absurd h (show (3 : Int) ≠ 0 by decide)
  ·rw [if_neg c1] at h ⊢
   by_cases c2 : (q.length : Int) < n
   ·rw [if_pos c2] at h; exact absurd h (show (10 : Int) ≠ 0 by decide)
   ·rw [if_neg c2]
    have hl : (q.take n.toNat).length = n.toNat := by rw [List.length_take]; omega
    have hbt : Bs (q.take n.toNat) := (show Bs q from by rw [k3] at hb; exact hb.right).subT _
    have hsz : (strOf (q.take n.toNat)).size = n.toNat := by rw [strOf_size, hl]
    refine ⟨strOf (q.take n.toNat), q.drop n.toNat, by omega, rfl, ?_⟩
    unfold textL
    rw [strL_strOf hbt, hsz, List.append_assoc, List.take_append_drop, show ((n.toNat : Nat) : Int) = n by omega]
    exact k3)
def sgOk (g : Sg) : Prop := (0 ≤ g.n ∧ g.n ≤ 64) ∧ (g.t.length = 16 ∧ Bs g.t)
def evOk (g : Ev) : Prop := (0 ≤ g.n ∧ g.n ≤ 64) ∧ ((g.s.size : Int) ≤ 4194304 ∧ (g.t.length = 16 ∧ Bs g.t))
def vtOk (x : Vt) : Prop := (1 ≤ x.k ∧ x.k ≤ 2) ∧ ((0 ≤ x.e ∧ x.e ≤ 1048576) ∧ ((0 ≤ x.v ∧ x.v ≤ 1099511627776) ∧ ((0 ≤ x.s ∧ x.s ≤ 1099511627776) ∧ (x.d.length = 32 ∧ Bs x.d))))
theorem Codec.as {α : Type} {f f' : Rst → α × Rst} {enc enc' : α → List Int} {ok ok' : α → Prop} (p : Codec f enc ok) (hf : f' = f) (he : ∀ a, enc' a = enc a) (ho : ∀ a, ok' a ↔ ok a) : Codec f' enc' ok' := by
 subst hf
 obtain rfl : enc' = enc := funext he
 obtain rfl : ok' = ok := funext fun a => propext (ho a)
 exact p
theorem si_codec : Codec siS sgL sgOk :=
 (Codec.map (fun (c : Int × List Int) => (⟨c.1, c.2⟩ : Sg)) (fun g => (g.n, g.t)) (fun _ => rfl) (Codec.bind (nu_codec 64 (by decide)) (pad_codec 16 16 rfl))).as rfl (fun _ => rfl) (fun a => ⟨fun h => ⟨h, rfl⟩, fun h => h.1⟩)
theorem en_codec : Codec enS evL evOk :=
 (Codec.map (fun (c : Int × (ByteArray × List Int)) => (⟨c.1, c.2.1, c.2.2⟩ : Ev)) (fun g => (g.n, (g.s, g.t))) (fun _ => rfl) (Codec.bind (nu_codec 64 (by decide)) (Codec.bind (tx_codec 4194304 (by decide)) (pad_codec 16 16 rfl)))).as rfl (fun _ => rfl) (fun a => ⟨fun h => ⟨h, rfl⟩, fun h => h.1⟩)
theorem vo_codec : Codec voS vtL vtOk :=
 (Codec.map (fun (c : Int × (Int × (Int × (Int × List Int)))) => (⟨c.1, c.2.1, c.2.2.1, c.2.2.2.1, c.2.2.2.2⟩ : Vt)) (fun x => (x.k, (x.e, (x.v, (x.s, x.d))))) (fun _ => rfl) (Codec.bind (ki_codec 2 (by decide)) (Codec.bind (nu_codec 1048576 (by decide)) (Codec.bind (nu_codec 1099511627776 (by decide)) (Codec.bind (nu_codec 1099511627776 (by decide)) (pad_codec 32 32 rfl)))))).as rfl (fun x => by simp [vtL, List.append_assoc]) (fun a => ⟨fun h => ⟨h, rfl⟩, fun h => h.1⟩)
theorem ls_codec {α : Type} {one : Rst → α × Rst} {enc : α → List Int} {ok : α → Prop} (most : Int) (hm : most ≤ 1000) (p : Codec one enc ok) : Codec (lsS most one) (fun xs => putL xs.length ++ xs.flatMap enc) (fun xs => (xs.length : Int) ≤ most ∧ ∀ x ∈ xs, ok x) := by
 have pn := nu_codec most (by omega)
 refine ⟨fun s h => ?_, fun xs q h => ?_, fun r hb hc => ?_⟩
 ·have c := pn.bad s h
  show cod (itG one (nuS most s).2 _).2 = _
  rw [itG_bad p.bad (by rw [c]; exact h), c]
 ·show itG one (nuS most (putL xs.length ++ xs.flatMap enc ++ q, 0, false)).2 (nuS most (putL xs.length ++ xs.flatMap enc ++ q, 0, false)).1.toNat = _
  rw [List.append_assoc, pn.back _ _ ⟨by omega, h.1⟩]
  show itG one (xs.flatMap enc ++ q, 0, false) (xs.length : Int).toNat = _
  rw [Int.toNat_natCast, it_back p q xs h.2 xs.length (Nat.le_refl _)]
  simp
 ·have hc : cod (itG one (nuS most (r, 0, false)).2 (nuS most (r, 0, false)).1.toNat).2 = 0 := hc
  have c0 : cod (nuS most (r, 0, false)).2 = 0 := by
   by_cases c : cod (nuS most (r, 0, false)).2 = 0
   ·exact c
   ·exact absurd ((itG_bad p.bad c _).symm.trans hc) c
  obtain ⟨n, q, k1, k2, k3⟩ := pn.form r hb c0
  rw [k2] at hc
  obtain ⟨xs, q', h1, h2, h3, h4⟩ := it_form p q (by rw [k3] at hb; exact hb.right) _ hc
  have hn : ((xs.length : Nat) : Int) = n := by rw [h1]; have := k1.1; omega
  refine ⟨xs, q', ⟨by rw [hn]; exact k1.2, h2⟩, ?_, by rw [hn, k3, h4, List.append_assoc]⟩
  show itG one (nuS most (r, 0, false)).2 (nuS most (r, 0, false)).1.toNat = _
  rw [k2]
  exact h3
theorem Codec.same {α : Type} {f f' : Rst → α × Rst} {enc : α → List Int} {ok : α → Prop} (p : Codec f enc ok) (h2 : ∀ s, (f' s).2 = (f s).2) (h1 : ∀ r, cod (f (r, 0, false)).2 = 0 → (f' (r, 0, false)).1 = (f (r, 0, false)).1) : Codec f' enc ok := by
 refine ⟨fun s h => by rw [h2]; exact p.bad s h, fun a q h => ?_, fun r hb hc => ?_⟩
 ·have e := p.back a q h
  have c0 : cod (f (enc a ++ q, 0, false)).2 = 0 := by rw [e]; rfl
  rw [← e]
  exact Prod.ext (h1 _ c0) (h2 _)
 ·rw [h2] at hc
  obtain ⟨a, q, k1, k2, k3⟩ := p.form r hb hc
  exact ⟨a, q, k1, by rw [← k2]; exact Prod.ext (h1 _ hc) (h2 _), k3⟩
def rqS (s : Rst) : Rq × Rst := ((rqOf (rgetR s.1 s.2.1)).un, (rgetR s.1 s.2.1).rest, (rgetR s.1 s.2.1).err, s.2.2)
def rqOk (r : Rq) : Prop := (0 ≤ r.c ∧ r.c ≤ 8) ∧ ((0 ≤ r.n ∧ r.n ≤ 1099511627776) ∧ ((r.s.size : Int) ≤ 64 ∧ (r.t.length = 16 ∧ Bs r.t)))
def rqL (r : Rq) : List Int := (BRq.of r).bytes
theorem rq_codec : Codec rqS rqL rqOk := by
 refine Codec.same (f := fun s => _) ((Codec.map (fun (c : Int × (Int × (ByteArray × List Int))) => (⟨c.1, c.2.1, c.2.2.1, c.2.2.2⟩ : Rq)) (fun r => (r.c, (r.n, (r.s, r.t)))) (fun _ => rfl) (Codec.bind (nu_codec 8 (by decide)) (Codec.bind (nu_codec 1099511627776 (by decide)) (Codec.bind (tx_codec 64 (by decide)) (pad_codec 16 16 rfl))))).as rfl (fun r => by simp [rqL, BRq.bytes, BRq.of, List.append_assoc]) (fun a => ⟨fun h => ⟨h, rfl⟩, fun h => h.1⟩)) (fun _ => rfl) (fun r hc => ?_)
 have he : (rgetR r 0).err = 0 := (cod0 (z := false) hc).2
 have e0 : rqOf (rgetR r 0) = ⟨(rgetR r 0).c, (rgetR r 0).n, strOf (rgetR r 0).s, (rgetR r 0).t⟩ := by
  unfold rqOf
  rw [if_pos he]
 show (rqOf (rgetR r 0)).un = _
 rw [e0]
 have hl := (rawS_16 _ _).2 (show (rawS (textS (numS (numS r 0 8).2.1 (numS r 0 8).2.2 1099511627776).2.1 (numS (numS r 0 8).2.1 (numS r 0 8).2.2 1099511627776).2.2 64).2.1 (textS (numS (numS r 0 8).2.1 (numS r 0 8).2.2 1099511627776).2.1 (numS (numS r 0 8).2.1 (numS r 0 8).2.2 1099511627776).2.2 64).2.2 16).2.2 = 0 from he)
 have ep : padN 16 (rawS (textS (numS (numS r 0 8).2.1 (numS r 0 8).2.2 1099511627776).2.1 (numS (numS r 0 8).2.1 (numS r 0 8).2.2 1099511627776).2.2 64).2.1 (textS (numS (numS r 0 8).2.1 (numS r 0 8).2.2 1099511627776).2.1 (numS (numS r 0 8).2.1 (numS r 0 8).2.2 1099511627776).2.2 64).2.2 16).1 = (rawS (textS (numS (numS r 0 8).2.1 (numS r 0 8).2.2 1099511627776).2.1 (numS (numS r 0 8).2.1 (numS r 0 8).2.2 1099511627776).2.2 64).2.1 (textS (numS (numS r 0 8).2.1 (numS r 0 8).2.2 1099511627776).2.1 (numS (numS r 0 8).2.1 (numS r 0 8).2.2 1099511627776).2.2 64).2.2 16).1 := by
  unfold padN
  rw [if_pos hl]
 show (⟨_, _, _, (rawS (textS (numS (numS r 0 8).2.1 (numS r 0 8).2.2 1099511627776).2.1 (numS (numS r 0 8).2.1 (numS r 0 8).2.2 1099511627776).2.2 64).2.1 (textS (numS (numS r 0 8).2.1 (numS r 0 8).2.2 1099511627776).2.1 (numS (numS r 0 8).2.1 (numS r 0 8).2.2 1099511627776).2.2 64).2.2 16).1⟩ : Rq) = ⟨_, _, _, padN 16 (rawS (textS (numS (numS r 0 8).2.1 (numS r 0 8).2.2 1099511627776).2.1 (numS (numS r 0 8).2.1 (numS r 0 8).2.2 1099511627776).2.2 64).2.1 (textS (numS (numS r 0 8).2.1 (numS r 0 8).2.2 1099511627776).2.1 (numS (numS r 0 8).2.1 (numS r 0 8).2.2 1099511627776).2.2 64).2.2 16).1⟩
 rw [ep]
 rfl
theorem it_getRs (k : Nat) (r : List Int) (e : Int) (z : Bool) : itG rqS (r, e, z) k = ((getRs k r e).1.map BRq.un, (getRs k r e).2.1, (getRs k r e).2.2, z) := by
  induction k with
  | zero => rfl
  | succ k ih =>
    show ((itG rqS (r, e, z) k).1 ++ [(rqS (itG rqS (r, e, z) k).2).1], (rqS (itG rqS (r, e, z) k).2).2) = _
    rw [ih]
    show ((getRs k r e).1.map BRq.un ++ [(rqOf (rgetR (getRs k r e).2.1 (getRs k r e).2.2)).un], _) = (((getRs k r e).1 ++ [rqOf (rgetR (getRs k r e).2.1 (getRs k r e).2.2)]).map BRq.un, _)
    rw [List.map_append]
    rfl
def baL (c : Bool × List Rq) : List Int := batL c.1 (c.2.map BRq.of)
def baOk (c : Bool × List Rq) : Prop := (c.1 = true → c.2 = []) ∧ (c.2.length ≤ 4 ∧ ∀ r ∈ c.2, rqOk r)
theorem ba_codec : Codec baS baL baOk := by
 refine ⟨fun s h => ?_, fun c t hc => ?_, fun r hb hc => ?_⟩
 ·obtain ⟨r, e, z⟩ := s
  cases z
  ·have h : e ≠ 0 := h
   show (getB r e).err = e
   have h1 := numS_bad 5 r e h
   have h2 : (numS r e 5).1 = 0 := numS_zero (by rw [h1]; exact h)
   unfold getB
   rw [if_pos h2]
   exact h1
  ·rfl
 ·obtain ⟨q, rs⟩ := c
  obtain ⟨h1, h2, h3⟩ := hc
  show (((getB (batL q (rs.map BRq.of) ++ t) 0).q, (getB (batL q (rs.map BRq.of) ++ t) 0).rs.map BRq.un), (getB (batL q (rs.map BRq.of) ++ t) 0).rest, (getB (batL q (rs.map BRq.of) ++ t) 0).err, false) = _
  cases q
  ·have e : batL false (rs.map BRq.of) = putL ((rs.length : Int) + 1) ++ rs.flatMap rqL := by
    unfold batL
    rw [if_neg (by decide), List.length_map, List.flatMap_map]
    rfl
   have h2 : rs.length ≤ 4 := h2
   rw [e, List.append_assoc]
   have hn := numS_back ((rs.length : Int) + 1) 5 (by omega) (by omega) (by omega) (rs.flatMap rqL ++ t)
   have hi := it_back rq_codec t rs h3 rs.length (Nat.le_refl _)
   rw [it_getRs] at hi
   simp only [List.take_length, List.drop_length, List.flatMap_nil, List.nil_append, Prod.mk.injEq, and_true] at hi
   obtain ⟨i1, i2, i3⟩ := hi
   unfold getB
   rw [hn]
   simp only
   rw [if_neg (by omega), show ((rs.length : Int) + 1 - 1).toNat = rs.length by omega, if_pos i3]
   simp only
   rw [i1, i2, i3]
  ·obtain rfl : rs = [] := h1 rfl
   have hn := numS_back 0 5 (by omega) (by omega) (by omega) t
   have e : batL true (([] : List Rq).map BRq.of) = putL 0 := rfl
   rw [e]
   unfold getB
   rw [hn]
   rfl
 ·have he : (getB r 0).err = 0 := (cod0 (z := false) hc).2
  show ∃ a q, _ ∧ (((getB r 0).q, (getB r 0).rs.map BRq.un), (getB r 0).rest, (getB r 0).err, false) = _ ∧ _
  have hn : (numS r 0 5).2.2 = 0 := by
   by_cases c : (numS r 0 5).2.2 = 0
   ·exact c
   ·have h2 : (numS r 0 5).1 = 0 := numS_zero c
    unfold getB at he
    rw [if_pos h2] at he
    exact absurd he c
  obtain ⟨n, q, k1, k2, k3⟩ := num_form hb hn
  unfold getB at he ⊢
  rw [k2] at he ⊢
  simp only at he ⊢
  by_cases h0 : n = 0
  ·subst h0
   rw [if_pos rfl]
   exact ⟨(true, []), q, ⟨(fun _ => rfl), (by simp), (fun r hr => by cases hr)⟩, rfl, k3⟩
  ·rw [if_neg h0] at he ⊢
   have he : (getRs (n - 1).toNat q 0).2.2 = 0 := he
   have hc2 : cod (itG rqS (q, 0, false) (n - 1).toNat).2 = 0 := by rw [it_getRs]; exact he
   obtain ⟨xs, q', j1, j2, j3, j4⟩ := it_form rq_codec q (by rw [k3] at hb; exact hb.right) _ hc2
   rw [it_getRs] at j3
   simp only [Prod.mk.injEq, and_true] at j3
   obtain ⟨i1, i2, i3⟩ := j3
   refine ⟨(false, xs), q', ⟨(fun e => by cases e), (by show xs.length ≤ 4; omega), j2⟩, ?_, ?_⟩
   ·rw [if_pos he]
    simp only
    rw [i1, i2, i3]
   ·show r = batL false (xs.map BRq.of) ++ q'
    unfold batL
    rw [if_neg (by decide), List.length_map, List.flatMap_map, k3, j4, List.append_assoc, show ((xs.length : Nat) : Int) + 1 = n by omega]
    rfl
def ceOk (c : Vt × List Sg) : Prop := vtOk c.1 ∧ ((c.2.length : Int) ≤ 64 ∧ ∀ x ∈ c.2, sgOk x)
theorem ce_codec : Codec ceS (fun c => ctL c.1 c.2) ceOk := (Codec.bind vo_codec (ls_codec 64 (by decide) si_codec)).as rfl (fun _ => rfl) (fun _ => Iff.rfl)
def hpL (h : Hp) : List Int := baL (h.q, h.rs) ++ ctL h.vt h.sg
def hpOk (h : Hp) : Prop := baOk (h.q, h.rs) ∧ ceOk (h.vt, h.sg)
theorem he_codec : Codec heS hpL hpOk := (Codec.map (fun (c : (Bool × List Rq) × (Vt × List Sg)) => (⟨c.1.1, c.1.2, c.2.1, c.2.2⟩ : Hp)) (fun h => ((h.q, h.rs), (h.vt, h.sg))) (fun _ => rfl) (Codec.bind ba_codec ce_codec)).as rfl (fun _ => rfl) (fun a => ⟨fun h => ⟨h, rfl⟩, fun h => h.1⟩)
def cpL (c : Cp) : List Int := putL c.e ++ (putL c.l ++ (putL c.v ++ (putL c.he.length ++ c.he.flatMap hpL)))
def cpOk (c : Cp) : Prop := (0 ≤ c.e ∧ c.e ≤ 1048576) ∧ ((0 ≤ c.l ∧ c.l ≤ 64) ∧ ((0 ≤ c.v ∧ c.v ≤ 1099511627776) ∧ ((c.he.length : Int) ≤ 4 ∧ ∀ x ∈ c.he, hpOk x)))
theorem ch_codec : Codec chS cpL cpOk := (Codec.map (fun (c : Int × (Int × (Int × List Hp))) => (⟨c.1, c.2.1, c.2.2.1, c.2.2.2⟩ : Cp)) (fun c => (c.e, (c.l, (c.v, c.he)))) (fun _ => rfl) (Codec.bind (nu_codec 1048576 (by decide)) (Codec.bind (nu_codec 64 (by decide)) (Codec.bind (nu_codec 1099511627776 (by decide)) (ls_codec 4 (by decide) he_codec))))).as rfl (fun _ => rfl) (fun a => ⟨fun h => ⟨h, rfl⟩, fun h => h.1⟩)
def onlyP1 (c : Int × (Int × (Bool × List Rq))) : Mp := ⟨1, c.1, 0, 0, c.2.1, c.2.2.1, c.2.2.2, Vt.zero, 0, 0, 0, [], [], zeros32, Vt.zero, [], ⟨#[]⟩, []⟩
def body1 (m : Mp) : List Int := putL m.e ++ (putL m.s ++ baL (m.q, m.rs))
def kok1 (m : Mp) : Prop := ((0 ≤ m.e ∧ m.e ≤ 1048576) ∧ ((0 ≤ m.s ∧ m.s ≤ 1099511627776) ∧ baOk (m.q, m.rs))) ∧ onlyP1 (m.e, (m.s, (m.q, m.rs))) = m
theorem mg1_codec : Codec mg1 body1 kok1 := (Codec.map onlyP1 (fun m => (m.e, (m.s, (m.q, m.rs)))) (fun _ => rfl) (Codec.bind (nu_codec 1048576 (by decide)) (Codec.bind (nu_codec 1099511627776 (by decide)) ba_codec))).as rfl (fun _ => rfl) (fun _ => Iff.rfl)
def onlyP2 (c : Vt) : Mp := ⟨2, 0, 0, 0, 0, false, [], c, 0, 0, 0, [], [], zeros32, Vt.zero, [], ⟨#[]⟩, []⟩
def body2 (m : Mp) : List Int := vtL m.vt
def kok2 (m : Mp) : Prop := (vtOk m.vt) ∧ onlyP2 m.vt = m
theorem mg2_codec : Codec mg2 body2 kok2 := (Codec.map onlyP2 (fun m => m.vt) (fun _ => rfl) vo_codec).as rfl (fun _ => rfl) (fun _ => Iff.rfl)
def onlyP3 (c : Cp) : Mp := ⟨3, 0, 0, 0, 0, false, [], Vt.zero, c.e, c.l, c.v, c.he, [], zeros32, Vt.zero, [], ⟨#[]⟩, []⟩
def body3 (m : Mp) : List Int := cpL ⟨m.ce, m.cl, m.cv, m.he⟩
def kok3 (m : Mp) : Prop := (cpOk ⟨m.ce, m.cl, m.cv, m.he⟩) ∧ onlyP3 ⟨m.ce, m.cl, m.cv, m.he⟩ = m
theorem mg3_codec : Codec mg3 body3 kok3 := (Codec.map onlyP3 (fun m => ⟨m.ce, m.cl, m.cv, m.he⟩) (fun _ => rfl) ch_codec).as rfl (fun _ => rfl) (fun _ => Iff.rfl)
def onlyP4 (c : Int × (Int × (Int × List Ev))) : Mp := ⟨4, c.1, c.2.1, c.2.2.1, 0, false, [], Vt.zero, 0, 0, 0, [], c.2.2.2, zeros32, Vt.zero, [], ⟨#[]⟩, []⟩
def body4 (m : Mp) : List Int := putL m.e ++ (putL m.l ++ (putL m.v ++ evsL m.ne))
def kok4 (m : Mp) : Prop := ((0 ≤ m.e ∧ m.e ≤ 1048576) ∧ ((0 ≤ m.l ∧ m.l ≤ 64) ∧ ((0 ≤ m.v ∧ m.v ≤ 1099511627776) ∧ ((m.ne.length : Int) ≤ 64 ∧ ∀ x ∈ m.ne, evOk x)))) ∧ onlyP4 (m.e, (m.l, (m.v, m.ne))) = m
theorem mg4_codec : Codec mg4 body4 kok4 := (Codec.map onlyP4 (fun m => (m.e, (m.l, (m.v, m.ne)))) (fun _ => rfl) (Codec.bind (nu_codec 1048576 (by decide)) (Codec.bind (nu_codec 64 (by decide)) (Codec.bind (nu_codec 1099511627776 (by decide)) (ls_codec 64 (by decide) en_codec))))).as rfl (fun _ => rfl) (fun _ => Iff.rfl)
def onlyP5 (c : Int × List Int) : Mp := ⟨5, c.1, 0, 0, 0, false, [], Vt.zero, 0, 0, 0, [], [], c.2, Vt.zero, [], ⟨#[]⟩, []⟩
def body5 (m : Mp) : List Int := putL m.e ++ m.d
def kok5 (m : Mp) : Prop := ((0 ≤ m.e ∧ m.e ≤ 1048576) ∧ (m.d.length = 32 ∧ Bs m.d)) ∧ onlyP5 (m.e, m.d) = m
theorem mg5_codec : Codec mg5 body5 kok5 := (Codec.map onlyP5 (fun m => (m.e, m.d)) (fun _ => rfl) (Codec.bind (nu_codec 1048576 (by decide)) (pad_codec 32 32 rfl))).as rfl (fun _ => rfl) (fun _ => Iff.rfl)
def onlyP6 (c : Int × Int) : Mp := ⟨6, c.1, 0, 0, c.2, false, [], Vt.zero, 0, 0, 0, [], [], zeros32, Vt.zero, [], ⟨#[]⟩, []⟩
def body6 (m : Mp) : List Int := putL m.e ++ putL m.s
def kok6 (m : Mp) : Prop := ((0 ≤ m.e ∧ m.e ≤ 1048576) ∧ (0 ≤ m.s ∧ m.s ≤ 1099511627776)) ∧ onlyP6 (m.e, m.s) = m
theorem mg6_codec : Codec mg6 body6 kok6 := (Codec.map onlyP6 (fun m => (m.e, m.s)) (fun _ => rfl) (Codec.bind (nu_codec 1048576 (by decide)) (nu_codec 1099511627776 (by decide)))).as rfl (fun _ => rfl) (fun _ => Iff.rfl)
def onlyP7 (c : (Bool × List Rq) × (Vt × List Sg)) : Mp := ⟨7, 0, 0, 0, 0, c.1.1, c.1.2, Vt.zero, 0, 0, 0, [], [], zeros32, c.2.1, c.2.2, ⟨#[]⟩, []⟩
def body7 (m : Mp) : List Int := baL (m.q, m.rs) ++ ctL m.ct m.cs
def kok7 (m : Mp) : Prop := (baOk (m.q, m.rs) ∧ ceOk (m.ct, m.cs)) ∧ onlyP7 ((m.q, m.rs), (m.ct, m.cs)) = m
theorem mg7_codec : Codec mg7 body7 kok7 := (Codec.map onlyP7 (fun m => ((m.q, m.rs), (m.ct, m.cs))) (fun _ => rfl) (Codec.bind ba_codec ce_codec)).as rfl (fun _ => rfl) (fun _ => Iff.rfl)
def onlyP8 (c : ByteArray × List Sg) : Mp := ⟨8, 0, 0, 0, 0, false, [], Vt.zero, 0, 0, 0, [], [], zeros32, Vt.zero, [], c.1, c.2⟩
def body8 (m : Mp) : List Int := textL m.st ++ sgsL m.sg
def kok8 (m : Mp) : Prop := ((m.st.size : Int) ≤ 4194304 ∧ ((m.sg.length : Int) ≤ 64 ∧ ∀ x ∈ m.sg, sgOk x)) ∧ onlyP8 (m.st, m.sg) = m
theorem mg8_codec : Codec mg8 body8 kok8 := (Codec.map onlyP8 (fun m => (m.st, m.sg)) (fun _ => rfl) (Codec.bind (tx_codec 4194304 (by decide)) (ls_codec 64 (by decide) si_codec))).as rfl (fun _ => rfl) (fun _ => Iff.rfl)
def Mp.bytes (m : Mp) : List Int := putL m.k ++ (if m.k = 1 then body1 m else if m.k = 2 then body2 m else if m.k = 3 then body3 m else if m.k = 4 then body4 m else if m.k = 5 then body5 m else if m.k = 6 then body6 m else if m.k = 7 then body7 m else body8 m)
def Mp.good (m : Mp) : Prop := (m.k = 1 ∧ kok1 m) ∨ (m.k = 2 ∧ kok2 m) ∨ (m.k = 3 ∧ kok3 m) ∨ (m.k = 4 ∧ kok4 m) ∨ (m.k = 5 ∧ kok5 m) ∨ (m.k = 6 ∧ kok6 m) ∨ (m.k = 7 ∧ kok7 m) ∨ (m.k = 8 ∧ kok8 m)
theorem done0 (q : List Int) : faE (q, 0, false) = if q.length = 0 then 0 else 12 := rfl
theorem mgS_back {m : Mp} (h : m.good) (q : List Int) : mgS (m.bytes ++ q, 0, false) = (m, q, 0, false) := by
 have hk : 1 ≤ m.k ∧ m.k ≤ 8 := by
  rcases h with h | h | h | h | h | h | h | h <;> (have := h.1; omega)
 have kb := (ki_codec 8 (by decide)).back m.k
 unfold mgS Mp.bytes
 rw [List.append_assoc, kb _ hk]
 simp only
 rcases h with ⟨h, k⟩ | ⟨h, k⟩ | ⟨h, k⟩ | ⟨h, k⟩ | ⟨h, k⟩ | ⟨h, k⟩ | ⟨h, k⟩ | ⟨h, k⟩
 ·rw [h]
  exact mg1_codec.back m q k
 ·rw [h]
  exact mg2_codec.back m q k
 ·rw [h]
  exact mg3_codec.back m q k
 ·rw [h]
  exact mg4_codec.back m q k
 ·rw [h]
  exact mg5_codec.back m q k
 ·rw [h]
  exact mg6_codec.back m q k
 ·rw [h]
  exact mg7_codec.back m q k
 ·rw [h]
  exact mg8_codec.back m q k
theorem dec_more {m : Mp} (h : m.good) (q : List Int) : decS (m.bytes ++ q) = if q.length = 0 then (m, 0) else (Mp.none, 12) := by
 unfold decS
 rw [mgS_back h q, done0]
 by_cases c : q.length = 0
 ·rw [if_pos c, if_pos rfl, if_pos c]
 ·rw [if_neg c, if_neg (by decide), if_neg c]
theorem dec_back {m : Mp} (h : m.good) : decS m.bytes = (m, 0) := by
 have := dec_more h []
 rw [List.append_nil] at this
 exact this
theorem dec_form {zs : List Int} (hb : Bs zs) (h : (decS zs).2 = 0) : (decS zs).1.good ∧ zs = (decS zs).1.bytes := by
 have hf : faE (mgS (zs, 0, false)).2 = 0 := by
  by_cases c : faE (mgS (zs, 0, false)).2 = 0
  ·exact c
  ·unfold decS at h
   rw [if_neg c] at h
   exact h
 have hd : decS zs = ((mgS (zs, 0, false)).1, 0) := by
  unfold decS
  rw [if_pos hf]
 rw [hd]
 simp only
 have hc : cod (mgS (zs, 0, false)).2 = 0 := by
  generalize (mgS (zs, 0, false)).2 = s at hf
  obtain ⟨r, e, z⟩ := s
  cases z
  ·show e = 0
   have hf : doneE r e = 0 := hf
   unfold doneE at hf
   by_cases c : e = 0
   ·exact c
   ·rw [if_neg c] at hf; exact hf
  ·exact absurd hf (show (130 : Int) ≠ 0 by decide)
 have hr : (mgS (zs, 0, false)).2.1 = [] := by
  generalize (mgS (zs, 0, false)).2 = s at hf hc
  obtain ⟨r, e, z⟩ := s
  obtain ⟨rfl, rfl⟩ := cod0 hc
  rw [done0] at hf
  by_cases c : r.length = 0
  ·exact List.eq_nil_of_length_eq_zero c
  ·rw [if_neg c] at hf; exact absurd hf (by decide)
 have hbad : ∀ k s, cod s ≠ 0 → cod (mgF k s).2 = cod s := fun k s hs => by
  unfold mgF
  by_cases n1 : k = 1
  ·rw [if_pos n1]; exact mg1_codec.bad s hs
  rw [if_neg n1]
  by_cases n2 : k = 2
  ·rw [if_pos n2]; exact mg2_codec.bad s hs
  rw [if_neg n2]
  by_cases n3 : k = 3
  ·rw [if_pos n3]; exact mg3_codec.bad s hs
  rw [if_neg n3]
  by_cases n4 : k = 4
  ·rw [if_pos n4]; exact mg4_codec.bad s hs
  rw [if_neg n4]
  by_cases n5 : k = 5
  ·rw [if_pos n5]; exact mg5_codec.bad s hs
  rw [if_neg n5]
  by_cases n6 : k = 6
  ·rw [if_pos n6]; exact mg6_codec.bad s hs
  rw [if_neg n6]
  by_cases n7 : k = 7
  ·rw [if_pos n7]; exact mg7_codec.bad s hs
  rw [if_neg n7]
  by_cases n8 : k = 8
  ·rw [if_pos n8]; exact mg8_codec.bad s hs
  rw [if_neg n8]
 unfold mgS at hc hr ⊢
 have ck : cod (kiS 8 (zs, 0, false)).2 = 0 := by
  by_cases c : cod (kiS 8 (zs, 0, false)).2 = 0
  ·exact c
  ·exact absurd ((hbad _ _ c).symm.trans hc) c
 obtain ⟨k, q, k1, k2, k3⟩ := (ki_codec 8 (by decide)).form zs hb ck
 rw [k2] at hc hr ⊢
 simp only at hc hr ⊢
 have hbq : Bs q := by rw [k3] at hb; exact hb.right
 unfold mgF at hc hr ⊢
 by_cases n1 : k = 1
 ·rw [if_pos n1] at hc hr ⊢
  obtain ⟨m, q', j1, j2, j3⟩ := mg1_codec.form q hbq hc
  rw [j2] at hr ⊢
  simp only at hr ⊢
  have hmk : m.k = 1 := by rw [← j1.2]; rfl
  refine ⟨.inl ⟨hmk, j1⟩, ?_⟩
  have eb : m.bytes = putL 1 ++ body1 m := by unfold Mp.bytes; rw [hmk]; rfl
  rw [eb, k3, j3, hr, List.append_nil, n1]
 rw [if_neg n1] at hc hr ⊢
 by_cases n2 : k = 2
 ·rw [if_pos n2] at hc hr ⊢
  obtain ⟨m, q', j1, j2, j3⟩ := mg2_codec.form q hbq hc
  rw [j2] at hr ⊢
  simp only at hr ⊢
  have hmk : m.k = 2 := by rw [← j1.2]; rfl
  refine ⟨.inr (.inl ⟨hmk, j1⟩), ?_⟩
  have eb : m.bytes = putL 2 ++ body2 m := by unfold Mp.bytes; rw [hmk]; rfl
  rw [eb, k3, j3, hr, List.append_nil, n2]
 rw [if_neg n2] at hc hr ⊢
 by_cases n3 : k = 3
 ·rw [if_pos n3] at hc hr ⊢
  obtain ⟨m, q', j1, j2, j3⟩ := mg3_codec.form q hbq hc
  rw [j2] at hr ⊢
  simp only at hr ⊢
  have hmk : m.k = 3 := by rw [← j1.2]; rfl
  refine ⟨.inr (.inr (.inl ⟨hmk, j1⟩)), ?_⟩
  have eb : m.bytes = putL 3 ++ body3 m := by unfold Mp.bytes; rw [hmk]; rfl
  rw [eb, k3, j3, hr, List.append_nil, n3]
 rw [if_neg n3] at hc hr ⊢
 by_cases n4 : k = 4
 ·rw [if_pos n4] at hc hr ⊢
  obtain ⟨m, q', j1, j2, j3⟩ := mg4_codec.form q hbq hc
  rw [j2] at hr ⊢
  simp only at hr ⊢
  have hmk : m.k = 4 := by rw [← j1.2]; rfl
  refine ⟨.inr (.inr (.inr (.inl ⟨hmk, j1⟩))), ?_⟩
  have eb : m.bytes = putL 4 ++ body4 m := by unfold Mp.bytes; rw [hmk]; rfl
  rw [eb, k3, j3, hr, List.append_nil, n4]
 rw [if_neg n4] at hc hr ⊢
 by_cases n5 : k = 5
 ·rw [if_pos n5] at hc hr ⊢
  obtain ⟨m, q', j1, j2, j3⟩ := mg5_codec.form q hbq hc
  rw [j2] at hr ⊢
  simp only at hr ⊢
  have hmk : m.k = 5 := by rw [← j1.2]; rfl
  refine ⟨.inr (.inr (.inr (.inr (.inl ⟨hmk, j1⟩)))), ?_⟩
  have eb : m.bytes = putL 5 ++ body5 m := by unfold Mp.bytes; rw [hmk]; rfl
  rw [eb, k3, j3, hr, List.append_nil, n5]
 rw [if_neg n5] at hc hr ⊢
 by_cases n6 : k = 6
 ·rw [if_pos n6] at hc hr ⊢
  obtain ⟨m, q', j1, j2, j3⟩ := mg6_codec.form q hbq hc
  rw [j2] at hr ⊢
  simp only at hr ⊢
  have hmk : m.k = 6 := by rw [← j1.2]; rfl
  refine ⟨.inr (.inr (.inr (.inr (.inr (.inl ⟨hmk, j1⟩))))), ?_⟩
  have eb : m.bytes = putL 6 ++ body6 m := by unfold Mp.bytes; rw [hmk]; rfl
  rw [eb, k3, j3, hr, List.append_nil, n6]
 rw [if_neg n6] at hc hr ⊢
 by_cases n7 : k = 7
 ·rw [if_pos n7] at hc hr ⊢
  obtain ⟨m, q', j1, j2, j3⟩ := mg7_codec.form q hbq hc
  rw [j2] at hr ⊢
  simp only at hr ⊢
  have hmk : m.k = 7 := by rw [← j1.2]; rfl
  refine ⟨.inr (.inr (.inr (.inr (.inr (.inr (.inl ⟨hmk, j1⟩)))))), ?_⟩
  have eb : m.bytes = putL 7 ++ body7 m := by unfold Mp.bytes; rw [hmk]; rfl
  rw [eb, k3, j3, hr, List.append_nil, n7]
 rw [if_neg n7] at hc hr ⊢
 by_cases n8 : k = 8
 ·rw [if_pos n8] at hc hr ⊢
  obtain ⟨m, q', j1, j2, j3⟩ := mg8_codec.form q hbq hc
  rw [j2] at hr ⊢
  simp only at hr ⊢
  have hmk : m.k = 8 := by rw [← j1.2]; rfl
  refine ⟨.inr (.inr (.inr (.inr (.inr (.inr (.inr (⟨hmk, j1⟩))))))), ?_⟩
  have eb : m.bytes = putL 8 ++ body8 m := by unfold Mp.bytes; rw [hmk]; rfl
  rw [eb, k3, j3, hr, List.append_nil, n8]
 rw [if_neg n8] at hc hr ⊢
 omega
theorem sameL_eqv {α β : Type} {B : α → α → Bool} {f : α → β} (h : ∀ x y, f x = f y → B x y = true) : ∀ xs ys : List α, xs.map f = ys.map f → sameL B xs ys = true
  | [], [], _ => rfl
  | x :: xs, y :: ys, e => by
    simp only [List.map_cons, List.cons.injEq] at e
    unfold sameL
    rw [h x y e.1, sameL_eqv h xs ys e.2]
    rfl
  | [], y :: ys, e => by cases e
  | x :: xs, [], e => by cases e
theorem certB_eqv {x y : Vt} {s t : Sl Sg} (h : x = y) (h2 : s.xs = t.xs) : certB x s y t = true := by
 unfold certB
 rw [vtB_iff.2 h, (sameL_iff (fun x y => Sg.B_iff) _ _).2 h2]
 rfl
theorem batB_eqv {q r : Bool} {x y : Sl Rq} (h : q = r) (h2 : x.xs = y.xs) : batB q x r y = true := by
 unfold batB
 rw [h, (sameL_iff (fun x y => Rq.B_iff) _ _).2 h2]
 simp
theorem Hd.B_eqv (x y : Hd) (h : x.pure = y.pure) : Hd.B x y = true := by
 unfold Hd.pure at h
 simp only [Hp.mk.injEq] at h
 obtain ⟨h1, h2, h3, h4⟩ := h
 unfold Hd.B
 rw [batB_eqv h1 h2, certB_eqv h3 h4]
 rfl
theorem Mg.B_eqv (a b : Mg) (h : a.pure = b.pure) : Mg.B a b = true := by
 unfold Mg.pure at h
 simp only [Mp.mk.injEq] at h
 obtain ⟨h1, h2, h3, h4, h5, h6, h7, h8, h9, h10, h11, h12, h13, h14, h15, h16, h17, h18⟩ := h
 unfold Mg.B Mg.nB Mg.fB Mg.lB chgB
 rw [vtB_iff.2 h8, batB_eqv h6 h7, certB_eqv h15 h16, (sameL_iff (fun x y => Ev.B_iff) _ _).2 h13, (sameL_iff (fun x y => Sg.B_iff) _ _).2 h18, sameL_eqv Hd.B_eqv _ _ h12, h1, h2, h3, h4, h5, h9, h10, h11, h14, h17]
 simp
theorem may_sg {g : Sg} (h : sgOk g) : g.may = true := inB_iff.2 h.1
theorem may_ev {g : Ev} (h : evOk g) : g.may = true := by
 unfold Ev.may
 rw [inB_iff.2 h.1, decide_eq_true h.2.1]
 rfl
theorem may_rq {g : Rq} (h : rqOk g) : g.may = true := by
 unfold Rq.may
 rw [inB_iff.2 h.1, inB_iff.2 h.2.1, decide_eq_true h.2.2.1]
 rfl
theorem may_vt {x : Vt} (h : vtOk x) : x.may = true := by
 obtain ⟨h1, h2, h3, h4, _⟩ := h
 unfold Vt.may
 rw [inB_iff.2 h2, inB_iff.2 h3, inB_iff.2 h4]
 have : x.k = 1 ∨ x.k = 2 := by omega
 rcases this with q | q <;> simp [q]
theorem mayL_iff {α : Type} {most : Int} {p : α → Bool} {xs : List α} : mayL most p xs = true ↔ (xs.length : Int) ≤ most ∧ ∀ x ∈ xs, p x = true := by
 unfold mayL
 rw [Bool.and_eq_true, decide_eq_true_iff, List.all_eq_true]
theorem may_bat {q : Bool} {x : Sl Rq} (h : baOk (q, x.xs)) : batMay q x = true := by
 unfold batMay
 cases q
 ·have h2 : x.xs.length ≤ 4 := h.2.1
  exact mayL_iff.2 ⟨by omega, fun r hr => may_rq (h.2.2 r hr)⟩
 ·have e : x.xs = [] := h.1 rfl
  rw [if_pos rfl, e]
  rfl
theorem may_sgs {x : Sl Sg} (h : (x.xs.length : Int) ≤ 64 ∧ ∀ y ∈ x.xs, sgOk y) : sgsMay x = true := mayL_iff.2 ⟨h.1, fun y hy => may_sg (h.2 y hy)⟩
theorem may_cert {v : Vt} {x : Sl Sg} (h : ceOk (v, x.xs)) : certMay v x = true := by
 unfold certMay
 rw [may_vt h.1, may_sgs h.2]
 rfl
theorem may_hd {h : Hd} (k : hpOk h.pure) : h.may = true := by
 unfold Hd.may
 rw [may_bat (q := h.q) (x := h.rs) k.1, may_cert (v := h.vt) (x := h.sg) k.2]
 rfl
theorem may_chg {a b c : Int} {x : Sl Hd} (h : cpOk ⟨a, b, c, x.xs.map Hd.pure⟩) : chgMay a b c x = true := by
 obtain ⟨h1, h2, h3, h4, h5⟩ := h
 unfold chgMay
 rw [inB_iff.2 h1, inB_iff.2 h2, inB_iff.2 h3, mayL_iff.2 ⟨by have h4 : ((x.xs.map Hd.pure).length : Int) ≤ 4 := h4; rwa [List.length_map] at h4, fun g hg => may_hd (h5 _ (List.mem_map_of_mem hg))⟩]
 rfl
theorem hds_pure (xs : List Hd) : hdsL xs = putL ((xs.map Hd.pure).length) ++ (xs.map Hd.pure).flatMap hpL := by
 unfold hdsL
 rw [List.length_map, List.flatMap_map]
 rfl
theorem bytes_pure (m : Mg) (h : 1 ≤ m.k ∧ m.k ≤ 8) : m.bytes = m.pure.bytes := by
 have hk : m.k = 1 ∨ m.k = 2 ∨ m.k = 3 ∨ m.k = 4 ∨ m.k = 5 ∨ m.k = 6 ∨ m.k = 7 ∨ m.k = 8 := by omega
 show putL m.k ++ m.body = putL m.k ++ (if m.k = 1 then body1 m.pure else if m.k = 2 then body2 m.pure else if m.k = 3 then body3 m.pure else if m.k = 4 then body4 m.pure else if m.k = 5 then body5 m.pure else if m.k = 6 then body6 m.pure else if m.k = 7 then body7 m.pure else body8 m.pure)
 unfold Mg.body
 rcases hk with h | h | h | h | h | h | h | h <;> rw [h]
 ·have e : [m.e, m.s].flatMap putL ++ batL m.q (m.rs.xs.map BRq.of) = putL m.e ++ (putL m.s ++ baL (m.q, m.rs.xs)) := by simp [List.append_assoc, baL]
  exact congrArg (putL 1 ++ ·) e
 ·rfl
 ·have e : [m.ce, m.cl, m.cv].flatMap putL ++ hdsL m.he.xs = putL m.ce ++ (putL m.cl ++ (putL m.cv ++ (putL ((m.he.xs.map Hd.pure).length) ++ (m.he.xs.map Hd.pure).flatMap hpL))) := by rw [hds_pure]; simp [List.append_assoc]
  exact congrArg (putL 3 ++ ·) e
 ·have e : [m.e, m.l, m.v].flatMap putL ++ evsL m.ne.xs = putL m.e ++ (putL m.l ++ (putL m.v ++ evsL m.ne.xs)) := by simp [List.append_assoc]
  exact congrArg (putL 4 ++ ·) e
 ·rfl
 ·have e : [m.e, m.s].flatMap putL = putL m.e ++ putL m.s := by simp [List.append_assoc]
  exact congrArg (putL 6 ++ ·) e
 ·rfl
 ·rfl
theorem pure_good {x : Mg} (h : x.pure.good) : x.good = true := by
 rcases h with ⟨h, k, o⟩ | ⟨h, k, o⟩ | ⟨h, k, o⟩ | ⟨h, k, o⟩ | ⟨h, k, o⟩ | ⟨h, k, o⟩ | ⟨h, k, o⟩ | ⟨h, k, o⟩
 ·have hk : x.k = 1 := h
  have hp : x.pure = x.bare.pure := by rw [Mg.bare_1 hk]; exact o.symm
  have hB := Mg.B_eqv _ _ hp
  have o2 := o.symm
  unfold Mg.pure onlyP1 at o2
  simp only [Mp.mk.injEq, and_true, true_and] at o2
  unfold Mg.good
  rw [hB]
  have hd : decide (1 ≤ x.k ∧ x.k ≤ 8) = true := by rw [hk]; decide
  rw [hd]
  show x.may = true
  unfold Mg.may Mg.mayL
  rw [hk]
  obtain ⟨z_k, z_l, z_v, z_vt, z_ce, z_cl, z_cv, z_he, z_ne, z_d, z_ct, z_cs, z_st, z_sg⟩ := o2
  have w_e : inB x.e 1048576 = true := inB_iff.2 k.1
  have w_l : inB x.l 64 = true := by rw [z_l]; decide
  have w_v : inB x.v 1099511627776 = true := by rw [z_v]; decide
  have w_s : inB x.s 1099511627776 = true := inB_iff.2 k.2.1
  have w_b : batMay x.q x.rs = true := may_bat k.2.2
  have w_c : chgMay x.ce x.cl x.cv x.he = true := may_chg (by rw [z_ce, z_cl, z_cv, show x.he.xs.map Hd.pure = [] from z_he]; exact ⟨(by decide), (by decide), (by decide), (by simp), fun r hr => by cases hr⟩)
  have w_n : Go.Proofs.YtcbpbkefggekmaaGreatDoor.mayL 64 Ev.may x.ne.xs = true := by rw [z_ne]; rfl
  have w_t : decide ((x.st.size : Int) ≤ 4194304) = true := by rw [z_st]; rfl
  have w_g : sgsMay x.sg = true := may_sgs (by rw [z_sg]; exact ⟨(by simp), fun r hr => by cases hr⟩)
  have w_2 : (if (1 : Int) = 2 then x.vt.may else true) = true := rfl
  have w_7 : (if (1 : Int) = 7 then certMay x.ct x.cs else true) = true := rfl
  rw [w_e, w_l, w_v, w_s, w_b, w_c, w_n, w_t, w_g, w_2, w_7]
  rfl
 ·have hk : x.k = 2 := h
  have hp : x.pure = x.bare.pure := by rw [Mg.bare_2 hk]; exact o.symm
  have hB := Mg.B_eqv _ _ hp
  have o2 := o.symm
  unfold Mg.pure onlyP2 at o2
  simp only [Mp.mk.injEq, and_true, true_and] at o2
  unfold Mg.good
  rw [hB]
  have hd : decide (1 ≤ x.k ∧ x.k ≤ 8) = true := by rw [hk]; decide
  rw [hd]
  show x.may = true
  unfold Mg.may Mg.mayL
  rw [hk]
  obtain ⟨z_k, z_e, z_l, z_v, z_s, z_q, z_rs, z_ce, z_cl, z_cv, z_he, z_ne, z_d, z_ct, z_cs, z_st, z_sg⟩ := o2
  have w_e : inB x.e 1048576 = true := by rw [z_e]; decide
  have w_l : inB x.l 64 = true := by rw [z_l]; decide
  have w_v : inB x.v 1099511627776 = true := by rw [z_v]; decide
  have w_s : inB x.s 1099511627776 = true := by rw [z_s]; decide
  have w_b : batMay x.q x.rs = true := may_bat (by rw [z_q, z_rs]; exact ⟨(fun e => by cases e), (by simp), fun r hr => by cases hr⟩)
  have w_c : chgMay x.ce x.cl x.cv x.he = true := may_chg (by rw [z_ce, z_cl, z_cv, show x.he.xs.map Hd.pure = [] from z_he]; exact ⟨(by decide), (by decide), (by decide), (by simp), fun r hr => by cases hr⟩)
  have w_n : Go.Proofs.YtcbpbkefggekmaaGreatDoor.mayL 64 Ev.may x.ne.xs = true := by rw [z_ne]; rfl
  have w_t : decide ((x.st.size : Int) ≤ 4194304) = true := by rw [z_st]; rfl
  have w_g : sgsMay x.sg = true := may_sgs (by rw [z_sg]; exact ⟨(by simp), fun r hr => by cases hr⟩)
  have w_2 : (if (2 : Int) = 2 then x.vt.may else true) = true := may_vt k
  have w_7 : (if (2 : Int) = 7 then certMay x.ct x.cs else true) = true := rfl
  rw [w_e, w_l, w_v, w_s, w_b, w_c, w_n, w_t, w_g, w_2, w_7]
  rfl
 ·have hk : x.k = 3 := h
  have hp : x.pure = x.bare.pure := by rw [Mg.bare_3 hk]; exact o.symm
  have hB := Mg.B_eqv _ _ hp
  have o2 := o.symm
  unfold Mg.pure onlyP3 at o2
  simp only [Mp.mk.injEq, and_true, true_and] at o2
  unfold Mg.good
  rw [hB]
  have hd : decide (1 ≤ x.k ∧ x.k ≤ 8) = true := by rw [hk]; decide
  rw [hd]
  show x.may = true
  unfold Mg.may Mg.mayL
  rw [hk]
  obtain ⟨z_k, z_e, z_l, z_v, z_s, z_q, z_rs, z_vt, z_ne, z_d, z_ct, z_cs, z_st, z_sg⟩ := o2
  have w_e : inB x.e 1048576 = true := by rw [z_e]; decide
  have w_l : inB x.l 64 = true := by rw [z_l]; decide
  have w_v : inB x.v 1099511627776 = true := by rw [z_v]; decide
  have w_s : inB x.s 1099511627776 = true := by rw [z_s]; decide
  have w_b : batMay x.q x.rs = true := may_bat (by rw [z_q, z_rs]; exact ⟨(fun e => by cases e), (by simp), fun r hr => by cases hr⟩)
  have w_c : chgMay x.ce x.cl x.cv x.he = true := may_chg k
  have w_n : Go.Proofs.YtcbpbkefggekmaaGreatDoor.mayL 64 Ev.may x.ne.xs = true := by rw [z_ne]; rfl
  have w_t : decide ((x.st.size : Int) ≤ 4194304) = true := by rw [z_st]; rfl
  have w_g : sgsMay x.sg = true := may_sgs (by rw [z_sg]; exact ⟨(by simp), fun r hr => by cases hr⟩)
  have w_2 : (if (3 : Int) = 2 then x.vt.may else true) = true := rfl
  have w_7 : (if (3 : Int) = 7 then certMay x.ct x.cs else true) = true := rfl
  rw [w_e, w_l, w_v, w_s, w_b, w_c, w_n, w_t, w_g, w_2, w_7]
  rfl
 ·have hk : x.k = 4 := h
  have hp : x.pure = x.bare.pure := by rw [Mg.bare_4 hk]; exact o.symm
  have hB := Mg.B_eqv _ _ hp
  have o2 := o.symm
  unfold Mg.pure onlyP4 at o2
  simp only [Mp.mk.injEq, and_true, true_and] at o2
  unfold Mg.good
  rw [hB]
  have hd : decide (1 ≤ x.k ∧ x.k ≤ 8) = true := by rw [hk]; decide
  rw [hd]
  show x.may = true
  unfold Mg.may Mg.mayL
  rw [hk]
  obtain ⟨z_k, z_s, z_q, z_rs, z_vt, z_ce, z_cl, z_cv, z_he, z_d, z_ct, z_cs, z_st, z_sg⟩ := o2
  have w_e : inB x.e 1048576 = true := inB_iff.2 k.1
  have w_l : inB x.l 64 = true := inB_iff.2 k.2.1
  have w_v : inB x.v 1099511627776 = true := inB_iff.2 k.2.2.1
  have w_s : inB x.s 1099511627776 = true := by rw [z_s]; decide
  have w_b : batMay x.q x.rs = true := may_bat (by rw [z_q, z_rs]; exact ⟨(fun e => by cases e), (by simp), fun r hr => by cases hr⟩)
  have w_c : chgMay x.ce x.cl x.cv x.he = true := may_chg (by rw [z_ce, z_cl, z_cv, show x.he.xs.map Hd.pure = [] from z_he]; exact ⟨(by decide), (by decide), (by decide), (by simp), fun r hr => by cases hr⟩)
  have w_n : Go.Proofs.YtcbpbkefggekmaaGreatDoor.mayL 64 Ev.may x.ne.xs = true := mayL_iff.2 ⟨k.2.2.2.1, fun y hy => may_ev (k.2.2.2.2 y hy)⟩
  have w_t : decide ((x.st.size : Int) ≤ 4194304) = true := by rw [z_st]; rfl
  have w_g : sgsMay x.sg = true := may_sgs (by rw [z_sg]; exact ⟨(by simp), fun r hr => by cases hr⟩)
  have w_2 : (if (4 : Int) = 2 then x.vt.may else true) = true := rfl
  have w_7 : (if (4 : Int) = 7 then certMay x.ct x.cs else true) = true := rfl
  rw [w_e, w_l, w_v, w_s, w_b, w_c, w_n, w_t, w_g, w_2, w_7]
  rfl
 ·have hk : x.k = 5 := h
  have hp : x.pure = x.bare.pure := by rw [Mg.bare_5 hk]; exact o.symm
  have hB := Mg.B_eqv _ _ hp
  have o2 := o.symm
  unfold Mg.pure onlyP5 at o2
  simp only [Mp.mk.injEq, and_true, true_and] at o2
  unfold Mg.good
  rw [hB]
  have hd : decide (1 ≤ x.k ∧ x.k ≤ 8) = true := by rw [hk]; decide
  rw [hd]
  show x.may = true
  unfold Mg.may Mg.mayL
  rw [hk]
  obtain ⟨z_k, z_l, z_v, z_s, z_q, z_rs, z_vt, z_ce, z_cl, z_cv, z_he, z_ne, z_ct, z_cs, z_st, z_sg⟩ := o2
  have w_e : inB x.e 1048576 = true := inB_iff.2 k.1
  have w_l : inB x.l 64 = true := by rw [z_l]; decide
  have w_v : inB x.v 1099511627776 = true := by rw [z_v]; decide
  have w_s : inB x.s 1099511627776 = true := by rw [z_s]; decide
  have w_b : batMay x.q x.rs = true := may_bat (by rw [z_q, z_rs]; exact ⟨(fun e => by cases e), (by simp), fun r hr => by cases hr⟩)
  have w_c : chgMay x.ce x.cl x.cv x.he = true := may_chg (by rw [z_ce, z_cl, z_cv, show x.he.xs.map Hd.pure = [] from z_he]; exact ⟨(by decide), (by decide), (by decide), (by simp), fun r hr => by cases hr⟩)
  have w_n : Go.Proofs.YtcbpbkefggekmaaGreatDoor.mayL 64 Ev.may x.ne.xs = true := by rw [z_ne]; rfl
  have w_t : decide ((x.st.size : Int) ≤ 4194304) = true := by rw [z_st]; rfl
  have w_g : sgsMay x.sg = true := may_sgs (by rw [z_sg]; exact ⟨(by simp), fun r hr => by cases hr⟩)
  have w_2 : (if (5 : Int) = 2 then x.vt.may else true) = true := rfl
  have w_7 : (if (5 : Int) = 7 then certMay x.ct x.cs else true) = true := rfl
  rw [w_e, w_l, w_v, w_s, w_b, w_c, w_n, w_t, w_g, w_2, w_7]
  rfl
 ·have hk : x.k = 6 := h
  have hp : x.pure = x.bare.pure := by rw [Mg.bare_6 hk]; exact o.symm
  have hB := Mg.B_eqv _ _ hp
  have o2 := o.symm
  unfold Mg.pure onlyP6 at o2
  simp only [Mp.mk.injEq, and_true, true_and] at o2
  unfold Mg.good
  rw [hB]
  have hd : decide (1 ≤ x.k ∧ x.k ≤ 8) = true := by rw [hk]; decide
  rw [hd]
  show x.may = true
  unfold Mg.may Mg.mayL
  rw [hk]
  obtain ⟨z_k, z_l, z_v, z_q, z_rs, z_vt, z_ce, z_cl, z_cv, z_he, z_ne, z_d, z_ct, z_cs, z_st, z_sg⟩ := o2
  have w_e : inB x.e 1048576 = true := inB_iff.2 k.1
  have w_l : inB x.l 64 = true := by rw [z_l]; decide
  have w_v : inB x.v 1099511627776 = true := by rw [z_v]; decide
  have w_s : inB x.s 1099511627776 = true := inB_iff.2 k.2
  have w_b : batMay x.q x.rs = true := may_bat (by rw [z_q, z_rs]; exact ⟨(fun e => by cases e), (by simp), fun r hr => by cases hr⟩)
  have w_c : chgMay x.ce x.cl x.cv x.he = true := may_chg (by rw [z_ce, z_cl, z_cv, show x.he.xs.map Hd.pure = [] from z_he]; exact ⟨(by decide), (by decide), (by decide), (by simp), fun r hr => by cases hr⟩)
  have w_n : Go.Proofs.YtcbpbkefggekmaaGreatDoor.mayL 64 Ev.may x.ne.xs = true := by rw [z_ne]; rfl
  have w_t : decide ((x.st.size : Int) ≤ 4194304) = true := by rw [z_st]; rfl
  have w_g : sgsMay x.sg = true := may_sgs (by rw [z_sg]; exact ⟨(by simp), fun r hr => by cases hr⟩)
  have w_2 : (if (6 : Int) = 2 then x.vt.may else true) = true := rfl
  have w_7 : (if (6 : Int) = 7 then certMay x.ct x.cs else true) = true := rfl
  rw [w_e, w_l, w_v, w_s, w_b, w_c, w_n, w_t, w_g, w_2, w_7]
  rfl
 ·have hk : x.k = 7 := h
  have hp : x.pure = x.bare.pure := by rw [Mg.bare_7 hk]; exact o.symm
  have hB := Mg.B_eqv _ _ hp
  have o2 := o.symm
  unfold Mg.pure onlyP7 at o2
  simp only [Mp.mk.injEq, and_true, true_and] at o2
  unfold Mg.good
  rw [hB]
  have hd : decide (1 ≤ x.k ∧ x.k ≤ 8) = true := by rw [hk]; decide
  rw [hd]
  show x.may = true
  unfold Mg.may Mg.mayL
  rw [hk]
  obtain ⟨z_k, z_e, z_l, z_v, z_s, z_vt, z_ce, z_cl, z_cv, z_he, z_ne, z_d, z_st, z_sg⟩ := o2
  have w_e : inB x.e 1048576 = true := by rw [z_e]; decide
  have w_l : inB x.l 64 = true := by rw [z_l]; decide
  have w_v : inB x.v 1099511627776 = true := by rw [z_v]; decide
  have w_s : inB x.s 1099511627776 = true := by rw [z_s]; decide
  have w_b : batMay x.q x.rs = true := may_bat k.1
  have w_c : chgMay x.ce x.cl x.cv x.he = true := may_chg (by rw [z_ce, z_cl, z_cv, show x.he.xs.map Hd.pure = [] from z_he]; exact ⟨(by decide), (by decide), (by decide), (by simp), fun r hr => by cases hr⟩)
  have w_n : Go.Proofs.YtcbpbkefggekmaaGreatDoor.mayL 64 Ev.may x.ne.xs = true := by rw [z_ne]; rfl
  have w_t : decide ((x.st.size : Int) ≤ 4194304) = true := by rw [z_st]; rfl
  have w_g : sgsMay x.sg = true := may_sgs (by rw [z_sg]; exact ⟨(by simp), fun r hr => by cases hr⟩)
  have w_2 : (if (7 : Int) = 2 then x.vt.may else true) = true := rfl
  have w_7 : (if (7 : Int) = 7 then certMay x.ct x.cs else true) = true := may_cert k.2
  rw [w_e, w_l, w_v, w_s, w_b, w_c, w_n, w_t, w_g, w_2, w_7]
  rfl
 ·have hk : x.k = 8 := h
  have hp : x.pure = x.bare.pure := by rw [Mg.bare_8 hk]; exact o.symm
  have hB := Mg.B_eqv _ _ hp
  have o2 := o.symm
  unfold Mg.pure onlyP8 at o2
  simp only [Mp.mk.injEq, and_true, true_and] at o2
  unfold Mg.good
  rw [hB]
  have hd : decide (1 ≤ x.k ∧ x.k ≤ 8) = true := by rw [hk]; decide
  rw [hd]
  show x.may = true
  unfold Mg.may Mg.mayL
  rw [hk]
  obtain ⟨z_k, z_e, z_l, z_v, z_s, z_q, z_rs, z_vt, z_ce, z_cl, z_cv, z_he, z_ne, z_d, z_ct, z_cs⟩ := o2
  have w_e : inB x.e 1048576 = true := by rw [z_e]; decide
  have w_l : inB x.l 64 = true := by rw [z_l]; decide
  have w_v : inB x.v 1099511627776 = true := by rw [z_v]; decide
  have w_s : inB x.s 1099511627776 = true := by rw [z_s]; decide
  have w_b : batMay x.q x.rs = true := may_bat (by rw [z_q, z_rs]; exact ⟨(fun e => by cases e), (by simp), fun r hr => by cases hr⟩)
  have w_c : chgMay x.ce x.cl x.cv x.he = true := may_chg (by rw [z_ce, z_cl, z_cv, show x.he.xs.map Hd.pure = [] from z_he]; exact ⟨(by decide), (by decide), (by decide), (by simp), fun r hr => by cases hr⟩)
  have w_n : Go.Proofs.YtcbpbkefggekmaaGreatDoor.mayL 64 Ev.may x.ne.xs = true := by rw [z_ne]; rfl
  have w_t : decide ((x.st.size : Int) ≤ 4194304) = true := decide_eq_true k.1
  have w_g : sgsMay x.sg = true := may_sgs k.2
  have w_2 : (if (8 : Int) = 2 then x.vt.may else true) = true := rfl
  have w_7 : (if (8 : Int) = 7 then certMay x.ct x.cs else true) = true := rfl
  rw [w_e, w_l, w_v, w_s, w_b, w_c, w_n, w_t, w_g, w_2, w_7]
  rfl
theorem Bs.app {a b : List Int} (h : Bs a) (k : Bs b) : Bs (a ++ b) := fun z hz => (List.mem_append.1 hz).elim (h z) (k z)
theorem Bs.flat {α : Type} {f : α → List Int} {xs : List α} (h : ∀ x ∈ xs, Bs (f x)) : Bs (xs.flatMap f) := fun z hz => by
 obtain ⟨x, hx, hz⟩ := List.mem_flatMap.1 hz
 exact h x hx z hz
theorem put_bs {n m : Int} (h : 0 ≤ n ∧ n ≤ m) (hm : m ≤ 9223372036854775807) : Bs (putL n) := putL_byte n (by omega)
theorem len_bs (n : Nat) (m : Int) (h : (n : Int) ≤ m) (hm : m ≤ 9223372036854775807) : Bs (putL (n : Int)) := putL_byte n (by omega)
theorem text_bs {s : ByteArray} {m : Int} (h : (s.size : Int) ≤ m) (hm : m ≤ 9223372036854775807) : Bs (textL s) := (len_bs _ m h hm).app (strL_byte s)
theorem sg_bs {g : Sg} (h : sgOk g) : Bs (sgL g) := (put_bs h.1 (by decide)).app h.2.2
theorem ev_bs {g : Ev} (h : evOk g) : Bs (evL g) := (put_bs h.1 (by decide)).app ((text_bs h.2.1 (by decide)).app h.2.2.2)
theorem vt_bs {x : Vt} (h : vtOk x) : Bs (vtL x) := by
 obtain ⟨h1, h2, h3, h4, h5, h6⟩ := h
 refine Bs.app (Bs.flat fun n hn => ?_) h6
 simp only [List.mem_cons, List.not_mem_nil, or_false] at hn
 rcases hn with rfl | rfl | rfl | rfl
 ·exact put_bs (m := 2) ⟨by omega, by omega⟩ (by decide)
 ·exact put_bs h2 (by decide)
 ·exact put_bs h3 (by decide)
 ·exact put_bs h4 (by decide)
theorem rq_bs {r : Rq} (h : rqOk r) : Bs (rqL r) := (((put_bs h.1 (by decide)).app (put_bs h.2.1 (by decide))).app (text_bs h.2.2.1 (by decide))).app h.2.2.2.2
theorem ba_bs {c : Bool × List Rq} (h : baOk c) : Bs (baL c) := by
 obtain ⟨q, rs⟩ := c
 cases q
 ·have e : baL (false, rs) = putL ((rs.length : Int) + 1) ++ rs.flatMap rqL := by
   unfold baL batL
   rw [if_neg (show ¬ (false = true) by decide), List.length_map, List.flatMap_map]
   rfl
  rw [e]
  have h2 : rs.length ≤ 4 := h.2.1
  exact Bs.app (putL_byte _ (by omega)) (Bs.flat fun r hr => rq_bs (h.2.2 r hr))
 ·have e : baL (true, rs) = putL 0 := rfl
  rw [e]
  exact putL_byte 0 (by omega)
theorem sgs_bs {xs : List Sg} (h : (xs.length : Int) ≤ 64 ∧ ∀ x ∈ xs, sgOk x) : Bs (sgsL xs) := (len_bs _ 64 h.1 (by decide)).app (Bs.flat fun x hx => sg_bs (h.2 x hx))
theorem evs_bs {xs : List Ev} (h : (xs.length : Int) ≤ 64 ∧ ∀ x ∈ xs, evOk x) : Bs (evsL xs) := (len_bs _ 64 h.1 (by decide)).app (Bs.flat fun x hx => ev_bs (h.2 x hx))
theorem ce_bs {v : Vt} {xs : List Sg} (h : ceOk (v, xs)) : Bs (ctL v xs) := (vt_bs h.1).app (sgs_bs h.2)
theorem hp_bs {x : Hp} (h : hpOk x) : Bs (hpL x) := (ba_bs h.1).app (ce_bs h.2)
theorem cp_bs {c : Cp} (h : cpOk c) : Bs (cpL c) := (put_bs h.1 (by decide)).app ((put_bs h.2.1 (by decide)).app ((put_bs h.2.2.1 (by decide)).app ((len_bs _ 4 h.2.2.2.1 (by decide)).app (Bs.flat fun x hx => hp_bs (h.2.2.2.2 x hx)))))
theorem Mp.bytes_bs {m : Mp} (h : m.good) : Bs m.bytes := by
 rcases h with ⟨h, k⟩ | ⟨h, k⟩ | ⟨h, k⟩ | ⟨h, k⟩ | ⟨h, k⟩ | ⟨h, k⟩ | ⟨h, k⟩ | ⟨h, k⟩
 ·have e : m.bytes = putL 1 ++ body1 m := by unfold Mp.bytes; rw [h]; rfl
  rw [e]; exact (show Bs (putL 1) from putL_byte 1 (by omega)).app ((put_bs k.1.1 (by decide)).app ((put_bs k.1.2.1 (by decide)).app (ba_bs k.1.2.2)))
 ·have e : m.bytes = putL 2 ++ body2 m := by unfold Mp.bytes; rw [h]; rfl
  rw [e]; exact (show Bs (putL 2) from putL_byte 2 (by omega)).app (vt_bs k.1)
 ·have e : m.bytes = putL 3 ++ body3 m := by unfold Mp.bytes; rw [h]; rfl
  rw [e]; exact (show Bs (putL 3) from putL_byte 3 (by omega)).app (cp_bs k.1)
 ·have e : m.bytes = putL 4 ++ body4 m := by unfold Mp.bytes; rw [h]; rfl
  rw [e]; exact (show Bs (putL 4) from putL_byte 4 (by omega)).app ((put_bs k.1.1 (by decide)).app ((put_bs k.1.2.1 (by decide)).app ((put_bs k.1.2.2.1 (by decide)).app (evs_bs k.1.2.2.2))))
 ·have e : m.bytes = putL 5 ++ body5 m := by unfold Mp.bytes; rw [h]; rfl
  rw [e]; exact (show Bs (putL 5) from putL_byte 5 (by omega)).app ((put_bs k.1.1 (by decide)).app k.1.2.2)
 ·have e : m.bytes = putL 6 ++ body6 m := by unfold Mp.bytes; rw [h]; rfl
  rw [e]; exact (show Bs (putL 6) from putL_byte 6 (by omega)).app ((put_bs k.1.1 (by decide)).app (put_bs k.1.2 (by decide)))
 ·have e : m.bytes = putL 7 ++ body7 m := by unfold Mp.bytes; rw [h]; rfl
  rw [e]; exact (show Bs (putL 7) from putL_byte 7 (by omega)).app ((ba_bs k.1.1).app (ce_bs k.1.2))
 ·have e : m.bytes = putL 8 ++ body8 m := by unfold Mp.bytes; rw [h]; rfl
  rw [e]; exact (show Bs (putL 8) from putL_byte 8 (by omega)).app ((text_bs k.1.1 (by decide)).app (sgs_bs k.1.2))
theorem flat_part {α : Type} {f : α → List Int} {xs : List α} {x : α} (h : x ∈ xs) : (f x).length ≤ (xs.flatMap f).length := by
  induction xs with
  | nil => cases h
  | cons y ys ih =>
    rw [List.flatMap_cons, List.length_append]
    rcases List.mem_cons.1 h with rfl | h
    · omega
    · have := ih h; omega
theorem rs_few {q : Bool} {x : Sl Rq} (h : batMay q x = true) : x.xs.length ≤ 200 ∧ ∀ r ∈ x.xs, r.s.size ≤ 4000 := by
 unfold batMay at h
 cases q
 ·obtain ⟨h1, h2⟩ := mayL_iff.1 h
  refine ⟨by omega, fun r hr => ?_⟩
  have := h2 r hr
  unfold Rq.may at this
  rw [Bool.and_eq_true, Bool.and_eq_true] at this
  have := of_decide_eq_true this.2.2
  omega
 ·have e : x.xs.length = 0 := of_decide_eq_true h
  have e2 : x.xs = [] := List.eq_nil_of_length_eq_zero e
  exact ⟨by omega, fun r hr => by rw [e2] at hr; cases hr⟩
theorem fine_pure {x : Mg} (h : x.pure.good) (hl : x.bytes.length ≤ 40000) : x.Fine := by
 have hg := pure_good h
 unfold Mg.good at hg
 rw [Bool.and_eq_true, Bool.and_eq_true] at hg
 have hm := hg.2.2
 have hk := of_decide_eq_true hg.1
 unfold Mg.may Mg.mayL at hm
 simp only [Bool.and_eq_true] at hm
 obtain ⟨⟨e1, e2⟩, ⟨e3, e4⟩, e5, e6, e7, e8, e9, e10, e11⟩ := hm
 have b1 := (inB_iff.1 e1).2
 have b2 := (inB_iff.1 e2).2
 have b3 := (inB_iff.1 e3).2
 have b4 := (inB_iff.1 e4).2
 unfold chgMay at e8
 simp only [Bool.and_eq_true] at e8
 obtain ⟨⟨c1, c2, c3⟩, c4⟩ := e8
 have d1 := (inB_iff.1 c1).2
 have d2 := (inB_iff.1 c2).2
 have d3 := (inB_iff.1 c3).2
 obtain ⟨c5, c6⟩ := mayL_iff.1 c4
 obtain ⟨n1, n2⟩ := mayL_iff.1 e9
 have g1 := (mayL_iff.1 e11).1
 have hcs : x.cs.xs.length ≤ 1000 := by
  rcases h with ⟨_, k, o⟩ | ⟨_, k, o⟩ | ⟨_, k, o⟩ | ⟨_, k, o⟩ | ⟨_, k, o⟩ | ⟨_, k, o⟩ | ⟨_, k, o⟩ | ⟨_, k, o⟩
  case inr.inr.inr.inr.inr.inr.inl =>
   have := k.2.2.1
   have : ((x.cs.xs.length : Nat) : Int) ≤ 64 := this
   omega
  all_goals
   have e : [] = x.cs.xs := congrArg Mp.cs o
   rw [← e]
   simp
 have hne : ∀ g ∈ x.ne.xs, g.s.size ≤ 1000000 := by
  rcases h with ⟨_, k, o⟩ | ⟨_, k, o⟩ | ⟨_, k, o⟩ | ⟨h4, k, o⟩ | ⟨_, k, o⟩ | ⟨_, k, o⟩ | ⟨_, k, o⟩ | ⟨_, k, o⟩
  case inr.inr.inr.inl =>
   intro g hgm
   have h4 : x.k = 4 := h4
   have e : x.bytes = putL 4 ++ ([x.e, x.l, x.v].flatMap putL ++ evsL x.ne.xs) := by unfold Mg.bytes Mg.body; rw [h4]; rfl
   rw [e, List.length_append, List.length_append] at hl
   have h5 := flat_part (f := evL) hgm
   unfold evsL at hl
   rw [List.length_append] at hl
   have h6 : (strL g.s).length ≤ (evL g).length := by unfold evL textL; simp only [List.length_append]; omega
   rw [strL_length] at h6
   omega
  all_goals
   have e : [] = x.ne.xs := congrArg Mp.ne o
   rw [← e]
   intro g hgm
   cases hgm
 have hst : x.st.size ≤ 1000000 := by
  rcases h with ⟨_, k, o⟩ | ⟨_, k, o⟩ | ⟨_, k, o⟩ | ⟨_, k, o⟩ | ⟨_, k, o⟩ | ⟨_, k, o⟩ | ⟨_, k, o⟩ | ⟨h8, k, o⟩
  case inr.inr.inr.inr.inr.inr.inr =>
   have h8 : x.k = 8 := h8
   have e : x.bytes = putL 8 ++ (textL x.st ++ sgsL x.sg.xs) := by unfold Mg.bytes Mg.body; rw [h8]; rfl
   rw [e, List.length_append, List.length_append] at hl
   unfold textL at hl
   rw [List.length_append, strL_length] at hl
   omega
  all_goals
   have e : (⟨#[]⟩ : ByteArray) = x.st := congrArg Mp.st o
   rw [← e]
   decide
 exact ⟨by omega, by omega, by omega, by omega, by omega, by omega, by omega, (rs_few e7).1, (rs_few e7).2, by omega, fun g hgm => by
  have := c6 g hgm
  unfold Hd.may certMay at this
  simp only [Bool.and_eq_true] at this
  have s1 := (mayL_iff.1 this.2.2).1
  exact ⟨by omega, (rs_few this.1).1, (rs_few this.1).2⟩, by omega, hne, hcs, by omega, hst, hl⟩
end Go.Proofs.YtcbpbkefggekmaaGreatDoor
