/- Claims; a net: the counters, and what an envelope claims -/
import Derived.Test.YtilbjeeabecfjaaGreatJK0
import Derived.Test.YtilbjeeabecfjaaGreatJK7
import Derived.Test.YtilbjeeabecfjaaGreatJK6
namespace Go.Proofs.YtilbjeeabecfjaaGreat
open Go.RowKit
open Sha Tal
set_option linter.unusedVariables false
set_option linter.unusedSimpArgs false
def ClaimsA (w : World) (cs : List Ev) (en : Ending) (w' : World) : Prop := ∃ x : Sl Ev, en = .returned x.val ∧ x.xs = cs ∧ x.At EvE w' ∧ Below w.heap.size w w'
theorem claims_none (w w' : World) (h : Below w.heap.size w w') : ClaimsA w [] (.returned (.slice none 0 0)) w' := ⟨⟨none, 0, []⟩, rfl, rfl, RowsAt.none, h⟩
theorem outc_rows {w : World} {O : Nat} {v : Value} {cs : List Ev} (h : OutC w O v cs) (hl : cs.length ≤ 1000000000) : ∃ x : Sl Ev, v = x.val ∧ x.xs = cs ∧ x.At EvE w := by
 obtain ⟨x, h1, h2, h3, -⟩ := own_rows (E := EvE) h.own h.ok (by unfold maxLen; omega)
 exact ⟨x, h1, h2, h3⟩
theorem outc_new {w : World} : OutC (w.alloc (.cells #[.slice none 0 0] 63)) w.heap.size (.slice none 0 0) [] :=
 ⟨by simp, by have := range_new w #[.slice none 0 0] 63 0 _ rfl; rwa [Nat.zero_add] at this, there_newN w #[.slice none 0 0] 63 (n := 1) rfl, World.ownsRow_nil _ _ _ _, fun _ h => absurd h List.not_mem_nil⟩
theorem zeroMg (w : World) : (zeroValue 109).run Tryz.prog w = .ok (.agg Mg.none.ms.cells.toArray) w := by kernel_rfl
theorem zeroCls (w : World) : (zeroValue 63).run Tryz.prog w = .ok (.slice none 0 0) w := by kernel_rfl
theorem zeroEv18 (w : World) : (zeroValue 32).run Tryz.prog w = .ok (.agg ([Value.int .i64 0] ++ ([Value.string ⟨#[]⟩] ++ v8 (List.replicate 16 0))).toArray) w := zeroEvE w
set_option maxRecDepth 100000 in
set_option maxHeartbeats 2000000 in
theorem claims_any (N : Int) (sb : ByteArray) (w : World) (hs : sb.size ≤ 40000) : Calls Tryz.prog 24 #[.int .i64 N, .string sb] w fun en w' => ClaimsA w (claimsC N sb) en w' := by
 obtain ⟨zc, hzl, hzr⟩ : ∃ z : List Value, z.length = 119 ∧ (∀ w : World, (zeroValue 109).run Tryz.prog w = .ok (.agg z.toArray) w) := ⟨_, Mg.none_ok.ms.len, zeroMg⟩
 obtain ⟨z18, hyl, hyr⟩ : ∃ z : List Value, z.length = 18 ∧ (∀ w : World, (zeroValue 32).run Tryz.prog w = .ok (.agg z.toArray) w) := ⟨_, rfl, zeroEv18⟩
 have ca := fun O w0 vk ds e he h0 hl => cadd_any O vk ds e w0 h0 he hl
 have cD := fun w0 => decode_any sb hs w0
 have cE := fun (e : Ev) (h : e.s.size ≤ 40000) w0 => decode_any e.s h w0
 have hfd := fit_dec (sb := sb)
 have HCL : claimsC N sb = if N < 0 ∨ 64 < N then [] else if (decS (strL sb)).2 ≠ 0 then [] else ownC N (decS (strL sb)).1 ++ (decS (strL sb)).1.ne.flatMap (newC N) := rfl
 obtain ⟨R, hR⟩ : ∃ R, Hid (claimsC N sb = R) := ⟨_, hide rfl⟩
 rw [hR.out] at HCL ⊢
 generalize decS (strL sb) = pp at cD hfd HCL
 obtain ⟨pm, pe⟩ := pp
 simp only at cD hfd HCL
 have HC0 := hide HCL
 clear HCL hR
 go_enter Tryz.func24, Tryz.ntmps24
 go_upto_region 1 with fail
 by_cases n0 : N < 0
 ·have HE := hide (claims_none w w (Below.refl _ _))
  have hr : R = [] := by rw [HC0.out, if_pos (.inl n0)]
  subst hr
  try simp only [Act.put]
  refine pl_begin ?_
  refine pl_t 13 (?_) (by rfl) ?_ rfl ?_
  rotate_left
  ·go_simp
   try with_reducible rfl
  simp only [nz]
  refine pl_t 14 (.bool true) (by rfl) (by go_simp <;> (try simp [*])) rfl ?_
  simp only [nz]
  refine pl_t 15 (?_) (by rfl) ?_ rfl ?_
  rotate_left
  ·go_simp
   try with_reducible rfl
  simp only [nz]
  refine pl_skip (d := some 16) (by rfl) rfl ?_
  simp only [nz]
  refine pl_skip (d := some 17) (by rfl) rfl ?_
  simp only [nz]
  refine pl_t 18 (?_) (by rfl) ?_ rfl ?_
  rotate_left
  ·go_simp
   try with_reducible rfl
  simp only [nz]
  refine pl_nil ?_
  clear cD cE ca hfd n0 HC0
  go_wp2_with fail
  go_ret
  exact HE.out
 by_cases n1 : 64 < N
 ·have n1' : (64 : Int) < N := n1
  have HE := hide (claims_none w w (Below.refl _ _))
  have hr : R = [] := by rw [HC0.out, if_pos (.inr n1)]
  subst hr
  try simp only [Act.put]
  refine pl_begin ?_
  refine pl_t 13 (?_) (by rfl) ?_ rfl ?_
  rotate_left
  ·go_simp
   try with_reducible rfl
  simp only [nz]
  refine pl_t 14 (.bool false) (by rfl) (by go_simp <;> (try simp [*])) rfl ?_
  simp only [nz]
  refine pl_t 15 (?_) (by rfl) ?_ rfl ?_
  rotate_left
  ·go_simp
   try with_reducible rfl
  simp only [nz]
  refine pl_t 16 (?_) (by rfl) ?_ rfl ?_
  rotate_left
  ·go_simp
   try with_reducible rfl
  simp only [nz]
  refine pl_t 17 (.bool true) (by rfl) (by go_simp <;> (try simp [*])) rfl ?_
  simp only [nz]
  refine pl_t 18 (?_) (by rfl) ?_ rfl ?_
  rotate_left
  ·go_simp
   try with_reducible rfl
  simp only [nz]
  refine pl_nil ?_
  clear cD cE ca hfd n0 n1 n1' HC0
  go_wp2_with fail
  go_ret
  exact HE.out
 have HC0 : Hid (R = if pe ≠ 0 then [] else ownC N pm ++ pm.ne.flatMap (newC N)) := hide (by rw [HC0.out, if_neg (by omega)])
 try simp only [Act.put]
 refine pl_begin ?_
 refine pl_t 13 (?_) (by rfl) ?_ rfl ?_
 rotate_left
 ·go_simp
  try with_reducible rfl
 simp only [nz]
 refine pl_t 14 (.bool false) (by rfl) (by go_simp <;> (try simp [*])) rfl ?_
 simp only [nz]
 refine pl_t 15 (?_) (by rfl) ?_ rfl ?_
 rotate_left
 ·go_simp
  try with_reducible rfl
 simp only [nz]
 refine pl_t 16 (?_) (by rfl) ?_ rfl ?_
 rotate_left
 ·go_simp
  try with_reducible rfl
 simp only [nz]
 refine pl_t 17 (.bool false) (by rfl) (by go_simp <;> (try simp [*])) rfl ?_
 simp only [nz]
 refine pl_t 18 (?_) (by rfl) ?_ rfl ?_
 rotate_left
 ·go_simp
  try with_reducible rfl
 simp only [nz]
 refine pl_nil ?_
 clear n0 n1
 go_upto_region 3 with fail
 try simp only [Act.put]
 refine pl_begin ?_
 refine pl_t 20 (?_) (by rfl) ?_ rfl ?_
 rotate_left
 ·go_simp
  try with_reducible rfl
 simp only [nz]
 refine pl_call (d := some 21) (by rfl) (by go_simp; first | done | exact ⟨rfl, rfl⟩ | with_reducible rfl) rfl ?_
 refine (cD w).mono ?_
 rintro _ w1 ⟨m, rfl, mp, mo, ma, mb, hb1⟩
 refine ⟨_, rfl, ?_⟩
 simp only [nz]
 have hml : m.ms.cells.length = 119 := mo.ms.len
 have hm1 := mo.ms.one
 have him : (Tryz.prog.info? 109).map (·.size) = some m.ms.cells.length := by rw [hml]; exact iszM
 obtain ⟨q, hq⟩ : ∃ q, Hid (m.ms.cells = q) := ⟨_, hide rfl⟩
 rw [hq.out] at hml hm1 him
 simp only [hq.out]
 refine pl_t 19 (?_) (by rfl) ?_ rfl ?_
 rotate_left
 ·go_simp
  try with_reducible rfl
 simp only [nz]
 refine pl_t 22 (?_) (by rfl) ?_ rfl ?_
 rotate_left
 ·go_simp
  try with_reducible rfl
 simp only [nz]
 refine pl_t 23 (?_) (by rfl) ?_ rfl ?_
 rotate_left
 ·go_simp
  try with_reducible rfl
 simp only [nz]
 refine pl_run (d := some 5) (v := .pointer (some ⟨w1.heap.size, 0, none⟩)) (w' := w1.alloc (.cells zc.toArray 109)) (by rfl) (ex_alloc rfl (hzr _)) rfl ?_
 simp only [nz]
 refine pl_store (w' := (w1.alloc (.cells zc.toArray 109)).setCells w1.heap.size 0 q) (by rfl) (ex_put (cs := q.toArray) rfl rfl rfl (there_newN _ _ _ (by simp [hzl, hml])) (by simpa using him) (all_one hm1)) rfl ?_
 refine pl_t 6 (?_) (by rfl) ?_ rfl ?_
 rotate_left
 ·go_simp
  try with_reducible rfl
 simp only [nz]
 refine pl_nil ?_
 obtain ⟨r2, hF, hF3, -⟩ := fresh_store w1 zc.toArray 109 q (by simp [hzl, hml])
 have ma2 := ma.below hF
 have HB2 := hide (hb1.trans (hF.mono hb1.size))
 have mlt := (mg_lt ma).mono (P' := fun b => b < w1.heap.size) (fun b h => h)
 obtain ⟨A, hA⟩ : ∃ A, w1.heap.size = A := ⟨_, rfl⟩
 rw [hA] at r2 hF3 mlt HB2
 simp only [hA] at ma2 ⊢
 obtain ⟨w2, hw2⟩ : ∃ W, (w1.alloc (.cells zc.toArray 109)).setCells A 0 q = W := ⟨_, rfl⟩
 rw [hw2] at r2 hF3 HB2 ma2 ⊢
 have sA : A < w2.heap.size := by omega
 clear hw2 hA hF hF3 hb1 ma mb cD
 by_cases e0 : pe = 0
 rotate_left
 ·have hr : R = [] := by rw [HC0.out, if_pos e0]
  subst hr
  have HE := hide (claims_none w w2 HB2.out)
  have e0' : (pe != 0) = true := by simp [e0]
  clear r2 ma2 mlt HB2 cE ca hfd
  go_wp2_with fail
  go_ret
  exact HE.out
 subst e0
 have hfm := hfd rfl
 have HR : Hid (R = ownC N m.pure ++ m.ne.xs.flatMap (newC N)) := hide (by rw [HC0.out, if_neg (by decide), ← mp]; rfl)
 rw [← mp] at hfm
 have HF := hide hfm
 have HS := hide (small_fit hfm)
 clear hfd hfm HC0
 have HMO := hide mo
 have HMS := hide mp
 have hne : w2.cell? ⟨A, 47, none⟩ = some m.ne.val := by
  have := (mo.ms.at (w := w2) (b := A) (by rw [hq.out]; exact r2)).ne
  exact this
 clear mp mo
 go_upto_region 6 with fail
 try simp only [Act.put]
 refine pl_begin ?_
 refine pl_run (d := some 7) (v := .pointer (some ⟨w2.heap.size, 0, none⟩)) (w' := w2.alloc (.cells #[.slice none 0 0] 63)) (by rfl) (ex_alloc (z := .slice none 0 0) rfl (zeroCls _)) rfl ?_
 simp only [nz]
 refine pl_nil ?_
 have ho3 : OutC (w2.alloc (.cells #[.slice none 0 0] 63)) w2.heap.size (.slice none 0 0) [] := outc_new
 have B3 : Below w2.heap.size w2 (w2.alloc (.cells #[.slice none 0 0] 63)) := (Below.refl _ _).alloc (Nat.le_refl _) _
 have ma3 := ma2.below B3
 have r3 := range_below r2 B3 sA
 have hne3 := (B3.cell (p := ⟨A, 47, none⟩) sA).trans hne
 have HB3 := hide (HB2.out.trans (B3.mono HB2.out.size))
 have sO : A < w2.heap.size := sA
 have hOw : w.heap.size ≤ w2.heap.size := HB2.out.size
 obtain ⟨O, hO⟩ : ∃ O, w2.heap.size = O := ⟨_, rfl⟩
 rw [hO] at ho3 sO hOw
 simp only [hO]
 obtain ⟨W, hW⟩ : ∃ W, w2.alloc (.cells #[.slice none 0 0] 63) = W := ⟨_, rfl⟩
 rw [hW] at ho3 ma3 r3 hne3 HB3 B3 ⊢
 have sA3 : A < W.heap.size := Nat.lt_of_lt_of_le sA B3.size
 have mb3 : m.Bk (Clr O (.slice none 0 0)) := mlt.mono (fun b hb => ⟨by omega, fun e => by cases e⟩)
 have hcA : Clr O (.slice none 0 0) A := ⟨by omega, fun e => by cases e⟩
 have cO := oclaims_any N m O (.slice none 0 0) [] W ho3 HMO.out ma3 mb3 (by have := HF.out.le N; simp only [List.length_nil]; omega) HS.out
 rw [hq.out] at cO
 unfold addV at cO
 clear hW hO B3 hne r2 ma2 mlt HB2 sA
 go_upto_region 8 with fail
 try simp only [Act.put]
 refine pl_begin ?_
 refine pl_t 27 (?_) (by rfl) ?_ rfl ?_
 rotate_left
 ·go_simp
  try with_reducible rfl
 simp only [nz]
 refine pl_t 28 (.agg q.toArray) (by rfl) (ex_mid rfl rfl r3 Tryz.underlying109 rfl him) rfl ?_
 simp only [nz]
 refine pl_t 29 (?_) (by rfl) ?_ rfl ?_
 rotate_left
 ·go_simp
  try with_reducible rfl
 simp only [nz]
 refine pl_call (d := some 30) (by rfl) (by go_simp; first | done | exact ⟨rfl, rfl⟩ | with_reducible rfl) rfl ?_
 refine (cO).mono ?_
 rintro _ w4 ⟨rfl, v4, o4, g4⟩
 refine ⟨_, rfl, ?_⟩
 simp only [nz]
 refine pl_nil ?_
 have HC4 : CI W w4 O (.slice none 0 0) v4 ([] ++ ownC N m.pure) := ⟨o4, g4⟩
 have hne4 := (cell_block (j := 47) (g4.keep sA3 hcA).1).1.trans hne3
 obtain ⟨C4, hC4⟩ : ∃ C, Hid ([] ++ ownC N m.pure = C) := ⟨_, hide rfl⟩
 rw [hC4.out] at HC4
 have HC4l : Hid (C4.length ≤ 10000) := hide (by rw [← hC4.out, List.nil_append]; exact HF.out.le N)
 obtain ⟨⟨xa, xc, xs⟩, hxe⟩ : ∃ x, m.ne = x := ⟨_, rfl⟩
 obtain ⟨n, hxn⟩ : ∃ n, xs.length = n := ⟨_, rfl⟩
 have hval : (m.ne).val = .slice xa n xc := by rw [hxe]; unfold Sl.val; rw [← hxn]
 rw [hval] at hne4
 have HXX : Hid (Sl.At EvE W ⟨xa, xc, xs⟩) := hide (by have := ma3.ne; rw [hxe] at this; exact this)
 have HCC : Hid (Sl.Bk (Sl.mk xa xc xs) (Clr O (.slice none 0 0))) := hide (by have := mb3.2.2.2.1; rw [hxe] at this; exact this)
 have hpx : m.pure.ne = xs := by show m.ne.xs = xs; rw [hxe]
 have HNE : Hid (∀ e ∈ xs, e.s.size ≤ 40000) := hide (fun e he => Nat.le_trans (HF.out.ne e (by rw [hpx]; exact he)) hs)
 have HNL : Hid (n ≤ 64) := hide (by have := HF.out.nl; rw [hpx, hxn] at this; exact this)
 have HR2 : Hid (R = C4 ++ xs.flatMap (newC N)) := hide (by rw [HR.out, hxe, ← hC4.out, List.nil_append])
 have HN := hide hxn
 clear hval hxe hxn hpx o4 g4 r3 ma3 mb3 hne3 sA3 hcA ho3 HF HS HR HMO him hml hm1 hC4
 go_upto_region 9 with fail
 try simp only [Act.put]
 refine pl_begin ?_
 refine pl_t 31 (?_) (by rfl) ?_ rfl ?_
 rotate_left
 ·go_simp
  try with_reducible rfl
 simp only [nz]
 refine pl_t 32 (.slice xa n xc) (by rfl) (pl_one rfl rfl hne4 Tryz.underlying51 rfl) rfl ?_
 simp only [nz]
 refine pl_t 33 (?_) (by rfl) ?_ rfl ?_
 rotate_left
 ·go_simp
  try with_reducible rfl
 simp only [nz]
 refine pl_t 34 (?_) (by rfl) ?_ rfl ?_
 rotate_left
 ·go_simp
  try with_reducible rfl
 simp only [nz]
 refine pl_nil ?_
 have HC5 : Hid (CI W w4 O (.slice none 0 0) v4 (C4 ++ (xs.take 0).flatMap (newC N))) := hide (by simpa using HC4)
 clear HC4 hne4 HMS hq cO
 go_wp2_with fail
 go_loopw [34] (fun iv wr => ∃ (k : Nat) (vk : Value), k ≤ n ∧ iv = .int .i64 (k : Int) ∧ Hid (CI W wr O (.slice none 0 0) vk (C4 ++ (xs.take k).flatMap (newC N)))) (fun iv _ => n - (intOf iv).toNat)
 case atStart => exact ⟨0, v4, by omega, rfl, HC5⟩
 case round =>
  clear HC5
  obtain ⟨k, vk, hk, rfl, HK⟩ := hrel
  by_cases hlt : k < n
  ·have k1 : (k : Int) < n := by omega
   have hn9 : n ≤ 64 := HNL.out
   have hkx : k < xs.length := by rw [HN.out]; exact hlt
   obtain ⟨b, off, hab0, hbw, hre0⟩ := (HXX.out.grow HK.out.grow HCC.out).elem k hkx
   have hab : xa = some ⟨b, off, none⟩ := hab0
   have hre : wr.rangeAt b (off + k * 18) (EvE.f xs[k]) := hre0
   clear hab0 hre0
   have okx : Ev.ok xs[k] := HXX.out.2.1 _ (List.getElem_mem hkx)
   have hsz := HNE.out _ (List.getElem_mem hkx)
   have HT : Hid ((xs.take (k + 1)).flatMap (newC N) = (xs.take k).flatMap (newC N) ++ newC N xs[k]) := hide (flat_take hkx)
   have HL : (C4 ++ (xs.take k).flatMap (newC N)).length ≤ 1000000000 := by
    have h1 := news_len N (xs.take k)
    have h2 := HC4l.out
    rw [List.length_take] at h1
    rw [List.length_append]
    omega
   have HL2 : Hid ((C4 ++ (xs.take k).flatMap (newC N)).length ≤ 700000) := hide (by
    have h1 := news_len N (xs.take k)
    have h2 := HC4l.out
    rw [List.length_take] at h1
    rw [List.length_append]
    omega)
   obtain ⟨g, hg⟩ : ∃ g, xs[k] = g := ⟨_, rfl⟩
   rw [hg] at hre okx hsz HT
   clear hg
   have ca := fun w0 vk ds h0 hl => ca O w0 vk ds g okx h0 hl
   have cE := fun w0 => cE g hsz w0
   have hgn : newC N g = g :: (if (decS (strL g.s)).2 = 0 then ownC N (decS (strL g.s)).1 else []) := rfl
   have hfg := fit_dec (sb := g.s)
   have hut : EvE.f g = .int .i64 g.n :: .string g.s :: v8 g.t := rfl
   have it16 : (Tryz.prog.info? 30).map (·.size) = some (v8 g.t).length := by rw [v8_length, okx.tl]; exact iszT
   have iu : (Tryz.prog.info? 32).map (·.size) = some (EvE.f g).length := by rw [EvE.len g okx]; kernel_rfl
   have hul : (EvE.f g).length = 18 := EvE.len g okx
   have hu1 := EvE.one g
   obtain ⟨id, hid⟩ : ∃ i, g.n = i := ⟨_, rfl⟩
   obtain ⟨bd, hbd⟩ : ∃ i, g.s = i := ⟨_, rfl⟩
   obtain ⟨tg, htg⟩ : ∃ t, g.t = t := ⟨_, rfl⟩
   rw [hid, hbd, htg] at hut
   rw [htg] at it16
   rw [hbd] at hfg hgn
   simp only [hid, hbd, htg] at ca cE
   clear okx htg hid hbd hsz
   obtain ⟨u, hu⟩ : ∃ u, Hid (EvE.f g = u) := ⟨_, hide rfl⟩
   rw [hu.out] at hre iu hul hu1 hut
   clear hu
   have HUT := hide hut
   clear hut
   generalize decS (strL bd) = p2 at cE hfg hgn
   obtain ⟨pm2, pe2⟩ := p2
   simp only at cE hfg hgn
   have HGN := hide hgn
   clear hgn
   obtain rfl := hab
   go_upto_region 11 with fail
   obtain ⟨r5, hF, hF3, -⟩ := fresh_store wr z18.toArray 32 u (by simp [hyl, hul])
   try simp only [Act.put]
   refine pl_begin ?_
   refine pl_t 36 (.pointer (some ⟨b, off + k * 18, none⟩)) (by rfl) (by go_simp <;> (try simp [*])) rfl ?_
   simp only [nz]
   refine pl_t 37 (.agg u.toArray) (by rfl) (ex_mid rfl rfl hre Tryz.underlying32 rfl iu) rfl ?_
   simp only [nz]
   refine pl_run (d := some 10) (v := .pointer (some ⟨wr.heap.size, 0, none⟩)) (w' := wr.alloc (.cells z18.toArray 32)) (by rfl) (ex_alloc rfl (hyr _)) rfl ?_
   simp only [nz]
   refine pl_store (w' := (wr.alloc (.cells z18.toArray 32)).setCells wr.heap.size 0 u) (by rfl) (ex_put (cs := u.toArray) rfl rfl rfl (there_newN _ _ _ (by simp [hyl, hul])) (by simpa using iu) (all_one hu1)) rfl ?_
   refine pl_nil ?_
   have HC := HK.out.later hF
   have HX := clr_new HK.out (Nat.le_refl _)
   clear HK
   obtain ⟨X, hX⟩ : ∃ X, wr.heap.size = X := ⟨_, rfl⟩
   simp only [hX] at r5 HC HX hF3 ⊢
   obtain ⟨w5, hw5⟩ : ∃ W, (wr.alloc (.cells z18.toArray 32)).setCells X 0 u = W := ⟨_, rfl⟩
   rw [hw5] at r5 HC hF3 ⊢
   have sX : X < w5.heap.size := by omega
   clear hw5 hX hF hF3 hre
   have c0 : w5.cell? ⟨X, 0, none⟩ = some (.int .i64 id) := by have := r5 0 _ (by rw [HUT.out]; rfl); rwa [Nat.zero_add] at this
   have c1 : w5.cell? ⟨X, 1, none⟩ = some (.string bd) := by have := r5 1 _ (by rw [HUT.out]; rfl); rwa [Nat.zero_add] at this
   have ct : w5.rangeAt X 2 (v8 tg) := fun j y hy => by
    have := r5 (j + 2) y (by rw [HUT.out]; exact hy)
    rw [show 0 + (j + 2) = 2 + j by omega] at this
    exact this
   clear r5
   go_upto_region 12 with fail
   try simp only [Act.put]
   refine pl_begin ?_
   refine pl_t 38 (?_) (by rfl) ?_ rfl ?_
   rotate_left
   ·go_simp
    try with_reducible rfl
   simp only [nz]
   refine pl_t 39 (?_) (by rfl) ?_ rfl ?_
   rotate_left
   ·go_simp
    try with_reducible rfl
   simp only [nz]
   refine pl_t 40 (.int .i64 id) (by rfl) (pl_one rfl rfl c0 Tryz.underlying3 rfl) rfl ?_
   simp only [nz]
   refine pl_t 41 (?_) (by rfl) ?_ rfl ?_
   rotate_left
   ·go_simp
    try with_reducible rfl
   simp only [nz]
   refine pl_t 42 (.string bd) (by rfl) (pl_one rfl rfl c1 Tryz.underlying9 rfl) rfl ?_
   simp only [nz]
   refine pl_t 43 (?_) (by rfl) ?_ rfl ?_
   rotate_left
   ·go_simp
    try with_reducible rfl
   simp only [nz]
   refine pl_t 44 (.agg (v8 tg).toArray) (by rfl) (ex_mid rfl rfl ct Tryz.underlying30 rfl it16) rfl ?_
   simp only [nz]
   refine pl_call (d := some 45) (by rfl) (by go_simp; first | done | exact ⟨rfl, rfl⟩ | with_reducible rfl) rfl ?_
   refine (ca w5 vk _ HC.out HL).mono ?_
   rintro _ w6 ⟨rfl, v6, o6, g6⟩
   refine ⟨_, rfl, ?_⟩
   simp only [nz]
   refine pl_nil ?_
   have HC6 := HC.add o6 g6
   have c1 := (cell_block (j := 1) (g6.keep sX HX).1).1.trans c1
   clear HC o6 g6 c0 ct ca HX sX
   go_upto_region 13 with fail
   try simp only [Act.put]
   refine pl_begin ?_
   refine pl_t 47 (?_) (by rfl) ?_ rfl ?_
   rotate_left
   ·go_simp
    try with_reducible rfl
   simp only [nz]
   refine pl_t 48 (.string bd) (by rfl) (pl_one rfl rfl c1 Tryz.underlying9 rfl) rfl ?_
   simp only [nz]
   refine pl_call (d := some 49) (by rfl) (by go_simp; first | done | exact ⟨rfl, rfl⟩ | with_reducible rfl) rfl ?_
   refine (cE w6).mono ?_
   rintro _ w7 ⟨m2, rfl, mp2, mo2, mx2, mb2, hb7⟩
   refine ⟨_, rfl, ?_⟩
   simp only [nz]
   have hml2 : m2.ms.cells.length = 119 := mo2.ms.len
   have hm12 := mo2.ms.one
   have him2 : (Tryz.prog.info? 109).map (·.size) = some m2.ms.cells.length := by rw [hml2]; exact iszM
   obtain ⟨q2, hq2⟩ : ∃ q, Hid (m2.ms.cells = q) := ⟨_, hide rfl⟩
   rw [hq2.out] at hml2 hm12 him2
   simp only [hq2.out]
   refine pl_t 46 (?_) (by rfl) ?_ rfl ?_
   rotate_left
   ·go_simp
    try with_reducible rfl
   simp only [nz]
   refine pl_t 50 (?_) (by rfl) ?_ rfl ?_
   rotate_left
   ·go_simp
    try with_reducible rfl
   simp only [nz]
   refine pl_t 51 (?_) (by rfl) ?_ rfl ?_
   rotate_left
   ·go_simp
    try with_reducible rfl
   simp only [nz]
   refine pl_run (d := some 11) (v := .pointer (some ⟨w7.heap.size, 0, none⟩)) (w' := w7.alloc (.cells zc.toArray 109)) (by rfl) (ex_alloc rfl (hzr _)) rfl ?_
   simp only [nz]
   refine pl_store (w' := (w7.alloc (.cells zc.toArray 109)).setCells w7.heap.size 0 q2) (by rfl) (ex_put (cs := q2.toArray) rfl rfl rfl (there_newN _ _ _ (by simp [hzl, hml2])) (by simpa using him2) (all_one hm12)) rfl ?_
   refine pl_t 12 (?_) (by rfl) ?_ rfl ?_
   rotate_left
   ·go_simp
    try with_reducible rfl
   simp only [nz]
   refine pl_nil ?_
   obtain ⟨r8, hF, hF3, -⟩ := fresh_store w7 zc.toArray 109 q2 (by simp [hzl, hml2])
   have HC8 := (HC6.later hb7).later hF
   have mx8 := mx2.below hF
   have mb8 : m2.Bk (Clr O v6) := mb2.mono (fun b hb => clr_new HC6 hb)
   obtain ⟨A2, hA2⟩ : ∃ A, w7.heap.size = A := ⟨_, rfl⟩
   simp only [hA2] at r8 hF3 HC8 mx8 ⊢
   obtain ⟨w8, hw8⟩ : ∃ W, (w7.alloc (.cells zc.toArray 109)).setCells A2 0 q2 = W := ⟨_, rfl⟩
   rw [hw8] at r8 hF3 HC8 mx8 ⊢
   have sA2 : A2 < w8.heap.size := by omega
   clear hw8 hA2 hF hF3 hb7 mx2 mb2 HC6 cE c1
   by_cases e0 : pe2 = 0
   ·subst e0
    have hf2 := hfg rfl
    rw [← mp2] at hf2
    have HS2 := hide (small_fit hf2)
    have HCL : Hid ((C4 ++ (xs.take k).flatMap (newC N) ++ [g]).length + (ownC N m2.pure).length ≤ 1000000000) := hide (by
     have h1 := hf2.le N
     have h2 := HL2.out
     rw [List.length_append, List.length_singleton]
     omega)
    have cO := oclaims_any N m2 O v6 _ w8 HC8.out mo2 mx8 mb8 HCL.out HS2.out
    rw [hq2.out] at cO
    unfold addV at cO
    clear hf2 hfg
    go_upto_region 15 with fail
    try simp only [Act.put]
    refine pl_begin ?_
    refine pl_t 54 (?_) (by rfl) ?_ rfl ?_
    rotate_left
    ·go_simp
     try with_reducible rfl
    simp only [nz]
    refine pl_t 55 (.agg q2.toArray) (by rfl) (ex_mid rfl rfl r8 Tryz.underlying109 rfl him2) rfl ?_
    simp only [nz]
    refine pl_t 56 (?_) (by rfl) ?_ rfl ?_
    rotate_left
    ·go_simp
     try with_reducible rfl
    simp only [nz]
    refine pl_call (d := some 57) (by rfl) (by go_simp; first | done | exact ⟨rfl, rfl⟩ | with_reducible rfl) rfl ?_
    refine (cO).mono ?_
    rintro _ w9 ⟨rfl, v9, o9, g9⟩
    refine ⟨_, rfl, ?_⟩
    simp only [nz]
    refine pl_nil ?_
    have HD : Hid (CI W w9 O (.slice none 0 0) v9 (C4 ++ (xs.take (k + 1)).flatMap (newC N))) := hide (by
     rw [HT.out, HGN.out, if_pos rfl, ← mp2]
     have h9 := HC8.add o9 g9
     simp only [List.append_assoc, List.singleton_append] at h9 ⊢
     exact h9)
    clear cO HC8 o9 g9 mx8 mb8 r8 sA2 HT HGN hq2 him2 hml2 hm12 mo2 HS2 HCL hzr hyr hzl hyl iu hul hu1 it16 HL
    go_wp2_with fail
    go_roundw
    case rel => exact ⟨k + 1, v9, by omega, by go_num, HD⟩
    case measure => simp [intOf]; omega
   ·have e0' : (pe2 == 0) = false := by simp [e0]
    have HD : Hid (CI W w8 O (.slice none 0 0) v6 (C4 ++ (xs.take (k + 1)).flatMap (newC N))) := hide (by
     rw [HT.out, HGN.out, if_neg e0, ← List.append_assoc]
     exact HC8)
    clear HC8 mx8 mb8 r8 sA2 HT HGN hq2 him2 hml2 hm12 mo2 hzr hyr hzl hyl iu hul hu1 it16 HL hfg mp2
    go_wp2_with fail
    go_roundw
    case rel => exact ⟨k + 1, v6, by omega, by go_num, HD⟩
    case measure => simp [intOf]; omega
  ·obtain rfl : k = n := by omega
   have c0 := HK.out.out.c0
   have HE : Hid (ClaimsA w R (.returned vk) wr) := hide (by
    have h1 := HK.out.out
    rw [List.take_of_length_le (by rw [HN.out]; exact Nat.le_refl _), ← HR2.out] at h1
    have hl : R.length ≤ 1000000000 := by
     have h2 := news_len N xs
     have h3 := HC4l.out
     have h4 := HNL.out
     rw [HR2.out, List.length_append]
     rw [HN.out] at h2
     omega
    obtain ⟨x, e1, e2, e3⟩ := outc_rows h1 hl
    refine ⟨x, by rw [e1], e2, e3, ?_⟩
    have g := HK.out.grow
    have b3 := HB3.out
    exact ⟨g.os.trans b3.os, g.tape.trans b3.tape, g.output.trans b3.output, Nat.le_trans b3.size g.size, fun i hi => (g.block i (Nat.lt_of_lt_of_le hi b3.size) (by omega) (fun e => by cases e)).trans (b3.block i hi)⟩)
   clear HK ca cE hlt
   go_wp2_with fail
   go_ret
   exact HE.out
theorem add1_run {x : Int} (h0 : 0 ≤ x) (h1 : x ≤ 1000000000) (w : World) : (Op.intArith .add .i64 x 1).run Tryz.prog w = .ok (.int .i64 (x + 1)) w := by
 have e : IntKind.i64.wrap (x + 1) = x + 1 := by rw [Go.IntWalk.i64_left]; simp only [wrap64]; omega
 simp [Op.intArith, e]
set_option maxRecDepth 100000 in
set_option maxHeartbeats 2000000 in
theorem aadd_any (N o : Nat) (x : Int) (w : World) (c : w.cell? ⟨N, o, none⟩ = some (.int .i64 x)) (f : w.frozen? ⟨N, o, none⟩ = false) (h0 : 0 ≤ x) (h1 : x ≤ 1000000000) : Calls Tryz.prog 28 #[.pointer (some ⟨N, o, none⟩), .int .i64 1] w fun e w' => e = .returned (.int .i64 (x + 1)) ∧ w' = w.setCell ⟨N, o, none⟩ (.int .i64 (x + 1)) := by
 have hadd := run_call_add (P := Tryz.prog) Tryz.func39 (by kernel_rfl) (by kernel_rfl) (by kernel_rfl) .i64 (by kernel_rfl) (y := 1) (s := x + 1) c f (add1_run h0 h1 w)
 clear c f
 go_enter Tryz.func28, Tryz.ntmps28
 go_wp2_with fail
 go_ret
 exact ⟨rfl, rfl⟩
theorem NetAt.sentAt {w : World} {B K : Nat} {P : Nd} {s : Nt} {l : Int} (h : NetAt w B K P s l) (n : Int) : NetAt (w.setCell ⟨P.p, 8, none⟩ (.int .i64 n)) B K P ⟨s.nodes, s.way, s.on, s.kn, s.past, s.th, n, s.taken⟩ l :=
 h.cell 8 _ rfl rfl rfl rfl rfl rfl
theorem NetAt.f8 {w : World} {B K : Nat} {P : Nd} {s : Nt} {l : Int} (h : NetAt w B K P s l) : w.frozen? ⟨P.p, 8, none⟩ = false := by
 have := (h.t 8 (by omega)).2
 simpa using this
theorem not_map {w : World} {B K : Nat} {P : Nd} {s : Nt} {l : Int} (h : NetAt w B K P s l) {b o : Nat} {v : Value} {cs : List Value} (hr : w.rangeAt b o (v :: cs)) : b ≠ P.m3 := fun e => by
 obtain ⟨D, ⟨es, cl, h1, -⟩, -⟩ := h.g3
 have := hr 0 v rfl
 rw [e] at this
 simp [World.cell?, h1] at this
theorem take_add {α : Type} (xs : List α) (k : Nat) (h : k < xs.length) : xs.take (k + 1) = xs.take k ++ [xs[k]] := by
 rw [List.take_add_one, List.getElem?_eq_getElem h]; rfl
set_option maxRecDepth 100000 in
set_option maxHeartbeats 4000000 in
theorem nlearn_any (B K : Nat) (P : Nd) (s : Nt) (l : Int) (x : Ev) (w : World) (h : NetAt w B K P s l) (hn : 0 < s.nodes) (hx : x.ok) (hs : x.s.size ≤ 40000) (hK : K + 1 + (claimsC s.nodes x.s).length ≤ 1000000000) : Calls Tryz.prog 30 #[.pointer (some ⟨P.p, 0, none⟩), .agg x.cells.toArray] w fun e w' => e = .returned (.tuple #[]) ∧ NetAt w' B (K + 1 + (claimsC s.nodes x.s).length) P ⟨s.nodes, s.way, s.on, s.kn ++ [x] ++ claimsC s.nodes x.s, s.past, s.th, s.sent, s.taken⟩ l ∧ Off (fun b => b = P.m3) w w' := by
 have cA0 := fun w0 => claims_any s.nodes x.s w0 hs
 unfold ClaimsA at cA0
 obtain ⟨C, hC⟩ : ∃ C, Hid (claimsC s.nodes x.s = C) := ⟨_, hide rfl⟩
 simp only [hC.out] at cA0 hK ⊢
 obtain ⟨hBk, rX, sX⟩ := boxed_new w x.cells 32
 have h0 := h.below hBk
 have cN := nnote_any B K P s l x (w.alloc (.cells x.cells.toArray 32)) h0 hn hx (by omega)
 have hO : Off (fun b => b = P.m3) w (w.alloc (.cells x.cells.toArray 32)) := Off.of_below hBk
 have n3 : w.heap.size ≠ P.m3 := by have := h.g3.lt; omega
 have nt : (v8 x.t).length = 16 := by rw [v8_length, hx.tl]
 have hbc := fun w0 => build_cl x.n x.s (v8 x.t) nt w0
 have rX : (w.alloc (.cells x.cells.toArray 32)).rangeAt w.heap.size 0 (.int .i64 x.n :: .string x.s :: v8 x.t) := rX
 have hcx : x.cells = .int .i64 x.n :: .string x.s :: v8 x.t := rfl
 rw [hcx] at cN hO rX sX ⊢
 obtain ⟨tq, htq⟩ : ∃ q, Hid (v8 x.t = q) := ⟨_, hide rfl⟩
 simp only [htq.out] at cN hO rX sX nt hbc ⊢
 have it : (Tryz.prog.info? 30).map (·.size) = some tq.length := by rw [nt]; exact iszT
 obtain ⟨W, hW⟩ : ∃ W, Hid (w.alloc (.cells (.int .i64 x.n :: .string x.s :: tq).toArray 32) = W) := ⟨_, hide rfl⟩
 obtain ⟨X, hX⟩ : ∃ X, Hid (w.heap.size = X) := ⟨_, hide rfl⟩
 rw [hW.out] at cN hO rX sX
 rw [hX.out] at rX sX n3
 have HO := hide hO
 have HH := hide h0
 clear hBk h hcx h0 hO
 have c0 : W.cell? ⟨X, 0, none⟩ = some (.int .i64 x.n) := rX 0 _ rfl
 have c1 : W.cell? ⟨X, 1, none⟩ = some (.string x.s) := rX 1 _ rfl
 have r2 : W.rangeAt X 2 tq := fun j v hv => by
  have := rX (j + 2) v (by simpa using hv)
  rw [show 0 + (j + 2) = 2 + j by omega] at this
  exact this
 obtain ⟨id, hid⟩ : ∃ i, x.n = i := ⟨_, rfl⟩
 obtain ⟨bd, hbd⟩ : ∃ i, Hid (x.s = i) := ⟨_, hide rfl⟩
 rw [hid] at c0 cN hbc rX
 rw [hbd.out] at c1 cN rX
 simp only [hbd.out] at hbc cA0
 simp only [hid] at hbc ⊢
 rw [hbd.out] at hW ⊢
 rw [hid] at hW
 clear hid
 go_enter Tryz.func30, Tryz.ntmps30
 go_upto_region 1 with fail
 try simp only [hW.out, hX.out]
 clear hW
 try simp only [Act.put]
 refine pl_begin ?_
 refine pl_t 6 (?_) (by rfl) ?_ rfl ?_
 rotate_left
 ·go_simp
  try with_reducible rfl
 simp only [nz]
 refine pl_t 7 (.pointer (some ⟨X, 0, none⟩)) (by rfl) (by go_simp) rfl ?_
 simp only [nz]
 refine pl_t 8 (.int .i64 id) (by rfl) (pl_one rfl rfl c0 Tryz.underlying3 rfl) rfl ?_
 simp only [nz]
 refine pl_t 9 (.pointer (some ⟨X, 1, none⟩)) (by rfl) (by go_simp) rfl ?_
 simp only [nz]
 refine pl_t 10 (.string bd) (by rfl) (pl_one rfl rfl c1 Tryz.underlying9 rfl) rfl ?_
 simp only [nz]
 refine pl_t 11 (.pointer (some ⟨X, 2, none⟩)) (by rfl) (by go_simp) rfl ?_
 simp only [nz]
 refine pl_t 12 (.agg tq.toArray) (by rfl) (ex_mid rfl rfl r2 Tryz.underlying30 rfl it) rfl ?_
 simp only [nz]
 refine pl_t 13 (.agg (.int .i64 id :: .string bd :: tq).toArray) (by rfl) (ex_build (parts := [(0, .tmp 8), (1, .tmp 10), (2, .tmp 12)]) (vs := [(0, .int .i64 id), (1, .string bd), (2, .agg tq.toArray)]) rfl (by first | with_reducible rfl | rfl | simp [Act.eval]) (hbc _)) rfl ?_
 simp only [nz]
 refine pl_call (d := some 14) (by rfl) (by go_simp; first | done | exact ⟨rfl, rfl⟩ | with_reducible rfl) rfl ?_
 refine (cN).mono ?_
 rintro _ w1 ⟨rfl, HN, hO1⟩
 refine ⟨_, rfl, ?_⟩
 simp only [nz]
 refine pl_nil ?_
 have rX1 : w1.rangeAt X 0 (.int .i64 id :: .string bd :: tq) := range_at rX (hO1.2 X sX n3)
 have sX1 := Nat.lt_of_lt_of_le sX hO1.size
 have HO := hide (HO.out.trans hO1 (fun _ _ q => q))
 have HN := hide HN
 clear cN hO1 rX sX c0 c1 r2 hbc HH n3
 go_upto_region 2 with fail
 have hdr : Below w1.heap.size w1 w1.drew := (Below.refl _ _).drew
 have HO := hide (HO.out.drew)
 have H8 := hide (HN.out.below hdr)
 have c1 : w1.drew.cell? ⟨X, 1, none⟩ = some (.string bd) := (range_below rX1 hdr sX1) 1 _ rfl
 have c0 : w1.drew.cell? ⟨P.p, 0, none⟩ = some (.int .i64 s.nodes) := H8.out.c0
 have sX8 : X < w1.drew.heap.size := sX1
 have sP8 : P.p < w1.drew.heap.size := H8.out.lt
 refine hs_begin (S := (Below w1.drew.heap.size w1.drew)) 9 rfl (by kernel_rfl) ?_
 obtain ⟨w8, hw8⟩ : ∃ W, w1.drew = W := ⟨_, rfl⟩
 rw [hw8] at c1 c0 sX8 sP8 H8 HO ⊢
 clear hdr hw8 HN rX1 sX1
 have hS : (Below w8.heap.size w8) w8 := Below.refl _ _
 refine hs_t 0 15 (?_) rfl (by kernel_rfl) (by kernel_rfl) (by kernel_rfl) (by rfl) ?_ hS rfl ?_
 rotate_left
 ·intro w' hw
  go_simp
  try with_reducible rfl
 simp only [nz]
 refine hs_t 1 16 (?_) rfl (by kernel_rfl) (by kernel_rfl) (by kernel_rfl) (by rfl) ?_ hS rfl ?_
 rotate_left
 ·intro w' hw
  go_simp
  try with_reducible rfl
 simp only [nz]
 refine hs_t 2 17 (?_) rfl (by kernel_rfl) (by kernel_rfl) (by kernel_rfl) (by rfl) ?_ hS rfl ?_
 rotate_left
 ·intro w' hw
  go_simp
  try with_reducible rfl
 simp only [nz]
 refine hs_t 3 18 (.int .i64 s.nodes) rfl (by kernel_rfl) (by kernel_rfl) (by kernel_rfl) (by rfl) (fun w' hw => pl_one rfl rfl ((hw.cell (p := ⟨P.p, 0, none⟩) sP8).trans c0) Tryz.underlying3 rfl) hS rfl ?_
 simp only [nz]
 refine hs_t 4 19 (.pointer (some ⟨X, 1, none⟩)) rfl (by kernel_rfl) (by kernel_rfl) (by kernel_rfl) (by rfl) (fun w' hw => by go_simp) hS rfl ?_
 simp only [nz]
 refine hs_t 5 20 (.string bd) rfl (by kernel_rfl) (by kernel_rfl) (by kernel_rfl) (by rfl) (fun w' hw => pl_one rfl rfl ((hw.cell (p := ⟨X, 1, none⟩) sX8).trans c1) Tryz.underlying9 rfl) hS rfl ?_
 simp only [nz]
 refine hs_t 8 23 (?_) rfl (by kernel_rfl) (by kernel_rfl) (by kernel_rfl) (by rfl) ?_ hS rfl ?_
 rotate_left
 ·intro w' hw
  go_simp
  try with_reducible rfl
 simp only [nz]
 refine hs_call (i := 6) (d := some 21) rfl (by kernel_rfl) (by rfl) (by go_simp; first | done | exact ⟨rfl, rfl⟩ | with_reducible rfl) rfl ?_
 refine (cA0 w8).mono ?_
 rintro _ w9 ⟨y, rfl, hys, hya, hb9⟩
 obtain ⟨ya, yc, ys⟩ := y
 have hys : ys = C := hys
 subst hys
 obtain ⟨n, hyn⟩ : ∃ n, ys.length = n := ⟨_, rfl⟩
 simp only [Sl.val, hyn]
 have hS2 : (Below w8.heap.size w8) w9 := hb9
 refine ⟨_, rfl, hS2, ?_⟩
 simp only [nz]
 have hS := hS2
 refine hs_t 7 22 (?_) rfl (by kernel_rfl) (by kernel_rfl) (by kernel_rfl) (by rfl) ?_ hS rfl ?_
 rotate_left
 ·intro w' hw
  go_simp
  try with_reducible rfl
 simp only [nz]
 refine hs_done (by kernel_rfl) ?_
 have H9 := H8.out.below hS
 have HO9 := hide (HO.out.trans (Off.of_below (F := fun b => b = P.m3) hS) (fun _ _ q => q))
 have HYn := hide hyn
 have HY := hide hya
 rw [hyn] at hK
 have HNm : Hid (n ≤ 9223372036854775807) := hide (by omega)
 have HK0 := hide hK
 have HB0 : Hid (Off (fun b => b = P.m3) w9 w9 ∧ NetAt w9 B (K + 1 + 0) P ⟨s.nodes, s.way, s.on, s.kn ++ [x] ++ ys.take 0, s.past, s.th, s.sent, s.taken⟩ l) := hide ⟨Off.refl _ _, by rw [List.take_zero, List.append_nil]; exact H9⟩
 clear hyn hya hS hS2 hb9 H8 HO c1 c0 sX8 sP8 cA0 hK
 have HH9 := hide H9
 clear H9
 go_wp2_with fail
 go_loopw [23] (fun iv wr => ∃ k : Nat, k ≤ n ∧ iv = .int .i64 (k : Int) ∧ Hid (Off (fun b => b = P.m3) w9 wr ∧ NetAt wr B (K + 1 + k) P ⟨s.nodes, s.way, s.on, s.kn ++ [x] ++ ys.take k, s.past, s.th, s.sent, s.taken⟩ l)) (fun iv _ => n - (intOf iv).toNat)
 case atStart => exact ⟨0, by omega, rfl, HB0⟩
 case round =>
  clear HB0
  obtain ⟨k, hk, rfl, HK⟩ := hrel
  by_cases hlt : k < n
  ·have k1 : (k : Int) < n := by omega
   have hn9 : n ≤ 9223372036854775807 := HNm.out
   have hkx : k < ys.length := by rw [HYn.out]; exact hlt
   obtain ⟨b, off, hab0, hbw, hre0⟩ := HY.out.elem k hkx
   have hab : ya = some ⟨b, off, none⟩ := hab0
   have okx : Ev.ok ys[k] := HY.out.2.1 _ (List.getElem_mem hkx)
   have hre0 : w9.rangeAt b (off + k * 18) (ys[k]).cells := hre0
   have hb3 : b ≠ P.m3 := not_map HH9.out (show w9.rangeAt b (off + k * 18) (.int .i64 (ys[k]).n :: _) from hre0)
   have hre : wr.rangeAt b (off + k * 18) (ys[k]).cells := range_at hre0 (HK.out.1.2 b hbw hb3)
   have cN := fun (W : World) (h : NetAt W B (K + 1 + k) P ⟨s.nodes, s.way, s.on, s.kn ++ [x] ++ ys.take k, s.past, s.th, s.sent, s.taken⟩ l) => nnote_any B (K + 1 + k) P ⟨s.nodes, s.way, s.on, s.kn ++ [x] ++ ys.take k, s.past, s.th, s.sent, s.taken⟩ l ys[k] W h hn okx (by have := HK0.out; omega)
   have HT : Hid ((s.kn ++ [x] ++ ys.take k) ++ [ys[k]] = s.kn ++ [x] ++ ys.take (k + 1)) := hide (by rw [take_add ys k hkx]; simp)
   have hul : (ys[k]).cells.length = 18 := EvE.len _ okx
   have hu1 : ∀ v ∈ (ys[k]).cells, v.oneCell' = true := EvE.one ys[k]
   simp only at cN
   rw [HT.out] at cN
   obtain ⟨u, hu⟩ : ∃ u, Hid ((ys[k]).cells = u) := ⟨_, hide rfl⟩
   rw [hu.out] at hre hul hu1
   simp only [hu.out] at cN
   have iu : (Tryz.prog.info? 36).map (·.size) = some u.length := by rw [hul]; exact isz_cl
   obtain ⟨zu, hzu, hzl⟩ : ∃ z : List Value, (∀ w : World, (zeroValue 36).run Tryz.prog w = .ok (.agg z.toArray) w) ∧ z.length = 18 := ⟨_, zeroClE, rfl⟩
   subst hab
   clear hu okx hab0
   go_upto_region 4 with fail
   try simp only [Act.put]
   refine pl_begin ?_
   refine pl_t 25 (.pointer (some ⟨b, off + k * 18, none⟩)) (by rfl) (by go_simp <;> (try simp [*])) rfl ?_
   simp only [nz]
   refine pl_t 26 (.agg u.toArray) (by rfl) (ex_mid rfl rfl hre Tryz.underlying36 rfl iu) rfl ?_
   simp only [nz]
   refine pl_run (d := some 5) (v := .pointer (some ⟨wr.heap.size, 0, none⟩)) (w' := wr.alloc (.cells zu.toArray 36)) (by rfl) (ex_alloc rfl (hzu _)) rfl ?_
   simp only [nz]
   refine pl_store (w' := (wr.alloc (.cells zu.toArray 36)).setCells wr.heap.size 0 u) (by rfl) (ex_put (cs := u.toArray) rfl rfl rfl (there_newN _ _ _ (by simp [hzl, hul])) (by simpa using iu) (all_one hu1)) rfl ?_
   refine pl_nil ?_
   obtain ⟨rU, hF, hF3, -⟩ := fresh_store wr zu.toArray 36 u (by simp [hzl, hul])
   have hN5 := HK.out.2.below hF
   have HO5 := hide (HK.out.1.trans (Off.of_below (F := fun b => b = P.m3) hF) (fun _ _ q => q))
   obtain ⟨D, hD⟩ : ∃ D, wr.heap.size = D := ⟨_, rfl⟩
   rw [hD] at rU hN5 HO5
   simp only [hD]
   obtain ⟨w5, hw5⟩ : ∃ W, (wr.alloc (.cells zu.toArray 36)).setCells D 0 u = W := ⟨_, rfl⟩
   rw [hw5] at rU hN5 HO5 ⊢
   have cN5 := cN w5 hN5
   clear hw5 hD hF hF3 hN5 cN HK hre hzu
   go_upto_region 5 with fail
   try simp only [Act.put]
   refine pl_begin ?_
   refine pl_t 27 (?_) (by rfl) ?_ rfl ?_
   rotate_left
   ·go_simp
    try with_reducible rfl
   simp only [nz]
   refine pl_t 28 (.agg u.toArray) (by rfl) (ex_mid rfl rfl rU Tryz.underlying36 rfl iu) rfl ?_
   simp only [nz]
   refine pl_call (d := some 29) (by rfl) (by go_simp; first | done | exact ⟨rfl, rfl⟩ | with_reducible rfl) rfl ?_
   refine (cN5).mono ?_
   rintro _ w6 ⟨rfl, hN6, hO6⟩
   refine ⟨_, rfl, ?_⟩
   simp only [nz]
   refine pl_nil ?_
   have HK6 : Hid (Off (fun b => b = P.m3) w9 w6 ∧ NetAt w6 B (K + 1 + (k + 1)) P ⟨s.nodes, s.way, s.on, s.kn ++ [x] ++ ys.take (k + 1), s.past, s.th, s.sent, s.taken⟩ l) := hide ⟨HO5.out.trans hO6 (fun _ _ q => q), hN6⟩
   clear hN6 hO6 cN5 rU
   go_wp2_with fail
   go_roundw
   case rel => exact ⟨k + 1, by omega, by go_num, HK6⟩
   case measure => simp [intOf]; omega
  ·obtain rfl : k = n := by omega
   have HF : Hid (NetAt wr B (K + 1 + k) P ⟨s.nodes, s.way, s.on, s.kn ++ [x] ++ ys, s.past, s.th, s.sent, s.taken⟩ l) := hide (by
    have := HK.out.2
    rw [List.take_of_length_le (by rw [HYn.out]; exact Nat.le_refl _)] at this
    exact this)
   have HZ := hide (HO9.out.trans HK.out.1 (fun _ _ q => q))
   clear HK
   go_wp2_with fail
   go_end0
   exact ⟨rfl, by rw [HYn.out]; exact HF.out, HZ.out⟩
end Go.Proofs.YtilbjeeabecfjaaGreat
