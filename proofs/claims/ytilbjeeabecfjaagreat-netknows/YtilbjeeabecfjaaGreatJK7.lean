/- requests: their fields, their body, whether they may be; requests: the body, the program's and the document's; claims of batches, of certs; claims of certs, of  -/
import Derived.Test.YtilbjeeabecfjaaGreatJK0
import Derived.Test.YtilbjeeabecfjaaGreatJK1
import Derived.Test.YtilbjeeabecfjaaGreatJK2
import Derived.Lib.SlBytesConst
import Derived.Test.YtilbjeeabecfjaaGreatJK6
import Derived.Deep.DeepCutAuto
import Derived.Test.YtilbjeeabecfjaaGreatJK3
import Derived.Deep.Cut
namespace Go.Proofs.YtilbjeeabecfjaaGreat.Rk
open Go.RowKit
open Sha Tal
def bodyL (c n : Int) (s : ByteArray) : List Int := [82] ++ putL c ++ putL n ++ textL s
theorem one_byte (w : World) : RowAt (w.alloc (.cells #[.int .u8 82] 5)) (some ⟨w.heap.size, 0, none⟩) [82] :=
 ⟨by unfold maxLen; simp, by decide, Or.inr ⟨w.heap.size, 0, rfl, by simp, range_new w #[.int .u8 82] 5⟩⟩
theorem bodyL_length (c n : Int) (s : ByteArray) (hc : c ≤ 9223372036854775807) (hn : n ≤ 9223372036854775807) (hs : s.size ≤ 100000) : (bodyL c n s).length ≤ 200000 := by
 have h1 := putL_length c (by omega)
 have h2 := putL_length n (by omega)
 have h3 := putL_length s.size (by omega)
 simp only [bodyL, textL, List.length_append, strL_length, List.length_cons, List.length_nil]
 omega
set_option maxRecDepth 100000 in
set_option maxHeartbeats 2000000 in
theorem body_any (c n : Int) (s : ByteArray) (t : List Int) (w : World) (ht : t.length = 16) (hc : c ≤ 9223372036854775807) (hn : n ≤ 9223372036854775807) (hs : s.size ≤ 100000) :
   Calls Tryz.prog 72 #[.agg (reqL c n s t).toArray] w fun e w' => e = .returned (.string (strOf (bodyL c n s))) ∧ Below w.heap.size w w' := by
  have hB1 : Below w.heap.size w (w.alloc (.cells (reqL c n s t).toArray 157)) := (Below.refl _ _).alloc (Nat.le_refl _) _
  have hR1 := req_cells w c n s t
  have hz1 : w.heap.size < (w.alloc (.cells (reqL c n s t).toArray 157)).heap.size := by simp
  have hi : (Tryz.prog.info? 157).map (·.size) = some (reqL c n s t).length := by rw [reqL_length c n s t ht]; exact iszR
  have cf := fun a cap w0 h => fields_any a cap [82] c n s t w0 h (by simp) hc hn (by omega)
  have hbl := bodyL_length c n s hc hn hs
  obtain ⟨q, hq⟩ : ∃ q, Hid (reqL c n s t = q) := ⟨_, rfl⟩
  rw [hq.out] at hB1 hz1 hi ⊢
  rw [hq.out] at hR1
  simp only [hq.out] at cf
  have eb : [82] ++ putL c ++ putL n ++ textL s = bodyL c n s := rfl
  simp only [eb] at cf
  obtain ⟨bl, hb⟩ : ∃ bl, Hid (bodyL c n s = bl) := ⟨_, rfl⟩
  simp only [hb.out] at cf
  rw [hb.out] at hbl ⊢
  obtain ⟨st, hst⟩ : ∃ st, Hid (strOf bl = st) := ⟨_, rfl⟩
  rw [hst.out]
  clear eb
  go_enter Tryz.func72, Tryz.ntmps72
  go_upto_region 1 with fail
  go_name_world w1 hw1
  rw [show w.alloc (.cells q.toArray 157) = w1 from hw1] at hB1 hR1 hz1
  clear hw1
  have hB2' : Below w1.heap.size w1 (w1.alloc (.cells #[.int .u8 82] 5)) := (Below.refl _ _).alloc (Nat.le_refl _) _
  have hB2 := hB1.trans (hB2'.mono hB1.size)
  have hR2 := range_below hR1 hB2' hz1
  have c2 := cf _ 1 _ (one_byte w1)
  simp only [List.length_cons, List.length_nil, Nat.zero_add] at c2
  clear cf hB1 hR1 hB2'
  obtain ⟨X, hX⟩ : ∃ X, Hid (w.heap.size = X) := ⟨_, rfl⟩
  rw [hX.out] at hR2
  rw [hX.out]
  go_wp2_with (refine wpList_load_mid rfl 157 _ rfl _ 0 rfl q _ hR2 Tryz.underlying157 rfl hi ?_)
  refine c2.mono ?_
  rintro e w3 ⟨v3, rfl, hM3, hw3⟩
  have hfin := hB2.trans (hw3.mono hB2.size)
  obtain ⟨a3, cap3, rfl, _, _, hrow3⟩ := hM3.rowAt (by unfold maxLen; omega)
  have hstr := row_mine hrow3 cap3
  rw [hst.out] at hstr
  clear c2 hM3 hw3 hrow3 hR2 hB2 hbl
  generalize bl.length = nb at *
  go_wp2
  go_ret
  rw [← hX.out]
  exact ⟨rfl, hfin⟩
end Go.Proofs.YtilbjeeabecfjaaGreat.Rk
namespace Go.Proofs.YtilbjeeabecfjaaGreat
open Go.RowKit
open Sha Tal
set_option linter.unusedVariables false
set_option linter.unusedSimpArgs false
def batC (N : Int) (rs : List Rq) : List Ev := rs.map fun r => ⟨IntKind.i64.wrap (N + r.c), strOf (Rk.bodyL r.c r.n r.s), r.t⟩
def cerC (v : Vt) (ss : List Sg) : List Ev := ss.map fun s => ⟨s.n, optS v.may (voteL v), s.t⟩
def sgC (ss : List Sg) : List Ev := ss.map fun s => ⟨s.n, ⟨#[]⟩, s.t⟩
def addV (O : Nat) : Value := .func (.func 37) #[] #[.pointer (some ⟨O, 0, none⟩)]
theorem wrapIn (z : Int) : -9223372036854775808 ≤ IntKind.i64.wrap z ∧ IntKind.i64.wrap z ≤ 9223372036854775807 := by rw [IntKind.wrap_i64]; omega
theorem strOf_sizeV (zs : List Int) : (strOf zs).size = zs.length := strOf_size zs
theorem batC_ok {N : Int} {r : Rq} (h : r.ok) (hs : r.s.size ≤ 100000) : Ev.ok ⟨IntKind.i64.wrap (N + r.c), strOf (Rk.bodyL r.c r.n r.s), r.t⟩ :=
 ⟨h.tl, h.tb, by
  have := Rk.bodyL_length r.c r.n r.s h.ch h.nh hs
  show (strOf (Rk.bodyL r.c r.n r.s)).size ≤ maxLen
  rw [strOf_sizeV]
  unfold maxLen
  omega, (wrapIn _).1, (wrapIn _).2⟩
theorem optS_size {v : Vt} (h : v.ok) : (optS v.may (voteL v)).size ≤ 1000 := by
 unfold optS
 split
 ·rw [strOf_sizeV]; exact voteL_len h
 ·decide
theorem cerC_ok {v : Vt} (hv : v.ok) {s : Sg} (h : s.ok) : Ev.ok ⟨s.n, optS v.may (voteL v), s.t⟩ :=
 ⟨h.tl, h.tb, Nat.le_trans (optS_size hv) (by unfold maxLen; decide), h.nl, h.nh⟩
theorem sgC_ok {s : Sg} (h : s.ok) : Ev.ok ⟨s.n, ⟨#[]⟩, s.t⟩ := ⟨h.tl, h.tb, Nat.zero_le _, h.nl, h.nh⟩
theorem take_succ_map {α β : Type} {f : α → β} {xs : List α} {k : Nat} (hk : k < xs.length) : (xs.map f).take (k + 1) = (xs.map f).take k ++ [f xs[k]] := by
 rw [List.take_add_one]
 simp [List.getElem?_eq_getElem hk]
theorem Grow.range {w w' : World} {O b o : Nat} {v v' : Value} {cs : List Value} (g : Grow w w' O v v') (hb : b < w.heap.size) (hc : Clr O v b) (h : w.rangeAt b o cs) : w'.rangeAt b o cs := fun j u hu => by
 rw [(cell_block (g.block b hb hc.1 hc.2)).1]
 exact h j u hu
structure CI (w wr : World) (O : Nat) (v vk : Value) (cs : List Ev) : Prop where
 out : OutC wr O vk cs
 grow : Grow w wr O v vk
theorem CI.later {w wr w' : World} {O : Nat} {v vk : Value} {cs : List Ev} (h : CI w wr O v vk cs) (hb : Below wr.heap.size wr w') : CI w w' O v vk cs := ⟨h.out.below hb, h.grow.trans (Grow.of hb _ _)⟩
theorem CI.add {w wr w' : World} {O : Nat} {v vk v' : Value} {cs ds : List Ev} (h : CI w wr O v vk cs) (ho : OutC w' O v' ds) (hg : Grow wr w' O vk v') : CI w w' O v v' ds := ⟨ho, h.grow.trans hg⟩
theorem clr_new {w wr : World} {O : Nat} {v vk : Value} {cs : List Ev} (h : CI w wr O v vk cs) {b : Nat} (hb : wr.heap.size ≤ b) : Clr O vk b := ⟨by have := h.out.lt; omega, fun e => by have := (h.out.own.lt b e).2; omega⟩
set_option maxRecDepth 100000 in
set_option maxHeartbeats 1000000 in
theorem bclaims_any (N : Int) (q : Bool) (x : Sl Rq) (O : Nat) (v : Value) (cs : List Ev) (w : World) (h : OutC w O v cs) (hx : x.At RqE w) (hc : x.Bk (Clr O v)) (hn : cs.length + x.xs.length ≤ 1000000000) (hb : ∀ r ∈ x.xs, r.s.size ≤ 100000) :
  Calls Tryz.prog 48 #[.int .i64 N, .agg #[.bool q, x.val], addV O] w fun en w' => en = .returned (.tuple #[]) ∧ ∃ v', OutC w' O v' (cs ++ batC N x.xs) ∧ Grow w w' O v v' := by
 obtain ⟨z19, hzl, hzr⟩ : ∃ z : List Value, z.length = 19 ∧ (∀ w : World, (zeroValue 157).run Tryz.prog w = .ok (.agg z.toArray) w) := ⟨[.int .i64 0, .int .i64 0, .string ⟨#[]⟩] ++ v8 (List.replicate 16 0), rfl, fun w => by kernel_rfl⟩
 have ca := fun w0 vk ds e he h0 hl => cadd_any O vk ds e w0 h0 he hl
 obtain ⟨B1, r1, s1⟩ := boxed_new w [.bool q, x.val] 97
 have pr : (w.alloc (.cells [Value.bool q, x.val].toArray 97)).cell? ⟨w.heap.size, 1, none⟩ = some x.val := by have := r1 1 _ rfl; rwa [Nat.zero_add] at this
 have HC0 : CI w (w.alloc (.cells [Value.bool q, x.val].toArray 97)) O v v (cs ++ (batC N x.xs).take 0) := ⟨by rw [List.take_zero, List.append_nil]; exact h.below B1, Grow.of B1 _ _⟩
 have hx1 := hx
 obtain ⟨xa, xc, xs⟩ := x
 obtain ⟨n, hxn⟩ : ∃ n, xs.length = n := ⟨_, rfl⟩
 have hval : (Sl.mk xa xc xs).val = .slice xa n xc := by unfold Sl.val; rw [← hxn]
 rw [hval] at r1 pr HC0 B1 s1 ⊢
 clear hval r1
 have HN := hide hxn
 have HXX : Hid (Sl.At RqE w ⟨xa, xc, xs⟩) := hide hx
 have HCC := hide hc
 have HB : Hid (∀ r ∈ xs, r.s.size ≤ 100000) := hide hb
 have hn : cs.length + xs.length ≤ 1000000000 := hn
 have HNN := hide hn
 clear hx hx1 hc hb hn hxn h
 go_enter Tryz.func48, Tryz.ntmps48
 go_upto_region 1 with fail
 go_name_world W hW
 rw [show w.alloc (.cells #[.bool q, .slice xa n xc] 97) = W from hW] at B1 pr s1 HC0
 clear hW
 have HC1 := hide HC0
 clear HC0
 unfold addV
 go_wp2_with fail
 go_loopw [11] (fun iv wr => ∃ (k : Nat) (vk : Value), k ≤ n ∧ iv = .int .i64 (k : Int) ∧ Hid (CI w wr O v vk (cs ++ (batC N xs).take k))) (fun iv _ => n - (intOf iv).toNat)
 case atStart => exact ⟨0, v, by omega, rfl, HC1⟩
 case round =>
  clear HC1 pr
  obtain ⟨k, vk, hk, rfl, HK⟩ := hrel
  by_cases hlt : k < n
  ·have k1 : (k : Int) < n := by omega
   have hn9 : n ≤ 1000000000 := by have h1 := HNN.out; have h2 := HN.out; omega
   have hkx : k < xs.length := by rw [HN.out]; exact hlt
   obtain ⟨b, off, hab, hbw, hre⟩ := (HXX.out.grow HK.out.grow HCC.out).elem k hkx
   have hab : xa = some ⟨b, off, none⟩ := hab
   have hre : wr.rangeAt b (off + k * 19) (RqE.f xs[k]) := hre
   have okx : Rq.ok xs[k] := HXX.out.2.1 _ (List.getElem_mem hkx)
   have hsz := HB.out _ (List.getElem_mem hkx)
   have HT : Hid ((batC N xs).take (k + 1) = (batC N xs).take k ++ [⟨IntKind.i64.wrap (N + (xs[k]).c), strOf (Rk.bodyL (xs[k]).c (xs[k]).n (xs[k]).s), (xs[k]).t⟩]) := hide (take_succ_map hkx)
   have HL : (cs ++ (batC N xs).take k).length ≤ 1000000000 := by have := HNN.out; simp only [List.length_append, List.length_take]; omega
   obtain ⟨g, hg⟩ : ∃ g, xs[k] = g := ⟨_, rfl⟩
   rw [hg] at hre okx hsz HT
   clear hg
   have hok := batC_ok (N := N) okx hsz
   have ca := fun w0 vk ds h0 hl => ca w0 vk ds _ hok h0 hl
   have cb := fun w0 => Rk.body_any g.c g.n g.s g.t w0 okx.tl okx.ch okx.nh hsz
   have cb : ∀ w0, Calls Tryz.prog 72 #[.agg (RqE.f g).toArray] w0 fun e w' => e = .returned (.string (strOf (Rk.bodyL g.c g.n g.s))) ∧ Below w0.heap.size w0 w' := cb
   have hu0 : (RqE.f g)[0]? = some (.int .i64 g.c) := rfl
   have hut : RqE.f g = .int .i64 g.c :: .int .i64 g.n :: .string g.s :: v8 g.t := rfl
   have it16 : (Tryz.prog.info? 30).map (·.size) = some (v8 g.t).length := by rw [v8_length, okx.tl]; exact iszT
   have tgof : ∀ {w' : World}, w'.rangeAt wr.heap.size 0 (RqE.f g) → w'.rangeAt wr.heap.size 3 (v8 g.t) := fun {w'} hw j u hu => by
    have := hw (j + 3) u (by rw [hut]; exact hu)
    rw [show 0 + (j + 3) = 3 + j by omega] at this
    exact this
   have c0of : ∀ {w' : World}, w'.rangeAt wr.heap.size 0 (RqE.f g) → (RqE.f g)[0]? = some (.int .i64 g.c) → w'.cell? ⟨wr.heap.size, 0, none⟩ = some (.int .i64 g.c) := fun {w'} hw _ => by have := hw 0 _ rfl; rwa [Nat.zero_add] at this
   have iu : (Tryz.prog.info? 157).map (·.size) = some (RqE.f g).length := by rw [RqE.len g okx]; kernel_rfl
   have hul : (RqE.f g).length = 19 := RqE.len g okx
   have hu1 := RqE.one g
   obtain ⟨id, hid⟩ : ∃ i, IntKind.i64.wrap (N + g.c) = i := ⟨_, rfl⟩
   rw [hid] at HT hok
   simp only [hid] at ca
   obtain ⟨bd, hbd⟩ : ∃ i, Hid (strOf (Rk.bodyL g.c g.n g.s) = i) := ⟨_, hide rfl⟩
   rw [hbd.out] at HT hok
   simp only [hbd.out] at ca cb
   obtain ⟨tg, htg⟩ : ∃ t, Hid (g.t = t) := ⟨_, hide rfl⟩
   rw [htg.out] at HT hok it16
   simp only [htg.out] at ca tgof
   clear hut okx hok hsz htg hbd
   generalize RqE.f g = u at *
   rw [hab]
   go_upto_region 3 with fail
   obtain ⟨r5, hF, hF3, -⟩ := fresh_store wr z19.toArray 157 u (by simp [hzl, hul])
   try simp only [Act.put]
   refine pl_begin ?_
   refine pl_t 13 (?_) (by rfl) ?_ rfl ?_
   rotate_left
   ·go_simp
    try with_reducible rfl
   simp only [nz]
   refine pl_t 14 (.agg u.toArray) (by rfl) (ex_mid rfl rfl hre Tryz.underlying157 rfl iu) rfl ?_
   simp only [nz]
   refine pl_run (d := some 7) (v := .pointer (some ⟨wr.heap.size, 0, none⟩)) (w' := wr.alloc (.cells z19.toArray 157)) (by rfl) (ex_alloc rfl (hzr _)) rfl ?_
   simp only [nz]
   refine pl_store (w' := (wr.alloc (.cells z19.toArray 157)).setCells wr.heap.size 0 u) (by rfl) (ex_put (cs := u.toArray) rfl rfl rfl (there_newN _ _ _ (by simp [hzl, hul])) (by simpa using iu) (all_one hu1)) rfl ?_
   refine pl_nil ?_
   have HC := HK.out.later hF
   have HX := clr_new HK.out (Nat.le_refl _)
   clear HK
   obtain ⟨X, hX⟩ : ∃ X, wr.heap.size = X := ⟨_, rfl⟩
   simp only [hX] at r5 HC HX hF3 tgof c0of ⊢
   obtain ⟨w5, hw5⟩ : ∃ W, (wr.alloc (.cells z19.toArray 157)).setCells X 0 u = W := ⟨_, rfl⟩
   rw [hw5] at r5 HC hF3 ⊢
   have sX : X < w5.heap.size := by omega
   clear hw5 hX hF hF3 hre hab
   go_upto_region 4 with fail
   have hdr : Below w5.heap.size w5 w5.drew := (Below.refl _ _).drew
   have r5 := range_below r5 hdr sX
   have HC := HC.later hdr
   have sX := Nat.lt_of_lt_of_le sX hdr.size
   refine hs_begin (S := fun W' : World => W'.rangeAt X 0 u) 10 rfl (by kernel_rfl) ?_
   obtain ⟨w8, hw8⟩ : ∃ W, w5.drew = W := ⟨_, rfl⟩
   rw [hw8] at r5 HC sX ⊢
   clear hdr hw8
   have hS : w8.rangeAt X 0 u := r5
   refine hs_t 0 15 (?_) rfl (by kernel_rfl) (by kernel_rfl) (by kernel_rfl) (by rfl) ?_ hS rfl ?_
   rotate_left
   ·intro w' hw
    go_simp
    try with_reducible rfl
   simp only [nz]
   refine hs_t 1 16 (?_) rfl (by kernel_rfl) (by kernel_rfl) (by kernel_rfl) (by rfl) ?_ hS rfl ?_
   rotate_left
   ·intro w' hw
    go_simp
    try with_reducible rfl
   simp only [nz]
   refine hs_t 2 17 (?_) rfl (by kernel_rfl) (by kernel_rfl) (by kernel_rfl) (by rfl) ?_ hS rfl ?_
   rotate_left
   ·intro w' hw
    go_simp
    try with_reducible rfl
   simp only [nz]
   refine hs_t 3 18 (.int .i64 g.c) rfl (by kernel_rfl) (by kernel_rfl) (by kernel_rfl) (by rfl) (fun w' hw => pl_one rfl rfl (c0of hw hu0) Tryz.underlying3 rfl) hS rfl ?_
   simp only [nz]
   refine hs_t 4 19 (.int .i64 id) rfl (by kernel_rfl) (by kernel_rfl) (by kernel_rfl) (by rfl) (fun w' hw => by go_simp <;> (try simp [hid])) hS rfl ?_
   simp only [nz]
   refine hs_t 5 20 (.agg u.toArray) rfl (by kernel_rfl) (by kernel_rfl) (by kernel_rfl) (by rfl) (fun w' hw => ex_mid rfl rfl hw Tryz.underlying157 rfl iu) hS rfl ?_
   simp only [nz]
   refine hs_t 7 22 (?_) rfl (by kernel_rfl) (by kernel_rfl) (by kernel_rfl) (by rfl) ?_ hS rfl ?_
   rotate_left
   ·intro w' hw
    go_simp
    try with_reducible rfl
   simp only [nz]
   refine hs_t 8 23 (.agg (v8 tg).toArray) rfl (by kernel_rfl) (by kernel_rfl) (by kernel_rfl) (by rfl) (fun w' hw => ex_mid rfl rfl (tgof hw) Tryz.underlying30 rfl it16) hS rfl ?_
   simp only [nz]
   refine hs_call (i := 6) (d := some 21) rfl (by kernel_rfl) (by rfl) (by go_simp; first | done | exact ⟨rfl, rfl⟩ | with_reducible rfl) rfl ?_
   refine (cb w8).mono ?_
   rintro _ wb ⟨rfl, hbb⟩
   have hS : wb.rangeAt X 0 u := range_below hS hbb sX
   have HC := HC.later hbb
   have sX := Nat.lt_of_lt_of_le sX hbb.size
   refine ⟨_, rfl, hS, ?_⟩
   simp only [nz]
   refine hs_call (i := 9) (d := some 24) rfl (by kernel_rfl) (by rfl) (by go_simp; first | done | exact ⟨rfl, rfl⟩ | with_reducible rfl) rfl ?_
   refine (ca wb vk (cs ++ (batC N xs).take k) HC.out HL).mono ?_
   rintro _ wc ⟨rfl, v', ho', hg'⟩
   have hS : wc.rangeAt X 0 u := hg'.range sX HX hS
   refine ⟨_, rfl, hS, ?_⟩
   simp only [nz]
   refine hs_done (by kernel_rfl) ?_
   have HD : Hid (CI w wc O v v' (cs ++ (batC N xs).take (k + 1))) := hide (by
    rw [HT.out, ← List.append_assoc]
    exact HC.add ho' hg')
   clear HC ho' hg' hS HX r5 hbb cb ca tgof c0of HT iu it16 hu0 hu1 hul hzr hzl hid
   go_wp2_with fail
   go_roundw
   case rel => exact ⟨k + 1, v', by omega, by go_num, HD⟩
   case measure => simp [intOf]; omega
  ·obtain rfl : k = n := by omega
   have HE : Hid (OutC wr O vk (cs ++ batC N xs) ∧ Grow w wr O v vk) := hide (by
    have h1 := HK.out.out
    rw [List.take_of_length_le (by unfold batC; rw [List.length_map, HN.out]; exact Nat.le_refl _)] at h1
    exact ⟨h1, HK.out.grow⟩)
   clear HK ca hlt
   go_wp2_with fail
   go_end0
   exact ⟨rfl, vk, HE.out⟩
theorem HdsAt.grow {w w' : World} {O : Nat} {v v' : Value} {x : Sl Hd} (h : HdsAt w x) (k : Grow w w' O v v') (hb : x.Bk (Clr O v)) (hb2 : ∀ y ∈ x.xs, y.Bk (Clr O v)) : HdsAt w' x :=
 ⟨h.1.grow k hb, fun y hy => ⟨(h.2 y hy).1.grow k (hb2 y hy).1, (h.2 y hy).2.grow k (hb2 y hy).2⟩⟩
theorem Mg.At.grow {m : Mg} {w w' : World} {O : Nat} {v v' : Value} (h : m.At w) (k : Grow w w' O v v') (hb : m.Bk (Clr O v)) : m.At w' :=
 ⟨h.rs.grow k hb.1, h.he.grow k hb.2.1 hb.2.2.1, h.ne.grow k hb.2.2.2.1, h.cs.grow k hb.2.2.2.2.1, h.sg.grow k hb.2.2.2.2.2⟩
theorem Mg.Bk.grow {m : Mg} {w w' : World} {O : Nat} {v v' : Value} (h : m.At w) (k : Grow w w' O v v') (hb : m.Bk (Clr O v)) : m.Bk (Clr O v') :=
 ⟨hb.1.grow h.rs k, hb.2.1.grow h.he.1 k, fun y hy => ⟨(hb.2.2.1 y hy).1.grow (h.he.2 y hy).1 k, (hb.2.2.1 y hy).2.grow (h.he.2 y hy).2 k⟩, hb.2.2.2.1.grow h.ne k, hb.2.2.2.2.1.grow h.cs k, hb.2.2.2.2.2.grow h.sg k⟩
def hdC (N : Int) (h : Hp) : List Ev := batC N h.rs ++ cerC h.vt h.sg
def heC (N : Int) (hs : List Hp) : List Ev := hs.flatMap (hdC N)
def ownC (N : Int) (m : Mp) : List Ev := batC N m.rs ++ cerC m.ct m.cs ++ heC N m.he ++ sgC m.sg
theorem heC_succ {N : Int} {hs : List Hp} {k : Nat} (hk : k < hs.length) : heC N (hs.take (k + 1)) = heC N (hs.take k) ++ hdC N hs[k] := by
 have e : hs.take (k + 1) = hs.take k ++ [hs[k]] := by rw [List.take_add_one, List.getElem?_eq_getElem hk]; rfl
 unfold heC
 rw [e, List.flatMap_append]
 simp
theorem heC_le (N : Int) (hs : List Hp) (k : Nat) : (heC N (hs.take k)).length ≤ (heC N hs).length := by
 have : heC N hs = heC N (hs.take k) ++ heC N (hs.drop k) := by
  unfold heC
  rw [← List.flatMap_append, List.take_append_drop]
 rw [this, List.length_append]
 omega
theorem batC_len (N : Int) (rs : List Rq) : (batC N rs).length = rs.length := by simp [batC]
theorem cerC_len (v : Vt) (ss : List Sg) : (cerC v ss).length = ss.length := by simp [cerC]
theorem sgC_len (ss : List Sg) : (sgC ss).length = ss.length := by simp [sgC]
theorem zeroSg17 (w : World) : (zeroValue 131).run Tryz.prog w = .ok (.agg ([Value.int .i64 0] ++ v8 (List.replicate 16 0)).toArray) w := zeroSgE w
set_option maxRecDepth 100000 in
set_option maxHeartbeats 1000000 in
theorem cclaims_any (vt : Vt) (x : Sl Sg) (O : Nat) (v : Value) (cs : List Ev) (w : World) (h : OutC w O v cs) (hvt : vt.ok) (hx : x.At SgE w) (hc : x.Bk (Clr O v)) (hn : cs.length + x.xs.length ≤ 1000000000) :
  Calls Tryz.prog 49 #[.agg (certL vt x).toArray, addV O] w fun en w' => en = .returned (.tuple #[]) ∧ ∃ v', OutC w' O v' (cs ++ cerC vt x.xs) ∧ Grow w w' O v v' := by
 obtain ⟨z17, hzl, hzr⟩ : ∃ z : List Value, z.length = 17 ∧ (∀ w : World, (zeroValue 131).run Tryz.prog w = .ok (.agg z.toArray) w) := ⟨_, rfl, zeroSg17⟩
 have ca := fun w0 vk ds e he h0 hl => cadd_any O vk ds e w0 h0 he hl
 have cv := fun w0 => vote13_any vt hvt w0
 have hvl := hvt.len
 obtain ⟨B1, r1, s1⟩ := boxed_new w (certL vt x) 107
 have r1v : (w.alloc (.cells (certL vt x).toArray 107)).rangeAt w.heap.size 0 vt.cells := range_left r1
 have pr : (w.alloc (.cells (certL vt x).toArray 107)).cell? ⟨w.heap.size, 36, none⟩ = some x.val := by
  have := range_right r1 0 _ rfl
  simpa [hvl] using this
 have HC0 : CI w (w.alloc (.cells (certL vt x).toArray 107)) O v v cs := ⟨h.below B1, Grow.of B1 _ _⟩
 have iv : (Tryz.prog.info? 101).map (·.size) = some vt.cells.length := by rw [hvl]; kernel_rfl
 obtain ⟨bv, hbv⟩ : ∃ b, Hid (optS vt.may (voteL vt) = b) := ⟨_, hide rfl⟩
 simp only [hbv.out] at cv
 obtain ⟨xa, xc, xs⟩ := x
 obtain ⟨n, hxn⟩ : ∃ n, xs.length = n := ⟨_, rfl⟩
 have hval : (Sl.mk xa xc xs).val = .slice xa n xc := by unfold Sl.val; rw [← hxn]
 have hn : cs.length + xs.length ≤ 1000000000 := hn
 rw [hval] at pr
 obtain ⟨q, hq⟩ : ∃ q, Hid (certL vt ⟨xa, xc, xs⟩ = q) := ⟨_, hide rfl⟩
 rw [hq.out] at B1 pr s1 HC0 r1v ⊢
 obtain ⟨vc, hvc⟩ : ∃ q, Hid (vt.cells = q) := ⟨_, hide rfl⟩
 rw [hvc.out] at iv r1v
 simp only [hvc.out] at cv
 clear hval r1 hvl hq hvc
 have HN := hide hxn
 have HXX : Hid (Sl.At SgE w ⟨xa, xc, xs⟩) := hide hx
 have HCC := hide hc
 have HNN := hide hn
 have HVT := hide hvt
 clear hx hc hn hxn h hvt
 go_enter Tryz.func49, Tryz.ntmps49
 go_upto_region 1 with fail
 go_name_world W hW
 rw [show w.alloc (.cells q.toArray 107) = W from hW] at B1 pr s1 HC0 r1v
 clear hW
 try simp only [Act.put]
 refine pl_begin ?_
 refine pl_t 7 (?_) (by rfl) ?_ rfl ?_
 rotate_left
 ·go_simp
  try with_reducible rfl
 simp only [nz]
 refine pl_t 8 (.agg vc.toArray) (by rfl) (ex_mid rfl rfl r1v Tryz.underlying101 rfl iv) rfl ?_
 simp only [nz]
 refine pl_call (d := some 9) (by rfl) (by go_simp; first | done | exact ⟨rfl, rfl⟩ | with_reducible rfl) rfl ?_
 refine (cv W).mono ?_
 rintro _ w1 ⟨rfl, hb1⟩
 refine ⟨_, rfl, ?_⟩
 simp only [nz]
 refine pl_t 4 (?_) (by rfl) ?_ rfl ?_
 rotate_left
 ·go_simp
  try with_reducible rfl
 simp only [nz]
 refine pl_nil ?_
 have pr := (hb1.cell (p := ⟨w.heap.size, 36, none⟩) s1).trans pr
 have HC1 := hide (HC0.later hb1)
 clear HC0 r1v cv iv hb1 B1
 go_upto_region 2 with fail
 try simp only [Act.put]
 refine pl_begin ?_
 refine pl_t 10 (?_) (by rfl) ?_ rfl ?_
 rotate_left
 ·go_simp
  try with_reducible rfl
 simp only [nz]
 refine pl_t 11 (.slice xa n xc) (by rfl) (pl_one rfl rfl pr Tryz.underlying105 rfl) rfl ?_
 simp only [nz]
 refine pl_t 12 (?_) (by rfl) ?_ rfl ?_
 rotate_left
 ·go_simp
  try with_reducible rfl
 simp only [nz]
 refine pl_t 13 (?_) (by rfl) ?_ rfl ?_
 rotate_left
 ·go_simp
  try with_reducible rfl
 simp only [nz]
 refine pl_nil ?_
 clear pr s1
 have HC1 : Hid (CI w w1 O v v (cs ++ (cerC vt xs).take 0)) := hide (by rw [List.take_zero, List.append_nil]; exact HC1.out)
 unfold addV
 go_wp2_with fail
 go_loopw [13] (fun iv wr => ∃ (k : Nat) (vk : Value), k ≤ n ∧ iv = .int .i64 (k : Int) ∧ Hid (CI w wr O v vk (cs ++ (cerC vt xs).take k))) (fun iv _ => n - (intOf iv).toNat)
 case atStart => exact ⟨0, v, by omega, rfl, HC1⟩
 case round =>
  clear HC1
  obtain ⟨k, vk, hk, rfl, HK⟩ := hrel
  by_cases hlt : k < n
  ·have k1 : (k : Int) < n := by omega
   have hn9 : n ≤ 1000000000 := by have h1 := HNN.out; have h2 := HN.out; omega
   have hkx : k < xs.length := by rw [HN.out]; exact hlt
   obtain ⟨b, off, hab, hbw, hre⟩ := (HXX.out.grow HK.out.grow HCC.out).elem k hkx
   have hab : xa = some ⟨b, off, none⟩ := hab
   have hre : wr.rangeAt b (off + k * 17) (SgE.f xs[k]) := hre
   have okx : Sg.ok xs[k] := HXX.out.2.1 _ (List.getElem_mem hkx)
   have HT : Hid ((cerC vt xs).take (k + 1) = (cerC vt xs).take k ++ [⟨(xs[k]).n, optS vt.may (voteL vt), (xs[k]).t⟩]) := hide (take_succ_map hkx)
   have HL : (cs ++ (cerC vt xs).take k).length ≤ 1000000000 := by have := HNN.out; simp only [List.length_append, List.length_take]; omega
   obtain ⟨g, hg⟩ : ∃ g, xs[k] = g := ⟨_, rfl⟩
   rw [hg] at hre okx HT
   clear hg
   have hok : Ev.ok ⟨g.n, optS vt.may (voteL vt), g.t⟩ := cerC_ok HVT.out okx
   have ca := fun w0 vk ds h0 hl => ca w0 vk ds _ hok h0 hl
   have hut : SgE.f g = .int .i64 g.n :: v8 g.t := rfl
   have it16 : (Tryz.prog.info? 30).map (·.size) = some (v8 g.t).length := by rw [v8_length, okx.tl]; exact iszT
   have iu : (Tryz.prog.info? 131).map (·.size) = some (SgE.f g).length := by rw [SgE.len g okx]; kernel_rfl
   have hul : (SgE.f g).length = 17 := SgE.len g okx
   have hu1 := SgE.one g
   obtain ⟨id, hid⟩ : ∃ i, g.n = i := ⟨_, rfl⟩
   have hbd := hbv
   obtain ⟨tg, htg⟩ : ∃ t, g.t = t := ⟨_, rfl⟩
   rw [hid, htg] at HT
   rw [hid] at hut
   rw [hbd.out] at HT
   rw [htg] at hut it16
   simp only [hid, hbd.out, htg] at ca
   clear hbd
   clear okx hok htg hid
   obtain ⟨u, hu⟩ : ∃ u, Hid (SgE.f g = u) := ⟨_, hide rfl⟩
   rw [hu.out] at hre iu hul hu1 hut
   clear hu
   rw [hab]
   go_upto_region 4 with fail
   obtain ⟨r5, hF, hF3, -⟩ := fresh_store wr z17.toArray 131 u (by simp [hzl, hul])
   try simp only [Act.put]
   refine pl_begin ?_
   refine pl_t 15 (?_) (by rfl) ?_ rfl ?_
   rotate_left
   ·go_simp
    try with_reducible rfl
   simp only [nz]
   refine pl_t 16 (.agg u.toArray) (by rfl) (ex_mid rfl rfl hre Tryz.underlying131 rfl iu) rfl ?_
   simp only [nz]
   refine pl_run (d := some 6) (v := .pointer (some ⟨wr.heap.size, 0, none⟩)) (w' := wr.alloc (.cells z17.toArray 131)) (by rfl) (ex_alloc rfl (hzr _)) rfl ?_
   simp only [nz]
   refine pl_store (w' := (wr.alloc (.cells z17.toArray 131)).setCells wr.heap.size 0 u) (by rfl) (ex_put (cs := u.toArray) rfl rfl rfl (there_newN _ _ _ (by simp [hzl, hul])) (by simpa using iu) (all_one hu1)) rfl ?_
   refine pl_nil ?_
   have HC := HK.out.later hF
   clear HK
   obtain ⟨X, hX⟩ : ∃ X, wr.heap.size = X := ⟨_, rfl⟩
   simp only [hX] at r5 HC hF3 ⊢
   obtain ⟨w5, hw5⟩ : ∃ W, (wr.alloc (.cells z17.toArray 131)).setCells X 0 u = W := ⟨_, rfl⟩
   rw [hw5] at r5 HC hF3 ⊢
   have sX : X < w5.heap.size := by omega
   clear hw5 hX hF hF3 hre hab
   have c0 : w5.cell? ⟨X, 0, none⟩ = some (.int .i64 id) := by simpa using r5 0 _ (by rw [hut]; rfl)
   have ct : w5.rangeAt X 1 (v8 tg) := fun j y hy => by
    have := r5 (j + 1) y (by rw [hut]; exact hy)
    rw [show 0 + (j + 1) = 1 + j by omega] at this
    exact this
   clear r5
   go_upto_region 5 with fail
   try simp only [Act.put]
   refine pl_begin ?_
   refine pl_t 17 (?_) (by rfl) ?_ rfl ?_
   rotate_left
   ·go_simp
    try with_reducible rfl
   simp only [nz]
   refine pl_t 18 (?_) (by rfl) ?_ rfl ?_
   rotate_left
   ·go_simp
    try with_reducible rfl
   simp only [nz]
   refine pl_t 19 (.int .i64 id) (by rfl) (pl_one rfl rfl c0 Tryz.underlying3 rfl) rfl ?_
   simp only [nz]
   refine pl_t 20 (?_) (by rfl) ?_ rfl ?_
   rotate_left
   ·go_simp
    try with_reducible rfl
   simp only [nz]
   refine pl_t 21 (?_) (by rfl) ?_ rfl ?_
   rotate_left
   ·go_simp
    try with_reducible rfl
   simp only [nz]
   refine pl_t 22 (.agg (v8 tg).toArray) (by rfl) (ex_mid rfl rfl ct Tryz.underlying30 rfl it16) rfl ?_
   simp only [nz]
   refine pl_call (d := some 23) (by rfl) (by go_simp; first | done | exact ⟨rfl, rfl⟩ | with_reducible rfl) rfl ?_
   refine (ca w5 vk (cs ++ (cerC vt xs).take k) HC.out HL).mono ?_
   rintro _ wc ⟨rfl, v', ho', hg'⟩
   refine ⟨_, rfl, ?_⟩
   simp only [nz]
   refine pl_nil ?_
   have HD : Hid (CI w wc O v v' (cs ++ (cerC vt xs).take (k + 1))) := hide (by
    rw [HT.out, ← List.append_assoc]
    exact HC.add ho' hg')
   clear HC ho' hg' c0 ct ca HT iu it16 hul hu1 hut hzr hzl
   go_wp2_with fail
   go_roundw
   case rel => exact ⟨k + 1, v', by omega, by go_num, HD⟩
   case measure => simp [intOf]; omega
  ·obtain rfl : k = n := by omega
   have HE : Hid (OutC wr O vk (cs ++ cerC vt xs) ∧ Grow w wr O v vk) := hide (by
    have h1 := HK.out.out
    rw [List.take_of_length_le (by rw [cerC_len, HN.out]; exact Nat.le_refl _)] at h1
    exact ⟨h1, HK.out.grow⟩)
   clear HK ca hlt
   go_wp2_with fail
   go_end0
   exact ⟨rfl, vk, HE.out⟩
theorem pair_at {w : World} {b o : Nat} {x y : Value} (h0 : w.cell? ⟨b, o, none⟩ = some x) (h1 : w.cell? ⟨b, o + 1, none⟩ = some y) : w.rangeAt b o [x, y] := fun j u hu => by
 rcases j with _ | _ | j
 ·simp at hu; subst hu; exact h0
 ·simp at hu; subst hu; exact h1
 ·simp at hu
theorem iszBaV (q : Bool) (x : Value) : (Tryz.prog.info? 97).map (·.size) = some [Value.bool q, x].length := by kernel_rfl
theorem zeroHd39 : ∃ z : List Value, z.length = 39 ∧ (∀ w : World, (zeroValue 129).run Tryz.prog w = .ok (.agg z.toArray) w) := ⟨_, rfl, zeroHdE⟩
structure Small (m : Mg) : Prop where
 rs : ∀ r ∈ m.rs.xs, r.s.size ≤ 100000
 he : ∀ h ∈ m.he.xs, ∀ r ∈ h.rs.xs, r.s.size ≤ 100000
theorem ownC_len (N : Int) (m : Mg) : (ownC N m.pure).length = m.rs.xs.length + m.cs.xs.length + (heC N (m.he.xs.map Hd.pure)).length + m.sg.xs.length := by
 unfold ownC
 simp only [List.length_append, batC_len, cerC_len, sgC_len]
 rfl
set_option maxRecDepth 100000 in
set_option maxHeartbeats 2000000 in
theorem oclaims_any (N : Int) (m : Mg) (O : Nat) (v : Value) (cs : List Ev) (w : World) (h : OutC w O v cs) (mo : m.ok) (ma0 : m.At w) (mb : m.Bk (Clr O v)) (hn : cs.length + (ownC N m.pure).length ≤ 1000000000) (hsm : Small m) :
  Calls Tryz.prog 38 #[.int .i64 N, .agg m.ms.cells.toArray, addV O] w fun en w' => en = .returned (.tuple #[]) ∧ ∃ v', OutC w' O v' (cs ++ ownC N m.pure) ∧ Grow w w' O v v' := by
 obtain ⟨z39, hzl, hzr⟩ := zeroHd39
 obtain ⟨z17, hsl, hsr⟩ : ∃ z : List Value, z.length = 17 ∧ (∀ w : World, (zeroValue 131).run Tryz.prog w = .ok (.agg z.toArray) w) := ⟨_, rfl, zeroSg17⟩
 have ca := fun w0 vk ds e he h0 hl => cadd_any O vk ds e w0 h0 he hl
 rw [ownC_len] at hn
 have HN := hide hn
 obtain ⟨B1, r1, sA⟩ := boxed_new w m.ms.cells 109
 have MA : m.ms.at (w.alloc (.cells m.ms.cells.toArray 109)) w.heap.size := mo.ms.at r1
 have HC0 : CI (w.alloc (.cells m.ms.cells.toArray 109)) (w.alloc (.cells m.ms.cells.toArray 109)) O v v cs := ⟨h.below B1, Grow.refl _ _ _⟩
 have ma := ma0.below B1
 have hcA : Clr O v w.heap.size := ⟨by have := h.lt; omega, fun e => by have := (h.own.lt _ e).2; omega⟩
 have iC : (Tryz.prog.info? 107).map (·.size) = some (certL m.ct m.cs).length := by unfold certL; rw [List.length_append, mo.ct.len]; kernel_rfl
 have HB1 := hide (Grow.of B1 O v)
 have rB : (w.alloc (.cells m.ms.cells.toArray 109)).rangeAt w.heap.size 5 [.bool m.q, m.rs.val] := pair_at MA.q MA.rs
 have rC0 : (w.alloc (.cells m.ms.cells.toArray 109)).rangeAt w.heap.size 80 (certL m.ct m.cs) := MA.ct
 have pH0 : (w.alloc (.cells m.ms.cells.toArray 109)).cell? ⟨w.heap.size, 46, none⟩ = some m.he.val := MA.he
 have pS0 : (w.alloc (.cells m.ms.cells.toArray 109)).cell? ⟨w.heap.size, 118, none⟩ = some m.sg.val := MA.sg
 clear MA r1 ma0 h hn B1
 obtain ⟨q, hq⟩ : ∃ q, m.ms.cells = q := ⟨_, rfl⟩
 rw [hq] at sA HC0 ma HB1 rB rC0 pH0 pS0
 rw [hq]
 clear hq
 go_enter Tryz.func38, Tryz.ntmps38
 go_upto_region 1 with fail
 obtain ⟨W, hW⟩ : ∃ W, w.alloc (.cells q.toArray 109) = W := ⟨_, rfl⟩
 rw [hW] at sA HC0 ma HB1 rB rC0 pH0 pS0 ⊢
 clear hW
 obtain ⟨A, hA⟩ : ∃ A, w.heap.size = A := ⟨_, rfl⟩
 rw [hA] at sA hcA rB rC0 pH0 pS0
 simp only [hA]
 clear hA
 try simp only [Act.put]
 refine pl_begin ?_
 refine pl_t 10 (?_) (by rfl) ?_ rfl ?_
 rotate_left
 ·go_simp
  try with_reducible rfl
 simp only [nz]
 refine pl_t 11 (?_) (by rfl) ?_ rfl ?_
 rotate_left
 ·go_simp
  try with_reducible rfl
 simp only [nz]
 refine pl_t 12 (.agg #[.bool m.q, m.rs.val]) (by rfl) (ex_mid (cs := [.bool m.q, m.rs.val]) rfl rfl rB Tryz.underlying97 rfl (iszBaV _ _)) rfl ?_
 simp only [nz]
 refine pl_t 13 (?_) (by rfl) ?_ rfl ?_
 rotate_left
 ·go_simp
  try with_reducible rfl
 simp only [nz]
 refine pl_call (d := some 14) (by rfl) (by go_simp; first | done | exact ⟨rfl, rfl⟩ | with_reducible rfl) rfl ?_
 refine (bclaims_any N m.q m.rs O v cs W HC0.out ma.rs mb.1 (by have := HN.out; omega) hsm.rs).mono ?_
 rintro _ w1 ⟨rfl, v1, o1, g1⟩
 refine ⟨_, rfl, ?_⟩
 simp only [nz]
 refine pl_nil ?_
 have HC1 := HC0.add o1 g1
 have rC := HC1.grow.range sA hcA rC0
 clear rB o1 g1 HC0
 go_upto_region 2 with fail
 try simp only [Act.put]
 refine pl_begin ?_
 refine pl_t 15 (?_) (by rfl) ?_ rfl ?_
 rotate_left
 ·go_simp
  try with_reducible rfl
 simp only [nz]
 refine pl_t 16 (.agg (certL m.ct m.cs).toArray) (by rfl) (ex_mid rfl rfl rC Tryz.underlying107 rfl iC) rfl ?_
 simp only [nz]
 refine pl_t 17 (?_) (by rfl) ?_ rfl ?_
 rotate_left
 ·go_simp
  try with_reducible rfl
 simp only [nz]
 refine pl_call (d := some 18) (by rfl) (by go_simp; first | done | exact ⟨rfl, rfl⟩ | with_reducible rfl) rfl ?_
 refine (cclaims_any m.ct m.cs O v1 _ w1 HC1.out mo.ct (ma.cs.grow HC1.grow mb.2.2.2.2.1) (mb.2.2.2.2.1.grow ma.cs HC1.grow) (by have := HN.out; rw [List.length_append, batC_len]; omega)).mono ?_
 rintro _ w2 ⟨rfl, v2, o2, g2⟩
 refine ⟨_, rfl, ?_⟩
 simp only [nz]
 refine pl_nil ?_
 have HC2 := HC1.add o2 g2
 have pH := (cell_block (j := 46) (HC2.grow.keep sA hcA).1).1.trans pH0
 obtain ⟨C2, hC2⟩ : ∃ C, Hid (cs ++ batC N m.rs.xs ++ cerC m.ct m.cs.xs = C) := ⟨_, hide rfl⟩
 rw [hC2.out] at HC2
 have hC2l : C2.length = cs.length + m.rs.xs.length + m.cs.xs.length := by rw [← hC2.out]; simp only [List.length_append, batC_len, cerC_len]
 clear rC rC0 pH0 o2 g2 HC1 iC
 obtain ⟨⟨ha, hc, hs⟩, hhe⟩ : ∃ x, m.he = x := ⟨_, rfl⟩
 obtain ⟨hl, hhl⟩ : ∃ n, hs.length = n := ⟨_, rfl⟩
 have hval : (m.he).val = .slice ha hl hc := by rw [hhe]; unfold Sl.val; rw [← hhl]
 rw [hval] at pH
 clear hval
 have HH := hide hhe
 have HL2 : Hid (hs.length = hl) := hide hhl
 have HA := hide ma
 have HB := hide mb
 clear hhe hhl ma
 go_upto_region 3 with fail
 try simp only [Act.put]
 refine pl_begin ?_
 refine pl_t 19 (?_) (by rfl) ?_ rfl ?_
 rotate_left
 ·go_simp
  try with_reducible rfl
 simp only [nz]
 refine pl_t 20 (?_) (by rfl) ?_ rfl ?_
 rotate_left
 ·go_simp
  try with_reducible rfl
 simp only [nz]
 refine pl_t 21 (.slice ha hl hc) (by rfl) (pl_one rfl rfl pH Tryz.underlying102 rfl) rfl ?_
 simp only [nz]
 refine pl_t 22 (?_) (by rfl) ?_ rfl ?_
 rotate_left
 ·go_simp
  try with_reducible rfl
 simp only [nz]
 refine pl_t 23 (?_) (by rfl) ?_ rfl ?_
 rotate_left
 ·go_simp
  try with_reducible rfl
 simp only [nz]
 refine pl_nil ?_
 have HC3 : Hid (CI W w2 O v v2 (C2 ++ heC N ((hs.map Hd.pure).take 0))) := hide (by simpa [heC] using HC2)
 clear HC2 pH
 unfold addV
 go_wp2_with fail
 go_loopw [23] (fun iv wr => ∃ (k : Nat) (vk : Value), k ≤ hl ∧ iv = .int .i64 (k : Int) ∧ Hid (CI W wr O v vk (C2 ++ heC N ((hs.map Hd.pure).take k)))) (fun iv _ => hl - (intOf iv).toNat)
 case atStart => exact ⟨0, v2, by omega, rfl, HC3⟩
 case round =>
  clear HC3
  obtain ⟨k, vk, hk, rfl, HK⟩ := hrel
  by_cases hlt : k < hl
  ·have k1 : (k : Int) < hl := by omega
   have hl9 : hl ≤ 9223372036854775807 := by
    have h1 := HA.out.he.1.1
    rw [HH.out] at h1
    have h2 : hs.length ≤ maxLen := h1
    rw [HL2.out] at h2
    unfold maxLen at h2
    omega
   have hkx : k < hs.length := by rw [HL2.out]; exact hlt
   have hat : HdsAt wr ⟨ha, hc, hs⟩ := by
    have := HA.out.he.grow HK.out.grow HB.out.2.1 HB.out.2.2.1
    rw [HH.out] at this
    exact this
   obtain ⟨b, off, hab, hbw, hre⟩ := hat.1.elem k hkx
   have hab : ha = some ⟨b, off, none⟩ := hab
   have hre : wr.rangeAt b (off + k * 39) (HdE.f hs[k]) := hre
   have hmem : hs[k] ∈ m.he.xs := by rw [HH.out]; exact List.getElem_mem hkx
   have gat := hat.2 _ (List.getElem_mem hkx)
   have gbk0 := HB.out.2.2.1 _ hmem
   have gat0 := HA.out.he.2 _ hmem
   have gbk : (hs[k]).Bk (Clr O vk) := ⟨gbk0.1.grow gat0.1 HK.out.grow, gbk0.2.grow gat0.2 HK.out.grow⟩
   have gsm := hsm.he _ hmem
   have okx : Vt.ok (hs[k]).vt := hat.1.2.1 _ (List.getElem_mem hkx)
   have HT : Hid (heC N ((hs.map Hd.pure).take (k + 1)) = heC N ((hs.map Hd.pure).take k) ++ (batC N (hs[k]).rs.xs ++ cerC (hs[k]).vt (hs[k]).sg.xs)) := hide (by
    rw [heC_succ (by simpa using hkx)]
    simp [hdC, Hd.pure])
   have HL : Hid ((C2 ++ heC N ((hs.map Hd.pure).take k)).length + (hs[k]).rs.xs.length + (hs[k]).sg.xs.length ≤ 1000000000) := hide (by
    have h1 := heC_le N (hs.map Hd.pure) (k + 1)
    rw [HT.out] at h1
    simp only [List.length_append, batC_len, cerC_len] at h1 ⊢
    have h2 := HN.out
    rw [HH.out] at h2
    simp only at h2
    omega)
   clear hat gbk0 gat0
   obtain ⟨g, hg⟩ : ∃ g, hs[k] = g := ⟨_, rfl⟩
   rw [hg] at hre gat gbk gsm okx HT HL
   clear hg hmem
   have gvt := okx
   have hul : (HdE.f g).length = 39 := HdE.len g okx
   have iu : (Tryz.prog.info? 129).map (·.size) = some (HdE.f g).length := by rw [hul]; kernel_rfl
   have hu1 := HdE.one g
   have hgf : HdE.f g = .bool g.q :: g.rs.val :: certL g.vt g.sg := rfl
   have iG : (Tryz.prog.info? 107).map (·.size) = some (certL g.vt g.sg).length := by unfold certL; rw [List.length_append, okx.len]; kernel_rfl
   obtain ⟨u, hu⟩ : ∃ u, Hid (HdE.f g = u) := ⟨_, hide rfl⟩
   rw [hu.out] at hre hul iu hu1 hgf
   clear hu okx
   rw [hab]
   go_upto_region 5 with fail
   obtain ⟨r5, hF, hF3, -⟩ := fresh_store wr z39.toArray 129 u (by simp [hzl, hul])
   try simp only [Act.put]
   refine pl_begin ?_
   refine pl_t 25 (?_) (by rfl) ?_ rfl ?_
   rotate_left
   ·go_simp
    try with_reducible rfl
   simp only [nz]
   refine pl_t 26 (.agg u.toArray) (by rfl) (ex_mid rfl rfl hre Tryz.underlying129 rfl iu) rfl ?_
   simp only [nz]
   refine pl_run (d := some 7) (v := .pointer (some ⟨wr.heap.size, 0, none⟩)) (w' := wr.alloc (.cells z39.toArray 129)) (by rfl) (ex_alloc rfl (hzr _)) rfl ?_
   simp only [nz]
   refine pl_store (w' := (wr.alloc (.cells z39.toArray 129)).setCells wr.heap.size 0 u) (by rfl) (ex_put (cs := u.toArray) rfl rfl rfl (there_newN _ _ _ (by simp [hzl, hul])) (by simpa using iu) (all_one hu1)) rfl ?_
   refine pl_nil ?_
   have HC := HK.out.later hF
   have HX := clr_new HK.out (Nat.le_refl _)
   have gat := gat.below hF
   clear HK
   obtain ⟨X, hX⟩ : ∃ X, wr.heap.size = X := ⟨_, rfl⟩
   simp only [hX] at r5 HC HX hF3 gat ⊢
   obtain ⟨w5, hw5⟩ : ∃ W, (wr.alloc (.cells z39.toArray 129)).setCells X 0 u = W := ⟨_, rfl⟩
   rw [hw5] at r5 HC hF3 gat ⊢
   have sX : X < w5.heap.size := by omega
   clear hw5 hX hF hF3 hre hab
   have rB : w5.rangeAt X 0 [.bool g.q, g.rs.val] := pair_at (by simpa using r5 0 _ (by rw [hgf]; rfl)) (by simpa using r5 1 _ (by rw [hgf]; rfl))
   have rC0 : w5.rangeAt X 2 (certL g.vt g.sg) := fun j y hy => by
    have := r5 (j + 2) y (by rw [hgf]; exact hy)
    rw [show 0 + (j + 2) = 2 + j by omega] at this
    exact this
   clear r5
   go_upto_region 6 with fail
   try simp only [Act.put]
   refine pl_begin ?_
   refine pl_t 27 (?_) (by rfl) ?_ rfl ?_
   rotate_left
   ·go_simp
    try with_reducible rfl
   simp only [nz]
   refine pl_t 28 (?_) (by rfl) ?_ rfl ?_
   rotate_left
   ·go_simp
    try with_reducible rfl
   simp only [nz]
   refine pl_t 29 (.agg #[.bool g.q, g.rs.val]) (by rfl) (ex_mid (cs := [.bool g.q, g.rs.val]) rfl rfl rB Tryz.underlying97 rfl (iszBaV _ _)) rfl ?_
   simp only [nz]
   refine pl_t 30 (?_) (by rfl) ?_ rfl ?_
   rotate_left
   ·go_simp
    try with_reducible rfl
   simp only [nz]
   refine pl_call (d := some 31) (by rfl) (by go_simp; first | done | exact ⟨rfl, rfl⟩ | with_reducible rfl) rfl ?_
   refine (bclaims_any N g.q g.rs O vk _ w5 HC.out gat.1 gbk.1 (by have := HL.out; omega) gsm).mono ?_
   rintro _ w6 ⟨rfl, v6, o6, g6⟩
   refine ⟨_, rfl, ?_⟩
   simp only [nz]
   refine pl_nil ?_
   have rC := g6.range sX HX rC0
   clear rB rC0
   go_upto_region 7 with fail
   try simp only [Act.put]
   refine pl_begin ?_
   refine pl_t 32 (?_) (by rfl) ?_ rfl ?_
   rotate_left
   ·go_simp
    try with_reducible rfl
   simp only [nz]
   refine pl_t 33 (.agg (certL g.vt g.sg).toArray) (by rfl) (ex_mid rfl rfl rC Tryz.underlying107 rfl iG) rfl ?_
   simp only [nz]
   refine pl_t 34 (?_) (by rfl) ?_ rfl ?_
   rotate_left
   ·go_simp
    try with_reducible rfl
   simp only [nz]
   refine pl_call (d := some 35) (by rfl) (by go_simp; first | done | exact ⟨rfl, rfl⟩ | with_reducible rfl) rfl ?_
   refine (cclaims_any g.vt g.sg O v6 _ w6 o6 gvt (gat.2.grow g6 gbk.2) (gbk.2.grow gat.2 g6) (by have := HL.out; rw [List.length_append, batC_len]; omega)).mono ?_
   rintro _ w7 ⟨rfl, v7, o7, g7⟩
   refine ⟨_, rfl, ?_⟩
   simp only [nz]
   refine pl_nil ?_
   have HD : Hid (CI W w7 O v v7 (C2 ++ heC N ((hs.map Hd.pure).take (k + 1)))) := hide (by
    rw [HT.out, ← List.append_assoc, ← List.append_assoc]
    exact (HC.add o6 g6).add o7 g7)
   clear HC o6 g6 o7 g7 rC HT HL iu iG hul hu1 hgf gat gbk gsm gvt hsl hsr hzl hzr pS0
   go_wp2_with fail
   go_roundw
   case rel => exact ⟨k + 1, v7, by omega, by go_num, HD⟩
   case measure => simp [intOf]; omega
  ·obtain rfl : k = hl := by omega
   have HC4 : CI W wr O v vk (C2 ++ heC N (hs.map Hd.pure)) := by
    have h1 := HK.out
    rw [List.take_of_length_le (by rw [List.length_map, HL2.out]; exact Nat.le_refl _)] at h1
    exact h1
   obtain ⟨C3, hC3⟩ : ∃ C, Hid (C2 ++ heC N (hs.map Hd.pure) = C) := ⟨_, hide rfl⟩
   rw [hC3.out] at HC4
   have pS := (cell_block (j := 118) (HC4.grow.keep sA hcA).1).1.trans pS0
   obtain ⟨⟨xa, xc, xs⟩, hsg⟩ : ∃ x, m.sg = x := ⟨_, rfl⟩
   obtain ⟨n, hxn⟩ : ∃ n, xs.length = n := ⟨_, rfl⟩
   have hval : (m.sg).val = .slice xa n xc := by rw [hsg]; unfold Sl.val; rw [← hxn]
   rw [hval] at pS
   have HNN : Hid (C3.length + xs.length ≤ 1000000000) := hide (by
    have h2 := HN.out
    rw [HH.out, hsg] at h2
    simp only at h2
    rw [← hC3.out]
    simp only [List.length_append]
    omega)
   have HXX : Hid (Sl.At SgE W ⟨xa, xc, xs⟩) := hide (by have := HA.out.sg; rw [hsg] at this; exact this)
   have HCC : Hid (Sl.Bk (Sl.mk xa xc xs) (Clr O v)) := hide (by have := HB.out.2.2.2.2.2; rw [hsg] at this; exact this)
   have HSG := hide hsg
   have HX3 := hide hxn
   have HN2 := HN
   clear HN hval hsg hxn HK hlt hk
   have HN := HX3
   go_upto_region 9 with fail
   try simp only [Act.put]
   refine pl_begin ?_
   refine pl_t 37 (?_) (by rfl) ?_ rfl ?_
   rotate_left
   ·go_simp
    try with_reducible rfl
   simp only [nz]
   refine pl_t 38 (.slice xa n xc) (by rfl) (pl_one rfl rfl pS Tryz.underlying105 rfl) rfl ?_
   simp only [nz]
   refine pl_t 39 (?_) (by rfl) ?_ rfl ?_
   rotate_left
   ·go_simp
    try with_reducible rfl
   simp only [nz]
   refine pl_t 40 (?_) (by rfl) ?_ rfl ?_
   rotate_left
   ·go_simp
    try with_reducible rfl
   simp only [nz]
   refine pl_nil ?_
   have HC5 : Hid (CI W wr O v vk (C3 ++ (sgC xs).take 0)) := hide (by rw [List.take_zero, List.append_nil]; exact HC4)
   clear pS HC4 pS0
   go_wp2_with fail
   go_loopw [40] (fun iv wr => ∃ (k : Nat) (vk : Value), k ≤ n ∧ iv = .int .i64 (k : Int) ∧ Hid (CI W wr O v vk (C3 ++ (sgC xs).take k))) (fun iv _ => n - (intOf iv).toNat)
   case atStart => exact ⟨0, vk, by omega, rfl, HC5⟩
   case round =>
    clear HC5
    obtain ⟨k, vk, hk, rfl, HK⟩ := hrel
    by_cases hlt : k < n
    ·have k1 : (k : Int) < n := by omega
     have hn9 : n ≤ 1000000000 := by have h1 := HNN.out; have h2 := HN.out; omega
     have hkx : k < xs.length := by rw [HN.out]; exact hlt
     obtain ⟨b, off, hab, hbw, hre⟩ := (HXX.out.grow HK.out.grow HCC.out).elem k hkx
     have hab : xa = some ⟨b, off, none⟩ := hab
     have hre : wr.rangeAt b (off + k * 17) (SgE.f xs[k]) := hre
     have okx : Sg.ok xs[k] := HXX.out.2.1 _ (List.getElem_mem hkx)
     have HT : Hid ((sgC xs).take (k + 1) = (sgC xs).take k ++ [⟨(xs[k]).n, (⟨#[]⟩ : ByteArray), (xs[k]).t⟩]) := hide (take_succ_map hkx)
     have HL : (C3 ++ (sgC xs).take k).length ≤ 1000000000 := by have := HNN.out; simp only [List.length_append, List.length_take]; omega
     obtain ⟨g, hg⟩ : ∃ g, xs[k] = g := ⟨_, rfl⟩
     rw [hg] at hre okx HT
     clear hg
     have hok : Ev.ok ⟨g.n, (⟨#[]⟩ : ByteArray), g.t⟩ := sgC_ok okx
     have ca := fun w0 vk ds h0 hl => ca w0 vk ds _ hok h0 hl
     have hut : SgE.f g = .int .i64 g.n :: v8 g.t := rfl
     have it16 : (Tryz.prog.info? 30).map (·.size) = some (v8 g.t).length := by rw [v8_length, okx.tl]; exact iszT
     have iu : (Tryz.prog.info? 131).map (·.size) = some (SgE.f g).length := by rw [SgE.len g okx]; kernel_rfl
     have hul : (SgE.f g).length = 17 := SgE.len g okx
     have hu1 := SgE.one g
     obtain ⟨id, hid⟩ : ∃ i, g.n = i := ⟨_, rfl⟩
     obtain ⟨tg, htg⟩ : ∃ t, g.t = t := ⟨_, rfl⟩
     rw [hid, htg] at HT
     rw [hid] at hut
     rw [htg] at hut it16
     simp only [hid, htg] at ca
     clear okx hok htg hid
     obtain ⟨u, hu⟩ : ∃ u, Hid (SgE.f g = u) := ⟨_, hide rfl⟩
     rw [hu.out] at hre iu hul hu1 hut
     clear hu
     rw [hab]
     go_upto_region 11 with fail
     obtain ⟨r5, hF, hF3, -⟩ := fresh_store wr z17.toArray 131 u (by simp [hsl, hul])
     try simp only [Act.put]
     refine pl_begin ?_
     refine pl_t 42 (?_) (by rfl) ?_ rfl ?_
     rotate_left
     ·go_simp
      try with_reducible rfl
     simp only [nz]
     refine pl_t 43 (.agg u.toArray) (by rfl) (ex_mid rfl rfl hre Tryz.underlying131 rfl iu) rfl ?_
     simp only [nz]
     refine pl_run (d := some 9) (v := .pointer (some ⟨wr.heap.size, 0, none⟩)) (w' := wr.alloc (.cells z17.toArray 131)) (by rfl) (ex_alloc rfl (hsr _)) rfl ?_
     simp only [nz]
     refine pl_store (w' := (wr.alloc (.cells z17.toArray 131)).setCells wr.heap.size 0 u) (by rfl) (ex_put (cs := u.toArray) rfl rfl rfl (there_newN _ _ _ (by simp [hsl, hul])) (by simpa using iu) (all_one hu1)) rfl ?_
     refine pl_nil ?_
     have HC := HK.out.later hF
     clear HK
     obtain ⟨X, hX⟩ : ∃ X, wr.heap.size = X := ⟨_, rfl⟩
     simp only [hX] at r5 HC hF3 ⊢
     obtain ⟨w5, hw5⟩ : ∃ W, (wr.alloc (.cells z17.toArray 131)).setCells X 0 u = W := ⟨_, rfl⟩
     rw [hw5] at r5 HC hF3 ⊢
     have sX : X < w5.heap.size := by omega
     clear hw5 hX hF hF3 hre hab
     have c0 : w5.cell? ⟨X, 0, none⟩ = some (.int .i64 id) := by simpa using r5 0 _ (by rw [hut]; rfl)
     have ct : w5.rangeAt X 1 (v8 tg) := fun j y hy => by
      have := r5 (j + 1) y (by rw [hut]; exact hy)
      rw [show 0 + (j + 1) = 1 + j by omega] at this
      exact this
     clear r5
     go_upto_region 12 with fail
     try simp only [Act.put]
     refine pl_begin ?_
     refine pl_t 44 (?_) (by rfl) ?_ rfl ?_
     rotate_left
     ·go_simp
      try with_reducible rfl
     simp only [nz]
     refine pl_t 45 (?_) (by rfl) ?_ rfl ?_
     rotate_left
     ·go_simp
      try with_reducible rfl
     simp only [nz]
     refine pl_t 46 (.int .i64 id) (by rfl) (pl_one rfl rfl c0 Tryz.underlying3 rfl) rfl ?_
     simp only [nz]
     refine pl_t 47 (?_) (by rfl) ?_ rfl ?_
     rotate_left
     ·go_simp
      try with_reducible rfl
     simp only [nz]
     refine pl_t 48 (.agg (v8 tg).toArray) (by rfl) (ex_mid rfl rfl ct Tryz.underlying30 rfl it16) rfl ?_
     simp only [nz]
     refine pl_call (d := some 49) (by rfl) (by go_simp; first | done | exact ⟨rfl, rfl⟩ | with_reducible rfl) rfl ?_
     refine (ca w5 vk (C3 ++ (sgC xs).take k) HC.out HL).mono ?_
     rintro _ wc ⟨rfl, v', ho', hg'⟩
     refine ⟨_, rfl, ?_⟩
     simp only [nz]
     refine pl_nil ?_
     have HD : Hid (CI W wc O v v' (C3 ++ (sgC xs).take (k + 1))) := hide (by
      rw [HT.out, ← List.append_assoc]
      exact HC.add ho' hg')
     clear HC ho' hg' c0 ct ca HT iu it16 hul hu1 hut hsr hsl
     go_wp2_with fail
     go_roundw
     case rel => exact ⟨k + 1, v', by omega, by go_num, HD⟩
     case measure => simp [intOf]; omega
    ·obtain rfl : k = n := by omega
     have HE : Hid (OutC wr O vk (cs ++ ownC N m.pure) ∧ Grow w wr O v vk) := hide (by
      have h1 := HK.out.out
      rw [List.take_of_length_le (by rw [sgC_len, HN.out]; exact Nat.le_refl _), ← hC3.out, ← hC2.out] at h1
      have e : cs ++ ownC N m.pure = cs ++ batC N m.rs.xs ++ cerC m.ct m.cs.xs ++ heC N (hs.map Hd.pure) ++ sgC xs := by
       unfold ownC Mg.pure
       rw [HH.out, HSG.out]
       simp only [List.append_assoc]
      rw [e]
      exact ⟨h1, HB1.out.trans HK.out.grow⟩)
     clear HK ca hlt
     go_wp2_with fail
     go_end0
     exact ⟨rfl, vk, HE.out⟩
structure OutX (w : World) (B : Nat) (v : Value) (cs : List Ev) : Prop where
 own : w.ownsRow B 39 18 v cs.length (cs.flatMap Ev.cells)
 ok : ∀ c ∈ cs, c.ok
 le : B ≤ w.heap.size
theorem OutX.below {w w' : World} {B : Nat} {v : Value} {cs : List Ev} (h : OutX w B v cs) (hb : Below w.heap.size w w') : OutX w' B v cs :=
 ⟨own_blk h.own (fun g hg => hb.block g (h.own.lt g hg).2), h.ok, Nat.le_trans h.le hb.size⟩
structure Kp (w : World) (v : Value) (W : World) : Prop where
 size : w.heap.size ≤ W.heap.size
 block : ∀ i, i < w.heap.size → v.ownBlock ≠ some i → W.heap[i]? = w.heap[i]?
theorem Kp.refl (w : World) (v : Value) : Kp w v w := ⟨Nat.le_refl _, fun _ _ _ => rfl⟩
theorem Kp.below {w W W' : World} {v : Value} (h : Kp w v W) (hb : Below W.heap.size W W') : Kp w v W' := ⟨Nat.le_trans h.size hb.size, fun i hi hv => (hb.block i (Nat.lt_of_lt_of_le hi h.size)).trans (h.block i hi hv)⟩
theorem Kp.cell {w W : World} {v : Value} {b j : Nat} (h : Kp w v W) (hb : b < w.heap.size) (hc : v.ownBlock ≠ some b) : W.cell? ⟨b, j, none⟩ = w.cell? ⟨b, j, none⟩ := (cell_block (h.block b hb hc)).1
structure GrX (w w' : World) (v v' : Value) : Prop where
 os : w'.os = w.os
 tape : w'.tape = w.tape
 output : w'.output = w.output
 kp : Kp w v w'
 own : ∀ g, v'.ownBlock = some g → v.ownBlock = some g ∨ w.heap.size ≤ g
theorem GrX.refl (w : World) (v : Value) : GrX w w v v := ⟨rfl, rfl, rfl, Kp.refl _ _, fun _ h => .inl h⟩
theorem GrX.trans {a b c : World} {v v' v'' : Value} (h : GrX a b v v') (k : GrX b c v' v'') : GrX a c v v'' where
 os := k.os.trans h.os
 tape := k.tape.trans h.tape
 output := k.output.trans h.output
 kp := ⟨Nat.le_trans h.kp.size k.kp.size, fun i hi h2 => (k.kp.block i (Nat.lt_of_lt_of_le hi h.kp.size) (fun e => by
  rcases h.own i e with e | e
  ·exact h2 e
  ·omega)).trans (h.kp.block i hi h2)⟩
 own := fun g hg => by
  rcases k.own g hg with e | e
  ·exact h.own g e
  ·exact .inr (Nat.le_trans h.kp.size e)
theorem GrX.ne {w w' : World} {v v' : Value} (h : GrX w w' v v') {b : Nat} (hb : b < w.heap.size) (hc : v.ownBlock ≠ some b) : v'.ownBlock ≠ some b := fun e => by
 rcases h.own b e with e | e
 ·exact hc e
 ·omega
theorem Kp.gr {w a b : World} {v v' : Value} (h : Kp w v a) (k : GrX a b v v') : Kp w v b := ⟨Nat.le_trans h.size k.kp.size, fun i hi h2 => (k.kp.block i (Nat.lt_of_lt_of_le hi h.size) h2).trans (h.block i hi h2)⟩
structure CX (B : Nat) (w wr : World) (v vk : Value) (cs : List Ev) : Prop where
 out : OutX wr B vk cs
 grow : GrX w wr v vk
theorem CX.add {B : Nat} {w wr w' : World} {v vk v' : Value} {cs ds : List Ev} (h : CX B w wr v vk cs) (ho : OutX w' B v' ds) (hg : GrX wr w' vk v') : CX B w w' v v' ds := ⟨ho, h.grow.trans hg⟩
def ownX (N : Int) (m : Mp) : List Ev := batC N m.rs ++ heC N m.he ++ (if m.k = 7 then cerC m.ct m.cs else []) ++ sgC m.sg
def xheS (s : Xst) : Hp × Xst := (⟨(xbaS s).1.1, (xbaS s).1.2, (xceS (xbaS s).2).1.1, (xceS (xbaS s).2).1.2⟩, (xceS (xbaS s).2).2)
structure XV (w : World) (X A B n : Nat) (q : List Value) (W : World) : Prop where
 row : W.rangeAt B 0 q
 box : W.there B 0 n
 ans : W.there A 0 n
 gr : w.grownBy W (some X)
 lb : B < W.heap.size
 na : w.heap.size ≤ A
 ab : A < B
 lx : X < w.heap.size
theorem XV.on {w W W' : World} {X A B n : Nat} {q : List Value} (h : XV w X A B n q W) (g : W.grownBy W' (some X)) : XV w X A B n q W' := by
 have h1 := h.na
 have h2 := h.ab
 have h3 := h.lx
 have h4 := h.lb
 exact ⟨range_gbR h.row g h.lb (by omega), there_gbR h.box g h.lb (by omega), there_gbR h.ans g (by omega) (by omega), gb_trans h.gr g, Nat.lt_of_lt_of_le h.lb g.size, h1, h2, h3⟩
theorem XV.low {w W W' : World} {X A B n m : Nat} {q : List Value} (h : XV w X A B n q W) (hb : Below m W W') (hm : B < m) : XV w X A B n q W' := by
 have h1 := h.na
 have h2 := h.ab
 exact ⟨range_blk h.row (hb.block B hm), there_blk h.box (hb.block B hm), there_blk h.ans (hb.block A (by omega)), gb_onR h.gr hb (by omega), Nat.lt_of_lt_of_le h.lb hb.size, h1, h2, h.lx⟩
structure XH (w : World) (D X A B : Nat) (a b c : Int) (t : Xst) (k : Nat) (W : World) : Prop where
 ex : ∃ (v : Value) (ys : List Hd), XV w X A B 4 [.int .i64 a, .int .i64 b, .int .i64 c, v] W ∧ ys.map Hd.pure = (xitG xheS t k).1 ∧ W.ownsRow (B + 1) 129 39 v ys.length (ys.flatMap Hd.cells) ∧ ∀ y ∈ ys, y.vt.ok ∧ y.At W ∧ y.Bk (fun b => B < b ∧ b < W.heap.size ∧ v.ownBlock ≠ some b)
 rs : XR W D X (xitG xheS t k).2
structure XW (w : World) (D X A B n : Nat) (q : List Value) (s : Xst) (W : World) : Prop where
 row : W.rangeAt B 0 q
 box : W.there B 0 n
 ans : W.there A 0 n
 gr : w.grownBy W (some X)
 rs : XR W D X s
 la : A < W.heap.size
 lb : B < W.heap.size
 na : w.heap.size ≤ A
 nb : w.heap.size ≤ B
 ne : A ≠ B
 lx : X < w.heap.size
theorem XW.on {w W W' : World} {D X A B n : Nat} {q : List Value} {s s' : Xst} (h : XW w D X A B n q s W) (g : W.grownBy W' (some X)) (S : XR W' D X s') : XW w D X A B n q s' W' := by
 have h1 := h.na
 have h2 := h.nb
 have h3 := h.lx
 exact ⟨range_gbR h.row g h.lb (by omega), there_gbR h.box g h.lb (by omega), there_gbR h.ans g h.la (by omega), gb_trans h.gr g, S, Nat.lt_of_lt_of_le h.la g.size, Nat.lt_of_lt_of_le h.lb g.size, h1, h2, h.ne, h3⟩
def cod (s : Rst) : Int := if s.2.2 = true then 130 else s.2.1
def Sim (s : Rst) (t : Xst) : Prop := (s = (t.1, 0, false) ∧ t.2 = 0) ∨ (cod s ≠ 0 ∧ t.2 = cod s)
structure Pair {α : Type} (f : Rst → α × Rst) (xf : Xst → α × Xst) : Prop where
 bad : ∀ s, cod s ≠ 0 → cod (f s).2 = cod s
 xbad : ∀ t, t.2 ≠ 0 → (xf t).2.2 = t.2
 ok : ∀ r, Sim (f (r, 0, false)).2 (xf (r, 0)).2 ∧ (cod (f (r, 0, false)).2 = 0 → (f (r, 0, false)).1 = (xf (r, 0)).1)
theorem Pair.map {α β : Type} {f : Rst → α × Rst} {xf : Xst → α × Xst} (h : α → β) (p : Pair f xf) : Pair (fun s => (h (f s).1, (f s).2)) (fun t => (h (xf t).1, (xf t).2)) :=
 ⟨p.bad, p.xbad, fun r => ⟨(p.ok r).1, fun hc => by show h _ = h _; rw [(p.ok r).2 hc]⟩⟩
theorem itG_bad {α : Type} {one : Rst → α × Rst} (h : ∀ s, cod s ≠ 0 → cod (one s).2 = cod s) {s : Rst} (hs : cod s ≠ 0) : ∀ k, cod (itG one s k).2 = cod s := by
  intro k
  induction k with
  | zero => rfl
  | succ k ih => show cod (one (itG one s k).2).2 = _; rw [h _ (by rw [ih]; exact hs), ih]
theorem numS_bad (most : Int) (r : List Int) (e : Int) (h : e ≠ 0) : (numS r e most).2.2 = e := by
 unfold numS
 rw [if_neg h]
theorem textS_bad (most : Int) (r : List Int) (e : Int) (h : e ≠ 0) : (textS r e most).2.2 = e := by
 have := numS_bad 9223372036854775807 r e h
 unfold textS
 rw [if_neg (by rw [this]; exact h)]
 exact this
theorem rawS_bad (n : Int) (r : List Int) (e : Int) (h : e ≠ 0) : (rawS r e n).2.2 = e := by
 unfold rawS
 rw [if_neg h]
def vt4 (v : Int) (r : List Int) (e : Int) : Vt × List Int × Int :=
 (⟨v, (numS r e 1048576).1, (numS (numS r e 1048576).2.1 (numS r e 1048576).2.2 1099511627776).1, (numS (numS (numS r e 1048576).2.1 (numS r e 1048576).2.2 1099511627776).2.1 (numS (numS r e 1048576).2.1 (numS r e 1048576).2.2 1099511627776).2.2 1099511627776).1, padN 32 (rawS (numS (numS (numS r e 1048576).2.1 (numS r e 1048576).2.2 1099511627776).2.1 (numS (numS r e 1048576).2.1 (numS r e 1048576).2.2 1099511627776).2.2 1099511627776).2.1 (numS (numS (numS r e 1048576).2.1 (numS r e 1048576).2.2 1099511627776).2.1 (numS (numS r e 1048576).2.1 (numS r e 1048576).2.2 1099511627776).2.2 1099511627776).2.2 32).1⟩, (rawS (numS (numS (numS r e 1048576).2.1 (numS r e 1048576).2.2 1099511627776).2.1 (numS (numS r e 1048576).2.1 (numS r e 1048576).2.2 1099511627776).2.2 1099511627776).2.1 (numS (numS (numS r e 1048576).2.1 (numS r e 1048576).2.2 1099511627776).2.1 (numS (numS r e 1048576).2.1 (numS r e 1048576).2.2 1099511627776).2.2 1099511627776).2.2 32).2)
structure Codec {α : Type} (f : Rst → α × Rst) (enc : α → List Int) (ok : α → Prop) : Prop where
 bad : ∀ s, cod s ≠ 0 → cod (f s).2 = cod s
 back : ∀ a q, ok a → f (enc a ++ q, 0, false) = (a, q, 0, false)
 form : ∀ r, Bs r → cod (f (r, 0, false)).2 = 0 → ∃ a q, ok a ∧ f (r, 0, false) = (a, q, 0, false) ∧ r = enc a ++ q
theorem Bs.right {a q : List Int} (h : Bs (a ++ q)) : Bs q := fun z hz => h z (List.mem_append_right _ hz)
theorem Bs.left {a q : List Int} (h : Bs (a ++ q)) : Bs a := fun z hz => h z (List.mem_append_left _ hz)
theorem cod0 {r : List Int} {e : Int} {z : Bool} (h : cod (r, e, z) = 0) : z = false ∧ e = 0 := by
 unfold cod at h
 cases z
 ·exact ⟨rfl, h⟩
 ·exact absurd h (show (130 : Int) ≠ 0 by decide)
theorem Codec.simple {α : Type} {g : List Int → Int → α × List Int × Int} {enc : α → List Int} {ok : α → Prop} (h1 : ∀ r e, e ≠ 0 → (g r e).2.2 = e) (h2 : ∀ a q, ok a → g (enc a ++ q) 0 = (a, q, 0)) (h3 : ∀ r, Bs r → (g r 0).2.2 = 0 → ∃ a q, ok a ∧ g r 0 = (a, q, 0) ∧ r = enc a ++ q) :
  Codec (fun s => ((g s.1 s.2.1).1, (g s.1 s.2.1).2.1, (g s.1 s.2.1).2.2, s.2.2)) enc ok := by
 refine ⟨fun s h => ?_, fun a q ha => ?_, fun r hb hc => ?_⟩
 ·obtain ⟨r, e, z⟩ := s
  cases z
  ·exact h1 r e h
  ·rfl
 ·show ((g (enc a ++ q) 0).1, (g (enc a ++ q) 0).2.1, (g (enc a ++ q) 0).2.2, false) = _
  rw [h2 a q ha]
 ·obtain ⟨a, q, k1, k2, k3⟩ := h3 r hb (cod0 hc).2
  exact ⟨a, q, k1, by show ((g r 0).1, (g r 0).2.1, (g r 0).2.2, false) = _; rw [k2], k3⟩
theorem Codec.bind {α β : Type} {f : Rst → α × Rst} {g : Rst → β × Rst} {e1 : α → List Int} {e2 : β → List Int} {o1 : α → Prop} {o2 : β → Prop} (p : Codec f e1 o1) (q : Codec g e2 o2) : Codec (fun s => (((f s).1, (g (f s).2).1), (g (f s).2).2)) (fun c => e1 c.1 ++ e2 c.2) (fun c => o1 c.1 ∧ o2 c.2) := by
 refine ⟨fun s hs => ?_, fun c t hc => ?_, fun r hb hc => ?_⟩
 ·show cod (g (f s).2).2 = cod s
  rw [q.bad _ (by rw [p.bad s hs]; exact hs), p.bad s hs]
 ·obtain ⟨a, b⟩ := c
  show (((f (e1 a ++ e2 b ++ t, 0, false)).1, (g (f (e1 a ++ e2 b ++ t, 0, false)).2).1), (g (f (e1 a ++ e2 b ++ t, 0, false)).2).2) = _
  rw [List.append_assoc, p.back a _ hc.1]
  show ((a, (g (e2 b ++ t, 0, false)).1), (g (e2 b ++ t, 0, false)).2) = _
  rw [q.back b t hc.2]
 ·have hc1 : cod (f (r, 0, false)).2 = 0 := by
   by_cases c : cod (f (r, 0, false)).2 = 0
   ·exact c
   ·exact absurd ((q.bad _ c).symm.trans hc) c
  obtain ⟨a, r1, k1, k2, k3⟩ := p.form r hb hc1
  have hc2 : cod (g (f (r, 0, false)).2).2 = 0 := hc
  rw [k2] at hc2
  obtain ⟨b, r2, m1, m2, m3⟩ := q.form r1 (by rw [k3] at hb; exact hb.right) hc2
  refine ⟨(a, b), r2, ⟨k1, m1⟩, ?_, by rw [k3, m3, List.append_assoc]⟩
  show (((f (r, 0, false)).1, (g (f (r, 0, false)).2).1), (g (f (r, 0, false)).2).2) = _
  rw [k2]
  show ((a, (g (r1, 0, false)).1), (g (r1, 0, false)).2) = _
  rw [m2]
theorem Codec.map {α β : Type} {f : Rst → α × Rst} {enc : α → List Int} {ok : α → Prop} (h : α → β) (g : β → α) (hg : ∀ a, g (h a) = a) (p : Codec f enc ok) : Codec (fun s => (h (f s).1, (f s).2)) (fun b => enc (g b)) (fun b => ok (g b) ∧ h (g b) = b) := by
 refine ⟨p.bad, fun b q hb => ?_, fun r hb hc => ?_⟩
 ·show (h (f (enc (g b) ++ q, 0, false)).1, (f (enc (g b) ++ q, 0, false)).2) = _
  rw [p.back _ q hb.1]
  show (h (g b), _) = _
  rw [hb.2]
 ·obtain ⟨a, q, k1, k2, k3⟩ := p.form r hb hc
  refine ⟨h a, q, ⟨by rw [hg]; exact k1, by rw [hg]⟩, ?_, by rw [hg]; exact k3⟩
  show (h (f (r, 0, false)).1, (f (r, 0, false)).2) = _
  rw [k2]
theorem it_back {α : Type} {one : Rst → α × Rst} {enc : α → List Int} {ok : α → Prop} (p : Codec one enc ok) (q : List Int) (xs : List α) (h : ∀ x ∈ xs, ok x) : ∀ k, k ≤ xs.length → itG one (xs.flatMap enc ++ q, 0, false) k = (xs.take k, (xs.drop k).flatMap enc ++ q, 0, false) := by
  intro k
  induction k with
  | zero => intro _; simp [itG]
  | succ k ih =>
    intro hk
    have i := ih (by omega)
    have hd : xs.drop k = xs[k] :: xs.drop (k + 1) := List.drop_eq_getElem_cons (by omega)
    show ((itG one (xs.flatMap enc ++ q, 0, false) k).1 ++ [(one (itG one (xs.flatMap enc ++ q, 0, false) k).2).1], (one (itG one (xs.flatMap enc ++ q, 0, false) k).2).2) = _
    rw [i]
    show (xs.take k ++ [(one ((xs.drop k).flatMap enc ++ q, 0, false)).1], (one ((xs.drop k).flatMap enc ++ q, 0, false)).2) = _
    rw [hd, List.flatMap_cons, List.append_assoc, p.back _ _ (h _ (List.getElem_mem (by omega))), List.take_succ_eq_append_getElem (by omega)]
theorem it_form {α : Type} {one : Rst → α × Rst} {enc : α → List Int} {ok : α → Prop} (p : Codec one enc ok) (r : List Int) (hb : Bs r) : ∀ k, cod (itG one (r, 0, false) k).2 = 0 → ∃ xs q, xs.length = k ∧ (∀ x ∈ xs, ok x) ∧ itG one (r, 0, false) k = (xs, q, 0, false) ∧ r = xs.flatMap enc ++ q := by
  intro k
  induction k with
  | zero => intro _; exact ⟨[], r, rfl, (fun x hx => by cases hx), rfl, rfl⟩
  | succ k ih =>
    intro hc
    have hc : cod (one (itG one (r, 0, false) k).2).2 = 0 := hc
    have c0 : cod (itG one (r, 0, false) k).2 = 0 := by
      by_cases c : cod (itG one (r, 0, false) k).2 = 0
      · exact c
      · exact absurd ((p.bad _ c).symm.trans hc) c
    obtain ⟨xs, q, h1, h2, h3, h4⟩ := ih c0
    rw [h3] at hc
    obtain ⟨a, q', k1, k2, k3⟩ := p.form q (by rw [h4] at hb; exact hb.right) hc
    refine ⟨xs ++ [a], q', by simp [h1], fun x hx => ?_, ?_, by rw [h4, k3, List.flatMap_append]; simp⟩
    · rcases List.mem_append.1 hx with g | g
      · exact h2 x g
      · rw [List.mem_singleton.1 g]; exact k1
    · show ((itG one (r, 0, false) k).1 ++ [(one (itG one (r, 0, false) k).2).1], (one (itG one (r, 0, false) k).2).2) = _
      rw [h3]
      show (xs ++ [(one (q, 0, false)).1], (one (q, 0, false)).2) = _
      rw [k2]
theorem num_form {most : Int} {r : List Int} (hb : Bs r) (h : (numS r 0 most).2.2 = 0) : ∃ n q, (0 ≤ n ∧ n ≤ most ∧ n ≤ 9223372036854775807) ∧ numS r 0 most = (n, q, 0) ∧ r = putL n ++ q := by
 unfold numS at h ⊢
 rw [if_pos rfl] at h ⊢
 by_cases h1 : (numR r).2.2 = 0
 ·rw [if_pos h1] at h ⊢
  obtain ⟨k1, k2, k3, k4⟩ := numR_form r hb h1
  by_cases h2 : most < (numR r).1
  ·rw [if_pos h2] at h; exact absurd h (show (3 : Int) ≠ 0 by decide)
  ·rw [if_neg h2]
   refine ⟨(numR r).1, _, ⟨k3, by omega, k4⟩, rfl, ?_⟩
   rw [k1, List.take_append_drop]
 ·rw [if_neg h1] at h
  exact absurd h h1
theorem nu_codec (most : Int) (hm : most ≤ 9223372036854775807) : Codec (nuS most) putL (fun n => 0 ≤ n ∧ n ≤ most) :=
 Codec.simple (g := fun r e => numS r e most) (numS_bad most) (fun a q h => numS_back a most h.1 (by omega) h.2 q) (fun r hb h => by
  obtain ⟨n, q, k1, k2, k3⟩ := num_form hb h
  exact ⟨n, q, ⟨k1.1, k1.2.1⟩, k2, k3⟩)
theorem ki_codec (most : Int) (hm : most ≤ 9223372036854775807) : Codec (kiS most) putL (fun n => 1 ≤ n ∧ n ≤ most) := by
 refine ⟨fun s h => ?_, fun a q ha => ?_, fun r hb hc => ?_⟩
 ·obtain ⟨r, e, z⟩ := s
  cases z
  ·have h : e ≠ 0 := h
   have h1 := numS_bad most r e h
   have k : kdZ r e most false = false := by
    unfold kdZ
    rw [h1]
    have : (e == 0) = false := by simpa using h
    rw [this]
    simp
   show (if kdZ r e most false = true then 130 else (numS r e most).2.2) = e
   rw [k, if_neg (by decide)]
   exact h1
  ·have k : kdZ r e most true = true := by
    unfold kdZ
    simp
   show (if kdZ r e most true = true then 130 else (numS r e most).2.2) = 130
   rw [k, if_pos rfl]
 ·show ((numS (putL a ++ q) 0 most).1, (numS (putL a ++ q) 0 most).2.1, (numS (putL a ++ q) 0 most).2.2, kdZ (putL a ++ q) 0 most false) = _
  unfold kdZ
  rw [numS_back a most (by omega) (by omega) ha.2 q]
  have : (a == 0) = false := by simp; omega
  simp [this]
 ·have hc : cod ((numS r 0 most).2.1, (numS r 0 most).2.2, kdZ r 0 most false) = 0 := hc
  obtain ⟨z0, e0⟩ := cod0 hc
  obtain ⟨n, q, k1, k2, k3⟩ := num_form hb e0
  have hz : kdZ r 0 most false = false := z0
  unfold kdZ at z0
  rw [k2] at z0
  have hn : n ≠ 0 := fun q => by rw [q] at z0; simp at z0
  refine ⟨n, q, ⟨by omega, k1.2.1⟩, ?_, k3⟩
  show ((numS r 0 most).1, (numS r 0 most).2.1, (numS r 0 most).2.2, kdZ r 0 most false) = _
  rw [hz, k2]
theorem raw_back (n : Nat) (d q : List Int) (h : d.length = n) : rawS (d ++ q) 0 n = (d, q, 0) := by
 unfold rawS
 rw [if_pos rfl, if_neg (by omega), if_neg (by rw [List.length_append]; omega)]
 have e : (n : Int).toNat = d.length := by omega
 rw [e, List.take_left, List.drop_left]
theorem raw_form {n : Nat} {r : List Int} (h : (rawS r 0 n).2.2 = 0) : ∃ d q, d.length = n ∧ rawS r 0 n = (d, q, 0) ∧ r = d ++ q := by
 unfold rawS at h ⊢
 rw [if_pos rfl, if_neg (by omega)] at h ⊢
 by_cases h1 : (r.length : Int) < n
 ·rw [if_pos h1] at h; exact absurd h (show (10 : Int) ≠ 0 by decide)
 ·rw [if_neg h1]
  exact ⟨_, _, by rw [List.length_take]; omega, rfl, (List.take_append_drop _ _).symm⟩
theorem pad_codec (n : Nat) (m : Int) (hm : m = (n : Int)) : Codec (fun s => (padN n (rawS s.1 s.2.1 m).1, (rawS s.1 s.2.1 m).2.1, (rawS s.1 s.2.1 m).2.2, s.2.2)) (fun d => d) (fun d => d.length = n ∧ Bs d) := by
 subst hm
 exact Codec.simple (g := fun r e => (padN n (rawS r e n).1, (rawS r e n).2)) (fun r e h => rawS_bad n r e h) (fun a q h => by
  show (padN n (rawS (a ++ q) 0 n).1, (rawS (a ++ q) 0 n).2) = _
  rw [raw_back n a q h.1]
  show (padN n a, _) = _
  unfold padN
  rw [if_pos h.1]) (fun r hb h => by
  obtain ⟨d, q, k1, k2, k3⟩ := raw_form (n := n) h
  refine ⟨d, q, ⟨k1, by rw [k3] at hb; exact hb.left⟩, ?_, k3⟩
  show (padN n (rawS r 0 n).1, (rawS r 0 n).2) = _
  rw [k2]
  show (padN n d, _) = _
  unfold padN
  rw [if_pos k1])
theorem strL_strOf {zs : List Int} (h : ∀ z ∈ zs, 0 ≤ z ∧ z < 256) : strL (strOf zs) = zs := strOf_inj (strL_byte _) h (by rw [strOf_strL])
theorem tx_codec (most : Int) (hm : most ≤ 1099511627) : Codec (txS most) textL (fun s => (s.size : Int) ≤ most) :=
 Codec.simple (g := fun r e => (strOf (textS r e most).1, (textS r e most).2)) (fun r e h => textS_bad most r e h) (fun s q h => by
  show (strOf (textS (textL s ++ q) 0 most).1, (textS (textL s ++ q) 0 most).2) = _
  rw [textS_back s most (by omega) h q]
  show (strOf (strL s), _) = _
  rw [strOf_strL]) (fun r hb h => by
  have h : (textS r 0 most).2.2 = 0 := h
  have hn : (numS r 0 9223372036854775807).2.2 = 0 := by
   by_cases c : (numS r 0 9223372036854775807).2.2 = 0
   ·exact c
   ·unfold textS at h; rw [if_neg c] at h; exact absurd h c
  obtain ⟨n, q, k1, k2, k3⟩ := num_form hb hn
  show ∃ a q, _ ∧ (strOf (textS r 0 most).1, (textS r 0 most).2) = _ ∧ _
  unfold textS at h ⊢
  rw [if_pos hn, k2] at h ⊢
  by_cases c1 : most < n
  ·rw [if_pos c1] at h; exact absurd h (show (3 : Int) ≠ 0 by decide)
  ·rw [if_neg c1] at h ⊢
   by_cases c2 : (q.length : Int) < n
   ·rw [if_pos c2] at h; exact absurd h (show (10 : Int) ≠ 0 by decide)
   ·rw [if_neg c2]
    have hl : (q.take n.toNat).length = n.toNat := by rw [List.length_take]; omega
    have hbt : Bs (q.take n.toNat) := (show Bs q from by rw [k3] at hb; exact hb.right).subT _
    have hsz : (strOf (q.take n.toNat)).size = n.toNat := by rw [strOf_size, hl]
    refine ⟨strOf (q.take n.toNat), q.drop n.toNat, by omega, rfl, ?_⟩
    unfold textL
    rw [strL_strOf hbt, hsz, List.append_assoc, List.take_append_drop, show ((n.toNat : Nat) : Int) = n by omega]
    exact k3)
def sgOk (g : Sg) : Prop := (0 ≤ g.n ∧ g.n ≤ 64) ∧ (g.t.length = 16 ∧ Bs g.t)
def evOk (g : Ev) : Prop := (0 ≤ g.n ∧ g.n ≤ 64) ∧ ((g.s.size : Int) ≤ 4194304 ∧ (g.t.length = 16 ∧ Bs g.t))
def vtOk (x : Vt) : Prop := (1 ≤ x.k ∧ x.k ≤ 2) ∧ ((0 ≤ x.e ∧ x.e ≤ 1048576) ∧ ((0 ≤ x.v ∧ x.v ≤ 1099511627776) ∧ ((0 ≤ x.s ∧ x.s ≤ 1099511627776) ∧ (x.d.length = 32 ∧ Bs x.d))))
theorem Codec.as {α : Type} {f f' : Rst → α × Rst} {enc enc' : α → List Int} {ok ok' : α → Prop} (p : Codec f enc ok) (hf : f' = f) (he : ∀ a, enc' a = enc a) (ho : ∀ a, ok' a ↔ ok a) : Codec f' enc' ok' := by
 subst hf
 obtain rfl : enc' = enc := funext he
 obtain rfl : ok' = ok := funext fun a => propext (ho a)
 exact p
theorem si_codec : Codec siS sgL sgOk :=
 (Codec.map (fun (c : Int × List Int) => (⟨c.1, c.2⟩ : Sg)) (fun g => (g.n, g.t)) (fun _ => rfl) (Codec.bind (nu_codec 64 (by decide)) (pad_codec 16 16 rfl))).as rfl (fun _ => rfl) (fun a => ⟨fun h => ⟨h, rfl⟩, fun h => h.1⟩)
theorem en_codec : Codec enS evL evOk :=
 (Codec.map (fun (c : Int × (ByteArray × List Int)) => (⟨c.1, c.2.1, c.2.2⟩ : Ev)) (fun g => (g.n, (g.s, g.t))) (fun _ => rfl) (Codec.bind (nu_codec 64 (by decide)) (Codec.bind (tx_codec 4194304 (by decide)) (pad_codec 16 16 rfl)))).as rfl (fun _ => rfl) (fun a => ⟨fun h => ⟨h, rfl⟩, fun h => h.1⟩)
theorem vo_codec : Codec voS vtL vtOk :=
 (Codec.map (fun (c : Int × (Int × (Int × (Int × List Int)))) => (⟨c.1, c.2.1, c.2.2.1, c.2.2.2.1, c.2.2.2.2⟩ : Vt)) (fun x => (x.k, (x.e, (x.v, (x.s, x.d))))) (fun _ => rfl) (Codec.bind (ki_codec 2 (by decide)) (Codec.bind (nu_codec 1048576 (by decide)) (Codec.bind (nu_codec 1099511627776 (by decide)) (Codec.bind (nu_codec 1099511627776 (by decide)) (pad_codec 32 32 rfl)))))).as rfl (fun x => by simp [vtL, List.append_assoc]) (fun a => ⟨fun h => ⟨h, rfl⟩, fun h => h.1⟩)
theorem ls_codec {α : Type} {one : Rst → α × Rst} {enc : α → List Int} {ok : α → Prop} (most : Int) (hm : most ≤ 1000) (p : Codec one enc ok) : Codec (lsS most one) (fun xs => putL xs.length ++ xs.flatMap enc) (fun xs => (xs.length : Int) ≤ most ∧ ∀ x ∈ xs, ok x) := by
 have pn := nu_codec most (by omega)
 refine ⟨fun s h => ?_, fun xs q h => ?_, fun r hb hc => ?_⟩
 ·have c := pn.bad s h
  show cod (itG one (nuS most s).2 _).2 = _
  rw [itG_bad p.bad (by rw [c]; exact h), c]
 ·show itG one (nuS most (putL xs.length ++ xs.flatMap enc ++ q, 0, false)).2 (nuS most (putL xs.length ++ xs.flatMap enc ++ q, 0, false)).1.toNat = _
  rw [List.append_assoc, pn.back _ _ ⟨by omega, h.1⟩]
  show itG one (xs.flatMap enc ++ q, 0, false) (xs.length : Int).toNat = _
  rw [Int.toNat_natCast, it_back p q xs h.2 xs.length (Nat.le_refl _)]
  simp
 ·have hc : cod (itG one (nuS most (r, 0, false)).2 (nuS most (r, 0, false)).1.toNat).2 = 0 := hc
  have c0 : cod (nuS most (r, 0, false)).2 = 0 := by
   by_cases c : cod (nuS most (r, 0, false)).2 = 0
   ·exact c
   ·exact absurd ((itG_bad p.bad c _).symm.trans hc) c
  obtain ⟨n, q, k1, k2, k3⟩ := pn.form r hb c0
  rw [k2] at hc
  obtain ⟨xs, q', h1, h2, h3, h4⟩ := it_form p q (by rw [k3] at hb; exact hb.right) _ hc
  have hn : ((xs.length : Nat) : Int) = n := by rw [h1]; have := k1.1; omega
  refine ⟨xs, q', ⟨by rw [hn]; exact k1.2, h2⟩, ?_, by rw [hn, k3, h4, List.append_assoc]⟩
  show itG one (nuS most (r, 0, false)).2 (nuS most (r, 0, false)).1.toNat = _
  rw [k2]
  exact h3
theorem Codec.same {α : Type} {f f' : Rst → α × Rst} {enc : α → List Int} {ok : α → Prop} (p : Codec f enc ok) (h2 : ∀ s, (f' s).2 = (f s).2) (h1 : ∀ r, cod (f (r, 0, false)).2 = 0 → (f' (r, 0, false)).1 = (f (r, 0, false)).1) : Codec f' enc ok := by
 refine ⟨fun s h => by rw [h2]; exact p.bad s h, fun a q h => ?_, fun r hb hc => ?_⟩
 ·have e := p.back a q h
  have c0 : cod (f (enc a ++ q, 0, false)).2 = 0 := by rw [e]; rfl
  rw [← e]
  exact Prod.ext (h1 _ c0) (h2 _)
 ·rw [h2] at hc
  obtain ⟨a, q, k1, k2, k3⟩ := p.form r hb hc
  exact ⟨a, q, k1, by rw [← k2]; exact Prod.ext (h1 _ hc) (h2 _), k3⟩
def rqS (s : Rst) : Rq × Rst := ((rqOf (rgetR s.1 s.2.1)).un, (rgetR s.1 s.2.1).rest, (rgetR s.1 s.2.1).err, s.2.2)
def rqOk (r : Rq) : Prop := (0 ≤ r.c ∧ r.c ≤ 8) ∧ ((0 ≤ r.n ∧ r.n ≤ 1099511627776) ∧ ((r.s.size : Int) ≤ 64 ∧ (r.t.length = 16 ∧ Bs r.t)))
def rqL (r : Rq) : List Int := (BRq.of r).bytes
theorem rq_codec : Codec rqS rqL rqOk := by
 refine Codec.same (f := fun s => _) ((Codec.map (fun (c : Int × (Int × (ByteArray × List Int))) => (⟨c.1, c.2.1, c.2.2.1, c.2.2.2⟩ : Rq)) (fun r => (r.c, (r.n, (r.s, r.t)))) (fun _ => rfl) (Codec.bind (nu_codec 8 (by decide)) (Codec.bind (nu_codec 1099511627776 (by decide)) (Codec.bind (tx_codec 64 (by decide)) (pad_codec 16 16 rfl))))).as rfl (fun r => by simp [rqL, BRq.bytes, BRq.of, List.append_assoc]) (fun a => ⟨fun h => ⟨h, rfl⟩, fun h => h.1⟩)) (fun _ => rfl) (fun r hc => ?_)
 have he : (rgetR r 0).err = 0 := (cod0 (z := false) hc).2
 have e0 : rqOf (rgetR r 0) = ⟨(rgetR r 0).c, (rgetR r 0).n, strOf (rgetR r 0).s, (rgetR r 0).t⟩ := by
  unfold rqOf
  rw [if_pos he]
 show (rqOf (rgetR r 0)).un = _
 rw [e0]
 have hl := (rawS_16 _ _).2 (show (rawS (textS (numS (numS r 0 8).2.1 (numS r 0 8).2.2 1099511627776).2.1 (numS (numS r 0 8).2.1 (numS r 0 8).2.2 1099511627776).2.2 64).2.1 (textS (numS (numS r 0 8).2.1 (numS r 0 8).2.2 1099511627776).2.1 (numS (numS r 0 8).2.1 (numS r 0 8).2.2 1099511627776).2.2 64).2.2 16).2.2 = 0 from he)
 have ep : padN 16 (rawS (textS (numS (numS r 0 8).2.1 (numS r 0 8).2.2 1099511627776).2.1 (numS (numS r 0 8).2.1 (numS r 0 8).2.2 1099511627776).2.2 64).2.1 (textS (numS (numS r 0 8).2.1 (numS r 0 8).2.2 1099511627776).2.1 (numS (numS r 0 8).2.1 (numS r 0 8).2.2 1099511627776).2.2 64).2.2 16).1 = (rawS (textS (numS (numS r 0 8).2.1 (numS r 0 8).2.2 1099511627776).2.1 (numS (numS r 0 8).2.1 (numS r 0 8).2.2 1099511627776).2.2 64).2.1 (textS (numS (numS r 0 8).2.1 (numS r 0 8).2.2 1099511627776).2.1 (numS (numS r 0 8).2.1 (numS r 0 8).2.2 1099511627776).2.2 64).2.2 16).1 := by
  unfold padN
  rw [if_pos hl]
 show (⟨_, _, _, (rawS (textS (numS (numS r 0 8).2.1 (numS r 0 8).2.2 1099511627776).2.1 (numS (numS r 0 8).2.1 (numS r 0 8).2.2 1099511627776).2.2 64).2.1 (textS (numS (numS r 0 8).2.1 (numS r 0 8).2.2 1099511627776).2.1 (numS (numS r 0 8).2.1 (numS r 0 8).2.2 1099511627776).2.2 64).2.2 16).1⟩ : Rq) = ⟨_, _, _, padN 16 (rawS (textS (numS (numS r 0 8).2.1 (numS r 0 8).2.2 1099511627776).2.1 (numS (numS r 0 8).2.1 (numS r 0 8).2.2 1099511627776).2.2 64).2.1 (textS (numS (numS r 0 8).2.1 (numS r 0 8).2.2 1099511627776).2.1 (numS (numS r 0 8).2.1 (numS r 0 8).2.2 1099511627776).2.2 64).2.2 16).1⟩
 rw [ep]
 rfl
theorem it_getRs (k : Nat) (r : List Int) (e : Int) (z : Bool) : itG rqS (r, e, z) k = ((getRs k r e).1.map BRq.un, (getRs k r e).2.1, (getRs k r e).2.2, z) := by
  induction k with
  | zero => rfl
  | succ k ih =>
    show ((itG rqS (r, e, z) k).1 ++ [(rqS (itG rqS (r, e, z) k).2).1], (rqS (itG rqS (r, e, z) k).2).2) = _
    rw [ih]
    show ((getRs k r e).1.map BRq.un ++ [(rqOf (rgetR (getRs k r e).2.1 (getRs k r e).2.2)).un], _) = (((getRs k r e).1 ++ [rqOf (rgetR (getRs k r e).2.1 (getRs k r e).2.2)]).map BRq.un, _)
    rw [List.map_append]
    rfl
def baL (c : Bool × List Rq) : List Int := batL c.1 (c.2.map BRq.of)
def baOk (c : Bool × List Rq) : Prop := (c.1 = true → c.2 = []) ∧ (c.2.length ≤ 4 ∧ ∀ r ∈ c.2, rqOk r)
theorem ba_codec : Codec baS baL baOk := by
 refine ⟨fun s h => ?_, fun c t hc => ?_, fun r hb hc => ?_⟩
 ·obtain ⟨r, e, z⟩ := s
  cases z
  ·have h : e ≠ 0 := h
   show (getB r e).err = e
   have h1 := numS_bad 5 r e h
   have h2 : (numS r e 5).1 = 0 := numS_zero (by rw [h1]; exact h)
   unfold getB
   rw [if_pos h2]
   exact h1
  ·rfl
 ·obtain ⟨q, rs⟩ := c
  obtain ⟨h1, h2, h3⟩ := hc
  show (((getB (batL q (rs.map BRq.of) ++ t) 0).q, (getB (batL q (rs.map BRq.of) ++ t) 0).rs.map BRq.un), (getB (batL q (rs.map BRq.of) ++ t) 0).rest, (getB (batL q (rs.map BRq.of) ++ t) 0).err, false) = _
  cases q
  ·have e : batL false (rs.map BRq.of) = putL ((rs.length : Int) + 1) ++ rs.flatMap rqL := by
    unfold batL
    rw [if_neg (by decide), List.length_map, List.flatMap_map]
    rfl
   have h2 : rs.length ≤ 4 := h2
   rw [e, List.append_assoc]
   have hn := numS_back ((rs.length : Int) + 1) 5 (by omega) (by omega) (by omega) (rs.flatMap rqL ++ t)
   have hi := it_back rq_codec t rs h3 rs.length (Nat.le_refl _)
   rw [it_getRs] at hi
   simp only [List.take_length, List.drop_length, List.flatMap_nil, List.nil_append, Prod.mk.injEq, and_true] at hi
   obtain ⟨i1, i2, i3⟩ := hi
   unfold getB
   rw [hn]
   simp only
   rw [if_neg (by omega), show ((rs.length : Int) + 1 - 1).toNat = rs.length by omega, if_pos i3]
   simp only
   rw [i1, i2, i3]
  ·obtain rfl : rs = [] := h1 rfl
   have hn := numS_back 0 5 (by omega) (by omega) (by omega) t
   have e : batL true (([] : List Rq).map BRq.of) = putL 0 := rfl
   rw [e]
   unfold getB
   rw [hn]
   rfl
 ·have he : (getB r 0).err = 0 := (cod0 (z := false) hc).2
  show ∃ a q, _ ∧ (((getB r 0).q, (getB r 0).rs.map BRq.un), (getB r 0).rest, (getB r 0).err, false) = _ ∧ _
  have hn : (numS r 0 5).2.2 = 0 := by
   by_cases c : (numS r 0 5).2.2 = 0
   ·exact c
   ·have h2 : (numS r 0 5).1 = 0 := numS_zero c
    unfold getB at he
    rw [if_pos h2] at he
    exact absurd he c
  obtain ⟨n, q, k1, k2, k3⟩ := num_form hb hn
  unfold getB at he ⊢
  rw [k2] at he ⊢
  simp only at he ⊢
  by_cases h0 : n = 0
  ·subst h0
   rw [if_pos rfl]
   exact ⟨(true, []), q, ⟨(fun _ => rfl), (by simp), (fun r hr => by cases hr)⟩, rfl, k3⟩
  ·rw [if_neg h0] at he ⊢
   have he : (getRs (n - 1).toNat q 0).2.2 = 0 := he
   have hc2 : cod (itG rqS (q, 0, false) (n - 1).toNat).2 = 0 := by rw [it_getRs]; exact he
   obtain ⟨xs, q', j1, j2, j3, j4⟩ := it_form rq_codec q (by rw [k3] at hb; exact hb.right) _ hc2
   rw [it_getRs] at j3
   simp only [Prod.mk.injEq, and_true] at j3
   obtain ⟨i1, i2, i3⟩ := j3
   refine ⟨(false, xs), q', ⟨(fun e => by cases e), (by show xs.length ≤ 4; omega), j2⟩, ?_, ?_⟩
   ·rw [if_pos he]
    simp only
    rw [i1, i2, i3]
   ·show r = batL false (xs.map BRq.of) ++ q'
    unfold batL
    rw [if_neg (by decide), List.length_map, List.flatMap_map, k3, j4, List.append_assoc, show ((xs.length : Nat) : Int) + 1 = n by omega]
    rfl
def ceOk (c : Vt × List Sg) : Prop := vtOk c.1 ∧ ((c.2.length : Int) ≤ 64 ∧ ∀ x ∈ c.2, sgOk x)
theorem ce_codec : Codec ceS (fun c => ctL c.1 c.2) ceOk := (Codec.bind vo_codec (ls_codec 64 (by decide) si_codec)).as rfl (fun _ => rfl) (fun _ => Iff.rfl)
def hpL (h : Hp) : List Int := baL (h.q, h.rs) ++ ctL h.vt h.sg
def hpOk (h : Hp) : Prop := baOk (h.q, h.rs) ∧ ceOk (h.vt, h.sg)
theorem he_codec : Codec heS hpL hpOk := (Codec.map (fun (c : (Bool × List Rq) × (Vt × List Sg)) => (⟨c.1.1, c.1.2, c.2.1, c.2.2⟩ : Hp)) (fun h => ((h.q, h.rs), (h.vt, h.sg))) (fun _ => rfl) (Codec.bind ba_codec ce_codec)).as rfl (fun _ => rfl) (fun a => ⟨fun h => ⟨h, rfl⟩, fun h => h.1⟩)
def cpL (c : Cp) : List Int := putL c.e ++ (putL c.l ++ (putL c.v ++ (putL c.he.length ++ c.he.flatMap hpL)))
def cpOk (c : Cp) : Prop := (0 ≤ c.e ∧ c.e ≤ 1048576) ∧ ((0 ≤ c.l ∧ c.l ≤ 64) ∧ ((0 ≤ c.v ∧ c.v ≤ 1099511627776) ∧ ((c.he.length : Int) ≤ 4 ∧ ∀ x ∈ c.he, hpOk x)))
theorem ch_codec : Codec chS cpL cpOk := (Codec.map (fun (c : Int × (Int × (Int × List Hp))) => (⟨c.1, c.2.1, c.2.2.1, c.2.2.2⟩ : Cp)) (fun c => (c.e, (c.l, (c.v, c.he)))) (fun _ => rfl) (Codec.bind (nu_codec 1048576 (by decide)) (Codec.bind (nu_codec 64 (by decide)) (Codec.bind (nu_codec 1099511627776 (by decide)) (ls_codec 4 (by decide) he_codec))))).as rfl (fun _ => rfl) (fun a => ⟨fun h => ⟨h, rfl⟩, fun h => h.1⟩)
def onlyP1 (c : Int × (Int × (Bool × List Rq))) : Mp := ⟨1, c.1, 0, 0, c.2.1, c.2.2.1, c.2.2.2, Vt.zero, 0, 0, 0, [], [], zeros32, Vt.zero, [], ⟨#[]⟩, []⟩
def body1 (m : Mp) : List Int := putL m.e ++ (putL m.s ++ baL (m.q, m.rs))
def kok1 (m : Mp) : Prop := ((0 ≤ m.e ∧ m.e ≤ 1048576) ∧ ((0 ≤ m.s ∧ m.s ≤ 1099511627776) ∧ baOk (m.q, m.rs))) ∧ onlyP1 (m.e, (m.s, (m.q, m.rs))) = m
theorem mg1_codec : Codec mg1 body1 kok1 := (Codec.map onlyP1 (fun m => (m.e, (m.s, (m.q, m.rs)))) (fun _ => rfl) (Codec.bind (nu_codec 1048576 (by decide)) (Codec.bind (nu_codec 1099511627776 (by decide)) ba_codec))).as rfl (fun _ => rfl) (fun _ => Iff.rfl)
def onlyP2 (c : Vt) : Mp := ⟨2, 0, 0, 0, 0, false, [], c, 0, 0, 0, [], [], zeros32, Vt.zero, [], ⟨#[]⟩, []⟩
def body2 (m : Mp) : List Int := vtL m.vt
def kok2 (m : Mp) : Prop := (vtOk m.vt) ∧ onlyP2 m.vt = m
theorem mg2_codec : Codec mg2 body2 kok2 := (Codec.map onlyP2 (fun m => m.vt) (fun _ => rfl) vo_codec).as rfl (fun _ => rfl) (fun _ => Iff.rfl)
def onlyP3 (c : Cp) : Mp := ⟨3, 0, 0, 0, 0, false, [], Vt.zero, c.e, c.l, c.v, c.he, [], zeros32, Vt.zero, [], ⟨#[]⟩, []⟩
def body3 (m : Mp) : List Int := cpL ⟨m.ce, m.cl, m.cv, m.he⟩
def kok3 (m : Mp) : Prop := (cpOk ⟨m.ce, m.cl, m.cv, m.he⟩) ∧ onlyP3 ⟨m.ce, m.cl, m.cv, m.he⟩ = m
theorem mg3_codec : Codec mg3 body3 kok3 := (Codec.map onlyP3 (fun m => ⟨m.ce, m.cl, m.cv, m.he⟩) (fun _ => rfl) ch_codec).as rfl (fun _ => rfl) (fun _ => Iff.rfl)
def onlyP4 (c : Int × (Int × (Int × List Ev))) : Mp := ⟨4, c.1, c.2.1, c.2.2.1, 0, false, [], Vt.zero, 0, 0, 0, [], c.2.2.2, zeros32, Vt.zero, [], ⟨#[]⟩, []⟩
def body4 (m : Mp) : List Int := putL m.e ++ (putL m.l ++ (putL m.v ++ evsL m.ne))
def kok4 (m : Mp) : Prop := ((0 ≤ m.e ∧ m.e ≤ 1048576) ∧ ((0 ≤ m.l ∧ m.l ≤ 64) ∧ ((0 ≤ m.v ∧ m.v ≤ 1099511627776) ∧ ((m.ne.length : Int) ≤ 64 ∧ ∀ x ∈ m.ne, evOk x)))) ∧ onlyP4 (m.e, (m.l, (m.v, m.ne))) = m
theorem mg4_codec : Codec mg4 body4 kok4 := (Codec.map onlyP4 (fun m => (m.e, (m.l, (m.v, m.ne)))) (fun _ => rfl) (Codec.bind (nu_codec 1048576 (by decide)) (Codec.bind (nu_codec 64 (by decide)) (Codec.bind (nu_codec 1099511627776 (by decide)) (ls_codec 64 (by decide) en_codec))))).as rfl (fun _ => rfl) (fun _ => Iff.rfl)
def onlyP5 (c : Int × List Int) : Mp := ⟨5, c.1, 0, 0, 0, false, [], Vt.zero, 0, 0, 0, [], [], c.2, Vt.zero, [], ⟨#[]⟩, []⟩
def body5 (m : Mp) : List Int := putL m.e ++ m.d
def kok5 (m : Mp) : Prop := ((0 ≤ m.e ∧ m.e ≤ 1048576) ∧ (m.d.length = 32 ∧ Bs m.d)) ∧ onlyP5 (m.e, m.d) = m
theorem mg5_codec : Codec mg5 body5 kok5 := (Codec.map onlyP5 (fun m => (m.e, m.d)) (fun _ => rfl) (Codec.bind (nu_codec 1048576 (by decide)) (pad_codec 32 32 rfl))).as rfl (fun _ => rfl) (fun _ => Iff.rfl)
def onlyP6 (c : Int × Int) : Mp := ⟨6, c.1, 0, 0, c.2, false, [], Vt.zero, 0, 0, 0, [], [], zeros32, Vt.zero, [], ⟨#[]⟩, []⟩
def body6 (m : Mp) : List Int := putL m.e ++ putL m.s
def kok6 (m : Mp) : Prop := ((0 ≤ m.e ∧ m.e ≤ 1048576) ∧ (0 ≤ m.s ∧ m.s ≤ 1099511627776)) ∧ onlyP6 (m.e, m.s) = m
theorem mg6_codec : Codec mg6 body6 kok6 := (Codec.map onlyP6 (fun m => (m.e, m.s)) (fun _ => rfl) (Codec.bind (nu_codec 1048576 (by decide)) (nu_codec 1099511627776 (by decide)))).as rfl (fun _ => rfl) (fun _ => Iff.rfl)
def onlyP7 (c : (Bool × List Rq) × (Vt × List Sg)) : Mp := ⟨7, 0, 0, 0, 0, c.1.1, c.1.2, Vt.zero, 0, 0, 0, [], [], zeros32, c.2.1, c.2.2, ⟨#[]⟩, []⟩
def body7 (m : Mp) : List Int := baL (m.q, m.rs) ++ ctL m.ct m.cs
def kok7 (m : Mp) : Prop := (baOk (m.q, m.rs) ∧ ceOk (m.ct, m.cs)) ∧ onlyP7 ((m.q, m.rs), (m.ct, m.cs)) = m
theorem mg7_codec : Codec mg7 body7 kok7 := (Codec.map onlyP7 (fun m => ((m.q, m.rs), (m.ct, m.cs))) (fun _ => rfl) (Codec.bind ba_codec ce_codec)).as rfl (fun _ => rfl) (fun _ => Iff.rfl)
def onlyP8 (c : ByteArray × List Sg) : Mp := ⟨8, 0, 0, 0, 0, false, [], Vt.zero, 0, 0, 0, [], [], zeros32, Vt.zero, [], c.1, c.2⟩
def body8 (m : Mp) : List Int := textL m.st ++ sgsL m.sg
def kok8 (m : Mp) : Prop := ((m.st.size : Int) ≤ 4194304 ∧ ((m.sg.length : Int) ≤ 64 ∧ ∀ x ∈ m.sg, sgOk x)) ∧ onlyP8 (m.st, m.sg) = m
theorem mg8_codec : Codec mg8 body8 kok8 := (Codec.map onlyP8 (fun m => (m.st, m.sg)) (fun _ => rfl) (Codec.bind (tx_codec 4194304 (by decide)) (ls_codec 64 (by decide) si_codec))).as rfl (fun _ => rfl) (fun _ => Iff.rfl)
def Mp.bytes (m : Mp) : List Int := putL m.k ++ (if m.k = 1 then body1 m else if m.k = 2 then body2 m else if m.k = 3 then body3 m else if m.k = 4 then body4 m else if m.k = 5 then body5 m else if m.k = 6 then body6 m else if m.k = 7 then body7 m else body8 m)
def Mp.good (m : Mp) : Prop := (m.k = 1 ∧ kok1 m) ∨ (m.k = 2 ∧ kok2 m) ∨ (m.k = 3 ∧ kok3 m) ∨ (m.k = 4 ∧ kok4 m) ∨ (m.k = 5 ∧ kok5 m) ∨ (m.k = 6 ∧ kok6 m) ∨ (m.k = 7 ∧ kok7 m) ∨ (m.k = 8 ∧ kok8 m)
theorem done0 (q : List Int) : faE (q, 0, false) = if q.length = 0 then 0 else 12 := rfl
theorem dec_form {zs : List Int} (hb : Bs zs) (h : (decS zs).2 = 0) : (decS zs).1.good ∧ zs = (decS zs).1.bytes := by
 have hf : faE (mgS (zs, 0, false)).2 = 0 := by
  by_cases c : faE (mgS (zs, 0, false)).2 = 0
  ·exact c
  ·unfold decS at h
   rw [if_neg c] at h
   exact h
 have hd : decS zs = ((mgS (zs, 0, false)).1, 0) := by
  unfold decS
  rw [if_pos hf]
 rw [hd]
 simp only
 have hc : cod (mgS (zs, 0, false)).2 = 0 := by
  generalize (mgS (zs, 0, false)).2 = s at hf
  obtain ⟨r, e, z⟩ := s
  cases z
  ·show e = 0
   have hf : doneE r e = 0 := hf
   unfold doneE at hf
   by_cases c : e = 0
   ·exact c
   ·rw [if_neg c] at hf; exact hf
  ·exact absurd hf (show (130 : Int) ≠ 0 by decide)
 have hr : (mgS (zs, 0, false)).2.1 = [] := by
  generalize (mgS (zs, 0, false)).2 = s at hf hc
  obtain ⟨r, e, z⟩ := s
  obtain ⟨rfl, rfl⟩ := cod0 hc
  rw [done0] at hf
  by_cases c : r.length = 0
  ·exact List.eq_nil_of_length_eq_zero c
  ·rw [if_neg c] at hf; exact absurd hf (by decide)
 have hbad : ∀ k s, cod s ≠ 0 → cod (mgF k s).2 = cod s := fun k s hs => by
  unfold mgF
  by_cases n1 : k = 1
  ·rw [if_pos n1]; exact mg1_codec.bad s hs
  rw [if_neg n1]
  by_cases n2 : k = 2
  ·rw [if_pos n2]; exact mg2_codec.bad s hs
  rw [if_neg n2]
  by_cases n3 : k = 3
  ·rw [if_pos n3]; exact mg3_codec.bad s hs
  rw [if_neg n3]
  by_cases n4 : k = 4
  ·rw [if_pos n4]; exact mg4_codec.bad s hs
  rw [if_neg n4]
  by_cases n5 : k = 5
  ·rw [if_pos n5]; exact mg5_codec.bad s hs
  rw [if_neg n5]
  by_cases n6 : k = 6
  ·rw [if_pos n6]; exact mg6_codec.bad s hs
  rw [if_neg n6]
  by_cases n7 : k = 7
  ·rw [if_pos n7]; exact mg7_codec.bad s hs
  rw [if_neg n7]
  by_cases n8 : k = 8
  ·rw [if_pos n8]; exact mg8_codec.bad s hs
  rw [if_neg n8]
 unfold mgS at hc hr ⊢
 have ck : cod (kiS 8 (zs, 0, false)).2 = 0 := by
  by_cases c : cod (kiS 8 (zs, 0, false)).2 = 0
  ·exact c
  ·exact absurd ((hbad _ _ c).symm.trans hc) c
 obtain ⟨k, q, k1, k2, k3⟩ := (ki_codec 8 (by decide)).form zs hb ck
 rw [k2] at hc hr ⊢
 simp only at hc hr ⊢
 have hbq : Bs q := by rw [k3] at hb; exact hb.right
 unfold mgF at hc hr ⊢
 by_cases n1 : k = 1
 ·rw [if_pos n1] at hc hr ⊢
  obtain ⟨m, q', j1, j2, j3⟩ := mg1_codec.form q hbq hc
  rw [j2] at hr ⊢
  simp only at hr ⊢
  have hmk : m.k = 1 := by rw [← j1.2]; rfl
  refine ⟨.inl ⟨hmk, j1⟩, ?_⟩
  have eb : m.bytes = putL 1 ++ body1 m := by unfold Mp.bytes; rw [hmk]; rfl
  rw [eb, k3, j3, hr, List.append_nil, n1]
 rw [if_neg n1] at hc hr ⊢
 by_cases n2 : k = 2
 ·rw [if_pos n2] at hc hr ⊢
  obtain ⟨m, q', j1, j2, j3⟩ := mg2_codec.form q hbq hc
  rw [j2] at hr ⊢
  simp only at hr ⊢
  have hmk : m.k = 2 := by rw [← j1.2]; rfl
  refine ⟨.inr (.inl ⟨hmk, j1⟩), ?_⟩
  have eb : m.bytes = putL 2 ++ body2 m := by unfold Mp.bytes; rw [hmk]; rfl
  rw [eb, k3, j3, hr, List.append_nil, n2]
 rw [if_neg n2] at hc hr ⊢
 by_cases n3 : k = 3
 ·rw [if_pos n3] at hc hr ⊢
  obtain ⟨m, q', j1, j2, j3⟩ := mg3_codec.form q hbq hc
  rw [j2] at hr ⊢
  simp only at hr ⊢
  have hmk : m.k = 3 := by rw [← j1.2]; rfl
  refine ⟨.inr (.inr (.inl ⟨hmk, j1⟩)), ?_⟩
  have eb : m.bytes = putL 3 ++ body3 m := by unfold Mp.bytes; rw [hmk]; rfl
  rw [eb, k3, j3, hr, List.append_nil, n3]
 rw [if_neg n3] at hc hr ⊢
 by_cases n4 : k = 4
 ·rw [if_pos n4] at hc hr ⊢
  obtain ⟨m, q', j1, j2, j3⟩ := mg4_codec.form q hbq hc
  rw [j2] at hr ⊢
  simp only at hr ⊢
  have hmk : m.k = 4 := by rw [← j1.2]; rfl
  refine ⟨.inr (.inr (.inr (.inl ⟨hmk, j1⟩))), ?_⟩
  have eb : m.bytes = putL 4 ++ body4 m := by unfold Mp.bytes; rw [hmk]; rfl
  rw [eb, k3, j3, hr, List.append_nil, n4]
 rw [if_neg n4] at hc hr ⊢
 by_cases n5 : k = 5
 ·rw [if_pos n5] at hc hr ⊢
  obtain ⟨m, q', j1, j2, j3⟩ := mg5_codec.form q hbq hc
  rw [j2] at hr ⊢
  simp only at hr ⊢
  have hmk : m.k = 5 := by rw [← j1.2]; rfl
  refine ⟨.inr (.inr (.inr (.inr (.inl ⟨hmk, j1⟩)))), ?_⟩
  have eb : m.bytes = putL 5 ++ body5 m := by unfold Mp.bytes; rw [hmk]; rfl
  rw [eb, k3, j3, hr, List.append_nil, n5]
 rw [if_neg n5] at hc hr ⊢
 by_cases n6 : k = 6
 ·rw [if_pos n6] at hc hr ⊢
  obtain ⟨m, q', j1, j2, j3⟩ := mg6_codec.form q hbq hc
  rw [j2] at hr ⊢
  simp only at hr ⊢
  have hmk : m.k = 6 := by rw [← j1.2]; rfl
  refine ⟨.inr (.inr (.inr (.inr (.inr (.inl ⟨hmk, j1⟩))))), ?_⟩
  have eb : m.bytes = putL 6 ++ body6 m := by unfold Mp.bytes; rw [hmk]; rfl
  rw [eb, k3, j3, hr, List.append_nil, n6]
 rw [if_neg n6] at hc hr ⊢
 by_cases n7 : k = 7
 ·rw [if_pos n7] at hc hr ⊢
  obtain ⟨m, q', j1, j2, j3⟩ := mg7_codec.form q hbq hc
  rw [j2] at hr ⊢
  simp only at hr ⊢
  have hmk : m.k = 7 := by rw [← j1.2]; rfl
  refine ⟨.inr (.inr (.inr (.inr (.inr (.inr (.inl ⟨hmk, j1⟩)))))), ?_⟩
  have eb : m.bytes = putL 7 ++ body7 m := by unfold Mp.bytes; rw [hmk]; rfl
  rw [eb, k3, j3, hr, List.append_nil, n7]
 rw [if_neg n7] at hc hr ⊢
 by_cases n8 : k = 8
 ·rw [if_pos n8] at hc hr ⊢
  obtain ⟨m, q', j1, j2, j3⟩ := mg8_codec.form q hbq hc
  rw [j2] at hr ⊢
  simp only at hr ⊢
  have hmk : m.k = 8 := by rw [← j1.2]; rfl
  refine ⟨.inr (.inr (.inr (.inr (.inr (.inr (.inr (⟨hmk, j1⟩))))))), ?_⟩
  have eb : m.bytes = putL 8 ++ body8 m := by unfold Mp.bytes; rw [hmk]; rfl
  rw [eb, k3, j3, hr, List.append_nil, n8]
 rw [if_neg n8] at hc hr ⊢
 omega
theorem sl_lt {α : Type} {E : El α} {w : World} {x : Sl α} (h : x.At E w) : x.Bk (fun b => b < w.heap.size) := fun b h1 h2 => by
 rcases h.2.2 with q | ⟨c, off, e, hlt, _⟩
 ·exact absurd q h1
 ·rw [e] at h2
  cases h2
  exact hlt
theorem mg_lt {m : Mg} {w : World} (h : m.At w) : m.Bk (fun b => b < w.heap.size) :=
 ⟨sl_lt h.rs, sl_lt h.he.1, fun y hy => ⟨sl_lt (h.he.2 y hy).1, sl_lt (h.he.2 y hy).2⟩, sl_lt h.ne, sl_lt h.cs, sl_lt h.sg⟩
theorem Mg.Bk.mono {m : Mg} {P P' : Nat → Prop} (k : m.Bk P) (hp : ∀ b, P b → P' b) : m.Bk P' :=
 ⟨k.1.mono hp, k.2.1.mono hp, fun y hy => (k.2.2.1 y hy).mono hp, k.2.2.2.1.mono hp, k.2.2.2.2.1.mono hp, k.2.2.2.2.2.mono hp⟩
structure Fit (m : Mp) (n : Nat) : Prop where
 same : ∀ N, ownC N m = ownX N m
 le : ∀ N, (ownC N m).length ≤ 10000
 rs : ∀ r ∈ m.rs, r.s.size ≤ 100000
 he : ∀ h ∈ m.he, ∀ r ∈ h.rs, r.s.size ≤ 100000
 nl : m.ne.length ≤ 64
 ne : ∀ e ∈ m.ne, e.s.size ≤ n
theorem mem_flat_le {α : Type} {f : α → List Int} {xs : List α} {x : α} (h : x ∈ xs) : (f x).length ≤ (xs.flatMap f).length := by
 obtain ⟨a, b, rfl⟩ := List.append_of_mem h
 simp only [List.flatMap_append, List.flatMap_cons, List.length_append]
 omega
theorem rq_small {r : Rq} (h : rqOk r) : r.s.size ≤ 100000 := by have := h.2.2.1; omega
theorem heC_bound {N : Int} {hs : List Hp} (h : ∀ x ∈ hs, hpOk x) : (heC N hs).length ≤ hs.length * 68 := by
  induction hs with
  | nil => simp [heC]
  | cons a l ih =>
    have h1 := h a (by simp)
    have h2 := ih (fun x hx => h x (by simp [hx]))
    have h3 := h1.1.2.1
    have h4 := h1.2.2.1
    simp only at h3 h4
    unfold heC at h2 ⊢
    simp only [List.flatMap_cons, List.length_append, hdC, batC_len, cerC_len, List.length_cons] at h2 ⊢
    omega
theorem own_none (N : Int) {m : Mp} (h1 : m.rs = []) (h2 : m.cs = []) (h3 : m.he = []) (h4 : m.sg = []) : ownC N m = [] ∧ ownX N m = [] := by
 unfold ownC ownX
 rw [h1, h2, h3, h4]
 constructor
 ·rfl
 ·show [] ++ [] ++ (if m.k = 7 then [] else []) ++ [] = []
  split <;> rfl
theorem fit_of {m : Mp} (h : m.good) (n : Nat) (hn : m.bytes.length = n) : Fit m n := by
 rcases h with ⟨hk, h⟩ | ⟨hk, h⟩ | ⟨hk, h⟩ | ⟨hk, h⟩ | ⟨hk, h⟩ | ⟨hk, h⟩ | ⟨hk, h⟩ | ⟨hk, h⟩
 ·have ec : m.cs = [] := by rw [← h.2]; rfl
  have eh : m.he = [] := by rw [← h.2]; rfl
  have es : m.sg = [] := by rw [← h.2]; rfl
  have en : m.ne = [] := by rw [← h.2]; rfl
  have hb := h.1.2.2.2
  refine ⟨fun N => ?_, fun N => ?_, fun r hr => rq_small (hb.2 r hr), fun x hx => by simp [eh] at hx, by rw [en]; simp, fun x hx => by simp [en] at hx⟩
  ·unfold ownC ownX
   rw [ec, eh, es, if_neg (by rw [hk]; decide)]
   simp [cerC, heC]
  ·unfold ownC
   rw [ec, eh, es]
   simp only [List.length_append, batC_len, cerC_len, sgC_len, heC, List.flatMap_nil, List.length_nil]
   have := hb.1
   simp only at this
   omega
 ·obtain ⟨e1, e2, e3, e4, e5⟩ : m.rs = [] ∧ m.cs = [] ∧ m.he = [] ∧ m.sg = [] ∧ m.ne = [] := by rw [← h.2]; exact ⟨rfl, rfl, rfl, rfl, rfl⟩
  exact ⟨fun N => by rw [(own_none N e1 e2 e3 e4).1, (own_none N e1 e2 e3 e4).2], fun N => by rw [(own_none N e1 e2 e3 e4).1]; simp, fun r hr => by simp [e1] at hr, fun x hx => by simp [e3] at hx, by rw [e5]; simp, fun x hx => by simp [e5] at hx⟩
 ·obtain ⟨e1, e2, e4, e5⟩ : m.rs = [] ∧ m.cs = [] ∧ m.sg = [] ∧ m.ne = [] := by rw [← h.2]; exact ⟨rfl, rfl, rfl, rfl⟩
  have hb := h.1.2.2.2
  simp only at hb
  refine ⟨fun N => ?_, fun N => ?_, fun r hr => by simp [e1] at hr, fun x hx r hr => rq_small ((hb.2 x hx).1.2.2 r hr), by rw [e5]; simp, fun x hx => by simp [e5] at hx⟩
  ·unfold ownC ownX
   rw [e1, e2, e4, if_neg (by rw [hk]; decide)]
   simp [cerC, batC]
  ·have h1 := heC_bound (N := N) hb.2
   unfold ownC
   rw [e1, e2, e4]
   simp only [List.length_append, batC_len, cerC_len, sgC_len, List.length_nil]
   have := hb.1
   omega
 ·obtain ⟨e1, e2, e3, e4⟩ : m.rs = [] ∧ m.cs = [] ∧ m.he = [] ∧ m.sg = [] := by rw [← h.2]; exact ⟨rfl, rfl, rfl, rfl⟩
  have hb := h.1.2.2.2
  refine ⟨fun N => by rw [(own_none N e1 e2 e3 e4).1, (own_none N e1 e2 e3 e4).2], fun N => by rw [(own_none N e1 e2 e3 e4).1]; simp, fun r hr => by simp [e1] at hr, fun x hx => by simp [e3] at hx, by have := hb.1; omega, fun x hx => ?_⟩
  have h1 := mem_flat_le (f := evL) hx
  have h2 : x.s.size ≤ (evL x).length := by
   unfold evL textL
   simp only [List.length_append, strL_length]
   omega
  rw [← hn]
  unfold Mp.bytes
  rw [if_neg (by rw [hk]; decide), if_neg (by rw [hk]; decide), if_neg (by rw [hk]; decide), if_pos hk]
  unfold body4 evsL
  simp only [List.length_append]
  omega
 ·obtain ⟨e1, e2, e3, e4, e5⟩ : m.rs = [] ∧ m.cs = [] ∧ m.he = [] ∧ m.sg = [] ∧ m.ne = [] := by rw [← h.2]; exact ⟨rfl, rfl, rfl, rfl, rfl⟩
  exact ⟨fun N => by rw [(own_none N e1 e2 e3 e4).1, (own_none N e1 e2 e3 e4).2], fun N => by rw [(own_none N e1 e2 e3 e4).1]; simp, fun r hr => by simp [e1] at hr, fun x hx => by simp [e3] at hx, by rw [e5]; simp, fun x hx => by simp [e5] at hx⟩
 ·obtain ⟨e1, e2, e3, e4, e5⟩ : m.rs = [] ∧ m.cs = [] ∧ m.he = [] ∧ m.sg = [] ∧ m.ne = [] := by rw [← h.2]; exact ⟨rfl, rfl, rfl, rfl, rfl⟩
  exact ⟨fun N => by rw [(own_none N e1 e2 e3 e4).1, (own_none N e1 e2 e3 e4).2], fun N => by rw [(own_none N e1 e2 e3 e4).1]; simp, fun r hr => by simp [e1] at hr, fun x hx => by simp [e3] at hx, by rw [e5]; simp, fun x hx => by simp [e5] at hx⟩
 ·obtain ⟨e3, e4, e5⟩ : m.he = [] ∧ m.sg = [] ∧ m.ne = [] := by rw [← h.2]; exact ⟨rfl, rfl, rfl⟩
  have hb := h.1.1.2
  have hc := h.1.2.2.1
  simp only at hb hc
  refine ⟨fun N => ?_, fun N => ?_, fun r hr => rq_small (hb.2 r hr), fun x hx => by simp [e3] at hx, by rw [e5]; simp, fun x hx => by simp [e5] at hx⟩
  ·unfold ownC ownX
   rw [e3, e4, if_pos hk]
   simp [heC]
  ·unfold ownC
   rw [e3, e4]
   simp only [List.length_append, batC_len, cerC_len, sgC_len, heC, List.flatMap_nil, List.length_nil]
   have := hb.1
   omega
 ·obtain ⟨e1, e2, e3, e5⟩ : m.rs = [] ∧ m.cs = [] ∧ m.he = [] ∧ m.ne = [] := by rw [← h.2]; exact ⟨rfl, rfl, rfl, rfl⟩
  have hb := h.1.2.1
  refine ⟨fun N => ?_, fun N => ?_, fun r hr => by simp [e1] at hr, fun x hx => by simp [e3] at hx, by rw [e5]; simp, fun x hx => by simp [e5] at hx⟩
  ·unfold ownC ownX
   rw [e1, e2, e3, if_neg (by rw [hk]; decide)]
   simp [cerC, heC]
  ·unfold ownC
   rw [e1, e2, e3]
   simp only [List.length_append, batC_len, cerC_len, sgC_len, heC, List.flatMap_nil, List.length_nil]
   omega
theorem fit_dec {sb : ByteArray} (h : (decS (strL sb)).2 = 0) : Fit (decS (strL sb)).1 sb.size := by
 obtain ⟨h1, h2⟩ := dec_form (strL_byte sb) h
 exact fit_of h1 _ (by rw [← h2, strL_length])
theorem small_fit {m : Mg} {n : Nat} (h : Fit m.pure n) : Small m := ⟨h.rs, fun x hx r hr => h.he x.pure (List.mem_map_of_mem hx) r hr⟩
def newC (N : Int) (e : Ev) : List Ev := e :: (if (decS (strL e.s)).2 = 0 then ownC N (decS (strL e.s)).1 else [])
def claimsC (N : Int) (sb : ByteArray) : List Ev := if N < 0 ∨ 64 < N then [] else if (decS (strL sb)).2 ≠ 0 then [] else ownC N (decS (strL sb)).1 ++ (decS (strL sb)).1.ne.flatMap (newC N)
theorem newC_len (N : Int) (e : Ev) : (newC N e).length ≤ 10001 := by
 unfold newC
 rw [List.length_cons]
 split
 ·rename_i h
  have := (fit_dec h).le N
  omega
 ·simp
theorem news_len (N : Int) (l : List Ev) : (l.flatMap (newC N)).length ≤ l.length * 10001 := by
  induction l with
  | nil => simp
  | cons a l ih =>
    have := newC_len N a
    simp only [List.flatMap_cons, List.length_append, List.length_cons]
    omega
theorem flat_take {α β : Type} {f : α → List β} {xs : List α} {k : Nat} (hk : k < xs.length) : (xs.take (k + 1)).flatMap f = (xs.take k).flatMap f ++ f xs[k] := by
 have e : xs.take (k + 1) = xs.take k ++ [xs[k]] := by rw [List.take_add_one, List.getElem?_eq_getElem hk]; rfl
 rw [e, List.flatMap_append]
 simp
end Go.Proofs.YtilbjeeabecfjaaGreat
