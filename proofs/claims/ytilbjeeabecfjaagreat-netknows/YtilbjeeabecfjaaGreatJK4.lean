/- batch.Get and request.Get; the reader's lists; the reader's certs, and what was held; the reader's lists of what was held; changes -/
import Derived.Test.YtilbjeeabecfjaaGreatJK0
import Derived.Test.YtilbjeeabecfjaaGreatJK3
import Derived.Laws.MakeOwn
namespace Go.Proofs.YtilbjeeabecfjaaGreat
open Go.RowKit
open Sha Tal
set_option linter.unusedVariables false
set_option linter.unusedSimpArgs false
def zeros16 : List Int := List.replicate 16 0
def noReq : List Value := reqL 0 0 ⟨#[]⟩ zeros16
theorem litReq : (#[.int .i64 0, .int .i64 0, .string ⟨#[]⟩, .int .u8 0, .int .u8 0, .int .u8 0, .int .u8 0, .int .u8 0, .int .u8 0, .int .u8 0, .int .u8 0, .int .u8 0, .int .u8 0, .int .u8 0, .int .u8 0, .int .u8 0, .int .u8 0, .int .u8 0, .int .u8 0] : Array Value) = noReq.toArray := by rfl
theorem iszN : (Tryz.prog.info? 157).map (·.size) = some noReq.toArray.size := by kernel_rfl
theorem strOf_aux : ∀ (zs : List Int) (r : ByteArray), (zs.foldl (fun r n => r.push (UInt8.ofNat n.toNat)) r).size = r.size + zs.length
  | [], r => by simp
  | z :: zs, r => by rw [List.foldl_cons, strOf_aux zs, ByteArray.size_push, List.length_cons]; omega
theorem strOf_size (zs : List Int) : (strOf zs).size = zs.length := by unfold strOf; rw [strOf_aux]; simp
set_option maxRecDepth 100000 in
theorem none_any (w : World) : Calls Tryz.prog 123 #[] w fun e w' => e = .returned (batV true none 0 0) ∧ Below w.heap.size w w' := by
 have F := fresh_store w #[.bool false, .slice none 0 0] 97 [.bool true, .slice none 0 0] rfl
 have hN : (w.alloc (.cells #[.bool false, .slice none 0 0] 97)).there w.heap.size 0 2 := there_new w #[.bool false, .slice none 0 0] 97
 have hrs := run_loadVar_mid (P := Tryz.prog) _ w.heap.size 0 97 [.bool true, .slice none 0 0] _ F.1 Tryz.underlying97 rfl iszB
 have hB := F.2.1
 go_enter Tryz.func123, Tryz.ntmps123
 go_upto_region 1 with fail
 try simp only [Act.put]
 refine wp_region_list ?_
 refine wpList_step fun K hK => ?_
 go_simp
 refine hK _ _ ?_
 clear hK K
 refine wpList_store_mid rfl 97 _ _ rfl _ _ #[.bool true, .slice none 0 0] rfl rfl hN iszB (by simp [Value.oneCell']) ?_
 go_wp2
 exact bodyPost_ret (v := .agg #[.bool true, .slice none 0 0]) (by simp [results, Tryz.results123, asAddr, hrs, Act.put]) rfl ⟨rfl, hB⟩
structure GS (w : World) (R : Nat) (q : List Value) (W : World) : Prop where
 row : W.rangeAt (w.heap.size + 1) 0 q
 box : W.there (w.heap.size + 1) 0 19
 ans : W.there w.heap.size 0 19
 grown : w.grownBy W (some R)
 size : w.heap.size + 2 ≤ W.heap.size
theorem GS.gb {w W W' : World} {R : Nat} {q : List Value} (h : GS w R q W) (hR : R < w.heap.size) (hg : W.grownBy W' (some R)) : GS w R q W' := by
 have hs := h.size
 exact ⟨range_gbR h.row hg (by omega) (by omega), there_gbR h.box hg (by omega) (by omega), there_gbR h.ans hg (by omega) (by omega), gb_trans h.grown hg, Nat.le_trans hs hg.size⟩
theorem GS.set {w W : World} {R : Nat} {q : List Value} (h : GS w R q W) (i : Nat) (v : Value) : GS w R (q.set i v) (W.setCell ⟨w.heap.size + 1, i, none⟩ v) := by
 have hr := range_set h.row i v
 rw [Nat.zero_add] at hr
 exact ⟨hr, there_set h.box _ _, there_set h.ans _ _, gb_onR h.grown ((Below.refl w.heap.size W).setCell (p := ⟨w.heap.size + 1, i, none⟩) (by show w.heap.size ≤ w.heap.size + 1; omega) v) (Nat.le_refl _), by have := h.size; simp [World.setCell]; exact this⟩
theorem GS.drew {w W : World} {R : Nat} {q : List Value} (h : GS w R q W) : GS w R q W.drew :=
 ⟨(World.rangeAt_drew _ _ _ _).2 h.row, h.box, h.ans, gb_onR h.grown (Below.refl w.heap.size W).drew (Nat.le_refl _), h.size⟩
theorem GS.tag {w W : World} {R : Nat} {c n : Int} {s : ByteArray} {z t : List Int} (h : GS w R (reqL c n s z) W) (ht : t.length = 16) : GS w R (reqL c n s t) (W.setCells (w.heap.size + 1) 3 (v8 t)) := by
 have e1 : reqL c n s z = [.int .i64 c, .int .i64 n, .string s] ++ v8 z := rfl
 have e2 : reqL c n s t = [.int .i64 c, .int .i64 n, .string s] ++ v8 t := rfl
 have hr := h.row
 rw [e1] at hr
 have h1 := World.rangeAt_setCells_apart (range_left hr) (w.heap.size + 1) 3 (v8 t) (.inr (.inl (by simp)))
 have h2 := World.rangeAt_setCells_same W (w.heap.size + 1) 3 (v8 t) (by rw [v8_length, ht]; exact fun j hj => h.box (3 + j) (by omega) |> fun q => by simpa using q)
 refine ⟨by rw [e2]; exact range_join h1 h2, World.there_setCells h.box _ _ _, World.there_setCells h.ans _ _ _, gb_onR h.grown (below_sets (by omega) _ 3 _ (Below.refl w.heap.size W)) (Nat.le_refl _), by rw [size_sets]; exact h.size⟩
theorem rawS_16 (rest : List Int) (e : Int) : ((rawS rest e 16).1.length = 16 ∨ (rawS rest e 16).1 = []) ∧ ((rawS rest e 16).2.2 = 0 → (rawS rest e 16).1.length = 16) := by
 unfold rawS
 split
 ·rename_i he
  rw [if_neg (by decide)]
  split
  ·exact ⟨.inr rfl, fun h => by cases h⟩
  ·have : (rest.take (16 : Int).toNat).length = 16 := by rw [List.length_take]; show min 16 rest.length = 16; omega
   exact ⟨.inl this, fun _ => this⟩
 ·rename_i he
  exact ⟨.inr rfl, fun h => absurd h he⟩
theorem noReq_copy {w W : World} {R : Nat} {c n : Int} {s : ByteArray} {t : List Int} {a : Option Addr} {cap : Nat} (h : GS w R (reqL c n s zeros16) W) (hrow : RowAt W a t) (ht : t.length = 16 ∨ t = []) :
  ∃ W' z, (Builtin.copy_ #[135, 135] 3 #[.slice (some ⟨w.heap.size + 1, 3, none⟩) 16 16, .slice a t.length cap]).run Tryz.prog W = .ok (goInt t.length) W' ∧ GS w R (reqL c n s z) W' ∧ z.length = 16 ∧ (t.length = 16 → z = t) ∧ Below w.heap.size W W' ∧ W.grownBy W' (some (w.heap.size + 1)) := by
 rcases ht with ht | rfl
 ·rcases hrow.2.2 with rfl | ⟨b, off, rfl, hb, hr⟩
  ·cases ht
  ·refine ⟨W.setCells (w.heap.size + 1) 3 (v8 t), t, ?_, h.tag ht, ht, fun _ => rfl, below_sets (by omega) _ 3 _ (Below.refl _ _), gb_setsR _ _ _ _⟩
   have := run_copy_cells (P := Tryz.prog) W 135 135 3 5 (w.heap.size + 1) 3 16 16 ⟨b, off, none⟩ t.length cap (v8 t) Tryz.underlying135 isz8 (by rw [v8_length, ht]; rfl) (fun j v hv => by rw [Addr.add_mid]; exact hr j v hv) (fun j hj => by rw [v8_length] at hj; have := h.box (3 + j) (by omega); rw [Nat.zero_add] at this; exact this.1) (fun j hj => by rw [v8_length] at hj; have := h.box (3 + j) (by omega); rw [Nat.zero_add] at this; exact this.2) (v8_one _)
   rw [v8_length] at this
   exact this
 ·exact ⟨W, zeros16, run_copy_none (P := Tryz.prog) W 135 135 3 5 _ a 16 16 0 cap Tryz.underlying135 isz8 rfl, h, rfl, fun h => absurd h (by decide), Below.refl _ _, gb_refl _ _⟩
structure GotR where
 c : Int
 n : Int
 s : List Int
 t : List Int
 rest : List Int
 err : Int
def rgetR (rest : List Int) (e : Int) : GotR :=
 let x1 := numS rest e 8
 let x2 := numS x1.2.1 x1.2.2 1099511627776
 let x3 := textS x2.2.1 x2.2.2 64
 let x4 := rawS x3.2.1 x3.2.2 16
 ⟨x1.1, x2.1, x3.1, x4.1, x4.2.1, x4.2.2⟩
def rgetL (g : GotR) : List Value := if g.err = 0 then reqL g.c g.n (strOf g.s) g.t else noReq
set_option maxRecDepth 100000 in
set_option maxHeartbeats 4000000 in
theorem rget_any (R : Nat) (rest : List Int) (e : Int) (w : World) (h : St w R rest e) (hl : rest.length ≤ 40000) :
  Calls Tryz.prog 99 #[.pointer (some ⟨R, 0, none⟩)] w fun en w' => en = .returned (.agg (rgetL (rgetR rest e)).toArray) ∧ St w' R (rgetR rest e).rest (rgetR rest e).err ∧ w.grownBy w' (some R) := by
 have hRw := h.1.1
 obtain ⟨G, hG⟩ : ∃ G, Hid (rgetR rest e = G) := ⟨_, rfl⟩
 rw [hG.out]
 have k0 := hG.out
 unfold rgetR at k0
 simp only at k0
 clear hG
 have l1 := numS_len rest e 8
 have c1 := fun w0 h0 => num_any R rest e 8 w0 h0
 obtain ⟨v1, hv1⟩ : ∃ x, Hid ((numS rest e 8).1 = x) := ⟨_, rfl⟩
 obtain ⟨r1, hr1⟩ : ∃ x, Hid ((numS rest e 8).2.1 = x) := ⟨_, rfl⟩
 obtain ⟨e1, he1⟩ : ∃ x, Hid ((numS rest e 8).2.2 = x) := ⟨_, rfl⟩
 simp only [hv1.out, hr1.out, he1.out] at k0 l1 c1
 have l2 := numS_len r1 e1 1099511627776
 have c2 := fun w0 h0 => num_any R r1 e1 1099511627776 w0 h0
 obtain ⟨v2, hv2⟩ : ∃ x, Hid ((numS r1 e1 1099511627776).1 = x) := ⟨_, rfl⟩
 obtain ⟨r2, hr2⟩ : ∃ x, Hid ((numS r1 e1 1099511627776).2.1 = x) := ⟨_, rfl⟩
 obtain ⟨e2, he2⟩ : ∃ x, Hid ((numS r1 e1 1099511627776).2.2 = x) := ⟨_, rfl⟩
 simp only [hv2.out, hr2.out, he2.out] at k0 l2 c2
 have l3 := textS_len r2 e2 64
 have c3 := fun w0 h0 hp => text_any R r2 e2 64 w0 h0 hp
 obtain ⟨v3, hv3⟩ : ∃ x, Hid ((textS r2 e2 64).1 = x) := ⟨_, rfl⟩
 obtain ⟨r3, hr3⟩ : ∃ x, Hid ((textS r2 e2 64).2.1 = x) := ⟨_, rfl⟩
 obtain ⟨e3, he3⟩ : ∃ x, Hid ((textS r2 e2 64).2.2 = x) := ⟨_, rfl⟩
 simp only [hv3.out, hr3.out, he3.out] at k0 l3 c3
 have f4 := rawS_16 r3 e3
 have c4 := fun w0 h0 => raw_big R r3 e3 16 w0 h0 (by omega)
 obtain ⟨v4, hv4⟩ : ∃ x, Hid ((rawS r3 e3 16).1 = x) := ⟨_, rfl⟩
 obtain ⟨r4, hr4⟩ : ∃ x, Hid ((rawS r3 e3 16).2.1 = x) := ⟨_, rfl⟩
 obtain ⟨e4, he4⟩ : ∃ x, Hid ((rawS r3 e3 16).2.2 = x) := ⟨_, rfl⟩
 simp only [hv4.out, hr4.out, he4.out] at k0 f4 c4
 obtain ⟨hv4l, hv4e⟩ := f4
 have G1 : Hid (rgetL G = if e4 = 0 then reqL v1 v2 (strOf v3) v4 else noReq) := hide (by rw [← k0]; rfl)
 have G2 : Hid (G.rest = r4) := hide (by rw [← k0])
 have G3 : Hid (G.err = e4) := hide (by rw [← k0])
 clear k0 hv1 hr1 he1 hv2 hr2 he2 hv3 hr3 he3 hv4 hr4 he4 l1 l2 l3 hl
 generalize strOf v3 = sv at *
 have hb1 : Below w.heap.size w (w.alloc (.cells noReq.toArray 157)) := (Below.refl _ _).alloc (Nat.le_refl _) _
 have ht1 := there_new w noReq.toArray 157
 have hz1 : (w.alloc (.cells noReq.toArray 157)).heap.size = w.heap.size + 1 := World.size_alloc _ _
 have hb2 : Below (w.alloc (.cells noReq.toArray 157)).heap.size (w.alloc (.cells noReq.toArray 157)) ((w.alloc (.cells noReq.toArray 157)).alloc (.cells noReq.toArray 157)) := (Below.refl _ _).alloc (Nat.le_refl _) _
 have ht2 := there_new (w.alloc (.cells noReq.toArray 157)) noReq.toArray 157
 have hr2 := range_new (w.alloc (.cells noReq.toArray 157)) noReq.toArray 157
 have hz2 : ((w.alloc (.cells noReq.toArray 157)).alloc (.cells noReq.toArray 157)).heap.size = w.heap.size + 2 := by rw [World.size_alloc, hz1]
 rw [hz1] at ht2 hr2
 have hb12 : Below w.heap.size w ((w.alloc (.cells noReq.toArray 157)).alloc (.cells noReq.toArray 157)) := hb1.trans (hb2.mono hb1.size)
 have gs0 : GS w R noReq ((w.alloc (.cells noReq.toArray 157)).alloc (.cells noReq.toArray 157)) := ⟨by simpa using hr2, ht2, there_below ht1 hb2 (by omega), gb_below hb12 _, by omega⟩
 have s0 := h.below hb12
 clear hb1 ht1 hb2 ht2 hr2 hb12 hz1 hz2 h
 go_enter Tryz.func99, Tryz.ntmps99
 go_upto_region 2 with fail
 obtain ⟨w1, hw1⟩ : ∃ w1, (w.alloc (.cells noReq.toArray 157)).alloc (.cells noReq.toArray 157) = w1 := ⟨_, rfl⟩
 rw [hw1] at gs0 s0
 rw [litReq, hw1]
 clear hw1
 try simp only [Act.put]
 have hsz := gs0.size
 go_wp2_with fail
 refine (c1 w1 s0).mono ?_
 rintro en w2 ⟨rfl, s2, g2⟩
 have gs2 := gs0.gb hRw g2
 clear c1 gs0 s0 g2 hsz
 have hq : w2.cell? ⟨w.heap.size + 1, 0, none⟩ = some (.int .i64 0) := gs2.row 0 _ rfl
 have hf : w2.frozen? ⟨w.heap.size + 1, 0, none⟩ = false := (gs2.box 0 (by decide)).2
 have gs3 := gs2.set 0 (.int .i64 v1)
 have s3 := s2.gb (gb_set w2 (w.heap.size + 1) 0 (.int .i64 v1)) (by omega)
 go_wp2_with fail
 obtain ⟨w3, hw3⟩ : ∃ w3, w2.setCell ⟨w.heap.size + 1, 0, none⟩ (.int .i64 v1) = w3 := ⟨_, rfl⟩
 rw [hw3] at gs3 s3 ⊢
 clear hw3 gs2 s2 hq hf
 refine (c2 w3 s3).mono ?_
 rintro en w4 ⟨rfl, s4, g4⟩
 have gs4 := gs3.gb hRw g4
 clear c2 gs3 s3 g4
 have hq : w4.cell? ⟨w.heap.size + 1, 1, none⟩ = some (.int .i64 0) := gs4.row 1 _ rfl
 have hf : w4.frozen? ⟨w.heap.size + 1, 1, none⟩ = false := (gs4.box 1 (by decide)).2
 have gs5 := gs4.set 1 (.int .i64 v2)
 have s5 := s4.gb (gb_set w4 (w.heap.size + 1) 1 (.int .i64 v2)) (by omega)
 go_wp2_with fail
 obtain ⟨w5, hw5⟩ : ∃ w5, w4.setCell ⟨w.heap.size + 1, 1, none⟩ (.int .i64 v2) = w5 := ⟨_, rfl⟩
 rw [hw5] at gs5 s5 ⊢
 clear hw5 gs4 s4 hq hf
 refine (c3 w5 s5 s5.pos).mono ?_
 rintro en w6 ⟨rfl, s6, g6⟩
 have gs6 := gs5.gb hRw g6
 clear c3 gs5 s5 g6
 have hq : w6.cell? ⟨w.heap.size + 1, 2, none⟩ = some (.string ⟨#[]⟩) := gs6.row 2 _ rfl
 have hf : w6.frozen? ⟨w.heap.size + 1, 2, none⟩ = false := (gs6.box 2 (by decide)).2
 have gs7 : GS w R (reqL v1 v2 sv zeros16) (w6.setCell ⟨w.heap.size + 1, 2, none⟩ (.string sv)) := gs6.set 2 (.string sv)
 have s7 := s6.gb (gb_set w6 (w.heap.size + 1) 2 (.string sv)) (by omega)
 go_wp2_with fail
 obtain ⟨w7, hw7⟩ : ∃ w7, w6.setCell ⟨w.heap.size + 1, 2, none⟩ (.string sv) = w7 := ⟨_, rfl⟩
 rw [hw7] at gs7 s7 ⊢
 clear hw7 gs6 s6 hq hf
 obtain ⟨w8, hw8⟩ : ∃ w8, w7.drew = w8 := ⟨_, rfl⟩
 refine hs_begin (S := (fun _ => True)) 5 rfl (by kernel_rfl) ?_
 have gs8 : GS w R (reqL v1 v2 sv zeros16) w8 := by rw [← hw8]; exact gs7.drew
 have s8 : St w8 R r3 e3 := by rw [← hw8]; exact s7.below (Below.refl _ _).drew
 rw [hw8]
 clear hw8 gs7 s7
 have hS : (fun _ => True) w8 := trivial
 refine hs_t 0 13 (?_) rfl (by kernel_rfl) (by kernel_rfl) (by kernel_rfl) (by rfl) ?_ hS rfl ?_
 rotate_left
 ·intro w' hw
  go_simp
  try with_reducible rfl
 simp only [nz]
 refine hs_t 1 14 (.slice (some ⟨w.heap.size + 1, 3, none⟩) 16 16) rfl (by kernel_rfl) (by kernel_rfl) (by kernel_rfl) (by rfl) (fun w' hw => by have hsl := slice_all (P := Tryz.prog) Tryz.underlying30 isz8 (w.heap.size + 1) 3 (by decide) w'; go_simp) hS rfl ?_
 simp only [nz]
 refine hs_t 2 15 (?_) rfl (by kernel_rfl) (by kernel_rfl) (by kernel_rfl) (by rfl) ?_ hS rfl ?_
 rotate_left
 ·intro w' hw
  go_simp
  try with_reducible rfl
 simp only [nz]
 refine hs_call (i := 3) (d := some 16) rfl (by kernel_rfl) (by rfl) (by go_simp; first | done | exact ⟨rfl, rfl⟩ | with_reducible rfl) rfl ?_
 refine (c4 w8 s8).mono ?_
 rintro e' w9 ⟨v9, rfl, m9, s9, g9⟩
 have hS : (fun _ => True) w9 := trivial
 refine ⟨_, rfl, hS, ?_⟩
 simp only [nz]
 have gs9 := gs8.gb hRw g9
 obtain ⟨a9, cap9, rfl, _, _, row9⟩ := m9.rowAt (by unfold maxLen; rcases hv4l with q | q <;> (first | omega | (rw [q]; decide)))
 clear c4 gs8 s8 g9 m9
 obtain ⟨w10, z, hcp, gs10, hz16, hzt, hb10, hg10⟩ := noReq_copy (cap := cap9) gs9 row9 hv4l
 have s10 := s9.gb hg10 (by omega)
 have hS : (fun _ => True) w10 := trivial
 refine hs_run (i := 4) (d := some 17) (v := goInt v4.length) (w' := w10) rfl (by kernel_rfl) (by rfl) (exec_copy rfl rfl rfl hcp) rfl hS ?_
 simp only [nz]
 refine hs_done (by kernel_rfl) ?_
 clear hcp gs9 s9 hb10 hg10 row9
 have ce := err_made R e4 w10 s10.1
 go_wp2_with fail
 refine ce.mono ?_
 rintro en w11 ⟨rfl, hx⟩
 obtain rfl := hx
 clear ce
 have hi := iszN
 have ho := all_oneCell_toArray (reqL_one 0 0 ⟨#[]⟩ zeros16)
 have hszz := gs10.size
 by_cases he : e4 = 0
 ·subst he
  have hzv := hzt (hv4e rfl)
  subst hzv
  have E1 : Hid (rgetL G = reqL v1 v2 sv z) := hide (by rw [G1.out, if_pos rfl])
  have hiq : (Tryz.prog.info? 157).map (·.size) = some (reqL v1 v2 sv z).length := by rw [reqL_length _ _ _ _ hz16]; exact iszR
  have hoq := all_oneCell_toArray (reqL_one v1 v2 sv z)
  have hiq' : (Tryz.prog.info? 157).map (·.size) = some (reqL v1 v2 sv z).toArray.size := by rw [List.size_toArray]; exact hiq
  obtain ⟨q, hq⟩ : ∃ q, Hid (reqL v1 v2 sv z = q) := ⟨_, rfl⟩
  have hql : q.length = 19 := by rw [← hq.out]; exact reqL_length _ _ _ _ hz16
  rw [hq.out] at E1 hiq hoq hiq'
  have hrow : w11.rangeAt (w.heap.size + 1) 0 q := by rw [← hq.out]; exact gs10.row
  have hans : w11.there w.heap.size 0 q.toArray.size := by have := gs10.ans; rw [← hql] at this; exact this
  clear hv4l hv4e hzt
  have hrs := run_loadVar_mid (P := Tryz.prog) (w11.setCells w.heap.size 0 q) w.heap.size 0 157 q _ (World.rangeAt_setCells_same w11 w.heap.size 0 q (by have := hans; simpa using this)) Tryz.underlying157 rfl hiq
  have gf := gb_onR gs10.grown (below_sets (B := w.heap.size) (b := w.heap.size) (Nat.le_refl _) q 0 _ (Below.refl _ w11)) (Nat.le_refl _)
  have sf := s10.gb (gb_setsR w11 w.heap.size q 0) hRw
  clear gs10 s10
  go_wp2_with (first | refine wpList_load_mid (op := ⟨some 22, .load 157 (.tmp 3), _, _, _, none⟩) rfl 157 _ rfl _ _ rfl q _ hrow Tryz.underlying157 rfl hiq ?_ | refine wpList_store_mid (op := ⟨none, .store 157 (.tmp 2) (.tmp 22), _, _, _, none⟩) rfl 157 _ _ rfl _ _ q.toArray rfl rfl hans hiq' hoq ?_)
  refine bodyPost_ret (v := .agg q.toArray) ?_ rfl ?_
  ·simp [results, Tryz.results99, Act.put, asAddr, hrs]
  ·exact ⟨by rw [E1.out], by rw [G2.out, G3.out]; exact sf, gf⟩
 ·have E1 : Hid (rgetL G = noReq) := hide (by rw [G1.out, if_neg he])
  have hnl : noReq.length = 19 := rfl
  have hans : w11.there w.heap.size 0 noReq.toArray.size := gs10.ans
  have hi' : (Tryz.prog.info? 157).map (·.size) = some noReq.length := by simpa using hi
  have hlit := litReq
  obtain ⟨q, hq⟩ : ∃ q, Hid (noReq = q) := ⟨_, rfl⟩
  have ho : (noReq.toArray.all fun x => x.oneCell') = true := ho
  rw [hq.out] at E1 hi ho hnl hans hi' hlit
  have hrs := run_loadVar_mid (P := Tryz.prog) (w11.setCells w.heap.size 0 q) w.heap.size 0 157 q _ (World.rangeAt_setCells_same w11 w.heap.size 0 q (by have := hans; simpa using this)) Tryz.underlying157 rfl hi'
  have gf := gb_onR gs10.grown (below_sets (B := w.heap.size) (b := w.heap.size) (Nat.le_refl _) q 0 _ (Below.refl _ w11)) (Nat.le_refl _)
  have sf := s10.gb (gb_setsR w11 w.heap.size q 0) hRw
  clear gs10 s10 hv4l hv4e hzt
  go_wp2_with (refine wpList_store_mid (op := ⟨none, .store 157 (.tmp 2) (.tmp 21), _, _, _, none⟩) rfl 157 _ _ rfl _ _ q.toArray rfl (by rw [← hlit]; rfl) hans hi ho ?_)
  refine bodyPost_ret (v := .agg q.toArray) ?_ rfl ?_
  ·simp [results, Tryz.results99, Act.put, asAddr, hrs]
  ·exact ⟨by rw [E1.out], by rw [G2.out, G3.out]; exact sf, gf⟩
def noRq : BRq := ⟨0, 0, ⟨#[]⟩, zeros16⟩
def rqOf (g : GotR) : BRq := if g.err = 0 then ⟨g.c, g.n, strOf g.s, g.t⟩ else noRq
theorem rqOf_cells (g : GotR) : rgetL g = (rqOf g).cells := by
 unfold rgetL rqOf
 split
 ·rfl
 ·rfl
def getRs : Nat → List Int → Int → List BRq × List Int × Int
  | 0, rest, e => ([], rest, e)
  | k + 1, rest, e => ((getRs k rest e).1 ++ [rqOf (rgetR (getRs k rest e).2.1 (getRs k rest e).2.2)], (rgetR (getRs k rest e).2.1 (getRs k rest e).2.2).rest, (rgetR (getRs k rest e).2.1 (getRs k rest e).2.2).err)
structure GotB where
 q : Bool
 rs : List BRq
 rest : List Int
 err : Int
def getB (rest : List Int) (e : Int) : GotB :=
 if (numS rest e 5).1 = 0 then ⟨decide ((numS rest e 5).2.2 = 0), [], (numS rest e 5).2.1, (numS rest e 5).2.2⟩
 else ⟨false, if (getRs ((numS rest e 5).1 - 1).toNat (numS rest e 5).2.1 (numS rest e 5).2.2).2.2 = 0 then (getRs ((numS rest e 5).1 - 1).toNat (numS rest e 5).2.1 (numS rest e 5).2.2).1 else [],
  (getRs ((numS rest e 5).1 - 1).toNat (numS rest e 5).2.1 (numS rest e 5).2.2).2.1, (getRs ((numS rest e 5).1 - 1).toNat (numS rest e 5).2.1 (numS rest e 5).2.2).2.2⟩
theorem getRs_length (k : Nat) (rest : List Int) (e : Int) : (getRs k rest e).1.length = k := by
  induction k with
  | zero => rfl
  | succ k ih => simp [getRs, ih]
def Bs (zs : List Int) : Prop := ∀ z ∈ zs, 0 ≤ z ∧ z < 256
theorem numS_sub (rest : List Int) (e most : Int) : ∃ k, (numS rest e most).2.1 = rest.drop k := by
 unfold numS
 split
 ·split
  ·split
   ·exact ⟨0, rfl⟩
   ·exact ⟨_, rfl⟩
  ·exact ⟨0, rfl⟩
 ·exact ⟨0, rfl⟩
theorem textS_sub (rest : List Int) (e most : Int) : ∃ k, (textS rest e most).2.1 = rest.drop k := by
 obtain ⟨k, hk⟩ := numS_sub rest e 9223372036854775807
 unfold textS
 split
 ·split
  ·exact ⟨0, rfl⟩
  ·split
   ·exact ⟨0, rfl⟩
   ·rw [hk]; exact ⟨k + (numS rest e 9223372036854775807).1.toNat, by rw [List.drop_drop]⟩
 ·exact ⟨0, rfl⟩
theorem rawS_sub (rest : List Int) (e n : Int) : ∃ k, (rawS rest e n).2.1 = rest.drop k := by
 unfold rawS
 split
 ·split
  ·exact ⟨0, rfl⟩
  ·split
   ·exact ⟨0, rfl⟩
   ·exact ⟨_, rfl⟩
 ·exact ⟨0, rfl⟩
theorem rgetR_sub (rest : List Int) (e : Int) : ∃ k, (rgetR rest e).rest = rest.drop k := by
 unfold rgetR
 obtain ⟨k1, h1⟩ := numS_sub rest e 8
 obtain ⟨k2, h2⟩ := numS_sub (numS rest e 8).2.1 (numS rest e 8).2.2 1099511627776
 obtain ⟨k3, h3⟩ := textS_sub (numS (numS rest e 8).2.1 (numS rest e 8).2.2 1099511627776).2.1 (numS (numS rest e 8).2.1 (numS rest e 8).2.2 1099511627776).2.2 64
 obtain ⟨k4, h4⟩ := rawS_sub (textS (numS (numS rest e 8).2.1 (numS rest e 8).2.2 1099511627776).2.1 (numS (numS rest e 8).2.1 (numS rest e 8).2.2 1099511627776).2.2 64).2.1 (textS (numS (numS rest e 8).2.1 (numS rest e 8).2.2 1099511627776).2.1 (numS (numS rest e 8).2.1 (numS rest e 8).2.2 1099511627776).2.2 64).2.2 16
 refine ⟨k1 + (k2 + (k3 + k4)), ?_⟩
 show (rawS _ _ 16).2.1 = _
 rw [h4, h3, h2, h1, List.drop_drop, List.drop_drop, List.drop_drop]
theorem Bs.sub {zs : List Int} (h : Bs zs) (k : Nat) : Bs (zs.drop k) := fun z hz => h z (List.mem_of_mem_drop hz)
theorem Bs.subT {zs : List Int} (h : Bs zs) (k : Nat) : Bs (zs.take k) := fun z hz => h z (List.mem_of_mem_take hz)
theorem numS_bd {rest : List Int} {e most : Int} (hb : e = 0 → Bs rest) (h0 : 0 ≤ most) : 0 ≤ (numS rest e most).1 ∧ (numS rest e most).1 ≤ most := by
 unfold numS
 split
 ·rename_i he
  split
  ·split
   ·exact ⟨by simp, h0⟩
   ·rename_i h1
    exact ⟨numR_nonneg rest (hb he), by show (numR rest).1 ≤ most; omega⟩
  ·exact ⟨by simp, h0⟩
 ·exact ⟨by simp, h0⟩
theorem numS_err {rest : List Int} {e most : Int} (h : (numS rest e most).2.2 = 0) : e = 0 := by
 unfold numS at h
 split at h
 ·assumption
 ·rename_i h0; exact absurd h h0
theorem numS_zero {rest : List Int} {e most : Int} (h : (numS rest e most).2.2 ≠ 0) : (numS rest e most).1 = 0 := by
 unfold numS at h ⊢
 split
 ·split
  ·split
   ·rfl
   ·rename_i h1 h2 h3; rw [if_pos h1, if_pos h2, if_neg h3] at h; exact absurd rfl h
  ·rfl
 ·rfl
theorem textS_err {rest : List Int} {e most : Int} (h : (textS rest e most).2.2 = 0) : e = 0 := by
 unfold textS at h
 split at h
 ·rename_i h0; exact numS_err h0
 ·rename_i h0; exact absurd h h0
theorem rawS_err {rest : List Int} {e n : Int} (h : (rawS rest e n).2.2 = 0) : e = 0 := by
 unfold rawS at h
 split at h
 ·assumption
 ·rename_i h0; exact absurd h h0
theorem textS_s {rest : List Int} {e most : Int} (h0 : 0 ≤ most) : ((textS rest e most).1.length : Int) ≤ most := by
 unfold textS
 split
 ·split
  ·simpa using h0
  ·rename_i h1
   split
   ·simpa using h0
   ·show (((numS rest e 9223372036854775807).2.1.take (numS rest e 9223372036854775807).1.toNat).length : Int) ≤ most
    rw [List.length_take]
    omega
 ·simpa using h0
theorem rawS_t {rest : List Int} {e n : Int} (hb : e = 0 → Bs rest) : Bs (rawS rest e n).1 := by
 unfold rawS
 split
 ·rename_i he
  split
  ·intro z hz; simp at hz
  ·split
   ·intro z hz; simp at hz
   ·exact (hb he).subT _
 ·intro z hz; simp at hz
theorem noRq_ok : noRq.ok := ⟨rfl, by intro z hz; simp [noRq, zeros16] at hz; omega, by simp [noRq, maxLen, ByteArray.size], by decide, by decide, by decide, by decide⟩
theorem rqOf_ok {rest : List Int} {e : Int} (hb : e = 0 → Bs rest) : (rqOf (rgetR rest e)).ok := by
 unfold rqOf
 split
 ·rename_i he
  have e4 := rawS_err (show (rawS (textS (numS (numS rest e 8).2.1 (numS rest e 8).2.2 1099511627776).2.1 (numS (numS rest e 8).2.1 (numS rest e 8).2.2 1099511627776).2.2 64).2.1 (textS (numS (numS rest e 8).2.1 (numS rest e 8).2.2 1099511627776).2.1 (numS (numS rest e 8).2.1 (numS rest e 8).2.2 1099511627776).2.2 64).2.2 16).2.2 = 0 from he)
  have e3 := textS_err e4
  have e2 := numS_err e3
  have e1 := numS_err e2
  have b0 := hb e1
  obtain ⟨k1, s1⟩ := numS_sub rest e 8
  have b1 : Bs (numS rest e 8).2.1 := by rw [s1]; exact b0.sub _
  obtain ⟨k2, s2⟩ := numS_sub (numS rest e 8).2.1 (numS rest e 8).2.2 1099511627776
  have b2 : Bs (numS (numS rest e 8).2.1 (numS rest e 8).2.2 1099511627776).2.1 := by rw [s2]; exact b1.sub _
  obtain ⟨k3, s3⟩ := textS_sub (numS (numS rest e 8).2.1 (numS rest e 8).2.2 1099511627776).2.1 (numS (numS rest e 8).2.1 (numS rest e 8).2.2 1099511627776).2.2 64
  have c1 := numS_bd (most := 8) hb (by omega)
  have c2 := numS_bd (rest := (numS rest e 8).2.1) (e := (numS rest e 8).2.2) (most := 1099511627776) (fun _ => b1) (by omega)
  have c3 := textS_s (rest := (numS (numS rest e 8).2.1 (numS rest e 8).2.2 1099511627776).2.1) (e := (numS (numS rest e 8).2.1 (numS rest e 8).2.2 1099511627776).2.2) (most := 64) (by omega)
  refine ⟨(rawS_16 _ _).2 he, rawS_t (fun _ => by rw [s3]; exact b2.sub _), ?_, ?_, ?_, ?_, ?_⟩
  ·show (strOf _).size ≤ maxLen
   rw [strOf_size]
   unfold maxLen
   have c3' : ((rgetR rest e).s.length : Int) ≤ 64 := c3
   omega
  ·show _ ≤ (rgetR rest e).c
   have : 0 ≤ (rgetR rest e).c := c1.1
   omega
  ·show (rgetR rest e).c ≤ _
   have : (rgetR rest e).c ≤ 8 := c1.2
   omega
  ·show _ ≤ (rgetR rest e).n
   have : 0 ≤ (rgetR rest e).n := c2.1
   omega
  ·show (rgetR rest e).n ≤ _
   have : (rgetR rest e).n ≤ 1099511627776 := c2.2
   omega
 ·exact noRq_ok
theorem rgetR_err {rest : List Int} {e : Int} (h : (rgetR rest e).err = 0) : e = 0 := numS_err (numS_err (textS_err (rawS_err h)))
theorem getRs_sub (k : Nat) (rest : List Int) (e : Int) : (∃ j, (getRs k rest e).2.1 = rest.drop j) ∧ ((getRs k rest e).2.2 = 0 → e = 0) := by
  induction k with
  | zero => exact ⟨⟨0, rfl⟩, id⟩
  | succ k ih =>
    obtain ⟨⟨j, hj⟩, h2⟩ := ih
    obtain ⟨i, hi⟩ := rgetR_sub (getRs k rest e).2.1 (getRs k rest e).2.2
    refine ⟨⟨j + i, ?_⟩, fun h => h2 (rgetR_err h)⟩
    show (rgetR (getRs k rest e).2.1 (getRs k rest e).2.2).rest = _
    rw [hi, hj, List.drop_drop]
theorem getRs_ok {rest : List Int} {e : Int} (hb : e = 0 → Bs rest) (k : Nat) : ∀ r ∈ (getRs k rest e).1, r.ok := by
  induction k with
  | zero => intro r hr; simp [getRs] at hr
  | succ k ih =>
    intro r hr
    rcases List.mem_append.1 (show r ∈ (getRs k rest e).1 ++ [rqOf (rgetR (getRs k rest e).2.1 (getRs k rest e).2.2)] from hr) with hr | hr
    · exact ih r hr
    · obtain rfl := List.mem_singleton.1 hr
      obtain ⟨⟨j, hj⟩, h2⟩ := getRs_sub k rest e
      exact rqOf_ok (fun h0 => by rw [hj]; exact (hb (h2 h0)).sub _)
theorem getRs_le (k : Nat) (rest : List Int) (e : Int) : (getRs k rest e).2.1.length ≤ rest.length := by
 obtain ⟨⟨j, hj⟩, _⟩ := getRs_sub k rest e
 rw [hj, List.length_drop]; omega
theorem infoR : (Tryz.prog.info? 157).map (fun i => (i.zero, i.size, i.bytes)) = some (some (.agg noReq.toArray), 19, 48) := by kernel_rfl
theorem own_reqs {w : World} {B : Nat} {v : Value} {rs : List BRq} (h : w.ownsRow B 157 19 v rs.length (flatR rs)) (hok : ∀ r ∈ rs, r.ok) (hm : rs.length ≤ maxLen) :
  ∃ a cap, v = .slice a rs.length cap ∧ rs.length ≤ cap ∧ cap ≤ maxLen ∧ ReqsAt w a rs ∧ ∀ x, a = some x → B ≤ x.block := by
 rcases h.2 with ⟨rfl, h0⟩ | ⟨g, cap, cur, rfl, hb, hg, hn, hcm, hcs, ht⟩
 ·have : rs = [] := List.eq_nil_of_length_eq_zero h0
  subst this
  exact ⟨none, 0, rfl, by simp, by unfold maxLen; omega, ReqsAt.none, fun x hx => by cases hx⟩
 ·refine ⟨_, cap, rfl, hn, hcm, ⟨hm, hok, Or.inr ⟨g, 0, rfl, (Array.getElem?_eq_some_iff.1 hg).1, fun j u hu => ?_⟩⟩, fun x hx => by cases hx; exact hb⟩
  have := h.cells (g := g) rfl j u hu
  rwa [Addr.add_mid] at this
theorem take_set_one {α : Type} (l : List α) (k : Nat) (a : α) (hk : k < l.length) : (l.set k a).take (k + 1) = l.take k ++ [a] := by
 apply List.ext_getElem?
 intro i
 rcases Nat.lt_trichotomy i k with h | h | h
 ·rw [List.getElem?_take_of_lt (by omega), List.getElem?_set_ne (by omega), List.getElem?_append_left (by rw [List.length_take]; omega), List.getElem?_take_of_lt h]
 ·subst h
  rw [List.getElem?_take_of_lt (by omega), List.getElem?_set_self hk, List.getElem?_append_right (by rw [List.length_take]; omega), List.length_take, Nat.min_eq_left (by omega), Nat.sub_self]
  rfl
 ·rw [List.getElem?_eq_none (by rw [List.length_take]; omega), List.getElem?_eq_none (by rw [List.length_append, List.length_take]; simp; omega)]
theorem fold_sets : ∀ (u : List Value) (k : Nat) (arr : Array Value), k + u.length = arr.size → List.foldl (fun (cs : Array Value) (x : Value × Nat) => cs.setIfInBounds x.snd x.fst) arr (u.zipIdx k) = (arr.toList.take k ++ u).toArray
  | [], k, arr, h => by
    simp only [List.length_nil, Nat.add_zero] at h
    rw [List.take_of_length_le (by simp [h])]
    simp
  | a :: u, k, arr, h => by
    simp only [List.length_cons] at h
    rw [List.zipIdx_cons, List.foldl_cons, fold_sets u (k + 1) _ (by simp; omega)]
    congr 1
    show List.take (k + 1) (arr.setIfInBounds k a).toList ++ u = _
    rw [Array.toList_setIfInBounds, take_set_one _ _ _ (by simp; omega), List.append_assoc]
    rfl
theorem fold_u (arr : Array Value) (u : List Value) (h : u.length = arr.size) : List.foldl (fun (cs : Array Value) (x : Value × Nat) => cs.setIfInBounds x.snd x.fst) arr u.zipIdx = u.toArray := by
 have := fold_sets u 0 arr (by omega)
 simpa using this
theorem ref_cell {w W : World} {X R o : Nat} (hg : w.grownBy W (some R)) (hX : X < w.heap.size) (hne : X ≠ R) : W.cell? ⟨X, o, none⟩ = w.cell? ⟨X, o, none⟩ :=
 (@cell_block w W X o (hg.block X hX (by intro q; injection q with q; exact hne q))).1
set_option maxRecDepth 100000 in
set_option maxHeartbeats 2000000 in
theorem get1_any (X R : Nat) (rest : List Int) (e : Int) (w : World) (hc : w.cell? ⟨X, 0, none⟩ = some (.pointer (some ⟨R, 0, none⟩))) (hX : X < w.heap.size) (h : St w R rest e) (hl : rest.length ≤ 40000) (hok : (rqOf (rgetR rest e)).ok) :
  Calls Tryz.prog 98 #[.pointer (some ⟨X, 0, none⟩)] w fun en w' => en = .returned (.agg (rqOf (rgetR rest e)).cells.toArray) ∧ St w' R (rgetR rest e).rest (rgetR rest e).err ∧ w.grownBy w' (some R) := by
 have hRw : R < w.heap.size := h.1.1
 have cg := fun w0 h0 => rget_any R rest e w0 h0 hl
 obtain ⟨G, hG⟩ : ∃ G, Hid (rgetR rest e = G) := ⟨_, hide rfl⟩
 simp only [rqOf_cells, hG.out] at cg
 rw [hG.out] at hok ⊢
 clear hG
 obtain ⟨r, hr⟩ : ∃ r, Hid (rqOf G = r) := ⟨_, hide rfl⟩
 simp only [hr.out] at cg
 rw [hr.out] at hok ⊢
 clear hr
 have hiq := hok.isz
 have hiA := hok.iszA
 have hql := hok.length
 have h1c := all_oneCell_toArray r.one
 have hN := there_new w #[.int .i64 0, .int .i64 0, .string ⟨#[]⟩, .int .u8 0, .int .u8 0, .int .u8 0, .int .u8 0, .int .u8 0, .int .u8 0, .int .u8 0, .int .u8 0, .int .u8 0, .int .u8 0, .int .u8 0, .int .u8 0, .int .u8 0, .int .u8 0, .int .u8 0, .int .u8 0] 157
 have hB1 : Below w.heap.size w (w.alloc (.cells #[.int .i64 0, .int .i64 0, .string ⟨#[]⟩, .int .u8 0, .int .u8 0, .int .u8 0, .int .u8 0, .int .u8 0, .int .u8 0, .int .u8 0, .int .u8 0, .int .u8 0, .int .u8 0, .int .u8 0, .int .u8 0, .int .u8 0, .int .u8 0, .int .u8 0, .int .u8 0] 157)) := (Below.refl _ _).alloc (Nat.le_refl _) _
 have hg1 : w.grownBy (w.alloc (.cells #[.int .i64 0, .int .i64 0, .string ⟨#[]⟩, .int .u8 0, .int .u8 0, .int .u8 0, .int .u8 0, .int .u8 0, .int .u8 0, .int .u8 0, .int .u8 0, .int .u8 0, .int .u8 0, .int .u8 0, .int .u8 0, .int .u8 0, .int .u8 0, .int .u8 0, .int .u8 0] 157)) (some R) := World.grownBy_alloc w _ _
 have hs1 : w.heap.size < (w.alloc (.cells #[.int .i64 0, .int .i64 0, .string ⟨#[]⟩, .int .u8 0, .int .u8 0, .int .u8 0, .int .u8 0, .int .u8 0, .int .u8 0, .int .u8 0, .int .u8 0, .int .u8 0, .int .u8 0, .int .u8 0, .int .u8 0, .int .u8 0, .int .u8 0, .int .u8 0, .int .u8 0] 157)).heap.size := by simp
 have hc1 := (hB1.cell (p := ⟨X, 0, none⟩) hX).trans hc
 have h1 := h.below hB1
 obtain ⟨u, hu⟩ : ∃ u, Hid (r.cells = u) := ⟨_, hide rfl⟩
 rw [hu.out] at hiq hiA hql h1c ⊢
 simp only [hu.out] at cg
 clear hu hok
 go_enter Tryz.func98, Tryz.ntmps98
 go_upto_region 1 with fail
 go_name_world w1 hw1
 rw [hw1] at hN hB1 hg1 hs1 hc1 h1
 clear hw1
 have hN : w1.there w.heap.size 0 19 := hN
 obtain ⟨D, hD⟩ : ∃ D, Hid (w.heap.size = D) := ⟨_, hide rfl⟩
 have hDR : D ≠ R := by rw [← hD.out]; omega
 have hRD : R < D := by rw [← hD.out]; exact hRw
 have hDw : w.heap.size ≤ D := by rw [← hD.out]; omega
 rw [hD.out] at hN hs1 ⊢
 go_wp2_with fail
 refine (cg w1 h1).mono ?_
 rintro en w2 ⟨rfl, h2, hg2⟩
 have hN2 := there_gbR hN hg2 hs1 hDR
 have hT2 : w2.there D 0 u.toArray.size := by
  have e : u.toArray.size = 19 := by rw [List.size_toArray, hql]
  rw [e]; exact hN2
 have hRr := World.rangeAt_setCells_same w2 D 0 u (by rw [hql]; exact hN2)
 have hg3 : w2.grownBy (w2.setCells D 0 u) (some D) := gb_setsR w2 D u 0
 have h3 := h2.gb hg3 hRD
 have hgw := gb_onR (gb_trans hg1 hg2) (below_sets hDw u 0 w2 (Below.refl w.heap.size w2)) (Nat.le_refl _)
 have hrs := run_loadVar_mid (P := Tryz.prog) (w2.setCells D 0 u) D 0 157 u _ hRr Tryz.underlying157 rfl hiq
 clear cg h1 h2 hN hN2 hg1 hg2 hg3 hRr hc1 hB1
 go_wp2_with (refine wpList_store_mid (op := ⟨none, .store 157 (.tmp 1) (.tmp 3), _, _, _, none⟩) rfl 157 _ _ rfl _ _ u.toArray rfl rfl hT2 hiA h1c ?_)
 exact bodyPost_ret (v := .agg u.toArray) (by simp [results, Tryz.results98, asAddr, hrs, Act.put]) rfl ⟨rfl, h3, hgw⟩
theorem ReqsAt.gb1 {w w' : World} {a : Option Addr} {rs : List BRq} {R : Nat} (h : ReqsAt w a rs) (hg : w.grownBy w' (some R)) (hne : ∀ x, a = some x → x.block ≠ R) : ReqsAt w' a rs := by
 refine ⟨h.1, h.2.1, ?_⟩
 rcases h.2.2 with h | ⟨b, off, rfl, h1, h2⟩
 ·exact Or.inl h
 ·refine Or.inr ⟨b, off, rfl, Nat.lt_of_lt_of_le h1 hg.size, fun j v hv => ?_⟩
  rw [(@cell_block w w' b (off + j) (hg.block b h1 (by intro q; injection q with q; exact hne _ rfl q))).1]
  exact h2 j v hv
theorem st_low {w w' : World} {R B : Nat} {rest : List Int} {e : Int} (h : St w R rest e) (hb : Below B w w') (hR : R < B) : St w' R rest e := by
 have key : ∀ b, b < B → w'.heap[b]? = w.heap[b]? := fun b hbb => hb.block b hbb
 obtain ⟨⟨h0, h1, h2, h3, f0, f1, f2⟩, hr⟩ := h
 have cR := fun o => @cell_block w w' R o (key R hR)
 refine ⟨⟨Nat.lt_of_lt_of_le h0 hb.size, by rw [(cR 0).1]; exact h1, by rw [(cR 1).1]; exact h2, by rw [(cR 2).1]; exact h3, by rw [(cR 0).2]; exact f0, by rw [(cR 1).2]; exact f1, by rw [(cR 2).2]; exact f2⟩, fun he => ?_⟩
 obtain ⟨a, cap, g1, g2, g3, g4, g5⟩ := hr he
 refine ⟨a, cap, by rw [(cR 0).1]; exact g1, g2, g3, ⟨g4.1, g4.2.1, ?_⟩, g5⟩
 rcases g4.2.2 with g | ⟨b, off, rfl, g6, g7⟩
 ·exact .inl g
 ·have hbR := g5 _ rfl
  exact .inr ⟨b, off, rfl, Nat.lt_of_lt_of_le g6 hb.size, fun j v hv => by rw [(@cell_block w w' b (off + j) (key b (by simp at hbR; omega))).1]; exact g7 j v hv⟩
structure RL (w : World) (R : Nat) (rest : List Int) (e : Int) (k : Nat) (v : Value) (W : World) : Prop where
 own : W.ownsRow (w.heap.size + 1) 157 19 v k (flatR (getRs k rest e).1)
 st : St W R (getRs k rest e).2.1 (getRs k rest e).2.2
 gb : w.grownBy W (some R)
 res : W.there w.heap.size 0 2
 size : w.heap.size + 1 ≤ W.heap.size
def rdB (rest : List Int) (e : Int) : GotB :=
 if (numS rest e 5).1 = 0 then ⟨true, [], (numS rest e 5).2.1, (numS rest e 5).2.2⟩
 else ⟨false, (getRs ((numS rest e 5).1 - 1).toNat (numS rest e 5).2.1 (numS rest e 5).2.2).1,
  (getRs ((numS rest e 5).1 - 1).toNat (numS rest e 5).2.1 (numS rest e 5).2.2).2.1, (getRs ((numS rest e 5).1 - 1).toNat (numS rest e 5).2.1 (numS rest e 5).2.2).2.2⟩
theorem own19 {w w' : World} {B n : Nat} {v : Value} {xs : List Value} {row : Option Nat} (h : w.ownsRow B 157 19 v n xs) (hg : w.grownBy w' row) (hr : ∀ g, row = some g → g < B) : w'.ownsRow B 157 19 v n xs := by
  refine h.kept hg ?_
  cases hv : v.ownBlock with
  | none => exact .inl rfl
  | some k =>
    right
    intro he
    have h1 := (h.lt k hv).1
    have h2 := hr k he.symm
    omega
set_option maxRecDepth 100000 in
set_option maxHeartbeats 4000000 in
theorem readB_any (X R : Nat) (rest : List Int) (e : Int) (w : World) (hc : w.cell? ⟨X, 0, none⟩ = some (.pointer (some ⟨R, 0, none⟩))) (hX : X < w.heap.size) (hXR : X ≠ R) (h : St w R rest e) (hl : rest.length ≤ 40000) (hbs : e = 0 → Bs rest) :
  Calls Tryz.prog 97 #[.func (.func 60) #[.pointer (some ⟨R, 0, none⟩)] #[], .func (.func 98) #[] #[.pointer (some ⟨X, 0, none⟩)]] w fun en w' => ∃ a cap, en = .returned (batV (rdB rest e).q a (rdB rest e).rs.length cap) ∧ (rdB rest e).rs.length ≤ cap ∧ cap ≤ maxLen ∧ ReqsAt w' a (rdB rest e).rs ∧ (∀ x, a = some x → w.heap.size ≤ x.block) ∧ St w' R (rdB rest e).rest (rdB rest e).err ∧ w.grownBy w' (some R) := by
 have hRw : R < w.heap.size := h.1.1
 obtain ⟨i1, hi1, hiz, his, hib⟩ := info_parts infoR
 have cn := fun w0 h0 => num_any R rest e 5 w0 h0
 have hx1 := numS_bd (most := 5) hbs (by omega)
 obtain ⟨j0, hj0⟩ := numS_sub rest e 5
 have hl2 : (numS rest e 5).2.1.length ≤ 40000 := by rw [hj0, List.length_drop]; omega
 have hbs2 : (numS rest e 5).2.2 = 0 → Bs (numS rest e 5).2.1 := fun h0 => by rw [hj0]; exact (hbs (numS_err h0)).sub _
 obtain ⟨G, hG⟩ : ∃ G, Hid (rdB rest e = G) := ⟨_, hide rfl⟩
 rw [hG.out]
 have hG := hG.out
 unfold rdB at hG
 obtain ⟨x1, hx1e⟩ : ∃ x, Hid ((numS rest e 5).1 = x) := ⟨_, hide rfl⟩
 obtain ⟨x2, hx2e⟩ : ∃ x, Hid ((numS rest e 5).2.1 = x) := ⟨_, hide rfl⟩
 obtain ⟨x3, hx3e⟩ : ∃ x, Hid ((numS rest e 5).2.2 = x) := ⟨_, hide rfl⟩
 simp only [hx1e.out, hx2e.out, hx3e.out] at cn hx1 hl2 hbs2 hG
 clear hx1e hx2e hx3e hj0 hbs hl
 have HG := hide hG
 clear hG
 have hN := there_new w #[.bool false, .slice none 0 0] 97
 have hB1 : Below w.heap.size w (w.alloc (.cells #[.bool false, .slice none 0 0] 97)) := (Below.refl _ _).alloc (Nat.le_refl _) _
 have hg1 : w.grownBy (w.alloc (.cells #[.bool false, .slice none 0 0] 97)) (some R) := World.grownBy_alloc w _ _
 have hs1 : w.heap.size + 1 ≤ (w.alloc (.cells #[.bool false, .slice none 0 0] 97)).heap.size := by simp
 go_enter Tryz.func97, Tryz.ntmps97
 go_upto_region 1 with fail
 go_name_world w1 hw1
 rw [hw1] at hN hB1 hg1 hs1
 clear hw1
 have hN : w1.there w.heap.size 0 2 := hN
 go_wp2_with fail
 refine (cn w1 (h.below hB1)).mono ?_
 rintro en w2 ⟨rfl, h2, hg2⟩
 have hgw2 := gb_trans hg1 hg2
 have hN2 := there_gbR hN hg2 (by omega) (by omega)
 have hs2 := Nat.le_trans hs1 hg2.size
 clear cn hN hB1 hg1 hg2 hs1
 by_cases hx0 : x1 = 0
 ·rw [if_pos hx0] at HG
  subst hx0
  go_wp2_with fail
  refine (none_any w2).mono ?_
  rintro en w3 ⟨rfl, hw3⟩
  have hN3 := there_below hN2 hw3 (by omega)
  have hgw3 := gb_onR hgw2 hw3 hgw2.size
  have h3 := h2.below hw3
  have hRr := World.rangeAt_setCells_same w3 w.heap.size 0 [.bool true, .slice none 0 0] hN3
  have hg4 : w3.grownBy (w3.setCells w.heap.size 0 [.bool true, .slice none 0 0]) (some w.heap.size) := gb_setsR w3 w.heap.size [.bool true, .slice none 0 0] 0
  have h4 := h3.gb hg4 hRw
  have hgw4 := gb_onR hgw3 (below_sets (Nat.le_refl w.heap.size) [.bool true, .slice none 0 0] 0 w3 (Below.refl w.heap.size w3)) (Nat.le_refl _)
  have hrs := run_loadVar_mid (P := Tryz.prog) (w3.setCells w.heap.size 0 [.bool true, .slice none 0 0]) w.heap.size 0 97 [.bool true, .slice none 0 0] _ hRr Tryz.underlying97 rfl iszB
  clear hN2 hgw2 h2 hw3 hgw3 h3 hRr hg4
  unfold batV
  go_wp2_with (refine wpList_store_mid (op := ⟨none, .store 97 (.tmp 4) (.tmp 11), _, _, _, none⟩) rfl 97 _ _ rfl _ _ #[.bool true, .slice none 0 0] rfl rfl hN3 iszB (by simp [Value.oneCell']) ?_)
  refine bodyPost_ret (v := .agg #[.bool true, .slice none 0 0]) (by simp [results, Tryz.results97, asAddr, hrs, Act.put]) rfl ⟨none, 0, ?_⟩
  rw [← HG.out]
  exact ⟨rfl, by simp, by unfold maxLen; omega, ReqsAt.none, (fun x hx => by cases hx), h4, hgw4⟩
 ·rw [if_neg hx0] at HG
  obtain ⟨K, rfl⟩ : ∃ K : Nat, x1 = (K : Int) + 1 := ⟨(x1 - 1).toNat, by omega⟩
  have hK4 : K ≤ 4 := by omega
  have b0 : (((K : Int) + 1) == 0) = false := by simp; omega
  have e3 : ((K : Int) + 1 - 1).toNat = K := by omega
  rw [e3] at HG
  have HB := hide hbs2
  have hwr : IntKind.i64.wrap ((K : Int) + 1 - 1) = (K : Int) := by rw [IntKind.wrap_i64] <;> omega
  clear hx0 hx1 e3 hbs2
  go_wp2_with (first
   | refine wpList_make_own _ rfl _ _ 95 rfl (w.heap.size + 1) 157 i1 (.agg noReq.toArray) 19 Tryz.underlying95 hi1 hiz his .i64 .i64 _ K rfl rfl ?d1 ?d2 ?d3 ?d4 ?_)
  case d1 => omega
  case d2 => rw [hib]; omega
  case d3 => unfold maxLen; omega
  case d4 => exact hs2
  intro w3 hown3 hgrow3
  have hb3 : Below w2.heap.size w2 w3 := (Below.refl _ _).grown hgrow3 (Nat.le_refl _) (fun k hk => by cases hk)
  have HL0 : Hid (RL w R x2 x3 0 (.slice (some ⟨w2.heap.size, 0, none⟩) 0 K) w3) := hide ⟨by simpa [getRs, flatR] using hown3, h2.below hb3, gb_onR hgw2 hb3 hgw2.size, there_below hN2 hb3 (by omega), Nat.le_trans hs2 hb3.size⟩
  clear hown3 hgrow3 hb3 h2 hgw2 hN2 hs2
  go_wp2
  go_loopw [6, 17] (fun ov iv wr => ∃ k : Nat, k ≤ K ∧ iv = .int .i64 (k : Int) ∧ Hid (RL w R x2 x3 k ov wr)) (fun _ iv _ => K - (intOf iv).toNat)
  case atStart => exact ⟨0, by omega, rfl, HL0⟩
  case round =>
   clear HL0
   obtain ⟨k, hk, rfl, HL⟩ := hrel
   by_cases hlt : k < K
   ·have k1 : (k : Int) < K := by omega
    have hcx := (ref_cell (o := 0) HL.out.gb hX hXR).trans hc
    have hXr : X < wr.heap.size := Nat.lt_of_lt_of_le hX HL.out.gb.size
    have hle := Nat.le_trans (getRs_le k x2 x3) hl2
    obtain ⟨⟨j, hj⟩, hje⟩ := getRs_sub k x2 x3
    have hok := rqOf_ok (rest := (getRs k x2 x3).2.1) (e := (getRs k x2 x3).2.2) (fun h0 => by rw [hj]; exact (HB.out (hje h0)).sub _)
    have cg := get1_any X R _ _ wr hcx hXr HL.out.st hle hok
    have HS : Hid (flatR (getRs (k + 1) x2 x3).1 = flatR (getRs k x2 x3).1 ++ (rqOf (rgetR (getRs k x2 x3).2.1 (getRs k x2 x3).2.2)).cells) := hide (by
     show flatR ((getRs k x2 x3).1 ++ [rqOf (rgetR (getRs k x2 x3).2.1 (getRs k x2 x3).2.2)]) = _
     rw [flatR_append]
     simp [flatR])
    have HT : Hid ((getRs (k + 1) x2 x3).2 = ((rgetR (getRs k x2 x3).2.1 (getRs k x2 x3).2.2).rest, (rgetR (getRs k x2 x3).2.1 (getRs k x2 x3).2.2).err)) := hide rfl
    obtain ⟨g, hg⟩ : ∃ g, Hid (rgetR (getRs k x2 x3).2.1 (getRs k x2 x3).2.2 = g) := ⟨_, hide rfl⟩
    rw [hg.out] at cg hok HS HT
    obtain ⟨r, hr⟩ : ∃ r, Hid (rqOf g = r) := ⟨_, hide rfl⟩
    rw [hr.out] at cg hok HS
    have hul := hok.length
    have hone := r.one
    obtain ⟨u, hu⟩ : ∃ u, Hid (r.cells = u) := ⟨_, hide rfl⟩
    rw [hu.out] at cg HS hul hone
    obtain ⟨xs, hxs⟩ : ∃ xs, Hid (flatR (getRs k x2 x3).1 = xs) := ⟨_, hide rfl⟩
    have hown := HL.out.own
    rw [hxs.out] at HS hown
    have HO := hide hown
    clear hg hr hu hok hj hje hle hcx hXr hown hxs
    go_wp2_with fail
    refine cg.mono ?_
    rintro en w4 ⟨rfl, h4, hg4⟩
    have hgw4 := gb_trans HL.out.gb hg4
    have hN4 := there_gbR HL.out.res hg4 (by have := HL.out.size; omega) (by omega)
    have hs4 := Nat.le_trans HL.out.size hg4.size
    have HO4 := hide (own19 HO.out hg4 (fun g hh => by cases hh; omega))
    clear cg hg4 HO
    have hb5 : Below w4.heap.size w4 (w4.alloc (.cells u.toArray 157)) := (Below.refl _ _).alloc (Nat.le_refl _) _
    have hR5 : (w4.alloc (.cells u.toArray 157)).rangeAt w4.heap.size 0 u := by simpa using range_new w4 u.toArray 157
    have hsrc : Src Tryz.prog 19 95 (.slice (some ⟨w4.heap.size, 0, none⟩) 1 1) 1 u (w4.alloc (.cells u.toArray 157)) :=
     Src.ofSlice _ Tryz.underlying95 ⟨w4.heap.size, 0, none⟩ 1 1 u (by omega) (fun j v hv => by rw [Addr.add_mid]; exact hR5 j v hv) hone
    have hown5 := HO4.out.alloc (.cells u.toArray 157)
    have HL5 := hide hown5
    have hfold := fold_u #[.int .i64 0, .int .i64 0, .string ⟨#[]⟩, .int .u8 0, .int .u8 0, .int .u8 0, .int .u8 0, .int .u8 0, .int .u8 0, .int .u8 0, .int .u8 0, .int .u8 0, .int .u8 0, .int .u8 0, .int .u8 0, .int .u8 0, .int .u8 0, .int .u8 0, .int .u8 0] u (by rw [hul]; rfl)
    go_wp2_with (at_builtin; refine wpList_append_own_src _ rfl _ _ 95 95 rfl (w.heap.size + 1) 157 i1 (.agg noReq.toArray) 19 48 Tryz.underlying95 hi1 hiz his hib rfl _ k xs rfl hown5 (.slice (some ⟨w4.heap.size, 0, none⟩) 1 1) 1 u rfl hsrc ?c1 ?c2 ?c3 ?_)
    case c1 => unfold maxLen; omega
    case c2 => omega
    case c3 => exact Nat.le_trans hs4 hb5.size
    intro v6 w6 hown6 hgrow6
    have hb6 : Below (w.heap.size + 1) w4 w6 := (hb5.mono hs4).grown hgrow6 (Nat.le_trans hs4 hb5.size) (fun k hk => (HL5.out.lt k hk).1)
    have HL6 : Hid (RL w R x2 x3 (k + 1) v6 w6) := hide ⟨by rw [HS.out]; exact hown6, by rw [HT.out]; exact st_low h4 hb6 (by omega), gb_onR hgw4 hb6 (by omega), there_below hN4 hb6 (by omega), Nat.le_trans hs4 hb6.size⟩
    clear hown5 hown6 hgrow6 hsrc hR5 hb5 HL5 HO4
    go_wp2
    go_roundw
    case rel => exact ⟨k + 1, by omega, by go_num, HL6⟩
    case measure => simp [intOf]; omega
   ·obtain rfl : k = K := by omega
    have HA := hide (getRs_ok (rest := x2) (e := x3) HB.out k)
    have HLen := hide (getRs_length k x2 x3)
    have hown := HL.out.own
    obtain ⟨aa, capp, rfl, hc1, hc2, hrow, hlo⟩ := own_reqs (rs := (getRs k x2 x3).1) (by rw [HLen.out]; exact hown) HA.out (by rw [HLen.out]; unfold maxLen; omega)
    rw [HLen.out] at hc1 ⊢
    have hN3 := HL.out.res
    have hRr := World.rangeAt_setCells_same wr w.heap.size 0 [.bool false, .slice aa k capp] hN3
    have hg4 : wr.grownBy (wr.setCells w.heap.size 0 [.bool false, .slice aa k capp]) (some w.heap.size) := gb_setsR wr w.heap.size _ 0
    have h4 := HL.out.st.gb hg4 hRw
    have hbl : Below w.heap.size wr (wr.setCells w.heap.size 0 [.bool false, .slice aa k capp]) := below_sets (Nat.le_refl w.heap.size) _ 0 wr (Below.refl w.heap.size wr)
    have hgw4 := gb_onR HL.out.gb hbl (Nat.le_refl _)
    have hrow4 : ReqsAt (wr.setCells w.heap.size 0 [.bool false, .slice aa k capp]) aa (getRs k x2 x3).1 := hrow.gb1 hg4 (fun x hx => by have := hlo x hx; omega)
    have hrs := run_loadVar_mid (P := Tryz.prog) (wr.setCells w.heap.size 0 [.bool false, .slice aa k capp]) w.heap.size 0 97 [.bool false, .slice aa k capp] _ hRr Tryz.underlying97 rfl iszB
    have HF : Hid ((∃ a cap, Ending.returned (.agg #[.bool false, .slice aa k capp]) = .returned (batV G.q a G.rs.length cap) ∧ G.rs.length ≤ cap ∧ cap ≤ maxLen ∧ ReqsAt (wr.setCells w.heap.size 0 [.bool false, .slice aa k capp]) a G.rs ∧ (∀ x, a = some x → w.heap.size ≤ x.block) ∧ St (wr.setCells w.heap.size 0 [.bool false, .slice aa k capp]) R G.rest G.err ∧ w.grownBy (wr.setCells w.heap.size 0 [.bool false, .slice aa k capp]) (some R))) := hide (by
     rw [← HG.out]
     refine ⟨aa, capp, ?_, ?_, hc2, hrow4, fun x hx => by have := hlo x hx; omega, h4, hgw4⟩
     ·simp only [HLen.out]; rfl
     ·simp only [HLen.out]; exact hc1)
    clear HG HL hrow hrow4 h4 hgw4 hg4 hRr hbl HA hown hlo
    go_wp2_with (refine wpList_store_mid (op := ⟨none, .store 97 (.tmp 4) (.tmp 26), _, _, _, none⟩) rfl 97 _ _ rfl _ _ #[.bool false, .slice aa k capp] rfl rfl hN3 iszB (by simp [Value.oneCell']) ?_)
    exact bodyPost_ret (v := .agg #[.bool false, .slice aa k capp]) (by simp [results, Tryz.results97, asAddr, hrs, Act.put]) rfl HF.out
theorem getB_good {rest : List Int} {e : Int} (h : (rdB rest e).err = 0) : getB rest e = rdB rest e := by
 unfold rdB at h ⊢
 unfold getB
 split
 ·rename_i h0
  rw [if_pos h0] at h
  simp only at h
  rw [h]
  rfl
 ·rename_i h0
  rw [if_neg h0] at h
  simp only at h
  rw [h, if_pos rfl]
theorem getB_bad {rest : List Int} {e : Int} (h : (rdB rest e).err ≠ 0) : getB rest e = ⟨false, [], (rdB rest e).rest, (rdB rest e).err⟩ := by
 unfold rdB at h ⊢
 unfold getB
 split
 ·rename_i h0
  rw [if_pos h0] at h
  simp only at h
  rw [decide_eq_false h]
 ·rename_i h0
  rw [if_neg h0] at h
  simp only at h
  rw [if_neg h]
set_option maxRecDepth 100000 in
set_option maxHeartbeats 4000000 in
theorem bget_any (R : Nat) (rest : List Int) (e : Int) (w : World) (h : St w R rest e) (hl : rest.length ≤ 40000) (hbs : e = 0 → Bs rest) :
  Calls Tryz.prog 61 #[.pointer (some ⟨R, 0, none⟩)] w fun en w' => ∃ a cap, en = .returned (batV (getB rest e).q a (getB rest e).rs.length cap) ∧ (getB rest e).rs.length ≤ cap ∧ cap ≤ maxLen ∧ ReqsAt w' a (getB rest e).rs ∧ (∀ x, a = some x → w.heap.size ≤ x.block) ∧ St w' R (getB rest e).rest (getB rest e).err ∧ w.grownBy w' (some R) := by
 have hRw : R < w.heap.size := h.1.1
 have cr := fun X w0 hc hX hXR h0 => readB_any X R rest e w0 hc hX hXR h0 hl hbs
 obtain ⟨G, hG⟩ : ∃ G, Hid (getB rest e = G) := ⟨_, hide rfl⟩
 rw [hG.out]
 have HG1 : Hid ((rdB rest e).err = 0 → G = rdB rest e) := hide (fun hh => by rw [← hG.out]; exact getB_good hh)
 have HG2 : Hid ((rdB rest e).err ≠ 0 → G = ⟨false, [], (rdB rest e).rest, (rdB rest e).err⟩) := hide (fun hh => by rw [← hG.out]; exact getB_bad hh)
 obtain ⟨F, hF⟩ : ∃ F, Hid (rdB rest e = F) := ⟨_, hide rfl⟩
 rw [hF.out] at HG1 HG2
 simp only [hF.out] at cr
 clear hF hG
 obtain ⟨q, rs, rest', err⟩ := F
 simp only at cr HG1 HG2
 unfold batV at cr
 have hB1 : Below w.heap.size w ((w.alloc (.cells #[.pointer (some ⟨R, 0, none⟩)] 142)).alloc (.cells #[.bool false, .slice none 0 0] 97)) := ((Below.refl _ _).alloc (Nat.le_refl _) _).alloc (by simp) _
 have hN1 := there_new (w.alloc (.cells #[.pointer (some ⟨R, 0, none⟩)] 142)) #[.bool false, .slice none 0 0] 97
 have hc1 : ((w.alloc (.cells #[.pointer (some ⟨R, 0, none⟩)] 142)).alloc (.cells #[.bool false, .slice none 0 0] 97)).cell? ⟨w.heap.size, 0, none⟩ = some (.pointer (some ⟨R, 0, none⟩)) :=
  World.rangeAt_alloc (range_new w #[.pointer (some ⟨R, 0, none⟩)] 142) _ 0 _ rfl
 have hg1 : w.grownBy ((w.alloc (.cells #[.pointer (some ⟨R, 0, none⟩)] 142)).alloc (.cells #[.bool false, .slice none 0 0] 97)) (some R) := gb_trans (World.grownBy_alloc w _ _) (World.grownBy_alloc _ _ _)
 have hs1 : w.heap.size + 2 ≤ ((w.alloc (.cells #[.pointer (some ⟨R, 0, none⟩)] 142)).alloc (.cells #[.bool false, .slice none 0 0] 97)).heap.size := by simp
 rw [World.size_alloc] at hN1
 go_enter Tryz.func61, Tryz.ntmps61
 go_upto_region 1 with fail
 go_name_world w1 hw1
 rw [hw1] at hB1 hN1 hc1 hg1 hs1
 clear hw1
 have hN1 : w1.there (w.heap.size + 1) 0 2 := hN1
 obtain ⟨X, hX⟩ : ∃ X, Hid (w.heap.size = X) := ⟨_, hide rfl⟩
 obtain ⟨Y, hY⟩ : ∃ Y, Hid (w.heap.size + 1 = Y) := ⟨_, hide rfl⟩
 have hXY : X < Y := by rw [← hX.out, ← hY.out]; omega
 have hRX : R < X := by rw [← hX.out]; exact hRw
 have hwX : w.heap.size ≤ X := by rw [← hX.out]; omega
 have hYs : Y < w1.heap.size := by rw [← hY.out]; omega
 rw [hY.out] at hN1 ⊢
 rw [hX.out] at hc1 ⊢
 have cr1 := cr X w1 hc1 (by omega) (by omega) (h.below hB1)
 clear cr
 go_wp2_with fail
 refine cr1.mono ?_
 rintro en w2 ⟨a, cap, rfl, hc2, hm2, hrow2, hlo2, h2, hg2⟩
 have hc2' := (ref_cell (o := 0) hg2 (by omega) (by omega)).trans hc1
 have hN2 := there_gbR hN1 hg2 hYs (by omega)
 have hgw2 := gb_trans hg1 hg2
 have hs2 := Nat.le_trans (Nat.succ_le_of_lt hYs) hg2.size
 have F := fresh_store w2 #[.bool false, .slice none 0 0] 97 [.bool q, .slice a rs.length cap] rfl
 have hNz : (w2.alloc (.cells #[.bool false, .slice none 0 0] 97)).there w2.heap.size 0 2 := there_new w2 #[.bool false, .slice none 0 0] 97
 clear cr1 hB1 hN1 hc1 hg1
 go_upto_region 2 with (refine wpList_store_mid (op := ⟨none, .store 97 (.tmp 3) (.tmp 7), _, _, _, none⟩) rfl 97 _ _ rfl _ _ #[.bool q, .slice a rs.length cap] rfl rfl hNz iszB (by simp [Value.oneCell']) ?_)
 go_name_world w3 hw3
 rw [show (w2.alloc (.cells #[.bool false, .slice none 0 0] 97)).setCells w2.heap.size 0 [.bool q, .slice a rs.length cap] = w3 from hw3] at F
 clear hw3 hNz
 obtain ⟨hR3, hF3, hz3, _⟩ := F
 have h3 := h2.below hF3
 have hc3 := (hF3.cell (p := ⟨X, 0, none⟩) (by show X < w2.heap.size; omega)).trans hc2'
 have hN3 := there_below hN2 hF3 (by omega)
 have hgw3 := gb_onR hgw2 hF3 hgw2.size
 have hrow3 := hrow2.below hF3
 have hz3' : w2.heap.size < w3.heap.size := by omega
 obtain ⟨Z, hZ⟩ : ∃ Z, Hid (w2.heap.size = Z) := ⟨_, hide rfl⟩
 have hYZ : Y < Z := by rw [← hZ.out]; omega
 rw [hZ.out] at hR3 hz3' ⊢
 clear hrow2 h2 hg2 hc2' hN2 hgw2 hF3 hz3
 try simp only [Act.put]
 go_wp2_with fail
 refine (err_made R err w3 h3.1).mono ?_
 rintro en w4 ⟨rfl, hx⟩
 obtain rfl := hx.symm
 clear hx
 by_cases he : err = 0
 ·have b0 : (err == 0) = true := by simpa using he
  have hGe := HG1.out he
  clear HG1 HG2 he
  have hRr := World.rangeAt_setCells_same w3 Y 0 [.bool q, .slice a rs.length cap] hN3
  have hg5 : w3.grownBy (w3.setCells Y 0 [.bool q, .slice a rs.length cap]) (some Y) := gb_setsR w3 Y _ 0
  have h5 := h3.gb hg5 (by omega)
  have hgw5 := gb_onR hgw3 (below_sets (show w.heap.size ≤ Y by omega) [.bool q, .slice a rs.length cap] 0 w3 (Below.refl w.heap.size w3)) (Nat.le_refl _)
  have hrow5 := hrow3.gb1 hg5 (fun x hx => by have := hlo2 x hx; omega)
  have hrs := run_loadVar_mid (P := Tryz.prog) (w3.setCells Y 0 [.bool q, .slice a rs.length cap]) Y 0 97 [.bool q, .slice a rs.length cap] _ hRr Tryz.underlying97 rfl iszB
  have HF : Hid (∃ a' cap', Ending.returned (.agg #[.bool q, .slice a rs.length cap]) = .returned (batV G.q a' G.rs.length cap') ∧ G.rs.length ≤ cap' ∧ cap' ≤ maxLen ∧ ReqsAt (w3.setCells Y 0 [.bool q, .slice a rs.length cap]) a' G.rs ∧ (∀ x, a' = some x → w.heap.size ≤ x.block) ∧ St (w3.setCells Y 0 [.bool q, .slice a rs.length cap]) R G.rest G.err ∧ w.grownBy (w3.setCells Y 0 [.bool q, .slice a rs.length cap]) (some R)) := hide (by
   rw [hGe]
   exact ⟨a, cap, rfl, hc2, hm2, hrow5, fun x hx => by have := hlo2 x hx; omega, h5, hgw5⟩)
  clear hGe hrow3 hrow5 h3 h5 hgw3 hgw5 hg5 hRr hlo2 hc3
  go_upto_region 4 with fail
  try simp only [Act.put]
  refine wp_region_list ?_
  refine wpList_load_mid rfl 97 _ rfl _ _ rfl [.bool q, .slice a rs.length cap] _ hR3 Tryz.underlying97 rfl iszB ?_
  refine wpList_store_mid rfl 97 _ _ rfl _ _ #[.bool q, .slice a rs.length cap] rfl rfl hN3 iszB (by simp [Value.oneCell']) ?_
  go_wp2
  exact bodyPost_ret (v := .agg #[.bool q, .slice a rs.length cap]) (by simp [results, Tryz.results61, asAddr, hrs, Act.put]) rfl HF.out
 ·have b0 : (err == 0) = false := by simpa using he
  have hGe := HG2.out he
  clear HG1 HG2 he
  have hRr := World.rangeAt_setCells_same w3 Y 0 [.bool false, .slice none 0 0] hN3
  have hg5 : w3.grownBy (w3.setCells Y 0 [.bool false, .slice none 0 0]) (some Y) := gb_setsR w3 Y _ 0
  have h5 := h3.gb hg5 (by omega)
  have hgw5 := gb_onR hgw3 (below_sets (show w.heap.size ≤ Y by omega) [.bool false, .slice none 0 0] 0 w3 (Below.refl w.heap.size w3)) (Nat.le_refl _)
  have hrs := run_loadVar_mid (P := Tryz.prog) (w3.setCells Y 0 [.bool false, .slice none 0 0]) Y 0 97 [.bool false, .slice none 0 0] _ hRr Tryz.underlying97 rfl iszB
  have HF : Hid (∃ a' cap', Ending.returned (.agg #[.bool false, .slice none 0 0]) = .returned (batV G.q a' G.rs.length cap') ∧ G.rs.length ≤ cap' ∧ cap' ≤ maxLen ∧ ReqsAt (w3.setCells Y 0 [.bool false, .slice none 0 0]) a' G.rs ∧ (∀ x, a' = some x → w.heap.size ≤ x.block) ∧ St (w3.setCells Y 0 [.bool false, .slice none 0 0]) R G.rest G.err ∧ w.grownBy (w3.setCells Y 0 [.bool false, .slice none 0 0]) (some R)) := hide (by
   rw [hGe]
   exact ⟨none, 0, rfl, by simp, by unfold maxLen; omega, ReqsAt.none, (fun x hx => by cases hx), h5, hgw5⟩)
  clear hGe hrow3 h3 h5 hgw3 hgw5 hg5 hRr hlo2 hc3
  go_upto_region 3 with fail
  try simp only [Act.put]
  refine wp_region_list ?_
  refine wpList_step fun K hK => ?_
  go_simp
  refine hK _ _ ?_
  clear hK K
  refine wpList_store_mid rfl 97 _ _ rfl _ _ #[.bool false, .slice none 0 0] rfl rfl hN3 iszB (by simp [Value.oneCell']) ?_
  go_wp2
  exact bodyPost_ret (v := .agg #[.bool false, .slice none 0 0]) (by simp [results, Tryz.results61, asAddr, hrs, Act.put]) rfl HF.out
abbrev Rst := List Int × Int × Bool
def itG {α : Type} (one : Rst → α × Rst) (s : Rst) : Nat → List α × Rst
  | 0 => ([], s)
  | k + 1 => ((itG one s k).1 ++ [(one (itG one s k).2).1], (one (itG one s k).2).2)
theorem itG_length {α : Type} (one : Rst → α × Rst) (s : Rst) (k : Nat) : (itG one s k).1.length = k := by
  induction k with
  | zero => rfl
  | succ k ih => simp [itG, ih]
theorem itG_len {α : Type} {one : Rst → α × Rst} (h : ∀ s, (one s).2.1.length ≤ s.1.length) (s : Rst) (k : Nat) : (itG one s k).2.1.length ≤ s.1.length := by
  induction k with
  | zero => exact Nat.le_refl _
  | succ k ih => exact Nat.le_trans (h _) ih
def nuS (most : Int) (s : Rst) : Int × Rst := ((numS s.1 s.2.1 most).1, (numS s.1 s.2.1 most).2.1, (numS s.1 s.2.1 most).2.2, s.2.2)
def siS (s : Rst) : Sg × Rst := ((sgS s.1 s.2.1).1, (sgS s.1 s.2.1).2.1, (sgS s.1 s.2.1).2.2, s.2.2)
def enS (s : Rst) : Ev × Rst := ((evS s.1 s.2.1).1, (evS s.1 s.2.1).2.1, (evS s.1 s.2.1).2.2, s.2.2)
def voS (s : Rst) : Vt × Rst := ((vtS s.1 s.2.1).1, (vtS s.1 s.2.1).2.1, (vtS s.1 s.2.1).2.2, kdZ s.1 s.2.1 2 s.2.2)
def lsS {α : Type} (most : Int) (one : Rst → α × Rst) (s : Rst) : List α × Rst := itG one (nuS most s).2 (nuS most s).1.toNat
theorem nuS_len (most : Int) (s : Rst) : (nuS most s).2.1.length ≤ s.1.length := numS_len _ _ _
theorem siS_len (s : Rst) : (siS s).2.1.length ≤ s.1.length := sgS_len _ _
theorem enS_len (s : Rst) : (enS s).2.1.length ≤ s.1.length := evS_len _ _
theorem voS_len (s : Rst) : (voS s).2.1.length ≤ s.1.length := vtS_len _ _
theorem lsS_len {α : Type} {one : Rst → α × Rst} (h : ∀ s, (one s).2.1.length ≤ s.1.length) (most : Int) (s : Rst) : (lsS most one s).2.1.length ≤ s.1.length := Nat.le_trans (itG_len h _ _) (nuS_len _ _)
structure RS (w : World) (Q R : Nat) (s : Rst) : Prop where
 st : St w R s.1 s.2.1
 mr : MrAt w Q R s.2.2
 qt : w.there Q 0 2
theorem St.bs {w : World} {R : Nat} {rest : List Int} {e : Int} (h : St w R rest e) : e = 0 → Bs rest := fun he => by
 obtain ⟨a, cap, g1, g2, g3, g4, g5⟩ := h.2 he
 exact g4.2.1
theorem RS.gb {w w' : World} {Q R : Nat} {s : Rst} {r : List Int} {e : Int} (h : RS w Q R s) (hg : w.grownBy w' (some R)) (hs : St w' R r e) : RS w' Q R (r, e, s.2.2) :=
 ⟨hs, h.mr.gb hg, there_gbR h.qt hg h.mr.lt (by have := h.mr.ne; omega)⟩
theorem RS.low {w w' : World} {Q R n : Nat} {s : Rst} (h : RS w Q R s) (hb : Below n w w') (hQ : Q < n) : RS w' Q R s :=
 ⟨h.st.belowN hb (Nat.lt_trans h.mr.ne hQ), h.mr.at (hb.block Q hQ) hb.size, there_blk h.qt (hb.block Q hQ)⟩
theorem RS.below {w w' : World} {Q R : Nat} {s : Rst} (h : RS w Q R s) (hb : Below w.heap.size w w') : RS w' Q R s := h.low hb h.mr.lt
theorem Kept.low {w W W' : World} {R Q n : Nat} (h : Kept w R Q W) (hb : Below n W W') (hn : w.heap.size ≤ n) : Kept w R Q W' :=
 ⟨hb.os.trans h.os, hb.tape.trans h.tape, hb.output.trans h.output, Nat.le_trans h.size hb.size, fun i hi k1 k2 => (hb.block i (by omega)).trans (h.block i hi k1 k2)⟩
theorem own_kept {w w' : World} {B k n : Nat} {t : TypeId} {v : Value} {xs : List Value} {R Q : Nat} (h : w.ownsRow B t k v n xs) (hk : Kept w R Q w') (hR : R < B) (hQ : Q < B) : w'.ownsRow B t k v n xs := by
 refine ⟨h.1, ?_⟩
 rcases h.2 with hn | ⟨g, cap, cur, rfl, hb, hgg, rest⟩
 ·exact .inl hn
 ·refine .inr ⟨g, cap, cur, rfl, hb, ?_, rest⟩
  rw [hk.block g (Array.getElem?_eq_some_iff.1 hgg).1 (by omega) (by omega)]
  exact hgg
theorem own_low {B : Nat} {w w1 w2 : World} {v : Value} {n k : Nat} {t : TypeId} {xs : List Value} (hb : Below B w w1) (hB : B ≤ w1.heap.size) (ho : w1.ownsRow B t k v n xs) (hg : w1.grownBy w2 v.ownBlock) : Below B w w2 :=
 hb.grown hg hB (fun k hk => (ho.lt k hk).1)
def Sl.Bk {α : Type} (x : Sl α) (P : Nat → Prop) : Prop := ∀ b, x.xs ≠ [] → x.a = some b → P b.block
theorem Sl.Bk.mono {α : Type} {x : Sl α} {P P' : Nat → Prop} (h : x.Bk P) (hp : ∀ b, P b → P' b) : x.Bk P' := fun b h1 h2 => hp _ (h b h1 h2)
theorem Sl.At.on {α : Type} {E : El α} {w w' : World} {x : Sl α} {P : Nat → Prop} (h : x.At E w) (hs : w.heap.size ≤ w'.heap.size) (hb : x.Bk P) (hp : ∀ b, P b → b < w.heap.size → w'.heap[b]? = w.heap[b]?) : x.At E w' := by
 refine ⟨h.1, h.2.1, ?_⟩
 by_cases h0 : x.xs = []
 ·exact .inl h0
 ·rcases h.2.2 with q | ⟨b, off, e, h1, h2⟩
  ·exact .inl q
  ·exact .inr ⟨b, off, e, Nat.lt_of_lt_of_le h1 hs, range_blk h2 (hp _ (hb _ h0 e) h1)⟩
theorem Sl.At.kept {α : Type} {E : El α} {w w' : World} {R Q n : Nat} {x : Sl α} {P : Nat → Prop} (h : x.At E w) (k : Kept w R Q w') (hR : R < n) (hQ : Q < n) (hb : x.Bk P) (hp : ∀ b, P b → n ≤ b) : x.At E w' :=
 h.on k.size hb (fun b hP hlt => k.block b hlt (by have := hp b hP; omega) (by have := hp b hP; omega))
theorem own_rows {α : Type} {E : El α} {w : World} {B : Nat} {t : TypeId} {v : Value} {ys : List α} (h : w.ownsRow B t E.k v ys.length (ys.flatMap E.f)) (hok : ∀ y ∈ ys, E.ok y) (hm : ys.length ≤ maxLen) :
  ∃ x : Sl α, v = x.val ∧ x.xs = ys ∧ x.At E w ∧ (∀ b, x.a = some b → B ≤ b.block ∧ b.block < w.heap.size ∧ v.ownBlock = some b.block) := by
 rcases h.2 with ⟨rfl, h0⟩ | ⟨g, cap, cur, rfl, hb, hg, hn, hcm, hcs, ht⟩
 ·have : ys = [] := List.eq_nil_of_length_eq_zero h0
  subst this
  exact ⟨⟨none, 0, []⟩, rfl, rfl, RowsAt.none, fun x hx => by cases hx⟩
 ·refine ⟨⟨some ⟨g, 0, none⟩, cap, ys⟩, rfl, rfl, ⟨hm, hok, Or.inr ⟨g, 0, rfl, (Array.getElem?_eq_some_iff.1 hg).1, fun j u hu => ?_⟩⟩, fun x hx => by cases hx; exact ⟨hb, (Array.getElem?_eq_some_iff.1 hg).1, rfl⟩⟩
  have := h.cells (g := g) rfl j u hu
  rwa [Addr.add_mid] at this
theorem run_bs1 {P : Program} (t e : TypeId) (i : TypeInfo) (z : Value) (u : List Value) (ht : P.underlying t = some (.slice e)) (hi : P.info? e = some i) (hz : i.zero = some z) (hs : i.size = u.length) (h0 : 0 < u.length) (hm : u.length ≤ 1000) (w : World) :
  (Instr.buildSlice t 1 #[(0, .agg u.toArray)]).run P w = .ok (.slice (some ⟨w.heap.size, 0, none⟩) 1 1) (w.alloc (.cells u.toArray e)) := by
 have h1 : ¬ 2 ^ 24 < u.length := by omega
 have h2 : u ≠ [] := fun h => by rw [h] at h0; simp at h0
 have hf := fold_u ((Array.range u.length).map (z.cells[· % z.cells.size]!)) u (by simp)
 unfold Instr.buildSlice
 simp [run_underlying ht, sizeOf, zeroValue, typeInfo, hi, hz, hs, h1, h2, Instr.fill, Value.cells, newRow]
 rw [fold_u _ u (by simp)]
theorem exec_bs1 {P : Program} {o : Oper} {a : Act} {w : World} {t e : TypeId} {x : Operand} {u : List Value} (ho : o.op = .buildSlice t 1 #[(0, x)]) (hx : a.eval x = .agg u.toArray) (hr : (Instr.buildSlice t 1 #[(0, .agg u.toArray)]).run P w = .ok (.slice (some ⟨w.heap.size, 0, none⟩) 1 1) (w.alloc (.cells u.toArray e))) :
   (execOp a.eval o).run P w = .ok (.value (.slice (some ⟨w.heap.size, 0, none⟩) 1 1)) (w.alloc (.cells u.toArray e)) := by
  unfold execOp
  simp [ho, hx, hr]
theorem exec_append1 {P : Program} {o : Oper} {a : Act} {w w' : World} {s x : Operand} {t tx : TypeId} {v xv v' : Value} (ho : o.op = .call { callee := .builtin .append, args := #[s, x], argTypes := #[t, tx] }) (hv : a.eval s = v) (hx : a.eval x = xv)
    (hr : (Builtin.append_ #[t, tx] o.type #[v, xv]).run P w = .ok v' w') : (execOp a.eval o).run P w = .ok (.value v') w' := by
  unfold execOp
  simp [ho, resolve, invoke, builtin, hv, hx, hr]
theorem pl_runX {P : Program} {ops : Array Oper} {Q : Exit → Act → World → Prop} {o : Oper} {rest : List Oper} {d : Option Nat} {a : Act} {w : World} {R : Value → World → Prop} (hw : Region.wanted o (yielded ops a.tmps) = true) (hd : o.dst = d) (hy : ∃ v w', (execOp a.eval o).run P w = .ok (.value v) w' ∧ R v w')
  (h : ∀ v w', R v w' → Pl P ops Q rest (a.put d v) w') : Pl P ops Q (o :: rest) a w := by
 obtain ⟨v, w', h1, h2⟩ := hy
 exact pl_run hw h1 hd (h v w' h2)
theorem ex_mk {P : Program} {o : Oper} {a : Act} {w : World} {t e : TypeId} {x : Operand} {i : TypeInfo} {z : Value} {k B : Nat} {c : Int} (ho : o.op = .makeSlice t (.const (.int .i64 0)) x) (hx : a.eval x = .int .i64 c) (h0 : 0 ≤ c) (hc : c ≤ 1000) (ht : P.underlying t = some (.slice e)) (hi : P.info? e = some i) (hz : i.zero = some z) (hs : i.size = k) (hb : i.bytes ≤ 100000) (hB : B ≤ w.heap.size) :
  ∃ v w', (execOp a.eval o).run P w = .ok (.value v) w' ∧ w'.ownsRow B e k v 0 [] ∧ w.grownBy w' none := by
 obtain ⟨n, rfl⟩ : ∃ n : Nat, c = (n : Int) := ⟨c.toNat, by omega⟩
 obtain ⟨w', h1, h2, h3⟩ := run_make_own (P := P) (w := w) B t e i z k ht hi hz hs .i64 .i64 n (Nat.le_trans (Nat.mul_le_mul hb (show n ≤ 1000 by omega)) (by decide)) (by unfold maxLen; omega) hB
 refine ⟨_, w', ?_, h2, h3⟩
 unfold execOp
 have h4 : a.eval (.const (.int .i64 0)) = .int .i64 0 := rfl
 simp only [ho, hx, h4, Sem.run_bind, h1, Result.andThen_ok, Sem.run_pure]
theorem ex_app1 {P : Program} {o : Oper} {a : Act} {w : World} {s x : Operand} {t e : TypeId} {i : TypeInfo} {z : Value} {B cb k : Nat} {v : Value} {n : Nat} {xs u : List Value} (ho : o.op = .call { callee := .builtin .append, args := #[s, x], argTypes := #[t, t] }) (hv : a.eval s = v) (hx : a.eval x = .slice (some ⟨cb, 0, none⟩) 1 1)
    (ht : P.underlying t = some (.slice e)) (hi : P.info? e = some i) (hz : i.zero = some z) (hs : i.size = k) (hb : i.bytes ≤ 100000) (hty : o.type = t)
    (hown : w.ownsRow B e k v n xs) (hB : B ≤ w.heap.size) (hr : w.rangeAt cb 0 u) (hu : u.length = k) (h1 : ∀ y ∈ u, y.oneCell' = true) (hn : n ≤ 1000) (hzk : z.cells.size = k) :
    ∃ v' w', (execOp a.eval o).run P w = .ok (.value v') w' ∧ (w'.ownsRow B e k v' (n + 1) (xs ++ u) ∧ w.grownBy w' v.ownBlock ∧ ∀ g, v'.ownBlock = some g → v.ownBlock = some g ∨ w.heap.size ≤ g) := by
  have hsrc : Src P k t (.slice (some ⟨cb, 0, none⟩) 1 1) 1 u w := Src.ofSlice _ ht ⟨cb, 0, none⟩ 1 1 _ (by simpa using hu) (fun j y hy => by have := hr j y hy; rw [Addr.add_mid]; exact this) h1
  obtain ⟨v', w', hrun, ho2, hg, hap⟩ := run_append_own_src2 (P := P) w B t t o.type e i _ k i.bytes ht hi hz hs rfl (by rw [hzk]) v n xs hown _ 1 u hsrc (by unfold maxLen; omega) (Nat.le_trans (Nat.mul_le_mul (show n + 1 ≤ 1001 by omega) hb) (by decide)) hB
  exact ⟨v', w', exec_append1 ho hv hx hrun, ho2, hg, fun g hg' => (hap g hg').imp id (fun e => by omega)⟩
theorem numS_bz {rest : List Int} {e most : Int} (hb : e = 0 → Bs rest) : (numS rest e most).2.2 = 0 → Bs (numS rest e most).2.1 := fun h => by
 obtain ⟨k, hk⟩ := numS_sub rest e most
 rw [hk]
 exact (hb (numS_err h)).sub _
theorem textS_bz {rest : List Int} {e most : Int} (hb : e = 0 → Bs rest) : (textS rest e most).2.2 = 0 → Bs (textS rest e most).2.1 := fun h => by
 obtain ⟨k, hk⟩ := textS_sub rest e most
 rw [hk]
 exact (hb (textS_err h)).sub _
theorem padN_bs {n : Nat} {zs : List Int} (h : Bs zs) : Bs (padN n zs) := by
 unfold padN
 split
 ·exact h
 ·intro z hz
  have := List.eq_of_mem_replicate hz
  omega
theorem siS_ok (s : Rst) (hb : s.2.1 = 0 → Bs s.1) : SgE.ok (siS s).1 := by
 have h1 := numS_bd (most := 64) hb (by omega)
 exact ⟨padN_len _ _, padN_bs (rawS_t (numS_bz hb)), by show -9223372036854775808 ≤ (numS s.1 s.2.1 64).1; omega, by show (numS s.1 s.2.1 64).1 ≤ _; omega⟩
theorem enS_ok (s : Rst) (hb : s.2.1 = 0 → Bs s.1) : EvE.ok (enS s).1 := by
 have h1 := numS_bd (most := 64) hb (by omega)
 have h2 := textS_s (rest := (numS s.1 s.2.1 64).2.1) (e := (numS s.1 s.2.1 64).2.2) (most := 4194304) (by omega)
 refine ⟨padN_len _ _, padN_bs (rawS_t (textS_bz (numS_bz hb))), ?_, by show -9223372036854775808 ≤ (numS s.1 s.2.1 64).1; omega, by show (numS s.1 s.2.1 64).1 ≤ _; omega⟩
 show (strOf (textS (numS s.1 s.2.1 64).2.1 (numS s.1 s.2.1 64).2.2 4194304).1).size ≤ maxLen
 rw [strOf_size]
 unfold maxLen
 omega
theorem voS_ok (s : Rst) (hb : s.2.1 = 0 → Bs s.1) : (voS s).1.ok := by
 have b1 := numS_bz (most := 2) hb
 have b2 := numS_bz (most := 1048576) b1
 have b3 := numS_bz (most := 1099511627776) b2
 have b4 := numS_bz (most := 1099511627776) b3
 have h1 := (numS_bd (most := 2) hb (by omega)).2
 have h2 := (numS_bd (most := 1048576) b1 (by omega)).2
 have h3 := (numS_bd (most := 1099511627776) b2 (by omega)).2
 have h4 := (numS_bd (most := 1099511627776) b3 (by omega)).2
 exact ⟨Int.le_trans h1 (by decide), Int.le_trans h2 (by decide), Int.le_trans h3 (by decide), Int.le_trans h4 (by decide), padN_len _ _, padN_bs (rawS_t b4)⟩
theorem rsignS (Q R : Nat) (s : Rst) (w : World) (h : RS w Q R s) (hl : s.1.length ≤ 40000) : Calls Tryz.prog 70 #[.pointer (some ⟨Q, 0, none⟩)] w fun en w' => en = .returned (.agg (SgE.f (siS s).1).toArray) ∧ RS w' Q R (siS s).2 ∧ Kept w R Q w' :=
 (rsign_any Q R s.2.2 s.1 s.2.1 w h.st h.mr hl).mono (by rintro _ w1 ⟨rfl, h1, h2⟩; exact ⟨rfl, h.gb h2 h1, Kept.of h2⟩)
theorem renvS (Q R : Nat) (s : Rst) (w : World) (h : RS w Q R s) (hl : s.1.length ≤ 40000) : Calls Tryz.prog 65 #[.pointer (some ⟨Q, 0, none⟩)] w fun en w' => en = .returned (.agg (EvE.f (enS s).1).toArray) ∧ RS w' Q R (enS s).2 ∧ Kept w R Q w' :=
 (renv_any Q R s.2.2 s.1 s.2.1 w h.st h.mr hl).mono (by rintro _ w1 ⟨rfl, h1, h2⟩; exact ⟨rfl, h.gb h2 h1, Kept.of h2⟩)
theorem rvoteS (Q R : Nat) (s : Rst) (w : World) (h : RS w Q R s) (hl : s.1.length ≤ 40000) : Calls Tryz.prog 62 #[.pointer (some ⟨Q, 0, none⟩)] w fun en w' => en = .returned (.agg (voS s).1.cells.toArray) ∧ RS w' Q R (voS s).2 ∧ Kept w R Q w' :=
 (rvote_any Q R s.2.2 s.1 s.2.1 w h.st h.mr h.qt hl).mono (by rintro _ w1 ⟨rfl, h1, h2, h3, h4⟩; exact ⟨rfl, ⟨h1, h2, h4⟩, h3⟩)
structure LR {α : Type} (w : World) (Q R : Nat) (E : El α) (Te : TypeId) (one : Rst → α × Rst) (t : Rst) (k : Nat) (v : Value) (W : World) : Prop where
 own : W.ownsRow w.heap.size Te E.k v k ((itG one t k).1.flatMap E.f)
 rs : RS W Q R (itG one t k).2
 kept : Kept w R Q W
 ok : ∀ y ∈ (itG one t k).1, E.ok y
theorem itG_okS {α : Type} {E : El α} {one : Rst → α × Rst} {t : Rst} {k : Nat} (h : ∀ y ∈ (itG one t k).1, E.ok y) (h1 : E.ok (one (itG one t k).2).1) : ∀ y ∈ (itG one t (k + 1)).1, E.ok y := by
 intro y hy
 rcases List.mem_append.1 (show y ∈ (itG one t k).1 ++ [(one (itG one t k).2).1] from hy) with g | g
 ·exact h y g
 ·rw [List.mem_singleton.1 g]; exact h1
def infoSg0 : List Value := [Value.int .i64 0] ++ v8 (List.replicate 16 0)
def infoEv0 : List Value := [Value.int .i64 0, .string ⟨#[]⟩] ++ v8 (List.replicate 16 0)
theorem infoSg : (Tryz.prog.info? 131).map (fun i => (i.zero, i.size, i.bytes)) = some (some (.agg infoSg0.toArray), 17, 24) := by kernel_rfl
theorem infoEv : (Tryz.prog.info? 32).map (fun i => (i.zero, i.size, i.bytes)) = some (some (.agg infoEv0.toArray), 18, 40) := by kernel_rfl
theorem zk_rlistS_any : (Value.agg (infoSg0).toArray).cells.size = 17 := by decide
set_option maxRecDepth 100000 in
set_option maxHeartbeats 1000000 in
theorem rlistS_any (Q R : Nat) (s : Rst) (w : World) (h : RS w Q R s) (hl : s.1.length ≤ 40000) : Calls Tryz.prog 69 #[.func (.func 60) #[.pointer (some ⟨R, 0, none⟩)] #[], .int .i64 64, .func (.func 70) #[.pointer (some ⟨Q, 0, none⟩)] #[]] w fun en w' => ∃ x : Sl Sg, en = .returned x.val ∧ x.xs = (lsS 64 siS s).1 ∧ x.At SgE w' ∧ x.Bk (fun b => w.heap.size ≤ b ∧ b < w'.heap.size) ∧ RS w' Q R (lsS 64 siS s).2 ∧ Kept w R Q w' := by
 obtain ⟨i1, hi1, hiz, his, hib⟩ := info_parts infoSg
 have hzk := zk_rlistS_any
 have hRw := h.st.1.1
 have hQw := h.mr.lt
 have cn := fun w0 h0 => num_any R s.1 s.2.1 64 w0 h0
 have hx1 := numS_bd (most := 64) h.st.bs (by omega)
 have hx2 := nuS_len 64 s
 have hRS := fun w0 (g : w.grownBy w0 (some R)) hs => h.gb (r := (nuS 64 s).2.1) (e := (nuS 64 s).2.2.1) g hs
 unfold lsS
 have e1 : (numS s.1 s.2.1 64).1 = (nuS 64 s).1 := rfl
 have e2 : (numS s.1 s.2.1 64).2.1 = (nuS 64 s).2.1 := rfl
 have e3 : (numS s.1 s.2.1 64).2.2 = (nuS 64 s).2.2.1 := rfl
 have e4 : s.2.2 = (nuS 64 s).2.2.2 := rfl
 rw [e1] at hx1
 simp only [e1, e2, e3] at cn
 simp only [e4] at hRS
 clear e1 e2 e3 e4
 generalize nuS 64 s = p_ at hx1 hx2 cn hRS ⊢
 obtain ⟨n, t⟩ := p_
 simp only at hx1 hx2 cn hRS ⊢
 obtain ⟨N, rfl⟩ : ∃ N : Nat, n = (N : Int) := ⟨n.toNat, by omega⟩
 have hN : N ≤ 64 := by omega
 rw [Int.toNat_natCast]
 have hlt2 : t.1.length ≤ 40000 := Nat.le_trans hx2 hl
 clear hx1 hx2 hl
 go_enter Tryz.func69, Tryz.ntmps69
 go_upto_region 1 with fail
 try simp only [Act.put]
 refine pl_begin ?_
 refine pl_t 9 (?_) (by rfl) ?_ rfl ?_
 rotate_left
 ·go_simp
  try with_reducible rfl
 simp only [nz]
 refine pl_t 10 (?_) (by rfl) ?_ rfl ?_
 rotate_left
 ·go_simp
  try with_reducible rfl
 simp only [nz]
 refine pl_call (d := some 11) (by rfl) (by go_simp; first | done | exact ⟨rfl, rfl⟩ | with_reducible rfl) rfl ?_
 refine (cn w h.st).mono ?_
 rintro _ w2 ⟨rfl, h2, g2⟩
 refine ⟨_, rfl, ?_⟩
 simp only [nz]
 refine pl_t 7 (?_) (by rfl) ?_ rfl ?_
 rotate_left
 ·go_simp
  try with_reducible rfl
 simp only [nz]
 refine pl_nil ?_
 have S2 := hRS w2 g2 h2
 have k2 : Kept w R Q w2 := Kept.of g2
 clear cn hRS h2 g2
 go_upto_region 2 with fail
 try simp only [Act.put]
 refine pl_begin ?_
 refine pl_t 12 (?_) (by rfl) ?_ rfl ?_
 rotate_left
 ·go_simp
  try with_reducible rfl
 simp only [nz]
 refine pl_runX (d := some 13) (by rfl) rfl (ex_mk (B := w.heap.size) (c := (N : Int)) rfl rfl (by omega) (by omega) Tryz.underlying105 hi1 hiz his (by rw [hib]; decide) k2.size) ?_
 rintro v3 w3 ⟨o3, g3⟩
 simp only [nz]
 refine pl_t 8 (?_) (by rfl) ?_ rfl ?_
 rotate_left
 ·go_simp
  try with_reducible rfl
 simp only [nz]
 refine pl_nil ?_
 have hb3 : Below w2.heap.size w2 w3 := (Below.refl _ _).grown g3 (Nat.le_refl _) (fun k hk => by cases hk)
 have HL0 : Hid (LR w Q R SgE 131 siS t 0 v3 w3) := hide ⟨o3, S2.below hb3, k2.below hb3, fun y hy => by cases hy⟩
 clear o3 g3 hb3 S2 k2 h
 go_wp2_with fail
 go_loopw [8, 15] (fun ov iv wr => ∃ k : Nat, k ≤ N ∧ iv = .int .i64 (k : Int) ∧ Hid (LR w Q R SgE 131 siS t k ov wr)) (fun _ iv _ => N - (intOf iv).toNat)
 case atStart => exact ⟨0, by omega, rfl, HL0⟩
 case round =>
  clear HL0
  obtain ⟨k, hk, rfl, HL⟩ := hrel
  by_cases hlt : k < N
  ·have k1 : (k : Int) < N := by omega
   have HL := HL.out
   have hle := Nat.le_trans (itG_len siS_len t k) hlt2
   have cE := rsignS Q R (itG siS t k).2 wr HL.rs hle
   have hok := siS_ok (itG siS t k).2 HL.rs.st.bs
   have HS : Hid ((itG siS t (k + 1)).1.flatMap SgE.f = (itG siS t k).1.flatMap SgE.f ++ SgE.f (siS (itG siS t k).2).1) := hide (by
    show ((itG siS t k).1 ++ [(siS (itG siS t k).2).1]).flatMap SgE.f = _
    rw [List.flatMap_append]
    simp)
   have HT : Hid ((itG siS t (k + 1)).2 = (siS (itG siS t k).2).2) := hide rfl
   have hul : (SgE.f (siS (itG siS t k).2).1).length = 17 := SgE.len _ hok
   have hone := SgE.one (siS (itG siS t k).2).1
   obtain ⟨u, hu⟩ : ∃ u, Hid (SgE.f (siS (itG siS t k).2).1 = u) := ⟨_, hide rfl⟩
   obtain ⟨t', ht'⟩ : ∃ t', Hid ((siS (itG siS t k).2).2 = t') := ⟨_, hide rfl⟩
   have cE : Calls Tryz.prog 70 #[.pointer (some ⟨Q, 0, none⟩)] wr fun en w' => en = .returned (.agg (SgE.f (siS (itG siS t k).2).1).toArray) ∧ RS w' Q R (siS (itG siS t k).2).2 ∧ Kept wr R Q w' := cE
   rw [hu.out] at HS hul hone cE
   rw [ht'.out] at HT cE
   have HO : Hid (∀ y ∈ (itG siS t (k + 1)).1, SgE.ok y) := hide (itG_okS HL.ok hok)
   clear hu ht' hok hle
   go_upto_region 5 with fail
   try simp only [Act.put]
   refine pl_begin ?_
   refine pl_t 17 (?_) (by rfl) ?_ rfl ?_
   rotate_left
   ·go_simp
    try with_reducible rfl
   simp only [nz]
   refine pl_t 18 (?_) (by rfl) ?_ rfl ?_
   rotate_left
   ·go_simp
    try with_reducible rfl
   simp only [nz]
   refine pl_call (d := some 19) (by rfl) (by go_simp; first | done | exact ⟨rfl, rfl⟩ | with_reducible rfl) rfl ?_
   refine (cE).mono ?_
   rintro _ w4 hfin
   obtain ⟨rfl, S4, k4⟩ := hfin
   refine ⟨_, rfl, ?_⟩
   simp only [nz]
   have o4 := own_kept HL.own k4 (by omega) (by omega)
   have hb5 : Below w4.heap.size w4 (w4.alloc (.cells u.toArray 131)) := (Below.refl _ _).alloc (Nat.le_refl _) _
   have r5 : (w4.alloc (.cells u.toArray 131)).rangeAt w4.heap.size 0 u := by simpa using range_new w4 u.toArray 131
   have o5 := o4.alloc (.cells u.toArray 131)
   refine pl_run (d := some 20) (v := .slice (some ⟨w4.heap.size, 0, none⟩) 1 1) (w' := w4.alloc (.cells u.toArray 131)) (by rfl) (exec_bs1 rfl rfl (run_bs1 105 131 i1 _ u Tryz.underlying105 hi1 hiz (by rw [his, hul]) (by omega) (by omega) _)) rfl ?_
   simp only [nz]
   have s4 : w.heap.size ≤ w4.heap.size := Nat.le_trans HL.kept.size k4.size
   obtain ⟨w5, hw5⟩ : ∃ W, w4.alloc (.cells u.toArray 131) = W := ⟨_, rfl⟩
   rw [hw5] at hb5 r5 o5 ⊢
   clear hw5
   refine pl_runX (d := some 21) (by rfl) rfl (ex_app1 rfl rfl rfl Tryz.underlying105 hi1 hiz his (by rw [hib]; decide) rfl o5 (Nat.le_trans s4 hb5.size) r5 hul hone (by omega) hzk) ?_
   rintro v6 w6 ⟨o6, g6, -⟩
   simp only [nz]
   refine pl_t 8 (?_) (by rfl) ?_ rfl ?_
   rotate_left
   ·go_simp
    try with_reducible rfl
   simp only [nz]
   refine pl_nil ?_
   have b6 : Below w.heap.size w4 w6 := own_low (hb5.mono s4) (Nat.le_trans s4 hb5.size) o5 g6
   have HL6 : Hid (LR w Q R SgE 131 siS t (k + 1) v6 w6) := hide ⟨by rw [HS.out]; exact o6, by rw [HT.out]; exact S4.low b6 hQw, (HL.kept.trans k4).low b6 (Nat.le_refl _), HO.out⟩
   clear HL o4 o5 o6 g6 b6 S4 k4 hb5 r5 HS HT cE
   go_wp2_with fail
   go_roundw
   case rel => exact ⟨k + 1, by omega, by go_num, HL6⟩
   case measure => simp [intOf]; omega
  ·obtain rfl : k = N := by omega
   have HL := HL.out
   have hok := HL.ok
   obtain ⟨x, rfl, hx, hA, hB⟩ := own_rows (E := SgE) (ys := (itG siS t k).1) (by rw [itG_length]; exact HL.own) hok (by rw [itG_length]; unfold maxLen; omega)
   have HF : Hid (∃ y : Sl Sg, Ending.returned x.val = .returned y.val ∧ y.xs = (itG siS t k).1 ∧ y.At SgE wr ∧ y.Bk (fun b => w.heap.size ≤ b ∧ b < wr.heap.size) ∧ RS wr Q R (itG siS t k).2 ∧ Kept w R Q wr) := hide ⟨x, rfl, hx, hA, fun b _ hb => ⟨(hB b hb).1, (hB b hb).2.1⟩, HL.rs, HL.kept⟩
   clear HL hok hA hB hx
   go_wp2_with fail
   go_ret
   exact HF.out
theorem zk_rlistE_any : (Value.agg (infoEv0).toArray).cells.size = 18 := by decide
set_option maxRecDepth 100000 in
set_option maxHeartbeats 1000000 in
theorem rlistE_any (Q R : Nat) (s : Rst) (w : World) (h : RS w Q R s) (hl : s.1.length ≤ 40000) : Calls Tryz.prog 64 #[.func (.func 60) #[.pointer (some ⟨R, 0, none⟩)] #[], .int .i64 64, .func (.func 65) #[.pointer (some ⟨Q, 0, none⟩)] #[]] w fun en w' => ∃ x : Sl Ev, en = .returned x.val ∧ x.xs = (lsS 64 enS s).1 ∧ x.At EvE w' ∧ x.Bk (fun b => w.heap.size ≤ b ∧ b < w'.heap.size) ∧ RS w' Q R (lsS 64 enS s).2 ∧ Kept w R Q w' := by
 obtain ⟨i1, hi1, hiz, his, hib⟩ := info_parts infoEv
 have hzk := zk_rlistE_any
 have hRw := h.st.1.1
 have hQw := h.mr.lt
 have cn := fun w0 h0 => num_any R s.1 s.2.1 64 w0 h0
 have hx1 := numS_bd (most := 64) h.st.bs (by omega)
 have hx2 := nuS_len 64 s
 have hRS := fun w0 (g : w.grownBy w0 (some R)) hs => h.gb (r := (nuS 64 s).2.1) (e := (nuS 64 s).2.2.1) g hs
 unfold lsS
 have e1 : (numS s.1 s.2.1 64).1 = (nuS 64 s).1 := rfl
 have e2 : (numS s.1 s.2.1 64).2.1 = (nuS 64 s).2.1 := rfl
 have e3 : (numS s.1 s.2.1 64).2.2 = (nuS 64 s).2.2.1 := rfl
 have e4 : s.2.2 = (nuS 64 s).2.2.2 := rfl
 rw [e1] at hx1
 simp only [e1, e2, e3] at cn
 simp only [e4] at hRS
 clear e1 e2 e3 e4
 generalize nuS 64 s = p_ at hx1 hx2 cn hRS ⊢
 obtain ⟨n, t⟩ := p_
 simp only at hx1 hx2 cn hRS ⊢
 obtain ⟨N, rfl⟩ : ∃ N : Nat, n = (N : Int) := ⟨n.toNat, by omega⟩
 have hN : N ≤ 64 := by omega
 rw [Int.toNat_natCast]
 have hlt2 : t.1.length ≤ 40000 := Nat.le_trans hx2 hl
 clear hx1 hx2 hl
 go_enter Tryz.func64, Tryz.ntmps64
 go_upto_region 1 with fail
 try simp only [Act.put]
 refine pl_begin ?_
 refine pl_t 9 (?_) (by rfl) ?_ rfl ?_
 rotate_left
 ·go_simp
  try with_reducible rfl
 simp only [nz]
 refine pl_t 10 (?_) (by rfl) ?_ rfl ?_
 rotate_left
 ·go_simp
  try with_reducible rfl
 simp only [nz]
 refine pl_call (d := some 11) (by rfl) (by go_simp; first | done | exact ⟨rfl, rfl⟩ | with_reducible rfl) rfl ?_
 refine (cn w h.st).mono ?_
 rintro _ w2 ⟨rfl, h2, g2⟩
 refine ⟨_, rfl, ?_⟩
 simp only [nz]
 refine pl_t 7 (?_) (by rfl) ?_ rfl ?_
 rotate_left
 ·go_simp
  try with_reducible rfl
 simp only [nz]
 refine pl_nil ?_
 have S2 := hRS w2 g2 h2
 have k2 : Kept w R Q w2 := Kept.of g2
 clear cn hRS h2 g2
 go_upto_region 2 with fail
 try simp only [Act.put]
 refine pl_begin ?_
 refine pl_t 12 (?_) (by rfl) ?_ rfl ?_
 rotate_left
 ·go_simp
  try with_reducible rfl
 simp only [nz]
 refine pl_runX (d := some 13) (by rfl) rfl (ex_mk (B := w.heap.size) (c := (N : Int)) rfl rfl (by omega) (by omega) Tryz.underlying51 hi1 hiz his (by rw [hib]; decide) k2.size) ?_
 rintro v3 w3 ⟨o3, g3⟩
 simp only [nz]
 refine pl_t 8 (?_) (by rfl) ?_ rfl ?_
 rotate_left
 ·go_simp
  try with_reducible rfl
 simp only [nz]
 refine pl_nil ?_
 have hb3 : Below w2.heap.size w2 w3 := (Below.refl _ _).grown g3 (Nat.le_refl _) (fun k hk => by cases hk)
 have HL0 : Hid (LR w Q R EvE 32 enS t 0 v3 w3) := hide ⟨o3, S2.below hb3, k2.below hb3, fun y hy => by cases hy⟩
 clear o3 g3 hb3 S2 k2 h
 go_wp2_with fail
 go_loopw [8, 15] (fun ov iv wr => ∃ k : Nat, k ≤ N ∧ iv = .int .i64 (k : Int) ∧ Hid (LR w Q R EvE 32 enS t k ov wr)) (fun _ iv _ => N - (intOf iv).toNat)
 case atStart => exact ⟨0, by omega, rfl, HL0⟩
 case round =>
  clear HL0
  obtain ⟨k, hk, rfl, HL⟩ := hrel
  by_cases hlt : k < N
  ·have k1 : (k : Int) < N := by omega
   have HL := HL.out
   have hle := Nat.le_trans (itG_len enS_len t k) hlt2
   have cE := renvS Q R (itG enS t k).2 wr HL.rs hle
   have hok := enS_ok (itG enS t k).2 HL.rs.st.bs
   have HS : Hid ((itG enS t (k + 1)).1.flatMap EvE.f = (itG enS t k).1.flatMap EvE.f ++ EvE.f (enS (itG enS t k).2).1) := hide (by
    show ((itG enS t k).1 ++ [(enS (itG enS t k).2).1]).flatMap EvE.f = _
    rw [List.flatMap_append]
    simp)
   have HT : Hid ((itG enS t (k + 1)).2 = (enS (itG enS t k).2).2) := hide rfl
   have hul : (EvE.f (enS (itG enS t k).2).1).length = 18 := EvE.len _ hok
   have hone := EvE.one (enS (itG enS t k).2).1
   obtain ⟨u, hu⟩ : ∃ u, Hid (EvE.f (enS (itG enS t k).2).1 = u) := ⟨_, hide rfl⟩
   obtain ⟨t', ht'⟩ : ∃ t', Hid ((enS (itG enS t k).2).2 = t') := ⟨_, hide rfl⟩
   have cE : Calls Tryz.prog 65 #[.pointer (some ⟨Q, 0, none⟩)] wr fun en w' => en = .returned (.agg (EvE.f (enS (itG enS t k).2).1).toArray) ∧ RS w' Q R (enS (itG enS t k).2).2 ∧ Kept wr R Q w' := cE
   rw [hu.out] at HS hul hone cE
   rw [ht'.out] at HT cE
   have HO : Hid (∀ y ∈ (itG enS t (k + 1)).1, EvE.ok y) := hide (itG_okS HL.ok hok)
   clear hu ht' hok hle
   go_upto_region 5 with fail
   try simp only [Act.put]
   refine pl_begin ?_
   refine pl_t 17 (?_) (by rfl) ?_ rfl ?_
   rotate_left
   ·go_simp
    try with_reducible rfl
   simp only [nz]
   refine pl_t 18 (?_) (by rfl) ?_ rfl ?_
   rotate_left
   ·go_simp
    try with_reducible rfl
   simp only [nz]
   refine pl_call (d := some 19) (by rfl) (by go_simp; first | done | exact ⟨rfl, rfl⟩ | with_reducible rfl) rfl ?_
   refine (cE).mono ?_
   rintro _ w4 hfin
   obtain ⟨rfl, S4, k4⟩ := hfin
   refine ⟨_, rfl, ?_⟩
   simp only [nz]
   have o4 := own_kept HL.own k4 (by omega) (by omega)
   have hb5 : Below w4.heap.size w4 (w4.alloc (.cells u.toArray 32)) := (Below.refl _ _).alloc (Nat.le_refl _) _
   have r5 : (w4.alloc (.cells u.toArray 32)).rangeAt w4.heap.size 0 u := by simpa using range_new w4 u.toArray 32
   have o5 := o4.alloc (.cells u.toArray 32)
   refine pl_run (d := some 20) (v := .slice (some ⟨w4.heap.size, 0, none⟩) 1 1) (w' := w4.alloc (.cells u.toArray 32)) (by rfl) (exec_bs1 rfl rfl (run_bs1 51 32 i1 _ u Tryz.underlying51 hi1 hiz (by rw [his, hul]) (by omega) (by omega) _)) rfl ?_
   simp only [nz]
   have s4 : w.heap.size ≤ w4.heap.size := Nat.le_trans HL.kept.size k4.size
   obtain ⟨w5, hw5⟩ : ∃ W, w4.alloc (.cells u.toArray 32) = W := ⟨_, rfl⟩
   rw [hw5] at hb5 r5 o5 ⊢
   clear hw5
   refine pl_runX (d := some 21) (by rfl) rfl (ex_app1 rfl rfl rfl Tryz.underlying51 hi1 hiz his (by rw [hib]; decide) rfl o5 (Nat.le_trans s4 hb5.size) r5 hul hone (by omega) hzk) ?_
   rintro v6 w6 ⟨o6, g6, -⟩
   simp only [nz]
   refine pl_t 8 (?_) (by rfl) ?_ rfl ?_
   rotate_left
   ·go_simp
    try with_reducible rfl
   simp only [nz]
   refine pl_nil ?_
   have b6 : Below w.heap.size w4 w6 := own_low (hb5.mono s4) (Nat.le_trans s4 hb5.size) o5 g6
   have HL6 : Hid (LR w Q R EvE 32 enS t (k + 1) v6 w6) := hide ⟨by rw [HS.out]; exact o6, by rw [HT.out]; exact S4.low b6 hQw, (HL.kept.trans k4).low b6 (Nat.le_refl _), HO.out⟩
   clear HL o4 o5 o6 g6 b6 S4 k4 hb5 r5 HS HT cE
   go_wp2_with fail
   go_roundw
   case rel => exact ⟨k + 1, by omega, by go_num, HL6⟩
   case measure => simp [intOf]; omega
  ·obtain rfl : k = N := by omega
   have HL := HL.out
   have hok := HL.ok
   obtain ⟨x, rfl, hx, hA, hB⟩ := own_rows (E := EvE) (ys := (itG enS t k).1) (by rw [itG_length]; exact HL.own) hok (by rw [itG_length]; unfold maxLen; omega)
   have HF : Hid (∃ y : Sl Ev, Ending.returned x.val = .returned y.val ∧ y.xs = (itG enS t k).1 ∧ y.At EvE wr ∧ y.Bk (fun b => w.heap.size ≤ b ∧ b < wr.heap.size) ∧ RS wr Q R (itG enS t k).2 ∧ Kept w R Q wr) := hide ⟨x, rfl, hx, hA, fun b _ hb => ⟨(hB b hb).1, (hB b hb).2.1⟩, HL.rs, HL.kept⟩
   clear HL hok hA hB hx
   go_wp2_with fail
   go_ret
   exact HF.out
def BRq.un (r : BRq) : Rq := ⟨r.c, r.n, r.s, r.t⟩
theorem rows_req {w : World} {a : Option Addr} {rs : List BRq} (h : ReqsAt w a rs) : RowsAt RqE w a (rs.map BRq.un) := by
 refine ⟨by rw [List.length_map]; exact h.1, fun r hr => ?_, ?_⟩
 ·obtain ⟨y, hy, rfl⟩ := List.mem_map.1 hr
  have k : y.ok := h.2.1 y hy
  exact ⟨k.tl, k.tb, k.sl, k.cl, k.ch, k.nl, k.nh⟩
 ·rcases h.2.2 with q | ⟨b, off, rfl, h1, h2⟩
  ·exact .inl (by rw [q]; rfl)
  ·refine .inr ⟨b, off, rfl, h1, ?_⟩
   have e : (rs.map BRq.un).flatMap RqE.f = flatR rs := by
    unfold flatR
    rw [List.flatMap_map]
    rfl
   rw [e]
   exact h2
structure Hp where
 q : Bool
 rs : List Rq
 vt : Vt
 sg : List Sg
def Hd.pure (h : Hd) : Hp := ⟨h.q, h.rs.xs, h.vt, h.sg.xs⟩
def baS (s : Rst) : (Bool × List Rq) × Rst := (((getB s.1 s.2.1).q, (getB s.1 s.2.1).rs.map BRq.un), (getB s.1 s.2.1).rest, (getB s.1 s.2.1).err, s.2.2)
def ceS (s : Rst) : (Vt × List Sg) × Rst := (((voS s).1, (lsS 64 siS (voS s).2).1), (lsS 64 siS (voS s).2).2)
def heS (s : Rst) : Hp × Rst := (⟨(baS s).1.1, (baS s).1.2, (ceS (baS s).2).1.1, (ceS (baS s).2).1.2⟩, (ceS (baS s).2).2)
theorem getB_len (rest : List Int) (e : Int) : (getB rest e).rest.length ≤ rest.length := by
 unfold getB
 split
 ·exact numS_len _ _ _
 ·exact Nat.le_trans (getRs_le _ _ _) (numS_len _ _ _)
theorem baS_len (s : Rst) : (baS s).2.1.length ≤ s.1.length := getB_len _ _
theorem ceS_len (s : Rst) : (ceS s).2.1.length ≤ s.1.length := Nat.le_trans (lsS_len siS_len _ _) (voS_len _)
theorem heS_len (s : Rst) : (heS s).2.1.length ≤ s.1.length := Nat.le_trans (ceS_len _) (baS_len _)
theorem zeroCeE (w : World) : (zeroValue 107).run Tryz.prog w = .ok (.agg (Vt.zero.cells ++ [Value.slice none 0 0]).toArray) w := by kernel_rfl
theorem zeroHdE (w : World) : (zeroValue 129).run Tryz.prog w = .ok (.agg ([Value.bool false, .slice none 0 0] ++ (Vt.zero.cells ++ [Value.slice none 0 0])).toArray) w := by kernel_rfl
set_option maxRecDepth 100000 in
theorem build_cert (t : List Value) (x : Sl Sg) (ht : t.length = 36) (w : World) : (Instr.build 107 #[(0, .agg t.toArray), (1, x.val)]).run Tryz.prog w = .ok (.agg (t ++ [x.val]).toArray) w :=
 build_fill (zs := Vt.zero.cells ++ [Value.slice none 0 0]) (pl := #[(0, 36), (36, 1)]) (zeroCeE w) (by kernel_rfl) (by kernel_rfl) _ _ (fill_two (c1 := t) (c2 := [x.val]) rfl rfl (by decide) rfl ht rfl rfl rfl)
set_option maxRecDepth 100000 in
theorem build_held (q : Bool) (x : Value) (t : List Value) (ht : t.length = 37) (hx : x.cells = #[x]) (w : World) : (Instr.build 129 #[(0, .agg #[.bool q, x]), (1, .agg t.toArray)]).run Tryz.prog w = .ok (.agg (.bool q :: x :: t).toArray) w :=
 build_fill (zs := [Value.bool false, .slice none 0 0] ++ (Vt.zero.cells ++ [Value.slice none 0 0])) (pl := #[(0, 2), (2, 37)]) (zeroHdE w) (by kernel_rfl) (by kernel_rfl) _ _ (fill_two (c1 := [.bool q, x]) (c2 := t) rfl rfl (by decide) (by decide) rfl ht rfl rfl)
theorem bgetS (Q R : Nat) (s : Rst) (w : World) (h : RS w Q R s) (hl : s.1.length ≤ 40000) : Calls Tryz.prog 61 #[.pointer (some ⟨R, 0, none⟩)] w fun en w' => ∃ x : Sl Rq, en = .returned (.agg #[.bool (baS s).1.1, x.val]) ∧ x.xs = (baS s).1.2 ∧ x.At RqE w' ∧ x.Bk (fun b => w.heap.size ≤ b ∧ b < w'.heap.size) ∧ RS w' Q R (baS s).2 ∧ Kept w R Q w' :=
 (bget_any R s.1 s.2.1 w h.st hl h.st.bs).mono (by
  rintro _ w1 ⟨a, cap, rfl, h1, h2, h3, h4, h5, h6⟩
  have e : (getB s.1 s.2.1).rs.length = ((getB s.1 s.2.1).rs.map BRq.un).length := (List.length_map ..).symm
  refine ⟨⟨a, cap, _⟩, ?_, rfl, rows_req h3, ?_, h.gb h6 h5, Kept.of h6⟩
  ·show _ = Ending.returned (.agg #[_, .slice a ((getB s.1 s.2.1).rs.map BRq.un).length cap])
   rw [← e]; rfl
  ·intro b hne hb
   refine ⟨h4 b hb, ?_⟩
   rcases h3.2.2 with q | ⟨c, off, e1, h7, _⟩
   ·exact absurd (by show ((getB s.1 s.2.1).rs.map BRq.un) = []; rw [q]; rfl) hne
   ·have hb : a = some b := hb
    rw [hb] at e1
    injection e1 with e1
    rw [e1]
    exact h7)
set_option maxRecDepth 100000 in
set_option maxHeartbeats 1000000 in
theorem rcertS (Q R : Nat) (s : Rst) (w : World) (h : RS w Q R s) (hl : s.1.length ≤ 40000) : Calls Tryz.prog 67 #[.pointer (some ⟨Q, 0, none⟩)] w fun en w' => ∃ x : Sl Sg, en = .returned (.agg (certL (ceS s).1.1 x).toArray) ∧ x.xs = (ceS s).1.2 ∧ x.At SgE w' ∧ x.Bk (fun b => w.heap.size ≤ b ∧ b < w'.heap.size) ∧ (ceS s).1.1.ok ∧ RS w' Q R (ceS s).2 ∧ Kept w R Q w' := by
 obtain ⟨zc, hzl, hzr⟩ : ∃ z : List Value, z.length = 37 ∧ ∀ w : World, (zeroValue 107).run Tryz.prog w = .ok (.agg z.toArray) w := ⟨_, by decide, zeroCeE⟩
 have cv := fun w0 h0 => rvoteS Q R s w0 h0 hl
 have hv2 := voS_ok s h.st.bs
 have hvl := hv2.len
 have hvo := Vt.one (voS s).1
 have hln := voS_len s
 unfold ceS certL
 generalize voS s = p_ at cv hv2 hvl hvo hln ⊢
 obtain ⟨vt, t⟩ := p_
 simp only at cv hv2 hvl hvo hln ⊢
 have cs := fun w0 h0 => rlistS_any Q R t w0 h0 (Nat.le_trans hln hl)
 generalize lsS 64 siS t = p_ at cs ⊢
 obtain ⟨ls, t'⟩ := p_
 simp only at cs ⊢
 obtain ⟨vc, hvc⟩ : ∃ q, Hid (vt.cells = q) := ⟨_, hide rfl⟩
 rw [hvc.out] at hvl hvo
 simp only [hvc.out] at cv ⊢
 clear hvc hln
 replace hv2 := hide hv2
 obtain ⟨hB1, hr1, hs1⟩ := boxed_new w zc 107
 have ht1 := there_newN w zc.toArray 107 (n := 37) (by simp [hzl])
 have hRw := h.st.1.1
 have hQw := h.mr.lt
 go_enter Tryz.func67, Tryz.ntmps67
 go_upto_region 0 with fail
 try simp only [Act.put]
 refine pl_begin ?_
 refine pl_run (d := some 2) (v := .pointer (some ⟨w.heap.size, 0, none⟩)) (w' := w.alloc (.cells zc.toArray 107)) (by rfl) (ex_alloc rfl (hzr _)) rfl ?_
 simp only [nz]
 refine pl_nil ?_
 obtain ⟨W1, hW1⟩ : ∃ W, w.alloc (.cells zc.toArray 107) = W := ⟨_, rfl⟩
 rw [hW1] at hB1 hr1 hs1 ht1 ⊢
 clear hW1 hr1 hzr hzl
 go_upto_region 1 with fail
 have hB8 := hB1.drew
 have ht8 : W1.drew.there w.heap.size 0 37 := ht1
 have hs8 : w.heap.size < W1.drew.heap.size := hs1
 refine hs_begin (S := (fun W' => W'.cell? ⟨Q, 0, none⟩ = some (.pointer (some ⟨R, 0, none⟩)))) 12 rfl (by kernel_rfl) ?_
 obtain ⟨w8, hw8⟩ : ∃ W, W1.drew = W := ⟨_, rfl⟩
 rw [hw8] at hB8 ht8 hs8 ⊢
 clear hw8
 have S8 := h.below hB8
 have hS : (fun W' => W'.cell? ⟨Q, 0, none⟩ = some (.pointer (some ⟨R, 0, none⟩))) w8 := S8.mr.c0
 refine hs_t 0 3 (?_) rfl (by kernel_rfl) (by kernel_rfl) (by kernel_rfl) (by rfl) ?_ hS rfl ?_
 rotate_left
 ·intro w' hw
  go_simp
  try with_reducible rfl
 simp only [nz]
 refine hs_t 2 5 (?_) rfl (by kernel_rfl) (by kernel_rfl) (by kernel_rfl) (by rfl) ?_ hS rfl ?_
 rotate_left
 ·intro w' hw
  go_simp
  try with_reducible rfl
 simp only [nz]
 refine hs_t 3 6 (?_) rfl (by kernel_rfl) (by kernel_rfl) (by kernel_rfl) (by rfl) ?_ hS rfl ?_
 rotate_left
 ·intro w' hw
  go_simp
  try with_reducible rfl
 simp only [nz]
 refine hs_t 4 7 (?_) rfl (by kernel_rfl) (by kernel_rfl) (by kernel_rfl) (by rfl) ?_ hS rfl ?_
 rotate_left
 ·intro w' hw
  go_simp
  try with_reducible rfl
 simp only [nz]
 refine hs_t 5 8 (.pointer (some ⟨R, 0, none⟩)) rfl (by kernel_rfl) (by kernel_rfl) (by kernel_rfl) (by rfl) (fun w' hw => pl_one rfl rfl hw Tryz.underlying142 rfl) hS rfl ?_
 simp only [nz]
 refine hs_t 6 9 (?_) rfl (by kernel_rfl) (by kernel_rfl) (by kernel_rfl) (by rfl) ?_ hS rfl ?_
 rotate_left
 ·intro w' hw
  go_simp
  try with_reducible rfl
 simp only [nz]
 refine hs_t 7 10 (?_) rfl (by kernel_rfl) (by kernel_rfl) (by kernel_rfl) (by rfl) ?_ hS rfl ?_
 rotate_left
 ·intro w' hw
  go_simp
  try with_reducible rfl
 simp only [nz]
 refine hs_t 8 11 (?_) rfl (by kernel_rfl) (by kernel_rfl) (by kernel_rfl) (by rfl) ?_ hS rfl ?_
 rotate_left
 ·intro w' hw
  go_simp
  try with_reducible rfl
 simp only [nz]
 refine hs_call (i := 1) (d := some 4) rfl (by kernel_rfl) (by rfl) (by go_simp; first | done | exact ⟨rfl, rfl⟩ | with_reducible rfl) rfl ?_
 refine (cv w8 S8).mono ?_
 rintro _ w2 ⟨rfl, S2, k2⟩
 have hS : (fun W' => W'.cell? ⟨Q, 0, none⟩ = some (.pointer (some ⟨R, 0, none⟩))) w2 := S2.mr.c0
 refine ⟨_, rfl, hS, ?_⟩
 simp only [nz]
 refine hs_call (i := 9) (d := some 12) rfl (by kernel_rfl) (by rfl) (by go_simp; first | done | exact ⟨rfl, rfl⟩ | with_reducible rfl) rfl ?_
 refine (cs w2 S2).mono ?_
 rintro _ w3 ⟨x, rfl, hx, hA, hB, S3, k3⟩
 have hS : (fun W' => W'.cell? ⟨Q, 0, none⟩ = some (.pointer (some ⟨R, 0, none⟩))) w3 := S3.mr.c0
 refine ⟨_, rfl, hS, ?_⟩
 simp only [nz]
 have k8 : Kept w R Q w3 := (((Kept.refl w R Q).below hB8).trans k2).trans k3
 have thA : w3.there w.heap.size 0 37 := there_blk (there_blk ht8 (k2.block _ hs8 (by omega) (by omega))) (k3.block _ (Nat.lt_of_lt_of_le hs8 k2.size) (by omega) (by omega))
 have hbs := fun w0 => build_cert vc x hvl w0
 have hpl : (vc ++ [x.val]).length = 37 := by rw [List.length_append, hvl]; rfl
 have hip : (Tryz.prog.info? 107).map (·.size) = some (vc ++ [x.val]).length := by rw [hpl]; exact iszCe
 have hp1 : ∀ v ∈ vc ++ [x.val], v.oneCell' = true := fun v hv => by
  rcases List.mem_append.1 hv with g | g
  ·exact hvo v g
  ·rw [List.mem_singleton.1 g]; rfl
 obtain ⟨pc, hpc⟩ : ∃ p, Hid (vc ++ [x.val] = p) := ⟨_, hide rfl⟩
 simp only [hpc.out] at hbs hpl hip hp1
 refine hs_t 10 13 (.agg pc.toArray) rfl (by kernel_rfl) (by kernel_rfl) (by kernel_rfl) (by rfl) (fun w' hw => ex_build (parts := [(0, .tmp 4), (1, .tmp 12)]) rfl rfl (hbs _)) hS rfl ?_
 simp only [nz]
 have hSE : (fun W' => W'.cell? ⟨Q, 0, none⟩ = some (.pointer (some ⟨R, 0, none⟩))) (w3.setCells w.heap.size 0 pc) := (S3.low (below_sets (Nat.le_refl _) pc 0 _ (Below.refl _ w3)) hQw).mr.c0
 refine hs_store (i := 11) (w' := w3.setCells w.heap.size 0 pc) rfl (by kernel_rfl) (by rfl) (ex_put (cs := pc.toArray) rfl rfl rfl (by simpa [hpl] using thA) (by simpa using hip) (all_one hp1)) rfl hSE ?_
 refine hs_done (by kernel_rfl) ?_
 have hlow : Below w.heap.size w3 (w3.setCells w.heap.size 0 pc) := below_sets (Nat.le_refl _) pc 0 _ (Below.refl _ w3)
 have hrs := run_loadVar_mid (P := Tryz.prog) (w3.setCells w.heap.size 0 pc) w.heap.size 0 107 pc _ (World.rangeAt_setCells_same w3 w.heap.size 0 pc (by rw [hpl]; exact thA)) Tryz.underlying107 rfl hip
 have HF : Hid (∃ y : Sl Sg, Ending.returned (.agg pc.toArray) = .returned (.agg (vc ++ [y.val]).toArray) ∧ y.xs = ls ∧ y.At SgE (w3.setCells w.heap.size 0 pc) ∧ y.Bk (fun b => w.heap.size ≤ b ∧ b < (w3.setCells w.heap.size 0 pc).heap.size) ∧ vt.ok ∧ RS (w3.setCells w.heap.size 0 pc) Q R t' ∧ Kept w R Q (w3.setCells w.heap.size 0 pc)) := hide ⟨x, by rw [hpc.out], hx, hA.on (by rw [size_sets]; exact Nat.le_refl _) hB (fun b hb hlt => blk_sets (by have := hb.1; have := k2.size; omega)), hB.mono (fun b hb => ⟨by have := hb.1; have := k2.size; omega, by rw [size_sets]; exact hb.2⟩), hv2.out, S3.low hlow hQw, k8.low hlow (Nat.le_refl _)⟩
 clear hA hB S3 k3 S2 k2 hpc hbs hx k8
 go_wp2_with fail
 refine bodyPost_ret (v := .agg pc.toArray) ?_ rfl ?_
 ·simp [results, Tryz.results67, Act.put, asAddr, hrs]
 ·exact HF.out
def Hd.Bk (h : Hd) (P : Nat → Prop) : Prop := h.rs.Bk P ∧ h.sg.Bk P
theorem Hd.Bk.mono {h : Hd} {P P' : Nat → Prop} (k : h.Bk P) (hp : ∀ b, P b → P' b) : h.Bk P' := ⟨k.1.mono hp, k.2.mono hp⟩
theorem Hd.At.on {w w' : World} {h : Hd} {P : Nat → Prop} (k : h.At w) (hs : w.heap.size ≤ w'.heap.size) (hb : h.Bk P) (hp : ∀ b, P b → b < w.heap.size → w'.heap[b]? = w.heap[b]?) : h.At w' := ⟨Sl.At.on k.1 hs hb.1 hp, Sl.At.on k.2 hs hb.2 hp⟩
set_option maxRecDepth 100000 in
set_option maxHeartbeats 1000000 in
theorem rheldS (Q R : Nat) (s : Rst) (w : World) (h : RS w Q R s) (hl : s.1.length ≤ 40000) : Calls Tryz.prog 101 #[.pointer (some ⟨Q, 0, none⟩)] w fun en w' => ∃ y : Hd, en = .returned (.agg y.cells.toArray) ∧ y.pure = (heS s).1 ∧ y.At w' ∧ y.Bk (fun b => w.heap.size ≤ b ∧ b < w'.heap.size) ∧ y.vt.ok ∧ RS w' Q R (heS s).2 ∧ Kept w R Q w' := by
 obtain ⟨zc, hzl, hzr⟩ : ∃ z : List Value, z.length = 39 ∧ ∀ w : World, (zeroValue 129).run Tryz.prog w = .ok (.agg z.toArray) w := ⟨_, by decide, zeroHdE⟩
 have cb := fun w0 h0 => bgetS Q R s w0 h0 hl
 have hln := baS_len s
 unfold heS
 generalize baS s = p_ at cb hln ⊢
 obtain ⟨⟨q, rs⟩, t⟩ := p_
 simp only at cb hln ⊢
 have cc := fun w0 h0 => rcertS Q R t w0 h0 (Nat.le_trans hln hl)
 generalize ceS t = p_ at cc ⊢
 obtain ⟨⟨vt, sg⟩, t'⟩ := p_
 simp only at cc ⊢
 clear hln
 obtain ⟨hB1, hr1, hs1⟩ := boxed_new w zc 129
 have ht1 := there_newN w zc.toArray 129 (n := 39) (by simp [hzl])
 have hRw := h.st.1.1
 have hQw := h.mr.lt
 go_enter Tryz.func101, Tryz.ntmps101
 go_upto_region 0 with fail
 try simp only [Act.put]
 refine pl_begin ?_
 refine pl_run (d := some 2) (v := .pointer (some ⟨w.heap.size, 0, none⟩)) (w' := w.alloc (.cells zc.toArray 129)) (by rfl) (ex_alloc rfl (hzr _)) rfl ?_
 simp only [nz]
 refine pl_nil ?_
 obtain ⟨W1, hW1⟩ : ∃ W, w.alloc (.cells zc.toArray 129) = W := ⟨_, rfl⟩
 rw [hW1] at hB1 hr1 hs1 ht1 ⊢
 clear hW1 hr1 hzr hzl
 have S1 := h.below hB1
 go_upto_region 1 with fail
 try simp only [Act.put]
 refine pl_begin ?_
 refine pl_t 3 (?_) (by rfl) ?_ rfl ?_
 rotate_left
 ·go_simp
  try with_reducible rfl
 simp only [nz]
 refine pl_t 4 (?_) (by rfl) ?_ rfl ?_
 rotate_left
 ·go_simp
  try with_reducible rfl
 simp only [nz]
 refine pl_t 5 (?_) (by rfl) ?_ rfl ?_
 rotate_left
 ·go_simp
  try with_reducible rfl
 simp only [nz]
 refine pl_t 6 (.pointer (some ⟨R, 0, none⟩)) (by rfl) (pl_one rfl rfl S1.mr.c0 Tryz.underlying142 rfl) rfl ?_
 simp only [nz]
 refine pl_call (d := some 7) (by rfl) (by go_simp; first | done | exact ⟨rfl, rfl⟩ | with_reducible rfl) rfl ?_
 refine (cb W1 S1).mono ?_
 rintro _ w2 ⟨x, rfl, hx, hA, hB, S2, k2⟩
 refine ⟨_, rfl, ?_⟩
 simp only [nz]
 refine pl_t 8 (?_) (by rfl) ?_ rfl ?_
 rotate_left
 ·go_simp
  try with_reducible rfl
 simp only [nz]
 refine pl_call (d := some 9) (by rfl) (by go_simp; first | done | exact ⟨rfl, rfl⟩ | with_reducible rfl) rfl ?_
 refine (cc w2 S2).mono ?_
 rintro _ w3 ⟨y, rfl, hy, hC, hD, hvt, S3, k3⟩
 refine ⟨_, rfl, ?_⟩
 simp only [nz]
 have k8 : Kept w R Q w3 := (((Kept.refl w R Q).below hB1).trans k2).trans k3
 have thA : w3.there w.heap.size 0 39 := there_blk (there_blk ht1 (k2.block _ hs1 (by omega) (by omega))) (k3.block _ (Nat.lt_of_lt_of_le hs1 k2.size) (by omega) (by omega))
 have hvl : (certL vt y).length = 37 := by have := hvt.len; simp [certL]; omega
 have hbs := fun w0 => build_held q x.val (certL vt y) hvl rfl w0
 have hpl : (Value.bool q :: x.val :: certL vt y).length = 39 := by simp [hvl]
 have hip : (Tryz.prog.info? 129).map (·.size) = some (Value.bool q :: x.val :: certL vt y).length := by rw [hpl]; exact iszH
 have hp1 : ∀ v ∈ Value.bool q :: x.val :: certL vt y, v.oneCell' = true := HdE.one ⟨q, x, vt, y⟩
 have hA3 : x.At RqE w3 := hA.kept k3 (n := W1.heap.size) (by omega) (by omega) hB (fun b hb => hb.1)
 obtain ⟨pc, hpc⟩ : ∃ p, Hid (Value.bool q :: x.val :: certL vt y = p) := ⟨_, hide rfl⟩
 simp only [hpc.out] at hbs hpl hip hp1
 refine pl_t 10 (.agg pc.toArray) (by rfl) (ex_build (parts := [(0, .tmp 7), (1, .tmp 9)]) rfl rfl (hbs _)) rfl ?_
 simp only [nz]
 refine pl_store (w' := w3.setCells w.heap.size 0 pc) (by rfl) (ex_put (cs := pc.toArray) rfl rfl rfl (by simpa [hpl] using thA) (by simpa using hip) (all_one hp1)) rfl ?_
 refine pl_nil ?_
 have hlow : Below w.heap.size w3 (w3.setCells w.heap.size 0 pc) := below_sets (Nat.le_refl _) pc 0 _ (Below.refl _ w3)
 have hrs := run_loadVar_mid (P := Tryz.prog) (w3.setCells w.heap.size 0 pc) w.heap.size 0 129 pc _ (World.rangeAt_setCells_same w3 w.heap.size 0 pc (by rw [hpl]; exact thA)) Tryz.underlying129 rfl hip
 have HF : Hid (∃ g : Hd, Ending.returned (.agg pc.toArray) = .returned (.agg g.cells.toArray) ∧ g.pure = ⟨q, rs, vt, sg⟩ ∧ g.At (w3.setCells w.heap.size 0 pc) ∧ g.Bk (fun b => w.heap.size ≤ b ∧ b < (w3.setCells w.heap.size 0 pc).heap.size) ∧ g.vt.ok ∧ RS (w3.setCells w.heap.size 0 pc) Q R t' ∧ Kept w R Q (w3.setCells w.heap.size 0 pc)) := by
  have z2 := k2.size
  have z3 := k3.size
  have hBk : Hd.Bk ⟨q, x, vt, y⟩ (fun b => W1.heap.size ≤ b ∧ b < w3.heap.size) := ⟨hB.mono (fun b hb => ⟨hb.1, by omega⟩), hD.mono (fun b hb => ⟨by omega, hb.2⟩)⟩
  refine hide ⟨⟨q, x, vt, y⟩, by rw [← hpc.out]; rfl, by rw [← hx, ← hy]; rfl, Hd.At.on ⟨hA3, hC⟩ (by rw [size_sets]; exact Nat.le_refl _) hBk (fun b hb hlt => blk_sets (by omega)), hBk.mono (fun b hb => ⟨by omega, by rw [size_sets]; exact hb.2⟩), hvt, S3.low hlow hQw, k8.low hlow (Nat.le_refl _)⟩
 clear hA hB S3 k3 S2 k2 hpc hbs hx k8 hA3 hC hD hy
 go_wp2_with fail
 refine bodyPost_ret (v := .agg pc.toArray) ?_ rfl ?_
 ·simp [results, Tryz.results101, Act.put, asAddr, hrs]
 ·exact HF.out
theorem numRS (Q R : Nat) (most : Int) (s : Rst) (w : World) (h : RS w Q R s) : Calls Tryz.prog 60 #[.pointer (some ⟨R, 0, none⟩), .int .i64 most] w fun en w' => en = .returned (.int .i64 (nuS most s).1) ∧ RS w' Q R (nuS most s).2 ∧ Kept w R Q w' :=
 (num_any R s.1 s.2.1 most w h.st).mono (by rintro _ w1 ⟨rfl, h1, h2⟩; exact ⟨rfl, h.gb h2 h1, Kept.of h2⟩)
def kiS (most : Int) (s : Rst) : Int × Rst := ((numS s.1 s.2.1 most).1, (numS s.1 s.2.1 most).2.1, (numS s.1 s.2.1 most).2.2, kdZ s.1 s.2.1 most s.2.2)
def dgS (s : Rst) : List Int × Rst := (padN 32 (rawS s.1 s.2.1 32).1, (rawS s.1 s.2.1 32).2.1, (rawS s.1 s.2.1 32).2.2, s.2.2)
def txS (most : Int) (s : Rst) : ByteArray × Rst := (strOf (textS s.1 s.2.1 most).1, (textS s.1 s.2.1 most).2.1, (textS s.1 s.2.1 most).2.2, s.2.2)
theorem kiS_len (most : Int) (s : Rst) : (kiS most s).2.1.length ≤ s.1.length := numS_len _ _ _
theorem dgS_len (s : Rst) : (dgS s).2.1.length ≤ s.1.length := rawS_len _ _ _
theorem txS_len (most : Int) (s : Rst) : (txS most s).2.1.length ≤ s.1.length := textS_len _ _ _
theorem dgS_ok (s : Rst) (hb : s.2.1 = 0 → Bs s.1) : (dgS s).1.length = 32 ∧ ∀ z ∈ (dgS s).1, 0 ≤ z ∧ z < 256 := ⟨padN_len _ _, padN_bs (rawS_t hb)⟩
theorem kindRS (Q R : Nat) (most : Int) (s : Rst) (w : World) (h : RS w Q R s) : Calls Tryz.prog 59 #[.pointer (some ⟨Q, 0, none⟩), .int .i64 most] w fun en w' => en = .returned (.int .i64 (kiS most s).1) ∧ RS w' Q R (kiS most s).2 ∧ Kept w R Q w' :=
 (rkind_any Q R s.2.2 s.1 s.2.1 most w h.st h.mr h.qt).mono (by rintro _ w1 ⟨rfl, h1, h2, h3, h4⟩; exact ⟨rfl, ⟨h1, h2, h4⟩, h3⟩)
theorem digRS (Q R : Nat) (s : Rst) (w : World) (h : RS w Q R s) (hl : s.1.length ≤ 40000) : Calls Tryz.prog 66 #[.pointer (some ⟨Q, 0, none⟩)] w fun en w' => en = .returned (.agg (v8 (dgS s).1).toArray) ∧ RS w' Q R (dgS s).2 ∧ Kept w R Q w' :=
 (rdigest_any Q R s.2.2 s.1 s.2.1 w h.st h.mr hl).mono (by rintro _ w1 ⟨rfl, h1, h2⟩; exact ⟨rfl, h.gb h2 h1, Kept.of h2⟩)
theorem textRS (Q R : Nat) (most : Int) (s : Rst) (w : World) (h : RS w Q R s) : Calls Tryz.prog 68 #[.pointer (some ⟨R, 0, none⟩), .int .i64 most] w fun en w' => en = .returned (.string (txS most s).1) ∧ RS w' Q R (txS most s).2 ∧ Kept w R Q w' :=
 (text_any R s.1 s.2.1 most w h.st h.st.pos).mono (by rintro _ w1 ⟨rfl, h1, h2⟩; exact ⟨rfl, h.gb h2 h1, Kept.of h2⟩)
structure LH (w : World) (Q R : Nat) (t : Rst) (k : Nat) (v : Value) (W : World) : Prop where
 ex : ∃ ys : List Hd, ys.map Hd.pure = (itG heS t k).1 ∧ W.ownsRow w.heap.size 129 39 v k (ys.flatMap Hd.cells) ∧ ∀ y ∈ ys, y.vt.ok ∧ y.At W ∧ y.Bk (fun b => w.heap.size ≤ b ∧ b < W.heap.size ∧ v.ownBlock ≠ some b)
 rs : RS W Q R (itG heS t k).2
 kept : Kept w R Q W
def infoHd0 : List Value := [Value.bool false, .slice none 0 0] ++ (Vt.zero.cells ++ [Value.slice none 0 0])
theorem infoHd : (Tryz.prog.info? 129).map (fun i => (i.zero, i.size, i.bytes)) = some (some (.agg infoHd0.toArray), 39, 120) := by kernel_rfl
theorem zk_held : (Value.agg infoHd0.toArray).cells.size = 39 := by decide
theorem LH.step {w wr w4 w5 w6 : World} {Q R k : Nat} {t : Rst} {v v6 : Value} {y : Hd} (hQ : Q < w.heap.size) (hR : R < w.heap.size) (H : LH w Q R t k v wr) (e1 : y.pure = (heS (itG heS t k).2).1) (hy : y.At w4) (hB : y.Bk (fun b => wr.heap.size ≤ b ∧ b < w4.heap.size)) (hvt : y.vt.ok) (S4 : RS w4 Q R (heS (itG heS t k).2).2) (k4 : Kept wr R Q w4)
  (hb5 : Below w4.heap.size w4 w5) (g6 : w5.grownBy w6 v.ownBlock) (gb : ∀ g, v6.ownBlock = some g → v.ownBlock = some g ∨ w5.heap.size ≤ g) {ys : List Hd} (e2 : ys.map Hd.pure = (itG heS t k).1) (o3 : wr.ownsRow w.heap.size 129 39 v k (ys.flatMap Hd.cells)) (hys : ∀ y ∈ ys, y.vt.ok ∧ y.At wr ∧ y.Bk (fun b => w.heap.size ≤ b ∧ b < wr.heap.size ∧ v.ownBlock ≠ some b)) (o6 : w6.ownsRow w.heap.size 129 39 v6 (k + 1) (ys.flatMap Hd.cells ++ y.cells)) : LH w Q R t (k + 1) v6 w6 := by
 have z4 := k4.size
 have z5 := hb5.size
 have z6 := g6.size
 have zk := H.kept.size
 have bl : ∀ b, b < w4.heap.size → v.ownBlock ≠ some b → w6.heap[b]? = w4.heap[b]? := fun b h1 h2 => (g6.block b (by omega) (fun q => h2 q.symm)).trans (hb5.block b h1)
 have low : Below w.heap.size w4 w6 := own_low (B := w.heap.size) (hb5.mono (by omega)) (by omega) ((own_kept o3 k4 (by omega) (by omega)).kept (row := none) ⟨hb5.os, hb5.tape, hb5.output, hb5.size, fun b h1 _ => hb5.block b h1⟩ (by cases v.ownBlock <;> simp)) g6
 refine ⟨⟨ys ++ [y], ?_, ?_, ?_⟩, S4.low low hQ, (H.kept.trans k4).low low (Nat.le_refl _)⟩
 ·rw [List.map_append, e2]
  show _ = (itG heS t k).1 ++ [(heS (itG heS t k).2).1]
  rw [← e1]
  rfl
 ·rw [List.flatMap_append]
  simpa using o6
 ·intro u hu
  rcases List.mem_append.1 hu with g | g
  ·obtain ⟨u1, u2, u3⟩ := hys u g
   refine ⟨u1, u2.on (by omega) u3 (fun b hb hlt => (bl b (by omega) hb.2.2).trans (k4.block b hlt (by omega) (by omega))), u3.mono (fun b hb => ⟨hb.1, by omega, fun q => ?_⟩)⟩
   rcases gb b q with g1 | g1
   ·exact hb.2.2 g1
   ·omega
  ·rw [List.mem_singleton.1 g]
   have nb : ∀ b, wr.heap.size ≤ b → v.ownBlock ≠ some b := fun b hb q => by have := (o3.lt b q).2; omega
   refine ⟨hvt, hy.on (by omega) hB (fun b hb hlt => bl b hlt (nb b hb.1)), hB.mono (fun b hb => ⟨by omega, by omega, fun q => ?_⟩)⟩
   rcases gb b q with g1 | g1
   ·exact nb b hb.1 g1
   ·omega
set_option maxRecDepth 100000 in
set_option maxHeartbeats 1000000 in
theorem rlistH_any (Q R : Nat) (s : Rst) (w : World) (h : RS w Q R s) (hl : s.1.length ≤ 40000) : Calls Tryz.prog 100 #[.func (.func 60) #[.pointer (some ⟨R, 0, none⟩)] #[], .int .i64 4, .func (.func 101) #[.pointer (some ⟨Q, 0, none⟩)] #[]] w fun en w' => ∃ x : Sl Hd, en = .returned x.val ∧ x.xs.map Hd.pure = (lsS 4 heS s).1 ∧ HdsAt w' x ∧ x.Bk (fun b => w.heap.size ≤ b ∧ b < w'.heap.size) ∧ (∀ y ∈ x.xs, y.Bk (fun b => w.heap.size ≤ b ∧ b < w'.heap.size)) ∧ RS w' Q R (lsS 4 heS s).2 ∧ Kept w R Q w' := by
 obtain ⟨i1, hi1, hiz, his, hib⟩ := info_parts infoHd
 have hzk := zk_held
 have hRw := h.st.1.1
 have hQw := h.mr.lt
 have cn := fun w0 h0 => numRS Q R 4 s w0 h0
 have hx1 : 0 ≤ (nuS 4 s).1 ∧ (nuS 4 s).1 ≤ 4 := numS_bd (most := 4) h.st.bs (by omega)
 have hx2 := nuS_len 4 s
 unfold lsS
 generalize nuS 4 s = p_ at hx1 hx2 cn ⊢
 obtain ⟨n, t⟩ := p_
 simp only at hx1 hx2 cn ⊢
 obtain ⟨N, rfl⟩ : ∃ N : Nat, n = (N : Int) := ⟨n.toNat, by omega⟩
 have hN : N ≤ 4 := by omega
 rw [Int.toNat_natCast]
 have hlt2 : t.1.length ≤ 40000 := Nat.le_trans hx2 hl
 clear hx1 hx2 hl
 go_enter Tryz.func100, Tryz.ntmps100
 go_upto_region 1 with fail
 try simp only [Act.put]
 refine pl_begin ?_
 refine pl_t 9 (?_) (by rfl) ?_ rfl ?_
 rotate_left
 ·go_simp
  try with_reducible rfl
 simp only [nz]
 refine pl_t 10 (?_) (by rfl) ?_ rfl ?_
 rotate_left
 ·go_simp
  try with_reducible rfl
 simp only [nz]
 refine pl_call (d := some 11) (by rfl) (by go_simp; first | done | exact ⟨rfl, rfl⟩ | with_reducible rfl) rfl ?_
 refine (cn w h).mono ?_
 rintro _ w2 ⟨rfl, S2, k2⟩
 refine ⟨_, rfl, ?_⟩
 simp only [nz]
 refine pl_t 7 (?_) (by rfl) ?_ rfl ?_
 rotate_left
 ·go_simp
  try with_reducible rfl
 simp only [nz]
 refine pl_nil ?_
 clear cn
 go_upto_region 2 with fail
 try simp only [Act.put]
 refine pl_begin ?_
 refine pl_t 12 (?_) (by rfl) ?_ rfl ?_
 rotate_left
 ·go_simp
  try with_reducible rfl
 simp only [nz]
 refine pl_runX (d := some 13) (by rfl) rfl (ex_mk (B := w.heap.size) (c := (N : Int)) rfl rfl (by omega) (by omega) Tryz.underlying102 hi1 hiz his (by rw [hib]; decide) k2.size) ?_
 rintro v3 w3 ⟨o3, g3⟩
 simp only [nz]
 refine pl_t 8 (?_) (by rfl) ?_ rfl ?_
 rotate_left
 ·go_simp
  try with_reducible rfl
 simp only [nz]
 refine pl_nil ?_
 have hb3 : Below w2.heap.size w2 w3 := (Below.refl _ _).grown g3 (Nat.le_refl _) (fun k hk => by cases hk)
 have HL0 : Hid (LH w Q R t 0 v3 w3) := hide ⟨⟨[], rfl, o3, fun y hy => by cases hy⟩, S2.below hb3, k2.below hb3⟩
 clear o3 g3 hb3 S2 k2 h
 go_wp2_with fail
 go_loopw [8, 15] (fun ov iv wr => ∃ k : Nat, k ≤ N ∧ iv = .int .i64 (k : Int) ∧ Hid (LH w Q R t k ov wr)) (fun _ iv _ => N - (intOf iv).toNat)
 case atStart => exact ⟨0, by omega, rfl, HL0⟩
 case round =>
  clear HL0
  obtain ⟨k, hk, rfl, HL⟩ := hrel
  by_cases hlt : k < N
  ·have k1 : (k : Int) < N := by omega
   have HL := HL.out
   have hle := Nat.le_trans (itG_len heS_len t k) hlt2
   have cE := rheldS Q R (itG heS t k).2 wr HL.rs hle
   go_upto_region 5 with fail
   try simp only [Act.put]
   refine pl_begin ?_
   refine pl_t 17 (?_) (by rfl) ?_ rfl ?_
   rotate_left
   ·go_simp
    try with_reducible rfl
   simp only [nz]
   refine pl_t 18 (?_) (by rfl) ?_ rfl ?_
   rotate_left
   ·go_simp
    try with_reducible rfl
   simp only [nz]
   refine pl_call (d := some 19) (by rfl) (by go_simp; first | done | exact ⟨rfl, rfl⟩ | with_reducible rfl) rfl ?_
   refine (cE).mono ?_
   rintro _ w4 ⟨y, rfl, e4, a4, B4, vt4, S4, k4⟩
   refine ⟨_, rfl, ?_⟩
   simp only [nz]
   obtain ⟨ys, e2, o3, hys⟩ := HL.ex
   have o4 := own_kept o3 k4 (by omega) (by omega)
   have hul : y.cells.length = 39 := HdE.len y vt4
   have hone := HdE.one y
   have hone : ∀ v ∈ y.cells, v.oneCell' = true := hone
   obtain ⟨u, hu⟩ : ∃ u, Hid (y.cells = u) := ⟨_, hide rfl⟩
   rw [hu.out] at hul hone ⊢
   have hb5 : Below w4.heap.size w4 (w4.alloc (.cells u.toArray 129)) := (Below.refl _ _).alloc (Nat.le_refl _) _
   have r5 : (w4.alloc (.cells u.toArray 129)).rangeAt w4.heap.size 0 u := by simpa using range_new w4 u.toArray 129
   have o5 := o4.alloc (.cells u.toArray 129)
   refine pl_run (d := some 20) (v := .slice (some ⟨w4.heap.size, 0, none⟩) 1 1) (w' := w4.alloc (.cells u.toArray 129)) (by rfl) (exec_bs1 rfl rfl (run_bs1 102 129 i1 _ u Tryz.underlying102 hi1 hiz (by rw [his, hul]) (by omega) (by omega) _)) rfl ?_
   simp only [nz]
   have s4 : w.heap.size ≤ w4.heap.size := Nat.le_trans HL.kept.size k4.size
   obtain ⟨w5, hw5⟩ : ∃ W, w4.alloc (.cells u.toArray 129) = W := ⟨_, rfl⟩
   rw [hw5] at hb5 r5 o5 ⊢
   clear hw5
   refine pl_runX (d := some 21) (by rfl) rfl (ex_app1 rfl rfl rfl Tryz.underlying102 hi1 hiz his (by rw [hib]; decide) rfl o5 (Nat.le_trans s4 hb5.size) r5 hul hone (by omega) hzk) ?_
   rintro v6 w6 ⟨o6, g6, gb6⟩
   simp only [nz]
   refine pl_t 8 (?_) (by rfl) ?_ rfl ?_
   rotate_left
   ·go_simp
    try with_reducible rfl
   simp only [nz]
   refine pl_nil ?_
   have HL6 : Hid (LH w Q R t (k + 1) v6 w6) := hide (HL.step hQw hRw e4 a4 B4 vt4 S4 k4 hb5 g6 gb6 e2 o3 hys (by rw [hu.out]; exact o6))
   clear HL o3 o4 o5 o6 g6 S4 k4 hb5 r5 cE a4 B4 vt4 e4 e2 hys hu
   go_wp2_with fail
   go_roundw
   case rel => exact ⟨k + 1, by omega, by go_num, HL6⟩
   case measure => simp [intOf]; omega
  ·obtain rfl : k = N := by omega
   have HL := HL.out
   obtain ⟨ys, e2, o3, hys⟩ := HL.ex
   have hlen : ys.length = k := by
    have := congrArg List.length e2
    rwa [List.length_map, itG_length] at this
   obtain ⟨x, rfl, hx, hA, hB⟩ := own_rows (E := HdE) (ys := ys) (by rw [hlen]; exact o3) (fun y hy => (hys y hy).1) (by rw [hlen]; unfold maxLen; omega)
   have HF : Hid (∃ g : Sl Hd, Ending.returned x.val = .returned g.val ∧ g.xs.map Hd.pure = (itG heS t k).1 ∧ HdsAt wr g ∧ g.Bk (fun b => w.heap.size ≤ b ∧ b < wr.heap.size) ∧ (∀ y ∈ g.xs, y.Bk (fun b => w.heap.size ≤ b ∧ b < wr.heap.size)) ∧ RS wr Q R (itG heS t k).2 ∧ Kept w R Q wr) := hide ⟨x, rfl, by rw [hx]; exact e2, ⟨hA, fun y hy => by rw [hx] at hy; exact (hys y hy).2.1⟩, fun b _ hb => ⟨(hB b hb).1, (hB b hb).2.1⟩, fun y hy => by rw [hx] at hy; exact (hys y hy).2.2.mono (fun b hb => ⟨hb.1, hb.2.1⟩), HL.rs, HL.kept⟩
   clear HL hA hB hx e2 o3 hys
   go_wp2_with fail
   go_ret
   exact HF.out
end Go.Proofs.YtilbjeeabecfjaaGreat
