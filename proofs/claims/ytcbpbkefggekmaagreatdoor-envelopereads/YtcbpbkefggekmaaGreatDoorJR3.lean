/- Good of a message that is its own bare one; Encode; message.Vote, message.Mark; the document's only, at votes and marks; the document's putVote, bytes, Encode,  -/
import Derived.Test.YtcbpbkefggekmaaGreatDoorJR0
import Derived.Test.YtcbpbkefggekmaaGreatDoorJR2
import Derived.Test.YtcbpbkefggekmaaGreatDoorJR1
import Derived.BigQuiet
import Derived.Lib.ConvBytes
import Derived.Laws.ResultCell
namespace Go.Proofs.YtcbpbkefggekmaaGreatDoor
open Go.RowKit
open Sha Tal
set_option maxRecDepth 100000 in
set_option maxHeartbeats 4000000 in
theorem good0 (q : List Value) (k : Int) (b : Bool) (w : World) (hq : q.length = 119) (h0 : q[0]? = some (.int .i64 k)) (h1 : 1 ≤ k) (h8 : k ≤ 8)
  (hb : ∀ w, Calls Tryz.prog 85 #[.agg q.toArray] w (BareOk w q))
  (hsm : ∀ w, Calls Tryz.prog 84 #[.agg q.toArray, .agg q.toArray] w fun e w' => e = .returned (.bool true) ∧ Below w.heap.size w w')
  (hf : ∀ w, Calls Tryz.prog 86 #[.agg q.toArray] w fun e w' => e = .returned (.bool b) ∧ Below w.heap.size w w') :
  Calls Tryz.prog 57 #[.agg q.toArray] w fun e w' => e = .returned (.bool b) ∧ Below w.heap.size w w' := by
 have hB : Below w.heap.size w (w.alloc (.cells q.toArray 52)) := (Below.refl _ _).alloc (Nat.le_refl _) _
 have hs : w.heap.size < (w.alloc (.cells q.toArray 52)).heap.size := by simp
 have hA : (w.alloc (.cells q.toArray 52)).rangeAt w.heap.size 0 q := by simpa using range_new w q.toArray 52
 have c0 := hA 0 _ h0
 simp only [Nat.add_zero] at c0
 have iq : (Tryz.prog.info? 52).map (·.size) = some q.length := by rw [hq]; exact iszM
 clear hq h0
 go_enter Tryz.func57, Tryz.ntmps57
 go_upto_region 2 with fail
 obtain ⟨w8, hw8⟩ : ∃ w8, (w.alloc (.cells q.toArray 52)).drew = w8 := ⟨_, rfl⟩
 have hB8 : Below w.heap.size w w8 := by rw [← hw8]; exact hB.drew
 have hA8 : w8.rangeAt w.heap.size 0 q := by rw [← hw8]; exact (World.rangeAt_drew _ _ _ _).2 hA
 have hs8 : w.heap.size < w8.heap.size := by rw [← hw8]; exact hs
 refine hs_begin (S := (Below w8.heap.size w8)) 12 rfl (by kernel_rfl) ?_
 rw [hw8]
 clear hw8 hA hB hs c0
 have hS : (Below w8.heap.size w8) w8 := Below.refl _ _
 refine hs_t 0 12 (?_) rfl (by kernel_rfl) (by kernel_rfl) (by kernel_rfl) (by rfl) ?_ hS rfl ?_
 rotate_left
 ·intro w' hw
  go_simp
  try with_reducible rfl
 simp only [nz]
 refine hs_t 1 13 (?_) rfl (by kernel_rfl) (by kernel_rfl) (by kernel_rfl) (by rfl) ?_ hS rfl ?_
 rotate_left
 ·intro w' hw
  go_simp
  try with_reducible rfl
 simp only [nz]
 refine hs_t 2 14 (.agg q.toArray) rfl (by kernel_rfl) (by kernel_rfl) (by kernel_rfl) (by rfl) (fun w' hw => exec_loadC rfl rfl (run_loadVar_mid (P := Tryz.prog) w' w.heap.size 0 52 q _ (range_below hA8 hw hs8) Tryz.underlying52 rfl iq)) hS rfl ?_
 simp only [nz]
 refine hs_t 3 15 (.agg q.toArray) rfl (by kernel_rfl) (by kernel_rfl) (by kernel_rfl) (by rfl) (fun w' hw => exec_loadC rfl rfl (run_loadVar_mid (P := Tryz.prog) w' w.heap.size 0 52 q _ (range_below hA8 hw hs8) Tryz.underlying52 rfl iq)) hS rfl ?_
 simp only [nz]
 refine hs_call (i := 4) (d := some 16) rfl (by kernel_rfl) (by rfl) (by go_simp; first | done | exact ⟨rfl, rfl⟩ | with_reducible rfl) rfl ?_
 refine (hb _).mono ?_
 rintro e' wn1 ⟨rfl, hb1⟩
 have hS : (Below w8.heap.size w8) wn1 := hS.trans (hb1.mono hS.size)
 refine ⟨_, rfl, hS, ?_⟩
 simp only [nz]
 refine hs_call (i := 5) (d := some 17) rfl (by kernel_rfl) (by rfl) (by go_simp; first | done | exact ⟨rfl, rfl⟩ | with_reducible rfl) rfl ?_
 refine (hsm _).mono ?_
 rintro e' wn2 ⟨rfl, hb2⟩
 have hS : (Below w8.heap.size w8) wn2 := hS.trans (hb2.mono hS.size)
 refine ⟨_, rfl, hS, ?_⟩
 simp only [nz]
 refine hs_t 6 18 (?_) rfl (by kernel_rfl) (by kernel_rfl) (by kernel_rfl) (by rfl) ?_ hS rfl ?_
 rotate_left
 ·intro w' hw
  go_simp
  try with_reducible rfl
 simp only [nz]
 refine hs_t 7 19 (?_) rfl (by kernel_rfl) (by kernel_rfl) (by kernel_rfl) (by rfl) ?_ hS rfl ?_
 rotate_left
 ·intro w' hw
  go_simp
  try with_reducible rfl
 simp only [nz]
 refine hs_t 8 20 (.agg q.toArray) rfl (by kernel_rfl) (by kernel_rfl) (by kernel_rfl) (by rfl) (fun w' hw => exec_loadC rfl rfl (run_loadVar_mid (P := Tryz.prog) w' w.heap.size 0 52 q _ (range_below hA8 hw hs8) Tryz.underlying52 rfl iq)) hS rfl ?_
 simp only [nz]
 refine hs_call (i := 9) (d := some 21) rfl (by kernel_rfl) (by rfl) (by go_simp; first | done | exact ⟨rfl, rfl⟩ | with_reducible rfl) rfl ?_
 refine (hf _).mono ?_
 rintro e' wn3 ⟨rfl, hb3⟩
 have hS : (Below w8.heap.size w8) wn3 := hS.trans (hb3.mono hS.size)
 refine ⟨_, rfl, hS, ?_⟩
 simp only [nz]
 refine hs_t 10 22 (?_) rfl (by kernel_rfl) (by kernel_rfl) (by kernel_rfl) (by rfl) ?_ hS rfl ?_
 rotate_left
 ·intro w' hw
  go_simp
  try with_reducible rfl
 simp only [nz]
 refine hs_t 11 2 (?_) rfl (by kernel_rfl) (by kernel_rfl) (by kernel_rfl) (by rfl) ?_ hS rfl ?_
 rotate_left
 ·intro w' hw
  go_simp
  try with_reducible rfl
 simp only [nz]
 refine hs_done (by kernel_rfl) ?_
 go_wp2
 go_ret
 exact ⟨rfl, hB8.trans (hS.mono (by omega))⟩
theorem nil_str (w : World) : (convert 59 9 (.slice none 0 0)).run Tryz.prog w = .ok (.string (strOf [])) w := by kernel_rfl
set_option maxRecDepth 100000 in
theorem mine_str {w : World} {B : Nat} {v : Value} {zs : List Int} (h : Mine w B v zs) : (convert 59 9 v).run Tryz.prog w = .ok (.string (strOf zs)) w := by
 rcases own_range h.1 with ⟨rfl, h0, _⟩ | ⟨g, cap, rfl, _, _, _, _, hr⟩
 ·have : zs = [] := List.eq_nil_of_length_eq_zero h0
  subst this
  exact nil_str w
 ·exact row_str hr
theorem wr_new (w : World) : WrAt (w.alloc (.cells #[.slice none 0 0, .bool false] 116)) w.heap.size (.slice none 0 0) [] false where
 lt := by simp
 c0 := by have := range_new w #[.slice none 0 0, .bool false] 116 0 _ rfl; exact this
 c1 := by have := range_new w #[.slice none 0 0, .bool false] 116 1 _ rfl; exact this
 th := there_new w #[.slice none 0 0, .bool false] 116
 me := ⟨World.ownsRow_nil _ _ _ _, by simp⟩
def encV (b : Bool) (zs : List Int) : Value := if b then .tuple #[.string (strOf zs), .int .i64 0] else .tuple #[.string ⟨#[]⟩, .int .i64 130]
def Writes (q : List Value) (zs : List Int) : Prop := ∀ (X : Nat) (w : World), WrAt w X (.slice none 0 0) [] false → Calls Tryz.prog 58 #[.pointer (some ⟨X, 0, none⟩), .agg q.toArray] w fun e w' => ∃ v', e = .returned (.tuple #[]) ∧ WrAt w' X v' zs false ∧ Off (WrF X (.slice none 0 0)) w w' ∧ RowOn w (.slice none 0 0) v'
set_option maxRecDepth 100000 in
set_option maxHeartbeats 4000000 in
theorem enc0 (q : List Value) (b : Bool) (zs : List Int) (w : World) (hq : q.length = 119)
  (hg : ∀ w, Calls Tryz.prog 57 #[.agg q.toArray] w fun e w' => e = .returned (.bool b) ∧ Below w.heap.size w w') (hw : b = true → Writes q zs) :
  Calls Tryz.prog 22 #[.agg q.toArray] w fun e w' => e = .returned (encV b zs) ∧ Below w.heap.size w w' := by
 have hB : Below w.heap.size w (w.alloc (.cells q.toArray 52)) := (Below.refl _ _).alloc (Nat.le_refl _) _
 have hs : w.heap.size < (w.alloc (.cells q.toArray 52)).heap.size := by simp
 have hA : (w.alloc (.cells q.toArray 52)).rangeAt w.heap.size 0 q := by simpa using range_new w q.toArray 52
 have iq : (Tryz.prog.info? 52).map (·.size) = some q.length := by rw [hq]; exact iszM
 clear hq
 cases b
 ·show Calls Tryz.prog 22 #[.agg q.toArray] w fun e w' => e = .returned (.tuple #[.string ⟨#[]⟩, .int .i64 130]) ∧ Below w.heap.size w w'
  clear hw
  go_enter Tryz.func22, Tryz.ntmps22
  go_upto_region 1 with fail
  go_name_world w1 hw1
  rw [show w.alloc (.cells q.toArray 52) = w1 from hw1] at hB hs hA
  clear hw1
  go_wp2_with (refine wpList_load_mid rfl 52 _ rfl _ _ rfl q _ hA Tryz.underlying52 rfl iq ?_)
  refine (hg _).mono ?_
  rintro e2 w2 ⟨rfl, hb2⟩
  have hB2 := hB.trans (hb2.mono (by omega))
  clear hA hg hB hb2
  go_wp2
  go_ret2
  exact ⟨rfl, hB2⟩
 ·show Calls Tryz.prog 22 #[.agg q.toArray] w fun e w' => e = .returned (.tuple #[.string (strOf zs), .int .i64 0]) ∧ Below w.heap.size w w'
  replace hw := hw rfl
  obtain ⟨sz, hsz⟩ : ∃ sz, Hid (strOf zs = sz) := ⟨_, hide rfl⟩
  rw [hsz.out]
  go_enter Tryz.func22, Tryz.ntmps22
  go_upto_region 1 with fail
  go_name_world w1 hw1
  rw [show w.alloc (.cells q.toArray 52) = w1 from hw1] at hB hs hA
  clear hw1
  go_wp2_with (refine wpList_load_mid rfl 52 _ rfl _ _ rfl q _ hA Tryz.underlying52 rfl iq ?_)
  refine (hg _).mono ?_
  rintro e2 w2 ⟨rfl, hb2⟩
  have hB2 := hB.trans (hb2.mono (by omega))
  have hA2 := range_below hA hb2 hs
  have hs2 := Nat.lt_of_lt_of_le hs hb2.size
  clear hA hg hB hb2 hs
  go_upto_region 4 with fail
  have hN := wr_new w2
  have hB3 : Below w2.heap.size w2 (w2.alloc (.cells #[.slice none 0 0, .bool false] 116)) := (Below.refl _ _).alloc (Nat.le_refl _) _
  go_name_world w3 hw3
  rw [show w2.alloc (.cells #[.slice none 0 0, .bool false] 116) = w3 from hw3] at hN hB3
  clear hw3
  have hA3 := range_below hA2 hB3 hs2
  have hB4 := hB2.trans (hB3.mono (by omega))
  have cw := hw w2.heap.size w3 hN
  have hs3 := hN.lt
  clear hA2 hB2 hB3 hw hN
  go_wp2_with (refine wpList_load_mid rfl 52 _ rfl _ _ rfl q _ hA3 Tryz.underlying52 rfl iq ?_)
  refine cw.mono ?_
  rintro e5 w5 ⟨v5, rfl, hW5, hO5, _⟩
  have c0 := hW5.c0
  have c1 := hW5.c1
  have hcs := mine_str hW5.me
  have hB5 := hB4.trans (hO5.below (n := w.heap.size) (by omega) (fun b hb hf => by
   rcases hf with hf | hf
   ·omega
   ·cases hf))
  obtain ⟨a5, cap5, rfl⟩ : ∃ a cap, v5 = .slice a zs.length cap := by
   rcases own_range hW5.me.1 with ⟨rfl, h0, _⟩ | ⟨g, cap, rfl, _⟩
   ·exact ⟨none, 0, by rw [h0]⟩
   ·exact ⟨_, cap, rfl⟩
  rw [hsz.out] at hcs
  clear hsz cw hW5 hO5 hA3 hB4
  go_wp2
  go_ret2
  exact ⟨rfl, hB5⟩
theorem wrS_ok {zs bs : List Int} (h : zs.length + bs.length ≤ 4194304) : wrS (zs, false) bs = (zs ++ bs, false) := by
 have e : fullB false bs.length zs = false := by
  unfold fullB
  rw [Bool.false_or]
  exact decide_eq_false (by omega)
 unfold wrS
 simp only [e, wrL_f]
theorem putL_len {n : Int} (h : n ≤ 9223372036854775807) : (putL n).length ≤ 9 := putL_length n (by omega)
theorem wrN1 {zs : List Int} {a : Int} (ha : a ≤ 9223372036854775807) (hz : zs.length ≤ 1000) : wrN (zs, false) [a] = (zs ++ putL a, false) := by
 have := putL_len ha
 show wrS (zs, false) (putL a) = _
 rw [wrS_ok (by omega)]
theorem wrN4 {zs : List Int} {a b c d : Int} (ha : a ≤ 9223372036854775807) (hb : b ≤ 9223372036854775807) (hc : c ≤ 9223372036854775807) (hd : d ≤ 9223372036854775807) (hz : zs.length ≤ 1000) : wrN (zs, false) [a, b, c, d] = (zs ++ putL a ++ putL b ++ putL c ++ putL d, false) := by
 have h1 := putL_len ha
 have h2 := putL_len hb
 have h3 := putL_len hc
 have h4 := putL_len hd
 show wrS (wrS (wrS (wrS (zs, false) (putL a)) (putL b)) (putL c)) (putL d) = _
 rw [wrS_ok (by omega), wrS_ok (by rw [List.length_append]; omega), wrS_ok (by simp only [List.length_append]; omega), wrS_ok (by simp only [List.length_append]; omega)]
def voteL (x : Vt) : List Int := putL 2 ++ putL x.k ++ putL x.e ++ putL x.v ++ putL x.s ++ x.d
theorem writes2 {x : Vt} (hx : x.ok) : Writes (Ms.plain 2 0 0 x zeros32).cells (voteL x) := fun X w h => by
 have := wmsg2 X (.slice none 0 0) ([], false) (Ms.plain 2 0 0 x zeros32) w (plain_ok2 hx) rfl h (by simp)
 have e : wrS (wrN (wrN ([], false) [2]) [x.k, x.e, x.v, x.s]) x.d = (voteL x, false) := by
  have p := @putL_len 2 (by omega)
  have h1 := putL_len hx.k
  have h2 := putL_len hx.e
  have h3 := putL_len hx.v
  have h4 := putL_len hx.s
  have h5 := hx.dl
  rw [wrN1 (by omega) (by simp), List.nil_append, wrN4 hx.k hx.e hx.v hx.s (by omega), wrS_ok (by simp only [List.length_append]; omega)]
  rfl
 show Calls _ _ _ w _
 have e1 : (wrS (wrN (wrN ([], false) [2]) [(Ms.plain 2 0 0 x zeros32).vt.k, (Ms.plain 2 0 0 x zeros32).vt.e, (Ms.plain 2 0 0 x zeros32).vt.v, (Ms.plain 2 0 0 x zeros32).vt.s]) (Ms.plain 2 0 0 x zeros32).vt.d) = (voteL x, false) := e
 rw [e1] at this
 exact this
theorem good2 (x : Vt) (hx : x.ok) (w : World) : Calls Tryz.prog 57 #[.agg (Ms.plain 2 0 0 x zeros32).cells.toArray] w fun e w' => e = .returned (.bool x.may) ∧ Below w.heap.size w w' :=
 good0 _ 2 x.may w (plain_ok2 hx).len rfl (by omega) (by omega) (fun w => bare2 x hx w) (fun w => msame0 2 0 0 x zeros32 hx zeros32_len zeros32_byte w) (fun w => fmay2 x hx w)
theorem enc2 (x : Vt) (hx : x.ok) (w : World) : Calls Tryz.prog 22 #[.agg (Ms.plain 2 0 0 x zeros32).cells.toArray] w fun e w' => e = .returned (encV x.may (voteL x)) ∧ Below w.heap.size w w' :=
 enc0 _ _ _ w (plain_ok2 hx).len (fun w => good2 x hx w) (fun _ => writes2 hx)
def optS (b : Bool) (zs : List Int) : ByteArray := if b then strOf zs else ⟨#[]⟩
theorem encV_opt (b : Bool) (zs : List Int) : ∃ n : Int, encV b zs = .tuple #[.string (optS b zs), .int .i64 n] := by
 cases b
 ·exact ⟨130, rfl⟩
 ·exact ⟨0, rfl⟩
set_option maxRecDepth 100000 in
set_option maxHeartbeats 2000000 in
theorem bytesOf0 (q : List Value) (b : Bool) (zs : List Int) (w : World) (hq : q.length = 119) (he : ∀ w, Calls Tryz.prog 22 #[.agg q.toArray] w fun e w' => e = .returned (encV b zs) ∧ Below w.heap.size w w') :
  Calls Tryz.prog 160 #[.agg q.toArray] w fun e w' => e = .returned (.string (optS b zs)) ∧ Below w.heap.size w w' := by
 have hB : Below w.heap.size w (w.alloc (.cells q.toArray 52)) := (Below.refl _ _).alloc (Nat.le_refl _) _
 have hA : (w.alloc (.cells q.toArray 52)).rangeAt w.heap.size 0 q := by simpa using range_new w q.toArray 52
 have iq : (Tryz.prog.info? 52).map (·.size) = some q.length := by rw [hq]; exact iszM
 obtain ⟨n, hn⟩ := encV_opt b zs
 rw [hn] at he
 clear hq hn
 generalize optS b zs = sz at *
 go_enter Tryz.func160, Tryz.ntmps160
 go_upto_region 1 with fail
 go_name_world w1 hw1
 rw [show w.alloc (.cells q.toArray 52) = w1 from hw1] at hB hA
 clear hw1
 go_wp2_with (refine wpList_load_mid rfl 52 _ rfl _ _ rfl q _ hA Tryz.underlying52 rfl iq ?_)
 refine (he _).mono ?_
 rintro e2 w2 ⟨rfl, hb2⟩
 have hB2 := hB.trans (hb2.mono hB.size)
 clear hA he hB hb2
 go_wp2
 go_ret
 exact ⟨rfl, hB2⟩
set_option maxRecDepth 100000 in
set_option maxHeartbeats 2000000 in
theorem vote13_any (x : Vt) (hx : x.ok) (w : World) : Calls Tryz.prog 127 #[.agg x.cells.toArray] w fun e w' => e = .returned (.string (optS x.may (voteL x))) ∧ Below w.heap.size w w' := by
 have hB : Below w.heap.size w (w.alloc (.cells x.cells.toArray 43)) := (Below.refl _ _).alloc (Nat.le_refl _) _
 have hA := Vt.box w x
 have ix : (Tryz.prog.info? 43).map (·.size) = some x.cells.length := by rw [hx.len]; exact iszV
 have hb := build_vote x hx
 have cb := fun w => bytesOf0 _ _ _ w (plain_ok2 hx).len (fun w => enc2 x hx w)
 clear hx
 generalize optS x.may (voteL x) = sz at *
 generalize (Ms.plain 2 0 0 x zeros32).cells = q at *
 generalize x.cells = u at *
 go_enter Tryz.func127, Tryz.ntmps127
 go_upto_region 1 with fail
 go_name_world w1 hw1
 rw [show w.alloc (.cells u.toArray 43) = w1 from hw1] at hB hA
 clear hw1
 go_wp2_with (first | (refine wpList_load_mid rfl 43 _ rfl _ _ rfl u _ hA Tryz.underlying43 rfl ix ?_) | (refine wpList_build rfl 52 [(0, .const (.int .i64 2)), (6, .tmp 3)] rfl [(0, .int .i64 2), (6, .agg u.toArray)] _ rfl (hb _) ?_))
 refine (cb _).mono ?_
 rintro e2 w2 ⟨rfl, hb2⟩
 have hB2 := hB.trans (hb2.mono hB.size)
 clear hA cb hB hb2
 go_wp2
 go_ret
 exact ⟨rfl, hB2⟩
theorem wpList_store_c {P : Program} {ops : Array Oper} {rest : List Oper} {op : Oper} {a : Act} {w : World} {Q : Exit → Act → World → Prop} (hgd : op.guard = none) (ty : TypeId) (x y : Operand) (ho : op.op = .store ty x y)
  (b o : Nat) (v : Value) (hx : a.eval x = .pointer (some ⟨b, o, none⟩)) (hy : a.eval y = v)
  (ht : w.there b o 1) (hi : (P.info? ty).map (·.size) = some 1) (hv : v.cells = #[v]) (h1 : v.oneCell' = true)
  (h : wpList P ops Q rest (a.put op.dst undef) (w.setCells b o [v])) : wpList P ops Q (op :: rest) a w :=
 wpList_plain hgd fun _ hK => by
  unfold Oper.wp execOp
  simp only [ho, hx, hy, Instr.storeAt, Instr.sureAddr, Sem.run_bind, Sem.run_pure, Result.andThen_ok, store_cell w b o ty v ht hi hv h1]
  exact hK _ _ h
theorem voteL_len {x : Vt} (hx : x.ok) : (voteL x).length ≤ 1000 := by
 have p := @putL_len 2 (by omega)
 have h1 := putL_len hx.k
 have h2 := putL_len hx.e
 have h3 := putL_len hx.v
 have h4 := putL_len hx.s
 have h5 := hx.dl
 simp only [voteL, List.length_append]
 omega
theorem row_mine {w : World} {a : Option Addr} {zs : List Int} (h : RowAt w a zs) (cap : Nat) : (convert 59 9 (.slice a zs.length cap)).run Tryz.prog w = .ok (.string (strOf zs)) w := by
 rcases h.2.2 with rfl | ⟨b, off, rfl, _, hr⟩
 ·rw [List.length_nil, run_convert_bytes_string w 59 9 5 a 0 cap Tryz.underlying59 Tryz.underlying5 Tryz.underlying9]
  cases a <;> rfl
 ·exact row_str hr
def RdE (w : World) (R : Nat) (e : Int) : Prop :=
 R < w.heap.size ∧ (∃ a n c, w.cell? ⟨R, 0, none⟩ = some (.slice a n c)) ∧ w.cell? ⟨R, 1, none⟩ = some (.bool true) ∧ w.cell? ⟨R, 2, none⟩ = some (.int .i64 e) ∧
 w.frozen? ⟨R, 0, none⟩ = false ∧ w.frozen? ⟨R, 1, none⟩ = false ∧ w.frozen? ⟨R, 2, none⟩ = false
def Rest (w : World) (R : Nat) (rest : List Int) : Prop :=
 ∃ a cap, w.cell? ⟨R, 0, none⟩ = some (.slice a rest.length cap) ∧ rest.length ≤ cap ∧ cap ≤ maxLen ∧ RowAt w a rest ∧ ∀ x, a = some x → x.block < R
def St (w : World) (R : Nat) (rest : List Int) (e : Int) : Prop := RdE w R e ∧ (e = 0 → Rest w R rest)
theorem RdE.set0 {w : World} {R : Nat} {e : Int} (h : RdE w R e) (a : Option Addr) (n c : Nat) : RdE (w.setCell ⟨R, 0, none⟩ (.slice a n c)) R e := by
 obtain ⟨hR, ⟨a', n', c', h0⟩, h1, h2, f0, f1, f2⟩ := h
 refine ⟨by simpa [World.setCell] using hR, ⟨a, n, c, World.cell?_setCell_same _ _ _ h0⟩, (World.cell?_setCell_other _ _ _ _ (by simp)).trans h1, (World.cell?_setCell_other _ _ _ _ (by simp)).trans h2,
  (World.frozen?_setCell _ _ _ _).trans f0, (World.frozen?_setCell _ _ _ _).trans f1, (World.frozen?_setCell _ _ _ _).trans f2⟩
theorem RdE.set2 {w : World} {R : Nat} {e : Int} (h : RdE w R e) (e' : Int) : RdE (w.setCell ⟨R, 2, none⟩ (.int .i64 e')) R e' := by
 obtain ⟨hR, ⟨a', n', c', h0⟩, h1, h2, f0, f1, f2⟩ := h
 refine ⟨by simpa [World.setCell] using hR, ⟨a', n', c', (World.cell?_setCell_other _ _ _ _ (by simp)).trans h0⟩, (World.cell?_setCell_other _ _ _ _ (by simp)).trans h1, World.cell?_setCell_same _ _ _ h2,
  (World.frozen?_setCell _ _ _ _).trans f0, (World.frozen?_setCell _ _ _ _).trans f1, (World.frozen?_setCell _ _ _ _).trans f2⟩
theorem RowAt.get {w : World} {a : Option Addr} {zs : List Int} (h : RowAt w a zs) (k : Nat) (hk : k < zs.length) : ∃ b off, a = some ⟨b, off, none⟩ ∧ b < w.heap.size ∧ w.cell? ⟨b, off + k, none⟩ = some (.int .u8 (zs.getD k 0)) ∧ 0 ≤ zs.getD k 0 ∧ zs.getD k 0 < 256 := by
 rcases h.2.2 with rfl | ⟨b, off, rfl, hb, hr⟩
 ·simp at hk
 ·refine ⟨b, off, rfl, hb, get8 hr hk, ?_⟩
  rw [List.getD_eq_getElem?_getD, List.getElem?_eq_getElem hk]
  exact h.2.1 _ (List.getElem_mem hk)
theorem cutA_lt {a : Option Addr} {R cap n : Nat} (h : ∀ x, a = some x → x.block < R) : ∀ x, cutA a cap n = some x → x.block < R := by
  intro x hx
  unfold cutA at hx
  split at hx
  · exact h x hx
  · cases a with
    | none => simp at hx
    | some y =>
      simp only [Option.map_some, Option.some.injEq] at hx
      subst hx
      have := h y rfl
      unfold Addr.add
      split <;> exact this
theorem lt_ne {a : Option Addr} {R : Nat} (h : ∀ x, a = some x → x.block < R) : ∀ x, a = some x → x.block ≠ R := fun x hx => Nat.ne_of_lt (h x hx)
theorem err_made (R : Nat) (e : Int) (w : World) (h : RdE w R e) :
  Calls Tryz.prog 70 #[.pointer (some ⟨R, 0, none⟩)] w fun en w' => en = .returned (.int .i64 e) ∧ w' = w := by
 obtain ⟨hR, ⟨a, n, c, h0⟩, h1, h2, f0, f1, f2⟩ := h
 go_enter Tryz.func70, Tryz.ntmps70
 go_wp2
 go_ret
 exact ⟨rfl, rfl⟩
theorem left_any (R : Nat) (a : Option Addr) (n c : Nat) (w : World) (h0 : w.cell? ⟨R, 0, none⟩ = some (.slice a n c)) :
  Calls Tryz.prog 74 #[.pointer (some ⟨R, 0, none⟩)] w fun en w' => en = .returned (.int .i64 (n : Int)) ∧ w' = w := by
 go_enter Tryz.func74, Tryz.ntmps74
 go_wp2
 go_ret
 exact ⟨rfl, rfl⟩
set_option maxHeartbeats 400000 in
theorem take_any (R : Nat) (a : Option Addr) (n len c : Nat) (w : World) (h0 : w.cell? ⟨R, 0, none⟩ = some (.slice a len c)) (f0 : w.frozen? ⟨R, 0, none⟩ = false) (hn : n ≤ len) (hc : len ≤ c) (hm : c ≤ maxLen) :
  Calls Tryz.prog 124 #[.pointer (some ⟨R, 0, none⟩), .int .i64 (n : Int)] w fun en w' => en = .returned (.slice a n c) ∧ w' = w.setCell ⟨R, 0, none⟩ (.slice (cutA a c n) (len - n) (c - n)) := by
 unfold maxLen at hm
 by_cases h : c = n
 ·subst h
  obtain rfl : len = c := by omega
  go_enter Tryz.func124, Tryz.ntmps124
  go_wp2
  go_ret
  exact ⟨rfl, by simp [cutA]⟩
 ·go_enter Tryz.func124, Tryz.ntmps124
  go_wp2
  go_ret
  exact ⟨rfl, by simp [cutA, h]⟩
set_option maxHeartbeats 400000 in
theorem fail_any (R : Nat) (e0 e : Int) (w : World) (h : RdE w R e0) :
  Calls Tryz.prog 72 #[.pointer (some ⟨R, 0, none⟩), .int .i64 e] w fun en w' => en = .returned (.tuple #[]) ∧ RdE w' R e ∧ w.grownBy w' (some R) := by
 have hE := (h.set2 e).set0 none 0 0
 have hg := gb_trans (gb_set w R 2 (.int .i64 e)) (gb_set (w.setCell ⟨R, 2, none⟩ (.int .i64 e)) R 0 (.slice none 0 0))
 obtain ⟨hR, ⟨a, n, c, h0⟩, h1, h2, f0, f1, f2⟩ := h
 go_enter Tryz.func72, Tryz.ntmps72
 go_wp2
 go_end0
 exact ⟨rfl, hE, hg⟩
theorem val_bound (l : List Int) (h : ∀ z ∈ l, 0 ≤ z ∧ z < 256) : 0 ≤ val l ∧ val l < 256 ^ l.length := by
  have : ∀ k, k ≤ l.length → 0 ≤ val (l.take k) ∧ val (l.take k) < 256 ^ k := by
    intro k
    induction k with
    | zero => intro _; simp [val]
    | succ k ih =>
      intro hk
      have hlt : k < l.length := by omega
      obtain ⟨i1, i2⟩ := ih (by omega)
      have hz := h l[k] (List.getElem_mem hlt)
      rw [List.take_succ_eq_append_getElem hlt, val_snoc, Int.pow_succ]
      omega
  have := this l.length (Nat.le_refl _)
  rwa [List.take_length] at this
theorem val_take (l : List Int) (k : Nat) (h : k < l.length) : val (l.take (k + 1)) = val (l.take k) * 256 + l.getD k 0 := by
 rw [List.take_succ_eq_append_getElem h, val_snoc, List.getD_eq_getElem?_getD, List.getElem?_eq_getElem h]; rfl
theorem or_join (x d : Int) (h0 : 0 ≤ x) (h1 : x < 72057594037927936) (h2 : 0 ≤ d) (h3 : d < 256) : bits .or .u64 (x * 256) d = x * 256 + d := by
 obtain ⟨m, rfl⟩ := Int.eq_ofNat_of_zero_le h0
 obtain ⟨q, rfl⟩ := Int.eq_ofNat_of_zero_le h2
 have e : ((m : Int) * 256) = ((m * 256 : Nat) : Int) := by omega
 rw [e, u64_or_nat _ _ (by omega) (by omega), nat_join 8 _ _ (by omega) (by omega)]
 omega
def valR (ds : List Int) : Int × Int := if ds.head? = some 0 ∨ 9223372036854775807 < val ds then (0, 11) else (val ds, 0)
set_option maxHeartbeats 800000 in
theorem value_any (a : Option Addr) (cap : Nat) (ds : List Int) (w : World) (h : RowAt w a ds) (hl : ds.length ≤ 8) :
    Calls Tryz.prog 125 #[.slice a ds.length cap] w fun en w' => en = .returned (.tuple #[.int .i64 (valR ds).1, .int .i64 (valR ds).2]) ∧ w' = w := by
  by_cases hh : ds.head? = some 0
  · have HV : Hid (valR ds = (0, 11)) := by show _ = _; simp [valR, hh]
    obtain ⟨tl, rfl⟩ : ∃ tl, ds = 0 :: tl := by
      cases ds with
      | nil => simp at hh
      | cons x tl => simp at hh; exact ⟨tl, by rw [hh]⟩
    obtain ⟨b, off, rfl, hb, hc, _⟩ := h.get 0 (by simp)
    have hc' : w.cell? ⟨b, off, none⟩ = some (.int .u8 0) := by simpa using hc
    have hp : (0 : Int) < ((0 :: tl : List Int).length : Int) := by simp
    generalize (0 :: tl : List Int) = ds at *
    go_enter Tryz.func125, Tryz.ntmps125
    go_wp2
    go_ret2
    rw [HV.out]
    exact ⟨rfl, rfl⟩
  · have hz := h.2.1
    have hstart : ds = [] ∨ ∃ b off z, a = some ⟨b, off, none⟩ ∧ w.cell? ⟨b, off, none⟩ = some (.int .u8 z) ∧ (z == 0) = false ∧ 0 < ds.length := by
      cases ds with
      | nil => exact Or.inl rfl
      | cons x tl =>
        obtain ⟨b, off, rfl, hb, hc, _⟩ := h.get 0 (by simp)
        exact Or.inr ⟨b, off, x, rfl, by simpa using hc, by simpa using hh, by simp⟩
    have hval := val_bound ds hz
    rcases hstart with rfl | ⟨b, off, z0, rfl, hc0, hne, hpos⟩
    · go_enter Tryz.func125, Tryz.ntmps125
      go_wp2
      refine wp_loop_rounds 1 ?_
      rw [rounds_succ]
      go_wp2
      go_ret2
      exact ⟨rfl, rfl⟩
    · have hp : (0 : Int) < (ds.length : Int) := by omega
      have hc : ∀ j, j < ds.length → w.cell? ⟨b, off + j, none⟩ = some (.int .u8 (ds.getD j 0)) := by
        obtain ⟨_, _, hd | ⟨b', off', hx, _, hc⟩⟩ := h
        · rw [hd] at hpos; simp at hpos
        · simp only [Option.some.injEq, Addr.mk.injEq] at hx
          obtain ⟨rfl, rfl, _⟩ := hx
          exact fun j hj => get8 hc hj
      have HC : Hid (∀ j, j < ds.length → w.cell? ⟨b, off + j, none⟩ = some (.int .u8 (ds.getD j 0))) := hc
      have HR : Hid (valR ds = if 9223372036854775807 < val ds then (0, 11) else (val ds, 0)) := by show _ = _; simp [valR, hh]
      clear hc h hh
      go_enter Tryz.func125, Tryz.ntmps125
      go_wp2
      go_loop [4, 17] (fun n i => ∃ k : Nat, k ≤ ds.length ∧ i = .int .i64 k ∧ n = .int .u64 (val (ds.take k))) (fun _ i => ds.length - (intOf i).toNat)
      case atStart => exact ⟨0, by omega, rfl, rfl⟩
      case round =>
        obtain ⟨k, hk, rfl, rfl⟩ := hrel
        by_cases hlt : k < ds.length
        · obtain ⟨z, hcx, hz0, hz1, HV⟩ : ∃ z, w.cell? ⟨b, off + k, none⟩ = some (.int .u8 z) ∧ 0 ≤ z ∧ z < 256 ∧ Hid (val (ds.take (k + 1)) = val (ds.take k) * 256 + z) := by
            refine ⟨ds.getD k 0, HC.out k hlt, ?_, ?_, val_take ds k hlt⟩ <;> rw [List.getD_eq_getElem?_getD, List.getElem?_eq_getElem hlt]
            · exact (hz _ (List.getElem_mem hlt)).1
            · exact (hz _ (List.getElem_mem hlt)).2
          have hb7 : 0 ≤ val (ds.take k) ∧ val (ds.take k) < 72057594037927936 := by
            have := val_bound (ds.take k) (fun z hz' => hz z (List.mem_of_mem_take hz'))
            rw [List.length_take_of_le (by omega)] at this
            have h7 : 256 ^ k ≤ 72057594037927936 := Nat.le_trans (Nat.pow_le_pow_right (by omega) (show k ≤ 7 by omega)) (by decide)
            have e7 : ((256 ^ k : Nat) : Int) = (256 : Int) ^ k := Int.natCast_pow 256 k
            rw [← e7] at this
            omega
          obtain ⟨hx0, hx1⟩ := hb7
          have ej := or_join (val (ds.take k)) z hx0 hx1 hz0 hz1
          generalize val (ds.take k) = X at *
          go_wp2
          go_round
          case rel => exact ⟨k + 1, by omega, by go_num, by rw [HV.out]⟩
          case measure => simp [intOf]; omega
        · obtain rfl : k = ds.length := by omega
          rw [List.take_length]
          by_cases hbig : 9223372036854775807 < val ds
          · go_wp2
            go_ret2
            rw [HR.out, if_pos hbig]
            exact ⟨rfl, rfl⟩
          · go_wp2
            go_ret2
            rw [HR.out, if_neg (by omega)]
            exact ⟨rfl, rfl⟩
def numR : List Int → Int × Nat × Int
  | [] => (0, 0, 10)
  | k :: tl => if 8 < k then (0, 0, 11) else if (tl.length : Int) < k then (0, 0, 10) else
      if (valR (tl.take k.toNat)).2 = 0 then ((valR (tl.take k.toNat)).1, 1 + k.toNat, 0) else (0, 0, (valR (tl.take k.toNat)).2)
theorem valR_err (ds : List Int) (h : (valR ds).2 ≠ 0) : valR ds = (0, 11) := by
 unfold valR at h ⊢
 split
 ·rfl
 ·rename_i hh; rw [if_neg hh] at h; exact absurd rfl h
set_option maxHeartbeats 1600000 in
theorem number_any (R : Nat) (e0 : Int) (rest : List Int) (w : World) (hE : RdE w R e0) (hR : Rest w R rest) :
  Calls Tryz.prog 71 #[.pointer (some ⟨R, 0, none⟩)] w fun en w' => en = .returned (.tuple #[.int .i64 (numR rest).1, .int .i64 (numR rest).2.2]) ∧ RdE w' R e0 ∧ w.grownBy w' (some R) ∧ ((numR rest).2.2 = 0 → Rest w' R (rest.drop (numR rest).2.1)) := by
 obtain ⟨a, cap, h0, hc, hm, hrow, hlt⟩ := hR
 have hne := lt_ne hlt
 have f0 := hE.2.2.2.2.1
 cases rest with
 | nil =>
  have h0' : w.cell? ⟨R, 0, none⟩ = some (.slice a 0 cap) := h0
  go_enter Tryz.func71, Tryz.ntmps71
  go_wp2_with fail
  refine (left_any R a 0 cap w h0').mono ?_
  rintro e w1 ⟨rfl, rfl⟩
  go_wp2
  go_ret2
  exact ⟨rfl, hE, gb_refl _ _, fun h => by cases h⟩
 | cons k tl =>
  obtain ⟨b, off, rfl, hb, hcb, hk0, hk1⟩ := hrow.get 0 (by simp)
  have hk : (k :: tl).getD 0 0 = k := rfl
  rw [hk] at hcb hk0 hk1
  have hbR : b ≠ R := hne _ rfl
  have hcb1 : (w.setCell ⟨R, 0, none⟩ (.slice (cutA (some ⟨b, off, none⟩) cap 1) ((k :: tl).length - 1) (cap - 1))).cell? ⟨b, off, none⟩ = some (.int .u8 k) :=
   (World.cell?_setCell_other _ _ _ _ (by intro hx; injection hx with hx1; exact hbR hx1.symm)).trans (by simpa using hcb)
  have hE1 := hE.set0 (cutA (some ⟨b, off, none⟩) cap 1) ((k :: tl).length - 1) (cap - 1)
  have hg1 := gb_set w R 0 (.slice (cutA (some ⟨b, off, none⟩) cap 1) ((k :: tl).length - 1) (cap - 1))
  have hr1 := (hrow.drop 1 cap (by simp) hc).gb hg1 (.inr (cutA_ne hne))
  have h01 : (w.setCell ⟨R, 0, none⟩ (.slice (cutA (some ⟨b, off, none⟩) cap 1) ((k :: tl).length - 1) (cap - 1))).cell? ⟨R, 0, none⟩ = some (.slice (cutA (some ⟨b, off, none⟩) cap 1) ((k :: tl).length - 1) (cap - 1)) := World.cell?_setCell_same _ _ _ h0
  have hlen : (k :: tl).length - 1 = tl.length := by simp
  rw [hlen] at hE1 hg1 hr1 h01 hcb1
  generalize hW1 : w.setCell ⟨R, 0, none⟩ (.slice (cutA (some ⟨b, off, none⟩) cap 1) tl.length (cap - 1)) = W1 at *
  have c1 := take_any R (some ⟨b, off, none⟩) 1 (k :: tl).length cap w h0 f0 (by simp) hc hm
  rw [hlen, hW1] at c1
  have HW1 : Hid (w.setCell ⟨R, 0, none⟩ (.slice (cutA (some ⟨b, off, none⟩) cap 1) tl.length (cap - 1)) = W1) := hW1
  clear hW1
  have hpos : (((k :: tl).length : Int) == 0) = false := by simp; omega
  have hnm := cutA_ne (cap := cap) (n := 1) hne
  have hltm := cutA_lt (cap := cap) (n := 1) hlt
  generalize hA1 : cutA (some ⟨b, off, none⟩) cap 1 = A1 at *
  clear hA1
  have cl := left_any R (some ⟨b, off, none⟩) (k :: tl).length cap w h0
  go_enter Tryz.func71, Tryz.ntmps71
  go_wp2_with fail
  refine cl.mono ?_
  rintro e w1 ⟨rfl, rfl⟩
  clear cl
  go_wp2_with fail
  refine c1.mono ?_
  rintro e w2 ⟨rfl, rfl⟩
  clear c1
  by_cases hk8 : 8 < k
  ·have HN : Hid (numR (k :: tl) = (0, 0, 11)) := by show _ = _; simp [numR, hk8]
   go_wp2_with fail
   go_ret2
   rw [HN.out]
   exact ⟨rfl, hE1, hg1, fun h => by cases h⟩
  ·by_cases hkl : (tl.length : Int) < k
   ·have HN : Hid (numR (k :: tl) = (0, 0, 10)) := by show _ = _; simp [numR, hk8, hkl]
    go_wp2_with fail
    refine (left_any R A1 tl.length (cap - 1) w2 h01).mono ?_
    rintro e w3 ⟨rfl, rfl⟩
    go_wp2_with fail
    go_ret2
    rw [HN.out]
    exact ⟨rfl, hE1, hg1, fun h => by cases h⟩
   ·obtain ⟨q, hqk⟩ : ∃ q : Nat, k.toNat = q := ⟨_, rfl⟩
    have hkq : (q : Int) = k := by omega
    have hq : q ≤ tl.length := by omega
    have hcl : tl.length ≤ cap - 1 := by simp at hc; omega
    have c2 := take_any R A1 q tl.length (cap - 1) w2 h01 hE1.2.2.2.2.1 hq hcl (by omega)
    rw [hkq] at c2
    have hE2 := hE1.set0 (cutA A1 (cap - 1) q) (tl.length - q) (cap - 1 - q)
    have hg2 := gb_set w2 R 0 (.slice (cutA A1 (cap - 1) q) (tl.length - q) (cap - 1 - q))
    have hr1' : RowAt w2 A1 tl := by simpa using hr1
    have hr2 := (hr1'.take q).gb hg2 (.inr hnm)
    have hr3 := (hr1'.drop q (cap - 1) hq hcl)
    have h02 : (w2.setCell ⟨R, 0, none⟩ (.slice (cutA A1 (cap - 1) q) (tl.length - q) (cap - 1 - q))).cell? ⟨R, 0, none⟩ = some (.slice (cutA A1 (cap - 1) q) (tl.length - q) (cap - 1 - q)) := World.cell?_setCell_same _ _ _ h01
    have hRest : Rest (w2.setCell ⟨R, 0, none⟩ (.slice (cutA A1 (cap - 1) q) (tl.length - q) (cap - 1 - q))) R (tl.drop q) := by
     refine ⟨cutA A1 (cap - 1) q, cap - 1 - q, by rw [List.length_drop]; exact h02, by rw [List.length_drop]; omega, by omega, ?_, ?_⟩
     ·exact hr3.gb hg2 (.inr (cutA_ne hnm))
     ·exact cutA_lt hltm
    generalize w2.setCell ⟨R, 0, none⟩ (.slice (cutA A1 (cap - 1) q) (tl.length - q) (cap - 1 - q)) = W2 at *
    have hqt : (tl.take q).length = q := List.length_take_of_le hq
    have c3 := value_any A1 (cap - 1) (tl.take q) W2 hr2 (by omega)
    rw [hqt] at c3
    have HN : Hid (numR (k :: tl) = if (valR (tl.take q)).2 = 0 then ((valR (tl.take q)).1, 1 + q, 0) else (0, 0, (valR (tl.take q)).2)) := by
     show _ = _
     simp only [numR, if_neg hk8, if_neg hkl, hqk]
    clear hr1 hr2 hr3 hqt hqk hkq
    go_wp2_with fail
    refine (left_any R A1 tl.length (cap - 1) w2 h01).mono ?_
    rintro e w3 ⟨rfl, rfl⟩
    go_wp2_with fail
    refine c2.mono ?_
    rintro e w4 ⟨rfl, rfl⟩
    clear c2
    go_wp2_with fail
    refine c3.mono ?_
    rintro e w5 ⟨rfl, rfl⟩
    clear c3
    go_wp2_with fail
    go_ret2
    refine ⟨?_, hE2, gb_trans hg1 hg2, ?_⟩
    ·rw [HN.out]
     by_cases hv : (valR (tl.take q)).2 = 0
     ·rw [if_pos hv, hv]; exact rfl
     ·rw [if_neg hv, valR_err _ hv]; exact rfl
    ·rw [HN.out]
     by_cases hv : (valR (tl.take q)).2 = 0
     ·rw [if_pos hv]; intro _; rw [Nat.add_comm]; exact hRest
     ·rw [if_neg hv]; intro h; exact absurd h hv
def numS (rest : List Int) (e most : Int) : Int × List Int × Int :=
 if e = 0 then
  if (numR rest).2.2 = 0 then
   if most < (numR rest).1 then (0, rest, 3) else ((numR rest).1, rest.drop (numR rest).2.1, 0)
  else (0, rest, (numR rest).2.2)
 else (0, rest, e)
set_option maxHeartbeats 1600000 in
theorem num_any (R : Nat) (rest : List Int) (e most : Int) (w : World) (h : St w R rest e) :
  Calls Tryz.prog 39 #[.pointer (some ⟨R, 0, none⟩), .int .i64 most] w fun en w' => en = .returned (.int .i64 (numS rest e most).1) ∧ St w' R (numS rest e most).2.1 (numS rest e most).2.2 ∧ w.grownBy w' (some R) := by
 obtain ⟨hE, hR⟩ := h
 by_cases he : e = 0
 ·subst he
  have hR := hR rfl
  have cn := number_any R 0 rest w hE hR
  have HS : Hid (numS rest 0 most = if (numR rest).2.2 = 0 then (if most < (numR rest).1 then (0, rest, 3) else ((numR rest).1, rest.drop (numR rest).2.1, 0)) else (0, rest, (numR rest).2.2)) := by show _ = _; simp [numS]
  generalize (numR rest).1 = v at *
  generalize (numR rest).2.1 = c at *
  generalize (numR rest).2.2 = er at *
  by_cases her : er = 0
  ·subst her
   rw [if_pos rfl] at HS
   by_cases hmost : most < v
   ·rw [if_pos hmost] at HS
    go_enter Tryz.func39, Tryz.ntmps39
    go_wp2_with fail
    refine (err_made R 0 w hE).mono ?_
    rintro e w1 ⟨rfl, rfl⟩
    go_wp2_with fail
    refine cn.mono ?_
    rintro e w2 ⟨rfl, hE2, hg2, hR2⟩
    go_wp2_with fail
    refine (fail_any R 0 3 w2 hE2).mono ?_
    rintro e w3 ⟨rfl, hE3, hg3⟩
    go_wp2_with fail
    go_ret
    rw [HS.out]
    exact ⟨rfl, ⟨hE3, fun h => by cases h⟩, gb_trans hg2 hg3⟩
   ·rw [if_neg hmost] at HS
    go_enter Tryz.func39, Tryz.ntmps39
    go_wp2_with fail
    refine (err_made R 0 w hE).mono ?_
    rintro e w1 ⟨rfl, rfl⟩
    go_wp2_with fail
    refine cn.mono ?_
    rintro e w2 ⟨rfl, hE2, hg2, hR2⟩
    have hR3 := hR2 (by trivial)
    clear hR2 cn
    go_wp2_with fail
    go_ret
    rw [HS.out]
    exact ⟨rfl, ⟨hE2, fun _ => hR3⟩, hg2⟩
  ·have her' : (er == 0) = false := by simpa using her
   rw [if_neg her] at HS
   go_enter Tryz.func39, Tryz.ntmps39
   go_wp2_with fail
   refine (err_made R 0 w hE).mono ?_
   rintro e w1 ⟨rfl, rfl⟩
   go_wp2_with fail
   refine cn.mono ?_
   rintro e w2 ⟨rfl, hE2, hg2, hR2⟩
   clear hR2 cn
   go_wp2_with fail
   refine (fail_any R 0 er w2 hE2).mono ?_
   rintro e w3 ⟨rfl, hE3, hg3⟩
   go_wp2_with fail
   go_ret
   rw [HS.out]
   exact ⟨rfl, ⟨hE3, fun h => absurd h her⟩, gb_trans hg2 hg3⟩
 ·have HS : Hid (numS rest e most = (0, rest, e)) := by show _ = _; simp [numS, he]
  have he' : (e == 0) = false := by simpa using he
  go_enter Tryz.func39, Tryz.ntmps39
  go_wp2_with fail
  refine (err_made R e w hE).mono ?_
  rintro en w1 ⟨rfl, rfl⟩
  go_wp2_with fail
  go_ret
  rw [HS.out]
  exact ⟨rfl, ⟨hE, fun h => absurd h he⟩, gb_refl _ _⟩
theorem RowAt.none_nil {w : World} {zs : List Int} (h : RowAt w none zs) : zs = [] := by
 rcases h.2.2 with h | ⟨b, off, hx, _⟩
 ·exact h
 ·cases hx
theorem RowAt.str {w : World} {a : Option Addr} {zs : List Int} (h : RowAt w a zs) (cap : Nat) : (convert 59 9 (.slice a zs.length cap)).run Tryz.prog w = .ok (.string (strOf zs)) w := row_mine h cap
set_option maxHeartbeats 800000 in
theorem clone_any (a : Option Addr) (cap : Nat) (zs : List Int) (w : World) (h : RowAt w a zs) (hm : zs.length ≤ 549755813888) :
  Calls Tryz.prog 69 #[.slice a zs.length cap] w fun e w' => ∃ v, e = .returned v ∧ Mine w' w.heap.size v zs ∧ Below w.heap.size w w' := by
 obtain ⟨i0, hi, hz0, hz1, hz2⟩ := info_parts info8
 cases a with
 | none =>
  obtain rfl := h.none_nil
  have hn := fun w => Lib.run_eql_slice_nil (P := Tryz.prog) w 59 5 none 0 cap 0 0 Tryz.underlying59
  go_enter Tryz.func69, Tryz.ntmps69
  go_wp2
  go_ret
  exact ⟨_, rfl, ⟨World.ownsRow_nil _ _ _ _, by simp⟩, Below.refl _ _⟩
 | some x =>
  have hn := fun w => Lib.run_eql_slice_nil (P := Tryz.prog) w 59 5 (some x) zs.length cap 0 0 Tryz.underlying59
  go_enter Tryz.func69, Tryz.ntmps69
  go_wp2_with (at_builtin; refine wpList_append_own_src _ rfl _ _ 59 59 rfl w.heap.size 5 i0 (.int .u8 0) 1 1 Tryz.underlying59 hi hz0 hz1 hz2 rfl _ 0 [] rfl (World.ownsRow_made w #[] 0 (Nat.le_refl _) (by simp) (by simp)) (.slice (some x) zs.length cap) zs.length (zs.map (Value.int .u8)) rfl ((h.below ((Below.refl _ _).alloc (Nat.le_refl _) _)).src cap) ?c1 ?c2 ?c3 ?_)
  case c1 => unfold maxLen; omega
  case c2 => omega
  case c3 => simp
  intro v' w1 hown hgrow
  have hb1 : Below w.heap.size w w1 := ((Below.refl _ _).alloc (Nat.le_refl _) _).grown hgrow (by simp) (fun k hk => by simp [Value.ownBlock] at hk; omega)
  go_wp2
  go_ret
  exact ⟨_, rfl, ⟨by simpa using hown, h.2.1⟩, hb1⟩
set_option maxHeartbeats 800000 in
theorem read_any (a : Option Addr) (cap : Nat) (zs : List Int) (w : World) (h : RowAt w a zs) (hm : zs.length ≤ 549755813888) :
  Calls Tryz.prog 38 #[.slice a zs.length cap] w fun e w' => ∃ R, e = .returned (.pointer (some ⟨R, 0, none⟩)) ∧ w.heap.size ≤ R ∧ St w' R zs 0 ∧ Below w.heap.size w w' := by
 go_enter Tryz.func38, Tryz.ntmps38
 go_wp2_with fail
 refine (clone_any a cap zs w h hm).mono ?_
 rintro e w1 ⟨v, rfl, hmine, hb⟩
 obtain ⟨a', cap', rfl, hc1, hc2, hr⟩ := hmine.rowAt (by unfold maxLen; omega)
 have hblk : ∀ x, a' = some x → x.block < w1.heap.size := fun x hx => (hmine.1.lt x.block (by simp [hx, Value.ownBlock])).2
 have hb2 : Below w1.heap.size w1 (w1.alloc (.cells #[.slice a' zs.length cap', .bool true, .int .i64 0] 138)) := (Below.refl _ _).alloc (Nat.le_refl _) _
 have hSt : St (w1.alloc (.cells #[.slice a' zs.length cap', .bool true, .int .i64 0] 138)) w1.heap.size zs 0 := by
  have cs : ∀ j, (w1.alloc (.cells #[.slice a' zs.length cap', .bool true, .int .i64 0] 138)).cell? ⟨w1.heap.size, j, none⟩ = (#[.slice a' zs.length cap', .bool true, .int .i64 0] : Array Value)[j]? := fun j => World.cell?_alloc_at _ _ _ _ rfl
  have fs : ∀ j, (w1.alloc (.cells #[.slice a' zs.length cap', .bool true, .int .i64 0] 138)).frozen? ⟨w1.heap.size, j, none⟩ = false := fun j => World.frozen?_alloc_at _ _ _ _ rfl
  exact ⟨⟨by simp, ⟨a', zs.length, cap', cs 0⟩, cs 1, cs 2, fs 0, fs 1, fs 2⟩, fun _ => ⟨a', cap', cs 0, hc1, hc2, hr.below hb2, hblk⟩⟩
 go_wp2_with fail
 go_ret
 exact ⟨_, rfl, hb.size, hSt, hb.trans (hb2.mono hb.size)⟩
set_option maxHeartbeats 800000 in
theorem next_few (R : Nat) (rest : List Int) (n : Int) (w : World) (h : St w R rest 0) (hn : (rest.length : Int) < n) :
  Calls Tryz.prog 73 #[.pointer (some ⟨R, 0, none⟩), .int .i64 n] w fun en w' => en = .returned (.slice none 0 0) ∧ St w' R rest 10 ∧ w.grownBy w' (some R) := by
 obtain ⟨hE, hR⟩ := h
 obtain ⟨a, cap, h0, hc, hm, hrow, hne⟩ := hR rfl
 go_enter Tryz.func73, Tryz.ntmps73
 go_wp2_with fail
 refine (left_any R a rest.length cap w h0).mono ?_
 rintro en w1 ⟨rfl, rfl⟩
 go_wp2_with fail
 refine (fail_any R 0 10 w1 hE).mono ?_
 rintro en w2 ⟨rfl, hE2, hg2⟩
 go_wp2_with fail
 go_ret
 exact ⟨rfl, ⟨hE2, fun h => by cases h⟩, hg2⟩
set_option maxHeartbeats 800000 in
theorem next_there (R : Nat) (rest : List Int) (n : Int) (w : World) (h : St w R rest 0) (hn0 : 0 ≤ n) (hn : n ≤ (rest.length : Int)) :
  Calls Tryz.prog 73 #[.pointer (some ⟨R, 0, none⟩), .int .i64 n] w fun en w' => ∃ a cap, en = .returned (.slice a n.toNat cap) ∧ n.toNat ≤ cap ∧ RowAt w' a (rest.take n.toNat) ∧ St w' R (rest.drop n.toNat) 0 ∧ w.grownBy w' (some R) := by
 obtain ⟨hE, hR⟩ := h
 obtain ⟨a, cap, h0, hc, hm, hrow, hlt⟩ := hR rfl
 have hne := lt_ne hlt
 obtain ⟨q, hq⟩ : ∃ q : Nat, n.toNat = q := ⟨_, rfl⟩
 have hqn : (q : Int) = n := by omega
 rw [hq]
 have ct := take_any R a q rest.length cap w h0 hE.2.2.2.2.1 (by omega) hc hm
 rw [hqn] at ct
 have hE2 := hE.set0 (cutA a cap q) (rest.length - q) (cap - q)
 have hg2 := gb_set w R 0 (.slice (cutA a cap q) (rest.length - q) (cap - q))
 have hr2 := (hrow.take q).gb hg2 (.inr hne)
 have h02 : (w.setCell ⟨R, 0, none⟩ (.slice (cutA a cap q) (rest.length - q) (cap - q))).cell? ⟨R, 0, none⟩ = some (.slice (cutA a cap q) (rest.length - q) (cap - q)) := World.cell?_setCell_same _ _ _ h0
 have hRest : Rest (w.setCell ⟨R, 0, none⟩ (.slice (cutA a cap q) (rest.length - q) (cap - q))) R (rest.drop q) :=
  ⟨cutA a cap q, cap - q, by rw [List.length_drop]; exact h02, by rw [List.length_drop]; omega, by omega, (hrow.drop q cap (by omega) hc).gb hg2 (.inr (cutA_ne hne)), cutA_lt hlt⟩
 have hqc : q ≤ cap := by omega
 generalize w.setCell ⟨R, 0, none⟩ (.slice (cutA a cap q) (rest.length - q) (cap - q)) = W2 at *
 have hnn : ¬ ((rest.length : Int) < n) := by omega
 clear hq hqn
 go_enter Tryz.func73, Tryz.ntmps73
 go_wp2_with fail
 refine (left_any R a rest.length cap w h0).mono ?_
 rintro en w1 ⟨rfl, rfl⟩
 go_wp2_with fail
 refine ct.mono ?_
 rintro en w2 ⟨rfl, rfl⟩
 go_wp2_with fail
 go_ret
 exact ⟨a, cap, rfl, hqc, hr2, ⟨hE2, fun _ => hRest⟩, hg2⟩
def textS (rest : List Int) (e most : Int) : List Int × List Int × Int :=
 if (numS rest e 9223372036854775807).2.2 = 0 then
  if most < (numS rest e 9223372036854775807).1 then ([], rest, 3)
  else if ((numS rest e 9223372036854775807).2.1.length : Int) < (numS rest e 9223372036854775807).1 then ([], rest, 10)
  else ((numS rest e 9223372036854775807).2.1.take (numS rest e 9223372036854775807).1.toNat, (numS rest e 9223372036854775807).2.1.drop (numS rest e 9223372036854775807).1.toNat, 0)
 else ([], rest, (numS rest e 9223372036854775807).2.2)
theorem St.other {w : World} {R : Nat} {rest : List Int} {e : Int} (h : St w R rest e) (he : e ≠ 0) (rest' : List Int) : St w R rest' e := ⟨h.1, fun h0 => absurd h0 he⟩
set_option maxHeartbeats 1600000 in
theorem text_any (R : Nat) (rest : List Int) (e most : Int) (w : World) (h : St w R rest e) (hpos : 0 ≤ (numS rest e 9223372036854775807).1) :
  Calls Tryz.prog 40 #[.pointer (some ⟨R, 0, none⟩), .int .i64 most] w fun en w' => en = .returned (.string (strOf (textS rest e most).1)) ∧ St w' R (textS rest e most).2.1 (textS rest e most).2.2 ∧ w.grownBy w' (some R) := by
 have cn := num_any R rest e 9223372036854775807 w h
 have HT : Hid (textS rest e most = if (numS rest e 9223372036854775807).2.2 = 0 then
  (if most < (numS rest e 9223372036854775807).1 then ([], rest, 3)
  else if ((numS rest e 9223372036854775807).2.1.length : Int) < (numS rest e 9223372036854775807).1 then ([], rest, 10)
  else ((numS rest e 9223372036854775807).2.1.take (numS rest e 9223372036854775807).1.toNat, (numS rest e 9223372036854775807).2.1.drop (numS rest e 9223372036854775807).1.toNat, 0))
  else ([], rest, (numS rest e 9223372036854775807).2.2)) := rfl
 generalize (numS rest e 9223372036854775807).1 = n at *
 generalize (numS rest e 9223372036854775807).2.1 = r1 at *
 generalize (numS rest e 9223372036854775807).2.2 = e1 at *
 have hs0 : strOf [] = ⟨#[]⟩ := rfl
 by_cases he : e1 = 0
 ·subst he
  rw [if_pos rfl] at HT
  by_cases hmost : most < n
  ·rw [if_pos hmost] at HT
   go_enter Tryz.func40, Tryz.ntmps40
   go_wp2_with fail
   refine cn.mono ?_
   rintro en w1 ⟨rfl, hS1, hg1⟩
   clear cn
   go_wp2_with fail
   refine (err_made R 0 w1 hS1.1).mono ?_
   rintro en w2 ⟨rfl, rfl⟩
   go_wp2_with fail
   refine (fail_any R 0 3 w2 hS1.1).mono ?_
   rintro en w3 ⟨rfl, hE3, hg3⟩
   go_wp2_with fail
   go_ret
   rw [HT.out]
   exact ⟨rfl, ⟨hE3, fun h => by cases h⟩, gb_trans hg1 hg3⟩
  ·rw [if_neg hmost] at HT
   by_cases hlen : (r1.length : Int) < n
   ·rw [if_pos hlen] at HT
    have sn : ∀ w : World, (convert 59 9 (.slice none 0 0)).run Tryz.prog w = .ok (.string ⟨#[]⟩) w := fun w => (nil_row w).str 0
    go_enter Tryz.func40, Tryz.ntmps40
    go_wp2_with fail
    refine cn.mono ?_
    rintro en w1 ⟨rfl, hS1, hg1⟩
    clear cn
    go_wp2_with fail
    refine (err_made R 0 w1 hS1.1).mono ?_
    rintro en w2 ⟨rfl, rfl⟩
    go_wp2_with fail
    refine (next_few R r1 n w2 hS1 hlen).mono ?_
    rintro en w3 ⟨rfl, hS3, hg3⟩
    have s3 := sn w3
    go_wp2_with fail
    go_ret
    rw [HT.out]
    exact ⟨rfl, hS3.other (by omega) _, gb_trans hg1 hg3⟩
   ·rw [if_neg hlen] at HT
    go_enter Tryz.func40, Tryz.ntmps40
    go_wp2_with fail
    refine cn.mono ?_
    rintro en w1 ⟨rfl, hS1, hg1⟩
    clear cn
    go_wp2_with fail
    refine (err_made R 0 w1 hS1.1).mono ?_
    rintro en w2 ⟨rfl, rfl⟩
    go_wp2_with fail
    refine (next_there R r1 n w2 hS1 hpos (by omega)).mono ?_
    rintro en w3 ⟨a, cap, rfl, hca, hra, hS3, hg3⟩
    have s3 := hra.str cap
    rw [List.length_take_of_le (by omega)] at s3
    go_wp2_with fail
    go_ret
    rw [HT.out]
    exact ⟨rfl, hS3, gb_trans hg1 hg3⟩
 ·rw [if_neg he] at HT
  have he' : (e1 == 0) = false := by simpa using he
  go_enter Tryz.func40, Tryz.ntmps40
  go_wp2_with fail
  refine cn.mono ?_
  rintro en w1 ⟨rfl, hS1, hg1⟩
  clear cn
  go_wp2_with fail
  refine (err_made R e1 w1 hS1.1).mono ?_
  rintro en w2 ⟨rfl, rfl⟩
  go_wp2_with fail
  go_ret
  rw [HT.out]
  exact ⟨rfl, hS1.other he _, hg1⟩
namespace Tal
theorem digs_val (ds : List Int) (hz : ∀ z ∈ ds, 0 ≤ z ∧ z < 256) (hh : ds.head? ≠ some 0) (hv : val ds ≤ 9223372036854775807) : digs (val ds).toNat = ds := by
  have key : ∀ k, k ≤ ds.length → val (ds.take k) ≤ 9223372036854775807 → digs (val (ds.take k)).toNat = ds.take k := by
    intro k
    induction k with
    | zero => intro _ _; simp [val, digs_zero]
    | succ k ih =>
      intro hk hle
      have hlt : k < ds.length := by omega
      have e := val_take ds k hlt
      have hb := val_bound (ds.take k) (fun z h => hz z (List.mem_of_mem_take h))
      have hd : 0 ≤ ds.getD k 0 ∧ ds.getD k 0 < 256 := by
        rw [List.getD_eq_getElem?_getD, List.getElem?_eq_getElem hlt]; exact hz _ (List.getElem_mem hlt)
      have hi := ih (by omega) (by omega)
      have hpos : 0 < val (ds.take (k + 1)) := by
        by_cases h0 : k = 0
        · subst h0
          have : val (ds.take 0) = 0 := by simp [val]
          rw [e, this]
          cases ds with
          | nil => simp at hlt
          | cons x tl => simp at hh hd ⊢; omega
        · have : 0 < val (ds.take k) := by
            rcases Int.lt_or_eq_of_le hb.1 with h | h
            · exact h
            · rw [← h] at hi
              have hl := congrArg List.length hi
              rw [List.length_take_of_le (by omega)] at hl
              have : (digs (0 : Int).toNat).length = 0 := by decide
              omega
          omega
      have ht : ds.take (k + 1) = ds.take k ++ [ds.getD k 0] := by
        rw [List.take_succ_eq_append_getElem hlt, List.getD_eq_getElem?_getD, List.getElem?_eq_getElem hlt]; rfl
      have e1 : (val (ds.take (k + 1))).toNat / 256 = (val (ds.take k)).toNat := by omega
      have e2 : ((((val (ds.take (k + 1))).toNat % 256 : Nat)) : Int) = ds.getD k 0 := by omega
      rw [digs_succ _ (by omega) (by omega), e1, e2, hi, ht]
  have := key ds.length (Nat.le_refl _)
  rw [List.take_length] at this
  exact this hv
theorem numR_form (zs : List Int) (hz : ∀ z ∈ zs, 0 ≤ z ∧ z < 256) (h : (numR zs).2.2 = 0) :
    putL (numR zs).1 = zs.take (numR zs).2.1 ∧ (numR zs).2.1 ≤ zs.length ∧ 0 ≤ (numR zs).1 ∧ (numR zs).1 ≤ 9223372036854775807 := by
  cases zs with
  | nil => simp [numR] at h
  | cons k tl =>
    have hk := hz k (by simp)
    by_cases h8 : 8 < k
    · simp [numR, h8] at h
    · by_cases hl : (tl.length : Int) < k
      · simp [numR, h8, hl] at h
      · by_cases hv : (valR (tl.take k.toNat)).2 = 0
        · have e : numR (k :: tl) = ((valR (tl.take k.toNat)).1, 1 + k.toNat, 0) := by simp only [numR, if_neg h8, if_neg hl, if_pos hv]
          rw [e]
          have hds : ∀ z ∈ tl.take k.toNat, 0 ≤ z ∧ z < 256 := fun z h => hz z (by simp [List.mem_of_mem_take h])
          have hb := val_bound _ hds
          have hnot : ¬ ((tl.take k.toNat).head? = some 0 ∨ 9223372036854775807 < val (tl.take k.toNat)) := by
            intro hc; unfold valR at hv; rw [if_pos hc] at hv; cases hv
          have e1 : (valR (tl.take k.toNat)).1 = val (tl.take k.toNat) := by unfold valR; rw [if_neg hnot]
          have hlen : (tl.take k.toNat).length = k.toNat := List.length_take_of_le (by omega)
          have hd := digs_val (tl.take k.toNat) hds (fun h => hnot (Or.inl h)) (by omega)
          have hw : (wid (val (tl.take k.toNat)).toNat : Int) = k := by
            rw [← digs_length, hd, hlen]; omega
          simp only [e1]
          refine ⟨?_, by simp; omega, hb.1, by omega⟩
          unfold putL
          rw [if_neg (by omega), numB, hd, hw, Nat.add_comm]
          rfl
        · simp only [numR, if_neg h8, if_neg hl, if_neg hv] at h
          exact absurd h hv
end Tal
open Sha Tal
open Go.RowKit
variable {B : Nat}
def Rf (B : Nat) (w : World) (X : Nat) (zs : List Int) (p : Nat) (e : Int) : Prop :=
 X < w.heap.size ∧ (∃ a cap, w.cell? ⟨X, 0, none⟩ = some (.slice a zs.length cap) ∧ zs.length ≤ cap ∧ cap ≤ maxLen ∧ RowAt w a zs ∧ ∀ x, a = some x → B ≤ x.block ∧ x.block < X) ∧
 w.cell? ⟨X, 1, none⟩ = some (.int .i64 (p : Int)) ∧ w.cell? ⟨X, 2, none⟩ = some (.int .i64 e) ∧ w.frozen? ⟨X, 0, none⟩ = false ∧ w.frozen? ⟨X, 1, none⟩ = false ∧ w.frozen? ⟨X, 2, none⟩ = false ∧ p ≤ zs.length ∧ zs.length ≤ 40000
theorem suc_ne {a : Option Addr} {X : Nat} (h : ∀ x, a = some x → B ≤ x.block ∧ x.block < X) : ∀ x, a = some x → x.block ≠ X := fun x hx => Nat.ne_of_lt (h x hx).2
namespace Tal
theorem val_mono (ds : List Int) (hz : ∀ z ∈ ds, 0 ≤ z ∧ z < 256) (j : Nat) (hj : j ≤ ds.length) : val (ds.take j) ≤ val ds := by
  have : ∀ m, j + m ≤ ds.length → val (ds.take j) ≤ val (ds.take (j + m)) := by
    intro m
    induction m with
    | zero => intro _; exact Int.le_refl _
    | succ m ih =>
      intro hm
      have h1 := ih (by omega)
      have hlt : j + m < ds.length := by omega
      have e := val_take ds (j + m) hlt
      have hb := val_bound (ds.take (j + m)) (fun z h => hz z (List.mem_of_mem_take h))
      have hd : 0 ≤ ds.getD (j + m) 0 := by
        rw [List.getD_eq_getElem?_getD, List.getElem?_eq_getElem hlt]; exact (hz _ (List.getElem_mem hlt)).1
      rw [← Nat.add_assoc, e]
      omega
  have h := this (ds.length - j) (by omega)
  have e : j + (ds.length - j) = ds.length := by omega
  rw [e, List.take_length] at h
  exact h
theorem val8 (ds : List Int) (hz : ∀ z ∈ ds, 0 ≤ z ∧ z < 256) (hl : ds.length ≤ 8) : (9223372036854775807 < val ds) ↔ (ds.length = 8 ∧ 127 < ds.getD 0 0) := by
  cases ds with
  | nil => simp [val]
  | cons x tl =>
    have hx := hz x (by simp)
    have e : val (x :: tl) = x * 256 ^ tl.length + val tl := by
      have : ∀ (l : List Int) (a : Int), l.foldl (fun a d => a * 256 + d) a = a * 256 ^ l.length + val l := by
        intro l
        induction l with
        | nil => intro a; simp [val]
        | cons y l ih =>
          intro a
          simp only [List.foldl_cons, List.length_cons, val]
          rw [ih, ih (0 * 256 + y), Int.pow_succ]
          simp only [Int.zero_mul, Int.zero_add, Int.add_mul]
          rw [Int.mul_assoc, Int.mul_comm 256]
          omega
      have h := this tl (0 * 256 + x)
      simp only [val, List.foldl_cons]
      rw [h]; simp [val]
    have hb := val_bound tl (fun z h => hz z (by simp [h]))
    simp only [List.length_cons] at hl ⊢
    simp only [List.getD_cons_zero]
    rw [e]
    by_cases h7 : tl.length = 7
    · rw [h7] at hb ⊢
      omega
    · have h6 : tl.length ≤ 6 := by omega
      have hp : 256 ^ tl.length ≤ 281474976710656 := Nat.le_trans (Nat.pow_le_pow_right (by omega) h6) (by decide)
      have ep : ((256 ^ tl.length : Nat) : Int) = (256 : Int) ^ tl.length := Int.natCast_pow 256 _
      rw [← ep] at hb ⊢
      generalize 256 ^ tl.length = q at *
      have hm : x * (q : Int) ≤ 255 * q := Int.mul_le_mul_of_nonneg_right (by omega) (by omega)
      constructor
      · intro h; omega
      · intro h; omega
end Tal
theorem Rf.rest {w : World} {X : Nat} {zs : List Int} {p : Nat} {e : Int} (h : Rf B w X zs p e) : ∃ a cap, w.cell? ⟨X, 0, none⟩ = some (.slice a zs.length cap) ∧ zs.length ≤ cap ∧ cap ≤ maxLen ∧ RowAt w (cutA a cap p) (zs.drop p) := by
 obtain ⟨hX, ⟨a, cap, h0, hc, hm, hr, hne⟩, h1, h2, f0, f1, f2, hp, hl⟩ := h
 exact ⟨a, cap, h0, hc, hm, hr.drop p cap hp hc⟩
set_option maxHeartbeats 1600000 in
theorem refNumber_any (X : Nat) (zs : List Int) (p : Nat) (e : Int) (w : World) (h : Rf B w X zs p e) :
    Calls Tryz.prog 75 #[.pointer (some ⟨X, 0, none⟩)] w fun en w' => en = .returned (.tuple #[.int .i64 (numR (zs.drop p)).1, .int .i64 ((numR (zs.drop p)).2.1 : Int), .int .i64 (numR (zs.drop p)).2.2]) ∧ ∃ k, w' = w.drewN k := by
  obtain ⟨a, cap, h0, hc, hm, hr⟩ := h.rest
  obtain ⟨hX, _, h1, h2, f0, f1, f2, hp, hl⟩ := h
  unfold maxLen at hm
  have hlen : (zs.drop p).length = zs.length - p := List.length_drop ..
  by_cases hcp : cap = p
  · have hnil : zs.drop p = [] := List.drop_eq_nil_of_le (by omega)
    have hzp : zs.length = p := by omega
    have HN : Hid (numR (zs.drop p) = (0, 0, 10)) := by show _ = _; rw [hnil]; rfl
    subst hcp
    clear hnil hlen
    go_enter Tryz.func75, Tryz.ntmps75
    go_wp2_with fail
    go_quiet (fail)
    go_wp2_with fail
    go_ret3
    rw [HN.out]
    exact ⟨rfl, _, rfl⟩
  · have hA : cutA a cap p = a.map (fun x => x.add p) := by unfold cutA; rw [if_neg hcp]
    rw [hA] at hr
    clear hA
    generalize hAm : Option.map (fun x : Addr => x.add p) a = A at *
    generalize zs.drop p = rest at *
    have hlr : zs.length - p = rest.length := hlen.symm
    have hcap : rest.length ≤ cap - p := by omega
    clear hlen
    cases rest with
    | nil =>
      have hlr0 : zs.length - p = 0 := hlr
      clear hlr
      go_enter Tryz.func75, Tryz.ntmps75
      go_wp2_with fail
      go_quiet (fail)
      go_wp2_with fail
      go_ret3
      exact ⟨rfl, _, rfl⟩
    | cons k tl =>
      obtain ⟨b, off, rfl, hb, hcb, hk0, hk1⟩ := hr.get 0 (by simp)
      have hk : (k :: tl).getD 0 0 = k := rfl
      rw [hk] at hcb hk0 hk1
      clear hk
      have hlr1 : zs.length - p = tl.length + 1 := by simpa using hlr
      clear hlr
      have hcb' : w.cell? ⟨b, off, none⟩ = some (.int .u8 k) := by simpa using hcb
      clear hcb
      by_cases hk8 : 8 < k
      · have HN : Hid (numR (k :: tl) = (0, 0, 11)) := by show _ = _; simp [numR, hk8]
        go_enter Tryz.func75, Tryz.ntmps75
        go_wp2_with fail
        go_quiet (fail)
        go_wp2_with fail
        go_ret3
        rw [HN.out]
        exact ⟨rfl, _, rfl⟩
      · by_cases hkl : (tl.length : Int) < k
        · have HN : Hid (numR (k :: tl) = (0, 0, 10)) := by show _ = _; simp [numR, hk8, hkl]
          go_enter Tryz.func75, Tryz.ntmps75
          go_wp2_with fail
          go_quiet (fail)
          go_wp2_with fail
          go_ret3
          rw [HN.out]
          exact ⟨rfl, _, rfl⟩
        · obtain ⟨q, hqk⟩ : ∃ q : Nat, k.toNat = q := ⟨_, rfl⟩
          have hkq : (q : Int) = k := by omega
          have hq : q ≤ tl.length := by omega
          have hds : (tl.take q).length = q := List.length_take_of_le hq
          have hzd : ∀ z ∈ tl.take q, 0 ≤ z ∧ z < 256 := fun z hz => hr.2.1 z (by simp [List.mem_of_mem_take hz])
          have HC : Hid (∀ t, 1 ≤ t → t ≤ q → w.cell? ⟨b, off + t, none⟩ = some (.int .u8 ((tl.take q).getD (t - 1) 0))) := by
            show ∀ t, _
            intro t ht1 ht2
            obtain ⟨b', off', hx, _, hcx, _⟩ := hr.get t (by simp; omega)
            simp only [Option.some.injEq, Addr.mk.injEq] at hx
            obtain ⟨rfl, rfl, _⟩ := hx
            rw [hcx]
            obtain ⟨u, rfl⟩ : ∃ u, t = u + 1 := ⟨t - 1, by omega⟩
            simp only [List.getD_eq_getElem?_getD, List.getElem?_cons_succ, Nat.add_sub_cancel, List.getElem?_take]
            rw [if_pos (by omega)]
          have h8 := val8 (tl.take q) hzd (by omega)
          rw [hds] at h8
          have HN : Hid (numR (k :: tl) = if (valR (tl.take q)).2 = 0 then ((valR (tl.take q)).1, 1 + q, 0) else (0, 0, (valR (tl.take q)).2)) := by
            show _ = _
            simp only [numR, if_neg hk8, if_neg hkl, hqk]
          have HVT : Hid (∀ j, j < q → val ((tl.take q).take (j + 1)) = val ((tl.take q).take j) * 256 + (tl.take q).getD j 0 ∧ 0 ≤ val ((tl.take q).take j) ∧ val ((tl.take q).take (j + 1)) ≤ val (tl.take q) ∧ 0 ≤ (tl.take q).getD j 0 ∧ (tl.take q).getD j 0 < 256) := by
            show ∀ j, _
            intro j hj
            refine ⟨val_take _ j (by omega), ?_⟩
            have h1 := val_bound ((tl.take q).take j) (fun z hz' => hzd z (List.mem_of_mem_take hz'))
            refine ⟨h1.1, val_mono _ hzd (j + 1) (by omega), ?_⟩
            rw [List.getD_eq_getElem?_getD, List.getElem?_eq_getElem (by omega)]
            exact hzd _ (List.getElem_mem _)
          have HH : Hid (∀ d, 0 < q → (tl.take q).getD 0 0 = d → ((tl.take q).head? = some 0 ↔ d = 0)) := by
            show ∀ d, _
            intro d hq0 hd
            cases hc : tl.take q with
            | nil => rw [hc] at hds; simp at hds; omega
            | cons x r => rw [hc] at hd; simp at hd ⊢; rw [hd]
          have hvl := val_bound (tl.take q) hzd
          have HVF : Hid ((tl.take q).take q = tl.take q) := by show _ = _; rw [List.take_of_length_le (by omega)]
          generalize tl.take q = ds at *
          have HQ : Hid ((q : Int) = k) := hkq
          clear hqk hkq hr
          by_cases hq0 : q = 0
          · subst hq0
            have hk00 : k = 0 := HQ.out.symm
            have hd0 : ds = [] := List.eq_nil_of_length_eq_zero hds
            have HN0 : Hid (numR (k :: tl) = (0, 1, 0)) := by
              show _ = _
              rw [HN.out, hd0]; decide
            subst hk00
            clear hd0 hds h8 hvl HQ
            go_enter Tryz.func75, Tryz.ntmps75
            go_wp2_with fail
            go_quiet (fail)
            go_wp2_with fail
            refine wp_loop_rounds 1 ?_
            rw [rounds_succ]
            go_wp2_with fail
            go_ret3
            rw [HN0.out]
            exact ⟨rfl, _, rfl⟩
          · obtain ⟨d, HD, hcd⟩ : ∃ d, Hid (ds.getD 0 0 = d) ∧ w.cell? ⟨b, off + 1, none⟩ = some (.int .u8 d) := ⟨_, rfl, HC.out 1 (by omega) (by omega)⟩
            have hh := HH.out d (by omega) HD.out
            have hkpos : 0 < k := by have := HQ.out; omega
            have hl2 : (1 : Int) < tl.length + 1 := by omega
            by_cases hd0 : d = 0
            · subst hd0
              have HN0 : Hid (numR (k :: tl) = (0, 0, 11)) := by
                show _ = _
                rw [HN.out]
                have : valR ds = (0, 11) := by unfold valR; rw [if_pos (Or.inl (hh.2 rfl))]
                rw [this]; rfl
              clear hds h8 hvl hh
              go_enter Tryz.func75, Tryz.ntmps75
              go_wp2_with fail
              go_quiet (fail)
              go_wp2_with fail
              go_ret3
              rw [HN0.out]
              exact ⟨rfl, _, rfl⟩
            · have hd0' : (d == 0) = false := by simpa using hd0
              rw [HD.out] at h8
              by_cases hbad : k = 8 ∧ 127 < d
              · obtain ⟨rfl, hd127⟩ := hbad
                have HN0 : Hid (numR (8 :: tl) = (0, 0, 11)) := by
                  show _ = _
                  rw [HN.out]
                  have : valR ds = (0, 11) := by unfold valR; rw [if_pos (Or.inr (h8.2 ⟨by have := HQ.out; omega, hd127⟩))]
                  rw [this]; rfl
                clear hds h8 hvl hh
                go_enter Tryz.func75, Tryz.ntmps75
                go_wp2_with fail
                go_quiet (fail)
                go_wp2_with fail
                go_ret3
                rw [HN0.out]
                exact ⟨rfl, _, rfl⟩
              · have hvn : ¬ (9223372036854775807 < val ds) := fun hv => hbad ⟨by have := HQ.out; have := (h8.1 hv).1; omega, (h8.1 hv).2⟩
                have HN0 : Hid (numR (k :: tl) = (val ds, 1 + q, 0)) := by
                  show _ = _
                  rw [HN.out]
                  have : valR ds = (val ds, 0) := by unfold valR; rw [if_neg (fun hc => hc.elim (fun h => hd0 (hh.1 h)) hvn)]
                  rw [this]; rfl
                have hvv : val ds ≤ 9223372036854775807 := by omega
                clear hds h8 hh hvn
                have hdec : (k == 8) = false ∨ ((k == 8) = true ∧ ¬ 127 < d) := by
                  by_cases hk8' : k = 8
                  · exact Or.inr ⟨by simpa using hk8', fun h => hbad ⟨hk8', h⟩⟩
                  · exact Or.inl (by simpa using hk8')
                clear hbad
                rcases hdec with hdec | ⟨hdec, hd127⟩
                all_goals
                  go_enter Tryz.func75, Tryz.ntmps75
                  go_wp2_with fail
                  go_quiet (fail)
                  go_wp2_with fail
                  go_loop [7, 8] (fun n i => ∃ t : Nat, t ≤ q ∧ i = .int .i64 ((t : Int) + 1) ∧ n = .int .i64 (val (ds.take t))) (fun _ i => q + 1 - (intOf i).toNat)
                  case atStart => exact ⟨0, by omega, rfl, rfl⟩
                  case round =>
                    obtain ⟨t, ht, rfl, rfl⟩ := hrel
                    by_cases hlt : t < q
                    · obtain ⟨z, hcx, hz0, hz1, hx0, hx1, HV⟩ : ∃ z, w.cell? ⟨b, off + (t + 1), none⟩ = some (.int .u8 z) ∧ 0 ≤ z ∧ z < 256 ∧ 0 ≤ val (ds.take t) ∧ 256 * val (ds.take t) + z ≤ 9223372036854775807 ∧ Hid (val (ds.take (t + 1)) = 256 * val (ds.take t) + z) := by
                        obtain ⟨e1, e2, e3, e4, e5⟩ := HVT.out t hlt
                        exact ⟨_, HC.out (t + 1) (by omega) (by omega), e4, e5, e2, by simp only [Nat.add_sub_cancel] at *; omega, by show _ = _; rw [e1]; simp only [Nat.add_sub_cancel]; omega⟩
                      generalize val (ds.take t) = X at *
                      have ht1 : (t : Int) + 1 ≤ k := by have := HQ.out; omega
                      have ht2 : (t : Int) + 1 < tl.length + 1 := by omega
                      go_wp2_with fail
                      go_round
                      case rel => exact ⟨t + 1, by omega, by go_num, by rw [HV.out]⟩
                      case measure => simp [intOf]; omega
                    · have htq : t = q := by omega
                      subst htq
                      rw [HVF.out]
                      have ht1 : ¬ ((t : Int) + 1 ≤ k) := by have := HQ.out; omega
                      go_wp2_with fail
                      go_ret3
                      rw [HN0.out]
                      refine ⟨?_, _, rfl⟩
                      have e10 : ((1 + t : Nat) : Int) = 1 + k := by have := HQ.out; omega
                      simp only [e10]
                      exact rfl
open Go.RowKit
open Sha Tal
variable {B : Nat}
theorem gbz_drewN (w : World) (k : Nat) (r : Option Nat) : w.grownBy (w.drewN k) r := ⟨rfl, rfl, rfl, Nat.le_refl _, fun _ _ _ => rfl⟩
theorem Rf.drewN {w : World} {X : Nat} {zs : List Int} {p : Nat} {e : Int} (h : Rf B w X zs p e) (k : Nat) : Rf B (w.drewN k) X zs p e := by
 obtain ⟨hX, ⟨a, cap, h0, hc, hm, hr, hne⟩, h1, h2, f0, f1, f2, hp, hl⟩ := h
 refine ⟨by simpa using hX, ⟨a, cap, by simpa using h0, hc, hm, hr.gb (gbz_drewN w k (some X)) (.inr (suc_ne hne)), hne⟩, by simpa using h1, by simpa using h2, by simpa using f0, by simpa using f1, by simpa using f2, hp, hl⟩
theorem Rf.set2 {w : World} {X : Nat} {zs : List Int} {p : Nat} {e : Int} (h : Rf B w X zs p e) (e' : Int) : Rf B (w.setCell ⟨X, 2, none⟩ (.int .i64 e')) X zs p e' := by
 obtain ⟨hX, ⟨a, cap, h0, hc, hm, hr, hne⟩, h1, h2, f0, f1, f2, hp, hl⟩ := h
 exact ⟨by simpa [World.setCell] using hX, ⟨a, cap, (World.cell?_setCell_other _ _ _ _ (by simp)).trans h0, hc, hm, hr.gb (gb_set w X 2 _) (.inr (suc_ne hne)), hne⟩, (World.cell?_setCell_other _ _ _ _ (by simp)).trans h1, World.cell?_setCell_same _ _ _ h2,
  (World.frozen?_setCell _ _ _ _).trans f0, (World.frozen?_setCell _ _ _ _).trans f1, (World.frozen?_setCell _ _ _ _).trans f2, hp, hl⟩
theorem Rf.set1 {w : World} {X : Nat} {zs : List Int} {p : Nat} {e : Int} (h : Rf B w X zs p e) (p' : Nat) (hp' : p' ≤ zs.length) : Rf B (w.setCell ⟨X, 1, none⟩ (.int .i64 (p' : Int))) X zs p' e := by
 obtain ⟨hX, ⟨a, cap, h0, hc, hm, hr, hne⟩, h1, h2, f0, f1, f2, hp, hl⟩ := h
 exact ⟨by simpa [World.setCell] using hX, ⟨a, cap, (World.cell?_setCell_other _ _ _ _ (by simp)).trans h0, hc, hm, hr.gb (gb_set w X 1 _) (.inr (suc_ne hne)), hne⟩, World.cell?_setCell_same _ _ _ h1, (World.cell?_setCell_other _ _ _ _ (by simp)).trans h2,
  (World.frozen?_setCell _ _ _ _).trans f0, (World.frozen?_setCell _ _ _ _).trans f1, (World.frozen?_setCell _ _ _ _).trans f2, hp', hl⟩
def RSt (B : Nat) (w : World) (X : Nat) (rest : List Int) (e : Int) : Prop := ∃ zs p, Rf B w X zs p e ∧ (e = 0 → zs.drop p = rest)
theorem RSt.other {w : World} {X : Nat} {rest : List Int} {e : Int} (h : RSt B w X rest e) (he : e ≠ 0) (rest' : List Int) : RSt B w X rest' e := by
 obtain ⟨zs, p, h1, _⟩ := h
 exact ⟨zs, p, h1, fun h0 => absurd h0 he⟩
theorem numR_len (zs : List Int) (hz : ∀ z ∈ zs, 0 ≤ z ∧ z < 256) (h : (numR zs).2.2 = 0) : (numR zs).2.1 ≤ zs.length := (numR_form zs hz h).2.1
set_option maxHeartbeats 1600000 in
theorem refNum_any (X : Nat) (rest : List Int) (e most : Int) (w : World) (h : RSt B w X rest e) :
  Calls Tryz.prog 44 #[.pointer (some ⟨X, 0, none⟩), .int .i64 most] w fun en w' => en = .returned (.int .i64 (numS rest e most).1) ∧ RSt B w' X (numS rest e most).2.1 (numS rest e most).2.2 ∧ w.grownBy w' (some X) := by
 obtain ⟨zs, p, hR, hd⟩ := h
 by_cases he : e = 0
 ·subst he
  have hd := hd rfl
  subst hd
  have cn := refNumber_any X zs p 0 w hR
  have hlen : (numR (zs.drop p)).2.2 = 0 → (numR (zs.drop p)).2.1 ≤ (zs.drop p).length := by
   obtain ⟨a, cap, _, _, _, hr⟩ := hR.rest
   exact numR_len _ hr.2.1
  rw [List.length_drop] at hlen
  have HS : Hid (numS (zs.drop p) 0 most = if (numR (zs.drop p)).2.2 = 0 then (if most < (numR (zs.drop p)).1 then (0, zs.drop p, 3) else ((numR (zs.drop p)).1, (zs.drop p).drop (numR (zs.drop p)).2.1, 0)) else (0, zs.drop p, (numR (zs.drop p)).2.2)) := by show _ = _; simp [numS]
  generalize (numR (zs.drop p)).1 = v at *
  generalize (numR (zs.drop p)).2.1 = c at *
  generalize (numR (zs.drop p)).2.2 = er at *
  have hl5 := hR.2.2.2.2.2.2.2.2
  have hpl := hR.2.2.2.2.2.2.2.1
  by_cases her : er = 0
  ·subst her
   have hcl := hlen rfl
   clear hlen
   rw [if_pos rfl] at HS
   by_cases hmost : most < v
   ·rw [if_pos hmost] at HS
    obtain ⟨_, _, _, h2, _⟩ := id hR
    go_enter Tryz.func44, Tryz.ntmps44
    go_wp2_with fail
    refine cn.mono ?_
    rintro en w1 ⟨rfl, k, rfl⟩
    clear cn
    have hR1 := hR.drewN k
    have f2 := hR1.2.2.2.2.2.2.1
    have h2' := hR1.2.2.2.1
    go_wp2_with fail
    go_ret
    rw [HS.out]
    exact ⟨rfl, ⟨zs, p, hR1.set2 3, fun h => by cases h⟩, gb_trans (gbz_drewN w k _) (gb_set _ X 2 _)⟩
   ·rw [if_neg hmost] at HS
    obtain ⟨_, _, _, h2, _⟩ := id hR
    go_enter Tryz.func44, Tryz.ntmps44
    go_wp2_with fail
    refine cn.mono ?_
    rintro en w1 ⟨rfl, k, rfl⟩
    clear cn
    have hR1 := hR.drewN k
    have f1 := hR1.2.2.2.2.2.1
    have h1' := hR1.2.2.1
    have hR2 := hR1.set1 (p + c) (by omega)
    have ec : ((p + c : Nat) : Int) = (p : Int) + (c : Int) := by omega
    rw [ec] at hR2
    clear ec
    go_wp2_with fail
    go_ret
    rw [HS.out]
    exact ⟨rfl, ⟨zs, p + c, hR2, fun _ => by rw [List.drop_drop]⟩, gb_trans (gbz_drewN w k _) (gb_set _ X 1 _)⟩
  ·have her' : (er == 0) = false := by simpa using her
   rw [if_neg her] at HS
   obtain ⟨_, _, _, h2, _⟩ := id hR
   clear hlen
   go_enter Tryz.func44, Tryz.ntmps44
   go_wp2_with fail
   refine cn.mono ?_
   rintro en w1 ⟨rfl, k, rfl⟩
   clear cn
   have hR1 := hR.drewN k
   have f2 := hR1.2.2.2.2.2.2.1
   have h2' := hR1.2.2.2.1
   go_wp2_with fail
   go_ret
   rw [HS.out]
   exact ⟨rfl, ⟨zs, p, hR1.set2 er, fun h => absurd h her⟩, gb_trans (gbz_drewN w k _) (gb_set _ X 2 _)⟩
 ·have HS : Hid (numS rest e most = (0, rest, e)) := by show _ = _; simp [numS, he]
  have he' : (e == 0) = false := by simpa using he
  obtain ⟨_, _, _, h2, _⟩ := id hR
  go_enter Tryz.func44, Tryz.ntmps44
  go_wp2_with fail
  go_ret
  rw [HS.out]
  exact ⟨rfl, ⟨zs, p, hR, fun h => absurd h he⟩, gb_refl _ _⟩
end Go.Proofs.YtcbpbkefggekmaaGreatDoor
namespace Go.Proofs.YtcbpbkefggekmaaGreatDoor
open Go.RowKit
open Sha Tal
variable {B : Nat}
theorem numS_max (rest : List Int) (hz : ∀ z ∈ rest, 0 ≤ z ∧ z < 256) : numS rest 0 9223372036854775807 = if (numR rest).2.2 = 0 then ((numR rest).1, rest.drop (numR rest).2.1, 0) else (0, rest, (numR rest).2.2) := by
 unfold numS
 rw [if_pos rfl]
 by_cases h : (numR rest).2.2 = 0
 ·have := (numR_form rest hz h).2.2.2
  rw [if_pos h, if_pos h, if_neg (by omega)]
 ·rw [if_neg h, if_neg h]
set_option maxHeartbeats 1600000 in
theorem refText_bad (X : Nat) (zs : List Int) (p : Nat) (most : Int) (w : World) (hR : Rf B w X zs p 0) (v : Int) (c : Nat) (er er' : Int)
  (hn : numR (zs.drop p) = (v, c, er)) (h : (er ≠ 0 ∧ er' = er) ∨ (er = 0 ∧ most < v ∧ er' = 3) ∨ (er = 0 ∧ ¬ most < v ∧ (zs.length : Int) - p - c < v ∧ er' = 10)) (hcl : er = 0 → c ≤ zs.length - p) :
  Calls Tryz.prog 45 #[.pointer (some ⟨X, 0, none⟩), .int .i64 most] w fun en w' => en = .returned (.string ⟨#[]⟩) ∧ RSt B w' X [] er' ∧ w.grownBy w' (some X) := by
 have cn := refNumber_any X zs p 0 w hR
 rw [hn] at cn
 have hl5 := hR.2.2.2.2.2.2.2.2
 have hpl := hR.2.2.2.2.2.2.2.1
 have h2 := hR.2.2.2.1
 have f2 := hR.2.2.2.2.2.2.1
 have h1 := hR.2.2.1
 obtain ⟨a, cap, h0, hc, hm, hr⟩ := hR.rest
 rcases h with ⟨her, rfl⟩ | ⟨rfl, hmost, rfl⟩ | ⟨rfl, hmost, hfew, rfl⟩
 ·have her' : (er' == 0) = false := by simpa using her
  go_enter Tryz.func45, Tryz.ntmps45
  go_wp2_with fail
  refine cn.mono ?_
  rintro en w1 ⟨rfl, k, rfl⟩
  clear cn
  go_wp2_with fail
  go_quiet (fail)
  go_wp2_with fail
  go_ret
  exact ⟨rfl, ⟨zs, p, (hR.drewN (k + nq)).set2 er', fun h => absurd h her⟩, gb_trans (gbz_drewN w (k + nq) _) (gb_set _ X 2 _)⟩
 ·clear hcl
  go_enter Tryz.func45, Tryz.ntmps45
  go_wp2_with fail
  refine cn.mono ?_
  rintro en w1 ⟨rfl, k, rfl⟩
  clear cn
  go_wp2_with fail
  go_quiet (fail)
  go_wp2_with fail
  go_ret
  exact ⟨rfl, ⟨zs, p, (hR.drewN (k + nq)).set2 3, fun h => absurd h (by omega)⟩, gb_trans (gbz_drewN w (k + nq) _) (gb_set _ X 2 _)⟩
 ·have hcl' := hcl rfl
  clear hcl
  go_enter Tryz.func45, Tryz.ntmps45
  go_wp2_with fail
  refine cn.mono ?_
  rintro en w1 ⟨rfl, k, rfl⟩
  clear cn
  go_wp2_with fail
  go_quiet (fail)
  go_wp2_with fail
  go_ret
  exact ⟨rfl, ⟨zs, p, (hR.drewN (k + nq)).set2 10, fun h => absurd h (by omega)⟩, gb_trans (gbz_drewN w (k + nq) _) (gb_set _ X 2 _)⟩
set_option maxHeartbeats 1600000 in
theorem refText_good (X : Nat) (zs : List Int) (p : Nat) (most : Int) (w : World) (hR : Rf B w X zs p 0) (m c : Nat)
  (hn : numR (zs.drop p) = ((m : Int), c, 0)) (hmost : ¬ most < (m : Int)) (hmc : p + c + m ≤ zs.length) :
  Calls Tryz.prog 45 #[.pointer (some ⟨X, 0, none⟩), .int .i64 most] w fun en w' => en = .returned (.string (strOf ((zs.drop (p + c)).take m))) ∧ RSt B w' X (zs.drop (p + c + m)) 0 ∧ w.grownBy w' (some X) := by
 have cn := refNumber_any X zs p 0 w hR
 rw [hn] at cn
 have hl5 := hR.2.2.2.2.2.2.2.2
 have hpl := hR.2.2.2.2.2.2.2.1
 have h2 := hR.2.2.2.1
 have f1 := hR.2.2.2.2.2.1
 have h1 := hR.2.2.1
 obtain ⟨a, cap, h0, hc, hm, hrow, hne⟩ := id hR.2.1
 unfold maxLen at hm
 have hfew : ¬ ((zs.length : Int) - p - c < m) := by omega
 have hS : ∀ k n, (convert 59 9 (.slice (cutA a cap (p + c)) m (cap - (p + c)))).run Tryz.prog (((w.drewN k).setCell ⟨X, 1, none⟩ (.int .i64 ((p : Int) + c + m))).drewN n) = .ok (.string (strOf ((zs.drop (p + c)).take m))) (((w.drewN k).setCell ⟨X, 1, none⟩ (.int .i64 ((p : Int) + c + m))).drewN n) := by
  intro k n
  have hg : w.grownBy (((w.drewN k).setCell ⟨X, 1, none⟩ (.int .i64 ((p : Int) + c + m))).drewN n) (some X) := gb_trans (gb_trans (gbz_drewN w k _) (gb_set _ X 1 _)) (gbz_drewN _ n _)
  have hr := ((hrow.drop (p + c) cap (by omega) hc).take m).gb hg (.inr (cutA_ne (suc_ne hne)))
  have hs := hr.str (cap - (p + c))
  rw [List.length_take_of_le (by rw [List.length_drop]; omega)] at hs
  exact hs
 have hRf : ∀ k n, Rf B (((w.drewN k).setCell ⟨X, 1, none⟩ (.int .i64 ((p : Int) + c + m))).drewN n) X zs (p + c + m) 0 := by
  intro k n
  have := ((hR.drewN k).set1 (p + c + m) hmc).drewN n
  have e : ((p + c + m : Nat) : Int) = (p : Int) + c + m := by omega
  rw [e] at this; exact this
 by_cases hcp : cap = p + c
 ·have hA : cutA a cap (p + c) = a := by unfold cutA; rw [if_pos hcp]
  rw [hA] at hS
  clear hA
  obtain rfl : m = 0 := by omega
  subst hcp
  have e0 : ((0 : Nat) : Int) = 0 := rfl
  simp only [e0, Int.add_zero, Nat.add_zero, Nat.sub_self] at hS hRf cn hfew hmost ⊢
  clear e0
  go_enter Tryz.func45, Tryz.ntmps45
  go_wp2_with fail
  refine cn.mono ?_
  rintro en w1 ⟨rfl, k, rfl⟩
  clear cn
  go_wp2_with fail
  go_quiet (fail)
  go_wp2_with fail
  have hS' := hS (k + nq)
  go_quiet (fail)
  go_wp2_with fail
  go_ret
  exact ⟨rfl, ⟨zs, p + c, hRf _ _, fun _ => rfl⟩, gb_trans (gb_trans (gbz_drewN w _ _) (gb_set _ X 1 _)) (gbz_drewN _ _ _)⟩
 ·have hA : cutA a cap (p + c) = a.map (fun x => x.add (p + c)) := by unfold cutA; rw [if_neg hcp]
  generalize hAA : Option.map (fun x : Addr => x.add (p + c)) a = A at *
  rw [hA] at hS
  clear hA
  go_enter Tryz.func45, Tryz.ntmps45
  go_wp2_with fail
  refine cn.mono ?_
  rintro en w1 ⟨rfl, k, rfl⟩
  clear cn
  go_wp2_with fail
  go_quiet (fail)
  go_wp2_with fail
  have hS' := hS (k + nq)
  go_quiet (fail)
  go_wp2_with fail
  go_ret
  exact ⟨rfl, ⟨zs, p + c + m, hRf _ _, fun _ => rfl⟩, gb_trans (gb_trans (gbz_drewN w _ _) (gb_set _ X 1 _)) (gbz_drewN _ _ _)⟩
end Go.Proofs.YtcbpbkefggekmaaGreatDoor
namespace Go.Proofs.YtcbpbkefggekmaaGreatDoor
open Go.RowKit
open Sha Tal
variable {B : Nat}
set_option maxHeartbeats 1600000 in
theorem refText_any (X : Nat) (rest : List Int) (e most : Int) (w : World) (h : RSt B w X rest e) :
  Calls Tryz.prog 45 #[.pointer (some ⟨X, 0, none⟩), .int .i64 most] w fun en w' => en = .returned (.string (strOf (textS rest e most).1)) ∧ RSt B w' X (textS rest e most).2.1 (textS rest e most).2.2 ∧ w.grownBy w' (some X) := by
 obtain ⟨zs, p, hR, hd⟩ := h
 by_cases he : e = 0
 ·subst he
  have hd := hd rfl
  subst hd
  obtain ⟨a, cap, h0, hc, hm, hr⟩ := hR.rest
  have hz := hr.2.1
  have hN := numS_max (zs.drop p) hz
  have hform := numR_form (zs.drop p) hz
  rw [List.length_drop] at hform
  have hpl := hR.2.2.2.2.2.2.2.1
  obtain ⟨v, c, er, hn⟩ : ∃ v c er, numR (zs.drop p) = (v, c, er) := ⟨_, _, _, rfl⟩
  rw [hn] at hN hform
  simp only at hN hform
  by_cases her : er = 0
  ·subst her
   obtain ⟨_, hcl, hv0, hv1⟩ := hform rfl
   rw [if_pos rfl] at hN
   obtain ⟨m, rfl⟩ := Int.eq_ofNat_of_zero_le hv0
   by_cases hmost : most < (m : Int)
   ·have e1 : textS (zs.drop p) 0 most = ([], zs.drop p, 3) := by unfold textS; rw [hN]; simp [hmost]
    rw [e1]
    refine (refText_bad X zs p most w hR m c 0 3 hn (Or.inr (Or.inl ⟨rfl, hmost, rfl⟩)) (fun _ => hcl)).mono ?_
    rintro en w1 ⟨rfl, h1, h2⟩
    exact ⟨rfl, h1.other (by omega) _, h2⟩
   ·by_cases hfew : (zs.length : Int) - p - c < m
    ·have e1 : textS (zs.drop p) 0 most = ([], zs.drop p, 10) := by
      unfold textS; rw [hN]
      have : (((zs.drop p).drop c).length : Int) < m := by rw [List.length_drop, List.length_drop]; omega
      simp only [if_pos trivial, if_neg hmost, if_pos this]
     rw [e1]
     refine (refText_bad X zs p most w hR m c 0 10 hn (Or.inr (Or.inr ⟨rfl, hmost, hfew, rfl⟩)) (fun _ => hcl)).mono ?_
     rintro en w1 ⟨rfl, h1, h2⟩
     exact ⟨rfl, h1.other (by omega) _, h2⟩
    ·have e1 : textS (zs.drop p) 0 most = ((zs.drop (p + c)).take m, zs.drop (p + c + m), 0) := by
      unfold textS; rw [hN]
      have : ¬ ((((zs.drop p).drop c).length : Int) < m) := by rw [List.length_drop, List.length_drop]; omega
      simp only [if_pos trivial, if_neg hmost]
      rw [if_neg this]
      simp only [Int.toNat_natCast, List.drop_drop]
     rw [e1]
     exact refText_good X zs p most w hR m c hn hmost (by omega)
  ·rw [if_neg her] at hN
   have e1 : textS (zs.drop p) 0 most = ([], zs.drop p, er) := by unfold textS; rw [hN]; simp [her]
   rw [e1]
   refine (refText_bad X zs p most w hR v c er er hn (Or.inl ⟨her, rfl⟩) (fun h => absurd h her)).mono ?_
   rintro en w1 ⟨rfl, h1, h2⟩
   exact ⟨rfl, h1.other her _, h2⟩
 ·have HS : Hid (textS rest e most = ([], rest, e)) := by
   show _ = _
   have : numS rest e 9223372036854775807 = (0, rest, e) := by simp [numS, he]
   unfold textS; rw [this]; simp [he]
  have he' : (e == 0) = false := by simpa using he
  obtain ⟨_, _, _, h2, _⟩ := id hR
  go_enter Tryz.func45, Tryz.ntmps45
  go_wp2_with fail
  go_ret
  rw [HS.out]
  exact ⟨rfl, ⟨zs, p, hR, fun h => absurd h he⟩, gb_refl _ _⟩
end Go.Proofs.YtcbpbkefggekmaaGreatDoor
namespace Go.Proofs.YtcbpbkefggekmaaGreatDoor
open Go.RowKit
open Sha Tal
variable {B : Nat}
def rawS (rest : List Int) (e n : Int) : List Int × List Int × Int :=
 if e = 0 then
  if n < 0 then ([], rest, 2)
  else if (rest.length : Int) < n then ([], rest, 10)
  else (rest.take n.toNat, rest.drop n.toNat, 0)
 else ([], rest, e)
theorem cell_block {w w' : World} {b j : Nat} (h : w'.heap[b]? = w.heap[b]?) : w'.cell? ⟨b, j, none⟩ = w.cell? ⟨b, j, none⟩ ∧ w'.frozen? ⟨b, j, none⟩ = w.frozen? ⟨b, j, none⟩ := by
 constructor
 ·simp only [World.cell?, h]
 ·simp only [World.frozen?, h]
theorem RdE.below {w w' : World} {R : Nat} {e : Int} (h : RdE w R e) (hb : w'.heap[R]? = w.heap[R]?) (hs : w.heap.size ≤ w'.heap.size) : RdE w' R e := by
 obtain ⟨hR, ⟨a, n, c, h0⟩, h1, h2, f0, f1, f2⟩ := h
 have hc := fun j => (cell_block (j := j) hb)
 exact ⟨Nat.lt_of_lt_of_le hR hs, ⟨a, n, c, (hc 0).1.trans h0⟩, (hc 1).1.trans h1, (hc 2).1.trans h2, (hc 0).2.trans f0, (hc 1).2.trans f1, (hc 2).2.trans f2⟩
theorem St.below {w w' : World} {R : Nat} {rest : List Int} {e : Int} (h : St w R rest e) (hb : Below w.heap.size w w') : St w' R rest e := by
 have hR := h.1.1
 refine ⟨h.1.below (hb.block R hR) hb.size, fun he => ?_⟩
 obtain ⟨a, cap, h0, hc, hm, hr, hne⟩ := h.2 he
 exact ⟨a, cap, (cell_block (hb.block R hR)).1.trans h0, hc, hm, hr.below hb, hne⟩
theorem Rf.below {w w' : World} {X : Nat} {zs : List Int} {p : Nat} {e : Int} (h : Rf B w X zs p e) (hb : Below w.heap.size w w') : Rf B w' X zs p e := by
 obtain ⟨hX, ⟨a, cap, h0, hc, hm, hr, hne⟩, h1, h2, f0, f1, f2, hp, hl⟩ := h
 have hk := fun j => (cell_block (j := j) (hb.block X hX))
 exact ⟨Nat.lt_of_lt_of_le hX hb.size, ⟨a, cap, (hk 0).1.trans h0, hc, hm, hr.below hb, hne⟩, (hk 1).1.trans h1, (hk 2).1.trans h2, (hk 0).2.trans f0, (hk 1).2.trans f1, (hk 2).2.trans f2, hp, hl⟩
theorem Mine.nil (w : World) (B : Nat) : Mine w B (.slice none 0 0) [] := ⟨World.ownsRow_nil _ _ _ _, by simp⟩
theorem Mine.mono' {w : World} {B B' : Nat} {v : Value} {zs : List Int} (h : Mine w B v zs) (hb : B' ≤ B) : Mine w B' v zs := by
 refine ⟨⟨h.1.1, ?_⟩, h.2⟩
 rcases h.1.2 with h | ⟨g, cap, cur, hv, hg, r⟩
 ·exact .inl h
 ·exact .inr ⟨g, cap, cur, hv, Nat.le_trans hb hg, r⟩
end Go.Proofs.YtcbpbkefggekmaaGreatDoor
namespace Go.Proofs.YtcbpbkefggekmaaGreatDoor
open Go.RowKit
open Sha Tal
theorem bytes_of (s : ByteArray) (hs : s.size ≤ 1099511627) (w : World) : ∃ c w1, (convert 9 59 (.string s)).run Tryz.prog w = .ok (.slice (some ⟨w.heap.size, 0, none⟩) (strL s).length c) w1 ∧ RowAt w1 (some ⟨w.heap.size, 0, none⟩) (strL s) ∧ Below w.heap.size w w1 := by
 refine ⟨grownCap w s.size 0 5, Lib.bytesWorld w 5 s, ?_, ?_, ?_⟩
 ·rw [Lib.run_convert_string_bytes w 9 59 5 s Tryz.underlying9 Tryz.underlying59 Tryz.underlying5, strL_length]
 ·refine ⟨by rw [strL_length]; unfold maxLen; omega, strL_byte s, .inr ⟨_, _, rfl, by rw [Lib.bytesWorld_size]; omega, fun j v hv => ?_⟩⟩
  have hj : j < s.size := by
   have := (List.getElem?_eq_some_iff.1 hv).1
   rwa [v8_length, strL_length] at this
  rw [Nat.zero_add, Lib.bytesWorld_cell w 5 s j hj, ← hv]
  have hj' : j < s.data.toList.length := by simpa using hj
  simp only [v8, strL, List.map_map, List.getElem?_map, List.getElem?_eq_getElem hj', List.getD_eq_getElem?_getD, Option.getD_some, Option.map_some, Function.comp]
 ·exact ⟨rfl, rfl, rfl, by rw [Lib.bytesWorld_size]; omega, fun k hk => Lib.bytesWorld_at_old w 5 s k hk⟩
structure MrAt (w : World) (Q R : Nat) (z : Bool) : Prop where
 lt : Q < w.heap.size
 ne : R < Q
 c0 : w.cell? ⟨Q, 0, none⟩ = some (.pointer (some ⟨R, 0, none⟩))
 c1 : w.cell? ⟨Q, 1, none⟩ = some (.bool z)
 f1 : w.frozen? ⟨Q, 1, none⟩ = false
theorem MrAt.at {w w' : World} {Q R : Nat} {z : Bool} (h : MrAt w Q R z) (hb : w'.heap[Q]? = w.heap[Q]?) (hs : w.heap.size ≤ w'.heap.size) : MrAt w' Q R z :=
 ⟨Nat.lt_of_lt_of_le h.lt hs, h.ne, (cell_block hb).1.trans h.c0, (cell_block hb).1.trans h.c1, (cell_block hb).2.trans h.f1⟩
theorem MrAt.gb {w w' : World} {Q R : Nat} {z : Bool} (h : MrAt w Q R z) (hg : w.grownBy w' (some R)) : MrAt w' Q R z :=
 h.at (hg.block Q h.lt (fun e => by have := h.ne; cases e; omega)) hg.size
theorem MrAt.below {w w' : World} {Q R : Nat} {z : Bool} (h : MrAt w Q R z) (hb : Below w.heap.size w w') : MrAt w' Q R z := h.at (hb.block Q h.lt) hb.size
def doneE (rest : List Int) (e : Int) : Int := if e = 0 then (if rest.length = 0 then 0 else 12) else e
set_option maxRecDepth 100000 in
set_option maxHeartbeats 2000000 in
theorem done_any (R : Nat) (rest : List Int) (e : Int) (w : World) (h : St w R rest e) : Calls Tryz.prog 42 #[.pointer (some ⟨R, 0, none⟩)] w fun en w' => en = .returned (.int .i64 (doneE rest e)) ∧ w' = w := by
 have ce := err_made R e w h.1
 by_cases he : e = 0
 ·subst he
  obtain ⟨a, cap, h0, _⟩ := h.2 rfl
  have cl := left_any R a rest.length cap w h0
  have E : doneE rest 0 = if rest.length = 0 then 0 else 12 := by simp [doneE]
  rw [E]
  clear E h
  by_cases hr : rest.length = 0
  ·rw [if_pos hr]
   rw [hr] at cl
   clear hr h0
   go_enter Tryz.func42, Tryz.ntmps42
   go_wp2_with fail
   refine ce.mono ?_
   rintro e1 w1 ⟨rfl, hx⟩
   obtain rfl := hx.symm
   clear hx
   go_wp2_with fail
   refine cl.mono ?_
   rintro e2 w2 ⟨rfl, hx⟩
   obtain rfl := hx.symm
   clear hx
   go_wp2
   go_ret
   exact ⟨rfl, rfl⟩
  ·rw [if_neg hr]
   have hr' : (0 : Int) < rest.length := by omega
   obtain ⟨n, hn⟩ : ∃ n : Int, (rest.length : Int) = n := ⟨_, rfl⟩
   rw [hn] at cl hr'
   clear hr hn h0
   go_enter Tryz.func42, Tryz.ntmps42
   go_wp2_with fail
   refine ce.mono ?_
   rintro e1 w1 ⟨rfl, hx⟩
   obtain rfl := hx.symm
   clear hx
   go_wp2_with fail
   refine cl.mono ?_
   rintro e2 w2 ⟨rfl, hx⟩
   obtain rfl := hx.symm
   clear hx
   go_wp2
   go_ret
   exact ⟨rfl, rfl⟩
 ·have E : doneE rest e = e := by simp [doneE, he]
  rw [E]
  have n1 : (e != 0) = true := bne_iff_ne.2 he
  clear E h he
  go_enter Tryz.func42, Tryz.ntmps42
  go_wp2_with fail
  refine ce.mono ?_
  rintro e1 w1 ⟨rfl, hx⟩
  obtain rfl := hx.symm
  clear hx
  go_wp2
  go_ret
  exact ⟨rfl, rfl⟩
set_option maxRecDepth 100000 in
set_option maxHeartbeats 2000000 in
theorem fault_ok (Q R : Nat) (rest : List Int) (e : Int) (w : World) (h : St w R rest e) (hq : MrAt w Q R false) : Calls Tryz.prog 67 #[.pointer (some ⟨Q, 0, none⟩)] w fun en w' => en = .returned (.int .i64 (doneE rest e)) ∧ w' = w := by
 have cd := done_any R rest e w h
 have c0 := hq.c0
 have c1 := hq.c1
 generalize doneE rest e = r at *
 clear h hq
 go_enter Tryz.func67, Tryz.ntmps67
 go_wp2_with fail
 refine cd.mono ?_
 rintro e1 w1 ⟨rfl, hx⟩
 obtain rfl := hx.symm
 clear hx cd
 go_wp2
 go_ret
 exact ⟨rfl, rfl⟩
theorem there_blk {w w' : World} {b o n : Nat} (h : w.there b o n) (hb : w'.heap[b]? = w.heap[b]?) : w'.there b o n := fun j hj => by
 have := h j hj
 exact ⟨by rw [(cell_block hb).1]; exact this.1, (cell_block hb).2.trans this.2⟩
theorem St.belowN {w w' : World} {R n : Nat} {rest : List Int} {e : Int} (h : St w R rest e) (hb : Below n w w') (hn : R < n) : St w' R rest e := by
 refine ⟨h.1.below (hb.block R hn) hb.size, fun he => ?_⟩
 obtain ⟨a, cap, h0, hc, hm, hr, hne⟩ := h.2 he
 refine ⟨a, cap, (cell_block (hb.block R hn)).1.trans h0, hc, hm, ⟨hr.1, hr.2.1, ?_⟩, hne⟩
 rcases hr.2.2 with q | ⟨b, off, rfl, q1, q2⟩
 ·exact .inl q
 ·exact .inr ⟨b, off, rfl, Nat.lt_of_lt_of_le q1 hb.size, range_below q2 hb (by have := hne _ rfl; simp only at this; omega)⟩
theorem strOf_strL (s : ByteArray) : strOf (strL s) = s := by
 unfold strOf strL
 rw [foldl_push_byteCells]
 cases s; simp
namespace Tal
theorem head_digs (n : Nat) (h0 : 0 < n) (h : n < 2 ^ 63) : (digs n).head? ≠ some 0 := by
  obtain ⟨_, b, c⟩ := wid_bounds 8 n h (by omega)
  obtain ⟨c1, c2⟩ := c h0
  have hg := digK_get (wid n) n 0 c1
  have hl := digs_length n
  unfold digs at hl ⊢
  cases hd : digK (wid n) n with
  | nil => simp
  | cons x tl =>
    rw [hd] at hg
    have hg' : x = ((n / 256 ^ (wid n - 1 - 0) % 256 : Nat) : Int) := hg
    rw [Nat.sub_zero] at hg'
    have hlt : n / 256 ^ (wid n - 1) < 256 := by
      rw [Nat.div_lt_iff_lt_mul (Nat.pow_pos (by omega)), Nat.mul_comm, ← Nat.pow_succ]
      have e : (wid n - 1).succ = wid n := by omega
      rw [e]; exact b
    have hpos : 0 < n / 256 ^ (wid n - 1) := Nat.div_pos c2 (Nat.pow_pos (by omega))
    rw [Nat.mod_eq_of_lt hlt] at hg'
    intro hc
    simp only [List.head?_cons, Option.some.injEq] at hc
    omega
theorem numR_back (n : Nat) (h : n < 2 ^ 63) (more : List Int) : numR (numB n ++ more) = ((n : Int), 1 + wid n, 0) := by
 have hw := wid_le n h
 have hv := val_digs n h
 have ht : (digs n ++ more).take (wid n) = digs n := by rw [List.take_append_of_le_length (by rw [digs_length]; exact Nat.le_refl _), List.take_of_length_le (by rw [digs_length]; exact Nat.le_refl _)]
 have hh : ¬ ((digs n).head? = some 0 ∨ 9223372036854775807 < val (digs n)) := by
  rw [hv]
  by_cases h0 : n = 0
  ·subst h0; rw [digs_zero]; simp
  ·intro hc
   rcases hc with hc | hc
   ·exact head_digs n (by omega) h hc
   ·omega
 have e : valR (digs n) = ((n : Int), 0) := by unfold valR; rw [if_neg hh, hv]
 have e0 : numB n ++ more = (wid n : Int) :: (digs n ++ more) := rfl
 rw [e0]
 simp only [numR]
 rw [if_neg (by omega), if_neg (by rw [List.length_append, digs_length]; omega), Int.toNat_natCast, ht, e]
 simp
theorem numS_back (x most : Int) (h0 : 0 ≤ x) (h1 : x ≤ 9223372036854775807) (hm : x ≤ most) (more : List Int) : numS (putL x ++ more) 0 most = (x, more, 0) := by
 have e : putL x = numB x.toNat := by unfold putL; rw [if_neg (by omega)]
 have hr := numR_back x.toNat (by omega) more
 have hx : ((x.toNat : Nat) : Int) = x := by omega
 rw [hx] at hr
 have hd : (numB x.toNat ++ more).drop (1 + wid x.toNat) = more := by
  have : (numB x.toNat).length = 1 + wid x.toNat := by simp only [numB, List.length_cons, digs_length]; omega
  rw [← this, List.drop_append_of_le_length (Nat.le_refl _)]; simp
 unfold numS
 rw [e, hr, if_pos rfl, if_pos rfl, if_neg (by omega), hd]
end Tal
theorem textS_back (s : ByteArray) (most : Int) (hs : s.size ≤ 1099511627) (hm : (s.size : Int) ≤ most) (more : List Int) : textS (textL s ++ more) 0 most = (strL s, more, 0) := by
 have e : textL s ++ more = putL (s.size : Int) ++ (strL s ++ more) := by unfold textL; rw [List.append_assoc]
 have hn := numS_back (s.size : Int) 9223372036854775807 (by omega) (by omega) (by omega) (strL s ++ more)
 unfold textS
 rw [e, hn]
 simp only [Int.toNat_natCast]
 rw [if_pos trivial, if_neg (by omega), if_neg (by rw [List.length_append, strL_length]; omega)]
 have hl := strL_length s
 rw [List.take_append_of_le_length (by omega), List.take_of_length_le (by omega), List.drop_append_of_le_length (by omega), List.drop_of_length_le (by omega), List.nil_append]
theorem strOf_list (zs : List Int) : (strOf zs).toList = zs.map (fun n => UInt8.ofNat n.toNat) := by
  have key : ∀ (zs : List Int) (r : ByteArray), (zs.foldl (fun r n => r.push (UInt8.ofNat n.toNat)) r).data.toList = r.data.toList ++ zs.map (fun n => UInt8.ofNat n.toNat) := by
    intro zs
    induction zs with
    | nil => intro r; simp
    | cons z zs ih => intro r; rw [List.foldl_cons, ih]; simp [ByteArray.push]
  rw [ByteArray.toList_eq]
  unfold strOf
  rw [key]
  rfl
theorem strOf_inj : ∀ {xs ys : List Int}, (∀ z ∈ xs, 0 ≤ z ∧ z < 256) → (∀ z ∈ ys, 0 ≤ z ∧ z < 256) → (strOf xs).toList = (strOf ys).toList → xs = ys := by
 intro xs ys hx hy h
 rw [strOf_list, strOf_list] at h
 have hl : xs.length = ys.length := by simpa using congrArg List.length h
 apply List.ext_getElem hl
 intro i h1 h2
 have := congrArg (·[i]?) h
 simp only [List.getElem?_map, List.getElem?_eq_getElem h1, List.getElem?_eq_getElem h2, Option.map_some, Option.some.injEq] at this
 have a1 := hx _ (List.getElem_mem h1)
 have a2 := hy _ (List.getElem_mem h2)
 have := congrArg UInt8.toNat this
 simp only [UInt8.toNat_ofNat'] at this
 omega
theorem inB_iff {n m : Int} : inB n m = true ↔ 0 ≤ n ∧ n ≤ m := by unfold inB; exact decide_eq_true_iff
open Go.RowKit
open Sha Tal
theorem results_ct {fn : Func} {p u : Tmp} {ty : TypeId} (h : fn.results = #[.cell p ty, .tmp u]) (tmps : Array Value) (P : Program) (w : World) {a : Addr} {v : Value} (ha : tmps.getD p undef = .pointer (some a)) (hv : (loadVar ty a).run P w = .ok v w) : (results fn tmps).run P w = .ok (.tuple #[v, tmps.getD u undef]) w := by
 rw [results_cell_tmp h, ha]
 simp [asAddr, hv, Result.andThen]
def RowOf {α : Type} (f : α → List Value) (w : World) (a : Option Addr) (ys : List α) : Prop := ys = [] ∨ ∃ b off, a = some ⟨b, off, none⟩ ∧ b < w.heap.size ∧ w.rangeAt b off (ys.flatMap f)
theorem RowOf.below {α : Type} {f : α → List Value} {w w' : World} {a : Option Addr} {ys : List α} (h : RowOf f w a ys) (hb : Below w.heap.size w w') : RowOf f w' a ys := by
 rcases h with h | ⟨b, off, rfl, h1, h2⟩
 ·exact .inl h
 ·exact .inr ⟨b, off, rfl, Nat.lt_of_lt_of_le h1 hb.size, range_below h2 hb h1⟩
theorem flat_len_k {α : Type} {f : α → List Value} {k : Nat} {ys : List α} (h : ∀ y ∈ ys, (f y).length = k) : (ys.flatMap f).length = ys.length * k := by
  induction ys with
  | nil => simp
  | cons y ys ih =>
    have h1 := h y (by simp)
    have h2 := ih (fun x hx => h x (by simp [hx]))
    simp only [List.flatMap_cons, List.length_append, List.length_cons, Nat.add_mul, Nat.one_mul]
    omega
theorem RowOf.elem {α : Type} {f : α → List Value} {k : Nat} {w : World} {a : Option Addr} {ys : List α} (h : RowOf f w a ys) (hk : ∀ y ∈ ys, (f y).length = k) (i : Nat) (hi : i < ys.length) : ∃ b off, a = some ⟨b, off, none⟩ ∧ b < w.heap.size ∧ w.rangeAt b (off + i * k) (f ys[i]) := by
 rcases h with h0 | ⟨b, off, rfl, h1, h2⟩
 ·subst h0; simp at hi
 ·refine ⟨b, off, rfl, h1, ?_⟩
  have e : ys.take i ++ (ys[i] :: ys.drop (i + 1)) = ys := by rw [← List.drop_eq_getElem_cons hi, List.take_append_drop]
  have e2 : ys.flatMap f = (ys.take i).flatMap f ++ f ys[i] ++ (ys.drop (i + 1)).flatMap f := by
   have := congrArg (List.flatMap f) e
   rw [← this]
   simp only [List.flatMap_append, List.flatMap_cons, List.append_assoc]
  rw [e2] at h2
  have h3 := range_part h2
  rwa [flat_len_k (fun y hy => hk y (List.mem_of_mem_take hy)), List.length_take, Nat.min_eq_left (by omega)] at h3
structure El (α : Type) where
 f : α → List Value
 k : Nat
 ok : α → Prop
 len : ∀ y, ok y → (f y).length = k
 one : ∀ y, ∀ v ∈ f y, v.oneCell' = true
def RowsAt {α : Type} (E : El α) (w : World) (a : Option Addr) (ys : List α) : Prop := ys.length ≤ maxLen ∧ (∀ y ∈ ys, E.ok y) ∧ RowOf E.f w a ys
theorem RowsAt.below {α : Type} {E : El α} {w w' : World} {a : Option Addr} {ys : List α} (h : RowsAt E w a ys) (hb : Below w.heap.size w w') : RowsAt E w' a ys := ⟨h.1, h.2.1, h.2.2.below hb⟩
theorem RowsAt.elem {α : Type} {E : El α} {w : World} {a : Option Addr} {ys : List α} (h : RowsAt E w a ys) (i : Nat) (hi : i < ys.length) : ∃ b off, a = some ⟨b, off, none⟩ ∧ b < w.heap.size ∧ w.rangeAt b (off + i * E.k) (E.f ys[i]) := h.2.2.elem (fun y hy => E.len y (h.2.1 y hy)) i hi
theorem RowsAt.none {α : Type} {E : El α} {w : World} {a : Option Addr} : RowsAt E w a [] := ⟨by simp, by simp, .inl rfl⟩
structure Sg where
 n : Int
 t : List Int
deriving Inhabited
structure Sg.ok (r : Sg) : Prop where
 tl : r.t.length = 16
 tb : ∀ z ∈ r.t, 0 ≤ z ∧ z < 256
 nl : -9223372036854775808 ≤ r.n
 nh : r.n ≤ 9223372036854775807
def Sg.cells (r : Sg) : List Value := .int .i64 r.n :: v8 r.t
def SgE : El Sg where
 f := Sg.cells
 k := 17
 ok := Sg.ok
 len := fun r h => by have := h.tl; simp [Sg.cells, v8]; omega
 one := fun r v hv => by
  rcases List.mem_cons.1 hv with rfl | hv
  ·rfl
  ·exact v8_one r.t v hv
structure Ev where
 n : Int
 s : ByteArray
 t : List Int
deriving Inhabited
structure Ev.ok (r : Ev) : Prop where
 tl : r.t.length = 16
 tb : ∀ z ∈ r.t, 0 ≤ z ∧ z < 256
 sl : r.s.size ≤ maxLen
 nl : -9223372036854775808 ≤ r.n
 nh : r.n ≤ 9223372036854775807
def Ev.cells (r : Ev) : List Value := .int .i64 r.n :: .string r.s :: v8 r.t
def EvE : El Ev where
 f := Ev.cells
 k := 18
 ok := Ev.ok
 len := fun r h => by have := h.tl; simp [Ev.cells, v8]; omega
 one := fun r v hv => by
  simp only [Ev.cells, List.mem_cons] at hv
  rcases hv with rfl | rfl | hv
  ·rfl
  ·rfl
  ·exact v8_one r.t v hv
structure Rq where
 c : Int
 n : Int
 s : ByteArray
 t : List Int
deriving Inhabited
structure Rq.ok (r : Rq) : Prop where
 tl : r.t.length = 16
 tb : ∀ z ∈ r.t, 0 ≤ z ∧ z < 256
 sl : r.s.size ≤ maxLen
 cl : -9223372036854775808 ≤ r.c
 ch : r.c ≤ 9223372036854775807
 nl : -9223372036854775808 ≤ r.n
 nh : r.n ≤ 9223372036854775807
def Rq.cells (r : Rq) : List Value := .int .i64 r.c :: .int .i64 r.n :: .string r.s :: v8 r.t
def RqE : El Rq where
 f := Rq.cells
 k := 19
 ok := Rq.ok
 len := fun r h => by have := h.tl; simp [Rq.cells, v8]; omega
 one := fun r v hv => by
  simp only [Rq.cells, List.mem_cons] at hv
  rcases hv with rfl | rfl | rfl | hv
  ·rfl
  ·rfl
  ·rfl
  ·exact v8_one r.t v hv
theorem toList_iff {a b : ByteArray} : a.toList = b.toList ↔ a = b := by
 constructor
 ·intro h
  rw [ByteArray.toList_eq, ByteArray.toList_eq] at h
  exact ByteArray.ext (Array.toList_inj.1 h)
 ·intro h; rw [h]
theorem iszT : (Tryz.prog.info? 23).map (·.size) = some 16 := by kernel_rfl
theorem part_strV (w : World) (q : List Value) (i : Nat) (c : ByteArray) (h : q[i]? = some (.string c)) : (part 9 q.toArray i).run Tryz.prog w = .ok (.string c) w := by
 simp [part, isAgg, run_underlying Tryz.underlying9, h]
theorem part_tagV (w : World) (q : List Value) (i : Nat) (t : List Int) (h : List.take 16 (List.drop i q) = v8 t) : (part 23 q.toArray i).run Tryz.prog w = .ok (.agg (v8 t).toArray) w := by
 simp [part, isAgg, run_underlying Tryz.underlying23, run_size iszT, h]
theorem fldSg : (Tryz.prog.fieldsOf 133).toList.map (fun f => (f.name, f.type, f.offset)) = [("Node", 3, 0), ("Tag", 23, 1)] := by kernel_rfl
theorem undSg : Tryz.prog.underlying 133 = some (.struct (Tryz.prog.fieldsOf 133)) := by kernel_rfl
theorem sihSg : Tryz.prog.stoodInHeld 133 = false := by kernel_rfl
def Sg.B (x y : Sg) : Bool := (x.n == y.n) && ((x.t == y.t))
theorem Sg.B_iff {x y : Sg} : Sg.B x y = true ↔ x = y := by
 cases x
 cases y
 simp [Sg.B]
theorem Sg.eqIn (x y : Sg) (hx : x.t.length = 16) (hy : y.t.length = 16) (d : Nat) (w : World) :
  (Op.equalIn (d + 2 + 1) 133 (.agg x.cells.toArray) (.agg y.cells.toArray)).run Tryz.prog w = .ok (Sg.B x y) w := by
 rw [run_equalIn_struct w (d + 2) 133 _ _ undSg sihSg]
 have hf := fldSg
 generalize (Tryz.prog.fieldsOf 133).toList = fs at hf
 obtain ⟨f0, f1, rfl⟩ : ∃ f0 f1, fs = [f0, f1] := by
  rcases fs with _ | ⟨f0, _ | ⟨f1, _ | ⟨f2, fs⟩⟩⟩ <;> simp at hf
  exact ⟨f0, f1, rfl⟩
 simp only [List.map_cons, List.map_nil, List.cons.injEq, Prod.mk.injEq, and_true] at hf
 obtain ⟨⟨a0, b0, d0⟩, ⟨a1, b1, d1⟩⟩ := hf
 have p0 := part_intV w x.cells 0 x.n rfl
 have q0 := part_intV w y.cells 0 y.n rfl
 have p1 := part_tagV w x.cells 1 x.t (by show List.take 16 (v8 x.t) = v8 x.t; rw [List.take_of_length_le (by rw [v8_length, hx]; exact Nat.le_refl _)])
 have q1 := part_tagV w y.cells 1 y.t (by show List.take 16 (v8 y.t) = v8 y.t; rw [List.take_of_length_le (by rw [v8_length, hy]; exact Nat.le_refl _)])
 have eI := fun a b => run_equalIn_int (P := Tryz.prog) w (d + 1) 3 .i64 .i64 a b Tryz.underlying3
 have eT := run_equal8 (P := Tryz.prog) w d 23 5 16 Tryz.underlying23 Tryz.underlying5 isz8 x.t y.t hx hy
 unfold Sg.B
 generalize x.cells.toArray = q at *
 generalize y.cells.toArray = q' at *
 obtain ⟨T, hT⟩ : ∃ T, (v8 x.t).toArray = T := ⟨_, rfl⟩
 obtain ⟨T', hT'⟩ : ∃ T, (v8 y.t).toArray = T := ⟨_, rfl⟩
 rw [hT] at p1 eT
 rw [hT'] at q1 eT
 clear hT hT'
 obtain ⟨D, hD⟩ : ∃ D, d + 1 + 1 = D := ⟨_, rfl⟩
 have eT : (Op.equalIn (d + 1 + 1) 23 (.agg T) (.agg T')).run Tryz.prog w = .ok (x.t == y.t) w := eT
 rw [hD] at eT
 have n0 : ¬ ("Node" = "_") := by decide
 have n1 : ¬ ("Tag" = "_") := by decide
 simp only [Op.eqFields, a0, b0, d0, a1, b1, d1, ne_eq, n0, n1, not_false_eq_true, if_true]
 rw [show d + 2 = d + 1 + 1 from rfl, hD]
 rw [hD] at eI
 clear hD
 simp only [Sem.run_bind, p0, q0, Result.andThen_ok, eI]
 cases (x.n == y.n)
 ·simp only [Bool.not_false, if_true, Sem.run_pure, Bool.false_and]
 ·simp only [Bool.not_true, Bool.false_eq_true, if_false, Sem.run_bind, p1, q1, Result.andThen_ok, eT, Bool.true_and]
  cases (x.t == y.t)
  ·simp only [Bool.not_false, if_true, Sem.run_pure]
  ·simp only [Bool.not_true, Bool.false_eq_true, if_false, Sem.run_pure]
theorem Sg.eq10 (x y : Sg) (hx : x.ok) (hy : y.ok) (w : World) : (Op.equalIn 10000 133 (.agg x.cells.toArray) (.agg y.cells.toArray)).run Tryz.prog w = .ok (Sg.B x y) w := Sg.eqIn x y hx.tl hy.tl 9997 w
theorem fldEv : (Tryz.prog.fieldsOf 25).toList.map (fun f => (f.name, f.type, f.offset)) = [("From", 3, 0), ("Body", 9, 1), ("Tag", 23, 2)] := by kernel_rfl
theorem undEv : Tryz.prog.underlying 25 = some (.struct (Tryz.prog.fieldsOf 25)) := by kernel_rfl
theorem sihEv : Tryz.prog.stoodInHeld 25 = false := by kernel_rfl
def Ev.B (x y : Ev) : Bool := (x.n == y.n) && ((x.s.toList == y.s.toList) && ((x.t == y.t)))
theorem Ev.B_iff {x y : Ev} : Ev.B x y = true ↔ x = y := by
 cases x
 cases y
 simp [Ev.B, toList_iff]
theorem Ev.eqIn (x y : Ev) (hx : x.t.length = 16) (hy : y.t.length = 16) (d : Nat) (w : World) :
  (Op.equalIn (d + 2 + 1) 25 (.agg x.cells.toArray) (.agg y.cells.toArray)).run Tryz.prog w = .ok (Ev.B x y) w := by
 rw [run_equalIn_struct w (d + 2) 25 _ _ undEv sihEv]
 have hf := fldEv
 generalize (Tryz.prog.fieldsOf 25).toList = fs at hf
 obtain ⟨f0, f1, f2, rfl⟩ : ∃ f0 f1 f2, fs = [f0, f1, f2] := by
  rcases fs with _ | ⟨f0, _ | ⟨f1, _ | ⟨f2, _ | ⟨f3, fs⟩⟩⟩⟩ <;> simp at hf
  exact ⟨f0, f1, f2, rfl⟩
 simp only [List.map_cons, List.map_nil, List.cons.injEq, Prod.mk.injEq, and_true] at hf
 obtain ⟨⟨a0, b0, d0⟩, ⟨a1, b1, d1⟩, ⟨a2, b2, d2⟩⟩ := hf
 have p0 := part_intV w x.cells 0 x.n rfl
 have q0 := part_intV w y.cells 0 y.n rfl
 have p1 := part_strV w x.cells 1 x.s rfl
 have q1 := part_strV w y.cells 1 y.s rfl
 have p2 := part_tagV w x.cells 2 x.t (by show List.take 16 (v8 x.t) = v8 x.t; rw [List.take_of_length_le (by rw [v8_length, hx]; exact Nat.le_refl _)])
 have q2 := part_tagV w y.cells 2 y.t (by show List.take 16 (v8 y.t) = v8 y.t; rw [List.take_of_length_le (by rw [v8_length, hy]; exact Nat.le_refl _)])
 have eI := fun a b => run_equalIn_int (P := Tryz.prog) w (d + 1) 3 .i64 .i64 a b Tryz.underlying3
 have eS := fun a b => run_equalIn_string (P := Tryz.prog) w (d + 1) 9 a b Tryz.underlying9
 have eT := run_equal8 (P := Tryz.prog) w d 23 5 16 Tryz.underlying23 Tryz.underlying5 isz8 x.t y.t hx hy
 unfold Ev.B
 generalize x.cells.toArray = q at *
 generalize y.cells.toArray = q' at *
 obtain ⟨T, hT⟩ : ∃ T, (v8 x.t).toArray = T := ⟨_, rfl⟩
 obtain ⟨T', hT'⟩ : ∃ T, (v8 y.t).toArray = T := ⟨_, rfl⟩
 rw [hT] at p2 eT
 rw [hT'] at q2 eT
 clear hT hT'
 obtain ⟨D, hD⟩ : ∃ D, d + 1 + 1 = D := ⟨_, rfl⟩
 have eT : (Op.equalIn (d + 1 + 1) 23 (.agg T) (.agg T')).run Tryz.prog w = .ok (x.t == y.t) w := eT
 rw [hD] at eT
 have n0 : ¬ ("From" = "_") := by decide
 have n1 : ¬ ("Body" = "_") := by decide
 have n2 : ¬ ("Tag" = "_") := by decide
 simp only [Op.eqFields, a0, b0, d0, a1, b1, d1, a2, b2, d2, ne_eq, n0, n1, n2, not_false_eq_true, if_true]
 rw [show d + 2 = d + 1 + 1 from rfl, hD]
 rw [hD] at eI
 simp only [hD] at eS
 clear hD
 simp only [Sem.run_bind, p0, q0, Result.andThen_ok, eI]
 cases (x.n == y.n)
 ·simp only [Bool.not_false, if_true, Sem.run_pure, Bool.false_and]
 ·simp only [Bool.not_true, Bool.false_eq_true, if_false, Sem.run_bind, p1, q1, Result.andThen_ok, eS, Bool.true_and]
  cases (x.s.toList == y.s.toList)
  ·simp only [Bool.not_false, if_true, Sem.run_pure, Bool.false_and]
  ·simp only [Bool.not_true, Bool.false_eq_true, if_false, Sem.run_bind, p2, q2, Result.andThen_ok, eT, Bool.true_and]
   cases (x.t == y.t)
   ·simp only [Bool.not_false, if_true, Sem.run_pure]
   ·simp only [Bool.not_true, Bool.false_eq_true, if_false, Sem.run_pure]
theorem Ev.eq10 (x y : Ev) (hx : x.ok) (hy : y.ok) (w : World) : (Op.equalIn 10000 25 (.agg x.cells.toArray) (.agg y.cells.toArray)).run Tryz.prog w = .ok (Ev.B x y) w := Ev.eqIn x y hx.tl hy.tl 9997 w
theorem fldRq : (Tryz.prog.fieldsOf 81).toList.map (fun f => (f.name, f.type, f.offset)) = [("Client", 3, 0), ("Num", 3, 1), ("Data", 9, 2), ("Tag", 23, 3)] := by kernel_rfl
theorem undRq : Tryz.prog.underlying 81 = some (.struct (Tryz.prog.fieldsOf 81)) := by kernel_rfl
theorem sihRq : Tryz.prog.stoodInHeld 81 = false := by kernel_rfl
def Rq.B (x y : Rq) : Bool := (x.c == y.c) && ((x.n == y.n) && ((x.s.toList == y.s.toList) && ((x.t == y.t))))
theorem Rq.B_iff {x y : Rq} : Rq.B x y = true ↔ x = y := by
 cases x
 cases y
 simp [Rq.B, toList_iff]
theorem Rq.eqIn (x y : Rq) (hx : x.t.length = 16) (hy : y.t.length = 16) (d : Nat) (w : World) :
  (Op.equalIn (d + 2 + 1) 81 (.agg x.cells.toArray) (.agg y.cells.toArray)).run Tryz.prog w = .ok (Rq.B x y) w := by
 rw [run_equalIn_struct w (d + 2) 81 _ _ undRq sihRq]
 have hf := fldRq
 generalize (Tryz.prog.fieldsOf 81).toList = fs at hf
 obtain ⟨f0, f1, f2, f3, rfl⟩ : ∃ f0 f1 f2 f3, fs = [f0, f1, f2, f3] := by
  rcases fs with _ | ⟨f0, _ | ⟨f1, _ | ⟨f2, _ | ⟨f3, _ | ⟨f4, fs⟩⟩⟩⟩⟩ <;> simp at hf
  exact ⟨f0, f1, f2, f3, rfl⟩
 simp only [List.map_cons, List.map_nil, List.cons.injEq, Prod.mk.injEq, and_true] at hf
 obtain ⟨⟨a0, b0, d0⟩, ⟨a1, b1, d1⟩, ⟨a2, b2, d2⟩, ⟨a3, b3, d3⟩⟩ := hf
 have p0 := part_intV w x.cells 0 x.c rfl
 have q0 := part_intV w y.cells 0 y.c rfl
 have p1 := part_intV w x.cells 1 x.n rfl
 have q1 := part_intV w y.cells 1 y.n rfl
 have p2 := part_strV w x.cells 2 x.s rfl
 have q2 := part_strV w y.cells 2 y.s rfl
 have p3 := part_tagV w x.cells 3 x.t (by show List.take 16 (v8 x.t) = v8 x.t; rw [List.take_of_length_le (by rw [v8_length, hx]; exact Nat.le_refl _)])
 have q3 := part_tagV w y.cells 3 y.t (by show List.take 16 (v8 y.t) = v8 y.t; rw [List.take_of_length_le (by rw [v8_length, hy]; exact Nat.le_refl _)])
 have eI := fun a b => run_equalIn_int (P := Tryz.prog) w (d + 1) 3 .i64 .i64 a b Tryz.underlying3
 have eS := fun a b => run_equalIn_string (P := Tryz.prog) w (d + 1) 9 a b Tryz.underlying9
 have eT := run_equal8 (P := Tryz.prog) w d 23 5 16 Tryz.underlying23 Tryz.underlying5 isz8 x.t y.t hx hy
 unfold Rq.B
 generalize x.cells.toArray = q at *
 generalize y.cells.toArray = q' at *
 obtain ⟨T, hT⟩ : ∃ T, (v8 x.t).toArray = T := ⟨_, rfl⟩
 obtain ⟨T', hT'⟩ : ∃ T, (v8 y.t).toArray = T := ⟨_, rfl⟩
 rw [hT] at p3 eT
 rw [hT'] at q3 eT
 clear hT hT'
 obtain ⟨D, hD⟩ : ∃ D, d + 1 + 1 = D := ⟨_, rfl⟩
 have eT : (Op.equalIn (d + 1 + 1) 23 (.agg T) (.agg T')).run Tryz.prog w = .ok (x.t == y.t) w := eT
 rw [hD] at eT
 have n0 : ¬ ("Client" = "_") := by decide
 have n1 : ¬ ("Num" = "_") := by decide
 have n2 : ¬ ("Data" = "_") := by decide
 have n3 : ¬ ("Tag" = "_") := by decide
 simp only [Op.eqFields, a0, b0, d0, a1, b1, d1, a2, b2, d2, a3, b3, d3, ne_eq, n0, n1, n2, n3, not_false_eq_true, if_true]
 rw [show d + 2 = d + 1 + 1 from rfl, hD]
 rw [hD] at eI
 simp only [hD] at eS
 clear hD
 simp only [Sem.run_bind, p0, q0, Result.andThen_ok, eI]
 cases (x.c == y.c)
 ·simp only [Bool.not_false, if_true, Sem.run_pure, Bool.false_and]
 ·simp only [Bool.not_true, Bool.false_eq_true, if_false, Sem.run_bind, p1, q1, Result.andThen_ok, eI, Bool.true_and]
  cases (x.n == y.n)
  ·simp only [Bool.not_false, if_true, Sem.run_pure, Bool.false_and]
  ·simp only [Bool.not_true, Bool.false_eq_true, if_false, Sem.run_bind, p2, q2, Result.andThen_ok, eS, Bool.true_and]
   cases (x.s.toList == y.s.toList)
   ·simp only [Bool.not_false, if_true, Sem.run_pure, Bool.false_and]
   ·simp only [Bool.not_true, Bool.false_eq_true, if_false, Sem.run_bind, p3, q3, Result.andThen_ok, eT, Bool.true_and]
    cases (x.t == y.t)
    ·simp only [Bool.not_false, if_true, Sem.run_pure]
    ·simp only [Bool.not_true, Bool.false_eq_true, if_false, Sem.run_pure]
theorem Rq.eq10 (x y : Rq) (hx : x.ok) (hy : y.ok) (w : World) : (Op.equalIn 10000 81 (.agg x.cells.toArray) (.agg y.cells.toArray)).run Tryz.prog w = .ok (Rq.B x y) w := Rq.eqIn x y hx.tl hy.tl 9997 w
end Go.Proofs.YtcbpbkefggekmaaGreatDoor
