/- message.Vote, message.Mark; the document's only, at votes and marks; the document's Good at votes and marks -/
import Derived.Test.YtghgomglpgidoaaGreatJV5
namespace Go.Proofs.YtghgomglpgidoaaGreat
open Go.RowKit
open Sha Tal
theorem wrS_ok {zs bs : List Int} (h : zs.length + bs.length ≤ 4194304) : wrS (zs, false) bs = (zs ++ bs, false) := by
  have e : fullB false bs.length zs = false := by
    unfold fullB
    rw [Bool.false_or]
    exact decide_eq_false (by omega)
  unfold wrS
  simp only [e, wrL_f]
theorem putL_len {n : Int} (h : n ≤ 9223372036854775807) : (putL n).length ≤ 9 := putL_length n (by omega)
theorem wrN1 {zs : List Int} {a : Int} (ha : a ≤ 9223372036854775807) (hz : zs.length ≤ 1000) : wrN (zs, false) [a] = (zs ++ putL a, false) := by
  have := putL_len ha
  show wrS (zs, false) (putL a) = _
  rw [wrS_ok (by omega)]
theorem wrN2 {zs : List Int} {a b : Int} (ha : a ≤ 9223372036854775807) (hb : b ≤ 9223372036854775807) (hz : zs.length ≤ 1000) : wrN (zs, false) [a, b] = (zs ++ putL a ++ putL b, false) := by
  have h1 := putL_len ha
  have h2 := putL_len hb
  show wrS (wrS (zs, false) (putL a)) (putL b) = _
  rw [wrS_ok (by omega), wrS_ok (by rw [List.length_append]; omega)]
theorem wrN4 {zs : List Int} {a b c d : Int} (ha : a ≤ 9223372036854775807) (hb : b ≤ 9223372036854775807) (hc : c ≤ 9223372036854775807) (hd : d ≤ 9223372036854775807) (hz : zs.length ≤ 1000) : wrN (zs, false) [a, b, c, d] = (zs ++ putL a ++ putL b ++ putL c ++ putL d, false) := by
  have h1 := putL_len ha
  have h2 := putL_len hb
  have h3 := putL_len hc
  have h4 := putL_len hd
  show wrS (wrS (wrS (wrS (zs, false) (putL a)) (putL b)) (putL c)) (putL d) = _
  rw [wrS_ok (by omega), wrS_ok (by rw [List.length_append]; omega), wrS_ok (by simp only [List.length_append]; omega), wrS_ok (by simp only [List.length_append]; omega)]
/-- a vote's bytes; a mark's; a status's -/
def voteL (x : Vt) : List Int := putL 2 ++ putL x.k ++ putL x.e ++ putL x.v ++ putL x.s ++ x.d
def markL (e : Int) (d : List Int) : List Int := putL 5 ++ putL e ++ d
def statL (e s : Int) : List Int := putL 6 ++ putL e ++ putL s
theorem writes2 {x : Vt} (hx : x.ok) : Writes (Ms.plain 2 0 0 x zeros32).cells (voteL x) := fun X w h => by
  have := wmsg2 X (.slice none 0 0) ([], false) (Ms.plain 2 0 0 x zeros32) w (plain_ok2 hx) rfl h (by simp)
  have e : wrS (wrN (wrN ([], false) [2]) [x.k, x.e, x.v, x.s]) x.d = (voteL x, false) := by
    have p := @putL_len 2 (by omega)
    have h1 := putL_len hx.k
    have h2 := putL_len hx.e
    have h3 := putL_len hx.v
    have h4 := putL_len hx.s
    have h5 := hx.dl
    rw [wrN1 (by omega) (by simp), List.nil_append, wrN4 hx.k hx.e hx.v hx.s (by omega), wrS_ok (by simp only [List.length_append]; omega)]
    rfl
  show Calls _ _ _ w _
  have e1 : (wrS (wrN (wrN ([], false) [2]) [(Ms.plain 2 0 0 x zeros32).vt.k, (Ms.plain 2 0 0 x zeros32).vt.e, (Ms.plain 2 0 0 x zeros32).vt.v, (Ms.plain 2 0 0 x zeros32).vt.s]) (Ms.plain 2 0 0 x zeros32).vt.d) = (voteL x, false) := e
  rw [e1] at this
  exact this
theorem writes5 {e : Int} {d : List Int} (he : e ≤ 9223372036854775807) (hd : d.length = 32) (hdb : ∀ z ∈ d, 0 ≤ z ∧ z < 256) : Writes (Ms.plain 5 e 0 Vt.zero d).cells (markL e d) := fun X w h => by
  have := wmsg5 X (.slice none 0 0) ([], false) (Ms.plain 5 e 0 Vt.zero d) w (Ms.plain_ok 5 e 0 Vt.zero_ok hd hdb) rfl he h (by simp)
  have e1 : (wrS (wrN (wrN ([], false) [5]) [(Ms.plain 5 e 0 Vt.zero d).e]) (Ms.plain 5 e 0 Vt.zero d).d) = (markL e d, false) := by
    show wrS (wrN (wrN ([], false) [5]) [e]) d = _
    have p := @putL_len 5 (by omega)
    have h1 := putL_len he
    rw [wrN1 (by omega) (by simp), List.nil_append, wrN1 he (by omega), wrS_ok (by simp only [List.length_append]; omega)]
    rfl
  rw [e1] at this
  exact this
theorem writes6 : Writes (Ms.plain 6 2 9 Vt.zero zeros32).cells (statL 2 9) := fun X w h => by
  have := wmsg6 X (.slice none 0 0) ([], false) (Ms.plain 6 2 9 Vt.zero zeros32) w (Ms.plain_ok 6 2 9 Vt.zero_ok zeros32_len zeros32_byte) rfl (by decide) (by decide) h (by simp)
  have e1 : (wrN (wrN ([], false) [6]) [(Ms.plain 6 2 9 Vt.zero zeros32).e, (Ms.plain 6 2 9 Vt.zero zeros32).s]) = (statL 2 9, false) := by
    show wrN (wrN ([], false) [6]) [2, 9] = _
    have p := @putL_len 6 (by omega)
    rw [wrN1 (by omega) (by simp), List.nil_append, wrN2 (by omega) (by omega) (by omega)]
    rfl
  rw [e1] at this
  exact this
theorem good2 (x : Vt) (hx : x.ok) (w : World) : Calls Tryz.prog 10 #[.agg (Ms.plain 2 0 0 x zeros32).cells.toArray] w fun e w' => e = .returned (.bool x.may) ∧ Below w.heap.size w w' :=
  good0 _ 2 x.may w (plain_ok2 hx).len rfl (by omega) (by omega) (fun w => bare2 x hx w) (fun w => msame0 2 0 0 x zeros32 hx zeros32_len zeros32_byte w) (fun w => fmay2 x hx w)
theorem good5 (e : Int) (d : List Int) (hd : d.length = 32) (hdb : ∀ z ∈ d, 0 ≤ z ∧ z < 256) (w : World) : Calls Tryz.prog 10 #[.agg (Ms.plain 5 e 0 Vt.zero d).cells.toArray] w fun er w' => er = .returned (.bool (inB e 1048576)) ∧ Below w.heap.size w w' :=
  good0 _ 5 _ w (Ms.plain_ok 5 e 0 Vt.zero_ok hd hdb).len rfl (by omega) (by omega) (fun w => bare5 e d hd hdb w) (fun w => msame0 5 e 0 Vt.zero d Vt.zero_ok hd hdb w) (fun w => fmay5 e d hd hdb w)
theorem good6 (w : World) : Calls Tryz.prog 10 #[.agg (Ms.plain 6 2 9 Vt.zero zeros32).cells.toArray] w fun er w' => er = .returned (.bool true) ∧ Below w.heap.size w w' :=
  good0 _ 6 _ w (Ms.plain_ok 6 2 9 Vt.zero_ok zeros32_len zeros32_byte).len rfl (by omega) (by omega) (fun w => bare6 2 9 w) (fun w => msame0 6 2 9 Vt.zero zeros32 Vt.zero_ok zeros32_len zeros32_byte w) (fun w => fmay6 w)
theorem enc2 (x : Vt) (hx : x.ok) (w : World) : Calls Tryz.prog 8 #[.agg (Ms.plain 2 0 0 x zeros32).cells.toArray] w fun e w' => e = .returned (encV x.may (voteL x)) ∧ Below w.heap.size w w' :=
  enc0 _ _ _ w (plain_ok2 hx).len (fun w => good2 x hx w) (fun _ => writes2 hx)
theorem enc5 (e : Int) (d : List Int) (he : e ≤ 9223372036854775807) (hd : d.length = 32) (hdb : ∀ z ∈ d, 0 ≤ z ∧ z < 256) (w : World) : Calls Tryz.prog 8 #[.agg (Ms.plain 5 e 0 Vt.zero d).cells.toArray] w fun er w' => er = .returned (encV (inB e 1048576) (markL e d)) ∧ Below w.heap.size w w' :=
  enc0 _ _ _ w (Ms.plain_ok 5 e 0 Vt.zero_ok hd hdb).len (fun w => good5 e d hd hdb w) (fun _ => writes5 he hd hdb)
theorem enc6 (w : World) : Calls Tryz.prog 8 #[.agg (Ms.plain 6 2 9 Vt.zero zeros32).cells.toArray] w fun er w' => er = .returned (encV true (statL 2 9)) ∧ Below w.heap.size w w' :=
  enc0 _ _ _ w (Ms.plain_ok 6 2 9 Vt.zero_ok zeros32_len zeros32_byte).len (fun w => good6 w) (fun _ => writes6)
/-- a text, or none -/
def optS (b : Bool) (zs : List Int) : ByteArray := if b then strOf zs else ⟨#[]⟩
theorem encV_opt (b : Bool) (zs : List Int) : ∃ n : Int, encV b zs = .tuple #[.string (optS b zs), .int .i64 n] := by
  cases b
  · exact ⟨130, rfl⟩
  · exact ⟨0, rfl⟩
set_option maxRecDepth 100000 in
set_option maxHeartbeats 2000000 in
theorem bytesOf0 (q : List Value) (b : Bool) (zs : List Int) (w : World) (hq : q.length = 119) (he : ∀ w, Calls Tryz.prog 8 #[.agg q.toArray] w fun e w' => e = .returned (encV b zs) ∧ Below w.heap.size w w') :
    Calls Tryz.prog 51 #[.agg q.toArray] w fun e w' => e = .returned (.string (optS b zs)) ∧ Below w.heap.size w w' := by
  have hB : Below w.heap.size w (w.alloc (.cells q.toArray 37)) := (Below.refl _ _).alloc (Nat.le_refl _) _
  have hA : (w.alloc (.cells q.toArray 37)).rangeAt w.heap.size 0 q := by simpa using range_new w q.toArray 37
  have iq : (Tryz.prog.info? 37).map (·.size) = some q.length := by rw [hq]; exact iszM
  obtain ⟨n, hn⟩ := encV_opt b zs
  rw [hn] at he
  clear hq hn
  generalize optS b zs = sz at *
  go_enter Tryz.func51, Tryz.ntmps51
  go_upto_region 1 with fail
  go_name_world w1 hw1
  rw [show w.alloc (.cells q.toArray 37) = w1 from hw1] at hB hA
  clear hw1
  go_wp2_with (refine wpList_load_mid rfl 37 _ rfl _ _ rfl q _ hA Tryz.underlying37 rfl iq ?_)
  refine (he _).mono ?_
  rintro e2 w2 ⟨rfl, hb2⟩
  have hB2 := hB.trans (hb2.mono hB.size)
  clear hA he hB hb2
  go_wp2
  go_ret
  exact ⟨rfl, hB2⟩
set_option maxRecDepth 100000 in
set_option maxHeartbeats 2000000 in
theorem vote13_any (x : Vt) (hx : x.ok) (w : World) : Calls Tryz.prog 16 #[.agg x.cells.toArray] w fun e w' => e = .returned (.string (optS x.may (voteL x))) ∧ Below w.heap.size w w' := by
  have hB : Below w.heap.size w (w.alloc (.cells x.cells.toArray 28)) := (Below.refl _ _).alloc (Nat.le_refl _) _
  have hA := Vt.box w x
  have ix : (Tryz.prog.info? 28).map (·.size) = some x.cells.length := by rw [hx.len]; exact iszV
  have hb := build_vote x hx
  have cb := fun w => bytesOf0 _ _ _ w (plain_ok2 hx).len (fun w => enc2 x hx w)
  clear hx
  generalize optS x.may (voteL x) = sz at *
  generalize (Ms.plain 2 0 0 x zeros32).cells = q at *
  generalize x.cells = u at *
  go_enter Tryz.func16, Tryz.ntmps16
  go_upto_region 1 with fail
  go_name_world w1 hw1
  rw [show w.alloc (.cells u.toArray 28) = w1 from hw1] at hB hA
  clear hw1
  go_wp2_with (first | (refine wpList_load_mid rfl 28 _ rfl _ _ rfl u _ hA Tryz.underlying28 rfl ix ?_) | (refine wpList_build rfl 37 [(0, .const (.int .i64 2)), (6, .tmp 3)] rfl [(0, .int .i64 2), (6, .agg u.toArray)] _ rfl (hb _) ?_))
  refine (cb _).mono ?_
  rintro e2 w2 ⟨rfl, hb2⟩
  have hB2 := hB.trans (hb2.mono hB.size)
  clear hA cb hB hb2
  go_wp2
  go_ret
  exact ⟨rfl, hB2⟩
set_option maxRecDepth 100000 in
set_option maxHeartbeats 2000000 in
theorem mark13_any (e : Int) (d : List Int) (he : e ≤ 9223372036854775807) (hd : d.length = 32) (hdb : ∀ z ∈ d, 0 ≤ z ∧ z < 256) (w : World) : Calls Tryz.prog 18 #[.int .i64 e, .agg (v8 d).toArray] w fun er w' => er = .returned (.string (optS (inB e 1048576) (markL e d))) ∧ Below w.heap.size w w' := by
  have hB : Below w.heap.size w (w.alloc (.cells (v8 d).toArray 26)) := (Below.refl _ _).alloc (Nat.le_refl _) _
  have hA := box_range w d 26
  have id : (Tryz.prog.info? 26).map (·.size) = some (v8 d).length := by rw [v8_length, hd]; exact iszD
  have hb := build_mark e d hd
  have cb := fun w => bytesOf0 _ _ _ w (Ms.plain_ok 5 e 0 Vt.zero_ok hd hdb).len (fun w => enc5 e d he hd hdb w)
  clear hd hdb he
  generalize optS (inB e 1048576) (markL e d) = sz at *
  generalize (Ms.plain 5 e 0 Vt.zero d).cells = q at *
  generalize v8 d = u at *
  go_enter Tryz.func18, Tryz.ntmps18
  go_upto_region 1 with fail
  go_name_world w1 hw1
  rw [show w.alloc (.cells u.toArray 26) = w1 from hw1] at hB hA
  clear hw1
  go_wp2_with (first | (refine wpList_load_mid rfl 26 _ rfl _ _ rfl u _ hA Tryz.underlying26 rfl id ?_) | (refine wpList_build rfl 37 [(0, .const (.int .i64 5)), (1, .tmp 5), (9, .tmp 6)] rfl [(0, .int .i64 5), (1, .int .i64 e), (9, .agg u.toArray)] _ rfl (hb _) ?_))
  refine (cb _).mono ?_
  rintro e2 w2 ⟨rfl, hb2⟩
  have hB2 := hB.trans (hb2.mono hB.size)
  clear hA cb hB hb2
  go_wp2
  go_ret
  exact ⟨rfl, hB2⟩
end Go.Proofs.YtghgomglpgidoaaGreat
namespace Go.Proofs.YtghgomglpgidoaaGreat
open Go.RowKit
open Sha Tal
theorem wpList_store_c {P : Program} {ops : Array Oper} {rest : List Oper} {op : Oper} {a : Act} {w : World} {Q : Exit → Act → World → Prop} (hgd : op.guard = none) (ty : TypeId) (x y : Operand) (ho : op.op = .store ty x y)
    (b o : Nat) (v : Value) (hx : a.eval x = .pointer (some ⟨b, o, none⟩)) (hy : a.eval y = v)
    (ht : w.there b o 1) (hi : (P.info? ty).map (·.size) = some 1) (hv : v.cells = #[v]) (h1 : v.oneCell' = true)
    (h : wpList P ops Q rest (a.put op.dst undef) (w.setCells b o [v])) : wpList P ops Q (op :: rest) a w :=
  wpList_plain hgd fun _ hK => by
    unfold Oper.wp execOp
    simp only [ho, hx, hy, Instr.storeAt, Instr.sureAddr, Sem.run_bind, Sem.run_pure, Result.andThen_ok, store_cell w b o ty v ht hi hv h1]
    exact hK _ _ h
set_option maxRecDepth 100000 in
set_option maxHeartbeats 2000000 in
theorem only2 (x : Vt) (hx : x.ok) (w : World) : Calls Tryz.prog 26 #[.agg (Ms.plain 2 0 0 x zeros32).cells.toArray] w (BareOk w (Ms.plain 2 0 0 x zeros32).cells) := by
  have hm : (Ms.plain 2 0 0 x zeros32).ok := Ms.plain_ok 2 0 0 hx zeros32_len zeros32_byte
  have hk : (Ms.plain 2 0 0 Vt.zero zeros32).ok := Ms.plain_ok 2 0 0 Vt.zero_ok zeros32_len zeros32_byte
  have hz0 : Ms.zero.ok := Ms.plain_ok 0 0 0 Vt.zero_ok zeros32_len zeros32_byte
  have lm := hm.len
  have lk := hk.len
  have lz := hz0.len
  have lx := hx.len
  have om := all_oneCell_toArray hm.one
  have ok := all_oneCell_toArray hk.one
  have ox := all_oneCell_toArray x.one
  have hz := zeroM
  have hbk := build_kind 2
  have hat : ∀ (w' : World) b, w'.rangeAt b 0 (Ms.plain 2 0 0 x zeros32).cells → w'.cell? ⟨b, 0, none⟩ = some (.int .i64 2) ∧ w'.rangeAt b 7 x.cells := fun w' b h => ⟨(hm.at h).k, (hm.at h).vt⟩
  have hput : ∀ (w' : World) b, w'.rangeAt b 0 (Ms.plain 2 0 0 Vt.zero zeros32).cells → w'.there b 7 36 → (w'.setCells b 7 x.cells).rangeAt b 0 (Ms.plain 2 0 0 x zeros32).cells := fun w' b h ht => range_put (mid := Vt.zero.cells) h 7 rfl (by rw [lx]; exact ht) (by rw [lx, Vt.zero_ok.len])
  have im : (Tryz.prog.info? 37).map (·.size) = some (Ms.plain 2 0 0 x zeros32).cells.length := by rw [lm]; exact iszM
  have im' : (Tryz.prog.info? 37).map (·.size) = some (Ms.plain 2 0 0 x zeros32).cells.toArray.size := by rw [List.size_toArray, lm]; exact iszM
  have ik' : (Tryz.prog.info? 37).map (·.size) = some (Ms.plain 2 0 0 Vt.zero zeros32).cells.toArray.size := by rw [List.size_toArray, lk]; exact iszM
  have ix : (Tryz.prog.info? 28).map (·.size) = some x.cells.length := by rw [lx]; exact iszV
  have ix' : (Tryz.prog.info? 28).map (·.size) = some x.cells.toArray.size := by rw [List.size_toArray, lx]; exact iszV
  clear hm hk hz0 hx
  generalize (Ms.plain 2 0 0 x zeros32).cells = q at *
  generalize (Ms.plain 2 0 0 Vt.zero zeros32).cells = qk at *
  generalize Ms.zero.cells = z at *
  generalize x.cells = u at *
  obtain ⟨hA, hT, hB, hs⟩ := bare_box q z w lz
  go_enter Tryz.func26, Tryz.ntmps26
  go_upto_region 1 with fail
  go_name_world w1 hw1
  rw [show (w.alloc (.cells q.toArray 37)).alloc (.cells z.toArray 37) = w1 from hw1] at hA hT hB hs
  clear hw1
  have c0 := (hat _ _ hA).1
  obtain ⟨r2, hB2, hs2, hT2⟩ := fresh_store w1 z.toArray 37 qk (by rw [List.size_toArray, lz, lk])
  rw [show z.toArray.size = 119 by simpa using lz] at hT2
  have hTz : (w1.alloc (.cells z.toArray 37)).there w1.heap.size 0 qk.toArray.size := by
    have := there_new w1 z.toArray 37
    rw [show z.toArray.size = 119 by simpa using lz] at this
    rw [show qk.toArray.size = 119 by simpa using lk]
    exact this
  go_upto_region 2 with (first | (refine wpList_build rfl 37 [(0, .tmp 5)] rfl [(0, .int .i64 2)] _ rfl (hbk _) ?_) | refine wpList_store_mid rfl 37 _ _ rfl _ _ qk.toArray rfl rfl hTz ik' ok ?_)
  go_name_world w2 hw2
  rw [show (w1.alloc (.cells z.toArray 37)).setCells w1.heap.size 0 qk = w2 from hw2] at r2 hB2 hs2 hT2
  have hs2' : w1.heap.size < w2.heap.size := by omega
  clear hw2 hs2 hTz
  have hA2 := range_below hA hB2 (by omega)
  have hT1 := there_below hT hB2 (by omega)
  have hBw := hB.trans (hB2.mono (by omega))
  obtain ⟨c2, v2⟩ := hat _ _ hA2
  have hTv : w2.there w1.heap.size 7 u.toArray.size := by
    rw [show u.toArray.size = 36 by simpa using lx]
    have := there_part hT2 7 36 (by omega)
    rwa [Nat.zero_add] at this
  have r3 := hput _ _ r2 (by have := there_part hT2 7 36 (by omega); rwa [Nat.zero_add] at this)
  have hT3 : (w2.setCells w1.heap.size 7 u).there (w.heap.size + 1) 0 q.toArray.size := by
    rw [show q.toArray.size = 119 by simpa using lm]
    exact World.there_setCells hT1 _ _ _
  have hB3 := below_sets (show w.heap.size ≤ w1.heap.size by omega) u 7 _ hBw
  clear hA hT hB hB2 hA2 hT1 hBw c0 r2 hT2
  go_upto_region 28 with (first | (refine wpList_load_mid rfl 28 _ rfl _ _ rfl u _ v2 Tryz.underlying28 rfl ix ?_) | (refine wpList_store_mid rfl 28 _ _ rfl _ _ u.toArray rfl rfl hTv ix' ox ?_))
  go_name_world w3 hw3
  rw [show w2.setCells w1.heap.size 7 u = w3 from hw3] at r3 hT3 hB3
  clear hw3 hTv v2 c2
  have r4 := World.rangeAt_setCells_same w3 (w.heap.size + 1) 0 q (by have := hT3; rwa [List.size_toArray] at this)
  have hB4 := below_sets (show w.heap.size ≤ w.heap.size + 1 by omega) q 0 _ hB3
  have hrs := run_loadVar_mid (P := Tryz.prog) _ (w.heap.size + 1) 0 37 q _ r4 Tryz.underlying37 rfl im
  go_wp2_with (first | (refine wpList_load_mid rfl 37 _ rfl _ _ rfl q _ r3 Tryz.underlying37 rfl im ?_) | (refine wpList_store_mid rfl 37 _ _ rfl _ _ q.toArray rfl rfl hT3 im' om ?_))
  exact bodyPost_ret (v := .agg q.toArray) (by simp [results, Tryz.results26, asAddr, hrs, Act.put]) rfl ⟨rfl, hB4⟩
set_option maxRecDepth 100000 in
set_option maxHeartbeats 2000000 in
theorem only5 (e : Int) (d : List Int) (hd : d.length = 32) (hdb : ∀ z ∈ d, 0 ≤ z ∧ z < 256) (w : World) : Calls Tryz.prog 26 #[.agg (Ms.plain 5 e 0 Vt.zero d).cells.toArray] w (BareOk w (Ms.plain 5 e 0 Vt.zero d).cells) := by
  have hm : (Ms.plain 5 e 0 Vt.zero d).ok := Ms.plain_ok 5 e 0 Vt.zero_ok hd hdb
  have hk : (Ms.plain 5 0 0 Vt.zero zeros32).ok := Ms.plain_ok 5 0 0 Vt.zero_ok zeros32_len zeros32_byte
  have hz0 : Ms.zero.ok := Ms.plain_ok 0 0 0 Vt.zero_ok zeros32_len zeros32_byte
  have lm := hm.len
  have lk := hk.len
  have lz := hz0.len
  have om := all_oneCell_toArray hm.one
  have ok := all_oneCell_toArray hk.one
  have hz := zeroM
  have hbk := build_kind 5
  have hat : ∀ (w' : World) b, w'.rangeAt b 0 (Ms.plain 5 e 0 Vt.zero d).cells → w'.cell? ⟨b, 0, none⟩ = some (.int .i64 5) ∧ w'.cell? ⟨b, 1, none⟩ = some (.int .i64 e) ∧ w'.rangeAt b 48 (v8 d) := fun w' b h => ⟨(hm.at h).k, (hm.at h).e, (hm.at h).d⟩
  have ld : (v8 d).length = 32 := by rw [v8_length, hd]
  have od := all_oneCell_toArray (v8_one d)
  have hput : ∀ (w' : World) b, w'.rangeAt b 0 (Ms.plain 5 0 0 Vt.zero zeros32).cells → w'.there b 0 119 → ((w'.setCells b 1 [.int .i64 e]).setCells b 48 (v8 d)).rangeAt b 0 (Ms.plain 5 e 0 Vt.zero d).cells := fun w' b h ht => by
    have h1 := range_put (pre := [Value.int .i64 5]) (mid := [Value.int .i64 0]) (vs := [Value.int .i64 e]) h 1 rfl (by have := there_part ht 1 1 (by omega); rwa [Nat.zero_add] at this) rfl
    exact range_put (pre := [Value.int .i64 5, .int .i64 e, .int .i64 0, .int .i64 0, .int .i64 0, .bool false, .slice none 0 0] ++ (Vt.zero.cells ++ [Value.int .i64 0, .int .i64 0, .int .i64 0, .slice none 0 0, .slice none 0 0])) (mid := v8 zeros32) (vs := v8 d) (post := Vt.zero.cells ++ [Value.slice none 0 0, .string ⟨#[]⟩, .slice none 0 0]) h1 48 rfl (by rw [ld]; have := there_part (World.there_setCells ht b 1 [Value.int .i64 e]) 48 32 (by omega); rwa [Nat.zero_add] at this) (by rw [ld]; rfl)
  have im : (Tryz.prog.info? 37).map (·.size) = some (Ms.plain 5 e 0 Vt.zero d).cells.length := by rw [lm]; exact iszM
  have im' : (Tryz.prog.info? 37).map (·.size) = some (Ms.plain 5 e 0 Vt.zero d).cells.toArray.size := by rw [List.size_toArray, lm]; exact iszM
  have ik' : (Tryz.prog.info? 37).map (·.size) = some (Ms.plain 5 0 0 Vt.zero zeros32).cells.toArray.size := by rw [List.size_toArray, lk]; exact iszM
  have id : (Tryz.prog.info? 26).map (·.size) = some (v8 d).length := by rw [ld]; exact iszD
  have id' : (Tryz.prog.info? 26).map (·.size) = some (v8 d).toArray.size := by rw [List.size_toArray, ld]; exact iszD
  clear hm hk hz0
  generalize (Ms.plain 5 e 0 Vt.zero d).cells = q at *
  generalize (Ms.plain 5 0 0 Vt.zero zeros32).cells = qk at *
  generalize Ms.zero.cells = z at *
  clear hd hdb
  generalize v8 d = u at *
  obtain ⟨hA, hT, hB, hs⟩ := bare_box q z w lz
  go_enter Tryz.func26, Tryz.ntmps26
  go_upto_region 1 with fail
  go_name_world w1 hw1
  rw [show (w.alloc (.cells q.toArray 37)).alloc (.cells z.toArray 37) = w1 from hw1] at hA hT hB hs
  clear hw1
  have c0 := (hat _ _ hA).1
  obtain ⟨r2, hB2, hs2, hT2⟩ := fresh_store w1 z.toArray 37 qk (by rw [List.size_toArray, lz, lk])
  rw [show z.toArray.size = 119 by simpa using lz] at hT2
  have hTz : (w1.alloc (.cells z.toArray 37)).there w1.heap.size 0 qk.toArray.size := by
    have := there_new w1 z.toArray 37
    rw [show z.toArray.size = 119 by simpa using lz] at this
    rw [show qk.toArray.size = 119 by simpa using lk]
    exact this
  go_upto_region 2 with (first | (refine wpList_build rfl 37 [(0, .tmp 5)] rfl [(0, .int .i64 5)] _ rfl (hbk _) ?_) | refine wpList_store_mid rfl 37 _ _ rfl _ _ qk.toArray rfl rfl hTz ik' ok ?_)
  go_name_world w2 hw2
  rw [show (w1.alloc (.cells z.toArray 37)).setCells w1.heap.size 0 qk = w2 from hw2] at r2 hB2 hs2 hT2
  have hs2' : w1.heap.size < w2.heap.size := by omega
  clear hw2 hs2 hTz
  have hA2 := range_below hA hB2 (by omega)
  have hT1 := there_below hT hB2 (by omega)
  have hBw := hB.trans (hB2.mono (by omega))
  have c2 := (hat _ _ hA2).1
  clear hA hT hB hB2 c0
  have hT6 : w2.there w1.heap.size 1 1 := by have := there_part hT2 1 1 (by omega); rwa [Nat.zero_add] at this
  have hA6 : (w2.setCells w1.heap.size 1 [.int .i64 e]).rangeAt w.heap.size 0 q := World.rangeAt_setCells_apart hA2 _ _ _ (.inl (by omega))
  have hT7 : (w2.setCells w1.heap.size 1 [.int .i64 e]).there w1.heap.size 48 u.toArray.size := by
    rw [show u.toArray.size = 32 by simpa using ld]
    have := there_part (World.there_setCells hT2 w1.heap.size 1 [Value.int .i64 e]) 48 32 (by omega)
    rwa [Nat.zero_add] at this
  have r3 := hput _ _ r2 hT2
  have hT3 : ((w2.setCells w1.heap.size 1 [.int .i64 e]).setCells w1.heap.size 48 u).there (w.heap.size + 1) 0 q.toArray.size := by
    rw [show q.toArray.size = 119 by simpa using lm]
    exact World.there_setCells (World.there_setCells hT1 _ _ _) _ _ _
  have hB3 := below_sets (show w.heap.size ≤ w1.heap.size by omega) u 48 _ (below_sets (show w.heap.size ≤ w1.heap.size by omega) [.int .i64 e] 1 _ hBw)
  have ce := (hat _ _ hA2).2.1
  clear hA2 r2 hT2 hT1 hBw
  go_upto_region 18 with (refine wpList_store_c rfl 3 _ _ rfl _ _ (.int .i64 e) rfl rfl hT6 iszI rfl rfl ?_)
  go_name_world w4 hw4
  rw [show w2.setCells w1.heap.size 1 [.int .i64 e] = w4 from hw4] at hA6 hT7 r3 hT3 hB3
  clear hw4 hT6 c2 ce
  have rd := (hat _ _ hA6).2.2
  clear hA6
  go_upto_region 28 with (first | (refine wpList_load_mid rfl 26 _ rfl _ _ rfl u _ rd Tryz.underlying26 rfl id ?_) | (refine wpList_store_mid rfl 26 _ _ rfl _ _ u.toArray rfl rfl hT7 id' od ?_))
  go_name_world w3 hw3
  rw [show w4.setCells w1.heap.size 48 u = w3 from hw3] at r3 hT3 hB3
  clear hw3 hT7 rd
  have r4 := World.rangeAt_setCells_same w3 (w.heap.size + 1) 0 q (by have := hT3; rwa [List.size_toArray] at this)
  have hB4 := below_sets (show w.heap.size ≤ w.heap.size + 1 by omega) q 0 _ hB3
  have hrs := run_loadVar_mid (P := Tryz.prog) _ (w.heap.size + 1) 0 37 q _ r4 Tryz.underlying37 rfl im
  go_wp2_with (first | (refine wpList_load_mid rfl 37 _ rfl _ _ rfl q _ r3 Tryz.underlying37 rfl im ?_) | (refine wpList_store_mid rfl 37 _ _ rfl _ _ q.toArray rfl rfl hT3 im' om ?_))
  exact bodyPost_ret (v := .agg q.toArray) (by simp [results, Tryz.results26, asAddr, hrs, Act.put]) rfl ⟨rfl, hB4⟩
end Go.Proofs.YtghgomglpgidoaaGreat
namespace Go.Proofs.YtghgomglpgidoaaGreat
open Go.RowKit
open Sha Tal
set_option maxRecDepth 100000 in
set_option maxHeartbeats 4000000 in
theorem xgood2 (x : Vt) (hx : x.ok) (w : World) : Calls Tryz.prog 11 #[.agg (Ms.plain 2 0 0 x zeros32).cells.toArray] w fun er w' => er = .returned (.bool x.may) ∧ Below w.heap.size w w' := by
  have hm : (Ms.plain 2 0 0 x zeros32).ok := plain_ok2 hx
  have hB : Below w.heap.size w (w.alloc (.cells (Ms.plain 2 0 0 x zeros32).cells.toArray 37)) := (Below.refl _ _).alloc (Nat.le_refl _) _
  have hs : w.heap.size < (w.alloc (.cells (Ms.plain 2 0 0 x zeros32).cells.toArray 37)).heap.size := by simp
  have hA : (w.alloc (.cells (Ms.plain 2 0 0 x zeros32).cells.toArray 37)).rangeAt w.heap.size 0 (Ms.plain 2 0 0 x zeros32).cells := by simpa using range_new w (Ms.plain 2 0 0 x zeros32).cells.toArray 37
  have iq : (Tryz.prog.info? 37).map (·.size) = some (Ms.plain 2 0 0 x zeros32).cells.length := by rw [hm.len]; exact iszM
  have hon := fun w0 => only2 x hx w0
  have hsm := fun w0 => xsame0 2 0 0 x zeros32 hx zeros32_len zeros32_byte w0
  obtain ⟨W, hW⟩ : ∃ W, Hid (w.alloc (.cells (Ms.plain 2 0 0 x zeros32).cells.toArray 37) = W) := ⟨_, hide rfl⟩
  rw [hW.out] at hB hs hA
  have M := hm.at hA
  have cK : W.cell? ⟨w.heap.size, 0, none⟩ = some (.int .i64 2) := M.k
  have cE : W.cell? ⟨w.heap.size, 1, none⟩ = some (.int .i64 0) := M.e
  have cL : W.cell? ⟨w.heap.size, 2, none⟩ = some (.int .i64 0) := M.l
  have cV : W.cell? ⟨w.heap.size, 3, none⟩ = some (.int .i64 0) := M.v
  have cS : W.cell? ⟨w.heap.size, 4, none⟩ = some (.int .i64 0) := M.s
  have cQ : W.cell? ⟨w.heap.size, 5, none⟩ = some (.bool false) := M.q
  have cR : W.cell? ⟨w.heap.size, 6, none⟩ = some (.slice none 0 0) := M.rs
  have c1 : W.cell? ⟨w.heap.size, 43, none⟩ = some (.int .i64 0) := M.ce
  have c2 : W.cell? ⟨w.heap.size, 44, none⟩ = some (.int .i64 0) := M.cl
  have c3 : W.cell? ⟨w.heap.size, 45, none⟩ = some (.int .i64 0) := M.cv
  have cH : W.cell? ⟨w.heap.size, 46, none⟩ = some (.slice none 0 0) := M.he
  have cN : W.cell? ⟨w.heap.size, 47, none⟩ = some (.slice none 0 0) := M.ne
  have cT : W.cell? ⟨w.heap.size, 117, none⟩ = some (.string ⟨#[]⟩) := M.st
  have cG : W.cell? ⟨w.heap.size, 118, none⟩ = some (.slice none 0 0) := M.sg
  have rV : W.rangeAt w.heap.size 7 x.cells := M.vt
  have ix : (Tryz.prog.info? 28).map (·.size) = some x.cells.length := by rw [hx.len]; exact iszV
  have cv := fun w0 => xvote_any x w0
  generalize x.may = b at *
  have i1 : inB 0 1048576 = true := rfl
  have i2 : inB 0 64 = true := rfl
  have i3 : inB 0 1099511627776 = true := rfl
  clear hm M hx
  generalize (Ms.plain 2 0 0 x zeros32).cells = q at *
  go_enter Tryz.func11, Tryz.ntmps11
  go_upto_region 1 with fail
  rw [show w.alloc (.cells q.toArray 37) = W from hW.out]
  clear hW
  obtain ⟨w8, hw8⟩ : ∃ w8, W.drew = w8 := ⟨_, rfl⟩
  have hB8 : Below w.heap.size w w8 := by rw [← hw8]; exact hB.drew
  have hA8 : w8.rangeAt w.heap.size 0 q := by rw [← hw8]; exact (World.rangeAt_drew _ _ _ _).2 hA
  have hs8 : w.heap.size < w8.heap.size := by rw [← hw8]; exact hs
  have dr : ∀ i v, W.cell? ⟨w.heap.size, i, none⟩ = some v → w8.cell? ⟨w.heap.size, i, none⟩ = some v := fun i v h => by rw [← hw8]; exact h
  replace cK := dr _ _ cK
  replace cE := dr _ _ cE
  replace cL := dr _ _ cL
  replace cV := dr _ _ cV
  replace cS := dr _ _ cS
  replace cQ := dr _ _ cQ
  replace cR := dr _ _ cR
  replace c1 := dr _ _ c1
  replace c2 := dr _ _ c2
  replace c3 := dr _ _ c3
  replace cH := dr _ _ cH
  replace cN := dr _ _ cN
  replace cT := dr _ _ cT
  replace cG := dr _ _ cG
  replace rV : w8.rangeAt w.heap.size 7 x.cells := by rw [← hw8]; exact (World.rangeAt_drew _ _ _ _).2 rV
  refine hs_begin (S := (Below w8.heap.size w8)) 15 rfl (by kernel_rfl) ?_
  rw [hw8]
  clear hw8 hA hB hs dr
  have hS : (Below w8.heap.size w8) w8 := Below.refl _ _
  refine hs_take (i := 0) (d := some 5) (v := ?_) rfl (by kernel_rfl) (by kernel_rfl) (by kernel_rfl) (by rfl) ?_ hS rfl ?_
  rotate_left
  · intro w' hw
    go_simp
    try with_reducible rfl
  simp only [Act.put, List.setIfInBounds_toArray, List.set_cons_zero, List.set_cons_succ]
  refine hs_take (i := 1) (d := some 6) (v := ?_) rfl (by kernel_rfl) (by kernel_rfl) (by kernel_rfl) (by rfl) ?_ hS rfl ?_
  rotate_left
  · intro w' hw
    have := (hw.cell (p := ⟨w.heap.size, 0, none⟩) hs8).trans cK
    go_simp
    try with_reducible rfl
  simp only [Act.put, List.setIfInBounds_toArray, List.set_cons_zero, List.set_cons_succ]
  refine hs_take (i := 2) (d := some 7) (v := ?_) rfl (by kernel_rfl) (by kernel_rfl) (by kernel_rfl) (by rfl) ?_ hS rfl ?_
  rotate_left
  · intro w' hw
    go_simp
    try with_reducible rfl
  simp only [Act.put, List.setIfInBounds_toArray, List.set_cons_zero, List.set_cons_succ]
  refine hs_take (i := 3) (d := some 8) (v := ?_) rfl (by kernel_rfl) (by kernel_rfl) (by kernel_rfl) (by rfl) ?_ hS rfl ?_
  rotate_left
  · intro w' hw
    go_simp
    try with_reducible rfl
  simp only [Act.put, List.setIfInBounds_toArray, List.set_cons_zero, List.set_cons_succ]
  refine hs_take (i := 4) (d := some 9) (v := ?_) rfl (by kernel_rfl) (by kernel_rfl) (by kernel_rfl) (by rfl) ?_ hS rfl ?_
  rotate_left
  · intro w' hw
    go_simp
    try with_reducible rfl
  simp only [Act.put, List.setIfInBounds_toArray, List.set_cons_zero, List.set_cons_succ]
  refine hs_take (i := 5) (d := some 10) (v := ?_) rfl (by kernel_rfl) (by kernel_rfl) (by kernel_rfl) (by rfl) ?_ hS rfl ?_
  rotate_left
  · intro w' hw
    have := (hw.cell (p := ⟨w.heap.size, 0, none⟩) hs8).trans cK
    go_simp
    try with_reducible rfl
  simp only [Act.put, List.setIfInBounds_toArray, List.set_cons_zero, List.set_cons_succ]
  refine hs_take (i := 6) (d := some 11) (v := ?_) rfl (by kernel_rfl) (by kernel_rfl) (by kernel_rfl) (by rfl) ?_ hS rfl ?_
  rotate_left
  · intro w' hw
    go_simp
    try with_reducible rfl
  simp only [Act.put, List.setIfInBounds_toArray, List.set_cons_zero, List.set_cons_succ]
  refine hs_take (i := 7) (d := some 12) (v := ?_) rfl (by kernel_rfl) (by kernel_rfl) (by kernel_rfl) (by rfl) ?_ hS rfl ?_
  rotate_left
  · intro w' hw
    go_simp
    try with_reducible rfl
  simp only [Act.put, List.setIfInBounds_toArray, List.set_cons_zero, List.set_cons_succ]
  refine hs_take (i := 8) (d := some 13) (v := ?_) rfl (by kernel_rfl) (by kernel_rfl) (by kernel_rfl) (by rfl) ?_ hS rfl ?_
  rotate_left
  · intro w' hw
    go_simp
    try with_reducible rfl
  simp only [Act.put, List.setIfInBounds_toArray, List.set_cons_zero, List.set_cons_succ]
  refine hs_take (i := 9) (d := some 14) (v := .agg q.toArray) rfl (by kernel_rfl) (by kernel_rfl) (by kernel_rfl) (by rfl) (fun w' hw => exec_loadC rfl rfl (run_loadVar_mid (P := Tryz.prog) w' w.heap.size 0 37 q _ (range_below hA8 hw hs8) Tryz.underlying37 rfl iq)) hS rfl ?_
  simp only [Act.put, List.setIfInBounds_toArray, List.set_cons_zero, List.set_cons_succ]
  refine hs_take (i := 10) (d := some 15) (v := .agg q.toArray) rfl (by kernel_rfl) (by kernel_rfl) (by kernel_rfl) (by rfl) (fun w' hw => exec_loadC rfl rfl (run_loadVar_mid (P := Tryz.prog) w' w.heap.size 0 37 q _ (range_below hA8 hw hs8) Tryz.underlying37 rfl iq)) hS rfl ?_
  simp only [Act.put, List.setIfInBounds_toArray, List.set_cons_zero, List.set_cons_succ]
  refine hs_call (i := 11) (d := some 16) rfl (by kernel_rfl) (by rfl) (by go_simp; first | done | exact ⟨rfl, rfl⟩ | with_reducible rfl) rfl ?_
  refine (hon _).mono ?_
  rintro e' wn1 ⟨rfl, hb1⟩
  have hS : (Below w8.heap.size w8) wn1 := hS.trans (hb1.mono hS.size)
  refine ⟨_, rfl, hS, ?_⟩
  simp only [Act.put, List.setIfInBounds_toArray, List.set_cons_zero, List.set_cons_succ]
  refine hs_call (i := 12) (d := some 17) rfl (by kernel_rfl) (by rfl) (by go_simp; first | done | exact ⟨rfl, rfl⟩ | with_reducible rfl) rfl ?_
  refine (hsm _).mono ?_
  rintro e' wn2 ⟨rfl, hb2⟩
  have hS : (Below w8.heap.size w8) wn2 := hS.trans (hb2.mono hS.size)
  refine ⟨_, rfl, hS, ?_⟩
  simp only [Act.put, List.setIfInBounds_toArray, List.set_cons_zero, List.set_cons_succ]
  refine hs_take (i := 13) (d := some 18) (v := ?_) rfl (by kernel_rfl) (by kernel_rfl) (by kernel_rfl) (by rfl) ?_ hS rfl ?_
  rotate_left
  · intro w' hw
    go_simp
    try with_reducible rfl
  simp only [Act.put, List.setIfInBounds_toArray, List.set_cons_zero, List.set_cons_succ]
  refine hs_take (i := 14) (d := some 19) (v := ?_) rfl (by kernel_rfl) (by kernel_rfl) (by kernel_rfl) (by rfl) ?_ hS rfl ?_
  rotate_left
  · intro w' hw
    go_simp
    try with_reducible rfl
  simp only [Act.put, List.setIfInBounds_toArray, List.set_cons_zero, List.set_cons_succ]
  refine hs_done (by kernel_rfl) ?_
  have up := fun i v (h : w8.cell? ⟨w.heap.size, i, none⟩ = some v) => (hS.cell (p := ⟨w.heap.size, i, none⟩) hs8).trans h
  replace cK := up _ _ cK
  replace cE := up _ _ cE
  replace cL := up _ _ cL
  replace cV := up _ _ cV
  replace cS := up _ _ cS
  replace cQ := up _ _ cQ
  replace cR := up _ _ cR
  replace c1 := up _ _ c1
  replace c2 := up _ _ c2
  replace c3 := up _ _ c3
  replace cH := up _ _ cH
  replace cN := up _ _ cN
  replace cT := up _ _ cT
  replace cG := up _ _ cG
  replace rV := range_below rV hS hs8
  clear up
  have hsn := Nat.lt_of_lt_of_le hs8 hS.size
  have hBn := hB8.trans (hS.mono (by omega))
  clear hA8 hS hb1 hb2 hs8 hB8 hon hsm iq
  generalize x.cells = u at *
  go_upto_region 4 with (go_at_call 27; refine (upto_any _ _ _).mono ?_; rintro e1 w1 ⟨rfl, hx⟩; obtain rfl := hx.symm; clear hx; (first | rw [i1] | rw [i2] | rw [i3]))
  obtain ⟨r3, hb3, hz3, _⟩ := fresh_store wn2 #[.int .i64 0, .int .i64 0, .int .i64 0, .slice none 0 0] 31 [.int .i64 0, .int .i64 0, .int .i64 0, .slice none 0 0] rfl
  have hT3 := there_new wn2 #[.int .i64 0, .int .i64 0, .int .i64 0, .slice none 0 0] 31
  go_upto_region 5 with (refine wpList_store_mid rfl 31 _ _ rfl _ _ #[.int .i64 0, .int .i64 0, .int .i64 0, .slice none 0 0] rfl rfl hT3 iszH4 one4 ?_)
  go_name_world w3 hw3
  rw [show (wn2.alloc (.cells #[.int .i64 0, .int .i64 0, .int .i64 0, .slice none 0 0] 31)).setCells wn2.heap.size 0 [.int .i64 0, .int .i64 0, .int .i64 0, .slice none 0 0] = w3 from hw3] at r3 hb3 hz3
  clear hw3 hz3 hT3
  have up := fun i v (h : wn2.cell? ⟨w.heap.size, i, none⟩ = some v) => (hb3.cell (p := ⟨w.heap.size, i, none⟩) hsn).trans h
  replace cK := up _ _ cK
  replace cQ := up _ _ cQ
  replace cR := up _ _ cR
  replace cN := up _ _ cN
  replace cT := up _ _ cT
  replace cG := up _ _ cG
  replace rV := range_below rV hb3 hsn
  clear up
  have hs3 := Nat.lt_of_lt_of_le hsn hb3.size
  have hB3 := hBn.trans (hb3.mono (by omega))
  have d0 := r3 0 _ rfl
  have d1 := r3 1 _ rfl
  have d2 := r3 2 _ rfl
  have d3 := r3 3 _ rfl
  simp only [Nat.zero_add, Nat.add_zero] at d0 d1 d2 d3
  clear r3 hb3 hBn hsn cE cL cV cS c1 c2 c3 cH
  go_upto_region 6 with (first | (go_at_call 27; refine (upto_any _ _ _).mono ?_; rintro e1 w1 ⟨rfl, hx⟩; obtain rfl := hx.symm; clear hx; (first | rw [i1] | rw [i2] | rw [i3])) | (go_at_call 28; refine (xh0 _).mono ?_; rintro e1 w1 ⟨rfl, hx⟩; obtain rfl := hx.symm; clear hx))
  clear d0 d1 d2 d3
  go_wp2_with fail
  refine (plain0 false _).mono ?_
  rintro e4 w4 ⟨rfl, hb4⟩
  have up := fun i v (h : w3.cell? ⟨w.heap.size, i, none⟩ = some v) => (hb4.cell (p := ⟨w.heap.size, i, none⟩) hs3).trans h
  replace cK := up _ _ cK
  replace cN := up _ _ cN
  replace cT := up _ _ cT
  replace cG := up _ _ cG
  replace rV := range_below rV hb4 hs3
  clear up
  have hs4 := Nat.lt_of_lt_of_le hs3 hb4.size
  have hB4 := hB3.trans (hb4.mono (by omega))
  clear hb4 hB3 hs3 cQ cR
  go_upto_region 7 with (first | (go_at_call 30; refine (xn0 _).mono ?_; rintro e1 w1 ⟨rfl, hx⟩; obtain rfl := hx.symm; clear hx) | (go_at_call 31; refine (xg0 _).mono ?_; rintro e1 w1 ⟨rfl, hx⟩; obtain rfl := hx.symm; clear hx))
  clear cN cT cG
  go_wp2_with (refine wpList_load_g (by rfl) 28 _ rfl _ _ rfl u _ rV Tryz.underlying28 rfl ix ?_)
  refine (cv _).mono ?_
  rintro e5 w5 ⟨rfl, hb5⟩
  have hB5 := hB4.trans (hb5.mono (by omega))
  clear rV cv hb5 hB4
  cases b
  all_goals
    go_wp2
    go_ret
    exact ⟨rfl, hB5⟩
set_option maxRecDepth 100000 in
set_option maxHeartbeats 4000000 in
theorem xgood5 (e : Int) (d : List Int) (hd : d.length = 32) (hdb : ∀ z ∈ d, 0 ≤ z ∧ z < 256) (w : World) : Calls Tryz.prog 11 #[.agg (Ms.plain 5 e 0 Vt.zero d).cells.toArray] w fun er w' => er = .returned (.bool (inB e 1048576)) ∧ Below w.heap.size w w' := by
  have hm : (Ms.plain 5 e 0 Vt.zero d).ok := Ms.plain_ok 5 e 0 Vt.zero_ok hd hdb
  have hB : Below w.heap.size w (w.alloc (.cells (Ms.plain 5 e 0 Vt.zero d).cells.toArray 37)) := (Below.refl _ _).alloc (Nat.le_refl _) _
  have hs : w.heap.size < (w.alloc (.cells (Ms.plain 5 e 0 Vt.zero d).cells.toArray 37)).heap.size := by simp
  have hA : (w.alloc (.cells (Ms.plain 5 e 0 Vt.zero d).cells.toArray 37)).rangeAt w.heap.size 0 (Ms.plain 5 e 0 Vt.zero d).cells := by simpa using range_new w (Ms.plain 5 e 0 Vt.zero d).cells.toArray 37
  have iq : (Tryz.prog.info? 37).map (·.size) = some (Ms.plain 5 e 0 Vt.zero d).cells.length := by rw [hm.len]; exact iszM
  have hon := fun w0 => only5 e d hd hdb w0
  have hsm := fun w0 => xsame0 5 e 0 Vt.zero d Vt.zero_ok hd hdb w0
  obtain ⟨W, hW⟩ : ∃ W, Hid (w.alloc (.cells (Ms.plain 5 e 0 Vt.zero d).cells.toArray 37) = W) := ⟨_, hide rfl⟩
  rw [hW.out] at hB hs hA
  have M := hm.at hA
  have cK : W.cell? ⟨w.heap.size, 0, none⟩ = some (.int .i64 5) := M.k
  have cE : W.cell? ⟨w.heap.size, 1, none⟩ = some (.int .i64 e) := M.e
  have cL : W.cell? ⟨w.heap.size, 2, none⟩ = some (.int .i64 0) := M.l
  have cV : W.cell? ⟨w.heap.size, 3, none⟩ = some (.int .i64 0) := M.v
  have cS : W.cell? ⟨w.heap.size, 4, none⟩ = some (.int .i64 0) := M.s
  have cQ : W.cell? ⟨w.heap.size, 5, none⟩ = some (.bool false) := M.q
  have cR : W.cell? ⟨w.heap.size, 6, none⟩ = some (.slice none 0 0) := M.rs
  have c1 : W.cell? ⟨w.heap.size, 43, none⟩ = some (.int .i64 0) := M.ce
  have c2 : W.cell? ⟨w.heap.size, 44, none⟩ = some (.int .i64 0) := M.cl
  have c3 : W.cell? ⟨w.heap.size, 45, none⟩ = some (.int .i64 0) := M.cv
  have cH : W.cell? ⟨w.heap.size, 46, none⟩ = some (.slice none 0 0) := M.he
  have cN : W.cell? ⟨w.heap.size, 47, none⟩ = some (.slice none 0 0) := M.ne
  have cT : W.cell? ⟨w.heap.size, 117, none⟩ = some (.string ⟨#[]⟩) := M.st
  have cG : W.cell? ⟨w.heap.size, 118, none⟩ = some (.slice none 0 0) := M.sg
  have i1 : inB 0 1048576 = true := rfl
  have i2 : inB 0 64 = true := rfl
  have i3 : inB 0 1099511627776 = true := rfl
  cases i4 : inB e 1048576
  · clear hm M hd hdb i1
    generalize (Ms.plain 5 e 0 Vt.zero d).cells = q at *
    go_enter Tryz.func11, Tryz.ntmps11
    go_upto_region 1 with fail
    rw [show w.alloc (.cells q.toArray 37) = W from hW.out]
    clear hW
    obtain ⟨w8, hw8⟩ : ∃ w8, W.drew = w8 := ⟨_, rfl⟩
    have hB8 : Below w.heap.size w w8 := by rw [← hw8]; exact hB.drew
    have hA8 : w8.rangeAt w.heap.size 0 q := by rw [← hw8]; exact (World.rangeAt_drew _ _ _ _).2 hA
    have hs8 : w.heap.size < w8.heap.size := by rw [← hw8]; exact hs
    have dr : ∀ i v, W.cell? ⟨w.heap.size, i, none⟩ = some v → w8.cell? ⟨w.heap.size, i, none⟩ = some v := fun i v h => by rw [← hw8]; exact h
    replace cK := dr _ _ cK
    replace cE := dr _ _ cE
    replace cL := dr _ _ cL
    replace cV := dr _ _ cV
    replace cS := dr _ _ cS
    replace cQ := dr _ _ cQ
    replace cR := dr _ _ cR
    replace c1 := dr _ _ c1
    replace c2 := dr _ _ c2
    replace c3 := dr _ _ c3
    replace cH := dr _ _ cH
    replace cN := dr _ _ cN
    replace cT := dr _ _ cT
    replace cG := dr _ _ cG
    refine hs_begin (S := (Below w8.heap.size w8)) 15 rfl (by kernel_rfl) ?_
    rw [hw8]
    clear hw8 hA hB hs dr
    have hS : (Below w8.heap.size w8) w8 := Below.refl _ _
    refine hs_take (i := 0) (d := some 5) (v := ?_) rfl (by kernel_rfl) (by kernel_rfl) (by kernel_rfl) (by rfl) ?_ hS rfl ?_
    rotate_left
    · intro w' hw
      go_simp
      try with_reducible rfl
    simp only [Act.put, List.setIfInBounds_toArray, List.set_cons_zero, List.set_cons_succ]
    refine hs_take (i := 1) (d := some 6) (v := ?_) rfl (by kernel_rfl) (by kernel_rfl) (by kernel_rfl) (by rfl) ?_ hS rfl ?_
    rotate_left
    · intro w' hw
      have := (hw.cell (p := ⟨w.heap.size, 0, none⟩) hs8).trans cK
      go_simp
      try with_reducible rfl
    simp only [Act.put, List.setIfInBounds_toArray, List.set_cons_zero, List.set_cons_succ]
    refine hs_take (i := 2) (d := some 7) (v := ?_) rfl (by kernel_rfl) (by kernel_rfl) (by kernel_rfl) (by rfl) ?_ hS rfl ?_
    rotate_left
    · intro w' hw
      go_simp
      try with_reducible rfl
    simp only [Act.put, List.setIfInBounds_toArray, List.set_cons_zero, List.set_cons_succ]
    refine hs_take (i := 3) (d := some 8) (v := ?_) rfl (by kernel_rfl) (by kernel_rfl) (by kernel_rfl) (by rfl) ?_ hS rfl ?_
    rotate_left
    · intro w' hw
      go_simp
      try with_reducible rfl
    simp only [Act.put, List.setIfInBounds_toArray, List.set_cons_zero, List.set_cons_succ]
    refine hs_take (i := 4) (d := some 9) (v := ?_) rfl (by kernel_rfl) (by kernel_rfl) (by kernel_rfl) (by rfl) ?_ hS rfl ?_
    rotate_left
    · intro w' hw
      go_simp
      try with_reducible rfl
    simp only [Act.put, List.setIfInBounds_toArray, List.set_cons_zero, List.set_cons_succ]
    refine hs_take (i := 5) (d := some 10) (v := ?_) rfl (by kernel_rfl) (by kernel_rfl) (by kernel_rfl) (by rfl) ?_ hS rfl ?_
    rotate_left
    · intro w' hw
      have := (hw.cell (p := ⟨w.heap.size, 0, none⟩) hs8).trans cK
      go_simp
      try with_reducible rfl
    simp only [Act.put, List.setIfInBounds_toArray, List.set_cons_zero, List.set_cons_succ]
    refine hs_take (i := 6) (d := some 11) (v := ?_) rfl (by kernel_rfl) (by kernel_rfl) (by kernel_rfl) (by rfl) ?_ hS rfl ?_
    rotate_left
    · intro w' hw
      go_simp
      try with_reducible rfl
    simp only [Act.put, List.setIfInBounds_toArray, List.set_cons_zero, List.set_cons_succ]
    refine hs_take (i := 7) (d := some 12) (v := ?_) rfl (by kernel_rfl) (by kernel_rfl) (by kernel_rfl) (by rfl) ?_ hS rfl ?_
    rotate_left
    · intro w' hw
      go_simp
      try with_reducible rfl
    simp only [Act.put, List.setIfInBounds_toArray, List.set_cons_zero, List.set_cons_succ]
    refine hs_take (i := 8) (d := some 13) (v := ?_) rfl (by kernel_rfl) (by kernel_rfl) (by kernel_rfl) (by rfl) ?_ hS rfl ?_
    rotate_left
    · intro w' hw
      go_simp
      try with_reducible rfl
    simp only [Act.put, List.setIfInBounds_toArray, List.set_cons_zero, List.set_cons_succ]
    refine hs_take (i := 9) (d := some 14) (v := .agg q.toArray) rfl (by kernel_rfl) (by kernel_rfl) (by kernel_rfl) (by rfl) (fun w' hw => exec_loadC rfl rfl (run_loadVar_mid (P := Tryz.prog) w' w.heap.size 0 37 q _ (range_below hA8 hw hs8) Tryz.underlying37 rfl iq)) hS rfl ?_
    simp only [Act.put, List.setIfInBounds_toArray, List.set_cons_zero, List.set_cons_succ]
    refine hs_take (i := 10) (d := some 15) (v := .agg q.toArray) rfl (by kernel_rfl) (by kernel_rfl) (by kernel_rfl) (by rfl) (fun w' hw => exec_loadC rfl rfl (run_loadVar_mid (P := Tryz.prog) w' w.heap.size 0 37 q _ (range_below hA8 hw hs8) Tryz.underlying37 rfl iq)) hS rfl ?_
    simp only [Act.put, List.setIfInBounds_toArray, List.set_cons_zero, List.set_cons_succ]
    refine hs_call (i := 11) (d := some 16) rfl (by kernel_rfl) (by rfl) (by go_simp; first | done | exact ⟨rfl, rfl⟩ | with_reducible rfl) rfl ?_
    refine (hon _).mono ?_
    rintro e' wn1 ⟨rfl, hb1⟩
    have hS : (Below w8.heap.size w8) wn1 := hS.trans (hb1.mono hS.size)
    refine ⟨_, rfl, hS, ?_⟩
    simp only [Act.put, List.setIfInBounds_toArray, List.set_cons_zero, List.set_cons_succ]
    refine hs_call (i := 12) (d := some 17) rfl (by kernel_rfl) (by rfl) (by go_simp; first | done | exact ⟨rfl, rfl⟩ | with_reducible rfl) rfl ?_
    refine (hsm _).mono ?_
    rintro e' wn2 ⟨rfl, hb2⟩
    have hS : (Below w8.heap.size w8) wn2 := hS.trans (hb2.mono hS.size)
    refine ⟨_, rfl, hS, ?_⟩
    simp only [Act.put, List.setIfInBounds_toArray, List.set_cons_zero, List.set_cons_succ]
    refine hs_take (i := 13) (d := some 18) (v := ?_) rfl (by kernel_rfl) (by kernel_rfl) (by kernel_rfl) (by rfl) ?_ hS rfl ?_
    rotate_left
    · intro w' hw
      go_simp
      try with_reducible rfl
    simp only [Act.put, List.setIfInBounds_toArray, List.set_cons_zero, List.set_cons_succ]
    refine hs_take (i := 14) (d := some 19) (v := ?_) rfl (by kernel_rfl) (by kernel_rfl) (by kernel_rfl) (by rfl) ?_ hS rfl ?_
    rotate_left
    · intro w' hw
      go_simp
      try with_reducible rfl
    simp only [Act.put, List.setIfInBounds_toArray, List.set_cons_zero, List.set_cons_succ]
    refine hs_done (by kernel_rfl) ?_
    have up := fun i v (h : w8.cell? ⟨w.heap.size, i, none⟩ = some v) => (hS.cell (p := ⟨w.heap.size, i, none⟩) hs8).trans h
    replace cK := up _ _ cK
    replace cE := up _ _ cE
    replace cL := up _ _ cL
    replace cV := up _ _ cV
    replace cS := up _ _ cS
    replace cQ := up _ _ cQ
    replace cR := up _ _ cR
    replace c1 := up _ _ c1
    replace c2 := up _ _ c2
    replace c3 := up _ _ c3
    replace cH := up _ _ cH
    replace cN := up _ _ cN
    replace cT := up _ _ cT
    replace cG := up _ _ cG
    clear up
    have hsn := Nat.lt_of_lt_of_le hs8 hS.size
    have hBn := hB8.trans (hS.mono (by omega))
    clear hA8 hS hb1 hb2 hs8 hB8 hon hsm iq
    go_upto_region 4 with (go_at_call 27; refine (upto_any _ _ _).mono ?_; rintro e1 w1 ⟨rfl, hx⟩; obtain rfl := hx.symm; clear hx; (first | rw [i4]))
    obtain ⟨r3, hb3, hz3, _⟩ := fresh_store wn2 #[.int .i64 0, .int .i64 0, .int .i64 0, .slice none 0 0] 31 [.int .i64 0, .int .i64 0, .int .i64 0, .slice none 0 0] rfl
    have hT3 := there_new wn2 #[.int .i64 0, .int .i64 0, .int .i64 0, .slice none 0 0] 31
    go_upto_region 5 with (refine wpList_store_mid rfl 31 _ _ rfl _ _ #[.int .i64 0, .int .i64 0, .int .i64 0, .slice none 0 0] rfl rfl hT3 iszH4 one4 ?_)
    go_name_world w3 hw3
    rw [show (wn2.alloc (.cells #[.int .i64 0, .int .i64 0, .int .i64 0, .slice none 0 0] 31)).setCells wn2.heap.size 0 [.int .i64 0, .int .i64 0, .int .i64 0, .slice none 0 0] = w3 from hw3] at r3 hb3 hz3
    clear hw3 hz3 hT3
    have up := fun i v (h : wn2.cell? ⟨w.heap.size, i, none⟩ = some v) => (hb3.cell (p := ⟨w.heap.size, i, none⟩) hsn).trans h
    replace cK := up _ _ cK
    clear up
    have hB3 := hBn.trans (hb3.mono (by omega))
    clear r3 hb3 hBn hsn cE cL cV cS c1 c2 c3 cH cQ cR cN cT cG
    go_wp2
    go_ret
    exact ⟨rfl, hB3⟩
  · clear hm M hd hdb
    generalize (Ms.plain 5 e 0 Vt.zero d).cells = q at *
    go_enter Tryz.func11, Tryz.ntmps11
    go_upto_region 1 with fail
    rw [show w.alloc (.cells q.toArray 37) = W from hW.out]
    clear hW
    obtain ⟨w8, hw8⟩ : ∃ w8, W.drew = w8 := ⟨_, rfl⟩
    have hB8 : Below w.heap.size w w8 := by rw [← hw8]; exact hB.drew
    have hA8 : w8.rangeAt w.heap.size 0 q := by rw [← hw8]; exact (World.rangeAt_drew _ _ _ _).2 hA
    have hs8 : w.heap.size < w8.heap.size := by rw [← hw8]; exact hs
    have dr : ∀ i v, W.cell? ⟨w.heap.size, i, none⟩ = some v → w8.cell? ⟨w.heap.size, i, none⟩ = some v := fun i v h => by rw [← hw8]; exact h
    replace cK := dr _ _ cK
    replace cE := dr _ _ cE
    replace cL := dr _ _ cL
    replace cV := dr _ _ cV
    replace cS := dr _ _ cS
    replace cQ := dr _ _ cQ
    replace cR := dr _ _ cR
    replace c1 := dr _ _ c1
    replace c2 := dr _ _ c2
    replace c3 := dr _ _ c3
    replace cH := dr _ _ cH
    replace cN := dr _ _ cN
    replace cT := dr _ _ cT
    replace cG := dr _ _ cG
    refine hs_begin (S := (Below w8.heap.size w8)) 15 rfl (by kernel_rfl) ?_
    rw [hw8]
    clear hw8 hA hB hs dr
    have hS : (Below w8.heap.size w8) w8 := Below.refl _ _
    refine hs_take (i := 0) (d := some 5) (v := ?_) rfl (by kernel_rfl) (by kernel_rfl) (by kernel_rfl) (by rfl) ?_ hS rfl ?_
    rotate_left
    · intro w' hw
      go_simp
      try with_reducible rfl
    simp only [Act.put, List.setIfInBounds_toArray, List.set_cons_zero, List.set_cons_succ]
    refine hs_take (i := 1) (d := some 6) (v := ?_) rfl (by kernel_rfl) (by kernel_rfl) (by kernel_rfl) (by rfl) ?_ hS rfl ?_
    rotate_left
    · intro w' hw
      have := (hw.cell (p := ⟨w.heap.size, 0, none⟩) hs8).trans cK
      go_simp
      try with_reducible rfl
    simp only [Act.put, List.setIfInBounds_toArray, List.set_cons_zero, List.set_cons_succ]
    refine hs_take (i := 2) (d := some 7) (v := ?_) rfl (by kernel_rfl) (by kernel_rfl) (by kernel_rfl) (by rfl) ?_ hS rfl ?_
    rotate_left
    · intro w' hw
      go_simp
      try with_reducible rfl
    simp only [Act.put, List.setIfInBounds_toArray, List.set_cons_zero, List.set_cons_succ]
    refine hs_take (i := 3) (d := some 8) (v := ?_) rfl (by kernel_rfl) (by kernel_rfl) (by kernel_rfl) (by rfl) ?_ hS rfl ?_
    rotate_left
    · intro w' hw
      go_simp
      try with_reducible rfl
    simp only [Act.put, List.setIfInBounds_toArray, List.set_cons_zero, List.set_cons_succ]
    refine hs_take (i := 4) (d := some 9) (v := ?_) rfl (by kernel_rfl) (by kernel_rfl) (by kernel_rfl) (by rfl) ?_ hS rfl ?_
    rotate_left
    · intro w' hw
      go_simp
      try with_reducible rfl
    simp only [Act.put, List.setIfInBounds_toArray, List.set_cons_zero, List.set_cons_succ]
    refine hs_take (i := 5) (d := some 10) (v := ?_) rfl (by kernel_rfl) (by kernel_rfl) (by kernel_rfl) (by rfl) ?_ hS rfl ?_
    rotate_left
    · intro w' hw
      have := (hw.cell (p := ⟨w.heap.size, 0, none⟩) hs8).trans cK
      go_simp
      try with_reducible rfl
    simp only [Act.put, List.setIfInBounds_toArray, List.set_cons_zero, List.set_cons_succ]
    refine hs_take (i := 6) (d := some 11) (v := ?_) rfl (by kernel_rfl) (by kernel_rfl) (by kernel_rfl) (by rfl) ?_ hS rfl ?_
    rotate_left
    · intro w' hw
      go_simp
      try with_reducible rfl
    simp only [Act.put, List.setIfInBounds_toArray, List.set_cons_zero, List.set_cons_succ]
    refine hs_take (i := 7) (d := some 12) (v := ?_) rfl (by kernel_rfl) (by kernel_rfl) (by kernel_rfl) (by rfl) ?_ hS rfl ?_
    rotate_left
    · intro w' hw
      go_simp
      try with_reducible rfl
    simp only [Act.put, List.setIfInBounds_toArray, List.set_cons_zero, List.set_cons_succ]
    refine hs_take (i := 8) (d := some 13) (v := ?_) rfl (by kernel_rfl) (by kernel_rfl) (by kernel_rfl) (by rfl) ?_ hS rfl ?_
    rotate_left
    · intro w' hw
      go_simp
      try with_reducible rfl
    simp only [Act.put, List.setIfInBounds_toArray, List.set_cons_zero, List.set_cons_succ]
    refine hs_take (i := 9) (d := some 14) (v := .agg q.toArray) rfl (by kernel_rfl) (by kernel_rfl) (by kernel_rfl) (by rfl) (fun w' hw => exec_loadC rfl rfl (run_loadVar_mid (P := Tryz.prog) w' w.heap.size 0 37 q _ (range_below hA8 hw hs8) Tryz.underlying37 rfl iq)) hS rfl ?_
    simp only [Act.put, List.setIfInBounds_toArray, List.set_cons_zero, List.set_cons_succ]
    refine hs_take (i := 10) (d := some 15) (v := .agg q.toArray) rfl (by kernel_rfl) (by kernel_rfl) (by kernel_rfl) (by rfl) (fun w' hw => exec_loadC rfl rfl (run_loadVar_mid (P := Tryz.prog) w' w.heap.size 0 37 q _ (range_below hA8 hw hs8) Tryz.underlying37 rfl iq)) hS rfl ?_
    simp only [Act.put, List.setIfInBounds_toArray, List.set_cons_zero, List.set_cons_succ]
    refine hs_call (i := 11) (d := some 16) rfl (by kernel_rfl) (by rfl) (by go_simp; first | done | exact ⟨rfl, rfl⟩ | with_reducible rfl) rfl ?_
    refine (hon _).mono ?_
    rintro e' wn1 ⟨rfl, hb1⟩
    have hS : (Below w8.heap.size w8) wn1 := hS.trans (hb1.mono hS.size)
    refine ⟨_, rfl, hS, ?_⟩
    simp only [Act.put, List.setIfInBounds_toArray, List.set_cons_zero, List.set_cons_succ]
    refine hs_call (i := 12) (d := some 17) rfl (by kernel_rfl) (by rfl) (by go_simp; first | done | exact ⟨rfl, rfl⟩ | with_reducible rfl) rfl ?_
    refine (hsm _).mono ?_
    rintro e' wn2 ⟨rfl, hb2⟩
    have hS : (Below w8.heap.size w8) wn2 := hS.trans (hb2.mono hS.size)
    refine ⟨_, rfl, hS, ?_⟩
    simp only [Act.put, List.setIfInBounds_toArray, List.set_cons_zero, List.set_cons_succ]
    refine hs_take (i := 13) (d := some 18) (v := ?_) rfl (by kernel_rfl) (by kernel_rfl) (by kernel_rfl) (by rfl) ?_ hS rfl ?_
    rotate_left
    · intro w' hw
      go_simp
      try with_reducible rfl
    simp only [Act.put, List.setIfInBounds_toArray, List.set_cons_zero, List.set_cons_succ]
    refine hs_take (i := 14) (d := some 19) (v := ?_) rfl (by kernel_rfl) (by kernel_rfl) (by kernel_rfl) (by rfl) ?_ hS rfl ?_
    rotate_left
    · intro w' hw
      go_simp
      try with_reducible rfl
    simp only [Act.put, List.setIfInBounds_toArray, List.set_cons_zero, List.set_cons_succ]
    refine hs_done (by kernel_rfl) ?_
    have up := fun i v (h : w8.cell? ⟨w.heap.size, i, none⟩ = some v) => (hS.cell (p := ⟨w.heap.size, i, none⟩) hs8).trans h
    replace cK := up _ _ cK
    replace cE := up _ _ cE
    replace cL := up _ _ cL
    replace cV := up _ _ cV
    replace cS := up _ _ cS
    replace cQ := up _ _ cQ
    replace cR := up _ _ cR
    replace c1 := up _ _ c1
    replace c2 := up _ _ c2
    replace c3 := up _ _ c3
    replace cH := up _ _ cH
    replace cN := up _ _ cN
    replace cT := up _ _ cT
    replace cG := up _ _ cG
    clear up
    have hsn := Nat.lt_of_lt_of_le hs8 hS.size
    have hBn := hB8.trans (hS.mono (by omega))
    clear hA8 hS hb1 hb2 hs8 hB8 hon hsm iq
    go_upto_region 4 with (go_at_call 27; refine (upto_any _ _ _).mono ?_; rintro e1 w1 ⟨rfl, hx⟩; obtain rfl := hx.symm; clear hx; (first | rw [i4] | rw [i2] | rw [i3]))
    obtain ⟨r3, hb3, hz3, _⟩ := fresh_store wn2 #[.int .i64 0, .int .i64 0, .int .i64 0, .slice none 0 0] 31 [.int .i64 0, .int .i64 0, .int .i64 0, .slice none 0 0] rfl
    have hT3 := there_new wn2 #[.int .i64 0, .int .i64 0, .int .i64 0, .slice none 0 0] 31
    go_upto_region 5 with (refine wpList_store_mid rfl 31 _ _ rfl _ _ #[.int .i64 0, .int .i64 0, .int .i64 0, .slice none 0 0] rfl rfl hT3 iszH4 one4 ?_)
    go_name_world w3 hw3
    rw [show (wn2.alloc (.cells #[.int .i64 0, .int .i64 0, .int .i64 0, .slice none 0 0] 31)).setCells wn2.heap.size 0 [.int .i64 0, .int .i64 0, .int .i64 0, .slice none 0 0] = w3 from hw3] at r3 hb3 hz3
    clear hw3 hz3 hT3
    have up := fun i v (h : wn2.cell? ⟨w.heap.size, i, none⟩ = some v) => (hb3.cell (p := ⟨w.heap.size, i, none⟩) hsn).trans h
    replace cK := up _ _ cK
    replace cQ := up _ _ cQ
    replace cR := up _ _ cR
    replace cN := up _ _ cN
    replace cT := up _ _ cT
    replace cG := up _ _ cG
    clear up
    have hs3 := Nat.lt_of_lt_of_le hsn hb3.size
    have hB3 := hBn.trans (hb3.mono (by omega))
    have d0 := r3 0 _ rfl
    have d1 := r3 1 _ rfl
    have d2 := r3 2 _ rfl
    have d3 := r3 3 _ rfl
    simp only [Nat.zero_add, Nat.add_zero] at d0 d1 d2 d3
    clear r3 hb3 hBn hsn cE cL cV cS c1 c2 c3 cH
    go_upto_region 6 with (first | (go_at_call 27; refine (upto_any _ _ _).mono ?_; rintro e1 w1 ⟨rfl, hx⟩; obtain rfl := hx.symm; clear hx; (first | rw [i1] | rw [i2] | rw [i3])) | (go_at_call 28; refine (xh0 _).mono ?_; rintro e1 w1 ⟨rfl, hx⟩; obtain rfl := hx.symm; clear hx))
    clear d0 d1 d2 d3
    go_wp2_with fail
    refine (plain0 false _).mono ?_
    rintro e4 w4 ⟨rfl, hb4⟩
    have up := fun i v (h : w3.cell? ⟨w.heap.size, i, none⟩ = some v) => (hb4.cell (p := ⟨w.heap.size, i, none⟩) hs3).trans h
    replace cK := up _ _ cK
    replace cN := up _ _ cN
    replace cT := up _ _ cT
    replace cG := up _ _ cG
    clear up
    have hs4 := Nat.lt_of_lt_of_le hs3 hb4.size
    have hB4 := hB3.trans (hb4.mono (by omega))
    clear hb4 hB3 hs3 cQ cR
    go_upto_region 7 with (first | (go_at_call 30; refine (xn0 _).mono ?_; rintro e1 w1 ⟨rfl, hx⟩; obtain rfl := hx.symm; clear hx) | (go_at_call 31; refine (xg0 _).mono ?_; rintro e1 w1 ⟨rfl, hx⟩; obtain rfl := hx.symm; clear hx))
    clear cN cT cG
    go_wp2
    go_ret
    exact ⟨rfl, hB4⟩
end Go.Proofs.YtghgomglpgidoaaGreat
