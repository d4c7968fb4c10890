/- fieldsMay and Good at messages without lists; Good of a message that is its own bare one; digests' parts: what the contracts of digests are told; Encode; message.Vote, message.Mark; the document's only, at votes and marks; the document's Good at votes and marks; the document's putNums, putDigest; the document's putVote, bytes, Encode, Vote, Mark -/
import Derived.Test.YtgjalkbianpibaaGreatJE2
import Derived.Test.YtgjalkbianpibaaGreatJE1
import Derived.Lib.SlBytesConst
import Derived.WalkLawsBesides
import Derived.SliceStrings
namespace Go.Proofs.YtgjalkbianpibaaGreat
open Go.RowKit
open Sha Tal
theorem plain_ok2 {x : Vt} (hx : x.ok) : (Ms.plain 2 0 0 x zeros32).ok := Ms.plain_ok 2 0 0 hx zeros32_len zeros32_byte
set_option maxRecDepth 100000 in
set_option maxHeartbeats 4000000 in
theorem fmay2 (x : Vt) (hx : x.ok) (w : World) : Calls Tryz.prog 20 #[.agg (Ms.plain 2 0 0 x zeros32).cells.toArray] w fun e w' => e = .returned (.bool x.may) ∧ Below w.heap.size w w' := by
  have hm : (Ms.plain 2 0 0 x zeros32).ok := plain_ok2 hx
  have hB : Below w.heap.size w (w.alloc (.cells (Ms.plain 2 0 0 x zeros32).cells.toArray 37)) := (Below.refl _ _).alloc (Nat.le_refl _) _
  have hs : w.heap.size < (w.alloc (.cells (Ms.plain 2 0 0 x zeros32).cells.toArray 37)).heap.size := by simp
  have M := (Ms.plain 2 0 0 x zeros32).box hm w
  obtain ⟨W, hW⟩ : ∃ W, Hid (w.alloc (.cells (Ms.plain 2 0 0 x zeros32).cells.toArray 37) = W) := ⟨_, hide rfl⟩
  rw [hW.out] at hB hs M
  have cK : W.cell? ⟨w.heap.size, 0, none⟩ = some (.int .i64 2) := M.k
  have cE : W.cell? ⟨w.heap.size, 1, none⟩ = some (.int .i64 0) := M.e
  have cL : W.cell? ⟨w.heap.size, 2, none⟩ = some (.int .i64 0) := M.l
  have cV : W.cell? ⟨w.heap.size, 3, none⟩ = some (.int .i64 0) := M.v
  have cS : W.cell? ⟨w.heap.size, 4, none⟩ = some (.int .i64 0) := M.s
  have cQ : W.cell? ⟨w.heap.size, 5, none⟩ = some (.bool false) := M.q
  have cR : W.cell? ⟨w.heap.size, 6, none⟩ = some (.slice none 0 0) := M.rs
  have c1 : W.cell? ⟨w.heap.size, 43, none⟩ = some (.int .i64 0) := M.ce
  have c2 : W.cell? ⟨w.heap.size, 44, none⟩ = some (.int .i64 0) := M.cl
  have c3 : W.cell? ⟨w.heap.size, 45, none⟩ = some (.int .i64 0) := M.cv
  have cH : W.cell? ⟨w.heap.size, 46, none⟩ = some (.slice none 0 0) := M.he
  have cN : W.cell? ⟨w.heap.size, 47, none⟩ = some (.slice none 0 0) := M.ne
  have cT : W.cell? ⟨w.heap.size, 117, none⟩ = some (.string ⟨#[]⟩) := M.st
  have cG : W.cell? ⟨w.heap.size, 118, none⟩ = some (.slice none 0 0) := M.sg
  have rV : W.rangeAt w.heap.size 7 x.cells := M.vt
  have ix : (Tryz.prog.info? 28).map (·.size) = some x.cells.length := by rw [hx.len]; exact iszV
  have i1 : inB 0 1048576 = true := rfl
  have i2 : inB 0 64 = true := rfl
  have i3 : inB 0 1099511627776 = true := rfl
  have i4 := i3
  have i5 := i3
  have cv := fun w0 => voteMay_any x w0
  generalize x.may = b at *
  generalize (Ms.plain 2 0 0 x zeros32).cells = q at *
  generalize x.cells = u at *
  clear hm M hx
  go_enter Tryz.func20, Tryz.ntmps20
  go_upto_region 1 with fail
  go_name_world w1 hw1
  obtain rfl : W = w1 := hW.out.symm.trans hw1
  clear hw1 hW
  go_upto_region 5 with (go_at_call 66; refine (within_any _ _ _).mono ?_; rintro e1 w1 ⟨rfl, hx⟩; obtain rfl := hx.symm; clear hx; (first | rw [i1] | rw [i2] | rw [i3] | rw [i4] | rw [i5]))
  go_wp2_with (refine wpList_load_g (by rfl) 28 _ rfl _ _ rfl u _ rV Tryz.underlying28 rfl ix ?_)
  refine (cv _).mono ?_
  rintro e2 w2 ⟨rfl, hb2⟩
  have up := fun i v (h : W.cell? ⟨w.heap.size, i, none⟩ = some v) => (hb2.cell (p := ⟨w.heap.size, i, none⟩) (show w.heap.size < W.heap.size by omega)).trans h
  replace cK := up _ _ cK
  replace cQ := up _ _ cQ
  replace cR := up _ _ cR
  replace c1 := up _ _ c1
  replace c2 := up _ _ c2
  replace c3 := up _ _ c3
  replace cH := up _ _ cH
  replace cN := up _ _ cN
  replace cT := up _ _ cT
  replace cG := up _ _ cG
  clear up
  replace hB := hB.trans (hb2.mono (by omega))
  replace hs := Nat.lt_of_lt_of_le hs hb2.size
  clear cE cL cV cS rV cv hb2
  cases b
  · go_wp2
    go_ret
    exact ⟨rfl, hB⟩
  · go_wp2_with fail
    refine (batMay0 false _).mono ?_
    rintro e3 w3 ⟨rfl, hb3⟩
    have up := fun i v (h : w2.cell? ⟨w.heap.size, i, none⟩ = some v) => (hb3.cell (p := ⟨w.heap.size, i, none⟩) (show w.heap.size < w2.heap.size by omega)).trans h
    replace c1 := up _ _ c1
    replace c2 := up _ _ c2
    replace c3 := up _ _ c3
    replace cH := up _ _ cH
    replace cN := up _ _ cN
    replace cT := up _ _ cT
    replace cG := up _ _ cG
    clear up
    have hs3 := Nat.lt_of_lt_of_le hs hb3.size
    have hB3 := hB.trans (hb3.mono (by omega))
    clear cQ cR hb3 hB hs
    go_wp2_with fail
    refine (chgMay0 _).mono ?_
    rintro e4 w4 ⟨rfl, hb4⟩
    have up := fun i v (h : w3.cell? ⟨w.heap.size, i, none⟩ = some v) => (hb4.cell (p := ⟨w.heap.size, i, none⟩) (show w.heap.size < w3.heap.size by omega)).trans h
    replace cN := up _ _ cN
    replace cT := up _ _ cT
    replace cG := up _ _ cG
    clear up
    have hs4 := Nat.lt_of_lt_of_le hs3 hb4.size
    have hB4 := hB3.trans (hb4.mono (by omega))
    clear c1 c2 c3 cH hb4 hB3 hs3
    go_wp2_with fail
    refine (amE0 _ _ (by omega) _).mono ?_
    rintro e5 w5 ⟨rfl, hx⟩
    obtain rfl := hx.symm
    clear hx cN
    go_wp2_with fail
    refine (sigMay0 _).mono ?_
    rintro e6 w6 ⟨rfl, hx⟩
    obtain rfl := hx.symm
    clear hx cT cG
    go_wp2_with fail
    go_ret
    exact ⟨rfl, hB4⟩
set_option maxRecDepth 100000 in
set_option maxHeartbeats 4000000 in
theorem fmay5 (e : Int) (d : List Int) (hd : d.length = 32) (hdb : ∀ z ∈ d, 0 ≤ z ∧ z < 256) (w : World) : Calls Tryz.prog 20 #[.agg (Ms.plain 5 e 0 Vt.zero d).cells.toArray] w fun er w' => er = .returned (.bool (inB e 1048576)) ∧ Below w.heap.size w w' := by
  have hm : (Ms.plain 5 e 0 Vt.zero d).ok := Ms.plain_ok 5 e 0 Vt.zero_ok hd hdb
  have hB : Below w.heap.size w (w.alloc (.cells (Ms.plain 5 e 0 Vt.zero d).cells.toArray 37)) := (Below.refl _ _).alloc (Nat.le_refl _) _
  have hs : w.heap.size < (w.alloc (.cells (Ms.plain 5 e 0 Vt.zero d).cells.toArray 37)).heap.size := by simp
  have M := (Ms.plain 5 e 0 Vt.zero d).box hm w
  obtain ⟨W, hW⟩ : ∃ W, Hid (w.alloc (.cells (Ms.plain 5 e 0 Vt.zero d).cells.toArray 37) = W) := ⟨_, hide rfl⟩
  rw [hW.out] at hB hs M
  have cK : W.cell? ⟨w.heap.size, 0, none⟩ = some (.int .i64 5) := M.k
  have cE : W.cell? ⟨w.heap.size, 1, none⟩ = some (.int .i64 e) := M.e
  have cL : W.cell? ⟨w.heap.size, 2, none⟩ = some (.int .i64 0) := M.l
  have cV : W.cell? ⟨w.heap.size, 3, none⟩ = some (.int .i64 0) := M.v
  have cS : W.cell? ⟨w.heap.size, 4, none⟩ = some (.int .i64 0) := M.s
  have cQ : W.cell? ⟨w.heap.size, 5, none⟩ = some (.bool false) := M.q
  have cR : W.cell? ⟨w.heap.size, 6, none⟩ = some (.slice none 0 0) := M.rs
  have c1 : W.cell? ⟨w.heap.size, 43, none⟩ = some (.int .i64 0) := M.ce
  have c2 : W.cell? ⟨w.heap.size, 44, none⟩ = some (.int .i64 0) := M.cl
  have c3 : W.cell? ⟨w.heap.size, 45, none⟩ = some (.int .i64 0) := M.cv
  have cH : W.cell? ⟨w.heap.size, 46, none⟩ = some (.slice none 0 0) := M.he
  have cN : W.cell? ⟨w.heap.size, 47, none⟩ = some (.slice none 0 0) := M.ne
  have cT : W.cell? ⟨w.heap.size, 117, none⟩ = some (.string ⟨#[]⟩) := M.st
  have cG : W.cell? ⟨w.heap.size, 118, none⟩ = some (.slice none 0 0) := M.sg
  have i1 : inB 0 1048576 = true := rfl
  have i2 : inB 0 64 = true := rfl
  have i3 : inB 0 1099511627776 = true := rfl
  have i5 := i3
  cases i4 : inB e 1048576
  · generalize (Ms.plain 5 e 0 Vt.zero d).cells = q at *
    clear hm M hd hdb i1
    go_enter Tryz.func20, Tryz.ntmps20
    go_upto_region 1 with fail
    go_name_world w1 hw1
    obtain rfl : W = w1 := hW.out.symm.trans hw1
    clear hw1 hW
    go_wp2_with (go_at_call 66; refine (within_any _ _ _).mono ?_; rintro e1 w1 ⟨rfl, hx⟩; obtain rfl := hx.symm; clear hx; (first | rw [i2] | rw [i3] | rw [i4] | rw [i5]))
    go_ret
    exact ⟨rfl, hB⟩
  · generalize (Ms.plain 5 e 0 Vt.zero d).cells = q at *
    clear hm M hd hdb
    go_enter Tryz.func20, Tryz.ntmps20
    go_upto_region 1 with fail
    go_name_world w1 hw1
    obtain rfl : W = w1 := hW.out.symm.trans hw1
    clear hw1 hW
    go_upto_region 9 with (go_at_call 66; refine (within_any _ _ _).mono ?_; rintro e1 w1 ⟨rfl, hx⟩; obtain rfl := hx.symm; clear hx; (first | rw [i1] | rw [i2] | rw [i3] | rw [i4] | rw [i5]))
    go_wp2_with fail
    refine (batMay0 false _).mono ?_
    rintro e3 w3 ⟨rfl, hb3⟩
    have up := fun i v (h : W.cell? ⟨w.heap.size, i, none⟩ = some v) => (hb3.cell (p := ⟨w.heap.size, i, none⟩) (show w.heap.size < W.heap.size by omega)).trans h
    replace c1 := up _ _ c1
    replace c2 := up _ _ c2
    replace c3 := up _ _ c3
    replace cH := up _ _ cH
    replace cN := up _ _ cN
    replace cT := up _ _ cT
    replace cG := up _ _ cG
    clear up
    have hs3 := Nat.lt_of_lt_of_le hs hb3.size
    have hB3 := hB.trans (hb3.mono (by omega))
    clear cQ cR hb3 hB hs
    go_wp2_with fail
    refine (chgMay0 _).mono ?_
    rintro e4 w4 ⟨rfl, hb4⟩
    have up := fun i v (h : w3.cell? ⟨w.heap.size, i, none⟩ = some v) => (hb4.cell (p := ⟨w.heap.size, i, none⟩) (show w.heap.size < w3.heap.size by omega)).trans h
    replace cN := up _ _ cN
    replace cT := up _ _ cT
    replace cG := up _ _ cG
    clear up
    have hs4 := Nat.lt_of_lt_of_le hs3 hb4.size
    have hB4 := hB3.trans (hb4.mono (by omega))
    clear c1 c2 c3 cH hb4 hB3 hs3
    go_wp2_with fail
    refine (amE0 _ _ (by omega) _).mono ?_
    rintro e5 w5 ⟨rfl, hx⟩
    obtain rfl := hx.symm
    clear hx cN
    go_wp2_with fail
    refine (sigMay0 _).mono ?_
    rintro e6 w6 ⟨rfl, hx⟩
    obtain rfl := hx.symm
    clear hx cT cG
    go_wp2_with fail
    go_ret
    exact ⟨rfl, hB4⟩
set_option maxRecDepth 100000 in
set_option maxHeartbeats 4000000 in
theorem fmay6 (w : World) : Calls Tryz.prog 20 #[.agg (Ms.plain 6 2 9 Vt.zero zeros32).cells.toArray] w fun er w' => er = .returned (.bool true) ∧ Below w.heap.size w w' := by
  have hm : (Ms.plain 6 2 9 Vt.zero zeros32).ok := Ms.plain_ok 6 2 9 Vt.zero_ok zeros32_len zeros32_byte
  have hB : Below w.heap.size w (w.alloc (.cells (Ms.plain 6 2 9 Vt.zero zeros32).cells.toArray 37)) := (Below.refl _ _).alloc (Nat.le_refl _) _
  have hs : w.heap.size < (w.alloc (.cells (Ms.plain 6 2 9 Vt.zero zeros32).cells.toArray 37)).heap.size := by simp
  have M := (Ms.plain 6 2 9 Vt.zero zeros32).box hm w
  obtain ⟨W, hW⟩ : ∃ W, Hid (w.alloc (.cells (Ms.plain 6 2 9 Vt.zero zeros32).cells.toArray 37) = W) := ⟨_, hide rfl⟩
  rw [hW.out] at hB hs M
  have cK : W.cell? ⟨w.heap.size, 0, none⟩ = some (.int .i64 6) := M.k
  have cE : W.cell? ⟨w.heap.size, 1, none⟩ = some (.int .i64 2) := M.e
  have cL : W.cell? ⟨w.heap.size, 2, none⟩ = some (.int .i64 0) := M.l
  have cV : W.cell? ⟨w.heap.size, 3, none⟩ = some (.int .i64 0) := M.v
  have cS : W.cell? ⟨w.heap.size, 4, none⟩ = some (.int .i64 9) := M.s
  have cQ : W.cell? ⟨w.heap.size, 5, none⟩ = some (.bool false) := M.q
  have cR : W.cell? ⟨w.heap.size, 6, none⟩ = some (.slice none 0 0) := M.rs
  have c1 : W.cell? ⟨w.heap.size, 43, none⟩ = some (.int .i64 0) := M.ce
  have c2 : W.cell? ⟨w.heap.size, 44, none⟩ = some (.int .i64 0) := M.cl
  have c3 : W.cell? ⟨w.heap.size, 45, none⟩ = some (.int .i64 0) := M.cv
  have cH : W.cell? ⟨w.heap.size, 46, none⟩ = some (.slice none 0 0) := M.he
  have cN : W.cell? ⟨w.heap.size, 47, none⟩ = some (.slice none 0 0) := M.ne
  have cT : W.cell? ⟨w.heap.size, 117, none⟩ = some (.string ⟨#[]⟩) := M.st
  have cG : W.cell? ⟨w.heap.size, 118, none⟩ = some (.slice none 0 0) := M.sg
  have i1 : inB 0 1048576 = true := rfl
  have i2 : inB 0 64 = true := rfl
  have i3 : inB 0 1099511627776 = true := rfl
  have i4 : inB 2 1048576 = true := rfl
  have i5 : inB 9 1099511627776 = true := rfl
  generalize (Ms.plain 6 2 9 Vt.zero zeros32).cells = q at *
  clear hm M
  go_enter Tryz.func20, Tryz.ntmps20
  go_upto_region 1 with fail
  go_name_world w1 hw1
  obtain rfl : W = w1 := hW.out.symm.trans hw1
  clear hw1 hW
  go_upto_region 9 with (go_at_call 66; refine (within_any _ _ _).mono ?_; rintro e1 w1 ⟨rfl, hx⟩; obtain rfl := hx.symm; clear hx; (first | rw [i1] | rw [i2] | rw [i3] | rw [i4] | rw [i5]))
  go_wp2_with fail
  refine (batMay0 false _).mono ?_
  rintro e3 w3 ⟨rfl, hb3⟩
  have up := fun i v (h : W.cell? ⟨w.heap.size, i, none⟩ = some v) => (hb3.cell (p := ⟨w.heap.size, i, none⟩) (show w.heap.size < W.heap.size by omega)).trans h
  replace c1 := up _ _ c1
  replace c2 := up _ _ c2
  replace c3 := up _ _ c3
  replace cH := up _ _ cH
  replace cN := up _ _ cN
  replace cT := up _ _ cT
  replace cG := up _ _ cG
  clear up
  have hs3 := Nat.lt_of_lt_of_le hs hb3.size
  have hB3 := hB.trans (hb3.mono (by omega))
  clear cQ cR hb3 hB hs
  go_wp2_with fail
  refine (chgMay0 _).mono ?_
  rintro e4 w4 ⟨rfl, hb4⟩
  have up := fun i v (h : w3.cell? ⟨w.heap.size, i, none⟩ = some v) => (hb4.cell (p := ⟨w.heap.size, i, none⟩) (show w.heap.size < w3.heap.size by omega)).trans h
  replace cN := up _ _ cN
  replace cT := up _ _ cT
  replace cG := up _ _ cG
  clear up
  have hs4 := Nat.lt_of_lt_of_le hs3 hb4.size
  have hB4 := hB3.trans (hb4.mono (by omega))
  clear c1 c2 c3 cH hb4 hB3 hs3
  go_wp2_with fail
  refine (amE0 _ _ (by omega) _).mono ?_
  rintro e5 w5 ⟨rfl, hx⟩
  obtain rfl := hx.symm
  clear hx cN
  go_wp2_with fail
  refine (sigMay0 _).mono ?_
  rintro e6 w6 ⟨rfl, hx⟩
  obtain rfl := hx.symm
  clear hx cT cG
  go_wp2_with fail
  go_ret
  exact ⟨rfl, hB4⟩
end Go.Proofs.YtgjalkbianpibaaGreat
namespace Go.Proofs.YtgjalkbianpibaaGreat
open Go.RowKit
open Sha Tal
set_option maxRecDepth 100000 in
set_option maxHeartbeats 4000000 in
theorem good0 (q : List Value) (k : Int) (b : Bool) (w : World) (hq : q.length = 119) (h0 : q[0]? = some (.int .i64 k)) (h1 : 1 ≤ k) (h8 : k ≤ 8)
    (hb : ∀ w, Calls Tryz.prog 19 #[.agg q.toArray] w (BareOk w q))
    (hsm : ∀ w, Calls Tryz.prog 11 #[.agg q.toArray, .agg q.toArray] w fun e w' => e = .returned (.bool true) ∧ Below w.heap.size w w')
    (hf : ∀ w, Calls Tryz.prog 20 #[.agg q.toArray] w fun e w' => e = .returned (.bool b) ∧ Below w.heap.size w w') :
    Calls Tryz.prog 9 #[.agg q.toArray] w fun e w' => e = .returned (.bool b) ∧ Below w.heap.size w w' := by
  have hB : Below w.heap.size w (w.alloc (.cells q.toArray 37)) := (Below.refl _ _).alloc (Nat.le_refl _) _
  have hs : w.heap.size < (w.alloc (.cells q.toArray 37)).heap.size := by simp
  have hA : (w.alloc (.cells q.toArray 37)).rangeAt w.heap.size 0 q := by simpa using range_new w q.toArray 37
  have c0 := hA 0 _ h0
  simp only [Nat.add_zero] at c0
  have iq : (Tryz.prog.info? 37).map (·.size) = some q.length := by rw [hq]; exact iszM
  clear hq h0
  go_enter Tryz.func9, Tryz.ntmps9
  go_upto_region 2 with fail
  obtain ⟨w8, hw8⟩ : ∃ w8, (w.alloc (.cells q.toArray 37)).drew = w8 := ⟨_, rfl⟩
  have hB8 : Below w.heap.size w w8 := by rw [← hw8]; exact hB.drew
  have hA8 : w8.rangeAt w.heap.size 0 q := by rw [← hw8]; exact (World.rangeAt_drew _ _ _ _).2 hA
  have hs8 : w.heap.size < w8.heap.size := by rw [← hw8]; exact hs
  refine hs_begin (S := (Below w8.heap.size w8)) 12 rfl (by kernel_rfl) ?_
  rw [hw8]
  clear hw8 hA hB hs c0
  have hS : (Below w8.heap.size w8) w8 := Below.refl _ _
  refine hs_take (i := 0) (d := some 12) (v := ?_) rfl (by kernel_rfl) (by kernel_rfl) (by kernel_rfl) (by rfl) ?_ hS rfl ?_
  rotate_left
  · intro w' hw
    go_simp
    try with_reducible rfl
  simp only [Act.put, List.setIfInBounds_toArray, List.set_cons_zero, List.set_cons_succ]
  refine hs_take (i := 1) (d := some 13) (v := ?_) rfl (by kernel_rfl) (by kernel_rfl) (by kernel_rfl) (by rfl) ?_ hS rfl ?_
  rotate_left
  · intro w' hw
    go_simp
    try with_reducible rfl
  simp only [Act.put, List.setIfInBounds_toArray, List.set_cons_zero, List.set_cons_succ]
  refine hs_take (i := 2) (d := some 14) (v := .agg q.toArray) rfl (by kernel_rfl) (by kernel_rfl) (by kernel_rfl) (by rfl) (fun w' hw => exec_loadC rfl rfl (run_loadVar_mid (P := Tryz.prog) w' w.heap.size 0 37 q _ (range_below hA8 hw hs8) Tryz.underlying37 rfl iq)) hS rfl ?_
  simp only [Act.put, List.setIfInBounds_toArray, List.set_cons_zero, List.set_cons_succ]
  refine hs_take (i := 3) (d := some 15) (v := .agg q.toArray) rfl (by kernel_rfl) (by kernel_rfl) (by kernel_rfl) (by rfl) (fun w' hw => exec_loadC rfl rfl (run_loadVar_mid (P := Tryz.prog) w' w.heap.size 0 37 q _ (range_below hA8 hw hs8) Tryz.underlying37 rfl iq)) hS rfl ?_
  simp only [Act.put, List.setIfInBounds_toArray, List.set_cons_zero, List.set_cons_succ]
  refine hs_call (i := 4) (d := some 16) rfl (by kernel_rfl) (by rfl) (by go_simp; first | done | exact ⟨rfl, rfl⟩ | with_reducible rfl) rfl ?_
  refine (hb _).mono ?_
  rintro e' wn1 ⟨rfl, hb1⟩
  have hS : (Below w8.heap.size w8) wn1 := hS.trans (hb1.mono hS.size)
  refine ⟨_, rfl, hS, ?_⟩
  simp only [Act.put, List.setIfInBounds_toArray, List.set_cons_zero, List.set_cons_succ]
  refine hs_call (i := 5) (d := some 17) rfl (by kernel_rfl) (by rfl) (by go_simp; first | done | exact ⟨rfl, rfl⟩ | with_reducible rfl) rfl ?_
  refine (hsm _).mono ?_
  rintro e' wn2 ⟨rfl, hb2⟩
  have hS : (Below w8.heap.size w8) wn2 := hS.trans (hb2.mono hS.size)
  refine ⟨_, rfl, hS, ?_⟩
  simp only [Act.put, List.setIfInBounds_toArray, List.set_cons_zero, List.set_cons_succ]
  refine hs_take (i := 6) (d := some 18) (v := ?_) rfl (by kernel_rfl) (by kernel_rfl) (by kernel_rfl) (by rfl) ?_ hS rfl ?_
  rotate_left
  · intro w' hw
    go_simp
    try with_reducible rfl
  simp only [Act.put, List.setIfInBounds_toArray, List.set_cons_zero, List.set_cons_succ]
  refine hs_take (i := 7) (d := some 19) (v := ?_) rfl (by kernel_rfl) (by kernel_rfl) (by kernel_rfl) (by rfl) ?_ hS rfl ?_
  rotate_left
  · intro w' hw
    go_simp
    try with_reducible rfl
  simp only [Act.put, List.setIfInBounds_toArray, List.set_cons_zero, List.set_cons_succ]
  refine hs_take (i := 8) (d := some 20) (v := .agg q.toArray) rfl (by kernel_rfl) (by kernel_rfl) (by kernel_rfl) (by rfl) (fun w' hw => exec_loadC rfl rfl (run_loadVar_mid (P := Tryz.prog) w' w.heap.size 0 37 q _ (range_below hA8 hw hs8) Tryz.underlying37 rfl iq)) hS rfl ?_
  simp only [Act.put, List.setIfInBounds_toArray, List.set_cons_zero, List.set_cons_succ]
  refine hs_call (i := 9) (d := some 21) rfl (by kernel_rfl) (by rfl) (by go_simp; first | done | exact ⟨rfl, rfl⟩ | with_reducible rfl) rfl ?_
  refine (hf _).mono ?_
  rintro e' wn3 ⟨rfl, hb3⟩
  have hS : (Below w8.heap.size w8) wn3 := hS.trans (hb3.mono hS.size)
  refine ⟨_, rfl, hS, ?_⟩
  simp only [Act.put, List.setIfInBounds_toArray, List.set_cons_zero, List.set_cons_succ]
  refine hs_take (i := 10) (d := some 22) (v := ?_) rfl (by kernel_rfl) (by kernel_rfl) (by kernel_rfl) (by rfl) ?_ hS rfl ?_
  rotate_left
  · intro w' hw
    go_simp
    try with_reducible rfl
  simp only [Act.put, List.setIfInBounds_toArray, List.set_cons_zero, List.set_cons_succ]
  refine hs_take (i := 11) (d := some 2) (v := ?_) rfl (by kernel_rfl) (by kernel_rfl) (by kernel_rfl) (by rfl) ?_ hS rfl ?_
  rotate_left
  · intro w' hw
    go_simp
    try with_reducible rfl
  simp only [Act.put, List.setIfInBounds_toArray, List.set_cons_zero, List.set_cons_succ]
  refine hs_done (by kernel_rfl) ?_
  go_wp2
  go_ret
  exact ⟨rfl, hB8.trans (hS.mono (by omega))⟩
end Go.Proofs.YtgjalkbianpibaaGreat
namespace Go.Proofs.YtgjalkbianpibaaGreat
open Go.RowKit
open Sha
def strOf (zs : List Int) : ByteArray := zs.foldl (fun r n => r.push (UInt8.ofNat n.toNat)) ByteArray.empty
theorem row_str {w : World} {b off cap : Nat} {zs : List Int} (h : w.rangeAt b off (v8 zs)) : (convert 59 9 (.slice (some ⟨b, off, none⟩) zs.length cap)).run Tryz.prog w = .ok (.string (strOf zs)) w := by
  rw [run_convert_bytes_string w 59 9 5 (some ⟨b, off, none⟩) zs.length cap Tryz.underlying59 Tryz.underlying5 Tryz.underlying9]
  have := run_loadCells_list (P := Tryz.prog) w ⟨b, off, none⟩ (v8 zs) (fun j v hv => by rw [Addr.add_mid]; exact h j v hv)
  rw [v8_length] at this
  exact run_bytesToString w ⟨b, off, none⟩ zs.length cap zs this
theorem one_part (w : World) (arr : Array Value) (p : Part) (hp : p.at w) (harr : arr = #[p.val]) : PartsAt (w.alloc (.cells arr 59)) (some ⟨w.heap.size, 0, none⟩) [p] := by
  subst harr
  have hB : Below w.heap.size w (w.alloc (.cells #[p.val] 59)) := (Below.refl _ _).alloc (Nat.le_refl _) _
  refine ⟨by unfold maxLen; simp, fun q hq => ?_, Or.inr ⟨w.heap.size, 0, rfl, by simp, range_new w #[p.val] 59⟩⟩
  obtain rfl := List.mem_singleton.1 hq
  exact hp.below hB
theorem range_mark (w : World) (arr : Array Value) (t : TypeId) (m : Nat × Nat) : (w.alloc (.cells arr t m)).rangeAt w.heap.size 0 arr.toList := fun j v hv => by
  rw [World.cell?_alloc_mark, Nat.zero_add]
  simpa using hv
theorem no_parts (w : World) : PartsAt w none [] := ⟨by unfold maxLen; simp, by simp, Or.inl rfl⟩
theorem sha_length (zs : List Int) : (sha zs).length = 32 := by unfold sha; rw [bytes_out, outb_length]; rfl
theorem sha_ok (zs : List Int) : ∀ z ∈ sha zs, 0 ≤ z ∧ z < 256 := by unfold sha; rw [bytes_out]; exact outb_ok _
theorem box_range (w : World) (d : List Int) (t : TypeId) : (w.alloc (.cells (v8 d).toArray t)).rangeAt w.heap.size 0 (v8 d) := by
  have := range_new w (v8 d).toArray t
  simpa using this
end Go.Proofs.YtgjalkbianpibaaGreat
namespace Go.Proofs.YtgjalkbianpibaaGreat
open Go.RowKit
open Sha Tal
theorem nil_str (w : World) : (convert 59 9 (.slice none 0 0)).run Tryz.prog w = .ok (.string (strOf [])) w := by kernel_rfl
set_option maxRecDepth 100000 in
theorem mine_str {w : World} {B : Nat} {v : Value} {zs : List Int} (h : Mine w B v zs) : (convert 59 9 v).run Tryz.prog w = .ok (.string (strOf zs)) w := by
  rcases own_range h.1 with ⟨rfl, h0, _⟩ | ⟨g, cap, rfl, _, _, _, _, hr⟩
  · have : zs = [] := List.eq_nil_of_length_eq_zero h0
    subst this
    exact nil_str w
  · exact row_str hr
theorem wr_new (w : World) : WrAt (w.alloc (.cells #[.slice none 0 0, .bool false] 61)) w.heap.size (.slice none 0 0) [] false where
  lt := by simp
  c0 := by have := range_new w #[.slice none 0 0, .bool false] 61 0 _ rfl; exact this
  c1 := by have := range_new w #[.slice none 0 0, .bool false] 61 1 _ rfl; exact this
  th := there_new w #[.slice none 0 0, .bool false] 61
  me := ⟨World.ownsRow_nil _ _ _ _, by simp⟩
/-- what Encode tells of a message that may be, or not, whose bytes are zs -/
def encV (b : Bool) (zs : List Int) : Value := if b then .tuple #[.string (strOf zs), .int .i64 0] else .tuple #[.string ⟨#[]⟩, .int .i64 130]
/-- a message's bytes are written -/
def Writes (q : List Value) (zs : List Int) : Prop := ∀ (X : Nat) (w : World), WrAt w X (.slice none 0 0) [] false → Calls Tryz.prog 17 #[.pointer (some ⟨X, 0, none⟩), .agg q.toArray] w fun e w' => ∃ v', e = .returned (.tuple #[]) ∧ WrAt w' X v' zs false ∧ Off (WrF X (.slice none 0 0)) w w' ∧ RowOn w (.slice none 0 0) v'
set_option maxRecDepth 100000 in
set_option maxHeartbeats 4000000 in
theorem enc0 (q : List Value) (b : Bool) (zs : List Int) (w : World) (hq : q.length = 119)
    (hg : ∀ w, Calls Tryz.prog 9 #[.agg q.toArray] w fun e w' => e = .returned (.bool b) ∧ Below w.heap.size w w') (hw : b = true → Writes q zs) :
    Calls Tryz.prog 7 #[.agg q.toArray] w fun e w' => e = .returned (encV b zs) ∧ Below w.heap.size w w' := by
  have hB : Below w.heap.size w (w.alloc (.cells q.toArray 37)) := (Below.refl _ _).alloc (Nat.le_refl _) _
  have hs : w.heap.size < (w.alloc (.cells q.toArray 37)).heap.size := by simp
  have hA : (w.alloc (.cells q.toArray 37)).rangeAt w.heap.size 0 q := by simpa using range_new w q.toArray 37
  have iq : (Tryz.prog.info? 37).map (·.size) = some q.length := by rw [hq]; exact iszM
  clear hq
  cases b
  · show Calls Tryz.prog 7 #[.agg q.toArray] w fun e w' => e = .returned (.tuple #[.string ⟨#[]⟩, .int .i64 130]) ∧ Below w.heap.size w w'
    clear hw
    go_enter Tryz.func7, Tryz.ntmps7
    go_upto_region 1 with fail
    go_name_world w1 hw1
    rw [show w.alloc (.cells q.toArray 37) = w1 from hw1] at hB hs hA
    clear hw1
    go_wp2_with (refine wpList_load_mid rfl 37 _ rfl _ _ rfl q _ hA Tryz.underlying37 rfl iq ?_)
    refine (hg _).mono ?_
    rintro e2 w2 ⟨rfl, hb2⟩
    have hB2 := hB.trans (hb2.mono (by omega))
    clear hA hg hB hb2
    go_wp2
    go_ret2
    exact ⟨rfl, hB2⟩
  · show Calls Tryz.prog 7 #[.agg q.toArray] w fun e w' => e = .returned (.tuple #[.string (strOf zs), .int .i64 0]) ∧ Below w.heap.size w w'
    replace hw := hw rfl
    obtain ⟨sz, hsz⟩ : ∃ sz, Hid (strOf zs = sz) := ⟨_, hide rfl⟩
    rw [hsz.out]
    go_enter Tryz.func7, Tryz.ntmps7
    go_upto_region 1 with fail
    go_name_world w1 hw1
    rw [show w.alloc (.cells q.toArray 37) = w1 from hw1] at hB hs hA
    clear hw1
    go_wp2_with (refine wpList_load_mid rfl 37 _ rfl _ _ rfl q _ hA Tryz.underlying37 rfl iq ?_)
    refine (hg _).mono ?_
    rintro e2 w2 ⟨rfl, hb2⟩
    have hB2 := hB.trans (hb2.mono (by omega))
    have hA2 := range_below hA hb2 hs
    have hs2 := Nat.lt_of_lt_of_le hs hb2.size
    clear hA hg hB hb2 hs
    go_upto_region 4 with fail
    have hN := wr_new w2
    have hB3 : Below w2.heap.size w2 (w2.alloc (.cells #[.slice none 0 0, .bool false] 61)) := (Below.refl _ _).alloc (Nat.le_refl _) _
    go_name_world w3 hw3
    rw [show w2.alloc (.cells #[.slice none 0 0, .bool false] 61) = w3 from hw3] at hN hB3
    clear hw3
    have hA3 := range_below hA2 hB3 hs2
    have hB4 := hB2.trans (hB3.mono (by omega))
    have cw := hw w2.heap.size w3 hN
    have hs3 := hN.lt
    clear hA2 hB2 hB3 hw hN
    go_wp2_with (refine wpList_load_mid rfl 37 _ rfl _ _ rfl q _ hA3 Tryz.underlying37 rfl iq ?_)
    refine cw.mono ?_
    rintro e5 w5 ⟨v5, rfl, hW5, hO5, _⟩
    have c0 := hW5.c0
    have c1 := hW5.c1
    have hcs := mine_str hW5.me
    have hB5 := hB4.trans (hO5.below (n := w.heap.size) (by omega) (fun b hb hf => by
      rcases hf with hf | hf
      · omega
      · cases hf))
    obtain ⟨a5, cap5, rfl⟩ : ∃ a cap, v5 = .slice a zs.length cap := by
      rcases own_range hW5.me.1 with ⟨rfl, h0, _⟩ | ⟨g, cap, rfl, _⟩
      · exact ⟨none, 0, by rw [h0]⟩
      · exact ⟨_, cap, rfl⟩
    rw [hsz.out] at hcs
    clear hsz cw hW5 hO5 hA3 hB4
    go_wp2
    go_ret2
    exact ⟨rfl, hB5⟩
end Go.Proofs.YtgjalkbianpibaaGreat
namespace Go.Proofs.YtgjalkbianpibaaGreat
open Go.RowKit
open Sha Tal
theorem wrS_ok {zs bs : List Int} (h : zs.length + bs.length ≤ 4194304) : wrS (zs, false) bs = (zs ++ bs, false) := by
  have e : fullB false bs.length zs = false := by
    unfold fullB
    rw [Bool.false_or]
    exact decide_eq_false (by omega)
  unfold wrS
  simp only [e, wrL_f]
theorem putL_len {n : Int} (h : n ≤ 9223372036854775807) : (putL n).length ≤ 9 := putL_length n (by omega)
theorem wrN1 {zs : List Int} {a : Int} (ha : a ≤ 9223372036854775807) (hz : zs.length ≤ 1000) : wrN (zs, false) [a] = (zs ++ putL a, false) := by
  have := putL_len ha
  show wrS (zs, false) (putL a) = _
  rw [wrS_ok (by omega)]
theorem wrN2 {zs : List Int} {a b : Int} (ha : a ≤ 9223372036854775807) (hb : b ≤ 9223372036854775807) (hz : zs.length ≤ 1000) : wrN (zs, false) [a, b] = (zs ++ putL a ++ putL b, false) := by
  have h1 := putL_len ha
  have h2 := putL_len hb
  show wrS (wrS (zs, false) (putL a)) (putL b) = _
  rw [wrS_ok (by omega), wrS_ok (by rw [List.length_append]; omega)]
theorem wrN4 {zs : List Int} {a b c d : Int} (ha : a ≤ 9223372036854775807) (hb : b ≤ 9223372036854775807) (hc : c ≤ 9223372036854775807) (hd : d ≤ 9223372036854775807) (hz : zs.length ≤ 1000) : wrN (zs, false) [a, b, c, d] = (zs ++ putL a ++ putL b ++ putL c ++ putL d, false) := by
  have h1 := putL_len ha
  have h2 := putL_len hb
  have h3 := putL_len hc
  have h4 := putL_len hd
  show wrS (wrS (wrS (wrS (zs, false) (putL a)) (putL b)) (putL c)) (putL d) = _
  rw [wrS_ok (by omega), wrS_ok (by rw [List.length_append]; omega), wrS_ok (by simp only [List.length_append]; omega), wrS_ok (by simp only [List.length_append]; omega)]
/-- a vote's bytes; a mark's; a status's -/
def voteL (x : Vt) : List Int := putL 2 ++ putL x.k ++ putL x.e ++ putL x.v ++ putL x.s ++ x.d
def markL (e : Int) (d : List Int) : List Int := putL 5 ++ putL e ++ d
def statL (e s : Int) : List Int := putL 6 ++ putL e ++ putL s
theorem writes2 {x : Vt} (hx : x.ok) : Writes (Ms.plain 2 0 0 x zeros32).cells (voteL x) := fun X w h => by
  have := wmsg2 X (.slice none 0 0) ([], false) (Ms.plain 2 0 0 x zeros32) w (plain_ok2 hx) rfl h (by simp)
  have e : wrS (wrN (wrN ([], false) [2]) [x.k, x.e, x.v, x.s]) x.d = (voteL x, false) := by
    have p := @putL_len 2 (by omega)
    have h1 := putL_len hx.k
    have h2 := putL_len hx.e
    have h3 := putL_len hx.v
    have h4 := putL_len hx.s
    have h5 := hx.dl
    rw [wrN1 (by omega) (by simp), List.nil_append, wrN4 hx.k hx.e hx.v hx.s (by omega), wrS_ok (by simp only [List.length_append]; omega)]
    rfl
  show Calls _ _ _ w _
  have e1 : (wrS (wrN (wrN ([], false) [2]) [(Ms.plain 2 0 0 x zeros32).vt.k, (Ms.plain 2 0 0 x zeros32).vt.e, (Ms.plain 2 0 0 x zeros32).vt.v, (Ms.plain 2 0 0 x zeros32).vt.s]) (Ms.plain 2 0 0 x zeros32).vt.d) = (voteL x, false) := e
  rw [e1] at this
  exact this
theorem writes5 {e : Int} {d : List Int} (he : e ≤ 9223372036854775807) (hd : d.length = 32) (hdb : ∀ z ∈ d, 0 ≤ z ∧ z < 256) : Writes (Ms.plain 5 e 0 Vt.zero d).cells (markL e d) := fun X w h => by
  have := wmsg5 X (.slice none 0 0) ([], false) (Ms.plain 5 e 0 Vt.zero d) w (Ms.plain_ok 5 e 0 Vt.zero_ok hd hdb) rfl he h (by simp)
  have e1 : (wrS (wrN (wrN ([], false) [5]) [(Ms.plain 5 e 0 Vt.zero d).e]) (Ms.plain 5 e 0 Vt.zero d).d) = (markL e d, false) := by
    show wrS (wrN (wrN ([], false) [5]) [e]) d = _
    have p := @putL_len 5 (by omega)
    have h1 := putL_len he
    rw [wrN1 (by omega) (by simp), List.nil_append, wrN1 he (by omega), wrS_ok (by simp only [List.length_append]; omega)]
    rfl
  rw [e1] at this
  exact this
theorem writes6 : Writes (Ms.plain 6 2 9 Vt.zero zeros32).cells (statL 2 9) := fun X w h => by
  have := wmsg6 X (.slice none 0 0) ([], false) (Ms.plain 6 2 9 Vt.zero zeros32) w (Ms.plain_ok 6 2 9 Vt.zero_ok zeros32_len zeros32_byte) rfl (by decide) (by decide) h (by simp)
  have e1 : (wrN (wrN ([], false) [6]) [(Ms.plain 6 2 9 Vt.zero zeros32).e, (Ms.plain 6 2 9 Vt.zero zeros32).s]) = (statL 2 9, false) := by
    show wrN (wrN ([], false) [6]) [2, 9] = _
    have p := @putL_len 6 (by omega)
    rw [wrN1 (by omega) (by simp), List.nil_append, wrN2 (by omega) (by omega) (by omega)]
    rfl
  rw [e1] at this
  exact this
theorem good2 (x : Vt) (hx : x.ok) (w : World) : Calls Tryz.prog 9 #[.agg (Ms.plain 2 0 0 x zeros32).cells.toArray] w fun e w' => e = .returned (.bool x.may) ∧ Below w.heap.size w w' :=
  good0 _ 2 x.may w (plain_ok2 hx).len rfl (by omega) (by omega) (fun w => bare2 x hx w) (fun w => msame0 2 0 0 x zeros32 hx zeros32_len zeros32_byte w) (fun w => fmay2 x hx w)
theorem good5 (e : Int) (d : List Int) (hd : d.length = 32) (hdb : ∀ z ∈ d, 0 ≤ z ∧ z < 256) (w : World) : Calls Tryz.prog 9 #[.agg (Ms.plain 5 e 0 Vt.zero d).cells.toArray] w fun er w' => er = .returned (.bool (inB e 1048576)) ∧ Below w.heap.size w w' :=
  good0 _ 5 _ w (Ms.plain_ok 5 e 0 Vt.zero_ok hd hdb).len rfl (by omega) (by omega) (fun w => bare5 e d hd hdb w) (fun w => msame0 5 e 0 Vt.zero d Vt.zero_ok hd hdb w) (fun w => fmay5 e d hd hdb w)
theorem good6 (w : World) : Calls Tryz.prog 9 #[.agg (Ms.plain 6 2 9 Vt.zero zeros32).cells.toArray] w fun er w' => er = .returned (.bool true) ∧ Below w.heap.size w w' :=
  good0 _ 6 _ w (Ms.plain_ok 6 2 9 Vt.zero_ok zeros32_len zeros32_byte).len rfl (by omega) (by omega) (fun w => bare6 2 9 w) (fun w => msame0 6 2 9 Vt.zero zeros32 Vt.zero_ok zeros32_len zeros32_byte w) (fun w => fmay6 w)
theorem enc2 (x : Vt) (hx : x.ok) (w : World) : Calls Tryz.prog 7 #[.agg (Ms.plain 2 0 0 x zeros32).cells.toArray] w fun e w' => e = .returned (encV x.may (voteL x)) ∧ Below w.heap.size w w' :=
  enc0 _ _ _ w (plain_ok2 hx).len (fun w => good2 x hx w) (fun _ => writes2 hx)
theorem enc5 (e : Int) (d : List Int) (he : e ≤ 9223372036854775807) (hd : d.length = 32) (hdb : ∀ z ∈ d, 0 ≤ z ∧ z < 256) (w : World) : Calls Tryz.prog 7 #[.agg (Ms.plain 5 e 0 Vt.zero d).cells.toArray] w fun er w' => er = .returned (encV (inB e 1048576) (markL e d)) ∧ Below w.heap.size w w' :=
  enc0 _ _ _ w (Ms.plain_ok 5 e 0 Vt.zero_ok hd hdb).len (fun w => good5 e d hd hdb w) (fun _ => writes5 he hd hdb)
theorem enc6 (w : World) : Calls Tryz.prog 7 #[.agg (Ms.plain 6 2 9 Vt.zero zeros32).cells.toArray] w fun er w' => er = .returned (encV true (statL 2 9)) ∧ Below w.heap.size w w' :=
  enc0 _ _ _ w (Ms.plain_ok 6 2 9 Vt.zero_ok zeros32_len zeros32_byte).len (fun w => good6 w) (fun _ => writes6)
/-- a text, or none -/
def optS (b : Bool) (zs : List Int) : ByteArray := if b then strOf zs else ⟨#[]⟩
theorem encV_opt (b : Bool) (zs : List Int) : ∃ n : Int, encV b zs = .tuple #[.string (optS b zs), .int .i64 n] := by
  cases b
  · exact ⟨130, rfl⟩
  · exact ⟨0, rfl⟩
end Go.Proofs.YtgjalkbianpibaaGreat
namespace Go.Proofs.YtgjalkbianpibaaGreat
open Go.RowKit
open Sha Tal
theorem wpList_store_c {P : Program} {ops : Array Oper} {rest : List Oper} {op : Oper} {a : Act} {w : World} {Q : Exit → Act → World → Prop} (hgd : op.guard = none) (ty : TypeId) (x y : Operand) (ho : op.op = .store ty x y)
    (b o : Nat) (v : Value) (hx : a.eval x = .pointer (some ⟨b, o, none⟩)) (hy : a.eval y = v)
    (ht : w.there b o 1) (hi : (P.info? ty).map (·.size) = some 1) (hv : v.cells = #[v]) (h1 : v.oneCell' = true)
    (h : wpList P ops Q rest (a.put op.dst undef) (w.setCells b o [v])) : wpList P ops Q (op :: rest) a w :=
  wpList_plain hgd fun _ hK => by
    unfold Oper.wp execOp
    simp only [ho, hx, hy, Instr.storeAt, Instr.sureAddr, Sem.run_bind, Sem.run_pure, Result.andThen_ok, store_cell w b o ty v ht hi hv h1]
    exact hK _ _ h
set_option maxRecDepth 100000 in
set_option maxHeartbeats 2000000 in
theorem only2 (x : Vt) (hx : x.ok) (w : World) : Calls Tryz.prog 21 #[.agg (Ms.plain 2 0 0 x zeros32).cells.toArray] w (BareOk w (Ms.plain 2 0 0 x zeros32).cells) := by
  have hm : (Ms.plain 2 0 0 x zeros32).ok := Ms.plain_ok 2 0 0 hx zeros32_len zeros32_byte
  have hk : (Ms.plain 2 0 0 Vt.zero zeros32).ok := Ms.plain_ok 2 0 0 Vt.zero_ok zeros32_len zeros32_byte
  have hz0 : Ms.zero.ok := Ms.plain_ok 0 0 0 Vt.zero_ok zeros32_len zeros32_byte
  have lm := hm.len
  have lk := hk.len
  have lz := hz0.len
  have lx := hx.len
  have om := all_oneCell_toArray hm.one
  have ok := all_oneCell_toArray hk.one
  have ox := all_oneCell_toArray x.one
  have hz := zeroM
  have hbk := build_kind 2
  have hat : ∀ (w' : World) b, w'.rangeAt b 0 (Ms.plain 2 0 0 x zeros32).cells → w'.cell? ⟨b, 0, none⟩ = some (.int .i64 2) ∧ w'.rangeAt b 7 x.cells := fun w' b h => ⟨(hm.at h).k, (hm.at h).vt⟩
  have hput : ∀ (w' : World) b, w'.rangeAt b 0 (Ms.plain 2 0 0 Vt.zero zeros32).cells → w'.there b 7 36 → (w'.setCells b 7 x.cells).rangeAt b 0 (Ms.plain 2 0 0 x zeros32).cells := fun w' b h ht => range_put (mid := Vt.zero.cells) h 7 rfl (by rw [lx]; exact ht) (by rw [lx, Vt.zero_ok.len])
  have im : (Tryz.prog.info? 37).map (·.size) = some (Ms.plain 2 0 0 x zeros32).cells.length := by rw [lm]; exact iszM
  have im' : (Tryz.prog.info? 37).map (·.size) = some (Ms.plain 2 0 0 x zeros32).cells.toArray.size := by rw [List.size_toArray, lm]; exact iszM
  have ik' : (Tryz.prog.info? 37).map (·.size) = some (Ms.plain 2 0 0 Vt.zero zeros32).cells.toArray.size := by rw [List.size_toArray, lk]; exact iszM
  have ix : (Tryz.prog.info? 28).map (·.size) = some x.cells.length := by rw [lx]; exact iszV
  have ix' : (Tryz.prog.info? 28).map (·.size) = some x.cells.toArray.size := by rw [List.size_toArray, lx]; exact iszV
  clear hm hk hz0 hx
  generalize (Ms.plain 2 0 0 x zeros32).cells = q at *
  generalize (Ms.plain 2 0 0 Vt.zero zeros32).cells = qk at *
  generalize Ms.zero.cells = z at *
  generalize x.cells = u at *
  obtain ⟨hA, hT, hB, hs⟩ := bare_box q z w lz
  go_enter Tryz.func21, Tryz.ntmps21
  go_upto_region 1 with fail
  go_name_world w1 hw1
  rw [show (w.alloc (.cells q.toArray 37)).alloc (.cells z.toArray 37) = w1 from hw1] at hA hT hB hs
  clear hw1
  have c0 := (hat _ _ hA).1
  obtain ⟨r2, hB2, hs2, hT2⟩ := fresh_store w1 z.toArray 37 qk (by rw [List.size_toArray, lz, lk])
  rw [show z.toArray.size = 119 by simpa using lz] at hT2
  have hTz : (w1.alloc (.cells z.toArray 37)).there w1.heap.size 0 qk.toArray.size := by
    have := there_new w1 z.toArray 37
    rw [show z.toArray.size = 119 by simpa using lz] at this
    rw [show qk.toArray.size = 119 by simpa using lk]
    exact this
  go_upto_region 2 with (first | (refine wpList_build rfl 37 [(0, .tmp 5)] rfl [(0, .int .i64 2)] _ rfl (hbk _) ?_) | refine wpList_store_mid rfl 37 _ _ rfl _ _ qk.toArray rfl rfl hTz ik' ok ?_)
  go_name_world w2 hw2
  rw [show (w1.alloc (.cells z.toArray 37)).setCells w1.heap.size 0 qk = w2 from hw2] at r2 hB2 hs2 hT2
  have hs2' : w1.heap.size < w2.heap.size := by omega
  clear hw2 hs2 hTz
  have hA2 := range_below hA hB2 (by omega)
  have hT1 := there_below hT hB2 (by omega)
  have hBw := hB.trans (hB2.mono (by omega))
  obtain ⟨c2, v2⟩ := hat _ _ hA2
  have hTv : w2.there w1.heap.size 7 u.toArray.size := by
    rw [show u.toArray.size = 36 by simpa using lx]
    have := there_part hT2 7 36 (by omega)
    rwa [Nat.zero_add] at this
  have r3 := hput _ _ r2 (by have := there_part hT2 7 36 (by omega); rwa [Nat.zero_add] at this)
  have hT3 : (w2.setCells w1.heap.size 7 u).there (w.heap.size + 1) 0 q.toArray.size := by
    rw [show q.toArray.size = 119 by simpa using lm]
    exact World.there_setCells hT1 _ _ _
  have hB3 := below_sets (show w.heap.size ≤ w1.heap.size by omega) u 7 _ hBw
  clear hA hT hB hB2 hA2 hT1 hBw c0 r2 hT2
  go_upto_region 28 with (first | (refine wpList_load_mid rfl 28 _ rfl _ _ rfl u _ v2 Tryz.underlying28 rfl ix ?_) | (refine wpList_store_mid rfl 28 _ _ rfl _ _ u.toArray rfl rfl hTv ix' ox ?_))
  go_name_world w3 hw3
  rw [show w2.setCells w1.heap.size 7 u = w3 from hw3] at r3 hT3 hB3
  clear hw3 hTv v2 c2
  have r4 := World.rangeAt_setCells_same w3 (w.heap.size + 1) 0 q (by have := hT3; rwa [List.size_toArray] at this)
  have hB4 := below_sets (show w.heap.size ≤ w.heap.size + 1 by omega) q 0 _ hB3
  have hrs := run_loadVar_mid (P := Tryz.prog) _ (w.heap.size + 1) 0 37 q _ r4 Tryz.underlying37 rfl im
  go_wp2_with (first | (refine wpList_load_mid rfl 37 _ rfl _ _ rfl q _ r3 Tryz.underlying37 rfl im ?_) | (refine wpList_store_mid rfl 37 _ _ rfl _ _ q.toArray rfl rfl hT3 im' om ?_))
  exact bodyPost_ret (v := .agg q.toArray) (by simp [results, Tryz.results21, asAddr, hrs, Act.put]) rfl ⟨rfl, hB4⟩
set_option maxRecDepth 100000 in
set_option maxHeartbeats 2000000 in
theorem only5 (e : Int) (d : List Int) (hd : d.length = 32) (hdb : ∀ z ∈ d, 0 ≤ z ∧ z < 256) (w : World) : Calls Tryz.prog 21 #[.agg (Ms.plain 5 e 0 Vt.zero d).cells.toArray] w (BareOk w (Ms.plain 5 e 0 Vt.zero d).cells) := by
  have hm : (Ms.plain 5 e 0 Vt.zero d).ok := Ms.plain_ok 5 e 0 Vt.zero_ok hd hdb
  have hk : (Ms.plain 5 0 0 Vt.zero zeros32).ok := Ms.plain_ok 5 0 0 Vt.zero_ok zeros32_len zeros32_byte
  have hz0 : Ms.zero.ok := Ms.plain_ok 0 0 0 Vt.zero_ok zeros32_len zeros32_byte
  have lm := hm.len
  have lk := hk.len
  have lz := hz0.len
  have om := all_oneCell_toArray hm.one
  have ok := all_oneCell_toArray hk.one
  have hz := zeroM
  have hbk := build_kind 5
  have hat : ∀ (w' : World) b, w'.rangeAt b 0 (Ms.plain 5 e 0 Vt.zero d).cells → w'.cell? ⟨b, 0, none⟩ = some (.int .i64 5) ∧ w'.cell? ⟨b, 1, none⟩ = some (.int .i64 e) ∧ w'.rangeAt b 48 (v8 d) := fun w' b h => ⟨(hm.at h).k, (hm.at h).e, (hm.at h).d⟩
  have ld : (v8 d).length = 32 := by rw [v8_length, hd]
  have od := all_oneCell_toArray (v8_one d)
  have hput : ∀ (w' : World) b, w'.rangeAt b 0 (Ms.plain 5 0 0 Vt.zero zeros32).cells → w'.there b 0 119 → ((w'.setCells b 1 [.int .i64 e]).setCells b 48 (v8 d)).rangeAt b 0 (Ms.plain 5 e 0 Vt.zero d).cells := fun w' b h ht => by
    have h1 := range_put (pre := [Value.int .i64 5]) (mid := [Value.int .i64 0]) (vs := [Value.int .i64 e]) h 1 rfl (by have := there_part ht 1 1 (by omega); rwa [Nat.zero_add] at this) rfl
    exact range_put (pre := [Value.int .i64 5, .int .i64 e, .int .i64 0, .int .i64 0, .int .i64 0, .bool false, .slice none 0 0] ++ (Vt.zero.cells ++ [Value.int .i64 0, .int .i64 0, .int .i64 0, .slice none 0 0, .slice none 0 0])) (mid := v8 zeros32) (vs := v8 d) (post := Vt.zero.cells ++ [Value.slice none 0 0, .string ⟨#[]⟩, .slice none 0 0]) h1 48 rfl (by rw [ld]; have := there_part (World.there_setCells ht b 1 [Value.int .i64 e]) 48 32 (by omega); rwa [Nat.zero_add] at this) (by rw [ld]; rfl)
  have im : (Tryz.prog.info? 37).map (·.size) = some (Ms.plain 5 e 0 Vt.zero d).cells.length := by rw [lm]; exact iszM
  have im' : (Tryz.prog.info? 37).map (·.size) = some (Ms.plain 5 e 0 Vt.zero d).cells.toArray.size := by rw [List.size_toArray, lm]; exact iszM
  have ik' : (Tryz.prog.info? 37).map (·.size) = some (Ms.plain 5 0 0 Vt.zero zeros32).cells.toArray.size := by rw [List.size_toArray, lk]; exact iszM
  have id : (Tryz.prog.info? 26).map (·.size) = some (v8 d).length := by rw [ld]; exact iszD
  have id' : (Tryz.prog.info? 26).map (·.size) = some (v8 d).toArray.size := by rw [List.size_toArray, ld]; exact iszD
  clear hm hk hz0
  generalize (Ms.plain 5 e 0 Vt.zero d).cells = q at *
  generalize (Ms.plain 5 0 0 Vt.zero zeros32).cells = qk at *
  generalize Ms.zero.cells = z at *
  clear hd hdb
  generalize v8 d = u at *
  obtain ⟨hA, hT, hB, hs⟩ := bare_box q z w lz
  go_enter Tryz.func21, Tryz.ntmps21
  go_upto_region 1 with fail
  go_name_world w1 hw1
  rw [show (w.alloc (.cells q.toArray 37)).alloc (.cells z.toArray 37) = w1 from hw1] at hA hT hB hs
  clear hw1
  have c0 := (hat _ _ hA).1
  obtain ⟨r2, hB2, hs2, hT2⟩ := fresh_store w1 z.toArray 37 qk (by rw [List.size_toArray, lz, lk])
  rw [show z.toArray.size = 119 by simpa using lz] at hT2
  have hTz : (w1.alloc (.cells z.toArray 37)).there w1.heap.size 0 qk.toArray.size := by
    have := there_new w1 z.toArray 37
    rw [show z.toArray.size = 119 by simpa using lz] at this
    rw [show qk.toArray.size = 119 by simpa using lk]
    exact this
  go_upto_region 2 with (first | (refine wpList_build rfl 37 [(0, .tmp 5)] rfl [(0, .int .i64 5)] _ rfl (hbk _) ?_) | refine wpList_store_mid rfl 37 _ _ rfl _ _ qk.toArray rfl rfl hTz ik' ok ?_)
  go_name_world w2 hw2
  rw [show (w1.alloc (.cells z.toArray 37)).setCells w1.heap.size 0 qk = w2 from hw2] at r2 hB2 hs2 hT2
  have hs2' : w1.heap.size < w2.heap.size := by omega
  clear hw2 hs2 hTz
  have hA2 := range_below hA hB2 (by omega)
  have hT1 := there_below hT hB2 (by omega)
  have hBw := hB.trans (hB2.mono (by omega))
  have c2 := (hat _ _ hA2).1
  clear hA hT hB hB2 c0
  have hT6 : w2.there w1.heap.size 1 1 := by have := there_part hT2 1 1 (by omega); rwa [Nat.zero_add] at this
  have hA6 : (w2.setCells w1.heap.size 1 [.int .i64 e]).rangeAt w.heap.size 0 q := World.rangeAt_setCells_apart hA2 _ _ _ (.inl (by omega))
  have hT7 : (w2.setCells w1.heap.size 1 [.int .i64 e]).there w1.heap.size 48 u.toArray.size := by
    rw [show u.toArray.size = 32 by simpa using ld]
    have := there_part (World.there_setCells hT2 w1.heap.size 1 [Value.int .i64 e]) 48 32 (by omega)
    rwa [Nat.zero_add] at this
  have r3 := hput _ _ r2 hT2
  have hT3 : ((w2.setCells w1.heap.size 1 [.int .i64 e]).setCells w1.heap.size 48 u).there (w.heap.size + 1) 0 q.toArray.size := by
    rw [show q.toArray.size = 119 by simpa using lm]
    exact World.there_setCells (World.there_setCells hT1 _ _ _) _ _ _
  have hB3 := below_sets (show w.heap.size ≤ w1.heap.size by omega) u 48 _ (below_sets (show w.heap.size ≤ w1.heap.size by omega) [.int .i64 e] 1 _ hBw)
  have ce := (hat _ _ hA2).2.1
  clear hA2 r2 hT2 hT1 hBw
  go_upto_region 18 with (refine wpList_store_c rfl 3 _ _ rfl _ _ (.int .i64 e) rfl rfl hT6 iszI rfl rfl ?_)
  go_name_world w4 hw4
  rw [show w2.setCells w1.heap.size 1 [.int .i64 e] = w4 from hw4] at hA6 hT7 r3 hT3 hB3
  clear hw4 hT6 c2 ce
  have rd := (hat _ _ hA6).2.2
  clear hA6
  go_upto_region 28 with (first | (refine wpList_load_mid rfl 26 _ rfl _ _ rfl u _ rd Tryz.underlying26 rfl id ?_) | (refine wpList_store_mid rfl 26 _ _ rfl _ _ u.toArray rfl rfl hT7 id' od ?_))
  go_name_world w3 hw3
  rw [show w4.setCells w1.heap.size 48 u = w3 from hw3] at r3 hT3 hB3
  clear hw3 hT7 rd
  have r4 := World.rangeAt_setCells_same w3 (w.heap.size + 1) 0 q (by have := hT3; rwa [List.size_toArray] at this)
  have hB4 := below_sets (show w.heap.size ≤ w.heap.size + 1 by omega) q 0 _ hB3
  have hrs := run_loadVar_mid (P := Tryz.prog) _ (w.heap.size + 1) 0 37 q _ r4 Tryz.underlying37 rfl im
  go_wp2_with (first | (refine wpList_load_mid rfl 37 _ rfl _ _ rfl q _ r3 Tryz.underlying37 rfl im ?_) | (refine wpList_store_mid rfl 37 _ _ rfl _ _ q.toArray rfl rfl hT3 im' om ?_))
  exact bodyPost_ret (v := .agg q.toArray) (by simp [results, Tryz.results21, asAddr, hrs, Act.put]) rfl ⟨rfl, hB4⟩
end Go.Proofs.YtgjalkbianpibaaGreat
namespace Go.Proofs.YtgjalkbianpibaaGreat
open Go.RowKit
open Sha Tal
set_option maxRecDepth 100000 in
set_option maxHeartbeats 4000000 in
theorem xgood2 (x : Vt) (hx : x.ok) (w : World) : Calls Tryz.prog 10 #[.agg (Ms.plain 2 0 0 x zeros32).cells.toArray] w fun er w' => er = .returned (.bool x.may) ∧ Below w.heap.size w w' := by
  have hm : (Ms.plain 2 0 0 x zeros32).ok := plain_ok2 hx
  have hB : Below w.heap.size w (w.alloc (.cells (Ms.plain 2 0 0 x zeros32).cells.toArray 37)) := (Below.refl _ _).alloc (Nat.le_refl _) _
  have hs : w.heap.size < (w.alloc (.cells (Ms.plain 2 0 0 x zeros32).cells.toArray 37)).heap.size := by simp
  have hA : (w.alloc (.cells (Ms.plain 2 0 0 x zeros32).cells.toArray 37)).rangeAt w.heap.size 0 (Ms.plain 2 0 0 x zeros32).cells := by simpa using range_new w (Ms.plain 2 0 0 x zeros32).cells.toArray 37
  have iq : (Tryz.prog.info? 37).map (·.size) = some (Ms.plain 2 0 0 x zeros32).cells.length := by rw [hm.len]; exact iszM
  have hon := fun w0 => only2 x hx w0
  have hsm := fun w0 => xsame0 2 0 0 x zeros32 hx zeros32_len zeros32_byte w0
  obtain ⟨W, hW⟩ : ∃ W, Hid (w.alloc (.cells (Ms.plain 2 0 0 x zeros32).cells.toArray 37) = W) := ⟨_, hide rfl⟩
  rw [hW.out] at hB hs hA
  have M := hm.at hA
  have cK : W.cell? ⟨w.heap.size, 0, none⟩ = some (.int .i64 2) := M.k
  have cE : W.cell? ⟨w.heap.size, 1, none⟩ = some (.int .i64 0) := M.e
  have cL : W.cell? ⟨w.heap.size, 2, none⟩ = some (.int .i64 0) := M.l
  have cV : W.cell? ⟨w.heap.size, 3, none⟩ = some (.int .i64 0) := M.v
  have cS : W.cell? ⟨w.heap.size, 4, none⟩ = some (.int .i64 0) := M.s
  have cQ : W.cell? ⟨w.heap.size, 5, none⟩ = some (.bool false) := M.q
  have cR : W.cell? ⟨w.heap.size, 6, none⟩ = some (.slice none 0 0) := M.rs
  have c1 : W.cell? ⟨w.heap.size, 43, none⟩ = some (.int .i64 0) := M.ce
  have c2 : W.cell? ⟨w.heap.size, 44, none⟩ = some (.int .i64 0) := M.cl
  have c3 : W.cell? ⟨w.heap.size, 45, none⟩ = some (.int .i64 0) := M.cv
  have cH : W.cell? ⟨w.heap.size, 46, none⟩ = some (.slice none 0 0) := M.he
  have cN : W.cell? ⟨w.heap.size, 47, none⟩ = some (.slice none 0 0) := M.ne
  have cT : W.cell? ⟨w.heap.size, 117, none⟩ = some (.string ⟨#[]⟩) := M.st
  have cG : W.cell? ⟨w.heap.size, 118, none⟩ = some (.slice none 0 0) := M.sg
  have rV : W.rangeAt w.heap.size 7 x.cells := M.vt
  have ix : (Tryz.prog.info? 28).map (·.size) = some x.cells.length := by rw [hx.len]; exact iszV
  have cv := fun w0 => xvote_any x w0
  generalize x.may = b at *
  have i1 : inB 0 1048576 = true := rfl
  have i2 : inB 0 64 = true := rfl
  have i3 : inB 0 1099511627776 = true := rfl
  clear hm M hx
  generalize (Ms.plain 2 0 0 x zeros32).cells = q at *
  go_enter Tryz.func10, Tryz.ntmps10
  go_upto_region 1 with fail
  rw [show w.alloc (.cells q.toArray 37) = W from hW.out]
  clear hW
  obtain ⟨w8, hw8⟩ : ∃ w8, W.drew = w8 := ⟨_, rfl⟩
  have hB8 : Below w.heap.size w w8 := by rw [← hw8]; exact hB.drew
  have hA8 : w8.rangeAt w.heap.size 0 q := by rw [← hw8]; exact (World.rangeAt_drew _ _ _ _).2 hA
  have hs8 : w.heap.size < w8.heap.size := by rw [← hw8]; exact hs
  have dr : ∀ i v, W.cell? ⟨w.heap.size, i, none⟩ = some v → w8.cell? ⟨w.heap.size, i, none⟩ = some v := fun i v h => by rw [← hw8]; exact h
  replace cK := dr _ _ cK
  replace cE := dr _ _ cE
  replace cL := dr _ _ cL
  replace cV := dr _ _ cV
  replace cS := dr _ _ cS
  replace cQ := dr _ _ cQ
  replace cR := dr _ _ cR
  replace c1 := dr _ _ c1
  replace c2 := dr _ _ c2
  replace c3 := dr _ _ c3
  replace cH := dr _ _ cH
  replace cN := dr _ _ cN
  replace cT := dr _ _ cT
  replace cG := dr _ _ cG
  replace rV : w8.rangeAt w.heap.size 7 x.cells := by rw [← hw8]; exact (World.rangeAt_drew _ _ _ _).2 rV
  refine hs_begin (S := (Below w8.heap.size w8)) 15 rfl (by kernel_rfl) ?_
  rw [hw8]
  clear hw8 hA hB hs dr
  have hS : (Below w8.heap.size w8) w8 := Below.refl _ _
  refine hs_take (i := 0) (d := some 5) (v := ?_) rfl (by kernel_rfl) (by kernel_rfl) (by kernel_rfl) (by rfl) ?_ hS rfl ?_
  rotate_left
  · intro w' hw
    go_simp
    try with_reducible rfl
  simp only [Act.put, List.setIfInBounds_toArray, List.set_cons_zero, List.set_cons_succ]
  refine hs_take (i := 1) (d := some 6) (v := ?_) rfl (by kernel_rfl) (by kernel_rfl) (by kernel_rfl) (by rfl) ?_ hS rfl ?_
  rotate_left
  · intro w' hw
    have := (hw.cell (p := ⟨w.heap.size, 0, none⟩) hs8).trans cK
    go_simp
    try with_reducible rfl
  simp only [Act.put, List.setIfInBounds_toArray, List.set_cons_zero, List.set_cons_succ]
  refine hs_take (i := 2) (d := some 7) (v := ?_) rfl (by kernel_rfl) (by kernel_rfl) (by kernel_rfl) (by rfl) ?_ hS rfl ?_
  rotate_left
  · intro w' hw
    go_simp
    try with_reducible rfl
  simp only [Act.put, List.setIfInBounds_toArray, List.set_cons_zero, List.set_cons_succ]
  refine hs_take (i := 3) (d := some 8) (v := ?_) rfl (by kernel_rfl) (by kernel_rfl) (by kernel_rfl) (by rfl) ?_ hS rfl ?_
  rotate_left
  · intro w' hw
    go_simp
    try with_reducible rfl
  simp only [Act.put, List.setIfInBounds_toArray, List.set_cons_zero, List.set_cons_succ]
  refine hs_take (i := 4) (d := some 9) (v := ?_) rfl (by kernel_rfl) (by kernel_rfl) (by kernel_rfl) (by rfl) ?_ hS rfl ?_
  rotate_left
  · intro w' hw
    go_simp
    try with_reducible rfl
  simp only [Act.put, List.setIfInBounds_toArray, List.set_cons_zero, List.set_cons_succ]
  refine hs_take (i := 5) (d := some 10) (v := ?_) rfl (by kernel_rfl) (by kernel_rfl) (by kernel_rfl) (by rfl) ?_ hS rfl ?_
  rotate_left
  · intro w' hw
    have := (hw.cell (p := ⟨w.heap.size, 0, none⟩) hs8).trans cK
    go_simp
    try with_reducible rfl
  simp only [Act.put, List.setIfInBounds_toArray, List.set_cons_zero, List.set_cons_succ]
  refine hs_take (i := 6) (d := some 11) (v := ?_) rfl (by kernel_rfl) (by kernel_rfl) (by kernel_rfl) (by rfl) ?_ hS rfl ?_
  rotate_left
  · intro w' hw
    go_simp
    try with_reducible rfl
  simp only [Act.put, List.setIfInBounds_toArray, List.set_cons_zero, List.set_cons_succ]
  refine hs_take (i := 7) (d := some 12) (v := ?_) rfl (by kernel_rfl) (by kernel_rfl) (by kernel_rfl) (by rfl) ?_ hS rfl ?_
  rotate_left
  · intro w' hw
    go_simp
    try with_reducible rfl
  simp only [Act.put, List.setIfInBounds_toArray, List.set_cons_zero, List.set_cons_succ]
  refine hs_take (i := 8) (d := some 13) (v := ?_) rfl (by kernel_rfl) (by kernel_rfl) (by kernel_rfl) (by rfl) ?_ hS rfl ?_
  rotate_left
  · intro w' hw
    go_simp
    try with_reducible rfl
  simp only [Act.put, List.setIfInBounds_toArray, List.set_cons_zero, List.set_cons_succ]
  refine hs_take (i := 9) (d := some 14) (v := .agg q.toArray) rfl (by kernel_rfl) (by kernel_rfl) (by kernel_rfl) (by rfl) (fun w' hw => exec_loadC rfl rfl (run_loadVar_mid (P := Tryz.prog) w' w.heap.size 0 37 q _ (range_below hA8 hw hs8) Tryz.underlying37 rfl iq)) hS rfl ?_
  simp only [Act.put, List.setIfInBounds_toArray, List.set_cons_zero, List.set_cons_succ]
  refine hs_take (i := 10) (d := some 15) (v := .agg q.toArray) rfl (by kernel_rfl) (by kernel_rfl) (by kernel_rfl) (by rfl) (fun w' hw => exec_loadC rfl rfl (run_loadVar_mid (P := Tryz.prog) w' w.heap.size 0 37 q _ (range_below hA8 hw hs8) Tryz.underlying37 rfl iq)) hS rfl ?_
  simp only [Act.put, List.setIfInBounds_toArray, List.set_cons_zero, List.set_cons_succ]
  refine hs_call (i := 11) (d := some 16) rfl (by kernel_rfl) (by rfl) (by go_simp; first | done | exact ⟨rfl, rfl⟩ | with_reducible rfl) rfl ?_
  refine (hon _).mono ?_
  rintro e' wn1 ⟨rfl, hb1⟩
  have hS : (Below w8.heap.size w8) wn1 := hS.trans (hb1.mono hS.size)
  refine ⟨_, rfl, hS, ?_⟩
  simp only [Act.put, List.setIfInBounds_toArray, List.set_cons_zero, List.set_cons_succ]
  refine hs_call (i := 12) (d := some 17) rfl (by kernel_rfl) (by rfl) (by go_simp; first | done | exact ⟨rfl, rfl⟩ | with_reducible rfl) rfl ?_
  refine (hsm _).mono ?_
  rintro e' wn2 ⟨rfl, hb2⟩
  have hS : (Below w8.heap.size w8) wn2 := hS.trans (hb2.mono hS.size)
  refine ⟨_, rfl, hS, ?_⟩
  simp only [Act.put, List.setIfInBounds_toArray, List.set_cons_zero, List.set_cons_succ]
  refine hs_take (i := 13) (d := some 18) (v := ?_) rfl (by kernel_rfl) (by kernel_rfl) (by kernel_rfl) (by rfl) ?_ hS rfl ?_
  rotate_left
  · intro w' hw
    go_simp
    try with_reducible rfl
  simp only [Act.put, List.setIfInBounds_toArray, List.set_cons_zero, List.set_cons_succ]
  refine hs_take (i := 14) (d := some 19) (v := ?_) rfl (by kernel_rfl) (by kernel_rfl) (by kernel_rfl) (by rfl) ?_ hS rfl ?_
  rotate_left
  · intro w' hw
    go_simp
    try with_reducible rfl
  simp only [Act.put, List.setIfInBounds_toArray, List.set_cons_zero, List.set_cons_succ]
  refine hs_done (by kernel_rfl) ?_
  have up := fun i v (h : w8.cell? ⟨w.heap.size, i, none⟩ = some v) => (hS.cell (p := ⟨w.heap.size, i, none⟩) hs8).trans h
  replace cK := up _ _ cK
  replace cE := up _ _ cE
  replace cL := up _ _ cL
  replace cV := up _ _ cV
  replace cS := up _ _ cS
  replace cQ := up _ _ cQ
  replace cR := up _ _ cR
  replace c1 := up _ _ c1
  replace c2 := up _ _ c2
  replace c3 := up _ _ c3
  replace cH := up _ _ cH
  replace cN := up _ _ cN
  replace cT := up _ _ cT
  replace cG := up _ _ cG
  replace rV := range_below rV hS hs8
  clear up
  have hsn := Nat.lt_of_lt_of_le hs8 hS.size
  have hBn := hB8.trans (hS.mono (by omega))
  clear hA8 hS hb1 hb2 hs8 hB8 hon hsm iq
  generalize x.cells = u at *
  go_upto_region 4 with (go_at_call 22; refine (upto_any _ _ _).mono ?_; rintro e1 w1 ⟨rfl, hx⟩; obtain rfl := hx.symm; clear hx; (first | rw [i1] | rw [i2] | rw [i3]))
  obtain ⟨r3, hb3, hz3, _⟩ := fresh_store wn2 #[.int .i64 0, .int .i64 0, .int .i64 0, .slice none 0 0] 31 [.int .i64 0, .int .i64 0, .int .i64 0, .slice none 0 0] rfl
  have hT3 := there_new wn2 #[.int .i64 0, .int .i64 0, .int .i64 0, .slice none 0 0] 31
  go_upto_region 5 with (refine wpList_store_mid rfl 31 _ _ rfl _ _ #[.int .i64 0, .int .i64 0, .int .i64 0, .slice none 0 0] rfl rfl hT3 iszH4 one4 ?_)
  go_name_world w3 hw3
  rw [show (wn2.alloc (.cells #[.int .i64 0, .int .i64 0, .int .i64 0, .slice none 0 0] 31)).setCells wn2.heap.size 0 [.int .i64 0, .int .i64 0, .int .i64 0, .slice none 0 0] = w3 from hw3] at r3 hb3 hz3
  clear hw3 hz3 hT3
  have up := fun i v (h : wn2.cell? ⟨w.heap.size, i, none⟩ = some v) => (hb3.cell (p := ⟨w.heap.size, i, none⟩) hsn).trans h
  replace cK := up _ _ cK
  replace cQ := up _ _ cQ
  replace cR := up _ _ cR
  replace cN := up _ _ cN
  replace cT := up _ _ cT
  replace cG := up _ _ cG
  replace rV := range_below rV hb3 hsn
  clear up
  have hs3 := Nat.lt_of_lt_of_le hsn hb3.size
  have hB3 := hBn.trans (hb3.mono (by omega))
  have d0 := r3 0 _ rfl
  have d1 := r3 1 _ rfl
  have d2 := r3 2 _ rfl
  have d3 := r3 3 _ rfl
  simp only [Nat.zero_add, Nat.add_zero] at d0 d1 d2 d3
  clear r3 hb3 hBn hsn cE cL cV cS c1 c2 c3 cH
  go_upto_region 6 with (first | (go_at_call 22; refine (upto_any _ _ _).mono ?_; rintro e1 w1 ⟨rfl, hx⟩; obtain rfl := hx.symm; clear hx; (first | rw [i1] | rw [i2] | rw [i3])) | (go_at_call 23; refine (xh0 _).mono ?_; rintro e1 w1 ⟨rfl, hx⟩; obtain rfl := hx.symm; clear hx))
  clear d0 d1 d2 d3
  go_wp2_with fail
  refine (plain0 false _).mono ?_
  rintro e4 w4 ⟨rfl, hb4⟩
  have up := fun i v (h : w3.cell? ⟨w.heap.size, i, none⟩ = some v) => (hb4.cell (p := ⟨w.heap.size, i, none⟩) hs3).trans h
  replace cK := up _ _ cK
  replace cN := up _ _ cN
  replace cT := up _ _ cT
  replace cG := up _ _ cG
  replace rV := range_below rV hb4 hs3
  clear up
  have hs4 := Nat.lt_of_lt_of_le hs3 hb4.size
  have hB4 := hB3.trans (hb4.mono (by omega))
  clear hb4 hB3 hs3 cQ cR
  go_upto_region 7 with (first | (go_at_call 25; refine (xn0 _).mono ?_; rintro e1 w1 ⟨rfl, hx⟩; obtain rfl := hx.symm; clear hx) | (go_at_call 26; refine (xg0 _).mono ?_; rintro e1 w1 ⟨rfl, hx⟩; obtain rfl := hx.symm; clear hx))
  clear cN cT cG
  go_wp2_with (refine wpList_load_g (by rfl) 28 _ rfl _ _ rfl u _ rV Tryz.underlying28 rfl ix ?_)
  refine (cv _).mono ?_
  rintro e5 w5 ⟨rfl, hb5⟩
  have hB5 := hB4.trans (hb5.mono (by omega))
  clear rV cv hb5 hB4
  cases b
  all_goals
    go_wp2
    go_ret
    exact ⟨rfl, hB5⟩
set_option maxRecDepth 100000 in
set_option maxHeartbeats 4000000 in
theorem xgood5 (e : Int) (d : List Int) (hd : d.length = 32) (hdb : ∀ z ∈ d, 0 ≤ z ∧ z < 256) (w : World) : Calls Tryz.prog 10 #[.agg (Ms.plain 5 e 0 Vt.zero d).cells.toArray] w fun er w' => er = .returned (.bool (inB e 1048576)) ∧ Below w.heap.size w w' := by
  have hm : (Ms.plain 5 e 0 Vt.zero d).ok := Ms.plain_ok 5 e 0 Vt.zero_ok hd hdb
  have hB : Below w.heap.size w (w.alloc (.cells (Ms.plain 5 e 0 Vt.zero d).cells.toArray 37)) := (Below.refl _ _).alloc (Nat.le_refl _) _
  have hs : w.heap.size < (w.alloc (.cells (Ms.plain 5 e 0 Vt.zero d).cells.toArray 37)).heap.size := by simp
  have hA : (w.alloc (.cells (Ms.plain 5 e 0 Vt.zero d).cells.toArray 37)).rangeAt w.heap.size 0 (Ms.plain 5 e 0 Vt.zero d).cells := by simpa using range_new w (Ms.plain 5 e 0 Vt.zero d).cells.toArray 37
  have iq : (Tryz.prog.info? 37).map (·.size) = some (Ms.plain 5 e 0 Vt.zero d).cells.length := by rw [hm.len]; exact iszM
  have hon := fun w0 => only5 e d hd hdb w0
  have hsm := fun w0 => xsame0 5 e 0 Vt.zero d Vt.zero_ok hd hdb w0
  obtain ⟨W, hW⟩ : ∃ W, Hid (w.alloc (.cells (Ms.plain 5 e 0 Vt.zero d).cells.toArray 37) = W) := ⟨_, hide rfl⟩
  rw [hW.out] at hB hs hA
  have M := hm.at hA
  have cK : W.cell? ⟨w.heap.size, 0, none⟩ = some (.int .i64 5) := M.k
  have cE : W.cell? ⟨w.heap.size, 1, none⟩ = some (.int .i64 e) := M.e
  have cL : W.cell? ⟨w.heap.size, 2, none⟩ = some (.int .i64 0) := M.l
  have cV : W.cell? ⟨w.heap.size, 3, none⟩ = some (.int .i64 0) := M.v
  have cS : W.cell? ⟨w.heap.size, 4, none⟩ = some (.int .i64 0) := M.s
  have cQ : W.cell? ⟨w.heap.size, 5, none⟩ = some (.bool false) := M.q
  have cR : W.cell? ⟨w.heap.size, 6, none⟩ = some (.slice none 0 0) := M.rs
  have c1 : W.cell? ⟨w.heap.size, 43, none⟩ = some (.int .i64 0) := M.ce
  have c2 : W.cell? ⟨w.heap.size, 44, none⟩ = some (.int .i64 0) := M.cl
  have c3 : W.cell? ⟨w.heap.size, 45, none⟩ = some (.int .i64 0) := M.cv
  have cH : W.cell? ⟨w.heap.size, 46, none⟩ = some (.slice none 0 0) := M.he
  have cN : W.cell? ⟨w.heap.size, 47, none⟩ = some (.slice none 0 0) := M.ne
  have cT : W.cell? ⟨w.heap.size, 117, none⟩ = some (.string ⟨#[]⟩) := M.st
  have cG : W.cell? ⟨w.heap.size, 118, none⟩ = some (.slice none 0 0) := M.sg
  have i1 : inB 0 1048576 = true := rfl
  have i2 : inB 0 64 = true := rfl
  have i3 : inB 0 1099511627776 = true := rfl
  cases i4 : inB e 1048576
  · clear hm M hd hdb i1
    generalize (Ms.plain 5 e 0 Vt.zero d).cells = q at *
    go_enter Tryz.func10, Tryz.ntmps10
    go_upto_region 1 with fail
    rw [show w.alloc (.cells q.toArray 37) = W from hW.out]
    clear hW
    obtain ⟨w8, hw8⟩ : ∃ w8, W.drew = w8 := ⟨_, rfl⟩
    have hB8 : Below w.heap.size w w8 := by rw [← hw8]; exact hB.drew
    have hA8 : w8.rangeAt w.heap.size 0 q := by rw [← hw8]; exact (World.rangeAt_drew _ _ _ _).2 hA
    have hs8 : w.heap.size < w8.heap.size := by rw [← hw8]; exact hs
    have dr : ∀ i v, W.cell? ⟨w.heap.size, i, none⟩ = some v → w8.cell? ⟨w.heap.size, i, none⟩ = some v := fun i v h => by rw [← hw8]; exact h
    replace cK := dr _ _ cK
    replace cE := dr _ _ cE
    replace cL := dr _ _ cL
    replace cV := dr _ _ cV
    replace cS := dr _ _ cS
    replace cQ := dr _ _ cQ
    replace cR := dr _ _ cR
    replace c1 := dr _ _ c1
    replace c2 := dr _ _ c2
    replace c3 := dr _ _ c3
    replace cH := dr _ _ cH
    replace cN := dr _ _ cN
    replace cT := dr _ _ cT
    replace cG := dr _ _ cG
    refine hs_begin (S := (Below w8.heap.size w8)) 15 rfl (by kernel_rfl) ?_
    rw [hw8]
    clear hw8 hA hB hs dr
    have hS : (Below w8.heap.size w8) w8 := Below.refl _ _
    refine hs_take (i := 0) (d := some 5) (v := ?_) rfl (by kernel_rfl) (by kernel_rfl) (by kernel_rfl) (by rfl) ?_ hS rfl ?_
    rotate_left
    · intro w' hw
      go_simp
      try with_reducible rfl
    simp only [Act.put, List.setIfInBounds_toArray, List.set_cons_zero, List.set_cons_succ]
    refine hs_take (i := 1) (d := some 6) (v := ?_) rfl (by kernel_rfl) (by kernel_rfl) (by kernel_rfl) (by rfl) ?_ hS rfl ?_
    rotate_left
    · intro w' hw
      have := (hw.cell (p := ⟨w.heap.size, 0, none⟩) hs8).trans cK
      go_simp
      try with_reducible rfl
    simp only [Act.put, List.setIfInBounds_toArray, List.set_cons_zero, List.set_cons_succ]
    refine hs_take (i := 2) (d := some 7) (v := ?_) rfl (by kernel_rfl) (by kernel_rfl) (by kernel_rfl) (by rfl) ?_ hS rfl ?_
    rotate_left
    · intro w' hw
      go_simp
      try with_reducible rfl
    simp only [Act.put, List.setIfInBounds_toArray, List.set_cons_zero, List.set_cons_succ]
    refine hs_take (i := 3) (d := some 8) (v := ?_) rfl (by kernel_rfl) (by kernel_rfl) (by kernel_rfl) (by rfl) ?_ hS rfl ?_
    rotate_left
    · intro w' hw
      go_simp
      try with_reducible rfl
    simp only [Act.put, List.setIfInBounds_toArray, List.set_cons_zero, List.set_cons_succ]
    refine hs_take (i := 4) (d := some 9) (v := ?_) rfl (by kernel_rfl) (by kernel_rfl) (by kernel_rfl) (by rfl) ?_ hS rfl ?_
    rotate_left
    · intro w' hw
      go_simp
      try with_reducible rfl
    simp only [Act.put, List.setIfInBounds_toArray, List.set_cons_zero, List.set_cons_succ]
    refine hs_take (i := 5) (d := some 10) (v := ?_) rfl (by kernel_rfl) (by kernel_rfl) (by kernel_rfl) (by rfl) ?_ hS rfl ?_
    rotate_left
    · intro w' hw
      have := (hw.cell (p := ⟨w.heap.size, 0, none⟩) hs8).trans cK
      go_simp
      try with_reducible rfl
    simp only [Act.put, List.setIfInBounds_toArray, List.set_cons_zero, List.set_cons_succ]
    refine hs_take (i := 6) (d := some 11) (v := ?_) rfl (by kernel_rfl) (by kernel_rfl) (by kernel_rfl) (by rfl) ?_ hS rfl ?_
    rotate_left
    · intro w' hw
      go_simp
      try with_reducible rfl
    simp only [Act.put, List.setIfInBounds_toArray, List.set_cons_zero, List.set_cons_succ]
    refine hs_take (i := 7) (d := some 12) (v := ?_) rfl (by kernel_rfl) (by kernel_rfl) (by kernel_rfl) (by rfl) ?_ hS rfl ?_
    rotate_left
    · intro w' hw
      go_simp
      try with_reducible rfl
    simp only [Act.put, List.setIfInBounds_toArray, List.set_cons_zero, List.set_cons_succ]
    refine hs_take (i := 8) (d := some 13) (v := ?_) rfl (by kernel_rfl) (by kernel_rfl) (by kernel_rfl) (by rfl) ?_ hS rfl ?_
    rotate_left
    · intro w' hw
      go_simp
      try with_reducible rfl
    simp only [Act.put, List.setIfInBounds_toArray, List.set_cons_zero, List.set_cons_succ]
    refine hs_take (i := 9) (d := some 14) (v := .agg q.toArray) rfl (by kernel_rfl) (by kernel_rfl) (by kernel_rfl) (by rfl) (fun w' hw => exec_loadC rfl rfl (run_loadVar_mid (P := Tryz.prog) w' w.heap.size 0 37 q _ (range_below hA8 hw hs8) Tryz.underlying37 rfl iq)) hS rfl ?_
    simp only [Act.put, List.setIfInBounds_toArray, List.set_cons_zero, List.set_cons_succ]
    refine hs_take (i := 10) (d := some 15) (v := .agg q.toArray) rfl (by kernel_rfl) (by kernel_rfl) (by kernel_rfl) (by rfl) (fun w' hw => exec_loadC rfl rfl (run_loadVar_mid (P := Tryz.prog) w' w.heap.size 0 37 q _ (range_below hA8 hw hs8) Tryz.underlying37 rfl iq)) hS rfl ?_
    simp only [Act.put, List.setIfInBounds_toArray, List.set_cons_zero, List.set_cons_succ]
    refine hs_call (i := 11) (d := some 16) rfl (by kernel_rfl) (by rfl) (by go_simp; first | done | exact ⟨rfl, rfl⟩ | with_reducible rfl) rfl ?_
    refine (hon _).mono ?_
    rintro e' wn1 ⟨rfl, hb1⟩
    have hS : (Below w8.heap.size w8) wn1 := hS.trans (hb1.mono hS.size)
    refine ⟨_, rfl, hS, ?_⟩
    simp only [Act.put, List.setIfInBounds_toArray, List.set_cons_zero, List.set_cons_succ]
    refine hs_call (i := 12) (d := some 17) rfl (by kernel_rfl) (by rfl) (by go_simp; first | done | exact ⟨rfl, rfl⟩ | with_reducible rfl) rfl ?_
    refine (hsm _).mono ?_
    rintro e' wn2 ⟨rfl, hb2⟩
    have hS : (Below w8.heap.size w8) wn2 := hS.trans (hb2.mono hS.size)
    refine ⟨_, rfl, hS, ?_⟩
    simp only [Act.put, List.setIfInBounds_toArray, List.set_cons_zero, List.set_cons_succ]
    refine hs_take (i := 13) (d := some 18) (v := ?_) rfl (by kernel_rfl) (by kernel_rfl) (by kernel_rfl) (by rfl) ?_ hS rfl ?_
    rotate_left
    · intro w' hw
      go_simp
      try with_reducible rfl
    simp only [Act.put, List.setIfInBounds_toArray, List.set_cons_zero, List.set_cons_succ]
    refine hs_take (i := 14) (d := some 19) (v := ?_) rfl (by kernel_rfl) (by kernel_rfl) (by kernel_rfl) (by rfl) ?_ hS rfl ?_
    rotate_left
    · intro w' hw
      go_simp
      try with_reducible rfl
    simp only [Act.put, List.setIfInBounds_toArray, List.set_cons_zero, List.set_cons_succ]
    refine hs_done (by kernel_rfl) ?_
    have up := fun i v (h : w8.cell? ⟨w.heap.size, i, none⟩ = some v) => (hS.cell (p := ⟨w.heap.size, i, none⟩) hs8).trans h
    replace cK := up _ _ cK
    replace cE := up _ _ cE
    replace cL := up _ _ cL
    replace cV := up _ _ cV
    replace cS := up _ _ cS
    replace cQ := up _ _ cQ
    replace cR := up _ _ cR
    replace c1 := up _ _ c1
    replace c2 := up _ _ c2
    replace c3 := up _ _ c3
    replace cH := up _ _ cH
    replace cN := up _ _ cN
    replace cT := up _ _ cT
    replace cG := up _ _ cG
    clear up
    have hsn := Nat.lt_of_lt_of_le hs8 hS.size
    have hBn := hB8.trans (hS.mono (by omega))
    clear hA8 hS hb1 hb2 hs8 hB8 hon hsm iq
    go_upto_region 4 with (go_at_call 22; refine (upto_any _ _ _).mono ?_; rintro e1 w1 ⟨rfl, hx⟩; obtain rfl := hx.symm; clear hx; (first | rw [i4]))
    obtain ⟨r3, hb3, hz3, _⟩ := fresh_store wn2 #[.int .i64 0, .int .i64 0, .int .i64 0, .slice none 0 0] 31 [.int .i64 0, .int .i64 0, .int .i64 0, .slice none 0 0] rfl
    have hT3 := there_new wn2 #[.int .i64 0, .int .i64 0, .int .i64 0, .slice none 0 0] 31
    go_upto_region 5 with (refine wpList_store_mid rfl 31 _ _ rfl _ _ #[.int .i64 0, .int .i64 0, .int .i64 0, .slice none 0 0] rfl rfl hT3 iszH4 one4 ?_)
    go_name_world w3 hw3
    rw [show (wn2.alloc (.cells #[.int .i64 0, .int .i64 0, .int .i64 0, .slice none 0 0] 31)).setCells wn2.heap.size 0 [.int .i64 0, .int .i64 0, .int .i64 0, .slice none 0 0] = w3 from hw3] at r3 hb3 hz3
    clear hw3 hz3 hT3
    have up := fun i v (h : wn2.cell? ⟨w.heap.size, i, none⟩ = some v) => (hb3.cell (p := ⟨w.heap.size, i, none⟩) hsn).trans h
    replace cK := up _ _ cK
    clear up
    have hB3 := hBn.trans (hb3.mono (by omega))
    clear r3 hb3 hBn hsn cE cL cV cS c1 c2 c3 cH cQ cR cN cT cG
    go_wp2
    go_ret
    exact ⟨rfl, hB3⟩
  · clear hm M hd hdb
    generalize (Ms.plain 5 e 0 Vt.zero d).cells = q at *
    go_enter Tryz.func10, Tryz.ntmps10
    go_upto_region 1 with fail
    rw [show w.alloc (.cells q.toArray 37) = W from hW.out]
    clear hW
    obtain ⟨w8, hw8⟩ : ∃ w8, W.drew = w8 := ⟨_, rfl⟩
    have hB8 : Below w.heap.size w w8 := by rw [← hw8]; exact hB.drew
    have hA8 : w8.rangeAt w.heap.size 0 q := by rw [← hw8]; exact (World.rangeAt_drew _ _ _ _).2 hA
    have hs8 : w.heap.size < w8.heap.size := by rw [← hw8]; exact hs
    have dr : ∀ i v, W.cell? ⟨w.heap.size, i, none⟩ = some v → w8.cell? ⟨w.heap.size, i, none⟩ = some v := fun i v h => by rw [← hw8]; exact h
    replace cK := dr _ _ cK
    replace cE := dr _ _ cE
    replace cL := dr _ _ cL
    replace cV := dr _ _ cV
    replace cS := dr _ _ cS
    replace cQ := dr _ _ cQ
    replace cR := dr _ _ cR
    replace c1 := dr _ _ c1
    replace c2 := dr _ _ c2
    replace c3 := dr _ _ c3
    replace cH := dr _ _ cH
    replace cN := dr _ _ cN
    replace cT := dr _ _ cT
    replace cG := dr _ _ cG
    refine hs_begin (S := (Below w8.heap.size w8)) 15 rfl (by kernel_rfl) ?_
    rw [hw8]
    clear hw8 hA hB hs dr
    have hS : (Below w8.heap.size w8) w8 := Below.refl _ _
    refine hs_take (i := 0) (d := some 5) (v := ?_) rfl (by kernel_rfl) (by kernel_rfl) (by kernel_rfl) (by rfl) ?_ hS rfl ?_
    rotate_left
    · intro w' hw
      go_simp
      try with_reducible rfl
    simp only [Act.put, List.setIfInBounds_toArray, List.set_cons_zero, List.set_cons_succ]
    refine hs_take (i := 1) (d := some 6) (v := ?_) rfl (by kernel_rfl) (by kernel_rfl) (by kernel_rfl) (by rfl) ?_ hS rfl ?_
    rotate_left
    · intro w' hw
      have := (hw.cell (p := ⟨w.heap.size, 0, none⟩) hs8).trans cK
      go_simp
      try with_reducible rfl
    simp only [Act.put, List.setIfInBounds_toArray, List.set_cons_zero, List.set_cons_succ]
    refine hs_take (i := 2) (d := some 7) (v := ?_) rfl (by kernel_rfl) (by kernel_rfl) (by kernel_rfl) (by rfl) ?_ hS rfl ?_
    rotate_left
    · intro w' hw
      go_simp
      try with_reducible rfl
    simp only [Act.put, List.setIfInBounds_toArray, List.set_cons_zero, List.set_cons_succ]
    refine hs_take (i := 3) (d := some 8) (v := ?_) rfl (by kernel_rfl) (by kernel_rfl) (by kernel_rfl) (by rfl) ?_ hS rfl ?_
    rotate_left
    · intro w' hw
      go_simp
      try with_reducible rfl
    simp only [Act.put, List.setIfInBounds_toArray, List.set_cons_zero, List.set_cons_succ]
    refine hs_take (i := 4) (d := some 9) (v := ?_) rfl (by kernel_rfl) (by kernel_rfl) (by kernel_rfl) (by rfl) ?_ hS rfl ?_
    rotate_left
    · intro w' hw
      go_simp
      try with_reducible rfl
    simp only [Act.put, List.setIfInBounds_toArray, List.set_cons_zero, List.set_cons_succ]
    refine hs_take (i := 5) (d := some 10) (v := ?_) rfl (by kernel_rfl) (by kernel_rfl) (by kernel_rfl) (by rfl) ?_ hS rfl ?_
    rotate_left
    · intro w' hw
      have := (hw.cell (p := ⟨w.heap.size, 0, none⟩) hs8).trans cK
      go_simp
      try with_reducible rfl
    simp only [Act.put, List.setIfInBounds_toArray, List.set_cons_zero, List.set_cons_succ]
    refine hs_take (i := 6) (d := some 11) (v := ?_) rfl (by kernel_rfl) (by kernel_rfl) (by kernel_rfl) (by rfl) ?_ hS rfl ?_
    rotate_left
    · intro w' hw
      go_simp
      try with_reducible rfl
    simp only [Act.put, List.setIfInBounds_toArray, List.set_cons_zero, List.set_cons_succ]
    refine hs_take (i := 7) (d := some 12) (v := ?_) rfl (by kernel_rfl) (by kernel_rfl) (by kernel_rfl) (by rfl) ?_ hS rfl ?_
    rotate_left
    · intro w' hw
      go_simp
      try with_reducible rfl
    simp only [Act.put, List.setIfInBounds_toArray, List.set_cons_zero, List.set_cons_succ]
    refine hs_take (i := 8) (d := some 13) (v := ?_) rfl (by kernel_rfl) (by kernel_rfl) (by kernel_rfl) (by rfl) ?_ hS rfl ?_
    rotate_left
    · intro w' hw
      go_simp
      try with_reducible rfl
    simp only [Act.put, List.setIfInBounds_toArray, List.set_cons_zero, List.set_cons_succ]
    refine hs_take (i := 9) (d := some 14) (v := .agg q.toArray) rfl (by kernel_rfl) (by kernel_rfl) (by kernel_rfl) (by rfl) (fun w' hw => exec_loadC rfl rfl (run_loadVar_mid (P := Tryz.prog) w' w.heap.size 0 37 q _ (range_below hA8 hw hs8) Tryz.underlying37 rfl iq)) hS rfl ?_
    simp only [Act.put, List.setIfInBounds_toArray, List.set_cons_zero, List.set_cons_succ]
    refine hs_take (i := 10) (d := some 15) (v := .agg q.toArray) rfl (by kernel_rfl) (by kernel_rfl) (by kernel_rfl) (by rfl) (fun w' hw => exec_loadC rfl rfl (run_loadVar_mid (P := Tryz.prog) w' w.heap.size 0 37 q _ (range_below hA8 hw hs8) Tryz.underlying37 rfl iq)) hS rfl ?_
    simp only [Act.put, List.setIfInBounds_toArray, List.set_cons_zero, List.set_cons_succ]
    refine hs_call (i := 11) (d := some 16) rfl (by kernel_rfl) (by rfl) (by go_simp; first | done | exact ⟨rfl, rfl⟩ | with_reducible rfl) rfl ?_
    refine (hon _).mono ?_
    rintro e' wn1 ⟨rfl, hb1⟩
    have hS : (Below w8.heap.size w8) wn1 := hS.trans (hb1.mono hS.size)
    refine ⟨_, rfl, hS, ?_⟩
    simp only [Act.put, List.setIfInBounds_toArray, List.set_cons_zero, List.set_cons_succ]
    refine hs_call (i := 12) (d := some 17) rfl (by kernel_rfl) (by rfl) (by go_simp; first | done | exact ⟨rfl, rfl⟩ | with_reducible rfl) rfl ?_
    refine (hsm _).mono ?_
    rintro e' wn2 ⟨rfl, hb2⟩
    have hS : (Below w8.heap.size w8) wn2 := hS.trans (hb2.mono hS.size)
    refine ⟨_, rfl, hS, ?_⟩
    simp only [Act.put, List.setIfInBounds_toArray, List.set_cons_zero, List.set_cons_succ]
    refine hs_take (i := 13) (d := some 18) (v := ?_) rfl (by kernel_rfl) (by kernel_rfl) (by kernel_rfl) (by rfl) ?_ hS rfl ?_
    rotate_left
    · intro w' hw
      go_simp
      try with_reducible rfl
    simp only [Act.put, List.setIfInBounds_toArray, List.set_cons_zero, List.set_cons_succ]
    refine hs_take (i := 14) (d := some 19) (v := ?_) rfl (by kernel_rfl) (by kernel_rfl) (by kernel_rfl) (by rfl) ?_ hS rfl ?_
    rotate_left
    · intro w' hw
      go_simp
      try with_reducible rfl
    simp only [Act.put, List.setIfInBounds_toArray, List.set_cons_zero, List.set_cons_succ]
    refine hs_done (by kernel_rfl) ?_
    have up := fun i v (h : w8.cell? ⟨w.heap.size, i, none⟩ = some v) => (hS.cell (p := ⟨w.heap.size, i, none⟩) hs8).trans h
    replace cK := up _ _ cK
    replace cE := up _ _ cE
    replace cL := up _ _ cL
    replace cV := up _ _ cV
    replace cS := up _ _ cS
    replace cQ := up _ _ cQ
    replace cR := up _ _ cR
    replace c1 := up _ _ c1
    replace c2 := up _ _ c2
    replace c3 := up _ _ c3
    replace cH := up _ _ cH
    replace cN := up _ _ cN
    replace cT := up _ _ cT
    replace cG := up _ _ cG
    clear up
    have hsn := Nat.lt_of_lt_of_le hs8 hS.size
    have hBn := hB8.trans (hS.mono (by omega))
    clear hA8 hS hb1 hb2 hs8 hB8 hon hsm iq
    go_upto_region 4 with (go_at_call 22; refine (upto_any _ _ _).mono ?_; rintro e1 w1 ⟨rfl, hx⟩; obtain rfl := hx.symm; clear hx; (first | rw [i4] | rw [i2] | rw [i3]))
    obtain ⟨r3, hb3, hz3, _⟩ := fresh_store wn2 #[.int .i64 0, .int .i64 0, .int .i64 0, .slice none 0 0] 31 [.int .i64 0, .int .i64 0, .int .i64 0, .slice none 0 0] rfl
    have hT3 := there_new wn2 #[.int .i64 0, .int .i64 0, .int .i64 0, .slice none 0 0] 31
    go_upto_region 5 with (refine wpList_store_mid rfl 31 _ _ rfl _ _ #[.int .i64 0, .int .i64 0, .int .i64 0, .slice none 0 0] rfl rfl hT3 iszH4 one4 ?_)
    go_name_world w3 hw3
    rw [show (wn2.alloc (.cells #[.int .i64 0, .int .i64 0, .int .i64 0, .slice none 0 0] 31)).setCells wn2.heap.size 0 [.int .i64 0, .int .i64 0, .int .i64 0, .slice none 0 0] = w3 from hw3] at r3 hb3 hz3
    clear hw3 hz3 hT3
    have up := fun i v (h : wn2.cell? ⟨w.heap.size, i, none⟩ = some v) => (hb3.cell (p := ⟨w.heap.size, i, none⟩) hsn).trans h
    replace cK := up _ _ cK
    replace cQ := up _ _ cQ
    replace cR := up _ _ cR
    replace cN := up _ _ cN
    replace cT := up _ _ cT
    replace cG := up _ _ cG
    clear up
    have hs3 := Nat.lt_of_lt_of_le hsn hb3.size
    have hB3 := hBn.trans (hb3.mono (by omega))
    have d0 := r3 0 _ rfl
    have d1 := r3 1 _ rfl
    have d2 := r3 2 _ rfl
    have d3 := r3 3 _ rfl
    simp only [Nat.zero_add, Nat.add_zero] at d0 d1 d2 d3
    clear r3 hb3 hBn hsn cE cL cV cS c1 c2 c3 cH
    go_upto_region 6 with (first | (go_at_call 22; refine (upto_any _ _ _).mono ?_; rintro e1 w1 ⟨rfl, hx⟩; obtain rfl := hx.symm; clear hx; (first | rw [i1] | rw [i2] | rw [i3])) | (go_at_call 23; refine (xh0 _).mono ?_; rintro e1 w1 ⟨rfl, hx⟩; obtain rfl := hx.symm; clear hx))
    clear d0 d1 d2 d3
    go_wp2_with fail
    refine (plain0 false _).mono ?_
    rintro e4 w4 ⟨rfl, hb4⟩
    have up := fun i v (h : w3.cell? ⟨w.heap.size, i, none⟩ = some v) => (hb4.cell (p := ⟨w.heap.size, i, none⟩) hs3).trans h
    replace cK := up _ _ cK
    replace cN := up _ _ cN
    replace cT := up _ _ cT
    replace cG := up _ _ cG
    clear up
    have hs4 := Nat.lt_of_lt_of_le hs3 hb4.size
    have hB4 := hB3.trans (hb4.mono (by omega))
    clear hb4 hB3 hs3 cQ cR
    go_upto_region 7 with (first | (go_at_call 25; refine (xn0 _).mono ?_; rintro e1 w1 ⟨rfl, hx⟩; obtain rfl := hx.symm; clear hx) | (go_at_call 26; refine (xg0 _).mono ?_; rintro e1 w1 ⟨rfl, hx⟩; obtain rfl := hx.symm; clear hx))
    clear cN cT cG
    go_wp2
    go_ret
    exact ⟨rfl, hB4⟩
end Go.Proofs.YtgjalkbianpibaaGreat
namespace Go.Proofs.YtgjalkbianpibaaGreat
open Go.RowKit
open Sha Tal
def ownF (v : Value) : Nat → Prop := fun b => v.ownBlock = some b
theorem own_trans {v v1 v2 : Value} {w w1 w2 : World} (h : Off (ownF v) w w1) (r : RowOn w v v1) (h' : Off (ownF v1) w1 w2) (r' : RowOn w1 v1 v2) : Off (ownF v) w w2 ∧ RowOn w v v2 := by
  refine ⟨h.trans h' (fun b hb hf => ?_), fun g hg => ?_⟩
  · rcases r b hf with e | e
    · exact e
    · omega
  · rcases r' g hg with e | e
    · exact r g e
    · exact .inr (Nat.le_trans h.size e)
set_option maxRecDepth 100000 in
set_option maxHeartbeats 2000000 in
theorem xdig_any (B : Nat) (v : Value) (zs d : List Int) (w : World) (h : Mine w B v zs) (hB : B ≤ w.heap.size) (hz : zs.length ≤ 10000000) (hd : d.length = 32) (hdb : ∀ z ∈ d, 0 ≤ z ∧ z < 256) :
    Calls Tryz.prog 64 #[v, .agg (v8 d).toArray] w fun e w' => ∃ v', e = .returned v' ∧ Mine w' B v' (zs ++ d) ∧ Off (ownF v) w w' ∧ RowOn w v v' := by
  obtain ⟨i0, hi, hz0, hz1, hz2⟩ := info_parts info8
  have hB1 : Below w.heap.size w (w.alloc (.cells (v8 d).toArray 26)) := (Below.refl _ _).alloc (Nat.le_refl _) _
  have hR1 := box_range w d 26
  have hs1 : w.heap.size < (w.alloc (.cells (v8 d).toArray 26)).heap.size := by simp
  have hown := h.from
  have h1 := h.below hB1
  have hO1 : Off (ownF v) w (w.alloc (.cells (v8 d).toArray 26)) := Off.of_below hB1
  obtain ⟨w1, hw1⟩ : ∃ w1, Hid (w.alloc (.cells (v8 d).toArray 26) = w1) := ⟨_, hide rfl⟩
  rw [hw1.out] at hB1 hR1 hs1 h1 hO1
  generalize hu : (v8 d).toArray = u at *
  go_enter Tryz.func64, Tryz.ntmps64
  go_upto_region 1 with fail
  rw [show w.alloc (.cells u 26) = w1 from hw1.out]
  clear hw1 hu h
  go_wp2_with fail
  go_loopw [0, 5] (fun oo iv wr' => ∃ (k : Nat) (o : Value), k ≤ 32 ∧ iv = .int .i64 (k : Int) ∧ o = oo ∧ Hid (Mine wr' B o (zs ++ d.take k) ∧ Off (ownF v) w1 wr' ∧ RowOn w1 v o)) (fun _ iv _ => 32 - (intOf iv).toNat)
  case atStart => exact ⟨0, _, by omega, rfl, rfl, hide ⟨by simpa using h1, Off.refl _ _, fun g hg => .inl hg⟩⟩
  case round =>
    clear h1
    obtain ⟨k, o, hk, rfl, ho, HK⟩ := hrel
    subst ho
    by_cases hlt : k < 32
    · have k1 : (k : Int) < 32 := by omega
      obtain ⟨hM, hO, hRo⟩ := HK.out
      clear HK
      have hrow := range_at hR1 (hO.2 _ hs1 (fun hf => by have := (hown _ hf).2; omega))
      have ck : wr.cell? ⟨w.heap.size, k, none⟩ = some (.int .u8 (d.getD k 0)) := by
        have := hrow k (.int .u8 (d.getD k 0)) (by simp [v8, List.getElem?_eq_getElem (show k < d.length by omega)])
        rwa [Nat.zero_add] at this
      have hzk : 0 ≤ d.getD k 0 ∧ d.getD k 0 < 256 := hdb _ (by simp [List.getElem?_eq_getElem (show k < d.length by omega)])
      have HT : Hid (d.take (k + 1) = d.take k ++ [d.getD k 0]) := hide (by
        rw [List.take_add_one]; simp [List.getElem?_eq_getElem (show k < d.length by omega), List.getD_eq_getElem?_getD])
      have hlt2 : (d.take k).length = k := by rw [List.length_take]; omega
      obtain ⟨z, hzz⟩ : ∃ z, Hid (d.getD k 0 = z) := ⟨_, hide rfl⟩
      rw [hzz.out] at ck HT hzk
      obtain ⟨ys, hys⟩ : ∃ ys, Hid (zs ++ d.take k = ys) := ⟨_, hide rfl⟩
      have hyl : ys.length ≤ 10000032 := by rw [← hys.out, List.length_append, hlt2]; omega
      rw [hys.out] at hM
      have HY : Hid (zs ++ d.take (k + 1) = ys ++ [z]) := hide (by rw [HT.out, ← List.append_assoc, hys.out])
      have hBr : B ≤ wr.heap.size := by have := hO.size; omega
      clear hzz hys HT hlt2 hrow
      go_wp2_with (at_builtin; refine wpList_append_own_src2 _ rfl _ _ 59 59 rfl B 5 i0 (.int .u8 0) 1 1 Tryz.underlying59 hi hz0 hz1 hz2 rfl _ _ _ rfl (hM.1.alloc _) _ 1 _ rfl (b1_src _ _) ?c1 ?c2 ?c3 ?_)
      case c1 => unfold maxLen; omega
      case c2 => omega
      case c3 => simp; omega
      intro v5 w5 hown5 hgrow5 hon5
      have hM5 : Mine w5 B v5 (ys ++ [z]) := Mine.mk' _ hown5 (by simp) (by simp) (fun x hx => by
        rcases List.mem_append.1 hx with hx | hx
        · exact hM.2 x hx
        · rw [List.mem_singleton.1 hx]; exact hzk)
      have hBA : Below wr.heap.size wr (wr.alloc (.cells #[.int .u8 z] 5)) := (Below.refl _ _).alloc (Nat.le_refl _) _
      have hO5 : Off (ownF o) wr w5 := (Off.of_below (F := ownF o) hBA).trans (Off.of_grown (F := ownF o) hgrow5 (fun k hk => hk)) (fun _ _ q => q)
      have hR5 : RowOn wr o v5 := fun g hg => by
        rcases hon5 g hg with e | e
        · exact .inl e
        · have := hBA.size; exact .inr (by omega)
      have T := own_trans hO hRo hO5 hR5
      have T' := hide (And.intro hM5 T)
      clear hown5 hgrow5 hon5 hM5 hO5 hR5 T hM hO hRo hBA ck
      go_wp2_with fail
      go_roundw
      case rel => exact ⟨k + 1, _, by omega, by go_num, rfl, hide ⟨by rw [HY.out]; exact T'.out.1, T'.out.2.1, T'.out.2.2⟩⟩
      case measure => simp [intOf]; omega
    · obtain rfl : k = 32 := by omega
      obtain ⟨hM, hO, hRo⟩ := HK.out
      clear HK
      go_wp2_with fail
      go_ret
      rw [List.take_of_length_le (by omega)] at hM
      refine ⟨_, rfl, hM, hO1.trans hO (fun _ _ q => q), fun g hg => ?_⟩
      rcases hRo g hg with e | e
      · exact .inl e
      · exact .inr (by omega)
/-- numbers' bytes, one behind the other -/
def numsL (ns : List Int) : List Int := ns.flatMap putL
set_option maxRecDepth 100000 in
set_option maxHeartbeats 2000000 in
theorem xnums_any (a : Option Addr) (cap : Nat) (zs : List Int) (b off cap2 : Nat) (ns : List Int) (w : World) (h : RowAt w a zs) (hz : zs.length ≤ 1000000) (h0 : 0 < ns.length) (hl : ns.length ≤ 10) (hn : ∀ n ∈ ns, n ≤ 9223372036854775807) (hb : b < w.heap.size) (hr : w.rangeAt b off (ns.map (Value.int .i64))) :
    Calls Tryz.prog 59 #[.slice a zs.length cap, .slice (some ⟨b, off, none⟩) ns.length cap2] w fun e w' => ∃ v, e = .returned v ∧ Mine w' w.heap.size v (zs ++ numsL ns) ∧ Below w.heap.size w w' := by
  go_enter Tryz.func59, Tryz.ntmps59
  go_wp2_with fail
  go_loopw [0, 5] (fun o iv wr' => ∃ k : Nat, k ≤ ns.length ∧ iv = .int .i64 (k : Int) ∧ Hid ((∃ a' cap', o = .slice a' (zs ++ numsL (ns.take k)).length cap' ∧ RowAt wr' a' (zs ++ numsL (ns.take k))) ∧ (0 < k → Mine wr' w.heap.size o (zs ++ numsL (ns.take k))) ∧ Below w.heap.size w wr')) (fun _ iv _ => ns.length - (intOf iv).toNat)
  case atStart => exact ⟨0, by omega, rfl, hide ⟨⟨a, cap, by simp [numsL], by simpa [numsL] using h⟩, fun q => absurd q (by omega), Below.refl _ _⟩⟩
  case round =>
    obtain ⟨k, hk, rfl, HK⟩ := hrel
    by_cases hlt : k < ns.length
    · have k1 : (k : Int) < ns.length := by omega
      obtain ⟨⟨a', cap', rfl, hra⟩, _, hBr⟩ := HK.out
      clear HK
      have ck : wr.cell? ⟨b, off + k, none⟩ = some (.int .i64 (ns.getD k 0)) := range_below hr hBr hb k (.int .i64 (ns.getD k 0)) (by simp [List.getElem?_eq_getElem hlt])
      have hnk : ns.getD k 0 ≤ 9223372036854775807 := hn _ (by simp [List.getElem?_eq_getElem hlt])
      have HT : Hid (numsL (ns.take (k + 1)) = numsL (ns.take k) ++ putL (ns.getD k 0)) := hide (by
        have : ns.take (k + 1) = ns.take k ++ [ns.getD k 0] := by
          rw [List.take_add_one]; simp [List.getElem?_eq_getElem hlt, List.getD_eq_getElem?_getD]
        rw [this]; simp [numsL])
      have hll : ∀ j, j ≤ ns.length → (numsL (ns.take j)).length ≤ 9 * j := by
        intro j
        induction j with
        | zero => intro _; simp [numsL]
        | succ j ih =>
          intro hj
          have := ih (by omega)
          have hjl : j < ns.length := by omega
          have e : ns.take (j + 1) = ns.take j ++ [ns.getD j 0] := by
            rw [List.take_add_one]; simp [List.getElem?_eq_getElem hjl, List.getD_eq_getElem?_getD]
          have hp := putL_length (ns.getD j 0) (by have := hn (ns.getD j 0) (by simp [List.getElem?_eq_getElem hjl]); omega)
          rw [e, numsL, List.flatMap_append, List.length_append]
          simp only [List.flatMap_cons, List.flatMap_nil, List.append_nil]
          have q : (List.flatMap putL (ns.take j)).length ≤ 9 * j := this
          omega
      have hyl0 := hll k (by omega)
      obtain ⟨n, hnn⟩ : ∃ n, Hid (ns.getD k 0 = n) := ⟨_, hide rfl⟩
      rw [hnn.out] at ck HT hnk
      obtain ⟨ys, hys⟩ : ∃ ys, Hid (zs ++ numsL (ns.take k) = ys) := ⟨_, hide rfl⟩
      have hyl : ys.length ≤ 1000090 := by rw [← hys.out, List.length_append]; omega
      rw [hys.out] at hra ⊢
      have HY : Hid (zs ++ numsL (ns.take (k + 1)) = ys ++ putL n) := hide (by rw [HT.out, ← List.append_assoc, hys.out])
      have cp := refPut_any a' cap' ys n wr hra (by omega) hnk
      have hpl := putL_length n (by omega)
      clear hnn hys HT hll hyl0
      go_wp2_with fail
      refine cp.mono ?_
      rintro e1 w1 ⟨v1, rfl, hM1, hb1⟩
      obtain ⟨a1, cap1, rfl, _, _, hr1⟩ := hM1.rowAt (by rw [List.length_append]; unfold maxLen; omega)
      have hB1 := hBr.trans (hb1.mono hBr.size)
      have hM1' : Mine w1 w.heap.size (.slice a1 (ys ++ putL n).length cap1) (ys ++ putL n) := by
        refine ⟨?_, hM1.2⟩
        refine ⟨hM1.1.1, ?_⟩
        rcases hM1.1.2 with q | ⟨g, c, cur, q1, q2, q3⟩
        · exact .inl q
        · exact .inr ⟨g, c, cur, q1, Nat.le_trans hBr.size q2, q3⟩
      have T := hide (And.intro hr1 (And.intro hM1' hB1))
      clear cp hM1 hr1 hM1' hB1 hb1 hra ck
      go_wp2_with fail
      go_roundw
      case rel => exact ⟨k + 1, by omega, by go_num, hide ⟨⟨a1, cap1, by rw [HY.out, List.length_append], by rw [HY.out]; exact T.out.1⟩, fun _ => by rw [HY.out]; have := T.out.2.1; rwa [List.length_append] at this, T.out.2.2⟩⟩
      case measure => simp [intOf]; omega
    · obtain rfl : k = ns.length := by omega
      obtain ⟨_, hM, hBr⟩ := HK.out
      have hM := hM h0
      clear HK
      go_wp2_with fail
      go_ret
      rw [List.take_length] at hM
      exact ⟨_, rfl, hM, hBr⟩
end Go.Proofs.YtgjalkbianpibaaGreat
namespace Go.Proofs.YtgjalkbianpibaaGreat
open Go.RowKit
open Sha Tal
theorem Mine.base {w : World} {B B' : Nat} {v : Value} {zs : List Int} (h : Mine w B v zs) (hB : B' ≤ B) : Mine w B' v zs := by
  refine ⟨⟨h.1.1, ?_⟩, h.2⟩
  rcases h.1.2 with q | ⟨g, c, cur, q1, q2, q3⟩
  · exact .inl q
  · exact .inr ⟨g, c, cur, q1, Nat.le_trans hB q2, q3⟩
theorem xnums_new (a : Option Addr) (cap : Nat) (zs ns : List Int) (arr : Array Value) (n : Nat) (w : World) (h : RowAt w a zs) (ha : arr = (ns.map (Value.int .i64)).toArray) (hc : ns.length = n) (hz : zs.length ≤ 1000000) (h0 : 0 < n) (hl : n ≤ 10) (hn : ∀ n ∈ ns, n ≤ 9223372036854775807) :
    Calls Tryz.prog 59 #[.slice a zs.length cap, .slice (some ⟨w.heap.size, 0, none⟩) n n] (w.alloc (.cells arr 3)) fun e w' => ∃ v, e = .returned v ∧ Mine w' w.heap.size v (zs ++ numsL ns) ∧ Below w.heap.size w w' := by
  subst ha hc
  have hB : Below w.heap.size w (w.alloc (.cells (ns.map (Value.int .i64)).toArray 3)) := (Below.refl _ _).alloc (Nat.le_refl _) _
  have hR : (w.alloc (.cells (ns.map (Value.int .i64)).toArray 3)).rangeAt w.heap.size 0 (ns.map (Value.int .i64)) := by
    have := range_new w (ns.map (Value.int .i64)).toArray 3
    simpa using this
  refine (xnums_any a cap zs w.heap.size 0 ns.length ns _ (h.below hB) hz h0 hl hn (by simp) hR).mono ?_
  rintro e w' ⟨v, rfl, h1, h2⟩
  exact ⟨v, rfl, h1.base hB.size, hB.trans (h2.mono hB.size)⟩
theorem four_le {a b c d : Int} (h1 : a ≤ 9223372036854775807) (h2 : b ≤ 9223372036854775807) (h3 : c ≤ 9223372036854775807) (h4 : d ≤ 9223372036854775807) : ∀ z ∈ [a, b, c, d], z ≤ 9223372036854775807 := by
  intro z hz
  simp only [List.mem_cons, List.not_mem_nil, or_false] at hz
  rcases hz with rfl | rfl | rfl | rfl
  · exact h1
  · exact h2
  · exact h3
  · exact h4
theorem off_below {w w' : World} {B n : Nat} {v : Value} {zs : List Int} (h : Off (ownF v) w w') (hM : Mine w B v zs) (hn : n ≤ B) (hs : n ≤ w.heap.size) : Below n w w' :=
  h.below hs (fun b hb hf => by have := (hM.from b hf).1; omega)
set_option maxRecDepth 100000 in
set_option maxHeartbeats 4000000 in
theorem xputVote_any (a : Option Addr) (cap : Nat) (zs : List Int) (x : Vt) (w : World) (h : RowAt w a zs) (hz : zs.length ≤ 1000000) (hx : x.ok) :
    Calls Tryz.prog 60 #[.slice a zs.length cap, .agg x.cells.toArray] w fun e w' => ∃ v, e = .returned v ∧ Mine w' w.heap.size v (zs ++ numsL [x.k, x.e, x.v, x.s] ++ x.d) ∧ Below w.heap.size w w' := by
  obtain ⟨k, ep, vi, sl, d⟩ := x
  have hk := hx.k
  have he := hx.e
  have hv := hx.v
  have hs := hx.s
  have hd : d.length = 32 := hx.dl
  have hdb : ∀ z ∈ d, 0 ≤ z ∧ z < 256 := hx.db
  have hn4 := four_le hk he hv hs
  simp only at hk he hv hs hn4
  have hB1 : Below w.heap.size w (w.alloc (.cells (Vt.mk k ep vi sl d).cells.toArray 28)) := (Below.refl _ _).alloc (Nat.le_refl _) _
  have hR1 := Vt.box w ⟨k, ep, vi, sl, d⟩
  obtain ⟨c0, c1, c2, c3⟩ := Vt.four hR1
  simp only [Nat.zero_add] at c0 c1 c2 c3
  have hrd : (w.alloc (.cells (Vt.mk k ep vi sl d).cells.toArray 28)).rangeAt w.heap.size 4 (v8 d) := fun j u hj => by
    have := hR1 (4 + j) u (by rw [Nat.add_comm]; exact hj)
    rwa [Nat.zero_add] at this
  have hsz : w.heap.size < (w.alloc (.cells (Vt.mk k ep vi sl d).cells.toArray 28)).heap.size := by simp
  have id : (Tryz.prog.info? 26).map (·.size) = some (v8 d).length := by rw [v8_length, hd]; exact iszD
  clear hR1 hx
  generalize (Vt.mk k ep vi sl d).cells = q at *
  show Calls Tryz.prog 60 _ w fun e w' => ∃ v, e = .returned v ∧ Mine w' w.heap.size v (zs ++ numsL [k, ep, vi, sl] ++ d) ∧ Below w.heap.size w w'
  go_enter Tryz.func60, Tryz.ntmps60
  go_upto_region 1 with fail
  obtain ⟨w8, hw8⟩ : ∃ w8, (w.alloc (.cells q.toArray 28)).drew = w8 := ⟨_, rfl⟩
  have hB8 : Below w.heap.size w w8 := by rw [← hw8]; exact hB1.drew
  have hs8 : w.heap.size < w8.heap.size := by rw [← hw8]; exact hsz
  have hra8 : RowAt w8 a zs := h.below hB8
  have dr : ∀ i v, (w.alloc (.cells q.toArray 28)).cell? ⟨w.heap.size, i, none⟩ = some v → w8.cell? ⟨w.heap.size, i, none⟩ = some v := fun i v h => by rw [← hw8]; exact h
  replace c0 := dr _ _ c0
  replace c1 := dr _ _ c1
  replace c2 := dr _ _ c2
  replace c3 := dr _ _ c3
  have rd8 : w8.rangeAt w.heap.size 4 (v8 d) := by rw [← hw8]; exact (World.rangeAt_drew _ _ _ _).2 hrd
  have hld : ∀ w', Below w8.heap.size w8 w' → (loadVar 26 ⟨w.heap.size, 4, none⟩).run Tryz.prog w' = .ok (.agg (v8 d).toArray) w' := fun w' hw => run_loadVar_mid (P := Tryz.prog) w' w.heap.size 4 26 (v8 d) _ (range_below rd8 hw hs8) Tryz.underlying26 rfl id
  obtain ⟨u, hu⟩ : ∃ u, Hid ((v8 d).toArray = u) := ⟨_, hide rfl⟩
  rw [hu.out] at hld
  refine hs_begin (S := (Below w8.heap.size w8)) 15 rfl (by kernel_rfl) ?_
  rw [hw8]
  clear hw8 dr hB1 hsz hrd rd8 id h
  have hS : (Below w8.heap.size w8) w8 := Below.refl _ _
  refine hs_take (i := 0) (d := some 5) (v := ?_) rfl (by kernel_rfl) (by kernel_rfl) (by kernel_rfl) (by rfl) ?_ hS rfl ?_
  rotate_left
  · intro w' hw
    go_simp
    try with_reducible rfl
  simp only [Act.put, List.setIfInBounds_toArray, List.set_cons_zero, List.set_cons_succ]
  refine hs_take (i := 1) (d := some 6) (v := ?_) rfl (by kernel_rfl) (by kernel_rfl) (by kernel_rfl) (by rfl) ?_ hS rfl ?_
  rotate_left
  · intro w' hw
    go_simp
    try with_reducible rfl
  simp only [Act.put, List.setIfInBounds_toArray, List.set_cons_zero, List.set_cons_succ]
  refine hs_take (i := 2) (d := some 7) (v := ?_) rfl (by kernel_rfl) (by kernel_rfl) (by kernel_rfl) (by rfl) ?_ hS rfl ?_
  rotate_left
  · intro w' hw
    have := (hw.cell (p := ⟨w.heap.size, 0, none⟩) hs8).trans c0
    go_simp
    try with_reducible rfl
  simp only [Act.put, List.setIfInBounds_toArray, List.set_cons_zero, List.set_cons_succ]
  refine hs_take (i := 3) (d := some 8) (v := ?_) rfl (by kernel_rfl) (by kernel_rfl) (by kernel_rfl) (by rfl) ?_ hS rfl ?_
  rotate_left
  · intro w' hw
    go_simp
    try with_reducible rfl
  simp only [Act.put, List.setIfInBounds_toArray, List.set_cons_zero, List.set_cons_succ]
  refine hs_take (i := 4) (d := some 9) (v := ?_) rfl (by kernel_rfl) (by kernel_rfl) (by kernel_rfl) (by rfl) ?_ hS rfl ?_
  rotate_left
  · intro w' hw
    have := (hw.cell (p := ⟨w.heap.size, 1, none⟩) hs8).trans c1
    go_simp
    try with_reducible rfl
  simp only [Act.put, List.setIfInBounds_toArray, List.set_cons_zero, List.set_cons_succ]
  refine hs_take (i := 5) (d := some 10) (v := ?_) rfl (by kernel_rfl) (by kernel_rfl) (by kernel_rfl) (by rfl) ?_ hS rfl ?_
  rotate_left
  · intro w' hw
    go_simp
    try with_reducible rfl
  simp only [Act.put, List.setIfInBounds_toArray, List.set_cons_zero, List.set_cons_succ]
  refine hs_take (i := 6) (d := some 11) (v := ?_) rfl (by kernel_rfl) (by kernel_rfl) (by kernel_rfl) (by rfl) ?_ hS rfl ?_
  rotate_left
  · intro w' hw
    have := (hw.cell (p := ⟨w.heap.size, 2, none⟩) hs8).trans c2
    go_simp
    try with_reducible rfl
  simp only [Act.put, List.setIfInBounds_toArray, List.set_cons_zero, List.set_cons_succ]
  refine hs_take (i := 7) (d := some 12) (v := ?_) rfl (by kernel_rfl) (by kernel_rfl) (by kernel_rfl) (by rfl) ?_ hS rfl ?_
  rotate_left
  · intro w' hw
    go_simp
    try with_reducible rfl
  simp only [Act.put, List.setIfInBounds_toArray, List.set_cons_zero, List.set_cons_succ]
  refine hs_take (i := 8) (d := some 13) (v := ?_) rfl (by kernel_rfl) (by kernel_rfl) (by kernel_rfl) (by rfl) ?_ hS rfl ?_
  rotate_left
  · intro w' hw
    have := (hw.cell (p := ⟨w.heap.size, 3, none⟩) hs8).trans c3
    go_simp
    try with_reducible rfl
  simp only [Act.put, List.setIfInBounds_toArray, List.set_cons_zero, List.set_cons_succ]
  refine hs_take (i := 11) (d := some 16) (v := ?_) rfl (by kernel_rfl) (by kernel_rfl) (by kernel_rfl) (by rfl) ?_ hS rfl ?_
  rotate_left
  · intro w' hw
    go_simp
    try with_reducible rfl
  simp only [Act.put, List.setIfInBounds_toArray, List.set_cons_zero, List.set_cons_succ]
  refine hs_take (i := 12) (d := some 17) (v := .agg u) rfl (by kernel_rfl) (by kernel_rfl) (by kernel_rfl) (by rfl) (fun w' hw => exec_loadC rfl rfl (hld w' hw)) hS rfl ?_
  simp only [Act.put, List.setIfInBounds_toArray, List.set_cons_zero, List.set_cons_succ]
  have hS : (Below w8.heap.size w8) (w8.alloc (.cells #[.int .i64 k, .int .i64 ep, .int .i64 vi, .int .i64 sl] 3)) := (Below.refl _ _).alloc (Nat.le_refl _) _
  refine hs_run (i := 9) (d := some 14) (v := .slice (some ⟨w8.heap.size, 0, none⟩) 4 4) (w' := (w8.alloc (.cells #[.int .i64 k, .int .i64 ep, .int .i64 vi, .int .i64 sl] 3))) rfl (by kernel_rfl) (by rfl) (by go_simp; first | done | with_reducible rfl) rfl hS ?_
  simp only [Act.put, List.setIfInBounds_toArray, List.set_cons_zero, List.set_cons_succ]
  have cn := xnums_new a cap zs [k, ep, vi, sl] #[.int .i64 k, .int .i64 ep, .int .i64 vi, .int .i64 sl] 4 w8 hra8 rfl rfl hz (by omega) (by omega) hn4
  refine hs_call (i := 10) (d := some 15) rfl (by kernel_rfl) (by rfl) (by go_simp; first | done | exact ⟨rfl, rfl⟩ | with_reducible rfl) rfl ?_
  refine (cn).mono ?_
  rintro e' wn1 ⟨v1, rfl, hM1, hb1⟩
  have hS : (Below w8.heap.size w8) wn1 := hb1
  refine ⟨_, rfl, hS, ?_⟩
  simp only [Act.put, List.setIfInBounds_toArray, List.set_cons_zero, List.set_cons_succ]
  have hl1 : (zs ++ numsL [k, ep, vi, sl]).length ≤ 10000000 := by
    have := putL_len hk
    have := putL_len he
    have := putL_len hv
    have := putL_len hs
    simp only [numsL, List.flatMap_cons, List.flatMap_nil, List.append_nil, List.length_append]
    omega
  have cd := xdig_any w8.heap.size v1 (zs ++ numsL [k, ep, vi, sl]) d wn1 hM1 hb1.size hl1 hd hdb
  rw [hu.out] at cd
  refine hs_call (i := 13) (d := some 18) rfl (by kernel_rfl) (by rfl) (by go_simp; first | done | exact ⟨rfl, rfl⟩ | with_reducible rfl) rfl ?_
  refine (cd).mono ?_
  rintro e' wn2 ⟨v2, rfl, hM2, hO2, hr2⟩
  have hS : (Below w8.heap.size w8) wn2 := hb1.trans (off_below hO2 hM1 (Nat.le_refl _) hb1.size)
  refine ⟨_, rfl, hS, ?_⟩
  simp only [Act.put, List.setIfInBounds_toArray, List.set_cons_zero, List.set_cons_succ]
  refine hs_take (i := 14) (d := some 4) (v := ?_) rfl (by kernel_rfl) (by kernel_rfl) (by kernel_rfl) (by rfl) ?_ hS rfl ?_
  rotate_left
  · intro w' hw
    go_simp
    try with_reducible rfl
  simp only [Act.put, List.setIfInBounds_toArray, List.set_cons_zero, List.set_cons_succ]
  refine hs_done (by kernel_rfl) ?_
  have hM3 := hM2.base (B' := w.heap.size) (by omega)
  have hB3 := hB8.trans (hS.mono (by omega))
  clear hM2 hO2 hr2 hM1 hb1 cn cd hld
  go_wp2_with fail
  go_ret
  exact ⟨_, rfl, hM3, hB3⟩
theorem voteL_eq (x : Vt) : putL 2 ++ numsL [x.k, x.e, x.v, x.s] ++ x.d = voteL x := by
  simp [numsL, voteL, List.append_assoc]
/-- what the document's bytes tells -/
def Tells (q : List Value) (zs : List Int) : Prop := ∀ w, Calls Tryz.prog 18 #[.agg q.toArray] w fun e w' => ∃ v, e = .returned v ∧ Mine w' w.heap.size v zs ∧ Below w.heap.size w w'
set_option maxRecDepth 100000 in
set_option maxHeartbeats 4000000 in
theorem xbytes2 {x : Vt} (hx : x.ok) : Tells (Ms.plain 2 0 0 x zeros32).cells (voteL x) := fun w => by
  have hm := plain_ok2 hx
  have hB1 : Below w.heap.size w (w.alloc (.cells (Ms.plain 2 0 0 x zeros32).cells.toArray 37)) := (Below.refl _ _).alloc (Nat.le_refl _) _
  have hsz : w.heap.size < (w.alloc (.cells (Ms.plain 2 0 0 x zeros32).cells.toArray 37)).heap.size := by simp
  have M := (Ms.plain 2 0 0 x zeros32).box hm w
  have ck : _root_.Go.World.cell? _ ⟨w.heap.size, 0, none⟩ = some (.int .i64 2) := M.k
  have rv : _root_.Go.World.rangeAt _ w.heap.size 7 x.cells := M.vt
  have ix : (Tryz.prog.info? 28).map (·.size) = some x.cells.length := by rw [hx.len]; exact iszV
  have HV := hide (voteL_eq x)
  have cv := fun a cap zs w0 h hz => xputVote_any a cap zs x w0 h hz hx
  have hpl := @putL_len 2 (by omega)
  obtain ⟨vl, hvl⟩ : ∃ vl, Hid (numsL [x.k, x.e, x.v, x.s] = vl) := ⟨_, hide rfl⟩
  rw [hvl.out] at HV
  simp only [hvl.out] at cv
  rw [← HV.out]
  clear hx hm M HV hvl
  generalize (Ms.plain 2 0 0 x zeros32).cells = q at *
  generalize x.cells = u at *
  generalize x.d = d at *
  have cp := fun w0 => refPut_any none 0 [] 2 w0 (nil_row w0) (by simp) (by omega)
  simp only [List.nil_append, List.length_nil] at cp
  generalize putL 2 = p2 at *
  go_enter Tryz.func18, Tryz.ntmps18
  go_upto_region 1 with fail
  go_name_world w1 hw1
  rw [show w.alloc (.cells q.toArray 37) = w1 from hw1] at hB1 ck rv hsz
  clear hw1
  go_wp2_with fail
  refine (cp _).mono ?_
  rintro e2 w2 ⟨v2, rfl, hM2, hb2⟩
  obtain ⟨a2, cap2, rfl, _, _, hr2⟩ := hM2.rowAt (by unfold maxLen; omega)
  have hB2 := hB1.trans (hb2.mono hB1.size)
  have ck2 := (hb2.cell (p := ⟨w.heap.size, 0, none⟩) hsz).trans ck
  have rv2 := range_below rv hb2 hsz
  have c6 := cv a2 cap2 p2 w2 hr2 (by omega)
  clear cp cv hM2 hb2 hB1 ck rv hr2
  go_wp2_with (refine wpList_load_mid rfl 28 _ rfl _ _ rfl u _ rv2 Tryz.underlying28 rfl ix ?_)
  refine c6.mono ?_
  rintro e3 w3 ⟨v3, rfl, hM3, hb3⟩
  have hM4 := hM3.base (B' := w.heap.size) (by have := hB2.size; omega)
  have hB3 := hB2.trans (hb3.mono hB2.size)
  clear c6 hM3 hb3 hB2 rv2
  go_wp2_with fail
  go_ret
  exact ⟨_, rfl, hM4, hB3⟩
set_option maxRecDepth 100000 in
set_option maxHeartbeats 4000000 in
theorem xbytes5 {e : Int} {d : List Int} (he : e ≤ 9223372036854775807) (hd : d.length = 32) (hdb : ∀ z ∈ d, 0 ≤ z ∧ z < 256) : Tells (Ms.plain 5 e 0 Vt.zero d).cells (markL e d) := fun w => by
  have hm := Ms.plain_ok 5 e 0 Vt.zero_ok hd hdb
  have hB1 : Below w.heap.size w (w.alloc (.cells (Ms.plain 5 e 0 Vt.zero d).cells.toArray 37)) := (Below.refl _ _).alloc (Nat.le_refl _) _
  have hsz : w.heap.size < (w.alloc (.cells (Ms.plain 5 e 0 Vt.zero d).cells.toArray 37)).heap.size := by simp
  have M := (Ms.plain 5 e 0 Vt.zero d).box hm w
  have ck : _root_.Go.World.cell? _ ⟨w.heap.size, 0, none⟩ = some (.int .i64 5) := M.k
  have ce : _root_.Go.World.cell? _ ⟨w.heap.size, 1, none⟩ = some (.int .i64 e) := M.e
  have rd : _root_.Go.World.rangeAt _ w.heap.size 48 (v8 d) := M.d
  have id : (Tryz.prog.info? 26).map (·.size) = some (v8 d).length := by rw [v8_length, hd]; exact iszD
  have hp5 := @putL_len 5 (by omega)
  have hpe := putL_len he
  have c5 := fun w0 => refPut_any none 0 [] 5 w0 (nil_row w0) (by simp) (by omega)
  simp only [List.nil_append, List.length_nil] at c5
  have cp := fun a cap zs w0 h hz => refPut_any a cap zs e w0 h hz he
  show Calls Tryz.prog 18 _ w fun er w' => ∃ v, er = .returned v ∧ Mine w' w.heap.size v (putL 5 ++ putL e ++ d) ∧ Below w.heap.size w w'
  clear hm M he
  generalize (Ms.plain 5 e 0 Vt.zero d).cells = q at *
  generalize putL 5 = p5 at *
  generalize putL e = pe at *
  go_enter Tryz.func18, Tryz.ntmps18
  go_upto_region 1 with fail
  go_name_world w1 hw1
  rw [show w.alloc (.cells q.toArray 37) = w1 from hw1] at hB1 ck rd hsz ce
  clear hw1
  go_wp2_with fail
  refine (c5 _).mono ?_
  rintro e2 w2 ⟨v2, rfl, hM2, hb2⟩
  obtain ⟨a2, cap2, rfl, _, _, hr2⟩ := hM2.rowAt (by unfold maxLen; omega)
  have hB2 := hB1.trans (hb2.mono hB1.size)
  have hs2 := Nat.lt_of_lt_of_le hsz hb2.size
  replace ck := (hb2.cell (p := ⟨w.heap.size, 0, none⟩) hsz).trans ck
  replace ce := (hb2.cell (p := ⟨w.heap.size, 1, none⟩) hsz).trans ce
  replace rd := range_below rd hb2 hsz
  clear c5 hM2 hb2 hB1 hsz
  go_upto_region 21 with fail
  obtain ⟨w8, hw8⟩ : ∃ w8, w2.drew = w8 := ⟨_, rfl⟩
  have hB8 : Below w.heap.size w w8 := by rw [← hw8]; exact hB2.drew
  have hs8 : w.heap.size < w8.heap.size := by rw [← hw8]; exact hs2
  have hr8 : RowAt w8 a2 p5 := hr2.below (by rw [← hw8]; exact (Below.refl _ _).drew)
  have dr : ∀ i v, w2.cell? ⟨w.heap.size, i, none⟩ = some v → w8.cell? ⟨w.heap.size, i, none⟩ = some v := fun i v h => by rw [← hw8]; exact h
  replace ce := dr _ _ ce
  have rd8 : w8.rangeAt w.heap.size 48 (v8 d) := by rw [← hw8]; exact (World.rangeAt_drew _ _ _ _).2 rd
  have hld : ∀ w', Below w8.heap.size w8 w' → (loadVar 26 ⟨w.heap.size, 48, none⟩).run Tryz.prog w' = .ok (.agg (v8 d).toArray) w' := fun w' hw => run_loadVar_mid (P := Tryz.prog) w' w.heap.size 48 26 (v8 d) _ (range_below rd8 hw hs8) Tryz.underlying26 rfl id
  obtain ⟨u, hu⟩ : ∃ u, Hid ((v8 d).toArray = u) := ⟨_, hide rfl⟩
  rw [hu.out] at hld
  refine hs_begin (S := (Below w8.heap.size w8)) 8 rfl (by kernel_rfl) ?_
  rw [hw8]
  clear hw8 dr hB2 hs2 rd rd8 id hr2 ck
  have hS : (Below w8.heap.size w8) w8 := Below.refl _ _
  refine hs_take (i := 0) (d := some 113) (v := ?_) rfl (by kernel_rfl) (by kernel_rfl) (by kernel_rfl) (by rfl) ?_ hS rfl ?_
  rotate_left
  · intro w' hw
    go_simp
    try with_reducible rfl
  simp only [Act.put, List.setIfInBounds_toArray, List.set_cons_zero, List.set_cons_succ]
  refine hs_take (i := 1) (d := some 114) (v := ?_) rfl (by kernel_rfl) (by kernel_rfl) (by kernel_rfl) (by rfl) ?_ hS rfl ?_
  rotate_left
  · intro w' hw
    go_simp
    try with_reducible rfl
  simp only [Act.put, List.setIfInBounds_toArray, List.set_cons_zero, List.set_cons_succ]
  refine hs_take (i := 2) (d := some 115) (v := ?_) rfl (by kernel_rfl) (by kernel_rfl) (by kernel_rfl) (by rfl) ?_ hS rfl ?_
  rotate_left
  · intro w' hw
    have := (hw.cell (p := ⟨w.heap.size, 1, none⟩) hs8).trans ce
    go_simp
    try with_reducible rfl
  simp only [Act.put, List.setIfInBounds_toArray, List.set_cons_zero, List.set_cons_succ]
  refine hs_take (i := 4) (d := some 117) (v := ?_) rfl (by kernel_rfl) (by kernel_rfl) (by kernel_rfl) (by rfl) ?_ hS rfl ?_
  rotate_left
  · intro w' hw
    go_simp
    try with_reducible rfl
  simp only [Act.put, List.setIfInBounds_toArray, List.set_cons_zero, List.set_cons_succ]
  refine hs_take (i := 5) (d := some 118) (v := .agg u) rfl (by kernel_rfl) (by kernel_rfl) (by kernel_rfl) (by rfl) (fun w' hw => exec_loadC rfl rfl (hld w' hw)) hS rfl ?_
  simp only [Act.put, List.setIfInBounds_toArray, List.set_cons_zero, List.set_cons_succ]
  refine hs_call (i := 3) (d := some 116) rfl (by kernel_rfl) (by rfl) (by go_simp; first | done | exact ⟨rfl, rfl⟩ | with_reducible rfl) rfl ?_
  refine (cp _ _ _ _ hr8 (by omega)).mono ?_
  rintro e' wn1 ⟨v3, rfl, hM3, hb3⟩
  have hS : (Below w8.heap.size w8) wn1 := hb3
  refine ⟨_, rfl, hS, ?_⟩
  simp only [Act.put, List.setIfInBounds_toArray, List.set_cons_zero, List.set_cons_succ]
  have hl1 : (p5 ++ pe).length ≤ 10000000 := by rw [List.length_append]; omega
  have cd := xdig_any w8.heap.size v3 (p5 ++ pe) d wn1 hM3 hb3.size hl1 hd hdb
  rw [hu.out] at cd
  refine hs_call (i := 6) (d := some 119) rfl (by kernel_rfl) (by rfl) (by go_simp; first | done | exact ⟨rfl, rfl⟩ | with_reducible rfl) rfl ?_
  refine (cd).mono ?_
  rintro e' wn2 ⟨v6, rfl, hM6, hO6, hr6⟩
  have hS : (Below w8.heap.size w8) wn2 := hb3.trans (off_below hO6 hM3 (Nat.le_refl _) hb3.size)
  refine ⟨_, rfl, hS, ?_⟩
  simp only [Act.put, List.setIfInBounds_toArray, List.set_cons_zero, List.set_cons_succ]
  refine hs_take (i := 7) (d := some 3) (v := ?_) rfl (by kernel_rfl) (by kernel_rfl) (by kernel_rfl) (by rfl) ?_ hS rfl ?_
  rotate_left
  · intro w' hw
    go_simp
    try with_reducible rfl
  simp only [Act.put, List.setIfInBounds_toArray, List.set_cons_zero, List.set_cons_succ]
  refine hs_done (by kernel_rfl) ?_
  have hM7 := hM6.base (B' := w.heap.size) (by omega)
  have hB7 := hB8.trans (hS.mono (by omega))
  clear hM6 hO6 hr6 hM3 hb3 cd hld cp
  go_wp2_with fail
  go_ret
  exact ⟨_, rfl, hM7, hB7⟩
set_option maxRecDepth 100000 in
set_option maxHeartbeats 4000000 in
theorem xenc0 (q : List Value) (b : Bool) (zs : List Int) (w : World) (hq : q.length = 119) (hl : zs.length ≤ 1000)
    (hg : ∀ w, Calls Tryz.prog 10 #[.agg q.toArray] w fun e w' => e = .returned (.bool b) ∧ Below w.heap.size w w') (ht : Tells q zs) :
    Calls Tryz.prog 8 #[.agg q.toArray] w fun e w' => e = .returned (encV b zs) ∧ Below w.heap.size w w' := by
  have hB : Below w.heap.size w (w.alloc (.cells q.toArray 37)) := (Below.refl _ _).alloc (Nat.le_refl _) _
  have hs : w.heap.size < (w.alloc (.cells q.toArray 37)).heap.size := by simp
  have hA : (w.alloc (.cells q.toArray 37)).rangeAt w.heap.size 0 q := by simpa using range_new w q.toArray 37
  have iq : (Tryz.prog.info? 37).map (·.size) = some q.length := by rw [hq]; exact iszM
  clear hq
  cases b
  · show Calls Tryz.prog 8 #[.agg q.toArray] w fun e w' => e = .returned (.tuple #[.string ⟨#[]⟩, .int .i64 130]) ∧ Below w.heap.size w w'
    clear ht
    go_enter Tryz.func8, Tryz.ntmps8
    go_upto_region 1 with fail
    go_name_world w1 hw1
    rw [show w.alloc (.cells q.toArray 37) = w1 from hw1] at hB hs hA
    clear hw1
    go_wp2_with (refine wpList_load_mid rfl 37 _ rfl _ _ rfl q _ hA Tryz.underlying37 rfl iq ?_)
    refine (hg _).mono ?_
    rintro e2 w2 ⟨rfl, hb2⟩
    have hB2 := hB.trans (hb2.mono (by omega))
    clear hA hg hB hb2
    go_wp2
    go_ret2
    exact ⟨rfl, hB2⟩
  · show Calls Tryz.prog 8 #[.agg q.toArray] w fun e w' => e = .returned (.tuple #[.string (strOf zs), .int .i64 0]) ∧ Below w.heap.size w w'
    obtain ⟨sz, hsz⟩ : ∃ sz, Hid (strOf zs = sz) := ⟨_, hide rfl⟩
    rw [hsz.out]
    go_enter Tryz.func8, Tryz.ntmps8
    go_upto_region 1 with fail
    go_name_world w1 hw1
    rw [show w.alloc (.cells q.toArray 37) = w1 from hw1] at hB hs hA
    clear hw1
    go_wp2_with (refine wpList_load_mid rfl 37 _ rfl _ _ rfl q _ hA Tryz.underlying37 rfl iq ?_)
    refine (hg _).mono ?_
    rintro e2 w2 ⟨rfl, hb2⟩
    have hB2 := hB.trans (hb2.mono (by omega))
    have hA2 := range_below hA hb2 hs
    have hs2 := Nat.lt_of_lt_of_le hs hb2.size
    clear hA hg hB hb2 hs
    go_wp2_with (refine wpList_load_mid rfl 37 _ rfl _ _ rfl q _ hA2 Tryz.underlying37 rfl iq ?_)
    refine (ht _).mono ?_
    rintro e3 w3 ⟨v3, rfl, hM3, hb3⟩
    have hcs := mine_str hM3
    rw [hsz.out] at hcs
    have hB3 := hB2.trans (hb3.mono (by omega))
    obtain ⟨a5, cap5, rfl⟩ : ∃ a cap, v3 = .slice a zs.length cap := by
      rcases own_range hM3.1 with ⟨rfl, h0, _⟩ | ⟨g, cap, rfl, _⟩
      · exact ⟨none, 0, by rw [h0]⟩
      · exact ⟨_, cap, rfl⟩
    have hl' : (zs.length : Int) ≤ 1000 := by omega
    clear hsz hM3 hb3 hA2 hB2 ht
    go_wp2
    go_ret2
    exact ⟨rfl, hB3⟩
theorem voteL_len {x : Vt} (hx : x.ok) : (voteL x).length ≤ 1000 := by
  have p := @putL_len 2 (by omega)
  have h1 := putL_len hx.k
  have h2 := putL_len hx.e
  have h3 := putL_len hx.v
  have h4 := putL_len hx.s
  have h5 := hx.dl
  simp only [voteL, List.length_append]
  omega
theorem markL_len {e : Int} {d : List Int} (he : e ≤ 9223372036854775807) (hd : d.length = 32) : (markL e d).length ≤ 1000 := by
  have p := @putL_len 5 (by omega)
  have h1 := putL_len he
  simp only [markL, List.length_append]
  omega
end Go.Proofs.YtgjalkbianpibaaGreat
