/- the chapter's example of pools -/
import Derived.Test.YtbfcbjjhdadicaaDoorP5
import Derived.Test.YtbfcbjjhdadicaaDoorP7
import Derived.Test.YtbfcbjjhdadicaaDoorReqEq
namespace Go.Proofs.YtbfcbjjhdadicaaDoor
open Go.RowKit
open Sha Tal
/-- a pool whose blocks are all younger than a world -/
structure PoolIn (w0 w : World) (P : Pl) (room : Nat) (ls : List (List Rq)) : Prop where
  at_ : PoolAt w P room ls
  b : Below w0.heap.size w0 w
  own : ∀ b, P.own b → w0.heap.size ≤ b
theorem PoolIn.below {w0 w w' : World} {P : Pl} {room : Nat} {ls : List (List Rq)} (h : PoolIn w0 w P room ls) (hb : Below w.heap.size w w') : PoolIn w0 w' P room ls :=
  ⟨h.at_.below hb, h.b.trans (hb.mono h.b.size), h.own⟩
theorem padd_in {w0 w : World} {P : Pl} {room : Nat} {ls : List (List Rq)} (h : PoolIn w0 w P room ls) (r : Rq) (hr : r.ok) (hG : Glob w0) :
    Calls Tryd.prog 19 #[ptr P, .agg r.cells.toArray] w fun e w' => e = .returned (.int .i64 (addE room ls r)) ∧ ∃ Q : Pl, ptr Q = ptr P ∧ PoolIn w0 w' Q room (addL room ls r) ∧ Off P.own w w' ∧ ∀ b, Q.own b → P.own b ∨ w.heap.size ≤ b := by
  refine (padd_any P room ls r w h.at_ hr (hG.below h.b)).mono ?_
  rintro e w' ⟨he, Q, hp, hq, hoff, hown⟩
  refine ⟨he, Q, by unfold ptr; rw [hp], ⟨hq, h.b.trans (hoff.below h.b.size (fun b hb hx => by have := h.own b hx; omega)), fun b hb => ?_⟩, hoff, hown⟩
  rcases hown b hb with q | q
  · exact h.own b q
  · have := h.b.size; omega
theorem pnew_in (w : World) (B R : Nat) (hB : 0 < B) (hB' : B ≤ 64) (hR : R ≤ 16) : PoolIn w (newW w B R) (newPl w B) R (List.replicate B []) :=
  ⟨new_pool w B R hB hB' hR, new_below w B R, new_own w B⟩
def rqN (n : Int) : Rq := ⟨0, n, ⟨#[]⟩, List.replicate 16 0⟩
theorem rqN_ok (n : Int) (h : I64 n) : (rqN n).ok := by
  refine ⟨rfl, fun z hz => ?_, Nat.zero_le _, by simp [rqN], by simp [rqN], h.1, h.2⟩
  rw [List.eq_of_mem_replicate hz]
  omega
set_option maxRecDepth 100000 in
set_option maxHeartbeats 2000000 in
theorem one_any (n : Int) (h : I64 n) (w : World) :
    Calls Tryd.prog 25 #[.int .i64 n] w fun e w' => e = .returned (.agg (rqN n).cells.toArray) ∧ Below w.heap.size w w' := by
  have hok := rqN_ok n h
  have hiq := hok.isz
  have hiA := hok.iszA
  have hN := hok.blank w
  have h1c := all_oneCell_toArray (rqN n).one
  have F := fresh_store w #[.int .i64 0, .int .i64 0, .string ⟨#[]⟩, .int .u8 0, .int .u8 0, .int .u8 0, .int .u8 0, .int .u8 0, .int .u8 0, .int .u8 0, .int .u8 0, .int .u8 0, .int .u8 0, .int .u8 0, .int .u8 0, .int .u8 0, .int .u8 0, .int .u8 0, .int .u8 0] 35 (rqN n).cells (by rw [hok.length]; rfl)
  clear hok h
  go_enter Tryd.func25, Tryd.ntmps25
  go_wp2_with (refine wpList_store_mid (op := ⟨none, .store 35 (.tmp 2) (.tmp 4), _, _, _, none⟩) rfl 35 _ _ rfl _ _ (rqN n).cells.toArray rfl rfl hN hiA h1c ?_)
  have hrs := run_loadVar_mid (P := Tryd.prog) _ w.heap.size 0 35 (rqN n).cells _ F.1 Tryd.underlying35 rfl hiq
  exact bodyPost_ret (v := .agg (rqN n).cells.toArray) (results_cellP rfl _ _ _ rfl hrs) rfl ⟨rfl, F.2.1⟩
theorem bkt_one (r : Rq) : bkt 1 r = 0 := by have := (bkt_lt r (k := 1) (by omega)).1; omega
theorem ex1 : addE 2 [[]] (rqN 1) = 0 ∧ addL 2 [[]] (rqN 1) = [[rqN 1]] := by
  have h : addE 2 [[]] (rqN 1) = 0 := by simp [addE, flatP, bkt_one, rqN]
  exact ⟨h, by simp [addL, h, bkt_one]⟩
theorem ex2 : addE 2 [[rqN 1]] (rqN 2) = 0 ∧ addL 2 [[rqN 1]] (rqN 2) = [[rqN 1, rqN 2]] := by
  have h : addE 2 [[rqN 1]] (rqN 2) = 0 := by simp [addE, flatP, bkt_one, rqN, pk]
  exact ⟨h, by simp [addL, h, bkt_one]⟩
theorem ex3 : addE 2 [[rqN 1, rqN 2]] (rqN 3) = 100 ∧ addL 2 [[rqN 1, rqN 2]] (rqN 3) = [[rqN 1, rqN 2]] := by
  have h : addE 2 [[rqN 1, rqN 2]] (rqN 3) = 100 := by simp [addE, flatP, bkt_one, rqN, pk]
  exact ⟨h, by simp [addL, h]⟩
theorem ex4 : addE 2 [[rqN 1, rqN 2]] (rqN 2) = 101 ∧ addL 2 [[rqN 1, rqN 2]] (rqN 2) = [[rqN 1, rqN 2]] := by
  have h : addE 2 [[rqN 1, rqN 2]] (rqN 2) = 101 := by simp [addE, flatP, rqN, pk]
  exact ⟨h, by simp [addL, h]⟩
theorem ex5 : pickL [] 1 (onceL ([[rqN 1, rqN 2]] : List (List Rq)).length [0]) [[rqN 1, rqN 2]] = [rqN 1] := by
  have := pick_one (S := []) (most := 1) (b := 0) (ls := [[rqN 1, rqN 2]]) (by simp) rfl
  rw [show ((0 : Nat) : Int) = 0 from rfl] at this
  rw [this]
  rfl
set_option maxRecDepth 100000 in
set_option maxHeartbeats 4000000 in
theorem lives_any (w : World) (hG : Glob w) :
    Calls Tryd.prog 11 #[] w fun e w' => e = .returned (.bool true) ∧ Below w.heap.size w w' := by
  have cN := new_yes 1 2 w (by omega) (by omega) (by omega) (by omega)
  have h0 := pnew_in w 1 2 (by omega) (by omega) (by omega)
  have i1 : I64 1 := ⟨by omega, by omega⟩
  have i2 : I64 2 := ⟨by omega, by omega⟩
  have i3 : I64 3 := ⟨by omega, by omega⟩
  have c1 := one_any 1 i1
  have c2 := one_any 2 i2
  have c3 := one_any 3 i3
  have o1 := rqN_ok 1 i1
  have o2 := rqN_ok 2 i2
  have o3 := rqN_ok 3 i3
  clear i1 i2 i3
  obtain ⟨wa, hwa⟩ : ∃ wa, newW w 1 2 = wa := ⟨_, rfl⟩
  rw [hwa] at cN h0
  obtain ⟨P0, hP0⟩ : ∃ P0, newPl w 1 = P0 := ⟨_, rfl⟩
  rw [hP0] at cN h0
  clear hwa hP0
  have e0 : List.replicate 1 ([] : List Rq) = [[]] := rfl
  rw [e0] at h0
  clear e0
  have cN : Calls Tryd.prog 8 #[.int .i64 1, .int .i64 2] w fun e w' => e = .returned (.tuple #[ptr P0, .int .i64 0]) ∧ w' = wa := cN
  obtain ⟨q, hq⟩ : ∃ q, Hid (ptr P0 = .pointer (some q)) := ⟨_, hide rfl⟩
  rw [hq.out] at cN
  go_enter Tryd.func11, Tryd.ntmps11
  go_wp2_with fail
  refine cN.mono ?_
  rintro e w' ⟨rfl, hx⟩
  obtain rfl := hx.symm
  clear cN hx
  go_wp2_with fail
  refine (c1 wa).mono ?_
  rintro e w1a ⟨rfl, hb1⟩
  have k1 := (h0.below hb1)
  have A := padd_in k1 (rqN 1) o1 hG
  rw [hq.out, ex1.1, ex1.2] at A
  go_wp2_with fail
  refine A.mono ?_
  rintro e w1 ⟨rfl, P1, hp1, h1, -, -⟩
  have hqP1 : Hid (ptr P1 = .pointer (some q)) := hide hp1
  clear A k1 hp1
  go_wp2_with fail
  refine (c2 w1).mono ?_
  rintro e w2a ⟨rfl, hb2⟩
  have k2 := (h1.below hb2)
  have A := padd_in k2 (rqN 2) o2 hG
  rw [hqP1.out, ex2.1, ex2.2] at A
  go_wp2_with fail
  refine A.mono ?_
  rintro e w2 ⟨rfl, P2, hp2, h2, -, -⟩
  have hqP2 : Hid (ptr P2 = .pointer (some q)) := hide hp2
  clear A k2 hp2
  go_wp2_with fail
  refine (c3 w2).mono ?_
  rintro e w3a ⟨rfl, hb3⟩
  have k3 := (h2.below hb3)
  have A := padd_in k3 (rqN 3) o3 hG
  rw [hqP2.out, ex3.1, ex3.2] at A
  go_wp2_with fail
  refine A.mono ?_
  rintro e w3 ⟨rfl, P3, hp3, h3, -, -⟩
  have hqP3 : Hid (ptr P3 = .pointer (some q)) := hide hp3
  clear A k3 hp3
  go_wp2_with fail
  refine (c2 w3).mono ?_
  rintro e w4a ⟨rfl, hb4⟩
  have k4 := (h3.below hb4)
  have A := padd_in k4 (rqN 2) o2 hG
  rw [hqP3.out, ex4.1, ex4.2] at A
  go_wp2_with fail
  refine A.mono ?_
  rintro e w4 ⟨rfl, P4, hp4, h4, -, -⟩
  have hqP4 : Hid (ptr P4 = .pointer (some q)) := hide hp4
  clear A k4 hp4
  go_wp2_with fail
  obtain ⟨w5, hw5⟩ : ∃ w5, w4.alloc (.cells #[.int .i64 0] 3) = w5 := ⟨_, rfl⟩
  have hb5 : Below w4.heap.size w4 w5 := by rw [← hw5]; exact (Below.refl _ _).alloc (Nat.le_refl _) _
  have hi5 : IntsAt w5 (some ⟨w4.heap.size, 0, none⟩) [0] := by
    rw [← hw5]
    exact .inr ⟨_, _, rfl, by simp, by simpa [intsV] using range_new w4 #[.int .i64 0] 3⟩
  rw [hw5]
  clear hw5
  have h5 := h4.below hb5
  have cP := pick_any P4 2 [[rqN 1, rqN 2]] (some ⟨w4.heap.size, 0, none⟩) 1 [0] 1 none 0 0 [] w5 h5.at_ hi5 (by simp) (pairsOf_nil w5)
  rw [hqP4.out, ex5] at cP
  refine cP.mono ?_
  rintro e w6 ⟨v, rfl, hv6, hb6⟩
  have h6 := h5.below hb6
  obtain ⟨la, lcap, rfl, -, -, hRA, -⟩ := own_reqs0 hv6 (fun r hr => by rw [List.mem_singleton.1 hr]; exact o1) (by unfold maxLen; simp)
  obtain ⟨lb, loff, rfl, hlb6, hre6⟩ := hRA.elem 0 (by simp)
  clear cP hv6 hRA
  go_upto_region 5 with fail
  obtain ⟨w8, hw8⟩ : ∃ w8, w6.drew = w8 := ⟨_, rfl⟩
  have hB8 : Below w6.heap.size w6 w8 := by rw [← hw8]; exact (Below.refl _ _).drew
  have hP8 := (h6.below hB8).at_
  have hlb : lb < w8.heap.size := Nat.lt_of_lt_of_le hlb6 hB8.size
  have hiu := o1.isz
  have hre : w8.rangeAt lb loff (rqN 1).cells := by
    have := range_below hre6 hB8 hlb6
    simpa using this
  have hq := fun w' => eqReq 0 1 ⟨#[]⟩ (List.replicate 16 0) 0 1 ⟨#[]⟩ (List.replicate 16 0) rfl rfl w'
  simp only [reqB_same] at hq
  have cl := fun w0 h0 => len_any P4 2 [[rqN 1, rqN 2]] w0 h0
  rw [hqP4.out] at cl
  obtain ⟨u1, hu1⟩ : ∃ u1, Hid ((rqN 1).cells = u1) := ⟨_, hide rfl⟩
  rw [hu1.out] at hre hiu
  simp only [hu1.out] at c1
  have hq : ∀ w', (binOp .eql 35 (.agg u1.toArray) (.agg u1.toArray)).run Tryd.prog w' = .ok (.bool true) w' := by rw [← hu1.out]; exact hq
  refine hs_begin (S := (Below w8.heap.size w8)) 16 rfl (by kernel_rfl) ?_
  rw [hw8]
  clear hw8
  have hS : (Below w8.heap.size w8) w8 := Below.refl _ _
  refine hs_take (i := 0) (d := some 41) (v := ?_) rfl (by kernel_rfl) (by kernel_rfl) (by kernel_rfl) (by rfl) ?_ hS rfl ?_
  rotate_left
  · intro w' hw
    go_simp
    try with_reducible rfl
  simp only [Act.put, List.setIfInBounds_toArray, List.set_cons_zero, List.set_cons_succ]
  refine hs_take (i := 1) (d := some 42) (v := ?_) rfl (by kernel_rfl) (by kernel_rfl) (by kernel_rfl) (by rfl) ?_ hS rfl ?_
  rotate_left
  · intro w' hw
    go_simp
    try with_reducible rfl
  simp only [Act.put, List.setIfInBounds_toArray, List.set_cons_zero, List.set_cons_succ]
  refine hs_take (i := 2) (d := some 43) (v := ?_) rfl (by kernel_rfl) (by kernel_rfl) (by kernel_rfl) (by rfl) ?_ hS rfl ?_
  rotate_left
  · intro w' hw
    go_simp
    try with_reducible rfl
  simp only [Act.put, List.setIfInBounds_toArray, List.set_cons_zero, List.set_cons_succ]
  refine hs_take (i := 3) (d := some 44) (v := ?_) rfl (by kernel_rfl) (by kernel_rfl) (by kernel_rfl) (by rfl) ?_ hS rfl ?_
  rotate_left
  · intro w' hw
    go_simp
    try with_reducible rfl
  simp only [Act.put, List.setIfInBounds_toArray, List.set_cons_zero, List.set_cons_succ]
  refine hs_take (i := 4) (d := some 45) (v := ?_) rfl (by kernel_rfl) (by kernel_rfl) (by kernel_rfl) (by rfl) ?_ hS rfl ?_
  rotate_left
  · intro w' hw
    go_simp
    try with_reducible rfl
  simp only [Act.put, List.setIfInBounds_toArray, List.set_cons_zero, List.set_cons_succ]
  refine hs_take (i := 5) (d := some 46) (v := ?_) rfl (by kernel_rfl) (by kernel_rfl) (by kernel_rfl) (by rfl) ?_ hS rfl ?_
  rotate_left
  · intro w' hw
    go_simp
    try with_reducible rfl
  simp only [Act.put, List.setIfInBounds_toArray, List.set_cons_zero, List.set_cons_succ]
  refine hs_take (i := 6) (d := some 47) (v := .agg u1.toArray) rfl (by kernel_rfl) (by kernel_rfl) (by kernel_rfl) (by rfl) (fun w' hw => exec_load rfl rfl (run_loadVar_mid (P := Tryd.prog) w' lb loff 35 u1 _ (range_below hre hw hlb) Tryd.underlying35 rfl hiu)) hS rfl ?_
  simp only [Act.put, List.setIfInBounds_toArray, List.set_cons_zero, List.set_cons_succ]
  refine hs_call (i := 7) (d := some 48) rfl (by kernel_rfl) (by rfl) (by go_simp; first | done | exact ⟨rfl, rfl⟩ | with_reducible rfl) rfl ?_
  refine (c1 w8).mono ?_
  rintro e' wA ⟨rfl, hbA⟩
  have hS : (Below w8.heap.size w8) wA := hbA
  refine ⟨_, rfl, hS, ?_⟩
  simp only [Act.put, List.setIfInBounds_toArray, List.set_cons_zero, List.set_cons_succ]
  refine hs_take (i := 8) (d := some 49) (v := .bool true) rfl (by kernel_rfl) (by kernel_rfl) (by kernel_rfl) (by rfl) (fun w' hw => by have hq := hq w'; go_simp) hS rfl ?_
  simp only [Act.put, List.setIfInBounds_toArray, List.set_cons_zero, List.set_cons_succ]
  refine hs_take (i := 9) (d := some 50) (v := ?_) rfl (by kernel_rfl) (by kernel_rfl) (by kernel_rfl) (by rfl) ?_ hS rfl ?_
  rotate_left
  · intro w' hw
    go_simp
    try with_reducible rfl
  simp only [Act.put, List.setIfInBounds_toArray, List.set_cons_zero, List.set_cons_succ]
  refine hs_take (i := 10) (d := some 51) (v := ?_) rfl (by kernel_rfl) (by kernel_rfl) (by kernel_rfl) (by rfl) ?_ hS rfl ?_
  rotate_left
  · intro w' hw
    go_simp
    try with_reducible rfl
  simp only [Act.put, List.setIfInBounds_toArray, List.set_cons_zero, List.set_cons_succ]
  refine hs_take (i := 11) (d := some 52) (v := ?_) rfl (by kernel_rfl) (by kernel_rfl) (by kernel_rfl) (by rfl) ?_ hS rfl ?_
  rotate_left
  · intro w' hw
    go_simp
    try with_reducible rfl
  simp only [Act.put, List.setIfInBounds_toArray, List.set_cons_zero, List.set_cons_succ]
  refine hs_call (i := 12) (d := some 53) rfl (by kernel_rfl) (by rfl) (by go_simp; first | done | exact ⟨rfl, rfl⟩ | with_reducible rfl) rfl ?_
  refine (cl wA (hP8.below hbA)).mono ?_
  rintro e' wB ⟨rfl, hx⟩
  have hS : (Below w8.heap.size w8) wB := by rw [hx]; exact hbA
  refine ⟨_, rfl, hS, ?_⟩
  simp only [Act.put, List.setIfInBounds_toArray, List.set_cons_zero, List.set_cons_succ]
  refine hs_take (i := 13) (d := some 54) (v := ?_) rfl (by kernel_rfl) (by kernel_rfl) (by kernel_rfl) (by rfl) ?_ hS rfl ?_
  rotate_left
  · intro w' hw
    go_simp
    try with_reducible rfl
  simp only [Act.put, List.setIfInBounds_toArray, List.set_cons_zero, List.set_cons_succ]
  refine hs_take (i := 14) (d := some 55) (v := ?_) rfl (by kernel_rfl) (by kernel_rfl) (by kernel_rfl) (by rfl) ?_ hS rfl ?_
  rotate_left
  · intro w' hw
    go_simp
    try with_reducible rfl
  simp only [Act.put, List.setIfInBounds_toArray, List.set_cons_zero, List.set_cons_succ]
  refine hs_take (i := 15) (d := some 0) (v := ?_) rfl (by kernel_rfl) (by kernel_rfl) (by kernel_rfl) (by rfl) ?_ hS rfl ?_
  rotate_left
  · intro w' hw
    go_simp
    try with_reducible rfl
  simp only [Act.put, List.setIfInBounds_toArray, List.set_cons_zero]
  refine hs_done (by kernel_rfl) ?_
  go_wp2_with fail
  go_ret
  exact ⟨rfl, (h6.below (hB8.trans (hS.mono hB8.size))).b⟩
end Go.Proofs.YtbfcbjjhdadicaaDoor
