/- a config by value an epoch by value the document's Good of an epoch: a contract. Of, the document's Same: contracts. the document of an epoch: End, Owner, Primary the document's Slots of an epoch rows of ints compared; epochs compared Bucket of an epoch the walk of EpochTells EpochTells: for every two epochs, slot, leader and view the law answers true and its arguments read as before. Conditions: none beyond the row's own; the card ties the tables 'starts' and 'roots' of package digest to the program's text (of the pruned copy of the project). -/
import Derived.Test.YtnndlgdlligjbabDoorLBox
import Derived.Test.YtnndlgdlligjbabDoorRows
import Derived.ProofKit
import Derived.OpenShut
import Derived.ShutString
import Derived.ChangeOld
import Derived.Below
import Derived.Test.YtnndlgdlligjbabDoorLEp1
import Derived.Test.YtnndlgdlligjbabDoorLEp5
import Derived.Test.YtnndlgdlligjbabDoorBucket
import Derived.Test.YtnndlgdlligjbabDoorLRef2
import Derived.Test.YtnndlgdlligjbabDoorFrame
namespace Go.Proofs.YtnndlgdlligjbabDoor.Ld
open Go.ChangeShapes Go.WideShapes Go.ChangeAt Go.RowKit
theorem wf64 {z : Int} (h : (Lit.int .i64 z).wf = true) : -9223372036854775808 ≤ z ∧ z ≤ 9223372036854775807 := by
  simp only [Lit.wf, Bool.and_eq_true, decide_eq_true_eq] at h
  exact h
theorem some_at {α : Type} {xs : List α} {n i : Nat} (hl : xs.length = n) (hi : i < n) : ∃ y, xs[i]? = some y := ⟨xs[i]'(by omega), List.getElem?_eq_getElem (by omega)⟩
theorem drop_one {α : Type} {l : List α} {o : Nat} {v : α} (h : (l.drop o).take 1 = [v]) : l[o]? = some v := by
  have := congrArg (·[0]?) h
  simpa [List.getElem?_take, List.getElem?_drop] using this
set_option maxRecDepth 100000 in
theorem open_cfg {H : Type} {enc : TypeId × Value → H} {W : World} {base b : Nat} {sp : Nat → Bool} {held : Bool} {fuel : Nat} {v : Value} {x : DataW H × List MemPlace} (hv : Value.okWide Tryd.prog W .any base 23 v)
    (h : DataW.trod enc Tryd.prog W b sp held fuel 23 v.cells.toList = some x) : ∃ c : Cfg, v = (.agg #[.int .i64 c.n, .int .i64 c.cl, .int .i64 c.wi, .int .i64 c.bu, .int .i64 c.ca, .int .i64 c.sl, .int .i64 c.rq, .int .i64 c.ti, .int .i64 c.pe, .int .i64 c.la]) := by
  unfold Value.okWide at hv
  rw [Tryd.underlying23] at hv
  obtain ⟨cs, rfl, hsz, _⟩ := hv
  have hct : Tryd.prog.cellsOf 23 = 10 := by kernel_rfl
  have hci : Tryd.prog.cellsOf 3 = 1 := by kernel_rfl
  rw [hct] at hsz
  obtain ⟨xs, m, _, rfl, _, hl, hf⟩ := DataW.trod_struct Tryd.underlying23 h
  have hl : xs.length = 10 := hl
  simp only [Value.cells] at hf
  have h0 : DataW.trod enc Tryd.prog W b sp held m 3 ((cs.toList.drop 0).take (Tryd.prog.cellsOf 3)) = xs[0]? := hf 0 _ rfl
  rw [hci] at h0
  obtain ⟨y0, e0⟩ := some_at hl (show 0 < 10 by omega)
  obtain ⟨B0, g0, rfl, hw0⟩ := DataW.trod_int Tryd.underlying3 (h0.trans e0)
  have g0 := drop_one g0
  have h1 : DataW.trod enc Tryd.prog W b sp held m 3 ((cs.toList.drop 1).take (Tryd.prog.cellsOf 3)) = xs[1]? := hf 1 _ rfl
  rw [hci] at h1
  obtain ⟨y1, e1⟩ := some_at hl (show 1 < 10 by omega)
  obtain ⟨B1, g1, rfl, hw1⟩ := DataW.trod_int Tryd.underlying3 (h1.trans e1)
  have g1 := drop_one g1
  have h2 : DataW.trod enc Tryd.prog W b sp held m 3 ((cs.toList.drop 2).take (Tryd.prog.cellsOf 3)) = xs[2]? := hf 2 _ rfl
  rw [hci] at h2
  obtain ⟨y2, e2⟩ := some_at hl (show 2 < 10 by omega)
  obtain ⟨B2, g2, rfl, hw2⟩ := DataW.trod_int Tryd.underlying3 (h2.trans e2)
  have g2 := drop_one g2
  have h3 : DataW.trod enc Tryd.prog W b sp held m 3 ((cs.toList.drop 3).take (Tryd.prog.cellsOf 3)) = xs[3]? := hf 3 _ rfl
  rw [hci] at h3
  obtain ⟨y3, e3⟩ := some_at hl (show 3 < 10 by omega)
  obtain ⟨B3, g3, rfl, hw3⟩ := DataW.trod_int Tryd.underlying3 (h3.trans e3)
  have g3 := drop_one g3
  have h4 : DataW.trod enc Tryd.prog W b sp held m 3 ((cs.toList.drop 4).take (Tryd.prog.cellsOf 3)) = xs[4]? := hf 4 _ rfl
  rw [hci] at h4
  obtain ⟨y4, e4⟩ := some_at hl (show 4 < 10 by omega)
  obtain ⟨B4, g4, rfl, hw4⟩ := DataW.trod_int Tryd.underlying3 (h4.trans e4)
  have g4 := drop_one g4
  have h5 : DataW.trod enc Tryd.prog W b sp held m 3 ((cs.toList.drop 5).take (Tryd.prog.cellsOf 3)) = xs[5]? := hf 5 _ rfl
  rw [hci] at h5
  obtain ⟨y5, e5⟩ := some_at hl (show 5 < 10 by omega)
  obtain ⟨B5, g5, rfl, hw5⟩ := DataW.trod_int Tryd.underlying3 (h5.trans e5)
  have g5 := drop_one g5
  have h6 : DataW.trod enc Tryd.prog W b sp held m 3 ((cs.toList.drop 6).take (Tryd.prog.cellsOf 3)) = xs[6]? := hf 6 _ rfl
  rw [hci] at h6
  obtain ⟨y6, e6⟩ := some_at hl (show 6 < 10 by omega)
  obtain ⟨B6, g6, rfl, hw6⟩ := DataW.trod_int Tryd.underlying3 (h6.trans e6)
  have g6 := drop_one g6
  have h7 : DataW.trod enc Tryd.prog W b sp held m 3 ((cs.toList.drop 7).take (Tryd.prog.cellsOf 3)) = xs[7]? := hf 7 _ rfl
  rw [hci] at h7
  obtain ⟨y7, e7⟩ := some_at hl (show 7 < 10 by omega)
  obtain ⟨B7, g7, rfl, hw7⟩ := DataW.trod_int Tryd.underlying3 (h7.trans e7)
  have g7 := drop_one g7
  have h8 : DataW.trod enc Tryd.prog W b sp held m 3 ((cs.toList.drop 8).take (Tryd.prog.cellsOf 3)) = xs[8]? := hf 8 _ rfl
  rw [hci] at h8
  obtain ⟨y8, e8⟩ := some_at hl (show 8 < 10 by omega)
  obtain ⟨B8, g8, rfl, hw8⟩ := DataW.trod_int Tryd.underlying3 (h8.trans e8)
  have g8 := drop_one g8
  have h9 : DataW.trod enc Tryd.prog W b sp held m 3 ((cs.toList.drop 9).take (Tryd.prog.cellsOf 3)) = xs[9]? := hf 9 _ rfl
  rw [hci] at h9
  obtain ⟨y9, e9⟩ := some_at hl (show 9 < 10 by omega)
  obtain ⟨B9, g9, rfl, hw9⟩ := DataW.trod_int Tryd.underlying3 (h9.trans e9)
  have g9 := drop_one g9
  refine ⟨⟨B0, B1, B2, B3, B4, B5, B6, B7, B8, B9⟩, ?_⟩
  congr 1
  apply Array.ext'
  have hcl : cs.toList.length = 10 := by simpa using hsz
  generalize cs.toList = l at *
  match l, hcl with
  | [a0, a1, a2, a3, a4, a5, a6, a7, a8, a9], _ =>
    simp at g0 g1 g2 g3 g4 g5 g6 g7 g8 g9
    subst g0 g1 g2 g3 g4 g5 g6 g7 g8 g9
    rfl
end Go.Proofs.YtnndlgdlligjbabDoor.Ld
namespace Go.Proofs.YtnndlgdlligjbabDoor.Ld
open Go.ChangeShapes Go.WideShapes Go.ChangeAt Go.RowKit
theorem take10 {α : Type} {l : List α} {i : Nat} {v : α} (hi : i < 10) (h : ((l.drop 0).take 10)[i]? = some v) : l[i]? = some v := by
  rw [List.drop_zero, List.getElem?_take, if_pos hi] at h
  exact h
set_option maxRecDepth 100000 in
set_option maxHeartbeats 2000000 in
theorem open_ep {H : Type} {enc : TypeId × Value → H} {W : World} {base b : Nat} {held : Bool} {fuel : Nat} {v : Value} {x : DataW H × List MemPlace} (hv : Value.okWide Tryd.prog W .any base 26 v)
    (h : DataW.trod enc Tryd.prog W b (fun _ => true) held fuel 26 v.cells.toList = some x) :
    ∃ (c : Cfg) (n s : Int) (a : Option Addr) (len cap : Nat) (zs : List Int), v = .agg #[.int .i64 c.n, .int .i64 c.cl, .int .i64 c.wi, .int .i64 c.bu, .int .i64 c.ca, .int .i64 c.sl, .int .i64 c.rq, .int .i64 c.ti, .int .i64 c.pe, .int .i64 c.la, .int .i64 n, .int .i64 s, .slice a len cap] ∧ IsRow .i64 W a len cap zs ∧ ((-9223372036854775808 ≤ n ∧ n ≤ 9223372036854775807) ∧ -9223372036854775808 ≤ s ∧ s ≤ 9223372036854775807) := by
  unfold Value.okWide at hv
  rw [Tryd.underlying26] at hv
  obtain ⟨cs, rfl, hsz, _⟩ := hv
  have hct : Tryd.prog.cellsOf 26 = 13 := by kernel_rfl
  have hcc : Tryd.prog.cellsOf 23 = 10 := by kernel_rfl
  have hci : Tryd.prog.cellsOf 3 = 1 := by kernel_rfl
  have hcl : Tryd.prog.cellsOf 24 = 1 := by kernel_rfl
  rw [hct] at hsz
  obtain ⟨xs, m, _, rfl, _, hl, hf⟩ := DataW.trod_struct Tryd.underlying26 h
  have hl : xs.length = 4 := hl
  simp only [Value.cells] at hf
  have k0 : DataW.trod enc Tryd.prog W b (fun _ => true) held m 23 ((cs.toList.drop 0).take (Tryd.prog.cellsOf 23)) = xs[0]? := hf 0 _ rfl
  have k1 : DataW.trod enc Tryd.prog W b (fun _ => true) held m 3 ((cs.toList.drop 10).take (Tryd.prog.cellsOf 3)) = xs[1]? := hf 1 _ rfl
  have k2 : DataW.trod enc Tryd.prog W b (fun _ => true) held m 3 ((cs.toList.drop 11).take (Tryd.prog.cellsOf 3)) = xs[2]? := hf 2 _ rfl
  have k3 : DataW.trod enc Tryd.prog W b (fun _ => true) held m 24 ((cs.toList.drop 12).take (Tryd.prog.cellsOf 24)) = xs[3]? := hf 3 _ rfl
  rw [hcc] at k0
  rw [hci] at k1 k2
  rw [hcl] at k3
  obtain ⟨x0, f0⟩ := some_at hl (show 0 < 4 by omega)
  obtain ⟨x1, f1⟩ := some_at hl (show 1 < 4 by omega)
  obtain ⟨x2, f2⟩ := some_at hl (show 2 < 4 by omega)
  obtain ⟨x3, f3⟩ := some_at hl (show 3 < 4 by omega)
  obtain ⟨n, gn, _, hwn⟩ := DataW.trod_int Tryd.underlying3 (k1.trans f1)
  obtain ⟨s, gs, _, hws⟩ := DataW.trod_int Tryd.underlying3 (k2.trans f2)
  have gn := drop_one gn
  have gs := drop_one gs
  obtain ⟨ys, m2, _, _, _, hl2, hf2⟩ := DataW.trod_struct Tryd.underlying23 (k0.trans f0)
  have hl2 : ys.length = 10 := hl2
  have h0 : DataW.trod enc Tryd.prog W b (fun _ => true) held m2 3 ((((cs.toList.drop 0).take 10).drop 0).take (Tryd.prog.cellsOf 3)) = ys[0]? := hf2 0 _ rfl
  rw [hci] at h0
  obtain ⟨y0, e0⟩ := some_at hl2 (show 0 < 10 by omega)
  obtain ⟨B0, g0, _, hw0⟩ := DataW.trod_int Tryd.underlying3 (h0.trans e0)
  have g0 := drop_one g0
  have h1 : DataW.trod enc Tryd.prog W b (fun _ => true) held m2 3 ((((cs.toList.drop 0).take 10).drop 1).take (Tryd.prog.cellsOf 3)) = ys[1]? := hf2 1 _ rfl
  rw [hci] at h1
  obtain ⟨y1, e1⟩ := some_at hl2 (show 1 < 10 by omega)
  obtain ⟨B1, g1, _, hw1⟩ := DataW.trod_int Tryd.underlying3 (h1.trans e1)
  have g1 := drop_one g1
  have h2 : DataW.trod enc Tryd.prog W b (fun _ => true) held m2 3 ((((cs.toList.drop 0).take 10).drop 2).take (Tryd.prog.cellsOf 3)) = ys[2]? := hf2 2 _ rfl
  rw [hci] at h2
  obtain ⟨y2, e2⟩ := some_at hl2 (show 2 < 10 by omega)
  obtain ⟨B2, g2, _, hw2⟩ := DataW.trod_int Tryd.underlying3 (h2.trans e2)
  have g2 := drop_one g2
  have h3 : DataW.trod enc Tryd.prog W b (fun _ => true) held m2 3 ((((cs.toList.drop 0).take 10).drop 3).take (Tryd.prog.cellsOf 3)) = ys[3]? := hf2 3 _ rfl
  rw [hci] at h3
  obtain ⟨y3, e3⟩ := some_at hl2 (show 3 < 10 by omega)
  obtain ⟨B3, g3, _, hw3⟩ := DataW.trod_int Tryd.underlying3 (h3.trans e3)
  have g3 := drop_one g3
  have h4 : DataW.trod enc Tryd.prog W b (fun _ => true) held m2 3 ((((cs.toList.drop 0).take 10).drop 4).take (Tryd.prog.cellsOf 3)) = ys[4]? := hf2 4 _ rfl
  rw [hci] at h4
  obtain ⟨y4, e4⟩ := some_at hl2 (show 4 < 10 by omega)
  obtain ⟨B4, g4, _, hw4⟩ := DataW.trod_int Tryd.underlying3 (h4.trans e4)
  have g4 := drop_one g4
  have h5 : DataW.trod enc Tryd.prog W b (fun _ => true) held m2 3 ((((cs.toList.drop 0).take 10).drop 5).take (Tryd.prog.cellsOf 3)) = ys[5]? := hf2 5 _ rfl
  rw [hci] at h5
  obtain ⟨y5, e5⟩ := some_at hl2 (show 5 < 10 by omega)
  obtain ⟨B5, g5, _, hw5⟩ := DataW.trod_int Tryd.underlying3 (h5.trans e5)
  have g5 := drop_one g5
  have h6 : DataW.trod enc Tryd.prog W b (fun _ => true) held m2 3 ((((cs.toList.drop 0).take 10).drop 6).take (Tryd.prog.cellsOf 3)) = ys[6]? := hf2 6 _ rfl
  rw [hci] at h6
  obtain ⟨y6, e6⟩ := some_at hl2 (show 6 < 10 by omega)
  obtain ⟨B6, g6, _, hw6⟩ := DataW.trod_int Tryd.underlying3 (h6.trans e6)
  have g6 := drop_one g6
  have h7 : DataW.trod enc Tryd.prog W b (fun _ => true) held m2 3 ((((cs.toList.drop 0).take 10).drop 7).take (Tryd.prog.cellsOf 3)) = ys[7]? := hf2 7 _ rfl
  rw [hci] at h7
  obtain ⟨y7, e7⟩ := some_at hl2 (show 7 < 10 by omega)
  obtain ⟨B7, g7, _, hw7⟩ := DataW.trod_int Tryd.underlying3 (h7.trans e7)
  have g7 := drop_one g7
  have h8 : DataW.trod enc Tryd.prog W b (fun _ => true) held m2 3 ((((cs.toList.drop 0).take 10).drop 8).take (Tryd.prog.cellsOf 3)) = ys[8]? := hf2 8 _ rfl
  rw [hci] at h8
  obtain ⟨y8, e8⟩ := some_at hl2 (show 8 < 10 by omega)
  obtain ⟨B8, g8, _, hw8⟩ := DataW.trod_int Tryd.underlying3 (h8.trans e8)
  have g8 := drop_one g8
  have h9 : DataW.trod enc Tryd.prog W b (fun _ => true) held m2 3 ((((cs.toList.drop 0).take 10).drop 9).take (Tryd.prog.cellsOf 3)) = ys[9]? := hf2 9 _ rfl
  rw [hci] at h9
  obtain ⟨y9, e9⟩ := some_at hl2 (show 9 < 10 by omega)
  obtain ⟨B9, g9, _, hw9⟩ := DataW.trod_int Tryd.underlying3 (h9.trans e9)
  have g9 := drop_one g9
  have hcl2 : cs.toList.length = 13 := by simpa using hsz
  have fin : ∀ (a : Option Addr) (len cap : Nat), cs.toList[12]? = some (.slice a len cap) → Value.agg cs = .agg #[.int .i64 B0, .int .i64 B1, .int .i64 B2, .int .i64 B3, .int .i64 B4, .int .i64 B5, .int .i64 B6, .int .i64 B7, .int .i64 B8, .int .i64 B9, .int .i64 n, .int .i64 s, .slice a len cap] := by
    intro a len cap gl
    congr 1
    apply Array.ext'
    have g0 := take10 (by omega) g0
    have g1 := take10 (by omega) g1
    have g2 := take10 (by omega) g2
    have g3 := take10 (by omega) g3
    have g4 := take10 (by omega) g4
    have g5 := take10 (by omega) g5
    have g6 := take10 (by omega) g6
    have g7 := take10 (by omega) g7
    have g8 := take10 (by omega) g8
    have g9 := take10 (by omega) g9
    generalize cs.toList = l at *
    match l, hcl2 with
    | [a0, a1, a2, a3, a4, a5, a6, a7, a8, a9, a10, a11, a12], _ =>
      simp at g0 g1 g2 g3 g4 g5 g6 g7 g8 g9 gn gs gl
      subst g0 g1 g2 g3 g4 g5 g6 g7 g8 g9 gn gs gl
      rfl
  rcases open_ints Tryd.underlying24 Tryd.underlying3 hci (k3.trans f3) with ⟨hcs, _⟩ | ⟨ad, l, c, zs, hcs, _, hl3, hm, hz, _, hcell, hwz⟩
  · exact ⟨⟨B0, B1, B2, B3, B4, B5, B6, B7, B8, B9⟩, n, s, none, 0, 0, [], fin none 0 0 (drop_one hcs), .inl ⟨rfl, rfl, rfl, rfl⟩, wf64 hwn, wf64 hws⟩
  · exact ⟨⟨B0, B1, B2, B3, B4, B5, B6, B7, B8, B9⟩, n, s, some ad, l, c, zs, fin (some ad) l c (drop_one hcs), .inr ⟨ad, rfl, hl3, hm, by simpa using hz, hcell, hwz⟩, wf64 hwn, wf64 hws⟩
end Go.Proofs.YtnndlgdlligjbabDoor.Ld
namespace Go.Proofs.YtnndlgdlligjbabDoor.Ld
open Go.RowKit Go.Shelf
set_option maxRecDepth 100000 in
set_option maxHeartbeats 16000000 in
theorem regood_any (c : Cfg) (n s : Int) (a : Option Addr) (cap : Nat) (zs : List Int) (w : World) (hr : RowI w a zs) (hl : zs.length ≤ 100000) :
    Calls Tryd.prog 8 #[(.agg #[.int .i64 c.n, .int .i64 c.cl, .int .i64 c.wi, .int .i64 c.bu, .int .i64 c.ca, .int .i64 c.sl, .int .i64 c.rq, .int .i64 c.ti, .int .i64 c.pe, .int .i64 c.la, .int .i64 n, .int .i64 s, .slice a zs.length cap])] w fun e w' => e = .returned (.bool (goodE c n s zs)) ∧ Below w.heap.size w w' := by
  have hB1 : Below w.heap.size w (w.alloc (.cells #[.int .i64 c.n, .int .i64 c.cl, .int .i64 c.wi, .int .i64 c.bu, .int .i64 c.ca, .int .i64 c.sl, .int .i64 c.rq, .int .i64 c.ti, .int .i64 c.pe, .int .i64 c.la, .int .i64 n, .int .i64 s, .slice a zs.length cap] 28)) := (Below.refl _ w).alloc (Nat.le_refl _) _
  have k0 := REpAt.new w c n s a cap zs
  have fin : ∀ {W W' : World}, Below w.heap.size w W → Below W.heap.size W W' → Below w.heap.size w W' := fun h k => h.trans (k.mono h.size)
  have c1 := fun w => rlgood_any c w
  have HG : Hid (goodE c n s zs = (goodC c && decide (1 ≤ n ∧ n ≤ c.la) && decide (0 < zs.length) && risingB c.n zs && decide (1 ≤ s ∧ s ≤ 1099511627776 - (zs.length : Int) * c.sl))) := hide rfl
  go_enter Tryd.func8, Tryd.ntmps8
  go_wp2_with fail
  obtain ⟨w1, hw1⟩ : ∃ w1, w.alloc (.cells #[.int .i64 c.n, .int .i64 c.cl, .int .i64 c.wi, .int .i64 c.bu, .int .i64 c.ca, .int .i64 c.sl, .int .i64 c.rq, .int .i64 c.ti, .int .i64 c.pe, .int .i64 c.la, .int .i64 n, .int .i64 s, .slice a zs.length cap] 28) = w1 := ⟨_, rfl⟩
  rw [hw1] at hB1 k0 ⊢
  clear hw1
  cases hm : goodC c
  · simp only [errC_no hm] at c1
    rw [hm] at HG
    refine (c1 w1).mono ?_
    rintro e w4 ⟨rfl, hb4⟩
    clear hm c1
    go_wp2_with fail
    go_ret
    exact ⟨ret_bool (by rw [HG.out]; simp), fin hB1 hb4⟩
  · simp only [errC_yes hm] at c1
    rw [hm] at HG
    obtain ⟨N, B, ok⟩ := cfgOk hm
    have hsl := ok.sl
    refine (c1 w1).mono ?_
    rintro e w4 ⟨rfl, hb4⟩
    have hB4 := fin hB1 hb4
    have k4 := k0.below hb4
    obtain ⟨p0, p1, p2, p3, p4, p5, p6, p7, p8, p9, pn, ps, pl⟩ := k4.cells
    clear hm c1 ok hb4 k0 hB1
    by_cases hn1 : 1 ≤ n
    · have d1 : decide (n < 1) = false := decide_eq_false (by omega)
      by_cases hn2 : n ≤ c.la
      · have d2 : decide (c.la < n) = false := decide_eq_false (by omega)
        rw [decide_eq_true (show 1 ≤ n ∧ n ≤ c.la from ⟨hn1, hn2⟩)] at HG
        by_cases hz : 0 < zs.length
        · have d3 : ((zs.length : Int) == 0) = false := by rw [beq_eq_false_iff_ne]; omega
          rw [decide_eq_true hz] at HG
          go_wp2_with fail
          clear p0 p1 p2 p3 p4 p5 p6 p7 p8 p9 pn ps pl
          clear d1 d2 d3
          go_loopw [3] (fun iv wr => ∃ (k : Nat) (h : Int), k ≤ zs.length ∧ iv = .int .i64 (k : Int) ∧ -1 ≤ h ∧ (k = 0 → h = -1) ∧ (∀ i (hi : i < zs.length), k = i + 1 → zs[i] = h) ∧ Hid (risingB c.n zs = risingF c.n h (zs.drop k)) ∧ Below w4.heap.size w4 wr) (fun iv _ => zs.length - (intOf iv).toNat)
          case atStart => exact ⟨0, -1, by omega, rfl, by omega, fun _ => rfl, fun i hi h => absurd h (by omega), hide rfl, Below.refl _ _⟩
          case round =>
            obtain ⟨k, h, hk, rfl, hh, hh0, hhk, HR, hb⟩ := hrel
            obtain ⟨p0, p1, p2, p3, p4, p5, p6, p7, p8, p9, pn, ps, pl⟩ := (k4.below hb).cells
            clear p1 p2 p3 p4 p6 p7 p8 p9 pn
            by_cases hlt : k < zs.length
            · obtain ⟨bb, off, rfl, hc⟩ := rowI_cell hr (fin hB4 hb) hlt
              have k1 : (k : Int) < zs.length := by omega
              have HS := hide (risingF_step (N := c.n) (ahead := h) hlt)
              obtain ⟨x, hx⟩ : ∃ x, zs[k] = x := ⟨_, rfl⟩
              have HX : Hid (zs[k] = x) := hide hx
              rw [hx] at hc
              simp only [hx] at HS
              clear hx
              clear p5 ps
              by_cases h1 : x < 0
              · have e1 : decide (x < 0) = true := decide_eq_true h1
                clear hhk hh0
                go_wp2
                go_quiet (fail)
                go_wp2
                go_ret
                exact ⟨ret_bool (by rw [HG.out, HR.out, HS.out, decide_eq_false (by omega)]; simp), fin hB4 (below_drewN hb _)⟩
              · have e1 : decide (x < 0) = false := decide_eq_false h1
                by_cases h2 : x < c.n
                · have e2 : decide (c.n ≤ x) = false := decide_eq_false (by omega)
                  by_cases hk0 : k = 0
                  · subst hk0
                    have hh0 := hh0 rfl
                    simp only [Nat.add_zero] at hc
                    clear hhk
                    go_wp2
                    go_quiet (fail)
                    go_wp2
                    go_roundw
                    case rel => exact ⟨1, x, by omega, by go_num, by omega, fun h => absurd h (by omega), fun j hj he => by obtain rfl : j = 0 := (by omega); exact HX.out, hide (by rw [HR.out, HS.out, decide_eq_true ⟨by omega, by omega⟩, Bool.true_and]), below_drewN hb _⟩
                    case measure => simp [intOf]; omega
                  · obtain ⟨i, rfl⟩ : ∃ i, k = i + 1 := ⟨k - 1, by omega⟩
                    have hy := hhk i (by omega) rfl
                    obtain ⟨bb', off', hbb, hc2⟩ := rowI_cell hr (fin hB4 hb) (show i < zs.length by omega)
                    cases hbb
                    rw [hy] at hc2
                    clear hhk hh0 hy
                    have e4 : decide ((0 : Int) < (i : Int) + 1) = true := decide_eq_true (by omega)
                    by_cases h3 : h < x
                    · have e3 : decide (x ≤ h) = false := decide_eq_false (by omega)
                      go_wp2
                      go_quiet (fail)
                      go_wp2
                      go_roundw
                      case rel => exact ⟨i + 2, x, by omega, by go_num, by omega, fun h => absurd h (by omega), fun j hj he => by obtain rfl : j = i + 1 := (by omega); exact HX.out, hide (by rw [HR.out, HS.out, decide_eq_true ⟨by omega, by omega⟩, Bool.true_and]), below_drewN hb _⟩
                      case measure => simp [intOf]; omega
                    · have e3 : decide (x ≤ h) = true := decide_eq_true (by omega)
                      go_wp2
                      go_quiet (fail)
                      go_wp2
                      go_ret
                      exact ⟨ret_bool (by rw [HG.out, HR.out, HS.out, decide_eq_false (by omega)]; simp), fin hB4 (below_drewN hb _)⟩
                · have e2 : decide (c.n ≤ x) = true := decide_eq_true (by omega)
                  clear hhk hh0
                  go_wp2
                  go_quiet (fail)
                  go_wp2
                  go_ret
                  exact ⟨ret_bool (by rw [HG.out, HR.out, HS.out, decide_eq_false (by omega)]; simp), fin hB4 (below_drewN hb _)⟩
            · obtain rfl : k = zs.length := by omega
              obtain ⟨S, hS⟩ := Int.eq_ofNat_of_zero_le (show 0 ≤ c.sl by omega)
              have hmul : (zs.length : Int) * c.sl = ((zs.length * S : Nat) : Int) := by rw [show c.sl = (S : Int) from hS]; exact mul_cast _ _
              have hM2 : zs.length * S ≤ 400000 := by
                have : S ≤ 4 := by omega
                exact Nat.le_trans (Nat.mul_le_mul hl this) (by decide)
              obtain ⟨M, hM⟩ : ∃ M, zs.length * S = M := ⟨_, rfl⟩
              rw [hM] at hmul hM2
              rw [hmul, HR.out, risingF_end] at HG
              clear hM hS hhk hh0 HR p0
              by_cases hs : 1 ≤ s
              · have d5 : decide (1 ≤ s) = true := decide_eq_true hs
                by_cases hs2 : s ≤ 1099511627776 - (M : Int)
                · have d6 : decide (s ≤ 1099511627776 - (M : Int)) = true := decide_eq_true hs2
                  go_wp2
                  go_ret
                  exact ⟨ret_bool (by rw [HG.out]; simp [hs, hs2]), fin hB4 hb⟩
                · have d6 : decide (s ≤ 1099511627776 - (M : Int)) = false := decide_eq_false hs2
                  go_wp2
                  go_ret
                  exact ⟨ret_bool (by rw [HG.out]; simp [hs2]), fin hB4 hb⟩
              · have d5 : decide (1 ≤ s) = false := decide_eq_false hs
                go_wp2
                go_ret
                exact ⟨ret_bool (by rw [HG.out]; simp; intros; omega), fin hB4 hb⟩
        · have hz0 : zs.length = 0 := by omega
          have d3 : ((zs.length : Int) == 0) = true := by simp [hz0]
          clear hz0
          go_wp2_with fail
          go_ret
          exact ⟨ret_bool (by rw [HG.out]; simp [hz]), hB4⟩
      · have d2 : decide (c.la < n) = true := decide_eq_true (by omega)
        go_wp2_with fail
        go_ret
        exact ⟨ret_bool (by rw [HG.out]; simp; intros; omega), hB4⟩
    · have d1 : decide (n < 1) = true := decide_eq_true (by omega)
      go_wp2_with fail
      go_ret
      exact ⟨ret_bool (by rw [HG.out]; simp; intros; omega), hB4⟩
end Go.Proofs.YtnndlgdlligjbabDoor.Ld
namespace Go.Proofs.YtnndlgdlligjbabDoor.Ld
open Go.RowKit Go.Shelf
set_option maxRecDepth 100000 in
set_option maxHeartbeats 16000000 in
theorem of_any (c : Cfg) (n s : Int) (a : Option Addr) (cap : Nat) (zs : List Int) (w : World) : Calls Tryd.prog 6 #[(.agg #[.int .i64 c.n, .int .i64 c.cl, .int .i64 c.wi, .int .i64 c.bu, .int .i64 c.ca, .int .i64 c.sl, .int .i64 c.rq, .int .i64 c.ti, .int .i64 c.pe, .int .i64 c.la, .int .i64 n, .int .i64 s, .slice a zs.length cap])] w fun e w' => e = .returned (.agg #[.int .i64 c.n, .int .i64 c.cl, .int .i64 c.wi, .int .i64 c.bu, .int .i64 c.ca, .int .i64 c.sl, .int .i64 c.rq, .int .i64 c.ti, .int .i64 c.pe, .int .i64 c.la, .int .i64 n, .int .i64 s, .slice a zs.length cap]) ∧ Below w.heap.size w w' := by
  have hB1 : Below w.heap.size w ((w.alloc (.cells #[.int .i64 c.n, .int .i64 c.cl, .int .i64 c.wi, .int .i64 c.bu, .int .i64 c.ca, .int .i64 c.sl, .int .i64 c.rq, .int .i64 c.ti, .int .i64 c.pe, .int .i64 c.la, .int .i64 n, .int .i64 s, .slice a zs.length cap] 26)).alloc (.cells #[.int .i64 0, .int .i64 0, .int .i64 0, .int .i64 0, .int .i64 0, .int .i64 0, .int .i64 0, .int .i64 0, .int .i64 0, .int .i64 0, .int .i64 0, .int .i64 0, .slice none 0 0] 28)) := ((Below.refl _ w).alloc (Nat.le_refl _) _).alloc (by simp) _
  have k0 : EpAt ((w.alloc (.cells #[.int .i64 c.n, .int .i64 c.cl, .int .i64 c.wi, .int .i64 c.bu, .int .i64 c.ca, .int .i64 c.sl, .int .i64 c.rq, .int .i64 c.ti, .int .i64 c.pe, .int .i64 c.la, .int .i64 n, .int .i64 s, .slice a zs.length cap] 26)).alloc (.cells #[.int .i64 0, .int .i64 0, .int .i64 0, .int .i64 0, .int .i64 0, .int .i64 0, .int .i64 0, .int .i64 0, .int .i64 0, .int .i64 0, .int .i64 0, .int .i64 0, .slice none 0 0] 28)) w.heap.size c n s a cap zs := (EpAt.new w c n s a cap zs).below ((Below.refl _ _).alloc (Nat.le_refl _) _)
  have z0 : ((w.alloc (.cells #[.int .i64 c.n, .int .i64 c.cl, .int .i64 c.wi, .int .i64 c.bu, .int .i64 c.ca, .int .i64 c.sl, .int .i64 c.rq, .int .i64 c.ti, .int .i64 c.pe, .int .i64 c.la, .int .i64 n, .int .i64 s, .slice a zs.length cap] 26)).alloc (.cells #[.int .i64 0, .int .i64 0, .int .i64 0, .int .i64 0, .int .i64 0, .int .i64 0, .int .i64 0, .int .i64 0, .int .i64 0, .int .i64 0, .int .i64 0, .int .i64 0, .slice none 0 0] 28)).heap[w.heap.size + 1]? = some (.cells #[.int .i64 0, .int .i64 0, .int .i64 0, .int .i64 0, .int .i64 0, .int .i64 0, .int .i64 0, .int .i64 0, .int .i64 0, .int .i64 0, .int .i64 0, .int .i64 0, .slice none 0 0] 28 (0, 0)) := by
    have := World.alloc_heap_new (w.alloc (.cells #[.int .i64 c.n, .int .i64 c.cl, .int .i64 c.wi, .int .i64 c.bu, .int .i64 c.ca, .int .i64 c.sl, .int .i64 c.rq, .int .i64 c.ti, .int .i64 c.pe, .int .i64 c.la, .int .i64 n, .int .i64 s, .slice a zs.length cap] 26)) (.cells #[.int .i64 0, .int .i64 0, .int .i64 0, .int .i64 0, .int .i64 0, .int .i64 0, .int .i64 0, .int .i64 0, .int .i64 0, .int .i64 0, .int .i64 0, .int .i64 0, .slice none 0 0] 28)
    rwa [World.size_alloc] at this
  go_enter Tryd.func6, Tryd.ntmps6
  go_wp2_with (first | (refine wpList_load_row rfl 26 _ rfl w.heap.size rfl 26 #[.int .i64 c.n, .int .i64 c.cl, .int .i64 c.wi, .int .i64 c.bu, .int .i64 c.ca, .int .i64 c.sl, .int .i64 c.rq, .int .i64 c.ti, .int .i64 c.pe, .int .i64 c.la, .int .i64 n, .int .i64 s, .slice a zs.length cap] (0, 0) _ k0 Tryd.underlying26 rfl (by kernel_rfl) ?_) | (refine wpList_store_row rfl 28 _ _ rfl rfl (w.heap.size + 1) 28 _ #[.int .i64 c.n, .int .i64 c.cl, .int .i64 c.wi, .int .i64 c.bu, .int .i64 c.ca, .int .i64 c.sl, .int .i64 c.rq, .int .i64 c.ti, .int .i64 c.pe, .int .i64 c.la, .int .i64 n, .int .i64 s, .slice a zs.length cap] rfl rfl z0 (by kernel_rfl) rfl (by simp [Value.oneCell']) ?_))
  obtain ⟨w1, hw1⟩ : ∃ w1, (w.alloc (.cells #[.int .i64 c.n, .int .i64 c.cl, .int .i64 c.wi, .int .i64 c.bu, .int .i64 c.ca, .int .i64 c.sl, .int .i64 c.rq, .int .i64 c.ti, .int .i64 c.pe, .int .i64 c.la, .int .i64 n, .int .i64 s, .slice a zs.length cap] 26)).alloc (.cells #[.int .i64 0, .int .i64 0, .int .i64 0, .int .i64 0, .int .i64 0, .int .i64 0, .int .i64 0, .int .i64 0, .int .i64 0, .int .i64 0, .int .i64 0, .int .i64 0, .slice none 0 0] 28) = w1 := ⟨_, rfl⟩
  rw [hw1] at hB1 z0 ⊢
  have zf := setRow_heap w1 (w.heap.size + 1) _ #[.int .i64 c.n, .int .i64 c.cl, .int .i64 c.wi, .int .i64 c.bu, .int .i64 c.ca, .int .i64 c.sl, .int .i64 c.rq, .int .i64 c.ti, .int .i64 c.pe, .int .i64 c.la, .int .i64 n, .int .i64 s, .slice a zs.length cap] _ _ z0
  try simp only [Exit.inBlock, Exit.then]
  refine bodyPost_ret (results_cell rfl _ _ _ rfl (run_loadVar_row _ _ 28 28 _ (0, 0) _ zf Tryd.underlying28 rfl (by kernel_rfl))) rfl ?_
  exact ⟨rfl, hB1.trans (setRow_below (by omega))⟩
set_option maxRecDepth 100000 in
set_option maxHeartbeats 16000000 in
theorem resame_any (c : Cfg) (n s : Int) (a : Option Addr) (cap : Nat) (zs : List Int) (b : Option Addr) (cap2 : Nat) (w : World) (hr : RowI w a zs) (hr2 : RowI w b zs) (hl : zs.length ≤ 100000) :
    Calls Tryd.prog 10 #[(.agg #[.int .i64 c.n, .int .i64 c.cl, .int .i64 c.wi, .int .i64 c.bu, .int .i64 c.ca, .int .i64 c.sl, .int .i64 c.rq, .int .i64 c.ti, .int .i64 c.pe, .int .i64 c.la, .int .i64 n, .int .i64 s, .slice a zs.length cap]), .agg #[.int .i64 c.n, .int .i64 c.cl, .int .i64 c.wi, .int .i64 c.bu, .int .i64 c.ca, .int .i64 c.sl, .int .i64 c.rq, .int .i64 c.ti, .int .i64 c.pe, .int .i64 c.la, .int .i64 n, .int .i64 s, .slice b zs.length cap2]] w fun e w' => e = .returned (.bool true) ∧ Below w.heap.size w w' := by
  have hB1 : Below w.heap.size w ((w.alloc (.cells #[.int .i64 c.n, .int .i64 c.cl, .int .i64 c.wi, .int .i64 c.bu, .int .i64 c.ca, .int .i64 c.sl, .int .i64 c.rq, .int .i64 c.ti, .int .i64 c.pe, .int .i64 c.la, .int .i64 n, .int .i64 s, .slice a zs.length cap] 28)).alloc (.cells #[.int .i64 c.n, .int .i64 c.cl, .int .i64 c.wi, .int .i64 c.bu, .int .i64 c.ca, .int .i64 c.sl, .int .i64 c.rq, .int .i64 c.ti, .int .i64 c.pe, .int .i64 c.la, .int .i64 n, .int .i64 s, .slice b zs.length cap2] 28)) := ((Below.refl _ w).alloc (Nat.le_refl _) _).alloc (by simp) _
  have cI := ints_same a b cap cap2 zs _ (hr.below hB1) (hr2.below hB1) hl
  go_enter Tryd.func10, Tryd.ntmps10
  go_wp2_with fail
  refine cI.mono ?_
  rintro e w4 ⟨rfl, hb4⟩
  go_wp2_with fail
  go_ret
  exact ⟨rfl, hB1.trans (hb4.mono hB1.size)⟩
end Go.Proofs.YtnndlgdlligjbabDoor.Ld
namespace Go.Proofs.YtnndlgdlligjbabDoor.Ld
open Go.RowKit Go.Shelf
set_option maxRecDepth 100000 in
set_option maxHeartbeats 4000000 in
theorem reend_any (c : Cfg) (n s : Int) (a : Option Addr) (cap : Nat) (zs : List Int) (w : World) (hr : RowI w a zs) (hl : zs.length ≤ 100000) :
    Calls Tryd.prog 12 #[(.agg #[.int .i64 c.n, .int .i64 c.cl, .int .i64 c.wi, .int .i64 c.bu, .int .i64 c.ca, .int .i64 c.sl, .int .i64 c.rq, .int .i64 c.ti, .int .i64 c.pe, .int .i64 c.la, .int .i64 n, .int .i64 s, .slice a zs.length cap])] w fun e w' => e = .returned (.int .i64 (endE c n s zs)) ∧ Below w.heap.size w w' := by
  have hB1 : Below w.heap.size w (w.alloc (.cells #[.int .i64 c.n, .int .i64 c.cl, .int .i64 c.wi, .int .i64 c.bu, .int .i64 c.ca, .int .i64 c.sl, .int .i64 c.rq, .int .i64 c.ti, .int .i64 c.pe, .int .i64 c.la, .int .i64 n, .int .i64 s, .slice a zs.length cap] 28)) := (Below.refl _ w).alloc (Nat.le_refl _) _
  have k0 := REpAt.new w c n s a cap zs
  have fin : ∀ {W W' : World}, Below w.heap.size w W → Below W.heap.size W W' → Below w.heap.size w W' := fun h k => h.trans (k.mono h.size)
  have c1 := fun w h => regood_any c n s a cap zs w h hl
  go_enter Tryd.func12, Tryd.ntmps12
  go_wp2_with fail
  obtain ⟨w1, hw1⟩ : ∃ w1, w.alloc (.cells #[.int .i64 c.n, .int .i64 c.cl, .int .i64 c.wi, .int .i64 c.bu, .int .i64 c.ca, .int .i64 c.sl, .int .i64 c.rq, .int .i64 c.ti, .int .i64 c.pe, .int .i64 c.la, .int .i64 n, .int .i64 s, .slice a zs.length cap] 28) = w1 := ⟨_, rfl⟩
  rw [hw1] at hB1 k0 ⊢
  clear hw1
  cases hm : goodE c n s zs
  · simp only [hm] at c1
    have HE : Hid (endE c n s zs = 0) := hide (by simp [endE, hm])
    refine (c1 w1 (hr.below hB1)).mono ?_
    rintro e w4 ⟨rfl, hb4⟩
    clear hm c1
    go_wp2_with fail
    go_ret
    exact ⟨ret_int (by rw [HE.out]), fin hB1 hb4⟩
  · simp only [hm] at c1
    obtain ⟨N, B, S, M, ok, hMe⟩ := epOk hm
    have HE : Hid (endE c n s zs = s + (M : Int)) := hide (by simp [endE, hm, ok.many])
    have hM := ok.many_le
    have hst := ok.start
    have hmul := ok.many
    refine (c1 w1 (hr.below hB1)).mono ?_
    rintro e w4 ⟨rfl, hb4⟩
    have k4 := k0.below hb4
    have hB4 := fin hB1 hb4
    obtain ⟨p0, p1, p2, p3, p4, p5, p6, p7, p8, p9, pn, ps, pl⟩ := k4.cells
    clear hm c1 ok hMe k0 hB1 hb4
    go_wp2_with fail
    go_ret
    exact ⟨ret_int (by rw [HE.out]), hB4⟩
set_option maxRecDepth 100000 in
set_option maxHeartbeats 4000000 in
theorem reowner_any (c : Cfg) (n s : Int) (a : Option Addr) (cap : Nat) (zs : List Int) (x : Int) (w : World) (hr : RowI w a zs) (hl : zs.length ≤ 100000) :
    Calls Tryd.prog 14 #[(.agg #[.int .i64 c.n, .int .i64 c.cl, .int .i64 c.wi, .int .i64 c.bu, .int .i64 c.ca, .int .i64 c.sl, .int .i64 c.rq, .int .i64 c.ti, .int .i64 c.pe, .int .i64 c.la, .int .i64 n, .int .i64 s, .slice a zs.length cap]), .int .i64 x] w fun e w' => e = .returned (.int .i64 (ownE c n s zs x)) ∧ Below w.heap.size w w' := by
  have hB1 : Below w.heap.size w (w.alloc (.cells #[.int .i64 c.n, .int .i64 c.cl, .int .i64 c.wi, .int .i64 c.bu, .int .i64 c.ca, .int .i64 c.sl, .int .i64 c.rq, .int .i64 c.ti, .int .i64 c.pe, .int .i64 c.la, .int .i64 n, .int .i64 s, .slice a zs.length cap] 28)) := (Below.refl _ w).alloc (Nat.le_refl _) _
  have k0 := REpAt.new w c n s a cap zs
  have fin : ∀ {W W' : World}, Below w.heap.size w W → Below W.heap.size W W' → Below w.heap.size w W' := fun h k => h.trans (k.mono h.size)
  have c1 := fun w h => regood_any c n s a cap zs w h hl
  go_enter Tryd.func14, Tryd.ntmps14
  go_wp2_with fail
  obtain ⟨w1, hw1⟩ : ∃ w1, w.alloc (.cells #[.int .i64 c.n, .int .i64 c.cl, .int .i64 c.wi, .int .i64 c.bu, .int .i64 c.ca, .int .i64 c.sl, .int .i64 c.rq, .int .i64 c.ti, .int .i64 c.pe, .int .i64 c.la, .int .i64 n, .int .i64 s, .slice a zs.length cap] 28) = w1 := ⟨_, rfl⟩
  rw [hw1] at hB1 k0 ⊢
  clear hw1
  cases hm : goodE c n s zs
  · simp only [hm] at c1
    have HE := hide (ownE_no (x := x) hm)
    refine (c1 w1 (hr.below hB1)).mono ?_
    rintro e w4 ⟨rfl, hb4⟩
    clear hm c1
    go_wp2_with fail
    go_ret
    exact ⟨ret_int (by rw [HE.out]), fin hB1 hb4⟩
  · simp only [hm] at c1
    obtain ⟨N, B, S, M, ok, hMe⟩ := epOk hm
    have hM := ok.many_le
    have hst := ok.start
    have h0 := ok.len
    have HMN := hide ok.many
    have cE := fun w h => reend_any c n s a cap zs w h hl
    have hEE : endE c n s zs = s + (M : Int) := by simp [endE, hm, ok.many]
    simp only [hEE] at cE
    refine (c1 w1 (hr.below hB1)).mono ?_
    rintro e w4 ⟨rfl, hb4⟩
    have k4 := k0.below hb4
    have hB4 := fin hB1 hb4
    have HG := hide hm
    obtain ⟨p0, p1, p2, p3, p4, p5, p6, p7, p8, p9, pn, ps, pl⟩ := k4.cells
    clear hm c1 ok hMe k0 hB1 hb4 hEE
    by_cases h1 : x < s
    · have HE := hide (ownE_out (c := c) (n := n) (s := s) (x := x) (zs := zs) (fun hh => by omega))
      have d1 : decide (x < s) = true := decide_eq_true h1
      go_wp2_with fail
      go_ret
      exact ⟨ret_int (by rw [HE.out]), hB4⟩
    · have d1 : decide (x < s) = false := decide_eq_false h1
      go_wp2_with fail
      refine (cE w4 (hr.below hB4)).mono ?_
      rintro e w5 ⟨rfl, hb5⟩
      have k5 := k4.below hb5
      have hB5 := fin hB4 hb5
      clear p0 p1 p2 p3 p4 p5 p6 p7 p8 p9 pn ps pl
      by_cases h2 : x < s + (M : Int)
      · have d2 : decide (s + (M : Int) ≤ x) = false := decide_eq_false (by omega)
        obtain ⟨q, hq⟩ := Int.eq_ofNat_of_zero_le (show 0 ≤ x - s by omega)
        have HE := hide (ownE_in (q := q) HG.out (show x = s + (q : Int) by omega) (by rw [HMN.out]; omega))
        have hm := Nat.mod_lt q h0
        obtain ⟨b, off, rfl, hc⟩ := rowI_cell hr hB5 hm
        have HL := hide (ledE_eq (zs := zs) (i := q) h0)
        have HL2 : Hid (ledE zs q = zs[q % zs.length]'hm) := HL
        obtain ⟨yy, hyy⟩ : ∃ yy, zs[q % zs.length]'hm = yy := ⟨_, rfl⟩
        rw [hyy] at hc
        have HL3 : Hid (ledE zs q = yy) := hide (by rw [HL2.out]; exact hyy)
        clear hyy HL HL2
        have e1 : x - s = (q : Int) := by omega
        have e2 : (q : Int) % (zs.length : Int) = ((q % zs.length : Nat) : Int) := by simp
        obtain ⟨r, hrr⟩ : ∃ r, q % zs.length = r := ⟨_, rfl⟩
        rw [hrr] at e2 hm hc
        have hmI : (r : Int) < (zs.length : Int) := by omega
        have hx : x ≤ 2000000000000 ∧ 1 ≤ x := by omega
        have hlp : (0 : Int) < (zs.length : Int) := by omega
        have hne : ¬ (zs.length : Int) = 0 := by omega
        have HQ := hide hq
        clear hrr hq d1
        obtain ⟨p0, p1, p2, p3, p4, p5, p6, p7, p8, p9, pn, ps, pl⟩ := k5.cells
        clear p0 p1 p2 p3 p4 p5 p6 p7 p8 p9 pn
        go_wp2_with fail
        go_quiet (fail)
        go_wp2_with fail
        go_ret
        exact ⟨ret_int (by rw [HE.out, HL3.out]), fin hB5 (below_drewN (Below.refl _ w5) _)⟩
      · have HE := hide (ownE_out (c := c) (n := n) (s := s) (x := x) (zs := zs) (fun hh => by rw [HMN.out] at hh; omega))
        have d2 : decide (s + (M : Int) ≤ x) = true := decide_eq_true (by omega)
        go_wp2_with fail
        go_ret
        exact ⟨ret_int (by rw [HE.out]), hB5⟩
set_option maxRecDepth 100000 in
set_option maxHeartbeats 4000000 in
theorem rprim_any (c : Cfg) (n s : Int) (a : Option Addr) (cap : Nat) (zs : List Int) (y v : Int) (w : World) (hr : RowI w a zs) (hl : zs.length ≤ 100000) :
    Calls Tryd.prog 19 #[(.agg #[.int .i64 c.n, .int .i64 c.cl, .int .i64 c.wi, .int .i64 c.bu, .int .i64 c.ca, .int .i64 c.sl, .int .i64 c.rq, .int .i64 c.ti, .int .i64 c.pe, .int .i64 c.la, .int .i64 n, .int .i64 s, .slice a zs.length cap]), .int .i64 y, .int .i64 v] w fun e w' => e = .returned (.int .i64 (primE c n s zs y v)) ∧ Below w.heap.size w w' := by
  have hB1 : Below w.heap.size w (w.alloc (.cells #[.int .i64 c.n, .int .i64 c.cl, .int .i64 c.wi, .int .i64 c.bu, .int .i64 c.ca, .int .i64 c.sl, .int .i64 c.rq, .int .i64 c.ti, .int .i64 c.pe, .int .i64 c.la, .int .i64 n, .int .i64 s, .slice a zs.length cap] 28)) := (Below.refl _ w).alloc (Nat.le_refl _) _
  have k0 := REpAt.new w c n s a cap zs
  have fin : ∀ {W W' : World}, Below w.heap.size w W → Below W.heap.size W W' → Below w.heap.size w W' := fun h k => h.trans (k.mono h.size)
  have c1 := fun w h => regood_any c n s a cap zs w h hl
  go_enter Tryd.func19, Tryd.ntmps19
  go_wp2_with fail
  obtain ⟨w1, hw1⟩ : ∃ w1, w.alloc (.cells #[.int .i64 c.n, .int .i64 c.cl, .int .i64 c.wi, .int .i64 c.bu, .int .i64 c.ca, .int .i64 c.sl, .int .i64 c.rq, .int .i64 c.ti, .int .i64 c.pe, .int .i64 c.la, .int .i64 n, .int .i64 s, .slice a zs.length cap] 28) = w1 := ⟨_, rfl⟩
  rw [hw1] at hB1 k0 ⊢
  clear hw1
  cases hm : goodE c n s zs
  · simp only [hm] at c1
    have HE := hide (primE_no (c := c) (n := n) (s := s) (y := y) (v := v) (zs := zs) (fun hh => by rw [hm] at hh; cases hh.1))
    refine (c1 w1 (hr.below hB1)).mono ?_
    rintro e w4 ⟨rfl, hb4⟩
    clear hm c1
    go_wp2_with fail
    go_ret
    exact ⟨ret_int (by rw [HE.out]), fin hB1 hb4⟩
  · simp only [hm] at c1
    obtain ⟨N, B, S, M, ok, hMe⟩ := epOk hm
    refine (c1 w1 (hr.below hB1)).mono ?_
    rintro e w4 ⟨rfl, hb4⟩
    have k4 := k0.below hb4
    have hB4 := fin hB1 hb4
    have HG := hide hm
    have HOK := hide ok
    have hN1 : 1 ≤ N := by have := ok.cfg.n4; omega
    have hN64 := ok.cfg.n64
    have cC := rIn_any a cap zs y w4 (hr.below hB4) hl
    obtain ⟨p0, p1, p2, p3, p4, p5, p6, p7, p8, p9, pn, ps, pl⟩ := k4.cells
    have p0N := p0
    rw [ok.cfg.n] at p0N
    clear hm c1 ok hMe k0 hB1 hb4 p0
    by_cases hy : y ∈ zs
    · rw [decide_eq_true hy] at cC
      have hyb := HOK.out.mem hy
      by_cases hv0 : v < 0
      · have HE := hide (primE_no (c := c) (n := n) (s := s) (y := y) (v := v) (zs := zs) (fun hh => by omega))
        have d1 : decide (v < 0) = true := decide_eq_true hv0
        go_wp2_with (go_at_call 33; refine cC.mono ?_; rintro e w5 ⟨rfl, hx⟩; obtain rfl := hx.symm; clear hx)
        go_ret
        exact ⟨ret_int (by rw [HE.out]), hB4⟩
      · have d1 : decide (v < 0) = false := decide_eq_false hv0
        by_cases hv1 : 1099511627776 < v
        · have HE := hide (primE_no (c := c) (n := n) (s := s) (y := y) (v := v) (zs := zs) (fun hh => by omega))
          have d2 : decide (1099511627776 < v) = true := decide_eq_true hv1
          go_wp2_with (go_at_call 33; refine cC.mono ?_; rintro e w5 ⟨rfl, hx⟩; obtain rfl := hx.symm; clear hx)
          go_ret
          exact ⟨ret_int (by rw [HE.out]), hB4⟩
        · have HE := hide (primE_yes (c := c) (n := n) (s := s) (y := y) (v := v) (zs := zs) ⟨HG.out, hy, by omega, by omega⟩)
          have d2 : decide (1099511627776 < v) = false := decide_eq_false hv1
          have hNe : ¬ (N : Int) = 0 := by omega
          go_wp2_with (go_at_call 33; refine cC.mono ?_; rintro e w5 ⟨rfl, hx⟩; obtain rfl := hx.symm; clear hx)
          go_ret
          exact ⟨ret_int (by rw [HE.out, HOK.out.cfg.n]), hB4⟩
    · rw [decide_eq_false hy] at cC
      have HE := hide (primE_no (c := c) (n := n) (s := s) (y := y) (v := v) (zs := zs) (fun hh => hy hh.2.1))
      go_wp2_with (go_at_call 33; refine cC.mono ?_; rintro e w5 ⟨rfl, hx⟩; obtain rfl := hx.symm; clear hx)
      go_ret
      exact ⟨ret_int (by rw [HE.out]), hB4⟩
end Go.Proofs.YtnndlgdlligjbabDoor.Ld
namespace Go.Proofs.YtnndlgdlligjbabDoor.Ld
open Go.RowKit Go.Shelf
set_option maxRecDepth 100000 in
set_option maxHeartbeats 4000000 in
theorem rslots_any (c : Cfg) (n s : Int) (a : Option Addr) (cap : Nat) (zs : List Int) (y : Int) (w : World) (hr : RowI w a zs) (hl : zs.length ≤ 100000) :
    Calls Tryd.prog 17 #[(.agg #[.int .i64 c.n, .int .i64 c.cl, .int .i64 c.wi, .int .i64 c.bu, .int .i64 c.ca, .int .i64 c.sl, .int .i64 c.rq, .int .i64 c.ti, .int .i64 c.pe, .int .i64 c.la, .int .i64 n, .int .i64 s, .slice a zs.length cap]), .int .i64 y] w fun e w' => ∃ v, e = .returned v ∧ w'.ownsRow w.heap.size 3 1 v (slotsE c n s zs y).length (ivals (slotsE c n s zs y)) ∧ Below w.heap.size w w' := by
  obtain ⟨i0, hi, hz0, hz1, hz2⟩ := info_parts info3
  have hB1 : Below w.heap.size w (w.alloc (.cells #[.int .i64 c.n, .int .i64 c.cl, .int .i64 c.wi, .int .i64 c.bu, .int .i64 c.ca, .int .i64 c.sl, .int .i64 c.rq, .int .i64 c.ti, .int .i64 c.pe, .int .i64 c.la, .int .i64 n, .int .i64 s, .slice a zs.length cap] 28)) := (Below.refl _ w).alloc (Nat.le_refl _) _
  have k0 := REpAt.new w c n s a cap zs
  have fin : ∀ {W W' : World}, Below w.heap.size w W → Below W.heap.size W W' → Below w.heap.size w W' := fun h k => h.trans (k.mono h.size)
  have c1 := fun w h => regood_any c n s a cap zs w h hl
  go_enter Tryd.func17, Tryd.ntmps17
  go_wp2_with fail
  obtain ⟨w1, hw1⟩ : ∃ w1, w.alloc (.cells #[.int .i64 c.n, .int .i64 c.cl, .int .i64 c.wi, .int .i64 c.bu, .int .i64 c.ca, .int .i64 c.sl, .int .i64 c.rq, .int .i64 c.ti, .int .i64 c.pe, .int .i64 c.la, .int .i64 n, .int .i64 s, .slice a zs.length cap] 28) = w1 := ⟨_, rfl⟩
  rw [hw1] at hB1 k0 ⊢
  clear hw1
  cases hm : goodE c n s zs
  · simp only [hm] at c1
    have HE : Hid (slotsE c n s zs y = []) := hide (by simp [slotsE, hm])
    refine (c1 w1 (hr.below hB1)).mono ?_
    rintro e w4 ⟨rfl, hb4⟩
    clear hm c1
    go_wp2_with fail
    go_ret
    exact ⟨_, rfl, by rw [HE.out]; exact World.ownsRow_nil _ _ _ _, fin hB1 hb4⟩
  · simp only [hm] at c1
    obtain ⟨N, B, S, M, ok, hMe⟩ := epOk hm
    have hM := ok.many_le
    have hst := ok.start
    have h0 := ok.len
    have HE : Hid (slotsE c n s zs y = slotsU s zs y M) := hide (by simp [slotsE, hm, ok.many])
    have cE := fun w h => reend_any c n s a cap zs w h hl
    have hEE : endE c n s zs = s + (M : Int) := by simp [endE, hm, ok.many]
    simp only [hEE] at cE
    have hOW : Hid (∀ k : Nat, k < M → ownE c n s zs (s + (k : Int)) = ledE zs k) := hide (fun k hk => ownE_in (q := k) hm rfl (by rw [ok.many]; omega))
    have hup : Hid (∀ k : Nat, 0 ≤ ledE zs k) := hide (fun k => by
      rw [ledE_eq h0]
      have := risingF_all ok.up (k % zs.length) (Nat.mod_lt _ h0)
      omega)
    refine (c1 w1 (hr.below hB1)).mono ?_
    rintro e w4 ⟨rfl, hb4⟩
    have k4 := k0.below hb4
    have hB4 := fin hB1 hb4
    obtain ⟨p0, p1, p2, p3, p4, p5, p6, p7, p8, p9, pn, ps, pl⟩ := k4.cells
    clear hm c1 ok hMe k0 hB1 hb4 hEE
    by_cases hy0 : y < 0
    · have d1 : decide (y < 0) = true := decide_eq_true hy0
      have HN : Hid (slotsU s zs y M = []) := hide (by
        unfold slotsU
        rw [List.filter_eq_nil_iff.2]
        · rfl
        · intro i _
          have := hup.out i
          simp; omega)
      go_wp2_with fail
      go_ret
      exact ⟨_, rfl, by rw [HE.out, HN.out]; exact World.ownsRow_nil _ _ _ _, hB4⟩
    have d1 : decide (y < 0) = false := decide_eq_false hy0
    go_wp2_with fail
    clear p0 p1 p2 p3 p4 p5 p6 p7 p8 p9 pn ps pl
    clear d1 hup
    go_loopw [5, 6] (fun v1 iv wr => ∃ k : Nat, k ≤ M ∧ iv = .int .i64 (s + (k : Int)) ∧ wr.ownsRow w4.heap.size 3 1 v1 (slotsU s zs y k).length (ivals (slotsU s zs y k)) ∧ Below w4.heap.size w4 wr) (fun _ iv _ => M - (intOf iv - s).toNat)
    case atStart => exact ⟨0, by omega, by simp, World.ownsRow_nil _ _ _ _, Below.refl _ _⟩
    case round =>
      obtain ⟨k, hk, rfl, R, hb⟩ := hrel
      have hl1 := slotsU_len s zs y k
      have hBr := fin hB4 hb
      obtain ⟨p0, p1, p2, p3, p4, p5, p6, p7, p8, p9, pn, ps, pl⟩ := (k4.below hb).cells
      have cEr := cE wr (hr.below hBr)
      obtain ⟨X, hX⟩ : ∃ X : Int, Hid (s + (k : Int) = X) := ⟨_, hide rfl⟩
      obtain ⟨Y, hY⟩ : ∃ Y : Int, Hid (s + (M : Int) = Y) := ⟨_, hide rfl⟩
      rw [hX.out]
      rw [hY.out] at cEr
      have hXb : X ≤ 2000000000000 ∧ 1 ≤ X := by have := hX.out; omega
      by_cases hlt : k < M
      · have hXY : X < Y := by have := hX.out; have := hY.out; omega
        have cO := fun w h => reowner_any c n s a cap zs X w h hl
        have how := hOW.out k hlt
        rw [hX.out] at how
        simp only [how] at cO
        have H1 := fun h => slotsU_yes (s := s) (y := y) (zs := zs) (k := k) h
        have H2 := fun h => slotsU_no (s := s) (y := y) (zs := zs) (k := k) h
        clear how
        rw [hX.out] at H1
        generalize ledE zs k = ld at *
        generalize slotsU s zs y k = L1 at *
        obtain ⟨va, vcap, rfl⟩ := ownsRow_slice R
        go_wp2_with fail
        refine cEr.mono ?_
        rintro e w5 ⟨rfl, hb5⟩
        have hb5' : Below w4.heap.size w4 w5 := hb.trans (hb5.mono hb.size)
        have R5 := ownsRow_below R hb5
        clear p0 p1 p2 p3 p4 p5 p6 p7 p8 p9 pn ps pl
        obtain ⟨p0, p1, p2, p3, p4, p5, p6, p7, p8, p9, pn, ps, pl⟩ := (k4.below hb5').cells
        clear cEr R
        by_cases hy : ld = y
        · have H3 := hide (H1 hy)
          subst hy
          clear H1 H2
          go_wp2_with fail
          refine (cO w5 (hr.below (fin hB4 hb5'))).mono ?_
          rintro e w6 ⟨rfl, hb6⟩
          have R6 := ownsRow_below R5 hb6
          have hb6' : Below w4.heap.size w4 w6 := hb5'.trans (hb6.mono hb5'.size)
          clear p0 p1 p2 p3 p4 p5 p6 p7 p8 p9 pn ps pl
          clear cO R5
          go_wp2_with (at_builtin; refine wpList_append_own_src2 _ rfl _ _ 24 24 rfl w4.heap.size 3 i0 (.int .i64 0) 1 8 Tryd.underlying24 hi hz0 hz1 hz2 rfl _ L1.length (ivals L1) rfl (R6.alloc _) (.slice (some ⟨w6.heap.size, 0, none⟩) 1 1) 1 [.int .i64 X] rfl (src_one _ _) ?c1 ?c2 ?c3 ?_)
          case c1 => unfold maxLen; omega
          case c2 => omega
          case c3 => have := hb6'.size; simp; omega
          intro v' w7 hown hgr hnew
          have hb7 := first_below R6 hb6' hb6'.size hgr
          obtain ⟨va7, vcap7, rfl⟩ := ownsRow_slice hown
          go_wp2_with fail
          go_roundw
          case rel => exact ⟨k + 1, by omega, by rw [← hX.out]; go_num, by rw [H3.out, ivals_snoc]; simpa using hown, hb7⟩
          case measure => have := hX.out; simp [intOf]; omega
        · have H3 := hide (H2 hy)
          clear H1 H2
          go_wp2_with fail
          refine (cO w5 (hr.below (fin hB4 hb5'))).mono ?_
          rintro e w6 ⟨rfl, hb6⟩
          have R6 := ownsRow_below R5 hb6
          have hb6' : Below w4.heap.size w4 w6 := hb5'.trans (hb6.mono hb5'.size)
          clear p0 p1 p2 p3 p4 p5 p6 p7 p8 p9 pn ps pl
          clear cO R5
          go_wp2_with fail
          go_roundw
          case rel => exact ⟨k + 1, by omega, by rw [← hX.out]; go_num, by rw [H3.out]; exact R6, hb6'⟩
          case measure => have := hX.out; simp [intOf]; omega
      · obtain rfl : k = M := by omega
        have hXY : ¬ X < Y := by have := hX.out; have := hY.out; omega
        have dXY : decide (X < Y) = false := decide_eq_false hXY
        generalize slotsU s zs y k = L1 at *
        obtain ⟨va, vcap, rfl⟩ := ownsRow_slice R
        go_wp2_with fail
        refine cEr.mono ?_
        rintro e w5 ⟨rfl, hb5⟩
        have hb5' : Below w4.heap.size w4 w5 := hb.trans (hb5.mono hb.size)
        have R5 := ownsRow_below R hb5
        go_wp2_with fail
        go_ret
        exact ⟨_, rfl, by rw [HE.out]; exact ownsRow_low hB4.size R5, fin hB4 hb5'⟩
end Go.Proofs.YtnndlgdlligjbabDoor.Ld
namespace Go.Proofs.YtnndlgdlligjbabDoor.Ld
open Go.RowKit Go.Shelf
def sameB (c c2 : Cfg) (n n2 s s2 : Int) (zs ys : List Int) : Bool := decide (c.n = c2.n ∧ c.cl = c2.cl ∧ c.wi = c2.wi ∧ c.bu = c2.bu ∧ c.ca = c2.ca ∧ c.sl = c2.sl ∧ c.rq = c2.rq ∧ c.ti = c2.ti ∧ c.pe = c2.pe ∧ c.la = c2.la) && decide (n = n2) && decide (s = s2) && decide (zs = ys)
set_option maxHeartbeats 1000000 in
theorem intsq_any (a b : Option Addr) (cap cap' : Nat) (zs ys : List Int) (w : World) (hr : RowI w a zs) (hs : RowI w b ys) (hb : zs.length ≤ 100000) (hb' : ys.length ≤ 100000) :
    Calls Tryd.prog 15 #[.slice a zs.length cap, .slice b ys.length cap'] w fun e w' => e = .returned (.bool (decide (zs = ys))) ∧ Below w.heap.size w w' := by
  by_cases hll : zs.length = ys.length
  · have HL := hide hll
    rw [← hll]
    clear hll
    go_enter Tryd.func15, Tryd.ntmps15
    go_wp2
    go_loopw [5] (fun kv wr => ∃ k : Nat, k ≤ zs.length ∧ kv = .int .i64 (k : Int) ∧ Hid (∀ i (h : i < zs.length) (h' : i < ys.length), i < k → zs[i] = ys[i]) ∧ Below w.heap.size w wr) (fun kv _ => zs.length - (intOf kv).toNat)
    case atStart => exact ⟨0, by omega, rfl, hide (fun i _ _ h => absurd h (by omega)), Below.refl _ _⟩
    case round =>
      obtain ⟨k, hk, rfl, HI, hbel⟩ := hrel
      by_cases hlt : k < zs.length
      · have hlt' : k < ys.length := by have := HL.out; omega
        obtain ⟨b1, off1, rfl, hc1⟩ := rowI_cell hr hbel hlt
        obtain ⟨b2, off2, rfl, hc2⟩ := rowI_cell hs hbel hlt'
        have k1 : (k : Int) < zs.length := by omega
        have HX : Hid (∀ x, zs[k] = x → zs[k] = x) := hide (fun _ h => h)
        obtain ⟨x, hx⟩ : ∃ x, zs[k] = x := ⟨_, rfl⟩
        obtain ⟨y, hy⟩ : ∃ y, ys[k] = y := ⟨_, rfl⟩
        have HX := hide hx
        have HY := hide hy
        rw [hx] at hc1
        rw [hy] at hc2
        clear hx hy
        by_cases he : x = y
        · subst he
          go_wp2
          go_quiet (fail)
          go_wp2
          go_roundw
          case rel => exact ⟨k + 1, by omega, by go_num, hide (fun i h h' hik => by
            by_cases e : i = k
            · subst e; rw [HX.out, HY.out]
            · exact HI.out i h h' (by omega)), below_drewN hbel _⟩
          case measure => simp [intOf]; omega
        · have hbq : (x != y) = true := by simpa using he
          have hbq2 : (x == y) = false := by simpa using he
          have hdq : decide (x = y) = false := decide_eq_false he
          go_wp2
          go_quiet (fail)
          go_wp2
          go_ret
          exact ⟨ret_bool (by rw [decide_eq_false]; intro h; subst h; exact he (HX.out.symm.trans HY.out)), below_drewN hbel _⟩
      · obtain rfl : k = zs.length := by omega
        go_wp2
        go_ret
        exact ⟨ret_bool (by rw [decide_eq_true]; exact List.ext_getElem HL.out (fun i h h' => HI.out i h h' h)), hbel⟩
  · have hd : ((zs.length : Int) != (ys.length : Int)) = true := by simp; omega
    have hd2 : ((zs.length : Int) == (ys.length : Int)) = false := by rw [beq_eq_false_iff_ne]; omega
    have hd3 : ¬ (zs.length : Int) = (ys.length : Int) := by omega
    have HL := hide hll
    go_enter Tryd.func15, Tryd.ntmps15
    go_wp2
    go_ret
    exact ⟨ret_bool (by rw [decide_eq_false]; intro h; exact HL.out (by rw [h])), Below.refl _ _⟩
set_option maxHeartbeats 1000000 in
theorem equal_any (a b : Option Addr) (cap cap' : Nat) (zs ys : List Int) (w : World) (hr : RowI w a zs) (hs : RowI w b ys) (hb : zs.length ≤ 100000) (hb' : ys.length ≤ 100000) :
    Calls Tryd.prog 28 #[.slice a zs.length cap, .slice b ys.length cap'] w fun e w' => e = .returned (.bool (decide (zs = ys))) ∧ Below w.heap.size w w' := by
  by_cases hll : zs.length = ys.length
  · have HL := hide hll
    rw [← hll]
    clear hll
    go_enter Tryd.func28, Tryd.ntmps28
    go_wp2
    go_loopw [13] (fun kv wr => ∃ k : Nat, k ≤ zs.length ∧ kv = .int .i64 (k : Int) ∧ Hid (∀ i (h : i < zs.length) (h' : i < ys.length), i < k → zs[i] = ys[i]) ∧ Below w.heap.size w wr) (fun kv _ => zs.length - (intOf kv).toNat)
    case atStart => exact ⟨0, by omega, rfl, hide (fun i _ _ h => absurd h (by omega)), Below.refl _ _⟩
    case round =>
      obtain ⟨k, hk, rfl, HI, hbel⟩ := hrel
      by_cases hlt : k < zs.length
      · have hlt' : k < ys.length := by have := HL.out; omega
        obtain ⟨b1, off1, rfl, hc1⟩ := rowI_cell hr hbel hlt
        obtain ⟨b2, off2, rfl, hc2⟩ := rowI_cell hs hbel hlt'
        have k1 : (k : Int) < zs.length := by omega
        have HX : Hid (∀ x, zs[k] = x → zs[k] = x) := hide (fun _ h => h)
        obtain ⟨x, hx⟩ : ∃ x, zs[k] = x := ⟨_, rfl⟩
        obtain ⟨y, hy⟩ : ∃ y, ys[k] = y := ⟨_, rfl⟩
        have HX := hide hx
        have HY := hide hy
        rw [hx] at hc1
        rw [hy] at hc2
        clear hx hy
        by_cases he : x = y
        · subst he
          go_wp2
          go_quiet (fail)
          go_wp2
          go_roundw
          case rel => exact ⟨k + 1, by omega, by go_num, hide (fun i h h' hik => by
            by_cases e : i = k
            · subst e; rw [HX.out, HY.out]
            · exact HI.out i h h' (by omega)), below_drewN hbel _⟩
          case measure => simp [intOf]; omega
        · have hbq : (x != y) = true := by simpa using he
          have hbq2 : (x == y) = false := by simpa using he
          have hdq : decide (x = y) = false := decide_eq_false he
          go_wp2
          go_quiet (fail)
          go_wp2
          go_ret
          exact ⟨ret_bool (by rw [decide_eq_false]; intro h; subst h; exact he (HX.out.symm.trans HY.out)), below_drewN hbel _⟩
      · obtain rfl : k = zs.length := by omega
        go_wp2
        go_ret
        exact ⟨ret_bool (by rw [decide_eq_true]; exact List.ext_getElem HL.out (fun i h h' => HI.out i h h' h)), hbel⟩
  · have hd : ((zs.length : Int) != (ys.length : Int)) = true := by simp; omega
    have hd2 : ((zs.length : Int) == (ys.length : Int)) = false := by rw [beq_eq_false_iff_ne]; omega
    have hd3 : ¬ (zs.length : Int) = (ys.length : Int) := by omega
    have HL := hide hll
    go_enter Tryd.func28, Tryd.ntmps28
    go_wp2
    go_ret
    exact ⟨ret_bool (by rw [decide_eq_false]; intro h; exact HL.out (by rw [h])), Below.refl _ _⟩
set_option maxRecDepth 100000 in
set_option maxHeartbeats 16000000 in
theorem esame_any (c : Cfg) (n s : Int) (a : Option Addr) (cap : Nat) (zs : List Int) (c2 : Cfg) (n2 s2 : Int) (b : Option Addr) (cap2 : Nat) (ys : List Int) (w : World) (hr : RowI w a zs) (hr2 : RowI w b ys) (hl : zs.length ≤ 100000) (hl2 : ys.length ≤ 100000) :
    Calls Tryd.prog 9 #[(.agg #[.int .i64 c.n, .int .i64 c.cl, .int .i64 c.wi, .int .i64 c.bu, .int .i64 c.ca, .int .i64 c.sl, .int .i64 c.rq, .int .i64 c.ti, .int .i64 c.pe, .int .i64 c.la, .int .i64 n, .int .i64 s, .slice a zs.length cap]), .agg #[.int .i64 c2.n, .int .i64 c2.cl, .int .i64 c2.wi, .int .i64 c2.bu, .int .i64 c2.ca, .int .i64 c2.sl, .int .i64 c2.rq, .int .i64 c2.ti, .int .i64 c2.pe, .int .i64 c2.la, .int .i64 n2, .int .i64 s2, .slice b ys.length cap2]] w fun e w' => e = .returned (.bool (sameB c c2 n n2 s s2 zs ys)) ∧ Below w.heap.size w w' := by
  have hB1 : Below w.heap.size w ((w.alloc (.cells #[.int .i64 c.n, .int .i64 c.cl, .int .i64 c.wi, .int .i64 c.bu, .int .i64 c.ca, .int .i64 c.sl, .int .i64 c.rq, .int .i64 c.ti, .int .i64 c.pe, .int .i64 c.la, .int .i64 n, .int .i64 s, .slice a zs.length cap] 26)).alloc (.cells #[.int .i64 c2.n, .int .i64 c2.cl, .int .i64 c2.wi, .int .i64 c2.bu, .int .i64 c2.ca, .int .i64 c2.sl, .int .i64 c2.rq, .int .i64 c2.ti, .int .i64 c2.pe, .int .i64 c2.la, .int .i64 n2, .int .i64 s2, .slice b ys.length cap2] 26)) := ((Below.refl _ w).alloc (Nat.le_refl _) _).alloc (by simp) _
  have cI := equal_any a b cap cap2 zs ys _ (hr.below hB1) (hr2.below hB1) hl hl2
  by_cases hc : c = c2
  · subst hc
    by_cases hn : n = n2
    · subst hn
      by_cases hs : s = s2
      · subst hs
        go_enter Tryd.func9, Tryd.ntmps9
        go_wp2_with fail
        refine cI.mono ?_
        rintro e w4 ⟨rfl, hb4⟩
        go_wp2_with fail
        go_ret
        exact ⟨ret_bool (by simp [sameB]), hB1.trans (hb4.mono hB1.size)⟩
      · clear cI
        have d1 : (s == s2) = false := by simpa using hs
        have d2 : decide (s = s2) = false := decide_eq_false hs
        have HS := hide hs
        go_enter Tryd.func9, Tryd.ntmps9
        go_wp2_with fail
        go_ret
        exact ⟨ret_bool (by simp [sameB, HS.out]), hB1⟩
    · clear cI
      have d1 : (n == n2) = false := by simpa using hn
      have d2 : decide (n = n2) = false := decide_eq_false hn
      have HS := hide hn
      go_enter Tryd.func9, Tryd.ntmps9
      go_wp2_with fail
      go_ret
      exact ⟨ret_bool (by simp [sameB, HS.out]), hB1⟩
  · clear cI
    have hcc : ¬ (c.n = c2.n ∧ c.cl = c2.cl ∧ c.wi = c2.wi ∧ c.bu = c2.bu ∧ c.ca = c2.ca ∧ c.sl = c2.sl ∧ c.rq = c2.rq ∧ c.ti = c2.ti ∧ c.pe = c2.pe ∧ c.la = c2.la) := by
      intro h
      apply hc
      cases c; cases c2
      simp at h ⊢
      exact h
    have HS : Hid (sameB c c2 n n2 s s2 zs ys = false) := hide (by unfold sameB; rw [decide_eq_false hcc]; rfl)
    have HC := hide hcc
    clear hc hcc hB1
    go_enter Tryd.func9, Tryd.ntmps9
    go_wp2_with fail
    all_goals first
      | (exfalso; apply HC.out; refine ⟨?_, ?_, ?_, ?_, ?_, ?_, ?_, ?_, ?_, ?_⟩ <;> assumption)
      | (go_ret; exact ⟨ret_bool (by rw [HS.out]), ((Below.refl _ w).alloc (Nat.le_refl _) _).alloc (by simp) _⟩)
      | (go_ret; exact ⟨HS.out, ((Below.refl _ w).alloc (Nat.le_refl _) _).alloc (by simp) _⟩)
      | (go_ret; exact ⟨HS.out.symm, ((Below.refl _ w).alloc (Nat.le_refl _) _).alloc (by simp) _⟩)
set_option maxRecDepth 100000 in
set_option maxHeartbeats 16000000 in
theorem resamef_any (c : Cfg) (n s : Int) (a : Option Addr) (cap : Nat) (zs : List Int) (c2 : Cfg) (n2 s2 : Int) (b : Option Addr) (cap2 : Nat) (ys : List Int) (w : World) (hr : RowI w a zs) (hr2 : RowI w b ys) (hl : zs.length ≤ 100000) (hl2 : ys.length ≤ 100000) :
    Calls Tryd.prog 10 #[(.agg #[.int .i64 c.n, .int .i64 c.cl, .int .i64 c.wi, .int .i64 c.bu, .int .i64 c.ca, .int .i64 c.sl, .int .i64 c.rq, .int .i64 c.ti, .int .i64 c.pe, .int .i64 c.la, .int .i64 n, .int .i64 s, .slice a zs.length cap]), .agg #[.int .i64 c2.n, .int .i64 c2.cl, .int .i64 c2.wi, .int .i64 c2.bu, .int .i64 c2.ca, .int .i64 c2.sl, .int .i64 c2.rq, .int .i64 c2.ti, .int .i64 c2.pe, .int .i64 c2.la, .int .i64 n2, .int .i64 s2, .slice b ys.length cap2]] w fun e w' => e = .returned (.bool (sameB c c2 n n2 s s2 zs ys)) ∧ Below w.heap.size w w' := by
  have hB1 : Below w.heap.size w ((w.alloc (.cells #[.int .i64 c.n, .int .i64 c.cl, .int .i64 c.wi, .int .i64 c.bu, .int .i64 c.ca, .int .i64 c.sl, .int .i64 c.rq, .int .i64 c.ti, .int .i64 c.pe, .int .i64 c.la, .int .i64 n, .int .i64 s, .slice a zs.length cap] 28)).alloc (.cells #[.int .i64 c2.n, .int .i64 c2.cl, .int .i64 c2.wi, .int .i64 c2.bu, .int .i64 c2.ca, .int .i64 c2.sl, .int .i64 c2.rq, .int .i64 c2.ti, .int .i64 c2.pe, .int .i64 c2.la, .int .i64 n2, .int .i64 s2, .slice b ys.length cap2] 28)) := ((Below.refl _ w).alloc (Nat.le_refl _) _).alloc (by simp) _
  have cI := intsq_any a b cap cap2 zs ys _ (hr.below hB1) (hr2.below hB1) hl hl2
  by_cases hc : c = c2
  · subst hc
    by_cases hn : n = n2
    · subst hn
      by_cases hs : s = s2
      · subst hs
        go_enter Tryd.func10, Tryd.ntmps10
        go_wp2_with fail
        refine cI.mono ?_
        rintro e w4 ⟨rfl, hb4⟩
        go_wp2_with fail
        go_ret
        exact ⟨ret_bool (by simp [sameB]), hB1.trans (hb4.mono hB1.size)⟩
      · clear cI
        have d1 : (s == s2) = false := by simpa using hs
        have d2 : decide (s = s2) = false := decide_eq_false hs
        have HS := hide hs
        go_enter Tryd.func10, Tryd.ntmps10
        go_wp2_with fail
        go_ret
        exact ⟨ret_bool (by simp [sameB, HS.out]), hB1⟩
    · clear cI
      have d1 : (n == n2) = false := by simpa using hn
      have d2 : decide (n = n2) = false := decide_eq_false hn
      have HS := hide hn
      go_enter Tryd.func10, Tryd.ntmps10
      go_wp2_with fail
      go_ret
      exact ⟨ret_bool (by simp [sameB, HS.out]), hB1⟩
  · clear cI
    have hcc : ¬ (c.n = c2.n ∧ c.cl = c2.cl ∧ c.wi = c2.wi ∧ c.bu = c2.bu ∧ c.ca = c2.ca ∧ c.sl = c2.sl ∧ c.rq = c2.rq ∧ c.ti = c2.ti ∧ c.pe = c2.pe ∧ c.la = c2.la) := by
      intro h
      apply hc
      cases c; cases c2
      simp at h ⊢
      exact h
    have HS : Hid (sameB c c2 n n2 s s2 zs ys = false) := hide (by unfold sameB; rw [decide_eq_false hcc]; rfl)
    have HC := hide hcc
    clear hc hcc hB1
    go_enter Tryd.func10, Tryd.ntmps10
    go_wp2_with fail
    all_goals first
      | (exfalso; apply HC.out; refine ⟨?_, ?_, ?_, ?_, ?_, ?_, ?_, ?_, ?_, ?_⟩ <;> assumption)
      | (go_ret; exact ⟨ret_bool (by rw [HS.out]), ((Below.refl _ w).alloc (Nat.le_refl _) _).alloc (by simp) _⟩)
      | (go_ret; exact ⟨HS.out, ((Below.refl _ w).alloc (Nat.le_refl _) _).alloc (by simp) _⟩)
      | (go_ret; exact ⟨HS.out.symm, ((Below.refl _ w).alloc (Nat.le_refl _) _).alloc (by simp) _⟩)
end Go.Proofs.YtnndlgdlligjbabDoor.Ld
namespace Go.Proofs.YtnndlgdlligjbabDoor.Ld
open Go.RowKit Go.Shelf
def bukE (c : Cfg) (n s : Int) (zs : List Int) (x y : Int) : Int := if goodE c n s zs = true ∧ 0 ≤ x ∧ 0 ≤ y then ownerI c n zs (bucketV x y c.bu) else -1
set_option maxRecDepth 100000 in
set_option maxHeartbeats 4000000 in
theorem ebucket_any (c : Cfg) (n s : Int) (a : Option Addr) (cap : Nat) (zs : List Int) (x y : Int) (w : World) (hr : RowI w a zs) (hl : zs.length ≤ 100000) (hG : Glob w) (hx : x ≤ 9223372036854775807) (hy : y ≤ 9223372036854775807) :
    Calls Tryd.prog 20 #[(.agg #[.int .i64 c.n, .int .i64 c.cl, .int .i64 c.wi, .int .i64 c.bu, .int .i64 c.ca, .int .i64 c.sl, .int .i64 c.rq, .int .i64 c.ti, .int .i64 c.pe, .int .i64 c.la, .int .i64 n, .int .i64 s, .slice a zs.length cap]), .int .i64 x, .int .i64 y] w fun e w' => e = .returned (.int .i64 (bukE c n s zs x y)) ∧ Below w.heap.size w w' := by
  have hB1 : Below w.heap.size w (w.alloc (.cells #[.int .i64 c.n, .int .i64 c.cl, .int .i64 c.wi, .int .i64 c.bu, .int .i64 c.ca, .int .i64 c.sl, .int .i64 c.rq, .int .i64 c.ti, .int .i64 c.pe, .int .i64 c.la, .int .i64 n, .int .i64 s, .slice a zs.length cap] 26)) := (Below.refl _ w).alloc (Nat.le_refl _) _
  have k0 := EpAt.new w c n s a cap zs
  have fin : ∀ {W W' : World}, Below w.heap.size w W → Below W.heap.size W W' → Below w.heap.size w W' := fun h k => h.trans (k.mono h.size)
  have c1 := fun w h => egood_any c n s a cap zs w h hl
  go_enter Tryd.func20, Tryd.ntmps20
  go_wp2_with fail
  obtain ⟨w1, hw1⟩ : ∃ w1, w.alloc (.cells #[.int .i64 c.n, .int .i64 c.cl, .int .i64 c.wi, .int .i64 c.bu, .int .i64 c.ca, .int .i64 c.sl, .int .i64 c.rq, .int .i64 c.ti, .int .i64 c.pe, .int .i64 c.la, .int .i64 n, .int .i64 s, .slice a zs.length cap] 26) = w1 := ⟨_, rfl⟩
  rw [hw1] at hB1 k0 ⊢
  clear hw1
  cases hg : goodE c n s zs
  · simp only [hg] at c1
    have HE : Hid (bukE c n s zs x y = -1) := hide (by unfold bukE; rw [if_neg]; rw [hg]; simp)
    refine (c1 w1 (hr.below hB1)).mono ?_
    rintro e w4 ⟨rfl, hb4⟩
    clear hg c1
    go_wp2_with fail
    go_ret
    exact ⟨ret_int (by rw [HE.out]), fin hB1 hb4⟩
  simp only [hg] at c1
  have hwf : (Lit.int .i64 c.bu).wf = true := by
    obtain ⟨N, B, S, M, ok, _⟩ := epOk hg
    have h1 := ok.cfg.b
    have h2 := ok.cfg.bn
    have h3 := ok.cfg.n64
    have h4 : -9223372036854775808 ≤ c.bu ∧ c.bu ≤ 9223372036854775807 := by omega
    simp only [Lit.wf, Bool.and_eq_true, decide_eq_true_eq]
    exact h4
  refine (c1 w1 (hr.below hB1)).mono ?_
  rintro e w4 ⟨rfl, hb4⟩
  have hB4 := fin hB1 hb4
  have k4 := k0.below hb4
  clear c1 k0 hB1 hb4
  by_cases hx0 : x < 0
  · have d1 : decide (x < 0) = true := decide_eq_true hx0
    have HE : Hid (bukE c n s zs x y = -1) := hide (by unfold bukE; rw [if_neg]; omega)
    clear hg hwf
    go_wp2_with fail
    go_ret
    exact ⟨ret_int (by rw [HE.out]), hB4⟩
  have d1 : decide (x < 0) = false := decide_eq_false hx0
  by_cases hy0 : y < 0
  · have d2 : decide (y < 0) = true := decide_eq_true hy0
    have HE : Hid (bukE c n s zs x y = -1) := hide (by unfold bukE; rw [if_neg]; omega)
    clear hg hwf
    go_wp2_with fail
    go_ret
    exact ⟨ret_int (by rw [HE.out]), hB4⟩
  have d2 : decide (y < 0) = false := decide_eq_false hy0
  have HE : Hid (bukE c n s zs x y = ownerI c n zs (bucketV x y c.bu)) := hide (by unfold bukE; rw [if_pos ⟨hg, by omega, by omega⟩])
  have cB := fun w h => bucket_any x y c.bu w h hx hy hwf
  have cO := fun w h => lOwner_any c n a cap zs (bucketV x y c.bu) w h hl
  generalize bucketV x y c.bu = bk at *
  generalize ownerI c n zs bk = ow at *
  clear hwf hg
  go_wp2_with fail
  obtain ⟨w8, hw8⟩ : ∃ w8, w4.drew = w8 := ⟨_, rfl⟩
  refine hs_begin (S := (Below w8.heap.size w8)) 14 rfl (by kernel_rfl) ?_
  have k8 : EpAt w8 w.heap.size c n s a cap zs := by rw [← hw8]; exact k4
  have hB8 : Below w.heap.size w w8 := by rw [← hw8]; exact hB4.drew
  have hG8 := hG.below hB8
  have hr8 := hr.below hB8
  rw [hw8]
  clear hw8 k4 hB4 d1 d2
  have hS : (Below w8.heap.size w8) w8 := Below.refl _ _
  refine hs_take (i := 0) (d := some 18) (v := ?_) rfl (by kernel_rfl) (by kernel_rfl) (by kernel_rfl) (by rfl) ?_ hS rfl ?_
  rotate_left
  · intro w' hw
    go_simp
    try with_reducible rfl
  simp only [Act.put, List.setIfInBounds_toArray, List.set_cons_zero, List.set_cons_succ]
  refine hs_take (i := 1) (d := some 19) (v := .agg #[.int .i64 c.n, .int .i64 c.cl, .int .i64 c.wi, .int .i64 c.bu, .int .i64 c.ca, .int .i64 c.sl, .int .i64 c.rq, .int .i64 c.ti, .int .i64 c.pe, .int .i64 c.la]) rfl (by kernel_rfl) (by kernel_rfl) (by kernel_rfl) (by rfl) (fun w' hw => by obtain ⟨p0, p1, p2, p3, p4, p5, p6, p7, p8, p9, pn, ps, pl⟩ := (k8.below hw).cells; go_simp) hS rfl ?_
  simp only [Act.put, List.setIfInBounds_toArray, List.set_cons_zero, List.set_cons_succ]
  refine hs_take (i := 2) (d := some 20) (v := ?_) rfl (by kernel_rfl) (by kernel_rfl) (by kernel_rfl) (by rfl) ?_ hS rfl ?_
  rotate_left
  · intro w' hw
    go_simp
    try with_reducible rfl
  simp only [Act.put, List.setIfInBounds_toArray, List.set_cons_zero, List.set_cons_succ]
  refine hs_take (i := 3) (d := some 21) (v := .int .i64 n) rfl (by kernel_rfl) (by kernel_rfl) (by kernel_rfl) (by rfl) (fun w' hw => by obtain ⟨p0, p1, p2, p3, p4, p5, p6, p7, p8, p9, pn, ps, pl⟩ := (k8.below hw).cells; go_simp) hS rfl ?_
  simp only [Act.put, List.setIfInBounds_toArray, List.set_cons_zero, List.set_cons_succ]
  refine hs_take (i := 4) (d := some 22) (v := ?_) rfl (by kernel_rfl) (by kernel_rfl) (by kernel_rfl) (by rfl) ?_ hS rfl ?_
  rotate_left
  · intro w' hw
    go_simp
    try with_reducible rfl
  simp only [Act.put, List.setIfInBounds_toArray, List.set_cons_zero, List.set_cons_succ]
  refine hs_take (i := 5) (d := some 23) (v := .slice a zs.length cap) rfl (by kernel_rfl) (by kernel_rfl) (by kernel_rfl) (by rfl) (fun w' hw => by obtain ⟨p0, p1, p2, p3, p4, p5, p6, p7, p8, p9, pn, ps, pl⟩ := (k8.below hw).cells; go_simp) hS rfl ?_
  simp only [Act.put, List.setIfInBounds_toArray, List.set_cons_zero, List.set_cons_succ]
  refine hs_take (i := 6) (d := some 24) (v := ?_) rfl (by kernel_rfl) (by kernel_rfl) (by kernel_rfl) (by rfl) ?_ hS rfl ?_
  rotate_left
  · intro w' hw
    go_simp
    try with_reducible rfl
  simp only [Act.put, List.setIfInBounds_toArray, List.set_cons_zero, List.set_cons_succ]
  refine hs_take (i := 7) (d := some 25) (v := ?_) rfl (by kernel_rfl) (by kernel_rfl) (by kernel_rfl) (by rfl) ?_ hS rfl ?_
  rotate_left
  · intro w' hw
    go_simp
    try with_reducible rfl
  simp only [Act.put, List.setIfInBounds_toArray, List.set_cons_zero, List.set_cons_succ]
  refine hs_take (i := 8) (d := some 26) (v := ?_) rfl (by kernel_rfl) (by kernel_rfl) (by kernel_rfl) (by rfl) ?_ hS rfl ?_
  rotate_left
  · intro w' hw
    go_simp
    try with_reducible rfl
  simp only [Act.put, List.setIfInBounds_toArray, List.set_cons_zero, List.set_cons_succ]
  refine hs_take (i := 9) (d := some 27) (v := ?_) rfl (by kernel_rfl) (by kernel_rfl) (by kernel_rfl) (by rfl) ?_ hS rfl ?_
  rotate_left
  · intro w' hw
    go_simp
    try with_reducible rfl
  simp only [Act.put, List.setIfInBounds_toArray, List.set_cons_zero, List.set_cons_succ]
  refine hs_take (i := 10) (d := some 28) (v := .int .i64 c.bu) rfl (by kernel_rfl) (by kernel_rfl) (by kernel_rfl) (by rfl) (fun w' hw => by obtain ⟨p0, p1, p2, p3, p4, p5, p6, p7, p8, p9, pn, ps, pl⟩ := (k8.below hw).cells; go_simp) hS rfl ?_
  simp only [Act.put, List.setIfInBounds_toArray, List.set_cons_zero, List.set_cons_succ]
  refine hs_call (i := 11) (d := some 29) rfl (by kernel_rfl) (by rfl) (by go_simp; first | done | exact ⟨rfl, rfl⟩ | with_reducible rfl) rfl ?_
  refine (cB w8 hG8).mono ?_
  rintro e' w9 ⟨rfl, hw9⟩
  have hS : (Below w8.heap.size w8) w9 := hS.trans (hw9.mono hS.size)
  refine ⟨_, rfl, hS, ?_⟩
  simp only [Act.put, List.setIfInBounds_toArray, List.set_cons_zero, List.set_cons_succ]
  refine hs_call (i := 12) (d := some 30) rfl (by kernel_rfl) (by rfl) (by go_simp; first | done | exact ⟨rfl, rfl⟩ | with_reducible rfl) rfl ?_
  refine (cO w9 (hr8.below hS)).mono ?_
  rintro e' w10 ⟨rfl, hw10⟩
  have hS : (Below w8.heap.size w8) w10 := hS.trans (hw10.mono hS.size)
  refine ⟨_, rfl, hS, ?_⟩
  simp only [Act.put, List.setIfInBounds_toArray, List.set_cons_zero, List.set_cons_succ]
  refine hs_take (i := 13) (d := some 6) (v := ?_) rfl (by kernel_rfl) (by kernel_rfl) (by kernel_rfl) (by rfl) ?_ hS rfl ?_
  rotate_left
  · intro w' hw
    go_simp
    try with_reducible rfl
  simp only [Act.put, List.setIfInBounds_toArray, List.set_cons_zero, List.set_cons_succ]
  refine hs_done (by kernel_rfl) ?_
  clear cB cO
  go_wp2_with fail
  go_ret
  exact ⟨ret_int (by rw [HE.out]), fin hB8 hS⟩
set_option maxRecDepth 100000 in
set_option maxHeartbeats 4000000 in
theorem rebucket_any (c : Cfg) (n s : Int) (a : Option Addr) (cap : Nat) (zs : List Int) (x y : Int) (w : World) (hr : RowI w a zs) (hl : zs.length ≤ 100000) (hx : x ≤ 9223372036854775807) (hy : y ≤ 9223372036854775807) :
    Calls Tryd.prog 21 #[(.agg #[.int .i64 c.n, .int .i64 c.cl, .int .i64 c.wi, .int .i64 c.bu, .int .i64 c.ca, .int .i64 c.sl, .int .i64 c.rq, .int .i64 c.ti, .int .i64 c.pe, .int .i64 c.la, .int .i64 n, .int .i64 s, .slice a zs.length cap]), .int .i64 x, .int .i64 y] w fun e w' => e = .returned (.int .i64 (bukE c n s zs x y)) ∧ Below w.heap.size w w' := by
  have hB1 : Below w.heap.size w (w.alloc (.cells #[.int .i64 c.n, .int .i64 c.cl, .int .i64 c.wi, .int .i64 c.bu, .int .i64 c.ca, .int .i64 c.sl, .int .i64 c.rq, .int .i64 c.ti, .int .i64 c.pe, .int .i64 c.la, .int .i64 n, .int .i64 s, .slice a zs.length cap] 28)) := (Below.refl _ w).alloc (Nat.le_refl _) _
  have k0 := REpAt.new w c n s a cap zs
  have fin : ∀ {W W' : World}, Below w.heap.size w W → Below W.heap.size W W' → Below w.heap.size w W' := fun h k => h.trans (k.mono h.size)
  have c1 := fun w h => regood_any c n s a cap zs w h hl
  go_enter Tryd.func21, Tryd.ntmps21
  go_wp2_with fail
  obtain ⟨w1, hw1⟩ : ∃ w1, w.alloc (.cells #[.int .i64 c.n, .int .i64 c.cl, .int .i64 c.wi, .int .i64 c.bu, .int .i64 c.ca, .int .i64 c.sl, .int .i64 c.rq, .int .i64 c.ti, .int .i64 c.pe, .int .i64 c.la, .int .i64 n, .int .i64 s, .slice a zs.length cap] 28) = w1 := ⟨_, rfl⟩
  rw [hw1] at hB1 k0 ⊢
  clear hw1
  cases hg : goodE c n s zs
  · simp only [hg] at c1
    have HE : Hid (bukE c n s zs x y = -1) := hide (by unfold bukE; rw [if_neg]; rw [hg]; simp)
    refine (c1 w1 (hr.below hB1)).mono ?_
    rintro e w4 ⟨rfl, hb4⟩
    clear hg c1
    go_wp2_with fail
    go_ret
    exact ⟨ret_int (by rw [HE.out]), fin hB1 hb4⟩
  simp only [hg] at c1
  have hwf : (Lit.int .i64 c.bu).wf = true := by
    obtain ⟨N, B, S, M, ok, _⟩ := epOk hg
    have h1 := ok.cfg.b
    have h2 := ok.cfg.bn
    have h3 := ok.cfg.n64
    have h4 : -9223372036854775808 ≤ c.bu ∧ c.bu ≤ 9223372036854775807 := by omega
    simp only [Lit.wf, Bool.and_eq_true, decide_eq_true_eq]
    exact h4
  refine (c1 w1 (hr.below hB1)).mono ?_
  rintro e w4 ⟨rfl, hb4⟩
  have hB4 := fin hB1 hb4
  have k4 := k0.below hb4
  clear c1 k0 hB1 hb4
  by_cases hx0 : x < 0
  · have d1 : decide (x < 0) = true := decide_eq_true hx0
    have HE : Hid (bukE c n s zs x y = -1) := hide (by unfold bukE; rw [if_neg]; omega)
    clear hg hwf
    go_wp2_with fail
    go_ret
    exact ⟨ret_int (by rw [HE.out]), hB4⟩
  have d1 : decide (x < 0) = false := decide_eq_false hx0
  by_cases hy0 : y < 0
  · have d2 : decide (y < 0) = true := decide_eq_true hy0
    have HE : Hid (bukE c n s zs x y = -1) := hide (by unfold bukE; rw [if_neg]; omega)
    clear hg hwf
    go_wp2_with fail
    go_ret
    exact ⟨ret_int (by rw [HE.out]), hB4⟩
  have d2 : decide (y < 0) = false := decide_eq_false hy0
  have HE : Hid (bukE c n s zs x y = ownerI c n zs (bucketV x y c.bu)) := hide (by unfold bukE; rw [if_pos ⟨hg, by omega, by omega⟩])
  have cB := fun w => refBucket_any x y c.bu w hx hy hwf
  have cO := fun w h => rowner_any c n a cap zs (bucketV x y c.bu) w h hl
  generalize bucketV x y c.bu = bk at *
  generalize ownerI c n zs bk = ow at *
  clear hwf hg
  go_wp2_with fail
  obtain ⟨w8, hw8⟩ : ∃ w8, w4.drew = w8 := ⟨_, rfl⟩
  refine hs_begin (S := (Below w8.heap.size w8)) 14 rfl (by kernel_rfl) ?_
  have k8 : REpAt w8 w.heap.size c n s a cap zs := by rw [← hw8]; exact k4
  have hB8 : Below w.heap.size w w8 := by rw [← hw8]; exact hB4.drew
  skip
  have hr8 := hr.below hB8
  rw [hw8]
  clear hw8 k4 hB4 d1 d2
  have hS : (Below w8.heap.size w8) w8 := Below.refl _ _
  refine hs_take (i := 0) (d := some 18) (v := ?_) rfl (by kernel_rfl) (by kernel_rfl) (by kernel_rfl) (by rfl) ?_ hS rfl ?_
  rotate_left
  · intro w' hw
    go_simp
    try with_reducible rfl
  simp only [Act.put, List.setIfInBounds_toArray, List.set_cons_zero, List.set_cons_succ]
  refine hs_take (i := 1) (d := some 19) (v := .agg #[.int .i64 c.n, .int .i64 c.cl, .int .i64 c.wi, .int .i64 c.bu, .int .i64 c.ca, .int .i64 c.sl, .int .i64 c.rq, .int .i64 c.ti, .int .i64 c.pe, .int .i64 c.la]) rfl (by kernel_rfl) (by kernel_rfl) (by kernel_rfl) (by rfl) (fun w' hw => by obtain ⟨p0, p1, p2, p3, p4, p5, p6, p7, p8, p9, pn, ps, pl⟩ := (k8.below hw).cells; go_simp) hS rfl ?_
  simp only [Act.put, List.setIfInBounds_toArray, List.set_cons_zero, List.set_cons_succ]
  refine hs_take (i := 2) (d := some 20) (v := ?_) rfl (by kernel_rfl) (by kernel_rfl) (by kernel_rfl) (by rfl) ?_ hS rfl ?_
  rotate_left
  · intro w' hw
    go_simp
    try with_reducible rfl
  simp only [Act.put, List.setIfInBounds_toArray, List.set_cons_zero, List.set_cons_succ]
  refine hs_take (i := 3) (d := some 21) (v := .int .i64 n) rfl (by kernel_rfl) (by kernel_rfl) (by kernel_rfl) (by rfl) (fun w' hw => by obtain ⟨p0, p1, p2, p3, p4, p5, p6, p7, p8, p9, pn, ps, pl⟩ := (k8.below hw).cells; go_simp) hS rfl ?_
  simp only [Act.put, List.setIfInBounds_toArray, List.set_cons_zero, List.set_cons_succ]
  refine hs_take (i := 4) (d := some 22) (v := ?_) rfl (by kernel_rfl) (by kernel_rfl) (by kernel_rfl) (by rfl) ?_ hS rfl ?_
  rotate_left
  · intro w' hw
    go_simp
    try with_reducible rfl
  simp only [Act.put, List.setIfInBounds_toArray, List.set_cons_zero, List.set_cons_succ]
  refine hs_take (i := 5) (d := some 23) (v := .slice a zs.length cap) rfl (by kernel_rfl) (by kernel_rfl) (by kernel_rfl) (by rfl) (fun w' hw => by obtain ⟨p0, p1, p2, p3, p4, p5, p6, p7, p8, p9, pn, ps, pl⟩ := (k8.below hw).cells; go_simp) hS rfl ?_
  simp only [Act.put, List.setIfInBounds_toArray, List.set_cons_zero, List.set_cons_succ]
  refine hs_take (i := 6) (d := some 24) (v := ?_) rfl (by kernel_rfl) (by kernel_rfl) (by kernel_rfl) (by rfl) ?_ hS rfl ?_
  rotate_left
  · intro w' hw
    go_simp
    try with_reducible rfl
  simp only [Act.put, List.setIfInBounds_toArray, List.set_cons_zero, List.set_cons_succ]
  refine hs_take (i := 7) (d := some 25) (v := ?_) rfl (by kernel_rfl) (by kernel_rfl) (by kernel_rfl) (by rfl) ?_ hS rfl ?_
  rotate_left
  · intro w' hw
    go_simp
    try with_reducible rfl
  simp only [Act.put, List.setIfInBounds_toArray, List.set_cons_zero, List.set_cons_succ]
  refine hs_take (i := 8) (d := some 26) (v := ?_) rfl (by kernel_rfl) (by kernel_rfl) (by kernel_rfl) (by rfl) ?_ hS rfl ?_
  rotate_left
  · intro w' hw
    go_simp
    try with_reducible rfl
  simp only [Act.put, List.setIfInBounds_toArray, List.set_cons_zero, List.set_cons_succ]
  refine hs_take (i := 9) (d := some 27) (v := ?_) rfl (by kernel_rfl) (by kernel_rfl) (by kernel_rfl) (by rfl) ?_ hS rfl ?_
  rotate_left
  · intro w' hw
    go_simp
    try with_reducible rfl
  simp only [Act.put, List.setIfInBounds_toArray, List.set_cons_zero, List.set_cons_succ]
  refine hs_take (i := 10) (d := some 28) (v := .int .i64 c.bu) rfl (by kernel_rfl) (by kernel_rfl) (by kernel_rfl) (by rfl) (fun w' hw => by obtain ⟨p0, p1, p2, p3, p4, p5, p6, p7, p8, p9, pn, ps, pl⟩ := (k8.below hw).cells; go_simp) hS rfl ?_
  simp only [Act.put, List.setIfInBounds_toArray, List.set_cons_zero, List.set_cons_succ]
  refine hs_call (i := 11) (d := some 29) rfl (by kernel_rfl) (by rfl) (by go_simp; first | done | exact ⟨rfl, rfl⟩ | with_reducible rfl) rfl ?_
  refine (cB w8).mono ?_
  rintro e' w9 ⟨rfl, hw9⟩
  have hS : (Below w8.heap.size w8) w9 := hS.trans (hw9.mono hS.size)
  refine ⟨_, rfl, hS, ?_⟩
  simp only [Act.put, List.setIfInBounds_toArray, List.set_cons_zero, List.set_cons_succ]
  refine hs_call (i := 12) (d := some 30) rfl (by kernel_rfl) (by rfl) (by go_simp; first | done | exact ⟨rfl, rfl⟩ | with_reducible rfl) rfl ?_
  refine (cO w9 (hr8.below hS)).mono ?_
  rintro e' w10 ⟨rfl, hw10⟩
  have hS : (Below w8.heap.size w8) w10 := hS.trans (hw10.mono hS.size)
  refine ⟨_, rfl, hS, ?_⟩
  simp only [Act.put, List.setIfInBounds_toArray, List.set_cons_zero, List.set_cons_succ]
  refine hs_take (i := 13) (d := some 6) (v := ?_) rfl (by kernel_rfl) (by kernel_rfl) (by kernel_rfl) (by rfl) ?_ hS rfl ?_
  rotate_left
  · intro w' hw
    go_simp
    try with_reducible rfl
  simp only [Act.put, List.setIfInBounds_toArray, List.set_cons_zero, List.set_cons_succ]
  refine hs_done (by kernel_rfl) ?_
  clear cB cO
  go_wp2_with fail
  go_ret
  exact ⟨ret_int (by rw [HE.out]), fin hB8 hS⟩
end Go.Proofs.YtnndlgdlligjbabDoor.Ld
namespace Go.Proofs.YtnndlgdlligjbabDoor.Ld
open Go.RowKit Go.Shelf
set_option maxRecDepth 100000 in
set_option maxHeartbeats 16000000 in
theorem tells_walk (c : Cfg) (n s : Int) (a : Option Addr) (cap : Nat) (zs : List Int) (c2 : Cfg) (n2 s2 : Int) (b : Option Addr) (cap2 : Nat) (ys : List Int) (x y z : Int) (w : World) (hr : RowI w a zs) (hr2 : RowI w b ys) (hG : Glob w) (hyb : y ≤ 9223372036854775807) (hzb : z ≤ 9223372036854775807) :
    Calls Tryd.prog 3 #[(.agg #[.int .i64 c.n, .int .i64 c.cl, .int .i64 c.wi, .int .i64 c.bu, .int .i64 c.ca, .int .i64 c.sl, .int .i64 c.rq, .int .i64 c.ti, .int .i64 c.pe, .int .i64 c.la, .int .i64 n, .int .i64 s, .slice a zs.length cap]), .agg #[.int .i64 c2.n, .int .i64 c2.cl, .int .i64 c2.wi, .int .i64 c2.bu, .int .i64 c2.ca, .int .i64 c2.sl, .int .i64 c2.rq, .int .i64 c2.ti, .int .i64 c2.pe, .int .i64 c2.la, .int .i64 n2, .int .i64 s2, .slice b ys.length cap2], .int .i64 x, .int .i64 y, .int .i64 z] w fun e w' => e = .returned (.bool true) ∧ Below w.heap.size w w' := by
  have fin : ∀ {W W' : World}, Below w.heap.size w W → Below W.heap.size W W' → Below w.heap.size w W' := fun h k => h.trans (k.mono h.size)
  have hB1 : Below w.heap.size w ((w.alloc (.cells #[.int .i64 c.n, .int .i64 c.cl, .int .i64 c.wi, .int .i64 c.bu, .int .i64 c.ca, .int .i64 c.sl, .int .i64 c.rq, .int .i64 c.ti, .int .i64 c.pe, .int .i64 c.la, .int .i64 n, .int .i64 s, .slice a zs.length cap] 26)).alloc (.cells #[.int .i64 c2.n, .int .i64 c2.cl, .int .i64 c2.wi, .int .i64 c2.bu, .int .i64 c2.ca, .int .i64 c2.sl, .int .i64 c2.rq, .int .i64 c2.ti, .int .i64 c2.pe, .int .i64 c2.la, .int .i64 n2, .int .i64 s2, .slice b ys.length cap2] 26)) := ((Below.refl _ w).alloc (Nat.le_refl _) _).alloc (by simp) _
  by_cases hl : 100 < zs.length
  · have hl' : (100 : Int) < (zs.length : Int) := by omega
    clear hr hr2
    go_enter Tryd.func3, Tryd.ntmps3
    go_wp2_with fail
    refine (lives12_any _).mono ?_
    rintro e w9 ⟨rfl, hb9⟩
    go_wp2_with fail
    go_ret
    exact ⟨rfl, fin hB1 hb9⟩
  have d0 : decide ((100 : Int) < (zs.length : Int)) = false := decide_eq_false (by omega)
  have d00 : decide (100 < zs.length) = false := decide_eq_false (by omega)
  by_cases hm : 100 < ys.length
  · have hl' : (100 : Int) < (ys.length : Int) := by omega
    clear hr hr2
    go_enter Tryd.func3, Tryd.ntmps3
    go_wp2_with fail
    refine (lives12_any _).mono ?_
    rintro e w9 ⟨rfl, hb9⟩
    go_wp2_with fail
    go_ret
    exact ⟨rfl, fin hB1 hb9⟩
  have d1 : decide ((100 : Int) < (ys.length : Int)) = false := decide_eq_false (by omega)
  have d10 : decide (100 < ys.length) = false := decide_eq_false (by omega)
  have k1 : EpAt ((w.alloc (.cells #[.int .i64 c.n, .int .i64 c.cl, .int .i64 c.wi, .int .i64 c.bu, .int .i64 c.ca, .int .i64 c.sl, .int .i64 c.rq, .int .i64 c.ti, .int .i64 c.pe, .int .i64 c.la, .int .i64 n, .int .i64 s, .slice a zs.length cap] 26)).alloc (.cells #[.int .i64 c2.n, .int .i64 c2.cl, .int .i64 c2.wi, .int .i64 c2.bu, .int .i64 c2.ca, .int .i64 c2.sl, .int .i64 c2.rq, .int .i64 c2.ti, .int .i64 c2.pe, .int .i64 c2.la, .int .i64 n2, .int .i64 s2, .slice b ys.length cap2] 26)) w.heap.size c n s a cap zs := (EpAt.new w c n s a cap zs).below ((Below.refl _ _).alloc (Nat.le_refl _) _)
  have o1 : EpAt ((w.alloc (.cells #[.int .i64 c.n, .int .i64 c.cl, .int .i64 c.wi, .int .i64 c.bu, .int .i64 c.ca, .int .i64 c.sl, .int .i64 c.rq, .int .i64 c.ti, .int .i64 c.pe, .int .i64 c.la, .int .i64 n, .int .i64 s, .slice a zs.length cap] 26)).alloc (.cells #[.int .i64 c2.n, .int .i64 c2.cl, .int .i64 c2.wi, .int .i64 c2.bu, .int .i64 c2.ca, .int .i64 c2.sl, .int .i64 c2.rq, .int .i64 c2.ti, .int .i64 c2.pe, .int .i64 c2.la, .int .i64 n2, .int .i64 s2, .slice b ys.length cap2] 26)) (w.heap.size + 1) c2 n2 s2 b cap2 ys := by
    have := World.alloc_heap_new (w.alloc (.cells #[.int .i64 c.n, .int .i64 c.cl, .int .i64 c.wi, .int .i64 c.bu, .int .i64 c.ca, .int .i64 c.sl, .int .i64 c.rq, .int .i64 c.ti, .int .i64 c.pe, .int .i64 c.la, .int .i64 n, .int .i64 s, .slice a zs.length cap] 26)) (.cells #[.int .i64 c2.n, .int .i64 c2.cl, .int .i64 c2.wi, .int .i64 c2.bu, .int .i64 c2.ca, .int .i64 c2.sl, .int .i64 c2.rq, .int .i64 c2.ti, .int .i64 c2.pe, .int .i64 c2.la, .int .i64 n2, .int .i64 s2, .slice b ys.length cap2] 26)
    rwa [World.size_alloc] at this
  have hz1 := hr.below hB1
  have hy1 := hr2.below hB1
  have hl0 : zs.length ≤ 100000 := by omega
  have hm0 : ys.length ≤ 100000 := by omega
  have hsl : Hid ((slotsE c n s zs y).length ≤ 100000) := hide (by
    unfold slotsE
    split
    · rename_i hg
      obtain ⟨N, B, S, M, ok, _⟩ := epOk hg
      rw [ok.many]
      have := slotsU_len s zs y M
      have := ok.many_le
      simp
      omega
    · simp)
  have cOf1 := fun w => of_any c n s a cap zs w
  have cOf2 := fun w => of_any c2 n2 s2 b cap2 ys w
  have cG := fun w h => egood_any c n s a cap zs w h hl0
  have cGr := fun w h => regood_any c n s a cap zs w h hl0
  have cS := fun w h h' => esame_any c n s a cap zs c2 n2 s2 b cap2 ys w h h' hl0 hm0
  have cSr := fun w h h' => resamef_any c n s a cap zs c2 n2 s2 b cap2 ys w h h' hl0 hm0
  have cE := fun w h => eend_any c n s a cap zs w h hl0
  have cEr := fun w h => reend_any c n s a cap zs w h hl0
  have cO := fun w h => eowner_any c n s a cap zs x w h hl0
  have cOr := fun w h => reowner_any c n s a cap zs x w h hl0
  have cL := fun w h => slots_any c n s a cap zs y w h hl0
  have cLr := fun w h => rslots_any c n s a cap zs y w h hl0
  have cP := fun w h => primary_any c n s a cap zs y z w h hl0
  have cPr := fun w h => rprim_any c n s a cap zs y z w h hl0
  have cB := fun w h hg => ebucket_any c n s a cap zs y z w h hl0 hg hyb hzb
  have cBr := fun w h => rebucket_any c n s a cap zs y z w h hl0 hyb hzb
  generalize goodE c n s zs = g1 at *
  generalize sameB c c2 n n2 s s2 zs ys = g2 at *
  generalize endE c n s zs = g3 at *
  generalize ownE c n s zs x = g4 at *
  generalize slotsE c n s zs y = g5 at *
  generalize primE c n s zs y z = g6 at *
  generalize bukE c n s zs y z = g7 at *
  go_enter Tryd.func3, Tryd.ntmps3
  go_wp2_with fail
  obtain ⟨w1, hw1⟩ : ∃ w1, (w.alloc (.cells #[.int .i64 c.n, .int .i64 c.cl, .int .i64 c.wi, .int .i64 c.bu, .int .i64 c.ca, .int .i64 c.sl, .int .i64 c.rq, .int .i64 c.ti, .int .i64 c.pe, .int .i64 c.la, .int .i64 n, .int .i64 s, .slice a zs.length cap] 26)).alloc (.cells #[.int .i64 c2.n, .int .i64 c2.cl, .int .i64 c2.wi, .int .i64 c2.bu, .int .i64 c2.ca, .int .i64 c2.sl, .int .i64 c2.rq, .int .i64 c2.ti, .int .i64 c2.pe, .int .i64 c2.la, .int .i64 n2, .int .i64 s2, .slice b ys.length cap2] 26) = w1 := ⟨_, rfl⟩
  rw [hw1] at hB1 k1 o1 hz1 hy1 ⊢
  clear hw1 d0 d00 d1 d10
  refine (cOf1 w1).mono ?_
  rintro e w2 ⟨rfl, hb2⟩
  have k2 := k1.below hb2
  have o2 := o1.below hb2
  have hB2 := fin hB1 hb2
  have hz2 := hz1.below hb2
  have hy2 := hy1.below hb2
  clear k1 o1 hB1 hz1 hy1
  have b3 : Below w2.heap.size w2 ((w2.alloc (.cells #[.int .i64 0, .int .i64 0, .int .i64 0, .int .i64 0, .int .i64 0, .int .i64 0, .int .i64 0, .int .i64 0, .int .i64 0, .int .i64 0, .int .i64 0, .int .i64 0, .slice none 0 0] 28)).setRow w2.heap.size #[.int .i64 c.n, .int .i64 c.cl, .int .i64 c.wi, .int .i64 c.bu, .int .i64 c.ca, .int .i64 c.sl, .int .i64 c.rq, .int .i64 c.ti, .int .i64 c.pe, .int .i64 c.la, .int .i64 n, .int .i64 s, .slice a zs.length cap]) := ((Below.refl _ _).alloc (Nat.le_refl _) _).trans (setRow_below (Nat.le_refl _))
  have r3 : REpAt ((w2.alloc (.cells #[.int .i64 0, .int .i64 0, .int .i64 0, .int .i64 0, .int .i64 0, .int .i64 0, .int .i64 0, .int .i64 0, .int .i64 0, .int .i64 0, .int .i64 0, .int .i64 0, .slice none 0 0] 28)).setRow w2.heap.size #[.int .i64 c.n, .int .i64 c.cl, .int .i64 c.wi, .int .i64 c.bu, .int .i64 c.ca, .int .i64 c.sl, .int .i64 c.rq, .int .i64 c.ti, .int .i64 c.pe, .int .i64 c.la, .int .i64 n, .int .i64 s, .slice a zs.length cap]) w2.heap.size c n s a cap zs := setRow_heap _ w2.heap.size _ _ _ _ (World.alloc_heap_new w2 _)
  have k3 := k2.below b3
  have o3 := o2.below b3
  have hB3 := fin hB2 b3
  have hz3 := hz2.below b3
  have hy3 := hy2.below b3
  obtain ⟨w3, hw3⟩ : ∃ w3, (w2.alloc (.cells #[.int .i64 0, .int .i64 0, .int .i64 0, .int .i64 0, .int .i64 0, .int .i64 0, .int .i64 0, .int .i64 0, .int .i64 0, .int .i64 0, .int .i64 0, .int .i64 0, .slice none 0 0] 28)).setRow w2.heap.size #[.int .i64 c.n, .int .i64 c.cl, .int .i64 c.wi, .int .i64 c.bu, .int .i64 c.ca, .int .i64 c.sl, .int .i64 c.rq, .int .i64 c.ti, .int .i64 c.pe, .int .i64 c.la, .int .i64 n, .int .i64 s, .slice a zs.length cap] = w3 := ⟨_, rfl⟩
  rw [hw3] at r3 k3 o3 hB3 hz3 hy3
  have HW3 := hide hw3
  clear hw3 b3 k2 o2 hB2 hz2 hy2
  go_wp2_with (refine wpList_store_row rfl 28 _ _ rfl rfl w2.heap.size 28 _ #[.int .i64 c.n, .int .i64 c.cl, .int .i64 c.wi, .int .i64 c.bu, .int .i64 c.ca, .int .i64 c.sl, .int .i64 c.rq, .int .i64 c.ti, .int .i64 c.pe, .int .i64 c.la, .int .i64 n, .int .i64 s, .slice a zs.length cap] rfl rfl (World.alloc_heap_new w2 _) (by kernel_rfl) rfl (by simp [Value.oneCell']) ?_; rw [HW3.out])
  clear HW3
  obtain ⟨w8, hw8⟩ : ∃ w8, w3.drew = w8 := ⟨_, rfl⟩
  refine hs_begin (S := (Below w8.heap.size w8)) 66 rfl (by kernel_rfl) ?_
  have k8 : EpAt w8 w.heap.size c n s a cap zs := by rw [← hw8]; exact k3
  have o8 : EpAt w8 (w.heap.size + 1) c2 n2 s2 b cap2 ys := by rw [← hw8]; exact o3
  have r8 : REpAt w8 w2.heap.size c n s a cap zs := by rw [← hw8]; exact r3
  have hB8 : Below w.heap.size w w8 := by rw [← hw8]; exact hB3.drew
  have hz8 : RowI w8 a zs := by rw [← hw8]; exact hz3
  have hy8 : RowI w8 b ys := by rw [← hw8]; exact hy3
  have hG8 := hG.below hB8
  rw [hw8]
  clear hw8 k3 o3 r3 hB3 hz3 hy3 hl hm
  have hS : (Below w8.heap.size w8) w8 := Below.refl _ _
  refine hs_take (i := 0) (d := some 25) (v := .agg #[.int .i64 c.n, .int .i64 c.cl, .int .i64 c.wi, .int .i64 c.bu, .int .i64 c.ca, .int .i64 c.sl, .int .i64 c.rq, .int .i64 c.ti, .int .i64 c.pe, .int .i64 c.la, .int .i64 n, .int .i64 s, .slice a zs.length cap]) rfl (by kernel_rfl) (by kernel_rfl) (by kernel_rfl) (by rfl) (fun w' hw => exec_load rfl rfl (k8.below hw).load) hS rfl ?_
  simp only [Act.put, List.setIfInBounds_toArray, List.set_cons_zero, List.set_cons_succ]
  refine hs_take (i := 2) (d := some 27) (v := .agg #[.int .i64 c.n, .int .i64 c.cl, .int .i64 c.wi, .int .i64 c.bu, .int .i64 c.ca, .int .i64 c.sl, .int .i64 c.rq, .int .i64 c.ti, .int .i64 c.pe, .int .i64 c.la, .int .i64 n, .int .i64 s, .slice a zs.length cap]) rfl (by kernel_rfl) (by kernel_rfl) (by kernel_rfl) (by rfl) (fun w' hw => exec_load rfl rfl (r8.below hw).load) hS rfl ?_
  simp only [Act.put, List.setIfInBounds_toArray, List.set_cons_zero, List.set_cons_succ]
  refine hs_call (i := 1) (d := some 26) rfl (by kernel_rfl) (by rfl) (by go_simp; first | done | exact ⟨rfl, rfl⟩ | with_reducible rfl) rfl ?_
  refine (cG w8 (hz8.below hS)).mono ?_
  rintro e' w9 ⟨rfl, h9⟩
  have hS : (Below w8.heap.size w8) w9 := hS.trans (h9.mono hS.size)
  refine ⟨_, rfl, hS, ?_⟩
  simp only [Act.put, List.setIfInBounds_toArray, List.set_cons_zero, List.set_cons_succ]
  refine hs_call (i := 3) (d := some 28) rfl (by kernel_rfl) (by rfl) (by go_simp; first | done | exact ⟨rfl, rfl⟩ | with_reducible rfl) rfl ?_
  refine (cGr w9 (hz8.below hS)).mono ?_
  rintro e' w10 ⟨rfl, h10⟩
  have hS : (Below w8.heap.size w8) w10 := hS.trans (h10.mono hS.size)
  refine ⟨_, rfl, hS, ?_⟩
  simp only [Act.put, List.setIfInBounds_toArray, List.set_cons_zero, List.set_cons_succ]
  refine hs_take (i := 4) (d := some 29) (v := .bool true) rfl (by kernel_rfl) (by kernel_rfl) (by kernel_rfl) (by rfl) (fun w' hw => by go_simp) hS rfl ?_
  simp only [Act.put, List.setIfInBounds_toArray, List.set_cons_zero, List.set_cons_succ]
  refine hs_take (i := 5) (d := some 30) (v := ?_) rfl (by kernel_rfl) (by kernel_rfl) (by kernel_rfl) (by rfl) ?_ hS rfl ?_
  rotate_left
  · intro w' hw
    go_simp
    try with_reducible rfl
  simp only [Act.put, List.setIfInBounds_toArray, List.set_cons_zero, List.set_cons_succ]
  refine hs_take (i := 6) (d := some 31) (v := .agg #[.int .i64 c.n, .int .i64 c.cl, .int .i64 c.wi, .int .i64 c.bu, .int .i64 c.ca, .int .i64 c.sl, .int .i64 c.rq, .int .i64 c.ti, .int .i64 c.pe, .int .i64 c.la, .int .i64 n, .int .i64 s, .slice a zs.length cap]) rfl (by kernel_rfl) (by kernel_rfl) (by kernel_rfl) (by rfl) (fun w' hw => exec_load rfl rfl (k8.below hw).load) hS rfl ?_
  simp only [Act.put, List.setIfInBounds_toArray, List.set_cons_zero, List.set_cons_succ]
  refine hs_take (i := 7) (d := some 32) (v := .agg #[.int .i64 c2.n, .int .i64 c2.cl, .int .i64 c2.wi, .int .i64 c2.bu, .int .i64 c2.ca, .int .i64 c2.sl, .int .i64 c2.rq, .int .i64 c2.ti, .int .i64 c2.pe, .int .i64 c2.la, .int .i64 n2, .int .i64 s2, .slice b ys.length cap2]) rfl (by kernel_rfl) (by kernel_rfl) (by kernel_rfl) (by rfl) (fun w' hw => exec_load rfl rfl (o8.below hw).load) hS rfl ?_
  simp only [Act.put, List.setIfInBounds_toArray, List.set_cons_zero, List.set_cons_succ]
  refine hs_take (i := 9) (d := some 34) (v := .agg #[.int .i64 c.n, .int .i64 c.cl, .int .i64 c.wi, .int .i64 c.bu, .int .i64 c.ca, .int .i64 c.sl, .int .i64 c.rq, .int .i64 c.ti, .int .i64 c.pe, .int .i64 c.la, .int .i64 n, .int .i64 s, .slice a zs.length cap]) rfl (by kernel_rfl) (by kernel_rfl) (by kernel_rfl) (by rfl) (fun w' hw => exec_load rfl rfl (r8.below hw).load) hS rfl ?_
  simp only [Act.put, List.setIfInBounds_toArray, List.set_cons_zero, List.set_cons_succ]
  refine hs_take (i := 10) (d := some 35) (v := .agg #[.int .i64 c2.n, .int .i64 c2.cl, .int .i64 c2.wi, .int .i64 c2.bu, .int .i64 c2.ca, .int .i64 c2.sl, .int .i64 c2.rq, .int .i64 c2.ti, .int .i64 c2.pe, .int .i64 c2.la, .int .i64 n2, .int .i64 s2, .slice b ys.length cap2]) rfl (by kernel_rfl) (by kernel_rfl) (by kernel_rfl) (by rfl) (fun w' hw => exec_load rfl rfl (o8.below hw).load) hS rfl ?_
  simp only [Act.put, List.setIfInBounds_toArray, List.set_cons_zero, List.set_cons_succ]
  refine hs_call (i := 8) (d := some 33) rfl (by kernel_rfl) (by rfl) (by go_simp; first | done | exact ⟨rfl, rfl⟩ | with_reducible rfl) rfl ?_
  refine (cS w10 (hz8.below hS) (hy8.below hS)).mono ?_
  rintro e' w11 ⟨rfl, h11⟩
  have hS : (Below w8.heap.size w8) w11 := hS.trans (h11.mono hS.size)
  refine ⟨_, rfl, hS, ?_⟩
  simp only [Act.put, List.setIfInBounds_toArray, List.set_cons_zero, List.set_cons_succ]
  refine hs_call (i := 11) (d := some 36) rfl (by kernel_rfl) (by rfl) (by go_simp; first | done | exact ⟨rfl, rfl⟩ | with_reducible rfl) rfl ?_
  refine (cOf2 w11).mono ?_
  rintro e' w12 ⟨rfl, h12⟩
  have hS : (Below w8.heap.size w8) w12 := hS.trans (h12.mono hS.size)
  refine ⟨_, rfl, hS, ?_⟩
  simp only [Act.put, List.setIfInBounds_toArray, List.set_cons_zero, List.set_cons_succ]
  refine hs_call (i := 12) (d := some 37) rfl (by kernel_rfl) (by rfl) (by go_simp; first | done | exact ⟨rfl, rfl⟩ | with_reducible rfl) rfl ?_
  refine (cSr w12 (hz8.below hS) (hy8.below hS)).mono ?_
  rintro e' w13 ⟨rfl, h13⟩
  have hS : (Below w8.heap.size w8) w13 := hS.trans (h13.mono hS.size)
  refine ⟨_, rfl, hS, ?_⟩
  simp only [Act.put, List.setIfInBounds_toArray, List.set_cons_zero, List.set_cons_succ]
  refine hs_take (i := 13) (d := some 38) (v := .bool true) rfl (by kernel_rfl) (by kernel_rfl) (by kernel_rfl) (by rfl) (fun w' hw => by go_simp) hS rfl ?_
  simp only [Act.put, List.setIfInBounds_toArray, List.set_cons_zero, List.set_cons_succ]
  refine hs_take (i := 14) (d := some 39) (v := .bool true) rfl (by kernel_rfl) (by kernel_rfl) (by kernel_rfl) (by rfl) (fun w' hw => by go_simp) hS rfl ?_
  simp only [Act.put, List.setIfInBounds_toArray, List.set_cons_zero, List.set_cons_succ]
  refine hs_take (i := 15) (d := some 40) (v := ?_) rfl (by kernel_rfl) (by kernel_rfl) (by kernel_rfl) (by rfl) ?_ hS rfl ?_
  rotate_left
  · intro w' hw
    go_simp
    try with_reducible rfl
  simp only [Act.put, List.setIfInBounds_toArray, List.set_cons_zero, List.set_cons_succ]
  refine hs_take (i := 16) (d := some 41) (v := .agg #[.int .i64 c.n, .int .i64 c.cl, .int .i64 c.wi, .int .i64 c.bu, .int .i64 c.ca, .int .i64 c.sl, .int .i64 c.rq, .int .i64 c.ti, .int .i64 c.pe, .int .i64 c.la, .int .i64 n, .int .i64 s, .slice a zs.length cap]) rfl (by kernel_rfl) (by kernel_rfl) (by kernel_rfl) (by rfl) (fun w' hw => exec_load rfl rfl (k8.below hw).load) hS rfl ?_
  simp only [Act.put, List.setIfInBounds_toArray, List.set_cons_zero, List.set_cons_succ]
  refine hs_take (i := 18) (d := some 43) (v := .agg #[.int .i64 c.n, .int .i64 c.cl, .int .i64 c.wi, .int .i64 c.bu, .int .i64 c.ca, .int .i64 c.sl, .int .i64 c.rq, .int .i64 c.ti, .int .i64 c.pe, .int .i64 c.la, .int .i64 n, .int .i64 s, .slice a zs.length cap]) rfl (by kernel_rfl) (by kernel_rfl) (by kernel_rfl) (by rfl) (fun w' hw => exec_load rfl rfl (r8.below hw).load) hS rfl ?_
  simp only [Act.put, List.setIfInBounds_toArray, List.set_cons_zero, List.set_cons_succ]
  refine hs_call (i := 17) (d := some 42) rfl (by kernel_rfl) (by rfl) (by go_simp; first | done | exact ⟨rfl, rfl⟩ | with_reducible rfl) rfl ?_
  refine (cE w13 (hz8.below hS)).mono ?_
  rintro e' w14 ⟨rfl, h14⟩
  have hS : (Below w8.heap.size w8) w14 := hS.trans (h14.mono hS.size)
  refine ⟨_, rfl, hS, ?_⟩
  simp only [Act.put, List.setIfInBounds_toArray, List.set_cons_zero, List.set_cons_succ]
  refine hs_call (i := 19) (d := some 44) rfl (by kernel_rfl) (by rfl) (by go_simp; first | done | exact ⟨rfl, rfl⟩ | with_reducible rfl) rfl ?_
  refine (cEr w14 (hz8.below hS)).mono ?_
  rintro e' w15 ⟨rfl, h15⟩
  have hS : (Below w8.heap.size w8) w15 := hS.trans (h15.mono hS.size)
  refine ⟨_, rfl, hS, ?_⟩
  simp only [Act.put, List.setIfInBounds_toArray, List.set_cons_zero, List.set_cons_succ]
  refine hs_take (i := 20) (d := some 45) (v := .bool true) rfl (by kernel_rfl) (by kernel_rfl) (by kernel_rfl) (by rfl) (fun w' hw => by go_simp) hS rfl ?_
  simp only [Act.put, List.setIfInBounds_toArray, List.set_cons_zero, List.set_cons_succ]
  refine hs_take (i := 21) (d := some 46) (v := .bool true) rfl (by kernel_rfl) (by kernel_rfl) (by kernel_rfl) (by rfl) (fun w' hw => by go_simp) hS rfl ?_
  simp only [Act.put, List.setIfInBounds_toArray, List.set_cons_zero, List.set_cons_succ]
  refine hs_take (i := 22) (d := some 47) (v := ?_) rfl (by kernel_rfl) (by kernel_rfl) (by kernel_rfl) (by rfl) ?_ hS rfl ?_
  rotate_left
  · intro w' hw
    go_simp
    try with_reducible rfl
  simp only [Act.put, List.setIfInBounds_toArray, List.set_cons_zero, List.set_cons_succ]
  refine hs_take (i := 23) (d := some 48) (v := .agg #[.int .i64 c.n, .int .i64 c.cl, .int .i64 c.wi, .int .i64 c.bu, .int .i64 c.ca, .int .i64 c.sl, .int .i64 c.rq, .int .i64 c.ti, .int .i64 c.pe, .int .i64 c.la, .int .i64 n, .int .i64 s, .slice a zs.length cap]) rfl (by kernel_rfl) (by kernel_rfl) (by kernel_rfl) (by rfl) (fun w' hw => exec_load rfl rfl (k8.below hw).load) hS rfl ?_
  simp only [Act.put, List.setIfInBounds_toArray, List.set_cons_zero, List.set_cons_succ]
  refine hs_take (i := 24) (d := some 49) (v := ?_) rfl (by kernel_rfl) (by kernel_rfl) (by kernel_rfl) (by rfl) ?_ hS rfl ?_
  rotate_left
  · intro w' hw
    go_simp
    try with_reducible rfl
  simp only [Act.put, List.setIfInBounds_toArray, List.set_cons_zero, List.set_cons_succ]
  refine hs_take (i := 26) (d := some 51) (v := .agg #[.int .i64 c.n, .int .i64 c.cl, .int .i64 c.wi, .int .i64 c.bu, .int .i64 c.ca, .int .i64 c.sl, .int .i64 c.rq, .int .i64 c.ti, .int .i64 c.pe, .int .i64 c.la, .int .i64 n, .int .i64 s, .slice a zs.length cap]) rfl (by kernel_rfl) (by kernel_rfl) (by kernel_rfl) (by rfl) (fun w' hw => exec_load rfl rfl (r8.below hw).load) hS rfl ?_
  simp only [Act.put, List.setIfInBounds_toArray, List.set_cons_zero, List.set_cons_succ]
  refine hs_take (i := 27) (d := some 52) (v := ?_) rfl (by kernel_rfl) (by kernel_rfl) (by kernel_rfl) (by rfl) ?_ hS rfl ?_
  rotate_left
  · intro w' hw
    go_simp
    try with_reducible rfl
  simp only [Act.put, List.setIfInBounds_toArray, List.set_cons_zero, List.set_cons_succ]
  refine hs_call (i := 25) (d := some 50) rfl (by kernel_rfl) (by rfl) (by go_simp; first | done | exact ⟨rfl, rfl⟩ | with_reducible rfl) rfl ?_
  refine (cO w15 (hz8.below hS)).mono ?_
  rintro e' w16 ⟨rfl, h16⟩
  have hS : (Below w8.heap.size w8) w16 := hS.trans (h16.mono hS.size)
  refine ⟨_, rfl, hS, ?_⟩
  simp only [Act.put, List.setIfInBounds_toArray, List.set_cons_zero, List.set_cons_succ]
  refine hs_call (i := 28) (d := some 53) rfl (by kernel_rfl) (by rfl) (by go_simp; first | done | exact ⟨rfl, rfl⟩ | with_reducible rfl) rfl ?_
  refine (cOr w16 (hz8.below hS)).mono ?_
  rintro e' w17 ⟨rfl, h17⟩
  have hS : (Below w8.heap.size w8) w17 := hS.trans (h17.mono hS.size)
  refine ⟨_, rfl, hS, ?_⟩
  simp only [Act.put, List.setIfInBounds_toArray, List.set_cons_zero, List.set_cons_succ]
  refine hs_take (i := 29) (d := some 54) (v := .bool true) rfl (by kernel_rfl) (by kernel_rfl) (by kernel_rfl) (by rfl) (fun w' hw => by go_simp) hS rfl ?_
  simp only [Act.put, List.setIfInBounds_toArray, List.set_cons_zero, List.set_cons_succ]
  refine hs_take (i := 30) (d := some 55) (v := .bool true) rfl (by kernel_rfl) (by kernel_rfl) (by kernel_rfl) (by rfl) (fun w' hw => by go_simp) hS rfl ?_
  simp only [Act.put, List.setIfInBounds_toArray, List.set_cons_zero, List.set_cons_succ]
  refine hs_take (i := 31) (d := some 56) (v := ?_) rfl (by kernel_rfl) (by kernel_rfl) (by kernel_rfl) (by rfl) ?_ hS rfl ?_
  rotate_left
  · intro w' hw
    go_simp
    try with_reducible rfl
  simp only [Act.put, List.setIfInBounds_toArray, List.set_cons_zero, List.set_cons_succ]
  refine hs_take (i := 32) (d := some 57) (v := .agg #[.int .i64 c.n, .int .i64 c.cl, .int .i64 c.wi, .int .i64 c.bu, .int .i64 c.ca, .int .i64 c.sl, .int .i64 c.rq, .int .i64 c.ti, .int .i64 c.pe, .int .i64 c.la, .int .i64 n, .int .i64 s, .slice a zs.length cap]) rfl (by kernel_rfl) (by kernel_rfl) (by kernel_rfl) (by rfl) (fun w' hw => exec_load rfl rfl (k8.below hw).load) hS rfl ?_
  simp only [Act.put, List.setIfInBounds_toArray, List.set_cons_zero, List.set_cons_succ]
  refine hs_take (i := 33) (d := some 58) (v := ?_) rfl (by kernel_rfl) (by kernel_rfl) (by kernel_rfl) (by rfl) ?_ hS rfl ?_
  rotate_left
  · intro w' hw
    go_simp
    try with_reducible rfl
  simp only [Act.put, List.setIfInBounds_toArray, List.set_cons_zero, List.set_cons_succ]
  refine hs_take (i := 35) (d := some 60) (v := .agg #[.int .i64 c.n, .int .i64 c.cl, .int .i64 c.wi, .int .i64 c.bu, .int .i64 c.ca, .int .i64 c.sl, .int .i64 c.rq, .int .i64 c.ti, .int .i64 c.pe, .int .i64 c.la, .int .i64 n, .int .i64 s, .slice a zs.length cap]) rfl (by kernel_rfl) (by kernel_rfl) (by kernel_rfl) (by rfl) (fun w' hw => exec_load rfl rfl (r8.below hw).load) hS rfl ?_
  simp only [Act.put, List.setIfInBounds_toArray, List.set_cons_zero, List.set_cons_succ]
  refine hs_take (i := 36) (d := some 61) (v := ?_) rfl (by kernel_rfl) (by kernel_rfl) (by kernel_rfl) (by rfl) ?_ hS rfl ?_
  rotate_left
  · intro w' hw
    go_simp
    try with_reducible rfl
  simp only [Act.put, List.setIfInBounds_toArray, List.set_cons_zero, List.set_cons_succ]
  refine hs_call (i := 34) (d := some 59) rfl (by kernel_rfl) (by rfl) (by go_simp; first | done | exact ⟨rfl, rfl⟩ | with_reducible rfl) rfl ?_
  refine (cL w17 (hz8.below hS)).mono ?_
  rintro e' w18 ⟨v1, rfl, hrow1, h18⟩
  have hS : (Below w8.heap.size w8) w18 := hS.trans (h18.mono hS.size)
  refine ⟨_, rfl, hS, ?_⟩
  simp only [Act.put, List.setIfInBounds_toArray, List.set_cons_zero, List.set_cons_succ]
  obtain ⟨ax, capx, rfl, hrx⟩ := own_rowI hrow1 (by have := hsl.out; unfold maxLen; omega)
  clear hrow1
  refine hs_call (i := 37) (d := some 62) rfl (by kernel_rfl) (by rfl) (by go_simp; first | done | exact ⟨rfl, rfl⟩ | with_reducible rfl) rfl ?_
  refine (cLr w18 (hz8.below hS)).mono ?_
  rintro e' w19 ⟨v2, rfl, hrow2, h19⟩
  have hS : (Below w8.heap.size w8) w19 := hS.trans (h19.mono hS.size)
  refine ⟨_, rfl, hS, ?_⟩
  simp only [Act.put, List.setIfInBounds_toArray, List.set_cons_zero, List.set_cons_succ]
  obtain ⟨ay, capy, rfl, hry⟩ := own_rowI hrow2 (by have := hsl.out; unfold maxLen; omega)
  clear hrow2
  have ci := ints_same ax ay capx capy g5 w19 (hrx.below h19) hry hsl.out
  clear hrx hry
  refine hs_call (i := 38) (d := some 63) rfl (by kernel_rfl) (by rfl) (by go_simp; first | done | exact ⟨rfl, rfl⟩ | with_reducible rfl) rfl ?_
  refine (ci).mono ?_
  rintro e' w20 ⟨rfl, h20⟩
  have hS : (Below w8.heap.size w8) w20 := hS.trans (h20.mono hS.size)
  refine ⟨_, rfl, hS, ?_⟩
  simp only [Act.put, List.setIfInBounds_toArray, List.set_cons_zero, List.set_cons_succ]
  clear ci
  refine hs_take (i := 39) (d := some 64) (v := .bool true) rfl (by kernel_rfl) (by kernel_rfl) (by kernel_rfl) (by rfl) (fun w' hw => by go_simp) hS rfl ?_
  simp only [Act.put, List.setIfInBounds_toArray, List.set_cons_zero, List.set_cons_succ]
  refine hs_take (i := 40) (d := some 65) (v := ?_) rfl (by kernel_rfl) (by kernel_rfl) (by kernel_rfl) (by rfl) ?_ hS rfl ?_
  rotate_left
  · intro w' hw
    go_simp
    try with_reducible rfl
  simp only [Act.put, List.setIfInBounds_toArray, List.set_cons_zero, List.set_cons_succ]
  refine hs_take (i := 41) (d := some 66) (v := .agg #[.int .i64 c.n, .int .i64 c.cl, .int .i64 c.wi, .int .i64 c.bu, .int .i64 c.ca, .int .i64 c.sl, .int .i64 c.rq, .int .i64 c.ti, .int .i64 c.pe, .int .i64 c.la, .int .i64 n, .int .i64 s, .slice a zs.length cap]) rfl (by kernel_rfl) (by kernel_rfl) (by kernel_rfl) (by rfl) (fun w' hw => exec_load rfl rfl (k8.below hw).load) hS rfl ?_
  simp only [Act.put, List.setIfInBounds_toArray, List.set_cons_zero, List.set_cons_succ]
  refine hs_take (i := 42) (d := some 67) (v := ?_) rfl (by kernel_rfl) (by kernel_rfl) (by kernel_rfl) (by rfl) ?_ hS rfl ?_
  rotate_left
  · intro w' hw
    go_simp
    try with_reducible rfl
  simp only [Act.put, List.setIfInBounds_toArray, List.set_cons_zero, List.set_cons_succ]
  refine hs_take (i := 43) (d := some 68) (v := ?_) rfl (by kernel_rfl) (by kernel_rfl) (by kernel_rfl) (by rfl) ?_ hS rfl ?_
  rotate_left
  · intro w' hw
    go_simp
    try with_reducible rfl
  simp only [Act.put, List.setIfInBounds_toArray, List.set_cons_zero, List.set_cons_succ]
  refine hs_take (i := 45) (d := some 70) (v := .agg #[.int .i64 c.n, .int .i64 c.cl, .int .i64 c.wi, .int .i64 c.bu, .int .i64 c.ca, .int .i64 c.sl, .int .i64 c.rq, .int .i64 c.ti, .int .i64 c.pe, .int .i64 c.la, .int .i64 n, .int .i64 s, .slice a zs.length cap]) rfl (by kernel_rfl) (by kernel_rfl) (by kernel_rfl) (by rfl) (fun w' hw => exec_load rfl rfl (r8.below hw).load) hS rfl ?_
  simp only [Act.put, List.setIfInBounds_toArray, List.set_cons_zero, List.set_cons_succ]
  refine hs_take (i := 46) (d := some 71) (v := ?_) rfl (by kernel_rfl) (by kernel_rfl) (by kernel_rfl) (by rfl) ?_ hS rfl ?_
  rotate_left
  · intro w' hw
    go_simp
    try with_reducible rfl
  simp only [Act.put, List.setIfInBounds_toArray, List.set_cons_zero, List.set_cons_succ]
  refine hs_take (i := 47) (d := some 72) (v := ?_) rfl (by kernel_rfl) (by kernel_rfl) (by kernel_rfl) (by rfl) ?_ hS rfl ?_
  rotate_left
  · intro w' hw
    go_simp
    try with_reducible rfl
  simp only [Act.put, List.setIfInBounds_toArray, List.set_cons_zero, List.set_cons_succ]
  refine hs_call (i := 44) (d := some 69) rfl (by kernel_rfl) (by rfl) (by go_simp; first | done | exact ⟨rfl, rfl⟩ | with_reducible rfl) rfl ?_
  refine (cP w20 (hz8.below hS)).mono ?_
  rintro e' w21 ⟨rfl, h21⟩
  have hS : (Below w8.heap.size w8) w21 := hS.trans (h21.mono hS.size)
  refine ⟨_, rfl, hS, ?_⟩
  simp only [Act.put, List.setIfInBounds_toArray, List.set_cons_zero, List.set_cons_succ]
  refine hs_call (i := 48) (d := some 73) rfl (by kernel_rfl) (by rfl) (by go_simp; first | done | exact ⟨rfl, rfl⟩ | with_reducible rfl) rfl ?_
  refine (cPr w21 (hz8.below hS)).mono ?_
  rintro e' w22 ⟨rfl, h22⟩
  have hS : (Below w8.heap.size w8) w22 := hS.trans (h22.mono hS.size)
  refine ⟨_, rfl, hS, ?_⟩
  simp only [Act.put, List.setIfInBounds_toArray, List.set_cons_zero, List.set_cons_succ]
  refine hs_take (i := 49) (d := some 74) (v := .bool true) rfl (by kernel_rfl) (by kernel_rfl) (by kernel_rfl) (by rfl) (fun w' hw => by go_simp) hS rfl ?_
  simp only [Act.put, List.setIfInBounds_toArray, List.set_cons_zero, List.set_cons_succ]
  refine hs_take (i := 50) (d := some 75) (v := .bool true) rfl (by kernel_rfl) (by kernel_rfl) (by kernel_rfl) (by rfl) (fun w' hw => by go_simp) hS rfl ?_
  simp only [Act.put, List.setIfInBounds_toArray, List.set_cons_zero, List.set_cons_succ]
  refine hs_take (i := 51) (d := some 76) (v := ?_) rfl (by kernel_rfl) (by kernel_rfl) (by kernel_rfl) (by rfl) ?_ hS rfl ?_
  rotate_left
  · intro w' hw
    go_simp
    try with_reducible rfl
  simp only [Act.put, List.setIfInBounds_toArray, List.set_cons_zero, List.set_cons_succ]
  refine hs_take (i := 52) (d := some 77) (v := .agg #[.int .i64 c.n, .int .i64 c.cl, .int .i64 c.wi, .int .i64 c.bu, .int .i64 c.ca, .int .i64 c.sl, .int .i64 c.rq, .int .i64 c.ti, .int .i64 c.pe, .int .i64 c.la, .int .i64 n, .int .i64 s, .slice a zs.length cap]) rfl (by kernel_rfl) (by kernel_rfl) (by kernel_rfl) (by rfl) (fun w' hw => exec_load rfl rfl (k8.below hw).load) hS rfl ?_
  simp only [Act.put, List.setIfInBounds_toArray, List.set_cons_zero, List.set_cons_succ]
  refine hs_take (i := 53) (d := some 78) (v := ?_) rfl (by kernel_rfl) (by kernel_rfl) (by kernel_rfl) (by rfl) ?_ hS rfl ?_
  rotate_left
  · intro w' hw
    go_simp
    try with_reducible rfl
  simp only [Act.put, List.setIfInBounds_toArray, List.set_cons_zero, List.set_cons_succ]
  refine hs_take (i := 54) (d := some 79) (v := ?_) rfl (by kernel_rfl) (by kernel_rfl) (by kernel_rfl) (by rfl) ?_ hS rfl ?_
  rotate_left
  · intro w' hw
    go_simp
    try with_reducible rfl
  simp only [Act.put, List.setIfInBounds_toArray, List.set_cons_zero, List.set_cons_succ]
  refine hs_take (i := 56) (d := some 81) (v := .agg #[.int .i64 c.n, .int .i64 c.cl, .int .i64 c.wi, .int .i64 c.bu, .int .i64 c.ca, .int .i64 c.sl, .int .i64 c.rq, .int .i64 c.ti, .int .i64 c.pe, .int .i64 c.la, .int .i64 n, .int .i64 s, .slice a zs.length cap]) rfl (by kernel_rfl) (by kernel_rfl) (by kernel_rfl) (by rfl) (fun w' hw => exec_load rfl rfl (r8.below hw).load) hS rfl ?_
  simp only [Act.put, List.setIfInBounds_toArray, List.set_cons_zero, List.set_cons_succ]
  refine hs_take (i := 57) (d := some 82) (v := ?_) rfl (by kernel_rfl) (by kernel_rfl) (by kernel_rfl) (by rfl) ?_ hS rfl ?_
  rotate_left
  · intro w' hw
    go_simp
    try with_reducible rfl
  simp only [Act.put, List.setIfInBounds_toArray, List.set_cons_zero, List.set_cons_succ]
  refine hs_take (i := 58) (d := some 83) (v := ?_) rfl (by kernel_rfl) (by kernel_rfl) (by kernel_rfl) (by rfl) ?_ hS rfl ?_
  rotate_left
  · intro w' hw
    go_simp
    try with_reducible rfl
  simp only [Act.put, List.setIfInBounds_toArray, List.set_cons_zero, List.set_cons_succ]
  refine hs_call (i := 55) (d := some 80) rfl (by kernel_rfl) (by rfl) (by go_simp; first | done | exact ⟨rfl, rfl⟩ | with_reducible rfl) rfl ?_
  refine (cB w22 (hz8.below hS) (hG8.below hS)).mono ?_
  rintro e' w23 ⟨rfl, h23⟩
  have hS : (Below w8.heap.size w8) w23 := hS.trans (h23.mono hS.size)
  refine ⟨_, rfl, hS, ?_⟩
  simp only [Act.put, List.setIfInBounds_toArray, List.set_cons_zero, List.set_cons_succ]
  refine hs_call (i := 59) (d := some 84) rfl (by kernel_rfl) (by rfl) (by go_simp; first | done | exact ⟨rfl, rfl⟩ | with_reducible rfl) rfl ?_
  refine (cBr w23 (hz8.below hS)).mono ?_
  rintro e' w24 ⟨rfl, h24⟩
  have hS : (Below w8.heap.size w8) w24 := hS.trans (h24.mono hS.size)
  refine ⟨_, rfl, hS, ?_⟩
  simp only [Act.put, List.setIfInBounds_toArray, List.set_cons_zero, List.set_cons_succ]
  refine hs_take (i := 60) (d := some 85) (v := .bool true) rfl (by kernel_rfl) (by kernel_rfl) (by kernel_rfl) (by rfl) (fun w' hw => by go_simp) hS rfl ?_
  simp only [Act.put, List.setIfInBounds_toArray, List.set_cons_zero, List.set_cons_succ]
  refine hs_take (i := 61) (d := some 86) (v := .bool true) rfl (by kernel_rfl) (by kernel_rfl) (by kernel_rfl) (by rfl) (fun w' hw => by go_simp) hS rfl ?_
  simp only [Act.put, List.setIfInBounds_toArray, List.set_cons_zero, List.set_cons_succ]
  refine hs_take (i := 62) (d := some 87) (v := ?_) rfl (by kernel_rfl) (by kernel_rfl) (by kernel_rfl) (by rfl) ?_ hS rfl ?_
  rotate_left
  · intro w' hw
    go_simp
    try with_reducible rfl
  simp only [Act.put, List.setIfInBounds_toArray, List.set_cons_zero, List.set_cons_succ]
  refine hs_call (i := 63) (d := some 88) rfl (by kernel_rfl) (by rfl) (by go_simp; first | done | exact ⟨rfl, rfl⟩ | with_reducible rfl) rfl ?_
  refine (lives12_any w24).mono ?_
  rintro e' w25 ⟨rfl, h25⟩
  have hS : (Below w8.heap.size w8) w25 := hS.trans (h25.mono hS.size)
  refine ⟨_, rfl, hS, ?_⟩
  simp only [Act.put, List.setIfInBounds_toArray, List.set_cons_zero, List.set_cons_succ]
  refine hs_take (i := 64) (d := some 89) (v := .bool true) rfl (by kernel_rfl) (by kernel_rfl) (by kernel_rfl) (by rfl) (fun w' hw => by go_simp) hS rfl ?_
  simp only [Act.put, List.setIfInBounds_toArray, List.set_cons_zero, List.set_cons_succ]
  refine hs_take (i := 65) (d := some 10) (v := ?_) rfl (by kernel_rfl) (by kernel_rfl) (by kernel_rfl) (by rfl) ?_ hS rfl ?_
  rotate_left
  · intro w' hw
    go_simp
    try with_reducible rfl
  simp only [Act.put, List.setIfInBounds_toArray, List.set_cons_zero, List.set_cons_succ]
  refine hs_done (by kernel_rfl) ?_
  clear cOf1 cOf2 cG cGr cS cSr cE cEr cO cOr cL cLr cP cPr cB cBr
  go_wp2_with fail
  go_ret
  exact ⟨rfl, fin hB8 hS⟩
end Go.Proofs.YtnndlgdlligjbabDoor.Ld
namespace Go.Proofs.YtnndlgdlligjbabDoor.epochTells
open Go.ChangeShapes Go.WideShapes Go.ChangeAt Go.RowKit
open Go.ChangeMaps (open_string shut_string)
set_option linter.unusedVariables false
set_option maxRecDepth 100000 in
theorem lifted (os : Os) (started : os.Started) (H : Type) (enc : TypeId × Value → H) :
    ReturnsInHanded {} Tryd.checked os 3 .any (fun w args => (Rows.epochTellsSpec.pre enc Tryd.prog Tryd.f3 [] false w args ∧ laidMetH Tryd.prog laid2 w) ∧ sizedMet enc Tryd.prog Tryd.f3 (OpenSpec.ofChange Rows.epochTellsSpec) false w args)
      (Rows.epochTellsSpec.post enc Tryd.prog Tryd.f3 false true false false) := by
  refine returnsInHanded_of_change_and (C := Tryd.checked) (X := fun w _ => laidMetH Tryd.prog laid2 w) (fun _ _ _ hh h => h.of_heap hh) own started (by kernel_rfl) Tryd.func3
    (ChangeSpec.witness_shaped (enc := enc) (C := Tryd.checked) (os := os) (X := fun w _ => laidMetH Tryd.prog laid2 w) false (World.doorLaid Tryd.prog 400 os) #[.agg #[.int .i64 0, .int .i64 0, .int .i64 0, .int .i64 0, .int .i64 0, .int .i64 0, .int .i64 0, .int .i64 0, .int .i64 0, .int .i64 0, .int .i64 0, .int .i64 0, .slice none 0 0], .agg #[.int .i64 0, .int .i64 0, .int .i64 0, .int .i64 0, .int .i64 0, .int .i64 0, .int .i64 0, .int .i64 0, .int .i64 0, .int .i64 0, .int .i64 0, .int .i64 0, .slice none 0 0], .int .i64 0, .int .i64 0, .int .i64 0] 8 rfl (World.shaped_of_RefB (by kernel_rfl) (by kernel_rfl)) (by kernel_rfl) (by kernel_rfl) (by kernel_rfl) (door_met os _)) ?_
  intro W base args ds gs before hval0 hW _ _ hL _
  have hval : ∀ (j : Nat) t v, Tryd.f3.params[j]? = some t → args[j]? = some v → Value.okWide Tryd.prog W .any base t v := hval0
  have hW' := hW
  obtain ⟨p, q, hA0, hV, rfl, hfz, hnd⟩ := hW
  have hA : DataW.TrodAll enc Tryd.prog W 0 (fun _ => true) true Tryd.f3.params.toList args.toList ds p := hA0
  rw [Tryd.params3] at hA hval
  obtain ⟨v0, vs0, d0, ds0, p0, q0, hargs, rfl, rfl, h0, r0⟩ := trodAll_cons hA
  obtain ⟨v1, vs1, d1, ds1, p1, q1, rfl, rfl, rfl, h1, r1⟩ := trodAll_cons r0
  obtain ⟨v2, vs2, d2, ds2, p2, q2, rfl, rfl, rfl, h2, r2⟩ := trodAll_cons r1
  obtain ⟨v3, vs3, d3, ds3, p3, q3, rfl, rfl, rfl, h3, r3⟩ := trodAll_cons r2
  obtain ⟨v4, vs4, d4, ds4, p4, q4, rfl, rfl, rfl, h4, r4⟩ := trodAll_cons r3
  obtain ⟨rfl, rfl, rfl⟩ := trodAll_nil r4
  obtain rfl : args = #[v0, v1, v2, v3, v4] := by cases args; simp_all
  obtain ⟨rfl, rfl⟩ := trodVars_none hV
  have k0 := h0
  have lt0 : ∀ x ∈ p0, x.block < W.heap.size := by obtain ⟨m, hm⟩ := k0; exact DataW.trod_lt m _ _ _ hm
  have k1 := h1
  have lt1 : ∀ x ∈ p1, x.block < W.heap.size := by obtain ⟨m, hm⟩ := k1; exact DataW.trod_lt m _ _ _ hm
  have k2 := h2
  have lt2 : ∀ x ∈ p2, x.block < W.heap.size := by obtain ⟨m, hm⟩ := k2; exact DataW.trod_lt m _ _ _ hm
  have k3 := h3
  have lt3 : ∀ x ∈ p3, x.block < W.heap.size := by obtain ⟨m, hm⟩ := k3; exact DataW.trod_lt m _ _ _ hm
  have k4 := h4
  have lt4 : ∀ x ∈ p4, x.block < W.heap.size := by obtain ⟨m, hm⟩ := k4; exact DataW.trod_lt m _ _ _ hm
  obtain ⟨fuel0, hf0⟩ := h0
  obtain ⟨c0, m0, s0, a0, len0, cap0, z0, rfl, w0, u0⟩ := Ld.open_ep (hval 0 26 v0 rfl rfl) hf0
  obtain ⟨zs0, hlen0, _, _, hr0, _⟩ := w0.rowI
  subst hlen0
  obtain ⟨fuel1, hf1⟩ := h1
  obtain ⟨c1, m1, s1, a1, len1, cap1, z1, rfl, w1, u1⟩ := Ld.open_ep (hval 1 26 v1 rfl rfl) hf1
  obtain ⟨zs1, hlen1, _, _, hr1, _⟩ := w1.rowI
  subst hlen1
  obtain ⟨n2, rfl, rfl, rfl, hn2⟩ := open_int Tryd.underlying3 (hval 2 3 v2 rfl rfl) h2
  obtain ⟨n3, rfl, rfl, rfl, hn3⟩ := open_int Tryd.underlying3 (hval 3 3 v3 rfl rfl) h3
  obtain ⟨n4, rfl, rfl, rfl, hn4⟩ := open_int Tryd.underlying3 (hval 4 3 v4 rfl rfl) h4
  have hG := glob_of hL
  clear hA0 hval0
  refine (Ld.tells_walk c0 m0 s0 a0 cap0 zs0 c1 m1 s1 a1 cap1 zs1 n2 n3 n4 W hr0 hr1 hG (Ld.wf64 hn3).2 (Ld.wf64 hn4).2).mono fun e W' ⟨he, bel⟩ => ?_
  subst he
  exact ⟨_, rfl, _, _, _, [], _, [], hW', trodAll_mk1 (shut_bool Tryd.underlying4 _), (trodAll_cons_mk (Below.trod laidOut (by kernel_rfl) (of_decide_eq_true (by kernel_rfl)) k0 bel lt0) (trodAll_cons_mk (Below.trod laidOut (by kernel_rfl) (of_decide_eq_true (by kernel_rfl)) k1 bel lt1) (trodAll_cons_mk (Below.trod laidOut (by kernel_rfl) (of_decide_eq_true (by kernel_rfl)) k2 bel lt2) (trodAll_cons_mk (Below.trod laidOut (by kernel_rfl) (of_decide_eq_true (by kernel_rfl)) k3 bel lt3) (trodAll_cons_mk (Below.trod laidOut (by kernel_rfl) (of_decide_eq_true (by kernel_rfl)) k4 bel lt4) trodAll_mk0))))), rfl, bel.frame _, fun h => by cases h⟩
theorem over : Rows.EpochTellsSaid :=
  OpenClaim.holds_of_wide 3 Tryd.f3 rfl rfl rfl rfl rfl rfl rfl ⟨rfl, rfl, rfl, rfl, rfl⟩ rfl rfl rfl rfl rfl (by kernel_rfl) Tryd.func3 (by kernel_rfl)
    (of_decide_eq_true (by kernel_rfl)) (by unfold Func.isWrapper; first | (rw [if_pos (by decide +kernel)]; kernel_rfl) | (rw [if_neg (by decide +kernel)]; exact ⟨rfl, rfl⟩))
    (fun os started H enc _ => lifted os started H enc)
end Go.Proofs.YtnndlgdlligjbabDoor.epochTells
namespace Go.Proofs.YtnndlgdlligjbabDoor
theorem epochTells_card : Rows.EpochTellsCardSaid :=
  Claim7.holds_tied_plain_at .later [] [.data, .data] true (true, "7ecd172e4a3a9960aac8fbbd3fdb1042380eb5820ddccd8d9b2127fb481d644c") false
    epochTells.over (fun _ h => by cases h) (by kernel_rfl) (fun _ h => by cases h) epochTells_row_tie rfl ⟨rfl, rfl⟩ (by kernel_rfl) rfl
    (fun f fn hf hfn => by
      obtain rfl : f = 3 := Option.some.inj ((show Tryd.prog.funcNamed "raddle/raddlelaw12.EpochTells" = some 3 by kernel_rfl).symm.trans hf) |>.symm
      obtain rfl : fn = Tryd.f3 := (Option.some.inj (Tryd.func3.symm.trans hfn)).symm
      exact ⟨by kernel_rfl, fun j t ht => by
        rw [Tryd.params3] at ht
        rcases j with _ | _ | _ | _ | _ | j
        · obtain rfl : t = 26 := by simpa using ht.symm
          exact (show Tryd.prog.wantsStandIn 26 = false by kernel_rfl)
        · obtain rfl : t = 26 := by simpa using ht.symm
          exact (show Tryd.prog.wantsStandIn 26 = false by kernel_rfl)
        · obtain rfl : t = 3 := by simpa using ht.symm
          exact (show Tryd.prog.wantsStandIn 3 = false by kernel_rfl)
        · obtain rfl : t = 3 := by simpa using ht.symm
          exact (show Tryd.prog.wantsStandIn 3 = false by kernel_rfl)
        · obtain rfl : t = 3 := by simpa using ht.symm
          exact (show Tryd.prog.wantsStandIn 3 = false by kernel_rfl)
        · simp at ht⟩)
    (by kernel_rfl)
#print axioms epochTells_card
end Go.Proofs.YtnndlgdlligjbabDoor
