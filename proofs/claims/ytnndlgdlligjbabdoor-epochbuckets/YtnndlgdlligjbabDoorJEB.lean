/- a config by value an epoch by value epoch.Bucket; the walk of EpochBuckets EpochBuckets: for every epoch, client and number the law answers true and its arguments read as before. Conditions: none beyond the row's own; the card ties the tables 'starts' and 'roots' of package digest to the program's text (of the pruned copy of the project). -/
import Derived.Test.YtnndlgdlligjbabDoorLBox
import Derived.Test.YtnndlgdlligjbabDoorRows
import Derived.ProofKit
import Derived.OpenShut
import Derived.ShutString
import Derived.ChangeOld
import Derived.Below
import Derived.Test.YtnndlgdlligjbabDoorLEp1
import Derived.Test.YtnndlgdlligjbabDoorLEp5
import Derived.Test.YtnndlgdlligjbabDoorBucket
import Derived.Test.YtnndlgdlligjbabDoorFrame
namespace Go.Proofs.YtnndlgdlligjbabDoor.Ld
open Go.ChangeShapes Go.WideShapes Go.ChangeAt Go.RowKit
theorem wf64 {z : Int} (h : (Lit.int .i64 z).wf = true) : -9223372036854775808 ≤ z ∧ z ≤ 9223372036854775807 := by
  simp only [Lit.wf, Bool.and_eq_true, decide_eq_true_eq] at h
  exact h
theorem some_at {α : Type} {xs : List α} {n i : Nat} (hl : xs.length = n) (hi : i < n) : ∃ y, xs[i]? = some y := ⟨xs[i]'(by omega), List.getElem?_eq_getElem (by omega)⟩
theorem drop_one {α : Type} {l : List α} {o : Nat} {v : α} (h : (l.drop o).take 1 = [v]) : l[o]? = some v := by
  have := congrArg (·[0]?) h
  simpa [List.getElem?_take, List.getElem?_drop] using this
set_option maxRecDepth 100000 in
theorem open_cfg {H : Type} {enc : TypeId × Value → H} {W : World} {base b : Nat} {sp : Nat → Bool} {held : Bool} {fuel : Nat} {v : Value} {x : DataW H × List MemPlace} (hv : Value.okWide Tryd.prog W .any base 23 v)
    (h : DataW.trod enc Tryd.prog W b sp held fuel 23 v.cells.toList = some x) : ∃ c : Cfg, v = (.agg #[.int .i64 c.n, .int .i64 c.cl, .int .i64 c.wi, .int .i64 c.bu, .int .i64 c.ca, .int .i64 c.sl, .int .i64 c.rq, .int .i64 c.ti, .int .i64 c.pe, .int .i64 c.la]) := by
  unfold Value.okWide at hv
  rw [Tryd.underlying23] at hv
  obtain ⟨cs, rfl, hsz, _⟩ := hv
  have hct : Tryd.prog.cellsOf 23 = 10 := by kernel_rfl
  have hci : Tryd.prog.cellsOf 3 = 1 := by kernel_rfl
  rw [hct] at hsz
  obtain ⟨xs, m, _, rfl, _, hl, hf⟩ := DataW.trod_struct Tryd.underlying23 h
  have hl : xs.length = 10 := hl
  simp only [Value.cells] at hf
  have h0 : DataW.trod enc Tryd.prog W b sp held m 3 ((cs.toList.drop 0).take (Tryd.prog.cellsOf 3)) = xs[0]? := hf 0 _ rfl
  rw [hci] at h0
  obtain ⟨y0, e0⟩ := some_at hl (show 0 < 10 by omega)
  obtain ⟨B0, g0, rfl, hw0⟩ := DataW.trod_int Tryd.underlying3 (h0.trans e0)
  have g0 := drop_one g0
  have h1 : DataW.trod enc Tryd.prog W b sp held m 3 ((cs.toList.drop 1).take (Tryd.prog.cellsOf 3)) = xs[1]? := hf 1 _ rfl
  rw [hci] at h1
  obtain ⟨y1, e1⟩ := some_at hl (show 1 < 10 by omega)
  obtain ⟨B1, g1, rfl, hw1⟩ := DataW.trod_int Tryd.underlying3 (h1.trans e1)
  have g1 := drop_one g1
  have h2 : DataW.trod enc Tryd.prog W b sp held m 3 ((cs.toList.drop 2).take (Tryd.prog.cellsOf 3)) = xs[2]? := hf 2 _ rfl
  rw [hci] at h2
  obtain ⟨y2, e2⟩ := some_at hl (show 2 < 10 by omega)
  obtain ⟨B2, g2, rfl, hw2⟩ := DataW.trod_int Tryd.underlying3 (h2.trans e2)
  have g2 := drop_one g2
  have h3 : DataW.trod enc Tryd.prog W b sp held m 3 ((cs.toList.drop 3).take (Tryd.prog.cellsOf 3)) = xs[3]? := hf 3 _ rfl
  rw [hci] at h3
  obtain ⟨y3, e3⟩ := some_at hl (show 3 < 10 by omega)
  obtain ⟨B3, g3, rfl, hw3⟩ := DataW.trod_int Tryd.underlying3 (h3.trans e3)
  have g3 := drop_one g3
  have h4 : DataW.trod enc Tryd.prog W b sp held m 3 ((cs.toList.drop 4).take (Tryd.prog.cellsOf 3)) = xs[4]? := hf 4 _ rfl
  rw [hci] at h4
  obtain ⟨y4, e4⟩ := some_at hl (show 4 < 10 by omega)
  obtain ⟨B4, g4, rfl, hw4⟩ := DataW.trod_int Tryd.underlying3 (h4.trans e4)
  have g4 := drop_one g4
  have h5 : DataW.trod enc Tryd.prog W b sp held m 3 ((cs.toList.drop 5).take (Tryd.prog.cellsOf 3)) = xs[5]? := hf 5 _ rfl
  rw [hci] at h5
  obtain ⟨y5, e5⟩ := some_at hl (show 5 < 10 by omega)
  obtain ⟨B5, g5, rfl, hw5⟩ := DataW.trod_int Tryd.underlying3 (h5.trans e5)
  have g5 := drop_one g5
  have h6 : DataW.trod enc Tryd.prog W b sp held m 3 ((cs.toList.drop 6).take (Tryd.prog.cellsOf 3)) = xs[6]? := hf 6 _ rfl
  rw [hci] at h6
  obtain ⟨y6, e6⟩ := some_at hl (show 6 < 10 by omega)
  obtain ⟨B6, g6, rfl, hw6⟩ := DataW.trod_int Tryd.underlying3 (h6.trans e6)
  have g6 := drop_one g6
  have h7 : DataW.trod enc Tryd.prog W b sp held m 3 ((cs.toList.drop 7).take (Tryd.prog.cellsOf 3)) = xs[7]? := hf 7 _ rfl
  rw [hci] at h7
  obtain ⟨y7, e7⟩ := some_at hl (show 7 < 10 by omega)
  obtain ⟨B7, g7, rfl, hw7⟩ := DataW.trod_int Tryd.underlying3 (h7.trans e7)
  have g7 := drop_one g7
  have h8 : DataW.trod enc Tryd.prog W b sp held m 3 ((cs.toList.drop 8).take (Tryd.prog.cellsOf 3)) = xs[8]? := hf 8 _ rfl
  rw [hci] at h8
  obtain ⟨y8, e8⟩ := some_at hl (show 8 < 10 by omega)
  obtain ⟨B8, g8, rfl, hw8⟩ := DataW.trod_int Tryd.underlying3 (h8.trans e8)
  have g8 := drop_one g8
  have h9 : DataW.trod enc Tryd.prog W b sp held m 3 ((cs.toList.drop 9).take (Tryd.prog.cellsOf 3)) = xs[9]? := hf 9 _ rfl
  rw [hci] at h9
  obtain ⟨y9, e9⟩ := some_at hl (show 9 < 10 by omega)
  obtain ⟨B9, g9, rfl, hw9⟩ := DataW.trod_int Tryd.underlying3 (h9.trans e9)
  have g9 := drop_one g9
  refine ⟨⟨B0, B1, B2, B3, B4, B5, B6, B7, B8, B9⟩, ?_⟩
  congr 1
  apply Array.ext'
  have hcl : cs.toList.length = 10 := by simpa using hsz
  generalize cs.toList = l at *
  match l, hcl with
  | [a0, a1, a2, a3, a4, a5, a6, a7, a8, a9], _ =>
    simp at g0 g1 g2 g3 g4 g5 g6 g7 g8 g9
    subst g0 g1 g2 g3 g4 g5 g6 g7 g8 g9
    rfl
end Go.Proofs.YtnndlgdlligjbabDoor.Ld
namespace Go.Proofs.YtnndlgdlligjbabDoor.Ld
open Go.ChangeShapes Go.WideShapes Go.ChangeAt Go.RowKit
theorem take10 {α : Type} {l : List α} {i : Nat} {v : α} (hi : i < 10) (h : ((l.drop 0).take 10)[i]? = some v) : l[i]? = some v := by
  rw [List.drop_zero, List.getElem?_take, if_pos hi] at h
  exact h
set_option maxRecDepth 100000 in
set_option maxHeartbeats 2000000 in
theorem open_ep {H : Type} {enc : TypeId × Value → H} {W : World} {base b : Nat} {held : Bool} {fuel : Nat} {v : Value} {x : DataW H × List MemPlace} (hv : Value.okWide Tryd.prog W .any base 26 v)
    (h : DataW.trod enc Tryd.prog W b (fun _ => true) held fuel 26 v.cells.toList = some x) :
    ∃ (c : Cfg) (n s : Int) (a : Option Addr) (len cap : Nat) (zs : List Int), v = .agg #[.int .i64 c.n, .int .i64 c.cl, .int .i64 c.wi, .int .i64 c.bu, .int .i64 c.ca, .int .i64 c.sl, .int .i64 c.rq, .int .i64 c.ti, .int .i64 c.pe, .int .i64 c.la, .int .i64 n, .int .i64 s, .slice a len cap] ∧ IsRow .i64 W a len cap zs ∧ ((-9223372036854775808 ≤ n ∧ n ≤ 9223372036854775807) ∧ -9223372036854775808 ≤ s ∧ s ≤ 9223372036854775807) := by
  unfold Value.okWide at hv
  rw [Tryd.underlying26] at hv
  obtain ⟨cs, rfl, hsz, _⟩ := hv
  have hct : Tryd.prog.cellsOf 26 = 13 := by kernel_rfl
  have hcc : Tryd.prog.cellsOf 23 = 10 := by kernel_rfl
  have hci : Tryd.prog.cellsOf 3 = 1 := by kernel_rfl
  have hcl : Tryd.prog.cellsOf 24 = 1 := by kernel_rfl
  rw [hct] at hsz
  obtain ⟨xs, m, _, rfl, _, hl, hf⟩ := DataW.trod_struct Tryd.underlying26 h
  have hl : xs.length = 4 := hl
  simp only [Value.cells] at hf
  have k0 : DataW.trod enc Tryd.prog W b (fun _ => true) held m 23 ((cs.toList.drop 0).take (Tryd.prog.cellsOf 23)) = xs[0]? := hf 0 _ rfl
  have k1 : DataW.trod enc Tryd.prog W b (fun _ => true) held m 3 ((cs.toList.drop 10).take (Tryd.prog.cellsOf 3)) = xs[1]? := hf 1 _ rfl
  have k2 : DataW.trod enc Tryd.prog W b (fun _ => true) held m 3 ((cs.toList.drop 11).take (Tryd.prog.cellsOf 3)) = xs[2]? := hf 2 _ rfl
  have k3 : DataW.trod enc Tryd.prog W b (fun _ => true) held m 24 ((cs.toList.drop 12).take (Tryd.prog.cellsOf 24)) = xs[3]? := hf 3 _ rfl
  rw [hcc] at k0
  rw [hci] at k1 k2
  rw [hcl] at k3
  obtain ⟨x0, f0⟩ := some_at hl (show 0 < 4 by omega)
  obtain ⟨x1, f1⟩ := some_at hl (show 1 < 4 by omega)
  obtain ⟨x2, f2⟩ := some_at hl (show 2 < 4 by omega)
  obtain ⟨x3, f3⟩ := some_at hl (show 3 < 4 by omega)
  obtain ⟨n, gn, _, hwn⟩ := DataW.trod_int Tryd.underlying3 (k1.trans f1)
  obtain ⟨s, gs, _, hws⟩ := DataW.trod_int Tryd.underlying3 (k2.trans f2)
  have gn := drop_one gn
  have gs := drop_one gs
  obtain ⟨ys, m2, _, _, _, hl2, hf2⟩ := DataW.trod_struct Tryd.underlying23 (k0.trans f0)
  have hl2 : ys.length = 10 := hl2
  have h0 : DataW.trod enc Tryd.prog W b (fun _ => true) held m2 3 ((((cs.toList.drop 0).take 10).drop 0).take (Tryd.prog.cellsOf 3)) = ys[0]? := hf2 0 _ rfl
  rw [hci] at h0
  obtain ⟨y0, e0⟩ := some_at hl2 (show 0 < 10 by omega)
  obtain ⟨B0, g0, _, hw0⟩ := DataW.trod_int Tryd.underlying3 (h0.trans e0)
  have g0 := drop_one g0
  have h1 : DataW.trod enc Tryd.prog W b (fun _ => true) held m2 3 ((((cs.toList.drop 0).take 10).drop 1).take (Tryd.prog.cellsOf 3)) = ys[1]? := hf2 1 _ rfl
  rw [hci] at h1
  obtain ⟨y1, e1⟩ := some_at hl2 (show 1 < 10 by omega)
  obtain ⟨B1, g1, _, hw1⟩ := DataW.trod_int Tryd.underlying3 (h1.trans e1)
  have g1 := drop_one g1
  have h2 : DataW.trod enc Tryd.prog W b (fun _ => true) held m2 3 ((((cs.toList.drop 0).take 10).drop 2).take (Tryd.prog.cellsOf 3)) = ys[2]? := hf2 2 _ rfl
  rw [hci] at h2
  obtain ⟨y2, e2⟩ := some_at hl2 (show 2 < 10 by omega)
  obtain ⟨B2, g2, _, hw2⟩ := DataW.trod_int Tryd.underlying3 (h2.trans e2)
  have g2 := drop_one g2
  have h3 : DataW.trod enc Tryd.prog W b (fun _ => true) held m2 3 ((((cs.toList.drop 0).take 10).drop 3).take (Tryd.prog.cellsOf 3)) = ys[3]? := hf2 3 _ rfl
  rw [hci] at h3
  obtain ⟨y3, e3⟩ := some_at hl2 (show 3 < 10 by omega)
  obtain ⟨B3, g3, _, hw3⟩ := DataW.trod_int Tryd.underlying3 (h3.trans e3)
  have g3 := drop_one g3
  have h4 : DataW.trod enc Tryd.prog W b (fun _ => true) held m2 3 ((((cs.toList.drop 0).take 10).drop 4).take (Tryd.prog.cellsOf 3)) = ys[4]? := hf2 4 _ rfl
  rw [hci] at h4
  obtain ⟨y4, e4⟩ := some_at hl2 (show 4 < 10 by omega)
  obtain ⟨B4, g4, _, hw4⟩ := DataW.trod_int Tryd.underlying3 (h4.trans e4)
  have g4 := drop_one g4
  have h5 : DataW.trod enc Tryd.prog W b (fun _ => true) held m2 3 ((((cs.toList.drop 0).take 10).drop 5).take (Tryd.prog.cellsOf 3)) = ys[5]? := hf2 5 _ rfl
  rw [hci] at h5
  obtain ⟨y5, e5⟩ := some_at hl2 (show 5 < 10 by omega)
  obtain ⟨B5, g5, _, hw5⟩ := DataW.trod_int Tryd.underlying3 (h5.trans e5)
  have g5 := drop_one g5
  have h6 : DataW.trod enc Tryd.prog W b (fun _ => true) held m2 3 ((((cs.toList.drop 0).take 10).drop 6).take (Tryd.prog.cellsOf 3)) = ys[6]? := hf2 6 _ rfl
  rw [hci] at h6
  obtain ⟨y6, e6⟩ := some_at hl2 (show 6 < 10 by omega)
  obtain ⟨B6, g6, _, hw6⟩ := DataW.trod_int Tryd.underlying3 (h6.trans e6)
  have g6 := drop_one g6
  have h7 : DataW.trod enc Tryd.prog W b (fun _ => true) held m2 3 ((((cs.toList.drop 0).take 10).drop 7).take (Tryd.prog.cellsOf 3)) = ys[7]? := hf2 7 _ rfl
  rw [hci] at h7
  obtain ⟨y7, e7⟩ := some_at hl2 (show 7 < 10 by omega)
  obtain ⟨B7, g7, _, hw7⟩ := DataW.trod_int Tryd.underlying3 (h7.trans e7)
  have g7 := drop_one g7
  have h8 : DataW.trod enc Tryd.prog W b (fun _ => true) held m2 3 ((((cs.toList.drop 0).take 10).drop 8).take (Tryd.prog.cellsOf 3)) = ys[8]? := hf2 8 _ rfl
  rw [hci] at h8
  obtain ⟨y8, e8⟩ := some_at hl2 (show 8 < 10 by omega)
  obtain ⟨B8, g8, _, hw8⟩ := DataW.trod_int Tryd.underlying3 (h8.trans e8)
  have g8 := drop_one g8
  have h9 : DataW.trod enc Tryd.prog W b (fun _ => true) held m2 3 ((((cs.toList.drop 0).take 10).drop 9).take (Tryd.prog.cellsOf 3)) = ys[9]? := hf2 9 _ rfl
  rw [hci] at h9
  obtain ⟨y9, e9⟩ := some_at hl2 (show 9 < 10 by omega)
  obtain ⟨B9, g9, _, hw9⟩ := DataW.trod_int Tryd.underlying3 (h9.trans e9)
  have g9 := drop_one g9
  have hcl2 : cs.toList.length = 13 := by simpa using hsz
  have fin : ∀ (a : Option Addr) (len cap : Nat), cs.toList[12]? = some (.slice a len cap) → Value.agg cs = .agg #[.int .i64 B0, .int .i64 B1, .int .i64 B2, .int .i64 B3, .int .i64 B4, .int .i64 B5, .int .i64 B6, .int .i64 B7, .int .i64 B8, .int .i64 B9, .int .i64 n, .int .i64 s, .slice a len cap] := by
    intro a len cap gl
    congr 1
    apply Array.ext'
    have g0 := take10 (by omega) g0
    have g1 := take10 (by omega) g1
    have g2 := take10 (by omega) g2
    have g3 := take10 (by omega) g3
    have g4 := take10 (by omega) g4
    have g5 := take10 (by omega) g5
    have g6 := take10 (by omega) g6
    have g7 := take10 (by omega) g7
    have g8 := take10 (by omega) g8
    have g9 := take10 (by omega) g9
    generalize cs.toList = l at *
    match l, hcl2 with
    | [a0, a1, a2, a3, a4, a5, a6, a7, a8, a9, a10, a11, a12], _ =>
      simp at g0 g1 g2 g3 g4 g5 g6 g7 g8 g9 gn gs gl
      subst g0 g1 g2 g3 g4 g5 g6 g7 g8 g9 gn gs gl
      rfl
  rcases open_ints Tryd.underlying24 Tryd.underlying3 hci (k3.trans f3) with ⟨hcs, _⟩ | ⟨ad, l, c, zs, hcs, _, hl3, hm, hz, _, hcell, hwz⟩
  · exact ⟨⟨B0, B1, B2, B3, B4, B5, B6, B7, B8, B9⟩, n, s, none, 0, 0, [], fin none 0 0 (drop_one hcs), .inl ⟨rfl, rfl, rfl, rfl⟩, wf64 hwn, wf64 hws⟩
  · exact ⟨⟨B0, B1, B2, B3, B4, B5, B6, B7, B8, B9⟩, n, s, some ad, l, c, zs, fin (some ad) l c (drop_one hcs), .inr ⟨ad, rfl, hl3, hm, by simpa using hz, hcell, hwz⟩, wf64 hwn, wf64 hws⟩
end Go.Proofs.YtnndlgdlligjbabDoor.Ld
namespace Go.Proofs.YtnndlgdlligjbabDoor.Ld
open Go.RowKit Go.Shelf
theorem owner_mem {c : Cfg} {n s b : Int} {zs : List Int} (h : goodE c n s zs = true) (hb : 0 ≤ b ∧ b < c.bu) : ownerI c n zs b ∈ zs := by
  obtain ⟨N, B, S, M, ok, _⟩ := epOk h
  have hm : mayC c n = true := by
    have hg : goodC c = true := by
      simp only [goodE, Bool.and_eq_true] at h; exact h.1.1.1.1
    have := ok.num
    have := ok.cfg.la
    simp only [mayC, hg, Bool.true_and]; exact inB_mk (by omega)
  unfold ownerI
  rw [if_pos ⟨hm, hb⟩, ok.cfg.n]
  have h0 := ok.len
  have hz := risingF_all ok.up 0 h0
  obtain ⟨z, hzz⟩ := Int.eq_ofNat_of_zero_le (show 0 ≤ zs[0] by omega)
  have hzN : z < N := by have := ok.cfg.n; omega
  have hN : ((N : Int)).toNat = N := rfl
  rw [hN]
  obtain ⟨j, hj⟩ := own_has (N := N) (f := (b.toNat + n.toNat) % N) (p := memB zs) hzN (decide_eq_true (by rw [← hzz]; exact List.getElem_mem h0))
  have := own_some hj
  unfold ownI; rw [hj]
  exact of_decide_eq_true this.1
set_option maxRecDepth 100000 in
set_option maxHeartbeats 4000000 in
theorem ebucket_good (c : Cfg) (n s : Int) (a : Option Addr) (cap : Nat) (zs : List Int) (x y : Int) (w : World) (hr : RowI w a zs) (hl : zs.length ≤ 100000) (hG : Glob w) (hg : goodE c n s zs = true) (hx : 0 ≤ x ∧ x ≤ 9223372036854775807) (hy : 0 ≤ y ∧ y ≤ 9223372036854775807) :
    Calls Tryd.prog 20 #[(.agg #[.int .i64 c.n, .int .i64 c.cl, .int .i64 c.wi, .int .i64 c.bu, .int .i64 c.ca, .int .i64 c.sl, .int .i64 c.rq, .int .i64 c.ti, .int .i64 c.pe, .int .i64 c.la, .int .i64 n, .int .i64 s, .slice a zs.length cap]), .int .i64 x, .int .i64 y] w fun e w' => e = .returned (.int .i64 (ownerI c n zs (bucketV x y c.bu))) ∧ Below w.heap.size w w' := by
  have hB1 : Below w.heap.size w (w.alloc (.cells #[.int .i64 c.n, .int .i64 c.cl, .int .i64 c.wi, .int .i64 c.bu, .int .i64 c.ca, .int .i64 c.sl, .int .i64 c.rq, .int .i64 c.ti, .int .i64 c.pe, .int .i64 c.la, .int .i64 n, .int .i64 s, .slice a zs.length cap] 26)) := (Below.refl _ w).alloc (Nat.le_refl _) _
  have k0 := EpAt.new w c n s a cap zs
  have fin : ∀ {W W' : World}, Below w.heap.size w W → Below W.heap.size W W' → Below w.heap.size w W' := fun h k => h.trans (k.mono h.size)
  have c1 := fun w h => egood_any c n s a cap zs w h hl
  simp only [hg] at c1
  have hwf : (Lit.int .i64 c.bu).wf = true := by
    obtain ⟨N, B, S, M, ok, _⟩ := epOk hg
    have h1 := ok.cfg.b
    have h2 := ok.cfg.bn
    have h3 := ok.cfg.n64
    have h4 : -9223372036854775808 ≤ c.bu ∧ c.bu ≤ 9223372036854775807 := by omega
    simp only [Lit.wf, Bool.and_eq_true, decide_eq_true_eq]
    exact h4
  have cB := fun w h => bucket_any x y c.bu w h hx.2 hy.2 hwf
  have cO := fun w h => lOwner_any c n a cap zs (bucketV x y c.bu) w h hl
  generalize bucketV x y c.bu = bk at *
  generalize ownerI c n zs bk = ow at *
  have d1 : decide (x < 0) = false := decide_eq_false (by omega)
  have d2 : decide (y < 0) = false := decide_eq_false (by omega)
  clear hwf
  go_enter Tryd.func20, Tryd.ntmps20
  go_wp2_with fail
  obtain ⟨w1, hw1⟩ : ∃ w1, w.alloc (.cells #[.int .i64 c.n, .int .i64 c.cl, .int .i64 c.wi, .int .i64 c.bu, .int .i64 c.ca, .int .i64 c.sl, .int .i64 c.rq, .int .i64 c.ti, .int .i64 c.pe, .int .i64 c.la, .int .i64 n, .int .i64 s, .slice a zs.length cap] 26) = w1 := ⟨_, rfl⟩
  rw [hw1] at hB1 k0 ⊢
  clear hw1
  refine (c1 w1 (hr.below hB1)).mono ?_
  rintro e w4 ⟨rfl, hb4⟩
  have hB4 := fin hB1 hb4
  have k4 := k0.below hb4
  clear c1 k0 hB1 hb4
  go_wp2_with fail
  obtain ⟨w8, hw8⟩ : ∃ w8, w4.drew = w8 := ⟨_, rfl⟩
  refine hs_begin (S := (Below w8.heap.size w8)) 14 rfl (by kernel_rfl) ?_
  have k8 : EpAt w8 w.heap.size c n s a cap zs := by rw [← hw8]; exact k4
  have hB8 : Below w.heap.size w w8 := by rw [← hw8]; exact hB4.drew
  have hG8 := hG.below hB8
  have hr8 := hr.below hB8
  rw [hw8]
  clear hw8 k4 hB4 d1 d2
  have hS : (Below w8.heap.size w8) w8 := Below.refl _ _
  refine hs_take (i := 0) (d := some 18) (v := ?_) rfl (by kernel_rfl) (by kernel_rfl) (by kernel_rfl) (by rfl) ?_ hS rfl ?_
  rotate_left
  · intro w' hw
    go_simp
    try with_reducible rfl
  simp only [Act.put, List.setIfInBounds_toArray, List.set_cons_zero, List.set_cons_succ]
  refine hs_take (i := 1) (d := some 19) (v := .agg #[.int .i64 c.n, .int .i64 c.cl, .int .i64 c.wi, .int .i64 c.bu, .int .i64 c.ca, .int .i64 c.sl, .int .i64 c.rq, .int .i64 c.ti, .int .i64 c.pe, .int .i64 c.la]) rfl (by kernel_rfl) (by kernel_rfl) (by kernel_rfl) (by rfl) (fun w' hw => by obtain ⟨p0, p1, p2, p3, p4, p5, p6, p7, p8, p9, pn, ps, pl⟩ := (k8.below hw).cells; go_simp) hS rfl ?_
  simp only [Act.put, List.setIfInBounds_toArray, List.set_cons_zero, List.set_cons_succ]
  refine hs_take (i := 2) (d := some 20) (v := ?_) rfl (by kernel_rfl) (by kernel_rfl) (by kernel_rfl) (by rfl) ?_ hS rfl ?_
  rotate_left
  · intro w' hw
    go_simp
    try with_reducible rfl
  simp only [Act.put, List.setIfInBounds_toArray, List.set_cons_zero, List.set_cons_succ]
  refine hs_take (i := 3) (d := some 21) (v := .int .i64 n) rfl (by kernel_rfl) (by kernel_rfl) (by kernel_rfl) (by rfl) (fun w' hw => by obtain ⟨p0, p1, p2, p3, p4, p5, p6, p7, p8, p9, pn, ps, pl⟩ := (k8.below hw).cells; go_simp) hS rfl ?_
  simp only [Act.put, List.setIfInBounds_toArray, List.set_cons_zero, List.set_cons_succ]
  refine hs_take (i := 4) (d := some 22) (v := ?_) rfl (by kernel_rfl) (by kernel_rfl) (by kernel_rfl) (by rfl) ?_ hS rfl ?_
  rotate_left
  · intro w' hw
    go_simp
    try with_reducible rfl
  simp only [Act.put, List.setIfInBounds_toArray, List.set_cons_zero, List.set_cons_succ]
  refine hs_take (i := 5) (d := some 23) (v := .slice a zs.length cap) rfl (by kernel_rfl) (by kernel_rfl) (by kernel_rfl) (by rfl) (fun w' hw => by obtain ⟨p0, p1, p2, p3, p4, p5, p6, p7, p8, p9, pn, ps, pl⟩ := (k8.below hw).cells; go_simp) hS rfl ?_
  simp only [Act.put, List.setIfInBounds_toArray, List.set_cons_zero, List.set_cons_succ]
  refine hs_take (i := 6) (d := some 24) (v := ?_) rfl (by kernel_rfl) (by kernel_rfl) (by kernel_rfl) (by rfl) ?_ hS rfl ?_
  rotate_left
  · intro w' hw
    go_simp
    try with_reducible rfl
  simp only [Act.put, List.setIfInBounds_toArray, List.set_cons_zero, List.set_cons_succ]
  refine hs_take (i := 7) (d := some 25) (v := ?_) rfl (by kernel_rfl) (by kernel_rfl) (by kernel_rfl) (by rfl) ?_ hS rfl ?_
  rotate_left
  · intro w' hw
    go_simp
    try with_reducible rfl
  simp only [Act.put, List.setIfInBounds_toArray, List.set_cons_zero, List.set_cons_succ]
  refine hs_take (i := 8) (d := some 26) (v := ?_) rfl (by kernel_rfl) (by kernel_rfl) (by kernel_rfl) (by rfl) ?_ hS rfl ?_
  rotate_left
  · intro w' hw
    go_simp
    try with_reducible rfl
  simp only [Act.put, List.setIfInBounds_toArray, List.set_cons_zero, List.set_cons_succ]
  refine hs_take (i := 9) (d := some 27) (v := ?_) rfl (by kernel_rfl) (by kernel_rfl) (by kernel_rfl) (by rfl) ?_ hS rfl ?_
  rotate_left
  · intro w' hw
    go_simp
    try with_reducible rfl
  simp only [Act.put, List.setIfInBounds_toArray, List.set_cons_zero, List.set_cons_succ]
  refine hs_take (i := 10) (d := some 28) (v := .int .i64 c.bu) rfl (by kernel_rfl) (by kernel_rfl) (by kernel_rfl) (by rfl) (fun w' hw => by obtain ⟨p0, p1, p2, p3, p4, p5, p6, p7, p8, p9, pn, ps, pl⟩ := (k8.below hw).cells; go_simp) hS rfl ?_
  simp only [Act.put, List.setIfInBounds_toArray, List.set_cons_zero, List.set_cons_succ]
  refine hs_call (i := 11) (d := some 29) rfl (by kernel_rfl) (by rfl) (by go_simp; first | done | exact ⟨rfl, rfl⟩ | with_reducible rfl) rfl ?_
  refine (cB w8 hG8).mono ?_
  rintro e' w9 ⟨rfl, hw9⟩
  have hS : (Below w8.heap.size w8) w9 := hS.trans (hw9.mono hS.size)
  refine ⟨_, rfl, hS, ?_⟩
  simp only [Act.put, List.setIfInBounds_toArray, List.set_cons_zero, List.set_cons_succ]
  refine hs_call (i := 12) (d := some 30) rfl (by kernel_rfl) (by rfl) (by go_simp; first | done | exact ⟨rfl, rfl⟩ | with_reducible rfl) rfl ?_
  refine (cO w9 (hr8.below hS)).mono ?_
  rintro e' w10 ⟨rfl, hw10⟩
  have hS : (Below w8.heap.size w8) w10 := hS.trans (hw10.mono hS.size)
  refine ⟨_, rfl, hS, ?_⟩
  simp only [Act.put, List.setIfInBounds_toArray, List.set_cons_zero, List.set_cons_succ]
  refine hs_take (i := 13) (d := some 6) (v := ?_) rfl (by kernel_rfl) (by kernel_rfl) (by kernel_rfl) (by rfl) ?_ hS rfl ?_
  rotate_left
  · intro w' hw
    go_simp
    try with_reducible rfl
  simp only [Act.put, List.setIfInBounds_toArray, List.set_cons_zero, List.set_cons_succ]
  refine hs_done (by kernel_rfl) ?_
  clear cB cO
  go_wp2_with fail
  go_ret
  exact ⟨rfl, fin hB8 hS⟩
set_option maxRecDepth 100000 in
set_option maxHeartbeats 4000000 in
theorem ebuckets_walk (c : Cfg) (n s : Int) (a : Option Addr) (cap : Nat) (zs : List Int) (x y : Int) (w : World) (hr : RowI w a zs) (hG : Glob w) (hx : x ≤ 9223372036854775807) (hy : y ≤ 9223372036854775807) :
    Calls Tryd.prog 4 #[(.agg #[.int .i64 c.n, .int .i64 c.cl, .int .i64 c.wi, .int .i64 c.bu, .int .i64 c.ca, .int .i64 c.sl, .int .i64 c.rq, .int .i64 c.ti, .int .i64 c.pe, .int .i64 c.la, .int .i64 n, .int .i64 s, .slice a zs.length cap]), .int .i64 x, .int .i64 y] w fun e w' => e = .returned (.bool true) ∧ Below w.heap.size w w' := by
  have hB1 : Below w.heap.size w (w.alloc (.cells #[.int .i64 c.n, .int .i64 c.cl, .int .i64 c.wi, .int .i64 c.bu, .int .i64 c.ca, .int .i64 c.sl, .int .i64 c.rq, .int .i64 c.ti, .int .i64 c.pe, .int .i64 c.la, .int .i64 n, .int .i64 s, .slice a zs.length cap] 26)) := (Below.refl _ w).alloc (Nat.le_refl _) _
  have k0 := EpAt.new w c n s a cap zs
  have fin : ∀ {W W' : World}, Below w.heap.size w W → Below W.heap.size W W' → Below w.heap.size w W' := fun h k => h.trans (k.mono h.size)
  by_cases hl : 100 < zs.length
  · have hl' : (100 : Int) < (zs.length : Int) := by omega
    clear hr k0
    go_enter Tryd.func4, Tryd.ntmps4
    go_wp2_with fail
    refine (lives12_any _).mono ?_
    rintro e w9 ⟨rfl, hb9⟩
    go_wp2_with fail
    go_ret
    exact ⟨rfl, fin hB1 hb9⟩
  have d0 : decide ((100 : Int) < (zs.length : Int)) = false := decide_eq_false (by omega)
  have d00 : decide (100 < zs.length) = false := decide_eq_false (by omega)
  have c1 := fun w h => egood_any c n s a cap zs w h (by omega)
  go_enter Tryd.func4, Tryd.ntmps4
  go_wp2_with fail
  obtain ⟨w1, hw1⟩ : ∃ w1, w.alloc (.cells #[.int .i64 c.n, .int .i64 c.cl, .int .i64 c.wi, .int .i64 c.bu, .int .i64 c.ca, .int .i64 c.sl, .int .i64 c.rq, .int .i64 c.ti, .int .i64 c.pe, .int .i64 c.la, .int .i64 n, .int .i64 s, .slice a zs.length cap] 26) = w1 := ⟨_, rfl⟩
  rw [hw1] at hB1 k0 ⊢
  clear hw1
  cases hm : goodE c n s zs
  · simp only [hm] at c1
    refine (c1 w1 (hr.below hB1)).mono ?_
    rintro e w4 ⟨rfl, hb4⟩
    have hB4 := fin hB1 hb4
    clear hm c1 k0 hB1 hb4 hr
    go_wp2_with fail
    refine (lives12_any _).mono ?_
    rintro e w9 ⟨rfl, hb9⟩
    go_wp2_with fail
    go_ret
    exact ⟨rfl, fin hB4 hb9⟩
  · simp only [hm] at c1
    refine (c1 w1 (hr.below hB1)).mono ?_
    rintro e w4 ⟨rfl, hb4⟩
    have hB4 := fin hB1 hb4
    have k4 := k0.below hb4
    clear c1 k0 hB1 hb4
    by_cases hx0 : x < 0
    · have d1 : decide (x < 0) = true := decide_eq_true hx0
      clear hm k4
      go_wp2_with fail
      refine (lives12_any _).mono ?_
      rintro e w9 ⟨rfl, hb9⟩
      go_wp2_with fail
      go_ret
      exact ⟨rfl, fin hB4 hb9⟩
    · have d1 : decide (x < 0) = false := decide_eq_false hx0
      by_cases hy0 : y < 0
      · have d2 : decide (y < 0) = true := decide_eq_true hy0
        clear hm k4
        go_wp2_with fail
        refine (lives12_any _).mono ?_
        rintro e w9 ⟨rfl, hb9⟩
        go_wp2_with fail
        go_ret
        exact ⟨rfl, fin hB4 hb9⟩
      · have d2 : decide (y < 0) = false := decide_eq_false hy0
        have cK := ebucket_good c n s a cap zs x y w4 (hr.below hB4) (by omega) (hG.below hB4) hm (by omega) (by omega)
        have hmem : Hid (ownerI c n zs (bucketV x y c.bu) ∈ zs) := hide (owner_mem hm (by
          obtain ⟨N, B, S, M, ok, _⟩ := epOk hm
          have h1 := ok.cfg.b
          have h2 := ok.cfg.b1
          have := bucketV_range x y c.bu
          omega))
        generalize ownerI c n zs (bucketV x y c.bu) = r at *
        clear hm
        go_wp2_with (refine wpList_load_row rfl 26 _ rfl w.heap.size rfl 26 #[.int .i64 c.n, .int .i64 c.cl, .int .i64 c.wi, .int .i64 c.bu, .int .i64 c.ca, .int .i64 c.sl, .int .i64 c.rq, .int .i64 c.ti, .int .i64 c.pe, .int .i64 c.la, .int .i64 n, .int .i64 s, .slice a zs.length cap] (0, 0) _ k4 Tryd.underlying26 rfl (by kernel_rfl) ?_)
        refine cK.mono ?_
        rintro e w5 ⟨rfl, hb5⟩
        have hB5 := fin hB4 hb5
        have k5 := k4.below hb5
        obtain ⟨p0, p1, p2, p3, p4, p5, p6, p7, p8, p9, pn, ps, pl⟩ := k5.cells
        clear cK k4 hB4 hb5 d0 d00 d1 d2
        go_wp2_with fail
        clear p0 p1 p2 p3 p4 p5 p6 p7 p8 p9 pn ps pl
        go_loop [35] (fun iv => ∃ k : Nat, k ≤ zs.length ∧ iv = .int .i64 (k : Int) ∧ ∀ i (hi : i < zs.length), i < k → zs[i] ≠ r) (fun iv => zs.length - (intOf iv).toNat)
        case atStart => exact ⟨0, by omega, rfl, fun i hi h => absurd h (by omega)⟩
        case round =>
          obtain ⟨k, hk, rfl, hno⟩ := hrel
          by_cases hkl : k < zs.length
          · have hkI : (k : Int) < (zs.length : Int) := by omega
            obtain ⟨bb, off, rfl, hcx⟩ := rowI_cell hr hB5 hkl
            have HX : Hid (zs[k] = zs[k]) := hide rfl
            by_cases he : zs[k] = r
            · rw [he] at hcx
              clear hno HX he
              go_wp2_with fail
              refine (lives12_any _).mono ?_
              rintro e w9 ⟨rfl, hb9⟩
              go_wp2_with fail
              go_ret
              exact ⟨rfl, fin hB5 hb9⟩
            · have hno2 : Hid (∀ i (hi : i < zs.length), i < k + 1 → zs[i] ≠ r) := hide (fun i hi hlt => by
                by_cases e : i = k
                · subst e; exact he
                · exact hno i hi (by omega))
              clear HX hno
              obtain ⟨z, hz⟩ : ∃ z, zs[k] = z := ⟨_, rfl⟩
              rw [hz] at hcx he
              clear hz
              have hbq : (z == r) = false := by rw [beq_eq_false_iff_ne]; exact he
              have hdq : decide (z = r) = false := decide_eq_false he
              go_wp2_with fail
              go_round
              case rel => exact ⟨k + 1, by omega, by go_num, hno2.out⟩
              case measure => simp [intOf]; omega
          · exfalso
            obtain ⟨i, hi, e⟩ := List.getElem_of_mem hmem.out
            exact hno i hi (by omega) e
end Go.Proofs.YtnndlgdlligjbabDoor.Ld
namespace Go.Proofs.YtnndlgdlligjbabDoor.epochBuckets
open Go.ChangeShapes Go.WideShapes Go.ChangeAt Go.RowKit
open Go.ChangeMaps (open_string shut_string)
set_option linter.unusedVariables false
set_option maxRecDepth 100000 in
theorem lifted (os : Os) (started : os.Started) (H : Type) (enc : TypeId × Value → H) :
    ReturnsInHanded {} Tryd.checked os 4 .any (fun w args => (Rows.epochBucketsSpec.pre enc Tryd.prog Tryd.f4 [] false w args ∧ laidMetH Tryd.prog laid2 w) ∧ sizedMet enc Tryd.prog Tryd.f4 (OpenSpec.ofChange Rows.epochBucketsSpec) false w args)
      (Rows.epochBucketsSpec.post enc Tryd.prog Tryd.f4 false true false false) := by
  refine returnsInHanded_of_change_and (C := Tryd.checked) (X := fun w _ => laidMetH Tryd.prog laid2 w) (fun _ _ _ hh h => h.of_heap hh) own started (by kernel_rfl) Tryd.func4
    (ChangeSpec.witness_shaped (enc := enc) (C := Tryd.checked) (os := os) (X := fun w _ => laidMetH Tryd.prog laid2 w) false (World.doorLaid Tryd.prog 400 os) #[.agg #[.int .i64 0, .int .i64 0, .int .i64 0, .int .i64 0, .int .i64 0, .int .i64 0, .int .i64 0, .int .i64 0, .int .i64 0, .int .i64 0, .int .i64 0, .int .i64 0, .slice none 0 0], .int .i64 0, .int .i64 0] 8 rfl (World.shaped_of_RefB (by kernel_rfl) (by kernel_rfl)) (by kernel_rfl) (by kernel_rfl) (by kernel_rfl) (door_met os _)) ?_
  intro W base args ds gs before hval0 hW _ _ hL _
  have hval : ∀ (j : Nat) t v, Tryd.f4.params[j]? = some t → args[j]? = some v → Value.okWide Tryd.prog W .any base t v := hval0
  have hW' := hW
  obtain ⟨p, q, hA0, hV, rfl, hfz, hnd⟩ := hW
  have hA : DataW.TrodAll enc Tryd.prog W 0 (fun _ => true) true Tryd.f4.params.toList args.toList ds p := hA0
  rw [Tryd.params4] at hA hval
  obtain ⟨v0, vs0, d0, ds0, p0, q0, hargs, rfl, rfl, h0, r0⟩ := trodAll_cons hA
  obtain ⟨v1, vs1, d1, ds1, p1, q1, rfl, rfl, rfl, h1, r1⟩ := trodAll_cons r0
  obtain ⟨v2, vs2, d2, ds2, p2, q2, rfl, rfl, rfl, h2, r2⟩ := trodAll_cons r1
  obtain ⟨rfl, rfl, rfl⟩ := trodAll_nil r2
  obtain rfl : args = #[v0, v1, v2] := by cases args; simp_all
  obtain ⟨rfl, rfl⟩ := trodVars_none hV
  have k0 := h0
  have lt0 : ∀ x ∈ p0, x.block < W.heap.size := by obtain ⟨m, hm⟩ := k0; exact DataW.trod_lt m _ _ _ hm
  have k1 := h1
  have lt1 : ∀ x ∈ p1, x.block < W.heap.size := by obtain ⟨m, hm⟩ := k1; exact DataW.trod_lt m _ _ _ hm
  have k2 := h2
  have lt2 : ∀ x ∈ p2, x.block < W.heap.size := by obtain ⟨m, hm⟩ := k2; exact DataW.trod_lt m _ _ _ hm
  obtain ⟨fuel0, hf0⟩ := h0
  obtain ⟨c0, m0, s0, a0, len0, cap0, z0, rfl, w0, u0⟩ := Ld.open_ep (hval 0 26 v0 rfl rfl) hf0
  obtain ⟨zs0, hlen0, _, _, hr0, _⟩ := w0.rowI
  subst hlen0
  obtain ⟨n1, rfl, rfl, rfl, hn1⟩ := open_int Tryd.underlying3 (hval 1 3 v1 rfl rfl) h1
  obtain ⟨n2, rfl, rfl, rfl, hn2⟩ := open_int Tryd.underlying3 (hval 2 3 v2 rfl rfl) h2
  have hG := glob_of hL
  clear hA0 hval0
  refine (Ld.ebuckets_walk c0 m0 s0 a0 cap0 zs0 n1 n2 W hr0 hG (Ld.wf64 hn1).2 (Ld.wf64 hn2).2).mono fun e W' ⟨he, bel⟩ => ?_
  subst he
  exact ⟨_, rfl, _, _, _, [], _, [], hW', trodAll_mk1 (shut_bool Tryd.underlying4 _), (trodAll_cons_mk (Below.trod laidOut (by kernel_rfl) (of_decide_eq_true (by kernel_rfl)) k0 bel lt0) (trodAll_cons_mk (Below.trod laidOut (by kernel_rfl) (of_decide_eq_true (by kernel_rfl)) k1 bel lt1) (trodAll_cons_mk (Below.trod laidOut (by kernel_rfl) (of_decide_eq_true (by kernel_rfl)) k2 bel lt2) trodAll_mk0))), rfl, bel.frame _, fun h => by cases h⟩
theorem over : Rows.EpochBucketsSaid :=
  OpenClaim.holds_of_wide 4 Tryd.f4 rfl rfl rfl rfl rfl rfl rfl ⟨rfl, rfl, rfl, rfl, rfl⟩ rfl rfl rfl rfl rfl (by kernel_rfl) Tryd.func4 (by kernel_rfl)
    (of_decide_eq_true (by kernel_rfl)) (by unfold Func.isWrapper; first | (rw [if_pos (by decide +kernel)]; kernel_rfl) | (rw [if_neg (by decide +kernel)]; exact ⟨rfl, rfl⟩))
    (fun os started H enc _ => lifted os started H enc)
end Go.Proofs.YtnndlgdlligjbabDoor.epochBuckets
namespace Go.Proofs.YtnndlgdlligjbabDoor
theorem epochBuckets_card : Rows.EpochBucketsCardSaid :=
  Claim7.holds_tied_plain_at .later [] [.data, .data] true (true, "7ecd172e4a3a9960aac8fbbd3fdb1042380eb5820ddccd8d9b2127fb481d644c") false
    epochBuckets.over (fun _ h => by cases h) (by kernel_rfl) (fun _ h => by cases h) epochBuckets_row_tie rfl ⟨rfl, rfl⟩ (by kernel_rfl) rfl
    (fun f fn hf hfn => by
      obtain rfl : f = 4 := Option.some.inj ((show Tryd.prog.funcNamed "raddle/raddlelaw12.EpochBuckets" = some 4 by kernel_rfl).symm.trans hf) |>.symm
      obtain rfl : fn = Tryd.f4 := (Option.some.inj (Tryd.func4.symm.trans hfn)).symm
      exact ⟨by kernel_rfl, fun j t ht => by
        rw [Tryd.params4] at ht
        rcases j with _ | _ | _ | j
        · obtain rfl : t = 26 := by simpa using ht.symm
          exact (show Tryd.prog.wantsStandIn 26 = false by kernel_rfl)
        · obtain rfl : t = 3 := by simpa using ht.symm
          exact (show Tryd.prog.wantsStandIn 3 = false by kernel_rfl)
        · obtain rfl : t = 3 := by simpa using ht.symm
          exact (show Tryd.prog.wantsStandIn 3 = false by kernel_rfl)
        · simp at ht⟩)
    (by kernel_rfl)
#print axioms epochBuckets_card
end Go.Proofs.YtnndlgdlligjbabDoor
