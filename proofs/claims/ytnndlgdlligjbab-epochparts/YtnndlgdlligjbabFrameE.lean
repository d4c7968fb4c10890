/- an epoch by value -/
import Derived.Test.YtnndlgdlligjbabFrameC
import Derived.Test.YtnndlgdlligjbabLEp1
namespace Go.Proofs.Ytnndlgdlligjbab
open Go.ChangeShapes Go.WideShapes Go.ChangeAt Go.RowKit
theorem take10 {α : Type} {l : List α} {i : Nat} {v : α} (hi : i < 10) (h : ((l.drop 0).take 10)[i]? = some v) : l[i]? = some v := by
  rw [List.drop_zero, List.getElem?_take, if_pos hi] at h
  exact h
set_option maxRecDepth 100000 in
set_option maxHeartbeats 2000000 in
theorem open_ep {H : Type} {enc : TypeId × Value → H} {W : World} {base b : Nat} {held : Bool} {fuel : Nat} {v : Value} {x : DataW H × List MemPlace} (hv : Value.okWide Try.prog W .any base 26 v)
    (h : DataW.trod enc Try.prog W b (fun _ => true) held fuel 26 v.cells.toList = some x) :
    ∃ (c : Cfg) (n s : Int) (a : Option Addr) (len cap : Nat) (zs : List Int), v = .agg #[.int .i64 c.n, .int .i64 c.cl, .int .i64 c.wi, .int .i64 c.bu, .int .i64 c.ca, .int .i64 c.sl, .int .i64 c.rq, .int .i64 c.ti, .int .i64 c.pe, .int .i64 c.la, .int .i64 n, .int .i64 s, .slice a len cap] ∧ IsRow .i64 W a len cap zs ∧ ((-9223372036854775808 ≤ n ∧ n ≤ 9223372036854775807) ∧ -9223372036854775808 ≤ s ∧ s ≤ 9223372036854775807) := by
  unfold Value.okWide at hv
  rw [Try.underlying26] at hv
  obtain ⟨cs, rfl, hsz, _⟩ := hv
  have hct : Try.prog.cellsOf 26 = 13 := by kernel_rfl
  have hcc : Try.prog.cellsOf 23 = 10 := by kernel_rfl
  have hci : Try.prog.cellsOf 3 = 1 := by kernel_rfl
  have hcl : Try.prog.cellsOf 24 = 1 := by kernel_rfl
  rw [hct] at hsz
  obtain ⟨xs, m, _, rfl, _, hl, hf⟩ := DataW.trod_struct Try.underlying26 h
  have hl : xs.length = 4 := hl
  simp only [Value.cells] at hf
  have k0 : DataW.trod enc Try.prog W b (fun _ => true) held m 23 ((cs.toList.drop 0).take (Try.prog.cellsOf 23)) = xs[0]? := hf 0 _ rfl
  have k1 : DataW.trod enc Try.prog W b (fun _ => true) held m 3 ((cs.toList.drop 10).take (Try.prog.cellsOf 3)) = xs[1]? := hf 1 _ rfl
  have k2 : DataW.trod enc Try.prog W b (fun _ => true) held m 3 ((cs.toList.drop 11).take (Try.prog.cellsOf 3)) = xs[2]? := hf 2 _ rfl
  have k3 : DataW.trod enc Try.prog W b (fun _ => true) held m 24 ((cs.toList.drop 12).take (Try.prog.cellsOf 24)) = xs[3]? := hf 3 _ rfl
  rw [hcc] at k0
  rw [hci] at k1 k2
  rw [hcl] at k3
  obtain ⟨x0, f0⟩ := some_at hl (show 0 < 4 by omega)
  obtain ⟨x1, f1⟩ := some_at hl (show 1 < 4 by omega)
  obtain ⟨x2, f2⟩ := some_at hl (show 2 < 4 by omega)
  obtain ⟨x3, f3⟩ := some_at hl (show 3 < 4 by omega)
  obtain ⟨n, gn, _, hwn⟩ := DataW.trod_int Try.underlying3 (k1.trans f1)
  obtain ⟨s, gs, _, hws⟩ := DataW.trod_int Try.underlying3 (k2.trans f2)
  have gn := drop_one gn
  have gs := drop_one gs
  obtain ⟨ys, m2, _, _, _, hl2, hf2⟩ := DataW.trod_struct Try.underlying23 (k0.trans f0)
  have hl2 : ys.length = 10 := hl2
  have h0 : DataW.trod enc Try.prog W b (fun _ => true) held m2 3 ((((cs.toList.drop 0).take 10).drop 0).take (Try.prog.cellsOf 3)) = ys[0]? := hf2 0 _ rfl
  rw [hci] at h0
  obtain ⟨y0, e0⟩ := some_at hl2 (show 0 < 10 by omega)
  obtain ⟨B0, g0, _, hw0⟩ := DataW.trod_int Try.underlying3 (h0.trans e0)
  have g0 := drop_one g0
  have h1 : DataW.trod enc Try.prog W b (fun _ => true) held m2 3 ((((cs.toList.drop 0).take 10).drop 1).take (Try.prog.cellsOf 3)) = ys[1]? := hf2 1 _ rfl
  rw [hci] at h1
  obtain ⟨y1, e1⟩ := some_at hl2 (show 1 < 10 by omega)
  obtain ⟨B1, g1, _, hw1⟩ := DataW.trod_int Try.underlying3 (h1.trans e1)
  have g1 := drop_one g1
  have h2 : DataW.trod enc Try.prog W b (fun _ => true) held m2 3 ((((cs.toList.drop 0).take 10).drop 2).take (Try.prog.cellsOf 3)) = ys[2]? := hf2 2 _ rfl
  rw [hci] at h2
  obtain ⟨y2, e2⟩ := some_at hl2 (show 2 < 10 by omega)
  obtain ⟨B2, g2, _, hw2⟩ := DataW.trod_int Try.underlying3 (h2.trans e2)
  have g2 := drop_one g2
  have h3 : DataW.trod enc Try.prog W b (fun _ => true) held m2 3 ((((cs.toList.drop 0).take 10).drop 3).take (Try.prog.cellsOf 3)) = ys[3]? := hf2 3 _ rfl
  rw [hci] at h3
  obtain ⟨y3, e3⟩ := some_at hl2 (show 3 < 10 by omega)
  obtain ⟨B3, g3, _, hw3⟩ := DataW.trod_int Try.underlying3 (h3.trans e3)
  have g3 := drop_one g3
  have h4 : DataW.trod enc Try.prog W b (fun _ => true) held m2 3 ((((cs.toList.drop 0).take 10).drop 4).take (Try.prog.cellsOf 3)) = ys[4]? := hf2 4 _ rfl
  rw [hci] at h4
  obtain ⟨y4, e4⟩ := some_at hl2 (show 4 < 10 by omega)
  obtain ⟨B4, g4, _, hw4⟩ := DataW.trod_int Try.underlying3 (h4.trans e4)
  have g4 := drop_one g4
  have h5 : DataW.trod enc Try.prog W b (fun _ => true) held m2 3 ((((cs.toList.drop 0).take 10).drop 5).take (Try.prog.cellsOf 3)) = ys[5]? := hf2 5 _ rfl
  rw [hci] at h5
  obtain ⟨y5, e5⟩ := some_at hl2 (show 5 < 10 by omega)
  obtain ⟨B5, g5, _, hw5⟩ := DataW.trod_int Try.underlying3 (h5.trans e5)
  have g5 := drop_one g5
  have h6 : DataW.trod enc Try.prog W b (fun _ => true) held m2 3 ((((cs.toList.drop 0).take 10).drop 6).take (Try.prog.cellsOf 3)) = ys[6]? := hf2 6 _ rfl
  rw [hci] at h6
  obtain ⟨y6, e6⟩ := some_at hl2 (show 6 < 10 by omega)
  obtain ⟨B6, g6, _, hw6⟩ := DataW.trod_int Try.underlying3 (h6.trans e6)
  have g6 := drop_one g6
  have h7 : DataW.trod enc Try.prog W b (fun _ => true) held m2 3 ((((cs.toList.drop 0).take 10).drop 7).take (Try.prog.cellsOf 3)) = ys[7]? := hf2 7 _ rfl
  rw [hci] at h7
  obtain ⟨y7, e7⟩ := some_at hl2 (show 7 < 10 by omega)
  obtain ⟨B7, g7, _, hw7⟩ := DataW.trod_int Try.underlying3 (h7.trans e7)
  have g7 := drop_one g7
  have h8 : DataW.trod enc Try.prog W b (fun _ => true) held m2 3 ((((cs.toList.drop 0).take 10).drop 8).take (Try.prog.cellsOf 3)) = ys[8]? := hf2 8 _ rfl
  rw [hci] at h8
  obtain ⟨y8, e8⟩ := some_at hl2 (show 8 < 10 by omega)
  obtain ⟨B8, g8, _, hw8⟩ := DataW.trod_int Try.underlying3 (h8.trans e8)
  have g8 := drop_one g8
  have h9 : DataW.trod enc Try.prog W b (fun _ => true) held m2 3 ((((cs.toList.drop 0).take 10).drop 9).take (Try.prog.cellsOf 3)) = ys[9]? := hf2 9 _ rfl
  rw [hci] at h9
  obtain ⟨y9, e9⟩ := some_at hl2 (show 9 < 10 by omega)
  obtain ⟨B9, g9, _, hw9⟩ := DataW.trod_int Try.underlying3 (h9.trans e9)
  have g9 := drop_one g9
  have hcl2 : cs.toList.length = 13 := by simpa using hsz
  have fin : ∀ (a : Option Addr) (len cap : Nat), cs.toList[12]? = some (.slice a len cap) → Value.agg cs = .agg #[.int .i64 B0, .int .i64 B1, .int .i64 B2, .int .i64 B3, .int .i64 B4, .int .i64 B5, .int .i64 B6, .int .i64 B7, .int .i64 B8, .int .i64 B9, .int .i64 n, .int .i64 s, .slice a len cap] := by
    intro a len cap gl
    congr 1
    apply Array.ext'
    have g0 := take10 (by omega) g0
    have g1 := take10 (by omega) g1
    have g2 := take10 (by omega) g2
    have g3 := take10 (by omega) g3
    have g4 := take10 (by omega) g4
    have g5 := take10 (by omega) g5
    have g6 := take10 (by omega) g6
    have g7 := take10 (by omega) g7
    have g8 := take10 (by omega) g8
    have g9 := take10 (by omega) g9
    generalize cs.toList = l at *
    match l, hcl2 with
    | [a0, a1, a2, a3, a4, a5, a6, a7, a8, a9, a10, a11, a12], _ =>
      simp at g0 g1 g2 g3 g4 g5 g6 g7 g8 g9 gn gs gl
      subst g0 g1 g2 g3 g4 g5 g6 g7 g8 g9 gn gs gl
      rfl
  rcases open_ints Try.underlying24 Try.underlying3 hci (k3.trans f3) with ⟨hcs, _⟩ | ⟨ad, l, c, zs, hcs, _, hl3, hm, hz, _, hcell, hwz⟩
  · exact ⟨⟨B0, B1, B2, B3, B4, B5, B6, B7, B8, B9⟩, n, s, none, 0, 0, [], fin none 0 0 (drop_one hcs), .inl ⟨rfl, rfl, rfl, rfl⟩, wf64 hwn, wf64 hws⟩
  · exact ⟨⟨B0, B1, B2, B3, B4, B5, B6, B7, B8, B9⟩, n, s, some ad, l, c, zs, fin (some ad) l c (drop_one hcs), .inr ⟨ad, rfl, hl3, hm, by simpa using hz, hcell, hwz⟩, wf64 hwn, wf64 hws⟩
end Go.Proofs.Ytnndlgdlligjbab
