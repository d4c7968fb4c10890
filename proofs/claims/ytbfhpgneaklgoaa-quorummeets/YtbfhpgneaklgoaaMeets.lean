/- The law of two quorums: the walk. -/
import Derived.Test.YtbfhpgneaklgoaaChosen
import Derived.Test.YtbfhpgneaklgoaaNth
namespace Go.Proofs.Ytbfhpgneaklgoaa
open Go.RowKit
theorem meet_take (xs ys : List Bool) (j : Nat) (h1 : j < xs.length) (h2 : j < ys.length) : ((List.zipWith (fun a b => a && b) xs ys).take (j + 1)).count true = ((List.zipWith (fun a b => a && b) xs ys).take j).count true + (if xs[j] && ys[j] then 1 else 0) := by
  have hz : j < (List.zipWith (fun a b => a && b) xs ys).length := by simp; omega
  rw [List.take_succ_eq_append_getElem hz, List.count_append, List.getElem_zipWith]
  cases xs[j] && ys[j] <;> rfl
theorem pick_both (x y : Bool) : (x && y) = (if x = true then y else false) := by cases x <;> rfl
set_option maxHeartbeats 1000000 in
theorem meets_walk (a0 : Int) (q : Nat) (hq : q < 21) (eq' : wrap64 ((IntKind.u64.wrap a0).tmod 21) = (q : Int)) (hg : goodB (4 + 3 * (q : Int)) = true) (a1 : Option Addr) (cap1 : Nat) (ys : List Int) (a2 : Option Addr) (cap2 : Nat) (us : List Int) (w : World)
    (r1 : RowI w a1 ys) (r2 : RowI w a2 us) (l1 : ys.length ≤ 500) (l2 : us.length ≤ 500) :
    Calls Try.prog 6 #[.int .i64 a0, .slice a1 ys.length cap1, .slice a2 us.length cap2] w fun e w' => e = .returned (.bool true) ∧ Below w.heap.size w w' := by
  have g1' : ¬ (500 : Int) < ys.length := by omega
  have g2' : ¬ (500 : Int) < us.length := by omega
  have cg := good_true hg
  have c1 := chosen_any _ hg a1 cap1 ys w r1 l1
  have c2 := fun w' hr => chosen_any _ hg a2 cap2 us w' hr l2
  have cs := some_any (4 + 3 * (q : Int))
  have cf := faults_any (4 + 3 * (q : Int))
  have eN : (4 + 3 * (q : Int)).toNat = 4 + 3 * q := by omega
  rw [eN] at c1
  simp only [eN] at c2
  rw [mostI_g hg] at c1
  simp only [mostI_g hg] at c2
  rw [someI_g hg] at cs
  rw [faultsI_g hg] at cf
  have e3 : (4 + 3 * (q : Int)) / 3 = q + 1 := by omega
  rw [e3] at c1 cs cf
  simp only [e3] at c2
  clear hg e3 eN
  go_enter Try.func6, Try.ntmps6
  go_wp2_with (first | (go_at_call 7; refine (cg _).mono ?_; rintro e w5 ⟨rfl, hx⟩; obtain rfl := hx.symm; clear hx))
  refine c1.mono ?_
  rintro e w1 ⟨xs, hxl, hxc, rfl, hrx, hw1⟩
  clear c1
  go_wp2_with fail
  refine (c2 _ (r2.below hw1)).mono ?_
  rintro e w2 ⟨zs, hzl, hzc, rfl, hrz, hw2⟩
  clear c2
  have hlx := hrx.lt
  have hrx2 : w2.rowIs w.heap.size 4 (4 + 3 * q) fun j => .bool (xs[j]?.getD false) := hrx.of_block (hw2.block _ hlx)
  have hb := hide (both_count xs zs (by omega))
  have hm := fun j h1 h2 => hide (meet_take xs zs j h1 h2)
  have hbel := hw1.trans (hw2.mono hw1.size)
  have HX := hide hxl
  have HZ := hide hzl
  have HXC := hide hxc
  have HZC := hide hzc
  clear hxl hzl hxc hzc hrx
  go_wp2_with fail
  go_loop [10, 44] (fun bv iv => ∃ j : Nat, j ≤ 4 + 3 * q ∧ iv = .int .i64 (j : Int) ∧ bv = .int .i64 (((List.zipWith (fun a b => a && b) xs zs).take j).count true : Int)) (fun _ iv => 4 + 3 * q - (intOf iv).toNat)
  case atStart => exact ⟨0, by omega, rfl, by simp⟩
  case round =>
    obtain ⟨j, hj, rfl, rfl⟩ := hrel
    have hcle : ((List.zipWith (fun a b => a && b) xs zs).take j).count true ≤ j := Nat.le_trans List.count_le_length (by simp; omega)
    by_cases hlt : j < 4 + 3 * q
    · have hx' : j < xs.length := by have := HX.out; omega
      have hz' : j < zs.length := by have := HZ.out; omega
      have hs := hm j hx' hz'
      have hcx : w2.cell? ⟨w.heap.size, j, none⟩ = some (.bool xs[j]) := by rw [hrx2.cell hlt, List.getElem?_eq_getElem hx']; rfl
      have hcz : w2.cell? ⟨w1.heap.size, j, none⟩ = some (.bool zs[j]) := by rw [hrz.cell hlt, List.getElem?_eq_getElem hz']; rfl
      generalize ((List.zipWith (fun a b => a && b) xs zs).take j).count true = c at *
      cases hx : xs[j] <;> cases hz : zs[j] <;> rw [hx] at hcx <;> rw [hz] at hcz <;> simp only [hx, hz] at hs <;> clear hx hz
      all_goals
        go_wp2
        go_round
        case rel => exact ⟨j + 1, by omega, by go_num, by rw [hs.out]; simp⟩
        case measure => simp [intOf]; omega
    · obtain rfl : j = 4 + 3 * q := by omega
      have hall : Hid (((List.zipWith (fun a b => a && b) xs zs).take (4 + 3 * q)) = List.zipWith (fun a b => a && b) xs zs) := by
        show _ = _
        rw [List.take_of_length_le]; simp; have := HX.out; omega
      have hge : (q : Int) + 1 + 1 ≤ (((List.zipWith (fun a b => a && b) xs zs).take (4 + 3 * q)).count true : Int) := by
        rw [hall.out]
        have := hb.out; have := HX.out; have := HZ.out; have := HXC.out; have := HZC.out
        omega
      clear hm hrx2 hrz hall hb HX HZ HXC HZC
      generalize (((List.zipWith (fun a b => a && b) xs zs).take (4 + 3 * q)).count true) = c at *
      go_wp2_with (first | (go_at_call 11; refine (cs _).mono ?_; rintro e w5 ⟨rfl, hx⟩; obtain rfl := hx.symm; clear hx) | (go_at_call 9; refine (cf _).mono ?_; rintro e w5 ⟨rfl, hx⟩; obtain rfl := hx.symm; clear hx) | (go_at_call 15; refine (lives_any _).mono ?_; rintro e w9 ⟨rfl, hw9⟩))
      go_ret
      exact ⟨rfl, hbel.trans (hw9.mono hbel.size)⟩
end Go.Proofs.Ytbfhpgneaklgoaa
