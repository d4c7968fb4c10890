/- pool: isBucket, eachOnce, pairsOf of nothing -/
import Derived.Test.YtbfcbjjhdadicaaDoorP4
import Derived.Test.YtbfcbjjhdadicaaDoorPX
namespace Go.Proofs.YtbfcbjjhdadicaaDoor
open Go.RowKit
open Sha Tal
set_option maxRecDepth 100000 in
set_option maxHeartbeats 2000000 in
theorem isB_any (P : Pl) (room : Nat) (ls : List (List Rq)) (z : Int) (w : World) (h : RowsAt w P room ls) :
    Calls Tryd.prog 32 #[ptr P, .int .i64 z] w fun e w' => e = .returned (.bool (decide (0 ≤ z ∧ z < (ls.length : Int)))) ∧ w' = w := by
  have h1 := h.c1
  clear h
  unfold ptr
  by_cases h0 : 0 ≤ z
  · by_cases hl : z < (ls.length : Int)
    · have HD : Hid (decide (0 ≤ z ∧ z < (ls.length : Int)) = true) := hide (decide_eq_true ⟨h0, hl⟩)
      rw [HD.out]
      have g0 : ¬ z < 0 := by omega
      go_enter Tryd.func32, Tryd.ntmps32
      go_wp2_with fail
      go_ret
      exact ⟨rfl, rfl⟩
    · have HD : Hid (decide (0 ≤ z ∧ z < (ls.length : Int)) = false) := hide (decide_eq_false (fun q => hl q.2))
      rw [HD.out]
      have g0 : ¬ z < 0 := by omega
      go_enter Tryd.func32, Tryd.ntmps32
      go_wp2_with fail
      go_ret
      exact ⟨rfl, rfl⟩
  · have HD : Hid (decide (0 ≤ z ∧ z < (ls.length : Int)) = false) := hide (decide_eq_false (fun q => h0 q.1))
    rw [HD.out]
    have g0 : z < 0 := by omega
    go_enter Tryd.func32, Tryd.ntmps32
    go_wp2_with fail
    go_ret
    exact ⟨rfl, rfl⟩
set_option maxRecDepth 100000 in
set_option maxHeartbeats 2000000 in
theorem pairsOf_nil (w : World) :
    Calls Tryd.prog 40 #[.slice none 0 0] w fun e w' => ∃ m, e = .returned (.map (some m)) ∧ PairsAt w' m [] ∧ Below w.heap.size w w' := by
  have hmm := @run_makeMap Tryd.prog
  have hp := PairsAt.made w
  have hB : Below w.heap.size w (w.alloc (.map #[] 0)) := (Below.refl _ _).alloc (Nat.le_refl _) _
  go_enter Tryd.func40, Tryd.ntmps40
  go_wp2_with fail
  obtain ⟨w1, hw1⟩ : ∃ w1, w.alloc (.map #[] 0) = w1 := ⟨_, rfl⟩
  rw [hw1] at hp hB ⊢
  clear hw1
  go_loopw [11] (fun iv wr => iv = .int .i64 0 ∧ wr = w1) (fun _ _ => 0)
  case atStart => exact ⟨rfl, rfl⟩
  case round =>
    obtain ⟨rfl, hx⟩ := hrel
    obtain rfl := hx.symm
    go_wp2_with fail
    go_ret
    exact ⟨_, rfl, hp, hB⟩
/-- each bucket once -/
def onceL (k : Nat) (zs : List Int) : List Int := zs.foldl (fun acc z => if (0 ≤ z ∧ z < (k : Int)) ∧ z ∉ acc then acc ++ [z] else acc) []
theorem once_snoc (k : Nat) (zs : List Int) (z : Int) : onceL k (zs ++ [z]) = if (0 ≤ z ∧ z < (k : Int)) ∧ z ∉ onceL k zs then onceL k zs ++ [z] else onceL k zs := by
  unfold onceL
  rw [List.foldl_append]
  rfl
theorem once_take (k : Nat) (zs : List Int) (i : Nat) (hi : i < zs.length) : onceL k (zs.take (i + 1)) = if (0 ≤ zs[i] ∧ zs[i] < (k : Int)) ∧ zs[i] ∉ onceL k (zs.take i) then onceL k (zs.take i) ++ [zs[i]] else onceL k (zs.take i) := by
  rw [List.take_succ_eq_append_getElem hi, once_snoc]
theorem once_both (k : Nat) (zs : List Int) : ∀ i, i ≤ zs.length → (onceL k (zs.take i)).length ≤ i ∧ ∀ z ∈ onceL k (zs.take i), 0 ≤ z ∧ z < (k : Int) := by
  intro i
  induction i with
  | zero => intro _; simp [onceL]
  | succ i ih =>
    intro hi
    have h := ih (by omega)
    rw [once_take k zs i (by omega)]
    split
    · rename_i q
      refine ⟨by simp; omega, fun z hz => ?_⟩
      rcases List.mem_append.1 hz with h1 | h1
      · exact h.2 z h1
      · rw [List.mem_singleton.1 h1]; exact q.1
    · exact ⟨by omega, h.2⟩
theorem once_in (k : Nat) (zs : List Int) : ∀ z ∈ onceL k zs, 0 ≤ z ∧ z < (k : Int) := by
  have := (once_both k zs zs.length (Nat.le_refl _)).2
  rwa [List.take_length] at this
theorem once_len (k : Nat) (zs : List Int) : (onceL k zs).length ≤ zs.length := by
  have := (once_both k zs zs.length (Nat.le_refl _)).1
  rwa [List.take_length] at this
def stoodL (k : Nat) (L : List Int) : List Value := (List.range k).map (fun b : Nat => Value.bool (decide ((b : Int) ∈ L)))
structure StoodAt (w : World) (s k : Nat) (L : List Int) : Prop where
  r : w.rangeAt s 0 (stoodL k L)
  t : w.there s 0 k
theorem StoodAt.cell {w : World} {s k : Nat} {L : List Int} (h : StoodAt w s k L) {z : Nat} (hz : z < k) : w.cell? ⟨s, z, none⟩ = some (.bool (decide ((z : Int) ∈ L))) := by
  have := h.r z _ (show (stoodL k L)[z]? = some (.bool (decide ((z : Int) ∈ L))) by simp [stoodL, hz])
  rwa [Nat.zero_add] at this
theorem StoodAt.fr {w : World} {s k : Nat} {L : List Int} (h : StoodAt w s k L) {z : Nat} (hz : z < k) : w.frozen? ⟨s, z, none⟩ = false := by
  have := (h.t z hz).2
  rwa [Nat.zero_add] at this
theorem StoodAt.set {w : World} {s k : Nat} {L : List Int} (h : StoodAt w s k L) {z : Nat} (_ : z < k) : StoodAt (w.setCell ⟨s, z, none⟩ (.bool true)) s k (L ++ [(z : Int)]) := by
  have h1 := range_set h.r z (.bool true)
  rw [Nat.zero_add] at h1
  have e : (stoodL k L).set z (.bool true) = stoodL k (L ++ [(z : Int)]) := by
    apply List.ext_getElem?
    intro j
    rw [List.getElem?_set]
    by_cases hj : j < k
    · by_cases hz : z = j
      · subst hz
        simp [stoodL, hj]
      · have : ¬ (j : Int) = (z : Int) := by omega
        simp [stoodL, hj, hz, this]
    · have e1 : (stoodL k L)[j]? = none := List.getElem?_eq_none (by simp [stoodL]; omega)
      have e2 : (stoodL k (L ++ [(z : Int)]))[j]? = none := List.getElem?_eq_none (by simp [stoodL]; omega)
      rw [e1, e2]
      split
      · rw [if_neg (by simp [stoodL]; omega)]
      · rfl
  rw [e] at h1
  exact ⟨h1, there_set h.t _ _⟩
theorem StoodAt.at {w w' : World} {s k : Nat} {L : List Int} (h : StoodAt w s k L) (hb : w'.heap[s]? = w.heap[s]?) : StoodAt w' s k L := ⟨range_at h.r hb, there_at h.t hb⟩
theorem infoB : (Tryd.prog.info? 4).map (fun i => (i.zero, i.size, i.bytes)) = some (some (.bool false), 1, 1) := by kernel_rfl
theorem stood_new (w : World) (k : Nat) : StoodAt (w.alloc (.cells (madeCells #[.bool false] k) 4)) w.heap.size k [] := by
  refine ⟨?_, ?_⟩
  · have h0 := range_new w (madeCells #[.bool false] k) 4
    have e : (madeCells #[.bool false] k).toList = stoodL k [] := by
      unfold madeCells stoodL
      apply List.ext_getElem
      · simp
      · intro i h1 h2
        simp [Nat.mod_one]
    rwa [e] at h0
  · have h0 := there_new w (madeCells #[.bool false] k) 4
    rwa [size_madeCells] at h0
set_option maxRecDepth 100000 in
set_option maxHeartbeats 2000000 in
theorem once_any (P : Pl) (room : Nat) (ls : List (List Rq)) (a : Option Addr) (cap : Nat) (zs : List Int) (w : World) (h : RowsAt w P room ls) (hz : IntsAt w a zs) (hzl : zs.length ≤ 100000) :
    Calls Tryd.prog 41 #[ptr P, .slice a zs.length cap] w fun e w' => ∃ v, e = .returned v ∧ w'.ownsRow w.heap.size 3 1 v (onceL ls.length zs).length (intsV (onceL ls.length zs)) ∧ Below w.heap.size w w' := by
  have h1 := h.c1
  have hkl := h.le
  have hmk := fun w0 => run_make_row' (P := Tryd.prog) 99 4 (.bool false) 1 Tryd.underlying99 infoB rfl .i64 .i64 ls.length (by omega) (by omega) w0
  have cB := fun z w0 h0 => isB_any P room ls z w0 h0
  have hB1 : Below w.heap.size w (w.alloc (.cells (madeCells #[.bool false] ls.length) 4)) := (Below.refl _ _).alloc (Nat.le_refl _) _
  have hS1 := stood_new w ls.length
  have hs1 : w.heap.size < (w.alloc (.cells (madeCells #[.bool false] ls.length) 4)).heap.size := by simp
  unfold ptr at cB ⊢
  go_enter Tryd.func41, Tryd.ntmps41
  go_wp2_with fail
  obtain ⟨w1, hw1⟩ : ∃ w1, w.alloc (.cells (madeCells #[.bool false] ls.length) 4) = w1 := ⟨_, rfl⟩
  rw [hw1] at hB1 hS1 hs1 ⊢
  clear hw1 hmk h1
  go_loopw [6, 17] (fun v iv wr => ∃ i : Nat, i ≤ zs.length ∧ iv = .int .i64 (i : Int) ∧ wr.ownsRow w1.heap.size 3 1 v (onceL ls.length (zs.take i)).length (intsV (onceL ls.length (zs.take i))) ∧ StoodAt wr w.heap.size ls.length (onceL ls.length (zs.take i)) ∧ Below w.heap.size w wr ∧ w1.heap.size ≤ wr.heap.size) (fun _ iv _ => zs.length - (intOf iv).toNat)
  case atStart => exact ⟨0, by omega, rfl, World.ownsRow_nil _ _ _ _, hS1, hB1, Nat.le_refl _⟩
  case round =>
    obtain ⟨i, hi, rfl, ho, hS, hB, hsz⟩ := hrel
    have hon := once_both ls.length zs i hi
    by_cases hlt : i < zs.length
    · have HT := hide (once_take ls.length zs i hlt)
      generalize onceL ls.length (zs.take i) = L at *
      obtain ⟨va, vcap, rfl⟩ := owns_slice ho
      obtain ⟨b, off, rfl, hc⟩ := (hz.below hB).cell hlt
      obtain ⟨z, hzz⟩ : ∃ z, Hid (zs[i] = z) := ⟨_, hide rfl⟩
      rw [hzz.out] at hc HT
      have cB := cB z wr (h.below hB)
      have hltI : (i : Int) < (zs.length : Int) := by omega
      by_cases hin : 0 ≤ z ∧ z < (ls.length : Int)
      · obtain ⟨Z, rfl⟩ := Int.eq_ofNat_of_zero_le hin.1
        have hZ : Z < ls.length := by omega
        have hZI : (Z : Int) < (ls.length : Int) := by omega
        rw [decide_eq_true hin] at cB
        have hcS := hS.cell hZ
        by_cases hmem : (Z : Int) ∈ L
        · have HT2 : Hid (onceL ls.length (zs.take (i + 1)) = L) := hide (by rw [HT.out, if_neg (fun q => q.2 hmem)])
          rw [decide_eq_true hmem] at hcS
          clear HT hmem hin hon
          go_wp2_with fail
          refine cB.mono ?_
          rintro e w2 ⟨rfl, hx⟩
          obtain rfl := hx.symm
          clear cB hx
          go_wp2_with fail
          go_roundw
          case rel => exact ⟨i + 1, by omega, by go_num, by rw [HT2.out]; exact ho, by rw [HT2.out]; exact hS, hB, hsz⟩
          case measure => simp [intOf]; omega
        · have HT2 : Hid (onceL ls.length (zs.take (i + 1)) = L ++ [(Z : Int)]) := hide (by rw [HT.out, if_pos ⟨hin, hmem⟩])
          rw [decide_eq_false hmem] at hcS
          have hfr := hS.fr hZ
          have hS2 := hS.set hZ
          have hws : w.heap.size < w1.heap.size := hs1
          have ho2 : (wr.setCell ⟨w.heap.size, Z, none⟩ (.bool true)).ownsRow w1.heap.size 3 1 (.slice va L.length vcap) L.length (intsV L) := owns_at ho (fun g hg => Below.heap_setCell _ _ _ _ (by have := owns_base ho g hg; show g ≠ w.heap.size; omega))
          have hB2 : Below w.heap.size w (wr.setCell ⟨w.heap.size, Z, none⟩ (.bool true)) := hB.setCell (Nat.le_refl _) _
          have hsz2 : w1.heap.size ≤ (wr.setCell ⟨w.heap.size, Z, none⟩ (.bool true)).heap.size := by simpa [World.setCell] using hsz
          obtain ⟨wS, hwS⟩ : ∃ wS, wr.setCell ⟨w.heap.size, Z, none⟩ (.bool true) = wS := ⟨_, rfl⟩
          rw [hwS] at hS2 ho2 hB2 hsz2
          obtain ⟨v', wA, hrun, hoA, hgr, hap⟩ := append_int (Z : Int) hsz2 ho2 (by omega) 36
          clear HT hmem hin
          go_wp2_with fail
          refine cB.mono ?_
          rintro e w2 ⟨rfl, hx⟩
          obtain rfl := hx.symm
          clear cB hx
          go_wp2_with (at_builtin; refine wpList_append_run rfl _ _ 36 36 rfl _ _ v' wA rfl rfl hrun ?_)
          have hBA : Below w.heap.size w wA := hB2.grown hgr hB2.size (fun g hg => by have := owns_base ho2 g hg; omega)
          have hSA : StoodAt wA w.heap.size ls.length (L ++ [(Z : Int)]) := hS2.at (hgr.block _ (by omega) (fun e => by have := owns_base ho2 _ e.symm; omega))
          obtain ⟨va', vcap', rfl⟩ := owns_slice hoA
          go_roundw
          case rel =>
            refine ⟨i + 1, by omega, by go_num, ?_, by rw [HT2.out]; exact hSA, hBA, Nat.le_trans hsz2 hgr.size⟩
            rw [HT2.out]
            simpa [intsV] using hoA
          case measure => simp [intOf]; omega
      · have HT2 : Hid (onceL ls.length (zs.take (i + 1)) = L) := hide (by rw [HT.out, if_neg (fun q => hin q.1)])
        rw [decide_eq_false hin] at cB
        clear HT hin hon
        go_wp2_with fail
        refine cB.mono ?_
        rintro e w2 ⟨rfl, hx⟩
        obtain rfl := hx.symm
        clear cB hx
        go_wp2_with fail
        go_roundw
        case rel => exact ⟨i + 1, by omega, by go_num, by rw [HT2.out]; exact ho, by rw [HT2.out]; exact hS, hB, hsz⟩
        case measure => simp [intOf]; omega
    · have hie : i = zs.length := by omega
      subst hie
      have k1 : ¬ (zs.length : Int) < (zs.length : Int) := by omega
      rw [List.take_length] at ho
      go_wp2_with fail
      go_ret
      exact ⟨_, rfl, by
        refine ⟨ho.1, ?_⟩
        rcases ho.2 with q | ⟨g, cp, cur, q1, q2, q3⟩
        · exact .inl q
        · exact .inr ⟨g, cp, cur, q1, Nat.le_trans (Nat.le_of_lt hs1) q2, q3⟩, hB⟩
end Go.Proofs.YtbfcbjjhdadicaaDoor
