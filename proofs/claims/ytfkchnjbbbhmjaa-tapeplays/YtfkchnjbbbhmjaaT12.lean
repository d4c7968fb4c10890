/- raddlelaw15.Light: are acts not more than are looked at? -/
import Derived.Test.YtfkchnjbbbhmjaaT10
namespace Go.Proofs.Ytfkchnjbbbhmjaa
open Go.RowKit
def addTo (n m : Int) : Int := if n + m ≤ 20000 then n + m else 20001
set_option maxRecDepth 100000 in
set_option maxHeartbeats 400000 in
theorem addCap_any (n m : Int) (w : World) (h0 : 0 ≤ n) (h1 : n ≤ 20001) (h2 : 0 ≤ m) (h3 : m ≤ 9223372036854775807) :
    Calls Try.prog 33 #[.int .i64 n, .int .i64 m, .int .i64 20000] w fun e w' => e = .returned (.int .i64 (addTo n m)) ∧ w' = w := by
  by_cases c1 : 20000 < n
  · have HA : Hid (addTo n m = 20001) := by show _ = _; unfold addTo; rw [if_neg (by omega)]
    rw [HA.out]
    go_enter Try.func33, Try.ntmps33
    go_wp2
    go_ret
    exact ⟨rfl, rfl⟩
  · by_cases c2 : 20000 < m
    · have HA : Hid (addTo n m = 20001) := by show _ = _; unfold addTo; rw [if_neg (by omega)]
      rw [HA.out]
      go_enter Try.func33, Try.ntmps33
      go_wp2
      go_ret
      exact ⟨rfl, rfl⟩
    · by_cases c3 : 20000 - m < n
      · have HA : Hid (addTo n m = 20001) := by show _ = _; unfold addTo; rw [if_neg (by omega)]
        rw [HA.out]
        go_enter Try.func33, Try.ntmps33
        go_wp2
        go_ret
        exact ⟨rfl, rfl⟩
      · have HA : Hid (addTo n m = n + m) := by show _ = _; unfold addTo; rw [if_pos (by omega)]
        rw [HA.out]
        go_enter Try.func33, Try.ntmps33
        go_wp2
        go_ret
        exact ⟨rfl, rfl⟩
def wtA (ys : List Ac) : Nat := (ys.map fun y => 20 + y.zs.length).sum
theorem wtA_take (ys : List Ac) (k : Nat) (hk : k < ys.length) : wtA (ys.take (k + 1)) = wtA (ys.take k) + (20 + ys[k].zs.length) := by
  unfold wtA
  rw [List.take_succ_eq_append_getElem hk]
  simp only [List.map_append, List.map_cons, List.map_nil, List.sum_append, List.sum_cons, List.sum_nil]
  omega
theorem Ac.ok.below {W W' : World} {A : Ac} (h : A.ok W) (hb : Below W.heap.size W W') : A.ok W' := ⟨h.r.below hb, h.rl, h.rm, h.n, h.keep, h.area, h.kind⟩
set_option maxRecDepth 100000 in
set_option maxHeartbeats 2000000 in
theorem Light_any (a : Option Addr) (cap : Nat) (ys : List Ac) (w : World) (hl : ys.length ≤ maxLen) (ho : ∀ y ∈ ys, y.ok w) (h : RowOf Ac.cells w a ys) :
    Calls Try.prog 10 #[.slice a ys.length cap] w fun e w' => (e = .returned (.bool false) ∧ Below w.heap.size w w') ∨ (e = .returned (.bool true) ∧ Below w.heap.size w w' ∧ wtA ys ≤ 20000) := by
  unfold maxLen at hl
  go_enter Try.func10, Try.ntmps10
  go_wp2
  go_loopw [3, 4] (fun nv iv wr => ∃ (k : Nat) (n : Int), k ≤ ys.length ∧ iv = .int .i64 (k : Int) ∧ nv = .int .i64 n ∧ 0 ≤ n ∧ n ≤ 20001 ∧ Hid (n ≤ 20000 → n = wtA (ys.take k)) ∧ Below w.heap.size w wr) (fun _ iv _ => ys.length - (intOf iv).toNat)
  case atStart => exact ⟨0, 0, by omega, rfl, rfl, by omega, by omega, hide (fun _ => by simp [wtA]), Below.refl _ _⟩
  case round =>
    obtain ⟨k, n, hk, rfl, rfl, h0, h1, HL, hbel⟩ := hrel
    obtain ⟨wo, rfl⟩ : ∃ wo, wo = wr := ⟨_, rfl⟩
    by_cases hlt : k < ys.length
    · by_cases hn : n ≤ 20000
      · obtain ⟨rb, off, rfl, hrb, hre⟩ := h.elem (k := 5) (fun _ _ => rfl) k hlt
        have HT := hide (wtA_take ys k hlt)
        have hzl := (ho _ (List.getElem_mem hlt)).r.1
        obtain ⟨y, hy⟩ : ∃ y, Hid (ys[k] = y) := ⟨_, hide rfl⟩
        rw [hy.out] at hre HT hzl
        unfold maxLen at hzl
        have hre2 : w.cell? ⟨rb, off + k * 5 + 2, none⟩ = some (.slice y.da y.zs.length y.dc) := hre 2 _ rfl
        clear hre hy
        have k1 : (k : Int) < ys.length := by omega
        have HA2 : Hid (addTo n 20 ≤ 20001 ∧ 0 ≤ addTo n 20 ∧ (addTo n 20 ≤ 20000 → addTo n 20 = wtA (ys.take k) + 20)) := by
          unfold addTo
          have := HL.out hn
          split
          · refine ⟨by omega, by omega, fun _ => by omega⟩
          · refine ⟨by omega, by omega, fun h => by omega⟩
        have ca := fun w0 => addCap_any n 20 w0 h0 h1 (by omega) (by omega)
        obtain ⟨p2, hp2⟩ : ∃ p, Hid (addTo n 20 = p) := ⟨_, hide rfl⟩
        simp only [hp2.out] at ca
        rw [hp2.out] at HA2
        have cb := fun w0 => addCap_any p2 (y.zs.length : Int) w0 HA2.out.2.1 HA2.out.1 (by omega) (by omega)
        have HA3 : Hid (addTo p2 y.zs.length ≤ 20001 ∧ 0 ≤ addTo p2 y.zs.length ∧ (addTo p2 y.zs.length ≤ 20000 → addTo p2 y.zs.length = wtA (ys.take (k + 1)))) := by
          unfold addTo
          have := HA2.out
          have := HT.out
          split
          · refine ⟨by omega, by omega, fun _ => by have := HA2.out.2.2 (by omega); omega⟩
          · refine ⟨by omega, by omega, fun h => by omega⟩
        obtain ⟨p3, hp3⟩ : ∃ p, Hid (addTo p2 y.zs.length = p) := ⟨_, hide rfl⟩
        simp only [hp3.out] at cb
        rw [hp3.out] at HA3
        clear hp2 hp3 HT HA2
        go_wp2_with fail
        obtain ⟨w5, hw5⟩ : ∃ w5, wo.drew = w5 := ⟨_, rfl⟩
        have hB5 : Below w.heap.size w w5 := by rw [← hw5]; exact hbel.drew
        have c2 : ∀ w', Below w5.heap.size w5 w' → w'.cell? ⟨rb, off + k * 5 + 2, none⟩ = some (.slice y.da y.zs.length y.dc) := fun w' hw' => ((hB5.trans (hw'.mono hB5.size)).cell (p := ⟨rb, off + k * 5 + 2, none⟩) hrb).trans hre2
        refine hs_begin (S := (Below w5.heap.size w5)) 10 rfl (by kernel_rfl) ?_
        rw [hw5]
        clear hw5
        have hS : (Below w5.heap.size w5) w5 := Below.refl _ _
        refine hs_take (i := 0) (d := some 15) (v := ?_) rfl (by kernel_rfl) (by kernel_rfl) (by kernel_rfl) (by rfl) ?_ hS rfl ?_
        rotate_left
        · intro w' hw
          go_simp
          try with_reducible rfl
        simp only [Act.put, List.setIfInBounds_toArray, List.set_cons_zero, List.set_cons_succ]
        refine hs_take (i := 2) (d := some 17) (v := ?_) rfl (by kernel_rfl) (by kernel_rfl) (by kernel_rfl) (by rfl) ?_ hS rfl ?_
        rotate_left
        · intro w' hw
          go_simp
          try with_reducible rfl
        simp only [Act.put, List.setIfInBounds_toArray, List.set_cons_zero, List.set_cons_succ]
        refine hs_take (i := 3) (d := some 18) (v := ?_) rfl (by kernel_rfl) (by kernel_rfl) (by kernel_rfl) (by rfl) ?_ hS rfl ?_
        rotate_left
        · intro w' hw
          go_simp
          try with_reducible rfl
        simp only [Act.put, List.setIfInBounds_toArray, List.set_cons_zero, List.set_cons_succ]
        refine hs_take (i := 4) (d := some 19) (v := ?_) rfl (by kernel_rfl) (by kernel_rfl) (by kernel_rfl) (by rfl) ?_ hS rfl ?_
        rotate_left
        · intro w' hw
          go_simp
          try with_reducible rfl
        simp only [Act.put, List.setIfInBounds_toArray, List.set_cons_zero, List.set_cons_succ]
        refine hs_take (i := 5) (d := some 20) (v := ?_) rfl (by kernel_rfl) (by kernel_rfl) (by kernel_rfl) (by rfl) ?_ hS rfl ?_
        rotate_left
        · intro w' hw
          go_simp
          try with_reducible rfl
        simp only [Act.put, List.setIfInBounds_toArray, List.set_cons_zero, List.set_cons_succ]
        refine hs_take (i := 6) (d := some 21) (v := ?_) rfl (by kernel_rfl) (by kernel_rfl) (by kernel_rfl) (by rfl) ?_ hS rfl ?_
        rotate_left
        · intro w' hw
          have hc := c2 w' hw
          go_simp
          try with_reducible rfl
        simp only [Act.put, List.setIfInBounds_toArray, List.set_cons_zero, List.set_cons_succ]
        refine hs_take (i := 7) (d := some 22) (v := ?_) rfl (by kernel_rfl) (by kernel_rfl) (by kernel_rfl) (by rfl) ?_ hS rfl ?_
        rotate_left
        · intro w' hw
          go_simp
          try with_reducible rfl
        simp only [Act.put, List.setIfInBounds_toArray, List.set_cons_zero, List.set_cons_succ]
        refine hs_call (i := 1) (d := some 16) rfl (by kernel_rfl) (by rfl) (by go_simp; first | done | exact ⟨rfl, rfl⟩ | with_reducible rfl) rfl ?_
        refine (ca w5).mono ?_
        rintro e' w6 ⟨rfl, hx⟩
        have hS : (Below w5.heap.size w5) w6 := by rw [hx]; exact hS
        refine ⟨_, rfl, hS, ?_⟩
        simp only [Act.put, List.setIfInBounds_toArray, List.set_cons_zero, List.set_cons_succ]
        obtain rfl := hx.symm
        clear hx
        refine hs_call (i := 8) (d := some 23) rfl (by kernel_rfl) (by rfl) (by go_simp; first | done | exact ⟨rfl, rfl⟩ | with_reducible rfl) rfl ?_
        refine (cb w5).mono ?_
        rintro e' w7 ⟨rfl, hx⟩
        have hS : (Below w5.heap.size w5) w7 := by rw [hx]; exact hS
        refine ⟨_, rfl, hS, ?_⟩
        simp only [Act.put, List.setIfInBounds_toArray, List.set_cons_zero, List.set_cons_succ]
        obtain rfl := hx.symm
        clear hx
        refine hs_take (i := 9) (d := some 3) (v := ?_) rfl (by kernel_rfl) (by kernel_rfl) (by kernel_rfl) (by rfl) ?_ hS rfl ?_
        rotate_left
        · intro w' hw
          go_simp
          try with_reducible rfl
        simp only [Act.put, List.setIfInBounds_toArray, List.set_cons_zero, List.set_cons_succ]
        refine hs_done (by kernel_rfl) ?_
        go_wp2
        go_roundw
        case rel => exact ⟨k + 1, p3, by omega, by go_num, rfl, HA3.out.2.1, HA3.out.1, hide HA3.out.2.2, hB5⟩
        case measure => simp [intOf]; omega
      · go_wp2
        go_ret
        exact .inl ⟨rfl, hbel⟩
    · have hk' : k = ys.length := by omega
      have HF : Hid (n ≤ 20000 → wtA ys ≤ 20000) := by
        intro hn
        have := HL.out hn
        rw [hk', List.take_length] at this
        omega
      have k1 : ¬ (k : Int) < ys.length := by omega
      clear HL
      by_cases hn : n ≤ 20000
      · go_wp2
        go_ret
        exact .inr ⟨rfl, hbel, HF.out hn⟩
      · go_wp2
        go_ret
        exact .inl ⟨rfl, hbel⟩
theorem wtA_len (ys : List Ac) : ys.length * 20 ≤ wtA ys := by
  induction ys with
  | nil => simp [wtA]
  | cons y ys ih => simp only [wtA, List.map_cons, List.sum_cons, List.length_cons] at *; omega
theorem wtA_mem {ys : List Ac} {y : Ac} (h : y ∈ ys) : 20 + y.zs.length ≤ wtA ys := by
  induction ys with
  | nil => cases h
  | cons x ys ih =>
    simp only [wtA, List.map_cons, List.sum_cons] at *
    rcases List.mem_cons.1 h with rfl | h
    · omega
    · have := ih h; omega
end Go.Proofs.Ytfkchnjbbbhmjaa
