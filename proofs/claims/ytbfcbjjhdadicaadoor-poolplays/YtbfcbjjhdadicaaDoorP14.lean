/- raddlelaw07.Light: are batches not more than are looked at? -/
import Derived.Test.YtbfcbjjhdadicaaDoorP9
import Derived.Test.YtbfcbjjhdadicaaDoorHeld
namespace Go.Proofs.YtbfcbjjhdadicaaDoor
open Go.RowKit
open Sha Tal
def addTo4 (n m : Int) : Int := if n + m ≤ 4000 then n + m else 4001
set_option maxRecDepth 100000 in
set_option maxHeartbeats 400000 in
theorem add4000_any (n m : Int) (w : World) (h0 : 0 ≤ n) (h1 : n ≤ 4001) (h2 : 0 ≤ m) (h3 : m ≤ 9223372036854775807) :
    Calls Tryd.prog 43 #[.int .i64 n, .int .i64 m, .int .i64 4000] w fun e w' => e = .returned (.int .i64 (addTo4 n m)) ∧ w' = w := by
  by_cases c1 : 4000 < n
  · have HA : Hid (addTo4 n m = 4001) := by show _ = _; unfold addTo4; rw [if_neg (by omega)]
    rw [HA.out]
    go_enter Tryd.func43, Tryd.ntmps43
    go_wp2
    go_ret
    exact ⟨rfl, rfl⟩
  · by_cases c2 : 4000 < m
    · have HA : Hid (addTo4 n m = 4001) := by show _ = _; unfold addTo4; rw [if_neg (by omega)]
      rw [HA.out]
      go_enter Tryd.func43, Tryd.ntmps43
      go_wp2
      go_ret
      exact ⟨rfl, rfl⟩
    · by_cases c3 : 4000 - m < n
      · have HA : Hid (addTo4 n m = 4001) := by show _ = _; unfold addTo4; rw [if_neg (by omega)]
        rw [HA.out]
        go_enter Tryd.func43, Tryd.ntmps43
        go_wp2
        go_ret
        exact ⟨rfl, rfl⟩
      · have HA : Hid (addTo4 n m = n + m) := by show _ = _; unfold addTo4; rw [if_pos (by omega)]
        rw [HA.out]
        go_enter Tryd.func43, Tryd.ntmps43
        go_wp2
        go_ret
        exact ⟨rfl, rfl⟩
def Bx.at (x : Bx) (w : World) : Prop := ReqsAt w x.a x.rs ∧ x.rs.length ≤ x.cap ∧ x.cap ≤ maxLen
theorem Bx.at.below {x : Bx} {w w' : World} (h : x.at w) (hb : Below w.heap.size w w') : x.at w' := ⟨h.1.below hb, h.2.1, h.2.2⟩
def BatsAt (w : World) (b o : Nat) (xs : List Bx) : Prop := xs.length ≤ maxLen ∧ (∀ x ∈ xs, x.at w) ∧ b < w.heap.size ∧ w.rangeAt b o (xs.flatMap Bx.cells)
theorem BatsAt.below {w w' : World} {b o : Nat} {xs : List Bx} (h : BatsAt w b o xs) (hb : Below w.heap.size w w') : BatsAt w' b o xs :=
  ⟨h.1, fun x hx => (h.2.1 x hx).below hb, Nat.lt_of_lt_of_le h.2.2.1 hb.size, range_below h.2.2.2 hb h.2.2.1⟩
theorem BatsAt.cell {w : World} {b o : Nat} {xs : List Bx} (h : BatsAt w b o xs) (k : Nat) (hk : k < xs.length) : w.cell? ⟨b, o + k * 2 + 1, none⟩ = some (.slice xs[k].a xs[k].rs.length xs[k].cap) := by
  obtain ⟨b', o', he, -, hr⟩ := RowOf.elem (f := Bx.cells) (k := 2) (a := some ⟨b, o, none⟩) (.inr ⟨b, o, rfl, h.2.2.1, h.2.2.2⟩) (fun _ _ => rfl) k hk
  cases he
  exact hr 1 _ rfl
def wtR (rs : List Rq) : Nat := (rs.map fun r => 20 + r.s.size).sum
def wt (xs : List Bx) : Nat := (xs.map fun x => 5 + wtR x.rs).sum
theorem wtR_take (rs : List Rq) (k : Nat) (hk : k < rs.length) : wtR (rs.take (k + 1)) = wtR (rs.take k) + (20 + rs[k].s.size) := by
  unfold wtR
  rw [List.take_succ_eq_append_getElem hk]
  simp only [List.map_append, List.map_cons, List.map_nil, List.sum_append, List.sum_cons, List.sum_nil]
  omega
theorem wt_take (xs : List Bx) (k : Nat) (hk : k < xs.length) : wt (xs.take (k + 1)) = wt (xs.take k) + (5 + wtR xs[k].rs) := by
  unfold wt
  rw [List.take_succ_eq_append_getElem hk]
  simp only [List.map_append, List.map_cons, List.map_nil, List.sum_append, List.sum_cons, List.sum_nil]
  omega
set_option maxRecDepth 100000 in
set_option maxHeartbeats 2000000 in
theorem Light_any (b o cap : Nat) (xs : List Bx) (w : World) (h : BatsAt w b o xs) :
    Calls Tryd.prog 23 #[.slice (some ⟨b, o, none⟩) xs.length cap] w fun e w' => (e = .returned (.bool false) ∧ Below w.heap.size w w') ∨ (e = .returned (.bool true) ∧ Below w.heap.size w w' ∧ wt xs ≤ 4000) := by
  have hxl := h.1
  unfold maxLen at hxl
  go_enter Tryd.func23, Tryd.ntmps23
  go_wp2
  go_loopw [3, 4] (fun nv iv wr => ∃ (k : Nat) (n : Int), k ≤ xs.length ∧ iv = .int .i64 (k : Int) ∧ nv = .int .i64 n ∧ 0 ≤ n ∧ n ≤ 4001 ∧ Hid (n ≤ 4000 → n = wt (xs.take k)) ∧ Below w.heap.size w wr) (fun _ iv _ => xs.length - (intOf iv).toNat)
  case atStart => exact ⟨0, 0, by omega, rfl, rfl, by omega, by omega, hide (fun _ => by simp [wt]), Below.refl _ _⟩
  case round =>
    obtain ⟨k, n, hk, rfl, rfl, h0, h1, HL, hbel⟩ := hrel
    obtain ⟨wo, rfl⟩ : ∃ wo, wo = wr := ⟨_, rfl⟩
    by_cases hlt : k < xs.length
    · by_cases hn : n ≤ 4000
      · have hW := h.below hbel
        have hc := hW.cell k hlt
        have hrow := (hW.2.1 xs[k] (List.getElem_mem hlt)).1
        have HT := hide (wt_take xs k hlt)
        obtain ⟨xa, hxa⟩ : ∃ xa, Hid (xs[k].a = xa) := ⟨_, hide rfl⟩
        obtain ⟨xc, hxc⟩ : ∃ xc, Hid (xs[k].cap = xc) := ⟨_, hide rfl⟩
        obtain ⟨xr, hxr⟩ : ∃ xr, Hid (xs[k].rs = xr) := ⟨_, hide rfl⟩
        rw [hxa.out, hxc.out, hxr.out] at hc
        rw [hxa.out, hxr.out] at hrow
        rw [hxr.out] at HT
        clear hxa hxc hxr
        have hrl := hrow.1
        unfold maxLen at hrl
        have hbw := hW.2.2.1
        have k1 : (k : Int) < xs.length := by omega
        have ca := add4000_any n 5 wo h0 h1 (by omega) (by omega)
        have HA : Hid (addTo4 n 5 ≤ 4001 ∧ 0 ≤ addTo4 n 5 ∧ (addTo4 n 5 ≤ 4000 → addTo4 n 5 = wt (xs.take k) + 5)) := by
          unfold addTo4
          have := HL.out hn
          split
          · refine ⟨by omega, by omega, fun _ => by omega⟩
          · refine ⟨by omega, by omega, fun h => by omega⟩
        obtain ⟨p, hp⟩ : ∃ p, Hid (addTo4 n 5 = p) := ⟨_, hide rfl⟩
        rw [hp.out] at ca HA
        clear hp
        go_wp2_with fail
        refine ca.mono ?_
        rintro e w1 ⟨rfl, hx⟩
        obtain rfl := hx.symm
        clear hx ca
        go_wp2
        go_loopw [3, 5] (fun nv jv wq => ∃ (j : Nat) (m : Int), j ≤ xr.length ∧ jv = .int .i64 (j : Int) ∧ nv = .int .i64 m ∧ 0 ≤ m ∧ m ≤ 4001 ∧ Hid (m ≤ 4000 → m = wt (xs.take k) + 5 + wtR (xr.take j)) ∧ Below wo.heap.size wo wq) (fun _ jv _ => xr.length - (intOf jv).toNat)
        case atStart => exact ⟨0, p, by omega, rfl, rfl, HA.out.2.1, HA.out.1, hide (fun q => by have := HA.out.2.2 q; simp [wtR]; omega), Below.refl _ _⟩
        case round =>
          obtain ⟨j, m, hj, rfl, rfl, m0, m1, HM, hbq⟩ := hrel
          have hcq := (hbq.cell (p := ⟨b, o + k * 2 + 1, none⟩) hbw).trans hc
          by_cases hjl : j < xr.length
          · have j1 : (j : Int) < xr.length := by omega
            by_cases hm : m ≤ 4000
            · obtain ⟨rb, off, rfl, hrb, hre⟩ := hrow.elem j hjl
              have HT2 := hide (wtR_take xr j hjl)
              obtain ⟨r, hr⟩ : ∃ r, Hid (xr[j] = r) := ⟨_, hide rfl⟩
              have hrs : r.s.size ≤ maxLen := by rw [← hr.out]; exact (hrow.2.1 _ (List.getElem_mem hjl)).sl
              unfold maxLen at hrs
              rw [hr.out] at hre HT2
              have hre2 : wo.cell? ⟨rb, off + j * 19 + 2, none⟩ = some (.string r.s) := hre 2 _ rfl
              clear hre hr
              have HA2 : Hid (addTo4 m 20 ≤ 4001 ∧ 0 ≤ addTo4 m 20 ∧ (addTo4 m 20 ≤ 4000 → addTo4 m 20 = wt (xs.take k) + 5 + wtR (xr.take j) + 20)) := by
                unfold addTo4
                have := HM.out hm
                split
                · refine ⟨by omega, by omega, fun _ => by omega⟩
                · refine ⟨by omega, by omega, fun h => by omega⟩
              have ca := fun w0 => add4000_any m 20 w0 m0 m1 (by omega) (by omega)
              obtain ⟨p2, hp2⟩ : ∃ p, Hid (addTo4 m 20 = p) := ⟨_, hide rfl⟩
              simp only [hp2.out] at ca
              rw [hp2.out] at HA2
              have cb := fun w0 => add4000_any p2 (r.s.size : Int) w0 HA2.out.2.1 HA2.out.1 (by omega) (by omega)
              have HA3 : Hid (addTo4 p2 r.s.size ≤ 4001 ∧ 0 ≤ addTo4 p2 r.s.size ∧ (addTo4 p2 r.s.size ≤ 4000 → addTo4 p2 r.s.size = wt (xs.take k) + 5 + wtR (xr.take (j + 1)))) := by
                unfold addTo4
                have := HA2.out
                have := HT2.out
                split
                · refine ⟨by omega, by omega, fun _ => by have := HA2.out.2.2 (by omega); omega⟩
                · refine ⟨by omega, by omega, fun h => by omega⟩
              obtain ⟨p3, hp3⟩ : ∃ p, Hid (addTo4 p2 r.s.size = p) := ⟨_, hide rfl⟩
              simp only [hp3.out] at cb
              rw [hp3.out] at HA3
              clear hp2 hp3 HT2 HA2
              go_wp2_with fail
              obtain ⟨w5, hw5⟩ : ∃ w5, wr.drew = w5 := ⟨_, rfl⟩
              have hB5 : Below wo.heap.size wo w5 := by rw [← hw5]; exact hbq.drew
              have c1 : ∀ w', Below w5.heap.size w5 w' → w'.cell? ⟨b, o + k * 2 + 1, none⟩ = some (.slice (some ⟨rb, off, none⟩) xr.length xc) := fun w' hw' => ((hB5.trans (hw'.mono hB5.size)).cell (p := ⟨b, o + k * 2 + 1, none⟩) hbw).trans hc
              have c2 : ∀ w', Below w5.heap.size w5 w' → w'.cell? ⟨rb, off + j * 19 + 2, none⟩ = some (.string r.s) := fun w' hw' => ((hB5.trans (hw'.mono hB5.size)).cell (p := ⟨rb, off + j * 19 + 2, none⟩) hrb).trans hre2
              refine hs_begin (S := (Below w5.heap.size w5)) 14 rfl (by kernel_rfl) ?_
              rw [hw5]
              clear hw5 hcq hbq
              have hS : (Below w5.heap.size w5) w5 := Below.refl _ _
              refine hs_take (i := 0) (d := some 32) (v := ?_) rfl (by kernel_rfl) (by kernel_rfl) (by kernel_rfl) (by rfl) ?_ hS rfl ?_
              rotate_left
              · intro w' hw
                go_simp
                try with_reducible rfl
              simp only [Act.put, List.setIfInBounds_toArray, List.set_cons_zero, List.set_cons_succ]
              refine hs_take (i := 2) (d := some 34) (v := ?_) rfl (by kernel_rfl) (by kernel_rfl) (by kernel_rfl) (by rfl) ?_ hS rfl ?_
              rotate_left
              · intro w' hw
                go_simp
                try with_reducible rfl
              simp only [Act.put, List.setIfInBounds_toArray, List.set_cons_zero, List.set_cons_succ]
              refine hs_take (i := 3) (d := some 35) (v := ?_) rfl (by kernel_rfl) (by kernel_rfl) (by kernel_rfl) (by rfl) ?_ hS rfl ?_
              rotate_left
              · intro w' hw
                go_simp
                try with_reducible rfl
              simp only [Act.put, List.setIfInBounds_toArray, List.set_cons_zero, List.set_cons_succ]
              refine hs_take (i := 4) (d := some 36) (v := ?_) rfl (by kernel_rfl) (by kernel_rfl) (by kernel_rfl) (by rfl) ?_ hS rfl ?_
              rotate_left
              · intro w' hw
                go_simp
                try with_reducible rfl
              simp only [Act.put, List.setIfInBounds_toArray, List.set_cons_zero, List.set_cons_succ]
              refine hs_take (i := 5) (d := some 37) (v := ?_) rfl (by kernel_rfl) (by kernel_rfl) (by kernel_rfl) (by rfl) ?_ hS rfl ?_
              rotate_left
              · intro w' hw
                go_simp
                try with_reducible rfl
              simp only [Act.put, List.setIfInBounds_toArray, List.set_cons_zero, List.set_cons_succ]
              refine hs_take (i := 6) (d := some 38) (v := ?_) rfl (by kernel_rfl) (by kernel_rfl) (by kernel_rfl) (by rfl) ?_ hS rfl ?_
              rotate_left
              · intro w' hw
                have hc := c1 w' hw
                go_simp
                try with_reducible rfl
              simp only [Act.put, List.setIfInBounds_toArray, List.set_cons_zero, List.set_cons_succ]
              refine hs_take (i := 7) (d := some 39) (v := ?_) rfl (by kernel_rfl) (by kernel_rfl) (by kernel_rfl) (by rfl) ?_ hS rfl ?_
              rotate_left
              · intro w' hw
                go_simp
                try with_reducible rfl
              simp only [Act.put, List.setIfInBounds_toArray, List.set_cons_zero, List.set_cons_succ]
              refine hs_take (i := 8) (d := some 40) (v := ?_) rfl (by kernel_rfl) (by kernel_rfl) (by kernel_rfl) (by rfl) ?_ hS rfl ?_
              rotate_left
              · intro w' hw
                go_simp
                try with_reducible rfl
              simp only [Act.put, List.setIfInBounds_toArray, List.set_cons_zero, List.set_cons_succ]
              refine hs_take (i := 9) (d := some 41) (v := ?_) rfl (by kernel_rfl) (by kernel_rfl) (by kernel_rfl) (by rfl) ?_ hS rfl ?_
              rotate_left
              · intro w' hw
                go_simp
                try with_reducible rfl
              simp only [Act.put, List.setIfInBounds_toArray, List.set_cons_zero, List.set_cons_succ]
              refine hs_take (i := 10) (d := some 42) (v := ?_) rfl (by kernel_rfl) (by kernel_rfl) (by kernel_rfl) (by rfl) ?_ hS rfl ?_
              rotate_left
              · intro w' hw
                have hc := c2 w' hw
                go_simp
                try with_reducible rfl
              simp only [Act.put, List.setIfInBounds_toArray, List.set_cons_zero, List.set_cons_succ]
              refine hs_take (i := 11) (d := some 43) (v := ?_) rfl (by kernel_rfl) (by kernel_rfl) (by kernel_rfl) (by rfl) ?_ hS rfl ?_
              rotate_left
              · intro w' hw
                go_simp
                try with_reducible rfl
              simp only [Act.put, List.setIfInBounds_toArray, List.set_cons_zero, List.set_cons_succ]
              refine hs_call (i := 1) (d := some 33) rfl (by kernel_rfl) (by rfl) (by go_simp; first | done | exact ⟨rfl, rfl⟩ | with_reducible rfl) rfl ?_
              refine (ca w5).mono ?_
              rintro e' w6 ⟨rfl, hx⟩
              obtain rfl := hx.symm
              refine ⟨_, rfl, hS, ?_⟩
              simp only [Act.put, List.setIfInBounds_toArray, List.set_cons_zero, List.set_cons_succ]
              refine hs_call (i := 12) (d := some 44) rfl (by kernel_rfl) (by rfl) (by go_simp; first | done | exact ⟨rfl, rfl⟩ | with_reducible rfl) rfl ?_
              refine (cb w5).mono ?_
              rintro e' w7 ⟨rfl, hx⟩
              obtain rfl := hx.symm
              refine ⟨_, rfl, hS, ?_⟩
              simp only [Act.put, List.setIfInBounds_toArray, List.set_cons_zero, List.set_cons_succ]
              refine hs_take (i := 13) (d := some 3) (v := ?_) rfl (by kernel_rfl) (by kernel_rfl) (by kernel_rfl) (by rfl) ?_ hS rfl ?_
              rotate_left
              · intro w' hw
                go_simp
                try with_reducible rfl
              simp only [Act.put, List.setIfInBounds_toArray, List.set_cons_zero, List.set_cons_succ]
              refine hs_done (by kernel_rfl) ?_
              go_wp2
              go_roundw
              case rel => exact ⟨j + 1, p3, by omega, by go_num, rfl, HA3.out.2.1, HA3.out.1, hide HA3.out.2.2, hB5⟩
              case measure => simp [intOf]; omega
            · go_wp2
              go_roundw
              case rel => exact ⟨k + 1, m, by omega, by go_num, rfl, m0, m1, hide (fun q => absurd q hm), hbel.trans (hbq.mono hbel.size)⟩
              case measure => simp [intOf]; omega
          · have hj' : j = xr.length := by omega
            have HF : Hid (m ≤ 4000 → m = wt (xs.take (k + 1))) := by
              intro hm
              have h1 := HM.out hm
              have h2 := HT.out
              rw [hj', List.take_length] at h1
              omega
            have j1 : ¬ (j : Int) < xr.length := by omega
            clear HM
            go_wp2
            go_roundw
            case rel => exact ⟨k + 1, m, by omega, by go_num, rfl, m0, m1, HF, hbel.trans (hbq.mono hbel.size)⟩
            case measure => simp [intOf]; omega
      · go_wp2
        go_ret
        exact .inl ⟨rfl, hbel⟩
    · have hk' : k = xs.length := by omega
      have HF : Hid (n ≤ 4000 → wt xs ≤ 4000) := by
        intro hn
        have := HL.out hn
        rw [hk', List.take_length] at this
        omega
      have k1 : ¬ (k : Int) < xs.length := by omega
      clear HL
      by_cases hn : n ≤ 4000
      · go_wp2
        go_ret
        exact .inr ⟨rfl, hbel, HF.out hn⟩
      · go_wp2
        go_ret
        exact .inl ⟨rfl, hbel⟩
set_option maxRecDepth 100000 in
set_option maxHeartbeats 2000000 in
theorem Light_nil (a : Option Addr) (cap : Nat) (w : World) :
    Calls Tryd.prog 23 #[.slice a 0 cap] w fun e w' => e = .returned (.bool true) ∧ w' = w := by
  go_enter Tryd.func23, Tryd.ntmps23
  go_wp2_with fail
  go_loopw [3, 4] (fun nv iv wr => iv = .int .i64 0 ∧ nv = .int .i64 0 ∧ wr = w) (fun _ _ _ => 0)
  case atStart => exact ⟨rfl, rfl, rfl⟩
  case round =>
    obtain ⟨rfl, rfl, hx⟩ := hrel
    obtain rfl := hx.symm
    go_wp2_with fail
    go_ret
    exact ⟨rfl, rfl⟩
theorem wtR_len (rs : List Rq) : rs.length * 20 ≤ wtR rs := by
  induction rs with
  | nil => simp [wtR]
  | cons r rs ih => simp only [wtR, List.map_cons, List.sum_cons, List.length_cons] at *; omega
theorem wt_mem {xs : List Bx} {x : Bx} (h : x ∈ xs) : 5 + wtR x.rs ≤ wt xs := by
  induction xs with
  | nil => cases h
  | cons y xs ih =>
    simp only [wt, List.map_cons, List.sum_cons] at *
    rcases List.mem_cons.1 h with rfl | h
    · omega
    · have := ih h; omega
theorem wt_len (xs : List Bx) : xs.length * 5 ≤ wt xs := by
  induction xs with
  | nil => simp [wt]
  | cons y xs ih => simp only [wt, List.map_cons, List.sum_cons, List.length_cons] at *; omega
theorem Light_row (a : Option Addr) (cap : Nat) (xs : List Bx) (w : World) (h : RowOf Bx.cells w a xs) (hok : ∀ x ∈ xs, x.ok w) (hl : xs.length ≤ maxLen) :
    Calls Tryd.prog 23 #[.slice a xs.length cap] w fun e w' => (e = .returned (.bool false) ∧ Below w.heap.size w w') ∨ (e = .returned (.bool true) ∧ Below w.heap.size w w' ∧ wt xs ≤ 4000) := by
  rcases h with rfl | ⟨b, off, rfl, h1, h2⟩
  · refine (Light_nil a cap w).mono ?_
    rintro e w' ⟨he, rfl⟩
    exact .inr ⟨he, Below.refl _ _, by simp [wt]⟩
  · exact Light_any b off cap xs w ⟨hl, fun x hx => ⟨(hok x hx).2.2, (hok x hx).1, (hok x hx).2.1⟩, h1, h2⟩
end Go.Proofs.YtbfcbjjhdadicaaDoor
