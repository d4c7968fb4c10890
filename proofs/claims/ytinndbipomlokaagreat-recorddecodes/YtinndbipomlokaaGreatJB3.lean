/- lists compared; batches and certs compared; what was held, compared; lists of what was held, compared; changes; changes compared; messages with lists; Same; the document's comparisons of lists; the document's SameHeld -/
import Derived.Test.YtinndbipomlokaaGreatJB0
import Derived.Test.YtinndbipomlokaaGreatJB2
namespace Go.Proofs.YtinndbipomlokaaGreat
open Go.RowKit
open Sha Tal
def sameL {α : Type} (B : α → α → Bool) : List α → List α → Bool
  | [], [] => true
  | x :: xs, y :: ys => B x y && sameL B xs ys
  | _, _ => false
theorem sameL_iff {α : Type} {B : α → α → Bool} (h : ∀ x y, B x y = true ↔ x = y) : ∀ xs ys : List α, sameL B xs ys = true ↔ xs = ys
 | [], [] => by simp [sameL]
 | x :: xs, y :: ys => by simp [sameL, h, sameL_iff h xs ys]
 | [], _ :: _ => by simp [sameL]
 | _ :: _, [] => by simp [sameL]
set_option maxRecDepth 100000 in
set_option maxHeartbeats 2000000 in
theorem equalS_any (a : Option Addr) (cap : Nat) (rs : List Sg) (a' : Option Addr) (cap' : Nat) (rs' : List Sg) (w : World) (h : RowsAt SgE w a rs) (h' : RowsAt SgE w a' rs') :
  Calls Tryz.prog 70 #[.slice a rs.length cap, .slice a' rs'.length cap'] w fun e w' => ((e = .returned (.bool true) ∧ rs = rs') ∨ (e = .returned (.bool false) ∧ ¬ rs = rs')) ∧ Below w.heap.size w w' := by
 have hml := h.1
 have hml' := h'.1
 unfold maxLen at hml hml'
 have hall := h.2.1
 have hall' := h'.2.1
 by_cases hlen : rs.length = rs'.length
 rotate_left
 ·have e0 : ((rs.length : Int) == rs'.length) = false := by simp; omega
  have HL := hide hlen
  clear hlen
  go_enter Tryz.func70, Tryz.ntmps70
  go_wp2
  go_ret
  exact ⟨.inr ⟨rfl, fun hh => HL.out (by rw [hh])⟩, Below.refl _ _⟩
 ·have e0 : ((rs.length : Int) == rs'.length) = true := by simp; omega
  have HL := hide hlen
  clear hlen
  go_enter Tryz.func70, Tryz.ntmps70
  go_wp2
  go_loopw [13] (fun iv wr => ∃ k : Nat, k ≤ rs.length ∧ iv = .int .i64 (k : Int) ∧ Hid (∀ j (hj : j < rs.length) (hj' : j < rs'.length), j < k → rs[j] = rs'[j]) ∧ Below w.heap.size w wr) (fun iv _ => rs.length - (intOf iv).toNat)
  case atStart => exact ⟨0, by omega, rfl, hide (fun j _ _ hj => absurd hj (by omega)), Below.refl _ _⟩
  case round =>
   clear e0
   obtain ⟨k, hk, rfl, HM, hB⟩ := hrel
   by_cases hlt : k < rs.length
   ·have k1 : (k : Int) < rs.length := by omega
    have hlt' : k < rs'.length := by have := HL.out; omega
    have k1' : (k : Int) < rs'.length := by omega
    obtain ⟨b, off, rfl, hb, hre⟩ := (h.below hB).elem k hlt
    have hre : wr.rangeAt b (off + k * 17) rs[k].cells := hre
    obtain ⟨b', off', rfl, hb', hre'⟩ := (h'.below hB).elem k hlt'
    have hre' : wr.rangeAt b' (off' + k * 17) rs'[k].cells := hre'
    obtain ⟨r, hr⟩ : ∃ r, Hid (rs[k] = r) := ⟨_, hide rfl⟩
    obtain ⟨r', hr'⟩ : ∃ r', Hid (rs'[k] = r') := ⟨_, hide rfl⟩
    have hok : r.ok := by rw [← hr.out]; exact hall _ (List.getElem_mem hlt)
    have hok' : r'.ok := by rw [← hr'.out]; exact hall' _ (List.getElem_mem hlt')
    rw [hr.out] at hre
    rw [hr'.out] at hre'
    have HM' : Hid (r = r' → ∀ j (hj : j < rs.length) (hj' : j < rs'.length), j < k + 1 → rs[j] = rs'[j]) := hide (fun hp j hj hj' hjk => by
     by_cases e : j = k
     ·subst e; rw [hr.out, hr'.out]; exact hp
     ·exact HM.out j hj hj' (by omega))
    have HN' : Hid (r ≠ r' → rs ≠ rs') := hide (fun hp he => by
     apply hp
     rw [← hr.out, ← hr'.out]
     subst he
     rfl)
    clear hr hr' HM
    have hiu : (Tryz.prog.info? 110).map (·.size) = some r.cells.length := by rw [show r.cells.length = 17 from SgE.len r hok]; kernel_rfl
    have hiu' : (Tryz.prog.info? 110).map (·.size) = some r'.cells.length := by rw [show r'.cells.length = 17 from SgE.len r' hok']; kernel_rfl
    have hne := fun w0 => Sg.eq10 r r' hok hok' w0
    obtain ⟨u, hu⟩ : ∃ u, Hid (r.cells = u) := ⟨_, hide rfl⟩
    obtain ⟨u', hu'⟩ : ∃ u', Hid (r'.cells = u') := ⟨_, hide rfl⟩
    rw [hu.out] at hre hiu
    rw [hu'.out] at hre' hiu'
    simp only [hu.out, hu'.out] at hne
    clear hu hu' hok hok'
    by_cases hrr : r = r'
    ·have e1 : Sg.B r r' = true := Sg.B_iff.2 hrr
     rw [e1] at hne
     have HR := hide hrr
     clear hrr e1
     go_upto_region 6 with fail
     obtain ⟨w5, hw5⟩ : ∃ w5, wr.drew = w5 := ⟨_, rfl⟩
     have hB5 : Below w.heap.size w w5 := by rw [← hw5]; exact hB.drew
     have hre5 : w5.rangeAt b (off + k * 17) u := by rw [← hw5]; exact (World.rangeAt_drew _ _ _ _).2 hre
     have hre5' : w5.rangeAt b' (off' + k * 17) u' := by rw [← hw5]; exact (World.rangeAt_drew _ _ _ _).2 hre'
     have hb5 : b < w5.heap.size := by rw [← hw5]; exact hb
     have hb5' : b' < w5.heap.size := by rw [← hw5]; exact hb'
     refine hs_begin (S := (Below w5.heap.size w5)) 9 rfl (by kernel_rfl) ?_
     rw [hw5]
     clear hw5 hB hre hre' hb hb'
     have hS : (Below w5.heap.size w5) w5 := Below.refl _ _
     refine hs_t 0 16 (?_) rfl (by kernel_rfl) (by kernel_rfl) (by kernel_rfl) (by rfl) ?_ hS rfl ?_
     rotate_left
     ·intro w' hw
      go_simp
      try with_reducible rfl
     simp only [nz]
     refine hs_t 1 17 (?_) rfl (by kernel_rfl) (by kernel_rfl) (by kernel_rfl) (by rfl) ?_ hS rfl ?_
     rotate_left
     ·intro w' hw
      go_simp
      try with_reducible rfl
     simp only [nz]
     refine hs_t 2 18 (?_) rfl (by kernel_rfl) (by kernel_rfl) (by kernel_rfl) (by rfl) ?_ hS rfl ?_
     rotate_left
     ·intro w' hw
      go_simp
      try with_reducible rfl
     simp only [nz]
     refine hs_t 3 19 (.agg u.toArray) rfl (by kernel_rfl) (by kernel_rfl) (by kernel_rfl) (by rfl) (fun w' hw => exec_loadC rfl rfl (run_loadVar_mid (P := Tryz.prog) w' b (off + k * 17) 110 u _ (range_below hre5 hw hb5) Tryz.underlying110 rfl hiu)) hS rfl ?_
     simp only [nz]
     refine hs_t 4 20 (?_) rfl (by kernel_rfl) (by kernel_rfl) (by kernel_rfl) (by rfl) ?_ hS rfl ?_
     rotate_left
     ·intro w' hw
      go_simp
      try with_reducible rfl
     simp only [nz]
     refine hs_t 5 21 (?_) rfl (by kernel_rfl) (by kernel_rfl) (by kernel_rfl) (by rfl) ?_ hS rfl ?_
     rotate_left
     ·intro w' hw
      go_simp
      try with_reducible rfl
     simp only [nz]
     refine hs_t 6 22 (?_) rfl (by kernel_rfl) (by kernel_rfl) (by kernel_rfl) (by rfl) ?_ hS rfl ?_
     rotate_left
     ·intro w' hw
      go_simp
      try with_reducible rfl
     simp only [nz]
     refine hs_t 7 23 (.agg u'.toArray) rfl (by kernel_rfl) (by kernel_rfl) (by kernel_rfl) (by rfl) (fun w' hw => exec_loadC rfl rfl (run_loadVar_mid (P := Tryz.prog) w' b' (off' + k * 17) 110 u' _ (range_below hre5' hw hb5') Tryz.underlying110 rfl hiu')) hS rfl ?_
     simp only [nz]
     refine hs_t 8 24 (.bool false) rfl (by kernel_rfl) (by kernel_rfl) (by kernel_rfl) (by rfl) (fun w' hw => by have hc := hne w'; go_simp) hS rfl ?_
     simp only [nz]
     refine hs_done (by kernel_rfl) ?_
     go_wp2
     go_roundw
     case rel => exact ⟨k + 1, by omega, by go_num, hide (HM'.out HR.out), hB5⟩
     case measure => simp [intOf]; omega
    ·have e1 : Sg.B r r' = false := by
      cases hx : Sg.B r r'
      ·rfl
      ·exact absurd (Sg.B_iff.1 hx) hrr
     rw [e1] at hne
     have HR := hide hrr
     clear hrr e1
     go_upto_region 6 with fail
     obtain ⟨w5, hw5⟩ : ∃ w5, wr.drew = w5 := ⟨_, rfl⟩
     have hB5 : Below w.heap.size w w5 := by rw [← hw5]; exact hB.drew
     have hre5 : w5.rangeAt b (off + k * 17) u := by rw [← hw5]; exact (World.rangeAt_drew _ _ _ _).2 hre
     have hre5' : w5.rangeAt b' (off' + k * 17) u' := by rw [← hw5]; exact (World.rangeAt_drew _ _ _ _).2 hre'
     have hb5 : b < w5.heap.size := by rw [← hw5]; exact hb
     have hb5' : b' < w5.heap.size := by rw [← hw5]; exact hb'
     refine hs_begin (S := (Below w5.heap.size w5)) 9 rfl (by kernel_rfl) ?_
     rw [hw5]
     clear hw5 hB hre hre' hb hb'
     have hS : (Below w5.heap.size w5) w5 := Below.refl _ _
     refine hs_t 0 16 (?_) rfl (by kernel_rfl) (by kernel_rfl) (by kernel_rfl) (by rfl) ?_ hS rfl ?_
     rotate_left
     ·intro w' hw
      go_simp
      try with_reducible rfl
     simp only [nz]
     refine hs_t 1 17 (?_) rfl (by kernel_rfl) (by kernel_rfl) (by kernel_rfl) (by rfl) ?_ hS rfl ?_
     rotate_left
     ·intro w' hw
      go_simp
      try with_reducible rfl
     simp only [nz]
     refine hs_t 2 18 (?_) rfl (by kernel_rfl) (by kernel_rfl) (by kernel_rfl) (by rfl) ?_ hS rfl ?_
     rotate_left
     ·intro w' hw
      go_simp
      try with_reducible rfl
     simp only [nz]
     refine hs_t 3 19 (.agg u.toArray) rfl (by kernel_rfl) (by kernel_rfl) (by kernel_rfl) (by rfl) (fun w' hw => exec_loadC rfl rfl (run_loadVar_mid (P := Tryz.prog) w' b (off + k * 17) 110 u _ (range_below hre5 hw hb5) Tryz.underlying110 rfl hiu)) hS rfl ?_
     simp only [nz]
     refine hs_t 4 20 (?_) rfl (by kernel_rfl) (by kernel_rfl) (by kernel_rfl) (by rfl) ?_ hS rfl ?_
     rotate_left
     ·intro w' hw
      go_simp
      try with_reducible rfl
     simp only [nz]
     refine hs_t 5 21 (?_) rfl (by kernel_rfl) (by kernel_rfl) (by kernel_rfl) (by rfl) ?_ hS rfl ?_
     rotate_left
     ·intro w' hw
      go_simp
      try with_reducible rfl
     simp only [nz]
     refine hs_t 6 22 (?_) rfl (by kernel_rfl) (by kernel_rfl) (by kernel_rfl) (by rfl) ?_ hS rfl ?_
     rotate_left
     ·intro w' hw
      go_simp
      try with_reducible rfl
     simp only [nz]
     refine hs_t 7 23 (.agg u'.toArray) rfl (by kernel_rfl) (by kernel_rfl) (by kernel_rfl) (by rfl) (fun w' hw => exec_loadC rfl rfl (run_loadVar_mid (P := Tryz.prog) w' b' (off' + k * 17) 110 u' _ (range_below hre5' hw hb5') Tryz.underlying110 rfl hiu')) hS rfl ?_
     simp only [nz]
     refine hs_t 8 24 (.bool true) rfl (by kernel_rfl) (by kernel_rfl) (by kernel_rfl) (by rfl) (fun w' hw => by have hc := hne w'; go_simp) hS rfl ?_
     simp only [nz]
     refine hs_done (by kernel_rfl) ?_
     go_wp2
     go_ret
     exact ⟨.inr ⟨rfl, fun hh => HN'.out HR.out hh⟩, hB5⟩
   ·have k1 : ¬ (k : Int) < rs.length := by omega
    have HE : Hid (rs = rs') := hide (List.ext_getElem HL.out (fun j hj hj' => HM.out j hj hj' (by omega)))
    clear HM
    go_wp2
    go_ret
    exact ⟨.inl ⟨rfl, HE.out⟩, hB⟩
theorem equalS_anyB (a : Option Addr) (cap : Nat) (rs : List Sg) (a' : Option Addr) (cap' : Nat) (rs' : List Sg) (w : World) (h : RowsAt SgE w a rs) (h' : RowsAt SgE w a' rs') :
  Calls Tryz.prog 70 #[.slice a rs.length cap, .slice a' rs'.length cap'] w fun e w' => e = .returned (.bool (sameL Sg.B rs rs')) ∧ Below w.heap.size w w' := by
 refine (equalS_any a cap rs a' cap' rs' w h h').mono ?_
 rintro e w1 ⟨hc, hb⟩
 have I := sameL_iff (fun x y => Sg.B_iff (x := x) (y := y)) rs rs'
 refine ⟨?_, hb⟩
 rcases hc with ⟨rfl, he⟩ | ⟨rfl, he⟩
 ·rw [I.2 he]
 ·cases hq : sameL Sg.B rs rs'
  ·rfl
  ·exact absurd (I.1 hq) he
set_option maxRecDepth 100000 in
set_option maxHeartbeats 2000000 in
theorem equalE_any (a : Option Addr) (cap : Nat) (rs : List Ev) (a' : Option Addr) (cap' : Nat) (rs' : List Ev) (w : World) (h : RowsAt EvE w a rs) (h' : RowsAt EvE w a' rs') :
  Calls Tryz.prog 68 #[.slice a rs.length cap, .slice a' rs'.length cap'] w fun e w' => ((e = .returned (.bool true) ∧ rs = rs') ∨ (e = .returned (.bool false) ∧ ¬ rs = rs')) ∧ Below w.heap.size w w' := by
 have hml := h.1
 have hml' := h'.1
 unfold maxLen at hml hml'
 have hall := h.2.1
 have hall' := h'.2.1
 by_cases hlen : rs.length = rs'.length
 rotate_left
 ·have e0 : ((rs.length : Int) == rs'.length) = false := by simp; omega
  have HL := hide hlen
  clear hlen
  go_enter Tryz.func68, Tryz.ntmps68
  go_wp2
  go_ret
  exact ⟨.inr ⟨rfl, fun hh => HL.out (by rw [hh])⟩, Below.refl _ _⟩
 ·have e0 : ((rs.length : Int) == rs'.length) = true := by simp; omega
  have HL := hide hlen
  clear hlen
  go_enter Tryz.func68, Tryz.ntmps68
  go_wp2
  go_loopw [13] (fun iv wr => ∃ k : Nat, k ≤ rs.length ∧ iv = .int .i64 (k : Int) ∧ Hid (∀ j (hj : j < rs.length) (hj' : j < rs'.length), j < k → rs[j] = rs'[j]) ∧ Below w.heap.size w wr) (fun iv _ => rs.length - (intOf iv).toNat)
  case atStart => exact ⟨0, by omega, rfl, hide (fun j _ _ hj => absurd hj (by omega)), Below.refl _ _⟩
  case round =>
   clear e0
   obtain ⟨k, hk, rfl, HM, hB⟩ := hrel
   by_cases hlt : k < rs.length
   ·have k1 : (k : Int) < rs.length := by omega
    have hlt' : k < rs'.length := by have := HL.out; omega
    have k1' : (k : Int) < rs'.length := by omega
    obtain ⟨b, off, rfl, hb, hre⟩ := (h.below hB).elem k hlt
    have hre : wr.rangeAt b (off + k * 18) rs[k].cells := hre
    obtain ⟨b', off', rfl, hb', hre'⟩ := (h'.below hB).elem k hlt'
    have hre' : wr.rangeAt b' (off' + k * 18) rs'[k].cells := hre'
    obtain ⟨r, hr⟩ : ∃ r, Hid (rs[k] = r) := ⟨_, hide rfl⟩
    obtain ⟨r', hr'⟩ : ∃ r', Hid (rs'[k] = r') := ⟨_, hide rfl⟩
    have hok : r.ok := by rw [← hr.out]; exact hall _ (List.getElem_mem hlt)
    have hok' : r'.ok := by rw [← hr'.out]; exact hall' _ (List.getElem_mem hlt')
    rw [hr.out] at hre
    rw [hr'.out] at hre'
    have HM' : Hid (r = r' → ∀ j (hj : j < rs.length) (hj' : j < rs'.length), j < k + 1 → rs[j] = rs'[j]) := hide (fun hp j hj hj' hjk => by
     by_cases e : j = k
     ·subst e; rw [hr.out, hr'.out]; exact hp
     ·exact HM.out j hj hj' (by omega))
    have HN' : Hid (r ≠ r' → rs ≠ rs') := hide (fun hp he => by
     apply hp
     rw [← hr.out, ← hr'.out]
     subst he
     rfl)
    clear hr hr' HM
    have hiu : (Tryz.prog.info? 108).map (·.size) = some r.cells.length := by rw [show r.cells.length = 18 from EvE.len r hok]; kernel_rfl
    have hiu' : (Tryz.prog.info? 108).map (·.size) = some r'.cells.length := by rw [show r'.cells.length = 18 from EvE.len r' hok']; kernel_rfl
    have hne := fun w0 => Ev.eq10 r r' hok hok' w0
    obtain ⟨u, hu⟩ : ∃ u, Hid (r.cells = u) := ⟨_, hide rfl⟩
    obtain ⟨u', hu'⟩ : ∃ u', Hid (r'.cells = u') := ⟨_, hide rfl⟩
    rw [hu.out] at hre hiu
    rw [hu'.out] at hre' hiu'
    simp only [hu.out, hu'.out] at hne
    clear hu hu' hok hok'
    by_cases hrr : r = r'
    ·have e1 : Ev.B r r' = true := Ev.B_iff.2 hrr
     rw [e1] at hne
     have HR := hide hrr
     clear hrr e1
     go_upto_region 6 with fail
     obtain ⟨w5, hw5⟩ : ∃ w5, wr.drew = w5 := ⟨_, rfl⟩
     have hB5 : Below w.heap.size w w5 := by rw [← hw5]; exact hB.drew
     have hre5 : w5.rangeAt b (off + k * 18) u := by rw [← hw5]; exact (World.rangeAt_drew _ _ _ _).2 hre
     have hre5' : w5.rangeAt b' (off' + k * 18) u' := by rw [← hw5]; exact (World.rangeAt_drew _ _ _ _).2 hre'
     have hb5 : b < w5.heap.size := by rw [← hw5]; exact hb
     have hb5' : b' < w5.heap.size := by rw [← hw5]; exact hb'
     refine hs_begin (S := (Below w5.heap.size w5)) 9 rfl (by kernel_rfl) ?_
     rw [hw5]
     clear hw5 hB hre hre' hb hb'
     have hS : (Below w5.heap.size w5) w5 := Below.refl _ _
     refine hs_t 0 16 (?_) rfl (by kernel_rfl) (by kernel_rfl) (by kernel_rfl) (by rfl) ?_ hS rfl ?_
     rotate_left
     ·intro w' hw
      go_simp
      try with_reducible rfl
     simp only [nz]
     refine hs_t 1 17 (?_) rfl (by kernel_rfl) (by kernel_rfl) (by kernel_rfl) (by rfl) ?_ hS rfl ?_
     rotate_left
     ·intro w' hw
      go_simp
      try with_reducible rfl
     simp only [nz]
     refine hs_t 2 18 (?_) rfl (by kernel_rfl) (by kernel_rfl) (by kernel_rfl) (by rfl) ?_ hS rfl ?_
     rotate_left
     ·intro w' hw
      go_simp
      try with_reducible rfl
     simp only [nz]
     refine hs_t 3 19 (.agg u.toArray) rfl (by kernel_rfl) (by kernel_rfl) (by kernel_rfl) (by rfl) (fun w' hw => exec_loadC rfl rfl (run_loadVar_mid (P := Tryz.prog) w' b (off + k * 18) 108 u _ (range_below hre5 hw hb5) Tryz.underlying108 rfl hiu)) hS rfl ?_
     simp only [nz]
     refine hs_t 4 20 (?_) rfl (by kernel_rfl) (by kernel_rfl) (by kernel_rfl) (by rfl) ?_ hS rfl ?_
     rotate_left
     ·intro w' hw
      go_simp
      try with_reducible rfl
     simp only [nz]
     refine hs_t 5 21 (?_) rfl (by kernel_rfl) (by kernel_rfl) (by kernel_rfl) (by rfl) ?_ hS rfl ?_
     rotate_left
     ·intro w' hw
      go_simp
      try with_reducible rfl
     simp only [nz]
     refine hs_t 6 22 (?_) rfl (by kernel_rfl) (by kernel_rfl) (by kernel_rfl) (by rfl) ?_ hS rfl ?_
     rotate_left
     ·intro w' hw
      go_simp
      try with_reducible rfl
     simp only [nz]
     refine hs_t 7 23 (.agg u'.toArray) rfl (by kernel_rfl) (by kernel_rfl) (by kernel_rfl) (by rfl) (fun w' hw => exec_loadC rfl rfl (run_loadVar_mid (P := Tryz.prog) w' b' (off' + k * 18) 108 u' _ (range_below hre5' hw hb5') Tryz.underlying108 rfl hiu')) hS rfl ?_
     simp only [nz]
     refine hs_t 8 24 (.bool false) rfl (by kernel_rfl) (by kernel_rfl) (by kernel_rfl) (by rfl) (fun w' hw => by have hc := hne w'; go_simp) hS rfl ?_
     simp only [nz]
     refine hs_done (by kernel_rfl) ?_
     go_wp2
     go_roundw
     case rel => exact ⟨k + 1, by omega, by go_num, hide (HM'.out HR.out), hB5⟩
     case measure => simp [intOf]; omega
    ·have e1 : Ev.B r r' = false := by
      cases hx : Ev.B r r'
      ·rfl
      ·exact absurd (Ev.B_iff.1 hx) hrr
     rw [e1] at hne
     have HR := hide hrr
     clear hrr e1
     go_upto_region 6 with fail
     obtain ⟨w5, hw5⟩ : ∃ w5, wr.drew = w5 := ⟨_, rfl⟩
     have hB5 : Below w.heap.size w w5 := by rw [← hw5]; exact hB.drew
     have hre5 : w5.rangeAt b (off + k * 18) u := by rw [← hw5]; exact (World.rangeAt_drew _ _ _ _).2 hre
     have hre5' : w5.rangeAt b' (off' + k * 18) u' := by rw [← hw5]; exact (World.rangeAt_drew _ _ _ _).2 hre'
     have hb5 : b < w5.heap.size := by rw [← hw5]; exact hb
     have hb5' : b' < w5.heap.size := by rw [← hw5]; exact hb'
     refine hs_begin (S := (Below w5.heap.size w5)) 9 rfl (by kernel_rfl) ?_
     rw [hw5]
     clear hw5 hB hre hre' hb hb'
     have hS : (Below w5.heap.size w5) w5 := Below.refl _ _
     refine hs_t 0 16 (?_) rfl (by kernel_rfl) (by kernel_rfl) (by kernel_rfl) (by rfl) ?_ hS rfl ?_
     rotate_left
     ·intro w' hw
      go_simp
      try with_reducible rfl
     simp only [nz]
     refine hs_t 1 17 (?_) rfl (by kernel_rfl) (by kernel_rfl) (by kernel_rfl) (by rfl) ?_ hS rfl ?_
     rotate_left
     ·intro w' hw
      go_simp
      try with_reducible rfl
     simp only [nz]
     refine hs_t 2 18 (?_) rfl (by kernel_rfl) (by kernel_rfl) (by kernel_rfl) (by rfl) ?_ hS rfl ?_
     rotate_left
     ·intro w' hw
      go_simp
      try with_reducible rfl
     simp only [nz]
     refine hs_t 3 19 (.agg u.toArray) rfl (by kernel_rfl) (by kernel_rfl) (by kernel_rfl) (by rfl) (fun w' hw => exec_loadC rfl rfl (run_loadVar_mid (P := Tryz.prog) w' b (off + k * 18) 108 u _ (range_below hre5 hw hb5) Tryz.underlying108 rfl hiu)) hS rfl ?_
     simp only [nz]
     refine hs_t 4 20 (?_) rfl (by kernel_rfl) (by kernel_rfl) (by kernel_rfl) (by rfl) ?_ hS rfl ?_
     rotate_left
     ·intro w' hw
      go_simp
      try with_reducible rfl
     simp only [nz]
     refine hs_t 5 21 (?_) rfl (by kernel_rfl) (by kernel_rfl) (by kernel_rfl) (by rfl) ?_ hS rfl ?_
     rotate_left
     ·intro w' hw
      go_simp
      try with_reducible rfl
     simp only [nz]
     refine hs_t 6 22 (?_) rfl (by kernel_rfl) (by kernel_rfl) (by kernel_rfl) (by rfl) ?_ hS rfl ?_
     rotate_left
     ·intro w' hw
      go_simp
      try with_reducible rfl
     simp only [nz]
     refine hs_t 7 23 (.agg u'.toArray) rfl (by kernel_rfl) (by kernel_rfl) (by kernel_rfl) (by rfl) (fun w' hw => exec_loadC rfl rfl (run_loadVar_mid (P := Tryz.prog) w' b' (off' + k * 18) 108 u' _ (range_below hre5' hw hb5') Tryz.underlying108 rfl hiu')) hS rfl ?_
     simp only [nz]
     refine hs_t 8 24 (.bool true) rfl (by kernel_rfl) (by kernel_rfl) (by kernel_rfl) (by rfl) (fun w' hw => by have hc := hne w'; go_simp) hS rfl ?_
     simp only [nz]
     refine hs_done (by kernel_rfl) ?_
     go_wp2
     go_ret
     exact ⟨.inr ⟨rfl, fun hh => HN'.out HR.out hh⟩, hB5⟩
   ·have k1 : ¬ (k : Int) < rs.length := by omega
    have HE : Hid (rs = rs') := hide (List.ext_getElem HL.out (fun j hj hj' => HM.out j hj hj' (by omega)))
    clear HM
    go_wp2
    go_ret
    exact ⟨.inl ⟨rfl, HE.out⟩, hB⟩
theorem equalE_anyB (a : Option Addr) (cap : Nat) (rs : List Ev) (a' : Option Addr) (cap' : Nat) (rs' : List Ev) (w : World) (h : RowsAt EvE w a rs) (h' : RowsAt EvE w a' rs') :
  Calls Tryz.prog 68 #[.slice a rs.length cap, .slice a' rs'.length cap'] w fun e w' => e = .returned (.bool (sameL Ev.B rs rs')) ∧ Below w.heap.size w w' := by
 refine (equalE_any a cap rs a' cap' rs' w h h').mono ?_
 rintro e w1 ⟨hc, hb⟩
 have I := sameL_iff (fun x y => Ev.B_iff (x := x) (y := y)) rs rs'
 refine ⟨?_, hb⟩
 rcases hc with ⟨rfl, he⟩ | ⟨rfl, he⟩
 ·rw [I.2 he]
 ·cases hq : sameL Ev.B rs rs'
  ·rfl
  ·exact absurd (I.1 hq) he
set_option maxRecDepth 100000 in
set_option maxHeartbeats 2000000 in
theorem equalQ_any (a : Option Addr) (cap : Nat) (rs : List Rq) (a' : Option Addr) (cap' : Nat) (rs' : List Rq) (w : World) (h : RowsAt RqE w a rs) (h' : RowsAt RqE w a' rs') :
  Calls Tryz.prog 102 #[.slice a rs.length cap, .slice a' rs'.length cap'] w fun e w' => ((e = .returned (.bool true) ∧ rs = rs') ∨ (e = .returned (.bool false) ∧ ¬ rs = rs')) ∧ Below w.heap.size w w' := by
 have hml := h.1
 have hml' := h'.1
 unfold maxLen at hml hml'
 have hall := h.2.1
 have hall' := h'.2.1
 by_cases hlen : rs.length = rs'.length
 rotate_left
 ·have e0 : ((rs.length : Int) == rs'.length) = false := by simp; omega
  have HL := hide hlen
  clear hlen
  go_enter Tryz.func102, Tryz.ntmps102
  go_wp2
  go_ret
  exact ⟨.inr ⟨rfl, fun hh => HL.out (by rw [hh])⟩, Below.refl _ _⟩
 ·have e0 : ((rs.length : Int) == rs'.length) = true := by simp; omega
  have HL := hide hlen
  clear hlen
  go_enter Tryz.func102, Tryz.ntmps102
  go_wp2
  go_loopw [13] (fun iv wr => ∃ k : Nat, k ≤ rs.length ∧ iv = .int .i64 (k : Int) ∧ Hid (∀ j (hj : j < rs.length) (hj' : j < rs'.length), j < k → rs[j] = rs'[j]) ∧ Below w.heap.size w wr) (fun iv _ => rs.length - (intOf iv).toNat)
  case atStart => exact ⟨0, by omega, rfl, hide (fun j _ _ hj => absurd hj (by omega)), Below.refl _ _⟩
  case round =>
   clear e0
   obtain ⟨k, hk, rfl, HM, hB⟩ := hrel
   by_cases hlt : k < rs.length
   ·have k1 : (k : Int) < rs.length := by omega
    have hlt' : k < rs'.length := by have := HL.out; omega
    have k1' : (k : Int) < rs'.length := by omega
    obtain ⟨b, off, rfl, hb, hre⟩ := (h.below hB).elem k hlt
    have hre : wr.rangeAt b (off + k * 19) rs[k].cells := hre
    obtain ⟨b', off', rfl, hb', hre'⟩ := (h'.below hB).elem k hlt'
    have hre' : wr.rangeAt b' (off' + k * 19) rs'[k].cells := hre'
    obtain ⟨r, hr⟩ : ∃ r, Hid (rs[k] = r) := ⟨_, hide rfl⟩
    obtain ⟨r', hr'⟩ : ∃ r', Hid (rs'[k] = r') := ⟨_, hide rfl⟩
    have hok : r.ok := by rw [← hr.out]; exact hall _ (List.getElem_mem hlt)
    have hok' : r'.ok := by rw [← hr'.out]; exact hall' _ (List.getElem_mem hlt')
    rw [hr.out] at hre
    rw [hr'.out] at hre'
    have HM' : Hid (r = r' → ∀ j (hj : j < rs.length) (hj' : j < rs'.length), j < k + 1 → rs[j] = rs'[j]) := hide (fun hp j hj hj' hjk => by
     by_cases e : j = k
     ·subst e; rw [hr.out, hr'.out]; exact hp
     ·exact HM.out j hj hj' (by omega))
    have HN' : Hid (r ≠ r' → rs ≠ rs') := hide (fun hp he => by
     apply hp
     rw [← hr.out, ← hr'.out]
     subst he
     rfl)
    clear hr hr' HM
    have hiu : (Tryz.prog.info? 91).map (·.size) = some r.cells.length := by rw [show r.cells.length = 19 from RqE.len r hok]; kernel_rfl
    have hiu' : (Tryz.prog.info? 91).map (·.size) = some r'.cells.length := by rw [show r'.cells.length = 19 from RqE.len r' hok']; kernel_rfl
    have hne := fun w0 => Rq.eq10 r r' hok hok' w0
    obtain ⟨u, hu⟩ : ∃ u, Hid (r.cells = u) := ⟨_, hide rfl⟩
    obtain ⟨u', hu'⟩ : ∃ u', Hid (r'.cells = u') := ⟨_, hide rfl⟩
    rw [hu.out] at hre hiu
    rw [hu'.out] at hre' hiu'
    simp only [hu.out, hu'.out] at hne
    clear hu hu' hok hok'
    by_cases hrr : r = r'
    ·have e1 : Rq.B r r' = true := Rq.B_iff.2 hrr
     rw [e1] at hne
     have HR := hide hrr
     clear hrr e1
     go_upto_region 6 with fail
     obtain ⟨w5, hw5⟩ : ∃ w5, wr.drew = w5 := ⟨_, rfl⟩
     have hB5 : Below w.heap.size w w5 := by rw [← hw5]; exact hB.drew
     have hre5 : w5.rangeAt b (off + k * 19) u := by rw [← hw5]; exact (World.rangeAt_drew _ _ _ _).2 hre
     have hre5' : w5.rangeAt b' (off' + k * 19) u' := by rw [← hw5]; exact (World.rangeAt_drew _ _ _ _).2 hre'
     have hb5 : b < w5.heap.size := by rw [← hw5]; exact hb
     have hb5' : b' < w5.heap.size := by rw [← hw5]; exact hb'
     refine hs_begin (S := (Below w5.heap.size w5)) 9 rfl (by kernel_rfl) ?_
     rw [hw5]
     clear hw5 hB hre hre' hb hb'
     have hS : (Below w5.heap.size w5) w5 := Below.refl _ _
     refine hs_t 0 16 (?_) rfl (by kernel_rfl) (by kernel_rfl) (by kernel_rfl) (by rfl) ?_ hS rfl ?_
     rotate_left
     ·intro w' hw
      go_simp
      try with_reducible rfl
     simp only [nz]
     refine hs_t 1 17 (?_) rfl (by kernel_rfl) (by kernel_rfl) (by kernel_rfl) (by rfl) ?_ hS rfl ?_
     rotate_left
     ·intro w' hw
      go_simp
      try with_reducible rfl
     simp only [nz]
     refine hs_t 2 18 (?_) rfl (by kernel_rfl) (by kernel_rfl) (by kernel_rfl) (by rfl) ?_ hS rfl ?_
     rotate_left
     ·intro w' hw
      go_simp
      try with_reducible rfl
     simp only [nz]
     refine hs_t 3 19 (.agg u.toArray) rfl (by kernel_rfl) (by kernel_rfl) (by kernel_rfl) (by rfl) (fun w' hw => exec_loadC rfl rfl (run_loadVar_mid (P := Tryz.prog) w' b (off + k * 19) 91 u _ (range_below hre5 hw hb5) Tryz.underlying91 rfl hiu)) hS rfl ?_
     simp only [nz]
     refine hs_t 4 20 (?_) rfl (by kernel_rfl) (by kernel_rfl) (by kernel_rfl) (by rfl) ?_ hS rfl ?_
     rotate_left
     ·intro w' hw
      go_simp
      try with_reducible rfl
     simp only [nz]
     refine hs_t 5 21 (?_) rfl (by kernel_rfl) (by kernel_rfl) (by kernel_rfl) (by rfl) ?_ hS rfl ?_
     rotate_left
     ·intro w' hw
      go_simp
      try with_reducible rfl
     simp only [nz]
     refine hs_t 6 22 (?_) rfl (by kernel_rfl) (by kernel_rfl) (by kernel_rfl) (by rfl) ?_ hS rfl ?_
     rotate_left
     ·intro w' hw
      go_simp
      try with_reducible rfl
     simp only [nz]
     refine hs_t 7 23 (.agg u'.toArray) rfl (by kernel_rfl) (by kernel_rfl) (by kernel_rfl) (by rfl) (fun w' hw => exec_loadC rfl rfl (run_loadVar_mid (P := Tryz.prog) w' b' (off' + k * 19) 91 u' _ (range_below hre5' hw hb5') Tryz.underlying91 rfl hiu')) hS rfl ?_
     simp only [nz]
     refine hs_t 8 24 (.bool false) rfl (by kernel_rfl) (by kernel_rfl) (by kernel_rfl) (by rfl) (fun w' hw => by have hc := hne w'; go_simp) hS rfl ?_
     simp only [nz]
     refine hs_done (by kernel_rfl) ?_
     go_wp2
     go_roundw
     case rel => exact ⟨k + 1, by omega, by go_num, hide (HM'.out HR.out), hB5⟩
     case measure => simp [intOf]; omega
    ·have e1 : Rq.B r r' = false := by
      cases hx : Rq.B r r'
      ·rfl
      ·exact absurd (Rq.B_iff.1 hx) hrr
     rw [e1] at hne
     have HR := hide hrr
     clear hrr e1
     go_upto_region 6 with fail
     obtain ⟨w5, hw5⟩ : ∃ w5, wr.drew = w5 := ⟨_, rfl⟩
     have hB5 : Below w.heap.size w w5 := by rw [← hw5]; exact hB.drew
     have hre5 : w5.rangeAt b (off + k * 19) u := by rw [← hw5]; exact (World.rangeAt_drew _ _ _ _).2 hre
     have hre5' : w5.rangeAt b' (off' + k * 19) u' := by rw [← hw5]; exact (World.rangeAt_drew _ _ _ _).2 hre'
     have hb5 : b < w5.heap.size := by rw [← hw5]; exact hb
     have hb5' : b' < w5.heap.size := by rw [← hw5]; exact hb'
     refine hs_begin (S := (Below w5.heap.size w5)) 9 rfl (by kernel_rfl) ?_
     rw [hw5]
     clear hw5 hB hre hre' hb hb'
     have hS : (Below w5.heap.size w5) w5 := Below.refl _ _
     refine hs_t 0 16 (?_) rfl (by kernel_rfl) (by kernel_rfl) (by kernel_rfl) (by rfl) ?_ hS rfl ?_
     rotate_left
     ·intro w' hw
      go_simp
      try with_reducible rfl
     simp only [nz]
     refine hs_t 1 17 (?_) rfl (by kernel_rfl) (by kernel_rfl) (by kernel_rfl) (by rfl) ?_ hS rfl ?_
     rotate_left
     ·intro w' hw
      go_simp
      try with_reducible rfl
     simp only [nz]
     refine hs_t 2 18 (?_) rfl (by kernel_rfl) (by kernel_rfl) (by kernel_rfl) (by rfl) ?_ hS rfl ?_
     rotate_left
     ·intro w' hw
      go_simp
      try with_reducible rfl
     simp only [nz]
     refine hs_t 3 19 (.agg u.toArray) rfl (by kernel_rfl) (by kernel_rfl) (by kernel_rfl) (by rfl) (fun w' hw => exec_loadC rfl rfl (run_loadVar_mid (P := Tryz.prog) w' b (off + k * 19) 91 u _ (range_below hre5 hw hb5) Tryz.underlying91 rfl hiu)) hS rfl ?_
     simp only [nz]
     refine hs_t 4 20 (?_) rfl (by kernel_rfl) (by kernel_rfl) (by kernel_rfl) (by rfl) ?_ hS rfl ?_
     rotate_left
     ·intro w' hw
      go_simp
      try with_reducible rfl
     simp only [nz]
     refine hs_t 5 21 (?_) rfl (by kernel_rfl) (by kernel_rfl) (by kernel_rfl) (by rfl) ?_ hS rfl ?_
     rotate_left
     ·intro w' hw
      go_simp
      try with_reducible rfl
     simp only [nz]
     refine hs_t 6 22 (?_) rfl (by kernel_rfl) (by kernel_rfl) (by kernel_rfl) (by rfl) ?_ hS rfl ?_
     rotate_left
     ·intro w' hw
      go_simp
      try with_reducible rfl
     simp only [nz]
     refine hs_t 7 23 (.agg u'.toArray) rfl (by kernel_rfl) (by kernel_rfl) (by kernel_rfl) (by rfl) (fun w' hw => exec_loadC rfl rfl (run_loadVar_mid (P := Tryz.prog) w' b' (off' + k * 19) 91 u' _ (range_below hre5' hw hb5') Tryz.underlying91 rfl hiu')) hS rfl ?_
     simp only [nz]
     refine hs_t 8 24 (.bool true) rfl (by kernel_rfl) (by kernel_rfl) (by kernel_rfl) (by rfl) (fun w' hw => by have hc := hne w'; go_simp) hS rfl ?_
     simp only [nz]
     refine hs_done (by kernel_rfl) ?_
     go_wp2
     go_ret
     exact ⟨.inr ⟨rfl, fun hh => HN'.out HR.out hh⟩, hB5⟩
   ·have k1 : ¬ (k : Int) < rs.length := by omega
    have HE : Hid (rs = rs') := hide (List.ext_getElem HL.out (fun j hj hj' => HM.out j hj hj' (by omega)))
    clear HM
    go_wp2
    go_ret
    exact ⟨.inl ⟨rfl, HE.out⟩, hB⟩
theorem equalQ_anyB (a : Option Addr) (cap : Nat) (rs : List Rq) (a' : Option Addr) (cap' : Nat) (rs' : List Rq) (w : World) (h : RowsAt RqE w a rs) (h' : RowsAt RqE w a' rs') :
  Calls Tryz.prog 102 #[.slice a rs.length cap, .slice a' rs'.length cap'] w fun e w' => e = .returned (.bool (sameL Rq.B rs rs')) ∧ Below w.heap.size w w' := by
 refine (equalQ_any a cap rs a' cap' rs' w h h').mono ?_
 rintro e w1 ⟨hc, hb⟩
 have I := sameL_iff (fun x y => Rq.B_iff (x := x) (y := y)) rs rs'
 refine ⟨?_, hb⟩
 rcases hc with ⟨rfl, he⟩ | ⟨rfl, he⟩
 ·rw [I.2 he]
 ·cases hq : sameL Rq.B rs rs'
  ·rfl
  ·exact absurd (I.1 hq) he
theorem two_boxG (q q' : List Value) (t : TypeId) (w : World) : ((w.alloc (.cells q.toArray t)).alloc (.cells q'.toArray t)).rangeAt w.heap.size 0 q ∧ ((w.alloc (.cells q.toArray t)).alloc (.cells q'.toArray t)).rangeAt (w.heap.size + 1) 0 q' ∧ Below w.heap.size w ((w.alloc (.cells q.toArray t)).alloc (.cells q'.toArray t)) ∧ w.heap.size + 2 ≤ ((w.alloc (.cells q.toArray t)).alloc (.cells q'.toArray t)).heap.size := by
 have hB : Below w.heap.size w (w.alloc (.cells q.toArray t)) := (Below.refl _ _).alloc (Nat.le_refl _) _
 have hB2 : Below (w.alloc (.cells q.toArray t)).heap.size (w.alloc (.cells q.toArray t)) ((w.alloc (.cells q.toArray t)).alloc (.cells q'.toArray t)) := (Below.refl _ _).alloc (Nat.le_refl _) _
 have h1 := range_new w q.toArray t
 have h2 := range_new (w.alloc (.cells q.toArray t)) q'.toArray t
 rw [World.size_alloc] at h2
 exact ⟨range_below (by simpa using h1) hB2 (by simp), by simpa using h2, hB.trans (hB2.mono (by simp)), by simp⟩
structure Sl (α : Type) where
  a : Option Addr
  cap : Nat
  xs : List α
instance {α : Type} : Inhabited (Sl α) := ⟨⟨none, 0, []⟩⟩
def Sl.val {α : Type} (x : Sl α) : Value := .slice x.a x.xs.length x.cap
def Sl.At {α : Type} (E : El α) (w : World) (x : Sl α) : Prop := RowsAt E w x.a x.xs
theorem Sl.At.below {α : Type} {E : El α} {w w' : World} {x : Sl α} (h : x.At E w) (hb : Below w.heap.size w w') : x.At E w' := RowsAt.below h hb
def batB (q : Bool) (x : Sl Rq) (q' : Bool) (x' : Sl Rq) : Bool := (q == q') && sameL Rq.B x.xs x'.xs
set_option maxRecDepth 100000 in
set_option maxHeartbeats 2000000 in
theorem bsame_any (q : Bool) (x : Sl Rq) (q' : Bool) (x' : Sl Rq) (w : World) (h : x.At RqE w) (h' : x'.At RqE w) :
  Calls Tryz.prog 66 #[.agg #[.bool q, x.val], .agg #[.bool q', x'.val]] w fun e w' => e = .returned (.bool (batB q x q' x')) ∧ Below w.heap.size w w' := by
 obtain ⟨a, cap, rs⟩ := x
 obtain ⟨a', cap', rs'⟩ := x'
 have ce := fun w0 h0 h1 => equalQ_anyB a cap rs a' cap' rs' w0 h0 h1
 have hB : Below w.heap.size w ((w.alloc (.cells #[.bool q, .slice a rs.length cap] 24)).alloc (.cells #[.bool q', .slice a' rs'.length cap'] 24)) := ((Below.refl _ w).alloc (Nat.le_refl _) _).alloc (by simp) _
 have h1 : RowsAt RqE _ a rs := RowsAt.below h hB
 have h1' : RowsAt RqE _ a' rs' := RowsAt.below h' hB
 have E : batB q ⟨a, cap, rs⟩ q' ⟨a', cap', rs'⟩ = ((q == q') && sameL Rq.B rs rs') := rfl
 rw [E]
 clear E h h'
 simp only [Sl.val]
 generalize sameL Rq.B rs rs' = sb at *
 cases q <;> cases q'
 case false.true | true.false =>
  clear ce
  go_enter Tryz.func66, Tryz.ntmps66
  go_wp2
  go_ret
  exact ⟨rfl, hB⟩
 all_goals
  cases sb
  all_goals
   go_enter Tryz.func66, Tryz.ntmps66
   go_wp2_with fail
   refine (ce _ h1 h1').mono ?_
   rintro e w2 ⟨rfl, hb2⟩
   have hB2 := hB.trans (hb2.mono hB.size)
   clear ce h1 h1' hb2
   go_wp2
   go_ret
   exact ⟨rfl, hB2⟩
def certL (x : Vt) (s : Sl Sg) : List Value := x.cells ++ [s.val]
def certB (x : Vt) (s : Sl Sg) (y : Vt) (t : Sl Sg) : Bool := vtB x y && sameL Sg.B s.xs t.xs
theorem Sl.one {α : Type} (x : Sl α) : x.val.oneCell' = true := rfl
set_option maxRecDepth 100000 in
set_option maxHeartbeats 2000000 in
theorem scert_any (x y : Vt) (s t : Sl Sg) (w : World) (hx : x.ok) (hy : y.ok) (hs : s.At SgE w) (ht : t.At SgE w) : Calls Tryz.prog 69 #[.agg (certL x s).toArray, .agg (certL y t).toArray] w fun e w' => e = .returned (.bool (certB x s y t)) ∧ Below w.heap.size w w' := by
 obtain ⟨hA, hA', hB, hz⟩ := two_boxG (certL x s) (certL y t) 31 w
 have r1 := range_left hA
 have r1' := range_left hA'
 have c1 := range_right hA 0 _ rfl
 have c1' := range_right hA' 0 _ rfl
 rw [hx.len] at c1
 rw [hy.len] at c1'
 simp only [Nat.zero_add, Nat.add_zero] at c1 c1'
 have ix : (Tryz.prog.info? 28).map (·.size) = some x.cells.length := by rw [hx.len]; exact iszV
 have iy : (Tryz.prog.info? 28).map (·.size) = some y.cells.length := by rw [hy.len]; exact iszV
 have hq := eqInV x y hx.dl hy.dl
 obtain ⟨a, cap, rs⟩ := s
 obtain ⟨a', cap', rs'⟩ := t
 have ce := fun w0 h0 h1 => equalS_anyB a cap rs a' cap' rs' w0 h0 h1
 have h1 : RowsAt SgE _ a rs := RowsAt.below hs hB
 have h1' : RowsAt SgE _ a' rs' := RowsAt.below ht hB
 have E : certB x ⟨a, cap, rs⟩ y ⟨a', cap', rs'⟩ = (vtB x y && sameL Sg.B rs rs') := rfl
 rw [E]
 simp only [Sl.val] at c1 c1'
 clear hA hA' hz hx hy E hs ht
 generalize certL x ⟨a, cap, rs⟩ = q at *
 generalize certL y ⟨a', cap', rs'⟩ = q' at *
 generalize x.cells = u at *
 generalize y.cells = u' at *
 generalize vtB x y = vb at *
 generalize sameL Sg.B rs rs' = sb at *
 cases vb
 ·go_enter Tryz.func69, Tryz.ntmps69
  go_upto_region 1 with fail
  go_name_world w1 hw1
  rw [show (w.alloc (.cells q.toArray 31)).alloc (.cells q'.toArray 31) = w1 from hw1] at r1 r1' c1 c1' hB h1 h1'
  clear hw1 ce
  go_wp2_with (first | (refine wpList_load_mid rfl 28 _ rfl _ _ rfl u _ r1 Tryz.underlying28 rfl ix ?_) | (refine wpList_load_mid rfl 28 _ rfl _ _ rfl u' _ r1' Tryz.underlying28 rfl iy ?_))
  go_ret
  exact ⟨rfl, hB⟩
 ·cases sb
  all_goals
   go_enter Tryz.func69, Tryz.ntmps69
   go_upto_region 1 with fail
   go_name_world w1 hw1
   rw [show (w.alloc (.cells q.toArray 31)).alloc (.cells q'.toArray 31) = w1 from hw1] at r1 r1' c1 c1' hB h1 h1'
   clear hw1
   go_wp2_with (first | (refine wpList_load_mid rfl 28 _ rfl _ _ rfl u _ r1 Tryz.underlying28 rfl ix ?_) | (refine wpList_load_mid rfl 28 _ rfl _ _ rfl u' _ r1' Tryz.underlying28 rfl iy ?_))
   refine (ce _ h1 h1').mono ?_
   rintro e2 w2 ⟨rfl, hb2⟩
   have hB2 := hB.trans (hb2.mono hB.size)
   clear ce h1 h1' hb2 c1 c1' r1 r1'
   go_wp2
   go_ret
   exact ⟨rfl, hB2⟩
structure Hd where
  q : Bool
  rs : Sl Rq
  vt : Vt
  sg : Sl Sg
instance : Inhabited Hd := ⟨⟨false, default, Vt.zero, default⟩⟩
def Hd.cells (h : Hd) : List Value := .bool h.q :: h.rs.val :: certL h.vt h.sg
def HdE : El Hd where
  f := Hd.cells
  k := 39
  ok := fun h => h.vt.ok
  len := fun h hv => by have := hv.len; simp [Hd.cells, certL]; omega
  one := fun h v hv => by
    simp only [Hd.cells, certL, List.mem_cons, List.mem_append, List.not_mem_nil, or_false] at hv
    rcases hv with rfl | rfl | hv | rfl
    · rfl
    · rfl
    · exact Vt.one _ v hv
    · rfl
def Hd.At (w : World) (h : Hd) : Prop := h.rs.At RqE w ∧ h.sg.At SgE w
theorem Hd.At.below {w w' : World} {h : Hd} (k : h.At w) (hb : Below w.heap.size w w') : h.At w' := ⟨k.1.below hb, k.2.below hb⟩
def Hd.B (h g : Hd) : Bool := batB h.q h.rs g.q g.rs && certB h.vt h.sg g.vt g.sg
theorem iszH : (Tryz.prog.info? 134).map (·.size) = some 39 := by kernel_rfl
set_option maxRecDepth 100000 in
set_option maxHeartbeats 2000000 in
theorem sheld_any (h g : Hd) (w : World) (kh : h.vt.ok) (kg : g.vt.ok) (ah : h.At w) (ag : g.At w) : Calls Tryz.prog 104 #[.agg h.cells.toArray, .agg g.cells.toArray] w fun e w' => e = .returned (.bool (Hd.B h g)) ∧ Below w.heap.size w w' := by
 obtain ⟨hA, hA', hB, hz⟩ := two_boxG h.cells g.cells 134 w
 have c0 := hA 0 _ rfl
 have c1 := hA 1 _ rfl
 have c0' := hA' 0 _ rfl
 have c1' := hA' 1 _ rfl
 simp only [Nat.zero_add, Nat.add_zero] at c0 c1 c0' c1'
 have rc : World.rangeAt _ w.heap.size 2 (certL h.vt h.sg) := range_right (cs := [.bool h.q, h.rs.val]) hA
 have rc' : World.rangeAt _ (w.heap.size + 1) 2 (certL g.vt g.sg) := range_right (cs := [.bool g.q, g.rs.val]) hA'
 have ic : (Tryz.prog.info? 31).map (·.size) = some (certL h.vt h.sg).length := by rw [show (certL h.vt h.sg).length = 37 by simp [certL, kh.len]]; exact iszC
 have ic' : (Tryz.prog.info? 31).map (·.size) = some (certL g.vt g.sg).length := by rw [show (certL g.vt g.sg).length = 37 by simp [certL, kg.len]]; exact iszC
 have h1 := ah.below hB
 have g1 := ag.below hB
 have cb := fun w0 k1 k2 => bsame_any h.q h.rs g.q g.rs w0 k1 k2
 have cc := fun w0 k1 k2 => scert_any h.vt g.vt h.sg g.sg w0 kh kg k1 k2
 unfold Hd.B
 obtain ⟨W, hW⟩ : ∃ W, Hid ((w.alloc (.cells h.cells.toArray 134)).alloc (.cells g.cells.toArray 134) = W) := ⟨_, hide rfl⟩
 rw [hW.out] at c0 c1 c0' c1' rc rc' hB hz h1 g1
 generalize h.cells = q at *
 generalize g.cells = q' at *
 generalize certL h.vt h.sg = u at *
 generalize certL g.vt g.sg = u' at *
 generalize batB h.q h.rs g.q g.rs = b1 at *
 generalize certB h.vt h.sg g.vt g.sg = b2 at *
 obtain ⟨hrq, hrs⟩ := h1
 obtain ⟨grq, grs⟩ := g1
 have B1 := cb W hrq grq
 obtain ⟨_, ⟨a, cap, rs⟩, _, sg⟩ := h
 obtain ⟨_, ⟨a', cap', rs'⟩, _, sg'⟩ := g
 simp only [Sl.val] at c1 c1' B1
 clear hA hA' kh kg ah ag cb hrq grq
 cases b1
 ·go_enter Tryz.func104, Tryz.ntmps104
  go_upto_region 1 with fail
  go_name_world w1 hw1
  obtain rfl : W = w1 := hW.out.symm.trans hw1
  clear hw1 hW cc
  go_wp2_with fail
  refine B1.mono ?_
  rintro e2 w2 ⟨rfl, hb2⟩
  have hB2 := hB.trans (hb2.mono (by omega))
  clear B1 c0 c1 c0' c1' rc rc' hb2
  go_wp2
  go_ret
  exact ⟨rfl, hB2⟩
 ·cases b2
  all_goals
   go_enter Tryz.func104, Tryz.ntmps104
   go_upto_region 1 with fail
   go_name_world w1 hw1
   obtain rfl : W = w1 := hW.out.symm.trans hw1
   clear hw1 hW
   go_wp2_with fail
   refine B1.mono ?_
   rintro e2 w2 ⟨rfl, hb2⟩
   have hB2 := hB.trans (hb2.mono (by omega))
   have C2 := cc w2 (hrs.below hb2) (grs.below hb2)
   have rc2 := range_below rc hb2 (by omega)
   have rc2' := range_below rc' hb2 (by omega)
   clear B1 c0 c1 c0' c1' rc rc' hb2 cc hrs grs
   go_wp2_with (first | (refine wpList_load_g (by rfl) 31 _ rfl _ _ rfl u _ rc2 Tryz.underlying31 rfl ic ?_) | (refine wpList_load_g (by rfl) 31 _ rfl _ _ rfl u' _ rc2' Tryz.underlying31 rfl ic' ?_))
   refine C2.mono ?_
   rintro e3 w3 ⟨rfl, hb3⟩
   have hB3 := hB2.trans (hb3.mono hB2.size)
   clear C2 rc2 rc2' hb3
   go_wp2
   go_ret
   exact ⟨rfl, hB3⟩
def Hd.zero : Hd := ⟨false, ⟨none, 0, []⟩, Vt.zero, ⟨none, 0, []⟩⟩
def HdsAt (w : World) (x : Sl Hd) : Prop := x.At HdE w ∧ ∀ h ∈ x.xs, h.At w
theorem HdsAt.below {w w' : World} {x : Sl Hd} (k : HdsAt w x) (hb : Below w.heap.size w w') : HdsAt w' x := ⟨k.1.below hb, fun h hh => (k.2 h hh).below hb⟩
theorem sameL_false {α : Type} {B : α → α → Bool} : ∀ {xs ys : List α}, xs.length ≠ ys.length → sameL B xs ys = false
 | [], [], h => absurd rfl h
 | _ :: _, [], _ => rfl
 | [], _ :: _, _ => rfl
 | _ :: xs, _ :: ys, h => by
  have := sameL_false (B := B) (xs := xs) (ys := ys) (fun e => h (by simp [e]))
  simp [sameL, this]
theorem sameL_all {α : Type} [Inhabited α] {B : α → α → Bool} : ∀ {xs ys : List α}, xs.length = ys.length → (∀ i, i < xs.length → B (xs.getD i default) (ys.getD i default) = true) → sameL B xs ys = true
 | [], [], _, _ => rfl
 | x :: xs, y :: ys, h, k => by
  have h0 := k 0 (by simp)
  have := sameL_all (B := B) (xs := xs) (ys := ys) (by simpa using h) (fun i hi => by have := k (i + 1) (by simp; omega); simpa using this)
  simp only [List.getD_cons_zero] at h0
  simp [sameL, this, h0]
theorem sameL_not {α : Type} [Inhabited α] {B : α → α → Bool} : ∀ {xs ys : List α} (i : Nat), i < xs.length → xs.length = ys.length → B (xs.getD i default) (ys.getD i default) = false → sameL B xs ys = false
 | x :: xs, y :: ys, 0, _, _, k => by
  simp only [List.getD_cons_zero] at k
  simp [sameL, k]
 | x :: xs, y :: ys, i + 1, hi, h, k => by
  have := sameL_not (B := B) (xs := xs) (ys := ys) i (by simpa using hi) (by simpa using h) (by simpa using k)
  simp [sameL, this]
set_option maxRecDepth 100000 in
set_option maxHeartbeats 4000000 in
theorem eqHeld_any (x y : Sl Hd) (w : World) (hx : HdsAt w x) (hy : HdsAt w y) :
  Calls Tryz.prog 103 #[x.val, y.val, .func (.func 104) #[] #[]] w fun e w' => e = .returned (.bool (sameL Hd.B x.xs y.xs)) ∧ Below w.heap.size w w' := by
 obtain ⟨a, cap, xs⟩ := x
 obtain ⟨a', cap', ys⟩ := y
 have hml : xs.length ≤ maxLen := hx.1.1
 have hml' : ys.length ≤ maxLen := hy.1.1
 unfold maxLen at hml hml'
 simp only [Sl.val]
 by_cases hlen : xs.length = ys.length
 rotate_left
 ·rw [sameL_false hlen]
  have e0 : ((xs.length : Int) == ys.length) = false := by simp; omega
  clear hlen
  go_enter Tryz.func103, Tryz.ntmps103
  go_wp2
  go_ret
  exact ⟨rfl, Below.refl _ _⟩
 ·have e0 : ((xs.length : Int) == ys.length) = true := by simp; omega
  have HL := hide hlen
  clear hlen
  obtain ⟨sb, hsb⟩ : ∃ sb, Hid (sameL Hd.B xs ys = sb) := ⟨_, hide rfl⟩
  rw [hsb.out]
  go_enter Tryz.func103, Tryz.ntmps103
  go_wp2
  go_loopw [17] (fun iv wr' => ∃ k : Nat, k ≤ xs.length ∧ iv = .int .i64 (k : Int) ∧ Hid (∀ j, j < k → Hd.B (xs.getD j default) (ys.getD j default) = true) ∧ Below w.heap.size w wr') (fun iv _ => xs.length - (intOf iv).toNat)
  case atStart => exact ⟨0, by omega, rfl, hide (fun j hj => absurd hj (by omega)), Below.refl _ _⟩
  case round =>
   clear e0
   rename ((xs.length : Int) != (ys.length : Int)) = false => hne0
   clear hne0
   obtain ⟨k, hk, rfl, HM, hB⟩ := hrel
   by_cases hlt : k < xs.length
   ·have k1 : (k : Int) < xs.length := by omega
    have hlt' : k < ys.length := by have := HL.out; omega
    have k1' : (k : Int) < ys.length := by omega
    obtain ⟨b, off, rfl, hb, hre⟩ := RowsAt.elem (hx.1.below hB) k hlt
    obtain ⟨b', off', rfl, hb', hre'⟩ := RowsAt.elem (hy.1.below hB) k hlt'
    have hre : wr.rangeAt b (off + k * 39) xs[k].cells := hre
    have hre' : wr.rangeAt b' (off' + k * 39) ys[k].cells := hre'
    have hgx : xs.getD k default = xs[k] := by rw [List.getD_eq_getElem?_getD, List.getElem?_eq_getElem hlt]; rfl
    have hgy : ys.getD k default = ys[k] := by rw [List.getD_eq_getElem?_getD, List.getElem?_eq_getElem hlt']; rfl
    have okx : xs[k].vt.ok := hx.1.2.1 _ (List.getElem_mem hlt)
    have oky : ys[k].vt.ok := hy.1.2.1 _ (List.getElem_mem hlt')
    have atx := (hx.2 _ (List.getElem_mem hlt)).below hB
    have aty := (hy.2 _ (List.getElem_mem hlt')).below hB
    obtain ⟨gx, hX⟩ : ∃ g, Hid (xs[k] = g) := ⟨_, hide rfl⟩
    obtain ⟨gy, hY⟩ : ∃ g, Hid (ys[k] = g) := ⟨_, hide rfl⟩
    rw [hX.out] at hre hgx okx atx
    rw [hY.out] at hre' hgy oky aty
    clear hX hY
    have HT : Hid (Hd.B gx gy = true → ∀ j, j < k + 1 → Hd.B (xs.getD j default) (ys.getD j default) = true) := hide (fun hp j hj => by
     by_cases e : j = k
     ·subst e; rw [hgx, hgy]; exact hp
     ·exact HM.out j (by omega))
    have HF : Hid (Hd.B gx gy = false → sb = false) := hide (fun hp => by
     rw [← hsb.out]
     exact sameL_not k hlt HL.out (by rw [hgx, hgy]; exact hp))
    have lu : gx.cells.length = 39 := HdE.len _ okx
    have lu' : gy.cells.length = 39 := HdE.len _ oky
    have ou : gx.cells.toArray.all (·.oneCell') = true := all_oneCell_toArray (HdE.one gx)
    have ou' : gy.cells.toArray.all (·.oneCell') = true := all_oneCell_toArray (HdE.one gy)
    have cs := fun (w0 : World) (hb : Below wr.heap.size wr w0) => sheld_any gx gy w0 okx oky (atx.below hb) (aty.below hb)
    generalize gx.cells = u at *
    generalize gy.cells = u' at *
    generalize Hd.B gx gy = hb1 at *
    clear hgx hgy HM okx oky atx aty
    have iu : (Tryz.prog.info? 134).map (·.size) = some u.length := by rw [lu]; exact iszH
    have iu' : (Tryz.prog.info? 134).map (·.size) = some u'.length := by rw [lu']; exact iszH
    have iA : (Tryz.prog.info? 134).map (·.size) = some u.toArray.size := by rw [List.size_toArray, lu]; exact iszH
    have iA' : (Tryz.prog.info? 134).map (·.size) = some u'.toArray.size := by rw [List.size_toArray, lu']; exact iszH
    have zl : Hd.zero.cells.toArray.size = 39 := rfl
    obtain ⟨r5, hB5, hs5, _⟩ := fresh_store wr Hd.zero.cells.toArray 134 u (by rw [lu]; rfl)
    have hT5 : (wr.alloc (.cells Hd.zero.cells.toArray 134)).there wr.heap.size 0 u.toArray.size := by
     have := there_new wr Hd.zero.cells.toArray 134
     rw [zl] at this
     rw [show u.toArray.size = 39 by simpa using lu]
     exact this
    go_upto_region 6 with (first | (refine wpList_load_mid rfl 134 _ rfl _ _ rfl u _ hre Tryz.underlying134 rfl iu ?_) | (refine wpList_store_mid rfl 134 _ _ rfl _ _ u.toArray rfl rfl hT5 iA ou ?_))
    go_name_world w5 hw5
    rw [show (wr.alloc (.cells Hd.zero.cells.toArray 134)).setCells wr.heap.size 0 u = w5 from hw5] at r5 hB5 hs5
    have hs5' : wr.heap.size < w5.heap.size := by omega
    clear hw5 hs5 hT5 hre
    have hre5' := range_below hre' hB5 hb'
    obtain ⟨r6, hB6, hs6, _⟩ := fresh_store w5 Hd.zero.cells.toArray 134 u' (by rw [lu']; rfl)
    have hT6 : (w5.alloc (.cells Hd.zero.cells.toArray 134)).there w5.heap.size 0 u'.toArray.size := by
     have := there_new w5 Hd.zero.cells.toArray 134
     rw [zl] at this
     rw [show u'.toArray.size = 39 by simpa using lu']
     exact this
    go_upto_region 7 with (first | (refine wpList_load_mid rfl 134 _ rfl _ _ rfl u' _ hre5' Tryz.underlying134 rfl iu' ?_) | (refine wpList_store_mid rfl 134 _ _ rfl _ _ u'.toArray rfl rfl hT6 iA' ou' ?_))
    go_name_world w6 hw6
    rw [show (w5.alloc (.cells Hd.zero.cells.toArray 134)).setCells w5.heap.size 0 u' = w6 from hw6] at r6 hB6 hs6
    clear hw6 hT6 hre5' hre' hs6
    have r56 := range_below r5 hB6 hs5'
    have hBB := hB5.trans (hB6.mono (by omega))
    have c7 := cs w6 hBB
    have hB7 := hB.trans (hBB.mono hB.size)
    clear cs hB5 hB6 r5 hBB
    go_wp2_with (first | (refine wpList_load_mid rfl 134 _ rfl _ _ rfl u _ r56 Tryz.underlying134 rfl iu ?_) | (refine wpList_load_mid rfl 134 _ rfl _ _ rfl u' _ r6 Tryz.underlying134 rfl iu' ?_))
    refine c7.mono ?_
    rintro e8 w8 ⟨rfl, hb8⟩
    have hB8 := hB7.trans (hb8.mono hB7.size)
    clear c7 hb8 r56 r6 hB7
    cases hb1
    ·have HF' := HF.out rfl
     clear HF HT hsb
     go_wp2
     go_ret
     exact ⟨by rw [HF']; rfl, hB8⟩
    ·have HT' := hide (HT.out rfl)
     clear HF HT
     go_wp2
     go_roundw
     case rel => exact ⟨k + 1, by omega, by go_num, HT', hB8⟩
     case measure => simp [intOf]; omega
   ·have k1 : ¬ (k : Int) < xs.length := by omega
    have HE : Hid (sb = true) := hide (by
     rw [← hsb.out]
     exact sameL_all HL.out (fun j hj => HM.out j (by omega)))
    clear HM hsb
    go_wp2
    go_ret
    exact ⟨by rw [HE.out]; rfl, hB⟩
def chgL (a b c : Int) (x : Sl Hd) : Array Value := #[.int .i64 a, .int .i64 b, .int .i64 c, x.val]
def chgB (a b c : Int) (x : Sl Hd) (a' b' c' : Int) (y : Sl Hd) : Bool := ((a == a') && ((b == b') && (c == c'))) && sameL Hd.B x.xs y.xs
set_option maxRecDepth 100000 in
set_option maxHeartbeats 4000000 in
theorem schg_any (a b c : Int) (x : Sl Hd) (a' b' c' : Int) (y : Sl Hd) (w : World) (hx : HdsAt w x) (hy : HdsAt w y) :
  Calls Tryz.prog 67 #[.agg (chgL a b c x), .agg (chgL a' b' c' y)] w fun e w' => e = .returned (.bool (chgB a b c x a' b' c' y)) ∧ Below w.heap.size w w' := by
 have hB : Below w.heap.size w ((w.alloc (.cells (chgL a b c x) 60)).alloc (.cells (chgL a' b' c' y) 60)) := ((Below.refl _ w).alloc (Nat.le_refl _) _).alloc (by simp) _
 have ce := eqHeld_any x y _ (hx.below hB) (hy.below hB)
 unfold chgB
 unfold chgL at hB ce ⊢
 generalize sameL Hd.B x.xs y.xs = sb at *
 obtain ⟨xa, xc, xs⟩ := x
 obtain ⟨ya, yc, ys⟩ := y
 simp only [Sl.val] at hB ce ⊢
 clear hx hy
 by_cases h1 : a = a'
 rotate_left
 ·rw [show (a == a') = false from beq_eq_false_iff_ne.2 h1]
  have n1 : (a != a') = true := bne_iff_ne.2 h1
  clear h1 ce
  go_enter Tryz.func67, Tryz.ntmps67
  go_wp2
  go_ret
  exact ⟨rfl, hB⟩
 ·subst h1
  by_cases h2 : b = b'
  rotate_left
  ·rw [show (b == b') = false from beq_eq_false_iff_ne.2 h2]
   have n1 : (b != b') = true := bne_iff_ne.2 h2
   clear h2 ce
   go_enter Tryz.func67, Tryz.ntmps67
   go_wp2
   go_ret
   exact ⟨by simp, hB⟩
  ·subst h2
   by_cases h3 : c = c'
   rotate_left
   ·rw [show (c == c') = false from beq_eq_false_iff_ne.2 h3]
    have n1 : (c != c') = true := bne_iff_ne.2 h3
    clear h3 ce
    go_enter Tryz.func67, Tryz.ntmps67
    go_wp2
    go_ret
    exact ⟨by simp, hB⟩
   ·subst h3
    have E : (((a == a) && ((b == b) && (c == c))) && sb) = sb := by simp
    rw [E]
    clear E
    go_enter Tryz.func67, Tryz.ntmps67
    go_wp2_with fail
    refine ce.mono ?_
    rintro e2 w2 ⟨rfl, hb2⟩
    have hB2 := hB.trans (hb2.mono hB.size)
    clear ce hb2
    go_wp2
    go_ret
    exact ⟨rfl, hB2⟩
theorem wpList_neqs {P : Program} {ops : Array Oper} {rest : List Oper} {op : Oper} {a : Act} {w : World} {Q : Exit → Act → World → Prop} (hgd : Region.wanted op (yielded ops a.tmps) = true) (t t2 : TypeId) (x y : Operand) (ho : op.op = .binOp .neq t x y t2) (sa sb : ByteArray) (hx : a.eval x = .string sa) (hy : a.eval y = .string sb) (b : Bool) (hb : (sa.toList != sb.toList) = b)
  (h : wpList P ops Q rest (a.put op.dst (.bool b)) w) : wpList P ops Q (op :: rest) a w :=
 wpList_step fun K hK => by
  rw [if_pos hgd]
  unfold Oper.wp execOp
  subst hb
  simp only [ho, hx, hy, binOp_string_neq, Sem.run_bind, Sem.run_pure]
  exact hK _ _ h
structure Mg where
  k : Int
  e : Int
  l : Int
  v : Int
  s : Int
  q : Bool
  rs : Sl Rq
  vt : Vt
  ce : Int
  cl : Int
  cv : Int
  he : Sl Hd
  ne : Sl Ev
  d : List Int
  ct : Vt
  cs : Sl Sg
  st : ByteArray
  sg : Sl Sg
def Mg.ms (m : Mg) : Ms := ⟨m.k, m.e, m.l, m.v, m.s, m.q, m.rs.val, m.vt, m.ce, m.cl, m.cv, m.he.val, m.ne.val, m.d, m.ct, m.cs.val, m.st, m.sg.val⟩
structure Mg.ok (m : Mg) : Prop where
  vt : m.vt.ok
  ct : m.ct.ok
  dl : m.d.length = 32
  db : ∀ z ∈ m.d, 0 ≤ z ∧ z < 256
theorem Mg.ok.ms {m : Mg} (h : m.ok) : m.ms.ok := ⟨h.vt, h.ct, h.dl, h.db, rfl, rfl, rfl, rfl, rfl⟩
structure Mg.At (m : Mg) (w : World) : Prop where
  rs : m.rs.At RqE w
  he : HdsAt w m.he
  ne : m.ne.At EvE w
  cs : m.cs.At SgE w
  sg : m.sg.At SgE w
theorem Mg.At.below {m : Mg} {w w' : World} (h : m.At w) (hb : Below w.heap.size w w') : m.At w' := ⟨h.rs.below hb, h.he.below hb, h.ne.below hb, h.cs.below hb, h.sg.below hb⟩
def Mg.nB (a b : Mg) : Bool := (a.k == b.k) && ((a.e == b.e) && ((a.l == b.l) && ((a.v == b.v) && (a.s == b.s))))
def Mg.fB (a b : Mg) : Bool := vtB a.vt b.vt && ((a.d == b.d) && (a.st.toList == b.st.toList))
def Mg.lB (a b : Mg) : Bool := batB a.q a.rs b.q b.rs && (chgB a.ce a.cl a.cv a.he b.ce b.cl b.cv b.he && (sameL Ev.B a.ne.xs b.ne.xs && (certB a.ct a.cs b.ct b.cs && sameL Sg.B a.sg.xs b.sg.xs)))
def Mg.B (a b : Mg) : Bool := Mg.nB a b && (Mg.fB a b && Mg.lB a b)
set_option maxRecDepth 100000 in
set_option maxHeartbeats 8000000 in
theorem msame_any (a b : Mg) (w : World) (oa : a.ok) (ob : b.ok) (ha : a.At w) (hb : b.At w) : Calls Tryz.prog 30 #[.agg a.ms.cells.toArray, .agg b.ms.cells.toArray] w fun er w' => er = .returned (.bool (Mg.B a b)) ∧ Below w.heap.size w w' := by
 obtain ⟨hA, hA', hB, hs⟩ := two_boxG a.ms.cells b.ms.cells 63 w
 obtain ⟨W, hW⟩ : ∃ W, Hid ((w.alloc (.cells a.ms.cells.toArray 63)).alloc (.cells b.ms.cells.toArray 63) = W) := ⟨_, hide rfl⟩
 rw [hW.out] at hA hA' hB hs
 have M := oa.ms.at hA
 have M' := ob.ms.at hA'
 have ix : (Tryz.prog.info? 28).map (·.size) = some a.vt.cells.length := by rw [oa.vt.len]; exact iszV
 have iy : (Tryz.prog.info? 28).map (·.size) = some b.vt.cells.length := by rw [ob.vt.len]; exact iszV
 have id : (Tryz.prog.info? 26).map (·.size) = some (v8 a.d).length := by rw [v8_length, oa.dl]; exact iszD
 have id' : (Tryz.prog.info? 26).map (·.size) = some (v8 b.d).length := by rw [v8_length, ob.dl]; exact iszD
 have ic : (Tryz.prog.info? 31).map (·.size) = some (certL a.ct a.cs).length := by rw [show (certL a.ct a.cs).length = 37 by simp [certL, oa.ct.len]]; exact iszC
 have ic' : (Tryz.prog.info? 31).map (·.size) = some (certL b.ct b.cs).length := by rw [show (certL b.ct b.cs).length = 37 by simp [certL, ob.ct.len]]; exact iszC
 have hq := eqInV a.vt b.vt oa.vt.dl ob.vt.dl
 have hq2 := eqInD a.d b.d oa.dl ob.dl
 have gB := fun w0 k1 k2 => bsame_any a.q a.rs b.q b.rs w0 k1 k2
 have gC := fun w0 k1 k2 => schg_any a.ce a.cl a.cv a.he b.ce b.cl b.cv b.he w0 k1 k2
 have gN := fun w0 k1 k2 => equalE_anyB a.ne.a a.ne.cap a.ne.xs b.ne.a b.ne.cap b.ne.xs w0 k1 k2
 have gT := fun w0 k1 k2 => scert_any a.ct b.ct a.cs b.cs w0 oa.ct ob.ct k1 k2
 have gS := fun w0 k1 k2 => equalS_anyB a.sg.a a.sg.cap a.sg.xs b.sg.a b.sg.cap b.sg.xs w0 k1 k2
 have a1 := ha.below hB
 have b1 := hb.below hB
 have cK : W.cell? ⟨w.heap.size, 0, none⟩ = some (.int .i64 a.k) := M.k
 have cE : W.cell? ⟨w.heap.size, 1, none⟩ = some (.int .i64 a.e) := M.e
 have cL : W.cell? ⟨w.heap.size, 2, none⟩ = some (.int .i64 a.l) := M.l
 have cV : W.cell? ⟨w.heap.size, 3, none⟩ = some (.int .i64 a.v) := M.v
 have cS : W.cell? ⟨w.heap.size, 4, none⟩ = some (.int .i64 a.s) := M.s
 have cQ : W.cell? ⟨w.heap.size, 5, none⟩ = some (.bool a.q) := M.q
 have cR : W.cell? ⟨w.heap.size, 6, none⟩ = some (.slice a.rs.a a.rs.xs.length a.rs.cap) := M.rs
 have c1 : W.cell? ⟨w.heap.size, 43, none⟩ = some (.int .i64 a.ce) := M.ce
 have c2 : W.cell? ⟨w.heap.size, 44, none⟩ = some (.int .i64 a.cl) := M.cl
 have c3 : W.cell? ⟨w.heap.size, 45, none⟩ = some (.int .i64 a.cv) := M.cv
 have cH : W.cell? ⟨w.heap.size, 46, none⟩ = some (.slice a.he.a a.he.xs.length a.he.cap) := M.he
 have cN : W.cell? ⟨w.heap.size, 47, none⟩ = some (.slice a.ne.a a.ne.xs.length a.ne.cap) := M.ne
 have cT : W.cell? ⟨w.heap.size, 117, none⟩ = some (.string a.st) := M.st
 have cG : W.cell? ⟨w.heap.size, 118, none⟩ = some (.slice a.sg.a a.sg.xs.length a.sg.cap) := M.sg
 have rV : W.rangeAt (w.heap.size) 7 a.vt.cells := M.vt
 have rD : W.rangeAt (w.heap.size) 48 (v8 a.d) := M.d
 have rC : W.rangeAt (w.heap.size) 80 (certL a.ct a.cs) := M.ct
 have cK' : W.cell? ⟨w.heap.size + 1, 0, none⟩ = some (.int .i64 b.k) := M'.k
 have cE' : W.cell? ⟨w.heap.size + 1, 1, none⟩ = some (.int .i64 b.e) := M'.e
 have cL' : W.cell? ⟨w.heap.size + 1, 2, none⟩ = some (.int .i64 b.l) := M'.l
 have cV' : W.cell? ⟨w.heap.size + 1, 3, none⟩ = some (.int .i64 b.v) := M'.v
 have cS' : W.cell? ⟨w.heap.size + 1, 4, none⟩ = some (.int .i64 b.s) := M'.s
 have cQ' : W.cell? ⟨w.heap.size + 1, 5, none⟩ = some (.bool b.q) := M'.q
 have cR' : W.cell? ⟨w.heap.size + 1, 6, none⟩ = some (.slice b.rs.a b.rs.xs.length b.rs.cap) := M'.rs
 have c1' : W.cell? ⟨w.heap.size + 1, 43, none⟩ = some (.int .i64 b.ce) := M'.ce
 have c2' : W.cell? ⟨w.heap.size + 1, 44, none⟩ = some (.int .i64 b.cl) := M'.cl
 have c3' : W.cell? ⟨w.heap.size + 1, 45, none⟩ = some (.int .i64 b.cv) := M'.cv
 have cH' : W.cell? ⟨w.heap.size + 1, 46, none⟩ = some (.slice b.he.a b.he.xs.length b.he.cap) := M'.he
 have cN' : W.cell? ⟨w.heap.size + 1, 47, none⟩ = some (.slice b.ne.a b.ne.xs.length b.ne.cap) := M'.ne
 have cT' : W.cell? ⟨w.heap.size + 1, 117, none⟩ = some (.string b.st) := M'.st
 have cG' : W.cell? ⟨w.heap.size + 1, 118, none⟩ = some (.slice b.sg.a b.sg.xs.length b.sg.cap) := M'.sg
 have rV' : W.rangeAt (w.heap.size + 1) 7 b.vt.cells := M'.vt
 have rD' : W.rangeAt (w.heap.size + 1) 48 (v8 b.d) := M'.d
 have rC' : W.rangeAt (w.heap.size + 1) 80 (certL b.ct b.cs) := M'.ct
 unfold chgL at gC
 simp only [Sl.val] at gB gC
 unfold Mg.B Mg.nB Mg.fB Mg.lB
 have A1 := a1.rs
 have A2 := a1.he
 have A3 : RowsAt EvE W a.ne.a a.ne.xs := a1.ne
 have A4 := a1.cs
 have A5 : RowsAt SgE W a.sg.a a.sg.xs := a1.sg
 have B1 := b1.rs
 have B2 := b1.he
 have B3 : RowsAt EvE W b.ne.a b.ne.xs := b1.ne
 have B4 := b1.cs
 have B5 : RowsAt SgE W b.sg.a b.sg.xs := b1.sg
 clear hA hA' M M' oa ob ha hb a1 b1
 generalize batB a.q a.rs b.q b.rs = b1 at *
 generalize chgB a.ce a.cl a.cv a.he b.ce b.cl b.cv b.he = b2 at *
 generalize sameL Ev.B a.ne.xs b.ne.xs = b3 at *
 generalize certB a.ct a.cs b.ct b.cs = b4 at *
 generalize sameL Sg.B a.sg.xs b.sg.xs = b5 at *
 generalize a.ms.cells = q at *
 generalize b.ms.cells = q' at *
 generalize hgu : a.vt.cells = u at *
 generalize hgu' : b.vt.cells = u' at *
 generalize hgd : v8 a.d = ud at *
 generalize hgd' : v8 b.d = ud' at *
 generalize certL a.ct a.cs = uc at *
 generalize certL b.ct b.cs = uc' at *
 generalize vtB a.vt b.vt = vb at *
 generalize (a.d == b.d) = db at *
 clear hgu hgu' hgd hgd'
 obtain ⟨k, e, l, v, s, qq, ⟨ra, rc, rx⟩, vt, ce, cl, cv, ⟨ha, hc, hx⟩, ⟨na, nc, nx⟩, d, ct, cs, st, ⟨ga, gc, gx⟩⟩ := a
 obtain ⟨k', e', l', v', s', qq', ⟨ra', rc', rx'⟩, vt', ce', cl', cv', ⟨ha', hc', hx'⟩, ⟨na', nc', nx'⟩, d', ct', cs', st', ⟨ga', gc', gx'⟩⟩ := b
 simp only at *
 by_cases h_k : k = k'
 rotate_left
 ·rw [show (k == k') = false from beq_eq_false_iff_ne.2 h_k]
  have n1 : (k != k') = true := bne_iff_ne.2 h_k
  clear h_k rV rV' rD rD' cT cT' hq hq2 ix iy id id'
  clear gB gC gN gT gS A1 A2 A3 A4 A5 B1 B2 B3 B4 B5 rC rC' cQ cR cQ' cR' c1 c2 c3 cH c1' c2' c3' cH' cN cN' cG cG' ic ic'
  go_enter Tryz.func30, Tryz.ntmps30
  go_upto_region 1 with fail
  go_name_world w1 hw1
  obtain rfl : W = w1 := hW.out.symm.trans hw1
  clear hw1 hW
  go_wp2
  go_ret
  exact ⟨by simp, hB⟩
 ·subst h_k
  by_cases h_e : e = e'
  rotate_left
  ·rw [show (e == e') = false from beq_eq_false_iff_ne.2 h_e]
   have n1 : (e != e') = true := bne_iff_ne.2 h_e
   clear h_e rV rV' rD rD' cT cT' hq hq2 ix iy id id'
   clear gB gC gN gT gS A1 A2 A3 A4 A5 B1 B2 B3 B4 B5 rC rC' cQ cR cQ' cR' c1 c2 c3 cH c1' c2' c3' cH' cN cN' cG cG' ic ic'
   go_enter Tryz.func30, Tryz.ntmps30
   go_upto_region 1 with fail
   go_name_world w1 hw1
   obtain rfl : W = w1 := hW.out.symm.trans hw1
   clear hw1 hW
   go_wp2
   go_ret
   exact ⟨by simp, hB⟩
  ·subst h_e
   by_cases h_l : l = l'
   rotate_left
   ·rw [show (l == l') = false from beq_eq_false_iff_ne.2 h_l]
    have n1 : (l != l') = true := bne_iff_ne.2 h_l
    clear h_l rV rV' rD rD' cT cT' hq hq2 ix iy id id'
    clear gB gC gN gT gS A1 A2 A3 A4 A5 B1 B2 B3 B4 B5 rC rC' cQ cR cQ' cR' c1 c2 c3 cH c1' c2' c3' cH' cN cN' cG cG' ic ic'
    go_enter Tryz.func30, Tryz.ntmps30
    go_upto_region 1 with fail
    go_name_world w1 hw1
    obtain rfl : W = w1 := hW.out.symm.trans hw1
    clear hw1 hW
    go_wp2
    go_ret
    exact ⟨by simp, hB⟩
   ·subst h_l
    by_cases h_v : v = v'
    rotate_left
    ·rw [show (v == v') = false from beq_eq_false_iff_ne.2 h_v]
     have n1 : (v != v') = true := bne_iff_ne.2 h_v
     clear h_v rV rV' rD rD' cT cT' hq hq2 ix iy id id'
     clear gB gC gN gT gS A1 A2 A3 A4 A5 B1 B2 B3 B4 B5 rC rC' cQ cR cQ' cR' c1 c2 c3 cH c1' c2' c3' cH' cN cN' cG cG' ic ic'
     go_enter Tryz.func30, Tryz.ntmps30
     go_upto_region 1 with fail
     go_name_world w1 hw1
     obtain rfl : W = w1 := hW.out.symm.trans hw1
     clear hw1 hW
     go_wp2
     go_ret
     exact ⟨by simp, hB⟩
    ·subst h_v
     by_cases h_s : s = s'
     rotate_left
     ·rw [show (s == s') = false from beq_eq_false_iff_ne.2 h_s]
      have n1 : (s != s') = true := bne_iff_ne.2 h_s
      clear h_s rV rV' rD rD' cT cT' hq hq2 ix iy id id'
      clear gB gC gN gT gS A1 A2 A3 A4 A5 B1 B2 B3 B4 B5 rC rC' cQ cR cQ' cR' c1 c2 c3 cH c1' c2' c3' cH' cN cN' cG cG' ic ic'
      go_enter Tryz.func30, Tryz.ntmps30
      go_upto_region 1 with fail
      go_name_world w1 hw1
      obtain rfl : W = w1 := hW.out.symm.trans hw1
      clear hw1 hW
      go_wp2
      go_ret
      exact ⟨by simp, hB⟩
     ·subst h_s
      have EN : ((k == k) && ((e == e) && ((l == l) && ((v == v) && (s == s))))) = true := by simp
      rw [EN, Bool.true_and]
      clear EN
      cases vb
      ·rw [Bool.false_and, Bool.false_and]
       clear cT cT' hq2 id id' rD rD'
       clear gB gC gN gT gS A1 A2 A3 A4 A5 B1 B2 B3 B4 B5 rC rC' cQ cR cQ' cR' c1 c2 c3 cH c1' c2' c3' cH' cN cN' cG cG' ic ic'
       go_enter Tryz.func30, Tryz.ntmps30
       go_upto_region 1 with fail
       go_name_world w1 hw1
       obtain rfl : W = w1 := hW.out.symm.trans hw1
       clear hw1 hW
       go_upto_region 3 with fail
       try simp only [Act.put]
       refine wp_region_list ?_
       refine wpList_step fun K hK => ?_
       go_simp
       refine hK _ _ ?_
       clear hK K
       refine wpList_load_mid rfl 28 _ rfl _ _ rfl u _ rV Tryz.underlying28 rfl ix ?_
       refine wpList_step fun K hK => ?_
       go_simp
       refine hK _ _ ?_
       clear hK K
       refine wpList_load_mid rfl 28 _ rfl _ _ rfl u' _ rV' Tryz.underlying28 rfl iy ?_
       refine wpList_step fun K hK => ?_
       go_simp
       try rw [hq]
       try go_simp
       refine hK _ _ ?_
       clear hK K
       refine wpList_step fun K hK => ?_
       go_simp
       refine hK _ _ ?_
       clear hK K
       refine wpList_step fun K hK => ?_
       go_simp
       refine hK _ _ ?_
       clear hK K
       refine wpList_step fun K hK => ?_
       go_simp
       refine hK _ _ ?_
       clear hK K
       refine wpList_step fun K hK => ?_
       go_simp
       refine hK _ _ ?_
       clear hK K
       refine wpList_step fun K hK => ?_
       go_simp
       refine hK _ _ ?_
       clear hK K
       refine wpList_step fun K hK => ?_
       go_simp
       refine hK _ _ ?_
       clear hK K
       refine wpList_step fun K hK => ?_
       go_simp
       refine hK _ _ ?_
       clear hK K
       refine wpList_step fun K hK => ?_
       go_simp
       refine hK _ _ ?_
       clear hK K
       refine wpList_step fun K hK => ?_
       go_simp
       refine hK _ _ ?_
       clear hK K
       refine wpList_step fun K hK => ?_
       go_simp
       refine hK _ _ ?_
       clear hK K
       refine wpList_step fun K hK => ?_
       go_simp
       refine hK _ _ ?_
       clear hK K
       refine wpList_step fun K hK => ?_
       go_simp
       refine hK _ _ ?_
       clear hK K
       refine wpList_step fun K hK => ?_
       go_simp
       refine hK _ _ ?_
       clear hK K
       refine wpList_step fun K hK => ?_
       go_simp
       refine hK _ _ ?_
       clear hK K
       refine wpList_step fun K hK => ?_
       go_simp
       refine hK _ _ ?_
       clear hK K
       go_wp2
       go_ret
       exact ⟨rfl, hB⟩
      ·rw [Bool.true_and]
       cases db
       ·rw [Bool.false_and, Bool.false_and]
        clear cT cT'
        clear gB gC gN gT gS A1 A2 A3 A4 A5 B1 B2 B3 B4 B5 rC rC' cQ cR cQ' cR' c1 c2 c3 cH c1' c2' c3' cH' cN cN' cG cG' ic ic'
        go_enter Tryz.func30, Tryz.ntmps30
        go_upto_region 1 with fail
        go_name_world w1 hw1
        obtain rfl : W = w1 := hW.out.symm.trans hw1
        clear hw1 hW
        go_upto_region 3 with fail
        try simp only [Act.put]
        refine wp_region_list ?_
        refine wpList_step fun K hK => ?_
        go_simp
        refine hK _ _ ?_
        clear hK K
        refine wpList_load_mid rfl 28 _ rfl _ _ rfl u _ rV Tryz.underlying28 rfl ix ?_
        refine wpList_step fun K hK => ?_
        go_simp
        refine hK _ _ ?_
        clear hK K
        refine wpList_load_mid rfl 28 _ rfl _ _ rfl u' _ rV' Tryz.underlying28 rfl iy ?_
        refine wpList_step fun K hK => ?_
        go_simp
        try rw [hq]
        try go_simp
        refine hK _ _ ?_
        clear hK K
        refine wpList_step fun K hK => ?_
        go_simp
        refine hK _ _ ?_
        clear hK K
        refine wpList_step fun K hK => ?_
        go_simp
        refine hK _ _ ?_
        clear hK K
        refine wpList_load_g (by rfl) 26 _ rfl _ _ rfl ud _ rD Tryz.underlying26 rfl id ?_
        refine wpList_step fun K hK => ?_
        go_simp
        refine hK _ _ ?_
        clear hK K
        refine wpList_load_g (by rfl) 26 _ rfl _ _ rfl ud' _ rD' Tryz.underlying26 rfl id' ?_
        refine wpList_step fun K hK => ?_
        go_simp
        try rw [hq2]
        try go_simp
        refine hK _ _ ?_
        clear hK K
        refine wpList_step fun K hK => ?_
        go_simp
        refine hK _ _ ?_
        clear hK K
        refine wpList_step fun K hK => ?_
        go_simp
        refine hK _ _ ?_
        clear hK K
        refine wpList_step fun K hK => ?_
        go_simp
        refine hK _ _ ?_
        clear hK K
        refine wpList_step fun K hK => ?_
        go_simp
        refine hK _ _ ?_
        clear hK K
        refine wpList_step fun K hK => ?_
        go_simp
        refine hK _ _ ?_
        clear hK K
        refine wpList_step fun K hK => ?_
        go_simp
        refine hK _ _ ?_
        clear hK K
        refine wpList_step fun K hK => ?_
        go_simp
        refine hK _ _ ?_
        clear hK K
        refine wpList_step fun K hK => ?_
        go_simp
        refine hK _ _ ?_
        clear hK K
        refine wpList_step fun K hK => ?_
        go_simp
        refine hK _ _ ?_
        clear hK K
        go_wp2
        go_ret
        exact ⟨rfl, hB⟩
       ·rw [Bool.true_and]
        by_cases h_st : st.toList = st'.toList
        rotate_left
        ·rw [show (st.toList == st'.toList) = false from beq_eq_false_iff_ne.2 h_st, Bool.false_and]
         have hst : (st.toList != st'.toList) = true := bne_iff_ne.2 h_st
         clear h_st
         clear gB gC gN gT gS A1 A2 A3 A4 A5 B1 B2 B3 B4 B5 rC rC' cQ cR cQ' cR' c1 c2 c3 cH c1' c2' c3' cH' cN cN' cG cG' ic ic'
         go_enter Tryz.func30, Tryz.ntmps30
         go_upto_region 1 with fail
         go_name_world w1 hw1
         obtain rfl : W = w1 := hW.out.symm.trans hw1
         clear hw1 hW
         go_upto_region 3 with fail
         try simp only [Act.put]
         refine wp_region_list ?_
         refine wpList_step fun K hK => ?_
         go_simp
         refine hK _ _ ?_
         clear hK K
         refine wpList_load_mid rfl 28 _ rfl _ _ rfl u _ rV Tryz.underlying28 rfl ix ?_
         refine wpList_step fun K hK => ?_
         go_simp
         refine hK _ _ ?_
         clear hK K
         refine wpList_load_mid rfl 28 _ rfl _ _ rfl u' _ rV' Tryz.underlying28 rfl iy ?_
         refine wpList_step fun K hK => ?_
         go_simp
         try rw [hq]
         try go_simp
         refine hK _ _ ?_
         clear hK K
         refine wpList_step fun K hK => ?_
         go_simp
         refine hK _ _ ?_
         clear hK K
         refine wpList_step fun K hK => ?_
         go_simp
         refine hK _ _ ?_
         clear hK K
         refine wpList_load_g (by rfl) 26 _ rfl _ _ rfl ud _ rD Tryz.underlying26 rfl id ?_
         refine wpList_step fun K hK => ?_
         go_simp
         refine hK _ _ ?_
         clear hK K
         refine wpList_load_g (by rfl) 26 _ rfl _ _ rfl ud' _ rD' Tryz.underlying26 rfl id' ?_
         refine wpList_step fun K hK => ?_
         go_simp
         try rw [hq2]
         try go_simp
         refine hK _ _ ?_
         clear hK K
         refine wpList_step fun K hK => ?_
         go_simp
         refine hK _ _ ?_
         clear hK K
         refine wpList_step fun K hK => ?_
         go_simp
         refine hK _ _ ?_
         clear hK K
         refine wpList_step fun K hK => ?_
         go_simp
         refine hK _ _ ?_
         clear hK K
         refine wpList_step fun K hK => ?_
         go_simp
         refine hK _ _ ?_
         clear hK K
         refine wpList_step fun K hK => ?_
         go_simp
         refine hK _ _ ?_
         clear hK K
         refine wpList_step fun K hK => ?_
         go_simp
         refine hK _ _ ?_
         clear hK K
         refine wpList_neqs (by rfl) _ _ _ _ rfl st st' rfl rfl true hst ?_
         refine wpList_step fun K hK => ?_
         go_simp
         refine hK _ _ ?_
         clear hK K
         refine wpList_step fun K hK => ?_
         go_simp
         refine hK _ _ ?_
         clear hK K
         go_wp2
         go_ret
         exact ⟨rfl, hB⟩
        ·rw [show (st.toList == st'.toList) = true from beq_iff_eq.2 h_st, Bool.true_and]
         have hst : (st.toList != st'.toList) = false := by rw [h_st]; simp
         clear h_st
         go_enter Tryz.func30, Tryz.ntmps30
         go_upto_region 1 with fail
         go_name_world w1 hw1
         obtain rfl : W = w1 := hW.out.symm.trans hw1
         clear hw1 hW
         go_upto_region 3 with fail
         try simp only [Act.put]
         refine wp_region_list ?_
         refine wpList_step fun K hK => ?_
         go_simp
         refine hK _ _ ?_
         clear hK K
         refine wpList_load_mid rfl 28 _ rfl _ _ rfl u _ rV Tryz.underlying28 rfl ix ?_
         refine wpList_step fun K hK => ?_
         go_simp
         refine hK _ _ ?_
         clear hK K
         refine wpList_load_mid rfl 28 _ rfl _ _ rfl u' _ rV' Tryz.underlying28 rfl iy ?_
         refine wpList_step fun K hK => ?_
         go_simp
         try rw [hq]
         try go_simp
         refine hK _ _ ?_
         clear hK K
         refine wpList_step fun K hK => ?_
         go_simp
         refine hK _ _ ?_
         clear hK K
         refine wpList_step fun K hK => ?_
         go_simp
         refine hK _ _ ?_
         clear hK K
         refine wpList_load_g (by rfl) 26 _ rfl _ _ rfl ud _ rD Tryz.underlying26 rfl id ?_
         refine wpList_step fun K hK => ?_
         go_simp
         refine hK _ _ ?_
         clear hK K
         refine wpList_load_g (by rfl) 26 _ rfl _ _ rfl ud' _ rD' Tryz.underlying26 rfl id' ?_
         refine wpList_step fun K hK => ?_
         go_simp
         try rw [hq2]
         try go_simp
         refine hK _ _ ?_
         clear hK K
         refine wpList_step fun K hK => ?_
         go_simp
         refine hK _ _ ?_
         clear hK K
         refine wpList_step fun K hK => ?_
         go_simp
         refine hK _ _ ?_
         clear hK K
         refine wpList_step fun K hK => ?_
         go_simp
         refine hK _ _ ?_
         clear hK K
         refine wpList_step fun K hK => ?_
         go_simp
         refine hK _ _ ?_
         clear hK K
         refine wpList_step fun K hK => ?_
         go_simp
         refine hK _ _ ?_
         clear hK K
         refine wpList_step fun K hK => ?_
         go_simp
         refine hK _ _ ?_
         clear hK K
         refine wpList_neqs (by rfl) _ _ _ _ rfl st st' rfl rfl false hst ?_
         refine wpList_step fun K hK => ?_
         go_simp
         refine hK _ _ ?_
         clear hK K
         refine wpList_step fun K hK => ?_
         go_simp
         refine hK _ _ ?_
         clear hK K
         go_upto_region 5 with fail
         clear cK cE cL cV cS cK' cE' cL' cV' cS' rV rV' rD rD' cT cT' hq hq2 hst ix iy id id'
         have G1 := gB W A1 B1
         go_wp2_with fail
         refine G1.mono ?_
         rintro e2 w2 ⟨rfl, hb2⟩
         have up := fun i v (h : W.cell? ⟨w.heap.size, i, none⟩ = some v) => (hb2.cell (p := ⟨w.heap.size, i, none⟩) (show w.heap.size < W.heap.size by omega)).trans h
         replace c1 := up _ _ c1
         replace c2 := up _ _ c2
         replace c3 := up _ _ c3
         replace cH := up _ _ cH
         replace cN := up _ _ cN
         replace cG := up _ _ cG
         replace rC := range_below rC hb2 (by omega)
         clear up
         have up' := fun i v (h : W.cell? ⟨w.heap.size + 1, i, none⟩ = some v) => (hb2.cell (p := ⟨w.heap.size + 1, i, none⟩) (show w.heap.size + 1 < W.heap.size by omega)).trans h
         replace c1' := up' _ _ c1'
         replace c2' := up' _ _ c2'
         replace c3' := up' _ _ c3'
         replace cH' := up' _ _ cH'
         replace cN' := up' _ _ cN'
         replace cG' := up' _ _ cG'
         replace rC' := range_below rC' hb2 (by omega)
         clear up'
         have hs2 := Nat.le_trans hs hb2.size
         have hB2 := hB.trans (hb2.mono (by omega))
         have G2 := gC w2 (A2.below hb2) (B2.below hb2)
         replace A3 := A3.below hb2
         replace B3 := B3.below hb2
         replace A4 := A4.below hb2
         replace B4 := B4.below hb2
         replace A5 := A5.below hb2
         replace B5 := B5.below hb2
         clear cQ cR cQ' cR' hb2 hs hB G1 gB gC A1 B1 A2 B2
         cases b1
         ·clear gN gT gS A3 A4 A5 B3 B4 B5 G2
          go_wp2
          go_ret
          exact ⟨rfl, hB2⟩
         ·go_wp2_with fail
          refine G2.mono ?_
          rintro e3 w3 ⟨rfl, hb3⟩
          have up := fun i v (h : w2.cell? ⟨w.heap.size, i, none⟩ = some v) => (hb3.cell (p := ⟨w.heap.size, i, none⟩) (show w.heap.size < w2.heap.size by omega)).trans h
          replace cN := up _ _ cN
          replace cG := up _ _ cG
          replace rC := range_below rC hb3 (by omega)
          clear up
          have up' := fun i v (h : w2.cell? ⟨w.heap.size + 1, i, none⟩ = some v) => (hb3.cell (p := ⟨w.heap.size + 1, i, none⟩) (show w.heap.size + 1 < w2.heap.size by omega)).trans h
          replace cN' := up' _ _ cN'
          replace cG' := up' _ _ cG'
          replace rC' := range_below rC' hb3 (by omega)
          clear up'
          have hs3 := Nat.le_trans hs2 hb3.size
          have hB3 := hB2.trans (hb3.mono (by omega))
          have G3 := gN w3 (A3.below hb3) (B3.below hb3)
          replace A4 := A4.below hb3
          replace B4 := B4.below hb3
          replace A5 := A5.below hb3
          replace B5 := B5.below hb3
          clear hb3 hB2 hs2 G2 gN A3 B3 c1 c2 c3 cH c1' c2' c3' cH'
          cases b2
          ·clear G3 gT gS A4 A5 B4 B5
           go_wp2
           go_ret
           exact ⟨rfl, hB3⟩
          ·go_wp2_with fail
           refine G3.mono ?_
           rintro e4 w4 ⟨rfl, hb4⟩
           have up := fun i v (h : w3.cell? ⟨w.heap.size, i, none⟩ = some v) => (hb4.cell (p := ⟨w.heap.size, i, none⟩) (show w.heap.size < w3.heap.size by omega)).trans h
           replace cG := up _ _ cG
           replace rC := range_below rC hb4 (by omega)
           clear up
           have up' := fun i v (h : w3.cell? ⟨w.heap.size + 1, i, none⟩ = some v) => (hb4.cell (p := ⟨w.heap.size + 1, i, none⟩) (show w.heap.size + 1 < w3.heap.size by omega)).trans h
           replace cG' := up' _ _ cG'
           replace rC' := range_below rC' hb4 (by omega)
           clear up'
           have hs4 := Nat.le_trans hs3 hb4.size
           have hB4 := hB3.trans (hb4.mono (by omega))
           have G4 := gT w4 (A4.below hb4) (B4.below hb4)
           replace A5 := A5.below hb4
           replace B5 := B5.below hb4
           clear hb4 hB3 hs3 G3 gT A4 B4 cN cN'
           cases b3
           ·clear G4 gS A5 B5
            go_wp2
            go_ret
            exact ⟨rfl, hB4⟩
           ·go_wp2_with (first | (refine wpList_load_g (by rfl) 31 _ rfl _ _ rfl uc _ rC Tryz.underlying31 rfl ic ?_) | (refine wpList_load_g (by rfl) 31 _ rfl _ _ rfl uc' _ rC' Tryz.underlying31 rfl ic' ?_))
            refine G4.mono ?_
            rintro e5 w5 ⟨rfl, hb5⟩
            have up := fun i v (h : w4.cell? ⟨w.heap.size, i, none⟩ = some v) => (hb5.cell (p := ⟨w.heap.size, i, none⟩) (show w.heap.size < w4.heap.size by omega)).trans h
            replace cG := up _ _ cG
            clear up
            have up' := fun i v (h : w4.cell? ⟨w.heap.size + 1, i, none⟩ = some v) => (hb5.cell (p := ⟨w.heap.size + 1, i, none⟩) (show w.heap.size + 1 < w4.heap.size by omega)).trans h
            replace cG' := up' _ _ cG'
            clear up'
            have hB5 := hB4.trans (hb5.mono (by omega))
            have G5 := gS w5 (A5.below hb5) (B5.below hb5)
            clear hb5 hB4 G4 gS A5 B5 rC rC'
            cases b4
            ·clear G5
             go_wp2
             go_ret
             exact ⟨rfl, hB5⟩
            ·go_wp2_with fail
             refine G5.mono ?_
             rintro e6 w6 ⟨rfl, hb6⟩
             have hB6 := hB5.trans (hb6.mono hB5.size)
             clear hb6
             cases b5
             ·go_wp2
              go_ret
              exact ⟨rfl, hB6⟩
             ·go_wp2
              go_ret
              exact ⟨rfl, hB6⟩
set_option maxRecDepth 100000 in
set_option maxHeartbeats 2000000 in
theorem xequalS_any (a : Option Addr) (cap : Nat) (rs : List Sg) (a' : Option Addr) (cap' : Nat) (rs' : List Sg) (w : World) (h : RowsAt SgE w a rs) (h' : RowsAt SgE w a' rs') :
  Calls Tryz.prog 34 #[.slice a rs.length cap, .slice a' rs'.length cap'] w fun e w' => ((e = .returned (.bool true) ∧ rs = rs') ∨ (e = .returned (.bool false) ∧ ¬ rs = rs')) ∧ Below w.heap.size w w' := by
 have hml := h.1
 have hml' := h'.1
 unfold maxLen at hml hml'
 have hall := h.2.1
 have hall' := h'.2.1
 by_cases hlen : rs.length = rs'.length
 rotate_left
 ·have e0 : ((rs.length : Int) == rs'.length) = false := by simp; omega
  have HL := hide hlen
  clear hlen
  go_enter Tryz.func34, Tryz.ntmps34
  go_wp2
  go_ret
  exact ⟨.inr ⟨rfl, fun hh => HL.out (by rw [hh])⟩, Below.refl _ _⟩
 ·have e0 : ((rs.length : Int) == rs'.length) = true := by simp; omega
  have HL := hide hlen
  clear hlen
  go_enter Tryz.func34, Tryz.ntmps34
  go_wp2
  go_loopw [5] (fun iv wr => ∃ k : Nat, k ≤ rs.length ∧ iv = .int .i64 (k : Int) ∧ Hid (∀ j (hj : j < rs.length) (hj' : j < rs'.length), j < k → rs[j] = rs'[j]) ∧ Below w.heap.size w wr) (fun iv _ => rs.length - (intOf iv).toNat)
  case atStart => exact ⟨0, by omega, rfl, hide (fun j _ _ hj => absurd hj (by omega)), Below.refl _ _⟩
  case round =>
   clear e0
   obtain ⟨k, hk, rfl, HM, hB⟩ := hrel
   by_cases hlt : k < rs.length
   ·have k1 : (k : Int) < rs.length := by omega
    have hlt' : k < rs'.length := by have := HL.out; omega
    have k1' : (k : Int) < rs'.length := by omega
    obtain ⟨b, off, rfl, hb, hre⟩ := (h.below hB).elem k hlt
    have hre : wr.rangeAt b (off + k * 17) rs[k].cells := hre
    obtain ⟨b', off', rfl, hb', hre'⟩ := (h'.below hB).elem k hlt'
    have hre' : wr.rangeAt b' (off' + k * 17) rs'[k].cells := hre'
    obtain ⟨r, hr⟩ : ∃ r, Hid (rs[k] = r) := ⟨_, hide rfl⟩
    obtain ⟨r', hr'⟩ : ∃ r', Hid (rs'[k] = r') := ⟨_, hide rfl⟩
    have hok : r.ok := by rw [← hr.out]; exact hall _ (List.getElem_mem hlt)
    have hok' : r'.ok := by rw [← hr'.out]; exact hall' _ (List.getElem_mem hlt')
    rw [hr.out] at hre
    rw [hr'.out] at hre'
    have HM' : Hid (r = r' → ∀ j (hj : j < rs.length) (hj' : j < rs'.length), j < k + 1 → rs[j] = rs'[j]) := hide (fun hp j hj hj' hjk => by
     by_cases e : j = k
     ·subst e; rw [hr.out, hr'.out]; exact hp
     ·exact HM.out j hj hj' (by omega))
    have HN' : Hid (r ≠ r' → rs ≠ rs') := hide (fun hp he => by
     apply hp
     rw [← hr.out, ← hr'.out]
     subst he
     rfl)
    clear hr hr' HM
    have hiu : (Tryz.prog.info? 110).map (·.size) = some r.cells.length := by rw [show r.cells.length = 17 from SgE.len r hok]; kernel_rfl
    have hiu' : (Tryz.prog.info? 110).map (·.size) = some r'.cells.length := by rw [show r'.cells.length = 17 from SgE.len r' hok']; kernel_rfl
    have hne := fun w0 => Sg.eq10 r r' hok hok' w0
    obtain ⟨u, hu⟩ : ∃ u, Hid (r.cells = u) := ⟨_, hide rfl⟩
    obtain ⟨u', hu'⟩ : ∃ u', Hid (r'.cells = u') := ⟨_, hide rfl⟩
    rw [hu.out] at hre hiu
    rw [hu'.out] at hre' hiu'
    simp only [hu.out, hu'.out] at hne
    clear hu hu' hok hok'
    by_cases hrr : r = r'
    ·have e1 : Sg.B r r' = true := Sg.B_iff.2 hrr
     rw [e1] at hne
     have HR := hide hrr
     clear hrr e1
     go_upto_region 6 with fail
     obtain ⟨w5, hw5⟩ : ∃ w5, wr.drew = w5 := ⟨_, rfl⟩
     have hB5 : Below w.heap.size w w5 := by rw [← hw5]; exact hB.drew
     have hre5 : w5.rangeAt b (off + k * 17) u := by rw [← hw5]; exact (World.rangeAt_drew _ _ _ _).2 hre
     have hre5' : w5.rangeAt b' (off' + k * 17) u' := by rw [← hw5]; exact (World.rangeAt_drew _ _ _ _).2 hre'
     have hb5 : b < w5.heap.size := by rw [← hw5]; exact hb
     have hb5' : b' < w5.heap.size := by rw [← hw5]; exact hb'
     refine hs_begin (S := (Below w5.heap.size w5)) 9 rfl (by kernel_rfl) ?_
     rw [hw5]
     clear hw5 hB hre hre' hb hb'
     have hS : (Below w5.heap.size w5) w5 := Below.refl _ _
     refine hs_t 0 17 (?_) rfl (by kernel_rfl) (by kernel_rfl) (by kernel_rfl) (by rfl) ?_ hS rfl ?_
     rotate_left
     ·intro w' hw
      go_simp
      try with_reducible rfl
     simp only [nz]
     refine hs_t 1 18 (?_) rfl (by kernel_rfl) (by kernel_rfl) (by kernel_rfl) (by rfl) ?_ hS rfl ?_
     rotate_left
     ·intro w' hw
      go_simp
      try with_reducible rfl
     simp only [nz]
     refine hs_t 2 19 (?_) rfl (by kernel_rfl) (by kernel_rfl) (by kernel_rfl) (by rfl) ?_ hS rfl ?_
     rotate_left
     ·intro w' hw
      go_simp
      try with_reducible rfl
     simp only [nz]
     refine hs_t 3 20 (.agg u.toArray) rfl (by kernel_rfl) (by kernel_rfl) (by kernel_rfl) (by rfl) (fun w' hw => exec_loadC rfl rfl (run_loadVar_mid (P := Tryz.prog) w' b (off + k * 17) 110 u _ (range_below hre5 hw hb5) Tryz.underlying110 rfl hiu)) hS rfl ?_
     simp only [nz]
     refine hs_t 4 21 (?_) rfl (by kernel_rfl) (by kernel_rfl) (by kernel_rfl) (by rfl) ?_ hS rfl ?_
     rotate_left
     ·intro w' hw
      go_simp
      try with_reducible rfl
     simp only [nz]
     refine hs_t 5 22 (?_) rfl (by kernel_rfl) (by kernel_rfl) (by kernel_rfl) (by rfl) ?_ hS rfl ?_
     rotate_left
     ·intro w' hw
      go_simp
      try with_reducible rfl
     simp only [nz]
     refine hs_t 6 23 (?_) rfl (by kernel_rfl) (by kernel_rfl) (by kernel_rfl) (by rfl) ?_ hS rfl ?_
     rotate_left
     ·intro w' hw
      go_simp
      try with_reducible rfl
     simp only [nz]
     refine hs_t 7 24 (.agg u'.toArray) rfl (by kernel_rfl) (by kernel_rfl) (by kernel_rfl) (by rfl) (fun w' hw => exec_loadC rfl rfl (run_loadVar_mid (P := Tryz.prog) w' b' (off' + k * 17) 110 u' _ (range_below hre5' hw hb5') Tryz.underlying110 rfl hiu')) hS rfl ?_
     simp only [nz]
     refine hs_t 8 25 (.bool false) rfl (by kernel_rfl) (by kernel_rfl) (by kernel_rfl) (by rfl) (fun w' hw => by have hc := hne w'; go_simp) hS rfl ?_
     simp only [nz]
     refine hs_done (by kernel_rfl) ?_
     go_wp2
     go_roundw
     case rel => exact ⟨k + 1, by omega, by go_num, hide (HM'.out HR.out), hB5⟩
     case measure => simp [intOf]; omega
    ·have e1 : Sg.B r r' = false := by
      cases hx : Sg.B r r'
      ·rfl
      ·exact absurd (Sg.B_iff.1 hx) hrr
     rw [e1] at hne
     have HR := hide hrr
     clear hrr e1
     go_upto_region 6 with fail
     obtain ⟨w5, hw5⟩ : ∃ w5, wr.drew = w5 := ⟨_, rfl⟩
     have hB5 : Below w.heap.size w w5 := by rw [← hw5]; exact hB.drew
     have hre5 : w5.rangeAt b (off + k * 17) u := by rw [← hw5]; exact (World.rangeAt_drew _ _ _ _).2 hre
     have hre5' : w5.rangeAt b' (off' + k * 17) u' := by rw [← hw5]; exact (World.rangeAt_drew _ _ _ _).2 hre'
     have hb5 : b < w5.heap.size := by rw [← hw5]; exact hb
     have hb5' : b' < w5.heap.size := by rw [← hw5]; exact hb'
     refine hs_begin (S := (Below w5.heap.size w5)) 9 rfl (by kernel_rfl) ?_
     rw [hw5]
     clear hw5 hB hre hre' hb hb'
     have hS : (Below w5.heap.size w5) w5 := Below.refl _ _
     refine hs_t 0 17 (?_) rfl (by kernel_rfl) (by kernel_rfl) (by kernel_rfl) (by rfl) ?_ hS rfl ?_
     rotate_left
     ·intro w' hw
      go_simp
      try with_reducible rfl
     simp only [nz]
     refine hs_t 1 18 (?_) rfl (by kernel_rfl) (by kernel_rfl) (by kernel_rfl) (by rfl) ?_ hS rfl ?_
     rotate_left
     ·intro w' hw
      go_simp
      try with_reducible rfl
     simp only [nz]
     refine hs_t 2 19 (?_) rfl (by kernel_rfl) (by kernel_rfl) (by kernel_rfl) (by rfl) ?_ hS rfl ?_
     rotate_left
     ·intro w' hw
      go_simp
      try with_reducible rfl
     simp only [nz]
     refine hs_t 3 20 (.agg u.toArray) rfl (by kernel_rfl) (by kernel_rfl) (by kernel_rfl) (by rfl) (fun w' hw => exec_loadC rfl rfl (run_loadVar_mid (P := Tryz.prog) w' b (off + k * 17) 110 u _ (range_below hre5 hw hb5) Tryz.underlying110 rfl hiu)) hS rfl ?_
     simp only [nz]
     refine hs_t 4 21 (?_) rfl (by kernel_rfl) (by kernel_rfl) (by kernel_rfl) (by rfl) ?_ hS rfl ?_
     rotate_left
     ·intro w' hw
      go_simp
      try with_reducible rfl
     simp only [nz]
     refine hs_t 5 22 (?_) rfl (by kernel_rfl) (by kernel_rfl) (by kernel_rfl) (by rfl) ?_ hS rfl ?_
     rotate_left
     ·intro w' hw
      go_simp
      try with_reducible rfl
     simp only [nz]
     refine hs_t 6 23 (?_) rfl (by kernel_rfl) (by kernel_rfl) (by kernel_rfl) (by rfl) ?_ hS rfl ?_
     rotate_left
     ·intro w' hw
      go_simp
      try with_reducible rfl
     simp only [nz]
     refine hs_t 7 24 (.agg u'.toArray) rfl (by kernel_rfl) (by kernel_rfl) (by kernel_rfl) (by rfl) (fun w' hw => exec_loadC rfl rfl (run_loadVar_mid (P := Tryz.prog) w' b' (off' + k * 17) 110 u' _ (range_below hre5' hw hb5') Tryz.underlying110 rfl hiu')) hS rfl ?_
     simp only [nz]
     refine hs_t 8 25 (.bool true) rfl (by kernel_rfl) (by kernel_rfl) (by kernel_rfl) (by rfl) (fun w' hw => by have hc := hne w'; go_simp) hS rfl ?_
     simp only [nz]
     refine hs_done (by kernel_rfl) ?_
     go_wp2
     go_ret
     exact ⟨.inr ⟨rfl, fun hh => HN'.out HR.out hh⟩, hB5⟩
   ·have k1 : ¬ (k : Int) < rs.length := by omega
    have HE : Hid (rs = rs') := hide (List.ext_getElem HL.out (fun j hj hj' => HM.out j hj hj' (by omega)))
    clear HM
    go_wp2
    go_ret
    exact ⟨.inl ⟨rfl, HE.out⟩, hB⟩
theorem xequalS_anyB (a : Option Addr) (cap : Nat) (rs : List Sg) (a' : Option Addr) (cap' : Nat) (rs' : List Sg) (w : World) (h : RowsAt SgE w a rs) (h' : RowsAt SgE w a' rs') :
  Calls Tryz.prog 34 #[.slice a rs.length cap, .slice a' rs'.length cap'] w fun e w' => e = .returned (.bool (sameL Sg.B rs rs')) ∧ Below w.heap.size w w' := by
 refine (xequalS_any a cap rs a' cap' rs' w h h').mono ?_
 rintro e w1 ⟨hc, hb⟩
 have I := sameL_iff (fun x y => Sg.B_iff (x := x) (y := y)) rs rs'
 refine ⟨?_, hb⟩
 rcases hc with ⟨rfl, he⟩ | ⟨rfl, he⟩
 ·rw [I.2 he]
 ·cases hq : sameL Sg.B rs rs'
  ·rfl
  ·exact absurd (I.1 hq) he
set_option maxRecDepth 100000 in
set_option maxHeartbeats 2000000 in
theorem xscert_any (x y : Vt) (s t : Sl Sg) (w : World) (hx : x.ok) (hy : y.ok) (hs : s.At SgE w) (ht : t.At SgE w) : Calls Tryz.prog 33 #[.agg (certL x s).toArray, .agg (certL y t).toArray] w fun e w' => e = .returned (.bool (certB x s y t)) ∧ Below w.heap.size w w' := by
 obtain ⟨hA, hA', hB, hz⟩ := two_boxG (certL x s) (certL y t) 31 w
 have r1 := range_left hA
 have r1' := range_left hA'
 have c1 := range_right hA 0 _ rfl
 have c1' := range_right hA' 0 _ rfl
 rw [hx.len] at c1
 rw [hy.len] at c1'
 simp only [Nat.zero_add, Nat.add_zero] at c1 c1'
 have ix : (Tryz.prog.info? 28).map (·.size) = some x.cells.length := by rw [hx.len]; exact iszV
 have iy : (Tryz.prog.info? 28).map (·.size) = some y.cells.length := by rw [hy.len]; exact iszV
 have hq := eqInV x y hx.dl hy.dl
 obtain ⟨a, cap, rs⟩ := s
 obtain ⟨a', cap', rs'⟩ := t
 have ce := fun w0 h0 h1 => xequalS_anyB a cap rs a' cap' rs' w0 h0 h1
 have h1 : RowsAt SgE _ a rs := RowsAt.below hs hB
 have h1' : RowsAt SgE _ a' rs' := RowsAt.below ht hB
 have E : certB x ⟨a, cap, rs⟩ y ⟨a', cap', rs'⟩ = (vtB x y && sameL Sg.B rs rs') := rfl
 rw [E]
 simp only [Sl.val] at c1 c1'
 clear hA hA' hz hx hy E hs ht
 generalize certL x ⟨a, cap, rs⟩ = q at *
 generalize certL y ⟨a', cap', rs'⟩ = q' at *
 generalize x.cells = u at *
 generalize y.cells = u' at *
 generalize vtB x y = vb at *
 generalize sameL Sg.B rs rs' = sb at *
 cases vb
 ·go_enter Tryz.func33, Tryz.ntmps33
  go_upto_region 1 with fail
  go_name_world w1 hw1
  rw [show (w.alloc (.cells q.toArray 31)).alloc (.cells q'.toArray 31) = w1 from hw1] at r1 r1' c1 c1' hB h1 h1'
  clear hw1 ce
  go_wp2_with (first | (refine wpList_load_mid rfl 28 _ rfl _ _ rfl u _ r1 Tryz.underlying28 rfl ix ?_) | (refine wpList_load_mid rfl 28 _ rfl _ _ rfl u' _ r1' Tryz.underlying28 rfl iy ?_))
  go_ret
  exact ⟨rfl, hB⟩
 ·cases sb
  all_goals
   go_enter Tryz.func33, Tryz.ntmps33
   go_upto_region 1 with fail
   go_name_world w1 hw1
   rw [show (w.alloc (.cells q.toArray 31)).alloc (.cells q'.toArray 31) = w1 from hw1] at r1 r1' c1 c1' hB h1 h1'
   clear hw1
   go_wp2_with (first | (refine wpList_load_mid rfl 28 _ rfl _ _ rfl u _ r1 Tryz.underlying28 rfl ix ?_) | (refine wpList_load_mid rfl 28 _ rfl _ _ rfl u' _ r1' Tryz.underlying28 rfl iy ?_))
   refine (ce _ h1 h1').mono ?_
   rintro e2 w2 ⟨rfl, hb2⟩
   have hB2 := hB.trans (hb2.mono hB.size)
   clear ce h1 h1' hb2 c1 c1' r1 r1'
   go_wp2
   go_ret
   exact ⟨rfl, hB2⟩
set_option maxRecDepth 100000 in
set_option maxHeartbeats 4000000 in
theorem xbsame_any (q : Bool) (x : Sl Rq) (q' : Bool) (x' : Sl Rq) (w : World) (h : x.At RqE w) (h' : x'.At RqE w) :
  Calls Tryz.prog 32 #[.agg #[.bool q, x.val], .agg #[.bool q', x'.val]] w fun e w' => e = .returned (.bool (batB q x q' x')) ∧ Below w.heap.size w w' := by
 obtain ⟨a, cap, rs⟩ := x
 obtain ⟨a', cap', rs'⟩ := x'
 have hB0 : Below w.heap.size w ((w.alloc (.cells #[.bool q, .slice a rs.length cap] 24)).alloc (.cells #[.bool q', .slice a' rs'.length cap'] 24)) := ((Below.refl _ w).alloc (Nat.le_refl _) _).alloc (by simp) _
 obtain ⟨hA, hA', _, hz⟩ := two_boxG [.bool q, .slice a rs.length cap] [.bool q', .slice a' rs'.length cap'] 24 w
 have c0 := hA 0 _ rfl
 have c1 := hA 1 _ rfl
 have c0' := hA' 0 _ rfl
 have c1' := hA' 1 _ rfl
 simp only [Nat.zero_add, Nat.add_zero] at c0 c1 c0' c1'
 have h1 : RowsAt RqE _ a rs := RowsAt.below h hB0
 have h1' : RowsAt RqE _ a' rs' := RowsAt.below h' hB0
 have hml : rs.length ≤ maxLen := h1.1
 have hml' : rs'.length ≤ maxLen := h1'.1
 unfold maxLen at hml hml'
 have E : batB q ⟨a, cap, rs⟩ q' ⟨a', cap', rs'⟩ = ((q == q') && sameL Rq.B rs rs') := rfl
 rw [E]
 have hall := h1.2.1
 have hall' := h1'.2.1
 clear E h h' hA hA'
 simp only [Sl.val]
 obtain ⟨W, hW⟩ : ∃ W, Hid ((w.alloc (.cells #[.bool q, .slice a rs.length cap] 24)).alloc (.cells #[.bool q', .slice a' rs'.length cap'] 24) = W) := ⟨_, hide rfl⟩
 rw [hW.out] at hB0 h1 h1'
 change World.cell? ((w.alloc (.cells #[.bool q, .slice a rs.length cap] 24)).alloc (.cells #[.bool q', .slice a' rs'.length cap'] 24)) _ = _ at c0 c1 c0' c1'
 change w.heap.size + 2 ≤ ((w.alloc (.cells #[.bool q, .slice a rs.length cap] 24)).alloc (.cells #[.bool q', .slice a' rs'.length cap'] 24)).heap.size at hz
 rw [hW.out] at c0 c1 c0' c1' hz
 have ENTER : True := trivial
 by_cases hqq : q = q'
 rotate_left
 ·have n1 : (q == q') = false := beq_eq_false_iff_ne.2 hqq
  rw [n1, Bool.false_and]
  clear ENTER
  cases q <;> cases q'
  case false.false | true.true => exact absurd rfl hqq
  all_goals
   clear hqq n1
   go_enter Tryz.func32, Tryz.ntmps32
   go_upto_region 1 with fail
   go_name_world w1 hw1
   obtain rfl : W = w1 := hW.out.symm.trans hw1
   clear hw1 hW
   go_wp2
   go_ret
   exact ⟨rfl, hB0⟩
 ·subst hqq
  rw [show (q == q) = true by simp, Bool.true_and]
  clear ENTER
  by_cases hlen : rs.length = rs'.length
  rotate_left
  ·rw [sameL_false hlen]
   have e0 : ((rs.length : Int) == rs'.length) = false := by simp; omega
   clear hlen
   cases q
   all_goals
    go_enter Tryz.func32, Tryz.ntmps32
    go_upto_region 1 with fail
    go_name_world w1 hw1
    obtain rfl : W = w1 := hW.out.symm.trans hw1
    clear hw1 hW
    go_wp2
    go_ret
    exact ⟨rfl, hB0⟩
  ·have e0 : ((rs.length : Int) == rs'.length) = true := by simp; omega
   have HL := hide hlen
   clear hlen
   obtain ⟨sb, hsb⟩ : ∃ sb, Hid (sameL Rq.B rs rs' = sb) := ⟨_, hide rfl⟩
   rw [hsb.out]
   have I := hide (sameL_iff (fun x y => Rq.B_iff (x := x) (y := y)) rs rs')
   cases q
   all_goals
    go_enter Tryz.func32, Tryz.ntmps32
    go_upto_region 1 with fail
    go_name_world w1 hw1
    obtain rfl : W = w1 := hW.out.symm.trans hw1
    clear hw1 hW
    go_wp2
    go_loopw [5] (fun iv wr' => ∃ k : Nat, k ≤ rs.length ∧ iv = .int .i64 (k : Int) ∧ Hid (∀ j (hj : j < rs.length) (hj' : j < rs'.length), j < k → rs[j] = rs'[j]) ∧ Below W.heap.size W wr') (fun iv _ => rs.length - (intOf iv).toNat)
    case atStart => exact ⟨0, by omega, rfl, hide (fun j _ _ hj => absurd hj (by omega)), Below.refl _ _⟩
    case round =>
     clear e0
     rename ((rs.length : Int) != (rs'.length : Int)) = false => hne0
     clear hne0
     obtain ⟨k, hk, rfl, HM, hBr⟩ := hrel
     have hB := hB0.trans (hBr.mono (by omega))
     have hzr := Nat.le_trans hz hBr.size
     have e1 := (hBr.cell (p := ⟨w.heap.size, 1, none⟩) (show w.heap.size < W.heap.size by omega)).trans c1
     have e1' := (hBr.cell (p := ⟨w.heap.size + 1, 1, none⟩) (show w.heap.size + 1 < W.heap.size by omega)).trans c1'
     by_cases hlt : k < rs.length
     ·have k1 : (k : Int) < rs.length := by omega
      have hlt' : k < rs'.length := by have := HL.out; omega
      have k1' : (k : Int) < rs'.length := by omega
      obtain ⟨b, off, rfl, hb, hre⟩ := (h1.below hBr).elem k hlt
      have hre : wr.rangeAt b (off + k * 19) rs[k].cells := hre
      obtain ⟨b', off', rfl, hb', hre'⟩ := (h1'.below hBr).elem k hlt'
      have hre' : wr.rangeAt b' (off' + k * 19) rs'[k].cells := hre'
      obtain ⟨r, hr⟩ : ∃ r, Hid (rs[k] = r) := ⟨_, hide rfl⟩
      obtain ⟨r', hr'⟩ : ∃ r', Hid (rs'[k] = r') := ⟨_, hide rfl⟩
      have hok : r.ok := by rw [← hr.out]; exact hall _ (List.getElem_mem hlt)
      have hok' : r'.ok := by rw [← hr'.out]; exact hall' _ (List.getElem_mem hlt')
      rw [hr.out] at hre
      rw [hr'.out] at hre'
      have HM' : Hid (r = r' → ∀ j (hj : j < rs.length) (hj' : j < rs'.length), j < k + 1 → rs[j] = rs'[j]) := hide (fun hp j hj hj' hjk => by
       by_cases e : j = k
       ·subst e; rw [hr.out, hr'.out]; exact hp
       ·exact HM.out j hj hj' (by omega))
      have HN' : Hid (r ≠ r' → sb = false) := hide (fun hp => by
       cases hsbv : sb
       ·rfl
       ·have : rs = rs' := I.out.1 (hsb.out.trans hsbv)
        exact absurd (by rw [← hr.out, ← hr'.out]; subst this; rfl) hp)
      clear hr hr' HM
      have hiu : (Tryz.prog.info? 91).map (·.size) = some r.cells.length := by rw [show r.cells.length = 19 from RqE.len r hok]; kernel_rfl
      have hiu' : (Tryz.prog.info? 91).map (·.size) = some r'.cells.length := by rw [show r'.cells.length = 19 from RqE.len r' hok']; kernel_rfl
      have hne := fun w0 => Rq.eq10 r r' hok hok' w0
      generalize r.cells = u at *
      generalize r'.cells = u' at *
      clear hok hok'
      by_cases hrr : r = r'
      ·rw [Rq.B_iff.2 hrr] at hne
       have HT' := hide (HM'.out hrr)
       clear hrr HM' HN'
       go_upto_region 6 with fail
       obtain ⟨w5, hw5⟩ : ∃ w5, wr.drew = w5 := ⟨_, rfl⟩
       have hBd : Below wr.heap.size wr w5 := by rw [← hw5]; exact (Below.refl _ _).drew
       have hB5 := hB.trans (hBd.mono (by omega))
       have hre5 := range_below hre hBd hb
       have hre5' := range_below hre' hBd hb'
       have hb5 : b < w5.heap.size := Nat.lt_of_lt_of_le hb hBd.size
       have hb5' : b' < w5.heap.size := Nat.lt_of_lt_of_le hb' hBd.size
       have d1 := (hBd.cell (p := ⟨w.heap.size, 1, none⟩) (show w.heap.size < wr.heap.size by omega)).trans e1
       have d1' := (hBd.cell (p := ⟨w.heap.size + 1, 1, none⟩) (show w.heap.size + 1 < wr.heap.size by omega)).trans e1'
       have hz5 := Nat.le_trans hzr hBd.size
       have HBX : Hid (Below wr.heap.size wr w5) := hide hBd
       refine hs_begin (S := (Below w5.heap.size w5)) 11 rfl (by kernel_rfl) ?_
       rw [hw5]
       clear hw5 hre hre' hb hb' hBd e1 e1' hB hzr
       have hS : (Below w5.heap.size w5) w5 := Below.refl _ _
       refine hs_t 0 27 (?_) rfl (by kernel_rfl) (by kernel_rfl) (by kernel_rfl) (by rfl) ?_ hS rfl ?_
       rotate_left
       ·intro w' hw
        go_simp
        try with_reducible rfl
       simp only [nz]
       refine hs_t 1 28 (?_) rfl (by kernel_rfl) (by kernel_rfl) (by kernel_rfl) (by rfl) ?_ hS rfl ?_
       rotate_left
       ·intro w' hw
        have := (hw.cell (p := ⟨w.heap.size, 1, none⟩) (show w.heap.size < w5.heap.size by omega)).trans d1
        go_simp
        try with_reducible rfl
       simp only [nz]
       refine hs_t 2 29 (?_) rfl (by kernel_rfl) (by kernel_rfl) (by kernel_rfl) (by rfl) ?_ hS rfl ?_
       rotate_left
       ·intro w' hw
        go_simp
        try with_reducible rfl
       simp only [nz]
       refine hs_t 3 30 (?_) rfl (by kernel_rfl) (by kernel_rfl) (by kernel_rfl) (by rfl) ?_ hS rfl ?_
       rotate_left
       ·intro w' hw
        go_simp
        try with_reducible rfl
       simp only [nz]
       refine hs_t 4 31 (.agg u.toArray) rfl (by kernel_rfl) (by kernel_rfl) (by kernel_rfl) (by rfl) (fun w' hw => exec_loadC rfl rfl (run_loadVar_mid (P := Tryz.prog) w' b (off + k * 19) 91 u _ (range_below hre5 hw hb5) Tryz.underlying91 rfl hiu)) hS rfl ?_
       simp only [nz]
       refine hs_t 5 32 (?_) rfl (by kernel_rfl) (by kernel_rfl) (by kernel_rfl) (by rfl) ?_ hS rfl ?_
       rotate_left
       ·intro w' hw
        go_simp
        try with_reducible rfl
       simp only [nz]
       refine hs_t 6 33 (?_) rfl (by kernel_rfl) (by kernel_rfl) (by kernel_rfl) (by rfl) ?_ hS rfl ?_
       rotate_left
       ·intro w' hw
        have := (hw.cell (p := ⟨w.heap.size + 1, 1, none⟩) (show w.heap.size + 1 < w5.heap.size by omega)).trans d1'
        go_simp
        try with_reducible rfl
       simp only [nz]
       refine hs_t 7 34 (?_) rfl (by kernel_rfl) (by kernel_rfl) (by kernel_rfl) (by rfl) ?_ hS rfl ?_
       rotate_left
       ·intro w' hw
        go_simp
        try with_reducible rfl
       simp only [nz]
       refine hs_t 8 35 (?_) rfl (by kernel_rfl) (by kernel_rfl) (by kernel_rfl) (by rfl) ?_ hS rfl ?_
       rotate_left
       ·intro w' hw
        go_simp
        try with_reducible rfl
       simp only [nz]
       refine hs_t 9 36 (.agg u'.toArray) rfl (by kernel_rfl) (by kernel_rfl) (by kernel_rfl) (by rfl) (fun w' hw => exec_loadC rfl rfl (run_loadVar_mid (P := Tryz.prog) w' b' (off' + k * 19) 91 u' _ (range_below hre5' hw hb5') Tryz.underlying91 rfl hiu')) hS rfl ?_
       simp only [nz]
       refine hs_t 10 37 (.bool false) rfl (by kernel_rfl) (by kernel_rfl) (by kernel_rfl) (by rfl) (fun w' hw => by have hc := hne w'; go_simp) hS rfl ?_
       simp only [nz]
       refine hs_done (by kernel_rfl) ?_
       go_wp2
       go_roundw
       case rel => exact ⟨k + 1, by omega, by go_num, HT', hBr.trans (HBX.out.mono hBr.size)⟩
       case measure => simp [intOf]; omega
      ·have hbf : Rq.B r r' = false := by
        cases hx : Rq.B r r'
        ·rfl
        ·exact absurd (Rq.B_iff.1 hx) hrr
       rw [hbf] at hne
       have HF' := HN'.out hrr
       clear hrr HM' HN' hbf hsb I
       go_upto_region 6 with fail
       obtain ⟨w5, hw5⟩ : ∃ w5, wr.drew = w5 := ⟨_, rfl⟩
       have hBd : Below wr.heap.size wr w5 := by rw [← hw5]; exact (Below.refl _ _).drew
       have hB5 := hB.trans (hBd.mono (by omega))
       have hre5 := range_below hre hBd hb
       have hre5' := range_below hre' hBd hb'
       have hb5 : b < w5.heap.size := Nat.lt_of_lt_of_le hb hBd.size
       have hb5' : b' < w5.heap.size := Nat.lt_of_lt_of_le hb' hBd.size
       have d1 := (hBd.cell (p := ⟨w.heap.size, 1, none⟩) (show w.heap.size < wr.heap.size by omega)).trans e1
       have d1' := (hBd.cell (p := ⟨w.heap.size + 1, 1, none⟩) (show w.heap.size + 1 < wr.heap.size by omega)).trans e1'
       have hz5 := Nat.le_trans hzr hBd.size
       have HBX : Hid (Below wr.heap.size wr w5) := hide hBd
       refine hs_begin (S := (Below w5.heap.size w5)) 11 rfl (by kernel_rfl) ?_
       rw [hw5]
       clear hw5 hre hre' hb hb' hBd e1 e1' hB hzr
       have hS : (Below w5.heap.size w5) w5 := Below.refl _ _
       refine hs_t 0 27 (?_) rfl (by kernel_rfl) (by kernel_rfl) (by kernel_rfl) (by rfl) ?_ hS rfl ?_
       rotate_left
       ·intro w' hw
        go_simp
        try with_reducible rfl
       simp only [nz]
       refine hs_t 1 28 (?_) rfl (by kernel_rfl) (by kernel_rfl) (by kernel_rfl) (by rfl) ?_ hS rfl ?_
       rotate_left
       ·intro w' hw
        have := (hw.cell (p := ⟨w.heap.size, 1, none⟩) (show w.heap.size < w5.heap.size by omega)).trans d1
        go_simp
        try with_reducible rfl
       simp only [nz]
       refine hs_t 2 29 (?_) rfl (by kernel_rfl) (by kernel_rfl) (by kernel_rfl) (by rfl) ?_ hS rfl ?_
       rotate_left
       ·intro w' hw
        go_simp
        try with_reducible rfl
       simp only [nz]
       refine hs_t 3 30 (?_) rfl (by kernel_rfl) (by kernel_rfl) (by kernel_rfl) (by rfl) ?_ hS rfl ?_
       rotate_left
       ·intro w' hw
        go_simp
        try with_reducible rfl
       simp only [nz]
       refine hs_t 4 31 (.agg u.toArray) rfl (by kernel_rfl) (by kernel_rfl) (by kernel_rfl) (by rfl) (fun w' hw => exec_loadC rfl rfl (run_loadVar_mid (P := Tryz.prog) w' b (off + k * 19) 91 u _ (range_below hre5 hw hb5) Tryz.underlying91 rfl hiu)) hS rfl ?_
       simp only [nz]
       refine hs_t 5 32 (?_) rfl (by kernel_rfl) (by kernel_rfl) (by kernel_rfl) (by rfl) ?_ hS rfl ?_
       rotate_left
       ·intro w' hw
        go_simp
        try with_reducible rfl
       simp only [nz]
       refine hs_t 6 33 (?_) rfl (by kernel_rfl) (by kernel_rfl) (by kernel_rfl) (by rfl) ?_ hS rfl ?_
       rotate_left
       ·intro w' hw
        have := (hw.cell (p := ⟨w.heap.size + 1, 1, none⟩) (show w.heap.size + 1 < w5.heap.size by omega)).trans d1'
        go_simp
        try with_reducible rfl
       simp only [nz]
       refine hs_t 7 34 (?_) rfl (by kernel_rfl) (by kernel_rfl) (by kernel_rfl) (by rfl) ?_ hS rfl ?_
       rotate_left
       ·intro w' hw
        go_simp
        try with_reducible rfl
       simp only [nz]
       refine hs_t 8 35 (?_) rfl (by kernel_rfl) (by kernel_rfl) (by kernel_rfl) (by rfl) ?_ hS rfl ?_
       rotate_left
       ·intro w' hw
        go_simp
        try with_reducible rfl
       simp only [nz]
       refine hs_t 9 36 (.agg u'.toArray) rfl (by kernel_rfl) (by kernel_rfl) (by kernel_rfl) (by rfl) (fun w' hw => exec_loadC rfl rfl (run_loadVar_mid (P := Tryz.prog) w' b' (off' + k * 19) 91 u' _ (range_below hre5' hw hb5') Tryz.underlying91 rfl hiu')) hS rfl ?_
       simp only [nz]
       refine hs_t 10 37 (.bool true) rfl (by kernel_rfl) (by kernel_rfl) (by kernel_rfl) (by rfl) (fun w' hw => by have hc := hne w'; go_simp) hS rfl ?_
       simp only [nz]
       refine hs_done (by kernel_rfl) ?_
       go_wp2
       go_ret
       exact ⟨by rw [HF']; rfl, hB5⟩
     ·have k1 : ¬ (k : Int) < rs.length := by omega
      have HE : Hid (sb = true) := hide (by
       rw [← hsb.out]
       exact I.out.2 (List.ext_getElem HL.out (fun j hj hj' => HM.out j hj hj' (by omega))))
      clear HM hsb I
      go_wp2
      go_ret
      exact ⟨by rw [HE.out]; rfl, hB⟩
theorem iszB : (Tryz.prog.info? 24).map (·.size) = some 2 := by kernel_rfl
end Go.Proofs.YtinndbipomlokaaGreat
