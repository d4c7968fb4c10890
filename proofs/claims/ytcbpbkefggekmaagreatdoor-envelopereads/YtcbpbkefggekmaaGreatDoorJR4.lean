/- lists compared; batches and certs compared; what was held, compared; requests and batches as bytes: the program's and the document's; A plain region, operation  -/
import Derived.Test.YtcbpbkefggekmaaGreatDoorJR0
import Derived.Test.YtcbpbkefggekmaaGreatDoorJR3
import Derived.Test.YtcbpbkefggekmaaGreatDoorJR2
import Derived.Laws.MakeOwn
import Derived.Deep.OwnRows
import Derived.Test.YtcbpbkefggekmaaGreatDoorJR1
import Derived.Deep.Upon
namespace Go.Proofs.YtcbpbkefggekmaaGreatDoor
open Go.RowKit
open Sha Tal
def sameL {α : Type} (B : α → α → Bool) : List α → List α → Bool
  | [], [] => true
  | x :: xs, y :: ys => B x y && sameL B xs ys
  | _, _ => false
theorem sameL_iff {α : Type} {B : α → α → Bool} (h : ∀ x y, B x y = true ↔ x = y) : ∀ xs ys : List α, sameL B xs ys = true ↔ xs = ys
  | [], [] => by simp [sameL]
  | x :: xs, y :: ys => by simp [sameL, h, sameL_iff h xs ys]
  | [], _ :: _ => by simp [sameL]
  | _ :: _, [] => by simp [sameL]
set_option maxRecDepth 100000 in
set_option maxHeartbeats 2000000 in
theorem equalS_any (a : Option Addr) (cap : Nat) (rs : List Sg) (a' : Option Addr) (cap' : Nat) (rs' : List Sg) (w : World) (h : RowsAt SgE w a rs) (h' : RowsAt SgE w a' rs') :
  Calls Tryz.prog 134 #[.slice a rs.length cap, .slice a' rs'.length cap'] w fun e w' => ((e = .returned (.bool true) ∧ rs = rs') ∨ (e = .returned (.bool false) ∧ ¬ rs = rs')) ∧ Below w.heap.size w w' := by
 have hml := h.1
 have hml' := h'.1
 unfold maxLen at hml hml'
 have hall := h.2.1
 have hall' := h'.2.1
 by_cases hlen : rs.length = rs'.length
 rotate_left
 ·have e0 : ((rs.length : Int) == rs'.length) = false := by simp; omega
  have HL := hide hlen
  clear hlen
  go_enter Tryz.func134, Tryz.ntmps134
  go_wp2
  go_ret
  exact ⟨.inr ⟨rfl, fun hh => HL.out (by rw [hh])⟩, Below.refl _ _⟩
 ·have e0 : ((rs.length : Int) == rs'.length) = true := by simp; omega
  have HL := hide hlen
  clear hlen
  go_enter Tryz.func134, Tryz.ntmps134
  go_wp2
  go_loopw [13] (fun iv wr => ∃ k : Nat, k ≤ rs.length ∧ iv = .int .i64 (k : Int) ∧ Hid (∀ j (hj : j < rs.length) (hj' : j < rs'.length), j < k → rs[j] = rs'[j]) ∧ Below w.heap.size w wr) (fun iv _ => rs.length - (intOf iv).toNat)
  case atStart => exact ⟨0, by omega, rfl, hide (fun j _ _ hj => absurd hj (by omega)), Below.refl _ _⟩
  case round =>
   clear e0
   obtain ⟨k, hk, rfl, HM, hB⟩ := hrel
   by_cases hlt : k < rs.length
   ·have k1 : (k : Int) < rs.length := by omega
    have hlt' : k < rs'.length := by have := HL.out; omega
    have k1' : (k : Int) < rs'.length := by omega
    obtain ⟨b, off, rfl, hb, hre⟩ := (h.below hB).elem k hlt
    have hre : wr.rangeAt b (off + k * 17) rs[k].cells := hre
    obtain ⟨b', off', rfl, hb', hre'⟩ := (h'.below hB).elem k hlt'
    have hre' : wr.rangeAt b' (off' + k * 17) rs'[k].cells := hre'
    obtain ⟨r, hr⟩ : ∃ r, Hid (rs[k] = r) := ⟨_, hide rfl⟩
    obtain ⟨r', hr'⟩ : ∃ r', Hid (rs'[k] = r') := ⟨_, hide rfl⟩
    have hok : r.ok := by rw [← hr.out]; exact hall _ (List.getElem_mem hlt)
    have hok' : r'.ok := by rw [← hr'.out]; exact hall' _ (List.getElem_mem hlt')
    rw [hr.out] at hre
    rw [hr'.out] at hre'
    have HM' : Hid (r = r' → ∀ j (hj : j < rs.length) (hj' : j < rs'.length), j < k + 1 → rs[j] = rs'[j]) := hide (fun hp j hj hj' hjk => by
     by_cases e : j = k
     ·subst e; rw [hr.out, hr'.out]; exact hp
     ·exact HM.out j hj hj' (by omega))
    have HN' : Hid (r ≠ r' → rs ≠ rs') := hide (fun hp he => by
     apply hp
     rw [← hr.out, ← hr'.out]
     subst he
     rfl)
    clear hr hr' HM
    have hiu : (Tryz.prog.info? 133).map (·.size) = some r.cells.length := by rw [show r.cells.length = 17 from SgE.len r hok]; kernel_rfl
    have hiu' : (Tryz.prog.info? 133).map (·.size) = some r'.cells.length := by rw [show r'.cells.length = 17 from SgE.len r' hok']; kernel_rfl
    have hne := fun w0 => Sg.eq10 r r' hok hok' w0
    obtain ⟨u, hu⟩ : ∃ u, Hid (r.cells = u) := ⟨_, hide rfl⟩
    obtain ⟨u', hu'⟩ : ∃ u', Hid (r'.cells = u') := ⟨_, hide rfl⟩
    rw [hu.out] at hre hiu
    rw [hu'.out] at hre' hiu'
    simp only [hu.out, hu'.out] at hne
    clear hu hu' hok hok'
    by_cases hrr : r = r'
    ·have e1 : Sg.B r r' = true := Sg.B_iff.2 hrr
     rw [e1] at hne
     have HR := hide hrr
     clear hrr e1
     go_upto_region 6 with fail
     obtain ⟨w5, hw5⟩ : ∃ w5, wr.drew = w5 := ⟨_, rfl⟩
     have hB5 : Below w.heap.size w w5 := by rw [← hw5]; exact hB.drew
     have hre5 : w5.rangeAt b (off + k * 17) u := by rw [← hw5]; exact (World.rangeAt_drew _ _ _ _).2 hre
     have hre5' : w5.rangeAt b' (off' + k * 17) u' := by rw [← hw5]; exact (World.rangeAt_drew _ _ _ _).2 hre'
     have hb5 : b < w5.heap.size := by rw [← hw5]; exact hb
     have hb5' : b' < w5.heap.size := by rw [← hw5]; exact hb'
     refine hs_begin (S := (Below w5.heap.size w5)) 9 rfl (by kernel_rfl) ?_
     rw [hw5]
     clear hw5 hB hre hre' hb hb'
     have hS : (Below w5.heap.size w5) w5 := Below.refl _ _
     refine hs_t 0 16 (?_) rfl (by kernel_rfl) (by kernel_rfl) (by kernel_rfl) (by rfl) ?_ hS rfl ?_
     rotate_left
     ·intro w' hw
      go_simp
      try with_reducible rfl
     simp only [nz]
     refine hs_t 1 17 (?_) rfl (by kernel_rfl) (by kernel_rfl) (by kernel_rfl) (by rfl) ?_ hS rfl ?_
     rotate_left
     ·intro w' hw
      go_simp
      try with_reducible rfl
     simp only [nz]
     refine hs_t 2 18 (?_) rfl (by kernel_rfl) (by kernel_rfl) (by kernel_rfl) (by rfl) ?_ hS rfl ?_
     rotate_left
     ·intro w' hw
      go_simp
      try with_reducible rfl
     simp only [nz]
     refine hs_t 3 19 (.agg u.toArray) rfl (by kernel_rfl) (by kernel_rfl) (by kernel_rfl) (by rfl) (fun w' hw => exec_loadC rfl rfl (run_loadVar_mid (P := Tryz.prog) w' b (off + k * 17) 133 u _ (range_below hre5 hw hb5) Tryz.underlying133 rfl hiu)) hS rfl ?_
     simp only [nz]
     refine hs_t 4 20 (?_) rfl (by kernel_rfl) (by kernel_rfl) (by kernel_rfl) (by rfl) ?_ hS rfl ?_
     rotate_left
     ·intro w' hw
      go_simp
      try with_reducible rfl
     simp only [nz]
     refine hs_t 5 21 (?_) rfl (by kernel_rfl) (by kernel_rfl) (by kernel_rfl) (by rfl) ?_ hS rfl ?_
     rotate_left
     ·intro w' hw
      go_simp
      try with_reducible rfl
     simp only [nz]
     refine hs_t 6 22 (?_) rfl (by kernel_rfl) (by kernel_rfl) (by kernel_rfl) (by rfl) ?_ hS rfl ?_
     rotate_left
     ·intro w' hw
      go_simp
      try with_reducible rfl
     simp only [nz]
     refine hs_t 7 23 (.agg u'.toArray) rfl (by kernel_rfl) (by kernel_rfl) (by kernel_rfl) (by rfl) (fun w' hw => exec_loadC rfl rfl (run_loadVar_mid (P := Tryz.prog) w' b' (off' + k * 17) 133 u' _ (range_below hre5' hw hb5') Tryz.underlying133 rfl hiu')) hS rfl ?_
     simp only [nz]
     refine hs_t 8 24 (.bool false) rfl (by kernel_rfl) (by kernel_rfl) (by kernel_rfl) (by rfl) (fun w' hw => by have hc := hne w'; go_simp) hS rfl ?_
     simp only [nz]
     refine hs_done (by kernel_rfl) ?_
     go_wp2
     go_roundw
     case rel => exact ⟨k + 1, by omega, by go_num, hide (HM'.out HR.out), hB5⟩
     case measure => simp [intOf]; omega
    ·have e1 : Sg.B r r' = false := by
      cases hx : Sg.B r r'
      ·rfl
      ·exact absurd (Sg.B_iff.1 hx) hrr
     rw [e1] at hne
     have HR := hide hrr
     clear hrr e1
     go_upto_region 6 with fail
     obtain ⟨w5, hw5⟩ : ∃ w5, wr.drew = w5 := ⟨_, rfl⟩
     have hB5 : Below w.heap.size w w5 := by rw [← hw5]; exact hB.drew
     have hre5 : w5.rangeAt b (off + k * 17) u := by rw [← hw5]; exact (World.rangeAt_drew _ _ _ _).2 hre
     have hre5' : w5.rangeAt b' (off' + k * 17) u' := by rw [← hw5]; exact (World.rangeAt_drew _ _ _ _).2 hre'
     have hb5 : b < w5.heap.size := by rw [← hw5]; exact hb
     have hb5' : b' < w5.heap.size := by rw [← hw5]; exact hb'
     refine hs_begin (S := (Below w5.heap.size w5)) 9 rfl (by kernel_rfl) ?_
     rw [hw5]
     clear hw5 hB hre hre' hb hb'
     have hS : (Below w5.heap.size w5) w5 := Below.refl _ _
     refine hs_t 0 16 (?_) rfl (by kernel_rfl) (by kernel_rfl) (by kernel_rfl) (by rfl) ?_ hS rfl ?_
     rotate_left
     ·intro w' hw
      go_simp
      try with_reducible rfl
     simp only [nz]
     refine hs_t 1 17 (?_) rfl (by kernel_rfl) (by kernel_rfl) (by kernel_rfl) (by rfl) ?_ hS rfl ?_
     rotate_left
     ·intro w' hw
      go_simp
      try with_reducible rfl
     simp only [nz]
     refine hs_t 2 18 (?_) rfl (by kernel_rfl) (by kernel_rfl) (by kernel_rfl) (by rfl) ?_ hS rfl ?_
     rotate_left
     ·intro w' hw
      go_simp
      try with_reducible rfl
     simp only [nz]
     refine hs_t 3 19 (.agg u.toArray) rfl (by kernel_rfl) (by kernel_rfl) (by kernel_rfl) (by rfl) (fun w' hw => exec_loadC rfl rfl (run_loadVar_mid (P := Tryz.prog) w' b (off + k * 17) 133 u _ (range_below hre5 hw hb5) Tryz.underlying133 rfl hiu)) hS rfl ?_
     simp only [nz]
     refine hs_t 4 20 (?_) rfl (by kernel_rfl) (by kernel_rfl) (by kernel_rfl) (by rfl) ?_ hS rfl ?_
     rotate_left
     ·intro w' hw
      go_simp
      try with_reducible rfl
     simp only [nz]
     refine hs_t 5 21 (?_) rfl (by kernel_rfl) (by kernel_rfl) (by kernel_rfl) (by rfl) ?_ hS rfl ?_
     rotate_left
     ·intro w' hw
      go_simp
      try with_reducible rfl
     simp only [nz]
     refine hs_t 6 22 (?_) rfl (by kernel_rfl) (by kernel_rfl) (by kernel_rfl) (by rfl) ?_ hS rfl ?_
     rotate_left
     ·intro w' hw
      go_simp
      try with_reducible rfl
     simp only [nz]
     refine hs_t 7 23 (.agg u'.toArray) rfl (by kernel_rfl) (by kernel_rfl) (by kernel_rfl) (by rfl) (fun w' hw => exec_loadC rfl rfl (run_loadVar_mid (P := Tryz.prog) w' b' (off' + k * 17) 133 u' _ (range_below hre5' hw hb5') Tryz.underlying133 rfl hiu')) hS rfl ?_
     simp only [nz]
     refine hs_t 8 24 (.bool true) rfl (by kernel_rfl) (by kernel_rfl) (by kernel_rfl) (by rfl) (fun w' hw => by have hc := hne w'; go_simp) hS rfl ?_
     simp only [nz]
     refine hs_done (by kernel_rfl) ?_
     go_wp2
     go_ret
     exact ⟨.inr ⟨rfl, fun hh => HN'.out HR.out hh⟩, hB5⟩
   ·have k1 : ¬ (k : Int) < rs.length := by omega
    have HE : Hid (rs = rs') := hide (List.ext_getElem HL.out (fun j hj hj' => HM.out j hj hj' (by omega)))
    clear HM
    go_wp2
    go_ret
    exact ⟨.inl ⟨rfl, HE.out⟩, hB⟩
theorem equalS_anyB (a : Option Addr) (cap : Nat) (rs : List Sg) (a' : Option Addr) (cap' : Nat) (rs' : List Sg) (w : World) (h : RowsAt SgE w a rs) (h' : RowsAt SgE w a' rs') :
  Calls Tryz.prog 134 #[.slice a rs.length cap, .slice a' rs'.length cap'] w fun e w' => e = .returned (.bool (sameL Sg.B rs rs')) ∧ Below w.heap.size w w' := by
 refine (equalS_any a cap rs a' cap' rs' w h h').mono ?_
 rintro e w1 ⟨hc, hb⟩
 have I := sameL_iff (fun x y => Sg.B_iff (x := x) (y := y)) rs rs'
 refine ⟨?_, hb⟩
 rcases hc with ⟨rfl, he⟩ | ⟨rfl, he⟩
 ·rw [I.2 he]
 ·cases hq : sameL Sg.B rs rs'
  ·rfl
  ·exact absurd (I.1 hq) he
set_option maxRecDepth 100000 in
set_option maxHeartbeats 2000000 in
theorem equalE_any (a : Option Addr) (cap : Nat) (rs : List Ev) (a' : Option Addr) (cap' : Nat) (rs' : List Ev) (w : World) (h : RowsAt EvE w a rs) (h' : RowsAt EvE w a' rs') :
  Calls Tryz.prog 132 #[.slice a rs.length cap, .slice a' rs'.length cap'] w fun e w' => ((e = .returned (.bool true) ∧ rs = rs') ∨ (e = .returned (.bool false) ∧ ¬ rs = rs')) ∧ Below w.heap.size w w' := by
 have hml := h.1
 have hml' := h'.1
 unfold maxLen at hml hml'
 have hall := h.2.1
 have hall' := h'.2.1
 by_cases hlen : rs.length = rs'.length
 rotate_left
 ·have e0 : ((rs.length : Int) == rs'.length) = false := by simp; omega
  have HL := hide hlen
  clear hlen
  go_enter Tryz.func132, Tryz.ntmps132
  go_wp2
  go_ret
  exact ⟨.inr ⟨rfl, fun hh => HL.out (by rw [hh])⟩, Below.refl _ _⟩
 ·have e0 : ((rs.length : Int) == rs'.length) = true := by simp; omega
  have HL := hide hlen
  clear hlen
  go_enter Tryz.func132, Tryz.ntmps132
  go_wp2
  go_loopw [13] (fun iv wr => ∃ k : Nat, k ≤ rs.length ∧ iv = .int .i64 (k : Int) ∧ Hid (∀ j (hj : j < rs.length) (hj' : j < rs'.length), j < k → rs[j] = rs'[j]) ∧ Below w.heap.size w wr) (fun iv _ => rs.length - (intOf iv).toNat)
  case atStart => exact ⟨0, by omega, rfl, hide (fun j _ _ hj => absurd hj (by omega)), Below.refl _ _⟩
  case round =>
   clear e0
   obtain ⟨k, hk, rfl, HM, hB⟩ := hrel
   by_cases hlt : k < rs.length
   ·have k1 : (k : Int) < rs.length := by omega
    have hlt' : k < rs'.length := by have := HL.out; omega
    have k1' : (k : Int) < rs'.length := by omega
    obtain ⟨b, off, rfl, hb, hre⟩ := (h.below hB).elem k hlt
    have hre : wr.rangeAt b (off + k * 18) rs[k].cells := hre
    obtain ⟨b', off', rfl, hb', hre'⟩ := (h'.below hB).elem k hlt'
    have hre' : wr.rangeAt b' (off' + k * 18) rs'[k].cells := hre'
    obtain ⟨r, hr⟩ : ∃ r, Hid (rs[k] = r) := ⟨_, hide rfl⟩
    obtain ⟨r', hr'⟩ : ∃ r', Hid (rs'[k] = r') := ⟨_, hide rfl⟩
    have hok : r.ok := by rw [← hr.out]; exact hall _ (List.getElem_mem hlt)
    have hok' : r'.ok := by rw [← hr'.out]; exact hall' _ (List.getElem_mem hlt')
    rw [hr.out] at hre
    rw [hr'.out] at hre'
    have HM' : Hid (r = r' → ∀ j (hj : j < rs.length) (hj' : j < rs'.length), j < k + 1 → rs[j] = rs'[j]) := hide (fun hp j hj hj' hjk => by
     by_cases e : j = k
     ·subst e; rw [hr.out, hr'.out]; exact hp
     ·exact HM.out j hj hj' (by omega))
    have HN' : Hid (r ≠ r' → rs ≠ rs') := hide (fun hp he => by
     apply hp
     rw [← hr.out, ← hr'.out]
     subst he
     rfl)
    clear hr hr' HM
    have hiu : (Tryz.prog.info? 25).map (·.size) = some r.cells.length := by rw [show r.cells.length = 18 from EvE.len r hok]; kernel_rfl
    have hiu' : (Tryz.prog.info? 25).map (·.size) = some r'.cells.length := by rw [show r'.cells.length = 18 from EvE.len r' hok']; kernel_rfl
    have hne := fun w0 => Ev.eq10 r r' hok hok' w0
    obtain ⟨u, hu⟩ : ∃ u, Hid (r.cells = u) := ⟨_, hide rfl⟩
    obtain ⟨u', hu'⟩ : ∃ u', Hid (r'.cells = u') := ⟨_, hide rfl⟩
    rw [hu.out] at hre hiu
    rw [hu'.out] at hre' hiu'
    simp only [hu.out, hu'.out] at hne
    clear hu hu' hok hok'
    by_cases hrr : r = r'
    ·have e1 : Ev.B r r' = true := Ev.B_iff.2 hrr
     rw [e1] at hne
     have HR := hide hrr
     clear hrr e1
     go_upto_region 6 with fail
     obtain ⟨w5, hw5⟩ : ∃ w5, wr.drew = w5 := ⟨_, rfl⟩
     have hB5 : Below w.heap.size w w5 := by rw [← hw5]; exact hB.drew
     have hre5 : w5.rangeAt b (off + k * 18) u := by rw [← hw5]; exact (World.rangeAt_drew _ _ _ _).2 hre
     have hre5' : w5.rangeAt b' (off' + k * 18) u' := by rw [← hw5]; exact (World.rangeAt_drew _ _ _ _).2 hre'
     have hb5 : b < w5.heap.size := by rw [← hw5]; exact hb
     have hb5' : b' < w5.heap.size := by rw [← hw5]; exact hb'
     refine hs_begin (S := (Below w5.heap.size w5)) 9 rfl (by kernel_rfl) ?_
     rw [hw5]
     clear hw5 hB hre hre' hb hb'
     have hS : (Below w5.heap.size w5) w5 := Below.refl _ _
     refine hs_t 0 16 (?_) rfl (by kernel_rfl) (by kernel_rfl) (by kernel_rfl) (by rfl) ?_ hS rfl ?_
     rotate_left
     ·intro w' hw
      go_simp
      try with_reducible rfl
     simp only [nz]
     refine hs_t 1 17 (?_) rfl (by kernel_rfl) (by kernel_rfl) (by kernel_rfl) (by rfl) ?_ hS rfl ?_
     rotate_left
     ·intro w' hw
      go_simp
      try with_reducible rfl
     simp only [nz]
     refine hs_t 2 18 (?_) rfl (by kernel_rfl) (by kernel_rfl) (by kernel_rfl) (by rfl) ?_ hS rfl ?_
     rotate_left
     ·intro w' hw
      go_simp
      try with_reducible rfl
     simp only [nz]
     refine hs_t 3 19 (.agg u.toArray) rfl (by kernel_rfl) (by kernel_rfl) (by kernel_rfl) (by rfl) (fun w' hw => exec_loadC rfl rfl (run_loadVar_mid (P := Tryz.prog) w' b (off + k * 18) 25 u _ (range_below hre5 hw hb5) Tryz.underlying25 rfl hiu)) hS rfl ?_
     simp only [nz]
     refine hs_t 4 20 (?_) rfl (by kernel_rfl) (by kernel_rfl) (by kernel_rfl) (by rfl) ?_ hS rfl ?_
     rotate_left
     ·intro w' hw
      go_simp
      try with_reducible rfl
     simp only [nz]
     refine hs_t 5 21 (?_) rfl (by kernel_rfl) (by kernel_rfl) (by kernel_rfl) (by rfl) ?_ hS rfl ?_
     rotate_left
     ·intro w' hw
      go_simp
      try with_reducible rfl
     simp only [nz]
     refine hs_t 6 22 (?_) rfl (by kernel_rfl) (by kernel_rfl) (by kernel_rfl) (by rfl) ?_ hS rfl ?_
     rotate_left
     ·intro w' hw
      go_simp
      try with_reducible rfl
     simp only [nz]
     refine hs_t 7 23 (.agg u'.toArray) rfl (by kernel_rfl) (by kernel_rfl) (by kernel_rfl) (by rfl) (fun w' hw => exec_loadC rfl rfl (run_loadVar_mid (P := Tryz.prog) w' b' (off' + k * 18) 25 u' _ (range_below hre5' hw hb5') Tryz.underlying25 rfl hiu')) hS rfl ?_
     simp only [nz]
     refine hs_t 8 24 (.bool false) rfl (by kernel_rfl) (by kernel_rfl) (by kernel_rfl) (by rfl) (fun w' hw => by have hc := hne w'; go_simp) hS rfl ?_
     simp only [nz]
     refine hs_done (by kernel_rfl) ?_
     go_wp2
     go_roundw
     case rel => exact ⟨k + 1, by omega, by go_num, hide (HM'.out HR.out), hB5⟩
     case measure => simp [intOf]; omega
    ·have e1 : Ev.B r r' = false := by
      cases hx : Ev.B r r'
      ·rfl
      ·exact absurd (Ev.B_iff.1 hx) hrr
     rw [e1] at hne
     have HR := hide hrr
     clear hrr e1
     go_upto_region 6 with fail
     obtain ⟨w5, hw5⟩ : ∃ w5, wr.drew = w5 := ⟨_, rfl⟩
     have hB5 : Below w.heap.size w w5 := by rw [← hw5]; exact hB.drew
     have hre5 : w5.rangeAt b (off + k * 18) u := by rw [← hw5]; exact (World.rangeAt_drew _ _ _ _).2 hre
     have hre5' : w5.rangeAt b' (off' + k * 18) u' := by rw [← hw5]; exact (World.rangeAt_drew _ _ _ _).2 hre'
     have hb5 : b < w5.heap.size := by rw [← hw5]; exact hb
     have hb5' : b' < w5.heap.size := by rw [← hw5]; exact hb'
     refine hs_begin (S := (Below w5.heap.size w5)) 9 rfl (by kernel_rfl) ?_
     rw [hw5]
     clear hw5 hB hre hre' hb hb'
     have hS : (Below w5.heap.size w5) w5 := Below.refl _ _
     refine hs_t 0 16 (?_) rfl (by kernel_rfl) (by kernel_rfl) (by kernel_rfl) (by rfl) ?_ hS rfl ?_
     rotate_left
     ·intro w' hw
      go_simp
      try with_reducible rfl
     simp only [nz]
     refine hs_t 1 17 (?_) rfl (by kernel_rfl) (by kernel_rfl) (by kernel_rfl) (by rfl) ?_ hS rfl ?_
     rotate_left
     ·intro w' hw
      go_simp
      try with_reducible rfl
     simp only [nz]
     refine hs_t 2 18 (?_) rfl (by kernel_rfl) (by kernel_rfl) (by kernel_rfl) (by rfl) ?_ hS rfl ?_
     rotate_left
     ·intro w' hw
      go_simp
      try with_reducible rfl
     simp only [nz]
     refine hs_t 3 19 (.agg u.toArray) rfl (by kernel_rfl) (by kernel_rfl) (by kernel_rfl) (by rfl) (fun w' hw => exec_loadC rfl rfl (run_loadVar_mid (P := Tryz.prog) w' b (off + k * 18) 25 u _ (range_below hre5 hw hb5) Tryz.underlying25 rfl hiu)) hS rfl ?_
     simp only [nz]
     refine hs_t 4 20 (?_) rfl (by kernel_rfl) (by kernel_rfl) (by kernel_rfl) (by rfl) ?_ hS rfl ?_
     rotate_left
     ·intro w' hw
      go_simp
      try with_reducible rfl
     simp only [nz]
     refine hs_t 5 21 (?_) rfl (by kernel_rfl) (by kernel_rfl) (by kernel_rfl) (by rfl) ?_ hS rfl ?_
     rotate_left
     ·intro w' hw
      go_simp
      try with_reducible rfl
     simp only [nz]
     refine hs_t 6 22 (?_) rfl (by kernel_rfl) (by kernel_rfl) (by kernel_rfl) (by rfl) ?_ hS rfl ?_
     rotate_left
     ·intro w' hw
      go_simp
      try with_reducible rfl
     simp only [nz]
     refine hs_t 7 23 (.agg u'.toArray) rfl (by kernel_rfl) (by kernel_rfl) (by kernel_rfl) (by rfl) (fun w' hw => exec_loadC rfl rfl (run_loadVar_mid (P := Tryz.prog) w' b' (off' + k * 18) 25 u' _ (range_below hre5' hw hb5') Tryz.underlying25 rfl hiu')) hS rfl ?_
     simp only [nz]
     refine hs_t 8 24 (.bool true) rfl (by kernel_rfl) (by kernel_rfl) (by kernel_rfl) (by rfl) (fun w' hw => by have hc := hne w'; go_simp) hS rfl ?_
     simp only [nz]
     refine hs_done (by kernel_rfl) ?_
     go_wp2
     go_ret
     exact ⟨.inr ⟨rfl, fun hh => HN'.out HR.out hh⟩, hB5⟩
   ·have k1 : ¬ (k : Int) < rs.length := by omega
    have HE : Hid (rs = rs') := hide (List.ext_getElem HL.out (fun j hj hj' => HM.out j hj hj' (by omega)))
    clear HM
    go_wp2
    go_ret
    exact ⟨.inl ⟨rfl, HE.out⟩, hB⟩
theorem equalE_anyB (a : Option Addr) (cap : Nat) (rs : List Ev) (a' : Option Addr) (cap' : Nat) (rs' : List Ev) (w : World) (h : RowsAt EvE w a rs) (h' : RowsAt EvE w a' rs') :
  Calls Tryz.prog 132 #[.slice a rs.length cap, .slice a' rs'.length cap'] w fun e w' => e = .returned (.bool (sameL Ev.B rs rs')) ∧ Below w.heap.size w w' := by
 refine (equalE_any a cap rs a' cap' rs' w h h').mono ?_
 rintro e w1 ⟨hc, hb⟩
 have I := sameL_iff (fun x y => Ev.B_iff (x := x) (y := y)) rs rs'
 refine ⟨?_, hb⟩
 rcases hc with ⟨rfl, he⟩ | ⟨rfl, he⟩
 ·rw [I.2 he]
 ·cases hq : sameL Ev.B rs rs'
  ·rfl
  ·exact absurd (I.1 hq) he
set_option maxRecDepth 100000 in
set_option maxHeartbeats 2000000 in
theorem equalQ_any (a : Option Addr) (cap : Nat) (rs : List Rq) (a' : Option Addr) (cap' : Nat) (rs' : List Rq) (w : World) (h : RowsAt RqE w a rs) (h' : RowsAt RqE w a' rs') :
  Calls Tryz.prog 162 #[.slice a rs.length cap, .slice a' rs'.length cap'] w fun e w' => ((e = .returned (.bool true) ∧ rs = rs') ∨ (e = .returned (.bool false) ∧ ¬ rs = rs')) ∧ Below w.heap.size w w' := by
 have hml := h.1
 have hml' := h'.1
 unfold maxLen at hml hml'
 have hall := h.2.1
 have hall' := h'.2.1
 by_cases hlen : rs.length = rs'.length
 rotate_left
 ·have e0 : ((rs.length : Int) == rs'.length) = false := by simp; omega
  have HL := hide hlen
  clear hlen
  go_enter Tryz.func162, Tryz.ntmps162
  go_wp2
  go_ret
  exact ⟨.inr ⟨rfl, fun hh => HL.out (by rw [hh])⟩, Below.refl _ _⟩
 ·have e0 : ((rs.length : Int) == rs'.length) = true := by simp; omega
  have HL := hide hlen
  clear hlen
  go_enter Tryz.func162, Tryz.ntmps162
  go_wp2
  go_loopw [13] (fun iv wr => ∃ k : Nat, k ≤ rs.length ∧ iv = .int .i64 (k : Int) ∧ Hid (∀ j (hj : j < rs.length) (hj' : j < rs'.length), j < k → rs[j] = rs'[j]) ∧ Below w.heap.size w wr) (fun iv _ => rs.length - (intOf iv).toNat)
  case atStart => exact ⟨0, by omega, rfl, hide (fun j _ _ hj => absurd hj (by omega)), Below.refl _ _⟩
  case round =>
   clear e0
   obtain ⟨k, hk, rfl, HM, hB⟩ := hrel
   by_cases hlt : k < rs.length
   ·have k1 : (k : Int) < rs.length := by omega
    have hlt' : k < rs'.length := by have := HL.out; omega
    have k1' : (k : Int) < rs'.length := by omega
    obtain ⟨b, off, rfl, hb, hre⟩ := (h.below hB).elem k hlt
    have hre : wr.rangeAt b (off + k * 19) rs[k].cells := hre
    obtain ⟨b', off', rfl, hb', hre'⟩ := (h'.below hB).elem k hlt'
    have hre' : wr.rangeAt b' (off' + k * 19) rs'[k].cells := hre'
    obtain ⟨r, hr⟩ : ∃ r, Hid (rs[k] = r) := ⟨_, hide rfl⟩
    obtain ⟨r', hr'⟩ : ∃ r', Hid (rs'[k] = r') := ⟨_, hide rfl⟩
    have hok : r.ok := by rw [← hr.out]; exact hall _ (List.getElem_mem hlt)
    have hok' : r'.ok := by rw [← hr'.out]; exact hall' _ (List.getElem_mem hlt')
    rw [hr.out] at hre
    rw [hr'.out] at hre'
    have HM' : Hid (r = r' → ∀ j (hj : j < rs.length) (hj' : j < rs'.length), j < k + 1 → rs[j] = rs'[j]) := hide (fun hp j hj hj' hjk => by
     by_cases e : j = k
     ·subst e; rw [hr.out, hr'.out]; exact hp
     ·exact HM.out j hj hj' (by omega))
    have HN' : Hid (r ≠ r' → rs ≠ rs') := hide (fun hp he => by
     apply hp
     rw [← hr.out, ← hr'.out]
     subst he
     rfl)
    clear hr hr' HM
    have hiu : (Tryz.prog.info? 81).map (·.size) = some r.cells.length := by rw [show r.cells.length = 19 from RqE.len r hok]; kernel_rfl
    have hiu' : (Tryz.prog.info? 81).map (·.size) = some r'.cells.length := by rw [show r'.cells.length = 19 from RqE.len r' hok']; kernel_rfl
    have hne := fun w0 => Rq.eq10 r r' hok hok' w0
    obtain ⟨u, hu⟩ : ∃ u, Hid (r.cells = u) := ⟨_, hide rfl⟩
    obtain ⟨u', hu'⟩ : ∃ u', Hid (r'.cells = u') := ⟨_, hide rfl⟩
    rw [hu.out] at hre hiu
    rw [hu'.out] at hre' hiu'
    simp only [hu.out, hu'.out] at hne
    clear hu hu' hok hok'
    by_cases hrr : r = r'
    ·have e1 : Rq.B r r' = true := Rq.B_iff.2 hrr
     rw [e1] at hne
     have HR := hide hrr
     clear hrr e1
     go_upto_region 6 with fail
     obtain ⟨w5, hw5⟩ : ∃ w5, wr.drew = w5 := ⟨_, rfl⟩
     have hB5 : Below w.heap.size w w5 := by rw [← hw5]; exact hB.drew
     have hre5 : w5.rangeAt b (off + k * 19) u := by rw [← hw5]; exact (World.rangeAt_drew _ _ _ _).2 hre
     have hre5' : w5.rangeAt b' (off' + k * 19) u' := by rw [← hw5]; exact (World.rangeAt_drew _ _ _ _).2 hre'
     have hb5 : b < w5.heap.size := by rw [← hw5]; exact hb
     have hb5' : b' < w5.heap.size := by rw [← hw5]; exact hb'
     refine hs_begin (S := (Below w5.heap.size w5)) 9 rfl (by kernel_rfl) ?_
     rw [hw5]
     clear hw5 hB hre hre' hb hb'
     have hS : (Below w5.heap.size w5) w5 := Below.refl _ _
     refine hs_t 0 16 (?_) rfl (by kernel_rfl) (by kernel_rfl) (by kernel_rfl) (by rfl) ?_ hS rfl ?_
     rotate_left
     ·intro w' hw
      go_simp
      try with_reducible rfl
     simp only [nz]
     refine hs_t 1 17 (?_) rfl (by kernel_rfl) (by kernel_rfl) (by kernel_rfl) (by rfl) ?_ hS rfl ?_
     rotate_left
     ·intro w' hw
      go_simp
      try with_reducible rfl
     simp only [nz]
     refine hs_t 2 18 (?_) rfl (by kernel_rfl) (by kernel_rfl) (by kernel_rfl) (by rfl) ?_ hS rfl ?_
     rotate_left
     ·intro w' hw
      go_simp
      try with_reducible rfl
     simp only [nz]
     refine hs_t 3 19 (.agg u.toArray) rfl (by kernel_rfl) (by kernel_rfl) (by kernel_rfl) (by rfl) (fun w' hw => exec_loadC rfl rfl (run_loadVar_mid (P := Tryz.prog) w' b (off + k * 19) 81 u _ (range_below hre5 hw hb5) Tryz.underlying81 rfl hiu)) hS rfl ?_
     simp only [nz]
     refine hs_t 4 20 (?_) rfl (by kernel_rfl) (by kernel_rfl) (by kernel_rfl) (by rfl) ?_ hS rfl ?_
     rotate_left
     ·intro w' hw
      go_simp
      try with_reducible rfl
     simp only [nz]
     refine hs_t 5 21 (?_) rfl (by kernel_rfl) (by kernel_rfl) (by kernel_rfl) (by rfl) ?_ hS rfl ?_
     rotate_left
     ·intro w' hw
      go_simp
      try with_reducible rfl
     simp only [nz]
     refine hs_t 6 22 (?_) rfl (by kernel_rfl) (by kernel_rfl) (by kernel_rfl) (by rfl) ?_ hS rfl ?_
     rotate_left
     ·intro w' hw
      go_simp
      try with_reducible rfl
     simp only [nz]
     refine hs_t 7 23 (.agg u'.toArray) rfl (by kernel_rfl) (by kernel_rfl) (by kernel_rfl) (by rfl) (fun w' hw => exec_loadC rfl rfl (run_loadVar_mid (P := Tryz.prog) w' b' (off' + k * 19) 81 u' _ (range_below hre5' hw hb5') Tryz.underlying81 rfl hiu')) hS rfl ?_
     simp only [nz]
     refine hs_t 8 24 (.bool false) rfl (by kernel_rfl) (by kernel_rfl) (by kernel_rfl) (by rfl) (fun w' hw => by have hc := hne w'; go_simp) hS rfl ?_
     simp only [nz]
     refine hs_done (by kernel_rfl) ?_
     go_wp2
     go_roundw
     case rel => exact ⟨k + 1, by omega, by go_num, hide (HM'.out HR.out), hB5⟩
     case measure => simp [intOf]; omega
    ·have e1 : Rq.B r r' = false := by
      cases hx : Rq.B r r'
      ·rfl
      ·exact absurd (Rq.B_iff.1 hx) hrr
     rw [e1] at hne
     have HR := hide hrr
     clear hrr e1
     go_upto_region 6 with fail
     obtain ⟨w5, hw5⟩ : ∃ w5, wr.drew = w5 := ⟨_, rfl⟩
     have hB5 : Below w.heap.size w w5 := by rw [← hw5]; exact hB.drew
     have hre5 : w5.rangeAt b (off + k * 19) u := by rw [← hw5]; exact (World.rangeAt_drew _ _ _ _).2 hre
     have hre5' : w5.rangeAt b' (off' + k * 19) u' := by rw [← hw5]; exact (World.rangeAt_drew _ _ _ _).2 hre'
     have hb5 : b < w5.heap.size := by rw [← hw5]; exact hb
     have hb5' : b' < w5.heap.size := by rw [← hw5]; exact hb'
     refine hs_begin (S := (Below w5.heap.size w5)) 9 rfl (by kernel_rfl) ?_
     rw [hw5]
     clear hw5 hB hre hre' hb hb'
     have hS : (Below w5.heap.size w5) w5 := Below.refl _ _
     refine hs_t 0 16 (?_) rfl (by kernel_rfl) (by kernel_rfl) (by kernel_rfl) (by rfl) ?_ hS rfl ?_
     rotate_left
     ·intro w' hw
      go_simp
      try with_reducible rfl
     simp only [nz]
     refine hs_t 1 17 (?_) rfl (by kernel_rfl) (by kernel_rfl) (by kernel_rfl) (by rfl) ?_ hS rfl ?_
     rotate_left
     ·intro w' hw
      go_simp
      try with_reducible rfl
     simp only [nz]
     refine hs_t 2 18 (?_) rfl (by kernel_rfl) (by kernel_rfl) (by kernel_rfl) (by rfl) ?_ hS rfl ?_
     rotate_left
     ·intro w' hw
      go_simp
      try with_reducible rfl
     simp only [nz]
     refine hs_t 3 19 (.agg u.toArray) rfl (by kernel_rfl) (by kernel_rfl) (by kernel_rfl) (by rfl) (fun w' hw => exec_loadC rfl rfl (run_loadVar_mid (P := Tryz.prog) w' b (off + k * 19) 81 u _ (range_below hre5 hw hb5) Tryz.underlying81 rfl hiu)) hS rfl ?_
     simp only [nz]
     refine hs_t 4 20 (?_) rfl (by kernel_rfl) (by kernel_rfl) (by kernel_rfl) (by rfl) ?_ hS rfl ?_
     rotate_left
     ·intro w' hw
      go_simp
      try with_reducible rfl
     simp only [nz]
     refine hs_t 5 21 (?_) rfl (by kernel_rfl) (by kernel_rfl) (by kernel_rfl) (by rfl) ?_ hS rfl ?_
     rotate_left
     ·intro w' hw
      go_simp
      try with_reducible rfl
     simp only [nz]
     refine hs_t 6 22 (?_) rfl (by kernel_rfl) (by kernel_rfl) (by kernel_rfl) (by rfl) ?_ hS rfl ?_
     rotate_left
     ·intro w' hw
      go_simp
      try with_reducible rfl
     simp only [nz]
     refine hs_t 7 23 (.agg u'.toArray) rfl (by kernel_rfl) (by kernel_rfl) (by kernel_rfl) (by rfl) (fun w' hw => exec_loadC rfl rfl (run_loadVar_mid (P := Tryz.prog) w' b' (off' + k * 19) 81 u' _ (range_below hre5' hw hb5') Tryz.underlying81 rfl hiu')) hS rfl ?_
     simp only [nz]
     refine hs_t 8 24 (.bool true) rfl (by kernel_rfl) (by kernel_rfl) (by kernel_rfl) (by rfl) (fun w' hw => by have hc := hne w'; go_simp) hS rfl ?_
     simp only [nz]
     refine hs_done (by kernel_rfl) ?_
     go_wp2
     go_ret
     exact ⟨.inr ⟨rfl, fun hh => HN'.out HR.out hh⟩, hB5⟩
   ·have k1 : ¬ (k : Int) < rs.length := by omega
    have HE : Hid (rs = rs') := hide (List.ext_getElem HL.out (fun j hj hj' => HM.out j hj hj' (by omega)))
    clear HM
    go_wp2
    go_ret
    exact ⟨.inl ⟨rfl, HE.out⟩, hB⟩
theorem equalQ_anyB (a : Option Addr) (cap : Nat) (rs : List Rq) (a' : Option Addr) (cap' : Nat) (rs' : List Rq) (w : World) (h : RowsAt RqE w a rs) (h' : RowsAt RqE w a' rs') :
  Calls Tryz.prog 162 #[.slice a rs.length cap, .slice a' rs'.length cap'] w fun e w' => e = .returned (.bool (sameL Rq.B rs rs')) ∧ Below w.heap.size w w' := by
 refine (equalQ_any a cap rs a' cap' rs' w h h').mono ?_
 rintro e w1 ⟨hc, hb⟩
 have I := sameL_iff (fun x y => Rq.B_iff (x := x) (y := y)) rs rs'
 refine ⟨?_, hb⟩
 rcases hc with ⟨rfl, he⟩ | ⟨rfl, he⟩
 ·rw [I.2 he]
 ·cases hq : sameL Rq.B rs rs'
  ·rfl
  ·exact absurd (I.1 hq) he
theorem two_boxG (q q' : List Value) (t : TypeId) (w : World) : ((w.alloc (.cells q.toArray t)).alloc (.cells q'.toArray t)).rangeAt w.heap.size 0 q ∧ ((w.alloc (.cells q.toArray t)).alloc (.cells q'.toArray t)).rangeAt (w.heap.size + 1) 0 q' ∧ Below w.heap.size w ((w.alloc (.cells q.toArray t)).alloc (.cells q'.toArray t)) ∧ w.heap.size + 2 ≤ ((w.alloc (.cells q.toArray t)).alloc (.cells q'.toArray t)).heap.size := by
 have hB : Below w.heap.size w (w.alloc (.cells q.toArray t)) := (Below.refl _ _).alloc (Nat.le_refl _) _
 have hB2 : Below (w.alloc (.cells q.toArray t)).heap.size (w.alloc (.cells q.toArray t)) ((w.alloc (.cells q.toArray t)).alloc (.cells q'.toArray t)) := (Below.refl _ _).alloc (Nat.le_refl _) _
 have h1 := range_new w q.toArray t
 have h2 := range_new (w.alloc (.cells q.toArray t)) q'.toArray t
 rw [World.size_alloc] at h2
 exact ⟨range_below (by simpa using h1) hB2 (by simp), by simpa using h2, hB.trans (hB2.mono (by simp)), by simp⟩
structure Sl (α : Type) where
 a : Option Addr
 cap : Nat
 xs : List α
instance {α : Type} : Inhabited (Sl α) := ⟨⟨none, 0, []⟩⟩
def Sl.val {α : Type} (x : Sl α) : Value := .slice x.a x.xs.length x.cap
def Sl.At {α : Type} (E : El α) (w : World) (x : Sl α) : Prop := RowsAt E w x.a x.xs
theorem Sl.At.below {α : Type} {E : El α} {w w' : World} {x : Sl α} (h : x.At E w) (hb : Below w.heap.size w w') : x.At E w' := RowsAt.below h hb
def batB (q : Bool) (x : Sl Rq) (q' : Bool) (x' : Sl Rq) : Bool := (q == q') && sameL Rq.B x.xs x'.xs
set_option maxRecDepth 100000 in
set_option maxHeartbeats 2000000 in
theorem bsame_any (q : Bool) (x : Sl Rq) (q' : Bool) (x' : Sl Rq) (w : World) (h : x.At RqE w) (h' : x'.At RqE w) :
  Calls Tryz.prog 130 #[.agg #[.bool q, x.val], .agg #[.bool q', x'.val]] w fun e w' => e = .returned (.bool (batB q x q' x')) ∧ Below w.heap.size w w' := by
 obtain ⟨a, cap, rs⟩ := x
 obtain ⟨a', cap', rs'⟩ := x'
 have ce := fun w0 h0 h1 => equalQ_anyB a cap rs a' cap' rs' w0 h0 h1
 have hB : Below w.heap.size w ((w.alloc (.cells #[.bool q, .slice a rs.length cap] 39)).alloc (.cells #[.bool q', .slice a' rs'.length cap'] 39)) := ((Below.refl _ w).alloc (Nat.le_refl _) _).alloc (by simp) _
 have h1 : RowsAt RqE _ a rs := RowsAt.below h hB
 have h1' : RowsAt RqE _ a' rs' := RowsAt.below h' hB
 have E : batB q ⟨a, cap, rs⟩ q' ⟨a', cap', rs'⟩ = ((q == q') && sameL Rq.B rs rs') := rfl
 rw [E]
 clear E h h'
 simp only [Sl.val]
 generalize sameL Rq.B rs rs' = sb at *
 cases q <;> cases q'
 case false.true | true.false =>
  clear ce
  go_enter Tryz.func130, Tryz.ntmps130
  go_wp2
  go_ret
  exact ⟨rfl, hB⟩
 all_goals
  cases sb
  all_goals
   go_enter Tryz.func130, Tryz.ntmps130
   go_wp2_with fail
   refine (ce _ h1 h1').mono ?_
   rintro e w2 ⟨rfl, hb2⟩
   have hB2 := hB.trans (hb2.mono hB.size)
   clear ce h1 h1' hb2
   go_wp2
   go_ret
   exact ⟨rfl, hB2⟩
def certL (x : Vt) (s : Sl Sg) : List Value := x.cells ++ [s.val]
def certB (x : Vt) (s : Sl Sg) (y : Vt) (t : Sl Sg) : Bool := vtB x y && sameL Sg.B s.xs t.xs
set_option maxRecDepth 100000 in
set_option maxHeartbeats 2000000 in
theorem scert_any (x y : Vt) (s t : Sl Sg) (w : World) (hx : x.ok) (hy : y.ok) (hs : s.At SgE w) (ht : t.At SgE w) : Calls Tryz.prog 133 #[.agg (certL x s).toArray, .agg (certL y t).toArray] w fun e w' => e = .returned (.bool (certB x s y t)) ∧ Below w.heap.size w w' := by
 obtain ⟨hA, hA', hB, hz⟩ := two_boxG (certL x s) (certL y t) 50 w
 have r1 := range_left hA
 have r1' := range_left hA'
 have c1 := range_right hA 0 _ rfl
 have c1' := range_right hA' 0 _ rfl
 rw [hx.len] at c1
 rw [hy.len] at c1'
 simp only [Nat.zero_add, Nat.add_zero] at c1 c1'
 have ix : (Tryz.prog.info? 43).map (·.size) = some x.cells.length := by rw [hx.len]; exact iszV
 have iy : (Tryz.prog.info? 43).map (·.size) = some y.cells.length := by rw [hy.len]; exact iszV
 have hq := eqInV x y hx.dl hy.dl
 obtain ⟨a, cap, rs⟩ := s
 obtain ⟨a', cap', rs'⟩ := t
 have ce := fun w0 h0 h1 => equalS_anyB a cap rs a' cap' rs' w0 h0 h1
 have h1 : RowsAt SgE _ a rs := RowsAt.below hs hB
 have h1' : RowsAt SgE _ a' rs' := RowsAt.below ht hB
 have E : certB x ⟨a, cap, rs⟩ y ⟨a', cap', rs'⟩ = (vtB x y && sameL Sg.B rs rs') := rfl
 rw [E]
 simp only [Sl.val] at c1 c1'
 clear hA hA' hz hx hy E hs ht
 generalize certL x ⟨a, cap, rs⟩ = q at *
 generalize certL y ⟨a', cap', rs'⟩ = q' at *
 generalize x.cells = u at *
 generalize y.cells = u' at *
 generalize vtB x y = vb at *
 generalize sameL Sg.B rs rs' = sb at *
 cases vb
 ·go_enter Tryz.func133, Tryz.ntmps133
  go_upto_region 1 with fail
  go_name_world w1 hw1
  rw [show (w.alloc (.cells q.toArray 50)).alloc (.cells q'.toArray 50) = w1 from hw1] at r1 r1' c1 c1' hB h1 h1'
  clear hw1 ce
  go_wp2_with (first | (refine wpList_load_mid rfl 43 _ rfl _ _ rfl u _ r1 Tryz.underlying43 rfl ix ?_) | (refine wpList_load_mid rfl 43 _ rfl _ _ rfl u' _ r1' Tryz.underlying43 rfl iy ?_))
  go_ret
  exact ⟨rfl, hB⟩
 ·cases sb
  all_goals
   go_enter Tryz.func133, Tryz.ntmps133
   go_upto_region 1 with fail
   go_name_world w1 hw1
   rw [show (w.alloc (.cells q.toArray 50)).alloc (.cells q'.toArray 50) = w1 from hw1] at r1 r1' c1 c1' hB h1 h1'
   clear hw1
   go_wp2_with (first | (refine wpList_load_mid rfl 43 _ rfl _ _ rfl u _ r1 Tryz.underlying43 rfl ix ?_) | (refine wpList_load_mid rfl 43 _ rfl _ _ rfl u' _ r1' Tryz.underlying43 rfl iy ?_))
   refine (ce _ h1 h1').mono ?_
   rintro e2 w2 ⟨rfl, hb2⟩
   have hB2 := hB.trans (hb2.mono hB.size)
   clear ce h1 h1' hb2 c1 c1' r1 r1'
   go_wp2
   go_ret
   exact ⟨rfl, hB2⟩
structure Hd where
 q : Bool
 rs : Sl Rq
 vt : Vt
 sg : Sl Sg
instance : Inhabited Hd := ⟨⟨false, default, Vt.zero, default⟩⟩
def Hd.cells (h : Hd) : List Value := .bool h.q :: h.rs.val :: certL h.vt h.sg
def HdE : El Hd where
 f := Hd.cells
 k := 39
 ok := fun h => h.vt.ok
 len := fun h hv => by have := hv.len; simp [Hd.cells, certL]; omega
 one := fun h v hv => by
  simp only [Hd.cells, certL, List.mem_cons, List.mem_append, List.not_mem_nil, or_false] at hv
  rcases hv with rfl | rfl | hv | rfl
  ·rfl
  ·rfl
  ·exact Vt.one _ v hv
  ·rfl
def Hd.At (w : World) (h : Hd) : Prop := h.rs.At RqE w ∧ h.sg.At SgE w
theorem Hd.At.below {w w' : World} {h : Hd} (k : h.At w) (hb : Below w.heap.size w w') : h.At w' := ⟨k.1.below hb, k.2.below hb⟩
def Hd.B (h g : Hd) : Bool := batB h.q h.rs g.q g.rs && certB h.vt h.sg g.vt g.sg
theorem iszH : (Tryz.prog.info? 113).map (·.size) = some 39 := by kernel_rfl
set_option maxRecDepth 100000 in
set_option maxHeartbeats 2000000 in
theorem sheld_any (h g : Hd) (w : World) (kh : h.vt.ok) (kg : g.vt.ok) (ah : h.At w) (ag : g.At w) : Calls Tryz.prog 164 #[.agg h.cells.toArray, .agg g.cells.toArray] w fun e w' => e = .returned (.bool (Hd.B h g)) ∧ Below w.heap.size w w' := by
 obtain ⟨hA, hA', hB, hz⟩ := two_boxG h.cells g.cells 113 w
 have c0 := hA 0 _ rfl
 have c1 := hA 1 _ rfl
 have c0' := hA' 0 _ rfl
 have c1' := hA' 1 _ rfl
 simp only [Nat.zero_add, Nat.add_zero] at c0 c1 c0' c1'
 have rc : World.rangeAt _ w.heap.size 2 (certL h.vt h.sg) := range_right (cs := [.bool h.q, h.rs.val]) hA
 have rc' : World.rangeAt _ (w.heap.size + 1) 2 (certL g.vt g.sg) := range_right (cs := [.bool g.q, g.rs.val]) hA'
 have ic : (Tryz.prog.info? 50).map (·.size) = some (certL h.vt h.sg).length := by rw [show (certL h.vt h.sg).length = 37 by simp [certL, kh.len]]; exact iszC
 have ic' : (Tryz.prog.info? 50).map (·.size) = some (certL g.vt g.sg).length := by rw [show (certL g.vt g.sg).length = 37 by simp [certL, kg.len]]; exact iszC
 have h1 := ah.below hB
 have g1 := ag.below hB
 have cb := fun w0 k1 k2 => bsame_any h.q h.rs g.q g.rs w0 k1 k2
 have cc := fun w0 k1 k2 => scert_any h.vt g.vt h.sg g.sg w0 kh kg k1 k2
 unfold Hd.B
 obtain ⟨W, hW⟩ : ∃ W, Hid ((w.alloc (.cells h.cells.toArray 113)).alloc (.cells g.cells.toArray 113) = W) := ⟨_, hide rfl⟩
 rw [hW.out] at c0 c1 c0' c1' rc rc' hB hz h1 g1
 generalize h.cells = q at *
 generalize g.cells = q' at *
 generalize certL h.vt h.sg = u at *
 generalize certL g.vt g.sg = u' at *
 generalize batB h.q h.rs g.q g.rs = b1 at *
 generalize certB h.vt h.sg g.vt g.sg = b2 at *
 obtain ⟨hrq, hrs⟩ := h1
 obtain ⟨grq, grs⟩ := g1
 have B1 := cb W hrq grq
 obtain ⟨_, ⟨a, cap, rs⟩, _, sg⟩ := h
 obtain ⟨_, ⟨a', cap', rs'⟩, _, sg'⟩ := g
 simp only [Sl.val] at c1 c1' B1
 clear hA hA' kh kg ah ag cb hrq grq
 cases b1
 ·go_enter Tryz.func164, Tryz.ntmps164
  go_upto_region 1 with fail
  go_name_world w1 hw1
  obtain rfl : W = w1 := hW.out.symm.trans hw1
  clear hw1 hW cc
  go_wp2_with fail
  refine B1.mono ?_
  rintro e2 w2 ⟨rfl, hb2⟩
  have hB2 := hB.trans (hb2.mono (by omega))
  clear B1 c0 c1 c0' c1' rc rc' hb2
  go_wp2
  go_ret
  exact ⟨rfl, hB2⟩
 ·cases b2
  all_goals
   go_enter Tryz.func164, Tryz.ntmps164
   go_upto_region 1 with fail
   go_name_world w1 hw1
   obtain rfl : W = w1 := hW.out.symm.trans hw1
   clear hw1 hW
   go_wp2_with fail
   refine B1.mono ?_
   rintro e2 w2 ⟨rfl, hb2⟩
   have hB2 := hB.trans (hb2.mono (by omega))
   have C2 := cc w2 (hrs.below hb2) (grs.below hb2)
   have rc2 := range_below rc hb2 (by omega)
   have rc2' := range_below rc' hb2 (by omega)
   clear B1 c0 c1 c0' c1' rc rc' hb2 cc hrs grs
   go_wp2_with (first | (refine wpList_load_g (by rfl) 50 _ rfl _ _ rfl u _ rc2 Tryz.underlying50 rfl ic ?_) | (refine wpList_load_g (by rfl) 50 _ rfl _ _ rfl u' _ rc2' Tryz.underlying50 rfl ic' ?_))
   refine C2.mono ?_
   rintro e3 w3 ⟨rfl, hb3⟩
   have hB3 := hB2.trans (hb3.mono hB2.size)
   clear C2 rc2 rc2' hb3
   go_wp2
   go_ret
   exact ⟨rfl, hB3⟩
set_option linter.unusedVariables false
set_option linter.unusedSimpArgs false
def reqL (c n : Int) (s : ByteArray) (t : List Int) : List Value := .int .i64 c :: .int .i64 n :: .string s :: v8 t
theorem req_cells (w : World) (c n : Int) (s : ByteArray) (t : List Int) : (w.alloc (.cells (reqL c n s t).toArray 81)).rangeAt w.heap.size 0 (reqL c n s t) := by
 have := range_new w (reqL c n s t).toArray 81
 simpa using this
theorem reqL_0 {w : World} {b : Nat} {c n : Int} {s : ByteArray} {t : List Int} (h : w.rangeAt b 0 (reqL c n s t)) : w.cell? ⟨b, 0, none⟩ = some (.int .i64 c) ∧ w.cell? ⟨b, 1, none⟩ = some (.int .i64 n) ∧ w.cell? ⟨b, 2, none⟩ = some (.string s) :=
 ⟨h 0 _ rfl, h 1 _ rfl, h 2 _ rfl⟩
set_option maxRecDepth 100000 in
set_option maxHeartbeats 2000000 in
theorem fields_any (a : Option Addr) (cap : Nat) (zs : List Int) (c n : Int) (s : ByteArray) (t : List Int) (w : World) (h : RowAt w a zs) (hm : zs.length ≤ 1000000) (hc : c ≤ 9223372036854775807) (hn : n ≤ 9223372036854775807) (hs : s.size ≤ 1000000) :
   Calls Tryz.prog 149 #[.slice a zs.length cap, .agg (reqL c n s t).toArray] w fun e w' => ∃ v, e = .returned v ∧ Mine w' w.heap.size v (zs ++ putL c ++ putL n ++ textL s) ∧ Below w.heap.size w w' := by
  have hB1 : Below w.heap.size w (w.alloc (.cells (reqL c n s t).toArray 81)) := (Below.refl _ _).alloc (Nat.le_refl _) _
  have hR1 := req_cells w c n s t
  have hz1 : w.heap.size < (w.alloc (.cells (reqL c n s t).toArray 81)).heap.size := by simp
  have hlc := putL_length c (by omega)
  have hln := putL_length n (by omega)
  obtain ⟨q, hq⟩ : ∃ q, Hid (reqL c n s t = q) := ⟨_, rfl⟩
  rw [hq.out] at hB1 hz1 ⊢
  rw [hq.out] at hR1
  obtain ⟨z1, hz1'⟩ : ∃ z1, Hid (zs ++ putL c = z1) := ⟨_, rfl⟩
  obtain ⟨z2, hz2'⟩ : ∃ z2, Hid (z1 ++ putL n = z2) := ⟨_, rfl⟩
  have l1 : z1.length ≤ 1000009 := by rw [← hz1'.out, List.length_append]; omega
  have l2 : z2.length ≤ 1000018 := by rw [← hz2'.out, List.length_append]; omega
  rw [hz1'.out, hz2'.out]
  clear hlc hln
  go_enter Tryz.func149, Tryz.ntmps149
  go_wp2_with fail
  go_name_world w1 hw1
  rw [show w.alloc (.cells q.toArray 81) = w1 from hw1] at hB1 hR1 hz1
  clear hw1
  have hB4 := hB1.drew
  have hR4 : w1.drew.rangeAt w.heap.size 0 q := (World.rangeAt_drew _ _ _ _).2 hR1
  have hz4 : w.heap.size < w1.drew.heap.size := hz1
  have h4 := h.below hB4
  clear hB1 hR1 hz1
  obtain ⟨X, hX⟩ : ∃ X, Hid (w.heap.size = X) := ⟨_, rfl⟩
  rw [hX.out] at hR4 hz4 ⊢
  obtain ⟨w5, hw5⟩ : ∃ w5, w1.drew = w5 := ⟨_, rfl⟩
  rw [hw5] at hB4 hR4 hz4 h4
  have cells : ∀ w', Below w5.heap.size w5 w' → w'.cell? ⟨X, 0, none⟩ = some (.int .i64 c) ∧ w'.cell? ⟨X, 1, none⟩ = some (.int .i64 n) ∧ w'.cell? ⟨X, 2, none⟩ = some (.string s) := fun w' hw' => by
    have := range_below hR4 hw' hz4
    rw [← hq.out] at this
    exact reqL_0 this
  refine hs_begin (S := (Below w5.heap.size w5)) 11 rfl (by kernel_rfl) ?_
  rw [hw5]
  clear hw5 hR4
  have hS : (Below w5.heap.size w5) w5 := Below.refl _ _
  refine hs_t 0 5 (?_) rfl (by kernel_rfl) (by kernel_rfl) (by kernel_rfl) (by rfl) ?_ hS rfl ?_
  rotate_left
  · intro w' hw
    go_simp
    try with_reducible rfl
  simp only [nz]
  refine hs_t 1 6 (?_) rfl (by kernel_rfl) (by kernel_rfl) (by kernel_rfl) (by rfl) ?_ hS rfl ?_
  rotate_left
  · intro w' hw
    go_simp
    try with_reducible rfl
  simp only [nz]
  refine hs_t 2 7 (?_) rfl (by kernel_rfl) (by kernel_rfl) (by kernel_rfl) (by rfl) ?_ hS rfl ?_
  rotate_left
  · intro w' hw
    have hc := (cells w' hw).1
    go_simp
    try with_reducible rfl
  simp only [nz]
  refine hs_t 4 9 (?_) rfl (by kernel_rfl) (by kernel_rfl) (by kernel_rfl) (by rfl) ?_ hS rfl ?_
  rotate_left
  · intro w' hw
    go_simp
    try with_reducible rfl
  simp only [nz]
  refine hs_t 5 10 (?_) rfl (by kernel_rfl) (by kernel_rfl) (by kernel_rfl) (by rfl) ?_ hS rfl ?_
  rotate_left
  · intro w' hw
    have hc := (cells w' hw).2.1
    go_simp
    try with_reducible rfl
  simp only [nz]
  refine hs_t 7 12 (?_) rfl (by kernel_rfl) (by kernel_rfl) (by kernel_rfl) (by rfl) ?_ hS rfl ?_
  rotate_left
  · intro w' hw
    go_simp
    try with_reducible rfl
  simp only [nz]
  refine hs_t 8 13 (?_) rfl (by kernel_rfl) (by kernel_rfl) (by kernel_rfl) (by rfl) ?_ hS rfl ?_
  rotate_left
  · intro w' hw
    have hc := (cells w' hw).2.2
    go_simp
    try with_reducible rfl
  simp only [nz]
  clear cells
  have c6 := put_any a cap zs c w5 h4 (by omega) hc
  rw [hz1'.out] at c6
  refine hs_call (i := 3) (d := some 8) rfl (by kernel_rfl) (by rfl) (by go_simp; first | done | exact ⟨rfl, rfl⟩ | with_reducible rfl) rfl ?_
  refine (c6).mono ?_
  rintro e' w6 ⟨v6, rfl, hM6, hw6⟩
  have hS : (Below w5.heap.size w5) w6 := hS.trans (hw6.mono hS.size)
  refine ⟨_, rfl, hS, ?_⟩
  simp only [nz]
  obtain ⟨a6, cap6, rfl, _, _, hrow6⟩ := hM6.rowAt (by unfold maxLen; omega)
  clear c6 hM6 hw6
  have c7 := put_any a6 cap6 z1 n w6 hrow6 (by omega) hn
  rw [hz2'.out] at c7
  refine hs_call (i := 6) (d := some 11) rfl (by kernel_rfl) (by rfl) (by go_simp; first | done | exact ⟨rfl, rfl⟩ | with_reducible rfl) rfl ?_
  refine (c7).mono ?_
  rintro e' w7 ⟨v7, rfl, hM7, hw7⟩
  have hS : (Below w5.heap.size w5) w7 := hS.trans (hw7.mono hS.size)
  refine ⟨_, rfl, hS, ?_⟩
  simp only [nz]
  obtain ⟨a7, cap7, rfl, _, _, hrow7⟩ := hM7.rowAt (by unfold maxLen; omega)
  have hs7 : w5.heap.size ≤ w7.heap.size := hS.size
  clear c7 hM7 hw7 hrow6
  have c8 := putText_any a7 cap7 z2 s w7 hrow7 (by omega) (by omega)
  refine hs_call (i := 9) (d := some 14) rfl (by kernel_rfl) (by rfl) (by go_simp; first | done | exact ⟨rfl, rfl⟩ | with_reducible rfl) rfl ?_
  refine (c8).mono ?_
  rintro e' w8 ⟨v8, rfl, hM8, hw8⟩
  have hS : (Below w5.heap.size w5) w8 := hS.trans (hw8.mono hS.size)
  refine ⟨_, rfl, hS, ?_⟩
  simp only [nz]
  have hfin := hB4.trans (hS.mono hB4.size)
  have hM9 : Mine w8 w.heap.size v8 (z2 ++ textL s) := ⟨owns_mono hM8.1 (by have := hB4.size; omega), hM8.2⟩
  clear c8 hM8 hw8 hrow7
  refine hs_t 10 4 (?_) rfl (by kernel_rfl) (by kernel_rfl) (by kernel_rfl) (by rfl) ?_ hS rfl ?_
  rotate_left
  · intro w' hw
    go_simp
    try with_reducible rfl
  simp only [nz]
  refine hs_done (by kernel_rfl) ?_
  go_wp2
  go_ret
  exact ⟨_, rfl, hM9, hfin⟩
theorem reqL_length (c n : Int) (s : ByteArray) (t : List Int) (ht : t.length = 16) : (reqL c n s t).length = 19 := by simp [reqL, v8_length, ht]
theorem iszR : (Tryz.prog.info? 81).map (·.size) = some 19 := by kernel_rfl
theorem reqL_one (c n : Int) (s : ByteArray) (t : List Int) : ∀ v ∈ reqL c n s t, v.oneCell' = true := by
 intro v hv
 simp only [reqL, List.mem_cons] at hv
 rcases hv with rfl | rfl | rfl | hv
 ·rfl
 ·rfl
 ·rfl
 ·exact v8_one t v hv
theorem reqL_tag {w : World} {b : Nat} {c n : Int} {s : ByteArray} {t : List Int} (h : w.rangeAt b 0 (reqL c n s t)) : w.rangeAt b 3 (v8 t) := by
 have e : reqL c n s t = [.int .i64 c, .int .i64 n, .string s] ++ v8 t := rfl
 rw [e] at h
 exact range_right h
set_option maxRecDepth 100000 in
set_option maxHeartbeats 2000000 in
theorem rput_any (a : Option Addr) (cap : Nat) (zs : List Int) (c n : Int) (s : ByteArray) (t : List Int) (w : World) (h : RowAt w a zs) (hz : zs.length ≤ 1000000) (ht : t.length = 16) (htb : ∀ z ∈ t, 0 ≤ z ∧ z < 256) (hc : c ≤ 9223372036854775807) (hn : n ≤ 9223372036854775807) (hs : s.size ≤ 1000000) :
   Calls Tryz.prog 179 #[.slice a zs.length cap, .agg (reqL c n s t).toArray] w fun e w' => ∃ v, e = .returned v ∧ Mine w' w.heap.size v (zs ++ (putL c ++ putL n ++ textL s) ++ t) ∧ Below w.heap.size w w' := by
  obtain ⟨i0, hi, hz0, hz1, hz2⟩ := info_parts info8
  have hB1 : Below w.heap.size w (w.alloc (.cells (reqL c n s t).toArray 81)) := (Below.refl _ _).alloc (Nat.le_refl _) _
  have hR1 := req_cells w c n s t
  have hz1' : w.heap.size < (w.alloc (.cells (reqL c n s t).toArray 81)).heap.size := by simp
  have hiq : (Tryz.prog.info? 81).map (·.size) = some (reqL c n s t).length := by rw [reqL_length c n s t ht]; exact iszR
  have cf := fun w0 => fields_any none 0 [] c n s t w0 (nil_row w0) (by simp) hc hn hs
  simp only [List.nil_append, List.length_nil] at cf
  have htg := fun (w0 : World) (b0 : Nat) h1 => @reqL_tag w0 b0 c n s t h1
  have lF : (putL c ++ putL n ++ textL s).length ≤ 1000100 := by
    have h1 := putL_length c (by omega)
    have h2 := putL_length n (by omega)
    have h3 := putL_length s.size (by omega)
    simp only [textL, List.length_append, strL_length]
    omega
  obtain ⟨F, hF⟩ : ∃ F, Hid (putL c ++ putL n ++ textL s = F) := ⟨_, hide rfl⟩
  simp only [hF.out] at cf
  rw [hF.out] at lF ⊢
  obtain ⟨q, hq⟩ : ∃ q, Hid (reqL c n s t = q) := ⟨_, hide rfl⟩
  rw [hq.out] at hB1 hR1 hz1' hiq ⊢
  simp only [hq.out] at cf htg
  go_enter Tryz.func179, Tryz.ntmps179
  go_upto_region 1 with fail
  go_name_world w1 hw1
  rw [hw1] at hB1 hR1 hz1'
  clear hw1
  obtain ⟨X, hX⟩ : ∃ X, Hid (w.heap.size = X) := ⟨_, hide rfl⟩
  rw [hX.out] at hR1 hz1' ⊢
  try simp only [Act.put]
  refine wp_region_list ?_
  refine wpList_load_mid rfl 81 _ rfl _ _ rfl q _ hR1 Tryz.underlying81 rfl hiq ?_
  go_wp2_with fail
  refine (cf w1).mono ?_
  rintro e w2 ⟨v2, rfl, m2, hw2⟩
  have hB2 := hB1.trans (hw2.mono hB1.size)
  have hR2 := range_below hR1 hw2 hz1'
  have hX2 := Nat.lt_of_lt_of_le hz1' hw2.size
  obtain ⟨a2, cap2, rfl, _, _, row2⟩ := m2.rowAt (by unfold maxLen; omega)
  have mF := m2.2
  clear cf m2 hw2 hB1 hR1 hz1'
  go_wp2_with (first
    | refine wpList_make_own _ rfl _ _ 59 rfl w2.heap.size 5 i0 (.int .u8 0) 1 Tryz.underlying59 hi hz0 hz1 .i64 .i64 _ (zs.length + F.length + 16) rfl rfl ?d1 ?d2 ?d3 ?d4 ?_)
  case d1 => omega
  case d2 => rw [hz2]; omega
  case d3 => unfold maxLen; omega
  case d4 => exact Nat.le_refl _
  intro w3 hown3 hgrow3
  have hb3 : Below w2.heap.size w2 w3 := (Below.refl _ _).grown hgrow3 (Nat.le_refl _) (fun k hk => by cases hk)
  go_wp2_with (at_builtin; refine wpList_append_own_src _ rfl _ _ 59 59 rfl w2.heap.size 5 i0 (.int .u8 0) 1 1 Tryz.underlying59 hi hz0 hz1 hz2 rfl _ 0 [] rfl hown3 (.slice a zs.length cap) zs.length (v8 zs) rfl ((h.below (hB2.trans (hb3.mono hB2.size))).src cap) ?c1 ?c2 ?c3 ?_)
  case c1 => unfold maxLen; omega
  case c2 => omega
  case c3 => exact hb3.size
  intro v4 w4 hown4 hgrow4
  have hb4 := below_grown hb3 hb3.size hown3 hgrow4
  have hown4' : w4.ownsRow w2.heap.size 5 1 v4 zs.length (v8 zs) := by simpa using hown4
  obtain ⟨b4, cp4, rfl⟩ : ∃ b cp, v4 = .slice b zs.length cp := by
    rcases hown4'.2 with ⟨rfl, h0⟩ | ⟨g, cp, cur, rfl, _⟩
    · exact ⟨none, 0, by rw [h0]⟩
    · exact ⟨_, _, rfl⟩
  clear hown3 hgrow3 hown4 hgrow4 hb3
  go_wp2_with (at_builtin; refine wpList_append_own_src _ rfl _ _ 59 59 rfl w2.heap.size 5 i0 (.int .u8 0) 1 1 Tryz.underlying59 hi hz0 hz1 hz2 rfl _ zs.length (v8 zs) rfl hown4' (.slice a2 F.length cap2) F.length (v8 F) rfl ((row2.below hb4).src cap2) ?c1 ?c2 ?c3 ?_)
  case c1 => unfold maxLen; omega
  case c2 => omega
  case c3 => exact hb4.size
  intro v5 w5 hown5 hgrow5
  have hb5 := below_grown hb4 hb4.size hown4' hgrow5
  obtain ⟨b5, cp5, rfl⟩ : ∃ b cp, v5 = .slice b (zs.length + F.length) cp := by
    rcases hown5.2 with ⟨rfl, h0⟩ | ⟨g, cp, cur, rfl, _⟩
    · exact ⟨none, 0, by rw [h0]⟩
    · exact ⟨_, _, rfl⟩
  have hR5 := htg w5 X (range_below hR2 hb5 hX2)
  have hX5 := Nat.lt_of_lt_of_le hX2 hb5.size
  have rowT : RowAt w5 (some ⟨X, 3, none⟩) t := ⟨by unfold maxLen; omega, htb, Or.inr ⟨X, 3, rfl, hX5, hR5⟩⟩
  have srcT := rowT.src 16
  rw [ht] at srcT
  have hsl := fun w0 => slice_all (P := Tryz.prog) Tryz.underlying23 isz8 X 3 (by decide) w0
  clear hown4' hgrow5 hb4 row2 hR2
  go_wp2_with (at_builtin; refine wpList_append_own_src _ rfl _ _ 59 59 rfl w2.heap.size 5 i0 (.int .u8 0) 1 1 Tryz.underlying59 hi hz0 hz1 hz2 rfl _ (zs.length + F.length) (v8 zs ++ v8 F) rfl hown5 (.slice (some ⟨X, 3, none⟩) 16 16) 16 (v8 t) rfl srcT ?c1 ?c2 ?c3 ?_)
  case c1 => unfold maxLen; omega
  case c2 => omega
  case c3 => exact hb5.size
  intro v6 w6 hown6 hgrow6
  have hb6 := below_grown hb5 hb5.size hown5 hgrow6
  go_wp2_with fail
  go_ret
  refine ⟨_, rfl, ?_, hB2.trans (hb6.mono hB2.size)⟩
  have hm := Mine.mk' (zs ++ F ++ t) hown6 (by simp [ht]; omega) (by simp [v8]) (by
    intro z hz'
    rcases List.mem_append.1 hz' with hz' | hz'
    · rcases List.mem_append.1 hz' with hz' | hz'
      · exact h.2.1 z hz'
      · exact mF z hz'
    · exact htb z hz')
  exact hm.mono' hB2.size
structure BRq where
 c : Int
 n : Int
 s : ByteArray
 t : List Int
deriving Inhabited
structure BRq.ok (r : BRq) : Prop where
 tl : r.t.length = 16
 tb : ∀ z ∈ r.t, 0 ≤ z ∧ z < 256
 sl : r.s.size ≤ maxLen
 cl : -9223372036854775808 ≤ r.c
 ch : r.c ≤ 9223372036854775807
 nl : -9223372036854775808 ≤ r.n
 nh : r.n ≤ 9223372036854775807
def BRq.cells (r : BRq) : List Value := reqL r.c r.n r.s r.t
theorem BRq.ok.length {r : BRq} (h : r.ok) : r.cells.length = 19 := by
 have := h.tl
 simp [BRq.cells, reqL, v8]
 omega
theorem BRq.one (r : BRq) : ∀ v ∈ r.cells, v.oneCell' = true := reqL_one _ _ _ _
def flatR (rs : List BRq) : List Value := rs.flatMap BRq.cells
theorem flatR_length {rs : List BRq} (h : ∀ r ∈ rs, r.ok) : (flatR rs).length = rs.length * 19 := by
  induction rs with
  | nil => rfl
  | cons r rs ih =>
    have h1 := (h r (by simp)).length
    have h2 := ih (fun x hx => h x (by simp [hx]))
    simp only [flatR, List.flatMap_cons, List.length_append, List.length_cons] at *
    omega
theorem flatR_append (a b : List BRq) : flatR (a ++ b) = flatR a ++ flatR b := by simp [flatR]
def ReqsAt (w : World) (a : Option Addr) (rs : List BRq) : Prop :=
 rs.length ≤ maxLen ∧ (∀ r ∈ rs, r.ok) ∧ (rs = [] ∨ ∃ b off, a = some ⟨b, off, none⟩ ∧ b < w.heap.size ∧ w.rangeAt b off (flatR rs))
theorem ReqsAt.below {w w' : World} {a : Option Addr} {rs : List BRq} (h : ReqsAt w a rs) (hb : Below w.heap.size w w') : ReqsAt w' a rs := by
 refine ⟨h.1, h.2.1, ?_⟩
 rcases h.2.2 with h | ⟨b, off, rfl, h1, h2⟩
 ·exact Or.inl h
 ·exact Or.inr ⟨b, off, rfl, Nat.lt_of_lt_of_le h1 hb.size, range_below h2 hb h1⟩
theorem flatR_split (rs : List BRq) (i : Nat) (hi : i < rs.length) : flatR rs = flatR (rs.take i) ++ rs[i].cells ++ flatR (rs.drop (i + 1)) := by
 have e : rs.take i ++ (rs[i] :: rs.drop (i + 1)) = rs := by rw [← List.drop_eq_getElem_cons hi, List.take_append_drop]
 have e2 := congrArg flatR e
 rw [← e2]
 simp only [flatR, List.flatMap_append, List.flatMap_cons, List.append_assoc]
theorem ReqsAt.elem {w : World} {a : Option Addr} {rs : List BRq} (h : ReqsAt w a rs) (i : Nat) (hi : i < rs.length) : ∃ b off, a = some ⟨b, off, none⟩ ∧ b < w.heap.size ∧ w.rangeAt b (off + i * 19) rs[i].cells := by
 rcases h.2.2 with h0 | ⟨b, off, rfl, h1, h2⟩
 ·subst h0; simp at hi
 ·refine ⟨b, off, rfl, h1, ?_⟩
  rw [flatR_split rs i hi] at h2
  have h3 := range_part h2
  rwa [flatR_length (fun r hr => h.2.1 r (List.mem_of_mem_take hr)), List.length_take, Nat.min_eq_left (by omega)] at h3
theorem ReqsAt.none {w : World} {a : Option Addr} : ReqsAt w a [] := ⟨by simp, by simp, .inl rfl⟩
def batV (b : Bool) (a : Option Addr) (n cap : Nat) : Value := .agg #[.bool b, .slice a n cap]
def BRq.bytes (r : BRq) : List Int := putL r.c ++ putL r.n ++ textL r.s ++ r.t
def batL (q : Bool) (rs : List BRq) : List Int := if q then putL 0 else putL ((rs.length : Int) + 1) ++ rs.flatMap BRq.bytes
theorem BRq.ok.isz {r : BRq} (h : r.ok) : (Tryz.prog.info? 81).map (·.size) = some r.cells.length := by rw [h.length]; exact iszR
theorem BRq.ok.iszA {r : BRq} (h : r.ok) : (Tryz.prog.info? 81).map (·.size) = some r.cells.toArray.size := by rw [List.size_toArray, h.length]; exact iszR
theorem BRq.ok.blank {r : BRq} (h : r.ok) (w : World) : (w.alloc (.cells #[.int .i64 0, .int .i64 0, .string ⟨#[]⟩, .int .u8 0, .int .u8 0, .int .u8 0, .int .u8 0, .int .u8 0, .int .u8 0, .int .u8 0, .int .u8 0, .int .u8 0, .int .u8 0, .int .u8 0, .int .u8 0, .int .u8 0, .int .u8 0, .int .u8 0, .int .u8 0] 81)).there w.heap.size 0 r.cells.toArray.size := by
 have := there_new w #[.int .i64 0, .int .i64 0, .string ⟨#[]⟩, .int .u8 0, .int .u8 0, .int .u8 0, .int .u8 0, .int .u8 0, .int .u8 0, .int .u8 0, .int .u8 0, .int .u8 0, .int .u8 0, .int .u8 0, .int .u8 0, .int .u8 0, .int .u8 0, .int .u8 0, .int .u8 0] 81
 have e : r.cells.toArray.size = 19 := by rw [List.size_toArray, h.length]
 rw [e]; exact this
def BatBox (w : World) (b : Nat) (q : Bool) (a : Option Addr) (n cap : Nat) : Prop := b < w.heap.size ∧ w.cell? ⟨b, 0, none⟩ = some (.bool q) ∧ w.cell? ⟨b, 1, none⟩ = some (.slice a n cap) ∧ w.rangeAt b 0 [.bool q, .slice a n cap]
theorem BatBox.mk (w : World) (q : Bool) (a : Option Addr) (n cap : Nat) : BatBox (w.alloc (.cells #[.bool q, .slice a n cap] 39)) w.heap.size q a n cap := by
 have := range_new w #[.bool q, .slice a n cap] 39
 exact ⟨by simp, this 0 _ rfl, this 1 _ rfl, this⟩
theorem iszB : (Tryz.prog.info? 39).map (·.size) = some 2 := by kernel_rfl
def batP (rs : List BRq) (k : Nat) : List Int := putL ((rs.length : Int) + 1) ++ (rs.take k).flatMap BRq.bytes
theorem batP_succ (rs : List BRq) (k : Nat) (hk : k < rs.length) : batP rs (k + 1) = batP rs k ++ rs[k].bytes := by
 unfold batP
 rw [List.take_succ_eq_append_getElem hk]
 simp only [List.flatMap_append, List.flatMap_cons, List.flatMap_nil, List.append_nil, List.append_assoc]
theorem batP_all (rs : List BRq) : batP rs rs.length = batL false rs := by unfold batP batL; simp
theorem putL_le (n : Int) (h : n ≤ 9223372036854775807) : (putL n).length ≤ 9 := by
 have := putL_length n (by omega)
 omega
theorem bytes_le {r : BRq} (h : r.ok) (hs : r.s.size ≤ 4000) : r.bytes.length ≤ 4100 := by
 have h1 := putL_le r.c h.ch
 have h2 := putL_le r.n h.nh
 have h3 := putL_le (r.s.size : Int) (by omega)
 have h4 := h.tl
 simp only [BRq.bytes, textL, List.length_append, strL_length]
 omega
theorem flat_le : ∀ (rs : List BRq), (∀ r ∈ rs, r.ok) → (∀ r ∈ rs, r.s.size ≤ 4000) → (rs.flatMap BRq.bytes).length ≤ rs.length * 4100
  | [], _, _ => by simp
  | r :: rs, h1, h2 => by
    have k1 := bytes_le (h1 r (by simp)) (h2 r (by simp))
    have k2 := flat_le rs (fun x hx => h1 x (by simp [hx])) (fun x hx => h2 x (by simp [hx]))
    simp only [List.flatMap_cons, List.length_append, List.length_cons]
    omega
theorem batP_le (rs : List BRq) (k : Nat) (hn : rs.length ≤ 200) (h1 : ∀ r ∈ rs, r.ok) (h2 : ∀ r ∈ rs, r.s.size ≤ 4000) : (batP rs k).length ≤ 900000 := by
 have k1 := putL_le ((rs.length : Int) + 1) (by omega)
 have k2 := flat_le (rs.take k) (fun x hx => h1 x (List.mem_of_mem_take hx)) (fun x hx => h2 x (List.mem_of_mem_take hx))
 have k3 : (rs.take k).length ≤ 200 := by rw [List.length_take]; omega
 have k4 : (rs.take k).length * 4100 ≤ 200 * 4100 := Nat.mul_le_mul_right _ k3
 simp only [batP, List.length_append]
 omega
theorem batL_le (q : Bool) (rs : List BRq) (hn : rs.length ≤ 200) (h1 : ∀ r ∈ rs, r.ok) (h2 : ∀ r ∈ rs, r.s.size ≤ 4000) : (batL q rs).length ≤ 900000 := by
  cases q with
  | false => rw [← batP_all]; exact batP_le rs _ hn h1 h2
  | true => have := putL_le 0 (by omega); simp only [batL, if_true]; omega
theorem BRq.ok.put {r : BRq} (h : r.ok) (hs : r.s.size ≤ 4000) (w : World) : Calls Tryz.prog 179 #[.slice none 0 0, .agg r.cells.toArray] w fun e w' => ∃ v, e = .returned v ∧ Mine w' w.heap.size v r.bytes ∧ Below w.heap.size w w' := by
 have := rput_any none 0 [] r.c r.n r.s r.t w (nil_row w) (by simp) h.tl h.tb h.ch h.nh (by omega)
 simpa only [List.nil_append, List.length_nil, BRq.bytes, BRq.cells] using this
set_option maxRecDepth 100000 in
set_option maxHeartbeats 2000000 in
theorem bytesOf_any (q : Bool) (a : Option Addr) (cap : Nat) (rs : List BRq) (w : World) (h : ReqsAt w a rs) (hn : rs.length ≤ 200) (hs : ∀ r ∈ rs, r.s.size ≤ 4000) :
  Calls Tryz.prog 171 #[batV q a rs.length cap] w fun e w' => ∃ v, e = .returned v ∧ Mine w' w.heap.size v (batL q rs) ∧ Below w.heap.size w w' := by
 obtain ⟨i0, hi, hz0, hz1, hz2⟩ := info_parts info8
 unfold batV
 have hB1 : Below w.heap.size w (w.alloc (.cells #[.bool q, .slice a rs.length cap] 39)) := (Below.refl _ _).alloc (Nat.le_refl _) _
 have hb1 := BatBox.mk w q a rs.length cap
 cases q with
 | true =>
  have cp := fun w0 => put_any none 0 [] 0 w0 (nil_row w0) (by simp) (by omega)
  simp only [List.nil_append, List.length_nil] at cp
  have hL : Hid (batL true rs = putL 0) := by show _ = _; simp [batL]
  rw [hL.out]
  go_enter Tryz.func171, Tryz.ntmps171
  go_upto_region 1 with fail
  go_name_world w1 hw1
  rw [hw1] at hB1 hb1
  clear hw1
  obtain ⟨_, c0, c1, _⟩ := hb1
  go_wp2_with fail
  refine (cp w1).mono ?_
  rintro e w2 ⟨v2, rfl, m2, hw2⟩
  go_wp2_with fail
  go_ret
  exact ⟨_, rfl, m2.mono' hB1.size, hB1.trans (hw2.mono hB1.size)⟩
 | false =>
  have hall := h.2.1
  have hle := fun k => batP_le rs k hn hall hs
  have cp := fun w0 => put_any none 0 [] ((rs.length : Int) + 1) w0 (nil_row w0) (by simp) (by omega)
  simp only [List.nil_append, List.length_nil] at cp
  have h1 := h.below hB1
  go_enter Tryz.func171, Tryz.ntmps171
  go_upto_region 1 with fail
  go_name_world w1 hw1
  rw [hw1] at hB1 hb1 h1
  clear hw1
  obtain ⟨_, c0, c1, _⟩ := hb1
  go_wp2_with fail
  refine (cp w1).mono ?_
  rintro e w2 ⟨v2, rfl, m2, hw2⟩
  have c1' := (hw2.cell (p := ⟨w.heap.size, 1, none⟩) (by omega)).trans c1
  clear cp
  go_wp2
  go_loopw [3, 17] (fun ov iv wr => ∃ k : Nat, k ≤ rs.length ∧ iv = .int .i64 (k : Int) ∧ Hid (Mine wr w1.heap.size ov (batP rs k)) ∧ Below w1.heap.size w1 wr) (fun _ iv _ => rs.length - (intOf iv).toNat)
  case atStart => exact ⟨0, by omega, rfl, hide (by simpa [batP] using m2), hw2⟩
  case round =>
   clear c1' m2 hw2
   obtain ⟨k, hk, rfl, HM, hB⟩ := hrel
   by_cases hlt : k < rs.length
   ·have k1 : (k : Int) < rs.length := by omega
    have hrow := h1.below hB
    have HS := hide (batP_succ rs k hlt)
    have hlen := hle k
    obtain ⟨b, off, rfl, hb, hre⟩ := hrow.elem k hlt
    obtain ⟨r, hr⟩ : ∃ r, Hid (rs[k] = r) := ⟨_, hide rfl⟩
    have hok : r.ok := by rw [← hr.out]; exact hall _ (List.getElem_mem hlt)
    have hrs : r.s.size ≤ 4000 := by rw [← hr.out]; exact hs _ (List.getElem_mem hlt)
    rw [hr.out] at hre HS
    clear hr hrow
    have hiq := hok.isz
    have hiA := hok.iszA
    have hN := hok.blank wr
    have h1c := all_oneCell_toArray r.one
    have hbl := bytes_le hok hrs
    have cpr := fun w0 => hok.put hrs w0
    have F := fresh_store wr #[.int .i64 0, .int .i64 0, .string ⟨#[]⟩, .int .u8 0, .int .u8 0, .int .u8 0, .int .u8 0, .int .u8 0, .int .u8 0, .int .u8 0, .int .u8 0, .int .u8 0, .int .u8 0, .int .u8 0, .int .u8 0, .int .u8 0, .int .u8 0, .int .u8 0, .int .u8 0] 81 r.cells (by rw [hok.length]; rfl)
    obtain ⟨q, hq⟩ : ∃ q, Hid (r.cells = q) := ⟨_, hide rfl⟩
    rw [hq.out] at hre hiq hiA hN h1c F
    simp only [hq.out] at cpr
    obtain ⟨bs, hbs⟩ : ∃ bs, Hid (r.bytes = bs) := ⟨_, hide rfl⟩
    simp only [hbs.out] at cpr
    rw [hbs.out] at HS hbl
    clear hq hbs hok hrs
    go_upto_region 6 with fail
    try simp only [Act.put]
    refine wp_region_list ?_
    refine wpList_step fun K hK => ?_
    go_simp
    refine hK _ _ ?_
    clear hK K
    refine wpList_load_mid rfl 81 _ rfl _ _ rfl q _ hre Tryz.underlying81 rfl hiq ?_
    go_upto_region 7 with (refine wpList_store_mid (op := ⟨none, .store 81 (.tmp 5) (.tmp 20), _, _, _, none⟩) rfl 81 _ _ rfl _ _ q.toArray rfl rfl hN hiA h1c ?_)
    go_name_world w3 hw3
    rw [show (wr.alloc (.cells #[.int .i64 0, .int .i64 0, .string ⟨#[]⟩, .int .u8 0, .int .u8 0, .int .u8 0, .int .u8 0, .int .u8 0, .int .u8 0, .int .u8 0, .int .u8 0, .int .u8 0, .int .u8 0, .int .u8 0, .int .u8 0, .int .u8 0, .int .u8 0, .int .u8 0, .int .u8 0] 81)).setCells wr.heap.size 0 q = w3 from hw3] at F
    clear hw3 hN
    obtain ⟨hR3, hF3, hz3, _⟩ := F
    have hB3 := hB.trans (hF3.mono hB.size)
    have HM3 := hide (HM.out.below hF3)
    clear HM hF3 hre
    try simp only [Act.put]
    refine wp_region_list ?_
    refine wpList_step fun K hK => ?_
    go_simp
    refine hK _ _ ?_
    clear hK K
    refine wpList_load_mid rfl 81 _ rfl _ _ rfl q _ hR3 Tryz.underlying81 rfl hiq ?_
    go_wp2_with fail
    refine (cpr w3).mono ?_
    rintro e w4 ⟨v4, rfl, m4, hw4⟩
    have hB4 := hB3.trans (hw4.mono hB3.size)
    have m3 := HM3.out.below hw4
    obtain ⟨a4, cap4, rfl, _, _, row4⟩ := m4.rowAt (by unfold maxLen; omega)
    clear HM3 cpr
    go_wp2_with (at_builtin; refine wpList_append_own_src _ rfl _ _ 59 59 rfl w1.heap.size 5 i0 (.int .u8 0) 1 1 Tryz.underlying59 hi hz0 hz1 hz2 rfl _ (batP rs k).length ((batP rs k).map (Value.int .u8)) rfl m3.1 (.slice a4 bs.length cap4) bs.length (v8 bs) rfl (row4.src cap4) ?c1 ?c2 ?c3 ?_)
    case c1 => unfold maxLen; omega
    case c2 => omega
    case c3 => exact hB4.size
    intro v5 w5 hown5 hgrow5
    have hB5 := below_grown hB4 hB4.size m3.1 hgrow5
    have mbs := m4.2
    have mbp := m3.2
    clear m3 m4 row4 hgrow5
    go_wp2
    go_roundw
    case rel =>
     refine ⟨k + 1, by omega, by go_num, hide ?_, hB5⟩
     rw [HS.out]
     exact Mine.mk' (batP rs k ++ bs) hown5 (by simp) (by simp [v8]) (by
      intro z hz'
      rcases List.mem_append.1 hz' with hz' | hz'
      ·exact mbp z hz'
      ·exact mbs z hz')
    case measure => simp [intOf]; omega
   ·obtain rfl : k = rs.length := by omega
    go_wp2
    go_ret
    exact ⟨_, rfl, by rw [← batP_all]; exact HM.out.mono' hB1.size, hB1.trans (hB.mono hB1.size)⟩
theorem batI (q : Bool) (a : Option Addr) (n cap : Nat) : (Tryz.prog.info? 39).map (·.size) = some [Value.bool q, .slice a n cap].length := iszB
set_option maxRecDepth 100000 in
set_option maxHeartbeats 2000000 in
theorem bput_any (a0 : Option Addr) (cap0 : Nat) (zs : List Int) (q : Bool) (a : Option Addr) (cap : Nat) (rs : List BRq) (w : World) (h0 : RowAt w a0 zs) (hzl : zs.length ≤ 90000) (h : ReqsAt w a rs) (hn : rs.length ≤ 200) (hs : ∀ r ∈ rs, r.s.size ≤ 4000) :
  Calls Tryz.prog 143 #[.slice a0 zs.length cap0, batV q a rs.length cap] w fun e w' => ∃ v, e = .returned v ∧ Mine w' w.heap.size v (zs ++ batL q rs) ∧ Below w.heap.size w w' := by
 obtain ⟨i0, hi, hz0, hz1, hz2⟩ := info_parts info8
 have lF := batL_le q rs hn h.2.1 hs
 have cf := fun w0 h0 => bytesOf_any q a cap rs w0 h0 hn hs
 unfold batV at cf ⊢
 obtain ⟨F, hF⟩ : ∃ F, Hid (batL q rs = F) := ⟨_, hide rfl⟩
 rw [hF.out] at lF ⊢
 simp only [hF.out] at cf
 clear hF
 have hB1 : Below w.heap.size w (w.alloc (.cells #[.bool q, .slice a rs.length cap] 39)) := (Below.refl _ _).alloc (Nat.le_refl _) _
 have hb1 := BatBox.mk w q a rs.length cap
 have h1 := h.below hB1
 have hib := batI q a rs.length cap
 go_enter Tryz.func143, Tryz.ntmps143
 go_upto_region 1 with fail
 go_name_world w1 hw1
 rw [hw1] at hB1 hb1 h1
 clear hw1
 try simp only [Act.put]
 refine wp_region_list ?_
 refine wpList_load_mid rfl 39 _ rfl _ _ rfl [.bool q, .slice a rs.length cap] _ hb1.2.2.2 Tryz.underlying39 rfl hib ?_
 go_wp2_with fail
 refine (cf w1 h1).mono ?_
 rintro e w2 ⟨v2, rfl, m2, hw2⟩
 have hB2 := hB1.trans (hw2.mono hB1.size)
 obtain ⟨a2, cap2, rfl, _, _, row2⟩ := m2.rowAt (by unfold maxLen; omega)
 have mF := m2.2
 clear cf m2 hw2 hb1 h1 hib h
 go_wp2_with (first
  | refine wpList_make_own _ rfl _ _ 59 rfl w2.heap.size 5 i0 (.int .u8 0) 1 Tryz.underlying59 hi hz0 hz1 .i64 .i64 _ (zs.length + F.length) rfl rfl ?d1 ?d2 ?d3 ?d4 ?_)
 case d1 => omega
 case d2 => rw [hz2]; omega
 case d3 => unfold maxLen; omega
 case d4 => exact Nat.le_refl _
 intro w3 hown3 hgrow3
 have hb3 : Below w2.heap.size w2 w3 := (Below.refl _ _).grown hgrow3 (Nat.le_refl _) (fun k hk => by cases hk)
 go_wp2_with (at_builtin; refine wpList_append_own_src _ rfl _ _ 59 59 rfl w2.heap.size 5 i0 (.int .u8 0) 1 1 Tryz.underlying59 hi hz0 hz1 hz2 rfl _ 0 [] rfl hown3 (.slice a0 zs.length cap0) zs.length (v8 zs) rfl ((h0.below (hB2.trans (hb3.mono hB2.size))).src cap0) ?c1 ?c2 ?c3 ?_)
 case c1 => unfold maxLen; omega
 case c2 => omega
 case c3 => exact hb3.size
 intro v4 w4 hown4 hgrow4
 have hb4 := below_grown hb3 hb3.size hown3 hgrow4
 have hown4' : w4.ownsRow w2.heap.size 5 1 v4 zs.length (v8 zs) := by simpa using hown4
 obtain ⟨b4, cp4, rfl⟩ : ∃ b cp, v4 = .slice b zs.length cp := by
  rcases hown4'.2 with ⟨rfl, h0⟩ | ⟨g, cp, cur, rfl, _⟩
  ·exact ⟨none, 0, by rw [h0]⟩
  ·exact ⟨_, _, rfl⟩
 clear hown3 hgrow3 hown4 hgrow4 hb3
 go_wp2_with (at_builtin; refine wpList_append_own_src _ rfl _ _ 59 59 rfl w2.heap.size 5 i0 (.int .u8 0) 1 1 Tryz.underlying59 hi hz0 hz1 hz2 rfl _ zs.length (v8 zs) rfl hown4' (.slice a2 F.length cap2) F.length (v8 F) rfl ((row2.below hb4).src cap2) ?c1 ?c2 ?c3 ?_)
 case c1 => unfold maxLen; omega
 case c2 => omega
 case c3 => exact hb4.size
 intro v5 w5 hown5 hgrow5
 have hb5 := below_grown hb4 hb4.size hown4' hgrow5
 go_wp2_with fail
 go_ret
 refine ⟨_, rfl, ?_, hB2.trans (hb5.mono hB2.size)⟩
 have hm := Mine.mk' (zs ++ F) hown5 (by simp) (by simp [v8]) (by
  intro z hz'
  rcases List.mem_append.1 hz' with hz' | hz'
  ·exact h0.2.1 z hz'
  ·exact mF z hz')
 exact hm.mono' hB2.size
open Go Go.RowKit
section
variable {P : Program} {ops : Array Oper} {Q : Exit → Act → World → Prop}
structure Pl (P : Program) (ops : Array Oper) (Q : Exit → Act → World → Prop) (l : List Oper) (a : Act) (w : World) : Prop where
 out : wpList P ops Q l a w
theorem pl_begin {id : Nat} {a : Act} {w : World} (h : Pl P ops Q ops.toList a w) : (Code.region id ops false).wp P Q a w := wp_region_list h.out
theorem pl_nil {a : Act} {w : World} (h : Q .normal a w) : Pl P ops Q [] a w := ⟨wpList_nil h⟩
theorem pl_take {o : Oper} {rest : List Oper} {d : Option Nat} {v : Value} {a : Act} {w : World} (hw : Region.wanted o (yielded ops a.tmps) = true) (hy : (execOp a.eval o).run P w = .ok (.value v) w) (hd : o.dst = d)
  (h : Pl P ops Q rest (a.put d v) w) : Pl P ops Q (o :: rest) a w := by
 subst hd
 refine ⟨wpList_step fun K hK => ?_⟩
 rw [if_pos hw]
 unfold Oper.wp
 rw [hy]
 exact hK _ _ h.out
theorem pl_t (d : Nat) (v : Value) {o : Oper} {rest : List Oper} {a : Act} {w : World} (hw : Region.wanted o (yielded ops a.tmps) = true) (hy : (execOp a.eval o).run P w = .ok (.value v) w) (hd : o.dst = some d) (h : Pl P ops Q rest (a.put (some d) v) w) : Pl P ops Q (o :: rest) a w := pl_take hw hy hd h
theorem pl_skip {o : Oper} {rest : List Oper} {d : Option Nat} {a : Act} {w : World} (hw : Region.wanted o (yielded ops a.tmps) = false) (hd : o.dst = d)
  (h : Pl P ops Q rest (a.put d undef) w) : Pl P ops Q (o :: rest) a w := by
 subst hd
 refine ⟨wpList_step fun K hK => ?_⟩
 rw [if_neg (by simp [hw])]
 exact hK _ _ h.out
theorem pl_run {o : Oper} {rest : List Oper} {d : Option Nat} {v : Value} {a : Act} {w w' : World} (hw : Region.wanted o (yielded ops a.tmps) = true) (hy : (execOp a.eval o).run P w = .ok (.value v) w') (hd : o.dst = d)
  (h : Pl P ops Q rest (a.put d v) w') : Pl P ops Q (o :: rest) a w := by
 subst hd
 refine ⟨wpList_step fun K hK => ?_⟩
 rw [if_pos hw]
 unfold Oper.wp
 rw [hy]
 exact hK _ _ h.out
theorem pl_call {o : Oper} {rest : List Oper} {d : Option Nat} {f : FuncId} {args : Array Value} {a : Act} {w : World} (hw : Region.wanted o (yielded ops a.tmps) = true) (hy : (execOp a.eval o).run P w = .ok (.enter f args) w) (hd : o.dst = d)
  (h : Calls P f args w fun e w' => ∃ v, e = .returned v ∧ Pl P ops Q rest (a.put d v) w') : Pl P ops Q (o :: rest) a w := by
 subst hd
 refine ⟨wpList_step fun K hK => ?_⟩
 rw [if_pos hw]
 unfold Oper.wp
 rw [hy]
 refine h.mono ?_
 rintro e w' ⟨v, rfl, hk⟩
 exact hK _ _ hk.out
theorem run_load_one (w : World) (p : Addr) (ty : TypeId) (v : Value) (d : TypeDesc) (hc : w.cell? p = some v) (hu : P.underlying ty = some d) (hd : d.isRow = false) : (loadVar ty p).run P w = .ok v w := by
 have hagg : (isAgg ty).run P w = .ok false w := by
  unfold isAgg
  rw [Sem.run_bind, run_underlying hu w]
  cases d <;> simp_all
 simp [loadVar, Sem.run_bind, hagg, load, Sem.run, hc]
theorem pl_one {o : Oper} {a : Act} {w : World} {ty : TypeId} {x : Operand} (ho : o.op = .load ty x) {p : Addr} (hx : a.eval x = .pointer (some p)) {v : Value} {d : TypeDesc} (hc : w.cell? p = some v) (hu : P.underlying ty = some d) (hd : d.isRow = false) : (execOp a.eval o).run P w = .ok (.value v) w := by
 unfold execOp
 simp only [ho, hx, Instr.loadAt, Instr.sureAddr, Sem.run_bind, Sem.run_pure, Result.andThen_ok, run_load_one w p ty v d hc hu hd]
end
end Go.Proofs.YtcbpbkefggekmaaGreatDoor
namespace Go.Proofs.YtcbpbkefggekmaaGreatDoor
open Go.RowKit
open Sha Tal
set_option linter.unusedVariables false
set_option linter.unusedSimpArgs false
theorem ex_mid {P : Program} {op : Oper} {a : Act} {ty : TypeId} {x : Operand} (ho : op.op = .load ty x) {b o : Nat} (hx : a.eval x = .pointer (some ⟨b, o, none⟩)) {cs : List Value} {d : TypeDesc} {w : World} (hr : w.rangeAt b o cs) (hu : P.underlying ty = some d) (hd : d.isRow = true) (hi : (P.info? ty).map (·.size) = some cs.length) : (execOp a.eval op).run P w = .ok (.value (.agg cs.toArray)) w :=
 exec_load ho hx (run_loadVar_mid w b o ty cs d hr hu hd hi)
theorem ex_put {P : Program} {o : Oper} {a : Act} {w : World} {ty : TypeId} {x y : Operand} {b off : Nat} {cs : Array Value} (ho : o.op = .store ty x y) (hx : a.eval x = .pointer (some ⟨b, off, none⟩)) (hy : a.eval y = .agg cs) (ht : w.there b off cs.size) (hi : (P.info? ty).map (·.size) = some cs.size) (h1 : cs.all (·.oneCell') = true) : (execOp a.eval o).run P w = .ok .skip (w.setCells b off cs.toList) :=
 exec_store ho hx hy (run_storeVar_mid w b off ty cs ht hi h1)
theorem ex_alloc {P : Program} {o : Oper} {a : Act} {w : World} {t : TypeId} {z : Value} (ho : o.op = .alloc t) (hz : (zeroValue t).run P w = .ok z w) : (execOp a.eval o).run P w = .ok (.value (.pointer (some ⟨w.heap.size, 0, none⟩))) (w.alloc (.cells z.cells t)) := by
 unfold execOp
 simp [ho, hz, Instr.alloc, newVar, newRow]
section
variable {P : Program} {ops : Array Oper} {Q : Exit → Act → World → Prop}
theorem pl_store {o : Oper} {rest : List Oper} {a : Act} {w w' : World} (hw : Region.wanted o (yielded ops a.tmps) = true) (hy : (execOp a.eval o).run P w = .ok .skip w') (hd : o.dst = none)
  (h : Pl P ops Q rest a w') : Pl P ops Q (o :: rest) a w := by
 refine ⟨wpList_step fun K hK => ?_⟩
 rw [if_pos hw]
 unfold Oper.wp
 rw [hy, Oper.upon_skip, hd]
 exact hK _ _ h.out
end
theorem there_newN (w : World) (arr : Array Value) (t : TypeId) {n : Nat} (h : arr.size = n) : (w.alloc (.cells arr t)).there w.heap.size 0 n := h ▸ there_new w arr t
theorem all_one {cs : List Value} (h : ∀ v ∈ cs, v.oneCell' = true) : cs.toArray.all (·.oneCell') = true := by
 rw [Array.all_eq_true_iff_forall_mem]
 intro v hv
 exact h v (by simpa using hv)
def WrOn (X : Nat) (v : Value) (zs bs : List Int) (w : World) (e : Ending) (w' : World) : Prop := ∃ v', e = .returned (.tuple #[]) ∧ WrAt w' X v' (zs ++ bs) false ∧ Off (WrF X v) w w' ∧ RowOn w v v'
theorem full_no {zs : List Int} {n : Nat} (h : zs.length + n ≤ 4194304) : fullB false (n : Int) zs = false := by
 unfold fullB
 rw [Bool.false_or]
 exact decide_eq_false (by omega)
theorem raw_on (X : Nat) (v : Value) (zs : List Int) (a : Option Addr) (cap : Nat) (bs : List Int) (w : World) (h : WrAt w X v zs false) (hr : RowAt w a bs) (hne : bs = [] ∨ ∀ x, a = some x → x.block ≠ X) (hl : zs.length + bs.length ≤ 4194304) :
  Calls Tryz.prog 93 #[.pointer (some ⟨X, 0, none⟩), .slice a bs.length cap] w fun e w' => WrOn X v zs bs w e w' := by
 have c := raw13_any X v zs false a cap bs w h hr hne (by omega)
 rw [full_no hl, wrL_f] at c
 exact c.mono (fun e w' ⟨v', q1, q2, q3, q4⟩ => ⟨v', q1, q2, q3, q4⟩)
theorem wrN_on : ∀ (ns : List Int) (zs : List Int), zs.length + (ns.flatMap putL).length ≤ 4194304 → wrN (zs, false) ns = (zs ++ ns.flatMap putL, false)
  | [], zs, _ => by simp [wrN]
  | n :: ns, zs, h => by
    simp only [List.flatMap_cons, List.length_append] at h
    have e : wrS (zs, false) (putL n) = (zs ++ putL n, false) := by
      unfold wrS
      simp only
      rw [full_no (by omega), wrL_f]
    show wrN (wrS (zs, false) (putL n)) ns = _
    rw [e, wrN_on ns (zs ++ putL n) (by rw [List.length_append]; omega), List.flatMap_cons, List.append_assoc]
theorem nums_on (X : Nat) (v : Value) (zs : List Int) (ns : List Int) (arr : Array Value) (n : Nat) (w : World) (h : WrAt w X v zs false) (ha : arr = (ns.map (Value.int .i64)).toArray) (hc : ns.length = n) (hn10 : n ≤ 10) (hn : ∀ n ∈ ns, n ≤ 9223372036854775807) (hl : zs.length + (ns.flatMap putL).length ≤ 4194304) :
  Calls Tryz.prog 87 #[.pointer (some ⟨X, 0, none⟩), .slice (some ⟨w.heap.size, 0, none⟩) n n] (w.alloc (.cells arr 3)) fun e w' => WrOn X v zs (ns.flatMap putL) w e w' := by
 have c := nums_new X v (zs, false) ns arr n w h ha hc hn10 hn (by show zs.length ≤ 4194304; omega)
 rw [wrN_on ns zs hl] at c
 exact c.mono (fun e w' ⟨v', q1, q2, q3, q4⟩ => ⟨v', q1, q2, q3, q4⟩)
theorem WrOn.next {X : Nat} {v v1 : Value} {zs bs cs : List Int} {w w1 w2 : World} {e : Ending} (hO : Off (WrF X v) w w1) (hR : RowOn w v v1) (h : WrOn X v1 (zs ++ bs) cs w1 e w2) : WrOn X v zs (bs ++ cs) w e w2 := by
 obtain ⟨v', q1, q2, q3, q4⟩ := h
 have T := wr_trans hO hR q3 q4
 exact ⟨v', q1, by rw [← List.append_assoc]; exact q2, T.1, T.2⟩
theorem wr_kept {X : Nat} {v : Value} {w w1 w2 : World} {zs : List Int} {lg : Bool} (h : WrAt w X v zs lg) (hs : w.heap.size < w1.heap.size) (hO : Off (WrF X v) w1 w2) {o : Nat} {cs : List Value} (r : w1.rangeAt w.heap.size o cs) : w2.rangeAt w.heap.size o cs := range_at r (wr_off h hs hO)
theorem wr_low {X n : Nat} {v : Value} {w w' : World} {zs : List Int} {lg : Bool} (h : WrAt w X v zs lg) (hn : n ≤ X) (hO : Off (WrF X v) w w') : Below n w w' := hO.below (by have := h.lt; omega) (fun b hb hf => by
 rcases hf with hf | hf
 ·omega
 ·have := (h.me.from _ hf).1; omega)
theorem rowon_refl (w : World) (v : Value) : RowOn w v v := fun g hg => .inl hg
theorem WrOn.from {X : Nat} {v : Value} {zs bs : List Int} {w w1 : World} {e : Ending} {w' : World} (hb : Below w.heap.size w w1) (h : WrOn X v zs bs w1 e w') : WrOn X v zs bs w e w' := by
 obtain ⟨v', q1, q2, q3, q4⟩ := h
 have T := wr_trans (Off.of_below hb) (rowon_refl w v) q3 q4
 exact ⟨v', q1, q2, T.1, T.2⟩
theorem run_bsi (x : Int) (w : World) : (Instr.buildSlice 207 1 #[(0, .int .i64 x)]).run Tryz.prog w = .ok (.slice (some ⟨w.heap.size, 0, none⟩) 1 1) (w.alloc (.cells #[.int .i64 x] 3)) := by kernel_rfl
theorem run_bsi2 (x y : Int) (w : World) : (Instr.buildSlice 207 2 #[(0, .int .i64 x), (1, .int .i64 y)]).run Tryz.prog w = .ok (.slice (some ⟨w.heap.size, 0, none⟩) 2 2) (w.alloc (.cells #[.int .i64 x, .int .i64 y] 3)) := by kernel_rfl
theorem run_bsi3 (x y z : Int) (w : World) : (Instr.buildSlice 207 3 #[(0, .int .i64 x), (1, .int .i64 y), (2, .int .i64 z)]).run Tryz.prog w = .ok (.slice (some ⟨w.heap.size, 0, none⟩) 3 3) (w.alloc (.cells #[.int .i64 x, .int .i64 y, .int .i64 z] 3)) := by kernel_rfl
theorem ex_bsi {P : Program} {o : Oper} {a : Act} {w w' : World} {t : TypeId} {x : Operand} {u r : Value} (ho : o.op = .buildSlice t 1 #[(0, x)]) (hx : a.eval x = u) (hr : (Instr.buildSlice t 1 #[(0, u)]).run P w = .ok r w') : (execOp a.eval o).run P w = .ok (.value r) w' := by
 unfold execOp
 simp [ho, hx, hr]
theorem ex_bsi2 {P : Program} {o : Oper} {a : Act} {w w' : World} {t : TypeId} {x y : Operand} {u v r : Value} (ho : o.op = .buildSlice t 2 #[(0, x), (1, y)]) (hx : a.eval x = u) (hy : a.eval y = v) (hr : (Instr.buildSlice t 2 #[(0, u), (1, v)]).run P w = .ok r w') : (execOp a.eval o).run P w = .ok (.value r) w' := by
 unfold execOp
 simp [ho, hx, hy, hr]
theorem ex_bsi3 {P : Program} {o : Oper} {a : Act} {w w' : World} {t : TypeId} {x y z : Operand} {u v q r : Value} (ho : o.op = .buildSlice t 3 #[(0, x), (1, y), (2, z)]) (hx : a.eval x = u) (hy : a.eval y = v) (hz : a.eval z = q) (hr : (Instr.buildSlice t 3 #[(0, u), (1, v), (2, q)]).run P w = .ok r w') : (execOp a.eval o).run P w = .ok (.value r) w' := by
 unfold execOp
 simp [ho, hx, hy, hz, hr]
set_option maxRecDepth 100000 in
set_option maxHeartbeats 1000000 in
theorem wtext_on (X : Nat) (v : Value) (zs : List Int) (st : ByteArray) (w : World) (h : WrAt w X v zs false) (hs : st.size ≤ 1000000) (hl : zs.length + (textL st).length ≤ 4194304) : Calls Tryz.prog 95 #[.pointer (some ⟨X, 0, none⟩), .string st] w fun e w' => WrOn X v zs (textL st) w e w' := by
 have htl : (textL st).length = (putL st.size).length + st.size := by unfold textL; rw [List.length_append, strL_length]
 have cr := room13_any X v zs false (st.size : Int) w h (by omega)
 rw [full_no (by omega)] at cr
 have h1 := h.flag false
 have hO1 : Off (WrF X v) w (w.setCell ⟨X, 1, none⟩ (.bool false)) := Off.of_setCell w _ _ (.inl rfl)
 obtain ⟨w1, hw1⟩ : ∃ w1, w.setCell ⟨X, 1, none⟩ (.bool false) = w1 := ⟨_, rfl⟩
 rw [hw1] at cr h1 hO1
 have cp := putText_any none 0 [] st w1 (nil_row w1) (by simp) (by omega)
 rw [List.nil_append] at cp
 clear htl
 generalize textL st = bs at *
 clear hw1
 simp only [Bool.not_false] at cr
 go_enter Tryz.func95, Tryz.ntmps95
 go_wp2_with fail
 refine cr.mono ?_
 rintro _ w1' ⟨rfl, hx⟩
 obtain rfl := hx.symm
 clear hx cr
 go_wp2_with fail
 refine cp.mono ?_
 rintro _ w2 ⟨v2, rfl, hM, hB⟩
 obtain ⟨a2, cap2, rfl, _, _, hrw⟩ := hM.rowAt (by unfold maxLen; omega)
 have hMf := hM.fresh
 have h2 := h1.below hB
 have c2 := raw_on X v zs a2 cap2 bs w2 h2 hrw (.inr (fun x hx => by have := hMf x hx; have := h1.lt; omega)) hl
 have T := wr_trans hO1 (rowon_refl w v) (Off.of_below hB) (rowon_refl w1 v)
 clear hM hMf hB cp hrw
 go_wp2_with fail
 refine c2.mono ?_
 rintro _ w3 ⟨v3, rfl, g1, g2, g3⟩
 have T2 := wr_trans T.1 T.2 g2 g3
 go_wp2_with fail
 go_end0
 exact ⟨v3, rfl, g1, T2.1, T2.2⟩
def sgL (g : Sg) : List Int := putL g.n ++ g.t
def sgsL (xs : List Sg) : List Int := putL xs.length ++ xs.flatMap sgL
def evL (g : Ev) : List Int := putL g.n ++ (textL g.s ++ g.t)
def evsL (xs : List Ev) : List Int := putL xs.length ++ xs.flatMap evL
def vtL (x : Vt) : List Int := ([x.k, x.e, x.v, x.s].flatMap putL) ++ x.d
def BRq.of (r : Rq) : BRq := ⟨r.c, r.n, r.s, r.t⟩
def ctL (x : Vt) (xs : List Sg) : List Int := vtL x ++ sgsL xs
def hdL (h : Hd) : List Int := batL h.q (h.rs.xs.map BRq.of) ++ ctL h.vt h.sg.xs
def hdsL (xs : List Hd) : List Int := putL xs.length ++ xs.flatMap hdL
set_option maxRecDepth 100000 in
set_option maxHeartbeats 2000000 in
theorem wsign_on (X : Nat) (v : Value) (zs : List Int) (g : Sg) (hg : g.ok) (w : World) (h : WrAt w X v zs false) (hl : zs.length + (sgL g).length ≤ 4194304) : Calls Tryz.prog 97 #[.pointer (some ⟨X, 0, none⟩), .agg g.cells.toArray] w fun e w' => WrOn X v zs (sgL g) w e w' := by
 obtain ⟨n, t⟩ := g
 have ht16 : t.length = 16 := hg.tl
 have htb := hg.tb
 have hn : n ≤ 9223372036854775807 := hg.nh
 have hl' : zs.length + (putL n).length + 16 ≤ 4194304 := by
  have : (sgL ⟨n, t⟩).length = (putL n).length + 16 := by unfold sgL; rw [List.length_append, ht16]
  omega
 have hR : (w.alloc (.cells (Sg.mk n t).cells.toArray 133)).rangeAt w.heap.size 0 (Sg.mk n t).cells := by simpa using range_new w (Sg.mk n t).cells.toArray 133
 have c0 := hR 0 _ rfl
 have hT : (w.alloc (.cells (Sg.mk n t).cells.toArray 133)).rangeAt w.heap.size 1 (v8 t) := fun j u hj => by
  have := hR (1 + j) u (by rw [Nat.add_comm]; exact hj)
  rwa [Nat.zero_add] at this
 have hB1 : Below w.heap.size w (w.alloc (.cells (Sg.mk n t).cells.toArray 133)) := (Below.refl _ _).alloc (Nat.le_refl _) _
 have hs1 : w.heap.size < (w.alloc (.cells (Sg.mk n t).cells.toArray 133)).heap.size := by simp
 simp only [Nat.add_zero] at c0
 unfold sgL
 simp only
 generalize (Sg.mk n t).cells = q at *
 have hXl := h.lt
 go_enter Tryz.func97, Tryz.ntmps97
 go_upto_region 1 with fail
 obtain ⟨w1, hw1⟩ : ∃ W, w.alloc (.cells q.toArray 133) = W := ⟨_, rfl⟩
 rw [hw1] at hR c0 hT hB1 hs1 ⊢
 have h1 := h.below hB1
 clear hw1 hg hR
 try simp only [Act.put]
 refine pl_begin ?_
 refine pl_t 4 (?_) (by rfl) ?_ rfl ?_
 rotate_left
 ·go_simp
  try with_reducible rfl
 simp only [nz]
 refine pl_t 5 (?_) (by rfl) ?_ rfl ?_
 rotate_left
 ·go_simp
  try with_reducible rfl
 simp only [nz]
 refine pl_t 6 (.int .i64 n) (by rfl) (pl_one rfl rfl c0 Tryz.underlying3 rfl) rfl ?_
 simp only [nz]
 refine pl_run (d := some 7) (v := .slice (some ⟨w1.heap.size, 0, none⟩) 1 1) (w' := w1.alloc (.cells #[.int .i64 n] 3)) (by rfl) (ex_bsi rfl rfl (run_bsi n _)) rfl ?_
 simp only [nz]
 refine pl_call (d := some 8) (by rfl) (by go_simp; first | done | exact ⟨rfl, rfl⟩ | with_reducible rfl) rfl ?_
 refine (nums_on X v zs [n] _ 1 w1 h1 rfl rfl (by omega) (one_le hn) (by simp; omega)).mono ?_
 rintro _ w2 ⟨v2, rfl, hW2, hO2, hr2⟩
 refine ⟨_, rfl, ?_⟩
 simp only [nz]
 refine pl_nil ?_
 have hT2 := wr_kept h hs1 hO2 hT
 have hs2 := hO2.size
 obtain ⟨Z, hZ⟩ : ∃ Z, Hid (w.heap.size = Z) := ⟨_, hide rfl⟩
 have hZX : Z ≠ X := by rw [← hZ.out]; omega
 have hZ2 : Z < w2.heap.size := by rw [← hZ.out]; omega
 rw [hZ.out] at hT2 ⊢
 have hW2 : WrAt w2 X v2 (zs ++ putL n) false := by simpa using hW2
 have hrow : RowAt w2 (some ⟨Z, 1, none⟩) t := ⟨by rw [ht16]; decide, htb, .inr ⟨_, _, rfl, by omega, hT2⟩⟩
 have cr := raw_on X v2 (zs ++ putL n) (some ⟨Z, 1, none⟩) 16 t w2 hW2 hrow (.inr (fun x hx => by cases hx; show Z ≠ X; omega)) (by simp only [List.length_append]; omega)
 rw [show t.length = 16 from ht16] at cr
 clear hT hT2 c0
 have T := wr_trans (Off.of_below hB1) (rowon_refl w v) hO2 hr2
 go_wp2_with fail
 refine cr.mono ?_
 intro _ w3 hfin
 have hF := WrOn.next T.1 T.2 hfin
 obtain ⟨v3, rfl, g1, g2, g3⟩ := hF
 go_wp2_with fail
 go_end0
 exact ⟨v3, rfl, g1, g2, g3⟩
end Go.Proofs.YtcbpbkefggekmaaGreatDoor
namespace Go.Proofs.YtcbpbkefggekmaaGreatDoor
open Go.RowKit
open Sha Tal
set_option linter.unusedVariables false
set_option linter.unusedSimpArgs false
theorem iszEv : (Tryz.prog.info? 25).map (·.size) = some 18 := by kernel_rfl
theorem iszSg : (Tryz.prog.info? 133).map (·.size) = some 17 := by kernel_rfl
theorem zeroSg : ∃ z : List Value, z.length = 17 ∧ ∀ w : World, (zeroValue 133).run Tryz.prog w = .ok (.agg z.toArray) w := ⟨[.int .i64 0] ++ v8 (List.replicate 16 0), by decide, fun w => by kernel_rfl⟩
theorem zeroEv : ∃ z : List Value, z.length = 18 ∧ ∀ w : World, (zeroValue 25).run Tryz.prog w = .ok (.agg z.toArray) w := ⟨[.int .i64 0, .string ⟨#[]⟩] ++ v8 (List.replicate 16 0), by decide, fun w => by kernel_rfl⟩
theorem zeroHd : ∃ z : List Value, z.length = 39 ∧ ∀ w : World, (zeroValue 113).run Tryz.prog w = .ok (.agg z.toArray) w := ⟨[.bool false, .slice none 0 0] ++ (Vt.zero.cells ++ [.slice none 0 0]), by decide, fun w => by kernel_rfl⟩
set_option maxRecDepth 100000 in
set_option maxHeartbeats 2000000 in
theorem wlistS_on (X : Nat) (v : Value) (zs : List Int) (x : Sl Sg) (w0 w : World) (hx : x.At SgE w0) (hb : Below w0.heap.size w0 w) (hX : w0.heap.size ≤ X) (h : WrAt w X v zs false) (hlen : x.xs.length ≤ 1000)
  (hE : ∀ g ∈ x.xs, ∀ v' zs' w', Below w0.heap.size w0 w' → WrAt w' X v' zs' false → zs'.length + (sgL g).length ≤ 4194304 → Calls Tryz.prog 97 #[.pointer (some ⟨X, 0, none⟩), .agg (SgE.f g).toArray] w' fun e w'' => WrOn X v' zs' (sgL g) w' e w'')
  (hl : zs.length + (putL (x.xs.length : Int) ++ x.xs.flatMap sgL).length ≤ 4194304) : Calls Tryz.prog 96 #[.pointer (some ⟨X, 0, none⟩), x.val, .func (.func 97) #[.pointer (some ⟨X, 0, none⟩)] #[]] w fun e w' => WrOn X v zs (putL (x.xs.length : Int) ++ x.xs.flatMap sgL) w e w' := by
 obtain ⟨a, cap, xs⟩ := x
 obtain ⟨zc, hzl, hzc⟩ := zeroSg
 simp only [Sl.val] at *
 have hx : RowsAt SgE w0 a xs := hx
 rw [List.length_append] at hl
 go_enter Tryz.func96, Tryz.ntmps96
 go_upto_region 0 with fail
 try simp only [Act.put]
 refine pl_begin ?_
 refine pl_t 8 (?_) (by rfl) ?_ rfl ?_
 rotate_left
 ·go_simp
  try with_reducible rfl
 simp only [nz]
 refine pl_t 9 (?_) (by rfl) ?_ rfl ?_
 rotate_left
 ·go_simp
  try with_reducible rfl
 simp only [nz]
 refine pl_t 10 (?_) (by rfl) ?_ rfl ?_
 rotate_left
 ·go_simp
  try with_reducible rfl
 simp only [nz]
 refine pl_run (d := some 11) (v := .slice (some ⟨w.heap.size, 0, none⟩) 1 1) (w' := w.alloc (.cells #[.int .i64 (xs.length : Int)] 3)) (by rfl) (ex_bsi rfl rfl (run_bsi _ _)) rfl ?_
 simp only [nz]
 refine pl_call (d := some 12) (by rfl) (by go_simp; first | done | exact ⟨rfl, rfl⟩ | with_reducible rfl) rfl ?_
 refine (nums_on X v zs [(xs.length : Int)] _ 1 w h rfl rfl (by omega) (one_le (by omega)) (by simp; omega)).mono ?_
 rintro _ w2 ⟨v2, rfl, hW2, hO2, hr2⟩
 refine ⟨_, rfl, ?_⟩
 simp only [nz]
 refine pl_nil ?_
 have hW2 : WrAt w2 X v2 (zs ++ putL (xs.length : Int)) false := by simpa using hW2
 have HK0 : Hid (∃ v', WrAt w2 X v' (zs ++ (putL (xs.length : Int) ++ (xs.take 0).flatMap sgL)) false ∧ Off (WrF X v) w w2 ∧ RowOn w v v') := hide ⟨v2, by simpa using hW2, hO2, hr2⟩
 clear hW2 hO2 hr2
 go_wp2_with fail
 go_loopw [15] (fun iv wr => ∃ k : Nat, k ≤ xs.length ∧ iv = .int .i64 (k : Int) ∧ Hid (∃ v', WrAt wr X v' (zs ++ (putL (xs.length : Int) ++ (xs.take k).flatMap sgL)) false ∧ Off (WrF X v) w wr ∧ RowOn w v v')) (fun iv _ => xs.length - (intOf iv).toNat)
 case atStart => exact ⟨0, by omega, rfl, HK0⟩
 case round =>
  clear HK0
  obtain ⟨k, hk, rfl, HK⟩ := hrel
  obtain ⟨v3, hW3, hO3, hr3⟩ := HK.out
  clear HK
  by_cases hlt : k < xs.length
  ·have k1 : (k : Int) < xs.length := by omega
   have hbw := hb.trans (wr_low h hX hO3)
   obtain ⟨b, off, rfl, hbb, hre⟩ := RowsAt.elem (hx.below hbw) k hlt
   have hre : wr.rangeAt b (off + k * 17) (SgE.f xs[k]) := hre
   have hiq : (Tryz.prog.info? 133).map (·.size) = some (SgE.f xs[k]).length := by rw [SgE.len _ (hx.2.1 _ (List.getElem_mem hlt))]; exact iszSg
   have hq1 := SgE.one xs[k]
   have hql : (SgE.f xs[k]).length = 17 := SgE.len _ (hx.2.1 _ (List.getElem_mem hlt))
   have hEk := hE xs[k] (List.getElem_mem hlt)
   have HS : Hid ((xs.take (k + 1)).flatMap sgL = (xs.take k).flatMap sgL ++ sgL xs[k]) := hide (by rw [List.take_succ_eq_append_getElem hlt, List.flatMap_append]; simp)
   have hll : ((xs.take (k + 1)).flatMap sgL).length ≤ (xs.flatMap sgL).length := by
    have e : xs.flatMap sgL = (xs.take (k + 1)).flatMap sgL ++ (xs.drop (k + 1)).flatMap sgL := by rw [← List.flatMap_append, List.take_append_drop]
    rw [e, List.length_append]
    omega
   rw [HS.out, List.length_append] at hll
   obtain ⟨bs, hbs⟩ : ∃ bs, Hid (sgL xs[k] = bs) := ⟨_, hide rfl⟩
   obtain ⟨q, hqq⟩ : ∃ q, Hid (SgE.f xs[k] = q) := ⟨_, hide rfl⟩
   rw [hbs.out] at HS hll
   rw [hqq.out] at hre hiq hq1 hql
   simp only [hbs.out, hqq.out] at hEk
   clear hqq hbs
   have hXl := hW3.lt
   go_upto_region 3 with fail
   try simp only [Act.put]
   refine pl_begin ?_
   refine pl_t 17 (?_) (by rfl) ?_ rfl ?_
   rotate_left
   ·go_simp
    try with_reducible rfl
   simp only [nz]
   refine pl_t 18 (.agg q.toArray) (by rfl) (ex_mid rfl rfl hre Tryz.underlying133 rfl hiq) rfl ?_
   simp only [nz]
   refine pl_run (d := some 7) (v := .pointer (some ⟨wr.heap.size, 0, none⟩)) (w' := wr.alloc (.cells zc.toArray 133)) (by rfl) (ex_alloc rfl (hzc _)) rfl ?_
   simp only [nz]
   refine pl_store (w' := (wr.alloc (.cells zc.toArray 133)).setCells wr.heap.size 0 q) (by rfl) (ex_put (cs := q.toArray) rfl rfl rfl (there_newN _ _ _ (by simp [hzl, hql])) (by simpa using hiq) (all_one hq1)) rfl ?_
   refine pl_nil ?_
   obtain ⟨hF1, hF2, hF3, -⟩ := fresh_store wr zc.toArray 133 q (by simp [hzl, hql])
   obtain ⟨w5, hw5⟩ : ∃ W, (wr.alloc (.cells zc.toArray 133)).setCells wr.heap.size 0 q = W := ⟨_, rfl⟩
   rw [hw5] at hF1 hF2 hF3 ⊢
   clear hw5
   have cE := hEk v3 _ w5 (hbw.trans (hF2.mono hbw.size)) (hW3.below hF2) (by simp only [List.length_append]; omega)
   have hO5 := hO3.below_r hF2
   have hr5 : RowOn w v v3 := hr3
   clear hW3 hO3 hr3 hF2 hF3 hEk
   go_upto_region 4 with fail
   try simp only [Act.put]
   refine pl_begin ?_
   refine pl_t 19 (?_) (by rfl) ?_ rfl ?_
   rotate_left
   ·go_simp
    try with_reducible rfl
   simp only [nz]
   refine pl_t 20 (.agg q.toArray) (by rfl) (ex_mid rfl rfl hF1 Tryz.underlying133 rfl hiq) rfl ?_
   simp only [nz]
   refine pl_call (d := some 21) (by rfl) (by go_simp; first | done | exact ⟨rfl, rfl⟩ | with_reducible rfl) rfl ?_
   refine (cE).mono ?_
   rintro _ w6 hfin
   obtain ⟨v6, rfl, g1, g2, g3⟩ := hfin
   refine ⟨_, rfl, ?_⟩
   simp only [nz]
   refine pl_nil ?_
   have T := wr_trans hO5 hr5 g2 g3
   have HN : Hid (∃ v', WrAt w6 X v' (zs ++ (putL (xs.length : Int) ++ (xs.take (k + 1)).flatMap sgL)) false ∧ Off (WrF X v) w w6 ∧ RowOn w v v') := hide ⟨v6, by rw [HS.out]; simpa [List.append_assoc] using g1, T.1, T.2⟩
   clear g1 g2 g3 T hO5 hr5 hF1
   go_wp2_with fail
   go_roundw
   case rel => exact ⟨k + 1, by omega, by go_num, HN⟩
   case measure => simp [intOf]; omega
  ·obtain rfl : k = xs.length := by omega
   rw [List.take_length] at hW3
   have HF := hide (show WrOn X v zs (putL (xs.length : Int) ++ xs.flatMap sgL) w (.returned (.tuple #[])) wr from ⟨v3, rfl, hW3, hO3, hr3⟩)
   go_wp2_with fail
   go_end0
   exact HF.out
set_option maxRecDepth 100000 in
set_option maxHeartbeats 2000000 in
theorem wlistE_on (X : Nat) (v : Value) (zs : List Int) (x : Sl Ev) (w0 w : World) (hx : x.At EvE w0) (hb : Below w0.heap.size w0 w) (hX : w0.heap.size ≤ X) (h : WrAt w X v zs false) (hlen : x.xs.length ≤ 1000)
  (hE : ∀ g ∈ x.xs, ∀ v' zs' w', Below w0.heap.size w0 w' → WrAt w' X v' zs' false → zs'.length + (evL g).length ≤ 4194304 → Calls Tryz.prog 92 #[.pointer (some ⟨X, 0, none⟩), .agg (EvE.f g).toArray] w' fun e w'' => WrOn X v' zs' (evL g) w' e w'')
  (hl : zs.length + (putL (x.xs.length : Int) ++ x.xs.flatMap evL).length ≤ 4194304) : Calls Tryz.prog 91 #[.pointer (some ⟨X, 0, none⟩), x.val, .func (.func 92) #[.pointer (some ⟨X, 0, none⟩)] #[]] w fun e w' => WrOn X v zs (putL (x.xs.length : Int) ++ x.xs.flatMap evL) w e w' := by
 obtain ⟨a, cap, xs⟩ := x
 obtain ⟨zc, hzl, hzc⟩ := zeroEv
 simp only [Sl.val] at *
 have hx : RowsAt EvE w0 a xs := hx
 rw [List.length_append] at hl
 go_enter Tryz.func91, Tryz.ntmps91
 go_upto_region 0 with fail
 try simp only [Act.put]
 refine pl_begin ?_
 refine pl_t 8 (?_) (by rfl) ?_ rfl ?_
 rotate_left
 ·go_simp
  try with_reducible rfl
 simp only [nz]
 refine pl_t 9 (?_) (by rfl) ?_ rfl ?_
 rotate_left
 ·go_simp
  try with_reducible rfl
 simp only [nz]
 refine pl_t 10 (?_) (by rfl) ?_ rfl ?_
 rotate_left
 ·go_simp
  try with_reducible rfl
 simp only [nz]
 refine pl_run (d := some 11) (v := .slice (some ⟨w.heap.size, 0, none⟩) 1 1) (w' := w.alloc (.cells #[.int .i64 (xs.length : Int)] 3)) (by rfl) (ex_bsi rfl rfl (run_bsi _ _)) rfl ?_
 simp only [nz]
 refine pl_call (d := some 12) (by rfl) (by go_simp; first | done | exact ⟨rfl, rfl⟩ | with_reducible rfl) rfl ?_
 refine (nums_on X v zs [(xs.length : Int)] _ 1 w h rfl rfl (by omega) (one_le (by omega)) (by simp; omega)).mono ?_
 rintro _ w2 ⟨v2, rfl, hW2, hO2, hr2⟩
 refine ⟨_, rfl, ?_⟩
 simp only [nz]
 refine pl_nil ?_
 have hW2 : WrAt w2 X v2 (zs ++ putL (xs.length : Int)) false := by simpa using hW2
 have HK0 : Hid (∃ v', WrAt w2 X v' (zs ++ (putL (xs.length : Int) ++ (xs.take 0).flatMap evL)) false ∧ Off (WrF X v) w w2 ∧ RowOn w v v') := hide ⟨v2, by simpa using hW2, hO2, hr2⟩
 clear hW2 hO2 hr2
 go_wp2_with fail
 go_loopw [15] (fun iv wr => ∃ k : Nat, k ≤ xs.length ∧ iv = .int .i64 (k : Int) ∧ Hid (∃ v', WrAt wr X v' (zs ++ (putL (xs.length : Int) ++ (xs.take k).flatMap evL)) false ∧ Off (WrF X v) w wr ∧ RowOn w v v')) (fun iv _ => xs.length - (intOf iv).toNat)
 case atStart => exact ⟨0, by omega, rfl, HK0⟩
 case round =>
  clear HK0
  obtain ⟨k, hk, rfl, HK⟩ := hrel
  obtain ⟨v3, hW3, hO3, hr3⟩ := HK.out
  clear HK
  by_cases hlt : k < xs.length
  ·have k1 : (k : Int) < xs.length := by omega
   have hbw := hb.trans (wr_low h hX hO3)
   obtain ⟨b, off, rfl, hbb, hre⟩ := RowsAt.elem (hx.below hbw) k hlt
   have hre : wr.rangeAt b (off + k * 18) (EvE.f xs[k]) := hre
   have hiq : (Tryz.prog.info? 25).map (·.size) = some (EvE.f xs[k]).length := by rw [EvE.len _ (hx.2.1 _ (List.getElem_mem hlt))]; exact iszEv
   have hq1 := EvE.one xs[k]
   have hql : (EvE.f xs[k]).length = 18 := EvE.len _ (hx.2.1 _ (List.getElem_mem hlt))
   have hEk := hE xs[k] (List.getElem_mem hlt)
   have HS : Hid ((xs.take (k + 1)).flatMap evL = (xs.take k).flatMap evL ++ evL xs[k]) := hide (by rw [List.take_succ_eq_append_getElem hlt, List.flatMap_append]; simp)
   have hll : ((xs.take (k + 1)).flatMap evL).length ≤ (xs.flatMap evL).length := by
    have e : xs.flatMap evL = (xs.take (k + 1)).flatMap evL ++ (xs.drop (k + 1)).flatMap evL := by rw [← List.flatMap_append, List.take_append_drop]
    rw [e, List.length_append]
    omega
   rw [HS.out, List.length_append] at hll
   obtain ⟨bs, hbs⟩ : ∃ bs, Hid (evL xs[k] = bs) := ⟨_, hide rfl⟩
   obtain ⟨q, hqq⟩ : ∃ q, Hid (EvE.f xs[k] = q) := ⟨_, hide rfl⟩
   rw [hbs.out] at HS hll
   rw [hqq.out] at hre hiq hq1 hql
   simp only [hbs.out, hqq.out] at hEk
   clear hqq hbs
   have hXl := hW3.lt
   go_upto_region 3 with fail
   try simp only [Act.put]
   refine pl_begin ?_
   refine pl_t 17 (?_) (by rfl) ?_ rfl ?_
   rotate_left
   ·go_simp
    try with_reducible rfl
   simp only [nz]
   refine pl_t 18 (.agg q.toArray) (by rfl) (ex_mid rfl rfl hre Tryz.underlying25 rfl hiq) rfl ?_
   simp only [nz]
   refine pl_run (d := some 7) (v := .pointer (some ⟨wr.heap.size, 0, none⟩)) (w' := wr.alloc (.cells zc.toArray 25)) (by rfl) (ex_alloc rfl (hzc _)) rfl ?_
   simp only [nz]
   refine pl_store (w' := (wr.alloc (.cells zc.toArray 25)).setCells wr.heap.size 0 q) (by rfl) (ex_put (cs := q.toArray) rfl rfl rfl (there_newN _ _ _ (by simp [hzl, hql])) (by simpa using hiq) (all_one hq1)) rfl ?_
   refine pl_nil ?_
   obtain ⟨hF1, hF2, hF3, -⟩ := fresh_store wr zc.toArray 25 q (by simp [hzl, hql])
   obtain ⟨w5, hw5⟩ : ∃ W, (wr.alloc (.cells zc.toArray 25)).setCells wr.heap.size 0 q = W := ⟨_, rfl⟩
   rw [hw5] at hF1 hF2 hF3 ⊢
   clear hw5
   have cE := hEk v3 _ w5 (hbw.trans (hF2.mono hbw.size)) (hW3.below hF2) (by simp only [List.length_append]; omega)
   have hO5 := hO3.below_r hF2
   have hr5 : RowOn w v v3 := hr3
   clear hW3 hO3 hr3 hF2 hF3 hEk
   go_upto_region 4 with fail
   try simp only [Act.put]
   refine pl_begin ?_
   refine pl_t 19 (?_) (by rfl) ?_ rfl ?_
   rotate_left
   ·go_simp
    try with_reducible rfl
   simp only [nz]
   refine pl_t 20 (.agg q.toArray) (by rfl) (ex_mid rfl rfl hF1 Tryz.underlying25 rfl hiq) rfl ?_
   simp only [nz]
   refine pl_call (d := some 21) (by rfl) (by go_simp; first | done | exact ⟨rfl, rfl⟩ | with_reducible rfl) rfl ?_
   refine (cE).mono ?_
   rintro _ w6 hfin
   obtain ⟨v6, rfl, g1, g2, g3⟩ := hfin
   refine ⟨_, rfl, ?_⟩
   simp only [nz]
   refine pl_nil ?_
   have T := wr_trans hO5 hr5 g2 g3
   have HN : Hid (∃ v', WrAt w6 X v' (zs ++ (putL (xs.length : Int) ++ (xs.take (k + 1)).flatMap evL)) false ∧ Off (WrF X v) w w6 ∧ RowOn w v v') := hide ⟨v6, by rw [HS.out]; simpa [List.append_assoc] using g1, T.1, T.2⟩
   clear g1 g2 g3 T hO5 hr5 hF1
   go_wp2_with fail
   go_roundw
   case rel => exact ⟨k + 1, by omega, by go_num, HN⟩
   case measure => simp [intOf]; omega
  ·obtain rfl : k = xs.length := by omega
   rw [List.take_length] at hW3
   have HF := hide (show WrOn X v zs (putL (xs.length : Int) ++ xs.flatMap evL) w (.returned (.tuple #[])) wr from ⟨v3, rfl, hW3, hO3, hr3⟩)
   go_wp2_with fail
   go_end0
   exact HF.out
set_option maxRecDepth 100000 in
set_option maxHeartbeats 2000000 in
theorem wlistH_on (X : Nat) (v : Value) (zs : List Int) (x : Sl Hd) (w0 w : World) (hx : x.At HdE w0) (hb : Below w0.heap.size w0 w) (hX : w0.heap.size ≤ X) (h : WrAt w X v zs false) (hlen : x.xs.length ≤ 1000)
  (hE : ∀ g ∈ x.xs, ∀ v' zs' w', Below w0.heap.size w0 w' → WrAt w' X v' zs' false → zs'.length + (hdL g).length ≤ 4194304 → Calls Tryz.prog 145 #[.pointer (some ⟨X, 0, none⟩), .agg (HdE.f g).toArray] w' fun e w'' => WrOn X v' zs' (hdL g) w' e w'')
  (hl : zs.length + (putL (x.xs.length : Int) ++ x.xs.flatMap hdL).length ≤ 4194304) : Calls Tryz.prog 144 #[.pointer (some ⟨X, 0, none⟩), x.val, .func (.func 145) #[.pointer (some ⟨X, 0, none⟩)] #[]] w fun e w' => WrOn X v zs (putL (x.xs.length : Int) ++ x.xs.flatMap hdL) w e w' := by
 obtain ⟨a, cap, xs⟩ := x
 obtain ⟨zc, hzl, hzc⟩ := zeroHd
 simp only [Sl.val] at *
 have hx : RowsAt HdE w0 a xs := hx
 rw [List.length_append] at hl
 go_enter Tryz.func144, Tryz.ntmps144
 go_upto_region 0 with fail
 try simp only [Act.put]
 refine pl_begin ?_
 refine pl_t 8 (?_) (by rfl) ?_ rfl ?_
 rotate_left
 ·go_simp
  try with_reducible rfl
 simp only [nz]
 refine pl_t 9 (?_) (by rfl) ?_ rfl ?_
 rotate_left
 ·go_simp
  try with_reducible rfl
 simp only [nz]
 refine pl_t 10 (?_) (by rfl) ?_ rfl ?_
 rotate_left
 ·go_simp
  try with_reducible rfl
 simp only [nz]
 refine pl_run (d := some 11) (v := .slice (some ⟨w.heap.size, 0, none⟩) 1 1) (w' := w.alloc (.cells #[.int .i64 (xs.length : Int)] 3)) (by rfl) (ex_bsi rfl rfl (run_bsi _ _)) rfl ?_
 simp only [nz]
 refine pl_call (d := some 12) (by rfl) (by go_simp; first | done | exact ⟨rfl, rfl⟩ | with_reducible rfl) rfl ?_
 refine (nums_on X v zs [(xs.length : Int)] _ 1 w h rfl rfl (by omega) (one_le (by omega)) (by simp; omega)).mono ?_
 rintro _ w2 ⟨v2, rfl, hW2, hO2, hr2⟩
 refine ⟨_, rfl, ?_⟩
 simp only [nz]
 refine pl_nil ?_
 have hW2 : WrAt w2 X v2 (zs ++ putL (xs.length : Int)) false := by simpa using hW2
 have HK0 : Hid (∃ v', WrAt w2 X v' (zs ++ (putL (xs.length : Int) ++ (xs.take 0).flatMap hdL)) false ∧ Off (WrF X v) w w2 ∧ RowOn w v v') := hide ⟨v2, by simpa using hW2, hO2, hr2⟩
 clear hW2 hO2 hr2
 go_wp2_with fail
 go_loopw [15] (fun iv wr => ∃ k : Nat, k ≤ xs.length ∧ iv = .int .i64 (k : Int) ∧ Hid (∃ v', WrAt wr X v' (zs ++ (putL (xs.length : Int) ++ (xs.take k).flatMap hdL)) false ∧ Off (WrF X v) w wr ∧ RowOn w v v')) (fun iv _ => xs.length - (intOf iv).toNat)
 case atStart => exact ⟨0, by omega, rfl, HK0⟩
 case round =>
  clear HK0
  obtain ⟨k, hk, rfl, HK⟩ := hrel
  obtain ⟨v3, hW3, hO3, hr3⟩ := HK.out
  clear HK
  by_cases hlt : k < xs.length
  ·have k1 : (k : Int) < xs.length := by omega
   have hbw := hb.trans (wr_low h hX hO3)
   obtain ⟨b, off, rfl, hbb, hre⟩ := RowsAt.elem (hx.below hbw) k hlt
   have hre : wr.rangeAt b (off + k * 39) (HdE.f xs[k]) := hre
   have hiq : (Tryz.prog.info? 113).map (·.size) = some (HdE.f xs[k]).length := by rw [HdE.len _ (hx.2.1 _ (List.getElem_mem hlt))]; exact iszH
   have hq1 := HdE.one xs[k]
   have hql : (HdE.f xs[k]).length = 39 := HdE.len _ (hx.2.1 _ (List.getElem_mem hlt))
   have hEk := hE xs[k] (List.getElem_mem hlt)
   have HS : Hid ((xs.take (k + 1)).flatMap hdL = (xs.take k).flatMap hdL ++ hdL xs[k]) := hide (by rw [List.take_succ_eq_append_getElem hlt, List.flatMap_append]; simp)
   have hll : ((xs.take (k + 1)).flatMap hdL).length ≤ (xs.flatMap hdL).length := by
    have e : xs.flatMap hdL = (xs.take (k + 1)).flatMap hdL ++ (xs.drop (k + 1)).flatMap hdL := by rw [← List.flatMap_append, List.take_append_drop]
    rw [e, List.length_append]
    omega
   rw [HS.out, List.length_append] at hll
   obtain ⟨bs, hbs⟩ : ∃ bs, Hid (hdL xs[k] = bs) := ⟨_, hide rfl⟩
   obtain ⟨q, hqq⟩ : ∃ q, Hid (HdE.f xs[k] = q) := ⟨_, hide rfl⟩
   rw [hbs.out] at HS hll
   rw [hqq.out] at hre hiq hq1 hql
   simp only [hbs.out, hqq.out] at hEk
   clear hqq hbs
   have hXl := hW3.lt
   go_upto_region 3 with fail
   try simp only [Act.put]
   refine pl_begin ?_
   refine pl_t 17 (?_) (by rfl) ?_ rfl ?_
   rotate_left
   ·go_simp
    try with_reducible rfl
   simp only [nz]
   refine pl_t 18 (.agg q.toArray) (by rfl) (ex_mid rfl rfl hre Tryz.underlying113 rfl hiq) rfl ?_
   simp only [nz]
   refine pl_run (d := some 7) (v := .pointer (some ⟨wr.heap.size, 0, none⟩)) (w' := wr.alloc (.cells zc.toArray 113)) (by rfl) (ex_alloc rfl (hzc _)) rfl ?_
   simp only [nz]
   refine pl_store (w' := (wr.alloc (.cells zc.toArray 113)).setCells wr.heap.size 0 q) (by rfl) (ex_put (cs := q.toArray) rfl rfl rfl (there_newN _ _ _ (by simp [hzl, hql])) (by simpa using hiq) (all_one hq1)) rfl ?_
   refine pl_nil ?_
   obtain ⟨hF1, hF2, hF3, -⟩ := fresh_store wr zc.toArray 113 q (by simp [hzl, hql])
   obtain ⟨w5, hw5⟩ : ∃ W, (wr.alloc (.cells zc.toArray 113)).setCells wr.heap.size 0 q = W := ⟨_, rfl⟩
   rw [hw5] at hF1 hF2 hF3 ⊢
   clear hw5
   have cE := hEk v3 _ w5 (hbw.trans (hF2.mono hbw.size)) (hW3.below hF2) (by simp only [List.length_append]; omega)
   have hO5 := hO3.below_r hF2
   have hr5 : RowOn w v v3 := hr3
   clear hW3 hO3 hr3 hF2 hF3 hEk
   go_upto_region 4 with fail
   try simp only [Act.put]
   refine pl_begin ?_
   refine pl_t 19 (?_) (by rfl) ?_ rfl ?_
   rotate_left
   ·go_simp
    try with_reducible rfl
   simp only [nz]
   refine pl_t 20 (.agg q.toArray) (by rfl) (ex_mid rfl rfl hF1 Tryz.underlying113 rfl hiq) rfl ?_
   simp only [nz]
   refine pl_call (d := some 21) (by rfl) (by go_simp; first | done | exact ⟨rfl, rfl⟩ | with_reducible rfl) rfl ?_
   refine (cE).mono ?_
   rintro _ w6 hfin
   obtain ⟨v6, rfl, g1, g2, g3⟩ := hfin
   refine ⟨_, rfl, ?_⟩
   simp only [nz]
   refine pl_nil ?_
   have T := wr_trans hO5 hr5 g2 g3
   have HN : Hid (∃ v', WrAt w6 X v' (zs ++ (putL (xs.length : Int) ++ (xs.take (k + 1)).flatMap hdL)) false ∧ Off (WrF X v) w w6 ∧ RowOn w v v') := hide ⟨v6, by rw [HS.out]; simpa [List.append_assoc] using g1, T.1, T.2⟩
   clear g1 g2 g3 T hO5 hr5 hF1
   go_wp2_with fail
   go_roundw
   case rel => exact ⟨k + 1, by omega, by go_num, HN⟩
   case measure => simp [intOf]; omega
  ·obtain rfl : k = xs.length := by omega
   rw [List.take_length] at hW3
   have HF := hide (show WrOn X v zs (putL (xs.length : Int) ++ xs.flatMap hdL) w (.returned (.tuple #[])) wr from ⟨v3, rfl, hW3, hO3, hr3⟩)
   go_wp2_with fail
   go_end0
   exact HF.out
end Go.Proofs.YtcbpbkefggekmaaGreatDoor
