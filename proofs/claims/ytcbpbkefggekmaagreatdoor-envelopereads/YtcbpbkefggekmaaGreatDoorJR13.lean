/- the document's Decode; both Decodes are the same: what is pure; what is read comes back, and has one form: the words; messages come back, and have one form: wha -/
import Derived.Test.YtcbpbkefggekmaaGreatDoorJR0
import Derived.Test.YtcbpbkefggekmaaGreatDoorJR12
import Derived.Test.YtcbpbkefggekmaaGreatDoorJR3
import Derived.Test.YtcbpbkefggekmaaGreatDoorJR10
import Derived.Test.YtcbpbkefggekmaaGreatDoorJR7
import Derived.Test.YtcbpbkefggekmaaGreatDoorJR5
import Derived.Deep.Cut
import Derived.Deep.DeepCutAuto
import Derived.Test.YtcbpbkefggekmaaGreatDoorJR11
import Derived.Test.YtcbpbkefggekmaaGreatDoorJR2
namespace Go.Proofs.YtcbpbkefggekmaaGreatDoor
open Go.RowKit
open Sha Tal
set_option linter.unusedVariables false
set_option linter.unusedSimpArgs false
set_option maxRecDepth 100000 in
set_option maxHeartbeats 1000000 in
theorem xdoneS (D X : Nat) (s : Xst) (w : World) (h : XR w D X s) : Calls Tryz.prog 47 #[.pointer (some ⟨X, 0, none⟩)] w fun en w' => en = .returned (.int .i64 (doneE s.1 s.2)) ∧ Below w.heap.size w w' := by
 obtain ⟨rest, e⟩ := s
 have c2 := h.st.err
 simp only at c2 ⊢
 unfold doneE
 by_cases he : e = 0
 ·subst he
  obtain ⟨zs, p, ⟨hX, ⟨a, cap, c0, hc, hm, hr, hb⟩, c1, c2', f0, f1, f2, hp, hl⟩, hd⟩ := h.st
  have hd : List.drop p zs = rest := hd rfl
  have hlen : rest.length = zs.length - p := by rw [← hd, List.length_drop]
  rw [if_pos rfl]
  clear h hr c2'
  by_cases hz : rest.length = 0
  ·rw [if_pos hz]
   have hlt : ¬ ((p : Int) < (zs.length : Int)) := by omega
   go_enter Tryz.func47, Tryz.ntmps47
   go_upto_region 3 with fail
   have d0 : w.drew.cell? ⟨X, 0, none⟩ = _ := c0
   have d1 : w.drew.cell? ⟨X, 1, none⟩ = _ := c1
   have hB8 : Below w.heap.size w w.drew := (Below.refl _ _).drew
   refine hs_begin (S := (Below w.drew.heap.size w.drew)) 10 rfl (by kernel_rfl) ?_
   have hS : (Below w.drew.heap.size w.drew) w.drew := Below.refl _ _
   have k0 : ∀ w', Below w.drew.heap.size w.drew w' → w'.cell? ⟨X, 0, none⟩ = some (.slice a zs.length cap) := fun w' hw => (cell_block (hw.block X hX)).1.trans c0
   have k1 : ∀ w', Below w.drew.heap.size w.drew w' → w'.cell? ⟨X, 1, none⟩ = some (.int .i64 (p : Int)) := fun w' hw => (cell_block (hw.block X hX)).1.trans c1
   refine hs_t 0 12 (?_) rfl (by kernel_rfl) (by kernel_rfl) (by kernel_rfl) (by rfl) ?_ hS rfl ?_
   rotate_left
   ·intro w' hw
    go_simp
    try with_reducible rfl
   simp only [nz]
   refine hs_t 1 13 (?_) rfl (by kernel_rfl) (by kernel_rfl) (by kernel_rfl) (by rfl) ?_ hS rfl ?_
   rotate_left
   ·intro w' hw
    go_simp
    try with_reducible rfl
   simp only [nz]
   refine hs_t 2 14 (?_) rfl (by kernel_rfl) (by kernel_rfl) (by kernel_rfl) (by rfl) ?_ hS rfl ?_
   rotate_left
   ·intro w' hw
    go_simp
    try with_reducible rfl
   simp only [nz]
   refine hs_t 3 15 (.int .i64 (p : Int)) rfl (by kernel_rfl) (by kernel_rfl) (by kernel_rfl) (by rfl) (fun w' hw => pl_one rfl rfl (k1 _ hw) Tryz.underlying3 rfl) hS rfl ?_
   simp only [nz]
   refine hs_t 4 16 (?_) rfl (by kernel_rfl) (by kernel_rfl) (by kernel_rfl) (by rfl) ?_ hS rfl ?_
   rotate_left
   ·intro w' hw
    go_simp
    try with_reducible rfl
   simp only [nz]
   refine hs_t 5 17 (?_) rfl (by kernel_rfl) (by kernel_rfl) (by kernel_rfl) (by rfl) ?_ hS rfl ?_
   rotate_left
   ·intro w' hw
    go_simp
    try with_reducible rfl
   simp only [nz]
   refine hs_t 6 18 (?_) rfl (by kernel_rfl) (by kernel_rfl) (by kernel_rfl) (by rfl) ?_ hS rfl ?_
   rotate_left
   ·intro w' hw
    go_simp
    try with_reducible rfl
   simp only [nz]
   refine hs_t 7 19 (.slice a zs.length cap) rfl (by kernel_rfl) (by kernel_rfl) (by kernel_rfl) (by rfl) (fun w' hw => pl_one rfl rfl (k0 _ hw) Tryz.underlying59 rfl) hS rfl ?_
   simp only [nz]
   refine hs_t 8 20 (?_) rfl (by kernel_rfl) (by kernel_rfl) (by kernel_rfl) (by rfl) ?_ hS rfl ?_
   rotate_left
   ·intro w' hw
    go_simp
    try with_reducible rfl
   simp only [nz]
   refine hs_t 9 21 (.bool false) rfl (by kernel_rfl) (by kernel_rfl) (by kernel_rfl) (by rfl) (fun w' hw => by go_simp <;> (try simp) <;> (try omega)) hS rfl ?_
   simp only [nz]
   refine hs_done (by kernel_rfl) ?_
   go_wp2_with fail
   go_ret
   exact ⟨rfl, hB8⟩
  ·rw [if_neg hz]
   have hlt : (p : Int) < (zs.length : Int) := by omega
   go_enter Tryz.func47, Tryz.ntmps47
   go_upto_region 3 with fail
   have hB8 : Below w.heap.size w w.drew := (Below.refl _ _).drew
   refine hs_begin (S := (Below w.drew.heap.size w.drew)) 10 rfl (by kernel_rfl) ?_
   have hS : (Below w.drew.heap.size w.drew) w.drew := Below.refl _ _
   have k0 : ∀ w', Below w.drew.heap.size w.drew w' → w'.cell? ⟨X, 0, none⟩ = some (.slice a zs.length cap) := fun w' hw => (cell_block (hw.block X hX)).1.trans c0
   have k1 : ∀ w', Below w.drew.heap.size w.drew w' → w'.cell? ⟨X, 1, none⟩ = some (.int .i64 (p : Int)) := fun w' hw => (cell_block (hw.block X hX)).1.trans c1
   refine hs_t 0 12 (?_) rfl (by kernel_rfl) (by kernel_rfl) (by kernel_rfl) (by rfl) ?_ hS rfl ?_
   rotate_left
   ·intro w' hw
    go_simp
    try with_reducible rfl
   simp only [nz]
   refine hs_t 1 13 (?_) rfl (by kernel_rfl) (by kernel_rfl) (by kernel_rfl) (by rfl) ?_ hS rfl ?_
   rotate_left
   ·intro w' hw
    go_simp
    try with_reducible rfl
   simp only [nz]
   refine hs_t 2 14 (?_) rfl (by kernel_rfl) (by kernel_rfl) (by kernel_rfl) (by rfl) ?_ hS rfl ?_
   rotate_left
   ·intro w' hw
    go_simp
    try with_reducible rfl
   simp only [nz]
   refine hs_t 3 15 (.int .i64 (p : Int)) rfl (by kernel_rfl) (by kernel_rfl) (by kernel_rfl) (by rfl) (fun w' hw => pl_one rfl rfl (k1 _ hw) Tryz.underlying3 rfl) hS rfl ?_
   simp only [nz]
   refine hs_t 4 16 (?_) rfl (by kernel_rfl) (by kernel_rfl) (by kernel_rfl) (by rfl) ?_ hS rfl ?_
   rotate_left
   ·intro w' hw
    go_simp
    try with_reducible rfl
   simp only [nz]
   refine hs_t 5 17 (?_) rfl (by kernel_rfl) (by kernel_rfl) (by kernel_rfl) (by rfl) ?_ hS rfl ?_
   rotate_left
   ·intro w' hw
    go_simp
    try with_reducible rfl
   simp only [nz]
   refine hs_t 6 18 (?_) rfl (by kernel_rfl) (by kernel_rfl) (by kernel_rfl) (by rfl) ?_ hS rfl ?_
   rotate_left
   ·intro w' hw
    go_simp
    try with_reducible rfl
   simp only [nz]
   refine hs_t 7 19 (.slice a zs.length cap) rfl (by kernel_rfl) (by kernel_rfl) (by kernel_rfl) (by rfl) (fun w' hw => pl_one rfl rfl (k0 _ hw) Tryz.underlying59 rfl) hS rfl ?_
   simp only [nz]
   refine hs_t 8 20 (?_) rfl (by kernel_rfl) (by kernel_rfl) (by kernel_rfl) (by rfl) ?_ hS rfl ?_
   rotate_left
   ·intro w' hw
    go_simp
    try with_reducible rfl
   simp only [nz]
   refine hs_t 9 21 (.bool true) rfl (by kernel_rfl) (by kernel_rfl) (by kernel_rfl) (by rfl) (fun w' hw => by go_simp <;> (try simp) <;> (try omega)) hS rfl ?_
   simp only [nz]
   refine hs_done (by kernel_rfl) ?_
   go_wp2_with fail
   go_ret
   exact ⟨rfl, hB8⟩
 ·have hne : (e != 0) = true := by simpa using he
  rw [if_neg he]
  clear h
  go_enter Tryz.func47, Tryz.ntmps47
  go_wp2_with fail
  go_ret
  exact ⟨rfl, Below.refl _ _⟩
def cod (s : Rst) : Int := if s.2.2 = true then 130 else s.2.1
def Sim (s : Rst) (t : Xst) : Prop := (s = (t.1, 0, false) ∧ t.2 = 0) ∨ (cod s ≠ 0 ∧ t.2 = cod s)
structure Pair {α : Type} (f : Rst → α × Rst) (xf : Xst → α × Xst) : Prop where
 bad : ∀ s, cod s ≠ 0 → cod (f s).2 = cod s
 xbad : ∀ t, t.2 ≠ 0 → (xf t).2.2 = t.2
 ok : ∀ r, Sim (f (r, 0, false)).2 (xf (r, 0)).2 ∧ (cod (f (r, 0, false)).2 = 0 → (f (r, 0, false)).1 = (xf (r, 0)).1)
theorem itG_bad {α : Type} {one : Rst → α × Rst} (h : ∀ s, cod s ≠ 0 → cod (one s).2 = cod s) {s : Rst} (hs : cod s ≠ 0) : ∀ k, cod (itG one s k).2 = cod s := by
  intro k
  induction k with
  | zero => rfl
  | succ k ih => show cod (one (itG one s k).2).2 = _; rw [h _ (by rw [ih]; exact hs), ih]
theorem numS_bad (most : Int) (r : List Int) (e : Int) (h : e ≠ 0) : (numS r e most).2.2 = e := by
 unfold numS
 rw [if_neg h]
theorem textS_bad (most : Int) (r : List Int) (e : Int) (h : e ≠ 0) : (textS r e most).2.2 = e := by
 have := numS_bad 9223372036854775807 r e h
 unfold textS
 rw [if_neg (by rw [this]; exact h)]
 exact this
theorem rawS_bad (n : Int) (r : List Int) (e : Int) (h : e ≠ 0) : (rawS r e n).2.2 = e := by
 unfold rawS
 rw [if_neg h]
def vt4 (v : Int) (r : List Int) (e : Int) : Vt × List Int × Int :=
 (⟨v, (numS r e 1048576).1, (numS (numS r e 1048576).2.1 (numS r e 1048576).2.2 1099511627776).1, (numS (numS (numS r e 1048576).2.1 (numS r e 1048576).2.2 1099511627776).2.1 (numS (numS r e 1048576).2.1 (numS r e 1048576).2.2 1099511627776).2.2 1099511627776).1, padN 32 (rawS (numS (numS (numS r e 1048576).2.1 (numS r e 1048576).2.2 1099511627776).2.1 (numS (numS r e 1048576).2.1 (numS r e 1048576).2.2 1099511627776).2.2 1099511627776).2.1 (numS (numS (numS r e 1048576).2.1 (numS r e 1048576).2.2 1099511627776).2.1 (numS (numS r e 1048576).2.1 (numS r e 1048576).2.2 1099511627776).2.2 1099511627776).2.2 32).1⟩, (rawS (numS (numS (numS r e 1048576).2.1 (numS r e 1048576).2.2 1099511627776).2.1 (numS (numS r e 1048576).2.1 (numS r e 1048576).2.2 1099511627776).2.2 1099511627776).2.1 (numS (numS (numS r e 1048576).2.1 (numS r e 1048576).2.2 1099511627776).2.1 (numS (numS r e 1048576).2.1 (numS r e 1048576).2.2 1099511627776).2.2 1099511627776).2.2 32).2)
structure Codec {α : Type} (f : Rst → α × Rst) (enc : α → List Int) (ok : α → Prop) : Prop where
 bad : ∀ s, cod s ≠ 0 → cod (f s).2 = cod s
 back : ∀ a q, ok a → f (enc a ++ q, 0, false) = (a, q, 0, false)
 form : ∀ r, Bs r → cod (f (r, 0, false)).2 = 0 → ∃ a q, ok a ∧ f (r, 0, false) = (a, q, 0, false) ∧ r = enc a ++ q
theorem Bs.right {a q : List Int} (h : Bs (a ++ q)) : Bs q := fun z hz => h z (List.mem_append_right _ hz)
theorem Bs.left {a q : List Int} (h : Bs (a ++ q)) : Bs a := fun z hz => h z (List.mem_append_left _ hz)
theorem cod0 {r : List Int} {e : Int} {z : Bool} (h : cod (r, e, z) = 0) : z = false ∧ e = 0 := by
 unfold cod at h
 cases z
 ·exact ⟨rfl, h⟩
 ·exact absurd h (show (130 : Int) ≠ 0 by decide)
theorem Codec.simple {α : Type} {g : List Int → Int → α × List Int × Int} {enc : α → List Int} {ok : α → Prop} (h1 : ∀ r e, e ≠ 0 → (g r e).2.2 = e) (h2 : ∀ a q, ok a → g (enc a ++ q) 0 = (a, q, 0)) (h3 : ∀ r, Bs r → (g r 0).2.2 = 0 → ∃ a q, ok a ∧ g r 0 = (a, q, 0) ∧ r = enc a ++ q) :
  Codec (fun s => ((g s.1 s.2.1).1, (g s.1 s.2.1).2.1, (g s.1 s.2.1).2.2, s.2.2)) enc ok := by
 refine ⟨fun s h => ?_, fun a q ha => ?_, fun r hb hc => ?_⟩
 ·obtain ⟨r, e, z⟩ := s
  cases z
  ·exact h1 r e h
  ·rfl
 ·show ((g (enc a ++ q) 0).1, (g (enc a ++ q) 0).2.1, (g (enc a ++ q) 0).2.2, false) = _
  rw [h2 a q ha]
 ·obtain ⟨a, q, k1, k2, k3⟩ := h3 r hb (cod0 hc).2
  exact ⟨a, q, k1, by show ((g r 0).1, (g r 0).2.1, (g r 0).2.2, false) = _; rw [k2], k3⟩
theorem Codec.bind {α β : Type} {f : Rst → α × Rst} {g : Rst → β × Rst} {e1 : α → List Int} {e2 : β → List Int} {o1 : α → Prop} {o2 : β → Prop} (p : Codec f e1 o1) (q : Codec g e2 o2) : Codec (fun s => (((f s).1, (g (f s).2).1), (g (f s).2).2)) (fun c => e1 c.1 ++ e2 c.2) (fun c => o1 c.1 ∧ o2 c.2) := by
 refine ⟨fun s hs => ?_, fun c t hc => ?_, fun r hb hc => ?_⟩
 ·show cod (g (f s).2).2 = cod s
  rw [q.bad _ (by rw [p.bad s hs]; exact hs), p.bad s hs]
 ·obtain ⟨a, b⟩ := c
  show (((f (e1 a ++ e2 b ++ t, 0, false)).1, (g (f (e1 a ++ e2 b ++ t, 0, false)).2).1), (g (f (e1 a ++ e2 b ++ t, 0, false)).2).2) = _
  rw [List.append_assoc, p.back a _ hc.1]
  show ((a, (g (e2 b ++ t, 0, false)).1), (g (e2 b ++ t, 0, false)).2) = _
  rw [q.back b t hc.2]
 ·have hc1 : cod (f (r, 0, false)).2 = 0 := by
   by_cases c : cod (f (r, 0, false)).2 = 0
   ·exact c
   ·exact absurd ((q.bad _ c).symm.trans hc) c
  obtain ⟨a, r1, k1, k2, k3⟩ := p.form r hb hc1
  have hc2 : cod (g (f (r, 0, false)).2).2 = 0 := hc
  rw [k2] at hc2
  obtain ⟨b, r2, m1, m2, m3⟩ := q.form r1 (by rw [k3] at hb; exact hb.right) hc2
  refine ⟨(a, b), r2, ⟨k1, m1⟩, ?_, by rw [k3, m3, List.append_assoc]⟩
  show (((f (r, 0, false)).1, (g (f (r, 0, false)).2).1), (g (f (r, 0, false)).2).2) = _
  rw [k2]
  show ((a, (g (r1, 0, false)).1), (g (r1, 0, false)).2) = _
  rw [m2]
theorem Codec.map {α β : Type} {f : Rst → α × Rst} {enc : α → List Int} {ok : α → Prop} (h : α → β) (g : β → α) (hg : ∀ a, g (h a) = a) (p : Codec f enc ok) : Codec (fun s => (h (f s).1, (f s).2)) (fun b => enc (g b)) (fun b => ok (g b) ∧ h (g b) = b) := by
 refine ⟨p.bad, fun b q hb => ?_, fun r hb hc => ?_⟩
 ·show (h (f (enc (g b) ++ q, 0, false)).1, (f (enc (g b) ++ q, 0, false)).2) = _
  rw [p.back _ q hb.1]
  show (h (g b), _) = _
  rw [hb.2]
 ·obtain ⟨a, q, k1, k2, k3⟩ := p.form r hb hc
  refine ⟨h a, q, ⟨by rw [hg]; exact k1, by rw [hg]⟩, ?_, by rw [hg]; exact k3⟩
  show (h (f (r, 0, false)).1, (f (r, 0, false)).2) = _
  rw [k2]
theorem it_back {α : Type} {one : Rst → α × Rst} {enc : α → List Int} {ok : α → Prop} (p : Codec one enc ok) (q : List Int) (xs : List α) (h : ∀ x ∈ xs, ok x) : ∀ k, k ≤ xs.length → itG one (xs.flatMap enc ++ q, 0, false) k = (xs.take k, (xs.drop k).flatMap enc ++ q, 0, false) := by
  intro k
  induction k with
  | zero => intro _; simp [itG]
  | succ k ih =>
    intro hk
    have i := ih (by omega)
    have hd : xs.drop k = xs[k] :: xs.drop (k + 1) := List.drop_eq_getElem_cons (by omega)
    show ((itG one (xs.flatMap enc ++ q, 0, false) k).1 ++ [(one (itG one (xs.flatMap enc ++ q, 0, false) k).2).1], (one (itG one (xs.flatMap enc ++ q, 0, false) k).2).2) = _
    rw [i]
    show (xs.take k ++ [(one ((xs.drop k).flatMap enc ++ q, 0, false)).1], (one ((xs.drop k).flatMap enc ++ q, 0, false)).2) = _
    rw [hd, List.flatMap_cons, List.append_assoc, p.back _ _ (h _ (List.getElem_mem (by omega))), List.take_succ_eq_append_getElem (by omega)]
theorem it_form {α : Type} {one : Rst → α × Rst} {enc : α → List Int} {ok : α → Prop} (p : Codec one enc ok) (r : List Int) (hb : Bs r) : ∀ k, cod (itG one (r, 0, false) k).2 = 0 → ∃ xs q, xs.length = k ∧ (∀ x ∈ xs, ok x) ∧ itG one (r, 0, false) k = (xs, q, 0, false) ∧ r = xs.flatMap enc ++ q := by
  intro k
  induction k with
  | zero => intro _; exact ⟨[], r, rfl, (fun x hx => by cases hx), rfl, rfl⟩
  | succ k ih =>
    intro hc
    have hc : cod (one (itG one (r, 0, false) k).2).2 = 0 := hc
    have c0 : cod (itG one (r, 0, false) k).2 = 0 := by
      by_cases c : cod (itG one (r, 0, false) k).2 = 0
      · exact c
      · exact absurd ((p.bad _ c).symm.trans hc) c
    obtain ⟨xs, q, h1, h2, h3, h4⟩ := ih c0
    rw [h3] at hc
    obtain ⟨a, q', k1, k2, k3⟩ := p.form q (by rw [h4] at hb; exact hb.right) hc
    refine ⟨xs ++ [a], q', by simp [h1], fun x hx => ?_, ?_, by rw [h4, k3, List.flatMap_append]; simp⟩
    · rcases List.mem_append.1 hx with g | g
      · exact h2 x g
      · rw [List.mem_singleton.1 g]; exact k1
    · show ((itG one (r, 0, false) k).1 ++ [(one (itG one (r, 0, false) k).2).1], (one (itG one (r, 0, false) k).2).2) = _
      rw [h3]
      show (xs ++ [(one (q, 0, false)).1], (one (q, 0, false)).2) = _
      rw [k2]
theorem num_form {most : Int} {r : List Int} (hb : Bs r) (h : (numS r 0 most).2.2 = 0) : ∃ n q, (0 ≤ n ∧ n ≤ most ∧ n ≤ 9223372036854775807) ∧ numS r 0 most = (n, q, 0) ∧ r = putL n ++ q := by
 unfold numS at h ⊢
 rw [if_pos rfl] at h ⊢
 by_cases h1 : (numR r).2.2 = 0
 ·rw [if_pos h1] at h ⊢
  obtain ⟨k1, k2, k3, k4⟩ := numR_form r hb h1
  by_cases h2 : most < (numR r).1
  ·rw [if_pos h2] at h; exact absurd h (show (3 : Int) ≠ 0 by decide)
  ·rw [if_neg h2]
   refine ⟨(numR r).1, _, ⟨k3, by omega, k4⟩, rfl, ?_⟩
   rw [k1, List.take_append_drop]
 ·rw [if_neg h1] at h
  exact absurd h h1
theorem nu_codec (most : Int) (hm : most ≤ 9223372036854775807) : Codec (nuS most) putL (fun n => 0 ≤ n ∧ n ≤ most) :=
 Codec.simple (g := fun r e => numS r e most) (numS_bad most) (fun a q h => numS_back a most h.1 (by omega) h.2 q) (fun r hb h => by
  obtain ⟨n, q, k1, k2, k3⟩ := num_form hb h
  exact ⟨n, q, ⟨k1.1, k1.2.1⟩, k2, k3⟩)
theorem ki_codec (most : Int) (hm : most ≤ 9223372036854775807) : Codec (kiS most) putL (fun n => 1 ≤ n ∧ n ≤ most) := by
 refine ⟨fun s h => ?_, fun a q ha => ?_, fun r hb hc => ?_⟩
 ·obtain ⟨r, e, z⟩ := s
  cases z
  ·have h : e ≠ 0 := h
   have h1 := numS_bad most r e h
   have k : kdZ r e most false = false := by
    unfold kdZ
    rw [h1]
    have : (e == 0) = false := by simpa using h
    rw [this]
    simp
   show (if kdZ r e most false = true then 130 else (numS r e most).2.2) = e
   rw [k, if_neg (by decide)]
   exact h1
  ·have k : kdZ r e most true = true := by
    unfold kdZ
    simp
   show (if kdZ r e most true = true then 130 else (numS r e most).2.2) = 130
   rw [k, if_pos rfl]
 ·show ((numS (putL a ++ q) 0 most).1, (numS (putL a ++ q) 0 most).2.1, (numS (putL a ++ q) 0 most).2.2, kdZ (putL a ++ q) 0 most false) = _
  unfold kdZ
  rw [numS_back a most (by omega) (by omega) ha.2 q]
  have : (a == 0) = false := by simp; omega
  simp [this]
 ·have hc : cod ((numS r 0 most).2.1, (numS r 0 most).2.2, kdZ r 0 most false) = 0 := hc
  obtain ⟨z0, e0⟩ := cod0 hc
  obtain ⟨n, q, k1, k2, k3⟩ := num_form hb e0
  have hz : kdZ r 0 most false = false := z0
  unfold kdZ at z0
  rw [k2] at z0
  have hn : n ≠ 0 := fun q => by rw [q] at z0; simp at z0
  refine ⟨n, q, ⟨by omega, k1.2.1⟩, ?_, k3⟩
  show ((numS r 0 most).1, (numS r 0 most).2.1, (numS r 0 most).2.2, kdZ r 0 most false) = _
  rw [hz, k2]
theorem raw_back (n : Nat) (d q : List Int) (h : d.length = n) : rawS (d ++ q) 0 n = (d, q, 0) := by
 unfold rawS
 rw [if_pos rfl, if_neg (by omega), if_neg (by rw [List.length_append]; omega)]
 have e : (n : Int).toNat = d.length := by omega
 rw [e, List.take_left, List.drop_left]
theorem raw_form {n : Nat} {r : List Int} (h : (rawS r 0 n).2.2 = 0) : ∃ d q, d.length = n ∧ rawS r 0 n = (d, q, 0) ∧ r = d ++ q := by
 unfold rawS at h ⊢
 rw [if_pos rfl, if_neg (by omega)] at h ⊢
 by_cases h1 : (r.length : Int) < n
 ·rw [if_pos h1] at h; exact absurd h (show (10 : Int) ≠ 0 by decide)
 ·rw [if_neg h1]
  exact ⟨_, _, by rw [List.length_take]; omega, rfl, (List.take_append_drop _ _).symm⟩
theorem pad_codec (n : Nat) (m : Int) (hm : m = (n : Int)) : Codec (fun s => (padN n (rawS s.1 s.2.1 m).1, (rawS s.1 s.2.1 m).2.1, (rawS s.1 s.2.1 m).2.2, s.2.2)) (fun d => d) (fun d => d.length = n ∧ Bs d) := by
 subst hm
 exact Codec.simple (g := fun r e => (padN n (rawS r e n).1, (rawS r e n).2)) (fun r e h => rawS_bad n r e h) (fun a q h => by
  show (padN n (rawS (a ++ q) 0 n).1, (rawS (a ++ q) 0 n).2) = _
  rw [raw_back n a q h.1]
  show (padN n a, _) = _
  unfold padN
  rw [if_pos h.1]) (fun r hb h => by
  obtain ⟨d, q, k1, k2, k3⟩ := raw_form (n := n) h
  refine ⟨d, q, ⟨k1, by rw [k3] at hb; exact hb.left⟩, ?_, k3⟩
  show (padN n (rawS r 0 n).1, (rawS r 0 n).2) = _
  rw [k2]
  show (padN n d, _) = _
  unfold padN
  rw [if_pos k1])
theorem strL_strOf {zs : List Int} (h : ∀ z ∈ zs, 0 ≤ z ∧ z < 256) : strL (strOf zs) = zs := strOf_inj (strL_byte _) h (by rw [strOf_strL])
theorem tx_codec (most : Int) (hm : most ≤ 1099511627) : Codec (txS most) textL (fun s => (s.size : Int) ≤ most) :=
 Codec.simple (g := fun r e => (strOf (textS r e most).1, (textS r e most).2)) (fun r e h => textS_bad most r e h) (fun s q h => by
  show (strOf (textS (textL s ++ q) 0 most).1, (textS (textL s ++ q) 0 most).2) = _
  rw [textS_back s most (by omega) h q]
  show (strOf (strL s), _) = _
  rw [strOf_strL]) (fun r hb h => by
  have h : (textS r 0 most).2.2 = 0 := h
  have hn : (numS r 0 9223372036854775807).2.2 = 0 := by
   by_cases c : (numS r 0 9223372036854775807).2.2 = 0
   ·exact c
   ·unfold textS at h; rw [if_neg c] at h; exact absurd h c
  obtain ⟨n, q, k1, k2, k3⟩ := num_form hb hn
  show ∃ a q, _ ∧ (strOf (textS r 0 most).1, (textS r 0 most).2) = _ ∧ _
  unfold textS at h ⊢
  rw [if_pos hn, k2] at h ⊢
  by_cases c1 : most < n
  ·rw [if_pos c1] at h; exact absurd h (show (3 : Int) ≠ 0 by decide)
  ·rw [if_neg c1] at h ⊢
   by_cases c2 : (q.length : Int) < n
   ·rw [if_pos c2] at h; exact absurd h (show (10 : Int) ≠ 0 by decide)
   ·rw [if_neg c2]
    have hl : (q.take n.toNat).length = n.toNat := by rw [List.length_take]; omega
    have hbt : Bs (q.take n.toNat) := (show Bs q from by rw [k3] at hb; exact hb.right).subT _
    have hsz : (strOf (q.take n.toNat)).size = n.toNat := by rw [strOf_size, hl]
    refine ⟨strOf (q.take n.toNat), q.drop n.toNat, by omega, rfl, ?_⟩
    unfold textL
    rw [strL_strOf hbt, hsz, List.append_assoc, List.take_append_drop, show ((n.toNat : Nat) : Int) = n by omega]
    exact k3)
def sgOk (g : Sg) : Prop := (0 ≤ g.n ∧ g.n ≤ 64) ∧ (g.t.length = 16 ∧ Bs g.t)
def evOk (g : Ev) : Prop := (0 ≤ g.n ∧ g.n ≤ 64) ∧ ((g.s.size : Int) ≤ 4194304 ∧ (g.t.length = 16 ∧ Bs g.t))
def vtOk (x : Vt) : Prop := (1 ≤ x.k ∧ x.k ≤ 2) ∧ ((0 ≤ x.e ∧ x.e ≤ 1048576) ∧ ((0 ≤ x.v ∧ x.v ≤ 1099511627776) ∧ ((0 ≤ x.s ∧ x.s ≤ 1099511627776) ∧ (x.d.length = 32 ∧ Bs x.d))))
theorem Codec.as {α : Type} {f f' : Rst → α × Rst} {enc enc' : α → List Int} {ok ok' : α → Prop} (p : Codec f enc ok) (hf : f' = f) (he : ∀ a, enc' a = enc a) (ho : ∀ a, ok' a ↔ ok a) : Codec f' enc' ok' := by
 subst hf
 obtain rfl : enc' = enc := funext he
 obtain rfl : ok' = ok := funext fun a => propext (ho a)
 exact p
theorem si_codec : Codec siS sgL sgOk :=
 (Codec.map (fun (c : Int × List Int) => (⟨c.1, c.2⟩ : Sg)) (fun g => (g.n, g.t)) (fun _ => rfl) (Codec.bind (nu_codec 64 (by decide)) (pad_codec 16 16 rfl))).as rfl (fun _ => rfl) (fun a => ⟨fun h => ⟨h, rfl⟩, fun h => h.1⟩)
theorem en_codec : Codec enS evL evOk :=
 (Codec.map (fun (c : Int × (ByteArray × List Int)) => (⟨c.1, c.2.1, c.2.2⟩ : Ev)) (fun g => (g.n, (g.s, g.t))) (fun _ => rfl) (Codec.bind (nu_codec 64 (by decide)) (Codec.bind (tx_codec 4194304 (by decide)) (pad_codec 16 16 rfl)))).as rfl (fun _ => rfl) (fun a => ⟨fun h => ⟨h, rfl⟩, fun h => h.1⟩)
theorem vo_codec : Codec voS vtL vtOk :=
 (Codec.map (fun (c : Int × (Int × (Int × (Int × List Int)))) => (⟨c.1, c.2.1, c.2.2.1, c.2.2.2.1, c.2.2.2.2⟩ : Vt)) (fun x => (x.k, (x.e, (x.v, (x.s, x.d))))) (fun _ => rfl) (Codec.bind (ki_codec 2 (by decide)) (Codec.bind (nu_codec 1048576 (by decide)) (Codec.bind (nu_codec 1099511627776 (by decide)) (Codec.bind (nu_codec 1099511627776 (by decide)) (pad_codec 32 32 rfl)))))).as rfl (fun x => by simp [vtL, List.append_assoc]) (fun a => ⟨fun h => ⟨h, rfl⟩, fun h => h.1⟩)
theorem ls_codec {α : Type} {one : Rst → α × Rst} {enc : α → List Int} {ok : α → Prop} (most : Int) (hm : most ≤ 1000) (p : Codec one enc ok) : Codec (lsS most one) (fun xs => putL xs.length ++ xs.flatMap enc) (fun xs => (xs.length : Int) ≤ most ∧ ∀ x ∈ xs, ok x) := by
 have pn := nu_codec most (by omega)
 refine ⟨fun s h => ?_, fun xs q h => ?_, fun r hb hc => ?_⟩
 ·have c := pn.bad s h
  show cod (itG one (nuS most s).2 _).2 = _
  rw [itG_bad p.bad (by rw [c]; exact h), c]
 ·show itG one (nuS most (putL xs.length ++ xs.flatMap enc ++ q, 0, false)).2 (nuS most (putL xs.length ++ xs.flatMap enc ++ q, 0, false)).1.toNat = _
  rw [List.append_assoc, pn.back _ _ ⟨by omega, h.1⟩]
  show itG one (xs.flatMap enc ++ q, 0, false) (xs.length : Int).toNat = _
  rw [Int.toNat_natCast, it_back p q xs h.2 xs.length (Nat.le_refl _)]
  simp
 ·have hc : cod (itG one (nuS most (r, 0, false)).2 (nuS most (r, 0, false)).1.toNat).2 = 0 := hc
  have c0 : cod (nuS most (r, 0, false)).2 = 0 := by
   by_cases c : cod (nuS most (r, 0, false)).2 = 0
   ·exact c
   ·exact absurd ((itG_bad p.bad c _).symm.trans hc) c
  obtain ⟨n, q, k1, k2, k3⟩ := pn.form r hb c0
  rw [k2] at hc
  obtain ⟨xs, q', h1, h2, h3, h4⟩ := it_form p q (by rw [k3] at hb; exact hb.right) _ hc
  have hn : ((xs.length : Nat) : Int) = n := by rw [h1]; have := k1.1; omega
  refine ⟨xs, q', ⟨by rw [hn]; exact k1.2, h2⟩, ?_, by rw [hn, k3, h4, List.append_assoc]⟩
  show itG one (nuS most (r, 0, false)).2 (nuS most (r, 0, false)).1.toNat = _
  rw [k2]
  exact h3
theorem Codec.same {α : Type} {f f' : Rst → α × Rst} {enc : α → List Int} {ok : α → Prop} (p : Codec f enc ok) (h2 : ∀ s, (f' s).2 = (f s).2) (h1 : ∀ r, cod (f (r, 0, false)).2 = 0 → (f' (r, 0, false)).1 = (f (r, 0, false)).1) : Codec f' enc ok := by
 refine ⟨fun s h => by rw [h2]; exact p.bad s h, fun a q h => ?_, fun r hb hc => ?_⟩
 ·have e := p.back a q h
  have c0 : cod (f (enc a ++ q, 0, false)).2 = 0 := by rw [e]; rfl
  rw [← e]
  exact Prod.ext (h1 _ c0) (h2 _)
 ·rw [h2] at hc
  obtain ⟨a, q, k1, k2, k3⟩ := p.form r hb hc
  exact ⟨a, q, k1, by rw [← k2]; exact Prod.ext (h1 _ hc) (h2 _), k3⟩
def rqS (s : Rst) : Rq × Rst := ((rqOf (rgetR s.1 s.2.1)).un, (rgetR s.1 s.2.1).rest, (rgetR s.1 s.2.1).err, s.2.2)
def rqOk (r : Rq) : Prop := (0 ≤ r.c ∧ r.c ≤ 8) ∧ ((0 ≤ r.n ∧ r.n ≤ 1099511627776) ∧ ((r.s.size : Int) ≤ 64 ∧ (r.t.length = 16 ∧ Bs r.t)))
def rqL (r : Rq) : List Int := (BRq.of r).bytes
theorem rq_codec : Codec rqS rqL rqOk := by
 refine Codec.same (f := fun s => _) ((Codec.map (fun (c : Int × (Int × (ByteArray × List Int))) => (⟨c.1, c.2.1, c.2.2.1, c.2.2.2⟩ : Rq)) (fun r => (r.c, (r.n, (r.s, r.t)))) (fun _ => rfl) (Codec.bind (nu_codec 8 (by decide)) (Codec.bind (nu_codec 1099511627776 (by decide)) (Codec.bind (tx_codec 64 (by decide)) (pad_codec 16 16 rfl))))).as rfl (fun r => by simp [rqL, BRq.bytes, BRq.of, List.append_assoc]) (fun a => ⟨fun h => ⟨h, rfl⟩, fun h => h.1⟩)) (fun _ => rfl) (fun r hc => ?_)
 have he : (rgetR r 0).err = 0 := (cod0 (z := false) hc).2
 have e0 : rqOf (rgetR r 0) = ⟨(rgetR r 0).c, (rgetR r 0).n, strOf (rgetR r 0).s, (rgetR r 0).t⟩ := by
  unfold rqOf
  rw [if_pos he]
 show (rqOf (rgetR r 0)).un = _
 rw [e0]
 have hl := (rawS_16 _ _).2 (show (rawS (textS (numS (numS r 0 8).2.1 (numS r 0 8).2.2 1099511627776).2.1 (numS (numS r 0 8).2.1 (numS r 0 8).2.2 1099511627776).2.2 64).2.1 (textS (numS (numS r 0 8).2.1 (numS r 0 8).2.2 1099511627776).2.1 (numS (numS r 0 8).2.1 (numS r 0 8).2.2 1099511627776).2.2 64).2.2 16).2.2 = 0 from he)
 have ep : padN 16 (rawS (textS (numS (numS r 0 8).2.1 (numS r 0 8).2.2 1099511627776).2.1 (numS (numS r 0 8).2.1 (numS r 0 8).2.2 1099511627776).2.2 64).2.1 (textS (numS (numS r 0 8).2.1 (numS r 0 8).2.2 1099511627776).2.1 (numS (numS r 0 8).2.1 (numS r 0 8).2.2 1099511627776).2.2 64).2.2 16).1 = (rawS (textS (numS (numS r 0 8).2.1 (numS r 0 8).2.2 1099511627776).2.1 (numS (numS r 0 8).2.1 (numS r 0 8).2.2 1099511627776).2.2 64).2.1 (textS (numS (numS r 0 8).2.1 (numS r 0 8).2.2 1099511627776).2.1 (numS (numS r 0 8).2.1 (numS r 0 8).2.2 1099511627776).2.2 64).2.2 16).1 := by
  unfold padN
  rw [if_pos hl]
 show (⟨_, _, _, (rawS (textS (numS (numS r 0 8).2.1 (numS r 0 8).2.2 1099511627776).2.1 (numS (numS r 0 8).2.1 (numS r 0 8).2.2 1099511627776).2.2 64).2.1 (textS (numS (numS r 0 8).2.1 (numS r 0 8).2.2 1099511627776).2.1 (numS (numS r 0 8).2.1 (numS r 0 8).2.2 1099511627776).2.2 64).2.2 16).1⟩ : Rq) = ⟨_, _, _, padN 16 (rawS (textS (numS (numS r 0 8).2.1 (numS r 0 8).2.2 1099511627776).2.1 (numS (numS r 0 8).2.1 (numS r 0 8).2.2 1099511627776).2.2 64).2.1 (textS (numS (numS r 0 8).2.1 (numS r 0 8).2.2 1099511627776).2.1 (numS (numS r 0 8).2.1 (numS r 0 8).2.2 1099511627776).2.2 64).2.2 16).1⟩
 rw [ep]
 rfl
theorem it_getRs (k : Nat) (r : List Int) (e : Int) (z : Bool) : itG rqS (r, e, z) k = ((getRs k r e).1.map BRq.un, (getRs k r e).2.1, (getRs k r e).2.2, z) := by
  induction k with
  | zero => rfl
  | succ k ih =>
    show ((itG rqS (r, e, z) k).1 ++ [(rqS (itG rqS (r, e, z) k).2).1], (rqS (itG rqS (r, e, z) k).2).2) = _
    rw [ih]
    show ((getRs k r e).1.map BRq.un ++ [(rqOf (rgetR (getRs k r e).2.1 (getRs k r e).2.2)).un], _) = (((getRs k r e).1 ++ [rqOf (rgetR (getRs k r e).2.1 (getRs k r e).2.2)]).map BRq.un, _)
    rw [List.map_append]
    rfl
def baL (c : Bool × List Rq) : List Int := batL c.1 (c.2.map BRq.of)
def baOk (c : Bool × List Rq) : Prop := (c.1 = true → c.2 = []) ∧ (c.2.length ≤ 4 ∧ ∀ r ∈ c.2, rqOk r)
theorem ba_codec : Codec baS baL baOk := by
 refine ⟨fun s h => ?_, fun c t hc => ?_, fun r hb hc => ?_⟩
 ·obtain ⟨r, e, z⟩ := s
  cases z
  ·have h : e ≠ 0 := h
   show (getB r e).err = e
   have h1 := numS_bad 5 r e h
   have h2 : (numS r e 5).1 = 0 := numS_zero (by rw [h1]; exact h)
   unfold getB
   rw [if_pos h2]
   exact h1
  ·rfl
 ·obtain ⟨q, rs⟩ := c
  obtain ⟨h1, h2, h3⟩ := hc
  show (((getB (batL q (rs.map BRq.of) ++ t) 0).q, (getB (batL q (rs.map BRq.of) ++ t) 0).rs.map BRq.un), (getB (batL q (rs.map BRq.of) ++ t) 0).rest, (getB (batL q (rs.map BRq.of) ++ t) 0).err, false) = _
  cases q
  ·have e : batL false (rs.map BRq.of) = putL ((rs.length : Int) + 1) ++ rs.flatMap rqL := by
    unfold batL
    rw [if_neg (by decide), List.length_map, List.flatMap_map]
    rfl
   have h2 : rs.length ≤ 4 := h2
   rw [e, List.append_assoc]
   have hn := numS_back ((rs.length : Int) + 1) 5 (by omega) (by omega) (by omega) (rs.flatMap rqL ++ t)
   have hi := it_back rq_codec t rs h3 rs.length (Nat.le_refl _)
   rw [it_getRs] at hi
   simp only [List.take_length, List.drop_length, List.flatMap_nil, List.nil_append, Prod.mk.injEq, and_true] at hi
   obtain ⟨i1, i2, i3⟩ := hi
   unfold getB
   rw [hn]
   simp only
   rw [if_neg (by omega), show ((rs.length : Int) + 1 - 1).toNat = rs.length by omega, if_pos i3]
   simp only
   rw [i1, i2, i3]
  ·obtain rfl : rs = [] := h1 rfl
   have hn := numS_back 0 5 (by omega) (by omega) (by omega) t
   have e : batL true (([] : List Rq).map BRq.of) = putL 0 := rfl
   rw [e]
   unfold getB
   rw [hn]
   rfl
 ·have he : (getB r 0).err = 0 := (cod0 (z := false) hc).2
  show ∃ a q, _ ∧ (((getB r 0).q, (getB r 0).rs.map BRq.un), (getB r 0).rest, (getB r 0).err, false) = _ ∧ _
  have hn : (numS r 0 5).2.2 = 0 := by
   by_cases c : (numS r 0 5).2.2 = 0
   ·exact c
   ·have h2 : (numS r 0 5).1 = 0 := numS_zero c
    unfold getB at he
    rw [if_pos h2] at he
    exact absurd he c
  obtain ⟨n, q, k1, k2, k3⟩ := num_form hb hn
  unfold getB at he ⊢
  rw [k2] at he ⊢
  simp only at he ⊢
  by_cases h0 : n = 0
  ·subst h0
   rw [if_pos rfl]
   exact ⟨(true, []), q, ⟨(fun _ => rfl), (by simp), (fun r hr => by cases hr)⟩, rfl, k3⟩
  ·rw [if_neg h0] at he ⊢
   have he : (getRs (n - 1).toNat q 0).2.2 = 0 := he
   have hc2 : cod (itG rqS (q, 0, false) (n - 1).toNat).2 = 0 := by rw [it_getRs]; exact he
   obtain ⟨xs, q', j1, j2, j3, j4⟩ := it_form rq_codec q (by rw [k3] at hb; exact hb.right) _ hc2
   rw [it_getRs] at j3
   simp only [Prod.mk.injEq, and_true] at j3
   obtain ⟨i1, i2, i3⟩ := j3
   refine ⟨(false, xs), q', ⟨(fun e => by cases e), (by show xs.length ≤ 4; omega), j2⟩, ?_, ?_⟩
   ·rw [if_pos he]
    simp only
    rw [i1, i2, i3]
   ·show r = batL false (xs.map BRq.of) ++ q'
    unfold batL
    rw [if_neg (by decide), List.length_map, List.flatMap_map, k3, j4, List.append_assoc, show ((xs.length : Nat) : Int) + 1 = n by omega]
    rfl
def ceOk (c : Vt × List Sg) : Prop := vtOk c.1 ∧ ((c.2.length : Int) ≤ 64 ∧ ∀ x ∈ c.2, sgOk x)
theorem ce_codec : Codec ceS (fun c => ctL c.1 c.2) ceOk := (Codec.bind vo_codec (ls_codec 64 (by decide) si_codec)).as rfl (fun _ => rfl) (fun _ => Iff.rfl)
def hpL (h : Hp) : List Int := baL (h.q, h.rs) ++ ctL h.vt h.sg
def hpOk (h : Hp) : Prop := baOk (h.q, h.rs) ∧ ceOk (h.vt, h.sg)
theorem he_codec : Codec heS hpL hpOk := (Codec.map (fun (c : (Bool × List Rq) × (Vt × List Sg)) => (⟨c.1.1, c.1.2, c.2.1, c.2.2⟩ : Hp)) (fun h => ((h.q, h.rs), (h.vt, h.sg))) (fun _ => rfl) (Codec.bind ba_codec ce_codec)).as rfl (fun _ => rfl) (fun a => ⟨fun h => ⟨h, rfl⟩, fun h => h.1⟩)
def cpL (c : Cp) : List Int := putL c.e ++ (putL c.l ++ (putL c.v ++ (putL c.he.length ++ c.he.flatMap hpL)))
def cpOk (c : Cp) : Prop := (0 ≤ c.e ∧ c.e ≤ 1048576) ∧ ((0 ≤ c.l ∧ c.l ≤ 64) ∧ ((0 ≤ c.v ∧ c.v ≤ 1099511627776) ∧ ((c.he.length : Int) ≤ 4 ∧ ∀ x ∈ c.he, hpOk x)))
theorem ch_codec : Codec chS cpL cpOk := (Codec.map (fun (c : Int × (Int × (Int × List Hp))) => (⟨c.1, c.2.1, c.2.2.1, c.2.2.2⟩ : Cp)) (fun c => (c.e, (c.l, (c.v, c.he)))) (fun _ => rfl) (Codec.bind (nu_codec 1048576 (by decide)) (Codec.bind (nu_codec 64 (by decide)) (Codec.bind (nu_codec 1099511627776 (by decide)) (ls_codec 4 (by decide) he_codec))))).as rfl (fun _ => rfl) (fun a => ⟨fun h => ⟨h, rfl⟩, fun h => h.1⟩)
def onlyP1 (c : Int × (Int × (Bool × List Rq))) : Mp := ⟨1, c.1, 0, 0, c.2.1, c.2.2.1, c.2.2.2, Vt.zero, 0, 0, 0, [], [], zeros32, Vt.zero, [], ⟨#[]⟩, []⟩
def body1 (m : Mp) : List Int := putL m.e ++ (putL m.s ++ baL (m.q, m.rs))
def kok1 (m : Mp) : Prop := ((0 ≤ m.e ∧ m.e ≤ 1048576) ∧ ((0 ≤ m.s ∧ m.s ≤ 1099511627776) ∧ baOk (m.q, m.rs))) ∧ onlyP1 (m.e, (m.s, (m.q, m.rs))) = m
theorem mg1_codec : Codec mg1 body1 kok1 := (Codec.map onlyP1 (fun m => (m.e, (m.s, (m.q, m.rs)))) (fun _ => rfl) (Codec.bind (nu_codec 1048576 (by decide)) (Codec.bind (nu_codec 1099511627776 (by decide)) ba_codec))).as rfl (fun _ => rfl) (fun _ => Iff.rfl)
def onlyP2 (c : Vt) : Mp := ⟨2, 0, 0, 0, 0, false, [], c, 0, 0, 0, [], [], zeros32, Vt.zero, [], ⟨#[]⟩, []⟩
def body2 (m : Mp) : List Int := vtL m.vt
def kok2 (m : Mp) : Prop := (vtOk m.vt) ∧ onlyP2 m.vt = m
theorem mg2_codec : Codec mg2 body2 kok2 := (Codec.map onlyP2 (fun m => m.vt) (fun _ => rfl) vo_codec).as rfl (fun _ => rfl) (fun _ => Iff.rfl)
def onlyP3 (c : Cp) : Mp := ⟨3, 0, 0, 0, 0, false, [], Vt.zero, c.e, c.l, c.v, c.he, [], zeros32, Vt.zero, [], ⟨#[]⟩, []⟩
def body3 (m : Mp) : List Int := cpL ⟨m.ce, m.cl, m.cv, m.he⟩
def kok3 (m : Mp) : Prop := (cpOk ⟨m.ce, m.cl, m.cv, m.he⟩) ∧ onlyP3 ⟨m.ce, m.cl, m.cv, m.he⟩ = m
theorem mg3_codec : Codec mg3 body3 kok3 := (Codec.map onlyP3 (fun m => ⟨m.ce, m.cl, m.cv, m.he⟩) (fun _ => rfl) ch_codec).as rfl (fun _ => rfl) (fun _ => Iff.rfl)
def onlyP4 (c : Int × (Int × (Int × List Ev))) : Mp := ⟨4, c.1, c.2.1, c.2.2.1, 0, false, [], Vt.zero, 0, 0, 0, [], c.2.2.2, zeros32, Vt.zero, [], ⟨#[]⟩, []⟩
def body4 (m : Mp) : List Int := putL m.e ++ (putL m.l ++ (putL m.v ++ evsL m.ne))
def kok4 (m : Mp) : Prop := ((0 ≤ m.e ∧ m.e ≤ 1048576) ∧ ((0 ≤ m.l ∧ m.l ≤ 64) ∧ ((0 ≤ m.v ∧ m.v ≤ 1099511627776) ∧ ((m.ne.length : Int) ≤ 64 ∧ ∀ x ∈ m.ne, evOk x)))) ∧ onlyP4 (m.e, (m.l, (m.v, m.ne))) = m
theorem mg4_codec : Codec mg4 body4 kok4 := (Codec.map onlyP4 (fun m => (m.e, (m.l, (m.v, m.ne)))) (fun _ => rfl) (Codec.bind (nu_codec 1048576 (by decide)) (Codec.bind (nu_codec 64 (by decide)) (Codec.bind (nu_codec 1099511627776 (by decide)) (ls_codec 64 (by decide) en_codec))))).as rfl (fun _ => rfl) (fun _ => Iff.rfl)
def onlyP5 (c : Int × List Int) : Mp := ⟨5, c.1, 0, 0, 0, false, [], Vt.zero, 0, 0, 0, [], [], c.2, Vt.zero, [], ⟨#[]⟩, []⟩
def body5 (m : Mp) : List Int := putL m.e ++ m.d
def kok5 (m : Mp) : Prop := ((0 ≤ m.e ∧ m.e ≤ 1048576) ∧ (m.d.length = 32 ∧ Bs m.d)) ∧ onlyP5 (m.e, m.d) = m
theorem mg5_codec : Codec mg5 body5 kok5 := (Codec.map onlyP5 (fun m => (m.e, m.d)) (fun _ => rfl) (Codec.bind (nu_codec 1048576 (by decide)) (pad_codec 32 32 rfl))).as rfl (fun _ => rfl) (fun _ => Iff.rfl)
def onlyP6 (c : Int × Int) : Mp := ⟨6, c.1, 0, 0, c.2, false, [], Vt.zero, 0, 0, 0, [], [], zeros32, Vt.zero, [], ⟨#[]⟩, []⟩
def body6 (m : Mp) : List Int := putL m.e ++ putL m.s
def kok6 (m : Mp) : Prop := ((0 ≤ m.e ∧ m.e ≤ 1048576) ∧ (0 ≤ m.s ∧ m.s ≤ 1099511627776)) ∧ onlyP6 (m.e, m.s) = m
theorem mg6_codec : Codec mg6 body6 kok6 := (Codec.map onlyP6 (fun m => (m.e, m.s)) (fun _ => rfl) (Codec.bind (nu_codec 1048576 (by decide)) (nu_codec 1099511627776 (by decide)))).as rfl (fun _ => rfl) (fun _ => Iff.rfl)
def onlyP7 (c : (Bool × List Rq) × (Vt × List Sg)) : Mp := ⟨7, 0, 0, 0, 0, c.1.1, c.1.2, Vt.zero, 0, 0, 0, [], [], zeros32, c.2.1, c.2.2, ⟨#[]⟩, []⟩
def body7 (m : Mp) : List Int := baL (m.q, m.rs) ++ ctL m.ct m.cs
def kok7 (m : Mp) : Prop := (baOk (m.q, m.rs) ∧ ceOk (m.ct, m.cs)) ∧ onlyP7 ((m.q, m.rs), (m.ct, m.cs)) = m
theorem mg7_codec : Codec mg7 body7 kok7 := (Codec.map onlyP7 (fun m => ((m.q, m.rs), (m.ct, m.cs))) (fun _ => rfl) (Codec.bind ba_codec ce_codec)).as rfl (fun _ => rfl) (fun _ => Iff.rfl)
def onlyP8 (c : ByteArray × List Sg) : Mp := ⟨8, 0, 0, 0, 0, false, [], Vt.zero, 0, 0, 0, [], [], zeros32, Vt.zero, [], c.1, c.2⟩
def body8 (m : Mp) : List Int := textL m.st ++ sgsL m.sg
def kok8 (m : Mp) : Prop := ((m.st.size : Int) ≤ 4194304 ∧ ((m.sg.length : Int) ≤ 64 ∧ ∀ x ∈ m.sg, sgOk x)) ∧ onlyP8 (m.st, m.sg) = m
theorem mg8_codec : Codec mg8 body8 kok8 := (Codec.map onlyP8 (fun m => (m.st, m.sg)) (fun _ => rfl) (Codec.bind (tx_codec 4194304 (by decide)) (ls_codec 64 (by decide) si_codec))).as rfl (fun _ => rfl) (fun _ => Iff.rfl)
def Mp.bytes (m : Mp) : List Int := putL m.k ++ (if m.k = 1 then body1 m else if m.k = 2 then body2 m else if m.k = 3 then body3 m else if m.k = 4 then body4 m else if m.k = 5 then body5 m else if m.k = 6 then body6 m else if m.k = 7 then body7 m else body8 m)
def Mp.good (m : Mp) : Prop := (m.k = 1 ∧ kok1 m) ∨ (m.k = 2 ∧ kok2 m) ∨ (m.k = 3 ∧ kok3 m) ∨ (m.k = 4 ∧ kok4 m) ∨ (m.k = 5 ∧ kok5 m) ∨ (m.k = 6 ∧ kok6 m) ∨ (m.k = 7 ∧ kok7 m) ∨ (m.k = 8 ∧ kok8 m)
theorem done0 (q : List Int) : faE (q, 0, false) = if q.length = 0 then 0 else 12 := rfl
theorem mgS_back {m : Mp} (h : m.good) (q : List Int) : mgS (m.bytes ++ q, 0, false) = (m, q, 0, false) := by
 have hk : 1 ≤ m.k ∧ m.k ≤ 8 := by
  rcases h with h | h | h | h | h | h | h | h <;> (have := h.1; omega)
 have kb := (ki_codec 8 (by decide)).back m.k
 unfold mgS Mp.bytes
 rw [List.append_assoc, kb _ hk]
 simp only
 rcases h with ⟨h, k⟩ | ⟨h, k⟩ | ⟨h, k⟩ | ⟨h, k⟩ | ⟨h, k⟩ | ⟨h, k⟩ | ⟨h, k⟩ | ⟨h, k⟩
 ·rw [h]
  exact mg1_codec.back m q k
 ·rw [h]
  exact mg2_codec.back m q k
 ·rw [h]
  exact mg3_codec.back m q k
 ·rw [h]
  exact mg4_codec.back m q k
 ·rw [h]
  exact mg5_codec.back m q k
 ·rw [h]
  exact mg6_codec.back m q k
 ·rw [h]
  exact mg7_codec.back m q k
 ·rw [h]
  exact mg8_codec.back m q k
theorem dec_more {m : Mp} (h : m.good) (q : List Int) : decS (m.bytes ++ q) = if q.length = 0 then (m, 0) else (Mp.none, 12) := by
 unfold decS
 rw [mgS_back h q, done0]
 by_cases c : q.length = 0
 ·rw [if_pos c, if_pos rfl, if_pos c]
 ·rw [if_neg c, if_neg (by decide), if_neg c]
theorem dec_back {m : Mp} (h : m.good) : decS m.bytes = (m, 0) := by
 have := dec_more h []
 rw [List.append_nil] at this
 exact this
theorem dec_form {zs : List Int} (hb : Bs zs) (h : (decS zs).2 = 0) : (decS zs).1.good ∧ zs = (decS zs).1.bytes := by
 have hf : faE (mgS (zs, 0, false)).2 = 0 := by
  by_cases c : faE (mgS (zs, 0, false)).2 = 0
  ·exact c
  ·unfold decS at h
   rw [if_neg c] at h
   exact h
 have hd : decS zs = ((mgS (zs, 0, false)).1, 0) := by
  unfold decS
  rw [if_pos hf]
 rw [hd]
 simp only
 have hc : cod (mgS (zs, 0, false)).2 = 0 := by
  generalize (mgS (zs, 0, false)).2 = s at hf
  obtain ⟨r, e, z⟩ := s
  cases z
  ·show e = 0
   have hf : doneE r e = 0 := hf
   unfold doneE at hf
   by_cases c : e = 0
   ·exact c
   ·rw [if_neg c] at hf; exact hf
  ·exact absurd hf (show (130 : Int) ≠ 0 by decide)
 have hr : (mgS (zs, 0, false)).2.1 = [] := by
  generalize (mgS (zs, 0, false)).2 = s at hf hc
  obtain ⟨r, e, z⟩ := s
  obtain ⟨rfl, rfl⟩ := cod0 hc
  rw [done0] at hf
  by_cases c : r.length = 0
  ·exact List.eq_nil_of_length_eq_zero c
  ·rw [if_neg c] at hf; exact absurd hf (by decide)
 have hbad : ∀ k s, cod s ≠ 0 → cod (mgF k s).2 = cod s := fun k s hs => by
  unfold mgF
  by_cases n1 : k = 1
  ·rw [if_pos n1]; exact mg1_codec.bad s hs
  rw [if_neg n1]
  by_cases n2 : k = 2
  ·rw [if_pos n2]; exact mg2_codec.bad s hs
  rw [if_neg n2]
  by_cases n3 : k = 3
  ·rw [if_pos n3]; exact mg3_codec.bad s hs
  rw [if_neg n3]
  by_cases n4 : k = 4
  ·rw [if_pos n4]; exact mg4_codec.bad s hs
  rw [if_neg n4]
  by_cases n5 : k = 5
  ·rw [if_pos n5]; exact mg5_codec.bad s hs
  rw [if_neg n5]
  by_cases n6 : k = 6
  ·rw [if_pos n6]; exact mg6_codec.bad s hs
  rw [if_neg n6]
  by_cases n7 : k = 7
  ·rw [if_pos n7]; exact mg7_codec.bad s hs
  rw [if_neg n7]
  by_cases n8 : k = 8
  ·rw [if_pos n8]; exact mg8_codec.bad s hs
  rw [if_neg n8]
 unfold mgS at hc hr ⊢
 have ck : cod (kiS 8 (zs, 0, false)).2 = 0 := by
  by_cases c : cod (kiS 8 (zs, 0, false)).2 = 0
  ·exact c
  ·exact absurd ((hbad _ _ c).symm.trans hc) c
 obtain ⟨k, q, k1, k2, k3⟩ := (ki_codec 8 (by decide)).form zs hb ck
 rw [k2] at hc hr ⊢
 simp only at hc hr ⊢
 have hbq : Bs q := by rw [k3] at hb; exact hb.right
 unfold mgF at hc hr ⊢
 by_cases n1 : k = 1
 ·rw [if_pos n1] at hc hr ⊢
  obtain ⟨m, q', j1, j2, j3⟩ := mg1_codec.form q hbq hc
  rw [j2] at hr ⊢
  simp only at hr ⊢
  have hmk : m.k = 1 := by rw [← j1.2]; rfl
  refine ⟨.inl ⟨hmk, j1⟩, ?_⟩
  have eb : m.bytes = putL 1 ++ body1 m := by unfold Mp.bytes; rw [hmk]; rfl
  rw [eb, k3, j3, hr, List.append_nil, n1]
 rw [if_neg n1] at hc hr ⊢
 by_cases n2 : k = 2
 ·rw [if_pos n2] at hc hr ⊢
  obtain ⟨m, q', j1, j2, j3⟩ := mg2_codec.form q hbq hc
  rw [j2] at hr ⊢
  simp only at hr ⊢
  have hmk : m.k = 2 := by rw [← j1.2]; rfl
  refine ⟨.inr (.inl ⟨hmk, j1⟩), ?_⟩
  have eb : m.bytes = putL 2 ++ body2 m := by unfold Mp.bytes; rw [hmk]; rfl
  rw [eb, k3, j3, hr, List.append_nil, n2]
 rw [if_neg n2] at hc hr ⊢
 by_cases n3 : k = 3
 ·rw [if_pos n3] at hc hr ⊢
  obtain ⟨m, q', j1, j2, j3⟩ := mg3_codec.form q hbq hc
  rw [j2] at hr ⊢
  simp only at hr ⊢
  have hmk : m.k = 3 := by rw [← j1.2]; rfl
  refine ⟨.inr (.inr (.inl ⟨hmk, j1⟩)), ?_⟩
  have eb : m.bytes = putL 3 ++ body3 m := by unfold Mp.bytes; rw [hmk]; rfl
  rw [eb, k3, j3, hr, List.append_nil, n3]
 rw [if_neg n3] at hc hr ⊢
 by_cases n4 : k = 4
 ·rw [if_pos n4] at hc hr ⊢
  obtain ⟨m, q', j1, j2, j3⟩ := mg4_codec.form q hbq hc
  rw [j2] at hr ⊢
  simp only at hr ⊢
  have hmk : m.k = 4 := by rw [← j1.2]; rfl
  refine ⟨.inr (.inr (.inr (.inl ⟨hmk, j1⟩))), ?_⟩
  have eb : m.bytes = putL 4 ++ body4 m := by unfold Mp.bytes; rw [hmk]; rfl
  rw [eb, k3, j3, hr, List.append_nil, n4]
 rw [if_neg n4] at hc hr ⊢
 by_cases n5 : k = 5
 ·rw [if_pos n5] at hc hr ⊢
  obtain ⟨m, q', j1, j2, j3⟩ := mg5_codec.form q hbq hc
  rw [j2] at hr ⊢
  simp only at hr ⊢
  have hmk : m.k = 5 := by rw [← j1.2]; rfl
  refine ⟨.inr (.inr (.inr (.inr (.inl ⟨hmk, j1⟩)))), ?_⟩
  have eb : m.bytes = putL 5 ++ body5 m := by unfold Mp.bytes; rw [hmk]; rfl
  rw [eb, k3, j3, hr, List.append_nil, n5]
 rw [if_neg n5] at hc hr ⊢
 by_cases n6 : k = 6
 ·rw [if_pos n6] at hc hr ⊢
  obtain ⟨m, q', j1, j2, j3⟩ := mg6_codec.form q hbq hc
  rw [j2] at hr ⊢
  simp only at hr ⊢
  have hmk : m.k = 6 := by rw [← j1.2]; rfl
  refine ⟨.inr (.inr (.inr (.inr (.inr (.inl ⟨hmk, j1⟩))))), ?_⟩
  have eb : m.bytes = putL 6 ++ body6 m := by unfold Mp.bytes; rw [hmk]; rfl
  rw [eb, k3, j3, hr, List.append_nil, n6]
 rw [if_neg n6] at hc hr ⊢
 by_cases n7 : k = 7
 ·rw [if_pos n7] at hc hr ⊢
  obtain ⟨m, q', j1, j2, j3⟩ := mg7_codec.form q hbq hc
  rw [j2] at hr ⊢
  simp only at hr ⊢
  have hmk : m.k = 7 := by rw [← j1.2]; rfl
  refine ⟨.inr (.inr (.inr (.inr (.inr (.inr (.inl ⟨hmk, j1⟩)))))), ?_⟩
  have eb : m.bytes = putL 7 ++ body7 m := by unfold Mp.bytes; rw [hmk]; rfl
  rw [eb, k3, j3, hr, List.append_nil, n7]
 rw [if_neg n7] at hc hr ⊢
 by_cases n8 : k = 8
 ·rw [if_pos n8] at hc hr ⊢
  obtain ⟨m, q', j1, j2, j3⟩ := mg8_codec.form q hbq hc
  rw [j2] at hr ⊢
  simp only at hr ⊢
  have hmk : m.k = 8 := by rw [← j1.2]; rfl
  refine ⟨.inr (.inr (.inr (.inr (.inr (.inr (.inr (⟨hmk, j1⟩))))))), ?_⟩
  have eb : m.bytes = putL 8 ++ body8 m := by unfold Mp.bytes; rw [hmk]; rfl
  rw [eb, k3, j3, hr, List.append_nil, n8]
 rw [if_neg n8] at hc hr ⊢
 omega
theorem sameL_eqv {α β : Type} {B : α → α → Bool} {f : α → β} (h : ∀ x y, f x = f y → B x y = true) : ∀ xs ys : List α, xs.map f = ys.map f → sameL B xs ys = true
  | [], [], _ => rfl
  | x :: xs, y :: ys, e => by
    simp only [List.map_cons, List.cons.injEq] at e
    unfold sameL
    rw [h x y e.1, sameL_eqv h xs ys e.2]
    rfl
  | [], y :: ys, e => by cases e
  | x :: xs, [], e => by cases e
theorem certB_eqv {x y : Vt} {s t : Sl Sg} (h : x = y) (h2 : s.xs = t.xs) : certB x s y t = true := by
 unfold certB
 rw [vtB_iff.2 h, (sameL_iff (fun x y => Sg.B_iff) _ _).2 h2]
 rfl
theorem batB_eqv {q r : Bool} {x y : Sl Rq} (h : q = r) (h2 : x.xs = y.xs) : batB q x r y = true := by
 unfold batB
 rw [h, (sameL_iff (fun x y => Rq.B_iff) _ _).2 h2]
 simp
theorem Hd.B_eqv (x y : Hd) (h : x.pure = y.pure) : Hd.B x y = true := by
 unfold Hd.pure at h
 simp only [Hp.mk.injEq] at h
 obtain ⟨h1, h2, h3, h4⟩ := h
 unfold Hd.B
 rw [batB_eqv h1 h2, certB_eqv h3 h4]
 rfl
theorem Mg.B_eqv (a b : Mg) (h : a.pure = b.pure) : Mg.B a b = true := by
 unfold Mg.pure at h
 simp only [Mp.mk.injEq] at h
 obtain ⟨h1, h2, h3, h4, h5, h6, h7, h8, h9, h10, h11, h12, h13, h14, h15, h16, h17, h18⟩ := h
 unfold Mg.B Mg.nB Mg.fB Mg.lB chgB
 rw [vtB_iff.2 h8, batB_eqv h6 h7, certB_eqv h15 h16, (sameL_iff (fun x y => Ev.B_iff) _ _).2 h13, (sameL_iff (fun x y => Sg.B_iff) _ _).2 h18, sameL_eqv Hd.B_eqv _ _ h12, h1, h2, h3, h4, h5, h9, h10, h11, h14, h17]
 simp
theorem may_sg {g : Sg} (h : sgOk g) : g.may = true := inB_iff.2 h.1
theorem may_ev {g : Ev} (h : evOk g) : g.may = true := by
 unfold Ev.may
 rw [inB_iff.2 h.1, decide_eq_true h.2.1]
 rfl
theorem may_rq {g : Rq} (h : rqOk g) : g.may = true := by
 unfold Rq.may
 rw [inB_iff.2 h.1, inB_iff.2 h.2.1, decide_eq_true h.2.2.1]
 rfl
theorem may_vt {x : Vt} (h : vtOk x) : x.may = true := by
 obtain ⟨h1, h2, h3, h4, _⟩ := h
 unfold Vt.may
 rw [inB_iff.2 h2, inB_iff.2 h3, inB_iff.2 h4]
 have : x.k = 1 ∨ x.k = 2 := by omega
 rcases this with q | q <;> simp [q]
theorem mayL_iff {α : Type} {most : Int} {p : α → Bool} {xs : List α} : mayL most p xs = true ↔ (xs.length : Int) ≤ most ∧ ∀ x ∈ xs, p x = true := by
 unfold mayL
 rw [Bool.and_eq_true, decide_eq_true_iff, List.all_eq_true]
theorem may_bat {q : Bool} {x : Sl Rq} (h : baOk (q, x.xs)) : batMay q x = true := by
 unfold batMay
 cases q
 ·have h2 : x.xs.length ≤ 4 := h.2.1
  exact mayL_iff.2 ⟨by omega, fun r hr => may_rq (h.2.2 r hr)⟩
 ·have e : x.xs = [] := h.1 rfl
  rw [if_pos rfl, e]
  rfl
theorem may_sgs {x : Sl Sg} (h : (x.xs.length : Int) ≤ 64 ∧ ∀ y ∈ x.xs, sgOk y) : sgsMay x = true := mayL_iff.2 ⟨h.1, fun y hy => may_sg (h.2 y hy)⟩
theorem may_cert {v : Vt} {x : Sl Sg} (h : ceOk (v, x.xs)) : certMay v x = true := by
 unfold certMay
 rw [may_vt h.1, may_sgs h.2]
 rfl
theorem may_hd {h : Hd} (k : hpOk h.pure) : h.may = true := by
 unfold Hd.may
 rw [may_bat (q := h.q) (x := h.rs) k.1, may_cert (v := h.vt) (x := h.sg) k.2]
 rfl
theorem may_chg {a b c : Int} {x : Sl Hd} (h : cpOk ⟨a, b, c, x.xs.map Hd.pure⟩) : chgMay a b c x = true := by
 obtain ⟨h1, h2, h3, h4, h5⟩ := h
 unfold chgMay
 rw [inB_iff.2 h1, inB_iff.2 h2, inB_iff.2 h3, mayL_iff.2 ⟨by have h4 : ((x.xs.map Hd.pure).length : Int) ≤ 4 := h4; rwa [List.length_map] at h4, fun g hg => may_hd (h5 _ (List.mem_map_of_mem hg))⟩]
 rfl
theorem hds_pure (xs : List Hd) : hdsL xs = putL ((xs.map Hd.pure).length) ++ (xs.map Hd.pure).flatMap hpL := by
 unfold hdsL
 rw [List.length_map, List.flatMap_map]
 rfl
theorem bytes_pure (m : Mg) (h : 1 ≤ m.k ∧ m.k ≤ 8) : m.bytes = m.pure.bytes := by
 have hk : m.k = 1 ∨ m.k = 2 ∨ m.k = 3 ∨ m.k = 4 ∨ m.k = 5 ∨ m.k = 6 ∨ m.k = 7 ∨ m.k = 8 := by omega
 show putL m.k ++ m.body = putL m.k ++ (if m.k = 1 then body1 m.pure else if m.k = 2 then body2 m.pure else if m.k = 3 then body3 m.pure else if m.k = 4 then body4 m.pure else if m.k = 5 then body5 m.pure else if m.k = 6 then body6 m.pure else if m.k = 7 then body7 m.pure else body8 m.pure)
 unfold Mg.body
 rcases hk with h | h | h | h | h | h | h | h <;> rw [h]
 ·have e : [m.e, m.s].flatMap putL ++ batL m.q (m.rs.xs.map BRq.of) = putL m.e ++ (putL m.s ++ baL (m.q, m.rs.xs)) := by simp [List.append_assoc, baL]
  exact congrArg (putL 1 ++ ·) e
 ·rfl
 ·have e : [m.ce, m.cl, m.cv].flatMap putL ++ hdsL m.he.xs = putL m.ce ++ (putL m.cl ++ (putL m.cv ++ (putL ((m.he.xs.map Hd.pure).length) ++ (m.he.xs.map Hd.pure).flatMap hpL))) := by rw [hds_pure]; simp [List.append_assoc]
  exact congrArg (putL 3 ++ ·) e
 ·have e : [m.e, m.l, m.v].flatMap putL ++ evsL m.ne.xs = putL m.e ++ (putL m.l ++ (putL m.v ++ evsL m.ne.xs)) := by simp [List.append_assoc]
  exact congrArg (putL 4 ++ ·) e
 ·rfl
 ·have e : [m.e, m.s].flatMap putL = putL m.e ++ putL m.s := by simp [List.append_assoc]
  exact congrArg (putL 6 ++ ·) e
 ·rfl
 ·rfl
theorem pure_good {x : Mg} (h : x.pure.good) : x.good = true := by
 rcases h with ⟨h, k, o⟩ | ⟨h, k, o⟩ | ⟨h, k, o⟩ | ⟨h, k, o⟩ | ⟨h, k, o⟩ | ⟨h, k, o⟩ | ⟨h, k, o⟩ | ⟨h, k, o⟩
 ·have hk : x.k = 1 := h
  have hp : x.pure = x.bare.pure := by rw [Mg.bare_1 hk]; exact o.symm
  have hB := Mg.B_eqv _ _ hp
  have o2 := o.symm
  unfold Mg.pure onlyP1 at o2
  simp only [Mp.mk.injEq, and_true, true_and] at o2
  unfold Mg.good
  rw [hB]
  have hd : decide (1 ≤ x.k ∧ x.k ≤ 8) = true := by rw [hk]; decide
  rw [hd]
  show x.may = true
  unfold Mg.may Mg.mayL
  rw [hk]
  obtain ⟨z_k, z_l, z_v, z_vt, z_ce, z_cl, z_cv, z_he, z_ne, z_d, z_ct, z_cs, z_st, z_sg⟩ := o2
  have w_e : inB x.e 1048576 = true := inB_iff.2 k.1
  have w_l : inB x.l 64 = true := by rw [z_l]; decide
  have w_v : inB x.v 1099511627776 = true := by rw [z_v]; decide
  have w_s : inB x.s 1099511627776 = true := inB_iff.2 k.2.1
  have w_b : batMay x.q x.rs = true := may_bat k.2.2
  have w_c : chgMay x.ce x.cl x.cv x.he = true := may_chg (by rw [z_ce, z_cl, z_cv, show x.he.xs.map Hd.pure = [] from z_he]; exact ⟨(by decide), (by decide), (by decide), (by simp), fun r hr => by cases hr⟩)
  have w_n : Go.Proofs.YtcbpbkefggekmaaGreatDoor.mayL 64 Ev.may x.ne.xs = true := by rw [z_ne]; rfl
  have w_t : decide ((x.st.size : Int) ≤ 4194304) = true := by rw [z_st]; rfl
  have w_g : sgsMay x.sg = true := may_sgs (by rw [z_sg]; exact ⟨(by simp), fun r hr => by cases hr⟩)
  have w_2 : (if (1 : Int) = 2 then x.vt.may else true) = true := rfl
  have w_7 : (if (1 : Int) = 7 then certMay x.ct x.cs else true) = true := rfl
  rw [w_e, w_l, w_v, w_s, w_b, w_c, w_n, w_t, w_g, w_2, w_7]
  rfl
 ·have hk : x.k = 2 := h
  have hp : x.pure = x.bare.pure := by rw [Mg.bare_2 hk]; exact o.symm
  have hB := Mg.B_eqv _ _ hp
  have o2 := o.symm
  unfold Mg.pure onlyP2 at o2
  simp only [Mp.mk.injEq, and_true, true_and] at o2
  unfold Mg.good
  rw [hB]
  have hd : decide (1 ≤ x.k ∧ x.k ≤ 8) = true := by rw [hk]; decide
  rw [hd]
  show x.may = true
  unfold Mg.may Mg.mayL
  rw [hk]
  obtain ⟨z_k, z_e, z_l, z_v, z_s, z_q, z_rs, z_ce, z_cl, z_cv, z_he, z_ne, z_d, z_ct, z_cs, z_st, z_sg⟩ := o2
  have w_e : inB x.e 1048576 = true := by rw [z_e]; decide
  have w_l : inB x.l 64 = true := by rw [z_l]; decide
  have w_v : inB x.v 1099511627776 = true := by rw [z_v]; decide
  have w_s : inB x.s 1099511627776 = true := by rw [z_s]; decide
  have w_b : batMay x.q x.rs = true := may_bat (by rw [z_q, z_rs]; exact ⟨(fun e => by cases e), (by simp), fun r hr => by cases hr⟩)
  have w_c : chgMay x.ce x.cl x.cv x.he = true := may_chg (by rw [z_ce, z_cl, z_cv, show x.he.xs.map Hd.pure = [] from z_he]; exact ⟨(by decide), (by decide), (by decide), (by simp), fun r hr => by cases hr⟩)
  have w_n : Go.Proofs.YtcbpbkefggekmaaGreatDoor.mayL 64 Ev.may x.ne.xs = true := by rw [z_ne]; rfl
  have w_t : decide ((x.st.size : Int) ≤ 4194304) = true := by rw [z_st]; rfl
  have w_g : sgsMay x.sg = true := may_sgs (by rw [z_sg]; exact ⟨(by simp), fun r hr => by cases hr⟩)
  have w_2 : (if (2 : Int) = 2 then x.vt.may else true) = true := may_vt k
  have w_7 : (if (2 : Int) = 7 then certMay x.ct x.cs else true) = true := rfl
  rw [w_e, w_l, w_v, w_s, w_b, w_c, w_n, w_t, w_g, w_2, w_7]
  rfl
 ·have hk : x.k = 3 := h
  have hp : x.pure = x.bare.pure := by rw [Mg.bare_3 hk]; exact o.symm
  have hB := Mg.B_eqv _ _ hp
  have o2 := o.symm
  unfold Mg.pure onlyP3 at o2
  simp only [Mp.mk.injEq, and_true, true_and] at o2
  unfold Mg.good
  rw [hB]
  have hd : decide (1 ≤ x.k ∧ x.k ≤ 8) = true := by rw [hk]; decide
  rw [hd]
  show x.may = true
  unfold Mg.may Mg.mayL
  rw [hk]
  obtain ⟨z_k, z_e, z_l, z_v, z_s, z_q, z_rs, z_vt, z_ne, z_d, z_ct, z_cs, z_st, z_sg⟩ := o2
  have w_e : inB x.e 1048576 = true := by rw [z_e]; decide
  have w_l : inB x.l 64 = true := by rw [z_l]; decide
  have w_v : inB x.v 1099511627776 = true := by rw [z_v]; decide
  have w_s : inB x.s 1099511627776 = true := by rw [z_s]; decide
  have w_b : batMay x.q x.rs = true := may_bat (by rw [z_q, z_rs]; exact ⟨(fun e => by cases e), (by simp), fun r hr => by cases hr⟩)
  have w_c : chgMay x.ce x.cl x.cv x.he = true := may_chg k
  have w_n : Go.Proofs.YtcbpbkefggekmaaGreatDoor.mayL 64 Ev.may x.ne.xs = true := by rw [z_ne]; rfl
  have w_t : decide ((x.st.size : Int) ≤ 4194304) = true := by rw [z_st]; rfl
  have w_g : sgsMay x.sg = true := may_sgs (by rw [z_sg]; exact ⟨(by simp), fun r hr => by cases hr⟩)
  have w_2 : (if (3 : Int) = 2 then x.vt.may else true) = true := rfl
  have w_7 : (if (3 : Int) = 7 then certMay x.ct x.cs else true) = true := rfl
  rw [w_e, w_l, w_v, w_s, w_b, w_c, w_n, w_t, w_g, w_2, w_7]
  rfl
 ·have hk : x.k = 4 := h
  have hp : x.pure = x.bare.pure := by rw [Mg.bare_4 hk]; exact o.symm
  have hB := Mg.B_eqv _ _ hp
  have o2 := o.symm
  unfold Mg.pure onlyP4 at o2
  simp only [Mp.mk.injEq, and_true, true_and] at o2
  unfold Mg.good
  rw [hB]
  have hd : decide (1 ≤ x.k ∧ x.k ≤ 8) = true := by rw [hk]; decide
  rw [hd]
  show x.may = true
  unfold Mg.may Mg.mayL
  rw [hk]
  obtain ⟨z_k, z_s, z_q, z_rs, z_vt, z_ce, z_cl, z_cv, z_he, z_d, z_ct, z_cs, z_st, z_sg⟩ := o2
  have w_e : inB x.e 1048576 = true := inB_iff.2 k.1
  have w_l : inB x.l 64 = true := inB_iff.2 k.2.1
  have w_v : inB x.v 1099511627776 = true := inB_iff.2 k.2.2.1
  have w_s : inB x.s 1099511627776 = true := by rw [z_s]; decide
  have w_b : batMay x.q x.rs = true := may_bat (by rw [z_q, z_rs]; exact ⟨(fun e => by cases e), (by simp), fun r hr => by cases hr⟩)
  have w_c : chgMay x.ce x.cl x.cv x.he = true := may_chg (by rw [z_ce, z_cl, z_cv, show x.he.xs.map Hd.pure = [] from z_he]; exact ⟨(by decide), (by decide), (by decide), (by simp), fun r hr => by cases hr⟩)
  have w_n : Go.Proofs.YtcbpbkefggekmaaGreatDoor.mayL 64 Ev.may x.ne.xs = true := mayL_iff.2 ⟨k.2.2.2.1, fun y hy => may_ev (k.2.2.2.2 y hy)⟩
  have w_t : decide ((x.st.size : Int) ≤ 4194304) = true := by rw [z_st]; rfl
  have w_g : sgsMay x.sg = true := may_sgs (by rw [z_sg]; exact ⟨(by simp), fun r hr => by cases hr⟩)
  have w_2 : (if (4 : Int) = 2 then x.vt.may else true) = true := rfl
  have w_7 : (if (4 : Int) = 7 then certMay x.ct x.cs else true) = true := rfl
  rw [w_e, w_l, w_v, w_s, w_b, w_c, w_n, w_t, w_g, w_2, w_7]
  rfl
 ·have hk : x.k = 5 := h
  have hp : x.pure = x.bare.pure := by rw [Mg.bare_5 hk]; exact o.symm
  have hB := Mg.B_eqv _ _ hp
  have o2 := o.symm
  unfold Mg.pure onlyP5 at o2
  simp only [Mp.mk.injEq, and_true, true_and] at o2
  unfold Mg.good
  rw [hB]
  have hd : decide (1 ≤ x.k ∧ x.k ≤ 8) = true := by rw [hk]; decide
  rw [hd]
  show x.may = true
  unfold Mg.may Mg.mayL
  rw [hk]
  obtain ⟨z_k, z_l, z_v, z_s, z_q, z_rs, z_vt, z_ce, z_cl, z_cv, z_he, z_ne, z_ct, z_cs, z_st, z_sg⟩ := o2
  have w_e : inB x.e 1048576 = true := inB_iff.2 k.1
  have w_l : inB x.l 64 = true := by rw [z_l]; decide
  have w_v : inB x.v 1099511627776 = true := by rw [z_v]; decide
  have w_s : inB x.s 1099511627776 = true := by rw [z_s]; decide
  have w_b : batMay x.q x.rs = true := may_bat (by rw [z_q, z_rs]; exact ⟨(fun e => by cases e), (by simp), fun r hr => by cases hr⟩)
  have w_c : chgMay x.ce x.cl x.cv x.he = true := may_chg (by rw [z_ce, z_cl, z_cv, show x.he.xs.map Hd.pure = [] from z_he]; exact ⟨(by decide), (by decide), (by decide), (by simp), fun r hr => by cases hr⟩)
  have w_n : Go.Proofs.YtcbpbkefggekmaaGreatDoor.mayL 64 Ev.may x.ne.xs = true := by rw [z_ne]; rfl
  have w_t : decide ((x.st.size : Int) ≤ 4194304) = true := by rw [z_st]; rfl
  have w_g : sgsMay x.sg = true := may_sgs (by rw [z_sg]; exact ⟨(by simp), fun r hr => by cases hr⟩)
  have w_2 : (if (5 : Int) = 2 then x.vt.may else true) = true := rfl
  have w_7 : (if (5 : Int) = 7 then certMay x.ct x.cs else true) = true := rfl
  rw [w_e, w_l, w_v, w_s, w_b, w_c, w_n, w_t, w_g, w_2, w_7]
  rfl
 ·have hk : x.k = 6 := h
  have hp : x.pure = x.bare.pure := by rw [Mg.bare_6 hk]; exact o.symm
  have hB := Mg.B_eqv _ _ hp
  have o2 := o.symm
  unfold Mg.pure onlyP6 at o2
  simp only [Mp.mk.injEq, and_true, true_and] at o2
  unfold Mg.good
  rw [hB]
  have hd : decide (1 ≤ x.k ∧ x.k ≤ 8) = true := by rw [hk]; decide
  rw [hd]
  show x.may = true
  unfold Mg.may Mg.mayL
  rw [hk]
  obtain ⟨z_k, z_l, z_v, z_q, z_rs, z_vt, z_ce, z_cl, z_cv, z_he, z_ne, z_d, z_ct, z_cs, z_st, z_sg⟩ := o2
  have w_e : inB x.e 1048576 = true := inB_iff.2 k.1
  have w_l : inB x.l 64 = true := by rw [z_l]; decide
  have w_v : inB x.v 1099511627776 = true := by rw [z_v]; decide
  have w_s : inB x.s 1099511627776 = true := inB_iff.2 k.2
  have w_b : batMay x.q x.rs = true := may_bat (by rw [z_q, z_rs]; exact ⟨(fun e => by cases e), (by simp), fun r hr => by cases hr⟩)
  have w_c : chgMay x.ce x.cl x.cv x.he = true := may_chg (by rw [z_ce, z_cl, z_cv, show x.he.xs.map Hd.pure = [] from z_he]; exact ⟨(by decide), (by decide), (by decide), (by simp), fun r hr => by cases hr⟩)
  have w_n : Go.Proofs.YtcbpbkefggekmaaGreatDoor.mayL 64 Ev.may x.ne.xs = true := by rw [z_ne]; rfl
  have w_t : decide ((x.st.size : Int) ≤ 4194304) = true := by rw [z_st]; rfl
  have w_g : sgsMay x.sg = true := may_sgs (by rw [z_sg]; exact ⟨(by simp), fun r hr => by cases hr⟩)
  have w_2 : (if (6 : Int) = 2 then x.vt.may else true) = true := rfl
  have w_7 : (if (6 : Int) = 7 then certMay x.ct x.cs else true) = true := rfl
  rw [w_e, w_l, w_v, w_s, w_b, w_c, w_n, w_t, w_g, w_2, w_7]
  rfl
 ·have hk : x.k = 7 := h
  have hp : x.pure = x.bare.pure := by rw [Mg.bare_7 hk]; exact o.symm
  have hB := Mg.B_eqv _ _ hp
  have o2 := o.symm
  unfold Mg.pure onlyP7 at o2
  simp only [Mp.mk.injEq, and_true, true_and] at o2
  unfold Mg.good
  rw [hB]
  have hd : decide (1 ≤ x.k ∧ x.k ≤ 8) = true := by rw [hk]; decide
  rw [hd]
  show x.may = true
  unfold Mg.may Mg.mayL
  rw [hk]
  obtain ⟨z_k, z_e, z_l, z_v, z_s, z_vt, z_ce, z_cl, z_cv, z_he, z_ne, z_d, z_st, z_sg⟩ := o2
  have w_e : inB x.e 1048576 = true := by rw [z_e]; decide
  have w_l : inB x.l 64 = true := by rw [z_l]; decide
  have w_v : inB x.v 1099511627776 = true := by rw [z_v]; decide
  have w_s : inB x.s 1099511627776 = true := by rw [z_s]; decide
  have w_b : batMay x.q x.rs = true := may_bat k.1
  have w_c : chgMay x.ce x.cl x.cv x.he = true := may_chg (by rw [z_ce, z_cl, z_cv, show x.he.xs.map Hd.pure = [] from z_he]; exact ⟨(by decide), (by decide), (by decide), (by simp), fun r hr => by cases hr⟩)
  have w_n : Go.Proofs.YtcbpbkefggekmaaGreatDoor.mayL 64 Ev.may x.ne.xs = true := by rw [z_ne]; rfl
  have w_t : decide ((x.st.size : Int) ≤ 4194304) = true := by rw [z_st]; rfl
  have w_g : sgsMay x.sg = true := may_sgs (by rw [z_sg]; exact ⟨(by simp), fun r hr => by cases hr⟩)
  have w_2 : (if (7 : Int) = 2 then x.vt.may else true) = true := rfl
  have w_7 : (if (7 : Int) = 7 then certMay x.ct x.cs else true) = true := may_cert k.2
  rw [w_e, w_l, w_v, w_s, w_b, w_c, w_n, w_t, w_g, w_2, w_7]
  rfl
 ·have hk : x.k = 8 := h
  have hp : x.pure = x.bare.pure := by rw [Mg.bare_8 hk]; exact o.symm
  have hB := Mg.B_eqv _ _ hp
  have o2 := o.symm
  unfold Mg.pure onlyP8 at o2
  simp only [Mp.mk.injEq, and_true, true_and] at o2
  unfold Mg.good
  rw [hB]
  have hd : decide (1 ≤ x.k ∧ x.k ≤ 8) = true := by rw [hk]; decide
  rw [hd]
  show x.may = true
  unfold Mg.may Mg.mayL
  rw [hk]
  obtain ⟨z_k, z_e, z_l, z_v, z_s, z_q, z_rs, z_vt, z_ce, z_cl, z_cv, z_he, z_ne, z_d, z_ct, z_cs⟩ := o2
  have w_e : inB x.e 1048576 = true := by rw [z_e]; decide
  have w_l : inB x.l 64 = true := by rw [z_l]; decide
  have w_v : inB x.v 1099511627776 = true := by rw [z_v]; decide
  have w_s : inB x.s 1099511627776 = true := by rw [z_s]; decide
  have w_b : batMay x.q x.rs = true := may_bat (by rw [z_q, z_rs]; exact ⟨(fun e => by cases e), (by simp), fun r hr => by cases hr⟩)
  have w_c : chgMay x.ce x.cl x.cv x.he = true := may_chg (by rw [z_ce, z_cl, z_cv, show x.he.xs.map Hd.pure = [] from z_he]; exact ⟨(by decide), (by decide), (by decide), (by simp), fun r hr => by cases hr⟩)
  have w_n : Go.Proofs.YtcbpbkefggekmaaGreatDoor.mayL 64 Ev.may x.ne.xs = true := by rw [z_ne]; rfl
  have w_t : decide ((x.st.size : Int) ≤ 4194304) = true := decide_eq_true k.1
  have w_g : sgsMay x.sg = true := may_sgs k.2
  have w_2 : (if (8 : Int) = 2 then x.vt.may else true) = true := rfl
  have w_7 : (if (8 : Int) = 7 then certMay x.ct x.cs else true) = true := rfl
  rw [w_e, w_l, w_v, w_s, w_b, w_c, w_n, w_t, w_g, w_2, w_7]
  rfl
theorem Bs.app {a b : List Int} (h : Bs a) (k : Bs b) : Bs (a ++ b) := fun z hz => (List.mem_append.1 hz).elim (h z) (k z)
theorem Bs.flat {α : Type} {f : α → List Int} {xs : List α} (h : ∀ x ∈ xs, Bs (f x)) : Bs (xs.flatMap f) := fun z hz => by
 obtain ⟨x, hx, hz⟩ := List.mem_flatMap.1 hz
 exact h x hx z hz
theorem put_bs {n m : Int} (h : 0 ≤ n ∧ n ≤ m) (hm : m ≤ 9223372036854775807) : Bs (putL n) := putL_byte n (by omega)
theorem len_bs (n : Nat) (m : Int) (h : (n : Int) ≤ m) (hm : m ≤ 9223372036854775807) : Bs (putL (n : Int)) := putL_byte n (by omega)
theorem text_bs {s : ByteArray} {m : Int} (h : (s.size : Int) ≤ m) (hm : m ≤ 9223372036854775807) : Bs (textL s) := (len_bs _ m h hm).app (strL_byte s)
theorem sg_bs {g : Sg} (h : sgOk g) : Bs (sgL g) := (put_bs h.1 (by decide)).app h.2.2
theorem ev_bs {g : Ev} (h : evOk g) : Bs (evL g) := (put_bs h.1 (by decide)).app ((text_bs h.2.1 (by decide)).app h.2.2.2)
theorem vt_bs {x : Vt} (h : vtOk x) : Bs (vtL x) := by
 obtain ⟨h1, h2, h3, h4, h5, h6⟩ := h
 refine Bs.app (Bs.flat fun n hn => ?_) h6
 simp only [List.mem_cons, List.not_mem_nil, or_false] at hn
 rcases hn with rfl | rfl | rfl | rfl
 ·exact put_bs (m := 2) ⟨by omega, by omega⟩ (by decide)
 ·exact put_bs h2 (by decide)
 ·exact put_bs h3 (by decide)
 ·exact put_bs h4 (by decide)
theorem rq_bs {r : Rq} (h : rqOk r) : Bs (rqL r) := (((put_bs h.1 (by decide)).app (put_bs h.2.1 (by decide))).app (text_bs h.2.2.1 (by decide))).app h.2.2.2.2
theorem ba_bs {c : Bool × List Rq} (h : baOk c) : Bs (baL c) := by
 obtain ⟨q, rs⟩ := c
 cases q
 ·have e : baL (false, rs) = putL ((rs.length : Int) + 1) ++ rs.flatMap rqL := by
   unfold baL batL
   rw [if_neg (show ¬ (false = true) by decide), List.length_map, List.flatMap_map]
   rfl
  rw [e]
  have h2 : rs.length ≤ 4 := h.2.1
  exact Bs.app (putL_byte _ (by omega)) (Bs.flat fun r hr => rq_bs (h.2.2 r hr))
 ·have e : baL (true, rs) = putL 0 := rfl
  rw [e]
  exact putL_byte 0 (by omega)
theorem sgs_bs {xs : List Sg} (h : (xs.length : Int) ≤ 64 ∧ ∀ x ∈ xs, sgOk x) : Bs (sgsL xs) := (len_bs _ 64 h.1 (by decide)).app (Bs.flat fun x hx => sg_bs (h.2 x hx))
theorem evs_bs {xs : List Ev} (h : (xs.length : Int) ≤ 64 ∧ ∀ x ∈ xs, evOk x) : Bs (evsL xs) := (len_bs _ 64 h.1 (by decide)).app (Bs.flat fun x hx => ev_bs (h.2 x hx))
theorem ce_bs {v : Vt} {xs : List Sg} (h : ceOk (v, xs)) : Bs (ctL v xs) := (vt_bs h.1).app (sgs_bs h.2)
theorem hp_bs {x : Hp} (h : hpOk x) : Bs (hpL x) := (ba_bs h.1).app (ce_bs h.2)
theorem cp_bs {c : Cp} (h : cpOk c) : Bs (cpL c) := (put_bs h.1 (by decide)).app ((put_bs h.2.1 (by decide)).app ((put_bs h.2.2.1 (by decide)).app ((len_bs _ 4 h.2.2.2.1 (by decide)).app (Bs.flat fun x hx => hp_bs (h.2.2.2.2 x hx)))))
theorem Mp.bytes_bs {m : Mp} (h : m.good) : Bs m.bytes := by
 rcases h with ⟨h, k⟩ | ⟨h, k⟩ | ⟨h, k⟩ | ⟨h, k⟩ | ⟨h, k⟩ | ⟨h, k⟩ | ⟨h, k⟩ | ⟨h, k⟩
 ·have e : m.bytes = putL 1 ++ body1 m := by unfold Mp.bytes; rw [h]; rfl
  rw [e]; exact (show Bs (putL 1) from putL_byte 1 (by omega)).app ((put_bs k.1.1 (by decide)).app ((put_bs k.1.2.1 (by decide)).app (ba_bs k.1.2.2)))
 ·have e : m.bytes = putL 2 ++ body2 m := by unfold Mp.bytes; rw [h]; rfl
  rw [e]; exact (show Bs (putL 2) from putL_byte 2 (by omega)).app (vt_bs k.1)
 ·have e : m.bytes = putL 3 ++ body3 m := by unfold Mp.bytes; rw [h]; rfl
  rw [e]; exact (show Bs (putL 3) from putL_byte 3 (by omega)).app (cp_bs k.1)
 ·have e : m.bytes = putL 4 ++ body4 m := by unfold Mp.bytes; rw [h]; rfl
  rw [e]; exact (show Bs (putL 4) from putL_byte 4 (by omega)).app ((put_bs k.1.1 (by decide)).app ((put_bs k.1.2.1 (by decide)).app ((put_bs k.1.2.2.1 (by decide)).app (evs_bs k.1.2.2.2))))
 ·have e : m.bytes = putL 5 ++ body5 m := by unfold Mp.bytes; rw [h]; rfl
  rw [e]; exact (show Bs (putL 5) from putL_byte 5 (by omega)).app ((put_bs k.1.1 (by decide)).app k.1.2.2)
 ·have e : m.bytes = putL 6 ++ body6 m := by unfold Mp.bytes; rw [h]; rfl
  rw [e]; exact (show Bs (putL 6) from putL_byte 6 (by omega)).app ((put_bs k.1.1 (by decide)).app (put_bs k.1.2 (by decide)))
 ·have e : m.bytes = putL 7 ++ body7 m := by unfold Mp.bytes; rw [h]; rfl
  rw [e]; exact (show Bs (putL 7) from putL_byte 7 (by omega)).app ((ba_bs k.1.1).app (ce_bs k.1.2))
 ·have e : m.bytes = putL 8 ++ body8 m := by unfold Mp.bytes; rw [h]; rfl
  rw [e]; exact (show Bs (putL 8) from putL_byte 8 (by omega)).app ((text_bs k.1.1 (by decide)).app (sgs_bs k.1.2))
theorem flat_part {α : Type} {f : α → List Int} {xs : List α} {x : α} (h : x ∈ xs) : (f x).length ≤ (xs.flatMap f).length := by
  induction xs with
  | nil => cases h
  | cons y ys ih =>
    rw [List.flatMap_cons, List.length_append]
    rcases List.mem_cons.1 h with rfl | h
    · omega
    · have := ih h; omega
theorem rs_few {q : Bool} {x : Sl Rq} (h : batMay q x = true) : x.xs.length ≤ 200 ∧ ∀ r ∈ x.xs, r.s.size ≤ 4000 := by
 unfold batMay at h
 cases q
 ·obtain ⟨h1, h2⟩ := mayL_iff.1 h
  refine ⟨by omega, fun r hr => ?_⟩
  have := h2 r hr
  unfold Rq.may at this
  rw [Bool.and_eq_true, Bool.and_eq_true] at this
  have := of_decide_eq_true this.2.2
  omega
 ·have e : x.xs.length = 0 := of_decide_eq_true h
  have e2 : x.xs = [] := List.eq_nil_of_length_eq_zero e
  exact ⟨by omega, fun r hr => by rw [e2] at hr; cases hr⟩
theorem fine_pure {x : Mg} (h : x.pure.good) (hl : x.bytes.length ≤ 40000) : x.Fine := by
 have hg := pure_good h
 unfold Mg.good at hg
 rw [Bool.and_eq_true, Bool.and_eq_true] at hg
 have hm := hg.2.2
 have hk := of_decide_eq_true hg.1
 unfold Mg.may Mg.mayL at hm
 simp only [Bool.and_eq_true] at hm
 obtain ⟨⟨e1, e2⟩, ⟨e3, e4⟩, e5, e6, e7, e8, e9, e10, e11⟩ := hm
 have b1 := (inB_iff.1 e1).2
 have b2 := (inB_iff.1 e2).2
 have b3 := (inB_iff.1 e3).2
 have b4 := (inB_iff.1 e4).2
 unfold chgMay at e8
 simp only [Bool.and_eq_true] at e8
 obtain ⟨⟨c1, c2, c3⟩, c4⟩ := e8
 have d1 := (inB_iff.1 c1).2
 have d2 := (inB_iff.1 c2).2
 have d3 := (inB_iff.1 c3).2
 obtain ⟨c5, c6⟩ := mayL_iff.1 c4
 obtain ⟨n1, n2⟩ := mayL_iff.1 e9
 have g1 := (mayL_iff.1 e11).1
 have hcs : x.cs.xs.length ≤ 1000 := by
  rcases h with ⟨_, k, o⟩ | ⟨_, k, o⟩ | ⟨_, k, o⟩ | ⟨_, k, o⟩ | ⟨_, k, o⟩ | ⟨_, k, o⟩ | ⟨_, k, o⟩ | ⟨_, k, o⟩
  case inr.inr.inr.inr.inr.inr.inl =>
   have := k.2.2.1
   have : ((x.cs.xs.length : Nat) : Int) ≤ 64 := this
   omega
  all_goals
   have e : [] = x.cs.xs := congrArg Mp.cs o
   rw [← e]
   simp
 have hne : ∀ g ∈ x.ne.xs, g.s.size ≤ 1000000 := by
  rcases h with ⟨_, k, o⟩ | ⟨_, k, o⟩ | ⟨_, k, o⟩ | ⟨h4, k, o⟩ | ⟨_, k, o⟩ | ⟨_, k, o⟩ | ⟨_, k, o⟩ | ⟨_, k, o⟩
  case inr.inr.inr.inl =>
   intro g hgm
   have h4 : x.k = 4 := h4
   have e : x.bytes = putL 4 ++ ([x.e, x.l, x.v].flatMap putL ++ evsL x.ne.xs) := by unfold Mg.bytes Mg.body; rw [h4]; rfl
   rw [e, List.length_append, List.length_append] at hl
   have h5 := flat_part (f := evL) hgm
   unfold evsL at hl
   rw [List.length_append] at hl
   have h6 : (strL g.s).length ≤ (evL g).length := by unfold evL textL; simp only [List.length_append]; omega
   rw [strL_length] at h6
   omega
  all_goals
   have e : [] = x.ne.xs := congrArg Mp.ne o
   rw [← e]
   intro g hgm
   cases hgm
 have hst : x.st.size ≤ 1000000 := by
  rcases h with ⟨_, k, o⟩ | ⟨_, k, o⟩ | ⟨_, k, o⟩ | ⟨_, k, o⟩ | ⟨_, k, o⟩ | ⟨_, k, o⟩ | ⟨_, k, o⟩ | ⟨h8, k, o⟩
  case inr.inr.inr.inr.inr.inr.inr =>
   have h8 : x.k = 8 := h8
   have e : x.bytes = putL 8 ++ (textL x.st ++ sgsL x.sg.xs) := by unfold Mg.bytes Mg.body; rw [h8]; rfl
   rw [e, List.length_append, List.length_append] at hl
   unfold textL at hl
   rw [List.length_append, strL_length] at hl
   omega
  all_goals
   have e : (⟨#[]⟩ : ByteArray) = x.st := congrArg Mp.st o
   rw [← e]
   decide
 exact ⟨by omega, by omega, by omega, by omega, by omega, by omega, by omega, (rs_few e7).1, (rs_few e7).2, by omega, fun g hgm => by
  have := c6 g hgm
  unfold Hd.may certMay at this
  simp only [Bool.and_eq_true] at this
  have s1 := (mayL_iff.1 this.2.2).1
  exact ⟨by omega, (rs_few this.1).1, (rs_few this.1).2⟩, by omega, hne, hcs, by omega, hst, hl⟩
theorem sl_lt {α : Type} {E : El α} {w : World} {x : Sl α} (h : x.At E w) : x.Bk (fun b => b < w.heap.size) := fun b h1 h2 => by
 rcases h.2.2 with q | ⟨c, off, e, hlt, _⟩
 ·exact absurd q h1
 ·rw [e] at h2
  cases h2
  exact hlt
theorem mg_lt {m : Mg} {w : World} (h : m.At w) : m.Bk (fun b => b < w.heap.size) :=
 ⟨sl_lt h.rs, sl_lt h.he.1, fun y hy => ⟨sl_lt (h.he.2 y hy).1, sl_lt (h.he.2 y hy).2⟩, sl_lt h.ne, sl_lt h.cs, sl_lt h.sg⟩
theorem Mg.Bk.mono {m : Mg} {P P' : Nat → Prop} (k : m.Bk P) (hp : ∀ b, P b → P' b) : m.Bk P' :=
 ⟨k.1.mono hp, k.2.1.mono hp, fun y hy => (k.2.2.1 y hy).mono hp, k.2.2.2.1.mono hp, k.2.2.2.2.1.mono hp, k.2.2.2.2.2.mono hp⟩
structure Fit (m : Mp) (n : Nat) : Prop where
 same : ∀ N, ownC N m = ownX N m
 le : ∀ N, (ownC N m).length ≤ 10000
 rs : ∀ r ∈ m.rs, r.s.size ≤ 100000
 he : ∀ h ∈ m.he, ∀ r ∈ h.rs, r.s.size ≤ 100000
 nl : m.ne.length ≤ 64
 ne : ∀ e ∈ m.ne, e.s.size ≤ n
theorem mem_flat_le {α : Type} {f : α → List Int} {xs : List α} {x : α} (h : x ∈ xs) : (f x).length ≤ (xs.flatMap f).length := by
 obtain ⟨a, b, rfl⟩ := List.append_of_mem h
 simp only [List.flatMap_append, List.flatMap_cons, List.length_append]
 omega
theorem rq_small {r : Rq} (h : rqOk r) : r.s.size ≤ 100000 := by have := h.2.2.1; omega
theorem heC_bound {N : Int} {hs : List Hp} (h : ∀ x ∈ hs, hpOk x) : (heC N hs).length ≤ hs.length * 68 := by
  induction hs with
  | nil => simp [heC]
  | cons a l ih =>
    have h1 := h a (by simp)
    have h2 := ih (fun x hx => h x (by simp [hx]))
    have h3 := h1.1.2.1
    have h4 := h1.2.2.1
    simp only at h3 h4
    unfold heC at h2 ⊢
    simp only [List.flatMap_cons, List.length_append, hdC, batC_len, cerC_len, List.length_cons] at h2 ⊢
    omega
theorem own_none (N : Int) {m : Mp} (h1 : m.rs = []) (h2 : m.cs = []) (h3 : m.he = []) (h4 : m.sg = []) : ownC N m = [] ∧ ownX N m = [] := by
 unfold ownC ownX
 rw [h1, h2, h3, h4]
 constructor
 ·rfl
 ·show [] ++ [] ++ (if m.k = 7 then [] else []) ++ [] = []
  split <;> rfl
theorem fit_of {m : Mp} (h : m.good) (n : Nat) (hn : m.bytes.length = n) : Fit m n := by
 rcases h with ⟨hk, h⟩ | ⟨hk, h⟩ | ⟨hk, h⟩ | ⟨hk, h⟩ | ⟨hk, h⟩ | ⟨hk, h⟩ | ⟨hk, h⟩ | ⟨hk, h⟩
 ·have ec : m.cs = [] := by rw [← h.2]; rfl
  have eh : m.he = [] := by rw [← h.2]; rfl
  have es : m.sg = [] := by rw [← h.2]; rfl
  have en : m.ne = [] := by rw [← h.2]; rfl
  have hb := h.1.2.2.2
  refine ⟨fun N => ?_, fun N => ?_, fun r hr => rq_small (hb.2 r hr), fun x hx => by simp [eh] at hx, by rw [en]; simp, fun x hx => by simp [en] at hx⟩
  ·unfold ownC ownX
   rw [ec, eh, es, if_neg (by rw [hk]; decide)]
   simp [cerC, heC]
  ·unfold ownC
   rw [ec, eh, es]
   simp only [List.length_append, batC_len, cerC_len, sgC_len, heC, List.flatMap_nil, List.length_nil]
   have := hb.1
   simp only at this
   omega
 ·obtain ⟨e1, e2, e3, e4, e5⟩ : m.rs = [] ∧ m.cs = [] ∧ m.he = [] ∧ m.sg = [] ∧ m.ne = [] := by rw [← h.2]; exact ⟨rfl, rfl, rfl, rfl, rfl⟩
  exact ⟨fun N => by rw [(own_none N e1 e2 e3 e4).1, (own_none N e1 e2 e3 e4).2], fun N => by rw [(own_none N e1 e2 e3 e4).1]; simp, fun r hr => by simp [e1] at hr, fun x hx => by simp [e3] at hx, by rw [e5]; simp, fun x hx => by simp [e5] at hx⟩
 ·obtain ⟨e1, e2, e4, e5⟩ : m.rs = [] ∧ m.cs = [] ∧ m.sg = [] ∧ m.ne = [] := by rw [← h.2]; exact ⟨rfl, rfl, rfl, rfl⟩
  have hb := h.1.2.2.2
  simp only at hb
  refine ⟨fun N => ?_, fun N => ?_, fun r hr => by simp [e1] at hr, fun x hx r hr => rq_small ((hb.2 x hx).1.2.2 r hr), by rw [e5]; simp, fun x hx => by simp [e5] at hx⟩
  ·unfold ownC ownX
   rw [e1, e2, e4, if_neg (by rw [hk]; decide)]
   simp [cerC, batC]
  ·have h1 := heC_bound (N := N) hb.2
   unfold ownC
   rw [e1, e2, e4]
   simp only [List.length_append, batC_len, cerC_len, sgC_len, List.length_nil]
   have := hb.1
   omega
 ·obtain ⟨e1, e2, e3, e4⟩ : m.rs = [] ∧ m.cs = [] ∧ m.he = [] ∧ m.sg = [] := by rw [← h.2]; exact ⟨rfl, rfl, rfl, rfl⟩
  have hb := h.1.2.2.2
  refine ⟨fun N => by rw [(own_none N e1 e2 e3 e4).1, (own_none N e1 e2 e3 e4).2], fun N => by rw [(own_none N e1 e2 e3 e4).1]; simp, fun r hr => by simp [e1] at hr, fun x hx => by simp [e3] at hx, by have := hb.1; omega, fun x hx => ?_⟩
  have h1 := mem_flat_le (f := evL) hx
  have h2 : x.s.size ≤ (evL x).length := by
   unfold evL textL
   simp only [List.length_append, strL_length]
   omega
  rw [← hn]
  unfold Mp.bytes
  rw [if_neg (by rw [hk]; decide), if_neg (by rw [hk]; decide), if_neg (by rw [hk]; decide), if_pos hk]
  unfold body4 evsL
  simp only [List.length_append]
  omega
 ·obtain ⟨e1, e2, e3, e4, e5⟩ : m.rs = [] ∧ m.cs = [] ∧ m.he = [] ∧ m.sg = [] ∧ m.ne = [] := by rw [← h.2]; exact ⟨rfl, rfl, rfl, rfl, rfl⟩
  exact ⟨fun N => by rw [(own_none N e1 e2 e3 e4).1, (own_none N e1 e2 e3 e4).2], fun N => by rw [(own_none N e1 e2 e3 e4).1]; simp, fun r hr => by simp [e1] at hr, fun x hx => by simp [e3] at hx, by rw [e5]; simp, fun x hx => by simp [e5] at hx⟩
 ·obtain ⟨e1, e2, e3, e4, e5⟩ : m.rs = [] ∧ m.cs = [] ∧ m.he = [] ∧ m.sg = [] ∧ m.ne = [] := by rw [← h.2]; exact ⟨rfl, rfl, rfl, rfl, rfl⟩
  exact ⟨fun N => by rw [(own_none N e1 e2 e3 e4).1, (own_none N e1 e2 e3 e4).2], fun N => by rw [(own_none N e1 e2 e3 e4).1]; simp, fun r hr => by simp [e1] at hr, fun x hx => by simp [e3] at hx, by rw [e5]; simp, fun x hx => by simp [e5] at hx⟩
 ·obtain ⟨e3, e4, e5⟩ : m.he = [] ∧ m.sg = [] ∧ m.ne = [] := by rw [← h.2]; exact ⟨rfl, rfl, rfl⟩
  have hb := h.1.1.2
  have hc := h.1.2.2.1
  simp only at hb hc
  refine ⟨fun N => ?_, fun N => ?_, fun r hr => rq_small (hb.2 r hr), fun x hx => by simp [e3] at hx, by rw [e5]; simp, fun x hx => by simp [e5] at hx⟩
  ·unfold ownC ownX
   rw [e3, e4, if_pos hk]
   simp [heC]
  ·unfold ownC
   rw [e3, e4]
   simp only [List.length_append, batC_len, cerC_len, sgC_len, heC, List.flatMap_nil, List.length_nil]
   have := hb.1
   omega
 ·obtain ⟨e1, e2, e3, e5⟩ : m.rs = [] ∧ m.cs = [] ∧ m.he = [] ∧ m.ne = [] := by rw [← h.2]; exact ⟨rfl, rfl, rfl, rfl⟩
  have hb := h.1.2.1
  refine ⟨fun N => ?_, fun N => ?_, fun r hr => by simp [e1] at hr, fun x hx => by simp [e3] at hx, by rw [e5]; simp, fun x hx => by simp [e5] at hx⟩
  ·unfold ownC ownX
   rw [e1, e2, e3, if_neg (by rw [hk]; decide)]
   simp [cerC, heC]
  ·unfold ownC
   rw [e1, e2, e3]
   simp only [List.length_append, batC_len, cerC_len, sgC_len, heC, List.flatMap_nil, List.length_nil]
   omega
theorem fit_dec {sb : ByteArray} (h : (decS (strL sb)).2 = 0) : Fit (decS (strL sb)).1 sb.size := by
 obtain ⟨h1, h2⟩ := dec_form (strL_byte sb) h
 exact fit_of h1 _ (by rw [← h2, strL_length])
theorem small_fit {m : Mg} {n : Nat} (h : Fit m.pure n) : Small m := ⟨h.rs, fun x hx r hr => h.he x.pure (List.mem_map_of_mem hx) r hr⟩
def newC (N : Int) (e : Ev) : List Ev := e :: (if (decS (strL e.s)).2 = 0 then ownC N (decS (strL e.s)).1 else [])
def claimsC (N : Int) (sb : ByteArray) : List Ev := if N < 0 ∨ 64 < N then [] else if (decS (strL sb)).2 ≠ 0 then [] else ownC N (decS (strL sb)).1 ++ (decS (strL sb)).1.ne.flatMap (newC N)
theorem newC_len (N : Int) (e : Ev) : (newC N e).length ≤ 10001 := by
 unfold newC
 rw [List.length_cons]
 split
 ·rename_i h
  have := (fit_dec h).le N
  omega
 ·simp
theorem news_len (N : Int) (l : List Ev) : (l.flatMap (newC N)).length ≤ l.length * 10001 := by
  induction l with
  | nil => simp
  | cons a l ih =>
    have := newC_len N a
    simp only [List.flatMap_cons, List.length_append, List.length_cons]
    omega
theorem flat_take {α β : Type} {f : α → List β} {xs : List α} {k : Nat} (hk : k < xs.length) : (xs.take (k + 1)).flatMap f = (xs.take k).flatMap f ++ f xs[k] := by
 have e : xs.take (k + 1) = xs.take k ++ [xs[k]] := by rw [List.take_add_one, List.getElem?_eq_getElem hk]; rfl
 rw [e, List.flatMap_append]
 simp
def ClaimsA (w : World) (cs : List Ev) (en : Ending) (w' : World) : Prop := ∃ x : Sl Ev, en = .returned x.val ∧ x.xs = cs ∧ x.At EvE w' ∧ Below w.heap.size w w'
theorem claims_none (w w' : World) (h : Below w.heap.size w w') : ClaimsA w [] (.returned (.slice none 0 0)) w' := ⟨⟨none, 0, []⟩, rfl, rfl, RowsAt.none, h⟩
theorem outc_rows {w : World} {O : Nat} {v : Value} {cs : List Ev} (h : OutC w O v cs) (hl : cs.length ≤ 1000000000) : ∃ x : Sl Ev, v = x.val ∧ x.xs = cs ∧ x.At EvE w := by
 obtain ⟨x, h1, h2, h3, -⟩ := own_rows (E := EvE) h.own h.ok (by unfold maxLen; omega)
 exact ⟨x, h1, h2, h3⟩
theorem outc_new {w : World} : OutC (w.alloc (.cells #[.slice none 0 0] 64)) w.heap.size (.slice none 0 0) [] :=
 ⟨by simp, by have := range_new w #[.slice none 0 0] 64 0 _ rfl; rwa [Nat.zero_add] at this, there_newN w #[.slice none 0 0] 64 (n := 1) rfl, World.ownsRow_nil _ _ _ _, fun _ h => absurd h List.not_mem_nil⟩
theorem zeroMg (w : World) : (zeroValue 52).run Tryz.prog w = .ok (.agg Mg.none.ms.cells.toArray) w := by kernel_rfl
theorem zeroCls (w : World) : (zeroValue 64).run Tryz.prog w = .ok (.slice none 0 0) w := by kernel_rfl
theorem zeroEv18 (w : World) : (zeroValue 25).run Tryz.prog w = .ok (.agg ([Value.int .i64 0] ++ ([Value.string ⟨#[]⟩] ++ v8 (List.replicate 16 0))).toArray) w := zeroEvE w
set_option maxRecDepth 100000 in
set_option maxHeartbeats 2000000 in
theorem claims_any (N : Int) (sb : ByteArray) (w : World) (hs : sb.size ≤ 40000) : Calls Tryz.prog 19 #[.int .i64 N, .string sb] w fun en w' => ClaimsA w (claimsC N sb) en w' := by
 obtain ⟨zc, hzl, hzr⟩ : ∃ z : List Value, z.length = 119 ∧ (∀ w : World, (zeroValue 52).run Tryz.prog w = .ok (.agg z.toArray) w) := ⟨_, Mg.none_ok.ms.len, zeroMg⟩
 obtain ⟨z18, hyl, hyr⟩ : ∃ z : List Value, z.length = 18 ∧ (∀ w : World, (zeroValue 25).run Tryz.prog w = .ok (.agg z.toArray) w) := ⟨_, rfl, zeroEv18⟩
 have ca := fun O w0 vk ds e he h0 hl => cadd_any O vk ds e w0 h0 he hl
 have cD := fun w0 => decode_any sb hs w0
 have cE := fun (e : Ev) (h : e.s.size ≤ 40000) w0 => decode_any e.s h w0
 have hfd := fit_dec (sb := sb)
 have HCL : claimsC N sb = if N < 0 ∨ 64 < N then [] else if (decS (strL sb)).2 ≠ 0 then [] else ownC N (decS (strL sb)).1 ++ (decS (strL sb)).1.ne.flatMap (newC N) := rfl
 obtain ⟨R, hR⟩ : ∃ R, Hid (claimsC N sb = R) := ⟨_, hide rfl⟩
 rw [hR.out] at HCL ⊢
 generalize decS (strL sb) = pp at cD hfd HCL
 obtain ⟨pm, pe⟩ := pp
 simp only at cD hfd HCL
 have HC0 := hide HCL
 clear HCL hR
 go_enter Tryz.func19, Tryz.ntmps19
 go_upto_region 1 with fail
 by_cases n0 : N < 0
 ·have HE := hide (claims_none w w (Below.refl _ _))
  have hr : R = [] := by rw [HC0.out, if_pos (.inl n0)]
  subst hr
  try simp only [Act.put]
  refine pl_begin ?_
  refine pl_t 13 (?_) (by rfl) ?_ rfl ?_
  rotate_left
  ·go_simp
   try with_reducible rfl
  simp only [nz]
  refine pl_t 14 (.bool true) (by rfl) (by go_simp <;> (try simp [*])) rfl ?_
  simp only [nz]
  refine pl_t 15 (?_) (by rfl) ?_ rfl ?_
  rotate_left
  ·go_simp
   try with_reducible rfl
  simp only [nz]
  refine pl_skip (d := some 16) (by rfl) rfl ?_
  simp only [nz]
  refine pl_skip (d := some 17) (by rfl) rfl ?_
  simp only [nz]
  refine pl_t 18 (?_) (by rfl) ?_ rfl ?_
  rotate_left
  ·go_simp
   try with_reducible rfl
  simp only [nz]
  refine pl_nil ?_
  clear cD cE ca hfd n0 HC0
  go_wp2_with fail
  go_ret
  exact HE.out
 by_cases n1 : 64 < N
 ·have n1' : (64 : Int) < N := n1
  have HE := hide (claims_none w w (Below.refl _ _))
  have hr : R = [] := by rw [HC0.out, if_pos (.inr n1)]
  subst hr
  try simp only [Act.put]
  refine pl_begin ?_
  refine pl_t 13 (?_) (by rfl) ?_ rfl ?_
  rotate_left
  ·go_simp
   try with_reducible rfl
  simp only [nz]
  refine pl_t 14 (.bool false) (by rfl) (by go_simp <;> (try simp [*])) rfl ?_
  simp only [nz]
  refine pl_t 15 (?_) (by rfl) ?_ rfl ?_
  rotate_left
  ·go_simp
   try with_reducible rfl
  simp only [nz]
  refine pl_t 16 (?_) (by rfl) ?_ rfl ?_
  rotate_left
  ·go_simp
   try with_reducible rfl
  simp only [nz]
  refine pl_t 17 (.bool true) (by rfl) (by go_simp <;> (try simp [*])) rfl ?_
  simp only [nz]
  refine pl_t 18 (?_) (by rfl) ?_ rfl ?_
  rotate_left
  ·go_simp
   try with_reducible rfl
  simp only [nz]
  refine pl_nil ?_
  clear cD cE ca hfd n0 n1 n1' HC0
  go_wp2_with fail
  go_ret
  exact HE.out
 have HC0 : Hid (R = if pe ≠ 0 then [] else ownC N pm ++ pm.ne.flatMap (newC N)) := hide (by rw [HC0.out, if_neg (by omega)])
 try simp only [Act.put]
 refine pl_begin ?_
 refine pl_t 13 (?_) (by rfl) ?_ rfl ?_
 rotate_left
 ·go_simp
  try with_reducible rfl
 simp only [nz]
 refine pl_t 14 (.bool false) (by rfl) (by go_simp <;> (try simp [*])) rfl ?_
 simp only [nz]
 refine pl_t 15 (?_) (by rfl) ?_ rfl ?_
 rotate_left
 ·go_simp
  try with_reducible rfl
 simp only [nz]
 refine pl_t 16 (?_) (by rfl) ?_ rfl ?_
 rotate_left
 ·go_simp
  try with_reducible rfl
 simp only [nz]
 refine pl_t 17 (.bool false) (by rfl) (by go_simp <;> (try simp [*])) rfl ?_
 simp only [nz]
 refine pl_t 18 (?_) (by rfl) ?_ rfl ?_
 rotate_left
 ·go_simp
  try with_reducible rfl
 simp only [nz]
 refine pl_nil ?_
 clear n0 n1
 go_upto_region 3 with fail
 try simp only [Act.put]
 refine pl_begin ?_
 refine pl_t 20 (?_) (by rfl) ?_ rfl ?_
 rotate_left
 ·go_simp
  try with_reducible rfl
 simp only [nz]
 refine pl_call (d := some 21) (by rfl) (by go_simp; first | done | exact ⟨rfl, rfl⟩ | with_reducible rfl) rfl ?_
 refine (cD w).mono ?_
 rintro _ w1 ⟨m, rfl, mp, mo, ma, mb, hb1⟩
 refine ⟨_, rfl, ?_⟩
 simp only [nz]
 have hml : m.ms.cells.length = 119 := mo.ms.len
 have hm1 := mo.ms.one
 have him : (Tryz.prog.info? 52).map (·.size) = some m.ms.cells.length := by rw [hml]; exact iszM
 obtain ⟨q, hq⟩ : ∃ q, Hid (m.ms.cells = q) := ⟨_, hide rfl⟩
 rw [hq.out] at hml hm1 him
 simp only [hq.out]
 refine pl_t 19 (?_) (by rfl) ?_ rfl ?_
 rotate_left
 ·go_simp
  try with_reducible rfl
 simp only [nz]
 refine pl_t 22 (?_) (by rfl) ?_ rfl ?_
 rotate_left
 ·go_simp
  try with_reducible rfl
 simp only [nz]
 refine pl_t 23 (?_) (by rfl) ?_ rfl ?_
 rotate_left
 ·go_simp
  try with_reducible rfl
 simp only [nz]
 refine pl_run (d := some 5) (v := .pointer (some ⟨w1.heap.size, 0, none⟩)) (w' := w1.alloc (.cells zc.toArray 52)) (by rfl) (ex_alloc rfl (hzr _)) rfl ?_
 simp only [nz]
 refine pl_store (w' := (w1.alloc (.cells zc.toArray 52)).setCells w1.heap.size 0 q) (by rfl) (ex_put (cs := q.toArray) rfl rfl rfl (there_newN _ _ _ (by simp [hzl, hml])) (by simpa using him) (all_one hm1)) rfl ?_
 refine pl_t 6 (?_) (by rfl) ?_ rfl ?_
 rotate_left
 ·go_simp
  try with_reducible rfl
 simp only [nz]
 refine pl_nil ?_
 obtain ⟨r2, hF, hF3, -⟩ := fresh_store w1 zc.toArray 52 q (by simp [hzl, hml])
 have ma2 := ma.below hF
 have HB2 := hide (hb1.trans (hF.mono hb1.size))
 have mlt := (mg_lt ma).mono (P' := fun b => b < w1.heap.size) (fun b h => h)
 obtain ⟨A, hA⟩ : ∃ A, w1.heap.size = A := ⟨_, rfl⟩
 rw [hA] at r2 hF3 mlt HB2
 simp only [hA] at ma2 ⊢
 obtain ⟨w2, hw2⟩ : ∃ W, (w1.alloc (.cells zc.toArray 52)).setCells A 0 q = W := ⟨_, rfl⟩
 rw [hw2] at r2 hF3 HB2 ma2 ⊢
 have sA : A < w2.heap.size := by omega
 clear hw2 hA hF hF3 hb1 ma mb cD
 by_cases e0 : pe = 0
 rotate_left
 ·have hr : R = [] := by rw [HC0.out, if_pos e0]
  subst hr
  have HE := hide (claims_none w w2 HB2.out)
  have e0' : (pe != 0) = true := by simp [e0]
  clear r2 ma2 mlt HB2 cE ca hfd
  go_wp2_with fail
  go_ret
  exact HE.out
 subst e0
 have hfm := hfd rfl
 have HR : Hid (R = ownC N m.pure ++ m.ne.xs.flatMap (newC N)) := hide (by rw [HC0.out, if_neg (by decide), ← mp]; rfl)
 rw [← mp] at hfm
 have HF := hide hfm
 have HS := hide (small_fit hfm)
 clear hfd hfm HC0
 have HMO := hide mo
 have HMS := hide mp
 have hne : w2.cell? ⟨A, 47, none⟩ = some m.ne.val := by
  have := (mo.ms.at (w := w2) (b := A) (by rw [hq.out]; exact r2)).ne
  exact this
 clear mp mo
 go_upto_region 6 with fail
 try simp only [Act.put]
 refine pl_begin ?_
 refine pl_run (d := some 7) (v := .pointer (some ⟨w2.heap.size, 0, none⟩)) (w' := w2.alloc (.cells #[.slice none 0 0] 64)) (by rfl) (ex_alloc (z := .slice none 0 0) rfl (zeroCls _)) rfl ?_
 simp only [nz]
 refine pl_nil ?_
 have ho3 : OutC (w2.alloc (.cells #[.slice none 0 0] 64)) w2.heap.size (.slice none 0 0) [] := outc_new
 have B3 : Below w2.heap.size w2 (w2.alloc (.cells #[.slice none 0 0] 64)) := (Below.refl _ _).alloc (Nat.le_refl _) _
 have ma3 := ma2.below B3
 have r3 := range_below r2 B3 sA
 have hne3 := (B3.cell (p := ⟨A, 47, none⟩) sA).trans hne
 have HB3 := hide (HB2.out.trans (B3.mono HB2.out.size))
 have sO : A < w2.heap.size := sA
 have hOw : w.heap.size ≤ w2.heap.size := HB2.out.size
 obtain ⟨O, hO⟩ : ∃ O, w2.heap.size = O := ⟨_, rfl⟩
 rw [hO] at ho3 sO hOw
 simp only [hO]
 obtain ⟨W, hW⟩ : ∃ W, w2.alloc (.cells #[.slice none 0 0] 64) = W := ⟨_, rfl⟩
 rw [hW] at ho3 ma3 r3 hne3 HB3 B3 ⊢
 have sA3 : A < W.heap.size := Nat.lt_of_lt_of_le sA B3.size
 have mb3 : m.Bk (Clr O (.slice none 0 0)) := mlt.mono (fun b hb => ⟨by omega, fun e => by cases e⟩)
 have hcA : Clr O (.slice none 0 0) A := ⟨by omega, fun e => by cases e⟩
 have cO := oclaims_any N m O (.slice none 0 0) [] W ho3 HMO.out ma3 mb3 (by have := HF.out.le N; simp only [List.length_nil]; omega) HS.out
 rw [hq.out] at cO
 unfold addV at cO
 clear hW hO B3 hne r2 ma2 mlt HB2 sA
 go_upto_region 8 with fail
 try simp only [Act.put]
 refine pl_begin ?_
 refine pl_t 27 (?_) (by rfl) ?_ rfl ?_
 rotate_left
 ·go_simp
  try with_reducible rfl
 simp only [nz]
 refine pl_t 28 (.agg q.toArray) (by rfl) (ex_mid rfl rfl r3 Tryz.underlying52 rfl him) rfl ?_
 simp only [nz]
 refine pl_t 29 (?_) (by rfl) ?_ rfl ?_
 rotate_left
 ·go_simp
  try with_reducible rfl
 simp only [nz]
 refine pl_call (d := some 30) (by rfl) (by go_simp; first | done | exact ⟨rfl, rfl⟩ | with_reducible rfl) rfl ?_
 refine (cO).mono ?_
 rintro _ w4 ⟨rfl, v4, o4, g4⟩
 refine ⟨_, rfl, ?_⟩
 simp only [nz]
 refine pl_nil ?_
 have HC4 : CI W w4 O (.slice none 0 0) v4 ([] ++ ownC N m.pure) := ⟨o4, g4⟩
 have hne4 := (cell_block (j := 47) (g4.keep sA3 hcA).1).1.trans hne3
 obtain ⟨C4, hC4⟩ : ∃ C, Hid ([] ++ ownC N m.pure = C) := ⟨_, hide rfl⟩
 rw [hC4.out] at HC4
 have HC4l : Hid (C4.length ≤ 10000) := hide (by rw [← hC4.out, List.nil_append]; exact HF.out.le N)
 obtain ⟨⟨xa, xc, xs⟩, hxe⟩ : ∃ x, m.ne = x := ⟨_, rfl⟩
 obtain ⟨n, hxn⟩ : ∃ n, xs.length = n := ⟨_, rfl⟩
 have hval : (m.ne).val = .slice xa n xc := by rw [hxe]; unfold Sl.val; rw [← hxn]
 rw [hval] at hne4
 have HXX : Hid (Sl.At EvE W ⟨xa, xc, xs⟩) := hide (by have := ma3.ne; rw [hxe] at this; exact this)
 have HCC : Hid (Sl.Bk (Sl.mk xa xc xs) (Clr O (.slice none 0 0))) := hide (by have := mb3.2.2.2.1; rw [hxe] at this; exact this)
 have hpx : m.pure.ne = xs := by show m.ne.xs = xs; rw [hxe]
 have HNE : Hid (∀ e ∈ xs, e.s.size ≤ 40000) := hide (fun e he => Nat.le_trans (HF.out.ne e (by rw [hpx]; exact he)) hs)
 have HNL : Hid (n ≤ 64) := hide (by have := HF.out.nl; rw [hpx, hxn] at this; exact this)
 have HR2 : Hid (R = C4 ++ xs.flatMap (newC N)) := hide (by rw [HR.out, hxe, ← hC4.out, List.nil_append])
 have HN := hide hxn
 clear hval hxe hxn hpx o4 g4 r3 ma3 mb3 hne3 sA3 hcA ho3 HF HS HR HMO him hml hm1 hC4
 go_upto_region 9 with fail
 try simp only [Act.put]
 refine pl_begin ?_
 refine pl_t 31 (?_) (by rfl) ?_ rfl ?_
 rotate_left
 ·go_simp
  try with_reducible rfl
 simp only [nz]
 refine pl_t 32 (.slice xa n xc) (by rfl) (pl_one rfl rfl hne4 Tryz.underlying47 rfl) rfl ?_
 simp only [nz]
 refine pl_t 33 (?_) (by rfl) ?_ rfl ?_
 rotate_left
 ·go_simp
  try with_reducible rfl
 simp only [nz]
 refine pl_t 34 (?_) (by rfl) ?_ rfl ?_
 rotate_left
 ·go_simp
  try with_reducible rfl
 simp only [nz]
 refine pl_nil ?_
 have HC5 : Hid (CI W w4 O (.slice none 0 0) v4 (C4 ++ (xs.take 0).flatMap (newC N))) := hide (by simpa using HC4)
 clear HC4 hne4 HMS hq cO
 go_wp2_with fail
 go_loopw [34] (fun iv wr => ∃ (k : Nat) (vk : Value), k ≤ n ∧ iv = .int .i64 (k : Int) ∧ Hid (CI W wr O (.slice none 0 0) vk (C4 ++ (xs.take k).flatMap (newC N)))) (fun iv _ => n - (intOf iv).toNat)
 case atStart => exact ⟨0, v4, by omega, rfl, HC5⟩
 case round =>
  clear HC5
  obtain ⟨k, vk, hk, rfl, HK⟩ := hrel
  by_cases hlt : k < n
  ·have k1 : (k : Int) < n := by omega
   have hn9 : n ≤ 64 := HNL.out
   have hkx : k < xs.length := by rw [HN.out]; exact hlt
   obtain ⟨b, off, hab0, hbw, hre0⟩ := (HXX.out.grow HK.out.grow HCC.out).elem k hkx
   have hab : xa = some ⟨b, off, none⟩ := hab0
   have hre : wr.rangeAt b (off + k * 18) (EvE.f xs[k]) := hre0
   clear hab0 hre0
   have okx : Ev.ok xs[k] := HXX.out.2.1 _ (List.getElem_mem hkx)
   have hsz := HNE.out _ (List.getElem_mem hkx)
   have HT : Hid ((xs.take (k + 1)).flatMap (newC N) = (xs.take k).flatMap (newC N) ++ newC N xs[k]) := hide (flat_take hkx)
   have HL : (C4 ++ (xs.take k).flatMap (newC N)).length ≤ 1000000000 := by
    have h1 := news_len N (xs.take k)
    have h2 := HC4l.out
    rw [List.length_take] at h1
    rw [List.length_append]
    omega
   have HL2 : Hid ((C4 ++ (xs.take k).flatMap (newC N)).length ≤ 700000) := hide (by
    have h1 := news_len N (xs.take k)
    have h2 := HC4l.out
    rw [List.length_take] at h1
    rw [List.length_append]
    omega)
   obtain ⟨g, hg⟩ : ∃ g, xs[k] = g := ⟨_, rfl⟩
   rw [hg] at hre okx hsz HT
   clear hg
   have ca := fun w0 vk ds h0 hl => ca O w0 vk ds g okx h0 hl
   have cE := fun w0 => cE g hsz w0
   have hgn : newC N g = g :: (if (decS (strL g.s)).2 = 0 then ownC N (decS (strL g.s)).1 else []) := rfl
   have hfg := fit_dec (sb := g.s)
   have hut : EvE.f g = .int .i64 g.n :: .string g.s :: v8 g.t := rfl
   have it16 : (Tryz.prog.info? 23).map (·.size) = some (v8 g.t).length := by rw [v8_length, okx.tl]; exact iszT
   have iu : (Tryz.prog.info? 25).map (·.size) = some (EvE.f g).length := by rw [EvE.len g okx]; kernel_rfl
   have hul : (EvE.f g).length = 18 := EvE.len g okx
   have hu1 := EvE.one g
   obtain ⟨id, hid⟩ : ∃ i, g.n = i := ⟨_, rfl⟩
   obtain ⟨bd, hbd⟩ : ∃ i, g.s = i := ⟨_, rfl⟩
   obtain ⟨tg, htg⟩ : ∃ t, g.t = t := ⟨_, rfl⟩
   rw [hid, hbd, htg] at hut
   rw [htg] at it16
   rw [hbd] at hfg hgn
   simp only [hid, hbd, htg] at ca cE
   clear okx htg hid hbd hsz
   obtain ⟨u, hu⟩ : ∃ u, Hid (EvE.f g = u) := ⟨_, hide rfl⟩
   rw [hu.out] at hre iu hul hu1 hut
   clear hu
   have HUT := hide hut
   clear hut
   generalize decS (strL bd) = p2 at cE hfg hgn
   obtain ⟨pm2, pe2⟩ := p2
   simp only at cE hfg hgn
   have HGN := hide hgn
   clear hgn
   obtain rfl := hab
   go_upto_region 11 with fail
   obtain ⟨r5, hF, hF3, -⟩ := fresh_store wr z18.toArray 25 u (by simp [hyl, hul])
   try simp only [Act.put]
   refine pl_begin ?_
   refine pl_t 36 (.pointer (some ⟨b, off + k * 18, none⟩)) (by rfl) (by go_simp <;> (try simp [*])) rfl ?_
   simp only [nz]
   refine pl_t 37 (.agg u.toArray) (by rfl) (ex_mid rfl rfl hre Tryz.underlying25 rfl iu) rfl ?_
   simp only [nz]
   refine pl_run (d := some 10) (v := .pointer (some ⟨wr.heap.size, 0, none⟩)) (w' := wr.alloc (.cells z18.toArray 25)) (by rfl) (ex_alloc rfl (hyr _)) rfl ?_
   simp only [nz]
   refine pl_store (w' := (wr.alloc (.cells z18.toArray 25)).setCells wr.heap.size 0 u) (by rfl) (ex_put (cs := u.toArray) rfl rfl rfl (there_newN _ _ _ (by simp [hyl, hul])) (by simpa using iu) (all_one hu1)) rfl ?_
   refine pl_nil ?_
   have HC := HK.out.later hF
   have HX := clr_new HK.out (Nat.le_refl _)
   clear HK
   obtain ⟨X, hX⟩ : ∃ X, wr.heap.size = X := ⟨_, rfl⟩
   simp only [hX] at r5 HC HX hF3 ⊢
   obtain ⟨w5, hw5⟩ : ∃ W, (wr.alloc (.cells z18.toArray 25)).setCells X 0 u = W := ⟨_, rfl⟩
   rw [hw5] at r5 HC hF3 ⊢
   have sX : X < w5.heap.size := by omega
   clear hw5 hX hF hF3 hre
   have c0 : w5.cell? ⟨X, 0, none⟩ = some (.int .i64 id) := by have := r5 0 _ (by rw [HUT.out]; rfl); rwa [Nat.zero_add] at this
   have c1 : w5.cell? ⟨X, 1, none⟩ = some (.string bd) := by have := r5 1 _ (by rw [HUT.out]; rfl); rwa [Nat.zero_add] at this
   have ct : w5.rangeAt X 2 (v8 tg) := fun j y hy => by
    have := r5 (j + 2) y (by rw [HUT.out]; exact hy)
    rw [show 0 + (j + 2) = 2 + j by omega] at this
    exact this
   clear r5
   go_upto_region 12 with fail
   try simp only [Act.put]
   refine pl_begin ?_
   refine pl_t 38 (?_) (by rfl) ?_ rfl ?_
   rotate_left
   ·go_simp
    try with_reducible rfl
   simp only [nz]
   refine pl_t 39 (?_) (by rfl) ?_ rfl ?_
   rotate_left
   ·go_simp
    try with_reducible rfl
   simp only [nz]
   refine pl_t 40 (.int .i64 id) (by rfl) (pl_one rfl rfl c0 Tryz.underlying3 rfl) rfl ?_
   simp only [nz]
   refine pl_t 41 (?_) (by rfl) ?_ rfl ?_
   rotate_left
   ·go_simp
    try with_reducible rfl
   simp only [nz]
   refine pl_t 42 (.string bd) (by rfl) (pl_one rfl rfl c1 Tryz.underlying9 rfl) rfl ?_
   simp only [nz]
   refine pl_t 43 (?_) (by rfl) ?_ rfl ?_
   rotate_left
   ·go_simp
    try with_reducible rfl
   simp only [nz]
   refine pl_t 44 (.agg (v8 tg).toArray) (by rfl) (ex_mid rfl rfl ct Tryz.underlying23 rfl it16) rfl ?_
   simp only [nz]
   refine pl_call (d := some 45) (by rfl) (by go_simp; first | done | exact ⟨rfl, rfl⟩ | with_reducible rfl) rfl ?_
   refine (ca w5 vk _ HC.out HL).mono ?_
   rintro _ w6 ⟨rfl, v6, o6, g6⟩
   refine ⟨_, rfl, ?_⟩
   simp only [nz]
   refine pl_nil ?_
   have HC6 := HC.add o6 g6
   have c1 := (cell_block (j := 1) (g6.keep sX HX).1).1.trans c1
   clear HC o6 g6 c0 ct ca HX sX
   go_upto_region 13 with fail
   try simp only [Act.put]
   refine pl_begin ?_
   refine pl_t 47 (?_) (by rfl) ?_ rfl ?_
   rotate_left
   ·go_simp
    try with_reducible rfl
   simp only [nz]
   refine pl_t 48 (.string bd) (by rfl) (pl_one rfl rfl c1 Tryz.underlying9 rfl) rfl ?_
   simp only [nz]
   refine pl_call (d := some 49) (by rfl) (by go_simp; first | done | exact ⟨rfl, rfl⟩ | with_reducible rfl) rfl ?_
   refine (cE w6).mono ?_
   rintro _ w7 ⟨m2, rfl, mp2, mo2, mx2, mb2, hb7⟩
   refine ⟨_, rfl, ?_⟩
   simp only [nz]
   have hml2 : m2.ms.cells.length = 119 := mo2.ms.len
   have hm12 := mo2.ms.one
   have him2 : (Tryz.prog.info? 52).map (·.size) = some m2.ms.cells.length := by rw [hml2]; exact iszM
   obtain ⟨q2, hq2⟩ : ∃ q, Hid (m2.ms.cells = q) := ⟨_, hide rfl⟩
   rw [hq2.out] at hml2 hm12 him2
   simp only [hq2.out]
   refine pl_t 46 (?_) (by rfl) ?_ rfl ?_
   rotate_left
   ·go_simp
    try with_reducible rfl
   simp only [nz]
   refine pl_t 50 (?_) (by rfl) ?_ rfl ?_
   rotate_left
   ·go_simp
    try with_reducible rfl
   simp only [nz]
   refine pl_t 51 (?_) (by rfl) ?_ rfl ?_
   rotate_left
   ·go_simp
    try with_reducible rfl
   simp only [nz]
   refine pl_run (d := some 11) (v := .pointer (some ⟨w7.heap.size, 0, none⟩)) (w' := w7.alloc (.cells zc.toArray 52)) (by rfl) (ex_alloc rfl (hzr _)) rfl ?_
   simp only [nz]
   refine pl_store (w' := (w7.alloc (.cells zc.toArray 52)).setCells w7.heap.size 0 q2) (by rfl) (ex_put (cs := q2.toArray) rfl rfl rfl (there_newN _ _ _ (by simp [hzl, hml2])) (by simpa using him2) (all_one hm12)) rfl ?_
   refine pl_t 12 (?_) (by rfl) ?_ rfl ?_
   rotate_left
   ·go_simp
    try with_reducible rfl
   simp only [nz]
   refine pl_nil ?_
   obtain ⟨r8, hF, hF3, -⟩ := fresh_store w7 zc.toArray 52 q2 (by simp [hzl, hml2])
   have HC8 := (HC6.later hb7).later hF
   have mx8 := mx2.below hF
   have mb8 : m2.Bk (Clr O v6) := mb2.mono (fun b hb => clr_new HC6 hb)
   obtain ⟨A2, hA2⟩ : ∃ A, w7.heap.size = A := ⟨_, rfl⟩
   simp only [hA2] at r8 hF3 HC8 mx8 ⊢
   obtain ⟨w8, hw8⟩ : ∃ W, (w7.alloc (.cells zc.toArray 52)).setCells A2 0 q2 = W := ⟨_, rfl⟩
   rw [hw8] at r8 hF3 HC8 mx8 ⊢
   have sA2 : A2 < w8.heap.size := by omega
   clear hw8 hA2 hF hF3 hb7 mx2 mb2 HC6 cE c1
   by_cases e0 : pe2 = 0
   ·subst e0
    have hf2 := hfg rfl
    rw [← mp2] at hf2
    have HS2 := hide (small_fit hf2)
    have HCL : Hid ((C4 ++ (xs.take k).flatMap (newC N) ++ [g]).length + (ownC N m2.pure).length ≤ 1000000000) := hide (by
     have h1 := hf2.le N
     have h2 := HL2.out
     rw [List.length_append, List.length_singleton]
     omega)
    have cO := oclaims_any N m2 O v6 _ w8 HC8.out mo2 mx8 mb8 HCL.out HS2.out
    rw [hq2.out] at cO
    unfold addV at cO
    clear hf2 hfg
    go_upto_region 15 with fail
    try simp only [Act.put]
    refine pl_begin ?_
    refine pl_t 54 (?_) (by rfl) ?_ rfl ?_
    rotate_left
    ·go_simp
     try with_reducible rfl
    simp only [nz]
    refine pl_t 55 (.agg q2.toArray) (by rfl) (ex_mid rfl rfl r8 Tryz.underlying52 rfl him2) rfl ?_
    simp only [nz]
    refine pl_t 56 (?_) (by rfl) ?_ rfl ?_
    rotate_left
    ·go_simp
     try with_reducible rfl
    simp only [nz]
    refine pl_call (d := some 57) (by rfl) (by go_simp; first | done | exact ⟨rfl, rfl⟩ | with_reducible rfl) rfl ?_
    refine (cO).mono ?_
    rintro _ w9 ⟨rfl, v9, o9, g9⟩
    refine ⟨_, rfl, ?_⟩
    simp only [nz]
    refine pl_nil ?_
    have HD : Hid (CI W w9 O (.slice none 0 0) v9 (C4 ++ (xs.take (k + 1)).flatMap (newC N))) := hide (by
     rw [HT.out, HGN.out, if_pos rfl, ← mp2]
     have h9 := HC8.add o9 g9
     simp only [List.append_assoc, List.singleton_append] at h9 ⊢
     exact h9)
    clear cO HC8 o9 g9 mx8 mb8 r8 sA2 HT HGN hq2 him2 hml2 hm12 mo2 HS2 HCL hzr hyr hzl hyl iu hul hu1 it16 HL
    go_wp2_with fail
    go_roundw
    case rel => exact ⟨k + 1, v9, by omega, by go_num, HD⟩
    case measure => simp [intOf]; omega
   ·have e0' : (pe2 == 0) = false := by simp [e0]
    have HD : Hid (CI W w8 O (.slice none 0 0) v6 (C4 ++ (xs.take (k + 1)).flatMap (newC N))) := hide (by
     rw [HT.out, HGN.out, if_neg e0, ← List.append_assoc]
     exact HC8)
    clear HC8 mx8 mb8 r8 sA2 HT HGN hq2 him2 hml2 hm12 mo2 hzr hyr hzl hyl iu hul hu1 it16 HL hfg mp2
    go_wp2_with fail
    go_roundw
    case rel => exact ⟨k + 1, v6, by omega, by go_num, HD⟩
    case measure => simp [intOf]; omega
  ·obtain rfl : k = n := by omega
   have c0 := HK.out.out.c0
   have HE : Hid (ClaimsA w R (.returned vk) wr) := hide (by
    have h1 := HK.out.out
    rw [List.take_of_length_le (by rw [HN.out]; exact Nat.le_refl _), ← HR2.out] at h1
    have hl : R.length ≤ 1000000000 := by
     have h2 := news_len N xs
     have h3 := HC4l.out
     have h4 := HNL.out
     rw [HR2.out, List.length_append]
     rw [HN.out] at h2
     omega
    obtain ⟨x, e1, e2, e3⟩ := outc_rows h1 hl
    refine ⟨x, by rw [e1], e2, e3, ?_⟩
    have g := HK.out.grow
    have b3 := HB3.out
    exact ⟨g.os.trans b3.os, g.tape.trans b3.tape, g.output.trans b3.output, Nat.le_trans b3.size g.size, fun i hi => (g.block i (Nat.lt_of_lt_of_le hi b3.size) (by omega) (fun e => by cases e)).trans (b3.block i hi)⟩)
   clear HK ca cE hlt
   go_wp2_with fail
   go_ret
   exact HE.out
end Go.Proofs.YtcbpbkefggekmaaGreatDoor
namespace Go.Proofs.YtcbpbkefggekmaaGreatDoor.Rk
open Qs
open Go.RowKit
open Sha Tal
theorem _root_.Go.Proofs.YtcbpbkefggekmaaGreatDoor.Qs.KeysAt.apart {w : World} {p : Option Addr} {ds : List (List Int)} (h : KeysAt w p ds) (X : Nat) (s : ByteArray) (hX : w.cell? ⟨X, 0, none⟩ = some (.string s)) (vs : List Value) : KeysAt (w.setCells X 0 vs) p ds := by
  rcases h with h | ⟨K, a, cap, rfl, hK, hc, hl, hd, hr⟩
  · exact .inl h
  · have hKX : K ≠ X := fun e => by subst e; rw [hc] at hX; cases hX
    have hcK : w.rangeAt K 0 [.slice a ds.length cap] := fun j v hv => by
      cases j with
      | zero => simp at hv; subst hv; exact hc
      | succ j => simp at hv
    have hc' := World.rangeAt_setCells_apart hcK X 0 vs (.inl hKX) 0 _ rfl
    refine .inr ⟨K, a, cap, rfl, by rw [size_sets]; exact hK, hc', hl, hd, ?_⟩
    rcases hr with hr | ⟨D, rfl, hD, hr⟩
    · exact .inl hr
    · by_cases hz : ds = []
      · exact .inl hz
      · refine .inr ⟨D, rfl, by rw [size_sets]; exact hD, fun i d hi => ?_⟩
        have hDX : D ≠ X := fun e => by
          subst e
          obtain ⟨d0, dr, rfl⟩ := List.exists_cons_of_ne_nil hz
          have h0 := hr 0 d0 rfl
          obtain ⟨l0, _⟩ := hd d0 (List.mem_cons_self ..)
          have hc0 := get8 h0 (i := 0) (by omega)
          simp only [Nat.zero_mul, Nat.add_zero] at hc0
          rw [hc0] at hX
          cases hX
        exact World.rangeAt_setCells_apart (hr i d hi) X 0 vs (.inl hDX)
def seedR : ByteArray := { data := #[114] }
def rkL : List Value := [.string seedR, .int .i64 72]
theorem iszK : (Tryz.prog.info? 29).map (·.size) = some 2 := by kernel_rfl
set_option maxRecDepth 100000 in
set_option maxHeartbeats 2000000 in
theorem keys6_any (w : World) (hG : Glob w) :
   Calls Tryz.prog 9 #[] w fun e w' => ∃ p, e = .returned (.tuple #[.pointer p, .agg rkL.toArray]) ∧ p ≠ none ∧ KeysAt w' p (keysOf seedR 72) ∧ Below w.heap.size w w' := by
  have cr := fun w0 => refDerive_yes seedR 72 w0 (by omega) (by omega) (by decide)
  have hB1 : Below w.heap.size w (w.alloc (.cells #[.string ⟨#[]⟩, .int .i64 0] 29)) := (Below.refl _ _).alloc (Nat.le_refl _) _
  have hc1 : (w.alloc (.cells #[.string ⟨#[]⟩, .int .i64 0] 29)).cell? ⟨w.heap.size, 0, none⟩ = some (.string ⟨#[]⟩) := range_new w #[.string ⟨#[]⟩, .int .i64 0] 29 0 _ rfl
  have hT1 := there_new w #[.string ⟨#[]⟩, .int .i64 0] 29
  have hz1 : w.heap.size < (w.alloc (.cells #[.string ⟨#[]⟩, .int .i64 0] 29)).heap.size := by simp
  go_enter Tryz.func9, Tryz.ntmps9
  go_upto_region 1 with fail
  go_name_world w1 hw1
  rw [hw1] at hB1 hc1 hT1 hz1
  clear hw1
  have c1 := cr w1
  unfold seedR at c1
  go_wp2_with fail
  refine c1.mono ?_
  rintro e w2 ⟨rfl, hw2⟩
  have hB2 := hB1.trans (hw2.mono hB1.size)
  have hc2 := (hw2.cell (p := ⟨w.heap.size, 0, none⟩) hz1).trans hc1
  have hT2 := there_below hT1 hw2 hz1
  have hz2 := Nat.lt_of_lt_of_le hz1 hw2.size
  clear c1 cr hB1 hc1 hT1 hz1 hw2
  have hQ3 : (w2.alloc (.cells #[.string ⟨#[114]⟩, .int .i64 72] 29)).rangeAt w2.heap.size 0 [.string ⟨#[114]⟩, .int .i64 72] := range_new w2 #[.string ⟨#[114]⟩, .int .i64 72] 29
  have hF3 : Below w2.heap.size w2 (w2.alloc (.cells #[.string ⟨#[114]⟩, .int .i64 72] 29)) := (Below.refl _ _).alloc (Nat.le_refl _) _
  have hz3' : w2.heap.size < (w2.alloc (.cells #[.string ⟨#[114]⟩, .int .i64 72] 29)).heap.size := by simp
  go_upto_region 2 with fail
  go_name_world w3 hw3
  rw [hw3] at hQ3 hF3 hz3'
  have hz3 : w2.heap.size < w3.heap.size := by omega
  have hB3 := hB2.trans (hF3.mono hB2.size)
  have hc3 := (hF3.cell (p := ⟨w.heap.size, 0, none⟩) hz2).trans hc2
  have hT3 := there_below hT2 hF3 hz2
  have hzz3 := Nat.lt_of_lt_of_le hz2 hF3.size
  have hne : w2.heap.size ≠ w.heap.size := by omega
  clear hw3 hB2 hc2 hT2 hz2 hz3' hF3
  obtain ⟨X2, hX2⟩ : ∃ X, w2.heap.size = X := ⟨_, rfl⟩
  rw [hX2] at hQ3 hz3 hne ⊢
  clear hX2
  try simp only [Act.put]
  have hB4 := hB3.drew
  have hQ4 : w3.drew.rangeAt X2 0 [.string ⟨#[114]⟩, .int .i64 72] := (World.rangeAt_drew _ _ _ _).2 hQ3
  have hc4 : w3.drew.cell? ⟨w.heap.size, 0, none⟩ = some (.string ⟨#[]⟩) := hc3
  have hT4 : w3.drew.there w.heap.size 0 2 := (World.there_drew _ _ _ _).2 hT3
  have hz4 : X2 < w3.drew.heap.size := hz3
  have hzz4 : w.heap.size < w3.drew.heap.size := hzz3
  clear hB3 hQ3 hc3 hT3 hz3 hzz3
  obtain ⟨X, hX⟩ : ∃ X, Hid (w.heap.size = X) := ⟨_, hide rfl⟩
  rw [hX.out] at hc4 hT4 hzz4 hne ⊢
  obtain ⟨w5, hw5⟩ : ∃ w5, w3.drew = w5 := ⟨_, rfl⟩
  rw [hw5] at hB4 hQ4 hc4 hT4 hz4 hzz4
  refine hs_begin (S := (fun W : World => W.rangeAt X2 0 [.string ⟨#[114]⟩, .int .i64 72] ∧ Below w.heap.size w W)) 4 rfl (by kernel_rfl) ?_
  rw [hw5]
  clear hw5
  have hS : (fun W : World => W.rangeAt X2 0 [.string ⟨#[114]⟩, .int .i64 72] ∧ Below w.heap.size w W) w5 := ⟨hQ4, hB4⟩
  refine hs_t 1 9 (.agg #[.string ⟨#[114]⟩, .int .i64 72]) rfl (by kernel_rfl) (by kernel_rfl) (by kernel_rfl) (by rfl) (fun w' hw => exec_load rfl rfl (run_loadVar_mid (P := Tryz.prog) w' X2 0 29 [.string ⟨#[114]⟩, .int .i64 72] _ hw.1 Tryz.underlying29 rfl iszK)) hS rfl ?_
  simp only [nz]
  have cd := derive_yes seedR 72 w5 (hG.below hB4) (by omega) (by omega) (by decide)
  refine hs_call (i := 0) (d := some 8) rfl (by kernel_rfl) (by rfl) (by go_simp; first | done | exact ⟨rfl, rfl⟩ | with_reducible rfl) rfl ?_
  refine (cd).mono ?_
  rintro e' w6 ⟨p, rfl, hp, hk, hw6⟩
  have hS : (fun W : World => W.rangeAt X2 0 [.string ⟨#[114]⟩, .int .i64 72] ∧ Below w.heap.size w W) w6 := ⟨range_below hS.1 hw6 hz4, hS.2.trans (hw6.mono hS.2.size)⟩
  refine ⟨_, rfl, hS, ?_⟩
  simp only [nz]
  have hc6 := (hw6.cell (p := ⟨X, 0, none⟩) hzz4).trans hc4
  have hT6 := there_below hT4 hw6 hzz4
  have hk7 := hk.apart X _ hc6 [.string ⟨#[114]⟩, .int .i64 72]
  have hB7 : Below w.heap.size w (w6.setCells X 0 [.string ⟨#[114]⟩, .int .i64 72]) := below_sets (by rw [hX.out]; omega) _ 0 w6 hS.2
  have hrs := run_loadVar_mid (P := Tryz.prog) (w6.setCells X 0 [.string ⟨#[114]⟩, .int .i64 72]) X 0 29 [.string ⟨#[114]⟩, .int .i64 72] _ (World.rangeAt_setCells_same w6 X 0 [.string ⟨#[114]⟩, .int .i64 72] hT6) Tryz.underlying29 rfl iszK
  have hst := run_storeVar_mid (P := Tryz.prog) w6 X 0 29 #[.string ⟨#[114]⟩, .int .i64 72] hT6 iszK (by simp [Value.oneCell'])
  clear cd hk hw6
  refine hs_t 2 0 (?_) rfl (by kernel_rfl) (by kernel_rfl) (by kernel_rfl) (by rfl) ?_ hS rfl ?_
  rotate_left
  · intro w' hw
    go_simp
    try with_reducible rfl
  simp only [Act.put, List.setIfInBounds_toArray, List.set_cons_zero]
  refine hs_store (i := 3) (w' := (w6.setCells X 0 [.string ⟨#[114]⟩, .int .i64 72])) rfl (by kernel_rfl) (by rfl) (exec_store rfl rfl rfl hst) rfl ⟨World.rangeAt_setCells_apart hS.1 X 0 _ (.inl hne), hB7⟩ ?_
  refine hs_done (by kernel_rfl) ?_
  go_wp2_with fail
  exact bodyPost_ret (v := .tuple #[.pointer p, .agg #[.string ⟨#[114]⟩, .int .i64 72]]) (by simp [results, Tryz.results9, asAddr, hrs]) rfl ⟨p, rfl, hp, hk7, hB7⟩
end Go.Proofs.YtcbpbkefggekmaaGreatDoor.Rk
namespace Go.Proofs.YtcbpbkefggekmaaGreatDoor.Qs
open Go.RowKit
open Sha Tal
set_option maxRecDepth 20000 in
set_option maxHeartbeats 1000000 in
theorem kcheck_any (p : Option Addr) (ds : List (List Int)) (id : Int) (body : ByteArray) (t : List Int) (w : World) (hG : Glob w) (h : KeysAt w p ds) (hb : ds = [] ∨ body.size ≤ 100000) (ht : t.length = 16) :
  Calls Tryz.prog 25 #[.pointer p, .int .i64 id, .string body, .agg (v8 t).toArray] w fun e w' => e = .returned (.bool (checkOf (signOf ds id body) t)) ∧ Below w.heap.size w w' := by
 have hB0 : Below w.heap.size w (w.alloc (.cells (v8 t).toArray 23)) := (Below.refl _ _).alloc (Nat.le_refl _) _
 have hR0 := box_range w t 23
 have cs := ksign_any p ds id body _ (hG.below hB0) (h.below hB0) hb
 have hl := signOf_length ds id body
 unfold checkOf
 obtain ⟨r, hr⟩ : ∃ r, Hid ((signOf ds id body).1 = r) := ⟨_, hide rfl⟩
 obtain ⟨x, hx⟩ : ∃ x, Hid ((signOf ds id body).2 = x) := ⟨_, hide rfl⟩
 rw [hr.out, hx.out] at cs ⊢
 rw [hr.out] at hl
 obtain ⟨ct, hct⟩ : ∃ ct, Hid (v8 t = ct) := ⟨_, hide rfl⟩
 have hcl : ct.length = 16 := by rw [← hct.out, v8_length, ht]
 have heq := eql16 r t hl ht
 rw [hct.out] at hB0 hR0 cs heq ⊢
 clear hb
 go_enter Tryz.func25, Tryz.ntmps25
 go_wp2_with fail
 refine cs.mono ?_
 rintro e w1 ⟨rfl, hw1⟩
 clear cs
 have hB1 := hB0.trans (hw1.mono hB0.size)
 have hs1 := hw1.size
 simp only [World.size_alloc] at hs1
 have hR1 := range_below hR0 hw1 (by simp)
 have F := fresh_store w1 (Array.replicate 16 (.int .u8 0)) 23 (v8 r) (by rw [v8_length, hl]; rfl)
 have hN : (w1.alloc (.cells (Array.replicate 16 (.int .u8 0)) 23)).there w1.heap.size 0 (v8 r).toArray.size := by
  have e : (v8 r).toArray.size = 16 := by rw [List.size_toArray, v8_length, hl]
  rw [e]; exact (new_bytes w1 16 23).2
 have hi := info16 r hl
 have h1c := all_oneCell_toArray (v8_one r)
 go_upto_region 2 with (refine wpList_store_mid (op := ⟨none, .store 23 (.tmp 9) (.tmp 16), _, _, _, none⟩) rfl 23 _ _ rfl _ _ (v8 r).toArray rfl rfl hN hi h1c ?_)
 go_name_world w4 hw4
 rw [show (w1.alloc (.cells (Array.replicate 16 (.int .u8 0)) 23)).setCells w1.heap.size 0 (v8 r) = w4 from hw4] at F
 obtain ⟨hR4, hB4', hz4', _⟩ := F
 have hz4 : w1.heap.size < w4.heap.size := by omega
 clear hz4' hw4 hN h1c hw1 hR0
 have hB4 := hB1.trans (hB4'.mono hB1.size)
 have hR1' := range_below hR1 hB4' (by omega)
 have hl16 : (Tryz.prog.info? 23).map (·.size) = some (v8 r).length := by simpa using hi
 have hl16' : (Tryz.prog.info? 23).map (·.size) = some ct.length := by rw [hcl]; exact iszT
 try simp only [Act.put]
 clear hi
 clear hR1 hB4' hct
 by_cases hx0 : x = 0
 ·subst hx0
  refine wp_region_list ?_
  refine wpList_plain rfl fun K hK => ?_
  go_simp
  refine hK _ _ ?_
  clear hK K
  refine wpList_plain rfl fun K hK => ?_
  go_simp
  refine hK _ _ ?_
  clear hK K
  refine wpList_plain rfl fun K hK => ?_
  go_simp
  refine hK _ _ ?_
  clear hK K
  refine wpList_load_g (by rfl) 23 _ rfl _ _ rfl (v8 r) _ hR4 Tryz.underlying23 rfl hl16 ?_
  refine wpList_load_g (by rfl) 23 _ rfl _ _ rfl ct _ hR1' Tryz.underlying23 rfl hl16' ?_
  go_wp2
  go_ret
  exact ⟨by simp, hB4⟩
 ·have hx1 : (x == 0) = false := by simpa using hx0
  go_wp2
  go_ret
  exact ⟨by simp [hx0], hB4⟩
end Go.Proofs.YtcbpbkefggekmaaGreatDoor.Qs
