/- A reader reads a number: Num.; slices.Clone over bytes, and Read.; A reader reads a text: next, Text.; What was read, put again; Left.; The document's reader: n -/
import Derived.Test.YtnfijfnnpbenfaaGreatDoorJT2
import Derived.Test.YtnfijfnnpbenfaaGreatDoorJT3
import Derived.Test.YtnfijfnnpbenfaaGreatDoorJT4
import Derived.BigQuiet
import Derived.Lib.ConvBytes
import Derived.Laws.ResultCell
import Derived.Test.YtnfijfnnpbenfaaGreatDoorJT1
import Derived.Test.YtnfijfnnpbenfaaGreatDoorProg
import Derived.WalkKit
import Derived.WalkSpells
import Derived.WalkLawsBesides
import Derived.Below
import Derived.Deep.OwnRows
import Derived.ProofKit
import Derived.OpenShut
import Derived.ShutString
import Derived.ChangeOld
import Derived.RangeFuncBox
import Derived.RangeFuncLeaves
import Derived.RangeFuncCalls
import Derived.Shelf.Abstract
import Derived.Shelf.RegionOpen
import Derived.OwnWalkIn
import Derived.TacticsInMore
import Derived.LoopNIn
import Derived.LoopIn
import Derived.Maps.AppendAt
import Derived.Deep.AppendSrc
import Derived.Deep.QuietTactic
import Derived.Deep.RegionHeld3
import Derived.Deep.MidRow
namespace Go.Proofs.YtnfijfnnpbenfaaGreatDoor
open Go.RowKit
open Sha Tal
def numS (rest : List Int) (e most : Int) : Int × List Int × Int :=
 if e = 0 then
  if (numR rest).2.2 = 0 then
   if most < (numR rest).1 then (0, rest, 3) else ((numR rest).1, rest.drop (numR rest).2.1, 0)
  else (0, rest, (numR rest).2.2)
 else (0, rest, e)
set_option maxHeartbeats 1600000 in
theorem num_any (R : Nat) (rest : List Int) (e most : Int) (w : World) (h : St w R rest e) :
  Calls Tryz.prog 106 #[.pointer (some ⟨R, 0, none⟩), .int .i64 most] w fun en w' => en = .returned (.int .i64 (numS rest e most).1) ∧ St w' R (numS rest e most).2.1 (numS rest e most).2.2 ∧ w.grownBy w' (some R) := by
 obtain ⟨hE, hR⟩ := h
 by_cases he : e = 0
 ·subst he
  have hR := hR rfl
  have cn := number_any R 0 rest w hE hR
  have HS : Hid (numS rest 0 most = if (numR rest).2.2 = 0 then (if most < (numR rest).1 then (0, rest, 3) else ((numR rest).1, rest.drop (numR rest).2.1, 0)) else (0, rest, (numR rest).2.2)) := by show _ = _; simp [numS]
  generalize (numR rest).1 = v at *
  generalize (numR rest).2.1 = c at *
  generalize (numR rest).2.2 = er at *
  by_cases her : er = 0
  ·subst her
   rw [if_pos rfl] at HS
   by_cases hmost : most < v
   ·rw [if_pos hmost] at HS
    go_enter Tryz.func106, Tryz.ntmps106
    go_wp2_with fail
    refine (err_made R 0 w hE).mono ?_
    rintro e w1 ⟨rfl, rfl⟩
    go_wp2_with fail
    refine cn.mono ?_
    rintro e w2 ⟨rfl, hE2, hg2, hR2⟩
    go_wp2_with fail
    refine (fail_any R 0 3 w2 hE2).mono ?_
    rintro e w3 ⟨rfl, hE3, hg3⟩
    go_wp2_with fail
    go_ret
    rw [HS.out]
    exact ⟨rfl, ⟨hE3, fun h => by cases h⟩, gb_trans hg2 hg3⟩
   ·rw [if_neg hmost] at HS
    go_enter Tryz.func106, Tryz.ntmps106
    go_wp2_with fail
    refine (err_made R 0 w hE).mono ?_
    rintro e w1 ⟨rfl, rfl⟩
    go_wp2_with fail
    refine cn.mono ?_
    rintro e w2 ⟨rfl, hE2, hg2, hR2⟩
    have hR3 := hR2 (by trivial)
    clear hR2 cn
    go_wp2_with fail
    go_ret
    rw [HS.out]
    exact ⟨rfl, ⟨hE2, fun _ => hR3⟩, hg2⟩
  ·have her' : (er == 0) = false := by simpa using her
   rw [if_neg her] at HS
   go_enter Tryz.func106, Tryz.ntmps106
   go_wp2_with fail
   refine (err_made R 0 w hE).mono ?_
   rintro e w1 ⟨rfl, rfl⟩
   go_wp2_with fail
   refine cn.mono ?_
   rintro e w2 ⟨rfl, hE2, hg2, hR2⟩
   clear hR2 cn
   go_wp2_with fail
   refine (fail_any R 0 er w2 hE2).mono ?_
   rintro e w3 ⟨rfl, hE3, hg3⟩
   go_wp2_with fail
   go_ret
   rw [HS.out]
   exact ⟨rfl, ⟨hE3, fun h => absurd h her⟩, gb_trans hg2 hg3⟩
 ·have HS : Hid (numS rest e most = (0, rest, e)) := by show _ = _; simp [numS, he]
  have he' : (e == 0) = false := by simpa using he
  go_enter Tryz.func106, Tryz.ntmps106
  go_wp2_with fail
  refine (err_made R e w hE).mono ?_
  rintro en w1 ⟨rfl, rfl⟩
  go_wp2_with fail
  go_ret
  rw [HS.out]
  exact ⟨rfl, ⟨hE, fun h => absurd h he⟩, gb_refl _ _⟩
theorem RowAt.none_nil {w : World} {zs : List Int} (h : RowAt w none zs) : zs = [] := by
 rcases h.2.2 with h | ⟨b, off, hx, _⟩
 ·exact h
 ·cases hx
set_option maxHeartbeats 800000 in
theorem clone_any (a : Option Addr) (cap : Nat) (zs : List Int) (w : World) (h : RowAt w a zs) (hm : zs.length ≤ 549755813888) :
  Calls Tryz.prog 105 #[.slice a zs.length cap] w fun e w' => ∃ v, e = .returned v ∧ Mine w' w.heap.size v zs ∧ Below w.heap.size w w' := by
 obtain ⟨i0, hi, hz0, hz1, hz2⟩ := info_parts info8
 cases a with
 | none =>
  obtain rfl := h.none_nil
  have hn := fun w => Lib.run_eql_slice_nil (P := Tryz.prog) w 57 5 none 0 cap 0 0 Tryz.underlying57
  go_enter Tryz.func105, Tryz.ntmps105
  go_wp2
  go_ret
  exact ⟨_, rfl, ⟨World.ownsRow_nil _ _ _ _, by simp⟩, Below.refl _ _⟩
 | some x =>
  have hn := fun w => Lib.run_eql_slice_nil (P := Tryz.prog) w 57 5 (some x) zs.length cap 0 0 Tryz.underlying57
  go_enter Tryz.func105, Tryz.ntmps105
  go_wp2_with (at_builtin; refine wpList_append_own_src _ rfl _ _ 57 57 rfl w.heap.size 5 i0 (.int .u8 0) 1 1 Tryz.underlying57 hi hz0 hz1 hz2 rfl _ 0 [] rfl (World.ownsRow_made w #[] 0 (Nat.le_refl _) (by simp) (by simp)) (.slice (some x) zs.length cap) zs.length (zs.map (Value.int .u8)) rfl ((h.below ((Below.refl _ _).alloc (Nat.le_refl _) _)).src cap) ?c1 ?c2 ?c3 ?_)
  case c1 => unfold maxLen; omega
  case c2 => omega
  case c3 => simp
  intro v' w1 hown hgrow
  have hb1 : Below w.heap.size w w1 := ((Below.refl _ _).alloc (Nat.le_refl _) _).grown hgrow (by simp) (fun k hk => by simp [Value.ownBlock] at hk; omega)
  go_wp2
  go_ret
  exact ⟨_, rfl, ⟨by simpa using hown, h.2.1⟩, hb1⟩
set_option maxHeartbeats 800000 in
theorem read_any (a : Option Addr) (cap : Nat) (zs : List Int) (w : World) (h : RowAt w a zs) (hm : zs.length ≤ 549755813888) :
  Calls Tryz.prog 68 #[.slice a zs.length cap] w fun e w' => ∃ R, e = .returned (.pointer (some ⟨R, 0, none⟩)) ∧ w.heap.size ≤ R ∧ St w' R zs 0 ∧ Below w.heap.size w w' := by
 go_enter Tryz.func68, Tryz.ntmps68
 go_wp2_with fail
 refine (clone_any a cap zs w h hm).mono ?_
 rintro e w1 ⟨v, rfl, hmine, hb⟩
 obtain ⟨a', cap', rfl, hc1, hc2, hr⟩ := hmine.rowAt (by unfold maxLen; omega)
 have hblk : ∀ x, a' = some x → x.block < w1.heap.size := fun x hx => (hmine.1.lt x.block (by simp [hx, Value.ownBlock])).2
 have hb2 : Below w1.heap.size w1 (w1.alloc (.cells #[.slice a' zs.length cap', .bool true, .int .i64 0] 170)) := (Below.refl _ _).alloc (Nat.le_refl _) _
 have hSt : St (w1.alloc (.cells #[.slice a' zs.length cap', .bool true, .int .i64 0] 170)) w1.heap.size zs 0 := by
  have cs : ∀ j, (w1.alloc (.cells #[.slice a' zs.length cap', .bool true, .int .i64 0] 170)).cell? ⟨w1.heap.size, j, none⟩ = (#[.slice a' zs.length cap', .bool true, .int .i64 0] : Array Value)[j]? := fun j => World.cell?_alloc_at _ _ _ _ rfl
  have fs : ∀ j, (w1.alloc (.cells #[.slice a' zs.length cap', .bool true, .int .i64 0] 170)).frozen? ⟨w1.heap.size, j, none⟩ = false := fun j => World.frozen?_alloc_at _ _ _ _ rfl
  exact ⟨⟨by simp, ⟨a', zs.length, cap', cs 0⟩, cs 1, cs 2, fs 0, fs 1, fs 2⟩, fun _ => ⟨a', cap', cs 0, hc1, hc2, hr.below hb2, hblk⟩⟩
 go_wp2_with fail
 go_ret
 exact ⟨_, rfl, hb.size, hSt, hb.trans (hb2.mono hb.size)⟩
set_option maxHeartbeats 800000 in
theorem next_few (R : Nat) (rest : List Int) (n : Int) (w : World) (h : St w R rest 0) (hn : (rest.length : Int) < n) :
  Calls Tryz.prog 147 #[.pointer (some ⟨R, 0, none⟩), .int .i64 n] w fun en w' => en = .returned (.slice none 0 0) ∧ St w' R rest 10 ∧ w.grownBy w' (some R) := by
 obtain ⟨hE, hR⟩ := h
 obtain ⟨a, cap, h0, hc, hm, hrow, hne⟩ := hR rfl
 go_enter Tryz.func147, Tryz.ntmps147
 go_wp2_with fail
 refine (left_any R a rest.length cap w h0).mono ?_
 rintro en w1 ⟨rfl, rfl⟩
 go_wp2_with fail
 refine (fail_any R 0 10 w1 hE).mono ?_
 rintro en w2 ⟨rfl, hE2, hg2⟩
 go_wp2_with fail
 go_ret
 exact ⟨rfl, ⟨hE2, fun h => by cases h⟩, hg2⟩
set_option maxHeartbeats 800000 in
theorem next_there (R : Nat) (rest : List Int) (n : Int) (w : World) (h : St w R rest 0) (hn0 : 0 ≤ n) (hn : n ≤ (rest.length : Int)) :
  Calls Tryz.prog 147 #[.pointer (some ⟨R, 0, none⟩), .int .i64 n] w fun en w' => ∃ a cap, en = .returned (.slice a n.toNat cap) ∧ n.toNat ≤ cap ∧ RowAt w' a (rest.take n.toNat) ∧ St w' R (rest.drop n.toNat) 0 ∧ w.grownBy w' (some R) := by
 obtain ⟨hE, hR⟩ := h
 obtain ⟨a, cap, h0, hc, hm, hrow, hlt⟩ := hR rfl
 have hne := lt_ne hlt
 obtain ⟨q, hq⟩ : ∃ q : Nat, n.toNat = q := ⟨_, rfl⟩
 have hqn : (q : Int) = n := by omega
 rw [hq]
 have ct := take_any R a q rest.length cap w h0 hE.2.2.2.2.1 (by omega) hc hm
 rw [hqn] at ct
 have hE2 := hE.set0 (cutA a cap q) (rest.length - q) (cap - q)
 have hg2 := gb_set w R 0 (.slice (cutA a cap q) (rest.length - q) (cap - q))
 have hr2 := (hrow.take q).gb hg2 (.inr hne)
 have h02 : (w.setCell ⟨R, 0, none⟩ (.slice (cutA a cap q) (rest.length - q) (cap - q))).cell? ⟨R, 0, none⟩ = some (.slice (cutA a cap q) (rest.length - q) (cap - q)) := World.cell?_setCell_same _ _ _ h0
 have hRest : Rest (w.setCell ⟨R, 0, none⟩ (.slice (cutA a cap q) (rest.length - q) (cap - q))) R (rest.drop q) :=
  ⟨cutA a cap q, cap - q, by rw [List.length_drop]; exact h02, by rw [List.length_drop]; omega, by omega, (hrow.drop q cap (by omega) hc).gb hg2 (.inr (cutA_ne hne)), cutA_lt hlt⟩
 have hqc : q ≤ cap := by omega
 generalize w.setCell ⟨R, 0, none⟩ (.slice (cutA a cap q) (rest.length - q) (cap - q)) = W2 at *
 have hnn : ¬ ((rest.length : Int) < n) := by omega
 clear hq hqn
 go_enter Tryz.func147, Tryz.ntmps147
 go_wp2_with fail
 refine (left_any R a rest.length cap w h0).mono ?_
 rintro en w1 ⟨rfl, rfl⟩
 go_wp2_with fail
 refine ct.mono ?_
 rintro en w2 ⟨rfl, rfl⟩
 go_wp2_with fail
 go_ret
 exact ⟨a, cap, rfl, hqc, hr2, ⟨hE2, fun _ => hRest⟩, hg2⟩
namespace Tal
theorem digs_val (ds : List Int) (hz : ∀ z ∈ ds, 0 ≤ z ∧ z < 256) (hh : ds.head? ≠ some 0) (hv : val ds ≤ 9223372036854775807) : digs (val ds).toNat = ds := by
  have key : ∀ k, k ≤ ds.length → val (ds.take k) ≤ 9223372036854775807 → digs (val (ds.take k)).toNat = ds.take k := by
    intro k
    induction k with
    | zero => intro _ _; simp [val, digs_zero]
    | succ k ih =>
      intro hk hle
      have hlt : k < ds.length := by omega
      have e := val_take ds k hlt
      have hb := val_bound (ds.take k) (fun z h => hz z (List.mem_of_mem_take h))
      have hd : 0 ≤ ds.getD k 0 ∧ ds.getD k 0 < 256 := by
        rw [List.getD_eq_getElem?_getD, List.getElem?_eq_getElem hlt]; exact hz _ (List.getElem_mem hlt)
      have hi := ih (by omega) (by omega)
      have hpos : 0 < val (ds.take (k + 1)) := by
        by_cases h0 : k = 0
        · subst h0
          have : val (ds.take 0) = 0 := by simp [val]
          rw [e, this]
          cases ds with
          | nil => simp at hlt
          | cons x tl => simp at hh hd ⊢; omega
        · have : 0 < val (ds.take k) := by
            rcases Int.lt_or_eq_of_le hb.1 with h | h
            · exact h
            · rw [← h] at hi
              have hl := congrArg List.length hi
              rw [List.length_take_of_le (by omega)] at hl
              have : (digs (0 : Int).toNat).length = 0 := by decide
              omega
          omega
      have ht : ds.take (k + 1) = ds.take k ++ [ds.getD k 0] := by
        rw [List.take_succ_eq_append_getElem hlt, List.getD_eq_getElem?_getD, List.getElem?_eq_getElem hlt]; rfl
      have e1 : (val (ds.take (k + 1))).toNat / 256 = (val (ds.take k)).toNat := by omega
      have e2 : ((((val (ds.take (k + 1))).toNat % 256 : Nat)) : Int) = ds.getD k 0 := by omega
      rw [digs_succ _ (by omega) (by omega), e1, e2, hi, ht]
  have := key ds.length (Nat.le_refl _)
  rw [List.take_length] at this
  exact this hv
theorem numR_form (zs : List Int) (hz : ∀ z ∈ zs, 0 ≤ z ∧ z < 256) (h : (numR zs).2.2 = 0) :
    putL (numR zs).1 = zs.take (numR zs).2.1 ∧ (numR zs).2.1 ≤ zs.length ∧ 0 ≤ (numR zs).1 ∧ (numR zs).1 ≤ 9223372036854775807 := by
  cases zs with
  | nil => simp [numR] at h
  | cons k tl =>
    have hk := hz k (by simp)
    by_cases h8 : 8 < k
    · simp [numR, h8] at h
    · by_cases hl : (tl.length : Int) < k
      · simp [numR, h8, hl] at h
      · by_cases hv : (valR (tl.take k.toNat)).2 = 0
        · have e : numR (k :: tl) = ((valR (tl.take k.toNat)).1, 1 + k.toNat, 0) := by simp only [numR, if_neg h8, if_neg hl, if_pos hv]
          rw [e]
          have hds : ∀ z ∈ tl.take k.toNat, 0 ≤ z ∧ z < 256 := fun z h => hz z (by simp [List.mem_of_mem_take h])
          have hb := val_bound _ hds
          have hnot : ¬ ((tl.take k.toNat).head? = some 0 ∨ 9223372036854775807 < val (tl.take k.toNat)) := by
            intro hc; unfold valR at hv; rw [if_pos hc] at hv; cases hv
          have e1 : (valR (tl.take k.toNat)).1 = val (tl.take k.toNat) := by unfold valR; rw [if_neg hnot]
          have hlen : (tl.take k.toNat).length = k.toNat := List.length_take_of_le (by omega)
          have hd := digs_val (tl.take k.toNat) hds (fun h => hnot (Or.inl h)) (by omega)
          have hw : (wid (val (tl.take k.toNat)).toNat : Int) = k := by
            rw [← digs_length, hd, hlen]; omega
          simp only [e1]
          refine ⟨?_, by simp; omega, hb.1, by omega⟩
          unfold putL
          rw [if_neg (by omega), numB, hd, hw, Nat.add_comm]
          rfl
        · simp only [numR, if_neg h8, if_neg hl, if_neg hv] at h
          exact absurd h hv
end Tal
open Sha Tal
open Go.RowKit
variable {B : Nat}
def Rf (B : Nat) (w : World) (X : Nat) (zs : List Int) (p : Nat) (e : Int) : Prop :=
 X < w.heap.size ∧ (∃ a cap, w.cell? ⟨X, 0, none⟩ = some (.slice a zs.length cap) ∧ zs.length ≤ cap ∧ cap ≤ maxLen ∧ RowAt w a zs ∧ ∀ x, a = some x → B ≤ x.block ∧ x.block < X) ∧
 w.cell? ⟨X, 1, none⟩ = some (.int .i64 (p : Int)) ∧ w.cell? ⟨X, 2, none⟩ = some (.int .i64 e) ∧ w.frozen? ⟨X, 0, none⟩ = false ∧ w.frozen? ⟨X, 1, none⟩ = false ∧ w.frozen? ⟨X, 2, none⟩ = false ∧ p ≤ zs.length ∧ zs.length ≤ 40000
theorem suc_ne {a : Option Addr} {X : Nat} (h : ∀ x, a = some x → B ≤ x.block ∧ x.block < X) : ∀ x, a = some x → x.block ≠ X := fun x hx => Nat.ne_of_lt (h x hx).2
namespace Tal
theorem val_mono (ds : List Int) (hz : ∀ z ∈ ds, 0 ≤ z ∧ z < 256) (j : Nat) (hj : j ≤ ds.length) : val (ds.take j) ≤ val ds := by
  have : ∀ m, j + m ≤ ds.length → val (ds.take j) ≤ val (ds.take (j + m)) := by
    intro m
    induction m with
    | zero => intro _; exact Int.le_refl _
    | succ m ih =>
      intro hm
      have h1 := ih (by omega)
      have hlt : j + m < ds.length := by omega
      have e := val_take ds (j + m) hlt
      have hb := val_bound (ds.take (j + m)) (fun z h => hz z (List.mem_of_mem_take h))
      have hd : 0 ≤ ds.getD (j + m) 0 := by
        rw [List.getD_eq_getElem?_getD, List.getElem?_eq_getElem hlt]; exact (hz _ (List.getElem_mem hlt)).1
      rw [← Nat.add_assoc, e]
      omega
  have h := this (ds.length - j) (by omega)
  have e : j + (ds.length - j) = ds.length := by omega
  rw [e, List.take_length] at h
  exact h
theorem val8 (ds : List Int) (hz : ∀ z ∈ ds, 0 ≤ z ∧ z < 256) (hl : ds.length ≤ 8) : (9223372036854775807 < val ds) ↔ (ds.length = 8 ∧ 127 < ds.getD 0 0) := by
  cases ds with
  | nil => simp [val]
  | cons x tl =>
    have hx := hz x (by simp)
    have e : val (x :: tl) = x * 256 ^ tl.length + val tl := by
      have : ∀ (l : List Int) (a : Int), l.foldl (fun a d => a * 256 + d) a = a * 256 ^ l.length + val l := by
        intro l
        induction l with
        | nil => intro a; simp [val]
        | cons y l ih =>
          intro a
          simp only [List.foldl_cons, List.length_cons, val]
          rw [ih, ih (0 * 256 + y), Int.pow_succ]
          simp only [Int.zero_mul, Int.zero_add, Int.add_mul]
          rw [Int.mul_assoc, Int.mul_comm 256]
          omega
      have h := this tl (0 * 256 + x)
      simp only [val, List.foldl_cons]
      rw [h]; simp [val]
    have hb := val_bound tl (fun z h => hz z (by simp [h]))
    simp only [List.length_cons] at hl ⊢
    simp only [List.getD_cons_zero]
    rw [e]
    by_cases h7 : tl.length = 7
    · rw [h7] at hb ⊢
      omega
    · have h6 : tl.length ≤ 6 := by omega
      have hp : 256 ^ tl.length ≤ 281474976710656 := Nat.le_trans (Nat.pow_le_pow_right (by omega) h6) (by decide)
      have ep : ((256 ^ tl.length : Nat) : Int) = (256 : Int) ^ tl.length := Int.natCast_pow 256 _
      rw [← ep] at hb ⊢
      generalize 256 ^ tl.length = q at *
      have hm : x * (q : Int) ≤ 255 * q := Int.mul_le_mul_of_nonneg_right (by omega) (by omega)
      constructor
      · intro h; omega
      · intro h; omega
end Tal
theorem Rf.rest {w : World} {X : Nat} {zs : List Int} {p : Nat} {e : Int} (h : Rf B w X zs p e) : ∃ a cap, w.cell? ⟨X, 0, none⟩ = some (.slice a zs.length cap) ∧ zs.length ≤ cap ∧ cap ≤ maxLen ∧ RowAt w (cutA a cap p) (zs.drop p) := by
 obtain ⟨hX, ⟨a, cap, h0, hc, hm, hr, hne⟩, h1, h2, f0, f1, f2, hp, hl⟩ := h
 exact ⟨a, cap, h0, hc, hm, hr.drop p cap hp hc⟩
set_option maxHeartbeats 1600000 in
theorem refNumber_any (X : Nat) (zs : List Int) (p : Nat) (e : Int) (w : World) (h : Rf B w X zs p e) :
    Calls Tryz.prog 87 #[.pointer (some ⟨X, 0, none⟩)] w fun en w' => en = .returned (.tuple #[.int .i64 (numR (zs.drop p)).1, .int .i64 ((numR (zs.drop p)).2.1 : Int), .int .i64 (numR (zs.drop p)).2.2]) ∧ ∃ k, w' = w.drewN k := by
  obtain ⟨a, cap, h0, hc, hm, hr⟩ := h.rest
  obtain ⟨hX, _, h1, h2, f0, f1, f2, hp, hl⟩ := h
  unfold maxLen at hm
  have hlen : (zs.drop p).length = zs.length - p := List.length_drop ..
  by_cases hcp : cap = p
  · have hnil : zs.drop p = [] := List.drop_eq_nil_of_le (by omega)
    have hzp : zs.length = p := by omega
    have HN : Hid (numR (zs.drop p) = (0, 0, 10)) := by show _ = _; rw [hnil]; rfl
    subst hcp
    clear hnil hlen
    go_enter Tryz.func87, Tryz.ntmps87
    go_wp2_with fail
    go_quiet (fail)
    go_wp2_with fail
    go_ret3
    rw [HN.out]
    exact ⟨rfl, _, rfl⟩
  · have hA : cutA a cap p = a.map (fun x => x.add p) := by unfold cutA; rw [if_neg hcp]
    rw [hA] at hr
    clear hA
    generalize hAm : Option.map (fun x : Addr => x.add p) a = A at *
    generalize zs.drop p = rest at *
    have hlr : zs.length - p = rest.length := hlen.symm
    have hcap : rest.length ≤ cap - p := by omega
    clear hlen
    cases rest with
    | nil =>
      have hlr0 : zs.length - p = 0 := hlr
      clear hlr
      go_enter Tryz.func87, Tryz.ntmps87
      go_wp2_with fail
      go_quiet (fail)
      go_wp2_with fail
      go_ret3
      exact ⟨rfl, _, rfl⟩
    | cons k tl =>
      obtain ⟨b, off, rfl, hb, hcb, hk0, hk1⟩ := hr.get 0 (by simp)
      have hk : (k :: tl).getD 0 0 = k := rfl
      rw [hk] at hcb hk0 hk1
      clear hk
      have hlr1 : zs.length - p = tl.length + 1 := by simpa using hlr
      clear hlr
      have hcb' : w.cell? ⟨b, off, none⟩ = some (.int .u8 k) := by simpa using hcb
      clear hcb
      by_cases hk8 : 8 < k
      · have HN : Hid (numR (k :: tl) = (0, 0, 11)) := by show _ = _; simp [numR, hk8]
        go_enter Tryz.func87, Tryz.ntmps87
        go_wp2_with fail
        go_quiet (fail)
        go_wp2_with fail
        go_ret3
        rw [HN.out]
        exact ⟨rfl, _, rfl⟩
      · by_cases hkl : (tl.length : Int) < k
        · have HN : Hid (numR (k :: tl) = (0, 0, 10)) := by show _ = _; simp [numR, hk8, hkl]
          go_enter Tryz.func87, Tryz.ntmps87
          go_wp2_with fail
          go_quiet (fail)
          go_wp2_with fail
          go_ret3
          rw [HN.out]
          exact ⟨rfl, _, rfl⟩
        · obtain ⟨q, hqk⟩ : ∃ q : Nat, k.toNat = q := ⟨_, rfl⟩
          have hkq : (q : Int) = k := by omega
          have hq : q ≤ tl.length := by omega
          have hds : (tl.take q).length = q := List.length_take_of_le hq
          have hzd : ∀ z ∈ tl.take q, 0 ≤ z ∧ z < 256 := fun z hz => hr.2.1 z (by simp [List.mem_of_mem_take hz])
          have HC : Hid (∀ t, 1 ≤ t → t ≤ q → w.cell? ⟨b, off + t, none⟩ = some (.int .u8 ((tl.take q).getD (t - 1) 0))) := by
            show ∀ t, _
            intro t ht1 ht2
            obtain ⟨b', off', hx, _, hcx, _⟩ := hr.get t (by simp; omega)
            simp only [Option.some.injEq, Addr.mk.injEq] at hx
            obtain ⟨rfl, rfl, _⟩ := hx
            rw [hcx]
            obtain ⟨u, rfl⟩ : ∃ u, t = u + 1 := ⟨t - 1, by omega⟩
            simp only [List.getD_eq_getElem?_getD, List.getElem?_cons_succ, Nat.add_sub_cancel, List.getElem?_take]
            rw [if_pos (by omega)]
          have h8 := val8 (tl.take q) hzd (by omega)
          rw [hds] at h8
          have HN : Hid (numR (k :: tl) = if (valR (tl.take q)).2 = 0 then ((valR (tl.take q)).1, 1 + q, 0) else (0, 0, (valR (tl.take q)).2)) := by
            show _ = _
            simp only [numR, if_neg hk8, if_neg hkl, hqk]
          have HVT : Hid (∀ j, j < q → val ((tl.take q).take (j + 1)) = val ((tl.take q).take j) * 256 + (tl.take q).getD j 0 ∧ 0 ≤ val ((tl.take q).take j) ∧ val ((tl.take q).take (j + 1)) ≤ val (tl.take q) ∧ 0 ≤ (tl.take q).getD j 0 ∧ (tl.take q).getD j 0 < 256) := by
            show ∀ j, _
            intro j hj
            refine ⟨val_take _ j (by omega), ?_⟩
            have h1 := val_bound ((tl.take q).take j) (fun z hz' => hzd z (List.mem_of_mem_take hz'))
            refine ⟨h1.1, val_mono _ hzd (j + 1) (by omega), ?_⟩
            rw [List.getD_eq_getElem?_getD, List.getElem?_eq_getElem (by omega)]
            exact hzd _ (List.getElem_mem _)
          have HH : Hid (∀ d, 0 < q → (tl.take q).getD 0 0 = d → ((tl.take q).head? = some 0 ↔ d = 0)) := by
            show ∀ d, _
            intro d hq0 hd
            cases hc : tl.take q with
            | nil => rw [hc] at hds; simp at hds; omega
            | cons x r => rw [hc] at hd; simp at hd ⊢; rw [hd]
          have hvl := val_bound (tl.take q) hzd
          have HVF : Hid ((tl.take q).take q = tl.take q) := by show _ = _; rw [List.take_of_length_le (by omega)]
          generalize tl.take q = ds at *
          have HQ : Hid ((q : Int) = k) := hkq
          clear hqk hkq hr
          by_cases hq0 : q = 0
          · subst hq0
            have hk00 : k = 0 := HQ.out.symm
            have hd0 : ds = [] := List.eq_nil_of_length_eq_zero hds
            have HN0 : Hid (numR (k :: tl) = (0, 1, 0)) := by
              show _ = _
              rw [HN.out, hd0]; decide
            subst hk00
            clear hd0 hds h8 hvl HQ
            go_enter Tryz.func87, Tryz.ntmps87
            go_wp2_with fail
            go_quiet (fail)
            go_wp2_with fail
            refine wp_loop_rounds 1 ?_
            rw [rounds_succ]
            go_wp2_with fail
            go_ret3
            rw [HN0.out]
            exact ⟨rfl, _, rfl⟩
          · obtain ⟨d, HD, hcd⟩ : ∃ d, Hid (ds.getD 0 0 = d) ∧ w.cell? ⟨b, off + 1, none⟩ = some (.int .u8 d) := ⟨_, rfl, HC.out 1 (by omega) (by omega)⟩
            have hh := HH.out d (by omega) HD.out
            have hkpos : 0 < k := by have := HQ.out; omega
            have hl2 : (1 : Int) < tl.length + 1 := by omega
            by_cases hd0 : d = 0
            · subst hd0
              have HN0 : Hid (numR (k :: tl) = (0, 0, 11)) := by
                show _ = _
                rw [HN.out]
                have : valR ds = (0, 11) := by unfold valR; rw [if_pos (Or.inl (hh.2 rfl))]
                rw [this]; rfl
              clear hds h8 hvl hh
              go_enter Tryz.func87, Tryz.ntmps87
              go_wp2_with fail
              go_quiet (fail)
              go_wp2_with fail
              go_ret3
              rw [HN0.out]
              exact ⟨rfl, _, rfl⟩
            · have hd0' : (d == 0) = false := by simpa using hd0
              rw [HD.out] at h8
              by_cases hbad : k = 8 ∧ 127 < d
              · obtain ⟨rfl, hd127⟩ := hbad
                have HN0 : Hid (numR (8 :: tl) = (0, 0, 11)) := by
                  show _ = _
                  rw [HN.out]
                  have : valR ds = (0, 11) := by unfold valR; rw [if_pos (Or.inr (h8.2 ⟨by have := HQ.out; omega, hd127⟩))]
                  rw [this]; rfl
                clear hds h8 hvl hh
                go_enter Tryz.func87, Tryz.ntmps87
                go_wp2_with fail
                go_quiet (fail)
                go_wp2_with fail
                go_ret3
                rw [HN0.out]
                exact ⟨rfl, _, rfl⟩
              · have hvn : ¬ (9223372036854775807 < val ds) := fun hv => hbad ⟨by have := HQ.out; have := (h8.1 hv).1; omega, (h8.1 hv).2⟩
                have HN0 : Hid (numR (k :: tl) = (val ds, 1 + q, 0)) := by
                  show _ = _
                  rw [HN.out]
                  have : valR ds = (val ds, 0) := by unfold valR; rw [if_neg (fun hc => hc.elim (fun h => hd0 (hh.1 h)) hvn)]
                  rw [this]; rfl
                have hvv : val ds ≤ 9223372036854775807 := by omega
                clear hds h8 hh hvn
                have hdec : (k == 8) = false ∨ ((k == 8) = true ∧ ¬ 127 < d) := by
                  by_cases hk8' : k = 8
                  · exact Or.inr ⟨by simpa using hk8', fun h => hbad ⟨hk8', h⟩⟩
                  · exact Or.inl (by simpa using hk8')
                clear hbad
                rcases hdec with hdec | ⟨hdec, hd127⟩
                all_goals
                  go_enter Tryz.func87, Tryz.ntmps87
                  go_wp2_with fail
                  go_quiet (fail)
                  go_wp2_with fail
                  go_loop [7, 8] (fun n i => ∃ t : Nat, t ≤ q ∧ i = .int .i64 ((t : Int) + 1) ∧ n = .int .i64 (val (ds.take t))) (fun _ i => q + 1 - (intOf i).toNat)
                  case atStart => exact ⟨0, by omega, rfl, rfl⟩
                  case round =>
                    obtain ⟨t, ht, rfl, rfl⟩ := hrel
                    by_cases hlt : t < q
                    · obtain ⟨z, hcx, hz0, hz1, hx0, hx1, HV⟩ : ∃ z, w.cell? ⟨b, off + (t + 1), none⟩ = some (.int .u8 z) ∧ 0 ≤ z ∧ z < 256 ∧ 0 ≤ val (ds.take t) ∧ 256 * val (ds.take t) + z ≤ 9223372036854775807 ∧ Hid (val (ds.take (t + 1)) = 256 * val (ds.take t) + z) := by
                        obtain ⟨e1, e2, e3, e4, e5⟩ := HVT.out t hlt
                        exact ⟨_, HC.out (t + 1) (by omega) (by omega), e4, e5, e2, by simp only [Nat.add_sub_cancel] at *; omega, by show _ = _; rw [e1]; simp only [Nat.add_sub_cancel]; omega⟩
                      generalize val (ds.take t) = X at *
                      have ht1 : (t : Int) + 1 ≤ k := by have := HQ.out; omega
                      have ht2 : (t : Int) + 1 < tl.length + 1 := by omega
                      go_wp2_with fail
                      go_round
                      case rel => exact ⟨t + 1, by omega, by go_num, by rw [HV.out]⟩
                      case measure => simp [intOf]; omega
                    · have htq : t = q := by omega
                      subst htq
                      rw [HVF.out]
                      have ht1 : ¬ ((t : Int) + 1 ≤ k) := by have := HQ.out; omega
                      go_wp2_with fail
                      go_ret3
                      rw [HN0.out]
                      refine ⟨?_, _, rfl⟩
                      have e10 : ((1 + t : Nat) : Int) = 1 + k := by have := HQ.out; omega
                      simp only [e10]
                      exact rfl
open Go.RowKit
open Sha Tal
variable {B : Nat}
theorem gbz_drewN (w : World) (k : Nat) (r : Option Nat) : w.grownBy (w.drewN k) r := ⟨rfl, rfl, rfl, Nat.le_refl _, fun _ _ _ => rfl⟩
theorem Rf.drewN {w : World} {X : Nat} {zs : List Int} {p : Nat} {e : Int} (h : Rf B w X zs p e) (k : Nat) : Rf B (w.drewN k) X zs p e := by
 obtain ⟨hX, ⟨a, cap, h0, hc, hm, hr, hne⟩, h1, h2, f0, f1, f2, hp, hl⟩ := h
 refine ⟨by simpa using hX, ⟨a, cap, by simpa using h0, hc, hm, hr.gb (gbz_drewN w k (some X)) (.inr (suc_ne hne)), hne⟩, by simpa using h1, by simpa using h2, by simpa using f0, by simpa using f1, by simpa using f2, hp, hl⟩
theorem Rf.set2 {w : World} {X : Nat} {zs : List Int} {p : Nat} {e : Int} (h : Rf B w X zs p e) (e' : Int) : Rf B (w.setCell ⟨X, 2, none⟩ (.int .i64 e')) X zs p e' := by
 obtain ⟨hX, ⟨a, cap, h0, hc, hm, hr, hne⟩, h1, h2, f0, f1, f2, hp, hl⟩ := h
 exact ⟨by simpa [World.setCell] using hX, ⟨a, cap, (World.cell?_setCell_other _ _ _ _ (by simp)).trans h0, hc, hm, hr.gb (gb_set w X 2 _) (.inr (suc_ne hne)), hne⟩, (World.cell?_setCell_other _ _ _ _ (by simp)).trans h1, World.cell?_setCell_same _ _ _ h2,
  (World.frozen?_setCell _ _ _ _).trans f0, (World.frozen?_setCell _ _ _ _).trans f1, (World.frozen?_setCell _ _ _ _).trans f2, hp, hl⟩
theorem Rf.set1 {w : World} {X : Nat} {zs : List Int} {p : Nat} {e : Int} (h : Rf B w X zs p e) (p' : Nat) (hp' : p' ≤ zs.length) : Rf B (w.setCell ⟨X, 1, none⟩ (.int .i64 (p' : Int))) X zs p' e := by
 obtain ⟨hX, ⟨a, cap, h0, hc, hm, hr, hne⟩, h1, h2, f0, f1, f2, hp, hl⟩ := h
 exact ⟨by simpa [World.setCell] using hX, ⟨a, cap, (World.cell?_setCell_other _ _ _ _ (by simp)).trans h0, hc, hm, hr.gb (gb_set w X 1 _) (.inr (suc_ne hne)), hne⟩, World.cell?_setCell_same _ _ _ h1, (World.cell?_setCell_other _ _ _ _ (by simp)).trans h2,
  (World.frozen?_setCell _ _ _ _).trans f0, (World.frozen?_setCell _ _ _ _).trans f1, (World.frozen?_setCell _ _ _ _).trans f2, hp', hl⟩
def RSt (B : Nat) (w : World) (X : Nat) (rest : List Int) (e : Int) : Prop := ∃ zs p, Rf B w X zs p e ∧ (e = 0 → zs.drop p = rest)
theorem numR_len (zs : List Int) (hz : ∀ z ∈ zs, 0 ≤ z ∧ z < 256) (h : (numR zs).2.2 = 0) : (numR zs).2.1 ≤ zs.length := (numR_form zs hz h).2.1
set_option maxHeartbeats 1600000 in
theorem refNum_any (X : Nat) (rest : List Int) (e most : Int) (w : World) (h : RSt B w X rest e) :
  Calls Tryz.prog 50 #[.pointer (some ⟨X, 0, none⟩), .int .i64 most] w fun en w' => en = .returned (.int .i64 (numS rest e most).1) ∧ RSt B w' X (numS rest e most).2.1 (numS rest e most).2.2 ∧ w.grownBy w' (some X) := by
 obtain ⟨zs, p, hR, hd⟩ := h
 by_cases he : e = 0
 ·subst he
  have hd := hd rfl
  subst hd
  have cn := refNumber_any X zs p 0 w hR
  have hlen : (numR (zs.drop p)).2.2 = 0 → (numR (zs.drop p)).2.1 ≤ (zs.drop p).length := by
   obtain ⟨a, cap, _, _, _, hr⟩ := hR.rest
   exact numR_len _ hr.2.1
  rw [List.length_drop] at hlen
  have HS : Hid (numS (zs.drop p) 0 most = if (numR (zs.drop p)).2.2 = 0 then (if most < (numR (zs.drop p)).1 then (0, zs.drop p, 3) else ((numR (zs.drop p)).1, (zs.drop p).drop (numR (zs.drop p)).2.1, 0)) else (0, zs.drop p, (numR (zs.drop p)).2.2)) := by show _ = _; simp [numS]
  generalize (numR (zs.drop p)).1 = v at *
  generalize (numR (zs.drop p)).2.1 = c at *
  generalize (numR (zs.drop p)).2.2 = er at *
  have hl5 := hR.2.2.2.2.2.2.2.2
  have hpl := hR.2.2.2.2.2.2.2.1
  by_cases her : er = 0
  ·subst her
   have hcl := hlen rfl
   clear hlen
   rw [if_pos rfl] at HS
   by_cases hmost : most < v
   ·rw [if_pos hmost] at HS
    obtain ⟨_, _, _, h2, _⟩ := id hR
    go_enter Tryz.func50, Tryz.ntmps50
    go_wp2_with fail
    refine cn.mono ?_
    rintro en w1 ⟨rfl, k, rfl⟩
    clear cn
    have hR1 := hR.drewN k
    have f2 := hR1.2.2.2.2.2.2.1
    have h2' := hR1.2.2.2.1
    go_wp2_with fail
    go_ret
    rw [HS.out]
    exact ⟨rfl, ⟨zs, p, hR1.set2 3, fun h => by cases h⟩, gb_trans (gbz_drewN w k _) (gb_set _ X 2 _)⟩
   ·rw [if_neg hmost] at HS
    obtain ⟨_, _, _, h2, _⟩ := id hR
    go_enter Tryz.func50, Tryz.ntmps50
    go_wp2_with fail
    refine cn.mono ?_
    rintro en w1 ⟨rfl, k, rfl⟩
    clear cn
    have hR1 := hR.drewN k
    have f1 := hR1.2.2.2.2.2.1
    have h1' := hR1.2.2.1
    have hR2 := hR1.set1 (p + c) (by omega)
    have ec : ((p + c : Nat) : Int) = (p : Int) + (c : Int) := by omega
    rw [ec] at hR2
    clear ec
    go_wp2_with fail
    go_ret
    rw [HS.out]
    exact ⟨rfl, ⟨zs, p + c, hR2, fun _ => by rw [List.drop_drop]⟩, gb_trans (gbz_drewN w k _) (gb_set _ X 1 _)⟩
  ·have her' : (er == 0) = false := by simpa using her
   rw [if_neg her] at HS
   obtain ⟨_, _, _, h2, _⟩ := id hR
   clear hlen
   go_enter Tryz.func50, Tryz.ntmps50
   go_wp2_with fail
   refine cn.mono ?_
   rintro en w1 ⟨rfl, k, rfl⟩
   clear cn
   have hR1 := hR.drewN k
   have f2 := hR1.2.2.2.2.2.2.1
   have h2' := hR1.2.2.2.1
   go_wp2_with fail
   go_ret
   rw [HS.out]
   exact ⟨rfl, ⟨zs, p, hR1.set2 er, fun h => absurd h her⟩, gb_trans (gbz_drewN w k _) (gb_set _ X 2 _)⟩
 ·have HS : Hid (numS rest e most = (0, rest, e)) := by show _ = _; simp [numS, he]
  have he' : (e == 0) = false := by simpa using he
  obtain ⟨_, _, _, h2, _⟩ := id hR
  go_enter Tryz.func50, Tryz.ntmps50
  go_wp2_with fail
  go_ret
  rw [HS.out]
  exact ⟨rfl, ⟨zs, p, hR, fun h => absurd h he⟩, gb_refl _ _⟩
end Go.Proofs.YtnfijfnnpbenfaaGreatDoor
namespace Go.Proofs.YtnfijfnnpbenfaaGreatDoor
open Go.RowKit
open Sha Tal
variable {B : Nat}
def rawS (rest : List Int) (e n : Int) : List Int × List Int × Int :=
 if e = 0 then
  if n < 0 then ([], rest, 2)
  else if (rest.length : Int) < n then ([], rest, 10)
  else (rest.take n.toNat, rest.drop n.toNat, 0)
 else ([], rest, e)
theorem cell_block {w w' : World} {b j : Nat} (h : w'.heap[b]? = w.heap[b]?) : w'.cell? ⟨b, j, none⟩ = w.cell? ⟨b, j, none⟩ ∧ w'.frozen? ⟨b, j, none⟩ = w.frozen? ⟨b, j, none⟩ := by
 constructor
 ·simp only [World.cell?, h]
 ·simp only [World.frozen?, h]
theorem RdE.below {w w' : World} {R : Nat} {e : Int} (h : RdE w R e) (hb : w'.heap[R]? = w.heap[R]?) (hs : w.heap.size ≤ w'.heap.size) : RdE w' R e := by
 obtain ⟨hR, ⟨a, n, c, h0⟩, h1, h2, f0, f1, f2⟩ := h
 have hc := fun j => (cell_block (j := j) hb)
 exact ⟨Nat.lt_of_lt_of_le hR hs, ⟨a, n, c, (hc 0).1.trans h0⟩, (hc 1).1.trans h1, (hc 2).1.trans h2, (hc 0).2.trans f0, (hc 1).2.trans f1, (hc 2).2.trans f2⟩
theorem St.below {w w' : World} {R : Nat} {rest : List Int} {e : Int} (h : St w R rest e) (hb : Below w.heap.size w w') : St w' R rest e := by
 have hR := h.1.1
 refine ⟨h.1.below (hb.block R hR) hb.size, fun he => ?_⟩
 obtain ⟨a, cap, h0, hc, hm, hr, hne⟩ := h.2 he
 exact ⟨a, cap, (cell_block (hb.block R hR)).1.trans h0, hc, hm, hr.below hb, hne⟩
theorem Rf.below {w w' : World} {X : Nat} {zs : List Int} {p : Nat} {e : Int} (h : Rf B w X zs p e) (hb : Below w.heap.size w w') : Rf B w' X zs p e := by
 obtain ⟨hX, ⟨a, cap, h0, hc, hm, hr, hne⟩, h1, h2, f0, f1, f2, hp, hl⟩ := h
 have hk := fun j => (cell_block (j := j) (hb.block X hX))
 exact ⟨Nat.lt_of_lt_of_le hX hb.size, ⟨a, cap, (hk 0).1.trans h0, hc, hm, hr.below hb, hne⟩, (hk 1).1.trans h1, (hk 2).1.trans h2, (hk 0).2.trans f0, (hk 1).2.trans f1, (hk 2).2.trans f2, hp, hl⟩
theorem RSt.below {w w' : World} {X : Nat} {rest : List Int} {e : Int} (h : RSt B w X rest e) (hb : Below w.heap.size w w') : RSt B w' X rest e := by
 obtain ⟨zs, p, h1, h2⟩ := h
 exact ⟨zs, p, h1.below hb, h2⟩
theorem Mine.nil (w : World) (B : Nat) : Mine w B (.slice none 0 0) [] := ⟨World.ownsRow_nil _ _ _ _, by simp⟩
theorem Mine.mono' {w : World} {B B' : Nat} {v : Value} {zs : List Int} (h : Mine w B v zs) (hb : B' ≤ B) : Mine w B' v zs := by
 refine ⟨⟨h.1.1, ?_⟩, h.2⟩
 rcases h.1.2 with h | ⟨g, cap, cur, hv, hg, r⟩
 ·exact .inl h
 ·exact .inr ⟨g, cap, cur, hv, Nat.le_trans hb hg, r⟩
set_option maxHeartbeats 1600000 in
theorem raw_any (R : Nat) (rest : List Int) (e n : Int) (w : World) (h : St w R rest e) (hl : rest.length ≤ 40000) :
  Calls Tryz.prog 107 #[.pointer (some ⟨R, 0, none⟩), .int .i64 n] w fun en w' => ∃ v, en = .returned v ∧ Mine w' w.heap.size v (rawS rest e n).1 ∧ St w' R (rawS rest e n).2.1 (rawS rest e n).2.2 ∧ w.grownBy w' (some R) := by
 by_cases he : e = 0
 ·subst he
  by_cases hn : n < 0
  ·have HS : Hid (rawS rest 0 n = ([], rest, 2)) := by show _ = _; unfold rawS; rw [if_pos rfl, if_pos hn]
   go_enter Tryz.func107, Tryz.ntmps107
   go_wp2_with fail
   refine (err_made R 0 w h.1).mono ?_
   rintro en w1 ⟨rfl, rfl⟩
   go_wp2_with fail
   refine (fail_any R 0 2 w1 h.1).mono ?_
   rintro en w2 ⟨rfl, hE2, hg2⟩
   go_wp2_with fail
   go_ret
   rw [HS.out]
   exact ⟨_, rfl, Mine.nil _ _, ⟨hE2, fun h => by cases h⟩, hg2⟩
  ·by_cases hf : (rest.length : Int) < n
   ·have HS : Hid (rawS rest 0 n = ([], rest, 10)) := by show _ = _; unfold rawS; rw [if_pos rfl, if_neg hn, if_pos hf]
    go_enter Tryz.func107, Tryz.ntmps107
    go_wp2_with fail
    refine (err_made R 0 w h.1).mono ?_
    rintro en w1 ⟨rfl, rfl⟩
    go_wp2_with fail
    refine (next_few R rest n w1 h hf).mono ?_
    rintro en w2 ⟨rfl, hS2, hg2⟩
    have cc := clone_any none 0 [] w2 (nil_row w2) (by simp)
    simp only [List.length_nil] at cc
    go_wp2_with fail
    refine cc.mono ?_
    rintro en w3 ⟨v, rfl, hm, hb⟩
    go_wp2_with fail
    go_ret
    rw [HS.out]
    exact ⟨_, rfl, hm.mono' hg2.size, hS2.below hb, gb_trans hg2 (gb_below hb _)⟩
   ·have HS : Hid (rawS rest 0 n = (rest.take n.toNat, rest.drop n.toNat, 0)) := by show _ = _; unfold rawS; rw [if_pos rfl, if_neg hn, if_neg hf]
    go_enter Tryz.func107, Tryz.ntmps107
    go_wp2_with fail
    refine (err_made R 0 w h.1).mono ?_
    rintro en w1 ⟨rfl, rfl⟩
    go_wp2_with fail
    refine (next_there R rest n w1 h (by omega) (by omega)).mono ?_
    rintro en w2 ⟨a, cap, rfl, hca, hra, hS2, hg2⟩
    have cc := clone_any a cap (rest.take n.toNat) w2 hra (by rw [List.length_take]; omega)
    rw [List.length_take_of_le (by omega)] at cc
    go_wp2_with fail
    refine cc.mono ?_
    rintro en w3 ⟨v, rfl, hm, hb⟩
    go_wp2_with fail
    go_ret
    rw [HS.out]
    exact ⟨_, rfl, hm.mono' hg2.size, hS2.below hb, gb_trans hg2 (gb_below hb _)⟩
 ·have HS : Hid (rawS rest e n = ([], rest, e)) := by show _ = _; unfold rawS; rw [if_neg he]
  have he' : (e == 0) = false := by simpa using he
  go_enter Tryz.func107, Tryz.ntmps107
  go_wp2_with fail
  refine (err_made R e w h.1).mono ?_
  rintro en w1 ⟨rfl, rfl⟩
  go_wp2_with fail
  go_ret
  rw [HS.out]
  exact ⟨_, rfl, Mine.nil _ _, h, gb_refl _ _⟩
end Go.Proofs.YtnfijfnnpbenfaaGreatDoor
namespace Go.Proofs.YtnfijfnnpbenfaaGreatDoor
open Go.RowKit
open Sha Tal
theorem bytes_of (s : ByteArray) (hs : s.size ≤ 1099511627) (w : World) : ∃ c w1, (convert 9 57 (.string s)).run Tryz.prog w = .ok (.slice (some ⟨w.heap.size, 0, none⟩) (strL s).length c) w1 ∧ RowAt w1 (some ⟨w.heap.size, 0, none⟩) (strL s) ∧ Below w.heap.size w w1 := by
 refine ⟨grownCap w s.size 0 5, Lib.bytesWorld w 5 s, ?_, ?_, ?_⟩
 ·rw [Lib.run_convert_string_bytes w 9 57 5 s Tryz.underlying9 Tryz.underlying57 Tryz.underlying5, strL_length]
 ·refine ⟨by rw [strL_length]; unfold maxLen; omega, strL_byte s, .inr ⟨_, _, rfl, by rw [Lib.bytesWorld_size]; omega, fun j v hv => ?_⟩⟩
  have hj : j < s.size := by
   have := (List.getElem?_eq_some_iff.1 hv).1
   rwa [v8_length, strL_length] at this
  rw [Nat.zero_add, Lib.bytesWorld_cell w 5 s j hj, ← hv]
  have hj' : j < s.data.toList.length := by simpa using hj
  simp only [v8, strL, List.map_map, List.getElem?_map, List.getElem?_eq_getElem hj', List.getD_eq_getElem?_getD, Option.getD_some, Option.map_some, Function.comp]
 ·exact ⟨rfl, rfl, rfl, by rw [Lib.bytesWorld_size]; omega, fun k hk => Lib.bytesWorld_at_old w 5 s k hk⟩
structure MrAt (w : World) (Q R : Nat) (z : Bool) : Prop where
 lt : Q < w.heap.size
 ne : R < Q
 c0 : w.cell? ⟨Q, 0, none⟩ = some (.pointer (some ⟨R, 0, none⟩))
 c1 : w.cell? ⟨Q, 1, none⟩ = some (.bool z)
 f1 : w.frozen? ⟨Q, 1, none⟩ = false
theorem MrAt.at {w w' : World} {Q R : Nat} {z : Bool} (h : MrAt w Q R z) (hb : w'.heap[Q]? = w.heap[Q]?) (hs : w.heap.size ≤ w'.heap.size) : MrAt w' Q R z :=
 ⟨Nat.lt_of_lt_of_le h.lt hs, h.ne, (cell_block hb).1.trans h.c0, (cell_block hb).1.trans h.c1, (cell_block hb).2.trans h.f1⟩
def doneE (rest : List Int) (e : Int) : Int := if e = 0 then (if rest.length = 0 then 0 else 12) else e
set_option maxRecDepth 100000 in
set_option maxHeartbeats 2000000 in
theorem done_any (R : Nat) (rest : List Int) (e : Int) (w : World) (h : St w R rest e) : Calls Tryz.prog 70 #[.pointer (some ⟨R, 0, none⟩)] w fun en w' => en = .returned (.int .i64 (doneE rest e)) ∧ w' = w := by
 have ce := err_made R e w h.1
 by_cases he : e = 0
 ·subst he
  obtain ⟨a, cap, h0, _⟩ := h.2 rfl
  have cl := left_any R a rest.length cap w h0
  have E : doneE rest 0 = if rest.length = 0 then 0 else 12 := by simp [doneE]
  rw [E]
  clear E h
  by_cases hr : rest.length = 0
  ·rw [if_pos hr]
   rw [hr] at cl
   clear hr h0
   go_enter Tryz.func70, Tryz.ntmps70
   go_wp2_with fail
   refine ce.mono ?_
   rintro e1 w1 ⟨rfl, hx⟩
   obtain rfl := hx.symm
   clear hx
   go_wp2_with fail
   refine cl.mono ?_
   rintro e2 w2 ⟨rfl, hx⟩
   obtain rfl := hx.symm
   clear hx
   go_wp2
   go_ret
   exact ⟨rfl, rfl⟩
  ·rw [if_neg hr]
   have hr' : (0 : Int) < rest.length := by omega
   obtain ⟨n, hn⟩ : ∃ n : Int, (rest.length : Int) = n := ⟨_, rfl⟩
   rw [hn] at cl hr'
   clear hr hn h0
   go_enter Tryz.func70, Tryz.ntmps70
   go_wp2_with fail
   refine ce.mono ?_
   rintro e1 w1 ⟨rfl, hx⟩
   obtain rfl := hx.symm
   clear hx
   go_wp2_with fail
   refine cl.mono ?_
   rintro e2 w2 ⟨rfl, hx⟩
   obtain rfl := hx.symm
   clear hx
   go_wp2
   go_ret
   exact ⟨rfl, rfl⟩
 ·have E : doneE rest e = e := by simp [doneE, he]
  rw [E]
  have n1 : (e != 0) = true := bne_iff_ne.2 he
  clear E h he
  go_enter Tryz.func70, Tryz.ntmps70
  go_wp2_with fail
  refine ce.mono ?_
  rintro e1 w1 ⟨rfl, hx⟩
  obtain rfl := hx.symm
  clear hx
  go_wp2
  go_ret
  exact ⟨rfl, rfl⟩
theorem there_blk {w w' : World} {b o n : Nat} (h : w.there b o n) (hb : w'.heap[b]? = w.heap[b]?) : w'.there b o n := fun j hj => by
 have := h j hj
 exact ⟨by rw [(cell_block hb).1]; exact this.1, (cell_block hb).2.trans this.2⟩
theorem St.belowN {w w' : World} {R n : Nat} {rest : List Int} {e : Int} (h : St w R rest e) (hb : Below n w w') (hn : R < n) : St w' R rest e := by
 refine ⟨h.1.below (hb.block R hn) hb.size, fun he => ?_⟩
 obtain ⟨a, cap, h0, hc, hm, hr, hne⟩ := h.2 he
 refine ⟨a, cap, (cell_block (hb.block R hn)).1.trans h0, hc, hm, ⟨hr.1, hr.2.1, ?_⟩, hne⟩
 rcases hr.2.2 with q | ⟨b, off, rfl, q1, q2⟩
 ·exact .inl q
 ·exact .inr ⟨b, off, rfl, Nat.lt_of_lt_of_le q1 hb.size, range_below q2 hb (by have := hne _ rfl; simp only at this; omega)⟩
theorem strOf_strL (s : ByteArray) : strOf (strL s) = s := by
 unfold strOf strL
 rw [foldl_push_byteCells]
 cases s; simp
namespace Tal
theorem head_digs (n : Nat) (h0 : 0 < n) (h : n < 2 ^ 63) : (digs n).head? ≠ some 0 := by
  obtain ⟨_, b, c⟩ := wid_bounds 8 n h (by omega)
  obtain ⟨c1, c2⟩ := c h0
  have hg := digK_get (wid n) n 0 c1
  have hl := digs_length n
  unfold digs at hl ⊢
  cases hd : digK (wid n) n with
  | nil => simp
  | cons x tl =>
    rw [hd] at hg
    have hg' : x = ((n / 256 ^ (wid n - 1 - 0) % 256 : Nat) : Int) := hg
    rw [Nat.sub_zero] at hg'
    have hlt : n / 256 ^ (wid n - 1) < 256 := by
      rw [Nat.div_lt_iff_lt_mul (Nat.pow_pos (by omega)), Nat.mul_comm, ← Nat.pow_succ]
      have e : (wid n - 1).succ = wid n := by omega
      rw [e]; exact b
    have hpos : 0 < n / 256 ^ (wid n - 1) := Nat.div_pos c2 (Nat.pow_pos (by omega))
    rw [Nat.mod_eq_of_lt hlt] at hg'
    intro hc
    simp only [List.head?_cons, Option.some.injEq] at hc
    omega
theorem numR_back (n : Nat) (h : n < 2 ^ 63) (more : List Int) : numR (numB n ++ more) = ((n : Int), 1 + wid n, 0) := by
 have hw := wid_le n h
 have hv := val_digs n h
 have ht : (digs n ++ more).take (wid n) = digs n := by rw [List.take_append_of_le_length (by rw [digs_length]; exact Nat.le_refl _), List.take_of_length_le (by rw [digs_length]; exact Nat.le_refl _)]
 have hh : ¬ ((digs n).head? = some 0 ∨ 9223372036854775807 < val (digs n)) := by
  rw [hv]
  by_cases h0 : n = 0
  ·subst h0; rw [digs_zero]; simp
  ·intro hc
   rcases hc with hc | hc
   ·exact head_digs n (by omega) h hc
   ·omega
 have e : valR (digs n) = ((n : Int), 0) := by unfold valR; rw [if_neg hh, hv]
 have e0 : numB n ++ more = (wid n : Int) :: (digs n ++ more) := rfl
 rw [e0]
 simp only [numR]
 rw [if_neg (by omega), if_neg (by rw [List.length_append, digs_length]; omega), Int.toNat_natCast, ht, e]
 simp
theorem numS_back (x most : Int) (h0 : 0 ≤ x) (h1 : x ≤ 9223372036854775807) (hm : x ≤ most) (more : List Int) : numS (putL x ++ more) 0 most = (x, more, 0) := by
 have e : putL x = numB x.toNat := by unfold putL; rw [if_neg (by omega)]
 have hr := numR_back x.toNat (by omega) more
 have hx : ((x.toNat : Nat) : Int) = x := by omega
 rw [hx] at hr
 have hd : (numB x.toNat ++ more).drop (1 + wid x.toNat) = more := by
  have : (numB x.toNat).length = 1 + wid x.toNat := by simp only [numB, List.length_cons, digs_length]; omega
  rw [← this, List.drop_append_of_le_length (Nat.le_refl _)]; simp
 unfold numS
 rw [e, hr, if_pos rfl, if_pos rfl, if_neg (by omega), hd]
end Tal
theorem strOf_list (zs : List Int) : (strOf zs).toList = zs.map (fun n => UInt8.ofNat n.toNat) := by
  have key : ∀ (zs : List Int) (r : ByteArray), (zs.foldl (fun r n => r.push (UInt8.ofNat n.toNat)) r).data.toList = r.data.toList ++ zs.map (fun n => UInt8.ofNat n.toNat) := by
    intro zs
    induction zs with
    | nil => intro r; simp
    | cons z zs ih => intro r; rw [List.foldl_cons, ih]; simp [ByteArray.push]
  rw [ByteArray.toList_eq]
  unfold strOf
  rw [key]
  rfl
theorem strOf_inj : ∀ {xs ys : List Int}, (∀ z ∈ xs, 0 ≤ z ∧ z < 256) → (∀ z ∈ ys, 0 ≤ z ∧ z < 256) → (strOf xs).toList = (strOf ys).toList → xs = ys := by
 intro xs ys hx hy h
 rw [strOf_list, strOf_list] at h
 have hl : xs.length = ys.length := by simpa using congrArg List.length h
 apply List.ext_getElem hl
 intro i h1 h2
 have := congrArg (·[i]?) h
 simp only [List.getElem?_map, List.getElem?_eq_getElem h1, List.getElem?_eq_getElem h2, Option.map_some, Option.some.injEq] at this
 have a1 := hx _ (List.getElem_mem h1)
 have a2 := hy _ (List.getElem_mem h2)
 have := congrArg UInt8.toNat this
 simp only [UInt8.toNat_ofNat'] at this
 omega
open Go.RowKit
open Sha Tal
theorem results_ct {fn : Func} {p u : Tmp} {ty : TypeId} (h : fn.results = #[.cell p ty, .tmp u]) (tmps : Array Value) (P : Program) (w : World) {a : Addr} {v : Value} (ha : tmps.getD p undef = .pointer (some a)) (hv : (loadVar ty a).run P w = .ok v w) : (results fn tmps).run P w = .ok (.tuple #[v, tmps.getD u undef]) w := by
 rw [results_cell_tmp h, ha]
 simp [asAddr, hv, Result.andThen]
def RowOf {α : Type} (f : α → List Value) (w : World) (a : Option Addr) (ys : List α) : Prop := ys = [] ∨ ∃ b off, a = some ⟨b, off, none⟩ ∧ b < w.heap.size ∧ w.rangeAt b off (ys.flatMap f)
theorem RowOf.below {α : Type} {f : α → List Value} {w w' : World} {a : Option Addr} {ys : List α} (h : RowOf f w a ys) (hb : Below w.heap.size w w') : RowOf f w' a ys := by
 rcases h with h | ⟨b, off, rfl, h1, h2⟩
 ·exact .inl h
 ·exact .inr ⟨b, off, rfl, Nat.lt_of_lt_of_le h1 hb.size, range_below h2 hb h1⟩
theorem flat_len_k {α : Type} {f : α → List Value} {k : Nat} {ys : List α} (h : ∀ y ∈ ys, (f y).length = k) : (ys.flatMap f).length = ys.length * k := by
  induction ys with
  | nil => simp
  | cons y ys ih =>
    have h1 := h y (by simp)
    have h2 := ih (fun x hx => h x (by simp [hx]))
    simp only [List.flatMap_cons, List.length_append, List.length_cons, Nat.add_mul, Nat.one_mul]
    omega
theorem RowOf.elem {α : Type} {f : α → List Value} {k : Nat} {w : World} {a : Option Addr} {ys : List α} (h : RowOf f w a ys) (hk : ∀ y ∈ ys, (f y).length = k) (i : Nat) (hi : i < ys.length) : ∃ b off, a = some ⟨b, off, none⟩ ∧ b < w.heap.size ∧ w.rangeAt b (off + i * k) (f ys[i]) := by
 rcases h with h0 | ⟨b, off, rfl, h1, h2⟩
 ·subst h0; simp at hi
 ·refine ⟨b, off, rfl, h1, ?_⟩
  have e : ys.take i ++ (ys[i] :: ys.drop (i + 1)) = ys := by rw [← List.drop_eq_getElem_cons hi, List.take_append_drop]
  have e2 : ys.flatMap f = (ys.take i).flatMap f ++ f ys[i] ++ (ys.drop (i + 1)).flatMap f := by
   have := congrArg (List.flatMap f) e
   rw [← this]
   simp only [List.flatMap_append, List.flatMap_cons, List.append_assoc]
  rw [e2] at h2
  have h3 := range_part h2
  rwa [flat_len_k (fun y hy => hk y (List.mem_of_mem_take hy)), List.length_take, Nat.min_eq_left (by omega)] at h3
structure El (α : Type) where
 f : α → List Value
 k : Nat
 ok : α → Prop
 len : ∀ y, ok y → (f y).length = k
 one : ∀ y, ∀ v ∈ f y, v.oneCell' = true
def RowsAt {α : Type} (E : El α) (w : World) (a : Option Addr) (ys : List α) : Prop := ys.length ≤ maxLen ∧ (∀ y ∈ ys, E.ok y) ∧ RowOf E.f w a ys
theorem RowsAt.below {α : Type} {E : El α} {w w' : World} {a : Option Addr} {ys : List α} (h : RowsAt E w a ys) (hb : Below w.heap.size w w') : RowsAt E w' a ys := ⟨h.1, h.2.1, h.2.2.below hb⟩
theorem RowsAt.elem {α : Type} {E : El α} {w : World} {a : Option Addr} {ys : List α} (h : RowsAt E w a ys) (i : Nat) (hi : i < ys.length) : ∃ b off, a = some ⟨b, off, none⟩ ∧ b < w.heap.size ∧ w.rangeAt b (off + i * E.k) (E.f ys[i]) := h.2.2.elem (fun y hy => E.len y (h.2.1 y hy)) i hi
theorem RowsAt.none {α : Type} {E : El α} {w : World} {a : Option Addr} : RowsAt E w a [] := ⟨by simp, by simp, .inl rfl⟩
structure Sg where
 n : Int
 t : List Int
deriving Inhabited
structure Sg.ok (r : Sg) : Prop where
 tl : r.t.length = 16
 tb : ∀ z ∈ r.t, 0 ≤ z ∧ z < 256
 nl : -9223372036854775808 ≤ r.n
 nh : r.n ≤ 9223372036854775807
def Sg.cells (r : Sg) : List Value := .int .i64 r.n :: v8 r.t
structure Ev where
 n : Int
 s : ByteArray
 t : List Int
deriving Inhabited
structure Ev.ok (r : Ev) : Prop where
 tl : r.t.length = 16
 tb : ∀ z ∈ r.t, 0 ≤ z ∧ z < 256
 sl : r.s.size ≤ maxLen
 nl : -9223372036854775808 ≤ r.n
 nh : r.n ≤ 9223372036854775807
def Ev.cells (r : Ev) : List Value := .int .i64 r.n :: .string r.s :: v8 r.t
structure Rq where
 c : Int
 n : Int
 s : ByteArray
 t : List Int
deriving Inhabited
structure Rq.ok (r : Rq) : Prop where
 tl : r.t.length = 16
 tb : ∀ z ∈ r.t, 0 ≤ z ∧ z < 256
 sl : r.s.size ≤ maxLen
 cl : -9223372036854775808 ≤ r.c
 ch : r.c ≤ 9223372036854775807
 nl : -9223372036854775808 ≤ r.n
 nh : r.n ≤ 9223372036854775807
def Rq.cells (r : Rq) : List Value := .int .i64 r.c :: .int .i64 r.n :: .string r.s :: v8 r.t
theorem iszT : (Tryz.prog.info? 51).map (·.size) = some 16 := by kernel_rfl
def Sg.B (x y : Sg) : Bool := (x.n == y.n) && ((x.t == y.t))
open Go Go.RowKit
section
variable {P : Program} {ops : Array Oper} {Q : Exit → Act → World → Prop}
structure Pl (P : Program) (ops : Array Oper) (Q : Exit → Act → World → Prop) (l : List Oper) (a : Act) (w : World) : Prop where
 out : wpList P ops Q l a w
theorem pl_begin {id : Nat} {a : Act} {w : World} (h : Pl P ops Q ops.toList a w) : (Code.region id ops false).wp P Q a w := wp_region_list h.out
theorem pl_nil {a : Act} {w : World} (h : Q .normal a w) : Pl P ops Q [] a w := ⟨wpList_nil h⟩
theorem pl_take {o : Oper} {rest : List Oper} {d : Option Nat} {v : Value} {a : Act} {w : World} (hw : Region.wanted o (yielded ops a.tmps) = true) (hy : (execOp a.eval o).run P w = .ok (.value v) w) (hd : o.dst = d)
  (h : Pl P ops Q rest (a.put d v) w) : Pl P ops Q (o :: rest) a w := by
 subst hd
 refine ⟨wpList_step fun K hK => ?_⟩
 rw [if_pos hw]
 unfold Oper.wp
 rw [hy]
 exact hK _ _ h.out
theorem pl_t (d : Nat) (v : Value) {o : Oper} {rest : List Oper} {a : Act} {w : World} (hw : Region.wanted o (yielded ops a.tmps) = true) (hy : (execOp a.eval o).run P w = .ok (.value v) w) (hd : o.dst = some d) (h : Pl P ops Q rest (a.put (some d) v) w) : Pl P ops Q (o :: rest) a w := pl_take hw hy hd h
theorem pl_skip {o : Oper} {rest : List Oper} {d : Option Nat} {a : Act} {w : World} (hw : Region.wanted o (yielded ops a.tmps) = false) (hd : o.dst = d)
  (h : Pl P ops Q rest (a.put d undef) w) : Pl P ops Q (o :: rest) a w := by
 subst hd
 refine ⟨wpList_step fun K hK => ?_⟩
 rw [if_neg (by simp [hw])]
 exact hK _ _ h.out
theorem pl_run {o : Oper} {rest : List Oper} {d : Option Nat} {v : Value} {a : Act} {w w' : World} (hw : Region.wanted o (yielded ops a.tmps) = true) (hy : (execOp a.eval o).run P w = .ok (.value v) w') (hd : o.dst = d)
  (h : Pl P ops Q rest (a.put d v) w') : Pl P ops Q (o :: rest) a w := by
 subst hd
 refine ⟨wpList_step fun K hK => ?_⟩
 rw [if_pos hw]
 unfold Oper.wp
 rw [hy]
 exact hK _ _ h.out
theorem pl_call {o : Oper} {rest : List Oper} {d : Option Nat} {f : FuncId} {args : Array Value} {a : Act} {w : World} (hw : Region.wanted o (yielded ops a.tmps) = true) (hy : (execOp a.eval o).run P w = .ok (.enter f args) w) (hd : o.dst = d)
  (h : Calls P f args w fun e w' => ∃ v, e = .returned v ∧ Pl P ops Q rest (a.put d v) w') : Pl P ops Q (o :: rest) a w := by
 subst hd
 refine ⟨wpList_step fun K hK => ?_⟩
 rw [if_pos hw]
 unfold Oper.wp
 rw [hy]
 refine h.mono ?_
 rintro e w' ⟨v, rfl, hk⟩
 exact hK _ _ hk.out
theorem run_load_one (w : World) (p : Addr) (ty : TypeId) (v : Value) (d : TypeDesc) (hc : w.cell? p = some v) (hu : P.underlying ty = some d) (hd : d.isRow = false) : (loadVar ty p).run P w = .ok v w := by
 have hagg : (isAgg ty).run P w = .ok false w := by
  unfold isAgg
  rw [Sem.run_bind, run_underlying hu w]
  cases d <;> simp_all
 simp [loadVar, Sem.run_bind, hagg, load, Sem.run, hc]
theorem pl_one {o : Oper} {a : Act} {w : World} {ty : TypeId} {x : Operand} (ho : o.op = .load ty x) {p : Addr} (hx : a.eval x = .pointer (some p)) {v : Value} {d : TypeDesc} (hc : w.cell? p = some v) (hu : P.underlying ty = some d) (hd : d.isRow = false) : (execOp a.eval o).run P w = .ok (.value v) w := by
 unfold execOp
 simp only [ho, hx, Instr.loadAt, Instr.sureAddr, Sem.run_bind, Sem.run_pure, Result.andThen_ok, run_load_one w p ty v d hc hu hd]
end
end Go.Proofs.YtnfijfnnpbenfaaGreatDoor
namespace Go.Proofs.YtnfijfnnpbenfaaGreatDoor.Wn
def hasN (m : Nat) (i : Int) : Bool := decide (0 ≤ i ∧ i < 64) && m.testBit i.toNat
def bitN (i : Int) : Nat := if 0 ≤ i ∧ i < 64 then 2 ^ i.toNat else 0
def downN (m : Nat) (n : Int) : Nat := if n < 1 then m else m >>> n.toNat
def setUp (m k : Nat) : List Nat := (List.range k).filter m.testBit
def setN (m : Nat) : List Nat := setUp m 64
def onesUp (m : Nat) : Nat → Nat → Nat
  | 0, n => n
  | f + 1, n => if m.testBit n then onesUp m f (n + 1) else n
def onesN (m : Nat) : Nat := onesUp m 64 0
theorem bitN_lt (i : Int) : bitN i < 2 ^ 64 := by
 unfold bitN
 split
 ·exact Nat.pow_lt_pow_right (by omega) (by omega)
 ·decide
theorem and_bitN (m : Nat) (i : Int) : (m &&& bitN i = 0) ↔ hasN m i = false := by
 unfold bitN hasN
 split
 ·rename_i h
  rw [decide_eq_true h, Bool.true_and]
  constructor
  ·intro e
   have := congrArg (fun x => Nat.testBit x i.toNat) e
   simpa [Nat.testBit_and, Nat.testBit_two_pow] using this
  ·intro e
   apply Nat.eq_of_testBit_eq
   intro j
   rw [Nat.testBit_and, Nat.testBit_two_pow, Nat.zero_testBit]
   by_cases hj : i.toNat = j
   ·subst hj; rw [e]; rfl
   ·simp [hj]
 ·rename_i h
  simp [h]
theorem hasN_cast (m : Nat) (k : Nat) (h : k < 64) : hasN m (k : Int) = m.testBit k := by
 unfold hasN
 have : (0 ≤ (k : Int) ∧ (k : Int) < 64) := by omega
 simp [this]
theorem hasN_out (m : Nat) (i : Int) (h : ¬ (0 ≤ i ∧ i < 64)) : hasN m i = false := by
 unfold hasN; simp [h]
theorem mem_setUp {m k j : Nat} : j ∈ setUp m k ↔ j < k ∧ m.testBit j = true := by simp [setUp]
theorem mem_setN {m j : Nat} : j ∈ setN m ↔ j < 64 ∧ m.testBit j = true := mem_setUp
def ints (l : List Nat) : List Int := l.map Int.ofNat
theorem down_far {m : Nat} (h : m < 2 ^ 64) (n : Int) (h2 : 63 < n) : downN m n = 0 := by
 unfold downN; rw [if_neg (by omega), Nat.shiftRight_eq_div_pow]
 exact Nat.div_eq_of_lt (Nat.lt_of_lt_of_le h (Nat.pow_le_pow_right (by omega) (by omega)))
theorem has_half (m k : Nat) : m.testBit k = decide (m / 2 ^ k % 2 = 1) := Nat.testBit_eq_decide_div_mod_eq
theorem setUp_succ (m k : Nat) : setUp m (k + 1) = setUp m k ++ (if m.testBit k then [k] else []) := by
 unfold setUp; rw [List.range_succ, List.filter_append]
 cases h : m.testBit k <;> simp [h]
theorem setUp_no {m k : Nat} (h : m.testBit k = false) : setUp m (k + 1) = setUp m k := by rw [setUp_succ, h]; simp
theorem setUp_yes {m k : Nat} (h : m.testBit k = true) : setUp m (k + 1) = setUp m k ++ [k] := by rw [setUp_succ, h]; simp
theorem setUp_len (m k : Nat) : (setUp m k).length ≤ k := by
 unfold setUp; exact Nat.le_trans (List.length_filter_le _ _) (by simp)
theorem setUp_prefix (m : Nat) {j k : Nat} (h : j ≤ k) : setUp m j <+: setUp m k := by
  induction k with
  | zero => obtain rfl : j = 0 := by omega
            exact List.prefix_refl _
  | succ k ih =>
    rcases Nat.lt_or_eq_of_le h with h' | rfl
    · rw [setUp_succ]; exact (ih (by omega)).trans (List.prefix_append _ _)
    · exact List.prefix_refl _
theorem setUp_lt (m k : Nat) : (setUp m k).Pairwise (· < ·) := by
 unfold setUp; exact List.Pairwise.filter _ List.pairwise_lt_range
theorem onesUp_spec (m : Nat) : ∀ f n L, n ≤ L → L ≤ n + f → (∀ j, n ≤ j → j < L → m.testBit j = true) → (L < n + f → m.testBit L = false) → onesUp m f n = L := by
  intro f
  induction f with
  | zero => intro n L h1 h2 _ _; unfold onesUp; omega
  | succ f ih =>
    intro n L h1 h2 h3 h4
    unfold onesUp
    rcases Nat.lt_or_eq_of_le h1 with h | rfl
    · rw [if_pos (h3 n (Nat.le_refl _) h)]
      exact ih (n + 1) L h (by omega) (fun j a b => h3 j (by omega) b) (fun a => h4 (by omega))
    · rw [if_neg (by rw [h4 (by omega)]; decide)]
theorem onesN_spec (m L : Nat) (h2 : L ≤ 64) (h3 : ∀ j, j < L → m.testBit j = true) (h4 : L < 64 → m.testBit L = false) : onesN m = L :=
 onesUp_spec m 64 0 L (Nat.zero_le _) (by omega) (fun j _ h => h3 j h) (fun h => h4 (by omega))
theorem ones_done {m L : Nat} (h : setN m = List.range L) : onesN m = L := by
 have hl : L ≤ 64 := by have := setUp_len m 64; rw [show setUp m 64 = _ from h] at this; simpa using this
 refine onesN_spec m L hl (fun j hj => (mem_setN.1 (by rw [h]; exact List.mem_range.2 hj)).2) (fun hL => ?_)
 cases hb : m.testBit L
 ·rfl
 ·have := mem_setN.2 ⟨hL, hb⟩
  rw [h] at this; simp at this
theorem ones_stop {m L x : Nat} (h : List.range L ++ [x] <+: setN m) (hx : x ≠ L) : onesN m = L := by
 obtain ⟨rest, hr⟩ := h
 have hp := setUp_lt m 64
 rw [show setUp m 64 = _ from hr.symm, List.append_assoc, List.pairwise_append] at hp
 obtain ⟨_, p2, p3⟩ := hp
 have hm : ∀ j, j ∈ setN m ↔ j ∈ List.range L ++ [x] ++ rest := fun j => by rw [hr]
 have hl : L ≤ 64 := by
  rcases Nat.eq_zero_or_pos L with h | h
  ·omega
  ·have := (mem_setN.1 ((hm (L - 1)).2 (by simp; omega))).1; omega
 have hxL : L < x := by
  rcases Nat.lt_trichotomy x L with h | h | h
  ·exact absurd (p3 x (List.mem_range.2 h) x (by simp)) (Nat.lt_irrefl _)
  ·exact absurd h hx
  ·exact h
 refine onesN_spec m L hl (fun j hj => (mem_setN.1 ((hm j).2 (by simp; omega))).2) (fun hL => ?_)
 cases hb : m.testBit L
 ·rfl
 ·exfalso
  have := (hm L).1 (mem_setN.2 ⟨hL, hb⟩)
  simp only [List.append_assoc, List.mem_append, List.mem_range, List.mem_singleton] at this
  rcases this with h | h | h
  ·omega
  ·exact hx h.symm
  ·rw [List.singleton_append, List.pairwise_cons] at p2
   have := p2.1 L h; omega
open Go.RowKit
theorem ret_bool {a b : Bool} (h : a = b) : Ending.returned (.bool a) = .returned (.bool b) := by rw [h]
theorem ret_int {k : IntKind} {a b : Int} (h : a = b) : Ending.returned (.int k a) = .returned (.int k b) := by rw [h]
def IsRow (k : IntKind) (w : World) (a : Option Addr) (len cap : Nat) (zs : List Int) : Prop :=
 (a = none ∧ len = 0 ∧ cap = 0 ∧ zs = []) ∨
 ∃ x, a = some x ∧ len ≤ cap ∧ cap ≤ maxLen ∧ zs.length = cap ∧ (∀ i, i < zs.length → w.cell? (x.add i) = some (.int k (zs.getD i 0))) ∧ ∀ n ∈ zs, (Lit.int k n).wf = true
def RowI (w : World) (a : Option Addr) (zs : List Int) : Prop :=
 zs.length ≤ maxLen ∧ (zs = [] ∨ ∃ b off, a = some ⟨b, off, none⟩ ∧ b < w.heap.size ∧ ∀ j, j < zs.length → w.cell? ⟨b, off + j, none⟩ = some (.int .i64 (zs[j]?.getD 0)))
open Go.RowKit
attribute [local go_sem] Oper.semAt_some
theorem wrap_pow (i : Int) (h0 : 0 ≤ i) (h1 : i < 64) : IntKind.u64.wrap (2 ^ i.toNat) = ((bitN i : Nat) : Int) := by
 have hb := bitN_lt i
 have e : ((2 : Int) ^ i.toNat) = ((bitN i : Nat) : Int) := by unfold bitN; rw [if_pos ⟨h0, h1⟩]; simp
 rw [e, IntKind.wrap_u64]
 generalize bitN i = b at *
 omega
theorem toNat_ofInt (a : Nat) (h : a < 2 ^ 64) : (BitVec.ofInt 64 (a : Int)).toNat = a := by
 rw [BitVec.toNat_ofInt]; omega
theorem and_nat (a b : Nat) (ha : a < 2 ^ 64) (hb : b < 2 ^ 64) : bits BinOp.and IntKind.u64 (a : Int) (b : Int) = ((a &&& b : Nat) : Int) := by
 show IntKind.u64.wrap ((BitVec.ofInt 64 (a : Int) &&& BitVec.ofInt 64 (b : Int)).toNat : Int) = _
 rw [BitVec.toNat_and, toNat_ofInt a ha, toNat_ofInt b hb, IntKind.wrap_u64]
 have : a &&& b < 2 ^ 64 := Nat.and_lt_two_pow a hb
 generalize a &&& b = c at *
 omega
theorem or_nat (a b : Nat) (ha : a < 2 ^ 64) (hb : b < 2 ^ 64) : bits BinOp.or IntKind.u64 (a : Int) (b : Int) = ((a ||| b : Nat) : Int) := by
 show IntKind.u64.wrap ((BitVec.ofInt 64 (a : Int) ||| BitVec.ofInt 64 (b : Int)).toNat : Int) = _
 rw [BitVec.toNat_or, toNat_ofInt a ha, toNat_ofInt b hb, IntKind.wrap_u64]
 have : a ||| b < 2 ^ 64 := Nat.or_lt_two_pow ha hb
 generalize a ||| b = c at *
 omega
theorem ne_zero_has {c m : Nat} {i : Int} (h : c = 0 ↔ hasN m i = false) : (((c : Nat) : Int) != 0) = hasN m i := by
 cases hb : hasN m i
 ·rw [h.2 hb]; rfl
 ·have : c ≠ 0 := fun e => by rw [h.1 e] at hb; cases hb
  simp [this]
theorem shr_down (m : Nat) (hm : m < 2 ^ 64) (n : Int) (h : 1 ≤ n) : Op.shift BinOp.shr IntKind.u64 (m : Int) IntKind.i64 n = pure (.int .u64 (downN m n : Int)) := by
 by_cases h64 : n ≤ 64
 ·rw [shift_shr_u64 _ _ _ (by omega) h64]
  have : (m : Int) / 2 ^ n.toNat = ((downN m n : Nat) : Int) := by
   unfold downN; rw [if_neg (by omega), Nat.shiftRight_eq_div_pow]; simp
  rw [this]
 ·have hz : downN m n = 0 := down_far hm n (by omega)
  have hmn : min n.toNat IntKind.u64.bits = 64 := by show min n.toNat 64 = 64; omega
  have hq : (m : Int).fdiv (2 ^ 64) = 0 := by rw [Int.fdiv_eq_ediv_of_nonneg _ (by decide)]; omega
  rw [hz]
  have hn : ¬ n < 0 := by omega
  simp [Op.shift, hmn, hn]
  rw [show (m : Int).fdiv 18446744073709551616 = 0 from hq]
theorem bit_in (F : Fence) (n : Nat) (hf : F.fn 227) (hro : F.round = none) (i : Int) (w : World) :
  CallsIn F n Tryz.prog 227 #[.int .i64 i] w fun e w' => e = .returned (.int .u64 (bitN i : Int)) ∧ w' = w := by
 refine callsIn_of_wp Tryz.func227 rfl hf ?_ hro
 simp only [Tryz.ntmps227, List.size_toArray, List.length_cons, List.length_nil, Nat.reduceAdd, Nat.reduceSub, Array.replicate_succ, Array.replicate_zero, List.push_toArray, List.append_toArray, List.nil_append, List.cons_append]
 by_cases h0 : i < 0
 ·gi_wp2
  go_ret
  exact ⟨ret_int (by unfold bitN; rw [if_neg (by omega)]; rfl), rfl⟩
 ·by_cases h1 : 64 ≤ i
  ·gi_wp2
   go_ret
   exact ⟨ret_int (by unfold bitN; rw [if_neg (by omega)]; rfl), rfl⟩
  ·gi_wp2
   go_ret
   exact ⟨ret_int (wrap_pow i (by omega) (by omega)), rfl⟩
set_option maxHeartbeats 400000 in
theorem has_in (F : Fence) (n : Nat) (hf : F.fn 210) (hg : F.fn 227) (hro : F.round = none) (hn : 1 ≤ n) (m : Nat) (hm : m < 2 ^ 64) (i : Int) (w : World) :
  CallsIn F n Tryz.prog 210 #[.int .u64 (m : Int), .int .i64 i] w fun e w' => e = .returned (.bool (hasN m i)) ∧ w' = w := by
 have c := bit_in F (n - 1) hg hro i w
 have hb := bitN_lt i
 have ha := hide (and_bitN m i)
 refine callsIn_of_wp Tryz.func210 rfl hf ?_ hro
 simp only [Tryz.ntmps210, List.size_toArray, List.length_cons, List.length_nil, Nat.reduceAdd, Nat.reduceSub, Array.replicate_succ, Array.replicate_zero, List.push_toArray, List.append_toArray, List.nil_append, List.cons_append]
 generalize bitN i = b at *
 gi_wp2_with (gi_at_call 227; refine c.mono ?_; rintro e w1 ⟨rfl, rfl⟩)
 go_ret
 exact ⟨ret_bool (by rw [and_nat m b hm hb]; exact ne_zero_has ha.out), rfl⟩
set_option maxHeartbeats 400000 in
theorem down_any (m : Nat) (hm : m < 2 ^ 64) (n : Int) (w : World) :
  Calls Tryz.prog 114 #[.int .u64 (m : Int), .int .i64 n] w fun e w' => e = .returned (.int .u64 (downN m n : Int)) ∧ w' = w := by
 have hsh : 1 ≤ n → Op.shift BinOp.shr IntKind.u64 (m : Int) IntKind.i64 n = pure (.int .u64 (downN m n : Int)) := shr_down m hm n
 clear hm
 by_cases h : n < 1
 ·go_enter Tryz.func114, Tryz.ntmps114
  go_wp2
  go_ret
  exact ⟨ret_int (by unfold downN; rw [if_pos h]), rfl⟩
 ·have hs := hsh (by omega)
  clear hsh
  go_enter Tryz.func114, Tryz.ntmps114
  go_wp2
  go_ret
  exact ⟨rfl, rfl⟩
set_option maxHeartbeats 400000 in
theorem refHas_any (m : Nat) (hm : m < 2 ^ 64) (i : Int) (w : World) :
  Calls Tryz.prog 119 #[.int .u64 (m : Int), .int .i64 i] w fun e w' => e = .returned (.bool (hasN m i)) ∧ w' = w := by
 by_cases h0 : i < 0
 ·go_enter Tryz.func119, Tryz.ntmps119
  go_wp2
  go_ret
  exact ⟨ret_bool (by rw [hasN_out _ _ (by omega)]), rfl⟩
 ·by_cases h1 : 63 < i
  ·go_enter Tryz.func119, Tryz.ntmps119
   go_wp2
   go_ret
   exact ⟨ret_bool (by rw [hasN_out _ _ (by omega)]), rfl⟩
  ·obtain ⟨K, rfl⟩ := Int.eq_ofNat_of_zero_le (show 0 ≤ i by omega)
   go_enter Tryz.func119, Tryz.ntmps119
   go_wp2
   go_loop [0, 5] (fun mv kv => ∃ (k q : Nat), k ≤ K ∧ kv = .int .i64 (k : Int) ∧ mv = .int .u64 (q : Int) ∧ q < 2 ^ 64 ∧ Hid (q = m / 2 ^ k)) (fun _ kv => K - (intOf kv).toNat)
   case atStart => exact ⟨0, m, by omega, rfl, rfl, hm, hide (by simp)⟩
   case round =>
    obtain ⟨k, q, hk, rfl, rfl, hq, HQ⟩ := hrel
    by_cases hlt : k < K
    ·go_wp2
     go_round
     case rel => exact ⟨k + 1, q / 2, by omega, by go_num, by go_num, by omega, hide (by rw [HQ.out, Nat.div_div_eq_div_mul, Nat.pow_succ])⟩
     case measure => simp [intOf]; omega
    ·obtain rfl : k = K := by omega
     go_wp2
     go_ret
     refine ⟨ret_bool ?_, rfl⟩
     rw [hasN_cast _ _ (by omega), has_half, ← HQ.out]
     rw [Bool.eq_iff_iff]; simp; omega
open Go.RowKit Go.Shelf
attribute [local go_sem] Oper.semAt_some
theorem info3 : (Tryz.prog.info? 3).map (fun i => (i.zero, i.size, i.bytes)) = some (some (.int .i64 0), 1, 8) := by kernel_rfl
theorem mixed : Tryz.prog.follows .mixedOrders = true := by kernel_rfl
set_option maxRecDepth 100000 in
set_option maxHeartbeats 2000000 in
theorem all1_in (F : Fence) (n : Nat) (h29 : F.fn 209) (h8 : F.fn 210) (h24 : F.fn 227) (hro : F.round = none) (hn : 2 ≤ n) (m : Nat) (l Bs : Nat) (Kp : World → World → Prop) (hKr : ∀ A, Kp A A) (hKt : ∀ {A B C : World}, Kp A B → Kp B C → Kp A C) (hKc : ∀ {A B : World}, Kp A B → A.cell? ⟨Bs, 0, none⟩ = some (.int .u64 (m : Int)) → B.cell? ⟨Bs, 0, none⟩ = some (.int .u64 (m : Int))) (hm : m < 2 ^ 64) (J Jx : List Nat → World → Prop)
  (hY : ∀ (pre : List Nat) (x : Nat) (W : World), J pre W → pre.length < 64 → YieldAt F (n - 1) Tryz.prog l #[.int .i64 (x : Int)] W fun e W' =>
   (e = .returned (.bool true) ∧ J (pre ++ [x]) W' ∧ Kp W W') ∨ (e = .returned (.bool false) ∧ Jx (pre ++ [x]) W'))
  (W : World) (hBs : W.cell? ⟨Bs, 0, none⟩ = some (.int .u64 (m : Int))) (h0 : J [] W) :
  CallsIn F n Tryz.prog 209 #[.func (.yield l) #[] #[], .pointer (some ⟨Bs, 0, none⟩)] W fun e W' => (∃ v, e = .returned v) ∧
   ((∃ ys, ys = setN m ∧ J ys W') ∨ (∃ pre, pre <+: setN m ∧ Jx pre W')) := by
 have h1 : 1 ≤ n := by omega
 have h1' : 1 ≤ n - 1 := by omega
 have hmx := mixed
 refine callsIn_of_wp Tryz.func209 rfl h29 ?_ hro
 simp only [Tryz.ntmps209, List.size_toArray, List.length_cons, List.length_nil, Nat.reduceAdd, Nat.reduceSub, Array.replicate_succ, Array.replicate_zero, List.push_toArray, List.append_toArray, List.nil_append, List.cons_append]
 gi_wp2
 gi_loopw [4] (fun i wr => ∃ k : Nat, k ≤ 64 ∧ i = .int .i64 (k : Int) ∧ J (setUp m k) wr ∧ Kp W wr)
  (fun i _ => 64 - (intOf i).toNat)
 case atStart => exact ⟨0, Nat.zero_le _, rfl, h0, hKr _⟩
 case round =>
  obtain ⟨k, hk, rfl, hJs, hnx⟩ := hrel
  have hc : wr.cell? ⟨Bs, 0, none⟩ = some (.int .u64 (m : Int)) := hKc hnx hBs
  by_cases hlt' : k < 64
  ·have ch := has_in F (n - 1) h8 h24 hro h1' m hm (k : Int)
   rw [hasN_cast _ _ hlt'] at ch
   cases hb : m.testBit k
   ·rw [hb] at ch
    have HU := hide (setUp_no hb)
    clear hb hY
    gi_wp2_with (gi_at_call 210; refine (ch _).mono ?_; rintro e w1 ⟨rfl, hx⟩; obtain rfl := hx.symm; clear hx)
    refine ⟨fun f h => (by cases h), ?_⟩
    gi_wp2
    go_roundw
    case rel => exact ⟨k + 1, by omega, by go_num, by rw [HU.out]; exact hJs, hnx⟩
    case measure => simp [intOf]; omega
   ·rw [hb] at ch
    have HU := hide (setUp_yes hb)
    clear hb
    obtain ⟨fn, tmps, assign, body, hy, hR⟩ := hY _ k wr hJs (by have := setUp_len m k; omega)
    gi_wp2_with (gi_at_call 210; refine (ch _).mono ?_; rintro e w1 ⟨rfl, hx⟩; obtain rfl := hx.symm; clear hx)
    refine hR.mono ?_
    rintro e W3 (⟨rfl, hJ3, hk3⟩ | ⟨rfl, hJx3⟩)
    ·gi_wp2
     go_roundw
     case rel => exact ⟨k + 1, by omega, by go_num, by rw [HU.out]; exact hJ3, hKt hnx hk3⟩
     case measure => simp [intOf]; omega
    ·gi_wp2
     refine bodyPost_ret (results_none rfl _ _ _) rfl ?_
     exact ⟨⟨_, rfl⟩, .inr ⟨_, by rw [← HU.out]; exact setUp_prefix m (by omega), hJx3⟩⟩
  ·obtain rfl : k = 64 := by omega
   gi_wp2
   go_end0
   exact ⟨⟨_, rfl⟩, .inl ⟨_, rfl, hJs⟩⟩
open Go.RowKit Go.Shelf
attribute [local go_sem] Oper.semAt_some
theorem all_stops (F : Fence) (n : Nat) (h29 : F.fn 209) (h8 : F.fn 210) (h24 : F.fn 227) (hro : F.round = none) (hn : 2 ≤ n) (Bs n₀ : Nat) (m : Nat) (hm : m < 2 ^ 64) (w : World) (hBs : Bs < n₀) (hn₀ : n₀ ≤ w.heap.size)
  (hc : w.cell? ⟨Bs, 0, none⟩ = some (.int .u64 (m : Int))) :
  SeqStopsK F n Tryz.prog 209 #[.pointer (some ⟨Bs, 0, none⟩)] (fun x : Nat => #[Value.int .i64 (x : Int)]) (Below n₀) (fun ys => ys = setN m) (fun pre => pre <+: setN m) 64 w := fun l J Jx W hW _ _ hY h0 =>
 all1_in F n h29 h8 h24 hro hn m l Bs (Below n₀) (fun A => Below.refl _ A) (fun h k => h.trans k) (fun h e => (h.cell (p := ⟨Bs, 0, none⟩) hBs).trans e) hm J Jx hY W ((hW.cell (p := ⟨Bs, 0, none⟩) (by simp; omega)).trans hc) h0
def KeepsAt (Bs : Nat) (A B : World) : Prop := Bs < A.heap.size → B.heap[Bs]? = A.heap[Bs]?
def Fits (p : Nat → Nat → Bool) (l : List Nat) : Prop := ∀ k (h : k < l.length), p k l[k] = true
theorem Fits.nil (p : Nat → Nat → Bool) : Fits p [] := fun _ h => absurd h (Nat.not_lt_zero _)
theorem Fits.snoc {p : Nat → Nat → Bool} {l : List Nat} {x : Nat} (h : Fits p l) (hx : p l.length x = true) : Fits p (l ++ [x]) := by
 intro k hk
 rw [List.length_append, List.length_singleton] at hk
 rcases Nat.lt_or_eq_of_le (Nat.lt_succ_iff.1 hk) with h' | rfl
 ·rw [List.getElem_append_left h']; exact h k h'
 ·simpa using hx
def vals (l : List Nat) : List Value := l.map fun (x : Nat) => Value.int .i64 (x : Int)
def Longest (p : Nat → Nat → Bool) (all l : List Nat) : Prop := Fits p l ∧ (l = all ∨ ∃ x, l ++ [x] <+: all ∧ p l.length x = false)
theorem vals_snoc (l : List Nat) (x : Nat) : vals (l ++ [x]) = vals l ++ [Value.int .i64 (x : Int)] := by simp [vals]
theorem ownsRow_low {W : World} {base base' : Nat} {e : TypeId} {size : Nat} {v : Value} {k : Nat} {xs : List Value} (hb : base' ≤ base) (h : W.ownsRow base e size v k xs) : W.ownsRow base' e size v k xs := by
 refine ⟨h.1, ?_⟩
 rcases h.2 with h | ⟨g, cap, cur, e1, e2, e3⟩
 ·exact .inl h
 ·exact .inr ⟨g, cap, cur, e1, Nat.le_trans hb e2, e3⟩
theorem ownsRow_slice {W : World} {base : Nat} {e : TypeId} {size : Nat} {v : Value} {k : Nat} {xs : List Value} (h : W.ownsRow base e size v k xs) : ∃ a cap, v = .slice a k cap := by
 rcases h.2 with ⟨rfl, rfl⟩ | ⟨g, cap, cur, rfl, _⟩
 ·exact ⟨none, 0, rfl⟩
 ·exact ⟨_, _, rfl⟩
set_option maxRecDepth 100000 in
set_option maxHeartbeats 2000000 in
theorem asLongO_in (F : Fence) (n : Nat) (h26 : F.fn 177) (h29 : F.fn 209) (h8 : F.fn 210) (h24 : F.fn 227) (hro : F.round = none) (hn : 4 ≤ n) (hg : F.fn 179) (p : Nat → Nat → Bool)
  (hp : ∀ (k x : Nat) (W : World), CallsIn F (n - 1 - 1 - 1) Tryz.prog 179 #[.int .i64 (k : Int), .int .i64 (x : Int)] W fun e W' => e = .returned (.bool (p k x)) ∧ W' = W)
  (Bs : Nat) (m : Nat) (hm : m < 2 ^ 64) (w : World) (hBs : Bs < w.heap.size) (hcB : w.cell? ⟨Bs, 0, none⟩ = some (.int .u64 (m : Int))) :
  CallsIn F n Tryz.prog 177 #[.func (.func 209) #[] #[.pointer (some ⟨Bs, 0, none⟩)], .func (.func 179) #[] #[]] w fun e W' => ∃ v l, e = .returned v ∧ Longest p (setN m) l ∧ W'.ownsRow w.heap.size 3 1 v l.length (vals l) ∧ Below w.heap.size w W' := by
 have h1 : 1 ≤ n := by omega
 have h1' : 1 ≤ n - 1 - 1 := by omega
 obtain ⟨i0, hi, hz0, hz1, hz2⟩ := info_parts info3
 refine callsIn_of_wp_marks Tryz.func177 rfl h26 ?_ hro
 simp only [Tryz.ntmps177, List.size_toArray, List.length_cons, List.length_nil, Nat.reduceAdd, Nat.reduceSub, Array.replicate_succ, Array.replicate_zero, List.push_toArray, List.append_toArray, List.nil_append, List.cons_append]
 gi_wp2
 have hfit0 : (w.alloc (.cells #[.func (.func 179) #[] #[]] 188)).cell? ⟨w.heap.size, 0, none⟩ = some (.func (.func 179) #[] #[]) := (Boxed.new w 188 (.func (.func 179) #[] #[])).cell
 have hBw : Below w.heap.size w (w.alloc (.cells #[.func (.func 179) #[] #[]] 188)) := (Below.refl _ w).alloc (Nat.le_refl _) _
 have hsz : (w.alloc (.cells #[.func (.func 179) #[] #[]] 188)).heap.size = w.heap.size + 1 := World.size_alloc _ _
 obtain ⟨w1, hw1⟩ : ∃ w1, w.alloc (.cells #[.func (.func 179) #[] #[]] 188) = w1 := ⟨_, rfl⟩
 rw [hw1] at hfit0 hBw hsz ⊢
 clear hw1
 rw [← hsz]
 have HSZ := hide hsz
 clear hsz
 have hbs1 : Bs < w1.heap.size := by have := HSZ.out; omega
 have hfl : w.heap.size < w1.heap.size := by have := HSZ.out; omega
 have hc1 : w1.cell? ⟨Bs, 0, none⟩ = some (.int .u64 (m : Int)) := (hBw.cell (p := ⟨Bs, 0, none⟩) hBs).trans hcB
 have bO := Boxed.new w1 34 (.slice none 0 0)
 have hB0 : Below w1.heap.size w1 (w1.alloc (.cells #[.slice none 0 0] 34)) := (Below.refl _ w1).alloc (Nat.le_refl _) _
 have hc2 : (w1.alloc (.cells #[.slice none 0 0] 34)).cell? ⟨Bs, 0, none⟩ = some (.int .u64 (m : Int)) := (hB0.cell (p := ⟨Bs, 0, none⟩) hbs1).trans hc1
 refine wpIn_rangeFunc_ownG hro h1 (gf := 209) (lb := #[.pointer (some ⟨Bs, 0, none⟩)]) rfl h29 (enters_of Tryz.func209 (by kernel_rfl) rfl)
  (all_stops F (n - 1) h29 h8 h24 hro (by omega) Bs w1.heap.size m hm _ hbs1 (by simp) hc2) belowK_t (belowK_b (by simp)) (Below.refl _ _) (fun _ => rfl)
  (fun pre W => (∃ v, Boxed W w1.heap.size 34 v ∧ W.ownsRow w1.heap.size 3 1 v pre.length (vals pre) ∧ Fits p pre) ∧ Below w1.heap.size w1 W)
  (fun c pre W => (∃ v, Boxed W w1.heap.size 34 v ∧ W.ownsRow w1.heap.size 3 1 v pre.dropLast.length (vals pre.dropLast) ∧ (c = .exit 0 ∧ ∃ l x, pre = l ++ [x] ∧ Fits p l ∧ p l.length x = false)) ∧ Below w1.heap.size w1 W)
  (OwnFrom.and (Own.from (holdsRow_own w1.heap.size w1.heap.size 34 3 1 (fun pre : List Nat => pre.length) (fun pre => vals pre) (fun pre _ => Fits p pre)) _) (ownFrom_below (Nat.le_refl _) (by simp)))
  (fun c => OwnFrom.and (Own.from (holdsRow_own w1.heap.size w1.heap.size 34 3 1 (fun pre : List Nat => pre.dropLast.length) (fun pre => vals pre.dropLast) (fun pre _ => c = .exit 0 ∧ ∃ l x, pre = l ++ [x] ∧ Fits p l ∧ p l.length x = false)) _) (ownFrom_below (Nat.le_refl _) (by simp)))
  ⟨⟨_, bO, World.ownsRow_nil _ _ _ _, Fits.nil p⟩, hB0⟩
  (fun x => { tmps := #[.func (.func 209) #[] #[.pointer (some ⟨Bs, 0, none⟩)], .func (.func 179) #[] #[], undef, .pointer (some ⟨w.heap.size, 0, none⟩), .slice none 0 0, .pointer (some ⟨w1.heap.size, 0, none⟩), .int .i64 (x : Int), .func (.func 209) #[] #[.pointer (some ⟨Bs, 0, none⟩)], .int .i64 (x : Int), undef, undef, undef, undef, undef, undef, undef, undef, undef, undef, undef], defers := [] }) ?assign ?body ?done ?stop
 case assign =>
  intro l x W K hK
  gi_wp2
  exact hK
 case body =>
  rintro l pre x W ⟨⟨v, hv, hrow, hfits⟩, hB⟩ hlt
  have hc := hv.cell
  have hcf : W.cell? ⟨w.heap.size, 0, none⟩ = some (.func (.func 179) #[] #[]) := (hB.cell (p := ⟨w.heap.size, 0, none⟩) hfl).trans hfit0
  obtain ⟨va, vcap, rfl⟩ := ownsRow_slice hrow
  have cp := fun W => hp pre.length x W
  cases hb : p pre.length x
  ·simp only [hb] at cp
   have HB := hide hb
   clear hb
   gi_wp2_with (gi_at_call 179; refine (CallsIn.inRound l (cp _)).mono ?_; rintro e w5 ⟨rfl, hx⟩; obtain rfl := hx.symm; clear hx)
   exact ⟨KeepsFrom.refl _ _, ⟨_, hv, by simpa using hrow, rfl, pre, x, rfl, hfits, HB.out⟩, hB⟩
  ·simp only [hb] at cp
   have HB := hide hb
   clear hb
   gi_wp2_with (first | (gi_at_call 179; refine (CallsIn.inRound l (cp _)).mono ?_; rintro e w5 ⟨rfl, hx⟩; obtain rfl := hx.symm; clear hx) | (gi_at_builtin; refine wpListIn_append_own _ rfl _ _ 34 rfl w1.heap.size 3 i0 (.int .i64 0) 1 8 Tryz.underlying34 hi hz0 hz1 hz2 rfl (by decide) _ _ _ rfl (hrow.alloc _) ⟨W.heap.size, 0, none⟩ 1 1 [.int .i64 (x : Int)] rfl rfl (cell_one_new _ _ _) (by simp [Value.oneCell']) (by unfold maxLen; omega) (by omega) (by have := hB.size; simp; omega) ?_; intro v' w2 hown' hgrow _; obtain ⟨g', cap', rfl⟩ := ownsRow_succ hown'; obtain ⟨hv1, hv2, hr2, hk2, hb2⟩ := hv.appended (by decide) hrow hB.size (Nat.le_refl _) hown' hgrow; have hc1 := hv1.cell; have hf1 := hv1.frozen))
   exact ⟨hk2.from _, hb2, ⟨_, hv2, by rw [vals_snoc]; simpa using hr2, hfits.snoc HB.out⟩, hB.trans hb2⟩
 case done =>
  rintro D ys W hD rfl ⟨⟨v, hv, hrow, hfits⟩, hB⟩ hK
  have hc := hv.cell
  gi_wp2
  refine ⟨by simp, .inl ⟨_, _, rfl, run_takeDeferred hK, ?_⟩⟩
  exact ⟨_, results_tmp rfl _ _ _, v, setN m, rfl, ⟨hfits, .inl rfl⟩, ownsRow_low (Nat.le_of_lt hfl) (ownsRow_putObj hrow _ hK rfl), hBw.trans ((hB.trans (belowK_b (w := w1) (Nat.le_refl _) W D _ _ (by simp at hD; omega) hK rfl rfl)).mono (Nat.le_of_lt hfl))⟩
 case stop =>
  rintro D c pre W hD hpre ⟨⟨v, hv, hrow, rfl, l, x, rfl, hfits, hno⟩, hB⟩ hK
  have hc := hv.cell
  rw [List.dropLast_concat] at hrow
  gi_wp2
  refine ⟨by simp, .inl ⟨_, _, rfl, run_takeDeferred hK, ?_⟩⟩
  exact ⟨_, results_tmp rfl _ _ _, v, l, rfl, ⟨hfits, .inr ⟨x, hpre, hno⟩⟩, ownsRow_low (Nat.le_of_lt hfl) (ownsRow_putObj hrow _ hK rfl), hBw.trans ((hB.trans (belowK_b (w := w1) (Nat.le_refl _) W D _ _ (by simp at hD; omega) hK rfl rfl)).mono (Nat.le_of_lt hfl))⟩
open Go.RowKit Go.Shelf
attribute [local go_sem] Oper.semAt_some
theorem fits_range {l : List Nat} (h : Fits (fun k x => decide (x = k)) l) : l = List.range l.length := by
 apply List.ext_getElem (by simp)
 intro k h1 h2
 have := of_decide_eq_true (h k h1)
 rw [List.getElem_range]; exact this
theorem longest_ones {m : Nat} {l : List Nat} (h : Longest (fun k x => decide (x = k)) (setN m) l) : onesN m = l.length := by
 have hl := fits_range h.1
 rcases h.2 with e | ⟨x, hp, hx⟩
 ·exact ones_done (by rw [← e]; exact hl)
 ·refine ones_stop (x := x) (by rw [← hl]; exact hp) (of_decide_eq_false hx)
set_option maxHeartbeats 400000 in
theorem all_iter_in (F : Fence) (n : Nat) (hf : F.fn 178) (hro : F.round = none) (m : Nat) (w : World) :
  CallsIn F n Tryz.prog 178 #[.int .u64 (m : Int)] w fun e w' => e = .returned (.func (.func 209) #[] #[.pointer (some ⟨w.heap.size, 0, none⟩)]) ∧ w' = w.alloc (.cells #[.int .u64 (m : Int)] 77) := by
 refine callsIn_of_wp Tryz.func178 rfl hf ?_ hro
 simp only [Tryz.ntmps178, List.size_toArray, List.length_cons, List.length_nil, Nat.reduceAdd, Nat.reduceSub, Array.replicate_succ, Array.replicate_zero, List.push_toArray, List.append_toArray, List.nil_append, List.cons_append]
 gi_wp2
 go_ret
 exact ⟨rfl, rfl⟩
theorem all_iter_any (m : Nat) (w : World) :
  Calls Tryz.prog 178 #[.int .u64 (m : Int)] w fun e w' => e = .returned (.func (.func 209) #[] #[.pointer (some ⟨w.heap.size, 0, none⟩)]) ∧ w' = w.alloc (.cells #[.int .u64 (m : Int)] 77) :=
 (callsIn_wide (n := 8)).1 (all_iter_in _ 8 trivial rfl m w)
theorem ones1_in (F : Fence) (n : Nat) (hf : F.fn 179) (hro : F.round = none) (k x : Nat) (w : World) :
  CallsIn F n Tryz.prog 179 #[.int .i64 (k : Int), .int .i64 (x : Int)] w fun e w' => e = .returned (.bool (decide (x = k))) ∧ w' = w := by
 refine callsIn_of_wp Tryz.func179 rfl hf ?_ hro
 simp only [Tryz.ntmps179, List.size_toArray, List.length_cons, List.length_nil, Nat.reduceAdd, Nat.reduceSub, Array.replicate_succ, Array.replicate_zero, List.push_toArray, List.append_toArray, List.nil_append, List.cons_append]
 gi_wp2
 go_ret
 exact ⟨ret_bool (by rw [Bool.eq_iff_iff]; simp; omega), rfl⟩
theorem boxU (m : Nat) (w : World) : (w.alloc (.cells #[.int .u64 (m : Int)] 77)).cell? ⟨w.heap.size, 0, none⟩ = some (.int .u64 (m : Int)) := (Boxed.new w 77 (.int .u64 (m : Int))).cell
theorem asLongO_any (Bs : Nat) (m : Nat) (hm : m < 2 ^ 64) (w : World) (hBs : Bs < w.heap.size) (hcB : w.cell? ⟨Bs, 0, none⟩ = some (.int .u64 (m : Int))) :
  Calls Tryz.prog 177 #[.func (.func 209) #[] #[.pointer (some ⟨Bs, 0, none⟩)], .func (.func 179) #[] #[]] w fun e W' => ∃ v l, e = .returned v ∧ Longest (fun k x => decide (x = k)) (setN m) l ∧ W'.ownsRow w.heap.size 3 1 v l.length (vals l) ∧ Below w.heap.size w W' :=
 (callsIn_wide (n := 8)).1 (asLongO_in _ 8 trivial trivial trivial trivial rfl (by decide) trivial _ (fun k x W => ones1_in _ _ trivial rfl k x W) Bs m hm w hBs hcB)
set_option maxHeartbeats 400000 in
theorem ones_any (m : Nat) (hm : m < 2 ^ 64) (w : World) :
  Calls Tryz.prog 149 #[.int .u64 (m : Int)] w fun e w' => e = .returned (.int .i64 (onesN m : Int)) ∧ Below w.heap.size w w' := by
 have c := all_iter_any m w
 have c2 := asLongO_any w.heap.size m hm (w.alloc (.cells #[.int .u64 (m : Int)] 77)) (by simp) (boxU m w)
 have hb0 : Below w.heap.size w (w.alloc (.cells #[.int .u64 (m : Int)] 77)) := (Below.refl _ _).alloc (Nat.le_refl _) _
 obtain ⟨w1, hw1⟩ : ∃ w1, w.alloc (.cells #[.int .u64 (m : Int)] 77) = w1 := ⟨_, rfl⟩
 rw [hw1] at c c2 hb0
 clear hw1
 go_enter Tryz.func149, Tryz.ntmps149
 go_wp2_with (first | (go_at_call 178; refine c.mono ?_; rintro e w3 ⟨rfl, hx⟩; obtain rfl := hx.symm; clear hx) | (go_at_call 177; refine c2.mono ?_; rintro e w2 ⟨v, l, rfl, hl, hrow, hb⟩; obtain ⟨va, vcap, rfl⟩ := ownsRow_slice hrow; have HL := hide (longest_ones hl); clear hl))
 go_ret
 exact ⟨ret_int (by rw [HL.out]), hb0.trans (hb.mono hb0.size)⟩
open Go Go.RowKit
section
variable {P : Program} (w : World)
end
end Go.Proofs.YtnfijfnnpbenfaaGreatDoor.Wn
namespace Go.Proofs.YtnfijfnnpbenfaaGreatDoor.Wn
set_option maxRecDepth 100000
open Go.RowKit
theorem own_cell {w : World} {base : Nat} {e : TypeId} {g n cap : Nat} {ts : List Int} {p : Nat} {x : Int} (h : w.ownsRow base e 1 (.slice (some ⟨g, 0, none⟩) n cap) n (ts.map (Value.int .i64))) (hp : ts[p]? = some x) : w.cell? ⟨g, p, none⟩ = some (.int .i64 x) := by
 have := h.cells (g := g) rfl p (.int .i64 x) (by rw [List.getElem?_map, hp]; rfl)
 by_cases h0 : p = 0
 ·rw [h0] at this ⊢; simpa [Addr.add] using this
 ·simpa [Addr.add, h0] using this
theorem own_rowI {w : World} {base : Nat} {v : Value} {zs : List Int} (h : w.ownsRow base 3 1 v zs.length (zs.map (Value.int .i64))) (hm : zs.length ≤ maxLen) :
  ∃ a cap, v = .slice a zs.length cap ∧ RowI w a zs := by
 rcases h.2 with ⟨rfl, h0⟩ | ⟨g, cap, cur, rfl, hb, hg, hn, hcm, hcs, ht⟩
 ·have : zs = [] := List.eq_nil_of_length_eq_zero h0
  subst this
  exact ⟨none, 0, rfl, hm, Or.inl rfl⟩
 ·refine ⟨_, cap, rfl, hm, Or.inr ⟨g, 0, rfl, (Array.getElem?_eq_some_iff.1 hg).1, fun j hj => ?_⟩⟩
  rw [Nat.zero_add, List.getElem?_eq_getElem hj]
  exact own_cell h (List.getElem?_eq_getElem hj)
theorem vals_ints (l : List Nat) : vals l = (ints l).map (Value.int .i64) := by simp [vals, ints]
theorem ints_length (l : List Nat) : (ints l).length = l.length := by simp [ints]
theorem own_set {w : World} {base : Nat} {v : Value} {l : List Nat} (h : w.ownsRow base 3 1 v l.length (vals l)) (hl : l.length ≤ 64) :
  ∃ a cap, v = .slice a l.length cap ∧ RowI w a (ints l) := by
 rw [vals_ints, ← ints_length l] at h
 have := own_rowI h (by rw [ints_length]; unfold maxLen; omega)
 rwa [ints_length] at this
set_option maxHeartbeats 1000000 in
theorem refList_any (m : Nat) (hm : m < 2 ^ 64) (w : World) :
  Calls Tryz.prog 120 #[.int .u64 (m : Int)] w fun e w' => ∃ v, e = .returned v ∧ w'.ownsRow w.heap.size 3 1 v (setN m).length (vals (setN m)) ∧ Below w.heap.size w w' := by
 obtain ⟨i0, hi, hz0, hz1, hz2⟩ := info_parts info3
 go_enter Tryz.func120, Tryz.ntmps120
 go_wp2
 go_loopw [3, 4] (fun v kv wr => ∃ k : Nat, k ≤ 64 ∧ kv = .int .i64 (k : Int) ∧ wr.ownsRow w.heap.size 3 1 v (setUp m k).length (vals (setUp m k)) ∧ Below w.heap.size w wr) (fun _ kv _ => 64 - (intOf kv).toNat)
 case atStart => exact ⟨0, by omega, rfl, World.ownsRow_nil _ _ _ _, Below.refl _ _⟩
 case round =>
  obtain ⟨k, hk, rfl, hrow, hB⟩ := hrel
  by_cases hlt : k < 64
  ·have ch := refHas_any m hm (k : Int)
   rw [hasN_cast _ _ hlt] at ch
   cases hb : m.testBit k
   ·rw [hb] at ch
    have HU := hide (setUp_no hb)
    clear hb
    obtain ⟨va, vcap, rfl⟩ := ownsRow_slice hrow
    go_wp2_with (go_at_call 119; refine (ch _).mono ?_; rintro e w1 ⟨rfl, hx⟩; obtain rfl := hx.symm; clear hx)
    go_roundw
    case rel => exact ⟨k + 1, by omega, by go_num, by rw [HU.out]; exact hrow, hB⟩
    case measure => simp [intOf]; omega
   ·rw [hb] at ch
    have HU := hide (setUp_yes hb)
    clear hb
    have hlen := setUp_len m k
    generalize setUp m k = l at *
    obtain ⟨va, vcap, rfl⟩ := ownsRow_slice hrow
    go_wp2_with (first | (go_at_call 119; refine (ch _).mono ?_; rintro e w1 ⟨rfl, hx⟩; obtain rfl := hx.symm; clear hx) | (at_builtin; refine wpList_append_own_src _ rfl _ _ 34 34 rfl w.heap.size 3 i0 (.int .i64 0) 1 8 Tryz.underlying34 hi hz0 hz1 hz2 rfl _ l.length (vals l) rfl (hrow.alloc _) (.slice (some ⟨wr.heap.size, 0, none⟩) 1 1) 1 [.int .i64 (k : Int)] rfl (Src.ofSlice _ Tryz.underlying34 ⟨wr.heap.size, 0, none⟩ 1 1 _ (by simp) (cell_one_new _ _ _) (by simp [Value.oneCell'])) ?c1 ?c2 ?c3 ?_))
    case c1 => unfold maxLen; omega
    case c2 => omega
    case c3 => have := hB.size; simp; omega
    intro v2 w2 hown2 hgr2
    have hB1 : Below w.heap.size w (wr.alloc (.cells #[.int .i64 (k : Int)] 3)) := hB.alloc hB.size _
    have hB2 : Below w.heap.size w w2 := hB1.grown hgr2 (by have := hB.size; simp; omega) (fun j hj => ((hrow.alloc (.cells #[.int .i64 (k : Int)] 3)).lt j hj).1)
    obtain ⟨va, vcap, rfl⟩ := ownsRow_slice hown2
    go_wp2_with fail
    go_roundw
    case rel => exact ⟨k + 1, by omega, by go_num, by rw [HU.out, vals_snoc]; simpa using hown2, hB2⟩
    case measure => simp [intOf]; omega
  ·obtain rfl : k = 64 := by omega
   obtain ⟨va, vcap, rfl⟩ := ownsRow_slice hrow
   go_wp2_with fail
   go_ret
   exact ⟨_, rfl, hrow, hB⟩
theorem rowI_cell {w wr : World} {a : Option Addr} {zs : List Int} (h : RowI w a zs) (hB : Below w.heap.size w wr) {k : Nat} (hk : k < zs.length) : ∃ b off, a = some ⟨b, off, none⟩ ∧ wr.cell? ⟨b, off + k, none⟩ = some (.int .i64 zs[k]) := by
 rcases h.2 with rfl | ⟨b, off, rfl, hb, hc⟩
 ·simp at hk
 ·refine ⟨b, off, rfl, ?_⟩
  rw [hB.cell (p := ⟨b, off + k, none⟩) hb, hc k hk, List.getElem?_eq_getElem hk]; rfl
set_option maxRecDepth 100000
def goodW (B : Int) (m : Nat) : Bool := decide (1 ≤ B ∧ B ≤ 1099511627777) && !m.testBit 0 && decide (downN m (1099511627777 - B) = 0)
def setB (B : Int) (m : Nat) : Int := B + (onesN m : Int)
def setM (m : Nat) : Nat := downN m (onesN m : Int)
theorem down_shift (m : Nat) (n : Int) (h : 0 ≤ n) : downN m n = m >>> n.toNat := by
 unfold downN; split
 ·rw [show n.toNat = 0 by omega]; rfl
 ·rfl
theorem down_zero {m : Nat} (n : Int) (h : 0 ≤ n) : downN m n = 0 ↔ ∀ j, m.testBit j = true → (j : Int) < n := by
 rw [down_shift m n h, Nat.shiftRight_eq_div_pow]
 constructor
 ·intro e j hj
  have hlt : m < 2 ^ n.toNat := by
   rcases Nat.div_eq_zero_iff.1 e with h' | h'
   ·exact absurd h' (Nat.ne_of_gt (Nat.two_pow_pos _))
   ·exact h'
  rcases Nat.lt_or_ge j n.toNat with h' | h'
  ·omega
  ·rw [Nat.testBit_lt_two_pow (Nat.lt_of_lt_of_le hlt (Nat.pow_le_pow_right (by omega) h'))] at hj; cases hj
 ·intro H
  apply Nat.div_eq_of_lt
  apply Nat.lt_pow_two_of_testBit
  intro i hi
  cases hb : m.testBit i
  ·rfl
  ·have := H i hb; omega
theorem good_iff {B : Int} {m : Nat} : goodW B m = true ↔ (1 ≤ B ∧ B ≤ 1099511627777) ∧ m.testBit 0 = false ∧ ∀ j, m.testBit j = true → B + (j : Int) ≤ 1099511627776 := by
 unfold goodW
 rw [Bool.and_eq_true, Bool.and_eq_true, decide_eq_true_eq, decide_eq_true_eq, Bool.not_eq_true']
 constructor
 ·rintro ⟨⟨h1, h2⟩, h3⟩
  exact ⟨h1, h2, fun j hj => by have := (down_zero _ (by omega)).1 h3 j hj; omega⟩
 ·rintro ⟨h1, h2, h3⟩
  exact ⟨⟨h1, h2⟩, (down_zero _ (by omega)).2 fun j hj => by have := h3 j hj; omega⟩
theorem onesUp_ge (m : Nat) : ∀ f n, n ≤ onesUp m f n ∧ onesUp m f n ≤ n + f ∧ (∀ j, n ≤ j → j < onesUp m f n → m.testBit j = true) ∧ (onesUp m f n < n + f → m.testBit (onesUp m f n) = false) := by
  intro f
  induction f with
  | zero => intro n; unfold onesUp; exact ⟨Nat.le_refl _, Nat.le_refl _, fun j a b => absurd b (by omega), fun h => absurd h (by omega)⟩
  | succ f ih =>
    intro n
    unfold onesUp
    cases hb : m.testBit n
    · simp only [Bool.false_eq_true, if_false]
      exact ⟨Nat.le_refl _, by omega, fun j a b => absurd b (by omega), fun _ => hb⟩
    · simp only [if_true]
      obtain ⟨h1, h2, h3, h4⟩ := ih (n + 1)
      refine ⟨by omega, by omega, fun j a b => ?_, fun h => h4 (by omega)⟩
      rcases Nat.lt_or_eq_of_le a with h | rfl
      · exact h3 j h b
      · exact hb
theorem ones_le (m : Nat) : onesN m ≤ 64 := by have := (onesUp_ge m 64 0).2.1; unfold onesN; omega
theorem ones_set (m : Nat) {j : Nat} (h : j < onesN m) : m.testBit j = true := (onesUp_ge m 64 0).2.2.1 j (Nat.zero_le _) h
theorem ones_end (m : Nat) (h : onesN m < 64) : m.testBit (onesN m) = false := (onesUp_ge m 64 0).2.2.2 (by unfold onesN at h; omega)
theorem ones_zero (m : Nat) : onesN m = 0 ↔ m.testBit 0 = false := by
 constructor
 ·intro h; have := ones_end m (by omega); rwa [h] at this
 ·intro h
  rcases Nat.eq_zero_or_pos (onesN m) with h' | h'
  ·exact h'
  ·rw [ones_set m h'] at h; cases h
theorem no_high {m : Nat} (h : m < 2 ^ 64) {j : Nat} (hj : 64 ≤ j) : m.testBit j = false :=
 Nat.testBit_lt_two_pow (Nat.lt_of_lt_of_le h (Nat.pow_le_pow_right (by omega) hj))
set_option maxRecDepth 100000
open Go Go.RowKit
section
variable {P : Program} {ops : Array Oper} {Q : Exit → Act → World → Prop}
end
end Go.Proofs.YtnfijfnnpbenfaaGreatDoor.Wn
namespace Go.Proofs.YtnfijfnnpbenfaaGreatDoor.Wn
set_option maxRecDepth 100000
open Go.RowKit
theorem exec_load {P : Program} {o : Oper} {a : Act} {w : World} {ty : TypeId} {x : Operand} {b off : Nat} {v : Value} (ho : o.op = .load ty x) (hx : a.eval x = .pointer (some ⟨b, off, none⟩)) (hr : (loadVar ty ⟨b, off, none⟩).run P w = .ok v w) : (execOp a.eval o).run P w = .ok (.value v) w := by
 unfold execOp
 simp only [ho, hx, Instr.loadAt, Instr.sureAddr, Sem.run_bind, Sem.run_pure, Result.andThen_ok, hr]
theorem exec_store {P : Program} {o : Oper} {a : Act} {w w' : World} {ty : TypeId} {x y : Operand} {b off : Nat} {v : Value} (ho : o.op = .store ty x y) (hx : a.eval x = .pointer (some ⟨b, off, none⟩)) (hy : a.eval y = v) (hr : (storeVar ty ⟨b, off, none⟩ v).run P w = .ok () w') : (execOp a.eval o).run P w = .ok .skip w' := by
 unfold execOp
 simp only [ho, hx, hy, Instr.storeAt, Instr.sureAddr, Sem.run_bind, Sem.run_pure, Result.andThen_ok, hr]
abbrev winC (B m : Int) : List Value := [.int .i64 B, .int .u64 m]
abbrev winV (B m : Int) : Value := .agg #[.int .i64 B, .int .u64 m]
theorem infoW : (Tryz.prog.info? 79).map (·.size) = some 2 := by kernel_rfl
theorem win_load {w : World} {b : Nat} {B m : Int} (h : w.rangeAt b 0 (winC B m)) : (loadVar 79 ⟨b, 0, none⟩).run Tryz.prog w = .ok (winV B m) w :=
 run_loadVar_mid (P := Tryz.prog) w b 0 79 (winC B m) _ h Tryz.underlying79 rfl infoW
theorem win_store {w : World} {b : Nat} {B m : Int} (hT : w.there b 0 2) : (storeVar 79 ⟨b, 0, none⟩ (winV B m)).run Tryz.prog w = .ok () (w.setCells b 0 (winC B m)) :=
 run_storeVar_mid (P := Tryz.prog) w b 0 79 #[.int .i64 B, .int .u64 m] hT infoW (by simp [Value.oneCell'])
theorem win_set {w : World} {b : Nat} {B m : Int} (hT : w.there b 0 2) : (w.setCells b 0 (winC B m)).rangeAt b 0 (winC B m) :=
 World.rangeAt_setCells_same w b 0 (winC B m) (by simpa using hT)
theorem win_apart {w : World} {b c : Nat} {B m B' m' : Int} (h : w.rangeAt c 0 (winC B m)) (hne : c ≠ b) : (w.setCells b 0 (winC B' m')).rangeAt c 0 (winC B m) :=
 World.rangeAt_setCells_apart h b 0 _ (Or.inl hne)
theorem two_box {w w1 : World} {B m : Int} (hb : Below ((w.alloc (.cells #[.int .i64 B, .int .u64 m] 79)).alloc (.cells #[.int .i64 0, .int .u64 0] 79)).heap.size ((w.alloc (.cells #[.int .i64 B, .int .u64 m] 79)).alloc (.cells #[.int .i64 0, .int .u64 0] 79)) w1) :
  w1.rangeAt w.heap.size 0 (winC B m) ∧ w1.there (w.heap.size + 1) 0 2 ∧ Below w.heap.size w w1 ∧ w.heap.size + 2 ≤ w1.heap.size := by
 have hs : (w.alloc (.cells #[.int .i64 B, .int .u64 m] 79)).heap.size = w.heap.size + 1 := World.size_alloc _ _
 have r1 := range_new w #[.int .i64 B, .int .u64 m] 79
 have b1 : Below w.heap.size w (w.alloc (.cells #[.int .i64 B, .int .u64 m] 79)) := (Below.refl _ _).alloc (Nat.le_refl _) _
 generalize w.alloc (.cells #[.int .i64 B, .int .u64 m] 79) = wa at *
 have hs2 : (wa.alloc (.cells #[.int .i64 0, .int .u64 0] 79)).heap.size = w.heap.size + 2 := by rw [World.size_alloc, hs]
 have t2 := there_new wa #[.int .i64 0, .int .u64 0] 79
 have b2 : Below wa.heap.size wa (wa.alloc (.cells #[.int .i64 0, .int .u64 0] 79)) := (Below.refl _ _).alloc (Nat.le_refl _) _
 have r2 := range_below r1 b2 (by omega)
 generalize wa.alloc (.cells #[.int .i64 0, .int .u64 0] 79) = wb at *
 rw [hs] at t2
 refine ⟨range_below r2 hb (by omega), there_below t2 hb (by omega), (b1.trans (b2.mono (by omega))).trans (hb.mono (by omega)), ?_⟩
 have := hb.size
 omega
theorem one_box {w w1 : World} {B m : Int} (hb : Below (w.alloc (.cells #[.int .i64 B, .int .u64 m] 79)).heap.size (w.alloc (.cells #[.int .i64 B, .int .u64 m] 79)) w1) :
  w1.rangeAt w.heap.size 0 (winC B m) ∧ Below w.heap.size w w1 ∧ w.heap.size < w1.heap.size := by
 have hs : (w.alloc (.cells #[.int .i64 B, .int .u64 m] 79)).heap.size = w.heap.size + 1 := World.size_alloc _ _
 have r1 := range_new w #[.int .i64 B, .int .u64 m] 79
 have b1 : Below w.heap.size w (w.alloc (.cells #[.int .i64 B, .int .u64 m] 79)) := (Below.refl _ _).alloc (Nat.le_refl _) _
 generalize w.alloc (.cells #[.int .i64 B, .int .u64 m] 79) = wa at *
 refine ⟨range_below r1 hb (by omega), b1.trans (hb.mono (by omega)), ?_⟩
 have := hb.size
 omega
end Go.Proofs.YtnfijfnnpbenfaaGreatDoor.Wn
