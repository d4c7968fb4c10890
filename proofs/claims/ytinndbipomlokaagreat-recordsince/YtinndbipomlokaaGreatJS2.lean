/- The place a reader is at: number.; A reader reads a number: Num.; slices.Clone over bytes, and Read.; A reader reads a text: next, Text.; The document's reader: number.; The document's reader: Num.; The readers: Raw of the program's; Read of the document's.; message's reader: what the chapter's example needs; what was put is read back; Decode of a status; the chapter's example; rows of signs, envelopes, requests; envelopes and requests compared; lists compared; batches and certs compared; what was held, compared; lists of what was held, compared; changes; changes compared -/
import Derived.Test.YtinndbipomlokaaGreatJS0
import Derived.Test.YtinndbipomlokaaGreatJS1
import Derived.BigQuiet
import Derived.Lib.ConvBytes
import Derived.Laws.ResultCell
namespace Go.Proofs.YtinndbipomlokaaGreat
open Go.RowKit
open Sha Tal
def numR : List Int → Int × Nat × Int
  | [] => (0, 0, 10)
  | k :: tl => if 8 < k then (0, 0, 11) else if (tl.length : Int) < k then (0, 0, 10) else
      if (valR (tl.take k.toNat)).2 = 0 then ((valR (tl.take k.toNat)).1, 1 + k.toNat, 0) else (0, 0, (valR (tl.take k.toNat)).2)
theorem valR_err (ds : List Int) (h : (valR ds).2 ≠ 0) : valR ds = (0, 11) := by
 unfold valR at h ⊢
 split
 ·rfl
 ·rename_i hh; rw [if_neg hh] at h; exact absurd rfl h
theorem Rest.cell {w : World} {R : Nat} {rest : List Int} (h : Rest w R rest) : ∃ a cap, w.cell? ⟨R, 0, none⟩ = some (.slice a rest.length cap) ∧ rest.length ≤ cap ∧ cap ≤ maxLen ∧ RowAt w a rest ∧ ∀ x, a = some x → x.block < R := h
set_option maxHeartbeats 1600000 in
theorem number_any (R : Nat) (e0 : Int) (rest : List Int) (w : World) (hE : RdE w R e0) (hR : Rest w R rest) :
  Calls Tryz.prog 105 #[.pointer (some ⟨R, 0, none⟩)] w fun en w' => en = .returned (.tuple #[.int .i64 (numR rest).1, .int .i64 (numR rest).2.2]) ∧ RdE w' R e0 ∧ w.grownBy w' (some R) ∧ ((numR rest).2.2 = 0 → Rest w' R (rest.drop (numR rest).2.1)) := by
 obtain ⟨a, cap, h0, hc, hm, hrow, hlt⟩ := hR
 have hne := lt_ne hlt
 have f0 := hE.2.2.2.2.1
 cases rest with
 | nil =>
  have h0' : w.cell? ⟨R, 0, none⟩ = some (.slice a 0 cap) := h0
  go_enter Tryz.func105, Tryz.ntmps105
  go_wp2_with fail
  refine (left_any R a 0 cap w h0').mono ?_
  rintro e w1 ⟨rfl, rfl⟩
  go_wp2
  go_ret2
  exact ⟨rfl, hE, gb_refl _ _, fun h => by cases h⟩
 | cons k tl =>
  obtain ⟨b, off, rfl, hb, hcb, hk0, hk1⟩ := hrow.get 0 (by simp)
  have hk : (k :: tl).getD 0 0 = k := rfl
  rw [hk] at hcb hk0 hk1
  have hbR : b ≠ R := hne _ rfl
  have hcb1 : (w.setCell ⟨R, 0, none⟩ (.slice (cutA (some ⟨b, off, none⟩) cap 1) ((k :: tl).length - 1) (cap - 1))).cell? ⟨b, off, none⟩ = some (.int .u8 k) :=
   (World.cell?_setCell_other _ _ _ _ (by intro hx; injection hx with hx1; exact hbR hx1.symm)).trans (by simpa using hcb)
  have hE1 := hE.set0 (cutA (some ⟨b, off, none⟩) cap 1) ((k :: tl).length - 1) (cap - 1)
  have hg1 := gb_set w R 0 (.slice (cutA (some ⟨b, off, none⟩) cap 1) ((k :: tl).length - 1) (cap - 1))
  have hr1 := (hrow.drop 1 cap (by simp) hc).gb hg1 (.inr (cutA_ne hne))
  have h01 : (w.setCell ⟨R, 0, none⟩ (.slice (cutA (some ⟨b, off, none⟩) cap 1) ((k :: tl).length - 1) (cap - 1))).cell? ⟨R, 0, none⟩ = some (.slice (cutA (some ⟨b, off, none⟩) cap 1) ((k :: tl).length - 1) (cap - 1)) := World.cell?_setCell_same _ _ _ h0
  have hlen : (k :: tl).length - 1 = tl.length := by simp
  rw [hlen] at hE1 hg1 hr1 h01 hcb1
  generalize hW1 : w.setCell ⟨R, 0, none⟩ (.slice (cutA (some ⟨b, off, none⟩) cap 1) tl.length (cap - 1)) = W1 at *
  have c1 := take_any R (some ⟨b, off, none⟩) 1 (k :: tl).length cap w h0 f0 (by simp) hc hm
  rw [hlen, hW1] at c1
  have HW1 : Hid (w.setCell ⟨R, 0, none⟩ (.slice (cutA (some ⟨b, off, none⟩) cap 1) tl.length (cap - 1)) = W1) := hW1
  clear hW1
  have hpos : (((k :: tl).length : Int) == 0) = false := by simp; omega
  have hnm := cutA_ne (cap := cap) (n := 1) hne
  have hltm := cutA_lt (cap := cap) (n := 1) hlt
  generalize hA1 : cutA (some ⟨b, off, none⟩) cap 1 = A1 at *
  clear hA1
  have cl := left_any R (some ⟨b, off, none⟩) (k :: tl).length cap w h0
  go_enter Tryz.func105, Tryz.ntmps105
  go_wp2_with fail
  refine cl.mono ?_
  rintro e w1 ⟨rfl, rfl⟩
  clear cl
  go_wp2_with fail
  refine c1.mono ?_
  rintro e w2 ⟨rfl, rfl⟩
  clear c1
  by_cases hk8 : 8 < k
  ·have HN : Hid (numR (k :: tl) = (0, 0, 11)) := by show _ = _; simp [numR, hk8]
   go_wp2_with fail
   go_ret2
   rw [HN.out]
   exact ⟨rfl, hE1, hg1, fun h => by cases h⟩
  ·by_cases hkl : (tl.length : Int) < k
   ·have HN : Hid (numR (k :: tl) = (0, 0, 10)) := by show _ = _; simp [numR, hk8, hkl]
    go_wp2_with fail
    refine (left_any R A1 tl.length (cap - 1) w2 h01).mono ?_
    rintro e w3 ⟨rfl, rfl⟩
    go_wp2_with fail
    go_ret2
    rw [HN.out]
    exact ⟨rfl, hE1, hg1, fun h => by cases h⟩
   ·obtain ⟨q, hqk⟩ : ∃ q : Nat, k.toNat = q := ⟨_, rfl⟩
    have hkq : (q : Int) = k := by omega
    have hq : q ≤ tl.length := by omega
    have hcl : tl.length ≤ cap - 1 := by simp at hc; omega
    have c2 := take_any R A1 q tl.length (cap - 1) w2 h01 hE1.2.2.2.2.1 hq hcl (by omega)
    rw [hkq] at c2
    have hE2 := hE1.set0 (cutA A1 (cap - 1) q) (tl.length - q) (cap - 1 - q)
    have hg2 := gb_set w2 R 0 (.slice (cutA A1 (cap - 1) q) (tl.length - q) (cap - 1 - q))
    have hr1' : RowAt w2 A1 tl := by simpa using hr1
    have hr2 := (hr1'.take q).gb hg2 (.inr hnm)
    have hr3 := (hr1'.drop q (cap - 1) hq hcl)
    have h02 : (w2.setCell ⟨R, 0, none⟩ (.slice (cutA A1 (cap - 1) q) (tl.length - q) (cap - 1 - q))).cell? ⟨R, 0, none⟩ = some (.slice (cutA A1 (cap - 1) q) (tl.length - q) (cap - 1 - q)) := World.cell?_setCell_same _ _ _ h01
    have hRest : Rest (w2.setCell ⟨R, 0, none⟩ (.slice (cutA A1 (cap - 1) q) (tl.length - q) (cap - 1 - q))) R (tl.drop q) := by
     refine ⟨cutA A1 (cap - 1) q, cap - 1 - q, by rw [List.length_drop]; exact h02, by rw [List.length_drop]; omega, by omega, ?_, ?_⟩
     ·exact hr3.gb hg2 (.inr (cutA_ne hnm))
     ·exact cutA_lt hltm
    generalize w2.setCell ⟨R, 0, none⟩ (.slice (cutA A1 (cap - 1) q) (tl.length - q) (cap - 1 - q)) = W2 at *
    have hqt : (tl.take q).length = q := List.length_take_of_le hq
    have c3 := value_any A1 (cap - 1) (tl.take q) W2 hr2 (by omega)
    rw [hqt] at c3
    have HN : Hid (numR (k :: tl) = if (valR (tl.take q)).2 = 0 then ((valR (tl.take q)).1, 1 + q, 0) else (0, 0, (valR (tl.take q)).2)) := by
     show _ = _
     simp only [numR, if_neg hk8, if_neg hkl, hqk]
    clear hr1 hr2 hr3 hqt hqk hkq
    go_wp2_with fail
    refine (left_any R A1 tl.length (cap - 1) w2 h01).mono ?_
    rintro e w3 ⟨rfl, rfl⟩
    go_wp2_with fail
    refine c2.mono ?_
    rintro e w4 ⟨rfl, rfl⟩
    clear c2
    go_wp2_with fail
    refine c3.mono ?_
    rintro e w5 ⟨rfl, rfl⟩
    clear c3
    go_wp2_with fail
    go_ret2
    refine ⟨?_, hE2, gb_trans hg1 hg2, ?_⟩
    ·rw [HN.out]
     by_cases hv : (valR (tl.take q)).2 = 0
     ·rw [if_pos hv, hv]; exact rfl
     ·rw [if_neg hv, valR_err _ hv]; exact rfl
    ·rw [HN.out]
     by_cases hv : (valR (tl.take q)).2 = 0
     ·rw [if_pos hv]; intro _; rw [Nat.add_comm]; exact hRest
     ·rw [if_neg hv]; intro h; exact absurd h hv
def numS (rest : List Int) (e most : Int) : Int × List Int × Int :=
  if e = 0 then
    if (numR rest).2.2 = 0 then
      if most < (numR rest).1 then (0, rest, 3) else ((numR rest).1, rest.drop (numR rest).2.1, 0)
    else (0, rest, (numR rest).2.2)
  else (0, rest, e)
set_option maxHeartbeats 1600000 in
theorem num_any (R : Nat) (rest : List Int) (e most : Int) (w : World) (h : St w R rest e) :
  Calls Tryz.prog 72 #[.pointer (some ⟨R, 0, none⟩), .int .i64 most] w fun en w' => en = .returned (.int .i64 (numS rest e most).1) ∧ St w' R (numS rest e most).2.1 (numS rest e most).2.2 ∧ w.grownBy w' (some R) := by
 obtain ⟨hE, hR⟩ := h
 by_cases he : e = 0
 ·subst he
  have hR := hR rfl
  have cn := number_any R 0 rest w hE hR
  have HS : Hid (numS rest 0 most = if (numR rest).2.2 = 0 then (if most < (numR rest).1 then (0, rest, 3) else ((numR rest).1, rest.drop (numR rest).2.1, 0)) else (0, rest, (numR rest).2.2)) := by show _ = _; simp [numS]
  generalize (numR rest).1 = v at *
  generalize (numR rest).2.1 = c at *
  generalize (numR rest).2.2 = er at *
  by_cases her : er = 0
  ·subst her
   rw [if_pos rfl] at HS
   by_cases hmost : most < v
   ·rw [if_pos hmost] at HS
    go_enter Tryz.func72, Tryz.ntmps72
    go_wp2_with fail
    refine (err_made R 0 w hE).mono ?_
    rintro e w1 ⟨rfl, rfl⟩
    go_wp2_with fail
    refine cn.mono ?_
    rintro e w2 ⟨rfl, hE2, hg2, hR2⟩
    go_wp2_with fail
    refine (fail_any R 0 3 w2 hE2).mono ?_
    rintro e w3 ⟨rfl, hE3, hg3⟩
    go_wp2_with fail
    go_ret
    rw [HS.out]
    exact ⟨rfl, ⟨hE3, fun h => by cases h⟩, gb_trans hg2 hg3⟩
   ·rw [if_neg hmost] at HS
    go_enter Tryz.func72, Tryz.ntmps72
    go_wp2_with fail
    refine (err_made R 0 w hE).mono ?_
    rintro e w1 ⟨rfl, rfl⟩
    go_wp2_with fail
    refine cn.mono ?_
    rintro e w2 ⟨rfl, hE2, hg2, hR2⟩
    have hR3 := hR2 (by trivial)
    clear hR2 cn
    go_wp2_with fail
    go_ret
    rw [HS.out]
    exact ⟨rfl, ⟨hE2, fun _ => hR3⟩, hg2⟩
  ·have her' : (er == 0) = false := by simpa using her
   rw [if_neg her] at HS
   go_enter Tryz.func72, Tryz.ntmps72
   go_wp2_with fail
   refine (err_made R 0 w hE).mono ?_
   rintro e w1 ⟨rfl, rfl⟩
   go_wp2_with fail
   refine cn.mono ?_
   rintro e w2 ⟨rfl, hE2, hg2, hR2⟩
   clear hR2 cn
   go_wp2_with fail
   refine (fail_any R 0 er w2 hE2).mono ?_
   rintro e w3 ⟨rfl, hE3, hg3⟩
   go_wp2_with fail
   go_ret
   rw [HS.out]
   exact ⟨rfl, ⟨hE3, fun h => absurd h her⟩, gb_trans hg2 hg3⟩
 ·have HS : Hid (numS rest e most = (0, rest, e)) := by show _ = _; simp [numS, he]
  have he' : (e == 0) = false := by simpa using he
  go_enter Tryz.func72, Tryz.ntmps72
  go_wp2_with fail
  refine (err_made R e w hE).mono ?_
  rintro en w1 ⟨rfl, rfl⟩
  go_wp2_with fail
  go_ret
  rw [HS.out]
  exact ⟨rfl, ⟨hE, fun h => absurd h he⟩, gb_refl _ _⟩
theorem RowAt.none_nil {w : World} {zs : List Int} (h : RowAt w none zs) : zs = [] := by
 rcases h.2.2 with h | ⟨b, off, hx, _⟩
 ·exact h
 ·cases hx
set_option maxHeartbeats 800000 in
theorem clone_any (a : Option Addr) (cap : Nat) (zs : List Int) (w : World) (h : RowAt w a zs) (hm : zs.length ≤ 549755813888) :
  Calls Tryz.prog 71 #[.slice a zs.length cap] w fun e w' => ∃ v, e = .returned v ∧ Mine w' w.heap.size v zs ∧ Below w.heap.size w w' := by
 obtain ⟨i0, hi, hz0, hz1, hz2⟩ := info_parts info8
 cases a with
 | none =>
  obtain rfl := h.none_nil
  have hn := fun w => Lib.run_eql_slice_nil (P := Tryz.prog) w 36 5 none 0 cap 0 0 Tryz.underlying36
  go_enter Tryz.func71, Tryz.ntmps71
  go_wp2
  go_ret
  exact ⟨_, rfl, ⟨World.ownsRow_nil _ _ _ _, by simp⟩, Below.refl _ _⟩
 | some x =>
  have hn := fun w => Lib.run_eql_slice_nil (P := Tryz.prog) w 36 5 (some x) zs.length cap 0 0 Tryz.underlying36
  go_enter Tryz.func71, Tryz.ntmps71
  go_wp2_with (at_builtin; refine wpList_append_own_src _ rfl _ _ 36 36 rfl w.heap.size 5 i0 (.int .u8 0) 1 1 Tryz.underlying36 hi hz0 hz1 hz2 rfl _ 0 [] rfl (World.ownsRow_made w #[] 0 (Nat.le_refl _) (by simp) (by simp)) (.slice (some x) zs.length cap) zs.length (zs.map (Value.int .u8)) rfl ((h.below ((Below.refl _ _).alloc (Nat.le_refl _) _)).src cap) ?c1 ?c2 ?c3 ?_)
  case c1 => unfold maxLen; omega
  case c2 => omega
  case c3 => simp
  intro v' w1 hown hgrow
  have hb1 : Below w.heap.size w w1 := ((Below.refl _ _).alloc (Nat.le_refl _) _).grown hgrow (by simp) (fun k hk => by simp [Value.ownBlock] at hk; omega)
  go_wp2
  go_ret
  exact ⟨_, rfl, ⟨by simpa using hown, h.2.1⟩, hb1⟩
set_option maxHeartbeats 800000 in
theorem read_any (a : Option Addr) (cap : Nat) (zs : List Int) (w : World) (h : RowAt w a zs) (hm : zs.length ≤ 549755813888) :
  Calls Tryz.prog 35 #[.slice a zs.length cap] w fun e w' => ∃ R, e = .returned (.pointer (some ⟨R, 0, none⟩)) ∧ w.heap.size ≤ R ∧ St w' R zs 0 ∧ Below w.heap.size w w' := by
 go_enter Tryz.func35, Tryz.ntmps35
 go_wp2_with fail
 refine (clone_any a cap zs w h hm).mono ?_
 rintro e w1 ⟨v, rfl, hmine, hb⟩
 obtain ⟨a', cap', rfl, hc1, hc2, hr⟩ := hmine.rowAt (by unfold maxLen; omega)
 have hblk : ∀ x, a' = some x → x.block < w1.heap.size := fun x hx => (hmine.1.lt x.block (by simp [hx, Value.ownBlock])).2
 have hb2 : Below w1.heap.size w1 (w1.alloc (.cells #[.slice a' zs.length cap', .bool true, .int .i64 0] 115)) := (Below.refl _ _).alloc (Nat.le_refl _) _
 have hSt : St (w1.alloc (.cells #[.slice a' zs.length cap', .bool true, .int .i64 0] 115)) w1.heap.size zs 0 := by
  have cs : ∀ j, (w1.alloc (.cells #[.slice a' zs.length cap', .bool true, .int .i64 0] 115)).cell? ⟨w1.heap.size, j, none⟩ = (#[.slice a' zs.length cap', .bool true, .int .i64 0] : Array Value)[j]? := fun j => World.cell?_alloc_at _ _ _ _ rfl
  have fs : ∀ j, (w1.alloc (.cells #[.slice a' zs.length cap', .bool true, .int .i64 0] 115)).frozen? ⟨w1.heap.size, j, none⟩ = false := fun j => World.frozen?_alloc_at _ _ _ _ rfl
  exact ⟨⟨by simp, ⟨a', zs.length, cap', cs 0⟩, cs 1, cs 2, fs 0, fs 1, fs 2⟩, fun _ => ⟨a', cap', cs 0, hc1, hc2, hr.below hb2, hblk⟩⟩
 go_wp2_with fail
 go_ret
 exact ⟨_, rfl, hb.size, hSt, hb.trans (hb2.mono hb.size)⟩
def textS (rest : List Int) (e most : Int) : List Int × List Int × Int :=
  if (numS rest e 9223372036854775807).2.2 = 0 then
    if most < (numS rest e 9223372036854775807).1 then ([], rest, 3)
    else if ((numS rest e 9223372036854775807).2.1.length : Int) < (numS rest e 9223372036854775807).1 then ([], rest, 10)
    else ((numS rest e 9223372036854775807).2.1.take (numS rest e 9223372036854775807).1.toNat, (numS rest e 9223372036854775807).2.1.drop (numS rest e 9223372036854775807).1.toNat, 0)
  else ([], rest, (numS rest e 9223372036854775807).2.2)
end Go.Proofs.YtinndbipomlokaaGreat
namespace Go.Proofs.YtinndbipomlokaaGreat
open Go.RowKit
open Sha Tal
variable {B : Nat}
def Rf (B : Nat) (w : World) (X : Nat) (zs : List Int) (p : Nat) (e : Int) : Prop :=
  X < w.heap.size ∧ (∃ a cap, w.cell? ⟨X, 0, none⟩ = some (.slice a zs.length cap) ∧ zs.length ≤ cap ∧ cap ≤ maxLen ∧ RowAt w a zs ∧ ∀ x, a = some x → B ≤ x.block ∧ x.block < X) ∧
  w.cell? ⟨X, 1, none⟩ = some (.int .i64 (p : Int)) ∧ w.cell? ⟨X, 2, none⟩ = some (.int .i64 e) ∧ w.frozen? ⟨X, 0, none⟩ = false ∧ w.frozen? ⟨X, 1, none⟩ = false ∧ w.frozen? ⟨X, 2, none⟩ = false ∧ p ≤ zs.length ∧ zs.length ≤ 40000
theorem suc_ne {a : Option Addr} {X : Nat} (h : ∀ x, a = some x → B ≤ x.block ∧ x.block < X) : ∀ x, a = some x → x.block ≠ X := fun x hx => Nat.ne_of_lt (h x hx).2
namespace Tal
end Tal
theorem Rf.rest {w : World} {X : Nat} {zs : List Int} {p : Nat} {e : Int} (h : Rf B w X zs p e) : ∃ a cap, w.cell? ⟨X, 0, none⟩ = some (.slice a zs.length cap) ∧ zs.length ≤ cap ∧ cap ≤ maxLen ∧ RowAt w (cutA a cap p) (zs.drop p) := by
 obtain ⟨hX, ⟨a, cap, h0, hc, hm, hr, hne⟩, h1, h2, f0, f1, f2, hp, hl⟩ := h
 exact ⟨a, cap, h0, hc, hm, hr.drop p cap hp hc⟩
end Go.Proofs.YtinndbipomlokaaGreat
namespace Go.Proofs.YtinndbipomlokaaGreat
open Go.RowKit
open Sha Tal
variable {B : Nat}
theorem Rf.set2 {w : World} {X : Nat} {zs : List Int} {p : Nat} {e : Int} (h : Rf B w X zs p e) (e' : Int) : Rf B (w.setCell ⟨X, 2, none⟩ (.int .i64 e')) X zs p e' := by
 obtain ⟨hX, ⟨a, cap, h0, hc, hm, hr, hne⟩, h1, h2, f0, f1, f2, hp, hl⟩ := h
 exact ⟨by simpa [World.setCell] using hX, ⟨a, cap, (World.cell?_setCell_other _ _ _ _ (by simp)).trans h0, hc, hm, hr.gb (gb_set w X 2 _) (.inr (suc_ne hne)), hne⟩, (World.cell?_setCell_other _ _ _ _ (by simp)).trans h1, World.cell?_setCell_same _ _ _ h2,
  (World.frozen?_setCell _ _ _ _).trans f0, (World.frozen?_setCell _ _ _ _).trans f1, (World.frozen?_setCell _ _ _ _).trans f2, hp, hl⟩
def RSt (B : Nat) (w : World) (X : Nat) (rest : List Int) (e : Int) : Prop := ∃ zs p, Rf B w X zs p e ∧ (e = 0 → zs.drop p = rest)
end Go.Proofs.YtinndbipomlokaaGreat
namespace Go.Proofs.YtinndbipomlokaaGreat
open Go.RowKit
open Sha Tal
variable {B : Nat}
def rawS (rest : List Int) (e n : Int) : List Int × List Int × Int :=
  if e = 0 then
    if n < 0 then ([], rest, 2)
    else if (rest.length : Int) < n then ([], rest, 10)
    else (rest.take n.toNat, rest.drop n.toNat, 0)
  else ([], rest, e)
theorem cell_block {w w' : World} {b j : Nat} (h : w'.heap[b]? = w.heap[b]?) : w'.cell? ⟨b, j, none⟩ = w.cell? ⟨b, j, none⟩ ∧ w'.frozen? ⟨b, j, none⟩ = w.frozen? ⟨b, j, none⟩ := by
 constructor
 ·simp only [World.cell?, h]
 ·simp only [World.frozen?, h]
theorem RdE.below {w w' : World} {R : Nat} {e : Int} (h : RdE w R e) (hb : w'.heap[R]? = w.heap[R]?) (hs : w.heap.size ≤ w'.heap.size) : RdE w' R e := by
 obtain ⟨hR, ⟨a, n, c, h0⟩, h1, h2, f0, f1, f2⟩ := h
 have hc := fun j => (cell_block (j := j) hb)
 exact ⟨Nat.lt_of_lt_of_le hR hs, ⟨a, n, c, (hc 0).1.trans h0⟩, (hc 1).1.trans h1, (hc 2).1.trans h2, (hc 0).2.trans f0, (hc 1).2.trans f1, (hc 2).2.trans f2⟩
theorem St.below {w w' : World} {R : Nat} {rest : List Int} {e : Int} (h : St w R rest e) (hb : Below w.heap.size w w') : St w' R rest e := by
 have hR := h.1.1
 refine ⟨h.1.below (hb.block R hR) hb.size, fun he => ?_⟩
 obtain ⟨a, cap, h0, hc, hm, hr, hne⟩ := h.2 he
 exact ⟨a, cap, (cell_block (hb.block R hR)).1.trans h0, hc, hm, hr.below hb, hne⟩
theorem Rf.below {w w' : World} {X : Nat} {zs : List Int} {p : Nat} {e : Int} (h : Rf B w X zs p e) (hb : Below w.heap.size w w') : Rf B w' X zs p e := by
 obtain ⟨hX, ⟨a, cap, h0, hc, hm, hr, hne⟩, h1, h2, f0, f1, f2, hp, hl⟩ := h
 have hk := fun j => (cell_block (j := j) (hb.block X hX))
 exact ⟨Nat.lt_of_lt_of_le hX hb.size, ⟨a, cap, (hk 0).1.trans h0, hc, hm, hr.below hb, hne⟩, (hk 1).1.trans h1, (hk 2).1.trans h2, (hk 0).2.trans f0, (hk 1).2.trans f1, (hk 2).2.trans f2, hp, hl⟩
theorem RSt.below {w w' : World} {X : Nat} {rest : List Int} {e : Int} (h : RSt B w X rest e) (hb : Below w.heap.size w w') : RSt B w' X rest e := by
 obtain ⟨zs, p, h1, h2⟩ := h
 exact ⟨zs, p, h1.below hb, h2⟩
theorem Mine.nil (w : World) (B : Nat) : Mine w B (.slice none 0 0) [] := ⟨World.ownsRow_nil _ _ _ _, by simp⟩
theorem Mine.mono' {w : World} {B B' : Nat} {v : Value} {zs : List Int} (h : Mine w B v zs) (hb : B' ≤ B) : Mine w B' v zs := by
 refine ⟨⟨h.1.1, ?_⟩, h.2⟩
 rcases h.1.2 with h | ⟨g, cap, cur, hv, hg, r⟩
 ·exact .inl h
 ·exact .inr ⟨g, cap, cur, hv, Nat.le_trans hb hg, r⟩
end Go.Proofs.YtinndbipomlokaaGreat
namespace Go.Proofs.YtinndbipomlokaaGreat
open Go.RowKit
open Sha Tal
structure MrAt (w : World) (Q R : Nat) (z : Bool) : Prop where
  lt : Q < w.heap.size
  ne : R < Q
  c0 : w.cell? ⟨Q, 0, none⟩ = some (.pointer (some ⟨R, 0, none⟩))
  c1 : w.cell? ⟨Q, 1, none⟩ = some (.bool z)
  f1 : w.frozen? ⟨Q, 1, none⟩ = false
theorem MrAt.at {w w' : World} {Q R : Nat} {z : Bool} (h : MrAt w Q R z) (hb : w'.heap[Q]? = w.heap[Q]?) (hs : w.heap.size ≤ w'.heap.size) : MrAt w' Q R z :=
 ⟨Nat.lt_of_lt_of_le h.lt hs, h.ne, (cell_block hb).1.trans h.c0, (cell_block hb).1.trans h.c1, (cell_block hb).2.trans h.f1⟩
theorem MrAt.gb {w w' : World} {Q R : Nat} {z : Bool} (h : MrAt w Q R z) (hg : w.grownBy w' (some R)) : MrAt w' Q R z :=
 h.at (hg.block Q h.lt (fun e => by have := h.ne; cases e; omega)) hg.size
theorem MrAt.below {w w' : World} {Q R : Nat} {z : Bool} (h : MrAt w Q R z) (hb : Below w.heap.size w w') : MrAt w' Q R z := h.at (hb.block Q h.lt) hb.size
def doneE (rest : List Int) (e : Int) : Int := if e = 0 then (if rest.length = 0 then 0 else 12) else e
set_option maxRecDepth 100000 in
set_option maxHeartbeats 2000000 in
theorem done_any (R : Nat) (rest : List Int) (e : Int) (w : World) (h : St w R rest e) : Calls Tryz.prog 37 #[.pointer (some ⟨R, 0, none⟩)] w fun en w' => en = .returned (.int .i64 (doneE rest e)) ∧ w' = w := by
 have ce := err_made R e w h.1
 by_cases he : e = 0
 ·subst he
  obtain ⟨a, cap, h0, _⟩ := h.2 rfl
  have cl := left_any R a rest.length cap w h0
  have E : doneE rest 0 = if rest.length = 0 then 0 else 12 := by simp [doneE]
  rw [E]
  clear E h
  by_cases hr : rest.length = 0
  ·rw [if_pos hr]
   rw [hr] at cl
   clear hr h0
   go_enter Tryz.func37, Tryz.ntmps37
   go_wp2_with fail
   refine ce.mono ?_
   rintro e1 w1 ⟨rfl, hx⟩
   obtain rfl := hx.symm
   clear hx
   go_wp2_with fail
   refine cl.mono ?_
   rintro e2 w2 ⟨rfl, hx⟩
   obtain rfl := hx.symm
   clear hx
   go_wp2
   go_ret
   exact ⟨rfl, rfl⟩
  ·rw [if_neg hr]
   have hr' : (0 : Int) < rest.length := by omega
   obtain ⟨n, hn⟩ : ∃ n : Int, (rest.length : Int) = n := ⟨_, rfl⟩
   rw [hn] at cl hr'
   clear hr hn h0
   go_enter Tryz.func37, Tryz.ntmps37
   go_wp2_with fail
   refine ce.mono ?_
   rintro e1 w1 ⟨rfl, hx⟩
   obtain rfl := hx.symm
   clear hx
   go_wp2_with fail
   refine cl.mono ?_
   rintro e2 w2 ⟨rfl, hx⟩
   obtain rfl := hx.symm
   clear hx
   go_wp2
   go_ret
   exact ⟨rfl, rfl⟩
 ·have E : doneE rest e = e := by simp [doneE, he]
  rw [E]
  have n1 : (e != 0) = true := bne_iff_ne.2 he
  clear E h he
  go_enter Tryz.func37, Tryz.ntmps37
  go_wp2_with fail
  refine ce.mono ?_
  rintro e1 w1 ⟨rfl, hx⟩
  obtain rfl := hx.symm
  clear hx
  go_wp2
  go_ret
  exact ⟨rfl, rfl⟩
theorem there_blk {w w' : World} {b o n : Nat} (h : w.there b o n) (hb : w'.heap[b]? = w.heap[b]?) : w'.there b o n := fun j hj => by
 have := h j hj
 exact ⟨by rw [(cell_block hb).1]; exact this.1, (cell_block hb).2.trans this.2⟩
theorem St.belowN {w w' : World} {R n : Nat} {rest : List Int} {e : Int} (h : St w R rest e) (hb : Below n w w') (hn : R < n) : St w' R rest e := by
 refine ⟨h.1.below (hb.block R hn) hb.size, fun he => ?_⟩
 obtain ⟨a, cap, h0, hc, hm, hr, hne⟩ := h.2 he
 refine ⟨a, cap, (cell_block (hb.block R hn)).1.trans h0, hc, hm, ⟨hr.1, hr.2.1, ?_⟩, hne⟩
 rcases hr.2.2 with q | ⟨b, off, rfl, q1, q2⟩
 ·exact .inl q
 ·exact .inr ⟨b, off, rfl, Nat.lt_of_lt_of_le q1 hb.size, range_below q2 hb (by have := hne _ rfl; simp only at this; omega)⟩
namespace Tal
end Tal
theorem inB_iff {n m : Int} : inB n m = true ↔ 0 ≤ n ∧ n ≤ m := by unfold inB; exact decide_eq_true_iff
theorem results_ct {fn : Func} {p u : Tmp} {ty : TypeId} (h : fn.results = #[.cell p ty, .tmp u]) (tmps : Array Value) (P : Program) (w : World) {a : Addr} {v : Value} (ha : tmps.getD p undef = .pointer (some a)) (hv : (loadVar ty a).run P w = .ok v w) : (results fn tmps).run P w = .ok (.tuple #[v, tmps.getD u undef]) w := by
 rw [results_cell_tmp h, ha]
 simp [asAddr, hv, Result.andThen]
def RowOf {α : Type} (f : α → List Value) (w : World) (a : Option Addr) (ys : List α) : Prop := ys = [] ∨ ∃ b off, a = some ⟨b, off, none⟩ ∧ b < w.heap.size ∧ w.rangeAt b off (ys.flatMap f)
theorem RowOf.below {α : Type} {f : α → List Value} {w w' : World} {a : Option Addr} {ys : List α} (h : RowOf f w a ys) (hb : Below w.heap.size w w') : RowOf f w' a ys := by
 rcases h with h | ⟨b, off, rfl, h1, h2⟩
 ·exact .inl h
 ·exact .inr ⟨b, off, rfl, Nat.lt_of_lt_of_le h1 hb.size, range_below h2 hb h1⟩
theorem flat_len_k {α : Type} {f : α → List Value} {k : Nat} {ys : List α} (h : ∀ y ∈ ys, (f y).length = k) : (ys.flatMap f).length = ys.length * k := by
 induction ys with
 | nil => simp
 | cons y ys ih =>
  have h1 := h y (by simp)
  have h2 := ih (fun x hx => h x (by simp [hx]))
  simp only [List.flatMap_cons, List.length_append, List.length_cons, Nat.add_mul, Nat.one_mul]
  omega
theorem RowOf.elem {α : Type} {f : α → List Value} {k : Nat} {w : World} {a : Option Addr} {ys : List α} (h : RowOf f w a ys) (hk : ∀ y ∈ ys, (f y).length = k) (i : Nat) (hi : i < ys.length) : ∃ b off, a = some ⟨b, off, none⟩ ∧ b < w.heap.size ∧ w.rangeAt b (off + i * k) (f ys[i]) := by
 rcases h with h0 | ⟨b, off, rfl, h1, h2⟩
 ·subst h0; simp at hi
 ·refine ⟨b, off, rfl, h1, ?_⟩
  have e : ys.take i ++ (ys[i] :: ys.drop (i + 1)) = ys := by rw [← List.drop_eq_getElem_cons hi, List.take_append_drop]
  have e2 : ys.flatMap f = (ys.take i).flatMap f ++ f ys[i] ++ (ys.drop (i + 1)).flatMap f := by
   have := congrArg (List.flatMap f) e
   rw [← this]
   simp only [List.flatMap_append, List.flatMap_cons, List.append_assoc]
  rw [e2] at h2
  have h3 := range_part h2
  rwa [flat_len_k (fun y hy => hk y (List.mem_of_mem_take hy)), List.length_take, Nat.min_eq_left (by omega)] at h3
structure El (α : Type) where
  f : α → List Value
  k : Nat
  ok : α → Prop
  len : ∀ y, ok y → (f y).length = k
  one : ∀ y, ∀ v ∈ f y, v.oneCell' = true
def RowsAt {α : Type} (E : El α) (w : World) (a : Option Addr) (ys : List α) : Prop := ys.length ≤ maxLen ∧ (∀ y ∈ ys, E.ok y) ∧ RowOf E.f w a ys
theorem RowsAt.below {α : Type} {E : El α} {w w' : World} {a : Option Addr} {ys : List α} (h : RowsAt E w a ys) (hb : Below w.heap.size w w') : RowsAt E w' a ys := ⟨h.1, h.2.1, h.2.2.below hb⟩
theorem RowsAt.elem {α : Type} {E : El α} {w : World} {a : Option Addr} {ys : List α} (h : RowsAt E w a ys) (i : Nat) (hi : i < ys.length) : ∃ b off, a = some ⟨b, off, none⟩ ∧ b < w.heap.size ∧ w.rangeAt b (off + i * E.k) (E.f ys[i]) := h.2.2.elem (fun y hy => E.len y (h.2.1 y hy)) i hi
theorem RowsAt.none {α : Type} {E : El α} {w : World} {a : Option Addr} : RowsAt E w a [] := ⟨by simp, by simp, .inl rfl⟩
theorem RowsAt.drew {α : Type} {E : El α} {w : World} {a : Option Addr} {ys : List α} (h : RowsAt E w a ys) : RowsAt E w.drew a ys := h.below ((Below.refl _ _).drew)
structure Sg where
  n : Int
  t : List Int
deriving Inhabited
structure Sg.ok (r : Sg) : Prop where
  tl : r.t.length = 16
  tb : ∀ z ∈ r.t, 0 ≤ z ∧ z < 256
  nl : -9223372036854775808 ≤ r.n
  nh : r.n ≤ 9223372036854775807
def Sg.cells (r : Sg) : List Value := .int .i64 r.n :: v8 r.t
def SgE : El Sg where
  f := Sg.cells
  k := 17
  ok := Sg.ok
  len := fun r h => by have := h.tl; simp [Sg.cells, v8]; omega
  one := fun r v hv => by
    rcases List.mem_cons.1 hv with rfl | hv
    · rfl
    · exact v8_one r.t v hv
structure Ev where
  n : Int
  s : ByteArray
  t : List Int
deriving Inhabited
structure Ev.ok (r : Ev) : Prop where
  tl : r.t.length = 16
  tb : ∀ z ∈ r.t, 0 ≤ z ∧ z < 256
  sl : r.s.size ≤ maxLen
  nl : -9223372036854775808 ≤ r.n
  nh : r.n ≤ 9223372036854775807
def Ev.cells (r : Ev) : List Value := .int .i64 r.n :: .string r.s :: v8 r.t
def EvE : El Ev where
  f := Ev.cells
  k := 18
  ok := Ev.ok
  len := fun r h => by have := h.tl; simp [Ev.cells, v8]; omega
  one := fun r v hv => by
    simp only [Ev.cells, List.mem_cons] at hv
    rcases hv with rfl | rfl | hv
    · rfl
    · rfl
    · exact v8_one r.t v hv
structure Rq where
  c : Int
  n : Int
  s : ByteArray
  t : List Int
deriving Inhabited
structure Rq.ok (r : Rq) : Prop where
  tl : r.t.length = 16
  tb : ∀ z ∈ r.t, 0 ≤ z ∧ z < 256
  sl : r.s.size ≤ maxLen
  cl : -9223372036854775808 ≤ r.c
  ch : r.c ≤ 9223372036854775807
  nl : -9223372036854775808 ≤ r.n
  nh : r.n ≤ 9223372036854775807
def Rq.cells (r : Rq) : List Value := .int .i64 r.c :: .int .i64 r.n :: .string r.s :: v8 r.t
def RqE : El Rq where
  f := Rq.cells
  k := 19
  ok := Rq.ok
  len := fun r h => by have := h.tl; simp [Rq.cells, v8]; omega
  one := fun r v hv => by
    simp only [Rq.cells, List.mem_cons] at hv
    rcases hv with rfl | rfl | rfl | hv
    · rfl
    · rfl
    · rfl
    · exact v8_one r.t v hv
theorem toList_iff {a b : ByteArray} : a.toList = b.toList ↔ a = b := by
 constructor
 ·intro h
  rw [ByteArray.toList_eq, ByteArray.toList_eq] at h
  exact ByteArray.ext (Array.toList_inj.1 h)
 ·intro h; rw [h]
theorem iszT : (Tryz.prog.info? 89).map (·.size) = some 16 := by kernel_rfl
theorem part_strV (w : World) (q : List Value) (i : Nat) (c : ByteArray) (h : q[i]? = some (.string c)) : (part 9 q.toArray i).run Tryz.prog w = .ok (.string c) w := by
 simp [part, isAgg, run_underlying Tryz.underlying9, h]
theorem part_tagV (w : World) (q : List Value) (i : Nat) (t : List Int) (h : List.take 16 (List.drop i q) = v8 t) : (part 89 q.toArray i).run Tryz.prog w = .ok (.agg (v8 t).toArray) w := by
 simp [part, isAgg, run_underlying Tryz.underlying89, run_size iszT, h]
theorem fldSg : (Tryz.prog.fieldsOf 110).toList.map (fun f => (f.name, f.type, f.offset)) = [("Node", 3, 0), ("Tag", 89, 1)] := by kernel_rfl
theorem undSg : Tryz.prog.underlying 110 = some (.struct (Tryz.prog.fieldsOf 110)) := by kernel_rfl
theorem sihSg : Tryz.prog.stoodInHeld 110 = false := by kernel_rfl
def Sg.B (x y : Sg) : Bool := (x.n == y.n) && ((x.t == y.t))
theorem Sg.B_iff {x y : Sg} : Sg.B x y = true ↔ x = y := by
 cases x
 cases y
 simp [Sg.B]
theorem Sg.eqIn (x y : Sg) (hx : x.t.length = 16) (hy : y.t.length = 16) (d : Nat) (w : World) :
  (Op.equalIn (d + 2 + 1) 110 (.agg x.cells.toArray) (.agg y.cells.toArray)).run Tryz.prog w = .ok (Sg.B x y) w := by
 rw [run_equalIn_struct w (d + 2) 110 _ _ undSg sihSg]
 have hf := fldSg
 generalize (Tryz.prog.fieldsOf 110).toList = fs at hf
 obtain ⟨f0, f1, rfl⟩ : ∃ f0 f1, fs = [f0, f1] := by
  rcases fs with _ | ⟨f0, _ | ⟨f1, _ | ⟨f2, fs⟩⟩⟩ <;> simp at hf
  exact ⟨f0, f1, rfl⟩
 simp only [List.map_cons, List.map_nil, List.cons.injEq, Prod.mk.injEq, and_true] at hf
 obtain ⟨⟨a0, b0, d0⟩, ⟨a1, b1, d1⟩⟩ := hf
 have p0 := part_intV w x.cells 0 x.n rfl
 have q0 := part_intV w y.cells 0 y.n rfl
 have p1 := part_tagV w x.cells 1 x.t (by show List.take 16 (v8 x.t) = v8 x.t; rw [List.take_of_length_le (by rw [v8_length, hx]; exact Nat.le_refl _)])
 have q1 := part_tagV w y.cells 1 y.t (by show List.take 16 (v8 y.t) = v8 y.t; rw [List.take_of_length_le (by rw [v8_length, hy]; exact Nat.le_refl _)])
 have eI := fun a b => run_equalIn_int (P := Tryz.prog) w (d + 1) 3 .i64 .i64 a b Tryz.underlying3
 have eT := run_equal8 (P := Tryz.prog) w d 89 5 16 Tryz.underlying89 Tryz.underlying5 isz8 x.t y.t hx hy
 unfold Sg.B
 generalize x.cells.toArray = q at *
 generalize y.cells.toArray = q' at *
 obtain ⟨T, hT⟩ : ∃ T, (v8 x.t).toArray = T := ⟨_, rfl⟩
 obtain ⟨T', hT'⟩ : ∃ T, (v8 y.t).toArray = T := ⟨_, rfl⟩
 rw [hT] at p1 eT
 rw [hT'] at q1 eT
 clear hT hT'
 obtain ⟨D, hD⟩ : ∃ D, d + 1 + 1 = D := ⟨_, rfl⟩
 have eT : (Op.equalIn (d + 1 + 1) 89 (.agg T) (.agg T')).run Tryz.prog w = .ok (x.t == y.t) w := eT
 rw [hD] at eT
 have n0 : ¬ ("Node" = "_") := by decide
 have n1 : ¬ ("Tag" = "_") := by decide
 simp only [Op.eqFields, a0, b0, d0, a1, b1, d1, ne_eq, n0, n1, not_false_eq_true, if_true]
 rw [show d + 2 = d + 1 + 1 from rfl, hD]
 rw [hD] at eI
 clear hD
 simp only [Sem.run_bind, p0, q0, Result.andThen_ok, eI]
 cases (x.n == y.n)
 ·simp only [Bool.not_false, if_true, Sem.run_pure, Bool.false_and]
 ·simp only [Bool.not_true, Bool.false_eq_true, if_false, Sem.run_bind, p1, q1, Result.andThen_ok, eT, Bool.true_and]
  cases (x.t == y.t)
  ·simp only [Bool.not_false, if_true, Sem.run_pure]
  ·simp only [Bool.not_true, Bool.false_eq_true, if_false, Sem.run_pure]
theorem Sg.eq10 (x y : Sg) (hx : x.ok) (hy : y.ok) (w : World) : (Op.equalIn 10000 110 (.agg x.cells.toArray) (.agg y.cells.toArray)).run Tryz.prog w = .ok (Sg.B x y) w := Sg.eqIn x y hx.tl hy.tl 9997 w
theorem fldEv : (Tryz.prog.fieldsOf 108).toList.map (fun f => (f.name, f.type, f.offset)) = [("From", 3, 0), ("Body", 9, 1), ("Tag", 89, 2)] := by kernel_rfl
theorem undEv : Tryz.prog.underlying 108 = some (.struct (Tryz.prog.fieldsOf 108)) := by kernel_rfl
theorem sihEv : Tryz.prog.stoodInHeld 108 = false := by kernel_rfl
def Ev.B (x y : Ev) : Bool := (x.n == y.n) && ((x.s.toList == y.s.toList) && ((x.t == y.t)))
theorem Ev.B_iff {x y : Ev} : Ev.B x y = true ↔ x = y := by
 cases x
 cases y
 simp [Ev.B, toList_iff]
theorem Ev.eqIn (x y : Ev) (hx : x.t.length = 16) (hy : y.t.length = 16) (d : Nat) (w : World) :
  (Op.equalIn (d + 2 + 1) 108 (.agg x.cells.toArray) (.agg y.cells.toArray)).run Tryz.prog w = .ok (Ev.B x y) w := by
 rw [run_equalIn_struct w (d + 2) 108 _ _ undEv sihEv]
 have hf := fldEv
 generalize (Tryz.prog.fieldsOf 108).toList = fs at hf
 obtain ⟨f0, f1, f2, rfl⟩ : ∃ f0 f1 f2, fs = [f0, f1, f2] := by
  rcases fs with _ | ⟨f0, _ | ⟨f1, _ | ⟨f2, _ | ⟨f3, fs⟩⟩⟩⟩ <;> simp at hf
  exact ⟨f0, f1, f2, rfl⟩
 simp only [List.map_cons, List.map_nil, List.cons.injEq, Prod.mk.injEq, and_true] at hf
 obtain ⟨⟨a0, b0, d0⟩, ⟨a1, b1, d1⟩, ⟨a2, b2, d2⟩⟩ := hf
 have p0 := part_intV w x.cells 0 x.n rfl
 have q0 := part_intV w y.cells 0 y.n rfl
 have p1 := part_strV w x.cells 1 x.s rfl
 have q1 := part_strV w y.cells 1 y.s rfl
 have p2 := part_tagV w x.cells 2 x.t (by show List.take 16 (v8 x.t) = v8 x.t; rw [List.take_of_length_le (by rw [v8_length, hx]; exact Nat.le_refl _)])
 have q2 := part_tagV w y.cells 2 y.t (by show List.take 16 (v8 y.t) = v8 y.t; rw [List.take_of_length_le (by rw [v8_length, hy]; exact Nat.le_refl _)])
 have eI := fun a b => run_equalIn_int (P := Tryz.prog) w (d + 1) 3 .i64 .i64 a b Tryz.underlying3
 have eS := fun a b => run_equalIn_string (P := Tryz.prog) w (d + 1) 9 a b Tryz.underlying9
 have eT := run_equal8 (P := Tryz.prog) w d 89 5 16 Tryz.underlying89 Tryz.underlying5 isz8 x.t y.t hx hy
 unfold Ev.B
 generalize x.cells.toArray = q at *
 generalize y.cells.toArray = q' at *
 obtain ⟨T, hT⟩ : ∃ T, (v8 x.t).toArray = T := ⟨_, rfl⟩
 obtain ⟨T', hT'⟩ : ∃ T, (v8 y.t).toArray = T := ⟨_, rfl⟩
 rw [hT] at p2 eT
 rw [hT'] at q2 eT
 clear hT hT'
 obtain ⟨D, hD⟩ : ∃ D, d + 1 + 1 = D := ⟨_, rfl⟩
 have eT : (Op.equalIn (d + 1 + 1) 89 (.agg T) (.agg T')).run Tryz.prog w = .ok (x.t == y.t) w := eT
 rw [hD] at eT
 have n0 : ¬ ("From" = "_") := by decide
 have n1 : ¬ ("Body" = "_") := by decide
 have n2 : ¬ ("Tag" = "_") := by decide
 simp only [Op.eqFields, a0, b0, d0, a1, b1, d1, a2, b2, d2, ne_eq, n0, n1, n2, not_false_eq_true, if_true]
 rw [show d + 2 = d + 1 + 1 from rfl, hD]
 rw [hD] at eI
 simp only [hD] at eS
 clear hD
 simp only [Sem.run_bind, p0, q0, Result.andThen_ok, eI]
 cases (x.n == y.n)
 ·simp only [Bool.not_false, if_true, Sem.run_pure, Bool.false_and]
 ·simp only [Bool.not_true, Bool.false_eq_true, if_false, Sem.run_bind, p1, q1, Result.andThen_ok, eS, Bool.true_and]
  cases (x.s.toList == y.s.toList)
  ·simp only [Bool.not_false, if_true, Sem.run_pure, Bool.false_and]
  ·simp only [Bool.not_true, Bool.false_eq_true, if_false, Sem.run_bind, p2, q2, Result.andThen_ok, eT, Bool.true_and]
   cases (x.t == y.t)
   ·simp only [Bool.not_false, if_true, Sem.run_pure]
   ·simp only [Bool.not_true, Bool.false_eq_true, if_false, Sem.run_pure]
theorem Ev.eq10 (x y : Ev) (hx : x.ok) (hy : y.ok) (w : World) : (Op.equalIn 10000 108 (.agg x.cells.toArray) (.agg y.cells.toArray)).run Tryz.prog w = .ok (Ev.B x y) w := Ev.eqIn x y hx.tl hy.tl 9997 w
theorem fldRq : (Tryz.prog.fieldsOf 91).toList.map (fun f => (f.name, f.type, f.offset)) = [("Client", 3, 0), ("Num", 3, 1), ("Data", 9, 2), ("Tag", 89, 3)] := by kernel_rfl
theorem undRq : Tryz.prog.underlying 91 = some (.struct (Tryz.prog.fieldsOf 91)) := by kernel_rfl
theorem sihRq : Tryz.prog.stoodInHeld 91 = false := by kernel_rfl
def Rq.B (x y : Rq) : Bool := (x.c == y.c) && ((x.n == y.n) && ((x.s.toList == y.s.toList) && ((x.t == y.t))))
theorem Rq.B_iff {x y : Rq} : Rq.B x y = true ↔ x = y := by
 cases x
 cases y
 simp [Rq.B, toList_iff]
theorem Rq.eqIn (x y : Rq) (hx : x.t.length = 16) (hy : y.t.length = 16) (d : Nat) (w : World) :
  (Op.equalIn (d + 2 + 1) 91 (.agg x.cells.toArray) (.agg y.cells.toArray)).run Tryz.prog w = .ok (Rq.B x y) w := by
 rw [run_equalIn_struct w (d + 2) 91 _ _ undRq sihRq]
 have hf := fldRq
 generalize (Tryz.prog.fieldsOf 91).toList = fs at hf
 obtain ⟨f0, f1, f2, f3, rfl⟩ : ∃ f0 f1 f2 f3, fs = [f0, f1, f2, f3] := by
  rcases fs with _ | ⟨f0, _ | ⟨f1, _ | ⟨f2, _ | ⟨f3, _ | ⟨f4, fs⟩⟩⟩⟩⟩ <;> simp at hf
  exact ⟨f0, f1, f2, f3, rfl⟩
 simp only [List.map_cons, List.map_nil, List.cons.injEq, Prod.mk.injEq, and_true] at hf
 obtain ⟨⟨a0, b0, d0⟩, ⟨a1, b1, d1⟩, ⟨a2, b2, d2⟩, ⟨a3, b3, d3⟩⟩ := hf
 have p0 := part_intV w x.cells 0 x.c rfl
 have q0 := part_intV w y.cells 0 y.c rfl
 have p1 := part_intV w x.cells 1 x.n rfl
 have q1 := part_intV w y.cells 1 y.n rfl
 have p2 := part_strV w x.cells 2 x.s rfl
 have q2 := part_strV w y.cells 2 y.s rfl
 have p3 := part_tagV w x.cells 3 x.t (by show List.take 16 (v8 x.t) = v8 x.t; rw [List.take_of_length_le (by rw [v8_length, hx]; exact Nat.le_refl _)])
 have q3 := part_tagV w y.cells 3 y.t (by show List.take 16 (v8 y.t) = v8 y.t; rw [List.take_of_length_le (by rw [v8_length, hy]; exact Nat.le_refl _)])
 have eI := fun a b => run_equalIn_int (P := Tryz.prog) w (d + 1) 3 .i64 .i64 a b Tryz.underlying3
 have eS := fun a b => run_equalIn_string (P := Tryz.prog) w (d + 1) 9 a b Tryz.underlying9
 have eT := run_equal8 (P := Tryz.prog) w d 89 5 16 Tryz.underlying89 Tryz.underlying5 isz8 x.t y.t hx hy
 unfold Rq.B
 generalize x.cells.toArray = q at *
 generalize y.cells.toArray = q' at *
 obtain ⟨T, hT⟩ : ∃ T, (v8 x.t).toArray = T := ⟨_, rfl⟩
 obtain ⟨T', hT'⟩ : ∃ T, (v8 y.t).toArray = T := ⟨_, rfl⟩
 rw [hT] at p3 eT
 rw [hT'] at q3 eT
 clear hT hT'
 obtain ⟨D, hD⟩ : ∃ D, d + 1 + 1 = D := ⟨_, rfl⟩
 have eT : (Op.equalIn (d + 1 + 1) 89 (.agg T) (.agg T')).run Tryz.prog w = .ok (x.t == y.t) w := eT
 rw [hD] at eT
 have n0 : ¬ ("Client" = "_") := by decide
 have n1 : ¬ ("Num" = "_") := by decide
 have n2 : ¬ ("Data" = "_") := by decide
 have n3 : ¬ ("Tag" = "_") := by decide
 simp only [Op.eqFields, a0, b0, d0, a1, b1, d1, a2, b2, d2, a3, b3, d3, ne_eq, n0, n1, n2, n3, not_false_eq_true, if_true]
 rw [show d + 2 = d + 1 + 1 from rfl, hD]
 rw [hD] at eI
 simp only [hD] at eS
 clear hD
 simp only [Sem.run_bind, p0, q0, Result.andThen_ok, eI]
 cases (x.c == y.c)
 ·simp only [Bool.not_false, if_true, Sem.run_pure, Bool.false_and]
 ·simp only [Bool.not_true, Bool.false_eq_true, if_false, Sem.run_bind, p1, q1, Result.andThen_ok, eI, Bool.true_and]
  cases (x.n == y.n)
  ·simp only [Bool.not_false, if_true, Sem.run_pure, Bool.false_and]
  ·simp only [Bool.not_true, Bool.false_eq_true, if_false, Sem.run_bind, p2, q2, Result.andThen_ok, eS, Bool.true_and]
   cases (x.s.toList == y.s.toList)
   ·simp only [Bool.not_false, if_true, Sem.run_pure, Bool.false_and]
   ·simp only [Bool.not_true, Bool.false_eq_true, if_false, Sem.run_bind, p3, q3, Result.andThen_ok, eT, Bool.true_and]
    cases (x.t == y.t)
    ·simp only [Bool.not_false, if_true, Sem.run_pure]
    ·simp only [Bool.not_true, Bool.false_eq_true, if_false, Sem.run_pure]
theorem Rq.eq10 (x y : Rq) (hx : x.ok) (hy : y.ok) (w : World) : (Op.equalIn 10000 91 (.agg x.cells.toArray) (.agg y.cells.toArray)).run Tryz.prog w = .ok (Rq.B x y) w := Rq.eqIn x y hx.tl hy.tl 9997 w
def sameL {α : Type} (B : α → α → Bool) : List α → List α → Bool
  | [], [] => true
  | x :: xs, y :: ys => B x y && sameL B xs ys
  | _, _ => false
theorem sameL_iff {α : Type} {B : α → α → Bool} (h : ∀ x y, B x y = true ↔ x = y) : ∀ xs ys : List α, sameL B xs ys = true ↔ xs = ys
 | [], [] => by simp [sameL]
 | x :: xs, y :: ys => by simp [sameL, h, sameL_iff h xs ys]
 | [], _ :: _ => by simp [sameL]
 | _ :: _, [] => by simp [sameL]
set_option maxRecDepth 100000 in
set_option maxHeartbeats 2000000 in
theorem equalS_any (a : Option Addr) (cap : Nat) (rs : List Sg) (a' : Option Addr) (cap' : Nat) (rs' : List Sg) (w : World) (h : RowsAt SgE w a rs) (h' : RowsAt SgE w a' rs') :
  Calls Tryz.prog 70 #[.slice a rs.length cap, .slice a' rs'.length cap'] w fun e w' => ((e = .returned (.bool true) ∧ rs = rs') ∨ (e = .returned (.bool false) ∧ ¬ rs = rs')) ∧ Below w.heap.size w w' := by
 have hml := h.1
 have hml' := h'.1
 unfold maxLen at hml hml'
 have hall := h.2.1
 have hall' := h'.2.1
 by_cases hlen : rs.length = rs'.length
 rotate_left
 ·have e0 : ((rs.length : Int) == rs'.length) = false := by simp; omega
  have HL := hide hlen
  clear hlen
  go_enter Tryz.func70, Tryz.ntmps70
  go_wp2
  go_ret
  exact ⟨.inr ⟨rfl, fun hh => HL.out (by rw [hh])⟩, Below.refl _ _⟩
 ·have e0 : ((rs.length : Int) == rs'.length) = true := by simp; omega
  have HL := hide hlen
  clear hlen
  go_enter Tryz.func70, Tryz.ntmps70
  go_wp2
  go_loopw [13] (fun iv wr => ∃ k : Nat, k ≤ rs.length ∧ iv = .int .i64 (k : Int) ∧ Hid (∀ j (hj : j < rs.length) (hj' : j < rs'.length), j < k → rs[j] = rs'[j]) ∧ Below w.heap.size w wr) (fun iv _ => rs.length - (intOf iv).toNat)
  case atStart => exact ⟨0, by omega, rfl, hide (fun j _ _ hj => absurd hj (by omega)), Below.refl _ _⟩
  case round =>
   clear e0
   obtain ⟨k, hk, rfl, HM, hB⟩ := hrel
   by_cases hlt : k < rs.length
   ·have k1 : (k : Int) < rs.length := by omega
    have hlt' : k < rs'.length := by have := HL.out; omega
    have k1' : (k : Int) < rs'.length := by omega
    obtain ⟨b, off, rfl, hb, hre⟩ := (h.below hB).elem k hlt
    have hre : wr.rangeAt b (off + k * 17) rs[k].cells := hre
    obtain ⟨b', off', rfl, hb', hre'⟩ := (h'.below hB).elem k hlt'
    have hre' : wr.rangeAt b' (off' + k * 17) rs'[k].cells := hre'
    obtain ⟨r, hr⟩ : ∃ r, Hid (rs[k] = r) := ⟨_, hide rfl⟩
    obtain ⟨r', hr'⟩ : ∃ r', Hid (rs'[k] = r') := ⟨_, hide rfl⟩
    have hok : r.ok := by rw [← hr.out]; exact hall _ (List.getElem_mem hlt)
    have hok' : r'.ok := by rw [← hr'.out]; exact hall' _ (List.getElem_mem hlt')
    rw [hr.out] at hre
    rw [hr'.out] at hre'
    have HM' : Hid (r = r' → ∀ j (hj : j < rs.length) (hj' : j < rs'.length), j < k + 1 → rs[j] = rs'[j]) := hide (fun hp j hj hj' hjk => by
     by_cases e : j = k
     ·subst e; rw [hr.out, hr'.out]; exact hp
     ·exact HM.out j hj hj' (by omega))
    have HN' : Hid (r ≠ r' → rs ≠ rs') := hide (fun hp he => by
     apply hp
     rw [← hr.out, ← hr'.out]
     subst he
     rfl)
    clear hr hr' HM
    have hiu : (Tryz.prog.info? 110).map (·.size) = some r.cells.length := by rw [show r.cells.length = 17 from SgE.len r hok]; kernel_rfl
    have hiu' : (Tryz.prog.info? 110).map (·.size) = some r'.cells.length := by rw [show r'.cells.length = 17 from SgE.len r' hok']; kernel_rfl
    have hne := fun w0 => Sg.eq10 r r' hok hok' w0
    obtain ⟨u, hu⟩ : ∃ u, Hid (r.cells = u) := ⟨_, hide rfl⟩
    obtain ⟨u', hu'⟩ : ∃ u', Hid (r'.cells = u') := ⟨_, hide rfl⟩
    rw [hu.out] at hre hiu
    rw [hu'.out] at hre' hiu'
    simp only [hu.out, hu'.out] at hne
    clear hu hu' hok hok'
    by_cases hrr : r = r'
    ·have e1 : Sg.B r r' = true := Sg.B_iff.2 hrr
     rw [e1] at hne
     have HR := hide hrr
     clear hrr e1
     go_upto_region 6 with fail
     obtain ⟨w5, hw5⟩ : ∃ w5, wr.drew = w5 := ⟨_, rfl⟩
     have hB5 : Below w.heap.size w w5 := by rw [← hw5]; exact hB.drew
     have hre5 : w5.rangeAt b (off + k * 17) u := by rw [← hw5]; exact (World.rangeAt_drew _ _ _ _).2 hre
     have hre5' : w5.rangeAt b' (off' + k * 17) u' := by rw [← hw5]; exact (World.rangeAt_drew _ _ _ _).2 hre'
     have hb5 : b < w5.heap.size := by rw [← hw5]; exact hb
     have hb5' : b' < w5.heap.size := by rw [← hw5]; exact hb'
     refine hs_begin (S := (Below w5.heap.size w5)) 9 rfl (by kernel_rfl) ?_
     rw [hw5]
     clear hw5 hB hre hre' hb hb'
     have hS : (Below w5.heap.size w5) w5 := Below.refl _ _
     refine hs_t 0 16 (?_) rfl (by kernel_rfl) (by kernel_rfl) (by kernel_rfl) (by rfl) ?_ hS rfl ?_
     rotate_left
     ·intro w' hw
      go_simp
      try with_reducible rfl
     simp only [nz]
     refine hs_t 1 17 (?_) rfl (by kernel_rfl) (by kernel_rfl) (by kernel_rfl) (by rfl) ?_ hS rfl ?_
     rotate_left
     ·intro w' hw
      go_simp
      try with_reducible rfl
     simp only [nz]
     refine hs_t 2 18 (?_) rfl (by kernel_rfl) (by kernel_rfl) (by kernel_rfl) (by rfl) ?_ hS rfl ?_
     rotate_left
     ·intro w' hw
      go_simp
      try with_reducible rfl
     simp only [nz]
     refine hs_t 3 19 (.agg u.toArray) rfl (by kernel_rfl) (by kernel_rfl) (by kernel_rfl) (by rfl) (fun w' hw => exec_loadC rfl rfl (run_loadVar_mid (P := Tryz.prog) w' b (off + k * 17) 110 u _ (range_below hre5 hw hb5) Tryz.underlying110 rfl hiu)) hS rfl ?_
     simp only [nz]
     refine hs_t 4 20 (?_) rfl (by kernel_rfl) (by kernel_rfl) (by kernel_rfl) (by rfl) ?_ hS rfl ?_
     rotate_left
     ·intro w' hw
      go_simp
      try with_reducible rfl
     simp only [nz]
     refine hs_t 5 21 (?_) rfl (by kernel_rfl) (by kernel_rfl) (by kernel_rfl) (by rfl) ?_ hS rfl ?_
     rotate_left
     ·intro w' hw
      go_simp
      try with_reducible rfl
     simp only [nz]
     refine hs_t 6 22 (?_) rfl (by kernel_rfl) (by kernel_rfl) (by kernel_rfl) (by rfl) ?_ hS rfl ?_
     rotate_left
     ·intro w' hw
      go_simp
      try with_reducible rfl
     simp only [nz]
     refine hs_t 7 23 (.agg u'.toArray) rfl (by kernel_rfl) (by kernel_rfl) (by kernel_rfl) (by rfl) (fun w' hw => exec_loadC rfl rfl (run_loadVar_mid (P := Tryz.prog) w' b' (off' + k * 17) 110 u' _ (range_below hre5' hw hb5') Tryz.underlying110 rfl hiu')) hS rfl ?_
     simp only [nz]
     refine hs_t 8 24 (.bool false) rfl (by kernel_rfl) (by kernel_rfl) (by kernel_rfl) (by rfl) (fun w' hw => by have hc := hne w'; go_simp) hS rfl ?_
     simp only [nz]
     refine hs_done (by kernel_rfl) ?_
     go_wp2
     go_roundw
     case rel => exact ⟨k + 1, by omega, by go_num, hide (HM'.out HR.out), hB5⟩
     case measure => simp [intOf]; omega
    ·have e1 : Sg.B r r' = false := by
      cases hx : Sg.B r r'
      ·rfl
      ·exact absurd (Sg.B_iff.1 hx) hrr
     rw [e1] at hne
     have HR := hide hrr
     clear hrr e1
     go_upto_region 6 with fail
     obtain ⟨w5, hw5⟩ : ∃ w5, wr.drew = w5 := ⟨_, rfl⟩
     have hB5 : Below w.heap.size w w5 := by rw [← hw5]; exact hB.drew
     have hre5 : w5.rangeAt b (off + k * 17) u := by rw [← hw5]; exact (World.rangeAt_drew _ _ _ _).2 hre
     have hre5' : w5.rangeAt b' (off' + k * 17) u' := by rw [← hw5]; exact (World.rangeAt_drew _ _ _ _).2 hre'
     have hb5 : b < w5.heap.size := by rw [← hw5]; exact hb
     have hb5' : b' < w5.heap.size := by rw [← hw5]; exact hb'
     refine hs_begin (S := (Below w5.heap.size w5)) 9 rfl (by kernel_rfl) ?_
     rw [hw5]
     clear hw5 hB hre hre' hb hb'
     have hS : (Below w5.heap.size w5) w5 := Below.refl _ _
     refine hs_t 0 16 (?_) rfl (by kernel_rfl) (by kernel_rfl) (by kernel_rfl) (by rfl) ?_ hS rfl ?_
     rotate_left
     ·intro w' hw
      go_simp
      try with_reducible rfl
     simp only [nz]
     refine hs_t 1 17 (?_) rfl (by kernel_rfl) (by kernel_rfl) (by kernel_rfl) (by rfl) ?_ hS rfl ?_
     rotate_left
     ·intro w' hw
      go_simp
      try with_reducible rfl
     simp only [nz]
     refine hs_t 2 18 (?_) rfl (by kernel_rfl) (by kernel_rfl) (by kernel_rfl) (by rfl) ?_ hS rfl ?_
     rotate_left
     ·intro w' hw
      go_simp
      try with_reducible rfl
     simp only [nz]
     refine hs_t 3 19 (.agg u.toArray) rfl (by kernel_rfl) (by kernel_rfl) (by kernel_rfl) (by rfl) (fun w' hw => exec_loadC rfl rfl (run_loadVar_mid (P := Tryz.prog) w' b (off + k * 17) 110 u _ (range_below hre5 hw hb5) Tryz.underlying110 rfl hiu)) hS rfl ?_
     simp only [nz]
     refine hs_t 4 20 (?_) rfl (by kernel_rfl) (by kernel_rfl) (by kernel_rfl) (by rfl) ?_ hS rfl ?_
     rotate_left
     ·intro w' hw
      go_simp
      try with_reducible rfl
     simp only [nz]
     refine hs_t 5 21 (?_) rfl (by kernel_rfl) (by kernel_rfl) (by kernel_rfl) (by rfl) ?_ hS rfl ?_
     rotate_left
     ·intro w' hw
      go_simp
      try with_reducible rfl
     simp only [nz]
     refine hs_t 6 22 (?_) rfl (by kernel_rfl) (by kernel_rfl) (by kernel_rfl) (by rfl) ?_ hS rfl ?_
     rotate_left
     ·intro w' hw
      go_simp
      try with_reducible rfl
     simp only [nz]
     refine hs_t 7 23 (.agg u'.toArray) rfl (by kernel_rfl) (by kernel_rfl) (by kernel_rfl) (by rfl) (fun w' hw => exec_loadC rfl rfl (run_loadVar_mid (P := Tryz.prog) w' b' (off' + k * 17) 110 u' _ (range_below hre5' hw hb5') Tryz.underlying110 rfl hiu')) hS rfl ?_
     simp only [nz]
     refine hs_t 8 24 (.bool true) rfl (by kernel_rfl) (by kernel_rfl) (by kernel_rfl) (by rfl) (fun w' hw => by have hc := hne w'; go_simp) hS rfl ?_
     simp only [nz]
     refine hs_done (by kernel_rfl) ?_
     go_wp2
     go_ret
     exact ⟨.inr ⟨rfl, fun hh => HN'.out HR.out hh⟩, hB5⟩
   ·have k1 : ¬ (k : Int) < rs.length := by omega
    have HE : Hid (rs = rs') := hide (List.ext_getElem HL.out (fun j hj hj' => HM.out j hj hj' (by omega)))
    clear HM
    go_wp2
    go_ret
    exact ⟨.inl ⟨rfl, HE.out⟩, hB⟩
theorem equalS_anyB (a : Option Addr) (cap : Nat) (rs : List Sg) (a' : Option Addr) (cap' : Nat) (rs' : List Sg) (w : World) (h : RowsAt SgE w a rs) (h' : RowsAt SgE w a' rs') :
  Calls Tryz.prog 70 #[.slice a rs.length cap, .slice a' rs'.length cap'] w fun e w' => e = .returned (.bool (sameL Sg.B rs rs')) ∧ Below w.heap.size w w' := by
 refine (equalS_any a cap rs a' cap' rs' w h h').mono ?_
 rintro e w1 ⟨hc, hb⟩
 have I := sameL_iff (fun x y => Sg.B_iff (x := x) (y := y)) rs rs'
 refine ⟨?_, hb⟩
 rcases hc with ⟨rfl, he⟩ | ⟨rfl, he⟩
 ·rw [I.2 he]
 ·cases hq : sameL Sg.B rs rs'
  ·rfl
  ·exact absurd (I.1 hq) he
set_option maxRecDepth 100000 in
set_option maxHeartbeats 2000000 in
theorem equalE_any (a : Option Addr) (cap : Nat) (rs : List Ev) (a' : Option Addr) (cap' : Nat) (rs' : List Ev) (w : World) (h : RowsAt EvE w a rs) (h' : RowsAt EvE w a' rs') :
  Calls Tryz.prog 68 #[.slice a rs.length cap, .slice a' rs'.length cap'] w fun e w' => ((e = .returned (.bool true) ∧ rs = rs') ∨ (e = .returned (.bool false) ∧ ¬ rs = rs')) ∧ Below w.heap.size w w' := by
 have hml := h.1
 have hml' := h'.1
 unfold maxLen at hml hml'
 have hall := h.2.1
 have hall' := h'.2.1
 by_cases hlen : rs.length = rs'.length
 rotate_left
 ·have e0 : ((rs.length : Int) == rs'.length) = false := by simp; omega
  have HL := hide hlen
  clear hlen
  go_enter Tryz.func68, Tryz.ntmps68
  go_wp2
  go_ret
  exact ⟨.inr ⟨rfl, fun hh => HL.out (by rw [hh])⟩, Below.refl _ _⟩
 ·have e0 : ((rs.length : Int) == rs'.length) = true := by simp; omega
  have HL := hide hlen
  clear hlen
  go_enter Tryz.func68, Tryz.ntmps68
  go_wp2
  go_loopw [13] (fun iv wr => ∃ k : Nat, k ≤ rs.length ∧ iv = .int .i64 (k : Int) ∧ Hid (∀ j (hj : j < rs.length) (hj' : j < rs'.length), j < k → rs[j] = rs'[j]) ∧ Below w.heap.size w wr) (fun iv _ => rs.length - (intOf iv).toNat)
  case atStart => exact ⟨0, by omega, rfl, hide (fun j _ _ hj => absurd hj (by omega)), Below.refl _ _⟩
  case round =>
   clear e0
   obtain ⟨k, hk, rfl, HM, hB⟩ := hrel
   by_cases hlt : k < rs.length
   ·have k1 : (k : Int) < rs.length := by omega
    have hlt' : k < rs'.length := by have := HL.out; omega
    have k1' : (k : Int) < rs'.length := by omega
    obtain ⟨b, off, rfl, hb, hre⟩ := (h.below hB).elem k hlt
    have hre : wr.rangeAt b (off + k * 18) rs[k].cells := hre
    obtain ⟨b', off', rfl, hb', hre'⟩ := (h'.below hB).elem k hlt'
    have hre' : wr.rangeAt b' (off' + k * 18) rs'[k].cells := hre'
    obtain ⟨r, hr⟩ : ∃ r, Hid (rs[k] = r) := ⟨_, hide rfl⟩
    obtain ⟨r', hr'⟩ : ∃ r', Hid (rs'[k] = r') := ⟨_, hide rfl⟩
    have hok : r.ok := by rw [← hr.out]; exact hall _ (List.getElem_mem hlt)
    have hok' : r'.ok := by rw [← hr'.out]; exact hall' _ (List.getElem_mem hlt')
    rw [hr.out] at hre
    rw [hr'.out] at hre'
    have HM' : Hid (r = r' → ∀ j (hj : j < rs.length) (hj' : j < rs'.length), j < k + 1 → rs[j] = rs'[j]) := hide (fun hp j hj hj' hjk => by
     by_cases e : j = k
     ·subst e; rw [hr.out, hr'.out]; exact hp
     ·exact HM.out j hj hj' (by omega))
    have HN' : Hid (r ≠ r' → rs ≠ rs') := hide (fun hp he => by
     apply hp
     rw [← hr.out, ← hr'.out]
     subst he
     rfl)
    clear hr hr' HM
    have hiu : (Tryz.prog.info? 108).map (·.size) = some r.cells.length := by rw [show r.cells.length = 18 from EvE.len r hok]; kernel_rfl
    have hiu' : (Tryz.prog.info? 108).map (·.size) = some r'.cells.length := by rw [show r'.cells.length = 18 from EvE.len r' hok']; kernel_rfl
    have hne := fun w0 => Ev.eq10 r r' hok hok' w0
    obtain ⟨u, hu⟩ : ∃ u, Hid (r.cells = u) := ⟨_, hide rfl⟩
    obtain ⟨u', hu'⟩ : ∃ u', Hid (r'.cells = u') := ⟨_, hide rfl⟩
    rw [hu.out] at hre hiu
    rw [hu'.out] at hre' hiu'
    simp only [hu.out, hu'.out] at hne
    clear hu hu' hok hok'
    by_cases hrr : r = r'
    ·have e1 : Ev.B r r' = true := Ev.B_iff.2 hrr
     rw [e1] at hne
     have HR := hide hrr
     clear hrr e1
     go_upto_region 6 with fail
     obtain ⟨w5, hw5⟩ : ∃ w5, wr.drew = w5 := ⟨_, rfl⟩
     have hB5 : Below w.heap.size w w5 := by rw [← hw5]; exact hB.drew
     have hre5 : w5.rangeAt b (off + k * 18) u := by rw [← hw5]; exact (World.rangeAt_drew _ _ _ _).2 hre
     have hre5' : w5.rangeAt b' (off' + k * 18) u' := by rw [← hw5]; exact (World.rangeAt_drew _ _ _ _).2 hre'
     have hb5 : b < w5.heap.size := by rw [← hw5]; exact hb
     have hb5' : b' < w5.heap.size := by rw [← hw5]; exact hb'
     refine hs_begin (S := (Below w5.heap.size w5)) 9 rfl (by kernel_rfl) ?_
     rw [hw5]
     clear hw5 hB hre hre' hb hb'
     have hS : (Below w5.heap.size w5) w5 := Below.refl _ _
     refine hs_t 0 16 (?_) rfl (by kernel_rfl) (by kernel_rfl) (by kernel_rfl) (by rfl) ?_ hS rfl ?_
     rotate_left
     ·intro w' hw
      go_simp
      try with_reducible rfl
     simp only [nz]
     refine hs_t 1 17 (?_) rfl (by kernel_rfl) (by kernel_rfl) (by kernel_rfl) (by rfl) ?_ hS rfl ?_
     rotate_left
     ·intro w' hw
      go_simp
      try with_reducible rfl
     simp only [nz]
     refine hs_t 2 18 (?_) rfl (by kernel_rfl) (by kernel_rfl) (by kernel_rfl) (by rfl) ?_ hS rfl ?_
     rotate_left
     ·intro w' hw
      go_simp
      try with_reducible rfl
     simp only [nz]
     refine hs_t 3 19 (.agg u.toArray) rfl (by kernel_rfl) (by kernel_rfl) (by kernel_rfl) (by rfl) (fun w' hw => exec_loadC rfl rfl (run_loadVar_mid (P := Tryz.prog) w' b (off + k * 18) 108 u _ (range_below hre5 hw hb5) Tryz.underlying108 rfl hiu)) hS rfl ?_
     simp only [nz]
     refine hs_t 4 20 (?_) rfl (by kernel_rfl) (by kernel_rfl) (by kernel_rfl) (by rfl) ?_ hS rfl ?_
     rotate_left
     ·intro w' hw
      go_simp
      try with_reducible rfl
     simp only [nz]
     refine hs_t 5 21 (?_) rfl (by kernel_rfl) (by kernel_rfl) (by kernel_rfl) (by rfl) ?_ hS rfl ?_
     rotate_left
     ·intro w' hw
      go_simp
      try with_reducible rfl
     simp only [nz]
     refine hs_t 6 22 (?_) rfl (by kernel_rfl) (by kernel_rfl) (by kernel_rfl) (by rfl) ?_ hS rfl ?_
     rotate_left
     ·intro w' hw
      go_simp
      try with_reducible rfl
     simp only [nz]
     refine hs_t 7 23 (.agg u'.toArray) rfl (by kernel_rfl) (by kernel_rfl) (by kernel_rfl) (by rfl) (fun w' hw => exec_loadC rfl rfl (run_loadVar_mid (P := Tryz.prog) w' b' (off' + k * 18) 108 u' _ (range_below hre5' hw hb5') Tryz.underlying108 rfl hiu')) hS rfl ?_
     simp only [nz]
     refine hs_t 8 24 (.bool false) rfl (by kernel_rfl) (by kernel_rfl) (by kernel_rfl) (by rfl) (fun w' hw => by have hc := hne w'; go_simp) hS rfl ?_
     simp only [nz]
     refine hs_done (by kernel_rfl) ?_
     go_wp2
     go_roundw
     case rel => exact ⟨k + 1, by omega, by go_num, hide (HM'.out HR.out), hB5⟩
     case measure => simp [intOf]; omega
    ·have e1 : Ev.B r r' = false := by
      cases hx : Ev.B r r'
      ·rfl
      ·exact absurd (Ev.B_iff.1 hx) hrr
     rw [e1] at hne
     have HR := hide hrr
     clear hrr e1
     go_upto_region 6 with fail
     obtain ⟨w5, hw5⟩ : ∃ w5, wr.drew = w5 := ⟨_, rfl⟩
     have hB5 : Below w.heap.size w w5 := by rw [← hw5]; exact hB.drew
     have hre5 : w5.rangeAt b (off + k * 18) u := by rw [← hw5]; exact (World.rangeAt_drew _ _ _ _).2 hre
     have hre5' : w5.rangeAt b' (off' + k * 18) u' := by rw [← hw5]; exact (World.rangeAt_drew _ _ _ _).2 hre'
     have hb5 : b < w5.heap.size := by rw [← hw5]; exact hb
     have hb5' : b' < w5.heap.size := by rw [← hw5]; exact hb'
     refine hs_begin (S := (Below w5.heap.size w5)) 9 rfl (by kernel_rfl) ?_
     rw [hw5]
     clear hw5 hB hre hre' hb hb'
     have hS : (Below w5.heap.size w5) w5 := Below.refl _ _
     refine hs_t 0 16 (?_) rfl (by kernel_rfl) (by kernel_rfl) (by kernel_rfl) (by rfl) ?_ hS rfl ?_
     rotate_left
     ·intro w' hw
      go_simp
      try with_reducible rfl
     simp only [nz]
     refine hs_t 1 17 (?_) rfl (by kernel_rfl) (by kernel_rfl) (by kernel_rfl) (by rfl) ?_ hS rfl ?_
     rotate_left
     ·intro w' hw
      go_simp
      try with_reducible rfl
     simp only [nz]
     refine hs_t 2 18 (?_) rfl (by kernel_rfl) (by kernel_rfl) (by kernel_rfl) (by rfl) ?_ hS rfl ?_
     rotate_left
     ·intro w' hw
      go_simp
      try with_reducible rfl
     simp only [nz]
     refine hs_t 3 19 (.agg u.toArray) rfl (by kernel_rfl) (by kernel_rfl) (by kernel_rfl) (by rfl) (fun w' hw => exec_loadC rfl rfl (run_loadVar_mid (P := Tryz.prog) w' b (off + k * 18) 108 u _ (range_below hre5 hw hb5) Tryz.underlying108 rfl hiu)) hS rfl ?_
     simp only [nz]
     refine hs_t 4 20 (?_) rfl (by kernel_rfl) (by kernel_rfl) (by kernel_rfl) (by rfl) ?_ hS rfl ?_
     rotate_left
     ·intro w' hw
      go_simp
      try with_reducible rfl
     simp only [nz]
     refine hs_t 5 21 (?_) rfl (by kernel_rfl) (by kernel_rfl) (by kernel_rfl) (by rfl) ?_ hS rfl ?_
     rotate_left
     ·intro w' hw
      go_simp
      try with_reducible rfl
     simp only [nz]
     refine hs_t 6 22 (?_) rfl (by kernel_rfl) (by kernel_rfl) (by kernel_rfl) (by rfl) ?_ hS rfl ?_
     rotate_left
     ·intro w' hw
      go_simp
      try with_reducible rfl
     simp only [nz]
     refine hs_t 7 23 (.agg u'.toArray) rfl (by kernel_rfl) (by kernel_rfl) (by kernel_rfl) (by rfl) (fun w' hw => exec_loadC rfl rfl (run_loadVar_mid (P := Tryz.prog) w' b' (off' + k * 18) 108 u' _ (range_below hre5' hw hb5') Tryz.underlying108 rfl hiu')) hS rfl ?_
     simp only [nz]
     refine hs_t 8 24 (.bool true) rfl (by kernel_rfl) (by kernel_rfl) (by kernel_rfl) (by rfl) (fun w' hw => by have hc := hne w'; go_simp) hS rfl ?_
     simp only [nz]
     refine hs_done (by kernel_rfl) ?_
     go_wp2
     go_ret
     exact ⟨.inr ⟨rfl, fun hh => HN'.out HR.out hh⟩, hB5⟩
   ·have k1 : ¬ (k : Int) < rs.length := by omega
    have HE : Hid (rs = rs') := hide (List.ext_getElem HL.out (fun j hj hj' => HM.out j hj hj' (by omega)))
    clear HM
    go_wp2
    go_ret
    exact ⟨.inl ⟨rfl, HE.out⟩, hB⟩
theorem equalE_anyB (a : Option Addr) (cap : Nat) (rs : List Ev) (a' : Option Addr) (cap' : Nat) (rs' : List Ev) (w : World) (h : RowsAt EvE w a rs) (h' : RowsAt EvE w a' rs') :
  Calls Tryz.prog 68 #[.slice a rs.length cap, .slice a' rs'.length cap'] w fun e w' => e = .returned (.bool (sameL Ev.B rs rs')) ∧ Below w.heap.size w w' := by
 refine (equalE_any a cap rs a' cap' rs' w h h').mono ?_
 rintro e w1 ⟨hc, hb⟩
 have I := sameL_iff (fun x y => Ev.B_iff (x := x) (y := y)) rs rs'
 refine ⟨?_, hb⟩
 rcases hc with ⟨rfl, he⟩ | ⟨rfl, he⟩
 ·rw [I.2 he]
 ·cases hq : sameL Ev.B rs rs'
  ·rfl
  ·exact absurd (I.1 hq) he
set_option maxRecDepth 100000 in
set_option maxHeartbeats 2000000 in
theorem equalQ_any (a : Option Addr) (cap : Nat) (rs : List Rq) (a' : Option Addr) (cap' : Nat) (rs' : List Rq) (w : World) (h : RowsAt RqE w a rs) (h' : RowsAt RqE w a' rs') :
  Calls Tryz.prog 102 #[.slice a rs.length cap, .slice a' rs'.length cap'] w fun e w' => ((e = .returned (.bool true) ∧ rs = rs') ∨ (e = .returned (.bool false) ∧ ¬ rs = rs')) ∧ Below w.heap.size w w' := by
 have hml := h.1
 have hml' := h'.1
 unfold maxLen at hml hml'
 have hall := h.2.1
 have hall' := h'.2.1
 by_cases hlen : rs.length = rs'.length
 rotate_left
 ·have e0 : ((rs.length : Int) == rs'.length) = false := by simp; omega
  have HL := hide hlen
  clear hlen
  go_enter Tryz.func102, Tryz.ntmps102
  go_wp2
  go_ret
  exact ⟨.inr ⟨rfl, fun hh => HL.out (by rw [hh])⟩, Below.refl _ _⟩
 ·have e0 : ((rs.length : Int) == rs'.length) = true := by simp; omega
  have HL := hide hlen
  clear hlen
  go_enter Tryz.func102, Tryz.ntmps102
  go_wp2
  go_loopw [13] (fun iv wr => ∃ k : Nat, k ≤ rs.length ∧ iv = .int .i64 (k : Int) ∧ Hid (∀ j (hj : j < rs.length) (hj' : j < rs'.length), j < k → rs[j] = rs'[j]) ∧ Below w.heap.size w wr) (fun iv _ => rs.length - (intOf iv).toNat)
  case atStart => exact ⟨0, by omega, rfl, hide (fun j _ _ hj => absurd hj (by omega)), Below.refl _ _⟩
  case round =>
   clear e0
   obtain ⟨k, hk, rfl, HM, hB⟩ := hrel
   by_cases hlt : k < rs.length
   ·have k1 : (k : Int) < rs.length := by omega
    have hlt' : k < rs'.length := by have := HL.out; omega
    have k1' : (k : Int) < rs'.length := by omega
    obtain ⟨b, off, rfl, hb, hre⟩ := (h.below hB).elem k hlt
    have hre : wr.rangeAt b (off + k * 19) rs[k].cells := hre
    obtain ⟨b', off', rfl, hb', hre'⟩ := (h'.below hB).elem k hlt'
    have hre' : wr.rangeAt b' (off' + k * 19) rs'[k].cells := hre'
    obtain ⟨r, hr⟩ : ∃ r, Hid (rs[k] = r) := ⟨_, hide rfl⟩
    obtain ⟨r', hr'⟩ : ∃ r', Hid (rs'[k] = r') := ⟨_, hide rfl⟩
    have hok : r.ok := by rw [← hr.out]; exact hall _ (List.getElem_mem hlt)
    have hok' : r'.ok := by rw [← hr'.out]; exact hall' _ (List.getElem_mem hlt')
    rw [hr.out] at hre
    rw [hr'.out] at hre'
    have HM' : Hid (r = r' → ∀ j (hj : j < rs.length) (hj' : j < rs'.length), j < k + 1 → rs[j] = rs'[j]) := hide (fun hp j hj hj' hjk => by
     by_cases e : j = k
     ·subst e; rw [hr.out, hr'.out]; exact hp
     ·exact HM.out j hj hj' (by omega))
    have HN' : Hid (r ≠ r' → rs ≠ rs') := hide (fun hp he => by
     apply hp
     rw [← hr.out, ← hr'.out]
     subst he
     rfl)
    clear hr hr' HM
    have hiu : (Tryz.prog.info? 91).map (·.size) = some r.cells.length := by rw [show r.cells.length = 19 from RqE.len r hok]; kernel_rfl
    have hiu' : (Tryz.prog.info? 91).map (·.size) = some r'.cells.length := by rw [show r'.cells.length = 19 from RqE.len r' hok']; kernel_rfl
    have hne := fun w0 => Rq.eq10 r r' hok hok' w0
    obtain ⟨u, hu⟩ : ∃ u, Hid (r.cells = u) := ⟨_, hide rfl⟩
    obtain ⟨u', hu'⟩ : ∃ u', Hid (r'.cells = u') := ⟨_, hide rfl⟩
    rw [hu.out] at hre hiu
    rw [hu'.out] at hre' hiu'
    simp only [hu.out, hu'.out] at hne
    clear hu hu' hok hok'
    by_cases hrr : r = r'
    ·have e1 : Rq.B r r' = true := Rq.B_iff.2 hrr
     rw [e1] at hne
     have HR := hide hrr
     clear hrr e1
     go_upto_region 6 with fail
     obtain ⟨w5, hw5⟩ : ∃ w5, wr.drew = w5 := ⟨_, rfl⟩
     have hB5 : Below w.heap.size w w5 := by rw [← hw5]; exact hB.drew
     have hre5 : w5.rangeAt b (off + k * 19) u := by rw [← hw5]; exact (World.rangeAt_drew _ _ _ _).2 hre
     have hre5' : w5.rangeAt b' (off' + k * 19) u' := by rw [← hw5]; exact (World.rangeAt_drew _ _ _ _).2 hre'
     have hb5 : b < w5.heap.size := by rw [← hw5]; exact hb
     have hb5' : b' < w5.heap.size := by rw [← hw5]; exact hb'
     refine hs_begin (S := (Below w5.heap.size w5)) 9 rfl (by kernel_rfl) ?_
     rw [hw5]
     clear hw5 hB hre hre' hb hb'
     have hS : (Below w5.heap.size w5) w5 := Below.refl _ _
     refine hs_t 0 16 (?_) rfl (by kernel_rfl) (by kernel_rfl) (by kernel_rfl) (by rfl) ?_ hS rfl ?_
     rotate_left
     ·intro w' hw
      go_simp
      try with_reducible rfl
     simp only [nz]
     refine hs_t 1 17 (?_) rfl (by kernel_rfl) (by kernel_rfl) (by kernel_rfl) (by rfl) ?_ hS rfl ?_
     rotate_left
     ·intro w' hw
      go_simp
      try with_reducible rfl
     simp only [nz]
     refine hs_t 2 18 (?_) rfl (by kernel_rfl) (by kernel_rfl) (by kernel_rfl) (by rfl) ?_ hS rfl ?_
     rotate_left
     ·intro w' hw
      go_simp
      try with_reducible rfl
     simp only [nz]
     refine hs_t 3 19 (.agg u.toArray) rfl (by kernel_rfl) (by kernel_rfl) (by kernel_rfl) (by rfl) (fun w' hw => exec_loadC rfl rfl (run_loadVar_mid (P := Tryz.prog) w' b (off + k * 19) 91 u _ (range_below hre5 hw hb5) Tryz.underlying91 rfl hiu)) hS rfl ?_
     simp only [nz]
     refine hs_t 4 20 (?_) rfl (by kernel_rfl) (by kernel_rfl) (by kernel_rfl) (by rfl) ?_ hS rfl ?_
     rotate_left
     ·intro w' hw
      go_simp
      try with_reducible rfl
     simp only [nz]
     refine hs_t 5 21 (?_) rfl (by kernel_rfl) (by kernel_rfl) (by kernel_rfl) (by rfl) ?_ hS rfl ?_
     rotate_left
     ·intro w' hw
      go_simp
      try with_reducible rfl
     simp only [nz]
     refine hs_t 6 22 (?_) rfl (by kernel_rfl) (by kernel_rfl) (by kernel_rfl) (by rfl) ?_ hS rfl ?_
     rotate_left
     ·intro w' hw
      go_simp
      try with_reducible rfl
     simp only [nz]
     refine hs_t 7 23 (.agg u'.toArray) rfl (by kernel_rfl) (by kernel_rfl) (by kernel_rfl) (by rfl) (fun w' hw => exec_loadC rfl rfl (run_loadVar_mid (P := Tryz.prog) w' b' (off' + k * 19) 91 u' _ (range_below hre5' hw hb5') Tryz.underlying91 rfl hiu')) hS rfl ?_
     simp only [nz]
     refine hs_t 8 24 (.bool false) rfl (by kernel_rfl) (by kernel_rfl) (by kernel_rfl) (by rfl) (fun w' hw => by have hc := hne w'; go_simp) hS rfl ?_
     simp only [nz]
     refine hs_done (by kernel_rfl) ?_
     go_wp2
     go_roundw
     case rel => exact ⟨k + 1, by omega, by go_num, hide (HM'.out HR.out), hB5⟩
     case measure => simp [intOf]; omega
    ·have e1 : Rq.B r r' = false := by
      cases hx : Rq.B r r'
      ·rfl
      ·exact absurd (Rq.B_iff.1 hx) hrr
     rw [e1] at hne
     have HR := hide hrr
     clear hrr e1
     go_upto_region 6 with fail
     obtain ⟨w5, hw5⟩ : ∃ w5, wr.drew = w5 := ⟨_, rfl⟩
     have hB5 : Below w.heap.size w w5 := by rw [← hw5]; exact hB.drew
     have hre5 : w5.rangeAt b (off + k * 19) u := by rw [← hw5]; exact (World.rangeAt_drew _ _ _ _).2 hre
     have hre5' : w5.rangeAt b' (off' + k * 19) u' := by rw [← hw5]; exact (World.rangeAt_drew _ _ _ _).2 hre'
     have hb5 : b < w5.heap.size := by rw [← hw5]; exact hb
     have hb5' : b' < w5.heap.size := by rw [← hw5]; exact hb'
     refine hs_begin (S := (Below w5.heap.size w5)) 9 rfl (by kernel_rfl) ?_
     rw [hw5]
     clear hw5 hB hre hre' hb hb'
     have hS : (Below w5.heap.size w5) w5 := Below.refl _ _
     refine hs_t 0 16 (?_) rfl (by kernel_rfl) (by kernel_rfl) (by kernel_rfl) (by rfl) ?_ hS rfl ?_
     rotate_left
     ·intro w' hw
      go_simp
      try with_reducible rfl
     simp only [nz]
     refine hs_t 1 17 (?_) rfl (by kernel_rfl) (by kernel_rfl) (by kernel_rfl) (by rfl) ?_ hS rfl ?_
     rotate_left
     ·intro w' hw
      go_simp
      try with_reducible rfl
     simp only [nz]
     refine hs_t 2 18 (?_) rfl (by kernel_rfl) (by kernel_rfl) (by kernel_rfl) (by rfl) ?_ hS rfl ?_
     rotate_left
     ·intro w' hw
      go_simp
      try with_reducible rfl
     simp only [nz]
     refine hs_t 3 19 (.agg u.toArray) rfl (by kernel_rfl) (by kernel_rfl) (by kernel_rfl) (by rfl) (fun w' hw => exec_loadC rfl rfl (run_loadVar_mid (P := Tryz.prog) w' b (off + k * 19) 91 u _ (range_below hre5 hw hb5) Tryz.underlying91 rfl hiu)) hS rfl ?_
     simp only [nz]
     refine hs_t 4 20 (?_) rfl (by kernel_rfl) (by kernel_rfl) (by kernel_rfl) (by rfl) ?_ hS rfl ?_
     rotate_left
     ·intro w' hw
      go_simp
      try with_reducible rfl
     simp only [nz]
     refine hs_t 5 21 (?_) rfl (by kernel_rfl) (by kernel_rfl) (by kernel_rfl) (by rfl) ?_ hS rfl ?_
     rotate_left
     ·intro w' hw
      go_simp
      try with_reducible rfl
     simp only [nz]
     refine hs_t 6 22 (?_) rfl (by kernel_rfl) (by kernel_rfl) (by kernel_rfl) (by rfl) ?_ hS rfl ?_
     rotate_left
     ·intro w' hw
      go_simp
      try with_reducible rfl
     simp only [nz]
     refine hs_t 7 23 (.agg u'.toArray) rfl (by kernel_rfl) (by kernel_rfl) (by kernel_rfl) (by rfl) (fun w' hw => exec_loadC rfl rfl (run_loadVar_mid (P := Tryz.prog) w' b' (off' + k * 19) 91 u' _ (range_below hre5' hw hb5') Tryz.underlying91 rfl hiu')) hS rfl ?_
     simp only [nz]
     refine hs_t 8 24 (.bool true) rfl (by kernel_rfl) (by kernel_rfl) (by kernel_rfl) (by rfl) (fun w' hw => by have hc := hne w'; go_simp) hS rfl ?_
     simp only [nz]
     refine hs_done (by kernel_rfl) ?_
     go_wp2
     go_ret
     exact ⟨.inr ⟨rfl, fun hh => HN'.out HR.out hh⟩, hB5⟩
   ·have k1 : ¬ (k : Int) < rs.length := by omega
    have HE : Hid (rs = rs') := hide (List.ext_getElem HL.out (fun j hj hj' => HM.out j hj hj' (by omega)))
    clear HM
    go_wp2
    go_ret
    exact ⟨.inl ⟨rfl, HE.out⟩, hB⟩
theorem equalQ_anyB (a : Option Addr) (cap : Nat) (rs : List Rq) (a' : Option Addr) (cap' : Nat) (rs' : List Rq) (w : World) (h : RowsAt RqE w a rs) (h' : RowsAt RqE w a' rs') :
  Calls Tryz.prog 102 #[.slice a rs.length cap, .slice a' rs'.length cap'] w fun e w' => e = .returned (.bool (sameL Rq.B rs rs')) ∧ Below w.heap.size w w' := by
 refine (equalQ_any a cap rs a' cap' rs' w h h').mono ?_
 rintro e w1 ⟨hc, hb⟩
 have I := sameL_iff (fun x y => Rq.B_iff (x := x) (y := y)) rs rs'
 refine ⟨?_, hb⟩
 rcases hc with ⟨rfl, he⟩ | ⟨rfl, he⟩
 ·rw [I.2 he]
 ·cases hq : sameL Rq.B rs rs'
  ·rfl
  ·exact absurd (I.1 hq) he
theorem two_boxG (q q' : List Value) (t : TypeId) (w : World) : ((w.alloc (.cells q.toArray t)).alloc (.cells q'.toArray t)).rangeAt w.heap.size 0 q ∧ ((w.alloc (.cells q.toArray t)).alloc (.cells q'.toArray t)).rangeAt (w.heap.size + 1) 0 q' ∧ Below w.heap.size w ((w.alloc (.cells q.toArray t)).alloc (.cells q'.toArray t)) ∧ w.heap.size + 2 ≤ ((w.alloc (.cells q.toArray t)).alloc (.cells q'.toArray t)).heap.size := by
 have hB : Below w.heap.size w (w.alloc (.cells q.toArray t)) := (Below.refl _ _).alloc (Nat.le_refl _) _
 have hB2 : Below (w.alloc (.cells q.toArray t)).heap.size (w.alloc (.cells q.toArray t)) ((w.alloc (.cells q.toArray t)).alloc (.cells q'.toArray t)) := (Below.refl _ _).alloc (Nat.le_refl _) _
 have h1 := range_new w q.toArray t
 have h2 := range_new (w.alloc (.cells q.toArray t)) q'.toArray t
 rw [World.size_alloc] at h2
 exact ⟨range_below (by simpa using h1) hB2 (by simp), by simpa using h2, hB.trans (hB2.mono (by simp)), by simp⟩
structure Sl (α : Type) where
  a : Option Addr
  cap : Nat
  xs : List α
instance {α : Type} : Inhabited (Sl α) := ⟨⟨none, 0, []⟩⟩
def Sl.val {α : Type} (x : Sl α) : Value := .slice x.a x.xs.length x.cap
def Sl.At {α : Type} (E : El α) (w : World) (x : Sl α) : Prop := RowsAt E w x.a x.xs
theorem Sl.At.below {α : Type} {E : El α} {w w' : World} {x : Sl α} (h : x.At E w) (hb : Below w.heap.size w w') : x.At E w' := RowsAt.below h hb
def batB (q : Bool) (x : Sl Rq) (q' : Bool) (x' : Sl Rq) : Bool := (q == q') && sameL Rq.B x.xs x'.xs
set_option maxRecDepth 100000 in
set_option maxHeartbeats 2000000 in
theorem bsame_any (q : Bool) (x : Sl Rq) (q' : Bool) (x' : Sl Rq) (w : World) (h : x.At RqE w) (h' : x'.At RqE w) :
  Calls Tryz.prog 66 #[.agg #[.bool q, x.val], .agg #[.bool q', x'.val]] w fun e w' => e = .returned (.bool (batB q x q' x')) ∧ Below w.heap.size w w' := by
 obtain ⟨a, cap, rs⟩ := x
 obtain ⟨a', cap', rs'⟩ := x'
 have ce := fun w0 h0 h1 => equalQ_anyB a cap rs a' cap' rs' w0 h0 h1
 have hB : Below w.heap.size w ((w.alloc (.cells #[.bool q, .slice a rs.length cap] 24)).alloc (.cells #[.bool q', .slice a' rs'.length cap'] 24)) := ((Below.refl _ w).alloc (Nat.le_refl _) _).alloc (by simp) _
 have h1 : RowsAt RqE _ a rs := RowsAt.below h hB
 have h1' : RowsAt RqE _ a' rs' := RowsAt.below h' hB
 have E : batB q ⟨a, cap, rs⟩ q' ⟨a', cap', rs'⟩ = ((q == q') && sameL Rq.B rs rs') := rfl
 rw [E]
 clear E h h'
 simp only [Sl.val]
 generalize sameL Rq.B rs rs' = sb at *
 cases q <;> cases q'
 case false.true | true.false =>
  clear ce
  go_enter Tryz.func66, Tryz.ntmps66
  go_wp2
  go_ret
  exact ⟨rfl, hB⟩
 all_goals
  cases sb
  all_goals
   go_enter Tryz.func66, Tryz.ntmps66
   go_wp2_with fail
   refine (ce _ h1 h1').mono ?_
   rintro e w2 ⟨rfl, hb2⟩
   have hB2 := hB.trans (hb2.mono hB.size)
   clear ce h1 h1' hb2
   go_wp2
   go_ret
   exact ⟨rfl, hB2⟩
def certL (x : Vt) (s : Sl Sg) : List Value := x.cells ++ [s.val]
def certB (x : Vt) (s : Sl Sg) (y : Vt) (t : Sl Sg) : Bool := vtB x y && sameL Sg.B s.xs t.xs
theorem Sl.one {α : Type} (x : Sl α) : x.val.oneCell' = true := rfl
set_option maxRecDepth 100000 in
set_option maxHeartbeats 2000000 in
theorem scert_any (x y : Vt) (s t : Sl Sg) (w : World) (hx : x.ok) (hy : y.ok) (hs : s.At SgE w) (ht : t.At SgE w) : Calls Tryz.prog 69 #[.agg (certL x s).toArray, .agg (certL y t).toArray] w fun e w' => e = .returned (.bool (certB x s y t)) ∧ Below w.heap.size w w' := by
 obtain ⟨hA, hA', hB, hz⟩ := two_boxG (certL x s) (certL y t) 31 w
 have r1 := range_left hA
 have r1' := range_left hA'
 have c1 := range_right hA 0 _ rfl
 have c1' := range_right hA' 0 _ rfl
 rw [hx.len] at c1
 rw [hy.len] at c1'
 simp only [Nat.zero_add, Nat.add_zero] at c1 c1'
 have ix : (Tryz.prog.info? 28).map (·.size) = some x.cells.length := by rw [hx.len]; exact iszV
 have iy : (Tryz.prog.info? 28).map (·.size) = some y.cells.length := by rw [hy.len]; exact iszV
 have hq := eqInV x y hx.dl hy.dl
 obtain ⟨a, cap, rs⟩ := s
 obtain ⟨a', cap', rs'⟩ := t
 have ce := fun w0 h0 h1 => equalS_anyB a cap rs a' cap' rs' w0 h0 h1
 have h1 : RowsAt SgE _ a rs := RowsAt.below hs hB
 have h1' : RowsAt SgE _ a' rs' := RowsAt.below ht hB
 have E : certB x ⟨a, cap, rs⟩ y ⟨a', cap', rs'⟩ = (vtB x y && sameL Sg.B rs rs') := rfl
 rw [E]
 simp only [Sl.val] at c1 c1'
 clear hA hA' hz hx hy E hs ht
 generalize certL x ⟨a, cap, rs⟩ = q at *
 generalize certL y ⟨a', cap', rs'⟩ = q' at *
 generalize x.cells = u at *
 generalize y.cells = u' at *
 generalize vtB x y = vb at *
 generalize sameL Sg.B rs rs' = sb at *
 cases vb
 ·go_enter Tryz.func69, Tryz.ntmps69
  go_upto_region 1 with fail
  go_name_world w1 hw1
  rw [show (w.alloc (.cells q.toArray 31)).alloc (.cells q'.toArray 31) = w1 from hw1] at r1 r1' c1 c1' hB h1 h1'
  clear hw1 ce
  go_wp2_with (first | (refine wpList_load_mid rfl 28 _ rfl _ _ rfl u _ r1 Tryz.underlying28 rfl ix ?_) | (refine wpList_load_mid rfl 28 _ rfl _ _ rfl u' _ r1' Tryz.underlying28 rfl iy ?_))
  go_ret
  exact ⟨rfl, hB⟩
 ·cases sb
  all_goals
   go_enter Tryz.func69, Tryz.ntmps69
   go_upto_region 1 with fail
   go_name_world w1 hw1
   rw [show (w.alloc (.cells q.toArray 31)).alloc (.cells q'.toArray 31) = w1 from hw1] at r1 r1' c1 c1' hB h1 h1'
   clear hw1
   go_wp2_with (first | (refine wpList_load_mid rfl 28 _ rfl _ _ rfl u _ r1 Tryz.underlying28 rfl ix ?_) | (refine wpList_load_mid rfl 28 _ rfl _ _ rfl u' _ r1' Tryz.underlying28 rfl iy ?_))
   refine (ce _ h1 h1').mono ?_
   rintro e2 w2 ⟨rfl, hb2⟩
   have hB2 := hB.trans (hb2.mono hB.size)
   clear ce h1 h1' hb2 c1 c1' r1 r1'
   go_wp2
   go_ret
   exact ⟨rfl, hB2⟩
structure Hd where
  q : Bool
  rs : Sl Rq
  vt : Vt
  sg : Sl Sg
instance : Inhabited Hd := ⟨⟨false, default, Vt.zero, default⟩⟩
def Hd.cells (h : Hd) : List Value := .bool h.q :: h.rs.val :: certL h.vt h.sg
def HdE : El Hd where
  f := Hd.cells
  k := 39
  ok := fun h => h.vt.ok
  len := fun h hv => by have := hv.len; simp [Hd.cells, certL]; omega
  one := fun h v hv => by
    simp only [Hd.cells, certL, List.mem_cons, List.mem_append, List.not_mem_nil, or_false] at hv
    rcases hv with rfl | rfl | hv | rfl
    · rfl
    · rfl
    · exact Vt.one _ v hv
    · rfl
def Hd.At (w : World) (h : Hd) : Prop := h.rs.At RqE w ∧ h.sg.At SgE w
theorem Hd.At.below {w w' : World} {h : Hd} (k : h.At w) (hb : Below w.heap.size w w') : h.At w' := ⟨k.1.below hb, k.2.below hb⟩
def Hd.B (h g : Hd) : Bool := batB h.q h.rs g.q g.rs && certB h.vt h.sg g.vt g.sg
theorem iszH : (Tryz.prog.info? 134).map (·.size) = some 39 := by kernel_rfl
set_option maxRecDepth 100000 in
set_option maxHeartbeats 2000000 in
theorem sheld_any (h g : Hd) (w : World) (kh : h.vt.ok) (kg : g.vt.ok) (ah : h.At w) (ag : g.At w) : Calls Tryz.prog 104 #[.agg h.cells.toArray, .agg g.cells.toArray] w fun e w' => e = .returned (.bool (Hd.B h g)) ∧ Below w.heap.size w w' := by
 obtain ⟨hA, hA', hB, hz⟩ := two_boxG h.cells g.cells 134 w
 have c0 := hA 0 _ rfl
 have c1 := hA 1 _ rfl
 have c0' := hA' 0 _ rfl
 have c1' := hA' 1 _ rfl
 simp only [Nat.zero_add, Nat.add_zero] at c0 c1 c0' c1'
 have rc : World.rangeAt _ w.heap.size 2 (certL h.vt h.sg) := range_right (cs := [.bool h.q, h.rs.val]) hA
 have rc' : World.rangeAt _ (w.heap.size + 1) 2 (certL g.vt g.sg) := range_right (cs := [.bool g.q, g.rs.val]) hA'
 have ic : (Tryz.prog.info? 31).map (·.size) = some (certL h.vt h.sg).length := by rw [show (certL h.vt h.sg).length = 37 by simp [certL, kh.len]]; exact iszC
 have ic' : (Tryz.prog.info? 31).map (·.size) = some (certL g.vt g.sg).length := by rw [show (certL g.vt g.sg).length = 37 by simp [certL, kg.len]]; exact iszC
 have h1 := ah.below hB
 have g1 := ag.below hB
 have cb := fun w0 k1 k2 => bsame_any h.q h.rs g.q g.rs w0 k1 k2
 have cc := fun w0 k1 k2 => scert_any h.vt g.vt h.sg g.sg w0 kh kg k1 k2
 unfold Hd.B
 obtain ⟨W, hW⟩ : ∃ W, Hid ((w.alloc (.cells h.cells.toArray 134)).alloc (.cells g.cells.toArray 134) = W) := ⟨_, hide rfl⟩
 rw [hW.out] at c0 c1 c0' c1' rc rc' hB hz h1 g1
 generalize h.cells = q at *
 generalize g.cells = q' at *
 generalize certL h.vt h.sg = u at *
 generalize certL g.vt g.sg = u' at *
 generalize batB h.q h.rs g.q g.rs = b1 at *
 generalize certB h.vt h.sg g.vt g.sg = b2 at *
 obtain ⟨hrq, hrs⟩ := h1
 obtain ⟨grq, grs⟩ := g1
 have B1 := cb W hrq grq
 obtain ⟨_, ⟨a, cap, rs⟩, _, sg⟩ := h
 obtain ⟨_, ⟨a', cap', rs'⟩, _, sg'⟩ := g
 simp only [Sl.val] at c1 c1' B1
 clear hA hA' kh kg ah ag cb hrq grq
 cases b1
 ·go_enter Tryz.func104, Tryz.ntmps104
  go_upto_region 1 with fail
  go_name_world w1 hw1
  obtain rfl : W = w1 := hW.out.symm.trans hw1
  clear hw1 hW cc
  go_wp2_with fail
  refine B1.mono ?_
  rintro e2 w2 ⟨rfl, hb2⟩
  have hB2 := hB.trans (hb2.mono (by omega))
  clear B1 c0 c1 c0' c1' rc rc' hb2
  go_wp2
  go_ret
  exact ⟨rfl, hB2⟩
 ·cases b2
  all_goals
   go_enter Tryz.func104, Tryz.ntmps104
   go_upto_region 1 with fail
   go_name_world w1 hw1
   obtain rfl : W = w1 := hW.out.symm.trans hw1
   clear hw1 hW
   go_wp2_with fail
   refine B1.mono ?_
   rintro e2 w2 ⟨rfl, hb2⟩
   have hB2 := hB.trans (hb2.mono (by omega))
   have C2 := cc w2 (hrs.below hb2) (grs.below hb2)
   have rc2 := range_below rc hb2 (by omega)
   have rc2' := range_below rc' hb2 (by omega)
   clear B1 c0 c1 c0' c1' rc rc' hb2 cc hrs grs
   go_wp2_with (first | (refine wpList_load_g (by rfl) 31 _ rfl _ _ rfl u _ rc2 Tryz.underlying31 rfl ic ?_) | (refine wpList_load_g (by rfl) 31 _ rfl _ _ rfl u' _ rc2' Tryz.underlying31 rfl ic' ?_))
   refine C2.mono ?_
   rintro e3 w3 ⟨rfl, hb3⟩
   have hB3 := hB2.trans (hb3.mono hB2.size)
   clear C2 rc2 rc2' hb3
   go_wp2
   go_ret
   exact ⟨rfl, hB3⟩
def Hd.zero : Hd := ⟨false, ⟨none, 0, []⟩, Vt.zero, ⟨none, 0, []⟩⟩
def HdsAt (w : World) (x : Sl Hd) : Prop := x.At HdE w ∧ ∀ h ∈ x.xs, h.At w
theorem HdsAt.below {w w' : World} {x : Sl Hd} (k : HdsAt w x) (hb : Below w.heap.size w w') : HdsAt w' x := ⟨k.1.below hb, fun h hh => (k.2 h hh).below hb⟩
theorem sameL_false {α : Type} {B : α → α → Bool} : ∀ {xs ys : List α}, xs.length ≠ ys.length → sameL B xs ys = false
 | [], [], h => absurd rfl h
 | _ :: _, [], _ => rfl
 | [], _ :: _, _ => rfl
 | _ :: xs, _ :: ys, h => by
  have := sameL_false (B := B) (xs := xs) (ys := ys) (fun e => h (by simp [e]))
  simp [sameL, this]
theorem sameL_all {α : Type} [Inhabited α] {B : α → α → Bool} : ∀ {xs ys : List α}, xs.length = ys.length → (∀ i, i < xs.length → B (xs.getD i default) (ys.getD i default) = true) → sameL B xs ys = true
 | [], [], _, _ => rfl
 | x :: xs, y :: ys, h, k => by
  have h0 := k 0 (by simp)
  have := sameL_all (B := B) (xs := xs) (ys := ys) (by simpa using h) (fun i hi => by have := k (i + 1) (by simp; omega); simpa using this)
  simp only [List.getD_cons_zero] at h0
  simp [sameL, this, h0]
theorem sameL_not {α : Type} [Inhabited α] {B : α → α → Bool} : ∀ {xs ys : List α} (i : Nat), i < xs.length → xs.length = ys.length → B (xs.getD i default) (ys.getD i default) = false → sameL B xs ys = false
 | x :: xs, y :: ys, 0, _, _, k => by
  simp only [List.getD_cons_zero] at k
  simp [sameL, k]
 | x :: xs, y :: ys, i + 1, hi, h, k => by
  have := sameL_not (B := B) (xs := xs) (ys := ys) i (by simpa using hi) (by simpa using h) (by simpa using k)
  simp [sameL, this]
set_option maxRecDepth 100000 in
set_option maxHeartbeats 4000000 in
theorem eqHeld_any (x y : Sl Hd) (w : World) (hx : HdsAt w x) (hy : HdsAt w y) :
  Calls Tryz.prog 103 #[x.val, y.val, .func (.func 104) #[] #[]] w fun e w' => e = .returned (.bool (sameL Hd.B x.xs y.xs)) ∧ Below w.heap.size w w' := by
 obtain ⟨a, cap, xs⟩ := x
 obtain ⟨a', cap', ys⟩ := y
 have hml : xs.length ≤ maxLen := hx.1.1
 have hml' : ys.length ≤ maxLen := hy.1.1
 unfold maxLen at hml hml'
 simp only [Sl.val]
 by_cases hlen : xs.length = ys.length
 rotate_left
 ·rw [sameL_false hlen]
  have e0 : ((xs.length : Int) == ys.length) = false := by simp; omega
  clear hlen
  go_enter Tryz.func103, Tryz.ntmps103
  go_wp2
  go_ret
  exact ⟨rfl, Below.refl _ _⟩
 ·have e0 : ((xs.length : Int) == ys.length) = true := by simp; omega
  have HL := hide hlen
  clear hlen
  obtain ⟨sb, hsb⟩ : ∃ sb, Hid (sameL Hd.B xs ys = sb) := ⟨_, hide rfl⟩
  rw [hsb.out]
  go_enter Tryz.func103, Tryz.ntmps103
  go_wp2
  go_loopw [17] (fun iv wr' => ∃ k : Nat, k ≤ xs.length ∧ iv = .int .i64 (k : Int) ∧ Hid (∀ j, j < k → Hd.B (xs.getD j default) (ys.getD j default) = true) ∧ Below w.heap.size w wr') (fun iv _ => xs.length - (intOf iv).toNat)
  case atStart => exact ⟨0, by omega, rfl, hide (fun j hj => absurd hj (by omega)), Below.refl _ _⟩
  case round =>
   clear e0
   rename ((xs.length : Int) != (ys.length : Int)) = false => hne0
   clear hne0
   obtain ⟨k, hk, rfl, HM, hB⟩ := hrel
   by_cases hlt : k < xs.length
   ·have k1 : (k : Int) < xs.length := by omega
    have hlt' : k < ys.length := by have := HL.out; omega
    have k1' : (k : Int) < ys.length := by omega
    obtain ⟨b, off, rfl, hb, hre⟩ := RowsAt.elem (hx.1.below hB) k hlt
    obtain ⟨b', off', rfl, hb', hre'⟩ := RowsAt.elem (hy.1.below hB) k hlt'
    have hre : wr.rangeAt b (off + k * 39) xs[k].cells := hre
    have hre' : wr.rangeAt b' (off' + k * 39) ys[k].cells := hre'
    have hgx : xs.getD k default = xs[k] := by rw [List.getD_eq_getElem?_getD, List.getElem?_eq_getElem hlt]; rfl
    have hgy : ys.getD k default = ys[k] := by rw [List.getD_eq_getElem?_getD, List.getElem?_eq_getElem hlt']; rfl
    have okx : xs[k].vt.ok := hx.1.2.1 _ (List.getElem_mem hlt)
    have oky : ys[k].vt.ok := hy.1.2.1 _ (List.getElem_mem hlt')
    have atx := (hx.2 _ (List.getElem_mem hlt)).below hB
    have aty := (hy.2 _ (List.getElem_mem hlt')).below hB
    obtain ⟨gx, hX⟩ : ∃ g, Hid (xs[k] = g) := ⟨_, hide rfl⟩
    obtain ⟨gy, hY⟩ : ∃ g, Hid (ys[k] = g) := ⟨_, hide rfl⟩
    rw [hX.out] at hre hgx okx atx
    rw [hY.out] at hre' hgy oky aty
    clear hX hY
    have HT : Hid (Hd.B gx gy = true → ∀ j, j < k + 1 → Hd.B (xs.getD j default) (ys.getD j default) = true) := hide (fun hp j hj => by
     by_cases e : j = k
     ·subst e; rw [hgx, hgy]; exact hp
     ·exact HM.out j (by omega))
    have HF : Hid (Hd.B gx gy = false → sb = false) := hide (fun hp => by
     rw [← hsb.out]
     exact sameL_not k hlt HL.out (by rw [hgx, hgy]; exact hp))
    have lu : gx.cells.length = 39 := HdE.len _ okx
    have lu' : gy.cells.length = 39 := HdE.len _ oky
    have ou : gx.cells.toArray.all (·.oneCell') = true := all_oneCell_toArray (HdE.one gx)
    have ou' : gy.cells.toArray.all (·.oneCell') = true := all_oneCell_toArray (HdE.one gy)
    have cs := fun (w0 : World) (hb : Below wr.heap.size wr w0) => sheld_any gx gy w0 okx oky (atx.below hb) (aty.below hb)
    generalize gx.cells = u at *
    generalize gy.cells = u' at *
    generalize Hd.B gx gy = hb1 at *
    clear hgx hgy HM okx oky atx aty
    have iu : (Tryz.prog.info? 134).map (·.size) = some u.length := by rw [lu]; exact iszH
    have iu' : (Tryz.prog.info? 134).map (·.size) = some u'.length := by rw [lu']; exact iszH
    have iA : (Tryz.prog.info? 134).map (·.size) = some u.toArray.size := by rw [List.size_toArray, lu]; exact iszH
    have iA' : (Tryz.prog.info? 134).map (·.size) = some u'.toArray.size := by rw [List.size_toArray, lu']; exact iszH
    have zl : Hd.zero.cells.toArray.size = 39 := rfl
    obtain ⟨r5, hB5, hs5, _⟩ := fresh_store wr Hd.zero.cells.toArray 134 u (by rw [lu]; rfl)
    have hT5 : (wr.alloc (.cells Hd.zero.cells.toArray 134)).there wr.heap.size 0 u.toArray.size := by
     have := there_new wr Hd.zero.cells.toArray 134
     rw [zl] at this
     rw [show u.toArray.size = 39 by simpa using lu]
     exact this
    go_upto_region 6 with (first | (refine wpList_load_mid rfl 134 _ rfl _ _ rfl u _ hre Tryz.underlying134 rfl iu ?_) | (refine wpList_store_mid rfl 134 _ _ rfl _ _ u.toArray rfl rfl hT5 iA ou ?_))
    go_name_world w5 hw5
    rw [show (wr.alloc (.cells Hd.zero.cells.toArray 134)).setCells wr.heap.size 0 u = w5 from hw5] at r5 hB5 hs5
    have hs5' : wr.heap.size < w5.heap.size := by omega
    clear hw5 hs5 hT5 hre
    have hre5' := range_below hre' hB5 hb'
    obtain ⟨r6, hB6, hs6, _⟩ := fresh_store w5 Hd.zero.cells.toArray 134 u' (by rw [lu']; rfl)
    have hT6 : (w5.alloc (.cells Hd.zero.cells.toArray 134)).there w5.heap.size 0 u'.toArray.size := by
     have := there_new w5 Hd.zero.cells.toArray 134
     rw [zl] at this
     rw [show u'.toArray.size = 39 by simpa using lu']
     exact this
    go_upto_region 7 with (first | (refine wpList_load_mid rfl 134 _ rfl _ _ rfl u' _ hre5' Tryz.underlying134 rfl iu' ?_) | (refine wpList_store_mid rfl 134 _ _ rfl _ _ u'.toArray rfl rfl hT6 iA' ou' ?_))
    go_name_world w6 hw6
    rw [show (w5.alloc (.cells Hd.zero.cells.toArray 134)).setCells w5.heap.size 0 u' = w6 from hw6] at r6 hB6 hs6
    clear hw6 hT6 hre5' hre' hs6
    have r56 := range_below r5 hB6 hs5'
    have hBB := hB5.trans (hB6.mono (by omega))
    have c7 := cs w6 hBB
    have hB7 := hB.trans (hBB.mono hB.size)
    clear cs hB5 hB6 r5 hBB
    go_wp2_with (first | (refine wpList_load_mid rfl 134 _ rfl _ _ rfl u _ r56 Tryz.underlying134 rfl iu ?_) | (refine wpList_load_mid rfl 134 _ rfl _ _ rfl u' _ r6 Tryz.underlying134 rfl iu' ?_))
    refine c7.mono ?_
    rintro e8 w8 ⟨rfl, hb8⟩
    have hB8 := hB7.trans (hb8.mono hB7.size)
    clear c7 hb8 r56 r6 hB7
    cases hb1
    ·have HF' := HF.out rfl
     clear HF HT hsb
     go_wp2
     go_ret
     exact ⟨by rw [HF']; rfl, hB8⟩
    ·have HT' := hide (HT.out rfl)
     clear HF HT
     go_wp2
     go_roundw
     case rel => exact ⟨k + 1, by omega, by go_num, HT', hB8⟩
     case measure => simp [intOf]; omega
   ·have k1 : ¬ (k : Int) < xs.length := by omega
    have HE : Hid (sb = true) := hide (by
     rw [← hsb.out]
     exact sameL_all HL.out (fun j hj => HM.out j (by omega)))
    clear HM hsb
    go_wp2
    go_ret
    exact ⟨by rw [HE.out]; rfl, hB⟩
def chgL (a b c : Int) (x : Sl Hd) : Array Value := #[.int .i64 a, .int .i64 b, .int .i64 c, x.val]
def chgB (a b c : Int) (x : Sl Hd) (a' b' c' : Int) (y : Sl Hd) : Bool := ((a == a') && ((b == b') && (c == c'))) && sameL Hd.B x.xs y.xs
set_option maxRecDepth 100000 in
set_option maxHeartbeats 4000000 in
theorem schg_any (a b c : Int) (x : Sl Hd) (a' b' c' : Int) (y : Sl Hd) (w : World) (hx : HdsAt w x) (hy : HdsAt w y) :
  Calls Tryz.prog 67 #[.agg (chgL a b c x), .agg (chgL a' b' c' y)] w fun e w' => e = .returned (.bool (chgB a b c x a' b' c' y)) ∧ Below w.heap.size w w' := by
 have hB : Below w.heap.size w ((w.alloc (.cells (chgL a b c x) 60)).alloc (.cells (chgL a' b' c' y) 60)) := ((Below.refl _ w).alloc (Nat.le_refl _) _).alloc (by simp) _
 have ce := eqHeld_any x y _ (hx.below hB) (hy.below hB)
 unfold chgB
 unfold chgL at hB ce ⊢
 generalize sameL Hd.B x.xs y.xs = sb at *
 obtain ⟨xa, xc, xs⟩ := x
 obtain ⟨ya, yc, ys⟩ := y
 simp only [Sl.val] at hB ce ⊢
 clear hx hy
 by_cases h1 : a = a'
 rotate_left
 ·rw [show (a == a') = false from beq_eq_false_iff_ne.2 h1]
  have n1 : (a != a') = true := bne_iff_ne.2 h1
  clear h1 ce
  go_enter Tryz.func67, Tryz.ntmps67
  go_wp2
  go_ret
  exact ⟨rfl, hB⟩
 ·subst h1
  by_cases h2 : b = b'
  rotate_left
  ·rw [show (b == b') = false from beq_eq_false_iff_ne.2 h2]
   have n1 : (b != b') = true := bne_iff_ne.2 h2
   clear h2 ce
   go_enter Tryz.func67, Tryz.ntmps67
   go_wp2
   go_ret
   exact ⟨by simp, hB⟩
  ·subst h2
   by_cases h3 : c = c'
   rotate_left
   ·rw [show (c == c') = false from beq_eq_false_iff_ne.2 h3]
    have n1 : (c != c') = true := bne_iff_ne.2 h3
    clear h3 ce
    go_enter Tryz.func67, Tryz.ntmps67
    go_wp2
    go_ret
    exact ⟨by simp, hB⟩
   ·subst h3
    have E : (((a == a) && ((b == b) && (c == c))) && sb) = sb := by simp
    rw [E]
    clear E
    go_enter Tryz.func67, Tryz.ntmps67
    go_wp2_with fail
    refine ce.mono ?_
    rintro e2 w2 ⟨rfl, hb2⟩
    have hB2 := hB.trans (hb2.mono hB.size)
    clear ce hb2
    go_wp2
    go_ret
    exact ⟨rfl, hB2⟩
end Go.Proofs.YtinndbipomlokaaGreat
