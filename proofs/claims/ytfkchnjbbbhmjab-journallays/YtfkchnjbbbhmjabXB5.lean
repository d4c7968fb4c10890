/- What was read, put again; Left.; The document's reader: number.; The document's reader: Num.; The document's reader: Text.; The readers: Text, Left, Done of the document's, Done of the program's.; The readers: Raw of the program's; Read of the document's.; journal: sumOf, turnOf; tally's Done; The document's reader: Read.; the document's reader: Done; the document's turn; what was put is read back; strings and bytes; rows of whatever; acts; raddlelaw15.Light: are acts not more than are looked at?; tapes that no call made; the walk of TapeNobody; what a tape that has no plan answers; the walk of TapeRefused -/
import Derived.Test.YtfkchnjbbbhmjabXB4
import Derived.BigQuiet
import Derived.Test.YtfkchnjbbbhmjabXB3
import Derived.Laws.IdiomStrings
import Derived.ProofKit
import Derived.OpenShut
import Derived.ShutString
import Derived.ChangeOld
import Derived.Deep.Slices
import Derived.Lib.LaidTab
namespace Go.Proofs.Ytfkchnjbbbhmjab.Ty
open Go.RowKit
namespace Tal
theorem digs_val (ds : List Int) (hz : ∀ z ∈ ds, 0 ≤ z ∧ z < 256) (hh : ds.head? ≠ some 0) (hv : val ds ≤ 9223372036854775807) : digs (val ds).toNat = ds := by
  have key : ∀ k, k ≤ ds.length → val (ds.take k) ≤ 9223372036854775807 → digs (val (ds.take k)).toNat = ds.take k := by
    intro k
    induction k with
    | zero => intro _ _; simp [val, digs_zero]
    | succ k ih =>
      intro hk hle
      have hlt : k < ds.length := by omega
      have e := val_take ds k hlt
      have hb := val_bound (ds.take k) (fun z h => hz z (List.mem_of_mem_take h))
      have hd : 0 ≤ ds.getD k 0 ∧ ds.getD k 0 < 256 := by
        rw [List.getD_eq_getElem?_getD, List.getElem?_eq_getElem hlt]; exact hz _ (List.getElem_mem hlt)
      have hi := ih (by omega) (by omega)
      have hpos : 0 < val (ds.take (k + 1)) := by
        by_cases h0 : k = 0
        · subst h0
          have : val (ds.take 0) = 0 := by simp [val]
          rw [e, this]
          cases ds with
          | nil => simp at hlt
          | cons x tl => simp at hh hd ⊢; omega
        · have : 0 < val (ds.take k) := by
            rcases Int.lt_or_eq_of_le hb.1 with h | h
            · exact h
            · rw [← h] at hi
              have hl := congrArg List.length hi
              rw [List.length_take_of_le (by omega)] at hl
              have : (digs (0 : Int).toNat).length = 0 := by decide
              omega
          omega
      have ht : ds.take (k + 1) = ds.take k ++ [ds.getD k 0] := by
        rw [List.take_succ_eq_append_getElem hlt, List.getD_eq_getElem?_getD, List.getElem?_eq_getElem hlt]; rfl
      have e1 : (val (ds.take (k + 1))).toNat / 256 = (val (ds.take k)).toNat := by omega
      have e2 : ((((val (ds.take (k + 1))).toNat % 256 : Nat)) : Int) = ds.getD k 0 := by omega
      rw [digs_succ _ (by omega) (by omega), e1, e2, hi, ht]
  have := key ds.length (Nat.le_refl _)
  rw [List.take_length] at this
  exact this hv
/-- what was read as a number, put again, is what was read -/
theorem numR_form (zs : List Int) (hz : ∀ z ∈ zs, 0 ≤ z ∧ z < 256) (h : (numR zs).2.2 = 0) :
    putL (numR zs).1 = zs.take (numR zs).2.1 ∧ (numR zs).2.1 ≤ zs.length ∧ 0 ≤ (numR zs).1 ∧ (numR zs).1 ≤ 9223372036854775807 := by
  cases zs with
  | nil => simp [numR] at h
  | cons k tl =>
    have hk := hz k (by simp)
    by_cases h8 : 8 < k
    · simp [numR, h8] at h
    · by_cases hl : (tl.length : Int) < k
      · simp [numR, h8, hl] at h
      · by_cases hv : (valR (tl.take k.toNat)).2 = 0
        · have e : numR (k :: tl) = ((valR (tl.take k.toNat)).1, 1 + k.toNat, 0) := by simp only [numR, if_neg h8, if_neg hl, if_pos hv]
          rw [e]
          have hds : ∀ z ∈ tl.take k.toNat, 0 ≤ z ∧ z < 256 := fun z h => hz z (by simp [List.mem_of_mem_take h])
          have hb := val_bound _ hds
          have hnot : ¬ ((tl.take k.toNat).head? = some 0 ∨ 9223372036854775807 < val (tl.take k.toNat)) := by
            intro hc; unfold valR at hv; rw [if_pos hc] at hv; cases hv
          have e1 : (valR (tl.take k.toNat)).1 = val (tl.take k.toNat) := by unfold valR; rw [if_neg hnot]
          have hlen : (tl.take k.toNat).length = k.toNat := List.length_take_of_le (by omega)
          have hd := digs_val (tl.take k.toNat) hds (fun h => hnot (Or.inl h)) (by omega)
          have hw : (wid (val (tl.take k.toNat)).toNat : Int) = k := by
            rw [← digs_length, hd, hlen]; omega
          simp only [e1]
          refine ⟨?_, by simp; omega, hb.1, by omega⟩
          unfold putL
          rw [if_neg (by omega), numB, hd, hw, Nat.add_comm]
          rfl
        · simp only [numR, if_neg h8, if_neg hl, if_neg hv] at h
          exact absurd h hv
end Tal
open Tal
set_option maxHeartbeats 400000 in
theorem leftR_any (R : Nat) (rest : List Int) (e : Int) (w : World) (h : St w R rest e) :
    Calls Try.prog 71 #[.pointer (some ⟨R, 0, none⟩)] w fun en w' => en = .returned (.int .i64 (if e = 0 then (rest.length : Int) else 0)) ∧ w' = w := by
  obtain ⟨hE, hR⟩ := h
  by_cases he : e = 0
  · subst he
    obtain ⟨a, cap, h0, _⟩ := hR rfl
    go_enter Try.func71, Try.ntmps71
    go_wp2_with fail
    refine (err_made R 0 w hE).mono ?_
    rintro en w1 ⟨rfl, rfl⟩
    go_wp2_with fail
    refine (left_any R a rest.length cap w1 h0).mono ?_
    rintro en w2 ⟨rfl, rfl⟩
    go_wp2_with fail
    go_ret
    exact ⟨rfl, rfl⟩
  · have he' : (e == 0) = false := by simpa using he
    go_enter Try.func71, Try.ntmps71
    go_wp2_with fail
    refine (err_made R e w hE).mono ?_
    rintro en w1 ⟨rfl, rfl⟩
    go_wp2_with fail
    go_ret
    exact ⟨rfl, rfl⟩
end Go.Proofs.Ytfkchnjbbbhmjab.Ty
namespace Go.Proofs.Ytfkchnjbbbhmjab.Ty
open Go.RowKit
open Tal
variable {B T : Nat}
/-- the document's reader: its bytes, its place, its error -/
def Rf (B T : Nat) (w : World) (X : Nat) (zs : List Int) (p : Nat) (e : Int) : Prop :=
  X < w.heap.size ∧ (∃ a cap, w.cell? ⟨X, 0, none⟩ = some (.slice a zs.length cap) ∧ zs.length ≤ cap ∧ cap ≤ maxLen ∧ RowAt w a zs ∧ ∀ x, a = some x → B ≤ x.block ∧ x.block < X) ∧
  w.cell? ⟨X, 1, none⟩ = some (.int .i64 (p : Int)) ∧ w.cell? ⟨X, 2, none⟩ = some (.int .i64 e) ∧ w.frozen? ⟨X, 0, none⟩ = false ∧ w.frozen? ⟨X, 1, none⟩ = false ∧ w.frozen? ⟨X, 2, none⟩ = false ∧ p ≤ zs.length ∧ (zs.length ≤ 100000000 ∧ zs.length = T)
theorem suc_ne {a : Option Addr} {X : Nat} (h : ∀ x, a = some x → B ≤ x.block ∧ x.block < X) : ∀ x, a = some x → x.block ≠ X := fun x hx => Nat.ne_of_lt (h x hx).2
namespace Tal
theorem val_mono (ds : List Int) (hz : ∀ z ∈ ds, 0 ≤ z ∧ z < 256) (j : Nat) (hj : j ≤ ds.length) : val (ds.take j) ≤ val ds := by
  have : ∀ m, j + m ≤ ds.length → val (ds.take j) ≤ val (ds.take (j + m)) := by
    intro m
    induction m with
    | zero => intro _; exact Int.le_refl _
    | succ m ih =>
      intro hm
      have h1 := ih (by omega)
      have hlt : j + m < ds.length := by omega
      have e := val_take ds (j + m) hlt
      have hb := val_bound (ds.take (j + m)) (fun z h => hz z (List.mem_of_mem_take h))
      have hd : 0 ≤ ds.getD (j + m) 0 := by
        rw [List.getD_eq_getElem?_getD, List.getElem?_eq_getElem hlt]; exact (hz _ (List.getElem_mem hlt)).1
      rw [← Nat.add_assoc, e]
      omega
  have h := this (ds.length - j) (by omega)
  have e : j + (ds.length - j) = ds.length := by omega
  rw [e, List.take_length] at h
  exact h
theorem val8 (ds : List Int) (hz : ∀ z ∈ ds, 0 ≤ z ∧ z < 256) (hl : ds.length ≤ 8) : (9223372036854775807 < val ds) ↔ (ds.length = 8 ∧ 127 < ds.getD 0 0) := by
  cases ds with
  | nil => simp [val]
  | cons x tl =>
    have hx := hz x (by simp)
    have e : val (x :: tl) = x * 256 ^ tl.length + val tl := by
      have : ∀ (l : List Int) (a : Int), l.foldl (fun a d => a * 256 + d) a = a * 256 ^ l.length + val l := by
        intro l
        induction l with
        | nil => intro a; simp [val]
        | cons y l ih =>
          intro a
          simp only [List.foldl_cons, List.length_cons, val]
          rw [ih, ih (0 * 256 + y), Int.pow_succ]
          simp only [Int.zero_mul, Int.zero_add, Int.add_mul]
          rw [Int.mul_assoc, Int.mul_comm 256]
          omega
      have h := this tl (0 * 256 + x)
      simp only [val, List.foldl_cons]
      rw [h]; simp [val]
    have hb := val_bound tl (fun z h => hz z (by simp [h]))
    simp only [List.length_cons] at hl ⊢
    simp only [List.getD_cons_zero]
    rw [e]
    by_cases h7 : tl.length = 7
    · rw [h7] at hb ⊢
      omega
    · have h6 : tl.length ≤ 6 := by omega
      have hp : 256 ^ tl.length ≤ 281474976710656 := Nat.le_trans (Nat.pow_le_pow_right (by omega) h6) (by decide)
      have ep : ((256 ^ tl.length : Nat) : Int) = (256 : Int) ^ tl.length := Int.natCast_pow 256 _
      rw [← ep] at hb ⊢
      generalize 256 ^ tl.length = q at *
      have hm : x * (q : Int) ≤ 255 * q := Int.mul_le_mul_of_nonneg_right (by omega) (by omega)
      constructor
      · intro h; omega
      · intro h; omega
end Tal
theorem Rf.rest {w : World} {X : Nat} {zs : List Int} {p : Nat} {e : Int} (h : Rf B T w X zs p e) : ∃ a cap, w.cell? ⟨X, 0, none⟩ = some (.slice a zs.length cap) ∧ zs.length ≤ cap ∧ cap ≤ maxLen ∧ RowAt w (cutA a cap p) (zs.drop p) := by
  obtain ⟨hX, ⟨a, cap, h0, hc, hm, hr, hne⟩, h1, h2, f0, f1, f2, hp, hl⟩ := h
  exact ⟨a, cap, h0, hc, hm, hr.drop p cap hp hc⟩
end Go.Proofs.Ytfkchnjbbbhmjab.Ty
namespace Go.Proofs.Ytfkchnjbbbhmjab.Ty
open Go.RowKit
open Tal
variable {B T : Nat}
theorem gbz_drewN (w : World) (k : Nat) (r : Option Nat) : w.grownBy (w.drewN k) r := ⟨rfl, rfl, rfl, Nat.le_refl _, fun _ _ _ => rfl⟩
theorem Rf.drewN {w : World} {X : Nat} {zs : List Int} {p : Nat} {e : Int} (h : Rf B T w X zs p e) (k : Nat) : Rf B T (w.drewN k) X zs p e := by
  obtain ⟨hX, ⟨a, cap, h0, hc, hm, hr, hne⟩, h1, h2, f0, f1, f2, hp, hl⟩ := h
  refine ⟨by simpa using hX, ⟨a, cap, by simpa using h0, hc, hm, hr.gb (gbz_drewN w k (some X)) (.inr (suc_ne hne)), hne⟩, by simpa using h1, by simpa using h2, by simpa using f0, by simpa using f1, by simpa using f2, hp, hl⟩
theorem Rf.set2 {w : World} {X : Nat} {zs : List Int} {p : Nat} {e : Int} (h : Rf B T w X zs p e) (e' : Int) : Rf B T (w.setCell ⟨X, 2, none⟩ (.int .i64 e')) X zs p e' := by
  obtain ⟨hX, ⟨a, cap, h0, hc, hm, hr, hne⟩, h1, h2, f0, f1, f2, hp, hl⟩ := h
  exact ⟨by simpa [World.setCell] using hX, ⟨a, cap, (World.cell?_setCell_other _ _ _ _ (by simp)).trans h0, hc, hm, hr.gb (gb_set w X 2 _) (.inr (suc_ne hne)), hne⟩, (World.cell?_setCell_other _ _ _ _ (by simp)).trans h1, World.cell?_setCell_same _ _ _ h2,
    (World.frozen?_setCell _ _ _ _).trans f0, (World.frozen?_setCell _ _ _ _).trans f1, (World.frozen?_setCell _ _ _ _).trans f2, hp, hl⟩
theorem Rf.set1 {w : World} {X : Nat} {zs : List Int} {p : Nat} {e : Int} (h : Rf B T w X zs p e) (p' : Nat) (hp' : p' ≤ zs.length) : Rf B T (w.setCell ⟨X, 1, none⟩ (.int .i64 (p' : Int))) X zs p' e := by
  obtain ⟨hX, ⟨a, cap, h0, hc, hm, hr, hne⟩, h1, h2, f0, f1, f2, hp, hl⟩ := h
  exact ⟨by simpa [World.setCell] using hX, ⟨a, cap, (World.cell?_setCell_other _ _ _ _ (by simp)).trans h0, hc, hm, hr.gb (gb_set w X 1 _) (.inr (suc_ne hne)), hne⟩, World.cell?_setCell_same _ _ _ h1, (World.cell?_setCell_other _ _ _ _ (by simp)).trans h2,
    (World.frozen?_setCell _ _ _ _).trans f0, (World.frozen?_setCell _ _ _ _).trans f1, (World.frozen?_setCell _ _ _ _).trans f2, hp', hl⟩
/-- the document's reader with this ahead of it and this error -/
def RSt (B T : Nat) (w : World) (X : Nat) (rest : List Int) (e : Int) : Prop := ∃ zs p, Rf B T w X zs p e ∧ (e = 0 → zs.drop p = rest)
theorem RSt.other {w : World} {X : Nat} {rest : List Int} {e : Int} (h : RSt B T w X rest e) (he : e ≠ 0) (rest' : List Int) : RSt B T w X rest' e := by
  obtain ⟨zs, p, h1, _⟩ := h
  exact ⟨zs, p, h1, fun h0 => absurd h0 he⟩
theorem numR_len (zs : List Int) (hz : ∀ z ∈ zs, 0 ≤ z ∧ z < 256) (h : (numR zs).2.2 = 0) : (numR zs).2.1 ≤ zs.length := (numR_form zs hz h).2.1
end Go.Proofs.Ytfkchnjbbbhmjab.Ty
namespace Go.Proofs.Ytfkchnjbbbhmjab.Ty
open Go.RowKit
open Tal
variable {B T : Nat}
theorem numS_max (rest : List Int) (hz : ∀ z ∈ rest, 0 ≤ z ∧ z < 256) : numS rest 0 9223372036854775807 = if (numR rest).2.2 = 0 then ((numR rest).1, rest.drop (numR rest).2.1, 0) else (0, rest, (numR rest).2.2) := by
  unfold numS
  rw [if_pos rfl]
  by_cases h : (numR rest).2.2 = 0
  · have := (numR_form rest hz h).2.2.2
    rw [if_pos h, if_pos h, if_neg (by omega)]
  · rw [if_neg h, if_neg h]
end Go.Proofs.Ytfkchnjbbbhmjab.Ty
namespace Go.Proofs.Ytfkchnjbbbhmjab.Ty
open Go.RowKit
open Tal
variable {B T : Nat}
end Go.Proofs.Ytfkchnjbbbhmjab.Ty
namespace Go.Proofs.Ytfkchnjbbbhmjab.Ty
open Go.RowKit
open Tal
variable {B T : Nat}
/-- what Raw answers, what is ahead then, the error then -/
def rawS (rest : List Int) (e n : Int) : List Int × List Int × Int :=
  if e = 0 then
    if n < 0 then ([], rest, 2)
    else if (rest.length : Int) < n then ([], rest, 10)
    else (rest.take n.toNat, rest.drop n.toNat, 0)
  else ([], rest, e)
theorem cell_block {w w' : World} {b j : Nat} (h : w'.heap[b]? = w.heap[b]?) : w'.cell? ⟨b, j, none⟩ = w.cell? ⟨b, j, none⟩ ∧ w'.frozen? ⟨b, j, none⟩ = w.frozen? ⟨b, j, none⟩ := by
  constructor
  · simp only [World.cell?, h]
  · simp only [World.frozen?, h]
theorem RdE.below {w w' : World} {R : Nat} {e : Int} (h : RdE w R e) (hb : w'.heap[R]? = w.heap[R]?) (hs : w.heap.size ≤ w'.heap.size) : RdE w' R e := by
  obtain ⟨hR, ⟨a, n, c, h0⟩, h1, h2, f0, f1, f2⟩ := h
  have hc := fun j => (cell_block (j := j) hb)
  exact ⟨Nat.lt_of_lt_of_le hR hs, ⟨a, n, c, (hc 0).1.trans h0⟩, (hc 1).1.trans h1, (hc 2).1.trans h2, (hc 0).2.trans f0, (hc 1).2.trans f1, (hc 2).2.trans f2⟩
theorem St.below {w w' : World} {R : Nat} {rest : List Int} {e : Int} (h : St w R rest e) (hb : Below w.heap.size w w') : St w' R rest e := by
  have hR := h.1.1
  refine ⟨h.1.below (hb.block R hR) hb.size, fun he => ?_⟩
  obtain ⟨a, cap, h0, hc, hm, hr, hne⟩ := h.2 he
  exact ⟨a, cap, (cell_block (hb.block R hR)).1.trans h0, hc, hm, hr.below hb, hne⟩
theorem Rf.below {w w' : World} {X : Nat} {zs : List Int} {p : Nat} {e : Int} (h : Rf B T w X zs p e) (hb : Below w.heap.size w w') : Rf B T w' X zs p e := by
  obtain ⟨hX, ⟨a, cap, h0, hc, hm, hr, hne⟩, h1, h2, f0, f1, f2, hp, hl⟩ := h
  have hk := fun j => (cell_block (j := j) (hb.block X hX))
  exact ⟨Nat.lt_of_lt_of_le hX hb.size, ⟨a, cap, (hk 0).1.trans h0, hc, hm, hr.below hb, hne⟩, (hk 1).1.trans h1, (hk 2).1.trans h2, (hk 0).2.trans f0, (hk 1).2.trans f1, (hk 2).2.trans f2, hp, hl⟩
theorem RSt.below {w w' : World} {X : Nat} {rest : List Int} {e : Int} (h : RSt B T w X rest e) (hb : Below w.heap.size w w') : RSt B T w' X rest e := by
  obtain ⟨zs, p, h1, h2⟩ := h
  exact ⟨zs, p, h1.below hb, h2⟩
theorem Mine.nil (w : World) (B : Nat) : Mine w B (.slice none 0 0) [] := ⟨World.ownsRow_nil _ _ _ _, by simp⟩
theorem Mine.mono' {w : World} {B B' : Nat} {v : Value} {zs : List Int} (h : Mine w B v zs) (hb : B' ≤ B) : Mine w B' v zs := by
  refine ⟨⟨h.1.1, ?_⟩, h.2⟩
  rcases h.1.2 with h | ⟨g, cap, cur, hv, hg, r⟩
  · exact .inl h
  · exact .inr ⟨g, cap, cur, hv, Nat.le_trans hb hg, r⟩
set_option maxHeartbeats 1600000 in
theorem raw_any (R : Nat) (rest : List Int) (e n : Int) (w : World) (h : St w R rest e) (hl : rest.length ≤ 100000000) :
    Calls Try.prog 70 #[.pointer (some ⟨R, 0, none⟩), .int .i64 n] w fun en w' => ∃ v, en = .returned v ∧ Mine w' w.heap.size v (rawS rest e n).1 ∧ St w' R (rawS rest e n).2.1 (rawS rest e n).2.2 ∧ w.grownBy w' (some R) := by
  by_cases he : e = 0
  · subst he
    by_cases hn : n < 0
    · have HS : Hid (rawS rest 0 n = ([], rest, 2)) := by show _ = _; unfold rawS; rw [if_pos rfl, if_pos hn]
      go_enter Try.func70, Try.ntmps70
      go_wp2_with fail
      refine (err_made R 0 w h.1).mono ?_
      rintro en w1 ⟨rfl, rfl⟩
      go_wp2_with fail
      refine (fail_any R 0 2 w1 h.1).mono ?_
      rintro en w2 ⟨rfl, hE2, hg2⟩
      go_wp2_with fail
      go_ret
      rw [HS.out]
      exact ⟨_, rfl, Mine.nil _ _, ⟨hE2, fun h => by cases h⟩, hg2⟩
    · by_cases hf : (rest.length : Int) < n
      · have HS : Hid (rawS rest 0 n = ([], rest, 10)) := by show _ = _; unfold rawS; rw [if_pos rfl, if_neg hn, if_pos hf]
        go_enter Try.func70, Try.ntmps70
        go_wp2_with fail
        refine (err_made R 0 w h.1).mono ?_
        rintro en w1 ⟨rfl, rfl⟩
        go_wp2_with fail
        refine (next_few R rest n w1 h hf).mono ?_
        rintro en w2 ⟨rfl, hS2, hg2⟩
        have cc := clone_any none 0 [] w2 (nil_row w2) (by simp)
        simp only [List.length_nil] at cc
        go_wp2_with fail
        refine cc.mono ?_
        rintro en w3 ⟨v, rfl, hm, hb⟩
        go_wp2_with fail
        go_ret
        rw [HS.out]
        exact ⟨_, rfl, hm.mono' hg2.size, hS2.below hb, gb_trans hg2 (gb_below hb _)⟩
      · have HS : Hid (rawS rest 0 n = (rest.take n.toNat, rest.drop n.toNat, 0)) := by show _ = _; unfold rawS; rw [if_pos rfl, if_neg hn, if_neg hf]
        go_enter Try.func70, Try.ntmps70
        go_wp2_with fail
        refine (err_made R 0 w h.1).mono ?_
        rintro en w1 ⟨rfl, rfl⟩
        go_wp2_with fail
        refine (next_there R rest n w1 h (by omega) (by omega)).mono ?_
        rintro en w2 ⟨a, cap, rfl, hca, hra, hS2, hg2⟩
        have cc := clone_any a cap (rest.take n.toNat) w2 hra (by rw [List.length_take]; omega)
        rw [List.length_take_of_le (by omega)] at cc
        go_wp2_with fail
        refine cc.mono ?_
        rintro en w3 ⟨v, rfl, hm, hb⟩
        go_wp2_with fail
        go_ret
        rw [HS.out]
        exact ⟨_, rfl, hm.mono' hg2.size, hS2.below hb, gb_trans hg2 (gb_below hb _)⟩
  · have HS : Hid (rawS rest e n = ([], rest, e)) := by show _ = _; unfold rawS; rw [if_neg he]
    have he' : (e == 0) = false := by simpa using he
    go_enter Try.func70, Try.ntmps70
    go_wp2_with fail
    refine (err_made R e w h.1).mono ?_
    rintro en w1 ⟨rfl, rfl⟩
    go_wp2_with fail
    go_ret
    rw [HS.out]
    exact ⟨_, rfl, Mine.nil _ _, h, gb_refl _ _⟩
end Go.Proofs.Ytfkchnjbbbhmjab.Ty
namespace Go.Proofs.Ytfkchnjbbbhmjab.Ty
open Go.RowKit
open Tal
theorem or_i64 (x d : Int) (h0 : 0 ≤ x) (h1 : x < 16777216) (h2 : 0 ≤ d) (h3 : d < 256) : bits .or .i64 (x * 256) d = x * 256 + d := by
  obtain ⟨a, rfl⟩ := Int.eq_ofNat_of_zero_le h0
  obtain ⟨b, rfl⟩ := Int.eq_ofNat_of_zero_le h2
  have e : ((a : Int) * 256) = ((a * 256 : Nat) : Int) := by omega
  rw [e]
  have ho : a * 256 ||| b = a * 256 + b := by
    exact nat_join 8 _ _ (by omega) (by omega)
  show IntKind.i64.wrap ((BitVec.ofInt 64 ((a * 256 : Nat) : Int) ||| BitVec.ofInt 64 (b : Int)).toNat : Int) = _
  rw [BitVec.toNat_or, Cr.Crc.ofInt64 _ (by omega), Cr.Crc.ofInt64 b (by omega), ho]
  rw [Cr.Crc.wrap_i64_small _ (by omega)]
  omega
/-- bytes as a number, the greatest first -/
def sumN (zs : List Int) : Int := zs.foldl (fun s z => s * 256 + z) 0
theorem sumN_take (zs : List Int) (k : Nat) (h : k < zs.length) : sumN (zs.take (k + 1)) = sumN (zs.take k) * 256 + zs[k] := by
  unfold sumN
  rw [List.take_succ_eq_append_getElem h, List.foldl_append]
  rfl
theorem sumN_lt (zs : List Int) (hz : ∀ z ∈ zs, 0 ≤ z ∧ z < 256) (hn : zs.length ≤ 2) : 0 ≤ sumN zs ∧ sumN zs < 65536 := by
  match zs, hn with
  | [], _ => simp [sumN]
  | [a], _ =>
    have := hz a (by simp)
    simp only [sumN, List.foldl]; omega
  | [a, b], _ =>
    have := hz a (by simp)
    have := hz b (by simp)
    simp only [sumN, List.foldl]; omega
set_option maxRecDepth 100000 in
set_option maxHeartbeats 2000000 in
theorem jsumOf_any (a : Option Addr) (cap : Nat) (zs : List Int) (w : World) (h : RowAt w a zs) (hn : zs.length ≤ 3) :
    Calls Try.prog 75 #[.slice a zs.length cap] w fun e w' => e = .returned (.int .i64 (sumN zs)) ∧ w' = w := by
  obtain ⟨hm, hz, hrow⟩ := cr_row h
  clear hm h
  go_enter Try.func75, Try.ntmps75
  go_wp2_with fail
  go_loop [3, 8] (fun s i => ∃ k : Nat, k ≤ zs.length ∧ i = .int .i64 k ∧ s = .int .i64 (sumN (zs.take k))) (fun _ i => zs.length - (intOf i).toNat)
  case atStart => exact ⟨0, by omega, rfl, rfl⟩
  case round =>
    obtain ⟨k, hk, rfl, rfl⟩ := hrel
    by_cases hlt : k < zs.length
    · obtain ⟨b, off, rfl, hbb, hc⟩ : ∃ b off, a = some ⟨b, off, none⟩ ∧ b < w.heap.size ∧ ∀ j, j < zs.length → w.cell? ⟨b, off + j, none⟩ = some (.int .u8 (zs.getD j 0)) := by
        rcases hrow with rfl | h
        · simp at hlt
        · exact h
      have hs := sumN_lt (zs.take k) (fun z hz' => hz z (List.mem_of_mem_take hz')) (by simp; omega)
      obtain ⟨z, hcx, hz0, hz1, E2⟩ : ∃ z, w.cell? ⟨b, off + k, none⟩ = some (.int .u8 z) ∧ 0 ≤ z ∧ z < 256 ∧ Hid (sumN (zs.take (k + 1)) = sumN (zs.take k) * 256 + z) := by
        refine ⟨zs[k], ?_, (hz _ (List.getElem_mem hlt)).1, (hz _ (List.getElem_mem hlt)).2, sumN_take zs k hlt⟩
        rw [hc k hlt, List.getD_eq_getElem?_getD, List.getElem?_eq_getElem hlt]; rfl
      obtain ⟨s, HS⟩ : ∃ s, Hid (sumN (zs.take k) = s) := ⟨_, rfl⟩
      rw [HS.out] at hs E2 ⊢
      obtain ⟨hs0, hs1⟩ := hs
      have eo := or_i64 s z hs0 (by omega) hz0 hz1
      clear hc hrow hz
      go_wp2
      go_round
      case rel => exact ⟨k + 1, by omega, by go_num, by rw [E2.out]⟩
      case measure => simp [intOf]; omega
    · obtain rfl : k = zs.length := by omega
      rw [List.take_length]
      go_wp2
      go_ret
      exact ⟨rfl, rfl⟩
/-- what Done tells -/
def doneE (rest : List Int) (e : Int) : Int := if e = 0 then (if rest.length = 0 then 0 else 12) else e
set_option maxRecDepth 100000 in
set_option maxHeartbeats 2000000 in
theorem done_any (R : Nat) (rest : List Int) (e : Int) (w : World) (h : St w R rest e) : Calls Try.prog 66 #[.pointer (some ⟨R, 0, none⟩)] w fun en w' => en = .returned (.int .i64 (doneE rest e)) ∧ w' = w := by
  have ce := err_made R e w h.1
  by_cases he : e = 0
  · subst he
    obtain ⟨a, cap, h0, _⟩ := h.2 rfl
    have cl := left_any R a rest.length cap w h0
    have E : doneE rest 0 = if rest.length = 0 then 0 else 12 := by simp [doneE]
    rw [E]
    clear E h
    by_cases hr : rest.length = 0
    · rw [if_pos hr]
      rw [hr] at cl
      clear hr h0
      go_enter Try.func66, Try.ntmps66
      go_wp2_with fail
      refine ce.mono ?_
      rintro e1 w1 ⟨rfl, hx⟩
      obtain rfl := hx.symm
      clear hx
      go_wp2_with fail
      refine cl.mono ?_
      rintro e2 w2 ⟨rfl, hx⟩
      obtain rfl := hx.symm
      clear hx
      go_wp2
      go_ret
      exact ⟨rfl, rfl⟩
    · rw [if_neg hr]
      have hr' : (0 : Int) < rest.length := by omega
      obtain ⟨n, hn⟩ : ∃ n : Int, (rest.length : Int) = n := ⟨_, rfl⟩
      rw [hn] at cl hr'
      clear hr hn h0
      go_enter Try.func66, Try.ntmps66
      go_wp2_with fail
      refine ce.mono ?_
      rintro e1 w1 ⟨rfl, hx⟩
      obtain rfl := hx.symm
      clear hx
      go_wp2_with fail
      refine cl.mono ?_
      rintro e2 w2 ⟨rfl, hx⟩
      obtain rfl := hx.symm
      clear hx
      go_wp2
      go_ret
      exact ⟨rfl, rfl⟩
  · have E : doneE rest e = e := by simp [doneE, he]
    rw [E]
    have n1 : (e != 0) = true := bne_iff_ne.2 he
    clear E h he
    go_enter Try.func66, Try.ntmps66
    go_wp2_with fail
    refine ce.mono ?_
    rintro e1 w1 ⟨rfl, hx⟩
    obtain rfl := hx.symm
    clear hx
    go_wp2
    go_ret
    exact ⟨rfl, rfl⟩
theorem below_grown {n : Nat} {w w1 w2 : World} {R : Nat} (h : Below n w w1) (g : w1.grownBy w2 (some R)) (hR : n ≤ R) (hn : n ≤ w1.heap.size) : Below n w w2 :=
  ⟨g.os.trans h.os, g.tape.trans h.tape, g.output.trans h.output, Nat.le_trans h.size g.size, fun k hk => (g.block k (by omega) (by simp; omega)).trans (h.block k hk)⟩
/-- the turn that a record of a frame G is -/
def turnN (zs : List Int) : Int := if doneE (numS zs 0 1099511627776).2.1 (numS zs 0 1099511627776).2.2 = 0 then (numS zs 0 1099511627776).1 else 0
set_option maxRecDepth 100000 in
set_option maxHeartbeats 2000000 in
theorem jturnOf_any (a : Option Addr) (cap : Nat) (zs : List Int) (w : World) (h : RowAt w a zs) (hm : zs.length ≤ 549755813888) :
    Calls Try.prog 55 #[.slice a zs.length cap] w fun e w' => e = .returned (.int .i64 (turnN zs)) ∧ Below w.heap.size w w' := by
  have cr := read_any a cap zs w h hm
  clear h
  go_enter Try.func55, Try.ntmps55
  go_wp2_with fail
  refine cr.mono ?_
  rintro e1 w1 ⟨R, rfl, hR, hS, hb⟩
  have cn := num_any R zs 0 1099511627776 w1 hS
  have HT : Hid (turnN zs = if doneE (numS zs 0 1099511627776).2.1 (numS zs 0 1099511627776).2.2 = 0 then (numS zs 0 1099511627776).1 else 0) := rfl
  generalize (numS zs 0 1099511627776).1 = n at *
  generalize (numS zs 0 1099511627776).2.1 = r1 at *
  generalize (numS zs 0 1099511627776).2.2 = er at *
  clear cr hS
  go_wp2_with fail
  refine cn.mono ?_
  rintro e2 w2 ⟨rfl, hS2, hg2⟩
  have cd := done_any R r1 er w2 hS2
  have hb2 : Below w.heap.size w w2 := below_grown hb hg2 hR hb.size
  generalize doneE r1 er = d at *
  clear cn hS2 hg2 hb
  by_cases hd : d = 0
  · subst hd
    rw [if_pos rfl] at HT
    go_wp2_with fail
    refine cd.mono ?_
    rintro e3 w3 ⟨rfl, hx⟩
    obtain rfl := hx.symm
    clear hx cd
    go_wp2
    go_ret
    rw [HT.out]
    exact ⟨rfl, hb2⟩
  · rw [if_neg hd] at HT
    have n1 : (d != 0) = true := bne_iff_ne.2 hd
    clear hd
    go_wp2_with fail
    refine cd.mono ?_
    rintro e3 w3 ⟨rfl, hx⟩
    obtain rfl := hx.symm
    clear hx cd
    go_wp2
    go_ret
    rw [HT.out]
    exact ⟨rfl, hb2⟩
end Go.Proofs.Ytfkchnjbbbhmjab.Ty
namespace Go.Proofs.Ytfkchnjbbbhmjab.Ty
open Go.RowKit
open Tal
end Go.Proofs.Ytfkchnjbbbhmjab.Ty
namespace Go.Proofs.Ytfkchnjbbbhmjab.Ty
open Go.RowKit
open Tal
variable {B T : Nat}
theorem doneE_of (zs : List Int) (p : Nat) (hp : p ≤ zs.length) : doneE (zs.drop p) 0 = if (p : Int) < zs.length then 12 else 0 := by
  unfold doneE
  rw [if_pos rfl, List.length_drop]
  by_cases h : (p : Int) < zs.length
  · rw [if_pos h, if_neg (by omega)]
  · rw [if_neg h, if_pos (by omega)]
end Go.Proofs.Ytfkchnjbbbhmjab.Ty
namespace Go.Proofs.Ytfkchnjbbbhmjab.Ty
open Go.RowKit
open Tal
theorem strOf_strL (s : ByteArray) : strOf (strL s) = s := by
  unfold strOf strL
  rw [foldl_push_byteCells]
  cases s; simp
namespace Tal
theorem head_digs (n : Nat) (h0 : 0 < n) (h : n < 2 ^ 63) : (digs n).head? ≠ some 0 := by
  obtain ⟨_, b, c⟩ := wid_bounds 8 n h (by omega)
  obtain ⟨c1, c2⟩ := c h0
  have hg := digK_get (wid n) n 0 c1
  have hl := digs_length n
  unfold digs at hl ⊢
  cases hd : digK (wid n) n with
  | nil => simp
  | cons x tl =>
    rw [hd] at hg
    have hg' : x = ((n / 256 ^ (wid n - 1 - 0) % 256 : Nat) : Int) := hg
    rw [Nat.sub_zero] at hg'
    have hlt : n / 256 ^ (wid n - 1) < 256 := by
      rw [Nat.div_lt_iff_lt_mul (Nat.pow_pos (by omega)), Nat.mul_comm, ← Nat.pow_succ]
      have e : (wid n - 1).succ = wid n := by omega
      rw [e]; exact b
    have hpos : 0 < n / 256 ^ (wid n - 1) := Nat.div_pos c2 (Nat.pow_pos (by omega))
    rw [Nat.mod_eq_of_lt hlt] at hg'
    intro hc
    simp only [List.head?_cons, Option.some.injEq] at hc
    omega
theorem numR_back (n : Nat) (h : n < 2 ^ 63) (more : List Int) : numR (numB n ++ more) = ((n : Int), 1 + wid n, 0) := by
  have hw := wid_le n h
  have hv := val_digs n h
  have ht : (digs n ++ more).take (wid n) = digs n := by rw [List.take_append_of_le_length (by rw [digs_length]; exact Nat.le_refl _), List.take_of_length_le (by rw [digs_length]; exact Nat.le_refl _)]
  have hh : ¬ ((digs n).head? = some 0 ∨ 9223372036854775807 < val (digs n)) := by
    rw [hv]
    by_cases h0 : n = 0
    · subst h0; rw [digs_zero]; simp
    · intro hc
      rcases hc with hc | hc
      · exact head_digs n (by omega) h hc
      · omega
  have e : valR (digs n) = ((n : Int), 0) := by unfold valR; rw [if_neg hh, hv]
  have e0 : numB n ++ more = (wid n : Int) :: (digs n ++ more) := rfl
  rw [e0]
  simp only [numR]
  rw [if_neg (by omega), if_neg (by rw [List.length_append, digs_length]; omega), Int.toNat_natCast, ht, e]
  simp
theorem numS_back (x most : Int) (h0 : 0 ≤ x) (h1 : x ≤ 9223372036854775807) (hm : x ≤ most) (more : List Int) : numS (putL x ++ more) 0 most = (x, more, 0) := by
  have e : putL x = numB x.toNat := by unfold putL; rw [if_neg (by omega)]
  have hr := numR_back x.toNat (by omega) more
  have hx : ((x.toNat : Nat) : Int) = x := by omega
  rw [hx] at hr
  have hd : (numB x.toNat ++ more).drop (1 + wid x.toNat) = more := by
    have : (numB x.toNat).length = 1 + wid x.toNat := by simp only [numB, List.length_cons, digs_length]; omega
    rw [← this, List.drop_append_of_le_length (Nat.le_refl _)]; simp
  unfold numS
  rw [e, hr, if_pos rfl, if_pos rfl, if_neg (by omega), hd]
end Tal
theorem textS_back (s : ByteArray) (most : Int) (hs : s.size ≤ 1099511627) (hm : (s.size : Int) ≤ most) (more : List Int) : textS (textL s ++ more) 0 most = (strL s, more, 0) := by
  have e : textL s ++ more = putL (s.size : Int) ++ (strL s ++ more) := by unfold textL; rw [List.append_assoc]
  have hn := numS_back (s.size : Int) 9223372036854775807 (by omega) (by omega) (by omega) (strL s ++ more)
  unfold textS
  rw [e, hn]
  simp only [Int.toNat_natCast]
  rw [if_pos trivial, if_neg (by omega), if_neg (by rw [List.length_append, strL_length]; omega)]
  have hl := strL_length s
  rw [List.take_append_of_le_length (by omega), List.take_of_length_le (by omega), List.drop_append_of_le_length (by omega), List.drop_of_length_le (by omega), List.nil_append]

theorem strOf_list (zs : List Int) : (strOf zs).toList = zs.map (fun n => UInt8.ofNat n.toNat) := by
  have key : ∀ (zs : List Int) (r : ByteArray), (zs.foldl (fun r n => r.push (UInt8.ofNat n.toNat)) r).data.toList = r.data.toList ++ zs.map (fun n => UInt8.ofNat n.toNat) := by
    intro zs
    induction zs with
    | nil => intro r; simp
    | cons z zs ih => intro r; rw [List.foldl_cons, ih]; simp [ByteArray.push]
  rw [ByteArray.toList_eq]
  unfold strOf
  rw [key]
  rfl
theorem strOf_inj : ∀ {xs ys : List Int}, (∀ z ∈ xs, 0 ≤ z ∧ z < 256) → (∀ z ∈ ys, 0 ≤ z ∧ z < 256) → (strOf xs).toList = (strOf ys).toList → xs = ys := by
  intro xs ys hx hy h
  rw [strOf_list, strOf_list] at h
  have hl : xs.length = ys.length := by simpa using congrArg List.length h
  apply List.ext_getElem hl
  intro i h1 h2
  have := congrArg (·[i]?) h
  simp only [List.getElem?_map, List.getElem?_eq_getElem h1, List.getElem?_eq_getElem h2, Option.map_some, Option.some.injEq] at this
  have a1 := hx _ (List.getElem_mem h1)
  have a2 := hy _ (List.getElem_mem h2)
  have := congrArg UInt8.toNat this
  simp only [UInt8.toNat_ofNat'] at this
  omega
theorem putL_pre {a b : Int} {r r' : List Int} (ha : 0 ≤ a) (ha' : a ≤ 9223372036854775807) (hb : 0 ≤ b) (hb' : b ≤ 9223372036854775807) (h : putL a ++ r = putL b ++ r') : a = b ∧ r = r' := by
  have h1 := numS_back a 9223372036854775807 ha ha' ha' r
  have h2 := numS_back b 9223372036854775807 hb hb' hb' r'
  rw [h, h2] at h1
  simp only [Prod.mk.injEq, and_true] at h1
  exact ⟨h1.1.symm, h1.2.symm⟩
theorem strL_strOf {zs : List Int} (h : ∀ z ∈ zs, 0 ≤ z ∧ z < 256) : strL (strOf zs) = zs :=
  strOf_inj (strL_byte _) h (by rw [strOf_strL])
/-- a string's bytes, laid anew -/
theorem str_bytes (s : ByteArray) (w : World) (hs : s.size ≤ 100000000) : ∃ cap w', (convert 9 34 (.string s)).run Try.prog w = .ok (.slice (some ⟨w.heap.size, 0, none⟩) s.size cap) w' ∧ RowAt w' (some ⟨w.heap.size, 0, none⟩) (strL s) ∧ s.size ≤ cap ∧ cap ≤ maxLen ∧ Below w.heap.size w w' ∧ w.heap.size < w'.heap.size := by
  refine ⟨_, _, run_bytes_of_string w 9 34 5 s Try.underlying9 Try.underlying34 Try.underlying5, ?_, grownCap_ge _ _ _ _, grownCap_le_maxLen _ _ _ _ (by unfold maxLen; omega), ((Below.refl _ _).drew).alloc (Nat.le_refl _) _, by simp⟩
  refine ⟨by rw [strL_length]; unfold maxLen; omega, strL_byte s, Or.inr ⟨_, 0, rfl, by simp, ?_⟩⟩
  have := range_mark w.drew (bytesRow s (grownCap w s.size 0 5)) 5 ((bytesRow s (grownCap w s.size 0 5)).size, (bytesRow s (grownCap w s.size 0 5)).size + 1)
  have e : (bytesRow s (grownCap w s.size 0 5)).toList = v8 (strL s) ++ List.replicate (grownCap w s.size 0 5 - s.size) (.int .u8 0) := by
    simp [bytesRow, v8, strL]
  rw [e] at this
  exact range_left this
theorem ex_conv {o : Oper} {a : Act} {w w' : World} {x : Operand} {s d : TypeId} {u v : Value} (ho : o.op = .convert s d x) (hx : a.eval x = u) (hc : (convert s d u).run Try.prog w = .ok v w') : (execOp a.eval o).run Try.prog w = .ok (.value v) w' := by
  unfold execOp
  simp [ho, hx, hc]
/-- bytes of a string out of bytes -/
theorem row_bytes (zs : List Int) (w : World) (hz : ∀ z ∈ zs, 0 ≤ z ∧ z < 256) (hs : zs.length ≤ 100000000) : ∃ cap w', (convert 9 34 (.string (strOf zs))).run Try.prog w = .ok (.slice (some ⟨w.heap.size, 0, none⟩) zs.length cap) w' ∧ RowAt w' (some ⟨w.heap.size, 0, none⟩) zs ∧ zs.length ≤ cap ∧ cap ≤ maxLen ∧ Below w.heap.size w w' ∧ w.heap.size < w'.heap.size := by
  obtain ⟨cap, w', h⟩ := str_bytes (strOf zs) w (by rw [strOf_size]; exact hs)
  rw [strOf_size, strL_strOf hz] at h
  exact ⟨cap, w', h⟩
end Go.Proofs.Ytfkchnjbbbhmjab.Ty
namespace Go.Proofs.Ytfkchnjbbbhmjab
open Go.ChangeShapes Go.WideShapes Go.ChangeAt Go.RowKit
theorem own : ownKnob Try.prog.godebug = none := by kernel_rfl
theorem laidOut : laidOutB Try.prog = true := by kernel_rfl
theorem wf64 {z : Int} (h : (Lit.int .i64 z).wf = true) : -9223372036854775808 ≤ z ∧ z ≤ 9223372036854775807 := by
  simp only [Lit.wf, Bool.and_eq_true, decide_eq_true_eq] at h
  exact h
theorem some_at {α : Type} {xs : List α} {n i : Nat} (hl : xs.length = n) (hi : i < n) : ∃ y, xs[i]? = some y := ⟨xs[i]'(by omega), List.getElem?_eq_getElem (by omega)⟩
theorem drop_one {α : Type} {l : List α} {o : Nat} {v : α} (h : (l.drop o).take 1 = [v]) : l[o]? = some v := by
  have := congrArg (·[0]?) h
  simpa [List.getElem?_take, List.getElem?_drop] using this
theorem cells_some {w : World} {base n : Nat} {x : Addr} {cs : List Value} (h : w.cells? base x n = some cs) : cs.length = n ∧ ∀ j v, cs[j]? = some v → w.cell? (x.add j) = some v := by
  unfold World.cells? at h
  split at h
  · have hl := Lib.mapM_length h
    refine ⟨by simpa using hl, fun j v hv => ?_⟩
    have hj : j < n := by
      have := (List.getElem?_eq_some_iff.1 hv).1
      have : cs.length = n := by simpa using hl
      omega
    obtain ⟨y, hy, hf⟩ := Lib.mapM_at h j j (by simp [hj])
    rw [hv] at hy
    exact hf.trans hy.symm
  · cases h
section
variable {H : Type} {enc : TypeId × Value → H} {W : World} {b : Nat} {sp : Nat → Bool} {held : Bool} {m : Nat}
theorem int_at {l : List Value} {o : Nat} {y : DataW H × List MemPlace} (h : DataW.trod enc Try.prog W b sp held m 3 ((l.drop o).take 1) = some y) : ∃ z, l[o]? = some (.int .i64 z) ∧ -9223372036854775808 ≤ z ∧ z ≤ 9223372036854775807 := by
  obtain ⟨z, hc, rfl, hw⟩ := DataW.trod_int Try.underlying3 h
  exact ⟨z, drop_one hc, wf64 hw⟩
end
/-- a slice whose elements' cells are f's -/
def RowOf {α : Type} (f : α → List Value) (w : World) (a : Option Addr) (ys : List α) : Prop := ys = [] ∨ ∃ b off, a = some ⟨b, off, none⟩ ∧ b < w.heap.size ∧ w.rangeAt b off (ys.flatMap f)
theorem RowOf.below {α : Type} {f : α → List Value} {w w' : World} {a : Option Addr} {ys : List α} (h : RowOf f w a ys) (hb : Below w.heap.size w w') : RowOf f w' a ys := by
  rcases h with h | ⟨b, off, rfl, h1, h2⟩
  · exact .inl h
  · exact .inr ⟨b, off, rfl, Nat.lt_of_lt_of_le h1 hb.size, range_below h2 hb h1⟩
theorem flat_len_k {α : Type} {f : α → List Value} {k : Nat} {ys : List α} (h : ∀ y ∈ ys, (f y).length = k) : (ys.flatMap f).length = ys.length * k := by
  induction ys with
  | nil => simp
  | cons y ys ih =>
    have h1 := h y (by simp)
    have h2 := ih (fun x hx => h x (by simp [hx]))
    simp only [List.flatMap_cons, List.length_append, List.length_cons, Nat.add_mul, Nat.one_mul]
    omega
theorem RowOf.elem {α : Type} {f : α → List Value} {k : Nat} {w : World} {a : Option Addr} {ys : List α} (h : RowOf f w a ys) (hk : ∀ y ∈ ys, (f y).length = k) (i : Nat) (hi : i < ys.length) : ∃ b off, a = some ⟨b, off, none⟩ ∧ b < w.heap.size ∧ w.rangeAt b (off + i * k) (f ys[i]) := by
  rcases h with h0 | ⟨b, off, rfl, h1, h2⟩
  · subst h0; simp at hi
  · refine ⟨b, off, rfl, h1, ?_⟩
    have e : ys.take i ++ (ys[i] :: ys.drop (i + 1)) = ys := by rw [← List.drop_eq_getElem_cons hi, List.take_append_drop]
    have e2 : ys.flatMap f = (ys.take i).flatMap f ++ f ys[i] ++ (ys.drop (i + 1)).flatMap f := by
      have := congrArg (List.flatMap f) e
      rw [← this]
      simp only [List.flatMap_append, List.flatMap_cons, List.append_assoc]
    rw [e2] at h2
    have h3 := range_part h2
    rwa [flat_len_k (fun y hy => hk y (List.mem_of_mem_take hy)), List.length_take, Nat.min_eq_left (by omega)] at h3
theorem flat_get {α : Type} {f : α → List Value} {k : Nat} (hk : 0 < k) (R : Nat → α) : ∀ (n : Nat), (∀ i, i < n → (f (R i)).length = k) → ∀ j, j < n * k → (((List.range n).map R).flatMap f)[j]? = (f (R (j / k)))[j % k]? := by
  intro n
  induction n with
  | zero => intro _ j hj; omega
  | succ n ih =>
    intro hR j hj
    have hl : (((List.range n).map R).flatMap f).length = n * k := by
      have := flat_len_k (f := f) (k := k) (ys := (List.range n).map R) (fun y hy => by
        obtain ⟨i, hi, rfl⟩ := List.mem_map.1 hy
        exact hR i (by have := List.mem_range.1 hi; omega))
      simpa using this
    rw [List.range_succ, List.map_append, List.flatMap_append]
    by_cases h : j < n * k
    · rw [List.getElem?_append_left (by omega), ih (fun i hi => hR i (by omega)) j h]
    · rw [List.getElem?_append_right (by omega), hl]
      have e0 : j = (j - n * k) + k * n := by rw [Nat.mul_comm k n]; omega
      have hlt : j - n * k < k := by rw [Nat.add_mul, Nat.one_mul] at hj; omega
      have e1 : j / k = n := by rw [e0, Nat.add_mul_div_left _ _ hk, Nat.div_eq_of_lt hlt]; omega
      have e2 : j % k = j - n * k := by
        have := congrArg (· % k) e0
        simp only [Nat.add_mul_mod_self_left] at this
        rw [this, Nat.mod_eq_of_lt hlt]
      rw [e1, e2]
      simp
set_option maxRecDepth 100000 in
theorem rows_of {α : Type} [Inhabited α] (f : α → List Value) (ok : α → Prop) (k : Nat) (hk : 0 < k) (tl te : TypeId) (hu : Try.prog.underlying tl = some (.slice te)) (hct : Try.prog.cellsOf te = k) (hf : ∀ y, ok y → (f y).length = k)
    {H : Type} {enc : TypeId × Value → H} {W : World} {b : Nat} {sp : Nat → Bool} {held : Bool} {fuel : Nat} {l : List Value} {x : DataW H × List MemPlace}
    (hel : ∀ (m : Nat) (l : List Value) (z : DataW H × List MemPlace), DataW.trod enc Try.prog W b sp held m te l = some z → ∃ y, l = f y ∧ ok y)
    (h : DataW.trod enc Try.prog W b sp held fuel tl l = some x) : ∃ (a : Option Addr) (cap : Nat) (ys : List α), l = [.slice a ys.length cap] ∧ ys.length ≤ cap ∧ cap ≤ maxLen ∧ (∀ y ∈ ys, ok y) ∧ RowOf f W a ys := by
  rcases Deep.open_slice hu h with ⟨rfl, _⟩ | ⟨a, len, cap, m, n, D, Pl, rfl, hb, hlc, hcm, hm, _, hel2⟩
  · exact ⟨none, 0, [], rfl, by simp, by simp, by simp, .inl rfl⟩
  · rw [hct] at hel2
    have hml : len ≤ m := by rw [hm]; split <;> omega
    have key : ∀ i, i < len → ∃ y : α, W.cells? b (a.add (i * k)) k = some (f y) ∧ ok y := fun i hi => by
      obtain ⟨cs, h1, h2⟩ := hel2 i (by omega)
      obtain ⟨y, rfl, hy⟩ := hel _ _ _ h2
      exact ⟨y, h1, hy⟩
    obtain ⟨R, hR⟩ := Deep.choose_lt key
    refine ⟨some a, cap, (List.range len).map R, by simp, by simpa using hlc, hcm, ?_, ?_⟩
    · intro y hy
      obtain ⟨i, hi, rfl⟩ := List.mem_map.1 hy
      exact (hR i (List.mem_range.1 hi)).2
    · by_cases h0 : len = 0
      · left; simp [h0]
      · right
        obtain ⟨bb, off, spot⟩ := a
        have hlen0 := hf _ (hR 0 (by omega)).2
        have hc := (cells_some (hR 0 (by omega)).1).2 0 ((f (R 0))[0]'(by omega)) (List.getElem?_eq_getElem _)
        have hspot : spot = none := by simpa [Addr.add] using World.cell?_spot hc
        subst hspot
        refine ⟨bb, off, rfl, ?_, fun j v hv => ?_⟩
        · have := World.block_lt_of_cell? W _ hc; simpa [Addr.add] using this
        · have hj : j < len * k := by
            have := (List.getElem?_eq_some_iff.1 hv).1
            rw [flat_len_k (k := k)] at this
            · simpa using this
            · intro y hy
              obtain ⟨i, hi, rfl⟩ := List.mem_map.1 hy
              exact hf _ (hR i (List.mem_range.1 hi)).2
          rw [flat_get hk R len (fun i hi => hf _ (hR i hi).2) j hj] at hv
          have hdm : j / k < len := (Nat.div_lt_iff_lt_mul hk).2 hj
          have := (cells_some (hR (j / k) hdm).1).2 _ _ hv
          rw [Addr.add_mid, Addr.add_mid] at this
          rw [← this]
          congr 2
          have := Nat.div_add_mod j k
          rw [Nat.mul_comm] at this
          omega
def I64 (z : Int) : Prop := -9223372036854775808 ≤ z ∧ z ≤ 9223372036854775807
set_option maxRecDepth 100000 in
theorem bytes_of {H : Type} {enc : TypeId × Value → H} {W : World} {b : Nat} {sp : Nat → Bool} {held : Bool} {fuel : Nat} {l : List Value} {x : DataW H × List MemPlace}
    (h : DataW.trod enc Try.prog W b sp held fuel 34 l = some x) : ∃ (a : Option Addr) (cap : Nat) (zs : List Int), l = [.slice a zs.length cap] ∧ zs.length ≤ cap ∧ cap ≤ maxLen ∧ RowAt W a zs := by
  obtain ⟨a, cap, zs, h1, h2, h3, h4, h5⟩ := rows_of (fun z : Int => [Value.int .u8 z]) (fun z => 0 ≤ z ∧ z < 256) 1 (by omega) 34 5 Try.underlying34 (by kernel_rfl) (fun _ _ => rfl) (fun m l z hz => by
    obtain ⟨c, hc, rfl, hw⟩ := DataW.trod_int Try.underlying5 hz
    refine ⟨c, by simpa using hc, ?_⟩
    simp [Lit.wf, IntKind.min, IntKind.max, IntKind.signed, IntKind.bits] at hw
    omega) h
  refine ⟨a, cap, zs, h1, h2, h3, by omega, h4, ?_⟩
  rcases h5 with h5 | ⟨b, off, rfl, h6, h7⟩
  · exact .inl h5
  · refine .inr ⟨b, off, rfl, h6, ?_⟩
    have e : ∀ ys : List Int, ys.flatMap (fun z : Int => [Value.int .u8 z]) = v8 ys := fun ys => by
      induction ys with
      | nil => rfl
      | cons z ys ih => rw [List.flatMap_cons, ih]; rfl
    rwa [e] at h7
/-- acts -/
structure Ac where
  kind : Int
  area : Int
  da : Option Addr
  dc : Nat
  zs : List Int
  n : Int
  keep : Int
deriving Inhabited
def Ac.cells (A : Ac) : List Value := [.int .i64 A.kind, .int .i64 A.area, .slice A.da A.zs.length A.dc, .int .i64 A.n, .int .i64 A.keep]
structure Ac.ok (W : World) (A : Ac) : Prop where
  r : RowAt W A.da A.zs
  rl : A.zs.length ≤ A.dc
  rm : A.dc ≤ maxLen
  n : I64 A.n
  keep : I64 A.keep
  area : I64 A.area
  kind : I64 A.kind
theorem Ac.one (A : Ac) : ∀ v ∈ A.cells, v.oneCell' = true := by
  intro v hv
  simp only [Ac.cells, List.mem_cons, List.not_mem_nil, or_false] at hv
  rcases hv with rfl | rfl | rfl | rfl | rfl
  all_goals rfl
end Go.Proofs.Ytfkchnjbbbhmjab
namespace Go.Proofs.Ytfkchnjbbbhmjab
open Go.RowKit
def addTo (n m : Int) : Int := if n + m ≤ 20000 then n + m else 20001
set_option maxRecDepth 100000 in
set_option maxHeartbeats 400000 in
theorem addCap_any (n m : Int) (w : World) (h0 : 0 ≤ n) (h1 : n ≤ 20001) (h2 : 0 ≤ m) (h3 : m ≤ 9223372036854775807) :
    Calls Try.prog 23 #[.int .i64 n, .int .i64 m, .int .i64 20000] w fun e w' => e = .returned (.int .i64 (addTo n m)) ∧ w' = w := by
  by_cases c1 : 20000 < n
  · have HA : Hid (addTo n m = 20001) := by show _ = _; unfold addTo; rw [if_neg (by omega)]
    rw [HA.out]
    go_enter Try.func23, Try.ntmps23
    go_wp2
    go_ret
    exact ⟨rfl, rfl⟩
  · by_cases c2 : 20000 < m
    · have HA : Hid (addTo n m = 20001) := by show _ = _; unfold addTo; rw [if_neg (by omega)]
      rw [HA.out]
      go_enter Try.func23, Try.ntmps23
      go_wp2
      go_ret
      exact ⟨rfl, rfl⟩
    · by_cases c3 : 20000 - m < n
      · have HA : Hid (addTo n m = 20001) := by show _ = _; unfold addTo; rw [if_neg (by omega)]
        rw [HA.out]
        go_enter Try.func23, Try.ntmps23
        go_wp2
        go_ret
        exact ⟨rfl, rfl⟩
      · have HA : Hid (addTo n m = n + m) := by show _ = _; unfold addTo; rw [if_pos (by omega)]
        rw [HA.out]
        go_enter Try.func23, Try.ntmps23
        go_wp2
        go_ret
        exact ⟨rfl, rfl⟩
def wtA (ys : List Ac) : Nat := (ys.map fun y => 20 + y.zs.length).sum
theorem wtA_take (ys : List Ac) (k : Nat) (hk : k < ys.length) : wtA (ys.take (k + 1)) = wtA (ys.take k) + (20 + ys[k].zs.length) := by
  unfold wtA
  rw [List.take_succ_eq_append_getElem hk]
  simp only [List.map_append, List.map_cons, List.map_nil, List.sum_append, List.sum_cons, List.sum_nil]
  omega
theorem Ac.ok.below {W W' : World} {A : Ac} (h : A.ok W) (hb : Below W.heap.size W W') : A.ok W' := ⟨h.r.below hb, h.rl, h.rm, h.n, h.keep, h.area, h.kind⟩
theorem wtA_len (ys : List Ac) : ys.length * 20 ≤ wtA ys := by
  induction ys with
  | nil => simp [wtA]
  | cons y ys ih => simp only [wtA, List.map_cons, List.sum_cons, List.length_cons] at *; omega
theorem wtA_mem {ys : List Ac} {y : Ac} (h : y ∈ ys) : 20 + y.zs.length ≤ wtA ys := by
  induction ys with
  | nil => cases h
  | cons x ys ih =>
    simp only [wtA, List.map_cons, List.sum_cons] at *
    rcases List.mem_cons.1 h with rfl | h
    · omega
    · have := ih h; omega
end Go.Proofs.Ytfkchnjbbbhmjab
namespace Go.Proofs.Ytfkchnjbbbhmjab
open Go.RowKit
def Unmade (w : World) (pv : Value) : Prop := pv = .pointer none ∨ ∃ b, pv = .pointer (some ⟨b, 0, none⟩) ∧ b < w.heap.size ∧ w.cell? ⟨b, 0, none⟩ = some (.bool false)
theorem Unmade.below {w w' : World} {pv : Value} (h : Unmade w pv) (hb : Below w.heap.size w w') : Unmade w' pv := by
  rcases h with h | ⟨b, h1, h2, h3⟩
  · exact .inl h
  · exact .inr ⟨b, h1, Nat.lt_of_lt_of_le h2 hb.size, cell_at h3 (hb.block b h2)⟩
set_option maxRecDepth 100000 in
set_option maxHeartbeats 2000000 in
theorem made_no (pv : Value) (w : World) (h : Unmade w pv) :
    Calls Try.prog 25 #[pv] w fun e w' => e = .returned (.bool false) ∧ w' = w := by
  rcases h with rfl | ⟨b, rfl, hb, h1⟩
  all_goals
    go_enter Try.func25, Try.ntmps25
    go_wp2_with fail
    go_ret
    exact ⟨rfl, rfl⟩
set_option maxRecDepth 100000 in
set_option maxHeartbeats 2000000 in
theorem reach_no (n : Int) (pv : Value) (w : World) (h : Unmade w pv) :
    Calls Try.prog 39 #[pv, .int .i64 n] w fun e w' => e = .returned (.int .i64 1) ∧ w' = w := by
  have cm := made_no pv w h
  rcases h with rfl | ⟨b, rfl, hb, h1⟩
  all_goals
    go_enter Try.func39, Try.ntmps39
    go_wp2_with fail
    refine cm.mono ?_
    rintro e w' ⟨rfl, hw⟩
    obtain rfl := hw.symm
    clear cm hw
    go_wp2_with fail
    go_ret
    exact ⟨rfl, rfl⟩
set_option maxRecDepth 100000 in
set_option maxHeartbeats 2000000 in
theorem op_no (n : Int) (f : Value) (pv : Value) (w : World) (h : Unmade w pv) :
    Calls Try.prog 41 #[pv, .int .i64 n, f] w fun e w' => e = .returned (.int .i64 1) ∧ w' = w := by
  have cm := reach_no n pv w h
  rcases h with rfl | ⟨b, rfl, hb, h1⟩
  all_goals
    go_enter Try.func41, Try.ntmps41
    go_wp2_with fail
    refine cm.mono ?_
    rintro e w' ⟨rfl, hw⟩
    obtain rfl := hw.symm
    clear cm hw
    go_wp2_with fail
    go_ret
    exact ⟨rfl, rfl⟩
set_option maxRecDepth 100000 in
set_option maxHeartbeats 2000000 in
theorem sync_no (n : Int) (pv : Value) (w : World) (h : Unmade w pv) :
    Calls Try.prog 29 #[pv, .int .i64 n] w fun e w' => e = .returned (.int .i64 1) ∧ w' = w := by
  have cm := op_no n (.func (.func 46) #[] #[]) pv w h
  rcases h with rfl | ⟨b, rfl, hb, h1⟩
  all_goals
    go_enter Try.func29, Try.ntmps29
    go_wp2_with fail
    refine cm.mono ?_
    rintro e w' ⟨rfl, hw⟩
    obtain rfl := hw.symm
    clear cm hw
    go_wp2_with fail
    go_ret
    exact ⟨rfl, rfl⟩
set_option maxRecDepth 100000 in
set_option maxHeartbeats 2000000 in
theorem clear_no (n : Int) (pv : Value) (w : World) (h : Unmade w pv) :
    Calls Try.prog 32 #[pv, .int .i64 n] w fun e w' => e = .returned (.int .i64 1) ∧ w' = w := by
  have cm := op_no n (.func (.func 50) #[] #[]) pv w h
  rcases h with rfl | ⟨b, rfl, hb, h1⟩
  all_goals
    go_enter Try.func32, Try.ntmps32
    go_wp2_with fail
    refine cm.mono ?_
    rintro e w' ⟨rfl, hw⟩
    obtain rfl := hw.symm
    clear cm hw
    go_wp2_with fail
    go_ret
    exact ⟨rfl, rfl⟩
set_option maxRecDepth 100000 in
set_option maxHeartbeats 2000000 in
theorem read_no (n : Int) (pv : Value) (w : World) (h : Unmade w pv) :
    Calls Try.prog 36 #[pv, .int .i64 n] w fun e w' => e = .returned (.tuple #[.slice none 0 0, .int .i64 1]) ∧ w' = w := by
  have cm := reach_no n pv w h
  rcases h with rfl | ⟨b, rfl, hb, h1⟩
  all_goals
    go_enter Try.func36, Try.ntmps36
    go_wp2_with fail
    refine cm.mono ?_
    rintro e w' ⟨rfl, hw⟩
    obtain rfl := hw.symm
    clear cm hw
    go_wp2_with fail
    go_ret2
    exact ⟨rfl, rfl⟩
set_option maxRecDepth 100000 in
set_option maxHeartbeats 2000000 in
theorem counts_no (pv : Value) (w : World) (h : Unmade w pv) :
    Calls Try.prog 37 #[pv] w fun e w' => e = .returned (.tuple #[.int .i64 0, .int .i64 0]) ∧ w' = w := by
  have cm := made_no pv w h
  rcases h with rfl | ⟨b, rfl, hb, h1⟩
  all_goals
    go_enter Try.func37, Try.ntmps37
    go_wp2_with fail
    refine cm.mono ?_
    rintro e w' ⟨rfl, hw⟩
    obtain rfl := hw.symm
    clear cm hw
    go_wp2_with fail
    go_ret2
    exact ⟨rfl, rfl⟩
set_option maxRecDepth 100000 in
set_option maxHeartbeats 2000000 in
theorem arm_no (n k : Int) (pv : Value) (w : World) (h : Unmade w pv) :
    Calls Try.prog 11 #[pv, .int .i64 n, .int .i64 k] w fun e w' => e = .returned (.int .i64 1) ∧ w' = w := by
  have cm := made_no pv w h
  rcases h with rfl | ⟨b, rfl, hb, h1⟩
  all_goals
    go_enter Try.func11, Try.ntmps11
    go_wp2_with fail
    refine cm.mono ?_
    rintro e w' ⟨rfl, hw⟩
    obtain rfl := hw.symm
    clear cm hw
    go_wp2_with fail
    go_ret
    exact ⟨rfl, rfl⟩
set_option maxRecDepth 100000 in
set_option maxHeartbeats 2000000 in
theorem fail_no (k : Int) (pv : Value) (w : World) (h : Unmade w pv) :
    Calls Try.prog 14 #[pv, .int .i64 k] w fun e w' => e = .returned (.int .i64 1) ∧ w' = w := by
  have cm := made_no pv w h
  rcases h with rfl | ⟨b, rfl, hb, h1⟩
  all_goals
    go_enter Try.func14, Try.ntmps14
    go_wp2_with fail
    refine cm.mono ?_
    rintro e w' ⟨rfl, hw⟩
    obtain rfl := hw.symm
    clear cm hw
    go_wp2_with fail
    go_ret
    exact ⟨rfl, rfl⟩
set_option maxRecDepth 100000 in
set_option maxHeartbeats 2000000 in
theorem power_no (pv : Value) (w : World) (h : Unmade w pv) :
    Calls Try.prog 15 #[pv] w fun e w' => e = .returned (.int .i64 1) ∧ w' = w := by
  have cm := made_no pv w h
  rcases h with rfl | ⟨b, rfl, hb, h1⟩
  all_goals
    go_enter Try.func15, Try.ntmps15
    go_wp2_with fail
    refine cm.mono ?_
    rintro e w' ⟨rfl, hw⟩
    obtain rfl := hw.symm
    clear cm hw
    go_wp2_with fail
    go_ret
    exact ⟨rfl, rfl⟩
set_option maxRecDepth 100000 in
set_option maxHeartbeats 2000000 in
theorem on_no (pv : Value) (w : World) (h : Unmade w pv) :
    Calls Try.prog 34 #[pv] w fun e w' => e = .returned (.bool false) ∧ w' = w := by
  have cm := made_no pv w h
  rcases h with rfl | ⟨b, rfl, hb, h1⟩
  all_goals
    go_enter Try.func34, Try.ntmps34
    go_wp2_with fail
    refine cm.mono ?_
    rintro e w' ⟨rfl, hw⟩
    obtain rfl := hw.symm
    clear cm hw
    go_wp2_with fail
    go_ret
    exact ⟨rfl, rfl⟩
set_option maxRecDepth 100000 in
set_option maxHeartbeats 2000000 in
theorem used_no (pv : Value) (w : World) (h : Unmade w pv) :
    Calls Try.prog 40 #[pv] w fun e w' => e = .returned (.int .i64 0) ∧ w' = w := by
  have cm := made_no pv w h
  rcases h with rfl | ⟨b, rfl, hb, h1⟩
  all_goals
    go_enter Try.func40, Try.ntmps40
    go_wp2_with fail
    refine cm.mono ?_
    rintro e w' ⟨rfl, hw⟩
    obtain rfl := hw.symm
    clear cm hw
    go_wp2_with fail
    go_ret
    exact ⟨rfl, rfl⟩
set_option maxRecDepth 100000 in
set_option maxHeartbeats 2000000 in
theorem sure_no (n : Int) (pv : Value) (w : World) (h : Unmade w pv) :
    Calls Try.prog 35 #[pv, .int .i64 n] w fun e w' => e = .returned (.int .i64 0) ∧ w' = w := by
  have cm := made_no pv w h
  rcases h with rfl | ⟨b, rfl, hb, h1⟩
  all_goals
    go_enter Try.func35, Try.ntmps35
    go_wp2_with fail
    refine cm.mono ?_
    rintro e w' ⟨rfl, hw⟩
    obtain rfl := hw.symm
    clear cm hw
    go_wp2_with fail
    go_ret
    exact ⟨rfl, rfl⟩
set_option maxRecDepth 100000 in
set_option maxHeartbeats 2000000 in
theorem append_no (n : Int) (a : Option Addr) (len cap : Nat) (pv : Value) (w : World) (h : Unmade w pv) :
    Calls Try.prog 27 #[pv, .int .i64 n, .slice a len cap] w fun e w' => e = .returned (.int .i64 1) ∧ Below w.heap.size w w' := by
  have hB1 : Below w.heap.size w (w.alloc (.cells #[.slice a len cap] 34)) := (Below.refl _ _).alloc (Nat.le_refl _) _
  have cm := reach_no n pv _ (h.below hB1)
  rcases h with rfl | ⟨b, rfl, hb, h1⟩
  all_goals
    go_enter Try.func27, Try.ntmps27
    go_wp2_with fail
    refine cm.mono ?_
    rintro e w' ⟨rfl, hw⟩
    obtain rfl := hw.symm
    clear cm hw
    go_wp2_with fail
    go_ret
    exact ⟨rfl, hB1⟩
structure ActBox (w : World) (X : Nat) (A : Ac) : Prop where
  lt : X < w.heap.size
  all : w.rangeAt X 0 A.cells
theorem ActBox.below {w w' : World} {X : Nat} {A : Ac} (h : ActBox w X A) (hb : Below w.heap.size w w') : ActBox w' X A := ⟨Nat.lt_of_lt_of_le h.lt hb.size, range_below h.all hb h.lt⟩
theorem act_cells {w : World} {X o : Nat} {A : Ac} (h : w.rangeAt X o A.cells) : w.cell? ⟨X, o, none⟩ = some (.int .i64 A.kind) ∧ w.cell? ⟨X, o + 1, none⟩ = some (.int .i64 A.area) ∧ w.cell? ⟨X, o + 2, none⟩ = some (.slice A.da A.zs.length A.dc) ∧ w.cell? ⟨X, o + 3, none⟩ = some (.int .i64 A.n) ∧ w.cell? ⟨X, o + 4, none⟩ = some (.int .i64 A.keep) :=
  ⟨h 0 _ rfl, h 1 _ rfl, h 2 _ rfl, h 3 _ rfl, h 4 _ rfl⟩
theorem cell_lt {w : World} {b o : Nat} {v : Value} (h : w.cell? ⟨b, o, none⟩ = some v) : b < w.heap.size := World.block_lt_of_cell? w _ h
end Go.Proofs.Ytfkchnjbbbhmjab
namespace Go.Proofs.Ytfkchnjbbbhmjab
open Go.RowKit
theorem append_two {M : Mt} {k : Int} {zs : List Int} (hon : M.on = true) (hpl : M.pl = false) (hk : k = 0 ∨ k = 1) :
    (M.append k zs = (151, M) ∧ M.room < (M.a.length : Int) + M.b.length + zs.length) ∨ (M.append k zs).1 = 0 ∧ (M.append k zs).2.on = true ∧ (M.append k zs).2.pl = false ∧ (M.append k zs).2.room = M.room := by
  have hf : M.fault k = 0 := by unfold Mt.fault; rw [if_pos hk, if_pos hon]
  unfold Mt.append
  rw [if_pos hf]
  by_cases hr : M.room - ((M.a.length : Int) + M.b.length) < zs.length
  · rw [if_pos hr]
    exact .inl ⟨rfl, by omega⟩
  · rw [if_neg hr]
    unfold Mt.does
    rw [if_pos hf, if_neg (by rw [hpl]; simp)]
    cases decide (k = 1)
    · exact .inr ⟨rfl, hon, hpl, rfl⟩
    · exact .inr ⟨rfl, hon, hpl, rfl⟩
theorem fault_on {M : Mt} {k : Int} (hon : M.on = true) (hk : k = 0 ∨ k = 1) : M.fault k = 0 := by unfold Mt.fault; rw [if_pos hk, if_pos hon]
theorem fault_off {M : Mt} {k : Int} (hon : M.on = false) (hk : k = 0 ∨ k = 1) : M.fault k = 150 := by unfold Mt.fault; rw [if_pos hk, hon]; rfl
theorem append_off {M : Mt} {k : Int} {zs : List Int} (hon : M.on = false) (hk : k = 0 ∨ k = 1) : M.append k zs = (150, M) := by
  have := fault_off hon hk
  unfold Mt.append
  rw [if_neg (by omega), this]
theorem does_off {M : Mt} {k : Int} {f : Bool → Mt → Mt} (hon : M.on = false) (hk : k = 0 ∨ k = 1) : M.does k f = (150, M) := by
  have := fault_off hon hk
  unfold Mt.does
  rw [if_neg (by omega), this]
theorem lose_all {M : Mt} (h : M.ok) : (M.lose 1073741824).a.length = M.a.length ∧ (M.lose 1073741824).b.length = M.b.length := by
  have h1 := h.rm
  have h2 := h.rl
  have h3 := h.sa
  have h4 := h.sb
  constructor
  · simp only [Mt.lose, List.length_take, keptN]; omega
  · simp only [Mt.lose, List.length_take, keptN]; omega
theorem RowAt.old {w : World} {a : Option Addr} {zs : List Int} (h : RowAt w a zs) : zs = [] ∨ ∀ x, a = some x → x.block < w.heap.size := by
  rcases h.2.2 with q | ⟨b, off, rfl, h1, -⟩
  · exact .inl q
  · exact .inr (fun x hx => by cases hx; exact h1)
theorem two_of (z : Int) : wrap64 ((IntKind.u64.wrap z).tmod 2) = 0 ∨ wrap64 ((IntKind.u64.wrap z).tmod 2) = 1 := by
  rw [IntKind.wrap_u64]
  have h0 : 0 ≤ z % 18446744073709551616 := Int.emod_nonneg _ (by omega)
  rw [Int.tmod_eq_emod_of_nonneg h0]
  unfold wrap64
  omega
theorem room_of (z : Int) : 0 ≤ wrap64 ((IntKind.u64.wrap z).tmod 200) ∧ wrap64 ((IntKind.u64.wrap z).tmod 200) < 200 := by
  rw [IntKind.wrap_u64]
  have h0 : 0 ≤ z % 18446744073709551616 := Int.emod_nonneg _ (by omega)
  rw [Int.tmod_eq_emod_of_nonneg h0]
  unfold wrap64
  omega
end Go.Proofs.Ytfkchnjbbbhmjab
