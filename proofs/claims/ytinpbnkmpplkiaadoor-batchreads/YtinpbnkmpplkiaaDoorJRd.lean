/- A reader: its block, Err, left, take, fail, value. The place a reader is at: number. A reader reads a number: Num. slices.Clone over bytes, and Read. A reader reads a text: next, Text. What was read, put again; Left. -/
import Derived.Test.YtinpbnkmpplkiaaDoorRq8
namespace Go.Proofs.YtinpbnkmpplkiaaDoor
open Go.RowKit
open Sha Tal
/-- a reader's block: its place holds some slice, it was made, its error is e -/
def RdE (w : World) (R : Nat) (e : Int) : Prop :=
  R < w.heap.size ∧ (∃ a n c, w.cell? ⟨R, 0, none⟩ = some (.slice a n c)) ∧ w.cell? ⟨R, 1, none⟩ = some (.bool true) ∧ w.cell? ⟨R, 2, none⟩ = some (.int .i64 e) ∧
  w.frozen? ⟨R, 0, none⟩ = false ∧ w.frozen? ⟨R, 1, none⟩ = false ∧ w.frozen? ⟨R, 2, none⟩ = false
/-- what is ahead of it -/
def Rest (w : World) (R : Nat) (rest : List Int) : Prop :=
  ∃ a cap, w.cell? ⟨R, 0, none⟩ = some (.slice a rest.length cap) ∧ rest.length ≤ cap ∧ cap ≤ maxLen ∧ RowAt w a rest ∧ ∀ x, a = some x → x.block < R
def St (w : World) (R : Nat) (rest : List Int) (e : Int) : Prop := RdE w R e ∧ (e = 0 → Rest w R rest)

theorem RdE.set0 {w : World} {R : Nat} {e : Int} (h : RdE w R e) (a : Option Addr) (n c : Nat) : RdE (w.setCell ⟨R, 0, none⟩ (.slice a n c)) R e := by
  obtain ⟨hR, ⟨a', n', c', h0⟩, h1, h2, f0, f1, f2⟩ := h
  refine ⟨by simpa [World.setCell] using hR, ⟨a, n, c, World.cell?_setCell_same _ _ _ h0⟩, (World.cell?_setCell_other _ _ _ _ (by simp)).trans h1, (World.cell?_setCell_other _ _ _ _ (by simp)).trans h2,
    (World.frozen?_setCell _ _ _ _).trans f0, (World.frozen?_setCell _ _ _ _).trans f1, (World.frozen?_setCell _ _ _ _).trans f2⟩
theorem RdE.set2 {w : World} {R : Nat} {e : Int} (h : RdE w R e) (e' : Int) : RdE (w.setCell ⟨R, 2, none⟩ (.int .i64 e')) R e' := by
  obtain ⟨hR, ⟨a', n', c', h0⟩, h1, h2, f0, f1, f2⟩ := h
  refine ⟨by simpa [World.setCell] using hR, ⟨a', n', c', (World.cell?_setCell_other _ _ _ _ (by simp)).trans h0⟩, (World.cell?_setCell_other _ _ _ _ (by simp)).trans h1, World.cell?_setCell_same _ _ _ h2,
    (World.frozen?_setCell _ _ _ _).trans f0, (World.frozen?_setCell _ _ _ _).trans f1, (World.frozen?_setCell _ _ _ _).trans f2⟩
theorem RowAt.get {w : World} {a : Option Addr} {zs : List Int} (h : RowAt w a zs) (k : Nat) (hk : k < zs.length) : ∃ b off, a = some ⟨b, off, none⟩ ∧ b < w.heap.size ∧ w.cell? ⟨b, off + k, none⟩ = some (.int .u8 (zs.getD k 0)) ∧ 0 ≤ zs.getD k 0 ∧ zs.getD k 0 < 256 := by
  rcases h.2.2 with rfl | ⟨b, off, rfl, hb, hr⟩
  · simp at hk
  · refine ⟨b, off, rfl, hb, get8 hr hk, ?_⟩
    rw [List.getD_eq_getElem?_getD, List.getElem?_eq_getElem hk]
    exact h.2.1 _ (List.getElem_mem hk)
theorem cutA_lt {a : Option Addr} {R cap n : Nat} (h : ∀ x, a = some x → x.block < R) : ∀ x, cutA a cap n = some x → x.block < R := by
  intro x hx
  unfold cutA at hx
  split at hx
  · exact h x hx
  · cases a with
    | none => simp at hx
    | some y =>
      simp only [Option.map_some, Option.some.injEq] at hx
      subst hx
      have := h y rfl
      unfold Addr.add
      split <;> exact this
theorem lt_ne {a : Option Addr} {R : Nat} (h : ∀ x, a = some x → x.block < R) : ∀ x, a = some x → x.block ≠ R := fun x hx => Nat.ne_of_lt (h x hx)
theorem err_made (R : Nat) (e : Int) (w : World) (h : RdE w R e) :
    Calls Tryd.prog 29 #[.pointer (some ⟨R, 0, none⟩)] w fun en w' => en = .returned (.int .i64 e) ∧ w' = w := by
  obtain ⟨hR, ⟨a, n, c, h0⟩, h1, h2, f0, f1, f2⟩ := h
  go_enter Tryd.func29, Tryd.ntmps29
  go_wp2
  go_ret
  exact ⟨rfl, rfl⟩
theorem left_any (R : Nat) (a : Option Addr) (n c : Nat) (w : World) (h0 : w.cell? ⟨R, 0, none⟩ = some (.slice a n c)) :
    Calls Tryd.prog 54 #[.pointer (some ⟨R, 0, none⟩)] w fun en w' => en = .returned (.int .i64 (n : Int)) ∧ w' = w := by
  go_enter Tryd.func54, Tryd.ntmps54
  go_wp2
  go_ret
  exact ⟨rfl, rfl⟩
set_option maxHeartbeats 400000 in
theorem take_any (R : Nat) (a : Option Addr) (n len c : Nat) (w : World) (h0 : w.cell? ⟨R, 0, none⟩ = some (.slice a len c)) (f0 : w.frozen? ⟨R, 0, none⟩ = false) (hn : n ≤ len) (hc : len ≤ c) (hm : c ≤ maxLen) :
    Calls Tryd.prog 90 #[.pointer (some ⟨R, 0, none⟩), .int .i64 (n : Int)] w fun en w' => en = .returned (.slice a n c) ∧ w' = w.setCell ⟨R, 0, none⟩ (.slice (cutA a c n) (len - n) (c - n)) := by
  unfold maxLen at hm
  by_cases h : c = n
  · subst h
    obtain rfl : len = c := by omega
    go_enter Tryd.func90, Tryd.ntmps90
    go_wp2
    go_ret
    exact ⟨rfl, by simp [cutA]⟩
  · go_enter Tryd.func90, Tryd.ntmps90
    go_wp2
    go_ret
    exact ⟨rfl, by simp [cutA, h]⟩
set_option maxHeartbeats 400000 in
theorem fail_any (R : Nat) (e0 e : Int) (w : World) (h : RdE w R e0) :
    Calls Tryd.prog 73 #[.pointer (some ⟨R, 0, none⟩), .int .i64 e] w fun en w' => en = .returned (.tuple #[]) ∧ RdE w' R e ∧ w.grownBy w' (some R) := by
  have hE := (h.set2 e).set0 none 0 0
  have hg := gb_trans (gb_set w R 2 (.int .i64 e)) (gb_set (w.setCell ⟨R, 2, none⟩ (.int .i64 e)) R 0 (.slice none 0 0))
  obtain ⟨hR, ⟨a, n, c, h0⟩, h1, h2, f0, f1, f2⟩ := h
  go_enter Tryd.func73, Tryd.ntmps73
  go_wp2
  go_end0
  exact ⟨rfl, hE, hg⟩

theorem val_bound (l : List Int) (h : ∀ z ∈ l, 0 ≤ z ∧ z < 256) : 0 ≤ val l ∧ val l < 256 ^ l.length := by
  have : ∀ k, k ≤ l.length → 0 ≤ val (l.take k) ∧ val (l.take k) < 256 ^ k := by
    intro k
    induction k with
    | zero => intro _; simp [val]
    | succ k ih =>
      intro hk
      have hlt : k < l.length := by omega
      obtain ⟨i1, i2⟩ := ih (by omega)
      have hz := h l[k] (List.getElem_mem hlt)
      rw [List.take_succ_eq_append_getElem hlt, val_snoc, Int.pow_succ]
      omega
  have := this l.length (Nat.le_refl _)
  rwa [List.take_length] at this
theorem val_take (l : List Int) (k : Nat) (h : k < l.length) : val (l.take (k + 1)) = val (l.take k) * 256 + l.getD k 0 := by
  rw [List.take_succ_eq_append_getElem h, val_snoc, List.getD_eq_getElem?_getD, List.getElem?_eq_getElem h]; rfl
theorem or_join (x d : Int) (h0 : 0 ≤ x) (h1 : x < 72057594037927936) (h2 : 0 ≤ d) (h3 : d < 256) : bits .or .u64 (x * 256) d = x * 256 + d := by
  obtain ⟨m, rfl⟩ := Int.eq_ofNat_of_zero_le h0
  obtain ⟨q, rfl⟩ := Int.eq_ofNat_of_zero_le h2
  have e : ((m : Int) * 256) = ((m * 256 : Nat) : Int) := by omega
  rw [e, u64_or_nat _ _ (by omega) (by omega), nat_join 8 _ _ (by omega) (by omega)]
  omega
/-- what value answers -/
def valR (ds : List Int) : Int × Int := if ds.head? = some 0 ∨ 9223372036854775807 < val ds then (0, 11) else (val ds, 0)
set_option maxHeartbeats 800000 in
theorem value_any (a : Option Addr) (cap : Nat) (ds : List Int) (w : World) (h : RowAt w a ds) (hl : ds.length ≤ 8) :
    Calls Tryd.prog 91 #[.slice a ds.length cap] w fun en w' => en = .returned (.tuple #[.int .i64 (valR ds).1, .int .i64 (valR ds).2]) ∧ w' = w := by
  by_cases hh : ds.head? = some 0
  · have HV : Hid (valR ds = (0, 11)) := by show _ = _; simp [valR, hh]
    obtain ⟨tl, rfl⟩ : ∃ tl, ds = 0 :: tl := by
      cases ds with
      | nil => simp at hh
      | cons x tl => simp at hh; exact ⟨tl, by rw [hh]⟩
    obtain ⟨b, off, rfl, hb, hc, _⟩ := h.get 0 (by simp)
    have hc' : w.cell? ⟨b, off, none⟩ = some (.int .u8 0) := by simpa using hc
    have hp : (0 : Int) < ((0 :: tl : List Int).length : Int) := by simp
    generalize (0 :: tl : List Int) = ds at *
    go_enter Tryd.func91, Tryd.ntmps91
    go_wp2
    go_ret2
    rw [HV.out]
    exact ⟨rfl, rfl⟩
  · have hz := h.2.1
    have hstart : ds = [] ∨ ∃ b off z, a = some ⟨b, off, none⟩ ∧ w.cell? ⟨b, off, none⟩ = some (.int .u8 z) ∧ (z == 0) = false ∧ 0 < ds.length := by
      cases ds with
      | nil => exact Or.inl rfl
      | cons x tl =>
        obtain ⟨b, off, rfl, hb, hc, _⟩ := h.get 0 (by simp)
        exact Or.inr ⟨b, off, x, rfl, by simpa using hc, by simpa using hh, by simp⟩
    have hval := val_bound ds hz
    rcases hstart with rfl | ⟨b, off, z0, rfl, hc0, hne, hpos⟩
    · go_enter Tryd.func91, Tryd.ntmps91
      go_wp2
      refine wp_loop_rounds 1 ?_
      rw [rounds_succ]
      go_wp2
      go_ret2
      exact ⟨rfl, rfl⟩
    · have hp : (0 : Int) < (ds.length : Int) := by omega
      have hc : ∀ j, j < ds.length → w.cell? ⟨b, off + j, none⟩ = some (.int .u8 (ds.getD j 0)) := by
        obtain ⟨_, _, hd | ⟨b', off', hx, _, hc⟩⟩ := h
        · rw [hd] at hpos; simp at hpos
        · simp only [Option.some.injEq, Addr.mk.injEq] at hx
          obtain ⟨rfl, rfl, _⟩ := hx
          exact fun j hj => get8 hc hj
      have HC : Hid (∀ j, j < ds.length → w.cell? ⟨b, off + j, none⟩ = some (.int .u8 (ds.getD j 0))) := hc
      have HR : Hid (valR ds = if 9223372036854775807 < val ds then (0, 11) else (val ds, 0)) := by show _ = _; simp [valR, hh]
      clear hc h hh
      go_enter Tryd.func91, Tryd.ntmps91
      go_wp2
      go_loop [4, 17] (fun n i => ∃ k : Nat, k ≤ ds.length ∧ i = .int .i64 k ∧ n = .int .u64 (val (ds.take k))) (fun _ i => ds.length - (intOf i).toNat)
      case atStart => exact ⟨0, by omega, rfl, rfl⟩
      case round =>
        obtain ⟨k, hk, rfl, rfl⟩ := hrel
        by_cases hlt : k < ds.length
        · obtain ⟨z, hcx, hz0, hz1, HV⟩ : ∃ z, w.cell? ⟨b, off + k, none⟩ = some (.int .u8 z) ∧ 0 ≤ z ∧ z < 256 ∧ Hid (val (ds.take (k + 1)) = val (ds.take k) * 256 + z) := by
            refine ⟨ds.getD k 0, HC.out k hlt, ?_, ?_, val_take ds k hlt⟩ <;> rw [List.getD_eq_getElem?_getD, List.getElem?_eq_getElem hlt]
            · exact (hz _ (List.getElem_mem hlt)).1
            · exact (hz _ (List.getElem_mem hlt)).2
          have hb7 : 0 ≤ val (ds.take k) ∧ val (ds.take k) < 72057594037927936 := by
            have := val_bound (ds.take k) (fun z hz' => hz z (List.mem_of_mem_take hz'))
            rw [List.length_take_of_le (by omega)] at this
            have h7 : 256 ^ k ≤ 72057594037927936 := Nat.le_trans (Nat.pow_le_pow_right (by omega) (show k ≤ 7 by omega)) (by decide)
            have e7 : ((256 ^ k : Nat) : Int) = (256 : Int) ^ k := Int.natCast_pow 256 k
            rw [← e7] at this
            omega
          obtain ⟨hx0, hx1⟩ := hb7
          have ej := or_join (val (ds.take k)) z hx0 hx1 hz0 hz1
          generalize val (ds.take k) = X at *
          go_wp2
          go_round
          case rel => exact ⟨k + 1, by omega, by go_num, by rw [HV.out]⟩
          case measure => simp [intOf]; omega
        · obtain rfl : k = ds.length := by omega
          rw [List.take_length]
          by_cases hbig : 9223372036854775807 < val ds
          · go_wp2
            go_ret2
            rw [HR.out, if_pos hbig]
            exact ⟨rfl, rfl⟩
          · go_wp2
            go_ret2
            rw [HR.out, if_neg (by omega)]
            exact ⟨rfl, rfl⟩
end Go.Proofs.YtinpbnkmpplkiaaDoor
namespace Go.Proofs.YtinpbnkmpplkiaaDoor
open Go.RowKit
open Sha Tal
/-- what stands at the beginning of bytes: the number, how many bytes it took, the error -/
def numR : List Int → Int × Nat × Int
  | [] => (0, 0, 10)
  | k :: tl => if 8 < k then (0, 0, 11) else if (tl.length : Int) < k then (0, 0, 10) else
      if (valR (tl.take k.toNat)).2 = 0 then ((valR (tl.take k.toNat)).1, 1 + k.toNat, 0) else (0, 0, (valR (tl.take k.toNat)).2)
theorem valR_err (ds : List Int) (h : (valR ds).2 ≠ 0) : valR ds = (0, 11) := by
  unfold valR at h ⊢
  split
  · rfl
  · rename_i hh; rw [if_neg hh] at h; exact absurd rfl h
theorem Rest.cell {w : World} {R : Nat} {rest : List Int} (h : Rest w R rest) : ∃ a cap, w.cell? ⟨R, 0, none⟩ = some (.slice a rest.length cap) ∧ rest.length ≤ cap ∧ cap ≤ maxLen ∧ RowAt w a rest ∧ ∀ x, a = some x → x.block < R := h
set_option maxHeartbeats 1600000 in
theorem number_any (R : Nat) (e0 : Int) (rest : List Int) (w : World) (hE : RdE w R e0) (hR : Rest w R rest) :
    Calls Tryd.prog 72 #[.pointer (some ⟨R, 0, none⟩)] w fun en w' => en = .returned (.tuple #[.int .i64 (numR rest).1, .int .i64 (numR rest).2.2]) ∧ RdE w' R e0 ∧ w.grownBy w' (some R) ∧ ((numR rest).2.2 = 0 → Rest w' R (rest.drop (numR rest).2.1)) := by
  obtain ⟨a, cap, h0, hc, hm, hrow, hlt⟩ := hR
  have hne := lt_ne hlt
  have f0 := hE.2.2.2.2.1
  cases rest with
  | nil =>
    have h0' : w.cell? ⟨R, 0, none⟩ = some (.slice a 0 cap) := h0
    go_enter Tryd.func72, Tryd.ntmps72
    go_wp2_with fail
    refine (left_any R a 0 cap w h0').mono ?_
    rintro e w1 ⟨rfl, rfl⟩
    go_wp2
    go_ret2
    exact ⟨rfl, hE, gb_refl _ _, fun h => by cases h⟩
  | cons k tl =>
    obtain ⟨b, off, rfl, hb, hcb, hk0, hk1⟩ := hrow.get 0 (by simp)
    have hk : (k :: tl).getD 0 0 = k := rfl
    rw [hk] at hcb hk0 hk1
    have hbR : b ≠ R := hne _ rfl
    have hcb1 : (w.setCell ⟨R, 0, none⟩ (.slice (cutA (some ⟨b, off, none⟩) cap 1) ((k :: tl).length - 1) (cap - 1))).cell? ⟨b, off, none⟩ = some (.int .u8 k) :=
      (World.cell?_setCell_other _ _ _ _ (by intro hx; injection hx with hx1; exact hbR hx1.symm)).trans (by simpa using hcb)
    have hE1 := hE.set0 (cutA (some ⟨b, off, none⟩) cap 1) ((k :: tl).length - 1) (cap - 1)
    have hg1 := gb_set w R 0 (.slice (cutA (some ⟨b, off, none⟩) cap 1) ((k :: tl).length - 1) (cap - 1))
    have hr1 := (hrow.drop 1 cap (by simp) hc).gb hg1 (.inr (cutA_ne hne))
    have h01 : (w.setCell ⟨R, 0, none⟩ (.slice (cutA (some ⟨b, off, none⟩) cap 1) ((k :: tl).length - 1) (cap - 1))).cell? ⟨R, 0, none⟩ = some (.slice (cutA (some ⟨b, off, none⟩) cap 1) ((k :: tl).length - 1) (cap - 1)) := World.cell?_setCell_same _ _ _ h0
    have hlen : (k :: tl).length - 1 = tl.length := by simp
    rw [hlen] at hE1 hg1 hr1 h01 hcb1
    generalize hW1 : w.setCell ⟨R, 0, none⟩ (.slice (cutA (some ⟨b, off, none⟩) cap 1) tl.length (cap - 1)) = W1 at *
    have c1 := take_any R (some ⟨b, off, none⟩) 1 (k :: tl).length cap w h0 f0 (by simp) hc hm
    rw [hlen, hW1] at c1
    have HW1 : Hid (w.setCell ⟨R, 0, none⟩ (.slice (cutA (some ⟨b, off, none⟩) cap 1) tl.length (cap - 1)) = W1) := hW1
    clear hW1
    have hpos : (((k :: tl).length : Int) == 0) = false := by simp; omega
    have hnm := cutA_ne (cap := cap) (n := 1) hne
    have hltm := cutA_lt (cap := cap) (n := 1) hlt
    generalize hA1 : cutA (some ⟨b, off, none⟩) cap 1 = A1 at *
    clear hA1
    have cl := left_any R (some ⟨b, off, none⟩) (k :: tl).length cap w h0
    go_enter Tryd.func72, Tryd.ntmps72
    go_wp2_with fail
    refine cl.mono ?_
    rintro e w1 ⟨rfl, rfl⟩
    clear cl
    go_wp2_with fail
    refine c1.mono ?_
    rintro e w2 ⟨rfl, rfl⟩
    clear c1
    by_cases hk8 : 8 < k
    · have HN : Hid (numR (k :: tl) = (0, 0, 11)) := by show _ = _; simp [numR, hk8]
      go_wp2_with fail
      go_ret2
      rw [HN.out]
      exact ⟨rfl, hE1, hg1, fun h => by cases h⟩
    · by_cases hkl : (tl.length : Int) < k
      · have HN : Hid (numR (k :: tl) = (0, 0, 10)) := by show _ = _; simp [numR, hk8, hkl]
        go_wp2_with fail
        refine (left_any R A1 tl.length (cap - 1) w2 h01).mono ?_
        rintro e w3 ⟨rfl, rfl⟩
        go_wp2_with fail
        go_ret2
        rw [HN.out]
        exact ⟨rfl, hE1, hg1, fun h => by cases h⟩
      · obtain ⟨q, hqk⟩ : ∃ q : Nat, k.toNat = q := ⟨_, rfl⟩
        have hkq : (q : Int) = k := by omega
        have hq : q ≤ tl.length := by omega
        have hcl : tl.length ≤ cap - 1 := by simp at hc; omega
        have c2 := take_any R A1 q tl.length (cap - 1) w2 h01 hE1.2.2.2.2.1 hq hcl (by omega)
        rw [hkq] at c2
        have hE2 := hE1.set0 (cutA A1 (cap - 1) q) (tl.length - q) (cap - 1 - q)
        have hg2 := gb_set w2 R 0 (.slice (cutA A1 (cap - 1) q) (tl.length - q) (cap - 1 - q))
        have hr1' : RowAt w2 A1 tl := by simpa using hr1
        have hr2 := (hr1'.take q).gb hg2 (.inr hnm)
        have hr3 := (hr1'.drop q (cap - 1) hq hcl)
        have h02 : (w2.setCell ⟨R, 0, none⟩ (.slice (cutA A1 (cap - 1) q) (tl.length - q) (cap - 1 - q))).cell? ⟨R, 0, none⟩ = some (.slice (cutA A1 (cap - 1) q) (tl.length - q) (cap - 1 - q)) := World.cell?_setCell_same _ _ _ h01
        have hRest : Rest (w2.setCell ⟨R, 0, none⟩ (.slice (cutA A1 (cap - 1) q) (tl.length - q) (cap - 1 - q))) R (tl.drop q) := by
          refine ⟨cutA A1 (cap - 1) q, cap - 1 - q, by rw [List.length_drop]; exact h02, by rw [List.length_drop]; omega, by omega, ?_, ?_⟩
          · exact hr3.gb hg2 (.inr (cutA_ne hnm))
          · exact cutA_lt hltm
        generalize w2.setCell ⟨R, 0, none⟩ (.slice (cutA A1 (cap - 1) q) (tl.length - q) (cap - 1 - q)) = W2 at *
        have hqt : (tl.take q).length = q := List.length_take_of_le hq
        have c3 := value_any A1 (cap - 1) (tl.take q) W2 hr2 (by omega)
        rw [hqt] at c3
        have HN : Hid (numR (k :: tl) = if (valR (tl.take q)).2 = 0 then ((valR (tl.take q)).1, 1 + q, 0) else (0, 0, (valR (tl.take q)).2)) := by
          show _ = _
          simp only [numR, if_neg hk8, if_neg hkl, hqk]
        clear hr1 hr2 hr3 hqt hqk hkq
        go_wp2_with fail
        refine (left_any R A1 tl.length (cap - 1) w2 h01).mono ?_
        rintro e w3 ⟨rfl, rfl⟩
        go_wp2_with fail
        refine c2.mono ?_
        rintro e w4 ⟨rfl, rfl⟩
        clear c2
        go_wp2_with fail
        refine c3.mono ?_
        rintro e w5 ⟨rfl, rfl⟩
        clear c3
        go_wp2_with fail
        go_ret2
        refine ⟨?_, hE2, gb_trans hg1 hg2, ?_⟩
        · rw [HN.out]
          by_cases hv : (valR (tl.take q)).2 = 0
          · rw [if_pos hv, hv]; exact rfl
          · rw [if_neg hv, valR_err _ hv]; exact rfl
        · rw [HN.out]
          by_cases hv : (valR (tl.take q)).2 = 0
          · rw [if_pos hv]; intro _; rw [Nat.add_comm]; exact hRest
          · rw [if_neg hv]; intro h; exact absurd h hv
end Go.Proofs.YtinpbnkmpplkiaaDoor
namespace Go.Proofs.YtinpbnkmpplkiaaDoor
open Go.RowKit
open Sha Tal
/-- what Num answers, what is ahead then, the error then -/
def numS (rest : List Int) (e most : Int) : Int × List Int × Int :=
  if e = 0 then
    if (numR rest).2.2 = 0 then
      if most < (numR rest).1 then (0, rest, 3) else ((numR rest).1, rest.drop (numR rest).2.1, 0)
    else (0, rest, (numR rest).2.2)
  else (0, rest, e)
set_option maxHeartbeats 1600000 in
theorem num_any (R : Nat) (rest : List Int) (e most : Int) (w : World) (h : St w R rest e) :
    Calls Tryd.prog 49 #[.pointer (some ⟨R, 0, none⟩), .int .i64 most] w fun en w' => en = .returned (.int .i64 (numS rest e most).1) ∧ St w' R (numS rest e most).2.1 (numS rest e most).2.2 ∧ w.grownBy w' (some R) := by
  obtain ⟨hE, hR⟩ := h
  by_cases he : e = 0
  · subst he
    have hR := hR rfl
    have cn := number_any R 0 rest w hE hR
    have HS : Hid (numS rest 0 most = if (numR rest).2.2 = 0 then (if most < (numR rest).1 then (0, rest, 3) else ((numR rest).1, rest.drop (numR rest).2.1, 0)) else (0, rest, (numR rest).2.2)) := by show _ = _; simp [numS]
    generalize (numR rest).1 = v at *
    generalize (numR rest).2.1 = c at *
    generalize (numR rest).2.2 = er at *
    by_cases her : er = 0
    · subst her
      rw [if_pos rfl] at HS
      by_cases hmost : most < v
      · rw [if_pos hmost] at HS
        go_enter Tryd.func49, Tryd.ntmps49
        go_wp2_with fail
        refine (err_made R 0 w hE).mono ?_
        rintro e w1 ⟨rfl, rfl⟩
        go_wp2_with fail
        refine cn.mono ?_
        rintro e w2 ⟨rfl, hE2, hg2, hR2⟩
        go_wp2_with fail
        refine (fail_any R 0 3 w2 hE2).mono ?_
        rintro e w3 ⟨rfl, hE3, hg3⟩
        go_wp2_with fail
        go_ret
        rw [HS.out]
        exact ⟨rfl, ⟨hE3, fun h => by cases h⟩, gb_trans hg2 hg3⟩
      · rw [if_neg hmost] at HS
        go_enter Tryd.func49, Tryd.ntmps49
        go_wp2_with fail
        refine (err_made R 0 w hE).mono ?_
        rintro e w1 ⟨rfl, rfl⟩
        go_wp2_with fail
        refine cn.mono ?_
        rintro e w2 ⟨rfl, hE2, hg2, hR2⟩
        have hR3 := hR2 (by trivial)
        clear hR2 cn
        go_wp2_with fail
        go_ret
        rw [HS.out]
        exact ⟨rfl, ⟨hE2, fun _ => hR3⟩, hg2⟩
    · have her' : (er == 0) = false := by simpa using her
      rw [if_neg her] at HS
      go_enter Tryd.func49, Tryd.ntmps49
      go_wp2_with fail
      refine (err_made R 0 w hE).mono ?_
      rintro e w1 ⟨rfl, rfl⟩
      go_wp2_with fail
      refine cn.mono ?_
      rintro e w2 ⟨rfl, hE2, hg2, hR2⟩
      clear hR2 cn
      go_wp2_with fail
      refine (fail_any R 0 er w2 hE2).mono ?_
      rintro e w3 ⟨rfl, hE3, hg3⟩
      go_wp2_with fail
      go_ret
      rw [HS.out]
      exact ⟨rfl, ⟨hE3, fun h => absurd h her⟩, gb_trans hg2 hg3⟩
  · have HS : Hid (numS rest e most = (0, rest, e)) := by show _ = _; simp [numS, he]
    have he' : (e == 0) = false := by simpa using he
    go_enter Tryd.func49, Tryd.ntmps49
    go_wp2_with fail
    refine (err_made R e w hE).mono ?_
    rintro en w1 ⟨rfl, rfl⟩
    go_wp2_with fail
    go_ret
    rw [HS.out]
    exact ⟨rfl, ⟨hE, fun h => absurd h he⟩, gb_refl _ _⟩
end Go.Proofs.YtinpbnkmpplkiaaDoor
namespace Go.Proofs.YtinpbnkmpplkiaaDoor
open Go.RowKit
open Sha Tal
theorem RowAt.none_nil {w : World} {zs : List Int} (h : RowAt w none zs) : zs = [] := by
  rcases h.2.2 with h | ⟨b, off, hx, _⟩
  · exact h
  · cases hx
theorem RowAt.str {w : World} {a : Option Addr} {zs : List Int} (h : RowAt w a zs) (cap : Nat) : (convert 39 9 (.slice a zs.length cap)).run Tryd.prog w = .ok (.string (strOf zs)) w := row_mine h cap
theorem Mine.str {w : World} {B : Nat} {v : Value} {zs : List Int} (h : Mine w B v zs) (hm : zs.length ≤ maxLen) : (convert 39 9 v).run Tryd.prog w = .ok (.string (strOf zs)) w := by
  obtain ⟨a, cap, rfl, _, _, hr⟩ := h.rowAt hm
  exact hr.str cap
set_option maxHeartbeats 800000 in
theorem clone_any (a : Option Addr) (cap : Nat) (zs : List Int) (w : World) (h : RowAt w a zs) (hm : zs.length ≤ 549755813888) :
    Calls Tryd.prog 42 #[.slice a zs.length cap] w fun e w' => ∃ v, e = .returned v ∧ Mine w' w.heap.size v zs ∧ Below w.heap.size w w' := by
  obtain ⟨i0, hi, hz0, hz1, hz2⟩ := info_parts info8
  cases a with
  | none =>
    obtain rfl := h.none_nil
    have hn := fun w => Lib.run_eql_slice_nil (P := Tryd.prog) w 39 5 none 0 cap 0 0 Tryd.underlying39
    go_enter Tryd.func42, Tryd.ntmps42
    go_wp2
    go_ret
    exact ⟨_, rfl, ⟨World.ownsRow_nil _ _ _ _, by simp⟩, Below.refl _ _⟩
  | some x =>
    have hn := fun w => Lib.run_eql_slice_nil (P := Tryd.prog) w 39 5 (some x) zs.length cap 0 0 Tryd.underlying39
    go_enter Tryd.func42, Tryd.ntmps42
    go_wp2_with (at_builtin; refine wpList_append_own_src _ rfl _ _ 39 39 rfl w.heap.size 5 i0 (.int .u8 0) 1 1 Tryd.underlying39 hi hz0 hz1 hz2 rfl _ 0 [] rfl (World.ownsRow_made w #[] 0 (Nat.le_refl _) (by simp) (by simp)) (.slice (some x) zs.length cap) zs.length (zs.map (Value.int .u8)) rfl ((h.below ((Below.refl _ _).alloc (Nat.le_refl _) _)).src cap) ?c1 ?c2 ?c3 ?_)
    case c1 => unfold maxLen; omega
    case c2 => omega
    case c3 => simp
    intro v' w1 hown hgrow
    have hb1 : Below w.heap.size w w1 := ((Below.refl _ _).alloc (Nat.le_refl _) _).grown hgrow (by simp) (fun k hk => by simp [Value.ownBlock] at hk; omega)
    go_wp2
    go_ret
    exact ⟨_, rfl, ⟨by simpa using hown, h.2.1⟩, hb1⟩

set_option maxHeartbeats 800000 in
theorem read_any (a : Option Addr) (cap : Nat) (zs : List Int) (w : World) (h : RowAt w a zs) (hm : zs.length ≤ 549755813888) :
    Calls Tryd.prog 21 #[.slice a zs.length cap] w fun e w' => ∃ R, e = .returned (.pointer (some ⟨R, 0, none⟩)) ∧ w.heap.size ≤ R ∧ St w' R zs 0 ∧ Below w.heap.size w w' := by
  go_enter Tryd.func21, Tryd.ntmps21
  go_wp2_with fail
  refine (clone_any a cap zs w h hm).mono ?_
  rintro e w1 ⟨v, rfl, hmine, hb⟩
  obtain ⟨a', cap', rfl, hc1, hc2, hr⟩ := hmine.rowAt (by unfold maxLen; omega)
  have hblk : ∀ x, a' = some x → x.block < w1.heap.size := fun x hx => (hmine.1.lt x.block (by simp [hx, Value.ownBlock])).2
  have hb2 : Below w1.heap.size w1 (w1.alloc (.cells #[.slice a' zs.length cap', .bool true, .int .i64 0] 79)) := (Below.refl _ _).alloc (Nat.le_refl _) _
  have hSt : St (w1.alloc (.cells #[.slice a' zs.length cap', .bool true, .int .i64 0] 79)) w1.heap.size zs 0 := by
    have cs : ∀ j, (w1.alloc (.cells #[.slice a' zs.length cap', .bool true, .int .i64 0] 79)).cell? ⟨w1.heap.size, j, none⟩ = (#[.slice a' zs.length cap', .bool true, .int .i64 0] : Array Value)[j]? := fun j => World.cell?_alloc_at _ _ _ _ rfl
    have fs : ∀ j, (w1.alloc (.cells #[.slice a' zs.length cap', .bool true, .int .i64 0] 79)).frozen? ⟨w1.heap.size, j, none⟩ = false := fun j => World.frozen?_alloc_at _ _ _ _ rfl
    exact ⟨⟨by simp, ⟨a', zs.length, cap', cs 0⟩, cs 1, cs 2, fs 0, fs 1, fs 2⟩, fun _ => ⟨a', cap', cs 0, hc1, hc2, hr.below hb2, hblk⟩⟩
  go_wp2_with fail
  go_ret
  exact ⟨_, rfl, hb.size, hSt, hb.trans (hb2.mono hb.size)⟩
end Go.Proofs.YtinpbnkmpplkiaaDoor
namespace Go.Proofs.YtinpbnkmpplkiaaDoor
open Go.RowKit
open Sha Tal
set_option maxHeartbeats 800000 in
theorem next_few (R : Nat) (rest : List Int) (n : Int) (w : World) (h : St w R rest 0) (hn : (rest.length : Int) < n) :
    Calls Tryd.prog 92 #[.pointer (some ⟨R, 0, none⟩), .int .i64 n] w fun en w' => en = .returned (.slice none 0 0) ∧ St w' R rest 10 ∧ w.grownBy w' (some R) := by
  obtain ⟨hE, hR⟩ := h
  obtain ⟨a, cap, h0, hc, hm, hrow, hne⟩ := hR rfl
  go_enter Tryd.func92, Tryd.ntmps92
  go_wp2_with fail
  refine (left_any R a rest.length cap w h0).mono ?_
  rintro en w1 ⟨rfl, rfl⟩
  go_wp2_with fail
  refine (fail_any R 0 10 w1 hE).mono ?_
  rintro en w2 ⟨rfl, hE2, hg2⟩
  go_wp2_with fail
  go_ret
  exact ⟨rfl, ⟨hE2, fun h => by cases h⟩, hg2⟩
set_option maxHeartbeats 800000 in
theorem next_there (R : Nat) (rest : List Int) (n : Int) (w : World) (h : St w R rest 0) (hn0 : 0 ≤ n) (hn : n ≤ (rest.length : Int)) :
    Calls Tryd.prog 92 #[.pointer (some ⟨R, 0, none⟩), .int .i64 n] w fun en w' => ∃ a cap, en = .returned (.slice a n.toNat cap) ∧ n.toNat ≤ cap ∧ RowAt w' a (rest.take n.toNat) ∧ St w' R (rest.drop n.toNat) 0 ∧ w.grownBy w' (some R) := by
  obtain ⟨hE, hR⟩ := h
  obtain ⟨a, cap, h0, hc, hm, hrow, hlt⟩ := hR rfl
  have hne := lt_ne hlt
  obtain ⟨q, hq⟩ : ∃ q : Nat, n.toNat = q := ⟨_, rfl⟩
  have hqn : (q : Int) = n := by omega
  rw [hq]
  have ct := take_any R a q rest.length cap w h0 hE.2.2.2.2.1 (by omega) hc hm
  rw [hqn] at ct
  have hE2 := hE.set0 (cutA a cap q) (rest.length - q) (cap - q)
  have hg2 := gb_set w R 0 (.slice (cutA a cap q) (rest.length - q) (cap - q))
  have hr2 := (hrow.take q).gb hg2 (.inr hne)
  have h02 : (w.setCell ⟨R, 0, none⟩ (.slice (cutA a cap q) (rest.length - q) (cap - q))).cell? ⟨R, 0, none⟩ = some (.slice (cutA a cap q) (rest.length - q) (cap - q)) := World.cell?_setCell_same _ _ _ h0
  have hRest : Rest (w.setCell ⟨R, 0, none⟩ (.slice (cutA a cap q) (rest.length - q) (cap - q))) R (rest.drop q) :=
    ⟨cutA a cap q, cap - q, by rw [List.length_drop]; exact h02, by rw [List.length_drop]; omega, by omega, (hrow.drop q cap (by omega) hc).gb hg2 (.inr (cutA_ne hne)), cutA_lt hlt⟩
  have hqc : q ≤ cap := by omega
  generalize w.setCell ⟨R, 0, none⟩ (.slice (cutA a cap q) (rest.length - q) (cap - q)) = W2 at *
  have hnn : ¬ ((rest.length : Int) < n) := by omega
  clear hq hqn
  go_enter Tryd.func92, Tryd.ntmps92
  go_wp2_with fail
  refine (left_any R a rest.length cap w h0).mono ?_
  rintro en w1 ⟨rfl, rfl⟩
  go_wp2_with fail
  refine ct.mono ?_
  rintro en w2 ⟨rfl, rfl⟩
  go_wp2_with fail
  go_ret
  exact ⟨a, cap, rfl, hqc, hr2, ⟨hE2, fun _ => hRest⟩, hg2⟩
/-- what Text answers (as bytes), what is ahead then, the error then -/
def textS (rest : List Int) (e most : Int) : List Int × List Int × Int :=
  if (numS rest e 9223372036854775807).2.2 = 0 then
    if most < (numS rest e 9223372036854775807).1 then ([], rest, 3)
    else if ((numS rest e 9223372036854775807).2.1.length : Int) < (numS rest e 9223372036854775807).1 then ([], rest, 10)
    else ((numS rest e 9223372036854775807).2.1.take (numS rest e 9223372036854775807).1.toNat, (numS rest e 9223372036854775807).2.1.drop (numS rest e 9223372036854775807).1.toNat, 0)
  else ([], rest, (numS rest e 9223372036854775807).2.2)
theorem St.other {w : World} {R : Nat} {rest : List Int} {e : Int} (h : St w R rest e) (he : e ≠ 0) (rest' : List Int) : St w R rest' e := ⟨h.1, fun h0 => absurd h0 he⟩
set_option maxHeartbeats 1600000 in
theorem text_any (R : Nat) (rest : List Int) (e most : Int) (w : World) (h : St w R rest e) (hpos : 0 ≤ (numS rest e 9223372036854775807).1) :
    Calls Tryd.prog 74 #[.pointer (some ⟨R, 0, none⟩), .int .i64 most] w fun en w' => en = .returned (.string (strOf (textS rest e most).1)) ∧ St w' R (textS rest e most).2.1 (textS rest e most).2.2 ∧ w.grownBy w' (some R) := by
  have cn := num_any R rest e 9223372036854775807 w h
  have HT : Hid (textS rest e most = if (numS rest e 9223372036854775807).2.2 = 0 then
    (if most < (numS rest e 9223372036854775807).1 then ([], rest, 3)
    else if ((numS rest e 9223372036854775807).2.1.length : Int) < (numS rest e 9223372036854775807).1 then ([], rest, 10)
    else ((numS rest e 9223372036854775807).2.1.take (numS rest e 9223372036854775807).1.toNat, (numS rest e 9223372036854775807).2.1.drop (numS rest e 9223372036854775807).1.toNat, 0))
    else ([], rest, (numS rest e 9223372036854775807).2.2)) := rfl
  generalize (numS rest e 9223372036854775807).1 = n at *
  generalize (numS rest e 9223372036854775807).2.1 = r1 at *
  generalize (numS rest e 9223372036854775807).2.2 = e1 at *
  have hs0 : strOf [] = ⟨#[]⟩ := rfl
  by_cases he : e1 = 0
  · subst he
    rw [if_pos rfl] at HT
    by_cases hmost : most < n
    · rw [if_pos hmost] at HT
      go_enter Tryd.func74, Tryd.ntmps74
      go_wp2_with fail
      refine cn.mono ?_
      rintro en w1 ⟨rfl, hS1, hg1⟩
      clear cn
      go_wp2_with fail
      refine (err_made R 0 w1 hS1.1).mono ?_
      rintro en w2 ⟨rfl, rfl⟩
      go_wp2_with fail
      refine (fail_any R 0 3 w2 hS1.1).mono ?_
      rintro en w3 ⟨rfl, hE3, hg3⟩
      go_wp2_with fail
      go_ret
      rw [HT.out]
      exact ⟨rfl, ⟨hE3, fun h => by cases h⟩, gb_trans hg1 hg3⟩
    · rw [if_neg hmost] at HT
      by_cases hlen : (r1.length : Int) < n
      · rw [if_pos hlen] at HT
        have sn : ∀ w : World, (convert 39 9 (.slice none 0 0)).run Tryd.prog w = .ok (.string ⟨#[]⟩) w := fun w => (nil_row w).str 0
        go_enter Tryd.func74, Tryd.ntmps74
        go_wp2_with fail
        refine cn.mono ?_
        rintro en w1 ⟨rfl, hS1, hg1⟩
        clear cn
        go_wp2_with fail
        refine (err_made R 0 w1 hS1.1).mono ?_
        rintro en w2 ⟨rfl, rfl⟩
        go_wp2_with fail
        refine (next_few R r1 n w2 hS1 hlen).mono ?_
        rintro en w3 ⟨rfl, hS3, hg3⟩
        have s3 := sn w3
        go_wp2_with fail
        go_ret
        rw [HT.out]
        exact ⟨rfl, hS3.other (by omega) _, gb_trans hg1 hg3⟩
      · rw [if_neg hlen] at HT
        go_enter Tryd.func74, Tryd.ntmps74
        go_wp2_with fail
        refine cn.mono ?_
        rintro en w1 ⟨rfl, hS1, hg1⟩
        clear cn
        go_wp2_with fail
        refine (err_made R 0 w1 hS1.1).mono ?_
        rintro en w2 ⟨rfl, rfl⟩
        go_wp2_with fail
        refine (next_there R r1 n w2 hS1 hpos (by omega)).mono ?_
        rintro en w3 ⟨a, cap, rfl, hca, hra, hS3, hg3⟩
        have s3 := hra.str cap
        rw [List.length_take_of_le (by omega)] at s3
        go_wp2_with fail
        go_ret
        rw [HT.out]
        exact ⟨rfl, hS3, gb_trans hg1 hg3⟩
  · rw [if_neg he] at HT
    have he' : (e1 == 0) = false := by simpa using he
    go_enter Tryd.func74, Tryd.ntmps74
    go_wp2_with fail
    refine cn.mono ?_
    rintro en w1 ⟨rfl, hS1, hg1⟩
    clear cn
    go_wp2_with fail
    refine (err_made R e1 w1 hS1.1).mono ?_
    rintro en w2 ⟨rfl, rfl⟩
    go_wp2_with fail
    go_ret
    rw [HT.out]
    exact ⟨rfl, hS1.other he _, hg1⟩
end Go.Proofs.YtinpbnkmpplkiaaDoor
namespace Go.Proofs.YtinpbnkmpplkiaaDoor
open Go.RowKit
namespace Tal
theorem digs_val (ds : List Int) (hz : ∀ z ∈ ds, 0 ≤ z ∧ z < 256) (hh : ds.head? ≠ some 0) (hv : val ds ≤ 9223372036854775807) : digs (val ds).toNat = ds := by
  have key : ∀ k, k ≤ ds.length → val (ds.take k) ≤ 9223372036854775807 → digs (val (ds.take k)).toNat = ds.take k := by
    intro k
    induction k with
    | zero => intro _ _; simp [val, digs_zero]
    | succ k ih =>
      intro hk hle
      have hlt : k < ds.length := by omega
      have e := val_take ds k hlt
      have hb := val_bound (ds.take k) (fun z h => hz z (List.mem_of_mem_take h))
      have hd : 0 ≤ ds.getD k 0 ∧ ds.getD k 0 < 256 := by
        rw [List.getD_eq_getElem?_getD, List.getElem?_eq_getElem hlt]; exact hz _ (List.getElem_mem hlt)
      have hi := ih (by omega) (by omega)
      have hpos : 0 < val (ds.take (k + 1)) := by
        by_cases h0 : k = 0
        · subst h0
          have : val (ds.take 0) = 0 := by simp [val]
          rw [e, this]
          cases ds with
          | nil => simp at hlt
          | cons x tl => simp at hh hd ⊢; omega
        · have : 0 < val (ds.take k) := by
            rcases Int.lt_or_eq_of_le hb.1 with h | h
            · exact h
            · rw [← h] at hi
              have hl := congrArg List.length hi
              rw [List.length_take_of_le (by omega)] at hl
              have : (digs (0 : Int).toNat).length = 0 := by decide
              omega
          omega
      have ht : ds.take (k + 1) = ds.take k ++ [ds.getD k 0] := by
        rw [List.take_succ_eq_append_getElem hlt, List.getD_eq_getElem?_getD, List.getElem?_eq_getElem hlt]; rfl
      have e1 : (val (ds.take (k + 1))).toNat / 256 = (val (ds.take k)).toNat := by omega
      have e2 : ((((val (ds.take (k + 1))).toNat % 256 : Nat)) : Int) = ds.getD k 0 := by omega
      rw [digs_succ _ (by omega) (by omega), e1, e2, hi, ht]
  have := key ds.length (Nat.le_refl _)
  rw [List.take_length] at this
  exact this hv
/-- what was read as a number, put again, is what was read -/
theorem numR_form (zs : List Int) (hz : ∀ z ∈ zs, 0 ≤ z ∧ z < 256) (h : (numR zs).2.2 = 0) :
    putL (numR zs).1 = zs.take (numR zs).2.1 ∧ (numR zs).2.1 ≤ zs.length ∧ 0 ≤ (numR zs).1 ∧ (numR zs).1 ≤ 9223372036854775807 := by
  cases zs with
  | nil => simp [numR] at h
  | cons k tl =>
    have hk := hz k (by simp)
    by_cases h8 : 8 < k
    · simp [numR, h8] at h
    · by_cases hl : (tl.length : Int) < k
      · simp [numR, h8, hl] at h
      · by_cases hv : (valR (tl.take k.toNat)).2 = 0
        · have e : numR (k :: tl) = ((valR (tl.take k.toNat)).1, 1 + k.toNat, 0) := by simp only [numR, if_neg h8, if_neg hl, if_pos hv]
          rw [e]
          have hds : ∀ z ∈ tl.take k.toNat, 0 ≤ z ∧ z < 256 := fun z h => hz z (by simp [List.mem_of_mem_take h])
          have hb := val_bound _ hds
          have hnot : ¬ ((tl.take k.toNat).head? = some 0 ∨ 9223372036854775807 < val (tl.take k.toNat)) := by
            intro hc; unfold valR at hv; rw [if_pos hc] at hv; cases hv
          have e1 : (valR (tl.take k.toNat)).1 = val (tl.take k.toNat) := by unfold valR; rw [if_neg hnot]
          have hlen : (tl.take k.toNat).length = k.toNat := List.length_take_of_le (by omega)
          have hd := digs_val (tl.take k.toNat) hds (fun h => hnot (Or.inl h)) (by omega)
          have hw : (wid (val (tl.take k.toNat)).toNat : Int) = k := by
            rw [← digs_length, hd, hlen]; omega
          simp only [e1]
          refine ⟨?_, by simp; omega, hb.1, by omega⟩
          unfold putL
          rw [if_neg (by omega), numB, hd, hw, Nat.add_comm]
          rfl
        · simp only [numR, if_neg h8, if_neg hl, if_neg hv] at h
          exact absurd h hv
end Tal
open Sha Tal
set_option maxHeartbeats 400000 in
theorem leftR_any (R : Nat) (rest : List Int) (e : Int) (w : World) (h : St w R rest e) :
    Calls Tryd.prog 30 #[.pointer (some ⟨R, 0, none⟩)] w fun en w' => en = .returned (.int .i64 (if e = 0 then (rest.length : Int) else 0)) ∧ w' = w := by
  obtain ⟨hE, hR⟩ := h
  by_cases he : e = 0
  · subst he
    obtain ⟨a, cap, h0, _⟩ := hR rfl
    go_enter Tryd.func30, Tryd.ntmps30
    go_wp2_with fail
    refine (err_made R 0 w hE).mono ?_
    rintro en w1 ⟨rfl, rfl⟩
    go_wp2_with fail
    refine (left_any R a rest.length cap w1 h0).mono ?_
    rintro en w2 ⟨rfl, rfl⟩
    go_wp2_with fail
    go_ret
    exact ⟨rfl, rfl⟩
  · have he' : (e == 0) = false := by simpa using he
    go_enter Tryd.func30, Tryd.ntmps30
    go_wp2_with fail
    refine (err_made R e w hE).mono ?_
    rintro en w1 ⟨rfl, rfl⟩
    go_wp2_with fail
    go_ret
    exact ⟨rfl, rfl⟩
end Go.Proofs.YtinpbnkmpplkiaaDoor
