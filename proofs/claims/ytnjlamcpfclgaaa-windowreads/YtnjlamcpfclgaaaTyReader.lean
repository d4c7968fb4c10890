/- A reader: its block, Err, left, take, fail, value. -/
import Derived.Test.YtnjlamcpfclgaaaTyPut
namespace Go.Proofs.Ytnjlamcpfclgaaa.Ty
open Go.RowKit
open Tal
/-- a reader's block: its place holds some slice, it was made, its error is e -/
def RdE (w : World) (R : Nat) (e : Int) : Prop :=
  R < w.heap.size ∧ (∃ a n c, w.cell? ⟨R, 0, none⟩ = some (.slice a n c)) ∧ w.cell? ⟨R, 1, none⟩ = some (.bool true) ∧ w.cell? ⟨R, 2, none⟩ = some (.int .i64 e) ∧
  w.frozen? ⟨R, 0, none⟩ = false ∧ w.frozen? ⟨R, 1, none⟩ = false ∧ w.frozen? ⟨R, 2, none⟩ = false
/-- what is ahead of it -/
def Rest (w : World) (R : Nat) (rest : List Int) : Prop :=
  ∃ a cap, w.cell? ⟨R, 0, none⟩ = some (.slice a rest.length cap) ∧ rest.length ≤ cap ∧ cap ≤ maxLen ∧ RowAt w a rest ∧ ∀ x, a = some x → x.block < R
def St (w : World) (R : Nat) (rest : List Int) (e : Int) : Prop := RdE w R e ∧ (e = 0 → Rest w R rest)

theorem gb_refl (w : World) (r : Option Nat) : w.grownBy w r := ⟨rfl, rfl, rfl, Nat.le_refl _, fun _ _ _ => rfl⟩
theorem gb_trans {w w1 w2 : World} {r : Option Nat} (h : w.grownBy w1 r) (k : w1.grownBy w2 r) : w.grownBy w2 r :=
  ⟨k.os.trans h.os, k.tape.trans h.tape, k.output.trans h.output, Nat.le_trans h.size k.size, fun i hi hr => (k.block i (Nat.lt_of_lt_of_le hi h.size) hr).trans (h.block i hi hr)⟩
theorem gb_set (w : World) (R j : Nat) (v : Value) : w.grownBy (w.setCell ⟨R, j, none⟩ v) (some R) :=
  ⟨rfl, rfl, rfl, by simp [World.setCell], fun k _ hk => Below.heap_setCell w _ v k (fun e => hk (by rw [e]))⟩
theorem gb_below {w w' : World} (h : Below w.heap.size w w') (r : Option Nat) : w.grownBy w' r := ⟨h.os, h.tape, h.output, h.size, fun k hk _ => h.block k hk⟩
theorem RdE.set0 {w : World} {R : Nat} {e : Int} (h : RdE w R e) (a : Option Addr) (n c : Nat) : RdE (w.setCell ⟨R, 0, none⟩ (.slice a n c)) R e := by
  obtain ⟨hR, ⟨a', n', c', h0⟩, h1, h2, f0, f1, f2⟩ := h
  refine ⟨by simpa [World.setCell] using hR, ⟨a, n, c, World.cell?_setCell_same _ _ _ h0⟩, (World.cell?_setCell_other _ _ _ _ (by simp)).trans h1, (World.cell?_setCell_other _ _ _ _ (by simp)).trans h2,
    (World.frozen?_setCell _ _ _ _).trans f0, (World.frozen?_setCell _ _ _ _).trans f1, (World.frozen?_setCell _ _ _ _).trans f2⟩
theorem RdE.set2 {w : World} {R : Nat} {e : Int} (h : RdE w R e) (e' : Int) : RdE (w.setCell ⟨R, 2, none⟩ (.int .i64 e')) R e' := by
  obtain ⟨hR, ⟨a', n', c', h0⟩, h1, h2, f0, f1, f2⟩ := h
  refine ⟨by simpa [World.setCell] using hR, ⟨a', n', c', (World.cell?_setCell_other _ _ _ _ (by simp)).trans h0⟩, (World.cell?_setCell_other _ _ _ _ (by simp)).trans h1, World.cell?_setCell_same _ _ _ h2,
    (World.frozen?_setCell _ _ _ _).trans f0, (World.frozen?_setCell _ _ _ _).trans f1, (World.frozen?_setCell _ _ _ _).trans f2⟩
/-- a row of bytes in another block stays -/
theorem RowAt.gb {w w' : World} {a : Option Addr} {zs : List Int} {R : Nat} (h : RowAt w a zs) (hb : w.grownBy w' (some R)) (hne : ∀ x, a = some x → x.block ≠ R) : RowAt w' a zs := by
  refine ⟨h.1, h.2.1, ?_⟩
  rcases h.2.2 with h | ⟨b, off, rfl, h1, h2⟩
  · exact Or.inl h
  · refine Or.inr ⟨b, off, rfl, Nat.lt_of_lt_of_le h1 hb.size, fun j hj => hb.cell (h2 j hj) (fun e => hne ⟨b, off, none⟩ rfl (by simpa using e))⟩
theorem cutA_ne {a : Option Addr} {R cap n : Nat} (h : ∀ x, a = some x → x.block ≠ R) : ∀ x, cutA a cap n = some x → x.block ≠ R := by
  intro x hx
  unfold cutA at hx
  split at hx
  · exact h x hx
  · cases a with
    | none => simp at hx
    | some y =>
      simp only [Option.map_some, Option.some.injEq] at hx
      subst hx
      have := h y rfl
      unfold Addr.add
      split <;> exact this
theorem cutA_lt {a : Option Addr} {R cap n : Nat} (h : ∀ x, a = some x → x.block < R) : ∀ x, cutA a cap n = some x → x.block < R := by
  intro x hx
  unfold cutA at hx
  split at hx
  · exact h x hx
  · cases a with
    | none => simp at hx
    | some y =>
      simp only [Option.map_some, Option.some.injEq] at hx
      subst hx
      have := h y rfl
      unfold Addr.add
      split <;> exact this
theorem lt_ne {a : Option Addr} {R : Nat} (h : ∀ x, a = some x → x.block < R) : ∀ x, a = some x → x.block ≠ R := fun x hx => Nat.ne_of_lt (h x hx)
theorem err_made (R : Nat) (e : Int) (w : World) (h : RdE w R e) :
    Calls Try.prog 26 #[.pointer (some ⟨R, 0, none⟩)] w fun en w' => en = .returned (.int .i64 e) ∧ w' = w := by
  obtain ⟨hR, ⟨a, n, c, h0⟩, h1, h2, f0, f1, f2⟩ := h
  go_enter Try.func26, Try.ntmps26
  go_wp2
  go_ret
  exact ⟨rfl, rfl⟩
theorem left_any (R : Nat) (a : Option Addr) (n c : Nat) (w : World) (h0 : w.cell? ⟨R, 0, none⟩ = some (.slice a n c)) :
    Calls Try.prog 45 #[.pointer (some ⟨R, 0, none⟩)] w fun en w' => en = .returned (.int .i64 (n : Int)) ∧ w' = w := by
  go_enter Try.func45, Try.ntmps45
  go_wp2
  go_ret
  exact ⟨rfl, rfl⟩
set_option maxHeartbeats 400000 in
theorem take_any (R : Nat) (a : Option Addr) (n len c : Nat) (w : World) (h0 : w.cell? ⟨R, 0, none⟩ = some (.slice a len c)) (f0 : w.frozen? ⟨R, 0, none⟩ = false) (hn : n ≤ len) (hc : len ≤ c) (hm : c ≤ maxLen) :
    Calls Try.prog 62 #[.pointer (some ⟨R, 0, none⟩), .int .i64 (n : Int)] w fun en w' => en = .returned (.slice a n c) ∧ w' = w.setCell ⟨R, 0, none⟩ (.slice (cutA a c n) (len - n) (c - n)) := by
  unfold maxLen at hm
  by_cases h : c = n
  · subst h
    obtain rfl : len = c := by omega
    go_enter Try.func62, Try.ntmps62
    go_wp2
    go_ret
    exact ⟨rfl, by simp [cutA]⟩
  · go_enter Try.func62, Try.ntmps62
    go_wp2
    go_ret
    exact ⟨rfl, by simp [cutA, h]⟩
set_option maxHeartbeats 400000 in
theorem fail_any (R : Nat) (e0 e : Int) (w : World) (h : RdE w R e0) :
    Calls Try.prog 57 #[.pointer (some ⟨R, 0, none⟩), .int .i64 e] w fun en w' => en = .returned (.tuple #[]) ∧ RdE w' R e ∧ w.grownBy w' (some R) := by
  have hE := (h.set2 e).set0 none 0 0
  have hg := gb_trans (gb_set w R 2 (.int .i64 e)) (gb_set (w.setCell ⟨R, 2, none⟩ (.int .i64 e)) R 0 (.slice none 0 0))
  obtain ⟨hR, ⟨a, n, c, h0⟩, h1, h2, f0, f1, f2⟩ := h
  go_enter Try.func57, Try.ntmps57
  go_wp2
  go_end0
  exact ⟨rfl, hE, hg⟩

theorem val_bound (l : List Int) (h : ∀ z ∈ l, 0 ≤ z ∧ z < 256) : 0 ≤ val l ∧ val l < 256 ^ l.length := by
  have : ∀ k, k ≤ l.length → 0 ≤ val (l.take k) ∧ val (l.take k) < 256 ^ k := by
    intro k
    induction k with
    | zero => intro _; simp [val]
    | succ k ih =>
      intro hk
      have hlt : k < l.length := by omega
      obtain ⟨i1, i2⟩ := ih (by omega)
      have hz := h l[k] (List.getElem_mem hlt)
      rw [List.take_succ_eq_append_getElem hlt, val_snoc, Int.pow_succ]
      omega
  have := this l.length (Nat.le_refl _)
  rwa [List.take_length] at this
theorem val_take (l : List Int) (k : Nat) (h : k < l.length) : val (l.take (k + 1)) = val (l.take k) * 256 + l.getD k 0 := by
  rw [List.take_succ_eq_append_getElem h, val_snoc, List.getD_eq_getElem?_getD, List.getElem?_eq_getElem h]; rfl
theorem or_join (x d : Int) (h0 : 0 ≤ x) (h1 : x < 72057594037927936) (h2 : 0 ≤ d) (h3 : d < 256) : bits .or .u64 (x * 256) d = x * 256 + d := by
  obtain ⟨m, rfl⟩ := Int.eq_ofNat_of_zero_le h0
  obtain ⟨q, rfl⟩ := Int.eq_ofNat_of_zero_le h2
  have e : ((m : Int) * 256) = ((m * 256 : Nat) : Int) := by omega
  rw [e, u64_or_nat _ _ (by omega) (by omega), nat_join 8 _ _ (by omega) (by omega)]
  omega
/-- what value answers -/
def valR (ds : List Int) : Int × Int := if ds.head? = some 0 ∨ 9223372036854775807 < val ds then (0, 11) else (val ds, 0)
set_option maxHeartbeats 800000 in
theorem value_any (a : Option Addr) (cap : Nat) (ds : List Int) (w : World) (h : RowAt w a ds) (hl : ds.length ≤ 8) :
    Calls Try.prog 63 #[.slice a ds.length cap] w fun en w' => en = .returned (.tuple #[.int .i64 (valR ds).1, .int .i64 (valR ds).2]) ∧ w' = w := by
  by_cases hh : ds.head? = some 0
  · have HV : Hid (valR ds = (0, 11)) := by show _ = _; simp [valR, hh]
    obtain ⟨tl, rfl⟩ : ∃ tl, ds = 0 :: tl := by
      cases ds with
      | nil => simp at hh
      | cons x tl => simp at hh; exact ⟨tl, by rw [hh]⟩
    obtain ⟨b, off, rfl, hb, hc, _⟩ := h.get 0 (by simp)
    have hc' : w.cell? ⟨b, off, none⟩ = some (.int .u8 0) := by simpa using hc
    have hp : (0 : Int) < ((0 :: tl : List Int).length : Int) := by simp
    generalize (0 :: tl : List Int) = ds at *
    go_enter Try.func63, Try.ntmps63
    go_wp2
    go_ret2
    rw [HV.out]
    exact ⟨rfl, rfl⟩
  · have hz := h.2.1
    have hstart : ds = [] ∨ ∃ b off z, a = some ⟨b, off, none⟩ ∧ w.cell? ⟨b, off, none⟩ = some (.int .u8 z) ∧ (z == 0) = false ∧ 0 < ds.length := by
      cases ds with
      | nil => exact Or.inl rfl
      | cons x tl =>
        obtain ⟨b, off, rfl, hb, hc, _⟩ := h.get 0 (by simp)
        exact Or.inr ⟨b, off, x, rfl, by simpa using hc, by simpa using hh, by simp⟩
    have hval := val_bound ds hz
    rcases hstart with rfl | ⟨b, off, z0, rfl, hc0, hne, hpos⟩
    · go_enter Try.func63, Try.ntmps63
      go_wp2
      refine wp_loop_rounds 1 ?_
      rw [rounds_succ]
      go_wp2
      go_ret2
      exact ⟨rfl, rfl⟩
    · have hp : (0 : Int) < (ds.length : Int) := by omega
      have hc : ∀ j, j < ds.length → w.cell? ⟨b, off + j, none⟩ = some (.int .u8 (ds.getD j 0)) := by
        obtain ⟨_, _, hd | ⟨b', off', hx, _, hc⟩⟩ := h
        · rw [hd] at hpos; simp at hpos
        · simp only [Option.some.injEq, Addr.mk.injEq] at hx
          obtain ⟨rfl, rfl, _⟩ := hx
          exact hc
      have HC : Hid (∀ j, j < ds.length → w.cell? ⟨b, off + j, none⟩ = some (.int .u8 (ds.getD j 0))) := hc
      have HR : Hid (valR ds = if 9223372036854775807 < val ds then (0, 11) else (val ds, 0)) := by show _ = _; simp [valR, hh]
      clear hc h hh
      go_enter Try.func63, Try.ntmps63
      go_wp2
      go_loop [4, 17] (fun n i => ∃ k : Nat, k ≤ ds.length ∧ i = .int .i64 k ∧ n = .int .u64 (val (ds.take k))) (fun _ i => ds.length - (intOf i).toNat)
      case atStart => exact ⟨0, by omega, rfl, rfl⟩
      case round =>
        obtain ⟨k, hk, rfl, rfl⟩ := hrel
        by_cases hlt : k < ds.length
        · obtain ⟨z, hcx, hz0, hz1, HV⟩ : ∃ z, w.cell? ⟨b, off + k, none⟩ = some (.int .u8 z) ∧ 0 ≤ z ∧ z < 256 ∧ Hid (val (ds.take (k + 1)) = val (ds.take k) * 256 + z) := by
            refine ⟨ds.getD k 0, HC.out k hlt, ?_, ?_, val_take ds k hlt⟩ <;> rw [List.getD_eq_getElem?_getD, List.getElem?_eq_getElem hlt]
            · exact (hz _ (List.getElem_mem hlt)).1
            · exact (hz _ (List.getElem_mem hlt)).2
          have hb7 : 0 ≤ val (ds.take k) ∧ val (ds.take k) < 72057594037927936 := by
            have := val_bound (ds.take k) (fun z hz' => hz z (List.mem_of_mem_take hz'))
            rw [List.length_take_of_le (by omega)] at this
            have h7 : 256 ^ k ≤ 72057594037927936 := Nat.le_trans (Nat.pow_le_pow_right (by omega) (show k ≤ 7 by omega)) (by decide)
            have e7 : ((256 ^ k : Nat) : Int) = (256 : Int) ^ k := Int.natCast_pow 256 k
            rw [← e7] at this
            omega
          obtain ⟨hx0, hx1⟩ := hb7
          have ej := or_join (val (ds.take k)) z hx0 hx1 hz0 hz1
          generalize val (ds.take k) = X at *
          go_wp2
          go_round
          case rel => exact ⟨k + 1, by omega, by go_num, by rw [HV.out]⟩
          case measure => simp [intOf]; omega
        · obtain rfl : k = ds.length := by omega
          rw [List.take_length]
          by_cases hbig : 9223372036854775807 < val ds
          · go_wp2
            go_ret2
            rw [HR.out, if_pos hbig]
            exact ⟨rfl, rfl⟩
          · go_wp2
            go_ret2
            rw [HR.out, if_neg (by omega)]
            exact ⟨rfl, rfl⟩
end Go.Proofs.Ytnjlamcpfclgaaa.Ty
