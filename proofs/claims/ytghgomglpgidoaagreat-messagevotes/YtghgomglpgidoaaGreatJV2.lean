/- Rows of the call's own: bytes, parts; slices that came in.; math/bits.Len64, by its contract.; Plain mathematics of numbers as bytes: how many bytes a number has, its digits to the base 256, the highest first, and back. Imports nothing of the translation.; tally.width and Size.; tally.roomBehind and Put.; tally.PutText.; The document's own Put, PutText, Size of layer 1.; A region that draws its order, walked one way under a condition that every operation keeps: what yields one value wherever the condition holds may be taken first; what makes memory, writes or calls comes up alone.; message: numbers within bounds; votes; append(dst, src...) where dst is a row of the call's own (or nil) and src is whatever yields cells (a slice with an address, a nil slice, an empty slice, a string): one law, over any program. -/
import Derived.Test.YtghgomglpgidoaaGreatJV1
import Derived.OwnWalk
import Derived.WalkKit
import Derived.WalkSpells
import Derived.Lib.BitFns
import Derived.Lib.Small
import Derived.Lib.Walk
import Derived.Deep.RegionHeld3
namespace Go.Proofs.YtghgomglpgidoaaGreat
open Go.RowKit
open Sha
theorem info8 : (Tryz.prog.info? 5).map (fun i => (i.zero, i.size, i.bytes)) = some (some (.int .u8 0), 1, 1) := by kernel_rfl
theorem infoP : (Tryz.prog.info? 62).map (fun i => (i.zero, i.size, i.bytes)) = some (some (.slice none 0 0), 1, 24) := by kernel_rfl
theorem info_parts {e : TypeId} {z : Value} {s b : Nat} (h : (Tryz.prog.info? e).map (fun i => (i.zero, i.size, i.bytes)) = some (some z, s, b)) : ∃ i, Tryz.prog.info? e = some i ∧ i.zero = some z ∧ i.size = s ∧ i.bytes = b := by
  cases hq : Tryz.prog.info? e with
  | none => rw [hq] at h; cases h
  | some i =>
    rw [hq] at h
    simp only [Option.map_some, Option.some.injEq, Prod.mk.injEq] at h
    exact ⟨i, rfl, h.1, h.2.1, h.2.2⟩
theorem below_grown {B : Nat} {w w1 w2 : World} {e : TypeId} {v : Value} {n : Nat} {xs : List Value} (hb : Below B w w1) (hB : B ≤ w1.heap.size) (ho : w1.ownsRow B e 1 v n xs) (hg : w1.grownBy w2 v.ownBlock) : Below B w w2 :=
  hb.grown hg hB (fun k hk => (ho.lt k hk).1)
theorem owns_below {w w' : World} {B : Nat} {e : TypeId} {v : Value} {n : Nat} {xs : List Value} (h : w.ownsRow B e 1 v n xs) (hb : Below w.heap.size w w') : w'.ownsRow B e 1 v n xs := by
  refine ⟨h.1, ?_⟩
  rcases h.2 with h | ⟨g, cap, cur, hv, hg, hh, r⟩
  · exact .inl h
  · exact .inr ⟨g, cap, cur, hv, hg, by rw [hb.block g (Array.getElem?_eq_some_iff.1 hh).1]; exact hh, r⟩
/-- where a row of one's own lies -/
theorem own_range {w : World} {B : Nat} {e : TypeId} {v : Value} {n : Nat} {xs : List Value} (h : w.ownsRow B e 1 v n xs) :
    (v = .slice none 0 0 ∧ n = 0 ∧ xs = []) ∨ ∃ g cap, v = .slice (some ⟨g, 0, none⟩) n cap ∧ B ≤ g ∧ g < w.heap.size ∧ n ≤ cap ∧ cap ≤ maxLen ∧ w.rangeAt g 0 xs := by
  have hl := h.1
  rcases h.2 with ⟨rfl, h0⟩ | ⟨g, cap, cur, rfl, hb, hg, hn, hcm, hcs, ht⟩
  · left
    refine ⟨rfl, h0, List.eq_nil_of_length_eq_zero (by rw [hl, h0])⟩
  · right
    refine ⟨g, cap, rfl, hb, (Array.getElem?_eq_some_iff.1 hg).1, hn, hcm, fun j u hu => ?_⟩
    have := h.cells (g := g) rfl j u hu
    rwa [Addr.add_mid] at this
theorem own_bytes {w : World} {B : Nat} {v : Value} {zs : List Int} (h : w.ownsRow B 5 1 v zs.length (v8 zs)) (hz : ∀ z ∈ zs, 0 ≤ z ∧ z < 256) (hm : zs.length ≤ maxLen) :
    ∃ a cap, v = .slice a zs.length cap ∧ zs.length ≤ cap ∧ cap ≤ maxLen ∧ RowAt w a zs := by
  rcases own_range h with ⟨rfl, h0, _⟩ | ⟨g, cap, rfl, hb, hg, hn, hcm, hr⟩
  · have : zs = [] := List.eq_nil_of_length_eq_zero h0
    subst this
    exact ⟨none, 0, rfl, by simp, by unfold maxLen; omega, hm, hz, Or.inl rfl⟩
  · exact ⟨_, cap, rfl, hn, hcm, hm, hz, Or.inr ⟨g, 0, rfl, hg, hr⟩⟩
theorem own_parts {w : World} {B : Nat} {v : Value} {ps : List Part} (h : w.ownsRow B 62 1 v ps.length (ps.map Part.val)) (hp : ∀ p ∈ ps, p.at w) (hm : ps.length ≤ maxLen) :
    ∃ a cap, v = .slice a ps.length cap ∧ PartsAt w a ps := by
  rcases own_range h with ⟨rfl, h0, _⟩ | ⟨g, cap, rfl, hb, hg, hn, hcm, hr⟩
  · have : ps = [] := List.eq_nil_of_length_eq_zero h0
    subst this
    exact ⟨none, 0, rfl, hm, hp, Or.inl rfl⟩
  · exact ⟨_, cap, rfl, hm, hp, Or.inr ⟨g, 0, rfl, hg, hr⟩⟩
/-- a slice of bytes as what is appended -/
theorem RowAt.src {w : World} {a : Option Addr} {zs : List Int} (h : RowAt w a zs) (cap : Nat) : Src Tryz.prog 1 62 (.slice a zs.length cap) zs.length (v8 zs) w := by
  cases a with
  | none =>
    have : zs = [] := by
      rcases h.2.2 with q | ⟨b, off, hx, _⟩
      · exact q
      · cases hx
    subst this
    exact Src.ofNil w Tryz.underlying62 cap
  | some x =>
    refine Src.ofSlice w Tryz.underlying62 x zs.length cap _ (by simp) (fun j u hu => ?_) (v8_one _)
    rcases h.2.2 with rfl | ⟨b, off, hx, _, hr⟩
    · simp [v8] at hu
    · cases hx
      rw [Addr.add_mid]
      exact hr j u hu
/-- A slice of integers that came in. -/
def IsRow (k : IntKind) (w : World) (a : Option Addr) (len cap : Nat) (zs : List Int) : Prop :=
  (a = none ∧ len = 0 ∧ cap = 0 ∧ zs = []) ∨
  ∃ x, a = some x ∧ len ≤ cap ∧ cap ≤ maxLen ∧ zs.length = cap ∧ (∀ i, i < zs.length → w.cell? (x.add i) = some (.int k (zs.getD i 0))) ∧ ∀ n ∈ zs, (Lit.int k n).wf = true
theorem IsRow.cells {k : IntKind} {w : World} {a : Option Addr} {len cap : Nat} {zs : List Int} (h : IsRow k w a len cap zs) :
    len ≤ cap ∧ cap ≤ maxLen ∧ (zs.take len).length = len ∧ (∀ z ∈ zs.take len, (Lit.int k z).wf = true) ∧ (zs.take len = [] ∨ ∃ b off, a = some ⟨b, off, none⟩ ∧ b < w.heap.size ∧ w.rangeAt b off ((zs.take len).map (Value.int k))) := by
  rcases h with ⟨rfl, rfl, rfl, rfl⟩ | ⟨x, rfl, hl, hm, hz, hcell, hwz⟩
  · simp
  · refine ⟨hl, hm, by rw [List.length_take]; omega, fun z hz => hwz z (List.mem_of_mem_take hz), ?_⟩
    by_cases h0 : len = 0
    · left; simp [h0]
    · right
      obtain ⟨b, off, spot⟩ := x
      have hc := hcell 0 (by omega)
      have hspot : spot = none := by simpa [Addr.add] using World.cell?_spot hc
      subst hspot
      refine ⟨b, off, rfl, ?_, fun j v hv => ?_⟩
      · have := World.block_lt_of_cell? w _ hc; simpa [Addr.add] using this
      · have hj : j < (zs.take len).length := by
          have := (List.getElem?_eq_some_iff.1 hv).1
          simpa using this
        rw [List.length_take] at hj
        have hcj := hcell j (by omega)
        rw [Addr.add_mid] at hcj
        rw [hcj, ← hv]
        have hjz : j < zs.length := by omega
        simp only [List.getElem?_map, List.getElem?_take]
        rw [if_pos (by omega), List.getElem?_eq_getElem hjz, List.getD_eq_getElem?_getD, List.getElem?_eq_getElem hjz]
        rfl
theorem IsRow.rowAt {w : World} {a : Option Addr} {len cap : Nat} {zs : List Int} (h : IsRow .u8 w a len cap zs) : ∃ ys : List Int, len = ys.length ∧ len ≤ cap ∧ cap ≤ maxLen ∧ RowAt w a ys := by
  obtain ⟨h1, h2, h3, h4, h5⟩ := h.cells
  refine ⟨zs.take len, h3.symm, h1, h2, by omega, fun z hz => ?_, h5⟩
  have := h4 z hz
  simp [Lit.wf, IntKind.min, IntKind.max, IntKind.signed, IntKind.bits] at this
  omega
/-- a slice of ints -/
def RowI (w : World) (a : Option Addr) (zs : List Int) : Prop :=
  zs.length ≤ maxLen ∧ (∀ z ∈ zs, (Lit.int .i64 z).wf = true) ∧ (zs = [] ∨ ∃ b off, a = some ⟨b, off, none⟩ ∧ b < w.heap.size ∧ w.rangeAt b off (zs.map (Value.int .i64)))
theorem IsRow.rowI {w : World} {a : Option Addr} {len cap : Nat} {zs : List Int} (h : IsRow .i64 w a len cap zs) : ∃ ys : List Int, len = ys.length ∧ len ≤ cap ∧ cap ≤ maxLen ∧ RowI w a ys := by
  obtain ⟨h1, h2, h3, h4, h5⟩ := h.cells
  exact ⟨zs.take len, h3.symm, h1, h2, by omega, h4, h5⟩
end Go.Proofs.YtghgomglpgidoaaGreat
namespace Go.Proofs.YtghgomglpgidoaaGreat
open Go.RowKit
/-- what is left of x behind s bits, a byte of it at most: the bits of x are s more -/
theorem len_arm (x s : Nat) (y : Int) (hx : x < 2 ^ 63) (hy0 : 0 ≤ y) (hy1 : y ≤ 255) (hy : y.toNat = x / 2 ^ s) (h : s = 0 ∨ 2 ^ s ≤ x) :
    Lib.len8 y = (Lib.bitLen x : Int) - s ∧ (Lib.bitLen x : Int) - s ≤ 8 ∧ 0 ≤ (Lib.bitLen x : Int) - s := by
  have e : Lib.bitLen x = s + Lib.bitLen (x / 2 ^ s) := by
    rcases h with rfl | h
    · simp
    · exact Lib.bitLen_shift s x h (by omega)
  have l := Lib.bitLen_le8' y hy0 hy1
  rw [Lib.len8_of y hy0 hy1, hy]
  rw [hy] at l
  omega
/-- an index into the table of math/bits, however its text lies in the program -/
theorem wpList_index_len8 {P : Program} {w : World} {ops : Array Oper} {rest : List Oper} {o : Oper} {a : Act} {Q : Exit → Act → World → Prop} (hgd : o.guard = none) (t : TypeId) (tbl : ByteArray) (x : Operand)
    (ho : o.op = .index t (.const (.string tbl)) x) (ht : P.underlying t = some .string) (htbl : tbl = Lib.len8tab) (k : IntKind) (i : Int) (hx : a.eval x = .int k i) (h0 : 0 ≤ i) (h1 : i ≤ 255)
    (h : wpList P ops Q rest (a.put o.dst (.int .u8 (Lib.len8 i))) w) : wpList P ops Q (o :: rest) a w := by
  subst htbl
  refine wpList_plain hgd fun K hK => ?_
  have hr := Lib.run_index_len8tab (P := P) w t k i ht h0 h1
  have hc : a.eval (.const (.string Lib.len8tab)) = .string Lib.len8tab := rfl
  unfold Oper.wp execOp
  simp only [ho, Sem.run_bind, hc, hx, hr, Result.andThen_ok, Sem.run_pure]
  exact hK _ _ h
theorem fold_tab (a b c d : List UInt8) (h : ByteArray.mk ((a.append b).append (c.append d)).toArray = Lib.len8tab) : ByteArray.mk ((a.append b).append (c.append d)).toArray = Lib.len8tab := h
set_option maxHeartbeats 4000000 in
set_option maxRecDepth 100000 in
theorem len64_int (x : Int) (w : World) (h0 : 0 ≤ x) (h1 : x ≤ 9223372036854775807) :
    Calls Tryz.prog 143 #[.int .u64 x] w fun e w' => e = .returned (.int .i64 (Lib.bitLen x.toNat)) ∧ w' = w := by
  go_enter Tryz.func143, Tryz.ntmps143
  rw [fold_tab _ _ _ _ (by kernel_rfl)]
  go_wp2_with (refine wpList_index_len8 rfl 9 Lib.len8tab _ rfl Tryz.underlying9 rfl .u8 _ rfl ?_ ?_ ?_; (omega); (omega))
  all_goals (go_ret; refine ⟨congrArg Ending.returned (congrArg (Value.int IntKind.i64) ?_), rfl⟩)
  all_goals first
    | (obtain ⟨e, l, m⟩ := len_arm x.toNat 56 (x / 4294967296 / 65536 / 256) (by omega) (by omega) (by omega) (by omega) (by omega); rw [e]; simp only [wrap64]; omega)
    | (obtain ⟨e, l, m⟩ := len_arm x.toNat 48 (x / 4294967296 / 65536) (by omega) (by omega) (by omega) (by omega) (by omega); rw [e]; simp only [wrap64]; omega)
    | (obtain ⟨e, l, m⟩ := len_arm x.toNat 40 (x / 4294967296 / 256) (by omega) (by omega) (by omega) (by omega) (by omega); rw [e]; simp only [wrap64]; omega)
    | (obtain ⟨e, l, m⟩ := len_arm x.toNat 32 (x / 4294967296) (by omega) (by omega) (by omega) (by omega) (by omega); rw [e]; simp only [wrap64]; omega)
    | (obtain ⟨e, l, m⟩ := len_arm x.toNat 24 (x / 65536 / 256) (by omega) (by omega) (by omega) (by omega) (by omega); rw [e]; simp only [wrap64]; omega)
    | (obtain ⟨e, l, m⟩ := len_arm x.toNat 16 (x / 65536) (by omega) (by omega) (by omega) (by omega) (by omega); rw [e]; simp only [wrap64]; omega)
    | (obtain ⟨e, l, m⟩ := len_arm x.toNat 8 (x / 256) (by omega) (by omega) (by omega) (by omega) (by omega); rw [e]; simp only [wrap64]; omega)
    | (obtain ⟨e, l, m⟩ := len_arm x.toNat 0 (x) (by omega) (by omega) (by omega) (by omega) (by omega); rw [e]; simp only [wrap64]; omega)
end Go.Proofs.YtghgomglpgidoaaGreat
namespace Go.Proofs.YtghgomglpgidoaaGreat
namespace Tal
open Go

/-- how many bytes a number has -/
def wid (n : Nat) : Nat := (Lib.bitLen n + 7) / 8
/-- the lowest k digits, the highest of them first -/
def digK : Nat → Nat → List Int
  | 0, _ => []
  | k + 1, n => digK k (n / 256) ++ [((n % 256 : Nat) : Int)]
def digs (n : Nat) : List Int := digK (wid n) n
/-- a number's bytes -/
def numB (n : Nat) : List Int := (wid n : Int) :: digs n
/-- what Put lays behind -/
def putL (n : Int) : List Int := if n < 0 then [] else numB n.toNat

theorem wid_zero : wid 0 = 0 := by decide
theorem wid_succ (n : Nat) (h0 : 0 < n) (h : n < 2 ^ 63) : wid n = wid (n / 256) + 1 := by
  unfold wid
  by_cases h2 : 256 ≤ n
  · rw [Lib.bitLen_shift8 n h2 (by omega)]; omega
  · have e : n / 256 = 0 := by omega
    have h3 := Lib.bitLen_half n (by omega) (by omega)
    have h4 := Lib.bitLen_le8 ⟨n, by omega⟩
    simp only at h4
    rw [e]
    have : Lib.bitLen 0 = 0 := by decide
    rw [this]
    omega
theorem wid_bounds : ∀ (k n : Nat), n < 2 ^ 63 → n < 256 ^ k → wid n ≤ k ∧ n < 256 ^ wid n ∧ (0 < n → 0 < wid n ∧ 256 ^ (wid n - 1) ≤ n)
  | 0, n, _, h => by
    have : n = 0 := by simpa using h
    subst this
    rw [wid_zero]; simp
  | k + 1, n, hn, h => by
    by_cases h0 : n = 0
    · subst h0; rw [wid_zero]; simp
    · have hs := wid_succ n (by omega) hn
      obtain ⟨a, b, c⟩ := wid_bounds k (n / 256) (by omega) (by rw [Nat.pow_succ] at h; omega)
      rw [hs]
      refine ⟨by omega, by rw [Nat.pow_succ]; omega, fun _ => ⟨by omega, ?_⟩⟩
      rw [Nat.add_sub_cancel]
      by_cases h1 : n / 256 = 0
      · rw [h1, wid_zero]; simp; omega
      · obtain ⟨c1, c2⟩ := c (by omega)
        have : wid (n / 256) = wid (n / 256) - 1 + 1 := by omega
        rw [this, Nat.pow_succ]
        omega
theorem wid_le (n : Nat) (h : n < 2 ^ 63) : wid n ≤ 8 := (wid_bounds 8 n h (by omega)).1

theorem digK_length : ∀ k n, (digK k n).length = k
  | 0, _ => rfl
  | k + 1, n => by simp [digK, digK_length k]
theorem digK_byte : ∀ k n, ∀ z ∈ digK k n, 0 ≤ z ∧ z < 256
  | 0, _, z, h => by simp [digK] at h
  | k + 1, n, z, h => by
    simp only [digK, List.mem_append, List.mem_singleton] at h
    rcases h with h | rfl
    · exact digK_byte k _ z h
    · omega
theorem digK_get : ∀ k n i, i < k → (digK k n).getD i 0 = ((n / 256 ^ (k - 1 - i) % 256 : Nat) : Int)
  | 0, _, _, h => by omega
  | k + 1, n, i, h => by
    simp only [digK, List.getD_eq_getElem?_getD]
    by_cases hi : i < k
    · rw [List.getElem?_append_left (by rw [digK_length]; exact hi), ← List.getD_eq_getElem?_getD, digK_get k (n / 256) i hi, Nat.div_div_eq_div_mul]
      have e : k + 1 - 1 - i = (k - 1 - i) + 1 := by omega
      rw [e, Nat.pow_succ, Nat.mul_comm]
    · have e : i = k := by omega
      subst e
      rw [List.getElem?_append_right (by rw [digK_length]; exact Nat.le_refl _), digK_length]
      simp
theorem digs_zero : digs 0 = [] := by unfold digs; rw [wid_zero]; rfl
theorem digs_succ (n : Nat) (h0 : 0 < n) (h : n < 2 ^ 63) : digs n = digs (n / 256) ++ [((n % 256 : Nat) : Int)] := by
  unfold digs
  rw [wid_succ n h0 h]; rfl
theorem digs_length (n : Nat) : (digs n).length = wid n := digK_length _ _
theorem digs_byte (n : Nat) : ∀ z ∈ digs n, 0 ≤ z ∧ z < 256 := digK_byte _ _
theorem putL_byte (n : Int) (h : n < 2 ^ 63) : ∀ z ∈ putL n, 0 ≤ z ∧ z < 256 := by
  intro z hz
  unfold putL at hz
  split at hz
  · simp at hz
  · simp only [numB, List.mem_cons] at hz
    rcases hz with rfl | hz
    · have := wid_le n.toNat (by omega); omega
    · exact digs_byte _ z hz
theorem putL_length (n : Int) (h : n < 2 ^ 63) : (putL n).length ≤ 9 := by
  unfold putL
  split
  · simp
  · simp only [numB, List.length_cons, digs_length]
    have := wid_le n.toNat (by omega); omega

/-- back -/
def val (l : List Int) : Int := l.foldl (fun a d => a * 256 + d) 0
theorem val_snoc (l : List Int) (d : Int) : val (l ++ [d]) = val l * 256 + d := by simp [val, List.foldl_append]
theorem val_digK : ∀ k n, val (digK k n) = ((n % 256 ^ k : Nat) : Int)
  | 0, n => by simp [digK, val, Nat.mod_one]
  | k + 1, n => by
    rw [digK, val_snoc, val_digK k (n / 256), Nat.pow_succ, Nat.mul_comm (256 ^ k) 256, Nat.mod_mul]
    omega
theorem val_digs (n : Nat) (h : n < 2 ^ 63) : val (digs n) = n := by
  unfold digs
  rw [val_digK, Nat.mod_eq_of_lt (wid_bounds 8 n h (by omega)).2.1]
end Tal
end Go.Proofs.YtghgomglpgidoaaGreat
namespace Go.Proofs.YtghgomglpgidoaaGreat
open Go.RowKit
open Tal
theorem bitLen_le64 (x : Nat) (h : x < 2 ^ 63) : Lib.bitLen x ≤ 64 := by
  have := wid_le x h; unfold wid at this; omega
set_option maxRecDepth 20000 in
set_option maxHeartbeats 400000 in
theorem width_any (n : Int) (w : World) (h0 : 0 ≤ n) (h1 : n ≤ 9223372036854775807) :
    Calls Tryz.prog 138 #[.int .i64 n] w fun e w' => e = .returned (.int .i64 (wid n.toNat)) ∧ w' = w := by
  have hl := bitLen_le64 n.toNat (by omega)
  have HW : Hid ((wid n.toNat : Int) = ((Lib.bitLen n.toNat : Int) + 7) / 8) := by show _ = _; unfold wid; omega
  go_enter Tryz.func138, Tryz.ntmps138
  go_wp2_with fail
  refine (len64_int n _ h0 h1).mono ?_
  rintro e w1 ⟨rfl, rfl⟩
  go_wp2
  go_ret
  rw [HW.out]
  exact ⟨rfl, rfl⟩
set_option maxRecDepth 20000 in
set_option maxHeartbeats 400000 in
theorem size_any (n : Int) (w : World) (h1 : n ≤ 9223372036854775807) :
    Calls Tryz.prog 137 #[.int .i64 n] w fun e w' => e = .returned (.int .i64 ((putL n).length : Int)) ∧ w' = w := by
  by_cases h0 : n < 0
  · have HP : Hid (putL n = []) := by show _ = _; simp [putL, h0]
    go_enter Tryz.func137, Tryz.ntmps137
    go_wp2
    go_ret
    rw [HP.out]
    exact ⟨rfl, rfl⟩
  · have hw := wid_le n.toNat (by omega)
    have HP : Hid (((putL n).length : Int) = 1 + (wid n.toNat : Int)) := by show _ = _; simp only [putL, if_neg h0, numB, List.length_cons, digs_length]; omega
    go_enter Tryz.func137, Tryz.ntmps137
    go_wp2_with fail
    refine (width_any n _ (by omega) h1).mono ?_
    rintro e w1 ⟨rfl, rfl⟩
    go_wp2
    go_ret
    rw [HP.out]
    exact ⟨rfl, rfl⟩
end Go.Proofs.YtghgomglpgidoaaGreat
namespace Go.Proofs.YtghgomglpgidoaaGreat
open Go.RowKit
open Tal
/-- bytes of the call's own, from block B on -/
def Mine (w : World) (B : Nat) (v : Value) (zs : List Int) : Prop := w.ownsRow B 5 1 v zs.length (zs.map (Value.int .u8)) ∧ ∀ z ∈ zs, 0 ≤ z ∧ z < 256
theorem Mine.below {w w' : World} {B : Nat} {v : Value} {zs : List Int} (h : Mine w B v zs) (hb : Below w.heap.size w w') : Mine w' B v zs := by
  refine ⟨⟨h.1.1, ?_⟩, h.2⟩
  rcases h.1.2 with h | ⟨g, cap, cur, hv, hg, hh, r⟩
  · exact .inl h
  · exact .inr ⟨g, cap, cur, hv, hg, by rw [hb.block g (Array.getElem?_eq_some_iff.1 hh).1]; exact hh, r⟩
theorem Mine.rowAt {w : World} {B : Nat} {v : Value} {zs : List Int} (h : Mine w B v zs) (hm : zs.length ≤ maxLen) : ∃ a cap, v = .slice a zs.length cap ∧ zs.length ≤ cap ∧ cap ≤ maxLen ∧ RowAt w a zs :=
  own_bytes h.1 h.2 hm

set_option maxRecDepth 20000 in
set_option maxHeartbeats 800000 in
theorem room_any (a : Option Addr) (cap : Nat) (zs : List Int) (more : Nat) (w : World) (h : RowAt w a zs) (hm : zs.length + more ≤ 1099511627776) :
    Calls Tryz.prog 136 #[.slice a zs.length cap, .int .i64 (more : Int)] w fun e w' => ∃ v, e = .returned v ∧ Mine w' w.heap.size v zs ∧ Below w.heap.size w w' := by
  obtain ⟨i0, hi, hz0, hz1, hz2⟩ := info_parts info8
  go_enter Tryz.func136, Tryz.ntmps136
  go_wp2_with (first
    | refine wpList_make_own _ rfl _ _ 62 rfl w.heap.size 5 i0 (.int .u8 0) 1 Tryz.underlying62 hi hz0 hz1 .i64 .i64 _ (zs.length + more) rfl rfl ?d1 ?d2 ?d3 ?d4 ?_)
  case d1 => omega
  case d2 => rw [hz2]; omega
  case d3 => unfold maxLen; omega
  case d4 => exact Nat.le_refl _
  intro w1 hown hgrow
  have hb1 : Below w.heap.size w w1 := (Below.refl _ _).grown hgrow (Nat.le_refl _) (fun k hk => by cases hk)
  go_wp2_with (at_builtin; refine wpList_append_own_src _ rfl _ _ 62 62 rfl w.heap.size 5 i0 (.int .u8 0) 1 1 Tryz.underlying62 hi hz0 hz1 hz2 rfl _ 0 [] rfl hown (.slice a zs.length cap) zs.length (zs.map (Value.int .u8)) rfl ((h.below hb1).src cap) ?c1 ?c2 ?c3 ?_)
  case c1 => unfold maxLen; omega
  case c2 => omega
  case c3 => exact hb1.size
  intro v' w2 hown2 hgrow2
  have hb2 := below_grown hb1 hb1.size hown hgrow2
  go_wp2
  go_ret
  exact ⟨_, rfl, ⟨by simpa using hown2, h.2.1⟩, hb2⟩

theorem Mine.mk' {w : World} {B m : Nat} {v : Value} {xs : List Value} (L : List Int) (h : w.ownsRow B 5 1 v m xs) (hm : m = L.length) (hx : xs = L.map (Value.int .u8)) (hb : ∀ z ∈ L, 0 ≤ z ∧ z < 256) : Mine w B v L := by
  subst hm; subst hx; exact ⟨h, hb⟩
theorem dig_shift (n : Int) (K k : Nat) (h0 : 0 ≤ n) (hK : wid n.toNat = K) (hk : k < K) : n / 2 ^ (8 * (K - 1 - k)) % 256 = (digs n.toNat).getD k 0 := by
  unfold digs
  rw [hK, digK_get K n.toNat k hk]
  obtain ⟨m, rfl⟩ := Int.eq_ofNat_of_zero_le h0
  simp only [Int.toNat_natCast]
  have e : ((2 : Int) ^ (8 * (K - 1 - k))) = ((256 ^ (K - 1 - k) : Nat) : Int) := by
    rw [Int.natCast_pow, Int.pow_mul]; rfl
  rw [e, Int.natCast_emod, Int.natCast_ediv]
  rfl
theorem b1_src (w : World) (b : Int) : Src Tryz.prog 1 62 (.slice (some ⟨w.heap.size, 0, none⟩) 1 1) 1 [.int .u8 b] (w.alloc (.cells #[.int .u8 b] 5)) := by
  refine Src.ofSlice _ Tryz.underlying62 ⟨w.heap.size, 0, none⟩ 1 1 [.int .u8 b] rfl (fun j u hu => ?_) (fun u hu => ?_)
  · match j, hu with
    | 0, hu =>
      simp at hu; subst hu
      show (w.alloc (.cells #[.int .u8 b] 5)).cell? ⟨w.heap.size, 0, none⟩ = _
      rw [World.cell?_alloc_at _ _ _ _ rfl]; rfl
  · simp at hu; subst hu; rfl

set_option maxRecDepth 20000 in
set_option maxHeartbeats 800000 in
theorem put_any (a : Option Addr) (cap : Nat) (zs : List Int) (n : Int) (w : World) (h : RowAt w a zs) (hm : zs.length ≤ 549755813888) (hn : n ≤ 9223372036854775807) :
    Calls Tryz.prog 106 #[.slice a zs.length cap, .int .i64 n] w fun e w' => ∃ v, e = .returned v ∧ Mine w' w.heap.size v (zs ++ putL n) ∧ Below w.heap.size w w' := by
  obtain ⟨i0, hi, hz0, hz1, hz2⟩ := info_parts info8
  have hpl := putL_length n (by omega)
  by_cases h0 : n < 0
  · have HP : Hid (putL n = []) := by show _ = _; simp [putL, h0]
    go_enter Tryz.func106, Tryz.ntmps106
    go_wp2_with fail
    refine (size_any n _ hn).mono ?_
    rintro e w1 ⟨rfl, rfl⟩
    go_wp2_with fail
    refine (room_any a cap zs _ w1 h (by omega)).mono ?_
    rintro e w2 ⟨v, rfl, hmine, hb⟩
    go_wp2
    go_ret
    rw [HP.out, List.append_nil]
    exact ⟨_, rfl, hmine, hb⟩
  · have hw := wid_le n.toNat (by omega)
    have HP : Hid (putL n = (wid n.toNat : Int) :: digs n.toNat) := by show _ = _; simp [putL, h0, numB]
    go_enter Tryz.func106, Tryz.ntmps106
    go_wp2_with fail
    refine (size_any n _ hn).mono ?_
    rintro e w1 ⟨rfl, rfl⟩
    go_wp2_with fail
    refine (room_any a cap zs _ w1 h (by omega)).mono ?_
    rintro e w2 ⟨v, rfl, hmine, hb⟩
    clear hpl
    go_wp2_with fail
    refine (width_any n _ (by omega) hn).mono ?_
    rintro e w3 ⟨rfl, rfl⟩
    generalize hK : wid n.toNat = K at hw HP
    go_wp2_with (at_builtin; refine wpList_append_own_src _ rfl _ _ 62 62 rfl w1.heap.size 5 i0 (.int .u8 0) 1 1 Tryz.underlying62 hi hz0 hz1 hz2 rfl _ zs.length _ rfl (hmine.1.alloc _) _ 1 _ rfl (b1_src _ _) ?c1 ?c2 ?c3 ?_)
    case c1 => unfold maxLen; omega
    case c2 => omega
    case c3 => have := hb.size; simp; omega
    intro v2 w4 hown2 hgrow2
    have HK : Hid (wid n.toNat = K) := hK
    have hb4 : Below w1.heap.size w1 w4 := below_grown (hb.alloc hb.size _) (by have := hb.size; simp; omega) (hmine.1.alloc (.cells #[.int .u8 (K : Int)] 5)) hgrow2
    have hM4 : Mine w4 w1.heap.size v2 (zs ++ (K : Int) :: (digs n.toNat).take 0) := by
      refine ⟨by simpa using hown2, fun z hz => ?_⟩
      simp only [List.take_zero, List.mem_append, List.mem_singleton] at hz
      rcases hz with hz | rfl
      · exact hmine.2 z hz
      · omega
    clear hown2 hgrow2 hmine hK
    go_wp2_with fail
    go_loopw [5, 23] (fun o i wr => ∃ k : Nat, k ≤ K ∧ i = .int .i64 k ∧ Mine wr w1.heap.size o (zs ++ (K : Int) :: (digs n.toNat).take k) ∧ Below w1.heap.size w1 wr) (fun _ i _ => K - (intOf i).toNat)
    case atStart => exact ⟨0, by omega, rfl, hM4, hb4⟩
    case round =>
      obtain ⟨k, hk, rfl, hmi, hbr⟩ := hrel
      by_cases hlt : k < K
      · go_wp2_with (at_builtin; refine wpList_append_own_src _ rfl _ _ 62 62 rfl w1.heap.size 5 i0 (.int .u8 0) 1 1 Tryz.underlying62 hi hz0 hz1 hz2 rfl _ _ _ rfl (hmi.1.alloc _) _ 1 _ rfl (b1_src _ _) ?c1 ?c2 ?c3 ?_)
        case c1 => simp only [List.length_append, List.length_cons, List.length_take, digs_length]; unfold maxLen; omega
        case c2 => simp only [List.length_append, List.length_cons, List.length_take, digs_length]; omega
        case c3 => have := hbr.size; simp; omega
        intro v5 w5 hown5 hgrow5
        have hb5 : Below w1.heap.size w1 w5 := below_grown (hbr.alloc hbr.size _) (by have := hbr.size; simp; omega) (hmi.1.alloc (.cells #[.int .u8 (n / 2 ^ (8 * (K - 1 - k)) % 256)] 5)) hgrow5
        have hM5 : Mine w5 w1.heap.size v5 (zs ++ (K : Int) :: (digs n.toNat).take (k + 1)) := by
          have hkd : k < (digs n.toNat).length := by rw [digs_length, HK.out]; exact hlt
          have ed := dig_shift n K k h0 HK.out hlt
          have et : (digs n.toNat).take (k + 1) = (digs n.toNat).take k ++ [n / 2 ^ (8 * (K - 1 - k)) % 256] := by
            rw [ed, List.take_succ_eq_append_getElem hkd, List.getD_eq_getElem?_getD, List.getElem?_eq_getElem hkd]; rfl
          refine Mine.mk' _ hown5 ?_ ?_ (fun z hz => ?_)
          · simp only [List.length_append, List.length_cons, List.length_take]; omega
          · rw [et]; simp
          · simp only [List.mem_append, List.mem_cons] at hz
            rcases hz with hz | rfl | hz
            · exact h.2.1 z hz
            · omega
            · exact digs_byte _ z (List.mem_of_mem_take hz)
        clear hown5 hgrow5 hmi
        go_wp2_with fail
        go_roundw
        case rel => exact ⟨k + 1, by omega, by go_num, hM5, hb5⟩
        case measure => simp [intOf]; omega
      · obtain rfl : k = K := by omega
        have e : zs ++ putL n = zs ++ (k : Int) :: (digs n.toNat).take k := by
          rw [HP.out, List.take_of_length_le (by rw [digs_length, HK.out]; exact Nat.le_refl _)]
        go_wp2_with fail
        go_ret
        rw [e]
        exact ⟨_, rfl, hmi, hbr⟩
end Go.Proofs.YtghgomglpgidoaaGreat
namespace Go.Proofs.YtghgomglpgidoaaGreat
open Go.RowKit
open Tal
theorem nil_row (w : World) : RowAt w none [] := ⟨by simp, by simp, Or.inl rfl⟩
/-- a string's bytes as numbers -/
def strL (s : ByteArray) : List Int := s.data.toList.map fun b => (b.toNat : Int)
theorem strL_length (s : ByteArray) : (strL s).length = s.size := by unfold strL; rw [List.length_map, Array.length_toList]; rfl
theorem strL_byte (s : ByteArray) : ∀ z ∈ strL s, 0 ≤ z ∧ z < 256 := by
  intro z hz
  obtain ⟨b, _, rfl⟩ := List.mem_map.1 hz
  have := b.toNat_lt
  omega
theorem str_src (s : ByteArray) (w : World) : Src Tryz.prog 1 9 (.string s) s.size ((strL s).map (Value.int .u8)) w := by
  have := Src.ofString w (P := Tryz.prog) Tryz.underlying9 s
  have e : (strL s).map (Value.int .u8) = byteCells s := by unfold strL byteCells; rw [List.map_map]; rfl
  rw [e]; exact this
/-- what PutText lays behind -/
def textL (s : ByteArray) : List Int := putL s.size ++ strL s
set_option maxRecDepth 20000 in
set_option maxHeartbeats 800000 in
theorem putText_any (a : Option Addr) (cap : Nat) (zs : List Int) (s : ByteArray) (w : World) (h : RowAt w a zs) (hm : zs.length ≤ 1099511627) (hs : s.size ≤ 1099511627) :
    Calls Tryz.prog 111 #[.slice a zs.length cap, .string s] w fun e w' => ∃ v, e = .returned v ∧ Mine w' w.heap.size v (zs ++ textL s) ∧ Below w.heap.size w w' := by
  obtain ⟨i0, hi, hz0, hz1, hz2⟩ := info_parts info8
  have hpl := putL_length (s.size : Int) (by omega)
  have hpb := putL_byte (s.size : Int) (by omega)
  have cs := fun w => size_any (s.size : Int) w (by omega)
  have cp := fun w => put_any none 0 [] (s.size : Int) w (nil_row w) (by simp) (by omega)
  rw [List.nil_append] at cp
  have HT : Hid (textL s = putL s.size ++ strL s) := rfl
  have HSL : Hid ((strL s).length = s.size) := strL_length s
  generalize putL (s.size : Int) = ps at *
  go_enter Tryz.func111, Tryz.ntmps111
  go_wp2_with fail
  refine (cs _).mono ?_
  rintro e w1 ⟨rfl, rfl⟩
  have cr := room_any a cap zs (ps.length + s.size) w1 h (by omega)
  have ec : ((ps.length + s.size : Nat) : Int) = (ps.length : Int) + (s.size : Int) := by omega
  rw [ec] at cr
  clear ec
  go_wp2_with fail
  refine cr.mono ?_
  rintro e w2 ⟨v, rfl, hmine, hb⟩
  clear cr cs
  go_wp2_with fail
  refine (cp _).mono ?_
  rintro e w3 ⟨v3, rfl, hm3, hb3⟩
  clear cp
  obtain ⟨a3, cap3, rfl, hc31, hc32, hr3⟩ := hm3.rowAt (by unfold maxLen; omega)
  have hmine3 := hmine.below hb3
  have hb3' : Below w1.heap.size w1 w3 := hb.trans (hb3.mono hb.size)
  go_wp2_with (at_builtin; refine wpList_append_own_src _ rfl _ _ 62 62 rfl w1.heap.size 5 i0 (.int .u8 0) 1 1 Tryz.underlying62 hi hz0 hz1 hz2 rfl _ zs.length _ rfl hmine3.1 _ ps.length _ rfl (hr3.src cap3) ?c1 ?c2 ?c3 ?_)
  case c1 => unfold maxLen; omega
  case c2 => omega
  case c3 => exact hb3'.size
  intro v4 w4 hown4 hgrow4
  have hb4 := below_grown hb3' hb3'.size hmine3.1 hgrow4
  go_wp2_with (at_builtin; refine wpList_append_own_src _ rfl _ _ 62 9 rfl w1.heap.size 5 i0 (.int .u8 0) 1 1 Tryz.underlying62 hi hz0 hz1 hz2 rfl _ (zs.length + ps.length) _ rfl hown4 _ s.size _ rfl (str_src s _) ?e1 ?e2 ?e3 ?_)
  case e1 => unfold maxLen; omega
  case e2 => omega
  case e3 => exact hb4.size
  intro v5 w5 hown5 hgrow5
  have hb5 := below_grown hb4 hb4.size hown4 hgrow5
  have hM : Mine w5 w1.heap.size v5 (zs ++ textL s) := by
    rw [HT.out]
    refine Mine.mk' _ hown5 ?_ ?_ (fun z hz => ?_)
    · simp only [List.length_append, HSL.out]; omega
    · simp [v8]
    · simp only [List.mem_append] at hz
      rcases hz with hz | hz | hz
      · exact h.2.1 z hz
      · exact hpb z hz
      · exact strL_byte s z hz
  clear hown5 hgrow5 hown4 hgrow4
  go_wp2_with fail
  go_ret
  exact ⟨_, rfl, hM, hb5⟩
end Go.Proofs.YtghgomglpgidoaaGreat
namespace Go.Proofs.YtghgomglpgidoaaGreat
open Go.RowKit
open Tal
theorem own_one (w : World) (x : Value) (B : Nat) (hB : B ≤ w.heap.size) : (w.alloc (.cells #[x] 5)).ownsRow B 5 1 (.slice (some ⟨w.heap.size, 0, none⟩) 1 1) 1 [x] :=
  ⟨by simp, .inr ⟨w.heap.size, 1, #[x], rfl, hB, heap_alloc_new w _, Nat.le_refl _, by unfold maxLen; omega, by simp, by simp⟩⟩
set_option maxRecDepth 20000 in
set_option maxHeartbeats 800000 in
theorem digits_any (n : Int) (w : World) (h0 : 0 ≤ n) (h1 : n ≤ 9223372036854775807) :
    Calls Tryz.prog 112 #[.int .i64 n] w fun e w' => ∃ v, e = .returned v ∧ Mine w' w.heap.size v (digs n.toNat) ∧ Below w.heap.size w w' := by
  obtain ⟨i0, hi, hz0, hz1, hz2⟩ := info_parts info8
  have hwl := wid_le n.toNat (by omega)
  have HL : Hid ((digs n.toNat).length ≤ 8) := by show _ ≤ _; rw [digs_length]; exact hwl
  clear hwl
  go_enter Tryz.func112, Tryz.ntmps112
  go_wp2_with fail
  go_loopw [0, 3] (fun q o wr => ∃ (m : Int) (os : List Int), 0 ≤ m ∧ m ≤ 9223372036854775807 ∧ q = .int .i64 m ∧ Hid (digs n.toNat = digs m.toNat ++ os) ∧ Mine wr w.heap.size o os ∧ Below w.heap.size w wr) (fun q _ _ => (intOf q).toNat)
  case atStart => exact ⟨n, [], h0, h1, rfl, by show _ = _; simp, ⟨World.ownsRow_nil _ _ _ _, by simp⟩, Below.refl _ _⟩
  case round =>
    obtain ⟨m, os, hm0, hm1, rfl, hd, hmi, hbr⟩ := hrel
    have hol : os.length ≤ 8 := by
      have := congrArg List.length hd.out
      have := HL.out
      rw [List.length_append] at *
      omega
    obtain ⟨a, cap, rfl, _, _, hro⟩ := hmi.rowAt (by unfold maxLen; omega)
    by_cases hlt : 0 < m
    · have hr' := (hro.below ((Below.refl wr.heap.size wr).alloc (Nat.le_refl _) (.cells #[.int .u8 (m % 256)] 5))).src cap
      go_wp2_with (at_builtin; refine wpList_append_own_src _ rfl _ _ 62 62 rfl w.heap.size 5 i0 (.int .u8 0) 1 1 Tryz.underlying62 hi hz0 hz1 hz2 rfl _ 1 _ rfl (own_one wr _ w.heap.size hbr.size) _ os.length _ rfl hr' ?c1 ?c2 ?c3 ?_)
      case c1 => unfold maxLen; omega
      case c2 => omega
      case c3 => have := hbr.size; simp; omega
      intro v1 w1 hown1 hgrow1
      have hb1 : Below w.heap.size w w1 := (hbr.alloc hbr.size _).grown hgrow1 (by have := hbr.size; simp; omega) (fun k hk => by simp [Value.ownBlock] at hk; have := hbr.size; omega)
      have hM1 : Mine w1 w.heap.size v1 ((m % 256) :: os) := by
        refine Mine.mk' _ hown1 (by simp; omega) rfl (fun z hz => ?_)
        simp only [List.mem_cons] at hz
        rcases hz with rfl | hz
        · omega
        · exact hmi.2 z hz
      have HD : Hid (digs n.toNat = digs (m / 256).toNat ++ (m % 256 :: os)) := by
        show _ = _
        have e1 : m.toNat / 256 = (m / 256).toNat := by omega
        have e2 : ((m.toNat % 256 : Nat) : Int) = m % 256 := by omega
        rw [hd.out, digs_succ m.toNat (by omega) (by omega), e1, e2, List.append_assoc]
        rfl
      clear hown1 hgrow1 hr' hmi
      go_wp2_with fail
      go_roundw
      case rel => exact ⟨m / 256, m % 256 :: os, by omega, by omega, rfl, HD, hM1, hb1⟩
      case measure => simp [intOf]; omega
    · obtain rfl : m = 0 := by omega
      have e : Hid (digs n.toNat = os) := by
        have := hd.out
        show _ = _
        rw [this]; show digs 0 ++ os = os; rw [digs_zero]; rfl
      go_wp2_with fail
      go_ret
      rw [e.out]
      exact ⟨_, rfl, hmi, hbr⟩

set_option maxRecDepth 20000 in
set_option maxHeartbeats 800000 in
theorem refPut_any (a : Option Addr) (cap : Nat) (zs : List Int) (n : Int) (w : World) (h : RowAt w a zs) (hm : zs.length ≤ 1099511627) (hn : n ≤ 9223372036854775807) :
    Calls Tryz.prog 63 #[.slice a zs.length cap, .int .i64 n] w fun e w' => ∃ v, e = .returned v ∧ Mine w' w.heap.size v (zs ++ putL n) ∧ Below w.heap.size w w' := by
  obtain ⟨i0, hi, hz0, hz1, hz2⟩ := info_parts info8
  have hsrc := (h.below ((Below.refl w.heap.size w).alloc (Nat.le_refl _) (.cells #[] 5))).src cap
  by_cases h0 : n < 0
  · have HP : Hid (putL n = []) := by show _ = _; simp [putL, h0]
    go_enter Tryz.func63, Tryz.ntmps63
    go_wp2_with (at_builtin; refine wpList_append_own_src _ rfl _ _ 62 62 rfl w.heap.size 5 i0 (.int .u8 0) 1 1 Tryz.underlying62 hi hz0 hz1 hz2 rfl _ 0 [] rfl (World.ownsRow_made w #[] 0 (Nat.le_refl _) (by simp) (by simp)) _ zs.length _ rfl hsrc ?c1 ?c2 ?c3 ?_)
    case c1 => unfold maxLen; omega
    case c2 => omega
    case c3 => simp
    intro v1 w1 hown1 hgrow1
    have hb1 : Below w.heap.size w w1 := ((Below.refl _ _).alloc (Nat.le_refl _) _).grown hgrow1 (by simp) (fun k hk => by simp [Value.ownBlock] at hk; omega)
    have hM1 : Mine w1 w.heap.size v1 zs := ⟨by simpa [v8] using hown1, h.2.1⟩
    go_wp2_with fail
    go_ret
    rw [HP.out, List.append_nil]
    exact ⟨_, rfl, hM1, hb1⟩
  · have HP : Hid (putL n = (wid n.toNat : Int) :: digs n.toNat) := by show _ = _; simp [putL, h0, numB]
    have hw := wid_le n.toNat (by omega)
    have hdl := digs_length n.toNat
    have hdb := digs_byte n.toNat
    have cd := fun w => digits_any n w (by omega) hn
    generalize digs n.toNat = D at *
    generalize hK : wid n.toNat = K at *
    have hdl' : D.length = K := hdl
    subst hdl'
    clear hK hdl
    go_enter Tryz.func63, Tryz.ntmps63
    go_wp2_with (at_builtin; refine wpList_append_own_src _ rfl _ _ 62 62 rfl w.heap.size 5 i0 (.int .u8 0) 1 1 Tryz.underlying62 hi hz0 hz1 hz2 rfl _ 0 [] rfl (World.ownsRow_made w #[] 0 (Nat.le_refl _) (by simp) (by simp)) _ zs.length _ rfl hsrc ?c1 ?c2 ?c3 ?_)
    case c1 => unfold maxLen; omega
    case c2 => omega
    intro v1 w1 hown1 hgrow1
    have hb1 : Below w.heap.size w w1 := ((Below.refl _ _).alloc (Nat.le_refl _) _).grown hgrow1 (by simp) (fun k hk => by simp [Value.ownBlock] at hk; omega)
    have hM1 : Mine w1 w.heap.size v1 zs := ⟨by simpa [v8] using hown1, h.2.1⟩
    clear hown1 hgrow1 hsrc
    go_wp2_with fail
    refine (cd _).mono ?_
    rintro e w2 ⟨v2, rfl, hM2, hb2⟩
    clear cd
    obtain ⟨a2, cap2, rfl, _, _, hr2⟩ := hM2.rowAt (by unfold maxLen; omega)
    have hM1' := hM1.below hb2
    have hb2' : Below w.heap.size w w2 := hb1.trans (hb2.mono hb1.size)
    go_wp2_with (at_builtin; refine wpList_append_own_src _ rfl _ _ 62 62 rfl w.heap.size 5 i0 (.int .u8 0) 1 1 Tryz.underlying62 hi hz0 hz1 hz2 rfl _ zs.length _ rfl (hM1'.1.alloc _) _ 1 _ rfl (b1_src _ _) ?d1 ?d2 ?d3 ?_)
    case d1 => unfold maxLen; omega
    case d2 => omega
    case d3 => have := hb2'.size; simp; omega
    intro v3 w3 hown3 hgrow3
    have hb3 : Below w.heap.size w w3 := below_grown (hb2'.alloc hb2'.size _) (by have := hb2'.size; simp; omega) (hM1'.1.alloc (.cells #[.int .u8 (D.length : Int)] 5)) hgrow3
    have hr3 : RowAt w3 a2 D := by
      have hga := hr2.below ((Below.refl w2.heap.size w2).alloc (Nat.le_refl _) (.cells #[.int .u8 (D.length : Int)] 5))
      refine ⟨hga.1, hga.2.1, ?_⟩
      rcases hga.2.2 with hx | ⟨b, off, rfl, hb, hc⟩
      · exact Or.inl hx
      · refine Or.inr ⟨b, off, rfl, Nat.lt_of_lt_of_le hb hgrow3.size, fun j u hu => hgrow3.cell (hc j u hu) ?_⟩
        have hl1 := (hM2.1.lt b rfl).1
        intro hcon
        have hl2 := (hM1.1.lt b hcon.symm).2
        have := hM1.1.lt b hcon.symm
        omega
    go_wp2_with (at_builtin; refine wpList_append_own_src _ rfl _ _ 62 62 rfl w.heap.size 5 i0 (.int .u8 0) 1 1 Tryz.underlying62 hi hz0 hz1 hz2 rfl _ (zs.length + 1) _ rfl hown3 _ D.length _ rfl (hr3.src cap2) ?e1 ?e2 ?e3 ?_)
    case e1 => unfold maxLen; omega
    case e2 => omega
    case e3 => exact hb3.size
    intro v4 w4 hown4 hgrow4
    have hb4 := below_grown hb3 hb3.size hown3 hgrow4
    have hM4 : Mine w4 w.heap.size v4 (zs ++ putL n) := by
      rw [HP.out]
      refine Mine.mk' _ hown4 (by simp; omega) (by simp [v8]) (fun z hz => ?_)
      simp only [List.mem_append, List.mem_cons] at hz
      rcases hz with hz | rfl | hz
      · exact h.2.1 z hz
      · omega
      · exact hdb z hz
    clear hown4 hgrow4 hown3 hgrow3
    go_wp2_with fail
    go_ret
    exact ⟨_, rfl, hM4, hb4⟩

set_option maxRecDepth 20000 in
set_option maxHeartbeats 800000 in
theorem refPutText_any (a : Option Addr) (cap : Nat) (zs : List Int) (s : ByteArray) (w : World) (h : RowAt w a zs) (hm : zs.length ≤ 1099511627) (hs : s.size ≤ 1099511627) :
    Calls Tryz.prog 69 #[.slice a zs.length cap, .string s] w fun e w' => ∃ v, e = .returned v ∧ Mine w' w.heap.size v (zs ++ textL s) ∧ Below w.heap.size w w' := by
  obtain ⟨i0, hi, hz0, hz1, hz2⟩ := info_parts info8
  have hpl := putL_length (s.size : Int) (by omega)
  have cp := refPut_any a cap zs (s.size : Int) w h hm (by omega)
  have HT : Hid (zs ++ textL s = (zs ++ putL s.size) ++ strL s) := by show _ = _; unfold textL; rw [List.append_assoc]
  have HSL : Hid ((strL s).length = s.size) := strL_length s
  have hql : (zs ++ putL (s.size : Int)).length ≤ 1099511627 + 9 := by rw [List.length_append]; omega
  generalize zs ++ putL (s.size : Int) = qs at *
  go_enter Tryz.func69, Tryz.ntmps69
  go_wp2_with fail
  refine cp.mono ?_
  rintro e w1 ⟨v1, rfl, hM1, hb1⟩
  clear cp
  go_wp2_with (at_builtin; refine wpList_append_own_src _ rfl _ _ 62 9 rfl w.heap.size 5 i0 (.int .u8 0) 1 1 Tryz.underlying62 hi hz0 hz1 hz2 rfl _ qs.length _ rfl hM1.1 _ s.size _ rfl (str_src s _) ?e1 ?e2 ?e3 ?_)
  case e1 => unfold maxLen; omega
  case e2 => omega
  case e3 => exact hb1.size
  intro v5 w5 hown5 hgrow5
  have hb5 := below_grown hb1 hb1.size hM1.1 hgrow5
  have hM : Mine w5 w.heap.size v5 (zs ++ textL s) := by
    rw [HT.out]
    refine Mine.mk' _ hown5 ?_ ?_ (fun z hz => ?_)
    · simp only [List.length_append, HSL.out]
    · simp
    · simp only [List.mem_append] at hz
      rcases hz with hz | hz
      · exact hM1.2 z hz
      · exact strL_byte s z hz
  clear hown5 hgrow5
  go_wp2_with fail
  go_ret
  exact ⟨_, rfl, hM, hb5⟩
end Go.Proofs.YtghgomglpgidoaaGreat
namespace Go.Proofs.YtghgomglpgidoaaGreat
open Go Go.RowKit
section
variable {P : Program} {ops : Array Oper} {Q : Exit → Act → World → Prop}
def HeldS (P : Program) (ops : Array Oper) (Q : Exit → Act → World → Prop) (S : World → Prop) (fuel : Nat) (listed : Array Bool) (a : Act) (w : World) : Prop :=
  wpAnyH P .any ops (NoPanic Q) S fuel listed a w
theorem hs_begin {id : Nat} {S : World → Prop} {a : Act} {w : World} (n : Nat) (hn : ops.size = n) (hm : P.follows .mixedOrders = true) (h : HeldS P ops Q S n (Array.replicate n false) a w.drew) : (Code.region id ops true).wp P Q a w := by
  subst hn
  exact wp_region_noPanic (wp_region_held hm h)
theorem hs_take {i : Nat} {S : World → Prop} {oi : Oper} {d : Option Nat} {v : Value} {fuel : Nat} {listed : Array Bool} {a : Act} {w : World} (hi : ops[i]? = some oi)
    (hs : Region.noSelect ops = true) (hf : Region.free .any ops listed i = true) (hr : (Region.ready .any ops listed).contains i = true)
    (hw : Region.wanted oi (yielded ops a.tmps) = true) (hy : ∀ w', S w' → (execOp a.eval oi).run P w' = .ok (.value v) w') (hS : S w) (hdst : oi.dst = d)
    (h : HeldS P ops Q S fuel (listed.setIfInBounds i true) (a.put d v) w) : HeldS P ops Q S (fuel + 1) listed a w := by
  subst hdst
  exact wpAnyH_take hi hs hf hr (fun _ _ _ h => h) (Or.inl ⟨hw, hy⟩) hS h
theorem hs_skip {i : Nat} {S : World → Prop} {oi : Oper} {d : Option Nat} {fuel : Nat} {listed : Array Bool} {a : Act} {w : World} (hi : ops[i]? = some oi)
    (hs : Region.noSelect ops = true) (hf : Region.free .any ops listed i = true) (hr : (Region.ready .any ops listed).contains i = true)
    (hw : Region.wanted oi (yielded ops a.tmps) = false) (hS : S w) (hdst : oi.dst = d)
    (h : HeldS P ops Q S fuel (listed.setIfInBounds i true) (a.put d undef) w) : HeldS P ops Q S (fuel + 1) listed a w := by
  subst hdst
  exact wpAnyH_take hi hs hf hr (fun _ _ _ h => h) (Or.inr ⟨hw, rfl⟩) hS h
theorem hs_call {i : Nat} {S : World → Prop} {oi : Oper} {d : Option Nat} {f : FuncId} {args : Array Value} {fuel : Nat} {listed : Array Bool} {a : Act} {w : World} (hi : ops[i]? = some oi)
    (hr : Region.ready .any ops listed = [i]) (hw : Region.wanted oi (yielded ops a.tmps) = true) (hy : (execOp a.eval oi).run P w = .ok (.enter f args) w) (hdst : oi.dst = d)
    (h : Calls P f args w fun e w' => ∃ v, e = .returned v ∧ S w' ∧ HeldS P ops Q S fuel (listed.setIfInBounds i true) (a.put d v) w') : HeldS P ops Q S (fuel + 1) listed a w := by
  subst hdst
  refine wpAnyH_all hr (by simp) ?_
  intro j hj
  obtain rfl : j = i := by simpa using hj
  unfold wpOp
  simp only [hi, hw, if_true]
  left
  unfold Oper.wp
  rw [hy]
  refine h.mono ?_
  rintro e w' ⟨v, rfl, hb, hk⟩
  exact ⟨hb, hk⟩
/-- an operation that comes up alone and makes memory of its own -/
theorem hs_run {i : Nat} {S : World → Prop} {oi : Oper} {d : Option Nat} {v : Value} {fuel : Nat} {listed : Array Bool} {a : Act} {w w' : World} (hi : ops[i]? = some oi)
    (hr : Region.ready .any ops listed = [i]) (hw : Region.wanted oi (yielded ops a.tmps) = true) (hy : (execOp a.eval oi).run P w = .ok (.value v) w') (hdst : oi.dst = d)
    (hS : S w') (h : HeldS P ops Q S fuel (listed.setIfInBounds i true) (a.put d v) w') : HeldS P ops Q S (fuel + 1) listed a w := by
  subst hdst
  refine wpAnyH_all hr (by simp) ?_
  intro j hj
  obtain rfl : j = i := by simpa using hj
  unfold wpOp
  simp only [hi, hw, if_true]
  left
  unfold Oper.wp
  rw [hy]
  exact ⟨hS, h⟩
/-- a store that comes up alone -/
theorem hs_store {i : Nat} {S : World → Prop} {oi : Oper} {fuel : Nat} {listed : Array Bool} {a : Act} {w w' : World} (hi : ops[i]? = some oi)
    (hr : Region.ready .any ops listed = [i]) (hw : Region.wanted oi (yielded ops a.tmps) = true) (hy : (execOp a.eval oi).run P w = .ok .skip w') (hdst : oi.dst = none)
    (hS : S w') (h : HeldS P ops Q S fuel (listed.setIfInBounds i true) a w') : HeldS P ops Q S (fuel + 1) listed a w := by
  refine wpAnyH_all hr (by simp) ?_
  intro j hj
  obtain rfl : j = i := by simpa using hj
  unfold wpOp
  simp only [hi, hw, if_true]
  left
  unfold Oper.wp
  rw [hy]
  refine ⟨hS, ?_⟩
  rw [hdst]
  exact h
theorem hs_done {S : World → Prop} {fuel : Nat} {listed : Array Bool} {a : Act} {w : World} (hr : Region.ready .any ops listed = []) (h : Q .normal a w) : HeldS P ops Q S fuel listed a w :=
  wpAnyH_done hr (NoPanic.normal h) fuel
end
end Go.Proofs.YtghgomglpgidoaaGreat
namespace Go.Proofs.YtghgomglpgidoaaGreat
open Go.RowKit
open Sha Tal
theorem hide {p : Prop} (h : p) : Hid p := h
def inB (n m : Int) : Bool := decide (0 ≤ n ∧ n ≤ m)
theorem inB_t {n m : Int} (h : 0 ≤ n) (h' : n ≤ m) : inB n m = true := by unfold inB; exact decide_eq_true ⟨h, h'⟩
theorem inB_f {n m : Int} (h : ¬ (0 ≤ n ∧ n ≤ m)) : inB n m = false := by unfold inB; exact decide_eq_false h
set_option maxHeartbeats 400000 in
theorem within_any (n m : Int) (w : World) : Calls Tryz.prog 72 #[.int .i64 n, .int .i64 m] w fun e w' => e = .returned (.bool (inB n m)) ∧ w' = w := by
  by_cases h : 0 ≤ n
  · have e : inB n m = decide (n ≤ m) := by unfold inB; rw [decide_eq_decide]; exact ⟨fun x => x.2, fun x => ⟨h, x⟩⟩
    rw [e]; clear e
    go_enter Tryz.func72, Tryz.ntmps72
    go_wp2
    go_ret
    exact ⟨rfl, rfl⟩
  · rw [inB_f (fun x => h x.1)]
    go_enter Tryz.func72, Tryz.ntmps72
    go_wp2
    go_ret
    exact ⟨rfl, rfl⟩
theorem within_to {n m : Int} {b : Bool} (h : inB n m = b) (w : World) : Calls Tryz.prog 72 #[.int .i64 n, .int .i64 m] w fun e w' => e = .returned (.bool b) ∧ w' = w := by
  have := within_any n m w; rwa [h] at this
set_option maxHeartbeats 400000 in
theorem upto_any (n m : Int) (w : World) : Calls Tryz.prog 27 #[.int .i64 n, .int .i64 m] w fun e w' => e = .returned (.bool (inB n m)) ∧ w' = w := by
  by_cases h : 0 ≤ n
  · have e : inB n m = decide (n ≤ m) := by unfold inB; rw [decide_eq_decide]; exact ⟨fun x => x.2, fun x => ⟨h, x⟩⟩
    rw [e]; clear e
    go_enter Tryz.func27, Tryz.ntmps27
    go_wp2
    go_ret
    exact ⟨rfl, rfl⟩
  · rw [inB_f (fun x => h x.1)]
    go_enter Tryz.func27, Tryz.ntmps27
    go_wp2
    go_ret
    exact ⟨rfl, rfl⟩
theorem upto_to {n m : Int} {b : Bool} (h : inB n m = b) (w : World) : Calls Tryz.prog 27 #[.int .i64 n, .int .i64 m] w fun e w' => e = .returned (.bool b) ∧ w' = w := by
  have := upto_any n m w; rwa [h] at this
/-- a vote: its kind, epoch, view, slot and digest -/
structure Vt where
  k : Int
  e : Int
  v : Int
  s : Int
  d : List Int
def Vt.cells (x : Vt) : List Value := .int .i64 x.k :: .int .i64 x.e :: .int .i64 x.v :: .int .i64 x.s :: v8 x.d
def Vt.may (x : Vt) : Bool := (decide (x.k = 1) || decide (x.k = 2)) && (inB x.e 1048576 && (inB x.v 1099511627776 && inB x.s 1099511627776))
theorem Vt.box (w : World) (x : Vt) : (w.alloc (.cells x.cells.toArray 28)).rangeAt w.heap.size 0 x.cells := by
  have := range_new w x.cells.toArray 28
  simpa using this
theorem Vt.four {w : World} {b i : Nat} {x : Vt} (h : w.rangeAt b i x.cells) : w.cell? ⟨b, i, none⟩ = some (.int .i64 x.k) ∧ w.cell? ⟨b, i + 1, none⟩ = some (.int .i64 x.e) ∧ w.cell? ⟨b, i + 2, none⟩ = some (.int .i64 x.v) ∧ w.cell? ⟨b, i + 3, none⟩ = some (.int .i64 x.s) :=
  ⟨h 0 _ rfl, h 1 _ rfl, h 2 _ rfl, h 3 _ rfl⟩
set_option maxRecDepth 100000 in
set_option maxHeartbeats 2000000 in
theorem voteMay_any (x : Vt) (w : World) : Calls Tryz.prog 73 #[.agg x.cells.toArray] w fun e w' => e = .returned (.bool x.may) ∧ Below w.heap.size w w' := by
  obtain ⟨k, ep, vi, sl, d⟩ := x
  have hB1 : Below w.heap.size w (w.alloc (.cells (Vt.mk k ep vi sl d).cells.toArray 28)) := (Below.refl _ _).alloc (Nat.le_refl _) _
  obtain ⟨c0, c1, c2, c3⟩ := Vt.four (Vt.box w ⟨k, ep, vi, sl, d⟩)
  simp only [Nat.zero_add] at c1 c2 c3
  have E : (Vt.mk k ep vi sl d).may = ((decide (k = 1) || decide (k = 2)) && (inB ep 1048576 && (inB vi 1099511627776 && inB sl 1099511627776))) := rfl
  rw [E]; clear E
  generalize (Vt.mk k ep vi sl d).cells = q at *
  have hk : k = 1 ∨ (k ≠ 1 ∧ k = 2) ∨ (k ≠ 1 ∧ k ≠ 2) := by omega
  rcases hk with rfl | ⟨hk, rfl⟩ | ⟨hk, hk'⟩
  rotate_right
  · rw [decide_eq_false hk, decide_eq_false hk']
    have n1 : (k != 1) = true := bne_iff_ne.2 hk
    have n2 : (k != 2) = true := bne_iff_ne.2 hk'
    have e1 : (k == 1) = false := beq_eq_false_iff_ne.2 hk
    have e2 : (k == 2) = false := beq_eq_false_iff_ne.2 hk'
    clear hk hk'
    go_enter Tryz.func73, Tryz.ntmps73
    go_wp2
    go_ret
    exact ⟨rfl, hB1⟩
  all_goals
    try clear hk
    cases he : inB ep 1048576
    · go_enter Tryz.func73, Tryz.ntmps73
      go_wp2_with (go_at_call 72; refine (within_any _ _ _).mono ?_; rintro e1 w1 ⟨rfl, rfl⟩; try rw [he])
      go_ret
      exact ⟨rfl, hB1⟩
    · cases hv : inB vi 1099511627776
      · go_enter Tryz.func73, Tryz.ntmps73
        go_wp2_with (go_at_call 72; refine (within_any _ _ _).mono ?_; rintro e1 w1 ⟨rfl, rfl⟩; (first | rw [he] | rw [hv]))
        go_ret
        exact ⟨rfl, hB1⟩
      · cases hs : inB sl 1099511627776
        all_goals
          go_enter Tryz.func73, Tryz.ntmps73
          go_wp2_with (go_at_call 72; refine (within_any _ _ _).mono ?_; rintro e1 w1 ⟨rfl, rfl⟩; (first | rw [he] | rw [hv] | rw [hs]))
          go_ret
          exact ⟨rfl, hB1⟩
set_option maxRecDepth 100000 in
set_option maxHeartbeats 2000000 in
theorem xvote_any (x : Vt) (w : World) : Calls Tryz.prog 32 #[.agg x.cells.toArray] w fun e w' => e = .returned (.bool x.may) ∧ Below w.heap.size w w' := by
  obtain ⟨k, ep, vi, sl, d⟩ := x
  have hB1 : Below w.heap.size w (w.alloc (.cells (Vt.mk k ep vi sl d).cells.toArray 28)) := (Below.refl _ _).alloc (Nat.le_refl _) _
  obtain ⟨c0, c1, c2, c3⟩ := Vt.four (Vt.box w ⟨k, ep, vi, sl, d⟩)
  simp only [Nat.zero_add] at c1 c2 c3
  have E : (Vt.mk k ep vi sl d).may = ((decide (k = 1) || decide (k = 2)) && (inB ep 1048576 && (inB vi 1099511627776 && inB sl 1099511627776))) := rfl
  rw [E]; clear E
  generalize (Vt.mk k ep vi sl d).cells = q at *
  have hk : k = 1 ∨ (k ≠ 1 ∧ k = 2) ∨ (k ≠ 1 ∧ k ≠ 2) := by omega
  rcases hk with rfl | ⟨hk, rfl⟩ | ⟨hk, hk'⟩
  rotate_right
  · rw [decide_eq_false hk, decide_eq_false hk']
    have n1 : (k != 1) = true := bne_iff_ne.2 hk
    have n2 : (k != 2) = true := bne_iff_ne.2 hk'
    have e1 : (k == 1) = false := beq_eq_false_iff_ne.2 hk
    have e2 : (k == 2) = false := beq_eq_false_iff_ne.2 hk'
    clear hk hk'
    go_enter Tryz.func32, Tryz.ntmps32
    go_wp2
    go_ret
    exact ⟨rfl, hB1⟩
  all_goals
    try clear hk
    cases he : inB ep 1048576
    · go_enter Tryz.func32, Tryz.ntmps32
      go_wp2_with (go_at_call 27; refine (upto_any _ _ _).mono ?_; rintro e1 w1 ⟨rfl, rfl⟩; try rw [he])
      go_ret
      exact ⟨rfl, hB1⟩
    · cases hv : inB vi 1099511627776
      · go_enter Tryz.func32, Tryz.ntmps32
        go_wp2_with (go_at_call 27; refine (upto_any _ _ _).mono ?_; rintro e1 w1 ⟨rfl, rfl⟩; (first | rw [he] | rw [hv]))
        go_ret
        exact ⟨rfl, hB1⟩
      · cases hs : inB sl 1099511627776
        all_goals
          go_enter Tryz.func32, Tryz.ntmps32
          go_wp2_with (go_at_call 27; refine (upto_any _ _ _).mono ?_; rintro e1 w1 ⟨rfl, rfl⟩; (first | rw [he] | rw [hv] | rw [hs]))
          go_ret
          exact ⟨rfl, hB1⟩
end Go.Proofs.YtghgomglpgidoaaGreat
namespace Go.Proofs.YtghgomglpgidoaaGreat
open Go Go.RowKit
section
variable {P : Program} (w : World)

theorem run_append_own_src2 (base : Nat) (t tx ty e : TypeId) (i : TypeInfo) (z : Value) (size bytes : Nat) (ht : P.underlying t = some (.slice e)) (hi : P.info? e = some i) (hz : i.zero = some z)
    (hsize : i.size = size) (hby : i.bytes = bytes) (hzs : z.cells.size = size)
    (v : Value) (n : Nat) (xs : List Value) (hown : w.ownsRow base e size v n xs)
    (x : Value) (m : Nat) (news : List Value) (hs : Src P size tx x m news w)
    (h63 : n + m ≤ maxLen) (hbytes : (n + m) * bytes ≤ 140737488355328) (hbase : base ≤ w.heap.size) :
    ∃ v' w', (Builtin.append_ #[t, tx] ty #[v, x]).run P w = .ok v' w' ∧ w'.ownsRow base e size v' (n + m) (xs ++ news) ∧ w.grownBy w' v.ownBlock ∧ (∀ g, v'.ownBlock = some g → v.ownBlock = some g ∨ g = w.heap.size) := by
  subst hsize
  subst hby
  have hl := hs.newsLen
  have hlen : (xs ++ news).length = (n + m) * i.size := by rw [List.length_append, hown.1, hl, Nat.add_mul]
  have grown : ∀ (old : Nat), old < n + m → ∀ (row : Option Nat),
      (w.drew.alloc (.cells ((xs ++ news).toArray ++ Builtin.zeroCells z.cells (grownCap w (n + m) old e - (n + m))) e)).ownsRow base e i.size
        (.slice (some ⟨w.heap.size, 0, none⟩) (n + m) (grownCap w (n + m) old e)) (n + m) (xs ++ news) ∧
      w.grownBy (w.drew.alloc (.cells ((xs ++ news).toArray ++ Builtin.zeroCells z.cells (grownCap w (n + m) old e - (n + m))) e)) row := by
    intro old ho row
    have hge := grownCap_ge w (n + m) old e
    have hcm : grownCap w (n + m) old e ≤ maxLen := grownCap_le_maxLen w (n + m) old e h63
    refine ⟨⟨hlen, .inr ⟨w.heap.size, _, _, rfl, hbase, heap_alloc_new w.drew _, hge, hcm, ?_, ?_⟩⟩, ⟨rfl, rfl, rfl, by simp, fun k hk _ => Below.heap_alloc w.drew _ k hk⟩⟩
    · simp only [Array.size_append, List.size_toArray, size_zeroCells, hzs, hlen, ← Nat.add_mul]
      congr 1
      omega
    · simp only [Array.toList_append]
      rw [← hlen]
      exact List.take_left
  have h63' : ((n + m : Nat) : Int) ≤ 9223372036854775807 := by simp only [maxLen] at h63; omega
  rcases hown.2 with ⟨rfl, rfl⟩ | ⟨g, cap, cur, rfl, hbg, hg, hnc, hcm, hcs, htake⟩
  · have hx : xs = [] := List.eq_nil_of_length_eq_zero (by simpa using hown.1)
    subst hx
    by_cases hm : m = 0
    · subst hm
      have hn : news = [] := List.eq_nil_of_length_eq_zero (by simpa using hl)
      subst hn
      refine ⟨.slice none 0 0, w, ?_, World.ownsRow_nil w base e i.size, ⟨rfl, rfl, rfl, Nat.le_refl _, fun _ _ _ => rfl⟩, fun g hg => by simp [Value.ownBlock] at hg⟩
      have hc := hs.cells
      rcases hs.kind with ⟨e', hk⟩ | hk <;> simp [Builtin.append_, run_underlying ht, run_underlying hk, sizeOf, typeInfo, hi, hs.len, hc]
    · have hr := run_append_grow_src (P := P) w t tx ty e i z ht hi hz none 0 0 [] (run_firstCells_none w.drew i.size 0 0 0) x m news hs (by omega) (by simpa using h63') (growslice_fits (by omega) (by simpa using hbytes))
      have hgr := grown 0 (by omega) (Value.ownBlock (.slice none 0 0))
      exact ⟨_, _, hr, hgr.1, hgr.2, fun g hg => Or.inr (by simpa [Value.ownBlock] using hg.symm)⟩
  · by_cases hroom : n + m ≤ cap
    · have hfit : n * i.size + news.length ≤ cur.size := by rw [hl, hcs, ← Nat.add_mul]; exact Nat.mul_le_mul_right _ hroom
      have hst := run_storeCells_at P g (n * i.size) e news 0 cur w hg (by simpa using hfit) hs.one
      simp only [Nat.add_zero] at hst
      have hr : (Builtin.append_ #[t, tx] ty #[.slice (some ⟨g, 0, none⟩) n cap, x]).run P w = .ok (.slice (some ⟨g, 0, none⟩) (n + m) cap) (w.setRow g (cur.toList.take (n * i.size) ++ news ++ cur.toList.drop (n * i.size + news.length)).toArray) := by
        rcases hs.kind with ⟨e', hk⟩ | hk <;> simp [Builtin.append_, run_underlying ht, run_underlying hk, sizeOf, typeInfo, hi, hs.len, hroom, hs.cells, Addr.add_lit, hst]
      refine ⟨_, _, hr, ⟨hlen, .inr ⟨g, cap, _, rfl, hbg, setRow_heap w g cur _ e _ hg, hroom, hcm, ?_, ?_⟩⟩, ⟨rfl, rfl, rfl, by simp, fun k _ hk => setRow_other w g k _ (fun e => hk (by simp [Value.ownBlock, e]))⟩, fun g' hg' => Or.inl (by simpa [Value.ownBlock] using hg')⟩
      · simp only [List.size_toArray, List.length_append, List.length_take, List.length_drop, Array.length_toList]
        omega
      · rw [htake, ← hlen]
        exact List.take_left
    · have holds : ∀ j u, xs[j]? = some u → w.cell? ((⟨g, 0, none⟩ : Addr).add j) = some u := hown.cells (g := g) rfl
      have hr := run_append_grow_src (P := P) w t tx ty e i z ht hi hz (some ⟨g, 0, none⟩) n cap xs (run_firstCells_some w.drew i.size n ⟨g, 0, none⟩ n cap xs hown.1 (by simpa using holds)) x m news hs (by omega) h63' (growslice_fits (by omega) hbytes)
      have hgr := grown cap (by omega) (Value.ownBlock (.slice (some ⟨g, 0, none⟩) n cap))
      exact ⟨_, _, hr, hgr.1, hgr.2, fun g hg => Or.inr (by simpa [Value.ownBlock] using hg.symm)⟩

theorem wpList_append_own_src2 {ops : Array Oper} {rest : List Oper} {o : Oper} {a : Act} {Q : Exit → Act → World → Prop} (hgd : o.guard = none) (s x : Operand) (t tx : TypeId)
    (ho : o.op = .call { callee := .builtin .append, args := #[s, x], argTypes := #[t, tx] })
    (base : Nat) (e : TypeId) (i : TypeInfo) (z : Value) (size bytes : Nat) (ht : P.underlying t = some (.slice e)) (hi : P.info? e = some i) (hz : i.zero = some z)
    (hsize : i.size = size) (hby : i.bytes = bytes) (hzs : z.cells.size = size)
    (v : Value) (n : Nat) (xs : List Value) (hv : a.eval s = v) (hown : w.ownsRow base e size v n xs)
    (xv : Value) (m : Nat) (news : List Value) (hx : a.eval x = xv) (hs : Src P size tx xv m news w)
    (h63 : n + m ≤ maxLen) (hbytes : (n + m) * bytes ≤ 140737488355328) (hbase : base ≤ w.heap.size)
    (h : ∀ v' w', w'.ownsRow base e size v' (n + m) (xs ++ news) → w.grownBy w' v.ownBlock → (∀ g, v'.ownBlock = some g → v.ownBlock = some g ∨ g = w.heap.size) → wpList P ops Q rest (a.put o.dst v') w') : wpList P ops Q (o :: rest) a w := by
  refine wpList_plain hgd fun K hK => ?_
  obtain ⟨v', w', hr, h2, h3, h4⟩ := run_append_own_src2 (P := P) w base t tx o.type e i z size bytes ht hi hz hsize hby hzs v n xs hown xv m news hs h63 hbytes hbase
  unfold Oper.wp execOp
  simp only [ho, resolve, invoke, builtin, Sem.run_bind, Sem.run_pure, Result.andThen_ok, List.map_toArray, List.map_cons, List.map_nil, hv, hx, hr]
  exact hK _ _ (h v' w' h2 h3 h4)
end
end Go.Proofs.YtghgomglpgidoaaGreat
