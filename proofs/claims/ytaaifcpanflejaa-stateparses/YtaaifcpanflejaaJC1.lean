/- PLAIN MATHEMATICS OF SHA-256: words of 32 bits, a block's rounds, bytes that wait, the last bytes. Imports nothing of the translation.; Arrays in memory, by ranges: what is set, what stays.; (*digest.running).turn: a block that waits goes through the rounds.; (*digest.running).add: bytes go on.; (*digest.running).end: the last bytes go behind what came; the words are told.; digest.begin, Sum and Chain.; append(dst, src...) where dst is a row of the call's own (or nil) and src is whatever yields cells (a slice with an address, a nil slice, an empty slice, a string): one law, over any program.; Rows of the call's own: bytes, parts; slices that came in.; math/bits.Len64, by its contract.; Plain mathematics of numbers as bytes: how many bytes a number has, its digits to the base 256, the highest first, and back. Imports nothing of the translation.; tally.width and Size.; tally.roomBehind and Put.; tally.PutText.; A region that draws its order, walked one way under a condition that every operation keeps: what yields one value wherever the condition holds may be taken first; what makes memory, writes or calls comes up alone.; message: numbers within bounds; votes; frames: all but some blocks stays; message's writer: room, raw; message's writer: raw; message's writer: numbers; messages: their cells; messages that are built out of parts; digests' parts: what the contracts of digests are told; the document's putVote, bytes, Encode, Vote, Mark; A reader: its block, Err, left, take, fail, value.; The place a reader is at: number.; A reader reads a number: Num.; slices.Clone over bytes, and Read.; A reader reads a text: next, Text.; What was read, put again; Left. -/
import Derived.Test.YtaaifcpanflejaaRows
import Derived.WalkKit
import Derived.WalkSpells
import Derived.RegionTactic
import Derived.ChangeAlike
import Derived.BigRegion
import Derived.Outline
import Derived.Deep.MidRow
import Derived.Below
import Derived.Deep.Cut
import Derived.Deep.QuietTactic
import Derived.BigQuiet
import Derived.Lib.ItoaWalk
import Derived.Laws.IdiomCopy
import Derived.Deep.AppendSrc
import Derived.OwnWalk
import Derived.Lib.BitFns
import Derived.Lib.Small
import Derived.Lib.Walk
import Derived.Deep.RegionHeld3
import Derived.Maps.OwnSet
import Derived.Lib.SlBytesConst
import Derived.WalkLawsBesides
import Derived.SliceStrings
import Derived.Laws.StructEq
namespace Go.Proofs.Ytaaifcpanflejaa
namespace Sha
abbrev Wd := BitVec 32
def rotr (x : Wd) (n : Nat) : Wd := (x >>> n) ||| (x <<< (32 - n))
def s0 (x : Wd) : Wd := rotr x 7 ^^^ rotr x 18 ^^^ (x >>> 3)
def s1 (x : Wd) : Wd := rotr x 17 ^^^ rotr x 19 ^^^ (x >>> 10)
def S1 (e : Wd) : Wd := rotr e 6 ^^^ rotr e 11 ^^^ rotr e 25
def S0 (a : Wd) : Wd := rotr a 2 ^^^ rotr a 13 ^^^ rotr a 22
def ch (e f g : Wd) : Wd := (e &&& f) ^^^ (~~~e &&& g)
def maj (a b c : Wd) : Wd := (a &&& b) ^^^ (a &&& c) ^^^ (b &&& c)
structure St where
  a : Wd
  b : Wd
  c : Wd
  d : Wd
  e : Wd
  f : Wd
  g : Wd
  h : Wd
def t1 (k w : Wd) (s : St) : Wd := s.h + S1 s.e + ch s.e s.f s.g + k + w
def t2 (s : St) : Wd := S0 s.a + maj s.a s.b s.c
def round (k w : Wd) (s : St) : St := ⟨t1 k w s + t2 s, s.a, s.b, s.c, s.d + t1 k w s, s.e, s.f, s.g⟩
def ks : List Nat := [
  0x428a2f98, 0x71374491, 0xb5c0fbcf, 0xe9b5dba5, 0x3956c25b, 0x59f111f1, 0x923f82a4, 0xab1c5ed5,
  0xd807aa98, 0x12835b01, 0x243185be, 0x550c7dc3, 0x72be5d74, 0x80deb1fe, 0x9bdc06a7, 0xc19bf174,
  0xe49b69c1, 0xefbe4786, 0x0fc19dc6, 0x240ca1cc, 0x2de92c6f, 0x4a7484aa, 0x5cb0a9dc, 0x76f988da,
  0x983e5152, 0xa831c66d, 0xb00327c8, 0xbf597fc7, 0xc6e00bf3, 0xd5a79147, 0x06ca6351, 0x14292967,
  0x27b70a85, 0x2e1b2138, 0x4d2c6dfc, 0x53380d13, 0x650a7354, 0x766a0abb, 0x81c2c92e, 0x92722c85,
  0xa2bfe8a1, 0xa81a664b, 0xc24b8b70, 0xc76c51a3, 0xd192e819, 0xd6990624, 0xf40e3585, 0x106aa070,
  0x19a4c116, 0x1e376c08, 0x2748774c, 0x34b0bcb5, 0x391c0cb3, 0x4ed8aa4a, 0x5b9cca4f, 0x682e6ff3,
  0x748f82ee, 0x78a5636f, 0x84c87814, 0x8cc70208, 0x90befffa, 0xa4506ceb, 0xbef9a3f7, 0xc67178f2]
def k (t : Nat) : Wd := BitVec.ofNat 32 (ks.getD t 0)
def init : St := ⟨0x6a09e667#32, 0xbb67ae85#32, 0x3c6ef372#32, 0xa54ff53a#32, 0x510e527f#32, 0x9b05688c#32, 0x1f83d9ab#32, 0x5be0cd19#32⟩
/-- the words of all rounds, one more -/
def nxt (ws : List Wd) : Wd := ws.getD (ws.length - 16) 0 + s0 (ws.getD (ws.length - 15) 0) + ws.getD (ws.length - 7) 0 + s1 (ws.getD (ws.length - 2) 0)
def ext (ws : List Wd) : List Wd := ws ++ [nxt ws]
def exts : Nat → List Wd → List Wd
  | 0, ws => ws
  | n + 1, ws => ext (exts n ws)
def word (a b c d : Int) : Wd := BitVec.ofInt 32 (a * 16777216 + b * 65536 + c * 256 + d)
def wordAt (bs : List Int) (t : Nat) : Wd := word (bs.getD (4 * t) 0) (bs.getD (4 * t + 1) 0) (bs.getD (4 * t + 2) 0) (bs.getD (4 * t + 3) 0)
def words (bs : List Int) (n : Nat) : List Wd := (List.range n).map (wordAt bs)
def spread (bs : List Int) : List Wd := exts 48 (words bs 16)
def rounds (ws : List Wd) : Nat → St → St
  | 0, s => s
  | t + 1, s => round (k t) (ws.getD t 0) (rounds ws t s)
def plus (s r : St) : St := ⟨s.a + r.a, s.b + r.b, s.c + r.c, s.d + r.d, s.e + r.e, s.f + r.f, s.g + r.g, s.h + r.h⟩
def block (s : St) (bs : List Int) : St := plus s (rounds (spread bs) 64 s)
def size8 (n : Nat) : List Int := (List.range 8).map fun i => ((n / 2 ^ (56 - 8 * i) % 256 : Nat) : Int)
def list (s : St) : List Wd := [s.a, s.b, s.c, s.d, s.e, s.f, s.g, s.h]
def byteOf (x : Wd) (i : Nat) : Int := ((x.toNat / 2 ^ (24 - 8 * i) % 256 : Nat) : Int)
def bytes (s : St) : List Int := (List.range 32).map fun i => byteOf ((list s).getD (i / 4) 0) (i % 4)
end Sha
end Go.Proofs.Ytaaifcpanflejaa
namespace Go.Proofs.Ytaaifcpanflejaa
open Go.RowKit
open Sha
def v32 (xs : List Wd) : List Value := xs.map fun x => Value.int .u32 (x.toNat : Int)
def v8 (zs : List Int) : List Value := zs.map (Value.int .u8)
@[simp] theorem v32_length (xs : List Wd) : (v32 xs).length = xs.length := by simp [v32]
@[simp] theorem v8_length (zs : List Int) : (v8 zs).length = zs.length := by simp [v8]
theorem v8_one (xs : List Int) : ∀ v ∈ v8 xs, v.oneCell' = true := by
  intro v hv; obtain ⟨x, _, rfl⟩ := List.mem_map.1 hv; rfl
theorem get8 {w : World} {b o : Nat} {xs : List Int} (h : w.rangeAt b o (v8 xs)) {i : Nat} (hi : i < xs.length) : w.cell? ⟨b, o + i, none⟩ = some (.int .u8 (xs.getD i 0)) := by
  refine h i _ ?_
  simp [v8, List.getElem?_eq_getElem hi]
theorem range_other {w : World} {b o : Nat} {cs : List Value} (h : w.rangeAt b o cs) (p : Addr) (v : Value) (hp : p.block = b → p.off < o ∨ o + cs.length ≤ p.off) : (w.setCell p v).rangeAt b o cs := by
  intro j u hu
  have hj : j < cs.length := (List.getElem?_eq_some_iff.1 hu).1
  rw [World.cell?_setCell_other _ _ _ _ (by rintro rfl; have := hp rfl; simp at this; omega)]
  exact h j u hu
theorem range_below {w w' : World} {b o n : Nat} {cs : List Value} (h : w.rangeAt b o cs) (hb : Below n w w') (hn : b < n) : w'.rangeAt b o cs :=
  fun j u hu => (hb.cell (p := ⟨b, o + j, none⟩) hn).trans (h j u hu)
theorem there_below {w w' : World} {b o n m : Nat} (h : w.there b o m) (hb : Below n w w') (hn : b < n) : w'.there b o m :=
  fun j hj => ⟨by rw [hb.cell (p := ⟨b, o + j, none⟩) hn]; exact (h j hj).1, by rw [hb.frozen (p := ⟨b, o + j, none⟩) hn]; exact (h j hj).2⟩
theorem there_set {w : World} {b o n : Nat} (h : w.there b o n) (p : Addr) (v : Value) : (w.setCell p v).there b o n := by
  intro j hj
  obtain ⟨h1, h2⟩ := h j hj
  refine ⟨?_, by rw [World.frozen?_setCell]; exact h2⟩
  obtain ⟨u, hu⟩ := Option.isSome_iff_exists.1 h1
  by_cases e : p = ⟨b, o + j, none⟩
  · subst e; rw [World.cell?_setCell_same _ _ _ hu]; rfl
  · rw [World.cell?_setCell_other _ _ _ _ e, hu]; rfl
theorem there_part {w : World} {b o n : Nat} (h : w.there b o n) (i m : Nat) (hm : i + m ≤ n) : w.there b (o + i) m := fun j hj => by
  have := h (i + j) (by omega); rwa [← Nat.add_assoc] at this
theorem range_part {w : World} {b o : Nat} {cs ds es : List Value} (h : w.rangeAt b o (cs ++ ds ++ es)) : w.rangeAt b (o + cs.length) ds := fun j v hv => by
  have hj : j < ds.length := (List.getElem?_eq_some_iff.1 hv).1
  have := h (cs.length + j) v (by rw [List.append_assoc, List.getElem?_append_right (by omega), List.getElem?_append_left (by omega), Nat.add_sub_cancel_left]; exact hv)
  rwa [← Nat.add_assoc] at this
theorem range_join {w : World} {b o : Nat} {cs ds : List Value} (h : w.rangeAt b o cs) (k : w.rangeAt b (o + cs.length) ds) : w.rangeAt b o (cs ++ ds) := fun j v hv => by
  by_cases hj : j < cs.length
  · rw [List.getElem?_append_left hj] at hv; exact h j v hv
  · rw [List.getElem?_append_right (by omega)] at hv
    have := k _ v hv
    rwa [show o + cs.length + (j - cs.length) = o + j by omega] at this
theorem range_left {w : World} {b o : Nat} {cs ds : List Value} (h : w.rangeAt b o (cs ++ ds)) : w.rangeAt b o cs := fun j v hv => by
  have hj : j < cs.length := (List.getElem?_eq_some_iff.1 hv).1
  exact h j v (by rw [List.getElem?_append_left hj]; exact hv)
theorem range_right {w : World} {b o : Nat} {cs ds : List Value} (h : w.rangeAt b o (cs ++ ds)) : w.rangeAt b (o + cs.length) ds := fun j v hv => by
  have := h (cs.length + j) v (by rw [List.getElem?_append_right (by omega), Nat.add_sub_cancel_left]; exact hv)
  rwa [← Nat.add_assoc] at this
theorem range_new (w : World) (arr : Array Value) (t : TypeId) : (w.alloc (.cells arr t)).rangeAt w.heap.size 0 arr.toList := fun j v hv => by
  rw [World.cell?_alloc_at _ _ _ _ rfl, Nat.zero_add]
  simpa using hv
theorem there_new (w : World) (arr : Array Value) (t : TypeId) : (w.alloc (.cells arr t)).there w.heap.size 0 arr.size := fun j hj => by
  refine ⟨?_, World.frozen?_alloc_at _ _ _ _ rfl⟩
  rw [World.cell?_alloc_at _ _ _ _ rfl, Nat.zero_add]
  simp [hj]
theorem below_sets {B b : Nat} {a : World} (hb : B ≤ b) : ∀ (vs : List Value) (o : Nat) (w : World), Below B a w → Below B a (w.setCells b o vs)
  | [], _, _, h => h
  | v :: r, o, _, h => below_sets hb r (o + 1) _ (h.setCell (p := ⟨b, o, none⟩) hb v)
theorem size_sets (b : Nat) : ∀ (vs : List Value) (o : Nat) (w : World), (w.setCells b o vs).heap.size = w.heap.size
  | [], _, _ => rfl
  | v :: r, o, _ => by rw [World.setCells, size_sets b r]; simp
end Go.Proofs.Ytaaifcpanflejaa
namespace Go.Proofs.Ytaaifcpanflejaa
open Go.RowKit
open Sha
theorem gb_refl (w : World) (r : Option Nat) : w.grownBy w r := ⟨rfl, rfl, rfl, Nat.le_refl _, fun _ _ _ => rfl⟩
theorem gb_trans {w w1 w2 : World} {r : Option Nat} (h : w.grownBy w1 r) (k : w1.grownBy w2 r) : w.grownBy w2 r :=
  ⟨k.os.trans h.os, k.tape.trans h.tape, k.output.trans h.output, Nat.le_trans h.size k.size, fun i hi hr => (k.block i (Nat.lt_of_lt_of_le hi h.size) hr).trans (h.block i hi hr)⟩
theorem gb_set (w : World) (R j : Nat) (v : Value) : w.grownBy (w.setCell ⟨R, j, none⟩ v) (some R) :=
  ⟨rfl, rfl, rfl, by simp [World.setCell], fun k _ hk => Below.heap_setCell w _ v k (fun e => hk (by rw [e]))⟩
theorem gb_below {w w' : World} (h : Below w.heap.size w w') (r : Option Nat) : w.grownBy w' r := ⟨h.os, h.tape, h.output, h.size, fun k hk _ => h.block k hk⟩
theorem gb_drewN {w w' : World} {r : Option Nat} (h : w.grownBy w' r) (n : Nat) : w.grownBy (w'.drewN n) r := ⟨h.os, h.tape, h.output, h.size, h.block⟩
theorem range_gb {w w' : World} {R b o : Nat} {cs : List Value} (h : w.rangeAt b o cs) (g : w.grownBy w' (some R)) (hn : b ≠ R) : w'.rangeAt b o cs := fun j v hv => g.cell (h j v hv) (by simpa using hn)
/-- the constants' table -/
def kl : List Wd := ks.map (BitVec.ofNat 32)
/-- what is left alone: the receiver's later cells, all other blocks -/
def Keep (R : Nat) (w wr : World) : Prop := (∀ j, 8 ≤ j → wr.cell? ⟨R, j, none⟩ = w.cell? ⟨R, j, none⟩) ∧ (∀ j, wr.frozen? ⟨R, j, none⟩ = w.frozen? ⟨R, j, none⟩) ∧ w.grownBy wr (some R)
theorem Keep.refl (R : Nat) (w : World) : Keep R w w := ⟨fun _ _ => rfl, fun _ => rfl, gb_refl _ _⟩
theorem Keep.drewN {R : Nat} {w wr : World} (h : Keep R w wr) (n : Nat) : Keep R w (wr.drewN n) := ⟨fun j hj => (by simpa using h.1 j hj), fun j => (by simpa using h.2.1 j), gb_drewN h.2.2 n⟩
theorem Keep.below {R : Nat} {w wr wx : World} (h : Keep R w wr) (hb : Below wr.heap.size wr wx) (hR : R < wr.heap.size) : Keep R w wx :=
  ⟨fun j hj => (hb.cell (p := ⟨R, j, none⟩) hR).trans (h.1 j hj), fun j => (hb.frozen (p := ⟨R, j, none⟩) hR).trans (h.2.1 j), gb_trans h.2.2 (gb_below hb _)⟩
theorem range_drewN {w : World} {b o n : Nat} {cs : List Value} (h : w.rangeAt b o cs) : (w.drewN n).rangeAt b o cs := fun j v hv => by simpa using h j v hv
theorem there_drewN {w : World} {b o n m : Nat} (h : w.there b o m) : (w.drewN n).there b o m := fun j hj => by simpa using h j hj
namespace Sha
end Sha
end Go.Proofs.Ytaaifcpanflejaa
namespace Go.Proofs.Ytaaifcpanflejaa
open Go.RowKit
open Sha
/-- a slice of bytes whose elements are zs (nil, empty or over memory that lies there) -/
def RowAt (w : World) (a : Option Addr) (zs : List Int) : Prop :=
  zs.length ≤ maxLen ∧ (∀ z ∈ zs, 0 ≤ z ∧ z < 256) ∧ (zs = [] ∨ ∃ b off, a = some ⟨b, off, none⟩ ∧ b < w.heap.size ∧ w.rangeAt b off (v8 zs))
theorem RowAt.below {w w' : World} {a : Option Addr} {zs : List Int} (h : RowAt w a zs) (hb : Below w.heap.size w w') : RowAt w' a zs := by
  refine ⟨h.1, h.2.1, ?_⟩
  rcases h.2.2 with h | ⟨b, off, rfl, h1, h2⟩
  · exact Or.inl h
  · exact Or.inr ⟨b, off, rfl, Nat.lt_of_lt_of_le h1 hb.size, range_below h2 hb h1⟩
theorem RowAt.gb {w w' : World} {a : Option Addr} {zs : List Int} {R : Nat} (h : RowAt w a zs) (hb : w.grownBy w' (some R)) (hne : zs = [] ∨ ∀ x, a = some x → x.block ≠ R) : RowAt w' a zs := by
  refine ⟨h.1, h.2.1, ?_⟩
  rcases h.2.2 with h | ⟨b, off, rfl, h1, h2⟩
  · exact Or.inl h
  · rcases hne with hne | hne
    · exact Or.inl hne
    · exact Or.inr ⟨b, off, rfl, Nat.lt_of_lt_of_le h1 hb.size, range_gb h2 hb (hne _ rfl)⟩
/-- where x[n:] begins -/
def cutA (a : Option Addr) (cap n : Nat) : Option Addr := if cap = n then a else a.map (·.add n)
theorem cutA_ne {a : Option Addr} {R cap n : Nat} (h : ∀ x, a = some x → x.block ≠ R) : ∀ x, cutA a cap n = some x → x.block ≠ R := by
  intro x hx
  unfold cutA at hx
  split at hx
  · exact h x hx
  · cases a with
    | none => simp at hx
    | some y =>
      simp at hx
      subst hx
      have := h y rfl
      unfold Addr.add
      split <;> simpa using this
theorem RowAt.take {w : World} {a : Option Addr} {zs : List Int} (h : RowAt w a zs) (n : Nat) : RowAt w a (zs.take n) := by
  obtain ⟨h1, h2, h3⟩ := h
  refine ⟨by rw [List.length_take]; omega, fun z hz => h2 z (List.mem_of_mem_take hz), ?_⟩
  rcases h3 with rfl | ⟨b, off, rfl, hb, hc⟩
  · left; simp
  · right
    refine ⟨b, off, rfl, hb, ?_⟩
    have e : v8 zs = v8 (zs.take n) ++ v8 (zs.drop n) := by unfold v8; rw [← List.map_append, List.take_append_drop]
    rw [e] at hc
    exact range_left hc
theorem RowAt.drop {w : World} {a : Option Addr} {zs : List Int} (h : RowAt w a zs) (n cap : Nat) (hn : n ≤ zs.length) (hcap : zs.length ≤ cap) : RowAt w (cutA a cap n) (zs.drop n) := by
  obtain ⟨h1, h2, h3⟩ := h
  refine ⟨by rw [List.length_drop]; omega, fun z hz => h2 z (List.mem_of_mem_drop hz), ?_⟩
  by_cases he : n = zs.length
  · left; simp [he]
  · rcases h3 with rfl | ⟨b, off, rfl, hb, hc⟩
    · left; simp
    · right
      refine ⟨b, off + n, ?_, hb, ?_⟩
      · unfold cutA
        rw [if_neg (by omega), Option.map_some, Addr.add_mid]
      · have e : v8 zs = v8 (zs.take n) ++ v8 (zs.drop n) := by unfold v8; rw [← List.map_append, List.take_append_drop]
        rw [e] at hc
        have := range_right hc
        rwa [v8_length, List.length_take_of_le hn] at this
/-- a digest on its way: the words so far, the bytes that wait, how many came -/
structure Run (w : World) (R : Nat) (s : St) (wait : List Int) (n : Nat) : Prop where
  two : 2 ≤ R
  lt : R < w.heap.size
  thr : w.there R 0 74
  wds : w.rangeAt R 0 (v32 (list s))
  few : wait.length < 64
  ok : ∀ z ∈ wait, 0 ≤ z ∧ z < 256
  buf : ∃ junk : List Int, wait.length + junk.length = 64 ∧ w.rangeAt R 8 (v8 (wait ++ junk))
  held : w.cell? ⟨R, 72, none⟩ = some (.int .i64 (wait.length : Int))
  count : w.cell? ⟨R, 73, none⟩ = some (.int .u64 (n : Int))
  kls : w.rangeAt 1 0 (v32 kl)
namespace Sha
end Sha
theorem Run.drewN {w : World} {R : Nat} {s : St} {wait : List Int} {n : Nat} (h : Run w R s wait n) (k : Nat) : Run (w.drewN k) R s wait n := by
  obtain ⟨h1, h2, h3, h4, h5, h6, ⟨junk, h7, h8⟩, h9, h10, h11⟩ := h
  exact ⟨h1, h2, there_drewN h3, range_drewN h4, h5, h6, ⟨junk, h7, range_drewN h8⟩, h9, h10, range_drewN h11⟩
/-- the bytes c have come behind those that wait; how many wait is told -/
structure Mid (w : World) (R : Nat) (s : St) (bs : List Int) (n : Nat) : Prop where
  two : 2 ≤ R
  lt : R < w.heap.size
  thr : w.there R 0 74
  wds : w.rangeAt R 0 (v32 (list s))
  len : bs.length ≤ 64
  ok : ∀ z ∈ bs, 0 ≤ z ∧ z < 256
  buf : ∃ junk : List Int, bs.length + junk.length = 64 ∧ w.rangeAt R 8 (v8 (bs ++ junk))
  held : w.cell? ⟨R, 72, none⟩ = some (.int .i64 (bs.length : Int))
  count : w.cell? ⟨R, 73, none⟩ = some (.int .u64 (n : Int))
  kls : w.rangeAt 1 0 (v32 kl)
theorem v8_append (a b : List Int) : v8 (a ++ b) = v8 a ++ v8 b := by simp [v8]
theorem Run.fill {w : World} {R : Nat} {s : St} {wait : List Int} {n : Nat} (h : Run w R s wait n) (c : List Int) (hc : wait.length + c.length ≤ 64) (hz : ∀ z ∈ c, 0 ≤ z ∧ z < 256) (wx : World)
    (hw : wx = (w.setCells R (8 + wait.length) (v8 c)).setCell ⟨R, 72, none⟩ (.int .i64 ((wait.length : Int) + (c.length : Int)))) : Mid wx R s (wait ++ c) n := by
  subst hw
  obtain ⟨h1, h2, h3, h4, h5, h6, ⟨junk, h7, h8⟩, h9, h10, h11⟩ := h
  have hl4 : (v32 (list s)).length = 8 := by simp [list]
  have hj : c.length ≤ junk.length := by omega
  obtain ⟨j1, j2, rfl, hj1⟩ : ∃ j1 j2, junk = j1 ++ j2 ∧ j1.length = c.length := ⟨junk.take c.length, junk.drop c.length, (List.take_append_drop _ _).symm, by rw [List.length_take]; omega⟩
  simp only [List.length_append] at h7
  have hrA : (w.setCells R (8 + wait.length) (v8 c)).rangeAt R (8 + wait.length) (v8 c) := World.rangeAt_setCells_same w R (8 + wait.length) (v8 c) (by
    rw [v8_length]
    have := there_part h3 (8 + wait.length) c.length (by omega)
    rwa [Nat.zero_add] at this)
  have hW : (w.setCells R (8 + wait.length) (v8 c)).rangeAt R 8 (v8 ((wait ++ c) ++ j2)) := by
    rw [v8_append, v8_append]
    rw [v8_append, v8_append, ← List.append_assoc] at h8
    have q1 := range_left (range_left h8)
    have q2 := range_right h8
    refine range_join (range_join (World.rangeAt_setCells_apart q1 _ _ _ (Or.inr (Or.inl (by simp)))) (by rw [v8_length]; exact hrA)) ?_
    have q3 := World.rangeAt_setCells_apart q2 R (8 + wait.length) (v8 c) (Or.inr (Or.inr (by simp [hj1]; omega)))
    simp only [List.length_append, v8_length, hj1] at q3 ⊢
    exact q3
  have hs : (w.setCells R (8 + wait.length) (v8 c)).heap.size = w.heap.size := size_sets _ _ _ _
  refine ⟨h1, by simpa [hs] using h2, there_set (World.there_setCells h3 _ _ _) _ _, ?_, by simp; omega, ?_, ⟨j2, by simp; omega, ?_⟩, ?_, ?_, ?_⟩
  · exact range_other (World.rangeAt_setCells_apart h4 _ _ _ (Or.inr (Or.inl (by rw [hl4]; omega)))) _ _ (fun _ => by right; show 0 + (v32 (list s)).length ≤ 72; omega)
  · intro z hz'
    rcases List.mem_append.1 hz' with q | q
    · exact h6 z q
    · exact hz z q
  · exact range_other hW _ _ (fun _ => by right; show 8 + (v8 (wait ++ c ++ j2)).length ≤ 72; simp; omega)
  · have : (w.setCells R (8 + wait.length) (v8 c)).cell? ⟨R, 72, none⟩ = w.cell? ⟨R, 72, none⟩ := World.cell?_setCells_out R _ _ _ _ (fun _ _ => by right; show 8 + wait.length + (v8 c).length ≤ 72; simp; omega)
    rw [World.cell?_setCell_same _ _ _ (this.trans h9)]
    simp
  · rw [World.cell?_setCell_other _ _ _ _ (by simp)]
    have : (w.setCells R (8 + wait.length) (v8 c)).cell? ⟨R, 73, none⟩ = w.cell? ⟨R, 73, none⟩ := World.cell?_setCells_out R _ _ _ _ (fun _ _ => by right; show 8 + wait.length + (v8 c).length ≤ 73; simp; omega)
    rw [this]; exact h10
  · exact range_other (World.rangeAt_setCells_apart h11 _ _ _ (Or.inl (by omega))) _ _ (fun e => absurd e (by simp; omega))
theorem Mid.run {w : World} {R : Nat} {s : St} {bs : List Int} {n : Nat} (h : Mid w R s bs n) (hl : bs.length < 64) : Run w R s bs n := ⟨h.two, h.lt, h.thr, h.wds, hl, h.ok, h.buf, h.held, h.count, h.kls⟩
theorem gb_sets (R : Nat) : ∀ (vs : List Value) (o : Nat) (w : World), w.grownBy (w.setCells R o vs) (some R)
  | [], _, w => gb_refl w _
  | v :: r, o, w => gb_trans (gb_set w R o v) (gb_sets R r (o + 1) _)
end Go.Proofs.Ytaaifcpanflejaa
namespace Go.Proofs.Ytaaifcpanflejaa
open Go.RowKit
open Sha
theorem there_gb {w w' : World} {R b o n : Nat} (h : w.there b o n) (g : w.grownBy w' (some R)) (hb : b < w.heap.size) (hn : b ≠ R) : w'.there b o n := fun j hj => by
  obtain ⟨h1, h2⟩ := h j hj
  obtain ⟨u, hu⟩ := Option.isSome_iff_exists.1 h1
  refine ⟨by rw [g.cell hu (by simpa using hn)]; rfl, ?_⟩
  rw [World.frozen?_of_block (w := w) (g.block b hb (by simpa using hn))]; exact h2
namespace Sha
end Sha
theorem Run.below {w w' : World} {R : Nat} {s : St} {wait : List Int} {n : Nat} (h : Run w R s wait n) (hb : Below w.heap.size w w') : Run w' R s wait n := by
  obtain ⟨h1, h2, h3, h4, h5, h6, ⟨junk, h7, h8⟩, h9, h10, h11⟩ := h
  exact ⟨h1, Nat.lt_of_lt_of_le h2 hb.size, there_below h3 hb h2, range_below h4 hb h2, h5, h6, ⟨junk, h7, range_below h8 hb h2⟩, (hb.cell (p := ⟨R, 72, none⟩) h2).trans h9, (hb.cell (p := ⟨R, 73, none⟩) h2).trans h10, range_below h11 hb (by omega)⟩
namespace Sha
def pre (fill N k : Nat) : List Int := ((128 : Int) :: List.replicate (fill - 1) 0) ++ (size8 N).take k
end Sha
end Go.Proofs.Ytaaifcpanflejaa
namespace Go.Proofs.Ytaaifcpanflejaa
open Go.RowKit
open Sha
/-- the two tables of the package -/
def Glob (w : World) : Prop := w.rangeAt 0 0 (v32 (list init)) ∧ w.rangeAt 1 0 (v32 kl) ∧ 2 ≤ w.heap.size
theorem Glob.below {w w' : World} (h : Glob w) (hb : Below w.heap.size w w') : Glob w' :=
  ⟨range_below h.1 hb (by have := h.2.2; omega), range_below h.2.1 hb (by have := h.2.2; omega), Nat.le_trans h.2.2 hb.size⟩
/-- a part: where it lies, its capacity, its bytes -/
structure Part where
  a : Option Addr
  cap : Nat
  zs : List Int
def Part.val (p : Part) : Value := .slice p.a p.zs.length p.cap
def Part.at (p : Part) (w : World) : Prop := RowAt w p.a p.zs ∧ p.zs.length ≤ p.cap ∧ p.cap ≤ maxLen
/-- a slice of parts -/
def PartsAt (w : World) (a : Option Addr) (ps : List Part) : Prop :=
  ps.length ≤ maxLen ∧ (∀ p ∈ ps, p.at w) ∧ (ps = [] ∨ ∃ b off, a = some ⟨b, off, none⟩ ∧ b < w.heap.size ∧ w.rangeAt b off (ps.map Part.val))
theorem Part.at.below {w w' : World} {p : Part} (h : p.at w) (hb : Below w.heap.size w w') : p.at w' := ⟨h.1.below hb, h.2.1, h.2.2⟩
theorem PartsAt.below {w w' : World} {a : Option Addr} {ps : List Part} (h : PartsAt w a ps) (hb : Below w.heap.size w w') : PartsAt w' a ps := by
  refine ⟨h.1, fun p hp => (h.2.1 p hp).below hb, ?_⟩
  rcases h.2.2 with q | ⟨b, off, rfl, h1, h2⟩
  · exact Or.inl q
  · exact Or.inr ⟨b, off, rfl, Nat.lt_of_lt_of_le h1 hb.size, range_below h2 hb h1⟩
end Go.Proofs.Ytaaifcpanflejaa
namespace Go.Proofs.Ytaaifcpanflejaa
open Go Go.RowKit
section
variable {P : Program} (w : World)

theorem run_append_own_src (base : Nat) (t tx ty e : TypeId) (i : TypeInfo) (z : Value) (size bytes : Nat) (ht : P.underlying t = some (.slice e)) (hi : P.info? e = some i) (hz : i.zero = some z)
    (hsize : i.size = size) (hby : i.bytes = bytes) (hzs : z.cells.size = size)
    (v : Value) (n : Nat) (xs : List Value) (hown : w.ownsRow base e size v n xs)
    (x : Value) (m : Nat) (news : List Value) (hs : Src P size tx x m news w)
    (h63 : n + m ≤ maxLen) (hbytes : (n + m) * bytes ≤ 140737488355328) (hbase : base ≤ w.heap.size) :
    ∃ v' w', (Builtin.append_ #[t, tx] ty #[v, x]).run P w = .ok v' w' ∧ w'.ownsRow base e size v' (n + m) (xs ++ news) ∧ w.grownBy w' v.ownBlock := by
  subst hsize
  subst hby
  have hl := hs.newsLen
  have hlen : (xs ++ news).length = (n + m) * i.size := by rw [List.length_append, hown.1, hl, Nat.add_mul]
  have grown : ∀ (old : Nat), old < n + m → ∀ (row : Option Nat),
      (w.drew.alloc (.cells ((xs ++ news).toArray ++ Builtin.zeroCells z.cells (grownCap w (n + m) old e - (n + m))) e)).ownsRow base e i.size
        (.slice (some ⟨w.heap.size, 0, none⟩) (n + m) (grownCap w (n + m) old e)) (n + m) (xs ++ news) ∧
      w.grownBy (w.drew.alloc (.cells ((xs ++ news).toArray ++ Builtin.zeroCells z.cells (grownCap w (n + m) old e - (n + m))) e)) row := by
    intro old ho row
    have hge := grownCap_ge w (n + m) old e
    have hcm : grownCap w (n + m) old e ≤ maxLen := grownCap_le_maxLen w (n + m) old e h63
    refine ⟨⟨hlen, .inr ⟨w.heap.size, _, _, rfl, hbase, heap_alloc_new w.drew _, hge, hcm, ?_, ?_⟩⟩, ⟨rfl, rfl, rfl, by simp, fun k hk _ => Below.heap_alloc w.drew _ k hk⟩⟩
    · simp only [Array.size_append, List.size_toArray, size_zeroCells, hzs, hlen, ← Nat.add_mul]
      congr 1
      omega
    · simp only [Array.toList_append]
      rw [← hlen]
      exact List.take_left
  have h63' : ((n + m : Nat) : Int) ≤ 9223372036854775807 := by simp only [maxLen] at h63; omega
  rcases hown.2 with ⟨rfl, rfl⟩ | ⟨g, cap, cur, rfl, hbg, hg, hnc, hcm, hcs, htake⟩
  · have hx : xs = [] := List.eq_nil_of_length_eq_zero (by simpa using hown.1)
    subst hx
    by_cases hm : m = 0
    · subst hm
      have hn : news = [] := List.eq_nil_of_length_eq_zero (by simpa using hl)
      subst hn
      refine ⟨.slice none 0 0, w, ?_, World.ownsRow_nil w base e i.size, ⟨rfl, rfl, rfl, Nat.le_refl _, fun _ _ _ => rfl⟩⟩
      have hc := hs.cells
      rcases hs.kind with ⟨e', hk⟩ | hk <;> simp [Builtin.append_, run_underlying ht, run_underlying hk, sizeOf, typeInfo, hi, hs.len, hc]
    · have hr := run_append_grow_src (P := P) w t tx ty e i z ht hi hz none 0 0 [] (run_firstCells_none w.drew i.size 0 0 0) x m news hs (by omega) (by simpa using h63') (growslice_fits (by omega) (by simpa using hbytes))
      have hgr := grown 0 (by omega) (Value.ownBlock (.slice none 0 0))
      exact ⟨_, _, hr, hgr.1, hgr.2⟩
  · by_cases hroom : n + m ≤ cap
    · have hfit : n * i.size + news.length ≤ cur.size := by rw [hl, hcs, ← Nat.add_mul]; exact Nat.mul_le_mul_right _ hroom
      have hst := run_storeCells_at P g (n * i.size) e news 0 cur w hg (by simpa using hfit) hs.one
      simp only [Nat.add_zero] at hst
      have hr : (Builtin.append_ #[t, tx] ty #[.slice (some ⟨g, 0, none⟩) n cap, x]).run P w = .ok (.slice (some ⟨g, 0, none⟩) (n + m) cap) (w.setRow g (cur.toList.take (n * i.size) ++ news ++ cur.toList.drop (n * i.size + news.length)).toArray) := by
        rcases hs.kind with ⟨e', hk⟩ | hk <;> simp [Builtin.append_, run_underlying ht, run_underlying hk, sizeOf, typeInfo, hi, hs.len, hroom, hs.cells, Addr.add_lit, hst]
      refine ⟨_, _, hr, ⟨hlen, .inr ⟨g, cap, _, rfl, hbg, setRow_heap w g cur _ e _ hg, hroom, hcm, ?_, ?_⟩⟩, ⟨rfl, rfl, rfl, by simp, fun k _ hk => setRow_other w g k _ (fun e => hk (by simp [Value.ownBlock, e]))⟩⟩
      · simp only [List.size_toArray, List.length_append, List.length_take, List.length_drop, Array.length_toList]
        omega
      · rw [htake, ← hlen]
        exact List.take_left
    · have holds : ∀ j u, xs[j]? = some u → w.cell? ((⟨g, 0, none⟩ : Addr).add j) = some u := hown.cells (g := g) rfl
      have hr := run_append_grow_src (P := P) w t tx ty e i z ht hi hz (some ⟨g, 0, none⟩) n cap xs (run_firstCells_some w.drew i.size n ⟨g, 0, none⟩ n cap xs hown.1 (by simpa using holds)) x m news hs (by omega) h63' (growslice_fits (by omega) hbytes)
      have hgr := grown cap (by omega) (Value.ownBlock (.slice (some ⟨g, 0, none⟩) n cap))
      exact ⟨_, _, hr, hgr.1, hgr.2⟩

theorem wpList_append_own_src {ops : Array Oper} {rest : List Oper} {o : Oper} {a : Act} {Q : Exit → Act → World → Prop} (hgd : o.guard = none) (s x : Operand) (t tx : TypeId)
    (ho : o.op = .call { callee := .builtin .append, args := #[s, x], argTypes := #[t, tx] })
    (base : Nat) (e : TypeId) (i : TypeInfo) (z : Value) (size bytes : Nat) (ht : P.underlying t = some (.slice e)) (hi : P.info? e = some i) (hz : i.zero = some z)
    (hsize : i.size = size) (hby : i.bytes = bytes) (hzs : z.cells.size = size)
    (v : Value) (n : Nat) (xs : List Value) (hv : a.eval s = v) (hown : w.ownsRow base e size v n xs)
    (xv : Value) (m : Nat) (news : List Value) (hx : a.eval x = xv) (hs : Src P size tx xv m news w)
    (h63 : n + m ≤ maxLen) (hbytes : (n + m) * bytes ≤ 140737488355328) (hbase : base ≤ w.heap.size)
    (h : ∀ v' w', w'.ownsRow base e size v' (n + m) (xs ++ news) → w.grownBy w' v.ownBlock → wpList P ops Q rest (a.put o.dst v') w') : wpList P ops Q (o :: rest) a w := by
  refine wpList_plain hgd fun K hK => ?_
  obtain ⟨v', w', hr, h2, h3⟩ := run_append_own_src (P := P) w base t tx o.type e i z size bytes ht hi hz hsize hby hzs v n xs hown xv m news hs h63 hbytes hbase
  unfold Oper.wp execOp
  simp only [ho, resolve, invoke, builtin, Sem.run_bind, Sem.run_pure, Result.andThen_ok, List.map_toArray, List.map_cons, List.map_nil, hv, hx, hr]
  exact hK _ _ (h v' w' h2 h3)
end
end Go.Proofs.Ytaaifcpanflejaa
namespace Go.Proofs.Ytaaifcpanflejaa
open Go.RowKit
open Sha
theorem info8 : (Try.prog.info? 5).map (fun i => (i.zero, i.size, i.bytes)) = some (some (.int .u8 0), 1, 1) := by kernel_rfl
theorem info_parts {e : TypeId} {z : Value} {s b : Nat} (h : (Try.prog.info? e).map (fun i => (i.zero, i.size, i.bytes)) = some (some z, s, b)) : ∃ i, Try.prog.info? e = some i ∧ i.zero = some z ∧ i.size = s ∧ i.bytes = b := by
  cases hq : Try.prog.info? e with
  | none => rw [hq] at h; cases h
  | some i =>
    rw [hq] at h
    simp only [Option.map_some, Option.some.injEq, Prod.mk.injEq] at h
    exact ⟨i, rfl, h.1, h.2.1, h.2.2⟩
theorem below_grown {B : Nat} {w w1 w2 : World} {e : TypeId} {v : Value} {n : Nat} {xs : List Value} (hb : Below B w w1) (hB : B ≤ w1.heap.size) (ho : w1.ownsRow B e 1 v n xs) (hg : w1.grownBy w2 v.ownBlock) : Below B w w2 :=
  hb.grown hg hB (fun k hk => (ho.lt k hk).1)
/-- where a row of one's own lies -/
theorem own_range {w : World} {B : Nat} {e : TypeId} {v : Value} {n : Nat} {xs : List Value} (h : w.ownsRow B e 1 v n xs) :
    (v = .slice none 0 0 ∧ n = 0 ∧ xs = []) ∨ ∃ g cap, v = .slice (some ⟨g, 0, none⟩) n cap ∧ B ≤ g ∧ g < w.heap.size ∧ n ≤ cap ∧ cap ≤ maxLen ∧ w.rangeAt g 0 xs := by
  have hl := h.1
  rcases h.2 with ⟨rfl, h0⟩ | ⟨g, cap, cur, rfl, hb, hg, hn, hcm, hcs, ht⟩
  · left
    refine ⟨rfl, h0, List.eq_nil_of_length_eq_zero (by rw [hl, h0])⟩
  · right
    refine ⟨g, cap, rfl, hb, (Array.getElem?_eq_some_iff.1 hg).1, hn, hcm, fun j u hu => ?_⟩
    have := h.cells (g := g) rfl j u hu
    rwa [Addr.add_mid] at this
theorem own_bytes {w : World} {B : Nat} {v : Value} {zs : List Int} (h : w.ownsRow B 5 1 v zs.length (v8 zs)) (hz : ∀ z ∈ zs, 0 ≤ z ∧ z < 256) (hm : zs.length ≤ maxLen) :
    ∃ a cap, v = .slice a zs.length cap ∧ zs.length ≤ cap ∧ cap ≤ maxLen ∧ RowAt w a zs := by
  rcases own_range h with ⟨rfl, h0, _⟩ | ⟨g, cap, rfl, hb, hg, hn, hcm, hr⟩
  · have : zs = [] := List.eq_nil_of_length_eq_zero h0
    subst this
    exact ⟨none, 0, rfl, by simp, by unfold maxLen; omega, hm, hz, Or.inl rfl⟩
  · exact ⟨_, cap, rfl, hn, hcm, hm, hz, Or.inr ⟨g, 0, rfl, hg, hr⟩⟩
/-- a slice of bytes as what is appended -/
theorem RowAt.src {w : World} {a : Option Addr} {zs : List Int} (h : RowAt w a zs) (cap : Nat) : Src Try.prog 1 46 (.slice a zs.length cap) zs.length (v8 zs) w := by
  cases a with
  | none =>
    have : zs = [] := by
      rcases h.2.2 with q | ⟨b, off, hx, _⟩
      · exact q
      · cases hx
    subst this
    exact Src.ofNil w Try.underlying46 cap
  | some x =>
    refine Src.ofSlice w Try.underlying46 x zs.length cap _ (by simp) (fun j u hu => ?_) (v8_one _)
    rcases h.2.2 with rfl | ⟨b, off, hx, _, hr⟩
    · simp [v8] at hu
    · cases hx
      rw [Addr.add_mid]
      exact hr j u hu
/-- A slice of integers that came in. -/
def IsRow (k : IntKind) (w : World) (a : Option Addr) (len cap : Nat) (zs : List Int) : Prop :=
  (a = none ∧ len = 0 ∧ cap = 0 ∧ zs = []) ∨
  ∃ x, a = some x ∧ len ≤ cap ∧ cap ≤ maxLen ∧ zs.length = cap ∧ (∀ i, i < zs.length → w.cell? (x.add i) = some (.int k (zs.getD i 0))) ∧ ∀ n ∈ zs, (Lit.int k n).wf = true
theorem IsRow.cells {k : IntKind} {w : World} {a : Option Addr} {len cap : Nat} {zs : List Int} (h : IsRow k w a len cap zs) :
    len ≤ cap ∧ cap ≤ maxLen ∧ (zs.take len).length = len ∧ (∀ z ∈ zs.take len, (Lit.int k z).wf = true) ∧ (zs.take len = [] ∨ ∃ b off, a = some ⟨b, off, none⟩ ∧ b < w.heap.size ∧ w.rangeAt b off ((zs.take len).map (Value.int k))) := by
  rcases h with ⟨rfl, rfl, rfl, rfl⟩ | ⟨x, rfl, hl, hm, hz, hcell, hwz⟩
  · simp
  · refine ⟨hl, hm, by rw [List.length_take]; omega, fun z hz => hwz z (List.mem_of_mem_take hz), ?_⟩
    by_cases h0 : len = 0
    · left; simp [h0]
    · right
      obtain ⟨b, off, spot⟩ := x
      have hc := hcell 0 (by omega)
      have hspot : spot = none := by simpa [Addr.add] using World.cell?_spot hc
      subst hspot
      refine ⟨b, off, rfl, ?_, fun j v hv => ?_⟩
      · have := World.block_lt_of_cell? w _ hc; simpa [Addr.add] using this
      · have hj : j < (zs.take len).length := by
          have := (List.getElem?_eq_some_iff.1 hv).1
          simpa using this
        rw [List.length_take] at hj
        have hcj := hcell j (by omega)
        rw [Addr.add_mid] at hcj
        rw [hcj, ← hv]
        have hjz : j < zs.length := by omega
        simp only [List.getElem?_map, List.getElem?_take]
        rw [if_pos (by omega), List.getElem?_eq_getElem hjz, List.getD_eq_getElem?_getD, List.getElem?_eq_getElem hjz]
        rfl
theorem IsRow.rowAt {w : World} {a : Option Addr} {len cap : Nat} {zs : List Int} (h : IsRow .u8 w a len cap zs) : ∃ ys : List Int, len = ys.length ∧ len ≤ cap ∧ cap ≤ maxLen ∧ RowAt w a ys := by
  obtain ⟨h1, h2, h3, h4, h5⟩ := h.cells
  refine ⟨zs.take len, h3.symm, h1, h2, by omega, fun z hz => ?_, h5⟩
  have := h4 z hz
  simp [Lit.wf, IntKind.min, IntKind.max, IntKind.signed, IntKind.bits] at this
  omega
/-- a slice of ints -/
def RowI (w : World) (a : Option Addr) (zs : List Int) : Prop :=
  zs.length ≤ maxLen ∧ (∀ z ∈ zs, (Lit.int .i64 z).wf = true) ∧ (zs = [] ∨ ∃ b off, a = some ⟨b, off, none⟩ ∧ b < w.heap.size ∧ w.rangeAt b off (zs.map (Value.int .i64)))
end Go.Proofs.Ytaaifcpanflejaa
namespace Go.Proofs.Ytaaifcpanflejaa
open Go.RowKit
/-- what is left of x behind s bits, a byte of it at most: the bits of x are s more -/
theorem len_arm (x s : Nat) (y : Int) (hx : x < 2 ^ 63) (hy0 : 0 ≤ y) (hy1 : y ≤ 255) (hy : y.toNat = x / 2 ^ s) (h : s = 0 ∨ 2 ^ s ≤ x) :
    Lib.len8 y = (Lib.bitLen x : Int) - s ∧ (Lib.bitLen x : Int) - s ≤ 8 ∧ 0 ≤ (Lib.bitLen x : Int) - s := by
  have e : Lib.bitLen x = s + Lib.bitLen (x / 2 ^ s) := by
    rcases h with rfl | h
    · simp
    · exact Lib.bitLen_shift s x h (by omega)
  have l := Lib.bitLen_le8' y hy0 hy1
  rw [Lib.len8_of y hy0 hy1, hy]
  rw [hy] at l
  omega
/-- an index into the table of math/bits, however its text lies in the program -/
theorem wpList_index_len8 {P : Program} {w : World} {ops : Array Oper} {rest : List Oper} {o : Oper} {a : Act} {Q : Exit → Act → World → Prop} (hgd : o.guard = none) (t : TypeId) (tbl : ByteArray) (x : Operand)
    (ho : o.op = .index t (.const (.string tbl)) x) (ht : P.underlying t = some .string) (htbl : tbl = Lib.len8tab) (k : IntKind) (i : Int) (hx : a.eval x = .int k i) (h0 : 0 ≤ i) (h1 : i ≤ 255)
    (h : wpList P ops Q rest (a.put o.dst (.int .u8 (Lib.len8 i))) w) : wpList P ops Q (o :: rest) a w := by
  subst htbl
  refine wpList_plain hgd fun K hK => ?_
  have hr := Lib.run_index_len8tab (P := P) w t k i ht h0 h1
  have hc : a.eval (.const (.string Lib.len8tab)) = .string Lib.len8tab := rfl
  unfold Oper.wp execOp
  simp only [ho, Sem.run_bind, hc, hx, hr, Result.andThen_ok, Sem.run_pure]
  exact hK _ _ h
theorem fold_tab (a b c d : List UInt8) (h : ByteArray.mk ((a.append b).append (c.append d)).toArray = Lib.len8tab) : ByteArray.mk ((a.append b).append (c.append d)).toArray = Lib.len8tab := h
set_option maxHeartbeats 4000000 in
set_option maxRecDepth 100000 in
theorem len64_int (x : Int) (w : World) (h0 : 0 ≤ x) (h1 : x ≤ 9223372036854775807) :
    Calls Try.prog 72 #[.int .u64 x] w fun e w' => e = .returned (.int .i64 (Lib.bitLen x.toNat)) ∧ w' = w := by
  go_enter Try.func72, Try.ntmps72
  rw [fold_tab _ _ _ _ (by kernel_rfl)]
  go_wp2_with (refine wpList_index_len8 rfl 9 Lib.len8tab _ rfl Try.underlying9 rfl .u8 _ rfl ?_ ?_ ?_; (omega); (omega))
  all_goals (go_ret; refine ⟨congrArg Ending.returned (congrArg (Value.int IntKind.i64) ?_), rfl⟩)
  all_goals first
    | (obtain ⟨e, l, m⟩ := len_arm x.toNat 56 (x / 4294967296 / 65536 / 256) (by omega) (by omega) (by omega) (by omega) (by omega); rw [e]; simp only [wrap64]; omega)
    | (obtain ⟨e, l, m⟩ := len_arm x.toNat 48 (x / 4294967296 / 65536) (by omega) (by omega) (by omega) (by omega) (by omega); rw [e]; simp only [wrap64]; omega)
    | (obtain ⟨e, l, m⟩ := len_arm x.toNat 40 (x / 4294967296 / 256) (by omega) (by omega) (by omega) (by omega) (by omega); rw [e]; simp only [wrap64]; omega)
    | (obtain ⟨e, l, m⟩ := len_arm x.toNat 32 (x / 4294967296) (by omega) (by omega) (by omega) (by omega) (by omega); rw [e]; simp only [wrap64]; omega)
    | (obtain ⟨e, l, m⟩ := len_arm x.toNat 24 (x / 65536 / 256) (by omega) (by omega) (by omega) (by omega) (by omega); rw [e]; simp only [wrap64]; omega)
    | (obtain ⟨e, l, m⟩ := len_arm x.toNat 16 (x / 65536) (by omega) (by omega) (by omega) (by omega) (by omega); rw [e]; simp only [wrap64]; omega)
    | (obtain ⟨e, l, m⟩ := len_arm x.toNat 8 (x / 256) (by omega) (by omega) (by omega) (by omega) (by omega); rw [e]; simp only [wrap64]; omega)
    | (obtain ⟨e, l, m⟩ := len_arm x.toNat 0 (x) (by omega) (by omega) (by omega) (by omega) (by omega); rw [e]; simp only [wrap64]; omega)
end Go.Proofs.Ytaaifcpanflejaa
namespace Go.Proofs.Ytaaifcpanflejaa
namespace Tal
open Go

/-- how many bytes a number has -/
def wid (n : Nat) : Nat := (Lib.bitLen n + 7) / 8
/-- the lowest k digits, the highest of them first -/
def digK : Nat → Nat → List Int
  | 0, _ => []
  | k + 1, n => digK k (n / 256) ++ [((n % 256 : Nat) : Int)]
def digs (n : Nat) : List Int := digK (wid n) n
/-- a number's bytes -/
def numB (n : Nat) : List Int := (wid n : Int) :: digs n
/-- what Put lays behind -/
def putL (n : Int) : List Int := if n < 0 then [] else numB n.toNat

theorem wid_zero : wid 0 = 0 := by decide
theorem wid_succ (n : Nat) (h0 : 0 < n) (h : n < 2 ^ 63) : wid n = wid (n / 256) + 1 := by
  unfold wid
  by_cases h2 : 256 ≤ n
  · rw [Lib.bitLen_shift8 n h2 (by omega)]; omega
  · have e : n / 256 = 0 := by omega
    have h3 := Lib.bitLen_half n (by omega) (by omega)
    have h4 := Lib.bitLen_le8 ⟨n, by omega⟩
    simp only at h4
    rw [e]
    have : Lib.bitLen 0 = 0 := by decide
    rw [this]
    omega
theorem wid_bounds : ∀ (k n : Nat), n < 2 ^ 63 → n < 256 ^ k → wid n ≤ k ∧ n < 256 ^ wid n ∧ (0 < n → 0 < wid n ∧ 256 ^ (wid n - 1) ≤ n)
  | 0, n, _, h => by
    have : n = 0 := by simpa using h
    subst this
    rw [wid_zero]; simp
  | k + 1, n, hn, h => by
    by_cases h0 : n = 0
    · subst h0; rw [wid_zero]; simp
    · have hs := wid_succ n (by omega) hn
      obtain ⟨a, b, c⟩ := wid_bounds k (n / 256) (by omega) (by rw [Nat.pow_succ] at h; omega)
      rw [hs]
      refine ⟨by omega, by rw [Nat.pow_succ]; omega, fun _ => ⟨by omega, ?_⟩⟩
      rw [Nat.add_sub_cancel]
      by_cases h1 : n / 256 = 0
      · rw [h1, wid_zero]; simp; omega
      · obtain ⟨c1, c2⟩ := c (by omega)
        have : wid (n / 256) = wid (n / 256) - 1 + 1 := by omega
        rw [this, Nat.pow_succ]
        omega
theorem wid_le (n : Nat) (h : n < 2 ^ 63) : wid n ≤ 8 := (wid_bounds 8 n h (by omega)).1

theorem digK_length : ∀ k n, (digK k n).length = k
  | 0, _ => rfl
  | k + 1, n => by simp [digK, digK_length k]
theorem digK_byte : ∀ k n, ∀ z ∈ digK k n, 0 ≤ z ∧ z < 256
  | 0, _, z, h => by simp [digK] at h
  | k + 1, n, z, h => by
    simp only [digK, List.mem_append, List.mem_singleton] at h
    rcases h with h | rfl
    · exact digK_byte k _ z h
    · omega
theorem digK_get : ∀ k n i, i < k → (digK k n).getD i 0 = ((n / 256 ^ (k - 1 - i) % 256 : Nat) : Int)
  | 0, _, _, h => by omega
  | k + 1, n, i, h => by
    simp only [digK, List.getD_eq_getElem?_getD]
    by_cases hi : i < k
    · rw [List.getElem?_append_left (by rw [digK_length]; exact hi), ← List.getD_eq_getElem?_getD, digK_get k (n / 256) i hi, Nat.div_div_eq_div_mul]
      have e : k + 1 - 1 - i = (k - 1 - i) + 1 := by omega
      rw [e, Nat.pow_succ, Nat.mul_comm]
    · have e : i = k := by omega
      subst e
      rw [List.getElem?_append_right (by rw [digK_length]; exact Nat.le_refl _), digK_length]
      simp
theorem digs_zero : digs 0 = [] := by unfold digs; rw [wid_zero]; rfl
theorem digs_succ (n : Nat) (h0 : 0 < n) (h : n < 2 ^ 63) : digs n = digs (n / 256) ++ [((n % 256 : Nat) : Int)] := by
  unfold digs
  rw [wid_succ n h0 h]; rfl
theorem digs_length (n : Nat) : (digs n).length = wid n := digK_length _ _
theorem digs_byte (n : Nat) : ∀ z ∈ digs n, 0 ≤ z ∧ z < 256 := digK_byte _ _
theorem putL_byte (n : Int) (h : n < 2 ^ 63) : ∀ z ∈ putL n, 0 ≤ z ∧ z < 256 := by
  intro z hz
  unfold putL at hz
  split at hz
  · simp at hz
  · simp only [numB, List.mem_cons] at hz
    rcases hz with rfl | hz
    · have := wid_le n.toNat (by omega); omega
    · exact digs_byte _ z hz
theorem putL_length (n : Int) (h : n < 2 ^ 63) : (putL n).length ≤ 9 := by
  unfold putL
  split
  · simp
  · simp only [numB, List.length_cons, digs_length]
    have := wid_le n.toNat (by omega); omega

/-- back -/
def val (l : List Int) : Int := l.foldl (fun a d => a * 256 + d) 0
theorem val_snoc (l : List Int) (d : Int) : val (l ++ [d]) = val l * 256 + d := by simp [val, List.foldl_append]
theorem val_digK : ∀ k n, val (digK k n) = ((n % 256 ^ k : Nat) : Int)
  | 0, n => by simp [digK, val, Nat.mod_one]
  | k + 1, n => by
    rw [digK, val_snoc, val_digK k (n / 256), Nat.pow_succ, Nat.mul_comm (256 ^ k) 256, Nat.mod_mul]
    omega
theorem val_digs (n : Nat) (h : n < 2 ^ 63) : val (digs n) = n := by
  unfold digs
  rw [val_digK, Nat.mod_eq_of_lt (wid_bounds 8 n h (by omega)).2.1]
end Tal
end Go.Proofs.Ytaaifcpanflejaa
namespace Go.Proofs.Ytaaifcpanflejaa
open Go.RowKit
open Tal
theorem bitLen_le64 (x : Nat) (h : x < 2 ^ 63) : Lib.bitLen x ≤ 64 := by
  have := wid_le x h; unfold wid at this; omega
set_option maxRecDepth 20000 in
set_option maxHeartbeats 400000 in
theorem width_any (n : Int) (w : World) (h0 : 0 ≤ n) (h1 : n ≤ 9223372036854775807) :
    Calls Try.prog 66 #[.int .i64 n] w fun e w' => e = .returned (.int .i64 (wid n.toNat)) ∧ w' = w := by
  have hl := bitLen_le64 n.toNat (by omega)
  have HW : Hid ((wid n.toNat : Int) = ((Lib.bitLen n.toNat : Int) + 7) / 8) := by show _ = _; unfold wid; omega
  go_enter Try.func66, Try.ntmps66
  go_wp2_with fail
  refine (len64_int n _ h0 h1).mono ?_
  rintro e w1 ⟨rfl, rfl⟩
  go_wp2
  go_ret
  rw [HW.out]
  exact ⟨rfl, rfl⟩
set_option maxRecDepth 20000 in
set_option maxHeartbeats 400000 in
theorem size_any (n : Int) (w : World) (h1 : n ≤ 9223372036854775807) :
    Calls Try.prog 65 #[.int .i64 n] w fun e w' => e = .returned (.int .i64 ((putL n).length : Int)) ∧ w' = w := by
  by_cases h0 : n < 0
  · have HP : Hid (putL n = []) := by show _ = _; simp [putL, h0]
    go_enter Try.func65, Try.ntmps65
    go_wp2
    go_ret
    rw [HP.out]
    exact ⟨rfl, rfl⟩
  · have hw := wid_le n.toNat (by omega)
    have HP : Hid (((putL n).length : Int) = 1 + (wid n.toNat : Int)) := by show _ = _; simp only [putL, if_neg h0, numB, List.length_cons, digs_length]; omega
    go_enter Try.func65, Try.ntmps65
    go_wp2_with fail
    refine (width_any n _ (by omega) h1).mono ?_
    rintro e w1 ⟨rfl, rfl⟩
    go_wp2
    go_ret
    rw [HP.out]
    exact ⟨rfl, rfl⟩
end Go.Proofs.Ytaaifcpanflejaa
namespace Go.Proofs.Ytaaifcpanflejaa
open Go.RowKit
open Tal
/-- bytes of the call's own, from block B on -/
def Mine (w : World) (B : Nat) (v : Value) (zs : List Int) : Prop := w.ownsRow B 5 1 v zs.length (zs.map (Value.int .u8)) ∧ ∀ z ∈ zs, 0 ≤ z ∧ z < 256
theorem Mine.below {w w' : World} {B : Nat} {v : Value} {zs : List Int} (h : Mine w B v zs) (hb : Below w.heap.size w w') : Mine w' B v zs := by
  refine ⟨⟨h.1.1, ?_⟩, h.2⟩
  rcases h.1.2 with h | ⟨g, cap, cur, hv, hg, hh, r⟩
  · exact .inl h
  · exact .inr ⟨g, cap, cur, hv, hg, by rw [hb.block g (Array.getElem?_eq_some_iff.1 hh).1]; exact hh, r⟩
theorem Mine.rowAt {w : World} {B : Nat} {v : Value} {zs : List Int} (h : Mine w B v zs) (hm : zs.length ≤ maxLen) : ∃ a cap, v = .slice a zs.length cap ∧ zs.length ≤ cap ∧ cap ≤ maxLen ∧ RowAt w a zs :=
  own_bytes h.1 h.2 hm

set_option maxRecDepth 20000 in
set_option maxHeartbeats 800000 in
theorem room_any (a : Option Addr) (cap : Nat) (zs : List Int) (more : Nat) (w : World) (h : RowAt w a zs) (hm : zs.length + more ≤ 1099511627776) :
    Calls Try.prog 64 #[.slice a zs.length cap, .int .i64 (more : Int)] w fun e w' => ∃ v, e = .returned v ∧ Mine w' w.heap.size v zs ∧ Below w.heap.size w w' := by
  obtain ⟨i0, hi, hz0, hz1, hz2⟩ := info_parts info8
  go_enter Try.func64, Try.ntmps64
  go_wp2_with (first
    | refine wpList_make_own _ rfl _ _ 46 rfl w.heap.size 5 i0 (.int .u8 0) 1 Try.underlying46 hi hz0 hz1 .i64 .i64 _ (zs.length + more) rfl rfl ?d1 ?d2 ?d3 ?d4 ?_)
  case d1 => omega
  case d2 => rw [hz2]; omega
  case d3 => unfold maxLen; omega
  case d4 => exact Nat.le_refl _
  intro w1 hown hgrow
  have hb1 : Below w.heap.size w w1 := (Below.refl _ _).grown hgrow (Nat.le_refl _) (fun k hk => by cases hk)
  go_wp2_with (at_builtin; refine wpList_append_own_src _ rfl _ _ 46 46 rfl w.heap.size 5 i0 (.int .u8 0) 1 1 Try.underlying46 hi hz0 hz1 hz2 rfl _ 0 [] rfl hown (.slice a zs.length cap) zs.length (zs.map (Value.int .u8)) rfl ((h.below hb1).src cap) ?c1 ?c2 ?c3 ?_)
  case c1 => unfold maxLen; omega
  case c2 => omega
  case c3 => exact hb1.size
  intro v' w2 hown2 hgrow2
  have hb2 := below_grown hb1 hb1.size hown hgrow2
  go_wp2
  go_ret
  exact ⟨_, rfl, ⟨by simpa using hown2, h.2.1⟩, hb2⟩

theorem Mine.mk' {w : World} {B m : Nat} {v : Value} {xs : List Value} (L : List Int) (h : w.ownsRow B 5 1 v m xs) (hm : m = L.length) (hx : xs = L.map (Value.int .u8)) (hb : ∀ z ∈ L, 0 ≤ z ∧ z < 256) : Mine w B v L := by
  subst hm; subst hx; exact ⟨h, hb⟩
theorem dig_shift (n : Int) (K k : Nat) (h0 : 0 ≤ n) (hK : wid n.toNat = K) (hk : k < K) : n / 2 ^ (8 * (K - 1 - k)) % 256 = (digs n.toNat).getD k 0 := by
  unfold digs
  rw [hK, digK_get K n.toNat k hk]
  obtain ⟨m, rfl⟩ := Int.eq_ofNat_of_zero_le h0
  simp only [Int.toNat_natCast]
  have e : ((2 : Int) ^ (8 * (K - 1 - k))) = ((256 ^ (K - 1 - k) : Nat) : Int) := by
    rw [Int.natCast_pow, Int.pow_mul]; rfl
  rw [e, Int.natCast_emod, Int.natCast_ediv]
  rfl
theorem b1_src (w : World) (b : Int) : Src Try.prog 1 46 (.slice (some ⟨w.heap.size, 0, none⟩) 1 1) 1 [.int .u8 b] (w.alloc (.cells #[.int .u8 b] 5)) := by
  refine Src.ofSlice _ Try.underlying46 ⟨w.heap.size, 0, none⟩ 1 1 [.int .u8 b] rfl (fun j u hu => ?_) (fun u hu => ?_)
  · match j, hu with
    | 0, hu =>
      simp at hu; subst hu
      show (w.alloc (.cells #[.int .u8 b] 5)).cell? ⟨w.heap.size, 0, none⟩ = _
      rw [World.cell?_alloc_at _ _ _ _ rfl]; rfl
  · simp at hu; subst hu; rfl

set_option maxRecDepth 20000 in
set_option maxHeartbeats 800000 in
theorem put_any (a : Option Addr) (cap : Nat) (zs : List Int) (n : Int) (w : World) (h : RowAt w a zs) (hm : zs.length ≤ 549755813888) (hn : n ≤ 9223372036854775807) :
    Calls Try.prog 52 #[.slice a zs.length cap, .int .i64 n] w fun e w' => ∃ v, e = .returned v ∧ Mine w' w.heap.size v (zs ++ putL n) ∧ Below w.heap.size w w' := by
  obtain ⟨i0, hi, hz0, hz1, hz2⟩ := info_parts info8
  have hpl := putL_length n (by omega)
  by_cases h0 : n < 0
  · have HP : Hid (putL n = []) := by show _ = _; simp [putL, h0]
    go_enter Try.func52, Try.ntmps52
    go_wp2_with fail
    refine (size_any n _ hn).mono ?_
    rintro e w1 ⟨rfl, rfl⟩
    go_wp2_with fail
    refine (room_any a cap zs _ w1 h (by omega)).mono ?_
    rintro e w2 ⟨v, rfl, hmine, hb⟩
    go_wp2
    go_ret
    rw [HP.out, List.append_nil]
    exact ⟨_, rfl, hmine, hb⟩
  · have hw := wid_le n.toNat (by omega)
    have HP : Hid (putL n = (wid n.toNat : Int) :: digs n.toNat) := by show _ = _; simp [putL, h0, numB]
    go_enter Try.func52, Try.ntmps52
    go_wp2_with fail
    refine (size_any n _ hn).mono ?_
    rintro e w1 ⟨rfl, rfl⟩
    go_wp2_with fail
    refine (room_any a cap zs _ w1 h (by omega)).mono ?_
    rintro e w2 ⟨v, rfl, hmine, hb⟩
    clear hpl
    go_wp2_with fail
    refine (width_any n _ (by omega) hn).mono ?_
    rintro e w3 ⟨rfl, rfl⟩
    generalize hK : wid n.toNat = K at hw HP
    go_wp2_with (at_builtin; refine wpList_append_own_src _ rfl _ _ 46 46 rfl w1.heap.size 5 i0 (.int .u8 0) 1 1 Try.underlying46 hi hz0 hz1 hz2 rfl _ zs.length _ rfl (hmine.1.alloc _) _ 1 _ rfl (b1_src _ _) ?c1 ?c2 ?c3 ?_)
    case c1 => unfold maxLen; omega
    case c2 => omega
    case c3 => have := hb.size; simp; omega
    intro v2 w4 hown2 hgrow2
    have HK : Hid (wid n.toNat = K) := hK
    have hb4 : Below w1.heap.size w1 w4 := below_grown (hb.alloc hb.size _) (by have := hb.size; simp; omega) (hmine.1.alloc (.cells #[.int .u8 (K : Int)] 5)) hgrow2
    have hM4 : Mine w4 w1.heap.size v2 (zs ++ (K : Int) :: (digs n.toNat).take 0) := by
      refine ⟨by simpa using hown2, fun z hz => ?_⟩
      simp only [List.take_zero, List.mem_append, List.mem_singleton] at hz
      rcases hz with hz | rfl
      · exact hmine.2 z hz
      · omega
    clear hown2 hgrow2 hmine hK
    go_wp2_with fail
    go_loopw [5, 23] (fun o i wr => ∃ k : Nat, k ≤ K ∧ i = .int .i64 k ∧ Mine wr w1.heap.size o (zs ++ (K : Int) :: (digs n.toNat).take k) ∧ Below w1.heap.size w1 wr) (fun _ i _ => K - (intOf i).toNat)
    case atStart => exact ⟨0, by omega, rfl, hM4, hb4⟩
    case round =>
      obtain ⟨k, hk, rfl, hmi, hbr⟩ := hrel
      by_cases hlt : k < K
      · go_wp2_with (at_builtin; refine wpList_append_own_src _ rfl _ _ 46 46 rfl w1.heap.size 5 i0 (.int .u8 0) 1 1 Try.underlying46 hi hz0 hz1 hz2 rfl _ _ _ rfl (hmi.1.alloc _) _ 1 _ rfl (b1_src _ _) ?c1 ?c2 ?c3 ?_)
        case c1 => simp only [List.length_append, List.length_cons, List.length_take, digs_length]; unfold maxLen; omega
        case c2 => simp only [List.length_append, List.length_cons, List.length_take, digs_length]; omega
        case c3 => have := hbr.size; simp; omega
        intro v5 w5 hown5 hgrow5
        have hb5 : Below w1.heap.size w1 w5 := below_grown (hbr.alloc hbr.size _) (by have := hbr.size; simp; omega) (hmi.1.alloc (.cells #[.int .u8 (n / 2 ^ (8 * (K - 1 - k)) % 256)] 5)) hgrow5
        have hM5 : Mine w5 w1.heap.size v5 (zs ++ (K : Int) :: (digs n.toNat).take (k + 1)) := by
          have hkd : k < (digs n.toNat).length := by rw [digs_length, HK.out]; exact hlt
          have ed := dig_shift n K k h0 HK.out hlt
          have et : (digs n.toNat).take (k + 1) = (digs n.toNat).take k ++ [n / 2 ^ (8 * (K - 1 - k)) % 256] := by
            rw [ed, List.take_succ_eq_append_getElem hkd, List.getD_eq_getElem?_getD, List.getElem?_eq_getElem hkd]; rfl
          refine Mine.mk' _ hown5 ?_ ?_ (fun z hz => ?_)
          · simp only [List.length_append, List.length_cons, List.length_take]; omega
          · rw [et]; simp
          · simp only [List.mem_append, List.mem_cons] at hz
            rcases hz with hz | rfl | hz
            · exact h.2.1 z hz
            · omega
            · exact digs_byte _ z (List.mem_of_mem_take hz)
        clear hown5 hgrow5 hmi
        go_wp2_with fail
        go_roundw
        case rel => exact ⟨k + 1, by omega, by go_num, hM5, hb5⟩
        case measure => simp [intOf]; omega
      · obtain rfl : k = K := by omega
        have e : zs ++ putL n = zs ++ (k : Int) :: (digs n.toNat).take k := by
          rw [HP.out, List.take_of_length_le (by rw [digs_length, HK.out]; exact Nat.le_refl _)]
        go_wp2_with fail
        go_ret
        rw [e]
        exact ⟨_, rfl, hmi, hbr⟩
end Go.Proofs.Ytaaifcpanflejaa
namespace Go.Proofs.Ytaaifcpanflejaa
open Go.RowKit
open Tal
theorem nil_row (w : World) : RowAt w none [] := ⟨by simp, by simp, Or.inl rfl⟩
/-- a string's bytes as numbers -/
def strL (s : ByteArray) : List Int := s.data.toList.map fun b => (b.toNat : Int)
theorem strL_length (s : ByteArray) : (strL s).length = s.size := by unfold strL; rw [List.length_map, Array.length_toList]; rfl
end Go.Proofs.Ytaaifcpanflejaa
namespace Go.Proofs.Ytaaifcpanflejaa
open Go Go.RowKit
section
variable {P : Program} {ops : Array Oper} {Q : Exit → Act → World → Prop}
def HeldS (P : Program) (ops : Array Oper) (Q : Exit → Act → World → Prop) (S : World → Prop) (fuel : Nat) (listed : Array Bool) (a : Act) (w : World) : Prop :=
  wpAnyH P .any ops (NoPanic Q) S fuel listed a w
theorem hs_begin {id : Nat} {S : World → Prop} {a : Act} {w : World} (n : Nat) (hn : ops.size = n) (hm : P.follows .mixedOrders = true) (h : HeldS P ops Q S n (Array.replicate n false) a w.drew) : (Code.region id ops true).wp P Q a w := by
  subst hn
  exact wp_region_noPanic (wp_region_held hm h)
theorem hs_take {i : Nat} {S : World → Prop} {oi : Oper} {d : Option Nat} {v : Value} {fuel : Nat} {listed : Array Bool} {a : Act} {w : World} (hi : ops[i]? = some oi)
    (hs : Region.noSelect ops = true) (hf : Region.free .any ops listed i = true) (hr : (Region.ready .any ops listed).contains i = true)
    (hw : Region.wanted oi (yielded ops a.tmps) = true) (hy : ∀ w', S w' → (execOp a.eval oi).run P w' = .ok (.value v) w') (hS : S w) (hdst : oi.dst = d)
    (h : HeldS P ops Q S fuel (listed.setIfInBounds i true) (a.put d v) w) : HeldS P ops Q S (fuel + 1) listed a w := by
  subst hdst
  exact wpAnyH_take hi hs hf hr (fun _ _ _ h => h) (Or.inl ⟨hw, hy⟩) hS h
theorem hs_skip {i : Nat} {S : World → Prop} {oi : Oper} {d : Option Nat} {fuel : Nat} {listed : Array Bool} {a : Act} {w : World} (hi : ops[i]? = some oi)
    (hs : Region.noSelect ops = true) (hf : Region.free .any ops listed i = true) (hr : (Region.ready .any ops listed).contains i = true)
    (hw : Region.wanted oi (yielded ops a.tmps) = false) (hS : S w) (hdst : oi.dst = d)
    (h : HeldS P ops Q S fuel (listed.setIfInBounds i true) (a.put d undef) w) : HeldS P ops Q S (fuel + 1) listed a w := by
  subst hdst
  exact wpAnyH_take hi hs hf hr (fun _ _ _ h => h) (Or.inr ⟨hw, rfl⟩) hS h
theorem hs_call {i : Nat} {S : World → Prop} {oi : Oper} {d : Option Nat} {f : FuncId} {args : Array Value} {fuel : Nat} {listed : Array Bool} {a : Act} {w : World} (hi : ops[i]? = some oi)
    (hr : Region.ready .any ops listed = [i]) (hw : Region.wanted oi (yielded ops a.tmps) = true) (hy : (execOp a.eval oi).run P w = .ok (.enter f args) w) (hdst : oi.dst = d)
    (h : Calls P f args w fun e w' => ∃ v, e = .returned v ∧ S w' ∧ HeldS P ops Q S fuel (listed.setIfInBounds i true) (a.put d v) w') : HeldS P ops Q S (fuel + 1) listed a w := by
  subst hdst
  refine wpAnyH_all hr (by simp) ?_
  intro j hj
  obtain rfl : j = i := by simpa using hj
  unfold wpOp
  simp only [hi, hw, if_true]
  left
  unfold Oper.wp
  rw [hy]
  refine h.mono ?_
  rintro e w' ⟨v, rfl, hb, hk⟩
  exact ⟨hb, hk⟩
/-- a store that comes up alone -/
theorem hs_store {i : Nat} {S : World → Prop} {oi : Oper} {fuel : Nat} {listed : Array Bool} {a : Act} {w w' : World} (hi : ops[i]? = some oi)
    (hr : Region.ready .any ops listed = [i]) (hw : Region.wanted oi (yielded ops a.tmps) = true) (hy : (execOp a.eval oi).run P w = .ok .skip w') (hdst : oi.dst = none)
    (hS : S w') (h : HeldS P ops Q S fuel (listed.setIfInBounds i true) a w') : HeldS P ops Q S (fuel + 1) listed a w := by
  refine wpAnyH_all hr (by simp) ?_
  intro j hj
  obtain rfl : j = i := by simpa using hj
  unfold wpOp
  simp only [hi, hw, if_true]
  left
  unfold Oper.wp
  rw [hy]
  refine ⟨hS, ?_⟩
  rw [hdst]
  exact h
theorem hs_done {S : World → Prop} {fuel : Nat} {listed : Array Bool} {a : Act} {w : World} (hr : Region.ready .any ops listed = []) (h : Q .normal a w) : HeldS P ops Q S fuel listed a w :=
  wpAnyH_done hr (NoPanic.normal h) fuel
end
end Go.Proofs.Ytaaifcpanflejaa
namespace Go.Proofs.Ytaaifcpanflejaa
open Go.RowKit
open Sha Tal
theorem hide {p : Prop} (h : p) : Hid p := h
def inB (n m : Int) : Bool := decide (0 ≤ n ∧ n ≤ m)
/-- a vote: its kind, epoch, view, slot and digest -/
structure Vt where
  k : Int
  e : Int
  v : Int
  s : Int
  d : List Int
def Vt.cells (x : Vt) : List Value := .int .i64 x.k :: .int .i64 x.e :: .int .i64 x.v :: .int .i64 x.s :: v8 x.d
end Go.Proofs.Ytaaifcpanflejaa
namespace Go.Proofs.Ytaaifcpanflejaa
open Go Go.RowKit
def Off (F : Nat → Prop) (w w' : World) : Prop := Below 0 w w' ∧ ∀ b, b < w.heap.size → ¬ F b → w'.heap[b]? = w.heap[b]?
theorem Off.refl (F : Nat → Prop) (w : World) : Off F w w := ⟨Below.refl _ _, fun _ _ _ => rfl⟩
theorem Off.size {F : Nat → Prop} {w w' : World} (h : Off F w w') : w.heap.size ≤ w'.heap.size := h.1.size
theorem Off.trans {F G : Nat → Prop} {w w1 w2 : World} (h : Off F w w1) (k : Off G w1 w2) (hG : ∀ b, b < w.heap.size → G b → F b) : Off F w w2 :=
  ⟨h.1.trans k.1, fun b hb hf => (k.2 b (Nat.lt_of_lt_of_le hb h.size) (fun hg => hf (hG b hb hg))).trans (h.2 b hb hf)⟩
theorem Off.mono {F G : Nat → Prop} {w w1 : World} (h : Off F w w1) (hG : ∀ b, b < w.heap.size → F b → G b) : Off G w w1 :=
  ⟨h.1, fun b hb hg => h.2 b hb (fun hf => hg (hG b hb hf))⟩
theorem Off.below {F : Nat → Prop} {w w' : World} (h : Off F w w') {n : Nat} (hn : n ≤ w.heap.size) (hF : ∀ b, b < n → ¬ F b) : Below n w w' :=
  ⟨h.1.os, h.1.tape, h.1.output, h.1.size, fun k hk => h.2 k (Nat.lt_of_lt_of_le hk hn) (hF k hk)⟩
theorem Off.drew {F : Nat → Prop} {w w' : World} (h : Off F w w') : Off F w w'.drew := ⟨h.1.drew, fun b hb hf => h.2 b hb hf⟩
theorem owns_at {w w' : World} {base : Nat} {e : TypeId} {size : Nat} {v : Value} {n : Nat} {xs : List Value} (h : w.ownsRow base e size v n xs) (hb : ∀ g, v.ownBlock = some g → w'.heap[g]? = w.heap[g]?) : w'.ownsRow base e size v n xs := by
  refine ⟨h.1, ?_⟩
  rcases h.2 with h1 | ⟨g, cap, cur, rfl, h2, h3, h4⟩
  · exact .inl h1
  · exact .inr ⟨g, cap, cur, rfl, h2, by rw [hb g rfl]; exact h3, h4⟩
end Go.Proofs.Ytaaifcpanflejaa
namespace Go.Proofs.Ytaaifcpanflejaa
open Go.RowKit
open Sha Tal
/-- a writer in block X: its row and whether there would be more -/
structure WrAt (w : World) (X : Nat) (v : Value) (zs : List Int) (lg : Bool) : Prop where
  lt : X < w.heap.size
  c0 : w.cell? ⟨X, 0, none⟩ = some v
  c1 : w.cell? ⟨X, 1, none⟩ = some (.bool lg)
  th : w.there X 0 2
  me : Mine w (X + 1) v zs
theorem WrAt.f0 {w : World} {X : Nat} {v : Value} {zs : List Int} {lg : Bool} (h : WrAt w X v zs lg) : w.frozen? ⟨X, 0, none⟩ = false := by
  have := (h.th 0 (by omega)).2
  simpa using this
theorem WrAt.f1 {w : World} {X : Nat} {v : Value} {zs : List Int} {lg : Bool} (h : WrAt w X v zs lg) : w.frozen? ⟨X, 1, none⟩ = false := by
  have := (h.th 1 (by omega)).2
  simpa using this
theorem Mine.far {w w' : World} {B : Nat} {v : Value} {zs : List Int} (h : Mine w B v zs) (hb : ∀ g, v.ownBlock = some g → w'.heap[g]? = w.heap[g]?) : Mine w' B v zs := ⟨owns_at h.1 hb, h.2⟩
theorem Mine.from {w : World} {B : Nat} {v : Value} {zs : List Int} (h : Mine w B v zs) (g : Nat) (hg : v.ownBlock = some g) : B ≤ g ∧ g < w.heap.size := by
  rcases h.1.2 with ⟨rfl, _⟩ | ⟨g', cap, cur, rfl, h2, h3, h4⟩
  · simp [Value.ownBlock] at hg
  · simp [Value.ownBlock] at hg
    subst hg
    exact ⟨h2, (Array.getElem?_eq_some_iff.1 h3).1⟩
end Go.Proofs.Ytaaifcpanflejaa
namespace Go.Proofs.Ytaaifcpanflejaa
open Go.RowKit
open Sha Tal
/-- the row is laid anew -/
theorem WrAt.row {w w' : World} {X : Nat} {v v' : Value} {zs zs' : List Int} {lg : Bool} (h : WrAt w X v zs lg) (hg : w.grownBy w' v.ownBlock) (hn : Mine w' (X + 1) v' zs') : WrAt (w'.setCell ⟨X, 0, none⟩ v') X v' zs' lg := by
  have hX : w'.heap[X]? = w.heap[X]? := hg.block X h.lt (fun e => by have := (h.me.from X e.symm).1; omega)
  have cc : ∀ i, w'.cell? ⟨X, i, none⟩ = w.cell? ⟨X, i, none⟩ := fun i => by simp [World.cell?, hX]
  refine ⟨by have := h.lt; have := hg.size; simp [World.setCell]; omega, World.cell?_setCell_same (h := (cc 0).trans h.c0) .., ?_, ?_, ?_⟩
  · exact (World.cell?_setCell_other (w := w') (h := (by simp)) ..).trans ((cc 1).trans h.c1)
  · exact there_set (fun j hj => by
      have := h.th j hj
      rw [Nat.zero_add] at this ⊢
      exact ⟨by rw [cc]; exact this.1, (World.frozen?_of_block hX).trans this.2⟩) _ _
  · exact hn.far (fun g hg => Below.heap_setCell _ _ _ _ (by have := (hn.from g hg).1; show g ≠ X; omega))
end Go.Proofs.Ytaaifcpanflejaa
namespace Go.Proofs.Ytaaifcpanflejaa
open Go.RowKit
open Sha Tal
theorem WrAt.below {w w' : World} {X : Nat} {v : Value} {zs : List Int} {lg : Bool} (h : WrAt w X v zs lg) (hb : Below w.heap.size w w') : WrAt w' X v zs lg :=
  ⟨Nat.lt_of_lt_of_le h.lt hb.size, (hb.cell (p := ⟨X, 0, none⟩) h.lt).trans h.c0, (hb.cell (p := ⟨X, 1, none⟩) h.lt).trans h.c1, there_below h.th hb h.lt, h.me.below hb⟩
end Go.Proofs.Ytaaifcpanflejaa
namespace Go.Proofs.Ytaaifcpanflejaa
open Go.RowKit
open Sha Tal
structure Vt.ok (x : Vt) : Prop where
  k : x.k ≤ 9223372036854775807
  e : x.e ≤ 9223372036854775807
  v : x.v ≤ 9223372036854775807
  s : x.s ≤ 9223372036854775807
  dl : x.d.length = 32
  db : ∀ z ∈ x.d, 0 ≤ z ∧ z < 256
theorem Vt.ok.len {x : Vt} (h : x.ok) : x.cells.length = 36 := by
  have := h.dl
  simp [Vt.cells, v8]
  omega
theorem Vt.one (x : Vt) : ∀ v ∈ x.cells, v.oneCell' = true := by
  intro v hv
  simp only [Vt.cells, List.mem_cons] at hv
  rcases hv with rfl | rfl | rfl | rfl | hv
  · rfl
  · rfl
  · rfl
  · rfl
  · exact v8_one x.d v hv
/-- a vote with nothing in it -/
def Vt.zero : Vt := ⟨0, 0, 0, 0, List.replicate 32 0⟩
/-- a message: kind, epoch, leader, view, slot, batch, vote, change, news, digest, cert, state, signs; lists as they are handed about -/
structure Ms where
  k : Int
  e : Int
  l : Int
  v : Int
  s : Int
  q : Bool
  rs : Value
  vt : Vt
  ce : Int
  cl : Int
  cv : Int
  he : Value
  ne : Value
  d : List Int
  ct : Vt
  cs : Value
  st : ByteArray
  sg : Value
def Ms.cells (m : Ms) : List Value := [.int .i64 m.k, .int .i64 m.e, .int .i64 m.l, .int .i64 m.v, .int .i64 m.s, .bool m.q, m.rs] ++ (m.vt.cells ++ ([.int .i64 m.ce, .int .i64 m.cl, .int .i64 m.cv, m.he, m.ne] ++ (v8 m.d ++ (m.ct.cells ++ [m.cs, .string m.st, m.sg]))))
structure Ms.ok (m : Ms) : Prop where
  vt : m.vt.ok
  ct : m.ct.ok
  dl : m.d.length = 32
  db : ∀ z ∈ m.d, 0 ≤ z ∧ z < 256
  rs : m.rs.oneCell' = true
  he : m.he.oneCell' = true
  ne : m.ne.oneCell' = true
  cs : m.cs.oneCell' = true
  sg : m.sg.oneCell' = true
theorem Ms.ok.len {m : Ms} (h : m.ok) : m.cells.length = 119 := by
  have h1 := h.vt.len
  have h2 := h.ct.len
  have h3 := h.dl
  simp only [Ms.cells, List.length_append, List.length_cons, List.length_nil, v8_length]
  omega
theorem Ms.ok.one {m : Ms} (h : m.ok) : ∀ v ∈ m.cells, v.oneCell' = true := by
  intro v hv
  simp only [Ms.cells, List.mem_append, List.mem_cons, List.not_mem_nil, or_false] at hv
  rcases hv with (rfl | rfl | rfl | rfl | rfl | rfl | rfl) | hv | (rfl | rfl | rfl | rfl | rfl) | hv | hv | (rfl | rfl | rfl)
  all_goals first | rfl | exact h.rs | exact h.he | exact h.ne | exact h.cs | exact h.sg | exact Vt.one _ _ hv | exact v8_one _ _ hv
/-- where a message's parts lie -/
structure Ms.at (m : Ms) (w : World) (b : Nat) : Prop where
  k : w.cell? ⟨b, 0, none⟩ = some (.int .i64 m.k)
  e : w.cell? ⟨b, 1, none⟩ = some (.int .i64 m.e)
  l : w.cell? ⟨b, 2, none⟩ = some (.int .i64 m.l)
  v : w.cell? ⟨b, 3, none⟩ = some (.int .i64 m.v)
  s : w.cell? ⟨b, 4, none⟩ = some (.int .i64 m.s)
  q : w.cell? ⟨b, 5, none⟩ = some (.bool m.q)
  rs : w.cell? ⟨b, 6, none⟩ = some m.rs
  vt : w.rangeAt b 7 m.vt.cells
  ce : w.cell? ⟨b, 43, none⟩ = some (.int .i64 m.ce)
  cl : w.cell? ⟨b, 44, none⟩ = some (.int .i64 m.cl)
  cv : w.cell? ⟨b, 45, none⟩ = some (.int .i64 m.cv)
  he : w.cell? ⟨b, 46, none⟩ = some m.he
  ne : w.cell? ⟨b, 47, none⟩ = some m.ne
  d : w.rangeAt b 48 (v8 m.d)
  ct : w.rangeAt b 80 (m.ct.cells ++ [m.cs])
  st : w.cell? ⟨b, 117, none⟩ = some (.string m.st)
  sg : w.cell? ⟨b, 118, none⟩ = some m.sg
theorem Ms.ok.at {m : Ms} (h : m.ok) {w : World} {b : Nat} (hr : w.rangeAt b 0 m.cells) : m.at w b := by
  have h1 := h.vt.len
  have h2 := h.ct.len
  have h3 := h.dl
  have a0 := range_left hr
  have a1 := range_right hr
  have b0 := range_left a1
  have b1 := range_right a1
  have c0 := range_left b1
  have c1 := range_right b1
  have d0 := range_left c1
  have d1 := range_right c1
  have e0 := range_left d1
  have e1 := range_right d1
  simp only [List.length_cons, List.length_nil, v8_length, h1, h2, h3, Nat.zero_add, Nat.reduceAdd] at b0 c0 d0 e0 e1
  refine ⟨a0 0 _ rfl, a0 1 _ rfl, a0 2 _ rfl, a0 3 _ rfl, a0 4 _ rfl, a0 5 _ rfl, a0 6 _ rfl, b0, c0 0 _ rfl, c0 1 _ rfl, c0 2 _ rfl, c0 3 _ rfl, c0 4 _ rfl, d0, ?_, e1 1 _ rfl, e1 2 _ rfl⟩
  refine range_join e0 ?_
  rw [h2]
  intro j v hv
  match j, hv with
  | 0, hv => cases hv; exact e1 0 _ rfl
theorem Ms.at.below {m : Ms} {w w' : World} {b : Nat} (h : m.at w b) (hb : b < w.heap.size) (hB : Below w.heap.size w w') : m.at w' b := by
  have c : ∀ i v, w.cell? ⟨b, i, none⟩ = some v → w'.cell? ⟨b, i, none⟩ = some v := fun i v hv => (hB.cell (p := ⟨b, i, none⟩) hb).trans hv
  exact ⟨c _ _ h.k, c _ _ h.e, c _ _ h.l, c _ _ h.v, c _ _ h.s, c _ _ h.q, c _ _ h.rs, range_below h.vt hB hb, c _ _ h.ce, c _ _ h.cl, c _ _ h.cv, c _ _ h.he, c _ _ h.ne, range_below h.d hB hb, range_below h.ct hB hb, c _ _ h.st, c _ _ h.sg⟩
end Go.Proofs.Ytaaifcpanflejaa
namespace Go.Proofs.Ytaaifcpanflejaa
open Go.RowKit
open Sha Tal
/-- a message without lists -/
def Ms.plain (k e s : Int) (x : Vt) (d : List Int) : Ms := ⟨k, e, 0, 0, s, false, .slice none 0 0, x, 0, 0, 0, .slice none 0 0, .slice none 0 0, d, Vt.zero, .slice none 0 0, ⟨#[]⟩, .slice none 0 0⟩
def zeros32 : List Int := List.replicate 32 0
def Ms.zero : Ms := Ms.plain 0 0 0 Vt.zero zeros32
end Go.Proofs.Ytaaifcpanflejaa
namespace Go.Proofs.Ytaaifcpanflejaa
open Go.RowKit
open Sha
def strOf (zs : List Int) : ByteArray := zs.foldl (fun r n => r.push (UInt8.ofNat n.toNat)) ByteArray.empty
theorem row_str {w : World} {b off cap : Nat} {zs : List Int} (h : w.rangeAt b off (v8 zs)) : (convert 46 9 (.slice (some ⟨b, off, none⟩) zs.length cap)).run Try.prog w = .ok (.string (strOf zs)) w := by
  rw [run_convert_bytes_string w 46 9 5 (some ⟨b, off, none⟩) zs.length cap Try.underlying46 Try.underlying5 Try.underlying9]
  have := run_loadCells_list (P := Try.prog) w ⟨b, off, none⟩ (v8 zs) (fun j v hv => by rw [Addr.add_mid]; exact h j v hv)
  rw [v8_length] at this
  exact run_bytesToString w ⟨b, off, none⟩ zs.length cap zs this
end Go.Proofs.Ytaaifcpanflejaa
namespace Go.Proofs.Ytaaifcpanflejaa
open Go.RowKit
open Sha Tal
theorem Mine.base {w : World} {B B' : Nat} {v : Value} {zs : List Int} (h : Mine w B v zs) (hB : B' ≤ B) : Mine w B' v zs := by
  refine ⟨⟨h.1.1, ?_⟩, h.2⟩
  rcases h.1.2 with q | ⟨g, c, cur, q1, q2, q3⟩
  · exact .inl q
  · exact .inr ⟨g, c, cur, q1, Nat.le_trans hB q2, q3⟩
end Go.Proofs.Ytaaifcpanflejaa
namespace Go.Proofs.Ytaaifcpanflejaa
open Go.RowKit
open Sha Tal
theorem row_mine {w : World} {a : Option Addr} {zs : List Int} (h : RowAt w a zs) (cap : Nat) : (convert 46 9 (.slice a zs.length cap)).run Try.prog w = .ok (.string (strOf zs)) w := by
  rcases h.2.2 with rfl | ⟨b, off, rfl, _, hr⟩
  · rw [List.length_nil, run_convert_bytes_string w 46 9 5 a 0 cap Try.underlying46 Try.underlying5 Try.underlying9]
    cases a <;> rfl
  · exact row_str hr
/-- a reader's block: its place holds some slice, it was made, its error is e -/
def RdE (w : World) (R : Nat) (e : Int) : Prop :=
  R < w.heap.size ∧ (∃ a n c, w.cell? ⟨R, 0, none⟩ = some (.slice a n c)) ∧ w.cell? ⟨R, 1, none⟩ = some (.bool true) ∧ w.cell? ⟨R, 2, none⟩ = some (.int .i64 e) ∧
  w.frozen? ⟨R, 0, none⟩ = false ∧ w.frozen? ⟨R, 1, none⟩ = false ∧ w.frozen? ⟨R, 2, none⟩ = false
/-- what is ahead of it -/
def Rest (w : World) (R : Nat) (rest : List Int) : Prop :=
  ∃ a cap, w.cell? ⟨R, 0, none⟩ = some (.slice a rest.length cap) ∧ rest.length ≤ cap ∧ cap ≤ maxLen ∧ RowAt w a rest ∧ ∀ x, a = some x → x.block < R
def St (w : World) (R : Nat) (rest : List Int) (e : Int) : Prop := RdE w R e ∧ (e = 0 → Rest w R rest)

theorem RdE.set0 {w : World} {R : Nat} {e : Int} (h : RdE w R e) (a : Option Addr) (n c : Nat) : RdE (w.setCell ⟨R, 0, none⟩ (.slice a n c)) R e := by
  obtain ⟨hR, ⟨a', n', c', h0⟩, h1, h2, f0, f1, f2⟩ := h
  refine ⟨by simpa [World.setCell] using hR, ⟨a, n, c, World.cell?_setCell_same _ _ _ h0⟩, (World.cell?_setCell_other _ _ _ _ (by simp)).trans h1, (World.cell?_setCell_other _ _ _ _ (by simp)).trans h2,
    (World.frozen?_setCell _ _ _ _).trans f0, (World.frozen?_setCell _ _ _ _).trans f1, (World.frozen?_setCell _ _ _ _).trans f2⟩
theorem RdE.set2 {w : World} {R : Nat} {e : Int} (h : RdE w R e) (e' : Int) : RdE (w.setCell ⟨R, 2, none⟩ (.int .i64 e')) R e' := by
  obtain ⟨hR, ⟨a', n', c', h0⟩, h1, h2, f0, f1, f2⟩ := h
  refine ⟨by simpa [World.setCell] using hR, ⟨a', n', c', (World.cell?_setCell_other _ _ _ _ (by simp)).trans h0⟩, (World.cell?_setCell_other _ _ _ _ (by simp)).trans h1, World.cell?_setCell_same _ _ _ h2,
    (World.frozen?_setCell _ _ _ _).trans f0, (World.frozen?_setCell _ _ _ _).trans f1, (World.frozen?_setCell _ _ _ _).trans f2⟩
theorem RowAt.get {w : World} {a : Option Addr} {zs : List Int} (h : RowAt w a zs) (k : Nat) (hk : k < zs.length) : ∃ b off, a = some ⟨b, off, none⟩ ∧ b < w.heap.size ∧ w.cell? ⟨b, off + k, none⟩ = some (.int .u8 (zs.getD k 0)) ∧ 0 ≤ zs.getD k 0 ∧ zs.getD k 0 < 256 := by
  rcases h.2.2 with rfl | ⟨b, off, rfl, hb, hr⟩
  · simp at hk
  · refine ⟨b, off, rfl, hb, get8 hr hk, ?_⟩
    rw [List.getD_eq_getElem?_getD, List.getElem?_eq_getElem hk]
    exact h.2.1 _ (List.getElem_mem hk)
theorem cutA_lt {a : Option Addr} {R cap n : Nat} (h : ∀ x, a = some x → x.block < R) : ∀ x, cutA a cap n = some x → x.block < R := by
  intro x hx
  unfold cutA at hx
  split at hx
  · exact h x hx
  · cases a with
    | none => simp at hx
    | some y =>
      simp only [Option.map_some, Option.some.injEq] at hx
      subst hx
      have := h y rfl
      unfold Addr.add
      split <;> exact this
theorem lt_ne {a : Option Addr} {R : Nat} (h : ∀ x, a = some x → x.block < R) : ∀ x, a = some x → x.block ≠ R := fun x hx => Nat.ne_of_lt (h x hx)
theorem err_made (R : Nat) (e : Int) (w : World) (h : RdE w R e) :
    Calls Try.prog 40 #[.pointer (some ⟨R, 0, none⟩)] w fun en w' => en = .returned (.int .i64 e) ∧ w' = w := by
  obtain ⟨hR, ⟨a, n, c, h0⟩, h1, h2, f0, f1, f2⟩ := h
  go_enter Try.func40, Try.ntmps40
  go_wp2
  go_ret
  exact ⟨rfl, rfl⟩
theorem left_any (R : Nat) (a : Option Addr) (n c : Nat) (w : World) (h0 : w.cell? ⟨R, 0, none⟩ = some (.slice a n c)) :
    Calls Try.prog 41 #[.pointer (some ⟨R, 0, none⟩)] w fun en w' => en = .returned (.int .i64 (n : Int)) ∧ w' = w := by
  go_enter Try.func41, Try.ntmps41
  go_wp2
  go_ret
  exact ⟨rfl, rfl⟩
set_option maxHeartbeats 400000 in
theorem take_any (R : Nat) (a : Option Addr) (n len c : Nat) (w : World) (h0 : w.cell? ⟨R, 0, none⟩ = some (.slice a len c)) (f0 : w.frozen? ⟨R, 0, none⟩ = false) (hn : n ≤ len) (hc : len ≤ c) (hm : c ≤ maxLen) :
    Calls Try.prog 69 #[.pointer (some ⟨R, 0, none⟩), .int .i64 (n : Int)] w fun en w' => en = .returned (.slice a n c) ∧ w' = w.setCell ⟨R, 0, none⟩ (.slice (cutA a c n) (len - n) (c - n)) := by
  unfold maxLen at hm
  by_cases h : c = n
  · subst h
    obtain rfl : len = c := by omega
    go_enter Try.func69, Try.ntmps69
    go_wp2
    go_ret
    exact ⟨rfl, by simp [cutA]⟩
  · go_enter Try.func69, Try.ntmps69
    go_wp2
    go_ret
    exact ⟨rfl, by simp [cutA, h]⟩
set_option maxHeartbeats 400000 in
theorem fail_any (R : Nat) (e0 e : Int) (w : World) (h : RdE w R e0) :
    Calls Try.prog 56 #[.pointer (some ⟨R, 0, none⟩), .int .i64 e] w fun en w' => en = .returned (.tuple #[]) ∧ RdE w' R e ∧ w.grownBy w' (some R) := by
  have hE := (h.set2 e).set0 none 0 0
  have hg := gb_trans (gb_set w R 2 (.int .i64 e)) (gb_set (w.setCell ⟨R, 2, none⟩ (.int .i64 e)) R 0 (.slice none 0 0))
  obtain ⟨hR, ⟨a, n, c, h0⟩, h1, h2, f0, f1, f2⟩ := h
  go_enter Try.func56, Try.ntmps56
  go_wp2
  go_end0
  exact ⟨rfl, hE, hg⟩

theorem val_bound (l : List Int) (h : ∀ z ∈ l, 0 ≤ z ∧ z < 256) : 0 ≤ val l ∧ val l < 256 ^ l.length := by
  have : ∀ k, k ≤ l.length → 0 ≤ val (l.take k) ∧ val (l.take k) < 256 ^ k := by
    intro k
    induction k with
    | zero => intro _; simp [val]
    | succ k ih =>
      intro hk
      have hlt : k < l.length := by omega
      obtain ⟨i1, i2⟩ := ih (by omega)
      have hz := h l[k] (List.getElem_mem hlt)
      rw [List.take_succ_eq_append_getElem hlt, val_snoc, Int.pow_succ]
      omega
  have := this l.length (Nat.le_refl _)
  rwa [List.take_length] at this
theorem val_take (l : List Int) (k : Nat) (h : k < l.length) : val (l.take (k + 1)) = val (l.take k) * 256 + l.getD k 0 := by
  rw [List.take_succ_eq_append_getElem h, val_snoc, List.getD_eq_getElem?_getD, List.getElem?_eq_getElem h]; rfl
theorem or_join (x d : Int) (h0 : 0 ≤ x) (h1 : x < 72057594037927936) (h2 : 0 ≤ d) (h3 : d < 256) : bits .or .u64 (x * 256) d = x * 256 + d := by
  obtain ⟨m, rfl⟩ := Int.eq_ofNat_of_zero_le h0
  obtain ⟨q, rfl⟩ := Int.eq_ofNat_of_zero_le h2
  have e : ((m : Int) * 256) = ((m * 256 : Nat) : Int) := by omega
  rw [e, u64_or_nat _ _ (by omega) (by omega), nat_join 8 _ _ (by omega) (by omega)]
  omega
/-- what value answers -/
def valR (ds : List Int) : Int × Int := if ds.head? = some 0 ∨ 9223372036854775807 < val ds then (0, 11) else (val ds, 0)
set_option maxHeartbeats 800000 in
theorem value_any (a : Option Addr) (cap : Nat) (ds : List Int) (w : World) (h : RowAt w a ds) (hl : ds.length ≤ 8) :
    Calls Try.prog 70 #[.slice a ds.length cap] w fun en w' => en = .returned (.tuple #[.int .i64 (valR ds).1, .int .i64 (valR ds).2]) ∧ w' = w := by
  by_cases hh : ds.head? = some 0
  · have HV : Hid (valR ds = (0, 11)) := by show _ = _; simp [valR, hh]
    obtain ⟨tl, rfl⟩ : ∃ tl, ds = 0 :: tl := by
      cases ds with
      | nil => simp at hh
      | cons x tl => simp at hh; exact ⟨tl, by rw [hh]⟩
    obtain ⟨b, off, rfl, hb, hc, _⟩ := h.get 0 (by simp)
    have hc' : w.cell? ⟨b, off, none⟩ = some (.int .u8 0) := by simpa using hc
    have hp : (0 : Int) < ((0 :: tl : List Int).length : Int) := by simp
    generalize (0 :: tl : List Int) = ds at *
    go_enter Try.func70, Try.ntmps70
    go_wp2
    go_ret2
    rw [HV.out]
    exact ⟨rfl, rfl⟩
  · have hz := h.2.1
    have hstart : ds = [] ∨ ∃ b off z, a = some ⟨b, off, none⟩ ∧ w.cell? ⟨b, off, none⟩ = some (.int .u8 z) ∧ (z == 0) = false ∧ 0 < ds.length := by
      cases ds with
      | nil => exact Or.inl rfl
      | cons x tl =>
        obtain ⟨b, off, rfl, hb, hc, _⟩ := h.get 0 (by simp)
        exact Or.inr ⟨b, off, x, rfl, by simpa using hc, by simpa using hh, by simp⟩
    have hval := val_bound ds hz
    rcases hstart with rfl | ⟨b, off, z0, rfl, hc0, hne, hpos⟩
    · go_enter Try.func70, Try.ntmps70
      go_wp2
      refine wp_loop_rounds 1 ?_
      rw [rounds_succ]
      go_wp2
      go_ret2
      exact ⟨rfl, rfl⟩
    · have hp : (0 : Int) < (ds.length : Int) := by omega
      have hc : ∀ j, j < ds.length → w.cell? ⟨b, off + j, none⟩ = some (.int .u8 (ds.getD j 0)) := by
        obtain ⟨_, _, hd | ⟨b', off', hx, _, hc⟩⟩ := h
        · rw [hd] at hpos; simp at hpos
        · simp only [Option.some.injEq, Addr.mk.injEq] at hx
          obtain ⟨rfl, rfl, _⟩ := hx
          exact fun j hj => get8 hc hj
      have HC : Hid (∀ j, j < ds.length → w.cell? ⟨b, off + j, none⟩ = some (.int .u8 (ds.getD j 0))) := hc
      have HR : Hid (valR ds = if 9223372036854775807 < val ds then (0, 11) else (val ds, 0)) := by show _ = _; simp [valR, hh]
      clear hc h hh
      go_enter Try.func70, Try.ntmps70
      go_wp2
      go_loop [4, 17] (fun n i => ∃ k : Nat, k ≤ ds.length ∧ i = .int .i64 k ∧ n = .int .u64 (val (ds.take k))) (fun _ i => ds.length - (intOf i).toNat)
      case atStart => exact ⟨0, by omega, rfl, rfl⟩
      case round =>
        obtain ⟨k, hk, rfl, rfl⟩ := hrel
        by_cases hlt : k < ds.length
        · obtain ⟨z, hcx, hz0, hz1, HV⟩ : ∃ z, w.cell? ⟨b, off + k, none⟩ = some (.int .u8 z) ∧ 0 ≤ z ∧ z < 256 ∧ Hid (val (ds.take (k + 1)) = val (ds.take k) * 256 + z) := by
            refine ⟨ds.getD k 0, HC.out k hlt, ?_, ?_, val_take ds k hlt⟩ <;> rw [List.getD_eq_getElem?_getD, List.getElem?_eq_getElem hlt]
            · exact (hz _ (List.getElem_mem hlt)).1
            · exact (hz _ (List.getElem_mem hlt)).2
          have hb7 : 0 ≤ val (ds.take k) ∧ val (ds.take k) < 72057594037927936 := by
            have := val_bound (ds.take k) (fun z hz' => hz z (List.mem_of_mem_take hz'))
            rw [List.length_take_of_le (by omega)] at this
            have h7 : 256 ^ k ≤ 72057594037927936 := Nat.le_trans (Nat.pow_le_pow_right (by omega) (show k ≤ 7 by omega)) (by decide)
            have e7 : ((256 ^ k : Nat) : Int) = (256 : Int) ^ k := Int.natCast_pow 256 k
            rw [← e7] at this
            omega
          obtain ⟨hx0, hx1⟩ := hb7
          have ej := or_join (val (ds.take k)) z hx0 hx1 hz0 hz1
          generalize val (ds.take k) = X at *
          go_wp2
          go_round
          case rel => exact ⟨k + 1, by omega, by go_num, by rw [HV.out]⟩
          case measure => simp [intOf]; omega
        · obtain rfl : k = ds.length := by omega
          rw [List.take_length]
          by_cases hbig : 9223372036854775807 < val ds
          · go_wp2
            go_ret2
            rw [HR.out, if_pos hbig]
            exact ⟨rfl, rfl⟩
          · go_wp2
            go_ret2
            rw [HR.out, if_neg (by omega)]
            exact ⟨rfl, rfl⟩
end Go.Proofs.Ytaaifcpanflejaa
namespace Go.Proofs.Ytaaifcpanflejaa
open Go.RowKit
open Sha Tal
/-- what stands at the beginning of bytes: the number, how many bytes it took, the error -/
def numR : List Int → Int × Nat × Int
  | [] => (0, 0, 10)
  | k :: tl => if 8 < k then (0, 0, 11) else if (tl.length : Int) < k then (0, 0, 10) else
      if (valR (tl.take k.toNat)).2 = 0 then ((valR (tl.take k.toNat)).1, 1 + k.toNat, 0) else (0, 0, (valR (tl.take k.toNat)).2)
theorem valR_err (ds : List Int) (h : (valR ds).2 ≠ 0) : valR ds = (0, 11) := by
  unfold valR at h ⊢
  split
  · rfl
  · rename_i hh; rw [if_neg hh] at h; exact absurd rfl h
theorem Rest.cell {w : World} {R : Nat} {rest : List Int} (h : Rest w R rest) : ∃ a cap, w.cell? ⟨R, 0, none⟩ = some (.slice a rest.length cap) ∧ rest.length ≤ cap ∧ cap ≤ maxLen ∧ RowAt w a rest ∧ ∀ x, a = some x → x.block < R := h
set_option maxHeartbeats 1600000 in
theorem number_any (R : Nat) (e0 : Int) (rest : List Int) (w : World) (hE : RdE w R e0) (hR : Rest w R rest) :
    Calls Try.prog 55 #[.pointer (some ⟨R, 0, none⟩)] w fun en w' => en = .returned (.tuple #[.int .i64 (numR rest).1, .int .i64 (numR rest).2.2]) ∧ RdE w' R e0 ∧ w.grownBy w' (some R) ∧ ((numR rest).2.2 = 0 → Rest w' R (rest.drop (numR rest).2.1)) := by
  obtain ⟨a, cap, h0, hc, hm, hrow, hlt⟩ := hR
  have hne := lt_ne hlt
  have f0 := hE.2.2.2.2.1
  cases rest with
  | nil =>
    have h0' : w.cell? ⟨R, 0, none⟩ = some (.slice a 0 cap) := h0
    go_enter Try.func55, Try.ntmps55
    go_wp2_with fail
    refine (left_any R a 0 cap w h0').mono ?_
    rintro e w1 ⟨rfl, rfl⟩
    go_wp2
    go_ret2
    exact ⟨rfl, hE, gb_refl _ _, fun h => by cases h⟩
  | cons k tl =>
    obtain ⟨b, off, rfl, hb, hcb, hk0, hk1⟩ := hrow.get 0 (by simp)
    have hk : (k :: tl).getD 0 0 = k := rfl
    rw [hk] at hcb hk0 hk1
    have hbR : b ≠ R := hne _ rfl
    have hcb1 : (w.setCell ⟨R, 0, none⟩ (.slice (cutA (some ⟨b, off, none⟩) cap 1) ((k :: tl).length - 1) (cap - 1))).cell? ⟨b, off, none⟩ = some (.int .u8 k) :=
      (World.cell?_setCell_other _ _ _ _ (by intro hx; injection hx with hx1; exact hbR hx1.symm)).trans (by simpa using hcb)
    have hE1 := hE.set0 (cutA (some ⟨b, off, none⟩) cap 1) ((k :: tl).length - 1) (cap - 1)
    have hg1 := gb_set w R 0 (.slice (cutA (some ⟨b, off, none⟩) cap 1) ((k :: tl).length - 1) (cap - 1))
    have hr1 := (hrow.drop 1 cap (by simp) hc).gb hg1 (.inr (cutA_ne hne))
    have h01 : (w.setCell ⟨R, 0, none⟩ (.slice (cutA (some ⟨b, off, none⟩) cap 1) ((k :: tl).length - 1) (cap - 1))).cell? ⟨R, 0, none⟩ = some (.slice (cutA (some ⟨b, off, none⟩) cap 1) ((k :: tl).length - 1) (cap - 1)) := World.cell?_setCell_same _ _ _ h0
    have hlen : (k :: tl).length - 1 = tl.length := by simp
    rw [hlen] at hE1 hg1 hr1 h01 hcb1
    generalize hW1 : w.setCell ⟨R, 0, none⟩ (.slice (cutA (some ⟨b, off, none⟩) cap 1) tl.length (cap - 1)) = W1 at *
    have c1 := take_any R (some ⟨b, off, none⟩) 1 (k :: tl).length cap w h0 f0 (by simp) hc hm
    rw [hlen, hW1] at c1
    have HW1 : Hid (w.setCell ⟨R, 0, none⟩ (.slice (cutA (some ⟨b, off, none⟩) cap 1) tl.length (cap - 1)) = W1) := hW1
    clear hW1
    have hpos : (((k :: tl).length : Int) == 0) = false := by simp; omega
    have hnm := cutA_ne (cap := cap) (n := 1) hne
    have hltm := cutA_lt (cap := cap) (n := 1) hlt
    generalize hA1 : cutA (some ⟨b, off, none⟩) cap 1 = A1 at *
    clear hA1
    have cl := left_any R (some ⟨b, off, none⟩) (k :: tl).length cap w h0
    go_enter Try.func55, Try.ntmps55
    go_wp2_with fail
    refine cl.mono ?_
    rintro e w1 ⟨rfl, rfl⟩
    clear cl
    go_wp2_with fail
    refine c1.mono ?_
    rintro e w2 ⟨rfl, rfl⟩
    clear c1
    by_cases hk8 : 8 < k
    · have HN : Hid (numR (k :: tl) = (0, 0, 11)) := by show _ = _; simp [numR, hk8]
      go_wp2_with fail
      go_ret2
      rw [HN.out]
      exact ⟨rfl, hE1, hg1, fun h => by cases h⟩
    · by_cases hkl : (tl.length : Int) < k
      · have HN : Hid (numR (k :: tl) = (0, 0, 10)) := by show _ = _; simp [numR, hk8, hkl]
        go_wp2_with fail
        refine (left_any R A1 tl.length (cap - 1) w2 h01).mono ?_
        rintro e w3 ⟨rfl, rfl⟩
        go_wp2_with fail
        go_ret2
        rw [HN.out]
        exact ⟨rfl, hE1, hg1, fun h => by cases h⟩
      · obtain ⟨q, hqk⟩ : ∃ q : Nat, k.toNat = q := ⟨_, rfl⟩
        have hkq : (q : Int) = k := by omega
        have hq : q ≤ tl.length := by omega
        have hcl : tl.length ≤ cap - 1 := by simp at hc; omega
        have c2 := take_any R A1 q tl.length (cap - 1) w2 h01 hE1.2.2.2.2.1 hq hcl (by omega)
        rw [hkq] at c2
        have hE2 := hE1.set0 (cutA A1 (cap - 1) q) (tl.length - q) (cap - 1 - q)
        have hg2 := gb_set w2 R 0 (.slice (cutA A1 (cap - 1) q) (tl.length - q) (cap - 1 - q))
        have hr1' : RowAt w2 A1 tl := by simpa using hr1
        have hr2 := (hr1'.take q).gb hg2 (.inr hnm)
        have hr3 := (hr1'.drop q (cap - 1) hq hcl)
        have h02 : (w2.setCell ⟨R, 0, none⟩ (.slice (cutA A1 (cap - 1) q) (tl.length - q) (cap - 1 - q))).cell? ⟨R, 0, none⟩ = some (.slice (cutA A1 (cap - 1) q) (tl.length - q) (cap - 1 - q)) := World.cell?_setCell_same _ _ _ h01
        have hRest : Rest (w2.setCell ⟨R, 0, none⟩ (.slice (cutA A1 (cap - 1) q) (tl.length - q) (cap - 1 - q))) R (tl.drop q) := by
          refine ⟨cutA A1 (cap - 1) q, cap - 1 - q, by rw [List.length_drop]; exact h02, by rw [List.length_drop]; omega, by omega, ?_, ?_⟩
          · exact hr3.gb hg2 (.inr (cutA_ne hnm))
          · exact cutA_lt hltm
        generalize w2.setCell ⟨R, 0, none⟩ (.slice (cutA A1 (cap - 1) q) (tl.length - q) (cap - 1 - q)) = W2 at *
        have hqt : (tl.take q).length = q := List.length_take_of_le hq
        have c3 := value_any A1 (cap - 1) (tl.take q) W2 hr2 (by omega)
        rw [hqt] at c3
        have HN : Hid (numR (k :: tl) = if (valR (tl.take q)).2 = 0 then ((valR (tl.take q)).1, 1 + q, 0) else (0, 0, (valR (tl.take q)).2)) := by
          show _ = _
          simp only [numR, if_neg hk8, if_neg hkl, hqk]
        clear hr1 hr2 hr3 hqt hqk hkq
        go_wp2_with fail
        refine (left_any R A1 tl.length (cap - 1) w2 h01).mono ?_
        rintro e w3 ⟨rfl, rfl⟩
        go_wp2_with fail
        refine c2.mono ?_
        rintro e w4 ⟨rfl, rfl⟩
        clear c2
        go_wp2_with fail
        refine c3.mono ?_
        rintro e w5 ⟨rfl, rfl⟩
        clear c3
        go_wp2_with fail
        go_ret2
        refine ⟨?_, hE2, gb_trans hg1 hg2, ?_⟩
        · rw [HN.out]
          by_cases hv : (valR (tl.take q)).2 = 0
          · rw [if_pos hv, hv]; exact rfl
          · rw [if_neg hv, valR_err _ hv]; exact rfl
        · rw [HN.out]
          by_cases hv : (valR (tl.take q)).2 = 0
          · rw [if_pos hv]; intro _; rw [Nat.add_comm]; exact hRest
          · rw [if_neg hv]; intro h; exact absurd h hv
end Go.Proofs.Ytaaifcpanflejaa
namespace Go.Proofs.Ytaaifcpanflejaa
open Go.RowKit
open Sha Tal
/-- what Num answers, what is ahead then, the error then -/
def numS (rest : List Int) (e most : Int) : Int × List Int × Int :=
  if e = 0 then
    if (numR rest).2.2 = 0 then
      if most < (numR rest).1 then (0, rest, 3) else ((numR rest).1, rest.drop (numR rest).2.1, 0)
    else (0, rest, (numR rest).2.2)
  else (0, rest, e)
set_option maxHeartbeats 1600000 in
theorem num_any (R : Nat) (rest : List Int) (e most : Int) (w : World) (h : St w R rest e) :
    Calls Try.prog 37 #[.pointer (some ⟨R, 0, none⟩), .int .i64 most] w fun en w' => en = .returned (.int .i64 (numS rest e most).1) ∧ St w' R (numS rest e most).2.1 (numS rest e most).2.2 ∧ w.grownBy w' (some R) := by
  obtain ⟨hE, hR⟩ := h
  by_cases he : e = 0
  · subst he
    have hR := hR rfl
    have cn := number_any R 0 rest w hE hR
    have HS : Hid (numS rest 0 most = if (numR rest).2.2 = 0 then (if most < (numR rest).1 then (0, rest, 3) else ((numR rest).1, rest.drop (numR rest).2.1, 0)) else (0, rest, (numR rest).2.2)) := by show _ = _; simp [numS]
    generalize (numR rest).1 = v at *
    generalize (numR rest).2.1 = c at *
    generalize (numR rest).2.2 = er at *
    by_cases her : er = 0
    · subst her
      rw [if_pos rfl] at HS
      by_cases hmost : most < v
      · rw [if_pos hmost] at HS
        go_enter Try.func37, Try.ntmps37
        go_wp2_with fail
        refine (err_made R 0 w hE).mono ?_
        rintro e w1 ⟨rfl, rfl⟩
        go_wp2_with fail
        refine cn.mono ?_
        rintro e w2 ⟨rfl, hE2, hg2, hR2⟩
        go_wp2_with fail
        refine (fail_any R 0 3 w2 hE2).mono ?_
        rintro e w3 ⟨rfl, hE3, hg3⟩
        go_wp2_with fail
        go_ret
        rw [HS.out]
        exact ⟨rfl, ⟨hE3, fun h => by cases h⟩, gb_trans hg2 hg3⟩
      · rw [if_neg hmost] at HS
        go_enter Try.func37, Try.ntmps37
        go_wp2_with fail
        refine (err_made R 0 w hE).mono ?_
        rintro e w1 ⟨rfl, rfl⟩
        go_wp2_with fail
        refine cn.mono ?_
        rintro e w2 ⟨rfl, hE2, hg2, hR2⟩
        have hR3 := hR2 (by trivial)
        clear hR2 cn
        go_wp2_with fail
        go_ret
        rw [HS.out]
        exact ⟨rfl, ⟨hE2, fun _ => hR3⟩, hg2⟩
    · have her' : (er == 0) = false := by simpa using her
      rw [if_neg her] at HS
      go_enter Try.func37, Try.ntmps37
      go_wp2_with fail
      refine (err_made R 0 w hE).mono ?_
      rintro e w1 ⟨rfl, rfl⟩
      go_wp2_with fail
      refine cn.mono ?_
      rintro e w2 ⟨rfl, hE2, hg2, hR2⟩
      clear hR2 cn
      go_wp2_with fail
      refine (fail_any R 0 er w2 hE2).mono ?_
      rintro e w3 ⟨rfl, hE3, hg3⟩
      go_wp2_with fail
      go_ret
      rw [HS.out]
      exact ⟨rfl, ⟨hE3, fun h => absurd h her⟩, gb_trans hg2 hg3⟩
  · have HS : Hid (numS rest e most = (0, rest, e)) := by show _ = _; simp [numS, he]
    have he' : (e == 0) = false := by simpa using he
    go_enter Try.func37, Try.ntmps37
    go_wp2_with fail
    refine (err_made R e w hE).mono ?_
    rintro en w1 ⟨rfl, rfl⟩
    go_wp2_with fail
    go_ret
    rw [HS.out]
    exact ⟨rfl, ⟨hE, fun h => absurd h he⟩, gb_refl _ _⟩
end Go.Proofs.Ytaaifcpanflejaa
namespace Go.Proofs.Ytaaifcpanflejaa
open Go.RowKit
open Sha Tal
theorem RowAt.none_nil {w : World} {zs : List Int} (h : RowAt w none zs) : zs = [] := by
  rcases h.2.2 with h | ⟨b, off, hx, _⟩
  · exact h
  · cases hx
set_option maxHeartbeats 800000 in
theorem clone_any (a : Option Addr) (cap : Nat) (zs : List Int) (w : World) (h : RowAt w a zs) (hm : zs.length ≤ 549755813888) :
    Calls Try.prog 36 #[.slice a zs.length cap] w fun e w' => ∃ v, e = .returned v ∧ Mine w' w.heap.size v zs ∧ Below w.heap.size w w' := by
  obtain ⟨i0, hi, hz0, hz1, hz2⟩ := info_parts info8
  cases a with
  | none =>
    obtain rfl := h.none_nil
    have hn := fun w => Lib.run_eql_slice_nil (P := Try.prog) w 46 5 none 0 cap 0 0 Try.underlying46
    go_enter Try.func36, Try.ntmps36
    go_wp2
    go_ret
    exact ⟨_, rfl, ⟨World.ownsRow_nil _ _ _ _, by simp⟩, Below.refl _ _⟩
  | some x =>
    have hn := fun w => Lib.run_eql_slice_nil (P := Try.prog) w 46 5 (some x) zs.length cap 0 0 Try.underlying46
    go_enter Try.func36, Try.ntmps36
    go_wp2_with (at_builtin; refine wpList_append_own_src _ rfl _ _ 46 46 rfl w.heap.size 5 i0 (.int .u8 0) 1 1 Try.underlying46 hi hz0 hz1 hz2 rfl _ 0 [] rfl (World.ownsRow_made w #[] 0 (Nat.le_refl _) (by simp) (by simp)) (.slice (some x) zs.length cap) zs.length (zs.map (Value.int .u8)) rfl ((h.below ((Below.refl _ _).alloc (Nat.le_refl _) _)).src cap) ?c1 ?c2 ?c3 ?_)
    case c1 => unfold maxLen; omega
    case c2 => omega
    case c3 => simp
    intro v' w1 hown hgrow
    have hb1 : Below w.heap.size w w1 := ((Below.refl _ _).alloc (Nat.le_refl _) _).grown hgrow (by simp) (fun k hk => by simp [Value.ownBlock] at hk; omega)
    go_wp2
    go_ret
    exact ⟨_, rfl, ⟨by simpa using hown, h.2.1⟩, hb1⟩

set_option maxHeartbeats 800000 in
theorem read_any (a : Option Addr) (cap : Nat) (zs : List Int) (w : World) (h : RowAt w a zs) (hm : zs.length ≤ 549755813888) :
    Calls Try.prog 15 #[.slice a zs.length cap] w fun e w' => ∃ R, e = .returned (.pointer (some ⟨R, 0, none⟩)) ∧ w.heap.size ≤ R ∧ St w' R zs 0 ∧ Below w.heap.size w w' := by
  go_enter Try.func15, Try.ntmps15
  go_wp2_with fail
  refine (clone_any a cap zs w h hm).mono ?_
  rintro e w1 ⟨v, rfl, hmine, hb⟩
  obtain ⟨a', cap', rfl, hc1, hc2, hr⟩ := hmine.rowAt (by unfold maxLen; omega)
  have hblk : ∀ x, a' = some x → x.block < w1.heap.size := fun x hx => (hmine.1.lt x.block (by simp [hx, Value.ownBlock])).2
  have hb2 : Below w1.heap.size w1 (w1.alloc (.cells #[.slice a' zs.length cap', .bool true, .int .i64 0] 75)) := (Below.refl _ _).alloc (Nat.le_refl _) _
  have hSt : St (w1.alloc (.cells #[.slice a' zs.length cap', .bool true, .int .i64 0] 75)) w1.heap.size zs 0 := by
    have cs : ∀ j, (w1.alloc (.cells #[.slice a' zs.length cap', .bool true, .int .i64 0] 75)).cell? ⟨w1.heap.size, j, none⟩ = (#[.slice a' zs.length cap', .bool true, .int .i64 0] : Array Value)[j]? := fun j => World.cell?_alloc_at _ _ _ _ rfl
    have fs : ∀ j, (w1.alloc (.cells #[.slice a' zs.length cap', .bool true, .int .i64 0] 75)).frozen? ⟨w1.heap.size, j, none⟩ = false := fun j => World.frozen?_alloc_at _ _ _ _ rfl
    exact ⟨⟨by simp, ⟨a', zs.length, cap', cs 0⟩, cs 1, cs 2, fs 0, fs 1, fs 2⟩, fun _ => ⟨a', cap', cs 0, hc1, hc2, hr.below hb2, hblk⟩⟩
  go_wp2_with fail
  go_ret
  exact ⟨_, rfl, hb.size, hSt, hb.trans (hb2.mono hb.size)⟩
end Go.Proofs.Ytaaifcpanflejaa
namespace Go.Proofs.Ytaaifcpanflejaa
open Go.RowKit
open Sha Tal
set_option maxHeartbeats 800000 in
theorem next_few (R : Nat) (rest : List Int) (n : Int) (w : World) (h : St w R rest 0) (hn : (rest.length : Int) < n) :
    Calls Try.prog 57 #[.pointer (some ⟨R, 0, none⟩), .int .i64 n] w fun en w' => en = .returned (.slice none 0 0) ∧ St w' R rest 10 ∧ w.grownBy w' (some R) := by
  obtain ⟨hE, hR⟩ := h
  obtain ⟨a, cap, h0, hc, hm, hrow, hne⟩ := hR rfl
  go_enter Try.func57, Try.ntmps57
  go_wp2_with fail
  refine (left_any R a rest.length cap w h0).mono ?_
  rintro en w1 ⟨rfl, rfl⟩
  go_wp2_with fail
  refine (fail_any R 0 10 w1 hE).mono ?_
  rintro en w2 ⟨rfl, hE2, hg2⟩
  go_wp2_with fail
  go_ret
  exact ⟨rfl, ⟨hE2, fun h => by cases h⟩, hg2⟩
set_option maxHeartbeats 800000 in
theorem next_there (R : Nat) (rest : List Int) (n : Int) (w : World) (h : St w R rest 0) (hn0 : 0 ≤ n) (hn : n ≤ (rest.length : Int)) :
    Calls Try.prog 57 #[.pointer (some ⟨R, 0, none⟩), .int .i64 n] w fun en w' => ∃ a cap, en = .returned (.slice a n.toNat cap) ∧ n.toNat ≤ cap ∧ RowAt w' a (rest.take n.toNat) ∧ St w' R (rest.drop n.toNat) 0 ∧ w.grownBy w' (some R) := by
  obtain ⟨hE, hR⟩ := h
  obtain ⟨a, cap, h0, hc, hm, hrow, hlt⟩ := hR rfl
  have hne := lt_ne hlt
  obtain ⟨q, hq⟩ : ∃ q : Nat, n.toNat = q := ⟨_, rfl⟩
  have hqn : (q : Int) = n := by omega
  rw [hq]
  have ct := take_any R a q rest.length cap w h0 hE.2.2.2.2.1 (by omega) hc hm
  rw [hqn] at ct
  have hE2 := hE.set0 (cutA a cap q) (rest.length - q) (cap - q)
  have hg2 := gb_set w R 0 (.slice (cutA a cap q) (rest.length - q) (cap - q))
  have hr2 := (hrow.take q).gb hg2 (.inr hne)
  have h02 : (w.setCell ⟨R, 0, none⟩ (.slice (cutA a cap q) (rest.length - q) (cap - q))).cell? ⟨R, 0, none⟩ = some (.slice (cutA a cap q) (rest.length - q) (cap - q)) := World.cell?_setCell_same _ _ _ h0
  have hRest : Rest (w.setCell ⟨R, 0, none⟩ (.slice (cutA a cap q) (rest.length - q) (cap - q))) R (rest.drop q) :=
    ⟨cutA a cap q, cap - q, by rw [List.length_drop]; exact h02, by rw [List.length_drop]; omega, by omega, (hrow.drop q cap (by omega) hc).gb hg2 (.inr (cutA_ne hne)), cutA_lt hlt⟩
  have hqc : q ≤ cap := by omega
  generalize w.setCell ⟨R, 0, none⟩ (.slice (cutA a cap q) (rest.length - q) (cap - q)) = W2 at *
  have hnn : ¬ ((rest.length : Int) < n) := by omega
  clear hq hqn
  go_enter Try.func57, Try.ntmps57
  go_wp2_with fail
  refine (left_any R a rest.length cap w h0).mono ?_
  rintro en w1 ⟨rfl, rfl⟩
  go_wp2_with fail
  refine ct.mono ?_
  rintro en w2 ⟨rfl, rfl⟩
  go_wp2_with fail
  go_ret
  exact ⟨a, cap, rfl, hqc, hr2, ⟨hE2, fun _ => hRest⟩, hg2⟩
end Go.Proofs.Ytaaifcpanflejaa
namespace Go.Proofs.Ytaaifcpanflejaa
open Go.RowKit
namespace Tal
theorem digs_val (ds : List Int) (hz : ∀ z ∈ ds, 0 ≤ z ∧ z < 256) (hh : ds.head? ≠ some 0) (hv : val ds ≤ 9223372036854775807) : digs (val ds).toNat = ds := by
  have key : ∀ k, k ≤ ds.length → val (ds.take k) ≤ 9223372036854775807 → digs (val (ds.take k)).toNat = ds.take k := by
    intro k
    induction k with
    | zero => intro _ _; simp [val, digs_zero]
    | succ k ih =>
      intro hk hle
      have hlt : k < ds.length := by omega
      have e := val_take ds k hlt
      have hb := val_bound (ds.take k) (fun z h => hz z (List.mem_of_mem_take h))
      have hd : 0 ≤ ds.getD k 0 ∧ ds.getD k 0 < 256 := by
        rw [List.getD_eq_getElem?_getD, List.getElem?_eq_getElem hlt]; exact hz _ (List.getElem_mem hlt)
      have hi := ih (by omega) (by omega)
      have hpos : 0 < val (ds.take (k + 1)) := by
        by_cases h0 : k = 0
        · subst h0
          have : val (ds.take 0) = 0 := by simp [val]
          rw [e, this]
          cases ds with
          | nil => simp at hlt
          | cons x tl => simp at hh hd ⊢; omega
        · have : 0 < val (ds.take k) := by
            rcases Int.lt_or_eq_of_le hb.1 with h | h
            · exact h
            · rw [← h] at hi
              have hl := congrArg List.length hi
              rw [List.length_take_of_le (by omega)] at hl
              have : (digs (0 : Int).toNat).length = 0 := by decide
              omega
          omega
      have ht : ds.take (k + 1) = ds.take k ++ [ds.getD k 0] := by
        rw [List.take_succ_eq_append_getElem hlt, List.getD_eq_getElem?_getD, List.getElem?_eq_getElem hlt]; rfl
      have e1 : (val (ds.take (k + 1))).toNat / 256 = (val (ds.take k)).toNat := by omega
      have e2 : ((((val (ds.take (k + 1))).toNat % 256 : Nat)) : Int) = ds.getD k 0 := by omega
      rw [digs_succ _ (by omega) (by omega), e1, e2, hi, ht]
  have := key ds.length (Nat.le_refl _)
  rw [List.take_length] at this
  exact this hv
/-- what was read as a number, put again, is what was read -/
theorem numR_form (zs : List Int) (hz : ∀ z ∈ zs, 0 ≤ z ∧ z < 256) (h : (numR zs).2.2 = 0) :
    putL (numR zs).1 = zs.take (numR zs).2.1 ∧ (numR zs).2.1 ≤ zs.length ∧ 0 ≤ (numR zs).1 ∧ (numR zs).1 ≤ 9223372036854775807 := by
  cases zs with
  | nil => simp [numR] at h
  | cons k tl =>
    have hk := hz k (by simp)
    by_cases h8 : 8 < k
    · simp [numR, h8] at h
    · by_cases hl : (tl.length : Int) < k
      · simp [numR, h8, hl] at h
      · by_cases hv : (valR (tl.take k.toNat)).2 = 0
        · have e : numR (k :: tl) = ((valR (tl.take k.toNat)).1, 1 + k.toNat, 0) := by simp only [numR, if_neg h8, if_neg hl, if_pos hv]
          rw [e]
          have hds : ∀ z ∈ tl.take k.toNat, 0 ≤ z ∧ z < 256 := fun z h => hz z (by simp [List.mem_of_mem_take h])
          have hb := val_bound _ hds
          have hnot : ¬ ((tl.take k.toNat).head? = some 0 ∨ 9223372036854775807 < val (tl.take k.toNat)) := by
            intro hc; unfold valR at hv; rw [if_pos hc] at hv; cases hv
          have e1 : (valR (tl.take k.toNat)).1 = val (tl.take k.toNat) := by unfold valR; rw [if_neg hnot]
          have hlen : (tl.take k.toNat).length = k.toNat := List.length_take_of_le (by omega)
          have hd := digs_val (tl.take k.toNat) hds (fun h => hnot (Or.inl h)) (by omega)
          have hw : (wid (val (tl.take k.toNat)).toNat : Int) = k := by
            rw [← digs_length, hd, hlen]; omega
          simp only [e1]
          refine ⟨?_, by simp; omega, hb.1, by omega⟩
          unfold putL
          rw [if_neg (by omega), numB, hd, hw, Nat.add_comm]
          rfl
        · simp only [numR, if_neg h8, if_neg hl, if_neg hv] at h
          exact absurd h hv
end Tal
open Sha Tal
end Go.Proofs.Ytaaifcpanflejaa
