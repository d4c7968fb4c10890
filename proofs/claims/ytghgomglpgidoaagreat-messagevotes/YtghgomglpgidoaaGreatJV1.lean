/- PLAIN MATHEMATICS OF SHA-256: words of 32 bits, a block's rounds, bytes that wait, the last bytes. Imports nothing of the translation.; Words of 32 bits as the model's numbers; the leaves: math/bits.RotateLeft32, ror, word.; Arrays in memory, by ranges: what is set, what stays.; digest.spread: the words of all rounds of a block.; (*digest.running).turn: a block that waits goes through the rounds.; digest.putWord: a word into four cells.; (*digest.running).add: bytes go on.; (*digest.running).end: the last bytes go behind what came; the words are told.; digest.begin, Sum and Chain.; append(dst, src...) where dst is a row of the call's own (or nil) and src is whatever yields cells (a slice with an address, a nil slice, an empty slice, a string): one law, over any program. -/
import Derived.Test.YtghgomglpgidoaaGreatRows
import Derived.WalkKit
import Derived.WalkSpells
import Derived.RegionTactic
import Derived.ChangeAlike
import Derived.BigRegion
import Derived.Outline
import Derived.Deep.MidRow
import Derived.Below
import Derived.Deep.Cut
import Derived.Deep.QuietTactic
import Derived.BigQuiet
import Derived.Lib.ItoaWalk
import Derived.Laws.IdiomCopy
import Derived.Deep.AppendSrc
namespace Go.Proofs.YtghgomglpgidoaaGreat
namespace Sha
abbrev Wd := BitVec 32
def rotr (x : Wd) (n : Nat) : Wd := (x >>> n) ||| (x <<< (32 - n))
def s0 (x : Wd) : Wd := rotr x 7 ^^^ rotr x 18 ^^^ (x >>> 3)
def s1 (x : Wd) : Wd := rotr x 17 ^^^ rotr x 19 ^^^ (x >>> 10)
def S1 (e : Wd) : Wd := rotr e 6 ^^^ rotr e 11 ^^^ rotr e 25
def S0 (a : Wd) : Wd := rotr a 2 ^^^ rotr a 13 ^^^ rotr a 22
def ch (e f g : Wd) : Wd := (e &&& f) ^^^ (~~~e &&& g)
def maj (a b c : Wd) : Wd := (a &&& b) ^^^ (a &&& c) ^^^ (b &&& c)
structure St where
  a : Wd
  b : Wd
  c : Wd
  d : Wd
  e : Wd
  f : Wd
  g : Wd
  h : Wd
def t1 (k w : Wd) (s : St) : Wd := s.h + S1 s.e + ch s.e s.f s.g + k + w
def t2 (s : St) : Wd := S0 s.a + maj s.a s.b s.c
def round (k w : Wd) (s : St) : St := ⟨t1 k w s + t2 s, s.a, s.b, s.c, s.d + t1 k w s, s.e, s.f, s.g⟩
def ks : List Nat := [
  0x428a2f98, 0x71374491, 0xb5c0fbcf, 0xe9b5dba5, 0x3956c25b, 0x59f111f1, 0x923f82a4, 0xab1c5ed5,
  0xd807aa98, 0x12835b01, 0x243185be, 0x550c7dc3, 0x72be5d74, 0x80deb1fe, 0x9bdc06a7, 0xc19bf174,
  0xe49b69c1, 0xefbe4786, 0x0fc19dc6, 0x240ca1cc, 0x2de92c6f, 0x4a7484aa, 0x5cb0a9dc, 0x76f988da,
  0x983e5152, 0xa831c66d, 0xb00327c8, 0xbf597fc7, 0xc6e00bf3, 0xd5a79147, 0x06ca6351, 0x14292967,
  0x27b70a85, 0x2e1b2138, 0x4d2c6dfc, 0x53380d13, 0x650a7354, 0x766a0abb, 0x81c2c92e, 0x92722c85,
  0xa2bfe8a1, 0xa81a664b, 0xc24b8b70, 0xc76c51a3, 0xd192e819, 0xd6990624, 0xf40e3585, 0x106aa070,
  0x19a4c116, 0x1e376c08, 0x2748774c, 0x34b0bcb5, 0x391c0cb3, 0x4ed8aa4a, 0x5b9cca4f, 0x682e6ff3,
  0x748f82ee, 0x78a5636f, 0x84c87814, 0x8cc70208, 0x90befffa, 0xa4506ceb, 0xbef9a3f7, 0xc67178f2]
def k (t : Nat) : Wd := BitVec.ofNat 32 (ks.getD t 0)
def init : St := ⟨0x6a09e667#32, 0xbb67ae85#32, 0x3c6ef372#32, 0xa54ff53a#32, 0x510e527f#32, 0x9b05688c#32, 0x1f83d9ab#32, 0x5be0cd19#32⟩
/-- the words of all rounds, one more -/
def nxt (ws : List Wd) : Wd := ws.getD (ws.length - 16) 0 + s0 (ws.getD (ws.length - 15) 0) + ws.getD (ws.length - 7) 0 + s1 (ws.getD (ws.length - 2) 0)
def ext (ws : List Wd) : List Wd := ws ++ [nxt ws]
def exts : Nat → List Wd → List Wd
  | 0, ws => ws
  | n + 1, ws => ext (exts n ws)
def word (a b c d : Int) : Wd := BitVec.ofInt 32 (a * 16777216 + b * 65536 + c * 256 + d)
def wordAt (bs : List Int) (t : Nat) : Wd := word (bs.getD (4 * t) 0) (bs.getD (4 * t + 1) 0) (bs.getD (4 * t + 2) 0) (bs.getD (4 * t + 3) 0)
def words (bs : List Int) (n : Nat) : List Wd := (List.range n).map (wordAt bs)
def spread (bs : List Int) : List Wd := exts 48 (words bs 16)
def rounds (ws : List Wd) : Nat → St → St
  | 0, s => s
  | t + 1, s => round (k t) (ws.getD t 0) (rounds ws t s)
def plus (s r : St) : St := ⟨s.a + r.a, s.b + r.b, s.c + r.c, s.d + r.d, s.e + r.e, s.f + r.f, s.g + r.g, s.h + r.h⟩
def block (s : St) (bs : List Int) : St := plus s (rounds (spread bs) 64 s)
/-- one byte more: the words so far, the bytes that wait -/
def feed (p : St × List Int) (c : Int) : St × List Int := if p.2.length = 63 then (block p.1 (p.2 ++ [c]), []) else (p.1, p.2 ++ [c])
def feeds (p : St × List Int) (zs : List Int) : St × List Int := zs.foldl feed p
def size8 (n : Nat) : List Int := (List.range 8).map fun i => ((n / 2 ^ (56 - 8 * i) % 256 : Nat) : Int)
def tail (n : Nat) : List Int := (128 : Int) :: (List.replicate ((119 - n % 64) % 64) 0 ++ size8 (8 * n))
def list (s : St) : List Wd := [s.a, s.b, s.c, s.d, s.e, s.f, s.g, s.h]
def byteOf (x : Wd) (i : Nat) : Int := ((x.toNat / 2 ^ (24 - 8 * i) % 256 : Nat) : Int)
def bytes (s : St) : List Int := (List.range 32).map fun i => byteOf ((list s).getD (i / 4) 0) (i % 4)
def sha (zs : List Int) : List Int := bytes (feeds (init, []) (zs ++ tail zs.length)).1
theorem abc : sha [97, 98, 99] = [0xba, 0x78, 0x16, 0xbf, 0x8f, 0x01, 0xcf, 0xea, 0x41, 0x41, 0x40, 0xde, 0x5d, 0xae, 0x22, 0x23, 0xb0, 0x03, 0x61, 0xa3, 0x96, 0x17, 0x7a, 0x9c, 0xb4, 0x10, 0xff, 0x61, 0xf2, 0x00, 0x15, 0xad] := by decide +kernel
end Sha
end Go.Proofs.YtghgomglpgidoaaGreat
namespace Go.Proofs.YtghgomglpgidoaaGreat
open Go.RowKit
namespace Sha
theorem wrap_u32_small (n : Nat) (h : n < 4294967296) : IntKind.u32.wrap (n : Int) = n := by
  rw [IntKind.wrap_u32]; omega
theorem ofInt32 (x : Wd) : BitVec.ofInt 32 (x.toNat : Int) = x := by
  rw [BitVec.ofInt_natCast]; simp
theorem xor32 (x y : Wd) : bits .xor .u32 (x.toNat : Int) (y.toNat : Int) = ((x ^^^ y).toNat : Int) := by
  show IntKind.u32.wrap ((BitVec.ofInt 32 (x.toNat : Int) ^^^ BitVec.ofInt 32 (y.toNat : Int)).toNat : Int) = _
  rw [ofInt32, ofInt32, wrap_u32_small _ (BitVec.isLt _)]
theorem and32 (x y : Wd) : bits .and .u32 (x.toNat : Int) (y.toNat : Int) = ((x &&& y).toNat : Int) := by
  show IntKind.u32.wrap ((BitVec.ofInt 32 (x.toNat : Int) &&& BitVec.ofInt 32 (y.toNat : Int)).toNat : Int) = _
  rw [ofInt32, ofInt32, wrap_u32_small _ (BitVec.isLt _)]
theorem or32 (x y : Wd) : bits .or .u32 (x.toNat : Int) (y.toNat : Int) = ((x ||| y).toNat : Int) := by
  show IntKind.u32.wrap ((BitVec.ofInt 32 (x.toNat : Int) ||| BitVec.ofInt 32 (y.toNat : Int)).toNat : Int) = _
  rw [ofInt32, ofInt32, wrap_u32_small _ (BitVec.isLt _)]
theorem add32 (x y : Wd) : ((x.toNat : Int) + (y.toNat : Int)) % 4294967296 = ((x + y).toNat : Int) := by
  rw [BitVec.toNat_add]; omega
theorem shr32 (x : Wd) (n : Nat) : (x.toNat : Int) / ((2 ^ n : Nat) : Int) = ((x >>> n).toNat : Int) := by
  rw [BitVec.toNat_ushiftRight, Nat.shiftRight_eq_div_pow]; omega
theorem shl32 (x : Wd) (n : Nat) : (x.toNat : Int) * ((2 ^ n : Nat) : Int) % 4294967296 = ((x <<< n).toNat : Int) := by
  rw [BitVec.toNat_shiftLeft, Nat.shiftLeft_eq]
  have : (x.toNat : Int) * ((2 ^ n : Nat) : Int) = ((x.toNat * 2 ^ n : Nat) : Int) := by simp
  rw [this]; omega
theorem rot32 (x : Wd) (n : Nat) (hn : n ≤ 32) (s : Int) (hs : s = 32 - (n : Int)) : bits .or .u32 ((x.toNat : Int) * 2 ^ s.toNat % 4294967296) ((x.toNat : Int) / 2 ^ (32 - s).toNat) = ((rotr x n).toNat : Int) := by
  subst hs
  have e1 : (32 - (n : Int)).toNat = 32 - n := by omega
  have e2 : (32 - (32 - (n : Int))).toNat = n := by omega
  rw [e1, e2]
  have h1 := shl32 x (32 - n)
  have h2 := shr32 x n
  have p1 : ((2 : Int) ^ (32 - n)) = ((2 ^ (32 - n) : Nat) : Int) := by simp
  have p2 : ((2 : Int) ^ n) = ((2 ^ n : Nat) : Int) := by simp
  rw [p1, p2, h1, h2, or32, rotr, BitVec.or_comm]
theorem or_add (a c : Nat) (n : Nat) (h : c < 2 ^ n) : a * 2 ^ n ||| c = a * 2 ^ n + c := by
  have := Nat.shiftLeft_add_eq_or_of_lt (b := c) (i := n) h a
  rw [Nat.shiftLeft_eq] at this; exact this.symm
theorem or_word (a b c d : Int) (ha : 0 ≤ a ∧ a < 256) (hb : 0 ≤ b ∧ b < 256) (hc : 0 ≤ c ∧ c < 256) (hd : 0 ≤ d ∧ d < 256) :
   bits .or .u32 (bits .or .u32 (bits .or .u32 (a * 16777216) (b * 65536)) (c * 256)) d = ((word a b c d).toNat : Int) := by
  obtain ⟨a, rfl⟩ := Int.eq_ofNat_of_zero_le ha.1
  obtain ⟨b, rfl⟩ := Int.eq_ofNat_of_zero_le hb.1
  obtain ⟨c, rfl⟩ := Int.eq_ofNat_of_zero_le hc.1
  obtain ⟨d, rfl⟩ := Int.eq_ofNat_of_zero_le hd.1
  have q : ∀ n : Nat, n < 4294967296 → (BitVec.ofNat 32 n).toNat = n := fun n h => by rw [BitVec.toNat_ofNat]; exact Nat.mod_eq_of_lt h
  have l : ∀ x y : Nat, x < 4294967296 → y < 4294967296 → bits .or .u32 (x : Int) (y : Int) = ((x ||| y : Nat) : Int) := fun x y hx hy => by
    have := or32 (BitVec.ofNat 32 x) (BitVec.ofNat 32 y)
    rw [BitVec.toNat_or, q x hx, q y hy] at this; exact this
  have e1 : a * 16777216 ||| b * 65536 = (a * 256 + b) * 65536 := by
    rw [show a * 16777216 = a * 2 ^ 24 by omega, or_add a (b * 65536) 24 (by omega)]; omega
  have e2 : (a * 256 + b) * 65536 ||| c * 256 = (a * 65536 + b * 256 + c) * 256 := by
    rw [show (a * 256 + b) * 65536 = (a * 256 + b) * 2 ^ 16 by omega, or_add _ (c * 256) 16 (by omega)]; omega
  have e3 : (a * 65536 + b * 256 + c) * 256 ||| d = (a * 65536 + b * 256 + c) * 256 + d := by
    rw [show (a * 65536 + b * 256 + c) * 256 = (a * 65536 + b * 256 + c) * 2 ^ 8 by omega, or_add _ d 8 (by omega)]
  have c1 : (a : Int) * 16777216 = ((a * 16777216 : Nat) : Int) := by omega
  have c2 : (b : Int) * 65536 = ((b * 65536 : Nat) : Int) := by omega
  have c3 : (c : Int) * 256 = ((c * 256 : Nat) : Int) := by omega
  rw [c1, c2, c3, l _ _ (by omega) (by omega), e1, l _ _ (by omega) (by omega), e2, l _ _ (by omega) (by omega), e3]
  unfold word
  have c4 : (a : Int) * 16777216 + (b : Int) * 65536 + (c : Int) * 256 + (d : Int) = (((a * 65536 + b * 256 + c) * 256 + d : Nat) : Int) := by omega
  rw [c4, BitVec.ofInt_natCast, q _ (by omega)]
end Sha
open Sha
end Go.Proofs.YtghgomglpgidoaaGreat
namespace Go.Proofs.YtghgomglpgidoaaGreat
open Go.RowKit
open Sha
def v32 (xs : List Wd) : List Value := xs.map fun x => Value.int .u32 (x.toNat : Int)
def v8 (zs : List Int) : List Value := zs.map (Value.int .u8)
@[simp] theorem v32_length (xs : List Wd) : (v32 xs).length = xs.length := by simp [v32]
@[simp] theorem v8_length (zs : List Int) : (v8 zs).length = zs.length := by simp [v8]
theorem v32_one (xs : List Wd) : ∀ v ∈ v32 xs, v.oneCell' = true := by
  intro v hv; obtain ⟨x, _, rfl⟩ := List.mem_map.1 hv; rfl
theorem v8_one (xs : List Int) : ∀ v ∈ v8 xs, v.oneCell' = true := by
  intro v hv; obtain ⟨x, _, rfl⟩ := List.mem_map.1 hv; rfl
theorem get32 {w : World} {b o : Nat} {xs : List Wd} (h : w.rangeAt b o (v32 xs)) {i : Nat} (hi : i < xs.length) : w.cell? ⟨b, o + i, none⟩ = some (.int .u32 ((xs.getD i 0).toNat : Int)) := by
  refine h i _ ?_
  simp [v32, List.getElem?_eq_getElem hi]
theorem get8 {w : World} {b o : Nat} {xs : List Int} (h : w.rangeAt b o (v8 xs)) {i : Nat} (hi : i < xs.length) : w.cell? ⟨b, o + i, none⟩ = some (.int .u8 (xs.getD i 0)) := by
  refine h i _ ?_
  simp [v8, List.getElem?_eq_getElem hi]
theorem range_set {w : World} {b o : Nat} {cs : List Value} (h : w.rangeAt b o cs) (i : Nat) (v : Value) : (w.setCell ⟨b, o + i, none⟩ v).rangeAt b o (cs.set i v) := by
  intro j u hu
  rw [List.getElem?_set] at hu
  by_cases e : i = j
  · subst e
    rw [if_pos rfl] at hu
    by_cases hi : i < cs.length
    · rw [if_pos hi] at hu
      simp only [Option.some.injEq] at hu
      subst hu
      exact World.cell?_setCell_same _ _ _ (h i _ (List.getElem?_eq_getElem hi))
    · rw [if_neg hi] at hu; cases hu
  · rw [if_neg e] at hu
    rw [World.cell?_setCell_other _ _ _ _ (fun q => e (by injection q with _ q2 _; omega))]
    exact h j u hu
theorem range_other {w : World} {b o : Nat} {cs : List Value} (h : w.rangeAt b o cs) (p : Addr) (v : Value) (hp : p.block = b → p.off < o ∨ o + cs.length ≤ p.off) : (w.setCell p v).rangeAt b o cs := by
  intro j u hu
  have hj : j < cs.length := (List.getElem?_eq_some_iff.1 hu).1
  rw [World.cell?_setCell_other _ _ _ _ (by rintro rfl; have := hp rfl; simp at this; omega)]
  exact h j u hu
theorem range_below {w w' : World} {b o n : Nat} {cs : List Value} (h : w.rangeAt b o cs) (hb : Below n w w') (hn : b < n) : w'.rangeAt b o cs :=
  fun j u hu => (hb.cell (p := ⟨b, o + j, none⟩) hn).trans (h j u hu)
theorem there_below {w w' : World} {b o n m : Nat} (h : w.there b o m) (hb : Below n w w') (hn : b < n) : w'.there b o m :=
  fun j hj => ⟨by rw [hb.cell (p := ⟨b, o + j, none⟩) hn]; exact (h j hj).1, by rw [hb.frozen (p := ⟨b, o + j, none⟩) hn]; exact (h j hj).2⟩
theorem there_set {w : World} {b o n : Nat} (h : w.there b o n) (p : Addr) (v : Value) : (w.setCell p v).there b o n := by
  intro j hj
  obtain ⟨h1, h2⟩ := h j hj
  refine ⟨?_, by rw [World.frozen?_setCell]; exact h2⟩
  obtain ⟨u, hu⟩ := Option.isSome_iff_exists.1 h1
  by_cases e : p = ⟨b, o + j, none⟩
  · subst e; rw [World.cell?_setCell_same _ _ _ hu]; rfl
  · rw [World.cell?_setCell_other _ _ _ _ e, hu]; rfl
theorem there_part {w : World} {b o n : Nat} (h : w.there b o n) (i m : Nat) (hm : i + m ≤ n) : w.there b (o + i) m := fun j hj => by
  have := h (i + j) (by omega); rwa [← Nat.add_assoc] at this
theorem range_part {w : World} {b o : Nat} {cs ds es : List Value} (h : w.rangeAt b o (cs ++ ds ++ es)) : w.rangeAt b (o + cs.length) ds := fun j v hv => by
  have hj : j < ds.length := (List.getElem?_eq_some_iff.1 hv).1
  have := h (cs.length + j) v (by rw [List.append_assoc, List.getElem?_append_right (by omega), List.getElem?_append_left (by omega), Nat.add_sub_cancel_left]; exact hv)
  rwa [← Nat.add_assoc] at this
theorem range_join {w : World} {b o : Nat} {cs ds : List Value} (h : w.rangeAt b o cs) (k : w.rangeAt b (o + cs.length) ds) : w.rangeAt b o (cs ++ ds) := fun j v hv => by
  by_cases hj : j < cs.length
  · rw [List.getElem?_append_left hj] at hv; exact h j v hv
  · rw [List.getElem?_append_right (by omega)] at hv
    have := k _ v hv
    rwa [show o + cs.length + (j - cs.length) = o + j by omega] at this
theorem range_left {w : World} {b o : Nat} {cs ds : List Value} (h : w.rangeAt b o (cs ++ ds)) : w.rangeAt b o cs := fun j v hv => by
  have hj : j < cs.length := (List.getElem?_eq_some_iff.1 hv).1
  exact h j v (by rw [List.getElem?_append_left hj]; exact hv)
theorem range_right {w : World} {b o : Nat} {cs ds : List Value} (h : w.rangeAt b o (cs ++ ds)) : w.rangeAt b (o + cs.length) ds := fun j v hv => by
  have := h (cs.length + j) v (by rw [List.getElem?_append_right (by omega), Nat.add_sub_cancel_left]; exact hv)
  rwa [← Nat.add_assoc] at this
theorem range_new (w : World) (arr : Array Value) (t : TypeId) : (w.alloc (.cells arr t)).rangeAt w.heap.size 0 arr.toList := fun j v hv => by
  rw [World.cell?_alloc_at _ _ _ _ rfl, Nat.zero_add]
  simpa using hv
theorem there_new (w : World) (arr : Array Value) (t : TypeId) : (w.alloc (.cells arr t)).there w.heap.size 0 arr.size := fun j hj => by
  refine ⟨?_, World.frozen?_alloc_at _ _ _ _ rfl⟩
  rw [World.cell?_alloc_at _ _ _ _ rfl, Nat.zero_add]
  simp [hj]
theorem v32_set (xs : List Wd) (i : Nat) (x : Wd) : (v32 xs).set i (.int .u32 (x.toNat : Int)) = v32 (xs.set i x) := by
  unfold v32; rw [List.map_set]
theorem v8_set (xs : List Int) (i : Nat) (x : Int) : (v8 xs).set i (.int .u8 x) = v8 (xs.set i x) := by
  unfold v8; rw [List.map_set]
theorem set_fill (xs : List Wd) (n : Nat) (x : Wd) (hn : 0 < n) : (xs ++ List.replicate n (0 : Wd)).set xs.length x = (xs ++ [x]) ++ List.replicate (n - 1) (0 : Wd) := by
  obtain ⟨m, rfl⟩ : ∃ m, n = m + 1 := ⟨n - 1, by omega⟩
  simp [List.replicate_succ]
theorem below_sets {B b : Nat} {a : World} (hb : B ≤ b) : ∀ (vs : List Value) (o : Nat) (w : World), Below B a w → Below B a (w.setCells b o vs)
  | [], _, _, h => h
  | v :: r, o, _, h => below_sets hb r (o + 1) _ (h.setCell (p := ⟨b, o, none⟩) hb v)
theorem size_sets (b : Nat) : ∀ (vs : List Value) (o : Nat) (w : World), (w.setCells b o vs).heap.size = w.heap.size
  | [], _, _ => rfl
  | v :: r, o, _ => by rw [World.setCells, size_sets b r]; simp
/-- a new array, laid and filled -/
theorem fresh_store (w1 : World) (arr : Array Value) (t : TypeId) (cs : List Value) (h : cs.length = arr.size) :
    ((w1.alloc (.cells arr t)).setCells w1.heap.size 0 cs).rangeAt w1.heap.size 0 cs ∧ Below w1.heap.size w1 ((w1.alloc (.cells arr t)).setCells w1.heap.size 0 cs) ∧
    ((w1.alloc (.cells arr t)).setCells w1.heap.size 0 cs).heap.size = w1.heap.size + 1 ∧ ((w1.alloc (.cells arr t)).setCells w1.heap.size 0 cs).there w1.heap.size 0 arr.size :=
  ⟨World.rangeAt_setCells_same _ _ _ _ (by rw [h]; exact there_new w1 arr t), below_sets (Nat.le_refl _) _ _ _ ((Below.refl _ _).alloc (Nat.le_refl _) _), by rw [size_sets]; simp, World.there_setCells (there_new w1 arr t) _ _ _⟩
theorem run_size {P : Program} {e : TypeId} {n : Nat} (h : (P.info? e).map (·.size) = some n) (w : World) : (sizeOf e).run P w = .ok n w := by
  cases hq : P.info? e with
  | none => simp [hq] at h
  | some i => simp [hq] at h; simp [sizeOf, typeInfo, hq, h]
/-- an array's part from l on -/
theorem slice_l {P : Program} {t e : TypeId} {n : Nat} (ht : P.underlying t = some (.array n e)) (hs : (P.info? e).map (·.size) = some 1) (b off l : Nat) (i : Int) (hi : i = (l : Int)) (hl : l < n) (w : World) :
    (Instr.sliceAt t (.pointer (some ⟨b, off, none⟩)) (some (.int .i64 i)) none none).run P w = .ok (.slice (some ⟨b, off + l, none⟩) (n - l) (n - l)) w := by
  subst hi
  have h1 : P.arrayLen t = n := by simp [Program.arrayLen, ht]
  have h2 : P.elem t = e := by simp [Program.elem, ht]
  rw [run_sliceAt_array_l w t ⟨b, off, none⟩ (by rw [h1, h2, ht]) .i64 l (by omega) (by rw [h1]; omega), h1, h2, run_size hs]
  simp only [slicedAt, Result.andThen_ok, Int.toNat_natCast, Nat.mul_one]
  rw [if_neg (by omega), Addr.add_mid]
theorem slice_h {P : Program} {t e : TypeId} {n : Nat} (ht : P.underlying t = some (.array n e)) (hs : (P.info? e).map (·.size) = some 1) (b off h : Nat) (i : Int) (hi : i = (h : Int)) (hl : h ≤ n) (hn : 0 < n) (w : World) :
    (Instr.sliceAt t (.pointer (some ⟨b, off, none⟩)) none (some (.int .i64 i)) none).run P w = .ok (.slice (some ⟨b, off, none⟩) h n) w := by
  subst hi
  have h1 : P.arrayLen t = n := by simp [Program.arrayLen, ht]
  have h2 : P.elem t = e := by simp [Program.elem, ht]
  rw [run_sliceAt_array_h w t ⟨b, off, none⟩ (by rw [h1, h2, ht]) .i64 h (by omega) (by rw [h1]; omega), h1, h2, run_size hs]
  simp only [slicedAt, Result.andThen_ok, Int.toNat_natCast, Nat.zero_mul, Nat.sub_zero]
  rw [if_neg (by omega), Addr.add_mid]; rfl
theorem slice_all {P : Program} {t e : TypeId} {n : Nat} (ht : P.underlying t = some (.array n e)) (hs : (P.info? e).map (·.size) = some 1) (b off : Nat) (hn : 0 < n) (w : World) :
    (Instr.sliceAt t (.pointer (some ⟨b, off, none⟩)) none none none).run P w = .ok (.slice (some ⟨b, off, none⟩) n n) w := by
  have h1 : P.arrayLen t = n := by simp [Program.arrayLen, ht]
  have h2 : P.elem t = e := by simp [Program.elem, ht]
  rw [run_sliceAt_array_all w t ⟨b, off, none⟩ (by rw [h1, h2, ht]), h1, h2, run_size hs]
  simp only [slicedAt, Result.andThen_ok, Nat.zero_mul, Nat.sub_zero]
  rw [if_neg (by omega), Addr.add_mid]; rfl
theorem isz8 : (Tryz.prog.info? 5).map (·.size) = some 1 := by kernel_rfl
theorem isz32 : (Tryz.prog.info? 189).map (·.size) = some 1 := by kernel_rfl
end Go.Proofs.YtghgomglpgidoaaGreat
namespace Go.Proofs.YtghgomglpgidoaaGreat
open Go.RowKit
open Sha
namespace Sha
theorem words_succ (bs : List Int) (n : Nat) : words bs (n + 1) = words bs n ++ [wordAt bs n] := by
  simp [words, List.range_succ]
theorem words_length (bs : List Int) (n : Nat) : (words bs n).length = n := by simp [words]
theorem exts_length (n : Nat) (ws : List Wd) : (exts n ws).length = ws.length + n := by
  induction n with
  | zero => rfl
  | succ n ih => simp [exts, ext, ih]; omega
theorem spread_length (bs : List Int) : (spread bs).length = 64 := by rw [spread, exts_length, words_length]
theorem getD_left (xs ys : List Wd) (i : Nat) (h : i < xs.length) : (xs ++ ys).getD i 0 = xs.getD i 0 := by
  simp only [List.getD_eq_getElem?_getD]; rw [List.getElem?_append_left h]
theorem byte_ok {bs : List Int} (hb : ∀ z ∈ bs, 0 ≤ z ∧ z < 256) (j : Nat) : 0 ≤ bs.getD j 0 ∧ bs.getD j 0 < 256 := by
  rcases Nat.lt_or_ge j bs.length with h | h
  · rw [List.getD_eq_getElem?_getD, List.getElem?_eq_getElem h]; exact hb _ (List.getElem_mem h)
  · rw [List.getD_eq_getElem?_getD, List.getElem?_eq_none h]; decide
theorem add32_4 (a b c d : Wd) : ((a.toNat : Int) + (b.toNat : Int) + (c.toNat : Int) + (d.toNat : Int)) % 4294967296 = ((a + b + c + d).toNat : Int) := by
  rw [BitVec.toNat_add, BitVec.toNat_add, BitVec.toNat_add]; omega
theorem s0_bits (y : Wd) : bits .xor .u32 (bits .xor .u32 ((rotr y 7).toNat : Int) ((rotr y 18).toNat : Int)) ((y.toNat : Int) / 8) = ((s0 y).toNat : Int) := by
  have := shr32 y 3
  rw [show ((2 ^ 3 : Nat) : Int) = 8 by decide] at this
  rw [this, xor32, xor32]; rfl
theorem s1_bits (y : Wd) : bits .xor .u32 (bits .xor .u32 ((rotr y 17).toNat : Int) ((rotr y 19).toNat : Int)) ((y.toNat : Int) / 1024) = ((s1 y).toNat : Int) := by
  have := shr32 y 10
  rw [show ((2 ^ 10 : Nat) : Int) = 1024 by decide] at this
  rw [this, xor32, xor32]; rfl
end Sha
end Go.Proofs.YtghgomglpgidoaaGreat
namespace Go.Proofs.YtghgomglpgidoaaGreat
open Go.RowKit
open Sha
theorem gb_refl (w : World) (r : Option Nat) : w.grownBy w r := ⟨rfl, rfl, rfl, Nat.le_refl _, fun _ _ _ => rfl⟩
theorem gb_trans {w w1 w2 : World} {r : Option Nat} (h : w.grownBy w1 r) (k : w1.grownBy w2 r) : w.grownBy w2 r :=
  ⟨k.os.trans h.os, k.tape.trans h.tape, k.output.trans h.output, Nat.le_trans h.size k.size, fun i hi hr => (k.block i (Nat.lt_of_lt_of_le hi h.size) hr).trans (h.block i hi hr)⟩
theorem gb_set (w : World) (R j : Nat) (v : Value) : w.grownBy (w.setCell ⟨R, j, none⟩ v) (some R) :=
  ⟨rfl, rfl, rfl, by simp [World.setCell], fun k _ hk => Below.heap_setCell w _ v k (fun e => hk (by rw [e]))⟩
theorem gb_below {w w' : World} (h : Below w.heap.size w w') (r : Option Nat) : w.grownBy w' r := ⟨h.os, h.tape, h.output, h.size, fun k hk _ => h.block k hk⟩
theorem gb_drew {w w' : World} {r : Option Nat} (h : w.grownBy w' r) : w.grownBy w'.drew r := ⟨h.os, h.tape, h.output, h.size, h.block⟩
theorem gb_drewN {w w' : World} {r : Option Nat} (h : w.grownBy w' r) (n : Nat) : w.grownBy (w'.drewN n) r := ⟨h.os, h.tape, h.output, h.size, h.block⟩
theorem range_gb {w w' : World} {R b o : Nat} {cs : List Value} (h : w.rangeAt b o cs) (g : w.grownBy w' (some R)) (hn : b ≠ R) : w'.rangeAt b o cs := fun j v hv => g.cell (h j v hv) (by simpa using hn)
/-- the constants' table -/
def kl : List Wd := ks.map (BitVec.ofNat 32)
theorem kl_at (t : Nat) (h : t < 64) : kl.getD t 0 = k t := by
  simp only [kl, k, List.getD_eq_getElem?_getD, List.getElem?_map]
  rw [List.getElem?_eq_getElem (show t < ks.length from h)]; rfl
/-- what is left alone: the receiver's later cells, all other blocks -/
def Keep (R : Nat) (w wr : World) : Prop := (∀ j, 8 ≤ j → wr.cell? ⟨R, j, none⟩ = w.cell? ⟨R, j, none⟩) ∧ (∀ j, wr.frozen? ⟨R, j, none⟩ = w.frozen? ⟨R, j, none⟩) ∧ w.grownBy wr (some R)
theorem Keep.refl (R : Nat) (w : World) : Keep R w w := ⟨fun _ _ => rfl, fun _ => rfl, gb_refl _ _⟩
theorem Keep.drewN {R : Nat} {w wr : World} (h : Keep R w wr) (n : Nat) : Keep R w (wr.drewN n) := ⟨fun j hj => (by simpa using h.1 j hj), fun j => (by simpa using h.2.1 j), gb_drewN h.2.2 n⟩
theorem Keep.below {R : Nat} {w wr wx : World} (h : Keep R w wr) (hb : Below wr.heap.size wr wx) (hR : R < wr.heap.size) : Keep R w wx :=
  ⟨fun j hj => (hb.cell (p := ⟨R, j, none⟩) hR).trans (h.1 j hj), fun j => (hb.frozen (p := ⟨R, j, none⟩) hR).trans (h.2.1 j), gb_trans h.2.2 (gb_below hb _)⟩
theorem Keep.set {R : Nat} {w wr : World} (h : Keep R w wr) (i : Nat) (hi : i < 8) (v : Value) : Keep R w (wr.setCell ⟨R, i, none⟩ v) :=
  ⟨fun j hj => (World.cell?_setCell_other _ _ _ _ (fun q => by injection q with _ q2 _; omega)).trans (h.1 j hj), fun j => (World.frozen?_setCell _ _ _ _).trans (h.2.1 j), gb_trans h.2.2 (gb_set _ _ _ _)⟩
theorem range_drewN {w : World} {b o n : Nat} {cs : List Value} (h : w.rangeAt b o cs) : (w.drewN n).rangeAt b o cs := fun j v hv => by simpa using h j v hv
theorem there_drewN {w : World} {b o n m : Nat} (h : w.there b o m) : (w.drewN n).there b o m := fun j hj => by simpa using h j hj
namespace Sha
theorem not32 (x : Wd) : bits .xor .u32 IntKind.u32.max (x.toNat : Int) = ((~~~ x).toNat : Int) := by
  show IntKind.u32.wrap ((BitVec.ofInt 32 (4294967295 : Int) ^^^ BitVec.ofInt 32 (x.toNat : Int)).toNat : Int) = _
  rw [ofInt32, wrap_u32_small _ (BitVec.isLt _)]
  have e : BitVec.ofInt 32 4294967295 = BitVec.allOnes 32 := by decide
  rw [e, BitVec.allOnes_xor]
theorem t1_bits (kk x a b c d e f g h : Wd) : (((h.toNat : Int) + bits .xor .u32 (bits .xor .u32 ((rotr e 6).toNat : Int) ((rotr e 11).toNat : Int)) ((rotr e 25).toNat : Int) + bits .xor .u32 (bits .and .u32 (e.toNat : Int) (f.toNat : Int)) (bits .and .u32 (bits .xor .u32 (if IntKind.u32.signed = true then -1 else IntKind.u32.max) (e.toNat : Int)) (g.toNat : Int)) + (kk.toNat : Int)) % 4294967296 + (x.toNat : Int)) % 4294967296 = ((t1 kk x ⟨a, b, c, d, e, f, g, h⟩).toNat : Int) := by
  have hm : (if IntKind.u32.signed = true then -1 else IntKind.u32.max) = IntKind.u32.max := by decide
  rw [hm]
  simp only [not32, xor32, and32]
  show _ = ((h + (rotr e 6 ^^^ rotr e 11 ^^^ rotr e 25) + ((e &&& f) ^^^ (~~~ e &&& g)) + kk + x : Wd).toNat : Int)
  generalize (rotr e 6 ^^^ rotr e 11 ^^^ rotr e 25) = p
  generalize ((e &&& f) ^^^ (~~~ e &&& g)) = q
  rw [BitVec.toNat_add, BitVec.toNat_add, BitVec.toNat_add, BitVec.toNat_add]; omega
theorem t2_bits (a b c d e f g h : Wd) : (bits .xor .u32 (bits .xor .u32 ((rotr a 2).toNat : Int) ((rotr a 13).toNat : Int)) ((rotr a 22).toNat : Int) + bits .xor .u32 (bits .xor .u32 (bits .and .u32 (a.toNat : Int) (b.toNat : Int)) (bits .and .u32 (a.toNat : Int) (c.toNat : Int))) (bits .and .u32 (b.toNat : Int) (c.toNat : Int))) % 4294967296 = ((t2 ⟨a, b, c, d, e, f, g, h⟩).toNat : Int) := by
  simp only [xor32, and32]
  show _ = (((rotr a 2 ^^^ rotr a 13 ^^^ rotr a 22) + ((a &&& b) ^^^ (a &&& c) ^^^ (b &&& c)) : Wd).toNat : Int)
  generalize (rotr a 2 ^^^ rotr a 13 ^^^ rotr a 22) = p
  generalize ((a &&& b) ^^^ (a &&& c) ^^^ (b &&& c)) = q
  rw [BitVec.toNat_add]; omega
end Sha
/-- the sums up to j, the words so far from j on -/
def mix (s r : St) (j : Nat) : List Wd := (list (plus s r)).take j ++ (list s).drop j
end Go.Proofs.YtghgomglpgidoaaGreat
namespace Go.Proofs.YtghgomglpgidoaaGreat
open Go.RowKit
open Sha
namespace Sha
def four (x : Wd) : List Int := [byteOf x 0, byteOf x 1, byteOf x 2, byteOf x 3]
end Sha
end Go.Proofs.YtghgomglpgidoaaGreat
namespace Go.Proofs.YtghgomglpgidoaaGreat
open Go.RowKit
open Sha
/-- a slice of bytes whose elements are zs (nil, empty or over memory that lies there) -/
def RowAt (w : World) (a : Option Addr) (zs : List Int) : Prop :=
  zs.length ≤ maxLen ∧ (∀ z ∈ zs, 0 ≤ z ∧ z < 256) ∧ (zs = [] ∨ ∃ b off, a = some ⟨b, off, none⟩ ∧ b < w.heap.size ∧ w.rangeAt b off (v8 zs))
theorem RowAt.below {w w' : World} {a : Option Addr} {zs : List Int} (h : RowAt w a zs) (hb : Below w.heap.size w w') : RowAt w' a zs := by
  refine ⟨h.1, h.2.1, ?_⟩
  rcases h.2.2 with h | ⟨b, off, rfl, h1, h2⟩
  · exact Or.inl h
  · exact Or.inr ⟨b, off, rfl, Nat.lt_of_lt_of_le h1 hb.size, range_below h2 hb h1⟩
theorem RowAt.gb {w w' : World} {a : Option Addr} {zs : List Int} {R : Nat} (h : RowAt w a zs) (hb : w.grownBy w' (some R)) (hne : zs = [] ∨ ∀ x, a = some x → x.block ≠ R) : RowAt w' a zs := by
  refine ⟨h.1, h.2.1, ?_⟩
  rcases h.2.2 with h | ⟨b, off, rfl, h1, h2⟩
  · exact Or.inl h
  · rcases hne with hne | hne
    · exact Or.inl hne
    · exact Or.inr ⟨b, off, rfl, Nat.lt_of_lt_of_le h1 hb.size, range_gb h2 hb (hne _ rfl)⟩
/-- where x[n:] begins -/
def cutA (a : Option Addr) (cap n : Nat) : Option Addr := if cap = n then a else a.map (·.add n)
theorem cutA_ne {a : Option Addr} {R cap n : Nat} (h : ∀ x, a = some x → x.block ≠ R) : ∀ x, cutA a cap n = some x → x.block ≠ R := by
  intro x hx
  unfold cutA at hx
  split at hx
  · exact h x hx
  · cases a with
    | none => simp at hx
    | some y =>
      simp at hx
      subst hx
      have := h y rfl
      unfold Addr.add
      split <;> simpa using this
theorem RowAt.take {w : World} {a : Option Addr} {zs : List Int} (h : RowAt w a zs) (n : Nat) : RowAt w a (zs.take n) := by
  obtain ⟨h1, h2, h3⟩ := h
  refine ⟨by rw [List.length_take]; omega, fun z hz => h2 z (List.mem_of_mem_take hz), ?_⟩
  rcases h3 with rfl | ⟨b, off, rfl, hb, hc⟩
  · left; simp
  · right
    refine ⟨b, off, rfl, hb, ?_⟩
    have e : v8 zs = v8 (zs.take n) ++ v8 (zs.drop n) := by unfold v8; rw [← List.map_append, List.take_append_drop]
    rw [e] at hc
    exact range_left hc
theorem RowAt.drop {w : World} {a : Option Addr} {zs : List Int} (h : RowAt w a zs) (n cap : Nat) (hn : n ≤ zs.length) (hcap : zs.length ≤ cap) : RowAt w (cutA a cap n) (zs.drop n) := by
  obtain ⟨h1, h2, h3⟩ := h
  refine ⟨by rw [List.length_drop]; omega, fun z hz => h2 z (List.mem_of_mem_drop hz), ?_⟩
  by_cases he : n = zs.length
  · left; simp [he]
  · rcases h3 with rfl | ⟨b, off, rfl, hb, hc⟩
    · left; simp
    · right
      refine ⟨b, off + n, ?_, hb, ?_⟩
      · unfold cutA
        rw [if_neg (by omega), Option.map_some, Addr.add_mid]
      · have e : v8 zs = v8 (zs.take n) ++ v8 (zs.drop n) := by unfold v8; rw [← List.map_append, List.take_append_drop]
        rw [e] at hc
        have := range_right hc
        rwa [v8_length, List.length_take_of_le hn] at this
/-- a digest on its way: the words so far, the bytes that wait, how many came -/
structure Run (w : World) (R : Nat) (s : St) (wait : List Int) (n : Nat) : Prop where
  two : 2 ≤ R
  lt : R < w.heap.size
  thr : w.there R 0 74
  wds : w.rangeAt R 0 (v32 (list s))
  few : wait.length < 64
  ok : ∀ z ∈ wait, 0 ≤ z ∧ z < 256
  buf : ∃ junk : List Int, wait.length + junk.length = 64 ∧ w.rangeAt R 8 (v8 (wait ++ junk))
  held : w.cell? ⟨R, 72, none⟩ = some (.int .i64 (wait.length : Int))
  count : w.cell? ⟨R, 73, none⟩ = some (.int .u64 (n : Int))
  kls : w.rangeAt 1 0 (v32 kl)
namespace Sha
theorem feeds_append (p : St × List Int) (a b : List Int) : feeds p (a ++ b) = feeds (feeds p a) b := by simp [feeds, List.foldl_append]
theorem feeds_few (s : St) (wait : List Int) (zs : List Int) (h : wait.length + zs.length < 64) : feeds (s, wait) zs = (s, wait ++ zs) := by
  induction zs generalizing wait with
  | nil => simp [feeds]
  | cons z r ih =>
    simp only [List.length_cons] at h
    have e : feeds (s, wait) (z :: r) = feeds (feed (s, wait) z) r := rfl
    rw [e, feed, if_neg (by simp; omega), ih (wait ++ [z]) (by simp; omega)]
    simp
theorem feeds_full (s : St) (wait : List Int) (zs : List Int) (h : wait.length + zs.length = 64) (hz : wait.length < 64) : feeds (s, wait) zs = (block s (wait ++ zs), []) := by
  obtain ⟨ys, z, rfl⟩ : ∃ ys z, zs = ys ++ [z] := by
    have hne : zs ≠ [] := by intro e; rw [e] at h; simp at h; omega
    exact ⟨zs.dropLast, zs.getLast hne, (List.dropLast_concat_getLast hne).symm⟩
  simp only [List.length_append, List.length_cons, List.length_nil] at h
  rw [feeds_append, feeds_few s wait ys (by omega)]
  show feed (s, wait ++ ys) z = _
  rw [feed, if_pos (by simp; omega)]
  simp
end Sha
theorem Run.drewN {w : World} {R : Nat} {s : St} {wait : List Int} {n : Nat} (h : Run w R s wait n) (k : Nat) : Run (w.drewN k) R s wait n := by
  obtain ⟨h1, h2, h3, h4, h5, h6, ⟨junk, h7, h8⟩, h9, h10, h11⟩ := h
  exact ⟨h1, h2, there_drewN h3, range_drewN h4, h5, h6, ⟨junk, h7, range_drewN h8⟩, h9, h10, range_drewN h11⟩
def lenV : Value → Nat
  | .slice _ n _ => n
  | _ => 0
theorem Run.set73 {w : World} {R : Nat} {s : St} {wait : List Int} {n : Nat} (h : Run w R s wait n) (m : Nat) : Run (w.setCell ⟨R, 73, none⟩ (.int .u64 (m : Int))) R s wait m := by
  obtain ⟨h1, h2, h3, h4, h5, h6, ⟨junk, h7, h8⟩, h9, h10, h11⟩ := h
  refine ⟨h1, by simpa using h2, there_set h3 _ _, range_other h4 _ _ (fun _ => by right; show 0 + (v32 (list s)).length ≤ 73; simp [list]), h5, h6, ⟨junk, h7, range_other h8 _ _ (fun _ => by right; show 8 + (v8 (wait ++ junk)).length ≤ 73; simp; omega)⟩, ?_, World.cell?_setCell_same _ _ _ h10, range_other h11 _ _ (fun e => absurd e (by simp; omega))⟩
  rw [World.cell?_setCell_other _ _ _ _ (by simp)]; exact h9
/-- the bytes c have come behind those that wait; how many wait is told -/
structure Mid (w : World) (R : Nat) (s : St) (bs : List Int) (n : Nat) : Prop where
  two : 2 ≤ R
  lt : R < w.heap.size
  thr : w.there R 0 74
  wds : w.rangeAt R 0 (v32 (list s))
  len : bs.length ≤ 64
  ok : ∀ z ∈ bs, 0 ≤ z ∧ z < 256
  buf : ∃ junk : List Int, bs.length + junk.length = 64 ∧ w.rangeAt R 8 (v8 (bs ++ junk))
  held : w.cell? ⟨R, 72, none⟩ = some (.int .i64 (bs.length : Int))
  count : w.cell? ⟨R, 73, none⟩ = some (.int .u64 (n : Int))
  kls : w.rangeAt 1 0 (v32 kl)
theorem v8_append (a b : List Int) : v8 (a ++ b) = v8 a ++ v8 b := by simp [v8]
theorem Run.fill {w : World} {R : Nat} {s : St} {wait : List Int} {n : Nat} (h : Run w R s wait n) (c : List Int) (hc : wait.length + c.length ≤ 64) (hz : ∀ z ∈ c, 0 ≤ z ∧ z < 256) (wx : World)
    (hw : wx = (w.setCells R (8 + wait.length) (v8 c)).setCell ⟨R, 72, none⟩ (.int .i64 ((wait.length : Int) + (c.length : Int)))) : Mid wx R s (wait ++ c) n := by
  subst hw
  obtain ⟨h1, h2, h3, h4, h5, h6, ⟨junk, h7, h8⟩, h9, h10, h11⟩ := h
  have hl4 : (v32 (list s)).length = 8 := by simp [list]
  have hj : c.length ≤ junk.length := by omega
  obtain ⟨j1, j2, rfl, hj1⟩ : ∃ j1 j2, junk = j1 ++ j2 ∧ j1.length = c.length := ⟨junk.take c.length, junk.drop c.length, (List.take_append_drop _ _).symm, by rw [List.length_take]; omega⟩
  simp only [List.length_append] at h7
  have hrA : (w.setCells R (8 + wait.length) (v8 c)).rangeAt R (8 + wait.length) (v8 c) := World.rangeAt_setCells_same w R (8 + wait.length) (v8 c) (by
    rw [v8_length]
    have := there_part h3 (8 + wait.length) c.length (by omega)
    rwa [Nat.zero_add] at this)
  have hW : (w.setCells R (8 + wait.length) (v8 c)).rangeAt R 8 (v8 ((wait ++ c) ++ j2)) := by
    rw [v8_append, v8_append]
    rw [v8_append, v8_append, ← List.append_assoc] at h8
    have q1 := range_left (range_left h8)
    have q2 := range_right h8
    refine range_join (range_join (World.rangeAt_setCells_apart q1 _ _ _ (Or.inr (Or.inl (by simp)))) (by rw [v8_length]; exact hrA)) ?_
    have q3 := World.rangeAt_setCells_apart q2 R (8 + wait.length) (v8 c) (Or.inr (Or.inr (by simp [hj1]; omega)))
    simp only [List.length_append, v8_length, hj1] at q3 ⊢
    exact q3
  have hs : (w.setCells R (8 + wait.length) (v8 c)).heap.size = w.heap.size := size_sets _ _ _ _
  refine ⟨h1, by simpa [hs] using h2, there_set (World.there_setCells h3 _ _ _) _ _, ?_, by simp; omega, ?_, ⟨j2, by simp; omega, ?_⟩, ?_, ?_, ?_⟩
  · exact range_other (World.rangeAt_setCells_apart h4 _ _ _ (Or.inr (Or.inl (by rw [hl4]; omega)))) _ _ (fun _ => by right; show 0 + (v32 (list s)).length ≤ 72; omega)
  · intro z hz'
    rcases List.mem_append.1 hz' with q | q
    · exact h6 z q
    · exact hz z q
  · exact range_other hW _ _ (fun _ => by right; show 8 + (v8 (wait ++ c ++ j2)).length ≤ 72; simp; omega)
  · have : (w.setCells R (8 + wait.length) (v8 c)).cell? ⟨R, 72, none⟩ = w.cell? ⟨R, 72, none⟩ := World.cell?_setCells_out R _ _ _ _ (fun _ _ => by right; show 8 + wait.length + (v8 c).length ≤ 72; simp; omega)
    rw [World.cell?_setCell_same _ _ _ (this.trans h9)]
    simp
  · rw [World.cell?_setCell_other _ _ _ _ (by simp)]
    have : (w.setCells R (8 + wait.length) (v8 c)).cell? ⟨R, 73, none⟩ = w.cell? ⟨R, 73, none⟩ := World.cell?_setCells_out R _ _ _ _ (fun _ _ => by right; show 8 + wait.length + (v8 c).length ≤ 73; simp; omega)
    rw [this]; exact h10
  · exact range_other (World.rangeAt_setCells_apart h11 _ _ _ (Or.inl (by omega))) _ _ (fun e => absurd e (by simp; omega))
theorem Mid.run {w : World} {R : Nat} {s : St} {bs : List Int} {n : Nat} (h : Mid w R s bs n) (hl : bs.length < 64) : Run w R s bs n := ⟨h.two, h.lt, h.thr, h.wds, hl, h.ok, h.buf, h.held, h.count, h.kls⟩
theorem Mid.turned {w w1 : World} {R : Nat} {s r : St} {bs : List Int} {n : Nat} (h : Mid w R s bs n) (hw : w1.rangeAt R 0 (v32 (list r))) (hk : Keep R w w1) : Run (w1.setCell ⟨R, 72, none⟩ (.int .i64 0)) R r [] n := by
  obtain ⟨h1, h2, h3, h4, h5, h6, ⟨junk, h7, h8⟩, h9, h10, h11⟩ := h
  obtain ⟨k1, k2, k3⟩ := hk
  have hl4 : (v32 (list r)).length = 8 := by simp [list]
  have c72 := (k1 72 (by omega)).trans h9
  refine ⟨h1, by have := k3.size; simp; omega, ?_, range_other hw _ _ (fun _ => by right; show 0 + (v32 (list r)).length ≤ 72; omega), by simp, by simp, ⟨bs ++ junk, by simpa using h7, ?_⟩, World.cell?_setCell_same _ _ _ c72, ?_, ?_⟩
  · refine there_set (fun j hj => ?_) _ _
    obtain ⟨u1, u2⟩ := h3 j hj
    rw [Nat.zero_add] at u1 u2 ⊢
    refine ⟨?_, by rw [k2]; exact u2⟩
    by_cases q : j < 8
    · have := hw.isSome j (by omega)
      rwa [Nat.zero_add] at this
    · rw [k1 j (by omega)]; exact u1
  · refine range_other (fun j v hv => ?_) _ _ (fun _ => by right; show 8 + (v8 ([] ++ (bs ++ junk))).length ≤ 72; simp; omega)
    rw [k1 _ (by omega)]; exact h8 j v hv
  · rw [World.cell?_setCell_other _ _ _ _ (by simp), k1 73 (by omega)]; exact h10
  · exact range_other (range_gb h11 k3 (by omega)) _ _ (fun e => absurd e (by simp; omega))
theorem gb_sets (R : Nat) : ∀ (vs : List Value) (o : Nat) (w : World), w.grownBy (w.setCells R o vs) (some R)
  | [], _, w => gb_refl w _
  | v :: r, o, w => gb_trans (gb_set w R o v) (gb_sets R r (o + 1) _)
end Go.Proofs.YtghgomglpgidoaaGreat
namespace Go.Proofs.YtghgomglpgidoaaGreat
open Go.RowKit
open Sha
theorem range_fill {w : World} {b o : Nat} {cs old rest vs : List Value} (h : w.rangeAt b o (cs ++ old ++ rest)) (hl : old.length = vs.length) (ht : w.there b (o + cs.length) vs.length) : (w.setCells b (o + cs.length) vs).rangeAt b o (cs ++ vs ++ rest) := by
  have q1 := range_left (range_left h)
  have q2 := range_right h
  refine range_join (range_join (World.rangeAt_setCells_apart q1 _ _ _ (Or.inr (Or.inl (Nat.le_refl _)))) (World.rangeAt_setCells_same w b _ vs ht)) ?_
  have q3 := World.rangeAt_setCells_apart q2 b (o + cs.length) vs (Or.inr (Or.inr (by simp [hl]; omega)))
  simp only [List.length_append, hl] at q3 ⊢
  exact q3
theorem there_gb {w w' : World} {R b o n : Nat} (h : w.there b o n) (g : w.grownBy w' (some R)) (hb : b < w.heap.size) (hn : b ≠ R) : w'.there b o n := fun j hj => by
  obtain ⟨h1, h2⟩ := h j hj
  obtain ⟨u, hu⟩ := Option.isSome_iff_exists.1 h1
  refine ⟨by rw [g.cell hu (by simpa using hn)]; rfl, ?_⟩
  rw [World.frozen?_of_block (w := w) (g.block b hb (by simpa using hn))]; exact h2
theorem gb_past {w wr : World} {r : Option Nat} {D : Nat} (h : w.grownBy wr r) (hD : w.heap.size ≤ D) (o : Nat) (v : Value) : w.grownBy (wr.setCell ⟨D, o, none⟩ v) r :=
  ⟨h.os, h.tape, h.output, by simpa using h.size, fun k hk hr => (Below.heap_setCell wr ⟨D, o, none⟩ v k (by show k ≠ D; omega)).trans (h.block k hk hr)⟩
theorem gb_sets_past {w : World} {r : Option Nat} {D : Nat} (hD : w.heap.size ≤ D) : ∀ (vs : List Value) (o : Nat) (wr : World), w.grownBy wr r → w.grownBy (wr.setCells D o vs) r
  | [], _, _, h => h
  | v :: vs, o, _, h => gb_sets_past hD vs (o + 1) _ (gb_past h hD o v)
namespace Sha
theorem set_fillI (xs : List Int) (n : Nat) (x : Int) (hn : 0 < n) : (xs ++ List.replicate n (0 : Int)).set xs.length x = (xs ++ [x]) ++ List.replicate (n - 1) (0 : Int) := by
  obtain ⟨m, rfl⟩ : ∃ m, n = m + 1 := ⟨n - 1, by omega⟩
  simp [List.replicate_succ]
def s8at (N i : Nat) : Int := ((N / 2 ^ (56 - 8 * i) % 256 : Nat) : Int)
theorem size8_length (N : Nat) : (size8 N).length = 8 := by simp [size8]
theorem size8_take (N k : Nat) (hk : k < 8) : (size8 N).take (k + 1) = (size8 N).take k ++ [s8at N k] := by
  rw [List.take_succ_eq_append_getElem (by rw [size8_length]; exact hk)]
  simp [size8, s8at]
theorem size8_ok (N : Nat) : ∀ z ∈ size8 N, 0 ≤ z ∧ z < 256 := by
  intro z hz
  obtain ⟨i, _, rfl⟩ := List.mem_map.1 hz
  omega
theorem tail_ok (n : Nat) : ∀ z ∈ tail n, 0 ≤ z ∧ z < 256 := by
  intro z hz
  unfold tail at hz
  rcases List.mem_cons.1 hz with rfl | hz
  · decide
  · rcases List.mem_append.1 hz with hz | hz
    · obtain ⟨_, rfl⟩ := List.mem_replicate.1 hz; decide
    · exact size8_ok _ z hz
theorem tail_length (n : Nat) : (tail n).length = 9 + (119 - n % 64) % 64 := by
  simp [tail, size8_length]; omega
theorem shift8 (n k : Nat) : 8 * (n : Int) / 2 ^ (56 - 8 * k) % 256 = s8at (8 * n) k := by
  unfold s8at
  simp
def outb (xs : List Wd) : List Int := xs.flatMap four
theorem bytes_out (s : St) : bytes s = outb (list s) := rfl
theorem outb_snoc (xs : List Wd) (x : Wd) : outb (xs ++ [x]) = outb xs ++ four x := by simp [outb]
theorem outb_length (xs : List Wd) : (outb xs).length = 4 * xs.length := by
  induction xs with
  | nil => rfl
  | cons x r ih =>
    have : outb (x :: r) = four x ++ outb r := by simp [outb]
    rw [this, List.length_append, ih]; simp [four]; omega
theorem four_ok (x : Wd) : ∀ z ∈ four x, 0 ≤ z ∧ z < 256 := by
  intro z hz
  simp only [four, List.mem_cons, List.not_mem_nil, or_false] at hz
  rcases hz with rfl | rfl | rfl | rfl <;> unfold Sha.byteOf <;> omega
theorem outb_ok (xs : List Wd) : ∀ z ∈ outb xs, 0 ≤ z ∧ z < 256 := by
  intro z hz
  obtain ⟨x, _, hx⟩ := List.mem_flatMap.1 hz
  exact four_ok x z hx
theorem feed_len (p : St × List Int) (z : Int) (h : p.2.length < 64) : (feed p z).2.length = (p.2.length + 1) % 64 ∧ (feed p z).2.length < 64 := by
  unfold feed
  by_cases e : p.2.length = 63
  · rw [if_pos e]; simp [e]
  · rw [if_neg e]; simp; omega
theorem feeds_len (zs : List Int) (p : St × List Int) (h : p.2.length < 64) : (feeds p zs).2.length = (p.2.length + zs.length) % 64 ∧ (feeds p zs).2.length < 64 := by
  induction zs generalizing p with
  | nil => simp [feeds]; omega
  | cons z r ih =>
    have e : feeds p (z :: r) = feeds (feed p z) r := rfl
    obtain ⟨h1, h2⟩ := feed_len p z h
    obtain ⟨h3, h4⟩ := ih (feed p z) h2
    rw [e]
    refine ⟨?_, h4⟩
    rw [h3, h1]; simp; omega
end Sha
theorem isz24 : (Tryz.prog.info? 26).map (·.size) = some 32 := by kernel_rfl
theorem new_bytes (w : World) (n : Nat) (t : TypeId) : (w.alloc (.cells (Array.replicate n (.int .u8 0)) t)).rangeAt w.heap.size 0 (v8 (List.replicate n (0 : Int))) ∧ (w.alloc (.cells (Array.replicate n (.int .u8 0)) t)).there w.heap.size 0 n := by
  have h1 := range_new w (Array.replicate n (.int .u8 0)) t
  have h2 := there_new w (Array.replicate n (.int .u8 0)) t
  exact ⟨by simpa [v8] using h1, by simpa using h2⟩
theorem Run.below {w w' : World} {R : Nat} {s : St} {wait : List Int} {n : Nat} (h : Run w R s wait n) (hb : Below w.heap.size w w') : Run w' R s wait n := by
  obtain ⟨h1, h2, h3, h4, h5, h6, ⟨junk, h7, h8⟩, h9, h10, h11⟩ := h
  exact ⟨h1, Nat.lt_of_lt_of_le h2 hb.size, there_below h3 hb h2, range_below h4 hb h2, h5, h6, ⟨junk, h7, range_below h8 hb h2⟩, (hb.cell (p := ⟨R, 72, none⟩) h2).trans h9, (hb.cell (p := ⟨R, 73, none⟩) h2).trans h10, range_below h11 hb (by omega)⟩
namespace Sha
def pre (fill N k : Nat) : List Int := ((128 : Int) :: List.replicate (fill - 1) 0) ++ (size8 N).take k
theorem pre_length (fill N k : Nat) (hf : 1 ≤ fill) (hk : k ≤ 8) : (pre fill N k).length = fill + k := by
  simp [pre, size8_length]; omega
theorem pre_succ (fill N k : Nat) (hk : k < 8) : pre fill N (k + 1) = pre fill N k ++ [s8at N k] := by
  unfold pre; rw [size8_take N k hk, List.append_assoc]
theorem pre_tail (n fill : Nat) (h : fill = 1 + (119 - n % 64) % 64) : pre fill (8 * n) 8 = Sha.tail n := by
  unfold pre Sha.tail
  rw [List.take_of_length_le (by rw [size8_length]; omega), h]
  simp
end Sha
end Go.Proofs.YtghgomglpgidoaaGreat
namespace Go.Proofs.YtghgomglpgidoaaGreat
open Go.RowKit
open Sha
/-- the two tables of the package -/
def Glob (w : World) : Prop := w.rangeAt 0 0 (v32 (list init)) ∧ w.rangeAt 1 0 (v32 kl) ∧ 2 ≤ w.heap.size
theorem Glob.below {w w' : World} (h : Glob w) (hb : Below w.heap.size w w') : Glob w' :=
  ⟨range_below h.1 hb (by have := h.2.2; omega), range_below h.2.1 hb (by have := h.2.2; omega), Nat.le_trans h.2.2 hb.size⟩
def vinit : List Value := v32 (list init) ++ v8 (List.replicate 64 (0 : Int)) ++ [.int .i64 0, .int .u64 0]
theorem vinit_one : ∀ v ∈ vinit, v.oneCell' = true := by
  intro v hv
  rcases List.mem_append.1 hv with hv | hv
  · rcases List.mem_append.1 hv with hv | hv
    · exact v32_one _ v hv
    · exact v8_one _ v hv
  · simp at hv
    rcases hv with rfl | rfl <;> rfl
theorem vinit_length : vinit.length = 74 := rfl
def vzero : List Value := v32 (List.replicate 8 (0 : Wd)) ++ v8 (List.replicate 64 (0 : Int)) ++ [.int .i64 0, .int .u64 0]
/-- a part: where it lies, its capacity, its bytes -/
structure Part where
  a : Option Addr
  cap : Nat
  zs : List Int
def Part.val (p : Part) : Value := .slice p.a p.zs.length p.cap
def Part.at (p : Part) (w : World) : Prop := RowAt w p.a p.zs ∧ p.zs.length ≤ p.cap ∧ p.cap ≤ maxLen
/-- a slice of parts -/
def PartsAt (w : World) (a : Option Addr) (ps : List Part) : Prop :=
  ps.length ≤ maxLen ∧ (∀ p ∈ ps, p.at w) ∧ (ps = [] ∨ ∃ b off, a = some ⟨b, off, none⟩ ∧ b < w.heap.size ∧ w.rangeAt b off (ps.map Part.val))
def cat (ps : List Part) : List Int := ps.flatMap Part.zs
theorem Part.at.below {w w' : World} {p : Part} (h : p.at w) (hb : Below w.heap.size w w') : p.at w' := ⟨h.1.below hb, h.2.1, h.2.2⟩
theorem PartsAt.below {w w' : World} {a : Option Addr} {ps : List Part} (h : PartsAt w a ps) (hb : Below w.heap.size w w') : PartsAt w' a ps := by
  refine ⟨h.1, fun p hp => (h.2.1 p hp).below hb, ?_⟩
  rcases h.2.2 with q | ⟨b, off, rfl, h1, h2⟩
  · exact Or.inl q
  · exact Or.inr ⟨b, off, rfl, Nat.lt_of_lt_of_le h1 hb.size, range_below h2 hb h1⟩
theorem cat_append (p q : List Part) : cat (p ++ q) = cat p ++ cat q := by simp [cat]
theorem cat_take_succ (ps : List Part) (k : Nat) (hk : k < ps.length) : cat (ps.take (k + 1)) = cat (ps.take k) ++ ps[k].zs := by
  rw [List.take_succ_eq_append_getElem hk, cat_append]
  congr 1
  simp [cat]
theorem cat_take_le (ps : List Part) (k : Nat) : (cat (ps.take k)).length ≤ (cat ps).length := by
  have e : cat ps = cat (ps.take k) ++ cat (ps.drop k) := by rw [← cat_append, List.take_append_drop]
  rw [e, List.length_append]; omega
/-- a new digest on its way -/
theorem run_new (w : World) (R : Nat) (hg : Glob w) (hR : R < w.heap.size) (h2 : 2 ≤ R) (hr : w.rangeAt R 0 vinit) (ht : w.there R 0 74) : Run w R init [] 0 := by
  refine ⟨h2, hR, ht, ?_, by simp, by simp, ⟨List.replicate 64 (0 : Int), by simp, ?_⟩, ?_, ?_, hg.2.1⟩
  · exact range_left (range_left hr)
  · have := range_right (range_left hr); exact this
  · exact hr 72 _ rfl
  · exact hr 73 _ rfl
theorem Run.mem {w : World} {R : Nat} {s : St} {wait : List Int} {n : Nat} (h : Run w R s wait n) : R < w.heap.size := h.lt
end Go.Proofs.YtghgomglpgidoaaGreat
namespace Go.Proofs.YtghgomglpgidoaaGreat
open Go Go.RowKit
section
variable {P : Program} (w : World)

theorem run_append_own_src (base : Nat) (t tx ty e : TypeId) (i : TypeInfo) (z : Value) (size bytes : Nat) (ht : P.underlying t = some (.slice e)) (hi : P.info? e = some i) (hz : i.zero = some z)
    (hsize : i.size = size) (hby : i.bytes = bytes) (hzs : z.cells.size = size)
    (v : Value) (n : Nat) (xs : List Value) (hown : w.ownsRow base e size v n xs)
    (x : Value) (m : Nat) (news : List Value) (hs : Src P size tx x m news w)
    (h63 : n + m ≤ maxLen) (hbytes : (n + m) * bytes ≤ 140737488355328) (hbase : base ≤ w.heap.size) :
    ∃ v' w', (Builtin.append_ #[t, tx] ty #[v, x]).run P w = .ok v' w' ∧ w'.ownsRow base e size v' (n + m) (xs ++ news) ∧ w.grownBy w' v.ownBlock := by
  subst hsize
  subst hby
  have hl := hs.newsLen
  have hlen : (xs ++ news).length = (n + m) * i.size := by rw [List.length_append, hown.1, hl, Nat.add_mul]
  have grown : ∀ (old : Nat), old < n + m → ∀ (row : Option Nat),
      (w.drew.alloc (.cells ((xs ++ news).toArray ++ Builtin.zeroCells z.cells (grownCap w (n + m) old e - (n + m))) e)).ownsRow base e i.size
        (.slice (some ⟨w.heap.size, 0, none⟩) (n + m) (grownCap w (n + m) old e)) (n + m) (xs ++ news) ∧
      w.grownBy (w.drew.alloc (.cells ((xs ++ news).toArray ++ Builtin.zeroCells z.cells (grownCap w (n + m) old e - (n + m))) e)) row := by
    intro old ho row
    have hge := grownCap_ge w (n + m) old e
    have hcm : grownCap w (n + m) old e ≤ maxLen := grownCap_le_maxLen w (n + m) old e h63
    refine ⟨⟨hlen, .inr ⟨w.heap.size, _, _, rfl, hbase, heap_alloc_new w.drew _, hge, hcm, ?_, ?_⟩⟩, ⟨rfl, rfl, rfl, by simp, fun k hk _ => Below.heap_alloc w.drew _ k hk⟩⟩
    · simp only [Array.size_append, List.size_toArray, size_zeroCells, hzs, hlen, ← Nat.add_mul]
      congr 1
      omega
    · simp only [Array.toList_append]
      rw [← hlen]
      exact List.take_left
  have h63' : ((n + m : Nat) : Int) ≤ 9223372036854775807 := by simp only [maxLen] at h63; omega
  rcases hown.2 with ⟨rfl, rfl⟩ | ⟨g, cap, cur, rfl, hbg, hg, hnc, hcm, hcs, htake⟩
  · have hx : xs = [] := List.eq_nil_of_length_eq_zero (by simpa using hown.1)
    subst hx
    by_cases hm : m = 0
    · subst hm
      have hn : news = [] := List.eq_nil_of_length_eq_zero (by simpa using hl)
      subst hn
      refine ⟨.slice none 0 0, w, ?_, World.ownsRow_nil w base e i.size, ⟨rfl, rfl, rfl, Nat.le_refl _, fun _ _ _ => rfl⟩⟩
      have hc := hs.cells
      rcases hs.kind with ⟨e', hk⟩ | hk <;> simp [Builtin.append_, run_underlying ht, run_underlying hk, sizeOf, typeInfo, hi, hs.len, hc]
    · have hr := run_append_grow_src (P := P) w t tx ty e i z ht hi hz none 0 0 [] (run_firstCells_none w.drew i.size 0 0 0) x m news hs (by omega) (by simpa using h63') (growslice_fits (by omega) (by simpa using hbytes))
      have hgr := grown 0 (by omega) (Value.ownBlock (.slice none 0 0))
      exact ⟨_, _, hr, hgr.1, hgr.2⟩
  · by_cases hroom : n + m ≤ cap
    · have hfit : n * i.size + news.length ≤ cur.size := by rw [hl, hcs, ← Nat.add_mul]; exact Nat.mul_le_mul_right _ hroom
      have hst := run_storeCells_at P g (n * i.size) e news 0 cur w hg (by simpa using hfit) hs.one
      simp only [Nat.add_zero] at hst
      have hr : (Builtin.append_ #[t, tx] ty #[.slice (some ⟨g, 0, none⟩) n cap, x]).run P w = .ok (.slice (some ⟨g, 0, none⟩) (n + m) cap) (w.setRow g (cur.toList.take (n * i.size) ++ news ++ cur.toList.drop (n * i.size + news.length)).toArray) := by
        rcases hs.kind with ⟨e', hk⟩ | hk <;> simp [Builtin.append_, run_underlying ht, run_underlying hk, sizeOf, typeInfo, hi, hs.len, hroom, hs.cells, Addr.add_lit, hst]
      refine ⟨_, _, hr, ⟨hlen, .inr ⟨g, cap, _, rfl, hbg, setRow_heap w g cur _ e _ hg, hroom, hcm, ?_, ?_⟩⟩, ⟨rfl, rfl, rfl, by simp, fun k _ hk => setRow_other w g k _ (fun e => hk (by simp [Value.ownBlock, e]))⟩⟩
      · simp only [List.size_toArray, List.length_append, List.length_take, List.length_drop, Array.length_toList]
        omega
      · rw [htake, ← hlen]
        exact List.take_left
    · have holds : ∀ j u, xs[j]? = some u → w.cell? ((⟨g, 0, none⟩ : Addr).add j) = some u := hown.cells (g := g) rfl
      have hr := run_append_grow_src (P := P) w t tx ty e i z ht hi hz (some ⟨g, 0, none⟩) n cap xs (run_firstCells_some w.drew i.size n ⟨g, 0, none⟩ n cap xs hown.1 (by simpa using holds)) x m news hs (by omega) h63' (growslice_fits (by omega) hbytes)
      have hgr := grown cap (by omega) (Value.ownBlock (.slice (some ⟨g, 0, none⟩) n cap))
      exact ⟨_, _, hr, hgr.1, hgr.2⟩

theorem wpList_append_own_src {ops : Array Oper} {rest : List Oper} {o : Oper} {a : Act} {Q : Exit → Act → World → Prop} (hgd : o.guard = none) (s x : Operand) (t tx : TypeId)
    (ho : o.op = .call { callee := .builtin .append, args := #[s, x], argTypes := #[t, tx] })
    (base : Nat) (e : TypeId) (i : TypeInfo) (z : Value) (size bytes : Nat) (ht : P.underlying t = some (.slice e)) (hi : P.info? e = some i) (hz : i.zero = some z)
    (hsize : i.size = size) (hby : i.bytes = bytes) (hzs : z.cells.size = size)
    (v : Value) (n : Nat) (xs : List Value) (hv : a.eval s = v) (hown : w.ownsRow base e size v n xs)
    (xv : Value) (m : Nat) (news : List Value) (hx : a.eval x = xv) (hs : Src P size tx xv m news w)
    (h63 : n + m ≤ maxLen) (hbytes : (n + m) * bytes ≤ 140737488355328) (hbase : base ≤ w.heap.size)
    (h : ∀ v' w', w'.ownsRow base e size v' (n + m) (xs ++ news) → w.grownBy w' v.ownBlock → wpList P ops Q rest (a.put o.dst v') w') : wpList P ops Q (o :: rest) a w := by
  refine wpList_plain hgd fun K hK => ?_
  obtain ⟨v', w', hr, h2, h3⟩ := run_append_own_src (P := P) w base t tx o.type e i z size bytes ht hi hz hsize hby hzs v n xs hown xv m news hs h63 hbytes hbase
  unfold Oper.wp execOp
  simp only [ho, resolve, invoke, builtin, Sem.run_bind, Sem.run_pure, Result.andThen_ok, List.map_toArray, List.map_cons, List.map_nil, hv, hx, hr]
  exact hK _ _ (h v' w' h2 h3)
end
end Go.Proofs.YtghgomglpgidoaaGreat
