/- PLAIN MATHEMATICS OF SHA-256: words of 32 bits, a block's rounds, bytes that wait, the last bytes. Imports nothing of the translation.; Arrays in memory, by ran -/
import Derived.Test.YtilbjeeabecfjaaGreatRows
import Derived.WalkKit
import Derived.WalkSpells
import Derived.RegionTactic
import Derived.ChangeAlike
import Derived.BigRegion
import Derived.Outline
import Derived.Deep.MidRow
import Derived.Below
import Derived.Deep.Cut
import Derived.Deep.QuietTactic
import Derived.BigQuiet
import Derived.Lib.ItoaWalk
import Derived.Laws.IdiomCopy
import Derived.Deep.AppendSrc
import Derived.OwnWalk
import Derived.Lib.BitFns
import Derived.Lib.Small
import Derived.Lib.Walk
import Derived.Deep.RegionHeld3
import Derived.Maps.OwnSet
import Derived.Laws.StructEq
namespace Go.Proofs.YtilbjeeabecfjaaGreat
namespace Sha
abbrev Wd := BitVec 32
def rotr (x : Wd) (n : Nat) : Wd := (x >>> n) ||| (x <<< (32 - n))
def s0 (x : Wd) : Wd := rotr x 7 ^^^ rotr x 18 ^^^ (x >>> 3)
def s1 (x : Wd) : Wd := rotr x 17 ^^^ rotr x 19 ^^^ (x >>> 10)
def S1 (e : Wd) : Wd := rotr e 6 ^^^ rotr e 11 ^^^ rotr e 25
def S0 (a : Wd) : Wd := rotr a 2 ^^^ rotr a 13 ^^^ rotr a 22
def ch (e f g : Wd) : Wd := (e &&& f) ^^^ (~~~e &&& g)
def maj (a b c : Wd) : Wd := (a &&& b) ^^^ (a &&& c) ^^^ (b &&& c)
structure St where
 a : Wd
 b : Wd
 c : Wd
 d : Wd
 e : Wd
 f : Wd
 g : Wd
 h : Wd
def t1 (k w : Wd) (s : St) : Wd := s.h + S1 s.e + ch s.e s.f s.g + k + w
def t2 (s : St) : Wd := S0 s.a + maj s.a s.b s.c
def round (k w : Wd) (s : St) : St := ⟨t1 k w s + t2 s, s.a, s.b, s.c, s.d + t1 k w s, s.e, s.f, s.g⟩
def ks : List Nat := [
 0x428a2f98, 0x71374491, 0xb5c0fbcf, 0xe9b5dba5, 0x3956c25b, 0x59f111f1, 0x923f82a4, 0xab1c5ed5,
 0xd807aa98, 0x12835b01, 0x243185be, 0x550c7dc3, 0x72be5d74, 0x80deb1fe, 0x9bdc06a7, 0xc19bf174,
 0xe49b69c1, 0xefbe4786, 0x0fc19dc6, 0x240ca1cc, 0x2de92c6f, 0x4a7484aa, 0x5cb0a9dc, 0x76f988da,
 0x983e5152, 0xa831c66d, 0xb00327c8, 0xbf597fc7, 0xc6e00bf3, 0xd5a79147, 0x06ca6351, 0x14292967,
 0x27b70a85, 0x2e1b2138, 0x4d2c6dfc, 0x53380d13, 0x650a7354, 0x766a0abb, 0x81c2c92e, 0x92722c85,
 0xa2bfe8a1, 0xa81a664b, 0xc24b8b70, 0xc76c51a3, 0xd192e819, 0xd6990624, 0xf40e3585, 0x106aa070,
 0x19a4c116, 0x1e376c08, 0x2748774c, 0x34b0bcb5, 0x391c0cb3, 0x4ed8aa4a, 0x5b9cca4f, 0x682e6ff3,
 0x748f82ee, 0x78a5636f, 0x84c87814, 0x8cc70208, 0x90befffa, 0xa4506ceb, 0xbef9a3f7, 0xc67178f2]
def k (t : Nat) : Wd := BitVec.ofNat 32 (ks.getD t 0)
def init : St := ⟨0x6a09e667#32, 0xbb67ae85#32, 0x3c6ef372#32, 0xa54ff53a#32, 0x510e527f#32, 0x9b05688c#32, 0x1f83d9ab#32, 0x5be0cd19#32⟩
def nxt (ws : List Wd) : Wd := ws.getD (ws.length - 16) 0 + s0 (ws.getD (ws.length - 15) 0) + ws.getD (ws.length - 7) 0 + s1 (ws.getD (ws.length - 2) 0)
def ext (ws : List Wd) : List Wd := ws ++ [nxt ws]
def exts : Nat → List Wd → List Wd
  | 0, ws => ws
  | n + 1, ws => ext (exts n ws)
def word (a b c d : Int) : Wd := BitVec.ofInt 32 (a * 16777216 + b * 65536 + c * 256 + d)
def wordAt (bs : List Int) (t : Nat) : Wd := word (bs.getD (4 * t) 0) (bs.getD (4 * t + 1) 0) (bs.getD (4 * t + 2) 0) (bs.getD (4 * t + 3) 0)
def words (bs : List Int) (n : Nat) : List Wd := (List.range n).map (wordAt bs)
def spread (bs : List Int) : List Wd := exts 48 (words bs 16)
def rounds (ws : List Wd) : Nat → St → St
  | 0, s => s
  | t + 1, s => round (k t) (ws.getD t 0) (rounds ws t s)
def plus (s r : St) : St := ⟨s.a + r.a, s.b + r.b, s.c + r.c, s.d + r.d, s.e + r.e, s.f + r.f, s.g + r.g, s.h + r.h⟩
def block (s : St) (bs : List Int) : St := plus s (rounds (spread bs) 64 s)
def size8 (n : Nat) : List Int := (List.range 8).map fun i => ((n / 2 ^ (56 - 8 * i) % 256 : Nat) : Int)
def list (s : St) : List Wd := [s.a, s.b, s.c, s.d, s.e, s.f, s.g, s.h]
def byteOf (x : Wd) (i : Nat) : Int := ((x.toNat / 2 ^ (24 - 8 * i) % 256 : Nat) : Int)
def bytes (s : St) : List Int := (List.range 32).map fun i => byteOf ((list s).getD (i / 4) 0) (i % 4)
end Sha
open Go.RowKit
open Sha
def v32 (xs : List Wd) : List Value := xs.map fun x => Value.int .u32 (x.toNat : Int)
def v8 (zs : List Int) : List Value := zs.map (Value.int .u8)
@[simp] theorem v32_length (xs : List Wd) : (v32 xs).length = xs.length := by simp [v32]
@[simp] theorem v8_length (zs : List Int) : (v8 zs).length = zs.length := by simp [v8]
theorem v8_one (xs : List Int) : ∀ v ∈ v8 xs, v.oneCell' = true := by
 intro v hv; obtain ⟨x, _, rfl⟩ := List.mem_map.1 hv; rfl
theorem get8 {w : World} {b o : Nat} {xs : List Int} (h : w.rangeAt b o (v8 xs)) {i : Nat} (hi : i < xs.length) : w.cell? ⟨b, o + i, none⟩ = some (.int .u8 (xs.getD i 0)) := by
 refine h i _ ?_
 simp [v8, List.getElem?_eq_getElem hi]
theorem range_set {w : World} {b o : Nat} {cs : List Value} (h : w.rangeAt b o cs) (i : Nat) (v : Value) : (w.setCell ⟨b, o + i, none⟩ v).rangeAt b o (cs.set i v) := by
 intro j u hu
 rw [List.getElem?_set] at hu
 by_cases e : i = j
 ·subst e
  rw [if_pos rfl] at hu
  by_cases hi : i < cs.length
  ·rw [if_pos hi] at hu
   simp only [Option.some.injEq] at hu
   subst hu
   exact World.cell?_setCell_same _ _ _ (h i _ (List.getElem?_eq_getElem hi))
  ·rw [if_neg hi] at hu; cases hu
 ·rw [if_neg e] at hu
  rw [World.cell?_setCell_other _ _ _ _ (fun q => e (by injection q with _ q2 _; omega))]
  exact h j u hu
theorem range_below {w w' : World} {b o n : Nat} {cs : List Value} (h : w.rangeAt b o cs) (hb : Below n w w') (hn : b < n) : w'.rangeAt b o cs :=
 fun j u hu => (hb.cell (p := ⟨b, o + j, none⟩) hn).trans (h j u hu)
theorem there_below {w w' : World} {b o n m : Nat} (h : w.there b o m) (hb : Below n w w') (hn : b < n) : w'.there b o m :=
 fun j hj => ⟨by rw [hb.cell (p := ⟨b, o + j, none⟩) hn]; exact (h j hj).1, by rw [hb.frozen (p := ⟨b, o + j, none⟩) hn]; exact (h j hj).2⟩
theorem there_set {w : World} {b o n : Nat} (h : w.there b o n) (p : Addr) (v : Value) : (w.setCell p v).there b o n := by
 intro j hj
 obtain ⟨h1, h2⟩ := h j hj
 refine ⟨?_, by rw [World.frozen?_setCell]; exact h2⟩
 obtain ⟨u, hu⟩ := Option.isSome_iff_exists.1 h1
 by_cases e : p = ⟨b, o + j, none⟩
 ·subst e; rw [World.cell?_setCell_same _ _ _ hu]; rfl
 ·rw [World.cell?_setCell_other _ _ _ _ e, hu]; rfl
theorem there_part {w : World} {b o n : Nat} (h : w.there b o n) (i m : Nat) (hm : i + m ≤ n) : w.there b (o + i) m := fun j hj => by
 have := h (i + j) (by omega); rwa [← Nat.add_assoc] at this
theorem range_part {w : World} {b o : Nat} {cs ds es : List Value} (h : w.rangeAt b o (cs ++ ds ++ es)) : w.rangeAt b (o + cs.length) ds := fun j v hv => by
 have hj : j < ds.length := (List.getElem?_eq_some_iff.1 hv).1
 have := h (cs.length + j) v (by rw [List.append_assoc, List.getElem?_append_right (by omega), List.getElem?_append_left (by omega), Nat.add_sub_cancel_left]; exact hv)
 rwa [← Nat.add_assoc] at this
theorem range_join {w : World} {b o : Nat} {cs ds : List Value} (h : w.rangeAt b o cs) (k : w.rangeAt b (o + cs.length) ds) : w.rangeAt b o (cs ++ ds) := fun j v hv => by
 by_cases hj : j < cs.length
 ·rw [List.getElem?_append_left hj] at hv; exact h j v hv
 ·rw [List.getElem?_append_right (by omega)] at hv
  have := k _ v hv
  rwa [show o + cs.length + (j - cs.length) = o + j by omega] at this
theorem range_left {w : World} {b o : Nat} {cs ds : List Value} (h : w.rangeAt b o (cs ++ ds)) : w.rangeAt b o cs := fun j v hv => by
 have hj : j < cs.length := (List.getElem?_eq_some_iff.1 hv).1
 exact h j v (by rw [List.getElem?_append_left hj]; exact hv)
theorem range_right {w : World} {b o : Nat} {cs ds : List Value} (h : w.rangeAt b o (cs ++ ds)) : w.rangeAt b (o + cs.length) ds := fun j v hv => by
 have := h (cs.length + j) v (by rw [List.getElem?_append_right (by omega), Nat.add_sub_cancel_left]; exact hv)
 rwa [← Nat.add_assoc] at this
theorem range_new (w : World) (arr : Array Value) (t : TypeId) : (w.alloc (.cells arr t)).rangeAt w.heap.size 0 arr.toList := fun j v hv => by
 rw [World.cell?_alloc_at _ _ _ _ rfl, Nat.zero_add]
 simpa using hv
theorem there_new (w : World) (arr : Array Value) (t : TypeId) : (w.alloc (.cells arr t)).there w.heap.size 0 arr.size := fun j hj => by
 refine ⟨?_, World.frozen?_alloc_at _ _ _ _ rfl⟩
 rw [World.cell?_alloc_at _ _ _ _ rfl, Nat.zero_add]
 simp [hj]
theorem below_sets {B b : Nat} {a : World} (hb : B ≤ b) : ∀ (vs : List Value) (o : Nat) (w : World), Below B a w → Below B a (w.setCells b o vs)
  | [], _, _, h => h
  | v :: r, o, _, h => below_sets hb r (o + 1) _ (h.setCell (p := ⟨b, o, none⟩) hb v)
theorem size_sets (b : Nat) : ∀ (vs : List Value) (o : Nat) (w : World), (w.setCells b o vs).heap.size = w.heap.size
  | [], _, _ => rfl
  | v :: r, o, _ => by rw [World.setCells, size_sets b r]; simp
theorem fresh_store (w1 : World) (arr : Array Value) (t : TypeId) (cs : List Value) (h : cs.length = arr.size) :
  ((w1.alloc (.cells arr t)).setCells w1.heap.size 0 cs).rangeAt w1.heap.size 0 cs ∧ Below w1.heap.size w1 ((w1.alloc (.cells arr t)).setCells w1.heap.size 0 cs) ∧
  ((w1.alloc (.cells arr t)).setCells w1.heap.size 0 cs).heap.size = w1.heap.size + 1 ∧ ((w1.alloc (.cells arr t)).setCells w1.heap.size 0 cs).there w1.heap.size 0 arr.size :=
 ⟨World.rangeAt_setCells_same _ _ _ _ (by rw [h]; exact there_new w1 arr t), below_sets (Nat.le_refl _) _ _ _ ((Below.refl _ _).alloc (Nat.le_refl _) _), by rw [size_sets]; simp, World.there_setCells (there_new w1 arr t) _ _ _⟩
theorem run_size {P : Program} {e : TypeId} {n : Nat} (h : (P.info? e).map (·.size) = some n) (w : World) : (sizeOf e).run P w = .ok n w := by
  cases hq : P.info? e with
  | none => simp [hq] at h
  | some i => simp [hq] at h; simp [sizeOf, typeInfo, hq, h]
theorem slice_all {P : Program} {t e : TypeId} {n : Nat} (ht : P.underlying t = some (.array n e)) (hs : (P.info? e).map (·.size) = some 1) (b off : Nat) (hn : 0 < n) (w : World) :
  (Instr.sliceAt t (.pointer (some ⟨b, off, none⟩)) none none none).run P w = .ok (.slice (some ⟨b, off, none⟩) n n) w := by
 have h1 : P.arrayLen t = n := by simp [Program.arrayLen, ht]
 have h2 : P.elem t = e := by simp [Program.elem, ht]
 rw [run_sliceAt_array_all w t ⟨b, off, none⟩ (by rw [h1, h2, ht]), h1, h2, run_size hs]
 simp only [slicedAt, Result.andThen_ok, Nat.zero_mul, Nat.sub_zero]
 rw [if_neg (by omega), Addr.add_mid]; rfl
theorem isz8 : (Tryz.prog.info? 5).map (·.size) = some 1 := by kernel_rfl
theorem gb_refl (w : World) (r : Option Nat) : w.grownBy w r := ⟨rfl, rfl, rfl, Nat.le_refl _, fun _ _ _ => rfl⟩
theorem gb_trans {w w1 w2 : World} {r : Option Nat} (h : w.grownBy w1 r) (k : w1.grownBy w2 r) : w.grownBy w2 r :=
 ⟨k.os.trans h.os, k.tape.trans h.tape, k.output.trans h.output, Nat.le_trans h.size k.size, fun i hi hr => (k.block i (Nat.lt_of_lt_of_le hi h.size) hr).trans (h.block i hi hr)⟩
theorem gb_set (w : World) (R j : Nat) (v : Value) : w.grownBy (w.setCell ⟨R, j, none⟩ v) (some R) :=
 ⟨rfl, rfl, rfl, by simp [World.setCell], fun k _ hk => Below.heap_setCell w _ v k (fun e => hk (by rw [e]))⟩
theorem gb_below {w w' : World} (h : Below w.heap.size w w') (r : Option Nat) : w.grownBy w' r := ⟨h.os, h.tape, h.output, h.size, fun k hk _ => h.block k hk⟩
theorem range_gb {w w' : World} {R b o : Nat} {cs : List Value} (h : w.rangeAt b o cs) (g : w.grownBy w' (some R)) (hn : b ≠ R) : w'.rangeAt b o cs := fun j v hv => g.cell (h j v hv) (by simpa using hn)
def kl : List Wd := ks.map (BitVec.ofNat 32)
def Keep (R : Nat) (w wr : World) : Prop := (∀ j, 8 ≤ j → wr.cell? ⟨R, j, none⟩ = w.cell? ⟨R, j, none⟩) ∧ (∀ j, wr.frozen? ⟨R, j, none⟩ = w.frozen? ⟨R, j, none⟩) ∧ w.grownBy wr (some R)
theorem Keep.refl (R : Nat) (w : World) : Keep R w w := ⟨fun _ _ => rfl, fun _ => rfl, gb_refl _ _⟩
theorem Keep.below {R : Nat} {w wr wx : World} (h : Keep R w wr) (hb : Below wr.heap.size wr wx) (hR : R < wr.heap.size) : Keep R w wx :=
 ⟨fun j hj => (hb.cell (p := ⟨R, j, none⟩) hR).trans (h.1 j hj), fun j => (hb.frozen (p := ⟨R, j, none⟩) hR).trans (h.2.1 j), gb_trans h.2.2 (gb_below hb _)⟩
namespace Sha
end Sha
open Go.RowKit
open Sha
namespace Sha
def four (x : Wd) : List Int := [byteOf x 0, byteOf x 1, byteOf x 2, byteOf x 3]
end Sha
open Go.RowKit
open Sha
def RowAt (w : World) (a : Option Addr) (zs : List Int) : Prop :=
 zs.length ≤ maxLen ∧ (∀ z ∈ zs, 0 ≤ z ∧ z < 256) ∧ (zs = [] ∨ ∃ b off, a = some ⟨b, off, none⟩ ∧ b < w.heap.size ∧ w.rangeAt b off (v8 zs))
theorem RowAt.below {w w' : World} {a : Option Addr} {zs : List Int} (h : RowAt w a zs) (hb : Below w.heap.size w w') : RowAt w' a zs := by
 refine ⟨h.1, h.2.1, ?_⟩
 rcases h.2.2 with h | ⟨b, off, rfl, h1, h2⟩
 ·exact Or.inl h
 ·exact Or.inr ⟨b, off, rfl, Nat.lt_of_lt_of_le h1 hb.size, range_below h2 hb h1⟩
theorem RowAt.gb {w w' : World} {a : Option Addr} {zs : List Int} {R : Nat} (h : RowAt w a zs) (hb : w.grownBy w' (some R)) (hne : zs = [] ∨ ∀ x, a = some x → x.block ≠ R) : RowAt w' a zs := by
 refine ⟨h.1, h.2.1, ?_⟩
 rcases h.2.2 with h | ⟨b, off, rfl, h1, h2⟩
 ·exact Or.inl h
 ·rcases hne with hne | hne
  ·exact Or.inl hne
  ·exact Or.inr ⟨b, off, rfl, Nat.lt_of_lt_of_le h1 hb.size, range_gb h2 hb (hne _ rfl)⟩
def cutA (a : Option Addr) (cap n : Nat) : Option Addr := if cap = n then a else a.map (·.add n)
theorem cutA_ne {a : Option Addr} {R cap n : Nat} (h : ∀ x, a = some x → x.block ≠ R) : ∀ x, cutA a cap n = some x → x.block ≠ R := by
  intro x hx
  unfold cutA at hx
  split at hx
  · exact h x hx
  · cases a with
    | none => simp at hx
    | some y =>
      simp at hx
      subst hx
      have := h y rfl
      unfold Addr.add
      split <;> simpa using this
theorem RowAt.take {w : World} {a : Option Addr} {zs : List Int} (h : RowAt w a zs) (n : Nat) : RowAt w a (zs.take n) := by
 obtain ⟨h1, h2, h3⟩ := h
 refine ⟨by rw [List.length_take]; omega, fun z hz => h2 z (List.mem_of_mem_take hz), ?_⟩
 rcases h3 with rfl | ⟨b, off, rfl, hb, hc⟩
 ·left; simp
 ·right
  refine ⟨b, off, rfl, hb, ?_⟩
  have e : v8 zs = v8 (zs.take n) ++ v8 (zs.drop n) := by unfold v8; rw [← List.map_append, List.take_append_drop]
  rw [e] at hc
  exact range_left hc
theorem RowAt.drop {w : World} {a : Option Addr} {zs : List Int} (h : RowAt w a zs) (n cap : Nat) (hn : n ≤ zs.length) (hcap : zs.length ≤ cap) : RowAt w (cutA a cap n) (zs.drop n) := by
 obtain ⟨h1, h2, h3⟩ := h
 refine ⟨by rw [List.length_drop]; omega, fun z hz => h2 z (List.mem_of_mem_drop hz), ?_⟩
 by_cases he : n = zs.length
 ·left; simp [he]
 ·rcases h3 with rfl | ⟨b, off, rfl, hb, hc⟩
  ·left; simp
  ·right
   refine ⟨b, off + n, ?_, hb, ?_⟩
   ·unfold cutA
    rw [if_neg (by omega), Option.map_some, Addr.add_mid]
   ·have e : v8 zs = v8 (zs.take n) ++ v8 (zs.drop n) := by unfold v8; rw [← List.map_append, List.take_append_drop]
    rw [e] at hc
    have := range_right hc
    rwa [v8_length, List.length_take_of_le hn] at this
structure Run (w : World) (R : Nat) (s : St) (wait : List Int) (n : Nat) : Prop where
 two : 2 ≤ R
 lt : R < w.heap.size
 thr : w.there R 0 74
 wds : w.rangeAt R 0 (v32 (list s))
 few : wait.length < 64
 ok : ∀ z ∈ wait, 0 ≤ z ∧ z < 256
 buf : ∃ junk : List Int, wait.length + junk.length = 64 ∧ w.rangeAt R 8 (v8 (wait ++ junk))
 held : w.cell? ⟨R, 72, none⟩ = some (.int .i64 (wait.length : Int))
 count : w.cell? ⟨R, 73, none⟩ = some (.int .u64 (n : Int))
 kls : w.rangeAt 1 0 (v32 kl)
namespace Sha
end Sha
structure Mid (w : World) (R : Nat) (s : St) (bs : List Int) (n : Nat) : Prop where
 two : 2 ≤ R
 lt : R < w.heap.size
 thr : w.there R 0 74
 wds : w.rangeAt R 0 (v32 (list s))
 len : bs.length ≤ 64
 ok : ∀ z ∈ bs, 0 ≤ z ∧ z < 256
 buf : ∃ junk : List Int, bs.length + junk.length = 64 ∧ w.rangeAt R 8 (v8 (bs ++ junk))
 held : w.cell? ⟨R, 72, none⟩ = some (.int .i64 (bs.length : Int))
 count : w.cell? ⟨R, 73, none⟩ = some (.int .u64 (n : Int))
 kls : w.rangeAt 1 0 (v32 kl)
open Go.RowKit
open Sha
namespace Sha
end Sha
theorem Run.below {w w' : World} {R : Nat} {s : St} {wait : List Int} {n : Nat} (h : Run w R s wait n) (hb : Below w.heap.size w w') : Run w' R s wait n := by
 obtain ⟨h1, h2, h3, h4, h5, h6, ⟨junk, h7, h8⟩, h9, h10, h11⟩ := h
 exact ⟨h1, Nat.lt_of_lt_of_le h2 hb.size, there_below h3 hb h2, range_below h4 hb h2, h5, h6, ⟨junk, h7, range_below h8 hb h2⟩, (hb.cell (p := ⟨R, 72, none⟩) h2).trans h9, (hb.cell (p := ⟨R, 73, none⟩) h2).trans h10, range_below h11 hb (by omega)⟩
namespace Sha
def pre (fill N k : Nat) : List Int := ((128 : Int) :: List.replicate (fill - 1) 0) ++ (size8 N).take k
end Sha
open Go.RowKit
open Sha
def Glob (w : World) : Prop := w.rangeAt 0 0 (v32 (list init)) ∧ w.rangeAt 1 0 (v32 kl) ∧ 2 ≤ w.heap.size
theorem Glob.below {w w' : World} (h : Glob w) (hb : Below w.heap.size w w') : Glob w' :=
 ⟨range_below h.1 hb (by have := h.2.2; omega), range_below h.2.1 hb (by have := h.2.2; omega), Nat.le_trans h.2.2 hb.size⟩
structure Part where
 a : Option Addr
 cap : Nat
 zs : List Int
def Part.val (p : Part) : Value := .slice p.a p.zs.length p.cap
def Part.at (p : Part) (w : World) : Prop := RowAt w p.a p.zs ∧ p.zs.length ≤ p.cap ∧ p.cap ≤ maxLen
def PartsAt (w : World) (a : Option Addr) (ps : List Part) : Prop :=
 ps.length ≤ maxLen ∧ (∀ p ∈ ps, p.at w) ∧ (ps = [] ∨ ∃ b off, a = some ⟨b, off, none⟩ ∧ b < w.heap.size ∧ w.rangeAt b off (ps.map Part.val))
theorem Part.at.below {w w' : World} {p : Part} (h : p.at w) (hb : Below w.heap.size w w') : p.at w' := ⟨h.1.below hb, h.2.1, h.2.2⟩
theorem PartsAt.below {w w' : World} {a : Option Addr} {ps : List Part} (h : PartsAt w a ps) (hb : Below w.heap.size w w') : PartsAt w' a ps := by
 refine ⟨h.1, fun p hp => (h.2.1 p hp).below hb, ?_⟩
 rcases h.2.2 with q | ⟨b, off, rfl, h1, h2⟩
 ·exact Or.inl q
 ·exact Or.inr ⟨b, off, rfl, Nat.lt_of_lt_of_le h1 hb.size, range_below h2 hb h1⟩
open Go Go.RowKit
section
variable {P : Program} (w : World)
theorem run_append_own_src (base : Nat) (t tx ty e : TypeId) (i : TypeInfo) (z : Value) (size bytes : Nat) (ht : P.underlying t = some (.slice e)) (hi : P.info? e = some i) (hz : i.zero = some z)
    (hsize : i.size = size) (hby : i.bytes = bytes) (hzs : z.cells.size = size)
    (v : Value) (n : Nat) (xs : List Value) (hown : w.ownsRow base e size v n xs)
    (x : Value) (m : Nat) (news : List Value) (hs : Src P size tx x m news w)
    (h63 : n + m ≤ maxLen) (hbytes : (n + m) * bytes ≤ 140737488355328) (hbase : base ≤ w.heap.size) :
    ∃ v' w', (Builtin.append_ #[t, tx] ty #[v, x]).run P w = .ok v' w' ∧ w'.ownsRow base e size v' (n + m) (xs ++ news) ∧ w.grownBy w' v.ownBlock := by
  subst hsize
  subst hby
  have hl := hs.newsLen
  have hlen : (xs ++ news).length = (n + m) * i.size := by rw [List.length_append, hown.1, hl, Nat.add_mul]
  have grown : ∀ (old : Nat), old < n + m → ∀ (row : Option Nat),
      (w.drew.alloc (.cells ((xs ++ news).toArray ++ Builtin.zeroCells z.cells (grownCap w (n + m) old e - (n + m))) e)).ownsRow base e i.size
        (.slice (some ⟨w.heap.size, 0, none⟩) (n + m) (grownCap w (n + m) old e)) (n + m) (xs ++ news) ∧
      w.grownBy (w.drew.alloc (.cells ((xs ++ news).toArray ++ Builtin.zeroCells z.cells (grownCap w (n + m) old e - (n + m))) e)) row := by
    intro old ho row
    have hge := grownCap_ge w (n + m) old e
    have hcm : grownCap w (n + m) old e ≤ maxLen := grownCap_le_maxLen w (n + m) old e h63
    refine ⟨⟨hlen, .inr ⟨w.heap.size, _, _, rfl, hbase, heap_alloc_new w.drew _, hge, hcm, ?_, ?_⟩⟩, ⟨rfl, rfl, rfl, by simp, fun k hk _ => Below.heap_alloc w.drew _ k hk⟩⟩
    · simp only [Array.size_append, List.size_toArray, size_zeroCells, hzs, hlen, ← Nat.add_mul]
      congr 1
      omega
    · simp only [Array.toList_append]
      rw [← hlen]
      exact List.take_left
  have h63' : ((n + m : Nat) : Int) ≤ 9223372036854775807 := by simp only [maxLen] at h63; omega
  rcases hown.2 with ⟨rfl, rfl⟩ | ⟨g, cap, cur, rfl, hbg, hg, hnc, hcm, hcs, htake⟩
  · have hx : xs = [] := List.eq_nil_of_length_eq_zero (by simpa using hown.1)
    subst hx
    by_cases hm : m = 0
    · subst hm
      have hn : news = [] := List.eq_nil_of_length_eq_zero (by simpa using hl)
      subst hn
      refine ⟨.slice none 0 0, w, ?_, World.ownsRow_nil w base e i.size, ⟨rfl, rfl, rfl, Nat.le_refl _, fun _ _ _ => rfl⟩⟩
      have hc := hs.cells
      rcases hs.kind with ⟨e', hk⟩ | hk <;> simp [Builtin.append_, run_underlying ht, run_underlying hk, sizeOf, typeInfo, hi, hs.len, hc]
    · have hr := run_append_grow_src (P := P) w t tx ty e i z ht hi hz none 0 0 [] (run_firstCells_none w.drew i.size 0 0 0) x m news hs (by omega) (by simpa using h63') (growslice_fits (by omega) (by simpa using hbytes))
      have hgr := grown 0 (by omega) (Value.ownBlock (.slice none 0 0))
      exact ⟨_, _, hr, hgr.1, hgr.2⟩
  · by_cases hroom : n + m ≤ cap
    · have hfit : n * i.size + news.length ≤ cur.size := by rw [hl, hcs, ← Nat.add_mul]; exact Nat.mul_le_mul_right _ hroom
      have hst := run_storeCells_at P g (n * i.size) e news 0 cur w hg (by simpa using hfit) hs.one
      simp only [Nat.add_zero] at hst
      have hr : (Builtin.append_ #[t, tx] ty #[.slice (some ⟨g, 0, none⟩) n cap, x]).run P w = .ok (.slice (some ⟨g, 0, none⟩) (n + m) cap) (w.setRow g (cur.toList.take (n * i.size) ++ news ++ cur.toList.drop (n * i.size + news.length)).toArray) := by
        rcases hs.kind with ⟨e', hk⟩ | hk <;> simp [Builtin.append_, run_underlying ht, run_underlying hk, sizeOf, typeInfo, hi, hs.len, hroom, hs.cells, Addr.add_lit, hst]
      refine ⟨_, _, hr, ⟨hlen, .inr ⟨g, cap, _, rfl, hbg, setRow_heap w g cur _ e _ hg, hroom, hcm, ?_, ?_⟩⟩, ⟨rfl, rfl, rfl, by simp, fun k _ hk => setRow_other w g k _ (fun e => hk (by simp [Value.ownBlock, e]))⟩⟩
      · simp only [List.size_toArray, List.length_append, List.length_take, List.length_drop, Array.length_toList]
        omega
      · rw [htake, ← hlen]
        exact List.take_left
    · have holds : ∀ j u, xs[j]? = some u → w.cell? ((⟨g, 0, none⟩ : Addr).add j) = some u := hown.cells (g := g) rfl
      have hr := run_append_grow_src (P := P) w t tx ty e i z ht hi hz (some ⟨g, 0, none⟩) n cap xs (run_firstCells_some w.drew i.size n ⟨g, 0, none⟩ n cap xs hown.1 (by simpa using holds)) x m news hs (by omega) h63' (growslice_fits (by omega) hbytes)
      have hgr := grown cap (by omega) (Value.ownBlock (.slice (some ⟨g, 0, none⟩) n cap))
      exact ⟨_, _, hr, hgr.1, hgr.2⟩
theorem wpList_append_own_src {ops : Array Oper} {rest : List Oper} {o : Oper} {a : Act} {Q : Exit → Act → World → Prop} (hgd : o.guard = none) (s x : Operand) (t tx : TypeId)
  (ho : o.op = .call { callee := .builtin .append, args := #[s, x], argTypes := #[t, tx] })
  (base : Nat) (e : TypeId) (i : TypeInfo) (z : Value) (size bytes : Nat) (ht : P.underlying t = some (.slice e)) (hi : P.info? e = some i) (hz : i.zero = some z)
  (hsize : i.size = size) (hby : i.bytes = bytes) (hzs : z.cells.size = size)
  (v : Value) (n : Nat) (xs : List Value) (hv : a.eval s = v) (hown : w.ownsRow base e size v n xs)
  (xv : Value) (m : Nat) (news : List Value) (hx : a.eval x = xv) (hs : Src P size tx xv m news w)
  (h63 : n + m ≤ maxLen) (hbytes : (n + m) * bytes ≤ 140737488355328) (hbase : base ≤ w.heap.size)
  (h : ∀ v' w', w'.ownsRow base e size v' (n + m) (xs ++ news) → w.grownBy w' v.ownBlock → wpList P ops Q rest (a.put o.dst v') w') : wpList P ops Q (o :: rest) a w := by
 refine wpList_plain hgd fun K hK => ?_
 obtain ⟨v', w', hr, h2, h3⟩ := run_append_own_src (P := P) w base t tx o.type e i z size bytes ht hi hz hsize hby hzs v n xs hown xv m news hs h63 hbytes hbase
 unfold Oper.wp execOp
 simp only [ho, resolve, invoke, builtin, Sem.run_bind, Sem.run_pure, Result.andThen_ok, List.map_toArray, List.map_cons, List.map_nil, hv, hx, hr]
 exact hK _ _ (h v' w' h2 h3)
end
end Go.Proofs.YtilbjeeabecfjaaGreat
namespace Go.Proofs.YtilbjeeabecfjaaGreat
open Go.RowKit
open Sha
theorem info8 : (Tryz.prog.info? 5).map (fun i => (i.zero, i.size, i.bytes)) = some (some (.int .u8 0), 1, 1) := by kernel_rfl
theorem info_parts {e : TypeId} {z : Value} {s b : Nat} (h : (Tryz.prog.info? e).map (fun i => (i.zero, i.size, i.bytes)) = some (some z, s, b)) : ∃ i, Tryz.prog.info? e = some i ∧ i.zero = some z ∧ i.size = s ∧ i.bytes = b := by
  cases hq : Tryz.prog.info? e with
  | none => rw [hq] at h; cases h
  | some i =>
    rw [hq] at h
    simp only [Option.map_some, Option.some.injEq, Prod.mk.injEq] at h
    exact ⟨i, rfl, h.1, h.2.1, h.2.2⟩
theorem below_grown {B : Nat} {w w1 w2 : World} {e : TypeId} {v : Value} {n : Nat} {xs : List Value} (hb : Below B w w1) (hB : B ≤ w1.heap.size) (ho : w1.ownsRow B e 1 v n xs) (hg : w1.grownBy w2 v.ownBlock) : Below B w w2 :=
 hb.grown hg hB (fun k hk => (ho.lt k hk).1)
theorem own_range {w : World} {B : Nat} {e : TypeId} {v : Value} {n : Nat} {xs : List Value} (h : w.ownsRow B e 1 v n xs) :
  (v = .slice none 0 0 ∧ n = 0 ∧ xs = []) ∨ ∃ g cap, v = .slice (some ⟨g, 0, none⟩) n cap ∧ B ≤ g ∧ g < w.heap.size ∧ n ≤ cap ∧ cap ≤ maxLen ∧ w.rangeAt g 0 xs := by
 have hl := h.1
 rcases h.2 with ⟨rfl, h0⟩ | ⟨g, cap, cur, rfl, hb, hg, hn, hcm, hcs, ht⟩
 ·left
  refine ⟨rfl, h0, List.eq_nil_of_length_eq_zero (by rw [hl, h0])⟩
 ·right
  refine ⟨g, cap, rfl, hb, (Array.getElem?_eq_some_iff.1 hg).1, hn, hcm, fun j u hu => ?_⟩
  have := h.cells (g := g) rfl j u hu
  rwa [Addr.add_mid] at this
theorem own_bytes {w : World} {B : Nat} {v : Value} {zs : List Int} (h : w.ownsRow B 5 1 v zs.length (v8 zs)) (hz : ∀ z ∈ zs, 0 ≤ z ∧ z < 256) (hm : zs.length ≤ maxLen) :
  ∃ a cap, v = .slice a zs.length cap ∧ zs.length ≤ cap ∧ cap ≤ maxLen ∧ RowAt w a zs := by
 rcases own_range h with ⟨rfl, h0, _⟩ | ⟨g, cap, rfl, hb, hg, hn, hcm, hr⟩
 ·have : zs = [] := List.eq_nil_of_length_eq_zero h0
  subst this
  exact ⟨none, 0, rfl, by simp, by unfold maxLen; omega, hm, hz, Or.inl rfl⟩
 ·exact ⟨_, cap, rfl, hn, hcm, hm, hz, Or.inr ⟨g, 0, rfl, hg, hr⟩⟩
theorem RowAt.src {w : World} {a : Option Addr} {zs : List Int} (h : RowAt w a zs) (cap : Nat) : Src Tryz.prog 1 135 (.slice a zs.length cap) zs.length (v8 zs) w := by
 cases a with
 | none =>
  have : zs = [] := by
   rcases h.2.2 with q | ⟨b, off, hx, _⟩
   ·exact q
   ·cases hx
  subst this
  exact Src.ofNil w Tryz.underlying135 cap
 | some x =>
  refine Src.ofSlice w Tryz.underlying135 x zs.length cap _ (by simp) (fun j u hu => ?_) (v8_one _)
  rcases h.2.2 with rfl | ⟨b, off, hx, _, hr⟩
  ·simp [v8] at hu
  ·cases hx
   rw [Addr.add_mid]
   exact hr j u hu
def IsRow (k : IntKind) (w : World) (a : Option Addr) (len cap : Nat) (zs : List Int) : Prop :=
 (a = none ∧ len = 0 ∧ cap = 0 ∧ zs = []) ∨
 ∃ x, a = some x ∧ len ≤ cap ∧ cap ≤ maxLen ∧ zs.length = cap ∧ (∀ i, i < zs.length → w.cell? (x.add i) = some (.int k (zs.getD i 0))) ∧ ∀ n ∈ zs, (Lit.int k n).wf = true
theorem IsRow.cells {k : IntKind} {w : World} {a : Option Addr} {len cap : Nat} {zs : List Int} (h : IsRow k w a len cap zs) :
  len ≤ cap ∧ cap ≤ maxLen ∧ (zs.take len).length = len ∧ (∀ z ∈ zs.take len, (Lit.int k z).wf = true) ∧ (zs.take len = [] ∨ ∃ b off, a = some ⟨b, off, none⟩ ∧ b < w.heap.size ∧ w.rangeAt b off ((zs.take len).map (Value.int k))) := by
 rcases h with ⟨rfl, rfl, rfl, rfl⟩ | ⟨x, rfl, hl, hm, hz, hcell, hwz⟩
 ·simp
 ·refine ⟨hl, hm, by rw [List.length_take]; omega, fun z hz => hwz z (List.mem_of_mem_take hz), ?_⟩
  by_cases h0 : len = 0
  ·left; simp [h0]
  ·right
   obtain ⟨b, off, spot⟩ := x
   have hc := hcell 0 (by omega)
   have hspot : spot = none := by simpa [Addr.add] using World.cell?_spot hc
   subst hspot
   refine ⟨b, off, rfl, ?_, fun j v hv => ?_⟩
   ·have := World.block_lt_of_cell? w _ hc; simpa [Addr.add] using this
   ·have hj : j < (zs.take len).length := by
     have := (List.getElem?_eq_some_iff.1 hv).1
     simpa using this
    rw [List.length_take] at hj
    have hcj := hcell j (by omega)
    rw [Addr.add_mid] at hcj
    rw [hcj, ← hv]
    have hjz : j < zs.length := by omega
    simp only [List.getElem?_map, List.getElem?_take]
    rw [if_pos (by omega), List.getElem?_eq_getElem hjz, List.getD_eq_getElem?_getD, List.getElem?_eq_getElem hjz]
    rfl
theorem IsRow.rowAt {w : World} {a : Option Addr} {len cap : Nat} {zs : List Int} (h : IsRow .u8 w a len cap zs) : ∃ ys : List Int, len = ys.length ∧ len ≤ cap ∧ cap ≤ maxLen ∧ RowAt w a ys := by
 obtain ⟨h1, h2, h3, h4, h5⟩ := h.cells
 refine ⟨zs.take len, h3.symm, h1, h2, by omega, fun z hz => ?_, h5⟩
 have := h4 z hz
 simp [Lit.wf, IntKind.min, IntKind.max, IntKind.signed, IntKind.bits] at this
 omega
open Go.RowKit
theorem len_arm (x s : Nat) (y : Int) (hx : x < 2 ^ 63) (hy0 : 0 ≤ y) (hy1 : y ≤ 255) (hy : y.toNat = x / 2 ^ s) (h : s = 0 ∨ 2 ^ s ≤ x) :
  Lib.len8 y = (Lib.bitLen x : Int) - s ∧ (Lib.bitLen x : Int) - s ≤ 8 ∧ 0 ≤ (Lib.bitLen x : Int) - s := by
 have e : Lib.bitLen x = s + Lib.bitLen (x / 2 ^ s) := by
  rcases h with rfl | h
  ·simp
  ·exact Lib.bitLen_shift s x h (by omega)
 have l := Lib.bitLen_le8' y hy0 hy1
 rw [Lib.len8_of y hy0 hy1, hy]
 rw [hy] at l
 omega
theorem wpList_index_len8 {P : Program} {w : World} {ops : Array Oper} {rest : List Oper} {o : Oper} {a : Act} {Q : Exit → Act → World → Prop} (hgd : o.guard = none) (t : TypeId) (tbl : ByteArray) (x : Operand)
  (ho : o.op = .index t (.const (.string tbl)) x) (ht : P.underlying t = some .string) (htbl : tbl = Lib.len8tab) (k : IntKind) (i : Int) (hx : a.eval x = .int k i) (h0 : 0 ≤ i) (h1 : i ≤ 255)
  (h : wpList P ops Q rest (a.put o.dst (.int .u8 (Lib.len8 i))) w) : wpList P ops Q (o :: rest) a w := by
 subst htbl
 refine wpList_plain hgd fun K hK => ?_
 have hr := Lib.run_index_len8tab (P := P) w t k i ht h0 h1
 have hc : a.eval (.const (.string Lib.len8tab)) = .string Lib.len8tab := rfl
 unfold Oper.wp execOp
 simp only [ho, Sem.run_bind, hc, hx, hr, Result.andThen_ok, Sem.run_pure]
 exact hK _ _ h
theorem fold_tab (a b c d : List UInt8) (h : ByteArray.mk ((a.append b).append (c.append d)).toArray = Lib.len8tab) : ByteArray.mk ((a.append b).append (c.append d)).toArray = Lib.len8tab := h
set_option maxHeartbeats 4000000 in
set_option maxRecDepth 100000 in
theorem len64_int (x : Int) (w : World) (h0 : 0 ≤ x) (h1 : x ≤ 9223372036854775807) :
  Calls Tryz.prog 151 #[.int .u64 x] w fun e w' => e = .returned (.int .i64 (Lib.bitLen x.toNat)) ∧ w' = w := by
 go_enter Tryz.func151, Tryz.ntmps151
 rw [fold_tab _ _ _ _ (by kernel_rfl)]
 go_wp2_with (refine wpList_index_len8 rfl 9 Lib.len8tab _ rfl Tryz.underlying9 rfl .u8 _ rfl ?_ ?_ ?_; (omega); (omega))
 all_goals (go_ret; refine ⟨congrArg Ending.returned (congrArg (Value.int IntKind.i64) ?_), rfl⟩)
 all_goals first
  | (obtain ⟨e, l, m⟩ := len_arm x.toNat 56 (x / 4294967296 / 65536 / 256) (by omega) (by omega) (by omega) (by omega) (by omega); rw [e]; simp only [wrap64]; omega)
  | (obtain ⟨e, l, m⟩ := len_arm x.toNat 48 (x / 4294967296 / 65536) (by omega) (by omega) (by omega) (by omega) (by omega); rw [e]; simp only [wrap64]; omega)
  | (obtain ⟨e, l, m⟩ := len_arm x.toNat 40 (x / 4294967296 / 256) (by omega) (by omega) (by omega) (by omega) (by omega); rw [e]; simp only [wrap64]; omega)
  | (obtain ⟨e, l, m⟩ := len_arm x.toNat 32 (x / 4294967296) (by omega) (by omega) (by omega) (by omega) (by omega); rw [e]; simp only [wrap64]; omega)
  | (obtain ⟨e, l, m⟩ := len_arm x.toNat 24 (x / 65536 / 256) (by omega) (by omega) (by omega) (by omega) (by omega); rw [e]; simp only [wrap64]; omega)
  | (obtain ⟨e, l, m⟩ := len_arm x.toNat 16 (x / 65536) (by omega) (by omega) (by omega) (by omega) (by omega); rw [e]; simp only [wrap64]; omega)
  | (obtain ⟨e, l, m⟩ := len_arm x.toNat 8 (x / 256) (by omega) (by omega) (by omega) (by omega) (by omega); rw [e]; simp only [wrap64]; omega)
  | (obtain ⟨e, l, m⟩ := len_arm x.toNat 0 (x) (by omega) (by omega) (by omega) (by omega) (by omega); rw [e]; simp only [wrap64]; omega)
namespace Tal
open Go
def wid (n : Nat) : Nat := (Lib.bitLen n + 7) / 8
def digK : Nat → Nat → List Int
  | 0, _ => []
  | k + 1, n => digK k (n / 256) ++ [((n % 256 : Nat) : Int)]
def digs (n : Nat) : List Int := digK (wid n) n
def numB (n : Nat) : List Int := (wid n : Int) :: digs n
def putL (n : Int) : List Int := if n < 0 then [] else numB n.toNat
theorem wid_zero : wid 0 = 0 := by decide
theorem wid_succ (n : Nat) (h0 : 0 < n) (h : n < 2 ^ 63) : wid n = wid (n / 256) + 1 := by
 unfold wid
 by_cases h2 : 256 ≤ n
 ·rw [Lib.bitLen_shift8 n h2 (by omega)]; omega
 ·have e : n / 256 = 0 := by omega
  have h3 := Lib.bitLen_half n (by omega) (by omega)
  have h4 := Lib.bitLen_le8 ⟨n, by omega⟩
  simp only at h4
  rw [e]
  have : Lib.bitLen 0 = 0 := by decide
  rw [this]
  omega
theorem wid_bounds : ∀ (k n : Nat), n < 2 ^ 63 → n < 256 ^ k → wid n ≤ k ∧ n < 256 ^ wid n ∧ (0 < n → 0 < wid n ∧ 256 ^ (wid n - 1) ≤ n)
  | 0, n, _, h => by
    have : n = 0 := by simpa using h
    subst this
    rw [wid_zero]; simp
  | k + 1, n, hn, h => by
    by_cases h0 : n = 0
    · subst h0; rw [wid_zero]; simp
    · have hs := wid_succ n (by omega) hn
      obtain ⟨a, b, c⟩ := wid_bounds k (n / 256) (by omega) (by rw [Nat.pow_succ] at h; omega)
      rw [hs]
      refine ⟨by omega, by rw [Nat.pow_succ]; omega, fun _ => ⟨by omega, ?_⟩⟩
      rw [Nat.add_sub_cancel]
      by_cases h1 : n / 256 = 0
      · rw [h1, wid_zero]; simp; omega
      · obtain ⟨c1, c2⟩ := c (by omega)
        have : wid (n / 256) = wid (n / 256) - 1 + 1 := by omega
        rw [this, Nat.pow_succ]
        omega
theorem wid_le (n : Nat) (h : n < 2 ^ 63) : wid n ≤ 8 := (wid_bounds 8 n h (by omega)).1
theorem digK_length : ∀ k n, (digK k n).length = k
  | 0, _ => rfl
  | k + 1, n => by simp [digK, digK_length k]
theorem digK_byte : ∀ k n, ∀ z ∈ digK k n, 0 ≤ z ∧ z < 256
  | 0, _, z, h => by simp [digK] at h
  | k + 1, n, z, h => by
    simp only [digK, List.mem_append, List.mem_singleton] at h
    rcases h with h | rfl
    · exact digK_byte k _ z h
    · omega
theorem digK_get : ∀ k n i, i < k → (digK k n).getD i 0 = ((n / 256 ^ (k - 1 - i) % 256 : Nat) : Int)
  | 0, _, _, h => by omega
  | k + 1, n, i, h => by
    simp only [digK, List.getD_eq_getElem?_getD]
    by_cases hi : i < k
    · rw [List.getElem?_append_left (by rw [digK_length]; exact hi), ← List.getD_eq_getElem?_getD, digK_get k (n / 256) i hi, Nat.div_div_eq_div_mul]
      have e : k + 1 - 1 - i = (k - 1 - i) + 1 := by omega
      rw [e, Nat.pow_succ, Nat.mul_comm]
    · have e : i = k := by omega
      subst e
      rw [List.getElem?_append_right (by rw [digK_length]; exact Nat.le_refl _), digK_length]
      simp
theorem digs_zero : digs 0 = [] := by unfold digs; rw [wid_zero]; rfl
theorem digs_succ (n : Nat) (h0 : 0 < n) (h : n < 2 ^ 63) : digs n = digs (n / 256) ++ [((n % 256 : Nat) : Int)] := by
 unfold digs
 rw [wid_succ n h0 h]; rfl
theorem digs_length (n : Nat) : (digs n).length = wid n := digK_length _ _
theorem digs_byte (n : Nat) : ∀ z ∈ digs n, 0 ≤ z ∧ z < 256 := digK_byte _ _
theorem putL_byte (n : Int) (h : n < 2 ^ 63) : ∀ z ∈ putL n, 0 ≤ z ∧ z < 256 := by
 intro z hz
 unfold putL at hz
 split at hz
 ·simp at hz
 ·simp only [numB, List.mem_cons] at hz
  rcases hz with rfl | hz
  ·have := wid_le n.toNat (by omega); omega
  ·exact digs_byte _ z hz
theorem putL_length (n : Int) (h : n < 2 ^ 63) : (putL n).length ≤ 9 := by
 unfold putL
 split
 ·simp
 ·simp only [numB, List.length_cons, digs_length]
  have := wid_le n.toNat (by omega); omega
def val (l : List Int) : Int := l.foldl (fun a d => a * 256 + d) 0
theorem val_snoc (l : List Int) (d : Int) : val (l ++ [d]) = val l * 256 + d := by simp [val, List.foldl_append]
theorem val_digK : ∀ k n, val (digK k n) = ((n % 256 ^ k : Nat) : Int)
  | 0, n => by simp [digK, val, Nat.mod_one]
  | k + 1, n => by
    rw [digK, val_snoc, val_digK k (n / 256), Nat.pow_succ, Nat.mul_comm (256 ^ k) 256, Nat.mod_mul]
    omega
theorem val_digs (n : Nat) (h : n < 2 ^ 63) : val (digs n) = n := by
 unfold digs
 rw [val_digK, Nat.mod_eq_of_lt (wid_bounds 8 n h (by omega)).2.1]
end Tal
open Go.RowKit
open Tal
theorem bitLen_le64 (x : Nat) (h : x < 2 ^ 63) : Lib.bitLen x ≤ 64 := by
 have := wid_le x h; unfold wid at this; omega
set_option maxRecDepth 20000 in
set_option maxHeartbeats 400000 in
theorem width_any (n : Int) (w : World) (h0 : 0 ≤ n) (h1 : n ≤ 9223372036854775807) :
  Calls Tryz.prog 132 #[.int .i64 n] w fun e w' => e = .returned (.int .i64 (wid n.toNat)) ∧ w' = w := by
 have hl := bitLen_le64 n.toNat (by omega)
 have HW : Hid ((wid n.toNat : Int) = ((Lib.bitLen n.toNat : Int) + 7) / 8) := by show _ = _; unfold wid; omega
 go_enter Tryz.func132, Tryz.ntmps132
 go_wp2_with fail
 refine (len64_int n _ h0 h1).mono ?_
 rintro e w1 ⟨rfl, rfl⟩
 go_wp2
 go_ret
 rw [HW.out]
 exact ⟨rfl, rfl⟩
set_option maxRecDepth 20000 in
set_option maxHeartbeats 400000 in
theorem size_any (n : Int) (w : World) (h1 : n ≤ 9223372036854775807) :
  Calls Tryz.prog 131 #[.int .i64 n] w fun e w' => e = .returned (.int .i64 ((putL n).length : Int)) ∧ w' = w := by
 by_cases h0 : n < 0
 ·have HP : Hid (putL n = []) := by show _ = _; simp [putL, h0]
  go_enter Tryz.func131, Tryz.ntmps131
  go_wp2
  go_ret
  rw [HP.out]
  exact ⟨rfl, rfl⟩
 ·have hw := wid_le n.toNat (by omega)
  have HP : Hid (((putL n).length : Int) = 1 + (wid n.toNat : Int)) := by show _ = _; simp only [putL, if_neg h0, numB, List.length_cons, digs_length]; omega
  go_enter Tryz.func131, Tryz.ntmps131
  go_wp2_with fail
  refine (width_any n _ (by omega) h1).mono ?_
  rintro e w1 ⟨rfl, rfl⟩
  go_wp2
  go_ret
  rw [HP.out]
  exact ⟨rfl, rfl⟩
open Go.RowKit
open Tal
def Mine (w : World) (B : Nat) (v : Value) (zs : List Int) : Prop := w.ownsRow B 5 1 v zs.length (zs.map (Value.int .u8)) ∧ ∀ z ∈ zs, 0 ≤ z ∧ z < 256
theorem Mine.below {w w' : World} {B : Nat} {v : Value} {zs : List Int} (h : Mine w B v zs) (hb : Below w.heap.size w w') : Mine w' B v zs := by
 refine ⟨⟨h.1.1, ?_⟩, h.2⟩
 rcases h.1.2 with h | ⟨g, cap, cur, hv, hg, hh, r⟩
 ·exact .inl h
 ·exact .inr ⟨g, cap, cur, hv, hg, by rw [hb.block g (Array.getElem?_eq_some_iff.1 hh).1]; exact hh, r⟩
theorem Mine.rowAt {w : World} {B : Nat} {v : Value} {zs : List Int} (h : Mine w B v zs) (hm : zs.length ≤ maxLen) : ∃ a cap, v = .slice a zs.length cap ∧ zs.length ≤ cap ∧ cap ≤ maxLen ∧ RowAt w a zs :=
 own_bytes h.1 h.2 hm
set_option maxRecDepth 20000 in
set_option maxHeartbeats 800000 in
theorem room_any (a : Option Addr) (cap : Nat) (zs : List Int) (more : Nat) (w : World) (h : RowAt w a zs) (hm : zs.length + more ≤ 1099511627776) :
  Calls Tryz.prog 130 #[.slice a zs.length cap, .int .i64 (more : Int)] w fun e w' => ∃ v, e = .returned v ∧ Mine w' w.heap.size v zs ∧ Below w.heap.size w w' := by
 obtain ⟨i0, hi, hz0, hz1, hz2⟩ := info_parts info8
 go_enter Tryz.func130, Tryz.ntmps130
 go_wp2_with (first
  | refine wpList_make_own _ rfl _ _ 135 rfl w.heap.size 5 i0 (.int .u8 0) 1 Tryz.underlying135 hi hz0 hz1 .i64 .i64 _ (zs.length + more) rfl rfl ?d1 ?d2 ?d3 ?d4 ?_)
 case d1 => omega
 case d2 => rw [hz2]; omega
 case d3 => unfold maxLen; omega
 case d4 => exact Nat.le_refl _
 intro w1 hown hgrow
 have hb1 : Below w.heap.size w w1 := (Below.refl _ _).grown hgrow (Nat.le_refl _) (fun k hk => by cases hk)
 go_wp2_with (at_builtin; refine wpList_append_own_src _ rfl _ _ 135 135 rfl w.heap.size 5 i0 (.int .u8 0) 1 1 Tryz.underlying135 hi hz0 hz1 hz2 rfl _ 0 [] rfl hown (.slice a zs.length cap) zs.length (zs.map (Value.int .u8)) rfl ((h.below hb1).src cap) ?c1 ?c2 ?c3 ?_)
 case c1 => unfold maxLen; omega
 case c2 => omega
 case c3 => exact hb1.size
 intro v' w2 hown2 hgrow2
 have hb2 := below_grown hb1 hb1.size hown hgrow2
 go_wp2
 go_ret
 exact ⟨_, rfl, ⟨by simpa using hown2, h.2.1⟩, hb2⟩
theorem Mine.mk' {w : World} {B m : Nat} {v : Value} {xs : List Value} (L : List Int) (h : w.ownsRow B 5 1 v m xs) (hm : m = L.length) (hx : xs = L.map (Value.int .u8)) (hb : ∀ z ∈ L, 0 ≤ z ∧ z < 256) : Mine w B v L := by
 subst hm; subst hx; exact ⟨h, hb⟩
theorem dig_shift (n : Int) (K k : Nat) (h0 : 0 ≤ n) (hK : wid n.toNat = K) (hk : k < K) : n / 2 ^ (8 * (K - 1 - k)) % 256 = (digs n.toNat).getD k 0 := by
 unfold digs
 rw [hK, digK_get K n.toNat k hk]
 obtain ⟨m, rfl⟩ := Int.eq_ofNat_of_zero_le h0
 simp only [Int.toNat_natCast]
 have e : ((2 : Int) ^ (8 * (K - 1 - k))) = ((256 ^ (K - 1 - k) : Nat) : Int) := by
  rw [Int.natCast_pow, Int.pow_mul]; rfl
 rw [e, Int.natCast_emod, Int.natCast_ediv]
 rfl
theorem b1_src (w : World) (b : Int) : Src Tryz.prog 1 135 (.slice (some ⟨w.heap.size, 0, none⟩) 1 1) 1 [.int .u8 b] (w.alloc (.cells #[.int .u8 b] 5)) := by
 refine Src.ofSlice _ Tryz.underlying135 ⟨w.heap.size, 0, none⟩ 1 1 [.int .u8 b] rfl (fun j u hu => ?_) (fun u hu => ?_)
 ·match j, hu with
  | 0, hu =>
   simp at hu; subst hu
   show (w.alloc (.cells #[.int .u8 b] 5)).cell? ⟨w.heap.size, 0, none⟩ = _
   rw [World.cell?_alloc_at _ _ _ _ rfl]; rfl
 ·simp at hu; subst hu; rfl
set_option maxRecDepth 20000 in
set_option maxHeartbeats 800000 in
theorem put_any (a : Option Addr) (cap : Nat) (zs : List Int) (n : Int) (w : World) (h : RowAt w a zs) (hm : zs.length ≤ 549755813888) (hn : n ≤ 9223372036854775807) :
  Calls Tryz.prog 125 #[.slice a zs.length cap, .int .i64 n] w fun e w' => ∃ v, e = .returned v ∧ Mine w' w.heap.size v (zs ++ putL n) ∧ Below w.heap.size w w' := by
 obtain ⟨i0, hi, hz0, hz1, hz2⟩ := info_parts info8
 have hpl := putL_length n (by omega)
 by_cases h0 : n < 0
 ·have HP : Hid (putL n = []) := by show _ = _; simp [putL, h0]
  go_enter Tryz.func125, Tryz.ntmps125
  go_wp2_with fail
  refine (size_any n _ hn).mono ?_
  rintro e w1 ⟨rfl, rfl⟩
  go_wp2_with fail
  refine (room_any a cap zs _ w1 h (by omega)).mono ?_
  rintro e w2 ⟨v, rfl, hmine, hb⟩
  go_wp2
  go_ret
  rw [HP.out, List.append_nil]
  exact ⟨_, rfl, hmine, hb⟩
 ·have hw := wid_le n.toNat (by omega)
  have HP : Hid (putL n = (wid n.toNat : Int) :: digs n.toNat) := by show _ = _; simp [putL, h0, numB]
  go_enter Tryz.func125, Tryz.ntmps125
  go_wp2_with fail
  refine (size_any n _ hn).mono ?_
  rintro e w1 ⟨rfl, rfl⟩
  go_wp2_with fail
  refine (room_any a cap zs _ w1 h (by omega)).mono ?_
  rintro e w2 ⟨v, rfl, hmine, hb⟩
  clear hpl
  go_wp2_with fail
  refine (width_any n _ (by omega) hn).mono ?_
  rintro e w3 ⟨rfl, rfl⟩
  generalize hK : wid n.toNat = K at hw HP
  go_wp2_with (at_builtin; refine wpList_append_own_src _ rfl _ _ 135 135 rfl w1.heap.size 5 i0 (.int .u8 0) 1 1 Tryz.underlying135 hi hz0 hz1 hz2 rfl _ zs.length _ rfl (hmine.1.alloc _) _ 1 _ rfl (b1_src _ _) ?c1 ?c2 ?c3 ?_)
  case c1 => unfold maxLen; omega
  case c2 => omega
  case c3 => have := hb.size; simp; omega
  intro v2 w4 hown2 hgrow2
  have HK : Hid (wid n.toNat = K) := hK
  have hb4 : Below w1.heap.size w1 w4 := below_grown (hb.alloc hb.size _) (by have := hb.size; simp; omega) (hmine.1.alloc (.cells #[.int .u8 (K : Int)] 5)) hgrow2
  have hM4 : Mine w4 w1.heap.size v2 (zs ++ (K : Int) :: (digs n.toNat).take 0) := by
   refine ⟨by simpa using hown2, fun z hz => ?_⟩
   simp only [List.take_zero, List.mem_append, List.mem_singleton] at hz
   rcases hz with hz | rfl
   ·exact hmine.2 z hz
   ·omega
  clear hown2 hgrow2 hmine hK
  go_wp2_with fail
  go_loopw [5, 23] (fun o i wr => ∃ k : Nat, k ≤ K ∧ i = .int .i64 k ∧ Mine wr w1.heap.size o (zs ++ (K : Int) :: (digs n.toNat).take k) ∧ Below w1.heap.size w1 wr) (fun _ i _ => K - (intOf i).toNat)
  case atStart => exact ⟨0, by omega, rfl, hM4, hb4⟩
  case round =>
   obtain ⟨k, hk, rfl, hmi, hbr⟩ := hrel
   by_cases hlt : k < K
   ·go_wp2_with (at_builtin; refine wpList_append_own_src _ rfl _ _ 135 135 rfl w1.heap.size 5 i0 (.int .u8 0) 1 1 Tryz.underlying135 hi hz0 hz1 hz2 rfl _ _ _ rfl (hmi.1.alloc _) _ 1 _ rfl (b1_src _ _) ?c1 ?c2 ?c3 ?_)
    case c1 => simp only [List.length_append, List.length_cons, List.length_take, digs_length]; unfold maxLen; omega
    case c2 => simp only [List.length_append, List.length_cons, List.length_take, digs_length]; omega
    case c3 => have := hbr.size; simp; omega
    intro v5 w5 hown5 hgrow5
    have hb5 : Below w1.heap.size w1 w5 := below_grown (hbr.alloc hbr.size _) (by have := hbr.size; simp; omega) (hmi.1.alloc (.cells #[.int .u8 (n / 2 ^ (8 * (K - 1 - k)) % 256)] 5)) hgrow5
    have hM5 : Mine w5 w1.heap.size v5 (zs ++ (K : Int) :: (digs n.toNat).take (k + 1)) := by
     have hkd : k < (digs n.toNat).length := by rw [digs_length, HK.out]; exact hlt
     have ed := dig_shift n K k h0 HK.out hlt
     have et : (digs n.toNat).take (k + 1) = (digs n.toNat).take k ++ [n / 2 ^ (8 * (K - 1 - k)) % 256] := by
      rw [ed, List.take_succ_eq_append_getElem hkd, List.getD_eq_getElem?_getD, List.getElem?_eq_getElem hkd]; rfl
     refine Mine.mk' _ hown5 ?_ ?_ (fun z hz => ?_)
     ·simp only [List.length_append, List.length_cons, List.length_take]; omega
     ·rw [et]; simp
     ·simp only [List.mem_append, List.mem_cons] at hz
      rcases hz with hz | rfl | hz
      ·exact h.2.1 z hz
      ·omega
      ·exact digs_byte _ z (List.mem_of_mem_take hz)
    clear hown5 hgrow5 hmi
    go_wp2_with fail
    go_roundw
    case rel => exact ⟨k + 1, by omega, by go_num, hM5, hb5⟩
    case measure => simp [intOf]; omega
   ·obtain rfl : k = K := by omega
    have e : zs ++ putL n = zs ++ (k : Int) :: (digs n.toNat).take k := by
     rw [HP.out, List.take_of_length_le (by rw [digs_length, HK.out]; exact Nat.le_refl _)]
    go_wp2_with fail
    go_ret
    rw [e]
    exact ⟨_, rfl, hmi, hbr⟩
open Go.RowKit
open Tal
theorem nil_row (w : World) : RowAt w none [] := ⟨by simp, by simp, Or.inl rfl⟩
def strL (s : ByteArray) : List Int := s.data.toList.map fun b => (b.toNat : Int)
theorem strL_length (s : ByteArray) : (strL s).length = s.size := by unfold strL; rw [List.length_map, Array.length_toList]; rfl
theorem strL_byte (s : ByteArray) : ∀ z ∈ strL s, 0 ≤ z ∧ z < 256 := by
 intro z hz
 obtain ⟨b, _, rfl⟩ := List.mem_map.1 hz
 have := b.toNat_lt
 omega
theorem str_src (s : ByteArray) (w : World) : Src Tryz.prog 1 9 (.string s) s.size ((strL s).map (Value.int .u8)) w := by
 have := Src.ofString w (P := Tryz.prog) Tryz.underlying9 s
 have e : (strL s).map (Value.int .u8) = byteCells s := by unfold strL byteCells; rw [List.map_map]; rfl
 rw [e]; exact this
def textL (s : ByteArray) : List Int := putL s.size ++ strL s
set_option maxRecDepth 20000 in
set_option maxHeartbeats 800000 in
theorem putText_any (a : Option Addr) (cap : Nat) (zs : List Int) (s : ByteArray) (w : World) (h : RowAt w a zs) (hm : zs.length ≤ 1099511627) (hs : s.size ≤ 1099511627) :
  Calls Tryz.prog 124 #[.slice a zs.length cap, .string s] w fun e w' => ∃ v, e = .returned v ∧ Mine w' w.heap.size v (zs ++ textL s) ∧ Below w.heap.size w w' := by
 obtain ⟨i0, hi, hz0, hz1, hz2⟩ := info_parts info8
 have hpl := putL_length (s.size : Int) (by omega)
 have hpb := putL_byte (s.size : Int) (by omega)
 have cs := fun w => size_any (s.size : Int) w (by omega)
 have cp := fun w => put_any none 0 [] (s.size : Int) w (nil_row w) (by simp) (by omega)
 rw [List.nil_append] at cp
 have HT : Hid (textL s = putL s.size ++ strL s) := rfl
 have HSL : Hid ((strL s).length = s.size) := strL_length s
 generalize putL (s.size : Int) = ps at *
 go_enter Tryz.func124, Tryz.ntmps124
 go_wp2_with fail
 refine (cs _).mono ?_
 rintro e w1 ⟨rfl, rfl⟩
 have cr := room_any a cap zs (ps.length + s.size) w1 h (by omega)
 have ec : ((ps.length + s.size : Nat) : Int) = (ps.length : Int) + (s.size : Int) := by omega
 rw [ec] at cr
 clear ec
 go_wp2_with fail
 refine cr.mono ?_
 rintro e w2 ⟨v, rfl, hmine, hb⟩
 clear cr cs
 go_wp2_with fail
 refine (cp _).mono ?_
 rintro e w3 ⟨v3, rfl, hm3, hb3⟩
 clear cp
 obtain ⟨a3, cap3, rfl, hc31, hc32, hr3⟩ := hm3.rowAt (by unfold maxLen; omega)
 have hmine3 := hmine.below hb3
 have hb3' : Below w1.heap.size w1 w3 := hb.trans (hb3.mono hb.size)
 go_wp2_with (at_builtin; refine wpList_append_own_src _ rfl _ _ 135 135 rfl w1.heap.size 5 i0 (.int .u8 0) 1 1 Tryz.underlying135 hi hz0 hz1 hz2 rfl _ zs.length _ rfl hmine3.1 _ ps.length _ rfl (hr3.src cap3) ?c1 ?c2 ?c3 ?_)
 case c1 => unfold maxLen; omega
 case c2 => omega
 case c3 => exact hb3'.size
 intro v4 w4 hown4 hgrow4
 have hb4 := below_grown hb3' hb3'.size hmine3.1 hgrow4
 go_wp2_with (at_builtin; refine wpList_append_own_src _ rfl _ _ 135 9 rfl w1.heap.size 5 i0 (.int .u8 0) 1 1 Tryz.underlying135 hi hz0 hz1 hz2 rfl _ (zs.length + ps.length) _ rfl hown4 _ s.size _ rfl (str_src s _) ?e1 ?e2 ?e3 ?_)
 case e1 => unfold maxLen; omega
 case e2 => omega
 case e3 => exact hb4.size
 intro v5 w5 hown5 hgrow5
 have hb5 := below_grown hb4 hb4.size hown4 hgrow5
 have hM : Mine w5 w1.heap.size v5 (zs ++ textL s) := by
  rw [HT.out]
  refine Mine.mk' _ hown5 ?_ ?_ (fun z hz => ?_)
  ·simp only [List.length_append, HSL.out]; omega
  ·simp [v8]
  ·simp only [List.mem_append] at hz
   rcases hz with hz | hz | hz
   ·exact h.2.1 z hz
   ·exact hpb z hz
   ·exact strL_byte s z hz
 clear hown5 hgrow5 hown4 hgrow4
 go_wp2_with fail
 go_ret
 exact ⟨_, rfl, hM, hb5⟩
open Go Go.RowKit
section
variable {P : Program} {ops : Array Oper} {Q : Exit → Act → World → Prop}
def HeldS (P : Program) (ops : Array Oper) (Q : Exit → Act → World → Prop) (S : World → Prop) (fuel : Nat) (listed : Array Bool) (a : Act) (w : World) : Prop :=
 wpAnyH P .any ops (NoPanic Q) S fuel listed a w
theorem hs_begin {id : Nat} {S : World → Prop} {a : Act} {w : World} (n : Nat) (hn : ops.size = n) (hm : P.follows .mixedOrders = true) (h : HeldS P ops Q S n (Array.replicate n false) a w.drew) : (Code.region id ops true).wp P Q a w := by
 subst hn
 exact wp_region_noPanic (wp_region_held hm h)
theorem hs_take {i : Nat} {S : World → Prop} {oi : Oper} {d : Option Nat} {v : Value} {fuel : Nat} {listed : Array Bool} {a : Act} {w : World} (hi : ops[i]? = some oi)
  (hs : Region.noSelect ops = true) (hf : Region.free .any ops listed i = true) (hr : (Region.ready .any ops listed).contains i = true)
  (hw : Region.wanted oi (yielded ops a.tmps) = true) (hy : ∀ w', S w' → (execOp a.eval oi).run P w' = .ok (.value v) w') (hS : S w) (hdst : oi.dst = d)
  (h : HeldS P ops Q S fuel (listed.setIfInBounds i true) (a.put d v) w) : HeldS P ops Q S (fuel + 1) listed a w := by
 subst hdst
 exact wpAnyH_take hi hs hf hr (fun _ _ _ h => h) (Or.inl ⟨hw, hy⟩) hS h
theorem hs_t (i d : Nat) (v : Value) {S : World → Prop} {oi : Oper} {fuel : Nat} {listed : Array Bool} {a : Act} {w : World} (hi : ops[i]? = some oi) (hs : Region.noSelect ops = true) (hf : Region.free .any ops listed i = true) (hr : (Region.ready .any ops listed).contains i = true) (hw : Region.wanted oi (yielded ops a.tmps) = true) (hy : ∀ w', S w' → (execOp a.eval oi).run P w' = .ok (.value v) w') (hS : S w) (hdst : oi.dst = some d) (h : HeldS P ops Q S fuel (listed.setIfInBounds i true) (a.put (some d) v) w) : HeldS P ops Q S (fuel + 1) listed a w := hs_take hi hs hf hr hw hy hS hdst h
theorem hs_call {i : Nat} {S : World → Prop} {oi : Oper} {d : Option Nat} {f : FuncId} {args : Array Value} {fuel : Nat} {listed : Array Bool} {a : Act} {w : World} (hi : ops[i]? = some oi)
  (hr : Region.ready .any ops listed = [i]) (hw : Region.wanted oi (yielded ops a.tmps) = true) (hy : (execOp a.eval oi).run P w = .ok (.enter f args) w) (hdst : oi.dst = d)
  (h : Calls P f args w fun e w' => ∃ v, e = .returned v ∧ S w' ∧ HeldS P ops Q S fuel (listed.setIfInBounds i true) (a.put d v) w') : HeldS P ops Q S (fuel + 1) listed a w := by
 subst hdst
 refine wpAnyH_all hr (by simp) ?_
 intro j hj
 obtain rfl : j = i := by simpa using hj
 unfold wpOp
 simp only [hi, hw, if_true]
 left
 unfold Oper.wp
 rw [hy]
 refine h.mono ?_
 rintro e w' ⟨v, rfl, hb, hk⟩
 exact ⟨hb, hk⟩
theorem hs_run {i : Nat} {S : World → Prop} {oi : Oper} {d : Option Nat} {v : Value} {fuel : Nat} {listed : Array Bool} {a : Act} {w w' : World} (hi : ops[i]? = some oi)
  (hr : Region.ready .any ops listed = [i]) (hw : Region.wanted oi (yielded ops a.tmps) = true) (hy : (execOp a.eval oi).run P w = .ok (.value v) w') (hdst : oi.dst = d)
  (hS : S w') (h : HeldS P ops Q S fuel (listed.setIfInBounds i true) (a.put d v) w') : HeldS P ops Q S (fuel + 1) listed a w := by
 subst hdst
 refine wpAnyH_all hr (by simp) ?_
 intro j hj
 obtain rfl : j = i := by simpa using hj
 unfold wpOp
 simp only [hi, hw, if_true]
 left
 unfold Oper.wp
 rw [hy]
 exact ⟨hS, h⟩
theorem hs_store {i : Nat} {S : World → Prop} {oi : Oper} {fuel : Nat} {listed : Array Bool} {a : Act} {w w' : World} (hi : ops[i]? = some oi)
  (hr : Region.ready .any ops listed = [i]) (hw : Region.wanted oi (yielded ops a.tmps) = true) (hy : (execOp a.eval oi).run P w = .ok .skip w') (hdst : oi.dst = none)
  (hS : S w') (h : HeldS P ops Q S fuel (listed.setIfInBounds i true) a w') : HeldS P ops Q S (fuel + 1) listed a w := by
 refine wpAnyH_all hr (by simp) ?_
 intro j hj
 obtain rfl : j = i := by simpa using hj
 unfold wpOp
 simp only [hi, hw, if_true]
 left
 unfold Oper.wp
 rw [hy]
 refine ⟨hS, ?_⟩
 rw [hdst]
 exact h
theorem hs_done {S : World → Prop} {fuel : Nat} {listed : Array Bool} {a : Act} {w : World} (hr : Region.ready .any ops listed = []) (h : Q .normal a w) : HeldS P ops Q S fuel listed a w :=
 wpAnyH_done hr (NoPanic.normal h) fuel
end
end Go.Proofs.YtilbjeeabecfjaaGreat
namespace Go.Proofs.YtilbjeeabecfjaaGreat
open Go.RowKit
open Sha Tal
theorem hide {p : Prop} (h : p) : Hid p := h
def inB (n m : Int) : Bool := decide (0 ≤ n ∧ n ≤ m)
theorem inB_f {n m : Int} (h : ¬ (0 ≤ n ∧ n ≤ m)) : inB n m = false := by unfold inB; exact decide_eq_false h
set_option maxHeartbeats 400000 in
theorem within_any (n m : Int) (w : World) : Calls Tryz.prog 177 #[.int .i64 n, .int .i64 m] w fun e w' => e = .returned (.bool (inB n m)) ∧ w' = w := by
 by_cases h : 0 ≤ n
 ·have e : inB n m = decide (n ≤ m) := by unfold inB; rw [decide_eq_decide]; exact ⟨fun x => x.2, fun x => ⟨h, x⟩⟩
  rw [e]; clear e
  go_enter Tryz.func177, Tryz.ntmps177
  go_wp2
  go_ret
  exact ⟨rfl, rfl⟩
 ·rw [inB_f (fun x => h x.1)]
  go_enter Tryz.func177, Tryz.ntmps177
  go_wp2
  go_ret
  exact ⟨rfl, rfl⟩
structure Vt where
 k : Int
 e : Int
 v : Int
 s : Int
 d : List Int
def Vt.cells (x : Vt) : List Value := .int .i64 x.k :: .int .i64 x.e :: .int .i64 x.v :: .int .i64 x.s :: v8 x.d
def Vt.may (x : Vt) : Bool := (decide (x.k = 1) || decide (x.k = 2)) && (inB x.e 1048576 && (inB x.v 1099511627776 && inB x.s 1099511627776))
theorem Vt.box (w : World) (x : Vt) : (w.alloc (.cells x.cells.toArray 101)).rangeAt w.heap.size 0 x.cells := by
 have := range_new w x.cells.toArray 101
 simpa using this
theorem Vt.four {w : World} {b i : Nat} {x : Vt} (h : w.rangeAt b i x.cells) : w.cell? ⟨b, i, none⟩ = some (.int .i64 x.k) ∧ w.cell? ⟨b, i + 1, none⟩ = some (.int .i64 x.e) ∧ w.cell? ⟨b, i + 2, none⟩ = some (.int .i64 x.v) ∧ w.cell? ⟨b, i + 3, none⟩ = some (.int .i64 x.s) :=
 ⟨h 0 _ rfl, h 1 _ rfl, h 2 _ rfl, h 3 _ rfl⟩
set_option maxRecDepth 100000 in
set_option maxHeartbeats 2000000 in
theorem voteMay_any (x : Vt) (w : World) : Calls Tryz.prog 178 #[.agg x.cells.toArray] w fun e w' => e = .returned (.bool x.may) ∧ Below w.heap.size w w' := by
 obtain ⟨k, ep, vi, sl, d⟩ := x
 have hB1 : Below w.heap.size w (w.alloc (.cells (Vt.mk k ep vi sl d).cells.toArray 101)) := (Below.refl _ _).alloc (Nat.le_refl _) _
 obtain ⟨c0, c1, c2, c3⟩ := Vt.four (Vt.box w ⟨k, ep, vi, sl, d⟩)
 simp only [Nat.zero_add] at c1 c2 c3
 have E : (Vt.mk k ep vi sl d).may = ((decide (k = 1) || decide (k = 2)) && (inB ep 1048576 && (inB vi 1099511627776 && inB sl 1099511627776))) := rfl
 rw [E]; clear E
 generalize (Vt.mk k ep vi sl d).cells = q at *
 have hk : k = 1 ∨ (k ≠ 1 ∧ k = 2) ∨ (k ≠ 1 ∧ k ≠ 2) := by omega
 rcases hk with rfl | ⟨hk, rfl⟩ | ⟨hk, hk'⟩
 rotate_right
 ·rw [decide_eq_false hk, decide_eq_false hk']
  have n1 : (k != 1) = true := bne_iff_ne.2 hk
  have n2 : (k != 2) = true := bne_iff_ne.2 hk'
  have e1 : (k == 1) = false := beq_eq_false_iff_ne.2 hk
  have e2 : (k == 2) = false := beq_eq_false_iff_ne.2 hk'
  clear hk hk'
  go_enter Tryz.func178, Tryz.ntmps178
  go_wp2
  go_ret
  exact ⟨rfl, hB1⟩
 all_goals
  try clear hk
  cases he : inB ep 1048576
  ·go_enter Tryz.func178, Tryz.ntmps178
   go_wp2_with (go_at_call 177; refine (within_any _ _ _).mono ?_; rintro e1 w1 ⟨rfl, rfl⟩; try rw [he])
   go_ret
   exact ⟨rfl, hB1⟩
  ·cases hv : inB vi 1099511627776
   ·go_enter Tryz.func178, Tryz.ntmps178
    go_wp2_with (go_at_call 177; refine (within_any _ _ _).mono ?_; rintro e1 w1 ⟨rfl, rfl⟩; (first | rw [he] | rw [hv]))
    go_ret
    exact ⟨rfl, hB1⟩
   ·cases hs : inB sl 1099511627776
    all_goals
     go_enter Tryz.func178, Tryz.ntmps178
     go_wp2_with (go_at_call 177; refine (within_any _ _ _).mono ?_; rintro e1 w1 ⟨rfl, rfl⟩; (first | rw [he] | rw [hv] | rw [hs]))
     go_ret
     exact ⟨rfl, hB1⟩
open Go Go.RowKit
section
variable {P : Program} (w : World)
theorem run_append_own_src2 (base : Nat) (t tx ty e : TypeId) (i : TypeInfo) (z : Value) (size bytes : Nat) (ht : P.underlying t = some (.slice e)) (hi : P.info? e = some i) (hz : i.zero = some z)
    (hsize : i.size = size) (hby : i.bytes = bytes) (hzs : z.cells.size = size)
    (v : Value) (n : Nat) (xs : List Value) (hown : w.ownsRow base e size v n xs)
    (x : Value) (m : Nat) (news : List Value) (hs : Src P size tx x m news w)
    (h63 : n + m ≤ maxLen) (hbytes : (n + m) * bytes ≤ 140737488355328) (hbase : base ≤ w.heap.size) :
    ∃ v' w', (Builtin.append_ #[t, tx] ty #[v, x]).run P w = .ok v' w' ∧ w'.ownsRow base e size v' (n + m) (xs ++ news) ∧ w.grownBy w' v.ownBlock ∧ (∀ g, v'.ownBlock = some g → v.ownBlock = some g ∨ g = w.heap.size) := by
  subst hsize
  subst hby
  have hl := hs.newsLen
  have hlen : (xs ++ news).length = (n + m) * i.size := by rw [List.length_append, hown.1, hl, Nat.add_mul]
  have grown : ∀ (old : Nat), old < n + m → ∀ (row : Option Nat),
      (w.drew.alloc (.cells ((xs ++ news).toArray ++ Builtin.zeroCells z.cells (grownCap w (n + m) old e - (n + m))) e)).ownsRow base e i.size
        (.slice (some ⟨w.heap.size, 0, none⟩) (n + m) (grownCap w (n + m) old e)) (n + m) (xs ++ news) ∧
      w.grownBy (w.drew.alloc (.cells ((xs ++ news).toArray ++ Builtin.zeroCells z.cells (grownCap w (n + m) old e - (n + m))) e)) row := by
    intro old ho row
    have hge := grownCap_ge w (n + m) old e
    have hcm : grownCap w (n + m) old e ≤ maxLen := grownCap_le_maxLen w (n + m) old e h63
    refine ⟨⟨hlen, .inr ⟨w.heap.size, _, _, rfl, hbase, heap_alloc_new w.drew _, hge, hcm, ?_, ?_⟩⟩, ⟨rfl, rfl, rfl, by simp, fun k hk _ => Below.heap_alloc w.drew _ k hk⟩⟩
    · simp only [Array.size_append, List.size_toArray, size_zeroCells, hzs, hlen, ← Nat.add_mul]
      congr 1
      omega
    · simp only [Array.toList_append]
      rw [← hlen]
      exact List.take_left
  have h63' : ((n + m : Nat) : Int) ≤ 9223372036854775807 := by simp only [maxLen] at h63; omega
  rcases hown.2 with ⟨rfl, rfl⟩ | ⟨g, cap, cur, rfl, hbg, hg, hnc, hcm, hcs, htake⟩
  · have hx : xs = [] := List.eq_nil_of_length_eq_zero (by simpa using hown.1)
    subst hx
    by_cases hm : m = 0
    · subst hm
      have hn : news = [] := List.eq_nil_of_length_eq_zero (by simpa using hl)
      subst hn
      refine ⟨.slice none 0 0, w, ?_, World.ownsRow_nil w base e i.size, ⟨rfl, rfl, rfl, Nat.le_refl _, fun _ _ _ => rfl⟩, fun g hg => by simp [Value.ownBlock] at hg⟩
      have hc := hs.cells
      rcases hs.kind with ⟨e', hk⟩ | hk <;> simp [Builtin.append_, run_underlying ht, run_underlying hk, sizeOf, typeInfo, hi, hs.len, hc]
    · have hr := run_append_grow_src (P := P) w t tx ty e i z ht hi hz none 0 0 [] (run_firstCells_none w.drew i.size 0 0 0) x m news hs (by omega) (by simpa using h63') (growslice_fits (by omega) (by simpa using hbytes))
      have hgr := grown 0 (by omega) (Value.ownBlock (.slice none 0 0))
      exact ⟨_, _, hr, hgr.1, hgr.2, fun g hg => Or.inr (by simpa [Value.ownBlock] using hg.symm)⟩
  · by_cases hroom : n + m ≤ cap
    · have hfit : n * i.size + news.length ≤ cur.size := by rw [hl, hcs, ← Nat.add_mul]; exact Nat.mul_le_mul_right _ hroom
      have hst := run_storeCells_at P g (n * i.size) e news 0 cur w hg (by simpa using hfit) hs.one
      simp only [Nat.add_zero] at hst
      have hr : (Builtin.append_ #[t, tx] ty #[.slice (some ⟨g, 0, none⟩) n cap, x]).run P w = .ok (.slice (some ⟨g, 0, none⟩) (n + m) cap) (w.setRow g (cur.toList.take (n * i.size) ++ news ++ cur.toList.drop (n * i.size + news.length)).toArray) := by
        rcases hs.kind with ⟨e', hk⟩ | hk <;> simp [Builtin.append_, run_underlying ht, run_underlying hk, sizeOf, typeInfo, hi, hs.len, hroom, hs.cells, Addr.add_lit, hst]
      refine ⟨_, _, hr, ⟨hlen, .inr ⟨g, cap, _, rfl, hbg, setRow_heap w g cur _ e _ hg, hroom, hcm, ?_, ?_⟩⟩, ⟨rfl, rfl, rfl, by simp, fun k _ hk => setRow_other w g k _ (fun e => hk (by simp [Value.ownBlock, e]))⟩, fun g' hg' => Or.inl (by simpa [Value.ownBlock] using hg')⟩
      · simp only [List.size_toArray, List.length_append, List.length_take, List.length_drop, Array.length_toList]
        omega
      · rw [htake, ← hlen]
        exact List.take_left
    · have holds : ∀ j u, xs[j]? = some u → w.cell? ((⟨g, 0, none⟩ : Addr).add j) = some u := hown.cells (g := g) rfl
      have hr := run_append_grow_src (P := P) w t tx ty e i z ht hi hz (some ⟨g, 0, none⟩) n cap xs (run_firstCells_some w.drew i.size n ⟨g, 0, none⟩ n cap xs hown.1 (by simpa using holds)) x m news hs (by omega) h63' (growslice_fits (by omega) hbytes)
      have hgr := grown cap (by omega) (Value.ownBlock (.slice (some ⟨g, 0, none⟩) n cap))
      exact ⟨_, _, hr, hgr.1, hgr.2, fun g hg => Or.inr (by simpa [Value.ownBlock] using hg.symm)⟩
theorem wpList_append_own_src2 {ops : Array Oper} {rest : List Oper} {o : Oper} {a : Act} {Q : Exit → Act → World → Prop} (hgd : o.guard = none) (s x : Operand) (t tx : TypeId)
  (ho : o.op = .call { callee := .builtin .append, args := #[s, x], argTypes := #[t, tx] })
  (base : Nat) (e : TypeId) (i : TypeInfo) (z : Value) (size bytes : Nat) (ht : P.underlying t = some (.slice e)) (hi : P.info? e = some i) (hz : i.zero = some z)
  (hsize : i.size = size) (hby : i.bytes = bytes) (hzs : z.cells.size = size)
  (v : Value) (n : Nat) (xs : List Value) (hv : a.eval s = v) (hown : w.ownsRow base e size v n xs)
  (xv : Value) (m : Nat) (news : List Value) (hx : a.eval x = xv) (hs : Src P size tx xv m news w)
  (h63 : n + m ≤ maxLen) (hbytes : (n + m) * bytes ≤ 140737488355328) (hbase : base ≤ w.heap.size)
  (h : ∀ v' w', w'.ownsRow base e size v' (n + m) (xs ++ news) → w.grownBy w' v.ownBlock → (∀ g, v'.ownBlock = some g → v.ownBlock = some g ∨ g = w.heap.size) → wpList P ops Q rest (a.put o.dst v') w') : wpList P ops Q (o :: rest) a w := by
 refine wpList_plain hgd fun K hK => ?_
 obtain ⟨v', w', hr, h2, h3, h4⟩ := run_append_own_src2 (P := P) w base t tx o.type e i z size bytes ht hi hz hsize hby hzs v n xs hown xv m news hs h63 hbytes hbase
 unfold Oper.wp execOp
 simp only [ho, resolve, invoke, builtin, Sem.run_bind, Sem.run_pure, Result.andThen_ok, List.map_toArray, List.map_cons, List.map_nil, hv, hx, hr]
 exact hK _ _ (h v' w' h2 h3 h4)
end
end Go.Proofs.YtilbjeeabecfjaaGreat
namespace Go.Proofs.YtilbjeeabecfjaaGreat
open Go Go.RowKit
def Off (F : Nat → Prop) (w w' : World) : Prop := Below 0 w w' ∧ ∀ b, b < w.heap.size → ¬ F b → w'.heap[b]? = w.heap[b]?
theorem Off.refl (F : Nat → Prop) (w : World) : Off F w w := ⟨Below.refl _ _, fun _ _ _ => rfl⟩
theorem Off.size {F : Nat → Prop} {w w' : World} (h : Off F w w') : w.heap.size ≤ w'.heap.size := h.1.size
theorem Off.trans {F G : Nat → Prop} {w w1 w2 : World} (h : Off F w w1) (k : Off G w1 w2) (hG : ∀ b, b < w.heap.size → G b → F b) : Off F w w2 :=
 ⟨h.1.trans k.1, fun b hb hf => (k.2 b (Nat.lt_of_lt_of_le hb h.size) (fun hg => hf (hG b hb hg))).trans (h.2 b hb hf)⟩
theorem Off.mono {F G : Nat → Prop} {w w1 : World} (h : Off F w w1) (hG : ∀ b, b < w.heap.size → F b → G b) : Off G w w1 :=
 ⟨h.1, fun b hb hg => h.2 b hb (fun hf => hg (hG b hb hf))⟩
theorem Off.of_below {F : Nat → Prop} {w w' : World} (h : Below w.heap.size w w') : Off F w w' := ⟨h.mono (Nat.zero_le _), fun b hb _ => h.block b hb⟩
theorem Off.of_grown {F : Nat → Prop} {w w' : World} {row : Option Nat} (h : w.grownBy w' row) (hF : ∀ k, row = some k → F k) : Off F w w' :=
 ⟨⟨h.os, h.tape, h.output, h.size, fun k hk => absurd hk (Nat.not_lt_zero k)⟩, fun b hb hf => h.block b hb (fun e => hf (hF b e.symm))⟩
theorem Off.of_setCell {F : Nat → Prop} (w : World) (p : Addr) (u : Value) (hF : F p.block) : Off F w (w.setCell p u) :=
 ⟨⟨rfl, rfl, rfl, by simp [World.setCell], fun k hk => absurd hk (Nat.not_lt_zero k)⟩, fun b _ hf => Below.heap_setCell _ _ _ _ (fun e => hf (e ▸ hF))⟩
theorem Off.below {F : Nat → Prop} {w w' : World} (h : Off F w w') {n : Nat} (hn : n ≤ w.heap.size) (hF : ∀ b, b < n → ¬ F b) : Below n w w' :=
 ⟨h.1.os, h.1.tape, h.1.output, h.1.size, fun k hk => h.2 k (Nat.lt_of_lt_of_le hk hn) (hF k hk)⟩
theorem Off.drew {F : Nat → Prop} {w w' : World} (h : Off F w w') : Off F w w'.drew := ⟨h.1.drew, fun b hb hf => h.2 b hb hf⟩
theorem Off.below_r {F : Nat → Prop} {w w1 w2 : World} (h : Off F w w1) (k : Below w1.heap.size w1 w2) : Off F w w2 :=
 h.trans (Off.of_below (F := fun _ => False) k) (fun _ _ hx => hx.elim)
theorem range_at {w w' : World} {b o : Nat} {cs : List Value} (h : w.rangeAt b o cs) (hb : w'.heap[b]? = w.heap[b]?) : w'.rangeAt b o cs := fun j v hv => by
 have := h j v hv
 rw [← this]
 simp [World.cell?, hb]
theorem owns_at {w w' : World} {base : Nat} {e : TypeId} {size : Nat} {v : Value} {n : Nat} {xs : List Value} (h : w.ownsRow base e size v n xs) (hb : ∀ g, v.ownBlock = some g → w'.heap[g]? = w.heap[g]?) : w'.ownsRow base e size v n xs := by
 refine ⟨h.1, ?_⟩
 rcases h.2 with h1 | ⟨g, cap, cur, rfl, h2, h3, h4⟩
 ·exact .inl h1
 ·exact .inr ⟨g, cap, cur, rfl, h2, by rw [hb g rfl]; exact h3, h4⟩
theorem owns_lt {w : World} {base : Nat} {e : TypeId} {size : Nat} {v : Value} {n : Nat} {xs : List Value} (h : w.ownsRow base e size v n xs) {g : Nat} (hg : v.ownBlock = some g) : g < w.heap.size := by
 rcases h.2 with ⟨rfl, _⟩ | ⟨g', cap, cur, rfl, h2, h3, h4⟩
 ·simp [Value.ownBlock] at hg
 ·simp [Value.ownBlock] at hg
  subst hg
  exact (Array.getElem?_eq_some_iff.1 h3).1
open Go.RowKit
open Sha Tal
structure WrAt (w : World) (X : Nat) (v : Value) (zs : List Int) (lg : Bool) : Prop where
 lt : X < w.heap.size
 c0 : w.cell? ⟨X, 0, none⟩ = some v
 c1 : w.cell? ⟨X, 1, none⟩ = some (.bool lg)
 th : w.there X 0 2
 me : Mine w (X + 1) v zs
theorem WrAt.f0 {w : World} {X : Nat} {v : Value} {zs : List Int} {lg : Bool} (h : WrAt w X v zs lg) : w.frozen? ⟨X, 0, none⟩ = false := by
 have := (h.th 0 (by omega)).2
 simpa using this
theorem WrAt.f1 {w : World} {X : Nat} {v : Value} {zs : List Int} {lg : Bool} (h : WrAt w X v zs lg) : w.frozen? ⟨X, 1, none⟩ = false := by
 have := (h.th 1 (by omega)).2
 simpa using this
theorem Mine.far {w w' : World} {B : Nat} {v : Value} {zs : List Int} (h : Mine w B v zs) (hb : ∀ g, v.ownBlock = some g → w'.heap[g]? = w.heap[g]?) : Mine w' B v zs := ⟨owns_at h.1 hb, h.2⟩
theorem Mine.from {w : World} {B : Nat} {v : Value} {zs : List Int} (h : Mine w B v zs) (g : Nat) (hg : v.ownBlock = some g) : B ≤ g ∧ g < w.heap.size := by
 rcases h.1.2 with ⟨rfl, _⟩ | ⟨g', cap, cur, rfl, h2, h3, h4⟩
 ·simp [Value.ownBlock] at hg
 ·simp [Value.ownBlock] at hg
  subst hg
  exact ⟨h2, (Array.getElem?_eq_some_iff.1 h3).1⟩
theorem WrAt.flag {w : World} {X : Nat} {v : Value} {zs : List Int} {lg : Bool} (h : WrAt w X v zs lg) (b : Bool) : WrAt (w.setCell ⟨X, 1, none⟩ (.bool b)) X v zs b where
 lt := by simpa [World.setCell] using h.lt
 c0 := by exact (World.cell?_setCell_other (w := w) (h := (by simp)) ..).trans h.c0
 c1 := World.cell?_setCell_same (w := w) (h := h.c1) ..
 th := there_set h.th _ _
 me := h.me.far (fun g hg => Below.heap_setCell _ _ _ _ (by have := (h.me.from g hg).1; show g ≠ X; omega))
def fullB (lg : Bool) (n : Int) (zs : List Int) : Bool := lg || decide (4194304 - (zs.length : Int) < n)
set_option maxRecDepth 100000 in
set_option maxHeartbeats 2000000 in
theorem room13_any (X : Nat) (v : Value) (zs : List Int) (lg : Bool) (n : Int) (w : World) (h : WrAt w X v zs lg) (hm : zs.length ≤ 4194304) :
  Calls Tryz.prog 188 #[.pointer (some ⟨X, 0, none⟩), .int .i64 n] w fun e w' => e = .returned (.bool (!(fullB lg n zs))) ∧ w' = w.setCell ⟨X, 1, none⟩ (.bool (fullB lg n zs)) := by
 have fz := h.f1
 obtain ⟨hX, c0, c1, _, hM⟩ := h
 obtain ⟨a, cap, rfl, hc, hc', hR⟩ := hM.rowAt (by unfold maxLen; omega)
 clear hM hR
 cases lg
 ·have E : fullB false n zs = decide (4194304 - (zs.length : Int) < n) := by unfold fullB; rw [Bool.false_or]
  rw [E]; clear E
  go_enter Tryz.func188, Tryz.ntmps188
  go_wp2
  go_ret
  exact ⟨rfl, rfl⟩
 ·have E : fullB true n zs = true := by unfold fullB; rw [Bool.true_or]
  rw [E]; clear E
  go_enter Tryz.func188, Tryz.ntmps188
  go_wp2
  go_ret
  exact ⟨rfl, rfl⟩
def WrF (X : Nat) (v : Value) : Nat → Prop := fun b => b = X ∨ v.ownBlock = some b
def RowOn (w : World) (v v' : Value) : Prop := ∀ g, v'.ownBlock = some g → v.ownBlock = some g ∨ w.heap.size ≤ g
open Go.RowKit
open Sha Tal
theorem RowAt.other {w : World} {a : Option Addr} {zs : List Int} {p : Addr} {u : Value} (h : RowAt w a zs) (hne : zs = [] ∨ ∀ x, a = some x → x.block ≠ p.block) : RowAt (w.setCell p u) a zs := by
 refine ⟨h.1, h.2.1, ?_⟩
 rcases h.2.2 with h0 | ⟨b, off, rfl, h1, h2⟩
 ·exact .inl h0
 ·rcases hne with h0 | hne
  ·exact .inl h0
  ·exact .inr ⟨b, off, rfl, by simpa [World.setCell] using h1, range_at h2 (Below.heap_setCell _ _ _ _ (hne _ rfl))⟩
def wrL (zs bs : List Int) (b : Bool) : List Int := if b then zs else zs ++ bs
theorem wrL_t (zs bs : List Int) : wrL zs bs true = zs := rfl
theorem wrL_f (zs bs : List Int) : wrL zs bs false = zs ++ bs := rfl
theorem wrL_len {zs bs : List Int} {lg : Bool} (h : zs.length ≤ 4194304) : (wrL zs bs (fullB lg bs.length zs)).length ≤ 4194304 := by
 cases hf : fullB lg bs.length zs
 ·unfold fullB at hf
  rw [Bool.or_eq_false_iff] at hf
  have := of_decide_eq_false hf.2
  rw [wrL_f, List.length_append]
  omega
 ·exact h
theorem WrAt.row {w w' : World} {X : Nat} {v v' : Value} {zs zs' : List Int} {lg : Bool} (h : WrAt w X v zs lg) (hg : w.grownBy w' v.ownBlock) (hn : Mine w' (X + 1) v' zs') : WrAt (w'.setCell ⟨X, 0, none⟩ v') X v' zs' lg := by
 have hX : w'.heap[X]? = w.heap[X]? := hg.block X h.lt (fun e => by have := (h.me.from X e.symm).1; omega)
 have cc : ∀ i, w'.cell? ⟨X, i, none⟩ = w.cell? ⟨X, i, none⟩ := fun i => by simp [World.cell?, hX]
 refine ⟨by have := h.lt; have := hg.size; simp [World.setCell]; omega, World.cell?_setCell_same (h := (cc 0).trans h.c0) .., ?_, ?_, ?_⟩
 ·exact (World.cell?_setCell_other (w := w') (h := (by simp)) ..).trans ((cc 1).trans h.c1)
 ·exact there_set (fun j hj => by
   have := h.th j hj
   rw [Nat.zero_add] at this ⊢
   exact ⟨by rw [cc]; exact this.1, (World.frozen?_of_block hX).trans this.2⟩) _ _
 ·exact hn.far (fun g hg => Below.heap_setCell _ _ _ _ (by have := (hn.from g hg).1; show g ≠ X; omega))
set_option maxRecDepth 100000 in
set_option maxHeartbeats 2000000 in
theorem raw13_any (X : Nat) (v : Value) (zs : List Int) (lg : Bool) (a : Option Addr) (cap : Nat) (bs : List Int) (w : World) (h : WrAt w X v zs lg) (hr : RowAt w a bs) (hne : bs = [] ∨ ∀ x, a = some x → x.block ≠ X) (hm : zs.length ≤ 4194304) :
  Calls Tryz.prog 161 #[.pointer (some ⟨X, 0, none⟩), .slice a bs.length cap] w fun e w' => ∃ v', e = .returned (.tuple #[]) ∧ WrAt w' X v' (wrL zs bs (fullB lg bs.length zs)) (fullB lg bs.length zs) ∧ Off (WrF X v) w w' ∧ RowOn w v v' := by
 obtain ⟨i0, hi, hz0, hz1, hz2⟩ := info_parts info8
 have cr := room13_any X v zs lg bs.length w h hm
 have h1 := h.flag (fullB lg bs.length zs)
 have hO1 : Off (WrF X v) w (w.setCell ⟨X, 1, none⟩ (.bool (fullB lg bs.length zs))) := Off.of_setCell w _ _ (.inl rfl)
 have hr1 : RowAt (w.setCell ⟨X, 1, none⟩ (.bool (fullB lg bs.length zs))) a bs := hr.other hne
 have hsz : (w.setCell ⟨X, 1, none⟩ (.bool (fullB lg bs.length zs))).heap.size = w.heap.size := by simp [World.setCell]
 have hfl : fullB lg bs.length zs = false → zs.length + bs.length ≤ 4194304 := fun hf => by
  unfold fullB at hf
  rw [Bool.or_eq_false_iff] at hf
  have := of_decide_eq_false hf.2
  omega
 cases hf : fullB lg bs.length zs
 ·rw [hf] at cr h1 hO1 hr1 hsz
  simp only [Bool.not_false] at cr
  have hl := hfl hf
  clear hf hfl
  rw [wrL_f]
  have f0 := h1.f0
  have c0 := h1.c0
  obtain ⟨w1, hw1⟩ : ∃ w1, w.setCell ⟨X, 1, none⟩ (.bool false) = w1 := ⟨_, rfl⟩
  rw [hw1] at cr h1 hO1 hr1 hsz f0 c0
  go_enter Tryz.func161, Tryz.ntmps161
  go_wp2_with fail
  refine cr.mono ?_
  rintro e1 w1' ⟨rfl, rfl⟩
  go_wp2_with (at_builtin; refine wpList_append_own_src2 _ rfl _ _ 135 135 rfl (X + 1) 5 i0 (.int .u8 0) 1 1 Tryz.underlying135 hi hz0 hz1 hz2 rfl _ zs.length _ rfl h1.me.1 _ bs.length _ rfl (hr1.src cap) ?c1 ?c2 ?c3 ?_)
  case c1 => unfold maxLen; omega
  case c2 => omega
  case c3 => have := h1.lt; omega
  intro v2 w2 hown hgr hon
  have hM : Mine w2 (X + 1) v2 (zs ++ bs) := Mine.mk' _ hown (by simp) (by simp [v8]) (fun z hz => by
   rcases List.mem_append.1 hz with hz | hz
   ·exact h1.me.2 z hz
   ·exact hr.2.1 z hz)
  have h2 := h1.row hgr hM
  have hX2 : w2.heap[X]? = w1'.heap[X]? := hgr.block X h1.lt (fun e => by have := (h1.me.from X e.symm).1; omega)
  have c2 : w2.cell? ⟨X, 0, none⟩ = some v := by rw [← c0]; simp [World.cell?, hX2]
  have f2 : w2.frozen? ⟨X, 0, none⟩ = false := (World.frozen?_of_block hX2).trans f0
  have hO2 : Off (WrF X v) w (w2.setCell ⟨X, 0, none⟩ v2) := hO1.trans ((Off.of_grown (F := WrF X v) hgr (fun k hk => .inr hk)).trans (Off.of_setCell (F := WrF X v) w2 _ _ (.inl rfl)) (fun _ _ q => q)) (fun _ _ q => q)
  have hon' : RowOn w v v2 := fun g hg => (hon g hg).imp id (fun e => by omega)
  obtain ⟨a2, cap2, rfl, _, _, _⟩ := hM.rowAt (by rw [List.length_append]; unfold maxLen; omega)
  rw [List.length_append] at h2 hO2 hon'
  clear hown hgr hon hM c0 f0 cr h h1
  go_wp2_with fail
  go_end0
  exact ⟨_, rfl, h2, hO2, hon'⟩
 ·rw [hf] at cr h1 hO1 hr1 hsz
  simp only [Bool.not_true] at cr
  clear hf hfl
  rw [wrL_t]
  obtain ⟨w1, hw1⟩ : ∃ w1, w.setCell ⟨X, 1, none⟩ (.bool true) = w1 := ⟨_, rfl⟩
  rw [hw1] at cr h1 hO1
  go_enter Tryz.func161, Tryz.ntmps161
  go_wp2_with fail
  refine cr.mono ?_
  rintro e1 w1' ⟨rfl, rfl⟩
  go_wp2_with fail
  go_end0
  exact ⟨v, rfl, h1, hO1, fun g hg => .inl hg⟩
open Go.RowKit
open Sha Tal
theorem wr_trans {X : Nat} {v v1 v2 : Value} {w w1 w2 : World} (h : Off (WrF X v) w w1) (r : RowOn w v v1) (h' : Off (WrF X v1) w1 w2) (r' : RowOn w1 v1 v2) : Off (WrF X v) w w2 ∧ RowOn w v v2 := by
 refine ⟨h.trans h' (fun b hb hf => ?_), fun g hg => ?_⟩
 ·rcases hf with hf | hf
  ·exact .inl hf
  ·rcases r b hf with e | e
   ·exact .inr e
   ·omega
 ·rcases r' g hg with e | e
  ·exact r g e
  ·exact .inr (Nat.le_trans h.size e)
theorem WrAt.below {w w' : World} {X : Nat} {v : Value} {zs : List Int} {lg : Bool} (h : WrAt w X v zs lg) (hb : Below w.heap.size w w') : WrAt w' X v zs lg :=
 ⟨Nat.lt_of_lt_of_le h.lt hb.size, (hb.cell (p := ⟨X, 0, none⟩) h.lt).trans h.c0, (hb.cell (p := ⟨X, 1, none⟩) h.lt).trans h.c1, there_below h.th hb h.lt, h.me.below hb⟩
theorem Mine.fresh {w : World} {B : Nat} {a : Option Addr} {n cap : Nat} {zs : List Int} (h : Mine w B (.slice a n cap) zs) (x : Addr) (hx : a = some x) : B ≤ x.block := by
 rcases own_range h.1 with ⟨e, _⟩ | ⟨g, cap', e, hB, _⟩
 ·injection e with e1; rw [e1] at hx; cases hx
 ·injection e with e1; rw [e1] at hx; cases hx; exact hB
def wrS (s : List Int × Bool) (bs : List Int) : List Int × Bool := (wrL s.1 bs (fullB s.2 bs.length s.1), fullB s.2 bs.length s.1)
def wrN (s : List Int × Bool) (ns : List Int) : List Int × Bool := ns.foldl (fun s n => wrS s (putL n)) s
theorem wr_len {s : List Int × Bool} (bs : List Int) (h : s.1.length ≤ 4194304) : (wrS s bs).1.length ≤ 4194304 := wrL_len h
theorem wrN_len (ns : List Int) : ∀ s : List Int × Bool, s.1.length ≤ 4194304 → (wrN s ns).1.length ≤ 4194304 := by
  induction ns with
  | nil => intro s h; exact h
  | cons n r ih => intro s h; exact ih _ (wr_len _ h)
theorem wrN_take (ns : List Int) (s : List Int × Bool) (k : Nat) (hk : k < ns.length) : wrN s (ns.take (k + 1)) = wrS (wrN s (ns.take k)) (putL (ns.getD k 0)) := by
 unfold wrN
 have : ns.take (k + 1) = ns.take k ++ [ns.getD k 0] := by
  rw [List.take_add_one]; simp [List.getElem?_eq_getElem hk, List.getD_eq_getElem?_getD]
 rw [this, List.foldl_append]; rfl
set_option maxRecDepth 100000 in
set_option maxHeartbeats 2000000 in
theorem nums13_any (X : Nat) (v : Value) (s : List Int × Bool) (b off cap : Nat) (ns : List Int) (w : World) (h : WrAt w X v s.1 s.2) (hl : ns.length ≤ 1000) (hn : ∀ n ∈ ns, n ≤ 9223372036854775807) (hb : b < w.heap.size) (hr : w.rangeAt b off (ns.map (Value.int .i64))) (hne : ¬ WrF X v b) (hm : s.1.length ≤ 4194304) :
  Calls Tryz.prog 155 #[.pointer (some ⟨X, 0, none⟩), .slice (some ⟨b, off, none⟩) ns.length cap] w fun e w' => ∃ v', e = .returned (.tuple #[]) ∧ WrAt w' X v' (wrN s ns).1 (wrN s ns).2 ∧ Off (WrF X v) w w' ∧ RowOn w v v' := by
 go_enter Tryz.func155, Tryz.ntmps155
 go_wp2_with fail
 go_loopw [8] (fun iv wr' => ∃ k : Nat, k ≤ ns.length ∧ iv = .int .i64 (k : Int) ∧ Hid (∃ v', WrAt wr' X v' (wrN s (ns.take k)).1 (wrN s (ns.take k)).2 ∧ Off (WrF X v) w wr' ∧ RowOn w v v')) (fun iv _ => ns.length - (intOf iv).toNat)
 case atStart => exact ⟨0, by omega, rfl, hide ⟨v, h, Off.refl _ _, fun g hg => .inl hg⟩⟩
 case round =>
  obtain ⟨k, hk, rfl, HK⟩ := hrel
  by_cases hlt : k < ns.length
  ·have k1 : (k : Int) < ns.length := by omega
   obtain ⟨v1, hW, hO, hRo⟩ := HK.out
   clear HK
   have hrow : wr.heap[b]? = w.heap[b]? := hO.2 b hb hne
   have ck : wr.cell? ⟨b, off + k, none⟩ = some (.int .i64 (ns.getD k 0)) := by
    have := range_at hr hrow k (.int .i64 (ns.getD k 0)) (by simp [List.getElem?_eq_getElem hlt])
    exact this
   have hnk : ns.getD k 0 ≤ 9223372036854775807 := hn _ (by simp [List.getElem?_eq_getElem hlt])
   have HS := hide (wrN_take ns s k hlt)
   have hbl := putL_length (ns.getD k 0) (by omega)
   have hlen := wrN_len (ns.take k) s hm
   have cp := put_any none 0 [] (ns.getD k 0) wr (nil_row wr) (by simp) hnk
   rw [List.nil_append] at cp
   obtain ⟨n, hnn⟩ : ∃ n, Hid (ns.getD k 0 = n) := ⟨_, hide rfl⟩
   rw [hnn.out] at ck cp HS hnk hbl
   obtain ⟨bs, hbs⟩ : ∃ bs, Hid (putL n = bs) := ⟨_, hide rfl⟩
   rw [hbs.out] at cp HS hbl
   obtain ⟨t, ht⟩ : ∃ t, Hid (wrN s (ns.take k) = t) := ⟨_, hide rfl⟩
   rw [ht.out] at hW hlen HS
   clear hnn hbs ht hr hrow
   go_wp2_with fail
   refine cp.mono ?_
   rintro e1 w1 ⟨v2, rfl, hM, hB⟩
   obtain ⟨a2, cap2, rfl, _, _, hrw⟩ := hM.rowAt (by unfold maxLen; omega)
   have hMf := hM.fresh
   have hW1 := hW.below hB
   have cr := raw13_any X v1 t.1 t.2 a2 cap2 bs w1 hW1 hrw (.inr (fun x hx => by have := hMf x hx; have := hW.lt; omega)) hlen
   have hO1 := hO.below_r hB
   clear hM hMf hW1 hW hB hO cp hrw ck
   go_wp2_with fail
   refine cr.mono ?_
   rintro e2 w2 ⟨v3, rfl, hW2, hO2, hR2⟩
   have T := wr_trans hO1 hRo hO2 hR2
   clear cr hO2 hR2 hO1 hRo
   have T' := hide (And.intro hW2 T)
   clear hW2 T
   go_wp2
   go_roundw
   case rel =>
    refine ⟨k + 1, by omega, by go_num, hide ⟨v3, ?_, T'.out.2.1, T'.out.2.2⟩⟩
    rw [HS.out]
    exact T'.out.1
   case measure => simp [intOf]; omega
  ·obtain rfl : k = ns.length := by omega
   go_wp2
   go_end0
   obtain ⟨v1, hW, hO, hRo⟩ := HK.out
   rw [List.take_length] at hW
   exact ⟨v1, rfl, hW, hO, hRo⟩
open Go.RowKit
open Sha Tal
structure Vt.ok (x : Vt) : Prop where
 k : x.k ≤ 9223372036854775807
 e : x.e ≤ 9223372036854775807
 v : x.v ≤ 9223372036854775807
 s : x.s ≤ 9223372036854775807
 dl : x.d.length = 32
 db : ∀ z ∈ x.d, 0 ≤ z ∧ z < 256
theorem Vt.ok.len {x : Vt} (h : x.ok) : x.cells.length = 36 := by
 have := h.dl
 simp [Vt.cells, v8]
 omega
theorem Vt.one (x : Vt) : ∀ v ∈ x.cells, v.oneCell' = true := by
 intro v hv
 simp only [Vt.cells, List.mem_cons] at hv
 rcases hv with rfl | rfl | rfl | rfl | hv
 ·rfl
 ·rfl
 ·rfl
 ·rfl
 ·exact v8_one x.d v hv
def Vt.zero : Vt := ⟨0, 0, 0, 0, List.replicate 32 0⟩
theorem Vt.zero_ok : Vt.zero.ok := ⟨by decide, by decide, by decide, by decide, by decide, by decide⟩
structure Ms where
 k : Int
 e : Int
 l : Int
 v : Int
 s : Int
 q : Bool
 rs : Value
 vt : Vt
 ce : Int
 cl : Int
 cv : Int
 he : Value
 ne : Value
 d : List Int
 ct : Vt
 cs : Value
 st : ByteArray
 sg : Value
def Ms.cells (m : Ms) : List Value := [.int .i64 m.k, .int .i64 m.e, .int .i64 m.l, .int .i64 m.v, .int .i64 m.s, .bool m.q, m.rs] ++ (m.vt.cells ++ ([.int .i64 m.ce, .int .i64 m.cl, .int .i64 m.cv, m.he, m.ne] ++ (v8 m.d ++ (m.ct.cells ++ [m.cs, .string m.st, m.sg]))))
structure Ms.ok (m : Ms) : Prop where
 vt : m.vt.ok
 ct : m.ct.ok
 dl : m.d.length = 32
 db : ∀ z ∈ m.d, 0 ≤ z ∧ z < 256
 rs : m.rs.oneCell' = true
 he : m.he.oneCell' = true
 ne : m.ne.oneCell' = true
 cs : m.cs.oneCell' = true
 sg : m.sg.oneCell' = true
theorem Ms.ok.len {m : Ms} (h : m.ok) : m.cells.length = 119 := by
 have h1 := h.vt.len
 have h2 := h.ct.len
 have h3 := h.dl
 simp only [Ms.cells, List.length_append, List.length_cons, List.length_nil, v8_length]
 omega
theorem Ms.ok.one {m : Ms} (h : m.ok) : ∀ v ∈ m.cells, v.oneCell' = true := by
 intro v hv
 simp only [Ms.cells, List.mem_append, List.mem_cons, List.not_mem_nil, or_false] at hv
 rcases hv with (rfl | rfl | rfl | rfl | rfl | rfl | rfl) | hv | (rfl | rfl | rfl | rfl | rfl) | hv | hv | (rfl | rfl | rfl)
 all_goals first | rfl | exact h.rs | exact h.he | exact h.ne | exact h.cs | exact h.sg | exact Vt.one _ _ hv | exact v8_one _ _ hv
structure Ms.at (m : Ms) (w : World) (b : Nat) : Prop where
 k : w.cell? ⟨b, 0, none⟩ = some (.int .i64 m.k)
 e : w.cell? ⟨b, 1, none⟩ = some (.int .i64 m.e)
 l : w.cell? ⟨b, 2, none⟩ = some (.int .i64 m.l)
 v : w.cell? ⟨b, 3, none⟩ = some (.int .i64 m.v)
 s : w.cell? ⟨b, 4, none⟩ = some (.int .i64 m.s)
 q : w.cell? ⟨b, 5, none⟩ = some (.bool m.q)
 rs : w.cell? ⟨b, 6, none⟩ = some m.rs
 vt : w.rangeAt b 7 m.vt.cells
 ce : w.cell? ⟨b, 43, none⟩ = some (.int .i64 m.ce)
 cl : w.cell? ⟨b, 44, none⟩ = some (.int .i64 m.cl)
 cv : w.cell? ⟨b, 45, none⟩ = some (.int .i64 m.cv)
 he : w.cell? ⟨b, 46, none⟩ = some m.he
 ne : w.cell? ⟨b, 47, none⟩ = some m.ne
 d : w.rangeAt b 48 (v8 m.d)
 ct : w.rangeAt b 80 (m.ct.cells ++ [m.cs])
 st : w.cell? ⟨b, 117, none⟩ = some (.string m.st)
 sg : w.cell? ⟨b, 118, none⟩ = some m.sg
theorem Ms.ok.at {m : Ms} (h : m.ok) {w : World} {b : Nat} (hr : w.rangeAt b 0 m.cells) : m.at w b := by
  have h1 := h.vt.len
  have h2 := h.ct.len
  have h3 := h.dl
  have a0 := range_left hr
  have a1 := range_right hr
  have b0 := range_left a1
  have b1 := range_right a1
  have c0 := range_left b1
  have c1 := range_right b1
  have d0 := range_left c1
  have d1 := range_right c1
  have e0 := range_left d1
  have e1 := range_right d1
  simp only [List.length_cons, List.length_nil, v8_length, h1, h2, h3, Nat.zero_add, Nat.reduceAdd] at b0 c0 d0 e0 e1
  refine ⟨a0 0 _ rfl, a0 1 _ rfl, a0 2 _ rfl, a0 3 _ rfl, a0 4 _ rfl, a0 5 _ rfl, a0 6 _ rfl, b0, c0 0 _ rfl, c0 1 _ rfl, c0 2 _ rfl, c0 3 _ rfl, c0 4 _ rfl, d0, ?_, e1 1 _ rfl, e1 2 _ rfl⟩
  refine range_join e0 ?_
  rw [h2]
  intro j v hv
  match j, hv with
  | 0, hv => cases hv; exact e1 0 _ rfl
theorem Ms.box {m : Ms} (h : m.ok) (w : World) : m.at (w.alloc (.cells m.cells.toArray 109)) w.heap.size := h.at (by
 have := range_new w m.cells.toArray 109
 simpa using this)
theorem Ms.at.below {m : Ms} {w w' : World} {b : Nat} (h : m.at w b) (hb : b < w.heap.size) (hB : Below w.heap.size w w') : m.at w' b := by
 have c : ∀ i v, w.cell? ⟨b, i, none⟩ = some v → w'.cell? ⟨b, i, none⟩ = some v := fun i v hv => (hB.cell (p := ⟨b, i, none⟩) hb).trans hv
 exact ⟨c _ _ h.k, c _ _ h.e, c _ _ h.l, c _ _ h.v, c _ _ h.s, c _ _ h.q, c _ _ h.rs, range_below h.vt hB hb, c _ _ h.ce, c _ _ h.cl, c _ _ h.cv, c _ _ h.he, c _ _ h.ne, range_below h.d hB hb, range_below h.ct hB hb, c _ _ h.st, c _ _ h.sg⟩
open Go.RowKit
open Sha Tal
set_option maxRecDepth 100000 in
set_option maxHeartbeats 2000000 in
theorem wvote_any (X : Nat) (v : Value) (s : List Int × Bool) (x : Vt) (w : World) (hx : x.ok) (h : WrAt w X v s.1 s.2) (hm : s.1.length ≤ 4194304) :
  Calls Tryz.prog 157 #[.pointer (some ⟨X, 0, none⟩), .agg x.cells.toArray] w fun e w' => ∃ v', e = .returned (.tuple #[]) ∧ WrAt w' X v' (wrS (wrN s [x.k, x.e, x.v, x.s]) x.d).1 (wrS (wrN s [x.k, x.e, x.v, x.s]) x.d).2 ∧ Off (WrF X v) w w' ∧ RowOn w v v' := by
 obtain ⟨k, ep, vi, sl, d⟩ := x
 have hB1 : Below w.heap.size w (w.alloc (.cells (Vt.mk k ep vi sl d).cells.toArray 101)) := (Below.refl _ _).alloc (Nat.le_refl _) _
 have hR1 := Vt.box w ⟨k, ep, vi, sl, d⟩
 obtain ⟨c0, c1, c2, c3⟩ := Vt.four hR1
 simp only [Nat.zero_add] at c1 c2 c3
 have hd : (w.alloc (.cells (Vt.mk k ep vi sl d).cells.toArray 101)).rangeAt w.heap.size 4 (v8 d) := fun j u hj => by
  have := hR1 (4 + j) u (by rw [Nat.add_comm]; exact hj)
  rwa [Nat.zero_add] at this
 have hsz : (w.alloc (.cells (Vt.mk k ep vi sl d).cells.toArray 101)).heap.size ≥ w.heap.size + 1 := by simp
 clear hR1
 generalize (Vt.mk k ep vi sl d).cells = q at *
 show Calls Tryz.prog 157 _ w fun e w' => ∃ v', e = .returned (.tuple #[]) ∧ WrAt w' X v' (wrS (wrN s [k, ep, vi, sl]) d).1 (wrS (wrN s [k, ep, vi, sl]) d).2 ∧ Off (WrF X v) w w' ∧ RowOn w v v'
 have hl2 := wrN_len [k, ep, vi, sl] s hm
 obtain ⟨t, ht⟩ : ∃ t, Hid (wrN s [k, ep, vi, sl] = t) := ⟨_, hide rfl⟩
 rw [ht.out] at hl2 ⊢
 go_enter Tryz.func157, Tryz.ntmps157
 go_upto_region 1 with fail
 go_name_world w1 hw1
 rw [show w.alloc (.cells q.toArray 101) = w1 from hw1] at hB1 c0 c1 c2 c3 hd hsz
 clear hw1
 have hX := h.lt
 have hown := h.me.from
 have h1 := h.below hB1
 have hB2 : Below w1.heap.size w1 (w1.alloc (.cells #[.int .i64 k, .int .i64 ep, .int .i64 vi, .int .i64 sl] 3)) := (Below.refl _ _).alloc (Nat.le_refl _) _
 have hR2 : (w1.alloc (.cells #[.int .i64 k, .int .i64 ep, .int .i64 vi, .int .i64 sl] 3)).rangeAt w1.heap.size 0 ([k, ep, vi, sl].map (Value.int .i64)) := by
  have := range_new w1 #[.int .i64 k, .int .i64 ep, .int .i64 vi, .int .i64 sl] 3
  simpa using this
 have hsz2 : (w1.alloc (.cells #[.int .i64 k, .int .i64 ep, .int .i64 vi, .int .i64 sl] 3)).heap.size ≥ w1.heap.size + 1 := by simp
 have h2 := h1.below hB2
 have hd2 := range_below hd hB2 (by omega)
 have cn := nums13_any X v s w1.heap.size 0 4 [k, ep, vi, sl] _ h2 (by simp) (by
  intro n hn
  simp only [List.mem_cons, List.not_mem_nil, or_false] at hn
  rcases hn with rfl | rfl | rfl | rfl
  ·exact hx.k
  ·exact hx.e
  ·exact hx.v
  ·exact hx.s) (by omega) hR2 (fun hf => by
  rcases hf with hf | hf
  ·omega
  ·have := (hown _ hf).2; omega) hm
 have hO0 : Off (WrF X v) w (w1.alloc (.cells #[.int .i64 k, .int .i64 ep, .int .i64 vi, .int .i64 sl] 3)) := Off.of_below (hB1.trans (hB2.mono (by omega)))
 have hdl : d.length = 32 := hx.dl
 have hdb : ∀ z ∈ d, 0 ≤ z ∧ z < 256 := hx.db
 clear hR2 h1 h h2 hd hx
 simp only [List.length_cons, List.length_nil, Nat.zero_add, Nat.reduceAdd] at cn
 rw [ht.out] at cn
 clear ht
 go_wp2_with fail
 obtain ⟨w2, hw2⟩ : ∃ w2, w1.alloc (.cells #[.int .i64 k, .int .i64 ep, .int .i64 vi, .int .i64 sl] 3) = w2 := ⟨_, rfl⟩
 rw [hw2] at hd2 cn hO0 hsz2 ⊢
 clear hw2 hB1 hB2
 refine cn.mono ?_
 rintro e3 w3 ⟨v3, rfl, hW3, hO3, hr3⟩
 have hd3 : w3.rangeAt w.heap.size 4 (v8 d) := range_at hd2 (hO3.2 _ (by omega) (fun hf => by
  rcases hf with hf | hf
  ·omega
  ·have := (hown _ hf).2; omega))
 have hs3 := hO3.size
 have hrow : RowAt w3 (some ⟨w.heap.size, 4, none⟩) d := ⟨by rw [hdl]; decide, hdb, .inr ⟨_, _, rfl, by omega, hd3⟩⟩
 have cr := raw13_any X v3 t.1 t.2 (some ⟨w.heap.size, 4, none⟩) 32 d w3 hW3 hrow (.inr (fun x hx => by cases hx; show w.heap.size ≠ X; omega)) hl2
 rw [show d.length = 32 from hdl] at cr
 have E : ((fullB t.2 ((32 : Nat) : Int) t.1)) = (fullB t.2 d.length t.1) := by rw [show d.length = 32 from hdl]
 rw [E] at cr
 clear E
 have T0 := wr_trans hO0 (fun g hg => .inl hg) hO3 hr3
 clear cn hd2 hd3 hrow hO3 hr3 hO0 c0 c1 c2 c3
 go_wp2_with fail
 refine cr.mono ?_
 rintro e4 w4 ⟨v4, rfl, hW4, hO4, hr4⟩
 have T := wr_trans T0.1 T0.2 hO4 hr4
 clear cr
 go_wp2_with fail
 go_end0
 exact ⟨v4, rfl, hW4, T.1, T.2⟩
open Go.RowKit
open Sha Tal
theorem iszV : (Tryz.prog.info? 101).map (·.size) = some 36 := by kernel_rfl
theorem iszM : (Tryz.prog.info? 109).map (·.size) = some 119 := by kernel_rfl
theorem nums_new (X : Nat) (v : Value) (s : List Int × Bool) (ns : List Int) (arr : Array Value) (n : Nat) (w : World) (h : WrAt w X v s.1 s.2) (ha : arr = (ns.map (Value.int .i64)).toArray) (hc : ns.length = n) (hl : n ≤ 10) (hn : ∀ n ∈ ns, n ≤ 9223372036854775807) (hm : s.1.length ≤ 4194304) :
  Calls Tryz.prog 155 #[.pointer (some ⟨X, 0, none⟩), .slice (some ⟨w.heap.size, 0, none⟩) n n] (w.alloc (.cells arr 3)) fun e w' => ∃ v', e = .returned (.tuple #[]) ∧ WrAt w' X v' (wrN s ns).1 (wrN s ns).2 ∧ Off (WrF X v) w w' ∧ RowOn w v v' := by
 subst ha hc
 have hB : Below w.heap.size w (w.alloc (.cells (ns.map (Value.int .i64)).toArray 3)) := (Below.refl _ _).alloc (Nat.le_refl _) _
 have hR : (w.alloc (.cells (ns.map (Value.int .i64)).toArray 3)).rangeAt w.heap.size 0 (ns.map (Value.int .i64)) := by
  have := range_new w (ns.map (Value.int .i64)).toArray 3
  simpa using this
 have hX := h.lt
 have hown := h.me.from
 refine (nums13_any X v s w.heap.size 0 ns.length ns _ (h.below hB) (by omega) hn (by simp) hR (fun hf => by
  rcases hf with hf | hf
  ·omega
  ·have := (hown _ hf).2; omega) hm).mono ?_
 rintro e w' ⟨v', rfl, h1, h2, h3⟩
 have T := wr_trans (Off.of_below hB) (fun g hg => .inl hg) h2 h3
 exact ⟨v', rfl, h1, T.1, T.2⟩
theorem one_le {n : Int} (h : n ≤ 9223372036854775807) : ∀ z ∈ [n], z ≤ 9223372036854775807 := by
 intro z hz; rw [List.mem_singleton.1 hz]; exact h
theorem wr_off {X : Nat} {v : Value} {w w1 w2 : World} {zs : List Int} {lg : Bool} (h : WrAt w X v zs lg) (hs : w.heap.size < w1.heap.size) (hO : Off (WrF X v) w1 w2) : w2.heap[w.heap.size]? = w1.heap[w.heap.size]? :=
 hO.2 _ hs (fun hf => by
  rcases hf with hf | hf
  ·have := h.lt; omega
  ·have := (h.me.from _ hf).2; omega)
set_option maxRecDepth 100000 in
set_option maxHeartbeats 2000000 in
theorem wmsg2 (X : Nat) (v : Value) (s : List Int × Bool) (m : Ms) (w : World) (hm : m.ok) (hk : m.k = 2) (h : WrAt w X v s.1 s.2) (hs : s.1.length ≤ 4194304) :
  Calls Tryz.prog 134 #[.pointer (some ⟨X, 0, none⟩), .agg m.cells.toArray] w fun e w' => ∃ v', e = .returned (.tuple #[]) ∧ WrAt w' X v' (wrS (wrN (wrN s [2]) [m.vt.k, m.vt.e, m.vt.v, m.vt.s]) m.vt.d).1 (wrS (wrN (wrN s [2]) [m.vt.k, m.vt.e, m.vt.v, m.vt.s]) m.vt.d).2 ∧ Off (WrF X v) w w' ∧ RowOn w v v' := by
 have hB1 : Below w.heap.size w (w.alloc (.cells m.cells.toArray 109)) := (Below.refl _ _).alloc (Nat.le_refl _) _
 have hsz : w.heap.size < (w.alloc (.cells m.cells.toArray 109)).heap.size := by simp
 have hM := m.box hm w
 have ck := hM.k
 have rv := hM.vt
 rw [hk] at ck
 have hl1 := wrN_len [2] s hs
 have hvo := hm.vt
 have iv : (Tryz.prog.info? 101).map (·.size) = some m.vt.cells.length := by rw [hvo.len]; exact iszV
 clear hk hm hM
 generalize m.cells = q at *
 generalize m.vt = x at *
 obtain ⟨t, ht⟩ : ∃ t, Hid (wrN s [2] = t) := ⟨_, hide rfl⟩
 rw [ht.out] at hl1 ⊢
 go_enter Tryz.func134, Tryz.ntmps134
 go_upto_region 1 with fail
 go_name_world w1 hw1
 rw [show w.alloc (.cells q.toArray 109) = w1 from hw1] at hB1 ck rv hsz
 clear hw1
 have cn := nums_new X v s [2] #[.int .i64 2] 1 w1 (h.below hB1) rfl rfl (by omega) (one_le (by omega)) hs
 rw [ht.out] at cn
 clear ht
 go_wp2_with fail
 refine cn.mono ?_
 rintro e2 w2 ⟨v2, rfl, hW2, hO2, hr2⟩
 clear cn
 have hb2 := wr_off h hsz hO2
 have ck2 : w2.cell? ⟨w.heap.size, 0, none⟩ = some (.int .i64 2) := by rw [← ck]; simp [World.cell?, hb2]
 have rv2 := range_at rv hb2
 have T1 := wr_trans (Off.of_below (F := WrF X v) hB1) (fun g hg => .inl hg) hO2 hr2
 have cv := wvote_any X v2 t x w2 hvo hW2 hl1
 obtain ⟨xc, hxc⟩ : ∃ xc, Hid (x.cells = xc) := ⟨_, hide rfl⟩
 rw [hxc.out] at rv2 cv iv
 clear hxc hb2 hO2 hr2 hB1 ck rv hsz hW2
 go_wp2_with (refine wpList_load_mid rfl 101 _ rfl _ _ rfl xc _ rv2 Tryz.underlying101 rfl iv ?_)
 refine cv.mono ?_
 rintro e3 w3 ⟨v3, rfl, hW3, hO3, hr3⟩
 have T := wr_trans T1.1 T1.2 hO3 hr3
 clear cv
 go_wp2_with fail
 go_end0
 exact ⟨v3, rfl, hW3, T.1, T.2⟩
open Go.RowKit
open Sha Tal
theorem wpList_build {P : Program} {ops : Array Oper} {rest : List Oper} {o : Oper} {a : Act} {w : World} {Q : Exit → Act → World → Prop} (hgd : o.guard = none) (t : TypeId) (parts : List (Nat × Operand)) (ho : o.op = .build t parts.toArray) (vs : List (Nat × Value)) (v : Value) (hv : (parts.map fun (x : Nat × Operand) => (x.1, a.eval x.2)) = vs)
  (hr : (Instr.build t vs.toArray).run P w = .ok v w) (h : wpList P ops Q rest (a.put o.dst v) w) : wpList P ops Q (o :: rest) a w := by
 refine wpList_plain hgd fun K hK => ?_
 unfold Oper.wp execOp
 subst hv
 have e : Array.map (fun (x : Nat × Operand) => (x.1, a.eval x.2)) parts.toArray = (parts.map fun (x : Nat × Operand) => (x.1, a.eval x.2)).toArray := by simp
 simp only [ho]
 rw [show (Instr.build t (Array.map (fun x => match x with | (i, x) => (i, a.eval x)) parts.toArray)) = Instr.build t (parts.map fun (x : Nat × Operand) => (x.1, a.eval x.2)).toArray from congrArg _ e]
 simp only [Sem.run_bind, hr, Result.andThen_ok, Sem.run_pure]
 exact hK _ _ h
def Ms.plain (k e s : Int) (x : Vt) (d : List Int) : Ms := ⟨k, e, 0, 0, s, false, .slice none 0 0, x, 0, 0, 0, .slice none 0 0, .slice none 0 0, d, Vt.zero, .slice none 0 0, ⟨#[]⟩, .slice none 0 0⟩
def zeros32 : List Int := List.replicate 32 0
theorem zeros32_len : zeros32.length = 32 := by decide
theorem zeros32_byte : ∀ z ∈ zeros32, 0 ≤ z ∧ z < 256 := by decide
def Ms.zero : Ms := Ms.plain 0 0 0 Vt.zero zeros32
theorem Ms.plain_ok (k e s : Int) {x : Vt} {d : List Int} (hx : x.ok) (hd : d.length = 32) (hb : ∀ z ∈ d, 0 ≤ z ∧ z < 256) : (Ms.plain k e s x d).ok :=
 ⟨hx, Vt.zero_ok, hd, hb, rfl, rfl, rfl, rfl, rfl⟩
set_option maxRecDepth 100000 in
theorem zeroM (w : World) : (zeroValue 109).run Tryz.prog w = .ok (.agg Ms.zero.cells.toArray) w := by kernel_rfl
theorem fold_at (off : Nat) : ∀ (u : List Value) (k : Nat) (arr : Array Value), off + k + u.length ≤ arr.size → List.foldl (fun (cs : Array Value) (x : Value × Nat) => cs.setIfInBounds (off + x.snd) x.fst) arr (u.zipIdx k) = (arr.toList.take (off + k) ++ (u ++ arr.toList.drop (off + k + u.length))).toArray
  | [], k, arr, h => by simp
  | a :: u, k, arr, h => by
    simp only [List.length_cons] at h
    rw [List.zipIdx_cons, List.foldl_cons, fold_at off u (k + 1) _ (by simp; omega)]
    congr 1
    have hlt : off + k < arr.toList.length := by simp; omega
    rw [Array.toList_setIfInBounds]
    simp only [List.length_cons]
    rw [List.drop_set_of_lt (by omega), show off + (k + 1) + u.length = off + k + (u.length + 1) by omega, show off + (k + 1) = off + k + 1 by omega, List.take_succ_eq_append_getElem (by simpa using hlt), List.getElem_set_self, List.take_set_of_le (Nat.le_refl _)]
    simp
theorem fill_step {place : Nat → Option (Nat × Nat)} {i off n : Nat} {v : Value} {rest : List (Nat × Value)} {vs pre mid post : List Value} (hp : place i = some (off, n)) (hn : mid.length = n) (hpre : pre.length = off) (hv : v.cells = vs.toArray) (hl : vs.length = n) :
  Instr.fill place (pre ++ (mid ++ post)).toArray ((i, v) :: rest) = Instr.fill place (pre ++ (vs ++ post)).toArray rest := by
 subst hn hpre
 rw [Instr.fill, hp]
 simp only [hv, List.size_toArray, hl, ne_eq, not_true_eq_false, decide_false, Bool.false_or, List.length_append]
 rw [if_neg (by simp)]
 congr 1
 have := fold_at pre.length vs 0 (pre ++ (mid ++ post)).toArray (by simp; omega)
 simp only [Nat.add_zero] at this
 rw [show (vs.toArray.zipIdx.foldl (fun cs (x : Value × Nat) => cs.setIfInBounds (pre.length + x.2) x.1) (pre ++ (mid ++ post)).toArray) = List.foldl (fun (cs : Array Value) (x : Value × Nat) => cs.setIfInBounds (pre.length + x.snd) x.fst) (pre ++ (mid ++ post)).toArray (vs.zipIdx 0) by simp, this]
 congr 1
 rw [List.take_left, hl, ← List.append_assoc pre mid post, ← List.length_append, List.drop_left]
def placesM : Array (Nat × Nat) := #[(0, 1), (1, 1), (2, 1), (3, 1), (4, 1), (5, 2), (7, 36), (43, 4), (47, 1), (48, 32), (80, 37), (117, 1), (118, 1)]
set_option maxRecDepth 100000 in
theorem build_msg (parts : Array (Nat × Value)) (cs : List Value) (w : World) (h : Instr.fill (placesM[·]?) Ms.zero.cells.toArray parts.toList = some cs.toArray) : (Instr.build 109 parts).run Tryz.prog w = .ok (.agg cs.toArray) w := by
 have hp : (((Tryz.prog.fieldsOf 109).mapM fun f => do pure (f.offset, ← sizeOf f.type) : Sem (Array (Nat × Nat)))).run Tryz.prog w = .ok placesM w := by kernel_rfl
 have hu : Tryz.prog.underlying 109 = some (.struct (Tryz.prog.fieldsOf 109)) := by kernel_rfl
 unfold Instr.build
 simp only [Sem.run_bind, zeroM, Result.andThen_ok, run_underlying hu]
 rw [hp]
 simp only [Result.andThen_ok, Value.cells]
 rw [h]
 rfl
theorem build_vote (x : Vt) (hx : x.ok) (w : World) : (Instr.build 109 #[(0, .int .i64 2), (6, .agg x.cells.toArray)]).run Tryz.prog w = .ok (.agg (Ms.plain 2 0 0 x zeros32).cells.toArray) w := by
 refine build_msg _ _ w ?_
 show Instr.fill (placesM[·]?) (([] : List Value) ++ ([Value.int .i64 0] ++ _)).toArray _ = _
 rw [fill_step (off := 0) (n := 1) (vs := [.int .i64 2]) rfl rfl rfl rfl rfl]
 show Instr.fill (placesM[·]?) ([Value.int .i64 2, .int .i64 0, .int .i64 0, .int .i64 0, .int .i64 0, .bool false, .slice none 0 0] ++ (Vt.zero.cells ++ _)).toArray _ = _
 rw [fill_step (off := 7) (n := 36) (vs := x.cells) rfl Vt.zero_ok.len rfl rfl hx.len]
 rfl
theorem build_kind (k : Int) (w : World) : (Instr.build 109 #[(0, .int .i64 k)]).run Tryz.prog w = .ok (.agg (Ms.plain k 0 0 Vt.zero zeros32).cells.toArray) w := by
 refine build_msg _ _ w ?_
 show Instr.fill (placesM[·]?) (([] : List Value) ++ ([Value.int .i64 0] ++ _)).toArray _ = _
 rw [fill_step (off := 0) (n := 1) (vs := [.int .i64 k]) rfl rfl rfl rfl rfl]
 rfl
open Go Go.RowKit
section
variable {P : Program} {ops : Array Oper} {Q : Exit → Act → World → Prop}
def StepS (P : Program) (ops : Array Oper) (Q : Exit → Act → World → Prop) (S : World → Prop) (fuel : Nat) (listed : Array Bool) (i : Nat) (a : Act) (w : World) : Prop :=
 wpOp P ops (NoPanic Q) i (fun a' w' => S w' ∧ wpAnyH P .any ops (NoPanic Q) S fuel (listed.setIfInBounds i true) a' w') a w
theorem st_run {i : Nat} {S : World → Prop} {oi : Oper} {d : Option Nat} {v : Value} {fuel : Nat} {listed : Array Bool} {a : Act} {w w' : World} (hi : ops[i]? = some oi)
  (hw : Region.wanted oi (yielded ops a.tmps) = true) (hy : (execOp a.eval oi).run P w = .ok (.value v) w') (hdst : oi.dst = d)
  (hS : S w') (h : HeldS P ops Q S fuel (listed.setIfInBounds i true) (a.put d v) w') : StepS P ops Q S fuel listed i a w := by
 subst hdst
 unfold StepS wpOp
 simp only [hi, hw, if_true]
 left
 unfold Oper.wp
 rw [hy]
 exact ⟨hS, h⟩
end
end Go.Proofs.YtilbjeeabecfjaaGreat
namespace Go.Proofs.YtilbjeeabecfjaaGreat
open Go.RowKit
open Sha Tal
theorem range_put {w : World} {b : Nat} {pre mid post vs : List Value} (h : w.rangeAt b 0 (pre ++ (mid ++ post))) (o : Nat) (ho : pre.length = o) (ht : w.there b o vs.length) (hl : vs.length = mid.length) : (w.setCells b o vs).rangeAt b 0 (pre ++ (vs ++ post)) := by
 subst ho
 have h1 := range_left h
 have h2 := range_right (range_right h)
 rw [Nat.zero_add] at h2
 refine range_join (World.rangeAt_setCells_apart h1 _ _ _ (.inr (.inl (by omega)))) (range_join ?_ ?_)
 ·rw [Nat.zero_add]; exact World.rangeAt_setCells_same _ _ _ _ ht
 ·rw [Nat.zero_add, hl]; exact World.rangeAt_setCells_apart h2 _ _ _ (.inr (.inr (by omega)))
def BareOk (w : World) (q : List Value) : Ending → World → Prop := fun e w' => e = .returned (.agg q.toArray) ∧ Below w.heap.size w w'
theorem bare_box (q z : List Value) (w : World) (hz : z.length = 119) : ((w.alloc (.cells q.toArray 109)).alloc (.cells z.toArray 109)).rangeAt w.heap.size 0 q ∧ ((w.alloc (.cells q.toArray 109)).alloc (.cells z.toArray 109)).there (w.heap.size + 1) 0 119 ∧ Below w.heap.size w ((w.alloc (.cells q.toArray 109)).alloc (.cells z.toArray 109)) ∧ w.heap.size + 2 ≤ ((w.alloc (.cells q.toArray 109)).alloc (.cells z.toArray 109)).heap.size := by
 have hB : Below w.heap.size w (w.alloc (.cells q.toArray 109)) := (Below.refl _ _).alloc (Nat.le_refl _) _
 have hB2 : Below (w.alloc (.cells q.toArray 109)).heap.size (w.alloc (.cells q.toArray 109)) ((w.alloc (.cells q.toArray 109)).alloc (.cells z.toArray 109)) := (Below.refl _ _).alloc (Nat.le_refl _) _
 have h1 := range_new w q.toArray 109
 have h2 := there_new (w.alloc (.cells q.toArray 109)) z.toArray 109
 rw [show z.toArray.size = 119 by simpa using hz, World.size_alloc] at h2
 refine ⟨range_below (by simpa using h1) hB2 (by simp), h2, hB.trans (hB2.mono (by simp)), by simp⟩
set_option maxRecDepth 100000 in
set_option maxHeartbeats 2000000 in
theorem bare2 (x : Vt) (hx : x.ok) (w : World) : Calls Tryz.prog 153 #[.agg (Ms.plain 2 0 0 x zeros32).cells.toArray] w (BareOk w (Ms.plain 2 0 0 x zeros32).cells) := by
 have hm : (Ms.plain 2 0 0 x zeros32).ok := Ms.plain_ok 2 0 0 hx zeros32_len zeros32_byte
 have hk : (Ms.plain 2 0 0 Vt.zero zeros32).ok := Ms.plain_ok 2 0 0 Vt.zero_ok zeros32_len zeros32_byte
 have hz0 : Ms.zero.ok := Ms.plain_ok 0 0 0 Vt.zero_ok zeros32_len zeros32_byte
 have lm := hm.len
 have lk := hk.len
 have lz := hz0.len
 have lx := hx.len
 have om := all_oneCell_toArray hm.one
 have ok := all_oneCell_toArray hk.one
 have ox := all_oneCell_toArray x.one
 have hz := zeroM
 have hbk := build_kind 2
 have hat : ∀ (w' : World) b, w'.rangeAt b 0 (Ms.plain 2 0 0 x zeros32).cells → w'.cell? ⟨b, 0, none⟩ = some (.int .i64 2) ∧ w'.rangeAt b 7 x.cells := fun w' b h => ⟨(hm.at h).k, (hm.at h).vt⟩
 have hput : ∀ (w' : World) b, w'.rangeAt b 0 (Ms.plain 2 0 0 Vt.zero zeros32).cells → w'.there b 7 36 → (w'.setCells b 7 x.cells).rangeAt b 0 (Ms.plain 2 0 0 x zeros32).cells := fun w' b h ht => range_put (mid := Vt.zero.cells) h 7 rfl (by rw [lx]; exact ht) (by rw [lx, Vt.zero_ok.len])
 have im : (Tryz.prog.info? 109).map (·.size) = some (Ms.plain 2 0 0 x zeros32).cells.length := by rw [lm]; exact iszM
 have im' : (Tryz.prog.info? 109).map (·.size) = some (Ms.plain 2 0 0 x zeros32).cells.toArray.size := by rw [List.size_toArray, lm]; exact iszM
 have ik' : (Tryz.prog.info? 109).map (·.size) = some (Ms.plain 2 0 0 Vt.zero zeros32).cells.toArray.size := by rw [List.size_toArray, lk]; exact iszM
 have ix : (Tryz.prog.info? 101).map (·.size) = some x.cells.length := by rw [lx]; exact iszV
 have ix' : (Tryz.prog.info? 101).map (·.size) = some x.cells.toArray.size := by rw [List.size_toArray, lx]; exact iszV
 clear hm hk hz0 hx
 generalize (Ms.plain 2 0 0 x zeros32).cells = q at *
 generalize (Ms.plain 2 0 0 Vt.zero zeros32).cells = qk at *
 generalize Ms.zero.cells = z at *
 generalize x.cells = u at *
 obtain ⟨hA, hT, hB, hs⟩ := bare_box q z w lz
 go_enter Tryz.func153, Tryz.ntmps153
 go_upto_region 1 with fail
 go_name_world w1 hw1
 rw [show (w.alloc (.cells q.toArray 109)).alloc (.cells z.toArray 109) = w1 from hw1] at hA hT hB hs
 clear hw1
 have c0 := (hat _ _ hA).1
 obtain ⟨r2, hB2, hs2, hT2⟩ := fresh_store w1 z.toArray 109 qk (by rw [List.size_toArray, lz, lk])
 rw [show z.toArray.size = 119 by simpa using lz] at hT2
 have hTz : (w1.alloc (.cells z.toArray 109)).there w1.heap.size 0 qk.toArray.size := by
  have := there_new w1 z.toArray 109
  rw [show z.toArray.size = 119 by simpa using lz] at this
  rw [show qk.toArray.size = 119 by simpa using lk]
  exact this
 go_upto_region 2 with (first | (refine wpList_build rfl 109 [(0, .tmp 5)] rfl [(0, .int .i64 2)] _ rfl (hbk _) ?_) | refine wpList_store_mid rfl 109 _ _ rfl _ _ qk.toArray rfl rfl hTz ik' ok ?_)
 go_name_world w2 hw2
 rw [show (w1.alloc (.cells z.toArray 109)).setCells w1.heap.size 0 qk = w2 from hw2] at r2 hB2 hs2 hT2
 have hs2' : w1.heap.size < w2.heap.size := by omega
 clear hw2 hs2 hTz
 have hA2 := range_below hA hB2 (by omega)
 have hT1 := there_below hT hB2 (by omega)
 have hBw := hB.trans (hB2.mono (by omega))
 obtain ⟨c2, v2⟩ := hat _ _ hA2
 have hTv : w2.there w1.heap.size 7 u.toArray.size := by
  rw [show u.toArray.size = 36 by simpa using lx]
  have := there_part hT2 7 36 (by omega)
  rwa [Nat.zero_add] at this
 have r3 := hput _ _ r2 (by have := there_part hT2 7 36 (by omega); rwa [Nat.zero_add] at this)
 have hT3 : (w2.setCells w1.heap.size 7 u).there (w.heap.size + 1) 0 q.toArray.size := by
  rw [show q.toArray.size = 119 by simpa using lm]
  exact World.there_setCells hT1 _ _ _
 have hB3 := below_sets (show w.heap.size ≤ w1.heap.size by omega) u 7 _ hBw
 clear hA hT hB hB2 hA2 hT1 hBw c0 r2 hT2
 go_upto_region 20 with (first | (refine wpList_load_mid rfl 101 _ rfl _ _ rfl u _ v2 Tryz.underlying101 rfl ix ?_) | (refine wpList_store_mid rfl 101 _ _ rfl _ _ u.toArray rfl rfl hTv ix' ox ?_))
 go_name_world w3 hw3
 rw [show w2.setCells w1.heap.size 7 u = w3 from hw3] at r3 hT3 hB3
 clear hw3 hTv v2 c2
 have r4 := World.rangeAt_setCells_same w3 (w.heap.size + 1) 0 q (by have := hT3; rwa [List.size_toArray] at this)
 have hB4 := below_sets (show w.heap.size ≤ w.heap.size + 1 by omega) q 0 _ hB3
 have hrs := run_loadVar_mid (P := Tryz.prog) _ (w.heap.size + 1) 0 109 q _ r4 Tryz.underlying109 rfl im
 go_wp2_with (first | (refine wpList_load_mid rfl 109 _ rfl _ _ rfl q _ r3 Tryz.underlying109 rfl im ?_) | (refine wpList_store_mid rfl 109 _ _ rfl _ _ q.toArray rfl rfl hT3 im' om ?_))
 exact bodyPost_ret (v := .agg q.toArray) (by simp [results, Tryz.results153, asAddr, hrs, Act.put]) rfl ⟨rfl, hB4⟩
open Go.RowKit
open Sha Tal
theorem exec_loadC {P : Program} {o : Oper} {a : Act} {w : World} {ty : TypeId} {x : Operand} {b off : Nat} {v : Value} (ho : o.op = .load ty x) (hx : a.eval x = .pointer (some ⟨b, off, none⟩)) (hr : (loadVar ty ⟨b, off, none⟩).run P w = .ok v w) : (execOp a.eval o).run P w = .ok (.value v) w := by
 unfold execOp
 simp only [ho, hx, Instr.loadAt, Instr.sureAddr, Sem.run_bind, Sem.run_pure, Result.andThen_ok, hr]
theorem iszI : (Tryz.prog.info? 3).map (·.size) = some 1 := by kernel_rfl
theorem iszD : (Tryz.prog.info? 99).map (·.size) = some 32 := by kernel_rfl
open Go.RowKit
open Sha
theorem all_range : ∀ (xs ys : List Int), xs.length = ys.length → ((List.range xs.length).all fun i => xs.getD i 0 == ys.getD i 0) = (xs == ys)
  | [], [], _ => rfl
  | x :: xs, y :: ys, h => by
    have ih := all_range xs ys (by simpa using h)
    rw [List.length_cons, List.range_succ_eq_map, List.all_cons, List.all_map]
    simp only [List.getD_cons_zero, Function.comp_def, List.getD_cons_succ, ih]
    simp [List.cons_beq_cons]
  | [], _ :: _, h => by simp at h
  | _ :: _, [], h => by simp at h
theorem run_equal8 {P : Program} (w : World) (d : Nat) (t e : TypeId) (n : Nat) (ht : P.underlying t = some (.array n e)) (he : P.underlying e = some (.int .u8)) (hsz : (P.info? e).map (·.size) = some 1)
    (xs ys : List Int) (hx : xs.length = n) (hy : ys.length = n) :
    (Op.equalIn (d + 2) t (.agg (v8 xs).toArray) (.agg (v8 ys).toArray)).run P w = .ok (xs == ys) w := by
  rw [← all_range xs ys (hx.trans hy.symm), hx, List.range_eq_range', Op.equalIn]
  simp only [Sem.run_bind, run_underlying ht, Result.andThen_ok, run_size hsz, Std.Legacy.Range.forIn_eq_forIn_range', Std.Legacy.Range.size, Nat.sub_zero, Nat.add_sub_cancel, Nat.div_one]
  have hl : ∀ i ∈ List.range' 0 n 1, i < n := fun i hi => by simpa using (List.mem_range'_1.1 hi).2
  generalize List.range' 0 n 1 = l at hl ⊢
  induction l with
  | nil => simp
  | cons i l ih =>
    have hi : i < n := hl i (by simp)
    have px : (part e (v8 xs).toArray (i * 1)).run P w = .ok (.int .u8 (xs.getD i 0)) w := by
      simp [part, isAgg, run_underlying he, v8, List.getElem?_eq_getElem (show i < xs.length by omega)]
    have py : (part e (v8 ys).toArray (i * 1)).run P w = .ok (.int .u8 (ys.getD i 0)) w := by
      simp [part, isAgg, run_underlying he, v8, List.getElem?_eq_getElem (show i < ys.length by omega)]
    have pe : (Op.equalIn (d + 1) e (.int .u8 (xs.getD i 0)) (.int .u8 (ys.getD i 0))).run P w = .ok (xs.getD i 0 == ys.getD i 0) w := run_equalIn_int w d e .u8 .u8 _ _ he
    simp only [List.forIn_cons, Sem.run_bind, px, py, pe, Result.andThen_ok, List.all_cons]
    cases hb : (xs.getD i 0 == ys.getD i 0)
    · simp
    · simp only [Bool.not_true, Bool.false_eq_true, if_false, Sem.run_pure, Result.andThen_ok, Bool.true_and]
      exact ih fun j hj => hl j (by simp [hj])
end Go.Proofs.YtilbjeeabecfjaaGreat
