/- PLAIN MATHEMATICS OF SHA-256: words of 32 bits, a block's rounds, bytes that wait, the last bytes. Imports nothing of the translation. -/
namespace Go.Proofs.YtogmkcabndgllaaDoor
namespace Sha
abbrev Wd := BitVec 32
def rotr (x : Wd) (n : Nat) : Wd := (x >>> n) ||| (x <<< (32 - n))
def s0 (x : Wd) : Wd := rotr x 7 ^^^ rotr x 18 ^^^ (x >>> 3)
def s1 (x : Wd) : Wd := rotr x 17 ^^^ rotr x 19 ^^^ (x >>> 10)
def S1 (e : Wd) : Wd := rotr e 6 ^^^ rotr e 11 ^^^ rotr e 25
def S0 (a : Wd) : Wd := rotr a 2 ^^^ rotr a 13 ^^^ rotr a 22
def ch (e f g : Wd) : Wd := (e &&& f) ^^^ (~~~e &&& g)
def maj (a b c : Wd) : Wd := (a &&& b) ^^^ (a &&& c) ^^^ (b &&& c)
structure St where
  a : Wd
  b : Wd
  c : Wd
  d : Wd
  e : Wd
  f : Wd
  g : Wd
  h : Wd
def t1 (k w : Wd) (s : St) : Wd := s.h + S1 s.e + ch s.e s.f s.g + k + w
def t2 (s : St) : Wd := S0 s.a + maj s.a s.b s.c
def round (k w : Wd) (s : St) : St := ⟨t1 k w s + t2 s, s.a, s.b, s.c, s.d + t1 k w s, s.e, s.f, s.g⟩
def ks : List Nat := [
  0x428a2f98, 0x71374491, 0xb5c0fbcf, 0xe9b5dba5, 0x3956c25b, 0x59f111f1, 0x923f82a4, 0xab1c5ed5,
  0xd807aa98, 0x12835b01, 0x243185be, 0x550c7dc3, 0x72be5d74, 0x80deb1fe, 0x9bdc06a7, 0xc19bf174,
  0xe49b69c1, 0xefbe4786, 0x0fc19dc6, 0x240ca1cc, 0x2de92c6f, 0x4a7484aa, 0x5cb0a9dc, 0x76f988da,
  0x983e5152, 0xa831c66d, 0xb00327c8, 0xbf597fc7, 0xc6e00bf3, 0xd5a79147, 0x06ca6351, 0x14292967,
  0x27b70a85, 0x2e1b2138, 0x4d2c6dfc, 0x53380d13, 0x650a7354, 0x766a0abb, 0x81c2c92e, 0x92722c85,
  0xa2bfe8a1, 0xa81a664b, 0xc24b8b70, 0xc76c51a3, 0xd192e819, 0xd6990624, 0xf40e3585, 0x106aa070,
  0x19a4c116, 0x1e376c08, 0x2748774c, 0x34b0bcb5, 0x391c0cb3, 0x4ed8aa4a, 0x5b9cca4f, 0x682e6ff3,
  0x748f82ee, 0x78a5636f, 0x84c87814, 0x8cc70208, 0x90befffa, 0xa4506ceb, 0xbef9a3f7, 0xc67178f2]
def k (t : Nat) : Wd := BitVec.ofNat 32 (ks.getD t 0)
def init : St := ⟨0x6a09e667#32, 0xbb67ae85#32, 0x3c6ef372#32, 0xa54ff53a#32, 0x510e527f#32, 0x9b05688c#32, 0x1f83d9ab#32, 0x5be0cd19#32⟩
/-- the words of all rounds, one more -/
def nxt (ws : List Wd) : Wd := ws.getD (ws.length - 16) 0 + s0 (ws.getD (ws.length - 15) 0) + ws.getD (ws.length - 7) 0 + s1 (ws.getD (ws.length - 2) 0)
def ext (ws : List Wd) : List Wd := ws ++ [nxt ws]
def exts : Nat → List Wd → List Wd
  | 0, ws => ws
  | n + 1, ws => ext (exts n ws)
def word (a b c d : Int) : Wd := BitVec.ofInt 32 (a * 16777216 + b * 65536 + c * 256 + d)
def wordAt (bs : List Int) (t : Nat) : Wd := word (bs.getD (4 * t) 0) (bs.getD (4 * t + 1) 0) (bs.getD (4 * t + 2) 0) (bs.getD (4 * t + 3) 0)
def words (bs : List Int) (n : Nat) : List Wd := (List.range n).map (wordAt bs)
def spread (bs : List Int) : List Wd := exts 48 (words bs 16)
def rounds (ws : List Wd) : Nat → St → St
  | 0, s => s
  | t + 1, s => round (k t) (ws.getD t 0) (rounds ws t s)
def plus (s r : St) : St := ⟨s.a + r.a, s.b + r.b, s.c + r.c, s.d + r.d, s.e + r.e, s.f + r.f, s.g + r.g, s.h + r.h⟩
def block (s : St) (bs : List Int) : St := plus s (rounds (spread bs) 64 s)
/-- one byte more: the words so far, the bytes that wait -/
def feed (p : St × List Int) (c : Int) : St × List Int := if p.2.length = 63 then (block p.1 (p.2 ++ [c]), []) else (p.1, p.2 ++ [c])
def feeds (p : St × List Int) (zs : List Int) : St × List Int := zs.foldl feed p
def size8 (n : Nat) : List Int := (List.range 8).map fun i => ((n / 2 ^ (56 - 8 * i) % 256 : Nat) : Int)
def tail (n : Nat) : List Int := (128 : Int) :: (List.replicate ((119 - n % 64) % 64) 0 ++ size8 (8 * n))
def list (s : St) : List Wd := [s.a, s.b, s.c, s.d, s.e, s.f, s.g, s.h]
def byteOf (x : Wd) (i : Nat) : Int := ((x.toNat / 2 ^ (24 - 8 * i) % 256 : Nat) : Int)
def bytes (s : St) : List Int := (List.range 32).map fun i => byteOf ((list s).getD (i / 4) 0) (i % 4)
def sha (zs : List Int) : List Int := bytes (feeds (init, []) (zs ++ tail zs.length)).1
theorem abc : sha [97, 98, 99] = [0xba, 0x78, 0x16, 0xbf, 0x8f, 0x01, 0xcf, 0xea, 0x41, 0x41, 0x40, 0xde, 0x5d, 0xae, 0x22, 0x23, 0xb0, 0x03, 0x61, 0xa3, 0x96, 0x17, 0x7a, 0x9c, 0xb4, 0x10, 0xff, 0x61, 0xf2, 0x00, 0x15, 0xad] := by decide +kernel
end Sha
end Go.Proofs.YtogmkcabndgllaaDoor
