/- PLAIN MATHEMATICS OF SHA-256: words of 32 bits, a block's rounds, bytes that wait, the last bytes. Imports nothing of the translation.; Words of 32 bits as the  -/
import Derived.Test.YtcbpbkefggekmaaGreatDoorRows
import Derived.WalkKit
import Derived.WalkSpells
import Derived.RegionTactic
import Derived.ChangeAlike
import Derived.BigRegion
import Derived.Outline
import Derived.Deep.MidRow
import Derived.Below
import Derived.Deep.Cut
import Derived.Deep.QuietTactic
import Derived.BigQuiet
import Derived.Lib.ItoaWalk
import Derived.Deep.RegionHeld3
import Derived.Laws.IdiomCopy
import Derived.Deep.AppendSrc
import Derived.OwnWalk
import Derived.WalkLawsBesides
import Derived.Lib.SlBytesConst
import Derived.SliceStrings
import Derived.Lib.BitFns
import Derived.Lib.Small
import Derived.Lib.Walk
set_option maxHeartbeats 4000000
set_option maxRecDepth 100000
open Go.Proofs.Tryz
namespace Go.Proofs.YtcbpbkefggekmaaGreatDoor
namespace Sha
abbrev Wd:=BitVec 32
def rotr (x:Wd) (n:Nat):Wd:=(x>>>n)|||(x<<<(32 - n))
def s0 (x:Wd):Wd:=rotr x 7^^^rotr x 18^^^(x>>>3)
def s1 (x:Wd):Wd:=rotr x 17^^^rotr x 19^^^(x>>>10)
def S1 (e:Wd):Wd:=rotr e 6^^^rotr e 11^^^rotr e 25
def S0 (a:Wd):Wd:=rotr a 2^^^rotr a 13^^^rotr a 22
def ch (e f g:Wd):Wd:=(e&&&f)^^^(~~~e&&&g)
def maj (a b c:Wd):Wd:=(a&&&b)^^^(a&&&c)^^^(b&&&c)
structure St where
 a:Wd
 b:Wd
 c:Wd
 d:Wd
 e:Wd
 f:Wd
 g:Wd
 h:Wd
def t1 (k w:Wd) (s:St):Wd:=s.h+S1 s.e+ch s.e s.f s.g+k+w
def t2 (s:St):Wd:=S0 s.a+maj s.a s.b s.c
def round (k w:Wd) (s:St):St:=⟨t1 k w s+t2 s,s.a,s.b,s.c,s.d+t1 k w s,s.e,s.f,s.g⟩
def ks:List Nat:=[
 0x428a2f98,0x71374491,0xb5c0fbcf,0xe9b5dba5,0x3956c25b,0x59f111f1,0x923f82a4,0xab1c5ed5,
 0xd807aa98,0x12835b01,0x243185be,0x550c7dc3,0x72be5d74,0x80deb1fe,0x9bdc06a7,0xc19bf174,
 0xe49b69c1,0xefbe4786,0x0fc19dc6,0x240ca1cc,0x2de92c6f,0x4a7484aa,0x5cb0a9dc,0x76f988da,
 0x983e5152,0xa831c66d,0xb00327c8,0xbf597fc7,0xc6e00bf3,0xd5a79147,0x06ca6351,0x14292967,
 0x27b70a85,0x2e1b2138,0x4d2c6dfc,0x53380d13,0x650a7354,0x766a0abb,0x81c2c92e,0x92722c85,
 0xa2bfe8a1,0xa81a664b,0xc24b8b70,0xc76c51a3,0xd192e819,0xd6990624,0xf40e3585,0x106aa070,
 0x19a4c116,0x1e376c08,0x2748774c,0x34b0bcb5,0x391c0cb3,0x4ed8aa4a,0x5b9cca4f,0x682e6ff3,
 0x748f82ee,0x78a5636f,0x84c87814,0x8cc70208,0x90befffa,0xa4506ceb,0xbef9a3f7,0xc67178f2]
def k (t:Nat):Wd:=BitVec.ofNat 32 (ks.getD t 0)
def init:St:=⟨0x6a09e667#32,0xbb67ae85#32,0x3c6ef372#32,0xa54ff53a#32,0x510e527f#32,0x9b05688c#32,0x1f83d9ab#32,0x5be0cd19#32⟩
def nxt (ws:List Wd):Wd:=ws.getD (ws.length - 16) 0+s0 (ws.getD (ws.length - 15) 0)+ws.getD (ws.length - 7) 0+s1 (ws.getD (ws.length - 2) 0)
def ext (ws:List Wd):List Wd:=ws++[nxt ws]
def exts:Nat→List Wd→List Wd
  |0,ws=>ws
  |n+1,ws=>ext (exts n ws)
def word (a b c d:Int):Wd:=BitVec.ofInt 32 (a*16777216+b*65536+c*256+d)
def wordAt (bs:List Int) (t:Nat):Wd:=word (bs.getD (4*t) 0) (bs.getD (4*t+1) 0) (bs.getD (4*t+2) 0) (bs.getD (4*t+3) 0)
def words (bs:List Int) (n:Nat):List Wd:=(List.range n).map (wordAt bs)
def spread (bs:List Int):List Wd:=exts 48 (words bs 16)
def rounds (ws:List Wd):Nat→St→St
  |0,s=>s
  |t+1,s=>round (k t) (ws.getD t 0) (rounds ws t s)
def plus (s r:St):St:=⟨s.a+r.a,s.b+r.b,s.c+r.c,s.d+r.d,s.e+r.e,s.f+r.f,s.g+r.g,s.h+r.h⟩
def block (s:St) (bs:List Int):St:=plus s (rounds (spread bs) 64 s)
def feed (p:St ×List Int) (c:Int):St ×List Int:=if p.2.length=63 then(block p.1 (p.2++[c]),[])else(p.1,p.2++[c])
def feeds (p:St ×List Int) (zs:List Int):St ×List Int:=zs.foldl feed p
def size8 (n:Nat):List Int:=(List.range 8).map fun i=>((n / 2^(56 - 8*i)%256:Nat):Int)
def tail (n:Nat):List Int:=(128:Int)::(List.replicate ((119 - n%64)%64) 0++size8 (8*n))
def list (s:St):List Wd:=[s.a,s.b,s.c,s.d,s.e,s.f,s.g,s.h]
def byteOf (x:Wd) (i:Nat):Int:=((x.toNat / 2^(24 - 8*i)%256:Nat):Int)
def bytes (s:St):List Int:=(List.range 32).map fun i=>byteOf ((list s).getD (i / 4) 0) (i%4)
def sha (zs:List Int):List Int:=bytes (feeds (init,[]) (zs++tail zs.length)).1
end Sha
open Go.RowKit
namespace Sha
theorem zb3 (n:Nat) (h:n<4294967296):IntKind.u32.wrap (n:Int)=n:=by
 rw[IntKind.wrap_u32];omega
theorem ofInt32 (x:Wd):BitVec.ofInt 32 (x.toNat:Int)=x:=by
 rw[BitVec.ofInt_natCast];simp
theorem xor32 (x y:Wd):bits .xor .u32 (x.toNat:Int) (y.toNat:Int)=((x^^^y).toNat:Int):=by
 show IntKind.u32.wrap ((BitVec.ofInt 32 (x.toNat:Int)^^^BitVec.ofInt 32 (y.toNat:Int)).toNat:Int)=_
 rw[ofInt32,ofInt32,zb3 _ (BitVec.isLt _)]
theorem and32 (x y:Wd):bits .and .u32 (x.toNat:Int) (y.toNat:Int)=((x&&&y).toNat:Int):=by
 show IntKind.u32.wrap ((BitVec.ofInt 32 (x.toNat:Int)&&&BitVec.ofInt 32 (y.toNat:Int)).toNat:Int)=_
 rw[ofInt32,ofInt32,zb3 _ (BitVec.isLt _)]
theorem or32 (x y:Wd):bits .or .u32 (x.toNat:Int) (y.toNat:Int)=((x|||y).toNat:Int):=by
 show IntKind.u32.wrap ((BitVec.ofInt 32 (x.toNat:Int)|||BitVec.ofInt 32 (y.toNat:Int)).toNat:Int)=_
 rw[ofInt32,ofInt32,zb3 _ (BitVec.isLt _)]
theorem add32 (x y:Wd):((x.toNat:Int)+(y.toNat:Int))%4294967296=((x+y).toNat:Int):=by
 rw[BitVec.toNat_add];omega
theorem shr32 (x:Wd) (n:Nat):(x.toNat:Int) / ((2^n:Nat):Int)=((x>>>n).toNat:Int):=by
 rw[BitVec.toNat_ushiftRight,Nat.shiftRight_eq_div_pow];omega
theorem shl32 (x:Wd) (n:Nat):(x.toNat:Int)*((2^n:Nat):Int)%4294967296=((x<<<n).toNat:Int):=by
 rw[BitVec.toNat_shiftLeft,Nat.shiftLeft_eq]
 have:(x.toNat:Int)*((2^n:Nat):Int)=((x.toNat*2^n:Nat):Int):=by simp
 rw[this];omega
theorem rot32 (x:Wd) (n:Nat) (hn:n≤32) (s:Int) (hs:s=32 - (n:Int)):bits .or .u32 ((x.toNat:Int)*2^s.toNat%4294967296) ((x.toNat:Int) / 2^(32 - s).toNat)=((rotr x n).toNat:Int):=by
 subst hs
 have e1:(32 - (n:Int)).toNat=32 - n:=by omega
 have e2:(32 - (32 - (n:Int))).toNat=n:=by omega
 rw[e1,e2]
 have h1:=shl32 x (32 - n)
 have h2:=shr32 x n
 have p1:((2:Int)^(32 - n))=((2^(32 - n):Nat):Int):=by simp
 have p2:((2:Int)^n)=((2^n:Nat):Int):=by simp
 rw[p1,p2,h1,h2,or32,rotr,BitVec.or_comm]
theorem zdn (a c:Nat) (n:Nat) (h:c<2^n):a*2^n|||c=a*2^n+c:=by
 have:=Nat.shiftLeft_add_eq_or_of_lt (b:=c) (i:=n) h a
 rw[Nat.shiftLeft_eq]at this;exact this.symm
theorem ziK (a b c d:Int) (ha:0≤a∧a<256) (hb:0≤b∧b<256) (hc:0≤c∧c<256) (hd:0≤d∧d<256):
   bits .or .u32 (bits .or .u32 (bits .or .u32 (a*16777216) (b*65536)) (c*256)) d=((word a b c d).toNat:Int):=by
  obtain⟨a,rfl⟩:=Int.eq_ofNat_of_zero_le ha.1
  obtain⟨b,rfl⟩:=Int.eq_ofNat_of_zero_le hb.1
  obtain⟨c,rfl⟩:=Int.eq_ofNat_of_zero_le hc.1
  obtain⟨d,rfl⟩:=Int.eq_ofNat_of_zero_le hd.1
  have q:∀n:Nat,n<4294967296→(BitVec.ofNat 32 n).toNat=n:=fun n h=>by rw[BitVec.toNat_ofNat];exact Nat.mod_eq_of_lt h
  have l:∀x y:Nat,x<4294967296→y<4294967296→bits .or .u32 (x:Int) (y:Int)=((x|||y:Nat):Int):=fun x y hx hy=>by
    have:=or32 (BitVec.ofNat 32 x) (BitVec.ofNat 32 y)
    rw[BitVec.toNat_or,q x hx,q y hy]at this;exact this
  have e1:a*16777216|||b*65536=(a*256+b)*65536:=by
    rw[show a*16777216=a*2^24 by omega,zdn a (b*65536) 24 (by omega)];omega
  have e2:(a*256+b)*65536|||c*256=(a*65536+b*256+c)*256:=by
    rw[show(a*256+b)*65536=(a*256+b)*2^16 by omega,zdn _ (c*256) 16 (by omega)];omega
  have e3:(a*65536+b*256+c)*256|||d=(a*65536+b*256+c)*256+d:=by
    rw[show(a*65536+b*256+c)*256=(a*65536+b*256+c)*2^8 by omega,zdn _ d 8 (by omega)]
  have c1:(a:Int)*16777216=((a*16777216:Nat):Int):=by omega
  have c2:(b:Int)*65536=((b*65536:Nat):Int):=by omega
  have c3:(c:Int)*256=((c*256:Nat):Int):=by omega
  rw[c1,c2,c3,l _ _ (by omega) (by omega),e1,l _ _ (by omega) (by omega),e2,l _ _ (by omega) (by omega),e3]
  unfold word
  have c4:(a:Int)*16777216+(b:Int)*65536+(c:Int)*256+(d:Int)=(((a*65536+b*256+c)*256+d:Nat):Int):=by omega
  rw[c4,BitVec.ofInt_natCast,q _ (by omega)]
end Sha
open Sha
theorem zhU (x:Wd) (m:Int) (n:Nat) (hn0:0<n) (hn:n<32) (e:bits .and .u64 (IntKind.u64.wrap m) 31=32 - (n:Int)) (w:World):
   Calls prog 181 #[.int .u32 (x.toNat:Int),.int .i64 m] w fun e w'=>e=.returned (.int .u32 ((rotr x n).toNat:Int))∧w'=w:=by
  have hx:=x.isLt
  obtain⟨s,hs⟩:∃s:Int,s=32 - (n:Int):=⟨_,rfl⟩
  have er:=rot32 x n (by omega) s hs
  rw[←hs]at e
  have h0:0<s:=by omega
  have h1:s<32:=by omega
  clear hs hn hn0
  go_enter func181,ntmps181
  go_wp2
  go_ret
  exact⟨by rw[←er];rfl,rfl⟩
theorem zaT (x:Wd) (n:Nat) (m:Int) (hm:m=(n:Int)) (hn0:0<n) (hn:n<32) (e:bits .and .u64 (IntKind.u64.wrap (-(n:Int))) 31=32 - (n:Int)) (w:World):
   Calls prog 175 #[.int .u32 (x.toNat:Int),.int .i64 m] w fun e w'=>e=.returned (.int .u32 ((rotr x n).toNat:Int))∧w'=w:=by
  subst hm
  have hx:=x.isLt
  have c:=zhU x (-(n:Int)) n hn0 hn e w
  have en:IntKind.i64.wrap (-(n:Int))= -(n:Int):=by rw[IntKind.wrap_i64];omega
  clear e
  go_enter func175,ntmps175
  go_wp2_with fail
  refine c.mono ?_
  rintro e w1 ⟨rfl,rfl⟩
  go_wp2
  go_ret
  exact⟨rfl,rfl⟩
theorem zgY (b off cap len:Nat) (hl:4≤len) (hl2:len≤64) (c0 c1 c2 c3:Int) (w:World) (h0:w.cell? ⟨b,off,none⟩=some (.int .u8 c0)) (h1:w.cell? ⟨b,off+1,none⟩=some (.int .u8 c1)) (h2:w.cell? ⟨b,off+2,none⟩=some (.int .u8 c2)) (h3:w.cell? ⟨b,off+3,none⟩=some (.int .u8 c3))
    (b0:0≤c0∧c0<256) (b1:0≤c1∧c1<256) (b2:0≤c2∧c2<256) (b3:0≤c3∧c3<256):
   Calls prog 180 #[.slice (some ⟨b,off,none⟩) len cap] w fun e w'=>e=.returned (.int .u32 ((word c0 c1 c2 c3).toNat:Int))∧w'=w.drew:=by
  have ew:=ziK c0 c1 c2 c3 b0 b1 b2 b3
  go_enter func180,ntmps180
  go_wp2
  go_region
  go_wp2
  go_ret
  exact⟨by rw[←ew];rfl,rfl⟩
open Go.RowKit
def v32 (xs:List Wd):List Value:=xs.map fun x=>Value.int .u32 (x.toNat:Int)
def v8 (zs:List Int):List Value:=zs.map (Value.int .u8)
@[simp] theorem v32_length (xs:List Wd):(v32 xs).length=xs.length:=by simp[v32]
@[simp] theorem v8_length (zs:List Int):(v8 zs).length=zs.length:=by simp[v8]
theorem zcU (xs:List Wd):∀v∈v32 xs,v.oneCell'=true:=by
 intro v hv;obtain⟨x,_,rfl⟩:=List.mem_map.1 hv;rfl
theorem zI (xs:List Int):∀v∈v8 xs,v.oneCell'=true:=by
 intro v hv;obtain⟨x,_,rfl⟩:=List.mem_map.1 hv;rfl
theorem get32 {w:World} {b o:Nat} {xs:List Wd} (h:w.rangeAt b o (v32 xs)) {i:Nat} (hi:i<xs.length):w.cell? ⟨b,o+i,none⟩=some (.int .u32 ((xs.getD i 0).toNat:Int)):=by
 refine h i _ ?_
 simp[v32,List.getElem?_eq_getElem hi]
theorem get8 {w:World} {b o:Nat} {xs:List Int} (h:w.rangeAt b o (v8 xs)) {i:Nat} (hi:i<xs.length):w.cell? ⟨b,o+i,none⟩=some (.int .u8 (xs.getD i 0)):=by
 refine h i _ ?_
 simp[v8,List.getElem?_eq_getElem hi]
theorem zap {w:World} {b o:Nat} {cs:List Value} (h:w.rangeAt b o cs) (i:Nat) (v:Value):(w.setCell ⟨b,o+i,none⟩ v).rangeAt b o (cs.set i v):=by
 intro j u hu
 rw[List.getElem?_set]at hu
 by_cases e:i=j
 ·subst e
  rw[if_pos rfl]at hu
  by_cases hi:i<cs.length
  ·rw[if_pos hi]at hu
   simp only[Option.some.injEq]at hu
   subst hu
   exact World.cell?_setCell_same _ _ _ (h i _ (List.getElem?_eq_getElem hi))
  ·rw[if_neg hi]at hu;cases hu
 ·rw[if_neg e]at hu
  rw[World.cell?_setCell_other _ _ _ _ (fun q=>e (by injection q with _ q2 _;omega))]
  exact h j u hu
theorem za0 {w:World} {b o:Nat} {cs:List Value} (h:w.rangeAt b o cs) (p:Addr) (v:Value) (hp:p.block=b→p.off<o∨o+cs.length≤p.off):(w.setCell p v).rangeAt b o cs:=by
 intro j u hu
 have hj:j<cs.length:=(List.getElem?_eq_some_iff.1 hu).1
 rw[World.cell?_setCell_other _ _ _ _ (by rintro rfl;have:=hp rfl;simp at this;omega)]
 exact h j u hu
theorem zd {w w':World} {b o n:Nat} {cs:List Value} (h:w.rangeAt b o cs) (hb:Below n w w') (hn:b<n):w'.rangeAt b o cs:=
 fun j u hu=>(hb.cell (p:=⟨b,o+j,none⟩) hn).trans (h j u hu)
theorem zq {w w':World} {b o n m:Nat} (h:w.there b o m) (hb:Below n w w') (hn:b<n):w'.there b o m:=
 fun j hj=>⟨by rw[hb.cell (p:=⟨b,o+j,none⟩) hn];exact(h j hj).1,by rw[hb.frozen (p:=⟨b,o+j,none⟩) hn];exact(h j hj).2⟩
theorem zaf {w:World} {b o n:Nat} (h:w.there b o n) (p:Addr) (v:Value):(w.setCell p v).there b o n:=by
 intro j hj
 obtain⟨h1,h2⟩:=h j hj
 refine⟨?_,by rw[World.frozen?_setCell];exact h2⟩
 obtain⟨u,hu⟩:=Option.isSome_iff_exists.1 h1
 by_cases e:p=⟨b,o+j,none⟩
 ·subst e;rw[World.cell?_setCell_same _ _ _ hu];rfl
 ·rw[World.cell?_setCell_other _ _ _ _ e,hu];rfl
theorem zan {w:World} {b o n:Nat} (h:w.there b o n) (i m:Nat) (hm:i+m≤n):w.there b (o+i) m:=fun j hj=>by
 have:=h (i+j) (by omega);rwa [←Nat.add_assoc]at this
theorem zeP {w:World} {b o:Nat} {cs ds es:List Value} (h:w.rangeAt b o (cs++ds++es)):w.rangeAt b (o+cs.length) ds:=fun j v hv=>by
 have hj:j<ds.length:=(List.getElem?_eq_some_iff.1 hv).1
 have:=h (cs.length+j) v (by rw[List.append_assoc,List.getElem?_append_right (by omega),List.getElem?_append_left (by omega),Nat.add_sub_cancel_left];exact hv)
 rwa [←Nat.add_assoc]at this
theorem zaU {w:World} {b o:Nat} {cs ds:List Value} (h:w.rangeAt b o cs) (k:w.rangeAt b (o+cs.length) ds):w.rangeAt b o (cs++ds):=fun j v hv=>by
 by_cases hj:j<cs.length
 ·rw[List.getElem?_append_left hj]at hv;exact h j v hv
 ·rw[List.getElem?_append_right (by omega)]at hv
  have:=k _ v hv
  rwa [show o+cs.length+(j - cs.length)=o+j by omega]at this
theorem zP {w:World} {b o:Nat} {cs ds:List Value} (h:w.rangeAt b o (cs++ds)):w.rangeAt b o cs:=fun j v hv=>by
 have hj:j<cs.length:=(List.getElem?_eq_some_iff.1 hv).1
 exact h j v (by rw[List.getElem?_append_left hj];exact hv)
theorem zZ {w:World} {b o:Nat} {cs ds:List Value} (h:w.rangeAt b o (cs++ds)):w.rangeAt b (o+cs.length) ds:=fun j v hv=>by
 have:=h (cs.length+j) v (by rw[List.getElem?_append_right (by omega),Nat.add_sub_cancel_left];exact hv)
 rwa [←Nat.add_assoc]at this
theorem zy (w:World) (arr:Array Value) (t:TypeId):(w.alloc (.cells arr t)).rangeAt w.heap.size 0 arr.toList:=fun j v hv=>by
 rw[World.cell?_alloc_at _ _ _ _ rfl,Nat.zero_add]
 simpa using hv
theorem zK (w:World) (arr:Array Value) (t:TypeId):(w.alloc (.cells arr t)).there w.heap.size 0 arr.size:=fun j hj=>by
 refine⟨?_,World.frozen?_alloc_at _ _ _ _ rfl⟩
 rw[World.cell?_alloc_at _ _ _ _ rfl,Nat.zero_add]
 simp[hj]
theorem zcT (xs:List Wd) (i:Nat) (x:Wd):(v32 xs).set i (.int .u32 (x.toNat:Int))=v32 (xs.set i x):=by
 unfold v32;rw[List.map_set]
theorem zb8 (xs:List Int) (i:Nat) (x:Int):(v8 xs).set i (.int .u8 x)=v8 (xs.set i x):=by
 unfold v8;rw[List.map_set]
theorem zew (xs:List Wd) (n:Nat) (x:Wd) (hn:0<n):(xs++List.replicate n (0:Wd)).set xs.length x=(xs++[x])++List.replicate (n - 1) (0:Wd):=by
 obtain⟨m,rfl⟩:∃m,n=m+1:=⟨n - 1,by omega⟩
 simp[List.replicate_succ]
theorem zi {B b:Nat} {a:World} (hb:B≤b):∀(vs:List Value) (o:Nat) (w:World),Below B a w→Below B a (w.setCells b o vs)
  |[],_,_,h=>h
  |v::r,o,_,h=>zi hb r (o+1) _ (h.setCell (p:=⟨b,o,none⟩) hb v)
theorem zH (b:Nat):∀(vs:List Value) (o:Nat) (w:World),(w.setCells b o vs).heap.size=w.heap.size
  |[],_,_=>rfl
  |v::r,o,_=>by rw[World.setCells,zH b r];simp
theorem zA (w1:World) (arr:Array Value) (t:TypeId) (cs:List Value) (h:cs.length=arr.size):
  ((w1.alloc (.cells arr t)).setCells w1.heap.size 0 cs).rangeAt w1.heap.size 0 cs∧Below w1.heap.size w1 ((w1.alloc (.cells arr t)).setCells w1.heap.size 0 cs)∧
  ((w1.alloc (.cells arr t)).setCells w1.heap.size 0 cs).heap.size=w1.heap.size+1∧((w1.alloc (.cells arr t)).setCells w1.heap.size 0 cs).there w1.heap.size 0 arr.size:=
 ⟨World.rangeAt_setCells_same _ _ _ _ (by rw[h];exact zK w1 arr t),zi (Nat.le_refl _) _ _ _ ((Below.refl _ _).alloc (Nat.le_refl _) _),by rw[zH];simp,World.there_setCells (zK w1 arr t) _ _ _⟩
theorem zbB {P:Program} {e:TypeId} {n:Nat} (h:(P.info? e).map (·.size)=some n) (w:World):(sizeOf e).run P w=.ok n w:=by
  cases hq:P.info? e with
  |none=>simp[hq]at h
  |some i=>simp[hq]at h;simp[sizeOf,typeInfo,hq,h]
theorem zc6 {P:Program} {t e:TypeId} {n:Nat} (ht:P.underlying t=some (.array n e)) (hs:(P.info? e).map (·.size)=some 1) (b off l:Nat) (i:Int) (hi:i=(l:Int)) (hl:l<n) (w:World):
  (Instr.sliceAt t (.pointer (some ⟨b,off,none⟩)) (some (.int .i64 i)) none none).run P w=.ok (.slice (some ⟨b,off+l,none⟩) (n - l) (n - l)) w:=by
 subst hi
 have h1:P.arrayLen t=n:=by simp[Program.arrayLen,ht]
 have h2:P.elem t=e:=by simp[Program.elem,ht]
 rw[run_sliceAt_array_l w t ⟨b,off,none⟩ (by rw[h1,h2,ht]) .i64 l (by omega) (by rw[h1];omega),h1,h2,zbB hs]
 simp only[slicedAt,Result.andThen_ok,Int.toNat_natCast,Nat.mul_one]
 rw[if_neg (by omega),Addr.add_mid]
theorem zeq {P:Program} {t e:TypeId} {n:Nat} (ht:P.underlying t=some (.array n e)) (hs:(P.info? e).map (·.size)=some 1) (b off h:Nat) (i:Int) (hi:i=(h:Int)) (hl:h≤n) (hn:0<n) (w:World):
  (Instr.sliceAt t (.pointer (some ⟨b,off,none⟩)) none (some (.int .i64 i)) none).run P w=.ok (.slice (some ⟨b,off,none⟩) h n) w:=by
 subst hi
 have h1:P.arrayLen t=n:=by simp[Program.arrayLen,ht]
 have h2:P.elem t=e:=by simp[Program.elem,ht]
 rw[run_sliceAt_array_h w t ⟨b,off,none⟩ (by rw[h1,h2,ht]) .i64 h (by omega) (by rw[h1];omega),h1,h2,zbB hs]
 simp only[slicedAt,Result.andThen_ok,Int.toNat_natCast,Nat.zero_mul,Nat.sub_zero]
 rw[if_neg (by omega),Addr.add_mid];rfl
theorem zbi {P:Program} {t e:TypeId} {n:Nat} (ht:P.underlying t=some (.array n e)) (hs:(P.info? e).map (·.size)=some 1) (b off:Nat) (hn:0<n) (w:World):
  (Instr.sliceAt t (.pointer (some ⟨b,off,none⟩)) none none none).run P w=.ok (.slice (some ⟨b,off,none⟩) n n) w:=by
 have h1:P.arrayLen t=n:=by simp[Program.arrayLen,ht]
 have h2:P.elem t=e:=by simp[Program.elem,ht]
 rw[run_sliceAt_array_all w t ⟨b,off,none⟩ (by rw[h1,h2,ht]),h1,h2,zbB hs]
 simp only[slicedAt,Result.andThen_ok,Nat.zero_mul,Nat.sub_zero]
 rw[if_neg (by omega),Addr.add_mid];rfl
theorem isz8:(prog.info? 5).map (·.size)=some 1:=by kernel_rfl
namespace Sha
theorem zgX (bs:List Int) (n:Nat):words bs (n+1)=words bs n++[wordAt bs n]:=by
 simp[words,List.range_succ]
theorem zcN (bs:List Int) (n:Nat):(words bs n).length=n:=by simp[words]
theorem zfN (n:Nat) (ws:List Wd):(exts n ws).length=ws.length+n:=by
  induction n with
  |zero=>rfl
  |succ n ih=>simp[exts,ext,ih];omega
theorem zep (bs:List Int):(spread bs).length=64:=by rw[spread,zfN,zcN]
theorem zjE (xs ys:List Wd) (i:Nat) (h:i<xs.length):(xs++ys).getD i 0=xs.getD i 0:=by
 simp only[List.getD_eq_getElem?_getD];rw[List.getElem?_append_left h]
theorem zcG {bs:List Int} (hb:∀z∈bs,0≤z∧z<256) (j:Nat):0≤bs.getD j 0∧bs.getD j 0<256:=by
 rcases Nat.lt_or_ge j bs.length with h|h
 ·rw[List.getD_eq_getElem?_getD,List.getElem?_eq_getElem h];exact hb _ (List.getElem_mem h)
 ·rw[List.getD_eq_getElem?_getD,List.getElem?_eq_none h];decide
theorem zkQ (a b c d:Wd):((a.toNat:Int)+(b.toNat:Int)+(c.toNat:Int)+(d.toNat:Int))%4294967296=((a+b+c+d).toNat:Int):=by
 rw[BitVec.toNat_add,BitVec.toNat_add,BitVec.toNat_add];omega
theorem zhK (y:Wd):bits .xor .u32 (bits .xor .u32 ((rotr y 7).toNat:Int) ((rotr y 18).toNat:Int)) ((y.toNat:Int) / 8)=((s0 y).toNat:Int):=by
 have:=shr32 y 3
 rw[show((2^3:Nat):Int)=8 by decide]at this
 rw[this,xor32,xor32];rfl
theorem zhJ (y:Wd):bits .xor .u32 (bits .xor .u32 ((rotr y 17).toNat:Int) ((rotr y 19).toNat:Int)) ((y.toNat:Int) / 1024)=((s1 y).toNat:Int):=by
 have:=shr32 y 10
 rw[show((2^10:Nat):Int)=1024 by decide]at this
 rw[this,xor32,xor32];rfl
end Sha
theorem zhX (w:World):(w.alloc (.cells (Array.replicate 64 (.int .u32 0)) 238)).rangeAt w.heap.size 0 (v32 (List.replicate 64 (0:Wd))):=by
 have:=zy w (Array.replicate 64 (.int .u32 0)) 238
 simpa [v32]using this
theorem zcX (w:World):(w.alloc (.cells (Array.replicate 64 (.int .u32 0)) 238)).there w.heap.size 0 64:=by
 have:=zK w (Array.replicate 64 (.int .u32 0)) 238
 simpa using this
theorem isz72:(prog.info? 238).map (·.size)=some 64:=by kernel_rfl
theorem zhz (b off:Nat) (bs:List Int) (w:World) (hlen:bs.length=64) (hb:∀z∈bs,0≤z∧z<256) (hB:b<w.heap.size) (hc:w.rangeAt b off (v8 bs)):
   Calls prog 174 #[.pointer (some ⟨b,off,none⟩)] w fun e w'=>e=.returned (.agg (v32 (spread bs)).toArray)∧Below w.heap.size w w':=by
  go_enter func174,ntmps174
  go_wp2
  have Z:=zhX (w.alloc (.cells (Array.replicate 64 (.int .u32 0)) 238))
  have T:=zcX (w.alloc (.cells (Array.replicate 64 (.int .u32 0)) 238))
  have T0:=World.there_alloc (zcX w) (.cells (Array.replicate 64 (.int .u32 0)) 238)
  have BB:Below w.heap.size w ((w.alloc (.cells (Array.replicate 64 (.int .u32 0)) 238)).alloc (.cells (Array.replicate 64 (.int .u32 0)) 238)):=((Below.refl _ _).alloc (Nat.le_refl _) _).alloc (by simp) _
  have es:(w.alloc (.cells (Array.replicate 64 (.int .u32 0)) 238)).heap.size=w.heap.size+1:=by simp
  rw[es]at Z T
  clear es
  go_loopw [10] (fun i wr=>∃k:Nat,k≤16∧i=.int .i64 k∧wr.rangeAt (w.heap.size+1) 0 (v32 (words bs k++List.replicate (64 - k) (0:Wd)))∧wr.there (w.heap.size+1) 0 64∧wr.there w.heap.size 0 64∧Below w.heap.size w wr) (fun i _=>16 - (intOf i).toNat)
  case atStart=>exact⟨0,by omega,rfl,Z,T,T0,BB⟩
  case round=>
    clear Z T T0 BB
    obtain⟨k,hk,rfl,hZ,hT,hT0,hBel⟩:=hrel
    by_cases hlt:k<16
    · have hcr:=zd hc hBel hB
      have b0:=zcG hb (4*k)
      have b1:=zcG hb (4*k+1)
      have b2:=zcG hb (4*k+2)
      have b3:=zcG hb (4*k+3)
      have cw:=zgY b (off+4*k) (64 - 4*k) (64 - 4*k) (by omega) (by omega) _ _ _ _ wr (get8 hcr (i:=4*k) (by omega)) (by rw[Nat.add_assoc];exact get8 hcr (i:=4*k+1) (by omega)) (by rw[Nat.add_assoc];exact get8 hcr (i:=4*k+2) (by omega)) (by rw[Nat.add_assoc];exact get8 hcr (i:=4*k+3) (by omega)) b0 b1 b2 b3
      obtain⟨x,hx⟩:∃x,Hid (wordAt bs k=x):=⟨_,rfl⟩
      have hsl:=zc6 (w:=wr) underlying169 isz8 b off (4*k) (4*(k:Int)) (by omega) (by omega)
      change Calls _ _ _ _ (fun e w'=>e=.returned (.int .u32 ((wordAt bs k).toNat:Int))∧w'=wr.drew)at cw
      rw[hx.out]at cw
      clear hcr b0 b1 b2 b3
      obtain⟨u,hu⟩:=Option.isSome_iff_exists.1 (hT k (by omega)).1
      have hf:=(hT k (by omega)).2
      rw[Nat.zero_add]at hu hf
      go_wp2_with fail
      refine cw.mono ?_
      rintro e w1 ⟨rfl,rfl⟩
      clear cw hsl
      go_wp2_with fail
      go_roundw
      case rel=>
        refine⟨k+1,by omega,by go_num,?_,zaf ((World.there_drew _ _ _ _).2 hT) _ _,zaf ((World.there_drew _ _ _ _).2 hT0) _ _,hBel.drew.setCell (p:=⟨w.heap.size+1,k,none⟩) (by simp) _⟩
        have:=zap ((World.rangeAt_drew _ _ _ _).2 hZ) k (.int .u32 (x.toNat:Int))
        rw[Nat.zero_add,zcT]at this
        have e1:=zew (words bs k) (64 - k) x (by omega)
        rw[zcN]at e1
        rw[e1]at this
        rw[zgX,hx.out]
        exact this
      case measure=>simp[intOf];omega
    · obtain rfl:k=16:=by omega
      go_wp2
      go_loopw [5] (fun i wr=>∃k m:Nat,k≤48∧m=16+k∧i=.int .i64 (m:Int)∧wr.rangeAt (w.heap.size+1) 0 (v32 (exts k (words bs 16)++List.replicate (48 - k) (0:Wd)))∧wr.there (w.heap.size+1) 0 64∧wr.there w.heap.size 0 64∧Below w.heap.size w wr) (fun i _=>64 - (intOf i).toNat)
      case atStart=>exact⟨0,16,by omega,rfl,rfl,hZ,hT,hT0,hBel⟩
      case round=>
        clear hZ hT hT0 hBel
        obtain⟨k,m,hk,hm,rfl,hZ,hT,hT0,hBel⟩:=hrel
        by_cases hlt:k<48
        · have hl:(exts k (words bs 16)).length=m:=by rw[zfN,zcN,hm]
          have gt:∀j,j<m→wr.cell? ⟨w.heap.size+1,j,none⟩=some (.int .u32 (((exts k (words bs 16)).getD j 0).toNat:Int)):=fun j hj=>by
            have:=get32 hZ (i:=j) (by simp[hl];omega)
            rw[Nat.zero_add,zjE _ _ _ (by omega)]at this;exact this
          have g15:=gt (m - 15) (by omega)
          have g2:=gt (m - 2) (by omega)
          have g16:=gt (m - 16) (by omega)
          have g7:=gt (m - 7) (by omega)
          obtain⟨x,hx⟩:∃x,Hid (nxt (exts k (words bs 16))=x):=⟨_,rfl⟩
          have hn:Hid ((exts k (words bs 16)).getD (m - 16) 0+s0 ((exts k (words bs 16)).getD (m - 15) 0)+(exts k (words bs 16)).getD (m - 7) 0+s1 ((exts k (words bs 16)).getD (m - 2) 0)=x):=by
            have:=hx.out;unfold nxt at this;rw[hl]at this;exact this
          generalize (exts k (words bs 16)).getD (m - 15) 0=y15 at g15 hn
          generalize (exts k (words bs 16)).getD (m - 2) 0=y2 at g2 hn
          generalize (exts k (words bs 16)).getD (m - 16) 0=y16 at g16 hn
          generalize (exts k (words bs 16)).getD (m - 7) 0=y7 at g7 hn
          obtain⟨u,hu⟩:=Option.isSome_iff_exists.1 (hT m (by omega)).1
          have hf:=(hT m (by omega)).2
          rw[Nat.zero_add]at hu hf
          have hm1:16≤m:=by omega
          have hm2:m<64:=by omega
          have HM:Hid (m=16+k):=hm
          have HL:Hid ((exts k (words bs 16)).length=m):=hl
          clear gt hm hl
          go_wp2_with fail
          go_region
          have r7:=zaT y15 7 7 rfl (by decide) (by decide) (by decide)
          have r18:=zaT y15 18 18 rfl (by decide) (by decide) (by decide)
          have r17:=zaT y2 17 17 rfl (by decide) (by decide) (by decide)
          have r19:=zaT y2 19 19 rfl (by decide) (by decide) (by decide)
          go_wp2_with fail
          refine(r7 _).mono ?_
          rintro e w1 ⟨rfl,rfl⟩
          clear r7
          go_wp2_with fail
          refine(r18 _).mono ?_
          rintro e w1 ⟨rfl,rfl⟩
          clear r18
          go_wp2_with fail
          refine(r17 _).mono ?_
          rintro e w1 ⟨rfl,rfl⟩
          clear r17
          go_wp2_with fail
          refine(r19 _).mono ?_
          rintro e w1 ⟨rfl,rfl⟩
          clear r19
          go_wp2_with fail
          rw[zhK,zhJ]
          have hs0:=(s0 y15).isLt
          have hs1:=(s1 y2).isLt
          have hy16:=y16.isLt
          have hy7:=y7.isLt
          go_region
          rw[zkQ,hn.out]
          go_wp2_with fail
          go_roundw
          case rel=>
            (repeat apply Exists.intro)
            refine⟨⟨k+1,m+1,by omega,by rw[HM.out];omega,by go_num,?_,(World.there_drew _ _ _ _).2 ((World.there_drew _ _ _ _).2 (zaf hT _ _)),(World.there_drew _ _ _ _).2 ((World.there_drew _ _ _ _).2 (zaf hT0 _ _)),(hBel.setCell (p:=⟨w.heap.size+1,m,none⟩) (by simp) _).drew.drew⟩,rfl⟩
            have:=(World.rangeAt_drew _ _ _ _).2 ((World.rangeAt_drew _ _ _ _).2 (zap hZ m (.int .u32 (x.toNat:Int))))
            rw[Nat.zero_add,zcT]at this
            have e1:=zew (exts k (words bs 16)) (48 - k) x (by omega)
            rw[HL.out]at e1
            rw[e1]at this
            show(World.rangeAt _ _ _ (v32 (ext (exts k (words bs 16))++_)))
            unfold ext
            rw[hx.out]
            exact this
          case measure=>simp[intOf];omega
        · obtain rfl:k=48:=by omega
          obtain rfl:m=64:=by omega
          have hZ2:wr.rangeAt (w.heap.size+1) 0 (v32 (spread bs)):=by simpa [spread]using hZ
          have hl2:(v32 (spread bs)).length=64:=by rw[v32_length,zep]
          have h1c:=zcU (spread bs)
          obtain⟨cs,hcs⟩:∃cs,Hid (v32 (spread bs)=cs):=⟨_,rfl⟩
          rw[hcs.out]at hZ2 hl2 h1c
          have hi:(prog.info? 238).map (·.size)=some cs.length:=by rw[hl2];exact isz72
          go_upto_region 14 with fail
          refine wp_region_list ?_
          refine wpList_load_mid rfl 238 _ rfl _ _ rfl cs _ hZ2 underlying238 rfl hi ?_
          refine wpList_store_mid rfl 238 _ _ rfl _ _ cs.toArray rfl rfl (by simpa [hl2]using hT0) (by simpa using hi) (all_oneCell_toArray h1c) ?_
          have hR:=World.rangeAt_setCells_same wr w.heap.size 0 cs (by rw[hl2];exact hT0)
          have hBl:=zi (Nat.le_refl w.heap.size) cs 0 wr hBel
          generalize wr.setCells w.heap.size 0 cs=wx at *
          have hrs:=run_loadVar_mid (P:=prog) wx w.heap.size 0 238 cs _ hR underlying238 rfl hi
          clear hi
          go_wp2_with fail
          refine bodyPost_ret (v:=.agg cs.toArray) (by simp[results,results174,asAddr,hrs]) rfl ⟨by rw[hcs.out],hBl⟩
open Go.RowKit
open Sha
theorem zaF (w:World) (r:Option Nat):w.grownBy w r:=⟨rfl,rfl,rfl,Nat.le_refl _,fun _ _ _=>rfl⟩
theorem zt {w w1 w2:World} {r:Option Nat} (h:w.grownBy w1 r) (k:w1.grownBy w2 r):w.grownBy w2 r:=
 ⟨k.os.trans h.os,k.tape.trans h.tape,k.output.trans h.output,Nat.le_trans h.size k.size,fun i hi hr=>(k.block i (Nat.lt_of_lt_of_le hi h.size) hr).trans (h.block i hi hr)⟩
theorem zN (w:World) (R j:Nat) (v:Value):w.grownBy (w.setCell ⟨R,j,none⟩ v) (some R):=
 ⟨rfl,rfl,rfl,by simp[World.setCell],fun k _ hk=>Below.heap_setCell w _ v k (fun e=>hk (by rw[e]))⟩
theorem zW {w w':World} (h:Below w.heap.size w w') (r:Option Nat):w.grownBy w' r:=⟨h.os,h.tape,h.output,h.size,fun k hk _=>h.block k hk⟩
theorem zjL {w w':World} {r:Option Nat} (h:w.grownBy w' r):w.grownBy w'.drew r:=⟨h.os,h.tape,h.output,h.size,h.block⟩
theorem zjK {w w':World} {r:Option Nat} (h:w.grownBy w' r) (n:Nat):w.grownBy (w'.drewN n) r:=⟨h.os,h.tape,h.output,h.size,h.block⟩
theorem zeQ {w w':World} {R b o:Nat} {cs:List Value} (h:w.rangeAt b o cs) (g:w.grownBy w' (some R)) (hn:b≠R):w'.rangeAt b o cs:=fun j v hv=>g.cell (h j v hv) (by simpa using hn)
def kl:List Wd:=ks.map (BitVec.ofNat 32)
theorem zjp (t:Nat) (h:t<64):kl.getD t 0=k t:=by
 simp only[kl,k,List.getD_eq_getElem?_getD,List.getElem?_map]
 rw[List.getElem?_eq_getElem (show t<ks.length from h)];rfl
def Keep (R:Nat) (w wr:World):Prop:=(∀j,8≤j→wr.cell? ⟨R,j,none⟩=w.cell? ⟨R,j,none⟩)∧(∀j,wr.frozen? ⟨R,j,none⟩=w.frozen? ⟨R,j,none⟩)∧w.grownBy wr (some R)
theorem Keep.refl (R:Nat) (w:World):Keep R w w:=⟨fun _ _=>rfl,fun _=>rfl,zaF _ _⟩
theorem Keep.drewN {R:Nat} {w wr:World} (h:Keep R w wr) (n:Nat):Keep R w (wr.drewN n):=⟨fun j hj=>(by simpa using h.1 j hj),fun j=>(by simpa using h.2.1 j),zjK h.2.2 n⟩
theorem Keep.below {R:Nat} {w wr wx:World} (h:Keep R w wr) (hb:Below wr.heap.size wr wx) (hR:R<wr.heap.size):Keep R w wx:=
 ⟨fun j hj=>(hb.cell (p:=⟨R,j,none⟩) hR).trans (h.1 j hj),fun j=>(hb.frozen (p:=⟨R,j,none⟩) hR).trans (h.2.1 j),zt h.2.2 (zW hb _)⟩
theorem Keep.set {R:Nat} {w wr:World} (h:Keep R w wr) (i:Nat) (hi:i<8) (v:Value):Keep R w (wr.setCell ⟨R,i,none⟩ v):=
 ⟨fun j hj=>(World.cell?_setCell_other _ _ _ _ (fun q=>by injection q with _ q2 _;omega)).trans (h.1 j hj),fun j=>(World.frozen?_setCell _ _ _ _).trans (h.2.1 j),zt h.2.2 (zN _ _ _ _)⟩
theorem zaK {w:World} {b o n:Nat} {cs:List Value} (h:w.rangeAt b o cs):(w.drewN n).rangeAt b o cs:=fun j v hv=>by simpa using h j v hv
theorem zcb {w:World} {b o n m:Nat} (h:w.there b o m):(w.drewN n).there b o m:=fun j hj=>by simpa using h j hj
namespace Sha
theorem not32 (x:Wd):bits .xor .u32 IntKind.u32.max (x.toNat:Int)=((~~~ x).toNat:Int):=by
 show IntKind.u32.wrap ((BitVec.ofInt 32 (4294967295:Int)^^^BitVec.ofInt 32 (x.toNat:Int)).toNat:Int)=_
 rw[ofInt32,zb3 _ (BitVec.isLt _)]
 have e:BitVec.ofInt 32 4294967295=BitVec.allOnes 32:=by decide
 rw[e,BitVec.allOnes_xor]
theorem zhu (kk x a b c d e f g h:Wd):(((h.toNat:Int)+bits .xor .u32 (bits .xor .u32 ((rotr e 6).toNat:Int) ((rotr e 11).toNat:Int)) ((rotr e 25).toNat:Int)+bits .xor .u32 (bits .and .u32 (e.toNat:Int) (f.toNat:Int)) (bits .and .u32 (bits .xor .u32 (if IntKind.u32.signed=true then -1 else IntKind.u32.max) (e.toNat:Int)) (g.toNat:Int))+(kk.toNat:Int))%4294967296+(x.toNat:Int))%4294967296=((t1 kk x ⟨a,b,c,d,e,f,g,h⟩).toNat:Int):=by
 have hm:(if IntKind.u32.signed=true then -1 else IntKind.u32.max)=IntKind.u32.max:=by decide
 rw[hm]
 simp only[not32,xor32,and32]
 show _=((h+(rotr e 6^^^rotr e 11^^^rotr e 25)+((e&&&f)^^^(~~~ e&&&g))+kk+x:Wd).toNat:Int)
 generalize (rotr e 6^^^rotr e 11^^^rotr e 25)=p
 generalize ((e&&&f)^^^(~~~ e&&&g))=q
 rw[BitVec.toNat_add,BitVec.toNat_add,BitVec.toNat_add,BitVec.toNat_add];omega
theorem zht (a b c d e f g h:Wd):(bits .xor .u32 (bits .xor .u32 ((rotr a 2).toNat:Int) ((rotr a 13).toNat:Int)) ((rotr a 22).toNat:Int)+bits .xor .u32 (bits .xor .u32 (bits .and .u32 (a.toNat:Int) (b.toNat:Int)) (bits .and .u32 (a.toNat:Int) (c.toNat:Int))) (bits .and .u32 (b.toNat:Int) (c.toNat:Int)))%4294967296=((t2 ⟨a,b,c,d,e,f,g,h⟩).toNat:Int):=by
 simp only[xor32,and32]
 show _=(((rotr a 2^^^rotr a 13^^^rotr a 22)+((a&&&b)^^^(a&&&c)^^^(b&&&c)):Wd).toNat:Int)
 generalize (rotr a 2^^^rotr a 13^^^rotr a 22)=p
 generalize ((a&&&b)^^^(a&&&c)^^^(b&&&c))=q
 rw[BitVec.toNat_add];omega
end Sha
def mix (s r:St) (j:Nat):List Wd:=(list (plus s r)).take j++(list s).drop j
theorem zi3 {wr:World} {R:Nat} (s:St) (a b c d e f g h:Wd) (j:Nat) (hj:j<8) (hR:wr.rangeAt R 0 (v32 (mix s ⟨a,b,c,d,e,f,g,h⟩ j))):
    ∃x y:Wd,(∀w,(Instr.index 168 (.agg #[.int .u32 (a.toNat:Int),.int .u32 (b.toNat:Int),.int .u32 (c.toNat:Int),.int .u32 (d.toNat:Int),.int .u32 (e.toNat:Int),.int .u32 (f.toNat:Int),.int .u32 (g.toNat:Int),.int .u32 (h.toNat:Int)]) (.int .i64 (j:Int))).run prog w=.ok (.int .u32 (x.toNat:Int)) w)∧
      wr.cell? ⟨R,j,none⟩=some (.int .u32 (y.toNat:Int))∧Hid ((mix s ⟨a,b,c,d,e,f,g,h⟩ j).set j (y+x)=mix s ⟨a,b,c,d,e,f,g,h⟩ (j+1)):=by
  match j,hj with
  |0,_=>exact⟨a,s.a,fun _=>by kernel_rfl,by simpa using hR 0 _ rfl,rfl⟩
  |1,_=>exact⟨b,s.b,fun _=>by kernel_rfl,by simpa using hR 1 _ rfl,rfl⟩
  |2,_=>exact⟨c,s.c,fun _=>by kernel_rfl,by simpa using hR 2 _ rfl,rfl⟩
  |3,_=>exact⟨d,s.d,fun _=>by kernel_rfl,by simpa using hR 3 _ rfl,rfl⟩
  |4,_=>exact⟨e,s.e,fun _=>by kernel_rfl,by simpa using hR 4 _ rfl,rfl⟩
  |5,_=>exact⟨f,s.f,fun _=>by kernel_rfl,by simpa using hR 5 _ rfl,rfl⟩
  |6,_=>exact⟨g,s.g,fun _=>by kernel_rfl,by simpa using hR 6 _ rfl,rfl⟩
  |7,_=>exact⟨h,s.h,fun _=>by kernel_rfl,by simpa using hR 7 _ rfl,rfl⟩
theorem zhd (R:Nat) (s:St) (ws:List Wd) (w:World) (hR:2≤R) (hRs:R<w.heap.size) (hsl:ws.length=64)
   (c:Calls prog 174 #[.pointer (some ⟨R,8,none⟩)] w fun e w'=>e=.returned (.agg (v32 ws).toArray)∧Below w.heap.size w w')
   (hw:w.rangeAt R 0 (v32 (list s))) (hT:w.there R 0 8) (hk:w.rangeAt 1 0 (v32 kl)):
   Calls prog 150 #[.pointer (some ⟨R,0,none⟩)] w fun e w'=>e=.returned (.tuple #[])∧w'.rangeAt R 0 (v32 (list (plus s (rounds ws 64 s))))∧Keep R w w':=by
  have hl2:(v32 ws).length=64:=by rw[v32_length,hsl]
  have h1c:=zcU ws
  obtain⟨cs,hcs0⟩:∃cs,Hid (v32 ws=cs):=⟨_,rfl⟩
  rw[hcs0.out]at c hl2 h1c
  have hsz:cs.toArray.size=64:=by rw[List.size_toArray,hl2]
  have hi:(prog.info? 238).map (·.size)=some cs.toArray.size:=by rw[hsz];exact isz72
  go_enter func150,ntmps150
  go_wp2_with fail
  refine c.mono ?_
  rintro e w1 ⟨rfl,hw1⟩
  clear c
  have hT1:(w1.alloc (.cells (Array.replicate 64 (.int .u32 0)) 238)).there w1.heap.size 0 cs.toArray.size:=by rw[hsz];exact zcX w1
  go_wp2_with (refine wpList_store_mid rfl 238 _ _ rfl _ _ cs.toArray rfl rfl hT1 hi (all_oneCell_toArray h1c) ?_)
  go_name_world w2 hw2
  have F:=zA w1 (Array.replicate 64 (.int .u32 0)) 238 cs (by rw[hl2];rfl)
  rw[show(w1.alloc (.cells (Array.replicate 64 (.int .u32 0)) 238)).setCells w1.heap.size 0 cs=w2 from hw2]at F
  obtain⟨hcs,hB1,hz2,_⟩:=F
  clear hw2 hT1 hi hsz h1c hl2
  have hs1:=hw1.size
  have hB2:=hw1.trans (hB1.mono hs1)
  have hK:=(Keep.refl R w).below hB2 hRs
  have hRg:=zd hw hB2 hRs
  have hKl:=zd hk hB2 (by omega)
  have hTh:=zq hT hB2 hRs
  have hBR:R<w1.heap.size:=by omega
  clear hB1 hB2 hw1 hs1
  generalize w1.heap.size=B at hcs hz2 hBR ⊢
  have g0:w2.cell? ⟨R,0,none⟩=some (.int .u32 (s.a.toNat:Int)):=hRg 0 _ rfl
  have g1:w2.cell? ⟨R,1,none⟩=some (.int .u32 (s.b.toNat:Int)):=by simpa using hRg 1 _ rfl
  have g2:w2.cell? ⟨R,2,none⟩=some (.int .u32 (s.c.toNat:Int)):=by simpa using hRg 2 _ rfl
  have g3:w2.cell? ⟨R,3,none⟩=some (.int .u32 (s.d.toNat:Int)):=by simpa using hRg 3 _ rfl
  have g4:w2.cell? ⟨R,4,none⟩=some (.int .u32 (s.e.toNat:Int)):=by simpa using hRg 4 _ rfl
  have g5:w2.cell? ⟨R,5,none⟩=some (.int .u32 (s.f.toNat:Int)):=by simpa using hRg 5 _ rfl
  have g6:w2.cell? ⟨R,6,none⟩=some (.int .u32 (s.g.toNat:Int)):=by simpa using hRg 6 _ rfl
  have g7:w2.cell? ⟨R,7,none⟩=some (.int .u32 (s.h.toNat:Int)):=by simpa using hRg 7 _ rfl
  simp only[Act.put]
  go_quiet (fail)
  go_wp2
  go_quiet (fail)
  go_wp2
  go_name_world w3 hw3
  rw[←hcs0.out]at hcs
  obtain⟨hcs,hK,hRg,hKl,hTh⟩:w3.rangeAt B 0 (v32 ws)∧Keep R w w3∧w3.rangeAt R 0 (v32 (list s))∧w3.rangeAt 1 0 (v32 kl)∧w3.there R 0 8:=by
    rw[←hw3]
    exact⟨zaK (zaK hcs),(hK.drewN _).drewN _,zaK (zaK hRg),zaK (zaK hKl),zcb (zcb hTh)⟩
  have HSL:Hid (ws.length=64):=hsl
  clear hsl hT hk hw hcs0
  clear hw3 g0 g1 g2 g3 g4 g5 g6 g7 hz2
  go_loopw [3,4,5,6,7,8,9,10,60] (fun a b c d e f g h i wr=>∃(t:Nat) (st:St),t≤64∧i=.int .i64 (t:Int)∧Hid (rounds ws t s=st)∧a=.int .u32 (st.a.toNat:Int)∧b=.int .u32 (st.b.toNat:Int)∧c=.int .u32 (st.c.toNat:Int)∧d=.int .u32 (st.d.toNat:Int)∧e=.int .u32 (st.e.toNat:Int)∧f=.int .u32 (st.f.toNat:Int)∧g=.int .u32 (st.g.toNat:Int)∧h=.int .u32 (st.h.toNat:Int)∧wr.rangeAt B 0 (v32 ws)∧Keep R w wr∧wr.rangeAt R 0 (v32 (list s))∧wr.rangeAt 1 0 (v32 kl)∧wr.there R 0 8) (fun _ _ _ _ _ _ _ _ i _=>64 - (intOf i).toNat)
  case atStart=>exact⟨0,s,by omega,rfl,rfl,rfl,rfl,rfl,rfl,rfl,rfl,rfl,rfl,hcs,hK,hRg,hKl,hTh⟩
  case round=>
    clear hcs hK hRg hKl hTh
    obtain⟨t,⟨a,b,c,d,e,f,g,hh⟩,ht,rfl,hst,rfl,rfl,rfl,rfl,rfl,rfl,rfl,rfl,hcs,hK,hRg,hKl,hTh⟩:=hrel
    by_cases hlt:t<64
    · have gk:=get32 hKl (i:=t) (show t<64 from hlt)
      have gw:=get32 hcs (i:=t) (by rw[HSL.out];exact hlt)
      rw[zjp t hlt,Nat.zero_add]at gk
      rw[Nat.zero_add]at gw
      have hnx:Hid (rounds ws (t+1) s=round (k t) (ws.getD t 0) ⟨a,b,c,d,e,f,g,hh⟩):=by
        show round _ _ (rounds ws t s)=_
        rw[hst.out]
      generalize ws.getD t 0=x at gw hnx
      generalize k t=kk at gk hnx
      simp only
      go_wp2_with fail
      have r6:=zaT e 6 6 rfl (by decide) (by decide) (by decide)
      have r11:=zaT e 11 11 rfl (by decide) (by decide) (by decide)
      have r25:=zaT e 25 25 rfl (by decide) (by decide) (by decide)
      go_quiet (first|exact Calls.quiet_of_same (r6 _)|exact Calls.quiet_of_same (r11 _)|exact Calls.quiet_of_same (r25 _))
      clear r6 r11 r25
      rw[zhu kk x a b c d e f g hh]
      obtain⟨T1,hT1⟩:∃T1,Hid (t1 kk x ⟨a,b,c,d,e,f,g,hh⟩=T1):=⟨_,rfl⟩
      rw[hT1.out]
      go_wp2_with fail
      refine(zaT a 2 2 rfl (by decide) (by decide) (by decide) _).mono ?_
      rintro e' w' ⟨rfl,rfl⟩
      go_wp2_with fail
      refine(zaT a 13 13 rfl (by decide) (by decide) (by decide) _).mono ?_
      rintro e' w' ⟨rfl,rfl⟩
      go_wp2_with fail
      refine(zaT a 22 22 rfl (by decide) (by decide) (by decide) _).mono ?_
      rintro e' w' ⟨rfl,rfl⟩
      go_upto_region 8 with fail
      rw[zht a b c d e f g hh]
      obtain⟨T2,hT2⟩:∃T2,Hid (t2 ⟨a,b,c,d,e,f,g,hh⟩=T2):=⟨_,rfl⟩
      rw[hT2.out]
      have hr:Hid (round kk x ⟨a,b,c,d,e,f,g,hh⟩=⟨T1+T2,a,b,c,d+T1,e,f,g⟩):=by
        show round _ _ _=_
        unfold round
        rw[hT1.out,hT2.out]
      go_wp2_with fail
      go_roundw
      case rel=>
        refine⟨t+1,⟨T1+T2,a,b,c,d+T1,e,f,g⟩,by omega,by go_num,?_,by rw[add32],rfl,rfl,rfl,by rw[add32],rfl,rfl,rfl,zaK hcs,hK.drewN _,zaK hRg,zaK hKl,zcb hTh⟩
        show rounds ws (t+1) s=_
        rw[hnx.out,hr.out]
      case measure=>simp[intOf];omega
    · have hlt':¬(t:Int)<64:=by omega
      go_wp2_with fail
      go_loopw [132] (fun i wr=>∃j:Nat,j≤8∧i=.int .i64 (j:Int)∧wr.rangeAt R 0 (v32 (mix s ⟨a,b,c,d,e,f,g,hh⟩ j))∧Keep R w wr∧wr.there R 0 8) (fun i _=>8 - (intOf i).toNat)
      case atStart=>exact⟨0,by omega,rfl,hRg,hK,hTh⟩
      case round=>
        clear hcs hK hRg hKl hTh
        obtain⟨j,hj,rfl,hRg,hK,hTh⟩:=hrel
        by_cases hl8:j<8
        · obtain⟨x,y,hix,gy,hmx⟩:=zi3 (wr:=wr) s a b c d e f g hh j hl8 hRg
          have hf:=(hTh j hl8).2
          rw[Nat.zero_add]at hf
          have hxl:=x.isLt
          have hyl:=y.isLt
          go_wp2_with fail
          clear hix
          go_region
          go_wp2_with fail
          rw[add32]
          go_roundw
          case rel=>
            refine⟨j+1,by omega,by go_num,?_,?_,(World.there_drew _ _ _ _).2 (zaf hTh _ _)⟩
            · have:=zap hRg j (.int .u32 ((y+x).toNat:Int))
              rw[Nat.zero_add,zcT,hmx.out]at this
              exact(World.rangeAt_drew _ _ _ _).2 this
            · exact(hK.set j hl8 _).drewN 1
          case measure=>simp[intOf];omega
        · obtain rfl:j=8:=by omega
          go_wp2_with fail
          go_end0
          refine⟨rfl,?_,hK⟩
          have ht64:t=64:=by omega
          have e1:=hst.out
          rw[ht64]at e1
          rw[e1]
          exact hRg
theorem zhe (R:Nat) (s:St) (bs:List Int) (w:World) (hlen:bs.length=64) (hb:∀z∈bs,0≤z∧z<256) (hR:2≤R) (hRs:R<w.heap.size)
   (hw:w.rangeAt R 0 (v32 (list s))) (hv:w.rangeAt R 8 (v8 bs)) (hT:w.there R 0 8) (hk:w.rangeAt 1 0 (v32 kl)):
   Calls prog 150 #[.pointer (some ⟨R,0,none⟩)] w fun e w'=>e=.returned (.tuple #[])∧w'.rangeAt R 0 (v32 (list (block s bs)))∧Keep R w w':=
  zhd R s (spread bs) w hR hRs (zep bs) (zhz R 8 bs w hlen hb hRs hv) hw hT hk
open Go Go.RowKit
section
variable {P : Program} {ops : Array Oper} {Q : Exit → Act → World → Prop}
def HeldS (P:Program) (ops:Array Oper) (Q:Exit→Act→World→Prop) (S:World→Prop) (fuel:Nat) (listed:Array Bool) (a:Act) (w:World):Prop:=
 wpAnyH P .any ops (NoPanic Q) S fuel listed a w
theorem zG {id:Nat} {S:World→Prop} {a:Act} {w:World} (n:Nat) (hn:ops.size=n) (hm:P.follows .mixedOrders=true) (h:HeldS P ops Q S n (Array.replicate n false) a w.drew):(Code.region id ops true).wp P Q a w:=by
 subst hn
 exact wp_region_noPanic (wp_region_held hm h)
theorem zjv {i:Nat} {S:World→Prop} {oi:Oper} {d:Option Nat} {v:Value} {fuel:Nat} {listed:Array Bool} {a:Act} {w:World} (hi:ops[i]? =some oi)
  (hs:Region.noSelect ops=true) (hf:Region.free .any ops listed i=true) (hr:(Region.ready .any ops listed).contains i=true)
  (hw:Region.wanted oi (yielded ops a.tmps)=true) (hy:∀w',S w'→(execOp a.eval oi).run P w'=.ok (.value v) w') (hS:S w) (hdst:oi.dst=d)
  (h:HeldS P ops Q S fuel (listed.setIfInBounds i true) (a.put d v) w):HeldS P ops Q S (fuel+1) listed a w:=by
 subst hdst
 exact wpAnyH_take hi hs hf hr (fun _ _ _ h=>h) (Or.inl ⟨hw,hy⟩) hS h
theorem hs_t (i d:Nat) (v:Value) {S:World→Prop} {oi:Oper} {fuel:Nat} {listed:Array Bool} {a:Act} {w:World} (hi:ops[i]? =some oi) (hs:Region.noSelect ops=true) (hf:Region.free .any ops listed i=true) (hr:(Region.ready .any ops listed).contains i=true) (hw:Region.wanted oi (yielded ops a.tmps)=true) (hy:∀w',S w'→(execOp a.eval oi).run P w'=.ok (.value v) w') (hS:S w) (hdst:oi.dst=some d) (h:HeldS P ops Q S fuel (listed.setIfInBounds i true) (a.put (some d) v) w):HeldS P ops Q S (fuel+1) listed a w:=zjv hi hs hf hr hw hy hS hdst h
theorem zQ {i:Nat} {S:World→Prop} {oi:Oper} {d:Option Nat} {fuel:Nat} {listed:Array Bool} {a:Act} {w:World} (hi:ops[i]? =some oi)
  (hs:Region.noSelect ops=true) (hf:Region.free .any ops listed i=true) (hr:(Region.ready .any ops listed).contains i=true)
  (hw:Region.wanted oi (yielded ops a.tmps)=false) (hS:S w) (hdst:oi.dst=d)
  (h:HeldS P ops Q S fuel (listed.setIfInBounds i true) (a.put d undef) w):HeldS P ops Q S (fuel+1) listed a w:=by
 subst hdst
 exact wpAnyH_take hi hs hf hr (fun _ _ _ h=>h) (Or.inr ⟨hw,rfl⟩) hS h
theorem zx {i:Nat} {S:World→Prop} {oi:Oper} {d:Option Nat} {f:FuncId} {args:Array Value} {fuel:Nat} {listed:Array Bool} {a:Act} {w:World} (hi:ops[i]? =some oi)
  (hr:Region.ready .any ops listed=[i]) (hw:Region.wanted oi (yielded ops a.tmps)=true) (hy:(execOp a.eval oi).run P w=.ok (.enter f args) w) (hdst:oi.dst=d)
  (h:Calls P f args w fun e w'=>∃v,e=.returned v∧S w'∧HeldS P ops Q S fuel (listed.setIfInBounds i true) (a.put d v) w'):HeldS P ops Q S (fuel+1) listed a w:=by
 subst hdst
 refine wpAnyH_all hr (by simp) ?_
 intro j hj
 obtain rfl:j=i:=by simpa using hj
 unfold wpOp
 simp only[hi,hw,if_true]
 left
 unfold Oper.wp
 rw[hy]
 refine h.mono ?_
 rintro e w' ⟨v,rfl,hb,hk⟩
 exact⟨hb,hk⟩
theorem zaa {i:Nat} {S:World→Prop} {oi:Oper} {d:Option Nat} {v:Value} {fuel:Nat} {listed:Array Bool} {a:Act} {w w':World} (hi:ops[i]? =some oi)
  (hr:Region.ready .any ops listed=[i]) (hw:Region.wanted oi (yielded ops a.tmps)=true) (hy:(execOp a.eval oi).run P w=.ok (.value v) w') (hdst:oi.dst=d)
  (hS:S w') (h:HeldS P ops Q S fuel (listed.setIfInBounds i true) (a.put d v) w'):HeldS P ops Q S (fuel+1) listed a w:=by
 subst hdst
 refine wpAnyH_all hr (by simp) ?_
 intro j hj
 obtain rfl:j=i:=by simpa using hj
 unfold wpOp
 simp only[hi,hw,if_true]
 left
 unfold Oper.wp
 rw[hy]
 exact⟨hS,h⟩
theorem zU {i:Nat} {S:World→Prop} {oi:Oper} {fuel:Nat} {listed:Array Bool} {a:Act} {w w':World} (hi:ops[i]? =some oi)
  (hr:Region.ready .any ops listed=[i]) (hw:Region.wanted oi (yielded ops a.tmps)=true) (hy:(execOp a.eval oi).run P w=.ok .skip w') (hdst:oi.dst=none)
  (hS:S w') (h:HeldS P ops Q S fuel (listed.setIfInBounds i true) a w'):HeldS P ops Q S (fuel+1) listed a w:=by
 refine wpAnyH_all hr (by simp) ?_
 intro j hj
 obtain rfl:j=i:=by simpa using hj
 unfold wpOp
 simp only[hi,hw,if_true]
 left
 unfold Oper.wp
 rw[hy]
 refine⟨hS,?_⟩
 rw[hdst]
 exact h
theorem zE {S:World→Prop} {fuel:Nat} {listed:Array Bool} {a:Act} {w:World} (hr:Region.ready .any ops listed=[]) (h:Q .normal a w):HeldS P ops Q S fuel listed a w:=
 wpAnyH_done hr (NoPanic.normal h) fuel
end
end Go.Proofs.YtcbpbkefggekmaaGreatDoor
namespace Go.Proofs.YtcbpbkefggekmaaGreatDoor
open Go.RowKit
open Sha
namespace Sha
def four (x:Wd):List Int:=[byteOf x 0,byteOf x 1,byteOf x 2,byteOf x 3]
end Sha
theorem zim (b off len cap:Nat) (x:Wd) (w:World) (hl:4≤len) (hl2:len≤64) (hT:w.there b off 4):
   Calls prog 151 #[.slice (some ⟨b,off,none⟩) len cap,.int .u32 (x.toNat:Int)] w fun e w'=>e=.returned (.tuple #[])∧w'=w.setCells b off (v8 (four x)):=by
  have hx:=x.isLt
  obtain⟨u0,h0⟩:=Option.isSome_iff_exists.1 (hT 0 (by omega)).1
  obtain⟨u1,h1⟩:=Option.isSome_iff_exists.1 (hT 1 (by omega)).1
  obtain⟨u2,h2⟩:=Option.isSome_iff_exists.1 (hT 2 (by omega)).1
  obtain⟨u3,h3⟩:=Option.isSome_iff_exists.1 (hT 3 (by omega)).1
  have f0:=(hT 0 (by omega)).2
  have f1:=(hT 1 (by omega)).2
  have f2:=(hT 2 (by omega)).2
  have f3:=(hT 3 (by omega)).2
  rw[Nat.add_zero]at h0 f0
  have hw:((((w.setCell ⟨b,off,none⟩ (.int .u8 ((x.toNat:Int) / 16777216))).setCell ⟨b,off+1,none⟩ (.int .u8 ((x.toNat:Int) / 65536%256))).setCell ⟨b,off+2,none⟩ (.int .u8 ((x.toNat:Int) / 256%256))).setCell ⟨b,off+3,none⟩ (.int .u8 ((x.toNat:Int)%256)))=w.setCells b off (v8 (four x)):=by
    have b0:(x.toNat:Int) / 16777216=Sha.byteOf x 0:=by unfold Sha.byteOf;simp;omega
    have b1:(x.toNat:Int) / 65536%256=Sha.byteOf x 1:=by unfold Sha.byteOf;simp
    have b2:(x.toNat:Int) / 256%256=Sha.byteOf x 2:=by unfold Sha.byteOf;simp
    have b3:(x.toNat:Int)%256=Sha.byteOf x 3:=by unfold Sha.byteOf;simp
    rw[b0,b1,b2,b3];rfl
  have HW:Hid (_=_):=hw
  clear hw
  go_enter func151,ntmps151
  go_wp2_with fail
  go_end0
  exact⟨rfl,HW.out⟩
open Go.RowKit
open Sha
def RowAt (w:World) (a:Option Addr) (zs:List Int):Prop:=
 zs.length≤maxLen∧(∀z∈zs,0≤z∧z<256)∧(zs=[]∨∃b off,a=some ⟨b,off,none⟩∧b<w.heap.size∧w.rangeAt b off (v8 zs))
theorem RowAt.below {w w':World} {a:Option Addr} {zs:List Int} (h:RowAt w a zs) (hb:Below w.heap.size w w'):RowAt w' a zs:=by
 refine⟨h.1,h.2.1,?_⟩
 rcases h.2.2 with h|⟨b,off,rfl,h1,h2⟩
 ·exact Or.inl h
 ·exact Or.inr ⟨b,off,rfl,Nat.lt_of_lt_of_le h1 hb.size,zd h2 hb h1⟩
theorem RowAt.gb {w w':World} {a:Option Addr} {zs:List Int} {R:Nat} (h:RowAt w a zs) (hb:w.grownBy w' (some R)) (hne:zs=[]∨∀x,a=some x→x.block≠R):RowAt w' a zs:=by
 refine⟨h.1,h.2.1,?_⟩
 rcases h.2.2 with h|⟨b,off,rfl,h1,h2⟩
 ·exact Or.inl h
 ·rcases hne with hne|hne
  ·exact Or.inl hne
  ·exact Or.inr ⟨b,off,rfl,Nat.lt_of_lt_of_le h1 hb.size,zeQ h2 hb (hne _ rfl)⟩
def cutA (a:Option Addr) (cap n:Nat):Option Addr:=if cap=n then a else a.map (·.add n)
theorem zbv {a:Option Addr} {R cap n:Nat} (h:∀x,a=some x→x.block≠R):∀x,cutA a cap n=some x→x.block≠R:=by
  intro x hx
  unfold cutA at hx
  split at hx
  · exact h x hx
  · cases a with
    |none=>simp at hx
    |some y=>
      simp at hx
      subst hx
      have:=h y rfl
      unfold Addr.add
      split<;>simpa using this
theorem RowAt.take {w:World} {a:Option Addr} {zs:List Int} (h:RowAt w a zs) (n:Nat):RowAt w a (zs.take n):=by
 obtain⟨h1,h2,h3⟩:=h
 refine⟨by rw[List.length_take];omega,fun z hz=>h2 z (List.mem_of_mem_take hz),?_⟩
 rcases h3 with rfl|⟨b,off,rfl,hb,hc⟩
 ·left;simp
 ·right
  refine⟨b,off,rfl,hb,?_⟩
  have e:v8 zs=v8 (zs.take n)++v8 (zs.drop n):=by unfold v8;rw[←List.map_append,List.take_append_drop]
  rw[e]at hc
  exact zP hc
theorem RowAt.drop {w:World} {a:Option Addr} {zs:List Int} (h:RowAt w a zs) (n cap:Nat) (hn:n≤zs.length) (hcap:zs.length≤cap):RowAt w (cutA a cap n) (zs.drop n):=by
 obtain⟨h1,h2,h3⟩:=h
 refine⟨by rw[List.length_drop];omega,fun z hz=>h2 z (List.mem_of_mem_drop hz),?_⟩
 by_cases he:n=zs.length
 ·left;simp[he]
 ·rcases h3 with rfl|⟨b,off,rfl,hb,hc⟩
  ·left;simp
  ·right
   refine⟨b,off+n,?_,hb,?_⟩
   ·unfold cutA
    rw[if_neg (by omega),Option.map_some,Addr.add_mid]
   ·have e:v8 zs=v8 (zs.take n)++v8 (zs.drop n):=by unfold v8;rw[←List.map_append,List.take_append_drop]
    rw[e]at hc
    have:=zZ hc
    rwa [v8_length,List.length_take_of_le hn]at this
structure Run (w:World) (R:Nat) (s:St) (wait:List Int) (n:Nat):Prop where
 two:2≤R
 lt:R<w.heap.size
 thr:w.there R 0 74
 wds:w.rangeAt R 0 (v32 (list s))
 few:wait.length<64
 ok:∀z∈wait,0≤z∧z<256
 buf:∃junk:List Int,wait.length+junk.length=64∧w.rangeAt R 8 (v8 (wait++junk))
 held:w.cell? ⟨R,72,none⟩=some (.int .i64 (wait.length:Int))
 count:w.cell? ⟨R,73,none⟩=some (.int .u64 (n:Int))
 kls:w.rangeAt 1 0 (v32 kl)
namespace Sha
theorem zcB (p:St ×List Int) (a b:List Int):feeds p (a++b)=feeds (feeds p a) b:=by simp[feeds,List.foldl_append]
theorem zfM (s:St) (wait:List Int) (zs:List Int) (h:wait.length+zs.length<64):feeds (s,wait) zs=(s,wait++zs):=by
  induction zs generalizing wait with
  |nil=>simp[feeds]
  |cons z r ih=>
    simp only[List.length_cons]at h
    have e:feeds (s,wait) (z::r)=feeds (feed (s,wait) z) r:=rfl
    rw[e,feed,if_neg (by simp;omega),ih (wait++[z]) (by simp;omega)]
    simp
theorem zjV (s:St) (wait:List Int) (zs:List Int) (h:wait.length+zs.length=64) (hz:wait.length<64):feeds (s,wait) zs=(block s (wait++zs),[]):=by
 obtain⟨ys,z,rfl⟩:∃ys z,zs=ys++[z]:=by
  have hne:zs≠[]:=by intro e;rw[e]at h;simp at h;omega
  exact⟨zs.dropLast,zs.getLast hne,(List.dropLast_concat_getLast hne).symm⟩
 simp only[List.length_append,List.length_cons,List.length_nil]at h
 rw[zcB,zfM s wait ys (by omega)]
 show feed (s,wait++ys) z=_
 rw[feed,if_pos (by simp;omega)]
 simp
end Sha
theorem Run.drewN {w:World} {R:Nat} {s:St} {wait:List Int} {n:Nat} (h:Run w R s wait n) (k:Nat):Run (w.drewN k) R s wait n:=by
 obtain⟨h1,h2,h3,h4,h5,h6,⟨junk,h7,h8⟩,h9,h10,h11⟩:=h
 exact⟨h1,h2,zcb h3,zaK h4,h5,h6,⟨junk,h7,zaK h8⟩,h9,h10,zaK h11⟩
def lenV:Value→Nat
  |.slice _ n _=>n
  |_=>0
theorem Run.set73 {w:World} {R:Nat} {s:St} {wait:List Int} {n:Nat} (h:Run w R s wait n) (m:Nat):Run (w.setCell ⟨R,73,none⟩ (.int .u64 (m:Int))) R s wait m:=by
 obtain⟨h1,h2,h3,h4,h5,h6,⟨junk,h7,h8⟩,h9,h10,h11⟩:=h
 refine⟨h1,by simpa using h2,zaf h3 _ _,za0 h4 _ _ (fun _=>by right;show 0+(v32 (list s)).length≤73;simp[list]),h5,h6,⟨junk,h7,za0 h8 _ _ (fun _=>by right;show 8+(v8 (wait++junk)).length≤73;simp;omega)⟩,?_,World.cell?_setCell_same _ _ _ h10,za0 h11 _ _ (fun e=>absurd e (by simp;omega))⟩
 rw[World.cell?_setCell_other _ _ _ _ (by simp)];exact h9
structure Mid (w:World) (R:Nat) (s:St) (bs:List Int) (n:Nat):Prop where
 two:2≤R
 lt:R<w.heap.size
 thr:w.there R 0 74
 wds:w.rangeAt R 0 (v32 (list s))
 len:bs.length≤64
 ok:∀z∈bs,0≤z∧z<256
 buf:∃junk:List Int,bs.length+junk.length=64∧w.rangeAt R 8 (v8 (bs++junk))
 held:w.cell? ⟨R,72,none⟩=some (.int .i64 (bs.length:Int))
 count:w.cell? ⟨R,73,none⟩=some (.int .u64 (n:Int))
 kls:w.rangeAt 1 0 (v32 kl)
theorem zav (a b:List Int):v8 (a++b)=v8 a++v8 b:=by simp[v8]
theorem Run.fill {w:World} {R:Nat} {s:St} {wait:List Int} {n:Nat} (h:Run w R s wait n) (c:List Int) (hc:wait.length+c.length≤64) (hz:∀z∈c,0≤z∧z<256) (wx:World)
  (hw:wx=(w.setCells R (8+wait.length) (v8 c)).setCell ⟨R,72,none⟩ (.int .i64 ((wait.length:Int)+(c.length:Int)))):Mid wx R s (wait++c) n:=by
 subst hw
 obtain⟨h1,h2,h3,h4,h5,h6,⟨junk,h7,h8⟩,h9,h10,h11⟩:=h
 have hl4:(v32 (list s)).length=8:=by simp[list]
 have hj:c.length≤junk.length:=by omega
 obtain⟨j1,j2,rfl,hj1⟩:∃j1 j2,junk=j1++j2∧j1.length=c.length:=⟨junk.take c.length,junk.drop c.length,(List.take_append_drop _ _).symm,by rw[List.length_take];omega⟩
 simp only[List.length_append]at h7
 have hrA:(w.setCells R (8+wait.length) (v8 c)).rangeAt R (8+wait.length) (v8 c):=World.rangeAt_setCells_same w R (8+wait.length) (v8 c) (by
  rw[v8_length]
  have:=zan h3 (8+wait.length) c.length (by omega)
  rwa [Nat.zero_add]at this)
 have hW:(w.setCells R (8+wait.length) (v8 c)).rangeAt R 8 (v8 ((wait++c)++j2)):=by
  rw[zav,zav]
  rw[zav,zav,←List.append_assoc]at h8
  have q1:=zP (zP h8)
  have q2:=zZ h8
  refine zaU (zaU (World.rangeAt_setCells_apart q1 _ _ _ (Or.inr (Or.inl (by simp)))) (by rw[v8_length];exact hrA)) ?_
  have q3:=World.rangeAt_setCells_apart q2 R (8+wait.length) (v8 c) (Or.inr (Or.inr (by simp[hj1];omega)))
  simp only[List.length_append,v8_length,hj1]at q3 ⊢
  exact q3
 have hs:(w.setCells R (8+wait.length) (v8 c)).heap.size=w.heap.size:=zH _ _ _ _
 refine⟨h1,by simpa [hs]using h2,zaf (World.there_setCells h3 _ _ _) _ _,?_,by simp;omega,?_,⟨j2,by simp;omega,?_⟩,?_,?_,?_⟩
 ·exact za0 (World.rangeAt_setCells_apart h4 _ _ _ (Or.inr (Or.inl (by rw[hl4];omega)))) _ _ (fun _=>by right;show 0+(v32 (list s)).length≤72;omega)
 ·intro z hz'
  rcases List.mem_append.1 hz' with q|q
  ·exact h6 z q
  ·exact hz z q
 ·exact za0 hW _ _ (fun _=>by right;show 8+(v8 (wait++c++j2)).length≤72;simp;omega)
 ·have:(w.setCells R (8+wait.length) (v8 c)).cell? ⟨R,72,none⟩=w.cell? ⟨R,72,none⟩:=World.cell?_setCells_out R _ _ _ _ (fun _ _=>by right;show 8+wait.length+(v8 c).length≤72;simp;omega)
  rw[World.cell?_setCell_same _ _ _ (this.trans h9)]
  simp
 ·rw[World.cell?_setCell_other _ _ _ _ (by simp)]
  have:(w.setCells R (8+wait.length) (v8 c)).cell? ⟨R,73,none⟩=w.cell? ⟨R,73,none⟩:=World.cell?_setCells_out R _ _ _ _ (fun _ _=>by right;show 8+wait.length+(v8 c).length≤73;simp;omega)
  rw[this];exact h10
 ·exact za0 (World.rangeAt_setCells_apart h11 _ _ _ (Or.inl (by omega))) _ _ (fun e=>absurd e (by simp;omega))
theorem Mid.run {w:World} {R:Nat} {s:St} {bs:List Int} {n:Nat} (h:Mid w R s bs n) (hl:bs.length<64):Run w R s bs n:=⟨h.two,h.lt,h.thr,h.wds,hl,h.ok,h.buf,h.held,h.count,h.kls⟩
theorem Mid.turned {w w1:World} {R:Nat} {s r:St} {bs:List Int} {n:Nat} (h:Mid w R s bs n) (hw:w1.rangeAt R 0 (v32 (list r))) (hk:Keep R w w1):Run (w1.setCell ⟨R,72,none⟩ (.int .i64 0)) R r [] n:=by
 obtain⟨h1,h2,h3,h4,h5,h6,⟨junk,h7,h8⟩,h9,h10,h11⟩:=h
 obtain⟨k1,k2,k3⟩:=hk
 have hl4:(v32 (list r)).length=8:=by simp[list]
 have c72:=(k1 72 (by omega)).trans h9
 refine⟨h1,by have:=k3.size;simp;omega,?_,za0 hw _ _ (fun _=>by right;show 0+(v32 (list r)).length≤72;omega),by simp,by simp,⟨bs++junk,by simpa using h7,?_⟩,World.cell?_setCell_same _ _ _ c72,?_,?_⟩
 ·refine zaf (fun j hj=>?_) _ _
  obtain⟨u1,u2⟩:=h3 j hj
  rw[Nat.zero_add]at u1 u2 ⊢
  refine⟨?_,by rw[k2];exact u2⟩
  by_cases q:j<8
  ·have:=hw.isSome j (by omega)
   rwa [Nat.zero_add]at this
  ·rw[k1 j (by omega)];exact u1
 ·refine za0 (fun j v hv=>?_) _ _ (fun _=>by right;show 8+(v8 ([]++(bs++junk))).length≤72;simp;omega)
  rw[k1 _ (by omega)];exact h8 j v hv
 ·rw[World.cell?_setCell_other _ _ _ _ (by simp),k1 73 (by omega)];exact h10
 ·exact za0 (zeQ h11 k3 (by omega)) _ _ (fun e=>absurd e (by simp;omega))
theorem zfE (R:Nat):∀(vs:List Value) (o:Nat) (w:World),w.grownBy (w.setCells R o vs) (some R)
  |[],_,w=>zaF w _
  |v::r,o,w=>zt (zN w R o v) (zfE R r (o+1) _)
theorem zgr (R:Nat) (s:St) (wait:List Int) (n:Nat) (a:Option Addr) (cap:Nat) (zs:List Int) (w:World) (h:Run w R s wait n) (hr:RowAt w a zs) (hcap:zs.length≤cap) (hcm:cap≤maxLen) (hne:zs=[]∨∀x,a=some x→x.block≠R) (hn:n+zs.length<18446744073709551616):
   Calls prog 103 #[.pointer (some ⟨R,0,none⟩),.slice a zs.length cap] w fun e w'=>e=.returned (.tuple #[])∧Run w' R (feeds (s,wait) zs).1 (feeds (s,wait) zs).2 (n+zs.length)∧w.grownBy w' (some R):=by
  unfold maxLen at hcm
  have hc:=h.count
  have hf:=(h.thr 73 (by omega)).2
  rw[Nat.zero_add]at hf
  go_enter func103,ntmps103
  go_wp2_with fail
  have hR0:=h.set73 (n+zs.length)
  have hg0:=zN w R 73 (.int .u64 ((n+zs.length:Nat):Int))
  have hr0:=hr.gb hg0 hne
  rw[show((n:Int)+(zs.length:Int))=((n+zs.length:Nat):Int) by omega]
  obtain⟨N,hN⟩:∃N,Hid (n+zs.length=N):=⟨_,rfl⟩
  rw[hN.out]at hR0 hg0 hr0 ⊢
  go_name_world w0 hw0
  rw[hw0]at hR0 hg0 hr0
  clear hc hf hw0 h hr hn
  have HA:Hid (zs.length≤cap):=hcap
  go_loopw [1] (fun b wr=>∃(pre rest:List Int) (s1:St) (wt:List Int) (a':Option Addr) (cap':Nat),Hid (zs=pre++rest)∧Hid (feeds (s,wait) pre=(s1,wt))∧b=.slice a' rest.length cap'∧rest.length≤cap'∧cap'≤9223372036854775807∧RowAt wr a' rest∧(rest=[]∨∀x,a'=some x→x.block≠R)∧Run wr R s1 wt N∧w.grownBy wr (some R)) (fun b _=>lenV b)
  case atStart=>exact⟨[],zs,s,wait,a,cap,rfl,rfl,rfl,hcap,by omega,hr0,hne,hR0,hg0⟩
  case round=>
    clear hR0 hg0 hr0 hne hcap hcm
    obtain⟨pre,rest,s1,wt,a',cap',hzs,hfd,rfl,hrc,hcm,hr,hne,hRun,hg⟩:=hrel
    by_cases hlt:0<rest.length
    · have hlt':(0:Int)<rest.length:=by omega
      obtain⟨b,off,rfl,hbs,hrg⟩:∃b off,a'=some ⟨b,off,none⟩∧b<wr.heap.size∧wr.rangeAt b off (v8 rest):=by
        rcases hr.2.2 with rfl|q
        · simp at hlt
        · exact q
      have hne:∀x,some (⟨b,off,none⟩:Addr)=some x→x.block≠R:=hne.resolve_left (fun e=>by rw[e]at hlt;simp at hlt)
      have few:=hRun.few
      obtain⟨m,hm⟩:∃m,m=Nat.min rest.length (64 - wt.length):=⟨_,rfl⟩
      have hm1:m≤rest.length:=by rw[hm];exact Nat.min_le_left _ _
      have hm2:m≤64 - wt.length:=by rw[hm];exact Nat.min_le_right _ _
      have hm3:0<m:=by rw[hm];exact Nat.lt_min.2 ⟨hlt,by omega⟩
      have hlm:(rest.take m).length=m:=List.length_take_of_le hm1
      have hcp := run_copy_cells (P := prog) wr.drew 59 59 3 5 R (8 + wt.length) (64 - wt.length) (64 - wt.length) ⟨b, off, none⟩ rest.length cap' (v8 (rest.take m)) underlying59 isz8 (by rw [v8_length, hlm, hm]) (fun j v hv => by
          rw[Addr.add_mid,World.cell?_drew]
          have e:v8 rest=v8 (rest.take m)++v8 (rest.drop m):=by rw[←zav,List.take_append_drop]
          rw[e]at hrg
          exact zP hrg j v hv)
        (fun j hj=>by
          rw[v8_length,hlm]at hj
          have:=(zan hRun.thr (8+wt.length) m (by omega) j hj).1
          rw[Nat.zero_add]at this
          rw[World.cell?_drew];exact this)
        (fun j hj=>by
          rw[v8_length,hlm]at hj
          have:=(zan hRun.thr (8+wt.length) m (by omega) j hj).2
          rw[Nat.zero_add]at this
          rw[World.frozen?_drew];exact this) (zI _)
      rw[v8_length,hlm]at hcp
      have hsl:=zc6 (w:=wr.drew) underlying169 isz8 R 8 wt.length (wt.length:Int) rfl few
      have hhd:=hRun.held
      have hf72:=(hRun.thr 72 (by omega)).2
      rw[Nat.zero_add]at hf72
      have HM:Hid (m=Nat.min rest.length (64 - wt.length)):=hm
      have c72:(wr.drew.setCells R (8+wt.length) (v8 (rest.take m))).cell? ⟨R,72,none⟩=some (.int .i64 (wt.length:Int)):=by
        rw[World.cell?_setCells_out R _ _ _ _ (fun _ _=>by right;show 8+wt.length+(v8 (rest.take m)).length≤72;rw[v8_length,hlm];omega),World.cell?_drew];exact hhd
      have f72:(wr.drew.setCells R (8+wt.length) (v8 (rest.take m))).frozen? ⟨R,72,none⟩=false:=by
        rw[World.frozen?_setCells,World.frozen?_drew];exact hf72
      have HX:Hid (∀wx,wx=(wr.drew.setCells R (8+wt.length) (v8 (rest.take m))).setCell ⟨R,72,none⟩ (.int .i64 ((wt.length:Int)+(m:Int)))→Mid wx R s1 (wt++rest.take m) N):=fun wx hwx=>(hRun.drewN 1).fill (rest.take m) (by rw[hlm];omega) (fun z hz=>hr.2.1 z (List.mem_of_mem_take hz)) wx (by rw[hlm];exact hwx)
      have HG:Hid (∀wx,wx=(wr.drew.setCells R (8+wt.length) (v8 (rest.take m))).setCell ⟨R,72,none⟩ (.int .i64 ((wt.length:Int)+(m:Int)))→wr.grownBy wx (some R)):=fun wx hwx=>by
        rw[hwx];exact zt (zt (zjL (zaF wr _)) (zfE R _ _ _)) (zN _ _ _ _)
      have HREL : Hid (∀ (wx : World) (s2 : St) (wt2 : List Int), Run wx R s2 wt2 N → feeds (s1, wt) (rest.take m) = (s2, wt2) → wr.grownBy wx (some R) → ∀ (a2 : Option Addr) (l2 c2 : Nat), a2 = cutA (some ⟨b, off, none⟩) cap' m → l2 = rest.length - m → c2 = cap' - m →
          (∃(pre rest:List Int) (s1:St) (wt:List Int) (a':Option Addr) (cap':Nat),Hid (zs=pre++rest)∧Hid (feeds (s,wait) pre=(s1,wt))∧Value.slice a2 l2 c2=.slice a' rest.length cap'∧rest.length≤cap'∧cap'≤9223372036854775807∧RowAt wx a' rest∧(rest=[]∨∀x,a'=some x→x.block≠R)∧Run wx R s1 wt N∧w.grownBy wx (some R))):=by
        intro wx s2 wt2 h1 h2 h3 a2 l2 c2 e1 e2 e3
        subst e1 e2 e3
        refine⟨pre++rest.take m,rest.drop m,s2,wt2,cutA (some ⟨b,off,none⟩) cap' m,cap' - m,?_,?_,by simp,by simp;omega,by omega,((hr.drop m cap' hm1 hrc).gb h3 (Or.inr (zbv hne))),Or.inr (zbv hne),h1,zt hg h3⟩
        · show zs=_
          rw[List.append_assoc,List.take_append_drop];exact hzs.out
        · show feeds _ _=_
          rw[zcB,hfd.out];exact h2
      have hzt:∀z∈rest.take m,0≤z∧z<256:=fun z hz=>hr.2.1 z (List.mem_of_mem_take hz)
      have HLM:Hid ((rest.take m).length=m):=hlm
      clear hm hlm hrg hRun hr hg hne hzs hfd HA hN
      by_cases hfull:wt.length+m=64
      · have hf':(wt.length:Int)+(m:Int)=64:=by omega
        have hM:=HX.out _ rfl
        have hG:=HG.out _ rfl
        rw[hf']at hM hG
        have hl64:(wt++rest.take m).length=64:=by rw[List.length_append,HLM.out];exact hfull
        obtain⟨junk,hj1,hj2⟩:=hM.buf
        have hj0:junk=[]:=List.eq_nil_of_length_eq_zero (by omega)
        subst hj0
        rw[List.append_nil]at hj2
        have ct:=zhe R s1 (wt++rest.take m) _ hl64 hM.ok hM.two hM.lt hM.wds hj2 (by have:=zan hM.thr 0 8 (by omega);simpa using this) hM.kls
        have HF:Hid (feeds (s1,wt) (rest.take m)=(block s1 (wt++rest.take m),[])):=zjV s1 wt (rest.take m) (by rw[HLM.out];exact hfull) few
        have HM2:Hid (Mid _ R s1 (wt++rest.take m) N):=hM
        clear hM HX HG hj1 hj2 hl64 hzt few
        go_wp2_with fail
        go_region
        clear hcp hsl
        go_wp2_with fail
        all_goals
          refine ct.mono ?_
          rintro e w2 ⟨rfl,hw2,hk2⟩
          have hRun2:=HM2.out.turned hw2 hk2
          have hg2:=zt (zt hG hk2.2.2) (zN w2 R 72 (.int .i64 0))
          have c72':=hk2.1 72 (by omega)
          rw[World.cell?_setCell_same _ _ _ c72]at c72'
          have f72':=hk2.2.1 72
          rw[World.frozen?_setCell,f72]at f72'
          clear ct
          go_wp2_with fail
          go_roundw
          case rel=>
            refine HREL.out _ _ _ hRun2 HF.out hg2 _ _ _ ?_ ?_ ?_
            · simp[cutA,Addr.add_mid, *]
            · rfl
            · omega
          case measure=>simp[lenV];omega
      · have hf':¬(wt.length:Int)+(m:Int)=64:=by omega
        have hM:=HX.out _ rfl
        have hG:=HG.out _ rfl
        have hRun2:=hM.run (by rw[List.length_append,HLM.out];omega)
        have HF:Hid (feeds (s1,wt) (rest.take m)=(s1,wt++rest.take m)):=zfM s1 wt (rest.take m) (by rw[HLM.out];omega)
        clear hM HX HG hzt few
        go_wp2_with fail
        go_region
        clear hcp hsl
        go_wp2_with fail
        go_roundw
        case rel=>
          refine HREL.out _ _ _ hRun2 HF.out hG _ _ _ ?_ ?_ ?_
          · simp[cutA,Addr.add_mid]
          · rfl
          · rfl
        case measure=>simp[lenV];omega
    · have hlt':¬(0:Int)<rest.length:=by omega
      have h0:rest=[]:=List.eq_nil_of_length_eq_zero (by omega)
      subst h0
      have e:=hzs.out
      rw[List.append_nil]at e
      have e2:=hfd.out
      rw[←e]at e2
      have HE:Hid (feeds (s,wait) zs=(s1,wt)):=e2
      have HN:Hid (n+zs.length=N):=hN.out
      clear e e2 hzs hfd hN
      go_wp2_with fail
      go_end0
      refine⟨rfl,?_,hg⟩
      rw[HE.out,HN.out]
      exact hRun
open Go.RowKit
open Sha
structure Bk (w wr:World) (cs:List Value) (xs:List Wd):Prop where
 bel:Below w.heap.size w wr
 box:wr.rangeAt w.heap.size 0 cs
 tb:wr.there w.heap.size 0 8
 tr:wr.there (w.heap.size+1) 0 8
 arr:wr.rangeAt (w.heap.size+2) 0 (v32 xs)
 ta:wr.there (w.heap.size+2) 0 64
 sz:w.heap.size+3≤wr.heap.size
def k' (t:Nat):Wd:=k t
open Go.RowKit
open Sha
theorem zeR {w:World} {b o:Nat} {cs old rest vs:List Value} (h:w.rangeAt b o (cs++old++rest)) (hl:old.length=vs.length) (ht:w.there b (o+cs.length) vs.length):(w.setCells b (o+cs.length) vs).rangeAt b o (cs++vs++rest):=by
 have q1:=zP (zP h)
 have q2:=zZ h
 refine zaU (zaU (World.rangeAt_setCells_apart q1 _ _ _ (Or.inr (Or.inl (Nat.le_refl _)))) (World.rangeAt_setCells_same w b _ vs ht)) ?_
 have q3:=World.rangeAt_setCells_apart q2 b (o+cs.length) vs (Or.inr (Or.inr (by simp[hl];omega)))
 simp only[List.length_append,hl]at q3 ⊢
 exact q3
theorem zcY {w w':World} {R b o n:Nat} (h:w.there b o n) (g:w.grownBy w' (some R)) (hb:b<w.heap.size) (hn:b≠R):w'.there b o n:=fun j hj=>by
 obtain⟨h1,h2⟩:=h j hj
 obtain⟨u,hu⟩:=Option.isSome_iff_exists.1 h1
 refine⟨by rw[g.cell hu (by simpa using hn)];rfl,?_⟩
 rw[World.frozen?_of_block (w:=w) (g.block b hb (by simpa using hn))];exact h2
theorem zjJ {w wr:World} {r:Option Nat} {D:Nat} (h:w.grownBy wr r) (hD:w.heap.size≤D) (o:Nat) (v:Value):w.grownBy (wr.setCell ⟨D,o,none⟩ v) r:=
 ⟨h.os,h.tape,h.output,by simpa using h.size,fun k hk hr=>(Below.heap_setCell wr ⟨D,o,none⟩ v k (by show k≠D;omega)).trans (h.block k hk hr)⟩
theorem zdv {w:World} {r:Option Nat} {D:Nat} (hD:w.heap.size≤D):∀(vs:List Value) (o:Nat) (wr:World),w.grownBy wr r→w.grownBy (wr.setCells D o vs) r
  |[],_,_,h=>h
  |v::vs,o,_,h=>zdv hD vs (o+1) _ (zjJ h hD o v)
namespace Sha
theorem zhG (xs:List Int) (n:Nat) (x:Int) (hn:0<n):(xs++List.replicate n (0:Int)).set xs.length x=(xs++[x])++List.replicate (n - 1) (0:Int):=by
 obtain⟨m,rfl⟩:∃m,n=m+1:=⟨n - 1,by omega⟩
 simp[List.replicate_succ]
def s8at (N i:Nat):Int:=((N / 2^(56 - 8*i)%256:Nat):Int)
theorem zce (N:Nat):(size8 N).length=8:=by simp[size8]
theorem zhA (N k:Nat) (hk:k<8):(size8 N).take (k+1)=(size8 N).take k++[s8at N k]:=by
 rw[List.take_succ_eq_append_getElem (by rw[zce];exact hk)]
 simp[size8,s8at]
theorem zhB (N:Nat):∀z∈size8 N,0≤z∧z<256:=by
 intro z hz
 obtain⟨i,_,rfl⟩:=List.mem_map.1 hz
 omega
theorem zhk (n:Nat):∀z∈tail n,0≤z∧z<256:=by
 intro z hz
 unfold tail at hz
 rcases List.mem_cons.1 hz with rfl|hz
 ·decide
 ·rcases List.mem_append.1 hz with hz|hz
  ·obtain⟨_,rfl⟩:=List.mem_replicate.1 hz;decide
  ·exact zhB _ z hz
theorem zhl (n:Nat):(tail n).length=9+(119 - n%64)%64:=by
 simp[tail,zce];omega
theorem shift8 (n k:Nat):8*(n:Int) / 2^(56 - 8*k)%256=s8at (8*n) k:=by
 unfold s8at
 simp
def outb (xs:List Wd):List Int:=xs.flatMap four
theorem zb1 (s:St):bytes s=outb (list s):=rfl
theorem ziI (xs:List Wd) (x:Wd):outb (xs++[x])=outb xs++four x:=by simp[outb]
theorem zcp (xs:List Wd):(outb xs).length=4*xs.length:=by
  induction xs with
  |nil=>rfl
  |cons x r ih=>
    have:outb (x::r)=four x++outb r:=by simp[outb]
    rw[this,List.length_append,ih];simp[four];omega
theorem zjM (x:Wd):∀z∈four x,0≤z∧z<256:=by
 intro z hz
 simp only[four,List.mem_cons,List.not_mem_nil,or_false]at hz
 rcases hz with rfl|rfl|rfl|rfl<;>unfold Sha.byteOf<;>omega
theorem ziJ (xs:List Wd):∀z∈outb xs,0≤z∧z<256:=by
 intro z hz
 obtain⟨x,_,hx⟩:=List.mem_flatMap.1 hz
 exact zjM x z hx
theorem zjW (p:St ×List Int) (z:Int) (h:p.2.length<64):(feed p z).2.length=(p.2.length+1)%64∧(feed p z).2.length<64:=by
 unfold feed
 by_cases e:p.2.length=63
 ·rw[if_pos e];simp[e]
 ·rw[if_neg e];simp;omega
theorem zjU (zs:List Int) (p:St ×List Int) (h:p.2.length<64):(feeds p zs).2.length=(p.2.length+zs.length)%64∧(feeds p zs).2.length<64:=by
  induction zs generalizing p with
  |nil=>simp[feeds];omega
  |cons z r ih=>
    have e:feeds p (z::r)=feeds (feed p z) r:=rfl
    obtain⟨h1,h2⟩:=zjW p z h
    obtain⟨h3,h4⟩:=ih (feed p z) h2
    rw[e]
    refine⟨?_,h4⟩
    rw[h3,h1];simp;omega
end Sha
theorem idx8 (s:St) (j:Nat) (hj:j<8):∃x,(list s).take (j+1)=(list s).take j++[x]∧∀w,(Instr.index 168 (.agg (v32 (list s)).toArray) (.int .i64 (j:Int))).run prog w=.ok (.int .u32 (x.toNat:Int)) w:=by
  match j,hj with
  |0,_=>exact⟨s.a,rfl,fun _=>by kernel_rfl⟩
  |1,_=>exact⟨s.b,rfl,fun _=>by kernel_rfl⟩
  |2,_=>exact⟨s.c,rfl,fun _=>by kernel_rfl⟩
  |3,_=>exact⟨s.d,rfl,fun _=>by kernel_rfl⟩
  |4,_=>exact⟨s.e,rfl,fun _=>by kernel_rfl⟩
  |5,_=>exact⟨s.f,rfl,fun _=>by kernel_rfl⟩
  |6,_=>exact⟨s.g,rfl,fun _=>by kernel_rfl⟩
  |7,_=>exact⟨s.h,rfl,fun _=>by kernel_rfl⟩
theorem isz24:(prog.info? 41).map (·.size)=some 32:=by kernel_rfl
theorem isz51:(prog.info? 168).map (·.size)=some 8:=by kernel_rfl
theorem zaM (w:World) (n:Nat) (t:TypeId):(w.alloc (.cells (Array.replicate n (.int .u8 0)) t)).rangeAt w.heap.size 0 (v8 (List.replicate n (0:Int)))∧(w.alloc (.cells (Array.replicate n (.int .u8 0)) t)).there w.heap.size 0 n:=by
 have h1:=zy w (Array.replicate n (.int .u8 0)) t
 have h2:=zK w (Array.replicate n (.int .u8 0)) t
 exact⟨by simpa [v8]using h1,by simpa using h2⟩
theorem Run.below {w w':World} {R:Nat} {s:St} {wait:List Int} {n:Nat} (h:Run w R s wait n) (hb:Below w.heap.size w w'):Run w' R s wait n:=by
 obtain⟨h1,h2,h3,h4,h5,h6,⟨junk,h7,h8⟩,h9,h10,h11⟩:=h
 exact⟨h1,Nat.lt_of_lt_of_le h2 hb.size,zq h3 hb h2,zd h4 hb h2,h5,h6,⟨junk,h7,zd h8 hb h2⟩,(hb.cell (p:=⟨R,72,none⟩) h2).trans h9,(hb.cell (p:=⟨R,73,none⟩) h2).trans h10,zd h11 hb (by omega)⟩
namespace Sha
def pre (fill N k:Nat):List Int:=((128:Int)::List.replicate (fill - 1) 0)++(size8 N).take k
theorem zir (fill N k:Nat) (hf:1≤fill) (hk:k≤8):(pre fill N k).length=fill+k:=by
 simp[pre,zce];omega
theorem ziq (fill N k:Nat) (hk:k<8):pre fill N (k+1)=pre fill N k++[s8at N k]:=by
 unfold pre;rw[zhA N k hk,List.append_assoc]
theorem zip (n fill:Nat) (h:fill=1+(119 - n%64)%64):pre fill (8*n) 8=Sha.tail n:=by
 unfold pre Sha.tail
 rw[List.take_of_length_le (by rw[zce];omega),h]
 simp
end Sha
theorem zkc (R:Nat) (s:St) (wait:List Int) (n:Nat) (w:World) (h:Run w R s wait n) (hh:wait.length=n%64) (hn:n<1152921504606846976):
   Calls prog 104 #[.pointer (some ⟨R,0,none⟩)] w fun e w'=>e=.returned (.agg (v8 (Sha.bytes (feeds (s,wait) (Sha.tail n)).1)).toArray)∧w.grownBy w' (some R):=by
  have hc:=h.count
  have hd:=h.held
  have few:=h.few
  have hRs:=h.lt
  obtain⟨fill,hfill,hfi⟩:∃fill:Nat,Hid (fill=1+(119 - n%64)%64)∧(64:Int) - ((wait.length:Int)+8)%64=(fill:Int):=⟨1+(119 - n%64)%64,rfl,by rw[hh];omega⟩
  have hf1:1≤fill:=by rw[hfill.out];omega
  have hf2:fill≤64:=by rw[hfill.out];omega
  have HH:Hid (wait.length=n%64):=hh
  have hz:∀w,(zeroValue 215).run prog w=.ok (.agg (Array.replicate 72 (.int .u8 0))) w:=fun _=>by kernel_rfl
  clear hh
  go_enter func104,ntmps104
  go_upto_region 4 with fail
  go_name_world w1 hw1
  obtain⟨hB1,hZ,hT,hT0,hz1⟩:Below w.heap.size w w1∧w1.rangeAt (w.heap.size+1) 0 (v8 (List.replicate 72 (0:Int)))∧w1.there (w.heap.size+1) 0 72∧w1.there w.heap.size 0 32∧w1.heap.size=w.heap.size+2:=by
    have q:=zaM (w.alloc (.cells (Array.replicate 32 (.int .u8 0)) 41)) 72 215
    have q2:=World.there_alloc (zaM w 32 41).2 (.cells (Array.replicate 72 (.int .u8 0)) 215)
    have es:(w.alloc (.cells (Array.replicate 32 (.int .u8 0)) 41)).heap.size=w.heap.size+1:=by simp
    have hB:Below w.heap.size w ((w.alloc (.cells (Array.replicate 32 (.int .u8 0)) 41)).alloc (.cells (Array.replicate 72 (.int .u8 0)) 215)):=((Below.refl _ _).alloc (Nat.le_refl _) _).alloc (by simp) _
    have hs:((w.alloc (.cells (Array.replicate 32 (.int .u8 0)) 41)).alloc (.cells (Array.replicate 72 (.int .u8 0)) 215)).heap.size=w.heap.size+2:=by simp
    rw[es]at q
    rw[show(w.alloc (.cells (Array.replicate 32 (.int .u8 0)) 41)).alloc (.cells (Array.replicate 72 (.int .u8 0)) 215)=w1 from hw1]at q q2 hB hs
    exact⟨hB,q.1,q.2,q2,hs⟩
  clear hw1 hz hc hd few hfi
  obtain⟨u0,hu0⟩:=Option.isSome_iff_exists.1 (hT 0 (by omega)).1
  have hf0:=(hT 0 (by omega)).2
  rw[Nat.add_zero]at hu0 hf0
  go_wp2_with fail
  have hZ0:=zap hZ 0 (.int .u8 128)
  rw[zb8]at hZ0
  have hS0:(List.replicate 72 (0:Int)).set 0 128=Sha.pre fill (8*n) 0++List.replicate (72 - fill - 0) (0:Int):=by
    unfold Sha.pre
    rw[List.take_zero,List.append_nil,List.cons_append,List.replicate_append_replicate,show fill - 1+(72 - fill - 0)=71 by omega]
    rfl
  rw[hS0]at hZ0
  have hT1:=zaf hT ⟨w.heap.size+1,0,none⟩ (.int .u8 128)
  have hT2:=zaf hT0 ⟨w.heap.size+1,0,none⟩ (.int .u8 128)
  have hB2:=hB1.setCell (p:=⟨w.heap.size+1,0,none⟩) (by simp) (.int .u8 128)
  have hz2:(w1.setCell ⟨w.heap.size+1,0,none⟩ (.int .u8 128)).heap.size=w.heap.size+2:=by simpa using hz1
  clear hS0 hu0 hf0 hT hT0 hB1 hZ
  go_loopw [23] (fun i wr=>∃k:Nat,k≤8∧i=.int .i64 (k:Int)∧wr.rangeAt (w.heap.size+1) 0 (v8 (Sha.pre fill (8*n) k++List.replicate (72 - fill - k) (0:Int)))∧wr.there (w.heap.size+1) 0 72∧wr.there w.heap.size 0 32∧Below w.heap.size w wr∧wr.heap.size=w.heap.size+2) (fun i _=>8 - (intOf i).toNat)
  case atStart=>exact⟨0,by omega,rfl,hZ0,hT1,hT2,hB2,hz2⟩
  case round=>
    clear hZ0 hT1 hT2 hB2 hz2
    obtain⟨k,hk,rfl,hZ,hT,hT0,hB,hsz⟩:=hrel
    by_cases hlt:k<8
    · obtain⟨u,hu⟩:=Option.isSome_iff_exists.1 (hT (fill+k) (by omega)).1
      have hf:=(hT (fill+k) (by omega)).2
      rw[Nat.zero_add]at hu hf
      go_wp2_with fail
      rw[shift8]
      go_roundw
      case rel=>
        refine⟨k+1,by omega,by go_num,?_,zaf hT _ _,zaf hT0 _ _,hB.setCell (p:=⟨w.heap.size+1,fill+k,none⟩) (by simp) _,by simpa using hsz⟩
        have:=zap hZ (fill+k) (.int .u8 (s8at (8*n) k))
        rw[Nat.zero_add,zb8]at this
        have e1:=zhG (Sha.pre fill (8*n) k) (72 - fill - k) (s8at (8*n) k) (by omega)
        rw[zir _ _ _ hf1 hk]at e1
        rw[e1]at this
        rw[ziq _ _ _ hlt]
        exact this
      case measure=>simp[intOf];omega
    · obtain rfl:k=8:=by omega
      rw[zip n fill hfill.out]at hZ
      have hlt:(Sha.tail n).length=fill+8:=by rw[zhl,hfill.out];omega
      have hrow:RowAt wr (some ⟨w.heap.size+1,0,none⟩) (Sha.tail n):=⟨by rw[hlt];unfold maxLen;omega,zhk n,Or.inr ⟨_,_,rfl,by omega,by rw[zav]at hZ;exact zP hZ⟩⟩
      have hRun:=h.below hB
      have ca:=zgr R s wait n (some ⟨w.heap.size+1,0,none⟩) 72 (Sha.tail n) wr hRun hrow (by omega) (by unfold maxLen;omega) (Or.inr (fun x hx=>by cases hx;simp;omega)) (by omega)
      rw[hlt]at ca
      have hsl:=zeq (w:=wr) underlying215 isz8 (w.heap.size+1) 0 (fill+8) ((fill:Int)+8) (by omega) (by omega) (by omega)
      obtain⟨p,hp⟩:∃p,Hid (feeds (s,wait) (Sha.tail n)=p):=⟨_,rfl⟩
      rw[hp.out]at ca
      clear hZ hT hrow hRun hlt hfill
      go_wp2_with fail
      refine ca.mono ?_
      rintro e w2 ⟨rfl,hR2,hg2⟩
      clear ca hsl
      have hs2:=hg2.size
      have hT2:w2.there w.heap.size 0 32:=zcY hT0 hg2 (by omega) (by omega)
      have hgw:w.grownBy w2 (some R):=zt (zW hB _) hg2
      have hW2:=hR2.wds
      have hR2lt:=hR2.lt
      obtain⟨r,hr⟩:∃r,Hid (p.1=r):=⟨_,rfl⟩
      rw[hr.out]at hW2
      have hDw:w.heap.size<w2.heap.size:=by omega
      clear hR2 hT0 hB hsz hg2 h
      have q:=zaM w2 32 41
      have hW3:=World.rangeAt_alloc hW2 (.cells (Array.replicate 32 (.int .u8 0)) 41)
      have hT3:=World.there_alloc hT2 (.cells (Array.replicate 32 (.int .u8 0)) 41)
      have hg3:w.grownBy (w2.alloc (.cells (Array.replicate 32 (.int .u8 0)) 41)) (some R):=zt hgw (World.grownBy_alloc _ _ _)
      have hi8:(prog.info? 168).map (·.size)=some (v32 (list r)).length:=by rw[v32_length];exact isz51
      go_wp2_with (refine wpList_load_mid rfl 168 _ rfl R 0 rfl (v32 (list r)) _ hW3 underlying168 rfl hi8 ?_)
      go_name_world w3 hw3
      rw[show w2.alloc (.cells (Array.replicate 32 (.int .u8 0)) 41)=w3 from hw3]at q hT3 hg3
      obtain⟨hZ3,hN3⟩:=q
      clear hw3 hW3 hi8 hW2 hgw hT2
      have hDR:w2.heap.size≠R:=by omega
      generalize w2.heap.size=D at hZ3 hN3 hDR hDw ⊢
      clear hs2 hR2lt
      go_loopw [46] (fun i wr=>∃j:Nat,j≤8∧i=.int .i64 (j:Int)∧wr.rangeAt D 0 (v8 (outb ((list r).take j)++List.replicate (32 - 4*j) (0:Int)))∧wr.there D 0 32∧wr.there w.heap.size 0 32∧w.grownBy wr (some R)) (fun i _=>8 - (intOf i).toNat)
      case atStart=>exact⟨0,by omega,rfl,hZ3,hN3,hT3,hg3⟩
      case round=>
        clear hZ3 hN3 hT3 hg3
        obtain⟨j,hj,rfl,hZ,hT,hT0,hg⟩:=hrel
        by_cases hl8:j<8
        · obtain⟨x,hx,hix⟩:=idx8 r j hl8
          have HXX:Hid ((list r).take (j+1)=(list r).take j++[x]):=hx
          clear hx
          have hth:wr.there D (4*j) 4:=by
            have:=zan hT (4*j) 4 (by omega)
            rwa [Nat.zero_add]at this
          have cp:=zim D (4*j) (32 - 4*j) (32 - 4*j) x wr (by omega) (by omega) hth
          have hsl:=zc6 (w:=wr) underlying41 isz8 D 0 (4*j) (4*(j:Int)) (by omega) (by omega)
          rw[Nat.zero_add]at hsl
          go_wp2_with fail
          refine cp.mono ?_
          rintro e w4 ⟨rfl,rfl⟩
          clear cp hsl hix
          go_wp2_with fail
          go_roundw
          case rel=>
            refine⟨j+1,by omega,by go_num,?_,World.there_setCells hT _ _ _,World.there_setCells hT0 _ _ _,zdv (by omega) _ _ _ hg⟩
            rw[HXX.out,ziI]
            have hol:(outb ((list r).take j)).length=4*j:=by rw[zcp,List.length_take];simp[list];omega
            have e0:List.replicate (32 - 4*j) (0:Int)=List.replicate 4 (0:Int)++List.replicate (32 - 4*(j+1)) (0:Int):=by
              rw[List.replicate_append_replicate];congr 1;omega
            rw[e0,←List.append_assoc,zav,zav]at hZ
            have:=zeR (vs:=v8 (four x)) hZ (by simp[four]) (by rw[v8_length,hol,Nat.zero_add];exact hth)
            rw[v8_length,hol,Nat.zero_add,←zav,←zav]at this
            exact this
          case measure=>simp[intOf];omega
        · obtain rfl:j=8:=by omega
          have hZ8:wr.rangeAt D 0 (v8 (Sha.bytes r)):=by
            have e8:(list r).take 8=list r:=rfl
            rw[e8]at hZ
            simpa [zb1]using hZ
          have hbl:(v8 (Sha.bytes r)).length=32:=by rw[v8_length,zb1,zcp];rfl
          have h1c:=zI (Sha.bytes r)
          obtain⟨cs,hcs⟩:∃cs,Hid (v8 (Sha.bytes r)=cs):=⟨_,rfl⟩
          rw[hcs.out]at hZ8 hbl h1c
          have hi:(prog.info? 41).map (·.size)=some cs.length:=by rw[hbl];exact isz24
          go_upto_region 17 with fail
          refine wp_region_list ?_
          refine wpList_load_mid rfl 41 _ rfl _ _ rfl cs _ hZ8 underlying41 rfl hi ?_
          refine wpList_store_mid rfl 41 _ _ rfl _ _ cs.toArray rfl rfl (by simpa [hbl]using hT0) (by simpa using hi) (all_oneCell_toArray h1c) ?_
          have hRr:=World.rangeAt_setCells_same wr w.heap.size 0 cs (by rw[hbl];exact hT0)
          have hgl:=zdv (Nat.le_refl _) cs 0 wr hg
          generalize wr.setCells w.heap.size 0 cs=wx at *
          have hrs:=run_loadVar_mid (P:=prog) wx w.heap.size 0 41 cs _ hRr underlying41 rfl hi
          clear hi
          go_wp2_with fail
          refine bodyPost_ret (v:=.agg cs.toArray) (by simp[results,results104,Act.put,asAddr,hrs]) rfl ⟨by rw[hp.out,hr.out,hcs.out],hgl⟩
open Go.RowKit
open Sha
def Glob (w:World):Prop:=w.rangeAt 0 0 (v32 (list init))∧w.rangeAt 1 0 (v32 kl)∧2≤w.heap.size
theorem Glob.below {w w':World} (h:Glob w) (hb:Below w.heap.size w w'):Glob w':=
 ⟨zd h.1 hb (by have:=h.2.2;omega),zd h.2.1 hb (by have:=h.2.2;omega),Nat.le_trans h.2.2 hb.size⟩
def vinit:List Value:=v32 (list init)++v8 (List.replicate 64 (0:Int))++[.int .i64 0,.int .u64 0]
theorem isz55:(prog.info? 172).map (·.size)=some 74:=by kernel_rfl
theorem zea:∀v∈vinit,v.oneCell'=true:=by
 intro v hv
 rcases List.mem_append.1 hv with hv|hv
 ·rcases List.mem_append.1 hv with hv|hv
  ·exact zcU _ v hv
  ·exact zI _ v hv
 ·simp at hv
  rcases hv with rfl|rfl<;>rfl
def vzero:List Value:=v32 (List.replicate 8 (0:Wd))++v8 (List.replicate 64 (0:Int))++[.int .i64 0,.int .u64 0]
theorem zero55 (w:World):(zeroValue 172).run prog w=.ok (.agg vzero.toArray) w:=by kernel_rfl
theorem new55 (w:World):(w.alloc (.cells vzero.toArray 172)).there w.heap.size 0 vinit.toArray.size:=zK w vzero.toArray 172
theorem zkJ (w:World) (h:Glob w):
   Calls prog 102 #[] w fun e w'=>e=.returned (.agg vinit.toArray)∧Below w.heap.size w w':=by
  have hz:=zero55
  have hfo:List.foldl (fun(cs:Array Value) (x:Value ×Nat)=>cs.setIfInBounds x.snd x.fst) vzero.toArray (v32 (list init)).zipIdx=vinit.toArray:=by kernel_rfl
  have hN:=new55 w
  have hI:=World.rangeAt_alloc h.1 (.cells vzero.toArray 172)
  have F:=zA w vzero.toArray 172 vinit rfl
  have hi:(prog.info? 172).map (·.size)=some vinit.toArray.size:=isz55
  have h1c:=zea
  have hvl:(v32 (list init)).length=8:=rfl
  have hzl:vzero.length=74:=rfl
  have hi8:(prog.info? 168).map (·.size)=some (v32 (list init)).length:=isz51
  obtain⟨vi,hvi⟩:∃vi,Hid (vinit=vi):=⟨_,rfl⟩
  obtain⟨vs,hvs⟩:∃vs,Hid (v32 (list init)=vs):=⟨_,rfl⟩
  rw[hvi.out]at hN F hi h1c
  rw[hvs.out]at hI hi8 hvl
  rw[hvs.out,hvi.out]at hfo
  rw[hvi.out]
  generalize vzero=vz at *
  go_enter func102,ntmps102
  go_upto_region 1 with fail
  refine wp_region_list ?_
  refine wpList_load_mid rfl 168 _ rfl 0 0 rfl vs _ hI underlying168 rfl hi8 ?_
  go_wp2_with (refine wpList_store_mid rfl 172 _ _ rfl _ _ vi.toArray rfl rfl hN hi (all_oneCell_toArray h1c) ?_)
  obtain⟨hF1,hF2,hF3,hF4⟩:=F
  generalize (w.alloc (.cells vz.toArray 172)).setCells w.heap.size 0 vi=wx at *
  have hrs:=run_loadVar_mid (P:=prog) wx w.heap.size 0 172 vi _ hF1 underlying172 rfl (by simpa using hi)
  refine bodyPost_ret (v:=.agg vi.toArray) (by simp[results,results102,Act.put,asAddr,hrs]) rfl ⟨rfl,hF2⟩
structure Part where
 a:Option Addr
 cap:Nat
 zs:List Int
def Part.val (p:Part):Value:=.slice p.a p.zs.length p.cap
def Part.at (p:Part) (w:World):Prop:=RowAt w p.a p.zs∧p.zs.length≤p.cap∧p.cap≤maxLen
def PartsAt (w:World) (a:Option Addr) (ps:List Part):Prop:=
 ps.length≤maxLen∧(∀p∈ps,p.at w)∧(ps=[]∨∃b off,a=some ⟨b,off,none⟩∧b<w.heap.size∧w.rangeAt b off (ps.map Part.val))
def cat (ps:List Part):List Int:=ps.flatMap Part.zs
theorem Part.at.below {w w':World} {p:Part} (h:p.at w) (hb:Below w.heap.size w w'):p.at w':=⟨h.1.below hb,h.2.1,h.2.2⟩
theorem PartsAt.below {w w':World} {a:Option Addr} {ps:List Part} (h:PartsAt w a ps) (hb:Below w.heap.size w w'):PartsAt w' a ps:=by
 refine⟨h.1,fun p hp=>(h.2.1 p hp).below hb,?_⟩
 rcases h.2.2 with q|⟨b,off,rfl,h1,h2⟩
 ·exact Or.inl q
 ·exact Or.inr ⟨b,off,rfl,Nat.lt_of_lt_of_le h1 hb.size,zd h2 hb h1⟩
theorem zf7 (p q:List Part):cat (p++q)=cat p++cat q:=by simp[cat]
theorem zdH (ps:List Part) (k:Nat) (hk:k<ps.length):cat (ps.take (k+1))=cat (ps.take k)++ps[k].zs:=by
 rw[List.take_succ_eq_append_getElem hk,zf7]
 congr 1
 simp[cat]
theorem zkx (ps:List Part) (k:Nat):(cat (ps.take k)).length≤(cat ps).length:=by
 have e:cat ps=cat (ps.take k)++cat (ps.drop k):=by rw[←zf7,List.take_append_drop]
 rw[e,List.length_append];omega
theorem zhM (w:World) (R:Nat) (hg:Glob w) (hR:R<w.heap.size) (h2:2≤R) (hr:w.rangeAt R 0 vinit) (ht:w.there R 0 74):Run w R init [] 0:=by
 refine⟨h2,hR,ht,?_,by simp,by simp,⟨List.replicate 64 (0:Int),by simp,?_⟩,?_,?_,hg.2.1⟩
 ·exact zP (zP hr)
 ·have:=zZ (zP hr);exact this
 ·exact hr 72 _ rfl
 ·exact hr 73 _ rfl
theorem zc4 (a:Option Addr) (cap:Nat) (ps:List Part) (w:World) (hG:Glob w) (h:PartsAt w a ps) (hn:(cat ps).length<1152921504606846976):
   Calls prog 63 #[.slice a ps.length cap] w fun e w'=>e=.returned (.agg (v8 (sha (cat ps))).toArray)∧Below w.heap.size w w':=by
  have hm:=h.1
  unfold maxLen at hm
  have hz:=zero55
  have B1:Below w.heap.size w (w.alloc (.cells (Array.replicate 32 (.int .u8 0)) 41)):=(Below.refl _ _).alloc (Nat.le_refl _) _
  have cb:=zkJ (w.alloc (.cells (Array.replicate 32 (.int .u8 0)) 41)) (hG.below B1)
  have hD:=(zaM w 32 41).2
  have hi:(prog.info? 172).map (·.size)=some vinit.toArray.size:=isz55
  have h1c:=zea
  go_enter func63,ntmps63
  go_wp2_with fail
  refine cb.mono ?_
  rintro e w1 ⟨rfl,hw1⟩
  clear cb
  have hN:=new55 w1
  have F:=zA w1 vzero.toArray 172 vinit rfl
  have hs1:=hw1.size
  simp only[World.size_alloc]at hs1
  have hB1:Below w.heap.size w w1:=B1.trans (hw1.mono (by simp))
  have hD1:=zq hD hw1 (by simp)
  clear hw1 hD B1
  obtain⟨vi,hvi⟩:∃vi,Hid (vinit=vi):=⟨_,rfl⟩
  rw[hvi.out]at hN F hi h1c ⊢
  have HZL:Hid (vzero.toArray.size=74):=rfl
  generalize vzero=vz at *
  go_wp2_with (refine wpList_store_mid rfl 172 _ _ rfl _ _ vi.toArray rfl rfl hN hi (all_oneCell_toArray h1c) ?_)
  go_name_world w2 hw2
  rw[hw2]at F
  obtain⟨hF1,hF2,hF3,hF4⟩:=F
  rw[←hvi.out]at hF1
  have hB2:=hB1.trans (hF2.mono (by omega))
  have hD2:=zq hD1 hF2 (by omega)
  have hGw2:=hG.below hB2
  have hR0:=zhM w2 w1.heap.size hGw2 (by omega) (by have:=hG.2.2;omega) hF1 (zan hF4 0 74 (by rw[←HZL.out];simp))
  clear hw2 hN hi h1c hz hF1 hF2 hF4 hB1 hD1 hGw2
  have hRw:w.heap.size<w1.heap.size:=by omega
  generalize w1.heap.size=R at hR0 hF3 hRw ⊢
  go_loopw [9] (fun i wr=>∃(k:Nat) (s:St) (wt:List Int) (N:Nat),k≤ps.length∧i=.int .i64 (k:Int)∧Hid (feeds (init,[]) (cat (ps.take k))=(s,wt))∧Hid ((cat (ps.take k)).length=N)∧Run wr R s wt N∧Below w.heap.size w wr∧wr.there w.heap.size 0 32) (fun i _=>ps.length - (intOf i).toNat)
  case atStart=>exact⟨0,init,[],0,by omega,rfl,rfl,rfl,hR0,hB2,hD2⟩
  case round=>
    clear hR0 hB2 hD2 hF3
    obtain⟨k,s,wt,N,hk,rfl,hfd,hN,hRun,hB,hD⟩:=hrel
    by_cases hlt:k<ps.length
    · obtain ⟨b, off, rfl, hbs, hrg⟩ : ∃ b off, a = some ⟨b, off, none⟩ ∧ b < w.heap.size ∧ w.rangeAt b off (ps.map Part.val) := by
        rcases h.2.2 with rfl|q
        · simp at hlt
        · exact q
      obtain⟨pa,pc,pz,hp,hat⟩:∃pa pc pz,Hid (ps[k]=⟨pa,pc,pz⟩)∧(⟨pa,pc,pz⟩:Part).at w:=by
        have:=h.2.1 ps[k] (List.getElem_mem hlt)
        exact⟨ps[k].a,ps[k].cap,ps[k].zs,rfl,this⟩
      have hcell:wr.cell? ⟨b,off+k,none⟩=some (.slice pa pz.length pc):=by
        rw[hB.cell (p:=⟨b,off+k,none⟩) hbs]
        refine hrg k _ ?_
        rw[List.getElem?_map,List.getElem?_eq_getElem hlt,hp.out];rfl
      obtain⟨hr,hpc,hpm⟩:=hat
      have hbe:=hB.size
      have htot:N+pz.length≤(cat ps).length:=by
        have:=zkx ps (k+1)
        rw[zdH ps k hlt,List.length_append,hN.out,hp.out]at this
        exact this
      have ca:=zgr R s wt N pa pc pz wr hRun (hr.below hB) hpc hpm (by
        rcases hr.2.2 with q|⟨b',o',hx',hb',_⟩
        · exact Or.inl q
        · exact Or.inr (fun x hx=>by rw[show pa=some ⟨b',o',none⟩ from hx']at hx;cases hx;show b'≠R;omega)) (by omega)
      have HS:Hid (feeds (init,[]) (cat (ps.take (k+1)))=feeds (s,wt) pz):=by
        show _=_
        rw[zdH ps k hlt,zcB,hfd.out,hp.out]
      have HN:Hid ((cat (ps.take (k+1))).length=N+pz.length):=by
        show _=_
        rw[zdH ps k hlt,List.length_append,hN.out,hp.out]
      clear hp hr hfd hN hpm htot hpc
      go_wp2_with fail
      refine ca.mono ?_
      rintro e w3 ⟨rfl,hR3,hg3⟩
      clear ca
      go_wp2_with fail
      go_roundw
      case rel=>
        refine⟨k+1,_,_,_,by omega,by go_num,HS,HN,hR3,hB.grown hg3 hB.size (fun j hj=>by cases hj;omega),zcY hD hg3 (by have:=hRun.lt;omega) (by omega)⟩
      case measure=>simp[intOf];omega
    · obtain rfl:k=ps.length:=by omega
      rw[List.take_length]at hfd hN
      have hwt:=zjU (cat ps) (init,[]) (by simp)
      rw[hfd.out,hN.out]at hwt
      have ce:=zkc R s wt N wr hRun (by simpa using hwt.1) (by rw[←hN.out];exact hn)
      have HR:Hid (Sha.bytes (feeds (s,wt) (Sha.tail N)).1=sha (cat ps)):=by
        show _=_
        unfold sha
        rw[zcB,hfd.out,hN.out]
      rw[HR.out]at ce
      have hsl:(v8 (sha (cat ps))).length=32:=by rw[v8_length];unfold sha;rw[zb1,zcp];rfl
      have h1c:=zI (sha (cat ps))
      obtain⟨cs,hcs⟩:∃cs,Hid (v8 (sha (cat ps))=cs):=⟨_,rfl⟩
      rw[hcs.out]at ce hsl h1c
      clear HR hwt hN hfd
      go_wp2_with fail
      refine ce.mono ?_
      rintro e w3 ⟨rfl,hg3⟩
      clear ce
      have hD3:=zcY hD hg3 (by have:=hRun.lt;omega) (by omega)
      have hB3:Below w.heap.size w w3:=hB.grown hg3 hB.size (fun j hj=>by cases hj;omega)
      have hi:(prog.info? 41).map (·.size)=some cs.toArray.size:=by rw[List.size_toArray,hsl];exact isz24
      have hsz:cs.toArray.size=32:=by rw[List.size_toArray,hsl]
      have hD4:w3.there w.heap.size 0 cs.toArray.size:=by rw[hsz];exact hD3
      go_wp2_with (refine wpList_store_mid rfl 41 _ _ rfl _ _ cs.toArray rfl rfl hD4 hi (all_oneCell_toArray h1c) ?_)
      have hRr:=World.rangeAt_setCells_same w3 w.heap.size 0 cs (by rw[hsl];exact hD3)
      have hBl:=zi (Nat.le_refl w.heap.size) cs 0 w3 hB3
      have hrs:=run_loadVar_mid (P:=prog) (w3.setCells w.heap.size 0 cs) w.heap.size 0 41 cs _ hRr underlying41 rfl (by rw[hsl];exact isz24)
      refine bodyPost_ret (v:=.agg cs.toArray) (by simp[results,results63,Act.put,asAddr,hrs]) rfl ⟨by rw[hcs.out],hBl⟩
open Go Go.RowKit
section
variable {P : Program} (w : World)
theorem zc9 (base:Nat) (t tx ty e:TypeId) (i:TypeInfo) (z:Value) (size bytes:Nat) (ht:P.underlying t=some (.slice e)) (hi:P.info? e=some i) (hz:i.zero=some z)
    (hsize:i.size=size) (hby:i.bytes=bytes) (hzs:z.cells.size=size)
    (v:Value) (n:Nat) (xs:List Value) (hown:w.ownsRow base e size v n xs)
    (x:Value) (m:Nat) (news:List Value) (hs:Src P size tx x m news w)
    (h63:n+m≤maxLen) (hbytes:(n+m)*bytes≤140737488355328) (hbase:base≤w.heap.size):
    ∃v' w',(Builtin.append_ #[t,tx] ty #[v,x]).run P w=.ok v' w'∧w'.ownsRow base e size v' (n+m) (xs++news)∧w.grownBy w' v.ownBlock:=by
  subst hsize
  subst hby
  have hl:=hs.newsLen
  have hlen:(xs++news).length=(n+m)*i.size:=by rw[List.length_append,hown.1,hl,Nat.add_mul]
  have grown : ∀ (old : Nat), old < n + m → ∀ (row : Option Nat),
      (w.drew.alloc (.cells ((xs++news).toArray++Builtin.zeroCells z.cells (grownCap w (n+m) old e - (n+m))) e)).ownsRow base e i.size
        (.slice (some ⟨w.heap.size,0,none⟩) (n+m) (grownCap w (n+m) old e)) (n+m) (xs++news)∧
      w.grownBy (w.drew.alloc (.cells ((xs++news).toArray++Builtin.zeroCells z.cells (grownCap w (n+m) old e - (n+m))) e)) row:=by
    intro old ho row
    have hge:=grownCap_ge w (n+m) old e
    have hcm:grownCap w (n+m) old e≤maxLen:=grownCap_le_maxLen w (n+m) old e h63
    refine⟨⟨hlen,.inr ⟨w.heap.size,_,_,rfl,hbase,heap_alloc_new w.drew _,hge,hcm,?_,?_⟩⟩,⟨rfl,rfl,rfl,by simp,fun k hk _=>Below.heap_alloc w.drew _ k hk⟩⟩
    · simp only[Array.size_append,List.size_toArray,size_zeroCells,hzs,hlen,←Nat.add_mul]
      congr 1
      omega
    · simp only[Array.toList_append]
      rw[←hlen]
      exact List.take_left
  have h63':((n+m:Nat):Int)≤9223372036854775807:=by simp only[maxLen]at h63;omega
  rcases hown.2 with⟨rfl,rfl⟩|⟨g,cap,cur,rfl,hbg,hg,hnc,hcm,hcs,htake⟩
  · have hx:xs=[]:=List.eq_nil_of_length_eq_zero (by simpa using hown.1)
    subst hx
    by_cases hm:m=0
    · subst hm
      have hn:news=[]:=List.eq_nil_of_length_eq_zero (by simpa using hl)
      subst hn
      refine⟨.slice none 0 0,w,?_,World.ownsRow_nil w base e i.size,⟨rfl,rfl,rfl,Nat.le_refl _,fun _ _ _=>rfl⟩⟩
      have hc:=hs.cells
      rcases hs.kind with⟨e',hk⟩|hk<;>simp[Builtin.append_,run_underlying ht,run_underlying hk,sizeOf,typeInfo,hi,hs.len,hc]
    · have hr:=run_append_grow_src (P:=P) w t tx ty e i z ht hi hz none 0 0 [] (run_firstCells_none w.drew i.size 0 0 0) x m news hs (by omega) (by simpa using h63') (growslice_fits (by omega) (by simpa using hbytes))
      have hgr:=grown 0 (by omega) (Value.ownBlock (.slice none 0 0))
      exact⟨_,_,hr,hgr.1,hgr.2⟩
  · by_cases hroom:n+m≤cap
    · have hfit:n*i.size+news.length≤cur.size:=by rw[hl,hcs,←Nat.add_mul];exact Nat.mul_le_mul_right _ hroom
      have hst:=run_storeCells_at P g (n*i.size) e news 0 cur w hg (by simpa using hfit) hs.one
      simp only[Nat.add_zero]at hst
      have hr:(Builtin.append_ #[t,tx] ty #[.slice (some ⟨g,0,none⟩) n cap,x]).run P w=.ok (.slice (some ⟨g,0,none⟩) (n+m) cap) (w.setRow g (cur.toList.take (n*i.size)++news++cur.toList.drop (n*i.size+news.length)).toArray):=by
        rcases hs.kind with⟨e',hk⟩|hk<;>simp[Builtin.append_,run_underlying ht,run_underlying hk,sizeOf,typeInfo,hi,hs.len,hroom,hs.cells,Addr.add_lit,hst]
      refine⟨_,_,hr,⟨hlen,.inr ⟨g,cap,_,rfl,hbg,setRow_heap w g cur _ e _ hg,hroom,hcm,?_,?_⟩⟩,⟨rfl,rfl,rfl,by simp,fun k _ hk=>setRow_other w g k _ (fun e=>hk (by simp[Value.ownBlock,e]))⟩⟩
      · simp only[List.size_toArray,List.length_append,List.length_take,List.length_drop,Array.length_toList]
        omega
      · rw[htake,←hlen]
        exact List.take_left
    · have holds:∀j u,xs[j]? =some u→w.cell? ((⟨g,0,none⟩:Addr).add j)=some u:=hown.cells (g:=g) rfl
      have hr:=run_append_grow_src (P:=P) w t tx ty e i z ht hi hz (some ⟨g,0,none⟩) n cap xs (run_firstCells_some w.drew i.size n ⟨g,0,none⟩ n cap xs hown.1 (by simpa using holds)) x m news hs (by omega) h63' (growslice_fits (by omega) hbytes)
      have hgr:=grown cap (by omega) (Value.ownBlock (.slice (some ⟨g,0,none⟩) n cap))
      exact⟨_,_,hr,hgr.1,hgr.2⟩
theorem zac {ops:Array Oper} {rest:List Oper} {o:Oper} {a:Act} {Q:Exit→Act→World→Prop} (hgd:o.guard=none) (s x:Operand) (t tx:TypeId)
  (ho:o.op=.call {callee:=.builtin .append,args:=#[s,x],argTypes:=#[t,tx]})
  (base:Nat) (e:TypeId) (i:TypeInfo) (z:Value) (size bytes:Nat) (ht:P.underlying t=some (.slice e)) (hi:P.info? e=some i) (hz:i.zero=some z)
  (hsize:i.size=size) (hby:i.bytes=bytes) (hzs:z.cells.size=size)
  (v:Value) (n:Nat) (xs:List Value) (hv:a.eval s=v) (hown:w.ownsRow base e size v n xs)
  (xv:Value) (m:Nat) (news:List Value) (hx:a.eval x=xv) (hs:Src P size tx xv m news w)
  (h63:n+m≤maxLen) (hbytes:(n+m)*bytes≤140737488355328) (hbase:base≤w.heap.size)
  (h:∀v' w',w'.ownsRow base e size v' (n+m) (xs++news)→w.grownBy w' v.ownBlock→wpList P ops Q rest (a.put o.dst v') w'):wpList P ops Q (o::rest) a w:=by
 refine wpList_plain hgd fun K hK=>?_
 obtain⟨v',w',hr,h2,h3⟩:=zc9 (P:=P) w base t tx o.type e i z size bytes ht hi hz hsize hby hzs v n xs hown xv m news hs h63 hbytes hbase
 unfold Oper.wp execOp
 simp only[ho,resolve,invoke,builtin,Sem.run_bind,Sem.run_pure,Result.andThen_ok,List.map_toArray,List.map_cons,List.map_nil,hv,hx,hr]
 exact hK _ _ (h v' w' h2 h3)
end
end Go.Proofs.YtcbpbkefggekmaaGreatDoor
namespace Go.Proofs.YtcbpbkefggekmaaGreatDoor
open Go.RowKit
open Sha
theorem info8:(prog.info? 5).map (fun i=>(i.zero,i.size,i.bytes))=some (some (.int .u8 0),1,1):=by kernel_rfl
theorem infoP:(prog.info? 59).map (fun i=>(i.zero,i.size,i.bytes))=some (some (.slice none 0 0),1,24):=by kernel_rfl
theorem zT {e:TypeId} {z:Value} {s b:Nat} (h:(prog.info? e).map (fun i=>(i.zero,i.size,i.bytes))=some (some z,s,b)):∃i,prog.info? e=some i∧i.zero=some z∧i.size=s∧i.bytes=b:=by
  cases hq:prog.info? e with
  |none=>rw[hq]at h;cases h
  |some i=>
    rw[hq]at h
    simp only[Option.map_some,Option.some.injEq,Prod.mk.injEq]at h
    exact⟨i,rfl,h.1,h.2.1,h.2.2⟩
theorem zau {B:Nat} {w w1 w2:World} {e:TypeId} {v:Value} {n:Nat} {xs:List Value} (hb:Below B w w1) (hB:B≤w1.heap.size) (ho:w1.ownsRow B e 1 v n xs) (hg:w1.grownBy w2 v.ownBlock):Below B w w2:=
 hb.grown hg hB (fun k hk=>(ho.lt k hk).1)
theorem ziv {w w':World} {B:Nat} {e:TypeId} {v:Value} {n:Nat} {xs:List Value} (h:w.ownsRow B e 1 v n xs) (hb:Below w.heap.size w w'):w'.ownsRow B e 1 v n xs:=by
 refine⟨h.1,?_⟩
 rcases h.2 with h|⟨g,cap,cur,hv,hg,hh,r⟩
 ·exact .inl h
 ·exact .inr ⟨g,cap,cur,hv,hg,by rw[hb.block g (Array.getElem?_eq_some_iff.1 hh).1];exact hh,r⟩
theorem zaV {w:World} {B:Nat} {e:TypeId} {v:Value} {n:Nat} {xs:List Value} (h:w.ownsRow B e 1 v n xs):
  (v=.slice none 0 0∧n=0∧xs=[])∨∃g cap,v=.slice (some ⟨g,0,none⟩) n cap∧B≤g∧g<w.heap.size∧n≤cap∧cap≤maxLen∧w.rangeAt g 0 xs:=by
 have hl:=h.1
 rcases h.2 with⟨rfl,h0⟩|⟨g,cap,cur,rfl,hb,hg,hn,hcm,hcs,ht⟩
 ·left
  refine⟨rfl,h0,List.eq_nil_of_length_eq_zero (by rw[hl,h0])⟩
 ·right
  refine⟨g,cap,rfl,hb,(Array.getElem?_eq_some_iff.1 hg).1,hn,hcm,fun j u hu=>?_⟩
  have:=h.cells (g:=g) rfl j u hu
  rwa [Addr.add_mid]at this
theorem ziD {w:World} {B:Nat} {v:Value} {zs:List Int} (h:w.ownsRow B 5 1 v zs.length (v8 zs)) (hz:∀z∈zs,0≤z∧z<256) (hm:zs.length≤maxLen):
  ∃a cap,v=.slice a zs.length cap∧zs.length≤cap∧cap≤maxLen∧RowAt w a zs:=by
 rcases zaV h with⟨rfl,h0,_⟩|⟨g,cap,rfl,hb,hg,hn,hcm,hr⟩
 ·have:zs=[]:=List.eq_nil_of_length_eq_zero h0
  subst this
  exact⟨none,0,rfl,by simp,by unfold maxLen;omega,hm,hz,Or.inl rfl⟩
 ·exact⟨_,cap,rfl,hn,hcm,hm,hz,Or.inr ⟨g,0,rfl,hg,hr⟩⟩
theorem ziA {w:World} {B:Nat} {v:Value} {ps:List Part} (h:w.ownsRow B 59 1 v ps.length (ps.map Part.val)) (hp:∀p∈ps,p.at w) (hm:ps.length≤maxLen):
  ∃a cap,v=.slice a ps.length cap∧PartsAt w a ps:=by
 rcases zaV h with⟨rfl,h0,_⟩|⟨g,cap,rfl,hb,hg,hn,hcm,hr⟩
 ·have:ps=[]:=List.eq_nil_of_length_eq_zero h0
  subst this
  exact⟨none,0,rfl,hm,hp,Or.inl rfl⟩
 ·exact⟨_,cap,rfl,hm,hp,Or.inr ⟨g,0,rfl,hg,hr⟩⟩
theorem RowAt.src {w:World} {a:Option Addr} {zs:List Int} (h:RowAt w a zs) (cap:Nat):Src prog 1 59 (.slice a zs.length cap) zs.length (v8 zs) w:=by
 cases a with
 |none=>
  have:zs=[]:=by
   rcases h.2.2 with q|⟨b,off,hx,_⟩
   ·exact q
   ·cases hx
  subst this
  exact Src.ofNil w underlying59 cap
 |some x=>
  refine Src.ofSlice w underlying59 x zs.length cap _ (by simp) (fun j u hu=>?_) (zI _)
  rcases h.2.2 with rfl|⟨b,off,hx,_,hr⟩
  ·simp[v8]at hu
  ·cases hx
   rw[Addr.add_mid]
   exact hr j u hu
theorem ziN (w:World) (p:Part):Src prog 1 166 (.slice (some ⟨w.heap.size,0,none⟩) 1 1) 1 [p.val] (w.alloc (.cells #[p.val] 59)):=
 Src.ofSlice _ underlying166 ⟨w.heap.size,0,none⟩ 1 1 [p.val] (by simp) (fun j u hu=>by rw[Addr.add_mid];exact zy w #[p.val] 59 j u hu) (fun u hu=>by
  obtain rfl:=List.mem_singleton.1 hu
  rfl)
def IsRow (k:IntKind) (w:World) (a:Option Addr) (len cap:Nat) (zs:List Int):Prop:=
 (a=none∧len=0∧cap=0∧zs=[])∨
 ∃x,a=some x∧len≤cap∧cap≤maxLen∧zs.length=cap∧(∀i,i<zs.length→w.cell? (x.add i)=some (.int k (zs.getD i 0)))∧∀n∈zs,(Lit.int k n).wf=true
open Go.RowKit
open Sha
theorem zdy {P:Program} {o:Oper} {a:Act} {w:World} {ty:TypeId} {x:Operand} {b off:Nat} {v:Value} (ho:o.op=.load ty x) (hx:a.eval x=.pointer (some ⟨b,off,none⟩)) (hr:(loadVar ty ⟨b,off,none⟩).run P w=.ok v w):(execOp a.eval o).run P w=.ok (.value v) w:=by
 unfold execOp
 simp only[ho,hx,Instr.loadAt,Instr.sureAddr,Sem.run_bind,Sem.run_pure,Result.andThen_ok,hr]
theorem zbg {P:Program} {o:Oper} {a:Act} {w w':World} {ty:TypeId} {x y:Operand} {b off:Nat} {v:Value} (ho:o.op=.store ty x y) (hx:a.eval x=.pointer (some ⟨b,off,none⟩)) (hy:a.eval y=v) (hr:(storeVar ty ⟨b,off,none⟩ v).run P w=.ok () w'):(execOp a.eval o).run P w=.ok .skip w':=by
 unfold execOp
 simp only[ho,hx,hy,Instr.storeAt,Instr.sureAddr,Sem.run_bind,Sem.run_pure,Result.andThen_ok,hr]
open Go.RowKit
open Sha
def strOf (zs:List Int):ByteArray:=zs.foldl (fun r n=>r.push (UInt8.ofNat n.toNat)) ByteArray.empty
theorem zeJ {w:World} {b off cap:Nat} {zs:List Int} (h:w.rangeAt b off (v8 zs)):(convert 59 9 (.slice (some ⟨b,off,none⟩) zs.length cap)).run prog w=.ok (.string (strOf zs)) w:=by
 rw[run_convert_bytes_string w 59 9 5 (some ⟨b,off,none⟩) zs.length cap underlying59 underlying5 underlying9]
 have:=run_loadCells_list (P:=prog) w ⟨b,off,none⟩ (v8 zs) (fun j v hv=>by rw[Addr.add_mid];exact h j v hv)
 rw[v8_length]at this
 exact run_bytesToString w ⟨b,off,none⟩ zs.length cap zs this
theorem zcq (w:World) (arr:Array Value) (p:Part) (hp:p.at w) (harr:arr=#[p.val]):PartsAt (w.alloc (.cells arr 59)) (some ⟨w.heap.size,0,none⟩) [p]:=by
 subst harr
 have hB:Below w.heap.size w (w.alloc (.cells #[p.val] 59)):=(Below.refl _ _).alloc (Nat.le_refl _) _
 refine⟨by unfold maxLen;simp,fun q hq=>?_,Or.inr ⟨w.heap.size,0,rfl,by simp,zy w #[p.val] 59⟩⟩
 obtain rfl:=List.mem_singleton.1 hq
 exact hp.below hB
theorem zil (w:World) (arr:Array Value) (t:TypeId) (m:Nat ×Nat):(w.alloc (.cells arr t m)).rangeAt w.heap.size 0 arr.toList:=fun j v hv=>by
 rw[World.cell?_alloc_mark,Nat.zero_add]
 simpa using hv
theorem zbj (zs:List Int):(sha zs).length=32:=by unfold sha;rw[zb1,zcp];rfl
theorem zcg (zs:List Int):∀z∈sha zs,0≤z∧z<256:=by unfold sha;rw[zb1];exact ziJ _
theorem zgi (w:World) (d:List Int) (t:TypeId):(w.alloc (.cells (v8 d).toArray t)).rangeAt w.heap.size 0 (v8 d):=by
 have:=zy w (v8 d).toArray t
 simpa using this
open Go.RowKit
open Sha
theorem ziu {w:World} {B B':Nat} {e:TypeId} {v:Value} {n:Nat} {xs:List Value} (h:w.ownsRow B e 1 v n xs) (hB:B'≤B):w.ownsRow B' e 1 v n xs:=by
 refine⟨h.1,?_⟩
 rcases h.2 with h|⟨g,cap,cur,hv,hg,r⟩
 ·exact .inl h
 ·exact .inr ⟨g,cap,cur,hv,Nat.le_trans hB hg,r⟩
open Go.RowKit
theorem zbf (x s:Nat) (y:Int) (hx:x<2^63) (hy0:0≤y) (hy1:y≤255) (hy:y.toNat=x / 2^s) (h:s=0∨2^s≤x):
  Lib.len8 y=(Lib.bitLen x:Int) - s∧(Lib.bitLen x:Int) - s≤8∧0≤(Lib.bitLen x:Int) - s:=by
 have e:Lib.bitLen x=s+Lib.bitLen (x / 2^s):=by
  rcases h with rfl|h
  ·simp
  ·exact Lib.bitLen_shift s x h (by omega)
 have l:=Lib.bitLen_le8' y hy0 hy1
 rw[Lib.len8_of y hy0 hy1,hy]
 rw[hy]at l
 omega
theorem zgW {P:Program} {w:World} {ops:Array Oper} {rest:List Oper} {o:Oper} {a:Act} {Q:Exit→Act→World→Prop} (hgd:o.guard=none) (t:TypeId) (tbl:ByteArray) (x:Operand)
  (ho:o.op=.index t (.const (.string tbl)) x) (ht:P.underlying t=some .string) (htbl:tbl=Lib.len8tab) (k:IntKind) (i:Int) (hx:a.eval x=.int k i) (h0:0≤i) (h1:i≤255)
  (h:wpList P ops Q rest (a.put o.dst (.int .u8 (Lib.len8 i))) w):wpList P ops Q (o::rest) a w:=by
 subst htbl
 refine wpList_plain hgd fun K hK=>?_
 have hr:=Lib.run_index_len8tab (P:=P) w t k i ht h0 h1
 have hc:a.eval (.const (.string Lib.len8tab))=.string Lib.len8tab:=rfl
 unfold Oper.wp execOp
 simp only[ho,Sem.run_bind,hc,hx,hr,Result.andThen_ok,Sem.run_pure]
 exact hK _ _ h
theorem zjO (a b c d:List UInt8) (h:ByteArray.mk ((a.append b).append (c.append d)).toArray=Lib.len8tab):ByteArray.mk ((a.append b).append (c.append d)).toArray=Lib.len8tab:=h
theorem zjo (x:Int) (w:World) (h0:0≤x) (h1:x≤9223372036854775807):
  Calls prog 126 #[.int .u64 x] w fun e w'=>e=.returned (.int .i64 (Lib.bitLen x.toNat))∧w'=w:=by
 go_enter func126,ntmps126
 rw[zjO _ _ _ _ (by kernel_rfl)]
 go_wp2_with (refine zgW rfl 9 Lib.len8tab _ rfl underlying9 rfl .u8 _ rfl ?_ ?_ ?_;(omega);(omega))
 all_goals (go_ret;refine⟨congrArg Ending.returned (congrArg (Value.int IntKind.i64) ?_),rfl⟩)
 all_goals first
  |(obtain⟨e,l,m⟩:=zbf x.toNat 56 (x / 4294967296 / 65536 / 256) (by omega) (by omega) (by omega) (by omega) (by omega);rw[e];simp only[wrap64];omega)
  |(obtain⟨e,l,m⟩:=zbf x.toNat 48 (x / 4294967296 / 65536) (by omega) (by omega) (by omega) (by omega) (by omega);rw[e];simp only[wrap64];omega)
  |(obtain⟨e,l,m⟩:=zbf x.toNat 40 (x / 4294967296 / 256) (by omega) (by omega) (by omega) (by omega) (by omega);rw[e];simp only[wrap64];omega)
  |(obtain⟨e,l,m⟩:=zbf x.toNat 32 (x / 4294967296) (by omega) (by omega) (by omega) (by omega) (by omega);rw[e];simp only[wrap64];omega)
  |(obtain⟨e,l,m⟩:=zbf x.toNat 24 (x / 65536 / 256) (by omega) (by omega) (by omega) (by omega) (by omega);rw[e];simp only[wrap64];omega)
  |(obtain⟨e,l,m⟩:=zbf x.toNat 16 (x / 65536) (by omega) (by omega) (by omega) (by omega) (by omega);rw[e];simp only[wrap64];omega)
  |(obtain⟨e,l,m⟩:=zbf x.toNat 8 (x / 256) (by omega) (by omega) (by omega) (by omega) (by omega);rw[e];simp only[wrap64];omega)
  |(obtain⟨e,l,m⟩:=zbf x.toNat 0 (x) (by omega) (by omega) (by omega) (by omega) (by omega);rw[e];simp only[wrap64];omega)
namespace Tal
open Go
def wid (n:Nat):Nat:=(Lib.bitLen n+7) / 8
def digK:Nat→Nat→List Int
  |0,_=>[]
  |k+1,n=>digK k (n / 256)++[((n%256:Nat):Int)]
def digs (n:Nat):List Int:=digK (wid n) n
def numB (n:Nat):List Int:=(wid n:Int)::digs n
def putL (n:Int):List Int:=if n<0 then[]else numB n.toNat
theorem zb4:wid 0=0:=by decide
theorem zd5 (n:Nat) (h0:0<n) (h:n<2^63):wid n=wid (n / 256)+1:=by
 unfold wid
 by_cases h2:256≤n
 ·rw[Lib.bitLen_shift8 n h2 (by omega)];omega
 ·have e:n / 256=0:=by omega
  have h3:=Lib.bitLen_half n (by omega) (by omega)
  have h4:=Lib.bitLen_le8 ⟨n,by omega⟩
  simp only at h4
  rw[e]
  have:Lib.bitLen 0=0:=by decide
  rw[this]
  omega
theorem zb5:∀(k n:Nat),n<2^63→n<256^k→wid n≤k∧n<256^wid n∧(0<n→0<wid n∧256^(wid n - 1)≤n)
  |0,n,_,h=>by
    have:n=0:=by simpa using h
    subst this
    rw[zb4];simp
  |k+1,n,hn,h=>by
    by_cases h0:n=0
    · subst h0;rw[zb4];simp
    · have hs:=zd5 n (by omega) hn
      obtain⟨a,b,c⟩:=zb5 k (n / 256) (by omega) (by rw[Nat.pow_succ]at h;omega)
      rw[hs]
      refine⟨by omega,by rw[Nat.pow_succ];omega,fun _=>⟨by omega,?_⟩⟩
      rw[Nat.add_sub_cancel]
      by_cases h1:n / 256=0
      · rw[h1,zb4];simp;omega
      · obtain⟨c1,c2⟩:=c (by omega)
        have:wid (n / 256)=wid (n / 256) - 1+1:=by omega
        rw[this,Nat.pow_succ]
        omega
theorem za6 (n:Nat) (h:n<2^63):wid n≤8:=(zb5 8 n h (by omega)).1
theorem zb0:∀k n,(digK k n).length=k
  |0,_=>rfl
  |k+1,n=>by simp[digK,zb0 k]
theorem zfU:∀k n,∀z∈digK k n,0≤z∧z<256
  |0,_,z,h=>by simp[digK]at h
  |k+1,n,z,h=>by
    simp only[digK,List.mem_append,List.mem_singleton]at h
    rcases h with h|rfl
    · exact zfU k _ z h
    · omega
theorem zdE:∀k n i,i<k→(digK k n).getD i 0=((n / 256^(k - 1 - i)%256:Nat):Int)
  |0,_,_,h=>by omega
  |k+1,n,i,h=>by
    simp only[digK,List.getD_eq_getElem?_getD]
    by_cases hi:i<k
    · rw[List.getElem?_append_left (by rw[zb0];exact hi),←List.getD_eq_getElem?_getD,zdE k (n / 256) i hi,Nat.div_div_eq_div_mul]
      have e:k+1 - 1 - i=(k - 1 - i)+1:=by omega
      rw[e,Nat.pow_succ,Nat.mul_comm]
    · have e:i=k:=by omega
      subst e
      rw[List.getElem?_append_right (by rw[zb0];exact Nat.le_refl _),zb0]
      simp
theorem zdC:digs 0=[]:=by unfold digs;rw[zb4];rfl
theorem zfT (n:Nat) (h0:0<n) (h:n<2^63):digs n=digs (n / 256)++[((n%256:Nat):Int)]:=by
 unfold digs
 rw[zd5 n h0 h];rfl
theorem zaC (n:Nat):(digs n).length=wid n:=zb0 _ _
theorem zdD (n:Nat):∀z∈digs n,0≤z∧z<256:=zfU _ _
theorem zio (n:Int) (h:n<2^63):∀z∈putL n,0≤z∧z<256:=by
 intro z hz
 unfold putL at hz
 split at hz
 ·simp at hz
 ·simp only[numB,List.mem_cons]at hz
  rcases hz with rfl|hz
  ·have:=za6 n.toNat (by omega);omega
  ·exact zdD _ z hz
theorem zab (n:Int) (h:n<2^63):(putL n).length≤9:=by
 unfold putL
 split
 ·simp
 ·simp only[numB,List.length_cons,zaC]
  have:=za6 n.toNat (by omega);omega
def val (l:List Int):Int:=l.foldl (fun a d=>a*256+d) 0
theorem zcS (l:List Int) (d:Int):val (l++[d])=val l*256+d:=by simp[val,List.foldl_append]
theorem zeb:∀k n,val (digK k n)=((n%256^k:Nat):Int)
  |0,n=>by simp[digK,val,Nat.mod_one]
  |k+1,n=>by
    rw[digK,zcS,zeb k (n / 256),Nat.pow_succ,Nat.mul_comm (256^k) 256,Nat.mod_mul]
    omega
theorem zg8 (n:Nat) (h:n<2^63):val (digs n)=n:=by
 unfold digs
 rw[zeb,Nat.mod_eq_of_lt (zb5 8 n h (by omega)).2.1]
end Tal
end Go.Proofs.YtcbpbkefggekmaaGreatDoor
