/- PLAIN MATHEMATICS OF SHA-256: words of 32 bits, a block's rounds, bytes that wait, the last bytes. Imports nothing of the translation.; Words of 32 bits as the  -/
import Derived.Test.YtcbpbkefggekmaaGreatDoorJS0
import Derived.Test.YtcbpbkefggekmaaGreatDoorRows
import Derived.WalkKit
import Derived.WalkSpells
import Derived.RegionTactic
import Derived.ChangeAlike
import Derived.BigRegion
import Derived.Outline
import Derived.Deep.MidRow
import Derived.Below
import Derived.Deep.Cut
import Derived.Deep.QuietTactic
import Derived.BigQuiet
import Derived.Lib.ItoaWalk
import Derived.Deep.RegionHeld3
import Derived.Laws.IdiomCopy
set_option maxHeartbeats 4000000
set_option maxRecDepth 20000
open Go.Proofs.Tryz
namespace Go.Proofs.YtcbpbkefggekmaaGreatDoor
namespace Sha
abbrev Wd:=BitVec 32
def rotr (x:Wd) (n:Nat):Wd:=(x>>>n)|||(x<<<(32 - n))
def s0 (x:Wd):Wd:=rotr x 7^^^rotr x 18^^^(x>>>3)
def s1 (x:Wd):Wd:=rotr x 17^^^rotr x 19^^^(x>>>10)
def S1 (e:Wd):Wd:=rotr e 6^^^rotr e 11^^^rotr e 25
def S0 (a:Wd):Wd:=rotr a 2^^^rotr a 13^^^rotr a 22
def ch (e f g:Wd):Wd:=(e&&&f)^^^(~~~e&&&g)
def maj (a b c:Wd):Wd:=(a&&&b)^^^(a&&&c)^^^(b&&&c)
structure St where
 a:Wd
 b:Wd
 c:Wd
 d:Wd
 e:Wd
 f:Wd
 g:Wd
 h:Wd
def t1 (k w:Wd) (s:St):Wd:=s.h+S1 s.e+ch s.e s.f s.g+k+w
def t2 (s:St):Wd:=S0 s.a+maj s.a s.b s.c
def round (k w:Wd) (s:St):St:=⟨t1 k w s+t2 s,s.a,s.b,s.c,s.d+t1 k w s,s.e,s.f,s.g⟩
def ks:List Nat:=[
 0x428a2f98,0x71374491,0xb5c0fbcf,0xe9b5dba5,0x3956c25b,0x59f111f1,0x923f82a4,0xab1c5ed5,
 0xd807aa98,0x12835b01,0x243185be,0x550c7dc3,0x72be5d74,0x80deb1fe,0x9bdc06a7,0xc19bf174,
 0xe49b69c1,0xefbe4786,0x0fc19dc6,0x240ca1cc,0x2de92c6f,0x4a7484aa,0x5cb0a9dc,0x76f988da,
 0x983e5152,0xa831c66d,0xb00327c8,0xbf597fc7,0xc6e00bf3,0xd5a79147,0x06ca6351,0x14292967,
 0x27b70a85,0x2e1b2138,0x4d2c6dfc,0x53380d13,0x650a7354,0x766a0abb,0x81c2c92e,0x92722c85,
 0xa2bfe8a1,0xa81a664b,0xc24b8b70,0xc76c51a3,0xd192e819,0xd6990624,0xf40e3585,0x106aa070,
 0x19a4c116,0x1e376c08,0x2748774c,0x34b0bcb5,0x391c0cb3,0x4ed8aa4a,0x5b9cca4f,0x682e6ff3,
 0x748f82ee,0x78a5636f,0x84c87814,0x8cc70208,0x90befffa,0xa4506ceb,0xbef9a3f7,0xc67178f2]
def k (t:Nat):Wd:=BitVec.ofNat 32 (ks.getD t 0)
def init:St:=⟨0x6a09e667#32,0xbb67ae85#32,0x3c6ef372#32,0xa54ff53a#32,0x510e527f#32,0x9b05688c#32,0x1f83d9ab#32,0x5be0cd19#32⟩
def nxt (ws:List Wd):Wd:=ws.getD (ws.length - 16) 0+s0 (ws.getD (ws.length - 15) 0)+ws.getD (ws.length - 7) 0+s1 (ws.getD (ws.length - 2) 0)
def ext (ws:List Wd):List Wd:=ws++[nxt ws]
def exts:Nat→List Wd→List Wd
  |0,ws=>ws
  |n+1,ws=>ext (exts n ws)
def word (a b c d:Int):Wd:=BitVec.ofInt 32 (a*16777216+b*65536+c*256+d)
def wordAt (bs:List Int) (t:Nat):Wd:=word (bs.getD (4*t) 0) (bs.getD (4*t+1) 0) (bs.getD (4*t+2) 0) (bs.getD (4*t+3) 0)
def words (bs:List Int) (n:Nat):List Wd:=(List.range n).map (wordAt bs)
def spread (bs:List Int):List Wd:=exts 48 (words bs 16)
def rounds (ws:List Wd):Nat→St→St
  |0,s=>s
  |t+1,s=>round (k t) (ws.getD t 0) (rounds ws t s)
def plus (s r:St):St:=⟨s.a+r.a,s.b+r.b,s.c+r.c,s.d+r.d,s.e+r.e,s.f+r.f,s.g+r.g,s.h+r.h⟩
def block (s:St) (bs:List Int):St:=plus s (rounds (spread bs) 64 s)
def feed (p:St ×List Int) (c:Int):St ×List Int:=if p.2.length=63 then(block p.1 (p.2++[c]),[])else(p.1,p.2++[c])
def feeds (p:St ×List Int) (zs:List Int):St ×List Int:=zs.foldl feed p
def zaG (n:Nat):List Int:=(List.range 8).map fun i=>((n / 2^(56 - 8*i)%256:Nat):Int)
def tail (n:Nat):List Int:=(128:Int)::(List.replicate ((119 - n%64)%64) 0++zaG (8*n))
def list (s:St):List Wd:=[s.a,s.b,s.c,s.d,s.e,s.f,s.g,s.h]
def byteOf (x:Wd) (i:Nat):Int:=((x.toNat / 2^(24 - 8*i)%256:Nat):Int)
def bytes (s:St):List Int:=(List.range 32).map fun i=>byteOf ((list s).getD (i / 4) 0) (i%4)
def sha (zs:List Int):List Int:=bytes (feeds (init,[]) (zs++tail zs.length)).1
end Sha
open Go.RowKit
namespace Sha
theorem zcD (n:Nat) (h:n<4294967296):IntKind.u32.wrap (n:Int)=n:=by
 rw[IntKind.wrap_u32];omega
theorem zbz (x:Wd):BitVec.ofInt 32 (x.toNat:Int)=x:=by
 rw[BitVec.ofInt_natCast];simp
theorem zaF (x y:Wd):bits .xor .u32 (x.toNat:Int) (y.toNat:Int)=((x^^^y).toNat:Int):=by
 show IntKind.u32.wrap ((BitVec.ofInt 32 (x.toNat:Int)^^^BitVec.ofInt 32 (y.toNat:Int)).toNat:Int)=_
 rw[zbz,zbz,zcD _ (BitVec.isLt _)]
theorem zbI (x y:Wd):bits .and .u32 (x.toNat:Int) (y.toNat:Int)=((x&&&y).toNat:Int):=by
 show IntKind.u32.wrap ((BitVec.ofInt 32 (x.toNat:Int)&&&BitVec.ofInt 32 (y.toNat:Int)).toNat:Int)=_
 rw[zbz,zbz,zcD _ (BitVec.isLt _)]
theorem or32 (x y:Wd):bits .or .u32 (x.toNat:Int) (y.toNat:Int)=((x|||y).toNat:Int):=by
 show IntKind.u32.wrap ((BitVec.ofInt 32 (x.toNat:Int)|||BitVec.ofInt 32 (y.toNat:Int)).toNat:Int)=_
 rw[zbz,zbz,zcD _ (BitVec.isLt _)]
theorem zbJ (x y:Wd):((x.toNat:Int)+(y.toNat:Int))%4294967296=((x+y).toNat:Int):=by
 rw[BitVec.toNat_add];omega
theorem zcO (x:Wd) (n:Nat):(x.toNat:Int) / ((2^n:Nat):Int)=((x>>>n).toNat:Int):=by
 rw[BitVec.toNat_ushiftRight,Nat.shiftRight_eq_div_pow];omega
theorem zfw (x:Wd) (n:Nat):(x.toNat:Int)*((2^n:Nat):Int)%4294967296=((x<<<n).toNat:Int):=by
 rw[BitVec.toNat_shiftLeft,Nat.shiftLeft_eq]
 have:(x.toNat:Int)*((2^n:Nat):Int)=((x.toNat*2^n:Nat):Int):=by simp
 rw[this];omega
theorem zjy (x:Wd) (n:Nat) (hn:n≤32) (s:Int) (hs:s=32 - (n:Int)):bits .or .u32 ((x.toNat:Int)*2^s.toNat%4294967296) ((x.toNat:Int) / 2^(32 - s).toNat)=((rotr x n).toNat:Int):=by
 subst hs
 have e1:(32 - (n:Int)).toNat=32 - n:=by omega
 have e2:(32 - (32 - (n:Int))).toNat=n:=by omega
 rw[e1,e2]
 have h1:=zfw x (32 - n)
 have h2:=zcO x n
 have p1:((2:Int)^(32 - n))=((2^(32 - n):Nat):Int):=by simp
 have p2:((2:Int)^n)=((2^n:Nat):Int):=by simp
 rw[p1,p2,h1,h2,or32,rotr,BitVec.or_comm]
theorem zd3 (a c:Nat) (n:Nat) (h:c<2^n):a*2^n|||c=a*2^n+c:=by
 have:=Nat.shiftLeft_add_eq_or_of_lt (b:=c) (i:=n) h a
 rw[Nat.shiftLeft_eq]at this;exact this.symm
theorem zgj (a b c d:Int) (ha:0≤a∧a<256) (hb:0≤b∧b<256) (hc:0≤c∧c<256) (hd:0≤d∧d<256):
   bits .or .u32 (bits .or .u32 (bits .or .u32 (a*16777216) (b*65536)) (c*256)) d=((word a b c d).toNat:Int):=by
  obtain⟨a,rfl⟩:=Int.eq_ofNat_of_zero_le ha.1
  obtain⟨b,rfl⟩:=Int.eq_ofNat_of_zero_le hb.1
  obtain⟨c,rfl⟩:=Int.eq_ofNat_of_zero_le hc.1
  obtain⟨d,rfl⟩:=Int.eq_ofNat_of_zero_le hd.1
  have q:∀n:Nat,n<4294967296→(BitVec.ofNat 32 n).toNat=n:=fun n h=>by rw[BitVec.toNat_ofNat];exact Nat.mod_eq_of_lt h
  have l:∀x y:Nat,x<4294967296→y<4294967296→bits .or .u32 (x:Int) (y:Int)=((x|||y:Nat):Int):=fun x y hx hy=>by
    have:=or32 (BitVec.ofNat 32 x) (BitVec.ofNat 32 y)
    rw[BitVec.toNat_or,q x hx,q y hy]at this;exact this
  have e1:a*16777216|||b*65536=(a*256+b)*65536:=by
    rw[show a*16777216=a*2^24 by omega,zd3 a (b*65536) 24 (by omega)];omega
  have e2:(a*256+b)*65536|||c*256=(a*65536+b*256+c)*256:=by
    rw[show(a*256+b)*65536=(a*256+b)*2^16 by omega,zd3 _ (c*256) 16 (by omega)];omega
  have e3:(a*65536+b*256+c)*256|||d=(a*65536+b*256+c)*256+d:=by
    rw[show(a*65536+b*256+c)*256=(a*65536+b*256+c)*2^8 by omega,zd3 _ d 8 (by omega)]
  have c1:(a:Int)*16777216=((a*16777216:Nat):Int):=by omega
  have c2:(b:Int)*65536=((b*65536:Nat):Int):=by omega
  have c3:(c:Int)*256=((c*256:Nat):Int):=by omega
  rw[c1,c2,c3,l _ _ (by omega) (by omega),e1,l _ _ (by omega) (by omega),e2,l _ _ (by omega) (by omega),e3]
  unfold word
  have c4:(a:Int)*16777216+(b:Int)*65536+(c:Int)*256+(d:Int)=(((a*65536+b*256+c)*256+d:Nat):Int):=by omega
  rw[c4,BitVec.ofInt_natCast,q _ (by omega)]
end Sha
open Sha
theorem zjw (x:Wd) (m:Int) (n:Nat) (hn0:0<n) (hn:n<32) (e:bits .and .u64 (IntKind.u64.wrap m) 31=32 - (n:Int)) (w:World):
   Calls prog 181 #[.int .u32 (x.toNat:Int),.int .i64 m] w fun e w'=>e=.returned (.int .u32 ((rotr x n).toNat:Int))∧w'=w:=by
  have hx:=x.isLt
  obtain⟨s,hs⟩:∃s:Int,s=32 - (n:Int):=⟨_,rfl⟩
  have er:=zjy x n (by omega) s hs
  rw[←hs]at e
  have h0:0<s:=by omega
  have h1:s<32:=by omega
  clear hs hn hn0
  go_enter func181,ntmps181
  go_wp2
  go_ret
  exact⟨by rw[←er];rfl,rfl⟩
theorem za1 (x:Wd) (n:Nat) (m:Int) (hm:m=(n:Int)) (hn0:0<n) (hn:n<32) (e:bits .and .u64 (IntKind.u64.wrap (-(n:Int))) 31=32 - (n:Int)) (w:World):
   Calls prog 175 #[.int .u32 (x.toNat:Int),.int .i64 m] w fun e w'=>e=.returned (.int .u32 ((rotr x n).toNat:Int))∧w'=w:=by
  subst hm
  have hx:=x.isLt
  have c:=zjw x (-(n:Int)) n hn0 hn e w
  have en:IntKind.i64.wrap (-(n:Int))= -(n:Int):=by rw[IntKind.wrap_i64];omega
  clear e
  go_enter func175,ntmps175
  go_wp2_with fail
  refine c.mono ?_
  rintro e w1 ⟨rfl,rfl⟩
  go_wp2
  go_ret
  exact⟨rfl,rfl⟩
theorem zik (b off cap len:Nat) (hl:4≤len) (hl2:len≤64) (c0 c1 c2 c3:Int) (w:World) (h0:w.cell? ⟨b,off,none⟩=some (.int .u8 c0)) (h1:w.cell? ⟨b,off+1,none⟩=some (.int .u8 c1)) (h2:w.cell? ⟨b,off+2,none⟩=some (.int .u8 c2)) (h3:w.cell? ⟨b,off+3,none⟩=some (.int .u8 c3))
    (b0:0≤c0∧c0<256) (b1:0≤c1∧c1<256) (b2:0≤c2∧c2<256) (b3:0≤c3∧c3<256):
   Calls prog 180 #[.slice (some ⟨b,off,none⟩) len cap] w fun e w'=>e=.returned (.int .u32 ((word c0 c1 c2 c3).toNat:Int))∧w'=w.drew:=by
  have ew:=zgj c0 c1 c2 c3 b0 b1 b2 b3
  go_enter func180,ntmps180
  go_wp2
  go_region
  go_wp2
  go_ret
  exact⟨by rw[←ew];rfl,rfl⟩
open Go.RowKit
def v32 (xs:List Wd):List Value:=xs.map fun x=>Value.int .u32 (x.toNat:Int)
def v8 (zs:List Int):List Value:=zs.map (Value.int .u8)
@[simp] theorem v32_length (xs:List Wd):(v32 xs).length=xs.length:=by simp[v32]
@[simp] theorem v8_length (zs:List Int):(v8 zs).length=zs.length:=by simp[v8]
theorem zbg (xs:List Wd):∀v∈v32 xs,v.oneCell'=true:=by
 intro v hv;obtain⟨x,_,rfl⟩:=List.mem_map.1 hv;rfl
theorem zy (xs:List Int):∀v∈v8 xs,v.oneCell'=true:=by
 intro v hv;obtain⟨x,_,rfl⟩:=List.mem_map.1 hv;rfl
theorem zbF {w:World} {b o:Nat} {xs:List Wd} (h:w.rangeAt b o (v32 xs)) {i:Nat} (hi:i<xs.length):w.cell? ⟨b,o+i,none⟩=some (.int .u32 ((xs.getD i 0).toNat:Int)):=by
 refine h i _ ?_
 simp[v32,List.getElem?_eq_getElem hi]
theorem get8 {w:World} {b o:Nat} {xs:List Int} (h:w.rangeAt b o (v8 xs)) {i:Nat} (hi:i<xs.length):w.cell? ⟨b,o+i,none⟩=some (.int .u8 (xs.getD i 0)):=by
 refine h i _ ?_
 simp[v8,List.getElem?_eq_getElem hi]
theorem zaa {w:World} {b o:Nat} {cs:List Value} (h:w.rangeAt b o cs) (i:Nat) (v:Value):(w.setCell ⟨b,o+i,none⟩ v).rangeAt b o (cs.set i v):=by
 intro j u hu
 rw[List.getElem?_set]at hu
 by_cases e:i=j
 ·subst e
  rw[if_pos rfl]at hu
  by_cases hi:i<cs.length
  ·rw[if_pos hi]at hu
   simp only[Option.some.injEq]at hu
   subst hu
   exact World.cell?_setCell_same _ _ _ (h i _ (List.getElem?_eq_getElem hi))
  ·rw[if_neg hi]at hu;cases hu
 ·rw[if_neg e]at hu
  rw[World.cell?_setCell_other _ _ _ _ (fun q=>e (by injection q with _ q2 _;omega))]
  exact h j u hu
theorem zaI {w:World} {b o:Nat} {cs:List Value} (h:w.rangeAt b o cs) (p:Addr) (v:Value) (hp:p.block=b→p.off<o∨o+cs.length≤p.off):(w.setCell p v).rangeAt b o cs:=by
 intro j u hu
 have hj:j<cs.length:=(List.getElem?_eq_some_iff.1 hu).1
 rw[World.cell?_setCell_other _ _ _ _ (by rintro rfl;have:=hp rfl;simp at this;omega)]
 exact h j u hu
theorem za {w w':World} {b o n:Nat} {cs:List Value} (h:w.rangeAt b o cs) (hb:Below n w w') (hn:b<n):w'.rangeAt b o cs:=
 fun j u hu=>(hb.cell (p:=⟨b,o+j,none⟩) hn).trans (h j u hu)
theorem zg {w w':World} {b o n m:Nat} (h:w.there b o m) (hb:Below n w w') (hn:b<n):w'.there b o m:=
 fun j hj=>⟨by rw[hb.cell (p:=⟨b,o+j,none⟩) hn];exact(h j hj).1,by rw[hb.frozen (p:=⟨b,o+j,none⟩) hn];exact(h j hj).2⟩
theorem zP {w:World} {b o n:Nat} (h:w.there b o n) (p:Addr) (v:Value):(w.setCell p v).there b o n:=by
 intro j hj
 obtain⟨h1,h2⟩:=h j hj
 refine⟨?_,by rw[World.frozen?_setCell];exact h2⟩
 obtain⟨u,hu⟩:=Option.isSome_iff_exists.1 h1
 by_cases e:p=⟨b,o+j,none⟩
 ·subst e;rw[World.cell?_setCell_same _ _ _ hu];rfl
 ·rw[World.cell?_setCell_other _ _ _ _ e,hu];rfl
theorem zL {w:World} {b o n:Nat} (h:w.there b o n) (i m:Nat) (hm:i+m≤n):w.there b (o+i) m:=fun j hj=>by
 have:=h (i+j) (by omega);rwa [←Nat.add_assoc]at this
theorem zdY {w:World} {b o:Nat} {cs ds es:List Value} (h:w.rangeAt b o (cs++ds++es)):w.rangeAt b (o+cs.length) ds:=fun j v hv=>by
 have hj:j<ds.length:=(List.getElem?_eq_some_iff.1 hv).1
 have:=h (cs.length+j) v (by rw[List.append_assoc,List.getElem?_append_right (by omega),List.getElem?_append_left (by omega),Nat.add_sub_cancel_left];exact hv)
 rwa [←Nat.add_assoc]at this
theorem za4 {w:World} {b o:Nat} {cs ds:List Value} (h:w.rangeAt b o cs) (k:w.rangeAt b (o+cs.length) ds):w.rangeAt b o (cs++ds):=fun j v hv=>by
 by_cases hj:j<cs.length
 ·rw[List.getElem?_append_left hj]at hv;exact h j v hv
 ·rw[List.getElem?_append_right (by omega)]at hv
  have:=k _ v hv
  rwa [show o+cs.length+(j - cs.length)=o+j by omega]at this
theorem zI {w:World} {b o:Nat} {cs ds:List Value} (h:w.rangeAt b o (cs++ds)):w.rangeAt b o cs:=fun j v hv=>by
 have hj:j<cs.length:=(List.getElem?_eq_some_iff.1 hv).1
 exact h j v (by rw[List.getElem?_append_left hj];exact hv)
theorem zO {w:World} {b o:Nat} {cs ds:List Value} (h:w.rangeAt b o (cs++ds)):w.rangeAt b (o+cs.length) ds:=fun j v hv=>by
 have:=h (cs.length+j) v (by rw[List.getElem?_append_right (by omega),Nat.add_sub_cancel_left];exact hv)
 rwa [←Nat.add_assoc]at this
theorem zC (w:World) (arr:Array Value) (t:TypeId):(w.alloc (.cells arr t)).rangeAt w.heap.size 0 arr.toList:=fun j v hv=>by
 rw[World.cell?_alloc_at _ _ _ _ rfl,Nat.zero_add]
 simpa using hv
theorem zE (w:World) (arr:Array Value) (t:TypeId):(w.alloc (.cells arr t)).there w.heap.size 0 arr.size:=fun j hj=>by
 refine⟨?_,World.frozen?_alloc_at _ _ _ _ rfl⟩
 rw[World.cell?_alloc_at _ _ _ _ rfl,Nat.zero_add]
 simp[hj]
theorem zb6 (xs:List Wd) (i:Nat) (x:Wd):(v32 xs).set i (.int .u32 (x.toNat:Int))=v32 (xs.set i x):=by
 unfold v32;rw[List.map_set]
theorem zb5 (xs:List Int) (i:Nat) (x:Int):(v8 xs).set i (.int .u8 x)=v8 (xs.set i x):=by
 unfold v8;rw[List.map_set]
theorem zcP (xs:List Wd) (n:Nat) (x:Wd) (hn:0<n):(xs++List.replicate n (0:Wd)).set xs.length x=(xs++[x])++List.replicate (n - 1) (0:Wd):=by
 obtain⟨m,rfl⟩:∃m,n=m+1:=⟨n - 1,by omega⟩
 simp[List.replicate_succ]
theorem zi {B b:Nat} {a:World} (hb:B≤b):∀(vs:List Value) (o:Nat) (w:World),Below B a w→Below B a (w.setCells b o vs)
  |[],_,_,h=>h
  |v::r,o,_,h=>zi hb r (o+1) _ (h.setCell (p:=⟨b,o,none⟩) hb v)
theorem zB (b:Nat):∀(vs:List Value) (o:Nat) (w:World),(w.setCells b o vs).heap.size=w.heap.size
  |[],_,_=>rfl
  |v::r,o,_=>by rw[World.setCells,zB b r];simp
theorem zq (w1:World) (arr:Array Value) (t:TypeId) (cs:List Value) (h:cs.length=arr.size):
  ((w1.alloc (.cells arr t)).setCells w1.heap.size 0 cs).rangeAt w1.heap.size 0 cs∧Below w1.heap.size w1 ((w1.alloc (.cells arr t)).setCells w1.heap.size 0 cs)∧
  ((w1.alloc (.cells arr t)).setCells w1.heap.size 0 cs).heap.size=w1.heap.size+1∧((w1.alloc (.cells arr t)).setCells w1.heap.size 0 cs).there w1.heap.size 0 arr.size:=
 ⟨World.rangeAt_setCells_same _ _ _ _ (by rw[h];exact zE w1 arr t),zi (Nat.le_refl _) _ _ _ ((Below.refl _ _).alloc (Nat.le_refl _) _),by rw[zB];simp,World.there_setCells (zE w1 arr t) _ _ _⟩
theorem zbR {P:Program} {e:TypeId} {n:Nat} (h:(P.info? e).map (·.size)=some n) (w:World):(sizeOf e).run P w=.ok n w:=by
  cases hq:P.info? e with
  |none=>simp[hq]at h
  |some i=>simp[hq]at h;simp[sizeOf,typeInfo,hq,h]
theorem zdN {P:Program} {t e:TypeId} {n:Nat} (ht:P.underlying t=some (.array n e)) (hs:(P.info? e).map (·.size)=some 1) (b off l:Nat) (i:Int) (hi:i=(l:Int)) (hl:l<n) (w:World):
  (Instr.sliceAt t (.pointer (some ⟨b,off,none⟩)) (some (.int .i64 i)) none none).run P w=.ok (.slice (some ⟨b,off+l,none⟩) (n - l) (n - l)) w:=by
 subst hi
 have h1:P.arrayLen t=n:=by simp[Program.arrayLen,ht]
 have h2:P.elem t=e:=by simp[Program.elem,ht]
 rw[run_sliceAt_array_l w t ⟨b,off,none⟩ (by rw[h1,h2,ht]) .i64 l (by omega) (by rw[h1];omega),h1,h2,zbR hs]
 simp only[slicedAt,Result.andThen_ok,Int.toNat_natCast,Nat.mul_one]
 rw[if_neg (by omega),Addr.add_mid]
theorem zfr {P:Program} {t e:TypeId} {n:Nat} (ht:P.underlying t=some (.array n e)) (hs:(P.info? e).map (·.size)=some 1) (b off h:Nat) (i:Int) (hi:i=(h:Int)) (hl:h≤n) (hn:0<n) (w:World):
  (Instr.sliceAt t (.pointer (some ⟨b,off,none⟩)) none (some (.int .i64 i)) none).run P w=.ok (.slice (some ⟨b,off,none⟩) h n) w:=by
 subst hi
 have h1:P.arrayLen t=n:=by simp[Program.arrayLen,ht]
 have h2:P.elem t=e:=by simp[Program.elem,ht]
 rw[run_sliceAt_array_h w t ⟨b,off,none⟩ (by rw[h1,h2,ht]) .i64 h (by omega) (by rw[h1];omega),h1,h2,zbR hs]
 simp only[slicedAt,Result.andThen_ok,Int.toNat_natCast,Nat.zero_mul,Nat.sub_zero]
 rw[if_neg (by omega),Addr.add_mid];rfl
theorem zbu {P:Program} {t e:TypeId} {n:Nat} (ht:P.underlying t=some (.array n e)) (hs:(P.info? e).map (·.size)=some 1) (b off:Nat) (hn:0<n) (w:World):
  (Instr.sliceAt t (.pointer (some ⟨b,off,none⟩)) none none none).run P w=.ok (.slice (some ⟨b,off,none⟩) n n) w:=by
 have h1:P.arrayLen t=n:=by simp[Program.arrayLen,ht]
 have h2:P.elem t=e:=by simp[Program.elem,ht]
 rw[run_sliceAt_array_all w t ⟨b,off,none⟩ (by rw[h1,h2,ht]),h1,h2,zbR hs]
 simp only[slicedAt,Result.andThen_ok,Nat.zero_mul,Nat.sub_zero]
 rw[if_neg (by omega),Addr.add_mid];rfl
theorem isz8:(prog.info? 5).map (·.size)=some 1:=by kernel_rfl
namespace Sha
theorem zeY (bs:List Int) (n:Nat):words bs (n+1)=words bs n++[wordAt bs n]:=by
 simp[words,List.range_succ]
theorem zbM (bs:List Int) (n:Nat):(words bs n).length=n:=by simp[words]
theorem zdl (n:Nat) (ws:List Wd):(exts n ws).length=ws.length+n:=by
  induction n with
  |zero=>rfl
  |succ n ih=>simp[exts,ext,ih];omega
theorem zfp (bs:List Int):(spread bs).length=64:=by rw[spread,zdl,zbM]
theorem zg1 (xs ys:List Wd) (i:Nat) (h:i<xs.length):(xs++ys).getD i 0=xs.getD i 0:=by
 simp only[List.getD_eq_getElem?_getD];rw[List.getElem?_append_left h]
theorem zbr {bs:List Int} (hb:∀z∈bs,0≤z∧z<256) (j:Nat):0≤bs.getD j 0∧bs.getD j 0<256:=by
 rcases Nat.lt_or_ge j bs.length with h|h
 ·rw[List.getD_eq_getElem?_getD,List.getElem?_eq_getElem h];exact hb _ (List.getElem_mem h)
 ·rw[List.getD_eq_getElem?_getD,List.getElem?_eq_none h];decide
theorem zny (a b c d:Wd):((a.toNat:Int)+(b.toNat:Int)+(c.toNat:Int)+(d.toNat:Int))%4294967296=((a+b+c+d).toNat:Int):=by
 rw[BitVec.toNat_add,BitVec.toNat_add,BitVec.toNat_add];omega
theorem zfI (y:Wd):bits .xor .u32 (bits .xor .u32 ((rotr y 7).toNat:Int) ((rotr y 18).toNat:Int)) ((y.toNat:Int) / 8)=((s0 y).toNat:Int):=by
 have:=zcO y 3
 rw[show((2^3:Nat):Int)=8 by decide]at this
 rw[this,zaF,zaF];rfl
theorem zfH (y:Wd):bits .xor .u32 (bits .xor .u32 ((rotr y 17).toNat:Int) ((rotr y 19).toNat:Int)) ((y.toNat:Int) / 1024)=((s1 y).toNat:Int):=by
 have:=zcO y 10
 rw[show((2^10:Nat):Int)=1024 by decide]at this
 rw[this,zaF,zaF];rfl
end Sha
theorem zfU (w:World):(w.alloc (.cells (Array.replicate 64 (.int .u32 0)) 238)).rangeAt w.heap.size 0 (v32 (List.replicate 64 (0:Wd))):=by
 have:=zC w (Array.replicate 64 (.int .u32 0)) 238
 simpa [v32]using this
theorem zb7 (w:World):(w.alloc (.cells (Array.replicate 64 (.int .u32 0)) 238)).there w.heap.size 0 64:=by
 have:=zE w (Array.replicate 64 (.int .u32 0)) 238
 simpa using this
theorem zeh:(prog.info? 238).map (·.size)=some 64:=by kernel_rfl
theorem zi1 (b off:Nat) (bs:List Int) (w:World) (hlen:bs.length=64) (hb:∀z∈bs,0≤z∧z<256) (hB:b<w.heap.size) (hc:w.rangeAt b off (v8 bs)):
   Calls prog 174 #[.pointer (some ⟨b,off,none⟩)] w fun e w'=>e=.returned (.agg (v32 (spread bs)).toArray)∧Below w.heap.size w w':=by
  go_enter func174,ntmps174
  go_wp2
  have Z:=zfU (w.alloc (.cells (Array.replicate 64 (.int .u32 0)) 238))
  have T:=zb7 (w.alloc (.cells (Array.replicate 64 (.int .u32 0)) 238))
  have T0:=World.there_alloc (zb7 w) (.cells (Array.replicate 64 (.int .u32 0)) 238)
  have BB:Below w.heap.size w ((w.alloc (.cells (Array.replicate 64 (.int .u32 0)) 238)).alloc (.cells (Array.replicate 64 (.int .u32 0)) 238)):=((Below.refl _ _).alloc (Nat.le_refl _) _).alloc (by simp) _
  have es:(w.alloc (.cells (Array.replicate 64 (.int .u32 0)) 238)).heap.size=w.heap.size+1:=by simp
  rw[es]at Z T
  clear es
  go_loopw [10] (fun i wr=>∃k:Nat,k≤16∧i=.int .i64 k∧wr.rangeAt (w.heap.size+1) 0 (v32 (words bs k++List.replicate (64 - k) (0:Wd)))∧wr.there (w.heap.size+1) 0 64∧wr.there w.heap.size 0 64∧Below w.heap.size w wr) (fun i _=>16 - (intOf i).toNat)
  case atStart=>exact⟨0,by omega,rfl,Z,T,T0,BB⟩
  case round=>
    clear Z T T0 BB
    obtain⟨k,hk,rfl,hZ,hT,hT0,hBel⟩:=hrel
    by_cases hlt:k<16
    · have hcr:=za hc hBel hB
      have b0:=zbr hb (4*k)
      have b1:=zbr hb (4*k+1)
      have b2:=zbr hb (4*k+2)
      have b3:=zbr hb (4*k+3)
      have cw:=zik b (off+4*k) (64 - 4*k) (64 - 4*k) (by omega) (by omega) _ _ _ _ wr (get8 hcr (i:=4*k) (by omega)) (by rw[Nat.add_assoc];exact get8 hcr (i:=4*k+1) (by omega)) (by rw[Nat.add_assoc];exact get8 hcr (i:=4*k+2) (by omega)) (by rw[Nat.add_assoc];exact get8 hcr (i:=4*k+3) (by omega)) b0 b1 b2 b3
      obtain⟨x,hx⟩:∃x,Hid (wordAt bs k=x):=⟨_,rfl⟩
      have hsl:=zdN (w:=wr) underlying169 isz8 b off (4*k) (4*(k:Int)) (by omega) (by omega)
      change Calls _ _ _ _ (fun e w'=>e=.returned (.int .u32 ((wordAt bs k).toNat:Int))∧w'=wr.drew)at cw
      rw[hx.out]at cw
      clear hcr b0 b1 b2 b3
      obtain⟨u,hu⟩:=Option.isSome_iff_exists.1 (hT k (by omega)).1
      have hf:=(hT k (by omega)).2
      rw[Nat.zero_add]at hu hf
      go_wp2_with fail
      refine cw.mono ?_
      rintro e w1 ⟨rfl,rfl⟩
      clear cw hsl
      go_wp2_with fail
      go_roundw
      case rel=>
        refine⟨k+1,by omega,by go_num,?_,zP ((World.there_drew _ _ _ _).2 hT) _ _,zP ((World.there_drew _ _ _ _).2 hT0) _ _,hBel.drew.setCell (p:=⟨w.heap.size+1,k,none⟩) (by simp) _⟩
        have:=zaa ((World.rangeAt_drew _ _ _ _).2 hZ) k (.int .u32 (x.toNat:Int))
        rw[Nat.zero_add,zb6]at this
        have e1:=zcP (words bs k) (64 - k) x (by omega)
        rw[zbM]at e1
        rw[e1]at this
        rw[zeY,hx.out]
        exact this
      case measure=>simp[intOf];omega
    · obtain rfl:k=16:=by omega
      go_wp2
      go_loopw [5] (fun i wr=>∃k m:Nat,k≤48∧m=16+k∧i=.int .i64 (m:Int)∧wr.rangeAt (w.heap.size+1) 0 (v32 (exts k (words bs 16)++List.replicate (48 - k) (0:Wd)))∧wr.there (w.heap.size+1) 0 64∧wr.there w.heap.size 0 64∧Below w.heap.size w wr) (fun i _=>64 - (intOf i).toNat)
      case atStart=>exact⟨0,16,by omega,rfl,rfl,hZ,hT,hT0,hBel⟩
      case round=>
        clear hZ hT hT0 hBel
        obtain⟨k,m,hk,hm,rfl,hZ,hT,hT0,hBel⟩:=hrel
        by_cases hlt:k<48
        · have hl:(exts k (words bs 16)).length=m:=by rw[zdl,zbM,hm]
          have gt:∀j,j<m→wr.cell? ⟨w.heap.size+1,j,none⟩=some (.int .u32 (((exts k (words bs 16)).getD j 0).toNat:Int)):=fun j hj=>by
            have:=zbF hZ (i:=j) (by simp[hl];omega)
            rw[Nat.zero_add,zg1 _ _ _ (by omega)]at this;exact this
          have g15:=gt (m - 15) (by omega)
          have g2:=gt (m - 2) (by omega)
          have g16:=gt (m - 16) (by omega)
          have g7:=gt (m - 7) (by omega)
          obtain⟨x,hx⟩:∃x,Hid (nxt (exts k (words bs 16))=x):=⟨_,rfl⟩
          have hn:Hid ((exts k (words bs 16)).getD (m - 16) 0+s0 ((exts k (words bs 16)).getD (m - 15) 0)+(exts k (words bs 16)).getD (m - 7) 0+s1 ((exts k (words bs 16)).getD (m - 2) 0)=x):=by
            have:=hx.out;unfold nxt at this;rw[hl]at this;exact this
          generalize (exts k (words bs 16)).getD (m - 15) 0=y15 at g15 hn
          generalize (exts k (words bs 16)).getD (m - 2) 0=y2 at g2 hn
          generalize (exts k (words bs 16)).getD (m - 16) 0=y16 at g16 hn
          generalize (exts k (words bs 16)).getD (m - 7) 0=y7 at g7 hn
          obtain⟨u,hu⟩:=Option.isSome_iff_exists.1 (hT m (by omega)).1
          have hf:=(hT m (by omega)).2
          rw[Nat.zero_add]at hu hf
          have hm1:16≤m:=by omega
          have hm2:m<64:=by omega
          have HM:Hid (m=16+k):=hm
          have HL:Hid ((exts k (words bs 16)).length=m):=hl
          clear gt hm hl
          go_wp2_with fail
          go_region
          have r7:=za1 y15 7 7 rfl (by decide) (by decide) (by decide)
          have r18:=za1 y15 18 18 rfl (by decide) (by decide) (by decide)
          have r17:=za1 y2 17 17 rfl (by decide) (by decide) (by decide)
          have r19:=za1 y2 19 19 rfl (by decide) (by decide) (by decide)
          go_wp2_with fail
          refine(r7 _).mono ?_
          rintro e w1 ⟨rfl,rfl⟩
          clear r7
          go_wp2_with fail
          refine(r18 _).mono ?_
          rintro e w1 ⟨rfl,rfl⟩
          clear r18
          go_wp2_with fail
          refine(r17 _).mono ?_
          rintro e w1 ⟨rfl,rfl⟩
          clear r17
          go_wp2_with fail
          refine(r19 _).mono ?_
          rintro e w1 ⟨rfl,rfl⟩
          clear r19
          go_wp2_with fail
          rw[zfI,zfH]
          have hs0:=(s0 y15).isLt
          have hs1:=(s1 y2).isLt
          have hy16:=y16.isLt
          have hy7:=y7.isLt
          go_region
          rw[zny,hn.out]
          go_wp2_with fail
          go_roundw
          case rel=>
            (repeat apply Exists.intro)
            refine⟨⟨k+1,m+1,by omega,by rw[HM.out];omega,by go_num,?_,(World.there_drew _ _ _ _).2 ((World.there_drew _ _ _ _).2 (zP hT _ _)),(World.there_drew _ _ _ _).2 ((World.there_drew _ _ _ _).2 (zP hT0 _ _)),(hBel.setCell (p:=⟨w.heap.size+1,m,none⟩) (by simp) _).drew.drew⟩,rfl⟩
            have:=(World.rangeAt_drew _ _ _ _).2 ((World.rangeAt_drew _ _ _ _).2 (zaa hZ m (.int .u32 (x.toNat:Int))))
            rw[Nat.zero_add,zb6]at this
            have e1:=zcP (exts k (words bs 16)) (48 - k) x (by omega)
            rw[HL.out]at e1
            rw[e1]at this
            show(World.rangeAt _ _ _ (v32 (ext (exts k (words bs 16))++_)))
            unfold ext
            rw[hx.out]
            exact this
          case measure=>simp[intOf];omega
        · obtain rfl:k=48:=by omega
          obtain rfl:m=64:=by omega
          have hZ2:wr.rangeAt (w.heap.size+1) 0 (v32 (spread bs)):=by simpa [spread]using hZ
          have hl2:(v32 (spread bs)).length=64:=by rw[v32_length,zfp]
          have h1c:=zbg (spread bs)
          obtain⟨cs,hcs⟩:∃cs,Hid (v32 (spread bs)=cs):=⟨_,rfl⟩
          rw[hcs.out]at hZ2 hl2 h1c
          have hi:(prog.info? 238).map (·.size)=some cs.length:=by rw[hl2];exact zeh
          go_upto_region 14 with fail
          refine wp_region_list ?_
          refine wpList_load_mid rfl 238 _ rfl _ _ rfl cs _ hZ2 underlying238 rfl hi ?_
          refine wpList_store_mid rfl 238 _ _ rfl _ _ cs.toArray rfl rfl (by simpa [hl2]using hT0) (by simpa using hi) (all_oneCell_toArray h1c) ?_
          have hR:=World.rangeAt_setCells_same wr w.heap.size 0 cs (by rw[hl2];exact hT0)
          have hBl:=zi (Nat.le_refl w.heap.size) cs 0 wr hBel
          generalize wr.setCells w.heap.size 0 cs=wx at *
          have hrs:=run_loadVar_mid (P:=prog) wx w.heap.size 0 238 cs _ hR underlying238 rfl hi
          clear hi
          go_wp2_with fail
          refine bodyPost_ret (v:=.agg cs.toArray) (by simp[results,results174,asAddr,hrs]) rfl ⟨by rw[hcs.out],hBl⟩
open Go.RowKit
open Sha
theorem zbp (w:World) (r:Option Nat):w.grownBy w r:=⟨rfl,rfl,rfl,Nat.le_refl _,fun _ _ _=>rfl⟩
theorem zJ {w w1 w2:World} {r:Option Nat} (h:w.grownBy w1 r) (k:w1.grownBy w2 r):w.grownBy w2 r:=
 ⟨k.os.trans h.os,k.tape.trans h.tape,k.output.trans h.output,Nat.le_trans h.size k.size,fun i hi hr=>(k.block i (Nat.lt_of_lt_of_le hi h.size) hr).trans (h.block i hi hr)⟩
theorem zaD (w:World) (R j:Nat) (v:Value):w.grownBy (w.setCell ⟨R,j,none⟩ v) (some R):=
 ⟨rfl,rfl,rfl,by simp[World.setCell],fun k _ hk=>Below.heap_setCell w _ v k (fun e=>hk (by rw[e]))⟩
theorem zba {w w':World} (h:Below w.heap.size w w') (r:Option Nat):w.grownBy w' r:=⟨h.os,h.tape,h.output,h.size,fun k hk _=>h.block k hk⟩
theorem zlK {w w':World} {r:Option Nat} (h:w.grownBy w' r):w.grownBy w'.drew r:=⟨h.os,h.tape,h.output,h.size,h.block⟩
theorem zlJ {w w':World} {r:Option Nat} (h:w.grownBy w' r) (n:Nat):w.grownBy (w'.drewN n) r:=⟨h.os,h.tape,h.output,h.size,h.block⟩
theorem zf2 {w w':World} {R b o:Nat} {cs:List Value} (h:w.rangeAt b o cs) (g:w.grownBy w' (some R)) (hn:b≠R):w'.rangeAt b o cs:=fun j v hv=>g.cell (h j v hv) (by simpa using hn)
def kl:List Wd:=ks.map (BitVec.ofNat 32)
theorem zgL (t:Nat) (h:t<64):kl.getD t 0=k t:=by
 simp only[kl,k,List.getD_eq_getElem?_getD,List.getElem?_map]
 rw[List.getElem?_eq_getElem (show t<ks.length from h)];rfl
def Keep (R:Nat) (w wr:World):Prop:=(∀j,8≤j→wr.cell? ⟨R,j,none⟩=w.cell? ⟨R,j,none⟩)∧(∀j,wr.frozen? ⟨R,j,none⟩=w.frozen? ⟨R,j,none⟩)∧w.grownBy wr (some R)
theorem Keep.refl (R:Nat) (w:World):Keep R w w:=⟨fun _ _=>rfl,fun _=>rfl,zbp _ _⟩
theorem Keep.drewN {R:Nat} {w wr:World} (h:Keep R w wr) (n:Nat):Keep R w (wr.drewN n):=⟨fun j hj=>(by simpa using h.1 j hj),fun j=>(by simpa using h.2.1 j),zlJ h.2.2 n⟩
theorem Keep.below {R:Nat} {w wr wx:World} (h:Keep R w wr) (hb:Below wr.heap.size wr wx) (hR:R<wr.heap.size):Keep R w wx:=
 ⟨fun j hj=>(hb.cell (p:=⟨R,j,none⟩) hR).trans (h.1 j hj),fun j=>(hb.frozen (p:=⟨R,j,none⟩) hR).trans (h.2.1 j),zJ h.2.2 (zba hb _)⟩
theorem Keep.set {R:Nat} {w wr:World} (h:Keep R w wr) (i:Nat) (hi:i<8) (v:Value):Keep R w (wr.setCell ⟨R,i,none⟩ v):=
 ⟨fun j hj=>(World.cell?_setCell_other _ _ _ _ (fun q=>by injection q with _ q2 _;omega)).trans (h.1 j hj),fun j=>(World.frozen?_setCell _ _ _ _).trans (h.2.1 j),zJ h.2.2 (zaD _ _ _ _)⟩
theorem zaB {w:World} {b o n:Nat} {cs:List Value} (h:w.rangeAt b o cs):(w.drewN n).rangeAt b o cs:=fun j v hv=>by simpa using h j v hv
theorem zbs {w:World} {b o n m:Nat} (h:w.there b o m):(w.drewN n).there b o m:=fun j hj=>by simpa using h j hj
namespace Sha
theorem zgA (x:Wd):bits .xor .u32 IntKind.u32.max (x.toNat:Int)=((~~~ x).toNat:Int):=by
 show IntKind.u32.wrap ((BitVec.ofInt 32 (4294967295:Int)^^^BitVec.ofInt 32 (x.toNat:Int)).toNat:Int)=_
 rw[zbz,zcD _ (BitVec.isLt _)]
 have e:BitVec.ofInt 32 4294967295=BitVec.allOnes 32:=by decide
 rw[e,BitVec.allOnes_xor]
theorem ziW (kk x a b c d e f g h:Wd):(((h.toNat:Int)+bits .xor .u32 (bits .xor .u32 ((rotr e 6).toNat:Int) ((rotr e 11).toNat:Int)) ((rotr e 25).toNat:Int)+bits .xor .u32 (bits .and .u32 (e.toNat:Int) (f.toNat:Int)) (bits .and .u32 (bits .xor .u32 (if IntKind.u32.signed=true then -1 else IntKind.u32.max) (e.toNat:Int)) (g.toNat:Int))+(kk.toNat:Int))%4294967296+(x.toNat:Int))%4294967296=((t1 kk x ⟨a,b,c,d,e,f,g,h⟩).toNat:Int):=by
 have hm:(if IntKind.u32.signed=true then -1 else IntKind.u32.max)=IntKind.u32.max:=by decide
 rw[hm]
 simp only[zgA,zaF,zbI]
 show _=((h+(rotr e 6^^^rotr e 11^^^rotr e 25)+((e&&&f)^^^(~~~ e&&&g))+kk+x:Wd).toNat:Int)
 generalize (rotr e 6^^^rotr e 11^^^rotr e 25)=p
 generalize ((e&&&f)^^^(~~~ e&&&g))=q
 rw[BitVec.toNat_add,BitVec.toNat_add,BitVec.toNat_add,BitVec.toNat_add];omega
theorem ziV (a b c d e f g h:Wd):(bits .xor .u32 (bits .xor .u32 ((rotr a 2).toNat:Int) ((rotr a 13).toNat:Int)) ((rotr a 22).toNat:Int)+bits .xor .u32 (bits .xor .u32 (bits .and .u32 (a.toNat:Int) (b.toNat:Int)) (bits .and .u32 (a.toNat:Int) (c.toNat:Int))) (bits .and .u32 (b.toNat:Int) (c.toNat:Int)))%4294967296=((t2 ⟨a,b,c,d,e,f,g,h⟩).toNat:Int):=by
 simp only[zaF,zbI]
 show _=(((rotr a 2^^^rotr a 13^^^rotr a 22)+((a&&&b)^^^(a&&&c)^^^(b&&&c)):Wd).toNat:Int)
 generalize (rotr a 2^^^rotr a 13^^^rotr a 22)=p
 generalize ((a&&&b)^^^(a&&&c)^^^(b&&&c))=q
 rw[BitVec.toNat_add];omega
end Sha
def mix (s r:St) (j:Nat):List Wd:=(list (plus s r)).take j++(list s).drop j
theorem zkR {wr:World} {R:Nat} (s:St) (a b c d e f g h:Wd) (j:Nat) (hj:j<8) (hR:wr.rangeAt R 0 (v32 (mix s ⟨a,b,c,d,e,f,g,h⟩ j))):
    ∃x y:Wd,(∀w,(Instr.index 168 (.agg #[.int .u32 (a.toNat:Int),.int .u32 (b.toNat:Int),.int .u32 (c.toNat:Int),.int .u32 (d.toNat:Int),.int .u32 (e.toNat:Int),.int .u32 (f.toNat:Int),.int .u32 (g.toNat:Int),.int .u32 (h.toNat:Int)]) (.int .i64 (j:Int))).run prog w=.ok (.int .u32 (x.toNat:Int)) w)∧
      wr.cell? ⟨R,j,none⟩=some (.int .u32 (y.toNat:Int))∧Hid ((mix s ⟨a,b,c,d,e,f,g,h⟩ j).set j (y+x)=mix s ⟨a,b,c,d,e,f,g,h⟩ (j+1)):=by
  match j,hj with
  |0,_=>exact⟨a,s.a,fun _=>by kernel_rfl,by simpa using hR 0 _ rfl,rfl⟩
  |1,_=>exact⟨b,s.b,fun _=>by kernel_rfl,by simpa using hR 1 _ rfl,rfl⟩
  |2,_=>exact⟨c,s.c,fun _=>by kernel_rfl,by simpa using hR 2 _ rfl,rfl⟩
  |3,_=>exact⟨d,s.d,fun _=>by kernel_rfl,by simpa using hR 3 _ rfl,rfl⟩
  |4,_=>exact⟨e,s.e,fun _=>by kernel_rfl,by simpa using hR 4 _ rfl,rfl⟩
  |5,_=>exact⟨f,s.f,fun _=>by kernel_rfl,by simpa using hR 5 _ rfl,rfl⟩
  |6,_=>exact⟨g,s.g,fun _=>by kernel_rfl,by simpa using hR 6 _ rfl,rfl⟩
  |7,_=>exact⟨h,s.h,fun _=>by kernel_rfl,by simpa using hR 7 _ rfl,rfl⟩
theorem ziI (R:Nat) (s:St) (ws:List Wd) (w:World) (hR:2≤R) (hRs:R<w.heap.size) (hsl:ws.length=64)
   (c:Calls prog 174 #[.pointer (some ⟨R,8,none⟩)] w fun e w'=>e=.returned (.agg (v32 ws).toArray)∧Below w.heap.size w w')
   (hw:w.rangeAt R 0 (v32 (list s))) (hT:w.there R 0 8) (hk:w.rangeAt 1 0 (v32 kl)):
   Calls prog 150 #[.pointer (some ⟨R,0,none⟩)] w fun e w'=>e=.returned (.tuple #[])∧w'.rangeAt R 0 (v32 (list (plus s (rounds ws 64 s))))∧Keep R w w':=by
  have hl2:(v32 ws).length=64:=by rw[v32_length,hsl]
  have h1c:=zbg ws
  obtain⟨cs,hcs0⟩:∃cs,Hid (v32 ws=cs):=⟨_,rfl⟩
  rw[hcs0.out]at c hl2 h1c
  have hsz:cs.toArray.size=64:=by rw[List.size_toArray,hl2]
  have hi:(prog.info? 238).map (·.size)=some cs.toArray.size:=by rw[hsz];exact zeh
  go_enter func150,ntmps150
  go_wp2_with fail
  refine c.mono ?_
  rintro e w1 ⟨rfl,hw1⟩
  clear c
  have hT1:(w1.alloc (.cells (Array.replicate 64 (.int .u32 0)) 238)).there w1.heap.size 0 cs.toArray.size:=by rw[hsz];exact zb7 w1
  go_wp2_with (refine wpList_store_mid rfl 238 _ _ rfl _ _ cs.toArray rfl rfl hT1 hi (all_oneCell_toArray h1c) ?_)
  go_name_world w2 hw2
  have F:=zq w1 (Array.replicate 64 (.int .u32 0)) 238 cs (by rw[hl2];rfl)
  rw[show(w1.alloc (.cells (Array.replicate 64 (.int .u32 0)) 238)).setCells w1.heap.size 0 cs=w2 from hw2]at F
  obtain⟨hcs,hB1,hz2,_⟩:=F
  clear hw2 hT1 hi hsz h1c hl2
  have hs1:=hw1.size
  have hB2:=hw1.trans (hB1.mono hs1)
  have hK:=(Keep.refl R w).below hB2 hRs
  have hRg:=za hw hB2 hRs
  have hKl:=za hk hB2 (by omega)
  have hTh:=zg hT hB2 hRs
  have hBR:R<w1.heap.size:=by omega
  clear hB1 hB2 hw1 hs1
  generalize w1.heap.size=B at hcs hz2 hBR ⊢
  have g0:w2.cell? ⟨R,0,none⟩=some (.int .u32 (s.a.toNat:Int)):=hRg 0 _ rfl
  have g1:w2.cell? ⟨R,1,none⟩=some (.int .u32 (s.b.toNat:Int)):=by simpa using hRg 1 _ rfl
  have g2:w2.cell? ⟨R,2,none⟩=some (.int .u32 (s.c.toNat:Int)):=by simpa using hRg 2 _ rfl
  have g3:w2.cell? ⟨R,3,none⟩=some (.int .u32 (s.d.toNat:Int)):=by simpa using hRg 3 _ rfl
  have g4:w2.cell? ⟨R,4,none⟩=some (.int .u32 (s.e.toNat:Int)):=by simpa using hRg 4 _ rfl
  have g5:w2.cell? ⟨R,5,none⟩=some (.int .u32 (s.f.toNat:Int)):=by simpa using hRg 5 _ rfl
  have g6:w2.cell? ⟨R,6,none⟩=some (.int .u32 (s.g.toNat:Int)):=by simpa using hRg 6 _ rfl
  have g7:w2.cell? ⟨R,7,none⟩=some (.int .u32 (s.h.toNat:Int)):=by simpa using hRg 7 _ rfl
  simp only[Act.put]
  go_quiet (fail)
  go_wp2
  go_quiet (fail)
  go_wp2
  go_name_world w3 hw3
  rw[←hcs0.out]at hcs
  obtain⟨hcs,hK,hRg,hKl,hTh⟩:w3.rangeAt B 0 (v32 ws)∧Keep R w w3∧w3.rangeAt R 0 (v32 (list s))∧w3.rangeAt 1 0 (v32 kl)∧w3.there R 0 8:=by
    rw[←hw3]
    exact⟨zaB (zaB hcs),(hK.drewN _).drewN _,zaB (zaB hRg),zaB (zaB hKl),zbs (zbs hTh)⟩
  have HSL:Hid (ws.length=64):=hsl
  clear hsl hT hk hw hcs0
  clear hw3 g0 g1 g2 g3 g4 g5 g6 g7 hz2
  go_loopw [3,4,5,6,7,8,9,10,60] (fun a b c d e f g h i wr=>∃(t:Nat) (st:St),t≤64∧i=.int .i64 (t:Int)∧Hid (rounds ws t s=st)∧a=.int .u32 (st.a.toNat:Int)∧b=.int .u32 (st.b.toNat:Int)∧c=.int .u32 (st.c.toNat:Int)∧d=.int .u32 (st.d.toNat:Int)∧e=.int .u32 (st.e.toNat:Int)∧f=.int .u32 (st.f.toNat:Int)∧g=.int .u32 (st.g.toNat:Int)∧h=.int .u32 (st.h.toNat:Int)∧wr.rangeAt B 0 (v32 ws)∧Keep R w wr∧wr.rangeAt R 0 (v32 (list s))∧wr.rangeAt 1 0 (v32 kl)∧wr.there R 0 8) (fun _ _ _ _ _ _ _ _ i _=>64 - (intOf i).toNat)
  case atStart=>exact⟨0,s,by omega,rfl,rfl,rfl,rfl,rfl,rfl,rfl,rfl,rfl,rfl,hcs,hK,hRg,hKl,hTh⟩
  case round=>
    clear hcs hK hRg hKl hTh
    obtain⟨t,⟨a,b,c,d,e,f,g,hh⟩,ht,rfl,hst,rfl,rfl,rfl,rfl,rfl,rfl,rfl,rfl,hcs,hK,hRg,hKl,hTh⟩:=hrel
    by_cases hlt:t<64
    · have gk:=zbF hKl (i:=t) (show t<64 from hlt)
      have gw:=zbF hcs (i:=t) (by rw[HSL.out];exact hlt)
      rw[zgL t hlt,Nat.zero_add]at gk
      rw[Nat.zero_add]at gw
      have hnx:Hid (rounds ws (t+1) s=round (k t) (ws.getD t 0) ⟨a,b,c,d,e,f,g,hh⟩):=by
        show round _ _ (rounds ws t s)=_
        rw[hst.out]
      generalize ws.getD t 0=x at gw hnx
      generalize k t=kk at gk hnx
      simp only
      go_wp2_with fail
      have r6:=za1 e 6 6 rfl (by decide) (by decide) (by decide)
      have r11:=za1 e 11 11 rfl (by decide) (by decide) (by decide)
      have r25:=za1 e 25 25 rfl (by decide) (by decide) (by decide)
      go_quiet (first|exact Calls.quiet_of_same (r6 _)|exact Calls.quiet_of_same (r11 _)|exact Calls.quiet_of_same (r25 _))
      clear r6 r11 r25
      rw[ziW kk x a b c d e f g hh]
      obtain⟨T1,hT1⟩:∃T1,Hid (t1 kk x ⟨a,b,c,d,e,f,g,hh⟩=T1):=⟨_,rfl⟩
      rw[hT1.out]
      go_wp2_with fail
      refine(za1 a 2 2 rfl (by decide) (by decide) (by decide) _).mono ?_
      rintro e' w' ⟨rfl,rfl⟩
      go_wp2_with fail
      refine(za1 a 13 13 rfl (by decide) (by decide) (by decide) _).mono ?_
      rintro e' w' ⟨rfl,rfl⟩
      go_wp2_with fail
      refine(za1 a 22 22 rfl (by decide) (by decide) (by decide) _).mono ?_
      rintro e' w' ⟨rfl,rfl⟩
      go_upto_region 8 with fail
      rw[ziV a b c d e f g hh]
      obtain⟨T2,hT2⟩:∃T2,Hid (t2 ⟨a,b,c,d,e,f,g,hh⟩=T2):=⟨_,rfl⟩
      rw[hT2.out]
      have hr:Hid (round kk x ⟨a,b,c,d,e,f,g,hh⟩=⟨T1+T2,a,b,c,d+T1,e,f,g⟩):=by
        show round _ _ _=_
        unfold round
        rw[hT1.out,hT2.out]
      go_wp2_with fail
      go_roundw
      case rel=>
        refine⟨t+1,⟨T1+T2,a,b,c,d+T1,e,f,g⟩,by omega,by go_num,?_,by rw[zbJ],rfl,rfl,rfl,by rw[zbJ],rfl,rfl,rfl,zaB hcs,hK.drewN _,zaB hRg,zaB hKl,zbs hTh⟩
        show rounds ws (t+1) s=_
        rw[hnx.out,hr.out]
      case measure=>simp[intOf];omega
    · have hlt':¬(t:Int)<64:=by omega
      go_wp2_with fail
      go_loopw [132] (fun i wr=>∃j:Nat,j≤8∧i=.int .i64 (j:Int)∧wr.rangeAt R 0 (v32 (mix s ⟨a,b,c,d,e,f,g,hh⟩ j))∧Keep R w wr∧wr.there R 0 8) (fun i _=>8 - (intOf i).toNat)
      case atStart=>exact⟨0,by omega,rfl,hRg,hK,hTh⟩
      case round=>
        clear hcs hK hRg hKl hTh
        obtain⟨j,hj,rfl,hRg,hK,hTh⟩:=hrel
        by_cases hl8:j<8
        · obtain⟨x,y,hix,gy,hmx⟩:=zkR (wr:=wr) s a b c d e f g hh j hl8 hRg
          have hf:=(hTh j hl8).2
          rw[Nat.zero_add]at hf
          have hxl:=x.isLt
          have hyl:=y.isLt
          go_wp2_with fail
          clear hix
          go_region
          go_wp2_with fail
          rw[zbJ]
          go_roundw
          case rel=>
            refine⟨j+1,by omega,by go_num,?_,?_,(World.there_drew _ _ _ _).2 (zP hTh _ _)⟩
            · have:=zaa hRg j (.int .u32 ((y+x).toNat:Int))
              rw[Nat.zero_add,zb6,hmx.out]at this
              exact(World.rangeAt_drew _ _ _ _).2 this
            · exact(hK.set j hl8 _).drewN 1
          case measure=>simp[intOf];omega
        · obtain rfl:j=8:=by omega
          go_wp2_with fail
          go_end0
          refine⟨rfl,?_,hK⟩
          have ht64:t=64:=by omega
          have e1:=hst.out
          rw[ht64]at e1
          rw[e1]
          exact hRg
theorem ziJ (R:Nat) (s:St) (bs:List Int) (w:World) (hlen:bs.length=64) (hb:∀z∈bs,0≤z∧z<256) (hR:2≤R) (hRs:R<w.heap.size)
   (hw:w.rangeAt R 0 (v32 (list s))) (hv:w.rangeAt R 8 (v8 bs)) (hT:w.there R 0 8) (hk:w.rangeAt 1 0 (v32 kl)):
   Calls prog 150 #[.pointer (some ⟨R,0,none⟩)] w fun e w'=>e=.returned (.tuple #[])∧w'.rangeAt R 0 (v32 (list (block s bs)))∧Keep R w w':=
  ziI R s (spread bs) w hR hRs (zfp bs) (zi1 R 8 bs w hlen hb hRs hv) hw hT hk
open Go.RowKit
open Sha
namespace Sha
theorem zjx (x:Wd) (n:Nat) (hn:n≤32) (m:Int) (hm:m=(n:Int)):bits .or .u32 ((x.toNat:Int) / 2^m.toNat) ((x.toNat:Int)*2^(32 - m).toNat%4294967296)=((rotr x n).toNat:Int):=by
 subst hm
 have e1:(32 - (n:Int)).toNat=32 - n:=by omega
 have h1:=zfw x (32 - n)
 have h2:=zcO x n
 have p1:((2:Int)^(32 - n))=((2^(32 - n):Nat):Int):=by simp
 have p2:((2:Int)^n)=((2^n:Nat):Int):=by simp
 rw[e1,Int.toNat_natCast,p1,p2,h1,h2,or32,rotr]
end Sha
theorem za3 (x:Wd) (n:Nat) (m:Int) (hm:m=(n:Int)) (hn0:0<n) (hn:n<32) (w:World):
   Calls prog 172 #[.int .u32 (x.toNat:Int),.int .i64 m] w fun e w'=>e=.returned (.int .u32 ((rotr x n).toNat:Int))∧w'=w.drew:=by
  have hx:=x.isLt
  have er:=zjx x n (by omega) m hm
  have h0:0<m:=by omega
  have h1:m<32:=by omega
  clear hm
  go_enter func172,ntmps172
  go_wp2
  go_region
  go_wp2
  go_ret
  exact⟨by rw[←er];rfl,rfl⟩
def kLit:Array Value:=#[.int .u32 1116352408,.int .u32 1899447441,.int .u32 3049323471,.int .u32 3921009573,.int .u32 961987163,.int .u32 1508970993,.int .u32 2453635748,.int .u32 2870763221,.int .u32 3624381080,.int .u32 310598401,.int .u32 607225278,.int .u32 1426881987,.int .u32 1925078388,.int .u32 2162078206,.int .u32 2614888103,.int .u32 3248222580,.int .u32 3835390401,.int .u32 4022224774,.int .u32 264347078,.int .u32 604807628,.int .u32 770255983,.int .u32 1249150122,.int .u32 1555081692,.int .u32 1996064986,.int .u32 2554220882,.int .u32 2821834349,.int .u32 2952996808,.int .u32 3210313671,.int .u32 3336571891,.int .u32 3584528711,.int .u32 113926993,.int .u32 338241895,.int .u32 666307205,.int .u32 773529912,.int .u32 1294757372,.int .u32 1396182291,.int .u32 1695183700,.int .u32 1986661051,.int .u32 2177026350,.int .u32 2456956037,.int .u32 2730485921,.int .u32 2820302411,.int .u32 3259730800,.int .u32 3345764771,.int .u32 3516065817,.int .u32 3600352804,.int .u32 4094571909,.int .u32 275423344,.int .u32 430227734,.int .u32 506948616,.int .u32 659060556,.int .u32 883997877,.int .u32 958139571,.int .u32 1322822218,.int .u32 1537002063,.int .u32 1747873779,.int .u32 1955562222,.int .u32 2024104815,.int .u32 2227730452,.int .u32 2361852424,.int .u32 2428436474,.int .u32 2756734187,.int .u32 3204031479,.int .u32 3329325298]
theorem zmF (t:Nat) (ht:t<64) (w:World):
   Calls prog 173 #[.int .i64 (t:Int)] w fun e w'=>e=.returned (.int .u32 ((k t).toNat:Int))∧Below w.heap.size w w':=by
  have hl2:(v32 kl).length=64:=rfl
  have h1c:=zbg kl
  have hkt:Hid (kl.getD t 0=k t):=zgL t ht
  have elit:kLit=(v32 kl).toArray:=by kernel_rfl
  obtain⟨cs,hcs⟩:∃cs,Hid (v32 kl=cs):=⟨_,rfl⟩
  rw[hcs.out]at hl2 h1c elit
  have hsz:cs.toArray.size=64:=by rw[List.size_toArray,hl2]
  have hi:(prog.info? 238).map (·.size)=some cs.toArray.size:=by rw[hsz];exact zeh
  have hT1:(w.alloc (.cells (Array.replicate 64 (.int .u32 0)) 238)).there w.heap.size 0 cs.toArray.size:=by rw[hsz];exact zb7 w
  go_enter func173,ntmps173
  go_upto_region 2 with(refine wpList_store_mid rfl 238 _ _ rfl _ _ cs.toArray rfl (congrArg Value.agg elit) hT1 hi (all_oneCell_toArray h1c) ?_)
  go_name_world w2 hw2
  have F:=zq w (Array.replicate 64 (.int .u32 0)) 238 cs (by rw[hl2];rfl)
  rw[show(w.alloc (.cells (Array.replicate 64 (.int .u32 0)) 238)).setCells w.heap.size 0 cs=w2 from hw2]at F
  obtain⟨hR,hB,_,_⟩:=F
  clear hw2 hT1 hi hsz h1c hl2 elit
  rw[←hcs.out]at hR
  have hc:=zbF hR (i:=t) (show t<64 from ht)
  rw[hkt.out,Nat.zero_add]at hc
  obtain⟨x,hx⟩:∃x,Hid (k t=x):=⟨_,rfl⟩
  rw[hx.out]at hc
  clear hR hkt
  simp only[Act.put]
  go_wp2
  go_ret
  exact⟨by rw[hx.out];rfl,hB⟩
open Go Go.RowKit
section
variable {P : Program} {ops : Array Oper} {Q : Exit → Act → World → Prop}
def HeldS (P:Program) (ops:Array Oper) (Q:Exit→Act→World→Prop) (S:World→Prop) (fuel:Nat) (listed:Array Bool) (a:Act) (w:World):Prop:=
 wpAnyH P .any ops (NoPanic Q) S fuel listed a w
theorem zw {id:Nat} {S:World→Prop} {a:Act} {w:World} (n:Nat) (hn:ops.size=n) (hm:P.follows .mixedOrders=true) (h:HeldS P ops Q S n (Array.replicate n false) a w.drew):(Code.region id ops true).wp P Q a w:=by
 subst hn
 exact wp_region_noPanic (wp_region_held hm h)
theorem zei {i:Nat} {S:World→Prop} {oi:Oper} {d:Option Nat} {v:Value} {fuel:Nat} {listed:Array Bool} {a:Act} {w:World} (hi:ops[i]? =some oi)
  (hs:Region.noSelect ops=true) (hf:Region.free .any ops listed i=true) (hr:(Region.ready .any ops listed).contains i=true)
  (hw:Region.wanted oi (yielded ops a.tmps)=true) (hy:∀w',S w'→(execOp a.eval oi).run P w'=.ok (.value v) w') (hS:S w) (hdst:oi.dst=d)
  (h:HeldS P ops Q S fuel (listed.setIfInBounds i true) (a.put d v) w):HeldS P ops Q S (fuel+1) listed a w:=by
 subst hdst
 exact wpAnyH_take hi hs hf hr (fun _ _ _ h=>h) (Or.inl ⟨hw,hy⟩) hS h
theorem hs_t (i d:Nat) (v:Value) {S:World→Prop} {oi:Oper} {fuel:Nat} {listed:Array Bool} {a:Act} {w:World} (hi:ops[i]? =some oi) (hs:Region.noSelect ops=true) (hf:Region.free .any ops listed i=true) (hr:(Region.ready .any ops listed).contains i=true) (hw:Region.wanted oi (yielded ops a.tmps)=true) (hy:∀w',S w'→(execOp a.eval oi).run P w'=.ok (.value v) w') (hS:S w) (hdst:oi.dst=some d) (h:HeldS P ops Q S fuel (listed.setIfInBounds i true) (a.put (some d) v) w):HeldS P ops Q S (fuel+1) listed a w:=zei hi hs hf hr hw hy hS hdst h
theorem zlg {i:Nat} {S:World→Prop} {oi:Oper} {d:Option Nat} {fuel:Nat} {listed:Array Bool} {a:Act} {w:World} (hi:ops[i]? =some oi)
  (hs:Region.noSelect ops=true) (hf:Region.free .any ops listed i=true) (hr:(Region.ready .any ops listed).contains i=true)
  (hw:Region.wanted oi (yielded ops a.tmps)=false) (hS:S w) (hdst:oi.dst=d)
  (h:HeldS P ops Q S fuel (listed.setIfInBounds i true) (a.put d undef) w):HeldS P ops Q S (fuel+1) listed a w:=by
 subst hdst
 exact wpAnyH_take hi hs hf hr (fun _ _ _ h=>h) (Or.inr ⟨hw,rfl⟩) hS h
theorem zli {i:Nat} {S:World→Prop} {oi:Oper} {d:Option Nat} {f:FuncId} {args:Array Value} {fuel:Nat} {listed:Array Bool} {a:Act} {w:World} (hi:ops[i]? =some oi)
  (hr:Region.ready .any ops listed=[i]) (hw:Region.wanted oi (yielded ops a.tmps)=true) (hy:(execOp a.eval oi).run P w=.ok (.enter f args) w) (hdst:oi.dst=d)
  (h:Calls P f args w fun e w'=>∃v,e=.returned v∧S w'∧HeldS P ops Q S fuel (listed.setIfInBounds i true) (a.put d v) w'):HeldS P ops Q S (fuel+1) listed a w:=by
 subst hdst
 refine wpAnyH_all hr (by simp) ?_
 intro j hj
 obtain rfl:j=i:=by simpa using hj
 unfold wpOp
 simp only[hi,hw,if_true]
 left
 unfold Oper.wp
 rw[hy]
 refine h.mono ?_
 rintro e w' ⟨v,rfl,hb,hk⟩
 exact⟨hb,hk⟩
theorem zbo {i:Nat} {S:World→Prop} {oi:Oper} {d:Option Nat} {v:Value} {fuel:Nat} {listed:Array Bool} {a:Act} {w w':World} (hi:ops[i]? =some oi)
  (hr:Region.ready .any ops listed=[i]) (hw:Region.wanted oi (yielded ops a.tmps)=true) (hy:(execOp a.eval oi).run P w=.ok (.value v) w') (hdst:oi.dst=d)
  (hS:S w') (h:HeldS P ops Q S fuel (listed.setIfInBounds i true) (a.put d v) w'):HeldS P ops Q S (fuel+1) listed a w:=by
 subst hdst
 refine wpAnyH_all hr (by simp) ?_
 intro j hj
 obtain rfl:j=i:=by simpa using hj
 unfold wpOp
 simp only[hi,hw,if_true]
 left
 unfold Oper.wp
 rw[hy]
 exact⟨hS,h⟩
theorem zG {i:Nat} {S:World→Prop} {oi:Oper} {fuel:Nat} {listed:Array Bool} {a:Act} {w w':World} (hi:ops[i]? =some oi)
  (hr:Region.ready .any ops listed=[i]) (hw:Region.wanted oi (yielded ops a.tmps)=true) (hy:(execOp a.eval oi).run P w=.ok .skip w') (hdst:oi.dst=none)
  (hS:S w') (h:HeldS P ops Q S fuel (listed.setIfInBounds i true) a w'):HeldS P ops Q S (fuel+1) listed a w:=by
 refine wpAnyH_all hr (by simp) ?_
 intro j hj
 obtain rfl:j=i:=by simpa using hj
 unfold wpOp
 simp only[hi,hw,if_true]
 left
 unfold Oper.wp
 rw[hy]
 refine⟨hS,?_⟩
 rw[hdst]
 exact h
theorem zv {S:World→Prop} {fuel:Nat} {listed:Array Bool} {a:Act} {w:World} (hr:Region.ready .any ops listed=[]) (h:Q .normal a w):HeldS P ops Q S fuel listed a w:=
 wpAnyH_done hr (NoPanic.normal h) fuel
theorem hs_a (i d:Nat) {v:Value} {S:World→Prop} {oi:Oper} {fuel:Nat} {listed:Array Bool} {a a':Act} {w:World} (hS:S w) (h:HeldS P ops Q S fuel (listed.setIfInBounds i true) a' w) (hi:ops[i]? =some oi:=by rfl) (hy:∀w',S w'→(execOp a.eval oi).run P w'=.ok (.value v) w':=by(intro w' hw;go_simp;try with_reducible rfl)) (ha:a.put (some d) v=a':=by(simp only[nz];try rfl)) (hs:Region.noSelect ops=true:=by kernel_rfl) (hf:Region.free .any ops listed i=true:=by kernel_rfl) (hr:(Region.ready .any ops listed).contains i=true:=by kernel_rfl) (hw:Region.wanted oi (yielded ops a.tmps)=true:=by rfl) (hdst:oi.dst=some d:=by rfl):HeldS P ops Q S (fuel+1) listed a w:=zei hi hs hf hr hw hy hS hdst (ha▸h)
theorem hs_v (i d:Nat) (v:Value) {S:World→Prop} {oi:Oper} {fuel:Nat} {listed:Array Bool} {a a':Act} {w:World} (hi:ops[i]? =some oi) (hy:∀w',S w'→(execOp a.eval oi).run P w'=.ok (.value v) w') (hS:S w) (h:HeldS P ops Q S fuel (listed.setIfInBounds i true) a' w) (ha:a.put (some d) v=a':=by(simp only[nz];try rfl)) (hs:Region.noSelect ops=true:=by kernel_rfl) (hf:Region.free .any ops listed i=true:=by kernel_rfl) (hr:(Region.ready .any ops listed).contains i=true:=by kernel_rfl) (hw:Region.wanted oi (yielded ops a.tmps)=true:=by rfl) (hdst:oi.dst=some d:=by rfl):HeldS P ops Q S (fuel+1) listed a w:=zei hi hs hf hr hw hy hS hdst (ha▸h)
theorem hs_k (i d:Nat) {S:World→Prop} {oi:Oper} {fuel:Nat} {listed:Array Bool} {a a':Act} {w:World} (hS:S w) (h:HeldS P ops Q S fuel (listed.setIfInBounds i true) a' w) (hi:ops[i]? =some oi:=by rfl) (ha:a.put (some d) undef=a':=by(simp only[nz];try rfl)) (hs:Region.noSelect ops=true:=by kernel_rfl) (hf:Region.free .any ops listed i=true:=by kernel_rfl) (hr:(Region.ready .any ops listed).contains i=true:=by kernel_rfl) (hw:Region.wanted oi (yielded ops a.tmps)=false:=by rfl) (hdst:oi.dst=some d:=by rfl):HeldS P ops Q S (fuel+1) listed a w:=zlg hi hs hf hr hw hS hdst (ha▸h)
theorem hs_c (i d:Nat) {S:World→Prop} {oi:Oper} {f:FuncId} {args:Array Value} {fuel:Nat} {listed:Array Bool} {a:Act} {w:World} (h:Calls P f args w fun e w'=>∃v,e=.returned v∧S w'∧HeldS P ops Q S fuel (listed.setIfInBounds i true) (a.put (some d) v) w') (hi:ops[i]? =some oi:=by rfl) (hy:(execOp a.eval oi).run P w=.ok (.enter f args) w:=by(go_simp;first|done|exact⟨rfl,rfl⟩|with_reducible rfl)) (hr:Region.ready .any ops listed=[i]:=by kernel_rfl) (hw:Region.wanted oi (yielded ops a.tmps)=true:=by rfl) (hdst:oi.dst=some d:=by rfl):HeldS P ops Q S (fuel+1) listed a w:=zli hi hr hw hy hdst h
end
end Go.Proofs.YtcbpbkefggekmaaGreatDoor
namespace Go.Proofs.YtcbpbkefggekmaaGreatDoor
open Go.RowKit
open Sha
namespace Sha
def four (x:Wd):List Int:=[byteOf x 0,byteOf x 1,byteOf x 2,byteOf x 3]
end Sha
theorem zj8 (b off len cap:Nat) (x:Wd) (w:World) (hl:4≤len) (hl2:len≤64) (hT:w.there b off 4):
   Calls prog 151 #[.slice (some ⟨b,off,none⟩) len cap,.int .u32 (x.toNat:Int)] w fun e w'=>e=.returned (.tuple #[])∧w'=w.setCells b off (v8 (four x)):=by
  have hx:=x.isLt
  obtain⟨u0,h0⟩:=Option.isSome_iff_exists.1 (hT 0 (by omega)).1
  obtain⟨u1,h1⟩:=Option.isSome_iff_exists.1 (hT 1 (by omega)).1
  obtain⟨u2,h2⟩:=Option.isSome_iff_exists.1 (hT 2 (by omega)).1
  obtain⟨u3,h3⟩:=Option.isSome_iff_exists.1 (hT 3 (by omega)).1
  have f0:=(hT 0 (by omega)).2
  have f1:=(hT 1 (by omega)).2
  have f2:=(hT 2 (by omega)).2
  have f3:=(hT 3 (by omega)).2
  rw[Nat.add_zero]at h0 f0
  have hw:((((w.setCell ⟨b,off,none⟩ (.int .u8 ((x.toNat:Int) / 16777216))).setCell ⟨b,off+1,none⟩ (.int .u8 ((x.toNat:Int) / 65536%256))).setCell ⟨b,off+2,none⟩ (.int .u8 ((x.toNat:Int) / 256%256))).setCell ⟨b,off+3,none⟩ (.int .u8 ((x.toNat:Int)%256)))=w.setCells b off (v8 (four x)):=by
    have b0:(x.toNat:Int) / 16777216=Sha.byteOf x 0:=by unfold Sha.byteOf;simp;omega
    have b1:(x.toNat:Int) / 65536%256=Sha.byteOf x 1:=by unfold Sha.byteOf;simp
    have b2:(x.toNat:Int) / 256%256=Sha.byteOf x 2:=by unfold Sha.byteOf;simp
    have b3:(x.toNat:Int)%256=Sha.byteOf x 3:=by unfold Sha.byteOf;simp
    rw[b0,b1,b2,b3];rfl
  have HW:Hid (_=_):=hw
  clear hw
  go_enter func151,ntmps151
  go_wp2_with fail
  go_end0
  exact⟨rfl,HW.out⟩
open Go.RowKit
open Sha
def RowAt (w:World) (a:Option Addr) (zs:List Int):Prop:=
 zs.length≤maxLen∧(∀z∈zs,0≤z∧z<256)∧(zs=[]∨∃b off,a=some ⟨b,off,none⟩∧b<w.heap.size∧w.rangeAt b off (v8 zs))
theorem RowAt.below {w w':World} {a:Option Addr} {zs:List Int} (h:RowAt w a zs) (hb:Below w.heap.size w w'):RowAt w' a zs:=by
 refine⟨h.1,h.2.1,?_⟩
 rcases h.2.2 with h|⟨b,off,rfl,h1,h2⟩
 ·exact Or.inl h
 ·exact Or.inr ⟨b,off,rfl,Nat.lt_of_lt_of_le h1 hb.size,za h2 hb h1⟩
theorem RowAt.gb {w w':World} {a:Option Addr} {zs:List Int} {R:Nat} (h:RowAt w a zs) (hb:w.grownBy w' (some R)) (hne:zs=[]∨∀x,a=some x→x.block≠R):RowAt w' a zs:=by
 refine⟨h.1,h.2.1,?_⟩
 rcases h.2.2 with h|⟨b,off,rfl,h1,h2⟩
 ·exact Or.inl h
 ·rcases hne with hne|hne
  ·exact Or.inl hne
  ·exact Or.inr ⟨b,off,rfl,Nat.lt_of_lt_of_le h1 hb.size,zf2 h2 hb (hne _ rfl)⟩
def cutA (a:Option Addr) (cap n:Nat):Option Addr:=if cap=n then a else a.map (·.add n)
theorem zb0 {a:Option Addr} {R cap n:Nat} (h:∀x,a=some x→x.block≠R):∀x,cutA a cap n=some x→x.block≠R:=by
  intro x hx
  unfold cutA at hx
  split at hx
  · exact h x hx
  · cases a with
    |none=>simp at hx
    |some y=>
      simp at hx
      subst hx
      have:=h y rfl
      unfold Addr.add
      split<;>simpa using this
theorem RowAt.take {w:World} {a:Option Addr} {zs:List Int} (h:RowAt w a zs) (n:Nat):RowAt w a (zs.take n):=by
 obtain⟨h1,h2,h3⟩:=h
 refine⟨by rw[List.length_take];omega,fun z hz=>h2 z (List.mem_of_mem_take hz),?_⟩
 rcases h3 with rfl|⟨b,off,rfl,hb,hc⟩
 ·left;simp
 ·right
  refine⟨b,off,rfl,hb,?_⟩
  have e:v8 zs=v8 (zs.take n)++v8 (zs.drop n):=by unfold v8;rw[←List.map_append,List.take_append_drop]
  rw[e]at hc
  exact zI hc
theorem RowAt.drop {w:World} {a:Option Addr} {zs:List Int} (h:RowAt w a zs) (n cap:Nat) (hn:n≤zs.length) (hcap:zs.length≤cap):RowAt w (cutA a cap n) (zs.drop n):=by
 obtain⟨h1,h2,h3⟩:=h
 refine⟨by rw[List.length_drop];omega,fun z hz=>h2 z (List.mem_of_mem_drop hz),?_⟩
 by_cases he:n=zs.length
 ·left;simp[he]
 ·rcases h3 with rfl|⟨b,off,rfl,hb,hc⟩
  ·left;simp
  ·right
   refine⟨b,off+n,?_,hb,?_⟩
   ·unfold cutA
    rw[if_neg (by omega),Option.map_some,Addr.add_mid]
   ·have e:v8 zs=v8 (zs.take n)++v8 (zs.drop n):=by unfold v8;rw[←List.map_append,List.take_append_drop]
    rw[e]at hc
    have:=zO hc
    rwa [v8_length,List.length_take_of_le hn]at this
structure Run (w:World) (R:Nat) (s:St) (wait:List Int) (n:Nat):Prop where
 two:2≤R
 lt:R<w.heap.size
 thr:w.there R 0 74
 wds:w.rangeAt R 0 (v32 (list s))
 few:wait.length<64
 ok:∀z∈wait,0≤z∧z<256
 buf:∃junk:List Int,wait.length+junk.length=64∧w.rangeAt R 8 (v8 (wait++junk))
 held:w.cell? ⟨R,72,none⟩=some (.int .i64 (wait.length:Int))
 count:w.cell? ⟨R,73,none⟩=some (.int .u64 (n:Int))
 kls:w.rangeAt 1 0 (v32 kl)
namespace Sha
theorem zcp (p:St ×List Int) (a b:List Int):feeds p (a++b)=feeds (feeds p a) b:=by simp[feeds,List.foldl_append]
theorem zhb (s:St) (wait:List Int) (zs:List Int) (h:wait.length+zs.length<64):feeds (s,wait) zs=(s,wait++zs):=by
  induction zs generalizing wait with
  |nil=>simp[feeds]
  |cons z r ih=>
    simp only[List.length_cons]at h
    have e:feeds (s,wait) (z::r)=feeds (feed (s,wait) z) r:=rfl
    rw[e,feed,if_neg (by simp;omega),ih (wait++[z]) (by simp;omega)]
    simp
theorem zha (s:St) (wait:List Int) (zs:List Int) (h:wait.length+zs.length=64) (hz:wait.length<64):feeds (s,wait) zs=(block s (wait++zs),[]):=by
 obtain⟨ys,z,rfl⟩:∃ys z,zs=ys++[z]:=by
  have hne:zs≠[]:=by intro e;rw[e]at h;simp at h;omega
  exact⟨zs.dropLast,zs.getLast hne,(List.dropLast_concat_getLast hne).symm⟩
 simp only[List.length_append,List.length_cons,List.length_nil]at h
 rw[zcp,zhb s wait ys (by omega)]
 show feed (s,wait++ys) z=_
 rw[feed,if_pos (by simp;omega)]
 simp
end Sha
theorem Run.drewN {w:World} {R:Nat} {s:St} {wait:List Int} {n:Nat} (h:Run w R s wait n) (k:Nat):Run (w.drewN k) R s wait n:=by
 obtain⟨h1,h2,h3,h4,h5,h6,⟨junk,h7,h8⟩,h9,h10,h11⟩:=h
 exact⟨h1,h2,zbs h3,zaB h4,h5,h6,⟨junk,h7,zaB h8⟩,h9,h10,zaB h11⟩
def lenV:Value→Nat
  |.slice _ n _=>n
  |_=>0
theorem Run.set73 {w:World} {R:Nat} {s:St} {wait:List Int} {n:Nat} (h:Run w R s wait n) (m:Nat):Run (w.setCell ⟨R,73,none⟩ (.int .u64 (m:Int))) R s wait m:=by
 obtain⟨h1,h2,h3,h4,h5,h6,⟨junk,h7,h8⟩,h9,h10,h11⟩:=h
 refine⟨h1,by simpa using h2,zP h3 _ _,zaI h4 _ _ (fun _=>by right;show 0+(v32 (list s)).length≤73;simp[list]),h5,h6,⟨junk,h7,zaI h8 _ _ (fun _=>by right;show 8+(v8 (wait++junk)).length≤73;simp;omega)⟩,?_,World.cell?_setCell_same _ _ _ h10,zaI h11 _ _ (fun e=>absurd e (by simp;omega))⟩
 rw[World.cell?_setCell_other _ _ _ _ (by simp)];exact h9
structure Mid (w:World) (R:Nat) (s:St) (bs:List Int) (n:Nat):Prop where
 two:2≤R
 lt:R<w.heap.size
 thr:w.there R 0 74
 wds:w.rangeAt R 0 (v32 (list s))
 len:bs.length≤64
 ok:∀z∈bs,0≤z∧z<256
 buf:∃junk:List Int,bs.length+junk.length=64∧w.rangeAt R 8 (v8 (bs++junk))
 held:w.cell? ⟨R,72,none⟩=some (.int .i64 (bs.length:Int))
 count:w.cell? ⟨R,73,none⟩=some (.int .u64 (n:Int))
 kls:w.rangeAt 1 0 (v32 kl)
theorem zS (a b:List Int):v8 (a++b)=v8 a++v8 b:=by simp[v8]
theorem Run.fill {w:World} {R:Nat} {s:St} {wait:List Int} {n:Nat} (h:Run w R s wait n) (c:List Int) (hc:wait.length+c.length≤64) (hz:∀z∈c,0≤z∧z<256) (wx:World)
  (hw:wx=(w.setCells R (8+wait.length) (v8 c)).setCell ⟨R,72,none⟩ (.int .i64 ((wait.length:Int)+(c.length:Int)))):Mid wx R s (wait++c) n:=by
 subst hw
 obtain⟨h1,h2,h3,h4,h5,h6,⟨junk,h7,h8⟩,h9,h10,h11⟩:=h
 have hl4:(v32 (list s)).length=8:=by simp[list]
 have hj:c.length≤junk.length:=by omega
 obtain⟨j1,j2,rfl,hj1⟩:∃j1 j2,junk=j1++j2∧j1.length=c.length:=⟨junk.take c.length,junk.drop c.length,(List.take_append_drop _ _).symm,by rw[List.length_take];omega⟩
 simp only[List.length_append]at h7
 have hrA:(w.setCells R (8+wait.length) (v8 c)).rangeAt R (8+wait.length) (v8 c):=World.rangeAt_setCells_same w R (8+wait.length) (v8 c) (by
  rw[v8_length]
  have:=zL h3 (8+wait.length) c.length (by omega)
  rwa [Nat.zero_add]at this)
 have hW:(w.setCells R (8+wait.length) (v8 c)).rangeAt R 8 (v8 ((wait++c)++j2)):=by
  rw[zS,zS]
  rw[zS,zS,←List.append_assoc]at h8
  have q1:=zI (zI h8)
  have q2:=zO h8
  refine za4 (za4 (World.rangeAt_setCells_apart q1 _ _ _ (Or.inr (Or.inl (by simp)))) (by rw[v8_length];exact hrA)) ?_
  have q3:=World.rangeAt_setCells_apart q2 R (8+wait.length) (v8 c) (Or.inr (Or.inr (by simp[hj1];omega)))
  simp only[List.length_append,v8_length,hj1]at q3 ⊢
  exact q3
 have hs:(w.setCells R (8+wait.length) (v8 c)).heap.size=w.heap.size:=zB _ _ _ _
 refine⟨h1,by simpa [hs]using h2,zP (World.there_setCells h3 _ _ _) _ _,?_,by simp;omega,?_,⟨j2,by simp;omega,?_⟩,?_,?_,?_⟩
 ·exact zaI (World.rangeAt_setCells_apart h4 _ _ _ (Or.inr (Or.inl (by rw[hl4];omega)))) _ _ (fun _=>by right;show 0+(v32 (list s)).length≤72;omega)
 ·intro z hz'
  rcases List.mem_append.1 hz' with q|q
  ·exact h6 z q
  ·exact hz z q
 ·exact zaI hW _ _ (fun _=>by right;show 8+(v8 (wait++c++j2)).length≤72;simp;omega)
 ·have:(w.setCells R (8+wait.length) (v8 c)).cell? ⟨R,72,none⟩=w.cell? ⟨R,72,none⟩:=World.cell?_setCells_out R _ _ _ _ (fun _ _=>by right;show 8+wait.length+(v8 c).length≤72;simp;omega)
  rw[World.cell?_setCell_same _ _ _ (this.trans h9)]
  simp
 ·rw[World.cell?_setCell_other _ _ _ _ (by simp)]
  have:(w.setCells R (8+wait.length) (v8 c)).cell? ⟨R,73,none⟩=w.cell? ⟨R,73,none⟩:=World.cell?_setCells_out R _ _ _ _ (fun _ _=>by right;show 8+wait.length+(v8 c).length≤73;simp;omega)
  rw[this];exact h10
 ·exact zaI (World.rangeAt_setCells_apart h11 _ _ _ (Or.inl (by omega))) _ _ (fun e=>absurd e (by simp;omega))
theorem Mid.run {w:World} {R:Nat} {s:St} {bs:List Int} {n:Nat} (h:Mid w R s bs n) (hl:bs.length<64):Run w R s bs n:=⟨h.two,h.lt,h.thr,h.wds,hl,h.ok,h.buf,h.held,h.count,h.kls⟩
theorem Mid.turned {w w1:World} {R:Nat} {s r:St} {bs:List Int} {n:Nat} (h:Mid w R s bs n) (hw:w1.rangeAt R 0 (v32 (list r))) (hk:Keep R w w1):Run (w1.setCell ⟨R,72,none⟩ (.int .i64 0)) R r [] n:=by
 obtain⟨h1,h2,h3,h4,h5,h6,⟨junk,h7,h8⟩,h9,h10,h11⟩:=h
 obtain⟨k1,k2,k3⟩:=hk
 have hl4:(v32 (list r)).length=8:=by simp[list]
 have c72:=(k1 72 (by omega)).trans h9
 refine⟨h1,by have:=k3.size;simp;omega,?_,zaI hw _ _ (fun _=>by right;show 0+(v32 (list r)).length≤72;omega),by simp,by simp,⟨bs++junk,by simpa using h7,?_⟩,World.cell?_setCell_same _ _ _ c72,?_,?_⟩
 ·refine zP (fun j hj=>?_) _ _
  obtain⟨u1,u2⟩:=h3 j hj
  rw[Nat.zero_add]at u1 u2 ⊢
  refine⟨?_,by rw[k2];exact u2⟩
  by_cases q:j<8
  ·have:=hw.isSome j (by omega)
   rwa [Nat.zero_add]at this
  ·rw[k1 j (by omega)];exact u1
 ·refine zaI (fun j v hv=>?_) _ _ (fun _=>by right;show 8+(v8 ([]++(bs++junk))).length≤72;simp;omega)
  rw[k1 _ (by omega)];exact h8 j v hv
 ·rw[World.cell?_setCell_other _ _ _ _ (by simp),k1 73 (by omega)];exact h10
 ·exact zaI (zf2 h11 k3 (by omega)) _ _ (fun e=>absurd e (by simp;omega))
theorem zg2 (R:Nat):∀(vs:List Value) (o:Nat) (w:World),w.grownBy (w.setCells R o vs) (some R)
  |[],_,w=>zbp w _
  |v::r,o,w=>zJ (zaD w R o v) (zg2 R r (o+1) _)
theorem zhW (R:Nat) (s:St) (wait:List Int) (n:Nat) (a:Option Addr) (cap:Nat) (zs:List Int) (w:World) (h:Run w R s wait n) (hr:RowAt w a zs) (hcap:zs.length≤cap) (hcm:cap≤maxLen) (hne:zs=[]∨∀x,a=some x→x.block≠R) (hn:n+zs.length<18446744073709551616):
   Calls prog 103 #[.pointer (some ⟨R,0,none⟩),.slice a zs.length cap] w fun e w'=>e=.returned (.tuple #[])∧Run w' R (feeds (s,wait) zs).1 (feeds (s,wait) zs).2 (n+zs.length)∧w.grownBy w' (some R):=by
  unfold maxLen at hcm
  have hc:=h.count
  have hf:=(h.thr 73 (by omega)).2
  rw[Nat.zero_add]at hf
  go_enter func103,ntmps103
  go_wp2_with fail
  have hR0:=h.set73 (n+zs.length)
  have hg0:=zaD w R 73 (.int .u64 ((n+zs.length:Nat):Int))
  have hr0:=hr.gb hg0 hne
  rw[show((n:Int)+(zs.length:Int))=((n+zs.length:Nat):Int) by omega]
  obtain⟨N,hN⟩:∃N,Hid (n+zs.length=N):=⟨_,rfl⟩
  rw[hN.out]at hR0 hg0 hr0 ⊢
  go_name_world w0 hw0
  rw[hw0]at hR0 hg0 hr0
  clear hc hf hw0 h hr hn
  have HA:Hid (zs.length≤cap):=hcap
  go_loopw [1] (fun b wr=>∃(pre rest:List Int) (s1:St) (wt:List Int) (a':Option Addr) (cap':Nat),Hid (zs=pre++rest)∧Hid (feeds (s,wait) pre=(s1,wt))∧b=.slice a' rest.length cap'∧rest.length≤cap'∧cap'≤9223372036854775807∧RowAt wr a' rest∧(rest=[]∨∀x,a'=some x→x.block≠R)∧Run wr R s1 wt N∧w.grownBy wr (some R)) (fun b _=>lenV b)
  case atStart=>exact⟨[],zs,s,wait,a,cap,rfl,rfl,rfl,hcap,by omega,hr0,hne,hR0,hg0⟩
  case round=>
    clear hR0 hg0 hr0 hne hcap hcm
    obtain⟨pre,rest,s1,wt,a',cap',hzs,hfd,rfl,hrc,hcm,hr,hne,hRun,hg⟩:=hrel
    by_cases hlt:0<rest.length
    · have hlt':(0:Int)<rest.length:=by omega
      obtain⟨b,off,rfl,hbs,hrg⟩:∃b off,a'=some ⟨b,off,none⟩∧b<wr.heap.size∧wr.rangeAt b off (v8 rest):=by
        rcases hr.2.2 with rfl|q
        · simp at hlt
        · exact q
      have hne:∀x,some (⟨b,off,none⟩:Addr)=some x→x.block≠R:=hne.resolve_left (fun e=>by rw[e]at hlt;simp at hlt)
      have few:=hRun.few
      obtain⟨m,hm⟩:∃m,m=Nat.min rest.length (64 - wt.length):=⟨_,rfl⟩
      have hm1:m≤rest.length:=by rw[hm];exact Nat.min_le_left _ _
      have hm2:m≤64 - wt.length:=by rw[hm];exact Nat.min_le_right _ _
      have hm3:0<m:=by rw[hm];exact Nat.lt_min.2 ⟨hlt,by omega⟩
      have hlm:(rest.take m).length=m:=List.length_take_of_le hm1
      have hcp := run_copy_cells (P := prog) wr.drew 59 59 3 5 R (8 + wt.length) (64 - wt.length) (64 - wt.length) ⟨b, off, none⟩ rest.length cap' (v8 (rest.take m)) underlying59 isz8 (by rw [v8_length, hlm, hm]) (fun j v hv => by
          rw[Addr.add_mid,World.cell?_drew]
          have e:v8 rest=v8 (rest.take m)++v8 (rest.drop m):=by rw[←zS,List.take_append_drop]
          rw[e]at hrg
          exact zI hrg j v hv)
        (fun j hj=>by
          rw[v8_length,hlm]at hj
          have:=(zL hRun.thr (8+wt.length) m (by omega) j hj).1
          rw[Nat.zero_add]at this
          rw[World.cell?_drew];exact this)
        (fun j hj=>by
          rw[v8_length,hlm]at hj
          have:=(zL hRun.thr (8+wt.length) m (by omega) j hj).2
          rw[Nat.zero_add]at this
          rw[World.frozen?_drew];exact this) (zy _)
      rw[v8_length,hlm]at hcp
      have hsl:=zdN (w:=wr.drew) underlying169 isz8 R 8 wt.length (wt.length:Int) rfl few
      have hhd:=hRun.held
      have hf72:=(hRun.thr 72 (by omega)).2
      rw[Nat.zero_add]at hf72
      have HM:Hid (m=Nat.min rest.length (64 - wt.length)):=hm
      have c72:(wr.drew.setCells R (8+wt.length) (v8 (rest.take m))).cell? ⟨R,72,none⟩=some (.int .i64 (wt.length:Int)):=by
        rw[World.cell?_setCells_out R _ _ _ _ (fun _ _=>by right;show 8+wt.length+(v8 (rest.take m)).length≤72;rw[v8_length,hlm];omega),World.cell?_drew];exact hhd
      have f72:(wr.drew.setCells R (8+wt.length) (v8 (rest.take m))).frozen? ⟨R,72,none⟩=false:=by
        rw[World.frozen?_setCells,World.frozen?_drew];exact hf72
      have HX:Hid (∀wx,wx=(wr.drew.setCells R (8+wt.length) (v8 (rest.take m))).setCell ⟨R,72,none⟩ (.int .i64 ((wt.length:Int)+(m:Int)))→Mid wx R s1 (wt++rest.take m) N):=fun wx hwx=>(hRun.drewN 1).fill (rest.take m) (by rw[hlm];omega) (fun z hz=>hr.2.1 z (List.mem_of_mem_take hz)) wx (by rw[hlm];exact hwx)
      have HG:Hid (∀wx,wx=(wr.drew.setCells R (8+wt.length) (v8 (rest.take m))).setCell ⟨R,72,none⟩ (.int .i64 ((wt.length:Int)+(m:Int)))→wr.grownBy wx (some R)):=fun wx hwx=>by
        rw[hwx];exact zJ (zJ (zlK (zbp wr _)) (zg2 R _ _ _)) (zaD _ _ _ _)
      have HREL : Hid (∀ (wx : World) (s2 : St) (wt2 : List Int), Run wx R s2 wt2 N → feeds (s1, wt) (rest.take m) = (s2, wt2) → wr.grownBy wx (some R) → ∀ (a2 : Option Addr) (l2 c2 : Nat), a2 = cutA (some ⟨b, off, none⟩) cap' m → l2 = rest.length - m → c2 = cap' - m →
          (∃(pre rest:List Int) (s1:St) (wt:List Int) (a':Option Addr) (cap':Nat),Hid (zs=pre++rest)∧Hid (feeds (s,wait) pre=(s1,wt))∧Value.slice a2 l2 c2=.slice a' rest.length cap'∧rest.length≤cap'∧cap'≤9223372036854775807∧RowAt wx a' rest∧(rest=[]∨∀x,a'=some x→x.block≠R)∧Run wx R s1 wt N∧w.grownBy wx (some R))):=by
        intro wx s2 wt2 h1 h2 h3 a2 l2 c2 e1 e2 e3
        subst e1 e2 e3
        refine⟨pre++rest.take m,rest.drop m,s2,wt2,cutA (some ⟨b,off,none⟩) cap' m,cap' - m,?_,?_,by simp,by simp;omega,by omega,((hr.drop m cap' hm1 hrc).gb h3 (Or.inr (zb0 hne))),Or.inr (zb0 hne),h1,zJ hg h3⟩
        · show zs=_
          rw[List.append_assoc,List.take_append_drop];exact hzs.out
        · show feeds _ _=_
          rw[zcp,hfd.out];exact h2
      have hzt:∀z∈rest.take m,0≤z∧z<256:=fun z hz=>hr.2.1 z (List.mem_of_mem_take hz)
      have HLM:Hid ((rest.take m).length=m):=hlm
      clear hm hlm hrg hRun hr hg hne hzs hfd HA hN
      by_cases hfull:wt.length+m=64
      · have hf':(wt.length:Int)+(m:Int)=64:=by omega
        have hM:=HX.out _ rfl
        have hG:=HG.out _ rfl
        rw[hf']at hM hG
        have hl64:(wt++rest.take m).length=64:=by rw[List.length_append,HLM.out];exact hfull
        obtain⟨junk,hj1,hj2⟩:=hM.buf
        have hj0:junk=[]:=List.eq_nil_of_length_eq_zero (by omega)
        subst hj0
        rw[List.append_nil]at hj2
        have ct:=ziJ R s1 (wt++rest.take m) _ hl64 hM.ok hM.two hM.lt hM.wds hj2 (by have:=zL hM.thr 0 8 (by omega);simpa using this) hM.kls
        have HF:Hid (feeds (s1,wt) (rest.take m)=(block s1 (wt++rest.take m),[])):=zha s1 wt (rest.take m) (by rw[HLM.out];exact hfull) few
        have HM2:Hid (Mid _ R s1 (wt++rest.take m) N):=hM
        clear hM HX HG hj1 hj2 hl64 hzt few
        go_wp2_with fail
        go_region
        clear hcp hsl
        go_wp2_with fail
        all_goals
          refine ct.mono ?_
          rintro e w2 ⟨rfl,hw2,hk2⟩
          have hRun2:=HM2.out.turned hw2 hk2
          have hg2:=zJ (zJ hG hk2.2.2) (zaD w2 R 72 (.int .i64 0))
          have c72':=hk2.1 72 (by omega)
          rw[World.cell?_setCell_same _ _ _ c72]at c72'
          have f72':=hk2.2.1 72
          rw[World.frozen?_setCell,f72]at f72'
          clear ct
          go_wp2_with fail
          go_roundw
          case rel=>
            refine HREL.out _ _ _ hRun2 HF.out hg2 _ _ _ ?_ ?_ ?_
            · simp[cutA,Addr.add_mid, *]
            · rfl
            · omega
          case measure=>simp[lenV];omega
      · have hf':¬(wt.length:Int)+(m:Int)=64:=by omega
        have hM:=HX.out _ rfl
        have hG:=HG.out _ rfl
        have hRun2:=hM.run (by rw[List.length_append,HLM.out];omega)
        have HF:Hid (feeds (s1,wt) (rest.take m)=(s1,wt++rest.take m)):=zhb s1 wt (rest.take m) (by rw[HLM.out];omega)
        clear hM HX HG hzt few
        go_wp2_with fail
        go_region
        clear hcp hsl
        go_wp2_with fail
        go_roundw
        case rel=>
          refine HREL.out _ _ _ hRun2 HF.out hG _ _ _ ?_ ?_ ?_
          · simp[cutA,Addr.add_mid]
          · rfl
          · rfl
        case measure=>simp[lenV];omega
    · have hlt':¬(0:Int)<rest.length:=by omega
      have h0:rest=[]:=List.eq_nil_of_length_eq_zero (by omega)
      subst h0
      have e:=hzs.out
      rw[List.append_nil]at e
      have e2:=hfd.out
      rw[←e]at e2
      have HE:Hid (feeds (s,wait) zs=(s1,wt)):=e2
      have HN:Hid (n+zs.length=N):=hN.out
      clear e e2 hzs hfd hN
      go_wp2_with fail
      go_end0
      refine⟨rfl,?_,hg⟩
      rw[HE.out,HN.out]
      exact hRun
end Go.Proofs.YtcbpbkefggekmaaGreatDoor
