/- the tags that a body has in it; Claims; the keys of the statements; seal: Check; the example; Seal, both -/
import Derived.Test.YtcbpbkefggekmaaGreatDoorJS0
import Derived.Test.YtcbpbkefggekmaaGreatDoorJS16
import Derived.Test.YtcbpbkefggekmaaGreatDoorJS15
import Derived.Test.YtcbpbkefggekmaaGreatDoorJS4
import Derived.Test.YtcbpbkefggekmaaGreatDoorJS14
set_option maxHeartbeats 4000000
set_option maxRecDepth 100000
open Go.Proofs.Tryz
namespace Go.Proofs.YtcbpbkefggekmaaGreatDoor
open Go.RowKit
open Sha Tal
set_option linter.unusedVariables false
set_option linter.unusedSimpArgs false
theorem zbv {α:Type} {E:El α} {w:World} {x:Sl α} (h:x.At E w):x.Bk (fun b=>b<w.heap.size):=fun b h1 h2=>by
 rcases h.2.2 with q|⟨c,off,e,hlt,_⟩
 ·exact absurd q h1
 ·rw[e]at h2
  cases h2
  exact hlt
theorem zkS {m:Mg} {w:World} (h:m.At w):m.Bk (fun b=>b<w.heap.size):=
 ⟨zbv h.rs,zbv h.he.1,fun y hy=>⟨zbv (h.he.2 y hy).1,zbv (h.he.2 y hy).2⟩,zbv h.ne,zbv h.cs,zbv h.sg⟩
theorem Mg.Bk.mono {m:Mg} {P P':Nat→Prop} (k:m.Bk P) (hp:∀b,P b→P' b):m.Bk P':=
 ⟨k.1.mono hp,k.2.1.mono hp,fun y hy=>(k.2.2.1 y hy).mono hp,k.2.2.2.1.mono hp,k.2.2.2.2.1.mono hp,k.2.2.2.2.2.mono hp⟩
structure Fit (m:Mp) (n:Nat):Prop where
 same:∀N,ownC N m=ownX N m
 le:∀N,(ownC N m).length≤10000
 rs:∀r∈m.rs,r.s.size≤100000
 he:∀h∈m.he,∀r∈h.rs,r.s.size≤100000
 nl:m.ne.length≤64
 ne:∀e∈m.ne,e.s.size≤n
theorem zkV {α:Type} {f:α→List Int} {xs:List α} {x:α} (h:x∈xs):(f x).length≤(xs.flatMap f).length:=by
 obtain⟨a,b,rfl⟩:=List.append_of_mem h
 simp only[List.flatMap_append,List.flatMap_cons,List.length_append]
 omega
theorem zdT {r:Rq} (h:rqOk r):r.s.size≤100000:=by have:=h.2.2.1;omega
theorem zlr {N:Int} {hs:List Hp} (h:∀x∈hs,hpOk x):(heC N hs).length≤hs.length*68:=by
  induction hs with
  |nil=>simp[heC]
  |cons a l ih=>
    have h1:=h a (by simp)
    have h2:=ih (fun x hx=>h x (by simp[hx]))
    have h3:=h1.1.2.1
    have h4:=h1.2.2.1
    simp only at h3 h4
    unfold heC at h2 ⊢
    simp only[List.flatMap_cons,List.length_append,hdC,za6,zbc,List.length_cons]at h2 ⊢
    omega
theorem zaO (N:Int) {m:Mp} (h1:m.rs=[]) (h2:m.cs=[]) (h3:m.he=[]) (h4:m.sg=[]):ownC N m=[]∧ownX N m=[]:=by
 unfold ownC ownX
 rw[h1,h2,h3,h4]
 constructor
 ·rfl
 ·show[]++[]++(if m.k=7 then[]else[])++[]=[]
  split<;>rfl
theorem zlU {m:Mp} (h:m.good) (n:Nat) (hn:m.bytes.length=n):Fit m n:=by
 rcases h with⟨hk,h⟩|⟨hk,h⟩|⟨hk,h⟩|⟨hk,h⟩|⟨hk,h⟩|⟨hk,h⟩|⟨hk,h⟩|⟨hk,h⟩
 ·have ec:m.cs=[]:=by rw[←h.2];rfl
  have eh:m.he=[]:=by rw[←h.2];rfl
  have es:m.sg=[]:=by rw[←h.2];rfl
  have en:m.ne=[]:=by rw[←h.2];rfl
  have hb:=h.1.2.2.2
  refine⟨fun N=>?_,fun N=>?_,fun r hr=>zdT (hb.2 r hr),fun x hx=>by simp[eh]at hx,by rw[en];simp,fun x hx=>by simp[en]at hx⟩
  ·unfold ownC ownX
   rw[ec,eh,es,if_neg (by rw[hk];decide)]
   simp[cerC,heC]
  ·unfold ownC
   rw[ec,eh,es]
   simp only[List.length_append,za6,zbc,zbQ,heC,List.flatMap_nil,List.length_nil]
   have:=hb.1
   simp only at this
   omega
 ·obtain⟨e1,e2,e3,e4,e5⟩:m.rs=[]∧m.cs=[]∧m.he=[]∧m.sg=[]∧m.ne=[]:=by rw[←h.2];exact⟨rfl,rfl,rfl,rfl,rfl⟩
  exact⟨fun N=>by rw[(zaO N e1 e2 e3 e4).1,(zaO N e1 e2 e3 e4).2],fun N=>by rw[(zaO N e1 e2 e3 e4).1];simp,fun r hr=>by simp[e1]at hr,fun x hx=>by simp[e3]at hx,by rw[e5];simp,fun x hx=>by simp[e5]at hx⟩
 ·obtain⟨e1,e2,e4,e5⟩:m.rs=[]∧m.cs=[]∧m.sg=[]∧m.ne=[]:=by rw[←h.2];exact⟨rfl,rfl,rfl,rfl⟩
  have hb:=h.1.2.2.2
  simp only at hb
  refine⟨fun N=>?_,fun N=>?_,fun r hr=>by simp[e1]at hr,fun x hx r hr=>zdT ((hb.2 x hx).1.2.2 r hr),by rw[e5];simp,fun x hx=>by simp[e5]at hx⟩
  ·unfold ownC ownX
   rw[e1,e2,e4,if_neg (by rw[hk];decide)]
   simp[cerC,batC]
  ·have h1:=zlr (N:=N) hb.2
   unfold ownC
   rw[e1,e2,e4]
   simp only[List.length_append,za6,zbc,zbQ,List.length_nil]
   have:=hb.1
   omega
 ·obtain⟨e1,e2,e3,e4⟩:m.rs=[]∧m.cs=[]∧m.he=[]∧m.sg=[]:=by rw[←h.2];exact⟨rfl,rfl,rfl,rfl⟩
  have hb:=h.1.2.2.2
  refine⟨fun N=>by rw[(zaO N e1 e2 e3 e4).1,(zaO N e1 e2 e3 e4).2],fun N=>by rw[(zaO N e1 e2 e3 e4).1];simp,fun r hr=>by simp[e1]at hr,fun x hx=>by simp[e3]at hx,by have:=hb.1;omega,fun x hx=>?_⟩
  have h1:=zkV (f:=evL) hx
  have h2:x.s.size≤(evL x).length:=by
   unfold evL textL
   simp only[List.length_append,zN]
   omega
  rw[←hn]
  unfold Mp.bytes
  rw[if_neg (by rw[hk];decide),if_neg (by rw[hk];decide),if_neg (by rw[hk];decide),if_pos hk]
  unfold zb2 evsL
  simp only[List.length_append]
  omega
 ·obtain⟨e1,e2,e3,e4,e5⟩:m.rs=[]∧m.cs=[]∧m.he=[]∧m.sg=[]∧m.ne=[]:=by rw[←h.2];exact⟨rfl,rfl,rfl,rfl,rfl⟩
  exact⟨fun N=>by rw[(zaO N e1 e2 e3 e4).1,(zaO N e1 e2 e3 e4).2],fun N=>by rw[(zaO N e1 e2 e3 e4).1];simp,fun r hr=>by simp[e1]at hr,fun x hx=>by simp[e3]at hx,by rw[e5];simp,fun x hx=>by simp[e5]at hx⟩
 ·obtain⟨e1,e2,e3,e4,e5⟩:m.rs=[]∧m.cs=[]∧m.he=[]∧m.sg=[]∧m.ne=[]:=by rw[←h.2];exact⟨rfl,rfl,rfl,rfl,rfl⟩
  exact⟨fun N=>by rw[(zaO N e1 e2 e3 e4).1,(zaO N e1 e2 e3 e4).2],fun N=>by rw[(zaO N e1 e2 e3 e4).1];simp,fun r hr=>by simp[e1]at hr,fun x hx=>by simp[e3]at hx,by rw[e5];simp,fun x hx=>by simp[e5]at hx⟩
 ·obtain⟨e3,e4,e5⟩:m.he=[]∧m.sg=[]∧m.ne=[]:=by rw[←h.2];exact⟨rfl,rfl,rfl⟩
  have hb:=h.1.1.2
  have hc:=h.1.2.2.1
  simp only at hb hc
  refine⟨fun N=>?_,fun N=>?_,fun r hr=>zdT (hb.2 r hr),fun x hx=>by simp[e3]at hx,by rw[e5];simp,fun x hx=>by simp[e5]at hx⟩
  ·unfold ownC ownX
   rw[e3,e4,if_pos hk]
   simp[heC]
  ·unfold ownC
   rw[e3,e4]
   simp only[List.length_append,za6,zbc,zbQ,heC,List.flatMap_nil,List.length_nil]
   have:=hb.1
   omega
 ·obtain⟨e1,e2,e3,e5⟩:m.rs=[]∧m.cs=[]∧m.he=[]∧m.ne=[]:=by rw[←h.2];exact⟨rfl,rfl,rfl,rfl⟩
  have hb:=h.1.2.1
  refine⟨fun N=>?_,fun N=>?_,fun r hr=>by simp[e1]at hr,fun x hx=>by simp[e3]at hx,by rw[e5];simp,fun x hx=>by simp[e5]at hx⟩
  ·unfold ownC ownX
   rw[e1,e2,e3,if_neg (by rw[hk];decide)]
   simp[cerC,heC]
  ·unfold ownC
   rw[e1,e2,e3]
   simp only[List.length_append,za6,zbc,zbQ,heC,List.flatMap_nil,List.length_nil]
   omega
theorem zen {sb:ByteArray} (h:(decS (strL sb)).2=0):Fit (decS (strL sb)).1 sb.size:=by
 obtain⟨h1,h2⟩:=zmz (zbt sb) h
 exact zlU h1 _ (by rw[←h2,zN])
theorem zfq {m:Mg} {n:Nat} (h:Fit m.pure n):Small m:=⟨h.rs,fun x hx r hr=>h.he x.pure (List.mem_map_of_mem hx) r hr⟩
def newC (N:Int) (e:Ev):List Ev:=e::(if(decS (strL e.s)).2=0 then ownC N (decS (strL e.s)).1 else[])
def claimsC (N:Int) (sb:ByteArray):List Ev:=if N<0∨64<N then[]else if(decS (strL sb)).2≠0 then[]else ownC N (decS (strL sb)).1++(decS (strL sb)).1.ne.flatMap (newC N)
theorem zkM (N:Int) (e:Ev):(newC N e).length≤10001:=by
 unfold newC
 rw[List.length_cons]
 split
 ·rename_i h
  have:=(zen h).le N
  omega
 ·simp
theorem zd4 (N:Int) (l:List Ev):(l.flatMap (newC N)).length≤l.length*10001:=by
  induction l with
  |nil=>simp
  |cons a l ih=>
    have:=zkM N a
    simp only[List.flatMap_cons,List.length_append,List.length_cons]
    omega
theorem zlP {α β:Type} {f:α→List β} {xs:List α} {k:Nat} (hk:k<xs.length):(xs.take (k+1)).flatMap f=(xs.take k).flatMap f++f xs[k]:=by
 have e:xs.take (k+1)=xs.take k++[xs[k]]:=by rw[List.take_add_one,List.getElem?_eq_getElem hk];rfl
 rw[e,List.flatMap_append]
 simp
def ClaimsA (w:World) (cs:List Ev) (en:Ending) (w':World):Prop:=∃x:Sl Ev,en=.returned x.val∧x.xs=cs∧x.At EvE w'∧Below w.heap.size w w'
theorem zeA (w w':World) (h:Below w.heap.size w w'):ClaimsA w [] (.returned (.slice none 0 0)) w':=⟨⟨none,0,[]⟩,rfl,rfl,RowsAt.none,h⟩
theorem zkt {w:World} {O:Nat} {v:Value} {cs:List Ev} (h:OutC w O v cs) (hl:cs.length≤1000000000):∃x:Sl Ev,v=x.val∧x.xs=cs∧x.At EvE w:=by
 obtain⟨x,h1,h2,h3,-⟩:=zc1 (E:=EvE) h.own h.ok (by unfold maxLen;omega)
 exact⟨x,h1,h2,h3⟩
theorem zku {w:World}:OutC (w.alloc (.cells #[.slice none 0 0] 64)) w.heap.size (.slice none 0 0) []:=
 ⟨by simp,by have:=zC w #[.slice none 0 0] 64 0 _ rfl;rwa [Nat.zero_add]at this,zn w #[.slice none 0 0] 64 (n:=1) rfl,World.ownsRow_nil _ _ _ _,fun _ h=>absurd h List.not_mem_nil⟩
theorem zeroMg (w:World):(zeroValue 52).run prog w=.ok (.agg Mg.none.ms.cells.toArray) w:=by kernel_rfl
theorem zeroCls (w:World):(zeroValue 64).run prog w=.ok (.slice none 0 0) w:=by kernel_rfl
theorem zh1 (w:World):(zeroValue 25).run prog w=.ok (.agg ([Value.int .i64 0]++([Value.string ⟨#[]⟩]++v8 (List.replicate 16 0))).toArray) w:=zeroEvE w
theorem zmG (N:Int) (sb:ByteArray) (w:World) (hs:sb.size≤40000):Calls prog 19 #[.int .i64 N,.string sb] w fun en w'=>ClaimsA w (claimsC N sb) en w':=by
 obtain⟨zc,hzl,hzr⟩:∃z:List Value,z.length=119∧(∀w:World,(zeroValue 52).run prog w=.ok (.agg z.toArray) w):=⟨_,Mg.none_ok.ms.len,zeroMg⟩
 obtain⟨z18,hyl,hyr⟩:∃z:List Value,z.length=18∧(∀w:World,(zeroValue 25).run prog w=.ok (.agg z.toArray) w):=⟨_,rfl,zh1⟩
 have ca:=fun O w0 vk ds e he h0 hl=>zdp O vk ds e w0 h0 he hl
 have cD:=fun w0=>zex sb hs w0
 have cE:=fun(e:Ev) (h:e.s.size≤40000) w0=>zex e.s h w0
 have hfd:=zen (sb:=sb)
 have HCL:claimsC N sb=if N<0∨64<N then[]else if(decS (strL sb)).2≠0 then[]else ownC N (decS (strL sb)).1++(decS (strL sb)).1.ne.flatMap (newC N):=rfl
 obtain⟨R,hR⟩:∃R,Hid (claimsC N sb=R):=⟨_,hide rfl⟩
 rw[hR.out]at HCL ⊢
 generalize decS (strL sb)=pp at cD hfd HCL
 obtain⟨pm,pe⟩:=pp
 simp only at cD hfd HCL
 have HC0:=hide HCL
 clear HCL hR
 go_enter func19,ntmps19
 go_upto_region 1 with fail
 by_cases n0:N<0
 ·have HE:=hide (zeA w w (Below.refl _ _))
  have hr:R=[]:=by rw[HC0.out,if_pos (.inl n0)]
  subst hr
  refine pl_b ?_
  refine pl_a 13 ?_
  refine pl_v 14 (.bool true) (by go_simp<;>(try simp[*])) ?_
  refine pl_a 15 ?_
  refine pl_k 16 ?_
  refine pl_k 17 ?_
  refine pl_a 18 ?_
  refine zb ?_
  clear cD cE ca hfd n0 HC0
  go_wp2_with fail
  go_ret
  exact HE.out
 by_cases n1:64<N
 ·have n1':(64:Int)<N:=n1
  have HE:=hide (zeA w w (Below.refl _ _))
  have hr:R=[]:=by rw[HC0.out,if_pos (.inr n1)]
  subst hr
  refine pl_b ?_
  refine pl_a 13 ?_
  refine pl_v 14 (.bool false) (by go_simp<;>(try simp[*])) ?_
  refine pl_a 15 ?_
  refine pl_a 16 ?_
  refine pl_v 17 (.bool true) (by go_simp<;>(try simp[*])) ?_
  refine pl_a 18 ?_
  refine zb ?_
  clear cD cE ca hfd n0 n1 n1' HC0
  go_wp2_with fail
  go_ret
  exact HE.out
 have HC0:Hid (R=if pe≠0 then[]else ownC N pm++pm.ne.flatMap (newC N)):=hide (by rw[HC0.out,if_neg (by omega)])
 refine pl_b ?_
 refine pl_a 13 ?_
 refine pl_v 14 (.bool false) (by go_simp<;>(try simp[*])) ?_
 refine pl_a 15 ?_
 refine pl_a 16 ?_
 refine pl_v 17 (.bool false) (by go_simp<;>(try simp[*])) ?_
 refine pl_a 18 ?_
 refine zb ?_
 clear n0 n1
 go_upto_region 3 with fail
 refine pl_b ?_
 refine pl_a 20 ?_
 refine pl_c 21 ?_
 refine(cD w).mono ?_
 rintro _ w1 ⟨m,rfl,mp,mo,ma,mb,hb1⟩
 refine⟨_,rfl,?_⟩
 simp only[nz]
 have hml:m.ms.cells.length=119:=mo.ms.len
 have hm1:=mo.ms.one
 have him:(prog.info? 52).map (·.size)=some m.ms.cells.length:=by rw[hml];exact iszM
 obtain⟨q,hq⟩:∃q,Hid (m.ms.cells=q):=⟨_,hide rfl⟩
 rw[hq.out]at hml hm1 him
 simp only[hq.out]
 refine pl_a 19 ?_
 refine pl_a 22 ?_
 refine pl_a 23 ?_
 refine pl_r 5 (.pointer (some ⟨w1.heap.size,0,none⟩)) (w1.alloc (.cells zc.toArray 52)) (zr rfl (hzr _)) ?_
 refine pl_s ((w1.alloc (.cells zc.toArray 52)).setCells w1.heap.size 0 q) (zo (cs:=q.toArray) rfl rfl rfl (zn _ _ _ (by simp[hzl,hml])) (by simpa using him) (zp hm1)) ?_
 refine pl_a 6 ?_
 refine zb ?_
 obtain⟨r2,hF,hF3,-⟩:=zq w1 zc.toArray 52 q (by simp[hzl,hml])
 have ma2:=ma.below hF
 have HB2:=hide (hb1.trans (hF.mono hb1.size))
 have mlt:=(zkS ma).mono (P':=fun b=>b<w1.heap.size) (fun b h=>h)
 obtain⟨A,hA⟩:∃A,w1.heap.size=A:=⟨_,rfl⟩
 rw[hA]at r2 hF3 mlt HB2
 simp only[hA]at ma2 ⊢
 obtain⟨w2,hw2⟩:∃W,(w1.alloc (.cells zc.toArray 52)).setCells A 0 q=W:=⟨_,rfl⟩
 rw[hw2]at r2 hF3 HB2 ma2 ⊢
 have sA:A<w2.heap.size:=by omega
 clear hw2 hA hF hF3 hb1 ma mb cD
 by_cases e0:pe=0
 rotate_left
 ·have hr:R=[]:=by rw[HC0.out,if_pos e0]
  subst hr
  have HE:=hide (zeA w w2 HB2.out)
  have e0':(pe !=0)=true:=by simp[e0]
  clear r2 ma2 mlt HB2 cE ca hfd
  go_wp2_with fail
  go_ret
  exact HE.out
 subst e0
 have hfm:=hfd rfl
 have HR:Hid (R=ownC N m.pure++m.ne.xs.flatMap (newC N)):=hide (by rw[HC0.out,if_neg (by decide),←mp];rfl)
 rw[←mp]at hfm
 have HF:=hide hfm
 have HS:=hide (zfq hfm)
 clear hfd hfm HC0
 have HMO:=hide mo
 have HMS:=hide mp
 have hne:w2.cell? ⟨A,47,none⟩=some m.ne.val:=by
  have:=(mo.ms.at (w:=w2) (b:=A) (by rw[hq.out];exact r2)).ne
  exact this
 clear mp mo
 go_upto_region 6 with fail
 refine pl_b ?_
 refine pl_r 7 (.pointer (some ⟨w2.heap.size,0,none⟩)) (w2.alloc (.cells #[.slice none 0 0] 64)) (zr (z:=.slice none 0 0) rfl (zeroCls _)) ?_
 refine zb ?_
 have ho3:OutC (w2.alloc (.cells #[.slice none 0 0] 64)) w2.heap.size (.slice none 0 0) []:=zku
 have B3:Below w2.heap.size w2 (w2.alloc (.cells #[.slice none 0 0] 64)):=(Below.refl _ _).alloc (Nat.le_refl _) _
 have ma3:=ma2.below B3
 have r3:=za r2 B3 sA
 have hne3:=(B3.cell (p:=⟨A,47,none⟩) sA).trans hne
 have HB3:=hide (HB2.out.trans (B3.mono HB2.out.size))
 have sO:A<w2.heap.size:=sA
 have hOw:w.heap.size≤w2.heap.size:=HB2.out.size
 obtain⟨O,hO⟩:∃O,w2.heap.size=O:=⟨_,rfl⟩
 rw[hO]at ho3 sO hOw
 simp only[hO]
 obtain⟨W,hW⟩:∃W,w2.alloc (.cells #[.slice none 0 0] 64)=W:=⟨_,rfl⟩
 rw[hW]at ho3 ma3 r3 hne3 HB3 B3 ⊢
 have sA3:A<W.heap.size:=Nat.lt_of_lt_of_le sA B3.size
 have mb3:m.Bk (Clr O (.slice none 0 0)):=mlt.mono (fun b hb=>⟨by omega,fun e=>by cases e⟩)
 have hcA:Clr O (.slice none 0 0) A:=⟨by omega,fun e=>by cases e⟩
 have cO:=zgv N m O (.slice none 0 0) [] W ho3 HMO.out ma3 mb3 (by have:=HF.out.le N;simp only[List.length_nil];omega) HS.out
 rw[hq.out]at cO
 unfold addV at cO
 clear hW hO B3 hne r2 ma2 mlt HB2 sA
 go_upto_region 8 with fail
 refine pl_b ?_
 refine pl_a 27 ?_
 refine pl_v 28 (.agg q.toArray) (zm rfl rfl r3 underlying52 rfl him) ?_
 refine pl_a 29 ?_
 refine pl_c 30 ?_
 refine(cO).mono ?_
 rintro _ w4 ⟨rfl,v4,o4,g4⟩
 refine⟨_,rfl,?_⟩
 simp only[nz]
 refine zb ?_
 have HC4:CI W w4 O (.slice none 0 0) v4 ([]++ownC N m.pure):=⟨o4,g4⟩
 have hne4:=(zZ (j:=47) (g4.keep sA3 hcA).1).1.trans hne3
 obtain⟨C4,hC4⟩:∃C,Hid ([]++ownC N m.pure=C):=⟨_,hide rfl⟩
 rw[hC4.out]at HC4
 have HC4l:Hid (C4.length≤10000):=hide (by rw[←hC4.out,List.nil_append];exact HF.out.le N)
 obtain⟨⟨xa,xc,xs⟩,hxe⟩:∃x,m.ne=x:=⟨_,rfl⟩
 obtain⟨n,hxn⟩:∃n,xs.length=n:=⟨_,rfl⟩
 have hval:(m.ne).val=.slice xa n xc:=by rw[hxe];unfold Sl.val;rw[←hxn]
 rw[hval]at hne4
 have HXX:Hid (Sl.At EvE W ⟨xa,xc,xs⟩):=hide (by have:=ma3.ne;rw[hxe]at this;exact this)
 have HCC:Hid (Sl.Bk (Sl.mk xa xc xs) (Clr O (.slice none 0 0))):=hide (by have:=mb3.2.2.2.1;rw[hxe]at this;exact this)
 have hpx:m.pure.ne=xs:=by show m.ne.xs=xs;rw[hxe]
 have HNE:Hid (∀e∈xs,e.s.size≤40000):=hide (fun e he=>Nat.le_trans (HF.out.ne e (by rw[hpx];exact he)) hs)
 have HNL:Hid (n≤64):=hide (by have:=HF.out.nl;rw[hpx,hxn]at this;exact this)
 have HR2:Hid (R=C4++xs.flatMap (newC N)):=hide (by rw[HR.out,hxe,←hC4.out,List.nil_append])
 have HN:=hide hxn
 clear hval hxe hxn hpx o4 g4 r3 ma3 mb3 hne3 sA3 hcA ho3 HF HS HR HMO him hml hm1 hC4
 go_upto_region 9 with fail
 refine pl_b ?_
 refine pl_a 31 ?_
 refine pl_v 32 (.slice xa n xc) (zf rfl rfl hne4 underlying47 rfl) ?_
 refine pl_a 33 ?_
 refine pl_a 34 ?_
 refine zb ?_
 have HC5:Hid (CI W w4 O (.slice none 0 0) v4 (C4++(xs.take 0).flatMap (newC N))):=hide (by simpa using HC4)
 clear HC4 hne4 HMS hq cO
 go_wp2_with fail
 go_loopw [34] (fun iv wr=>∃(k:Nat) (vk:Value),k≤n∧iv=.int .i64 (k:Int)∧Hid (CI W wr O (.slice none 0 0) vk (C4++(xs.take k).flatMap (newC N)))) (fun iv _=>n - (intOf iv).toNat)
 case atStart=>exact⟨0,v4,by omega,rfl,HC5⟩
 case round=>
  clear HC5
  obtain⟨k,vk,hk,rfl,HK⟩:=hrel
  by_cases hlt:k<n
  ·have k1:(k:Int)<n:=by omega
   have hn9:n≤64:=HNL.out
   have hkx:k<xs.length:=by rw[HN.out];exact hlt
   obtain⟨b,off,hab0,hbw,hre0⟩:=(HXX.out.grow HK.out.grow HCC.out).elem k hkx
   have hab:xa=some ⟨b,off,none⟩:=hab0
   have hre:wr.rangeAt b (off+k*18) (EvE.f xs[k]):=hre0
   clear hab0 hre0
   have okx:Ev.ok xs[k]:=HXX.out.2.1 _ (List.getElem_mem hkx)
   have hsz:=HNE.out _ (List.getElem_mem hkx)
   have HT:Hid ((xs.take (k+1)).flatMap (newC N)=(xs.take k).flatMap (newC N)++newC N xs[k]):=hide (zlP hkx)
   have HL:(C4++(xs.take k).flatMap (newC N)).length≤1000000000:=by
    have h1:=zd4 N (xs.take k)
    have h2:=HC4l.out
    rw[List.length_take]at h1
    rw[List.length_append]
    omega
   have HL2:Hid ((C4++(xs.take k).flatMap (newC N)).length≤700000):=hide (by
    have h1:=zd4 N (xs.take k)
    have h2:=HC4l.out
    rw[List.length_take]at h1
    rw[List.length_append]
    omega)
   obtain⟨g,hg⟩:∃g,xs[k]=g:=⟨_,rfl⟩
   rw[hg]at hre okx hsz HT
   clear hg
   have ca:=fun w0 vk ds h0 hl=>ca O w0 vk ds g okx h0 hl
   have cE:=fun w0=>cE g hsz w0
   have hgn:newC N g=g::(if(decS (strL g.s)).2=0 then ownC N (decS (strL g.s)).1 else[]):=rfl
   have hfg:=zen (sb:=g.s)
   have hut:EvE.f g=.int .i64 g.n::.string g.s::v8 g.t:=rfl
   have it16:(prog.info? 23).map (·.size)=some (v8 g.t).length:=by rw[v8_length,okx.tl];exact iszT
   have iu:(prog.info? 25).map (·.size)=some (EvE.f g).length:=by rw[EvE.len g okx];kernel_rfl
   have hul:(EvE.f g).length=18:=EvE.len g okx
   have hu1:=EvE.one g
   obtain⟨id,hid⟩:∃i,g.n=i:=⟨_,rfl⟩
   obtain⟨bd,hbd⟩:∃i,g.s=i:=⟨_,rfl⟩
   obtain⟨tg,htg⟩:∃t,g.t=t:=⟨_,rfl⟩
   rw[hid,hbd,htg]at hut
   rw[htg]at it16
   rw[hbd]at hfg hgn
   simp only[hid,hbd,htg]at ca cE
   clear okx htg hid hbd hsz
   obtain⟨u,hu⟩:∃u,Hid (EvE.f g=u):=⟨_,hide rfl⟩
   rw[hu.out]at hre iu hul hu1 hut
   clear hu
   have HUT:=hide hut
   clear hut
   generalize decS (strL bd)=p2 at cE hfg hgn
   obtain⟨pm2,pe2⟩:=p2
   simp only at cE hfg hgn
   have HGN:=hide hgn
   clear hgn
   obtain rfl:=hab
   go_upto_region 11 with fail
   obtain⟨r5,hF,hF3,-⟩:=zq wr z18.toArray 25 u (by simp[hyl,hul])
   refine pl_b ?_
   refine pl_v 36 (.pointer (some ⟨b,off+k*18,none⟩)) (by go_simp<;>(try simp[*])) ?_
   refine pl_v 37 (.agg u.toArray) (zm rfl rfl hre underlying25 rfl iu) ?_
   refine pl_r 10 (.pointer (some ⟨wr.heap.size,0,none⟩)) (wr.alloc (.cells z18.toArray 25)) (zr rfl (hyr _)) ?_
   refine pl_s ((wr.alloc (.cells z18.toArray 25)).setCells wr.heap.size 0 u) (zo (cs:=u.toArray) rfl rfl rfl (zn _ _ _ (by simp[hyl,hul])) (by simpa using iu) (zp hu1)) ?_
   refine zb ?_
   have HC:=HK.out.later hF
   have HX:=zdn HK.out (Nat.le_refl _)
   clear HK
   obtain⟨X,hX⟩:∃X,wr.heap.size=X:=⟨_,rfl⟩
   simp only[hX]at r5 HC HX hF3 ⊢
   obtain⟨w5,hw5⟩:∃W,(wr.alloc (.cells z18.toArray 25)).setCells X 0 u=W:=⟨_,rfl⟩
   rw[hw5]at r5 HC hF3 ⊢
   have sX:X<w5.heap.size:=by omega
   clear hw5 hX hF hF3 hre
   have c0:w5.cell? ⟨X,0,none⟩=some (.int .i64 id):=by have:=r5 0 _ (by rw[HUT.out];rfl);rwa [Nat.zero_add]at this
   have c1:w5.cell? ⟨X,1,none⟩=some (.string bd):=by have:=r5 1 _ (by rw[HUT.out];rfl);rwa [Nat.zero_add]at this
   have ct:w5.rangeAt X 2 (v8 tg):=fun j y hy=>by
    have:=r5 (j+2) y (by rw[HUT.out];exact hy)
    rw[show 0+(j+2)=2+j by omega]at this
    exact this
   clear r5
   go_upto_region 12 with fail
   refine pl_b ?_
   refine pl_a 38 ?_
   refine pl_a 39 ?_
   refine pl_v 40 (.int .i64 id) (zf rfl rfl c0 underlying3 rfl) ?_
   refine pl_a 41 ?_
   refine pl_v 42 (.string bd) (zf rfl rfl c1 underlying9 rfl) ?_
   refine pl_a 43 ?_
   refine pl_v 44 (.agg (v8 tg).toArray) (zm rfl rfl ct underlying23 rfl it16) ?_
   refine pl_c 45 ?_
   refine(ca w5 vk _ HC.out HL).mono ?_
   rintro _ w6 ⟨rfl,v6,o6,g6⟩
   refine⟨_,rfl,?_⟩
   simp only[nz]
   refine zb ?_
   have HC6:=HC.add o6 g6
   have c1:=(zZ (j:=1) (g6.keep sX HX).1).1.trans c1
   clear HC o6 g6 c0 ct ca HX sX
   go_upto_region 13 with fail
   refine pl_b ?_
   refine pl_a 47 ?_
   refine pl_v 48 (.string bd) (zf rfl rfl c1 underlying9 rfl) ?_
   refine pl_c 49 ?_
   refine(cE w6).mono ?_
   rintro _ w7 ⟨m2,rfl,mp2,mo2,mx2,mb2,hb7⟩
   refine⟨_,rfl,?_⟩
   simp only[nz]
   have hml2:m2.ms.cells.length=119:=mo2.ms.len
   have hm12:=mo2.ms.one
   have him2:(prog.info? 52).map (·.size)=some m2.ms.cells.length:=by rw[hml2];exact iszM
   obtain⟨q2,hq2⟩:∃q,Hid (m2.ms.cells=q):=⟨_,hide rfl⟩
   rw[hq2.out]at hml2 hm12 him2
   simp only[hq2.out]
   refine pl_a 46 ?_
   refine pl_a 50 ?_
   refine pl_a 51 ?_
   refine pl_r 11 (.pointer (some ⟨w7.heap.size,0,none⟩)) (w7.alloc (.cells zc.toArray 52)) (zr rfl (hzr _)) ?_
   refine pl_s ((w7.alloc (.cells zc.toArray 52)).setCells w7.heap.size 0 q2) (zo (cs:=q2.toArray) rfl rfl rfl (zn _ _ _ (by simp[hzl,hml2])) (by simpa using him2) (zp hm12)) ?_
   refine pl_a 12 ?_
   refine zb ?_
   obtain⟨r8,hF,hF3,-⟩:=zq w7 zc.toArray 52 q2 (by simp[hzl,hml2])
   have HC8:=(HC6.later hb7).later hF
   have mx8:=mx2.below hF
   have mb8:m2.Bk (Clr O v6):=mb2.mono (fun b hb=>zdn HC6 hb)
   obtain⟨A2,hA2⟩:∃A,w7.heap.size=A:=⟨_,rfl⟩
   simp only[hA2]at r8 hF3 HC8 mx8 ⊢
   obtain⟨w8,hw8⟩:∃W,(w7.alloc (.cells zc.toArray 52)).setCells A2 0 q2=W:=⟨_,rfl⟩
   rw[hw8]at r8 hF3 HC8 mx8 ⊢
   have sA2:A2<w8.heap.size:=by omega
   clear hw8 hA2 hF hF3 hb7 mx2 mb2 HC6 cE c1
   by_cases e0:pe2=0
   ·subst e0
    have hf2:=hfg rfl
    rw[←mp2]at hf2
    have HS2:=hide (zfq hf2)
    have HCL:Hid ((C4++(xs.take k).flatMap (newC N)++[g]).length+(ownC N m2.pure).length≤1000000000):=hide (by
     have h1:=hf2.le N
     have h2:=HL2.out
     rw[List.length_append,List.length_singleton]
     omega)
    have cO:=zgv N m2 O v6 _ w8 HC8.out mo2 mx8 mb8 HCL.out HS2.out
    rw[hq2.out]at cO
    unfold addV at cO
    clear hf2 hfg
    go_upto_region 15 with fail
    refine pl_b ?_
    refine pl_a 54 ?_
    refine pl_v 55 (.agg q2.toArray) (zm rfl rfl r8 underlying52 rfl him2) ?_
    refine pl_a 56 ?_
    refine pl_c 57 ?_
    refine(cO).mono ?_
    rintro _ w9 ⟨rfl,v9,o9,g9⟩
    refine⟨_,rfl,?_⟩
    simp only[nz]
    refine zb ?_
    have HD:Hid (CI W w9 O (.slice none 0 0) v9 (C4++(xs.take (k+1)).flatMap (newC N))):=hide (by
     rw[HT.out,HGN.out,if_pos rfl,←mp2]
     have h9:=HC8.add o9 g9
     simp only[List.append_assoc,List.singleton_append]at h9 ⊢
     exact h9)
    clear cO HC8 o9 g9 mx8 mb8 r8 sA2 HT HGN hq2 him2 hml2 hm12 mo2 HS2 HCL hzr hyr hzl hyl iu hul hu1 it16 HL
    go_wp2_with fail
    go_roundw
    case rel=>exact⟨k+1,v9,by omega,by go_num,HD⟩
    case measure=>simp[intOf];omega
   ·have e0':(pe2==0)=false:=by simp[e0]
    have HD:Hid (CI W w8 O (.slice none 0 0) v6 (C4++(xs.take (k+1)).flatMap (newC N))):=hide (by
     rw[HT.out,HGN.out,if_neg e0,←List.append_assoc]
     exact HC8)
    clear HC8 mx8 mb8 r8 sA2 HT HGN hq2 him2 hml2 hm12 mo2 hzr hyr hzl hyl iu hul hu1 it16 HL hfg mp2
    go_wp2_with fail
    go_roundw
    case rel=>exact⟨k+1,v6,by omega,by go_num,HD⟩
    case measure=>simp[intOf];omega
  ·obtain rfl:k=n:=by omega
   have c0:=HK.out.out.c0
   have HE:Hid (ClaimsA w R (.returned vk) wr):=hide (by
    have h1:=HK.out.out
    rw[List.take_of_length_le (by rw[HN.out];exact Nat.le_refl _),←HR2.out]at h1
    have hl:R.length≤1000000000:=by
     have h2:=zd4 N xs
     have h3:=HC4l.out
     have h4:=HNL.out
     rw[HR2.out,List.length_append]
     rw[HN.out]at h2
     omega
    obtain⟨x,e1,e2,e3⟩:=zkt h1 hl
    refine⟨x,by rw[e1],e2,e3,?_⟩
    have g:=HK.out.grow
    have b3:=HB3.out
    exact⟨g.os.trans b3.os,g.tape.trans b3.tape,g.output.trans b3.output,Nat.le_trans b3.size g.size,fun i hi=>(g.block i (Nat.lt_of_lt_of_le hi b3.size) (by omega) (fun e=>by cases e)).trans (b3.block i hi)⟩)
   clear HK ca cE hlt
   go_wp2_with fail
   go_ret
   exact HE.out
end Go.Proofs.YtcbpbkefggekmaaGreatDoor
namespace Go.Proofs.YtcbpbkefggekmaaGreatDoor.Rk
open Qs
open Go.RowKit
open Sha Tal
theorem _root_.Go.Proofs.YtcbpbkefggekmaaGreatDoor.Qs.KeysAt.apart {w:World} {p:Option Addr} {ds:List (List Int)} (h:KeysAt w p ds) (X:Nat) (s:ByteArray) (hX:w.cell? ⟨X,0,none⟩=some (.string s)) (vs:List Value):KeysAt (w.setCells X 0 vs) p ds:=by
  rcases h with h|⟨K,a,cap,rfl,hK,hc,hl,hd,hr⟩
  · exact .inl h
  · have hKX:K≠X:=fun e=>by subst e;rw[hc]at hX;cases hX
    have hcK:w.rangeAt K 0 [.slice a ds.length cap]:=fun j v hv=>by
      cases j with
      |zero=>simp at hv;subst hv;exact hc
      |succ j=>simp at hv
    have hc':=World.rangeAt_setCells_apart hcK X 0 vs (.inl hKX) 0 _ rfl
    refine .inr ⟨K,a,cap,rfl,by rw[zB];exact hK,hc',hl,hd,?_⟩
    rcases hr with hr|⟨D,rfl,hD,hr⟩
    · exact .inl hr
    · by_cases hz:ds=[]
      · exact .inl hz
      · refine .inr ⟨D,rfl,by rw[zB];exact hD,fun i d hi=>?_⟩
        have hDX:D≠X:=fun e=>by
          subst e
          obtain⟨d0,dr,rfl⟩:=List.exists_cons_of_ne_nil hz
          have h0:=hr 0 d0 rfl
          obtain⟨l0,_⟩:=hd d0 (List.mem_cons_self ..)
          have hc0:=get8 h0 (i:=0) (by omega)
          simp only[Nat.zero_mul,Nat.add_zero]at hc0
          rw[hc0]at hX
          cases hX
        exact World.rangeAt_setCells_apart (hr i d hi) X 0 vs (.inl hDX)
def seedR:ByteArray:={data:=#[114]}
def rkL:List Value:=[.string seedR,.int .i64 72]
theorem iszK:(prog.info? 29).map (·.size)=some 2:=by kernel_rfl
theorem zgM (w:World) (hG:Glob w):
   Calls prog 9 #[] w fun e w'=>∃p,e=.returned (.tuple #[.pointer p,.agg rkL.toArray])∧p≠none∧KeysAt w' p (keysOf seedR 72)∧Below w.heap.size w w':=by
  have cr:=fun w0=>zjZ seedR 72 w0 (by omega) (by omega) (by decide)
  have hB1:Below w.heap.size w (w.alloc (.cells #[.string ⟨#[]⟩,.int .i64 0] 29)):=(Below.refl _ _).alloc (Nat.le_refl _) _
  have hc1:(w.alloc (.cells #[.string ⟨#[]⟩,.int .i64 0] 29)).cell? ⟨w.heap.size,0,none⟩=some (.string ⟨#[]⟩):=zC w #[.string ⟨#[]⟩,.int .i64 0] 29 0 _ rfl
  have hT1:=zE w #[.string ⟨#[]⟩,.int .i64 0] 29
  have hz1:w.heap.size<(w.alloc (.cells #[.string ⟨#[]⟩,.int .i64 0] 29)).heap.size:=by simp
  go_enter func9,ntmps9
  go_upto_region 1 with fail
  go_name_world w1 hw1
  rw[hw1]at hB1 hc1 hT1 hz1
  clear hw1
  have c1:=cr w1
  unfold seedR at c1
  go_wp2_with fail
  refine c1.mono ?_
  rintro e w2 ⟨rfl,hw2⟩
  have hB2:=hB1.trans (hw2.mono hB1.size)
  have hc2:=(hw2.cell (p:=⟨w.heap.size,0,none⟩) hz1).trans hc1
  have hT2:=zg hT1 hw2 hz1
  have hz2:=Nat.lt_of_lt_of_le hz1 hw2.size
  clear c1 cr hB1 hc1 hT1 hz1 hw2
  have hQ3:(w2.alloc (.cells #[.string ⟨#[114]⟩,.int .i64 72] 29)).rangeAt w2.heap.size 0 [.string ⟨#[114]⟩,.int .i64 72]:=zC w2 #[.string ⟨#[114]⟩,.int .i64 72] 29
  have hF3:Below w2.heap.size w2 (w2.alloc (.cells #[.string ⟨#[114]⟩,.int .i64 72] 29)):=(Below.refl _ _).alloc (Nat.le_refl _) _
  have hz3':w2.heap.size<(w2.alloc (.cells #[.string ⟨#[114]⟩,.int .i64 72] 29)).heap.size:=by simp
  go_upto_region 2 with fail
  go_name_world w3 hw3
  rw[hw3]at hQ3 hF3 hz3'
  have hz3:w2.heap.size<w3.heap.size:=by omega
  have hB3:=hB2.trans (hF3.mono hB2.size)
  have hc3:=(hF3.cell (p:=⟨w.heap.size,0,none⟩) hz2).trans hc2
  have hT3:=zg hT2 hF3 hz2
  have hzz3:=Nat.lt_of_lt_of_le hz2 hF3.size
  have hne:w2.heap.size≠w.heap.size:=by omega
  clear hw3 hB2 hc2 hT2 hz2 hz3' hF3
  obtain⟨X2,hX2⟩:∃X,w2.heap.size=X:=⟨_,rfl⟩
  rw[hX2]at hQ3 hz3 hne ⊢
  clear hX2
  try simp only[Act.put]
  have hB4:=hB3.drew
  have hQ4:w3.drew.rangeAt X2 0 [.string ⟨#[114]⟩,.int .i64 72]:=(World.rangeAt_drew _ _ _ _).2 hQ3
  have hc4:w3.drew.cell? ⟨w.heap.size,0,none⟩=some (.string ⟨#[]⟩):=hc3
  have hT4:w3.drew.there w.heap.size 0 2:=(World.there_drew _ _ _ _).2 hT3
  have hz4:X2<w3.drew.heap.size:=hz3
  have hzz4:w.heap.size<w3.drew.heap.size:=hzz3
  clear hB3 hQ3 hc3 hT3 hz3 hzz3
  obtain⟨X,hX⟩:∃X,Hid (w.heap.size=X):=⟨_,hide rfl⟩
  rw[hX.out]at hc4 hT4 hzz4 hne ⊢
  obtain⟨w5,hw5⟩:∃w5,w3.drew=w5:=⟨_,rfl⟩
  rw[hw5]at hB4 hQ4 hc4 hT4 hz4 hzz4
  refine zw (S:=(fun W:World=>W.rangeAt X2 0 [.string ⟨#[114]⟩,.int .i64 72]∧Below w.heap.size w W)) 4 rfl (by kernel_rfl) ?_
  rw[hw5]
  clear hw5
  have hS:(fun W:World=>W.rangeAt X2 0 [.string ⟨#[114]⟩,.int .i64 72]∧Below w.heap.size w W) w5:=⟨hQ4,hB4⟩
  refine hs_v 1 9 (.agg #[.string ⟨#[114]⟩,.int .i64 72]) rfl (fun w' hw=>zcr rfl rfl (run_loadVar_mid (P:=prog) w' X2 0 29 [.string ⟨#[114]⟩,.int .i64 72] _ hw.1 underlying29 rfl iszK)) hS ?_
  have cd:=zmx seedR 72 w5 (hG.below hB4) (by omega) (by omega) (by decide)
  refine hs_c 0 8 ?_
  refine(cd).mono ?_
  rintro e' w6 ⟨p,rfl,hp,hk,hw6⟩
  have hS:(fun W:World=>W.rangeAt X2 0 [.string ⟨#[114]⟩,.int .i64 72]∧Below w.heap.size w W) w6:=⟨za hS.1 hw6 hz4,hS.2.trans (hw6.mono hS.2.size)⟩
  refine⟨_,rfl,hS,?_⟩
  simp only[nz]
  have hc6:=(hw6.cell (p:=⟨X,0,none⟩) hzz4).trans hc4
  have hT6:=zg hT4 hw6 hzz4
  have hk7:=hk.apart X _ hc6 [.string ⟨#[114]⟩,.int .i64 72]
  have hB7:Below w.heap.size w (w6.setCells X 0 [.string ⟨#[114]⟩,.int .i64 72]):=zi (by rw[hX.out];omega) _ 0 w6 hS.2
  have hrs:=run_loadVar_mid (P:=prog) (w6.setCells X 0 [.string ⟨#[114]⟩,.int .i64 72]) X 0 29 [.string ⟨#[114]⟩,.int .i64 72] _ (World.rangeAt_setCells_same w6 X 0 [.string ⟨#[114]⟩,.int .i64 72] hT6) underlying29 rfl iszK
  have hst:=run_storeVar_mid (P:=prog) w6 X 0 29 #[.string ⟨#[114]⟩,.int .i64 72] hT6 iszK (by simp[Value.oneCell'])
  clear cd hk hw6
  refine hs_t 2 0 (?_) rfl (by kernel_rfl) (by kernel_rfl) (by kernel_rfl) (by rfl) ?_ hS rfl ?_
  rotate_left
  · intro w' hw
    go_simp
    try with_reducible rfl
  simp only[Act.put,List.setIfInBounds_toArray,List.set_cons_zero]
  refine zG (i:=3) (w':=(w6.setCells X 0 [.string ⟨#[114]⟩,.int .i64 72])) rfl (by kernel_rfl) (by rfl) (zbG rfl rfl rfl hst) rfl ⟨World.rangeAt_setCells_apart hS.1 X 0 _ (.inl hne),hB7⟩ ?_
  refine zv (by kernel_rfl) ?_
  go_wp2_with fail
  exact bodyPost_ret (v:=.tuple #[.pointer p,.agg #[.string ⟨#[114]⟩,.int .i64 72]]) (by simp[results,results9,asAddr,hrs]) rfl ⟨p,rfl,hp,hk7,hB7⟩
end Go.Proofs.YtcbpbkefggekmaaGreatDoor.Rk
namespace Go.Proofs.YtcbpbkefggekmaaGreatDoor.Qs
open Go.RowKit
open Sha Tal
theorem zlb (p:Option Addr) (ds:List (List Int)) (id:Int) (body:ByteArray) (t:List Int) (w:World) (hG:Glob w) (h:KeysAt w p ds) (hb:ds=[]∨body.size≤100000) (ht:t.length=16):
  Calls prog 25 #[.pointer p,.int .i64 id,.string body,.agg (v8 t).toArray] w fun e w'=>e=.returned (.bool (checkOf (signOf ds id body) t))∧Below w.heap.size w w':=by
 have hB0:Below w.heap.size w (w.alloc (.cells (v8 t).toArray 23)):=(Below.refl _ _).alloc (Nat.le_refl _) _
 have hR0:=zhK w t 23
 have cs:=zee p ds id body _ (hG.below hB0) (h.below hB0) hb
 have hl:=zaN ds id body
 unfold checkOf
 obtain⟨r,hr⟩:∃r,Hid ((signOf ds id body).1=r):=⟨_,hide rfl⟩
 obtain⟨x,hx⟩:∃x,Hid ((signOf ds id body).2=x):=⟨_,hide rfl⟩
 rw[hr.out,hx.out]at cs ⊢
 rw[hr.out]at hl
 obtain⟨ct,hct⟩:∃ct,Hid (v8 t=ct):=⟨_,hide rfl⟩
 have hcl:ct.length=16:=by rw[←hct.out,v8_length,ht]
 have heq:=zmc r t hl ht
 rw[hct.out]at hB0 hR0 cs heq ⊢
 clear hb
 go_enter func25,ntmps25
 go_wp2_with fail
 refine cs.mono ?_
 rintro e w1 ⟨rfl,hw1⟩
 clear cs
 have hB1:=hB0.trans (hw1.mono hB0.size)
 have hs1:=hw1.size
 simp only[World.size_alloc]at hs1
 have hR1:=za hR0 hw1 (by simp)
 have F:=zq w1 (Array.replicate 16 (.int .u8 0)) 23 (v8 r) (by rw[v8_length,hl];rfl)
 have hN:(w1.alloc (.cells (Array.replicate 16 (.int .u8 0)) 23)).there w1.heap.size 0 (v8 r).toArray.size:=by
  have e:(v8 r).toArray.size=16:=by rw[List.size_toArray,v8_length,hl]
  rw[e];exact(zaq w1 16 23).2
 have hi:=zaC r hl
 have h1c:=all_oneCell_toArray (zy r)
 go_upto_region 2 with(refine wpList_store_mid (op:=⟨none,.store 23 (.tmp 9) (.tmp 16),_,_,_,none⟩) rfl 23 _ _ rfl _ _ (v8 r).toArray rfl rfl hN hi h1c ?_)
 go_name_world w4 hw4
 rw[show(w1.alloc (.cells (Array.replicate 16 (.int .u8 0)) 23)).setCells w1.heap.size 0 (v8 r)=w4 from hw4]at F
 obtain⟨hR4,hB4',hz4',_⟩:=F
 have hz4:w1.heap.size<w4.heap.size:=by omega
 clear hz4' hw4 hN h1c hw1 hR0
 have hB4:=hB1.trans (hB4'.mono hB1.size)
 have hR1':=za hR1 hB4' (by omega)
 have hl16:(prog.info? 23).map (·.size)=some (v8 r).length:=by simpa using hi
 have hl16':(prog.info? 23).map (·.size)=some ct.length:=by rw[hcl];exact iszT
 try simp only[Act.put]
 clear hi
 clear hR1 hB4' hct
 by_cases hx0:x=0
 ·subst hx0
  refine wp_region_list ?_
  refine wpList_plain rfl fun K hK=>?_
  go_simp
  refine hK _ _ ?_
  clear hK K
  refine wpList_plain rfl fun K hK=>?_
  go_simp
  refine hK _ _ ?_
  clear hK K
  refine wpList_plain rfl fun K hK=>?_
  go_simp
  refine hK _ _ ?_
  clear hK K
  refine zM (by rfl) 23 _ rfl _ _ rfl (v8 r) _ hR4 underlying23 rfl hl16 ?_
  refine zM (by rfl) 23 _ rfl _ _ rfl ct _ hR1' underlying23 rfl hl16' ?_
  go_wp2
  go_ret
  exact⟨by simp,hB4⟩
 ·have hx1:(x==0)=false:=by simpa using hx0
  go_wp2
  go_ret
  exact⟨by simp[hx0],hB4⟩
end Go.Proofs.YtcbpbkefggekmaaGreatDoor.Qs
namespace Go.Proofs.YtcbpbkefggekmaaGreatDoor
open Go.RowKit
open Sha Tal
set_option linter.unusedVariables false
set_option linter.unusedSimpArgs false
open Qs (KeysAt signOf checkOf)
def txX:ByteArray:={data:=#[120]}
def rqX (tg:List Int):Rq:=⟨1,1,txX,tg⟩
def mX (b:Nat) (tg:List Int):Mg:=⟨1,1,0,0,1,false,⟨some ⟨b,0,none⟩,1,[rqX tg]⟩,Vt.zero,0,0,0,⟨none,0,[]⟩,⟨none,0,[]⟩,zd,Vt.zero,⟨none,0,[]⟩,⟨#[]⟩,⟨none,0,[]⟩⟩
def pX (tg:List Int):Mp:=⟨1,1,0,0,1,false,[rqX tg],Vt.zero,0,0,0,[],[],zd,Vt.zero,[],⟨#[]⟩,[]⟩
theorem zfP {tg:List Int} (h:tg.length=16) (hb:∀z∈tg,0≤z∧z<256):(rqX tg).ok:=⟨h,hb,by show txX.size≤maxLen;decide,by show(-9223372036854775808:Int)≤1;decide,by show(1:Int)≤9223372036854775807;decide,by show(-9223372036854775808:Int)≤1;decide,by show(1:Int)≤9223372036854775807;decide⟩
theorem zk1 (b:Nat) (tg:List Int):(mX b tg).ok:=⟨Vt.zero_ok,Vt.zero_ok,zt,zx⟩
theorem zk4 {b:Nat} {tg:List Int} {w:World} (h:tg.length=16) (hb:∀z∈tg,0≤z∧z<256) (hlt:b<w.heap.size) (hr:w.rangeAt b 0 (RqE.f (rqX tg))):(mX b tg).At w:=
 zaW ⟨by show 1≤maxLen;decide,fun y hy=>by
  have:y=rqX tg:=by simpa [mX]using hy
  rw[this];exact zfP h hb,.inr ⟨b,0,rfl,hlt,by simpa [mX]using hr⟩⟩ zan RowsAt.none RowsAt.none RowsAt.none
def byX (tg:List Int):List Int:=[1,1,1,1,1,1,1,2,1,1,1,1,1,1,120]++tg
theorem zhG (b:Nat) {tg:List Int} (h:tg.length=16):(mX b tg).bytes=byX tg:=match tg,h with
 |[_,_,_,_,_,_,_,_,_,_,_,_,_,_,_,_],_=>by kernel_rfl
theorem zhF {tg:List Int} (h:tg.length=16):(byX tg).length≤1000:=by unfold byX;rw[List.length_append,h];decide
theorem zmW {tg:List Int} (hb:∀z∈tg,0≤z∧z<256):∀z∈byX tg,0≤z∧z<256:=fun z hz=>by
 rcases List.mem_append.1 hz with hz|hz
 ·exact(by decide:∀z∈([1,1,1,1,1,1,1,2,1,1,1,1,1,1,120]:List Int),0≤z∧z<256) z hz
 ·exact hb z hz
theorem zk2 (b:Nat) (tg:List Int):(mX b tg).good=true:=by
 unfold Mg.good
 rw[Mg.B_eqv (mX b tg) (mX b tg).bare (by kernel_rfl)]
 kernel_rfl
theorem zk3 (b:Nat) {tg:List Int} (h:tg.length=16):(mX b tg).Fine:=by
  refine⟨?_,?_,?_,?_,?_,?_,?_,?_,?_,?_,?_,?_,?_,?_,?_,?_,?_⟩
  case refine_8=>show 1≤200;decide
  case refine_9 => intro r hr; have hr2 : r = rqX tg := by simpa [mX] using hr
                   rw[hr2];show txX.size≤4000;decide
  case refine_11=>intro g hg;cases hg
  case refine_13=>intro g hg;cases hg
  case refine_17=>rw[zhG b h];have:=zhF h;omega
  all_goals (simp only[mX];decide)
def sX (tg:List Int):ByteArray:=strOf (byX tg)
theorem zjk {tg:List Int} (h:tg.length=16):(sX tg).size≤1000:=by unfold sX;rw[zcM];exact zhF h
theorem zmB {tg:List Int} (h:tg.length=16) (hb:∀z∈tg,0≤z∧z<256):decS (strL (sX tg))=(pX tg,0):=by
 unfold sX
 rw[zdM (zmW hb)]
 clear hb
 exact match tg,h with
 |[_,_,_,_,_,_,_,_,_,_,_,_,_,_,_,_],_=>by kernel_rfl
theorem zmH {tg:List Int} (h:tg.length=16) (hb:∀z∈tg,0≤z∧z<256):claimsC 4 (sX tg)=[⟨5,strOf (Rk.bodyL 1 1 txX),tg⟩]:=by
 unfold claimsC
 rw[if_neg (by decide),zmB h hb]
 rfl
theorem zmj (b:Nat) (tg:List Int) (w:World) (h:tg.length=16) (hb:∀z∈tg,0≤z∧z<256) (hlt:b<w.heap.size) (hr:w.rangeAt b 0 (RqE.f (rqX tg))):
  Calls prog 22 #[.agg (mX b tg).ms.cells.toArray] w fun e w'=>e=.returned (.tuple #[.string (sX tg),.int .i64 0])∧Below w.heap.size w w':=by
 have om:=zk1 b tg
 have am:(mX b tg).At w:=zk4 h hb hlt hr
 have c:=enc1 (mX b tg).ms.cells true (byX tg) w om.ms.len (fun w0 h0=>by
  have a0:=am.below h0
  have k1:1≤(mX b tg).k:=by show(1:Int)≤1;decide
  have k8:(mX b tg).k≤8:=by show(1:Int)≤8;decide
  have c:=goodW (mX b tg).ms.cells (mX b tg).bare.ms.cells (mX b tg).k (Mg.B (mX b tg) (mX b tg).bare) (mX b tg).may w0 om.ms.len rfl (fun _ _ w1 _=>by rw[Mg.bare_1 rfl];exact zhU (mX b tg).ms om.ms rfl w1) (fun _ _ w1 h1=>zgF (mX b tg) (mX b tg).bare w1 om (Mg.bare_ok om k1 k8) (a0.below h1) ((Mg.bare_at a0 k1 k8).below h1)) (fun w1 h1=>zg9 (mX b tg) w1 om (a0.below h1))
  rw[show(decide (1≤(mX b tg).k∧(mX b tg).k≤8)&&(Mg.B (mX b tg) (mX b tg).bare&&(mX b tg).may))=true from zk2 b tg]at c
  exact c) (fun _ X w0 h0 hX hW=>by
  rw[←zhG b h]
  exact zeZ X _ [] (mX b tg) w w0 om am (zk3 b h) rfl h0 hX hW (by simp))
 exact c
theorem zmZ (b:Nat) (tg:List Int) (w:World):(Instr.build 52 #[(0,.int .i64 1),(1,.int .i64 1),(4,.int .i64 1),(5,.agg #[.bool false,.slice (some ⟨b,0,none⟩) 1 1])]).run prog w=.ok (.agg (mX b tg).ms.cells.toArray) w:=
 zdq _ _ w (by kernel_rfl)
theorem zm4 (b:Nat) (w:World):(Instr.build 39 #[(1,.slice (some ⟨b,0,none⟩) 1 1)]).run prog w=.ok (.agg #[.bool false,.slice (some ⟨b,0,none⟩) 1 1]) w:=by kernel_rfl
theorem infoReqX:(prog.info? 81).map (fun i=>(i.zero,i.size,i.bytes))=some (some (.agg ([Value.int .i64 0,.int .i64 0,.string ⟨#[]⟩]++v8 (List.replicate 16 0)).toArray),19,48):=by kernel_rfl
theorem zjo (u:List Value) (hu:u.length=19) (w:World):(Instr.buildSlice 37 1 #[(0,.agg u.toArray)]).run prog w=.ok (.slice (some ⟨w.heap.size,0,none⟩) 1 1) (w.alloc (.cells u.toArray 81)):=by
 obtain⟨i1,hi1,hiz,his,hib⟩:=zW infoReqX
 exact zcb 37 81 i1 _ u underlying37 hi1 hiz (by rw[his,hu]) (by omega) (by omega) _
theorem tagX (ks:List (List Int)) (h:ks.length=72):Rk.tagV ks 4 1 1 txX=((signOf ks 5 (strOf (Rk.bodyL 1 1 txX))).1,0):=by
 unfold Rk.tagV
 rw[if_neg (by rw[h];decide)]
 have e:(signOf ks 5 (strOf (Rk.bodyL 1 1 txX))).2=0:=by
  unfold signOf
  rw[if_neg (fun h0=>by rw[h0]at h;simp at h),if_neg (by rw[h];decide)]
 show signOf ks 5 (strOf (Rk.bodyL 1 1 txX))=_
 rw[←e]
theorem zdc (w:World) (hG:Glob w):Calls prog 8 #[] w fun e w'=>e=.returned (.bool true)∧Below w.heap.size w w':=by
 obtain⟨z19,hzl,hzr⟩:∃z:List Value,z.length=19∧(∀w:World,(zeroValue 81).run prog w=.ok (.agg z.toArray) w):=⟨[.int .i64 0,.int .i64 0,.string ⟨#[]⟩]++v8 (List.replicate 16 0),rfl,fun w=>by kernel_rfl⟩
 obtain⟨zk,hzkl,hzkr⟩:∃z:List Value,z.length=2∧(∀w:World,(zeroValue 29).run prog w=.ok (.agg z.toArray) w):=⟨[.string ⟨#[]⟩,.int .i64 0],rfl,fun w=>by kernel_rfl⟩
 have cK:=Rk.zgM w hG
 have hkl:=Qs.zbZ Rk.seedR 72
 obtain⟨ks,hks⟩:∃k,Hid (Qs.keysOf Rk.seedR 72=k):=⟨_,hide rfl⟩
 rw[hks.out]at cK hkl
 have ik:(prog.info? 29).map (·.size)=some Rk.rkL.length:=by kernel_rfl
 have hkl2:Rk.rkL.length=2:=rfl
 have hk1:∀v∈Rk.rkL,v.oneCell'=true:=by decide
 obtain⟨kq,hkq⟩:∃k,Hid (Rk.rkL=k):=⟨_,hide rfl⟩
 rw[hkq.out]at cK ik hkl2 hk1
 have hlt16:=Qs.zaN ks 5 (strOf (Rk.bodyL 1 1 txX))
 have htb:=Qs.zca ks 5 (strOf (Rk.bodyL 1 1 txX))
 have htg:=tagX ks hkl
 have cH0:=fun p tg w0 g k (h:tg.length=16)=>Qs.zlb p ks 5 (strOf (Rk.bodyL 1 1 txX)) tg w0 g k (.inr (by rw[zcM];have:=Rk.zeD 1 1 txX (by decide) (by decide) (by decide);have h1:=@zap 1 (by omega);unfold Rk.bodyL textL;simp only[List.length_append,List.length_cons,List.length_nil,zN];have:txX.size=1:=rfl;have h2:=@zap (txX.size:Int) (by decide);omega)) h
 have hck:checkOf (signOf ks 5 (strOf (Rk.bodyL 1 1 txX))) (signOf ks 5 (strOf (Rk.bodyL 1 1 txX))).1=true:=by
  unfold checkOf
  have e2:(signOf ks 5 (strOf (Rk.bodyL 1 1 txX))).2=0:=by
   unfold signOf
   rw[if_neg (fun h0=>by rw[h0]at hkl;simp at hkl),if_neg (by rw[hkl];decide)]
  rw[e2]
  simp
 have hks1:0<ks.length:=by omega
 have cM0:=fun p w0 k g=>Rk.zkX p ks 4 1 1 txX w0 k g hks1 ⟨by decide,by decide,by decide,by decide,by decide⟩ (by rw[htg])
 rw[htg]at cM0
 obtain⟨tg,htgd⟩:∃t,Hid ((signOf ks 5 (strOf (Rk.bodyL 1 1 txX))).1=t):=⟨_,hide rfl⟩
 rw[htgd.out]at hlt16 htb hck cM0
 have cH1:=fun p w0 g k=>cH0 p tg w0 g k hlt16
 rw[hck]at cH1
 have hcX:=zmH hlt16 htb
 have cC:=fun w0=>zmG 4 (sX tg) w0 (by have:=zjk hlt16;omega)
 rw[hcX]at cC
 unfold ClaimsA at cC
 have cE0:=fun b w0 h1 h2=>zmj b tg w0 hlt16 htb h1 h2
 have hbm0:=fun b w0=>zmZ b tg w0
 have hul:(RqE.f (rqX tg)).length=19:=RqE.len _ (zfP hlt16 htb)
 have iu:(prog.info? 81).map (·.size)=some (RqE.f (rqX tg)).length:=by rw[hul];kernel_rfl
 have hu1:=RqE.one (rqX tg)
 have it16:(prog.info? 23).map (·.size)=some (v8 tg).length:=by rw[v8_length,hlt16];exact iszT
 have cM0:∀p w0,KeysAt w0 p ks→Glob w0→Calls prog 24 #[.pointer p,.int .i64 4,.int .i64 1,.int .i64 1,.string {data:=#[120]}] w0 fun e w'=>e=.returned (.tuple #[.agg (RqE.f (rqX tg)).toArray,.int .i64 0])∧Below w0.heap.size w0 w':=cM0
 obtain⟨u,hu⟩:∃u,Hid (RqE.f (rqX tg)=u):=⟨_,hide rfl⟩
 rw[hu.out]at hul iu hu1
 simp only[hu.out]at cM0 cE0
 obtain⟨sx,hsx⟩:∃s,Hid (sX tg=s):=⟨_,hide rfl⟩
 simp only[hsx.out]at cC cE0
 obtain⟨bd,hbd⟩:∃s,Hid (strOf (Rk.bodyL 1 1 txX)=s):=⟨_,hide rfl⟩
 simp only[hbd.out]at cC cH1
 have HG:=hide hG
 clear hG cH0 hck hcX hu hsx hbd htb htg hkl hks1 hlt16 htgd hks hkq
 go_enter func8,ntmps8
 go_upto_region 1 with fail
 refine pl_b ?_
 refine pl_c 9 ?_
 refine(cK).mono ?_
 rintro _ w1 ⟨p,rfl,hp,hk,hb1⟩
 refine⟨_,rfl,?_⟩
 simp only[nz]
 refine pl_a 8 ?_
 refine pl_a 10 ?_
 refine pl_a 11 ?_
 refine pl_r 2 (.pointer (some ⟨w1.heap.size,0,none⟩)) (w1.alloc (.cells zk.toArray 29)) (zr rfl (hzkr _)) ?_
 refine pl_a 1 ?_
 refine pl_s ((w1.alloc (.cells zk.toArray 29)).setCells w1.heap.size 0 kq) (zo (cs:=kq.toArray) rfl rfl rfl (zn _ _ _ (by simp[hzkl,hkl2])) (by simpa using ik) (zp hk1)) ?_
 refine zb ?_
 obtain⟨-,hF,hF3,-⟩:=zq w1 zk.toArray 29 kq (by simp[hzkl,hkl2])
 have hk:=hk.below hF
 have B:=hb1.trans (hF.mono hb1.size)
 obtain⟨w2,hw2⟩:∃W,(w1.alloc (.cells zk.toArray 29)).setCells w1.heap.size 0 kq=W:=⟨_,rfl⟩
 rw[hw2]at hk B ⊢
 clear hw2 hF hF3 hb1 cK hp ik hkl2 hk1 hzkr hzkl
 have cM:=cM0 p w2 hk (HG.out.below B)
 go_upto_region 2 with fail
 refine pl_b ?_
 refine pl_a 13 ?_
 refine pl_c 14 ?_
 refine(cM).mono ?_
 rintro _ w3 ⟨rfl,hb3⟩
 refine⟨_,rfl,?_⟩
 simp only[nz]
 refine pl_a 12 ?_
 refine pl_a 15 ?_
 refine pl_a 16 ?_
 refine pl_r 3 (.pointer (some ⟨w3.heap.size,0,none⟩)) (w3.alloc (.cells z19.toArray 81)) (zr rfl (hzr _)) ?_
 refine pl_s ((w3.alloc (.cells z19.toArray 81)).setCells w3.heap.size 0 u) (zo (cs:=u.toArray) rfl rfl rfl (zn _ _ _ (by simp[hzl,hul])) (by simpa using iu) (zp hu1)) ?_
 refine pl_a 4 ?_
 refine zb ?_
 obtain⟨ru,hF,hF3,-⟩:=zq w3 z19.toArray 81 u (by simp[hzl,hul])
 have hk:=(hk.below hb3).below hF
 have B:=B.trans ((hb3.trans (hF.mono hb3.size)).mono B.size)
 obtain⟨X,hX⟩:∃X,w3.heap.size=X:=⟨_,rfl⟩
 rw[hX]at ru hF3
 simp only[hX]
 obtain⟨w4,hw4⟩:∃W,(w3.alloc (.cells z19.toArray 81)).setCells X 0 u=W:=⟨_,rfl⟩
 rw[hX,hw4]at hk B
 rw[hw4]at ru hF3 ⊢
 have sX4:X<w4.heap.size:=by omega
 clear hw4 hX hF hF3 hb3 cM cM0
 have B5:Below w4.heap.size w4 (w4.alloc (.cells u.toArray 81)):=(Below.refl _ _).alloc (Nat.le_refl _) _
 have r5:(w4.alloc (.cells u.toArray 81)).rangeAt w4.heap.size 0 u:=by simpa using zC w4 u.toArray 81
 have cEn:=cE0 w4.heap.size (w4.alloc (.cells u.toArray 81)) (by simp) r5
 obtain⟨q,hq⟩:∃q,Hid ((mX w4.heap.size tg).ms.cells=q):=⟨_,hide rfl⟩
 have hbm:=hbm0 w4.heap.size
 rw[hq.out]at cEn
 simp only[hq.out]at hbm
 clear hq cE0 hbm0 r5
 go_upto_region 3 with fail
 refine pl_b ?_
 refine pl_v 18 (.agg u.toArray) (zm rfl rfl ru underlying81 rfl iu) ?_
 refine pl_r 19 (.slice (some ⟨w4.heap.size,0,none⟩) 1 1) (w4.alloc (.cells u.toArray 81)) (zcs rfl rfl (zjo u hul _)) ?_
 refine pl_v 20 (.agg #[.bool false,.slice (some ⟨w4.heap.size,0,none⟩) 1 1]) (zT (parts:=[(1,.tmp 19)]) (vs:=[(1,.slice (some ⟨w4.heap.size,0,none⟩) 1 1)]) rfl (by first|with_reducible rfl|rfl|simp[Act.eval]) (zm4 _ _)) ?_
 refine pl_v 21 (.agg q.toArray) (zT (parts:=[(0,.const (.int .i64 1)),(1,.const (.int .i64 1)),(4,.const (.int .i64 1)),(5,.tmp 20)]) (vs:=[(0,.int .i64 1),(1,.int .i64 1),(4,.int .i64 1),(5,.agg #[.bool false,.slice (some ⟨w4.heap.size,0,none⟩) 1 1])]) rfl (by first|with_reducible rfl|rfl|simp[Act.eval]) (hbm _)) ?_
 refine pl_c 22 ?_
 refine(cEn).mono ?_
 rintro _ w6 ⟨rfl,hb6⟩
 refine⟨_,rfl,?_⟩
 simp only[nz]
 refine pl_a 17 ?_
 refine pl_a 23 ?_
 refine pl_a 24 ?_
 refine pl_a 5 ?_
 refine pl_a 6 ?_
 refine zb ?_
 have hk:=(hk.below B5).below hb6
 have B:=B.trans ((B5.trans (hb6.mono B5.size)).mono B.size)
 clear B5 hb6 cEn hbm ru sX4 iu hu1
 go_upto_region 4 with fail
 refine pl_b ?_
 refine pl_a 25 ?_
 refine pl_c 26 ?_
 refine(cC w6).mono ?_
 rintro _ w7 ⟨x,rfl,hxs,hxa,hb7⟩
 refine⟨_,rfl,?_⟩
 simp only[nz]
 refine pl_a 7 ?_
 refine zb ?_
 have hk:=hk.below hb7
 have B:=B.trans (hb7.mono B.size)
 obtain⟨xa,xc,xs⟩:=x
 have hxs:xs=[⟨5,bd,tg⟩]:=hxs
 subst hxs
 obtain⟨b,off,hab0,sb,hre0⟩:=hxa.elem 0 (by simp)
 have hab:xa=some ⟨b,off,none⟩:=hab0
 have hre:w7.rangeAt b (off+0*18) (.int .i64 5::.string bd::v8 tg):=hre0
 clear hab0 hre0
 rw[Nat.zero_mul,Nat.add_zero]at hre
 clear hxa hb7
 subst hab
 simp only[Sl.val,List.length_singleton]
 go_upto_region 5 with fail
 have hdr:Below w7.heap.size w7 w7.drew:=(Below.refl _ _).drew
 have hre:=za hre hdr sb
 have hk:=hk.below hdr
 have B:=B.trans (hdr.mono B.size)
 have sb:=Nat.lt_of_lt_of_le sb hdr.size
 refine zw (S:=(Below w7.drew.heap.size w7.drew)) 31 rfl (by kernel_rfl) ?_
 obtain⟨w8,hw8⟩:∃W,w7.drew=W:=⟨_,rfl⟩
 rw[hw8]at hre hk B sb ⊢
 clear hdr hw8
 have hS:(Below w8.heap.size w8) w8:=Below.refl _ _
 have c0:w8.cell? ⟨b,off,none⟩=some (.int .i64 5):=hre 0 _ rfl
 have c1:w8.cell? ⟨b,off+1,none⟩=some (.string bd):=hre 1 _ rfl
 have ct:w8.rangeAt b (off+2) (v8 tg):=fun j y hy=>by
  have:=hre (j+2) y hy
  rw[show off+(j+2)=off+2+j by omega]at this
  exact this
 have cH:=fun(_:World)=>cH1 p w8 (HG.out.below B) hk
 refine hs_a 0 27 hS ?_
 refine hs_v 1 28 (.bool true) rfl (fun w' hw=>by go_simp) hS ?_
 refine hs_a 2 29 hS ?_
 refine hs_a 3 30 hS ?_
 refine hs_v 4 31 (.bool true) rfl (fun w' hw=>by go_simp) hS ?_
 refine hs_a 5 32 hS ?_
 refine hs_a 6 33 hS ?_
 refine hs_a 7 34 hS ?_
 refine hs_a 8 35 hS ?_
 refine hs_v 9 36 (.bool true) rfl (fun w' hw=>by go_simp) hS ?_
 refine hs_a 10 37 hS ?_
 refine hs_a 11 38 hS ?_
 refine hs_a 12 39 hS ?_
 refine hs_v 13 40 (.pointer (some ⟨b,off,none⟩)) rfl (fun w' hw=>by go_simp<;>(try simp[*])) hS ?_
 refine hs_v 14 41 (.pointer (some ⟨b,off,none⟩)) rfl (fun w' hw=>by go_simp<;>(try simp[*])) hS ?_
 refine hs_v 15 42 (.int .i64 5) rfl (fun w' hw=>zf rfl rfl ((hw.cell (p:=⟨b,off,none⟩) sb).trans c0) underlying3 rfl) hS ?_
 refine hs_v 16 43 (.bool true) rfl (fun w' hw=>by go_simp) hS ?_
 refine hs_a 17 44 hS ?_
 refine hs_a 18 45 hS ?_
 refine hs_a 19 46 hS ?_
 refine hs_a 20 47 hS ?_
 refine hs_v 21 48 (.pointer (some ⟨b,off,none⟩)) rfl (fun w' hw=>by go_simp<;>(try simp[*])) hS ?_
 refine hs_v 22 49 (.pointer (some ⟨b,off+1,none⟩)) rfl (fun w' hw=>by go_simp<;>(try simp[*])) hS ?_
 refine hs_v 23 50 (.string bd) rfl (fun w' hw=>zf rfl rfl ((hw.cell (p:=⟨b,off+1,none⟩) sb).trans c1) underlying9 rfl) hS ?_
 refine hs_a 24 51 hS ?_
 refine hs_v 25 52 (.pointer (some ⟨b,off,none⟩)) rfl (fun w' hw=>by go_simp<;>(try simp[*])) hS ?_
 refine hs_v 26 53 (.pointer (some ⟨b,off+2,none⟩)) rfl (fun w' hw=>by go_simp<;>(try simp[*])) hS ?_
 refine hs_v 27 54 (.agg (v8 tg).toArray) rfl (fun w' hw=>zm rfl rfl (za ct hw sb) underlying23 rfl it16) hS ?_
 refine hs_c 28 55 ?_
 refine(cH w8).mono ?_
 rintro _ w9 ⟨rfl,hb9⟩
 have hS:(Below w8.heap.size w8) w9:=hS.trans (hb9.mono hS.size)
 refine⟨_,rfl,hS,?_⟩
 simp only[nz]
 refine hs_a 29 56 hS ?_
 refine hs_a 30 0 hS ?_
 refine zv (by kernel_rfl) ?_
 have HB:=hide (B.trans (hS.mono B.size))
 clear hre hk B sb c0 c1 ct cH cH1
 go_wp2_with fail
 go_ret
 exact⟨rfl,HB.out⟩
open Qs (KeysAt signOf checkOf zaU)
def sealO (r:List Int ×Int) (n:Int) (s:ByteArray):Ev ×Int:=if r.2=0 then(⟨n,s,r.1⟩,0)else(evZ,r.2)
def z16:List Value:=v8 (List.replicate 16 (0:Int))
theorem zeL (w:World):(zeroValue 23).run prog w=.ok (.agg z16.toArray) w:=by kernel_rfl
theorem zhi (p:Option Addr) (ds:List (List Int)) (n:Int) (sb:ByteArray) (w:World) (hG:Glob w) (hk:KeysAt w p ds) (hs:sb.size≤40000):Calls prog 10 #[.pointer p,.int .i64 n,.string sb] w fun en w'=>en=.returned (.tuple #[.agg (sealO (signOf ds n sb) n sb).1.cells.toArray,.int .i64 (sealO (signOf ds n sb) n sb).2])∧Below w.heap.size w w':=by
 obtain⟨zc,hzc,hzl,hz1,hzr,hb0⟩:∃z:List Value,Hid (z=evZ.cells)∧z.length=18∧(∀v∈z,v.oneCell'=true)∧(∀w:World,(zeroValue 25).run prog w=.ok (.agg z.toArray) w)∧∀w:World,(Instr.build 25 #[]).run prog w=.ok (.agg z.toArray) w:=⟨_,hide rfl,rfl,EvE.one evZ,zds,zm1⟩
 have hiz:(prog.info? 25).map (·.size)=some zc.length:=by rw[hzl];exact zbD
 obtain⟨tz,htz,htl⟩:∃z:List Value,(∀w:World,(zeroValue 23).run prog w=.ok (.agg z.toArray) w)∧z.length=16:=⟨z16,zeL,rfl⟩
 have c16:=Qs.zaN ds n sb
 have cS0:=fun w0 g k=>Qs.zee p ds n sb w0 g k (.inr (by omega))
 have hnil:ds.length=0→signOf ds n sb=(zj,1):=fun h=>by
  unfold signOf
  rw[if_pos (List.length_eq_zero_iff.1 h)]
 have HNIL:=hide hnil
 clear hnil
 obtain⟨⟨tg,er⟩,hr⟩:∃r,Hid (signOf ds n sb=r):=⟨_,hide rfl⟩
 rw[hr.out]at c16 cS0 ⊢
 have c16:tg.length=16:=c16
 have ht1':∀v∈v8 tg,v.oneCell'=true:=zy tg
 have htl2:(v8 tg).length=16:=by rw[v8_length,c16]
 have hbe:=fun w0=>zhI n sb (v8 tg) htl2 w0
 have hql:(Value.int .i64 n::.string sb::v8 tg).length=18:=by simp[htl2]
 have hq1:∀v∈(Value.int .i64 n::.string sb::v8 tg),v.oneCell'=true:=fun v hv=>by
  simp only[List.mem_cons]at hv
  rcases hv with rfl|rfl|hv
  ·rfl
  ·rfl
  ·exact zy tg v hv
 have it16:(prog.info? 23).map (·.size)=some (v8 tg).length:=by rw[htl2];exact iszT
 have hiq:(prog.info? 25).map (·.size)=some (Value.int .i64 n::.string sb::v8 tg).length:=by rw[hql];exact zbD
 have hqe:Hid ((⟨n,sb,tg⟩:Ev).cells=(Value.int .i64 n::.string sb::v8 tg)):=hide rfl
 obtain⟨q,hq⟩:∃q,Hid ((Value.int .i64 n::.string sb::v8 tg)=q):=⟨_,hide rfl⟩
 rw[hq.out]at hql hq1 hiq hqe
 simp only[hq.out]at hbe
 obtain⟨G,hG0⟩:∃G,Hid (sealO (tg,er) n sb=G):=⟨_,hide rfl⟩
 rw[hG0.out]
 obtain⟨u,hu⟩:∃u,Hid (v8 tg=u):=⟨_,hide rfl⟩
 rw[hu.out]at ht1' htl2 it16
 simp only[hu.out]at cS0 hbe
 obtain⟨z,hz⟩:∃z,sb.size=z:=⟨_,rfl⟩
 rw[hz]at hs
 have h2:¬(4194304:Int)<z:=by omega
 rw[hr.out]at HNIL
 obtain⟨L,hL⟩:∃L:Int,(ds.length:Int)=L:=⟨_,rfl⟩
 have HN:Hid (L=0→er=1):=hide (fun h=>congrArg Prod.snd (HNIL.out (by omega)))
 obtain⟨hB1,-,hs1⟩:=zA w zc 25
 have tT:=zn w zc.toArray 25 (n:=18) (by simp[hzl])
 have k1:=hk.below hB1
 have g1:=hG.below hB1
 clear hG hk HNIL hu hq
 go_enter func10,ntmps10
 go_upto_region 0 with fail
 refine pl_b ?_
 refine pl_r 6 (.pointer (some ⟨w.heap.size,0,none⟩)) (w.alloc (.cells zc.toArray 25)) (zr rfl (hzr _)) ?_
 refine pl_a 7 ?_
 refine zb ?_
 obtain⟨W1,hW1⟩:∃W,w.alloc (.cells zc.toArray 25)=W:=⟨_,rfl⟩
 rw[hW1]at hB1 hs1 tT k1 g1 ⊢
 clear hW1 hzr
 go_upto_region 1 with fail
 by_cases hL0:L=0
 ·subst hL0
  refine pl_b ?_
  refine pl_a 11 ?_
  refine pl_c 12 ?_
  refine(Qs.zbl p ds W1 k1).mono ?_
  rintro _ w2 ⟨hv,hw2⟩
  obtain rfl:=hw2.symm
  rw[hL]at hv
  subst hv
  refine⟨_,rfl,?_⟩
  simp only[nz]
  refine pl_v 13 (.bool true) (by go_simp<;>(try simp[*])) ?_
  refine pl_a 10 ?_
  refine zb ?_
  have hr:G=(evZ,1):=by rw[←hG0.out];unfold sealO;rw[HN.out rfl,if_neg (by show ¬(1:Int)=0;decide)]
  clear hG0 HN cS0
  go_upto_region 2 with fail
  refine pl_b ?_
  refine pl_v 14 (.agg zc.toArray) (zT (parts:=[]) rfl rfl (hb0 _)) ?_
  refine pl_s (W1.setCells w.heap.size 0 zc) (zo (cs:=zc.toArray) rfl rfl rfl (by simpa [hzl]using tT) (by simpa using hiz) (zp hz1)) ?_
  refine pl_a 7 ?_
  refine zb ?_
  have hrs:=run_loadVar_mid (P:=prog) (W1.setCells w.heap.size 0 zc) w.heap.size 0 25 zc _ (World.rangeAt_setCells_same W1 w.heap.size 0 zc (by rw[hzl];exact tT)) underlying25 rfl hiz
  have HF:Hid (Ending.returned (.tuple #[.agg zc.toArray,.int .i64 1])=Ending.returned (.tuple #[.agg G.1.cells.toArray,.int .i64 G.2])∧Below w.heap.size w (W1.setCells w.heap.size 0 zc)):=hide ⟨by rw[hr,←hzc.out],zi (Nat.le_refl _) _ _ _ hB1⟩
  clear tT hB1 hr
  go_wp2_with fail
  refine bodyPost_ret (zaT rfl _ _ _ rfl hrs) rfl ?_
  exact HF.out
 ·clear HN
  refine pl_b ?_
  refine pl_a 11 ?_
  refine pl_c 12 ?_
  refine(Qs.zbl p ds W1 k1).mono ?_
  rintro _ w2 ⟨hv,hw2⟩
  obtain rfl:=hw2.symm
  rw[hL]at hv
  subst hv
  refine⟨_,rfl,?_⟩
  simp only[nz]
  refine pl_v 13 (.bool false) (by go_simp<;>(try simp[*])) ?_
  refine pl_a 10 ?_
  refine zb ?_
  go_upto_region 3 with fail
  refine pl_b ?_
  refine pl_a 16 ?_
  refine pl_v 17 (.int .i64 (z:Int)) (by go_simp<;>(try simp[hz])) ?_
  refine pl_v 18 (.bool false) (by go_simp<;>(try simp[*])) ?_
  refine pl_a 15 ?_
  refine zb ?_
  have cS:=cS0 W1 g1 k1
  clear cS0 hL0 hz
  go_upto_region 5 with fail
  refine pl_b ?_
  refine pl_a 21 ?_
  refine pl_a 22 ?_
  refine pl_a 23 ?_
  refine pl_c 24 ?_
  refine(cS).mono ?_
  rintro _ w2 ⟨rfl,hb2⟩
  refine⟨_,rfl,?_⟩
  simp only[nz]
  refine pl_a 20 ?_
  refine pl_a 25 ?_
  refine pl_a 26 ?_
  refine pl_r 8 (.pointer (some ⟨w2.heap.size,0,none⟩)) (w2.alloc (.cells tz.toArray 23)) (zr rfl (htz _)) ?_
  refine pl_s ((w2.alloc (.cells tz.toArray 23)).setCells w2.heap.size 0 u) (zo (cs:=u.toArray) rfl rfl rfl (zn _ _ _ (by simp[htl,htl2])) (by simpa using it16) (zp ht1')) ?_
  refine pl_a 9 ?_
  refine zb ?_
  obtain⟨rT,hF,hF3,-⟩:=zq w2 tz.toArray 23 u (by simp[htl,htl2])
  have B2:=hB1.trans (hb2.mono hB1.size)
  have tT:=zg (zg tT hb2 hs1) hF (Nat.lt_of_lt_of_le hs1 hb2.size)
  have B3:=B2.trans (hF.mono B2.size)
  obtain⟨D,hD⟩:∃D,w2.heap.size=D:=⟨_,rfl⟩
  rw[hD]at rT B3 tT
  simp only[hD]
  obtain⟨w3,hw3⟩:∃W,(w2.alloc (.cells tz.toArray 23)).setCells D 0 u=W:=⟨_,rfl⟩
  rw[hw3]at rT B3 tT ⊢
  clear hw3 hD hF hF3 hb2 B2 cS k1 g1 hB1 hs1
  go_upto_region 6 with fail
  by_cases he:er=0
  ·subst he
   have hr:G=(⟨n,sb,tg⟩,0):=by rw[←hG0.out];unfold sealO;rw[if_pos rfl]
   clear hG0
   refine pl_b ?_
   refine pl_a 27 ?_
   refine pl_v 28 (.bool false) (by go_simp<;>(try simp[*])) ?_
   refine zb ?_
   go_upto_region 8 with fail
   refine pl_b ?_
   refine pl_a 31 ?_
   refine pl_a 32 ?_
   refine pl_v 33 (.agg u.toArray) (zm rfl rfl rT underlying23 rfl it16) ?_
   refine pl_v 34 (.agg q.toArray) (zT (parts:=[(0,.tmp 31),(1,.tmp 32),(2,.tmp 33)]) (vs:=[(0,.int .i64 n),(1,.string sb),(2,.agg u.toArray)]) rfl (by first|with_reducible rfl|rfl|simp[Act.eval]) (hbe _)) ?_
   refine pl_s (w3.setCells w.heap.size 0 q) (zo (cs:=q.toArray) rfl rfl rfl (by simpa [hql]using tT) (by simpa using hiq) (zp hq1)) ?_
   refine pl_a 7 ?_
   refine zb ?_
   have hrs:=run_loadVar_mid (P:=prog) (w3.setCells w.heap.size 0 q) w.heap.size 0 25 q _ (World.rangeAt_setCells_same w3 w.heap.size 0 q (by rw[hql];exact tT)) underlying25 rfl hiq
   have HF:Hid (Ending.returned (.tuple #[.agg q.toArray,.int .i64 0])=Ending.returned (.tuple #[.agg G.1.cells.toArray,.int .i64 G.2])∧Below w.heap.size w (w3.setCells w.heap.size 0 q)):=hide ⟨by rw[hr,←hqe.out],zi (Nat.le_refl _) _ _ _ B3⟩
   clear tT B3 hr
   go_wp2_with fail
   refine bodyPost_ret (zaT rfl _ _ _ rfl hrs) rfl ?_
   exact HF.out
  ·have hfb:(er !=0)=true:=by simpa using he
   have hr:G=(evZ,er):=by rw[←hG0.out];unfold sealO;rw[if_neg he]
   clear hG0
   refine pl_b ?_
   refine pl_a 27 ?_
   refine pl_v 28 (.bool true) (by go_simp<;>(try simp[*])) ?_
   refine zb ?_
   go_upto_region 7 with fail
   refine pl_b ?_
   refine pl_v 29 (.agg zc.toArray) (zT (parts:=[]) rfl rfl (hb0 _)) ?_
   refine pl_a 30 ?_
   refine pl_s (w3.setCells w.heap.size 0 zc) (zo (cs:=zc.toArray) rfl rfl rfl (by simpa [hzl]using tT) (by simpa using hiz) (zp hz1)) ?_
   refine pl_a 7 ?_
   refine zb ?_
   have hrs:=run_loadVar_mid (P:=prog) (w3.setCells w.heap.size 0 zc) w.heap.size 0 25 zc _ (World.rangeAt_setCells_same w3 w.heap.size 0 zc (by rw[hzl];exact tT)) underlying25 rfl hiz
   have HF:Hid (Ending.returned (.tuple #[.agg zc.toArray,.int .i64 er])=Ending.returned (.tuple #[.agg G.1.cells.toArray,.int .i64 G.2])∧Below w.heap.size w (w3.setCells w.heap.size 0 zc)):=hide ⟨by rw[hr,←hzc.out],zi (Nat.le_refl _) _ _ _ B3⟩
   clear tT B3 hr
   go_wp2_with fail
   refine bodyPost_ret (zaT rfl _ _ _ rfl hrs) rfl ?_
   exact HF.out
end Go.Proofs.YtcbpbkefggekmaaGreatDoor
