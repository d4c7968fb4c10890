/- EnvelopeClaims: which tags any body has in it is as the document says; without any condition (the card ties the tables starts and roots of package digest) -/
import Derived.Test.YtcbpbkefggekmaaGreatDoorJE0
import Derived.Test.YtcbpbkefggekmaaGreatDoorJE15
import Derived.Test.YtcbpbkefggekmaaGreatDoorJE11
import Derived.Test.YtcbpbkefggekmaaGreatDoorJE10
import Derived.Test.YtcbpbkefggekmaaGreatDoorJE2
import Derived.Test.YtcbpbkefggekmaaGreatDoorJE1
import Derived.Test.YtcbpbkefggekmaaGreatDoorRows
import Derived.Test.YtcbpbkefggekmaaGreatDoorCards
import Derived.Test.YtcbpbkefggekmaaGreatDoorTie
import Derived.ProofKit
import Derived.OpenShut
import Derived.ShutString
import Derived.ChangeOld
import Derived.LaidMore
import Derived.Stop.Joined
import Derived.Lib.LaidTab
import Derived.Below
set_option maxHeartbeats 4000000
set_option maxRecDepth 100000
open Go.Proofs.Tryz
namespace Go.Proofs.YtcbpbkefggekmaaGreatDoor
open Go.RowKit
open Sha Tal
set_option linter.unusedVariables false
set_option linter.unusedSimpArgs false
def ClaimsA (w:World) (cs:List Ev) (en:Ending) (w':World):Prop:=∃x:Sl Ev,en=.returned x.val∧x.xs=cs∧x.At EvE w'∧Below w.heap.size w w'
theorem zbG (w w':World) (h:Below w.heap.size w w'):ClaimsA w [] (.returned (.slice none 0 0)) w':=⟨⟨none,0,[]⟩,rfl,rfl,RowsAt.none,h⟩
theorem ziG {w:World} {O:Nat} {v:Value} {cs:List Ev} (h:OutC w O v cs) (hl:cs.length≤1000000000):∃x:Sl Ev,v=x.val∧x.xs=cs∧x.At EvE w:=by
 obtain⟨x,h1,h2,h3,-⟩:=za3 (E:=EvE) h.own h.ok (by unfold maxLen;omega)
 exact⟨x,h1,h2,h3⟩
theorem ziH {w:World}:OutC (w.alloc (.cells #[.slice none 0 0] 64)) w.heap.size (.slice none 0 0) []:=
 ⟨by simp,by have:=zy w #[.slice none 0 0] 64 0 _ rfl;rwa [Nat.zero_add]at this,zm w #[.slice none 0 0] 64 (n:=1) rfl,World.ownsRow_nil _ _ _ _,fun _ h=>absurd h List.not_mem_nil⟩
theorem zeroMg (w:World):(zeroValue 52).run prog w=.ok (.agg Mg.none.ms.cells.toArray) w:=by kernel_rfl
theorem zeroCls (w:World):(zeroValue 64).run prog w=.ok (.slice none 0 0) w:=by kernel_rfl
theorem zeroEv18 (w:World):(zeroValue 25).run prog w=.ok (.agg ([Value.int .i64 0]++([Value.string ⟨#[]⟩]++v8 (List.replicate 16 0))).toArray) w:=zeroEvE w
theorem zfZ (N:Int) (sb:ByteArray) (w:World) (hs:sb.size≤40000):Calls prog 19 #[.int .i64 N,.string sb] w fun en w'=>ClaimsA w (claimsC N sb) en w':=by
 obtain⟨zc,hzl,hzr⟩:∃z:List Value,z.length=119∧(∀w:World,(zeroValue 52).run prog w=.ok (.agg z.toArray) w):=⟨_,Mg.none_ok.ms.len,zeroMg⟩
 obtain⟨z18,hyl,hyr⟩:∃z:List Value,z.length=18∧(∀w:World,(zeroValue 25).run prog w=.ok (.agg z.toArray) w):=⟨_,rfl,zeroEv18⟩
 have ca:=fun O w0 vk ds e he h0 hl=>zcF O vk ds e w0 h0 he hl
 have cD:=fun w0=>zfV sb hs w0
 have cE:=fun(e:Ev) (h:e.s.size≤40000) w0=>zfV e.s h w0
 have hfd:=zbY (sb:=sb)
 have HCL:claimsC N sb=if N<0∨64<N then[]else if(decS (strL sb)).2≠0 then[]else ownC N (decS (strL sb)).1++(decS (strL sb)).1.ne.flatMap (newC N):=rfl
 obtain⟨R,hR⟩:∃R,Hid (claimsC N sb=R):=⟨_,hide rfl⟩
 rw[hR.out]at HCL ⊢
 generalize decS (strL sb)=pp at cD hfd HCL
 obtain⟨pm,pe⟩:=pp
 simp only at cD hfd HCL
 have HC0:=hide HCL
 clear HCL hR
 go_enter func19,ntmps19
 go_upto_region 1 with fail
 by_cases n0:N<0
 ·have HE:=hide (zbG w w (Below.refl _ _))
  have hr:R=[]:=by rw[HC0.out,if_pos (.inl n0)]
  subst hr
  try simp only[Act.put]
  refine zb ?_
  refine pl_t 13 (?_) (by rfl) ?_ rfl ?_
  rotate_left
  ·go_simp
   try with_reducible rfl
  simp only[nz]
  refine pl_t 14 (.bool true) (by rfl) (by go_simp<;>(try simp[*])) rfl ?_
  simp only[nz]
  refine pl_t 15 (?_) (by rfl) ?_ rfl ?_
  rotate_left
  ·go_simp
   try with_reducible rfl
  simp only[nz]
  refine zL (d:=some 16) (by rfl) rfl ?_
  simp only[nz]
  refine zL (d:=some 17) (by rfl) rfl ?_
  simp only[nz]
  refine pl_t 18 (?_) (by rfl) ?_ rfl ?_
  rotate_left
  ·go_simp
   try with_reducible rfl
  simp only[nz]
  refine za ?_
  clear cD cE ca hfd n0 HC0
  go_wp2_with fail
  go_ret
  exact HE.out
 by_cases n1:64<N
 ·have n1':(64:Int)<N:=n1
  have HE:=hide (zbG w w (Below.refl _ _))
  have hr:R=[]:=by rw[HC0.out,if_pos (.inr n1)]
  subst hr
  try simp only[Act.put]
  refine zb ?_
  refine pl_t 13 (?_) (by rfl) ?_ rfl ?_
  rotate_left
  ·go_simp
   try with_reducible rfl
  simp only[nz]
  refine pl_t 14 (.bool false) (by rfl) (by go_simp<;>(try simp[*])) rfl ?_
  simp only[nz]
  refine pl_t 15 (?_) (by rfl) ?_ rfl ?_
  rotate_left
  ·go_simp
   try with_reducible rfl
  simp only[nz]
  refine pl_t 16 (?_) (by rfl) ?_ rfl ?_
  rotate_left
  ·go_simp
   try with_reducible rfl
  simp only[nz]
  refine pl_t 17 (.bool true) (by rfl) (by go_simp<;>(try simp[*])) rfl ?_
  simp only[nz]
  refine pl_t 18 (?_) (by rfl) ?_ rfl ?_
  rotate_left
  ·go_simp
   try with_reducible rfl
  simp only[nz]
  refine za ?_
  clear cD cE ca hfd n0 n1 n1' HC0
  go_wp2_with fail
  go_ret
  exact HE.out
 have HC0:Hid (R=if pe≠0 then[]else ownC N pm++pm.ne.flatMap (newC N)):=hide (by rw[HC0.out,if_neg (by omega)])
 try simp only[Act.put]
 refine zb ?_
 refine pl_t 13 (?_) (by rfl) ?_ rfl ?_
 rotate_left
 ·go_simp
  try with_reducible rfl
 simp only[nz]
 refine pl_t 14 (.bool false) (by rfl) (by go_simp<;>(try simp[*])) rfl ?_
 simp only[nz]
 refine pl_t 15 (?_) (by rfl) ?_ rfl ?_
 rotate_left
 ·go_simp
  try with_reducible rfl
 simp only[nz]
 refine pl_t 16 (?_) (by rfl) ?_ rfl ?_
 rotate_left
 ·go_simp
  try with_reducible rfl
 simp only[nz]
 refine pl_t 17 (.bool false) (by rfl) (by go_simp<;>(try simp[*])) rfl ?_
 simp only[nz]
 refine pl_t 18 (?_) (by rfl) ?_ rfl ?_
 rotate_left
 ·go_simp
  try with_reducible rfl
 simp only[nz]
 refine za ?_
 clear n0 n1
 go_upto_region 3 with fail
 try simp only[Act.put]
 refine zb ?_
 refine pl_t 20 (?_) (by rfl) ?_ rfl ?_
 rotate_left
 ·go_simp
  try with_reducible rfl
 simp only[nz]
 refine ze (d:=some 21) (by rfl) (by go_simp;first|done|exact⟨rfl,rfl⟩|with_reducible rfl) rfl ?_
 refine(cD w).mono ?_
 rintro _ w1 ⟨m,rfl,mp,mo,ma,mb,hb1⟩
 refine⟨_,rfl,?_⟩
 simp only[nz]
 have hml:m.ms.cells.length=119:=mo.ms.len
 have hm1:=mo.ms.one
 have him:(prog.info? 52).map (·.size)=some m.ms.cells.length:=by rw[hml];exact iszM
 obtain⟨q,hq⟩:∃q,Hid (m.ms.cells=q):=⟨_,hide rfl⟩
 rw[hq.out]at hml hm1 him
 simp only[hq.out]
 refine pl_t 19 (?_) (by rfl) ?_ rfl ?_
 rotate_left
 ·go_simp
  try with_reducible rfl
 simp only[nz]
 refine pl_t 22 (?_) (by rfl) ?_ rfl ?_
 rotate_left
 ·go_simp
  try with_reducible rfl
 simp only[nz]
 refine pl_t 23 (?_) (by rfl) ?_ rfl ?_
 rotate_left
 ·go_simp
  try with_reducible rfl
 simp only[nz]
 refine zj (d:=some 5) (v:=.pointer (some ⟨w1.heap.size,0,none⟩)) (w':=w1.alloc (.cells zc.toArray 52)) (by rfl) (zr rfl (hzr _)) rfl ?_
 simp only[nz]
 refine zf (w':=(w1.alloc (.cells zc.toArray 52)).setCells w1.heap.size 0 q) (by rfl) (zn (cs:=q.toArray) rfl rfl rfl (zm _ _ _ (by simp[hzl,hml])) (by simpa using him) (zo hm1)) rfl ?_
 refine pl_t 6 (?_) (by rfl) ?_ rfl ?_
 rotate_left
 ·go_simp
  try with_reducible rfl
 simp only[nz]
 refine za ?_
 obtain⟨r2,hF,hF3,-⟩:=zA w1 zc.toArray 52 q (by simp[hzl,hml])
 have ma2:=ma.below hF
 have HB2:=hide (hb1.trans (hF.mono hb1.size))
 have mlt:=(zi4 ma).mono (P':=fun b=>b<w1.heap.size) (fun b h=>h)
 obtain⟨A,hA⟩:∃A,w1.heap.size=A:=⟨_,rfl⟩
 rw[hA]at r2 hF3 mlt HB2
 simp only[hA]at ma2 ⊢
 obtain⟨w2,hw2⟩:∃W,(w1.alloc (.cells zc.toArray 52)).setCells A 0 q=W:=⟨_,rfl⟩
 rw[hw2]at r2 hF3 HB2 ma2 ⊢
 have sA:A<w2.heap.size:=by omega
 clear hw2 hA hF hF3 hb1 ma mb cD
 by_cases e0:pe=0
 rotate_left
 ·have hr:R=[]:=by rw[HC0.out,if_pos e0]
  subst hr
  have HE:=hide (zbG w w2 HB2.out)
  have e0':(pe !=0)=true:=by simp[e0]
  clear r2 ma2 mlt HB2 cE ca hfd
  go_wp2_with fail
  go_ret
  exact HE.out
 subst e0
 have hfm:=hfd rfl
 have HR:Hid (R=ownC N m.pure++m.ne.xs.flatMap (newC N)):=hide (by rw[HC0.out,if_neg (by decide),←mp];rfl)
 rw[←mp]at hfm
 have HF:=hide hfm
 have HS:=hide (zc5 hfm)
 clear hfd hfm HC0
 have HMO:=hide mo
 have HMS:=hide mp
 have hne:w2.cell? ⟨A,47,none⟩=some m.ne.val:=by
  have:=(mo.ms.at (w:=w2) (b:=A) (by rw[hq.out];exact r2)).ne
  exact this
 clear mp mo
 go_upto_region 6 with fail
 try simp only[Act.put]
 refine zb ?_
 refine zj (d:=some 7) (v:=.pointer (some ⟨w2.heap.size,0,none⟩)) (w':=w2.alloc (.cells #[.slice none 0 0] 64)) (by rfl) (zr (z:=.slice none 0 0) rfl (zeroCls _)) rfl ?_
 simp only[nz]
 refine za ?_
 have ho3:OutC (w2.alloc (.cells #[.slice none 0 0] 64)) w2.heap.size (.slice none 0 0) []:=ziH
 have B3:Below w2.heap.size w2 (w2.alloc (.cells #[.slice none 0 0] 64)):=(Below.refl _ _).alloc (Nat.le_refl _) _
 have ma3:=ma2.below B3
 have r3:=zd r2 B3 sA
 have hne3:=(B3.cell (p:=⟨A,47,none⟩) sA).trans hne
 have HB3:=hide (HB2.out.trans (B3.mono HB2.out.size))
 have sO:A<w2.heap.size:=sA
 have hOw:w.heap.size≤w2.heap.size:=HB2.out.size
 obtain⟨O,hO⟩:∃O,w2.heap.size=O:=⟨_,rfl⟩
 rw[hO]at ho3 sO hOw
 simp only[hO]
 obtain⟨W,hW⟩:∃W,w2.alloc (.cells #[.slice none 0 0] 64)=W:=⟨_,rfl⟩
 rw[hW]at ho3 ma3 r3 hne3 HB3 B3 ⊢
 have sA3:A<W.heap.size:=Nat.lt_of_lt_of_le sA B3.size
 have mb3:m.Bk (Clr O (.slice none 0 0)):=mlt.mono (fun b hb=>⟨by omega,fun e=>by cases e⟩)
 have hcA:Clr O (.slice none 0 0) A:=⟨by omega,fun e=>by cases e⟩
 have cO:=ze6 N m O (.slice none 0 0) [] W ho3 HMO.out ma3 mb3 (by have:=HF.out.le N;simp only[List.length_nil];omega) HS.out
 rw[hq.out]at cO
 unfold addV at cO
 clear hW hO B3 hne r2 ma2 mlt HB2 sA
 go_upto_region 8 with fail
 try simp only[Act.put]
 refine zb ?_
 refine pl_t 27 (?_) (by rfl) ?_ rfl ?_
 rotate_left
 ·go_simp
  try with_reducible rfl
 simp only[nz]
 refine pl_t 28 (.agg q.toArray) (by rfl) (zp rfl rfl r3 underlying52 rfl him) rfl ?_
 simp only[nz]
 refine pl_t 29 (?_) (by rfl) ?_ rfl ?_
 rotate_left
 ·go_simp
  try with_reducible rfl
 simp only[nz]
 refine ze (d:=some 30) (by rfl) (by go_simp;first|done|exact⟨rfl,rfl⟩|with_reducible rfl) rfl ?_
 refine(cO).mono ?_
 rintro _ w4 ⟨rfl,v4,o4,g4⟩
 refine⟨_,rfl,?_⟩
 simp only[nz]
 refine za ?_
 have HC4:CI W w4 O (.slice none 0 0) v4 ([]++ownC N m.pure):=⟨o4,g4⟩
 have hne4:=(zO (j:=47) (g4.keep sA3 hcA).1).1.trans hne3
 obtain⟨C4,hC4⟩:∃C,Hid ([]++ownC N m.pure=C):=⟨_,hide rfl⟩
 rw[hC4.out]at HC4
 have HC4l:Hid (C4.length≤10000):=hide (by rw[←hC4.out,List.nil_append];exact HF.out.le N)
 obtain⟨⟨xa,xc,xs⟩,hxe⟩:∃x,m.ne=x:=⟨_,rfl⟩
 obtain⟨n,hxn⟩:∃n,xs.length=n:=⟨_,rfl⟩
 have hval:(m.ne).val=.slice xa n xc:=by rw[hxe];unfold Sl.val;rw[←hxn]
 rw[hval]at hne4
 have HXX:Hid (Sl.At EvE W ⟨xa,xc,xs⟩):=hide (by have:=ma3.ne;rw[hxe]at this;exact this)
 have HCC:Hid (Sl.Bk (Sl.mk xa xc xs) (Clr O (.slice none 0 0))):=hide (by have:=mb3.2.2.2.1;rw[hxe]at this;exact this)
 have hpx:m.pure.ne=xs:=by show m.ne.xs=xs;rw[hxe]
 have HNE:Hid (∀e∈xs,e.s.size≤40000):=hide (fun e he=>Nat.le_trans (HF.out.ne e (by rw[hpx];exact he)) hs)
 have HNL:Hid (n≤64):=hide (by have:=HF.out.nl;rw[hpx,hxn]at this;exact this)
 have HR2:Hid (R=C4++xs.flatMap (newC N)):=hide (by rw[HR.out,hxe,←hC4.out,List.nil_append])
 have HN:=hide hxn
 clear hval hxe hxn hpx o4 g4 r3 ma3 mb3 hne3 sA3 hcA ho3 HF HS HR HMO him hml hm1 hC4
 go_upto_region 9 with fail
 try simp only[Act.put]
 refine zb ?_
 refine pl_t 31 (?_) (by rfl) ?_ rfl ?_
 rotate_left
 ·go_simp
  try with_reducible rfl
 simp only[nz]
 refine pl_t 32 (.slice xa n xc) (by rfl) (zg rfl rfl hne4 underlying47 rfl) rfl ?_
 simp only[nz]
 refine pl_t 33 (?_) (by rfl) ?_ rfl ?_
 rotate_left
 ·go_simp
  try with_reducible rfl
 simp only[nz]
 refine pl_t 34 (?_) (by rfl) ?_ rfl ?_
 rotate_left
 ·go_simp
  try with_reducible rfl
 simp only[nz]
 refine za ?_
 have HC5:Hid (CI W w4 O (.slice none 0 0) v4 (C4++(xs.take 0).flatMap (newC N))):=hide (by simpa using HC4)
 clear HC4 hne4 HMS hq cO
 go_wp2_with fail
 go_loopw [34] (fun iv wr=>∃(k:Nat) (vk:Value),k≤n∧iv=.int .i64 (k:Int)∧Hid (CI W wr O (.slice none 0 0) vk (C4++(xs.take k).flatMap (newC N)))) (fun iv _=>n - (intOf iv).toNat)
 case atStart=>exact⟨0,v4,by omega,rfl,HC5⟩
 case round=>
  clear HC5
  obtain⟨k,vk,hk,rfl,HK⟩:=hrel
  by_cases hlt:k<n
  ·have k1:(k:Int)<n:=by omega
   have hn9:n≤64:=HNL.out
   have hkx:k<xs.length:=by rw[HN.out];exact hlt
   obtain⟨b,off,hab0,hbw,hre0⟩:=(HXX.out.grow HK.out.grow HCC.out).elem k hkx
   have hab:xa=some ⟨b,off,none⟩:=hab0
   have hre:wr.rangeAt b (off+k*18) (EvE.f xs[k]):=hre0
   clear hab0 hre0
   have okx:Ev.ok xs[k]:=HXX.out.2.1 _ (List.getElem_mem hkx)
   have hsz:=HNE.out _ (List.getElem_mem hkx)
   have HT:Hid ((xs.take (k+1)).flatMap (newC N)=(xs.take k).flatMap (newC N)++newC N xs[k]):=hide (zfI hkx)
   have HL:(C4++(xs.take k).flatMap (newC N)).length≤1000000000:=by
    have h1:=zbW N (xs.take k)
    have h2:=HC4l.out
    rw[List.length_take]at h1
    rw[List.length_append]
    omega
   have HL2:Hid ((C4++(xs.take k).flatMap (newC N)).length≤700000):=hide (by
    have h1:=zbW N (xs.take k)
    have h2:=HC4l.out
    rw[List.length_take]at h1
    rw[List.length_append]
    omega)
   obtain⟨g,hg⟩:∃g,xs[k]=g:=⟨_,rfl⟩
   rw[hg]at hre okx hsz HT
   clear hg
   have ca:=fun w0 vk ds h0 hl=>ca O w0 vk ds g okx h0 hl
   have cE:=fun w0=>cE g hsz w0
   have hgn:newC N g=g::(if(decS (strL g.s)).2=0 then ownC N (decS (strL g.s)).1 else[]):=rfl
   have hfg:=zbY (sb:=g.s)
   have hut:EvE.f g=.int .i64 g.n::.string g.s::v8 g.t:=rfl
   have it16:(prog.info? 23).map (·.size)=some (v8 g.t).length:=by rw[v8_length,okx.tl];exact iszT
   have iu:(prog.info? 25).map (·.size)=some (EvE.f g).length:=by rw[EvE.len g okx];kernel_rfl
   have hul:(EvE.f g).length=18:=EvE.len g okx
   have hu1:=EvE.one g
   obtain⟨id,hid⟩:∃i,g.n=i:=⟨_,rfl⟩
   obtain⟨bd,hbd⟩:∃i,g.s=i:=⟨_,rfl⟩
   obtain⟨tg,htg⟩:∃t,g.t=t:=⟨_,rfl⟩
   rw[hid,hbd,htg]at hut
   rw[htg]at it16
   rw[hbd]at hfg hgn
   simp only[hid,hbd,htg]at ca cE
   clear okx htg hid hbd hsz
   obtain⟨u,hu⟩:∃u,Hid (EvE.f g=u):=⟨_,hide rfl⟩
   rw[hu.out]at hre iu hul hu1 hut
   clear hu
   have HUT:=hide hut
   clear hut
   generalize decS (strL bd)=p2 at cE hfg hgn
   obtain⟨pm2,pe2⟩:=p2
   simp only at cE hfg hgn
   have HGN:=hide hgn
   clear hgn
   obtain rfl:=hab
   go_upto_region 11 with fail
   obtain⟨r5,hF,hF3,-⟩:=zA wr z18.toArray 25 u (by simp[hyl,hul])
   try simp only[Act.put]
   refine zb ?_
   refine pl_t 36 (.pointer (some ⟨b,off+k*18,none⟩)) (by rfl) (by go_simp<;>(try simp[*])) rfl ?_
   simp only[nz]
   refine pl_t 37 (.agg u.toArray) (by rfl) (zp rfl rfl hre underlying25 rfl iu) rfl ?_
   simp only[nz]
   refine zj (d:=some 10) (v:=.pointer (some ⟨wr.heap.size,0,none⟩)) (w':=wr.alloc (.cells z18.toArray 25)) (by rfl) (zr rfl (hyr _)) rfl ?_
   simp only[nz]
   refine zf (w':=(wr.alloc (.cells z18.toArray 25)).setCells wr.heap.size 0 u) (by rfl) (zn (cs:=u.toArray) rfl rfl rfl (zm _ _ _ (by simp[hyl,hul])) (by simpa using iu) (zo hu1)) rfl ?_
   refine za ?_
   have HC:=HK.out.later hF
   have HX:=zcE HK.out (Nat.le_refl _)
   clear HK
   obtain⟨X,hX⟩:∃X,wr.heap.size=X:=⟨_,rfl⟩
   simp only[hX]at r5 HC HX hF3 ⊢
   obtain⟨w5,hw5⟩:∃W,(wr.alloc (.cells z18.toArray 25)).setCells X 0 u=W:=⟨_,rfl⟩
   rw[hw5]at r5 HC hF3 ⊢
   have sX:X<w5.heap.size:=by omega
   clear hw5 hX hF hF3 hre
   have c0:w5.cell? ⟨X,0,none⟩=some (.int .i64 id):=by have:=r5 0 _ (by rw[HUT.out];rfl);rwa [Nat.zero_add]at this
   have c1:w5.cell? ⟨X,1,none⟩=some (.string bd):=by have:=r5 1 _ (by rw[HUT.out];rfl);rwa [Nat.zero_add]at this
   have ct:w5.rangeAt X 2 (v8 tg):=fun j y hy=>by
    have:=r5 (j+2) y (by rw[HUT.out];exact hy)
    rw[show 0+(j+2)=2+j by omega]at this
    exact this
   clear r5
   go_upto_region 12 with fail
   try simp only[Act.put]
   refine zb ?_
   refine pl_t 38 (?_) (by rfl) ?_ rfl ?_
   rotate_left
   ·go_simp
    try with_reducible rfl
   simp only[nz]
   refine pl_t 39 (?_) (by rfl) ?_ rfl ?_
   rotate_left
   ·go_simp
    try with_reducible rfl
   simp only[nz]
   refine pl_t 40 (.int .i64 id) (by rfl) (zg rfl rfl c0 underlying3 rfl) rfl ?_
   simp only[nz]
   refine pl_t 41 (?_) (by rfl) ?_ rfl ?_
   rotate_left
   ·go_simp
    try with_reducible rfl
   simp only[nz]
   refine pl_t 42 (.string bd) (by rfl) (zg rfl rfl c1 underlying9 rfl) rfl ?_
   simp only[nz]
   refine pl_t 43 (?_) (by rfl) ?_ rfl ?_
   rotate_left
   ·go_simp
    try with_reducible rfl
   simp only[nz]
   refine pl_t 44 (.agg (v8 tg).toArray) (by rfl) (zp rfl rfl ct underlying23 rfl it16) rfl ?_
   simp only[nz]
   refine ze (d:=some 45) (by rfl) (by go_simp;first|done|exact⟨rfl,rfl⟩|with_reducible rfl) rfl ?_
   refine(ca w5 vk _ HC.out HL).mono ?_
   rintro _ w6 ⟨rfl,v6,o6,g6⟩
   refine⟨_,rfl,?_⟩
   simp only[nz]
   refine za ?_
   have HC6:=HC.add o6 g6
   have c1:=(zO (j:=1) (g6.keep sX HX).1).1.trans c1
   clear HC o6 g6 c0 ct ca HX sX
   go_upto_region 13 with fail
   try simp only[Act.put]
   refine zb ?_
   refine pl_t 47 (?_) (by rfl) ?_ rfl ?_
   rotate_left
   ·go_simp
    try with_reducible rfl
   simp only[nz]
   refine pl_t 48 (.string bd) (by rfl) (zg rfl rfl c1 underlying9 rfl) rfl ?_
   simp only[nz]
   refine ze (d:=some 49) (by rfl) (by go_simp;first|done|exact⟨rfl,rfl⟩|with_reducible rfl) rfl ?_
   refine(cE w6).mono ?_
   rintro _ w7 ⟨m2,rfl,mp2,mo2,mx2,mb2,hb7⟩
   refine⟨_,rfl,?_⟩
   simp only[nz]
   have hml2:m2.ms.cells.length=119:=mo2.ms.len
   have hm12:=mo2.ms.one
   have him2:(prog.info? 52).map (·.size)=some m2.ms.cells.length:=by rw[hml2];exact iszM
   obtain⟨q2,hq2⟩:∃q,Hid (m2.ms.cells=q):=⟨_,hide rfl⟩
   rw[hq2.out]at hml2 hm12 him2
   simp only[hq2.out]
   refine pl_t 46 (?_) (by rfl) ?_ rfl ?_
   rotate_left
   ·go_simp
    try with_reducible rfl
   simp only[nz]
   refine pl_t 50 (?_) (by rfl) ?_ rfl ?_
   rotate_left
   ·go_simp
    try with_reducible rfl
   simp only[nz]
   refine pl_t 51 (?_) (by rfl) ?_ rfl ?_
   rotate_left
   ·go_simp
    try with_reducible rfl
   simp only[nz]
   refine zj (d:=some 11) (v:=.pointer (some ⟨w7.heap.size,0,none⟩)) (w':=w7.alloc (.cells zc.toArray 52)) (by rfl) (zr rfl (hzr _)) rfl ?_
   simp only[nz]
   refine zf (w':=(w7.alloc (.cells zc.toArray 52)).setCells w7.heap.size 0 q2) (by rfl) (zn (cs:=q2.toArray) rfl rfl rfl (zm _ _ _ (by simp[hzl,hml2])) (by simpa using him2) (zo hm12)) rfl ?_
   refine pl_t 12 (?_) (by rfl) ?_ rfl ?_
   rotate_left
   ·go_simp
    try with_reducible rfl
   simp only[nz]
   refine za ?_
   obtain⟨r8,hF,hF3,-⟩:=zA w7 zc.toArray 52 q2 (by simp[hzl,hml2])
   have HC8:=(HC6.later hb7).later hF
   have mx8:=mx2.below hF
   have mb8:m2.Bk (Clr O v6):=mb2.mono (fun b hb=>zcE HC6 hb)
   obtain⟨A2,hA2⟩:∃A,w7.heap.size=A:=⟨_,rfl⟩
   simp only[hA2]at r8 hF3 HC8 mx8 ⊢
   obtain⟨w8,hw8⟩:∃W,(w7.alloc (.cells zc.toArray 52)).setCells A2 0 q2=W:=⟨_,rfl⟩
   rw[hw8]at r8 hF3 HC8 mx8 ⊢
   have sA2:A2<w8.heap.size:=by omega
   clear hw8 hA2 hF hF3 hb7 mx2 mb2 HC6 cE c1
   by_cases e0:pe2=0
   ·subst e0
    have hf2:=hfg rfl
    rw[←mp2]at hf2
    have HS2:=hide (zc5 hf2)
    have HCL:Hid ((C4++(xs.take k).flatMap (newC N)++[g]).length+(ownC N m2.pure).length≤1000000000):=hide (by
     have h1:=hf2.le N
     have h2:=HL2.out
     rw[List.length_append,List.length_singleton]
     omega)
    have cO:=ze6 N m2 O v6 _ w8 HC8.out mo2 mx8 mb8 HCL.out HS2.out
    rw[hq2.out]at cO
    unfold addV at cO
    clear hf2 hfg
    go_upto_region 15 with fail
    try simp only[Act.put]
    refine zb ?_
    refine pl_t 54 (?_) (by rfl) ?_ rfl ?_
    rotate_left
    ·go_simp
     try with_reducible rfl
    simp only[nz]
    refine pl_t 55 (.agg q2.toArray) (by rfl) (zp rfl rfl r8 underlying52 rfl him2) rfl ?_
    simp only[nz]
    refine pl_t 56 (?_) (by rfl) ?_ rfl ?_
    rotate_left
    ·go_simp
     try with_reducible rfl
    simp only[nz]
    refine ze (d:=some 57) (by rfl) (by go_simp;first|done|exact⟨rfl,rfl⟩|with_reducible rfl) rfl ?_
    refine(cO).mono ?_
    rintro _ w9 ⟨rfl,v9,o9,g9⟩
    refine⟨_,rfl,?_⟩
    simp only[nz]
    refine za ?_
    have HD:Hid (CI W w9 O (.slice none 0 0) v9 (C4++(xs.take (k+1)).flatMap (newC N))):=hide (by
     rw[HT.out,HGN.out,if_pos rfl,←mp2]
     have h9:=HC8.add o9 g9
     simp only[List.append_assoc,List.singleton_append]at h9 ⊢
     exact h9)
    clear cO HC8 o9 g9 mx8 mb8 r8 sA2 HT HGN hq2 him2 hml2 hm12 mo2 HS2 HCL hzr hyr hzl hyl iu hul hu1 it16 HL
    go_wp2_with fail
    go_roundw
    case rel=>exact⟨k+1,v9,by omega,by go_num,HD⟩
    case measure=>simp[intOf];omega
   ·have e0':(pe2==0)=false:=by simp[e0]
    have HD:Hid (CI W w8 O (.slice none 0 0) v6 (C4++(xs.take (k+1)).flatMap (newC N))):=hide (by
     rw[HT.out,HGN.out,if_neg e0,←List.append_assoc]
     exact HC8)
    clear HC8 mx8 mb8 r8 sA2 HT HGN hq2 him2 hml2 hm12 mo2 hzr hyr hzl hyl iu hul hu1 it16 HL hfg mp2
    go_wp2_with fail
    go_roundw
    case rel=>exact⟨k+1,v6,by omega,by go_num,HD⟩
    case measure=>simp[intOf];omega
  ·obtain rfl:k=n:=by omega
   have c0:=HK.out.out.c0
   have HE:Hid (ClaimsA w R (.returned vk) wr):=hide (by
    have h1:=HK.out.out
    rw[List.take_of_length_le (by rw[HN.out];exact Nat.le_refl _),←HR2.out]at h1
    have hl:R.length≤1000000000:=by
     have h2:=zbW N xs
     have h3:=HC4l.out
     have h4:=HNL.out
     rw[HR2.out,List.length_append]
     rw[HN.out]at h2
     omega
    obtain⟨x,e1,e2,e3⟩:=ziG h1 hl
    refine⟨x,by rw[e1],e2,e3,?_⟩
    have g:=HK.out.grow
    have b3:=HB3.out
    exact⟨g.os.trans b3.os,g.tape.trans b3.tape,g.output.trans b3.output,Nat.le_trans b3.size g.size,fun i hi=>(g.block i (Nat.lt_of_lt_of_le hi b3.size) (by omega) (fun e=>by cases e)).trans (b3.block i hi)⟩)
   clear HK ca cE hlt
   go_wp2_with fail
   go_ret
   exact HE.out
theorem ziz {P:Program} {w:World} {B k n:Nat} {t tx e':TypeId} {v:Value} {xs:List Value} (hk:P.underlying tx=some (.slice e')) (h:w.ownsRow B t k v n xs) (h1:∀u∈xs,u.oneCell'=true):Src P k tx v n xs w:=by
 rcases h.2 with⟨rfl,h0⟩|⟨g,cap,cur,rfl,hb,hg,hn,hcm,hcs,ht⟩
 ·subst h0
  have:xs=[]:=List.eq_nil_of_length_eq_zero (by simpa using h.1)
  subst this
  exact Src.ofNil w hk 0
 ·exact Src.ofSlice w hk ⟨g,0,none⟩ n cap xs h.1 (fun j u hu=>h.cells (g:=g) rfl j u hu) h1
theorem ziP (cs:List Ev):∀u∈cs.flatMap Ev.cells,u.oneCell'=true:=fun u hu=>by
 obtain⟨x,_,hx⟩:=List.mem_flatMap.1 hu
 exact EvE.one x u hx
theorem xapps {w:World} {B B2:Nat} {v v2:Value} {cs ds:List Ev} (h:OutX w B v cs) (h2:OutX w B2 v2 ds) (hn:cs.length+ds.length≤1000000000):
  ∃v' w',(Builtin.append_ #[66,66] 66 #[v,v2]).run prog w=.ok v' w'∧OutX w' B v' (cs++ds)∧GrX w w' v v':=by
 obtain⟨i1,hi1,hiz,his,hib⟩:=zT infoXc
 have hzk:(Value.agg (infoCl0).toArray).cells.size=18:=by decide
 have hsrc:Src prog 18 66 v2 ds.length (ds.flatMap Ev.cells) w:=ziz underlying66 h2.own (ziP ds)
 obtain⟨v',w',hrun,o6,g6,gb6⟩:=zbM (P:=prog) w B 66 66 66 70 i1 _ 18 i1.bytes underlying66 hi1 hiz his rfl hzk v cs.length _ h.own _ ds.length _ hsrc (by unfold maxLen;omega) (by rw[hib];omega) h.le
 refine⟨v',w',hrun,⟨?_,fun c hc=>?_,Nat.le_trans h.le g6.size⟩,⟨g6.os,g6.tape,g6.output,⟨g6.size,fun i hi hv=>g6.block i hi (fun q=>hv q.symm)⟩,fun g hg=>(gb6 g hg).imp (fun q=>q) (fun q=>by omega)⟩⟩
 ·rw[List.flatMap_append,List.length_append]
  exact o6
 ·rcases List.mem_append.1 hc with hc|hc
  ·exact h.ok c hc
  ·exact h2.ok c hc
theorem ziE {w:World} {B:Nat} {v:Value} {cs:List Ev} (h:OutX w B v cs) (hl:cs.length≤1000000000):∃x:Sl Ev,v=x.val∧x.xs=cs∧x.At EvE w:=by
 obtain⟨x,h1,h2,h3,-⟩:=za3 (E:=EvE) h.own h.ok (by unfold maxLen;omega)
 exact⟨x,h1,h2,h3⟩
theorem zdS (N:Int) (m:Mg) (n:Nat) (w:World) (mo:m.ok) (ma:m.At w) (h:Fit m.pure n):
  Calls prog 54 #[.int .i64 N,.agg m.ms.cells.toArray] w fun en w'=>∃v',en=.returned v'∧OutX w' w.heap.size v' (ownC N m.pure)∧Below w.heap.size w w':=by
 rw[h.same N]
 exact zgz N m w mo ma (by rw[←ze4];have:=h.le N;omega) (zc5 h)
theorem zgQ (N:Int) (sb:ByteArray) (w:World) (hs:sb.size≤40000):Calls prog 20 #[.int .i64 N,.string sb] w fun en w'=>ClaimsA w (claimsC N sb) en w':=by
 obtain⟨zc,hzl,hzr⟩:∃z:List Value,z.length=119∧(∀w:World,(zeroValue 52).run prog w=.ok (.agg z.toArray) w):=⟨_,Mg.none_ok.ms.len,zeroMg⟩
 obtain⟨z18,hyl,hyr⟩:∃z:List Value,z.length=18∧(∀w:World,(zeroValue 25).run prog w=.ok (.agg z.toArray) w):=⟨_,rfl,zeroEv18⟩
 have cD:=fun w0=>zdU sb hs w0
 have cE:=fun(e:Ev) (h:e.s.size≤40000) w0=>zdU e.s h w0
 simp only[←zkp]at cD cE
 have hfd:=zbY (sb:=sb)
 have HCL:claimsC N sb=if N<0∨64<N then[]else if(decS (strL sb)).2≠0 then[]else ownC N (decS (strL sb)).1++(decS (strL sb)).1.ne.flatMap (newC N):=rfl
 obtain⟨R,hR⟩:∃R,Hid (claimsC N sb=R):=⟨_,hide rfl⟩
 rw[hR.out]at HCL ⊢
 generalize decS (strL sb)=pp at cD hfd HCL
 obtain⟨pm,pe⟩:=pp
 simp only at cD hfd HCL
 have HC0:=hide HCL
 clear HCL hR
 go_enter func20,ntmps20
 go_upto_region 1 with fail
 try simp only[Act.put]
 refine zb ?_
 refine pl_t 13 (?_) (by rfl) ?_ rfl ?_
 rotate_left
 ·go_simp
  try with_reducible rfl
 simp only[nz]
 refine ze (d:=some 14) (by rfl) (by go_simp;first|done|exact⟨rfl,rfl⟩|with_reducible rfl) rfl ?_
 refine(cD w).mono ?_
 rintro _ w1 ⟨m,rfl,mp,mo,ma,mb,hb1⟩
 refine⟨_,rfl,?_⟩
 simp only[nz]
 have hml:m.ms.cells.length=119:=mo.ms.len
 have hm1:=mo.ms.one
 have him:(prog.info? 52).map (·.size)=some m.ms.cells.length:=by rw[hml];exact iszM
 obtain⟨q,hq⟩:∃q,Hid (m.ms.cells=q):=⟨_,hide rfl⟩
 rw[hq.out]at hml hm1 him
 simp only[hq.out]
 refine pl_t 12 (?_) (by rfl) ?_ rfl ?_
 rotate_left
 ·go_simp
  try with_reducible rfl
 simp only[nz]
 refine pl_t 15 (?_) (by rfl) ?_ rfl ?_
 rotate_left
 ·go_simp
  try with_reducible rfl
 simp only[nz]
 refine pl_t 16 (?_) (by rfl) ?_ rfl ?_
 rotate_left
 ·go_simp
  try with_reducible rfl
 simp only[nz]
 refine zj (d:=some 5) (v:=.pointer (some ⟨w1.heap.size,0,none⟩)) (w':=w1.alloc (.cells zc.toArray 52)) (by rfl) (zr rfl (hzr _)) rfl ?_
 simp only[nz]
 refine zf (w':=(w1.alloc (.cells zc.toArray 52)).setCells w1.heap.size 0 q) (by rfl) (zn (cs:=q.toArray) rfl rfl rfl (zm _ _ _ (by simp[hzl,hml])) (by simpa using him) (zo hm1)) rfl ?_
 refine pl_t 6 (?_) (by rfl) ?_ rfl ?_
 rotate_left
 ·go_simp
  try with_reducible rfl
 simp only[nz]
 refine za ?_
 obtain⟨r2,hF,hF3,-⟩:=zA w1 zc.toArray 52 q (by simp[hzl,hml])
 have ma2:=ma.below hF
 have HB2:=hide (hb1.trans (hF.mono hb1.size))
 obtain⟨A,hA⟩:∃A,w1.heap.size=A:=⟨_,rfl⟩
 rw[hA]at r2 hF3 HB2
 simp only[hA]at ma2 ⊢
 obtain⟨w2,hw2⟩:∃W,(w1.alloc (.cells zc.toArray 52)).setCells A 0 q=W:=⟨_,rfl⟩
 rw[hw2]at r2 hF3 HB2 ma2 ⊢
 have sA:A<w2.heap.size:=by omega
 clear hw2 hA hF hF3 hb1 ma mb cD
 by_cases e0:pe=0
 rotate_left
 ·have hr:R=[]:=by
   rw[HC0.out]
   by_cases h:N<0∨64<N
   ·rw[if_pos h]
   ·rw[if_neg h,if_pos e0]
  subst hr
  have HE:=hide (zbG w w2 HB2.out)
  go_upto_region 2 with fail
  try simp only[Act.put]
  refine zb ?_
  refine pl_t 17 (?_) (by rfl) ?_ rfl ?_
  rotate_left
  ·go_simp
   try with_reducible rfl
  simp only[nz]
  refine pl_t 18 (.bool true) (by rfl) (by go_simp<;>(try simp[*])) rfl ?_
  simp only[nz]
  refine pl_t 19 (?_) (by rfl) ?_ rfl ?_
  rotate_left
  ·go_simp
   try with_reducible rfl
  simp only[nz]
  refine zL (d:=some 20) (by rfl) rfl ?_
  simp only[nz]
  refine zL (d:=some 21) (by rfl) rfl ?_
  simp only[nz]
  refine pl_t 22 (?_) (by rfl) ?_ rfl ?_
  rotate_left
  ·go_simp
   try with_reducible rfl
  simp only[nz]
  refine pl_t 23 (?_) (by rfl) ?_ rfl ?_
  rotate_left
  ·go_simp
   try with_reducible rfl
  simp only[nz]
  refine zL (d:=some 24) (by rfl) rfl ?_
  simp only[nz]
  refine zL (d:=some 25) (by rfl) rfl ?_
  simp only[nz]
  refine pl_t 26 (?_) (by rfl) ?_ rfl ?_
  rotate_left
  ·go_simp
   try with_reducible rfl
  simp only[nz]
  refine za ?_
  clear r2 ma2 HB2 cE hfd
  go_wp2_with fail
  go_ret
  exact HE.out
 subst e0
 by_cases n0:N<0
 ·have hr:R=[]:=by rw[HC0.out,if_pos (.inl n0)]
  subst hr
  have HE:=hide (zbG w w2 HB2.out)
  go_upto_region 2 with fail
  try simp only[Act.put]
  refine zb ?_
  refine pl_t 17 (?_) (by rfl) ?_ rfl ?_
  rotate_left
  ·go_simp
   try with_reducible rfl
  simp only[nz]
  refine pl_t 18 (.bool false) (by rfl) (by go_simp<;>(try simp[*])) rfl ?_
  simp only[nz]
  refine pl_t 19 (?_) (by rfl) ?_ rfl ?_
  rotate_left
  ·go_simp
   try with_reducible rfl
  simp only[nz]
  refine pl_t 20 (?_) (by rfl) ?_ rfl ?_
  rotate_left
  ·go_simp
   try with_reducible rfl
  simp only[nz]
  refine pl_t 21 (.bool true) (by rfl) (by go_simp<;>(try simp[*])) rfl ?_
  simp only[nz]
  refine pl_t 22 (?_) (by rfl) ?_ rfl ?_
  rotate_left
  ·go_simp
   try with_reducible rfl
  simp only[nz]
  refine pl_t 23 (?_) (by rfl) ?_ rfl ?_
  rotate_left
  ·go_simp
   try with_reducible rfl
  simp only[nz]
  refine zL (d:=some 24) (by rfl) rfl ?_
  simp only[nz]
  refine zL (d:=some 25) (by rfl) rfl ?_
  simp only[nz]
  refine pl_t 26 (?_) (by rfl) ?_ rfl ?_
  rotate_left
  ·go_simp
   try with_reducible rfl
  simp only[nz]
  refine za ?_
  clear r2 ma2 HB2 cE hfd n0 HC0
  go_wp2_with fail
  go_ret
  exact HE.out
 by_cases n1:64<N
 ·have n1':(64:Int)<N:=n1
  have hr:R=[]:=by rw[HC0.out,if_pos (.inr n1)]
  subst hr
  have HE:=hide (zbG w w2 HB2.out)
  go_upto_region 2 with fail
  try simp only[Act.put]
  refine zb ?_
  refine pl_t 17 (?_) (by rfl) ?_ rfl ?_
  rotate_left
  ·go_simp
   try with_reducible rfl
  simp only[nz]
  refine pl_t 18 (.bool false) (by rfl) (by go_simp<;>(try simp[*])) rfl ?_
  simp only[nz]
  refine pl_t 19 (?_) (by rfl) ?_ rfl ?_
  rotate_left
  ·go_simp
   try with_reducible rfl
  simp only[nz]
  refine pl_t 20 (?_) (by rfl) ?_ rfl ?_
  rotate_left
  ·go_simp
   try with_reducible rfl
  simp only[nz]
  refine pl_t 21 (.bool false) (by rfl) (by go_simp<;>(try simp[*])) rfl ?_
  simp only[nz]
  refine pl_t 22 (?_) (by rfl) ?_ rfl ?_
  rotate_left
  ·go_simp
   try with_reducible rfl
  simp only[nz]
  refine pl_t 23 (?_) (by rfl) ?_ rfl ?_
  rotate_left
  ·go_simp
   try with_reducible rfl
  simp only[nz]
  refine pl_t 24 (?_) (by rfl) ?_ rfl ?_
  rotate_left
  ·go_simp
   try with_reducible rfl
  simp only[nz]
  refine pl_t 25 (.bool true) (by rfl) (by go_simp<;>(try simp[*])) rfl ?_
  simp only[nz]
  refine pl_t 26 (?_) (by rfl) ?_ rfl ?_
  rotate_left
  ·go_simp
   try with_reducible rfl
  simp only[nz]
  refine za ?_
  clear r2 ma2 HB2 cE hfd n0 n1 n1' HC0
  go_wp2_with fail
  go_ret
  exact HE.out
 have hfm:=hfd rfl
 have HR:Hid (R=ownC N m.pure++m.ne.xs.flatMap (newC N)):=hide (by rw[HC0.out,if_neg (by omega),if_neg (by decide),←mp];rfl)
 rw[←mp]at hfm
 have HF:=hide hfm
 clear hfd hfm HC0 mp
 go_upto_region 2 with fail
 try simp only[Act.put]
 refine zb ?_
 refine pl_t 17 (?_) (by rfl) ?_ rfl ?_
 rotate_left
 ·go_simp
  try with_reducible rfl
 simp only[nz]
 refine pl_t 18 (.bool false) (by rfl) (by go_simp<;>(try simp[*])) rfl ?_
 simp only[nz]
 refine pl_t 19 (?_) (by rfl) ?_ rfl ?_
 rotate_left
 ·go_simp
  try with_reducible rfl
 simp only[nz]
 refine pl_t 20 (?_) (by rfl) ?_ rfl ?_
 rotate_left
 ·go_simp
  try with_reducible rfl
 simp only[nz]
 refine pl_t 21 (.bool false) (by rfl) (by go_simp<;>(try simp[*])) rfl ?_
 simp only[nz]
 refine pl_t 22 (?_) (by rfl) ?_ rfl ?_
 rotate_left
 ·go_simp
  try with_reducible rfl
 simp only[nz]
 refine pl_t 23 (?_) (by rfl) ?_ rfl ?_
 rotate_left
 ·go_simp
  try with_reducible rfl
 simp only[nz]
 refine pl_t 24 (?_) (by rfl) ?_ rfl ?_
 rotate_left
 ·go_simp
  try with_reducible rfl
 simp only[nz]
 refine pl_t 25 (.bool false) (by rfl) (by go_simp<;>(try simp[*])) rfl ?_
 simp only[nz]
 refine pl_t 26 (?_) (by rfl) ?_ rfl ?_
 rotate_left
 ·go_simp
  try with_reducible rfl
 simp only[nz]
 refine za ?_
 clear n0 n1
 have cO:=zdS N m _ w2 mo ma2 HF.out
 rw[hq.out]at cO
 have hne:w2.cell? ⟨A,47,none⟩=some m.ne.val:=by
  have:=(mo.ms.at (w:=w2) (b:=A) (by rw[hq.out];exact r2)).ne
  exact this
 have hmne:=ma2.ne
 have hlt:=za7 ma2.ne
 clear mo ma2
 go_upto_region 4 with fail
 try simp only[Act.put]
 refine zb ?_
 refine pl_t 27 (?_) (by rfl) ?_ rfl ?_
 rotate_left
 ·go_simp
  try with_reducible rfl
 simp only[nz]
 refine pl_t 28 (.agg q.toArray) (by rfl) (zp rfl rfl r2 underlying52 rfl him) rfl ?_
 simp only[nz]
 refine ze (d:=some 29) (by rfl) (by go_simp;first|done|exact⟨rfl,rfl⟩|with_reducible rfl) rfl ?_
 refine(cO).mono ?_
 rintro _ w4 ⟨v4,rfl,o4,b4⟩
 refine⟨_,rfl,?_⟩
 simp only[nz]
 refine pl_t 7 (?_) (by rfl) ?_ rfl ?_
 rotate_left
 ·go_simp
  try with_reducible rfl
 simp only[nz]
 refine za ?_
 have HC4:CX w2.heap.size w4 w4 v4 v4 (ownC N m.pure):=⟨o4,GrX.refl _ _⟩
 have hlo:∀b,b<w2.heap.size→ClX v4 b:=fun b hb e=>by have:=(o4.own.lt b e).1;omega
 have hne4:=(b4.cell (p:=⟨A,47,none⟩) sA).trans hne
 have hmne4:=hmne.below b4
 have sA4:A<w4.heap.size:=Nat.lt_of_lt_of_le sA b4.size
 have hcA:=hlo A sA
 have hbk:m.ne.Bk (ClX v4):=hlt.mono hlo
 have HB4:=hide (HB2.out.trans (b4.mono HB2.out.size))
 have hOw:w.heap.size≤w2.heap.size:=HB2.out.size
 have HLO:=hide hlo
 obtain⟨B,hB⟩:∃B,w2.heap.size=B:=⟨_,rfl⟩
 rw[hB]at HC4 HLO hOw
 obtain⟨C4,hC4⟩:∃C,Hid (ownC N m.pure=C):=⟨_,hide rfl⟩
 rw[hC4.out]at HC4
 have HC4l:Hid (C4.length≤10000):=hide (by rw[←hC4.out];exact HF.out.le N)
 obtain⟨⟨xa,xc,xs⟩,hxe⟩:∃x,m.ne=x:=⟨_,rfl⟩
 obtain⟨n,hxn⟩:∃n,xs.length=n:=⟨_,rfl⟩
 have hval:(m.ne).val=.slice xa n xc:=by rw[hxe];unfold Sl.val;rw[←hxn]
 rw[hval]at hne4
 have HXX:Hid (Sl.At EvE w4 ⟨xa,xc,xs⟩):=hide (by rw[hxe]at hmne4;exact hmne4)
 have HCC:Hid (Sl.Bk (Sl.mk xa xc xs) (ClX v4)):=hide (by rw[hxe]at hbk;exact hbk)
 have hpx:m.pure.ne=xs:=by show m.ne.xs=xs;rw[hxe]
 have HNE:Hid (∀e∈xs,e.s.size≤40000):=hide (fun e he=>Nat.le_trans (HF.out.ne e (by rw[hpx];exact he)) hs)
 have HNL:Hid (n≤64):=hide (by have:=HF.out.nl;rw[hpx,hxn]at this;exact this)
 have HR2:Hid (R=C4++xs.flatMap (newC N)):=hide (by rw[HR.out,hxe,←hC4.out])
 have HN:=hide hxn
 have HC5:Hid (CX B w4 w4 v4 v4 (C4++(xs.take 0).flatMap (newC N))):=hide (by simpa using HC4)
 clear hval hxe hxn hpx o4 b4 r2 hne hmne hmne4 hlt hlo hbk HB2 HF HR him hml hm1 hC4 HC4 cO hq sA hB
 go_wp2_with fail
 go_loopw [7,8] (fun vk iv wr=>∃(k:Nat),k≤n∧iv=.int .i64 (k:Int)∧Hid (CX B w4 wr v4 vk (C4++(xs.take k).flatMap (newC N)))) (fun _ iv _=>n - (intOf iv).toNat)
 case atStart=>exact⟨0,by omega,rfl,HC5⟩
 case round=>
  clear HC5
  obtain⟨k,hk,rfl,HK⟩:=hrel
  obtain⟨vk,rfl⟩:∃v,v=u7:=⟨_,rfl⟩
  have pr:wr.cell? ⟨A,47,none⟩=some (.slice xa n xc):=(HK.out.grow.kp.cell sA4 hcA).trans hne4
  by_cases hlt:k<n
  ·have k1:(k:Int)<n:=by omega
   have hn9:n≤64:=HNL.out
   have hkx:k<xs.length:=by rw[HN.out];exact hlt
   obtain⟨b,off,hab0,hbw,hre0⟩:=(HXX.out.growX HK.out.grow.kp HCC.out).elem k hkx
   have hab:xa=some ⟨b,off,none⟩:=hab0
   have hre:wr.rangeAt b (off+k*18) (EvE.f xs[k]):=hre0
   clear hab0 hre0
   have okx:Ev.ok xs[k]:=HXX.out.2.1 _ (List.getElem_mem hkx)
   have hsz:=HNE.out _ (List.getElem_mem hkx)
   have HT:Hid ((xs.take (k+1)).flatMap (newC N)=(xs.take k).flatMap (newC N)++newC N xs[k]):=hide (zfI hkx)
   have HL2:Hid ((C4++(xs.take k).flatMap (newC N)).length≤700000):=hide (by
    have h1:=zbW N (xs.take k)
    have h2:=HC4l.out
    rw[List.length_take]at h1
    rw[List.length_append]
    omega)
   obtain⟨g,hg⟩:∃g,xs[k]=g:=⟨_,rfl⟩
   rw[hg]at hre okx hsz HT
   clear hg
   have cE:=fun w0=>cE g hsz w0
   have hgn:newC N g=g::(if(decS (strL g.s)).2=0 then ownC N (decS (strL g.s)).1 else[]):=rfl
   have hfg:=zbY (sb:=g.s)
   have hut:EvE.f g=.int .i64 g.n::.string g.s::v8 g.t:=rfl
   have it16:(prog.info? 23).map (·.size)=some (v8 g.t).length:=by rw[v8_length,okx.tl];exact iszT
   have iu:(prog.info? 25).map (·.size)=some (EvE.f g).length:=by rw[EvE.len g okx];kernel_rfl
   have hul:(EvE.f g).length=18:=EvE.len g okx
   have hu1:=EvE.one g
   have hbc:∀w0,(Instr.build 70 #[(0,.int .i64 g.n),(1,.string g.s),(2,.agg (v8 g.t).toArray)]).run prog w0=.ok (.agg (EvE.f g).toArray) w0:=fun w0=>zdI g.n g.s (v8 g.t) (by rw[v8_length,okx.tl]) w0
   have hxa:=fun {w0:World} {vv:Value} {cs:List Ev} (h:OutX w0 B vv cs) (hn:cs.length≤1000000000)=>xapp h okx hn
   have hxc:g.cells=EvE.f g:=rfl
   simp only[hxc]at hxa
   clear hxc
   obtain⟨id,hid⟩:∃i,g.n=i:=⟨_,rfl⟩
   obtain⟨bd,hbd⟩:∃i,g.s=i:=⟨_,rfl⟩
   obtain⟨tg,htg⟩:∃t,g.t=t:=⟨_,rfl⟩
   rw[hid,hbd,htg]at hut
   rw[htg]at it16
   rw[hbd]at hfg hgn
   simp only[hid,hbd,htg]at cE hbc
   clear okx htg hid hbd hsz
   obtain⟨u,hu⟩:∃u,Hid (EvE.f g=u):=⟨_,hide rfl⟩
   rw[hu.out]at hre iu hul hu1 hut
   simp only[hu.out]at hbc hxa
   clear hu
   have HUT:=hide hut
   clear hut
   generalize decS (strL bd)=p2 at cE hfg hgn
   obtain⟨pm2,pe2⟩:=p2
   simp only at cE hfg hgn
   have HGN:=hide hgn
   clear hgn
   obtain rfl:=hab
   go_upto_region 8 with fail
   obtain⟨r5,hF,hF3,-⟩:=zA wr z18.toArray 25 u (by simp[hyl,hul])
   try simp only[Act.put]
   refine zb ?_
   refine pl_t 37 (?_) (by rfl) ?_ rfl ?_
   rotate_left
   ·go_simp
    try with_reducible rfl
   simp only[nz]
   refine pl_t 38 (.slice (some ⟨b,off,none⟩) n xc) (by rfl) (zg rfl rfl pr underlying47 rfl) rfl ?_
   simp only[nz]
   refine pl_t 39 (?_) (by rfl) ?_ rfl ?_
   rotate_left
   ·go_simp
    try with_reducible rfl
   simp only[nz]
   refine pl_t 40 (.pointer (some ⟨b,off+k*18,none⟩)) (by rfl) (by go_simp<;>(try simp[*])) rfl ?_
   simp only[nz]
   refine pl_t 41 (.agg u.toArray) (by rfl) (zp rfl rfl hre underlying25 rfl iu) rfl ?_
   simp only[nz]
   refine zj (d:=some 9) (v:=.pointer (some ⟨wr.heap.size,0,none⟩)) (w':=wr.alloc (.cells z18.toArray 25)) (by rfl) (zr rfl (hyr _)) rfl ?_
   simp only[nz]
   refine zf (w':=(wr.alloc (.cells z18.toArray 25)).setCells wr.heap.size 0 u) (by rfl) (zn (cs:=u.toArray) rfl rfl rfl (zm _ _ _ (by simp[hyl,hul])) (by simpa using iu) (zo hu1)) rfl ?_
   refine za ?_
   have HC:=HK.out.later hF
   have HX:=zcD HK.out.out (Nat.le_refl _)
   clear HK pr
   obtain⟨X,hX⟩:∃X,wr.heap.size=X:=⟨_,rfl⟩
   simp only[hX]at r5 HC HX hF3 ⊢
   obtain⟨w5,hw5⟩:∃W,(wr.alloc (.cells z18.toArray 25)).setCells X 0 u=W:=⟨_,rfl⟩
   rw[hw5]at r5 HC hF3 ⊢
   have sX:X<w5.heap.size:=by omega
   clear hw5 hX hF hF3 hre
   have c0:w5.cell? ⟨X,0,none⟩=some (.int .i64 id):=by have:=r5 0 _ (by rw[HUT.out];rfl);rwa [Nat.zero_add]at this
   have c1:w5.cell? ⟨X,1,none⟩=some (.string bd):=by have:=r5 1 _ (by rw[HUT.out];rfl);rwa [Nat.zero_add]at this
   have ct:w5.rangeAt X 2 (v8 tg):=fun j y hy=>by
    have:=r5 (j+2) y (by rw[HUT.out];exact hy)
    rw[show 0+(j+2)=2+j by omega]at this
    exact this
   clear r5
   obtain⟨v6,w6,hrun,o6,g6⟩:=hxa HC.out (by have:=HL2.out;omega)
   go_upto_region 9 with fail
   try simp only[Act.put]
   refine zb ?_
   refine pl_t 42 (?_) (by rfl) ?_ rfl ?_
   rotate_left
   ·go_simp
    try with_reducible rfl
   simp only[nz]
   refine pl_t 43 (?_) (by rfl) ?_ rfl ?_
   rotate_left
   ·go_simp
    try with_reducible rfl
   simp only[nz]
   refine pl_t 44 (.int .i64 id) (by rfl) (zg rfl rfl c0 underlying3 rfl) rfl ?_
   simp only[nz]
   refine pl_t 45 (?_) (by rfl) ?_ rfl ?_
   rotate_left
   ·go_simp
    try with_reducible rfl
   simp only[nz]
   refine pl_t 46 (.string bd) (by rfl) (zg rfl rfl c1 underlying9 rfl) rfl ?_
   simp only[nz]
   refine pl_t 47 (?_) (by rfl) ?_ rfl ?_
   rotate_left
   ·go_simp
    try with_reducible rfl
   simp only[nz]
   refine pl_t 48 (.agg (v8 tg).toArray) (by rfl) (zp rfl rfl ct underlying23 rfl it16) rfl ?_
   simp only[nz]
   refine pl_t 49 (.agg u.toArray) (by rfl) (zR (parts:=[(0,.tmp 44),(1,.tmp 46),(2,.tmp 48)]) (vs:=[(0,.int .i64 id),(1,.string bd),(2,.agg (v8 tg).toArray)]) rfl (by first|with_reducible rfl|rfl|simp[Act.eval]) (hbc _)) rfl ?_
   simp only[nz]
   refine zj (d:=some 50) (v:=.slice (some ⟨w5.heap.size,0,none⟩) 1 1) (w':=w5.alloc (.cells u.toArray 70)) (by rfl) (zaB rfl rfl (zch u hul _)) rfl ?_
   simp only[nz]
   refine zj (d:=some 51) (v:=v6) (w':=w6) (by rfl) (zbu rfl rfl rfl hrun) rfl ?_
   simp only[nz]
   refine pl_t 7 (?_) (by rfl) ?_ rfl ?_
   rotate_left
   ·go_simp
    try with_reducible rfl
   simp only[nz]
   refine za ?_
   have HC6:=HC.add o6 g6
   have c1:=(g6.kp.cell (j:=1) sX HX).trans c1
   clear HC o6 g6 c0 ct HX sX hrun hxa hbc
   go_upto_region 10 with fail
   try simp only[Act.put]
   refine zb ?_
   refine pl_t 53 (?_) (by rfl) ?_ rfl ?_
   rotate_left
   ·go_simp
    try with_reducible rfl
   simp only[nz]
   refine pl_t 54 (.string bd) (by rfl) (zg rfl rfl c1 underlying9 rfl) rfl ?_
   simp only[nz]
   refine ze (d:=some 55) (by rfl) (by go_simp;first|done|exact⟨rfl,rfl⟩|with_reducible rfl) rfl ?_
   refine(cE w6).mono ?_
   rintro _ w7 ⟨m2,rfl,mp2,mo2,mx2,mb2,hb7⟩
   refine⟨_,rfl,?_⟩
   simp only[nz]
   have hml2:m2.ms.cells.length=119:=mo2.ms.len
   have hm12:=mo2.ms.one
   have him2:(prog.info? 52).map (·.size)=some m2.ms.cells.length:=by rw[hml2];exact iszM
   obtain⟨q2,hq2⟩:∃q,Hid (m2.ms.cells=q):=⟨_,hide rfl⟩
   rw[hq2.out]at hml2 hm12 him2
   simp only[hq2.out]
   refine pl_t 52 (?_) (by rfl) ?_ rfl ?_
   rotate_left
   ·go_simp
    try with_reducible rfl
   simp only[nz]
   refine pl_t 56 (?_) (by rfl) ?_ rfl ?_
   rotate_left
   ·go_simp
    try with_reducible rfl
   simp only[nz]
   refine pl_t 57 (?_) (by rfl) ?_ rfl ?_
   rotate_left
   ·go_simp
    try with_reducible rfl
   simp only[nz]
   refine zj (d:=some 10) (v:=.pointer (some ⟨w7.heap.size,0,none⟩)) (w':=w7.alloc (.cells zc.toArray 52)) (by rfl) (zr rfl (hzr _)) rfl ?_
   simp only[nz]
   refine zf (w':=(w7.alloc (.cells zc.toArray 52)).setCells w7.heap.size 0 q2) (by rfl) (zn (cs:=q2.toArray) rfl rfl rfl (zm _ _ _ (by simp[hzl,hml2])) (by simpa using him2) (zo hm12)) rfl ?_
   refine pl_t 11 (?_) (by rfl) ?_ rfl ?_
   rotate_left
   ·go_simp
    try with_reducible rfl
   simp only[nz]
   refine za ?_
   obtain⟨r8,hF,hF3,-⟩:=zA w7 zc.toArray 52 q2 (by simp[hzl,hml2])
   have HC8:=(HC6.later hb7).later hF
   have mx8:=mx2.below hF
   obtain⟨A2,hA2⟩:∃A,w7.heap.size=A:=⟨_,rfl⟩
   simp only[hA2]at r8 hF3 HC8 mx8 ⊢
   obtain⟨w8,hw8⟩:∃W,(w7.alloc (.cells zc.toArray 52)).setCells A2 0 q2=W:=⟨_,rfl⟩
   rw[hw8]at r8 hF3 HC8 mx8 ⊢
   have sA2:A2<w8.heap.size:=by omega
   clear hw8 hA2 hF hF3 hb7 mx2 mb2 HC6 cE c1
   by_cases e0:pe2=0
   ·subst e0
    have hf2:=hfg rfl
    rw[←mp2]at hf2
    have HCL:Hid ((C4++(xs.take k).flatMap (newC N)++[g]).length+(ownC N m2.pure).length≤1000000000):=hide (by
     have h1:=hf2.le N
     have h2:=HL2.out
     rw[List.length_append,List.length_singleton]
     omega)
    have cO:=zdS N m2 _ w8 mo2 mx8 hf2
    rw[hq2.out]at cO
    clear hf2 hfg
    go_upto_region 12 with fail
    try simp only[Act.put]
    refine zb ?_
    refine pl_t 60 (?_) (by rfl) ?_ rfl ?_
    rotate_left
    ·go_simp
     try with_reducible rfl
    simp only[nz]
    refine pl_t 61 (?_) (by rfl) ?_ rfl ?_
    rotate_left
    ·go_simp
     try with_reducible rfl
    simp only[nz]
    refine pl_t 62 (.agg q2.toArray) (by rfl) (zp rfl rfl r8 underlying52 rfl him2) rfl ?_
    simp only[nz]
    refine ze (d:=some 63) (by rfl) (by go_simp;first|done|exact⟨rfl,rfl⟩|with_reducible rfl) rfl ?_
    refine(cO).mono ?_
    rintro _ w9 ⟨v9,rfl,o9,b9⟩
    refine⟨_,rfl,?_⟩
    simp only[nz]
    have HC9:=HC8.later b9
    obtain⟨va,wa,hrun,oa,ga⟩:=xapps HC9.out o9 HCL.out
    refine zj (d:=some 64) (v:=va) (w':=wa) (by rfl) (zbu rfl rfl rfl hrun) rfl ?_
    simp only[nz]
    refine pl_t 7 (?_) (by rfl) ?_ rfl ?_
    rotate_left
    ·go_simp
     try with_reducible rfl
    simp only[nz]
    refine za ?_
    have HD:Hid (CX B w4 wa v4 va (C4++(xs.take (k+1)).flatMap (newC N))):=hide (by
     rw[HT.out,HGN.out,if_pos rfl,←mp2]
     have h9:=HC9.add oa ga
     simp only[List.append_assoc,List.singleton_append]at h9 ⊢
     exact h9)
    clear cO HC8 HC9 o9 b9 oa ga hrun mx8 r8 sA2 HT HGN hq2 him2 hml2 hm12 mo2 HCL hzr hyr hzl hyl iu hul hu1 it16
    go_wp2_with fail
    go_roundw
    case rel=>exact⟨k+1,by omega,by go_num,HD⟩
    case measure=>simp[intOf];omega
   ·have e0':(pe2==0)=false:=by simp[e0]
    have HD:Hid (CX B w4 w8 v4 v6 (C4++(xs.take (k+1)).flatMap (newC N))):=hide (by
     rw[HT.out,HGN.out,if_neg e0,←List.append_assoc]
     exact HC8)
    clear HC8 mx8 r8 sA2 HT HGN hq2 him2 hml2 hm12 mo2 hzr hyr hzl hyl iu hul hu1 it16 hfg mp2
    go_wp2_with fail
    go_roundw
    case rel=>exact⟨k+1,by omega,by go_num,HD⟩
    case measure=>simp[intOf];omega
  ·obtain rfl:k=n:=by omega
   have HE:Hid (ClaimsA w R (.returned vk) wr):=hide (by
    have h1:=HK.out.out
    rw[List.take_of_length_le (by rw[HN.out];exact Nat.le_refl _),←HR2.out]at h1
    have hl:R.length≤1000000000:=by
     have h2:=zbW N xs
     have h3:=HC4l.out
     have h4:=HNL.out
     rw[HR2.out,List.length_append]
     rw[HN.out]at h2
     omega
    obtain⟨x,e1,e2,e3⟩:=ziE h1 hl
    refine⟨x,by rw[e1],e2,e3,?_⟩
    have g:=HK.out.grow
    have b3:=HB4.out
    exact⟨g.os.trans b3.os,g.tape.trans b3.tape,g.output.trans b3.output,Nat.le_trans b3.size g.kp.size,fun i hi=>(g.kp.block i (Nat.lt_of_lt_of_le hi b3.size) (HLO.out i (by omega))).trans (b3.block i hi)⟩)
   clear HK cE hlt
   go_wp2_with fail
   go_ret
   exact HE.out
end Go.Proofs.YtcbpbkefggekmaaGreatDoor
namespace Go.Proofs.YtcbpbkefggekmaaGreatDoor.Rk
open Qs
open Go.RowKit
open Sha Tal
theorem _root_.Go.Proofs.YtcbpbkefggekmaaGreatDoor.Qs.KeysAt.apart {w:World} {p:Option Addr} {ds:List (List Int)} (h:KeysAt w p ds) (X:Nat) (s:ByteArray) (hX:w.cell? ⟨X,0,none⟩=some (.string s)) (vs:List Value):KeysAt (w.setCells X 0 vs) p ds:=by
  rcases h with h|⟨K,a,cap,rfl,hK,hc,hl,hd,hr⟩
  · exact .inl h
  · have hKX:K≠X:=fun e=>by subst e;rw[hc]at hX;cases hX
    have hcK:w.rangeAt K 0 [.slice a ds.length cap]:=fun j v hv=>by
      cases j with
      |zero=>simp at hv;subst hv;exact hc
      |succ j=>simp at hv
    have hc':=World.rangeAt_setCells_apart hcK X 0 vs (.inl hKX) 0 _ rfl
    refine .inr ⟨K,a,cap,rfl,by rw[zH];exact hK,hc',hl,hd,?_⟩
    rcases hr with hr|⟨D,rfl,hD,hr⟩
    · exact .inl hr
    · by_cases hz:ds=[]
      · exact .inl hz
      · refine .inr ⟨D,rfl,by rw[zH];exact hD,fun i d hi=>?_⟩
        have hDX:D≠X:=fun e=>by
          subst e
          obtain⟨d0,dr,rfl⟩:=List.exists_cons_of_ne_nil hz
          have h0:=hr 0 d0 rfl
          obtain⟨l0,_⟩:=hd d0 (List.mem_cons_self ..)
          have hc0:=get8 h0 (i:=0) (by omega)
          simp only[Nat.zero_mul,Nat.add_zero]at hc0
          rw[hc0]at hX
          cases hX
        exact World.rangeAt_setCells_apart (hr i d hi) X 0 vs (.inl hDX)
def seedR:ByteArray:={data:=#[114]}
def rkL:List Value:=[.string seedR,.int .i64 72]
theorem iszK:(prog.info? 29).map (·.size)=some 2:=by kernel_rfl
theorem zjr (w:World) (hG:Glob w):
   Calls prog 9 #[] w fun e w'=>∃p,e=.returned (.tuple #[.pointer p,.agg rkL.toArray])∧p≠none∧KeysAt w' p (keysOf seedR 72)∧Below w.heap.size w w':=by
  have cr:=fun w0=>zic seedR 72 w0 (by omega) (by omega) (by decide)
  have hB1:Below w.heap.size w (w.alloc (.cells #[.string ⟨#[]⟩,.int .i64 0] 29)):=(Below.refl _ _).alloc (Nat.le_refl _) _
  have hc1:(w.alloc (.cells #[.string ⟨#[]⟩,.int .i64 0] 29)).cell? ⟨w.heap.size,0,none⟩=some (.string ⟨#[]⟩):=zy w #[.string ⟨#[]⟩,.int .i64 0] 29 0 _ rfl
  have hT1:=zK w #[.string ⟨#[]⟩,.int .i64 0] 29
  have hz1:w.heap.size<(w.alloc (.cells #[.string ⟨#[]⟩,.int .i64 0] 29)).heap.size:=by simp
  go_enter func9,ntmps9
  go_upto_region 1 with fail
  go_name_world w1 hw1
  rw[hw1]at hB1 hc1 hT1 hz1
  clear hw1
  have c1:=cr w1
  unfold seedR at c1
  go_wp2_with fail
  refine c1.mono ?_
  rintro e w2 ⟨rfl,hw2⟩
  have hB2:=hB1.trans (hw2.mono hB1.size)
  have hc2:=(hw2.cell (p:=⟨w.heap.size,0,none⟩) hz1).trans hc1
  have hT2:=zq hT1 hw2 hz1
  have hz2:=Nat.lt_of_lt_of_le hz1 hw2.size
  clear c1 cr hB1 hc1 hT1 hz1 hw2
  have hQ3:(w2.alloc (.cells #[.string ⟨#[114]⟩,.int .i64 72] 29)).rangeAt w2.heap.size 0 [.string ⟨#[114]⟩,.int .i64 72]:=zy w2 #[.string ⟨#[114]⟩,.int .i64 72] 29
  have hF3:Below w2.heap.size w2 (w2.alloc (.cells #[.string ⟨#[114]⟩,.int .i64 72] 29)):=(Below.refl _ _).alloc (Nat.le_refl _) _
  have hz3':w2.heap.size<(w2.alloc (.cells #[.string ⟨#[114]⟩,.int .i64 72] 29)).heap.size:=by simp
  go_upto_region 2 with fail
  go_name_world w3 hw3
  rw[hw3]at hQ3 hF3 hz3'
  have hz3:w2.heap.size<w3.heap.size:=by omega
  have hB3:=hB2.trans (hF3.mono hB2.size)
  have hc3:=(hF3.cell (p:=⟨w.heap.size,0,none⟩) hz2).trans hc2
  have hT3:=zq hT2 hF3 hz2
  have hzz3:=Nat.lt_of_lt_of_le hz2 hF3.size
  have hne:w2.heap.size≠w.heap.size:=by omega
  clear hw3 hB2 hc2 hT2 hz2 hz3' hF3
  obtain⟨X2,hX2⟩:∃X,w2.heap.size=X:=⟨_,rfl⟩
  rw[hX2]at hQ3 hz3 hne ⊢
  clear hX2
  try simp only[Act.put]
  have hB4:=hB3.drew
  have hQ4:w3.drew.rangeAt X2 0 [.string ⟨#[114]⟩,.int .i64 72]:=(World.rangeAt_drew _ _ _ _).2 hQ3
  have hc4:w3.drew.cell? ⟨w.heap.size,0,none⟩=some (.string ⟨#[]⟩):=hc3
  have hT4:w3.drew.there w.heap.size 0 2:=(World.there_drew _ _ _ _).2 hT3
  have hz4:X2<w3.drew.heap.size:=hz3
  have hzz4:w.heap.size<w3.drew.heap.size:=hzz3
  clear hB3 hQ3 hc3 hT3 hz3 hzz3
  obtain⟨X,hX⟩:∃X,Hid (w.heap.size=X):=⟨_,hide rfl⟩
  rw[hX.out]at hc4 hT4 hzz4 hne ⊢
  obtain⟨w5,hw5⟩:∃w5,w3.drew=w5:=⟨_,rfl⟩
  rw[hw5]at hB4 hQ4 hc4 hT4 hz4 hzz4
  refine zG (S:=(fun W:World=>W.rangeAt X2 0 [.string ⟨#[114]⟩,.int .i64 72]∧Below w.heap.size w W)) 4 rfl (by kernel_rfl) ?_
  rw[hw5]
  clear hw5
  have hS:(fun W:World=>W.rangeAt X2 0 [.string ⟨#[114]⟩,.int .i64 72]∧Below w.heap.size w W) w5:=⟨hQ4,hB4⟩
  refine hs_t 1 9 (.agg #[.string ⟨#[114]⟩,.int .i64 72]) rfl (by kernel_rfl) (by kernel_rfl) (by kernel_rfl) (by rfl) (fun w' hw=>zdy rfl rfl (run_loadVar_mid (P:=prog) w' X2 0 29 [.string ⟨#[114]⟩,.int .i64 72] _ hw.1 underlying29 rfl iszK)) hS rfl ?_
  simp only[nz]
  have cd:=zko seedR 72 w5 (hG.below hB4) (by omega) (by omega) (by decide)
  refine zx (i:=0) (d:=some 8) rfl (by kernel_rfl) (by rfl) (by go_simp;first|done|exact⟨rfl,rfl⟩|with_reducible rfl) rfl ?_
  refine(cd).mono ?_
  rintro e' w6 ⟨p,rfl,hp,hk,hw6⟩
  have hS:(fun W:World=>W.rangeAt X2 0 [.string ⟨#[114]⟩,.int .i64 72]∧Below w.heap.size w W) w6:=⟨zd hS.1 hw6 hz4,hS.2.trans (hw6.mono hS.2.size)⟩
  refine⟨_,rfl,hS,?_⟩
  simp only[nz]
  have hc6:=(hw6.cell (p:=⟨X,0,none⟩) hzz4).trans hc4
  have hT6:=zq hT4 hw6 hzz4
  have hk7:=hk.apart X _ hc6 [.string ⟨#[114]⟩,.int .i64 72]
  have hB7:Below w.heap.size w (w6.setCells X 0 [.string ⟨#[114]⟩,.int .i64 72]):=zi (by rw[hX.out];omega) _ 0 w6 hS.2
  have hrs:=run_loadVar_mid (P:=prog) (w6.setCells X 0 [.string ⟨#[114]⟩,.int .i64 72]) X 0 29 [.string ⟨#[114]⟩,.int .i64 72] _ (World.rangeAt_setCells_same w6 X 0 [.string ⟨#[114]⟩,.int .i64 72] hT6) underlying29 rfl iszK
  have hst:=run_storeVar_mid (P:=prog) w6 X 0 29 #[.string ⟨#[114]⟩,.int .i64 72] hT6 iszK (by simp[Value.oneCell'])
  clear cd hk hw6
  refine hs_t 2 0 (?_) rfl (by kernel_rfl) (by kernel_rfl) (by kernel_rfl) (by rfl) ?_ hS rfl ?_
  rotate_left
  · intro w' hw
    go_simp
    try with_reducible rfl
  simp only[Act.put,List.setIfInBounds_toArray,List.set_cons_zero]
  refine zU (i:=3) (w':=(w6.setCells X 0 [.string ⟨#[114]⟩,.int .i64 72])) rfl (by kernel_rfl) (by rfl) (zbg rfl rfl rfl hst) rfl ⟨World.rangeAt_setCells_apart hS.1 X 0 _ (.inl hne),hB7⟩ ?_
  refine zE (by kernel_rfl) ?_
  go_wp2_with fail
  exact bodyPost_ret (v:=.tuple #[.pointer p,.agg #[.string ⟨#[114]⟩,.int .i64 72]]) (by simp[results,results9,asAddr,hrs]) rfl ⟨p,rfl,hp,hk7,hB7⟩
end Go.Proofs.YtcbpbkefggekmaaGreatDoor.Rk
namespace Go.Proofs.YtcbpbkefggekmaaGreatDoor.Qs
open Go.RowKit
open Sha Tal
theorem zjt (p:Option Addr) (ds:List (List Int)) (id:Int) (body:ByteArray) (t:List Int) (w:World) (hG:Glob w) (h:KeysAt w p ds) (hb:ds=[]∨body.size≤100000) (ht:t.length=16):
  Calls prog 25 #[.pointer p,.int .i64 id,.string body,.agg (v8 t).toArray] w fun e w'=>e=.returned (.bool (checkOf (signOf ds id body) t))∧Below w.heap.size w w':=by
 have hB0:Below w.heap.size w (w.alloc (.cells (v8 t).toArray 23)):=(Below.refl _ _).alloc (Nat.le_refl _) _
 have hR0:=zgi w t 23
 have cs:=zfp p ds id body _ (hG.below hB0) (h.below hB0) hb
 have hl:=zcf ds id body
 unfold checkOf
 obtain⟨r,hr⟩:∃r,Hid ((signOf ds id body).1=r):=⟨_,hide rfl⟩
 obtain⟨x,hx⟩:∃x,Hid ((signOf ds id body).2=x):=⟨_,hide rfl⟩
 rw[hr.out,hx.out]at cs ⊢
 rw[hr.out]at hl
 obtain⟨ct,hct⟩:∃ct,Hid (v8 t=ct):=⟨_,hide rfl⟩
 have hcl:ct.length=16:=by rw[←hct.out,v8_length,ht]
 have heq:=eql16 r t hl ht
 rw[hct.out]at hB0 hR0 cs heq ⊢
 clear hb
 go_enter func25,ntmps25
 go_wp2_with fail
 refine cs.mono ?_
 rintro e w1 ⟨rfl,hw1⟩
 clear cs
 have hB1:=hB0.trans (hw1.mono hB0.size)
 have hs1:=hw1.size
 simp only[World.size_alloc]at hs1
 have hR1:=zd hR0 hw1 (by simp)
 have F:=zA w1 (Array.replicate 16 (.int .u8 0)) 23 (v8 r) (by rw[v8_length,hl];rfl)
 have hN:(w1.alloc (.cells (Array.replicate 16 (.int .u8 0)) 23)).there w1.heap.size 0 (v8 r).toArray.size:=by
  have e:(v8 r).toArray.size=16:=by rw[List.size_toArray,v8_length,hl]
  rw[e];exact(zaM w1 16 23).2
 have hi:=info16 r hl
 have h1c:=all_oneCell_toArray (zI r)
 go_upto_region 2 with(refine wpList_store_mid (op:=⟨none,.store 23 (.tmp 9) (.tmp 16),_,_,_,none⟩) rfl 23 _ _ rfl _ _ (v8 r).toArray rfl rfl hN hi h1c ?_)
 go_name_world w4 hw4
 rw[show(w1.alloc (.cells (Array.replicate 16 (.int .u8 0)) 23)).setCells w1.heap.size 0 (v8 r)=w4 from hw4]at F
 obtain⟨hR4,hB4',hz4',_⟩:=F
 have hz4:w1.heap.size<w4.heap.size:=by omega
 clear hz4' hw4 hN h1c hw1 hR0
 have hB4:=hB1.trans (hB4'.mono hB1.size)
 have hR1':=zd hR1 hB4' (by omega)
 have hl16:(prog.info? 23).map (·.size)=some (v8 r).length:=by simpa using hi
 have hl16':(prog.info? 23).map (·.size)=some ct.length:=by rw[hcl];exact iszT
 try simp only[Act.put]
 clear hi
 clear hR1 hB4' hct
 by_cases hx0:x=0
 ·subst hx0
  refine wp_region_list ?_
  refine wpList_plain rfl fun K hK=>?_
  go_simp
  refine hK _ _ ?_
  clear hK K
  refine wpList_plain rfl fun K hK=>?_
  go_simp
  refine hK _ _ ?_
  clear hK K
  refine wpList_plain rfl fun K hK=>?_
  go_simp
  refine hK _ _ ?_
  clear hK K
  refine zS (by rfl) 23 _ rfl _ _ rfl (v8 r) _ hR4 underlying23 rfl hl16 ?_
  refine zS (by rfl) 23 _ rfl _ _ rfl ct _ hR1' underlying23 rfl hl16' ?_
  go_wp2
  go_ret
  exact⟨by simp,hB4⟩
 ·have hx1:(x==0)=false:=by simpa using hx0
  go_wp2
  go_ret
  exact⟨by simp[hx0],hB4⟩
end Go.Proofs.YtcbpbkefggekmaaGreatDoor.Qs
namespace Go.Proofs.YtcbpbkefggekmaaGreatDoor
open Go.RowKit
open Sha Tal
set_option linter.unusedVariables false
set_option linter.unusedSimpArgs false
open Qs (KeysAt signOf checkOf)
def txX:ByteArray:={data:=#[120]}
def rqX (tg:List Int):Rq:=⟨1,1,txX,tg⟩
def mX (b:Nat) (tg:List Int):Mg:=⟨1,1,0,0,1,false,⟨some ⟨b,0,none⟩,1,[rqX tg]⟩,Vt.zero,0,0,0,⟨none,0,[]⟩,⟨none,0,[]⟩,zeros32,Vt.zero,⟨none,0,[]⟩,⟨#[]⟩,⟨none,0,[]⟩⟩
def pX (tg:List Int):Mp:=⟨1,1,0,0,1,false,[rqX tg],Vt.zero,0,0,0,[],[],zeros32,Vt.zero,[],⟨#[]⟩,[]⟩
theorem zeF {tg:List Int} (h:tg.length=16) (hb:∀z∈tg,0≤z∧z<256):(rqX tg).ok:=⟨h,hb,by show txX.size≤maxLen;decide,by show(-9223372036854775808:Int)≤1;decide,by show(1:Int)≤9223372036854775807;decide,by show(-9223372036854775808:Int)≤1;decide,by show(1:Int)≤9223372036854775807;decide⟩
theorem zjk (b:Nat) (tg:List Int):(mX b tg).ok:=⟨Vt.zero_ok,Vt.zero_ok,zv,zD⟩
theorem zjn {b:Nat} {tg:List Int} {w:World} (h:tg.length=16) (hb:∀z∈tg,0≤z∧z<256) (hlt:b<w.heap.size) (hr:w.rangeAt b 0 (RqE.f (rqX tg))):(mX b tg).At w:=
 zaj ⟨by show 1≤maxLen;decide,fun y hy=>by
  have:y=rqX tg:=by simpa [mX]using hy
  rw[this];exact zeF h hb,.inr ⟨b,0,rfl,hlt,by simpa [mX]using hr⟩⟩ zV RowsAt.none RowsAt.none RowsAt.none
def byX (tg:List Int):List Int:=[1,1,1,1,1,1,1,2,1,1,1,1,1,1,120]++tg
theorem zgb (b:Nat) {tg:List Int} (h:tg.length=16):(mX b tg).bytes=byX tg:=match tg,h with
 |[_,_,_,_,_,_,_,_,_,_,_,_,_,_,_,_],_=>by kernel_rfl
theorem zga {tg:List Int} (h:tg.length=16):(byX tg).length≤1000:=by unfold byX;rw[List.length_append,h];decide
theorem zkz {tg:List Int} (hb:∀z∈tg,0≤z∧z<256):∀z∈byX tg,0≤z∧z<256:=fun z hz=>by
 rcases List.mem_append.1 hz with hz|hz
 ·exact(by decide:∀z∈([1,1,1,1,1,1,1,2,1,1,1,1,1,1,120]:List Int),0≤z∧z<256) z hz
 ·exact hb z hz
theorem zjl (b:Nat) (tg:List Int):(mX b tg).good=true:=by
 unfold Mg.good
 rw[Mg.B_eqv (mX b tg) (mX b tg).bare (by kernel_rfl)]
 kernel_rfl
theorem zjm (b:Nat) {tg:List Int} (h:tg.length=16):(mX b tg).Fine:=by
  refine⟨?_,?_,?_,?_,?_,?_,?_,?_,?_,?_,?_,?_,?_,?_,?_,?_,?_⟩
  case refine_8=>show 1≤200;decide
  case refine_9 => intro r hr; have hr2 : r = rqX tg := by simpa [mX] using hr
                   rw[hr2];show txX.size≤4000;decide
  case refine_11=>intro g hg;cases hg
  case refine_13=>intro g hg;cases hg
  case refine_17=>rw[zgb b h];have:=zga h;omega
  all_goals (simp only[mX];decide)
def sX (tg:List Int):ByteArray:=strOf (byX tg)
theorem zhI {tg:List Int} (h:tg.length=16):(sX tg).size≤1000:=by unfold sX;rw[zcd];exact zga h
theorem zkr {tg:List Int} (h:tg.length=16) (hb:∀z∈tg,0≤z∧z<256):decS (strL (sX tg))=(pX tg,0):=by
 unfold sX
 rw[zel (zkz hb)]
 clear hb
 exact match tg,h with
 |[_,_,_,_,_,_,_,_,_,_,_,_,_,_,_,_],_=>by kernel_rfl
theorem zks {tg:List Int} (h:tg.length=16) (hb:∀z∈tg,0≤z∧z<256):claimsC 4 (sX tg)=[⟨5,strOf (Rk.bodyL 1 1 txX),tg⟩]:=by
 unfold claimsC
 rw[if_neg (by decide),zkr h hb]
 rfl
theorem zkd (b:Nat) (tg:List Int) (w:World) (h:tg.length=16) (hb:∀z∈tg,0≤z∧z<256) (hlt:b<w.heap.size) (hr:w.rangeAt b 0 (RqE.f (rqX tg))):
  Calls prog 22 #[.agg (mX b tg).ms.cells.toArray] w fun e w'=>e=.returned (.tuple #[.string (sX tg),.int .i64 0])∧Below w.heap.size w w':=by
 have om:=zjk b tg
 have am:(mX b tg).At w:=zjn h hb hlt hr
 have c:=enc1 (mX b tg).ms.cells true (byX tg) w om.ms.len (fun w0 h0=>by
  have a0:=am.below h0
  have k1:1≤(mX b tg).k:=by show(1:Int)≤1;decide
  have k8:(mX b tg).k≤8:=by show(1:Int)≤8;decide
  have c:=goodW (mX b tg).ms.cells (mX b tg).bare.ms.cells (mX b tg).k (Mg.B (mX b tg) (mX b tg).bare) (mX b tg).may w0 om.ms.len rfl (fun _ _ w1 _=>by rw[Mg.bare_1 rfl];exact bareG1 (mX b tg).ms om.ms rfl w1) (fun _ _ w1 h1=>zi2 (mX b tg) (mX b tg).bare w1 om (Mg.bare_ok om k1 k8) (a0.below h1) ((Mg.bare_at a0 k1 k8).below h1)) (fun w1 h1=>zjT (mX b tg) w1 om (a0.below h1))
  rw[show(decide (1≤(mX b tg).k∧(mX b tg).k≤8)&&(Mg.B (mX b tg) (mX b tg).bare&&(mX b tg).may))=true from zjl b tg]at c
  exact c) (fun _ X w0 h0 hX hW=>by
  rw[←zgb b h]
  exact zgZ X _ [] (mX b tg) w w0 om am (zjm b h) rfl h0 hX hW (by simp))
 exact c
theorem zkB (b:Nat) (tg:List Int) (w:World):(Instr.build 52 #[(0,.int .i64 1),(1,.int .i64 1),(4,.int .i64 1),(5,.agg #[.bool false,.slice (some ⟨b,0,none⟩) 1 1])]).run prog w=.ok (.agg (mX b tg).ms.cells.toArray) w:=
 zcH _ _ w (by kernel_rfl)
theorem zkD (b:Nat) (w:World):(Instr.build 39 #[(1,.slice (some ⟨b,0,none⟩) 1 1)]).run prog w=.ok (.agg #[.bool false,.slice (some ⟨b,0,none⟩) 1 1]) w:=by kernel_rfl
theorem infoReqX:(prog.info? 81).map (fun i=>(i.zero,i.size,i.bytes))=some (some (.agg ([Value.int .i64 0,.int .i64 0,.string ⟨#[]⟩]++v8 (List.replicate 16 0)).toArray),19,48):=by kernel_rfl
theorem zhQ (u:List Value) (hu:u.length=19) (w:World):(Instr.buildSlice 37 1 #[(0,.agg u.toArray)]).run prog w=.ok (.slice (some ⟨w.heap.size,0,none⟩) 1 1) (w.alloc (.cells u.toArray 81)):=by
 obtain⟨i1,hi1,hiz,his,hib⟩:=zT infoReqX
 exact zaQ 37 81 i1 _ u underlying37 hi1 hiz (by rw[his,hu]) (by omega) (by omega) _
theorem tagX (ks:List (List Int)) (h:ks.length=72):Rk.tagV ks 4 1 1 txX=((signOf ks 5 (strOf (Rk.bodyL 1 1 txX))).1,0):=by
 unfold Rk.tagV
 rw[if_neg (by rw[h];decide)]
 have e:(signOf ks 5 (strOf (Rk.bodyL 1 1 txX))).2=0:=by
  unfold signOf
  rw[if_neg (fun h0=>by rw[h0]at h;simp at h),if_neg (by rw[h];decide)]
 show signOf ks 5 (strOf (Rk.bodyL 1 1 txX))=_
 rw[←e]
theorem zfo (w:World) (hG:Glob w):Calls prog 8 #[] w fun e w'=>e=.returned (.bool true)∧Below w.heap.size w w':=by
 obtain⟨z19,hzl,hzr⟩:∃z:List Value,z.length=19∧(∀w:World,(zeroValue 81).run prog w=.ok (.agg z.toArray) w):=⟨[.int .i64 0,.int .i64 0,.string ⟨#[]⟩]++v8 (List.replicate 16 0),rfl,fun w=>by kernel_rfl⟩
 obtain⟨zk,hzkl,hzkr⟩:∃z:List Value,z.length=2∧(∀w:World,(zeroValue 29).run prog w=.ok (.agg z.toArray) w):=⟨[.string ⟨#[]⟩,.int .i64 0],rfl,fun w=>by kernel_rfl⟩
 have cK:=Rk.zjr w hG
 have hkl:=Qs.zdq Rk.seedR 72
 obtain⟨ks,hks⟩:∃k,Hid (Qs.keysOf Rk.seedR 72=k):=⟨_,hide rfl⟩
 rw[hks.out]at cK hkl
 have ik:(prog.info? 29).map (·.size)=some Rk.rkL.length:=by kernel_rfl
 have hkl2:Rk.rkL.length=2:=rfl
 have hk1:∀v∈Rk.rkL,v.oneCell'=true:=by decide
 obtain⟨kq,hkq⟩:∃k,Hid (Rk.rkL=k):=⟨_,hide rfl⟩
 rw[hkq.out]at cK ik hkl2 hk1
 have hlt16:=Qs.zcf ks 5 (strOf (Rk.bodyL 1 1 txX))
 have htb:=Qs.zhC ks 5 (strOf (Rk.bodyL 1 1 txX))
 have htg:=tagX ks hkl
 have cH0:=fun p tg w0 g k (h:tg.length=16)=>Qs.zjt p ks 5 (strOf (Rk.bodyL 1 1 txX)) tg w0 g k (.inr (by rw[zcd];have:=Rk.zcI 1 1 txX (by decide) (by decide) (by decide);have h1:=@zae 1 (by omega);unfold Rk.bodyL textL;simp only[List.length_append,List.length_cons,List.length_nil,zad];have:txX.size=1:=rfl;have h2:=@zae (txX.size:Int) (by decide);omega)) h
 have hck:checkOf (signOf ks 5 (strOf (Rk.bodyL 1 1 txX))) (signOf ks 5 (strOf (Rk.bodyL 1 1 txX))).1=true:=by
  unfold checkOf
  have e2:(signOf ks 5 (strOf (Rk.bodyL 1 1 txX))).2=0:=by
   unfold signOf
   rw[if_neg (fun h0=>by rw[h0]at hkl;simp at hkl),if_neg (by rw[hkl];decide)]
  rw[e2]
  simp
 have hks1:0<ks.length:=by omega
 have cM0:=fun p w0 k g=>Rk.zjg p ks 4 1 1 txX w0 k g hks1 ⟨by decide,by decide,by decide,by decide,by decide⟩ (by rw[htg])
 rw[htg]at cM0
 obtain⟨tg,htgd⟩:∃t,Hid ((signOf ks 5 (strOf (Rk.bodyL 1 1 txX))).1=t):=⟨_,hide rfl⟩
 rw[htgd.out]at hlt16 htb hck cM0
 have cH1:=fun p w0 g k=>cH0 p tg w0 g k hlt16
 rw[hck]at cH1
 have hcX:=zks hlt16 htb
 have cC:=fun w0=>zfZ 4 (sX tg) w0 (by have:=zhI hlt16;omega)
 rw[hcX]at cC
 unfold ClaimsA at cC
 have cE0:=fun b w0 h1 h2=>zkd b tg w0 hlt16 htb h1 h2
 have hbm0:=fun b w0=>zkB b tg w0
 have hul:(RqE.f (rqX tg)).length=19:=RqE.len _ (zeF hlt16 htb)
 have iu:(prog.info? 81).map (·.size)=some (RqE.f (rqX tg)).length:=by rw[hul];kernel_rfl
 have hu1:=RqE.one (rqX tg)
 have it16:(prog.info? 23).map (·.size)=some (v8 tg).length:=by rw[v8_length,hlt16];exact iszT
 have cM0:∀p w0,KeysAt w0 p ks→Glob w0→Calls prog 24 #[.pointer p,.int .i64 4,.int .i64 1,.int .i64 1,.string {data:=#[120]}] w0 fun e w'=>e=.returned (.tuple #[.agg (RqE.f (rqX tg)).toArray,.int .i64 0])∧Below w0.heap.size w0 w':=cM0
 obtain⟨u,hu⟩:∃u,Hid (RqE.f (rqX tg)=u):=⟨_,hide rfl⟩
 rw[hu.out]at hul iu hu1
 simp only[hu.out]at cM0 cE0
 obtain⟨sx,hsx⟩:∃s,Hid (sX tg=s):=⟨_,hide rfl⟩
 simp only[hsx.out]at cC cE0
 obtain⟨bd,hbd⟩:∃s,Hid (strOf (Rk.bodyL 1 1 txX)=s):=⟨_,hide rfl⟩
 simp only[hbd.out]at cC cH1
 have HG:=hide hG
 clear hG cH0 hck hcX hu hsx hbd htb htg hkl hks1 hlt16 htgd hks hkq
 go_enter func8,ntmps8
 go_upto_region 1 with fail
 try simp only[Act.put]
 refine zb ?_
 refine ze (d:=some 9) (by rfl) (by go_simp;first|done|exact⟨rfl,rfl⟩|with_reducible rfl) rfl ?_
 refine(cK).mono ?_
 rintro _ w1 ⟨p,rfl,hp,hk,hb1⟩
 refine⟨_,rfl,?_⟩
 simp only[nz]
 refine pl_t 8 (?_) (by rfl) ?_ rfl ?_
 rotate_left
 ·go_simp
  try with_reducible rfl
 simp only[nz]
 refine pl_t 10 (?_) (by rfl) ?_ rfl ?_
 rotate_left
 ·go_simp
  try with_reducible rfl
 simp only[nz]
 refine pl_t 11 (?_) (by rfl) ?_ rfl ?_
 rotate_left
 ·go_simp
  try with_reducible rfl
 simp only[nz]
 refine zj (d:=some 2) (v:=.pointer (some ⟨w1.heap.size,0,none⟩)) (w':=w1.alloc (.cells zk.toArray 29)) (by rfl) (zr rfl (hzkr _)) rfl ?_
 simp only[nz]
 refine pl_t 1 (?_) (by rfl) ?_ rfl ?_
 rotate_left
 ·go_simp
  try with_reducible rfl
 simp only[nz]
 refine zf (w':=(w1.alloc (.cells zk.toArray 29)).setCells w1.heap.size 0 kq) (by rfl) (zn (cs:=kq.toArray) rfl rfl rfl (zm _ _ _ (by simp[hzkl,hkl2])) (by simpa using ik) (zo hk1)) rfl ?_
 refine za ?_
 obtain⟨-,hF,hF3,-⟩:=zA w1 zk.toArray 29 kq (by simp[hzkl,hkl2])
 have hk:=hk.below hF
 have B:=hb1.trans (hF.mono hb1.size)
 obtain⟨w2,hw2⟩:∃W,(w1.alloc (.cells zk.toArray 29)).setCells w1.heap.size 0 kq=W:=⟨_,rfl⟩
 rw[hw2]at hk B ⊢
 clear hw2 hF hF3 hb1 cK hp ik hkl2 hk1 hzkr hzkl
 have cM:=cM0 p w2 hk (HG.out.below B)
 go_upto_region 2 with fail
 try simp only[Act.put]
 refine zb ?_
 refine pl_t 13 (?_) (by rfl) ?_ rfl ?_
 rotate_left
 ·go_simp
  try with_reducible rfl
 simp only[nz]
 refine ze (d:=some 14) (by rfl) (by go_simp;first|done|exact⟨rfl,rfl⟩|with_reducible rfl) rfl ?_
 refine(cM).mono ?_
 rintro _ w3 ⟨rfl,hb3⟩
 refine⟨_,rfl,?_⟩
 simp only[nz]
 refine pl_t 12 (?_) (by rfl) ?_ rfl ?_
 rotate_left
 ·go_simp
  try with_reducible rfl
 simp only[nz]
 refine pl_t 15 (?_) (by rfl) ?_ rfl ?_
 rotate_left
 ·go_simp
  try with_reducible rfl
 simp only[nz]
 refine pl_t 16 (?_) (by rfl) ?_ rfl ?_
 rotate_left
 ·go_simp
  try with_reducible rfl
 simp only[nz]
 refine zj (d:=some 3) (v:=.pointer (some ⟨w3.heap.size,0,none⟩)) (w':=w3.alloc (.cells z19.toArray 81)) (by rfl) (zr rfl (hzr _)) rfl ?_
 simp only[nz]
 refine zf (w':=(w3.alloc (.cells z19.toArray 81)).setCells w3.heap.size 0 u) (by rfl) (zn (cs:=u.toArray) rfl rfl rfl (zm _ _ _ (by simp[hzl,hul])) (by simpa using iu) (zo hu1)) rfl ?_
 refine pl_t 4 (?_) (by rfl) ?_ rfl ?_
 rotate_left
 ·go_simp
  try with_reducible rfl
 simp only[nz]
 refine za ?_
 obtain⟨ru,hF,hF3,-⟩:=zA w3 z19.toArray 81 u (by simp[hzl,hul])
 have hk:=(hk.below hb3).below hF
 have B:=B.trans ((hb3.trans (hF.mono hb3.size)).mono B.size)
 obtain⟨X,hX⟩:∃X,w3.heap.size=X:=⟨_,rfl⟩
 rw[hX]at ru hF3
 simp only[hX]
 obtain⟨w4,hw4⟩:∃W,(w3.alloc (.cells z19.toArray 81)).setCells X 0 u=W:=⟨_,rfl⟩
 rw[hX,hw4]at hk B
 rw[hw4]at ru hF3 ⊢
 have sX4:X<w4.heap.size:=by omega
 clear hw4 hX hF hF3 hb3 cM cM0
 have B5:Below w4.heap.size w4 (w4.alloc (.cells u.toArray 81)):=(Below.refl _ _).alloc (Nat.le_refl _) _
 have r5:(w4.alloc (.cells u.toArray 81)).rangeAt w4.heap.size 0 u:=by simpa using zy w4 u.toArray 81
 have cEn:=cE0 w4.heap.size (w4.alloc (.cells u.toArray 81)) (by simp) r5
 obtain⟨q,hq⟩:∃q,Hid ((mX w4.heap.size tg).ms.cells=q):=⟨_,hide rfl⟩
 have hbm:=hbm0 w4.heap.size
 rw[hq.out]at cEn
 simp only[hq.out]at hbm
 clear hq cE0 hbm0 r5
 go_upto_region 3 with fail
 try simp only[Act.put]
 refine zb ?_
 refine pl_t 18 (.agg u.toArray) (by rfl) (zp rfl rfl ru underlying81 rfl iu) rfl ?_
 simp only[nz]
 refine zj (d:=some 19) (v:=.slice (some ⟨w4.heap.size,0,none⟩) 1 1) (w':=w4.alloc (.cells u.toArray 81)) (by rfl) (zaB rfl rfl (zhQ u hul _)) rfl ?_
 simp only[nz]
 refine pl_t 20 (.agg #[.bool false,.slice (some ⟨w4.heap.size,0,none⟩) 1 1]) (by rfl) (zR (parts:=[(1,.tmp 19)]) (vs:=[(1,.slice (some ⟨w4.heap.size,0,none⟩) 1 1)]) rfl (by first|with_reducible rfl|rfl|simp[Act.eval]) (zkD _ _)) rfl ?_
 simp only[nz]
 refine pl_t 21 (.agg q.toArray) (by rfl) (zR (parts:=[(0,.const (.int .i64 1)),(1,.const (.int .i64 1)),(4,.const (.int .i64 1)),(5,.tmp 20)]) (vs:=[(0,.int .i64 1),(1,.int .i64 1),(4,.int .i64 1),(5,.agg #[.bool false,.slice (some ⟨w4.heap.size,0,none⟩) 1 1])]) rfl (by first|with_reducible rfl|rfl|simp[Act.eval]) (hbm _)) rfl ?_
 simp only[nz]
 refine ze (d:=some 22) (by rfl) (by go_simp;first|done|exact⟨rfl,rfl⟩|with_reducible rfl) rfl ?_
 refine(cEn).mono ?_
 rintro _ w6 ⟨rfl,hb6⟩
 refine⟨_,rfl,?_⟩
 simp only[nz]
 refine pl_t 17 (?_) (by rfl) ?_ rfl ?_
 rotate_left
 ·go_simp
  try with_reducible rfl
 simp only[nz]
 refine pl_t 23 (?_) (by rfl) ?_ rfl ?_
 rotate_left
 ·go_simp
  try with_reducible rfl
 simp only[nz]
 refine pl_t 24 (?_) (by rfl) ?_ rfl ?_
 rotate_left
 ·go_simp
  try with_reducible rfl
 simp only[nz]
 refine pl_t 5 (?_) (by rfl) ?_ rfl ?_
 rotate_left
 ·go_simp
  try with_reducible rfl
 simp only[nz]
 refine pl_t 6 (?_) (by rfl) ?_ rfl ?_
 rotate_left
 ·go_simp
  try with_reducible rfl
 simp only[nz]
 refine za ?_
 have hk:=(hk.below B5).below hb6
 have B:=B.trans ((B5.trans (hb6.mono B5.size)).mono B.size)
 clear B5 hb6 cEn hbm ru sX4 iu hu1
 go_upto_region 4 with fail
 try simp only[Act.put]
 refine zb ?_
 refine pl_t 25 (?_) (by rfl) ?_ rfl ?_
 rotate_left
 ·go_simp
  try with_reducible rfl
 simp only[nz]
 refine ze (d:=some 26) (by rfl) (by go_simp;first|done|exact⟨rfl,rfl⟩|with_reducible rfl) rfl ?_
 refine(cC w6).mono ?_
 rintro _ w7 ⟨x,rfl,hxs,hxa,hb7⟩
 refine⟨_,rfl,?_⟩
 simp only[nz]
 refine pl_t 7 (?_) (by rfl) ?_ rfl ?_
 rotate_left
 ·go_simp
  try with_reducible rfl
 simp only[nz]
 refine za ?_
 have hk:=hk.below hb7
 have B:=B.trans (hb7.mono B.size)
 obtain⟨xa,xc,xs⟩:=x
 have hxs:xs=[⟨5,bd,tg⟩]:=hxs
 subst hxs
 obtain⟨b,off,hab0,sb,hre0⟩:=hxa.elem 0 (by simp)
 have hab:xa=some ⟨b,off,none⟩:=hab0
 have hre:w7.rangeAt b (off+0*18) (.int .i64 5::.string bd::v8 tg):=hre0
 clear hab0 hre0
 rw[Nat.zero_mul,Nat.add_zero]at hre
 clear hxa hb7
 subst hab
 simp only[Sl.val,List.length_singleton]
 go_upto_region 5 with fail
 have hdr:Below w7.heap.size w7 w7.drew:=(Below.refl _ _).drew
 have hre:=zd hre hdr sb
 have hk:=hk.below hdr
 have B:=B.trans (hdr.mono B.size)
 have sb:=Nat.lt_of_lt_of_le sb hdr.size
 refine zG (S:=(Below w7.drew.heap.size w7.drew)) 31 rfl (by kernel_rfl) ?_
 obtain⟨w8,hw8⟩:∃W,w7.drew=W:=⟨_,rfl⟩
 rw[hw8]at hre hk B sb ⊢
 clear hdr hw8
 have hS:(Below w8.heap.size w8) w8:=Below.refl _ _
 have c0:w8.cell? ⟨b,off,none⟩=some (.int .i64 5):=hre 0 _ rfl
 have c1:w8.cell? ⟨b,off+1,none⟩=some (.string bd):=hre 1 _ rfl
 have ct:w8.rangeAt b (off+2) (v8 tg):=fun j y hy=>by
  have:=hre (j+2) y hy
  rw[show off+(j+2)=off+2+j by omega]at this
  exact this
 have cH:=fun(_:World)=>cH1 p w8 (HG.out.below B) hk
 refine hs_t 0 27 (?_) rfl (by kernel_rfl) (by kernel_rfl) (by kernel_rfl) (by rfl) ?_ hS rfl ?_
 rotate_left
 ·intro w' hw
  go_simp
  try with_reducible rfl
 simp only[nz]
 refine hs_t 1 28 (.bool true) rfl (by kernel_rfl) (by kernel_rfl) (by kernel_rfl) (by rfl) (fun w' hw=>by go_simp) hS rfl ?_
 simp only[nz]
 refine hs_t 2 29 (?_) rfl (by kernel_rfl) (by kernel_rfl) (by kernel_rfl) (by rfl) ?_ hS rfl ?_
 rotate_left
 ·intro w' hw
  go_simp
  try with_reducible rfl
 simp only[nz]
 refine hs_t 3 30 (?_) rfl (by kernel_rfl) (by kernel_rfl) (by kernel_rfl) (by rfl) ?_ hS rfl ?_
 rotate_left
 ·intro w' hw
  go_simp
  try with_reducible rfl
 simp only[nz]
 refine hs_t 4 31 (.bool true) rfl (by kernel_rfl) (by kernel_rfl) (by kernel_rfl) (by rfl) (fun w' hw=>by go_simp) hS rfl ?_
 simp only[nz]
 refine hs_t 5 32 (?_) rfl (by kernel_rfl) (by kernel_rfl) (by kernel_rfl) (by rfl) ?_ hS rfl ?_
 rotate_left
 ·intro w' hw
  go_simp
  try with_reducible rfl
 simp only[nz]
 refine hs_t 6 33 (?_) rfl (by kernel_rfl) (by kernel_rfl) (by kernel_rfl) (by rfl) ?_ hS rfl ?_
 rotate_left
 ·intro w' hw
  go_simp
  try with_reducible rfl
 simp only[nz]
 refine hs_t 7 34 (?_) rfl (by kernel_rfl) (by kernel_rfl) (by kernel_rfl) (by rfl) ?_ hS rfl ?_
 rotate_left
 ·intro w' hw
  go_simp
  try with_reducible rfl
 simp only[nz]
 refine hs_t 8 35 (?_) rfl (by kernel_rfl) (by kernel_rfl) (by kernel_rfl) (by rfl) ?_ hS rfl ?_
 rotate_left
 ·intro w' hw
  go_simp
  try with_reducible rfl
 simp only[nz]
 refine hs_t 9 36 (.bool true) rfl (by kernel_rfl) (by kernel_rfl) (by kernel_rfl) (by rfl) (fun w' hw=>by go_simp) hS rfl ?_
 simp only[nz]
 refine hs_t 10 37 (?_) rfl (by kernel_rfl) (by kernel_rfl) (by kernel_rfl) (by rfl) ?_ hS rfl ?_
 rotate_left
 ·intro w' hw
  go_simp
  try with_reducible rfl
 simp only[nz]
 refine hs_t 11 38 (?_) rfl (by kernel_rfl) (by kernel_rfl) (by kernel_rfl) (by rfl) ?_ hS rfl ?_
 rotate_left
 ·intro w' hw
  go_simp
  try with_reducible rfl
 simp only[nz]
 refine hs_t 12 39 (?_) rfl (by kernel_rfl) (by kernel_rfl) (by kernel_rfl) (by rfl) ?_ hS rfl ?_
 rotate_left
 ·intro w' hw
  go_simp
  try with_reducible rfl
 simp only[nz]
 refine hs_t 13 40 (.pointer (some ⟨b,off,none⟩)) rfl (by kernel_rfl) (by kernel_rfl) (by kernel_rfl) (by rfl) (fun w' hw=>by go_simp<;>(try simp[*])) hS rfl ?_
 simp only[nz]
 refine hs_t 14 41 (.pointer (some ⟨b,off,none⟩)) rfl (by kernel_rfl) (by kernel_rfl) (by kernel_rfl) (by rfl) (fun w' hw=>by go_simp<;>(try simp[*])) hS rfl ?_
 simp only[nz]
 refine hs_t 15 42 (.int .i64 5) rfl (by kernel_rfl) (by kernel_rfl) (by kernel_rfl) (by rfl) (fun w' hw=>zg rfl rfl ((hw.cell (p:=⟨b,off,none⟩) sb).trans c0) underlying3 rfl) hS rfl ?_
 simp only[nz]
 refine hs_t 16 43 (.bool true) rfl (by kernel_rfl) (by kernel_rfl) (by kernel_rfl) (by rfl) (fun w' hw=>by go_simp) hS rfl ?_
 simp only[nz]
 refine hs_t 17 44 (?_) rfl (by kernel_rfl) (by kernel_rfl) (by kernel_rfl) (by rfl) ?_ hS rfl ?_
 rotate_left
 ·intro w' hw
  go_simp
  try with_reducible rfl
 simp only[nz]
 refine hs_t 18 45 (?_) rfl (by kernel_rfl) (by kernel_rfl) (by kernel_rfl) (by rfl) ?_ hS rfl ?_
 rotate_left
 ·intro w' hw
  go_simp
  try with_reducible rfl
 simp only[nz]
 refine hs_t 19 46 (?_) rfl (by kernel_rfl) (by kernel_rfl) (by kernel_rfl) (by rfl) ?_ hS rfl ?_
 rotate_left
 ·intro w' hw
  go_simp
  try with_reducible rfl
 simp only[nz]
 refine hs_t 20 47 (?_) rfl (by kernel_rfl) (by kernel_rfl) (by kernel_rfl) (by rfl) ?_ hS rfl ?_
 rotate_left
 ·intro w' hw
  go_simp
  try with_reducible rfl
 simp only[nz]
 refine hs_t 21 48 (.pointer (some ⟨b,off,none⟩)) rfl (by kernel_rfl) (by kernel_rfl) (by kernel_rfl) (by rfl) (fun w' hw=>by go_simp<;>(try simp[*])) hS rfl ?_
 simp only[nz]
 refine hs_t 22 49 (.pointer (some ⟨b,off+1,none⟩)) rfl (by kernel_rfl) (by kernel_rfl) (by kernel_rfl) (by rfl) (fun w' hw=>by go_simp<;>(try simp[*])) hS rfl ?_
 simp only[nz]
 refine hs_t 23 50 (.string bd) rfl (by kernel_rfl) (by kernel_rfl) (by kernel_rfl) (by rfl) (fun w' hw=>zg rfl rfl ((hw.cell (p:=⟨b,off+1,none⟩) sb).trans c1) underlying9 rfl) hS rfl ?_
 simp only[nz]
 refine hs_t 24 51 (?_) rfl (by kernel_rfl) (by kernel_rfl) (by kernel_rfl) (by rfl) ?_ hS rfl ?_
 rotate_left
 ·intro w' hw
  go_simp
  try with_reducible rfl
 simp only[nz]
 refine hs_t 25 52 (.pointer (some ⟨b,off,none⟩)) rfl (by kernel_rfl) (by kernel_rfl) (by kernel_rfl) (by rfl) (fun w' hw=>by go_simp<;>(try simp[*])) hS rfl ?_
 simp only[nz]
 refine hs_t 26 53 (.pointer (some ⟨b,off+2,none⟩)) rfl (by kernel_rfl) (by kernel_rfl) (by kernel_rfl) (by rfl) (fun w' hw=>by go_simp<;>(try simp[*])) hS rfl ?_
 simp only[nz]
 refine hs_t 27 54 (.agg (v8 tg).toArray) rfl (by kernel_rfl) (by kernel_rfl) (by kernel_rfl) (by rfl) (fun w' hw=>zp rfl rfl (zd ct hw sb) underlying23 rfl it16) hS rfl ?_
 simp only[nz]
 refine zx (i:=28) (d:=some 55) rfl (by kernel_rfl) (by rfl) (by go_simp;first|done|exact⟨rfl,rfl⟩|with_reducible rfl) rfl ?_
 refine(cH w8).mono ?_
 rintro _ w9 ⟨rfl,hb9⟩
 have hS:(Below w8.heap.size w8) w9:=hS.trans (hb9.mono hS.size)
 refine⟨_,rfl,hS,?_⟩
 simp only[nz]
 refine hs_t 29 56 (?_) rfl (by kernel_rfl) (by kernel_rfl) (by kernel_rfl) (by rfl) ?_ hS rfl ?_
 rotate_left
 ·intro w' hw
  go_simp
  try with_reducible rfl
 simp only[nz]
 refine hs_t 30 0 (?_) rfl (by kernel_rfl) (by kernel_rfl) (by kernel_rfl) (by rfl) ?_ hS rfl ?_
 rotate_left
 ·intro w' hw
  go_simp
  try with_reducible rfl
 simp only[nz]
 refine zE (by kernel_rfl) ?_
 have HB:=hide (B.trans (hS.mono B.size))
 clear hre hk B sb c0 c1 ct cH cH1
 go_wp2_with fail
 go_ret
 exact⟨rfl,HB.out⟩
theorem zj1 {P:Program} {o:Oper} {a:Act} {w:World} {op:BinOp} {t t2:TypeId} {x y:Operand} {u v:Array Value} {r:Value} (ho:o.op=.binOp op t x y t2) (hx:a.eval x=.agg u) (hy:a.eval y=.agg v) (hm:P.eqGuardType P.depth t=false) (hr:(binOp op t (.agg u) (.agg v)).run P w=.ok r w):(execOp a.eval o).run P w=.ok (.value r) w:=by
 unfold execOp
 simp only[ho,hx,hy,Sem.run_bind,run_eqGuard_agg w op t x y u v hm,Result.andThen_ok,hr,Sem.run_pure]
theorem fldCl : (prog.fieldsOf 69).toList.map (fun f => (f.name, f.type, f.offset)) = [("ID", 3, 0), ("Body", 9, 1), ("Tag", 23, 2)] := by kernel_rfl
theorem undCl:prog.underlying 69=some (.struct (prog.fieldsOf 69)):=by kernel_rfl
theorem sihCl:prog.stoodInHeld 69=false:=by kernel_rfl
theorem zkS (x y:Ev) (hx:x.t.length=16) (hy:y.t.length=16) (d:Nat) (w:World):
  (Op.equalIn (d+2+1) 69 (.agg x.cells.toArray) (.agg y.cells.toArray)).run prog w=.ok (Ev.B x y) w:=by
 rw[run_equalIn_struct w (d+2) 69 _ _ undCl sihCl]
 have hf:=fldCl
 generalize (prog.fieldsOf 69).toList=fs at hf
 obtain⟨f0,f1,f2,rfl⟩:∃f0 f1 f2,fs=[f0,f1,f2]:=by
  rcases fs with _|⟨f0,_|⟨f1,_|⟨f2,_|⟨f3,fs⟩⟩⟩⟩<;>simp at hf
  exact⟨f0,f1,f2,rfl⟩
 simp only[List.map_cons,List.map_nil,List.cons.injEq,Prod.mk.injEq,and_true]at hf
 obtain⟨⟨a0,b0,d0⟩,⟨a1,b1,d1⟩,⟨a2,b2,d2⟩⟩:=hf
 have p0:=zaq w x.cells 0 x.n rfl
 have q0:=zaq w y.cells 0 y.n rfl
 have p1:=zbE w x.cells 1 x.s rfl
 have q1:=zbE w y.cells 1 y.s rfl
 have p2:=zbb w x.cells 2 x.t (by show List.take 16 (v8 x.t)=v8 x.t;rw[List.take_of_length_le (by rw[v8_length,hx];exact Nat.le_refl _)])
 have q2:=zbb w y.cells 2 y.t (by show List.take 16 (v8 y.t)=v8 y.t;rw[List.take_of_length_le (by rw[v8_length,hy];exact Nat.le_refl _)])
 have eI:=fun a b=>run_equalIn_int (P:=prog) w (d+1) 3 .i64 .i64 a b underlying3
 have eS:=fun a b=>run_equalIn_string (P:=prog) w (d+1) 9 a b underlying9
 have eT:=zbl (P:=prog) w d 23 5 16 underlying23 underlying5 isz8 x.t y.t hx hy
 unfold Ev.B
 generalize x.cells.toArray=q at *
 generalize y.cells.toArray=q' at *
 obtain⟨T,hT⟩:∃T,(v8 x.t).toArray=T:=⟨_,rfl⟩
 obtain⟨T',hT'⟩:∃T,(v8 y.t).toArray=T:=⟨_,rfl⟩
 rw[hT]at p2 eT
 rw[hT']at q2 eT
 clear hT hT'
 obtain⟨D,hD⟩:∃D,d+1+1=D:=⟨_,rfl⟩
 have eT:(Op.equalIn (d+1+1) 23 (.agg T) (.agg T')).run prog w=.ok (x.t==y.t) w:=eT
 rw[hD]at eT
 have n0 : ¬ ("ID" = "_") := by decide
 have n1 : ¬ ("Body" = "_") := by decide
 have n2 : ¬ ("Tag" = "_") := by decide
 simp only[Op.eqFields,a0,b0,d0,a1,b1,d1,a2,b2,d2,ne_eq,n0,n1,n2,not_false_eq_true,if_true]
 rw[show d+2=d+1+1 from rfl,hD]
 rw[hD]at eI
 simp only[hD]at eS
 clear hD
 simp only[Sem.run_bind,p0,q0,Result.andThen_ok,eI]
 cases (x.n==y.n)
 ·simp only[Bool.not_false,if_true,Sem.run_pure,Bool.false_and]
 ·simp only[Bool.not_true,Bool.false_eq_true,if_false,Sem.run_bind,p1,q1,Result.andThen_ok,eS,Bool.true_and]
  cases (x.s.toList==y.s.toList)
  ·simp only[Bool.not_false,if_true,Sem.run_pure,Bool.false_and]
  ·simp only[Bool.not_true,Bool.false_eq_true,if_false,Sem.run_bind,p2,q2,Result.andThen_ok,eT,Bool.true_and]
   cases (x.t==y.t)
   ·simp only[Bool.not_false,if_true,Sem.run_pure]
   ·simp only[Bool.not_true,Bool.false_eq_true,if_false,Sem.run_pure]
theorem zkT (x y:Ev) (hx:x.ok) (hy:y.ok) (w:World):(Op.equalIn 10000 69 (.agg x.cells.toArray) (.agg y.cells.toArray)).run prog w=.ok (Ev.B x y) w:=zkS x y hx.tl hy.tl 9997 w
theorem zkR (x:Ev) (hx:x.ok) (w:World):(binOp .neq 69 (.agg x.cells.toArray) (.agg x.cells.toArray)).run prog w=.ok (.bool false) w:=by
 rw[run_neq_struct,zkT x x hx hx w,Ev.B_iff.2 rfl];rfl
theorem zkb (N:Int) (sb:ByteArray) (w:World) (hG:Glob w):Calls prog 5 #[.int .i64 N,.string sb] w fun e w'=>e=.returned (.bool true)∧Below w.heap.size w w':=by
 have HG:=hide hG
 have cA0:=fun(h:sb.size≤40000) w0=>zfZ N sb w0 h
 have cX0:=fun(h:sb.size≤40000) w0=>zgQ N sb w0 h
 unfold ClaimsA at cA0 cX0
 generalize claimsC N sb=R at cA0 cX0
 obtain⟨z,hz⟩:∃z,sb.size=z:=⟨_,rfl⟩
 rw[hz]at cA0 cX0
 clear hG
 have HZ:=hide hz
 have B0:=Below.refl w.heap.size w
 go_enter func5,ntmps5
 go_upto_region 1 with fail
 by_cases hl:z≤20000
 rotate_left
 ·have h2:(20000:Int)<z:=by omega
  clear cA0 cX0 hl
  try simp only[Act.put]
  refine zb ?_
  refine pl_t 8 (?_) (by rfl) ?_ rfl ?_
  rotate_left
  ·go_simp
   try with_reducible rfl
  simp only[nz]
  refine pl_t 9 (.int .i64 (z:Int)) (by rfl) (by go_simp<;>(try simp[hz])) rfl ?_
  simp only[nz]
  refine pl_t 10 (.bool true) (by rfl) (by go_simp<;>(try simp[*])) rfl ?_
  simp only[nz]
  refine za ?_
  clear h2 hz
  go_upto_region 2 with fail
  try simp only[Act.put]
  refine zb ?_
  refine ze (d:=some 11) (by rfl) (by go_simp;first|done|exact⟨rfl,rfl⟩|with_reducible rfl) rfl ?_
  refine(zfo w (HG.out.below B0)).mono ?_
  rintro _ wL ⟨rfl,hbL⟩
  refine⟨_,rfl,?_⟩
  simp only[nz]
  refine pl_t 4 (?_) (by rfl) ?_ rfl ?_
  rotate_left
  ·go_simp
   try with_reducible rfl
  simp only[nz]
  refine za ?_
  have HB:=hide (B0.trans (hbL.mono B0.size))
  go_wp2_with fail
  go_ret
  exact⟨rfl,HB.out⟩
 have h2:¬(20000:Int)<z:=by omega
 have cA:=cA0 (by omega)
 have cX:=cX0 (by omega)
 clear cA0 cX0 hl
 try simp only[Act.put]
 refine zb ?_
 refine pl_t 8 (?_) (by rfl) ?_ rfl ?_
 rotate_left
 ·go_simp
  try with_reducible rfl
 simp only[nz]
 refine pl_t 9 (.int .i64 (z:Int)) (by rfl) (by go_simp<;>(try simp[hz])) rfl ?_
 simp only[nz]
 refine pl_t 10 (.bool false) (by rfl) (by go_simp<;>(try simp[*])) rfl ?_
 simp only[nz]
 refine za ?_
 clear h2 hz
 go_upto_region 3 with fail
 try simp only[Act.put]
 refine zb ?_
 refine pl_t 12 (?_) (by rfl) ?_ rfl ?_
 rotate_left
 ·go_simp
  try with_reducible rfl
 simp only[nz]
 refine pl_t 13 (?_) (by rfl) ?_ rfl ?_
 rotate_left
 ·go_simp
  try with_reducible rfl
 simp only[nz]
 refine ze (d:=some 14) (by rfl) (by go_simp;first|done|exact⟨rfl,rfl⟩|with_reducible rfl) rfl ?_
 refine(cA w).mono ?_
 rintro _ w1 ⟨x,rfl,hxs,hxa,hb1⟩
 refine⟨_,rfl,?_⟩
 simp only[nz]
 refine pl_t 15 (?_) (by rfl) ?_ rfl ?_
 rotate_left
 ·go_simp
  try with_reducible rfl
 simp only[nz]
 refine pl_t 16 (?_) (by rfl) ?_ rfl ?_
 rotate_left
 ·go_simp
  try with_reducible rfl
 simp only[nz]
 refine ze (d:=some 17) (by rfl) (by go_simp;first|done|exact⟨rfl,rfl⟩|with_reducible rfl) rfl ?_
 refine(cX w1).mono ?_
 rintro _ w2 ⟨y,rfl,hys,hya,hb2⟩
 refine⟨_,rfl,?_⟩
 simp only[nz]
 refine pl_t 5 (?_) (by rfl) ?_ rfl ?_
 rotate_left
 ·go_simp
  try with_reducible rfl
 simp only[nz]
 refine pl_t 6 (?_) (by rfl) ?_ rfl ?_
 rotate_left
 ·go_simp
  try with_reducible rfl
 simp only[nz]
 refine za ?_
 have hxa:=hxa.below hb2
 have B2:=hb1.trans (hb2.mono hb1.size)
 obtain⟨xa,xc,xs⟩:=x
 obtain⟨ya,yc,ys⟩:=y
 have hxs:xs=R:=hxs
 have hys:ys=R:=hys
 subst hys
 subst hxs
 obtain⟨n,hn⟩:∃n,xs.length=n:=⟨_,rfl⟩
 simp only[Sl.val,hn]
 have HN:=hide hn
 have HX:=hide hxa
 have HY:=hide hya
 clear hn hxa hya hb1 hb2 cA cX
 have HB0:Hid (Below w2.heap.size w2 w2):=hide (Below.refl _ _)
 have HNm:Hid (n≤9223372036854775807):=hide (by have:=HX.out.1;rw[←HN.out];exact this)
 go_wp2_with fail
 go_loopw [25] (fun iv wr=>∃k:Nat,k≤n∧iv=.int .i64 (k:Int)∧Hid (Below w2.heap.size w2 wr)) (fun iv _=>n - (intOf iv).toNat)
 case atStart=>exact⟨0,by omega,rfl,HB0⟩
 case round=>
  clear HB0
  obtain⟨k,hk,rfl,HK⟩:=hrel
  by_cases hlt:k<n
  ·have k1:(k:Int)<n:=by omega
   have hn9:n≤9223372036854775807:=HNm.out
   have hkx:k<xs.length:=by rw[HN.out];exact hlt
   obtain⟨b,off,hab0,hbw,hre0⟩:=(HX.out.below HK.out).elem k hkx
   have hab:xa=some ⟨b,off,none⟩:=hab0
   have hre:wr.rangeAt b (off+k*18) (EvE.f xs[k]):=hre0
   obtain⟨c,oft,hac0,hcw,hrf0⟩:=(HY.out.below HK.out).elem k hkx
   have hac:ya=some ⟨c,oft,none⟩:=hac0
   have hrf:wr.rangeAt c (oft+k*18) (EvE.f xs[k]):=hrf0
   clear hab0 hre0 hac0 hrf0
   have okx:Ev.ok xs[k]:=HX.out.2.1 _ (List.getElem_mem hkx)
   have hne:=fun w0=>zkR xs[k] okx w0
   have hne:∀w0,(binOp .neq 69 (.agg (EvE.f xs[k]).toArray) (.agg (EvE.f xs[k]).toArray)).run prog w0=.ok (.bool false) w0:=hne
   have iu:(prog.info? 69).map (·.size)=some (EvE.f xs[k]).length:=by rw[EvE.len _ okx];kernel_rfl
   have iy:(prog.info? 70).map (·.size)=some (EvE.f xs[k]).length:=by rw[EvE.len _ okx];kernel_rfl
   obtain⟨u,hu⟩:∃u,Hid (EvE.f xs[k]=u):=⟨_,hide rfl⟩
   rw[hu.out]at hre hrf iu iy
   simp only[hu.out]at hne
   clear hu okx
   subst hab
   subst hac
   go_upto_region 9 with fail
   have hdr:Below wr.heap.size wr wr.drew:=(Below.refl _ _).drew
   have hre:=zd hre hdr hbw
   have hrf:=zd hrf hdr hcw
   have hbw:=Nat.lt_of_lt_of_le hbw hdr.size
   have hcw:=Nat.lt_of_lt_of_le hcw hdr.size
   have HK:=hide (HK.out.trans (hdr.mono HK.out.size))
   refine zG (S:=(Below wr.drew.heap.size wr.drew)) 9 rfl (by kernel_rfl) ?_
   obtain⟨w8,hw8⟩:∃W,wr.drew=W:=⟨_,rfl⟩
   rw[hw8]at hre hrf hbw hcw HK ⊢
   clear hdr hw8
   have hS:(Below w8.heap.size w8) w8:=Below.refl _ _
   refine hs_t 0 28 (?_) rfl (by kernel_rfl) (by kernel_rfl) (by kernel_rfl) (by rfl) ?_ hS rfl ?_
   rotate_left
   ·intro w' hw
    go_simp
    try with_reducible rfl
   simp only[nz]
   refine hs_t 1 29 (?_) rfl (by kernel_rfl) (by kernel_rfl) (by kernel_rfl) (by rfl) ?_ hS rfl ?_
   rotate_left
   ·intro w' hw
    go_simp
    try with_reducible rfl
   simp only[nz]
   refine hs_t 2 30 (.pointer (some ⟨b,off+k*18,none⟩)) rfl (by kernel_rfl) (by kernel_rfl) (by kernel_rfl) (by rfl) (fun w' hw=>by go_simp<;>(try simp[*])) hS rfl ?_
   simp only[nz]
   refine hs_t 3 31 (.agg u.toArray) rfl (by kernel_rfl) (by kernel_rfl) (by kernel_rfl) (by rfl) (fun w' hw=>zp rfl rfl (zd hre hw hbw) underlying69 rfl iu) hS rfl ?_
   simp only[nz]
   refine hs_t 4 32 (?_) rfl (by kernel_rfl) (by kernel_rfl) (by kernel_rfl) (by rfl) ?_ hS rfl ?_
   rotate_left
   ·intro w' hw
    go_simp
    try with_reducible rfl
   simp only[nz]
   refine hs_t 5 33 (?_) rfl (by kernel_rfl) (by kernel_rfl) (by kernel_rfl) (by rfl) ?_ hS rfl ?_
   rotate_left
   ·intro w' hw
    go_simp
    try with_reducible rfl
   simp only[nz]
   refine hs_t 6 34 (.pointer (some ⟨c,oft+k*18,none⟩)) rfl (by kernel_rfl) (by kernel_rfl) (by kernel_rfl) (by rfl) (fun w' hw=>by go_simp<;>(try simp[*])) hS rfl ?_
   simp only[nz]
   refine hs_t 7 35 (.agg u.toArray) rfl (by kernel_rfl) (by kernel_rfl) (by kernel_rfl) (by rfl) (fun w' hw=>zp rfl rfl (zd hrf hw hcw) underlying70 rfl iy) hS rfl ?_
   simp only[nz]
   refine hs_t 8 36 (.bool false) rfl (by kernel_rfl) (by kernel_rfl) (by kernel_rfl) (by rfl) (fun w' hw=>zj1 rfl rfl rfl (by kernel_rfl) (hne _)) hS rfl ?_
   simp only[nz]
   refine zE (by kernel_rfl) ?_
   clear hre hrf hbw hcw hS hne iu iy
   go_wp2_with fail
   go_roundw
   case rel=>exact⟨k+1,by omega,by go_num,HK⟩
   case measure=>simp[intOf];omega
  ·obtain rfl:k=n:=by omega
   have B:=B2.trans (HK.out.mono B2.size)
   clear HK hlt HX HY
   go_upto_region 12 with fail
   try simp only[Act.put]
   refine zb ?_
   refine ze (d:=some 38) (by rfl) (by go_simp;first|done|exact⟨rfl,rfl⟩|with_reducible rfl) rfl ?_
   refine(zfo wr (HG.out.below B)).mono ?_
   rintro _ wL ⟨rfl,hbL⟩
   refine⟨_,rfl,?_⟩
   simp only[nz]
   refine pl_t 4 (?_) (by rfl) ?_ rfl ?_
   rotate_left
   ·go_simp
    try with_reducible rfl
   simp only[nz]
   refine za ?_
   have HB:=hide (B.trans (hbL.mono B.size))
   go_wp2_with fail
   go_ret
   exact⟨rfl,HB.out⟩
open Go.ChangeShapes Go.WideShapes Go.ChangeAt Go.RowKit
open Sha
theorem own:ownKnob prog.godebug=none:=by kernel_rfl
theorem laidOut:laidOutB prog=true:=by kernel_rfl
def laid2 {H : Type} : List (String × DataW H) := [("raddle/digest.starts", Rows.laid_raddle_digest_starts), ("raddle/digest.roots", Rows.laid_raddle_digest_roots)]
theorem gS : prog.globalNamed "raddle/digest.starts" = some 0 := by kernel_rfl
theorem gR : prog.globalNamed "raddle/digest.roots" = some 1 := by kernel_rfl
theorem tS:(prog.globals[0]?).map (·.type)=some 168:=by kernel_rfl
theorem tR:(prog.globals[1]?).map (·.type)=some 238:=by kernel_rfl
theorem zkg (os:Os) (args:Array Value):laidMetH prog laid2 ((World.doorLaid prog 400 os).forCall (fun _ _=>0) ⟨#[],args,[]⟩).memory:=
 laidMetH_of_parts3 (fuel:=8) (laidMet_of_run' 8 (by kernel_rfl) (by kernel_rfl)) (by kernel_rfl) (by kernel_rfl)
def startZ:List Int:=(list init).map fun x=>(x.toNat:Int)
def rootZ:List Int:=kl.map fun x=>(x.toNat:Int)
theorem zhx {H:Type}:(Rows.laid_raddle_digest_starts:DataW H)=Lib.tabData .u32 startZ:=by kernel_rfl
theorem zhV {H:Type}:(Rows.laid_raddle_digest_roots:DataW H)=Lib.tabData .u32 rootZ:=by kernel_rfl
theorem zjD {W:World} (h:laidMetH prog laid2 W):Glob W:=by
 rw[MakeChecks.laidMetH_plain _ _ _ (by kernel_rfl)]at h
 obtain⟨ps,⟨g0,t0,cs0,f0,p0,q0,hg0,ht0,hv0,hd0,⟨g1,t1,cs1,f1,p1,q1,hg1,ht1,hv1,hd1,_,_⟩,_⟩,_,_⟩:=h
 obtain rfl:=Option.some.inj (gS.symm.trans hg0)
 obtain rfl:=Option.some.inj (gR.symm.trans hg1)
 obtain rfl:=Option.some.inj (tS.symm.trans ht0)
 obtain rfl:=Option.some.inj (tR.symm.trans ht1)
 rw[zhx]at hd0
 rw[zhV]at hd1
 have e0:=Lib.cells_of_tab underlying168 underlying167 (by kernel_rfl) (by kernel_rfl) hd0
 have e1:=Lib.cells_of_tab underlying238 underlying167 (by kernel_rfl) (by kernel_rfl) hd1
 have r0:W.rangeAt 0 0 (v32 (list init)):=fun j v hv=>by
  have:=World.var?_cell hg0 hv0 j
  rw[Nat.zero_add,this,←Array.getElem?_toList,e0]
  simpa [startZ,v32]using hv
 have r1:W.rangeAt 1 0 (v32 kl):=fun j v hv=>by
  have:=World.var?_cell hg1 hv1 j
  rw[Nat.zero_add,this,←Array.getElem?_toList,e1]
  simpa [rootZ,v32]using hv
 refine⟨r0,r1,?_⟩
 have:=World.block_lt_of_cell? W _ (r1 0 _ rfl)
 exact this
end Go.Proofs.YtcbpbkefggekmaaGreatDoor
namespace Go.Proofs.YtcbpbkefggekmaaGreatDoor.envelopeClaims
open Go.ChangeShapes Go.WideShapes Go.ChangeAt Go.RowKit
open Go.ChangeMaps (open_string shut_string)
set_option linter.unusedVariables false
theorem lifted (os:Os) (started:os.Started) (H:Type) (enc:TypeId ×Value→H):
  ReturnsInHanded {} checked os 5 .any (fun w args=>(Rows.envelopeClaimsSpec.pre enc prog Tryz.f5 [] false w args∧laidMetH prog laid2 w)∧sizedMet enc prog Tryz.f5 (OpenSpec.ofChange Rows.envelopeClaimsSpec) false w args)
   (Rows.envelopeClaimsSpec.post enc prog Tryz.f5 false true false false):=by
 refine returnsInHanded_of_change_and (C:=checked) (X:=fun w _=>laidMetH prog laid2 w) (fun _ _ _ hh h=>h.of_heap hh) own started (by kernel_rfl) func5
  (ChangeSpec.witness_shaped (enc:=enc) (C:=checked) (os:=os) (X:=fun w _=>laidMetH prog laid2 w) false (World.doorLaid prog 400 os) #[.int .i64 0,.string ByteArray.empty] 8 rfl (World.shaped_of_RefB (by kernel_rfl) (by kernel_rfl)) (by kernel_rfl) (by kernel_rfl) (by kernel_rfl) (zkg os _)) ?_
 intro W base args ds gs before hval0 hW _ _ hL _
 have hval:∀(j:Nat) t v,Tryz.f5.params[j]? =some t→args[j]? =some v→Value.okWide prog W .any base t v:=hval0
 have hW':=hW
 obtain⟨p,q,hA0,hV,rfl,hfz,hnd⟩:=hW
 have hA:DataW.TrodAll enc prog W 0 (fun _=>true) true Tryz.f5.params.toList args.toList ds p:=hA0
 rw[params5]at hA hval
 obtain⟨v0,vs0,d0,ds0,p0,q0,hargs,rfl,rfl,h0,r0⟩:=trodAll_cons hA
 obtain⟨v1,vs1,d1,ds1,p1,q1,rfl,rfl,rfl,h1,r1⟩:=trodAll_cons r0
 obtain⟨rfl,rfl,rfl⟩:=trodAll_nil r1
 obtain rfl:args=#[v0,v1]:=by cases args;simp_all
 obtain⟨rfl,rfl⟩:=trodVars_none hV
 have k0:=h0
 have lt0:∀x∈p0,x.block<W.heap.size:=by obtain⟨m,hm⟩:=k0;exact DataW.trod_lt m _ _ _ hm
 have k1:=h1
 have lt1:∀x∈p1,x.block<W.heap.size:=by obtain⟨m,hm⟩:=k1;exact DataW.trod_lt m _ _ _ hm
 obtain⟨n0,rfl,rfl,rfl,hn0⟩:=open_int underlying3 (hval 0 3 v0 rfl rfl) h0
 obtain⟨s1,rfl,rfl,rfl,hs1⟩:=open_string underlying9 (hval 1 9 v1 rfl rfl) h1
 have hG:=zjD hL
 clear hA0 hval0
 refine(zkb n0 s1 W hG).mono fun e W' ⟨he,bel⟩=>?_
 subst he
 exact⟨_,rfl,_,_,_,[],_,[],hW',trodAll_mk1 (shut_bool underlying4 _),(trodAll_cons_mk (Below.trod laidOut (by kernel_rfl) (of_decide_eq_true (by kernel_rfl)) k0 bel lt0) (trodAll_cons_mk (Below.trod laidOut (by kernel_rfl) (of_decide_eq_true (by kernel_rfl)) k1 bel lt1) trodAll_mk0)),rfl,bel.frame _,fun h=>by cases h⟩
theorem over:Rows.EnvelopeClaimsSaid:=
 OpenClaim.holds_of_wide 5 Tryz.f5 rfl rfl rfl rfl rfl rfl rfl ⟨rfl,rfl,rfl,rfl,rfl⟩ rfl rfl rfl rfl rfl (by kernel_rfl) func5 (by kernel_rfl)
  (of_decide_eq_true (by kernel_rfl)) (by unfold Func.isWrapper;first|(rw[if_pos (by decide+kernel)];kernel_rfl)|(rw[if_neg (by decide+kernel)];exact⟨rfl,rfl⟩))
  (fun os started H enc _=>lifted os started H enc)
end Go.Proofs.YtcbpbkefggekmaaGreatDoor.envelopeClaims
namespace Go.Proofs.YtcbpbkefggekmaaGreatDoor
theorem envelopeClaims_card:Rows.EnvelopeClaimsCardSaid:=
 Claim7.holds_tied_plain_at .later [] [.data, .data] true (true, "25d2a5b30884e3b71ad816cffc66fba19366bef644f7b28281847e0f0242141c") false
  envelopeClaims.over (fun _ h=>by cases h) (by kernel_rfl) (fun _ h=>by cases h) envelopeClaims_row_tie rfl ⟨rfl,rfl⟩ (by kernel_rfl) rfl
  (fun f fn hf hfn=>by
   obtain rfl : f = 5 := Option.some.inj ((show prog.funcNamed "raddle/raddlelaw14.EnvelopeClaims" = some 5 by kernel_rfl).symm.trans hf) |>.symm
   obtain rfl:fn=Tryz.f5:=(Option.some.inj (func5.symm.trans hfn)).symm
   exact⟨by kernel_rfl,fun j t ht=>by
    rw[params5]at ht
    rcases j with _|_|j
    ·obtain rfl:t=3:=by simpa using ht.symm
     exact(show prog.wantsStandIn 3=false by kernel_rfl)
    ·obtain rfl:t=9:=by simpa using ht.symm
     exact(show prog.wantsStandIn 9=false by kernel_rfl)
    ·simp at ht⟩)
  (by kernel_rfl)
#print axioms envelopeClaims_card
end Go.Proofs.YtcbpbkefggekmaaGreatDoor
