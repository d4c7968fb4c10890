/- claims of batches, of certs; claims of certs, of messages; the tags of a message, but for its news; the document: claims of batches, of certs; the document: the -/
import Derived.Test.YtcbpbkefggekmaaGreatDoorJS0
import Derived.Test.YtcbpbkefggekmaaGreatDoorJS14
import Derived.Test.YtcbpbkefggekmaaGreatDoorJS15
import Derived.Deep.DeepCutAuto
import Derived.Test.YtcbpbkefggekmaaGreatDoorJS12
import Derived.Test.YtcbpbkefggekmaaGreatDoorJS13
import Derived.Test.YtcbpbkefggekmaaGreatDoorJS4
import Derived.Test.YtcbpbkefggekmaaGreatDoorJS10
import Derived.Test.YtcbpbkefggekmaaGreatDoorJS11
set_option maxHeartbeats 2000000
set_option maxRecDepth 100000
open Go.Proofs.Tryz
namespace Go.Proofs.YtcbpbkefggekmaaGreatDoor
open Go.RowKit
open Sha Tal
set_option linter.unusedVariables false
set_option linter.unusedSimpArgs false
def batC (N:Int) (rs:List Rq):List Ev:=rs.map fun r=>⟨IntKind.i64.wrap (N+r.c),strOf (Rk.bodyL r.c r.n r.s),r.t⟩
def cerC (v:Vt) (ss:List Sg):List Ev:=ss.map fun s=>⟨s.n,optS v.may (voteL v),s.t⟩
def sgC (ss:List Sg):List Ev:=ss.map fun s=>⟨s.n,⟨#[]⟩,s.t⟩
def addV (O:Nat):Value:=.func (.func 52) #[] #[.pointer (some ⟨O,0,none⟩)]
theorem wrapIn (z:Int):-9223372036854775808≤IntKind.i64.wrap z∧IntKind.i64.wrap z≤9223372036854775807:=by rw[IntKind.wrap_i64];omega
theorem zcM (zs:List Int):(strOf zs).size=zs.length:=zbO zs
theorem zni {N:Int} {r:Rq} (h:r.ok) (hs:r.s.size≤100000):Ev.ok ⟨IntKind.i64.wrap (N+r.c),strOf (Rk.bodyL r.c r.n r.s),r.t⟩:=
 ⟨h.tl,h.tb,by
  have:=Rk.zeD r.c r.n r.s h.ch h.nh hs
  show(strOf (Rk.bodyL r.c r.n r.s)).size≤maxLen
  rw[zcM]
  unfold maxLen
  omega,(wrapIn _).1,(wrapIn _).2⟩
theorem zkx {v:Vt} (h:v.ok):(optS v.may (voteL v)).size≤1000:=by
 unfold optS
 split
 ·rw[zcM];exact ziA h
 ·decide
theorem zmP {v:Vt} (hv:v.ok) {s:Sg} (h:s.ok):Ev.ok ⟨s.n,optS v.may (voteL v),s.t⟩:=
 ⟨h.tl,h.tb,Nat.le_trans (zkx hv) (by unfold maxLen;decide),h.nl,h.nh⟩
theorem zjc {s:Sg} (h:s.ok):Ev.ok ⟨s.n,⟨#[]⟩,s.t⟩:=⟨h.tl,h.tb,Nat.zero_le _,h.nl,h.nh⟩
theorem zdI {α β:Type} {f:α→β} {xs:List α} {k:Nat} (hk:k<xs.length):(xs.map f).take (k+1)=(xs.map f).take k++[f xs[k]]:=by
 rw[List.take_add_one]
 simp[List.getElem?_eq_getElem hk]
theorem Grow.range {w w':World} {O b o:Nat} {v v':Value} {cs:List Value} (g:Grow w w' O v v') (hb:b<w.heap.size) (hc:Clr O v b) (h:w.rangeAt b o cs):w'.rangeAt b o cs:=fun j u hu=>by
 rw[(zZ (g.block b hb hc.1 hc.2)).1]
 exact h j u hu
structure CI (w wr:World) (O:Nat) (v vk:Value) (cs:List Ev):Prop where
 out:OutC wr O vk cs
 grow:Grow w wr O v vk
theorem CI.later {w wr w':World} {O:Nat} {v vk:Value} {cs:List Ev} (h:CI w wr O v vk cs) (hb:Below wr.heap.size wr w'):CI w w' O v vk cs:=⟨h.out.below hb,h.grow.trans (Grow.of hb _ _)⟩
theorem CI.add {w wr w':World} {O:Nat} {v vk v':Value} {cs ds:List Ev} (h:CI w wr O v vk cs) (ho:OutC w' O v' ds) (hg:Grow wr w' O vk v'):CI w w' O v v' ds:=⟨ho,h.grow.trans hg⟩
theorem zdn {w wr:World} {O:Nat} {v vk:Value} {cs:List Ev} (h:CI w wr O v vk cs) {b:Nat} (hb:wr.heap.size≤b):Clr O vk b:=⟨by have:=h.out.lt;omega,fun e=>by have:=(h.out.own.lt b e).2;omega⟩
theorem zhM (N:Int) (q:Bool) (x:Sl Rq) (O:Nat) (v:Value) (cs:List Ev) (w:World) (h:OutC w O v cs) (hx:x.At RqE w) (hc:x.Bk (Clr O v)) (hn:cs.length+x.xs.length≤1000000000) (hb:∀r∈x.xs,r.s.size≤100000):
  Calls prog 80 #[.int .i64 N,.agg #[.bool q,x.val],addV O] w fun en w'=>en=.returned (.tuple #[])∧∃v',OutC w' O v' (cs++batC N x.xs)∧Grow w w' O v v':=by
 obtain⟨z19,hzl,hzr⟩:∃z:List Value,z.length=19∧(∀w:World,(zeroValue 81).run prog w=.ok (.agg z.toArray) w):=⟨[.int .i64 0,.int .i64 0,.string ⟨#[]⟩]++v8 (List.replicate 16 0),rfl,fun w=>by kernel_rfl⟩
 have ca:=fun w0 vk ds e he h0 hl=>zdp O vk ds e w0 h0 he hl
 obtain⟨B1,r1,s1⟩:=zA w [.bool q,x.val] 39
 have pr:(w.alloc (.cells [Value.bool q,x.val].toArray 39)).cell? ⟨w.heap.size,1,none⟩=some x.val:=by have:=r1 1 _ rfl;rwa [Nat.zero_add]at this
 have HC0:CI w (w.alloc (.cells [Value.bool q,x.val].toArray 39)) O v v (cs++(batC N x.xs).take 0):=⟨by rw[List.take_zero,List.append_nil];exact h.below B1,Grow.of B1 _ _⟩
 have hx1:=hx
 obtain⟨xa,xc,xs⟩:=x
 obtain⟨n,hxn⟩:∃n,xs.length=n:=⟨_,rfl⟩
 have hval:(Sl.mk xa xc xs).val=.slice xa n xc:=by unfold Sl.val;rw[←hxn]
 rw[hval]at r1 pr HC0 B1 s1 ⊢
 clear hval r1
 have HN:=hide hxn
 have HXX:Hid (Sl.At RqE w ⟨xa,xc,xs⟩):=hide hx
 have HCC:=hide hc
 have HB:Hid (∀r∈xs,r.s.size≤100000):=hide hb
 have hn:cs.length+xs.length≤1000000000:=hn
 have HNN:=hide hn
 clear hx hx1 hc hb hn hxn h
 go_enter func80,ntmps80
 go_upto_region 1 with fail
 go_name_world W hW
 rw[show w.alloc (.cells #[.bool q,.slice xa n xc] 39)=W from hW]at B1 pr s1 HC0
 clear hW
 have HC1:=hide HC0
 clear HC0
 unfold addV
 go_wp2_with fail
 go_loopw [11] (fun iv wr=>∃(k:Nat) (vk:Value),k≤n∧iv=.int .i64 (k:Int)∧Hid (CI w wr O v vk (cs++(batC N xs).take k))) (fun iv _=>n - (intOf iv).toNat)
 case atStart=>exact⟨0,v,by omega,rfl,HC1⟩
 case round=>
  clear HC1 pr
  obtain⟨k,vk,hk,rfl,HK⟩:=hrel
  by_cases hlt:k<n
  ·have k1:(k:Int)<n:=by omega
   have hn9:n≤1000000000:=by have h1:=HNN.out;have h2:=HN.out;omega
   have hkx:k<xs.length:=by rw[HN.out];exact hlt
   obtain⟨b,off,hab,hbw,hre⟩:=(HXX.out.grow HK.out.grow HCC.out).elem k hkx
   have hab:xa=some ⟨b,off,none⟩:=hab
   have hre:wr.rangeAt b (off+k*19) (RqE.f xs[k]):=hre
   have okx:Rq.ok xs[k]:=HXX.out.2.1 _ (List.getElem_mem hkx)
   have hsz:=HB.out _ (List.getElem_mem hkx)
   have HT:Hid ((batC N xs).take (k+1)=(batC N xs).take k++[⟨IntKind.i64.wrap (N+(xs[k]).c),strOf (Rk.bodyL (xs[k]).c (xs[k]).n (xs[k]).s),(xs[k]).t⟩]):=hide (zdI hkx)
   have HL:(cs++(batC N xs).take k).length≤1000000000:=by have:=HNN.out;simp only[List.length_append,List.length_take];omega
   obtain⟨g,hg⟩:∃g,xs[k]=g:=⟨_,rfl⟩
   rw[hg]at hre okx hsz HT
   clear hg
   have hok:=zni (N:=N) okx hsz
   have ca:=fun w0 vk ds h0 hl=>ca w0 vk ds _ hok h0 hl
   have cb:=fun w0=>Rk.zhL g.c g.n g.s g.t w0 okx.tl okx.ch okx.nh hsz
   have cb:∀w0,Calls prog 101 #[.agg (RqE.f g).toArray] w0 fun e w'=>e=.returned (.string (strOf (Rk.bodyL g.c g.n g.s)))∧Below w0.heap.size w0 w':=cb
   have hu0:(RqE.f g)[0]? =some (.int .i64 g.c):=rfl
   have hut:RqE.f g=.int .i64 g.c::.int .i64 g.n::.string g.s::v8 g.t:=rfl
   have it16:(prog.info? 23).map (·.size)=some (v8 g.t).length:=by rw[v8_length,okx.tl];exact iszT
   have tgof:∀{w':World},w'.rangeAt wr.heap.size 0 (RqE.f g)→w'.rangeAt wr.heap.size 3 (v8 g.t):=fun {w'} hw j u hu=>by
    have:=hw (j+3) u (by rw[hut];exact hu)
    rw[show 0+(j+3)=3+j by omega]at this
    exact this
   have c0of:∀{w':World},w'.rangeAt wr.heap.size 0 (RqE.f g)→(RqE.f g)[0]? =some (.int .i64 g.c)→w'.cell? ⟨wr.heap.size,0,none⟩=some (.int .i64 g.c):=fun {w'} hw _=>by have:=hw 0 _ rfl;rwa [Nat.zero_add]at this
   have iu:(prog.info? 81).map (·.size)=some (RqE.f g).length:=by rw[RqE.len g okx];kernel_rfl
   have hul:(RqE.f g).length=19:=RqE.len g okx
   have hu1:=RqE.one g
   obtain⟨id,hid⟩:∃i,IntKind.i64.wrap (N+g.c)=i:=⟨_,rfl⟩
   rw[hid]at HT hok
   simp only[hid]at ca
   obtain⟨bd,hbd⟩:∃i,Hid (strOf (Rk.bodyL g.c g.n g.s)=i):=⟨_,hide rfl⟩
   rw[hbd.out]at HT hok
   simp only[hbd.out]at ca cb
   obtain⟨tg,htg⟩:∃t,Hid (g.t=t):=⟨_,hide rfl⟩
   rw[htg.out]at HT hok it16
   simp only[htg.out]at ca tgof
   clear hut okx hok hsz htg hbd
   generalize RqE.f g=u at *
   rw[hab]
   go_upto_region 3 with fail
   obtain⟨r5,hF,hF3,-⟩:=zq wr z19.toArray 81 u (by simp[hzl,hul])
   refine pl_b ?_
   refine pl_a 13 ?_
   refine pl_v 14 (.agg u.toArray) (zm rfl rfl hre underlying81 rfl iu) ?_
   refine pl_r 7 (.pointer (some ⟨wr.heap.size,0,none⟩)) (wr.alloc (.cells z19.toArray 81)) (zr rfl (hzr _)) ?_
   refine pl_s ((wr.alloc (.cells z19.toArray 81)).setCells wr.heap.size 0 u) (zo (cs:=u.toArray) rfl rfl rfl (zn _ _ _ (by simp[hzl,hul])) (by simpa using iu) (zp hu1)) ?_
   refine zb ?_
   have HC:=HK.out.later hF
   have HX:=zdn HK.out (Nat.le_refl _)
   clear HK
   obtain⟨X,hX⟩:∃X,wr.heap.size=X:=⟨_,rfl⟩
   simp only[hX]at r5 HC HX hF3 tgof c0of ⊢
   obtain⟨w5,hw5⟩:∃W,(wr.alloc (.cells z19.toArray 81)).setCells X 0 u=W:=⟨_,rfl⟩
   rw[hw5]at r5 HC hF3 ⊢
   have sX:X<w5.heap.size:=by omega
   clear hw5 hX hF hF3 hre hab
   go_upto_region 4 with fail
   have hdr:Below w5.heap.size w5 w5.drew:=(Below.refl _ _).drew
   have r5:=za r5 hdr sX
   have HC:=HC.later hdr
   have sX:=Nat.lt_of_lt_of_le sX hdr.size
   refine zw (S:=fun W':World=>W'.rangeAt X 0 u) 10 rfl (by kernel_rfl) ?_
   obtain⟨w8,hw8⟩:∃W,w5.drew=W:=⟨_,rfl⟩
   rw[hw8]at r5 HC sX ⊢
   clear hdr hw8
   have hS:w8.rangeAt X 0 u:=r5
   refine hs_a 0 15 hS ?_
   refine hs_a 1 16 hS ?_
   refine hs_a 2 17 hS ?_
   refine hs_v 3 18 (.int .i64 g.c) rfl (fun w' hw=>zf rfl rfl (c0of hw hu0) underlying3 rfl) hS ?_
   refine hs_v 4 19 (.int .i64 id) rfl (fun w' hw=>by go_simp<;>(try simp[hid])) hS ?_
   refine hs_v 5 20 (.agg u.toArray) rfl (fun w' hw=>zm rfl rfl hw underlying81 rfl iu) hS ?_
   refine hs_a 7 22 hS ?_
   refine hs_v 8 23 (.agg (v8 tg).toArray) rfl (fun w' hw=>zm rfl rfl (tgof hw) underlying23 rfl it16) hS ?_
   refine hs_c 6 21 ?_
   refine(cb w8).mono ?_
   rintro _ wb ⟨rfl,hbb⟩
   have hS:wb.rangeAt X 0 u:=za hS hbb sX
   have HC:=HC.later hbb
   have sX:=Nat.lt_of_lt_of_le sX hbb.size
   refine⟨_,rfl,hS,?_⟩
   simp only[nz]
   refine hs_c 9 24 ?_
   refine(ca wb vk (cs++(batC N xs).take k) HC.out HL).mono ?_
   rintro _ wc ⟨rfl,v',ho',hg'⟩
   have hS:wc.rangeAt X 0 u:=hg'.range sX HX hS
   refine⟨_,rfl,hS,?_⟩
   simp only[nz]
   refine zv (by kernel_rfl) ?_
   have HD:Hid (CI w wc O v v' (cs++(batC N xs).take (k+1))):=hide (by
    rw[HT.out,←List.append_assoc]
    exact HC.add ho' hg')
   clear HC ho' hg' hS HX r5 hbb cb ca tgof c0of HT iu it16 hu0 hu1 hul hzr hzl hid
   go_wp2_with fail
   go_roundw
   case rel=>exact⟨k+1,v',by omega,by go_num,HD⟩
   case measure=>simp[intOf];omega
  ·obtain rfl:k=n:=by omega
   have HE:Hid (OutC wr O vk (cs++batC N xs)∧Grow w wr O v vk):=hide (by
    have h1:=HK.out.out
    rw[List.take_of_length_le (by unfold batC;rw[List.length_map,HN.out];exact Nat.le_refl _)]at h1
    exact⟨h1,HK.out.grow⟩)
   clear HK ca hlt
   go_wp2_with fail
   go_end0
   exact⟨rfl,vk,HE.out⟩
theorem HdsAt.grow {w w':World} {O:Nat} {v v':Value} {x:Sl Hd} (h:HdsAt w x) (k:Grow w w' O v v') (hb:x.Bk (Clr O v)) (hb2:∀y∈x.xs,y.Bk (Clr O v)):HdsAt w' x:=
 ⟨h.1.grow k hb,fun y hy=>⟨(h.2 y hy).1.grow k (hb2 y hy).1,(h.2 y hy).2.grow k (hb2 y hy).2⟩⟩
def hdC (N:Int) (h:Hp):List Ev:=batC N h.rs++cerC h.vt h.sg
def heC (N:Int) (hs:List Hp):List Ev:=hs.flatMap (hdC N)
def ownC (N:Int) (m:Mp):List Ev:=batC N m.rs++cerC m.ct m.cs++heC N m.he++sgC m.sg
theorem zlp {N:Int} {hs:List Hp} {k:Nat} (hk:k<hs.length):heC N (hs.take (k+1))=heC N (hs.take k)++hdC N hs[k]:=by
 have e:hs.take (k+1)=hs.take k++[hs[k]]:=by rw[List.take_add_one,List.getElem?_eq_getElem hk];rfl
 unfold heC
 rw[e,List.flatMap_append]
 simp
theorem zlq (N:Int) (hs:List Hp) (k:Nat):(heC N (hs.take k)).length≤(heC N hs).length:=by
 have:heC N hs=heC N (hs.take k)++heC N (hs.drop k):=by
  unfold heC
  rw[←List.flatMap_append,List.take_append_drop]
 rw[this,List.length_append]
 omega
theorem za6 (N:Int) (rs:List Rq):(batC N rs).length=rs.length:=by simp[batC]
theorem zbc (v:Vt) (ss:List Sg):(cerC v ss).length=ss.length:=by simp[cerC]
theorem zbQ (ss:List Sg):(sgC ss).length=ss.length:=by simp[sgC]
theorem zeM (w:World):(zeroValue 133).run prog w=.ok (.agg ([Value.int .i64 0]++v8 (List.replicate 16 0)).toArray) w:=zeroSgE w
theorem zhC (vt:Vt) (x:Sl Sg) (O:Nat) (v:Value) (cs:List Ev) (w:World) (h:OutC w O v cs) (hvt:vt.ok) (hx:x.At SgE w) (hc:x.Bk (Clr O v)) (hn:cs.length+x.xs.length≤1000000000):
  Calls prog 81 #[.agg (certL vt x).toArray,addV O] w fun en w'=>en=.returned (.tuple #[])∧∃v',OutC w' O v' (cs++cerC vt x.xs)∧Grow w w' O v v':=by
 obtain⟨z17,hzl,hzr⟩:∃z:List Value,z.length=17∧(∀w:World,(zeroValue 133).run prog w=.ok (.agg z.toArray) w):=⟨_,rfl,zeM⟩
 have ca:=fun w0 vk ds e he h0 hl=>zdp O vk ds e w0 h0 he hl
 have cv:=fun w0=>ziB vt hvt w0
 have hvl:=hvt.len
 obtain⟨B1,r1,s1⟩:=zA w (certL vt x) 50
 have r1v:(w.alloc (.cells (certL vt x).toArray 50)).rangeAt w.heap.size 0 vt.cells:=zI r1
 have pr:(w.alloc (.cells (certL vt x).toArray 50)).cell? ⟨w.heap.size,36,none⟩=some x.val:=by
  have:=zO r1 0 _ rfl
  simpa [hvl]using this
 have HC0:CI w (w.alloc (.cells (certL vt x).toArray 50)) O v v cs:=⟨h.below B1,Grow.of B1 _ _⟩
 have iv:(prog.info? 43).map (·.size)=some vt.cells.length:=by rw[hvl];kernel_rfl
 obtain⟨bv,hbv⟩:∃b,Hid (optS vt.may (voteL vt)=b):=⟨_,hide rfl⟩
 simp only[hbv.out]at cv
 obtain⟨xa,xc,xs⟩:=x
 obtain⟨n,hxn⟩:∃n,xs.length=n:=⟨_,rfl⟩
 have hval:(Sl.mk xa xc xs).val=.slice xa n xc:=by unfold Sl.val;rw[←hxn]
 have hn:cs.length+xs.length≤1000000000:=hn
 rw[hval]at pr
 obtain⟨q,hq⟩:∃q,Hid (certL vt ⟨xa,xc,xs⟩=q):=⟨_,hide rfl⟩
 rw[hq.out]at B1 pr s1 HC0 r1v ⊢
 obtain⟨vc,hvc⟩:∃q,Hid (vt.cells=q):=⟨_,hide rfl⟩
 rw[hvc.out]at iv r1v
 simp only[hvc.out]at cv
 clear hval r1 hvl hq hvc
 have HN:=hide hxn
 have HXX:Hid (Sl.At SgE w ⟨xa,xc,xs⟩):=hide hx
 have HCC:=hide hc
 have HNN:=hide hn
 have HVT:=hide hvt
 clear hx hc hn hxn h hvt
 go_enter func81,ntmps81
 go_upto_region 1 with fail
 go_name_world W hW
 rw[show w.alloc (.cells q.toArray 50)=W from hW]at B1 pr s1 HC0 r1v
 clear hW
 refine pl_b ?_
 refine pl_a 7 ?_
 refine pl_v 8 (.agg vc.toArray) (zm rfl rfl r1v underlying43 rfl iv) ?_
 refine pl_c 9 ?_
 refine(cv W).mono ?_
 rintro _ w1 ⟨rfl,hb1⟩
 refine⟨_,rfl,?_⟩
 simp only[nz]
 refine pl_a 4 ?_
 refine zb ?_
 have pr:=(hb1.cell (p:=⟨w.heap.size,36,none⟩) s1).trans pr
 have HC1:=hide (HC0.later hb1)
 clear HC0 r1v cv iv hb1 B1
 go_upto_region 2 with fail
 refine pl_b ?_
 refine pl_a 10 ?_
 refine pl_v 11 (.slice xa n xc) (zf rfl rfl pr underlying48 rfl) ?_
 refine pl_a 12 ?_
 refine pl_a 13 ?_
 refine zb ?_
 clear pr s1
 have HC1:Hid (CI w w1 O v v (cs++(cerC vt xs).take 0)):=hide (by rw[List.take_zero,List.append_nil];exact HC1.out)
 unfold addV
 go_wp2_with fail
 go_loopw [13] (fun iv wr=>∃(k:Nat) (vk:Value),k≤n∧iv=.int .i64 (k:Int)∧Hid (CI w wr O v vk (cs++(cerC vt xs).take k))) (fun iv _=>n - (intOf iv).toNat)
 case atStart=>exact⟨0,v,by omega,rfl,HC1⟩
 case round=>
  clear HC1
  obtain⟨k,vk,hk,rfl,HK⟩:=hrel
  by_cases hlt:k<n
  ·have k1:(k:Int)<n:=by omega
   have hn9:n≤1000000000:=by have h1:=HNN.out;have h2:=HN.out;omega
   have hkx:k<xs.length:=by rw[HN.out];exact hlt
   obtain⟨b,off,hab,hbw,hre⟩:=(HXX.out.grow HK.out.grow HCC.out).elem k hkx
   have hab:xa=some ⟨b,off,none⟩:=hab
   have hre:wr.rangeAt b (off+k*17) (SgE.f xs[k]):=hre
   have okx:Sg.ok xs[k]:=HXX.out.2.1 _ (List.getElem_mem hkx)
   have HT:Hid ((cerC vt xs).take (k+1)=(cerC vt xs).take k++[⟨(xs[k]).n,optS vt.may (voteL vt),(xs[k]).t⟩]):=hide (zdI hkx)
   have HL:(cs++(cerC vt xs).take k).length≤1000000000:=by have:=HNN.out;simp only[List.length_append,List.length_take];omega
   obtain⟨g,hg⟩:∃g,xs[k]=g:=⟨_,rfl⟩
   rw[hg]at hre okx HT
   clear hg
   have hok:Ev.ok ⟨g.n,optS vt.may (voteL vt),g.t⟩:=zmP HVT.out okx
   have ca:=fun w0 vk ds h0 hl=>ca w0 vk ds _ hok h0 hl
   have hut:SgE.f g=.int .i64 g.n::v8 g.t:=rfl
   have it16:(prog.info? 23).map (·.size)=some (v8 g.t).length:=by rw[v8_length,okx.tl];exact iszT
   have iu:(prog.info? 133).map (·.size)=some (SgE.f g).length:=by rw[SgE.len g okx];kernel_rfl
   have hul:(SgE.f g).length=17:=SgE.len g okx
   have hu1:=SgE.one g
   obtain⟨id,hid⟩:∃i,g.n=i:=⟨_,rfl⟩
   have hbd:=hbv
   obtain⟨tg,htg⟩:∃t,g.t=t:=⟨_,rfl⟩
   rw[hid,htg]at HT
   rw[hid]at hut
   rw[hbd.out]at HT
   rw[htg]at hut it16
   simp only[hid,hbd.out,htg]at ca
   clear hbd
   clear okx hok htg hid
   obtain⟨u,hu⟩:∃u,Hid (SgE.f g=u):=⟨_,hide rfl⟩
   rw[hu.out]at hre iu hul hu1 hut
   clear hu
   rw[hab]
   go_upto_region 4 with fail
   obtain⟨r5,hF,hF3,-⟩:=zq wr z17.toArray 133 u (by simp[hzl,hul])
   refine pl_b ?_
   refine pl_a 15 ?_
   refine pl_v 16 (.agg u.toArray) (zm rfl rfl hre underlying133 rfl iu) ?_
   refine pl_r 6 (.pointer (some ⟨wr.heap.size,0,none⟩)) (wr.alloc (.cells z17.toArray 133)) (zr rfl (hzr _)) ?_
   refine pl_s ((wr.alloc (.cells z17.toArray 133)).setCells wr.heap.size 0 u) (zo (cs:=u.toArray) rfl rfl rfl (zn _ _ _ (by simp[hzl,hul])) (by simpa using iu) (zp hu1)) ?_
   refine zb ?_
   have HC:=HK.out.later hF
   clear HK
   obtain⟨X,hX⟩:∃X,wr.heap.size=X:=⟨_,rfl⟩
   simp only[hX]at r5 HC hF3 ⊢
   obtain⟨w5,hw5⟩:∃W,(wr.alloc (.cells z17.toArray 133)).setCells X 0 u=W:=⟨_,rfl⟩
   rw[hw5]at r5 HC hF3 ⊢
   have sX:X<w5.heap.size:=by omega
   clear hw5 hX hF hF3 hre hab
   have c0:w5.cell? ⟨X,0,none⟩=some (.int .i64 id):=by simpa using r5 0 _ (by rw[hut];rfl)
   have ct:w5.rangeAt X 1 (v8 tg):=fun j y hy=>by
    have:=r5 (j+1) y (by rw[hut];exact hy)
    rw[show 0+(j+1)=1+j by omega]at this
    exact this
   clear r5
   go_upto_region 5 with fail
   refine pl_b ?_
   refine pl_a 17 ?_
   refine pl_a 18 ?_
   refine pl_v 19 (.int .i64 id) (zf rfl rfl c0 underlying3 rfl) ?_
   refine pl_a 20 ?_
   refine pl_a 21 ?_
   refine pl_v 22 (.agg (v8 tg).toArray) (zm rfl rfl ct underlying23 rfl it16) ?_
   refine pl_c 23 ?_
   refine(ca w5 vk (cs++(cerC vt xs).take k) HC.out HL).mono ?_
   rintro _ wc ⟨rfl,v',ho',hg'⟩
   refine⟨_,rfl,?_⟩
   simp only[nz]
   refine zb ?_
   have HD:Hid (CI w wc O v v' (cs++(cerC vt xs).take (k+1))):=hide (by
    rw[HT.out,←List.append_assoc]
    exact HC.add ho' hg')
   clear HC ho' hg' c0 ct ca HT iu it16 hul hu1 hut hzr hzl
   go_wp2_with fail
   go_roundw
   case rel=>exact⟨k+1,v',by omega,by go_num,HD⟩
   case measure=>simp[intOf];omega
  ·obtain rfl:k=n:=by omega
   have HE:Hid (OutC wr O vk (cs++cerC vt xs)∧Grow w wr O v vk):=hide (by
    have h1:=HK.out.out
    rw[List.take_of_length_le (by rw[zbc,HN.out];exact Nat.le_refl _)]at h1
    exact⟨h1,HK.out.grow⟩)
   clear HK ca hlt
   go_wp2_with fail
   go_end0
   exact⟨rfl,vk,HE.out⟩
theorem zgf {w:World} {b o:Nat} {x y:Value} (h0:w.cell? ⟨b,o,none⟩=some x) (h1:w.cell? ⟨b,o+1,none⟩=some y):w.rangeAt b o [x,y]:=fun j u hu=>by
 rcases j with _|_|j
 ·simp at hu;subst hu;exact h0
 ·simp at hu;subst hu;exact h1
 ·simp at hu
theorem iszBaV (q:Bool) (x:Value):(prog.info? 39).map (·.size)=some [Value.bool q,x].length:=by kernel_rfl
theorem zh0:∃z:List Value,z.length=39∧(∀w:World,(zeroValue 113).run prog w=.ok (.agg z.toArray) w):=⟨_,rfl,zeroHdE⟩
structure Small (m:Mg):Prop where
 rs:∀r∈m.rs.xs,r.s.size≤100000
 he:∀h∈m.he.xs,∀r∈h.rs.xs,r.s.size≤100000
theorem zkr (N:Int) (m:Mg):(ownC N m.pure).length=m.rs.xs.length+m.cs.xs.length+(heC N (m.he.xs.map Hd.pure)).length+m.sg.xs.length:=by
 unfold ownC
 simp only[List.length_append,za6,zbc,zbQ]
 rfl
theorem zgv (N:Int) (m:Mg) (O:Nat) (v:Value) (cs:List Ev) (w:World) (h:OutC w O v cs) (mo:m.ok) (ma0:m.At w) (mb:m.Bk (Clr O v)) (hn:cs.length+(ownC N m.pure).length≤1000000000) (hsm:Small m):
  Calls prog 53 #[.int .i64 N,.agg m.ms.cells.toArray,addV O] w fun en w'=>en=.returned (.tuple #[])∧∃v',OutC w' O v' (cs++ownC N m.pure)∧Grow w w' O v v':=by
 obtain⟨z39,hzl,hzr⟩:=zh0
 obtain⟨z17,hsl,hsr⟩:∃z:List Value,z.length=17∧(∀w:World,(zeroValue 133).run prog w=.ok (.agg z.toArray) w):=⟨_,rfl,zeM⟩
 have ca:=fun w0 vk ds e he h0 hl=>zdp O vk ds e w0 h0 he hl
 rw[zkr]at hn
 have HN:=hide hn
 obtain⟨B1,r1,sA⟩:=zA w m.ms.cells 52
 have MA:m.ms.at (w.alloc (.cells m.ms.cells.toArray 52)) w.heap.size:=mo.ms.at r1
 have HC0:CI (w.alloc (.cells m.ms.cells.toArray 52)) (w.alloc (.cells m.ms.cells.toArray 52)) O v v cs:=⟨h.below B1,Grow.refl _ _ _⟩
 have ma:=ma0.below B1
 have hcA:Clr O v w.heap.size:=⟨by have:=h.lt;omega,fun e=>by have:=(h.own.lt _ e).2;omega⟩
 have iC:(prog.info? 50).map (·.size)=some (certL m.ct m.cs).length:=by unfold certL;rw[List.length_append,mo.ct.len];kernel_rfl
 have HB1:=hide (Grow.of B1 O v)
 have rB:(w.alloc (.cells m.ms.cells.toArray 52)).rangeAt w.heap.size 5 [.bool m.q,m.rs.val]:=zgf MA.q MA.rs
 have rC0:(w.alloc (.cells m.ms.cells.toArray 52)).rangeAt w.heap.size 80 (certL m.ct m.cs):=MA.ct
 have pH0:(w.alloc (.cells m.ms.cells.toArray 52)).cell? ⟨w.heap.size,46,none⟩=some m.he.val:=MA.he
 have pS0:(w.alloc (.cells m.ms.cells.toArray 52)).cell? ⟨w.heap.size,118,none⟩=some m.sg.val:=MA.sg
 clear MA r1 ma0 h hn B1
 obtain⟨q,hq⟩:∃q,m.ms.cells=q:=⟨_,rfl⟩
 rw[hq]at sA HC0 ma HB1 rB rC0 pH0 pS0
 rw[hq]
 clear hq
 go_enter func53,ntmps53
 go_upto_region 1 with fail
 obtain⟨W,hW⟩:∃W,w.alloc (.cells q.toArray 52)=W:=⟨_,rfl⟩
 rw[hW]at sA HC0 ma HB1 rB rC0 pH0 pS0 ⊢
 clear hW
 obtain⟨A,hA⟩:∃A,w.heap.size=A:=⟨_,rfl⟩
 rw[hA]at sA hcA rB rC0 pH0 pS0
 simp only[hA]
 clear hA
 refine pl_b ?_
 refine pl_a 10 ?_
 refine pl_a 11 ?_
 refine pl_v 12 (.agg #[.bool m.q,m.rs.val]) (zm (cs:=[.bool m.q,m.rs.val]) rfl rfl rB underlying39 rfl (iszBaV _ _)) ?_
 refine pl_a 13 ?_
 refine pl_c 14 ?_
 refine(zhM N m.q m.rs O v cs W HC0.out ma.rs mb.1 (by have:=HN.out;omega) hsm.rs).mono ?_
 rintro _ w1 ⟨rfl,v1,o1,g1⟩
 refine⟨_,rfl,?_⟩
 simp only[nz]
 refine zb ?_
 have HC1:=HC0.add o1 g1
 have rC:=HC1.grow.range sA hcA rC0
 clear rB o1 g1 HC0
 go_upto_region 2 with fail
 refine pl_b ?_
 refine pl_a 15 ?_
 refine pl_v 16 (.agg (certL m.ct m.cs).toArray) (zm rfl rfl rC underlying50 rfl iC) ?_
 refine pl_a 17 ?_
 refine pl_c 18 ?_
 refine(zhC m.ct m.cs O v1 _ w1 HC1.out mo.ct (ma.cs.grow HC1.grow mb.2.2.2.2.1) (mb.2.2.2.2.1.grow ma.cs HC1.grow) (by have:=HN.out;rw[List.length_append,za6];omega)).mono ?_
 rintro _ w2 ⟨rfl,v2,o2,g2⟩
 refine⟨_,rfl,?_⟩
 simp only[nz]
 refine zb ?_
 have HC2:=HC1.add o2 g2
 have pH:=(zZ (j:=46) (HC2.grow.keep sA hcA).1).1.trans pH0
 obtain⟨C2,hC2⟩:∃C,Hid (cs++batC N m.rs.xs++cerC m.ct m.cs.xs=C):=⟨_,hide rfl⟩
 rw[hC2.out]at HC2
 have hC2l:C2.length=cs.length+m.rs.xs.length+m.cs.xs.length:=by rw[←hC2.out];simp only[List.length_append,za6,zbc]
 clear rC rC0 pH0 o2 g2 HC1 iC
 obtain⟨⟨ha,hc,hs⟩,hhe⟩:∃x,m.he=x:=⟨_,rfl⟩
 obtain⟨hl,hhl⟩:∃n,hs.length=n:=⟨_,rfl⟩
 have hval:(m.he).val=.slice ha hl hc:=by rw[hhe];unfold Sl.val;rw[←hhl]
 rw[hval]at pH
 clear hval
 have HH:=hide hhe
 have HL2:Hid (hs.length=hl):=hide hhl
 have HA:=hide ma
 have HB:=hide mb
 clear hhe hhl ma
 go_upto_region 3 with fail
 refine pl_b ?_
 refine pl_a 19 ?_
 refine pl_a 20 ?_
 refine pl_v 21 (.slice ha hl hc) (zf rfl rfl pH underlying44 rfl) ?_
 refine pl_a 22 ?_
 refine pl_a 23 ?_
 refine zb ?_
 have HC3:Hid (CI W w2 O v v2 (C2++heC N ((hs.map Hd.pure).take 0))):=hide (by simpa [heC]using HC2)
 clear HC2 pH
 unfold addV
 go_wp2_with fail
 go_loopw [23] (fun iv wr=>∃(k:Nat) (vk:Value),k≤hl∧iv=.int .i64 (k:Int)∧Hid (CI W wr O v vk (C2++heC N ((hs.map Hd.pure).take k)))) (fun iv _=>hl - (intOf iv).toNat)
 case atStart=>exact⟨0,v2,by omega,rfl,HC3⟩
 case round=>
  clear HC3
  obtain⟨k,vk,hk,rfl,HK⟩:=hrel
  by_cases hlt:k<hl
  ·have k1:(k:Int)<hl:=by omega
   have hl9:hl≤9223372036854775807:=by
    have h1:=HA.out.he.1.1
    rw[HH.out]at h1
    have h2:hs.length≤maxLen:=h1
    rw[HL2.out]at h2
    unfold maxLen at h2
    omega
   have hkx:k<hs.length:=by rw[HL2.out];exact hlt
   have hat:HdsAt wr ⟨ha,hc,hs⟩:=by
    have:=HA.out.he.grow HK.out.grow HB.out.2.1 HB.out.2.2.1
    rw[HH.out]at this
    exact this
   obtain⟨b,off,hab,hbw,hre⟩:=hat.1.elem k hkx
   have hab:ha=some ⟨b,off,none⟩:=hab
   have hre:wr.rangeAt b (off+k*39) (HdE.f hs[k]):=hre
   have hmem:hs[k]∈m.he.xs:=by rw[HH.out];exact List.getElem_mem hkx
   have gat:=hat.2 _ (List.getElem_mem hkx)
   have gbk0:=HB.out.2.2.1 _ hmem
   have gat0:=HA.out.he.2 _ hmem
   have gbk:(hs[k]).Bk (Clr O vk):=⟨gbk0.1.grow gat0.1 HK.out.grow,gbk0.2.grow gat0.2 HK.out.grow⟩
   have gsm:=hsm.he _ hmem
   have okx:Vt.ok (hs[k]).vt:=hat.1.2.1 _ (List.getElem_mem hkx)
   have HT:Hid (heC N ((hs.map Hd.pure).take (k+1))=heC N ((hs.map Hd.pure).take k)++(batC N (hs[k]).rs.xs++cerC (hs[k]).vt (hs[k]).sg.xs)):=hide (by
    rw[zlp (by simpa using hkx)]
    simp[hdC,Hd.pure])
   have HL:Hid ((C2++heC N ((hs.map Hd.pure).take k)).length+(hs[k]).rs.xs.length+(hs[k]).sg.xs.length≤1000000000):=hide (by
    have h1:=zlq N (hs.map Hd.pure) (k+1)
    rw[HT.out]at h1
    simp only[List.length_append,za6,zbc]at h1 ⊢
    have h2:=HN.out
    rw[HH.out]at h2
    simp only at h2
    omega)
   clear hat gbk0 gat0
   obtain⟨g,hg⟩:∃g,hs[k]=g:=⟨_,rfl⟩
   rw[hg]at hre gat gbk gsm okx HT HL
   clear hg hmem
   have gvt:=okx
   have hul:(HdE.f g).length=39:=HdE.len g okx
   have iu:(prog.info? 113).map (·.size)=some (HdE.f g).length:=by rw[hul];kernel_rfl
   have hu1:=HdE.one g
   have hgf:HdE.f g=.bool g.q::g.rs.val::certL g.vt g.sg:=rfl
   have iG:(prog.info? 50).map (·.size)=some (certL g.vt g.sg).length:=by unfold certL;rw[List.length_append,okx.len];kernel_rfl
   obtain⟨u,hu⟩:∃u,Hid (HdE.f g=u):=⟨_,hide rfl⟩
   rw[hu.out]at hre hul iu hu1 hgf
   clear hu okx
   rw[hab]
   go_upto_region 5 with fail
   obtain⟨r5,hF,hF3,-⟩:=zq wr z39.toArray 113 u (by simp[hzl,hul])
   refine pl_b ?_
   refine pl_a 25 ?_
   refine pl_v 26 (.agg u.toArray) (zm rfl rfl hre underlying113 rfl iu) ?_
   refine pl_r 7 (.pointer (some ⟨wr.heap.size,0,none⟩)) (wr.alloc (.cells z39.toArray 113)) (zr rfl (hzr _)) ?_
   refine pl_s ((wr.alloc (.cells z39.toArray 113)).setCells wr.heap.size 0 u) (zo (cs:=u.toArray) rfl rfl rfl (zn _ _ _ (by simp[hzl,hul])) (by simpa using iu) (zp hu1)) ?_
   refine zb ?_
   have HC:=HK.out.later hF
   have HX:=zdn HK.out (Nat.le_refl _)
   have gat:=gat.below hF
   clear HK
   obtain⟨X,hX⟩:∃X,wr.heap.size=X:=⟨_,rfl⟩
   simp only[hX]at r5 HC HX hF3 gat ⊢
   obtain⟨w5,hw5⟩:∃W,(wr.alloc (.cells z39.toArray 113)).setCells X 0 u=W:=⟨_,rfl⟩
   rw[hw5]at r5 HC hF3 gat ⊢
   have sX:X<w5.heap.size:=by omega
   clear hw5 hX hF hF3 hre hab
   have rB:w5.rangeAt X 0 [.bool g.q,g.rs.val]:=zgf (by simpa using r5 0 _ (by rw[hgf];rfl)) (by simpa using r5 1 _ (by rw[hgf];rfl))
   have rC0:w5.rangeAt X 2 (certL g.vt g.sg):=fun j y hy=>by
    have:=r5 (j+2) y (by rw[hgf];exact hy)
    rw[show 0+(j+2)=2+j by omega]at this
    exact this
   clear r5
   go_upto_region 6 with fail
   refine pl_b ?_
   refine pl_a 27 ?_
   refine pl_a 28 ?_
   refine pl_v 29 (.agg #[.bool g.q,g.rs.val]) (zm (cs:=[.bool g.q,g.rs.val]) rfl rfl rB underlying39 rfl (iszBaV _ _)) ?_
   refine pl_a 30 ?_
   refine pl_c 31 ?_
   refine(zhM N g.q g.rs O vk _ w5 HC.out gat.1 gbk.1 (by have:=HL.out;omega) gsm).mono ?_
   rintro _ w6 ⟨rfl,v6,o6,g6⟩
   refine⟨_,rfl,?_⟩
   simp only[nz]
   refine zb ?_
   have rC:=g6.range sX HX rC0
   clear rB rC0
   go_upto_region 7 with fail
   refine pl_b ?_
   refine pl_a 32 ?_
   refine pl_v 33 (.agg (certL g.vt g.sg).toArray) (zm rfl rfl rC underlying50 rfl iG) ?_
   refine pl_a 34 ?_
   refine pl_c 35 ?_
   refine(zhC g.vt g.sg O v6 _ w6 o6 gvt (gat.2.grow g6 gbk.2) (gbk.2.grow gat.2 g6) (by have:=HL.out;rw[List.length_append,za6];omega)).mono ?_
   rintro _ w7 ⟨rfl,v7,o7,g7⟩
   refine⟨_,rfl,?_⟩
   simp only[nz]
   refine zb ?_
   have HD:Hid (CI W w7 O v v7 (C2++heC N ((hs.map Hd.pure).take (k+1)))):=hide (by
    rw[HT.out,←List.append_assoc,←List.append_assoc]
    exact(HC.add o6 g6).add o7 g7)
   clear HC o6 g6 o7 g7 rC HT HL iu iG hul hu1 hgf gat gbk gsm gvt hsl hsr hzl hzr pS0
   go_wp2_with fail
   go_roundw
   case rel=>exact⟨k+1,v7,by omega,by go_num,HD⟩
   case measure=>simp[intOf];omega
  ·obtain rfl:k=hl:=by omega
   have HC4:CI W wr O v vk (C2++heC N (hs.map Hd.pure)):=by
    have h1:=HK.out
    rw[List.take_of_length_le (by rw[List.length_map,HL2.out];exact Nat.le_refl _)]at h1
    exact h1
   obtain⟨C3,hC3⟩:∃C,Hid (C2++heC N (hs.map Hd.pure)=C):=⟨_,hide rfl⟩
   rw[hC3.out]at HC4
   have pS:=(zZ (j:=118) (HC4.grow.keep sA hcA).1).1.trans pS0
   obtain⟨⟨xa,xc,xs⟩,hsg⟩:∃x,m.sg=x:=⟨_,rfl⟩
   obtain⟨n,hxn⟩:∃n,xs.length=n:=⟨_,rfl⟩
   have hval:(m.sg).val=.slice xa n xc:=by rw[hsg];unfold Sl.val;rw[←hxn]
   rw[hval]at pS
   have HNN:Hid (C3.length+xs.length≤1000000000):=hide (by
    have h2:=HN.out
    rw[HH.out,hsg]at h2
    simp only at h2
    rw[←hC3.out]
    simp only[List.length_append]
    omega)
   have HXX:Hid (Sl.At SgE W ⟨xa,xc,xs⟩):=hide (by have:=HA.out.sg;rw[hsg]at this;exact this)
   have HCC:Hid (Sl.Bk (Sl.mk xa xc xs) (Clr O v)):=hide (by have:=HB.out.2.2.2.2.2;rw[hsg]at this;exact this)
   have HSG:=hide hsg
   have HX3:=hide hxn
   have HN2:=HN
   clear HN hval hsg hxn HK hlt hk
   have HN:=HX3
   go_upto_region 9 with fail
   refine pl_b ?_
   refine pl_a 37 ?_
   refine pl_v 38 (.slice xa n xc) (zf rfl rfl pS underlying48 rfl) ?_
   refine pl_a 39 ?_
   refine pl_a 40 ?_
   refine zb ?_
   have HC5:Hid (CI W wr O v vk (C3++(sgC xs).take 0)):=hide (by rw[List.take_zero,List.append_nil];exact HC4)
   clear pS HC4 pS0
   go_wp2_with fail
   go_loopw [40] (fun iv wr=>∃(k:Nat) (vk:Value),k≤n∧iv=.int .i64 (k:Int)∧Hid (CI W wr O v vk (C3++(sgC xs).take k))) (fun iv _=>n - (intOf iv).toNat)
   case atStart=>exact⟨0,vk,by omega,rfl,HC5⟩
   case round=>
    clear HC5
    obtain⟨k,vk,hk,rfl,HK⟩:=hrel
    by_cases hlt:k<n
    ·have k1:(k:Int)<n:=by omega
     have hn9:n≤1000000000:=by have h1:=HNN.out;have h2:=HN.out;omega
     have hkx:k<xs.length:=by rw[HN.out];exact hlt
     obtain⟨b,off,hab,hbw,hre⟩:=(HXX.out.grow HK.out.grow HCC.out).elem k hkx
     have hab:xa=some ⟨b,off,none⟩:=hab
     have hre:wr.rangeAt b (off+k*17) (SgE.f xs[k]):=hre
     have okx:Sg.ok xs[k]:=HXX.out.2.1 _ (List.getElem_mem hkx)
     have HT:Hid ((sgC xs).take (k+1)=(sgC xs).take k++[⟨(xs[k]).n,(⟨#[]⟩:ByteArray),(xs[k]).t⟩]):=hide (zdI hkx)
     have HL:(C3++(sgC xs).take k).length≤1000000000:=by have:=HNN.out;simp only[List.length_append,List.length_take];omega
     obtain⟨g,hg⟩:∃g,xs[k]=g:=⟨_,rfl⟩
     rw[hg]at hre okx HT
     clear hg
     have hok:Ev.ok ⟨g.n,(⟨#[]⟩:ByteArray),g.t⟩:=zjc okx
     have ca:=fun w0 vk ds h0 hl=>ca w0 vk ds _ hok h0 hl
     have hut:SgE.f g=.int .i64 g.n::v8 g.t:=rfl
     have it16:(prog.info? 23).map (·.size)=some (v8 g.t).length:=by rw[v8_length,okx.tl];exact iszT
     have iu:(prog.info? 133).map (·.size)=some (SgE.f g).length:=by rw[SgE.len g okx];kernel_rfl
     have hul:(SgE.f g).length=17:=SgE.len g okx
     have hu1:=SgE.one g
     obtain⟨id,hid⟩:∃i,g.n=i:=⟨_,rfl⟩
     obtain⟨tg,htg⟩:∃t,g.t=t:=⟨_,rfl⟩
     rw[hid,htg]at HT
     rw[hid]at hut
     rw[htg]at hut it16
     simp only[hid,htg]at ca
     clear okx hok htg hid
     obtain⟨u,hu⟩:∃u,Hid (SgE.f g=u):=⟨_,hide rfl⟩
     rw[hu.out]at hre iu hul hu1 hut
     clear hu
     rw[hab]
     go_upto_region 11 with fail
     obtain⟨r5,hF,hF3,-⟩:=zq wr z17.toArray 133 u (by simp[hsl,hul])
     refine pl_b ?_
     refine pl_a 42 ?_
     refine pl_v 43 (.agg u.toArray) (zm rfl rfl hre underlying133 rfl iu) ?_
     refine pl_r 9 (.pointer (some ⟨wr.heap.size,0,none⟩)) (wr.alloc (.cells z17.toArray 133)) (zr rfl (hsr _)) ?_
     refine pl_s ((wr.alloc (.cells z17.toArray 133)).setCells wr.heap.size 0 u) (zo (cs:=u.toArray) rfl rfl rfl (zn _ _ _ (by simp[hsl,hul])) (by simpa using iu) (zp hu1)) ?_
     refine zb ?_
     have HC:=HK.out.later hF
     clear HK
     obtain⟨X,hX⟩:∃X,wr.heap.size=X:=⟨_,rfl⟩
     simp only[hX]at r5 HC hF3 ⊢
     obtain⟨w5,hw5⟩:∃W,(wr.alloc (.cells z17.toArray 133)).setCells X 0 u=W:=⟨_,rfl⟩
     rw[hw5]at r5 HC hF3 ⊢
     have sX:X<w5.heap.size:=by omega
     clear hw5 hX hF hF3 hre hab
     have c0:w5.cell? ⟨X,0,none⟩=some (.int .i64 id):=by simpa using r5 0 _ (by rw[hut];rfl)
     have ct:w5.rangeAt X 1 (v8 tg):=fun j y hy=>by
      have:=r5 (j+1) y (by rw[hut];exact hy)
      rw[show 0+(j+1)=1+j by omega]at this
      exact this
     clear r5
     go_upto_region 12 with fail
     refine pl_b ?_
     refine pl_a 44 ?_
     refine pl_a 45 ?_
     refine pl_v 46 (.int .i64 id) (zf rfl rfl c0 underlying3 rfl) ?_
     refine pl_a 47 ?_
     refine pl_v 48 (.agg (v8 tg).toArray) (zm rfl rfl ct underlying23 rfl it16) ?_
     refine pl_c 49 ?_
     refine(ca w5 vk (C3++(sgC xs).take k) HC.out HL).mono ?_
     rintro _ wc ⟨rfl,v',ho',hg'⟩
     refine⟨_,rfl,?_⟩
     simp only[nz]
     refine zb ?_
     have HD:Hid (CI W wc O v v' (C3++(sgC xs).take (k+1))):=hide (by
      rw[HT.out,←List.append_assoc]
      exact HC.add ho' hg')
     clear HC ho' hg' c0 ct ca HT iu it16 hul hu1 hut hsr hsl
     go_wp2_with fail
     go_roundw
     case rel=>exact⟨k+1,v',by omega,by go_num,HD⟩
     case measure=>simp[intOf];omega
    ·obtain rfl:k=n:=by omega
     have HE:Hid (OutC wr O vk (cs++ownC N m.pure)∧Grow w wr O v vk):=hide (by
      have h1:=HK.out.out
      rw[List.take_of_length_le (by rw[zbQ,HN.out];exact Nat.le_refl _),←hC3.out,←hC2.out]at h1
      have e:cs++ownC N m.pure=cs++batC N m.rs.xs++cerC m.ct m.cs.xs++heC N (hs.map Hd.pure)++sgC xs:=by
       unfold ownC Mg.pure
       rw[HH.out,HSG.out]
       simp only[List.append_assoc]
      rw[e]
      exact⟨h1,HB1.out.trans HK.out.grow⟩)
     clear HK ca hlt
     go_wp2_with fail
     go_end0
     exact⟨rfl,vk,HE.out⟩
structure OutX (w:World) (B:Nat) (v:Value) (cs:List Ev):Prop where
 own:w.ownsRow B 70 18 v cs.length (cs.flatMap Ev.cells)
 ok:∀c∈cs,c.ok
 le:B≤w.heap.size
structure Kp (w:World) (v:Value) (W:World):Prop where
 size:w.heap.size≤W.heap.size
 block:∀i,i<w.heap.size→v.ownBlock≠some i→W.heap[i]? =w.heap[i]?
structure GrX (w w':World) (v v':Value):Prop where
 os:w'.os=w.os
 tape:w'.tape=w.tape
 output:w'.output=w.output
 kp:Kp w v w'
 own:∀g,v'.ownBlock=some g→v.ownBlock=some g∨w.heap.size≤g
structure CX (B:Nat) (w wr:World) (v vk:Value) (cs:List Ev):Prop where
 out:OutX wr B vk cs
 grow:GrX w wr v vk
def ownX (N:Int) (m:Mp):List Ev:=batC N m.rs++heC N m.he++(if m.k=7 then cerC m.ct m.cs else[])++sgC m.sg
structure XS (w:World) (X A B n:Nat) (q:List Value) (W:World):Prop where
 row:W.rangeAt B 0 q
 box:W.there B 0 n
 ans:W.there A 0 n
 grown:w.grownBy W (some X)
 la:A<W.heap.size
 lb:B<W.heap.size
 na:w.heap.size≤A
 nb:w.heap.size≤B
 ne:A≠B
 lx:X<w.heap.size
def kdE (rest:List Int) (e most:Int):Int:=if(numS rest e most).2.2==0 then(if(numS rest e most).1==0 then 130 else(numS rest e most).2.2)else(numS rest e most).2.2
def xvtS (rest:List Int) (e:Int):Vt ×List Int ×Int:=
 let x0:=numS rest e 2
 let x1:=numS x0.2.1 (kdE rest e 2) 1048576
 let x2:=numS x1.2.1 x1.2.2 1099511627776
 let x3:=numS x2.2.1 x2.2.2 1099511627776
 let x4:=rawS x3.2.1 x3.2.2 32
 (⟨x0.1,x1.1,x2.1,x3.1,padN 32 x4.1⟩,x4.2.1,x4.2.2)
abbrev Xst:=List Int ×Int
structure XR (w:World) (D X:Nat) (s:Xst):Prop where
 st:RSt D w X s.1 s.2
 lx:X<w.heap.size
 ld:D≤X
def xnuS (most:Int) (s:Xst):Int ×Xst:=numS s.1 s.2 most
def xtgS (s:Xst):List Int ×Xst:=(padN 16 (rawS s.1 s.2 16).1,(rawS s.1 s.2 16).2)
def xsiS (s:Xst):Sg ×Xst:=(⟨(xnuS 64 s).1,(xtgS (xnuS 64 s).2).1⟩,(xtgS (xnuS 64 s).2).2)
def xvoS (s:Xst):Vt ×Xst:=xvtS s.1 s.2
def xbaS (s:Xst):(Bool ×List Rq) ×Xst:=(((getB s.1 s.2).q,(getB s.1 s.2).rs.map BRq.un),(getB s.1 s.2).rest,(getB s.1 s.2).err)
def xitG {α:Type} (one:Xst→α ×Xst) (s:Xst):Nat→List α ×Xst
  |0=>([],s)
  |k+1=>if(xitG one s k).2.2=0 then((xitG one s k).1++[(one (xitG one s k).2).1],(one (xitG one s k).2).2)else xitG one s k
def xlsS {α:Type} (most:Int) (one:Xst→α ×Xst) (s:Xst):List α ×Xst:=xitG one (xnuS most s).2 (xnuS most s).1.toNat
theorem zlh {P:Program} {ops:Array Oper} {Q:Exit→Act→World→Prop} {l:List Nat} {S:World→Prop} {fuel:Nat} {listed:Array Bool} {a:Act} {w:World} (hr:Region.ready .any ops listed=l) (hl:l≠[])
  (h:∀i∈l,StepS P ops Q S fuel listed i a w):HeldS P ops Q S (fuel+1) listed a w:=by
 subst hr
 refine wpAnyH_all rfl ?_ ?_
 ·exact hl
 ·intro k hk
  exact h k hk
def xceS (s:Xst):(Vt ×List Sg) ×Xst:=(((xvoS s).1,(xlsS 64 xsiS (xvoS s).2).1),(xlsS 64 xsiS (xvoS s).2).2)
def xheS (s:Xst):Hp ×Xst:=(⟨(xbaS s).1.1,(xbaS s).1.2,(xceS (xbaS s).2).1.1,(xceS (xbaS s).2).1.2⟩,(xceS (xbaS s).2).2)
structure XV (w:World) (X A B n:Nat) (q:List Value) (W:World):Prop where
 row:W.rangeAt B 0 q
 box:W.there B 0 n
 ans:W.there A 0 n
 gr:w.grownBy W (some X)
 lb:B<W.heap.size
 na:w.heap.size≤A
 ab:A<B
 lx:X<w.heap.size
structure XH (w:World) (D X A B:Nat) (a b c:Int) (t:Xst) (k:Nat) (W:World):Prop where
 ex:∃(v:Value) (ys:List Hd),XV w X A B 4 [.int .i64 a,.int .i64 b,.int .i64 c,v] W∧ys.map Hd.pure=(xitG xheS t k).1∧W.ownsRow (B+1) 113 39 v ys.length (ys.flatMap Hd.cells)∧∀y∈ys,y.vt.ok∧y.At W∧y.Bk (fun b=>B<b∧b<W.heap.size∧v.ownBlock≠some b)
 rs:XR W D X (xitG xheS t k).2
theorem zhg {P:Program} {o:Oper} {a:Act} {w:World} {t:TypeId} {x:Operand} {u:Array Value} (ho:o.op=.box t x) (hx:a.eval x=.agg u):(execOp a.eval o).run P w=.ok (.value (.pointer (some ⟨w.heap.size,0,none⟩))) (w.alloc (.cells u t)):=by
 unfold execOp
 simp[ho,hx,Instr.box,newVar,newRow,Value.cells]
structure XW (w:World) (D X A B n:Nat) (q:List Value) (s:Xst) (W:World):Prop where
 row:W.rangeAt B 0 q
 box:W.there B 0 n
 ans:W.there A 0 n
 gr:w.grownBy W (some X)
 rs:XR W D X s
 la:A<W.heap.size
 lb:B<W.heap.size
 na:w.heap.size≤A
 nb:w.heap.size≤B
 ne:A≠B
 lx:X<w.heap.size
def cod (s:Rst):Int:=if s.2.2=true then 130 else s.2.1
def Sim (s:Rst) (t:Xst):Prop:=(s=(t.1,0,false)∧t.2=0)∨(cod s≠0∧t.2=cod s)
structure Pair {α:Type} (f:Rst→α ×Rst) (xf:Xst→α ×Xst):Prop where
 bad:∀s,cod s≠0→cod (f s).2=cod s
 xbad:∀t,t.2≠0→(xf t).2.2=t.2
 ok:∀r,Sim (f (r,0,false)).2 (xf (r,0)).2∧(cod (f (r,0,false)).2=0→(f (r,0,false)).1=(xf (r,0)).1)
theorem zgR {α:Type} {one:Rst→α ×Rst} (h:∀s,cod s≠0→cod (one s).2=cod s) {s:Rst} (hs:cod s≠0):∀k,cod (itG one s k).2=cod s:=by
  intro k
  induction k with
  |zero=>rfl
  |succ k ih=>show cod (one (itG one s k).2).2=_;rw[h _ (by rw[ih];exact hs),ih]
theorem zc5 (most:Int) (r:List Int) (e:Int) (h:e≠0):(numS r e most).2.2=e:=by
 unfold numS
 rw[if_neg h]
theorem ziM (most:Int) (r:List Int) (e:Int) (h:e≠0):(textS r e most).2.2=e:=by
 have:=zc5 9223372036854775807 r e h
 unfold textS
 rw[if_neg (by rw[this];exact h)]
 exact this
theorem zj5 (n:Int) (r:List Int) (e:Int) (h:e≠0):(rawS r e n).2.2=e:=by
 unfold rawS
 rw[if_neg h]
def vt4 (v:Int) (r:List Int) (e:Int):Vt ×List Int ×Int:=
 (⟨v,(numS r e 1048576).1,(numS (numS r e 1048576).2.1 (numS r e 1048576).2.2 1099511627776).1,(numS (numS (numS r e 1048576).2.1 (numS r e 1048576).2.2 1099511627776).2.1 (numS (numS r e 1048576).2.1 (numS r e 1048576).2.2 1099511627776).2.2 1099511627776).1,padN 32 (rawS (numS (numS (numS r e 1048576).2.1 (numS r e 1048576).2.2 1099511627776).2.1 (numS (numS r e 1048576).2.1 (numS r e 1048576).2.2 1099511627776).2.2 1099511627776).2.1 (numS (numS (numS r e 1048576).2.1 (numS r e 1048576).2.2 1099511627776).2.1 (numS (numS r e 1048576).2.1 (numS r e 1048576).2.2 1099511627776).2.2 1099511627776).2.2 32).1⟩,(rawS (numS (numS (numS r e 1048576).2.1 (numS r e 1048576).2.2 1099511627776).2.1 (numS (numS r e 1048576).2.1 (numS r e 1048576).2.2 1099511627776).2.2 1099511627776).2.1 (numS (numS (numS r e 1048576).2.1 (numS r e 1048576).2.2 1099511627776).2.1 (numS (numS r e 1048576).2.1 (numS r e 1048576).2.2 1099511627776).2.2 1099511627776).2.2 32).2)
structure Codec {α:Type} (f:Rst→α ×Rst) (enc:α→List Int) (ok:α→Prop):Prop where
 bad:∀s,cod s≠0→cod (f s).2=cod s
 back:∀a q,ok a→f (enc a++q,0,false)=(a,q,0,false)
 form:∀r,Bs r→cod (f (r,0,false)).2=0→∃a q,ok a∧f (r,0,false)=(a,q,0,false)∧r=enc a++q
theorem Bs.right {a q:List Int} (h:Bs (a++q)):Bs q:=fun z hz=>h z (List.mem_append_right _ hz)
theorem Bs.left {a q:List Int} (h:Bs (a++q)):Bs a:=fun z hz=>h z (List.mem_append_left _ hz)
theorem cod0 {r:List Int} {e:Int} {z:Bool} (h:cod (r,e,z)=0):z=false∧e=0:=by
 unfold cod at h
 cases z
 ·exact⟨rfl,h⟩
 ·exact absurd h (show(130:Int)≠0 by decide)
theorem Codec.simple {α:Type} {g:List Int→Int→α ×List Int ×Int} {enc:α→List Int} {ok:α→Prop} (h1:∀r e,e≠0→(g r e).2.2=e) (h2:∀a q,ok a→g (enc a++q) 0=(a,q,0)) (h3:∀r,Bs r→(g r 0).2.2=0→∃a q,ok a∧g r 0=(a,q,0)∧r=enc a++q):
  Codec (fun s=>((g s.1 s.2.1).1,(g s.1 s.2.1).2.1,(g s.1 s.2.1).2.2,s.2.2)) enc ok:=by
 refine⟨fun s h=>?_,fun a q ha=>?_,fun r hb hc=>?_⟩
 ·obtain⟨r,e,z⟩:=s
  cases z
  ·exact h1 r e h
  ·rfl
 ·show((g (enc a++q) 0).1,(g (enc a++q) 0).2.1,(g (enc a++q) 0).2.2,false)=_
  rw[h2 a q ha]
 ·obtain⟨a,q,k1,k2,k3⟩:=h3 r hb (cod0 hc).2
  exact⟨a,q,k1,by show((g r 0).1,(g r 0).2.1,(g r 0).2.2,false)=_;rw[k2],k3⟩
theorem Codec.bind {α β:Type} {f:Rst→α ×Rst} {g:Rst→β ×Rst} {e1:α→List Int} {e2:β→List Int} {o1:α→Prop} {o2:β→Prop} (p:Codec f e1 o1) (q:Codec g e2 o2):Codec (fun s=>(((f s).1,(g (f s).2).1),(g (f s).2).2)) (fun c=>e1 c.1++e2 c.2) (fun c=>o1 c.1∧o2 c.2):=by
 refine⟨fun s hs=>?_,fun c t hc=>?_,fun r hb hc=>?_⟩
 ·show cod (g (f s).2).2=cod s
  rw[q.bad _ (by rw[p.bad s hs];exact hs),p.bad s hs]
 ·obtain⟨a,b⟩:=c
  show(((f (e1 a++e2 b++t,0,false)).1,(g (f (e1 a++e2 b++t,0,false)).2).1),(g (f (e1 a++e2 b++t,0,false)).2).2)=_
  rw[List.append_assoc,p.back a _ hc.1]
  show((a,(g (e2 b++t,0,false)).1),(g (e2 b++t,0,false)).2)=_
  rw[q.back b t hc.2]
 ·have hc1:cod (f (r,0,false)).2=0:=by
   by_cases c:cod (f (r,0,false)).2=0
   ·exact c
   ·exact absurd ((q.bad _ c).symm.trans hc) c
  obtain⟨a,r1,k1,k2,k3⟩:=p.form r hb hc1
  have hc2:cod (g (f (r,0,false)).2).2=0:=hc
  rw[k2]at hc2
  obtain⟨b,r2,m1,m2,m3⟩:=q.form r1 (by rw[k3]at hb;exact hb.right) hc2
  refine⟨(a,b),r2,⟨k1,m1⟩,?_,by rw[k3,m3,List.append_assoc]⟩
  show(((f (r,0,false)).1,(g (f (r,0,false)).2).1),(g (f (r,0,false)).2).2)=_
  rw[k2]
  show((a,(g (r1,0,false)).1),(g (r1,0,false)).2)=_
  rw[m2]
theorem Codec.map {α β:Type} {f:Rst→α ×Rst} {enc:α→List Int} {ok:α→Prop} (h:α→β) (g:β→α) (hg:∀a,g (h a)=a) (p:Codec f enc ok):Codec (fun s=>(h (f s).1,(f s).2)) (fun b=>enc (g b)) (fun b=>ok (g b)∧h (g b)=b):=by
 refine⟨p.bad,fun b q hb=>?_,fun r hb hc=>?_⟩
 ·show(h (f (enc (g b)++q,0,false)).1,(f (enc (g b)++q,0,false)).2)=_
  rw[p.back _ q hb.1]
  show(h (g b),_)=_
  rw[hb.2]
 ·obtain⟨a,q,k1,k2,k3⟩:=p.form r hb hc
  refine⟨h a,q,⟨by rw[hg];exact k1,by rw[hg]⟩,?_,by rw[hg];exact k3⟩
  show(h (f (r,0,false)).1,(f (r,0,false)).2)=_
  rw[k2]
theorem zgP {α:Type} {one:Rst→α ×Rst} {enc:α→List Int} {ok:α→Prop} (p:Codec one enc ok) (q:List Int) (xs:List α) (h:∀x∈xs,ok x):∀k,k≤xs.length→itG one (xs.flatMap enc++q,0,false) k=(xs.take k,(xs.drop k).flatMap enc++q,0,false):=by
  intro k
  induction k with
  |zero=>intro _;simp[itG]
  |succ k ih=>
    intro hk
    have i:=ih (by omega)
    have hd:xs.drop k=xs[k]::xs.drop (k+1):=List.drop_eq_getElem_cons (by omega)
    show((itG one (xs.flatMap enc++q,0,false) k).1++[(one (itG one (xs.flatMap enc++q,0,false) k).2).1],(one (itG one (xs.flatMap enc++q,0,false) k).2).2)=_
    rw[i]
    show(xs.take k++[(one ((xs.drop k).flatMap enc++q,0,false)).1],(one ((xs.drop k).flatMap enc++q,0,false)).2)=_
    rw[hd,List.flatMap_cons,List.append_assoc,p.back _ _ (h _ (List.getElem_mem (by omega))),List.take_succ_eq_append_getElem (by omega)]
theorem zgO {α:Type} {one:Rst→α ×Rst} {enc:α→List Int} {ok:α→Prop} (p:Codec one enc ok) (r:List Int) (hb:Bs r):∀k,cod (itG one (r,0,false) k).2=0→∃xs q,xs.length=k∧(∀x∈xs,ok x)∧itG one (r,0,false) k=(xs,q,0,false)∧r=xs.flatMap enc++q:=by
  intro k
  induction k with
  |zero=>intro _;exact⟨[],r,rfl,(fun x hx=>by cases hx),rfl,rfl⟩
  |succ k ih=>
    intro hc
    have hc:cod (one (itG one (r,0,false) k).2).2=0:=hc
    have c0:cod (itG one (r,0,false) k).2=0:=by
      by_cases c:cod (itG one (r,0,false) k).2=0
      · exact c
      · exact absurd ((p.bad _ c).symm.trans hc) c
    obtain⟨xs,q,h1,h2,h3,h4⟩:=ih c0
    rw[h3]at hc
    obtain⟨a,q',k1,k2,k3⟩:=p.form q (by rw[h4]at hb;exact hb.right) hc
    refine⟨xs++[a],q',by simp[h1],fun x hx=>?_,?_,by rw[h4,k3,List.flatMap_append];simp⟩
    · rcases List.mem_append.1 hx with g|g
      · exact h2 x g
      · rw[List.mem_singleton.1 g];exact k1
    · show((itG one (r,0,false) k).1++[(one (itG one (r,0,false) k).2).1],(one (itG one (r,0,false) k).2).2)=_
      rw[h3]
      show(xs++[(one (q,0,false)).1],(one (q,0,false)).2)=_
      rw[k2]
theorem zc4 {most:Int} {r:List Int} (hb:Bs r) (h:(numS r 0 most).2.2=0):∃n q,(0≤n∧n≤most∧n≤9223372036854775807)∧numS r 0 most=(n,q,0)∧r=putL n++q:=by
 unfold numS at h ⊢
 rw[if_pos rfl]at h ⊢
 by_cases h1:(numR r).2.2=0
 ·rw[if_pos h1]at h ⊢
  obtain⟨k1,k2,k3,k4⟩:=zkD r hb h1
  by_cases h2:most<(numR r).1
  ·rw[if_pos h2]at h;exact absurd h (show(3:Int)≠0 by decide)
  ·rw[if_neg h2]
   refine⟨(numR r).1,_,⟨k3,by omega,k4⟩,rfl,?_⟩
   rw[k1,List.take_append_drop]
 ·rw[if_neg h1]at h
  exact absurd h h1
theorem zaj (most:Int) (hm:most≤9223372036854775807):Codec (nuS most) putL (fun n=>0≤n∧n≤most):=
 Codec.simple (g:=fun r e=>numS r e most) (zc5 most) (fun a q h=>zck a most h.1 (by omega) h.2 q) (fun r hb h=>by
  obtain⟨n,q,k1,k2,k3⟩:=zc4 hb h
  exact⟨n,q,⟨k1.1,k1.2.1⟩,k2,k3⟩)
theorem zef (most:Int) (hm:most≤9223372036854775807):Codec (kiS most) putL (fun n=>1≤n∧n≤most):=by
 refine⟨fun s h=>?_,fun a q ha=>?_,fun r hb hc=>?_⟩
 ·obtain⟨r,e,z⟩:=s
  cases z
  ·have h:e≠0:=h
   have h1:=zc5 most r e h
   have k:kdZ r e most false=false:=by
    unfold kdZ
    rw[h1]
    have:(e==0)=false:=by simpa using h
    rw[this]
    simp
   show(if kdZ r e most false=true then 130 else(numS r e most).2.2)=e
   rw[k,if_neg (by decide)]
   exact h1
  ·have k:kdZ r e most true=true:=by
    unfold kdZ
    simp
   show(if kdZ r e most true=true then 130 else(numS r e most).2.2)=130
   rw[k,if_pos rfl]
 ·show((numS (putL a++q) 0 most).1,(numS (putL a++q) 0 most).2.1,(numS (putL a++q) 0 most).2.2,kdZ (putL a++q) 0 most false)=_
  unfold kdZ
  rw[zck a most (by omega) (by omega) ha.2 q]
  have:(a==0)=false:=by simp;omega
  simp[this]
 ·have hc:cod ((numS r 0 most).2.1,(numS r 0 most).2.2,kdZ r 0 most false)=0:=hc
  obtain⟨z0,e0⟩:=cod0 hc
  obtain⟨n,q,k1,k2,k3⟩:=zc4 hb e0
  have hz:kdZ r 0 most false=false:=z0
  unfold kdZ at z0
  rw[k2]at z0
  have hn:n≠0:=fun q=>by rw[q]at z0;simp at z0
  refine⟨n,q,⟨by omega,k1.2.1⟩,?_,k3⟩
  show((numS r 0 most).1,(numS r 0 most).2.1,(numS r 0 most).2.2,kdZ r 0 most false)=_
  rw[hz,k2]
theorem zj3 (n:Nat) (d q:List Int) (h:d.length=n):rawS (d++q) 0 n=(d,q,0):=by
 unfold rawS
 rw[if_pos rfl,if_neg (by omega),if_neg (by rw[List.length_append];omega)]
 have e:(n:Int).toNat=d.length:=by omega
 rw[e,List.take_left,List.drop_left]
theorem zj2 {n:Nat} {r:List Int} (h:(rawS r 0 n).2.2=0):∃d q,d.length=n∧rawS r 0 n=(d,q,0)∧r=d++q:=by
 unfold rawS at h ⊢
 rw[if_pos rfl,if_neg (by omega)]at h ⊢
 by_cases h1:(r.length:Int)<n
 ·rw[if_pos h1]at h;exact absurd h (show(10:Int)≠0 by decide)
 ·rw[if_neg h1]
  exact⟨_,_,by rw[List.length_take];omega,rfl,(List.take_append_drop _ _).symm⟩
theorem zci (n:Nat) (m:Int) (hm:m=(n:Int)):Codec (fun s=>(padN n (rawS s.1 s.2.1 m).1,(rawS s.1 s.2.1 m).2.1,(rawS s.1 s.2.1 m).2.2,s.2.2)) (fun d=>d) (fun d=>d.length=n∧Bs d):=by
 subst hm
 exact Codec.simple (g:=fun r e=>(padN n (rawS r e n).1,(rawS r e n).2)) (fun r e h=>zj5 n r e h) (fun a q h=>by
  show(padN n (rawS (a++q) 0 n).1,(rawS (a++q) 0 n).2)=_
  rw[zj3 n a q h.1]
  show(padN n a,_)=_
  unfold padN
  rw[if_pos h.1]) (fun r hb h=>by
  obtain⟨d,q,k1,k2,k3⟩:=zj2 (n:=n) h
  refine⟨d,q,⟨k1,by rw[k3]at hb;exact hb.left⟩,?_,k3⟩
  show(padN n (rawS r 0 n).1,(rawS r 0 n).2)=_
  rw[k2]
  show(padN n d,_)=_
  unfold padN
  rw[if_pos k1])
theorem zdM {zs:List Int} (h:∀z∈zs,0≤z∧z<256):strL (strOf zs)=zs:=ziX (zbt _) h (by rw[zfl])
theorem zdA (most:Int) (hm:most≤1099511627):Codec (txS most) textL (fun s=>(s.size:Int)≤most):=
 Codec.simple (g:=fun r e=>(strOf (textS r e most).1,(textS r e most).2)) (fun r e h=>ziM most r e h) (fun s q h=>by
  show(strOf (textS (textL s++q) 0 most).1,(textS (textL s++q) 0 most).2)=_
  rw[ziN s most (by omega) h q]
  show(strOf (strL s),_)=_
  rw[zfl]) (fun r hb h=>by
  have h:(textS r 0 most).2.2=0:=h
  have hn:(numS r 0 9223372036854775807).2.2=0:=by
   by_cases c:(numS r 0 9223372036854775807).2.2=0
   ·exact c
   ·unfold textS at h;rw[if_neg c]at h;exact absurd h c
  obtain⟨n,q,k1,k2,k3⟩:=zc4 hb hn
  show ∃a q,_∧(strOf (textS r 0 most).1,(textS r 0 most).2)=_∧_
  unfold textS at h ⊢
  rw[if_pos hn,k2]at h ⊢
  by_cases c1:most<n
  ·rw[if_pos c1]at h;exact absurd h (show(3:Int)≠0 by decide)
  ·rw[if_neg c1]at h ⊢
   by_cases c2:(q.length:Int)<n
   ·rw[if_pos c2]at h;exact absurd h (show(10:Int)≠0 by decide)
   ·rw[if_neg c2]
    have hl:(q.take n.toNat).length=n.toNat:=by rw[List.length_take];omega
    have hbt:Bs (q.take n.toNat):=(show Bs q from by rw[k3]at hb;exact hb.right).subT _
    have hsz:(strOf (q.take n.toNat)).size=n.toNat:=by rw[zbO,hl]
    refine⟨strOf (q.take n.toNat),q.drop n.toNat,by omega,rfl,?_⟩
    unfold textL
    rw[zdM hbt,hsz,List.append_assoc,List.take_append_drop,show((n.toNat:Nat):Int)=n by omega]
    exact k3)
def sgOk (g:Sg):Prop:=(0≤g.n∧g.n≤64)∧(g.t.length=16∧Bs g.t)
def evOk (g:Ev):Prop:=(0≤g.n∧g.n≤64)∧((g.s.size:Int)≤4194304∧(g.t.length=16∧Bs g.t))
def vtOk (x:Vt):Prop:=(1≤x.k∧x.k≤2)∧((0≤x.e∧x.e≤1048576)∧((0≤x.v∧x.v≤1099511627776)∧((0≤x.s∧x.s≤1099511627776)∧(x.d.length=32∧Bs x.d))))
theorem Codec.as {α:Type} {f f':Rst→α ×Rst} {enc enc':α→List Int} {ok ok':α→Prop} (p:Codec f enc ok) (hf:f'=f) (he:∀a,enc' a=enc a) (ho:∀a,ok' a↔ok a):Codec f' enc' ok':=by
 subst hf
 obtain rfl:enc'=enc:=funext he
 obtain rfl:ok'=ok:=funext fun a=>propext (ho a)
 exact p
theorem zfu:Codec siS sgL sgOk:=
 (Codec.map (fun(c:Int ×List Int)=>(⟨c.1,c.2⟩:Sg)) (fun g=>(g.n,g.t)) (fun _=>rfl) (Codec.bind (zaj 64 (by decide)) (zci 16 16 rfl))).as rfl (fun _=>rfl) (fun a=>⟨fun h=>⟨h,rfl⟩,fun h=>h.1⟩)
theorem zml:Codec enS evL evOk:=
 (Codec.map (fun(c:Int ×(ByteArray ×List Int))=>(⟨c.1,c.2.1,c.2.2⟩:Ev)) (fun g=>(g.n,(g.s,g.t))) (fun _=>rfl) (Codec.bind (zaj 64 (by decide)) (Codec.bind (zdA 4194304 (by decide)) (zci 16 16 rfl)))).as rfl (fun _=>rfl) (fun a=>⟨fun h=>⟨h,rfl⟩,fun h=>h.1⟩)
theorem ze9:Codec voS vtL vtOk:=
 (Codec.map (fun(c:Int ×(Int ×(Int ×(Int ×List Int))))=>(⟨c.1,c.2.1,c.2.2.1,c.2.2.2.1,c.2.2.2.2⟩:Vt)) (fun x=>(x.k,(x.e,(x.v,(x.s,x.d))))) (fun _=>rfl) (Codec.bind (zef 2 (by decide)) (Codec.bind (zaj 1048576 (by decide)) (Codec.bind (zaj 1099511627776 (by decide)) (Codec.bind (zaj 1099511627776 (by decide)) (zci 32 32 rfl)))))).as rfl (fun x=>by simp[vtL,List.append_assoc]) (fun a=>⟨fun h=>⟨h,rfl⟩,fun h=>h.1⟩)
theorem zc8 {α:Type} {one:Rst→α ×Rst} {enc:α→List Int} {ok:α→Prop} (most:Int) (hm:most≤1000) (p:Codec one enc ok):Codec (lsS most one) (fun xs=>putL xs.length++xs.flatMap enc) (fun xs=>(xs.length:Int)≤most∧∀x∈xs,ok x):=by
 have pn:=zaj most (by omega)
 refine⟨fun s h=>?_,fun xs q h=>?_,fun r hb hc=>?_⟩
 ·have c:=pn.bad s h
  show cod (itG one (nuS most s).2 _).2=_
  rw[zgR p.bad (by rw[c];exact h),c]
 ·show itG one (nuS most (putL xs.length++xs.flatMap enc++q,0,false)).2 (nuS most (putL xs.length++xs.flatMap enc++q,0,false)).1.toNat=_
  rw[List.append_assoc,pn.back _ _ ⟨by omega,h.1⟩]
  show itG one (xs.flatMap enc++q,0,false) (xs.length:Int).toNat=_
  rw[Int.toNat_natCast,zgP p q xs h.2 xs.length (Nat.le_refl _)]
  simp
 ·have hc:cod (itG one (nuS most (r,0,false)).2 (nuS most (r,0,false)).1.toNat).2=0:=hc
  have c0:cod (nuS most (r,0,false)).2=0:=by
   by_cases c:cod (nuS most (r,0,false)).2=0
   ·exact c
   ·exact absurd ((zgR p.bad c _).symm.trans hc) c
  obtain⟨n,q,k1,k2,k3⟩:=pn.form r hb c0
  rw[k2]at hc
  obtain⟨xs,q',h1,h2,h3,h4⟩:=zgO p q (by rw[k3]at hb;exact hb.right) _ hc
  have hn:((xs.length:Nat):Int)=n:=by rw[h1];have:=k1.1;omega
  refine⟨xs,q',⟨by rw[hn];exact k1.2,h2⟩,?_,by rw[hn,k3,h4,List.append_assoc]⟩
  show itG one (nuS most (r,0,false)).2 (nuS most (r,0,false)).1.toNat=_
  rw[k2]
  exact h3
theorem Codec.same {α:Type} {f f':Rst→α ×Rst} {enc:α→List Int} {ok:α→Prop} (p:Codec f enc ok) (h2:∀s,(f' s).2=(f s).2) (h1:∀r,cod (f (r,0,false)).2=0→(f' (r,0,false)).1=(f (r,0,false)).1):Codec f' enc ok:=by
 refine⟨fun s h=>by rw[h2];exact p.bad s h,fun a q h=>?_,fun r hb hc=>?_⟩
 ·have e:=p.back a q h
  have c0:cod (f (enc a++q,0,false)).2=0:=by rw[e];rfl
  rw[←e]
  exact Prod.ext (h1 _ c0) (h2 _)
 ·rw[h2]at hc
  obtain⟨a,q,k1,k2,k3⟩:=p.form r hb hc
  exact⟨a,q,k1,by rw[←k2];exact Prod.ext (h1 _ hc) (h2 _),k3⟩
def rqS (s:Rst):Rq ×Rst:=((rqOf (rgetR s.1 s.2.1)).un,(rgetR s.1 s.2.1).rest,(rgetR s.1 s.2.1).err,s.2.2)
def rqOk (r:Rq):Prop:=(0≤r.c∧r.c≤8)∧((0≤r.n∧r.n≤1099511627776)∧((r.s.size:Int)≤64∧(r.t.length=16∧Bs r.t)))
def rqL (r:Rq):List Int:=(BRq.of r).bytes
theorem zfO:Codec rqS rqL rqOk:=by
 refine Codec.same (f:=fun s=>_) ((Codec.map (fun(c:Int ×(Int ×(ByteArray ×List Int)))=>(⟨c.1,c.2.1,c.2.2.1,c.2.2.2⟩:Rq)) (fun r=>(r.c,(r.n,(r.s,r.t)))) (fun _=>rfl) (Codec.bind (zaj 8 (by decide)) (Codec.bind (zaj 1099511627776 (by decide)) (Codec.bind (zdA 64 (by decide)) (zci 16 16 rfl))))).as rfl (fun r=>by simp[rqL,BRq.bytes,BRq.of,List.append_assoc]) (fun a=>⟨fun h=>⟨h,rfl⟩,fun h=>h.1⟩)) (fun _=>rfl) (fun r hc=>?_)
 have he:(rgetR r 0).err=0:=(cod0 (z:=false) hc).2
 have e0:rqOf (rgetR r 0)=⟨(rgetR r 0).c,(rgetR r 0).n,strOf (rgetR r 0).s,(rgetR r 0).t⟩:=by
  unfold rqOf
  rw[if_pos he]
 show(rqOf (rgetR r 0)).un=_
 rw[e0]
 have hl:=(zdW _ _).2 (show(rawS (textS (numS (numS r 0 8).2.1 (numS r 0 8).2.2 1099511627776).2.1 (numS (numS r 0 8).2.1 (numS r 0 8).2.2 1099511627776).2.2 64).2.1 (textS (numS (numS r 0 8).2.1 (numS r 0 8).2.2 1099511627776).2.1 (numS (numS r 0 8).2.1 (numS r 0 8).2.2 1099511627776).2.2 64).2.2 16).2.2=0 from he)
 have ep:padN 16 (rawS (textS (numS (numS r 0 8).2.1 (numS r 0 8).2.2 1099511627776).2.1 (numS (numS r 0 8).2.1 (numS r 0 8).2.2 1099511627776).2.2 64).2.1 (textS (numS (numS r 0 8).2.1 (numS r 0 8).2.2 1099511627776).2.1 (numS (numS r 0 8).2.1 (numS r 0 8).2.2 1099511627776).2.2 64).2.2 16).1=(rawS (textS (numS (numS r 0 8).2.1 (numS r 0 8).2.2 1099511627776).2.1 (numS (numS r 0 8).2.1 (numS r 0 8).2.2 1099511627776).2.2 64).2.1 (textS (numS (numS r 0 8).2.1 (numS r 0 8).2.2 1099511627776).2.1 (numS (numS r 0 8).2.1 (numS r 0 8).2.2 1099511627776).2.2 64).2.2 16).1:=by
  unfold padN
  rw[if_pos hl]
 show(⟨_,_,_,(rawS (textS (numS (numS r 0 8).2.1 (numS r 0 8).2.2 1099511627776).2.1 (numS (numS r 0 8).2.1 (numS r 0 8).2.2 1099511627776).2.2 64).2.1 (textS (numS (numS r 0 8).2.1 (numS r 0 8).2.2 1099511627776).2.1 (numS (numS r 0 8).2.1 (numS r 0 8).2.2 1099511627776).2.2 64).2.2 16).1⟩:Rq)=⟨_,_,_,padN 16 (rawS (textS (numS (numS r 0 8).2.1 (numS r 0 8).2.2 1099511627776).2.1 (numS (numS r 0 8).2.1 (numS r 0 8).2.2 1099511627776).2.2 64).2.1 (textS (numS (numS r 0 8).2.1 (numS r 0 8).2.2 1099511627776).2.1 (numS (numS r 0 8).2.1 (numS r 0 8).2.2 1099511627776).2.2 64).2.2 16).1⟩
 rw[ep]
 rfl
theorem zeg (k:Nat) (r:List Int) (e:Int) (z:Bool):itG rqS (r,e,z) k=((getRs k r e).1.map BRq.un,(getRs k r e).2.1,(getRs k r e).2.2,z):=by
  induction k with
  |zero=>rfl
  |succ k ih=>
    show((itG rqS (r,e,z) k).1++[(rqS (itG rqS (r,e,z) k).2).1],(rqS (itG rqS (r,e,z) k).2).2)=_
    rw[ih]
    show((getRs k r e).1.map BRq.un++[(rqOf (rgetR (getRs k r e).2.1 (getRs k r e).2.2)).un],_)=(((getRs k r e).1++[rqOf (rgetR (getRs k r e).2.1 (getRs k r e).2.2)]).map BRq.un,_)
    rw[List.map_append]
    rfl
def baL (c:Bool ×List Rq):List Int:=batL c.1 (c.2.map BRq.of)
def baOk (c:Bool ×List Rq):Prop:=(c.1=true→c.2=[])∧(c.2.length≤4∧∀r∈c.2,rqOk r)
theorem zeG:Codec baS baL baOk:=by
 refine⟨fun s h=>?_,fun c t hc=>?_,fun r hb hc=>?_⟩
 ·obtain⟨r,e,z⟩:=s
  cases z
  ·have h:e≠0:=h
   show(getB r e).err=e
   have h1:=zc5 5 r e h
   have h2:(numS r e 5).1=0:=zgy (by rw[h1];exact h)
   unfold getB
   rw[if_pos h2]
   exact h1
  ·rfl
 ·obtain⟨q,rs⟩:=c
  obtain⟨h1,h2,h3⟩:=hc
  show(((getB (batL q (rs.map BRq.of)++t) 0).q,(getB (batL q (rs.map BRq.of)++t) 0).rs.map BRq.un),(getB (batL q (rs.map BRq.of)++t) 0).rest,(getB (batL q (rs.map BRq.of)++t) 0).err,false)=_
  cases q
  ·have e:batL false (rs.map BRq.of)=putL ((rs.length:Int)+1)++rs.flatMap rqL:=by
    unfold batL
    rw[if_neg (by decide),List.length_map,List.flatMap_map]
    rfl
   have h2:rs.length≤4:=h2
   rw[e,List.append_assoc]
   have hn:=zck ((rs.length:Int)+1) 5 (by omega) (by omega) (by omega) (rs.flatMap rqL++t)
   have hi:=zgP zfO t rs h3 rs.length (Nat.le_refl _)
   rw[zeg]at hi
   simp only[List.take_length,List.drop_length,List.flatMap_nil,List.nil_append,Prod.mk.injEq,and_true]at hi
   obtain⟨i1,i2,i3⟩:=hi
   unfold getB
   rw[hn]
   simp only
   rw[if_neg (by omega),show((rs.length:Int)+1 - 1).toNat=rs.length by omega,if_pos i3]
   simp only
   rw[i1,i2,i3]
  ·obtain rfl:rs=[]:=h1 rfl
   have hn:=zck 0 5 (by omega) (by omega) (by omega) t
   have e:batL true (([]:List Rq).map BRq.of)=putL 0:=rfl
   rw[e]
   unfold getB
   rw[hn]
   rfl
 ·have he:(getB r 0).err=0:=(cod0 (z:=false) hc).2
  show ∃a q,_∧(((getB r 0).q,(getB r 0).rs.map BRq.un),(getB r 0).rest,(getB r 0).err,false)=_∧_
  have hn:(numS r 0 5).2.2=0:=by
   by_cases c:(numS r 0 5).2.2=0
   ·exact c
   ·have h2:(numS r 0 5).1=0:=zgy c
    unfold getB at he
    rw[if_pos h2]at he
    exact absurd he c
  obtain⟨n,q,k1,k2,k3⟩:=zc4 hb hn
  unfold getB at he ⊢
  rw[k2]at he ⊢
  simp only at he ⊢
  by_cases h0:n=0
  ·subst h0
   rw[if_pos rfl]
   exact⟨(true,[]),q,⟨(fun _=>rfl),(by simp),(fun r hr=>by cases hr)⟩,rfl,k3⟩
  ·rw[if_neg h0]at he ⊢
   have he:(getRs (n - 1).toNat q 0).2.2=0:=he
   have hc2:cod (itG rqS (q,0,false) (n - 1).toNat).2=0:=by rw[zeg];exact he
   obtain⟨xs,q',j1,j2,j3,j4⟩:=zgO zfO q (by rw[k3]at hb;exact hb.right) _ hc2
   rw[zeg]at j3
   simp only[Prod.mk.injEq,and_true]at j3
   obtain⟨i1,i2,i3⟩:=j3
   refine⟨(false,xs),q',⟨(fun e=>by cases e),(by show xs.length≤4;omega),j2⟩,?_,?_⟩
   ·rw[if_pos he]
    simp only
    rw[i1,i2,i3]
   ·show r=batL false (xs.map BRq.of)++q'
    unfold batL
    rw[if_neg (by decide),List.length_map,List.flatMap_map,k3,j4,List.append_assoc,show((xs.length:Nat):Int)+1=n by omega]
    rfl
def ceOk (c:Vt ×List Sg):Prop:=vtOk c.1∧((c.2.length:Int)≤64∧∀x∈c.2,sgOk x)
theorem zhy:Codec ceS (fun c=>ctL c.1 c.2) ceOk:=(Codec.bind ze9 (zc8 64 (by decide) zfu)).as rfl (fun _=>rfl) (fun _=>Iff.rfl)
def hpL (h:Hp):List Int:=baL (h.q,h.rs)++ctL h.vt h.sg
def hpOk (h:Hp):Prop:=baOk (h.q,h.rs)∧ceOk (h.vt,h.sg)
theorem zln:Codec heS hpL hpOk:=(Codec.map (fun(c:(Bool ×List Rq) ×(Vt ×List Sg))=>(⟨c.1.1,c.1.2,c.2.1,c.2.2⟩:Hp)) (fun h=>((h.q,h.rs),(h.vt,h.sg))) (fun _=>rfl) (Codec.bind zeG zhy)).as rfl (fun _=>rfl) (fun a=>⟨fun h=>⟨h,rfl⟩,fun h=>h.1⟩)
def cpL (c:Cp):List Int:=putL c.e++(putL c.l++(putL c.v++(putL c.he.length++c.he.flatMap hpL)))
def cpOk (c:Cp):Prop:=(0≤c.e∧c.e≤1048576)∧((0≤c.l∧c.l≤64)∧((0≤c.v∧c.v≤1099511627776)∧((c.he.length:Int)≤4∧∀x∈c.he,hpOk x)))
theorem zmM:Codec chS cpL cpOk:=(Codec.map (fun(c:Int ×(Int ×(Int ×List Hp)))=>(⟨c.1,c.2.1,c.2.2.1,c.2.2.2⟩:Cp)) (fun c=>(c.e,(c.l,(c.v,c.he)))) (fun _=>rfl) (Codec.bind (zaj 1048576 (by decide)) (Codec.bind (zaj 64 (by decide)) (Codec.bind (zaj 1099511627776 (by decide)) (zc8 4 (by decide) zln))))).as rfl (fun _=>rfl) (fun a=>⟨fun h=>⟨h,rfl⟩,fun h=>h.1⟩)
def zgt (c:Int ×(Int ×(Bool ×List Rq))):Mp:=⟨1,c.1,0,0,c.2.1,c.2.2.1,c.2.2.2,Vt.zero,0,0,0,[],[],zd,Vt.zero,[],⟨#[]⟩,[]⟩
def zcC (m:Mp):List Int:=putL m.e++(putL m.s++baL (m.q,m.rs))
def kok1 (m:Mp):Prop:=((0≤m.e∧m.e≤1048576)∧((0≤m.s∧m.s≤1099511627776)∧baOk (m.q,m.rs)))∧zgt (m.e,(m.s,(m.q,m.rs)))=m
theorem zec:Codec mg1 zcC kok1:=(Codec.map zgt (fun m=>(m.e,(m.s,(m.q,m.rs)))) (fun _=>rfl) (Codec.bind (zaj 1048576 (by decide)) (Codec.bind (zaj 1099511627776 (by decide)) zeG))).as rfl (fun _=>rfl) (fun _=>Iff.rfl)
def zgs (c:Vt):Mp:=⟨2,0,0,0,0,false,[],c,0,0,0,[],[],zd,Vt.zero,[],⟨#[]⟩,[]⟩
def zcB (m:Mp):List Int:=vtL m.vt
def kok2 (m:Mp):Prop:=(vtOk m.vt)∧zgs m.vt=m
theorem zeb:Codec mg2 zcB kok2:=(Codec.map zgs (fun m=>m.vt) (fun _=>rfl) ze9).as rfl (fun _=>rfl) (fun _=>Iff.rfl)
def zgr (c:Cp):Mp:=⟨3,0,0,0,0,false,[],Vt.zero,c.e,c.l,c.v,c.he,[],zd,Vt.zero,[],⟨#[]⟩,[]⟩
def zcA (m:Mp):List Int:=cpL ⟨m.ce,m.cl,m.cv,m.he⟩
def kok3 (m:Mp):Prop:=(cpOk ⟨m.ce,m.cl,m.cv,m.he⟩)∧zgr ⟨m.ce,m.cl,m.cv,m.he⟩=m
theorem zea:Codec mg3 zcA kok3:=(Codec.map zgr (fun m=>⟨m.ce,m.cl,m.cv,m.he⟩) (fun _=>rfl) zmM).as rfl (fun _=>rfl) (fun _=>Iff.rfl)
def zgq (c:Int ×(Int ×(Int ×List Ev))):Mp:=⟨4,c.1,c.2.1,c.2.2.1,0,false,[],Vt.zero,0,0,0,[],c.2.2.2,zd,Vt.zero,[],⟨#[]⟩,[]⟩
def zb2 (m:Mp):List Int:=putL m.e++(putL m.l++(putL m.v++evsL m.ne))
def kok4 (m:Mp):Prop:=((0≤m.e∧m.e≤1048576)∧((0≤m.l∧m.l≤64)∧((0≤m.v∧m.v≤1099511627776)∧((m.ne.length:Int)≤64∧∀x∈m.ne,evOk x))))∧zgq (m.e,(m.l,(m.v,m.ne)))=m
theorem zd9:Codec mg4 zb2 kok4:=(Codec.map zgq (fun m=>(m.e,(m.l,(m.v,m.ne)))) (fun _=>rfl) (Codec.bind (zaj 1048576 (by decide)) (Codec.bind (zaj 64 (by decide)) (Codec.bind (zaj 1099511627776 (by decide)) (zc8 64 (by decide) zml))))).as rfl (fun _=>rfl) (fun _=>Iff.rfl)
def zgp (c:Int ×List Int):Mp:=⟨5,c.1,0,0,0,false,[],Vt.zero,0,0,0,[],[],c.2,Vt.zero,[],⟨#[]⟩,[]⟩
def zcz (m:Mp):List Int:=putL m.e++m.d
def kok5 (m:Mp):Prop:=((0≤m.e∧m.e≤1048576)∧(m.d.length=32∧Bs m.d))∧zgp (m.e,m.d)=m
theorem zd8:Codec mg5 zcz kok5:=(Codec.map zgp (fun m=>(m.e,m.d)) (fun _=>rfl) (Codec.bind (zaj 1048576 (by decide)) (zci 32 32 rfl))).as rfl (fun _=>rfl) (fun _=>Iff.rfl)
def zgo (c:Int ×Int):Mp:=⟨6,c.1,0,0,c.2,false,[],Vt.zero,0,0,0,[],[],zd,Vt.zero,[],⟨#[]⟩,[]⟩
def zcy (m:Mp):List Int:=putL m.e++putL m.s
def kok6 (m:Mp):Prop:=((0≤m.e∧m.e≤1048576)∧(0≤m.s∧m.s≤1099511627776))∧zgo (m.e,m.s)=m
theorem zd7:Codec mg6 zcy kok6:=(Codec.map zgo (fun m=>(m.e,m.s)) (fun _=>rfl) (Codec.bind (zaj 1048576 (by decide)) (zaj 1099511627776 (by decide)))).as rfl (fun _=>rfl) (fun _=>Iff.rfl)
def zgn (c:(Bool ×List Rq) ×(Vt ×List Sg)):Mp:=⟨7,0,0,0,0,c.1.1,c.1.2,Vt.zero,0,0,0,[],[],zd,c.2.1,c.2.2,⟨#[]⟩,[]⟩
def zcx (m:Mp):List Int:=baL (m.q,m.rs)++ctL m.ct m.cs
def kok7 (m:Mp):Prop:=(baOk (m.q,m.rs)∧ceOk (m.ct,m.cs))∧zgn ((m.q,m.rs),(m.ct,m.cs))=m
theorem zd6:Codec mg7 zcx kok7:=(Codec.map zgn (fun m=>((m.q,m.rs),(m.ct,m.cs))) (fun _=>rfl) (Codec.bind zeG zhy)).as rfl (fun _=>rfl) (fun _=>Iff.rfl)
def zgm (c:ByteArray ×List Sg):Mp:=⟨8,0,0,0,0,false,[],Vt.zero,0,0,0,[],[],zd,Vt.zero,[],c.1,c.2⟩
def zcw (m:Mp):List Int:=textL m.st++sgsL m.sg
def kok8 (m:Mp):Prop:=((m.st.size:Int)≤4194304∧((m.sg.length:Int)≤64∧∀x∈m.sg,sgOk x))∧zgm (m.st,m.sg)=m
theorem zd5:Codec mg8 zcw kok8:=(Codec.map zgm (fun m=>(m.st,m.sg)) (fun _=>rfl) (Codec.bind (zdA 4194304 (by decide)) (zc8 64 (by decide) zfu))).as rfl (fun _=>rfl) (fun _=>Iff.rfl)
def Mp.bytes (m:Mp):List Int:=putL m.k++(if m.k=1 then zcC m else if m.k=2 then zcB m else if m.k=3 then zcA m else if m.k=4 then zb2 m else if m.k=5 then zcz m else if m.k=6 then zcy m else if m.k=7 then zcx m else zcw m)
def Mp.good (m:Mp):Prop:=(m.k=1∧kok1 m)∨(m.k=2∧kok2 m)∨(m.k=3∧kok3 m)∨(m.k=4∧kok4 m)∨(m.k=5∧kok5 m)∨(m.k=6∧kok6 m)∨(m.k=7∧kok7 m)∨(m.k=8∧kok8 m)
theorem zhm (q:List Int):faE (q,0,false)=if q.length=0 then 0 else 12:=rfl
theorem zkT {m:Mp} (h:m.good) (q:List Int):mgS (m.bytes++q,0,false)=(m,q,0,false):=by
 have hk:1≤m.k∧m.k≤8:=by
  rcases h with h|h|h|h|h|h|h|h<;>(have:=h.1;omega)
 have kb:=(zef 8 (by decide)).back m.k
 unfold mgS Mp.bytes
 rw[List.append_assoc,kb _ hk]
 simp only
 rcases h with⟨h,k⟩|⟨h,k⟩|⟨h,k⟩|⟨h,k⟩|⟨h,k⟩|⟨h,k⟩|⟨h,k⟩|⟨h,k⟩
 ·rw[h]
  exact zec.back m q k
 ·rw[h]
  exact zeb.back m q k
 ·rw[h]
  exact zea.back m q k
 ·rw[h]
  exact zd9.back m q k
 ·rw[h]
  exact zd8.back m q k
 ·rw[h]
  exact zd7.back m q k
 ·rw[h]
  exact zd6.back m q k
 ·rw[h]
  exact zd5.back m q k
theorem zmy {m:Mp} (h:m.good) (q:List Int):decS (m.bytes++q)=if q.length=0 then(m,0)else(Mp.none,12):=by
 unfold decS
 rw[zkT h q,zhm]
 by_cases c:q.length=0
 ·rw[if_pos c,if_pos rfl,if_pos c]
 ·rw[if_neg c,if_neg (by decide),if_neg c]
theorem zmA {m:Mp} (h:m.good):decS m.bytes=(m,0):=by
 have:=zmy h []
 rw[List.append_nil]at this
 exact this
theorem zmz {zs:List Int} (hb:Bs zs) (h:(decS zs).2=0):(decS zs).1.good∧zs=(decS zs).1.bytes:=by
 have hf:faE (mgS (zs,0,false)).2=0:=by
  by_cases c:faE (mgS (zs,0,false)).2=0
  ·exact c
  ·unfold decS at h
   rw[if_neg c]at h
   exact h
 have hd:decS zs=((mgS (zs,0,false)).1,0):=by
  unfold decS
  rw[if_pos hf]
 rw[hd]
 simp only
 have hc:cod (mgS (zs,0,false)).2=0:=by
  generalize (mgS (zs,0,false)).2=s at hf
  obtain⟨r,e,z⟩:=s
  cases z
  ·show e=0
   have hf:doneE r e=0:=hf
   unfold doneE at hf
   by_cases c:e=0
   ·exact c
   ·rw[if_neg c]at hf;exact hf
  ·exact absurd hf (show(130:Int)≠0 by decide)
 have hr:(mgS (zs,0,false)).2.1=[]:=by
  generalize (mgS (zs,0,false)).2=s at hf hc
  obtain⟨r,e,z⟩:=s
  obtain⟨rfl,rfl⟩:=cod0 hc
  rw[zhm]at hf
  by_cases c:r.length=0
  ·exact List.eq_nil_of_length_eq_zero c
  ·rw[if_neg c]at hf;exact absurd hf (by decide)
 have hbad:∀k s,cod s≠0→cod (mgF k s).2=cod s:=fun k s hs=>by
  unfold mgF
  by_cases n1:k=1
  ·rw[if_pos n1];exact zec.bad s hs
  rw[if_neg n1]
  by_cases n2:k=2
  ·rw[if_pos n2];exact zeb.bad s hs
  rw[if_neg n2]
  by_cases n3:k=3
  ·rw[if_pos n3];exact zea.bad s hs
  rw[if_neg n3]
  by_cases n4:k=4
  ·rw[if_pos n4];exact zd9.bad s hs
  rw[if_neg n4]
  by_cases n5:k=5
  ·rw[if_pos n5];exact zd8.bad s hs
  rw[if_neg n5]
  by_cases n6:k=6
  ·rw[if_pos n6];exact zd7.bad s hs
  rw[if_neg n6]
  by_cases n7:k=7
  ·rw[if_pos n7];exact zd6.bad s hs
  rw[if_neg n7]
  by_cases n8:k=8
  ·rw[if_pos n8];exact zd5.bad s hs
  rw[if_neg n8]
 unfold mgS at hc hr ⊢
 have ck:cod (kiS 8 (zs,0,false)).2=0:=by
  by_cases c:cod (kiS 8 (zs,0,false)).2=0
  ·exact c
  ·exact absurd ((hbad _ _ c).symm.trans hc) c
 obtain⟨k,q,k1,k2,k3⟩:=(zef 8 (by decide)).form zs hb ck
 rw[k2]at hc hr ⊢
 simp only at hc hr ⊢
 have hbq:Bs q:=by rw[k3]at hb;exact hb.right
 unfold mgF at hc hr ⊢
 by_cases n1:k=1
 ·rw[if_pos n1]at hc hr ⊢
  obtain⟨m,q',j1,j2,j3⟩:=zec.form q hbq hc
  rw[j2]at hr ⊢
  simp only at hr ⊢
  have hmk:m.k=1:=by rw[←j1.2];rfl
  refine⟨.inl ⟨hmk,j1⟩,?_⟩
  have eb:m.bytes=putL 1++zcC m:=by unfold Mp.bytes;rw[hmk];rfl
  rw[eb,k3,j3,hr,List.append_nil,n1]
 rw[if_neg n1]at hc hr ⊢
 by_cases n2:k=2
 ·rw[if_pos n2]at hc hr ⊢
  obtain⟨m,q',j1,j2,j3⟩:=zeb.form q hbq hc
  rw[j2]at hr ⊢
  simp only at hr ⊢
  have hmk:m.k=2:=by rw[←j1.2];rfl
  refine⟨.inr (.inl ⟨hmk,j1⟩),?_⟩
  have eb:m.bytes=putL 2++zcB m:=by unfold Mp.bytes;rw[hmk];rfl
  rw[eb,k3,j3,hr,List.append_nil,n2]
 rw[if_neg n2]at hc hr ⊢
 by_cases n3:k=3
 ·rw[if_pos n3]at hc hr ⊢
  obtain⟨m,q',j1,j2,j3⟩:=zea.form q hbq hc
  rw[j2]at hr ⊢
  simp only at hr ⊢
  have hmk:m.k=3:=by rw[←j1.2];rfl
  refine⟨.inr (.inr (.inl ⟨hmk,j1⟩)),?_⟩
  have eb:m.bytes=putL 3++zcA m:=by unfold Mp.bytes;rw[hmk];rfl
  rw[eb,k3,j3,hr,List.append_nil,n3]
 rw[if_neg n3]at hc hr ⊢
 by_cases n4:k=4
 ·rw[if_pos n4]at hc hr ⊢
  obtain⟨m,q',j1,j2,j3⟩:=zd9.form q hbq hc
  rw[j2]at hr ⊢
  simp only at hr ⊢
  have hmk:m.k=4:=by rw[←j1.2];rfl
  refine⟨.inr (.inr (.inr (.inl ⟨hmk,j1⟩))),?_⟩
  have eb:m.bytes=putL 4++zb2 m:=by unfold Mp.bytes;rw[hmk];rfl
  rw[eb,k3,j3,hr,List.append_nil,n4]
 rw[if_neg n4]at hc hr ⊢
 by_cases n5:k=5
 ·rw[if_pos n5]at hc hr ⊢
  obtain⟨m,q',j1,j2,j3⟩:=zd8.form q hbq hc
  rw[j2]at hr ⊢
  simp only at hr ⊢
  have hmk:m.k=5:=by rw[←j1.2];rfl
  refine⟨.inr (.inr (.inr (.inr (.inl ⟨hmk,j1⟩)))),?_⟩
  have eb:m.bytes=putL 5++zcz m:=by unfold Mp.bytes;rw[hmk];rfl
  rw[eb,k3,j3,hr,List.append_nil,n5]
 rw[if_neg n5]at hc hr ⊢
 by_cases n6:k=6
 ·rw[if_pos n6]at hc hr ⊢
  obtain⟨m,q',j1,j2,j3⟩:=zd7.form q hbq hc
  rw[j2]at hr ⊢
  simp only at hr ⊢
  have hmk:m.k=6:=by rw[←j1.2];rfl
  refine⟨.inr (.inr (.inr (.inr (.inr (.inl ⟨hmk,j1⟩))))),?_⟩
  have eb:m.bytes=putL 6++zcy m:=by unfold Mp.bytes;rw[hmk];rfl
  rw[eb,k3,j3,hr,List.append_nil,n6]
 rw[if_neg n6]at hc hr ⊢
 by_cases n7:k=7
 ·rw[if_pos n7]at hc hr ⊢
  obtain⟨m,q',j1,j2,j3⟩:=zd6.form q hbq hc
  rw[j2]at hr ⊢
  simp only at hr ⊢
  have hmk:m.k=7:=by rw[←j1.2];rfl
  refine⟨.inr (.inr (.inr (.inr (.inr (.inr (.inl ⟨hmk,j1⟩)))))),?_⟩
  have eb:m.bytes=putL 7++zcx m:=by unfold Mp.bytes;rw[hmk];rfl
  rw[eb,k3,j3,hr,List.append_nil,n7]
 rw[if_neg n7]at hc hr ⊢
 by_cases n8:k=8
 ·rw[if_pos n8]at hc hr ⊢
  obtain⟨m,q',j1,j2,j3⟩:=zd5.form q hbq hc
  rw[j2]at hr ⊢
  simp only at hr ⊢
  have hmk:m.k=8:=by rw[←j1.2];rfl
  refine⟨.inr (.inr (.inr (.inr (.inr (.inr (.inr (⟨hmk,j1⟩))))))),?_⟩
  have eb:m.bytes=putL 8++zcw m:=by unfold Mp.bytes;rw[hmk];rfl
  rw[eb,k3,j3,hr,List.append_nil,n8]
 rw[if_neg n8]at hc hr ⊢
 omega
theorem zfG {α β:Type} {B:α→α→Bool} {f:α→β} (h:∀x y,f x=f y→B x y=true):∀xs ys:List α,xs.map f=ys.map f→sameL B xs ys=true
  |[],[],_=>rfl
  |x::xs,y::ys,e=>by
    simp only[List.map_cons,List.cons.injEq]at e
    unfold sameL
    rw[h x y e.1,zfG h xs ys e.2]
    rfl
  |[],y::ys,e=>by cases e
  |x::xs,[],e=>by cases e
theorem zhw {x y:Vt} {s t:Sl Sg} (h:x=y) (h2:s.xs=t.xs):certB x s y t=true:=by
 unfold certB
 rw[zb3.2 h,(zay (fun x y=>Sg.B_iff) _ _).2 h2]
 rfl
theorem zhT {q r:Bool} {x y:Sl Rq} (h:q=r) (h2:x.xs=y.xs):batB q x r y=true:=by
 unfold batB
 rw[h,(zay (fun x y=>Rq.B_iff) _ _).2 h2]
 simp
theorem Hd.B_eqv (x y:Hd) (h:x.pure=y.pure):Hd.B x y=true:=by
 unfold Hd.pure at h
 simp only[Hp.mk.injEq]at h
 obtain⟨h1,h2,h3,h4⟩:=h
 unfold Hd.B
 rw[zhT h1 h2,zhw h3 h4]
 rfl
theorem Mg.B_eqv (a b:Mg) (h:a.pure=b.pure):Mg.B a b=true:=by
 unfold Mg.pure at h
 simp only[Mp.mk.injEq]at h
 obtain⟨h1,h2,h3,h4,h5,h6,h7,h8,h9,h10,h11,h12,h13,h14,h15,h16,h17,h18⟩:=h
 unfold Mg.B Mg.nB Mg.fB Mg.lB chgB
 rw[zb3.2 h8,zhT h6 h7,zhw h15 h16,(zay (fun x y=>Ev.B_iff) _ _).2 h13,(zay (fun x y=>Sg.B_iff) _ _).2 h18,zfG Hd.B_eqv _ _ h12,h1,h2,h3,h4,h5,h9,h10,h11,h14,h17]
 simp
theorem zhv {x y:Vt} {s t:Sl Sg} (h:certB x s y t=true):x=y∧s.xs=t.xs:=by
 unfold certB at h
 rw[Bool.and_eq_true]at h
 exact⟨zb3.1 h.1,(zay (fun x y=>Sg.B_iff) _ _).1 h.2⟩
theorem zhS {q r:Bool} {x y:Sl Rq} (h:batB q x r y=true):q=r∧x.xs=y.xs:=by
 unfold batB at h
 rw[Bool.and_eq_true]at h
 exact⟨by simpa using h.1,(zay (fun x y=>Rq.B_iff) _ _).1 h.2⟩
theorem Hd.B_pure (x y:Hd) (h:Hd.B x y=true):x.pure=y.pure:=by
 unfold Hd.B at h
 rw[Bool.and_eq_true]at h
 obtain⟨h1,h2⟩:=zhS h.1
 obtain⟨h3,h4⟩:=zhv h.2
 unfold Hd.pure
 rw[h1,h2,h3,h4]
theorem zfF {α β:Type} {B:α→α→Bool} {f:α→β} (h:∀x y,B x y=true→f x=f y):∀xs ys:List α,sameL B xs ys=true→xs.map f=ys.map f
  |[],[],_=>rfl
  |x::xs,y::ys,e=>by
    unfold sameL at e
    rw[Bool.and_eq_true]at e
    rw[List.map_cons,List.map_cons,h x y e.1,zfF h xs ys e.2]
  |[],y::ys,e=>by cases e
  |x::xs,[],e=>by cases e
theorem Mg.B_pure (a b:Mg) (h:Mg.B a b=true):a.pure=b.pure:=by
 unfold Mg.B Mg.nB Mg.fB Mg.lB chgB at h
 simp only[Bool.and_eq_true,beq_iff_eq]at h
 obtain⟨⟨h1,h2,h3,h4,h5⟩,⟨h6,h7,h8⟩,h9,⟨⟨h10,h11,h12⟩,h13⟩,h14,h15,h16⟩:=h
 obtain⟨b1,b2⟩:=zhS h9
 obtain⟨c1,c2⟩:=zhv h15
 unfold Mg.pure
 rw[h1,h2,h3,h4,h5,b1,b2,zb3.1 h6,h10,h11,h12,zfF Hd.B_pure _ _ h13,(zay (fun x y=>Ev.B_iff) _ _).1 h14,h7,c1,c2,zdB.1 h8,(zay (fun x y=>Sg.B_iff) _ _).1 h16]
theorem zi8 {g:Sg} (o:g.ok):g.may=true→sgOk g:=fun h=>⟨zam.1 h,o.tl,o.tb⟩
theorem zl1 {g:Ev} (o:g.ok) (h:g.may=true):evOk g:=by
 unfold Ev.may at h
 rw[Bool.and_eq_true]at h
 exact⟨zam.1 h.1,of_decide_eq_true h.2,o.tl,o.tb⟩
theorem zjq {g:Rq} (o:g.ok) (h:g.may=true):rqOk g:=by
 unfold Rq.may at h
 rw[Bool.and_eq_true,Bool.and_eq_true]at h
 exact⟨zam.1 h.1,zam.1 h.2.1,of_decide_eq_true h.2.2,o.tl,o.tb⟩
theorem ze4 {x:Vt} (o:x.ok) (h:x.may=true):vtOk x:=by
 unfold Vt.may at h
 simp only[Bool.and_eq_true,Bool.or_eq_true,decide_eq_true_eq]at h
 obtain⟨h1,h2,h3,h4⟩:=h
 exact⟨by omega,zam.1 h2,zam.1 h3,zam.1 h4,o.dl,o.db⟩
theorem zc7 {α:Type} {most:Int} {p:α→Bool} {xs:List α}:mayL most p xs=true↔(xs.length:Int)≤most∧∀x∈xs,p x=true:=by
 unfold mayL
 rw[Bool.and_eq_true,decide_eq_true_iff,List.all_eq_true]
theorem zeE {q:Bool} {x:Sl Rq} (o:∀y∈x.xs,y.ok) (h:batMay q x=true):baOk (q,x.xs):=by
 unfold batMay at h
 cases q
 ·obtain⟨h1,h2⟩:=zc7.1 h
  exact⟨(fun e=>by cases e),(by show x.xs.length≤4;omega),fun r hr=>zjq (o r hr) (h2 r hr)⟩
 ·have e:x.xs=[]:=List.eq_nil_of_length_eq_zero (of_decide_eq_true h)
  exact⟨(fun _=>e),(by show x.xs.length≤4;rw[e];simp),fun r hr=>by rw[show x.xs=[] from e]at hr;cases hr⟩
theorem zfy {x:Sl Sg} (o:∀y∈x.xs,y.ok) (h:sgsMay x=true):(x.xs.length:Int)≤64∧∀y∈x.xs,sgOk y:=by
 obtain⟨h1,h2⟩:=zc7.1 h
 exact⟨h1,fun y hy=>zi8 (o y hy) (h2 y hy)⟩
theorem zht {v:Vt} {x:Sl Sg} (ov:v.ok) (o:∀y∈x.xs,y.ok) (h:certMay v x=true):ceOk (v,x.xs):=by
 unfold certMay at h
 rw[Bool.and_eq_true]at h
 exact⟨ze4 ov h.1,zfy o h.2⟩
theorem zlt {h:Hd} {w:World} (ov:h.vt.ok) (a:h.At w) (k:h.may=true):hpOk h.pure:=by
 unfold Hd.may at k
 rw[Bool.and_eq_true]at k
 exact⟨zeE a.1.2.1 k.1,zht ov a.2.2.1 k.2⟩
theorem zmI {a b c:Int} {x:Sl Hd} {w:World} (at_:HdsAt w x) (h:chgMay a b c x=true):cpOk ⟨a,b,c,x.xs.map Hd.pure⟩:=by
 unfold chgMay at h
 simp only[Bool.and_eq_true]at h
 obtain⟨⟨h1,h2,h3⟩,h4⟩:=h
 obtain⟨h5,h6⟩:=zc7.1 h4
 refine⟨zam.1 h1,zam.1 h2,zam.1 h3,by show((x.xs.map Hd.pure).length:Int)≤4;rw[List.length_map];exact h5,fun y hy=>?_⟩
 obtain⟨g,hg,rfl⟩:=List.mem_map.1 hy
 exact zlt (at_.1.2.1 g hg) (at_.2 g hg) (h6 g hg)
theorem zls (xs:List Hd):hdsL xs=putL ((xs.map Hd.pure).length)++(xs.map Hd.pure).flatMap hpL:=by
 unfold hdsL
 rw[List.length_map,List.flatMap_map]
 rfl
theorem zmR (m:Mg) (h:1≤m.k∧m.k≤8):m.bytes=m.pure.bytes:=by
 have hk:m.k=1∨m.k=2∨m.k=3∨m.k=4∨m.k=5∨m.k=6∨m.k=7∨m.k=8:=by omega
 show putL m.k++m.body=putL m.k++(if m.k=1 then zcC m.pure else if m.k=2 then zcB m.pure else if m.k=3 then zcA m.pure else if m.k=4 then zb2 m.pure else if m.k=5 then zcz m.pure else if m.k=6 then zcy m.pure else if m.k=7 then zcx m.pure else zcw m.pure)
 unfold Mg.body
 rcases hk with h|h|h|h|h|h|h|h<;>rw[h]
 ·have e:[m.e,m.s].flatMap putL++batL m.q (m.rs.xs.map BRq.of)=putL m.e++(putL m.s++baL (m.q,m.rs.xs)):=by simp[List.append_assoc,baL]
  exact congrArg (putL 1++·) e
 ·rfl
 ·have e:[m.ce,m.cl,m.cv].flatMap putL++hdsL m.he.xs=putL m.ce++(putL m.cl++(putL m.cv++(putL ((m.he.xs.map Hd.pure).length)++(m.he.xs.map Hd.pure).flatMap hpL))):=by rw[zls];simp[List.append_assoc]
  exact congrArg (putL 3++·) e
 ·have e:[m.e,m.l,m.v].flatMap putL++evsL m.ne.xs=putL m.e++(putL m.l++(putL m.v++evsL m.ne.xs)):=by simp[List.append_assoc]
  exact congrArg (putL 4++·) e
 ·rfl
 ·have e:[m.e,m.s].flatMap putL=putL m.e++putL m.s:=by simp[List.append_assoc]
  exact congrArg (putL 6++·) e
 ·rfl
 ·rfl
theorem zl3 {x:Sl Ev} {w:World} (a:x.At EvE w) (h:mayL 64 Ev.may x.xs=true):(x.xs.length:Int)≤64∧∀y∈x.xs,evOk y:=by
 obtain⟨h1,h2⟩:=zc7.1 h
 exact⟨h1,fun y hy=>zl1 (a.2.1 y hy) (h2 y hy)⟩
theorem zlw {m:Mg} {w:World} (om:m.ok) (am:m.At w) (hg:m.good=true):m.pure.good:=by
 unfold Mg.good at hg
 rw[Bool.and_eq_true,Bool.and_eq_true,decide_eq_true_iff]at hg
 obtain⟨hk,hB,hm⟩:=hg
 have hp:=Mg.B_pure _ _ hB
 unfold Mg.may Mg.mayL at hm
 simp only[Bool.and_eq_true]at hm
 obtain⟨⟨e1,e2⟩,⟨e3,e4⟩,e5,e6,e7,e8,e9,e10,e11⟩:=hm
 have hks:m.k=1∨m.k=2∨m.k=3∨m.k=4∨m.k=5∨m.k=6∨m.k=7∨m.k=8:=by omega
 rcases hks with h|h|h|h|h|h|h|h
 ·rw[Mg.bare_1 h]at hp
  refine .inl ⟨h,⟨zam.1 e1,zam.1 e4,zeE am.rs.2.1 e7⟩,?_⟩
  exact hp.symm
 ·rw[Mg.bare_2 h]at hp
  refine .inr (.inl ⟨h,ze4 om.vt (by rw[if_pos h]at e5;exact e5),?_⟩)
  exact hp.symm
 ·rw[Mg.bare_3 h]at hp
  refine .inr (.inr (.inl ⟨h,zmI am.he e8,?_⟩))
  exact hp.symm
 ·rw[Mg.bare_4 h]at hp
  refine .inr (.inr (.inr (.inl ⟨h,⟨zam.1 e1,zam.1 e2,zam.1 e3,zl3 am.ne e9⟩,?_⟩)))
  exact hp.symm
 ·rw[Mg.bare_5 h]at hp
  refine .inr (.inr (.inr (.inr (.inl ⟨h,⟨zam.1 e1,om.dl,om.db⟩,?_⟩))))
  exact hp.symm
 ·rw[Mg.bare_6 h]at hp
  refine .inr (.inr (.inr (.inr (.inr (.inl ⟨h,⟨zam.1 e1,zam.1 e4⟩,?_⟩)))))
  exact hp.symm
 ·rw[Mg.bare_7 h]at hp
  refine .inr (.inr (.inr (.inr (.inr (.inr (.inl ⟨h,⟨zeE am.rs.2.1 e7,zht om.ct am.cs.2.1 (by rw[if_pos h]at e6;exact e6)⟩,?_⟩))))))
  exact hp.symm
 ·rw[Mg.bare_8 h]at hp
  refine .inr (.inr (.inr (.inr (.inr (.inr (.inr (⟨h,⟨of_decide_eq_true e10,zfy am.sg.2.1 e11⟩,?_⟩)))))))
  exact hp.symm
theorem Bs.app {a b:List Int} (h:Bs a) (k:Bs b):Bs (a++b):=fun z hz=>(List.mem_append.1 hz).elim (h z) (k z)
theorem Bs.flat {α:Type} {f:α→List Int} {xs:List α} (h:∀x∈xs,Bs (f x)):Bs (xs.flatMap f):=fun z hz=>by
 obtain⟨x,hx,hz⟩:=List.mem_flatMap.1 hz
 exact h x hx z hz
theorem zag {n m:Int} (h:0≤n∧n≤m) (hm:m≤9223372036854775807):Bs (putL n):=zaJ n (by omega)
theorem zde (n:Nat) (m:Int) (h:(n:Int)≤m) (hm:m≤9223372036854775807):Bs (putL (n:Int)):=zaJ n (by omega)
theorem zdD {s:ByteArray} {m:Int} (h:(s.size:Int)≤m) (hm:m≤9223372036854775807):Bs (textL s):=(zde _ m h hm).app (zbt s)
theorem zi9 {g:Sg} (h:sgOk g):Bs (sgL g):=(zag h.1 (by decide)).app h.2.2
theorem zl2 {g:Ev} (h:evOk g):Bs (evL g):=(zag h.1 (by decide)).app ((zdD h.2.1 (by decide)).app h.2.2.2)
theorem ze6 {x:Vt} (h:vtOk x):Bs (vtL x):=by
 obtain⟨h1,h2,h3,h4,h5,h6⟩:=h
 refine Bs.app (Bs.flat fun n hn=>?_) h6
 simp only[List.mem_cons,List.not_mem_nil,or_false]at hn
 rcases hn with rfl|rfl|rfl|rfl
 ·exact zag (m:=2) ⟨by omega,by omega⟩ (by decide)
 ·exact zag h2 (by decide)
 ·exact zag h3 (by decide)
 ·exact zag h4 (by decide)
theorem zjr {r:Rq} (h:rqOk r):Bs (rqL r):=(((zag h.1 (by decide)).app (zag h.2.1 (by decide))).app (zdD h.2.2.1 (by decide))).app h.2.2.2.2
theorem zeH {c:Bool ×List Rq} (h:baOk c):Bs (baL c):=by
 obtain⟨q,rs⟩:=c
 cases q
 ·have e:baL (false,rs)=putL ((rs.length:Int)+1)++rs.flatMap rqL:=by
   unfold baL batL
   rw[if_neg (show ¬(false=true) by decide),List.length_map,List.flatMap_map]
   rfl
  rw[e]
  have h2:rs.length≤4:=h.2.1
  exact Bs.app (zaJ _ (by omega)) (Bs.flat fun r hr=>zjr (h.2.2 r hr))
 ·have e:baL (true,rs)=putL 0:=rfl
  rw[e]
  exact zaJ 0 (by omega)
theorem zfA {xs:List Sg} (h:(xs.length:Int)≤64∧∀x∈xs,sgOk x):Bs (sgsL xs):=(zde _ 64 h.1 (by decide)).app (Bs.flat fun x hx=>zi9 (h.2 x hx))
theorem zl0 {xs:List Ev} (h:(xs.length:Int)≤64∧∀x∈xs,evOk x):Bs (evsL xs):=(zde _ 64 h.1 (by decide)).app (Bs.flat fun x hx=>zl2 (h.2 x hx))
theorem zhz {v:Vt} {xs:List Sg} (h:ceOk (v,xs)):Bs (ctL v xs):=(ze6 h.1).app (zfA h.2)
theorem zlj {x:Hp} (h:hpOk x):Bs (hpL x):=(zeH h.1).app (zhz h.2)
theorem zmD {c:Cp} (h:cpOk c):Bs (cpL c):=(zag h.1 (by decide)).app ((zag h.2.1 (by decide)).app ((zag h.2.2.1 (by decide)).app ((zde _ 4 h.2.2.2.1 (by decide)).app (Bs.flat fun x hx=>zlj (h.2.2.2.2 x hx)))))
theorem Mp.bytes_bs {m:Mp} (h:m.good):Bs m.bytes:=by
 rcases h with⟨h,k⟩|⟨h,k⟩|⟨h,k⟩|⟨h,k⟩|⟨h,k⟩|⟨h,k⟩|⟨h,k⟩|⟨h,k⟩
 ·have e:m.bytes=putL 1++zcC m:=by unfold Mp.bytes;rw[h];rfl
  rw[e];exact(show Bs (putL 1) from zaJ 1 (by omega)).app ((zag k.1.1 (by decide)).app ((zag k.1.2.1 (by decide)).app (zeH k.1.2.2)))
 ·have e:m.bytes=putL 2++zcB m:=by unfold Mp.bytes;rw[h];rfl
  rw[e];exact(show Bs (putL 2) from zaJ 2 (by omega)).app (ze6 k.1)
 ·have e:m.bytes=putL 3++zcA m:=by unfold Mp.bytes;rw[h];rfl
  rw[e];exact(show Bs (putL 3) from zaJ 3 (by omega)).app (zmD k.1)
 ·have e:m.bytes=putL 4++zb2 m:=by unfold Mp.bytes;rw[h];rfl
  rw[e];exact(show Bs (putL 4) from zaJ 4 (by omega)).app ((zag k.1.1 (by decide)).app ((zag k.1.2.1 (by decide)).app ((zag k.1.2.2.1 (by decide)).app (zl0 k.1.2.2.2))))
 ·have e:m.bytes=putL 5++zcz m:=by unfold Mp.bytes;rw[h];rfl
  rw[e];exact(show Bs (putL 5) from zaJ 5 (by omega)).app ((zag k.1.1 (by decide)).app k.1.2.2)
 ·have e:m.bytes=putL 6++zcy m:=by unfold Mp.bytes;rw[h];rfl
  rw[e];exact(show Bs (putL 6) from zaJ 6 (by omega)).app ((zag k.1.1 (by decide)).app (zag k.1.2 (by decide)))
 ·have e:m.bytes=putL 7++zcx m:=by unfold Mp.bytes;rw[h];rfl
  rw[e];exact(show Bs (putL 7) from zaJ 7 (by omega)).app ((zeH k.1.1).app (zhz k.1.2))
 ·have e:m.bytes=putL 8++zcw m:=by unfold Mp.bytes;rw[h];rfl
  rw[e];exact(show Bs (putL 8) from zaJ 8 (by omega)).app ((zdD k.1.1 (by decide)).app (zfA k.1.2))
end Go.Proofs.YtcbpbkefggekmaaGreatDoor
