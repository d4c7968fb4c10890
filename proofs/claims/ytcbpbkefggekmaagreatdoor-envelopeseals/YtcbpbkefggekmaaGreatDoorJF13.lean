/- claims of batches, of certs; claims of certs, of messages; the tags of a message, but for its news; the document: claims of batches, of certs; the document: the -/
import Derived.Test.YtcbpbkefggekmaaGreatDoorJF0
import Derived.Test.YtcbpbkefggekmaaGreatDoorJF11
import Derived.Test.YtcbpbkefggekmaaGreatDoorJF12
import Derived.Deep.DeepCutAuto
import Derived.Test.YtcbpbkefggekmaaGreatDoorJF9
set_option maxHeartbeats 2000000
set_option maxRecDepth 100000
open Go.Proofs.Tryz
namespace Go.Proofs.YtcbpbkefggekmaaGreatDoor
open Go.RowKit
open Sha Tal
set_option linter.unusedVariables false
set_option linter.unusedSimpArgs false
def batC (N:Int) (rs:List Rq):List Ev:=rs.map fun r=>⟨IntKind.i64.wrap (N+r.c),strOf (Rk.bodyL r.c r.n r.s),r.t⟩
def cerC (v:Vt) (ss:List Sg):List Ev:=ss.map fun s=>⟨s.n,optS v.may (voteL v),s.t⟩
def sgC (ss:List Sg):List Ev:=ss.map fun s=>⟨s.n,⟨#[]⟩,s.t⟩
def addV (O:Nat):Value:=.func (.func 52) #[] #[.pointer (some ⟨O,0,none⟩)]
theorem wrapIn (z:Int):-9223372036854775808≤IntKind.i64.wrap z∧IntKind.i64.wrap z≤9223372036854775807:=by rw[IntKind.wrap_i64];omega
theorem zcC (zs:List Int):(strOf zs).size=zs.length:=zb7 zs
theorem zmE {N:Int} {r:Rq} (h:r.ok) (hs:r.s.size≤100000):Ev.ok ⟨IntKind.i64.wrap (N+r.c),strOf (Rk.bodyL r.c r.n r.s),r.t⟩:=
 ⟨h.tl,h.tb,by
  have:=Rk.zek r.c r.n r.s h.ch h.nh hs
  show(strOf (Rk.bodyL r.c r.n r.s)).size≤maxLen
  rw[zcC]
  unfold maxLen
  omega,(wrapIn _).1,(wrapIn _).2⟩
theorem zke {v:Vt} (h:v.ok):(optS v.may (voteL v)).size≤1000:=by
 unfold optS
 split
 ·rw[zcC];exact zik h
 ·decide
theorem zmg {v:Vt} (hv:v.ok) {s:Sg} (h:s.ok):Ev.ok ⟨s.n,optS v.may (voteL v),s.t⟩:=
 ⟨h.tl,h.tb,Nat.le_trans (zke hv) (by unfold maxLen;decide),h.nl,h.nh⟩
theorem ziV {s:Sg} (h:s.ok):Ev.ok ⟨s.n,⟨#[]⟩,s.t⟩:=⟨h.tl,h.tb,Nat.zero_le _,h.nl,h.nh⟩
theorem zdt {α β:Type} {f:α→β} {xs:List α} {k:Nat} (hk:k<xs.length):(xs.map f).take (k+1)=(xs.map f).take k++[f xs[k]]:=by
 rw[List.take_add_one]
 simp[List.getElem?_eq_getElem hk]
theorem Grow.range {w w':World} {O b o:Nat} {v v':Value} {cs:List Value} (g:Grow w w' O v v') (hb:b<w.heap.size) (hc:Clr O v b) (h:w.rangeAt b o cs):w'.rangeAt b o cs:=fun j u hu=>by
 rw[(zO (g.block b hb hc.1 hc.2)).1]
 exact h j u hu
structure CI (w wr:World) (O:Nat) (v vk:Value) (cs:List Ev):Prop where
 out:OutC wr O vk cs
 grow:Grow w wr O v vk
theorem CI.later {w wr w':World} {O:Nat} {v vk:Value} {cs:List Ev} (h:CI w wr O v vk cs) (hb:Below wr.heap.size wr w'):CI w w' O v vk cs:=⟨h.out.below hb,h.grow.trans (Grow.of hb _ _)⟩
theorem CI.add {w wr w':World} {O:Nat} {v vk v':Value} {cs ds:List Ev} (h:CI w wr O v vk cs) (ho:OutC w' O v' ds) (hg:Grow wr w' O vk v'):CI w w' O v v' ds:=⟨ho,h.grow.trans hg⟩
theorem zc7 {w wr:World} {O:Nat} {v vk:Value} {cs:List Ev} (h:CI w wr O v vk cs) {b:Nat} (hb:wr.heap.size≤b):Clr O vk b:=⟨by have:=h.out.lt;omega,fun e=>by have:=(h.out.own.lt b e).2;omega⟩
theorem zhw (N:Int) (q:Bool) (x:Sl Rq) (O:Nat) (v:Value) (cs:List Ev) (w:World) (h:OutC w O v cs) (hx:x.At RqE w) (hc:x.Bk (Clr O v)) (hn:cs.length+x.xs.length≤1000000000) (hb:∀r∈x.xs,r.s.size≤100000):
  Calls prog 80 #[.int .i64 N,.agg #[.bool q,x.val],addV O] w fun en w'=>en=.returned (.tuple #[])∧∃v',OutC w' O v' (cs++batC N x.xs)∧Grow w w' O v v':=by
 obtain⟨z19,hzl,hzr⟩:∃z:List Value,z.length=19∧(∀w:World,(zeroValue 81).run prog w=.ok (.agg z.toArray) w):=⟨[.int .i64 0,.int .i64 0,.string ⟨#[]⟩]++v8 (List.replicate 16 0),rfl,fun w=>by kernel_rfl⟩
 have ca:=fun w0 vk ds e he h0 hl=>zc8 O vk ds e w0 h0 he hl
 obtain⟨B1,r1,s1⟩:=zq w [.bool q,x.val] 39
 have pr:(w.alloc (.cells [Value.bool q,x.val].toArray 39)).cell? ⟨w.heap.size,1,none⟩=some x.val:=by have:=r1 1 _ rfl;rwa [Nat.zero_add]at this
 have HC0:CI w (w.alloc (.cells [Value.bool q,x.val].toArray 39)) O v v (cs++(batC N x.xs).take 0):=⟨by rw[List.take_zero,List.append_nil];exact h.below B1,Grow.of B1 _ _⟩
 have hx1:=hx
 obtain⟨xa,xc,xs⟩:=x
 obtain⟨n,hxn⟩:∃n,xs.length=n:=⟨_,rfl⟩
 have hval:(Sl.mk xa xc xs).val=.slice xa n xc:=by unfold Sl.val;rw[←hxn]
 rw[hval]at r1 pr HC0 B1 s1 ⊢
 clear hval r1
 have HN:=hide hxn
 have HXX:Hid (Sl.At RqE w ⟨xa,xc,xs⟩):=hide hx
 have HCC:=hide hc
 have HB:Hid (∀r∈xs,r.s.size≤100000):=hide hb
 have hn:cs.length+xs.length≤1000000000:=hn
 have HNN:=hide hn
 clear hx hx1 hc hb hn hxn h
 go_enter func80,ntmps80
 go_upto_region 1 with fail
 go_name_world W hW
 rw[show w.alloc (.cells #[.bool q,.slice xa n xc] 39)=W from hW]at B1 pr s1 HC0
 clear hW
 have HC1:=hide HC0
 clear HC0
 unfold addV
 go_wp2_with fail
 go_loopw [11] (fun iv wr=>∃(k:Nat) (vk:Value),k≤n∧iv=.int .i64 (k:Int)∧Hid (CI w wr O v vk (cs++(batC N xs).take k))) (fun iv _=>n - (intOf iv).toNat)
 case atStart=>exact⟨0,v,by omega,rfl,HC1⟩
 case round=>
  clear HC1 pr
  obtain⟨k,vk,hk,rfl,HK⟩:=hrel
  by_cases hlt:k<n
  ·have k1:(k:Int)<n:=by omega
   have hn9:n≤1000000000:=by have h1:=HNN.out;have h2:=HN.out;omega
   have hkx:k<xs.length:=by rw[HN.out];exact hlt
   obtain⟨b,off,hab,hbw,hre⟩:=(HXX.out.grow HK.out.grow HCC.out).elem k hkx
   have hab:xa=some ⟨b,off,none⟩:=hab
   have hre:wr.rangeAt b (off+k*19) (RqE.f xs[k]):=hre
   have okx:Rq.ok xs[k]:=HXX.out.2.1 _ (List.getElem_mem hkx)
   have hsz:=HB.out _ (List.getElem_mem hkx)
   have HT:Hid ((batC N xs).take (k+1)=(batC N xs).take k++[⟨IntKind.i64.wrap (N+(xs[k]).c),strOf (Rk.bodyL (xs[k]).c (xs[k]).n (xs[k]).s),(xs[k]).t⟩]):=hide (zdt hkx)
   have HL:(cs++(batC N xs).take k).length≤1000000000:=by have:=HNN.out;simp only[List.length_append,List.length_take];omega
   obtain⟨g,hg⟩:∃g,xs[k]=g:=⟨_,rfl⟩
   rw[hg]at hre okx hsz HT
   clear hg
   have hok:=zmE (N:=N) okx hsz
   have ca:=fun w0 vk ds h0 hl=>ca w0 vk ds _ hok h0 hl
   have cb:=fun w0=>Rk.zhv g.c g.n g.s g.t w0 okx.tl okx.ch okx.nh hsz
   have cb:∀w0,Calls prog 101 #[.agg (RqE.f g).toArray] w0 fun e w'=>e=.returned (.string (strOf (Rk.bodyL g.c g.n g.s)))∧Below w0.heap.size w0 w':=cb
   have hu0:(RqE.f g)[0]? =some (.int .i64 g.c):=rfl
   have hut:RqE.f g=.int .i64 g.c::.int .i64 g.n::.string g.s::v8 g.t:=rfl
   have it16:(prog.info? 23).map (·.size)=some (v8 g.t).length:=by rw[v8_length,okx.tl];exact iszT
   have tgof:∀{w':World},w'.rangeAt wr.heap.size 0 (RqE.f g)→w'.rangeAt wr.heap.size 3 (v8 g.t):=fun {w'} hw j u hu=>by
    have:=hw (j+3) u (by rw[hut];exact hu)
    rw[show 0+(j+3)=3+j by omega]at this
    exact this
   have c0of:∀{w':World},w'.rangeAt wr.heap.size 0 (RqE.f g)→(RqE.f g)[0]? =some (.int .i64 g.c)→w'.cell? ⟨wr.heap.size,0,none⟩=some (.int .i64 g.c):=fun {w'} hw _=>by have:=hw 0 _ rfl;rwa [Nat.zero_add]at this
   have iu:(prog.info? 81).map (·.size)=some (RqE.f g).length:=by rw[RqE.len g okx];kernel_rfl
   have hul:(RqE.f g).length=19:=RqE.len g okx
   have hu1:=RqE.one g
   obtain⟨id,hid⟩:∃i,IntKind.i64.wrap (N+g.c)=i:=⟨_,rfl⟩
   rw[hid]at HT hok
   simp only[hid]at ca
   obtain⟨bd,hbd⟩:∃i,Hid (strOf (Rk.bodyL g.c g.n g.s)=i):=⟨_,hide rfl⟩
   rw[hbd.out]at HT hok
   simp only[hbd.out]at ca cb
   obtain⟨tg,htg⟩:∃t,Hid (g.t=t):=⟨_,hide rfl⟩
   rw[htg.out]at HT hok it16
   simp only[htg.out]at ca tgof
   clear hut okx hok hsz htg hbd
   generalize RqE.f g=u at *
   rw[hab]
   go_upto_region 3 with fail
   obtain⟨r5,hF,hF3,-⟩:=zt wr z19.toArray 81 u (by simp[hzl,hul])
   refine pl_b ?_
   refine pl_a 13 ?_
   refine pl_v 14 (.agg u.toArray) (zp rfl rfl hre underlying81 rfl iu) ?_
   refine pl_r 7 (.pointer (some ⟨wr.heap.size,0,none⟩)) (wr.alloc (.cells z19.toArray 81)) (zo rfl (hzr _)) ?_
   refine pl_s ((wr.alloc (.cells z19.toArray 81)).setCells wr.heap.size 0 u) (zf (cs:=u.toArray) rfl rfl rfl (zi _ _ _ (by simp[hzl,hul])) (by simpa using iu) (zh hu1)) ?_
   refine za ?_
   have HC:=HK.out.later hF
   have HX:=zc7 HK.out (Nat.le_refl _)
   clear HK
   obtain⟨X,hX⟩:∃X,wr.heap.size=X:=⟨_,rfl⟩
   simp only[hX]at r5 HC HX hF3 tgof c0of ⊢
   obtain⟨w5,hw5⟩:∃W,(wr.alloc (.cells z19.toArray 81)).setCells X 0 u=W:=⟨_,rfl⟩
   rw[hw5]at r5 HC hF3 ⊢
   have sX:X<w5.heap.size:=by omega
   clear hw5 hX hF hF3 hre hab
   go_upto_region 4 with fail
   have hdr:Below w5.heap.size w5 w5.drew:=(Below.refl _ _).drew
   have r5:=zd r5 hdr sX
   have HC:=HC.later hdr
   have sX:=Nat.lt_of_lt_of_le sX hdr.size
   refine zC (S:=fun W':World=>W'.rangeAt X 0 u) 10 rfl (by kernel_rfl) ?_
   obtain⟨w8,hw8⟩:∃W,w5.drew=W:=⟨_,rfl⟩
   rw[hw8]at r5 HC sX ⊢
   clear hdr hw8
   have hS:w8.rangeAt X 0 u:=r5
   refine hs_a 0 15 hS ?_
   refine hs_a 1 16 hS ?_
   refine hs_a 2 17 hS ?_
   refine hs_v 3 18 (.int .i64 g.c) rfl (fun w' hw=>zg rfl rfl (c0of hw hu0) underlying3 rfl) hS ?_
   refine hs_v 4 19 (.int .i64 id) rfl (fun w' hw=>by go_simp<;>(try simp[hid])) hS ?_
   refine hs_v 5 20 (.agg u.toArray) rfl (fun w' hw=>zp rfl rfl hw underlying81 rfl iu) hS ?_
   refine hs_a 7 22 hS ?_
   refine hs_v 8 23 (.agg (v8 tg).toArray) rfl (fun w' hw=>zp rfl rfl (tgof hw) underlying23 rfl it16) hS ?_
   refine hs_c 6 21 ?_
   refine(cb w8).mono ?_
   rintro _ wb ⟨rfl,hbb⟩
   have hS:wb.rangeAt X 0 u:=zd hS hbb sX
   have HC:=HC.later hbb
   have sX:=Nat.lt_of_lt_of_le sX hbb.size
   refine⟨_,rfl,hS,?_⟩
   simp only[nz]
   refine hs_c 9 24 ?_
   refine(ca wb vk (cs++(batC N xs).take k) HC.out HL).mono ?_
   rintro _ wc ⟨rfl,v',ho',hg'⟩
   have hS:wc.rangeAt X 0 u:=hg'.range sX HX hS
   refine⟨_,rfl,hS,?_⟩
   simp only[nz]
   refine zv (by kernel_rfl) ?_
   have HD:Hid (CI w wc O v v' (cs++(batC N xs).take (k+1))):=hide (by
    rw[HT.out,←List.append_assoc]
    exact HC.add ho' hg')
   clear HC ho' hg' hS HX r5 hbb cb ca tgof c0of HT iu it16 hu0 hu1 hul hzr hzl hid
   go_wp2_with fail
   go_roundw
   case rel=>exact⟨k+1,v',by omega,by go_num,HD⟩
   case measure=>simp[intOf];omega
  ·obtain rfl:k=n:=by omega
   have HE:Hid (OutC wr O vk (cs++batC N xs)∧Grow w wr O v vk):=hide (by
    have h1:=HK.out.out
    rw[List.take_of_length_le (by unfold batC;rw[List.length_map,HN.out];exact Nat.le_refl _)]at h1
    exact⟨h1,HK.out.grow⟩)
   clear HK ca hlt
   go_wp2_with fail
   go_end0
   exact⟨rfl,vk,HE.out⟩
theorem HdsAt.grow {w w':World} {O:Nat} {v v':Value} {x:Sl Hd} (h:HdsAt w x) (k:Grow w w' O v v') (hb:x.Bk (Clr O v)) (hb2:∀y∈x.xs,y.Bk (Clr O v)):HdsAt w' x:=
 ⟨h.1.grow k hb,fun y hy=>⟨(h.2 y hy).1.grow k (hb2 y hy).1,(h.2 y hy).2.grow k (hb2 y hy).2⟩⟩
def hdC (N:Int) (h:Hp):List Ev:=batC N h.rs++cerC h.vt h.sg
def heC (N:Int) (hs:List Hp):List Ev:=hs.flatMap (hdC N)
def ownC (N:Int) (m:Mp):List Ev:=batC N m.rs++cerC m.ct m.cs++heC N m.he++sgC m.sg
theorem zk7 {N:Int} {hs:List Hp} {k:Nat} (hk:k<hs.length):heC N (hs.take (k+1))=heC N (hs.take k)++hdC N hs[k]:=by
 have e:hs.take (k+1)=hs.take k++[hs[k]]:=by rw[List.take_add_one,List.getElem?_eq_getElem hk];rfl
 unfold heC
 rw[e,List.flatMap_append]
 simp
theorem zk8 (N:Int) (hs:List Hp) (k:Nat):(heC N (hs.take k)).length≤(heC N hs).length:=by
 have:heC N hs=heC N (hs.take k)++heC N (hs.drop k):=by
  unfold heC
  rw[←List.flatMap_append,List.take_append_drop]
 rw[this,List.length_append]
 omega
theorem za6 (N:Int) (rs:List Rq):(batC N rs).length=rs.length:=by simp[batC]
theorem zbd (v:Vt) (ss:List Sg):(cerC v ss).length=ss.length:=by simp[cerC]
theorem zbQ (ss:List Sg):(sgC ss).length=ss.length:=by simp[sgC]
theorem zez (w:World):(zeroValue 133).run prog w=.ok (.agg ([Value.int .i64 0]++v8 (List.replicate 16 0)).toArray) w:=zeroSgE w
theorem zhl (vt:Vt) (x:Sl Sg) (O:Nat) (v:Value) (cs:List Ev) (w:World) (h:OutC w O v cs) (hvt:vt.ok) (hx:x.At SgE w) (hc:x.Bk (Clr O v)) (hn:cs.length+x.xs.length≤1000000000):
  Calls prog 81 #[.agg (certL vt x).toArray,addV O] w fun en w'=>en=.returned (.tuple #[])∧∃v',OutC w' O v' (cs++cerC vt x.xs)∧Grow w w' O v v':=by
 obtain⟨z17,hzl,hzr⟩:∃z:List Value,z.length=17∧(∀w:World,(zeroValue 133).run prog w=.ok (.agg z.toArray) w):=⟨_,rfl,zez⟩
 have ca:=fun w0 vk ds e he h0 hl=>zc8 O vk ds e w0 h0 he hl
 have cv:=fun w0=>zil vt hvt w0
 have hvl:=hvt.len
 obtain⟨B1,r1,s1⟩:=zq w (certL vt x) 50
 have r1v:(w.alloc (.cells (certL vt x).toArray 50)).rangeAt w.heap.size 0 vt.cells:=zP r1
 have pr:(w.alloc (.cells (certL vt x).toArray 50)).cell? ⟨w.heap.size,36,none⟩=some x.val:=by
  have:=zZ r1 0 _ rfl
  simpa [hvl]using this
 have HC0:CI w (w.alloc (.cells (certL vt x).toArray 50)) O v v cs:=⟨h.below B1,Grow.of B1 _ _⟩
 have iv:(prog.info? 43).map (·.size)=some vt.cells.length:=by rw[hvl];kernel_rfl
 obtain⟨bv,hbv⟩:∃b,Hid (optS vt.may (voteL vt)=b):=⟨_,hide rfl⟩
 simp only[hbv.out]at cv
 obtain⟨xa,xc,xs⟩:=x
 obtain⟨n,hxn⟩:∃n,xs.length=n:=⟨_,rfl⟩
 have hval:(Sl.mk xa xc xs).val=.slice xa n xc:=by unfold Sl.val;rw[←hxn]
 have hn:cs.length+xs.length≤1000000000:=hn
 rw[hval]at pr
 obtain⟨q,hq⟩:∃q,Hid (certL vt ⟨xa,xc,xs⟩=q):=⟨_,hide rfl⟩
 rw[hq.out]at B1 pr s1 HC0 r1v ⊢
 obtain⟨vc,hvc⟩:∃q,Hid (vt.cells=q):=⟨_,hide rfl⟩
 rw[hvc.out]at iv r1v
 simp only[hvc.out]at cv
 clear hval r1 hvl hq hvc
 have HN:=hide hxn
 have HXX:Hid (Sl.At SgE w ⟨xa,xc,xs⟩):=hide hx
 have HCC:=hide hc
 have HNN:=hide hn
 have HVT:=hide hvt
 clear hx hc hn hxn h hvt
 go_enter func81,ntmps81
 go_upto_region 1 with fail
 go_name_world W hW
 rw[show w.alloc (.cells q.toArray 50)=W from hW]at B1 pr s1 HC0 r1v
 clear hW
 refine pl_b ?_
 refine pl_a 7 ?_
 refine pl_v 8 (.agg vc.toArray) (zp rfl rfl r1v underlying43 rfl iv) ?_
 refine pl_c 9 ?_
 refine(cv W).mono ?_
 rintro _ w1 ⟨rfl,hb1⟩
 refine⟨_,rfl,?_⟩
 simp only[nz]
 refine pl_a 4 ?_
 refine za ?_
 have pr:=(hb1.cell (p:=⟨w.heap.size,36,none⟩) s1).trans pr
 have HC1:=hide (HC0.later hb1)
 clear HC0 r1v cv iv hb1 B1
 go_upto_region 2 with fail
 refine pl_b ?_
 refine pl_a 10 ?_
 refine pl_v 11 (.slice xa n xc) (zg rfl rfl pr underlying48 rfl) ?_
 refine pl_a 12 ?_
 refine pl_a 13 ?_
 refine za ?_
 clear pr s1
 have HC1:Hid (CI w w1 O v v (cs++(cerC vt xs).take 0)):=hide (by rw[List.take_zero,List.append_nil];exact HC1.out)
 unfold addV
 go_wp2_with fail
 go_loopw [13] (fun iv wr=>∃(k:Nat) (vk:Value),k≤n∧iv=.int .i64 (k:Int)∧Hid (CI w wr O v vk (cs++(cerC vt xs).take k))) (fun iv _=>n - (intOf iv).toNat)
 case atStart=>exact⟨0,v,by omega,rfl,HC1⟩
 case round=>
  clear HC1
  obtain⟨k,vk,hk,rfl,HK⟩:=hrel
  by_cases hlt:k<n
  ·have k1:(k:Int)<n:=by omega
   have hn9:n≤1000000000:=by have h1:=HNN.out;have h2:=HN.out;omega
   have hkx:k<xs.length:=by rw[HN.out];exact hlt
   obtain⟨b,off,hab,hbw,hre⟩:=(HXX.out.grow HK.out.grow HCC.out).elem k hkx
   have hab:xa=some ⟨b,off,none⟩:=hab
   have hre:wr.rangeAt b (off+k*17) (SgE.f xs[k]):=hre
   have okx:Sg.ok xs[k]:=HXX.out.2.1 _ (List.getElem_mem hkx)
   have HT:Hid ((cerC vt xs).take (k+1)=(cerC vt xs).take k++[⟨(xs[k]).n,optS vt.may (voteL vt),(xs[k]).t⟩]):=hide (zdt hkx)
   have HL:(cs++(cerC vt xs).take k).length≤1000000000:=by have:=HNN.out;simp only[List.length_append,List.length_take];omega
   obtain⟨g,hg⟩:∃g,xs[k]=g:=⟨_,rfl⟩
   rw[hg]at hre okx HT
   clear hg
   have hok:Ev.ok ⟨g.n,optS vt.may (voteL vt),g.t⟩:=zmg HVT.out okx
   have ca:=fun w0 vk ds h0 hl=>ca w0 vk ds _ hok h0 hl
   have hut:SgE.f g=.int .i64 g.n::v8 g.t:=rfl
   have it16:(prog.info? 23).map (·.size)=some (v8 g.t).length:=by rw[v8_length,okx.tl];exact iszT
   have iu:(prog.info? 133).map (·.size)=some (SgE.f g).length:=by rw[SgE.len g okx];kernel_rfl
   have hul:(SgE.f g).length=17:=SgE.len g okx
   have hu1:=SgE.one g
   obtain⟨id,hid⟩:∃i,g.n=i:=⟨_,rfl⟩
   have hbd:=hbv
   obtain⟨tg,htg⟩:∃t,g.t=t:=⟨_,rfl⟩
   rw[hid,htg]at HT
   rw[hid]at hut
   rw[hbd.out]at HT
   rw[htg]at hut it16
   simp only[hid,hbd.out,htg]at ca
   clear hbd
   clear okx hok htg hid
   obtain⟨u,hu⟩:∃u,Hid (SgE.f g=u):=⟨_,hide rfl⟩
   rw[hu.out]at hre iu hul hu1 hut
   clear hu
   rw[hab]
   go_upto_region 4 with fail
   obtain⟨r5,hF,hF3,-⟩:=zt wr z17.toArray 133 u (by simp[hzl,hul])
   refine pl_b ?_
   refine pl_a 15 ?_
   refine pl_v 16 (.agg u.toArray) (zp rfl rfl hre underlying133 rfl iu) ?_
   refine pl_r 6 (.pointer (some ⟨wr.heap.size,0,none⟩)) (wr.alloc (.cells z17.toArray 133)) (zo rfl (hzr _)) ?_
   refine pl_s ((wr.alloc (.cells z17.toArray 133)).setCells wr.heap.size 0 u) (zf (cs:=u.toArray) rfl rfl rfl (zi _ _ _ (by simp[hzl,hul])) (by simpa using iu) (zh hu1)) ?_
   refine za ?_
   have HC:=HK.out.later hF
   clear HK
   obtain⟨X,hX⟩:∃X,wr.heap.size=X:=⟨_,rfl⟩
   simp only[hX]at r5 HC hF3 ⊢
   obtain⟨w5,hw5⟩:∃W,(wr.alloc (.cells z17.toArray 133)).setCells X 0 u=W:=⟨_,rfl⟩
   rw[hw5]at r5 HC hF3 ⊢
   have sX:X<w5.heap.size:=by omega
   clear hw5 hX hF hF3 hre hab
   have c0:w5.cell? ⟨X,0,none⟩=some (.int .i64 id):=by simpa using r5 0 _ (by rw[hut];rfl)
   have ct:w5.rangeAt X 1 (v8 tg):=fun j y hy=>by
    have:=r5 (j+1) y (by rw[hut];exact hy)
    rw[show 0+(j+1)=1+j by omega]at this
    exact this
   clear r5
   go_upto_region 5 with fail
   refine pl_b ?_
   refine pl_a 17 ?_
   refine pl_a 18 ?_
   refine pl_v 19 (.int .i64 id) (zg rfl rfl c0 underlying3 rfl) ?_
   refine pl_a 20 ?_
   refine pl_a 21 ?_
   refine pl_v 22 (.agg (v8 tg).toArray) (zp rfl rfl ct underlying23 rfl it16) ?_
   refine pl_c 23 ?_
   refine(ca w5 vk (cs++(cerC vt xs).take k) HC.out HL).mono ?_
   rintro _ wc ⟨rfl,v',ho',hg'⟩
   refine⟨_,rfl,?_⟩
   simp only[nz]
   refine za ?_
   have HD:Hid (CI w wc O v v' (cs++(cerC vt xs).take (k+1))):=hide (by
    rw[HT.out,←List.append_assoc]
    exact HC.add ho' hg')
   clear HC ho' hg' c0 ct ca HT iu it16 hul hu1 hut hzr hzl
   go_wp2_with fail
   go_roundw
   case rel=>exact⟨k+1,v',by omega,by go_num,HD⟩
   case measure=>simp[intOf];omega
  ·obtain rfl:k=n:=by omega
   have HE:Hid (OutC wr O vk (cs++cerC vt xs)∧Grow w wr O v vk):=hide (by
    have h1:=HK.out.out
    rw[List.take_of_length_le (by rw[zbd,HN.out];exact Nat.le_refl _)]at h1
    exact⟨h1,HK.out.grow⟩)
   clear HK ca hlt
   go_wp2_with fail
   go_end0
   exact⟨rfl,vk,HE.out⟩
theorem zfZ {w:World} {b o:Nat} {x y:Value} (h0:w.cell? ⟨b,o,none⟩=some x) (h1:w.cell? ⟨b,o+1,none⟩=some y):w.rangeAt b o [x,y]:=fun j u hu=>by
 rcases j with _|_|j
 ·simp at hu;subst hu;exact h0
 ·simp at hu;subst hu;exact h1
 ·simp at hu
theorem iszBaV (q:Bool) (x:Value):(prog.info? 39).map (·.size)=some [Value.bool q,x].length:=by kernel_rfl
theorem zhE:∃z:List Value,z.length=39∧(∀w:World,(zeroValue 113).run prog w=.ok (.agg z.toArray) w):=⟨_,rfl,zeroHdE⟩
structure Small (m:Mg):Prop where
 rs:∀r∈m.rs.xs,r.s.size≤100000
 he:∀h∈m.he.xs,∀r∈h.rs.xs,r.s.size≤100000
theorem zj9 (N:Int) (m:Mg):(ownC N m.pure).length=m.rs.xs.length+m.cs.xs.length+(heC N (m.he.xs.map Hd.pure)).length+m.sg.xs.length:=by
 unfold ownC
 simp only[List.length_append,za6,zbd,zbQ]
 rfl
theorem zge (N:Int) (m:Mg) (O:Nat) (v:Value) (cs:List Ev) (w:World) (h:OutC w O v cs) (mo:m.ok) (ma0:m.At w) (mb:m.Bk (Clr O v)) (hn:cs.length+(ownC N m.pure).length≤1000000000) (hsm:Small m):
  Calls prog 53 #[.int .i64 N,.agg m.ms.cells.toArray,addV O] w fun en w'=>en=.returned (.tuple #[])∧∃v',OutC w' O v' (cs++ownC N m.pure)∧Grow w w' O v v':=by
 obtain⟨z39,hzl,hzr⟩:=zhE
 obtain⟨z17,hsl,hsr⟩:∃z:List Value,z.length=17∧(∀w:World,(zeroValue 133).run prog w=.ok (.agg z.toArray) w):=⟨_,rfl,zez⟩
 have ca:=fun w0 vk ds e he h0 hl=>zc8 O vk ds e w0 h0 he hl
 rw[zj9]at hn
 have HN:=hide hn
 obtain⟨B1,r1,sA⟩:=zq w m.ms.cells 52
 have MA:m.ms.at (w.alloc (.cells m.ms.cells.toArray 52)) w.heap.size:=mo.ms.at r1
 have HC0:CI (w.alloc (.cells m.ms.cells.toArray 52)) (w.alloc (.cells m.ms.cells.toArray 52)) O v v cs:=⟨h.below B1,Grow.refl _ _ _⟩
 have ma:=ma0.below B1
 have hcA:Clr O v w.heap.size:=⟨by have:=h.lt;omega,fun e=>by have:=(h.own.lt _ e).2;omega⟩
 have iC:(prog.info? 50).map (·.size)=some (certL m.ct m.cs).length:=by unfold certL;rw[List.length_append,mo.ct.len];kernel_rfl
 have HB1:=hide (Grow.of B1 O v)
 have rB:(w.alloc (.cells m.ms.cells.toArray 52)).rangeAt w.heap.size 5 [.bool m.q,m.rs.val]:=zfZ MA.q MA.rs
 have rC0:(w.alloc (.cells m.ms.cells.toArray 52)).rangeAt w.heap.size 80 (certL m.ct m.cs):=MA.ct
 have pH0:(w.alloc (.cells m.ms.cells.toArray 52)).cell? ⟨w.heap.size,46,none⟩=some m.he.val:=MA.he
 have pS0:(w.alloc (.cells m.ms.cells.toArray 52)).cell? ⟨w.heap.size,118,none⟩=some m.sg.val:=MA.sg
 clear MA r1 ma0 h hn B1
 obtain⟨q,hq⟩:∃q,m.ms.cells=q:=⟨_,rfl⟩
 rw[hq]at sA HC0 ma HB1 rB rC0 pH0 pS0
 rw[hq]
 clear hq
 go_enter func53,ntmps53
 go_upto_region 1 with fail
 obtain⟨W,hW⟩:∃W,w.alloc (.cells q.toArray 52)=W:=⟨_,rfl⟩
 rw[hW]at sA HC0 ma HB1 rB rC0 pH0 pS0 ⊢
 clear hW
 obtain⟨A,hA⟩:∃A,w.heap.size=A:=⟨_,rfl⟩
 rw[hA]at sA hcA rB rC0 pH0 pS0
 simp only[hA]
 clear hA
 refine pl_b ?_
 refine pl_a 10 ?_
 refine pl_a 11 ?_
 refine pl_v 12 (.agg #[.bool m.q,m.rs.val]) (zp (cs:=[.bool m.q,m.rs.val]) rfl rfl rB underlying39 rfl (iszBaV _ _)) ?_
 refine pl_a 13 ?_
 refine pl_c 14 ?_
 refine(zhw N m.q m.rs O v cs W HC0.out ma.rs mb.1 (by have:=HN.out;omega) hsm.rs).mono ?_
 rintro _ w1 ⟨rfl,v1,o1,g1⟩
 refine⟨_,rfl,?_⟩
 simp only[nz]
 refine za ?_
 have HC1:=HC0.add o1 g1
 have rC:=HC1.grow.range sA hcA rC0
 clear rB o1 g1 HC0
 go_upto_region 2 with fail
 refine pl_b ?_
 refine pl_a 15 ?_
 refine pl_v 16 (.agg (certL m.ct m.cs).toArray) (zp rfl rfl rC underlying50 rfl iC) ?_
 refine pl_a 17 ?_
 refine pl_c 18 ?_
 refine(zhl m.ct m.cs O v1 _ w1 HC1.out mo.ct (ma.cs.grow HC1.grow mb.2.2.2.2.1) (mb.2.2.2.2.1.grow ma.cs HC1.grow) (by have:=HN.out;rw[List.length_append,za6];omega)).mono ?_
 rintro _ w2 ⟨rfl,v2,o2,g2⟩
 refine⟨_,rfl,?_⟩
 simp only[nz]
 refine za ?_
 have HC2:=HC1.add o2 g2
 have pH:=(zO (j:=46) (HC2.grow.keep sA hcA).1).1.trans pH0
 obtain⟨C2,hC2⟩:∃C,Hid (cs++batC N m.rs.xs++cerC m.ct m.cs.xs=C):=⟨_,hide rfl⟩
 rw[hC2.out]at HC2
 have hC2l:C2.length=cs.length+m.rs.xs.length+m.cs.xs.length:=by rw[←hC2.out];simp only[List.length_append,za6,zbd]
 clear rC rC0 pH0 o2 g2 HC1 iC
 obtain⟨⟨ha,hc,hs⟩,hhe⟩:∃x,m.he=x:=⟨_,rfl⟩
 obtain⟨hl,hhl⟩:∃n,hs.length=n:=⟨_,rfl⟩
 have hval:(m.he).val=.slice ha hl hc:=by rw[hhe];unfold Sl.val;rw[←hhl]
 rw[hval]at pH
 clear hval
 have HH:=hide hhe
 have HL2:Hid (hs.length=hl):=hide hhl
 have HA:=hide ma
 have HB:=hide mb
 clear hhe hhl ma
 go_upto_region 3 with fail
 refine pl_b ?_
 refine pl_a 19 ?_
 refine pl_a 20 ?_
 refine pl_v 21 (.slice ha hl hc) (zg rfl rfl pH underlying44 rfl) ?_
 refine pl_a 22 ?_
 refine pl_a 23 ?_
 refine za ?_
 have HC3:Hid (CI W w2 O v v2 (C2++heC N ((hs.map Hd.pure).take 0))):=hide (by simpa [heC]using HC2)
 clear HC2 pH
 unfold addV
 go_wp2_with fail
 go_loopw [23] (fun iv wr=>∃(k:Nat) (vk:Value),k≤hl∧iv=.int .i64 (k:Int)∧Hid (CI W wr O v vk (C2++heC N ((hs.map Hd.pure).take k)))) (fun iv _=>hl - (intOf iv).toNat)
 case atStart=>exact⟨0,v2,by omega,rfl,HC3⟩
 case round=>
  clear HC3
  obtain⟨k,vk,hk,rfl,HK⟩:=hrel
  by_cases hlt:k<hl
  ·have k1:(k:Int)<hl:=by omega
   have hl9:hl≤9223372036854775807:=by
    have h1:=HA.out.he.1.1
    rw[HH.out]at h1
    have h2:hs.length≤maxLen:=h1
    rw[HL2.out]at h2
    unfold maxLen at h2
    omega
   have hkx:k<hs.length:=by rw[HL2.out];exact hlt
   have hat:HdsAt wr ⟨ha,hc,hs⟩:=by
    have:=HA.out.he.grow HK.out.grow HB.out.2.1 HB.out.2.2.1
    rw[HH.out]at this
    exact this
   obtain⟨b,off,hab,hbw,hre⟩:=hat.1.elem k hkx
   have hab:ha=some ⟨b,off,none⟩:=hab
   have hre:wr.rangeAt b (off+k*39) (HdE.f hs[k]):=hre
   have hmem:hs[k]∈m.he.xs:=by rw[HH.out];exact List.getElem_mem hkx
   have gat:=hat.2 _ (List.getElem_mem hkx)
   have gbk0:=HB.out.2.2.1 _ hmem
   have gat0:=HA.out.he.2 _ hmem
   have gbk:(hs[k]).Bk (Clr O vk):=⟨gbk0.1.grow gat0.1 HK.out.grow,gbk0.2.grow gat0.2 HK.out.grow⟩
   have gsm:=hsm.he _ hmem
   have okx:Vt.ok (hs[k]).vt:=hat.1.2.1 _ (List.getElem_mem hkx)
   have HT:Hid (heC N ((hs.map Hd.pure).take (k+1))=heC N ((hs.map Hd.pure).take k)++(batC N (hs[k]).rs.xs++cerC (hs[k]).vt (hs[k]).sg.xs)):=hide (by
    rw[zk7 (by simpa using hkx)]
    simp[hdC,Hd.pure])
   have HL:Hid ((C2++heC N ((hs.map Hd.pure).take k)).length+(hs[k]).rs.xs.length+(hs[k]).sg.xs.length≤1000000000):=hide (by
    have h1:=zk8 N (hs.map Hd.pure) (k+1)
    rw[HT.out]at h1
    simp only[List.length_append,za6,zbd]at h1 ⊢
    have h2:=HN.out
    rw[HH.out]at h2
    simp only at h2
    omega)
   clear hat gbk0 gat0
   obtain⟨g,hg⟩:∃g,hs[k]=g:=⟨_,rfl⟩
   rw[hg]at hre gat gbk gsm okx HT HL
   clear hg hmem
   have gvt:=okx
   have hul:(HdE.f g).length=39:=HdE.len g okx
   have iu:(prog.info? 113).map (·.size)=some (HdE.f g).length:=by rw[hul];kernel_rfl
   have hu1:=HdE.one g
   have hgf:HdE.f g=.bool g.q::g.rs.val::certL g.vt g.sg:=rfl
   have iG:(prog.info? 50).map (·.size)=some (certL g.vt g.sg).length:=by unfold certL;rw[List.length_append,okx.len];kernel_rfl
   obtain⟨u,hu⟩:∃u,Hid (HdE.f g=u):=⟨_,hide rfl⟩
   rw[hu.out]at hre hul iu hu1 hgf
   clear hu okx
   rw[hab]
   go_upto_region 5 with fail
   obtain⟨r5,hF,hF3,-⟩:=zt wr z39.toArray 113 u (by simp[hzl,hul])
   refine pl_b ?_
   refine pl_a 25 ?_
   refine pl_v 26 (.agg u.toArray) (zp rfl rfl hre underlying113 rfl iu) ?_
   refine pl_r 7 (.pointer (some ⟨wr.heap.size,0,none⟩)) (wr.alloc (.cells z39.toArray 113)) (zo rfl (hzr _)) ?_
   refine pl_s ((wr.alloc (.cells z39.toArray 113)).setCells wr.heap.size 0 u) (zf (cs:=u.toArray) rfl rfl rfl (zi _ _ _ (by simp[hzl,hul])) (by simpa using iu) (zh hu1)) ?_
   refine za ?_
   have HC:=HK.out.later hF
   have HX:=zc7 HK.out (Nat.le_refl _)
   have gat:=gat.below hF
   clear HK
   obtain⟨X,hX⟩:∃X,wr.heap.size=X:=⟨_,rfl⟩
   simp only[hX]at r5 HC HX hF3 gat ⊢
   obtain⟨w5,hw5⟩:∃W,(wr.alloc (.cells z39.toArray 113)).setCells X 0 u=W:=⟨_,rfl⟩
   rw[hw5]at r5 HC hF3 gat ⊢
   have sX:X<w5.heap.size:=by omega
   clear hw5 hX hF hF3 hre hab
   have rB:w5.rangeAt X 0 [.bool g.q,g.rs.val]:=zfZ (by simpa using r5 0 _ (by rw[hgf];rfl)) (by simpa using r5 1 _ (by rw[hgf];rfl))
   have rC0:w5.rangeAt X 2 (certL g.vt g.sg):=fun j y hy=>by
    have:=r5 (j+2) y (by rw[hgf];exact hy)
    rw[show 0+(j+2)=2+j by omega]at this
    exact this
   clear r5
   go_upto_region 6 with fail
   refine pl_b ?_
   refine pl_a 27 ?_
   refine pl_a 28 ?_
   refine pl_v 29 (.agg #[.bool g.q,g.rs.val]) (zp (cs:=[.bool g.q,g.rs.val]) rfl rfl rB underlying39 rfl (iszBaV _ _)) ?_
   refine pl_a 30 ?_
   refine pl_c 31 ?_
   refine(zhw N g.q g.rs O vk _ w5 HC.out gat.1 gbk.1 (by have:=HL.out;omega) gsm).mono ?_
   rintro _ w6 ⟨rfl,v6,o6,g6⟩
   refine⟨_,rfl,?_⟩
   simp only[nz]
   refine za ?_
   have rC:=g6.range sX HX rC0
   clear rB rC0
   go_upto_region 7 with fail
   refine pl_b ?_
   refine pl_a 32 ?_
   refine pl_v 33 (.agg (certL g.vt g.sg).toArray) (zp rfl rfl rC underlying50 rfl iG) ?_
   refine pl_a 34 ?_
   refine pl_c 35 ?_
   refine(zhl g.vt g.sg O v6 _ w6 o6 gvt (gat.2.grow g6 gbk.2) (gbk.2.grow gat.2 g6) (by have:=HL.out;rw[List.length_append,za6];omega)).mono ?_
   rintro _ w7 ⟨rfl,v7,o7,g7⟩
   refine⟨_,rfl,?_⟩
   simp only[nz]
   refine za ?_
   have HD:Hid (CI W w7 O v v7 (C2++heC N ((hs.map Hd.pure).take (k+1)))):=hide (by
    rw[HT.out,←List.append_assoc,←List.append_assoc]
    exact(HC.add o6 g6).add o7 g7)
   clear HC o6 g6 o7 g7 rC HT HL iu iG hul hu1 hgf gat gbk gsm gvt hsl hsr hzl hzr pS0
   go_wp2_with fail
   go_roundw
   case rel=>exact⟨k+1,v7,by omega,by go_num,HD⟩
   case measure=>simp[intOf];omega
  ·obtain rfl:k=hl:=by omega
   have HC4:CI W wr O v vk (C2++heC N (hs.map Hd.pure)):=by
    have h1:=HK.out
    rw[List.take_of_length_le (by rw[List.length_map,HL2.out];exact Nat.le_refl _)]at h1
    exact h1
   obtain⟨C3,hC3⟩:∃C,Hid (C2++heC N (hs.map Hd.pure)=C):=⟨_,hide rfl⟩
   rw[hC3.out]at HC4
   have pS:=(zO (j:=118) (HC4.grow.keep sA hcA).1).1.trans pS0
   obtain⟨⟨xa,xc,xs⟩,hsg⟩:∃x,m.sg=x:=⟨_,rfl⟩
   obtain⟨n,hxn⟩:∃n,xs.length=n:=⟨_,rfl⟩
   have hval:(m.sg).val=.slice xa n xc:=by rw[hsg];unfold Sl.val;rw[←hxn]
   rw[hval]at pS
   have HNN:Hid (C3.length+xs.length≤1000000000):=hide (by
    have h2:=HN.out
    rw[HH.out,hsg]at h2
    simp only at h2
    rw[←hC3.out]
    simp only[List.length_append]
    omega)
   have HXX:Hid (Sl.At SgE W ⟨xa,xc,xs⟩):=hide (by have:=HA.out.sg;rw[hsg]at this;exact this)
   have HCC:Hid (Sl.Bk (Sl.mk xa xc xs) (Clr O v)):=hide (by have:=HB.out.2.2.2.2.2;rw[hsg]at this;exact this)
   have HSG:=hide hsg
   have HX3:=hide hxn
   have HN2:=HN
   clear HN hval hsg hxn HK hlt hk
   have HN:=HX3
   go_upto_region 9 with fail
   refine pl_b ?_
   refine pl_a 37 ?_
   refine pl_v 38 (.slice xa n xc) (zg rfl rfl pS underlying48 rfl) ?_
   refine pl_a 39 ?_
   refine pl_a 40 ?_
   refine za ?_
   have HC5:Hid (CI W wr O v vk (C3++(sgC xs).take 0)):=hide (by rw[List.take_zero,List.append_nil];exact HC4)
   clear pS HC4 pS0
   go_wp2_with fail
   go_loopw [40] (fun iv wr=>∃(k:Nat) (vk:Value),k≤n∧iv=.int .i64 (k:Int)∧Hid (CI W wr O v vk (C3++(sgC xs).take k))) (fun iv _=>n - (intOf iv).toNat)
   case atStart=>exact⟨0,vk,by omega,rfl,HC5⟩
   case round=>
    clear HC5
    obtain⟨k,vk,hk,rfl,HK⟩:=hrel
    by_cases hlt:k<n
    ·have k1:(k:Int)<n:=by omega
     have hn9:n≤1000000000:=by have h1:=HNN.out;have h2:=HN.out;omega
     have hkx:k<xs.length:=by rw[HN.out];exact hlt
     obtain⟨b,off,hab,hbw,hre⟩:=(HXX.out.grow HK.out.grow HCC.out).elem k hkx
     have hab:xa=some ⟨b,off,none⟩:=hab
     have hre:wr.rangeAt b (off+k*17) (SgE.f xs[k]):=hre
     have okx:Sg.ok xs[k]:=HXX.out.2.1 _ (List.getElem_mem hkx)
     have HT:Hid ((sgC xs).take (k+1)=(sgC xs).take k++[⟨(xs[k]).n,(⟨#[]⟩:ByteArray),(xs[k]).t⟩]):=hide (zdt hkx)
     have HL:(C3++(sgC xs).take k).length≤1000000000:=by have:=HNN.out;simp only[List.length_append,List.length_take];omega
     obtain⟨g,hg⟩:∃g,xs[k]=g:=⟨_,rfl⟩
     rw[hg]at hre okx HT
     clear hg
     have hok:Ev.ok ⟨g.n,(⟨#[]⟩:ByteArray),g.t⟩:=ziV okx
     have ca:=fun w0 vk ds h0 hl=>ca w0 vk ds _ hok h0 hl
     have hut:SgE.f g=.int .i64 g.n::v8 g.t:=rfl
     have it16:(prog.info? 23).map (·.size)=some (v8 g.t).length:=by rw[v8_length,okx.tl];exact iszT
     have iu:(prog.info? 133).map (·.size)=some (SgE.f g).length:=by rw[SgE.len g okx];kernel_rfl
     have hul:(SgE.f g).length=17:=SgE.len g okx
     have hu1:=SgE.one g
     obtain⟨id,hid⟩:∃i,g.n=i:=⟨_,rfl⟩
     obtain⟨tg,htg⟩:∃t,g.t=t:=⟨_,rfl⟩
     rw[hid,htg]at HT
     rw[hid]at hut
     rw[htg]at hut it16
     simp only[hid,htg]at ca
     clear okx hok htg hid
     obtain⟨u,hu⟩:∃u,Hid (SgE.f g=u):=⟨_,hide rfl⟩
     rw[hu.out]at hre iu hul hu1 hut
     clear hu
     rw[hab]
     go_upto_region 11 with fail
     obtain⟨r5,hF,hF3,-⟩:=zt wr z17.toArray 133 u (by simp[hsl,hul])
     refine pl_b ?_
     refine pl_a 42 ?_
     refine pl_v 43 (.agg u.toArray) (zp rfl rfl hre underlying133 rfl iu) ?_
     refine pl_r 9 (.pointer (some ⟨wr.heap.size,0,none⟩)) (wr.alloc (.cells z17.toArray 133)) (zo rfl (hsr _)) ?_
     refine pl_s ((wr.alloc (.cells z17.toArray 133)).setCells wr.heap.size 0 u) (zf (cs:=u.toArray) rfl rfl rfl (zi _ _ _ (by simp[hsl,hul])) (by simpa using iu) (zh hu1)) ?_
     refine za ?_
     have HC:=HK.out.later hF
     clear HK
     obtain⟨X,hX⟩:∃X,wr.heap.size=X:=⟨_,rfl⟩
     simp only[hX]at r5 HC hF3 ⊢
     obtain⟨w5,hw5⟩:∃W,(wr.alloc (.cells z17.toArray 133)).setCells X 0 u=W:=⟨_,rfl⟩
     rw[hw5]at r5 HC hF3 ⊢
     have sX:X<w5.heap.size:=by omega
     clear hw5 hX hF hF3 hre hab
     have c0:w5.cell? ⟨X,0,none⟩=some (.int .i64 id):=by simpa using r5 0 _ (by rw[hut];rfl)
     have ct:w5.rangeAt X 1 (v8 tg):=fun j y hy=>by
      have:=r5 (j+1) y (by rw[hut];exact hy)
      rw[show 0+(j+1)=1+j by omega]at this
      exact this
     clear r5
     go_upto_region 12 with fail
     refine pl_b ?_
     refine pl_a 44 ?_
     refine pl_a 45 ?_
     refine pl_v 46 (.int .i64 id) (zg rfl rfl c0 underlying3 rfl) ?_
     refine pl_a 47 ?_
     refine pl_v 48 (.agg (v8 tg).toArray) (zp rfl rfl ct underlying23 rfl it16) ?_
     refine pl_c 49 ?_
     refine(ca w5 vk (C3++(sgC xs).take k) HC.out HL).mono ?_
     rintro _ wc ⟨rfl,v',ho',hg'⟩
     refine⟨_,rfl,?_⟩
     simp only[nz]
     refine za ?_
     have HD:Hid (CI W wc O v v' (C3++(sgC xs).take (k+1))):=hide (by
      rw[HT.out,←List.append_assoc]
      exact HC.add ho' hg')
     clear HC ho' hg' c0 ct ca HT iu it16 hul hu1 hut hsr hsl
     go_wp2_with fail
     go_roundw
     case rel=>exact⟨k+1,v',by omega,by go_num,HD⟩
     case measure=>simp[intOf];omega
    ·obtain rfl:k=n:=by omega
     have HE:Hid (OutC wr O vk (cs++ownC N m.pure)∧Grow w wr O v vk):=hide (by
      have h1:=HK.out.out
      rw[List.take_of_length_le (by rw[zbQ,HN.out];exact Nat.le_refl _),←hC3.out,←hC2.out]at h1
      have e:cs++ownC N m.pure=cs++batC N m.rs.xs++cerC m.ct m.cs.xs++heC N (hs.map Hd.pure)++sgC xs:=by
       unfold ownC Mg.pure
       rw[HH.out,HSG.out]
       simp only[List.append_assoc]
      rw[e]
      exact⟨h1,HB1.out.trans HK.out.grow⟩)
     clear HK ca hlt
     go_wp2_with fail
     go_end0
     exact⟨rfl,vk,HE.out⟩
structure OutX (w:World) (B:Nat) (v:Value) (cs:List Ev):Prop where
 own:w.ownsRow B 70 18 v cs.length (cs.flatMap Ev.cells)
 ok:∀c∈cs,c.ok
 le:B≤w.heap.size
structure Kp (w:World) (v:Value) (W:World):Prop where
 size:w.heap.size≤W.heap.size
 block:∀i,i<w.heap.size→v.ownBlock≠some i→W.heap[i]? =w.heap[i]?
structure GrX (w w':World) (v v':Value):Prop where
 os:w'.os=w.os
 tape:w'.tape=w.tape
 output:w'.output=w.output
 kp:Kp w v w'
 own:∀g,v'.ownBlock=some g→v.ownBlock=some g∨w.heap.size≤g
structure CX (B:Nat) (w wr:World) (v vk:Value) (cs:List Ev):Prop where
 out:OutX wr B vk cs
 grow:GrX w wr v vk
def ownX (N:Int) (m:Mp):List Ev:=batC N m.rs++heC N m.he++(if m.k=7 then cerC m.ct m.cs else[])++sgC m.sg
def upTo (n:Nat) (t:List Int) (k:Nat):List Int:=t.take k++List.replicate (n - k) 0
theorem zbE {w w':World} {g n:Nat} (h:w.grownBy w' (some g)) (hn:n≤g) (hs:n≤w.heap.size):Below n w w':=
 ⟨h.os,h.tape,h.output,h.size,fun i hi=>h.block i (by omega) (by intro q;injection q with q;omega)⟩
theorem zeV {n k:Nat} {t:List Int} (ht:t.length=n) (hk:k<n):(v8 (upTo n t k)).set k (.int .u8 (t.getD k 0))=v8 (upTo n t (k+1)):=by
 unfold upTo
 have e:n - k=(n - (k+1))+1:=by omega
 rw[e,List.replicate_succ]
 have h1:(t.take k).length=k:=by rw[List.length_take];omega
 have h2:t.take (k+1)=t.take k++[t.getD k 0]:=by
  rw[List.take_succ_eq_append_getElem (by omega)]
  simp[List.getD,List.getElem?_eq_getElem (show k<t.length by omega)]
 rw[h2]
 simp only[v8,List.map_append,List.map_cons,List.map_nil]
 have hm:min k t.length=k:=Nat.min_eq_left (by omega)
 rw[List.set_append_right _ _ (by simp[hm])]
 simp[hm]
theorem zeX {n:Nat} {t:List Int} (ht:t.length=n):upTo n t n=padN n t:=by
 unfold upTo padN
 rw[if_pos ht,Nat.sub_self,←ht,List.take_length]
 simp
theorem zeW {n:Nat} (h:0<n):upTo n [] 0=padN n []:=by
 unfold upTo padN
 rw[if_neg (by simp;omega)]
 simp
theorem zhG (B X:Nat) (rest:List Int) (e:Int) (w:World) (h:RSt B w X rest e) (hX:X<w.heap.size) (hBX:B≤X):Calls prog 159 #[.pointer (some ⟨X,0,none⟩)] w fun en w'=>en=.returned (.agg (v8 (padN 16 (rawS rest e 16).1)).toArray)∧RSt B w' X (rawS rest e 16).2.1 (rawS rest e 16).2.2∧w.grownBy w' (some X):=by
 obtain⟨zc,hzc,hzr⟩:∃zc:List Value,Hid (zc=v8 (List.replicate 16 (0:Int)))∧∀w':World,(zeroValue 23).run prog w'=.ok (.agg zc.toArray) w':=⟨_,hide rfl,fun w=>by kernel_rfl⟩
 obtain⟨hB1,hr1,hs1⟩:=zq w zc 23
 have ht1:=zi w zc.toArray 23 (n:=16) (by rw[hzc.out];simp)
 have hip:(prog.info? 23).map (·.size)=some (v8 (padN 16 (rawS rest e 16).1)).length:=by rw[v8_length,zaf];kernel_rfl
 have hp1:=zy (padN 16 (rawS rest e 16).1)
 have hpl:(v8 (padN 16 (rawS rest e 16).1)).length=16:=by rw[v8_length,zaf]
 obtain⟨pc,hpc⟩:∃p,Hid (v8 (padN 16 (rawS rest e 16).1)=p):=⟨_,hide rfl⟩
 rw[hpc.out]at hip hp1 hpl ⊢
 go_enter func159,ntmps159
 go_upto_region 0 with fail
 refine pl_b ?_
 refine pl_r 2 (.pointer (some ⟨w.heap.size,0,none⟩)) (w.alloc (.cells zc.toArray 23)) (zo rfl (hzr _)) ?_
 refine za ?_
 obtain⟨W1,hW1⟩:∃W,w.alloc (.cells zc.toArray 23)=W:=⟨_,rfl⟩
 rw[hW1]at hB1 hr1 hs1 ht1 ⊢
 clear hW1 hr1
 obtain⟨hB2,hr2,hs2⟩:=zq W1 zc 23
 have ht2:=zi W1 zc.toArray 23 (n:=16) (by rw[hzc.out];simp)
 go_upto_region 1 with fail
 refine pl_b ?_
 refine pl_r 3 (.pointer (some ⟨W1.heap.size,0,none⟩)) (W1.alloc (.cells zc.toArray 23)) (zo rfl (hzr _)) ?_
 refine za ?_
 obtain⟨W2,hW2⟩:∃W,W1.alloc (.cells zc.toArray 23)=W:=⟨_,rfl⟩
 rw[hW2]at hB2 hr2 hs2 ht2 ⊢
 clear hW2
 rw[hzc.out]at hr2
 have thA:=zam ht1 hB2 hs1
 have hBW:=hB1.trans (hB2.mono hB1.size)
 have st2:=h.below hBW
 clear hzc hzr ht1
 go_upto_region 2 with fail
 refine pl_b ?_
 refine pl_a 6 ?_
 refine pl_c 7 ?_
 refine(zdJ X rest e 16 W2 st2).mono ?_
 rintro _ w3 hfin
 obtain⟨v9,rfl,m3,st3,g3⟩:=hfin
 refine⟨_,rfl,?_⟩
 simp only[nz]
 refine pl_a 4 ?_
 refine za ?_
 have hN:(rawS rest e 16).1.length=16∨(rawS rest e 16).1=[]:=zbU rest e 16
 obtain⟨a9,c9,hve,_,_,row9⟩:=m3.rowAt (by unfold maxLen;rcases hN with h|h<;>(rw[h];simp))
 rw[hve]
 have hfrom:∀x,a9=some x→W2.heap.size≤x.block:=fun x hx=>by
  rcases zaS m3.1 with⟨hv,_,_⟩|⟨g,cap,hv,hg,_⟩
  ·rw[hve]at hv;injection hv with q1;rw[hx]at q1;cases q1
  ·rw[hve]at hv;injection hv with q1;rw[hx]at q1;injection q1 with q1;rw[q1];exact hg
 obtain⟨t,htt⟩:∃t,Hid ((rawS rest e 16).1=t):=⟨_,hide rfl⟩
 rw[htt.out]at hN row9 ⊢
 have hA3:w3.there w.heap.size 0 16:=zJ thA g3 (Nat.lt_of_lt_of_le hs1 hB2.size) (by omega)
 have hT3:w3.there W1.heap.size 0 16:=zJ ht2 g3 hs2 (by omega)
 have hR3:w3.rangeAt W1.heap.size 0 (v8 (upTo 16 t 0)):=by
  have:=zaM hr2 g3 hs2 (by omega)
  simpa [upTo]using this
 have hz3:W1.heap.size<w3.heap.size:=Nat.lt_of_lt_of_le hs2 g3.size
 have htn:t.length≤16:=by rcases hN with h|h<;>(rw[h];simp)
 have HK0:Hid (w3.rangeAt W1.heap.size 0 (v8 (upTo 16 t 0))∧w3.there W1.heap.size 0 16∧w3.there w.heap.size 0 16∧RowAt w3 a9 t∧w3.grownBy w3 (some W1.heap.size)):=hide ⟨hR3,hT3,hA3,row9,zaK _ _⟩
 clear hve m3 hR3 hT3 hA3 row9 thA ht2 hr2
 go_upto_region 3 with fail
 go_wp2_with fail
 go_loopw [5] (fun iv wr=>∃k:Nat,k≤t.length∧iv=.int .i64 (k:Int)∧Hid (wr.rangeAt W1.heap.size 0 (v8 (upTo 16 t k))∧wr.there W1.heap.size 0 16∧wr.there w.heap.size 0 16∧RowAt wr a9 t∧w3.grownBy wr (some W1.heap.size))) (fun iv _=>t.length - (intOf iv).toNat)
 case atStart=>exact⟨0,by omega,rfl,HK0⟩
 case round=>
  clear HK0
  obtain⟨k,hk,rfl,HK⟩:=hrel
  obtain⟨hR,hth,hthA,hrow,hgr⟩:=HK.out
  clear HK
  by_cases hlt:k<t.length
  ·have htN:t.length=16:=by
    rcases hN with h|h
    ·exact h
    ·rw[h]at hlt;simp at hlt
   have k1:(k:Int)<t.length:=by omega
   have kn:k<16:=by omega
   have kn1:(k:Int)<16:=by omega
   have hus:=zeV htN kn
   obtain⟨b,off,hab,hb,hcb,hz0,hz1⟩:=hrow.get k hlt
   obtain⟨c,hc⟩:∃c,Hid (t.getD k 0=c):=⟨_,hide rfl⟩
   rw[hc.out]at hus hcb
   have hro:RowAt (wr.setCell ⟨W1.heap.size,k,none⟩ (.int .u8 c)) a9 t:=hrow.other (.inr fun x hx=>by have:=hfrom x hx;show x.block≠W1.heap.size;omega)
   clear hc hz0 hz1
   subst hab
   go_upto_region 6 with fail
   refine pl_b ?_
   refine pl_a 14 ?_
   refine pl_a 15 ?_
   refine pl_a 16 ?_
   refine pl_a 17 ?_
   refine pl_v 18 (.int .u8 c) (zg rfl rfl hcb underlying5 rfl) ?_
   refine pl_a 19 ?_
   refine pl_s (wr.setCells W1.heap.size k [.int .u8 c]) (zD (n:=16) rfl rfl rfl hth (by omega) isz8 rfl rfl) ?_
   refine za ?_
   have hrs:=zad hR k (.int .u8 c)
   rw[Nat.zero_add,hus]at hrs
   have HN:Hid ((wr.setCells W1.heap.size k [.int .u8 c]).rangeAt W1.heap.size 0 (v8 (upTo 16 t (k+1)))∧(wr.setCells W1.heap.size k [.int .u8 c]).there W1.heap.size 0 16∧(wr.setCells W1.heap.size k [.int .u8 c]).there w.heap.size 0 16∧RowAt (wr.setCells W1.heap.size k [.int .u8 c]) (some ⟨b,off,none⟩) t∧w3.grownBy (wr.setCells W1.heap.size k [.int .u8 c]) (some W1.heap.size)):=hide ⟨hrs,World.there_setCells hth _ _ _,World.there_setCells hthA _ _ _,hro,zr hgr (zL _ _ _ _)⟩
   clear hrs hro hR hth hthA hrow hgr hcb
   go_wp2_with fail
   go_roundw
   case rel=>exact⟨k+1,by omega,by go_num,HN⟩
   case measure=>simp[intOf];omega
  ·obtain rfl:k=t.length:=by omega
   have rpc:wr.rangeAt W1.heap.size 0 pc:=by
    rw[←hpc.out,htt.out]
    rcases hN with h|h
    ·have e:=zeX h
     rw[h]at hR
     rw[e]at hR
     exact hR
    ·subst h
     have e:=zeW (n:=16) (by decide)
     rw[←e]
     exact hR
   have hlow:=zbE hgr (n:=w.heap.size) (by omega) (by omega)
   have gf:=zu (zu (zr (zW hBW (some X)) g3) hlow (Nat.le_refl _)) (ze (B:=w.heap.size) (b:=w.heap.size) (Nat.le_refl _) pc 0 _ (Below.refl _ wr)) (Nat.le_refl _)
   have sf:=(st3.gb hgr (.inr (by omega))).gb (zL wr w.heap.size pc 0) (.inr hX)
   have hrs:=run_loadVar_mid (P:=prog) (wr.setCells w.heap.size 0 pc) w.heap.size 0 23 pc _ (World.rangeAt_setCells_same wr w.heap.size 0 pc (by rw[hpl];exact hthA)) underlying23 rfl hip
   have HF:Hid (RSt B (wr.setCells w.heap.size 0 pc) X (rawS rest e 16).2.1 (rawS rest e 16).2.2∧w.grownBy (wr.setCells w.heap.size 0 pc) (some X)):=hide ⟨sf,gf⟩
   clear sf gf hlow hR hrow hgr hth st3 g3
   go_upto_region 7 with fail
   refine pl_b ?_
   refine pl_v 20 (.agg pc.toArray) (zp rfl rfl rpc underlying23 rfl hip) ?_
   refine pl_s (wr.setCells w.heap.size 0 pc) (zf (cs:=pc.toArray) rfl rfl rfl (by simpa [hpl]using hthA) (by simpa using hip) (zh hp1)) ?_
   refine za ?_
   go_wp2_with fail
   refine bodyPost_ret (v:=.agg pc.toArray) ?_ rfl ?_
   ·simp[results,results159,Act.put,asAddr,hrs]
   ·exact⟨rfl,HF.out⟩
theorem zeF (B X:Nat) (rest:List Int) (e:Int) (w:World) (h:RSt B w X rest e) (hX:X<w.heap.size) (hBX:B≤X):Calls prog 121 #[.pointer (some ⟨X,0,none⟩)] w fun en w'=>en=.returned (.agg (v8 (padN 32 (rawS rest e 32).1)).toArray)∧RSt B w' X (rawS rest e 32).2.1 (rawS rest e 32).2.2∧w.grownBy w' (some X):=by
 obtain⟨zc,hzc,hzr⟩:∃zc:List Value,Hid (zc=v8 (List.replicate 32 (0:Int)))∧∀w':World,(zeroValue 41).run prog w'=.ok (.agg zc.toArray) w':=⟨_,hide rfl,fun w=>by kernel_rfl⟩
 obtain⟨hB1,hr1,hs1⟩:=zq w zc 41
 have ht1:=zi w zc.toArray 41 (n:=32) (by rw[hzc.out];simp)
 have hip:(prog.info? 41).map (·.size)=some (v8 (padN 32 (rawS rest e 32).1)).length:=by rw[v8_length,zaf];kernel_rfl
 have hp1:=zy (padN 32 (rawS rest e 32).1)
 have hpl:(v8 (padN 32 (rawS rest e 32).1)).length=32:=by rw[v8_length,zaf]
 obtain⟨pc,hpc⟩:∃p,Hid (v8 (padN 32 (rawS rest e 32).1)=p):=⟨_,hide rfl⟩
 rw[hpc.out]at hip hp1 hpl ⊢
 go_enter func121,ntmps121
 go_upto_region 0 with fail
 refine pl_b ?_
 refine pl_r 2 (.pointer (some ⟨w.heap.size,0,none⟩)) (w.alloc (.cells zc.toArray 41)) (zo rfl (hzr _)) ?_
 refine za ?_
 obtain⟨W1,hW1⟩:∃W,w.alloc (.cells zc.toArray 41)=W:=⟨_,rfl⟩
 rw[hW1]at hB1 hr1 hs1 ht1 ⊢
 clear hW1 hr1
 obtain⟨hB2,hr2,hs2⟩:=zq W1 zc 41
 have ht2:=zi W1 zc.toArray 41 (n:=32) (by rw[hzc.out];simp)
 go_upto_region 1 with fail
 refine pl_b ?_
 refine pl_r 3 (.pointer (some ⟨W1.heap.size,0,none⟩)) (W1.alloc (.cells zc.toArray 41)) (zo rfl (hzr _)) ?_
 refine za ?_
 obtain⟨W2,hW2⟩:∃W,W1.alloc (.cells zc.toArray 41)=W:=⟨_,rfl⟩
 rw[hW2]at hB2 hr2 hs2 ht2 ⊢
 clear hW2
 rw[hzc.out]at hr2
 have thA:=zam ht1 hB2 hs1
 have hBW:=hB1.trans (hB2.mono hB1.size)
 have st2:=h.below hBW
 clear hzc hzr ht1
 go_upto_region 2 with fail
 refine pl_b ?_
 refine pl_a 6 ?_
 refine pl_c 7 ?_
 refine(zdJ X rest e 32 W2 st2).mono ?_
 rintro _ w3 hfin
 obtain⟨v9,rfl,m3,st3,g3⟩:=hfin
 refine⟨_,rfl,?_⟩
 simp only[nz]
 refine pl_a 4 ?_
 refine za ?_
 have hN:(rawS rest e 32).1.length=32∨(rawS rest e 32).1=[]:=zbU rest e 32
 obtain⟨a9,c9,hve,_,_,row9⟩:=m3.rowAt (by unfold maxLen;rcases hN with h|h<;>(rw[h];simp))
 rw[hve]
 have hfrom:∀x,a9=some x→W2.heap.size≤x.block:=fun x hx=>by
  rcases zaS m3.1 with⟨hv,_,_⟩|⟨g,cap,hv,hg,_⟩
  ·rw[hve]at hv;injection hv with q1;rw[hx]at q1;cases q1
  ·rw[hve]at hv;injection hv with q1;rw[hx]at q1;injection q1 with q1;rw[q1];exact hg
 obtain⟨t,htt⟩:∃t,Hid ((rawS rest e 32).1=t):=⟨_,hide rfl⟩
 rw[htt.out]at hN row9 ⊢
 have hA3:w3.there w.heap.size 0 32:=zJ thA g3 (Nat.lt_of_lt_of_le hs1 hB2.size) (by omega)
 have hT3:w3.there W1.heap.size 0 32:=zJ ht2 g3 hs2 (by omega)
 have hR3:w3.rangeAt W1.heap.size 0 (v8 (upTo 32 t 0)):=by
  have:=zaM hr2 g3 hs2 (by omega)
  simpa [upTo]using this
 have hz3:W1.heap.size<w3.heap.size:=Nat.lt_of_lt_of_le hs2 g3.size
 have htn:t.length≤32:=by rcases hN with h|h<;>(rw[h];simp)
 have HK0:Hid (w3.rangeAt W1.heap.size 0 (v8 (upTo 32 t 0))∧w3.there W1.heap.size 0 32∧w3.there w.heap.size 0 32∧RowAt w3 a9 t∧w3.grownBy w3 (some W1.heap.size)):=hide ⟨hR3,hT3,hA3,row9,zaK _ _⟩
 clear hve m3 hR3 hT3 hA3 row9 thA ht2 hr2
 go_upto_region 3 with fail
 go_wp2_with fail
 go_loopw [5] (fun iv wr=>∃k:Nat,k≤t.length∧iv=.int .i64 (k:Int)∧Hid (wr.rangeAt W1.heap.size 0 (v8 (upTo 32 t k))∧wr.there W1.heap.size 0 32∧wr.there w.heap.size 0 32∧RowAt wr a9 t∧w3.grownBy wr (some W1.heap.size))) (fun iv _=>t.length - (intOf iv).toNat)
 case atStart=>exact⟨0,by omega,rfl,HK0⟩
 case round=>
  clear HK0
  obtain⟨k,hk,rfl,HK⟩:=hrel
  obtain⟨hR,hth,hthA,hrow,hgr⟩:=HK.out
  clear HK
  by_cases hlt:k<t.length
  ·have htN:t.length=32:=by
    rcases hN with h|h
    ·exact h
    ·rw[h]at hlt;simp at hlt
   have k1:(k:Int)<t.length:=by omega
   have kn:k<32:=by omega
   have kn1:(k:Int)<32:=by omega
   have hus:=zeV htN kn
   obtain⟨b,off,hab,hb,hcb,hz0,hz1⟩:=hrow.get k hlt
   obtain⟨c,hc⟩:∃c,Hid (t.getD k 0=c):=⟨_,hide rfl⟩
   rw[hc.out]at hus hcb
   have hro:RowAt (wr.setCell ⟨W1.heap.size,k,none⟩ (.int .u8 c)) a9 t:=hrow.other (.inr fun x hx=>by have:=hfrom x hx;show x.block≠W1.heap.size;omega)
   clear hc hz0 hz1
   subst hab
   go_upto_region 6 with fail
   refine pl_b ?_
   refine pl_a 14 ?_
   refine pl_a 15 ?_
   refine pl_a 16 ?_
   refine pl_a 17 ?_
   refine pl_v 18 (.int .u8 c) (zg rfl rfl hcb underlying5 rfl) ?_
   refine pl_a 19 ?_
   refine pl_s (wr.setCells W1.heap.size k [.int .u8 c]) (zD (n:=32) rfl rfl rfl hth (by omega) isz8 rfl rfl) ?_
   refine za ?_
   have hrs:=zad hR k (.int .u8 c)
   rw[Nat.zero_add,hus]at hrs
   have HN:Hid ((wr.setCells W1.heap.size k [.int .u8 c]).rangeAt W1.heap.size 0 (v8 (upTo 32 t (k+1)))∧(wr.setCells W1.heap.size k [.int .u8 c]).there W1.heap.size 0 32∧(wr.setCells W1.heap.size k [.int .u8 c]).there w.heap.size 0 32∧RowAt (wr.setCells W1.heap.size k [.int .u8 c]) (some ⟨b,off,none⟩) t∧w3.grownBy (wr.setCells W1.heap.size k [.int .u8 c]) (some W1.heap.size)):=hide ⟨hrs,World.there_setCells hth _ _ _,World.there_setCells hthA _ _ _,hro,zr hgr (zL _ _ _ _)⟩
   clear hrs hro hR hth hthA hrow hgr hcb
   go_wp2_with fail
   go_roundw
   case rel=>exact⟨k+1,by omega,by go_num,HN⟩
   case measure=>simp[intOf];omega
  ·obtain rfl:k=t.length:=by omega
   have rpc:wr.rangeAt W1.heap.size 0 pc:=by
    rw[←hpc.out,htt.out]
    rcases hN with h|h
    ·have e:=zeX h
     rw[h]at hR
     rw[e]at hR
     exact hR
    ·subst h
     have e:=zeW (n:=32) (by decide)
     rw[←e]
     exact hR
   have hlow:=zbE hgr (n:=w.heap.size) (by omega) (by omega)
   have gf:=zu (zu (zr (zW hBW (some X)) g3) hlow (Nat.le_refl _)) (ze (B:=w.heap.size) (b:=w.heap.size) (Nat.le_refl _) pc 0 _ (Below.refl _ wr)) (Nat.le_refl _)
   have sf:=(st3.gb hgr (.inr (by omega))).gb (zL wr w.heap.size pc 0) (.inr hX)
   have hrs:=run_loadVar_mid (P:=prog) (wr.setCells w.heap.size 0 pc) w.heap.size 0 41 pc _ (World.rangeAt_setCells_same wr w.heap.size 0 pc (by rw[hpl];exact hthA)) underlying41 rfl hip
   have HF:Hid (RSt B (wr.setCells w.heap.size 0 pc) X (rawS rest e 32).2.1 (rawS rest e 32).2.2∧w.grownBy (wr.setCells w.heap.size 0 pc) (some X)):=hide ⟨sf,gf⟩
   clear sf gf hlow hR hrow hgr hth st3 g3
   go_upto_region 7 with fail
   refine pl_b ?_
   refine pl_v 20 (.agg pc.toArray) (zp rfl rfl rpc underlying41 rfl hip) ?_
   refine pl_s (wr.setCells w.heap.size 0 pc) (zf (cs:=pc.toArray) rfl rfl rfl (by simpa [hpl]using hthA) (by simpa using hip) (zh hp1)) ?_
   refine za ?_
   go_wp2_with fail
   refine bodyPost_ret (v:=.agg pc.toArray) ?_ rfl ?_
   ·simp[results,results121,Act.put,asAddr,hrs]
   ·exact⟨rfl,HF.out⟩
structure XS (w:World) (X A B n:Nat) (q:List Value) (W:World):Prop where
 row:W.rangeAt B 0 q
 box:W.there B 0 n
 ans:W.there A 0 n
 grown:w.grownBy W (some X)
 la:A<W.heap.size
 lb:B<W.heap.size
 na:w.heap.size≤A
 nb:w.heap.size≤B
 ne:A≠B
 lx:X<w.heap.size
theorem XS.gb {w W W':World} {X A B n:Nat} {q:List Value} (h:XS w X A B n q W) (g:W.grownBy W' (some X)):XS w X A B n q W':=by
 have h1:=h.na
 have h2:=h.nb
 have h3:=h.lx
 exact⟨zaM h.row g h.lb (by omega),zJ h.box g h.lb (by omega),zJ h.ans g h.la (by omega),zr h.grown g,Nat.lt_of_lt_of_le h.la g.size,Nat.lt_of_lt_of_le h.lb g.size,h1,h2,h.ne,h3⟩
theorem XS.set {w W:World} {X A B n:Nat} {q q':List Value} (h:XS w X A B n q W) (o:Nat) (vs:List Value) (hq:(W.setCells B o vs).rangeAt B 0 q'):XS w X A B n q' (W.setCells B o vs):=
 ⟨hq,World.there_setCells h.box _ _ _,World.there_setCells h.ans _ _ _,zu h.grown (ze h.nb vs o _ (Below.refl _ W)) (Nat.le_refl _),by rw[zF];exact h.la,by rw[zF];exact h.lb,h.na,h.nb,h.ne,h.lx⟩
theorem XS.st {w W:World} {D X A B n o:Nat} {q vs:List Value} {zs:List Int} {e:Int} (h:XS w X A B n q W) (hs:RSt D W X zs e):RSt D (W.setCells B o vs) X zs e:=
 hs.gb (zL W B vs o) (.inr (by have:=h.nb;have:=h.lx;omega))
theorem RSt.err {D X:Nat} {w:World} {zs:List Int} {e:Int} (h:RSt D w X zs e):w.cell? ⟨X,2,none⟩=some (.int .i64 e):=by
 obtain⟨_,_,hR,_⟩:=h
 exact hR.2.2.2.1
theorem RSt.bad {D X:Nat} {w:World} {zs:List Int} {e:Int} (h:RSt D w X zs e) (e':Int) (he:e'≠0):RSt D (w.setCells X 2 [.int .i64 e']) X zs e':=by
 obtain⟨a,p,hR,_⟩:=h
 exact⟨a,p,hR.set2 e',fun h=>absurd h he⟩
theorem RSt.there {D X:Nat} {w:World} {zs:List Int} {e:Int} (h:RSt D w X zs e):w.there X 0 3:=by
  obtain⟨_,_,hR,_⟩:=h
  obtain⟨_,⟨a,cap,c0,_⟩,c1,c2,f0,f1,f2,_⟩:=hR
  intro j hj
  match j,hj with
  |0,_=>exact⟨by show(w.cell? ⟨X,0,none⟩).isSome=true;rw[c0];rfl,f0⟩
  |1,_=>exact⟨by show(w.cell? ⟨X,1,none⟩).isSome=true;rw[c1];rfl,f1⟩
  |2,_=>exact⟨by show(w.cell? ⟨X,2,none⟩).isSome=true;rw[c2];rfl,f2⟩
def kdE (rest:List Int) (e most:Int):Int:=if(numS rest e most).2.2==0 then(if(numS rest e most).1==0 then 130 else(numS rest e most).2.2)else(numS rest e most).2.2
def xvtS (rest:List Int) (e:Int):Vt ×List Int ×Int:=
 let x0:=numS rest e 2
 let x1:=numS x0.2.1 (kdE rest e 2) 1048576
 let x2:=numS x1.2.1 x1.2.2 1099511627776
 let x3:=numS x2.2.1 x2.2.2 1099511627776
 let x4:=rawS x3.2.1 x3.2.2 32
 (⟨x0.1,x1.1,x2.1,x3.1,padN 32 x4.1⟩,x4.2.1,x4.2.2)
theorem zhL (D X:Nat) (rest:List Int) (e:Int) (w:World) (h:RSt D w X rest e) (hX:X<w.heap.size) (hDX:D≤X):Calls prog 118 #[.pointer (some ⟨X,0,none⟩)] w fun en w'=>en=.returned (.agg (xvtS rest e).1.cells.toArray)∧RSt D w' X (xvtS rest e).2.1 (xvtS rest e).2.2∧w.grownBy w' (some X):=by
 obtain⟨zc,hzr,hzl,tz,htl,hzc⟩:=zeroVt
 have c0:=fun w0 h0=>zbh (B:=D) X rest e 2 w0 h0
 unfold xvtS kdE
 simp only
 obtain⟨v0,hv0⟩:∃x,(numS rest e 2).1=x:=⟨_,rfl⟩
 obtain⟨r0,hr0⟩:∃x,(numS rest e 2).2.1=x:=⟨_,rfl⟩
 obtain⟨e0,he0⟩:∃x,(numS rest e 2).2.2=x:=⟨_,rfl⟩
 simp only[hv0,hr0,he0]at c0 ⊢
 clear hv0 hr0 he0
 obtain⟨b0,hb0⟩:∃b,Hid ((e0==0)=b):=⟨_,hide rfl⟩
 obtain⟨b1,hb1⟩:∃b,Hid ((v0==0)=b):=⟨_,hide rfl⟩
 rw[hb0.out,hb1.out]
 obtain⟨ek,hek⟩:∃x:Int,Hid ((if b0=true then(if b1=true then 130 else e0)else e0)=x):=⟨_,hide rfl⟩
 rw[hek.out]
 have c1:=fun w0 h0=>zbh (B:=D) X r0 ek 1048576 w0 h0
 obtain⟨v1,hv1⟩:∃x,(numS r0 ek 1048576).1=x:=⟨_,rfl⟩
 obtain⟨r1,hr1⟩:∃x,(numS r0 ek 1048576).2.1=x:=⟨_,rfl⟩
 obtain⟨e1,he1⟩:∃x,(numS r0 ek 1048576).2.2=x:=⟨_,rfl⟩
 simp only[hv1,hr1,he1]at c1 ⊢
 clear hv1 hr1 he1
 have c2:=fun w0 h0=>zbh (B:=D) X r1 e1 1099511627776 w0 h0
 obtain⟨v2,hv2⟩:∃x,(numS r1 e1 1099511627776).1=x:=⟨_,rfl⟩
 obtain⟨r2,hr2⟩:∃x,(numS r1 e1 1099511627776).2.1=x:=⟨_,rfl⟩
 obtain⟨e2,he2⟩:∃x,(numS r1 e1 1099511627776).2.2=x:=⟨_,rfl⟩
 simp only[hv2,hr2,he2]at c2 ⊢
 clear hv2 hr2 he2
 have c3:=fun w0 h0=>zbh (B:=D) X r2 e2 1099511627776 w0 h0
 obtain⟨v3,hv3⟩:∃x,(numS r2 e2 1099511627776).1=x:=⟨_,rfl⟩
 obtain⟨r3,hr3⟩:∃x,(numS r2 e2 1099511627776).2.1=x:=⟨_,rfl⟩
 obtain⟨e3,he3⟩:∃x,(numS r2 e2 1099511627776).2.2=x:=⟨_,rfl⟩
 simp only[hv3,hr3,he3]at c3 ⊢
 clear hv3 hr3 he3
 have c4:=fun w0 h0 hx=>zeF D X r3 e3 w0 h0 hx hDX
 have hdl:(v8 (padN 32 (rawS r3 e3 32).1)).length=32:=by rw[v8_length,zaf]
 have hd1:=zy (padN 32 (rawS r3 e3 32).1)
 show Calls prog 118 _ w fun en w'=>en=.returned (.agg (Value.int .i64 v0::.int .i64 v1::.int .i64 v2::.int .i64 v3::v8 (padN 32 (rawS r3 e3 32).1)).toArray)∧_
 obtain⟨dv,hdv⟩:∃t,v8 (padN 32 (rawS r3 e3 32).1)=t:=⟨_,rfl⟩
 obtain⟨r4,hr4⟩:∃x,(rawS r3 e3 32).2.1=x:=⟨_,rfl⟩
 obtain⟨e4,he4⟩:∃x,(rawS r3 e3 32).2.2=x:=⟨_,rfl⟩
 simp only[hdv,hr4,he4]at c4 hdl hd1 ⊢
 clear hdv hr4 he4
 have hpl:(Value.int .i64 v0::.int .i64 v1::.int .i64 v2::.int .i64 v3::dv).length=36:=by simp only[List.length_cons,hdl]
 have hip:(prog.info? 43).map (·.size)=some (Value.int .i64 v0::.int .i64 v1::.int .i64 v2::.int .i64 v3::dv).length:=by rw[hpl];exact iszVo
 have hp1:∀v∈(Value.int .i64 v0::.int .i64 v1::.int .i64 v2::.int .i64 v3::dv),v.oneCell'=true:=fun v hv=>by
  simp only[List.mem_cons]at hv
  rcases hv with rfl|rfl|rfl|rfl|hv
  ·rfl
  ·rfl
  ·rfl
  ·rfl
  ·exact hd1 v hv
 obtain⟨hB1,hr1,hs1⟩:=zq w zc 43
 have ht1:=zi w zc.toArray 43 (n:=36) (by simp[hzl])
 obtain⟨pc,hpc⟩:∃p,Hid (Value.int .i64 v0::.int .i64 v1::.int .i64 v2::.int .i64 v3::dv=p):=⟨_,hide rfl⟩
 rw[hpc.out]at hpl hip hp1 ⊢
 go_enter func118,ntmps118
 go_upto_region 0 with fail
 refine pl_b ?_
 refine pl_r 2 (.pointer (some ⟨w.heap.size,0,none⟩)) (w.alloc (.cells zc.toArray 43)) (zo rfl (hzr _)) ?_
 refine za ?_
 obtain⟨W1,hW1⟩:∃W,w.alloc (.cells zc.toArray 43)=W:=⟨_,rfl⟩
 rw[hW1]at hB1 hr1 hs1 ht1 ⊢
 clear hW1 hr1
 obtain⟨hB2,hr2,hs2⟩:=zq W1 zc 43
 have ht2:=zi W1 zc.toArray 43 (n:=36) (by simp[hzl])
 go_upto_region 1 with fail
 refine pl_b ?_
 refine pl_r 3 (.pointer (some ⟨W1.heap.size,0,none⟩)) (W1.alloc (.cells zc.toArray 43)) (zo rfl (hzr _)) ?_
 refine za ?_
 obtain⟨W2,hW2⟩:∃W,W1.alloc (.cells zc.toArray 43)=W:=⟨_,rfl⟩
 rw[hW2]at hB2 hr2 hs2 ht2 ⊢
 clear hW2
 rw[hzc]at hr2
 have hBW:=hB1.trans (hB2.mono hB1.size)
 have V0:XS w X w.heap.size W1.heap.size 36 _ W2:=⟨hr2,ht2,zam ht1 hB2 hs1,zW hBW _,Nat.lt_of_lt_of_le hs1 hB2.size,hs2,Nat.le_refl _,hB1.size,by omega,hX⟩
 have s2:=h.below hBW
 clear hr2 ht2 ht1 hzr hzc hzl hB1 hB2 hBW hs2 h
 go_upto_region 2 with fail
 refine pl_b ?_
 refine pl_a 4 ?_
 refine pl_c 5 ?_
 refine(c0 W2 s2).mono ?_
 rintro _ wa0 ⟨rfl,sa0,ga0⟩
 refine⟨_,rfl,?_⟩
 simp only[nz]
 refine pl_a 6 ?_
 have Va0:=V0.gb ga0
 have Vb0:=Va0.set 0 [.int .i64 v0] (zay Va0.row _).1
 have sb0:=Va0.st (o:=0) (vs:=[.int .i64 v0]) sa0
 refine pl_s (wa0.setCells W1.heap.size 0 [.int .i64 v0]) (zD (n:=36) rfl rfl rfl Va0.box (by decide) iszI rfl rfl) ?_
 refine za ?_
 obtain⟨wb0,hwb0⟩:∃W,wa0.setCells W1.heap.size 0 [.int .i64 v0]=W:=⟨_,rfl⟩
 rw[hwb0]at Vb0 sb0 ⊢
 clear hwb0 Va0 sa0 ga0
 clear c0 V0 s2
 go_upto_region 3 with fail
 refine pl_b ?_
 refine pl_a 7 ?_
 refine pl_a 8 ?_
 refine pl_a 9 ?_
 refine pl_v 10 (.int .i64 e0) (zg rfl rfl sb0.err underlying3 rfl) ?_
 refine pl_v 11 (.bool b0) (by rw[←hb0.out];go_simp) ?_
 cases b0
 ·refine pl_a 12 ?_
  refine pl_k 13 ?_
  refine pl_k 14 ?_
  refine pl_k 15 ?_
  refine pl_a 16 ?_
  refine za ?_
  obtain rfl:ek=e0:=by have:=hek.out;simpa using this.symm
  have sk:=sb0
  have Vk:=Vb0
  go_upto_region 5 with fail
  refine pl_b ?_
  refine pl_a 20 ?_
  refine pl_c 21 ?_
  refine(c1 wb0 sk).mono ?_
  rintro _ wa1 ⟨rfl,sa1,ga1⟩
  refine⟨_,rfl,?_⟩
  simp only[nz]
  refine pl_a 22 ?_
  have Va1:=Vk.gb ga1
  have Vb1:=Va1.set 1 [.int .i64 v1] (zay Va1.row _).2.1
  have sb1:=Va1.st (o:=1) (vs:=[.int .i64 v1]) sa1
  refine pl_s (wa1.setCells W1.heap.size 1 [.int .i64 v1]) (zD (n:=36) rfl rfl rfl Va1.box (by decide) iszI rfl rfl) ?_
  refine za ?_
  obtain⟨wb1,hwb1⟩:∃W,wa1.setCells W1.heap.size 1 [.int .i64 v1]=W:=⟨_,rfl⟩
  rw[hwb1]at Vb1 sb1 ⊢
  clear hwb1 Va1 sa1 ga1
  go_upto_region 6 with fail
  refine pl_b ?_
  refine pl_a 23 ?_
  refine pl_c 24 ?_
  refine(c2 wb1 sb1).mono ?_
  rintro _ wa2 ⟨rfl,sa2,ga2⟩
  refine⟨_,rfl,?_⟩
  simp only[nz]
  refine pl_a 25 ?_
  have Va2:=Vb1.gb ga2
  have Vb2:=Va2.set 2 [.int .i64 v2] (zay Va2.row _).2.2.1
  have sb2:=Va2.st (o:=2) (vs:=[.int .i64 v2]) sa2
  refine pl_s (wa2.setCells W1.heap.size 2 [.int .i64 v2]) (zD (n:=36) rfl rfl rfl Va2.box (by decide) iszI rfl rfl) ?_
  refine za ?_
  obtain⟨wb2,hwb2⟩:∃W,wa2.setCells W1.heap.size 2 [.int .i64 v2]=W:=⟨_,rfl⟩
  rw[hwb2]at Vb2 sb2 ⊢
  clear hwb2 Va2 sa2 ga2
  go_upto_region 7 with fail
  refine pl_b ?_
  refine pl_a 26 ?_
  refine pl_c 27 ?_
  refine(c3 wb2 sb2).mono ?_
  rintro _ wa3 ⟨rfl,sa3,ga3⟩
  refine⟨_,rfl,?_⟩
  simp only[nz]
  refine pl_a 28 ?_
  have Va3:=Vb2.gb ga3
  have Vb3:=Va3.set 3 [.int .i64 v3] (zay Va3.row _).2.2.2
  have sb3:=Va3.st (o:=3) (vs:=[.int .i64 v3]) sa3
  refine pl_s (wa3.setCells W1.heap.size 3 [.int .i64 v3]) (zD (n:=36) rfl rfl rfl Va3.box (by decide) iszI rfl rfl) ?_
  refine za ?_
  obtain⟨wb3,hwb3⟩:∃W,wa3.setCells W1.heap.size 3 [.int .i64 v3]=W:=⟨_,rfl⟩
  rw[hwb3]at Vb3 sb3 ⊢
  clear hwb3 Va3 sa3 ga3
  go_upto_region 8 with fail
  refine pl_b ?_
  refine pl_a 29 ?_
  refine pl_c 30 ?_
  refine(c4 wb3 sb3 (Nat.lt_of_lt_of_le Vb3.lx Vb3.grown.size)).mono ?_
  rintro _ wd ⟨rfl,sd,gd⟩
  refine⟨_,rfl,?_⟩
  simp only[nz]
  refine pl_a 31 ?_
  have Vd:=Vb3.gb gd
  have Ve:=Vd.set 4 dv (zcN Vd.row (by rw[hdl];exact zaQ Vd.box (by decide)))
  have se:=Vd.st (o:=4) (vs:=dv) sd
  refine pl_s (wd.setCells W1.heap.size 4 dv) (zf (cs:=dv.toArray) rfl rfl rfl (by simpa [hdl]using zaQ Vd.box (o:=4) (m:=32) (by decide)) (by simpa [hdl]using iszD) (zh hd1)) ?_
  refine za ?_
  obtain⟨we,hwe⟩:∃W,wd.setCells W1.heap.size 4 dv=W:=⟨_,rfl⟩
  rw[hwe]at Ve se ⊢
  clear hwe Vd sd gd
  have rpc:=Ve.row
  rw[hpc.out]at rpc
  go_upto_region 9 with fail
  refine pl_b ?_
  refine pl_v 32 (.agg pc.toArray) (zp rfl rfl rpc underlying43 rfl hip) ?_
  refine pl_s (we.setCells w.heap.size 0 pc) (zf (cs:=pc.toArray) rfl rfl rfl (by simpa [hpl]using Ve.ans) (by simpa using hip) (zh hp1)) ?_
  refine za ?_
  have hrs:=run_loadVar_mid (P:=prog) (we.setCells w.heap.size 0 pc) w.heap.size 0 43 pc _ (World.rangeAt_setCells_same we w.heap.size 0 pc (by rw[hpl];exact Ve.ans)) underlying43 rfl hip
  have HF:Hid (RSt D (we.setCells w.heap.size 0 pc) X r4 e4∧w.grownBy (we.setCells w.heap.size 0 pc) (some X)):=hide ⟨se.gb (zL we w.heap.size pc 0) (.inr Ve.lx),zu Ve.grown (ze (B:=w.heap.size) (b:=w.heap.size) (Nat.le_refl _) pc 0 _ (Below.refl _ we)) (Nat.le_refl _)⟩
  clear Ve se rpc
  go_wp2_with fail
  refine bodyPost_ret (v:=.agg pc.toArray) ?_ rfl ?_
  ·simp[results,results118,Act.put,asAddr,hrs]
  ·exact⟨rfl,HF.out⟩
 ·refine pl_a 12 ?_
  refine pl_a 13 ?_
  refine pl_v 14 (.int .i64 v0) (zg rfl rfl (Vb0.row 0 _ rfl) underlying3 rfl) ?_
  refine pl_v 15 (.bool b1) (by rw[←hb1.out];go_simp) ?_
  cases b1
  ·refine pl_a 16 ?_
   refine za ?_
   obtain rfl:ek=e0:=by have:=hek.out;simpa using this.symm
   have sk:=sb0
   have Vk:=Vb0
   go_upto_region 5 with fail
   refine pl_b ?_
   refine pl_a 20 ?_
   refine pl_c 21 ?_
   refine(c1 wb0 sk).mono ?_
   rintro _ wa1 ⟨rfl,sa1,ga1⟩
   refine⟨_,rfl,?_⟩
   simp only[nz]
   refine pl_a 22 ?_
   have Va1:=Vk.gb ga1
   have Vb1:=Va1.set 1 [.int .i64 v1] (zay Va1.row _).2.1
   have sb1:=Va1.st (o:=1) (vs:=[.int .i64 v1]) sa1
   refine pl_s (wa1.setCells W1.heap.size 1 [.int .i64 v1]) (zD (n:=36) rfl rfl rfl Va1.box (by decide) iszI rfl rfl) ?_
   refine za ?_
   obtain⟨wb1,hwb1⟩:∃W,wa1.setCells W1.heap.size 1 [.int .i64 v1]=W:=⟨_,rfl⟩
   rw[hwb1]at Vb1 sb1 ⊢
   clear hwb1 Va1 sa1 ga1
   go_upto_region 6 with fail
   refine pl_b ?_
   refine pl_a 23 ?_
   refine pl_c 24 ?_
   refine(c2 wb1 sb1).mono ?_
   rintro _ wa2 ⟨rfl,sa2,ga2⟩
   refine⟨_,rfl,?_⟩
   simp only[nz]
   refine pl_a 25 ?_
   have Va2:=Vb1.gb ga2
   have Vb2:=Va2.set 2 [.int .i64 v2] (zay Va2.row _).2.2.1
   have sb2:=Va2.st (o:=2) (vs:=[.int .i64 v2]) sa2
   refine pl_s (wa2.setCells W1.heap.size 2 [.int .i64 v2]) (zD (n:=36) rfl rfl rfl Va2.box (by decide) iszI rfl rfl) ?_
   refine za ?_
   obtain⟨wb2,hwb2⟩:∃W,wa2.setCells W1.heap.size 2 [.int .i64 v2]=W:=⟨_,rfl⟩
   rw[hwb2]at Vb2 sb2 ⊢
   clear hwb2 Va2 sa2 ga2
   go_upto_region 7 with fail
   refine pl_b ?_
   refine pl_a 26 ?_
   refine pl_c 27 ?_
   refine(c3 wb2 sb2).mono ?_
   rintro _ wa3 ⟨rfl,sa3,ga3⟩
   refine⟨_,rfl,?_⟩
   simp only[nz]
   refine pl_a 28 ?_
   have Va3:=Vb2.gb ga3
   have Vb3:=Va3.set 3 [.int .i64 v3] (zay Va3.row _).2.2.2
   have sb3:=Va3.st (o:=3) (vs:=[.int .i64 v3]) sa3
   refine pl_s (wa3.setCells W1.heap.size 3 [.int .i64 v3]) (zD (n:=36) rfl rfl rfl Va3.box (by decide) iszI rfl rfl) ?_
   refine za ?_
   obtain⟨wb3,hwb3⟩:∃W,wa3.setCells W1.heap.size 3 [.int .i64 v3]=W:=⟨_,rfl⟩
   rw[hwb3]at Vb3 sb3 ⊢
   clear hwb3 Va3 sa3 ga3
   go_upto_region 8 with fail
   refine pl_b ?_
   refine pl_a 29 ?_
   refine pl_c 30 ?_
   refine(c4 wb3 sb3 (Nat.lt_of_lt_of_le Vb3.lx Vb3.grown.size)).mono ?_
   rintro _ wd ⟨rfl,sd,gd⟩
   refine⟨_,rfl,?_⟩
   simp only[nz]
   refine pl_a 31 ?_
   have Vd:=Vb3.gb gd
   have Ve:=Vd.set 4 dv (zcN Vd.row (by rw[hdl];exact zaQ Vd.box (by decide)))
   have se:=Vd.st (o:=4) (vs:=dv) sd
   refine pl_s (wd.setCells W1.heap.size 4 dv) (zf (cs:=dv.toArray) rfl rfl rfl (by simpa [hdl]using zaQ Vd.box (o:=4) (m:=32) (by decide)) (by simpa [hdl]using iszD) (zh hd1)) ?_
   refine za ?_
   obtain⟨we,hwe⟩:∃W,wd.setCells W1.heap.size 4 dv=W:=⟨_,rfl⟩
   rw[hwe]at Ve se ⊢
   clear hwe Vd sd gd
   have rpc:=Ve.row
   rw[hpc.out]at rpc
   go_upto_region 9 with fail
   refine pl_b ?_
   refine pl_v 32 (.agg pc.toArray) (zp rfl rfl rpc underlying43 rfl hip) ?_
   refine pl_s (we.setCells w.heap.size 0 pc) (zf (cs:=pc.toArray) rfl rfl rfl (by simpa [hpl]using Ve.ans) (by simpa using hip) (zh hp1)) ?_
   refine za ?_
   have hrs:=run_loadVar_mid (P:=prog) (we.setCells w.heap.size 0 pc) w.heap.size 0 43 pc _ (World.rangeAt_setCells_same we w.heap.size 0 pc (by rw[hpl];exact Ve.ans)) underlying43 rfl hip
   have HF:Hid (RSt D (we.setCells w.heap.size 0 pc) X r4 e4∧w.grownBy (we.setCells w.heap.size 0 pc) (some X)):=hide ⟨se.gb (zL we w.heap.size pc 0) (.inr Ve.lx),zu Ve.grown (ze (B:=w.heap.size) (b:=w.heap.size) (Nat.le_refl _) pc 0 _ (Below.refl _ we)) (Nat.le_refl _)⟩
   clear Ve se rpc
   go_wp2_with fail
   refine bodyPost_ret (v:=.agg pc.toArray) ?_ rfl ?_
   ·simp[results,results118,Act.put,asAddr,hrs]
   ·exact⟨rfl,HF.out⟩
  ·refine pl_a 16 ?_
   refine za ?_
   obtain rfl:ek=130:=by have:=hek.out;simpa using this.symm
   go_upto_region 4 with fail
   refine pl_b ?_
   refine pl_a 17 ?_
   refine pl_a 18 ?_
   refine pl_a 19 ?_
   have sk:=sb0.bad 130 (by decide)
   have Vk:=Vb0.gb (zL wb0 X [.int .i64 130] 2)
   refine pl_s (wb0.setCells X 2 [.int .i64 130]) (zD (n:=3) rfl rfl rfl sb0.there (by decide) iszI rfl rfl) ?_
   refine za ?_
   obtain⟨wk,hwk⟩:∃W,wb0.setCells X 2 [.int .i64 130]=W:=⟨_,rfl⟩
   rw[hwk]at sk Vk ⊢
   clear hwk
   go_upto_region 5 with fail
   refine pl_b ?_
   refine pl_a 20 ?_
   refine pl_c 21 ?_
   refine(c1 wk sk).mono ?_
   rintro _ wa1 ⟨rfl,sa1,ga1⟩
   refine⟨_,rfl,?_⟩
   simp only[nz]
   refine pl_a 22 ?_
   have Va1:=Vk.gb ga1
   have Vb1:=Va1.set 1 [.int .i64 v1] (zay Va1.row _).2.1
   have sb1:=Va1.st (o:=1) (vs:=[.int .i64 v1]) sa1
   refine pl_s (wa1.setCells W1.heap.size 1 [.int .i64 v1]) (zD (n:=36) rfl rfl rfl Va1.box (by decide) iszI rfl rfl) ?_
   refine za ?_
   obtain⟨wb1,hwb1⟩:∃W,wa1.setCells W1.heap.size 1 [.int .i64 v1]=W:=⟨_,rfl⟩
   rw[hwb1]at Vb1 sb1 ⊢
   clear hwb1 Va1 sa1 ga1
   go_upto_region 6 with fail
   refine pl_b ?_
   refine pl_a 23 ?_
   refine pl_c 24 ?_
   refine(c2 wb1 sb1).mono ?_
   rintro _ wa2 ⟨rfl,sa2,ga2⟩
   refine⟨_,rfl,?_⟩
   simp only[nz]
   refine pl_a 25 ?_
   have Va2:=Vb1.gb ga2
   have Vb2:=Va2.set 2 [.int .i64 v2] (zay Va2.row _).2.2.1
   have sb2:=Va2.st (o:=2) (vs:=[.int .i64 v2]) sa2
   refine pl_s (wa2.setCells W1.heap.size 2 [.int .i64 v2]) (zD (n:=36) rfl rfl rfl Va2.box (by decide) iszI rfl rfl) ?_
   refine za ?_
   obtain⟨wb2,hwb2⟩:∃W,wa2.setCells W1.heap.size 2 [.int .i64 v2]=W:=⟨_,rfl⟩
   rw[hwb2]at Vb2 sb2 ⊢
   clear hwb2 Va2 sa2 ga2
   go_upto_region 7 with fail
   refine pl_b ?_
   refine pl_a 26 ?_
   refine pl_c 27 ?_
   refine(c3 wb2 sb2).mono ?_
   rintro _ wa3 ⟨rfl,sa3,ga3⟩
   refine⟨_,rfl,?_⟩
   simp only[nz]
   refine pl_a 28 ?_
   have Va3:=Vb2.gb ga3
   have Vb3:=Va3.set 3 [.int .i64 v3] (zay Va3.row _).2.2.2
   have sb3:=Va3.st (o:=3) (vs:=[.int .i64 v3]) sa3
   refine pl_s (wa3.setCells W1.heap.size 3 [.int .i64 v3]) (zD (n:=36) rfl rfl rfl Va3.box (by decide) iszI rfl rfl) ?_
   refine za ?_
   obtain⟨wb3,hwb3⟩:∃W,wa3.setCells W1.heap.size 3 [.int .i64 v3]=W:=⟨_,rfl⟩
   rw[hwb3]at Vb3 sb3 ⊢
   clear hwb3 Va3 sa3 ga3
   go_upto_region 8 with fail
   refine pl_b ?_
   refine pl_a 29 ?_
   refine pl_c 30 ?_
   refine(c4 wb3 sb3 (Nat.lt_of_lt_of_le Vb3.lx Vb3.grown.size)).mono ?_
   rintro _ wd ⟨rfl,sd,gd⟩
   refine⟨_,rfl,?_⟩
   simp only[nz]
   refine pl_a 31 ?_
   have Vd:=Vb3.gb gd
   have Ve:=Vd.set 4 dv (zcN Vd.row (by rw[hdl];exact zaQ Vd.box (by decide)))
   have se:=Vd.st (o:=4) (vs:=dv) sd
   refine pl_s (wd.setCells W1.heap.size 4 dv) (zf (cs:=dv.toArray) rfl rfl rfl (by simpa [hdl]using zaQ Vd.box (o:=4) (m:=32) (by decide)) (by simpa [hdl]using iszD) (zh hd1)) ?_
   refine za ?_
   obtain⟨we,hwe⟩:∃W,wd.setCells W1.heap.size 4 dv=W:=⟨_,rfl⟩
   rw[hwe]at Ve se ⊢
   clear hwe Vd sd gd
   have rpc:=Ve.row
   rw[hpc.out]at rpc
   go_upto_region 9 with fail
   refine pl_b ?_
   refine pl_v 32 (.agg pc.toArray) (zp rfl rfl rpc underlying43 rfl hip) ?_
   refine pl_s (we.setCells w.heap.size 0 pc) (zf (cs:=pc.toArray) rfl rfl rfl (by simpa [hpl]using Ve.ans) (by simpa using hip) (zh hp1)) ?_
   refine za ?_
   have hrs:=run_loadVar_mid (P:=prog) (we.setCells w.heap.size 0 pc) w.heap.size 0 43 pc _ (World.rangeAt_setCells_same we w.heap.size 0 pc (by rw[hpl];exact Ve.ans)) underlying43 rfl hip
   have HF:Hid (RSt D (we.setCells w.heap.size 0 pc) X r4 e4∧w.grownBy (we.setCells w.heap.size 0 pc) (some X)):=hide ⟨se.gb (zL we w.heap.size pc 0) (.inr Ve.lx),zu Ve.grown (ze (B:=w.heap.size) (b:=w.heap.size) (Nat.le_refl _) pc 0 _ (Below.refl _ we)) (Nat.le_refl _)⟩
   clear Ve se rpc
   go_wp2_with fail
   refine bodyPost_ret (v:=.agg pc.toArray) ?_ rfl ?_
   ·simp[results,results118,Act.put,asAddr,hrs]
   ·exact⟨rfl,HF.out⟩
end Go.Proofs.YtcbpbkefggekmaaGreatDoor
