/- the reader's certs, and what was held; the reader's lists of what was held; changes; the reader's changes; messages, read; messages, read: kind 0; messages, rea -/
import Derived.Test.YtcbpbkefggekmaaGreatDoorJS0
import Derived.Test.YtcbpbkefggekmaaGreatDoorJS12
set_option maxHeartbeats 1000000
set_option maxRecDepth 100000
open Go.Proofs.Tryz
namespace Go.Proofs.YtcbpbkefggekmaaGreatDoor
open Go.RowKit
open Sha Tal
set_option linter.unusedVariables false
set_option linter.unusedSimpArgs false
def BRq.un (r:BRq):Rq:=⟨r.c,r.n,r.s,r.t⟩
theorem zjv {w:World} {a:Option Addr} {rs:List BRq} (h:ReqsAt w a rs):RowsAt RqE w a (rs.map BRq.un):=by
 refine⟨by rw[List.length_map];exact h.1,fun r hr=>?_,?_⟩
 ·obtain⟨y,hy,rfl⟩:=List.mem_map.1 hr
  have k:y.ok:=h.2.1 y hy
  exact⟨k.tl,k.tb,k.sl,k.cl,k.ch,k.nl,k.nh⟩
 ·rcases h.2.2 with q|⟨b,off,rfl,h1,h2⟩
  ·exact .inl (by rw[q];rfl)
  ·refine .inr ⟨b,off,rfl,h1,?_⟩
   have e:(rs.map BRq.un).flatMap RqE.f=flatR rs:=by
    unfold flatR
    rw[List.flatMap_map]
    rfl
   rw[e]
   exact h2
structure Hp where
 q:Bool
 rs:List Rq
 vt:Vt
 sg:List Sg
def Hd.pure (h:Hd):Hp:=⟨h.q,h.rs.xs,h.vt,h.sg.xs⟩
def baS (s:Rst):(Bool ×List Rq) ×Rst:=(((getB s.1 s.2.1).q,(getB s.1 s.2.1).rs.map BRq.un),(getB s.1 s.2.1).rest,(getB s.1 s.2.1).err,s.2.2)
def ceS (s:Rst):(Vt ×List Sg) ×Rst:=(((voS s).1,(lsS 64 siS (voS s).2).1),(lsS 64 siS (voS s).2).2)
def heS (s:Rst):Hp ×Rst:=(⟨(baS s).1.1,(baS s).1.2,(ceS (baS s).2).1.1,(ceS (baS s).2).1.2⟩,(ceS (baS s).2).2)
theorem zlE (rest:List Int) (e:Int):(getB rest e).rest.length≤rest.length:=by
 unfold getB
 split
 ·exact zai _ _ _
 ·exact Nat.le_trans (zg0 _ _ _) (zai _ _ _)
theorem zdr (s:Rst):(baS s).2.1.length≤s.1.length:=zlE _ _
theorem zhA (s:Rst):(ceS s).2.1.length≤s.1.length:=Nat.le_trans (zc9 zdP _ _) (zdy _)
theorem zgY (s:Rst):(heS s).2.1.length≤s.1.length:=Nat.le_trans (zhA _) (zdr _)
theorem zeroCeE (w:World):(zeroValue 50).run prog w=.ok (.agg (Vt.zero.cells++[Value.slice none 0 0]).toArray) w:=by kernel_rfl
theorem zeroHdE (w:World):(zeroValue 113).run prog w=.ok (.agg ([Value.bool false,.slice none 0 0]++(Vt.zero.cells++[Value.slice none 0 0])).toArray) w:=by kernel_rfl
theorem zm3 (t:List Value) (x:Sl Sg) (ht:t.length=36) (w:World):(Instr.build 50 #[(0,.agg t.toArray),(1,x.val)]).run prog w=.ok (.agg (t++[x.val]).toArray) w:=
 zcv (zs:=Vt.zero.cells++[Value.slice none 0 0]) (pl:=#[(0,36),(36,1)]) (zeroCeE w) (by kernel_rfl) (by kernel_rfl) _ _ (zeo (c1:=t) (c2:=[x.val]) rfl rfl (by decide) rfl ht rfl rfl rfl)
theorem zm0 (q:Bool) (x:Value) (t:List Value) (ht:t.length=37) (hx:x.cells=#[x]) (w:World):(Instr.build 113 #[(0,.agg #[.bool q,x]),(1,.agg t.toArray)]).run prog w=.ok (.agg (.bool q::x::t).toArray) w:=
 zcv (zs:=[Value.bool false,.slice none 0 0]++(Vt.zero.cells++[Value.slice none 0 0])) (pl:=#[(0,2),(2,37)]) (zeroHdE w) (by kernel_rfl) (by kernel_rfl) _ _ (zeo (c1:=[.bool q,x]) (c2:=t) rfl rfl (by decide) (by decide) rfl ht rfl rfl)
theorem bgetS (Q R:Nat) (s:Rst) (w:World) (h:RS w Q R s) (hl:s.1.length≤40000):Calls prog 108 #[.pointer (some ⟨R,0,none⟩)] w fun en w'=>∃x:Sl Rq,en=.returned (.agg #[.bool (baS s).1.1,x.val])∧x.xs=(baS s).1.2∧x.At RqE w'∧x.Bk (fun b=>w.heap.size≤b∧b<w'.heap.size)∧RS w' Q R (baS s).2∧Kept w R Q w':=
 (znd R s.1 s.2.1 w h.st hl h.st.bs).mono (by
  rintro _ w1 ⟨a,cap,rfl,h1,h2,h3,h4,h5,h6⟩
  have e:(getB s.1 s.2.1).rs.length=((getB s.1 s.2.1).rs.map BRq.un).length:=(List.length_map ..).symm
  refine⟨⟨a,cap,_⟩,?_,rfl,zjv h3,?_,h.gb h6 h5,Kept.of h6⟩
  ·show _=Ending.returned (.agg #[_,.slice a ((getB s.1 s.2.1).rs.map BRq.un).length cap])
   rw[←e];rfl
  ·intro b hne hb
   refine⟨h4 b hb,?_⟩
   rcases h3.2.2 with q|⟨c,off,e1,h7,_⟩
   ·exact absurd (by show((getB s.1 s.2.1).rs.map BRq.un)=[];rw[q];rfl) hne
   ·have hb:a=some b:=hb
    rw[hb]at e1
    injection e1 with e1
    rw[e1]
    exact h7)
theorem rcertS (Q R:Nat) (s:Rst) (w:World) (h:RS w Q R s) (hl:s.1.length≤40000):Calls prog 114 #[.pointer (some ⟨Q,0,none⟩)] w fun en w'=>∃x:Sl Sg,en=.returned (.agg (certL (ceS s).1.1 x).toArray)∧x.xs=(ceS s).1.2∧x.At SgE w'∧x.Bk (fun b=>w.heap.size≤b∧b<w'.heap.size)∧(ceS s).1.1.ok∧RS w' Q R (ceS s).2∧Kept w R Q w':=by
 obtain⟨zc,hzl,hzr⟩:∃z:List Value,z.length=37∧∀w:World,(zeroValue 50).run prog w=.ok (.agg z.toArray) w:=⟨_,by decide,zeroCeE⟩
 have cv:=fun w0 h0=>rvoteS Q R s w0 h0 hl
 have hv2:=zfa s h.st.bs
 have hvl:=hv2.len
 have hvo:=Vt.one (voS s).1
 have hln:=zdy s
 unfold ceS certL
 generalize voS s=p_ at cv hv2 hvl hvo hln ⊢
 obtain⟨vt,t⟩:=p_
 simp only at cv hv2 hvl hvo hln ⊢
 have cs:=fun w0 h0=>zfV Q R t w0 h0 (Nat.le_trans hln hl)
 generalize lsS 64 siS t=p_ at cs ⊢
 obtain⟨ls,t'⟩:=p_
 simp only at cs ⊢
 obtain⟨vc,hvc⟩:∃q,Hid (vt.cells=q):=⟨_,hide rfl⟩
 rw[hvc.out]at hvl hvo
 simp only[hvc.out]at cv ⊢
 clear hvc hln
 replace hv2:=hide hv2
 obtain⟨hB1,hr1,hs1⟩:=zA w zc 50
 have ht1:=zn w zc.toArray 50 (n:=37) (by simp[hzl])
 have hRw:=h.st.1.1
 have hQw:=h.mr.lt
 go_enter func114,ntmps114
 go_upto_region 0 with fail
 refine pl_b ?_
 refine pl_r 2 (.pointer (some ⟨w.heap.size,0,none⟩)) (w.alloc (.cells zc.toArray 50)) (zr rfl (hzr _)) ?_
 refine zb ?_
 obtain⟨W1,hW1⟩:∃W,w.alloc (.cells zc.toArray 50)=W:=⟨_,rfl⟩
 rw[hW1]at hB1 hr1 hs1 ht1 ⊢
 clear hW1 hr1 hzr hzl
 go_upto_region 1 with fail
 have hB8:=hB1.drew
 have ht8:W1.drew.there w.heap.size 0 37:=ht1
 have hs8:w.heap.size<W1.drew.heap.size:=hs1
 refine zw (S:=(fun W'=>W'.cell? ⟨Q,0,none⟩=some (.pointer (some ⟨R,0,none⟩)))) 12 rfl (by kernel_rfl) ?_
 obtain⟨w8,hw8⟩:∃W,W1.drew=W:=⟨_,rfl⟩
 rw[hw8]at hB8 ht8 hs8 ⊢
 clear hw8
 have S8:=h.below hB8
 have hS:(fun W'=>W'.cell? ⟨Q,0,none⟩=some (.pointer (some ⟨R,0,none⟩))) w8:=S8.mr.c0
 refine hs_a 0 3 hS ?_
 refine hs_a 2 5 hS ?_
 refine hs_a 3 6 hS ?_
 refine hs_a 4 7 hS ?_
 refine hs_v 5 8 (.pointer (some ⟨R,0,none⟩)) rfl (fun w' hw=>zf rfl rfl hw underlying98 rfl) hS ?_
 refine hs_a 6 9 hS ?_
 refine hs_a 7 10 hS ?_
 refine hs_a 8 11 hS ?_
 refine hs_c 1 4 ?_
 refine(cv w8 S8).mono ?_
 rintro _ w2 ⟨rfl,S2,k2⟩
 have hS:(fun W'=>W'.cell? ⟨Q,0,none⟩=some (.pointer (some ⟨R,0,none⟩))) w2:=S2.mr.c0
 refine⟨_,rfl,hS,?_⟩
 simp only[nz]
 refine hs_c 9 12 ?_
 refine(cs w2 S2).mono ?_
 rintro _ w3 ⟨x,rfl,hx,hA,hB,S3,k3⟩
 have hS:(fun W'=>W'.cell? ⟨Q,0,none⟩=some (.pointer (some ⟨R,0,none⟩))) w3:=S3.mr.c0
 refine⟨_,rfl,hS,?_⟩
 simp only[nz]
 have k8:Kept w R Q w3:=(((Kept.refl w R Q).below hB8).trans k2).trans k3
 have thA:w3.there w.heap.size 0 37:=zY (zY ht8 (k2.block _ hs8 (by omega) (by omega))) (k3.block _ (Nat.lt_of_lt_of_le hs8 k2.size) (by omega) (by omega))
 have hbs:=fun w0=>zm3 vc x hvl w0
 have hpl:(vc++[x.val]).length=37:=by rw[List.length_append,hvl];rfl
 have hip:(prog.info? 50).map (·.size)=some (vc++[x.val]).length:=by rw[hpl];exact iszCe
 have hp1:∀v∈vc++[x.val],v.oneCell'=true:=fun v hv=>by
  rcases List.mem_append.1 hv with g|g
  ·exact hvo v g
  ·rw[List.mem_singleton.1 g];rfl
 obtain⟨pc,hpc⟩:∃p,Hid (vc++[x.val]=p):=⟨_,hide rfl⟩
 simp only[hpc.out]at hbs hpl hip hp1
 refine hs_v 10 13 (.agg pc.toArray) rfl (fun w' hw=>zT (parts:=[(0,.tmp 4),(1,.tmp 12)]) rfl rfl (hbs _)) hS ?_
 have hSE:(fun W'=>W'.cell? ⟨Q,0,none⟩=some (.pointer (some ⟨R,0,none⟩))) (w3.setCells w.heap.size 0 pc):=(S3.low (zi (Nat.le_refl _) pc 0 _ (Below.refl _ w3)) hQw).mr.c0
 refine zG (i:=11) (w':=w3.setCells w.heap.size 0 pc) rfl (by kernel_rfl) (by rfl) (zo (cs:=pc.toArray) rfl rfl rfl (by simpa [hpl]using thA) (by simpa using hip) (zp hp1)) rfl hSE ?_
 refine zv (by kernel_rfl) ?_
 have hlow:Below w.heap.size w3 (w3.setCells w.heap.size 0 pc):=zi (Nat.le_refl _) pc 0 _ (Below.refl _ w3)
 have hrs:=run_loadVar_mid (P:=prog) (w3.setCells w.heap.size 0 pc) w.heap.size 0 50 pc _ (World.rangeAt_setCells_same w3 w.heap.size 0 pc (by rw[hpl];exact thA)) underlying50 rfl hip
 have HF:Hid (∃y:Sl Sg,Ending.returned (.agg pc.toArray)=.returned (.agg (vc++[y.val]).toArray)∧y.xs=ls∧y.At SgE (w3.setCells w.heap.size 0 pc)∧y.Bk (fun b=>w.heap.size≤b∧b<(w3.setCells w.heap.size 0 pc).heap.size)∧vt.ok∧RS (w3.setCells w.heap.size 0 pc) Q R t'∧Kept w R Q (w3.setCells w.heap.size 0 pc)):=hide ⟨x,by rw[hpc.out],hx,hA.on (by rw[zB];exact Nat.le_refl _) hB (fun b hb hlt=>za5 (by have:=hb.1;have:=k2.size;omega)),hB.mono (fun b hb=>⟨by have:=hb.1;have:=k2.size;omega,by rw[zB];exact hb.2⟩),hv2.out,S3.low hlow hQw,k8.low hlow (Nat.le_refl _)⟩
 clear hA hB S3 k3 S2 k2 hpc hbs hx k8
 go_wp2_with fail
 refine bodyPost_ret (v:=.agg pc.toArray) ?_ rfl ?_
 ·simp[results,results114,Act.put,asAddr,hrs]
 ·exact HF.out
def Hd.Bk (h:Hd) (P:Nat→Prop):Prop:=h.rs.Bk P∧h.sg.Bk P
theorem Hd.Bk.mono {h:Hd} {P P':Nat→Prop} (k:h.Bk P) (hp:∀b,P b→P' b):h.Bk P':=⟨k.1.mono hp,k.2.mono hp⟩
theorem Hd.At.on {w w':World} {h:Hd} {P:Nat→Prop} (k:h.At w) (hs:w.heap.size≤w'.heap.size) (hb:h.Bk P) (hp:∀b,P b→b<w.heap.size→w'.heap[b]? =w.heap[b]?):h.At w':=⟨Sl.At.on k.1 hs hb.1 hp,Sl.At.on k.2 hs hb.2 hp⟩
theorem rheldS (Q R:Nat) (s:Rst) (w:World) (h:RS w Q R s) (hl:s.1.length≤40000):Calls prog 156 #[.pointer (some ⟨Q,0,none⟩)] w fun en w'=>∃y:Hd,en=.returned (.agg y.cells.toArray)∧y.pure=(heS s).1∧y.At w'∧y.Bk (fun b=>w.heap.size≤b∧b<w'.heap.size)∧y.vt.ok∧RS w' Q R (heS s).2∧Kept w R Q w':=by
 obtain⟨zc,hzl,hzr⟩:∃z:List Value,z.length=39∧∀w:World,(zeroValue 113).run prog w=.ok (.agg z.toArray) w:=⟨_,by decide,zeroHdE⟩
 have cb:=fun w0 h0=>bgetS Q R s w0 h0 hl
 have hln:=zdr s
 unfold heS
 generalize baS s=p_ at cb hln ⊢
 obtain⟨⟨q,rs⟩,t⟩:=p_
 simp only at cb hln ⊢
 have cc:=fun w0 h0=>rcertS Q R t w0 h0 (Nat.le_trans hln hl)
 generalize ceS t=p_ at cc ⊢
 obtain⟨⟨vt,sg⟩,t'⟩:=p_
 simp only at cc ⊢
 clear hln
 obtain⟨hB1,hr1,hs1⟩:=zA w zc 113
 have ht1:=zn w zc.toArray 113 (n:=39) (by simp[hzl])
 have hRw:=h.st.1.1
 have hQw:=h.mr.lt
 go_enter func156,ntmps156
 go_upto_region 0 with fail
 refine pl_b ?_
 refine pl_r 2 (.pointer (some ⟨w.heap.size,0,none⟩)) (w.alloc (.cells zc.toArray 113)) (zr rfl (hzr _)) ?_
 refine zb ?_
 obtain⟨W1,hW1⟩:∃W,w.alloc (.cells zc.toArray 113)=W:=⟨_,rfl⟩
 rw[hW1]at hB1 hr1 hs1 ht1 ⊢
 clear hW1 hr1 hzr hzl
 have S1:=h.below hB1
 go_upto_region 1 with fail
 refine pl_b ?_
 refine pl_a 3 ?_
 refine pl_a 4 ?_
 refine pl_a 5 ?_
 refine pl_v 6 (.pointer (some ⟨R,0,none⟩)) (zf rfl rfl S1.mr.c0 underlying98 rfl) ?_
 refine pl_c 7 ?_
 refine(cb W1 S1).mono ?_
 rintro _ w2 ⟨x,rfl,hx,hA,hB,S2,k2⟩
 refine⟨_,rfl,?_⟩
 simp only[nz]
 refine pl_a 8 ?_
 refine pl_c 9 ?_
 refine(cc w2 S2).mono ?_
 rintro _ w3 ⟨y,rfl,hy,hC,hD,hvt,S3,k3⟩
 refine⟨_,rfl,?_⟩
 simp only[nz]
 have k8:Kept w R Q w3:=(((Kept.refl w R Q).below hB1).trans k2).trans k3
 have thA:w3.there w.heap.size 0 39:=zY (zY ht1 (k2.block _ hs1 (by omega) (by omega))) (k3.block _ (Nat.lt_of_lt_of_le hs1 k2.size) (by omega) (by omega))
 have hvl:(certL vt y).length=37:=by have:=hvt.len;simp[certL];omega
 have hbs:=fun w0=>zm0 q x.val (certL vt y) hvl rfl w0
 have hpl:(Value.bool q::x.val::certL vt y).length=39:=by simp[hvl]
 have hip:(prog.info? 113).map (·.size)=some (Value.bool q::x.val::certL vt y).length:=by rw[hpl];exact iszH
 have hp1:∀v∈Value.bool q::x.val::certL vt y,v.oneCell'=true:=HdE.one ⟨q,x,vt,y⟩
 have hA3:x.At RqE w3:=hA.kept k3 (n:=W1.heap.size) (by omega) (by omega) hB (fun b hb=>hb.1)
 obtain⟨pc,hpc⟩:∃p,Hid (Value.bool q::x.val::certL vt y=p):=⟨_,hide rfl⟩
 simp only[hpc.out]at hbs hpl hip hp1
 refine pl_v 10 (.agg pc.toArray) (zT (parts:=[(0,.tmp 7),(1,.tmp 9)]) rfl rfl (hbs _)) ?_
 refine pl_s (w3.setCells w.heap.size 0 pc) (zo (cs:=pc.toArray) rfl rfl rfl (by simpa [hpl]using thA) (by simpa using hip) (zp hp1)) ?_
 refine zb ?_
 have hlow:Below w.heap.size w3 (w3.setCells w.heap.size 0 pc):=zi (Nat.le_refl _) pc 0 _ (Below.refl _ w3)
 have hrs:=run_loadVar_mid (P:=prog) (w3.setCells w.heap.size 0 pc) w.heap.size 0 113 pc _ (World.rangeAt_setCells_same w3 w.heap.size 0 pc (by rw[hpl];exact thA)) underlying113 rfl hip
 have HF:Hid (∃g:Hd,Ending.returned (.agg pc.toArray)=.returned (.agg g.cells.toArray)∧g.pure=⟨q,rs,vt,sg⟩∧g.At (w3.setCells w.heap.size 0 pc)∧g.Bk (fun b=>w.heap.size≤b∧b<(w3.setCells w.heap.size 0 pc).heap.size)∧g.vt.ok∧RS (w3.setCells w.heap.size 0 pc) Q R t'∧Kept w R Q (w3.setCells w.heap.size 0 pc)):=by
  have z2:=k2.size
  have z3:=k3.size
  have hBk:Hd.Bk ⟨q,x,vt,y⟩ (fun b=>W1.heap.size≤b∧b<w3.heap.size):=⟨hB.mono (fun b hb=>⟨hb.1,by omega⟩),hD.mono (fun b hb=>⟨by omega,hb.2⟩)⟩
  refine hide ⟨⟨q,x,vt,y⟩,by rw[←hpc.out];rfl,by rw[←hx,←hy];rfl,Hd.At.on ⟨hA3,hC⟩ (by rw[zB];exact Nat.le_refl _) hBk (fun b hb hlt=>za5 (by omega)),hBk.mono (fun b hb=>⟨by omega,by rw[zB];exact hb.2⟩),hvt,S3.low hlow hQw,k8.low hlow (Nat.le_refl _)⟩
 clear hA hB S3 k3 S2 k2 hpc hbs hx k8 hA3 hC hD hy
 go_wp2_with fail
 refine bodyPost_ret (v:=.agg pc.toArray) ?_ rfl ?_
 ·simp[results,results156,Act.put,asAddr,hrs]
 ·exact HF.out
theorem numRS (Q R:Nat) (most:Int) (s:Rst) (w:World) (h:RS w Q R s):Calls prog 39 #[.pointer (some ⟨R,0,none⟩),.int .i64 most] w fun en w'=>en=.returned (.int .i64 (nuS most s).1)∧RS w' Q R (nuS most s).2∧Kept w R Q w':=
 (zaK R s.1 s.2.1 most w h.st).mono (by rintro _ w1 ⟨rfl,h1,h2⟩;exact⟨rfl,h.gb h2 h1,Kept.of h2⟩)
def kiS (most:Int) (s:Rst):Int ×Rst:=((numS s.1 s.2.1 most).1,(numS s.1 s.2.1 most).2.1,(numS s.1 s.2.1 most).2.2,kdZ s.1 s.2.1 most s.2.2)
def dgS (s:Rst):List Int ×Rst:=(padN 32 (rawS s.1 s.2.1 32).1,(rawS s.1 s.2.1 32).2.1,(rawS s.1 s.2.1 32).2.2,s.2.2)
def txS (most:Int) (s:Rst):ByteArray ×Rst:=(strOf (textS s.1 s.2.1 most).1,(textS s.1 s.2.1 most).2.1,(textS s.1 s.2.1 most).2.2,s.2.2)
theorem za9 (most:Int) (s:Rst):(kiS most s).2.1.length≤s.1.length:=zai _ _ _
theorem zmv (s:Rst):(dgS s).2.1.length≤s.1.length:=zcU _ _ _
theorem ziG (most:Int) (s:Rst):(txS most s).2.1.length≤s.1.length:=zcL _ _ _
theorem zmu (s:Rst) (hb:s.2.1=0→Bs s.1):(dgS s).1.length=32∧∀z∈(dgS s).1,0≤z∧z<256:=⟨zaV _ _,zcZ (zce hb)⟩
theorem kindRS (Q R:Nat) (most:Int) (s:Rst) (w:World) (h:RS w Q R s):Calls prog 107 #[.pointer (some ⟨Q,0,none⟩),.int .i64 most] w fun en w'=>en=.returned (.int .i64 (kiS most s).1)∧RS w' Q R (kiS most s).2∧Kept w R Q w':=
 (zfW Q R s.2.2 s.1 s.2.1 most w h.st h.mr h.qt).mono (by rintro _ w1 ⟨rfl,h1,h2,h3,h4⟩;exact⟨rfl,⟨h1,h2,h4⟩,h3⟩)
theorem digRS (Q R:Nat) (s:Rst) (w:World) (h:RS w Q R s) (hl:s.1.length≤40000):Calls prog 113 #[.pointer (some ⟨Q,0,none⟩)] w fun en w'=>en=.returned (.agg (v8 (dgS s).1).toArray)∧RS w' Q R (dgS s).2∧Kept w R Q w':=
 (zf0 Q R s.2.2 s.1 s.2.1 w h.st h.mr hl).mono (by rintro _ w1 ⟨rfl,h1,h2⟩;exact⟨rfl,h.gb h2 h1,Kept.of h2⟩)
theorem textRS (Q R:Nat) (most:Int) (s:Rst) (w:World) (h:RS w Q R s):Calls prog 40 #[.pointer (some ⟨R,0,none⟩),.int .i64 most] w fun en w'=>en=.returned (.string (txS most s).1)∧RS w' Q R (txS most s).2∧Kept w R Q w':=
 (zdE R s.1 s.2.1 most w h.st h.st.pos).mono (by rintro _ w1 ⟨rfl,h1,h2⟩;exact⟨rfl,h.gb h2 h1,Kept.of h2⟩)
structure LH (w:World) (Q R:Nat) (t:Rst) (k:Nat) (v:Value) (W:World):Prop where
 ex:∃ys:List Hd,ys.map Hd.pure=(itG heS t k).1∧W.ownsRow w.heap.size 113 39 v k (ys.flatMap Hd.cells)∧∀y∈ys,y.vt.ok∧y.At W∧y.Bk (fun b=>w.heap.size≤b∧b<W.heap.size∧v.ownBlock≠some b)
 rs:RS W Q R (itG heS t k).2
 kept:Kept w R Q W
def zgV:List Value:=[Value.bool false,.slice none 0 0]++(Vt.zero.cells++[Value.slice none 0 0])
theorem infoHd:(prog.info? 113).map (fun i=>(i.zero,i.size,i.bytes))=some (some (.agg zgV.toArray),39,120):=by kernel_rfl
theorem zhZ:(Value.agg zgV.toArray).cells.size=39:=by decide
theorem LH.step {w wr w4 w5 w6:World} {Q R k:Nat} {t:Rst} {v v6:Value} {y:Hd} (hQ:Q<w.heap.size) (hR:R<w.heap.size) (H:LH w Q R t k v wr) (e1:y.pure=(heS (itG heS t k).2).1) (hy:y.At w4) (hB:y.Bk (fun b=>wr.heap.size≤b∧b<w4.heap.size)) (hvt:y.vt.ok) (S4:RS w4 Q R (heS (itG heS t k).2).2) (k4:Kept wr R Q w4)
  (hb5:Below w4.heap.size w4 w5) (g6:w5.grownBy w6 v.ownBlock) (gb:∀g,v6.ownBlock=some g→v.ownBlock=some g∨w5.heap.size≤g) {ys:List Hd} (e2:ys.map Hd.pure=(itG heS t k).1) (o3:wr.ownsRow w.heap.size 113 39 v k (ys.flatMap Hd.cells)) (hys:∀y∈ys,y.vt.ok∧y.At wr∧y.Bk (fun b=>w.heap.size≤b∧b<wr.heap.size∧v.ownBlock≠some b)) (o6:w6.ownsRow w.heap.size 113 39 v6 (k+1) (ys.flatMap Hd.cells++y.cells)):LH w Q R t (k+1) v6 w6:=by
 have z4:=k4.size
 have z5:=hb5.size
 have z6:=g6.size
 have zk:=H.kept.size
 have bl:∀b,b<w4.heap.size→v.ownBlock≠some b→w6.heap[b]? =w4.heap[b]? :=fun b h1 h2=>(g6.block b (by omega) (fun q=>h2 q.symm)).trans (hb5.block b h1)
 have low:Below w.heap.size w4 w6:=zbU (B:=w.heap.size) (hb5.mono (by omega)) (by omega) ((zc2 o3 k4 (by omega) (by omega)).kept (row:=none) ⟨hb5.os,hb5.tape,hb5.output,hb5.size,fun b h1 _=>hb5.block b h1⟩ (by cases v.ownBlock<;>simp)) g6
 refine⟨⟨ys++[y],?_,?_,?_⟩,S4.low low hQ,(H.kept.trans k4).low low (Nat.le_refl _)⟩
 ·rw[List.map_append,e2]
  show _=(itG heS t k).1++[(heS (itG heS t k).2).1]
  rw[←e1]
  rfl
 ·rw[List.flatMap_append]
  simpa using o6
 ·intro u hu
  rcases List.mem_append.1 hu with g|g
  ·obtain⟨u1,u2,u3⟩:=hys u g
   refine⟨u1,u2.on (by omega) u3 (fun b hb hlt=>(bl b (by omega) hb.2.2).trans (k4.block b hlt (by omega) (by omega))),u3.mono (fun b hb=>⟨hb.1,by omega,fun q=>?_⟩)⟩
   rcases gb b q with g1|g1
   ·exact hb.2.2 g1
   ·omega
  ·rw[List.mem_singleton.1 g]
   have nb:∀b,wr.heap.size≤b→v.ownBlock≠some b:=fun b hb q=>by have:=(o3.lt b q).2;omega
   refine⟨hvt,hy.on (by omega) hB (fun b hb hlt=>bl b hlt (nb b hb.1)),hB.mono (fun b hb=>⟨by omega,by omega,fun q=>?_⟩)⟩
   rcases gb b q with g1|g1
   ·exact nb b hb.1 g1
   ·omega
theorem zjJ (Q R:Nat) (s:Rst) (w:World) (h:RS w Q R s) (hl:s.1.length≤40000):Calls prog 155 #[.func (.func 39) #[.pointer (some ⟨R,0,none⟩)] #[],.int .i64 4,.func (.func 156) #[.pointer (some ⟨Q,0,none⟩)] #[]] w fun en w'=>∃x:Sl Hd,en=.returned x.val∧x.xs.map Hd.pure=(lsS 4 heS s).1∧HdsAt w' x∧x.Bk (fun b=>w.heap.size≤b∧b<w'.heap.size)∧(∀y∈x.xs,y.Bk (fun b=>w.heap.size≤b∧b<w'.heap.size))∧RS w' Q R (lsS 4 heS s).2∧Kept w R Q w':=by
 obtain⟨i1,hi1,hiz,his,hib⟩:=zW infoHd
 have hzk:=zhZ
 have hRw:=h.st.1.1
 have hQw:=h.mr.lt
 have cn:=fun w0 h0=>numRS Q R 4 s w0 h0
 have hx1:0≤(nuS 4 s).1∧(nuS 4 s).1≤4:=zaP (most:=4) h.st.bs (by omega)
 have hx2:=zal 4 s
 unfold lsS
 generalize nuS 4 s=p_ at hx1 hx2 cn ⊢
 obtain⟨n,t⟩:=p_
 simp only at hx1 hx2 cn ⊢
 obtain⟨N,rfl⟩:∃N:Nat,n=(N:Int):=⟨n.toNat,by omega⟩
 have hN:N≤4:=by omega
 rw[Int.toNat_natCast]
 have hlt2:t.1.length≤40000:=Nat.le_trans hx2 hl
 clear hx1 hx2 hl
 go_enter func155,ntmps155
 go_upto_region 1 with fail
 refine pl_b ?_
 refine pl_a 9 ?_
 refine pl_a 10 ?_
 refine pl_c 11 ?_
 refine(cn w h).mono ?_
 rintro _ w2 ⟨rfl,S2,k2⟩
 refine⟨_,rfl,?_⟩
 simp only[nz]
 refine pl_a 7 ?_
 refine zb ?_
 clear cn
 go_upto_region 2 with fail
 refine pl_b ?_
 refine pl_a 12 ?_
 refine zby (d:=some 13) (by rfl) rfl (zeq (B:=w.heap.size) (c:=(N:Int)) rfl rfl (by omega) (by omega) underlying44 hi1 hiz his (by rw[hib];decide) k2.size) ?_
 rintro v3 w3 ⟨o3,g3⟩
 simp only[nz]
 refine pl_a 8 ?_
 refine zb ?_
 have hb3:Below w2.heap.size w2 w3:=(Below.refl _ _).grown g3 (Nat.le_refl _) (fun k hk=>by cases hk)
 have HL0:Hid (LH w Q R t 0 v3 w3):=hide ⟨⟨[],rfl,o3,fun y hy=>by cases hy⟩,S2.below hb3,k2.below hb3⟩
 clear o3 g3 hb3 S2 k2 h
 go_wp2_with fail
 go_loopw [8,15] (fun ov iv wr=>∃k:Nat,k≤N∧iv=.int .i64 (k:Int)∧Hid (LH w Q R t k ov wr)) (fun _ iv _=>N - (intOf iv).toNat)
 case atStart=>exact⟨0,by omega,rfl,HL0⟩
 case round=>
  clear HL0
  obtain⟨k,hk,rfl,HL⟩:=hrel
  by_cases hlt:k<N
  ·have k1:(k:Int)<N:=by omega
   have HL:=HL.out
   have hle:=Nat.le_trans (zdf zgY t k) hlt2
   have cE:=rheldS Q R (itG heS t k).2 wr HL.rs hle
   go_upto_region 5 with fail
   refine pl_b ?_
   refine pl_a 17 ?_
   refine pl_a 18 ?_
   refine pl_c 19 ?_
   refine(cE).mono ?_
   rintro _ w4 ⟨y,rfl,e4,a4,B4,vt4,S4,k4⟩
   refine⟨_,rfl,?_⟩
   simp only[nz]
   obtain⟨ys,e2,o3,hys⟩:=HL.ex
   have o4:=zc2 o3 k4 (by omega) (by omega)
   have hul:y.cells.length=39:=HdE.len y vt4
   have hone:=HdE.one y
   have hone:∀v∈y.cells,v.oneCell'=true:=hone
   obtain⟨u,hu⟩:∃u,Hid (y.cells=u):=⟨_,hide rfl⟩
   rw[hu.out]at hul hone ⊢
   have hb5:Below w4.heap.size w4 (w4.alloc (.cells u.toArray 113)):=(Below.refl _ _).alloc (Nat.le_refl _) _
   have r5:(w4.alloc (.cells u.toArray 113)).rangeAt w4.heap.size 0 u:=by simpa using zC w4 u.toArray 113
   have o5:=o4.alloc (.cells u.toArray 113)
   refine pl_r 20 (.slice (some ⟨w4.heap.size,0,none⟩) 1 1) (w4.alloc (.cells u.toArray 113)) (zcs rfl rfl (zcb 44 113 i1 _ u underlying44 hi1 hiz (by rw[his,hul]) (by omega) (by omega) _)) ?_
   have s4:w.heap.size≤w4.heap.size:=Nat.le_trans HL.kept.size k4.size
   obtain⟨w5,hw5⟩:∃W,w4.alloc (.cells u.toArray 113)=W:=⟨_,rfl⟩
   rw[hw5]at hb5 r5 o5 ⊢
   clear hw5
   refine zby (d:=some 21) (by rfl) rfl (zer rfl rfl rfl underlying44 hi1 hiz his (by rw[hib];decide) rfl o5 (Nat.le_trans s4 hb5.size) r5 hul hone (by omega) hzk) ?_
   rintro v6 w6 ⟨o6,g6,gb6⟩
   simp only[nz]
   refine pl_a 8 ?_
   refine zb ?_
   have HL6:Hid (LH w Q R t (k+1) v6 w6):=hide (HL.step hQw hRw e4 a4 B4 vt4 S4 k4 hb5 g6 gb6 e2 o3 hys (by rw[hu.out];exact o6))
   clear HL o3 o4 o5 o6 g6 S4 k4 hb5 r5 cE a4 B4 vt4 e4 e2 hys hu
   go_wp2_with fail
   go_roundw
   case rel=>exact⟨k+1,by omega,by go_num,HL6⟩
   case measure=>simp[intOf];omega
  ·obtain rfl:k=N:=by omega
   have HL:=HL.out
   obtain⟨ys,e2,o3,hys⟩:=HL.ex
   have hlen:ys.length=k:=by
    have:=congrArg List.length e2
    rwa [List.length_map,zcn]at this
   obtain⟨x,rfl,hx,hA,hB⟩:=zc1 (E:=HdE) (ys:=ys) (by rw[hlen];exact o3) (fun y hy=>(hys y hy).1) (by rw[hlen];unfold maxLen;omega)
   have HF:Hid (∃g:Sl Hd,Ending.returned x.val=.returned g.val∧g.xs.map Hd.pure=(itG heS t k).1∧HdsAt wr g∧g.Bk (fun b=>w.heap.size≤b∧b<wr.heap.size)∧(∀y∈g.xs,y.Bk (fun b=>w.heap.size≤b∧b<wr.heap.size))∧RS wr Q R (itG heS t k).2∧Kept w R Q wr):=hide ⟨x,rfl,by rw[hx];exact e2,⟨hA,fun y hy=>by rw[hx]at hy;exact(hys y hy).2.1⟩,fun b _ hb=>⟨(hB b hb).1,(hB b hb).2.1⟩,fun y hy=>by rw[hx]at hy;exact(hys y hy).2.2.mono (fun b hb=>⟨hb.1,hb.2.1⟩),HL.rs,HL.kept⟩
   clear HL hA hB hx e2 o3 hys
   go_wp2_with fail
   go_ret
   exact HF.out
structure MV (w:World) (Q R A B n:Nat) (q:List Value) (s:Rst) (W:World):Prop where
 row:W.rangeAt B 0 q
 box:W.there B 0 n
 ans:W.there A 0 n
 kept:Kept w R Q W
 rs:RS W Q R s
 la:A<W.heap.size
 lb:B<W.heap.size
 na:w.heap.size≤A
 nb:w.heap.size≤B
 ne:A≠B
 rq:R<w.heap.size∧Q<w.heap.size
theorem MV.on {w W W':World} {Q R A B n:Nat} {q:List Value} {s s':Rst} (h:MV w Q R A B n q s W) (k:Kept W R Q W') (S:RS W' Q R s'):MV w Q R A B n q s' W':=by
 have h1:=h.na
 have h2:=h.nb
 have h3:=h.rq
 exact⟨zd0 h.row (k.blk h.lb (by omega) (by omega)),zY h.box (k.blk h.lb (by omega) (by omega)),zY h.ans (k.blk h.la (by omega) (by omega)),h.kept.trans k,S,Nat.lt_of_lt_of_le h.la k.size,Nat.lt_of_lt_of_le h.lb k.size,h1,h2,h.ne,h3⟩
theorem MV.set {w W:World} {Q R A B n:Nat} {q q':List Value} {s:Rst} (h:MV w Q R A B n q s W) (o:Nat) (vs:List Value) (hq:(W.setCells B o vs).rangeAt B 0 q'):MV w Q R A B n q' s (W.setCells B o vs):=by
 have h1:=h.na
 have h2:=h.nb
 have h3:=h.rq
 exact⟨hq,World.there_setCells h.box _ _ _,World.there_setCells h.ans _ _ _,h.kept.newSets h2 _ _,h.rs.low (zi h2 vs o _ (Below.refl _ W)) h3.2,by rw[zB];exact h.la,by rw[zB];exact h.lb,h1,h2,h.ne,h3⟩
theorem MV.drew {w W:World} {Q R A B n:Nat} {q:List Value} {s:Rst} (h:MV w Q R A B n q s W):MV w Q R A B n q s W.drew:=
 ⟨(World.rangeAt_drew _ _ _ _).2 h.row,h.box,h.ans,h.kept.below ((Below.refl _ _).drew),h.rs.below ((Below.refl _ _).drew),h.la,h.lb,h.na,h.nb,h.ne,h.rq⟩
theorem MV.part {w W:World} {Q R A B n:Nat} {q:List Value} {s:Rst} (h:MV w Q R A B n q s W) (o m:Nat) (hm:o+m≤n):W.there B o m:=zcJ h.box hm
theorem Sl.At.put {α:Type} {E:El α} {W:World} {x:Sl α} {P:Nat→Prop} {B o:Nat} {vs:List Value} (h:x.At E W) (hb:x.Bk P) (hp:∀b,P b→b≠B):x.At E (W.setCells B o vs):=
 h.on (by rw[zB];exact Nat.le_refl _) hb (fun b hP _=>za5 (hp b hP))
theorem HdsAt.put {W:World} {x:Sl Hd} {P:Nat→Prop} {B o:Nat} {vs:List Value} (h:HdsAt W x) (hb:x.Bk P) (hb2:∀y∈x.xs,y.Bk P) (hp:∀b,P b→b≠B):HdsAt (W.setCells B o vs) x:=
 ⟨Sl.At.put h.1 hb hp,fun y hy=>(h.2 y hy).on (by rw[zB];exact Nat.le_refl _) (hb2 y hy) (fun b hP _=>za5 (hp b hP))⟩
structure Cp where
 e:Int
 l:Int
 v:Int
 he:List Hp
def chS (s:Rst):Cp ×Rst:=
 (⟨(nuS 1048576 s).1,(nuS 64 (nuS 1048576 s).2).1,(nuS 1099511627776 (nuS 64 (nuS 1048576 s).2).2).1,(lsS 4 heS (nuS 1099511627776 (nuS 64 (nuS 1048576 s).2).2).2).1⟩,(lsS 4 heS (nuS 1099511627776 (nuS 64 (nuS 1048576 s).2).2).2).2)
theorem zmN (s:Rst):(chS s).2.1.length≤s.1.length:=Nat.le_trans (zc9 zgY _ _) (Nat.le_trans (zal _ _) (Nat.le_trans (zal _ _) (zal _ _)))
theorem zeroChE (w:World):(zeroValue 46).run prog w=.ok (.agg ([.int .i64 0,.int .i64 0,.int .i64 0,.slice none 0 0]:List Value).toArray) w:=by kernel_rfl
theorem iszHds:(prog.info? 44).map (·.size)=some 1:=by kernel_rfl
theorem zdo {W:World} {B:Nat} {a b c d:Value} (h:W.rangeAt B 0 [a,b,c,d]) (x:Value):
  (W.setCells B 0 [x]).rangeAt B 0 [x,b,c,d]∧(W.setCells B 1 [x]).rangeAt B 0 [a,x,c,d]∧(W.setCells B 2 [x]).rangeAt B 0 [a,b,x,d]∧(W.setCells B 3 [x]).rangeAt B 0 [a,b,c,x]:=
 ⟨zaa h 0 x,zaa h 1 x,zaa h 2 x,zaa h 3 x⟩
theorem rchangeS (Q R:Nat) (s:Rst) (w:World) (h:RS w Q R s) (hl:s.1.length≤40000):Calls prog 110 #[.pointer (some ⟨Q,0,none⟩)] w fun en w'=>∃x:Sl Hd,en=.returned (.agg ([.int .i64 (chS s).1.e,.int .i64 (chS s).1.l,.int .i64 (chS s).1.v,x.val]:List Value).toArray)∧x.xs.map Hd.pure=(chS s).1.he∧HdsAt w' x∧x.Bk (fun b=>w.heap.size≤b∧b<w'.heap.size)∧(∀y∈x.xs,y.Bk (fun b=>w.heap.size≤b∧b<w'.heap.size))∧RS w' Q R (chS s).2∧Kept w R Q w':=by
 obtain⟨zc,hzl,hzr,hzc⟩:∃z:List Value,z.length=4∧(∀w:World,(zeroValue 46).run prog w=.ok (.agg z.toArray) w)∧Hid (z=[.int .i64 0,.int .i64 0,.int .i64 0,.slice none 0 0]):=⟨_,rfl,zeroChE,hide rfl⟩
 have hRw:=h.st.1.1
 have hQw:=h.mr.lt
 unfold chS
 have c1:=fun w0 h0=>numRS Q R 1048576 s w0 h0
 have l1:=zal 1048576 s
 generalize nuS 1048576 s=p_ at c1 l1 ⊢
 obtain⟨v1,s1⟩:=p_
 simp only at c1 l1 ⊢
 have c2:=fun w0 h0=>numRS Q R 64 s1 w0 h0
 have l2:=zal 64 s1
 generalize nuS 64 s1=p_ at c2 l2 ⊢
 obtain⟨v2,s2⟩:=p_
 simp only at c2 l2 ⊢
 have c3:=fun w0 h0=>numRS Q R 1099511627776 s2 w0 h0
 have l3:=zal 1099511627776 s2
 generalize nuS 1099511627776 s2=p_ at c3 l3 ⊢
 obtain⟨v3,s3⟩:=p_
 simp only at c3 l3 ⊢
 have c4:=fun w0 h0=>zjJ Q R s3 w0 h0 (by omega)
 generalize lsS 4 heS s3=p_ at c4 ⊢
 obtain⟨ls,s4⟩:=p_
 simp only at c4 ⊢
 obtain⟨hB1,hr1,hs1⟩:=zA w zc 46
 have ht1:=zn w zc.toArray 46 (n:=4) (by simp[hzl])
 go_enter func110,ntmps110
 go_upto_region 0 with fail
 refine pl_b ?_
 refine pl_r 2 (.pointer (some ⟨w.heap.size,0,none⟩)) (w.alloc (.cells zc.toArray 46)) (zr rfl (hzr _)) ?_
 refine zb ?_
 obtain⟨W1,hW1⟩:∃W,w.alloc (.cells zc.toArray 46)=W:=⟨_,rfl⟩
 rw[hW1]at hB1 hr1 hs1 ht1 ⊢
 clear hW1 hr1
 obtain⟨hB2,hr2,hs2⟩:=zA W1 zc 46
 have ht2:=zn W1 zc.toArray 46 (n:=4) (by simp[hzl])
 go_upto_region 1 with fail
 refine pl_b ?_
 refine pl_r 3 (.pointer (some ⟨W1.heap.size,0,none⟩)) (W1.alloc (.cells zc.toArray 46)) (zr rfl (hzr _)) ?_
 refine zb ?_
 obtain⟨W2,hW2⟩:∃W,W1.alloc (.cells zc.toArray 46)=W:=⟨_,rfl⟩
 rw[hW2]at hB2 hr2 hs2 ht2 ⊢
 clear hW2
 rw[hzc.out]at hr2
 have hBW:=hB1.trans (hB2.mono hB1.size)
 have V0:MV w Q R w.heap.size W1.heap.size 4 _ s W2:=⟨hr2,ht2,zb8 ht1 hB2 hs1,(Kept.refl w R Q).below hBW,h.below hBW,Nat.lt_of_lt_of_le hs1 hB2.size,hs2,Nat.le_refl _,hB1.size,by omega,hRw,hQw⟩
 clear hr2 ht2 ht1 hzr hzc hzl hB1 hB2 hBW hs2 h
 go_upto_region 2 with fail
 have V8:=V0.drew
 refine zw (S:=(fun W'=>W'.cell? ⟨Q,0,none⟩=some (.pointer (some ⟨R,0,none⟩)))) 21 rfl (by kernel_rfl) ?_
 obtain⟨w8,hw8⟩:∃W,W2.drew=W:=⟨_,rfl⟩
 rw[hw8]at V8 ⊢
 clear hw8 V0
 have hS:(fun W'=>W'.cell? ⟨Q,0,none⟩=some (.pointer (some ⟨R,0,none⟩))) w8:=V8.rs.mr.c0
 refine hs_a 0 4 hS ?_
 refine hs_a 1 5 hS ?_
 refine hs_a 2 6 hS ?_
 refine hs_v 3 7 (.pointer (some ⟨R,0,none⟩)) rfl (fun w' hw=>zf rfl rfl hw underlying98 rfl) hS ?_
 refine hs_a 5 9 hS ?_
 refine hs_a 6 10 hS ?_
 refine hs_a 7 11 hS ?_
 refine hs_v 8 12 (.pointer (some ⟨R,0,none⟩)) rfl (fun w' hw=>zf rfl rfl hw underlying98 rfl) hS ?_
 refine hs_a 10 14 hS ?_
 refine hs_a 11 15 hS ?_
 refine hs_a 12 16 hS ?_
 refine hs_v 13 17 (.pointer (some ⟨R,0,none⟩)) rfl (fun w' hw=>zf rfl rfl hw underlying98 rfl) hS ?_
 refine hs_c 4 8 ?_
 refine(c1 w8 V8.rs).mono ?_
 rintro _ w5 ⟨rfl,S5,k5⟩
 have hS:(fun W'=>W'.cell? ⟨Q,0,none⟩=some (.pointer (some ⟨R,0,none⟩))) w5:=S5.mr.c0
 refine⟨_,rfl,hS,?_⟩
 simp only[nz]
 refine hs_a 15 19 hS ?_
 refine hs_c 9 13 ?_
 refine(c2 w5 S5).mono ?_
 rintro _ w6 ⟨rfl,S6,k6⟩
 have hS:(fun W'=>W'.cell? ⟨Q,0,none⟩=some (.pointer (some ⟨R,0,none⟩))) w6:=S6.mr.c0
 refine⟨_,rfl,hS,?_⟩
 simp only[nz]
 refine hs_c 14 18 ?_
 refine(c3 w6 S6).mono ?_
 rintro _ w7 ⟨rfl,S7,k7⟩
 have hS:(fun W'=>W'.cell? ⟨Q,0,none⟩=some (.pointer (some ⟨R,0,none⟩))) w7:=S7.mr.c0
 refine⟨_,rfl,hS,?_⟩
 simp only[nz]
 have V7:=((V8.on k5 S5).on k6 S6).on k7 S7
 have Va:=V7.set 0 [.int .i64 v1] ((zdo V7.row _).1)
 refine zG (i:=16) (w':=w7.setCells W1.heap.size 0 [.int .i64 v1]) rfl (by kernel_rfl) (by rfl) (zX (n:=4) rfl rfl rfl V7.box (by decide) iszI rfl rfl) rfl Va.rs.mr.c0 ?_
 obtain⟨w_16,hw_16⟩:∃W,w7.setCells W1.heap.size 0 [.int .i64 v1]=W:=⟨_,rfl⟩
 rw[hw_16]at Va ⊢
 clear hw_16
 have hS:(fun W'=>W'.cell? ⟨Q,0,none⟩=some (.pointer (some ⟨R,0,none⟩))) w_16:=Va.rs.mr.c0
 refine hs_a 17 20 hS ?_
 have Vb:=Va.set 1 [.int .i64 v2] ((zdo Va.row _).2.1)
 refine zG (i:=18) (w':=w_16.setCells W1.heap.size 1 [.int .i64 v2]) rfl (by kernel_rfl) (by rfl) (zX (n:=4) rfl rfl rfl Va.box (by decide) iszI rfl rfl) rfl Vb.rs.mr.c0 ?_
 obtain⟨w_18,hw_18⟩:∃W,w_16.setCells W1.heap.size 1 [.int .i64 v2]=W:=⟨_,rfl⟩
 rw[hw_18]at Vb ⊢
 clear hw_18
 have hS:(fun W'=>W'.cell? ⟨Q,0,none⟩=some (.pointer (some ⟨R,0,none⟩))) w_18:=Vb.rs.mr.c0
 refine hs_a 19 21 hS ?_
 have Vc:=Vb.set 2 [.int .i64 v3] ((zdo Vb.row _).2.2.1)
 refine zG (i:=20) (w':=w_18.setCells W1.heap.size 2 [.int .i64 v3]) rfl (by kernel_rfl) (by rfl) (zX (n:=4) rfl rfl rfl Vb.box (by decide) iszI rfl rfl) rfl Vc.rs.mr.c0 ?_
 obtain⟨w_20,hw_20⟩:∃W,w_18.setCells W1.heap.size 2 [.int .i64 v3]=W:=⟨_,rfl⟩
 rw[hw_20]at Vc ⊢
 clear hw_20
 have hS:(fun W'=>W'.cell? ⟨Q,0,none⟩=some (.pointer (some ⟨R,0,none⟩))) w_20:=Vc.rs.mr.c0
 refine zv (by kernel_rfl) ?_
 clear V7 Va Vb S5 S6 S7 k5 k6 k7 V8 hS c1 c2 c3
 go_upto_region 3 with fail
 refine pl_b ?_
 refine pl_a 22 ?_
 refine pl_a 23 ?_
 refine pl_a 24 ?_
 refine pl_v 25 (.pointer (some ⟨R,0,none⟩)) (zf rfl rfl Vc.rs.mr.c0 underlying98 rfl) ?_
 refine pl_a 26 ?_
 refine pl_a 27 ?_
 refine pl_a 28 ?_
 refine pl_c 29 ?_
 refine(c4 w_20 Vc.rs).mono ?_
 rintro _ wd ⟨x,rfl,hx,hA,hB,hB2,Sd,kd⟩
 refine⟨_,rfl,?_⟩
 simp only[nz]
 refine pl_a 30 ?_
 have Vd:=Vc.on kd Sd
 have Ve:=Vd.set 3 [x.val] (zdo Vd.row _).2.2.2
 refine pl_s (wd.setCells W1.heap.size 3 [x.val]) (zX (n:=4) rfl rfl rfl Vd.box (by decide) iszHds rfl rfl) ?_
 refine zb ?_
 have hne:∀b,w_20.heap.size≤b∧b<wd.heap.size→b≠W1.heap.size:=fun b hb=>by have:=Vc.lb;omega
 have hA1:HdsAt (wd.setCells W1.heap.size 3 [x.val]) x:=hA.put hB hB2 hne
 have kz:=Vc.kept.size
 obtain⟨we,hwe⟩:∃W,wd.setCells W1.heap.size 3 [x.val]=W:=⟨_,rfl⟩
 have hse:we.heap.size=wd.heap.size:=by rw[←hwe,zB]
 rw[hwe]at Ve hA1 ⊢
 clear hwe hA
 have rpc:=Ve.row
 have hpl:([.int .i64 v1,.int .i64 v2,.int .i64 v3,x.val]:List Value).length=4:=rfl
 have hip:(prog.info? 46).map (·.size)=some ([.int .i64 v1,.int .i64 v2,.int .i64 v3,x.val]:List Value).length:=iszCh
 have hp1:∀v∈([.int .i64 v1,.int .i64 v2,.int .i64 v3,x.val]:List Value),v.oneCell'=true:=by
  intro v hv
  simp only[List.mem_cons,List.not_mem_nil,or_false]at hv
  rcases hv with rfl|rfl|rfl|rfl<;>rfl
 obtain⟨pc,hpc⟩:∃p,Hid (([.int .i64 v1,.int .i64 v2,.int .i64 v3,x.val]:List Value)=p):=⟨_,hide rfl⟩
 rw[hpc.out]at hpl hip hp1 rpc
 go_upto_region 4 with fail
 refine pl_b ?_
 refine pl_v 31 (.agg pc.toArray) (zm rfl rfl rpc underlying46 rfl hip) ?_
 refine pl_s (we.setCells w.heap.size 0 pc) (zo (cs:=pc.toArray) rfl rfl rfl (by simpa [hpl]using Ve.ans) (by simpa using hip) (zp hp1)) ?_
 refine zb ?_
 have hlow:Below w.heap.size we (we.setCells w.heap.size 0 pc):=zi (Nat.le_refl _) pc 0 _ (Below.refl _ we)
 have hrs:=run_loadVar_mid (P:=prog) (we.setCells w.heap.size 0 pc) w.heap.size 0 46 pc _ (World.rangeAt_setCells_same we w.heap.size 0 pc (by rw[hpl];exact Ve.ans)) underlying46 rfl hip
 have HF:Hid (∃g:Sl Hd,Ending.returned (.agg pc.toArray)=.returned (.agg ([.int .i64 v1,.int .i64 v2,.int .i64 v3,g.val]:List Value).toArray)∧g.xs.map Hd.pure=ls∧HdsAt (we.setCells w.heap.size 0 pc) g∧g.Bk (fun b=>w.heap.size≤b∧b<(we.setCells w.heap.size 0 pc).heap.size)∧(∀y∈g.xs,y.Bk (fun b=>w.heap.size≤b∧b<(we.setCells w.heap.size 0 pc).heap.size))∧RS (we.setCells w.heap.size 0 pc) Q R s4∧Kept w R Q (we.setCells w.heap.size 0 pc)):=by
  have la:=Vc.la
  refine hide ⟨x,by rw[hpc.out],hx,hA1.put hB hB2 (fun b hb=>by omega),hB.mono (fun b hb=>⟨by omega,by rw[zB];omega⟩),fun y hy=>(hB2 y hy).mono (fun b hb=>⟨by omega,by rw[zB];omega⟩),Ve.rs.low hlow hQw,Ve.kept.low hlow (Nat.le_refl _)⟩
 clear Ve hlow rpc hA1 hB hB2 Vd Vc Sd kd
 go_wp2_with fail
 refine bodyPost_ret (v:=.agg pc.toArray) ?_ rfl ?_
 ·simp[results,results110,Act.put,asAddr,hrs]
 ·exact HF.out
structure Mp where
 k:Int
 e:Int
 l:Int
 v:Int
 s:Int
 q:Bool
 rs:List Rq
 vt:Vt
 ce:Int
 cl:Int
 cv:Int
 he:List Hp
 ne:List Ev
 d:List Int
 ct:Vt
 cs:List Sg
 st:ByteArray
 sg:List Sg
def Mg.pure (m:Mg):Mp:=⟨m.k,m.e,m.l,m.v,m.s,m.q,m.rs.xs,m.vt,m.ce,m.cl,m.cv,m.he.xs.map Hd.pure,m.ne.xs,m.d,m.ct,m.cs.xs,m.st,m.sg.xs⟩
def mg1 (s:Rst):Mp ×Rst:=(⟨1,(nuS 1048576 s).1,0,0,(nuS 1099511627776 (nuS 1048576 s).2).1,(baS (nuS 1099511627776 (nuS 1048576 s).2).2).1.1,(baS (nuS 1099511627776 (nuS 1048576 s).2).2).1.2,Vt.zero,0,0,0,[],[],zd,Vt.zero,[],⟨#[]⟩,[]⟩,(baS (nuS 1099511627776 (nuS 1048576 s).2).2).2)
def mg2 (s:Rst):Mp ×Rst:=(⟨2,0,0,0,0,false,[],(voS s).1,0,0,0,[],[],zd,Vt.zero,[],⟨#[]⟩,[]⟩,(voS s).2)
def mg3 (s:Rst):Mp ×Rst:=(⟨3,0,0,0,0,false,[],Vt.zero,(chS s).1.e,(chS s).1.l,(chS s).1.v,(chS s).1.he,[],zd,Vt.zero,[],⟨#[]⟩,[]⟩,(chS s).2)
def mg4 (s:Rst):Mp ×Rst:=(⟨4,(nuS 1048576 s).1,(nuS 64 (nuS 1048576 s).2).1,(nuS 1099511627776 (nuS 64 (nuS 1048576 s).2).2).1,0,false,[],Vt.zero,0,0,0,[],(lsS 64 enS (nuS 1099511627776 (nuS 64 (nuS 1048576 s).2).2).2).1,zd,Vt.zero,[],⟨#[]⟩,[]⟩,(lsS 64 enS (nuS 1099511627776 (nuS 64 (nuS 1048576 s).2).2).2).2)
def mg5 (s:Rst):Mp ×Rst:=(⟨5,(nuS 1048576 s).1,0,0,0,false,[],Vt.zero,0,0,0,[],[],(dgS (nuS 1048576 s).2).1,Vt.zero,[],⟨#[]⟩,[]⟩,(dgS (nuS 1048576 s).2).2)
def mg6 (s:Rst):Mp ×Rst:=(⟨6,(nuS 1048576 s).1,0,0,(nuS 1099511627776 (nuS 1048576 s).2).1,false,[],Vt.zero,0,0,0,[],[],zd,Vt.zero,[],⟨#[]⟩,[]⟩,(nuS 1099511627776 (nuS 1048576 s).2).2)
def mg7 (s:Rst):Mp ×Rst:=(⟨7,0,0,0,0,(baS s).1.1,(baS s).1.2,Vt.zero,0,0,0,[],[],zd,(ceS (baS s).2).1.1,(ceS (baS s).2).1.2,⟨#[]⟩,[]⟩,(ceS (baS s).2).2)
def mg8 (s:Rst):Mp ×Rst:=(⟨8,0,0,0,0,false,[],Vt.zero,0,0,0,[],[],zd,Vt.zero,[],(txS 4194304 s).1,(lsS 64 siS (txS 4194304 s).2).1⟩,(lsS 64 siS (txS 4194304 s).2).2)
def mgF (k:Int) (s:Rst):Mp ×Rst:=if k=1 then mg1 s else if k=2 then mg2 s else if k=3 then mg3 s else if k=4 then mg4 s else if k=5 then mg5 s else if k=6 then mg6 s else if k=7 then mg7 s else if k=8 then mg8 s else(⟨k,0,0,0,0,false,[],Vt.zero,0,0,0,[],[],zd,Vt.zero,[],⟨#[]⟩,[]⟩,s)
def mgS (s:Rst):Mp ×Rst:=mgF (kiS 8 s).1 (kiS 8 s).2
theorem iszEvs:(prog.info? 47).map (·.size)=some 1:=by kernel_rfl
theorem iszSgs:(prog.info? 48).map (·.size)=some 1:=by kernel_rfl
theorem iszStr:(prog.info? 9).map (·.size)=some 1:=by kernel_rfl
theorem zQ (k:Int):(Ms.plain k 0 0 Vt.zero zd).ok:=Ms.plain_ok k 0 0 Vt.zero_ok zt zx
def Mg.Bk (m:Mg) (P:Nat→Prop):Prop:=m.rs.Bk P∧m.he.Bk P∧(∀y∈m.he.xs,y.Bk P)∧m.ne.Bk P∧m.cs.Bk P∧m.sg.Bk P
theorem zD {α:Type} {P:Nat→Prop}:(⟨none,0,[]⟩:Sl α).Bk P:=fun b h=>absurd rfl h
theorem za8 {P:Nat→Prop}:∀y∈(⟨none,0,[]⟩:Sl Hd).xs,y.Bk P:=fun y h=>by cases h
theorem zaW {W:World} {m:Mg} (h1:m.rs.At RqE W) (h2:HdsAt W m.he) (h3:m.ne.At EvE W) (h4:m.cs.At SgE W) (h5:m.sg.At SgE W):m.At W:=⟨h1,h2,h3,h4,h5⟩
theorem zjI (Q R:Nat) (s:Rst) (w:World) (h:RS w Q R s) (hl:s.1.length≤40000) (n1:(kiS 8 s).1≠1) (n2:(kiS 8 s).1≠2) (n3:(kiS 8 s).1≠3) (n4:(kiS 8 s).1≠4) (n5:(kiS 8 s).1≠5) (n6:(kiS 8 s).1≠6) (n7:(kiS 8 s).1≠7) (n8:(kiS 8 s).1≠8):Calls prog 66 #[.pointer (some ⟨Q,0,none⟩)] w fun en w'=>∃m:Mg,en=.returned (.agg m.ms.cells.toArray)∧m.pure=((⟨(kiS 8 s).1,0,0,0,0,false,[],Vt.zero,0,0,0,[],[],zd,Vt.zero,[],⟨#[]⟩,[]⟩,(kiS 8 s).2):Mp ×Rst).1∧m.ok∧m.At w'∧m.Bk (fun b=>w.heap.size≤b)∧RS w' Q R ((⟨(kiS 8 s).1,0,0,0,0,false,[],Vt.zero,0,0,0,[],[],zd,Vt.zero,[],⟨#[]⟩,[]⟩,(kiS 8 s).2):Mp ×Rst).2∧Kept w R Q w':=by
 have hRw:=h.st.1.1
 have hQw:=h.mr.lt
 have ck:=fun w0 h0=>kindRS Q R 8 s w0 h0
 have l0:=za9 8 s
 generalize kiS 8 s=p_ at ck l0 n1 n2 n3 n4 n5 n6 n7 n8 ⊢
 obtain⟨k,s0⟩:=p_
 simp only at ck l0 n1 n2 n3 n4 n5 n6 n7 n8 ⊢
 have b1:(k==1)=false:=by simpa using n1
 have b2:(k==2)=false:=by simpa using n2
 have b3:(k==3)=false:=by simpa using n3
 have b4:(k==4)=false:=by simpa using n4
 have b5:(k==5)=false:=by simpa using n5
 have b6:(k==6)=false:=by simpa using n6
 have b7:(k==7)=false:=by simpa using n7
 have b8:(k==8)=false:=by simpa using n8
 clear n1 n2 n3 n4 n5 n6 n7 n8
 obtain⟨zc,hzl,hzr⟩:∃z:List Value,z.length=119∧∀w:World,(zeroValue 52).run prog w=.ok (.agg z.toArray) w:=⟨_,(Ms.plain_ok 0 0 0 Vt.zero_ok zt zx).len,zeroM⟩
 have hbk:=zao k
 have hql:=(zQ k).len
 have hq1:=(zQ k).one
 have hiq:(prog.info? 52).map (·.size)=some (Ms.plain k 0 0 Vt.zero zd).cells.length:=by rw[hql];exact iszM
 have hk0:∀(w':World) b,w'.rangeAt b 0 (Ms.plain k 0 0 Vt.zero zd).cells→w'.cell? ⟨b,0,none⟩=some (.int .i64 k):=fun w' b h=>((zQ k).at h).k
 obtain⟨qk,hqk⟩:∃q,Hid ((Ms.plain k 0 0 Vt.zero zd).cells=q):=⟨_,hide rfl⟩
 simp only[hqk.out]at hbk hql hq1 hiq hk0
 obtain⟨hB1,hr1,hs1⟩:=zA w zc 52
 have ht1:=zn w zc.toArray 52 (n:=119) (by simp[hzl])
 go_enter func66,ntmps66
 go_upto_region 0 with fail
 refine pl_b ?_
 refine pl_r 2 (.pointer (some ⟨w.heap.size,0,none⟩)) (w.alloc (.cells zc.toArray 52)) (zr rfl (hzr _)) ?_
 refine zb ?_
 obtain⟨W1,hW1⟩:∃W,w.alloc (.cells zc.toArray 52)=W:=⟨_,rfl⟩
 rw[hW1]at hB1 hr1 hs1 ht1 ⊢
 clear hW1 hr1
 have S1:=h.below hB1
 go_upto_region 1 with fail
 refine pl_b ?_
 refine pl_a 4 ?_
 refine pl_c 5 ?_
 refine(ck W1 S1).mono ?_
 rintro _ w2 ⟨rfl,S2,k2⟩
 refine⟨_,rfl,?_⟩
 simp only[nz]
 refine pl_v 6 (.agg qk.toArray) (zT (parts:=[(0,.tmp 5)]) rfl rfl (hbk _)) ?_
 refine pl_r 3 (.pointer (some ⟨w2.heap.size,0,none⟩)) (w2.alloc (.cells zc.toArray 52)) (zr rfl (hzr _)) ?_
 refine pl_s ((w2.alloc (.cells zc.toArray 52)).setCells w2.heap.size 0 qk) (zo (cs:=qk.toArray) rfl rfl rfl (zn _ _ _ (by simp[hzl,hql])) (by simpa using hiq) (zp hq1)) ?_
 refine zb ?_
 obtain⟨hF1,hF2,hF3,-⟩:=zq w2 zc.toArray 52 qk (by simp[hzl,hql])
 have hF4:=World.there_setCells (zn w2 zc.toArray 52 (n:=119) (by simp[hzl])) w2.heap.size 0 qk
 obtain⟨w3,hw3⟩:∃W,(w2.alloc (.cells zc.toArray 52)).setCells w2.heap.size 0 qk=W:=⟨_,rfl⟩
 rw[hw3]at hF1 hF2 hF3 hF4 ⊢
 clear hw3
 have hc0:=hk0 _ _ hF1
 have k3:Kept w R Q w3:=(((Kept.refl w R Q).below hB1).trans k2).below hF2
 have z2:=k2.size
 rw[←hqk.out]at hF1
 have V3:MV w Q R w.heap.size w2.heap.size 119 (Ms.plain k 0 0 Vt.zero zd).cells s0 w3:=⟨hF1,hF4,zg (zY ht1 (k2.block _ hs1 (by omega) (by omega))) hF2 (by omega),k3,S2.below hF2,by have:=hF2.size;omega,by omega,Nat.le_refl _,by have:=hB1.size;omega,by omega,hRw,hQw⟩
 have hww:w.heap.size<w2.heap.size:=by omega
 clear hF1 hF2 hF4 ht1 hB1 S1 S2 k2 k3 hk0 hbk hql hq1 hiq hqk h ck hzr hzl
 go_upto_region 2 with fail
 refine pl_b ?_
 refine pl_a 7 ?_
 refine pl_v 8 (.int .i64 k) (zf rfl rfl hc0 underlying3 rfl) ?_
 refine zb ?_
 clear hc0
 have Ve:=V3
 have rpc:=Ve.row
 have hmo:Mg.ok ⟨k,0,0,0,0,false,⟨none,0,[]⟩,Vt.zero,0,0,0,⟨none,0,[]⟩,⟨none,0,[]⟩,zd,Vt.zero,⟨none,0,[]⟩,⟨#[]⟩,⟨none,0,[]⟩⟩:=⟨Vt.zero_ok,Vt.zero_ok,zt,zx⟩
 have hpl:(Mg.ms ⟨k,0,0,0,0,false,⟨none,0,[]⟩,Vt.zero,0,0,0,⟨none,0,[]⟩,⟨none,0,[]⟩,zd,Vt.zero,⟨none,0,[]⟩,⟨#[]⟩,⟨none,0,[]⟩⟩).cells.length=119:=hmo.ms.len
 have hp1:=hmo.ms.one
 have hip:(prog.info? 52).map (·.size)=some (Mg.ms ⟨k,0,0,0,0,false,⟨none,0,[]⟩,Vt.zero,0,0,0,⟨none,0,[]⟩,⟨none,0,[]⟩,zd,Vt.zero,⟨none,0,[]⟩,⟨#[]⟩,⟨none,0,[]⟩⟩).cells.length:=by rw[hpl];exact iszM
 have rpc:w3.rangeAt w2.heap.size 0 (Mg.ms ⟨k,0,0,0,0,false,⟨none,0,[]⟩,Vt.zero,0,0,0,⟨none,0,[]⟩,⟨none,0,[]⟩,zd,Vt.zero,⟨none,0,[]⟩,⟨#[]⟩,⟨none,0,[]⟩⟩).cells:=rpc
 obtain⟨pc,hpc⟩:∃p,Hid ((Mg.ms ⟨k,0,0,0,0,false,⟨none,0,[]⟩,Vt.zero,0,0,0,⟨none,0,[]⟩,⟨none,0,[]⟩,zd,Vt.zero,⟨none,0,[]⟩,⟨#[]⟩,⟨none,0,[]⟩⟩).cells=p):=⟨_,hide rfl⟩
 simp only[hpc.out]at hpl hip hp1 rpc
 go_upto_region 22 with fail
 refine pl_b ?_
 refine pl_v 121 (.agg pc.toArray) (zm rfl rfl rpc underlying52 rfl hip) ?_
 refine pl_s (w3.setCells w.heap.size 0 pc) (zo (cs:=pc.toArray) rfl rfl rfl (by simpa [hpl]using Ve.ans) (by simpa using hip) (zp hp1)) ?_
 refine zb ?_
 have hlow:Below w.heap.size w3 (w3.setCells w.heap.size 0 pc):=zi (Nat.le_refl _) pc 0 _ (Below.refl _ w3)
 have hrs:=run_loadVar_mid (P:=prog) (w3.setCells w.heap.size 0 pc) w.heap.size 0 52 pc _ (World.rangeAt_setCells_same w3 w.heap.size 0 pc (by rw[hpl];exact Ve.ans)) underlying52 rfl hip
 have HF:Hid (∃m:Mg,Ending.returned (.agg pc.toArray)=.returned (.agg m.ms.cells.toArray)∧m.pure=(⟨k,0,0,0,0,false,[],Vt.zero,0,0,0,[],[],zd,Vt.zero,[],⟨#[]⟩,[]⟩:Mp)∧m.ok∧m.At (w3.setCells w.heap.size 0 pc)∧m.Bk (fun b=>w.heap.size≤b)∧RS (w3.setCells w.heap.size 0 pc) Q R s0∧Kept w R Q (w3.setCells w.heap.size 0 pc)):=hide ⟨⟨k,0,0,0,0,false,⟨none,0,[]⟩,Vt.zero,0,0,0,⟨none,0,[]⟩,⟨none,0,[]⟩,zd,Vt.zero,⟨none,0,[]⟩,⟨#[]⟩,⟨none,0,[]⟩⟩,by rw[hpc.out],rfl,hmo,zaW RowsAt.none zan RowsAt.none RowsAt.none RowsAt.none,⟨zD,zD,za8,zD,zD,zD⟩,Ve.rs.low hlow hQw,Ve.kept.low hlow (Nat.le_refl _)⟩
 clear Ve hlow rpc hpc hmo V3
 go_wp2_with fail
 refine bodyPost_ret (v:=.agg pc.toArray) ?_ rfl ?_
 ·simp[results,results66,Act.put,asAddr,hrs]
 ·exact HF.out
theorem zjH (Q R:Nat) (s:Rst) (w:World) (h:RS w Q R s) (hl:s.1.length≤40000) (hk:(kiS 8 s).1=1):Calls prog 66 #[.pointer (some ⟨Q,0,none⟩)] w fun en w'=>∃m:Mg,en=.returned (.agg m.ms.cells.toArray)∧m.pure=(mg1 (kiS 8 s).2).1∧m.ok∧m.At w'∧m.Bk (fun b=>w.heap.size≤b)∧RS w' Q R (mg1 (kiS 8 s).2).2∧Kept w R Q w':=by
 have hRw:=h.st.1.1
 have hQw:=h.mr.lt
 have ck:=fun w0 h0=>kindRS Q R 8 s w0 h0
 have l0:=za9 8 s
 unfold mg1
 generalize kiS 8 s=p_ at ck l0 hk ⊢
 obtain⟨k,s0⟩:=p_
 simp only at ck l0 hk ⊢
 subst hk
 have c_a:=fun w0 h0=>numRS Q R 1048576 s0 w0 h0
 have l_a:(nuS 1048576 s0).2.1.length≤s0.1.length:=zal _ _
 generalize nuS 1048576 s0=p_ at c_a l_a ⊢
 obtain⟨v_a,s_a⟩:=p_
 simp only at c_a l_a ⊢
 have c_b:=fun w0 h0=>numRS Q R 1099511627776 s_a w0 h0
 have l_b:(nuS 1099511627776 s_a).2.1.length≤s_a.1.length:=zal _ _
 generalize nuS 1099511627776 s_a=p_ at c_b l_b ⊢
 obtain⟨v_b,s_b⟩:=p_
 simp only at c_b l_b ⊢
 have c_c:=fun w0 h0=>bgetS Q R s_b w0 h0 (by omega)
 have l_c:(baS s_b).2.1.length≤s_b.1.length:=zdr _
 generalize baS s_b=p_ at c_c l_c ⊢
 obtain⟨⟨q_c,rs_c⟩,s_c⟩:=p_
 simp only at c_c l_c ⊢
 obtain⟨zc,hzl,hzr⟩:∃z:List Value,z.length=119∧∀w:World,(zeroValue 52).run prog w=.ok (.agg z.toArray) w:=⟨_,(Ms.plain_ok 0 0 0 Vt.zero_ok zt zx).len,zeroM⟩
 have hbk:=zao 1
 have hql:=(zQ 1).len
 have hq1:=(zQ 1).one
 have hiq:(prog.info? 52).map (·.size)=some (Ms.plain 1 0 0 Vt.zero zd).cells.length:=by rw[hql];exact iszM
 have hk0:∀(w':World) b,w'.rangeAt b 0 (Ms.plain 1 0 0 Vt.zero zd).cells→w'.cell? ⟨b,0,none⟩=some (.int .i64 1):=fun w' b h=>((zQ 1).at h).k
 obtain⟨qk,hqk⟩:∃q,Hid ((Ms.plain 1 0 0 Vt.zero zd).cells=q):=⟨_,hide rfl⟩
 simp only[hqk.out]at hbk hql hq1 hiq hk0
 obtain⟨hB1,hr1,hs1⟩:=zA w zc 52
 have ht1:=zn w zc.toArray 52 (n:=119) (by simp[hzl])
 go_enter func66,ntmps66
 go_upto_region 0 with fail
 refine pl_b ?_
 refine pl_r 2 (.pointer (some ⟨w.heap.size,0,none⟩)) (w.alloc (.cells zc.toArray 52)) (zr rfl (hzr _)) ?_
 refine zb ?_
 obtain⟨W1,hW1⟩:∃W,w.alloc (.cells zc.toArray 52)=W:=⟨_,rfl⟩
 rw[hW1]at hB1 hr1 hs1 ht1 ⊢
 clear hW1 hr1
 have S1:=h.below hB1
 go_upto_region 1 with fail
 refine pl_b ?_
 refine pl_a 4 ?_
 refine pl_c 5 ?_
 refine(ck W1 S1).mono ?_
 rintro _ w2 ⟨rfl,S2,k2⟩
 refine⟨_,rfl,?_⟩
 simp only[nz]
 refine pl_v 6 (.agg qk.toArray) (zT (parts:=[(0,.tmp 5)]) rfl rfl (hbk _)) ?_
 refine pl_r 3 (.pointer (some ⟨w2.heap.size,0,none⟩)) (w2.alloc (.cells zc.toArray 52)) (zr rfl (hzr _)) ?_
 refine pl_s ((w2.alloc (.cells zc.toArray 52)).setCells w2.heap.size 0 qk) (zo (cs:=qk.toArray) rfl rfl rfl (zn _ _ _ (by simp[hzl,hql])) (by simpa using hiq) (zp hq1)) ?_
 refine zb ?_
 obtain⟨hF1,hF2,hF3,-⟩:=zq w2 zc.toArray 52 qk (by simp[hzl,hql])
 have hF4:=World.there_setCells (zn w2 zc.toArray 52 (n:=119) (by simp[hzl])) w2.heap.size 0 qk
 obtain⟨w3,hw3⟩:∃W,(w2.alloc (.cells zc.toArray 52)).setCells w2.heap.size 0 qk=W:=⟨_,rfl⟩
 rw[hw3]at hF1 hF2 hF3 hF4 ⊢
 clear hw3
 have hc0:=hk0 _ _ hF1
 have k3:Kept w R Q w3:=(((Kept.refl w R Q).below hB1).trans k2).below hF2
 have z2:=k2.size
 rw[←hqk.out]at hF1
 have V3:MV w Q R w.heap.size w2.heap.size 119 (Ms.plain 1 0 0 Vt.zero zd).cells s0 w3:=⟨hF1,hF4,zg (zY ht1 (k2.block _ hs1 (by omega) (by omega))) hF2 (by omega),k3,S2.below hF2,by have:=hF2.size;omega,by omega,Nat.le_refl _,by have:=hB1.size;omega,by omega,hRw,hQw⟩
 have hww:w.heap.size<w2.heap.size:=by omega
 clear hF1 hF2 hF4 ht1 hB1 S1 S2 k2 k3 hk0 hbk hql hq1 hiq hqk h ck hzr hzl
 go_upto_region 2 with fail
 refine pl_b ?_
 refine pl_a 7 ?_
 refine pl_v 8 (.int .i64 1) (zf rfl rfl hc0 underlying3 rfl) ?_
 refine zb ?_
 clear hc0
 go_upto_region 4 with fail
 have V8:=V3.drew
 refine zw (S:=(fun W'=>W'.cell? ⟨Q,0,none⟩=some (.pointer (some ⟨R,0,none⟩)))) 14 rfl (by kernel_rfl) ?_
 obtain⟨w8,hw8⟩:∃W,w3.drew=W:=⟨_,rfl⟩
 rw[hw8]at V8 ⊢
 clear hw8 V3
 have hS:(fun W'=>W'.cell? ⟨Q,0,none⟩=some (.pointer (some ⟨R,0,none⟩))) w8:=V8.rs.mr.c0
 refine hs_a 0 11 hS ?_
 refine hs_a 1 12 hS ?_
 refine hs_a 2 13 hS ?_
 refine hs_v 3 14 (.pointer (some ⟨R,0,none⟩)) rfl (fun w' hw=>zf rfl rfl hw underlying98 rfl) hS ?_
 refine hs_a 5 16 hS ?_
 refine hs_a 6 17 hS ?_
 refine hs_a 7 18 hS ?_
 refine hs_v 8 19 (.pointer (some ⟨R,0,none⟩)) rfl (fun w' hw=>zf rfl rfl hw underlying98 rfl) hS ?_
 refine hs_c 4 15 ?_
 refine(c_a w8 V8.rs).mono ?_
 rintro _ w5 ⟨rfl,S5,k5⟩
 have hS:(fun W'=>W'.cell? ⟨Q,0,none⟩=some (.pointer (some ⟨R,0,none⟩))) w5:=S5.mr.c0
 refine⟨_,rfl,hS,?_⟩
 simp only[nz]
 refine hs_a 10 21 hS ?_
 refine hs_c 9 20 ?_
 refine(c_b w5 S5).mono ?_
 rintro _ w6 ⟨rfl,S6,k6⟩
 have hS:(fun W'=>W'.cell? ⟨Q,0,none⟩=some (.pointer (some ⟨R,0,none⟩))) w6:=S6.mr.c0
 refine⟨_,rfl,hS,?_⟩
 simp only[nz]
 have V_0:=((V8.on k5 S5).on k6 S6)
 have V_1:=V_0.set 1 [.int .i64 v_a] (zbi v_a V_0.row (V_0.part 1 1 (by decide)))
 refine zG (i:=11) (w':=w6.setCells w2.heap.size 1 [.int .i64 v_a]) rfl (by kernel_rfl) (by rfl) (zX (n:=119) rfl rfl rfl V_0.box (by decide) iszI rfl rfl) rfl V_1.rs.mr.c0 ?_
 obtain⟨w_11,hw_11⟩:∃W,w6.setCells w2.heap.size 1 [.int .i64 v_a]=W:=⟨_,rfl⟩
 rw[hw_11]at V_1 ⊢
 clear hw_11
 have hS:(fun W'=>W'.cell? ⟨Q,0,none⟩=some (.pointer (some ⟨R,0,none⟩))) w_11:=V_1.rs.mr.c0
 refine hs_a 12 22 hS ?_
 have V_2:=V_1.set 4 [.int .i64 v_b] (zcW v_b V_1.row (V_1.part 4 1 (by decide)))
 refine zG (i:=13) (w':=w_11.setCells w2.heap.size 4 [.int .i64 v_b]) rfl (by kernel_rfl) (by rfl) (zX (n:=119) rfl rfl rfl V_1.box (by decide) iszI rfl rfl) rfl V_2.rs.mr.c0 ?_
 obtain⟨w_13,hw_13⟩:∃W,w_11.setCells w2.heap.size 4 [.int .i64 v_b]=W:=⟨_,rfl⟩
 rw[hw_13]at V_2 ⊢
 clear hw_13
 have hS:(fun W'=>W'.cell? ⟨Q,0,none⟩=some (.pointer (some ⟨R,0,none⟩))) w_13:=V_2.rs.mr.c0
 refine zv (by kernel_rfl) ?_
 clear hS V8 S5 k5 S6 k6 V_0 V_1 c_a c_b
 go_upto_region 5 with fail
 refine pl_b ?_
 refine pl_a 23 ?_
 refine pl_a 24 ?_
 refine pl_a 25 ?_
 refine pl_v 26 (.pointer (some ⟨R,0,none⟩)) (zf rfl rfl V_2.rs.mr.c0 underlying98 rfl) ?_
 refine pl_c 27 ?_
 refine(c_c w_13 V_2.rs).mono ?_
 rintro _ wd ⟨x,rfl,hx,hA,hB,Sd,kd⟩
 refine⟨_,rfl,?_⟩
 simp only[nz]
 refine pl_a 28 ?_
 have Vd:=V_2.on kd Sd
 have Ve:=Vd.set 5 [.bool q_c,x.val] (zcX q_c x.val Vd.row (Vd.part 5 2 (by decide)))
 have lb:=V_2.lb
 have la:=V_2.la
 have na:=V_2.kept.size
 refine pl_s (wd.setCells w2.heap.size 5 [.bool q_c,x.val]) (zo (cs:=#[.bool q_c,x.val]) rfl rfl rfl (Vd.part 5 2 (by decide)) iszBa (by simp[Value.oneCell',Sl.val])) ?_
 refine zb ?_
 have hA1:=hA.put (B:=w2.heap.size) (o:=5) (vs:=[.bool q_c,x.val]) hB (fun b hb=>by omega)
 obtain⟨we,hwe⟩:∃W,wd.setCells w2.heap.size 5 [.bool q_c,x.val]=W:=⟨_,rfl⟩
 rw[hwe]at Ve hA1 ⊢
 clear hwe
 clear Vd Sd kd V_2 hA
 have rpc:=Ve.row
 have hmo:Mg.ok ⟨1,v_a,0,0,v_b,q_c,x,Vt.zero,0,0,0,⟨none,0,[]⟩,⟨none,0,[]⟩,zd,Vt.zero,⟨none,0,[]⟩,⟨#[]⟩,⟨none,0,[]⟩⟩:=⟨Vt.zero_ok,Vt.zero_ok,zt,zx⟩
 have hpl:(Mg.ms ⟨1,v_a,0,0,v_b,q_c,x,Vt.zero,0,0,0,⟨none,0,[]⟩,⟨none,0,[]⟩,zd,Vt.zero,⟨none,0,[]⟩,⟨#[]⟩,⟨none,0,[]⟩⟩).cells.length=119:=hmo.ms.len
 have hp1:=hmo.ms.one
 have hip:(prog.info? 52).map (·.size)=some (Mg.ms ⟨1,v_a,0,0,v_b,q_c,x,Vt.zero,0,0,0,⟨none,0,[]⟩,⟨none,0,[]⟩,zd,Vt.zero,⟨none,0,[]⟩,⟨#[]⟩,⟨none,0,[]⟩⟩).cells.length:=by rw[hpl];exact iszM
 have rpc:we.rangeAt w2.heap.size 0 (Mg.ms ⟨1,v_a,0,0,v_b,q_c,x,Vt.zero,0,0,0,⟨none,0,[]⟩,⟨none,0,[]⟩,zd,Vt.zero,⟨none,0,[]⟩,⟨#[]⟩,⟨none,0,[]⟩⟩).cells:=rpc
 obtain⟨pc,hpc⟩:∃p,Hid ((Mg.ms ⟨1,v_a,0,0,v_b,q_c,x,Vt.zero,0,0,0,⟨none,0,[]⟩,⟨none,0,[]⟩,zd,Vt.zero,⟨none,0,[]⟩,⟨#[]⟩,⟨none,0,[]⟩⟩).cells=p):=⟨_,hide rfl⟩
 simp only[hpc.out]at hpl hip hp1 rpc
 go_upto_region 22 with fail
 refine pl_b ?_
 refine pl_v 121 (.agg pc.toArray) (zm rfl rfl rpc underlying52 rfl hip) ?_
 refine pl_s (we.setCells w.heap.size 0 pc) (zo (cs:=pc.toArray) rfl rfl rfl (by simpa [hpl]using Ve.ans) (by simpa using hip) (zp hp1)) ?_
 refine zb ?_
 have hlow:Below w.heap.size we (we.setCells w.heap.size 0 pc):=zi (Nat.le_refl _) pc 0 _ (Below.refl _ we)
 have hrs:=run_loadVar_mid (P:=prog) (we.setCells w.heap.size 0 pc) w.heap.size 0 52 pc _ (World.rangeAt_setCells_same we w.heap.size 0 pc (by rw[hpl];exact Ve.ans)) underlying52 rfl hip
 have HF:Hid (∃m:Mg,Ending.returned (.agg pc.toArray)=.returned (.agg m.ms.cells.toArray)∧m.pure=(⟨1,v_a,0,0,v_b,q_c,rs_c,Vt.zero,0,0,0,[],[],zd,Vt.zero,[],⟨#[]⟩,[]⟩:Mp)∧m.ok∧m.At (we.setCells w.heap.size 0 pc)∧m.Bk (fun b=>w.heap.size≤b)∧RS (we.setCells w.heap.size 0 pc) Q R s_c∧Kept w R Q (we.setCells w.heap.size 0 pc)):=hide ⟨⟨1,v_a,0,0,v_b,q_c,x,Vt.zero,0,0,0,⟨none,0,[]⟩,⟨none,0,[]⟩,zd,Vt.zero,⟨none,0,[]⟩,⟨#[]⟩,⟨none,0,[]⟩⟩,by rw[hpc.out],by rw[←hx];rfl,hmo,zaW (hA1.put hB (fun b hb=>by omega)) zan RowsAt.none RowsAt.none RowsAt.none,⟨hB.mono (fun b hb=>by omega),zD,za8,zD,zD,zD⟩,Ve.rs.low hlow hQw,Ve.kept.low hlow (Nat.le_refl _)⟩
 clear Ve hlow rpc hpc hmo hA1 hB hx
 go_wp2_with fail
 refine bodyPost_ret (v:=.agg pc.toArray) ?_ rfl ?_
 ·simp[results,results66,Act.put,asAddr,hrs]
 ·exact HF.out
theorem zjG (Q R:Nat) (s:Rst) (w:World) (h:RS w Q R s) (hl:s.1.length≤40000) (hk:(kiS 8 s).1=2):Calls prog 66 #[.pointer (some ⟨Q,0,none⟩)] w fun en w'=>∃m:Mg,en=.returned (.agg m.ms.cells.toArray)∧m.pure=(mg2 (kiS 8 s).2).1∧m.ok∧m.At w'∧m.Bk (fun b=>w.heap.size≤b)∧RS w' Q R (mg2 (kiS 8 s).2).2∧Kept w R Q w':=by
 have hRw:=h.st.1.1
 have hQw:=h.mr.lt
 have ck:=fun w0 h0=>kindRS Q R 8 s w0 h0
 have l0:=za9 8 s
 unfold mg2
 generalize kiS 8 s=p_ at ck l0 hk ⊢
 obtain⟨k,s0⟩:=p_
 simp only at ck l0 hk ⊢
 subst hk
 have c_a:=fun w0 h0=>rvoteS Q R s0 w0 h0 (by omega)
 have l_a:(voS s0).2.1.length≤s0.1.length:=zdy _
 have ok_a:=fun hb=>zfa s0 hb
 generalize voS s0=p_ at c_a l_a ok_a ⊢
 obtain⟨v_a,s_a⟩:=p_
 simp only at c_a l_a ok_a ⊢
 obtain⟨zc,hzl,hzr⟩:∃z:List Value,z.length=119∧∀w:World,(zeroValue 52).run prog w=.ok (.agg z.toArray) w:=⟨_,(Ms.plain_ok 0 0 0 Vt.zero_ok zt zx).len,zeroM⟩
 have hbk:=zao 2
 have hql:=(zQ 2).len
 have hq1:=(zQ 2).one
 have hiq:(prog.info? 52).map (·.size)=some (Ms.plain 2 0 0 Vt.zero zd).cells.length:=by rw[hql];exact iszM
 have hk0:∀(w':World) b,w'.rangeAt b 0 (Ms.plain 2 0 0 Vt.zero zd).cells→w'.cell? ⟨b,0,none⟩=some (.int .i64 2):=fun w' b h=>((zQ 2).at h).k
 obtain⟨qk,hqk⟩:∃q,Hid ((Ms.plain 2 0 0 Vt.zero zd).cells=q):=⟨_,hide rfl⟩
 simp only[hqk.out]at hbk hql hq1 hiq hk0
 obtain⟨hB1,hr1,hs1⟩:=zA w zc 52
 have ht1:=zn w zc.toArray 52 (n:=119) (by simp[hzl])
 go_enter func66,ntmps66
 go_upto_region 0 with fail
 refine pl_b ?_
 refine pl_r 2 (.pointer (some ⟨w.heap.size,0,none⟩)) (w.alloc (.cells zc.toArray 52)) (zr rfl (hzr _)) ?_
 refine zb ?_
 obtain⟨W1,hW1⟩:∃W,w.alloc (.cells zc.toArray 52)=W:=⟨_,rfl⟩
 rw[hW1]at hB1 hr1 hs1 ht1 ⊢
 clear hW1 hr1
 have S1:=h.below hB1
 go_upto_region 1 with fail
 refine pl_b ?_
 refine pl_a 4 ?_
 refine pl_c 5 ?_
 refine(ck W1 S1).mono ?_
 rintro _ w2 ⟨rfl,S2,k2⟩
 refine⟨_,rfl,?_⟩
 simp only[nz]
 refine pl_v 6 (.agg qk.toArray) (zT (parts:=[(0,.tmp 5)]) rfl rfl (hbk _)) ?_
 refine pl_r 3 (.pointer (some ⟨w2.heap.size,0,none⟩)) (w2.alloc (.cells zc.toArray 52)) (zr rfl (hzr _)) ?_
 refine pl_s ((w2.alloc (.cells zc.toArray 52)).setCells w2.heap.size 0 qk) (zo (cs:=qk.toArray) rfl rfl rfl (zn _ _ _ (by simp[hzl,hql])) (by simpa using hiq) (zp hq1)) ?_
 refine zb ?_
 obtain⟨hF1,hF2,hF3,-⟩:=zq w2 zc.toArray 52 qk (by simp[hzl,hql])
 have hF4:=World.there_setCells (zn w2 zc.toArray 52 (n:=119) (by simp[hzl])) w2.heap.size 0 qk
 obtain⟨w3,hw3⟩:∃W,(w2.alloc (.cells zc.toArray 52)).setCells w2.heap.size 0 qk=W:=⟨_,rfl⟩
 rw[hw3]at hF1 hF2 hF3 hF4 ⊢
 clear hw3
 have hc0:=hk0 _ _ hF1
 have k3:Kept w R Q w3:=(((Kept.refl w R Q).below hB1).trans k2).below hF2
 have z2:=k2.size
 rw[←hqk.out]at hF1
 have V3:MV w Q R w.heap.size w2.heap.size 119 (Ms.plain 2 0 0 Vt.zero zd).cells s0 w3:=⟨hF1,hF4,zg (zY ht1 (k2.block _ hs1 (by omega) (by omega))) hF2 (by omega),k3,S2.below hF2,by have:=hF2.size;omega,by omega,Nat.le_refl _,by have:=hB1.size;omega,by omega,hRw,hQw⟩
 have hww:w.heap.size<w2.heap.size:=by omega
 clear hF1 hF2 hF4 ht1 hB1 S1 S2 k2 k3 hk0 hbk hql hq1 hiq hqk h ck hzr hzl
 go_upto_region 2 with fail
 refine pl_b ?_
 refine pl_a 7 ?_
 refine pl_v 8 (.int .i64 2) (zf rfl rfl hc0 underlying3 rfl) ?_
 refine zb ?_
 clear hc0
 go_upto_region 7 with fail
 refine pl_b ?_
 refine pl_a 31 ?_
 refine pl_c 32 ?_
 refine(c_a w3 V3.rs).mono ?_
 rintro _ wd ⟨rfl,Sd,kd⟩
 refine⟨_,rfl,?_⟩
 simp only[nz]
 refine pl_a 33 ?_
 have hv:=ok_a V3.rs.st.bs
 have Vd:=V3.on kd Sd
 have Ve:=Vd.set 7 v_a.cells (zf4 v_a hv Vt.zero_ok Vd.row (Vd.part 7 36 (by decide)))
 have hvl:=hv.len
 refine pl_s (wd.setCells w2.heap.size 7 v_a.cells) (zo (cs:=v_a.cells.toArray) rfl rfl rfl (by simpa [hvl]using Vd.part 7 36 (by decide)) (by simpa [hvl]using iszVo) (zp (Vt.one v_a))) ?_
 refine zb ?_
 obtain⟨we,hwe⟩:∃W,wd.setCells w2.heap.size 7 v_a.cells=W:=⟨_,rfl⟩
 rw[hwe]at Ve ⊢
 clear hwe
 clear Vd Sd kd V3
 have rpc:=Ve.row
 have hmo:Mg.ok ⟨2,0,0,0,0,false,⟨none,0,[]⟩,v_a,0,0,0,⟨none,0,[]⟩,⟨none,0,[]⟩,zd,Vt.zero,⟨none,0,[]⟩,⟨#[]⟩,⟨none,0,[]⟩⟩:=⟨hv,Vt.zero_ok,zt,zx⟩
 have hpl:(Mg.ms ⟨2,0,0,0,0,false,⟨none,0,[]⟩,v_a,0,0,0,⟨none,0,[]⟩,⟨none,0,[]⟩,zd,Vt.zero,⟨none,0,[]⟩,⟨#[]⟩,⟨none,0,[]⟩⟩).cells.length=119:=hmo.ms.len
 have hp1:=hmo.ms.one
 have hip:(prog.info? 52).map (·.size)=some (Mg.ms ⟨2,0,0,0,0,false,⟨none,0,[]⟩,v_a,0,0,0,⟨none,0,[]⟩,⟨none,0,[]⟩,zd,Vt.zero,⟨none,0,[]⟩,⟨#[]⟩,⟨none,0,[]⟩⟩).cells.length:=by rw[hpl];exact iszM
 have rpc:we.rangeAt w2.heap.size 0 (Mg.ms ⟨2,0,0,0,0,false,⟨none,0,[]⟩,v_a,0,0,0,⟨none,0,[]⟩,⟨none,0,[]⟩,zd,Vt.zero,⟨none,0,[]⟩,⟨#[]⟩,⟨none,0,[]⟩⟩).cells:=rpc
 obtain⟨pc,hpc⟩:∃p,Hid ((Mg.ms ⟨2,0,0,0,0,false,⟨none,0,[]⟩,v_a,0,0,0,⟨none,0,[]⟩,⟨none,0,[]⟩,zd,Vt.zero,⟨none,0,[]⟩,⟨#[]⟩,⟨none,0,[]⟩⟩).cells=p):=⟨_,hide rfl⟩
 simp only[hpc.out]at hpl hip hp1 rpc
 go_upto_region 22 with fail
 refine pl_b ?_
 refine pl_v 121 (.agg pc.toArray) (zm rfl rfl rpc underlying52 rfl hip) ?_
 refine pl_s (we.setCells w.heap.size 0 pc) (zo (cs:=pc.toArray) rfl rfl rfl (by simpa [hpl]using Ve.ans) (by simpa using hip) (zp hp1)) ?_
 refine zb ?_
 have hlow:Below w.heap.size we (we.setCells w.heap.size 0 pc):=zi (Nat.le_refl _) pc 0 _ (Below.refl _ we)
 have hrs:=run_loadVar_mid (P:=prog) (we.setCells w.heap.size 0 pc) w.heap.size 0 52 pc _ (World.rangeAt_setCells_same we w.heap.size 0 pc (by rw[hpl];exact Ve.ans)) underlying52 rfl hip
 have HF:Hid (∃m:Mg,Ending.returned (.agg pc.toArray)=.returned (.agg m.ms.cells.toArray)∧m.pure=(⟨2,0,0,0,0,false,[],v_a,0,0,0,[],[],zd,Vt.zero,[],⟨#[]⟩,[]⟩:Mp)∧m.ok∧m.At (we.setCells w.heap.size 0 pc)∧m.Bk (fun b=>w.heap.size≤b)∧RS (we.setCells w.heap.size 0 pc) Q R s_a∧Kept w R Q (we.setCells w.heap.size 0 pc)):=hide ⟨⟨2,0,0,0,0,false,⟨none,0,[]⟩,v_a,0,0,0,⟨none,0,[]⟩,⟨none,0,[]⟩,zd,Vt.zero,⟨none,0,[]⟩,⟨#[]⟩,⟨none,0,[]⟩⟩,by rw[hpc.out],rfl,hmo,zaW RowsAt.none zan RowsAt.none RowsAt.none RowsAt.none,⟨zD,zD,za8,zD,zD,zD⟩,Ve.rs.low hlow hQw,Ve.kept.low hlow (Nat.le_refl _)⟩
 clear Ve hlow rpc hpc hmo
 go_wp2_with fail
 refine bodyPost_ret (v:=.agg pc.toArray) ?_ rfl ?_
 ·simp[results,results66,Act.put,asAddr,hrs]
 ·exact HF.out
theorem zjF (Q R:Nat) (s:Rst) (w:World) (h:RS w Q R s) (hl:s.1.length≤40000) (hk:(kiS 8 s).1=3):Calls prog 66 #[.pointer (some ⟨Q,0,none⟩)] w fun en w'=>∃m:Mg,en=.returned (.agg m.ms.cells.toArray)∧m.pure=(mg3 (kiS 8 s).2).1∧m.ok∧m.At w'∧m.Bk (fun b=>w.heap.size≤b)∧RS w' Q R (mg3 (kiS 8 s).2).2∧Kept w R Q w':=by
 have hRw:=h.st.1.1
 have hQw:=h.mr.lt
 have ck:=fun w0 h0=>kindRS Q R 8 s w0 h0
 have l0:=za9 8 s
 unfold mg3
 generalize kiS 8 s=p_ at ck l0 hk ⊢
 obtain⟨k,s0⟩:=p_
 simp only at ck l0 hk ⊢
 subst hk
 have c_a:=fun w0 h0=>rchangeS Q R s0 w0 h0 (by omega)
 have l_a:(chS s0).2.1.length≤s0.1.length:=zmN _
 generalize chS s0=p_ at c_a l_a ⊢
 obtain⟨⟨e_a,m_a,n_a,he_a⟩,s_a⟩:=p_
 simp only at c_a l_a ⊢
 obtain⟨zc,hzl,hzr⟩:∃z:List Value,z.length=119∧∀w:World,(zeroValue 52).run prog w=.ok (.agg z.toArray) w:=⟨_,(Ms.plain_ok 0 0 0 Vt.zero_ok zt zx).len,zeroM⟩
 have hbk:=zao 3
 have hql:=(zQ 3).len
 have hq1:=(zQ 3).one
 have hiq:(prog.info? 52).map (·.size)=some (Ms.plain 3 0 0 Vt.zero zd).cells.length:=by rw[hql];exact iszM
 have hk0:∀(w':World) b,w'.rangeAt b 0 (Ms.plain 3 0 0 Vt.zero zd).cells→w'.cell? ⟨b,0,none⟩=some (.int .i64 3):=fun w' b h=>((zQ 3).at h).k
 obtain⟨qk,hqk⟩:∃q,Hid ((Ms.plain 3 0 0 Vt.zero zd).cells=q):=⟨_,hide rfl⟩
 simp only[hqk.out]at hbk hql hq1 hiq hk0
 obtain⟨hB1,hr1,hs1⟩:=zA w zc 52
 have ht1:=zn w zc.toArray 52 (n:=119) (by simp[hzl])
 go_enter func66,ntmps66
 go_upto_region 0 with fail
 refine pl_b ?_
 refine pl_r 2 (.pointer (some ⟨w.heap.size,0,none⟩)) (w.alloc (.cells zc.toArray 52)) (zr rfl (hzr _)) ?_
 refine zb ?_
 obtain⟨W1,hW1⟩:∃W,w.alloc (.cells zc.toArray 52)=W:=⟨_,rfl⟩
 rw[hW1]at hB1 hr1 hs1 ht1 ⊢
 clear hW1 hr1
 have S1:=h.below hB1
 go_upto_region 1 with fail
 refine pl_b ?_
 refine pl_a 4 ?_
 refine pl_c 5 ?_
 refine(ck W1 S1).mono ?_
 rintro _ w2 ⟨rfl,S2,k2⟩
 refine⟨_,rfl,?_⟩
 simp only[nz]
 refine pl_v 6 (.agg qk.toArray) (zT (parts:=[(0,.tmp 5)]) rfl rfl (hbk _)) ?_
 refine pl_r 3 (.pointer (some ⟨w2.heap.size,0,none⟩)) (w2.alloc (.cells zc.toArray 52)) (zr rfl (hzr _)) ?_
 refine pl_s ((w2.alloc (.cells zc.toArray 52)).setCells w2.heap.size 0 qk) (zo (cs:=qk.toArray) rfl rfl rfl (zn _ _ _ (by simp[hzl,hql])) (by simpa using hiq) (zp hq1)) ?_
 refine zb ?_
 obtain⟨hF1,hF2,hF3,-⟩:=zq w2 zc.toArray 52 qk (by simp[hzl,hql])
 have hF4:=World.there_setCells (zn w2 zc.toArray 52 (n:=119) (by simp[hzl])) w2.heap.size 0 qk
 obtain⟨w3,hw3⟩:∃W,(w2.alloc (.cells zc.toArray 52)).setCells w2.heap.size 0 qk=W:=⟨_,rfl⟩
 rw[hw3]at hF1 hF2 hF3 hF4 ⊢
 clear hw3
 have hc0:=hk0 _ _ hF1
 have k3:Kept w R Q w3:=(((Kept.refl w R Q).below hB1).trans k2).below hF2
 have z2:=k2.size
 rw[←hqk.out]at hF1
 have V3:MV w Q R w.heap.size w2.heap.size 119 (Ms.plain 3 0 0 Vt.zero zd).cells s0 w3:=⟨hF1,hF4,zg (zY ht1 (k2.block _ hs1 (by omega) (by omega))) hF2 (by omega),k3,S2.below hF2,by have:=hF2.size;omega,by omega,Nat.le_refl _,by have:=hB1.size;omega,by omega,hRw,hQw⟩
 have hww:w.heap.size<w2.heap.size:=by omega
 clear hF1 hF2 hF4 ht1 hB1 S1 S2 k2 k3 hk0 hbk hql hq1 hiq hqk h ck hzr hzl
 go_upto_region 2 with fail
 refine pl_b ?_
 refine pl_a 7 ?_
 refine pl_v 8 (.int .i64 3) (zf rfl rfl hc0 underlying3 rfl) ?_
 refine zb ?_
 clear hc0
 go_upto_region 9 with fail
 refine pl_b ?_
 refine pl_a 36 ?_
 refine pl_c 37 ?_
 refine(c_a w3 V3.rs).mono ?_
 rintro _ wd ⟨x,rfl,hx,hA,hB,hB2,Sd,kd⟩
 refine⟨_,rfl,?_⟩
 simp only[nz]
 refine pl_a 38 ?_
 have Vd:=V3.on kd Sd
 have Ve:=Vd.set 43 [.int .i64 e_a,.int .i64 m_a,.int .i64 n_a,x.val] (zgc e_a m_a n_a x.val Vt.zero_ok Vd.row (Vd.part 43 4 (by decide)))
 have lb:=V3.lb
 have la:=V3.la
 have na:=V3.kept.size
 refine pl_s (wd.setCells w2.heap.size 43 [.int .i64 e_a,.int .i64 m_a,.int .i64 n_a,x.val]) (zo (cs:=#[.int .i64 e_a,.int .i64 m_a,.int .i64 n_a,x.val]) rfl rfl rfl (Vd.part 43 4 (by decide)) iszCh (by simp[Value.oneCell',Sl.val])) ?_
 refine zb ?_
 have hA1:=hA.put (B:=w2.heap.size) (o:=43) (vs:=[.int .i64 e_a,.int .i64 m_a,.int .i64 n_a,x.val]) hB hB2 (fun b hb=>by omega)
 obtain⟨we,hwe⟩:∃W,wd.setCells w2.heap.size 43 [.int .i64 e_a,.int .i64 m_a,.int .i64 n_a,x.val]=W:=⟨_,rfl⟩
 rw[hwe]at Ve hA1 ⊢
 clear hwe
 clear Vd Sd kd V3 hA
 have rpc:=Ve.row
 have hmo:Mg.ok ⟨3,0,0,0,0,false,⟨none,0,[]⟩,Vt.zero,e_a,m_a,n_a,x,⟨none,0,[]⟩,zd,Vt.zero,⟨none,0,[]⟩,⟨#[]⟩,⟨none,0,[]⟩⟩:=⟨Vt.zero_ok,Vt.zero_ok,zt,zx⟩
 have hpl:(Mg.ms ⟨3,0,0,0,0,false,⟨none,0,[]⟩,Vt.zero,e_a,m_a,n_a,x,⟨none,0,[]⟩,zd,Vt.zero,⟨none,0,[]⟩,⟨#[]⟩,⟨none,0,[]⟩⟩).cells.length=119:=hmo.ms.len
 have hp1:=hmo.ms.one
 have hip:(prog.info? 52).map (·.size)=some (Mg.ms ⟨3,0,0,0,0,false,⟨none,0,[]⟩,Vt.zero,e_a,m_a,n_a,x,⟨none,0,[]⟩,zd,Vt.zero,⟨none,0,[]⟩,⟨#[]⟩,⟨none,0,[]⟩⟩).cells.length:=by rw[hpl];exact iszM
 have rpc:we.rangeAt w2.heap.size 0 (Mg.ms ⟨3,0,0,0,0,false,⟨none,0,[]⟩,Vt.zero,e_a,m_a,n_a,x,⟨none,0,[]⟩,zd,Vt.zero,⟨none,0,[]⟩,⟨#[]⟩,⟨none,0,[]⟩⟩).cells:=rpc
 obtain⟨pc,hpc⟩:∃p,Hid ((Mg.ms ⟨3,0,0,0,0,false,⟨none,0,[]⟩,Vt.zero,e_a,m_a,n_a,x,⟨none,0,[]⟩,zd,Vt.zero,⟨none,0,[]⟩,⟨#[]⟩,⟨none,0,[]⟩⟩).cells=p):=⟨_,hide rfl⟩
 simp only[hpc.out]at hpl hip hp1 rpc
 go_upto_region 22 with fail
 refine pl_b ?_
 refine pl_v 121 (.agg pc.toArray) (zm rfl rfl rpc underlying52 rfl hip) ?_
 refine pl_s (we.setCells w.heap.size 0 pc) (zo (cs:=pc.toArray) rfl rfl rfl (by simpa [hpl]using Ve.ans) (by simpa using hip) (zp hp1)) ?_
 refine zb ?_
 have hlow:Below w.heap.size we (we.setCells w.heap.size 0 pc):=zi (Nat.le_refl _) pc 0 _ (Below.refl _ we)
 have hrs:=run_loadVar_mid (P:=prog) (we.setCells w.heap.size 0 pc) w.heap.size 0 52 pc _ (World.rangeAt_setCells_same we w.heap.size 0 pc (by rw[hpl];exact Ve.ans)) underlying52 rfl hip
 have HF:Hid (∃m:Mg,Ending.returned (.agg pc.toArray)=.returned (.agg m.ms.cells.toArray)∧m.pure=(⟨3,0,0,0,0,false,[],Vt.zero,e_a,m_a,n_a,he_a,[],zd,Vt.zero,[],⟨#[]⟩,[]⟩:Mp)∧m.ok∧m.At (we.setCells w.heap.size 0 pc)∧m.Bk (fun b=>w.heap.size≤b)∧RS (we.setCells w.heap.size 0 pc) Q R s_a∧Kept w R Q (we.setCells w.heap.size 0 pc)):=hide ⟨⟨3,0,0,0,0,false,⟨none,0,[]⟩,Vt.zero,e_a,m_a,n_a,x,⟨none,0,[]⟩,zd,Vt.zero,⟨none,0,[]⟩,⟨#[]⟩,⟨none,0,[]⟩⟩,by rw[hpc.out],by rw[←hx];rfl,hmo,zaW RowsAt.none (hA1.put hB hB2 (fun b hb=>by omega)) RowsAt.none RowsAt.none RowsAt.none,⟨zD,hB.mono (fun b hb=>by omega),fun y hy=>(hB2 y hy).mono (fun b hb=>by omega),zD,zD,zD⟩,Ve.rs.low hlow hQw,Ve.kept.low hlow (Nat.le_refl _)⟩
 clear Ve hlow rpc hpc hmo hA1 hB hB2 hx
 go_wp2_with fail
 refine bodyPost_ret (v:=.agg pc.toArray) ?_ rfl ?_
 ·simp[results,results66,Act.put,asAddr,hrs]
 ·exact HF.out
theorem zjE (Q R:Nat) (s:Rst) (w:World) (h:RS w Q R s) (hl:s.1.length≤40000) (hk:(kiS 8 s).1=4):Calls prog 66 #[.pointer (some ⟨Q,0,none⟩)] w fun en w'=>∃m:Mg,en=.returned (.agg m.ms.cells.toArray)∧m.pure=(mg4 (kiS 8 s).2).1∧m.ok∧m.At w'∧m.Bk (fun b=>w.heap.size≤b)∧RS w' Q R (mg4 (kiS 8 s).2).2∧Kept w R Q w':=by
 have hRw:=h.st.1.1
 have hQw:=h.mr.lt
 have ck:=fun w0 h0=>kindRS Q R 8 s w0 h0
 have l0:=za9 8 s
 unfold mg4
 generalize kiS 8 s=p_ at ck l0 hk ⊢
 obtain⟨k,s0⟩:=p_
 simp only at ck l0 hk ⊢
 subst hk
 have c_a:=fun w0 h0=>numRS Q R 1048576 s0 w0 h0
 have l_a:(nuS 1048576 s0).2.1.length≤s0.1.length:=zal _ _
 generalize nuS 1048576 s0=p_ at c_a l_a ⊢
 obtain⟨v_a,s_a⟩:=p_
 simp only at c_a l_a ⊢
 have c_b:=fun w0 h0=>numRS Q R 64 s_a w0 h0
 have l_b:(nuS 64 s_a).2.1.length≤s_a.1.length:=zal _ _
 generalize nuS 64 s_a=p_ at c_b l_b ⊢
 obtain⟨v_b,s_b⟩:=p_
 simp only at c_b l_b ⊢
 have c_c:=fun w0 h0=>numRS Q R 1099511627776 s_b w0 h0
 have l_c:(nuS 1099511627776 s_b).2.1.length≤s_b.1.length:=zal _ _
 generalize nuS 1099511627776 s_b=p_ at c_c l_c ⊢
 obtain⟨v_c,s_c⟩:=p_
 simp only at c_c l_c ⊢
 have c_d:=fun w0 h0=>zjK Q R s_c w0 h0 (by omega)
 have l_d:(lsS 64 enS s_c).2.1.length≤s_c.1.length:=zc9 zhk _ _
 generalize lsS 64 enS s_c=p_ at c_d l_d ⊢
 obtain⟨v_d,s_d⟩:=p_
 simp only at c_d l_d ⊢
 obtain⟨zc,hzl,hzr⟩:∃z:List Value,z.length=119∧∀w:World,(zeroValue 52).run prog w=.ok (.agg z.toArray) w:=⟨_,(Ms.plain_ok 0 0 0 Vt.zero_ok zt zx).len,zeroM⟩
 have hbk:=zao 4
 have hql:=(zQ 4).len
 have hq1:=(zQ 4).one
 have hiq:(prog.info? 52).map (·.size)=some (Ms.plain 4 0 0 Vt.zero zd).cells.length:=by rw[hql];exact iszM
 have hk0:∀(w':World) b,w'.rangeAt b 0 (Ms.plain 4 0 0 Vt.zero zd).cells→w'.cell? ⟨b,0,none⟩=some (.int .i64 4):=fun w' b h=>((zQ 4).at h).k
 obtain⟨qk,hqk⟩:∃q,Hid ((Ms.plain 4 0 0 Vt.zero zd).cells=q):=⟨_,hide rfl⟩
 simp only[hqk.out]at hbk hql hq1 hiq hk0
 obtain⟨hB1,hr1,hs1⟩:=zA w zc 52
 have ht1:=zn w zc.toArray 52 (n:=119) (by simp[hzl])
 go_enter func66,ntmps66
 go_upto_region 0 with fail
 refine pl_b ?_
 refine pl_r 2 (.pointer (some ⟨w.heap.size,0,none⟩)) (w.alloc (.cells zc.toArray 52)) (zr rfl (hzr _)) ?_
 refine zb ?_
 obtain⟨W1,hW1⟩:∃W,w.alloc (.cells zc.toArray 52)=W:=⟨_,rfl⟩
 rw[hW1]at hB1 hr1 hs1 ht1 ⊢
 clear hW1 hr1
 have S1:=h.below hB1
 go_upto_region 1 with fail
 refine pl_b ?_
 refine pl_a 4 ?_
 refine pl_c 5 ?_
 refine(ck W1 S1).mono ?_
 rintro _ w2 ⟨rfl,S2,k2⟩
 refine⟨_,rfl,?_⟩
 simp only[nz]
 refine pl_v 6 (.agg qk.toArray) (zT (parts:=[(0,.tmp 5)]) rfl rfl (hbk _)) ?_
 refine pl_r 3 (.pointer (some ⟨w2.heap.size,0,none⟩)) (w2.alloc (.cells zc.toArray 52)) (zr rfl (hzr _)) ?_
 refine pl_s ((w2.alloc (.cells zc.toArray 52)).setCells w2.heap.size 0 qk) (zo (cs:=qk.toArray) rfl rfl rfl (zn _ _ _ (by simp[hzl,hql])) (by simpa using hiq) (zp hq1)) ?_
 refine zb ?_
 obtain⟨hF1,hF2,hF3,-⟩:=zq w2 zc.toArray 52 qk (by simp[hzl,hql])
 have hF4:=World.there_setCells (zn w2 zc.toArray 52 (n:=119) (by simp[hzl])) w2.heap.size 0 qk
 obtain⟨w3,hw3⟩:∃W,(w2.alloc (.cells zc.toArray 52)).setCells w2.heap.size 0 qk=W:=⟨_,rfl⟩
 rw[hw3]at hF1 hF2 hF3 hF4 ⊢
 clear hw3
 have hc0:=hk0 _ _ hF1
 have k3:Kept w R Q w3:=(((Kept.refl w R Q).below hB1).trans k2).below hF2
 have z2:=k2.size
 rw[←hqk.out]at hF1
 have V3:MV w Q R w.heap.size w2.heap.size 119 (Ms.plain 4 0 0 Vt.zero zd).cells s0 w3:=⟨hF1,hF4,zg (zY ht1 (k2.block _ hs1 (by omega) (by omega))) hF2 (by omega),k3,S2.below hF2,by have:=hF2.size;omega,by omega,Nat.le_refl _,by have:=hB1.size;omega,by omega,hRw,hQw⟩
 have hww:w.heap.size<w2.heap.size:=by omega
 clear hF1 hF2 hF4 ht1 hB1 S1 S2 k2 k3 hk0 hbk hql hq1 hiq hqk h ck hzr hzl
 go_upto_region 2 with fail
 refine pl_b ?_
 refine pl_a 7 ?_
 refine pl_v 8 (.int .i64 4) (zf rfl rfl hc0 underlying3 rfl) ?_
 refine zb ?_
 clear hc0
 go_upto_region 11 with fail
 have V8:=V3.drew
 refine zw (S:=(fun W'=>W'.cell? ⟨Q,0,none⟩=some (.pointer (some ⟨R,0,none⟩)))) 21 rfl (by kernel_rfl) ?_
 obtain⟨w8,hw8⟩:∃W,w3.drew=W:=⟨_,rfl⟩
 rw[hw8]at V8 ⊢
 clear hw8 V3
 have hS:(fun W'=>W'.cell? ⟨Q,0,none⟩=some (.pointer (some ⟨R,0,none⟩))) w8:=V8.rs.mr.c0
 refine hs_a 0 41 hS ?_
 refine hs_a 1 42 hS ?_
 refine hs_a 2 43 hS ?_
 refine hs_v 3 44 (.pointer (some ⟨R,0,none⟩)) rfl (fun w' hw=>zf rfl rfl hw underlying98 rfl) hS ?_
 refine hs_a 5 46 hS ?_
 refine hs_a 6 47 hS ?_
 refine hs_a 7 48 hS ?_
 refine hs_v 8 49 (.pointer (some ⟨R,0,none⟩)) rfl (fun w' hw=>zf rfl rfl hw underlying98 rfl) hS ?_
 refine hs_a 10 51 hS ?_
 refine hs_a 11 52 hS ?_
 refine hs_a 12 53 hS ?_
 refine hs_v 13 54 (.pointer (some ⟨R,0,none⟩)) rfl (fun w' hw=>zf rfl rfl hw underlying98 rfl) hS ?_
 refine hs_c 4 45 ?_
 refine(c_a w8 V8.rs).mono ?_
 rintro _ w5 ⟨rfl,S5,k5⟩
 have hS:(fun W'=>W'.cell? ⟨Q,0,none⟩=some (.pointer (some ⟨R,0,none⟩))) w5:=S5.mr.c0
 refine⟨_,rfl,hS,?_⟩
 simp only[nz]
 refine hs_a 15 56 hS ?_
 refine hs_c 9 50 ?_
 refine(c_b w5 S5).mono ?_
 rintro _ w6 ⟨rfl,S6,k6⟩
 have hS:(fun W'=>W'.cell? ⟨Q,0,none⟩=some (.pointer (some ⟨R,0,none⟩))) w6:=S6.mr.c0
 refine⟨_,rfl,hS,?_⟩
 simp only[nz]
 refine hs_c 14 55 ?_
 refine(c_c w6 S6).mono ?_
 rintro _ w7 ⟨rfl,S7,k7⟩
 have hS:(fun W'=>W'.cell? ⟨Q,0,none⟩=some (.pointer (some ⟨R,0,none⟩))) w7:=S7.mr.c0
 refine⟨_,rfl,hS,?_⟩
 simp only[nz]
 have V_0:=(((V8.on k5 S5).on k6 S6).on k7 S7)
 have V_1:=V_0.set 1 [.int .i64 v_a] (zbi v_a V_0.row (V_0.part 1 1 (by decide)))
 refine zG (i:=16) (w':=w7.setCells w2.heap.size 1 [.int .i64 v_a]) rfl (by kernel_rfl) (by rfl) (zX (n:=119) rfl rfl rfl V_0.box (by decide) iszI rfl rfl) rfl V_1.rs.mr.c0 ?_
 obtain⟨w_16,hw_16⟩:∃W,w7.setCells w2.heap.size 1 [.int .i64 v_a]=W:=⟨_,rfl⟩
 rw[hw_16]at V_1 ⊢
 clear hw_16
 have hS:(fun W'=>W'.cell? ⟨Q,0,none⟩=some (.pointer (some ⟨R,0,none⟩))) w_16:=V_1.rs.mr.c0
 refine hs_a 17 57 hS ?_
 have V_2:=V_1.set 2 [.int .i64 v_b] (zf9 v_b V_1.row (V_1.part 2 1 (by decide)))
 refine zG (i:=18) (w':=w_16.setCells w2.heap.size 2 [.int .i64 v_b]) rfl (by kernel_rfl) (by rfl) (zX (n:=119) rfl rfl rfl V_1.box (by decide) iszI rfl rfl) rfl V_2.rs.mr.c0 ?_
 obtain⟨w_18,hw_18⟩:∃W,w_16.setCells w2.heap.size 2 [.int .i64 v_b]=W:=⟨_,rfl⟩
 rw[hw_18]at V_2 ⊢
 clear hw_18
 have hS:(fun W'=>W'.cell? ⟨Q,0,none⟩=some (.pointer (some ⟨R,0,none⟩))) w_18:=V_2.rs.mr.c0
 refine hs_a 19 58 hS ?_
 have V_3:=V_2.set 3 [.int .i64 v_c] (zf5 v_c V_2.row (V_2.part 3 1 (by decide)))
 refine zG (i:=20) (w':=w_18.setCells w2.heap.size 3 [.int .i64 v_c]) rfl (by kernel_rfl) (by rfl) (zX (n:=119) rfl rfl rfl V_2.box (by decide) iszI rfl rfl) rfl V_3.rs.mr.c0 ?_
 obtain⟨w_20,hw_20⟩:∃W,w_18.setCells w2.heap.size 3 [.int .i64 v_c]=W:=⟨_,rfl⟩
 rw[hw_20]at V_3 ⊢
 clear hw_20
 have hS:(fun W'=>W'.cell? ⟨Q,0,none⟩=some (.pointer (some ⟨R,0,none⟩))) w_20:=V_3.rs.mr.c0
 refine zv (by kernel_rfl) ?_
 clear hS V8 S5 k5 S6 k6 S7 k7 V_0 V_1 V_2 c_a c_b c_c
 go_upto_region 12 with fail
 refine pl_b ?_
 refine pl_a 59 ?_
 refine pl_a 60 ?_
 refine pl_a 61 ?_
 refine pl_v 62 (.pointer (some ⟨R,0,none⟩)) (zf rfl rfl V_3.rs.mr.c0 underlying98 rfl) ?_
 refine pl_a 63 ?_
 refine pl_a 64 ?_
 refine pl_a 65 ?_
 refine pl_c 66 ?_
 refine(c_d w_20 V_3.rs).mono ?_
 rintro _ wd ⟨x,rfl,hx,hA,hB,Sd,kd⟩
 refine⟨_,rfl,?_⟩
 simp only[nz]
 refine pl_a 67 ?_
 have Vd:=V_3.on kd Sd
 have Ve:=Vd.set 47 [x.val] (zf8 x.val Vt.zero_ok Vd.row (Vd.part 47 1 (by decide)))
 have lb:=V_3.lb
 have la:=V_3.la
 have na:=V_3.kept.size
 refine pl_s (wd.setCells w2.heap.size 47 [x.val]) (zX (n:=119) rfl rfl rfl Vd.box (by decide) iszEvs rfl rfl) ?_
 refine zb ?_
 have hA1:=hA.put (B:=w2.heap.size) (o:=47) (vs:=[x.val]) hB (fun b hb=>by omega)
 obtain⟨we,hwe⟩:∃W,wd.setCells w2.heap.size 47 [x.val]=W:=⟨_,rfl⟩
 rw[hwe]at Ve hA1 ⊢
 clear hwe
 clear Vd Sd kd V_3 hA
 have rpc:=Ve.row
 have hmo:Mg.ok ⟨4,v_a,v_b,v_c,0,false,⟨none,0,[]⟩,Vt.zero,0,0,0,⟨none,0,[]⟩,x,zd,Vt.zero,⟨none,0,[]⟩,⟨#[]⟩,⟨none,0,[]⟩⟩:=⟨Vt.zero_ok,Vt.zero_ok,zt,zx⟩
 have hpl:(Mg.ms ⟨4,v_a,v_b,v_c,0,false,⟨none,0,[]⟩,Vt.zero,0,0,0,⟨none,0,[]⟩,x,zd,Vt.zero,⟨none,0,[]⟩,⟨#[]⟩,⟨none,0,[]⟩⟩).cells.length=119:=hmo.ms.len
 have hp1:=hmo.ms.one
 have hip:(prog.info? 52).map (·.size)=some (Mg.ms ⟨4,v_a,v_b,v_c,0,false,⟨none,0,[]⟩,Vt.zero,0,0,0,⟨none,0,[]⟩,x,zd,Vt.zero,⟨none,0,[]⟩,⟨#[]⟩,⟨none,0,[]⟩⟩).cells.length:=by rw[hpl];exact iszM
 have rpc:we.rangeAt w2.heap.size 0 (Mg.ms ⟨4,v_a,v_b,v_c,0,false,⟨none,0,[]⟩,Vt.zero,0,0,0,⟨none,0,[]⟩,x,zd,Vt.zero,⟨none,0,[]⟩,⟨#[]⟩,⟨none,0,[]⟩⟩).cells:=rpc
 obtain⟨pc,hpc⟩:∃p,Hid ((Mg.ms ⟨4,v_a,v_b,v_c,0,false,⟨none,0,[]⟩,Vt.zero,0,0,0,⟨none,0,[]⟩,x,zd,Vt.zero,⟨none,0,[]⟩,⟨#[]⟩,⟨none,0,[]⟩⟩).cells=p):=⟨_,hide rfl⟩
 simp only[hpc.out]at hpl hip hp1 rpc
 go_upto_region 22 with fail
 refine pl_b ?_
 refine pl_v 121 (.agg pc.toArray) (zm rfl rfl rpc underlying52 rfl hip) ?_
 refine pl_s (we.setCells w.heap.size 0 pc) (zo (cs:=pc.toArray) rfl rfl rfl (by simpa [hpl]using Ve.ans) (by simpa using hip) (zp hp1)) ?_
 refine zb ?_
 have hlow:Below w.heap.size we (we.setCells w.heap.size 0 pc):=zi (Nat.le_refl _) pc 0 _ (Below.refl _ we)
 have hrs:=run_loadVar_mid (P:=prog) (we.setCells w.heap.size 0 pc) w.heap.size 0 52 pc _ (World.rangeAt_setCells_same we w.heap.size 0 pc (by rw[hpl];exact Ve.ans)) underlying52 rfl hip
 have HF:Hid (∃m:Mg,Ending.returned (.agg pc.toArray)=.returned (.agg m.ms.cells.toArray)∧m.pure=(⟨4,v_a,v_b,v_c,0,false,[],Vt.zero,0,0,0,[],v_d,zd,Vt.zero,[],⟨#[]⟩,[]⟩:Mp)∧m.ok∧m.At (we.setCells w.heap.size 0 pc)∧m.Bk (fun b=>w.heap.size≤b)∧RS (we.setCells w.heap.size 0 pc) Q R s_d∧Kept w R Q (we.setCells w.heap.size 0 pc)):=hide ⟨⟨4,v_a,v_b,v_c,0,false,⟨none,0,[]⟩,Vt.zero,0,0,0,⟨none,0,[]⟩,x,zd,Vt.zero,⟨none,0,[]⟩,⟨#[]⟩,⟨none,0,[]⟩⟩,by rw[hpc.out],by rw[←hx];rfl,hmo,zaW RowsAt.none zan (hA1.put hB (fun b hb=>by omega)) RowsAt.none RowsAt.none,⟨zD,zD,za8,hB.mono (fun b hb=>by omega),zD,zD⟩,Ve.rs.low hlow hQw,Ve.kept.low hlow (Nat.le_refl _)⟩
 clear Ve hlow rpc hpc hmo hA1 hB hx
 go_wp2_with fail
 refine bodyPost_ret (v:=.agg pc.toArray) ?_ rfl ?_
 ·simp[results,results66,Act.put,asAddr,hrs]
 ·exact HF.out
end Go.Proofs.YtcbpbkefggekmaaGreatDoor
