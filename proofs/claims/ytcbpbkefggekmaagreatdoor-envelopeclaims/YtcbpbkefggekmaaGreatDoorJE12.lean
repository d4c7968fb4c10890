/- the document: claims of batches, of certs; the document: the tags of a message, but for its news; the document's reader: tags and digests; the document's reader -/
import Derived.Test.YtcbpbkefggekmaaGreatDoorJE0
import Derived.Test.YtcbpbkefggekmaaGreatDoorJE11
import Derived.Deep.DeepCutAuto
import Derived.Test.YtcbpbkefggekmaaGreatDoorJE7
set_option maxHeartbeats 2000000
set_option maxRecDepth 100000
open Go.Proofs.Tryz
namespace Go.Proofs.YtcbpbkefggekmaaGreatDoor
open Go.RowKit
open Sha Tal
set_option linter.unusedVariables false
set_option linter.unusedSimpArgs false
theorem zkA (n:Int) (t:List Value) (ht:t.length=16) (w:World):(Instr.build 70 #[(0,.int .i64 n),(2,.agg t.toArray)]).run prog w=.ok (.agg (.int .i64 n::.string ⟨#[]⟩::t).toArray) w:=by
 refine zbw (zs:=[Value.int .i64 0]++([Value.string ⟨#[]⟩]++v8 (List.replicate 16 0))) (pl:=#[(0,1),(1,1),(2,16)]) (zeroXcE w) (by kernel_rfl) (by kernel_rfl) _ _ ?_
 have s1:[Value.int .i64 0]++([Value.string ⟨#[]⟩]++v8 (List.replicate 16 0))=[]++([Value.int .i64 0]++([Value.string ⟨#[]⟩]++v8 (List.replicate 16 0))):=rfl
 rw[s1,zaW (off:=0) (n:=1) (vs:=[.int .i64 n]) rfl rfl rfl rfl rfl]
 have s2:[]++([Value.int .i64 n]++([Value.string ⟨#[]⟩]++v8 (List.replicate 16 0)))=[Value.int .i64 n,Value.string ⟨#[]⟩]++(v8 (List.replicate 16 0)++[]):=by simp
 rw[s2,zaW (off:=2) (n:=16) (vs:=t) rfl rfl rfl rfl ht]
 simp[Instr.fill]
structure OutX (w:World) (B:Nat) (v:Value) (cs:List Ev):Prop where
 own:w.ownsRow B 70 18 v cs.length (cs.flatMap Ev.cells)
 ok:∀c∈cs,c.ok
 le:B≤w.heap.size
theorem OutX.below {w w':World} {B:Nat} {v:Value} {cs:List Ev} (h:OutX w B v cs) (hb:Below w.heap.size w w'):OutX w' B v cs:=
 ⟨zdm h.own (fun g hg=>hb.block g (h.own.lt g hg).2),h.ok,Nat.le_trans h.le hb.size⟩
structure Kp (w:World) (v:Value) (W:World):Prop where
 size:w.heap.size≤W.heap.size
 block:∀i,i<w.heap.size→v.ownBlock≠some i→W.heap[i]? =w.heap[i]?
theorem Kp.refl (w:World) (v:Value):Kp w v w:=⟨Nat.le_refl _,fun _ _ _=>rfl⟩
theorem Kp.below {w W W':World} {v:Value} (h:Kp w v W) (hb:Below W.heap.size W W'):Kp w v W':=⟨Nat.le_trans h.size hb.size,fun i hi hv=>(hb.block i (Nat.lt_of_lt_of_le hi h.size)).trans (h.block i hi hv)⟩
theorem Kp.cell {w W:World} {v:Value} {b j:Nat} (h:Kp w v W) (hb:b<w.heap.size) (hc:v.ownBlock≠some b):W.cell? ⟨b,j,none⟩=w.cell? ⟨b,j,none⟩:=(zO (h.block b hb hc)).1
theorem Kp.range {w W:World} {v:Value} {b o:Nat} {cs:List Value} (h:Kp w v W) (hb:b<w.heap.size) (hc:v.ownBlock≠some b) (hr:w.rangeAt b o cs):W.rangeAt b o cs:=fun j u hu=>(h.cell hb hc).trans (hr j u hu)
structure GrX (w w':World) (v v':Value):Prop where
 os:w'.os=w.os
 tape:w'.tape=w.tape
 output:w'.output=w.output
 kp:Kp w v w'
 own:∀g,v'.ownBlock=some g→v.ownBlock=some g∨w.heap.size≤g
theorem GrX.refl (w:World) (v:Value):GrX w w v v:=⟨rfl,rfl,rfl,Kp.refl _ _,fun _ h=>.inl h⟩
theorem GrX.of {w w':World} (hb:Below w.heap.size w w') (v:Value):GrX w w' v v:=⟨hb.os,hb.tape,hb.output,(Kp.refl _ _).below hb,fun _ h=>.inl h⟩
theorem GrX.trans {a b c:World} {v v' v'':Value} (h:GrX a b v v') (k:GrX b c v' v''):GrX a c v v'' where
 os:=k.os.trans h.os
 tape:=k.tape.trans h.tape
 output:=k.output.trans h.output
 kp:=⟨Nat.le_trans h.kp.size k.kp.size,fun i hi h2=>(k.kp.block i (Nat.lt_of_lt_of_le hi h.kp.size) (fun e=>by
  rcases h.own i e with e|e
  ·exact h2 e
  ·omega)).trans (h.kp.block i hi h2)⟩
 own:=fun g hg=>by
  rcases k.own g hg with e|e
  ·exact h.own g e
  ·exact .inr (Nat.le_trans h.kp.size e)
theorem GrX.ne {w w':World} {v v':Value} (h:GrX w w' v v') {b:Nat} (hb:b<w.heap.size) (hc:v.ownBlock≠some b):v'.ownBlock≠some b:=fun e=>by
 rcases h.own b e with e|e
 ·exact hc e
 ·omega
theorem Kp.gr {w a b:World} {v v':Value} (h:Kp w v a) (k:GrX a b v v'):Kp w v b:=⟨Nat.le_trans h.size k.kp.size,fun i hi h2=>(k.kp.block i (Nat.lt_of_lt_of_le hi h.size) h2).trans (h.block i hi h2)⟩
abbrev ClX (v:Value) (b:Nat):Prop:=v.ownBlock≠some b
theorem Sl.At.growX {α:Type} {E:El α} {w w':World} {v:Value} {x:Sl α} (h:x.At E w) (k:Kp w v w') (hb:x.Bk (ClX v)):x.At E w':=
 h.on k.size hb (fun b hP hlt=>k.block b hlt hP)
theorem Sl.Bk.growX {α:Type} {E:El α} {w w':World} {v v':Value} {x:Sl α} (h:x.At E w) (k:GrX w w' v v') (hb:x.Bk (ClX v)):x.Bk (ClX v'):=fun b h1 h2=>by
 rcases h.2.2 with q|⟨c,off,e,hlt,_⟩
 ·exact absurd q h1
 ·have hc:=hb b h1 h2
  rw[e]at h2
  cases h2
  exact k.ne hlt hc
structure CX (B:Nat) (w wr:World) (v vk:Value) (cs:List Ev):Prop where
 out:OutX wr B vk cs
 grow:GrX w wr v vk
theorem CX.later {B:Nat} {w wr w':World} {v vk:Value} {cs:List Ev} (h:CX B w wr v vk cs) (hb:Below wr.heap.size wr w'):CX B w w' v vk cs:=⟨h.out.below hb,h.grow.trans (GrX.of hb _)⟩
theorem CX.add {B:Nat} {w wr w':World} {v vk v':Value} {cs ds:List Ev} (h:CX B w wr v vk cs) (ho:OutX w' B v' ds) (hg:GrX wr w' vk v'):CX B w w' v v' ds:=⟨ho,h.grow.trans hg⟩
theorem zcD {B:Nat} {w:World} {v:Value} {cs:List Ev} (h:OutX w B v cs) {b:Nat} (hb:w.heap.size≤b):ClX v b:=fun e=>by have:=(h.own.lt b e).2;omega
theorem xapp {w:World} {B:Nat} {v:Value} {cs:List Ev} {e:Ev} (h:OutX w B v cs) (he:e.ok) (hn:cs.length≤1000000000):
  ∃v' w',(Builtin.append_ #[66,66] 66 #[v,.slice (some ⟨w.heap.size,0,none⟩) 1 1]).run prog (w.alloc (.cells e.cells.toArray 70))=.ok v' w'∧OutX w' B v' (cs++[e])∧GrX w w' v v':=by
 obtain⟨i1,hi1,hiz,his,hib⟩:=zT infoXc
 have hzk:(Value.agg (infoCl0).toArray).cells.size=18:=by decide
 have hul:e.cells.length=18:=EvE.len e he
 have B2:Below w.heap.size w (w.alloc (.cells e.cells.toArray 70)):=(Below.refl _ _).alloc (Nat.le_refl _) _
 have r2:(w.alloc (.cells e.cells.toArray 70)).rangeAt w.heap.size 0 e.cells:=by simpa using zy w e.cells.toArray 70
 have h2:=h.below B2
 have hsrc:Src prog 18 66 (.slice (some ⟨w.heap.size,0,none⟩) 1 1) 1 e.cells (w.alloc (.cells e.cells.toArray 70)):=Src.ofSlice _ underlying66 ⟨w.heap.size,0,none⟩ 1 1 _ (by simpa using hul) (fun j y hy=>by have:=r2 j y hy;rw[Addr.add_mid];exact this) (EvE.one e)
 obtain⟨v',w',hrun,o6,g6,gb6⟩:=zbM (P:=prog) (w.alloc (.cells e.cells.toArray 70)) B 66 66 66 70 i1 _ 18 i1.bytes underlying66 hi1 hiz his rfl hzk v cs.length _ h2.own _ 1 e.cells hsrc (by unfold maxLen;omega) (by rw[hib];omega) h2.le
 refine⟨v',w',hrun,⟨?_,fun c hc=>?_,Nat.le_trans h2.le g6.size⟩,⟨g6.os.trans B2.os,g6.tape.trans B2.tape,g6.output.trans B2.output,⟨Nat.le_trans B2.size g6.size,fun i hi hv=>?_⟩,fun g hg=>(gb6 g hg).imp (fun q=>q) (fun q=>by have:=B2.size;omega)⟩⟩
 ·have e1:(cs++[e]).flatMap Ev.cells=cs.flatMap Ev.cells++e.cells:=by simp
  have e2:(cs++[e]).length=cs.length+1:=by simp
  rw[e1,e2]
  exact o6
 ·rcases List.mem_append.1 hc with hc|hc
  ·exact h.ok c hc
  ·rw[List.mem_singleton.1 hc];exact he
 ·rw[g6.block i (Nat.lt_of_lt_of_le hi B2.size) (fun q=>hv q.symm),B2.block i hi]
theorem zch (u:List Value) (hu:u.length=18) (w:World):(Instr.buildSlice 66 1 #[(0,.agg u.toArray)]).run prog w=.ok (.slice (some ⟨w.heap.size,0,none⟩) 1 1) (w.alloc (.cells u.toArray 70)):=by
 obtain⟨i1,hi1,hiz,his,hib⟩:=zT infoXc
 exact zaQ 66 70 i1 _ u underlying66 hi1 hiz (by rw[his,hu]) (by omega) (by omega) _
theorem zdW (B:Nat) (N:Int) (q:Bool) (x:Sl Rq) (v:Value) (cs:List Ev) (w:World) (h:OutX w B v cs) (hx:x.At RqE w) (hc:x.Bk (ClX v)) (hn:cs.length+x.xs.length≤1000000000) (hb:∀r∈x.xs,r.s.size≤100000):
  Calls prog 82 #[v,.int .i64 N,.agg #[.bool q,x.val]] w fun en w'=>∃v',en=.returned v'∧OutX w' B v' (cs++batC N x.xs)∧GrX w w' v v':=by
 obtain⟨z19,hzl,hzr⟩:∃z:List Value,z.length=19∧(∀w:World,(zeroValue 81).run prog w=.ok (.agg z.toArray) w):=⟨[.int .i64 0,.int .i64 0,.string ⟨#[]⟩]++v8 (List.replicate 16 0),rfl,fun w=>by kernel_rfl⟩
 obtain⟨B1,r1,s1⟩:=zu w [.bool q,x.val] 39
 have pr0:(w.alloc (.cells [Value.bool q,x.val].toArray 39)).cell? ⟨w.heap.size,1,none⟩=some x.val:=by have:=r1 1 _ rfl;rwa [Nat.zero_add]at this
 have HC0:CX B (w.alloc (.cells [Value.bool q,x.val].toArray 39)) (w.alloc (.cells [Value.bool q,x.val].toArray 39)) v v (cs++(batC N x.xs).take 0):=⟨by rw[List.take_zero,List.append_nil];exact h.below B1,GrX.refl _ _⟩
 have hcA:ClX v w.heap.size:=zcD h (Nat.le_refl _)
 have HB1:=hide (GrX.of B1 v)
 have hx1:=hx.below B1
 obtain⟨xa,xc,xs⟩:=x
 obtain⟨n,hxn⟩:∃n,xs.length=n:=⟨_,rfl⟩
 have hval:(Sl.mk xa xc xs).val=.slice xa n xc:=by unfold Sl.val;rw[←hxn]
 have hn:cs.length+xs.length≤1000000000:=hn
 rw[hval]at r1 pr0 HC0 s1 HB1 hx1 ⊢
 clear hval r1
 have HN:=hide hxn
 have HXX:=hide hx1
 have HCC:=hide hc
 have HB:=hide hb
 have HNN:=hide hn
 clear hx hx1 hc hb hn hxn h B1
 go_enter func82,ntmps82
 go_upto_region 1 with fail
 obtain⟨W,hW⟩:∃W,w.alloc (.cells [Value.bool q,.slice xa n xc].toArray 39)=W:=⟨_,rfl⟩
 have hW':w.alloc (.cells #[Value.bool q,.slice xa n xc] 39)=W:=hW
 rw[hW]at pr0 s1 HC0 HB1 HXX
 rw[hW']
 clear hW hW'
 obtain⟨A,hA⟩:∃A,w.heap.size=A:=⟨_,rfl⟩
 rw[hA]at s1 hcA pr0
 simp only[hA]
 clear hA
 have HC1:=hide HC0
 clear HC0
 go_wp2_with fail
 go_loopw [0,7] (fun vk iv wr=>∃(k:Nat),k≤n∧iv=.int .i64 (k:Int)∧Hid (CX B W wr v vk (cs++(batC N xs).take k))) (fun _ iv _=>n - (intOf iv).toNat)
 case atStart=>exact⟨0,by omega,rfl,HC1⟩
 case round=>
  clear HC1
  obtain⟨k,hk,rfl,HK⟩:=hrel
  obtain⟨vk,rfl⟩:∃v,v=u0:=⟨_,rfl⟩
  have pr:wr.cell? ⟨A,1,none⟩=some (.slice xa n xc):=(HK.out.grow.kp.cell s1 hcA).trans pr0
  by_cases hlt:k<n
  ·have k1:(k:Int)<n:=by omega
   have hn9:n≤1000000000:=by have h1:=HNN.out;have h2:=HN.out;omega
   have hkx:k<xs.length:=by rw[HN.out];exact hlt
   obtain⟨b,off,hab0,hbw,hre0⟩:=(HXX.out.growX HK.out.grow.kp HCC.out).elem k hkx
   have hab:xa=some ⟨b,off,none⟩:=hab0
   have hre:wr.rangeAt b (off+k*19) (RqE.f xs[k]):=hre0
   clear hab0 hre0
   have okx:Rq.ok xs[k]:=HXX.out.2.1 _ (List.getElem_mem hkx)
   have hsz:=HB.out _ (List.getElem_mem hkx)
   have HT:Hid ((batC N xs).take (k+1)=(batC N xs).take k++[⟨IntKind.i64.wrap (N+(xs[k]).c),strOf (Rk.bodyL (xs[k]).c (xs[k]).n (xs[k]).s),(xs[k]).t⟩]):=hide (zby hkx)
   have HL:(cs++(batC N xs).take k).length≤1000000000:=by have:=HNN.out;simp only[List.length_append,List.length_take];omega
   obtain⟨g,hg⟩:∃g,xs[k]=g:=⟨_,rfl⟩
   rw[hg]at hre okx hsz HT
   clear hg
   have hok:=zgo (N:=N) okx hsz
   have cb:=fun w0=>Rk.zid g.c g.n g.s g.t w0 okx.ch okx.nh hsz
   have cb:∀w0,Calls prog 128 #[.agg (RqE.f g).toArray] w0 fun e w'=>e=.returned (.string (strOf (Rk.bodyL g.c g.n g.s)))∧Below w0.heap.size w0 w':=cb
   have hut:RqE.f g=.int .i64 g.c::.int .i64 g.n::.string g.s::v8 g.t:=rfl
   have it16:(prog.info? 23).map (·.size)=some (v8 g.t).length:=by rw[v8_length,okx.tl];exact iszT
   have iu:(prog.info? 81).map (·.size)=some (RqE.f g).length:=by rw[RqE.len g okx];kernel_rfl
   have hul:(RqE.f g).length=19:=RqE.len g okx
   have hu1:=RqE.one g
   obtain⟨id,hid⟩:∃i,IntKind.i64.wrap (N+g.c)=i:=⟨_,rfl⟩
   rw[hid]at HT hok
   have hbc:=fun w0=>zdI id (strOf (Rk.bodyL g.c g.n g.s)) (v8 g.t) (by rw[v8_length,okx.tl]) w0
   obtain⟨u2,hub⟩:∃u,Hid (Ev.cells ⟨id,strOf (Rk.bodyL g.c g.n g.s),g.t⟩=u):=⟨_,hide rfl⟩
   have hbc:∀w0,(Instr.build 70 #[(0,.int .i64 id),(1,.string (strOf (Rk.bodyL g.c g.n g.s))),(2,.agg (v8 g.t).toArray)]).run prog w0=.ok (.agg u2.toArray) w0:=fun w0=>by rw[←hub.out];exact hbc w0
   have hul2:u2.length=18:=by rw[←hub.out];exact EvE.len _ hok
   obtain⟨bd,hbd⟩:∃i,Hid (strOf (Rk.bodyL g.c g.n g.s)=i):=⟨_,hide rfl⟩
   rw[hbd.out]at HT hok hub
   simp only[hbd.out]at cb hbc
   obtain⟨tg,htg⟩:∃t,g.t=t:=⟨_,rfl⟩
   rw[htg]at HT hok it16 hut hub
   simp only[htg]at hbc
   clear okx hsz htg hbd
   have HUT:=hide hut
   clear hut
   obtain⟨u,hu⟩:∃u,Hid (RqE.f g=u):=⟨_,hide rfl⟩
   rw[hu.out]at hre iu hul hu1 HUT
   simp only[hu.out]at cb
   clear hu
   obtain rfl:=hab
   go_upto_region 4 with fail
   obtain⟨r5,hF,hF3,-⟩:=zA wr z19.toArray 81 u (by simp[hzl,hul])
   try simp only[Act.put]
   refine zb ?_
   refine pl_t 16 (?_) (by rfl) ?_ rfl ?_
   rotate_left
   ·go_simp
    try with_reducible rfl
   simp only[nz]
   refine pl_t 17 (.slice (some ⟨b,off,none⟩) n xc) (by rfl) (zg rfl rfl pr underlying37 rfl) rfl ?_
   simp only[nz]
   refine pl_t 18 (?_) (by rfl) ?_ rfl ?_
   rotate_left
   ·go_simp
    try with_reducible rfl
   simp only[nz]
   refine pl_t 19 (.pointer (some ⟨b,off+k*19,none⟩)) (by rfl) (by go_simp<;>(try simp[*])) rfl ?_
   simp only[nz]
   refine pl_t 20 (.agg u.toArray) (by rfl) (zp rfl rfl hre underlying81 rfl iu) rfl ?_
   simp only[nz]
   refine zj (d:=some 8) (v:=.pointer (some ⟨wr.heap.size,0,none⟩)) (w':=wr.alloc (.cells z19.toArray 81)) (by rfl) (zr rfl (hzr _)) rfl ?_
   simp only[nz]
   refine zf (w':=(wr.alloc (.cells z19.toArray 81)).setCells wr.heap.size 0 u) (by rfl) (zn (cs:=u.toArray) rfl rfl rfl (zm _ _ _ (by simp[hzl,hul])) (by simpa using iu) (zo hu1)) rfl ?_
   refine za ?_
   have HC:=HK.out.later hF
   have HX:=zcD HK.out.out (Nat.le_refl _)
   clear HK pr
   obtain⟨X,hX⟩:∃X,wr.heap.size=X:=⟨_,rfl⟩
   simp only[hX]at r5 HC HX hF3 ⊢
   obtain⟨w5,hw5⟩:∃W,(wr.alloc (.cells z19.toArray 81)).setCells X 0 u=W:=⟨_,rfl⟩
   rw[hw5]at r5 HC hF3 ⊢
   have sX:X<w5.heap.size:=by omega
   clear hw5 hX hF hF3 hre
   go_upto_region 5 with fail
   have hdr:Below w5.heap.size w5 w5.drew:=(Below.refl _ _).drew
   have r5:=zd r5 hdr sX
   have HC:=HC.later hdr
   have sX:=Nat.lt_of_lt_of_le sX hdr.size
   refine zG (S:=Kp w5.drew vk) 13 rfl (by kernel_rfl) ?_
   obtain⟨w8,hw8⟩:∃W,w5.drew=W:=⟨_,rfl⟩
   rw[hw8]at r5 HC sX ⊢
   clear hdr hw8
   have hS:Kp w8 vk w8:=Kp.refl _ _
   have c0:w8.cell? ⟨X,0,none⟩=some (.int .i64 g.c):=by simpa using r5 0 _ (by rw[HUT.out];rfl)
   have ct:w8.rangeAt X 3 (v8 tg):=fun j y hy=>by
    have:=r5 (j+3) y (by rw[HUT.out];exact hy)
    rw[show 0+(j+3)=3+j by omega]at this
    exact this
   refine hs_t 0 21 (?_) rfl (by kernel_rfl) (by kernel_rfl) (by kernel_rfl) (by rfl) ?_ hS rfl ?_
   rotate_left
   ·intro w' hw
    go_simp
    try with_reducible rfl
   simp only[nz]
   refine hs_t 1 22 (?_) rfl (by kernel_rfl) (by kernel_rfl) (by kernel_rfl) (by rfl) ?_ hS rfl ?_
   rotate_left
   ·intro w' hw
    go_simp
    try with_reducible rfl
   simp only[nz]
   refine hs_t 2 23 (?_) rfl (by kernel_rfl) (by kernel_rfl) (by kernel_rfl) (by rfl) ?_ hS rfl ?_
   rotate_left
   ·intro w' hw
    go_simp
    try with_reducible rfl
   simp only[nz]
   refine hs_t 3 24 (.int .i64 g.c) rfl (by kernel_rfl) (by kernel_rfl) (by kernel_rfl) (by rfl) (fun w' hw=>zg rfl rfl ((hw.cell (j:=0) sX HX).trans c0) underlying3 rfl) hS rfl ?_
   simp only[nz]
   refine hs_t 4 25 (.int .i64 id) rfl (by kernel_rfl) (by kernel_rfl) (by kernel_rfl) (by rfl) (fun w' hw=>by go_simp<;>(try simp[hid])) hS rfl ?_
   simp only[nz]
   refine hs_t 5 26 (.agg u.toArray) rfl (by kernel_rfl) (by kernel_rfl) (by kernel_rfl) (by rfl) (fun w' hw=>zp rfl rfl (hw.range sX HX r5) underlying81 rfl iu) hS rfl ?_
   simp only[nz]
   refine hs_t 7 28 (?_) rfl (by kernel_rfl) (by kernel_rfl) (by kernel_rfl) (by rfl) ?_ hS rfl ?_
   rotate_left
   ·intro w' hw
    go_simp
    try with_reducible rfl
   simp only[nz]
   refine hs_t 8 29 (.agg (v8 tg).toArray) rfl (by kernel_rfl) (by kernel_rfl) (by kernel_rfl) (by rfl) (fun w' hw=>zp rfl rfl (hw.range sX HX ct) underlying23 rfl it16) hS rfl ?_
   simp only[nz]
   refine zx (i:=6) (d:=some 27) rfl (by kernel_rfl) (by rfl) (by go_simp;first|done|exact⟨rfl,rfl⟩|with_reducible rfl) rfl ?_
   refine(cb w8).mono ?_
   rintro _ wb ⟨rfl,hbb⟩
   have hS:Kp w8 vk wb:=hS.below hbb
   have HC:=HC.later hbb
   refine⟨_,rfl,hS,?_⟩
   simp only[nz]
   refine hs_t 9 30 (.agg u2.toArray) rfl (by kernel_rfl) (by kernel_rfl) (by kernel_rfl) (by rfl) (fun w' hw=>zR (parts:=[(0,.tmp 25),(1,.tmp 27),(2,.tmp 29)]) (vs:=[(0,.int .i64 id),(1,.string bd),(2,.agg (v8 tg).toArray)]) rfl (by first|with_reducible rfl|rfl|simp[Act.eval]) (hbc _)) hS rfl ?_
   simp only[nz]
   obtain⟨v6,w6,hrun,ho6,hg6⟩:=xapp HC.out hok HL
   rw[hub.out]at hrun
   have hS2:Kp w8 vk (wb.alloc (.cells u2.toArray 70)):=hS.below ((Below.refl _ _).alloc (Nat.le_refl _) _)
   refine zaa (i:=10) (d:=some 31) (v:=.slice (some ⟨wb.heap.size,0,none⟩) 1 1) (w':=wb.alloc (.cells u2.toArray 70)) rfl (by kernel_rfl) (by rfl) (zaB rfl rfl (zch u2 hul2 _)) rfl hS2 ?_
   simp only[nz]
   have hS:Kp w8 vk w6:=hS.gr hg6
   refine zaa (i:=11) (d:=some 32) (v:=v6) (w':=w6) rfl (by kernel_rfl) (by rfl) (zbu rfl rfl rfl hrun) rfl hS ?_
   simp only[nz]
   refine hs_t 12 0 (?_) rfl (by kernel_rfl) (by kernel_rfl) (by kernel_rfl) (by rfl) ?_ hS rfl ?_
   rotate_left
   ·intro w' hw
    go_simp
    try with_reducible rfl
   simp only[nz]
   refine zE (by kernel_rfl) ?_
   have HD:Hid (CX B W w6 v v6 (cs++(batC N xs).take (k+1))):=hide (by
    rw[HT.out,←List.append_assoc]
    exact HC.add ho6 hg6)
   clear HC ho6 hg6 hS hS2 HX r5 c0 ct hbb cb HT iu it16 hul hu1 HUT hzr hzl hid hbc hul2 hrun hok
   go_wp2_with fail
   go_roundw
   case rel=>exact⟨k+1,by omega,by go_num,HD⟩
   case measure=>simp[intOf];omega
  ·obtain rfl:k=n:=by omega
   have HE:Hid (OutX wr B vk (cs++batC N xs)∧GrX w wr v vk):=hide (by
    have h1:=HK.out.out
    rw[List.take_of_length_le (by unfold batC;rw[List.length_map,HN.out];exact Nat.le_refl _)]at h1
    exact⟨h1,HB1.out.trans HK.out.grow⟩)
   clear HK hlt
   go_wp2_with fail
   go_ret
   exact⟨vk,rfl,HE.out⟩
theorem zdV (B:Nat) (vt:Vt) (x:Sl Sg) (v:Value) (cs:List Ev) (w:World) (h:OutX w B v cs) (hvt:vt.ok) (hx:x.At SgE w) (hc:x.Bk (ClX v)) (hn:cs.length+x.xs.length≤1000000000):
  Calls prog 83 #[v,.agg (certL vt x).toArray] w fun en w'=>∃v',en=.returned v'∧OutX w' B v' (cs++cerC vt x.xs)∧GrX w w' v v':=by
 have cv:=fun w0=>zgt vt hvt w0
 have hvl:=hvt.len
 obtain⟨B1,r1,s1⟩:=zu w (certL vt x) 50
 have r1v:(w.alloc (.cells (certL vt x).toArray 50)).rangeAt w.heap.size 0 vt.cells:=zP r1
 have pr0:(w.alloc (.cells (certL vt x).toArray 50)).cell? ⟨w.heap.size,36,none⟩=some x.val:=by
  have:=zZ r1 0 _ rfl
  simpa [hvl]using this
 have HC0:CX B (w.alloc (.cells (certL vt x).toArray 50)) (w.alloc (.cells (certL vt x).toArray 50)) v v (cs++(cerC vt x.xs).take 0):=⟨by rw[List.take_zero,List.append_nil];exact h.below B1,GrX.refl _ _⟩
 have hcA:ClX v w.heap.size:=zcD h (Nat.le_refl _)
 have HB1:=hide (GrX.of B1 v)
 have hx1:=hx.below B1
 have iv:(prog.info? 43).map (·.size)=some vt.cells.length:=by rw[hvl];kernel_rfl
 obtain⟨bv,hbv⟩:∃b,Hid (optS vt.may (voteL vt)=b):=⟨_,hide rfl⟩
 simp only[hbv.out]at cv
 obtain⟨xa,xc,xs⟩:=x
 obtain⟨n,hxn⟩:∃n,xs.length=n:=⟨_,rfl⟩
 have hval:(Sl.mk xa xc xs).val=.slice xa n xc:=by unfold Sl.val;rw[←hxn]
 have hn:cs.length+xs.length≤1000000000:=hn
 rw[hval]at pr0
 obtain⟨q,hq⟩:∃q,Hid (certL vt ⟨xa,xc,xs⟩=q):=⟨_,hide rfl⟩
 rw[hq.out]at pr0 HC0 s1 HB1 hx1 r1v ⊢
 obtain⟨vc,hvc⟩:∃q,Hid (vt.cells=q):=⟨_,hide rfl⟩
 rw[hvc.out]at iv r1v
 simp only[hvc.out]at cv
 clear hval r1 hvl hq hvc
 have HN:=hide hxn
 have HXX:=hide hx1
 have HCC:=hide hc
 have HNN:=hide hn
 have HVT:=hide hvt
 clear hx hx1 hc hn hxn h B1 hvt
 go_enter func83,ntmps83
 go_upto_region 1 with fail
 obtain⟨W,hW⟩:∃W,w.alloc (.cells q.toArray 50)=W:=⟨_,rfl⟩
 rw[hW]at pr0 s1 HC0 HB1 HXX r1v ⊢
 clear hW
 obtain⟨A,hA⟩:∃A,w.heap.size=A:=⟨_,rfl⟩
 rw[hA]at s1 hcA pr0 r1v
 simp only[hA]
 clear hA
 have HC1:Hid (CX B W W v v (cs++(cerC vt xs).take 0)):=hide HC0
 clear HC0
 go_wp2_with fail
 go_loopw [0,5] (fun vk iv wr=>∃(k:Nat),k≤n∧iv=.int .i64 (k:Int)∧Hid (CX B W wr v vk (cs++(cerC vt xs).take k))) (fun _ iv _=>n - (intOf iv).toNat)
 case atStart=>exact⟨0,by omega,rfl,HC1⟩
 case round=>
  clear HC1
  obtain⟨k,hk,rfl,HK⟩:=hrel
  obtain⟨vk,rfl⟩:∃v,v=u0:=⟨_,rfl⟩
  have pr:wr.cell? ⟨A,36,none⟩=some (.slice xa n xc):=(HK.out.grow.kp.cell s1 hcA).trans pr0
  by_cases hlt:k<n
  ·have k1:(k:Int)<n:=by omega
   have hn9:n≤1000000000:=by have h1:=HNN.out;have h2:=HN.out;omega
   have hkx:k<xs.length:=by rw[HN.out];exact hlt
   obtain⟨b,off,hab,hbW,hreW⟩:=HXX.out.elem k hkx
   have hab:xa=some ⟨b,off,none⟩:=hab
   have hcb0:ClX v b:=HCC.out ⟨b,off,none⟩ (by intro h0;have h0:xs=[]:=h0;rw[h0]at hkx;exact absurd hkx (Nat.not_lt_zero _)) hab
   have hre:wr.rangeAt b (off+k*17) (SgE.f xs[k]):=HK.out.grow.kp.range hbW hcb0 hreW
   have sb:b<wr.heap.size:=Nat.lt_of_lt_of_le hbW HK.out.grow.kp.size
   have hcb:ClX vk b:=HK.out.grow.ne hbW hcb0
   have sAr:A<wr.heap.size:=Nat.lt_of_lt_of_le s1 HK.out.grow.kp.size
   have hcAr:ClX vk A:=HK.out.grow.ne s1 hcA
   have okx:Sg.ok xs[k]:=HXX.out.2.1 _ (List.getElem_mem hkx)
   have HT:Hid ((cerC vt xs).take (k+1)=(cerC vt xs).take k++[⟨(xs[k]).n,optS vt.may (voteL vt),(xs[k]).t⟩]):=hide (zby hkx)
   have HL:(cs++(cerC vt xs).take k).length≤1000000000:=by have:=HNN.out;simp only[List.length_append,List.length_take];omega
   clear hreW hbW hcb0
   obtain⟨g,hg⟩:∃g,xs[k]=g:=⟨_,rfl⟩
   rw[hg]at hre okx HT
   clear hg
   have hok:Ev.ok ⟨g.n,optS vt.may (voteL vt),g.t⟩:=zf2 HVT.out okx
   have hut:SgE.f g=.int .i64 g.n::v8 g.t:=rfl
   have it16:(prog.info? 23).map (·.size)=some (v8 g.t).length:=by rw[v8_length,okx.tl];exact iszT
   obtain⟨u2,hub⟩:∃u,Hid (Ev.cells ⟨g.n,optS vt.may (voteL vt),g.t⟩=u):=⟨_,hide rfl⟩
   have hbc:∀w0,(Instr.build 70 #[(0,.int .i64 g.n),(1,.string bv),(2,.agg (v8 g.t).toArray)]).run prog w0=.ok (.agg u2.toArray) w0:=fun w0=>by
    rw[←hub.out,hbv.out]
    exact zdI g.n bv (v8 g.t) (by rw[v8_length,okx.tl]) w0
   have hul2:u2.length=18:=by rw[←hub.out];exact EvE.len _ hok
   obtain⟨id,hid⟩:∃i,g.n=i:=⟨_,rfl⟩
   obtain⟨tg,htg⟩:∃t,g.t=t:=⟨_,rfl⟩
   rw[hid,htg]at HT hok hub
   rw[hid]at hut
   rw[htg]at hut it16
   simp only[hid,htg]at hbc
   rw[hbv.out]at HT hok hub
   clear okx htg hid
   rw[hut]at hre
   clear hut
   obtain rfl:=hab
   have hlo:(xs.length:Int)=(n:Int):=by rw[HN.out]
   go_upto_region 4 with fail
   have hdr:Below wr.heap.size wr wr.drew:=(Below.refl _ _).drew
   have hre:=zd hre hdr sb
   have r1v:=zd ((HK.out.grow.kp.range s1 hcA r1v)) hdr sAr
   have pr:=(hdr.cell (p:=⟨A,36,none⟩) sAr).trans pr
   have HC:=HK.out.later hdr
   have sb8:=Nat.lt_of_lt_of_le sb hdr.size
   have sA8:=Nat.lt_of_lt_of_le sAr hdr.size
   have hcb8:=hcb
   have hcA8:=hcAr
   refine zG (S:=Kp wr.drew vk) 20 rfl (by kernel_rfl) ?_
   obtain⟨w8,hw8⟩:∃W,wr.drew=W:=⟨_,rfl⟩
   rw[hw8]at hre r1v pr HC sb8 sA8 ⊢
   clear hdr hw8 HK sb sAr hcb hcAr
   have hS:Kp w8 vk w8:=Kp.refl _ _
   have c0:w8.cell? ⟨b,off+k*17,none⟩=some (.int .i64 id):=by simpa using hre 0 _ rfl
   have ct:w8.rangeAt b (off+k*17+1) (v8 tg):=fun j y hy=>by
    have:=hre (j+1) y (by simpa using hy)
    rw[show off+k*17+(j+1)=off+k*17+1+j by omega]at this
    exact this
   refine hs_t 0 13 (?_) rfl (by kernel_rfl) (by kernel_rfl) (by kernel_rfl) (by rfl) ?_ hS rfl ?_
   rotate_left
   ·intro w' hw
    go_simp
    try with_reducible rfl
   simp only[nz]
   refine hs_t 1 14 (?_) rfl (by kernel_rfl) (by kernel_rfl) (by kernel_rfl) (by rfl) ?_ hS rfl ?_
   rotate_left
   ·intro w' hw
    go_simp
    try with_reducible rfl
   simp only[nz]
   refine hs_t 2 15 (.slice (some ⟨b,off,none⟩) n xc) rfl (by kernel_rfl) (by kernel_rfl) (by kernel_rfl) (by rfl) (fun w' hw=>zg rfl rfl ((hw.cell (j:=36) sA8 hcA8).trans pr) underlying48 rfl) hS rfl ?_
   simp only[nz]
   refine hs_t 3 16 (?_) rfl (by kernel_rfl) (by kernel_rfl) (by kernel_rfl) (by rfl) ?_ hS rfl ?_
   rotate_left
   ·intro w' hw
    go_simp
    try with_reducible rfl
   simp only[nz]
   refine hs_t 4 17 (.pointer (some ⟨b,off+k*17,none⟩)) rfl (by kernel_rfl) (by kernel_rfl) (by kernel_rfl) (by rfl) (fun w' hw=>by go_simp<;>(try simp[*])) hS rfl ?_
   simp only[nz]
   refine hs_t 5 18 (.pointer (some ⟨b,off+k*17,none⟩)) rfl (by kernel_rfl) (by kernel_rfl) (by kernel_rfl) (by rfl) (fun w' hw=>by go_simp<;>(try simp[*])) hS rfl ?_
   simp only[nz]
   refine hs_t 6 19 (.int .i64 id) rfl (by kernel_rfl) (by kernel_rfl) (by kernel_rfl) (by rfl) (fun w' hw=>zg rfl rfl ((hw.cell (j:=off+k*17) sb8 hcb8).trans c0) underlying3 rfl) hS rfl ?_
   simp only[nz]
   refine hs_t 7 20 (?_) rfl (by kernel_rfl) (by kernel_rfl) (by kernel_rfl) (by rfl) ?_ hS rfl ?_
   rotate_left
   ·intro w' hw
    go_simp
    try with_reducible rfl
   simp only[nz]
   refine hs_t 8 21 (.agg vc.toArray) rfl (by kernel_rfl) (by kernel_rfl) (by kernel_rfl) (by rfl) (fun w' hw=>zp rfl rfl (hw.range sA8 hcA8 r1v) underlying43 rfl iv) hS rfl ?_
   simp only[nz]
   refine hs_t 10 23 (?_) rfl (by kernel_rfl) (by kernel_rfl) (by kernel_rfl) (by rfl) ?_ hS rfl ?_
   rotate_left
   ·intro w' hw
    go_simp
    try with_reducible rfl
   simp only[nz]
   refine hs_t 11 24 (.slice (some ⟨b,off,none⟩) n xc) rfl (by kernel_rfl) (by kernel_rfl) (by kernel_rfl) (by rfl) (fun w' hw=>zg rfl rfl ((hw.cell (j:=36) sA8 hcA8).trans pr) underlying48 rfl) hS rfl ?_
   simp only[nz]
   refine hs_t 12 25 (?_) rfl (by kernel_rfl) (by kernel_rfl) (by kernel_rfl) (by rfl) ?_ hS rfl ?_
   rotate_left
   ·intro w' hw
    go_simp
    try with_reducible rfl
   simp only[nz]
   refine hs_t 13 26 (.pointer (some ⟨b,off+k*17,none⟩)) rfl (by kernel_rfl) (by kernel_rfl) (by kernel_rfl) (by rfl) (fun w' hw=>by go_simp<;>(try simp[*])) hS rfl ?_
   simp only[nz]
   refine hs_t 14 27 (.pointer (some ⟨b,off+k*17+1,none⟩)) rfl (by kernel_rfl) (by kernel_rfl) (by kernel_rfl) (by rfl) (fun w' hw=>by go_simp<;>(try simp[*])) hS rfl ?_
   simp only[nz]
   refine hs_t 15 28 (.agg (v8 tg).toArray) rfl (by kernel_rfl) (by kernel_rfl) (by kernel_rfl) (by rfl) (fun w' hw=>zp rfl rfl (hw.range sb8 hcb8 ct) underlying23 rfl it16) hS rfl ?_
   simp only[nz]
   refine zx (i:=9) (d:=some 22) rfl (by kernel_rfl) (by rfl) (by go_simp;first|done|exact⟨rfl,rfl⟩|with_reducible rfl) rfl ?_
   refine(cv w8).mono ?_
   rintro _ wb ⟨rfl,hbb⟩
   have hS:Kp w8 vk wb:=hS.below hbb
   have HC:=HC.later hbb
   refine⟨_,rfl,hS,?_⟩
   simp only[nz]
   refine hs_t 16 29 (.agg u2.toArray) rfl (by kernel_rfl) (by kernel_rfl) (by kernel_rfl) (by rfl) (fun w' hw=>zR (parts:=[(0,.tmp 19),(1,.tmp 22),(2,.tmp 28)]) (vs:=[(0,.int .i64 id),(1,.string bv),(2,.agg (v8 tg).toArray)]) rfl (by first|with_reducible rfl|rfl|simp[Act.eval]) (hbc _)) hS rfl ?_
   simp only[nz]
   obtain⟨v6,w6,hrun,ho6,hg6⟩:=xapp HC.out hok HL
   rw[hub.out]at hrun
   have hS2:Kp w8 vk (wb.alloc (.cells u2.toArray 70)):=hS.below ((Below.refl _ _).alloc (Nat.le_refl _) _)
   refine zaa (i:=17) (d:=some 30) (v:=.slice (some ⟨wb.heap.size,0,none⟩) 1 1) (w':=wb.alloc (.cells u2.toArray 70)) rfl (by kernel_rfl) (by rfl) (zaB rfl rfl (zch u2 hul2 _)) rfl hS2 ?_
   simp only[nz]
   have hS:Kp w8 vk w6:=hS.gr hg6
   refine zaa (i:=18) (d:=some 31) (v:=v6) (w':=w6) rfl (by kernel_rfl) (by rfl) (zbu rfl rfl rfl hrun) rfl hS ?_
   simp only[nz]
   refine hs_t 19 0 (?_) rfl (by kernel_rfl) (by kernel_rfl) (by kernel_rfl) (by rfl) ?_ hS rfl ?_
   rotate_left
   ·intro w' hw
    go_simp
    try with_reducible rfl
   simp only[nz]
   refine zE (by kernel_rfl) ?_
   have HD:Hid (CX B W w6 v v6 (cs++(cerC vt xs).take (k+1))):=hide (by
    rw[HT.out,←List.append_assoc]
    exact HC.add ho6 hg6)
   clear HC ho6 hg6 hS hS2 hre r1v c0 ct HT it16 hbc hul2 hrun hok sb8 sA8 hcb8 hcA8 pr
   go_wp2_with fail
   go_roundw
   case rel=>exact⟨k+1,by omega,by go_num,HD⟩
   case measure=>simp[intOf];omega
  ·obtain rfl:k=n:=by omega
   have HE:Hid (OutX wr B vk (cs++cerC vt xs)∧GrX w wr v vk):=hide (by
    have h1:=HK.out.out
    rw[List.take_of_length_le (by rw[zaN,HN.out];exact Nat.le_refl _)]at h1
    exact⟨h1,HB1.out.trans HK.out.grow⟩)
   clear HK hlt
   go_wp2_with fail
   go_ret
   exact⟨vk,rfl,HE.out⟩
def ownX (N:Int) (m:Mp):List Ev:=batC N m.rs++heC N m.he++(if m.k=7 then cerC m.ct m.cs else[])++sgC m.sg
theorem ziF (w:World):OutX w w.heap.size (.slice none 0 0) []:=⟨World.ownsRow_nil w _ _ _,(fun _ h=>absurd h List.not_mem_nil),Nat.le_refl _⟩
theorem zfY (b:Nat):ClX (.slice none 0 0) b:=fun e=>by cases e
theorem zgz (N:Int) (m:Mg) (w:World) (mo:m.ok) (ma0:m.At w) (hn:m.rs.xs.length+m.cs.xs.length+(heC N (m.he.xs.map Hd.pure)).length+m.sg.xs.length≤1000000000) (hsm:Small m):
  Calls prog 54 #[.int .i64 N,.agg m.ms.cells.toArray] w fun en w'=>∃v',en=.returned v'∧OutX w' w.heap.size v' (ownX N m.pure)∧Below w.heap.size w w':=by
 obtain⟨cs,hcs0⟩:∃c:List Ev,c=[]:=⟨_,rfl⟩
 have HN:Hid (cs.length+(m.rs.xs.length+m.cs.xs.length+(heC N (m.he.xs.map Hd.pure)).length+m.sg.xs.length)≤1000000000):=hide (by rw[hcs0];simpa using hn)
 obtain⟨v,hv0⟩:∃v:Value,v=.slice none 0 0:=⟨_,rfl⟩
 obtain⟨B1,r1,sA⟩:=zu w m.ms.cells 52
 have MA:m.ms.at (w.alloc (.cells m.ms.cells.toArray 52)) w.heap.size:=mo.ms.at r1
 obtain⟨B,hB0⟩:∃b,w.heap.size=b:=⟨_,rfl⟩
 have hx0:OutX w B v cs:=by rw[hv0,hcs0,←hB0];exact ziF w
 have HC0:CX B (w.alloc (.cells m.ms.cells.toArray 52)) (w.alloc (.cells m.ms.cells.toArray 52)) v v cs:=⟨hx0.below B1,GrX.refl _ _⟩
 have ma:=ma0.below B1
 have hcl:∀b,ClX v b:=fun b=>by rw[hv0];exact zfY b
 have mb:m.Bk (ClX v):=⟨fun b _ _=>hcl _,fun b _ _=>hcl _,fun y _=>⟨fun b _ _=>hcl _,fun b _ _=>hcl _⟩,fun b _ _=>hcl _,fun b _ _=>hcl _,fun b _ _=>hcl _⟩
 have hcA:ClX v w.heap.size:=hcl _
 have iC:(prog.info? 50).map (·.size)=some (certL m.ct m.cs).length:=by unfold certL;rw[List.length_append,mo.ct.len];kernel_rfl
 have HB1:=hide B1
 have rB:(w.alloc (.cells m.ms.cells.toArray 52)).rangeAt w.heap.size 5 [.bool m.q,m.rs.val]:=zcn MA.q MA.rs
 have rC0:(w.alloc (.cells m.ms.cells.toArray 52)).rangeAt w.heap.size 80 (certL m.ct m.cs):=MA.ct
 have pH0:(w.alloc (.cells m.ms.cells.toArray 52)).cell? ⟨w.heap.size,46,none⟩=some m.he.val:=MA.he
 have pS0:(w.alloc (.cells m.ms.cells.toArray 52)).cell? ⟨w.heap.size,118,none⟩=some m.sg.val:=MA.sg
 have pK0:(w.alloc (.cells m.ms.cells.toArray 52)).cell? ⟨w.heap.size,0,none⟩=some (.int .i64 m.k):=MA.k
 have HV0:=hide hv0
 have HC00:=hide hcs0
 clear MA r1 ma0 hn B1 hx0 hcl hv0 hcs0
 obtain⟨q,hq⟩:∃q,m.ms.cells=q:=⟨_,rfl⟩
 rw[hq]at sA HC0 ma HB1 rB rC0 pH0 pS0 pK0
 rw[hq]
 clear hq
 rw[hB0]at hcA sA rB rC0 pH0 pS0 pK0
 have HB0:=hide hB0
 clear hB0
 go_enter func54,ntmps54
 go_upto_region 2 with fail
 obtain⟨W,hW⟩:∃W,w.alloc (.cells q.toArray 52)=W:=⟨_,rfl⟩
 rw[hW]at sA HC0 ma HB1 rB rC0 pH0 pS0 pK0 ⊢
 clear hW
 simp only[HB0.out]
 rw[←HV0.out]
 obtain⟨A,hA⟩:∃A,B=A:=⟨_,rfl⟩
 have sA:A<W.heap.size:=by rw[←hA];exact sA
 have hcA:ClX v A:=by rw[←hA];exact hcA
 rw[hA]at rB rC0 pH0 pS0 pK0
 have HBA:=hide hA
 simp only[hA]
 clear hA
 try simp only[Act.put]
 refine zb ?_
 refine pl_t 8 (?_) (by rfl) ?_ rfl ?_
 rotate_left
 ·go_simp
  try with_reducible rfl
 simp only[nz]
 refine pl_t 9 (?_) (by rfl) ?_ rfl ?_
 rotate_left
 ·go_simp
  try with_reducible rfl
 simp only[nz]
 refine pl_t 10 (?_) (by rfl) ?_ rfl ?_
 rotate_left
 ·go_simp
  try with_reducible rfl
 simp only[nz]
 refine pl_t 11 (.agg #[.bool m.q,m.rs.val]) (by rfl) (zp (cs:=[.bool m.q,m.rs.val]) rfl rfl rB underlying39 rfl (iszBaV _ _)) rfl ?_
 simp only[nz]
 refine ze (d:=some 12) (by rfl) (by go_simp;first|done|exact⟨rfl,rfl⟩|with_reducible rfl) rfl ?_
 refine(zdW B N m.q m.rs v cs W HC0.out ma.rs mb.1 (by have:=HN.out;omega) hsm.rs).mono ?_
 rintro _ w1 ⟨v1,rfl,o1,g1⟩
 refine⟨_,rfl,?_⟩
 simp only[nz]
 refine pl_t 5 (?_) (by rfl) ?_ rfl ?_
 rotate_left
 ·go_simp
  try with_reducible rfl
 simp only[nz]
 refine za ?_
 have HC1:=HC0.add o1 g1
 clear rB o1 g1 HC0
 obtain⟨C2,hC2⟩:∃C,Hid (cs++batC N m.rs.xs=C):=⟨_,hide rfl⟩
 rw[hC2.out]at HC1
 have hC2l:C2.length=cs.length+m.rs.xs.length:=by rw[←hC2.out];simp only[List.length_append,zaH]
 obtain⟨⟨ha,hc,hs⟩,hhe⟩:∃x,m.he=x:=⟨_,rfl⟩
 obtain⟨hl,hhl⟩:∃n,hs.length=n:=⟨_,rfl⟩
 have hval:(m.he).val=.slice ha hl hc:=by rw[hhe];unfold Sl.val;rw[←hhl]
 rw[hval]at pH0
 clear hval
 have HH:=hide hhe
 have HL2:Hid (hs.length=hl):=hide hhl
 have HA:=hide ma
 have HB:=hide mb
 clear hhe hhl ma
 have HC3:Hid (CX B W w1 v v1 (C2++heC N ((hs.map Hd.pure).take 0))):=hide (by simpa [heC]using HC1)
 clear HC1
 go_wp2_with fail
 go_loopw [5,6] (fun vk iv wr=>∃(k:Nat),k≤hl∧iv=.int .i64 (k:Int)∧Hid (CX B W wr v vk (C2++heC N ((hs.map Hd.pure).take k)))) (fun _ iv _=>hl - (intOf iv).toNat)
 case atStart=>exact⟨0,by omega,rfl,HC3⟩
 case round=>
  clear HC3
  obtain⟨k,hk,rfl,HK⟩:=hrel
  obtain⟨vk,rfl⟩:∃v,v=u5:=⟨_,rfl⟩
  have pH:wr.cell? ⟨A,46,none⟩=some (.slice ha hl hc):=(HK.out.grow.kp.cell sA hcA).trans pH0
  by_cases hlt:k<hl
  ·have k1:(k:Int)<hl:=by omega
   have hl9:hl≤9223372036854775807:=by
    have h1:=HA.out.he.1.1
    rw[HH.out]at h1
    have h2:hs.length≤maxLen:=h1
    rw[HL2.out]at h2
    unfold maxLen at h2
    omega
   have hkx:k<hs.length:=by rw[HL2.out];exact hlt
   have hatW:HdsAt W ⟨ha,hc,hs⟩:=by
    have:=HA.out.he
    rw[HH.out]at this
    exact this
   obtain⟨b,off,hab,hbW,hreW⟩:=hatW.1.elem k hkx
   have hab:ha=some ⟨b,off,none⟩:=hab
   have hcb0:ClX v b:=by
    have:=HB.out.2.1
    rw[HH.out]at this
    exact this ⟨b,off,none⟩ (by intro h0;have h0:hs=[]:=h0;rw[h0]at hkx;exact absurd hkx (Nat.not_lt_zero _)) hab
   have hre:wr.rangeAt b (off+k*39) (HdE.f hs[k]):=HK.out.grow.kp.range hbW hcb0 hreW
   have sb:b<wr.heap.size:=Nat.lt_of_lt_of_le hbW HK.out.grow.kp.size
   have hcb:ClX vk b:=HK.out.grow.ne hbW hcb0
   have sAr:A<wr.heap.size:=Nat.lt_of_lt_of_le sA HK.out.grow.kp.size
   have hcAr:ClX vk A:=HK.out.grow.ne sA hcA
   have hmem:hs[k]∈m.he.xs:=by rw[HH.out];exact List.getElem_mem hkx
   have gbk0:=HB.out.2.2.1 _ hmem
   have gat0:=HA.out.he.2 _ hmem
   have gat:(hs[k]).At wr:=⟨gat0.1.growX HK.out.grow.kp gbk0.1,gat0.2.growX HK.out.grow.kp gbk0.2⟩
   have gbk:(hs[k]).Bk (ClX vk):=⟨gbk0.1.growX gat0.1 HK.out.grow,gbk0.2.growX gat0.2 HK.out.grow⟩
   have gsm:=hsm.he _ hmem
   have okx:Vt.ok (hs[k]).vt:=hatW.1.2.1 _ (List.getElem_mem hkx)
   have HT:Hid (heC N ((hs.map Hd.pure).take (k+1))=heC N ((hs.map Hd.pure).take k)++(batC N (hs[k]).rs.xs++cerC (hs[k]).vt (hs[k]).sg.xs)):=hide (by
    rw[zfz (by simpa using hkx)]
    simp[hdC,Hd.pure])
   have HL:Hid ((C2++heC N ((hs.map Hd.pure).take k)).length+(hs[k]).rs.xs.length+(hs[k]).sg.xs.length≤1000000000):=hide (by
    have h1:=zfA N (hs.map Hd.pure) (k+1)
    rw[HT.out]at h1
    simp only[List.length_append,zaH,zaN]at h1 ⊢
    have h2:=HN.out
    rw[HH.out]at h2
    simp only at h2
    omega)
   clear hatW gbk0 gat0 hreW hbW hcb0
   obtain⟨g,hg⟩:∃g,hs[k]=g:=⟨_,rfl⟩
   rw[hg]at hre gat gbk gsm okx HT HL
   clear hg hmem
   have gvt:=okx
   have hgf:HdE.f g=.bool g.q::g.rs.val::certL g.vt g.sg:=rfl
   have iG:(prog.info? 50).map (·.size)=some (certL g.vt g.sg).length:=by unfold certL;rw[List.length_append,okx.len];kernel_rfl
   rw[hgf]at hre
   clear hgf okx
   obtain rfl:=hab
   go_upto_region 6 with fail
   have hdr:Below wr.heap.size wr wr.drew:=(Below.refl _ _).drew
   have hre:=zd hre hdr sb
   have pH:=(hdr.cell (p:=⟨A,46,none⟩) sAr).trans pH
   have HC:=HK.out.later hdr
   have gat:=gat.below hdr
   have sb8:=Nat.lt_of_lt_of_le sb hdr.size
   have sA8:=Nat.lt_of_lt_of_le sAr hdr.size
   have hcb8:=hcb
   have hcA8:=hcAr
   refine zG (S:=Kp wr.drew vk) 19 rfl (by kernel_rfl) ?_
   obtain⟨w8,hw8⟩:∃W,wr.drew=W:=⟨_,rfl⟩
   rw[hw8]at hre pH HC sb8 sA8 gat ⊢
   clear hdr hw8 HK sb sAr hcb hcAr
   have hS:Kp w8 vk w8:=Kp.refl _ _
   have rB:w8.rangeAt b (off+k*39) [.bool g.q,g.rs.val]:=zcn (by simpa using hre 0 _ rfl) (hre 1 _ rfl)
   have rC:w8.rangeAt b (off+k*39+2) (certL g.vt g.sg):=fun j y hy=>by
    have:=hre (j+2) y (by simpa using hy)
    rw[show off+k*39+(j+2)=off+k*39+2+j by omega]at this
    exact this
   refine hs_t 0 21 (?_) rfl (by kernel_rfl) (by kernel_rfl) (by kernel_rfl) (by rfl) ?_ hS rfl ?_
   rotate_left
   ·intro w' hw
    go_simp
    try with_reducible rfl
   simp only[nz]
   refine hs_t 1 22 (?_) rfl (by kernel_rfl) (by kernel_rfl) (by kernel_rfl) (by rfl) ?_ hS rfl ?_
   rotate_left
   ·intro w' hw
    go_simp
    try with_reducible rfl
   simp only[nz]
   refine hs_t 2 23 (?_) rfl (by kernel_rfl) (by kernel_rfl) (by kernel_rfl) (by rfl) ?_ hS rfl ?_
   rotate_left
   ·intro w' hw
    go_simp
    try with_reducible rfl
   simp only[nz]
   refine hs_t 3 24 (?_) rfl (by kernel_rfl) (by kernel_rfl) (by kernel_rfl) (by rfl) ?_ hS rfl ?_
   rotate_left
   ·intro w' hw
    go_simp
    try with_reducible rfl
   simp only[nz]
   refine hs_t 4 25 (.slice (some ⟨b,off,none⟩) hl hc) rfl (by kernel_rfl) (by kernel_rfl) (by kernel_rfl) (by rfl) (fun w' hw=>zg rfl rfl ((hw.cell (j:=46) sA8 hcA8).trans pH) underlying44 rfl) hS rfl ?_
   simp only[nz]
   refine hs_t 5 26 (?_) rfl (by kernel_rfl) (by kernel_rfl) (by kernel_rfl) (by rfl) ?_ hS rfl ?_
   rotate_left
   ·intro w' hw
    go_simp
    try with_reducible rfl
   simp only[nz]
   refine hs_t 6 27 (.pointer (some ⟨b,off+k*39,none⟩)) rfl (by kernel_rfl) (by kernel_rfl) (by kernel_rfl) (by rfl) (fun w' hw=>by go_simp<;>(try simp[*])) hS rfl ?_
   simp only[nz]
   refine hs_t 7 28 (.pointer (some ⟨b,off+k*39,none⟩)) rfl (by kernel_rfl) (by kernel_rfl) (by kernel_rfl) (by rfl) (fun w' hw=>by go_simp<;>(try simp[*])) hS rfl ?_
   simp only[nz]
   refine hs_t 8 29 (.agg #[.bool g.q,g.rs.val]) rfl (by kernel_rfl) (by kernel_rfl) (by kernel_rfl) (by rfl) (fun w' hw=>zp (cs:=[.bool g.q,g.rs.val]) rfl rfl (hw.range sb8 hcb8 rB) underlying39 rfl (iszBaV _ _)) hS rfl ?_
   simp only[nz]
   refine hs_t 10 31 (?_) rfl (by kernel_rfl) (by kernel_rfl) (by kernel_rfl) (by rfl) ?_ hS rfl ?_
   rotate_left
   ·intro w' hw
    go_simp
    try with_reducible rfl
   simp only[nz]
   refine hs_t 11 32 (?_) rfl (by kernel_rfl) (by kernel_rfl) (by kernel_rfl) (by rfl) ?_ hS rfl ?_
   rotate_left
   ·intro w' hw
    go_simp
    try with_reducible rfl
   simp only[nz]
   refine hs_t 12 33 (.slice (some ⟨b,off,none⟩) hl hc) rfl (by kernel_rfl) (by kernel_rfl) (by kernel_rfl) (by rfl) (fun w' hw=>zg rfl rfl ((hw.cell (j:=46) sA8 hcA8).trans pH) underlying44 rfl) hS rfl ?_
   simp only[nz]
   refine hs_t 13 34 (?_) rfl (by kernel_rfl) (by kernel_rfl) (by kernel_rfl) (by rfl) ?_ hS rfl ?_
   rotate_left
   ·intro w' hw
    go_simp
    try with_reducible rfl
   simp only[nz]
   refine hs_t 14 35 (.pointer (some ⟨b,off+k*39,none⟩)) rfl (by kernel_rfl) (by kernel_rfl) (by kernel_rfl) (by rfl) (fun w' hw=>by go_simp<;>(try simp[*])) hS rfl ?_
   simp only[nz]
   refine hs_t 15 36 (.pointer (some ⟨b,off+k*39+2,none⟩)) rfl (by kernel_rfl) (by kernel_rfl) (by kernel_rfl) (by rfl) (fun w' hw=>by go_simp<;>(try simp[*])) hS rfl ?_
   simp only[nz]
   refine hs_t 16 37 (.agg (certL g.vt g.sg).toArray) rfl (by kernel_rfl) (by kernel_rfl) (by kernel_rfl) (by rfl) (fun w' hw=>zp rfl rfl (hw.range sb8 hcb8 rC) underlying50 rfl iG) hS rfl ?_
   simp only[nz]
   refine zx (i:=9) (d:=some 30) rfl (by kernel_rfl) (by rfl) (by go_simp;first|done|exact⟨rfl,rfl⟩|with_reducible rfl) rfl ?_
   refine(zdW B N g.q g.rs vk _ w8 HC.out gat.1 gbk.1 (by have:=HL.out;omega) gsm).mono ?_
   rintro _ w6 ⟨v6,rfl,o6,g6⟩
   have hS:Kp w8 vk w6:=hS.gr g6
   refine⟨_,rfl,hS,?_⟩
   simp only[nz]
   refine zx (i:=17) (d:=some 38) rfl (by kernel_rfl) (by rfl) (by go_simp;first|done|exact⟨rfl,rfl⟩|with_reducible rfl) rfl ?_
   refine(zdV B g.vt g.sg v6 _ w6 o6 gvt (gat.2.growX g6.kp gbk.2) (gbk.2.growX gat.2 g6) (by have:=HL.out;rw[List.length_append,zaH];omega)).mono ?_
   rintro _ w7 ⟨v7,rfl,o7,g7⟩
   have hS:Kp w8 vk w7:=(Kp.refl _ _).gr (g6.trans g7)
   refine⟨_,rfl,hS,?_⟩
   simp only[nz]
   refine hs_t 18 5 (?_) rfl (by kernel_rfl) (by kernel_rfl) (by kernel_rfl) (by rfl) ?_ hS rfl ?_
   rotate_left
   ·intro w' hw
    go_simp
    try with_reducible rfl
   simp only[nz]
   refine zE (by kernel_rfl) ?_
   have HD:Hid (CX B W w7 v v7 (C2++heC N ((hs.map Hd.pure).take (k+1)))):=hide (by
    rw[HT.out,←List.append_assoc,←List.append_assoc]
    exact(HC.add o6 g6).add o7 g7)
   clear HC o6 g6 o7 g7 rB rC hS hre HT HL iG gat gbk gsm gvt pH sb8 sA8 hcb8 hcA8
   go_wp2_with fail
   go_roundw
   case rel=>exact⟨k+1,by omega,by go_num,HD⟩
   case measure=>simp[intOf];omega
  ·obtain rfl:k=hl:=by omega
   have HC4:CX B W wr v vk (C2++heC N (hs.map Hd.pure)):=by
    have h1:=HK.out
    rw[List.take_of_length_le (by rw[List.length_map,HL2.out];exact Nat.le_refl _)]at h1
    exact h1
   have HN3:Hid ((C2++heC N (hs.map Hd.pure)).length+m.cs.xs.length+m.sg.xs.length≤1000000000):=hide (by
    have h2:=HN.out
    rw[HH.out]at h2
    simp only at h2
    rw[List.length_append]
    omega)
   have pK:wr.cell? ⟨A,0,none⟩=some (.int .i64 m.k):=(HC4.grow.kp.cell sA hcA).trans pK0
   clear HK
   go_upto_if 41 with fail
   go_cut [5] (fun vd wx=>∃C3:List Ev,Hid (C3=C2++heC N (hs.map Hd.pure)++(if m.k=7 then cerC m.ct m.cs.xs else[])∧CX B W wx v vd C3))
   case first=>
    by_cases h7:m.k=7
    ·have rC:=HC4.grow.kp.range sA hcA rC0
     have h7b:(m.k==7)=true:=by simp[h7]
     go_upto_region 8 with fail
     try simp only[Act.put]
     refine zb ?_
     refine pl_t 42 (?_) (by rfl) ?_ rfl ?_
     rotate_left
     ·go_simp
      try with_reducible rfl
     simp only[nz]
     refine pl_t 43 (?_) (by rfl) ?_ rfl ?_
     rotate_left
     ·go_simp
      try with_reducible rfl
     simp only[nz]
     refine pl_t 44 (.agg (certL m.ct m.cs).toArray) (by rfl) (zp rfl rfl rC underlying50 rfl iC) rfl ?_
     simp only[nz]
     refine ze (d:=some 45) (by rfl) (by go_simp;first|done|exact⟨rfl,rfl⟩|with_reducible rfl) rfl ?_
     refine(zdV B m.ct m.cs vk _ wr HC4.out mo.ct (HA.out.cs.growX HC4.grow.kp HB.out.2.2.2.2.1) (HB.out.2.2.2.2.1.growX HA.out.cs HC4.grow) (by have:=HN3.out;omega)).mono ?_
     rintro _ wd ⟨vd,rfl,od,gd⟩
     refine⟨_,rfl,?_⟩
     simp only[nz]
     refine pl_t 5 (?_) (by rfl) ?_ rfl ?_
     rotate_left
     ·go_simp
      try with_reducible rfl
     simp only[nz]
     refine za ?_
     have HD:=HC4.add od gd
     have HF:Hid (C2++heC N (hs.map Hd.pure)++cerC m.ct m.cs.xs=C2++heC N (hs.map Hd.pure)++(if m.k=7 then cerC m.ct m.cs.xs else[])∧CX B W wd v vd (C2++heC N (hs.map Hd.pure)++cerC m.ct m.cs.xs)):=hide ⟨by rw[if_pos h7],HD⟩
     clear HD HC4 od gd rC pK pH
     go_wp2_with fail
     go_meet
     exact⟨_,HF⟩
    ·have h7b:(m.k==7)=false:=by simp[h7]
     have HF:Hid (C2++heC N (hs.map Hd.pure)=C2++heC N (hs.map Hd.pure)++(if m.k=7 then cerC m.ct m.cs.xs else[])∧CX B W wr v vk (C2++heC N (hs.map Hd.pure))):=hide ⟨by rw[if_neg h7,List.append_nil],HC4⟩
     clear HC4 pH
     go_wp2_with fail
     go_meet
     exact⟨_,HF⟩
   case rest=>
    obtain⟨C3,HM⟩:=hcut
    have HC4b:=HM.out.2
    have HC3e:Hid (C3=C2++heC N (hs.map Hd.pure)++(if m.k=7 then cerC m.ct m.cs.xs else[])):=hide HM.out.1
    obtain⟨⟨xa,xc,xs⟩,hsg⟩:∃x,m.sg=x:=⟨_,rfl⟩
    obtain⟨n,hxn⟩:∃n,xs.length=n:=⟨_,rfl⟩
    have hval:(m.sg).val=.slice xa n xc:=by rw[hsg];unfold Sl.val;rw[←hxn]
    rw[hval]at pS0
    have HNN:Hid (C3.length+xs.length≤1000000000):=hide (by
     have h2:=HN3.out
     rw[hsg]at h2
     simp only at h2
     have h3:(if m.k=7 then cerC m.ct m.cs.xs else[]).length≤m.cs.xs.length:=by
      split
      ·rw[zaN];exact Nat.le_refl _
      ·exact Nat.zero_le _
     rw[HC3e.out,List.length_append]
     omega)
    have HXX:Hid (Sl.At SgE W ⟨xa,xc,xs⟩):=hide (by have:=HA.out.sg;rw[hsg]at this;exact this)
    have HCC:Hid (Sl.Bk (Sl.mk xa xc xs) (ClX v)):=hide (by have:=HB.out.2.2.2.2.2;rw[hsg]at this;exact this)
    have HSG:=hide hsg
    have HX3:=hide hxn
    have HN2:=HN
    clear HN hval hsg hxn hlt hk HM HC4 HN3 pK pH
    have HN:=HX3
    have HC5:Hid (CX B W wc v u5 (C3++(sgC xs).take 0)):=hide (by rw[List.take_zero,List.append_nil];exact HC4b)
    clear HC4b
    go_wp2_with fail
    go_loopw [5,7] (fun vk iv wr=>∃(k:Nat),k≤n∧iv=.int .i64 (k:Int)∧Hid (CX B W wr v vk (C3++(sgC xs).take k))) (fun _ iv _=>n - (intOf iv).toNat)
    case atStart=>exact⟨0,by omega,rfl,HC5⟩
    case round=>
     clear HC5
     obtain⟨k,hk,rfl,HK⟩:=hrel
     obtain⟨vk,rfl⟩:∃v,v=u5:=⟨_,rfl⟩
     have pr:wr.cell? ⟨A,118,none⟩=some (.slice xa n xc):=(HK.out.grow.kp.cell sA hcA).trans pS0
     by_cases hlt:k<n
     ·have k1:(k:Int)<n:=by omega
      have hn9:n≤1000000000:=by have h1:=HNN.out;have h2:=HN.out;omega
      have hkx:k<xs.length:=by rw[HN.out];exact hlt
      obtain⟨b,off,hab,hbW,hreW⟩:=HXX.out.elem k hkx
      have hab:xa=some ⟨b,off,none⟩:=hab
      have hcb0:ClX v b:=HCC.out ⟨b,off,none⟩ (by intro h0;have h0:xs=[]:=h0;rw[h0]at hkx;exact absurd hkx (Nat.not_lt_zero _)) hab
      have hre:wr.rangeAt b (off+k*17) (SgE.f xs[k]):=HK.out.grow.kp.range hbW hcb0 hreW
      have sb:b<wr.heap.size:=Nat.lt_of_lt_of_le hbW HK.out.grow.kp.size
      have hcb:ClX vk b:=HK.out.grow.ne hbW hcb0
      have sAr:A<wr.heap.size:=Nat.lt_of_lt_of_le sA HK.out.grow.kp.size
      have hcAr:ClX vk A:=HK.out.grow.ne sA hcA
      have okx:Sg.ok xs[k]:=HXX.out.2.1 _ (List.getElem_mem hkx)
      have HT:Hid ((sgC xs).take (k+1)=(sgC xs).take k++[⟨(xs[k]).n,(⟨#[]⟩:ByteArray),(xs[k]).t⟩]):=hide (zby hkx)
      have HL:(C3++(sgC xs).take k).length≤1000000000:=by have:=HNN.out;simp only[List.length_append,List.length_take];omega
      clear hreW hbW hcb0
      obtain⟨g,hg⟩:∃g,xs[k]=g:=⟨_,rfl⟩
      rw[hg]at hre okx HT
      clear hg
      have hok:Ev.ok ⟨g.n,(⟨#[]⟩:ByteArray),g.t⟩:=zev okx
      have hut:SgE.f g=.int .i64 g.n::v8 g.t:=rfl
      have it16:(prog.info? 23).map (·.size)=some (v8 g.t).length:=by rw[v8_length,okx.tl];exact iszT
      obtain⟨u2,hub⟩:∃u,Hid (Ev.cells ⟨g.n,(⟨#[]⟩:ByteArray),g.t⟩=u):=⟨_,hide rfl⟩
      have hbc:∀w0,(Instr.build 70 #[(0,.int .i64 g.n),(2,.agg (v8 g.t).toArray)]).run prog w0=.ok (.agg u2.toArray) w0:=fun w0=>by
       rw[←hub.out]
       exact zkA g.n (v8 g.t) (by rw[v8_length,okx.tl]) w0
      have hul2:u2.length=18:=by rw[←hub.out];exact EvE.len _ hok
      obtain⟨id,hid⟩:∃i,g.n=i:=⟨_,rfl⟩
      obtain⟨tg,htg⟩:∃t,g.t=t:=⟨_,rfl⟩
      rw[hid,htg]at HT hok hub
      rw[hid]at hut
      rw[htg]at hut it16
      simp only[hid,htg]at hbc
      clear okx htg hid
      rw[hut]at hre
      clear hut
      obtain rfl:=hab
      have hlo:(xs.length:Int)=(n:Int):=by rw[HN.out]
      go_upto_region 12 with fail
      have hdr:Below wr.heap.size wr wr.drew:=(Below.refl _ _).drew
      have hre:=zd hre hdr sb
      have pr:=(hdr.cell (p:=⟨A,118,none⟩) sAr).trans pr
      have HC:=HK.out.later hdr
      have sb8:=Nat.lt_of_lt_of_le sb hdr.size
      have sA8:=Nat.lt_of_lt_of_le sAr hdr.size
      have hcb8:=hcb
      have hcA8:=hcAr
      refine zG (S:=Kp wr.drew vk) 17 rfl (by kernel_rfl) ?_
      obtain⟨w8,hw8⟩:∃W,wr.drew=W:=⟨_,rfl⟩
      rw[hw8]at hre pr HC sb8 sA8 ⊢
      clear hdr hw8 HK sb sAr hcb hcAr
      have hS:Kp w8 vk w8:=Kp.refl _ _
      have c0:w8.cell? ⟨b,off+k*17,none⟩=some (.int .i64 id):=by simpa using hre 0 _ rfl
      have ct:w8.rangeAt b (off+k*17+1) (v8 tg):=fun j y hy=>by
       have:=hre (j+1) y (by simpa using hy)
       rw[show off+k*17+(j+1)=off+k*17+1+j by omega]at this
       exact this
      refine hs_t 0 53 (?_) rfl (by kernel_rfl) (by kernel_rfl) (by kernel_rfl) (by rfl) ?_ hS rfl ?_
      rotate_left
      ·intro w' hw
       go_simp
       try with_reducible rfl
      simp only[nz]
      refine hs_t 1 54 (?_) rfl (by kernel_rfl) (by kernel_rfl) (by kernel_rfl) (by rfl) ?_ hS rfl ?_
      rotate_left
      ·intro w' hw
       go_simp
       try with_reducible rfl
      simp only[nz]
      refine hs_t 2 55 (.slice (some ⟨b,off,none⟩) n xc) rfl (by kernel_rfl) (by kernel_rfl) (by kernel_rfl) (by rfl) (fun w' hw=>zg rfl rfl ((hw.cell (j:=118) sA8 hcA8).trans pr) underlying48 rfl) hS rfl ?_
      simp only[nz]
      refine hs_t 3 56 (?_) rfl (by kernel_rfl) (by kernel_rfl) (by kernel_rfl) (by rfl) ?_ hS rfl ?_
      rotate_left
      ·intro w' hw
       go_simp
       try with_reducible rfl
      simp only[nz]
      refine hs_t 4 57 (.pointer (some ⟨b,off+k*17,none⟩)) rfl (by kernel_rfl) (by kernel_rfl) (by kernel_rfl) (by rfl) (fun w' hw=>by go_simp<;>(try simp[*])) hS rfl ?_
      simp only[nz]
      refine hs_t 5 58 (.pointer (some ⟨b,off+k*17,none⟩)) rfl (by kernel_rfl) (by kernel_rfl) (by kernel_rfl) (by rfl) (fun w' hw=>by go_simp<;>(try simp[*])) hS rfl ?_
      simp only[nz]
      refine hs_t 6 59 (.int .i64 id) rfl (by kernel_rfl) (by kernel_rfl) (by kernel_rfl) (by rfl) (fun w' hw=>zg rfl rfl ((hw.cell (j:=off+k*17) sb8 hcb8).trans c0) underlying3 rfl) hS rfl ?_
      simp only[nz]
      refine hs_t 7 60 (?_) rfl (by kernel_rfl) (by kernel_rfl) (by kernel_rfl) (by rfl) ?_ hS rfl ?_
      rotate_left
      ·intro w' hw
       go_simp
       try with_reducible rfl
      simp only[nz]
      refine hs_t 8 61 (.slice (some ⟨b,off,none⟩) n xc) rfl (by kernel_rfl) (by kernel_rfl) (by kernel_rfl) (by rfl) (fun w' hw=>zg rfl rfl ((hw.cell (j:=118) sA8 hcA8).trans pr) underlying48 rfl) hS rfl ?_
      simp only[nz]
      refine hs_t 9 62 (?_) rfl (by kernel_rfl) (by kernel_rfl) (by kernel_rfl) (by rfl) ?_ hS rfl ?_
      rotate_left
      ·intro w' hw
       go_simp
       try with_reducible rfl
      simp only[nz]
      refine hs_t 10 63 (.pointer (some ⟨b,off+k*17,none⟩)) rfl (by kernel_rfl) (by kernel_rfl) (by kernel_rfl) (by rfl) (fun w' hw=>by go_simp<;>(try simp[*])) hS rfl ?_
      simp only[nz]
      refine hs_t 11 64 (.pointer (some ⟨b,off+k*17+1,none⟩)) rfl (by kernel_rfl) (by kernel_rfl) (by kernel_rfl) (by rfl) (fun w' hw=>by go_simp<;>(try simp[*])) hS rfl ?_
      simp only[nz]
      refine hs_t 12 65 (.agg (v8 tg).toArray) rfl (by kernel_rfl) (by kernel_rfl) (by kernel_rfl) (by rfl) (fun w' hw=>zp rfl rfl (hw.range sb8 hcb8 ct) underlying23 rfl it16) hS rfl ?_
      simp only[nz]
      refine hs_t 13 66 (.agg u2.toArray) rfl (by kernel_rfl) (by kernel_rfl) (by kernel_rfl) (by rfl) (fun w' hw=>zR (parts:=[(0,.tmp 59),(2,.tmp 65)]) (vs:=[(0,.int .i64 id),(2,.agg (v8 tg).toArray)]) rfl (by first|with_reducible rfl|rfl|simp[Act.eval]) (hbc _)) hS rfl ?_
      simp only[nz]
      obtain⟨v6,w6,hrun,ho6,hg6⟩:=xapp HC.out hok HL
      rw[hub.out]at hrun
      have hS2:Kp w8 vk (w8.alloc (.cells u2.toArray 70)):=hS.below ((Below.refl _ _).alloc (Nat.le_refl _) _)
      refine zaa (i:=14) (d:=some 67) (v:=.slice (some ⟨w8.heap.size,0,none⟩) 1 1) (w':=w8.alloc (.cells u2.toArray 70)) rfl (by kernel_rfl) (by rfl) (zaB rfl rfl (zch u2 hul2 _)) rfl hS2 ?_
      simp only[nz]
      have hS:Kp w8 vk w6:=hS.gr hg6
      refine zaa (i:=15) (d:=some 68) (v:=v6) (w':=w6) rfl (by kernel_rfl) (by rfl) (zbu rfl rfl rfl hrun) rfl hS ?_
      simp only[nz]
      refine hs_t 16 5 (?_) rfl (by kernel_rfl) (by kernel_rfl) (by kernel_rfl) (by rfl) ?_ hS rfl ?_
      rotate_left
      ·intro w' hw
       go_simp
       try with_reducible rfl
      simp only[nz]
      refine zE (by kernel_rfl) ?_
      have HD:Hid (CX B W w6 v v6 (C3++(sgC xs).take (k+1))):=hide (by
       rw[HT.out,←List.append_assoc]
       exact HC.add ho6 hg6)
      clear HC ho6 hg6 hS hS2 hre c0 ct HT it16 hbc hul2 hrun hok sb8 sA8 hcb8 hcA8 pr
      go_wp2_with fail
      go_roundw
      case rel=>exact⟨k+1,by omega,by go_num,HD⟩
      case measure=>simp[intOf];omega
     ·obtain rfl:k=n:=by omega
      have HE:Hid (OutX wr w.heap.size vk (ownX N m.pure)∧Below w.heap.size w wr):=hide (by
       have h1:=HK.out.out
       rw[List.take_of_length_le (by rw[zbk,HN.out];exact Nat.le_refl _),HC3e.out,←hC2.out,HC00.out,←HB0.out]at h1
       have e:ownX N m.pure=[]++batC N m.rs.xs++heC N (hs.map Hd.pure)++(if m.k=7 then cerC m.ct m.cs.xs else[])++sgC xs:=by
        unfold ownX Mg.pure
        rw[HH.out,HSG.out]
        simp only[List.nil_append,List.append_assoc]
       rw[e]
       have g:=HK.out.grow
       have b1:=HB1.out
       refine⟨h1,⟨g.os.trans b1.os,g.tape.trans b1.tape,g.output.trans b1.output,Nat.le_trans b1.size g.kp.size,fun i hi=>?_⟩⟩
       rw[g.kp.block i (by have:=b1.size;omega) (by rw[HV0.out];exact zfY i),b1.block i hi])
      clear HK hlt
      go_wp2_with fail
      go_ret
      exact⟨vk,rfl,HE.out⟩
def upTo (n:Nat) (t:List Int) (k:Nat):List Int:=t.take k++List.replicate (n - k) 0
theorem zbt {w w':World} {g n:Nat} (h:w.grownBy w' (some g)) (hn:n≤g) (hs:n≤w.heap.size):Below n w w':=
 ⟨h.os,h.tape,h.output,h.size,fun i hi=>h.block i (by omega) (by intro q;injection q with q;omega)⟩
theorem zec {n k:Nat} {t:List Int} (ht:t.length=n) (hk:k<n):(v8 (upTo n t k)).set k (.int .u8 (t.getD k 0))=v8 (upTo n t (k+1)):=by
 unfold upTo
 have e:n - k=(n - (k+1))+1:=by omega
 rw[e,List.replicate_succ]
 have h1:(t.take k).length=k:=by rw[List.length_take];omega
 have h2:t.take (k+1)=t.take k++[t.getD k 0]:=by
  rw[List.take_succ_eq_append_getElem (by omega)]
  simp[List.getD,List.getElem?_eq_getElem (show k<t.length by omega)]
 rw[h2]
 simp only[v8,List.map_append,List.map_cons,List.map_nil]
 have hm:min k t.length=k:=Nat.min_eq_left (by omega)
 rw[List.set_append_right _ _ (by simp[hm])]
 simp[hm]
theorem zee {n:Nat} {t:List Int} (ht:t.length=n):upTo n t n=padN n t:=by
 unfold upTo padN
 rw[if_pos ht,Nat.sub_self,←ht,List.take_length]
 simp
theorem zed {n:Nat} (h:0<n):upTo n [] 0=padN n []:=by
 unfold upTo padN
 rw[if_neg (by simp;omega)]
 simp
theorem zgu (B X:Nat) (rest:List Int) (e:Int) (w:World) (h:RSt B w X rest e) (hX:X<w.heap.size) (hBX:B≤X):Calls prog 159 #[.pointer (some ⟨X,0,none⟩)] w fun en w'=>en=.returned (.agg (v8 (padN 16 (rawS rest e 16).1)).toArray)∧RSt B w' X (rawS rest e 16).2.1 (rawS rest e 16).2.2∧w.grownBy w' (some X):=by
 obtain⟨zc,hzc,hzr⟩:∃zc:List Value,Hid (zc=v8 (List.replicate 16 (0:Int)))∧∀w':World,(zeroValue 23).run prog w'=.ok (.agg zc.toArray) w':=⟨_,hide rfl,fun w=>by kernel_rfl⟩
 obtain⟨hB1,hr1,hs1⟩:=zu w zc 23
 have ht1:=zm w zc.toArray 23 (n:=16) (by rw[hzc.out];simp)
 have hip:(prog.info? 23).map (·.size)=some (v8 (padN 16 (rawS rest e 16).1)).length:=by rw[v8_length,zag];kernel_rfl
 have hp1:=zI (padN 16 (rawS rest e 16).1)
 have hpl:(v8 (padN 16 (rawS rest e 16).1)).length=16:=by rw[v8_length,zag]
 obtain⟨pc,hpc⟩:∃p,Hid (v8 (padN 16 (rawS rest e 16).1)=p):=⟨_,hide rfl⟩
 rw[hpc.out]at hip hp1 hpl ⊢
 go_enter func159,ntmps159
 go_upto_region 0 with fail
 try simp only[Act.put]
 refine zb ?_
 refine zj (d:=some 2) (v:=.pointer (some ⟨w.heap.size,0,none⟩)) (w':=w.alloc (.cells zc.toArray 23)) (by rfl) (zr rfl (hzr _)) rfl ?_
 simp only[nz]
 refine za ?_
 obtain⟨W1,hW1⟩:∃W,w.alloc (.cells zc.toArray 23)=W:=⟨_,rfl⟩
 rw[hW1]at hB1 hr1 hs1 ht1 ⊢
 clear hW1 hr1
 obtain⟨hB2,hr2,hs2⟩:=zu W1 zc 23
 have ht2:=zm W1 zc.toArray 23 (n:=16) (by rw[hzc.out];simp)
 go_upto_region 1 with fail
 try simp only[Act.put]
 refine zb ?_
 refine zj (d:=some 3) (v:=.pointer (some ⟨W1.heap.size,0,none⟩)) (w':=W1.alloc (.cells zc.toArray 23)) (by rfl) (zr rfl (hzr _)) rfl ?_
 simp only[nz]
 refine za ?_
 obtain⟨W2,hW2⟩:∃W,W1.alloc (.cells zc.toArray 23)=W:=⟨_,rfl⟩
 rw[hW2]at hB2 hr2 hs2 ht2 ⊢
 clear hW2
 rw[hzc.out]at hr2
 have thA:=zao ht1 hB2 hs1
 have hBW:=hB1.trans (hB2.mono hB1.size)
 have st2:=h.below hBW
 clear hzc hzr ht1
 go_upto_region 2 with fail
 try simp only[Act.put]
 refine zb ?_
 refine pl_t 6 (?_) (by rfl) ?_ rfl ?_
 rotate_left
 ·go_simp
  try with_reducible rfl
 simp only[nz]
 refine ze (d:=some 7) (by rfl) (by go_simp;first|done|exact⟨rfl,rfl⟩|with_reducible rfl) rfl ?_
 refine(zdf X rest e 16 W2 st2).mono ?_
 rintro _ w3 hfin
 obtain⟨v9,rfl,m3,st3,g3⟩:=hfin
 refine⟨_,rfl,?_⟩
 simp only[nz]
 refine pl_t 4 (?_) (by rfl) ?_ rfl ?_
 rotate_left
 ·go_simp
  try with_reducible rfl
 simp only[nz]
 refine za ?_
 have hN:(rawS rest e 16).1.length=16∨(rawS rest e 16).1=[]:=zbC rest e 16
 obtain⟨a9,c9,hve,_,_,row9⟩:=m3.rowAt (by unfold maxLen;rcases hN with h|h<;>(rw[h];simp))
 rw[hve]
 have hfrom:∀x,a9=some x→W2.heap.size≤x.block:=fun x hx=>by
  rcases zaV m3.1 with⟨hv,_,_⟩|⟨g,cap,hv,hg,_⟩
  ·rw[hve]at hv;injection hv with q1;rw[hx]at q1;cases q1
  ·rw[hve]at hv;injection hv with q1;rw[hx]at q1;injection q1 with q1;rw[q1];exact hg
 obtain⟨t,htt⟩:∃t,Hid ((rawS rest e 16).1=t):=⟨_,hide rfl⟩
 rw[htt.out]at hN row9 ⊢
 have hA3:w3.there w.heap.size 0 16:=zJ thA g3 (Nat.lt_of_lt_of_le hs1 hB2.size) (by omega)
 have hT3:w3.there W1.heap.size 0 16:=zJ ht2 g3 hs2 (by omega)
 have hR3:w3.rangeAt W1.heap.size 0 (v8 (upTo 16 t 0)):=by
  have:=zaJ hr2 g3 hs2 (by omega)
  simpa [upTo]using this
 have hz3:W1.heap.size<w3.heap.size:=Nat.lt_of_lt_of_le hs2 g3.size
 have htn:t.length≤16:=by rcases hN with h|h<;>(rw[h];simp)
 have HK0:Hid (w3.rangeAt W1.heap.size 0 (v8 (upTo 16 t 0))∧w3.there W1.heap.size 0 16∧w3.there w.heap.size 0 16∧RowAt w3 a9 t∧w3.grownBy w3 (some W1.heap.size)):=hide ⟨hR3,hT3,hA3,row9,zaF _ _⟩
 clear hve m3 hR3 hT3 hA3 row9 thA ht2 hr2
 go_upto_region 3 with fail
 go_wp2_with fail
 go_loopw [5] (fun iv wr=>∃k:Nat,k≤t.length∧iv=.int .i64 (k:Int)∧Hid (wr.rangeAt W1.heap.size 0 (v8 (upTo 16 t k))∧wr.there W1.heap.size 0 16∧wr.there w.heap.size 0 16∧RowAt wr a9 t∧w3.grownBy wr (some W1.heap.size))) (fun iv _=>t.length - (intOf iv).toNat)
 case atStart=>exact⟨0,by omega,rfl,HK0⟩
 case round=>
  clear HK0
  obtain⟨k,hk,rfl,HK⟩:=hrel
  obtain⟨hR,hth,hthA,hrow,hgr⟩:=HK.out
  clear HK
  by_cases hlt:k<t.length
  ·have htN:t.length=16:=by
    rcases hN with h|h
    ·exact h
    ·rw[h]at hlt;simp at hlt
   have k1:(k:Int)<t.length:=by omega
   have kn:k<16:=by omega
   have kn1:(k:Int)<16:=by omega
   have hus:=zec htN kn
   obtain⟨b,off,hab,hb,hcb,hz0,hz1⟩:=hrow.get k hlt
   obtain⟨c,hc⟩:∃c,Hid (t.getD k 0=c):=⟨_,hide rfl⟩
   rw[hc.out]at hus hcb
   have hro:RowAt (wr.setCell ⟨W1.heap.size,k,none⟩ (.int .u8 c)) a9 t:=hrow.other (.inr fun x hx=>by have:=hfrom x hx;show x.block≠W1.heap.size;omega)
   clear hc hz0 hz1
   subst hab
   go_upto_region 6 with fail
   try simp only[Act.put]
   refine zb ?_
   refine pl_t 14 (?_) (by rfl) ?_ rfl ?_
   rotate_left
   ·go_simp
    try with_reducible rfl
   simp only[nz]
   refine pl_t 15 (?_) (by rfl) ?_ rfl ?_
   rotate_left
   ·go_simp
    try with_reducible rfl
   simp only[nz]
   refine pl_t 16 (?_) (by rfl) ?_ rfl ?_
   rotate_left
   ·go_simp
    try with_reducible rfl
   simp only[nz]
   refine pl_t 17 (?_) (by rfl) ?_ rfl ?_
   rotate_left
   ·go_simp
    try with_reducible rfl
   simp only[nz]
   refine pl_t 18 (.int .u8 c) (by rfl) (zg rfl rfl hcb underlying5 rfl) rfl ?_
   simp only[nz]
   refine pl_t 19 (?_) (by rfl) ?_ rfl ?_
   rotate_left
   ·go_simp
    try with_reducible rfl
   simp only[nz]
   refine zf (w':=wr.setCells W1.heap.size k [.int .u8 c]) (by rfl) (zC (n:=16) rfl rfl rfl hth (by omega) isz8 rfl rfl) rfl ?_
   refine za ?_
   have hrs:=zap hR k (.int .u8 c)
   rw[Nat.zero_add,hus]at hrs
   have HN:Hid ((wr.setCells W1.heap.size k [.int .u8 c]).rangeAt W1.heap.size 0 (v8 (upTo 16 t (k+1)))∧(wr.setCells W1.heap.size k [.int .u8 c]).there W1.heap.size 0 16∧(wr.setCells W1.heap.size k [.int .u8 c]).there w.heap.size 0 16∧RowAt (wr.setCells W1.heap.size k [.int .u8 c]) (some ⟨b,off,none⟩) t∧w3.grownBy (wr.setCells W1.heap.size k [.int .u8 c]) (some W1.heap.size)):=hide ⟨hrs,World.there_setCells hth _ _ _,World.there_setCells hthA _ _ _,hro,zt hgr (zM _ _ _ _)⟩
   clear hrs hro hR hth hthA hrow hgr hcb
   go_wp2_with fail
   go_roundw
   case rel=>exact⟨k+1,by omega,by go_num,HN⟩
   case measure=>simp[intOf];omega
  ·obtain rfl:k=t.length:=by omega
   have rpc:wr.rangeAt W1.heap.size 0 pc:=by
    rw[←hpc.out,htt.out]
    rcases hN with h|h
    ·have e:=zee h
     rw[h]at hR
     rw[e]at hR
     exact hR
    ·subst h
     have e:=zed (n:=16) (by decide)
     rw[←e]
     exact hR
   have hlow:=zbt hgr (n:=w.heap.size) (by omega) (by omega)
   have gf:=zw (zw (zt (zW hBW (some X)) g3) hlow (Nat.le_refl _)) (zi (B:=w.heap.size) (b:=w.heap.size) (Nat.le_refl _) pc 0 _ (Below.refl _ wr)) (Nat.le_refl _)
   have sf:=(st3.gb hgr (.inr (by omega))).gb (zM wr w.heap.size pc 0) (.inr hX)
   have hrs:=run_loadVar_mid (P:=prog) (wr.setCells w.heap.size 0 pc) w.heap.size 0 23 pc _ (World.rangeAt_setCells_same wr w.heap.size 0 pc (by rw[hpl];exact hthA)) underlying23 rfl hip
   have HF:Hid (RSt B (wr.setCells w.heap.size 0 pc) X (rawS rest e 16).2.1 (rawS rest e 16).2.2∧w.grownBy (wr.setCells w.heap.size 0 pc) (some X)):=hide ⟨sf,gf⟩
   clear sf gf hlow hR hrow hgr hth st3 g3
   go_upto_region 7 with fail
   try simp only[Act.put]
   refine zb ?_
   refine pl_t 20 (.agg pc.toArray) (by rfl) (zp rfl rfl rpc underlying23 rfl hip) rfl ?_
   simp only[nz]
   refine zf (w':=wr.setCells w.heap.size 0 pc) (by rfl) (zn (cs:=pc.toArray) rfl rfl rfl (by simpa [hpl]using hthA) (by simpa using hip) (zo hp1)) rfl ?_
   refine za ?_
   go_wp2_with fail
   refine bodyPost_ret (v:=.agg pc.toArray) ?_ rfl ?_
   ·simp[results,results159,Act.put,asAddr,hrs]
   ·exact⟨rfl,HF.out⟩
theorem zdT (B X:Nat) (rest:List Int) (e:Int) (w:World) (h:RSt B w X rest e) (hX:X<w.heap.size) (hBX:B≤X):Calls prog 121 #[.pointer (some ⟨X,0,none⟩)] w fun en w'=>en=.returned (.agg (v8 (padN 32 (rawS rest e 32).1)).toArray)∧RSt B w' X (rawS rest e 32).2.1 (rawS rest e 32).2.2∧w.grownBy w' (some X):=by
 obtain⟨zc,hzc,hzr⟩:∃zc:List Value,Hid (zc=v8 (List.replicate 32 (0:Int)))∧∀w':World,(zeroValue 41).run prog w'=.ok (.agg zc.toArray) w':=⟨_,hide rfl,fun w=>by kernel_rfl⟩
 obtain⟨hB1,hr1,hs1⟩:=zu w zc 41
 have ht1:=zm w zc.toArray 41 (n:=32) (by rw[hzc.out];simp)
 have hip:(prog.info? 41).map (·.size)=some (v8 (padN 32 (rawS rest e 32).1)).length:=by rw[v8_length,zag];kernel_rfl
 have hp1:=zI (padN 32 (rawS rest e 32).1)
 have hpl:(v8 (padN 32 (rawS rest e 32).1)).length=32:=by rw[v8_length,zag]
 obtain⟨pc,hpc⟩:∃p,Hid (v8 (padN 32 (rawS rest e 32).1)=p):=⟨_,hide rfl⟩
 rw[hpc.out]at hip hp1 hpl ⊢
 go_enter func121,ntmps121
 go_upto_region 0 with fail
 try simp only[Act.put]
 refine zb ?_
 refine zj (d:=some 2) (v:=.pointer (some ⟨w.heap.size,0,none⟩)) (w':=w.alloc (.cells zc.toArray 41)) (by rfl) (zr rfl (hzr _)) rfl ?_
 simp only[nz]
 refine za ?_
 obtain⟨W1,hW1⟩:∃W,w.alloc (.cells zc.toArray 41)=W:=⟨_,rfl⟩
 rw[hW1]at hB1 hr1 hs1 ht1 ⊢
 clear hW1 hr1
 obtain⟨hB2,hr2,hs2⟩:=zu W1 zc 41
 have ht2:=zm W1 zc.toArray 41 (n:=32) (by rw[hzc.out];simp)
 go_upto_region 1 with fail
 try simp only[Act.put]
 refine zb ?_
 refine zj (d:=some 3) (v:=.pointer (some ⟨W1.heap.size,0,none⟩)) (w':=W1.alloc (.cells zc.toArray 41)) (by rfl) (zr rfl (hzr _)) rfl ?_
 simp only[nz]
 refine za ?_
 obtain⟨W2,hW2⟩:∃W,W1.alloc (.cells zc.toArray 41)=W:=⟨_,rfl⟩
 rw[hW2]at hB2 hr2 hs2 ht2 ⊢
 clear hW2
 rw[hzc.out]at hr2
 have thA:=zao ht1 hB2 hs1
 have hBW:=hB1.trans (hB2.mono hB1.size)
 have st2:=h.below hBW
 clear hzc hzr ht1
 go_upto_region 2 with fail
 try simp only[Act.put]
 refine zb ?_
 refine pl_t 6 (?_) (by rfl) ?_ rfl ?_
 rotate_left
 ·go_simp
  try with_reducible rfl
 simp only[nz]
 refine ze (d:=some 7) (by rfl) (by go_simp;first|done|exact⟨rfl,rfl⟩|with_reducible rfl) rfl ?_
 refine(zdf X rest e 32 W2 st2).mono ?_
 rintro _ w3 hfin
 obtain⟨v9,rfl,m3,st3,g3⟩:=hfin
 refine⟨_,rfl,?_⟩
 simp only[nz]
 refine pl_t 4 (?_) (by rfl) ?_ rfl ?_
 rotate_left
 ·go_simp
  try with_reducible rfl
 simp only[nz]
 refine za ?_
 have hN:(rawS rest e 32).1.length=32∨(rawS rest e 32).1=[]:=zbC rest e 32
 obtain⟨a9,c9,hve,_,_,row9⟩:=m3.rowAt (by unfold maxLen;rcases hN with h|h<;>(rw[h];simp))
 rw[hve]
 have hfrom:∀x,a9=some x→W2.heap.size≤x.block:=fun x hx=>by
  rcases zaV m3.1 with⟨hv,_,_⟩|⟨g,cap,hv,hg,_⟩
  ·rw[hve]at hv;injection hv with q1;rw[hx]at q1;cases q1
  ·rw[hve]at hv;injection hv with q1;rw[hx]at q1;injection q1 with q1;rw[q1];exact hg
 obtain⟨t,htt⟩:∃t,Hid ((rawS rest e 32).1=t):=⟨_,hide rfl⟩
 rw[htt.out]at hN row9 ⊢
 have hA3:w3.there w.heap.size 0 32:=zJ thA g3 (Nat.lt_of_lt_of_le hs1 hB2.size) (by omega)
 have hT3:w3.there W1.heap.size 0 32:=zJ ht2 g3 hs2 (by omega)
 have hR3:w3.rangeAt W1.heap.size 0 (v8 (upTo 32 t 0)):=by
  have:=zaJ hr2 g3 hs2 (by omega)
  simpa [upTo]using this
 have hz3:W1.heap.size<w3.heap.size:=Nat.lt_of_lt_of_le hs2 g3.size
 have htn:t.length≤32:=by rcases hN with h|h<;>(rw[h];simp)
 have HK0:Hid (w3.rangeAt W1.heap.size 0 (v8 (upTo 32 t 0))∧w3.there W1.heap.size 0 32∧w3.there w.heap.size 0 32∧RowAt w3 a9 t∧w3.grownBy w3 (some W1.heap.size)):=hide ⟨hR3,hT3,hA3,row9,zaF _ _⟩
 clear hve m3 hR3 hT3 hA3 row9 thA ht2 hr2
 go_upto_region 3 with fail
 go_wp2_with fail
 go_loopw [5] (fun iv wr=>∃k:Nat,k≤t.length∧iv=.int .i64 (k:Int)∧Hid (wr.rangeAt W1.heap.size 0 (v8 (upTo 32 t k))∧wr.there W1.heap.size 0 32∧wr.there w.heap.size 0 32∧RowAt wr a9 t∧w3.grownBy wr (some W1.heap.size))) (fun iv _=>t.length - (intOf iv).toNat)
 case atStart=>exact⟨0,by omega,rfl,HK0⟩
 case round=>
  clear HK0
  obtain⟨k,hk,rfl,HK⟩:=hrel
  obtain⟨hR,hth,hthA,hrow,hgr⟩:=HK.out
  clear HK
  by_cases hlt:k<t.length
  ·have htN:t.length=32:=by
    rcases hN with h|h
    ·exact h
    ·rw[h]at hlt;simp at hlt
   have k1:(k:Int)<t.length:=by omega
   have kn:k<32:=by omega
   have kn1:(k:Int)<32:=by omega
   have hus:=zec htN kn
   obtain⟨b,off,hab,hb,hcb,hz0,hz1⟩:=hrow.get k hlt
   obtain⟨c,hc⟩:∃c,Hid (t.getD k 0=c):=⟨_,hide rfl⟩
   rw[hc.out]at hus hcb
   have hro:RowAt (wr.setCell ⟨W1.heap.size,k,none⟩ (.int .u8 c)) a9 t:=hrow.other (.inr fun x hx=>by have:=hfrom x hx;show x.block≠W1.heap.size;omega)
   clear hc hz0 hz1
   subst hab
   go_upto_region 6 with fail
   try simp only[Act.put]
   refine zb ?_
   refine pl_t 14 (?_) (by rfl) ?_ rfl ?_
   rotate_left
   ·go_simp
    try with_reducible rfl
   simp only[nz]
   refine pl_t 15 (?_) (by rfl) ?_ rfl ?_
   rotate_left
   ·go_simp
    try with_reducible rfl
   simp only[nz]
   refine pl_t 16 (?_) (by rfl) ?_ rfl ?_
   rotate_left
   ·go_simp
    try with_reducible rfl
   simp only[nz]
   refine pl_t 17 (?_) (by rfl) ?_ rfl ?_
   rotate_left
   ·go_simp
    try with_reducible rfl
   simp only[nz]
   refine pl_t 18 (.int .u8 c) (by rfl) (zg rfl rfl hcb underlying5 rfl) rfl ?_
   simp only[nz]
   refine pl_t 19 (?_) (by rfl) ?_ rfl ?_
   rotate_left
   ·go_simp
    try with_reducible rfl
   simp only[nz]
   refine zf (w':=wr.setCells W1.heap.size k [.int .u8 c]) (by rfl) (zC (n:=32) rfl rfl rfl hth (by omega) isz8 rfl rfl) rfl ?_
   refine za ?_
   have hrs:=zap hR k (.int .u8 c)
   rw[Nat.zero_add,hus]at hrs
   have HN:Hid ((wr.setCells W1.heap.size k [.int .u8 c]).rangeAt W1.heap.size 0 (v8 (upTo 32 t (k+1)))∧(wr.setCells W1.heap.size k [.int .u8 c]).there W1.heap.size 0 32∧(wr.setCells W1.heap.size k [.int .u8 c]).there w.heap.size 0 32∧RowAt (wr.setCells W1.heap.size k [.int .u8 c]) (some ⟨b,off,none⟩) t∧w3.grownBy (wr.setCells W1.heap.size k [.int .u8 c]) (some W1.heap.size)):=hide ⟨hrs,World.there_setCells hth _ _ _,World.there_setCells hthA _ _ _,hro,zt hgr (zM _ _ _ _)⟩
   clear hrs hro hR hth hthA hrow hgr hcb
   go_wp2_with fail
   go_roundw
   case rel=>exact⟨k+1,by omega,by go_num,HN⟩
   case measure=>simp[intOf];omega
  ·obtain rfl:k=t.length:=by omega
   have rpc:wr.rangeAt W1.heap.size 0 pc:=by
    rw[←hpc.out,htt.out]
    rcases hN with h|h
    ·have e:=zee h
     rw[h]at hR
     rw[e]at hR
     exact hR
    ·subst h
     have e:=zed (n:=32) (by decide)
     rw[←e]
     exact hR
   have hlow:=zbt hgr (n:=w.heap.size) (by omega) (by omega)
   have gf:=zw (zw (zt (zW hBW (some X)) g3) hlow (Nat.le_refl _)) (zi (B:=w.heap.size) (b:=w.heap.size) (Nat.le_refl _) pc 0 _ (Below.refl _ wr)) (Nat.le_refl _)
   have sf:=(st3.gb hgr (.inr (by omega))).gb (zM wr w.heap.size pc 0) (.inr hX)
   have hrs:=run_loadVar_mid (P:=prog) (wr.setCells w.heap.size 0 pc) w.heap.size 0 41 pc _ (World.rangeAt_setCells_same wr w.heap.size 0 pc (by rw[hpl];exact hthA)) underlying41 rfl hip
   have HF:Hid (RSt B (wr.setCells w.heap.size 0 pc) X (rawS rest e 32).2.1 (rawS rest e 32).2.2∧w.grownBy (wr.setCells w.heap.size 0 pc) (some X)):=hide ⟨sf,gf⟩
   clear sf gf hlow hR hrow hgr hth st3 g3
   go_upto_region 7 with fail
   try simp only[Act.put]
   refine zb ?_
   refine pl_t 20 (.agg pc.toArray) (by rfl) (zp rfl rfl rpc underlying41 rfl hip) rfl ?_
   simp only[nz]
   refine zf (w':=wr.setCells w.heap.size 0 pc) (by rfl) (zn (cs:=pc.toArray) rfl rfl rfl (by simpa [hpl]using hthA) (by simpa using hip) (zo hp1)) rfl ?_
   refine za ?_
   go_wp2_with fail
   refine bodyPost_ret (v:=.agg pc.toArray) ?_ rfl ?_
   ·simp[results,results121,Act.put,asAddr,hrs]
   ·exact⟨rfl,HF.out⟩
structure XS (w:World) (X A B n:Nat) (q:List Value) (W:World):Prop where
 row:W.rangeAt B 0 q
 box:W.there B 0 n
 ans:W.there A 0 n
 grown:w.grownBy W (some X)
 la:A<W.heap.size
 lb:B<W.heap.size
 na:w.heap.size≤A
 nb:w.heap.size≤B
 ne:A≠B
 lx:X<w.heap.size
theorem XS.gb {w W W':World} {X A B n:Nat} {q:List Value} (h:XS w X A B n q W) (g:W.grownBy W' (some X)):XS w X A B n q W':=by
 have h1:=h.na
 have h2:=h.nb
 have h3:=h.lx
 exact⟨zaJ h.row g h.lb (by omega),zJ h.box g h.lb (by omega),zJ h.ans g h.la (by omega),zt h.grown g,Nat.lt_of_lt_of_le h.la g.size,Nat.lt_of_lt_of_le h.lb g.size,h1,h2,h.ne,h3⟩
theorem XS.set {w W:World} {X A B n:Nat} {q q':List Value} (h:XS w X A B n q W) (o:Nat) (vs:List Value) (hq:(W.setCells B o vs).rangeAt B 0 q'):XS w X A B n q' (W.setCells B o vs):=
 ⟨hq,World.there_setCells h.box _ _ _,World.there_setCells h.ans _ _ _,zw h.grown (zi h.nb vs o _ (Below.refl _ W)) (Nat.le_refl _),by rw[zH];exact h.la,by rw[zH];exact h.lb,h.na,h.nb,h.ne,h.lx⟩
theorem XS.st {w W:World} {D X A B n o:Nat} {q vs:List Value} {zs:List Int} {e:Int} (h:XS w X A B n q W) (hs:RSt D W X zs e):RSt D (W.setCells B o vs) X zs e:=
 hs.gb (zM W B vs o) (.inr (by have:=h.nb;have:=h.lx;omega))
theorem RSt.err {D X:Nat} {w:World} {zs:List Int} {e:Int} (h:RSt D w X zs e):w.cell? ⟨X,2,none⟩=some (.int .i64 e):=by
 obtain⟨_,_,hR,_⟩:=h
 exact hR.2.2.2.1
theorem RSt.bad {D X:Nat} {w:World} {zs:List Int} {e:Int} (h:RSt D w X zs e) (e':Int) (he:e'≠0):RSt D (w.setCells X 2 [.int .i64 e']) X zs e':=by
 obtain⟨a,p,hR,_⟩:=h
 exact⟨a,p,hR.set2 e',fun h=>absurd h he⟩
theorem RSt.there {D X:Nat} {w:World} {zs:List Int} {e:Int} (h:RSt D w X zs e):w.there X 0 3:=by
  obtain⟨_,_,hR,_⟩:=h
  obtain⟨_,⟨a,cap,c0,_⟩,c1,c2,f0,f1,f2,_⟩:=hR
  intro j hj
  match j,hj with
  |0,_=>exact⟨by show(w.cell? ⟨X,0,none⟩).isSome=true;rw[c0];rfl,f0⟩
  |1,_=>exact⟨by show(w.cell? ⟨X,1,none⟩).isSome=true;rw[c1];rfl,f1⟩
  |2,_=>exact⟨by show(w.cell? ⟨X,2,none⟩).isSome=true;rw[c2];rfl,f2⟩
def kdE (rest:List Int) (e most:Int):Int:=if(numS rest e most).2.2==0 then(if(numS rest e most).1==0 then 130 else(numS rest e most).2.2)else(numS rest e most).2.2
def xvtS (rest:List Int) (e:Int):Vt ×List Int ×Int:=
 let x0:=numS rest e 2
 let x1:=numS x0.2.1 (kdE rest e 2) 1048576
 let x2:=numS x1.2.1 x1.2.2 1099511627776
 let x3:=numS x2.2.1 x2.2.2 1099511627776
 let x4:=rawS x3.2.1 x3.2.2 32
 (⟨x0.1,x1.1,x2.1,x3.1,padN 32 x4.1⟩,x4.2.1,x4.2.2)
theorem zgD (D X:Nat) (rest:List Int) (e:Int) (w:World) (h:RSt D w X rest e) (hX:X<w.heap.size) (hDX:D≤X):Calls prog 118 #[.pointer (some ⟨X,0,none⟩)] w fun en w'=>en=.returned (.agg (xvtS rest e).1.cells.toArray)∧RSt D w' X (xvtS rest e).2.1 (xvtS rest e).2.2∧w.grownBy w' (some X):=by
 obtain⟨zc,hzr,hzl,tz,htl,hzc⟩:=zeroVt
 have c0:=fun w0 h0=>za9 (B:=D) X rest e 2 w0 h0
 unfold xvtS kdE
 simp only
 obtain⟨v0,hv0⟩:∃x,(numS rest e 2).1=x:=⟨_,rfl⟩
 obtain⟨r0,hr0⟩:∃x,(numS rest e 2).2.1=x:=⟨_,rfl⟩
 obtain⟨e0,he0⟩:∃x,(numS rest e 2).2.2=x:=⟨_,rfl⟩
 simp only[hv0,hr0,he0]at c0 ⊢
 clear hv0 hr0 he0
 obtain⟨b0,hb0⟩:∃b,Hid ((e0==0)=b):=⟨_,hide rfl⟩
 obtain⟨b1,hb1⟩:∃b,Hid ((v0==0)=b):=⟨_,hide rfl⟩
 rw[hb0.out,hb1.out]
 obtain⟨ek,hek⟩:∃x:Int,Hid ((if b0=true then(if b1=true then 130 else e0)else e0)=x):=⟨_,hide rfl⟩
 rw[hek.out]
 have c1:=fun w0 h0=>za9 (B:=D) X r0 ek 1048576 w0 h0
 obtain⟨v1,hv1⟩:∃x,(numS r0 ek 1048576).1=x:=⟨_,rfl⟩
 obtain⟨r1,hr1⟩:∃x,(numS r0 ek 1048576).2.1=x:=⟨_,rfl⟩
 obtain⟨e1,he1⟩:∃x,(numS r0 ek 1048576).2.2=x:=⟨_,rfl⟩
 simp only[hv1,hr1,he1]at c1 ⊢
 clear hv1 hr1 he1
 have c2:=fun w0 h0=>za9 (B:=D) X r1 e1 1099511627776 w0 h0
 obtain⟨v2,hv2⟩:∃x,(numS r1 e1 1099511627776).1=x:=⟨_,rfl⟩
 obtain⟨r2,hr2⟩:∃x,(numS r1 e1 1099511627776).2.1=x:=⟨_,rfl⟩
 obtain⟨e2,he2⟩:∃x,(numS r1 e1 1099511627776).2.2=x:=⟨_,rfl⟩
 simp only[hv2,hr2,he2]at c2 ⊢
 clear hv2 hr2 he2
 have c3:=fun w0 h0=>za9 (B:=D) X r2 e2 1099511627776 w0 h0
 obtain⟨v3,hv3⟩:∃x,(numS r2 e2 1099511627776).1=x:=⟨_,rfl⟩
 obtain⟨r3,hr3⟩:∃x,(numS r2 e2 1099511627776).2.1=x:=⟨_,rfl⟩
 obtain⟨e3,he3⟩:∃x,(numS r2 e2 1099511627776).2.2=x:=⟨_,rfl⟩
 simp only[hv3,hr3,he3]at c3 ⊢
 clear hv3 hr3 he3
 have c4:=fun w0 h0 hx=>zdT D X r3 e3 w0 h0 hx hDX
 have hdl:(v8 (padN 32 (rawS r3 e3 32).1)).length=32:=by rw[v8_length,zag]
 have hd1:=zI (padN 32 (rawS r3 e3 32).1)
 show Calls prog 118 _ w fun en w'=>en=.returned (.agg (Value.int .i64 v0::.int .i64 v1::.int .i64 v2::.int .i64 v3::v8 (padN 32 (rawS r3 e3 32).1)).toArray)∧_
 obtain⟨dv,hdv⟩:∃t,v8 (padN 32 (rawS r3 e3 32).1)=t:=⟨_,rfl⟩
 obtain⟨r4,hr4⟩:∃x,(rawS r3 e3 32).2.1=x:=⟨_,rfl⟩
 obtain⟨e4,he4⟩:∃x,(rawS r3 e3 32).2.2=x:=⟨_,rfl⟩
 simp only[hdv,hr4,he4]at c4 hdl hd1 ⊢
 clear hdv hr4 he4
 have hpl:(Value.int .i64 v0::.int .i64 v1::.int .i64 v2::.int .i64 v3::dv).length=36:=by simp only[List.length_cons,hdl]
 have hip:(prog.info? 43).map (·.size)=some (Value.int .i64 v0::.int .i64 v1::.int .i64 v2::.int .i64 v3::dv).length:=by rw[hpl];exact iszVo
 have hp1:∀v∈(Value.int .i64 v0::.int .i64 v1::.int .i64 v2::.int .i64 v3::dv),v.oneCell'=true:=fun v hv=>by
  simp only[List.mem_cons]at hv
  rcases hv with rfl|rfl|rfl|rfl|hv
  ·rfl
  ·rfl
  ·rfl
  ·rfl
  ·exact hd1 v hv
 obtain⟨hB1,hr1,hs1⟩:=zu w zc 43
 have ht1:=zm w zc.toArray 43 (n:=36) (by simp[hzl])
 obtain⟨pc,hpc⟩:∃p,Hid (Value.int .i64 v0::.int .i64 v1::.int .i64 v2::.int .i64 v3::dv=p):=⟨_,hide rfl⟩
 rw[hpc.out]at hpl hip hp1 ⊢
 go_enter func118,ntmps118
 go_upto_region 0 with fail
 try simp only[Act.put]
 refine zb ?_
 refine zj (d:=some 2) (v:=.pointer (some ⟨w.heap.size,0,none⟩)) (w':=w.alloc (.cells zc.toArray 43)) (by rfl) (zr rfl (hzr _)) rfl ?_
 simp only[nz]
 refine za ?_
 obtain⟨W1,hW1⟩:∃W,w.alloc (.cells zc.toArray 43)=W:=⟨_,rfl⟩
 rw[hW1]at hB1 hr1 hs1 ht1 ⊢
 clear hW1 hr1
 obtain⟨hB2,hr2,hs2⟩:=zu W1 zc 43
 have ht2:=zm W1 zc.toArray 43 (n:=36) (by simp[hzl])
 go_upto_region 1 with fail
 try simp only[Act.put]
 refine zb ?_
 refine zj (d:=some 3) (v:=.pointer (some ⟨W1.heap.size,0,none⟩)) (w':=W1.alloc (.cells zc.toArray 43)) (by rfl) (zr rfl (hzr _)) rfl ?_
 simp only[nz]
 refine za ?_
 obtain⟨W2,hW2⟩:∃W,W1.alloc (.cells zc.toArray 43)=W:=⟨_,rfl⟩
 rw[hW2]at hB2 hr2 hs2 ht2 ⊢
 clear hW2
 rw[hzc]at hr2
 have hBW:=hB1.trans (hB2.mono hB1.size)
 have V0:XS w X w.heap.size W1.heap.size 36 _ W2:=⟨hr2,ht2,zao ht1 hB2 hs1,zW hBW _,Nat.lt_of_lt_of_le hs1 hB2.size,hs2,Nat.le_refl _,hB1.size,by omega,hX⟩
 have s2:=h.below hBW
 clear hr2 ht2 ht1 hzr hzc hzl hB1 hB2 hBW hs2 h
 go_upto_region 2 with fail
 try simp only[Act.put]
 refine zb ?_
 refine pl_t 4 (?_) (by rfl) ?_ rfl ?_
 rotate_left
 ·go_simp
  try with_reducible rfl
 simp only[nz]
 refine ze (d:=some 5) (by rfl) (by go_simp;first|done|exact⟨rfl,rfl⟩|with_reducible rfl) rfl ?_
 refine(c0 W2 s2).mono ?_
 rintro _ wa0 ⟨rfl,sa0,ga0⟩
 refine⟨_,rfl,?_⟩
 simp only[nz]
 refine pl_t 6 (?_) (by rfl) ?_ rfl ?_
 rotate_left
 ·go_simp
  try with_reducible rfl
 simp only[nz]
 have Va0:=V0.gb ga0
 have Vb0:=Va0.set 0 [.int .i64 v0] (zax Va0.row _).1
 have sb0:=Va0.st (o:=0) (vs:=[.int .i64 v0]) sa0
 refine zf (w':=wa0.setCells W1.heap.size 0 [.int .i64 v0]) (by rfl) (zC (n:=36) rfl rfl rfl Va0.box (by decide) iszI rfl rfl) rfl ?_
 refine za ?_
 obtain⟨wb0,hwb0⟩:∃W,wa0.setCells W1.heap.size 0 [.int .i64 v0]=W:=⟨_,rfl⟩
 rw[hwb0]at Vb0 sb0 ⊢
 clear hwb0 Va0 sa0 ga0
 clear c0 V0 s2
 go_upto_region 3 with fail
 try simp only[Act.put]
 refine zb ?_
 refine pl_t 7 (?_) (by rfl) ?_ rfl ?_
 rotate_left
 ·go_simp
  try with_reducible rfl
 simp only[nz]
 refine pl_t 8 (?_) (by rfl) ?_ rfl ?_
 rotate_left
 ·go_simp
  try with_reducible rfl
 simp only[nz]
 refine pl_t 9 (?_) (by rfl) ?_ rfl ?_
 rotate_left
 ·go_simp
  try with_reducible rfl
 simp only[nz]
 refine pl_t 10 (.int .i64 e0) (by rfl) (zg rfl rfl sb0.err underlying3 rfl) rfl ?_
 simp only[nz]
 refine pl_t 11 (.bool b0) (by rfl) (by rw[←hb0.out];go_simp) rfl ?_
 simp only[nz]
 cases b0
 ·refine pl_t 12 (?_) (by rfl) ?_ rfl ?_
  rotate_left
  ·go_simp
   try with_reducible rfl
  simp only[nz]
  refine zL (d:=some 13) (by rfl) rfl ?_
  simp only[nz]
  refine zL (d:=some 14) (by rfl) rfl ?_
  simp only[nz]
  refine zL (d:=some 15) (by rfl) rfl ?_
  simp only[nz]
  refine pl_t 16 (?_) (by rfl) ?_ rfl ?_
  rotate_left
  ·go_simp
   try with_reducible rfl
  simp only[nz]
  refine za ?_
  obtain rfl:ek=e0:=by have:=hek.out;simpa using this.symm
  have sk:=sb0
  have Vk:=Vb0
  go_upto_region 5 with fail
  try simp only[Act.put]
  refine zb ?_
  refine pl_t 20 (?_) (by rfl) ?_ rfl ?_
  rotate_left
  ·go_simp
   try with_reducible rfl
  simp only[nz]
  refine ze (d:=some 21) (by rfl) (by go_simp;first|done|exact⟨rfl,rfl⟩|with_reducible rfl) rfl ?_
  refine(c1 wb0 sk).mono ?_
  rintro _ wa1 ⟨rfl,sa1,ga1⟩
  refine⟨_,rfl,?_⟩
  simp only[nz]
  refine pl_t 22 (?_) (by rfl) ?_ rfl ?_
  rotate_left
  ·go_simp
   try with_reducible rfl
  simp only[nz]
  have Va1:=Vk.gb ga1
  have Vb1:=Va1.set 1 [.int .i64 v1] (zax Va1.row _).2.1
  have sb1:=Va1.st (o:=1) (vs:=[.int .i64 v1]) sa1
  refine zf (w':=wa1.setCells W1.heap.size 1 [.int .i64 v1]) (by rfl) (zC (n:=36) rfl rfl rfl Va1.box (by decide) iszI rfl rfl) rfl ?_
  refine za ?_
  obtain⟨wb1,hwb1⟩:∃W,wa1.setCells W1.heap.size 1 [.int .i64 v1]=W:=⟨_,rfl⟩
  rw[hwb1]at Vb1 sb1 ⊢
  clear hwb1 Va1 sa1 ga1
  go_upto_region 6 with fail
  try simp only[Act.put]
  refine zb ?_
  refine pl_t 23 (?_) (by rfl) ?_ rfl ?_
  rotate_left
  ·go_simp
   try with_reducible rfl
  simp only[nz]
  refine ze (d:=some 24) (by rfl) (by go_simp;first|done|exact⟨rfl,rfl⟩|with_reducible rfl) rfl ?_
  refine(c2 wb1 sb1).mono ?_
  rintro _ wa2 ⟨rfl,sa2,ga2⟩
  refine⟨_,rfl,?_⟩
  simp only[nz]
  refine pl_t 25 (?_) (by rfl) ?_ rfl ?_
  rotate_left
  ·go_simp
   try with_reducible rfl
  simp only[nz]
  have Va2:=Vb1.gb ga2
  have Vb2:=Va2.set 2 [.int .i64 v2] (zax Va2.row _).2.2.1
  have sb2:=Va2.st (o:=2) (vs:=[.int .i64 v2]) sa2
  refine zf (w':=wa2.setCells W1.heap.size 2 [.int .i64 v2]) (by rfl) (zC (n:=36) rfl rfl rfl Va2.box (by decide) iszI rfl rfl) rfl ?_
  refine za ?_
  obtain⟨wb2,hwb2⟩:∃W,wa2.setCells W1.heap.size 2 [.int .i64 v2]=W:=⟨_,rfl⟩
  rw[hwb2]at Vb2 sb2 ⊢
  clear hwb2 Va2 sa2 ga2
  go_upto_region 7 with fail
  try simp only[Act.put]
  refine zb ?_
  refine pl_t 26 (?_) (by rfl) ?_ rfl ?_
  rotate_left
  ·go_simp
   try with_reducible rfl
  simp only[nz]
  refine ze (d:=some 27) (by rfl) (by go_simp;first|done|exact⟨rfl,rfl⟩|with_reducible rfl) rfl ?_
  refine(c3 wb2 sb2).mono ?_
  rintro _ wa3 ⟨rfl,sa3,ga3⟩
  refine⟨_,rfl,?_⟩
  simp only[nz]
  refine pl_t 28 (?_) (by rfl) ?_ rfl ?_
  rotate_left
  ·go_simp
   try with_reducible rfl
  simp only[nz]
  have Va3:=Vb2.gb ga3
  have Vb3:=Va3.set 3 [.int .i64 v3] (zax Va3.row _).2.2.2
  have sb3:=Va3.st (o:=3) (vs:=[.int .i64 v3]) sa3
  refine zf (w':=wa3.setCells W1.heap.size 3 [.int .i64 v3]) (by rfl) (zC (n:=36) rfl rfl rfl Va3.box (by decide) iszI rfl rfl) rfl ?_
  refine za ?_
  obtain⟨wb3,hwb3⟩:∃W,wa3.setCells W1.heap.size 3 [.int .i64 v3]=W:=⟨_,rfl⟩
  rw[hwb3]at Vb3 sb3 ⊢
  clear hwb3 Va3 sa3 ga3
  go_upto_region 8 with fail
  try simp only[Act.put]
  refine zb ?_
  refine pl_t 29 (?_) (by rfl) ?_ rfl ?_
  rotate_left
  ·go_simp
   try with_reducible rfl
  simp only[nz]
  refine ze (d:=some 30) (by rfl) (by go_simp;first|done|exact⟨rfl,rfl⟩|with_reducible rfl) rfl ?_
  refine(c4 wb3 sb3 (Nat.lt_of_lt_of_le Vb3.lx Vb3.grown.size)).mono ?_
  rintro _ wd ⟨rfl,sd,gd⟩
  refine⟨_,rfl,?_⟩
  simp only[nz]
  refine pl_t 31 (?_) (by rfl) ?_ rfl ?_
  rotate_left
  ·go_simp
   try with_reducible rfl
  simp only[nz]
  have Vd:=Vb3.gb gd
  have Ve:=Vd.set 4 dv (zcm Vd.row (by rw[hdl];exact zaP Vd.box (by decide)))
  have se:=Vd.st (o:=4) (vs:=dv) sd
  refine zf (w':=wd.setCells W1.heap.size 4 dv) (by rfl) (zn (cs:=dv.toArray) rfl rfl rfl (by simpa [hdl]using zaP Vd.box (o:=4) (m:=32) (by decide)) (by simpa [hdl]using iszD) (zo hd1)) rfl ?_
  refine za ?_
  obtain⟨we,hwe⟩:∃W,wd.setCells W1.heap.size 4 dv=W:=⟨_,rfl⟩
  rw[hwe]at Ve se ⊢
  clear hwe Vd sd gd
  have rpc:=Ve.row
  rw[hpc.out]at rpc
  go_upto_region 9 with fail
  try simp only[Act.put]
  refine zb ?_
  refine pl_t 32 (.agg pc.toArray) (by rfl) (zp rfl rfl rpc underlying43 rfl hip) rfl ?_
  simp only[nz]
  refine zf (w':=we.setCells w.heap.size 0 pc) (by rfl) (zn (cs:=pc.toArray) rfl rfl rfl (by simpa [hpl]using Ve.ans) (by simpa using hip) (zo hp1)) rfl ?_
  refine za ?_
  have hrs:=run_loadVar_mid (P:=prog) (we.setCells w.heap.size 0 pc) w.heap.size 0 43 pc _ (World.rangeAt_setCells_same we w.heap.size 0 pc (by rw[hpl];exact Ve.ans)) underlying43 rfl hip
  have HF:Hid (RSt D (we.setCells w.heap.size 0 pc) X r4 e4∧w.grownBy (we.setCells w.heap.size 0 pc) (some X)):=hide ⟨se.gb (zM we w.heap.size pc 0) (.inr Ve.lx),zw Ve.grown (zi (B:=w.heap.size) (b:=w.heap.size) (Nat.le_refl _) pc 0 _ (Below.refl _ we)) (Nat.le_refl _)⟩
  clear Ve se rpc
  go_wp2_with fail
  refine bodyPost_ret (v:=.agg pc.toArray) ?_ rfl ?_
  ·simp[results,results118,Act.put,asAddr,hrs]
  ·exact⟨rfl,HF.out⟩
 ·refine pl_t 12 (?_) (by rfl) ?_ rfl ?_
  rotate_left
  ·go_simp
   try with_reducible rfl
  simp only[nz]
  refine pl_t 13 (?_) (by rfl) ?_ rfl ?_
  rotate_left
  ·go_simp
   try with_reducible rfl
  simp only[nz]
  refine pl_t 14 (.int .i64 v0) (by rfl) (zg rfl rfl (Vb0.row 0 _ rfl) underlying3 rfl) rfl ?_
  simp only[nz]
  refine pl_t 15 (.bool b1) (by rfl) (by rw[←hb1.out];go_simp) rfl ?_
  simp only[nz]
  cases b1
  ·refine pl_t 16 (?_) (by rfl) ?_ rfl ?_
   rotate_left
   ·go_simp
    try with_reducible rfl
   simp only[nz]
   refine za ?_
   obtain rfl:ek=e0:=by have:=hek.out;simpa using this.symm
   have sk:=sb0
   have Vk:=Vb0
   go_upto_region 5 with fail
   try simp only[Act.put]
   refine zb ?_
   refine pl_t 20 (?_) (by rfl) ?_ rfl ?_
   rotate_left
   ·go_simp
    try with_reducible rfl
   simp only[nz]
   refine ze (d:=some 21) (by rfl) (by go_simp;first|done|exact⟨rfl,rfl⟩|with_reducible rfl) rfl ?_
   refine(c1 wb0 sk).mono ?_
   rintro _ wa1 ⟨rfl,sa1,ga1⟩
   refine⟨_,rfl,?_⟩
   simp only[nz]
   refine pl_t 22 (?_) (by rfl) ?_ rfl ?_
   rotate_left
   ·go_simp
    try with_reducible rfl
   simp only[nz]
   have Va1:=Vk.gb ga1
   have Vb1:=Va1.set 1 [.int .i64 v1] (zax Va1.row _).2.1
   have sb1:=Va1.st (o:=1) (vs:=[.int .i64 v1]) sa1
   refine zf (w':=wa1.setCells W1.heap.size 1 [.int .i64 v1]) (by rfl) (zC (n:=36) rfl rfl rfl Va1.box (by decide) iszI rfl rfl) rfl ?_
   refine za ?_
   obtain⟨wb1,hwb1⟩:∃W,wa1.setCells W1.heap.size 1 [.int .i64 v1]=W:=⟨_,rfl⟩
   rw[hwb1]at Vb1 sb1 ⊢
   clear hwb1 Va1 sa1 ga1
   go_upto_region 6 with fail
   try simp only[Act.put]
   refine zb ?_
   refine pl_t 23 (?_) (by rfl) ?_ rfl ?_
   rotate_left
   ·go_simp
    try with_reducible rfl
   simp only[nz]
   refine ze (d:=some 24) (by rfl) (by go_simp;first|done|exact⟨rfl,rfl⟩|with_reducible rfl) rfl ?_
   refine(c2 wb1 sb1).mono ?_
   rintro _ wa2 ⟨rfl,sa2,ga2⟩
   refine⟨_,rfl,?_⟩
   simp only[nz]
   refine pl_t 25 (?_) (by rfl) ?_ rfl ?_
   rotate_left
   ·go_simp
    try with_reducible rfl
   simp only[nz]
   have Va2:=Vb1.gb ga2
   have Vb2:=Va2.set 2 [.int .i64 v2] (zax Va2.row _).2.2.1
   have sb2:=Va2.st (o:=2) (vs:=[.int .i64 v2]) sa2
   refine zf (w':=wa2.setCells W1.heap.size 2 [.int .i64 v2]) (by rfl) (zC (n:=36) rfl rfl rfl Va2.box (by decide) iszI rfl rfl) rfl ?_
   refine za ?_
   obtain⟨wb2,hwb2⟩:∃W,wa2.setCells W1.heap.size 2 [.int .i64 v2]=W:=⟨_,rfl⟩
   rw[hwb2]at Vb2 sb2 ⊢
   clear hwb2 Va2 sa2 ga2
   go_upto_region 7 with fail
   try simp only[Act.put]
   refine zb ?_
   refine pl_t 26 (?_) (by rfl) ?_ rfl ?_
   rotate_left
   ·go_simp
    try with_reducible rfl
   simp only[nz]
   refine ze (d:=some 27) (by rfl) (by go_simp;first|done|exact⟨rfl,rfl⟩|with_reducible rfl) rfl ?_
   refine(c3 wb2 sb2).mono ?_
   rintro _ wa3 ⟨rfl,sa3,ga3⟩
   refine⟨_,rfl,?_⟩
   simp only[nz]
   refine pl_t 28 (?_) (by rfl) ?_ rfl ?_
   rotate_left
   ·go_simp
    try with_reducible rfl
   simp only[nz]
   have Va3:=Vb2.gb ga3
   have Vb3:=Va3.set 3 [.int .i64 v3] (zax Va3.row _).2.2.2
   have sb3:=Va3.st (o:=3) (vs:=[.int .i64 v3]) sa3
   refine zf (w':=wa3.setCells W1.heap.size 3 [.int .i64 v3]) (by rfl) (zC (n:=36) rfl rfl rfl Va3.box (by decide) iszI rfl rfl) rfl ?_
   refine za ?_
   obtain⟨wb3,hwb3⟩:∃W,wa3.setCells W1.heap.size 3 [.int .i64 v3]=W:=⟨_,rfl⟩
   rw[hwb3]at Vb3 sb3 ⊢
   clear hwb3 Va3 sa3 ga3
   go_upto_region 8 with fail
   try simp only[Act.put]
   refine zb ?_
   refine pl_t 29 (?_) (by rfl) ?_ rfl ?_
   rotate_left
   ·go_simp
    try with_reducible rfl
   simp only[nz]
   refine ze (d:=some 30) (by rfl) (by go_simp;first|done|exact⟨rfl,rfl⟩|with_reducible rfl) rfl ?_
   refine(c4 wb3 sb3 (Nat.lt_of_lt_of_le Vb3.lx Vb3.grown.size)).mono ?_
   rintro _ wd ⟨rfl,sd,gd⟩
   refine⟨_,rfl,?_⟩
   simp only[nz]
   refine pl_t 31 (?_) (by rfl) ?_ rfl ?_
   rotate_left
   ·go_simp
    try with_reducible rfl
   simp only[nz]
   have Vd:=Vb3.gb gd
   have Ve:=Vd.set 4 dv (zcm Vd.row (by rw[hdl];exact zaP Vd.box (by decide)))
   have se:=Vd.st (o:=4) (vs:=dv) sd
   refine zf (w':=wd.setCells W1.heap.size 4 dv) (by rfl) (zn (cs:=dv.toArray) rfl rfl rfl (by simpa [hdl]using zaP Vd.box (o:=4) (m:=32) (by decide)) (by simpa [hdl]using iszD) (zo hd1)) rfl ?_
   refine za ?_
   obtain⟨we,hwe⟩:∃W,wd.setCells W1.heap.size 4 dv=W:=⟨_,rfl⟩
   rw[hwe]at Ve se ⊢
   clear hwe Vd sd gd
   have rpc:=Ve.row
   rw[hpc.out]at rpc
   go_upto_region 9 with fail
   try simp only[Act.put]
   refine zb ?_
   refine pl_t 32 (.agg pc.toArray) (by rfl) (zp rfl rfl rpc underlying43 rfl hip) rfl ?_
   simp only[nz]
   refine zf (w':=we.setCells w.heap.size 0 pc) (by rfl) (zn (cs:=pc.toArray) rfl rfl rfl (by simpa [hpl]using Ve.ans) (by simpa using hip) (zo hp1)) rfl ?_
   refine za ?_
   have hrs:=run_loadVar_mid (P:=prog) (we.setCells w.heap.size 0 pc) w.heap.size 0 43 pc _ (World.rangeAt_setCells_same we w.heap.size 0 pc (by rw[hpl];exact Ve.ans)) underlying43 rfl hip
   have HF:Hid (RSt D (we.setCells w.heap.size 0 pc) X r4 e4∧w.grownBy (we.setCells w.heap.size 0 pc) (some X)):=hide ⟨se.gb (zM we w.heap.size pc 0) (.inr Ve.lx),zw Ve.grown (zi (B:=w.heap.size) (b:=w.heap.size) (Nat.le_refl _) pc 0 _ (Below.refl _ we)) (Nat.le_refl _)⟩
   clear Ve se rpc
   go_wp2_with fail
   refine bodyPost_ret (v:=.agg pc.toArray) ?_ rfl ?_
   ·simp[results,results118,Act.put,asAddr,hrs]
   ·exact⟨rfl,HF.out⟩
  ·refine pl_t 16 (?_) (by rfl) ?_ rfl ?_
   rotate_left
   ·go_simp
    try with_reducible rfl
   simp only[nz]
   refine za ?_
   obtain rfl:ek=130:=by have:=hek.out;simpa using this.symm
   go_upto_region 4 with fail
   try simp only[Act.put]
   refine zb ?_
   refine pl_t 17 (?_) (by rfl) ?_ rfl ?_
   rotate_left
   ·go_simp
    try with_reducible rfl
   simp only[nz]
   refine pl_t 18 (?_) (by rfl) ?_ rfl ?_
   rotate_left
   ·go_simp
    try with_reducible rfl
   simp only[nz]
   refine pl_t 19 (?_) (by rfl) ?_ rfl ?_
   rotate_left
   ·go_simp
    try with_reducible rfl
   simp only[nz]
   have sk:=sb0.bad 130 (by decide)
   have Vk:=Vb0.gb (zM wb0 X [.int .i64 130] 2)
   refine zf (w':=wb0.setCells X 2 [.int .i64 130]) (by rfl) (zC (n:=3) rfl rfl rfl sb0.there (by decide) iszI rfl rfl) rfl ?_
   refine za ?_
   obtain⟨wk,hwk⟩:∃W,wb0.setCells X 2 [.int .i64 130]=W:=⟨_,rfl⟩
   rw[hwk]at sk Vk ⊢
   clear hwk
   go_upto_region 5 with fail
   try simp only[Act.put]
   refine zb ?_
   refine pl_t 20 (?_) (by rfl) ?_ rfl ?_
   rotate_left
   ·go_simp
    try with_reducible rfl
   simp only[nz]
   refine ze (d:=some 21) (by rfl) (by go_simp;first|done|exact⟨rfl,rfl⟩|with_reducible rfl) rfl ?_
   refine(c1 wk sk).mono ?_
   rintro _ wa1 ⟨rfl,sa1,ga1⟩
   refine⟨_,rfl,?_⟩
   simp only[nz]
   refine pl_t 22 (?_) (by rfl) ?_ rfl ?_
   rotate_left
   ·go_simp
    try with_reducible rfl
   simp only[nz]
   have Va1:=Vk.gb ga1
   have Vb1:=Va1.set 1 [.int .i64 v1] (zax Va1.row _).2.1
   have sb1:=Va1.st (o:=1) (vs:=[.int .i64 v1]) sa1
   refine zf (w':=wa1.setCells W1.heap.size 1 [.int .i64 v1]) (by rfl) (zC (n:=36) rfl rfl rfl Va1.box (by decide) iszI rfl rfl) rfl ?_
   refine za ?_
   obtain⟨wb1,hwb1⟩:∃W,wa1.setCells W1.heap.size 1 [.int .i64 v1]=W:=⟨_,rfl⟩
   rw[hwb1]at Vb1 sb1 ⊢
   clear hwb1 Va1 sa1 ga1
   go_upto_region 6 with fail
   try simp only[Act.put]
   refine zb ?_
   refine pl_t 23 (?_) (by rfl) ?_ rfl ?_
   rotate_left
   ·go_simp
    try with_reducible rfl
   simp only[nz]
   refine ze (d:=some 24) (by rfl) (by go_simp;first|done|exact⟨rfl,rfl⟩|with_reducible rfl) rfl ?_
   refine(c2 wb1 sb1).mono ?_
   rintro _ wa2 ⟨rfl,sa2,ga2⟩
   refine⟨_,rfl,?_⟩
   simp only[nz]
   refine pl_t 25 (?_) (by rfl) ?_ rfl ?_
   rotate_left
   ·go_simp
    try with_reducible rfl
   simp only[nz]
   have Va2:=Vb1.gb ga2
   have Vb2:=Va2.set 2 [.int .i64 v2] (zax Va2.row _).2.2.1
   have sb2:=Va2.st (o:=2) (vs:=[.int .i64 v2]) sa2
   refine zf (w':=wa2.setCells W1.heap.size 2 [.int .i64 v2]) (by rfl) (zC (n:=36) rfl rfl rfl Va2.box (by decide) iszI rfl rfl) rfl ?_
   refine za ?_
   obtain⟨wb2,hwb2⟩:∃W,wa2.setCells W1.heap.size 2 [.int .i64 v2]=W:=⟨_,rfl⟩
   rw[hwb2]at Vb2 sb2 ⊢
   clear hwb2 Va2 sa2 ga2
   go_upto_region 7 with fail
   try simp only[Act.put]
   refine zb ?_
   refine pl_t 26 (?_) (by rfl) ?_ rfl ?_
   rotate_left
   ·go_simp
    try with_reducible rfl
   simp only[nz]
   refine ze (d:=some 27) (by rfl) (by go_simp;first|done|exact⟨rfl,rfl⟩|with_reducible rfl) rfl ?_
   refine(c3 wb2 sb2).mono ?_
   rintro _ wa3 ⟨rfl,sa3,ga3⟩
   refine⟨_,rfl,?_⟩
   simp only[nz]
   refine pl_t 28 (?_) (by rfl) ?_ rfl ?_
   rotate_left
   ·go_simp
    try with_reducible rfl
   simp only[nz]
   have Va3:=Vb2.gb ga3
   have Vb3:=Va3.set 3 [.int .i64 v3] (zax Va3.row _).2.2.2
   have sb3:=Va3.st (o:=3) (vs:=[.int .i64 v3]) sa3
   refine zf (w':=wa3.setCells W1.heap.size 3 [.int .i64 v3]) (by rfl) (zC (n:=36) rfl rfl rfl Va3.box (by decide) iszI rfl rfl) rfl ?_
   refine za ?_
   obtain⟨wb3,hwb3⟩:∃W,wa3.setCells W1.heap.size 3 [.int .i64 v3]=W:=⟨_,rfl⟩
   rw[hwb3]at Vb3 sb3 ⊢
   clear hwb3 Va3 sa3 ga3
   go_upto_region 8 with fail
   try simp only[Act.put]
   refine zb ?_
   refine pl_t 29 (?_) (by rfl) ?_ rfl ?_
   rotate_left
   ·go_simp
    try with_reducible rfl
   simp only[nz]
   refine ze (d:=some 30) (by rfl) (by go_simp;first|done|exact⟨rfl,rfl⟩|with_reducible rfl) rfl ?_
   refine(c4 wb3 sb3 (Nat.lt_of_lt_of_le Vb3.lx Vb3.grown.size)).mono ?_
   rintro _ wd ⟨rfl,sd,gd⟩
   refine⟨_,rfl,?_⟩
   simp only[nz]
   refine pl_t 31 (?_) (by rfl) ?_ rfl ?_
   rotate_left
   ·go_simp
    try with_reducible rfl
   simp only[nz]
   have Vd:=Vb3.gb gd
   have Ve:=Vd.set 4 dv (zcm Vd.row (by rw[hdl];exact zaP Vd.box (by decide)))
   have se:=Vd.st (o:=4) (vs:=dv) sd
   refine zf (w':=wd.setCells W1.heap.size 4 dv) (by rfl) (zn (cs:=dv.toArray) rfl rfl rfl (by simpa [hdl]using zaP Vd.box (o:=4) (m:=32) (by decide)) (by simpa [hdl]using iszD) (zo hd1)) rfl ?_
   refine za ?_
   obtain⟨we,hwe⟩:∃W,wd.setCells W1.heap.size 4 dv=W:=⟨_,rfl⟩
   rw[hwe]at Ve se ⊢
   clear hwe Vd sd gd
   have rpc:=Ve.row
   rw[hpc.out]at rpc
   go_upto_region 9 with fail
   try simp only[Act.put]
   refine zb ?_
   refine pl_t 32 (.agg pc.toArray) (by rfl) (zp rfl rfl rpc underlying43 rfl hip) rfl ?_
   simp only[nz]
   refine zf (w':=we.setCells w.heap.size 0 pc) (by rfl) (zn (cs:=pc.toArray) rfl rfl rfl (by simpa [hpl]using Ve.ans) (by simpa using hip) (zo hp1)) rfl ?_
   refine za ?_
   have hrs:=run_loadVar_mid (P:=prog) (we.setCells w.heap.size 0 pc) w.heap.size 0 43 pc _ (World.rangeAt_setCells_same we w.heap.size 0 pc (by rw[hpl];exact Ve.ans)) underlying43 rfl hip
   have HF:Hid (RSt D (we.setCells w.heap.size 0 pc) X r4 e4∧w.grownBy (we.setCells w.heap.size 0 pc) (some X)):=hide ⟨se.gb (zM we w.heap.size pc 0) (.inr Ve.lx),zw Ve.grown (zi (B:=w.heap.size) (b:=w.heap.size) (Nat.le_refl _) pc 0 _ (Below.refl _ we)) (Nat.le_refl _)⟩
   clear Ve se rpc
   go_wp2_with fail
   refine bodyPost_ret (v:=.agg pc.toArray) ?_ rfl ?_
   ·simp[results,results118,Act.put,asAddr,hrs]
   ·exact⟨rfl,HF.out⟩
end Go.Proofs.YtcbpbkefggekmaaGreatDoor
