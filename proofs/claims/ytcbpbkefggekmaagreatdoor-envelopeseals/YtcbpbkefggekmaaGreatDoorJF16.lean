/- the document's fields: kind 7; the document's fields: kind 8; the document's Decode; both Decodes are the same: what is pure; what is read comes back, and has o -/
import Derived.Test.YtcbpbkefggekmaaGreatDoorJF0
import Derived.Test.YtcbpbkefggekmaaGreatDoorJF15
import Derived.Test.YtcbpbkefggekmaaGreatDoorJF4
import Derived.Test.YtcbpbkefggekmaaGreatDoorJF11
import Derived.Test.YtcbpbkefggekmaaGreatDoorJF8
import Derived.Test.YtcbpbkefggekmaaGreatDoorJF13
import Derived.Test.YtcbpbkefggekmaaGreatDoorJF7
import Derived.Deep.Cut
import Derived.Deep.DeepCutAuto
set_option maxHeartbeats 1000000
set_option maxRecDepth 100000
open Go.Proofs.Tryz
namespace Go.Proofs.YtcbpbkefggekmaaGreatDoor
open Go.RowKit
open Sha Tal
set_option linter.unusedVariables false
set_option linter.unusedSimpArgs false
theorem zhN (D X:Nat) (s:Xst) (w:World) (h:XR w D X s):Calls prog 68 #[.pointer (some ⟨X,0,none⟩),.agg (Ms.plain 7 0 0 Vt.zero zb).cells.toArray] w fun en w'=>∃m:Mg,en=.returned (.agg m.ms.cells.toArray)∧m.pure=(xmg7 s).1∧m.ok∧m.At w'∧m.Bk (fun b=>w.heap.size≤b)∧XR w' D X (xmg7 s).2∧w.grownBy w' (some X):=by
 have hXw:=h.lx
 unfold xmg7
 have c_a:=fun w0 h0=>xbatS D X s w0 h0
 generalize xbaS s=p_ at c_a ⊢
 obtain⟨⟨q_a,rs_a⟩,s_a⟩:=p_
 simp only at c_a ⊢
 have c_b:=fun w0 h0=>xcertS D X s_a w0 h0
 generalize xceS s_a=p_ at c_b ⊢
 obtain⟨⟨vt_b,sg_b⟩,s_b⟩:=p_
 simp only at c_b ⊢
 obtain⟨zc,hzl,hzr⟩:∃z:List Value,z.length=119∧∀w:World,(zeroValue 52).run prog w=.ok (.agg z.toArray) w:=⟨_,(Ms.plain_ok 0 0 0 Vt.zero_ok zw zG).len,zeroM⟩
 have hql:=(zE 7).len
 have hk0:∀(w':World) b,w'.rangeAt b 0 (Ms.plain 7 0 0 Vt.zero zb).cells→w'.cell? ⟨b,0,none⟩=some (.int .i64 7):=fun w' b h=>((zE 7).at h).k
 obtain⟨qk,hqk⟩:∃q,Hid ((Ms.plain 7 0 0 Vt.zero zb).cells=q):=⟨_,hide rfl⟩
 simp only[hqk.out]at hql hk0 ⊢
 obtain⟨hB1,hr1,hs1⟩:=zq w qk 52
 have ht1:=zi w qk.toArray 52 (n:=119) (by simp[hql])
 go_enter func68,ntmps68
 go_upto_region 0 with fail
 refine pl_b ?_
 refine pl_r 3 (.pointer (some ⟨w.heap.size,0,none⟩)) (w.alloc (.cells qk.toArray 52)) (zaC rfl rfl) ?_
 obtain⟨W1,hW1⟩:∃W,w.alloc (.cells qk.toArray 52)=W:=⟨_,rfl⟩
 rw[hW1]at hB1 hr1 hs1 ht1 ⊢
 clear hW1
 refine pl_r 4 (.pointer (some ⟨W1.heap.size,0,none⟩)) (W1.alloc (.cells zc.toArray 52)) (zo rfl (hzr _)) ?_
 refine za ?_
 obtain⟨hB2,hr2,hs2⟩:=zq W1 zc 52
 have ht2:=zi W1 zc.toArray 52 (n:=119) (by simp[hzl])
 obtain⟨W2,hW2⟩:∃W,W1.alloc (.cells zc.toArray 52)=W:=⟨_,rfl⟩
 rw[hW2]at hB2 hr2 hs2 ht2 ⊢
 clear hW2 hr2
 have hBW:=hB1.trans (hB2.mono hB1.size)
 have hr3:=zd hr1 hB2 hs1
 have hc0:=hk0 _ _ hr3
 rw[←hqk.out]at hr3
 have V0:XW w D X W1.heap.size w.heap.size 119 (Ms.plain 7 0 0 Vt.zero zb).cells s W2:=⟨hr3,zam ht1 hB2 hs1,ht2,zW hBW _,h.below hBW,hs2,by have:=hB2.size;omega,hB1.size,Nat.le_refl _,by omega,hXw⟩
 clear hr3 ht1 ht2 hB1 hB2 hBW hr1 hk0 hqk h hzr hzl hql
 go_upto_region 1 with fail
 refine pl_b ?_
 refine pl_a 5 ?_
 refine pl_v 6 (.int .i64 7) (zg rfl rfl hc0 underlying3 rfl) ?_
 refine za ?_
 clear hc0
 go_upto_region 22 with fail
 refine pl_b ?_
 refine pl_a 60 ?_
 refine pl_c 61 ?_
 refine(c_a W2 V0.rs).mono ?_
 rintro _ w1a ⟨x,rfl,hx,hA,hB,S1,g1⟩
 refine⟨_,rfl,?_⟩
 simp only[nz]
 refine pl_a 62 ?_
 have U1:=V0.on g1 S1
 have V1:=U1.set 5 [.bool q_a,x.val] (zcc q_a x.val U1.row (U1.part 5 2 (by decide)))
 have zz1:=V0.gr.size
 have lb1:=V0.lb
 have la1:=V0.la
 have yy1:=g1.size
 refine pl_s (w1a.setCells w.heap.size 5 [.bool q_a,x.val]) (zf (cs:=#[.bool q_a,x.val]) rfl rfl rfl (U1.part 5 2 (by decide)) iszBa (by simp[Value.oneCell',Sl.val])) ?_
 refine za ?_
 have hA1:=hA.put (B:=w.heap.size) (o:=5) (vs:=[.bool q_a,x.val]) hB (fun b hb=>by omega)
 clear hA
 clear S1 U1 V0 c_a
 obtain⟨w1b,hw1b⟩:∃W,w1a.setCells w.heap.size 5 [.bool q_a,x.val]=W:=⟨_,rfl⟩
 rw[hw1b]at V1 hA1 ⊢
 clear hw1b
 go_upto_region 23 with fail
 refine pl_b ?_
 refine pl_a 63 ?_
 refine pl_c 64 ?_
 refine(c_b w1b V1.rs).mono ?_
 rintro _ w2a ⟨y,rfl,hy,hC,hD,hvt,S2,g2⟩
 refine⟨_,rfl,?_⟩
 simp only[nz]
 refine pl_a 65 ?_
 have U2:=V1.on g2 S2
 have hcl:(certL vt_b y).length=37:=by have:=hvt.len;simp[certL];omega
 have hc1:∀v∈certL vt_b y,v.oneCell'=true:=fun v hv=>by
  rcases List.mem_append.1 hv with g|g
  ·exact Vt.one vt_b v g
  ·rw[List.mem_singleton.1 g];rfl
 have V2:=U2.set 80 (certL vt_b y) (zfU vt_b y.val hvt Vt.zero_ok zw Vt.zero_ok U2.row (U2.part 80 37 (by decide)))
 have zz2:=V1.gr.size
 have lb2:=V1.lb
 have la2:=V1.la
 have yy2:=g2.size
 refine pl_s (w2a.setCells w.heap.size 80 (certL vt_b y)) (zf (cs:=(certL vt_b y).toArray) rfl rfl rfl (by simpa [hcl]using U2.part 80 37 (by decide)) (by simpa [hcl]using iszCe) (zh hc1)) ?_
 refine za ?_
 have hA2:=(hA1.gbx g2 hB (fun b hb=>by omega)).put (B:=w.heap.size) (o:=80) (vs:=(certL vt_b y)) hB (fun b hb=>by omega)
 have hC2:=hC.put (B:=w.heap.size) (o:=80) (vs:=(certL vt_b y)) hD (fun b hb=>by omega)
 clear hA1 hC
 clear S2 U2 V1 c_b
 obtain⟨w2b,hw2b⟩:∃W,w2a.setCells w.heap.size 80 (certL vt_b y)=W:=⟨_,rfl⟩
 rw[hw2b]at V2 hA2 hC2 ⊢
 clear hw2b
 have rpc:=V2.row
 have hmo:Mg.ok ⟨7,0,0,0,0,q_a,x,Vt.zero,0,0,0,⟨none,0,[]⟩,⟨none,0,[]⟩,zb,vt_b,y,⟨#[]⟩,⟨none,0,[]⟩⟩:=⟨Vt.zero_ok,hvt,zw,zG⟩
 have hpl:(Mg.ms ⟨7,0,0,0,0,q_a,x,Vt.zero,0,0,0,⟨none,0,[]⟩,⟨none,0,[]⟩,zb,vt_b,y,⟨#[]⟩,⟨none,0,[]⟩⟩).cells.length=119:=hmo.ms.len
 have hp1:=hmo.ms.one
 have hip:(prog.info? 52).map (·.size)=some (Mg.ms ⟨7,0,0,0,0,q_a,x,Vt.zero,0,0,0,⟨none,0,[]⟩,⟨none,0,[]⟩,zb,vt_b,y,⟨#[]⟩,⟨none,0,[]⟩⟩).cells.length:=by rw[hpl];exact iszM
 have rpc:w2b.rangeAt w.heap.size 0 (Mg.ms ⟨7,0,0,0,0,q_a,x,Vt.zero,0,0,0,⟨none,0,[]⟩,⟨none,0,[]⟩,zb,vt_b,y,⟨#[]⟩,⟨none,0,[]⟩⟩).cells:=rpc
 obtain⟨pc,hpc⟩:∃p,Hid ((Mg.ms ⟨7,0,0,0,0,q_a,x,Vt.zero,0,0,0,⟨none,0,[]⟩,⟨none,0,[]⟩,zb,vt_b,y,⟨#[]⟩,⟨none,0,[]⟩⟩).cells=p):=⟨_,hide rfl⟩
 simp only[hpc.out]at hpl hip hp1 rpc
 go_upto_region 27 with fail
 refine pl_b ?_
 refine pl_v 74 (.agg pc.toArray) (zp rfl rfl rpc underlying52 rfl hip) ?_
 refine pl_s (w2b.setCells W1.heap.size 0 pc) (zf (cs:=pc.toArray) rfl rfl rfl (by simpa [hpl]using V2.ans) (by simpa using hip) (zh hp1)) ?_
 refine za ?_
 have hlow:Below w.heap.size w2b (w2b.setCells W1.heap.size 0 pc):=ze V2.na pc 0 _ (Below.refl _ w2b)
 have hrs:=run_loadVar_mid (P:=prog) (w2b.setCells W1.heap.size 0 pc) W1.heap.size 0 52 pc _ (World.rangeAt_setCells_same w2b W1.heap.size 0 pc (by rw[hpl];exact V2.ans)) underlying52 rfl hip
 have HF:Hid (∃m:Mg,Ending.returned (.agg pc.toArray)=.returned (.agg m.ms.cells.toArray)∧m.pure=(⟨7,0,0,0,0,q_a,rs_a,Vt.zero,0,0,0,[],[],zb,vt_b,sg_b,⟨#[]⟩,[]⟩:Mp)∧m.ok∧m.At (w2b.setCells W1.heap.size 0 pc)∧m.Bk (fun b=>w.heap.size≤b)∧XR (w2b.setCells W1.heap.size 0 pc) D X s_b∧w.grownBy (w2b.setCells W1.heap.size 0 pc) (some X)):=hide ⟨⟨7,0,0,0,0,q_a,x,Vt.zero,0,0,0,⟨none,0,[]⟩,⟨none,0,[]⟩,zb,vt_b,y,⟨#[]⟩,⟨none,0,[]⟩⟩,by rw[hpc.out],by rw[←hx,←hy];rfl,hmo,zai (hA2.put hB (fun b hb=>by omega)) zV RowsAt.none (hC2.put hD (fun b hb=>by omega)) RowsAt.none,⟨hB.mono (fun b hb=>by omega),zm,zah,zm,hD.mono (fun b hb=>by omega),zm⟩,V2.rs.low hlow hXw,zu V2.gr hlow (Nat.le_refl _)⟩
 clear V2 hlow rpc hpc hmo hx hy hB hD hA2 hC2
 go_wp2_with fail
 refine bodyPost_ret (v:=.agg pc.toArray) ?_ rfl ?_
 ·simp[results,results68,Act.put,asAddr,hrs]
 ·exact HF.out
theorem zhM (D X:Nat) (s:Xst) (w:World) (h:XR w D X s):Calls prog 68 #[.pointer (some ⟨X,0,none⟩),.agg (Ms.plain 8 0 0 Vt.zero zb).cells.toArray] w fun en w'=>∃m:Mg,en=.returned (.agg m.ms.cells.toArray)∧m.pure=(xmg8 s).1∧m.ok∧m.At w'∧m.Bk (fun b=>w.heap.size≤b)∧XR w' D X (xmg8 s).2∧w.grownBy w' (some X):=by
 have hXw:=h.lx
 unfold xmg8
 have c_a:=fun w0 h0=>xtextS D X 4194304 s w0 h0
 generalize xtxS 4194304 s=p_ at c_a ⊢
 obtain⟨v_a,s_a⟩:=p_
 simp only at c_a ⊢
 have c_b:=fun w0 h0=>xlistS D X s_a w0 h0
 generalize xlsS 64 xsiS s_a=p_ at c_b ⊢
 obtain⟨v_b,s_b⟩:=p_
 simp only at c_b ⊢
 obtain⟨zc,hzl,hzr⟩:∃z:List Value,z.length=119∧∀w:World,(zeroValue 52).run prog w=.ok (.agg z.toArray) w:=⟨_,(Ms.plain_ok 0 0 0 Vt.zero_ok zw zG).len,zeroM⟩
 have hql:=(zE 8).len
 have hk0:∀(w':World) b,w'.rangeAt b 0 (Ms.plain 8 0 0 Vt.zero zb).cells→w'.cell? ⟨b,0,none⟩=some (.int .i64 8):=fun w' b h=>((zE 8).at h).k
 obtain⟨qk,hqk⟩:∃q,Hid ((Ms.plain 8 0 0 Vt.zero zb).cells=q):=⟨_,hide rfl⟩
 simp only[hqk.out]at hql hk0 ⊢
 obtain⟨hB1,hr1,hs1⟩:=zq w qk 52
 have ht1:=zi w qk.toArray 52 (n:=119) (by simp[hql])
 go_enter func68,ntmps68
 go_upto_region 0 with fail
 refine pl_b ?_
 refine pl_r 3 (.pointer (some ⟨w.heap.size,0,none⟩)) (w.alloc (.cells qk.toArray 52)) (zaC rfl rfl) ?_
 obtain⟨W1,hW1⟩:∃W,w.alloc (.cells qk.toArray 52)=W:=⟨_,rfl⟩
 rw[hW1]at hB1 hr1 hs1 ht1 ⊢
 clear hW1
 refine pl_r 4 (.pointer (some ⟨W1.heap.size,0,none⟩)) (W1.alloc (.cells zc.toArray 52)) (zo rfl (hzr _)) ?_
 refine za ?_
 obtain⟨hB2,hr2,hs2⟩:=zq W1 zc 52
 have ht2:=zi W1 zc.toArray 52 (n:=119) (by simp[hzl])
 obtain⟨W2,hW2⟩:∃W,W1.alloc (.cells zc.toArray 52)=W:=⟨_,rfl⟩
 rw[hW2]at hB2 hr2 hs2 ht2 ⊢
 clear hW2 hr2
 have hBW:=hB1.trans (hB2.mono hB1.size)
 have hr3:=zd hr1 hB2 hs1
 have hc0:=hk0 _ _ hr3
 rw[←hqk.out]at hr3
 have V0:XW w D X W1.heap.size w.heap.size 119 (Ms.plain 8 0 0 Vt.zero zb).cells s W2:=⟨hr3,zam ht1 hB2 hs1,ht2,zW hBW _,h.below hBW,hs2,by have:=hB2.size;omega,hB1.size,Nat.le_refl _,by omega,hXw⟩
 clear hr3 ht1 ht2 hB1 hB2 hBW hr1 hk0 hqk h hzr hzl hql
 go_upto_region 1 with fail
 refine pl_b ?_
 refine pl_a 5 ?_
 refine pl_v 6 (.int .i64 8) (zg rfl rfl hc0 underlying3 rfl) ?_
 refine za ?_
 clear hc0
 go_upto_region 25 with fail
 refine pl_b ?_
 refine pl_a 68 ?_
 refine pl_c 69 ?_
 refine(c_a W2 V0.rs).mono ?_
 rintro _ w1a ⟨rfl,S1,g1⟩
 refine⟨_,rfl,?_⟩
 simp only[nz]
 refine pl_a 70 ?_
 have U1:=V0.on g1 S1
 have V1:=U1.set 117 [.string v_a] (zfP v_a Vt.zero_ok zw Vt.zero_ok U1.row (U1.part 117 1 (by decide)))
 have zz1:=V0.gr.size
 have lb1:=V0.lb
 have la1:=V0.la
 have yy1:=g1.size
 refine pl_s (w1a.setCells w.heap.size 117 [.string v_a]) (zD (n:=119) rfl rfl rfl U1.box (by decide) iszStr rfl rfl) ?_
 refine za ?_
 clear S1 U1 V0 c_a
 obtain⟨w1b,hw1b⟩:∃W,w1a.setCells w.heap.size 117 [.string v_a]=W:=⟨_,rfl⟩
 rw[hw1b]at V1 ⊢
 clear hw1b
 go_upto_region 26 with fail
 refine pl_b ?_
 refine pl_a 71 ?_
 refine pl_c 72 ?_
 refine(c_b w1b V1.rs).mono ?_
 rintro _ w2a ⟨x,rfl,hx,hA,hB,S2,g2⟩
 refine⟨_,rfl,?_⟩
 simp only[nz]
 refine pl_a 73 ?_
 have U2:=V1.on g2 S2
 have V2:=U2.set 118 [x.val] (zfQ x.val Vt.zero_ok zw Vt.zero_ok U2.row (U2.part 118 1 (by decide)))
 have zz2:=V1.gr.size
 have lb2:=V1.lb
 have la2:=V1.la
 have yy2:=g2.size
 refine pl_s (w2a.setCells w.heap.size 118 [x.val]) (zD (n:=119) rfl rfl rfl U2.box (by decide) iszSgs rfl rfl) ?_
 refine za ?_
 have hA2:=hA.put (B:=w.heap.size) (o:=118) (vs:=[x.val]) hB (fun b hb=>by omega)
 clear hA
 clear S2 U2 V1 c_b
 obtain⟨w2b,hw2b⟩:∃W,w2a.setCells w.heap.size 118 [x.val]=W:=⟨_,rfl⟩
 rw[hw2b]at V2 hA2 ⊢
 clear hw2b
 have rpc:=V2.row
 have hmo:Mg.ok ⟨8,0,0,0,0,false,⟨none,0,[]⟩,Vt.zero,0,0,0,⟨none,0,[]⟩,⟨none,0,[]⟩,zb,Vt.zero,⟨none,0,[]⟩,v_a,x⟩:=⟨Vt.zero_ok,Vt.zero_ok,zw,zG⟩
 have hpl:(Mg.ms ⟨8,0,0,0,0,false,⟨none,0,[]⟩,Vt.zero,0,0,0,⟨none,0,[]⟩,⟨none,0,[]⟩,zb,Vt.zero,⟨none,0,[]⟩,v_a,x⟩).cells.length=119:=hmo.ms.len
 have hp1:=hmo.ms.one
 have hip:(prog.info? 52).map (·.size)=some (Mg.ms ⟨8,0,0,0,0,false,⟨none,0,[]⟩,Vt.zero,0,0,0,⟨none,0,[]⟩,⟨none,0,[]⟩,zb,Vt.zero,⟨none,0,[]⟩,v_a,x⟩).cells.length:=by rw[hpl];exact iszM
 have rpc:w2b.rangeAt w.heap.size 0 (Mg.ms ⟨8,0,0,0,0,false,⟨none,0,[]⟩,Vt.zero,0,0,0,⟨none,0,[]⟩,⟨none,0,[]⟩,zb,Vt.zero,⟨none,0,[]⟩,v_a,x⟩).cells:=rpc
 obtain⟨pc,hpc⟩:∃p,Hid ((Mg.ms ⟨8,0,0,0,0,false,⟨none,0,[]⟩,Vt.zero,0,0,0,⟨none,0,[]⟩,⟨none,0,[]⟩,zb,Vt.zero,⟨none,0,[]⟩,v_a,x⟩).cells=p):=⟨_,hide rfl⟩
 simp only[hpc.out]at hpl hip hp1 rpc
 go_upto_region 27 with fail
 refine pl_b ?_
 refine pl_v 74 (.agg pc.toArray) (zp rfl rfl rpc underlying52 rfl hip) ?_
 refine pl_s (w2b.setCells W1.heap.size 0 pc) (zf (cs:=pc.toArray) rfl rfl rfl (by simpa [hpl]using V2.ans) (by simpa using hip) (zh hp1)) ?_
 refine za ?_
 have hlow:Below w.heap.size w2b (w2b.setCells W1.heap.size 0 pc):=ze V2.na pc 0 _ (Below.refl _ w2b)
 have hrs:=run_loadVar_mid (P:=prog) (w2b.setCells W1.heap.size 0 pc) W1.heap.size 0 52 pc _ (World.rangeAt_setCells_same w2b W1.heap.size 0 pc (by rw[hpl];exact V2.ans)) underlying52 rfl hip
 have HF:Hid (∃m:Mg,Ending.returned (.agg pc.toArray)=.returned (.agg m.ms.cells.toArray)∧m.pure=(⟨8,0,0,0,0,false,[],Vt.zero,0,0,0,[],[],zb,Vt.zero,[],v_a,v_b⟩:Mp)∧m.ok∧m.At (w2b.setCells W1.heap.size 0 pc)∧m.Bk (fun b=>w.heap.size≤b)∧XR (w2b.setCells W1.heap.size 0 pc) D X s_b∧w.grownBy (w2b.setCells W1.heap.size 0 pc) (some X)):=hide ⟨⟨8,0,0,0,0,false,⟨none,0,[]⟩,Vt.zero,0,0,0,⟨none,0,[]⟩,⟨none,0,[]⟩,zb,Vt.zero,⟨none,0,[]⟩,v_a,x⟩,by rw[hpc.out],by rw[←hx];rfl,hmo,zai RowsAt.none zV RowsAt.none RowsAt.none (hA2.put hB (fun b hb=>by omega)),⟨zm,zm,zah,zm,zm,hB.mono (fun b hb=>by omega)⟩,V2.rs.low hlow hXw,zu V2.gr hlow (Nat.le_refl _)⟩
 clear V2 hlow rpc hpc hmo hx hB hA2
 go_wp2_with fail
 refine bodyPost_ret (v:=.agg pc.toArray) ?_ rfl ?_
 ·simp[results,results68,Act.put,asAddr,hrs]
 ·exact HF.out
theorem xfieldsS (D X:Nat) (k:Int) (s:Xst) (w:World) (h:XR w D X s):Calls prog 68 #[.pointer (some ⟨X,0,none⟩),.agg (Ms.plain k 0 0 Vt.zero zb).cells.toArray] w fun en w'=>∃m:Mg,en=.returned (.agg m.ms.cells.toArray)∧m.pure=(xmgF k s).1∧m.ok∧m.At w'∧m.Bk (fun b=>w.heap.size≤b)∧XR w' D X (xmgF k s).2∧w.grownBy w' (some X):=by
 unfold xmgF
 by_cases n1:k=1
 ·rw[if_pos n1];subst n1;exact zhT D X s w h
 rw[if_neg n1]
 by_cases n2:k=2
 ·rw[if_pos n2];subst n2;exact zhS D X s w h
 rw[if_neg n2]
 by_cases n3:k=3
 ·rw[if_pos n3];subst n3;exact zhR D X s w h
 rw[if_neg n3]
 by_cases n4:k=4
 ·rw[if_pos n4];subst n4;exact zhQ D X s w h
 rw[if_neg n4]
 by_cases n5:k=5
 ·rw[if_pos n5];subst n5;exact zhP D X s w h
 rw[if_neg n5]
 by_cases n6:k=6
 ·rw[if_pos n6];subst n6;exact zhO D X s w h
 rw[if_neg n6]
 by_cases n7:k=7
 ·rw[if_pos n7];subst n7;exact zhN D X s w h
 rw[if_neg n7]
 by_cases n8:k=8
 ·rw[if_pos n8];subst n8;exact zhM D X s w h
 rw[if_neg n8]
 exact zhU D X s w h k n1 n2 n3 n4 n5 n6 n7 n8
theorem xdoneS (D X:Nat) (s:Xst) (w:World) (h:XR w D X s):Calls prog 47 #[.pointer (some ⟨X,0,none⟩)] w fun en w'=>en=.returned (.int .i64 (doneE s.1 s.2))∧Below w.heap.size w w':=by
 obtain⟨rest,e⟩:=s
 have c2:=h.st.err
 simp only at c2 ⊢
 unfold doneE
 by_cases he:e=0
 ·subst he
  obtain⟨zs,p,⟨hX,⟨a,cap,c0,hc,hm,hr,hb⟩,c1,c2',f0,f1,f2,hp,hl⟩,hd⟩:=h.st
  have hd:List.drop p zs=rest:=hd rfl
  have hlen:rest.length=zs.length - p:=by rw[←hd,List.length_drop]
  rw[if_pos rfl]
  clear h hr c2'
  by_cases hz:rest.length=0
  ·rw[if_pos hz]
   have hlt:¬((p:Int)<(zs.length:Int)):=by omega
   go_enter func47,ntmps47
   go_upto_region 3 with fail
   have d0:w.drew.cell? ⟨X,0,none⟩=_:=c0
   have d1:w.drew.cell? ⟨X,1,none⟩=_:=c1
   have hB8:Below w.heap.size w w.drew:=(Below.refl _ _).drew
   refine zC (S:=(Below w.drew.heap.size w.drew)) 10 rfl (by kernel_rfl) ?_
   have hS:(Below w.drew.heap.size w.drew) w.drew:=Below.refl _ _
   have k0:∀w',Below w.drew.heap.size w.drew w'→w'.cell? ⟨X,0,none⟩=some (.slice a zs.length cap):=fun w' hw=>(zO (hw.block X hX)).1.trans c0
   have k1:∀w',Below w.drew.heap.size w.drew w'→w'.cell? ⟨X,1,none⟩=some (.int .i64 (p:Int)):=fun w' hw=>(zO (hw.block X hX)).1.trans c1
   refine hs_a 0 12 hS ?_
   refine hs_a 1 13 hS ?_
   refine hs_a 2 14 hS ?_
   refine hs_v 3 15 (.int .i64 (p:Int)) rfl (fun w' hw=>zg rfl rfl (k1 _ hw) underlying3 rfl) hS ?_
   refine hs_a 4 16 hS ?_
   refine hs_a 5 17 hS ?_
   refine hs_a 6 18 hS ?_
   refine hs_v 7 19 (.slice a zs.length cap) rfl (fun w' hw=>zg rfl rfl (k0 _ hw) underlying59 rfl) hS ?_
   refine hs_a 8 20 hS ?_
   refine hs_v 9 21 (.bool false) rfl (fun w' hw=>by go_simp<;>(try simp)<;>(try omega)) hS ?_
   refine zv (by kernel_rfl) ?_
   go_wp2_with fail
   go_ret
   exact⟨rfl,hB8⟩
  ·rw[if_neg hz]
   have hlt:(p:Int)<(zs.length:Int):=by omega
   go_enter func47,ntmps47
   go_upto_region 3 with fail
   have hB8:Below w.heap.size w w.drew:=(Below.refl _ _).drew
   refine zC (S:=(Below w.drew.heap.size w.drew)) 10 rfl (by kernel_rfl) ?_
   have hS:(Below w.drew.heap.size w.drew) w.drew:=Below.refl _ _
   have k0:∀w',Below w.drew.heap.size w.drew w'→w'.cell? ⟨X,0,none⟩=some (.slice a zs.length cap):=fun w' hw=>(zO (hw.block X hX)).1.trans c0
   have k1:∀w',Below w.drew.heap.size w.drew w'→w'.cell? ⟨X,1,none⟩=some (.int .i64 (p:Int)):=fun w' hw=>(zO (hw.block X hX)).1.trans c1
   refine hs_a 0 12 hS ?_
   refine hs_a 1 13 hS ?_
   refine hs_a 2 14 hS ?_
   refine hs_v 3 15 (.int .i64 (p:Int)) rfl (fun w' hw=>zg rfl rfl (k1 _ hw) underlying3 rfl) hS ?_
   refine hs_a 4 16 hS ?_
   refine hs_a 5 17 hS ?_
   refine hs_a 6 18 hS ?_
   refine hs_v 7 19 (.slice a zs.length cap) rfl (fun w' hw=>zg rfl rfl (k0 _ hw) underlying59 rfl) hS ?_
   refine hs_a 8 20 hS ?_
   refine hs_v 9 21 (.bool true) rfl (fun w' hw=>by go_simp<;>(try simp)<;>(try omega)) hS ?_
   refine zv (by kernel_rfl) ?_
   go_wp2_with fail
   go_ret
   exact⟨rfl,hB8⟩
 ·have hne:(e !=0)=true:=by simpa using he
  rw[if_neg he]
  clear h
  go_enter func47,ntmps47
  go_wp2_with fail
  go_ret
  exact⟨rfl,Below.refl _ _⟩
def decX (zs:List Int):Mp ×Int:=
 if(xnuS 8 (zs,0)).2.2=0∧(xnuS 8 (zs,0)).1=0 then(Mp.none,130)
 else if doneE (xmgF (xnuS 8 (zs,0)).1 (xnuS 8 (zs,0)).2).2.1 (xmgF (xnuS 8 (zs,0)).1 (xnuS 8 (zs,0)).2).2.2=0 then((xmgF (xnuS 8 (zs,0)).1 (xnuS 8 (zs,0)).2).1,0)
 else(Mp.none,doneE (xmgF (xnuS 8 (zs,0)).1 (xnuS 8 (zs,0)).2).2.1 (xmgF (xnuS 8 (zs,0)).1 (xnuS 8 (zs,0)).2).2.2)
theorem zlz {P:Program} {o:Oper} {a:Act} {w w':World} {t e:TypeId} {x:Operand} {v v':Value} (ho:o.op=.convert t e x) (hx:a.eval x=v) (hr:(convert t e v).run P w=.ok v' w'):(execOp a.eval o).run P w=.ok (.value v') w':=by
 unfold execOp
 simp only[ho,hx,Sem.run_bind,hr,Result.andThen_ok,Sem.run_pure]
theorem zh3 (sb:ByteArray) (hs:sb.size≤40000) (w:World):Calls prog 32 #[.string sb] w fun en w'=>∃m:Mg,en=.returned (.tuple #[.agg m.ms.cells.toArray,.int .i64 (decX (strL sb)).2])∧m.pure=(decX (strL sb)).1∧m.ok∧m.At w'∧m.Bk (fun b=>w.heap.size≤b)∧Below w.heap.size w w':=by
 obtain⟨zc,hzc,hzl,hz1,hzr,hb0⟩:∃z:List Value,Hid (z=Mg.none.ms.cells)∧z.length=119∧(∀v∈z,v.oneCell'=true)∧(∀w:World,(zeroValue 52).run prog w=.ok (.agg z.toArray) w)∧∀w:World,(Instr.build 52 #[]).run prog w=.ok (.agg z.toArray) w:=⟨_,hide rfl,Mg.none_ok.ms.len,Mg.none_ok.ms.one,zeroM,zc9⟩
 have hiz:(prog.info? 52).map (·.size)=some zc.length:=by rw[hzl];exact iszM
 have hsl:(strL sb).length≤40000:=by rw[zX];exact hs
 have hs':(sb.size:Int)≤4194304:=by omega
 have hcB:=fun w0=>zhn sb (by omega) w0
 unfold decX
 generalize strL sb=zs at hsl hcB ⊢
 have ck:=fun D X w0 h0=>xnumS D X 8 (zs,0) w0 h0
 generalize xnuS 8 (zs,0)=p_ at ck ⊢
 obtain⟨kk,s1,ek⟩:=p_
 simp only at ck ⊢
 have cf:=fun D X w0 h0=>xfieldsS D X kk (s1,ek) w0 h0
 generalize xmgF kk (s1,ek)=p_ at cf ⊢
 obtain⟨mp,t⟩:=p_
 simp only at cf ⊢
 have cd:=fun D X w0 h0=>xdoneS D X t w0 h0
 generalize doneE t.1 t.2=f at cd ⊢
 have hbk:=zaO kk
 have hql:=(zE kk).len
 have hq1:=(zE kk).one
 have hiq:(prog.info? 52).map (·.size)=some (Ms.plain kk 0 0 Vt.zero zb).cells.length:=by rw[hql];exact iszM
 have hk0:∀(w':World) b,w'.rangeAt b 0 (Ms.plain kk 0 0 Vt.zero zb).cells→w'.cell? ⟨b,0,none⟩=some (.int .i64 kk):=fun w' b h=>((zE kk).at h).k
 generalize (Ms.plain kk 0 0 Vt.zero zb).cells=qk at hbk hql hq1 hiq hk0 cf
 obtain⟨hB1,hr1,hs1⟩:=zq w zc 52
 have ht1:=zi w zc.toArray 52 (n:=119) (by simp[hzl])
 go_enter func32,ntmps32
 go_upto_region 0 with fail
 refine pl_b ?_
 refine pl_r 2 (.pointer (some ⟨w.heap.size,0,none⟩)) (w.alloc (.cells zc.toArray 52)) (zo rfl (hzr _)) ?_
 refine pl_a 3 ?_
 refine za ?_
 obtain⟨W1,hW1⟩:∃W,w.alloc (.cells zc.toArray 52)=W:=⟨_,rfl⟩
 rw[hW1]at hB1 hr1 hs1 ht1 ⊢
 clear hW1 hr1
 obtain⟨cB,wB,hcv,hrB,hbB⟩:=hcB W1
 have cn:=zjA (some ⟨W1.heap.size,0,none⟩) cB zs wB hrB hsl
 go_upto_region 3 with fail
 refine pl_b ?_
 refine pl_a 11 ?_
 refine pl_r 12 (.slice (some ⟨W1.heap.size,0,none⟩) zs.length cB) (wB) (zlz rfl rfl hcv) ?_
 refine pl_c 13 ?_
 refine(cn).mono ?_
 rintro _ w2 ⟨X,rfl,hX,S2,hb2⟩
 refine⟨_,rfl,?_⟩
 simp only[nz]
 refine pl_a 4 ?_
 refine za ?_
 have zB:=hbB.size
 have z2:=hb2.size
 have hT2:=zj (zj ht1 hbB hs1) hb2 (by omega)
 have hB2:=hB1.trans ((hbB.trans (hb2.mono hbB.size)).mono hB1.size)
 have R2:XR w2 wB.heap.size X (zs,0):=⟨S2,(by obtain⟨_,_,hR,_⟩:=S2;exact hR.1),hX⟩
 have ck:=ck wB.heap.size X
 have cf:=cf wB.heap.size X
 have cd:=cd wB.heap.size X
 have hXw:=R2.lx
 clear cn hcv hrB hbB hb2 S2 ht1 hB1 hcB
 go_upto_region 4 with fail
 refine pl_b ?_
 refine pl_a 14 ?_
 refine pl_c 15 ?_
 refine(ck w2 R2).mono ?_
 rintro _ w3 ⟨rfl,R3,g3⟩
 refine⟨_,rfl,?_⟩
 simp only[nz]
 refine pl_v 16 (.agg qk.toArray) (zI (parts:=[(0,.tmp 15)]) rfl rfl (hbk _)) ?_
 refine pl_r 5 (.pointer (some ⟨w3.heap.size,0,none⟩)) (w3.alloc (.cells zc.toArray 52)) (zo rfl (hzr _)) ?_
 refine pl_s ((w3.alloc (.cells zc.toArray 52)).setCells w3.heap.size 0 qk) (zf (cs:=qk.toArray) rfl rfl rfl (zi _ _ _ (by simp[hzl,hql])) (by simpa using hiq) (zh hq1)) ?_
 refine za ?_
 obtain⟨r4,hF2,hF3,-⟩:=zt w3 zc.toArray 52 qk (by simp[hzl,hql])
 have hF4:=World.there_setCells (zi w3 zc.toArray 52 (n:=119) (by simp[hzl])) w3.heap.size 0 qk
 have z3:=g3.size
 have hT3:=zJ hT2 g3 (by omega) (by omega)
 have hB3:Below w.heap.size w w3:=hB2.trans (zbE g3 (by omega) (by omega))
 obtain⟨w4,hw4⟩:∃W,(w3.alloc (.cells zc.toArray 52)).setCells w3.heap.size 0 qk=W:=⟨_,rfl⟩
 rw[hw4]at r4 hF2 hF3 hF4 ⊢
 clear hw4
 have z4:=hF2.size
 have hs4:w3.heap.size<w4.heap.size:=by omega
 have R4:=R3.below hF2
 have hT4:=zj hT3 hF2 (by omega)
 have hB4:=hB3.trans (hF2.mono hB3.size)
 have hce:=R4.st.err
 simp only at hce
 have hc0:=hk0 _ _ r4
 clear hF2 hT3 hB3 R3 g3 hT2 hB2 R2 ck hbk hk0
 go_upto_region 5 with fail
 by_cases he:ek=0
 ·by_cases hk:kk=0
  ·have hcond:ek=0∧kk=0:=⟨he,hk⟩
   refine pl_b ?_
   refine pl_a 17 ?_
   refine pl_a 18 ?_
   refine pl_a 19 ?_
   refine pl_v 20 (.int .i64 ek) (zg rfl rfl hce underlying3 rfl) ?_
   refine pl_v 21 (.bool true) (by go_simp<;>simp[he]) ?_
   refine pl_a 22 ?_
   refine pl_a 23 ?_
   refine pl_v 24 (.int .i64 kk) (zg rfl rfl hc0 underlying3 rfl) ?_
   refine pl_v 25 (.bool true) (by go_simp<;>simp[hk]) ?_
   refine pl_a 26 ?_
   refine za ?_
   clear hce hc0 R4 cf cd
   go_upto_region 6 with fail
   refine pl_b ?_
   refine pl_v 27 (.agg zc.toArray) (zI (parts:=[]) rfl rfl (hb0 _)) ?_
   refine pl_s (w4.setCells w.heap.size 0 zc) (zf (cs:=zc.toArray) rfl rfl rfl (by simpa [hzl]using hT4) (by simpa using hiz) (zh hz1)) ?_
   refine pl_a 3 ?_
   refine za ?_
   have hrs:=run_loadVar_mid (P:=prog) (w4.setCells w.heap.size 0 zc) w.heap.size 0 52 zc _ (World.rangeAt_setCells_same w4 w.heap.size 0 zc (by rw[hzl];exact hT4)) underlying52 rfl hiz
   have HF:Hid (∃g:Mg,Ending.returned (.tuple #[.agg zc.toArray,.int .i64 130])=.returned (.tuple #[.agg g.ms.cells.toArray,.int .i64 130])∧g.pure=Mp.none∧g.ok∧g.At (w4.setCells w.heap.size 0 zc)∧g.Bk (fun b=>w.heap.size≤b)∧Below w.heap.size w (w4.setCells w.heap.size 0 zc)):=hide ⟨Mg.none,by rw[hzc.out],rfl,Mg.none_ok,Mg.none_at _,⟨zm,zm,zah,zm,zm,zm⟩,ze (Nat.le_refl w.heap.size) zc 0 _ hB4⟩
   clear hB4 hT4 hzc r4 hF4
   go_wp2_with fail
   refine bodyPost_ret (zac rfl _ _ _ rfl hrs) rfl ?_
   first|exact HF.out|(rw[if_pos hcond];exact HF.out)|(simp only[if_pos hcond];exact HF.out)
  ·have hcond:¬(ek=0∧kk=0):=fun q=>hk q.2
   refine pl_b ?_
   refine pl_a 17 ?_
   refine pl_a 18 ?_
   refine pl_a 19 ?_
   refine pl_v 20 (.int .i64 ek) (zg rfl rfl hce underlying3 rfl) ?_
   refine pl_v 21 (.bool true) (by go_simp<;>simp[he]) ?_
   refine pl_a 22 ?_
   refine pl_a 23 ?_
   refine pl_v 24 (.int .i64 kk) (zg rfl rfl hc0 underlying3 rfl) ?_
   refine pl_v 25 (.bool false) (by go_simp<;>simp[hk]) ?_
   refine pl_a 26 ?_
   refine za ?_
   clear hce hc0
   go_upto_region 7 with fail
   refine pl_b ?_
   refine pl_a 28 ?_
   refine pl_v 29 (.agg qk.toArray) (zp rfl rfl r4 underlying52 rfl hiq) ?_
   refine pl_c 30 ?_
   refine(cf w4 R4).mono ?_
   rintro _ w5 ⟨m,rfl,hp,hmo,hA,hB,R5,g5⟩
   refine⟨_,rfl,?_⟩
   simp only[nz]
   have hqm:=hmo.ms.len
   have hqn:=hmo.ms.one
   have hqi:(prog.info? 52).map (·.size)=some m.ms.cells.length:=by rw[hqm];exact iszM
   obtain⟨q,hqq⟩:∃q,Hid (m.ms.cells=q):=⟨_,hide rfl⟩
   simp only[hqq.out]at hqm hqn hqi ⊢
   have tB5:=zJ hF4 g5 hs4 (by omega)
   have hT5:=zJ hT4 g5 (by omega) (by omega)
   refine pl_s (w5.setCells w3.heap.size 0 q) (zf (cs:=q.toArray) rfl rfl rfl (by simpa [hqm]using tB5) (by simpa using hqi) (zh hqn)) ?_
   refine za ?_
   have V6:=zbE (n:=w3.heap.size) (zL w5 w3.heap.size q 0) (Nat.le_refl _) (by have:=g5.size;omega)
   have r6:=World.rangeAt_setCells_same w5 w3.heap.size 0 q (by rw[hqm];exact tB5)
   have z5:=g5.size
   have hT6:=World.there_setCells hT5 w3.heap.size 0 q
   have hB5:Below w.heap.size w w5:=hB4.trans (zbE g5 (by omega) (by omega))
   have hA6:=Mg.At.put (n:=w3.heap.size) (o:=0) (vs:=q) hA ⟨hB.1.mono (fun b hb=>by omega),hB.2.1.mono (fun b hb=>by omega),fun y hy=>(hB.2.2.1 y hy).mono (fun b hb=>by omega),hB.2.2.2.1.mono (fun b hb=>by omega),hB.2.2.2.2.1.mono (fun b hb=>by omega),hB.2.2.2.2.2.mono (fun b hb=>by omega)⟩
   have hB6:=ze (b:=w3.heap.size) (by omega) q 0 _ hB5
   have R6:=R5.low V6 (by omega)
   have z6:(w5.setCells w3.heap.size 0 q).heap.size=w5.heap.size:=zF ..
   obtain⟨w6,hw6⟩:∃W,w5.setCells w3.heap.size 0 q=W:=⟨_,rfl⟩
   rw[hw6]at V6 r6 hT6 hA6 hB6 R6 z6 ⊢
   clear hw6 V6 hA hB5 R5 tB5 hT5 r4 hF4 hT4 hB4 R4
   go_upto_region 8 with fail
   refine pl_b ?_
   refine pl_a 31 ?_
   refine pl_c 32 ?_
   refine(cd w6 R6).mono ?_
   rintro _ w7 ⟨rfl,hb7⟩
   refine⟨_,rfl,?_⟩
   simp only[nz]
   refine pl_a 6 ?_
   refine za ?_
   have r7:=zd r6 hb7 (by omega)
   have hT7:=zj hT6 hb7 (by omega)
   have hB7:=hB6.trans (hb7.mono hB6.size)
   have hA7:=hA6.below hb7
   have hBk:m.Bk (fun b=>w.heap.size<b):=⟨hB.1.mono (fun b hb=>by omega),hB.2.1.mono (fun b hb=>by omega),fun y hy=>(hB.2.2.1 y hy).mono (fun b hb=>by omega),hB.2.2.2.1.mono (fun b hb=>by omega),hB.2.2.2.2.1.mono (fun b hb=>by omega),hB.2.2.2.2.2.mono (fun b hb=>by omega)⟩
   have hBk0:m.Bk (fun b=>w.heap.size≤b):=⟨hB.1.mono (fun b hb=>by omega),hB.2.1.mono (fun b hb=>by omega),fun y hy=>(hB.2.2.1 y hy).mono (fun b hb=>by omega),hB.2.2.2.1.mono (fun b hb=>by omega),hB.2.2.2.2.1.mono (fun b hb=>by omega),hB.2.2.2.2.2.mono (fun b hb=>by omega)⟩
   have B9:=fun vs=>ze (Nat.le_refl w.heap.size) vs 0 _ hB7
   have A9:=fun vs=>Mg.At.put (o:=0) (vs:=vs) hA7 hBk
   have HM:=hide (show m.pure=mp∧m.ok∧m.Bk (fun b=>w.heap.size≤b) from⟨hp,hmo,hBk0⟩)
   clear hA6 hB hBk hBk0 hT6 hB6 R6 r6 hp hmo hA7 hb7 cd cf g5
   by_cases hf:f=0
   ·subst hf
    go_upto_region 11 with fail
    refine pl_b ?_
    refine pl_v 37 (.agg q.toArray) (zp rfl rfl r7 underlying52 rfl hqi) ?_
    refine pl_s (w7.setCells w.heap.size 0 q) (zf (cs:=q.toArray) rfl rfl rfl (by simpa [hqm]using hT7) (by simpa using hqi) (zh hqn)) ?_
    refine pl_a 3 ?_
    refine za ?_
    have hrs:=run_loadVar_mid (P:=prog) (w7.setCells w.heap.size 0 q) w.heap.size 0 52 q _ (World.rangeAt_setCells_same w7 w.heap.size 0 q (by rw[hqm];exact hT7)) underlying52 rfl hqi
    have HF:Hid (∃g:Mg,Ending.returned (.tuple #[.agg q.toArray,.int .i64 0])=.returned (.tuple #[.agg g.ms.cells.toArray,.int .i64 0])∧g.pure=mp∧g.ok∧g.At (w7.setCells w.heap.size 0 q)∧g.Bk (fun b=>w.heap.size≤b)∧Below w.heap.size w (w7.setCells w.heap.size 0 q)):=hide ⟨m,by rw[hqq.out],HM.out.1,HM.out.2.1,A9 q,HM.out.2.2,B9 q⟩
    clear HM A9 B9 r7 hB7 hT7 hqq
    go_wp2_with fail
    refine bodyPost_ret (zac rfl _ _ _ rfl hrs) rfl ?_
    first|exact HF.out|(rw[if_neg hcond];exact HF.out)|(simp only[if_neg hcond];exact HF.out)
   ·have hfb:(f !=0)=true:=by simpa using hf
    go_upto_region 10 with fail
    refine pl_b ?_
    refine pl_v 35 (.agg zc.toArray) (zI (parts:=[]) rfl rfl (hb0 _)) ?_
    refine pl_a 36 ?_
    refine pl_s (w7.setCells w.heap.size 0 zc) (zf (cs:=zc.toArray) rfl rfl rfl (by simpa [hzl]using hT7) (by simpa using hiz) (zh hz1)) ?_
    refine pl_a 3 ?_
    refine za ?_
    have hrs:=run_loadVar_mid (P:=prog) (w7.setCells w.heap.size 0 zc) w.heap.size 0 52 zc _ (World.rangeAt_setCells_same w7 w.heap.size 0 zc (by rw[hzl];exact hT7)) underlying52 rfl hiz
    have HF:Hid (∃g:Mg,Ending.returned (.tuple #[.agg zc.toArray,.int .i64 f])=.returned (.tuple #[.agg g.ms.cells.toArray,.int .i64 f])∧g.pure=Mp.none∧g.ok∧g.At (w7.setCells w.heap.size 0 zc)∧g.Bk (fun b=>w.heap.size≤b)∧Below w.heap.size w (w7.setCells w.heap.size 0 zc)):=hide ⟨Mg.none,by rw[hzc.out],rfl,Mg.none_ok,Mg.none_at _,⟨zm,zm,zah,zm,zm,zm⟩,B9 zc⟩
    clear HM A9 B9 r7 hB7 hT7 hqq hzc
    go_wp2_with fail
    refine bodyPost_ret (zac rfl _ _ _ rfl hrs) rfl ?_
    first|exact HF.out|(rw[if_neg hcond,if_neg hf];exact HF.out)|(simp only[if_neg hcond,if_neg hf];exact HF.out)
 ·have hcond:¬(ek=0∧kk=0):=fun q=>he q.1
  have hk:True:=trivial
  refine pl_b ?_
  refine pl_a 17 ?_
  refine pl_a 18 ?_
  refine pl_a 19 ?_
  refine pl_v 20 (.int .i64 ek) (zg rfl rfl hce underlying3 rfl) ?_
  refine pl_v 21 (.bool false) (by go_simp<;>simp[he]) ?_
  refine pl_a 22 ?_
  refine pl_k 23 ?_
  refine pl_k 24 ?_
  refine pl_k 25 ?_
  refine pl_a 26 ?_
  refine za ?_
  clear hce hc0
  go_upto_region 7 with fail
  refine pl_b ?_
  refine pl_a 28 ?_
  refine pl_v 29 (.agg qk.toArray) (zp rfl rfl r4 underlying52 rfl hiq) ?_
  refine pl_c 30 ?_
  refine(cf w4 R4).mono ?_
  rintro _ w5 ⟨m,rfl,hp,hmo,hA,hB,R5,g5⟩
  refine⟨_,rfl,?_⟩
  simp only[nz]
  have hqm:=hmo.ms.len
  have hqn:=hmo.ms.one
  have hqi:(prog.info? 52).map (·.size)=some m.ms.cells.length:=by rw[hqm];exact iszM
  obtain⟨q,hqq⟩:∃q,Hid (m.ms.cells=q):=⟨_,hide rfl⟩
  simp only[hqq.out]at hqm hqn hqi ⊢
  have tB5:=zJ hF4 g5 hs4 (by omega)
  have hT5:=zJ hT4 g5 (by omega) (by omega)
  refine pl_s (w5.setCells w3.heap.size 0 q) (zf (cs:=q.toArray) rfl rfl rfl (by simpa [hqm]using tB5) (by simpa using hqi) (zh hqn)) ?_
  refine za ?_
  have V6:=zbE (n:=w3.heap.size) (zL w5 w3.heap.size q 0) (Nat.le_refl _) (by have:=g5.size;omega)
  have r6:=World.rangeAt_setCells_same w5 w3.heap.size 0 q (by rw[hqm];exact tB5)
  have z5:=g5.size
  have hT6:=World.there_setCells hT5 w3.heap.size 0 q
  have hB5:Below w.heap.size w w5:=hB4.trans (zbE g5 (by omega) (by omega))
  have hA6:=Mg.At.put (n:=w3.heap.size) (o:=0) (vs:=q) hA ⟨hB.1.mono (fun b hb=>by omega),hB.2.1.mono (fun b hb=>by omega),fun y hy=>(hB.2.2.1 y hy).mono (fun b hb=>by omega),hB.2.2.2.1.mono (fun b hb=>by omega),hB.2.2.2.2.1.mono (fun b hb=>by omega),hB.2.2.2.2.2.mono (fun b hb=>by omega)⟩
  have hB6:=ze (b:=w3.heap.size) (by omega) q 0 _ hB5
  have R6:=R5.low V6 (by omega)
  have z6:(w5.setCells w3.heap.size 0 q).heap.size=w5.heap.size:=zF ..
  obtain⟨w6,hw6⟩:∃W,w5.setCells w3.heap.size 0 q=W:=⟨_,rfl⟩
  rw[hw6]at V6 r6 hT6 hA6 hB6 R6 z6 ⊢
  clear hw6 V6 hA hB5 R5 tB5 hT5 r4 hF4 hT4 hB4 R4
  go_upto_region 8 with fail
  refine pl_b ?_
  refine pl_a 31 ?_
  refine pl_c 32 ?_
  refine(cd w6 R6).mono ?_
  rintro _ w7 ⟨rfl,hb7⟩
  refine⟨_,rfl,?_⟩
  simp only[nz]
  refine pl_a 6 ?_
  refine za ?_
  have r7:=zd r6 hb7 (by omega)
  have hT7:=zj hT6 hb7 (by omega)
  have hB7:=hB6.trans (hb7.mono hB6.size)
  have hA7:=hA6.below hb7
  have hBk:m.Bk (fun b=>w.heap.size<b):=⟨hB.1.mono (fun b hb=>by omega),hB.2.1.mono (fun b hb=>by omega),fun y hy=>(hB.2.2.1 y hy).mono (fun b hb=>by omega),hB.2.2.2.1.mono (fun b hb=>by omega),hB.2.2.2.2.1.mono (fun b hb=>by omega),hB.2.2.2.2.2.mono (fun b hb=>by omega)⟩
  have hBk0:m.Bk (fun b=>w.heap.size≤b):=⟨hB.1.mono (fun b hb=>by omega),hB.2.1.mono (fun b hb=>by omega),fun y hy=>(hB.2.2.1 y hy).mono (fun b hb=>by omega),hB.2.2.2.1.mono (fun b hb=>by omega),hB.2.2.2.2.1.mono (fun b hb=>by omega),hB.2.2.2.2.2.mono (fun b hb=>by omega)⟩
  have B9:=fun vs=>ze (Nat.le_refl w.heap.size) vs 0 _ hB7
  have A9:=fun vs=>Mg.At.put (o:=0) (vs:=vs) hA7 hBk
  have HM:=hide (show m.pure=mp∧m.ok∧m.Bk (fun b=>w.heap.size≤b) from⟨hp,hmo,hBk0⟩)
  clear hA6 hB hBk hBk0 hT6 hB6 R6 r6 hp hmo hA7 hb7 cd cf g5
  by_cases hf:f=0
  ·subst hf
   go_upto_region 11 with fail
   refine pl_b ?_
   refine pl_v 37 (.agg q.toArray) (zp rfl rfl r7 underlying52 rfl hqi) ?_
   refine pl_s (w7.setCells w.heap.size 0 q) (zf (cs:=q.toArray) rfl rfl rfl (by simpa [hqm]using hT7) (by simpa using hqi) (zh hqn)) ?_
   refine pl_a 3 ?_
   refine za ?_
   have hrs:=run_loadVar_mid (P:=prog) (w7.setCells w.heap.size 0 q) w.heap.size 0 52 q _ (World.rangeAt_setCells_same w7 w.heap.size 0 q (by rw[hqm];exact hT7)) underlying52 rfl hqi
   have HF:Hid (∃g:Mg,Ending.returned (.tuple #[.agg q.toArray,.int .i64 0])=.returned (.tuple #[.agg g.ms.cells.toArray,.int .i64 0])∧g.pure=mp∧g.ok∧g.At (w7.setCells w.heap.size 0 q)∧g.Bk (fun b=>w.heap.size≤b)∧Below w.heap.size w (w7.setCells w.heap.size 0 q)):=hide ⟨m,by rw[hqq.out],HM.out.1,HM.out.2.1,A9 q,HM.out.2.2,B9 q⟩
   clear HM A9 B9 r7 hB7 hT7 hqq
   go_wp2_with fail
   refine bodyPost_ret (zac rfl _ _ _ rfl hrs) rfl ?_
   first|exact HF.out|(rw[if_neg hcond];exact HF.out)|(simp only[if_neg hcond];exact HF.out)
  ·have hfb:(f !=0)=true:=by simpa using hf
   go_upto_region 10 with fail
   refine pl_b ?_
   refine pl_v 35 (.agg zc.toArray) (zI (parts:=[]) rfl rfl (hb0 _)) ?_
   refine pl_a 36 ?_
   refine pl_s (w7.setCells w.heap.size 0 zc) (zf (cs:=zc.toArray) rfl rfl rfl (by simpa [hzl]using hT7) (by simpa using hiz) (zh hz1)) ?_
   refine pl_a 3 ?_
   refine za ?_
   have hrs:=run_loadVar_mid (P:=prog) (w7.setCells w.heap.size 0 zc) w.heap.size 0 52 zc _ (World.rangeAt_setCells_same w7 w.heap.size 0 zc (by rw[hzl];exact hT7)) underlying52 rfl hiz
   have HF:Hid (∃g:Mg,Ending.returned (.tuple #[.agg zc.toArray,.int .i64 f])=.returned (.tuple #[.agg g.ms.cells.toArray,.int .i64 f])∧g.pure=Mp.none∧g.ok∧g.At (w7.setCells w.heap.size 0 zc)∧g.Bk (fun b=>w.heap.size≤b)∧Below w.heap.size w (w7.setCells w.heap.size 0 zc)):=hide ⟨Mg.none,by rw[hzc.out],rfl,Mg.none_ok,Mg.none_at _,⟨zm,zm,zah,zm,zm,zm⟩,B9 zc⟩
   clear HM A9 B9 r7 hB7 hT7 hqq hzc
   go_wp2_with fail
   refine bodyPost_ret (zac rfl _ _ _ rfl hrs) rfl ?_
   first|exact HF.out|(rw[if_neg hcond,if_neg hf];exact HF.out)|(simp only[if_neg hcond,if_neg hf];exact HF.out)
def cod (s:Rst):Int:=if s.2.2=true then 130 else s.2.1
def Sim (s:Rst) (t:Xst):Prop:=(s=(t.1,0,false)∧t.2=0)∨(cod s≠0∧t.2=cod s)
structure Pair {α:Type} (f:Rst→α ×Rst) (xf:Xst→α ×Xst):Prop where
 bad:∀s,cod s≠0→cod (f s).2=cod s
 xbad:∀t,t.2≠0→(xf t).2.2=t.2
 ok:∀r,Sim (f (r,0,false)).2 (xf (r,0)).2∧(cod (f (r,0,false)).2=0→(f (r,0,false)).1=(xf (r,0)).1)
theorem Sim.code {s:Rst} {t:Xst} (h:Sim s t):t.2=cod s:=by
 rcases h with⟨h1,h2⟩|h
 ·rw[h1,h2];rfl
 ·exact h.2
theorem Pair.go {α:Type} {f:Rst→α ×Rst} {xf:Xst→α ×Xst} (p:Pair f xf) {s:Rst} {t:Xst} (h:Sim s t):Sim (f s).2 (xf t).2∧(cod (f s).2=0→(f s).1=(xf t).1):=by
 rcases h with⟨h1,h2⟩|⟨h1,h2⟩
 ·obtain⟨r,e⟩:=t
  subst h1
  have h2:e=0:=h2
  subst h2
  exact p.ok r
 ·have c:=p.bad s h1
  refine⟨.inr ⟨by rw[c];exact h1,?_⟩,fun q=>absurd (c.symm.trans q) h1⟩
  rw[p.xbad t (by rw[h2];exact h1),h2,c]
theorem Pair.simple {α:Type} (g:List Int→Int→α ×List Int ×Int) (hg:∀r e,e≠0→(g r e).2.2=e):Pair (fun s=>((g s.1 s.2.1).1,(g s.1 s.2.1).2.1,(g s.1 s.2.1).2.2,s.2.2)) (fun t=>((g t.1 t.2).1,(g t.1 t.2).2)):=by
 refine⟨fun s h=>?_,fun t h=>hg _ _ h,fun r=>⟨?_,fun _=>rfl⟩⟩
 ·obtain⟨r,e,z⟩:=s
  cases z
  ·exact hg r e h
  ·rfl
 ·show Sim ((g r 0).2.1,(g r 0).2.2,false) (g r 0).2
  by_cases q:(g r 0).2.2=0
  ·exact .inl ⟨by rw[q],q⟩
  ·exact .inr ⟨q,rfl⟩
theorem Pair.bind {α β γ:Type} {f:Rst→α ×Rst} {xf:Xst→α ×Xst} {g:Rst→β ×Rst} {xg:Xst→β ×Xst} (h:α→β→γ) (p:Pair f xf) (q:Pair g xg):Pair (fun s=>(h (f s).1 (g (f s).2).1,(g (f s).2).2)) (fun t=>(h (xf t).1 (xg (xf t).2).1,(xg (xf t).2).2)):=by
 refine⟨fun s hs=>?_,fun t ht=>?_,fun r=>?_⟩
 ·show cod (g (f s).2).2=cod s
  rw[q.bad _ (by rw[p.bad s hs];exact hs),p.bad s hs]
 ·show(xg (xf t).2).2.2=t.2
  rw[q.xbad _ (by rw[p.xbad t ht];exact ht),p.xbad t ht]
 ·obtain⟨h1,h2⟩:=p.ok r
  obtain⟨h3,h4⟩:=q.go h1
  refine⟨h3,fun hc=>?_⟩
  have hc1:cod (f (r,0,false)).2=0:=by
   by_cases c:cod (f (r,0,false)).2=0
   ·exact c
   ·exact absurd ((q.bad _ c).symm.trans hc) c
  show h _ _=h _ _
  rw[h2 hc1,h4 hc]
theorem Pair.map {α β:Type} {f:Rst→α ×Rst} {xf:Xst→α ×Xst} (h:α→β) (p:Pair f xf):Pair (fun s=>(h (f s).1,(f s).2)) (fun t=>(h (xf t).1,(xf t).2)):=
 ⟨p.bad,p.xbad,fun r=>⟨(p.ok r).1,fun hc=>by show h _=h _;rw[(p.ok r).2 hc]⟩⟩
theorem Pair.pure {α:Type} (a:α):Pair (fun s=>(a,s)) (fun t=>(a,t)):=⟨fun _ _=>rfl,fun _ _=>rfl,fun r=>⟨.inl ⟨rfl,rfl⟩,fun _=>rfl⟩⟩
theorem zdX {α:Type} {one:Rst→α ×Rst} (h:∀s,cod s≠0→cod (one s).2=cod s) {s:Rst} (hs:cod s≠0):∀k,cod (itG one s k).2=cod s:=by
  intro k
  induction k with
  |zero=>rfl
  |succ k ih=>show cod (one (itG one s k).2).2=_;rw[h _ (by rw[ih];exact hs),ih]
theorem zhK {α:Type} {one:Xst→α ×Xst} {t:Xst} (ht:t.2≠0):∀k,(xitG one t k)=([],t):=by
  intro k
  induction k with
  |zero=>rfl
  |succ k ih=>show(if(xitG one t k).2.2=0 then _ else xitG one t k)=_;rw[ih,if_neg ht]
theorem zkX {α:Type} {one:Rst→α ×Rst} {xone:Xst→α ×Xst} (p:Pair one xone) {s:Rst} {t:Xst} (h:Sim s t):∀k,Sim (itG one s k).2 (xitG xone t k).2∧(cod (itG one s k).2=0→(itG one s k).1=(xitG xone t k).1):=by
  intro k
  induction k with
  |zero=>exact⟨h,fun _=>rfl⟩
  |succ k ih=>
    obtain⟨h1,h2⟩:=ih
    obtain⟨h3,h4⟩:=p.go h1
    show Sim (one (itG one s k).2).2 (if(xitG xone t k).2.2=0 then((xitG xone t k).1++[(xone (xitG xone t k).2).1],(xone (xitG xone t k).2).2)else xitG xone t k).2∧(cod (one (itG one s k).2).2=0→(itG one s k).1++[(one (itG one s k).2).1]=(if(xitG xone t k).2.2=0 then((xitG xone t k).1++[(xone (xitG xone t k).2).1],(xone (xitG xone t k).2).2)else xitG xone t k).1)
    by_cases e:(xitG xone t k).2.2=0
    · rw[if_pos e]
      refine⟨h3,fun hc=>?_⟩
      have c0:cod (itG one s k).2=0:=by rw[←h1.code];exact e
      rw[h2 c0,h4 hc]
    · rw[if_neg e]
      have c0:cod (itG one s k).2≠0:=by rw[←h1.code];exact e
      have c1:=p.bad _ c0
      exact⟨.inr ⟨by rw[c1];exact c0,by rw[h1.code,c1]⟩,fun hc=>absurd (c1.symm.trans hc) c0⟩
theorem zaA (most:Int) (r:List Int) (e:Int) (h:e≠0):(numS r e most).2.2=e:=by
 unfold numS
 rw[if_neg h]
theorem zds (most:Int) (r:List Int) (e:Int) (h:e≠0):(textS r e most).2.2=e:=by
 have:=zaA 9223372036854775807 r e h
 unfold textS
 rw[if_neg (by rw[this];exact h)]
 exact this
theorem zcL (n:Int) (r:List Int) (e:Int) (h:e≠0):(rawS r e n).2.2=e:=by
 unfold rawS
 rw[if_neg h]
theorem zci (most:Int) (r:List Int) {e e0:Int} (h:e=e0) (h0:e0≠0):(numS r e most).2.2=e0:=by subst h;exact zaA most r e h0
theorem ziw (most:Int) (r:List Int) {e e0:Int} (h:e=e0) (h0:e0≠0):(textS r e most).2.2=e0:=by subst h;exact zds most r e h0
theorem zdM (n:Int) (r:List Int) {e e0:Int} (h:e=e0) (h0:e0≠0):(rawS r e n).2.2=e0:=by subst h;exact zcL n r e h0
theorem zaB (most:Int):Pair (nuS most) (xnuS most):=Pair.simple (fun r e=>numS r e most) (zaA most)
theorem zl0:Pair dgS xdgS:=Pair.simple (fun r e=>(padN 32 (rawS r e 32).1,(rawS r e 32).2)) (zcL 32)
theorem ziq (most:Int):Pair (txS most) (xtxS most):=Pair.simple (fun r e=>(strOf (textS r e most).1,(textS r e most).2)) (zds most)
theorem zfh:Pair siS xsiS:=Pair.simple (fun r e=>sgS r e) (fun r e h=>by
 show(rawS (numS r e 64).2.1 (numS r e 64).2.2 16).2.2=e
 rw[zcL 16 _ _ (by rw[zaA 64 r e h];exact h),zaA 64 r e h])
theorem zlR:Pair enS xenS:=Pair.simple (fun r e=>evS r e) (fun r e h=>by
 show(rawS (textS (numS r e 64).2.1 (numS r e 64).2.2 4194304).2.1 (textS (numS r e 64).2.1 (numS r e 64).2.2 4194304).2.2 16).2.2=e
 exact zdM 16 _ (ziw 4194304 _ (zaA 64 r e h) h) h)
theorem zes:Pair baS xbaS:=Pair.simple (fun r e=>(((getB r e).q,(getB r e).rs.map BRq.un),(getB r e).rest,(getB r e).err)) (fun r e h=>by
 show(getB r e).err=e
 have h1:=zaA 5 r e h
 have h2:(numS r e 5).1=0:=zcT (by rw[h1];exact h)
 unfold getB
 rw[if_pos h2]
 exact h1)
theorem zii (r:List Int) (e:Int) (h:e≠0):(vtS r e).2.2=e:=by
 exact zdM 32 _ (zci _ _ (zci _ _ (zci _ _ (zaA 2 r e h) h) h) h) h
def vt4 (v:Int) (r:List Int) (e:Int):Vt ×List Int ×Int:=
 (⟨v,(numS r e 1048576).1,(numS (numS r e 1048576).2.1 (numS r e 1048576).2.2 1099511627776).1,(numS (numS (numS r e 1048576).2.1 (numS r e 1048576).2.2 1099511627776).2.1 (numS (numS r e 1048576).2.1 (numS r e 1048576).2.2 1099511627776).2.2 1099511627776).1,padN 32 (rawS (numS (numS (numS r e 1048576).2.1 (numS r e 1048576).2.2 1099511627776).2.1 (numS (numS r e 1048576).2.1 (numS r e 1048576).2.2 1099511627776).2.2 1099511627776).2.1 (numS (numS (numS r e 1048576).2.1 (numS r e 1048576).2.2 1099511627776).2.1 (numS (numS r e 1048576).2.1 (numS r e 1048576).2.2 1099511627776).2.2 1099511627776).2.2 32).1⟩,(rawS (numS (numS (numS r e 1048576).2.1 (numS r e 1048576).2.2 1099511627776).2.1 (numS (numS r e 1048576).2.1 (numS r e 1048576).2.2 1099511627776).2.2 1099511627776).2.1 (numS (numS (numS r e 1048576).2.1 (numS r e 1048576).2.2 1099511627776).2.1 (numS (numS r e 1048576).2.1 (numS r e 1048576).2.2 1099511627776).2.2 1099511627776).2.2 32).2)
theorem zdj (v:Int) (r:List Int) (e:Int) (h:e≠0):(vt4 v r e).2.2=e:=by
 exact zdM 32 _ (zci _ _ (zci _ _ (zaA 1048576 r e h) h) h) h
theorem zij (r:List Int) (e:Int):vtS r e=vt4 (numS r e 2).1 (numS r e 2).2.1 (numS r e 2).2.2:=rfl
theorem zeB (r:List Int) (e:Int):xvtS r e=vt4 (numS r e 2).1 (numS r e 2).2.1 (kdE r e 2):=rfl
theorem zeQ:Pair voS xvoS:=by
 refine⟨fun s h=>?_,fun t h=>?_,fun r=>?_⟩
 ·obtain⟨r,e,z⟩:=s
  cases z
  ·have h:e≠0:=h
   have h1:=zaA 2 r e h
   have k:kdZ r e 2 false=false:=by
    unfold kdZ
    rw[h1]
    have:(e==0)=false:=by simpa using h
    rw[this]
    simp
   show(if kdZ r e 2 false=true then 130 else(vtS r e).2.2)=e
   rw[k,if_neg (by decide)]
   exact zii r e h
  ·have k:kdZ r e 2 true=true:=by
    unfold kdZ
    simp
   show(if kdZ r e 2 true=true then 130 else(vtS r e).2.2)=130
   rw[k,if_pos rfl]
 ·obtain⟨r,e⟩:=t
  have h:e≠0:=h
  have h1:=zaA 2 r e h
  have k:kdE r e 2=e:=by
   unfold kdE
   rw[h1]
   have:(e==0)=false:=by simpa using h
   rw[this]
   simp
  show(xvtS r e).2.2=e
  rw[zeB,k]
  exact zdj _ _ _ h
 ·show Sim ((vtS r 0).2.1,(vtS r 0).2.2,kdZ r 0 2 false) (xvtS r 0).2∧(cod ((vtS r 0).2.1,(vtS r 0).2.2,kdZ r 0 2 false)=0→(vtS r 0).1=(xvtS r 0).1)
  rw[zij,zeB]
  unfold kdZ kdE
  generalize (numS r 0 2).1=v
  generalize (numS r 0 2).2.1=r1
  generalize (numS r 0 2).2.2=e1
  by_cases he:e1=0
  ·subst he
   by_cases hv:v=0
   ·subst hv
    refine⟨.inr ⟨show(130:Int)≠0 by decide,?_⟩,fun q=>absurd q (show(130:Int)≠0 by decide)⟩
    exact zdj _ _ _ (by decide)
   ·have hb:(v==0)=false:=by simpa using hv
    rw[hb]
    refine⟨?_,fun _=>rfl⟩
    by_cases q:(vt4 v r1 0).2.2=0
    ·exact .inl ⟨by show(_,_,false)=_;rw[q];rfl,q⟩
    ·exact .inr ⟨q,rfl⟩
  ·have hb:(e1==0)=false:=by simpa using he
   rw[hb]
   have z:(if(v==0)=true then(if false=true then true else false)else false)=false:=by cases (v==0)<;>rfl
   rw[z]
   have q:=zdj v r1 e1 he
   exact⟨.inr ⟨by show(vt4 v r1 e1).2.2≠0;rw[q];exact he,rfl⟩,fun _=>rfl⟩
theorem zcX {α:Type} {one:Rst→α ×Rst} {xone:Xst→α ×Xst} (most:Int) (p:Pair one xone):Pair (lsS most one) (xlsS most xone):=by
 refine⟨fun s h=>?_,fun t h=>?_,fun r=>?_⟩
 ·have c:=(zaB most).bad s h
  show cod (itG one (nuS most s).2 _).2=_
  rw[zdX p.bad (by rw[c];exact h),c]
 ·have c:=(zaB most).xbad t h
  show(xitG xone (xnuS most t).2 _).2.2=_
  rw[zhK (by rw[c];exact h)]
  exact c
 ·have c:=((zaB most).ok r).1
  show Sim (itG one (nuS most (r,0,false)).2 (nuS most (r,0,false)).1.toNat).2 (xitG xone (xnuS most (r,0)).2 (nuS most (r,0,false)).1.toNat).2∧_
  exact zkX p c _
theorem zhi:Pair ceS xceS:=Pair.bind (fun a b=>(a,b)) zeQ (zcX 64 zfh)
theorem zk5:Pair heS xheS:=Pair.bind (fun a b=>(⟨a.1,a.2,b.1,b.2⟩:Hp)) zes zhi
theorem zmd:Pair chS xchS:=Pair.bind (fun a (b:Int ×(Int ×List Hp))=>(⟨a,b.1,b.2.1,b.2.2⟩:Cp)) (zaB 1048576) (Pair.bind (fun a b=>(a,b)) (zaB 64) (Pair.bind (fun a b=>(a,b)) (zaB 1099511627776) (zcX 4 zk5)))
theorem zkI:Pair mg1 xmg1:=Pair.bind (fun a (b:Int ×(Bool ×List Rq))=>(⟨1,a,0,0,b.1,b.2.1,b.2.2,Vt.zero,0,0,0,[],[],zb,Vt.zero,[],⟨#[]⟩,[]⟩:Mp)) (zaB 1048576) (Pair.bind (fun a b=>(a,b)) (zaB 1099511627776) zes)
theorem zkH:Pair mg2 xmg2:=Pair.map (fun a=>(⟨2,0,0,0,0,false,[],a,0,0,0,[],[],zb,Vt.zero,[],⟨#[]⟩,[]⟩:Mp)) zeQ
theorem zkG:Pair mg3 xmg3:=Pair.map (fun(a:Cp)=>(⟨3,0,0,0,0,false,[],Vt.zero,a.e,a.l,a.v,a.he,[],zb,Vt.zero,[],⟨#[]⟩,[]⟩:Mp)) zmd
theorem zkF:Pair mg4 xmg4:=Pair.bind (fun a (b:Int ×(Int ×List Ev))=>(⟨4,a,b.1,b.2.1,0,false,[],Vt.zero,0,0,0,[],b.2.2,zb,Vt.zero,[],⟨#[]⟩,[]⟩:Mp)) (zaB 1048576) (Pair.bind (fun a b=>(a,b)) (zaB 64) (Pair.bind (fun a b=>(a,b)) (zaB 1099511627776) (zcX 64 zlR)))
theorem zkE:Pair mg5 xmg5:=Pair.bind (fun a b=>(⟨5,a,0,0,0,false,[],Vt.zero,0,0,0,[],[],b,Vt.zero,[],⟨#[]⟩,[]⟩:Mp)) (zaB 1048576) zl0
theorem zkD:Pair mg6 xmg6:=Pair.bind (fun a b=>(⟨6,a,0,0,b,false,[],Vt.zero,0,0,0,[],[],zb,Vt.zero,[],⟨#[]⟩,[]⟩:Mp)) (zaB 1048576) (zaB 1099511627776)
theorem zkC:Pair mg7 xmg7:=Pair.bind (fun(a:Bool ×List Rq) (b:Vt ×List Sg)=>(⟨7,0,0,0,0,a.1,a.2,Vt.zero,0,0,0,[],[],zb,b.1,b.2,⟨#[]⟩,[]⟩:Mp)) zes zhi
theorem zkB:Pair mg8 xmg8:=Pair.bind (fun a b=>(⟨8,0,0,0,0,false,[],Vt.zero,0,0,0,[],[],zb,Vt.zero,[],a,b⟩:Mp)) (ziq 4194304) (zcX 64 zfh)
theorem zkA (k:Int):Pair (mgF k) (xmgF k):=by
 by_cases n1:k=1
 ·have e1:mgF k=mg1:=by funext s;unfold mgF;rw[if_pos n1]
  have e2:xmgF k=xmg1:=by funext s;unfold xmgF;rw[if_pos n1]
  rw[e1,e2];exact zkI
 by_cases n2:k=2
 ·have e1:mgF k=mg2:=by funext s;unfold mgF;rw[if_neg n1];rw[if_pos n2]
  have e2:xmgF k=xmg2:=by funext s;unfold xmgF;rw[if_neg n1];rw[if_pos n2]
  rw[e1,e2];exact zkH
 by_cases n3:k=3
 ·have e1:mgF k=mg3:=by funext s;unfold mgF;rw[if_neg n1];rw[if_neg n2];rw[if_pos n3]
  have e2:xmgF k=xmg3:=by funext s;unfold xmgF;rw[if_neg n1];rw[if_neg n2];rw[if_pos n3]
  rw[e1,e2];exact zkG
 by_cases n4:k=4
 ·have e1:mgF k=mg4:=by funext s;unfold mgF;rw[if_neg n1];rw[if_neg n2];rw[if_neg n3];rw[if_pos n4]
  have e2:xmgF k=xmg4:=by funext s;unfold xmgF;rw[if_neg n1];rw[if_neg n2];rw[if_neg n3];rw[if_pos n4]
  rw[e1,e2];exact zkF
 by_cases n5:k=5
 ·have e1:mgF k=mg5:=by funext s;unfold mgF;rw[if_neg n1];rw[if_neg n2];rw[if_neg n3];rw[if_neg n4];rw[if_pos n5]
  have e2:xmgF k=xmg5:=by funext s;unfold xmgF;rw[if_neg n1];rw[if_neg n2];rw[if_neg n3];rw[if_neg n4];rw[if_pos n5]
  rw[e1,e2];exact zkE
 by_cases n6:k=6
 ·have e1:mgF k=mg6:=by funext s;unfold mgF;rw[if_neg n1];rw[if_neg n2];rw[if_neg n3];rw[if_neg n4];rw[if_neg n5];rw[if_pos n6]
  have e2:xmgF k=xmg6:=by funext s;unfold xmgF;rw[if_neg n1];rw[if_neg n2];rw[if_neg n3];rw[if_neg n4];rw[if_neg n5];rw[if_pos n6]
  rw[e1,e2];exact zkD
 by_cases n7:k=7
 ·have e1:mgF k=mg7:=by funext s;unfold mgF;rw[if_neg n1];rw[if_neg n2];rw[if_neg n3];rw[if_neg n4];rw[if_neg n5];rw[if_neg n6];rw[if_pos n7]
  have e2:xmgF k=xmg7:=by funext s;unfold xmgF;rw[if_neg n1];rw[if_neg n2];rw[if_neg n3];rw[if_neg n4];rw[if_neg n5];rw[if_neg n6];rw[if_pos n7]
  rw[e1,e2];exact zkC
 by_cases n8:k=8
 ·have e1:mgF k=mg8:=by funext s;unfold mgF;rw[if_neg n1];rw[if_neg n2];rw[if_neg n3];rw[if_neg n4];rw[if_neg n5];rw[if_neg n6];rw[if_neg n7];rw[if_pos n8]
  have e2:xmgF k=xmg8:=by funext s;unfold xmgF;rw[if_neg n1];rw[if_neg n2];rw[if_neg n3];rw[if_neg n4];rw[if_neg n5];rw[if_neg n6];rw[if_neg n7];rw[if_pos n8]
  rw[e1,e2];exact zkB
 have e1:mgF k=fun s=>((⟨k,0,0,0,0,false,[],Vt.zero,0,0,0,[],[],zb,Vt.zero,[],⟨#[]⟩,[]⟩:Mp),s):=by funext s;unfold mgF;rw[if_neg n1];rw[if_neg n2];rw[if_neg n3];rw[if_neg n4];rw[if_neg n5];rw[if_neg n6];rw[if_neg n7];rw[if_neg n8]
 have e2:xmgF k=fun s=>((⟨k,0,0,0,0,false,[],Vt.zero,0,0,0,[],[],zb,Vt.zero,[],⟨#[]⟩,[]⟩:Mp),s):=by funext s;unfold xmgF;rw[if_neg n1];rw[if_neg n2];rw[if_neg n3];rw[if_neg n4];rw[if_neg n5];rw[if_neg n6];rw[if_neg n7];rw[if_neg n8]
 rw[e1,e2];exact Pair.pure _
theorem zl4 (zs:List Int):decS zs=decX zs:=by
 unfold decS decX mgS
 show(if faE (mgF (numS zs 0 8).1 ((numS zs 0 8).2.1,(numS zs 0 8).2.2,kdZ zs 0 8 false)).2=0 then((mgF (numS zs 0 8).1 ((numS zs 0 8).2.1,(numS zs 0 8).2.2,kdZ zs 0 8 false)).1,0)else(Mp.none,faE (mgF (numS zs 0 8).1 ((numS zs 0 8).2.1,(numS zs 0 8).2.2,kdZ zs 0 8 false)).2))=(if(numS zs 0 8).2.2=0∧(numS zs 0 8).1=0 then(Mp.none,130)else if doneE (xmgF (numS zs 0 8).1 ((numS zs 0 8).2.1,(numS zs 0 8).2.2)).2.1 (xmgF (numS zs 0 8).1 ((numS zs 0 8).2.1,(numS zs 0 8).2.2)).2.2=0 then((xmgF (numS zs 0 8).1 ((numS zs 0 8).2.1,(numS zs 0 8).2.2)).1,0)else(Mp.none,doneE (xmgF (numS zs 0 8).1 ((numS zs 0 8).2.1,(numS zs 0 8).2.2)).2.1 (xmgF (numS zs 0 8).1 ((numS zs 0 8).2.1,(numS zs 0 8).2.2)).2.2))
 unfold kdZ
 generalize (numS zs 0 8).1=k
 generalize (numS zs 0 8).2.1=r
 generalize (numS zs 0 8).2.2=e
 by_cases hc:e=0∧k=0
 ·rw[if_pos hc]
  obtain⟨rfl,rfl⟩:=hc
  rfl
 ·rw[if_neg hc]
  have z:(if(k==0)=true then(if(e==0)=true then true else false)else false)=false:=by
   by_cases hk:k=0
   ·have he:(e==0)=false:=by simp;exact fun q=>hc ⟨q,hk⟩
    rw[he]
    simp
   ·have hb:(k==0)=false:=by simpa using hk
    rw[hb]
    rfl
  rw[z]
  have S0:Sim (r,e,false) (r,e):=by
   by_cases he:e=0
   ·exact .inl ⟨by rw[he],he⟩
   ·exact .inr ⟨he,rfl⟩
  obtain⟨h1,h2⟩:=(zkA k).go S0
  generalize mgF k (r,e,false)=A at h1 h2
  generalize xmgF k (r,e)=B at h1 h2
  obtain⟨a,s⟩:=A
  obtain⟨b,t⟩:=B
  simp only at h1 h2 ⊢
  have hfa:faE s=doneE t.1 t.2:=by
   rcases h1 with⟨q1,q2⟩|⟨q1,q2⟩
   ·rw[q1,q2]
    rfl
   ·unfold faE doneE
    rw[if_neg (show ¬t.2=0 by rw[q2];exact q1),q2]
    obtain⟨sr,se,sz⟩:=s
    cases sz
    ·have q1:se≠0:=q1
     show(if false=true then 130 else if se=0 then _ else se)=se
     rw[if_neg (by decide),if_neg q1]
    ·rfl
  rw[hfa]
  by_cases hf:doneE t.1 t.2=0
  ·rw[if_pos hf,if_pos hf]
   have c0:cod s=0:=by
    rw[←h1.code]
    unfold doneE at hf
    by_cases q:t.2=0
    ·exact q
    ·rw[if_neg q]at hf;exact absurd hf q
   rw[h2 c0]
  ·rw[if_neg hf,if_neg hf]
structure Codec {α:Type} (f:Rst→α ×Rst) (enc:α→List Int) (ok:α→Prop):Prop where
 bad:∀s,cod s≠0→cod (f s).2=cod s
 back:∀a q,ok a→f (enc a++q,0,false)=(a,q,0,false)
 form:∀r,Bs r→cod (f (r,0,false)).2=0→∃a q,ok a∧f (r,0,false)=(a,q,0,false)∧r=enc a++q
theorem Bs.right {a q:List Int} (h:Bs (a++q)):Bs q:=fun z hz=>h z (List.mem_append_right _ hz)
theorem Bs.left {a q:List Int} (h:Bs (a++q)):Bs a:=fun z hz=>h z (List.mem_append_left _ hz)
theorem cod0 {r:List Int} {e:Int} {z:Bool} (h:cod (r,e,z)=0):z=false∧e=0:=by
 unfold cod at h
 cases z
 ·exact⟨rfl,h⟩
 ·exact absurd h (show(130:Int)≠0 by decide)
theorem Codec.simple {α:Type} {g:List Int→Int→α ×List Int ×Int} {enc:α→List Int} {ok:α→Prop} (h1:∀r e,e≠0→(g r e).2.2=e) (h2:∀a q,ok a→g (enc a++q) 0=(a,q,0)) (h3:∀r,Bs r→(g r 0).2.2=0→∃a q,ok a∧g r 0=(a,q,0)∧r=enc a++q):
  Codec (fun s=>((g s.1 s.2.1).1,(g s.1 s.2.1).2.1,(g s.1 s.2.1).2.2,s.2.2)) enc ok:=by
 refine⟨fun s h=>?_,fun a q ha=>?_,fun r hb hc=>?_⟩
 ·obtain⟨r,e,z⟩:=s
  cases z
  ·exact h1 r e h
  ·rfl
 ·show((g (enc a++q) 0).1,(g (enc a++q) 0).2.1,(g (enc a++q) 0).2.2,false)=_
  rw[h2 a q ha]
 ·obtain⟨a,q,k1,k2,k3⟩:=h3 r hb (cod0 hc).2
  exact⟨a,q,k1,by show((g r 0).1,(g r 0).2.1,(g r 0).2.2,false)=_;rw[k2],k3⟩
theorem Codec.bind {α β:Type} {f:Rst→α ×Rst} {g:Rst→β ×Rst} {e1:α→List Int} {e2:β→List Int} {o1:α→Prop} {o2:β→Prop} (p:Codec f e1 o1) (q:Codec g e2 o2):Codec (fun s=>(((f s).1,(g (f s).2).1),(g (f s).2).2)) (fun c=>e1 c.1++e2 c.2) (fun c=>o1 c.1∧o2 c.2):=by
 refine⟨fun s hs=>?_,fun c t hc=>?_,fun r hb hc=>?_⟩
 ·show cod (g (f s).2).2=cod s
  rw[q.bad _ (by rw[p.bad s hs];exact hs),p.bad s hs]
 ·obtain⟨a,b⟩:=c
  show(((f (e1 a++e2 b++t,0,false)).1,(g (f (e1 a++e2 b++t,0,false)).2).1),(g (f (e1 a++e2 b++t,0,false)).2).2)=_
  rw[List.append_assoc,p.back a _ hc.1]
  show((a,(g (e2 b++t,0,false)).1),(g (e2 b++t,0,false)).2)=_
  rw[q.back b t hc.2]
 ·have hc1:cod (f (r,0,false)).2=0:=by
   by_cases c:cod (f (r,0,false)).2=0
   ·exact c
   ·exact absurd ((q.bad _ c).symm.trans hc) c
  obtain⟨a,r1,k1,k2,k3⟩:=p.form r hb hc1
  have hc2:cod (g (f (r,0,false)).2).2=0:=hc
  rw[k2]at hc2
  obtain⟨b,r2,m1,m2,m3⟩:=q.form r1 (by rw[k3]at hb;exact hb.right) hc2
  refine⟨(a,b),r2,⟨k1,m1⟩,?_,by rw[k3,m3,List.append_assoc]⟩
  show(((f (r,0,false)).1,(g (f (r,0,false)).2).1),(g (f (r,0,false)).2).2)=_
  rw[k2]
  show((a,(g (r1,0,false)).1),(g (r1,0,false)).2)=_
  rw[m2]
theorem Codec.map {α β:Type} {f:Rst→α ×Rst} {enc:α→List Int} {ok:α→Prop} (h:α→β) (g:β→α) (hg:∀a,g (h a)=a) (p:Codec f enc ok):Codec (fun s=>(h (f s).1,(f s).2)) (fun b=>enc (g b)) (fun b=>ok (g b)∧h (g b)=b):=by
 refine⟨p.bad,fun b q hb=>?_,fun r hb hc=>?_⟩
 ·show(h (f (enc (g b)++q,0,false)).1,(f (enc (g b)++q,0,false)).2)=_
  rw[p.back _ q hb.1]
  show(h (g b),_)=_
  rw[hb.2]
 ·obtain⟨a,q,k1,k2,k3⟩:=p.form r hb hc
  refine⟨h a,q,⟨by rw[hg];exact k1,by rw[hg]⟩,?_,by rw[hg];exact k3⟩
  show(h (f (r,0,false)).1,(f (r,0,false)).2)=_
  rw[k2]
theorem zgE {α:Type} {one:Rst→α ×Rst} {enc:α→List Int} {ok:α→Prop} (p:Codec one enc ok) (q:List Int) (xs:List α) (h:∀x∈xs,ok x):∀k,k≤xs.length→itG one (xs.flatMap enc++q,0,false) k=(xs.take k,(xs.drop k).flatMap enc++q,0,false):=by
  intro k
  induction k with
  |zero=>intro _;simp[itG]
  |succ k ih=>
    intro hk
    have i:=ih (by omega)
    have hd:xs.drop k=xs[k]::xs.drop (k+1):=List.drop_eq_getElem_cons (by omega)
    show((itG one (xs.flatMap enc++q,0,false) k).1++[(one (itG one (xs.flatMap enc++q,0,false) k).2).1],(one (itG one (xs.flatMap enc++q,0,false) k).2).2)=_
    rw[i]
    show(xs.take k++[(one ((xs.drop k).flatMap enc++q,0,false)).1],(one ((xs.drop k).flatMap enc++q,0,false)).2)=_
    rw[hd,List.flatMap_cons,List.append_assoc,p.back _ _ (h _ (List.getElem_mem (by omega))),List.take_succ_eq_append_getElem (by omega)]
theorem zgD {α:Type} {one:Rst→α ×Rst} {enc:α→List Int} {ok:α→Prop} (p:Codec one enc ok) (r:List Int) (hb:Bs r):∀k,cod (itG one (r,0,false) k).2=0→∃xs q,xs.length=k∧(∀x∈xs,ok x)∧itG one (r,0,false) k=(xs,q,0,false)∧r=xs.flatMap enc++q:=by
  intro k
  induction k with
  |zero=>intro _;exact⟨[],r,rfl,(fun x hx=>by cases hx),rfl,rfl⟩
  |succ k ih=>
    intro hc
    have hc:cod (one (itG one (r,0,false) k).2).2=0:=hc
    have c0:cod (itG one (r,0,false) k).2=0:=by
      by_cases c:cod (itG one (r,0,false) k).2=0
      · exact c
      · exact absurd ((p.bad _ c).symm.trans hc) c
    obtain⟨xs,q,h1,h2,h3,h4⟩:=ih c0
    rw[h3]at hc
    obtain⟨a,q',k1,k2,k3⟩:=p.form q (by rw[h4]at hb;exact hb.right) hc
    refine⟨xs++[a],q',by simp[h1],fun x hx=>?_,?_,by rw[h4,k3,List.flatMap_append];simp⟩
    · rcases List.mem_append.1 hx with g|g
      · exact h2 x g
      · rw[List.mem_singleton.1 g];exact k1
    · show((itG one (r,0,false) k).1++[(one (itG one (r,0,false) k).2).1],(one (itG one (r,0,false) k).2).2)=_
      rw[h3]
      show(xs++[(one (q,0,false)).1],(one (q,0,false)).2)=_
      rw[k2]
theorem zcS {most:Int} {r:List Int} (hb:Bs r) (h:(numS r 0 most).2.2=0):∃n q,(0≤n∧n≤most∧n≤9223372036854775807)∧numS r 0 most=(n,q,0)∧r=putL n++q:=by
 unfold numS at h ⊢
 rw[if_pos rfl]at h ⊢
 by_cases h1:(numR r).2.2=0
 ·rw[if_pos h1]at h ⊢
  obtain⟨k1,k2,k3,k4⟩:=zcU r hb h1
  by_cases h2:most<(numR r).1
  ·rw[if_pos h2]at h;exact absurd h (show(3:Int)≠0 by decide)
  ·rw[if_neg h2]
   refine⟨(numR r).1,_,⟨k3,by omega,k4⟩,rfl,?_⟩
   rw[k1,List.take_append_drop]
 ·rw[if_neg h1]at h
  exact absurd h h1
theorem zal (most:Int) (hm:most≤9223372036854775807):Codec (nuS most) putL (fun n=>0≤n∧n≤most):=
 Codec.simple (g:=fun r e=>numS r e most) (zaA most) (fun a q h=>zcj a most h.1 (by omega) h.2 q) (fun r hb h=>by
  obtain⟨n,q,k1,k2,k3⟩:=zcS hb h
  exact⟨n,q,⟨k1.1,k1.2.1⟩,k2,k3⟩)
theorem zgA (most:Int) (hm:most≤9223372036854775807):Codec (kiS most) putL (fun n=>1≤n∧n≤most):=by
 refine⟨fun s h=>?_,fun a q ha=>?_,fun r hb hc=>?_⟩
 ·obtain⟨r,e,z⟩:=s
  cases z
  ·have h:e≠0:=h
   have h1:=zaA most r e h
   have k:kdZ r e most false=false:=by
    unfold kdZ
    rw[h1]
    have:(e==0)=false:=by simpa using h
    rw[this]
    simp
   show(if kdZ r e most false=true then 130 else(numS r e most).2.2)=e
   rw[k,if_neg (by decide)]
   exact h1
  ·have k:kdZ r e most true=true:=by
    unfold kdZ
    simp
   show(if kdZ r e most true=true then 130 else(numS r e most).2.2)=130
   rw[k,if_pos rfl]
 ·show((numS (putL a++q) 0 most).1,(numS (putL a++q) 0 most).2.1,(numS (putL a++q) 0 most).2.2,kdZ (putL a++q) 0 most false)=_
  unfold kdZ
  rw[zcj a most (by omega) (by omega) ha.2 q]
  have:(a==0)=false:=by simp;omega
  simp[this]
 ·have hc:cod ((numS r 0 most).2.1,(numS r 0 most).2.2,kdZ r 0 most false)=0:=hc
  obtain⟨z0,e0⟩:=cod0 hc
  obtain⟨n,q,k1,k2,k3⟩:=zcS hb e0
  have hz:kdZ r 0 most false=false:=z0
  unfold kdZ at z0
  rw[k2]at z0
  have hn:n≠0:=fun q=>by rw[q]at z0;simp at z0
  refine⟨n,q,⟨by omega,k1.2.1⟩,?_,k3⟩
  show((numS r 0 most).1,(numS r 0 most).2.1,(numS r 0 most).2.2,kdZ r 0 most false)=_
  rw[hz,k2]
theorem zjN (n:Nat) (d q:List Int) (h:d.length=n):rawS (d++q) 0 n=(d,q,0):=by
 unfold rawS
 rw[if_pos rfl,if_neg (by omega),if_neg (by rw[List.length_append];omega)]
 have e:(n:Int).toNat=d.length:=by omega
 rw[e,List.take_left,List.drop_left]
theorem zjM {n:Nat} {r:List Int} (h:(rawS r 0 n).2.2=0):∃d q,d.length=n∧rawS r 0 n=(d,q,0)∧r=d++q:=by
 unfold rawS at h ⊢
 rw[if_pos rfl,if_neg (by omega)]at h ⊢
 by_cases h1:(r.length:Int)<n
 ·rw[if_pos h1]at h;exact absurd h (show(10:Int)≠0 by decide)
 ·rw[if_neg h1]
  exact⟨_,_,by rw[List.length_take];omega,rfl,(List.take_append_drop _ _).symm⟩
theorem zcf (n:Nat) (m:Int) (hm:m=(n:Int)):Codec (fun s=>(padN n (rawS s.1 s.2.1 m).1,(rawS s.1 s.2.1 m).2.1,(rawS s.1 s.2.1 m).2.2,s.2.2)) (fun d=>d) (fun d=>d.length=n∧Bs d):=by
 subst hm
 exact Codec.simple (g:=fun r e=>(padN n (rawS r e n).1,(rawS r e n).2)) (fun r e h=>zcL n r e h) (fun a q h=>by
  show(padN n (rawS (a++q) 0 n).1,(rawS (a++q) 0 n).2)=_
  rw[zjN n a q h.1]
  show(padN n a,_)=_
  unfold padN
  rw[if_pos h.1]) (fun r hb h=>by
  obtain⟨d,q,k1,k2,k3⟩:=zjM (n:=n) h
  refine⟨d,q,⟨k1,by rw[k3]at hb;exact hb.left⟩,?_,k3⟩
  show(padN n (rawS r 0 n).1,(rawS r 0 n).2)=_
  rw[k2]
  show(padN n d,_)=_
  unfold padN
  rw[if_pos k1])
theorem ze8 {zs:List Int} (h:∀z∈zs,0≤z∧z<256):strL (strOf zs)=zs:=ziK (zbN _) h (by rw[ze5])
theorem zdn (most:Int) (hm:most≤1099511627):Codec (txS most) textL (fun s=>(s.size:Int)≤most):=
 Codec.simple (g:=fun r e=>(strOf (textS r e most).1,(textS r e most).2)) (fun r e h=>zds most r e h) (fun s q h=>by
  show(strOf (textS (textL s++q) 0 most).1,(textS (textL s++q) 0 most).2)=_
  rw[ziy s most (by omega) h q]
  show(strOf (strL s),_)=_
  rw[ze5]) (fun r hb h=>by
  have h:(textS r 0 most).2.2=0:=h
  have hn:(numS r 0 9223372036854775807).2.2=0:=by
   by_cases c:(numS r 0 9223372036854775807).2.2=0
   ·exact c
   ·unfold textS at h;rw[if_neg c]at h;exact absurd h c
  obtain⟨n,q,k1,k2,k3⟩:=zcS hb hn
  show ∃a q,_∧(strOf (textS r 0 most).1,(textS r 0 most).2)=_∧_
  unfold textS at h ⊢
  rw[if_pos hn,k2]at h ⊢
  by_cases c1:most<n
  ·rw[if_pos c1]at h;exact absurd h (show(3:Int)≠0 by decide)
  ·rw[if_neg c1]at h ⊢
   by_cases c2:(q.length:Int)<n
   ·rw[if_pos c2]at h;exact absurd h (show(10:Int)≠0 by decide)
   ·rw[if_neg c2]
    have hl:(q.take n.toNat).length=n.toNat:=by rw[List.length_take];omega
    have hbt:Bs (q.take n.toNat):=(show Bs q from by rw[k3]at hb;exact hb.right).subT _
    have hsz:(strOf (q.take n.toNat)).size=n.toNat:=by rw[zb7,hl]
    refine⟨strOf (q.take n.toNat),q.drop n.toNat,by omega,rfl,?_⟩
    unfold textL
    rw[ze8 hbt,hsz,List.append_assoc,List.take_append_drop,show((n.toNat:Nat):Int)=n by omega]
    exact k3)
def sgOk (g:Sg):Prop:=(0≤g.n∧g.n≤64)∧(g.t.length=16∧Bs g.t)
def evOk (g:Ev):Prop:=(0≤g.n∧g.n≤64)∧((g.s.size:Int)≤4194304∧(g.t.length=16∧Bs g.t))
def vtOk (x:Vt):Prop:=(1≤x.k∧x.k≤2)∧((0≤x.e∧x.e≤1048576)∧((0≤x.v∧x.v≤1099511627776)∧((0≤x.s∧x.s≤1099511627776)∧(x.d.length=32∧Bs x.d))))
theorem Codec.as {α:Type} {f f':Rst→α ×Rst} {enc enc':α→List Int} {ok ok':α→Prop} (p:Codec f enc ok) (hf:f'=f) (he:∀a,enc' a=enc a) (ho:∀a,ok' a↔ok a):Codec f' enc' ok':=by
 subst hf
 obtain rfl:enc'=enc:=funext he
 obtain rfl:ok'=ok:=funext fun a=>propext (ho a)
 exact p
theorem zfi:Codec siS sgL sgOk:=
 (Codec.map (fun(c:Int ×List Int)=>(⟨c.1,c.2⟩:Sg)) (fun g=>(g.n,g.t)) (fun _=>rfl) (Codec.bind (zal 64 (by decide)) (zcf 16 16 rfl))).as rfl (fun _=>rfl) (fun a=>⟨fun h=>⟨h,rfl⟩,fun h=>h.1⟩)
theorem zlS:Codec enS evL evOk:=
 (Codec.map (fun(c:Int ×(ByteArray ×List Int))=>(⟨c.1,c.2.1,c.2.2⟩:Ev)) (fun g=>(g.n,(g.s,g.t))) (fun _=>rfl) (Codec.bind (zal 64 (by decide)) (Codec.bind (zdn 4194304 (by decide)) (zcf 16 16 rfl)))).as rfl (fun _=>rfl) (fun a=>⟨fun h=>⟨h,rfl⟩,fun h=>h.1⟩)
theorem zeR:Codec voS vtL vtOk:=
 (Codec.map (fun(c:Int ×(Int ×(Int ×(Int ×List Int))))=>(⟨c.1,c.2.1,c.2.2.1,c.2.2.2.1,c.2.2.2.2⟩:Vt)) (fun x=>(x.k,(x.e,(x.v,(x.s,x.d))))) (fun _=>rfl) (Codec.bind (zgA 2 (by decide)) (Codec.bind (zal 1048576 (by decide)) (Codec.bind (zal 1099511627776 (by decide)) (Codec.bind (zal 1099511627776 (by decide)) (zcf 32 32 rfl)))))).as rfl (fun x=>by simp[vtL,List.append_assoc]) (fun a=>⟨fun h=>⟨h,rfl⟩,fun h=>h.1⟩)
theorem zcY {α:Type} {one:Rst→α ×Rst} {enc:α→List Int} {ok:α→Prop} (most:Int) (hm:most≤1000) (p:Codec one enc ok):Codec (lsS most one) (fun xs=>putL xs.length++xs.flatMap enc) (fun xs=>(xs.length:Int)≤most∧∀x∈xs,ok x):=by
 have pn:=zal most (by omega)
 refine⟨fun s h=>?_,fun xs q h=>?_,fun r hb hc=>?_⟩
 ·have c:=pn.bad s h
  show cod (itG one (nuS most s).2 _).2=_
  rw[zdX p.bad (by rw[c];exact h),c]
 ·show itG one (nuS most (putL xs.length++xs.flatMap enc++q,0,false)).2 (nuS most (putL xs.length++xs.flatMap enc++q,0,false)).1.toNat=_
  rw[List.append_assoc,pn.back _ _ ⟨by omega,h.1⟩]
  show itG one (xs.flatMap enc++q,0,false) (xs.length:Int).toNat=_
  rw[Int.toNat_natCast,zgE p q xs h.2 xs.length (Nat.le_refl _)]
  simp
 ·have hc:cod (itG one (nuS most (r,0,false)).2 (nuS most (r,0,false)).1.toNat).2=0:=hc
  have c0:cod (nuS most (r,0,false)).2=0:=by
   by_cases c:cod (nuS most (r,0,false)).2=0
   ·exact c
   ·exact absurd ((zdX p.bad c _).symm.trans hc) c
  obtain⟨n,q,k1,k2,k3⟩:=pn.form r hb c0
  rw[k2]at hc
  obtain⟨xs,q',h1,h2,h3,h4⟩:=zgD p q (by rw[k3]at hb;exact hb.right) _ hc
  have hn:((xs.length:Nat):Int)=n:=by rw[h1];have:=k1.1;omega
  refine⟨xs,q',⟨by rw[hn];exact k1.2,h2⟩,?_,by rw[hn,k3,h4,List.append_assoc]⟩
  show itG one (nuS most (r,0,false)).2 (nuS most (r,0,false)).1.toNat=_
  rw[k2]
  exact h3
theorem Codec.same {α:Type} {f f':Rst→α ×Rst} {enc:α→List Int} {ok:α→Prop} (p:Codec f enc ok) (h2:∀s,(f' s).2=(f s).2) (h1:∀r,cod (f (r,0,false)).2=0→(f' (r,0,false)).1=(f (r,0,false)).1):Codec f' enc ok:=by
 refine⟨fun s h=>by rw[h2];exact p.bad s h,fun a q h=>?_,fun r hb hc=>?_⟩
 ·have e:=p.back a q h
  have c0:cod (f (enc a++q,0,false)).2=0:=by rw[e];rfl
  rw[←e]
  exact Prod.ext (h1 _ c0) (h2 _)
 ·rw[h2]at hc
  obtain⟨a,q,k1,k2,k3⟩:=p.form r hb hc
  exact⟨a,q,k1,by rw[←k2];exact Prod.ext (h1 _ hc) (h2 _),k3⟩
def rqS (s:Rst):Rq ×Rst:=((rqOf (rgetR s.1 s.2.1)).un,(rgetR s.1 s.2.1).rest,(rgetR s.1 s.2.1).err,s.2.2)
def rqOk (r:Rq):Prop:=(0≤r.c∧r.c≤8)∧((0≤r.n∧r.n≤1099511627776)∧((r.s.size:Int)≤64∧(r.t.length=16∧Bs r.t)))
def rqL (r:Rq):List Int:=(BRq.of r).bytes
theorem zfv:Codec rqS rqL rqOk:=by
 refine Codec.same (f:=fun s=>_) ((Codec.map (fun(c:Int ×(Int ×(ByteArray ×List Int)))=>(⟨c.1,c.2.1,c.2.2.1,c.2.2.2⟩:Rq)) (fun r=>(r.c,(r.n,(r.s,r.t)))) (fun _=>rfl) (Codec.bind (zal 8 (by decide)) (Codec.bind (zal 1099511627776 (by decide)) (Codec.bind (zdn 64 (by decide)) (zcf 16 16 rfl))))).as rfl (fun r=>by simp[rqL,BRq.bytes,BRq.of,List.append_assoc]) (fun a=>⟨fun h=>⟨h,rfl⟩,fun h=>h.1⟩)) (fun _=>rfl) (fun r hc=>?_)
 have he:(rgetR r 0).err=0:=(cod0 (z:=false) hc).2
 have e0:rqOf (rgetR r 0)=⟨(rgetR r 0).c,(rgetR r 0).n,strOf (rgetR r 0).s,(rgetR r 0).t⟩:=by
  unfold rqOf
  rw[if_pos he]
 show(rqOf (rgetR r 0)).un=_
 rw[e0]
 have hl:=(zcM _ _).2 (show(rawS (textS (numS (numS r 0 8).2.1 (numS r 0 8).2.2 1099511627776).2.1 (numS (numS r 0 8).2.1 (numS r 0 8).2.2 1099511627776).2.2 64).2.1 (textS (numS (numS r 0 8).2.1 (numS r 0 8).2.2 1099511627776).2.1 (numS (numS r 0 8).2.1 (numS r 0 8).2.2 1099511627776).2.2 64).2.2 16).2.2=0 from he)
 have ep:padN 16 (rawS (textS (numS (numS r 0 8).2.1 (numS r 0 8).2.2 1099511627776).2.1 (numS (numS r 0 8).2.1 (numS r 0 8).2.2 1099511627776).2.2 64).2.1 (textS (numS (numS r 0 8).2.1 (numS r 0 8).2.2 1099511627776).2.1 (numS (numS r 0 8).2.1 (numS r 0 8).2.2 1099511627776).2.2 64).2.2 16).1=(rawS (textS (numS (numS r 0 8).2.1 (numS r 0 8).2.2 1099511627776).2.1 (numS (numS r 0 8).2.1 (numS r 0 8).2.2 1099511627776).2.2 64).2.1 (textS (numS (numS r 0 8).2.1 (numS r 0 8).2.2 1099511627776).2.1 (numS (numS r 0 8).2.1 (numS r 0 8).2.2 1099511627776).2.2 64).2.2 16).1:=by
  unfold padN
  rw[if_pos hl]
 show(⟨_,_,_,(rawS (textS (numS (numS r 0 8).2.1 (numS r 0 8).2.2 1099511627776).2.1 (numS (numS r 0 8).2.1 (numS r 0 8).2.2 1099511627776).2.2 64).2.1 (textS (numS (numS r 0 8).2.1 (numS r 0 8).2.2 1099511627776).2.1 (numS (numS r 0 8).2.1 (numS r 0 8).2.2 1099511627776).2.2 64).2.2 16).1⟩:Rq)=⟨_,_,_,padN 16 (rawS (textS (numS (numS r 0 8).2.1 (numS r 0 8).2.2 1099511627776).2.1 (numS (numS r 0 8).2.1 (numS r 0 8).2.2 1099511627776).2.2 64).2.1 (textS (numS (numS r 0 8).2.1 (numS r 0 8).2.2 1099511627776).2.1 (numS (numS r 0 8).2.1 (numS r 0 8).2.2 1099511627776).2.2 64).2.2 16).1⟩
 rw[ep]
 rfl
theorem zdW (k:Nat) (r:List Int) (e:Int) (z:Bool):itG rqS (r,e,z) k=((getRs k r e).1.map BRq.un,(getRs k r e).2.1,(getRs k r e).2.2,z):=by
  induction k with
  |zero=>rfl
  |succ k ih=>
    show((itG rqS (r,e,z) k).1++[(rqS (itG rqS (r,e,z) k).2).1],(rqS (itG rqS (r,e,z) k).2).2)=_
    rw[ih]
    show((getRs k r e).1.map BRq.un++[(rqOf (rgetR (getRs k r e).2.1 (getRs k r e).2.2)).un],_)=(((getRs k r e).1++[rqOf (rgetR (getRs k r e).2.1 (getRs k r e).2.2)]).map BRq.un,_)
    rw[List.map_append]
    rfl
def baL (c:Bool ×List Rq):List Int:=batL c.1 (c.2.map BRq.of)
def baOk (c:Bool ×List Rq):Prop:=(c.1=true→c.2=[])∧(c.2.length≤4∧∀r∈c.2,rqOk r)
theorem zet:Codec baS baL baOk:=by
 refine⟨fun s h=>?_,fun c t hc=>?_,fun r hb hc=>?_⟩
 ·obtain⟨r,e,z⟩:=s
  cases z
  ·have h:e≠0:=h
   show(getB r e).err=e
   have h1:=zaA 5 r e h
   have h2:(numS r e 5).1=0:=zcT (by rw[h1];exact h)
   unfold getB
   rw[if_pos h2]
   exact h1
  ·rfl
 ·obtain⟨q,rs⟩:=c
  obtain⟨h1,h2,h3⟩:=hc
  show(((getB (batL q (rs.map BRq.of)++t) 0).q,(getB (batL q (rs.map BRq.of)++t) 0).rs.map BRq.un),(getB (batL q (rs.map BRq.of)++t) 0).rest,(getB (batL q (rs.map BRq.of)++t) 0).err,false)=_
  cases q
  ·have e:batL false (rs.map BRq.of)=putL ((rs.length:Int)+1)++rs.flatMap rqL:=by
    unfold batL
    rw[if_neg (by decide),List.length_map,List.flatMap_map]
    rfl
   have h2:rs.length≤4:=h2
   rw[e,List.append_assoc]
   have hn:=zcj ((rs.length:Int)+1) 5 (by omega) (by omega) (by omega) (rs.flatMap rqL++t)
   have hi:=zgE zfv t rs h3 rs.length (Nat.le_refl _)
   rw[zdW]at hi
   simp only[List.take_length,List.drop_length,List.flatMap_nil,List.nil_append,Prod.mk.injEq,and_true]at hi
   obtain⟨i1,i2,i3⟩:=hi
   unfold getB
   rw[hn]
   simp only
   rw[if_neg (by omega),show((rs.length:Int)+1 - 1).toNat=rs.length by omega,if_pos i3]
   simp only
   rw[i1,i2,i3]
  ·obtain rfl:rs=[]:=h1 rfl
   have hn:=zcj 0 5 (by omega) (by omega) (by omega) t
   have e:batL true (([]:List Rq).map BRq.of)=putL 0:=rfl
   rw[e]
   unfold getB
   rw[hn]
   rfl
 ·have he:(getB r 0).err=0:=(cod0 (z:=false) hc).2
  show ∃a q,_∧(((getB r 0).q,(getB r 0).rs.map BRq.un),(getB r 0).rest,(getB r 0).err,false)=_∧_
  have hn:(numS r 0 5).2.2=0:=by
   by_cases c:(numS r 0 5).2.2=0
   ·exact c
   ·have h2:(numS r 0 5).1=0:=zcT c
    unfold getB at he
    rw[if_pos h2]at he
    exact absurd he c
  obtain⟨n,q,k1,k2,k3⟩:=zcS hb hn
  unfold getB at he ⊢
  rw[k2]at he ⊢
  simp only at he ⊢
  by_cases h0:n=0
  ·subst h0
   rw[if_pos rfl]
   exact⟨(true,[]),q,⟨(fun _=>rfl),(by simp),(fun r hr=>by cases hr)⟩,rfl,k3⟩
  ·rw[if_neg h0]at he ⊢
   have he:(getRs (n - 1).toNat q 0).2.2=0:=he
   have hc2:cod (itG rqS (q,0,false) (n - 1).toNat).2=0:=by rw[zdW];exact he
   obtain⟨xs,q',j1,j2,j3,j4⟩:=zgD zfv q (by rw[k3]at hb;exact hb.right) _ hc2
   rw[zdW]at j3
   simp only[Prod.mk.injEq,and_true]at j3
   obtain⟨i1,i2,i3⟩:=j3
   refine⟨(false,xs),q',⟨(fun e=>by cases e),(by show xs.length≤4;omega),j2⟩,?_,?_⟩
   ·rw[if_pos he]
    simp only
    rw[i1,i2,i3]
   ·show r=batL false (xs.map BRq.of)++q'
    unfold batL
    rw[if_neg (by decide),List.length_map,List.flatMap_map,k3,j4,List.append_assoc,show((xs.length:Nat):Int)+1=n by omega]
    rfl
def ceOk (c:Vt ×List Sg):Prop:=vtOk c.1∧((c.2.length:Int)≤64∧∀x∈c.2,sgOk x)
theorem zhj:Codec ceS (fun c=>ctL c.1 c.2) ceOk:=(Codec.bind zeR (zcY 64 (by decide) zfi)).as rfl (fun _=>rfl) (fun _=>Iff.rfl)
def hpL (h:Hp):List Int:=baL (h.q,h.rs)++ctL h.vt h.sg
def hpOk (h:Hp):Prop:=baOk (h.q,h.rs)∧ceOk (h.vt,h.sg)
theorem zk6:Codec heS hpL hpOk:=(Codec.map (fun(c:(Bool ×List Rq) ×(Vt ×List Sg))=>(⟨c.1.1,c.1.2,c.2.1,c.2.2⟩:Hp)) (fun h=>((h.q,h.rs),(h.vt,h.sg))) (fun _=>rfl) (Codec.bind zet zhj)).as rfl (fun _=>rfl) (fun a=>⟨fun h=>⟨h,rfl⟩,fun h=>h.1⟩)
def cpL (c:Cp):List Int:=putL c.e++(putL c.l++(putL c.v++(putL c.he.length++c.he.flatMap hpL)))
def cpOk (c:Cp):Prop:=(0≤c.e∧c.e≤1048576)∧((0≤c.l∧c.l≤64)∧((0≤c.v∧c.v≤1099511627776)∧((c.he.length:Int)≤4∧∀x∈c.he,hpOk x)))
theorem zme:Codec chS cpL cpOk:=(Codec.map (fun(c:Int ×(Int ×(Int ×List Hp)))=>(⟨c.1,c.2.1,c.2.2.1,c.2.2.2⟩:Cp)) (fun c=>(c.e,(c.l,(c.v,c.he)))) (fun _=>rfl) (Codec.bind (zal 1048576 (by decide)) (Codec.bind (zal 64 (by decide)) (Codec.bind (zal 1099511627776 (by decide)) (zcY 4 (by decide) zk6))))).as rfl (fun _=>rfl) (fun a=>⟨fun h=>⟨h,rfl⟩,fun h=>h.1⟩)
def zgc (c:Int ×(Int ×(Bool ×List Rq))):Mp:=⟨1,c.1,0,0,c.2.1,c.2.2.1,c.2.2.2,Vt.zero,0,0,0,[],[],zb,Vt.zero,[],⟨#[]⟩,[]⟩
def zer (m:Mp):List Int:=putL m.e++(putL m.s++baL (m.q,m.rs))
def kok1 (m:Mp):Prop:=((0≤m.e∧m.e≤1048576)∧((0≤m.s∧m.s≤1099511627776)∧baOk (m.q,m.rs)))∧zgc (m.e,(m.s,(m.q,m.rs)))=m
theorem zgv:Codec mg1 zer kok1:=(Codec.map zgc (fun m=>(m.e,(m.s,(m.q,m.rs)))) (fun _=>rfl) (Codec.bind (zal 1048576 (by decide)) (Codec.bind (zal 1099511627776 (by decide)) zet))).as rfl (fun _=>rfl) (fun _=>Iff.rfl)
def zgb (c:Vt):Mp:=⟨2,0,0,0,0,false,[],c,0,0,0,[],[],zb,Vt.zero,[],⟨#[]⟩,[]⟩
def zeq (m:Mp):List Int:=vtL m.vt
def kok2 (m:Mp):Prop:=(vtOk m.vt)∧zgb m.vt=m
theorem zgu:Codec mg2 zeq kok2:=(Codec.map zgb (fun m=>m.vt) (fun _=>rfl) zeR).as rfl (fun _=>rfl) (fun _=>Iff.rfl)
def zga (c:Cp):Mp:=⟨3,0,0,0,0,false,[],Vt.zero,c.e,c.l,c.v,c.he,[],zb,Vt.zero,[],⟨#[]⟩,[]⟩
def zep (m:Mp):List Int:=cpL ⟨m.ce,m.cl,m.cv,m.he⟩
def kok3 (m:Mp):Prop:=(cpOk ⟨m.ce,m.cl,m.cv,m.he⟩)∧zga ⟨m.ce,m.cl,m.cv,m.he⟩=m
theorem zgt:Codec mg3 zep kok3:=(Codec.map zga (fun m=>⟨m.ce,m.cl,m.cv,m.he⟩) (fun _=>rfl) zme).as rfl (fun _=>rfl) (fun _=>Iff.rfl)
def zf9 (c:Int ×(Int ×(Int ×List Ev))):Mp:=⟨4,c.1,c.2.1,c.2.2.1,0,false,[],Vt.zero,0,0,0,[],c.2.2.2,zb,Vt.zero,[],⟨#[]⟩,[]⟩
def zdc (m:Mp):List Int:=putL m.e++(putL m.l++(putL m.v++evsL m.ne))
def kok4 (m:Mp):Prop:=((0≤m.e∧m.e≤1048576)∧((0≤m.l∧m.l≤64)∧((0≤m.v∧m.v≤1099511627776)∧((m.ne.length:Int)≤64∧∀x∈m.ne,evOk x))))∧zf9 (m.e,(m.l,(m.v,m.ne)))=m
theorem zgs:Codec mg4 zdc kok4:=(Codec.map zf9 (fun m=>(m.e,(m.l,(m.v,m.ne)))) (fun _=>rfl) (Codec.bind (zal 1048576 (by decide)) (Codec.bind (zal 64 (by decide)) (Codec.bind (zal 1099511627776 (by decide)) (zcY 64 (by decide) zlS))))).as rfl (fun _=>rfl) (fun _=>Iff.rfl)
def zf8 (c:Int ×List Int):Mp:=⟨5,c.1,0,0,0,false,[],Vt.zero,0,0,0,[],[],c.2,Vt.zero,[],⟨#[]⟩,[]⟩
def zeo (m:Mp):List Int:=putL m.e++m.d
def kok5 (m:Mp):Prop:=((0≤m.e∧m.e≤1048576)∧(m.d.length=32∧Bs m.d))∧zf8 (m.e,m.d)=m
theorem zgr:Codec mg5 zeo kok5:=(Codec.map zf8 (fun m=>(m.e,m.d)) (fun _=>rfl) (Codec.bind (zal 1048576 (by decide)) (zcf 32 32 rfl))).as rfl (fun _=>rfl) (fun _=>Iff.rfl)
def zf7 (c:Int ×Int):Mp:=⟨6,c.1,0,0,c.2,false,[],Vt.zero,0,0,0,[],[],zb,Vt.zero,[],⟨#[]⟩,[]⟩
def zen (m:Mp):List Int:=putL m.e++putL m.s
def kok6 (m:Mp):Prop:=((0≤m.e∧m.e≤1048576)∧(0≤m.s∧m.s≤1099511627776))∧zf7 (m.e,m.s)=m
theorem zgq:Codec mg6 zen kok6:=(Codec.map zf7 (fun m=>(m.e,m.s)) (fun _=>rfl) (Codec.bind (zal 1048576 (by decide)) (zal 1099511627776 (by decide)))).as rfl (fun _=>rfl) (fun _=>Iff.rfl)
def zf6 (c:(Bool ×List Rq) ×(Vt ×List Sg)):Mp:=⟨7,0,0,0,0,c.1.1,c.1.2,Vt.zero,0,0,0,[],[],zb,c.2.1,c.2.2,⟨#[]⟩,[]⟩
def zem (m:Mp):List Int:=baL (m.q,m.rs)++ctL m.ct m.cs
def kok7 (m:Mp):Prop:=(baOk (m.q,m.rs)∧ceOk (m.ct,m.cs))∧zf6 ((m.q,m.rs),(m.ct,m.cs))=m
theorem zgp:Codec mg7 zem kok7:=(Codec.map zf6 (fun m=>((m.q,m.rs),(m.ct,m.cs))) (fun _=>rfl) (Codec.bind zet zhj)).as rfl (fun _=>rfl) (fun _=>Iff.rfl)
def zf5 (c:ByteArray ×List Sg):Mp:=⟨8,0,0,0,0,false,[],Vt.zero,0,0,0,[],[],zb,Vt.zero,[],c.1,c.2⟩
def zel (m:Mp):List Int:=textL m.st++sgsL m.sg
def kok8 (m:Mp):Prop:=((m.st.size:Int)≤4194304∧((m.sg.length:Int)≤64∧∀x∈m.sg,sgOk x))∧zf5 (m.st,m.sg)=m
theorem zgo:Codec mg8 zel kok8:=(Codec.map zf5 (fun m=>(m.st,m.sg)) (fun _=>rfl) (Codec.bind (zdn 4194304 (by decide)) (zcY 64 (by decide) zfi))).as rfl (fun _=>rfl) (fun _=>Iff.rfl)
def Mp.bytes (m:Mp):List Int:=putL m.k++(if m.k=1 then zer m else if m.k=2 then zeq m else if m.k=3 then zep m else if m.k=4 then zdc m else if m.k=5 then zeo m else if m.k=6 then zen m else if m.k=7 then zem m else zel m)
def Mp.good (m:Mp):Prop:=(m.k=1∧kok1 m)∨(m.k=2∧kok2 m)∨(m.k=3∧kok3 m)∨(m.k=4∧kok4 m)∨(m.k=5∧kok5 m)∨(m.k=6∧kok6 m)∨(m.k=7∧kok7 m)∨(m.k=8∧kok8 m)
theorem zlW (q:List Int):faE (q,0,false)=if q.length=0 then 0 else 12:=rfl
theorem zl5 {zs:List Int} (hb:Bs zs) (h:(decS zs).2=0):(decS zs).1.good∧zs=(decS zs).1.bytes:=by
 have hf:faE (mgS (zs,0,false)).2=0:=by
  by_cases c:faE (mgS (zs,0,false)).2=0
  ·exact c
  ·unfold decS at h
   rw[if_neg c]at h
   exact h
 have hd:decS zs=((mgS (zs,0,false)).1,0):=by
  unfold decS
  rw[if_pos hf]
 rw[hd]
 simp only
 have hc:cod (mgS (zs,0,false)).2=0:=by
  generalize (mgS (zs,0,false)).2=s at hf
  obtain⟨r,e,z⟩:=s
  cases z
  ·show e=0
   have hf:doneE r e=0:=hf
   unfold doneE at hf
   by_cases c:e=0
   ·exact c
   ·rw[if_neg c]at hf;exact hf
  ·exact absurd hf (show(130:Int)≠0 by decide)
 have hr:(mgS (zs,0,false)).2.1=[]:=by
  generalize (mgS (zs,0,false)).2=s at hf hc
  obtain⟨r,e,z⟩:=s
  obtain⟨rfl,rfl⟩:=cod0 hc
  rw[zlW]at hf
  by_cases c:r.length=0
  ·exact List.eq_nil_of_length_eq_zero c
  ·rw[if_neg c]at hf;exact absurd hf (by decide)
 have hbad:∀k s,cod s≠0→cod (mgF k s).2=cod s:=fun k s hs=>by
  unfold mgF
  by_cases n1:k=1
  ·rw[if_pos n1];exact zgv.bad s hs
  rw[if_neg n1]
  by_cases n2:k=2
  ·rw[if_pos n2];exact zgu.bad s hs
  rw[if_neg n2]
  by_cases n3:k=3
  ·rw[if_pos n3];exact zgt.bad s hs
  rw[if_neg n3]
  by_cases n4:k=4
  ·rw[if_pos n4];exact zgs.bad s hs
  rw[if_neg n4]
  by_cases n5:k=5
  ·rw[if_pos n5];exact zgr.bad s hs
  rw[if_neg n5]
  by_cases n6:k=6
  ·rw[if_pos n6];exact zgq.bad s hs
  rw[if_neg n6]
  by_cases n7:k=7
  ·rw[if_pos n7];exact zgp.bad s hs
  rw[if_neg n7]
  by_cases n8:k=8
  ·rw[if_pos n8];exact zgo.bad s hs
  rw[if_neg n8]
 unfold mgS at hc hr ⊢
 have ck:cod (kiS 8 (zs,0,false)).2=0:=by
  by_cases c:cod (kiS 8 (zs,0,false)).2=0
  ·exact c
  ·exact absurd ((hbad _ _ c).symm.trans hc) c
 obtain⟨k,q,k1,k2,k3⟩:=(zgA 8 (by decide)).form zs hb ck
 rw[k2]at hc hr ⊢
 simp only at hc hr ⊢
 have hbq:Bs q:=by rw[k3]at hb;exact hb.right
 unfold mgF at hc hr ⊢
 by_cases n1:k=1
 ·rw[if_pos n1]at hc hr ⊢
  obtain⟨m,q',j1,j2,j3⟩:=zgv.form q hbq hc
  rw[j2]at hr ⊢
  simp only at hr ⊢
  have hmk:m.k=1:=by rw[←j1.2];rfl
  refine⟨.inl ⟨hmk,j1⟩,?_⟩
  have eb:m.bytes=putL 1++zer m:=by unfold Mp.bytes;rw[hmk];rfl
  rw[eb,k3,j3,hr,List.append_nil,n1]
 rw[if_neg n1]at hc hr ⊢
 by_cases n2:k=2
 ·rw[if_pos n2]at hc hr ⊢
  obtain⟨m,q',j1,j2,j3⟩:=zgu.form q hbq hc
  rw[j2]at hr ⊢
  simp only at hr ⊢
  have hmk:m.k=2:=by rw[←j1.2];rfl
  refine⟨.inr (.inl ⟨hmk,j1⟩),?_⟩
  have eb:m.bytes=putL 2++zeq m:=by unfold Mp.bytes;rw[hmk];rfl
  rw[eb,k3,j3,hr,List.append_nil,n2]
 rw[if_neg n2]at hc hr ⊢
 by_cases n3:k=3
 ·rw[if_pos n3]at hc hr ⊢
  obtain⟨m,q',j1,j2,j3⟩:=zgt.form q hbq hc
  rw[j2]at hr ⊢
  simp only at hr ⊢
  have hmk:m.k=3:=by rw[←j1.2];rfl
  refine⟨.inr (.inr (.inl ⟨hmk,j1⟩)),?_⟩
  have eb:m.bytes=putL 3++zep m:=by unfold Mp.bytes;rw[hmk];rfl
  rw[eb,k3,j3,hr,List.append_nil,n3]
 rw[if_neg n3]at hc hr ⊢
 by_cases n4:k=4
 ·rw[if_pos n4]at hc hr ⊢
  obtain⟨m,q',j1,j2,j3⟩:=zgs.form q hbq hc
  rw[j2]at hr ⊢
  simp only at hr ⊢
  have hmk:m.k=4:=by rw[←j1.2];rfl
  refine⟨.inr (.inr (.inr (.inl ⟨hmk,j1⟩))),?_⟩
  have eb:m.bytes=putL 4++zdc m:=by unfold Mp.bytes;rw[hmk];rfl
  rw[eb,k3,j3,hr,List.append_nil,n4]
 rw[if_neg n4]at hc hr ⊢
 by_cases n5:k=5
 ·rw[if_pos n5]at hc hr ⊢
  obtain⟨m,q',j1,j2,j3⟩:=zgr.form q hbq hc
  rw[j2]at hr ⊢
  simp only at hr ⊢
  have hmk:m.k=5:=by rw[←j1.2];rfl
  refine⟨.inr (.inr (.inr (.inr (.inl ⟨hmk,j1⟩)))),?_⟩
  have eb:m.bytes=putL 5++zeo m:=by unfold Mp.bytes;rw[hmk];rfl
  rw[eb,k3,j3,hr,List.append_nil,n5]
 rw[if_neg n5]at hc hr ⊢
 by_cases n6:k=6
 ·rw[if_pos n6]at hc hr ⊢
  obtain⟨m,q',j1,j2,j3⟩:=zgq.form q hbq hc
  rw[j2]at hr ⊢
  simp only at hr ⊢
  have hmk:m.k=6:=by rw[←j1.2];rfl
  refine⟨.inr (.inr (.inr (.inr (.inr (.inl ⟨hmk,j1⟩))))),?_⟩
  have eb:m.bytes=putL 6++zen m:=by unfold Mp.bytes;rw[hmk];rfl
  rw[eb,k3,j3,hr,List.append_nil,n6]
 rw[if_neg n6]at hc hr ⊢
 by_cases n7:k=7
 ·rw[if_pos n7]at hc hr ⊢
  obtain⟨m,q',j1,j2,j3⟩:=zgp.form q hbq hc
  rw[j2]at hr ⊢
  simp only at hr ⊢
  have hmk:m.k=7:=by rw[←j1.2];rfl
  refine⟨.inr (.inr (.inr (.inr (.inr (.inr (.inl ⟨hmk,j1⟩)))))),?_⟩
  have eb:m.bytes=putL 7++zem m:=by unfold Mp.bytes;rw[hmk];rfl
  rw[eb,k3,j3,hr,List.append_nil,n7]
 rw[if_neg n7]at hc hr ⊢
 by_cases n8:k=8
 ·rw[if_pos n8]at hc hr ⊢
  obtain⟨m,q',j1,j2,j3⟩:=zgo.form q hbq hc
  rw[j2]at hr ⊢
  simp only at hr ⊢
  have hmk:m.k=8:=by rw[←j1.2];rfl
  refine⟨.inr (.inr (.inr (.inr (.inr (.inr (.inr (⟨hmk,j1⟩))))))),?_⟩
  have eb:m.bytes=putL 8++zel m:=by unfold Mp.bytes;rw[hmk];rfl
  rw[eb,k3,j3,hr,List.append_nil,n8]
 rw[if_neg n8]at hc hr ⊢
 omega
theorem zfq {α β:Type} {B:α→α→Bool} {f:α→β} (h:∀x y,f x=f y→B x y=true):∀xs ys:List α,xs.map f=ys.map f→sameL B xs ys=true
  |[],[],_=>rfl
  |x::xs,y::ys,e=>by
    simp only[List.map_cons,List.cons.injEq]at e
    unfold sameL
    rw[h x y e.1,zfq h xs ys e.2]
    rfl
  |[],y::ys,e=>by cases e
  |x::xs,[],e=>by cases e
theorem zhh {x y:Vt} {s t:Sl Sg} (h:x=y) (h2:s.xs=t.xs):certB x s y t=true:=by
 unfold certB
 rw[zdi.2 h,(zaR (fun x y=>Sg.B_iff) _ _).2 h2]
 rfl
theorem zhA {q r:Bool} {x y:Sl Rq} (h:q=r) (h2:x.xs=y.xs):batB q x r y=true:=by
 unfold batB
 rw[h,(zaR (fun x y=>Rq.B_iff) _ _).2 h2]
 simp
theorem Hd.B_eqv (x y:Hd) (h:x.pure=y.pure):Hd.B x y=true:=by
 unfold Hd.pure at h
 simp only[Hp.mk.injEq]at h
 obtain⟨h1,h2,h3,h4⟩:=h
 unfold Hd.B
 rw[zhA h1 h2,zhh h3 h4]
 rfl
theorem Mg.B_eqv (a b:Mg) (h:a.pure=b.pure):Mg.B a b=true:=by
 unfold Mg.pure at h
 simp only[Mp.mk.injEq]at h
 obtain⟨h1,h2,h3,h4,h5,h6,h7,h8,h9,h10,h11,h12,h13,h14,h15,h16,h17,h18⟩:=h
 unfold Mg.B Mg.nB Mg.fB Mg.lB chgB
 rw[zdi.2 h8,zhA h6 h7,zhh h15 h16,(zaR (fun x y=>Ev.B_iff) _ _).2 h13,(zaR (fun x y=>Sg.B_iff) _ _).2 h18,zfq Hd.B_eqv _ _ h12,h1,h2,h3,h4,h5,h9,h10,h11,h14,h17]
 simp
theorem zbv {α:Type} {E:El α} {w:World} {x:Sl α} (h:x.At E w):x.Bk (fun b=>b<w.heap.size):=fun b h1 h2=>by
 rcases h.2.2 with q|⟨c,off,e,hlt,_⟩
 ·exact absurd q h1
 ·rw[e]at h2
  cases h2
  exact hlt
theorem zkz {m:Mg} {w:World} (h:m.At w):m.Bk (fun b=>b<w.heap.size):=
 ⟨zbv h.rs,zbv h.he.1,fun y hy=>⟨zbv (h.he.2 y hy).1,zbv (h.he.2 y hy).2⟩,zbv h.ne,zbv h.cs,zbv h.sg⟩
theorem Mg.Bk.mono {m:Mg} {P P':Nat→Prop} (k:m.Bk P) (hp:∀b,P b→P' b):m.Bk P':=
 ⟨k.1.mono hp,k.2.1.mono hp,fun y hy=>(k.2.2.1 y hy).mono hp,k.2.2.2.1.mono hp,k.2.2.2.2.1.mono hp,k.2.2.2.2.2.mono hp⟩
structure Fit (m:Mp) (n:Nat):Prop where
 same:∀N,ownC N m=ownX N m
 le:∀N,(ownC N m).length≤10000
 rs:∀r∈m.rs,r.s.size≤100000
 he:∀h∈m.he,∀r∈h.rs,r.s.size≤100000
 nl:m.ne.length≤64
 ne:∀e∈m.ne,e.s.size≤n
theorem zkJ {α:Type} {f:α→List Int} {xs:List α} {x:α} (h:x∈xs):(f x).length≤(xs.flatMap f).length:=by
 obtain⟨a,b,rfl⟩:=List.append_of_mem h
 simp only[List.flatMap_append,List.flatMap_cons,List.length_append]
 omega
theorem zdF {r:Rq} (h:rqOk r):r.s.size≤100000:=by have:=h.2.2.1;omega
theorem zk9 {N:Int} {hs:List Hp} (h:∀x∈hs,hpOk x):(heC N hs).length≤hs.length*68:=by
  induction hs with
  |nil=>simp[heC]
  |cons a l ih=>
    have h1:=h a (by simp)
    have h2:=ih (fun x hx=>h x (by simp[hx]))
    have h3:=h1.1.2.1
    have h4:=h1.2.2.1
    simp only at h3 h4
    unfold heC at h2 ⊢
    simp only[List.flatMap_cons,List.length_append,hdC,za6,zbd,List.length_cons]at h2 ⊢
    omega
theorem zaN (N:Int) {m:Mp} (h1:m.rs=[]) (h2:m.cs=[]) (h3:m.he=[]) (h4:m.sg=[]):ownC N m=[]∧ownX N m=[]:=by
 unfold ownC ownX
 rw[h1,h2,h3,h4]
 constructor
 ·rfl
 ·show[]++[]++(if m.k=7 then[]else[])++[]=[]
  split<;>rfl
theorem zlt {m:Mp} (h:m.good) (n:Nat) (hn:m.bytes.length=n):Fit m n:=by
 rcases h with⟨hk,h⟩|⟨hk,h⟩|⟨hk,h⟩|⟨hk,h⟩|⟨hk,h⟩|⟨hk,h⟩|⟨hk,h⟩|⟨hk,h⟩
 ·have ec:m.cs=[]:=by rw[←h.2];rfl
  have eh:m.he=[]:=by rw[←h.2];rfl
  have es:m.sg=[]:=by rw[←h.2];rfl
  have en:m.ne=[]:=by rw[←h.2];rfl
  have hb:=h.1.2.2.2
  refine⟨fun N=>?_,fun N=>?_,fun r hr=>zdF (hb.2 r hr),fun x hx=>by simp[eh]at hx,by rw[en];simp,fun x hx=>by simp[en]at hx⟩
  ·unfold ownC ownX
   rw[ec,eh,es,if_neg (by rw[hk];decide)]
   simp[cerC,heC]
  ·unfold ownC
   rw[ec,eh,es]
   simp only[List.length_append,za6,zbd,zbQ,heC,List.flatMap_nil,List.length_nil]
   have:=hb.1
   simp only at this
   omega
 ·obtain⟨e1,e2,e3,e4,e5⟩:m.rs=[]∧m.cs=[]∧m.he=[]∧m.sg=[]∧m.ne=[]:=by rw[←h.2];exact⟨rfl,rfl,rfl,rfl,rfl⟩
  exact⟨fun N=>by rw[(zaN N e1 e2 e3 e4).1,(zaN N e1 e2 e3 e4).2],fun N=>by rw[(zaN N e1 e2 e3 e4).1];simp,fun r hr=>by simp[e1]at hr,fun x hx=>by simp[e3]at hx,by rw[e5];simp,fun x hx=>by simp[e5]at hx⟩
 ·obtain⟨e1,e2,e4,e5⟩:m.rs=[]∧m.cs=[]∧m.sg=[]∧m.ne=[]:=by rw[←h.2];exact⟨rfl,rfl,rfl,rfl⟩
  have hb:=h.1.2.2.2
  simp only at hb
  refine⟨fun N=>?_,fun N=>?_,fun r hr=>by simp[e1]at hr,fun x hx r hr=>zdF ((hb.2 x hx).1.2.2 r hr),by rw[e5];simp,fun x hx=>by simp[e5]at hx⟩
  ·unfold ownC ownX
   rw[e1,e2,e4,if_neg (by rw[hk];decide)]
   simp[cerC,batC]
  ·have h1:=zk9 (N:=N) hb.2
   unfold ownC
   rw[e1,e2,e4]
   simp only[List.length_append,za6,zbd,zbQ,List.length_nil]
   have:=hb.1
   omega
 ·obtain⟨e1,e2,e3,e4⟩:m.rs=[]∧m.cs=[]∧m.he=[]∧m.sg=[]:=by rw[←h.2];exact⟨rfl,rfl,rfl,rfl⟩
  have hb:=h.1.2.2.2
  refine⟨fun N=>by rw[(zaN N e1 e2 e3 e4).1,(zaN N e1 e2 e3 e4).2],fun N=>by rw[(zaN N e1 e2 e3 e4).1];simp,fun r hr=>by simp[e1]at hr,fun x hx=>by simp[e3]at hx,by have:=hb.1;omega,fun x hx=>?_⟩
  have h1:=zkJ (f:=evL) hx
  have h2:x.s.size≤(evL x).length:=by
   unfold evL textL
   simp only[List.length_append,zX]
   omega
  rw[←hn]
  unfold Mp.bytes
  rw[if_neg (by rw[hk];decide),if_neg (by rw[hk];decide),if_neg (by rw[hk];decide),if_pos hk]
  unfold zdc evsL
  simp only[List.length_append]
  omega
 ·obtain⟨e1,e2,e3,e4,e5⟩:m.rs=[]∧m.cs=[]∧m.he=[]∧m.sg=[]∧m.ne=[]:=by rw[←h.2];exact⟨rfl,rfl,rfl,rfl,rfl⟩
  exact⟨fun N=>by rw[(zaN N e1 e2 e3 e4).1,(zaN N e1 e2 e3 e4).2],fun N=>by rw[(zaN N e1 e2 e3 e4).1];simp,fun r hr=>by simp[e1]at hr,fun x hx=>by simp[e3]at hx,by rw[e5];simp,fun x hx=>by simp[e5]at hx⟩
 ·obtain⟨e1,e2,e3,e4,e5⟩:m.rs=[]∧m.cs=[]∧m.he=[]∧m.sg=[]∧m.ne=[]:=by rw[←h.2];exact⟨rfl,rfl,rfl,rfl,rfl⟩
  exact⟨fun N=>by rw[(zaN N e1 e2 e3 e4).1,(zaN N e1 e2 e3 e4).2],fun N=>by rw[(zaN N e1 e2 e3 e4).1];simp,fun r hr=>by simp[e1]at hr,fun x hx=>by simp[e3]at hx,by rw[e5];simp,fun x hx=>by simp[e5]at hx⟩
 ·obtain⟨e3,e4,e5⟩:m.he=[]∧m.sg=[]∧m.ne=[]:=by rw[←h.2];exact⟨rfl,rfl,rfl⟩
  have hb:=h.1.1.2
  have hc:=h.1.2.2.1
  simp only at hb hc
  refine⟨fun N=>?_,fun N=>?_,fun r hr=>zdF (hb.2 r hr),fun x hx=>by simp[e3]at hx,by rw[e5];simp,fun x hx=>by simp[e5]at hx⟩
  ·unfold ownC ownX
   rw[e3,e4,if_pos hk]
   simp[heC]
  ·unfold ownC
   rw[e3,e4]
   simp only[List.length_append,za6,zbd,zbQ,heC,List.flatMap_nil,List.length_nil]
   have:=hb.1
   omega
 ·obtain⟨e1,e2,e3,e5⟩:m.rs=[]∧m.cs=[]∧m.he=[]∧m.ne=[]:=by rw[←h.2];exact⟨rfl,rfl,rfl,rfl⟩
  have hb:=h.1.2.1
  refine⟨fun N=>?_,fun N=>?_,fun r hr=>by simp[e1]at hr,fun x hx=>by simp[e3]at hx,by rw[e5];simp,fun x hx=>by simp[e5]at hx⟩
  ·unfold ownC ownX
   rw[e1,e2,e3,if_neg (by rw[hk];decide)]
   simp[cerC,heC]
  ·unfold ownC
   rw[e1,e2,e3]
   simp only[List.length_append,za6,zbd,zbQ,heC,List.flatMap_nil,List.length_nil]
   omega
theorem zd2 {sb:ByteArray} (h:(decS (strL sb)).2=0):Fit (decS (strL sb)).1 sb.size:=by
 obtain⟨h1,h2⟩:=zl5 (zbN sb) h
 exact zlt h1 _ (by rw[←h2,zX])
theorem zfd {m:Mg} {n:Nat} (h:Fit m.pure n):Small m:=⟨h.rs,fun x hx r hr=>h.he x.pure (List.mem_map_of_mem hx) r hr⟩
def newC (N:Int) (e:Ev):List Ev:=e::(if(decS (strL e.s)).2=0 then ownC N (decS (strL e.s)).1 else[])
def claimsC (N:Int) (sb:ByteArray):List Ev:=if N<0∨64<N then[]else if(decS (strL sb)).2≠0 then[]else ownC N (decS (strL sb)).1++(decS (strL sb)).1.ne.flatMap (newC N)
theorem zku (N:Int) (e:Ev):(newC N e).length≤10001:=by
 unfold newC
 rw[List.length_cons]
 split
 ·rename_i h
  have:=(zd2 h).le N
  omega
 ·simp
theorem zdT (N:Int) (l:List Ev):(l.flatMap (newC N)).length≤l.length*10001:=by
  induction l with
  |nil=>simp
  |cons a l ih=>
    have:=zku N a
    simp only[List.flatMap_cons,List.length_append,List.length_cons]
    omega
theorem zlp {α β:Type} {f:α→List β} {xs:List α} {k:Nat} (hk:k<xs.length):(xs.take (k+1)).flatMap f=(xs.take k).flatMap f++f xs[k]:=by
 have e:xs.take (k+1)=xs.take k++[xs[k]]:=by rw[List.take_add_one,List.getElem?_eq_getElem hk];rfl
 rw[e,List.flatMap_append]
 simp
end Go.Proofs.YtcbpbkefggekmaaGreatDoor
