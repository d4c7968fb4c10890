/- messages, read: kind 5; messages, read: kind 6; messages, read: kind 7; messages, read: kind 8; the program's Decode; no reader tells 140 (the sender's error);  -/
import Derived.Test.YtcbpbkefggekmaaGreatDoorJS0
import Derived.Test.YtcbpbkefggekmaaGreatDoorJS13
import Derived.Test.YtcbpbkefggekmaaGreatDoorJS4
import Derived.Test.YtcbpbkefggekmaaGreatDoorJS11
import Derived.Test.YtcbpbkefggekmaaGreatDoorJS3
import Derived.Test.YtcbpbkefggekmaaGreatDoorJS2
import Derived.Laws.MakeOwn
set_option maxHeartbeats 2000000
set_option maxRecDepth 100000
open Go.Proofs.Tryz
namespace Go.Proofs.YtcbpbkefggekmaaGreatDoor
open Go.RowKit
open Sha Tal
set_option linter.unusedVariables false
set_option linter.unusedSimpArgs false
theorem zjD (Q R:Nat) (s:Rst) (w:World) (h:RS w Q R s) (hl:s.1.length≤40000) (hk:(kiS 8 s).1=5):Calls prog 66 #[.pointer (some ⟨Q,0,none⟩)] w fun en w'=>∃m:Mg,en=.returned (.agg m.ms.cells.toArray)∧m.pure=(mg5 (kiS 8 s).2).1∧m.ok∧m.At w'∧m.Bk (fun b=>w.heap.size≤b)∧RS w' Q R (mg5 (kiS 8 s).2).2∧Kept w R Q w':=by
 have hRw:=h.st.1.1
 have hQw:=h.mr.lt
 have ck:=fun w0 h0=>kindRS Q R 8 s w0 h0
 have l0:=za9 8 s
 unfold mg5
 generalize kiS 8 s=p_ at ck l0 hk ⊢
 obtain⟨k,s0⟩:=p_
 simp only at ck l0 hk ⊢
 subst hk
 have c_a:=fun w0 h0=>numRS Q R 1048576 s0 w0 h0
 have l_a:(nuS 1048576 s0).2.1.length≤s0.1.length:=zal _ _
 generalize nuS 1048576 s0=p_ at c_a l_a ⊢
 obtain⟨v_a,s_a⟩:=p_
 simp only at c_a l_a ⊢
 have c_b:=fun w0 h0=>digRS Q R s_a w0 h0 (by omega)
 have l_b:(dgS s_a).2.1.length≤s_a.1.length:=zmv _
 have ok_b:=fun hb=>zmu s_a hb
 generalize dgS s_a=p_ at c_b l_b ok_b ⊢
 obtain⟨v_b,s_b⟩:=p_
 simp only at c_b l_b ok_b ⊢
 obtain⟨zc,hzl,hzr⟩:∃z:List Value,z.length=119∧∀w:World,(zeroValue 52).run prog w=.ok (.agg z.toArray) w:=⟨_,(Ms.plain_ok 0 0 0 Vt.zero_ok zt zx).len,zeroM⟩
 have hbk:=zao 5
 have hql:=(zQ 5).len
 have hq1:=(zQ 5).one
 have hiq:(prog.info? 52).map (·.size)=some (Ms.plain 5 0 0 Vt.zero zd).cells.length:=by rw[hql];exact iszM
 have hk0:∀(w':World) b,w'.rangeAt b 0 (Ms.plain 5 0 0 Vt.zero zd).cells→w'.cell? ⟨b,0,none⟩=some (.int .i64 5):=fun w' b h=>((zQ 5).at h).k
 obtain⟨qk,hqk⟩:∃q,Hid ((Ms.plain 5 0 0 Vt.zero zd).cells=q):=⟨_,hide rfl⟩
 simp only[hqk.out]at hbk hql hq1 hiq hk0
 obtain⟨hB1,hr1,hs1⟩:=zA w zc 52
 have ht1:=zn w zc.toArray 52 (n:=119) (by simp[hzl])
 go_enter func66,ntmps66
 go_upto_region 0 with fail
 refine pl_b ?_
 refine pl_r 2 (.pointer (some ⟨w.heap.size,0,none⟩)) (w.alloc (.cells zc.toArray 52)) (zr rfl (hzr _)) ?_
 refine zb ?_
 obtain⟨W1,hW1⟩:∃W,w.alloc (.cells zc.toArray 52)=W:=⟨_,rfl⟩
 rw[hW1]at hB1 hr1 hs1 ht1 ⊢
 clear hW1 hr1
 have S1:=h.below hB1
 go_upto_region 1 with fail
 refine pl_b ?_
 refine pl_a 4 ?_
 refine pl_c 5 ?_
 refine(ck W1 S1).mono ?_
 rintro _ w2 ⟨rfl,S2,k2⟩
 refine⟨_,rfl,?_⟩
 simp only[nz]
 refine pl_v 6 (.agg qk.toArray) (zT (parts:=[(0,.tmp 5)]) rfl rfl (hbk _)) ?_
 refine pl_r 3 (.pointer (some ⟨w2.heap.size,0,none⟩)) (w2.alloc (.cells zc.toArray 52)) (zr rfl (hzr _)) ?_
 refine pl_s ((w2.alloc (.cells zc.toArray 52)).setCells w2.heap.size 0 qk) (zo (cs:=qk.toArray) rfl rfl rfl (zn _ _ _ (by simp[hzl,hql])) (by simpa using hiq) (zp hq1)) ?_
 refine zb ?_
 obtain⟨hF1,hF2,hF3,-⟩:=zq w2 zc.toArray 52 qk (by simp[hzl,hql])
 have hF4:=World.there_setCells (zn w2 zc.toArray 52 (n:=119) (by simp[hzl])) w2.heap.size 0 qk
 obtain⟨w3,hw3⟩:∃W,(w2.alloc (.cells zc.toArray 52)).setCells w2.heap.size 0 qk=W:=⟨_,rfl⟩
 rw[hw3]at hF1 hF2 hF3 hF4 ⊢
 clear hw3
 have hc0:=hk0 _ _ hF1
 have k3:Kept w R Q w3:=(((Kept.refl w R Q).below hB1).trans k2).below hF2
 have z2:=k2.size
 rw[←hqk.out]at hF1
 have V3:MV w Q R w.heap.size w2.heap.size 119 (Ms.plain 5 0 0 Vt.zero zd).cells s0 w3:=⟨hF1,hF4,zg (zY ht1 (k2.block _ hs1 (by omega) (by omega))) hF2 (by omega),k3,S2.below hF2,by have:=hF2.size;omega,by omega,Nat.le_refl _,by have:=hB1.size;omega,by omega,hRw,hQw⟩
 have hww:w.heap.size<w2.heap.size:=by omega
 clear hF1 hF2 hF4 ht1 hB1 S1 S2 k2 k3 hk0 hbk hql hq1 hiq hqk h ck hzr hzl
 go_upto_region 2 with fail
 refine pl_b ?_
 refine pl_a 7 ?_
 refine pl_v 8 (.int .i64 5) (zf rfl rfl hc0 underlying3 rfl) ?_
 refine zb ?_
 clear hc0
 go_upto_region 14 with fail
 refine pl_b ?_
 refine pl_a 70 ?_
 refine pl_a 71 ?_
 refine pl_a 72 ?_
 refine pl_v 73 (.pointer (some ⟨R,0,none⟩)) (zf rfl rfl V3.rs.mr.c0 underlying98 rfl) ?_
 refine pl_c 74 ?_
 refine(c_a w3 V3.rs).mono ?_
 rintro _ w5 ⟨rfl,S5,k5⟩
 refine⟨_,rfl,?_⟩
 simp only[nz]
 refine pl_a 75 ?_
 refine pl_c 76 ?_
 refine(c_b w5 S5).mono ?_
 rintro _ w6 ⟨rfl,S6,k6⟩
 refine⟨_,rfl,?_⟩
 simp only[nz]
 refine pl_a 77 ?_
 have hd:=ok_b S5.st.bs
 have V6:=(V3.on k5 S5).on k6 S6
 have Va:=V6.set 1 [.int .i64 v_a] (zbi v_a V6.row (V6.part 1 1 (by decide)))
 refine pl_s (w6.setCells w2.heap.size 1 [.int .i64 v_a]) (zX (n:=119) rfl rfl rfl V6.box (by decide) iszI rfl rfl) ?_
 obtain⟨wd,hwd⟩:∃W,w6.setCells w2.heap.size 1 [.int .i64 v_a]=W:=⟨_,rfl⟩
 rw[hwd]at Va ⊢
 clear hwd
 refine pl_a 78 ?_
 have Ve:=Va.set 48 (v8 v_b) (zga v_b hd.1 zt Vt.zero_ok Va.row (Va.part 48 32 (by decide)))
 have hdl:(v8 v_b).length=32:=by rw[v8_length];exact hd.1
 refine pl_s (wd.setCells w2.heap.size 48 (v8 v_b)) (zo (cs:=(v8 v_b).toArray) rfl rfl rfl (by simpa [hdl]using Va.part 48 32 (by decide)) (by simpa [hdl]using iszD) (zp (zy v_b))) ?_
 refine zb ?_
 obtain⟨we,hwe⟩:∃W,wd.setCells w2.heap.size 48 (v8 v_b)=W:=⟨_,rfl⟩
 rw[hwe]at Ve ⊢
 clear hwe
 clear Va V6 V3 S5 S6 k5 k6
 have rpc:=Ve.row
 have hmo:Mg.ok ⟨5,v_a,0,0,0,false,⟨none,0,[]⟩,Vt.zero,0,0,0,⟨none,0,[]⟩,⟨none,0,[]⟩,v_b,Vt.zero,⟨none,0,[]⟩,⟨#[]⟩,⟨none,0,[]⟩⟩:=⟨Vt.zero_ok,Vt.zero_ok,hd.1,hd.2⟩
 have hpl:(Mg.ms ⟨5,v_a,0,0,0,false,⟨none,0,[]⟩,Vt.zero,0,0,0,⟨none,0,[]⟩,⟨none,0,[]⟩,v_b,Vt.zero,⟨none,0,[]⟩,⟨#[]⟩,⟨none,0,[]⟩⟩).cells.length=119:=hmo.ms.len
 have hp1:=hmo.ms.one
 have hip:(prog.info? 52).map (·.size)=some (Mg.ms ⟨5,v_a,0,0,0,false,⟨none,0,[]⟩,Vt.zero,0,0,0,⟨none,0,[]⟩,⟨none,0,[]⟩,v_b,Vt.zero,⟨none,0,[]⟩,⟨#[]⟩,⟨none,0,[]⟩⟩).cells.length:=by rw[hpl];exact iszM
 have rpc:we.rangeAt w2.heap.size 0 (Mg.ms ⟨5,v_a,0,0,0,false,⟨none,0,[]⟩,Vt.zero,0,0,0,⟨none,0,[]⟩,⟨none,0,[]⟩,v_b,Vt.zero,⟨none,0,[]⟩,⟨#[]⟩,⟨none,0,[]⟩⟩).cells:=rpc
 obtain⟨pc,hpc⟩:∃p,Hid ((Mg.ms ⟨5,v_a,0,0,0,false,⟨none,0,[]⟩,Vt.zero,0,0,0,⟨none,0,[]⟩,⟨none,0,[]⟩,v_b,Vt.zero,⟨none,0,[]⟩,⟨#[]⟩,⟨none,0,[]⟩⟩).cells=p):=⟨_,hide rfl⟩
 simp only[hpc.out]at hpl hip hp1 rpc
 go_upto_region 22 with fail
 refine pl_b ?_
 refine pl_v 121 (.agg pc.toArray) (zm rfl rfl rpc underlying52 rfl hip) ?_
 refine pl_s (we.setCells w.heap.size 0 pc) (zo (cs:=pc.toArray) rfl rfl rfl (by simpa [hpl]using Ve.ans) (by simpa using hip) (zp hp1)) ?_
 refine zb ?_
 have hlow:Below w.heap.size we (we.setCells w.heap.size 0 pc):=zi (Nat.le_refl _) pc 0 _ (Below.refl _ we)
 have hrs:=run_loadVar_mid (P:=prog) (we.setCells w.heap.size 0 pc) w.heap.size 0 52 pc _ (World.rangeAt_setCells_same we w.heap.size 0 pc (by rw[hpl];exact Ve.ans)) underlying52 rfl hip
 have HF:Hid (∃m:Mg,Ending.returned (.agg pc.toArray)=.returned (.agg m.ms.cells.toArray)∧m.pure=(⟨5,v_a,0,0,0,false,[],Vt.zero,0,0,0,[],[],v_b,Vt.zero,[],⟨#[]⟩,[]⟩:Mp)∧m.ok∧m.At (we.setCells w.heap.size 0 pc)∧m.Bk (fun b=>w.heap.size≤b)∧RS (we.setCells w.heap.size 0 pc) Q R s_b∧Kept w R Q (we.setCells w.heap.size 0 pc)):=hide ⟨⟨5,v_a,0,0,0,false,⟨none,0,[]⟩,Vt.zero,0,0,0,⟨none,0,[]⟩,⟨none,0,[]⟩,v_b,Vt.zero,⟨none,0,[]⟩,⟨#[]⟩,⟨none,0,[]⟩⟩,by rw[hpc.out],rfl,hmo,zaW RowsAt.none zan RowsAt.none RowsAt.none RowsAt.none,⟨zD,zD,za8,zD,zD,zD⟩,Ve.rs.low hlow hQw,Ve.kept.low hlow (Nat.le_refl _)⟩
 clear Ve hlow rpc hpc hmo
 go_wp2_with fail
 refine bodyPost_ret (v:=.agg pc.toArray) ?_ rfl ?_
 ·simp[results,results66,Act.put,asAddr,hrs]
 ·exact HF.out
theorem zjC (Q R:Nat) (s:Rst) (w:World) (h:RS w Q R s) (hl:s.1.length≤40000) (hk:(kiS 8 s).1=6):Calls prog 66 #[.pointer (some ⟨Q,0,none⟩)] w fun en w'=>∃m:Mg,en=.returned (.agg m.ms.cells.toArray)∧m.pure=(mg6 (kiS 8 s).2).1∧m.ok∧m.At w'∧m.Bk (fun b=>w.heap.size≤b)∧RS w' Q R (mg6 (kiS 8 s).2).2∧Kept w R Q w':=by
 have hRw:=h.st.1.1
 have hQw:=h.mr.lt
 have ck:=fun w0 h0=>kindRS Q R 8 s w0 h0
 have l0:=za9 8 s
 unfold mg6
 generalize kiS 8 s=p_ at ck l0 hk ⊢
 obtain⟨k,s0⟩:=p_
 simp only at ck l0 hk ⊢
 subst hk
 have c_a:=fun w0 h0=>numRS Q R 1048576 s0 w0 h0
 have l_a:(nuS 1048576 s0).2.1.length≤s0.1.length:=zal _ _
 generalize nuS 1048576 s0=p_ at c_a l_a ⊢
 obtain⟨v_a,s_a⟩:=p_
 simp only at c_a l_a ⊢
 have c_b:=fun w0 h0=>numRS Q R 1099511627776 s_a w0 h0
 have l_b:(nuS 1099511627776 s_a).2.1.length≤s_a.1.length:=zal _ _
 generalize nuS 1099511627776 s_a=p_ at c_b l_b ⊢
 obtain⟨v_b,s_b⟩:=p_
 simp only at c_b l_b ⊢
 obtain⟨zc,hzl,hzr⟩:∃z:List Value,z.length=119∧∀w:World,(zeroValue 52).run prog w=.ok (.agg z.toArray) w:=⟨_,(Ms.plain_ok 0 0 0 Vt.zero_ok zt zx).len,zeroM⟩
 have hbk:=zao 6
 have hql:=(zQ 6).len
 have hq1:=(zQ 6).one
 have hiq:(prog.info? 52).map (·.size)=some (Ms.plain 6 0 0 Vt.zero zd).cells.length:=by rw[hql];exact iszM
 have hk0:∀(w':World) b,w'.rangeAt b 0 (Ms.plain 6 0 0 Vt.zero zd).cells→w'.cell? ⟨b,0,none⟩=some (.int .i64 6):=fun w' b h=>((zQ 6).at h).k
 obtain⟨qk,hqk⟩:∃q,Hid ((Ms.plain 6 0 0 Vt.zero zd).cells=q):=⟨_,hide rfl⟩
 simp only[hqk.out]at hbk hql hq1 hiq hk0
 obtain⟨hB1,hr1,hs1⟩:=zA w zc 52
 have ht1:=zn w zc.toArray 52 (n:=119) (by simp[hzl])
 go_enter func66,ntmps66
 go_upto_region 0 with fail
 refine pl_b ?_
 refine pl_r 2 (.pointer (some ⟨w.heap.size,0,none⟩)) (w.alloc (.cells zc.toArray 52)) (zr rfl (hzr _)) ?_
 refine zb ?_
 obtain⟨W1,hW1⟩:∃W,w.alloc (.cells zc.toArray 52)=W:=⟨_,rfl⟩
 rw[hW1]at hB1 hr1 hs1 ht1 ⊢
 clear hW1 hr1
 have S1:=h.below hB1
 go_upto_region 1 with fail
 refine pl_b ?_
 refine pl_a 4 ?_
 refine pl_c 5 ?_
 refine(ck W1 S1).mono ?_
 rintro _ w2 ⟨rfl,S2,k2⟩
 refine⟨_,rfl,?_⟩
 simp only[nz]
 refine pl_v 6 (.agg qk.toArray) (zT (parts:=[(0,.tmp 5)]) rfl rfl (hbk _)) ?_
 refine pl_r 3 (.pointer (some ⟨w2.heap.size,0,none⟩)) (w2.alloc (.cells zc.toArray 52)) (zr rfl (hzr _)) ?_
 refine pl_s ((w2.alloc (.cells zc.toArray 52)).setCells w2.heap.size 0 qk) (zo (cs:=qk.toArray) rfl rfl rfl (zn _ _ _ (by simp[hzl,hql])) (by simpa using hiq) (zp hq1)) ?_
 refine zb ?_
 obtain⟨hF1,hF2,hF3,-⟩:=zq w2 zc.toArray 52 qk (by simp[hzl,hql])
 have hF4:=World.there_setCells (zn w2 zc.toArray 52 (n:=119) (by simp[hzl])) w2.heap.size 0 qk
 obtain⟨w3,hw3⟩:∃W,(w2.alloc (.cells zc.toArray 52)).setCells w2.heap.size 0 qk=W:=⟨_,rfl⟩
 rw[hw3]at hF1 hF2 hF3 hF4 ⊢
 clear hw3
 have hc0:=hk0 _ _ hF1
 have k3:Kept w R Q w3:=(((Kept.refl w R Q).below hB1).trans k2).below hF2
 have z2:=k2.size
 rw[←hqk.out]at hF1
 have V3:MV w Q R w.heap.size w2.heap.size 119 (Ms.plain 6 0 0 Vt.zero zd).cells s0 w3:=⟨hF1,hF4,zg (zY ht1 (k2.block _ hs1 (by omega) (by omega))) hF2 (by omega),k3,S2.below hF2,by have:=hF2.size;omega,by omega,Nat.le_refl _,by have:=hB1.size;omega,by omega,hRw,hQw⟩
 have hww:w.heap.size<w2.heap.size:=by omega
 clear hF1 hF2 hF4 ht1 hB1 S1 S2 k2 k3 hk0 hbk hql hq1 hiq hqk h ck hzr hzl
 go_upto_region 2 with fail
 refine pl_b ?_
 refine pl_a 7 ?_
 refine pl_v 8 (.int .i64 6) (zf rfl rfl hc0 underlying3 rfl) ?_
 refine zb ?_
 clear hc0
 go_upto_region 16 with fail
 have V8:=V3.drew
 refine zw (S:=(fun W'=>W'.cell? ⟨Q,0,none⟩=some (.pointer (some ⟨R,0,none⟩)))) 14 rfl (by kernel_rfl) ?_
 obtain⟨w8,hw8⟩:∃W,w3.drew=W:=⟨_,rfl⟩
 rw[hw8]at V8 ⊢
 clear hw8 V3
 have hS:(fun W'=>W'.cell? ⟨Q,0,none⟩=some (.pointer (some ⟨R,0,none⟩))) w8:=V8.rs.mr.c0
 refine hs_a 0 81 hS ?_
 refine hs_a 1 82 hS ?_
 refine hs_a 2 83 hS ?_
 refine hs_v 3 84 (.pointer (some ⟨R,0,none⟩)) rfl (fun w' hw=>zf rfl rfl hw underlying98 rfl) hS ?_
 refine hs_a 5 86 hS ?_
 refine hs_a 6 87 hS ?_
 refine hs_a 7 88 hS ?_
 refine hs_v 8 89 (.pointer (some ⟨R,0,none⟩)) rfl (fun w' hw=>zf rfl rfl hw underlying98 rfl) hS ?_
 refine hs_c 4 85 ?_
 refine(c_a w8 V8.rs).mono ?_
 rintro _ w5 ⟨rfl,S5,k5⟩
 have hS:(fun W'=>W'.cell? ⟨Q,0,none⟩=some (.pointer (some ⟨R,0,none⟩))) w5:=S5.mr.c0
 refine⟨_,rfl,hS,?_⟩
 simp only[nz]
 refine hs_a 10 91 hS ?_
 refine hs_c 9 90 ?_
 refine(c_b w5 S5).mono ?_
 rintro _ w6 ⟨rfl,S6,k6⟩
 have hS:(fun W'=>W'.cell? ⟨Q,0,none⟩=some (.pointer (some ⟨R,0,none⟩))) w6:=S6.mr.c0
 refine⟨_,rfl,hS,?_⟩
 simp only[nz]
 have V_0:=((V8.on k5 S5).on k6 S6)
 have V_1:=V_0.set 1 [.int .i64 v_a] (zbi v_a V_0.row (V_0.part 1 1 (by decide)))
 refine zG (i:=11) (w':=w6.setCells w2.heap.size 1 [.int .i64 v_a]) rfl (by kernel_rfl) (by rfl) (zX (n:=119) rfl rfl rfl V_0.box (by decide) iszI rfl rfl) rfl V_1.rs.mr.c0 ?_
 obtain⟨w_11,hw_11⟩:∃W,w6.setCells w2.heap.size 1 [.int .i64 v_a]=W:=⟨_,rfl⟩
 rw[hw_11]at V_1 ⊢
 clear hw_11
 have hS:(fun W'=>W'.cell? ⟨Q,0,none⟩=some (.pointer (some ⟨R,0,none⟩))) w_11:=V_1.rs.mr.c0
 refine hs_a 12 92 hS ?_
 have V_2:=V_1.set 4 [.int .i64 v_b] (zcW v_b V_1.row (V_1.part 4 1 (by decide)))
 refine zG (i:=13) (w':=w_11.setCells w2.heap.size 4 [.int .i64 v_b]) rfl (by kernel_rfl) (by rfl) (zX (n:=119) rfl rfl rfl V_1.box (by decide) iszI rfl rfl) rfl V_2.rs.mr.c0 ?_
 obtain⟨w_13,hw_13⟩:∃W,w_11.setCells w2.heap.size 4 [.int .i64 v_b]=W:=⟨_,rfl⟩
 rw[hw_13]at V_2 ⊢
 clear hw_13
 have hS:(fun W'=>W'.cell? ⟨Q,0,none⟩=some (.pointer (some ⟨R,0,none⟩))) w_13:=V_2.rs.mr.c0
 refine zv (by kernel_rfl) ?_
 clear hS V8 S5 k5 S6 k6 V_0 V_1 c_a c_b
 have Ve:=V_2
 have rpc:=Ve.row
 have hmo:Mg.ok ⟨6,v_a,0,0,v_b,false,⟨none,0,[]⟩,Vt.zero,0,0,0,⟨none,0,[]⟩,⟨none,0,[]⟩,zd,Vt.zero,⟨none,0,[]⟩,⟨#[]⟩,⟨none,0,[]⟩⟩:=⟨Vt.zero_ok,Vt.zero_ok,zt,zx⟩
 have hpl:(Mg.ms ⟨6,v_a,0,0,v_b,false,⟨none,0,[]⟩,Vt.zero,0,0,0,⟨none,0,[]⟩,⟨none,0,[]⟩,zd,Vt.zero,⟨none,0,[]⟩,⟨#[]⟩,⟨none,0,[]⟩⟩).cells.length=119:=hmo.ms.len
 have hp1:=hmo.ms.one
 have hip:(prog.info? 52).map (·.size)=some (Mg.ms ⟨6,v_a,0,0,v_b,false,⟨none,0,[]⟩,Vt.zero,0,0,0,⟨none,0,[]⟩,⟨none,0,[]⟩,zd,Vt.zero,⟨none,0,[]⟩,⟨#[]⟩,⟨none,0,[]⟩⟩).cells.length:=by rw[hpl];exact iszM
 have rpc:w_13.rangeAt w2.heap.size 0 (Mg.ms ⟨6,v_a,0,0,v_b,false,⟨none,0,[]⟩,Vt.zero,0,0,0,⟨none,0,[]⟩,⟨none,0,[]⟩,zd,Vt.zero,⟨none,0,[]⟩,⟨#[]⟩,⟨none,0,[]⟩⟩).cells:=rpc
 obtain⟨pc,hpc⟩:∃p,Hid ((Mg.ms ⟨6,v_a,0,0,v_b,false,⟨none,0,[]⟩,Vt.zero,0,0,0,⟨none,0,[]⟩,⟨none,0,[]⟩,zd,Vt.zero,⟨none,0,[]⟩,⟨#[]⟩,⟨none,0,[]⟩⟩).cells=p):=⟨_,hide rfl⟩
 simp only[hpc.out]at hpl hip hp1 rpc
 go_upto_region 22 with fail
 refine pl_b ?_
 refine pl_v 121 (.agg pc.toArray) (zm rfl rfl rpc underlying52 rfl hip) ?_
 refine pl_s (w_13.setCells w.heap.size 0 pc) (zo (cs:=pc.toArray) rfl rfl rfl (by simpa [hpl]using Ve.ans) (by simpa using hip) (zp hp1)) ?_
 refine zb ?_
 have hlow:Below w.heap.size w_13 (w_13.setCells w.heap.size 0 pc):=zi (Nat.le_refl _) pc 0 _ (Below.refl _ w_13)
 have hrs:=run_loadVar_mid (P:=prog) (w_13.setCells w.heap.size 0 pc) w.heap.size 0 52 pc _ (World.rangeAt_setCells_same w_13 w.heap.size 0 pc (by rw[hpl];exact Ve.ans)) underlying52 rfl hip
 have HF:Hid (∃m:Mg,Ending.returned (.agg pc.toArray)=.returned (.agg m.ms.cells.toArray)∧m.pure=(⟨6,v_a,0,0,v_b,false,[],Vt.zero,0,0,0,[],[],zd,Vt.zero,[],⟨#[]⟩,[]⟩:Mp)∧m.ok∧m.At (w_13.setCells w.heap.size 0 pc)∧m.Bk (fun b=>w.heap.size≤b)∧RS (w_13.setCells w.heap.size 0 pc) Q R s_b∧Kept w R Q (w_13.setCells w.heap.size 0 pc)):=hide ⟨⟨6,v_a,0,0,v_b,false,⟨none,0,[]⟩,Vt.zero,0,0,0,⟨none,0,[]⟩,⟨none,0,[]⟩,zd,Vt.zero,⟨none,0,[]⟩,⟨#[]⟩,⟨none,0,[]⟩⟩,by rw[hpc.out],rfl,hmo,zaW RowsAt.none zan RowsAt.none RowsAt.none RowsAt.none,⟨zD,zD,za8,zD,zD,zD⟩,Ve.rs.low hlow hQw,Ve.kept.low hlow (Nat.le_refl _)⟩
 clear Ve hlow rpc hpc hmo V_2
 go_wp2_with fail
 refine bodyPost_ret (v:=.agg pc.toArray) ?_ rfl ?_
 ·simp[results,results66,Act.put,asAddr,hrs]
 ·exact HF.out
theorem zjB (Q R:Nat) (s:Rst) (w:World) (h:RS w Q R s) (hl:s.1.length≤40000) (hk:(kiS 8 s).1=7):Calls prog 66 #[.pointer (some ⟨Q,0,none⟩)] w fun en w'=>∃m:Mg,en=.returned (.agg m.ms.cells.toArray)∧m.pure=(mg7 (kiS 8 s).2).1∧m.ok∧m.At w'∧m.Bk (fun b=>w.heap.size≤b)∧RS w' Q R (mg7 (kiS 8 s).2).2∧Kept w R Q w':=by
 have hRw:=h.st.1.1
 have hQw:=h.mr.lt
 have ck:=fun w0 h0=>kindRS Q R 8 s w0 h0
 have l0:=za9 8 s
 unfold mg7
 generalize kiS 8 s=p_ at ck l0 hk ⊢
 obtain⟨k,s0⟩:=p_
 simp only at ck l0 hk ⊢
 subst hk
 have c_a:=fun w0 h0=>bgetS Q R s0 w0 h0 (by omega)
 have l_a:(baS s0).2.1.length≤s0.1.length:=zdr _
 generalize baS s0=p_ at c_a l_a ⊢
 obtain⟨⟨q_a,rs_a⟩,s_a⟩:=p_
 simp only at c_a l_a ⊢
 have c_b:=fun w0 h0=>rcertS Q R s_a w0 h0 (by omega)
 have l_b:(ceS s_a).2.1.length≤s_a.1.length:=zhA _
 generalize ceS s_a=p_ at c_b l_b ⊢
 obtain⟨⟨vt_b,sg_b⟩,s_b⟩:=p_
 simp only at c_b l_b ⊢
 obtain⟨zc,hzl,hzr⟩:∃z:List Value,z.length=119∧∀w:World,(zeroValue 52).run prog w=.ok (.agg z.toArray) w:=⟨_,(Ms.plain_ok 0 0 0 Vt.zero_ok zt zx).len,zeroM⟩
 have hbk:=zao 7
 have hql:=(zQ 7).len
 have hq1:=(zQ 7).one
 have hiq:(prog.info? 52).map (·.size)=some (Ms.plain 7 0 0 Vt.zero zd).cells.length:=by rw[hql];exact iszM
 have hk0:∀(w':World) b,w'.rangeAt b 0 (Ms.plain 7 0 0 Vt.zero zd).cells→w'.cell? ⟨b,0,none⟩=some (.int .i64 7):=fun w' b h=>((zQ 7).at h).k
 obtain⟨qk,hqk⟩:∃q,Hid ((Ms.plain 7 0 0 Vt.zero zd).cells=q):=⟨_,hide rfl⟩
 simp only[hqk.out]at hbk hql hq1 hiq hk0
 obtain⟨hB1,hr1,hs1⟩:=zA w zc 52
 have ht1:=zn w zc.toArray 52 (n:=119) (by simp[hzl])
 go_enter func66,ntmps66
 go_upto_region 0 with fail
 refine pl_b ?_
 refine pl_r 2 (.pointer (some ⟨w.heap.size,0,none⟩)) (w.alloc (.cells zc.toArray 52)) (zr rfl (hzr _)) ?_
 refine zb ?_
 obtain⟨W1,hW1⟩:∃W,w.alloc (.cells zc.toArray 52)=W:=⟨_,rfl⟩
 rw[hW1]at hB1 hr1 hs1 ht1 ⊢
 clear hW1 hr1
 have S1:=h.below hB1
 go_upto_region 1 with fail
 refine pl_b ?_
 refine pl_a 4 ?_
 refine pl_c 5 ?_
 refine(ck W1 S1).mono ?_
 rintro _ w2 ⟨rfl,S2,k2⟩
 refine⟨_,rfl,?_⟩
 simp only[nz]
 refine pl_v 6 (.agg qk.toArray) (zT (parts:=[(0,.tmp 5)]) rfl rfl (hbk _)) ?_
 refine pl_r 3 (.pointer (some ⟨w2.heap.size,0,none⟩)) (w2.alloc (.cells zc.toArray 52)) (zr rfl (hzr _)) ?_
 refine pl_s ((w2.alloc (.cells zc.toArray 52)).setCells w2.heap.size 0 qk) (zo (cs:=qk.toArray) rfl rfl rfl (zn _ _ _ (by simp[hzl,hql])) (by simpa using hiq) (zp hq1)) ?_
 refine zb ?_
 obtain⟨hF1,hF2,hF3,-⟩:=zq w2 zc.toArray 52 qk (by simp[hzl,hql])
 have hF4:=World.there_setCells (zn w2 zc.toArray 52 (n:=119) (by simp[hzl])) w2.heap.size 0 qk
 obtain⟨w3,hw3⟩:∃W,(w2.alloc (.cells zc.toArray 52)).setCells w2.heap.size 0 qk=W:=⟨_,rfl⟩
 rw[hw3]at hF1 hF2 hF3 hF4 ⊢
 clear hw3
 have hc0:=hk0 _ _ hF1
 have k3:Kept w R Q w3:=(((Kept.refl w R Q).below hB1).trans k2).below hF2
 have z2:=k2.size
 rw[←hqk.out]at hF1
 have V3:MV w Q R w.heap.size w2.heap.size 119 (Ms.plain 7 0 0 Vt.zero zd).cells s0 w3:=⟨hF1,hF4,zg (zY ht1 (k2.block _ hs1 (by omega) (by omega))) hF2 (by omega),k3,S2.below hF2,by have:=hF2.size;omega,by omega,Nat.le_refl _,by have:=hB1.size;omega,by omega,hRw,hQw⟩
 have hww:w.heap.size<w2.heap.size:=by omega
 clear hF1 hF2 hF4 ht1 hB1 S1 S2 k2 k3 hk0 hbk hql hq1 hiq hqk h ck hzr hzl
 go_upto_region 2 with fail
 refine pl_b ?_
 refine pl_a 7 ?_
 refine pl_v 8 (.int .i64 7) (zf rfl rfl hc0 underlying3 rfl) ?_
 refine zb ?_
 clear hc0
 go_upto_region 18 with fail
 refine pl_b ?_
 refine pl_a 95 ?_
 refine pl_a 96 ?_
 refine pl_a 97 ?_
 refine pl_v 98 (.pointer (some ⟨R,0,none⟩)) (zf rfl rfl V3.rs.mr.c0 underlying98 rfl) ?_
 refine pl_c 99 ?_
 refine(c_a w3 V3.rs).mono ?_
 rintro _ w5 ⟨x,rfl,hx,hA,hB,S5,k5⟩
 refine⟨_,rfl,?_⟩
 simp only[nz]
 refine pl_a 100 ?_
 refine pl_c 101 ?_
 refine(c_b w5 S5).mono ?_
 rintro _ w6 ⟨y,rfl,hy,hC,hD,hvt,S6,k6⟩
 refine⟨_,rfl,?_⟩
 simp only[nz]
 refine pl_a 102 ?_
 have lb:=V3.lb
 have la:=V3.la
 have na:=V3.kept.size
 have z5:=k5.size
 have V6:=(V3.on k5 S5).on k6 S6
 have hA5:x.At RqE w6:=hA.kept k6 (n:=w3.heap.size) (by omega) (by omega) hB (fun b hb=>hb.1)
 have Va:=V6.set 5 [.bool q_a,x.val] (zcX q_a x.val V6.row (V6.part 5 2 (by decide)))
 refine pl_s (w6.setCells w2.heap.size 5 [.bool q_a,x.val]) (zo (cs:=#[.bool q_a,x.val]) rfl rfl rfl (V6.part 5 2 (by decide)) iszBa (by simp[Value.oneCell',Sl.val])) ?_
 have hA6:=hA5.put (B:=w2.heap.size) (o:=5) (vs:=[.bool q_a,x.val]) hB (fun b hb=>by omega)
 have hC6:=hC.put (B:=w2.heap.size) (o:=5) (vs:=[.bool q_a,x.val]) hD (fun b hb=>by omega)
 obtain⟨wd,hwd⟩:∃W,w6.setCells w2.heap.size 5 [.bool q_a,x.val]=W:=⟨_,rfl⟩
 rw[hwd]at Va hA6 hC6 ⊢
 clear hwd
 refine pl_a 103 ?_
 have hcl:(certL vt_b y).length=37:=by have:=hvt.len;simp[certL];omega
 have hc1:∀v∈certL vt_b y,v.oneCell'=true:=fun v hv=>by
  rcases List.mem_append.1 hv with g|g
  ·exact Vt.one vt_b v g
  ·rw[List.mem_singleton.1 g];rfl
 have Ve:=Va.set 80 (certL vt_b y) (zgb vt_b y.val hvt Vt.zero_ok zt Vt.zero_ok Va.row (Va.part 80 37 (by decide)))
 refine pl_s (wd.setCells w2.heap.size 80 (certL vt_b y)) (zo (cs:=(certL vt_b y).toArray) rfl rfl rfl (by simpa [hcl]using Va.part 80 37 (by decide)) (by simpa [hcl]using iszCe) (zp hc1)) ?_
 refine zb ?_
 have hA7:=hA6.put (B:=w2.heap.size) (o:=80) (vs:=certL vt_b y) hB (fun b hb=>by omega)
 have hC7:=hC6.put (B:=w2.heap.size) (o:=80) (vs:=certL vt_b y) hD (fun b hb=>by omega)
 obtain⟨we,hwe⟩:∃W,wd.setCells w2.heap.size 80 (certL vt_b y)=W:=⟨_,rfl⟩
 rw[hwe]at Ve hA7 hC7 ⊢
 clear hwe
 clear Va V6 V3 S5 S6 k5 k6 hA hC hA5 hA6 hC6
 have rpc:=Ve.row
 have hmo:Mg.ok ⟨7,0,0,0,0,q_a,x,Vt.zero,0,0,0,⟨none,0,[]⟩,⟨none,0,[]⟩,zd,vt_b,y,⟨#[]⟩,⟨none,0,[]⟩⟩:=⟨Vt.zero_ok,hvt,zt,zx⟩
 have hpl:(Mg.ms ⟨7,0,0,0,0,q_a,x,Vt.zero,0,0,0,⟨none,0,[]⟩,⟨none,0,[]⟩,zd,vt_b,y,⟨#[]⟩,⟨none,0,[]⟩⟩).cells.length=119:=hmo.ms.len
 have hp1:=hmo.ms.one
 have hip:(prog.info? 52).map (·.size)=some (Mg.ms ⟨7,0,0,0,0,q_a,x,Vt.zero,0,0,0,⟨none,0,[]⟩,⟨none,0,[]⟩,zd,vt_b,y,⟨#[]⟩,⟨none,0,[]⟩⟩).cells.length:=by rw[hpl];exact iszM
 have rpc:we.rangeAt w2.heap.size 0 (Mg.ms ⟨7,0,0,0,0,q_a,x,Vt.zero,0,0,0,⟨none,0,[]⟩,⟨none,0,[]⟩,zd,vt_b,y,⟨#[]⟩,⟨none,0,[]⟩⟩).cells:=rpc
 obtain⟨pc,hpc⟩:∃p,Hid ((Mg.ms ⟨7,0,0,0,0,q_a,x,Vt.zero,0,0,0,⟨none,0,[]⟩,⟨none,0,[]⟩,zd,vt_b,y,⟨#[]⟩,⟨none,0,[]⟩⟩).cells=p):=⟨_,hide rfl⟩
 simp only[hpc.out]at hpl hip hp1 rpc
 go_upto_region 22 with fail
 refine pl_b ?_
 refine pl_v 121 (.agg pc.toArray) (zm rfl rfl rpc underlying52 rfl hip) ?_
 refine pl_s (we.setCells w.heap.size 0 pc) (zo (cs:=pc.toArray) rfl rfl rfl (by simpa [hpl]using Ve.ans) (by simpa using hip) (zp hp1)) ?_
 refine zb ?_
 have hlow:Below w.heap.size we (we.setCells w.heap.size 0 pc):=zi (Nat.le_refl _) pc 0 _ (Below.refl _ we)
 have hrs:=run_loadVar_mid (P:=prog) (we.setCells w.heap.size 0 pc) w.heap.size 0 52 pc _ (World.rangeAt_setCells_same we w.heap.size 0 pc (by rw[hpl];exact Ve.ans)) underlying52 rfl hip
 have HF:Hid (∃m:Mg,Ending.returned (.agg pc.toArray)=.returned (.agg m.ms.cells.toArray)∧m.pure=(⟨7,0,0,0,0,q_a,rs_a,Vt.zero,0,0,0,[],[],zd,vt_b,sg_b,⟨#[]⟩,[]⟩:Mp)∧m.ok∧m.At (we.setCells w.heap.size 0 pc)∧m.Bk (fun b=>w.heap.size≤b)∧RS (we.setCells w.heap.size 0 pc) Q R s_b∧Kept w R Q (we.setCells w.heap.size 0 pc)):=hide ⟨⟨7,0,0,0,0,q_a,x,Vt.zero,0,0,0,⟨none,0,[]⟩,⟨none,0,[]⟩,zd,vt_b,y,⟨#[]⟩,⟨none,0,[]⟩⟩,by rw[hpc.out],by rw[←hx,←hy];rfl,hmo,zaW (hA7.put hB (fun b hb=>by omega)) zan RowsAt.none (hC7.put hD (fun b hb=>by omega)) RowsAt.none,⟨hB.mono (fun b hb=>by omega),zD,za8,zD,hD.mono (fun b hb=>by omega),zD⟩,Ve.rs.low hlow hQw,Ve.kept.low hlow (Nat.le_refl _)⟩
 clear Ve hlow rpc hpc hmo hA7 hC7 hB hD hx hy
 go_wp2_with fail
 refine bodyPost_ret (v:=.agg pc.toArray) ?_ rfl ?_
 ·simp[results,results66,Act.put,asAddr,hrs]
 ·exact HF.out
theorem zjA (Q R:Nat) (s:Rst) (w:World) (h:RS w Q R s) (hl:s.1.length≤40000) (hk:(kiS 8 s).1=8):Calls prog 66 #[.pointer (some ⟨Q,0,none⟩)] w fun en w'=>∃m:Mg,en=.returned (.agg m.ms.cells.toArray)∧m.pure=(mg8 (kiS 8 s).2).1∧m.ok∧m.At w'∧m.Bk (fun b=>w.heap.size≤b)∧RS w' Q R (mg8 (kiS 8 s).2).2∧Kept w R Q w':=by
 have hRw:=h.st.1.1
 have hQw:=h.mr.lt
 have ck:=fun w0 h0=>kindRS Q R 8 s w0 h0
 have l0:=za9 8 s
 unfold mg8
 generalize kiS 8 s=p_ at ck l0 hk ⊢
 obtain⟨k,s0⟩:=p_
 simp only at ck l0 hk ⊢
 subst hk
 have c_a:=fun w0 h0=>textRS Q R 4194304 s0 w0 h0
 have l_a:(txS 4194304 s0).2.1.length≤s0.1.length:=ziG _ _
 generalize txS 4194304 s0=p_ at c_a l_a ⊢
 obtain⟨v_a,s_a⟩:=p_
 simp only at c_a l_a ⊢
 have c_b:=fun w0 h0=>zfV Q R s_a w0 h0 (by omega)
 have l_b:(lsS 64 siS s_a).2.1.length≤s_a.1.length:=zc9 zdP _ _
 generalize lsS 64 siS s_a=p_ at c_b l_b ⊢
 obtain⟨v_b,s_b⟩:=p_
 simp only at c_b l_b ⊢
 obtain⟨zc,hzl,hzr⟩:∃z:List Value,z.length=119∧∀w:World,(zeroValue 52).run prog w=.ok (.agg z.toArray) w:=⟨_,(Ms.plain_ok 0 0 0 Vt.zero_ok zt zx).len,zeroM⟩
 have hbk:=zao 8
 have hql:=(zQ 8).len
 have hq1:=(zQ 8).one
 have hiq:(prog.info? 52).map (·.size)=some (Ms.plain 8 0 0 Vt.zero zd).cells.length:=by rw[hql];exact iszM
 have hk0:∀(w':World) b,w'.rangeAt b 0 (Ms.plain 8 0 0 Vt.zero zd).cells→w'.cell? ⟨b,0,none⟩=some (.int .i64 8):=fun w' b h=>((zQ 8).at h).k
 obtain⟨qk,hqk⟩:∃q,Hid ((Ms.plain 8 0 0 Vt.zero zd).cells=q):=⟨_,hide rfl⟩
 simp only[hqk.out]at hbk hql hq1 hiq hk0
 obtain⟨hB1,hr1,hs1⟩:=zA w zc 52
 have ht1:=zn w zc.toArray 52 (n:=119) (by simp[hzl])
 go_enter func66,ntmps66
 go_upto_region 0 with fail
 refine pl_b ?_
 refine pl_r 2 (.pointer (some ⟨w.heap.size,0,none⟩)) (w.alloc (.cells zc.toArray 52)) (zr rfl (hzr _)) ?_
 refine zb ?_
 obtain⟨W1,hW1⟩:∃W,w.alloc (.cells zc.toArray 52)=W:=⟨_,rfl⟩
 rw[hW1]at hB1 hr1 hs1 ht1 ⊢
 clear hW1 hr1
 have S1:=h.below hB1
 go_upto_region 1 with fail
 refine pl_b ?_
 refine pl_a 4 ?_
 refine pl_c 5 ?_
 refine(ck W1 S1).mono ?_
 rintro _ w2 ⟨rfl,S2,k2⟩
 refine⟨_,rfl,?_⟩
 simp only[nz]
 refine pl_v 6 (.agg qk.toArray) (zT (parts:=[(0,.tmp 5)]) rfl rfl (hbk _)) ?_
 refine pl_r 3 (.pointer (some ⟨w2.heap.size,0,none⟩)) (w2.alloc (.cells zc.toArray 52)) (zr rfl (hzr _)) ?_
 refine pl_s ((w2.alloc (.cells zc.toArray 52)).setCells w2.heap.size 0 qk) (zo (cs:=qk.toArray) rfl rfl rfl (zn _ _ _ (by simp[hzl,hql])) (by simpa using hiq) (zp hq1)) ?_
 refine zb ?_
 obtain⟨hF1,hF2,hF3,-⟩:=zq w2 zc.toArray 52 qk (by simp[hzl,hql])
 have hF4:=World.there_setCells (zn w2 zc.toArray 52 (n:=119) (by simp[hzl])) w2.heap.size 0 qk
 obtain⟨w3,hw3⟩:∃W,(w2.alloc (.cells zc.toArray 52)).setCells w2.heap.size 0 qk=W:=⟨_,rfl⟩
 rw[hw3]at hF1 hF2 hF3 hF4 ⊢
 clear hw3
 have hc0:=hk0 _ _ hF1
 have k3:Kept w R Q w3:=(((Kept.refl w R Q).below hB1).trans k2).below hF2
 have z2:=k2.size
 rw[←hqk.out]at hF1
 have V3:MV w Q R w.heap.size w2.heap.size 119 (Ms.plain 8 0 0 Vt.zero zd).cells s0 w3:=⟨hF1,hF4,zg (zY ht1 (k2.block _ hs1 (by omega) (by omega))) hF2 (by omega),k3,S2.below hF2,by have:=hF2.size;omega,by omega,Nat.le_refl _,by have:=hB1.size;omega,by omega,hRw,hQw⟩
 have hww:w.heap.size<w2.heap.size:=by omega
 clear hF1 hF2 hF4 ht1 hB1 S1 S2 k2 k3 hk0 hbk hql hq1 hiq hqk h ck hzr hzl
 go_upto_region 2 with fail
 refine pl_b ?_
 refine pl_a 7 ?_
 refine pl_v 8 (.int .i64 8) (zf rfl rfl hc0 underlying3 rfl) ?_
 refine zb ?_
 clear hc0
 go_upto_region 20 with fail
 refine pl_b ?_
 refine pl_a 106 ?_
 refine pl_a 107 ?_
 refine pl_a 108 ?_
 refine pl_v 109 (.pointer (some ⟨R,0,none⟩)) (zf rfl rfl V3.rs.mr.c0 underlying98 rfl) ?_
 refine pl_c 110 ?_
 refine(c_a w3 V3.rs).mono ?_
 rintro _ w5 ⟨rfl,S5,k5⟩
 refine⟨_,rfl,?_⟩
 simp only[nz]
 refine pl_a 111 ?_
 have V5:=V3.on k5 S5
 have Va:=V5.set 117 [.string v_a] (zf6 v_a Vt.zero_ok zt Vt.zero_ok V5.row (V5.part 117 1 (by decide)))
 refine pl_s (w5.setCells w2.heap.size 117 [.string v_a]) (zX (n:=119) rfl rfl rfl V5.box (by decide) iszStr rfl rfl) ?_
 refine zb ?_
 obtain⟨w6,hw6⟩:∃W,w5.setCells w2.heap.size 117 [.string v_a]=W:=⟨_,rfl⟩
 rw[hw6]at Va ⊢
 clear hw6
 clear V5 V3 S5 k5
 go_upto_region 21 with fail
 refine pl_b ?_
 refine pl_a 112 ?_
 refine pl_a 113 ?_
 refine pl_a 114 ?_
 refine pl_v 115 (.pointer (some ⟨R,0,none⟩)) (zf rfl rfl Va.rs.mr.c0 underlying98 rfl) ?_
 refine pl_a 116 ?_
 refine pl_a 117 ?_
 refine pl_a 118 ?_
 refine pl_c 119 ?_
 refine(c_b w6 Va.rs).mono ?_
 rintro _ wd ⟨x,rfl,hx,hA,hB,Sd,kd⟩
 refine⟨_,rfl,?_⟩
 simp only[nz]
 refine pl_a 120 ?_
 have Vd:=Va.on kd Sd
 have Ve:=Vd.set 118 [x.val] (zf7 x.val Vt.zero_ok zt Vt.zero_ok Vd.row (Vd.part 118 1 (by decide)))
 have lb:=Va.lb
 have la:=Va.la
 have na:=Va.kept.size
 refine pl_s (wd.setCells w2.heap.size 118 [x.val]) (zX (n:=119) rfl rfl rfl Vd.box (by decide) iszSgs rfl rfl) ?_
 refine zb ?_
 have hA1:=hA.put (B:=w2.heap.size) (o:=118) (vs:=[x.val]) hB (fun b hb=>by omega)
 obtain⟨we,hwe⟩:∃W,wd.setCells w2.heap.size 118 [x.val]=W:=⟨_,rfl⟩
 rw[hwe]at Ve hA1 ⊢
 clear hwe
 clear Vd Sd kd Va hA
 have rpc:=Ve.row
 have hmo:Mg.ok ⟨8,0,0,0,0,false,⟨none,0,[]⟩,Vt.zero,0,0,0,⟨none,0,[]⟩,⟨none,0,[]⟩,zd,Vt.zero,⟨none,0,[]⟩,v_a,x⟩:=⟨Vt.zero_ok,Vt.zero_ok,zt,zx⟩
 have hpl:(Mg.ms ⟨8,0,0,0,0,false,⟨none,0,[]⟩,Vt.zero,0,0,0,⟨none,0,[]⟩,⟨none,0,[]⟩,zd,Vt.zero,⟨none,0,[]⟩,v_a,x⟩).cells.length=119:=hmo.ms.len
 have hp1:=hmo.ms.one
 have hip:(prog.info? 52).map (·.size)=some (Mg.ms ⟨8,0,0,0,0,false,⟨none,0,[]⟩,Vt.zero,0,0,0,⟨none,0,[]⟩,⟨none,0,[]⟩,zd,Vt.zero,⟨none,0,[]⟩,v_a,x⟩).cells.length:=by rw[hpl];exact iszM
 have rpc:we.rangeAt w2.heap.size 0 (Mg.ms ⟨8,0,0,0,0,false,⟨none,0,[]⟩,Vt.zero,0,0,0,⟨none,0,[]⟩,⟨none,0,[]⟩,zd,Vt.zero,⟨none,0,[]⟩,v_a,x⟩).cells:=rpc
 obtain⟨pc,hpc⟩:∃p,Hid ((Mg.ms ⟨8,0,0,0,0,false,⟨none,0,[]⟩,Vt.zero,0,0,0,⟨none,0,[]⟩,⟨none,0,[]⟩,zd,Vt.zero,⟨none,0,[]⟩,v_a,x⟩).cells=p):=⟨_,hide rfl⟩
 simp only[hpc.out]at hpl hip hp1 rpc
 go_upto_region 22 with fail
 refine pl_b ?_
 refine pl_v 121 (.agg pc.toArray) (zm rfl rfl rpc underlying52 rfl hip) ?_
 refine pl_s (we.setCells w.heap.size 0 pc) (zo (cs:=pc.toArray) rfl rfl rfl (by simpa [hpl]using Ve.ans) (by simpa using hip) (zp hp1)) ?_
 refine zb ?_
 have hlow:Below w.heap.size we (we.setCells w.heap.size 0 pc):=zi (Nat.le_refl _) pc 0 _ (Below.refl _ we)
 have hrs:=run_loadVar_mid (P:=prog) (we.setCells w.heap.size 0 pc) w.heap.size 0 52 pc _ (World.rangeAt_setCells_same we w.heap.size 0 pc (by rw[hpl];exact Ve.ans)) underlying52 rfl hip
 have HF:Hid (∃m:Mg,Ending.returned (.agg pc.toArray)=.returned (.agg m.ms.cells.toArray)∧m.pure=(⟨8,0,0,0,0,false,[],Vt.zero,0,0,0,[],[],zd,Vt.zero,[],v_a,v_b⟩:Mp)∧m.ok∧m.At (we.setCells w.heap.size 0 pc)∧m.Bk (fun b=>w.heap.size≤b)∧RS (we.setCells w.heap.size 0 pc) Q R s_b∧Kept w R Q (we.setCells w.heap.size 0 pc)):=hide ⟨⟨8,0,0,0,0,false,⟨none,0,[]⟩,Vt.zero,0,0,0,⟨none,0,[]⟩,⟨none,0,[]⟩,zd,Vt.zero,⟨none,0,[]⟩,v_a,x⟩,by rw[hpc.out],by rw[←hx];rfl,hmo,zaW RowsAt.none zan RowsAt.none RowsAt.none (hA1.put hB (fun b hb=>by omega)),⟨zD,zD,za8,zD,zD,hB.mono (fun b hb=>by omega)⟩,Ve.rs.low hlow hQw,Ve.kept.low hlow (Nat.le_refl _)⟩
 clear Ve hlow rpc hpc hmo hA1 hB hx
 go_wp2_with fail
 refine bodyPost_ret (v:=.agg pc.toArray) ?_ rfl ?_
 ·simp[results,results66,Act.put,asAddr,hrs]
 ·exact HF.out
theorem rmsgS (Q R:Nat) (s:Rst) (w:World) (h:RS w Q R s) (hl:s.1.length≤40000):Calls prog 66 #[.pointer (some ⟨Q,0,none⟩)] w fun en w'=>∃m:Mg,en=.returned (.agg m.ms.cells.toArray)∧m.pure=(mgS s).1∧m.ok∧m.At w'∧m.Bk (fun b=>w.heap.size≤b)∧RS w' Q R (mgS s).2∧Kept w R Q w':=by
 unfold mgS mgF
 by_cases n1:(kiS 8 s).1=1
 ·rw[if_pos n1];exact zjH Q R s w h hl n1
 rw[if_neg n1]
 by_cases n2:(kiS 8 s).1=2
 ·rw[if_pos n2];exact zjG Q R s w h hl n2
 rw[if_neg n2]
 by_cases n3:(kiS 8 s).1=3
 ·rw[if_pos n3];exact zjF Q R s w h hl n3
 rw[if_neg n3]
 by_cases n4:(kiS 8 s).1=4
 ·rw[if_pos n4];exact zjE Q R s w h hl n4
 rw[if_neg n4]
 by_cases n5:(kiS 8 s).1=5
 ·rw[if_pos n5];exact zjD Q R s w h hl n5
 rw[if_neg n5]
 by_cases n6:(kiS 8 s).1=6
 ·rw[if_pos n6];exact zjC Q R s w h hl n6
 rw[if_neg n6]
 by_cases n7:(kiS 8 s).1=7
 ·rw[if_pos n7];exact zjB Q R s w h hl n7
 rw[if_neg n7]
 by_cases n8:(kiS 8 s).1=8
 ·rw[if_pos n8];exact zjA Q R s w h hl n8
 rw[if_neg n8]
 exact zjI Q R s w h hl n1 n2 n3 n4 n5 n6 n7 n8
theorem zkL (s:ByteArray) (hs:s.size≤1099511627) (w:World):Calls prog 65 #[.string s] w fun e w'=>∃Q R,e=.returned (.pointer (some ⟨Q,0,none⟩))∧w.heap.size≤R∧RS w' Q R (strL s,0,false)∧Below w.heap.size w w':=by
 obtain⟨c,w1,hc,hr,hB⟩:=zmS s hs w
 have hl:(strL s).length≤549755813888:=by rw[zN];omega
 have cr:=zj0 (some ⟨w.heap.size,0,none⟩) c (strL s) w1 hr hl
 generalize strL s=zs at *
 go_enter func65,ntmps65
 go_wp2_with fail
 refine cr.mono ?_
 rintro e w2 ⟨R,rfl,hR,hSt,hb2⟩
 have hB2:=hB.trans (hb2.mono hB.size)
 have hB3:Below w2.heap.size w2 (w2.alloc (.cells #[.pointer (some ⟨R,0,none⟩),.bool false] 178)):=(Below.refl _ _).alloc (Nat.le_refl _) _
 have hB4:=hB2.trans (hB3.mono hB2.size)
 have hRl:=hSt.1.1
 have hSt3:=hSt.below hB3
 have hQ:MrAt (w2.alloc (.cells #[.pointer (some ⟨R,0,none⟩),.bool false] 178)) w2.heap.size R false:=
  ⟨by simp,hRl,World.cell?_alloc_at _ _ _ _ rfl,World.cell?_alloc_at _ _ _ _ rfl,World.frozen?_alloc_at _ _ _ _ rfl⟩
 have hQt:=zn w2 #[.pointer (some ⟨R,0,none⟩),.bool false] 178 (n:=2) rfl
 have hRw:w.heap.size≤R:=by have:=hB.size;omega
 clear cr hc hr hSt hB3 hB2 hb2 hB
 go_wp2_with fail
 go_ret
 exact⟨_,R,rfl,hRw,⟨hSt3,hQ,hQt⟩,hB4⟩
def faE (s:Rst):Int:=if s.2.2=true then 130 else doneE s.1 s.2.1
theorem faultS (Q R:Nat) (s:Rst) (w:World) (h:RS w Q R s):Calls prog 67 #[.pointer (some ⟨Q,0,none⟩)] w fun en w'=>en=.returned (.int .i64 (faE s))∧w'=w:=by
 obtain⟨rest,e,z⟩:=s
 unfold faE
 cases z
 ·exact zlY Q R rest e w h.st h.mr
 ·have c0:=h.mr.c0
  have c1:=h.mr.c1
  simp only at c0 c1
  clear h
  go_enter func67,ntmps67
  go_wp2_with fail
  go_ret
  exact⟨rfl,rfl⟩
def Mp.none:Mp:=⟨0,0,0,0,0,false,[],Vt.zero,0,0,0,[],[],zd,Vt.zero,[],⟨#[]⟩,[]⟩
def decS (zs:List Int):Mp ×Int:=if faE (mgS (zs,0,false)).2=0 then((mgS (zs,0,false)).1,0)else(Mp.none,faE (mgS (zs,0,false)).2)
def Mg.none:Mg:=⟨0,0,0,0,0,false,⟨Option.none,0,[]⟩,Vt.zero,0,0,0,⟨Option.none,0,[]⟩,⟨Option.none,0,[]⟩,zd,Vt.zero,⟨Option.none,0,[]⟩,⟨#[]⟩,⟨Option.none,0,[]⟩⟩
theorem Mg.none_ok:Mg.none.ok:=⟨Vt.zero_ok,Vt.zero_ok,zt,zx⟩
theorem Mg.none_at (w:World):Mg.none.At w:=zaW RowsAt.none zan RowsAt.none RowsAt.none RowsAt.none
theorem Mg.At.put {m:Mg} {W:World} {n o:Nat} {vs:List Value} (h:m.At W) (k:Mg.Bk m (fun b=>n<b)):m.At (W.setCells n o vs):=by
 obtain⟨k1,k2,k2',k3,k4,k5⟩:=k
 have f:∀b,n<b→b≠n:=fun b hb=>by omega
 exact⟨h.rs.put k1 f,h.he.put k2 k2' f,h.ne.put k3 f,h.cs.put k4 f,h.sg.put k5 f⟩
theorem zhH (w:World):(Instr.build 52 #[]).run prog w=.ok (.agg Mg.none.ms.cells.toArray) w:=zdq #[] _ w rfl
theorem zex (sb:ByteArray) (hs:sb.size≤40000) (w:World):Calls prog 30 #[.string sb] w fun en w'=>∃m:Mg,en=.returned (.tuple #[.agg m.ms.cells.toArray,.int .i64 (decS (strL sb)).2])∧m.pure=(decS (strL sb)).1∧m.ok∧m.At w'∧m.Bk (fun b=>w.heap.size≤b)∧Below w.heap.size w w':=by
 obtain⟨zc,hzc,hzl,hz1,hzr,hb0⟩:∃z:List Value,Hid (z=Mg.none.ms.cells)∧z.length=119∧(∀v∈z,v.oneCell'=true)∧(∀w:World,(zeroValue 52).run prog w=.ok (.agg z.toArray) w)∧∀w:World,(Instr.build 52 #[]).run prog w=.ok (.agg z.toArray) w:=⟨_,hide rfl,Mg.none_ok.ms.len,Mg.none_ok.ms.one,zeroM,zhH⟩
 have hiz:(prog.info? 52).map (·.size)=some zc.length:=by rw[hzl];exact iszM
 have cn:=fun w0=>zkL sb (by omega) w0
 have cr:=fun Q R w0 h0=>rmsgS Q R (strL sb,0,false) w0 h0 (by show(strL sb).length≤40000;rw[zN];exact hs)
 have hs':(sb.size:Int)≤4194304:=by omega
 unfold decS
 generalize strL sb=zs at cn cr ⊢
 generalize mgS (zs,0,false)=p_ at cr ⊢
 obtain⟨mp,t⟩:=p_
 simp only at cr ⊢
 have cf:=fun Q R w0 h0=>faultS Q R t w0 h0
 generalize faE t=f at cf ⊢
 obtain⟨hB1,hr1,hs1⟩:=zA w zc 52
 have ht1:=zn w zc.toArray 52 (n:=119) (by simp[hzl])
 go_enter func30,ntmps30
 go_upto_region 0 with fail
 refine pl_b ?_
 refine pl_r 2 (.pointer (some ⟨w.heap.size,0,none⟩)) (w.alloc (.cells zc.toArray 52)) (zr rfl (hzr _)) ?_
 refine pl_a 3 ?_
 refine zb ?_
 obtain⟨W1,hW1⟩:∃W,w.alloc (.cells zc.toArray 52)=W:=⟨_,rfl⟩
 rw[hW1]at hB1 hr1 hs1 ht1 ⊢
 clear hW1 hr1
 go_upto_region 3 with fail
 refine pl_b ?_
 refine pl_a 11 ?_
 refine pl_c 12 ?_
 refine(cn W1).mono ?_
 rintro _ w2 ⟨Q,R,rfl,hRw,S2,hb2⟩
 refine⟨_,rfl,?_⟩
 simp only[nz]
 refine pl_a 4 ?_
 refine zb ?_
 have hT2:=zg ht1 hb2 hs1
 have hRQ:=S2.mr.ne
 have hB2:=hB1.trans (hb2.mono hB1.size)
 have z2:=hb2.size
 clear cn
 go_upto_region 4 with fail
 refine pl_b ?_
 refine pl_a 13 ?_
 refine pl_c 14 ?_
 refine(cr Q R w2 S2).mono ?_
 rintro _ w3 ⟨m,rfl,hp,hmo,hA,hB,S3,k3⟩
 refine⟨_,rfl,?_⟩
 simp only[nz]
 have hql:=hmo.ms.len
 have hq1:=hmo.ms.one
 have hiq:(prog.info? 52).map (·.size)=some m.ms.cells.length:=by rw[hql];exact iszM
 obtain⟨q,hqq⟩:∃q,Hid (m.ms.cells=q):=⟨_,hide rfl⟩
 simp only[hqq.out]at hql hq1 hiq ⊢
 refine pl_r 5 (.pointer (some ⟨w3.heap.size,0,none⟩)) (w3.alloc (.cells zc.toArray 52)) (zr rfl (hzr _)) ?_
 refine pl_s ((w3.alloc (.cells zc.toArray 52)).setCells w3.heap.size 0 q) (zo (cs:=q.toArray) rfl rfl rfl (zn _ _ _ (by simp[hzl,hql])) (by simpa using hiq) (zp hq1)) ?_
 refine zb ?_
 obtain⟨r4,hF2,hF3,-⟩:=zq w3 zc.toArray 52 q (by simp[hzl,hql])
 have hT3:=zY hT2 (k3.block w.heap.size (by omega) (by omega) (by omega))
 have hB3:Below w.heap.size w w3:=k3.to hB2 (by omega) (by omega)
 have z3:=k3.size
 obtain⟨w4,hw4⟩:∃W,(w3.alloc (.cells zc.toArray 52)).setCells w3.heap.size 0 q=W:=⟨_,rfl⟩
 rw[hw4]at r4 hF2 hF3 ⊢
 clear hw4
 have S4:=S3.below hF2
 have hT4:=zg hT3 hF2 (by omega)
 have hB4:=hB3.trans (hF2.mono hB3.size)
 have hA4:=hA.below hF2
 have cf:=cf Q R
 have hBk:m.Bk (fun b=>w.heap.size<b):=⟨hB.1.mono (fun b hb=>by omega),hB.2.1.mono (fun b hb=>by omega),fun y hy=>(hB.2.2.1 y hy).mono (fun b hb=>by omega),hB.2.2.2.1.mono (fun b hb=>by omega),hB.2.2.2.2.1.mono (fun b hb=>by omega),hB.2.2.2.2.2.mono (fun b hb=>by omega)⟩
 have hBk0:m.Bk (fun b=>w.heap.size≤b):=⟨hB.1.mono (fun b hb=>by omega),hB.2.1.mono (fun b hb=>by omega),fun y hy=>(hB.2.2.1 y hy).mono (fun b hb=>by omega),hB.2.2.2.1.mono (fun b hb=>by omega),hB.2.2.2.2.1.mono (fun b hb=>by omega),hB.2.2.2.2.2.mono (fun b hb=>by omega)⟩
 have B9:=fun vs=>zi (Nat.le_refl w.heap.size) vs 0 _ hB4
 have A9:=fun vs=>Mg.At.put (o:=0) (vs:=vs) hA4 hBk
 have HM:=hide (show m.pure=mp∧m.ok∧m.Bk (fun b=>w.heap.size≤b) from⟨hp,hmo,hBk0⟩)
 clear hF2 hA hB hBk hBk0 hT3 hB3 S3 k3 hT2 hB2 hp hmo hA4 cr S2 hb2
 go_upto_region 5 with fail
 refine pl_b ?_
 refine pl_a 15 ?_
 refine pl_c 16 ?_
 refine(cf w4 S4).mono ?_
 rintro _ w5 ⟨rfl,hx⟩
 obtain rfl:=hx.symm
 clear hx
 refine⟨_,rfl,?_⟩
 simp only[nz]
 refine pl_a 6 ?_
 refine zb ?_
 clear cf S4
 by_cases hf:f=0
 ·subst hf
  go_upto_region 8 with fail
  refine pl_b ?_
  refine pl_v 21 (.agg q.toArray) (zm rfl rfl r4 underlying52 rfl hiq) ?_
  refine pl_s (w4.setCells w.heap.size 0 q) (zo (cs:=q.toArray) rfl rfl rfl (by simpa [hql]using hT4) (by simpa using hiq) (zp hq1)) ?_
  refine pl_a 3 ?_
  refine zb ?_
  have hrs:=run_loadVar_mid (P:=prog) (w4.setCells w.heap.size 0 q) w.heap.size 0 52 q _ (World.rangeAt_setCells_same w4 w.heap.size 0 q (by rw[hql];exact hT4)) underlying52 rfl hiq
  have HF:Hid (∃g:Mg,Ending.returned (.tuple #[.agg q.toArray,.int .i64 0])=.returned (.tuple #[.agg g.ms.cells.toArray,.int .i64 0])∧g.pure=mp∧g.ok∧g.At (w4.setCells w.heap.size 0 q)∧g.Bk (fun b=>w.heap.size≤b)∧Below w.heap.size w (w4.setCells w.heap.size 0 q)):=hide ⟨m,by rw[hqq.out],HM.out.1,HM.out.2.1,A9 q,HM.out.2.2,B9 q⟩
  clear HM A9 B9 r4 hT4 hB4 hqq
  go_wp2_with fail
  refine bodyPost_ret (zaT rfl _ _ _ rfl hrs) rfl ?_
  exact HF.out
 ·have hfb:(f !=0)=true:=by simpa using hf
  go_upto_region 7 with fail
  refine pl_b ?_
  refine pl_v 19 (.agg zc.toArray) (zT (parts:=[]) rfl rfl (hb0 _)) ?_
  refine pl_a 20 ?_
  refine pl_s (w4.setCells w.heap.size 0 zc) (zo (cs:=zc.toArray) rfl rfl rfl (by simpa [hzl]using hT4) (by simpa using hiz) (zp hz1)) ?_
  refine pl_a 3 ?_
  refine zb ?_
  have hrs:=run_loadVar_mid (P:=prog) (w4.setCells w.heap.size 0 zc) w.heap.size 0 52 zc _ (World.rangeAt_setCells_same w4 w.heap.size 0 zc (by rw[hzl];exact hT4)) underlying52 rfl hiz
  have HF:Hid (∃g:Mg,Ending.returned (.tuple #[.agg zc.toArray,.int .i64 f])=.returned (.tuple #[.agg g.ms.cells.toArray,.int .i64 f])∧g.pure=Mp.none∧g.ok∧g.At (w4.setCells w.heap.size 0 zc)∧g.Bk (fun b=>w.heap.size≤b)∧Below w.heap.size w (w4.setCells w.heap.size 0 zc)):=hide ⟨Mg.none,by rw[hzc.out],rfl,Mg.none_ok,Mg.none_at _,⟨zD,zD,za8,zD,zD,zD⟩,B9 zc⟩
  clear HM A9 B9 r4 hT4 hB4 hqq hzc
  go_wp2_with fail
  refine bodyPost_ret (zaT rfl _ _ _ rfl hrs) rfl ?_
  first|exact HF.out|(rw[if_neg hf];exact HF.out)|(simp only[if_neg hf];exact HF.out)
theorem ziF (ds:List Int):(valR ds).2≠140:=by
 unfold valR
 split<;>simp
theorem zkE (r:List Int):(numR r).2.2≠140:=by
  cases r with
  |nil=>simp[numR]
  |cons k tl=>
    unfold numR
    repeat' split
    all_goals first|exact ziF _|simp
theorem zaL (r:List Int) {e:Int} (most:Int) (h:e≠140):(numS r e most).2.2≠140:=by
 unfold numS
 split
 ·split
  ·split<;>simp
  ·exact zkE r
 ·exact h
theorem zdH (r:List Int) {e:Int} (most:Int) (h:e≠140):(textS r e most).2.2≠140:=by
 unfold textS
 split
 ·split
  ·simp
  ·split<;>simp
 ·exact zaL r _ h
theorem zcf (r:List Int) {e:Int} (n:Int) (h:e≠140):(rawS r e n).2.2≠140:=by
 unfold rawS
 split
 ·split
  ·simp
  ·split<;>simp
 ·exact h
theorem zaQ (m:Int) (s:Rst) (h:s.2.1≠140):(nuS m s).2.2.1≠140:=zaL _ _ h
theorem zk8 (m:Int) (s:Rst) (h:s.2.1≠140):(kiS m s).2.2.1≠140:=zaL _ _ h
theorem zmw (s:Rst) (h:s.2.1≠140):(dgS s).2.2.1≠140:=zcf _ _ h
theorem ziH (m:Int) (s:Rst) (h:s.2.1≠140):(txS m s).2.2.1≠140:=zdH _ _ h
theorem zfv (s:Rst) (h:s.2.1≠140):(siS s).2.2.1≠140:=zcf _ _ (zaL _ _ h)
theorem zmn (s:Rst) (h:s.2.1≠140):(enS s).2.2.1≠140:=zcf _ _ (zdH _ _ (zaL _ _ h))
theorem zfb (s:Rst) (h:s.2.1≠140):(voS s).2.2.1≠140:=zcf _ _ (zaL _ _ (zaL _ _ (zaL _ _ (zaL _ _ h))))
theorem zjO (r:List Int) {e:Int} (h:e≠140):(rgetR r e).err≠140:=zcf _ _ (zdH _ _ (zaL _ _ (zaL _ _ h)))
theorem zlD (k:Nat) (r:List Int) {e:Int} (h:e≠140):(getRs k r e).2.2≠140:=by
  induction k with
  |zero=>exact h
  |succ k ih=>exact zjO _ ih
theorem zeI (s:Rst) (h:s.2.1≠140):(baS s).2.2.1≠140:=by
 show(getB s.1 s.2.1).err≠140
 unfold getB
 split
 ·exact zaL _ _ h
 ·exact zlD _ _ (zaL _ _ h)
theorem zlc {α:Type} {one:Rst→α ×Rst} (p:∀s,s.2.1≠140→(one s).2.2.1≠140) (s:Rst) (h:s.2.1≠140) (k:Nat):(itG one s k).2.2.1≠140:=by
  induction k with
  |zero=>exact h
  |succ k ih=>exact p _ ih
theorem zda {α:Type} (m:Int) {one:Rst→α ×Rst} (p:∀s,s.2.1≠140→(one s).2.2.1≠140) (s:Rst) (h:s.2.1≠140):(lsS m one s).2.2.1≠140:=zlc p _ (zaQ _ _ h) _
theorem zhB (s:Rst) (h:s.2.1≠140):(ceS s).2.2.1≠140:=zda _ zfv _ (zfb _ h)
theorem zlo (s:Rst) (h:s.2.1≠140):(heS s).2.2.1≠140:=zhB _ (zeI _ h)
theorem zmO (s:Rst) (h:s.2.1≠140):(chS s).2.2.1≠140:=zda _ zlo _ (zaQ _ _ (zaQ _ _ (zaQ _ _ h)))
theorem zkU (k:Int) (s:Rst) (h:s.2.1≠140):(mgF k s).2.2.1≠140:=by
 unfold mgF
 repeat' split
 ·exact zeI _ (zaQ _ _ (zaQ _ _ h))
 ·exact zfb _ h
 ·exact zmO _ h
 ·exact zda _ zmn _ (zaQ _ _ (zaQ _ _ (zaQ _ _ h)))
 ·exact zmw _ (zaQ _ _ h)
 ·exact zaQ _ _ (zaQ _ _ h)
 ·exact zhB _ (zeI _ h)
 ·exact zda _ zfv _ (ziH _ _ h)
 ·exact h
theorem zmq (r:List Int) {e:Int} (h:e≠140):doneE r e≠140:=by
 unfold doneE
 repeat' split
 all_goals first|exact h|simp
theorem zmC (zs:List Int):(decS zs).2≠140:=by
 unfold decS
 split
 ·simp
 ·show faE _≠140
  unfold faE
  split
  ·simp
  ·exact zmq _ (zkU _ _ (zk8 _ _ (by simp)))
def zgX:List Value:=[Value.int .i64 0,.string ⟨#[]⟩]++v8 (List.replicate 16 0)
theorem infoCl:(prog.info? 69).map (fun i=>(i.zero,i.size,i.bytes))=some (some (.agg zgX.toArray),18,40):=by kernel_rfl
theorem iszCls:(prog.info? 64).map (·.size)=some 1:=by kernel_rfl
theorem zeroClE (w:World):(zeroValue 69).run prog w=.ok (.agg ([Value.int .i64 0]++([Value.string ⟨#[]⟩]++v8 (List.replicate 16 0))).toArray) w:=by kernel_rfl
theorem zm2 (n:Int) (b:ByteArray) (t:List Value) (ht:t.length=16) (w:World):(Instr.build 69 #[(0,.int .i64 n),(1,.string b),(2,.agg t.toArray)]).run prog w=.ok (.agg (.int .i64 n::.string b::t).toArray) w:=
 zcv (zs:=[Value.int .i64 0]++([Value.string ⟨#[]⟩]++v8 (List.replicate 16 0))) (pl:=#[(0,1),(1,1),(2,16)]) (zeroClE w) (by kernel_rfl) (by kernel_rfl) _ _ (zg7 (c1:=[.int .i64 n]) (c2:=[.string b]) rfl rfl rfl rfl rfl rfl rfl rfl ht rfl rfl rfl)
theorem zlZ {P:Program} {o:Oper} {a:Act} {w:World} {s x:Operand} {t e:TypeId} {i:TypeInfo} {z:Value} {B cb k:Nat} {v:Value} {n:Nat} {xs u:List Value} (ho:o.op=.call {callee:=.builtin .append,args:=#[s,x],argTypes:=#[t,t]}) (hv:a.eval s=v) (hx:a.eval x=.slice (some ⟨cb,0,none⟩) 1 1)
    (ht:P.underlying t=some (.slice e)) (hi:P.info? e=some i) (hz:i.zero=some z) (hs:i.size=k) (hb:i.bytes≤1000) (hty:o.type=t)
    (hown:w.ownsRow B e k v n xs) (hB:B≤w.heap.size) (hr:w.rangeAt cb 0 u) (hu:u.length=k) (h1:∀y∈u,y.oneCell'=true) (hn:n≤1000000000) (hzk:z.cells.size=k):
    ∃v' w',(execOp a.eval o).run P w=.ok (.value v') w'∧(w'.ownsRow B e k v' (n+1) (xs++u)∧w.grownBy w' v.ownBlock∧∀g,v'.ownBlock=some g→v.ownBlock=some g∨w.heap.size≤g):=by
  have hsrc:Src P k t (.slice (some ⟨cb,0,none⟩) 1 1) 1 u w:=Src.ofSlice _ ht ⟨cb,0,none⟩ 1 1 _ (by simpa using hu) (fun j y hy=>by have:=hr j y hy;rw[Addr.add_mid];exact this) h1
  obtain⟨v',w',hrun,ho2,hg,hap⟩:=zdS (P:=P) w B t t o.type e i _ k i.bytes ht hi hz hs rfl (by rw[hzk]) v n xs hown _ 1 u hsrc (by unfold maxLen;omega) (Nat.le_trans (Nat.mul_le_mul (show n+1≤1000000001 by omega) hb) (by decide)) hB
  exact⟨v',w',zhc ho hv hx hrun,ho2,hg,fun g hg'=>(hap g hg').imp id (fun e=>by omega)⟩
theorem zgh {w w':World} {B k n:Nat} {t:TypeId} {v:Value} {xs:List Value} (h:w.ownsRow B t k v n xs) (hb:∀g,v.ownBlock=some g→w'.heap[g]? =w.heap[g]?):w'.ownsRow B t k v n xs:=by
 refine⟨h.1,?_⟩
 rcases h.2 with hn|⟨g,cap,cur,rfl,hb1,hgg,rest⟩
 ·exact .inl hn
 ·refine .inr ⟨g,cap,cur,rfl,hb1,?_,rest⟩
  rw[hb g rfl]
  exact hgg
theorem zkq {w:World} {B k n:Nat} {t:TypeId} {v:Value} {xs:List Value} (h:w.ownsRow B t k v n xs):v.cells=#[v]∧v.oneCell'=true:=by
 rcases h.2 with⟨rfl,_⟩|⟨g,cap,cur,rfl,_⟩<;>exact⟨rfl,rfl⟩
structure OutC (w:World) (O:Nat) (v:Value) (cs:List Ev):Prop where
 lt:O<w.heap.size
 c0:w.cell? ⟨O,0,none⟩=some v
 th:w.there O 0 1
 own:w.ownsRow (O+1) 69 18 v cs.length (cs.flatMap Ev.cells)
 ok:∀c∈cs,c.ok
theorem OutC.on {w w':World} {O:Nat} {v:Value} {cs:List Ev} (h:OutC w O v cs) (hs:w.heap.size≤w'.heap.size) (hO:w'.heap[O]? =w.heap[O]?) (hv:∀g,v.ownBlock=some g→w'.heap[g]? =w.heap[g]?):OutC w' O v cs:=
 ⟨Nat.lt_of_lt_of_le h.lt hs,(zZ hO).1.trans h.c0,zY h.th hO,zgh h.own hv,h.ok⟩
theorem OutC.below {w w':World} {O:Nat} {v:Value} {cs:List Ev} (h:OutC w O v cs) (hb:Below w.heap.size w w'):OutC w' O v cs:=
 h.on hb.size (hb.block O h.lt) (fun g hg=>hb.block g (h.own.lt g hg).2)
structure Grow (w w':World) (O:Nat) (v v':Value):Prop where
 os:w'.os=w.os
 tape:w'.tape=w.tape
 output:w'.output=w.output
 size:w.heap.size≤w'.heap.size
 block:∀i,i<w.heap.size→i≠O→v.ownBlock≠some i→w'.heap[i]? =w.heap[i]?
 own:∀g,v'.ownBlock=some g→v.ownBlock=some g∨w.heap.size≤g
theorem Grow.refl (w:World) (O:Nat) (v:Value):Grow w w O v v:=⟨rfl,rfl,rfl,Nat.le_refl _,fun _ _ _ _=>rfl,fun _ h=>.inl h⟩
theorem Grow.of {w w':World} (hb:Below w.heap.size w w') (O:Nat) (v:Value):Grow w w' O v v:=⟨hb.os,hb.tape,hb.output,hb.size,fun i hi _ _=>hb.block i hi,fun _ h=>.inl h⟩
theorem Grow.trans {a b c:World} {O:Nat} {v v' v'':Value} (h:Grow a b O v v') (k:Grow b c O v' v''):Grow a c O v v'' where
 os:=k.os.trans h.os
 tape:=k.tape.trans h.tape
 output:=k.output.trans h.output
 size:=Nat.le_trans h.size k.size
 block:=fun i hi h1 h2=>(k.block i (Nat.lt_of_lt_of_le hi h.size) h1 (fun e=>by
  rcases h.own i e with e|e
  ·exact h2 e
  ·omega)).trans (h.block i hi h1 h2)
 own:=fun g hg=>by
  rcases k.own g hg with e|e
  ·exact h.own g e
  ·exact .inr (Nat.le_trans h.size e)
def Clr (O:Nat) (v:Value) (b:Nat):Prop:=b≠O∧v.ownBlock≠some b
theorem Grow.keep {w w':World} {O:Nat} {v v':Value} (h:Grow w w' O v v') {b:Nat} (hb:b<w.heap.size) (hc:Clr O v b):w'.heap[b]? =w.heap[b]? ∧Clr O v' b:=by
 refine⟨h.block b hb hc.1 hc.2,hc.1,fun e=>?_⟩
 rcases h.own b e with e|e
 ·exact hc.2 e
 ·omega
theorem Sl.At.grow {α:Type} {E:El α} {w w':World} {O:Nat} {v v':Value} {x:Sl α} (h:x.At E w) (k:Grow w w' O v v') (hb:x.Bk (Clr O v)):x.At E w':=
 h.on k.size hb (fun b hP hlt=>k.block b hlt hP.1 hP.2)
theorem Sl.Bk.grow {α:Type} {E:El α} {w w':World} {O:Nat} {v v':Value} {x:Sl α} (h:x.At E w) (k:Grow w w' O v v') (hb:x.Bk (Clr O v)):x.Bk (Clr O v'):=fun b h1 h2=>by
 rcases h.2.2 with q|⟨c,off,e,hlt,_⟩
 ·exact absurd q h1
 ·have hc:=hb b h1 h2
  rw[e]at h2
  cases h2
  exact(k.keep hlt hc).2
theorem zdp (O:Nat) (v:Value) (cs:List Ev) (e:Ev) (w:World) (h:OutC w O v cs) (he:e.ok) (hn:cs.length≤1000000000):
  Calls prog 52 #[.int .i64 e.n,.string e.s,.agg (v8 e.t).toArray,.pointer (some ⟨O,0,none⟩)] w fun en w'=>en=.returned (.tuple #[])∧∃v',OutC w' O v' (cs++[e])∧Grow w w' O v v':=by
 obtain⟨i1,hi1,hiz,his,hib⟩:=zW infoCl
 have hzk:(Value.agg (zgX).toArray).cells.size=18:=by decide
 have it16:(prog.info? 23).map (·.size)=some (v8 e.t).length:=by rw[v8_length,he.tl];exact iszT
 have hbc:=fun w0=>zm2 e.n e.s (v8 e.t) (by rw[v8_length,he.tl]) w0
 obtain⟨B1,r1,s1⟩:=zA w (v8 e.t) 23
 have h1:=h.below B1
 have hul:e.cells.length=18:=EvE.len e he
 have hone:∀y∈e.cells,y.oneCell'=true:=EvE.one e
 have hflat:(cs++[e]).flatMap Ev.cells=cs.flatMap Ev.cells++e.cells:=by simp
 have hok:∀c∈cs++[e],c.ok:=fun c hc=>by
  rcases List.mem_append.1 hc with hc|hc
  ·exact h.ok c hc
  ·rw[List.mem_singleton.1 hc];exact he
 have hlen:(cs++[e]).length=cs.length+1:=by simp
 obtain⟨u,hu⟩:∃u,Hid (e.cells=u):=⟨_,hide rfl⟩
 have hbc:∀w0,(Instr.build 69 #[(0,.int .i64 e.n),(1,.string e.s),(2,.agg (v8 e.t).toArray)]).run prog w0=.ok (.agg u.toArray) w0:=fun w0=>by rw[←hu.out];exact hbc w0
 rw[hu.out]at hul hone hflat
 obtain⟨tg,htg⟩:∃t,v8 e.t=t:=⟨_,rfl⟩
 rw[htg]at it16 B1 r1 s1 h1
 simp only[htg]at hbc ⊢
 clear htg
 obtain⟨id,hid⟩:∃x,e.n=x:=⟨_,rfl⟩
 obtain⟨bd,hbd⟩:∃x,e.s=x:=⟨_,rfl⟩
 simp only[hid,hbd]at hbc ⊢
 clear hid hbd
 go_enter func52,ntmps52
 go_upto_region 1 with fail
 obtain⟨W,hW⟩:∃W,w.alloc (.cells tg.toArray 23)=W:=⟨_,rfl⟩
 rw[hW]at B1 r1 s1 h1 ⊢
 clear hW
 have B2:Below W.heap.size W (W.alloc (.cells u.toArray 69)):=(Below.refl _ _).alloc (Nat.le_refl _) _
 have r2:(W.alloc (.cells u.toArray 69)).rangeAt W.heap.size 0 u:=by simpa using zC W u.toArray 69
 have h2:=h1.below B2
 refine pl_b ?_
 refine pl_v 7 (v) (zf rfl rfl h1.c0 underlying64 rfl) ?_
 refine pl_a 8 ?_
 refine pl_a 9 ?_
 refine pl_v 10 (.agg tg.toArray) (zm rfl rfl r1 underlying23 rfl it16) ?_
 refine pl_v 11 (.agg u.toArray) (zT (parts:=[(0,.tmp 8),(1,.tmp 9),(2,.tmp 10)]) (vs:=[(0,.int .i64 id),(1,.string bd),(2,.agg tg.toArray)]) rfl (by first|with_reducible rfl|rfl|simp[Act.eval]) (hbc _)) ?_
 refine pl_r 12 (.slice (some ⟨W.heap.size,0,none⟩) 1 1) (W.alloc (.cells u.toArray 69)) (zcs rfl rfl (zcb 64 69 i1 _ u underlying64 hi1 hiz (by rw[his,hul]) (by omega) (by omega) _)) ?_
 obtain⟨W2,hW2⟩:∃X,W.alloc (.cells u.toArray 69)=X:=⟨_,rfl⟩
 rw[hW2]at B2 r2 h2 ⊢
 clear hW2
 refine zby (d:=some 13) (by rfl) rfl (zlZ rfl rfl rfl underlying64 hi1 hiz his (by rw[hib];decide) rfl h2.own (by have:=h2.lt;omega) r2 hul hone hn hzk) ?_
 rintro v6 w6 ⟨o6,g6,gb6⟩
 simp only[nz]
 have hv6:=zkq o6
 have hX:w6.heap[O]? =W2.heap[O]? :=g6.block O h2.lt (fun q=>by have:=(h2.own.lt O q.symm).1;omega)
 have th6:=zY h2.th hX
 refine pl_s (w6.setCells O 0 [v6]) (zX (n:=1) rfl rfl rfl th6 (by decide) iszCls hv6.1 hv6.2) ?_
 refine zb ?_
 have hoth:∀i,i≠O→(w6.setCells O 0 [v6]).heap[i]? =w6.heap[i]? :=fun i hi=>za5 hi
 have r7:(w6.setCells O 0 [v6]).rangeAt O 0 [v6]:=World.rangeAt_setCells_same w6 O 0 [v6] th6
 have HO:Hid (OutC (w6.setCells O 0 [v6]) O v6 (cs++[e])):=hide ⟨by rw[zB];exact Nat.lt_of_lt_of_le h2.lt g6.size,by simpa using r7 0 _ rfl,World.there_setCells th6 _ _ _,by
  rw[hlen,hflat]
  exact zgh o6 (fun g hg=>hoth g (fun q=>by have:=(o6.lt g hg).1;omega)),hok⟩
 have HG:Hid (Grow w (w6.setCells O 0 [v6]) O v v6):=hide ⟨(zau w6 O [v6] 0).os.trans (g6.os.trans (B2.os.trans B1.os)),(zau w6 O [v6] 0).tape.trans (g6.tape.trans (B2.tape.trans B1.tape)),(zau w6 O [v6] 0).output.trans (g6.output.trans (B2.output.trans B1.output)),by rw[zB];exact Nat.le_trans B1.size (Nat.le_trans B2.size g6.size),fun i hi h3 h4=>by
  rw[hoth i h3,g6.block i (Nat.lt_of_lt_of_le hi (Nat.le_trans B1.size B2.size)) (fun q=>h4 q.symm),B2.block i (Nat.lt_of_lt_of_le hi B1.size),B1.block i hi],fun g hg=>(gb6 g hg).imp (fun q=>q) (fun q=>Nat.le_trans (Nat.le_trans B1.size B2.size) q)⟩
 clear r7 hoth th6 hX hv6 gb6 g6 o6 r2 h2 B2 h1 r1 B1 h hbc
 go_wp2_with fail
 go_end0
 exact⟨rfl,v6,HO.out,HG.out⟩
def evZ:Ev:=⟨0,⟨#[]⟩,List.replicate 16 0⟩
theorem zl4:evZ.ok:=⟨rfl,fun z hz=>by have:=List.eq_of_mem_replicate hz;omega,by decide,by decide,by decide⟩
theorem zm1 (w:World):(Instr.build 25 #[]).run prog w=.ok (.agg evZ.cells.toArray) w:=by kernel_rfl
theorem zds (w:World):(zeroValue 25).run prog w=.ok (.agg evZ.cells.toArray) w:=by kernel_rfl
theorem zbD:(prog.info? 25).map (·.size)=some 18:=by kernel_rfl
theorem zld:(prog.info? 9).map (·.size)=some 1:=by kernel_rfl
end Go.Proofs.YtcbpbkefggekmaaGreatDoor
namespace Go.Proofs.YtcbpbkefggekmaaGreatDoor.Qs
open Go.RowKit
open Sha
end Go.Proofs.YtcbpbkefggekmaaGreatDoor.Qs
namespace Go.Proofs.YtcbpbkefggekmaaGreatDoor.Sha
open Go.Proofs.YtcbpbkefggekmaaGreatDoor.Qs
open Go.RowKit
open Sha
def macKey (zs:List Int):List Int:=if 64<zs.length then sha zs else zs
def macBlock (zs:List Int):List Int:=macKey zs++List.replicate (64 - (macKey zs).length) 0
end Go.Proofs.YtcbpbkefggekmaaGreatDoor.Sha
namespace Go.Proofs.YtcbpbkefggekmaaGreatDoor.Qs
open Go.RowKit
open Sha
theorem zdh:(prog.info? 169).map (·.size)=some 64:=by kernel_rfl
theorem zk0 (zs:List Int):(macKey zs).length≤64:=by
 unfold macKey
 split
 ·rw[za0];omega
 ·omega
theorem zbY (zs:List Int):(macBlock zs).length=64:=by
 have:=zk0 zs
 simp[macBlock];omega
theorem zc6 (w:World):(w.alloc (.cells (Array.replicate 64 (.int .u8 0)) 169)).rangeAt w.heap.size 0 (v8 (List.replicate 64 (0:Int)))∧(w.alloc (.cells (Array.replicate 64 (.int .u8 0)) 169)).there w.heap.size 0 64:=zaq w 64 169
theorem zhr (w:World) (B:Nat) (a:Option Addr) (cap:Nat) (ks:List Int) (hl:ks.length≤64) (h:RowAt w a ks) (hT:w.there B 0 64) (hz:w.rangeAt B 0 (v8 (List.replicate 64 (0:Int)))):
  ∃w',(Builtin.copy_ #[59,59] 3 #[.slice (some ⟨B,0,none⟩) 64 64,.slice a ks.length cap]).run prog w=.ok (goInt ks.length) w'∧w'.rangeAt B 0 (v8 (ks++List.replicate (64 - ks.length) (0:Int)))∧w'=w.setCells B 0 (v8 ks):=by
 rcases h.2.2 with rfl|⟨b,off,rfl,hb,hr⟩
 ·exact⟨w,run_copy_none (P:=prog) w 59 59 3 5 _ a 64 64 0 cap underlying59 isz8 rfl,by simpa using hz,rfl⟩
 ·refine⟨w.setCells B 0 (v8 ks),?_,?_,rfl⟩
  ·have:=run_copy_cells (P:=prog) w 59 59 3 5 B 0 64 64 ⟨b,off,none⟩ ks.length cap (v8 ks) underlying59 isz8 (by rw[v8_length];exact(Nat.min_eq_left hl).symm) (fun j v hv=>by rw[Addr.add_mid];exact hr j v hv) (fun j hj=>by rw[v8_length]at hj;exact(hT j (by omega)).1) (fun j hj=>by rw[v8_length]at hj;exact(hT j (by omega)).2) (zy _)
   rw[v8_length]at this
   exact this
  ·have e0:List.replicate 64 (0:Int)=[]++List.replicate ks.length (0:Int)++List.replicate (64 - ks.length) (0:Int):=by
    rw[List.nil_append,List.replicate_append_replicate];congr 1;omega
   rw[e0,zS,zS]at hz
   have:=zf3 (vs:=v8 ks) hz (by simp) (by
    rw[v8_length]
    have:=zL hT 0 ks.length (by omega)
    simpa [v8]using this)
   rw[←zS,←zS]at this
   simpa [v8]using this
theorem zna (a:Option Addr) (cap:Nat) (zs:List Int) (w:World) (hG:Glob w) (h:RowAt w a zs) (hc:zs.length≤cap) (hm:cap≤maxLen) (hl:zs.length≤1000000):
   Calls prog 105 #[.slice a zs.length cap] w fun e w'=>e=.returned (.agg (v8 (macBlock zs)).toArray)∧Below w.heap.size w w':=by
  go_enter func105,ntmps105
  go_upto_region 2 with fail
  go_name_world w1 hw1
  obtain⟨hB1,hZ,hT,hT0,hz1⟩:Below w.heap.size w w1∧w1.rangeAt (w.heap.size+1) 0 (v8 (List.replicate 64 (0:Int)))∧w1.there (w.heap.size+1) 0 64∧w1.there w.heap.size 0 64∧w1.heap.size=w.heap.size+2:=by
    have q:=zc6 (w.alloc (.cells (Array.replicate 64 (.int .u8 0)) 169))
    have q2:=World.there_alloc (zc6 w).2 (.cells (Array.replicate 64 (.int .u8 0)) 169)
    have es:(w.alloc (.cells (Array.replicate 64 (.int .u8 0)) 169)).heap.size=w.heap.size+1:=by simp
    have hB:Below w.heap.size w ((w.alloc (.cells (Array.replicate 64 (.int .u8 0)) 169)).alloc (.cells (Array.replicate 64 (.int .u8 0)) 169)):=((Below.refl _ _).alloc (Nat.le_refl _) _).alloc (by simp) _
    have hs:((w.alloc (.cells (Array.replicate 64 (.int .u8 0)) 169)).alloc (.cells (Array.replicate 64 (.int .u8 0)) 169)).heap.size=w.heap.size+2:=by simp
    rw[es]at q
    rw[show(w.alloc (.cells (Array.replicate 64 (.int .u8 0)) 169)).alloc (.cells (Array.replicate 64 (.int .u8 0)) 169)=w1 from hw1]at q q2 hB hs
    exact⟨hB,q.1,q.2,q2,hs⟩
  clear hw1
  have HZ1:Hid (w1.heap.size=w.heap.size+2):=hz1
  clear hz1
  have fin:∀(w3:World) (ks:List Int),ks=macKey zs→w3.rangeAt (w.heap.size+1) 0 (v8 (ks++List.replicate (64 - ks.length) (0:Int)))→w3.rangeAt (w.heap.size+1) 0 (v8 (macBlock zs)):=fun w3 ks e hr=>by rw[e]at hr;exact hr
  by_cases hlt:64<zs.length
  · have hltI:(64:Int)<zs.length:=by omega
    have ek:macKey zs=sha zs:=by unfold macKey;rw[if_pos hlt]
    have hat:(⟨a,cap,zs⟩:Part).at w1:=Part.at.below (w:=w) ⟨h,hc,hm⟩ hB1
    have hP:=zc3 w1 #[.slice a zs.length cap] ⟨a,cap,zs⟩ hat rfl
    have hBp:Below w.heap.size w (w1.alloc (.cells #[.slice a zs.length cap] 59)):=hB1.alloc hB1.size _
    have hcz:cat [(⟨a,cap,zs⟩:Part)]=zs:=by simp[cat]
    have c1:=zdL _ 1 _ _ (hG.below hBp) hP (by rw[hcz];omega)
    rw[hcz]at c1
    simp only[List.length_cons,List.length_nil,Nat.zero_add]at c1
    have hBq:Below w1.heap.size w1 (w1.alloc (.cells #[.slice a zs.length cap] 59)):=(Below.refl _ _).alloc (Nat.le_refl _) _
    obtain⟨d,hd⟩:∃d,Hid (sha zs=d):=⟨_,rfl⟩
    have hdl:d.length=32:=by rw[←hd.out];exact za0 zs
    have hdo:∀z∈d,0≤z∧z<256:=by rw[←hd.out];exact zbP zs
    rw[hd.out]at c1 ek
    clear hP hat hcz
    go_wp2_with fail
    refine c1.mono ?_
    rintro e w2 ⟨rfl,hw2⟩
    have hw2':Below w1.heap.size w1 w2:=hBq.trans (hw2.mono hBq.size)
    clear c1 hw2 hBq hBp
    have hd1:(v8 d).length=32:=by rw[v8_length,hdl]
    have F:=zq w2 (Array.replicate 32 (.int .u8 0)) 41 (v8 d) (by rw[hd1];rfl)
    have hi24:(prog.info? 41).map (·.size)=some (v8 d).toArray.size:=by rw[List.size_toArray,hd1];exact zbm
    have hN24:(w2.alloc (.cells (Array.replicate 32 (.int .u8 0)) 41)).there w2.heap.size 0 (v8 d).toArray.size:=by
      have e:(v8 d).toArray.size=32:=by rw[List.size_toArray,hd1]
      rw[e];exact(zaq w2 32 41).2
    have h1d:=all_oneCell_toArray (zy d)
    go_upto_region 4 with(refine wpList_store_mid (op:=⟨none,.store 41 (.tmp 4) (.tmp 10),_,_,_,none⟩) rfl 41 _ _ rfl _ _ (v8 d).toArray rfl rfl hN24 hi24 h1d ?_)
    go_name_world w4 hw4
    rw[show(w2.alloc (.cells (Array.replicate 32 (.int .u8 0)) 41)).setCells w2.heap.size 0 (v8 d)=w4 from hw4]at F
    obtain⟨hRd,hBd,hzd,_⟩:=F
    have hw4':Below w1.heap.size w1 w4:=hw2'.trans (hBd.mono hw2'.size)
    have hB4:Below w.heap.size w w4:=hB1.trans (hw4'.mono hB1.size)
    have hZ4:=za hZ hw4' (by have:=HZ1.out;omega)
    have hT4:=zg hT hw4' (by have:=HZ1.out;omega)
    have hT04:=zg hT0 hw4' (by have:=HZ1.out;omega)
    have hrow:RowAt w4 (some ⟨w2.heap.size,0,none⟩) d:=⟨by rw[hdl];unfold maxLen;omega,hdo,Or.inr ⟨_,_,rfl,by omega,hRd⟩⟩
    obtain⟨w3,hcp,hr3,hw3⟩:=zhr w4 (w.heap.size+1) (some ⟨w2.heap.size,0,none⟩) 32 d (by omega) hrow hT4 hZ4
    have hsl:=zbu (w:=w4) underlying169 isz8 (w.heap.size+1) 0 (by omega)
    have hsl2:=zbu (w:=w4) underlying41 isz8 w2.heap.size 0 (by omega)
    have hR3:=fin w3 d ek.symm hr3
    have hB3:Below w.heap.size w w3:=by rw[hw3];exact zi (Nat.le_succ _) _ _ _ hB4
    have hT3:w3.there w.heap.size 0 64:=by rw[hw3];exact World.there_setCells hT04 _ _ _
    have hml:=zbY zs
    rw[hdl]at hcp
    clear fin hr3 ek hw4 hN24 hi24 h1d hd1 hZ hT hT0 hB1
    simp only[Act.put]
    go_upto_region 6 with fail
    rw[←hw3]
    obtain⟨cs,hcs⟩:∃cs,Hid (v8 (macBlock zs)=cs):=⟨_,rfl⟩
    have hcl:cs.length=64:=by rw[←hcs.out,v8_length,hml]
    have h1c:∀v∈cs,v.oneCell'=true:=by rw[←hcs.out];exact zy _
    rw[hcs.out]at hR3
    have hi:(prog.info? 169).map (·.size)=some cs.length:=by rw[hcl];exact zdh
    clear hw3
    refine wp_region_list ?_
    refine wpList_load_mid rfl 169 _ rfl _ _ rfl cs _ hR3 underlying169 rfl hi ?_
    refine wpList_store_mid rfl 169 _ _ rfl _ _ cs.toArray rfl rfl (by simpa [hcl]using hT3) (by simpa using hi) (all_oneCell_toArray h1c) ?_
    have hRr:=World.rangeAt_setCells_same w3 w.heap.size 0 cs (by rw[hcl];exact hT3)
    have hBl:=zi (Nat.le_refl w.heap.size) cs 0 w3 hB3
    generalize w3.setCells w.heap.size 0 cs=wx at *
    have hrs:=run_loadVar_mid (P:=prog) wx w.heap.size 0 169 cs _ hRr underlying169 rfl hi
    clear hi
    go_wp2_with fail
    refine bodyPost_ret (v:=.agg cs.toArray) (by simp[results,results105,Act.put,asAddr,hrs]) rfl ⟨by rw[hcs.out],hBl⟩
  · have hltI:¬(64:Int)<zs.length:=by omega
    have ek:macKey zs=zs:=by unfold macKey;rw[if_neg hlt]
    obtain⟨w3,hcp,hr3,hw3⟩:=zhr w1 (w.heap.size+1) a cap zs (by omega) (h.below hB1) hT hZ
    have hsl:=zbu (w:=w1) underlying169 isz8 (w.heap.size+1) 0 (by omega)
    have hR3:=fin w3 zs ek.symm hr3
    have hB3:Below w.heap.size w w3:=by rw[hw3];exact zi (Nat.le_succ _) _ _ _ hB1
    have hT3:w3.there w.heap.size 0 64:=by rw[hw3];exact World.there_setCells hT0 _ _ _
    have hml:=zbY zs
    clear fin hr3 ek
    go_upto_region 6 with fail
    rw[←hw3]
    obtain⟨cs,hcs⟩:∃cs,Hid (v8 (macBlock zs)=cs):=⟨_,rfl⟩
    have hcl:cs.length=64:=by rw[←hcs.out,v8_length,hml]
    have h1c:∀v∈cs,v.oneCell'=true:=by rw[←hcs.out];exact zy _
    rw[hcs.out]at hR3
    have hi:(prog.info? 169).map (·.size)=some cs.length:=by rw[hcl];exact zdh
    clear hw3
    refine wp_region_list ?_
    refine wpList_load_mid rfl 169 _ rfl _ _ rfl cs _ hR3 underlying169 rfl hi ?_
    refine wpList_store_mid rfl 169 _ _ rfl _ _ cs.toArray rfl rfl (by simpa [hcl]using hT3) (by simpa using hi) (all_oneCell_toArray h1c) ?_
    have hRr:=World.rangeAt_setCells_same w3 w.heap.size 0 cs (by rw[hcl];exact hT3)
    have hBl:=zi (Nat.le_refl w.heap.size) cs 0 w3 hB3
    generalize w3.setCells w.heap.size 0 cs=wx at *
    have hrs:=run_loadVar_mid (P:=prog) wx w.heap.size 0 169 cs _ hRr underlying169 rfl hi
    clear hi
    go_wp2_with fail
    refine bodyPost_ret (v:=.agg cs.toArray) (by simp[results,results105,asAddr,hrs]) rfl ⟨by rw[hcs.out],hBl⟩
def xorB (x z:Int):Int:=bits .xor .u8 z x
theorem zh3 (x z:Int):0≤xorB x z∧xorB x z<256:=by
 unfold xorB
 show 0≤IntKind.u8.wrap _∧IntKind.u8.wrap _<256
 rw[IntKind.wrap_u8];omega
def xorL (x:Int) (zs:List Int):List Int:=zs.map (xorB x)
theorem zdt (x:Int) (zs:List Int):∀z∈xorL x zs,0≤z∧z<256:=fun z hz=>by
 obtain⟨u,_,rfl⟩:=List.mem_map.1 hz;exact zh3 x u
theorem zaY (x:Int) (zs:List Int):(xorL x zs).length=zs.length:=by simp[xorL]
theorem zkh {w:World} {a:Option Addr} {ps:List Part} (h:PartsAt w a ps) (cap:Nat):Src prog 1 166 (.slice a ps.length cap) ps.length (ps.map Part.val) w:=by
 have one:∀u∈ps.map Part.val,u.oneCell'=true:=fun u hu=>by
  obtain⟨p,_,rfl⟩:=List.mem_map.1 hu;rfl
 cases a with
 |none=>
  have:ps=[]:=by
   rcases h.2.2 with q|⟨b,off,hx,_⟩
   ·exact q
   ·cases hx
  subst this
  exact Src.ofNil w underlying166 cap
 |some y=>
  refine Src.ofSlice w underlying166 y ps.length cap _ (by simp) (fun j u hu=>?_) one
  rcases h.2.2 with rfl|⟨b,off,hx,_,hr⟩
  ·simp at hu
  ·cases hx
   rw[Addr.add_mid]
   exact hr j u hu
theorem zgH (x:Int) (K:Nat) (kb:List Int) (a:Option Addr) (cap:Nat) (ps:List Part) (w:World) (hG:Glob w) (hkl:kb.length=64) (hK:w.rangeAt K 0 (v8 kb)) (hKs:K<w.heap.size) (h:PartsAt w a ps) (hn:(cat ps).length<1000000) (hpl:ps.length≤100000):
   Calls prog 106 #[.int .u8 x,.slice a ps.length cap,.pointer (some ⟨K,0,none⟩)] w fun e w'=>e=.returned (.agg (v8 (sha (xorL x kb++cat ps))).toArray)∧Below w.heap.size w w':=by
  have hBr:Below w.heap.size w (w.alloc (.cells (Array.replicate 32 (.int .u8 0)) 41)):=(Below.refl _ _).alloc (Nat.le_refl _) _
  have hT0:=(zaq w 32 41).2
  have hK1:=za hK hBr hKs
  have hvl:(v8 kb).length=64:=by rw[v8_length,hkl]
  have hi:(prog.info? 169).map (·.size)=some (v8 kb).length:=by rw[hvl];exact zdh
  have hi':(prog.info? 169).map (·.size)=some (v8 kb).toArray.size:=by rw[List.size_toArray];exact hi
  have hN:=(zc6 (w.alloc (.cells (Array.replicate 32 (.int .u8 0)) 41))).2
  have hN':((w.alloc (.cells (Array.replicate 32 (.int .u8 0)) 41)).alloc (.cells (Array.replicate 64 (.int .u8 0)) 169)).there (w.heap.size+1) 0 (v8 kb).toArray.size:=by
    have e:(v8 kb).toArray.size=64:=by rw[List.size_toArray,hvl]
    rw[e]
    have es:(w.alloc (.cells (Array.replicate 32 (.int .u8 0)) 41)).heap.size=w.heap.size+1:=by simp
    rw[es]at hN
    exact hN
  have h1c:=all_oneCell_toArray (zy kb)
  have F:=zq (w.alloc (.cells (Array.replicate 32 (.int .u8 0)) 41)) (Array.replicate 64 (.int .u8 0)) 169 (v8 kb) (by rw[hvl];rfl)
  have es:(w.alloc (.cells (Array.replicate 32 (.int .u8 0)) 41)).heap.size=w.heap.size+1:=by simp
  rw[es]at F
  clear hN
  go_enter func106,ntmps106
  go_upto_region 2 with(first|refine wpList_load_mid (op:=⟨some 9,.load 169 (.tmp 2),_,_,_,none⟩) rfl 169 _ rfl _ _ rfl (v8 kb) _ hK1 underlying169 rfl hi ?_|refine wpList_store_mid (op:=⟨none,.store 169 (.tmp 6) (.tmp 9),_,_,_,none⟩) rfl 169 _ _ rfl _ _ (v8 kb).toArray rfl rfl hN' hi' h1c ?_)
  go_name_world w1 hw1
  rw[show((w.alloc (.cells (Array.replicate 32 (.int .u8 0)) 41)).alloc (.cells (Array.replicate 64 (.int .u8 0)) 169)).setCells (w.heap.size+1) 0 (v8 kb)=w1 from hw1]at F
  obtain⟨hR1,hB1',hz1,hT1⟩:=F
  have hB1:Below w.heap.size w w1:=hBr.trans (hB1'.mono (by omega))
  have hT01:=zg hT0 hB1' (by omega)
  have hT1':w1.there (w.heap.size+1) 0 64:=by simpa using hT1
  clear hw1 hB1' hT1 hN' hi hi' h1c hvl hK1 hT0 hBr es hz1
  simp only[Act.put]
  go_wp2_with fail
  go_loopw [10] (fun i wr=>∃k:Nat,k≤64∧i=.int .i64 (k:Int)∧wr.rangeAt (w.heap.size+1) 0 (v8 (xorL x (kb.take k)++kb.drop k))∧wr.there (w.heap.size+1) 0 64∧wr.there w.heap.size 0 32∧Below w.heap.size w wr∧w.heap.size+1<wr.heap.size) (fun i _=>64 - (intOf i).toNat)
  case atStart => exact ⟨0, by omega, rfl, by simpa [xorL] using hR1, hT1', hT01, hB1, World.block_lt_of_cell? w1 _ (hR1 0 (.int .u8 (kb.getD 0 0)) (by
      have h0:0<kb.length:=by omega
      simp[v8,List.getElem?_eq_getElem h0]))⟩
  case round=>
    clear hR1 hT1' hT01 hB1
    obtain⟨k,hk,rfl,hR,hT,hT0,hB,hsz⟩:=hrel
    by_cases hlt:k<64
    · have hlk:k<kb.length:=by omega
      obtain⟨z,hz⟩:∃z,Hid (kb[k]=z):=⟨kb[k],(rfl:kb[k]=kb[k])⟩
      have hcell:wr.cell? ⟨w.heap.size+1,k,none⟩=some (.int .u8 z):=by
        have:=hR k (.int .u8 z) (by
          unfold v8
          rw[List.map_append,List.getElem?_append_right (by rw[List.length_map,zaY,List.length_take];omega),List.length_map,zaY,List.length_take_of_le (by omega),Nat.sub_self,List.getElem?_map,List.getElem?_drop,Nat.add_zero,List.getElem?_eq_getElem hlk,hz.out]
          rfl)
        rwa [Nat.zero_add]at this
      have hf:=(hT k (by omega)).2
      rw[Nat.zero_add]at hf
      have HE:Hid (bits .xor .u8 z x=xorB x z):=rfl
      go_wp2_with fail
      rw[HE.out]
      go_roundw
      case rel=>
        refine⟨k+1,by omega,by go_num,?_,zP hT _ _,zP hT0 _ _,hB.setCell (p:=⟨w.heap.size+1,k,none⟩) (by simp) _,by simpa using hsz⟩
        have:=zaa hR k (.int .u8 (xorB x z))
        rw[Nat.zero_add,zb5]at this
        have e1:(xorL x (kb.take k)++kb.drop k).set k (xorB x z)=xorL x (kb.take (k+1))++kb.drop (k+1):=by
          have hl:(xorL x (kb.take k)).length=k:=by rw[zaY,List.length_take_of_le (by omega)]
          rw[List.set_append_right _ _ (by omega),hl,Nat.sub_self,List.drop_eq_getElem_cons hlk,hz.out,List.set_cons_zero,List.take_succ_eq_append_getElem hlk,hz.out]
          simp[xorL]
        rw[e1]at this
        exact this
      case measure=>simp[intOf];omega
    · have hk64:k=64:=by omega
      have hkI:¬(k:Int)<64:=by omega
      have hR64:wr.rangeAt (w.heap.size+1) 0 (v8 (xorL x kb)):=by
        rw[List.take_of_length_le (by omega),List.drop_eq_nil_of_le (by omega),List.append_nil]at hR
        exact hR
      clear hR hk64
      have hPw:=h.below hB
      obtain⟨i0,hi,hz0,hz1,hz2⟩:=zW infoP
      obtain⟨w3,hmk,hown3,hgr3⟩:=run_makeSlice_owned (P:=prog) wr (w.heap.size+2) 166 59 i0 (.slice none 0 0) 1 underlying166 hi hz0 hz1 .i64 .i64 (1+ps.length) (by omega) (by rw[hz2];omega) (by unfold maxLen;omega) (by omega)
      have hmk':(Instr.makeSlice 166 (.int .i64 0) (.int .i64 (1+(ps.length:Int)))).run prog wr=.ok (.slice (some ⟨wr.heap.size,0,none⟩) 0 (1+ps.length)) w3:=by
        have:=hmk
        rw[show((1+ps.length:Nat):Int)=1+(ps.length:Int) by omega]at this
        exact this
      have hw3:Below (w.heap.size+2) wr w3:=(Below.refl _ _).grown hgr3 (by omega) (fun _ h=>by cases h)
      have hs3:wr.heap.size≤w3.heap.size:=hw3.size
      clear hmk hgr3
      obtain⟨c0,hc0⟩:∃c0,Hid (1+ps.length=c0):=⟨_,rfl⟩
      have hown4:=zbj hown3 ((Below.refl w3.heap.size w3).alloc (Nat.le_refl _) (.cells #[.slice (some ⟨w.heap.size+1,0,none⟩) 64 64] 59))
      have hB4:Below (w.heap.size+2) wr (w3.alloc (.cells #[.slice (some ⟨w.heap.size+1,0,none⟩) 64 64] 59)):=hw3.alloc (by omega) _
      have hxl:(xorL x kb).length=64:=by rw[zaY,hkl]
      have hsrc:Src prog 1 166 (.slice (some ⟨w3.heap.size,0,none⟩) 1 1) 1 [.slice (some ⟨w.heap.size+1,0,none⟩) 64 64] (w3.alloc (.cells #[.slice (some ⟨w.heap.size+1,0,none⟩) 64 64] 59)):=by
        have:=zkA w3 ⟨some ⟨w.heap.size+1,0,none⟩,64,xorL x kb⟩
        unfold Part.val at this
        rw[hxl]at this
        exact this
      have hsl:=zbu (w:=w3) underlying169 isz8 (w.heap.size+1) 0 (by omega)
      go_wp2_with (at_builtin;refine zK _ rfl _ _ 166 166 rfl (w.heap.size+2) 59 i0 (.slice none 0 0) 1 24 underlying166 hi hz0 hz1 hz2 rfl _ 0 _ rfl hown4 _ 1 _ rfl hsrc ?c1 ?c2 ?c3 ?_)
      case c1=>unfold maxLen;omega
      case c3=>omega
      intro v5 w5 hown5 hgr5
      have hB5:=zU hB4 (by simp;omega) hown4 hgr5
      have hown5':w5.ownsRow (w.heap.size+2) 59 1 v5 1 [.slice (some ⟨w.heap.size+1,0,none⟩) 64 64]:=by simpa using hown5
      have hs5:wr.heap.size≤w5.heap.size:=hB5.size
      have hBw5:Below w.heap.size w w5:=hB.trans (hB5.mono (by omega))
      have hP5:=h.below hBw5
      have hsrc5:=zkh hP5 cap
      clear hown4 hB4 hsrc hgr5 hown3 hmk' hsl hw3 hown5
      obtain⟨va,vc,rfl⟩:∃a c,v5=.slice a 1 c:=by
        rcases za7 hown5' with⟨_,h0,_⟩|⟨g,c,e,_⟩
        · omega
        · exact⟨_,c,e⟩
      go_wp2_with (at_builtin;refine zK _ rfl _ _ 166 166 rfl (w.heap.size+2) 59 i0 (.slice none 0 0) 1 24 underlying166 hi hz0 hz1 hz2 rfl _ 1 _ rfl hown5' _ ps.length _ rfl hsrc5 ?d1 ?d2 ?d3 ?_)
      case d1=>unfold maxLen;omega
      case d2=>omega
      case d3=>omega
      intro v6 w6 hown6 hgr6
      have hB6:=zU hB5 (by omega) hown5' hgr6
      have hBw6:Below w.heap.size w w6:=hB.trans (hB6.mono (by omega))
      have hs6:wr.heap.size≤w6.heap.size:=hB6.size
      have hR6:=za hR64 hB6 (by omega)
      have hT6:=zg hT0 hB6 (by omega)
      have hat:(⟨some ⟨w.heap.size+1,0,none⟩,64,xorL x kb⟩:Part).at w6:=⟨⟨by rw[hxl];unfold maxLen;omega,zdt x kb,Or.inr ⟨_,_,rfl,by omega,hR6⟩⟩,by show(xorL x kb).length≤64;omega,by show 64≤maxLen;unfold maxLen;omega⟩
      have hown7:w6.ownsRow (w.heap.size+2) 59 1 v6 ((⟨some ⟨w.heap.size+1,0,none⟩,64,xorL x kb⟩:Part)::ps).length (((⟨some ⟨w.heap.size+1,0,none⟩,64,xorL x kb⟩:Part)::ps).map Part.val):=by
        have e:((⟨some ⟨w.heap.size+1,0,none⟩,64,xorL x kb⟩:Part)::ps).map Part.val=[.slice (some ⟨w.heap.size+1,0,none⟩) 64 64]++ps.map Part.val:=by
          simp only[List.map_cons,Part.val,hxl];rfl
        rw[e,List.length_cons,Nat.add_comm ps.length 1]
        exact hown6
      obtain⟨av,cv,rfl,hPA⟩:=zko hown7 (fun p hp=>by
        rcases List.mem_cons.1 hp with rfl|hp
        · exact hat
        · exact(h.2.1 p hp).below hBw6) (by simp;unfold maxLen;omega)
      have hcat:cat ((⟨some ⟨w.heap.size+1,0,none⟩,64,xorL x kb⟩:Part)::ps)=xorL x kb++cat ps:=by simp[cat]
      have c1:=zdL av cv _ w6 (hG.below hBw6) hPA (by rw[hcat,List.length_append,hxl];omega)
      rw[hcat]at c1
      have hlen:((⟨some ⟨w.heap.size+1,0,none⟩,64,xorL x kb⟩:Part)::ps).length=1+ps.length:=by simp;omega
      rw[hlen]at c1 ⊢
      obtain⟨d,hd⟩:∃d,Hid (v8 (sha (xorL x kb++cat ps))=d):=⟨_,rfl⟩
      have hdl:d.length=32:=by rw[←hd.out,v8_length,za0]
      have h1d:∀v∈d,v.oneCell'=true:=by rw[←hd.out];exact zy _
      rw[hd.out]at c1
      clear hown6 hown7 hPA hcat hlen hgr6 hB6 hB5 hown5' hsrc5 hP5 hat hR6
      go_wp2_with fail
      refine c1.mono ?_
      rintro e w7 ⟨rfl,hw7⟩
      have hB7:=hBw6.trans (hw7.mono hBw6.size)
      have hT7:=zg hT6 hw7 (by omega)
      have hi24:(prog.info? 41).map (·.size)=some d.toArray.size:=by rw[List.size_toArray,hdl];exact zbm
      have hsz24:d.toArray.size=32:=by rw[List.size_toArray,hdl]
      have hT7':w7.there w.heap.size 0 d.toArray.size:=by rw[hsz24];exact hT7
      clear c1 hw7
      go_wp2_with (refine wpList_store_mid (op:=⟨none,.store 41 (.tmp 5) (.tmp 31),_,_,_,none⟩) rfl 41 _ _ rfl _ _ d.toArray rfl rfl hT7' hi24 (all_oneCell_toArray h1d) ?_)
      have hRr:=World.rangeAt_setCells_same w7 w.heap.size 0 d (by rw[hdl];exact hT7)
      have hBl:=zi (Nat.le_refl w.heap.size) d 0 w7 hB7
      have hrs:=run_loadVar_mid (P:=prog) (w7.setCells w.heap.size 0 d) w.heap.size 0 41 d _ hRr underlying41 rfl (by rw[hdl];exact zbm)
      refine bodyPost_ret (v:=.agg d.toArray) (by simp[results,results106,Act.put,asAddr,hrs]) rfl ⟨by rw[hd.out],hBl⟩
end Go.Proofs.YtcbpbkefggekmaaGreatDoor.Qs
namespace Go.Proofs.YtcbpbkefggekmaaGreatDoor.Sha
open Go.Proofs.YtcbpbkefggekmaaGreatDoor.Qs
open Go.RowKit
open Sha
def mac (key zs:List Int):List Int:=sha (xorL 92 (macBlock key)++sha (xorL 54 (macBlock key)++zs))
end Go.Proofs.YtcbpbkefggekmaaGreatDoor.Sha
namespace Go.Proofs.YtcbpbkefggekmaaGreatDoor.Qs
open Go.RowKit
open Sha
theorem zed (key zs:List Int):(mac key zs).length=32:=za0 _
theorem zkY (key zs:List Int):∀z∈mac key zs,0≤z∧z<256:=zbP _
theorem zcK (w:World) (d:List Int) (hd:d.length=32):(w.alloc (.cells (Array.replicate 32 (.int .u8 0)) 41)).there w.heap.size 0 (v8 d).toArray.size:=by
 have e:(v8 d).toArray.size=32:=by rw[List.size_toArray,v8_length,hd]
 rw[e];exact(zaq w 32 41).2
theorem zbn (d:List Int) (hd:d.length=32):(prog.info? 41).map (·.size)=some (v8 d).toArray.size:=by rw[List.size_toArray,v8_length,hd];exact zbm
theorem zkZ (ka:Option Addr) (kc:Nat) (key:List Int) (a:Option Addr) (cap:Nat) (ps:List Part) (w:World) (hG:Glob w) (hk:RowAt w ka key) (hkc:key.length≤kc) (hkm:kc≤maxLen) (hkl:key.length≤1000000) (h:PartsAt w a ps) (hn:(cat ps).length<1000000) (hpl:ps.length≤100000):
   Calls prog 64 #[.slice ka key.length kc,.slice a ps.length cap] w fun e w'=>e=.returned (.agg (v8 (mac key (cat ps))).toArray)∧Below w.heap.size w w':=by
  have hB0:Below w.heap.size w (w.alloc (.cells (Array.replicate 32 (.int .u8 0)) 41)):=(Below.refl _ _).alloc (Nat.le_refl _) _
  have hT0:=(zaq w 32 41).2
  have cb:=zna ka kc key _ (hG.below hB0) (hk.below hB0) hkc hkm hkl
  obtain⟨kb,hkb⟩:∃kb,Hid (macBlock key=kb):=⟨_,rfl⟩
  have hbl:kb.length=64:=by rw[←hkb.out];exact zbY key
  have HM:Hid (mac key (cat ps)=sha (xorL 92 kb++sha (xorL 54 kb++cat ps))):=by rw[←hkb.out];rfl
  rw[hkb.out]at cb
  clear hkb
  have hsb:(v8 kb).length=64:=by rw[v8_length,hbl]
  go_enter func64,ntmps64
  go_wp2_with fail
  refine cb.mono ?_
  rintro e w1 ⟨rfl,hw1⟩
  clear cb
  have hB1:=hB0.trans (hw1.mono hB0.size)
  have hs1:=hw1.size
  simp only[World.size_alloc]at hs1
  have hT1:=zg hT0 hw1 (by simp)
  have F:=zq w1 (Array.replicate 64 (.int .u8 0)) 169 (v8 kb) (by rw[hsb];rfl)
  have hN:(w1.alloc (.cells (Array.replicate 64 (.int .u8 0)) 169)).there w1.heap.size 0 (v8 kb).toArray.size:=by
    have e:(v8 kb).toArray.size=64:=by rw[List.size_toArray,hsb]
    rw[e];exact(zc6 w1).2
  have hi:(prog.info? 169).map (·.size)=some (v8 kb).toArray.size:=by rw[List.size_toArray,hsb];exact zdh
  have h1c:=all_oneCell_toArray (zy kb)
  go_upto_region 3 with(refine wpList_store_mid (op:=⟨none,.store 169 (.tmp 5) (.tmp 9),_,_,_,none⟩) rfl 169 _ _ rfl _ _ (v8 kb).toArray rfl rfl hN hi h1c ?_)
  go_name_world w2 hw2
  rw[show(w1.alloc (.cells (Array.replicate 64 (.int .u8 0)) 169)).setCells w1.heap.size 0 (v8 kb)=w2 from hw2]at F
  obtain⟨hR2,hB2',hz2',_⟩:=F
  have hz2:w1.heap.size<w2.heap.size:=by omega
  clear hz2'
  clear hw2 hN hi h1c hw1 hT0 hB0
  have hB2:=hB1.trans (hB2'.mono hB1.size)
  have hT2:=zg hT1 hB2' (by omega)
  have c1:=zgH 54 w1.heap.size kb a cap ps w2 (hG.below hB2) hbl hR2 (by omega) (h.below hB2) hn hpl
  obtain⟨d,hd⟩:∃d,Hid (sha (xorL 54 kb++cat ps)=d):=⟨_,rfl⟩
  have hdl:d.length=32:=by rw[←hd.out];exact za0 _
  have hdo:∀z∈d,0≤z∧z<256:=by rw[←hd.out];exact zbP _
  rw[hd.out]at c1 HM
  clear hd hB1 hT1
  try simp only[Act.put]
  go_wp2_with fail
  refine c1.mono ?_
  rintro e w3 ⟨rfl,hw3⟩
  clear c1
  have hB3:=hB2.trans (hw3.mono hB2.size)
  have hT3:=zg hT2 hw3 (by omega)
  have hR3:=za hR2 hw3 (by omega)
  have hs3:=hw3.size
  have F:=zq w3 (Array.replicate 32 (.int .u8 0)) 41 (v8 d) (by rw[v8_length,hdl];rfl)
  have hN:=zcK w3 d hdl
  have hi:=zbn d hdl
  have h1c:=all_oneCell_toArray (zy d)
  go_upto_region 4 with(refine wpList_store_mid (op:=⟨none,.store 41 (.tmp 7) (.tmp 13),_,_,_,none⟩) rfl 41 _ _ rfl _ _ (v8 d).toArray rfl rfl hN hi h1c ?_)
  go_name_world w4 hw4
  rw[show(w3.alloc (.cells (Array.replicate 32 (.int .u8 0)) 41)).setCells w3.heap.size 0 (v8 d)=w4 from hw4]at F
  obtain⟨hR4,hB4',hz4',_⟩:=F
  have hz4:w3.heap.size<w4.heap.size:=by omega
  clear hz4'
  clear hw4 hN hi h1c hw3 hR2 hT2
  have hB4:=hB3.trans (hB4'.mono hB3.size)
  have hT4:=zg hT3 hB4' (by omega)
  have hR4k:=za hR3 hB4' (by omega)
  have hsl:=zbu (w:=w4) underlying41 isz8 w3.heap.size 0 (by omega)
  have hat:(⟨some ⟨w3.heap.size,0,none⟩,32,d⟩:Part).at w4:=⟨⟨by rw[hdl];unfold maxLen;omega,hdo,Or.inr ⟨_,_,rfl,by omega,hR4⟩⟩,by show d.length≤32;omega,by show 32≤maxLen;unfold maxLen;omega⟩
  have hP:=zc3 w4 #[.slice (some ⟨w3.heap.size,0,none⟩) 32 32] ⟨some ⟨w3.heap.size,0,none⟩,32,d⟩ hat (by simp only[Part.val,hdl])
  have hBp:Below w.heap.size w (w4.alloc (.cells #[.slice (some ⟨w3.heap.size,0,none⟩) 32 32] 59)):=hB4.alloc hB4.size _
  have hBq:Below w4.heap.size w4 (w4.alloc (.cells #[.slice (some ⟨w3.heap.size,0,none⟩) 32 32] 59)):=(Below.refl _ _).alloc (Nat.le_refl _) _
  have hcz:cat [(⟨some ⟨w3.heap.size,0,none⟩,32,d⟩:Part)]=d:=by simp[cat]
  have c2:=zgH 92 w1.heap.size kb _ 1 _ _ (hG.below hBp) hbl (za hR4k hBq (by omega)) (by simp;omega) hP (by rw[hcz];omega) (by simp)
  rw[hcz]at c2
  simp only[List.length_cons,List.length_nil,Nat.zero_add]at c2
  obtain⟨m,hm⟩:∃m,Hid (sha (xorL 92 kb++d)=m):=⟨_,rfl⟩
  have hml:m.length=32:=by rw[←hm.out];exact za0 _
  rw[hm.out]at c2 HM
  clear hP hat hcz hm
  try simp only[Act.put]
  go_wp2_with fail
  refine c2.mono ?_
  rintro e w5 ⟨rfl,hw5⟩
  clear c2
  have hB5:=hBp.trans (hw5.mono hBp.size)
  have hT5':=zg (zg hT4 hBq (by omega)) hw5 (by simp;omega)
  have hT5:w5.there w.heap.size 0 (v8 m).toArray.size:=by
    have e:(v8 m).toArray.size=32:=by rw[List.size_toArray,v8_length,hml]
    rw[e];exact hT5'
  have hi:=zbn m hml
  have h1c:=all_oneCell_toArray (zy m)
  clear hw5 hBq hBp
  go_wp2_with (refine wpList_store_mid (op:=⟨none,.store 41 (.tmp 4) (.tmp 17),_,_,_,none⟩) rfl 41 _ _ rfl _ _ (v8 m).toArray rfl rfl hT5 hi h1c ?_)
  have hRr:=World.rangeAt_setCells_same w5 w.heap.size 0 (v8 m) (by rw[v8_length,hml];exact hT5')
  have hBl:=zi (Nat.le_refl w.heap.size) (v8 m) 0 w5 hB5
  have hrs:=run_loadVar_mid (P:=prog) (w5.setCells w.heap.size 0 (v8 m)) w.heap.size 0 41 (v8 m) _ hRr underlying41 rfl (by simpa using hi)
  refine bodyPost_ret (v:=.agg (v8 m).toArray) (by simp[results,results64,Act.put,asAddr,hrs]) rfl ⟨by rw[HM.out],hBl⟩
theorem zgg (ka:Option Addr) (kc:Nat) (key:List Int) (x:Int) (w:World) (hk:RowAt w ka key) (hkl:key.length≤1000000):
   Calls prog 99 #[.slice ka key.length kc,.int .u8 x] w fun e w'=>∃v,e=.returned v∧w'.ownsRow w.heap.size 5 1 v 64 (v8 (xorL x (macBlock key)))∧Below w.heap.size w w':=by
  obtain⟨i0,hi,hz0,hz1,hz2⟩:=zW zat
  obtain⟨kb,HB⟩:∃kb,Hid (macBlock key=kb):=⟨_,rfl⟩
  have HL:Hid (kb.length=64):=by show _=_;rw[←HB.out];exact zbY key
  rw[HB.out]
  by_cases hlong:64<key.length
  · have hlI:(64:Int)<key.length:=by omega
    have ek:macKey key=sha key:=by unfold macKey;rw[if_pos hlong]
    have HKB0:Hid (sha key++List.replicate (64 - (sha key).length) 0=kb):=by show _=_;rw[←HB.out];unfold macBlock;rw[ek]
    have c1:=zcT ka kc key w hk hkl
    obtain⟨ks,hks0⟩:∃ks,Hid (sha key=ks):=⟨_,rfl⟩
    have hkl':ks.length=32:=by rw[←hks0.out];exact za0 _
    have hko:∀z∈ks,0≤z∧z<256:=by rw[←hks0.out];exact zbP _
    rw[hks0.out]at c1 HKB0
    have HKB:=HKB0
    clear hks0 ek HKB0 HB
    go_enter func99,ntmps99
    go_wp2_with fail
    refine c1.mono ?_
    rintro e w0 ⟨rfl,hw0⟩
    clear c1
    go_wp2_with fail
    refine(zeC ks w0 hkl').mono ?_
    rintro e w1 ⟨v1,rfl,hown1,hw1⟩
    obtain⟨ka,kc,rfl,hc1,hc2,hrow⟩:=zbV hown1 hko (by rw[hkl'];unfold maxLen;omega)
    have hBw:Below w.heap.size w w1:=hw0.trans (hw1.mono hw0.size)
    clear hown1 hw1 hw0
    have hk32:ks.length≤64:=by omega
    clear hkl' hk
    have hsz1:(w1.heap.size:Nat)=w1.heap.size:=rfl
    go_wp2_with fail
    go_loopw [5,6] (fun v i wr=>∃k:Nat,k≤64∧i=.int .i64 (k:Int)∧wr.ownsRow w1.heap.size 5 1 v k (v8 ((xorL x kb).take k))∧Below w1.heap.size w1 wr) (fun _ i _=>64 - (intOf i).toNat)
    case atStart=>exact⟨0,by omega,rfl,by simpa [v8]using World.ownsRow_nil w1 w1.heap.size 5 1,Below.refl _ _⟩
    case round=>
      obtain⟨k,hk,rfl,hown,hB⟩:=hrel
      by_cases hlt:k<64
      · have hsz:=hB.size
        obtain⟨z,hz⟩:∃z,Hid (kb.getD k 0=z):=⟨_,rfl⟩
        have HE:Hid (bits .xor .u8 z x=xorB x z):=rfl
        have hown2:=zbj hown ((Below.refl wr.heap.size wr).alloc (Nat.le_refl _) (.cells #[.int .u8 (xorB x z)] 5))
        have hB2:Below w1.heap.size w1 (wr.alloc (.cells #[.int .u8 (xorB x z)] 5)):=hB.alloc (by omega) _
        have hsrc2:=zb1 wr (xorB x z)
        have hfin:Hid ((xorL x kb).take (k+1)=(xorL x kb).take k++[xorB x z]):=by
          show _=_
          have hl:k<(xorL x kb).length:=by rw[zaY,HL.out];exact hlt
          have hl':k<kb.length:=by rw[HL.out];exact hlt
          rw[List.take_succ_eq_append_getElem hl]
          congr 2
          simp only[xorL,List.getElem_map]
          rw[←hz.out,List.getD_eq_getElem?_getD,List.getElem?_eq_getElem hl'];rfl
        rw[←HE.out]at hown2 hB2 hsrc2
        by_cases hks:k<ks.length
        · obtain ⟨b, off, rfl, hbs, hrg⟩ : ∃ b off, ka = some ⟨b, off, none⟩ ∧ b < w1.heap.size ∧ w1.rangeAt b off (v8 ks) := by
            rcases hrow.2.2 with rfl|q
            · simp at hks
            · exact q
          have hc:wr.cell? ⟨b,off+k,none⟩=some (.int .u8 z):=by
            have:=get8 (za hrg hB hbs) (i:=k) hks
            have e:ks.getD k 0=z:=by
              rw[←hz.out,←HKB.out,List.getD_eq_getElem?_getD,List.getD_eq_getElem?_getD,List.getElem?_append_left hks]
            rwa [e]at this
          go_wp2_with (at_builtin;refine zK _ rfl _ _ 59 59 rfl w1.heap.size 5 i0 (.int .u8 0) 1 1 underlying59 hi hz0 hz1 hz2 rfl _ k _ rfl hown2 _ 1 _ rfl hsrc2 ?c1 ?c2 ?c3 ?_)
          case c1=>unfold maxLen;omega
          case c2=>omega
          case c3=>simp;omega
          intro v4 w4 hown4 hgr4
          have hB4:=zU hB2 (by simp;omega) hown2 hgr4
          clear hown2 hB2 hsrc2 hgr4 hown
          go_wp2_with fail
          go_roundw
          case rel=>
            refine⟨k+1,by omega,by go_num,?_,hB4⟩
            rw[hfin.out,zS,←HE.out];exact hown4
          case measure=>simp[intOf];omega
        · have hzz : z = 0 := by
            rw[←hz.out,←HKB.out,List.getD_eq_getElem?_getD,List.getElem?_append_right (by omega),List.getElem?_replicate]
            split<;>rfl
          subst hzz
          go_wp2_with (at_builtin;refine zK _ rfl _ _ 59 59 rfl w1.heap.size 5 i0 (.int .u8 0) 1 1 underlying59 hi hz0 hz1 hz2 rfl _ k _ rfl hown2 _ 1 _ rfl hsrc2 ?e1 ?e2 ?e3 ?_)
          case e1=>unfold maxLen;omega
          case e2=>omega
          case e3=>simp;omega
          intro v4 w4 hown4 hgr4
          have hB4:=zU hB2 (by simp;omega) hown2 hgr4
          clear hown2 hB2 hsrc2 hgr4 hown
          go_wp2_with fail
          go_roundw
          case rel=>
            refine⟨k+1,by omega,by go_num,?_,hB4⟩
            rw[hfin.out,zS,←HE.out];exact hown4
          case measure=>simp[intOf];omega
      · have hk64:k=64:=by omega
        subst hk64
        have hall:Hid ((xorL x kb).take 64=xorL x kb):=by
          show _=_
          rw[List.take_of_length_le (by rw[zaY,HL.out];omega)]
        rw[hall.out]at hown
        go_wp2
        go_ret
        exact⟨_,rfl,zcj hown hBw.size,hBw.trans (hB.mono hBw.size)⟩
  · have hlI:¬(64:Int)<key.length:=by omega
    have ek:macKey key=key:=by unfold macKey;rw[if_neg hlong]
    have HKB:Hid (key++List.replicate (64 - key.length) 0=kb):=by show _=_;rw[←HB.out];unfold macBlock;rw[ek]
    have hrow:=hk
    have hBw:=Below.refl w.heap.size w
    clear HB ek
    go_enter func99,ntmps99
    have hsz1:(w.heap.size:Nat)=w.heap.size:=rfl
    go_wp2_with fail
    go_loopw [5,6] (fun v i wr=>∃k:Nat,k≤64∧i=.int .i64 (k:Int)∧wr.ownsRow w.heap.size 5 1 v k (v8 ((xorL x kb).take k))∧Below w.heap.size w wr) (fun _ i _=>64 - (intOf i).toNat)
    case atStart=>exact⟨0,by omega,rfl,by simpa [v8]using World.ownsRow_nil w w.heap.size 5 1,Below.refl _ _⟩
    case round=>
      obtain⟨k,hk,rfl,hown,hB⟩:=hrel
      by_cases hlt:k<64
      · have hsz:=hB.size
        obtain⟨z,hz⟩:∃z,Hid (kb.getD k 0=z):=⟨_,rfl⟩
        have HE:Hid (bits .xor .u8 z x=xorB x z):=rfl
        have hown2:=zbj hown ((Below.refl wr.heap.size wr).alloc (Nat.le_refl _) (.cells #[.int .u8 (xorB x z)] 5))
        have hB2:Below w.heap.size w (wr.alloc (.cells #[.int .u8 (xorB x z)] 5)):=hB.alloc (by omega) _
        have hsrc2:=zb1 wr (xorB x z)
        have hfin:Hid ((xorL x kb).take (k+1)=(xorL x kb).take k++[xorB x z]):=by
          show _=_
          have hl:k<(xorL x kb).length:=by rw[zaY,HL.out];exact hlt
          have hl':k<kb.length:=by rw[HL.out];exact hlt
          rw[List.take_succ_eq_append_getElem hl]
          congr 2
          simp only[xorL,List.getElem_map]
          rw[←hz.out,List.getD_eq_getElem?_getD,List.getElem?_eq_getElem hl'];rfl
        rw[←HE.out]at hown2 hB2 hsrc2
        by_cases hks:k<key.length
        · obtain ⟨b, off, rfl, hbs, hrg⟩ : ∃ b off, ka = some ⟨b, off, none⟩ ∧ b < w.heap.size ∧ w.rangeAt b off (v8 key) := by
            rcases hrow.2.2 with rfl|q
            · simp at hks
            · exact q
          have hc:wr.cell? ⟨b,off+k,none⟩=some (.int .u8 z):=by
            have:=get8 (za hrg hB hbs) (i:=k) hks
            have e:key.getD k 0=z:=by
              rw[←hz.out,←HKB.out,List.getD_eq_getElem?_getD,List.getD_eq_getElem?_getD,List.getElem?_append_left hks]
            rwa [e]at this
          go_wp2_with (at_builtin;refine zK _ rfl _ _ 59 59 rfl w.heap.size 5 i0 (.int .u8 0) 1 1 underlying59 hi hz0 hz1 hz2 rfl _ k _ rfl hown2 _ 1 _ rfl hsrc2 ?f1 ?f2 ?f3 ?_)
          case f1=>unfold maxLen;omega
          case f2=>omega
          case f3=>simp;omega
          intro v4 w4 hown4 hgr4
          have hB4:=zU hB2 (by simp;omega) hown2 hgr4
          clear hown2 hB2 hsrc2 hgr4 hown
          go_wp2_with fail
          go_roundw
          case rel=>
            refine⟨k+1,by omega,by go_num,?_,hB4⟩
            rw[hfin.out,zS,←HE.out];exact hown4
          case measure=>simp[intOf];omega
        · have hzz : z = 0 := by
            rw[←hz.out,←HKB.out,List.getD_eq_getElem?_getD,List.getElem?_append_right (by omega),List.getElem?_replicate]
            split<;>rfl
          subst hzz
          go_wp2_with (at_builtin;refine zK _ rfl _ _ 59 59 rfl w.heap.size 5 i0 (.int .u8 0) 1 1 underlying59 hi hz0 hz1 hz2 rfl _ k _ rfl hown2 _ 1 _ rfl hsrc2 ?g1 ?g2 ?g3 ?_)
          case g1=>unfold maxLen;omega
          case g2=>omega
          case g3=>simp;omega
          intro v4 w4 hown4 hgr4
          have hB4:=zU hB2 (by simp;omega) hown2 hgr4
          clear hown2 hB2 hsrc2 hgr4 hown
          go_wp2_with fail
          go_roundw
          case rel=>
            refine⟨k+1,by omega,by go_num,?_,hB4⟩
            rw[hfin.out,zS,←HE.out];exact hown4
          case measure=>simp[intOf];omega
      · have hk64:k=64:=by omega
        subst hk64
        have hall:Hid ((xorL x kb).take 64=xorL x kb):=by
          show _=_
          rw[List.take_of_length_le (by rw[zaY,HL.out];omega)]
        rw[hall.out]at hown
        go_wp2
        go_ret
        exact⟨_,rfl,zcj hown hBw.size,hBw.trans (hB.mono hBw.size)⟩
end Go.Proofs.YtcbpbkefggekmaaGreatDoor.Qs
