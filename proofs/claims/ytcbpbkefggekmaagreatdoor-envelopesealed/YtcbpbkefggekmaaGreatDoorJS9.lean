/- message.bare at each kind; allMay; which requests, signs, envelopes, batches, certs may be; which certs and changes may be -/
import Derived.Test.YtcbpbkefggekmaaGreatDoorJS0
import Derived.Test.YtcbpbkefggekmaaGreatDoorJS8
set_option maxHeartbeats 4000000
set_option maxRecDepth 100000
open Go.Proofs.Tryz
namespace Go.Proofs.YtcbpbkefggekmaaGreatDoor
open Go.RowKit
open Sha Tal
theorem iszNs:(prog.info? 47).map (·.size)=some 1:=by kernel_rfl
theorem iszSs:(prog.info? 48).map (·.size)=some 1:=by kernel_rfl
theorem iszS:(prog.info? 9).map (·.size)=some 1:=by kernel_rfl
theorem zgu {v:Value} (h:v.oneCell'=true):v.cells=#[v]:=by
 cases v<;>first|rfl|simp[Value.oneCell']at h
theorem loadC {P:Program} (w:World) {b o:Nat} {ty:TypeId} {v:Value} {d:TypeDesc} (hc:w.cell? ⟨b,o,none⟩=some v) (hu:P.underlying ty=some d) (hd:d.isRow=false):(loadVar ty ⟨b,o,none⟩).run P w=.ok v w:=by
 simp only[loadVar,isAgg,run_underlying hu,Sem.run_bind,Result.andThen_ok]
 cases d<;>first|(simp[TypeDesc.isRow]at hd;done)|simp[go_sem,hc]
theorem zih {P:Program} {ops:Array Oper} {rest:List Oper} {op:Oper} {a:Act} {w:World} {Q:Exit→Act→World→Prop} (hgd:op.guard=none) (ty:TypeId) (x:Operand) (ho:op.op=.load ty x)
  (b o:Nat) (hx:a.eval x=.pointer (some ⟨b,o,none⟩)) (v:Value) (d:TypeDesc) (hc:w.cell? ⟨b,o,none⟩=some v) (hu:P.underlying ty=some d) (hd:d.isRow=false)
  (h:wpList P ops Q rest (a.put op.dst v) w):wpList P ops Q (op::rest) a w:=
 wpList_plain hgd fun _ hK=>by
  unfold Oper.wp
  rw[zu ho hx (loadC w hc hu hd)]
  exact hK _ _ h
def Ms.bare1 (m:Ms):Ms:={Ms.plain 1 0 0 Vt.zero zd with q:=m.q,rs:=m.rs,e:=m.e,s:=m.s}
theorem Ms.bare1_ok {m:Ms} (hm:m.ok):m.bare1.ok:=by
 have oc:=Ms.plain_ok 1 0 0 Vt.zero_ok zt zx
 exact⟨by first|exact hm.vt|exact oc.vt,by first|exact hm.ct|exact oc.ct,by first|exact hm.dl|exact oc.dl,by first|exact hm.db|exact oc.db,by first|exact hm.rs|rfl,by first|exact hm.he|rfl,by first|exact hm.ne|rfl,by first|exact hm.cs|rfl,by first|exact hm.sg|rfl⟩
theorem zhU (m:Ms) (hm:m.ok) (hk:m.k=1) (w:World):Calls prog 85 #[.agg m.cells.toArray] w (BareOk w m.bare1.cells):=by
  have oc:=Ms.plain_ok 1 0 0 Vt.zero_ok zt zx
  have hz0:Ms.zero.ok:=Ms.plain_ok 0 0 0 Vt.zero_ok zt zx
  have od:=Ms.bare1_ok hm
  have lk:=oc.len
  have lz:=hz0.len
  have ld:=od.len
  have ok:=all_oneCell_toArray oc.one
  have om:=all_oneCell_toArray od.one
  have hz:=zeroM
  have hbk:=zao 1
  have hat:∀(w':World) b,w'.rangeAt b 0 m.cells→w'.cell? ⟨b,0,none⟩=some (.int .i64 1)∧w'.rangeAt b 5 ([.bool m.q,m.rs])∧w'.cell? ⟨b,1,none⟩=some (.int .i64 m.e)∧w'.cell? ⟨b,4,none⟩=some (.int .i64 m.s):=fun w' b h=>by
    have M:=hm.at h
    exact⟨(by rw[←hk];exact M.k),(fun j v hj=>by
    match j,hj with
    |0,hj=>cases hj;exact M.q
    |1,hj=>cases hj;exact M.rs),M.e,M.s⟩
  have hput1:∀(X:World) b,X.rangeAt b 0 (Ms.plain 1 0 0 Vt.zero zd).cells→X.there b 0 119→(X.setCells b 5 ([.bool m.q,m.rs])).rangeAt b 0 ({(Ms.plain 1 0 0 Vt.zero zd)with q:=m.q,rs:=m.rs}:Ms).cells:=fun X b r0 t0=>by
    have t1:X.there b 5 2:=by have:=zL t0 5 2 (by omega);rwa [Nat.zero_add]at this
    exact zcX m.q m.rs r0 t1
  have hput2:∀(X:World) b,X.rangeAt b 0 ({(Ms.plain 1 0 0 Vt.zero zd)with q:=m.q,rs:=m.rs}:Ms).cells→X.there b 0 119→(X.setCells b 1 ([.int .i64 m.e])).rangeAt b 0 ({({(Ms.plain 1 0 0 Vt.zero zd)with q:=m.q,rs:=m.rs}:Ms)with e:=m.e}:Ms).cells:=fun X b r0 t0=>by
    have t1:X.there b 1 1:=by have:=zL t0 1 1 (by omega);rwa [Nat.zero_add]at this
    exact zbi m.e r0 t1
  have hput3:∀(X:World) b,X.rangeAt b 0 ({({(Ms.plain 1 0 0 Vt.zero zd)with q:=m.q,rs:=m.rs}:Ms)with e:=m.e}:Ms).cells→X.there b 0 119→(X.setCells b 4 ([.int .i64 m.s])).rangeAt b 0 m.bare1.cells:=fun X b r0 t0=>by
    have t1:X.there b 4 1:=by have:=zL t0 4 1 (by omega);rwa [Nat.zero_add]at this
    exact zcW m.s r0 t1
  have im:(prog.info? 52).map (·.size)=some m.bare1.cells.length:=by rw[ld];exact iszM
  have im':(prog.info? 52).map (·.size)=some m.bare1.cells.toArray.size:=by rw[List.size_toArray,ld];exact iszM
  have ik':(prog.info? 52).map (·.size)=some (Ms.plain 1 0 0 Vt.zero zd).cells.toArray.size:=by rw[List.size_toArray,lk];exact iszM
  have l_b:([.bool m.q,m.rs]).length=2:=rfl
  have o_b:=all_oneCell_toArray (cs:=[.bool m.q,m.rs]) (fun v hv=>by simp only[List.mem_cons,List.not_mem_nil,or_false]at hv;rcases hv with rfl|rfl<;>first|rfl|exact hm.rs)
  have i_b:(prog.info? 39).map (·.size)=some ([.bool m.q,m.rs]).length:=by rw[l_b];exact iszB
  have j_b:(prog.info? 39).map (·.size)=some ([.bool m.q,m.rs]).toArray.size:=by rw[List.size_toArray,l_b];exact iszB
  clear oc hz0 od hm hk
  generalize m.bare1.cells=qr at *
  generalize ({(Ms.plain 1 0 0 Vt.zero zd)with q:=m.q,rs:=m.rs}:Ms).cells=C1 at *
  generalize ({({(Ms.plain 1 0 0 Vt.zero zd)with q:=m.q,rs:=m.rs}:Ms)with e:=m.e}:Ms).cells=C2 at *
  generalize m.cells=q at *
  generalize (Ms.plain 1 0 0 Vt.zero zd).cells=qk at *
  generalize Ms.zero.cells=z at *
  generalize ([.bool m.q,m.rs])=u_b at *
  generalize m.e=x_e at *
  generalize m.s=x_s at *
  obtain⟨hA,hT,hB,hs⟩:=zbd q z w lz
  go_enter func85,ntmps85
  go_upto_region 1 with fail
  go_name_world w1 hw1
  rw[show(w.alloc (.cells q.toArray 52)).alloc (.cells z.toArray 52)=w1 from hw1]at hA hT hB hs
  clear hw1
  have c0:=(hat _ _ hA).1
  obtain⟨r2,hB2,hs2,hT2⟩:=zq w1 z.toArray 52 qk (by rw[List.size_toArray,lz,lk])
  rw[show z.toArray.size=119 by simpa using lz]at hT2
  have hTz:(w1.alloc (.cells z.toArray 52)).there w1.heap.size 0 qk.toArray.size:=by
    have:=zE w1 z.toArray 52
    rw[show z.toArray.size=119 by simpa using lz]at this
    rw[show qk.toArray.size=119 by simpa using lk]
    exact this
  go_upto_region 2 with(first|(refine zaZ rfl 52 [(0,.tmp 5)] rfl [(0,.int .i64 1)] _ rfl (hbk _) ?_)|refine wpList_store_mid rfl 52 _ _ rfl _ _ qk.toArray rfl rfl hTz ik' ok ?_)
  go_name_world w2 hw2
  rw[show(w1.alloc (.cells z.toArray 52)).setCells w1.heap.size 0 qk=w2 from hw2]at r2 hB2 hs2 hT2
  have hs2':w1.heap.size<w2.heap.size:=by omega
  clear hw2 hs2 hTz
  have H:Bst w w2 w1.heap.size q:=⟨za hA hB2 (by omega),hT2,zg hT hB2 (by omega),hB.trans (hB2.mono (by omega)),hs,hs2'⟩
  clear hA hT hB hB2 c0 hT2
  have F_b:=(hat _ _ H.A).2.1
  have ck:=(hat _ _ H.A).1
  have P_b:=H.part 5 2 (by omega)
  have Q_b:w2.there w1.heap.size 5 u_b.toArray.size:=by rw[show u_b.toArray.size=2 by simpa using l_b];exact P_b
  go_upto_region 12 with(first|(refine wpList_load_mid rfl 39 _ rfl _ _ rfl u_b _ F_b underlying39 rfl i_b ?_)|(refine wpList_store_mid rfl 39 _ _ rfl _ _ u_b.toArray rfl rfl Q_b j_b o_b ?_))
  have r2:=hput1 _ _ r2 H.T
  replace H:=H.put 5 (u_b)
  clear F_b P_b Q_b
  obtain⟨w5,hw5⟩:∃w5,((w2).setCells w1.heap.size 5 (u_b)).drew=w5:=⟨_,rfl⟩
  have hBd:Below ((w2).setCells w1.heap.size 5 (u_b)).heap.size ((w2).setCells w1.heap.size 5 (u_b)) w5:=by rw[←hw5];exact(Below.refl _ _).drew
  have r2:=za r2 hBd H.hs
  replace H:=H.below hBd
  refine zw (S:=fun w'=>w'.rangeAt w.heap.size 0 q) 8 rfl (by kernel_rfl) ?_
  rw[hw5]
  have hS:=H.A
  have h02:=H.h2
  refine hs_a 0 28 hS ?_
  refine hs_v 1 29 (.int .i64 x_e) rfl (fun w' hw=>zu rfl rfl (loadC w' ((hat _ _ hw).2.2.1) underlying3 rfl)) hS ?_
  refine hs_a 2 30 hS ?_
  refine hs_v 3 31 (.int .i64 x_s) rfl (fun w' hw=>zu rfl rfl (loadC w' ((hat _ _ hw).2.2.2) underlying3 rfl)) hS ?_
  refine hs_a 4 32 hS ?_
  refine zG (i:=5) (w':=(w5).setCells w1.heap.size 1 ([.int .i64 x_e])) rfl (by kernel_rfl) (by rfl) (zaM rfl rfl rfl (zaS _ _ _ _ (.int .i64 x_e) (H.part 1 1 (by omega)) iszI rfl rfl)) rfl (H.put 1 ([.int .i64 x_e])).A ?_
  have r2:=hput2 _ _ r2 H.T
  replace H:=H.put 1 ([.int .i64 x_e])
  have hS:=H.A
  refine hs_a 6 33 hS ?_
  refine zG (i:=7) (w':=((w5).setCells w1.heap.size 1 ([.int .i64 x_e])).setCells w1.heap.size 4 ([.int .i64 x_s])) rfl (by kernel_rfl) (by rfl) (zaM rfl rfl rfl (zaS _ _ _ _ (.int .i64 x_s) (H.part 4 1 (by omega)) iszI rfl rfl)) rfl (H.put 4 ([.int .i64 x_s])).A ?_
  have r2:=hput3 _ _ r2 H.T
  replace H:=H.put 4 ([.int .i64 x_s])
  have hS:=H.A
  refine zv (by kernel_rfl) ?_
  clear hBd
  go_upto_region 20 with fail
  go_name_world w3 hw3
  rw[show((w5).setCells w1.heap.size 1 ([.int .i64 x_e])).setCells w1.heap.size 4 ([.int .i64 x_s])=w3 from hw3]at r2 H
  clear hw3
  have hT3:w3.there (w.heap.size+1) 0 qr.toArray.size:=by
    rw[show qr.toArray.size=119 by simpa using ld]
    exact H.T1
  have hB3:=H.B
  have r4:=World.rangeAt_setCells_same w3 (w.heap.size+1) 0 qr (by have:=hT3;rwa [List.size_toArray]at this)
  have hB4:=zi (show w.heap.size≤w.heap.size+1 by omega) qr 0 _ hB3
  have hrs:=run_loadVar_mid (P:=prog) _ (w.heap.size+1) 0 52 qr _ r4 underlying52 rfl im
  go_wp2_with (first|(refine wpList_load_mid rfl 52 _ rfl _ _ rfl qr _ r2 underlying52 rfl im ?_)|(refine wpList_store_mid rfl 52 _ _ rfl _ _ qr.toArray rfl rfl hT3 im' om ?_))
  exact bodyPost_ret (v:=.agg qr.toArray) (by simp[results,results85,asAddr,hrs,Act.put]) rfl ⟨rfl,hB4⟩
def Ms.bare2 (m:Ms):Ms:={Ms.plain 2 0 0 Vt.zero zd with vt:=m.vt}
theorem Ms.bare2_ok {m:Ms} (hm:m.ok):m.bare2.ok:=by
 have oc:=Ms.plain_ok 2 0 0 Vt.zero_ok zt zx
 exact⟨by first|exact hm.vt|exact oc.vt,by first|exact hm.ct|exact oc.ct,by first|exact hm.dl|exact oc.dl,by first|exact hm.db|exact oc.db,by first|exact hm.rs|rfl,by first|exact hm.he|rfl,by first|exact hm.ne|rfl,by first|exact hm.cs|rfl,by first|exact hm.sg|rfl⟩
theorem znq (m:Ms) (hm:m.ok) (hk:m.k=2) (w:World):Calls prog 85 #[.agg m.cells.toArray] w (BareOk w m.bare2.cells):=by
 have oc:=Ms.plain_ok 2 0 0 Vt.zero_ok zt zx
 have hz0:Ms.zero.ok:=Ms.plain_ok 0 0 0 Vt.zero_ok zt zx
 have od:=Ms.bare2_ok hm
 have lk:=oc.len
 have lz:=hz0.len
 have ld:=od.len
 have ok:=all_oneCell_toArray oc.one
 have om:=all_oneCell_toArray od.one
 have hz:=zeroM
 have hbk:=zao 2
 have hat:∀(w':World) b,w'.rangeAt b 0 m.cells→w'.cell? ⟨b,0,none⟩=some (.int .i64 2)∧w'.rangeAt b 7 (m.vt.cells):=fun w' b h=>by
  have M:=hm.at h
  exact⟨(by rw[←hk];exact M.k),M.vt⟩
 have hput1:∀(X:World) b,X.rangeAt b 0 (Ms.plain 2 0 0 Vt.zero zd).cells→X.there b 0 119→(X.setCells b 7 (m.vt.cells)).rangeAt b 0 m.bare2.cells:=fun X b r0 t0=>by
  have t1:X.there b 7 36:=by have:=zL t0 7 36 (by omega);rwa [Nat.zero_add]at this
  exact zf4 m.vt hm.vt Vt.zero_ok r0 t1
 have im:(prog.info? 52).map (·.size)=some m.bare2.cells.length:=by rw[ld];exact iszM
 have im':(prog.info? 52).map (·.size)=some m.bare2.cells.toArray.size:=by rw[List.size_toArray,ld];exact iszM
 have ik':(prog.info? 52).map (·.size)=some (Ms.plain 2 0 0 Vt.zero zd).cells.toArray.size:=by rw[List.size_toArray,lk];exact iszM
 have l_vt:(m.vt.cells).length=36:=hm.vt.len
 have o_vt:=all_oneCell_toArray (cs:=m.vt.cells) (Vt.one m.vt)
 have i_vt:(prog.info? 43).map (·.size)=some (m.vt.cells).length:=by rw[l_vt];exact iszV
 have j_vt:(prog.info? 43).map (·.size)=some (m.vt.cells).toArray.size:=by rw[List.size_toArray,l_vt];exact iszV
 clear oc hz0 od hm hk
 generalize m.bare2.cells=qr at *
 generalize m.cells=q at *
 generalize (Ms.plain 2 0 0 Vt.zero zd).cells=qk at *
 generalize Ms.zero.cells=z at *
 generalize (m.vt.cells)=u_vt at *
 obtain⟨hA,hT,hB,hs⟩:=zbd q z w lz
 go_enter func85,ntmps85
 go_upto_region 1 with fail
 go_name_world w1 hw1
 rw[show(w.alloc (.cells q.toArray 52)).alloc (.cells z.toArray 52)=w1 from hw1]at hA hT hB hs
 clear hw1
 have c0:=(hat _ _ hA).1
 obtain⟨r2,hB2,hs2,hT2⟩:=zq w1 z.toArray 52 qk (by rw[List.size_toArray,lz,lk])
 rw[show z.toArray.size=119 by simpa using lz]at hT2
 have hTz:(w1.alloc (.cells z.toArray 52)).there w1.heap.size 0 qk.toArray.size:=by
  have:=zE w1 z.toArray 52
  rw[show z.toArray.size=119 by simpa using lz]at this
  rw[show qk.toArray.size=119 by simpa using lk]
  exact this
 go_upto_region 2 with(first|(refine zaZ rfl 52 [(0,.tmp 5)] rfl [(0,.int .i64 2)] _ rfl (hbk _) ?_)|refine wpList_store_mid rfl 52 _ _ rfl _ _ qk.toArray rfl rfl hTz ik' ok ?_)
 go_name_world w2 hw2
 rw[show(w1.alloc (.cells z.toArray 52)).setCells w1.heap.size 0 qk=w2 from hw2]at r2 hB2 hs2 hT2
 have hs2':w1.heap.size<w2.heap.size:=by omega
 clear hw2 hs2 hTz
 have H:Bst w w2 w1.heap.size q:=⟨za hA hB2 (by omega),hT2,zg hT hB2 (by omega),hB.trans (hB2.mono (by omega)),hs,hs2'⟩
 clear hA hT hB hB2 c0 hT2
 have F_vt:=(hat _ _ H.A).2
 have ck:=(hat _ _ H.A).1
 have P_vt:=H.part 7 36 (by omega)
 have Q_vt:w2.there w1.heap.size 7 u_vt.toArray.size:=by rw[show u_vt.toArray.size=36 by simpa using l_vt];exact P_vt
 go_upto_region 20 with(first|(refine wpList_load_mid rfl 43 _ rfl _ _ rfl u_vt _ F_vt underlying43 rfl i_vt ?_)|(refine wpList_store_mid rfl 43 _ _ rfl _ _ u_vt.toArray rfl rfl Q_vt j_vt o_vt ?_))
 have r2:=hput1 _ _ r2 H.T
 replace H:=H.put 7 (u_vt)
 clear F_vt P_vt Q_vt
 go_name_world w3 hw3
 rw[show(w2).setCells w1.heap.size 7 (u_vt)=w3 from hw3]at r2 H
 clear hw3
 have hT3:w3.there (w.heap.size+1) 0 qr.toArray.size:=by
  rw[show qr.toArray.size=119 by simpa using ld]
  exact H.T1
 have hB3:=H.B
 have r4:=World.rangeAt_setCells_same w3 (w.heap.size+1) 0 qr (by have:=hT3;rwa [List.size_toArray]at this)
 have hB4:=zi (show w.heap.size≤w.heap.size+1 by omega) qr 0 _ hB3
 have hrs:=run_loadVar_mid (P:=prog) _ (w.heap.size+1) 0 52 qr _ r4 underlying52 rfl im
 go_wp2_with (first|(refine wpList_load_mid rfl 52 _ rfl _ _ rfl qr _ r2 underlying52 rfl im ?_)|(refine wpList_store_mid rfl 52 _ _ rfl _ _ qr.toArray rfl rfl hT3 im' om ?_))
 exact bodyPost_ret (v:=.agg qr.toArray) (by simp[results,results85,asAddr,hrs,Act.put]) rfl ⟨rfl,hB4⟩
def Ms.bare3 (m:Ms):Ms:={Ms.plain 3 0 0 Vt.zero zd with ce:=m.ce,cl:=m.cl,cv:=m.cv,he:=m.he}
theorem Ms.bare3_ok {m:Ms} (hm:m.ok):m.bare3.ok:=by
 have oc:=Ms.plain_ok 3 0 0 Vt.zero_ok zt zx
 exact⟨by first|exact hm.vt|exact oc.vt,by first|exact hm.ct|exact oc.ct,by first|exact hm.dl|exact oc.dl,by first|exact hm.db|exact oc.db,by first|exact hm.rs|rfl,by first|exact hm.he|rfl,by first|exact hm.ne|rfl,by first|exact hm.cs|rfl,by first|exact hm.sg|rfl⟩
theorem znp (m:Ms) (hm:m.ok) (hk:m.k=3) (w:World):Calls prog 85 #[.agg m.cells.toArray] w (BareOk w m.bare3.cells):=by
  have oc:=Ms.plain_ok 3 0 0 Vt.zero_ok zt zx
  have hz0:Ms.zero.ok:=Ms.plain_ok 0 0 0 Vt.zero_ok zt zx
  have od:=Ms.bare3_ok hm
  have lk:=oc.len
  have lz:=hz0.len
  have ld:=od.len
  have ok:=all_oneCell_toArray oc.one
  have om:=all_oneCell_toArray od.one
  have hz:=zeroM
  have hbk:=zao 3
  have hat:∀(w':World) b,w'.rangeAt b 0 m.cells→w'.cell? ⟨b,0,none⟩=some (.int .i64 3)∧w'.rangeAt b 43 ([.int .i64 m.ce,.int .i64 m.cl,.int .i64 m.cv,m.he]):=fun w' b h=>by
    have M:=hm.at h
    exact⟨(by rw[←hk];exact M.k),(fun j v hj=>by
    match j,hj with
    |0,hj=>cases hj;exact M.ce
    |1,hj=>cases hj;exact M.cl
    |2,hj=>cases hj;exact M.cv
    |3,hj=>cases hj;exact M.he)⟩
  have hput1:∀(X:World) b,X.rangeAt b 0 (Ms.plain 3 0 0 Vt.zero zd).cells→X.there b 0 119→(X.setCells b 43 ([.int .i64 m.ce,.int .i64 m.cl,.int .i64 m.cv,m.he])).rangeAt b 0 m.bare3.cells:=fun X b r0 t0=>by
    have t1:X.there b 43 4:=by have:=zL t0 43 4 (by omega);rwa [Nat.zero_add]at this
    exact zgc m.ce m.cl m.cv m.he Vt.zero_ok r0 t1
  have im:(prog.info? 52).map (·.size)=some m.bare3.cells.length:=by rw[ld];exact iszM
  have im':(prog.info? 52).map (·.size)=some m.bare3.cells.toArray.size:=by rw[List.size_toArray,ld];exact iszM
  have ik':(prog.info? 52).map (·.size)=some (Ms.plain 3 0 0 Vt.zero zd).cells.toArray.size:=by rw[List.size_toArray,lk];exact iszM
  have l_ch:([.int .i64 m.ce,.int .i64 m.cl,.int .i64 m.cv,m.he]).length=4:=rfl
  have o_ch:=all_oneCell_toArray (cs:=[.int .i64 m.ce,.int .i64 m.cl,.int .i64 m.cv,m.he]) (fun v hv=>by simp only[List.mem_cons,List.not_mem_nil,or_false]at hv;rcases hv with rfl|rfl|rfl|rfl<;>first|rfl|exact hm.he)
  have i_ch:(prog.info? 46).map (·.size)=some ([.int .i64 m.ce,.int .i64 m.cl,.int .i64 m.cv,m.he]).length:=by rw[l_ch];exact zdg
  have j_ch:(prog.info? 46).map (·.size)=some ([.int .i64 m.ce,.int .i64 m.cl,.int .i64 m.cv,m.he]).toArray.size:=by rw[List.size_toArray,l_ch];exact zdg
  clear oc hz0 od hm hk
  generalize m.bare3.cells=qr at *
  generalize m.cells=q at *
  generalize (Ms.plain 3 0 0 Vt.zero zd).cells=qk at *
  generalize Ms.zero.cells=z at *
  generalize ([.int .i64 m.ce,.int .i64 m.cl,.int .i64 m.cv,m.he])=u_ch at *
  obtain⟨hA,hT,hB,hs⟩:=zbd q z w lz
  go_enter func85,ntmps85
  go_upto_region 1 with fail
  go_name_world w1 hw1
  rw[show(w.alloc (.cells q.toArray 52)).alloc (.cells z.toArray 52)=w1 from hw1]at hA hT hB hs
  clear hw1
  have c0:=(hat _ _ hA).1
  obtain⟨r2,hB2,hs2,hT2⟩:=zq w1 z.toArray 52 qk (by rw[List.size_toArray,lz,lk])
  rw[show z.toArray.size=119 by simpa using lz]at hT2
  have hTz:(w1.alloc (.cells z.toArray 52)).there w1.heap.size 0 qk.toArray.size:=by
    have:=zE w1 z.toArray 52
    rw[show z.toArray.size=119 by simpa using lz]at this
    rw[show qk.toArray.size=119 by simpa using lk]
    exact this
  go_upto_region 2 with(first|(refine zaZ rfl 52 [(0,.tmp 5)] rfl [(0,.int .i64 3)] _ rfl (hbk _) ?_)|refine wpList_store_mid rfl 52 _ _ rfl _ _ qk.toArray rfl rfl hTz ik' ok ?_)
  go_name_world w2 hw2
  rw[show(w1.alloc (.cells z.toArray 52)).setCells w1.heap.size 0 qk=w2 from hw2]at r2 hB2 hs2 hT2
  have hs2':w1.heap.size<w2.heap.size:=by omega
  clear hw2 hs2 hTz
  have H:Bst w w2 w1.heap.size q:=⟨za hA hB2 (by omega),hT2,zg hT hB2 (by omega),hB.trans (hB2.mono (by omega)),hs,hs2'⟩
  clear hA hT hB hB2 c0 hT2
  have F_ch:=(hat _ _ H.A).2
  have ck:=(hat _ _ H.A).1
  have P_ch:=H.part 43 4 (by omega)
  have Q_ch:w2.there w1.heap.size 43 u_ch.toArray.size:=by rw[show u_ch.toArray.size=4 by simpa using l_ch];exact P_ch
  go_upto_region 20 with(first|(refine wpList_load_mid rfl 46 _ rfl _ _ rfl u_ch _ F_ch underlying46 rfl i_ch ?_)|(refine wpList_store_mid rfl 46 _ _ rfl _ _ u_ch.toArray rfl rfl Q_ch j_ch o_ch ?_))
  have r2:=hput1 _ _ r2 H.T
  replace H:=H.put 43 (u_ch)
  clear F_ch P_ch Q_ch
  go_name_world w3 hw3
  rw[show(w2).setCells w1.heap.size 43 (u_ch)=w3 from hw3]at r2 H
  clear hw3
  have hT3:w3.there (w.heap.size+1) 0 qr.toArray.size:=by
    rw[show qr.toArray.size=119 by simpa using ld]
    exact H.T1
  have hB3:=H.B
  have r4:=World.rangeAt_setCells_same w3 (w.heap.size+1) 0 qr (by have:=hT3;rwa [List.size_toArray]at this)
  have hB4:=zi (show w.heap.size≤w.heap.size+1 by omega) qr 0 _ hB3
  have hrs:=run_loadVar_mid (P:=prog) _ (w.heap.size+1) 0 52 qr _ r4 underlying52 rfl im
  go_wp2_with (first|(refine wpList_load_mid rfl 52 _ rfl _ _ rfl qr _ r2 underlying52 rfl im ?_)|(refine wpList_store_mid rfl 52 _ _ rfl _ _ qr.toArray rfl rfl hT3 im' om ?_))
  exact bodyPost_ret (v:=.agg qr.toArray) (by simp[results,results85,asAddr,hrs,Act.put]) rfl ⟨rfl,hB4⟩
def Ms.bare4 (m:Ms):Ms:={Ms.plain 4 0 0 Vt.zero zd with e:=m.e,l:=m.l,v:=m.v,ne:=m.ne}
theorem Ms.bare4_ok {m:Ms} (hm:m.ok):m.bare4.ok:=by
 have oc:=Ms.plain_ok 4 0 0 Vt.zero_ok zt zx
 exact⟨by first|exact hm.vt|exact oc.vt,by first|exact hm.ct|exact oc.ct,by first|exact hm.dl|exact oc.dl,by first|exact hm.db|exact oc.db,by first|exact hm.rs|rfl,by first|exact hm.he|rfl,by first|exact hm.ne|rfl,by first|exact hm.cs|rfl,by first|exact hm.sg|rfl⟩
theorem zno (m:Ms) (hm:m.ok) (hk:m.k=4) (w:World):Calls prog 85 #[.agg m.cells.toArray] w (BareOk w m.bare4.cells):=by
 have oc:=Ms.plain_ok 4 0 0 Vt.zero_ok zt zx
 have hz0:Ms.zero.ok:=Ms.plain_ok 0 0 0 Vt.zero_ok zt zx
 have od:=Ms.bare4_ok hm
 have lk:=oc.len
 have lz:=hz0.len
 have ld:=od.len
 have ok:=all_oneCell_toArray oc.one
 have om:=all_oneCell_toArray od.one
 have hz:=zeroM
 have hbk:=zao 4
 have hat:∀(w':World) b,w'.rangeAt b 0 m.cells→w'.cell? ⟨b,0,none⟩=some (.int .i64 4)∧w'.cell? ⟨b,1,none⟩=some (.int .i64 m.e)∧w'.cell? ⟨b,2,none⟩=some (.int .i64 m.l)∧w'.cell? ⟨b,3,none⟩=some (.int .i64 m.v)∧w'.cell? ⟨b,47,none⟩=some (m.ne):=fun w' b h=>by
  have M:=hm.at h
  exact⟨(by rw[←hk];exact M.k),M.e,M.l,M.v,M.ne⟩
 have hput1:∀(X:World) b,X.rangeAt b 0 (Ms.plain 4 0 0 Vt.zero zd).cells→X.there b 0 119→(X.setCells b 1 ([.int .i64 m.e])).rangeAt b 0 ({(Ms.plain 4 0 0 Vt.zero zd)with e:=m.e}:Ms).cells:=fun X b r0 t0=>by
  have t1:X.there b 1 1:=by have:=zL t0 1 1 (by omega);rwa [Nat.zero_add]at this
  exact zbi m.e r0 t1
 have hput2:∀(X:World) b,X.rangeAt b 0 ({(Ms.plain 4 0 0 Vt.zero zd)with e:=m.e}:Ms).cells→X.there b 0 119→(X.setCells b 2 ([.int .i64 m.l])).rangeAt b 0 ({({(Ms.plain 4 0 0 Vt.zero zd)with e:=m.e}:Ms)with l:=m.l}:Ms).cells:=fun X b r0 t0=>by
  have t1:X.there b 2 1:=by have:=zL t0 2 1 (by omega);rwa [Nat.zero_add]at this
  exact zf9 m.l r0 t1
 have hput3:∀(X:World) b,X.rangeAt b 0 ({({(Ms.plain 4 0 0 Vt.zero zd)with e:=m.e}:Ms)with l:=m.l}:Ms).cells→X.there b 0 119→(X.setCells b 3 ([.int .i64 m.v])).rangeAt b 0 ({({({(Ms.plain 4 0 0 Vt.zero zd)with e:=m.e}:Ms)with l:=m.l}:Ms)with v:=m.v}:Ms).cells:=fun X b r0 t0=>by
  have t1:X.there b 3 1:=by have:=zL t0 3 1 (by omega);rwa [Nat.zero_add]at this
  exact zf5 m.v r0 t1
 have hput4:∀(X:World) b,X.rangeAt b 0 ({({({(Ms.plain 4 0 0 Vt.zero zd)with e:=m.e}:Ms)with l:=m.l}:Ms)with v:=m.v}:Ms).cells→X.there b 0 119→(X.setCells b 47 ([m.ne])).rangeAt b 0 m.bare4.cells:=fun X b r0 t0=>by
  have t1:X.there b 47 1:=by have:=zL t0 47 1 (by omega);rwa [Nat.zero_add]at this
  exact zf8 m.ne Vt.zero_ok r0 t1
 have im:(prog.info? 52).map (·.size)=some m.bare4.cells.length:=by rw[ld];exact iszM
 have im':(prog.info? 52).map (·.size)=some m.bare4.cells.toArray.size:=by rw[List.size_toArray,ld];exact iszM
 have ik':(prog.info? 52).map (·.size)=some (Ms.plain 4 0 0 Vt.zero zd).cells.toArray.size:=by rw[List.size_toArray,lk];exact iszM
 have v_ne:=hm.ne
 clear oc hz0 od hm hk
 generalize m.bare4.cells=qr at *
 generalize ({(Ms.plain 4 0 0 Vt.zero zd)with e:=m.e}:Ms).cells=C1 at *
 generalize ({({(Ms.plain 4 0 0 Vt.zero zd)with e:=m.e}:Ms)with l:=m.l}:Ms).cells=C2 at *
 generalize ({({({(Ms.plain 4 0 0 Vt.zero zd)with e:=m.e}:Ms)with l:=m.l}:Ms)with v:=m.v}:Ms).cells=C3 at *
 generalize m.cells=q at *
 generalize (Ms.plain 4 0 0 Vt.zero zd).cells=qk at *
 generalize Ms.zero.cells=z at *
 generalize m.e=x_e at *
 generalize m.l=x_l at *
 generalize m.v=x_v at *
 generalize m.ne=x_ne at *
 obtain⟨hA,hT,hB,hs⟩:=zbd q z w lz
 go_enter func85,ntmps85
 go_upto_region 1 with fail
 go_name_world w1 hw1
 rw[show(w.alloc (.cells q.toArray 52)).alloc (.cells z.toArray 52)=w1 from hw1]at hA hT hB hs
 clear hw1
 have c0:=(hat _ _ hA).1
 obtain⟨r2,hB2,hs2,hT2⟩:=zq w1 z.toArray 52 qk (by rw[List.size_toArray,lz,lk])
 rw[show z.toArray.size=119 by simpa using lz]at hT2
 have hTz:(w1.alloc (.cells z.toArray 52)).there w1.heap.size 0 qk.toArray.size:=by
  have:=zE w1 z.toArray 52
  rw[show z.toArray.size=119 by simpa using lz]at this
  rw[show qk.toArray.size=119 by simpa using lk]
  exact this
 go_upto_region 2 with(first|(refine zaZ rfl 52 [(0,.tmp 5)] rfl [(0,.int .i64 4)] _ rfl (hbk _) ?_)|refine wpList_store_mid rfl 52 _ _ rfl _ _ qk.toArray rfl rfl hTz ik' ok ?_)
 go_name_world w2 hw2
 rw[show(w1.alloc (.cells z.toArray 52)).setCells w1.heap.size 0 qk=w2 from hw2]at r2 hB2 hs2 hT2
 have hs2':w1.heap.size<w2.heap.size:=by omega
 clear hw2 hs2 hTz
 have H:Bst w w2 w1.heap.size q:=⟨za hA hB2 (by omega),hT2,zg hT hB2 (by omega),hB.trans (hB2.mono (by omega)),hs,hs2'⟩
 clear hA hT hB hB2 c0 hT2
 have ck:=(hat _ _ H.A).1
 go_upto_region 15 with fail
 obtain⟨w5,hw5⟩:∃w5,(w2).drew=w5:=⟨_,rfl⟩
 have hBd:Below (w2).heap.size (w2) w5:=by rw[←hw5];exact(Below.refl _ _).drew
 have r2:=za r2 hBd H.hs
 replace H:=H.below hBd
 refine zw (S:=fun w'=>w'.rangeAt w.heap.size 0 q) 12 rfl (by kernel_rfl) ?_
 rw[hw5]
 have hS:=H.A
 have h02:=H.h2
 refine hs_a 0 40 hS ?_
 refine hs_v 1 41 (.int .i64 x_e) rfl (fun w' hw=>zu rfl rfl (loadC w' ((hat _ _ hw).2.1) underlying3 rfl)) hS ?_
 refine hs_a 2 42 hS ?_
 refine hs_v 3 43 (.int .i64 x_l) rfl (fun w' hw=>zu rfl rfl (loadC w' ((hat _ _ hw).2.2.1) underlying3 rfl)) hS ?_
 refine hs_a 4 44 hS ?_
 refine hs_v 5 45 (.int .i64 x_v) rfl (fun w' hw=>zu rfl rfl (loadC w' ((hat _ _ hw).2.2.2.1) underlying3 rfl)) hS ?_
 refine hs_a 6 46 hS ?_
 refine zG (i:=7) (w':=(w5).setCells w1.heap.size 1 ([.int .i64 x_e])) rfl (by kernel_rfl) (by rfl) (zaM rfl rfl rfl (zaS _ _ _ _ (.int .i64 x_e) (H.part 1 1 (by omega)) iszI rfl rfl)) rfl (H.put 1 ([.int .i64 x_e])).A ?_
 have r2:=hput1 _ _ r2 H.T
 replace H:=H.put 1 ([.int .i64 x_e])
 have hS:=H.A
 refine hs_a 8 47 hS ?_
 refine zG (i:=9) (w':=((w5).setCells w1.heap.size 1 ([.int .i64 x_e])).setCells w1.heap.size 2 ([.int .i64 x_l])) rfl (by kernel_rfl) (by rfl) (zaM rfl rfl rfl (zaS _ _ _ _ (.int .i64 x_l) (H.part 2 1 (by omega)) iszI rfl rfl)) rfl (H.put 2 ([.int .i64 x_l])).A ?_
 have r2:=hput2 _ _ r2 H.T
 replace H:=H.put 2 ([.int .i64 x_l])
 have hS:=H.A
 refine hs_a 10 48 hS ?_
 refine zG (i:=11) (w':=(((w5).setCells w1.heap.size 1 ([.int .i64 x_e])).setCells w1.heap.size 2 ([.int .i64 x_l])).setCells w1.heap.size 3 ([.int .i64 x_v])) rfl (by kernel_rfl) (by rfl) (zaM rfl rfl rfl (zaS _ _ _ _ (.int .i64 x_v) (H.part 3 1 (by omega)) iszI rfl rfl)) rfl (H.put 3 ([.int .i64 x_v])).A ?_
 have r2:=hput3 _ _ r2 H.T
 replace H:=H.put 3 ([.int .i64 x_v])
 have hS:=H.A
 refine zv (by kernel_rfl) ?_
 clear hBd
 have ck:=(hat _ _ H.A).1
 go_upto_region 16 with fail
 have F_ne:=(hat _ _ H.A).2.2.2.2
 have P_ne:=H.part 47 1 (by omega)
 go_upto_region 20 with(first|(refine zih rfl 47 _ rfl _ _ rfl (x_ne) _ F_ne underlying47 rfl ?_)|(refine zig rfl 47 _ _ rfl _ _ (x_ne) rfl rfl P_ne iszNs (zgu v_ne) v_ne ?_))
 have r2:=hput4 _ _ r2 H.T
 replace H:=H.put 47 ([x_ne])
 clear F_ne P_ne
 go_name_world w3 hw3
 rw[show((((w5).setCells w1.heap.size 1 ([.int .i64 x_e])).setCells w1.heap.size 2 ([.int .i64 x_l])).setCells w1.heap.size 3 ([.int .i64 x_v])).setCells w1.heap.size 47 ([x_ne])=w3 from hw3]at r2 H
 clear hw3
 have hT3:w3.there (w.heap.size+1) 0 qr.toArray.size:=by
  rw[show qr.toArray.size=119 by simpa using ld]
  exact H.T1
 have hB3:=H.B
 have r4:=World.rangeAt_setCells_same w3 (w.heap.size+1) 0 qr (by have:=hT3;rwa [List.size_toArray]at this)
 have hB4:=zi (show w.heap.size≤w.heap.size+1 by omega) qr 0 _ hB3
 have hrs:=run_loadVar_mid (P:=prog) _ (w.heap.size+1) 0 52 qr _ r4 underlying52 rfl im
 go_wp2_with (first|(refine wpList_load_mid rfl 52 _ rfl _ _ rfl qr _ r2 underlying52 rfl im ?_)|(refine wpList_store_mid rfl 52 _ _ rfl _ _ qr.toArray rfl rfl hT3 im' om ?_))
 exact bodyPost_ret (v:=.agg qr.toArray) (by simp[results,results85,asAddr,hrs,Act.put]) rfl ⟨rfl,hB4⟩
def Ms.bare5 (m:Ms):Ms:={Ms.plain 5 0 0 Vt.zero zd with e:=m.e,d:=m.d}
theorem Ms.bare5_ok {m:Ms} (hm:m.ok):m.bare5.ok:=by
 have oc:=Ms.plain_ok 5 0 0 Vt.zero_ok zt zx
 exact⟨by first|exact hm.vt|exact oc.vt,by first|exact hm.ct|exact oc.ct,by first|exact hm.dl|exact oc.dl,by first|exact hm.db|exact oc.db,by first|exact hm.rs|rfl,by first|exact hm.he|rfl,by first|exact hm.ne|rfl,by first|exact hm.cs|rfl,by first|exact hm.sg|rfl⟩
theorem znn (m:Ms) (hm:m.ok) (hk:m.k=5) (w:World):Calls prog 85 #[.agg m.cells.toArray] w (BareOk w m.bare5.cells):=by
 have oc:=Ms.plain_ok 5 0 0 Vt.zero_ok zt zx
 have hz0:Ms.zero.ok:=Ms.plain_ok 0 0 0 Vt.zero_ok zt zx
 have od:=Ms.bare5_ok hm
 have lk:=oc.len
 have lz:=hz0.len
 have ld:=od.len
 have ok:=all_oneCell_toArray oc.one
 have om:=all_oneCell_toArray od.one
 have hz:=zeroM
 have hbk:=zao 5
 have hat:∀(w':World) b,w'.rangeAt b 0 m.cells→w'.cell? ⟨b,0,none⟩=some (.int .i64 5)∧w'.cell? ⟨b,1,none⟩=some (.int .i64 m.e)∧w'.rangeAt b 48 (v8 m.d):=fun w' b h=>by
  have M:=hm.at h
  exact⟨(by rw[←hk];exact M.k),M.e,M.d⟩
 have hput1:∀(X:World) b,X.rangeAt b 0 (Ms.plain 5 0 0 Vt.zero zd).cells→X.there b 0 119→(X.setCells b 1 ([.int .i64 m.e])).rangeAt b 0 ({(Ms.plain 5 0 0 Vt.zero zd)with e:=m.e}:Ms).cells:=fun X b r0 t0=>by
  have t1:X.there b 1 1:=by have:=zL t0 1 1 (by omega);rwa [Nat.zero_add]at this
  exact zbi m.e r0 t1
 have hput2:∀(X:World) b,X.rangeAt b 0 ({(Ms.plain 5 0 0 Vt.zero zd)with e:=m.e}:Ms).cells→X.there b 0 119→(X.setCells b 48 (v8 m.d)).rangeAt b 0 m.bare5.cells:=fun X b r0 t0=>by
  have t1:X.there b 48 32:=by have:=zL t0 48 32 (by omega);rwa [Nat.zero_add]at this
  exact zga m.d hm.dl zt Vt.zero_ok r0 t1
 have im:(prog.info? 52).map (·.size)=some m.bare5.cells.length:=by rw[ld];exact iszM
 have im':(prog.info? 52).map (·.size)=some m.bare5.cells.toArray.size:=by rw[List.size_toArray,ld];exact iszM
 have ik':(prog.info? 52).map (·.size)=some (Ms.plain 5 0 0 Vt.zero zd).cells.toArray.size:=by rw[List.size_toArray,lk];exact iszM
 have l_d:(v8 m.d).length=32:=(by rw[v8_length,hm.dl])
 have o_d:=all_oneCell_toArray (cs:=v8 m.d) (zy m.d)
 have i_d:(prog.info? 41).map (·.size)=some (v8 m.d).length:=by rw[l_d];exact iszD
 have j_d:(prog.info? 41).map (·.size)=some (v8 m.d).toArray.size:=by rw[List.size_toArray,l_d];exact iszD
 clear oc hz0 od hm hk
 generalize m.bare5.cells=qr at *
 generalize ({(Ms.plain 5 0 0 Vt.zero zd)with e:=m.e}:Ms).cells=C1 at *
 generalize m.cells=q at *
 generalize (Ms.plain 5 0 0 Vt.zero zd).cells=qk at *
 generalize Ms.zero.cells=z at *
 generalize m.e=x_e at *
 generalize (v8 m.d)=u_d at *
 obtain⟨hA,hT,hB,hs⟩:=zbd q z w lz
 go_enter func85,ntmps85
 go_upto_region 1 with fail
 go_name_world w1 hw1
 rw[show(w.alloc (.cells q.toArray 52)).alloc (.cells z.toArray 52)=w1 from hw1]at hA hT hB hs
 clear hw1
 have c0:=(hat _ _ hA).1
 obtain⟨r2,hB2,hs2,hT2⟩:=zq w1 z.toArray 52 qk (by rw[List.size_toArray,lz,lk])
 rw[show z.toArray.size=119 by simpa using lz]at hT2
 have hTz:(w1.alloc (.cells z.toArray 52)).there w1.heap.size 0 qk.toArray.size:=by
  have:=zE w1 z.toArray 52
  rw[show z.toArray.size=119 by simpa using lz]at this
  rw[show qk.toArray.size=119 by simpa using lk]
  exact this
 go_upto_region 2 with(first|(refine zaZ rfl 52 [(0,.tmp 5)] rfl [(0,.int .i64 5)] _ rfl (hbk _) ?_)|refine wpList_store_mid rfl 52 _ _ rfl _ _ qk.toArray rfl rfl hTz ik' ok ?_)
 go_name_world w2 hw2
 rw[show(w1.alloc (.cells z.toArray 52)).setCells w1.heap.size 0 qk=w2 from hw2]at r2 hB2 hs2 hT2
 have hs2':w1.heap.size<w2.heap.size:=by omega
 clear hw2 hs2 hTz
 have H:Bst w w2 w1.heap.size q:=⟨za hA hB2 (by omega),hT2,zg hT hB2 (by omega),hB.trans (hB2.mono (by omega)),hs,hs2'⟩
 clear hA hT hB hB2 c0 hT2
 have ck:=(hat _ _ H.A).1
 go_upto_region 17 with fail
 obtain⟨w5,hw5⟩:∃w5,(w2).drew=w5:=⟨_,rfl⟩
 have hBd:Below (w2).heap.size (w2) w5:=by rw[←hw5];exact(Below.refl _ _).drew
 have r2:=za r2 hBd H.hs
 replace H:=H.below hBd
 refine zw (S:=fun w'=>w'.rangeAt w.heap.size 0 q) 8 rfl (by kernel_rfl) ?_
 rw[hw5]
 have hS:=H.A
 have h02:=H.h2
 refine hs_a 0 52 hS ?_
 refine hs_v 1 53 (.int .i64 x_e) rfl (fun w' hw=>zu rfl rfl (loadC w' ((hat _ _ hw).2.1) underlying3 rfl)) hS ?_
 refine hs_a 2 54 hS ?_
 refine hs_v 3 55 (.agg u_d.toArray) rfl (fun w' hw=>zu rfl rfl (run_loadVar_mid (P:=prog) w' _ _ 41 u_d _ ((hat _ _ hw).2.2) underlying41 rfl i_d)) hS ?_
 refine hs_a 4 56 hS ?_
 refine zG (i:=5) (w':=(w5).setCells w1.heap.size 1 ([.int .i64 x_e])) rfl (by kernel_rfl) (by rfl) (zaM rfl rfl rfl (zaS _ _ _ _ (.int .i64 x_e) (H.part 1 1 (by omega)) iszI rfl rfl)) rfl (H.put 1 ([.int .i64 x_e])).A ?_
 have r2:=hput1 _ _ r2 H.T
 replace H:=H.put 1 ([.int .i64 x_e])
 have hS:=H.A
 refine hs_a 6 57 hS ?_
 refine zG (i:=7) (w':=((w5).setCells w1.heap.size 1 ([.int .i64 x_e])).setCells w1.heap.size 48 (u_d)) rfl (by kernel_rfl) (by rfl) (zaM rfl rfl rfl (run_storeVar_mid _ _ _ _ u_d.toArray (by rw[show u_d.toArray.size=32 by simpa using l_d];exact H.part 48 32 (by omega)) j_d o_d)) rfl (H.put 48 (u_d)).A ?_
 have r2:=hput2 _ _ r2 H.T
 replace H:=H.put 48 (u_d)
 have hS:=H.A
 refine zv (by kernel_rfl) ?_
 clear hBd
 go_upto_region 20 with fail
 go_name_world w3 hw3
 rw[show((w5).setCells w1.heap.size 1 ([.int .i64 x_e])).setCells w1.heap.size 48 (u_d)=w3 from hw3]at r2 H
 clear hw3
 have hT3:w3.there (w.heap.size+1) 0 qr.toArray.size:=by
  rw[show qr.toArray.size=119 by simpa using ld]
  exact H.T1
 have hB3:=H.B
 have r4:=World.rangeAt_setCells_same w3 (w.heap.size+1) 0 qr (by have:=hT3;rwa [List.size_toArray]at this)
 have hB4:=zi (show w.heap.size≤w.heap.size+1 by omega) qr 0 _ hB3
 have hrs:=run_loadVar_mid (P:=prog) _ (w.heap.size+1) 0 52 qr _ r4 underlying52 rfl im
 go_wp2_with (first|(refine wpList_load_mid rfl 52 _ rfl _ _ rfl qr _ r2 underlying52 rfl im ?_)|(refine wpList_store_mid rfl 52 _ _ rfl _ _ qr.toArray rfl rfl hT3 im' om ?_))
 exact bodyPost_ret (v:=.agg qr.toArray) (by simp[results,results85,asAddr,hrs,Act.put]) rfl ⟨rfl,hB4⟩
def Ms.bare6 (m:Ms):Ms:={Ms.plain 6 0 0 Vt.zero zd with e:=m.e,s:=m.s}
theorem Ms.bare6_ok {m:Ms} (_hm:m.ok):m.bare6.ok:=by
 have oc:=Ms.plain_ok 6 0 0 Vt.zero_ok zt zx
 exact⟨by first|exact hm.vt|exact oc.vt,by first|exact hm.ct|exact oc.ct,by first|exact hm.dl|exact oc.dl,by first|exact hm.db|exact oc.db,by first|exact hm.rs|rfl,by first|exact hm.he|rfl,by first|exact hm.ne|rfl,by first|exact hm.cs|rfl,by first|exact hm.sg|rfl⟩
theorem znm (m:Ms) (hm:m.ok) (hk:m.k=6) (w:World):Calls prog 85 #[.agg m.cells.toArray] w (BareOk w m.bare6.cells):=by
 have oc:=Ms.plain_ok 6 0 0 Vt.zero_ok zt zx
 have hz0:Ms.zero.ok:=Ms.plain_ok 0 0 0 Vt.zero_ok zt zx
 have od:=Ms.bare6_ok hm
 have lk:=oc.len
 have lz:=hz0.len
 have ld:=od.len
 have ok:=all_oneCell_toArray oc.one
 have om:=all_oneCell_toArray od.one
 have hz:=zeroM
 have hbk:=zao 6
 have hat:∀(w':World) b,w'.rangeAt b 0 m.cells→w'.cell? ⟨b,0,none⟩=some (.int .i64 6)∧w'.cell? ⟨b,1,none⟩=some (.int .i64 m.e)∧w'.cell? ⟨b,4,none⟩=some (.int .i64 m.s):=fun w' b h=>by
  have M:=hm.at h
  exact⟨(by rw[←hk];exact M.k),M.e,M.s⟩
 have hput1:∀(X:World) b,X.rangeAt b 0 (Ms.plain 6 0 0 Vt.zero zd).cells→X.there b 0 119→(X.setCells b 1 ([.int .i64 m.e])).rangeAt b 0 ({(Ms.plain 6 0 0 Vt.zero zd)with e:=m.e}:Ms).cells:=fun X b r0 t0=>by
  have t1:X.there b 1 1:=by have:=zL t0 1 1 (by omega);rwa [Nat.zero_add]at this
  exact zbi m.e r0 t1
 have hput2:∀(X:World) b,X.rangeAt b 0 ({(Ms.plain 6 0 0 Vt.zero zd)with e:=m.e}:Ms).cells→X.there b 0 119→(X.setCells b 4 ([.int .i64 m.s])).rangeAt b 0 m.bare6.cells:=fun X b r0 t0=>by
  have t1:X.there b 4 1:=by have:=zL t0 4 1 (by omega);rwa [Nat.zero_add]at this
  exact zcW m.s r0 t1
 have im:(prog.info? 52).map (·.size)=some m.bare6.cells.length:=by rw[ld];exact iszM
 have im':(prog.info? 52).map (·.size)=some m.bare6.cells.toArray.size:=by rw[List.size_toArray,ld];exact iszM
 have ik':(prog.info? 52).map (·.size)=some (Ms.plain 6 0 0 Vt.zero zd).cells.toArray.size:=by rw[List.size_toArray,lk];exact iszM
 clear oc hz0 od hm hk
 generalize m.bare6.cells=qr at *
 generalize ({(Ms.plain 6 0 0 Vt.zero zd)with e:=m.e}:Ms).cells=C1 at *
 generalize m.cells=q at *
 generalize (Ms.plain 6 0 0 Vt.zero zd).cells=qk at *
 generalize Ms.zero.cells=z at *
 generalize m.e=x_e at *
 generalize m.s=x_s at *
 obtain⟨hA,hT,hB,hs⟩:=zbd q z w lz
 go_enter func85,ntmps85
 go_upto_region 1 with fail
 go_name_world w1 hw1
 rw[show(w.alloc (.cells q.toArray 52)).alloc (.cells z.toArray 52)=w1 from hw1]at hA hT hB hs
 clear hw1
 have c0:=(hat _ _ hA).1
 obtain⟨r2,hB2,hs2,hT2⟩:=zq w1 z.toArray 52 qk (by rw[List.size_toArray,lz,lk])
 rw[show z.toArray.size=119 by simpa using lz]at hT2
 have hTz:(w1.alloc (.cells z.toArray 52)).there w1.heap.size 0 qk.toArray.size:=by
  have:=zE w1 z.toArray 52
  rw[show z.toArray.size=119 by simpa using lz]at this
  rw[show qk.toArray.size=119 by simpa using lk]
  exact this
 go_upto_region 2 with(first|(refine zaZ rfl 52 [(0,.tmp 5)] rfl [(0,.int .i64 6)] _ rfl (hbk _) ?_)|refine wpList_store_mid rfl 52 _ _ rfl _ _ qk.toArray rfl rfl hTz ik' ok ?_)
 go_name_world w2 hw2
 rw[show(w1.alloc (.cells z.toArray 52)).setCells w1.heap.size 0 qk=w2 from hw2]at r2 hB2 hs2 hT2
 have hs2':w1.heap.size<w2.heap.size:=by omega
 clear hw2 hs2 hTz
 have H:Bst w w2 w1.heap.size q:=⟨za hA hB2 (by omega),hT2,zg hT hB2 (by omega),hB.trans (hB2.mono (by omega)),hs,hs2'⟩
 clear hA hT hB hB2 c0 hT2
 have ck:=(hat _ _ H.A).1
 go_upto_region 12 with fail
 obtain⟨w5,hw5⟩:∃w5,(w2).drew=w5:=⟨_,rfl⟩
 have hBd:Below (w2).heap.size (w2) w5:=by rw[←hw5];exact(Below.refl _ _).drew
 have r2:=za r2 hBd H.hs
 replace H:=H.below hBd
 refine zw (S:=fun w'=>w'.rangeAt w.heap.size 0 q) 8 rfl (by kernel_rfl) ?_
 rw[hw5]
 have hS:=H.A
 have h02:=H.h2
 refine hs_a 0 28 hS ?_
 refine hs_v 1 29 (.int .i64 x_e) rfl (fun w' hw=>zu rfl rfl (loadC w' ((hat _ _ hw).2.1) underlying3 rfl)) hS ?_
 refine hs_a 2 30 hS ?_
 refine hs_v 3 31 (.int .i64 x_s) rfl (fun w' hw=>zu rfl rfl (loadC w' ((hat _ _ hw).2.2) underlying3 rfl)) hS ?_
 refine hs_a 4 32 hS ?_
 refine zG (i:=5) (w':=(w5).setCells w1.heap.size 1 ([.int .i64 x_e])) rfl (by kernel_rfl) (by rfl) (zaM rfl rfl rfl (zaS _ _ _ _ (.int .i64 x_e) (H.part 1 1 (by omega)) iszI rfl rfl)) rfl (H.put 1 ([.int .i64 x_e])).A ?_
 have r2:=hput1 _ _ r2 H.T
 replace H:=H.put 1 ([.int .i64 x_e])
 have hS:=H.A
 refine hs_a 6 33 hS ?_
 refine zG (i:=7) (w':=((w5).setCells w1.heap.size 1 ([.int .i64 x_e])).setCells w1.heap.size 4 ([.int .i64 x_s])) rfl (by kernel_rfl) (by rfl) (zaM rfl rfl rfl (zaS _ _ _ _ (.int .i64 x_s) (H.part 4 1 (by omega)) iszI rfl rfl)) rfl (H.put 4 ([.int .i64 x_s])).A ?_
 have r2:=hput2 _ _ r2 H.T
 replace H:=H.put 4 ([.int .i64 x_s])
 have hS:=H.A
 refine zv (by kernel_rfl) ?_
 clear hBd
 go_upto_region 20 with fail
 go_name_world w3 hw3
 rw[show((w5).setCells w1.heap.size 1 ([.int .i64 x_e])).setCells w1.heap.size 4 ([.int .i64 x_s])=w3 from hw3]at r2 H
 clear hw3
 have hT3:w3.there (w.heap.size+1) 0 qr.toArray.size:=by
  rw[show qr.toArray.size=119 by simpa using ld]
  exact H.T1
 have hB3:=H.B
 have r4:=World.rangeAt_setCells_same w3 (w.heap.size+1) 0 qr (by have:=hT3;rwa [List.size_toArray]at this)
 have hB4:=zi (show w.heap.size≤w.heap.size+1 by omega) qr 0 _ hB3
 have hrs:=run_loadVar_mid (P:=prog) _ (w.heap.size+1) 0 52 qr _ r4 underlying52 rfl im
 go_wp2_with (first|(refine wpList_load_mid rfl 52 _ rfl _ _ rfl qr _ r2 underlying52 rfl im ?_)|(refine wpList_store_mid rfl 52 _ _ rfl _ _ qr.toArray rfl rfl hT3 im' om ?_))
 exact bodyPost_ret (v:=.agg qr.toArray) (by simp[results,results85,asAddr,hrs,Act.put]) rfl ⟨rfl,hB4⟩
def Ms.bare7 (m:Ms):Ms:={Ms.plain 7 0 0 Vt.zero zd with q:=m.q,rs:=m.rs,ct:=m.ct,cs:=m.cs}
theorem Ms.bare7_ok {m:Ms} (hm:m.ok):m.bare7.ok:=by
 have oc:=Ms.plain_ok 7 0 0 Vt.zero_ok zt zx
 exact⟨by first|exact hm.vt|exact oc.vt,by first|exact hm.ct|exact oc.ct,by first|exact hm.dl|exact oc.dl,by first|exact hm.db|exact oc.db,by first|exact hm.rs|rfl,by first|exact hm.he|rfl,by first|exact hm.ne|rfl,by first|exact hm.cs|rfl,by first|exact hm.sg|rfl⟩
theorem znl (m:Ms) (hm:m.ok) (hk:m.k=7) (w:World):Calls prog 85 #[.agg m.cells.toArray] w (BareOk w m.bare7.cells):=by
  have oc:=Ms.plain_ok 7 0 0 Vt.zero_ok zt zx
  have hz0:Ms.zero.ok:=Ms.plain_ok 0 0 0 Vt.zero_ok zt zx
  have od:=Ms.bare7_ok hm
  have lk:=oc.len
  have lz:=hz0.len
  have ld:=od.len
  have ok:=all_oneCell_toArray oc.one
  have om:=all_oneCell_toArray od.one
  have hz:=zeroM
  have hbk:=zao 7
  have hat:∀(w':World) b,w'.rangeAt b 0 m.cells→w'.cell? ⟨b,0,none⟩=some (.int .i64 7)∧w'.rangeAt b 5 ([.bool m.q,m.rs])∧w'.rangeAt b 80 (m.ct.cells++[m.cs]):=fun w' b h=>by
    have M:=hm.at h
    exact⟨(by rw[←hk];exact M.k),(fun j v hj=>by
    match j,hj with
    |0,hj=>cases hj;exact M.q
    |1,hj=>cases hj;exact M.rs),M.ct⟩
  have hput1:∀(X:World) b,X.rangeAt b 0 (Ms.plain 7 0 0 Vt.zero zd).cells→X.there b 0 119→(X.setCells b 5 ([.bool m.q,m.rs])).rangeAt b 0 ({(Ms.plain 7 0 0 Vt.zero zd)with q:=m.q,rs:=m.rs}:Ms).cells:=fun X b r0 t0=>by
    have t1:X.there b 5 2:=by have:=zL t0 5 2 (by omega);rwa [Nat.zero_add]at this
    exact zcX m.q m.rs r0 t1
  have hput2:∀(X:World) b,X.rangeAt b 0 ({(Ms.plain 7 0 0 Vt.zero zd)with q:=m.q,rs:=m.rs}:Ms).cells→X.there b 0 119→(X.setCells b 80 (m.ct.cells++[m.cs])).rangeAt b 0 m.bare7.cells:=fun X b r0 t0=>by
    have t1:X.there b 80 37:=by have:=zL t0 80 37 (by omega);rwa [Nat.zero_add]at this
    exact zgb m.ct m.cs hm.ct Vt.zero_ok zt Vt.zero_ok r0 t1
  have im:(prog.info? 52).map (·.size)=some m.bare7.cells.length:=by rw[ld];exact iszM
  have im':(prog.info? 52).map (·.size)=some m.bare7.cells.toArray.size:=by rw[List.size_toArray,ld];exact iszM
  have ik':(prog.info? 52).map (·.size)=some (Ms.plain 7 0 0 Vt.zero zd).cells.toArray.size:=by rw[List.size_toArray,lk];exact iszM
  have l_b:([.bool m.q,m.rs]).length=2:=rfl
  have o_b:=all_oneCell_toArray (cs:=[.bool m.q,m.rs]) (fun v hv=>by simp only[List.mem_cons,List.not_mem_nil,or_false]at hv;rcases hv with rfl|rfl<;>first|rfl|exact hm.rs)
  have i_b:(prog.info? 39).map (·.size)=some ([.bool m.q,m.rs]).length:=by rw[l_b];exact iszB
  have j_b:(prog.info? 39).map (·.size)=some ([.bool m.q,m.rs]).toArray.size:=by rw[List.size_toArray,l_b];exact iszB
  have l_ct:(m.ct.cells++[m.cs]).length=37:=(by simp[hm.ct.len])
  have o_ct:=all_oneCell_toArray (cs:=m.ct.cells++[m.cs]) (fun v hv=>by rcases List.mem_append.1 hv with hv|hv<;>first|exact Vt.one m.ct v hv|(rw[List.mem_singleton.1 hv];exact hm.cs))
  have i_ct:(prog.info? 50).map (·.size)=some (m.ct.cells++[m.cs]).length:=by rw[l_ct];exact iszC
  have j_ct:(prog.info? 50).map (·.size)=some (m.ct.cells++[m.cs]).toArray.size:=by rw[List.size_toArray,l_ct];exact iszC
  clear oc hz0 od hm hk
  generalize m.bare7.cells=qr at *
  generalize ({(Ms.plain 7 0 0 Vt.zero zd)with q:=m.q,rs:=m.rs}:Ms).cells=C1 at *
  generalize m.cells=q at *
  generalize (Ms.plain 7 0 0 Vt.zero zd).cells=qk at *
  generalize Ms.zero.cells=z at *
  generalize ([.bool m.q,m.rs])=u_b at *
  generalize (m.ct.cells++[m.cs])=u_ct at *
  obtain⟨hA,hT,hB,hs⟩:=zbd q z w lz
  go_enter func85,ntmps85
  go_upto_region 1 with fail
  go_name_world w1 hw1
  rw[show(w.alloc (.cells q.toArray 52)).alloc (.cells z.toArray 52)=w1 from hw1]at hA hT hB hs
  clear hw1
  have c0:=(hat _ _ hA).1
  obtain⟨r2,hB2,hs2,hT2⟩:=zq w1 z.toArray 52 qk (by rw[List.size_toArray,lz,lk])
  rw[show z.toArray.size=119 by simpa using lz]at hT2
  have hTz:(w1.alloc (.cells z.toArray 52)).there w1.heap.size 0 qk.toArray.size:=by
    have:=zE w1 z.toArray 52
    rw[show z.toArray.size=119 by simpa using lz]at this
    rw[show qk.toArray.size=119 by simpa using lk]
    exact this
  go_upto_region 2 with(first|(refine zaZ rfl 52 [(0,.tmp 5)] rfl [(0,.int .i64 7)] _ rfl (hbk _) ?_)|refine wpList_store_mid rfl 52 _ _ rfl _ _ qk.toArray rfl rfl hTz ik' ok ?_)
  go_name_world w2 hw2
  rw[show(w1.alloc (.cells z.toArray 52)).setCells w1.heap.size 0 qk=w2 from hw2]at r2 hB2 hs2 hT2
  have hs2':w1.heap.size<w2.heap.size:=by omega
  clear hw2 hs2 hTz
  have H:Bst w w2 w1.heap.size q:=⟨za hA hB2 (by omega),hT2,zg hT hB2 (by omega),hB.trans (hB2.mono (by omega)),hs,hs2'⟩
  clear hA hT hB hB2 c0 hT2
  have ck:=(hat _ _ H.A).1
  go_upto_region 18 with fail
  obtain⟨w5,hw5⟩:∃w5,(w2).drew=w5:=⟨_,rfl⟩
  have hBd:Below (w2).heap.size (w2) w5:=by rw[←hw5];exact(Below.refl _ _).drew
  have r2:=za r2 hBd H.hs
  replace H:=H.below hBd
  refine zw (S:=fun w'=>w'.rangeAt w.heap.size 0 q) 8 rfl (by kernel_rfl) ?_
  rw[hw5]
  have hS:=H.A
  have h02:=H.h2
  refine hs_a 0 58 hS ?_
  refine hs_v 1 59 (.agg u_b.toArray) rfl (fun w' hw=>zu rfl rfl (run_loadVar_mid (P:=prog) w' _ _ 39 u_b _ ((hat _ _ hw).2.1) underlying39 rfl i_b)) hS ?_
  refine hs_a 2 60 hS ?_
  refine hs_v 3 61 (.agg u_ct.toArray) rfl (fun w' hw=>zu rfl rfl (run_loadVar_mid (P:=prog) w' _ _ 50 u_ct _ ((hat _ _ hw).2.2) underlying50 rfl i_ct)) hS ?_
  refine hs_a 4 62 hS ?_
  refine zG (i:=5) (w':=(w5).setCells w1.heap.size 5 (u_b)) rfl (by kernel_rfl) (by rfl) (zaM rfl rfl rfl (run_storeVar_mid _ _ _ _ u_b.toArray (by rw[show u_b.toArray.size=2 by simpa using l_b];exact H.part 5 2 (by omega)) j_b o_b)) rfl (H.put 5 (u_b)).A ?_
  have r2:=hput1 _ _ r2 H.T
  replace H:=H.put 5 (u_b)
  have hS:=H.A
  refine hs_a 6 63 hS ?_
  refine zG (i:=7) (w':=((w5).setCells w1.heap.size 5 (u_b)).setCells w1.heap.size 80 (u_ct)) rfl (by kernel_rfl) (by rfl) (zaM rfl rfl rfl (run_storeVar_mid _ _ _ _ u_ct.toArray (by rw[show u_ct.toArray.size=37 by simpa using l_ct];exact H.part 80 37 (by omega)) j_ct o_ct)) rfl (H.put 80 (u_ct)).A ?_
  have r2:=hput2 _ _ r2 H.T
  replace H:=H.put 80 (u_ct)
  have hS:=H.A
  refine zv (by kernel_rfl) ?_
  clear hBd
  go_upto_region 20 with fail
  go_name_world w3 hw3
  rw[show((w5).setCells w1.heap.size 5 (u_b)).setCells w1.heap.size 80 (u_ct)=w3 from hw3]at r2 H
  clear hw3
  have hT3:w3.there (w.heap.size+1) 0 qr.toArray.size:=by
    rw[show qr.toArray.size=119 by simpa using ld]
    exact H.T1
  have hB3:=H.B
  have r4:=World.rangeAt_setCells_same w3 (w.heap.size+1) 0 qr (by have:=hT3;rwa [List.size_toArray]at this)
  have hB4:=zi (show w.heap.size≤w.heap.size+1 by omega) qr 0 _ hB3
  have hrs:=run_loadVar_mid (P:=prog) _ (w.heap.size+1) 0 52 qr _ r4 underlying52 rfl im
  go_wp2_with (first|(refine wpList_load_mid rfl 52 _ rfl _ _ rfl qr _ r2 underlying52 rfl im ?_)|(refine wpList_store_mid rfl 52 _ _ rfl _ _ qr.toArray rfl rfl hT3 im' om ?_))
  exact bodyPost_ret (v:=.agg qr.toArray) (by simp[results,results85,asAddr,hrs,Act.put]) rfl ⟨rfl,hB4⟩
def Ms.bare8 (m:Ms):Ms:={Ms.plain 8 0 0 Vt.zero zd with st:=m.st,sg:=m.sg}
theorem Ms.bare8_ok {m:Ms} (hm:m.ok):m.bare8.ok:=by
 have oc:=Ms.plain_ok 8 0 0 Vt.zero_ok zt zx
 exact⟨by first|exact hm.vt|exact oc.vt,by first|exact hm.ct|exact oc.ct,by first|exact hm.dl|exact oc.dl,by first|exact hm.db|exact oc.db,by first|exact hm.rs|rfl,by first|exact hm.he|rfl,by first|exact hm.ne|rfl,by first|exact hm.cs|rfl,by first|exact hm.sg|rfl⟩
theorem znk (m:Ms) (hm:m.ok) (hk:m.k=8) (w:World):Calls prog 85 #[.agg m.cells.toArray] w (BareOk w m.bare8.cells):=by
 have oc:=Ms.plain_ok 8 0 0 Vt.zero_ok zt zx
 have hz0:Ms.zero.ok:=Ms.plain_ok 0 0 0 Vt.zero_ok zt zx
 have od:=Ms.bare8_ok hm
 have lk:=oc.len
 have lz:=hz0.len
 have ld:=od.len
 have ok:=all_oneCell_toArray oc.one
 have om:=all_oneCell_toArray od.one
 have hz:=zeroM
 have hbk:=zao 8
 have hat:∀(w':World) b,w'.rangeAt b 0 m.cells→w'.cell? ⟨b,0,none⟩=some (.int .i64 8)∧w'.cell? ⟨b,117,none⟩=some (.string m.st)∧w'.cell? ⟨b,118,none⟩=some (m.sg):=fun w' b h=>by
  have M:=hm.at h
  exact⟨(by rw[←hk];exact M.k),M.st,M.sg⟩
 have hput1:∀(X:World) b,X.rangeAt b 0 (Ms.plain 8 0 0 Vt.zero zd).cells→X.there b 0 119→(X.setCells b 117 ([.string m.st])).rangeAt b 0 ({(Ms.plain 8 0 0 Vt.zero zd)with st:=m.st}:Ms).cells:=fun X b r0 t0=>by
  have t1:X.there b 117 1:=by have:=zL t0 117 1 (by omega);rwa [Nat.zero_add]at this
  exact zf6 m.st Vt.zero_ok zt Vt.zero_ok r0 t1
 have hput2:∀(X:World) b,X.rangeAt b 0 ({(Ms.plain 8 0 0 Vt.zero zd)with st:=m.st}:Ms).cells→X.there b 0 119→(X.setCells b 118 ([m.sg])).rangeAt b 0 m.bare8.cells:=fun X b r0 t0=>by
  have t1:X.there b 118 1:=by have:=zL t0 118 1 (by omega);rwa [Nat.zero_add]at this
  exact zf7 m.sg Vt.zero_ok zt Vt.zero_ok r0 t1
 have im:(prog.info? 52).map (·.size)=some m.bare8.cells.length:=by rw[ld];exact iszM
 have im':(prog.info? 52).map (·.size)=some m.bare8.cells.toArray.size:=by rw[List.size_toArray,ld];exact iszM
 have ik':(prog.info? 52).map (·.size)=some (Ms.plain 8 0 0 Vt.zero zd).cells.toArray.size:=by rw[List.size_toArray,lk];exact iszM
 have v_sg:=hm.sg
 clear oc hz0 od hm hk
 generalize m.bare8.cells=qr at *
 generalize ({(Ms.plain 8 0 0 Vt.zero zd)with st:=m.st}:Ms).cells=C1 at *
 generalize m.cells=q at *
 generalize (Ms.plain 8 0 0 Vt.zero zd).cells=qk at *
 generalize Ms.zero.cells=z at *
 generalize m.st=x_st at *
 generalize m.sg=x_sg at *
 obtain⟨hA,hT,hB,hs⟩:=zbd q z w lz
 go_enter func85,ntmps85
 go_upto_region 1 with fail
 go_name_world w1 hw1
 rw[show(w.alloc (.cells q.toArray 52)).alloc (.cells z.toArray 52)=w1 from hw1]at hA hT hB hs
 clear hw1
 have c0:=(hat _ _ hA).1
 obtain⟨r2,hB2,hs2,hT2⟩:=zq w1 z.toArray 52 qk (by rw[List.size_toArray,lz,lk])
 rw[show z.toArray.size=119 by simpa using lz]at hT2
 have hTz:(w1.alloc (.cells z.toArray 52)).there w1.heap.size 0 qk.toArray.size:=by
  have:=zE w1 z.toArray 52
  rw[show z.toArray.size=119 by simpa using lz]at this
  rw[show qk.toArray.size=119 by simpa using lk]
  exact this
 go_upto_region 2 with(first|(refine zaZ rfl 52 [(0,.tmp 5)] rfl [(0,.int .i64 8)] _ rfl (hbk _) ?_)|refine wpList_store_mid rfl 52 _ _ rfl _ _ qk.toArray rfl rfl hTz ik' ok ?_)
 go_name_world w2 hw2
 rw[show(w1.alloc (.cells z.toArray 52)).setCells w1.heap.size 0 qk=w2 from hw2]at r2 hB2 hs2 hT2
 have hs2':w1.heap.size<w2.heap.size:=by omega
 clear hw2 hs2 hTz
 have H:Bst w w2 w1.heap.size q:=⟨za hA hB2 (by omega),hT2,zg hT hB2 (by omega),hB.trans (hB2.mono (by omega)),hs,hs2'⟩
 clear hA hT hB hB2 c0 hT2
 have ck:=(hat _ _ H.A).1
 go_upto_region 19 with fail
 obtain⟨w5,hw5⟩:∃w5,(w2).drew=w5:=⟨_,rfl⟩
 have hBd:Below (w2).heap.size (w2) w5:=by rw[←hw5];exact(Below.refl _ _).drew
 have r2:=za r2 hBd H.hs
 replace H:=H.below hBd
 refine zw (S:=fun w'=>w'.rangeAt w.heap.size 0 q) 8 rfl (by kernel_rfl) ?_
 rw[hw5]
 have hS:=H.A
 have h02:=H.h2
 refine hs_a 0 64 hS ?_
 refine hs_v 1 65 (.string x_st) rfl (fun w' hw=>zu rfl rfl (loadC w' ((hat _ _ hw).2.1) underlying9 rfl)) hS ?_
 refine hs_a 2 66 hS ?_
 refine hs_v 3 67 (x_sg) rfl (fun w' hw=>zu rfl rfl (loadC w' ((hat _ _ hw).2.2) underlying48 rfl)) hS ?_
 refine hs_a 4 68 hS ?_
 refine zG (i:=5) (w':=(w5).setCells w1.heap.size 117 ([.string x_st])) rfl (by kernel_rfl) (by rfl) (zaM rfl rfl rfl (zaS _ _ _ _ (.string x_st) (H.part 117 1 (by omega)) iszS rfl rfl)) rfl (H.put 117 ([.string x_st])).A ?_
 have r2:=hput1 _ _ r2 H.T
 replace H:=H.put 117 ([.string x_st])
 have hS:=H.A
 refine hs_a 6 69 hS ?_
 refine zG (i:=7) (w':=((w5).setCells w1.heap.size 117 ([.string x_st])).setCells w1.heap.size 118 ([x_sg])) rfl (by kernel_rfl) (by rfl) (zaM rfl rfl rfl (zaS _ _ _ _ (x_sg) (H.part 118 1 (by omega)) iszSs (zgu v_sg) v_sg)) rfl (H.put 118 ([x_sg])).A ?_
 have r2:=hput2 _ _ r2 H.T
 replace H:=H.put 118 ([x_sg])
 have hS:=H.A
 refine zv (by kernel_rfl) ?_
 clear hBd
 go_upto_region 20 with fail
 go_name_world w3 hw3
 rw[show((w5).setCells w1.heap.size 117 ([.string x_st])).setCells w1.heap.size 118 ([x_sg])=w3 from hw3]at r2 H
 clear hw3
 have hT3:w3.there (w.heap.size+1) 0 qr.toArray.size:=by
  rw[show qr.toArray.size=119 by simpa using ld]
  exact H.T1
 have hB3:=H.B
 have r4:=World.rangeAt_setCells_same w3 (w.heap.size+1) 0 qr (by have:=hT3;rwa [List.size_toArray]at this)
 have hB4:=zi (show w.heap.size≤w.heap.size+1 by omega) qr 0 _ hB3
 have hrs:=run_loadVar_mid (P:=prog) _ (w.heap.size+1) 0 52 qr _ r4 underlying52 rfl im
 go_wp2_with (first|(refine wpList_load_mid rfl 52 _ rfl _ _ rfl qr _ r2 underlying52 rfl im ?_)|(refine wpList_store_mid rfl 52 _ _ rfl _ _ qr.toArray rfl rfl hT3 im' om ?_))
 exact bodyPost_ret (v:=.agg qr.toArray) (by simp[results,results85,asAddr,hrs,Act.put]) rfl ⟨rfl,hB4⟩
def Sg.zero:Sg:=⟨0,List.replicate 16 0⟩
def Ev.zero:Ev:=⟨0,⟨#[]⟩,List.replicate 16 0⟩
def Rq.zero:Rq:=⟨0,0,⟨#[]⟩,List.replicate 16 0⟩
def mayL {α:Type} (most:Int) (p:α→Bool) (xs:List α):Bool:=decide ((xs.length:Int)≤most)&&xs.all p
theorem znt (x:Sl Sg) (most:Int) (p:Sg→Bool) (w:World) (hx:x.At SgE w) (hp:∀y∈x.xs,∀w0,Below w.heap.size w w0→Calls prog 170 #[.agg y.cells.toArray] w0 fun e w'=>e=.returned (.bool (p y))∧Below w0.heap.size w0 w'):
  Calls prog 169 #[x.val,.int .i64 most,.func (.func 170) #[] #[]] w fun e w'=>e=.returned (.bool (mayL most p x.xs))∧Below w.heap.size w w':=by
 obtain⟨a,cap,xs⟩:=x
 have hml:xs.length≤maxLen:=hx.1
 unfold maxLen at hml
 simp only[Sl.val]
 unfold mayL
 by_cases hlen:(xs.length:Int)≤most
 rotate_left
 ·rw[decide_eq_false hlen,Bool.false_and]
  have k0:most<(xs.length:Int):=by omega
  clear hlen hp
  go_enter func169,ntmps169
  go_wp2
  go_ret
  exact⟨rfl,Below.refl _ _⟩
 ·rw[decide_eq_true hlen,Bool.true_and]
  have k0:¬most<(xs.length:Int):=by omega
  clear hlen
  obtain⟨sb,hsb⟩:∃sb,Hid (xs.all p=sb):=⟨_,hide rfl⟩
  rw[hsb.out]
  go_enter func169,ntmps169
  go_wp2
  go_loopw [15] (fun iv wr'=>∃k:Nat,k≤xs.length∧iv=.int .i64 (k:Int)∧Hid (∀j (hj:j<xs.length),j<k→p xs[j]=true)∧Below w.heap.size w wr') (fun iv _=>xs.length - (intOf iv).toNat)
  case atStart=>exact⟨0,by omega,rfl,hide (fun j _ hj=>absurd hj (by omega)),Below.refl _ _⟩
  case round=>
   clear k0
   obtain⟨k,hk,rfl,HM,hB⟩:=hrel
   by_cases hlt:k<xs.length
   ·have k1:(k:Int)<xs.length:=by omega
    obtain⟨b,off,rfl,hb,hre⟩:=RowsAt.elem (hx.below hB) k hlt
    have hre:wr.rangeAt b (off+k*17) xs[k].cells:=hre
    have okx:SgE.ok xs[k]:=hx.2.1 _ (List.getElem_mem hlt)
    have hpk:=fun w0 h0=>hp xs[k] (List.getElem_mem hlt) w0 h0
    have HT:Hid (p xs[k]=true→∀j (hj:j<xs.length),j<k+1→p xs[j]=true):=hide (fun h j hj hjk=>by
     by_cases e:j=k
     ·subst e;exact h
     ·exact HM.out j hj (by omega))
    have HF:Hid (p xs[k]=false→sb=false):=hide (fun h=>by
     rw[←hsb.out]
     rw[List.all_eq_false]
     exact⟨xs[k],List.getElem_mem hlt,by rw[h];simp⟩)
    obtain⟨gx,hX⟩:∃g,Hid (xs[k]=g):=⟨_,hide rfl⟩
    rw[hX.out]at hre okx hpk HT HF
    clear hX HM
    have lu:gx.cells.length=17:=SgE.len _ okx
    have ou:gx.cells.toArray.all (·.oneCell')=true:=all_oneCell_toArray (SgE.one gx)
    generalize gx.cells=u at *
    generalize p gx=pb at *
    clear okx
    have iu:(prog.info? 133).map (·.size)=some u.length:=by rw[lu];kernel_rfl
    have iA:(prog.info? 133).map (·.size)=some u.toArray.size:=by rw[List.size_toArray,lu];kernel_rfl
    have zl:Sg.zero.cells.toArray.size=17:=rfl
    obtain⟨r5,hB5,hs5,_⟩:=zq wr Sg.zero.cells.toArray 133 u (by rw[lu];rfl)
    have hT5:(wr.alloc (.cells Sg.zero.cells.toArray 133)).there wr.heap.size 0 u.toArray.size:=by
     have:=zE wr Sg.zero.cells.toArray 133
     rw[zl]at this
     rw[show u.toArray.size=17 by simpa using lu]
     exact this
    go_upto_region 6 with(first|(refine wpList_load_mid rfl 133 _ rfl _ _ rfl u _ hre underlying133 rfl iu ?_)|(refine wpList_store_mid rfl 133 _ _ rfl _ _ u.toArray rfl rfl hT5 iA ou ?_))
    go_name_world w5 hw5
    rw[show(wr.alloc (.cells Sg.zero.cells.toArray 133)).setCells wr.heap.size 0 u=w5 from hw5]at r5 hB5 hs5
    have hB6:=hB.trans (hB5.mono hB.size)
    have c7:=hpk w5 hB6
    clear hw5 hs5 hT5 hre hpk hB5
    go_wp2_with (refine wpList_load_mid rfl 133 _ rfl _ _ rfl u _ r5 underlying133 rfl iu ?_)
    refine c7.mono ?_
    rintro e8 w8 ⟨rfl,hb8⟩
    have hB8:=hB6.trans (hb8.mono hB6.size)
    clear c7 hb8 r5 hB6
    cases pb
    ·have HF':=hide (HF.out rfl)
     clear HF HT hsb
     go_wp2
     go_ret
     exact⟨by rw[HF'.out];rfl,hB8⟩
    ·have HT':=hide (HT.out rfl)
     clear HF HT
     go_wp2
     go_roundw
     case rel=>exact⟨k+1,by omega,by go_num,HT',hB8⟩
     case measure=>simp[intOf];omega
   ·have k1:¬(k:Int)<xs.length:=by omega
    have HE:Hid (sb=true):=hide (by
     rw[←hsb.out]
     rw[List.all_eq_true]
     intro y hy
     obtain⟨j,hj,rfl⟩:=List.mem_iff_getElem.1 hy
     exact HM.out j hj (by omega))
    clear HM hsb
    go_wp2
    go_ret
    exact⟨by rw[HE.out];rfl,hB⟩
theorem znw (x:Sl Ev) (most:Int) (p:Ev→Bool) (w:World) (hx:x.At EvE w) (hp:∀y∈x.xs,∀w0,Below w.heap.size w w0→Calls prog 141 #[.agg y.cells.toArray] w0 fun e w'=>e=.returned (.bool (p y))∧Below w0.heap.size w0 w'):
  Calls prog 140 #[x.val,.int .i64 most,.func (.func 141) #[] #[]] w fun e w'=>e=.returned (.bool (mayL most p x.xs))∧Below w.heap.size w w':=by
 obtain⟨a,cap,xs⟩:=x
 have hml:xs.length≤maxLen:=hx.1
 unfold maxLen at hml
 simp only[Sl.val]
 unfold mayL
 by_cases hlen:(xs.length:Int)≤most
 rotate_left
 ·rw[decide_eq_false hlen,Bool.false_and]
  have k0:most<(xs.length:Int):=by omega
  clear hlen hp
  go_enter func140,ntmps140
  go_wp2
  go_ret
  exact⟨rfl,Below.refl _ _⟩
 ·rw[decide_eq_true hlen,Bool.true_and]
  have k0:¬most<(xs.length:Int):=by omega
  clear hlen
  obtain⟨sb,hsb⟩:∃sb,Hid (xs.all p=sb):=⟨_,hide rfl⟩
  rw[hsb.out]
  go_enter func140,ntmps140
  go_wp2
  go_loopw [15] (fun iv wr'=>∃k:Nat,k≤xs.length∧iv=.int .i64 (k:Int)∧Hid (∀j (hj:j<xs.length),j<k→p xs[j]=true)∧Below w.heap.size w wr') (fun iv _=>xs.length - (intOf iv).toNat)
  case atStart=>exact⟨0,by omega,rfl,hide (fun j _ hj=>absurd hj (by omega)),Below.refl _ _⟩
  case round=>
   clear k0
   obtain⟨k,hk,rfl,HM,hB⟩:=hrel
   by_cases hlt:k<xs.length
   ·have k1:(k:Int)<xs.length:=by omega
    obtain⟨b,off,rfl,hb,hre⟩:=RowsAt.elem (hx.below hB) k hlt
    have hre:wr.rangeAt b (off+k*18) xs[k].cells:=hre
    have okx:EvE.ok xs[k]:=hx.2.1 _ (List.getElem_mem hlt)
    have hpk:=fun w0 h0=>hp xs[k] (List.getElem_mem hlt) w0 h0
    have HT:Hid (p xs[k]=true→∀j (hj:j<xs.length),j<k+1→p xs[j]=true):=hide (fun h j hj hjk=>by
     by_cases e:j=k
     ·subst e;exact h
     ·exact HM.out j hj (by omega))
    have HF:Hid (p xs[k]=false→sb=false):=hide (fun h=>by
     rw[←hsb.out]
     rw[List.all_eq_false]
     exact⟨xs[k],List.getElem_mem hlt,by rw[h];simp⟩)
    obtain⟨gx,hX⟩:∃g,Hid (xs[k]=g):=⟨_,hide rfl⟩
    rw[hX.out]at hre okx hpk HT HF
    clear hX HM
    have lu:gx.cells.length=18:=EvE.len _ okx
    have ou:gx.cells.toArray.all (·.oneCell')=true:=all_oneCell_toArray (EvE.one gx)
    generalize gx.cells=u at *
    generalize p gx=pb at *
    clear okx
    have iu:(prog.info? 25).map (·.size)=some u.length:=by rw[lu];kernel_rfl
    have iA:(prog.info? 25).map (·.size)=some u.toArray.size:=by rw[List.size_toArray,lu];kernel_rfl
    have zl:Ev.zero.cells.toArray.size=18:=rfl
    obtain⟨r5,hB5,hs5,_⟩:=zq wr Ev.zero.cells.toArray 25 u (by rw[lu];rfl)
    have hT5:(wr.alloc (.cells Ev.zero.cells.toArray 25)).there wr.heap.size 0 u.toArray.size:=by
     have:=zE wr Ev.zero.cells.toArray 25
     rw[zl]at this
     rw[show u.toArray.size=18 by simpa using lu]
     exact this
    go_upto_region 6 with(first|(refine wpList_load_mid rfl 25 _ rfl _ _ rfl u _ hre underlying25 rfl iu ?_)|(refine wpList_store_mid rfl 25 _ _ rfl _ _ u.toArray rfl rfl hT5 iA ou ?_))
    go_name_world w5 hw5
    rw[show(wr.alloc (.cells Ev.zero.cells.toArray 25)).setCells wr.heap.size 0 u=w5 from hw5]at r5 hB5 hs5
    have hB6:=hB.trans (hB5.mono hB.size)
    have c7:=hpk w5 hB6
    clear hw5 hs5 hT5 hre hpk hB5
    go_wp2_with (refine wpList_load_mid rfl 25 _ rfl _ _ rfl u _ r5 underlying25 rfl iu ?_)
    refine c7.mono ?_
    rintro e8 w8 ⟨rfl,hb8⟩
    have hB8:=hB6.trans (hb8.mono hB6.size)
    clear c7 hb8 r5 hB6
    cases pb
    ·have HF':=hide (HF.out rfl)
     clear HF HT hsb
     go_wp2
     go_ret
     exact⟨by rw[HF'.out];rfl,hB8⟩
    ·have HT':=hide (HT.out rfl)
     clear HF HT
     go_wp2
     go_roundw
     case rel=>exact⟨k+1,by omega,by go_num,HT',hB8⟩
     case measure=>simp[intOf];omega
   ·have k1:¬(k:Int)<xs.length:=by omega
    have HE:Hid (sb=true):=hide (by
     rw[←hsb.out]
     rw[List.all_eq_true]
     intro y hy
     obtain⟨j,hj,rfl⟩:=List.mem_iff_getElem.1 hy
     exact HM.out j hj (by omega))
    clear HM hsb
    go_wp2
    go_ret
    exact⟨by rw[HE.out];rfl,hB⟩
theorem znu (x:Sl Rq) (most:Int) (p:Rq→Bool) (w:World) (hx:x.At RqE w) (hp:∀y∈x.xs,∀w0,Below w.heap.size w w0→Calls prog 166 #[.agg y.cells.toArray] w0 fun e w'=>e=.returned (.bool (p y))∧Below w0.heap.size w0 w'):
  Calls prog 165 #[x.val,.int .i64 most,.func (.func 166) #[] #[]] w fun e w'=>e=.returned (.bool (mayL most p x.xs))∧Below w.heap.size w w':=by
 obtain⟨a,cap,xs⟩:=x
 have hml:xs.length≤maxLen:=hx.1
 unfold maxLen at hml
 simp only[Sl.val]
 unfold mayL
 by_cases hlen:(xs.length:Int)≤most
 rotate_left
 ·rw[decide_eq_false hlen,Bool.false_and]
  have k0:most<(xs.length:Int):=by omega
  clear hlen hp
  go_enter func165,ntmps165
  go_wp2
  go_ret
  exact⟨rfl,Below.refl _ _⟩
 ·rw[decide_eq_true hlen,Bool.true_and]
  have k0:¬most<(xs.length:Int):=by omega
  clear hlen
  obtain⟨sb,hsb⟩:∃sb,Hid (xs.all p=sb):=⟨_,hide rfl⟩
  rw[hsb.out]
  go_enter func165,ntmps165
  go_wp2
  go_loopw [15] (fun iv wr'=>∃k:Nat,k≤xs.length∧iv=.int .i64 (k:Int)∧Hid (∀j (hj:j<xs.length),j<k→p xs[j]=true)∧Below w.heap.size w wr') (fun iv _=>xs.length - (intOf iv).toNat)
  case atStart=>exact⟨0,by omega,rfl,hide (fun j _ hj=>absurd hj (by omega)),Below.refl _ _⟩
  case round=>
   clear k0
   obtain⟨k,hk,rfl,HM,hB⟩:=hrel
   by_cases hlt:k<xs.length
   ·have k1:(k:Int)<xs.length:=by omega
    obtain⟨b,off,rfl,hb,hre⟩:=RowsAt.elem (hx.below hB) k hlt
    have hre:wr.rangeAt b (off+k*19) xs[k].cells:=hre
    have okx:RqE.ok xs[k]:=hx.2.1 _ (List.getElem_mem hlt)
    have hpk:=fun w0 h0=>hp xs[k] (List.getElem_mem hlt) w0 h0
    have HT:Hid (p xs[k]=true→∀j (hj:j<xs.length),j<k+1→p xs[j]=true):=hide (fun h j hj hjk=>by
     by_cases e:j=k
     ·subst e;exact h
     ·exact HM.out j hj (by omega))
    have HF:Hid (p xs[k]=false→sb=false):=hide (fun h=>by
     rw[←hsb.out]
     rw[List.all_eq_false]
     exact⟨xs[k],List.getElem_mem hlt,by rw[h];simp⟩)
    obtain⟨gx,hX⟩:∃g,Hid (xs[k]=g):=⟨_,hide rfl⟩
    rw[hX.out]at hre okx hpk HT HF
    clear hX HM
    have lu:gx.cells.length=19:=RqE.len _ okx
    have ou:gx.cells.toArray.all (·.oneCell')=true:=all_oneCell_toArray (RqE.one gx)
    generalize gx.cells=u at *
    generalize p gx=pb at *
    clear okx
    have iu:(prog.info? 81).map (·.size)=some u.length:=by rw[lu];kernel_rfl
    have iA:(prog.info? 81).map (·.size)=some u.toArray.size:=by rw[List.size_toArray,lu];kernel_rfl
    have zl:Rq.zero.cells.toArray.size=19:=rfl
    obtain⟨r5,hB5,hs5,_⟩:=zq wr Rq.zero.cells.toArray 81 u (by rw[lu];rfl)
    have hT5:(wr.alloc (.cells Rq.zero.cells.toArray 81)).there wr.heap.size 0 u.toArray.size:=by
     have:=zE wr Rq.zero.cells.toArray 81
     rw[zl]at this
     rw[show u.toArray.size=19 by simpa using lu]
     exact this
    go_upto_region 6 with(first|(refine wpList_load_mid rfl 81 _ rfl _ _ rfl u _ hre underlying81 rfl iu ?_)|(refine wpList_store_mid rfl 81 _ _ rfl _ _ u.toArray rfl rfl hT5 iA ou ?_))
    go_name_world w5 hw5
    rw[show(wr.alloc (.cells Rq.zero.cells.toArray 81)).setCells wr.heap.size 0 u=w5 from hw5]at r5 hB5 hs5
    have hB6:=hB.trans (hB5.mono hB.size)
    have c7:=hpk w5 hB6
    clear hw5 hs5 hT5 hre hpk hB5
    go_wp2_with (refine wpList_load_mid rfl 81 _ rfl _ _ rfl u _ r5 underlying81 rfl iu ?_)
    refine c7.mono ?_
    rintro e8 w8 ⟨rfl,hb8⟩
    have hB8:=hB6.trans (hb8.mono hB6.size)
    clear c7 hb8 r5 hB6
    cases pb
    ·have HF':=hide (HF.out rfl)
     clear HF HT hsb
     go_wp2
     go_ret
     exact⟨by rw[HF'.out];rfl,hB8⟩
    ·have HT':=hide (HT.out rfl)
     clear HF HT
     go_wp2
     go_roundw
     case rel=>exact⟨k+1,by omega,by go_num,HT',hB8⟩
     case measure=>simp[intOf];omega
   ·have k1:¬(k:Int)<xs.length:=by omega
    have HE:Hid (sb=true):=hide (by
     rw[←hsb.out]
     rw[List.all_eq_true]
     intro y hy
     obtain⟨j,hj,rfl⟩:=List.mem_iff_getElem.1 hy
     exact HM.out j hj (by omega))
    clear HM hsb
    go_wp2
    go_ret
    exact⟨by rw[HE.out];rfl,hB⟩
theorem znv (x:Sl Hd) (most:Int) (p:Hd→Bool) (w:World) (hx:x.At HdE w) (hp:∀y∈x.xs,∀w0,Below w.heap.size w w0→Calls prog 168 #[.agg y.cells.toArray] w0 fun e w'=>e=.returned (.bool (p y))∧Below w0.heap.size w0 w'):
  Calls prog 167 #[x.val,.int .i64 most,.func (.func 168) #[] #[]] w fun e w'=>e=.returned (.bool (mayL most p x.xs))∧Below w.heap.size w w':=by
 obtain⟨a,cap,xs⟩:=x
 have hml:xs.length≤maxLen:=hx.1
 unfold maxLen at hml
 simp only[Sl.val]
 unfold mayL
 by_cases hlen:(xs.length:Int)≤most
 rotate_left
 ·rw[decide_eq_false hlen,Bool.false_and]
  have k0:most<(xs.length:Int):=by omega
  clear hlen hp
  go_enter func167,ntmps167
  go_wp2
  go_ret
  exact⟨rfl,Below.refl _ _⟩
 ·rw[decide_eq_true hlen,Bool.true_and]
  have k0:¬most<(xs.length:Int):=by omega
  clear hlen
  obtain⟨sb,hsb⟩:∃sb,Hid (xs.all p=sb):=⟨_,hide rfl⟩
  rw[hsb.out]
  go_enter func167,ntmps167
  go_wp2
  go_loopw [15] (fun iv wr'=>∃k:Nat,k≤xs.length∧iv=.int .i64 (k:Int)∧Hid (∀j (hj:j<xs.length),j<k→p xs[j]=true)∧Below w.heap.size w wr') (fun iv _=>xs.length - (intOf iv).toNat)
  case atStart=>exact⟨0,by omega,rfl,hide (fun j _ hj=>absurd hj (by omega)),Below.refl _ _⟩
  case round=>
   clear k0
   obtain⟨k,hk,rfl,HM,hB⟩:=hrel
   by_cases hlt:k<xs.length
   ·have k1:(k:Int)<xs.length:=by omega
    obtain⟨b,off,rfl,hb,hre⟩:=RowsAt.elem (hx.below hB) k hlt
    have hre:wr.rangeAt b (off+k*39) xs[k].cells:=hre
    have okx:HdE.ok xs[k]:=hx.2.1 _ (List.getElem_mem hlt)
    have hpk:=fun w0 h0=>hp xs[k] (List.getElem_mem hlt) w0 h0
    have HT:Hid (p xs[k]=true→∀j (hj:j<xs.length),j<k+1→p xs[j]=true):=hide (fun h j hj hjk=>by
     by_cases e:j=k
     ·subst e;exact h
     ·exact HM.out j hj (by omega))
    have HF:Hid (p xs[k]=false→sb=false):=hide (fun h=>by
     rw[←hsb.out]
     rw[List.all_eq_false]
     exact⟨xs[k],List.getElem_mem hlt,by rw[h];simp⟩)
    obtain⟨gx,hX⟩:∃g,Hid (xs[k]=g):=⟨_,hide rfl⟩
    rw[hX.out]at hre okx hpk HT HF
    clear hX HM
    have lu:gx.cells.length=39:=HdE.len _ okx
    have ou:gx.cells.toArray.all (·.oneCell')=true:=all_oneCell_toArray (HdE.one gx)
    generalize gx.cells=u at *
    generalize p gx=pb at *
    clear okx
    have iu:(prog.info? 113).map (·.size)=some u.length:=by rw[lu];kernel_rfl
    have iA:(prog.info? 113).map (·.size)=some u.toArray.size:=by rw[List.size_toArray,lu];kernel_rfl
    have zl:Hd.zero.cells.toArray.size=39:=rfl
    obtain⟨r5,hB5,hs5,_⟩:=zq wr Hd.zero.cells.toArray 113 u (by rw[lu];rfl)
    have hT5:(wr.alloc (.cells Hd.zero.cells.toArray 113)).there wr.heap.size 0 u.toArray.size:=by
     have:=zE wr Hd.zero.cells.toArray 113
     rw[zl]at this
     rw[show u.toArray.size=39 by simpa using lu]
     exact this
    go_upto_region 6 with(first|(refine wpList_load_mid rfl 113 _ rfl _ _ rfl u _ hre underlying113 rfl iu ?_)|(refine wpList_store_mid rfl 113 _ _ rfl _ _ u.toArray rfl rfl hT5 iA ou ?_))
    go_name_world w5 hw5
    rw[show(wr.alloc (.cells Hd.zero.cells.toArray 113)).setCells wr.heap.size 0 u=w5 from hw5]at r5 hB5 hs5
    have hB6:=hB.trans (hB5.mono hB.size)
    have c7:=hpk w5 hB6
    clear hw5 hs5 hT5 hre hpk hB5
    go_wp2_with (refine wpList_load_mid rfl 113 _ rfl _ _ rfl u _ r5 underlying113 rfl iu ?_)
    refine c7.mono ?_
    rintro e8 w8 ⟨rfl,hb8⟩
    have hB8:=hB6.trans (hb8.mono hB6.size)
    clear c7 hb8 r5 hB6
    cases pb
    ·have HF':=hide (HF.out rfl)
     clear HF HT hsb
     go_wp2
     go_ret
     exact⟨by rw[HF'.out];rfl,hB8⟩
    ·have HT':=hide (HT.out rfl)
     clear HF HT
     go_wp2
     go_roundw
     case rel=>exact⟨k+1,by omega,by go_num,HT',hB8⟩
     case measure=>simp[intOf];omega
   ·have k1:¬(k:Int)<xs.length:=by omega
    have HE:Hid (sb=true):=hide (by
     rw[←hsb.out]
     rw[List.all_eq_true]
     intro y hy
     obtain⟨j,hj,rfl⟩:=List.mem_iff_getElem.1 hy
     exact HM.out j hj (by omega))
    clear HM hsb
    go_wp2
    go_ret
    exact⟨by rw[HE.out];rfl,hB⟩
def Sg.may (g:Sg):Bool:=inB g.n 64
def Ev.may (g:Ev):Bool:=inB g.n 64&&decide ((g.s.size:Int)≤4194304)
def Rq.may (g:Rq):Bool:=inB g.c 8&&(inB g.n 1099511627776&&decide ((g.s.size:Int)≤64))
theorem zet {α:Type} (E:El α) (y:α) (t:TypeId) (w:World):(w.alloc (.cells (E.f y).toArray t)).rangeAt w.heap.size 0 (E.f y)∧Below w.heap.size w (w.alloc (.cells (E.f y).toArray t)):=
 ⟨by simpa using zC w (E.f y).toArray t,(Below.refl _ _).alloc (Nat.le_refl _) _⟩
theorem zjb (g:Sg) (w:World):Calls prog 170 #[.agg g.cells.toArray] w fun e w'=>e=.returned (.bool g.may)∧Below w.heap.size w w':=by
 obtain⟨hA,hB⟩:=zet SgE g 133 w
 have c0:=hA 0 _ rfl
 simp only[Nat.add_zero]at c0
 change World.cell? (w.alloc (.cells g.cells.toArray 133)) _=_ at c0
 change Below _ _ (w.alloc (.cells g.cells.toArray 133))at hB
 unfold Sg.may
 generalize g.cells=q at *
 generalize g.n=n at *
 clear hA
 go_enter func170,ntmps170
 go_wp2_with (go_at_call 135;refine(zaf _ _ _).mono ?_;rintro e1 w1 ⟨rfl,hx⟩;obtain rfl:=hx.symm;clear hx)
 go_ret
 exact⟨rfl,hB⟩
theorem zl6 (g:Ev) (w:World):Calls prog 141 #[.agg g.cells.toArray] w fun e w'=>e=.returned (.bool g.may)∧Below w.heap.size w w':=by
 obtain⟨hA,hB⟩:=zet EvE g 25 w
 have c0:=hA 0 _ rfl
 have c1:=hA 1 _ rfl
 simp only[Nat.add_zero,Nat.zero_add]at c0 c1
 change World.cell? (w.alloc (.cells g.cells.toArray 25)) _=_ at c0 c1
 change Below _ _ (w.alloc (.cells g.cells.toArray 25))at hB
 unfold Ev.may
 generalize g.cells=q at *
 generalize g.n=n at *
 generalize g.s=s at *
 clear hA
 cases hn:inB n 64
 ·rw[Bool.false_and]
  go_enter func141,ntmps141
  go_wp2_with (go_at_call 135;refine(zaf _ _ _).mono ?_;rintro e1 w1 ⟨rfl,hx⟩;obtain rfl:=hx.symm;clear hx;rw[hn])
  go_ret
  exact⟨rfl,hB⟩
 ·rw[Bool.true_and]
  go_enter func141,ntmps141
  go_wp2_with (go_at_call 135;refine(zaf _ _ _).mono ?_;rintro e1 w1 ⟨rfl,hx⟩;obtain rfl:=hx.symm;clear hx;rw[hn])
  go_ret
  exact⟨rfl,hB⟩
theorem zjt (g:Rq) (w:World):Calls prog 166 #[.agg g.cells.toArray] w fun e w'=>e=.returned (.bool g.may)∧Below w.heap.size w w':=by
 obtain⟨hA,hB⟩:=zet RqE g 81 w
 have c0:=hA 0 _ rfl
 have c1:=hA 1 _ rfl
 have c2:=hA 2 _ rfl
 simp only[Nat.add_zero,Nat.zero_add]at c0 c1 c2
 change World.cell? (w.alloc (.cells g.cells.toArray 81)) _=_ at c0 c1 c2
 change Below _ _ (w.alloc (.cells g.cells.toArray 81))at hB
 unfold Rq.may
 generalize g.cells=q at *
 generalize g.c=c at *
 generalize g.n=n at *
 generalize g.s=s at *
 clear hA
 cases hc:inB c 8
 ·rw[Bool.false_and]
  go_enter func166,ntmps166
  go_wp2_with (go_at_call 135;refine(zaf _ _ _).mono ?_;rintro e1 w1 ⟨rfl,hx⟩;obtain rfl:=hx.symm;clear hx;rw[hc])
  go_ret
  exact⟨rfl,hB⟩
 ·rw[Bool.true_and]
  cases hn:inB n 1099511627776
  ·rw[Bool.false_and]
   go_enter func166,ntmps166
   go_wp2_with (go_at_call 135;refine(zaf _ _ _).mono ?_;rintro e1 w1 ⟨rfl,hx⟩;obtain rfl:=hx.symm;clear hx;(first|rw[hc]|rw[hn]))
   go_ret
   exact⟨rfl,hB⟩
  ·rw[Bool.true_and]
   go_enter func166,ntmps166
   go_wp2_with (go_at_call 135;refine(zaf _ _ _).mono ?_;rintro e1 w1 ⟨rfl,hx⟩;obtain rfl:=hx.symm;clear hx;(first|rw[hc]|rw[hn]))
   go_ret
   exact⟨rfl,hB⟩
def sgsMay (x:Sl Sg):Bool:=mayL 64 Sg.may x.xs
def batMay (q:Bool) (x:Sl Rq):Bool:=if q then decide (x.xs.length=0)else mayL 4 Rq.may x.xs
theorem zfC (x:Sl Sg) (w:World) (hx:x.At SgE w):Calls prog 142 #[x.val] w fun e w'=>e=.returned (.bool (sgsMay x))∧Below w.heap.size w w':=by
 have ca:=znt x 64 Sg.may w hx (fun y _ w0 _=>zjb y w0)
 unfold sgsMay
 generalize mayL 64 Sg.may x.xs=b at *
 obtain⟨a,cap,xs⟩:=x
 simp only[Sl.val]at ca ⊢
 clear hx
 go_enter func142,ntmps142
 go_wp2_with fail
 refine ca.mono ?_
 rintro e1 w1 ⟨rfl,hb⟩
 clear ca
 go_wp2
 go_ret
 exact⟨rfl,hb⟩
theorem zhR (q:Bool) (x:Sl Rq) (w:World) (hx:x.At RqE w):Calls prog 138 #[.agg #[.bool q,x.val]] w fun e w'=>e=.returned (.bool (batMay q x))∧Below w.heap.size w w':=by
 have hB:Below w.heap.size w (w.alloc (.cells #[.bool q,x.val] 39)):=(Below.refl _ w).alloc (Nat.le_refl _) _
 have ca:=znu x 4 Rq.may _ (hx.below hB) (fun y _ w0 _=>zjt y w0)
 have hml:x.xs.length≤maxLen:=hx.1
 unfold maxLen at hml
 unfold batMay
 generalize mayL 4 Rq.may x.xs=b at *
 obtain⟨a,cap,xs⟩:=x
 simp only[Sl.val]at ca hB hml ⊢
 clear hx
 cases q
 ·rw[if_neg (by simp)]
  go_enter func138,ntmps138
  go_wp2_with fail
  refine ca.mono ?_
  rintro e1 w1 ⟨rfl,hb⟩
  have hB1:=hB.trans (hb.mono hB.size)
  clear ca hb
  go_wp2
  go_ret
  exact⟨rfl,hB1⟩
 ·rw[if_pos rfl]
  clear ca
  by_cases h0:xs.length=0
  ·rw[decide_eq_true h0]
   have e0:((xs.length:Int)==0)=true:=by rw[h0];rfl
   clear h0
   go_enter func138,ntmps138
   go_wp2
   go_ret
   exact⟨by simp_all,hB⟩
  ·rw[decide_eq_false h0]
   have e0:((xs.length:Int)==0)=false:=beq_eq_false_iff_ne.2 (by omega)
   clear h0
   go_enter func138,ntmps138
   go_wp2
   go_ret
   exact⟨by simp_all,hB⟩
def certMay (x:Vt) (s:Sl Sg):Bool:=x.may&&sgsMay s
def Hd.may (h:Hd):Bool:=batMay h.q h.rs&&certMay h.vt h.sg
def chgMay (a b c:Int) (x:Sl Hd):Bool:=(inB a 1048576&&(inB b 64&&inB c 1099511627776))&&mayL 4 Hd.may x.xs
theorem zhu (x:Vt) (s:Sl Sg) (w:World) (hx:x.ok) (hs:s.At SgE w):Calls prog 137 #[.agg (certL x s).toArray] w fun e w'=>e=.returned (.bool (certMay x s))∧Below w.heap.size w w':=by
 have hA:(w.alloc (.cells (certL x s).toArray 50)).rangeAt w.heap.size 0 (certL x s):=by simpa using zC w (certL x s).toArray 50
 have hB:Below w.heap.size w (w.alloc (.cells (certL x s).toArray 50)):=(Below.refl _ _).alloc (Nat.le_refl _) _
 have hz:w.heap.size<(w.alloc (.cells (certL x s).toArray 50)).heap.size:=by simp
 have r1:=zI hA
 have c1:=zO hA 0 _ rfl
 rw[hx.len]at c1
 simp only[Nat.zero_add,Nat.add_zero]at c1
 have ix:(prog.info? 43).map (·.size)=some x.cells.length:=by rw[hx.len];exact iszV
 have cv:=fun w0=>zdx x w0
 have cs:=fun(w0:World) (h0:s.At SgE w0)=>zfC s w0 h0
 have s1:=hs.below hB
 unfold certMay
 obtain⟨W,hW⟩:∃W,Hid (w.alloc (.cells (certL x s).toArray 50)=W):=⟨_,hide rfl⟩
 rw[hW.out]at r1 c1 hB hz s1
 generalize certL x s=q at *
 generalize x.cells=u at *
 generalize x.may=b1 at *
 generalize sgsMay s=b2 at *
 have S2:=fun(w0:World) (h0:Below W.heap.size W w0)=>cs w0 (s1.below h0)
 obtain⟨a,cap,xs⟩:=s
 simp only[Sl.val]at c1 S2
 clear hA hx hs cs s1
 cases b1
 ·go_enter func137,ntmps137
  go_upto_region 1 with fail
  go_name_world w1 hw1
  obtain rfl:W=w1:=hW.out.symm.trans hw1
  clear hw1 hW S2
  go_wp2_with (refine wpList_load_mid rfl 43 _ rfl _ _ rfl u _ r1 underlying43 rfl ix ?_)
  refine(cv _).mono ?_
  rintro e2 w2 ⟨rfl,hb2⟩
  have hB2:=hB.trans (hb2.mono (by omega))
  clear cv r1 c1 hb2
  go_wp2
  go_ret
  exact⟨rfl,hB2⟩
 ·rw[Bool.true_and]
  go_enter func137,ntmps137
  go_upto_region 1 with fail
  go_name_world w1 hw1
  obtain rfl:W=w1:=hW.out.symm.trans hw1
  clear hw1 hW
  go_wp2_with (refine wpList_load_mid rfl 43 _ rfl _ _ rfl u _ r1 underlying43 rfl ix ?_)
  refine(cv _).mono ?_
  rintro e2 w2 ⟨rfl,hb2⟩
  have hB2:=hB.trans (hb2.mono (by omega))
  have c2:=(hb2.cell (p:=⟨w.heap.size,36,none⟩) hz).trans c1
  have C2:=S2 w2 hb2
  clear cv r1 c1 hb2 S2
  go_wp2_with fail
  refine C2.mono ?_
  rintro e3 w3 ⟨rfl,hb3⟩
  have hB3:=hB2.trans (hb3.mono hB2.size)
  clear C2 hb3
  go_wp2
  go_ret
  exact⟨rfl,hB3⟩
theorem zlv (h:Hd) (w:World) (kh:h.vt.ok) (ah:h.At w):Calls prog 168 #[.agg h.cells.toArray] w fun e w'=>e=.returned (.bool h.may)∧Below w.heap.size w w':=by
 have hA:(w.alloc (.cells h.cells.toArray 113)).rangeAt w.heap.size 0 h.cells:=by simpa using zC w h.cells.toArray 113
 have hB:Below w.heap.size w (w.alloc (.cells h.cells.toArray 113)):=(Below.refl _ _).alloc (Nat.le_refl _) _
 have hz:w.heap.size<(w.alloc (.cells h.cells.toArray 113)).heap.size:=by simp
 have c0:=hA 0 _ rfl
 have c1:=hA 1 _ rfl
 simp only[Nat.zero_add,Nat.add_zero]at c0 c1
 have rc:World.rangeAt _ w.heap.size 2 (certL h.vt h.sg):=zO (cs:=[.bool h.q,h.rs.val]) hA
 have ic:(prog.info? 50).map (·.size)=some (certL h.vt h.sg).length:=by rw[show(certL h.vt h.sg).length=37 by simp[certL,kh.len]];exact iszC
 have h1:=ah.below hB
 have cb:=fun(w0:World) k1=>zhR h.q h.rs w0 k1
 have cc:=fun(w0:World) k1=>zhu h.vt h.sg w0 kh k1
 unfold Hd.may
 obtain⟨W,hW⟩:∃W,Hid (w.alloc (.cells h.cells.toArray 113)=W):=⟨_,hide rfl⟩
 rw[hW.out]at c0 c1 rc hB hz h1
 generalize h.cells=q at *
 generalize certL h.vt h.sg=u at *
 generalize batMay h.q h.rs=b1 at *
 generalize certMay h.vt h.sg=b2 at *
 have B1:=cb W h1.1
 have C2:=fun(w0:World) (h0:Below W.heap.size W w0)=>cc w0 (h1.2.below h0)
 obtain⟨_,⟨a,cap,rs⟩,_,sg⟩:=h
 simp only[Sl.val]at c1 B1
 clear hA kh ah cb cc h1
 cases b1
 ·go_enter func168,ntmps168
  go_upto_region 1 with fail
  go_name_world w1 hw1
  obtain rfl:W=w1:=hW.out.symm.trans hw1
  clear hw1 hW C2
  go_wp2_with fail
  refine B1.mono ?_
  rintro e2 w2 ⟨rfl,hb2⟩
  have hB2:=hB.trans (hb2.mono (by omega))
  clear B1 c0 c1 rc hb2
  go_wp2
  go_ret
  exact⟨rfl,hB2⟩
 ·rw[Bool.true_and]
  go_enter func168,ntmps168
  go_upto_region 1 with fail
  go_name_world w1 hw1
  obtain rfl:W=w1:=hW.out.symm.trans hw1
  clear hw1 hW
  go_wp2_with fail
  refine B1.mono ?_
  rintro e2 w2 ⟨rfl,hb2⟩
  have hB2:=hB.trans (hb2.mono (by omega))
  have rc2:=za rc hb2 hz
  have D2:=C2 w2 hb2
  clear B1 c0 c1 rc hb2 C2
  go_wp2_with (refine zM (by rfl) 50 _ rfl _ _ rfl u _ rc2 underlying50 rfl ic ?_)
  refine D2.mono ?_
  rintro e3 w3 ⟨rfl,hb3⟩
  have hB3:=hB2.trans (hb3.mono hB2.size)
  clear D2 rc2 hb3
  go_wp2
  go_ret
  exact⟨rfl,hB3⟩
theorem zmJ (a b c:Int) (x:Sl Hd) (w:World) (hx:HdsAt w x):Calls prog 139 #[.agg (chgL a b c x)] w fun e w'=>e=.returned (.bool (chgMay a b c x))∧Below w.heap.size w w':=by
 have hB:Below w.heap.size w (w.alloc (.cells (chgL a b c x) 46)):=(Below.refl _ w).alloc (Nat.le_refl _) _
 have ca:=znv x 4 Hd.may _ (hx.1.below hB) (fun y hy w0 h0=>zlv y w0 (hx.1.2.1 y hy) ((hx.2 y hy).below (hB.trans (h0.mono hB.size))))
 unfold chgMay
 unfold chgL at hB ca ⊢
 generalize mayL 4 Hd.may x.xs=sb at *
 obtain⟨xa,xc,xs⟩:=x
 simp only[Sl.val]at hB ca ⊢
 clear hx
 cases h1:inB a 1048576
 ·rw[Bool.false_and,Bool.false_and]
  clear ca
  go_enter func139,ntmps139
  go_wp2_with (go_at_call 135;refine(zaf _ _ _).mono ?_;rintro e1 w1 ⟨rfl,hx⟩;obtain rfl:=hx.symm;clear hx;rw[h1])
  go_ret
  exact⟨rfl,hB⟩
 ·rw[Bool.true_and]
  cases h2:inB b 64
  ·rw[Bool.false_and,Bool.false_and]
   clear ca
   go_enter func139,ntmps139
   go_wp2_with (go_at_call 135;refine(zaf _ _ _).mono ?_;rintro e1 w1 ⟨rfl,hx⟩;obtain rfl:=hx.symm;clear hx;(first|rw[h1]|rw[h2]))
   go_ret
   exact⟨rfl,hB⟩
  ·rw[Bool.true_and]
   cases h3:inB c 1099511627776
   ·rw[Bool.false_and]
    clear ca
    go_enter func139,ntmps139
    go_wp2_with (go_at_call 135;refine(zaf _ _ _).mono ?_;rintro e1 w1 ⟨rfl,hx⟩;obtain rfl:=hx.symm;clear hx;(first|rw[h1]|rw[h2]|rw[h3]))
    go_ret
    exact⟨rfl,hB⟩
   ·rw[Bool.true_and]
    go_enter func139,ntmps139
    go_wp2_with (go_at_call 135;refine(zaf _ _ _).mono ?_;rintro e1 w1 ⟨rfl,hx⟩;obtain rfl:=hx.symm;clear hx;(first|rw[h1]|rw[h2]|rw[h3]))
    refine ca.mono ?_
    rintro e2 w2 ⟨rfl,hb2⟩
    have hB2:=hB.trans (hb2.mono hB.size)
    clear ca hb2
    go_wp2
    go_ret
    exact⟨rfl,hB2⟩
end Go.Proofs.YtcbpbkefggekmaaGreatDoor
