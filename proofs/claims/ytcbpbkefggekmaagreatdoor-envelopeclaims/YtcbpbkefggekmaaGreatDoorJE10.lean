/- messages, read: kind 8; the program's Decode; claims that grow in a cell; seal.blockOf: a key, filled up to a block; the closure of seal.Mac: the digest of the  -/
import Derived.Test.YtcbpbkefggekmaaGreatDoorJE0
import Derived.Test.YtcbpbkefggekmaaGreatDoorJE4
import Derived.Test.YtcbpbkefggekmaaGreatDoorJE5
import Derived.Test.YtcbpbkefggekmaaGreatDoorJE8
import Derived.Test.YtcbpbkefggekmaaGreatDoorJE9
import Derived.Test.YtcbpbkefggekmaaGreatDoorJE3
import Derived.Test.YtcbpbkefggekmaaGreatDoorJE1
import Derived.Laws.MakeOwn
import Derived.Test.YtcbpbkefggekmaaGreatDoorJE2
import Derived.Laws.IdiomStrings
import Derived.Lib.SlBytesConst
set_option maxHeartbeats 2000000
set_option maxRecDepth 100000
open Go.Proofs.Tryz
namespace Go.Proofs.YtcbpbkefggekmaaGreatDoor
open Go.RowKit
open Sha Tal
set_option linter.unusedVariables false
set_option linter.unusedSimpArgs false
theorem rmsgK8 (Q R:Nat) (s:Rst) (w:World) (h:RS w Q R s) (hl:s.1.length≤40000) (hk:(kiS 8 s).1=8):Calls prog 66 #[.pointer (some ⟨Q,0,none⟩)] w fun en w'=>∃m:Mg,en=.returned (.agg m.ms.cells.toArray)∧m.pure=(mg8 (kiS 8 s).2).1∧m.ok∧m.At w'∧m.Bk (fun b=>w.heap.size≤b)∧RS w' Q R (mg8 (kiS 8 s).2).2∧Kept w R Q w':=by
 have hRw:=h.st.1.1
 have hQw:=h.mr.lt
 have ck:=fun w0 h0=>kindRS Q R 8 s w0 h0
 have l0:=za4 8 s
 unfold mg8
 generalize kiS 8 s=p_ at ck l0 hk ⊢
 obtain⟨k,s0⟩:=p_
 simp only at ck l0 hk ⊢
 subst hk
 have c_a:=fun w0 h0=>textRS Q R 4194304 s0 w0 h0
 have l_a:(txS 4194304 s0).2.1.length≤s0.1.length:=zhb _ _
 generalize txS 4194304 s0=p_ at c_a l_a ⊢
 obtain⟨v_a,s_a⟩:=p_
 simp only at c_a l_a ⊢
 have c_b:=fun w0 h0=>zeK Q R s_a w0 h0 (by omega)
 have l_b:(lsS 64 siS s_a).2.1.length≤s_a.1.length:=zcw zc8 _ _
 generalize lsS 64 siS s_a=p_ at c_b l_b ⊢
 obtain⟨v_b,s_b⟩:=p_
 simp only at c_b l_b ⊢
 obtain⟨zc,hzl,hzr⟩:∃z:List Value,z.length=119∧∀w:World,(zeroValue 52).run prog w=.ok (.agg z.toArray) w:=⟨_,(Ms.plain_ok 0 0 0 Vt.zero_ok zv zD).len,zeroM⟩
 have hbk:=zaG 8
 have hql:=(zF 8).len
 have hq1:=(zF 8).one
 have hiq:(prog.info? 52).map (·.size)=some (Ms.plain 8 0 0 Vt.zero zeros32).cells.length:=by rw[hql];exact iszM
 have hk0:∀(w':World) b,w'.rangeAt b 0 (Ms.plain 8 0 0 Vt.zero zeros32).cells→w'.cell? ⟨b,0,none⟩=some (.int .i64 8):=fun w' b h=>((zF 8).at h).k
 obtain⟨qk,hqk⟩:∃q,Hid ((Ms.plain 8 0 0 Vt.zero zeros32).cells=q):=⟨_,hide rfl⟩
 simp only[hqk.out]at hbk hql hq1 hiq hk0
 obtain⟨hB1,hr1,hs1⟩:=zu w zc 52
 have ht1:=zm w zc.toArray 52 (n:=119) (by simp[hzl])
 go_enter func66,ntmps66
 go_upto_region 0 with fail
 try simp only[Act.put]
 refine zb ?_
 refine zj (d:=some 2) (v:=.pointer (some ⟨w.heap.size,0,none⟩)) (w':=w.alloc (.cells zc.toArray 52)) (by rfl) (zr rfl (hzr _)) rfl ?_
 simp only[nz]
 refine za ?_
 obtain⟨W1,hW1⟩:∃W,w.alloc (.cells zc.toArray 52)=W:=⟨_,rfl⟩
 rw[hW1]at hB1 hr1 hs1 ht1 ⊢
 clear hW1 hr1
 have S1:=h.below hB1
 go_upto_region 1 with fail
 try simp only[Act.put]
 refine zb ?_
 refine pl_t 4 (?_) (by rfl) ?_ rfl ?_
 rotate_left
 ·go_simp
  try with_reducible rfl
 simp only[nz]
 refine ze (d:=some 5) (by rfl) (by go_simp;first|done|exact⟨rfl,rfl⟩|with_reducible rfl) rfl ?_
 refine(ck W1 S1).mono ?_
 rintro _ w2 ⟨rfl,S2,k2⟩
 refine⟨_,rfl,?_⟩
 simp only[nz]
 refine pl_t 6 (.agg qk.toArray) (by rfl) (zR (parts:=[(0,.tmp 5)]) rfl rfl (hbk _)) rfl ?_
 simp only[nz]
 refine zj (d:=some 3) (v:=.pointer (some ⟨w2.heap.size,0,none⟩)) (w':=w2.alloc (.cells zc.toArray 52)) (by rfl) (zr rfl (hzr _)) rfl ?_
 simp only[nz]
 refine zf (w':=(w2.alloc (.cells zc.toArray 52)).setCells w2.heap.size 0 qk) (by rfl) (zn (cs:=qk.toArray) rfl rfl rfl (zm _ _ _ (by simp[hzl,hql])) (by simpa using hiq) (zo hq1)) rfl ?_
 refine za ?_
 obtain⟨hF1,hF2,hF3,-⟩:=zA w2 zc.toArray 52 qk (by simp[hzl,hql])
 have hF4:=World.there_setCells (zm w2 zc.toArray 52 (n:=119) (by simp[hzl])) w2.heap.size 0 qk
 obtain⟨w3,hw3⟩:∃W,(w2.alloc (.cells zc.toArray 52)).setCells w2.heap.size 0 qk=W:=⟨_,rfl⟩
 rw[hw3]at hF1 hF2 hF3 hF4 ⊢
 clear hw3
 have hc0:=hk0 _ _ hF1
 have k3:Kept w R Q w3:=(((Kept.refl w R Q).below hB1).trans k2).below hF2
 have z2:=k2.size
 rw[←hqk.out]at hF1
 have V3:MV w Q R w.heap.size w2.heap.size 119 (Ms.plain 8 0 0 Vt.zero zeros32).cells s0 w3:=⟨hF1,hF4,zq (zY ht1 (k2.block _ hs1 (by omega) (by omega))) hF2 (by omega),k3,S2.below hF2,by have:=hF2.size;omega,by omega,Nat.le_refl _,by have:=hB1.size;omega,by omega,hRw,hQw⟩
 have hww:w.heap.size<w2.heap.size:=by omega
 clear hF1 hF2 hF4 ht1 hB1 S1 S2 k2 k3 hk0 hbk hql hq1 hiq hqk h ck hzr hzl
 go_upto_region 2 with fail
 try simp only[Act.put]
 refine zb ?_
 refine pl_t 7 (?_) (by rfl) ?_ rfl ?_
 rotate_left
 ·go_simp
  try with_reducible rfl
 simp only[nz]
 refine pl_t 8 (.int .i64 8) (by rfl) (zg rfl rfl hc0 underlying3 rfl) rfl ?_
 simp only[nz]
 refine za ?_
 clear hc0
 go_upto_region 20 with fail
 try simp only[Act.put]
 refine zb ?_
 refine pl_t 106 (?_) (by rfl) ?_ rfl ?_
 rotate_left
 ·go_simp
  try with_reducible rfl
 simp only[nz]
 refine pl_t 107 (?_) (by rfl) ?_ rfl ?_
 rotate_left
 ·go_simp
  try with_reducible rfl
 simp only[nz]
 refine pl_t 108 (?_) (by rfl) ?_ rfl ?_
 rotate_left
 ·go_simp
  try with_reducible rfl
 simp only[nz]
 refine pl_t 109 (.pointer (some ⟨R,0,none⟩)) (by rfl) (zg rfl rfl V3.rs.mr.c0 underlying98 rfl) rfl ?_
 simp only[nz]
 refine ze (d:=some 110) (by rfl) (by go_simp;first|done|exact⟨rfl,rfl⟩|with_reducible rfl) rfl ?_
 refine(c_a w3 V3.rs).mono ?_
 rintro _ w5 ⟨rfl,S5,k5⟩
 refine⟨_,rfl,?_⟩
 simp only[nz]
 refine pl_t 111 (?_) (by rfl) ?_ rfl ?_
 rotate_left
 ·go_simp
  try with_reducible rfl
 simp only[nz]
 have V5:=V3.on k5 S5
 have Va:=V5.set 117 [.string v_a] (zeU v_a Vt.zero_ok zv Vt.zero_ok V5.row (V5.part 117 1 (by decide)))
 refine zf (w':=w5.setCells w2.heap.size 117 [.string v_a]) (by rfl) (zC (n:=119) rfl rfl rfl V5.box (by decide) iszStr rfl rfl) rfl ?_
 refine za ?_
 obtain⟨w6,hw6⟩:∃W,w5.setCells w2.heap.size 117 [.string v_a]=W:=⟨_,rfl⟩
 rw[hw6]at Va ⊢
 clear hw6
 clear V5 V3 S5 k5
 go_upto_region 21 with fail
 try simp only[Act.put]
 refine zb ?_
 refine pl_t 112 (?_) (by rfl) ?_ rfl ?_
 rotate_left
 ·go_simp
  try with_reducible rfl
 simp only[nz]
 refine pl_t 113 (?_) (by rfl) ?_ rfl ?_
 rotate_left
 ·go_simp
  try with_reducible rfl
 simp only[nz]
 refine pl_t 114 (?_) (by rfl) ?_ rfl ?_
 rotate_left
 ·go_simp
  try with_reducible rfl
 simp only[nz]
 refine pl_t 115 (.pointer (some ⟨R,0,none⟩)) (by rfl) (zg rfl rfl Va.rs.mr.c0 underlying98 rfl) rfl ?_
 simp only[nz]
 refine pl_t 116 (?_) (by rfl) ?_ rfl ?_
 rotate_left
 ·go_simp
  try with_reducible rfl
 simp only[nz]
 refine pl_t 117 (?_) (by rfl) ?_ rfl ?_
 rotate_left
 ·go_simp
  try with_reducible rfl
 simp only[nz]
 refine pl_t 118 (?_) (by rfl) ?_ rfl ?_
 rotate_left
 ·go_simp
  try with_reducible rfl
 simp only[nz]
 refine ze (d:=some 119) (by rfl) (by go_simp;first|done|exact⟨rfl,rfl⟩|with_reducible rfl) rfl ?_
 refine(c_b w6 Va.rs).mono ?_
 rintro _ wd ⟨x,rfl,hx,hA,hB,Sd,kd⟩
 refine⟨_,rfl,?_⟩
 simp only[nz]
 refine pl_t 120 (?_) (by rfl) ?_ rfl ?_
 rotate_left
 ·go_simp
  try with_reducible rfl
 simp only[nz]
 have Vd:=Va.on kd Sd
 have Ve:=Vd.set 118 [x.val] (zeV x.val Vt.zero_ok zv Vt.zero_ok Vd.row (Vd.part 118 1 (by decide)))
 have lb:=Va.lb
 have la:=Va.la
 have na:=Va.kept.size
 refine zf (w':=wd.setCells w2.heap.size 118 [x.val]) (by rfl) (zC (n:=119) rfl rfl rfl Vd.box (by decide) iszSgs rfl rfl) rfl ?_
 refine za ?_
 have hA1:=hA.put (B:=w2.heap.size) (o:=118) (vs:=[x.val]) hB (fun b hb=>by omega)
 obtain⟨we,hwe⟩:∃W,wd.setCells w2.heap.size 118 [x.val]=W:=⟨_,rfl⟩
 rw[hwe]at Ve hA1 ⊢
 clear hwe
 clear Vd Sd kd Va hA
 have rpc:=Ve.row
 have hmo:Mg.ok ⟨8,0,0,0,0,false,⟨none,0,[]⟩,Vt.zero,0,0,0,⟨none,0,[]⟩,⟨none,0,[]⟩,zeros32,Vt.zero,⟨none,0,[]⟩,v_a,x⟩:=⟨Vt.zero_ok,Vt.zero_ok,zv,zD⟩
 have hpl:(Mg.ms ⟨8,0,0,0,0,false,⟨none,0,[]⟩,Vt.zero,0,0,0,⟨none,0,[]⟩,⟨none,0,[]⟩,zeros32,Vt.zero,⟨none,0,[]⟩,v_a,x⟩).cells.length=119:=hmo.ms.len
 have hp1:=hmo.ms.one
 have hip:(prog.info? 52).map (·.size)=some (Mg.ms ⟨8,0,0,0,0,false,⟨none,0,[]⟩,Vt.zero,0,0,0,⟨none,0,[]⟩,⟨none,0,[]⟩,zeros32,Vt.zero,⟨none,0,[]⟩,v_a,x⟩).cells.length:=by rw[hpl];exact iszM
 have rpc:we.rangeAt w2.heap.size 0 (Mg.ms ⟨8,0,0,0,0,false,⟨none,0,[]⟩,Vt.zero,0,0,0,⟨none,0,[]⟩,⟨none,0,[]⟩,zeros32,Vt.zero,⟨none,0,[]⟩,v_a,x⟩).cells:=rpc
 obtain⟨pc,hpc⟩:∃p,Hid ((Mg.ms ⟨8,0,0,0,0,false,⟨none,0,[]⟩,Vt.zero,0,0,0,⟨none,0,[]⟩,⟨none,0,[]⟩,zeros32,Vt.zero,⟨none,0,[]⟩,v_a,x⟩).cells=p):=⟨_,hide rfl⟩
 simp only[hpc.out]at hpl hip hp1 rpc
 go_upto_region 22 with fail
 try simp only[Act.put]
 refine zb ?_
 refine pl_t 121 (.agg pc.toArray) (by rfl) (zp rfl rfl rpc underlying52 rfl hip) rfl ?_
 simp only[nz]
 refine zf (w':=we.setCells w.heap.size 0 pc) (by rfl) (zn (cs:=pc.toArray) rfl rfl rfl (by simpa [hpl]using Ve.ans) (by simpa using hip) (zo hp1)) rfl ?_
 refine za ?_
 have hlow:Below w.heap.size we (we.setCells w.heap.size 0 pc):=zi (Nat.le_refl _) pc 0 _ (Below.refl _ we)
 have hrs:=run_loadVar_mid (P:=prog) (we.setCells w.heap.size 0 pc) w.heap.size 0 52 pc _ (World.rangeAt_setCells_same we w.heap.size 0 pc (by rw[hpl];exact Ve.ans)) underlying52 rfl hip
 have HF:Hid (∃m:Mg,Ending.returned (.agg pc.toArray)=.returned (.agg m.ms.cells.toArray)∧m.pure=(⟨8,0,0,0,0,false,[],Vt.zero,0,0,0,[],[],zeros32,Vt.zero,[],v_a,v_b⟩:Mp)∧m.ok∧m.At (we.setCells w.heap.size 0 pc)∧m.Bk (fun b=>w.heap.size≤b)∧RS (we.setCells w.heap.size 0 pc) Q R s_b∧Kept w R Q (we.setCells w.heap.size 0 pc)):=hide ⟨⟨8,0,0,0,0,false,⟨none,0,[]⟩,Vt.zero,0,0,0,⟨none,0,[]⟩,⟨none,0,[]⟩,zeros32,Vt.zero,⟨none,0,[]⟩,v_a,x⟩,by rw[hpc.out],by rw[←hx];rfl,hmo,zaj RowsAt.none zV RowsAt.none RowsAt.none (hA1.put hB (fun b hb=>by omega)),⟨zh,zh,zai,zh,zh,hB.mono (fun b hb=>by omega)⟩,Ve.rs.low hlow hQw,Ve.kept.low hlow (Nat.le_refl _)⟩
 clear Ve hlow rpc hpc hmo hA1 hB hx
 go_wp2_with fail
 refine bodyPost_ret (v:=.agg pc.toArray) ?_ rfl ?_
 ·simp[results,results66,Act.put,asAddr,hrs]
 ·exact HF.out
theorem rmsgS (Q R:Nat) (s:Rst) (w:World) (h:RS w Q R s) (hl:s.1.length≤40000):Calls prog 66 #[.pointer (some ⟨Q,0,none⟩)] w fun en w'=>∃m:Mg,en=.returned (.agg m.ms.cells.toArray)∧m.pure=(mgS s).1∧m.ok∧m.At w'∧m.Bk (fun b=>w.heap.size≤b)∧RS w' Q R (mgS s).2∧Kept w R Q w':=by
 unfold mgS mgF
 by_cases n1:(kiS 8 s).1=1
 ·rw[if_pos n1];exact rmsgK1 Q R s w h hl n1
 rw[if_neg n1]
 by_cases n2:(kiS 8 s).1=2
 ·rw[if_pos n2];exact rmsgK2 Q R s w h hl n2
 rw[if_neg n2]
 by_cases n3:(kiS 8 s).1=3
 ·rw[if_pos n3];exact rmsgK3 Q R s w h hl n3
 rw[if_neg n3]
 by_cases n4:(kiS 8 s).1=4
 ·rw[if_pos n4];exact rmsgK4 Q R s w h hl n4
 rw[if_neg n4]
 by_cases n5:(kiS 8 s).1=5
 ·rw[if_pos n5];exact rmsgK5 Q R s w h hl n5
 rw[if_neg n5]
 by_cases n6:(kiS 8 s).1=6
 ·rw[if_pos n6];exact rmsgK6 Q R s w h hl n6
 rw[if_neg n6]
 by_cases n7:(kiS 8 s).1=7
 ·rw[if_pos n7];exact rmsgK7 Q R s w h hl n7
 rw[if_neg n7]
 by_cases n8:(kiS 8 s).1=8
 ·rw[if_pos n8];exact rmsgK8 Q R s w h hl n8
 rw[if_neg n8]
 exact rmsgK0 Q R s w h hl n1 n2 n3 n4 n5 n6 n7 n8
theorem zi0 (s:ByteArray) (hs:s.size≤1099511627) (w:World):Calls prog 65 #[.string s] w fun e w'=>∃Q R,e=.returned (.pointer (some ⟨Q,0,none⟩))∧w.heap.size≤R∧RS w' Q R (strL s,0,false)∧Below w.heap.size w w':=by
 obtain⟨c,w1,hc,hr,hB⟩:=zf8 s hs w
 have hl:(strL s).length≤549755813888:=by rw[zad];omega
 have cr:=zif (some ⟨w.heap.size,0,none⟩) c (strL s) w1 hr hl
 generalize strL s=zs at *
 go_enter func65,ntmps65
 go_wp2_with fail
 refine cr.mono ?_
 rintro e w2 ⟨R,rfl,hR,hSt,hb2⟩
 have hB2:=hB.trans (hb2.mono hB.size)
 have hB3:Below w2.heap.size w2 (w2.alloc (.cells #[.pointer (some ⟨R,0,none⟩),.bool false] 178)):=(Below.refl _ _).alloc (Nat.le_refl _) _
 have hB4:=hB2.trans (hB3.mono hB2.size)
 have hRl:=hSt.1.1
 have hSt3:=hSt.below hB3
 have hQ:MrAt (w2.alloc (.cells #[.pointer (some ⟨R,0,none⟩),.bool false] 178)) w2.heap.size R false:=
  ⟨by simp,hRl,World.cell?_alloc_at _ _ _ _ rfl,World.cell?_alloc_at _ _ _ _ rfl,World.frozen?_alloc_at _ _ _ _ rfl⟩
 have hQt:=zm w2 #[.pointer (some ⟨R,0,none⟩),.bool false] 178 (n:=2) rfl
 have hRw:w.heap.size≤R:=by have:=hB.size;omega
 clear cr hc hr hSt hB3 hB2 hb2 hB
 go_wp2_with fail
 go_ret
 exact⟨_,R,rfl,hRw,⟨hSt3,hQ,hQt⟩,hB4⟩
def faE (s:Rst):Int:=if s.2.2=true then 130 else doneE s.1 s.2.1
theorem faultS (Q R:Nat) (s:Rst) (w:World) (h:RS w Q R s):Calls prog 67 #[.pointer (some ⟨Q,0,none⟩)] w fun en w'=>en=.returned (.int .i64 (faE s))∧w'=w:=by
 obtain⟨rest,e,z⟩:=s
 unfold faE
 cases z
 ·exact zjX Q R rest e w h.st h.mr
 ·have c0:=h.mr.c0
  have c1:=h.mr.c1
  simp only at c0 c1
  clear h
  go_enter func67,ntmps67
  go_wp2_with fail
  go_ret
  exact⟨rfl,rfl⟩
def Mp.none:Mp:=⟨0,0,0,0,0,false,[],Vt.zero,0,0,0,[],[],zeros32,Vt.zero,[],⟨#[]⟩,[]⟩
def decS (zs:List Int):Mp ×Int:=if faE (mgS (zs,0,false)).2=0 then((mgS (zs,0,false)).1,0)else(Mp.none,faE (mgS (zs,0,false)).2)
def Mg.none:Mg:=⟨0,0,0,0,0,false,⟨Option.none,0,[]⟩,Vt.zero,0,0,0,⟨Option.none,0,[]⟩,⟨Option.none,0,[]⟩,zeros32,Vt.zero,⟨Option.none,0,[]⟩,⟨#[]⟩,⟨Option.none,0,[]⟩⟩
theorem Mg.none_ok:Mg.none.ok:=⟨Vt.zero_ok,Vt.zero_ok,zv,zD⟩
theorem Mg.none_at (w:World):Mg.none.At w:=zaj RowsAt.none zV RowsAt.none RowsAt.none RowsAt.none
theorem Mg.At.put {m:Mg} {W:World} {n o:Nat} {vs:List Value} (h:m.At W) (k:Mg.Bk m (fun b=>n<b)):m.At (W.setCells n o vs):=by
 obtain⟨k1,k2,k2',k3,k4,k5⟩:=k
 have f:∀b,n<b→b≠n:=fun b hb=>by omega
 exact⟨h.rs.put k1 f,h.he.put k2 k2' f,h.ne.put k3 f,h.cs.put k4 f,h.sg.put k5 f⟩
theorem zge (w:World):(Instr.build 52 #[]).run prog w=.ok (.agg Mg.none.ms.cells.toArray) w:=zcH #[] _ w rfl
theorem zfV (sb:ByteArray) (hs:sb.size≤40000) (w:World):Calls prog 30 #[.string sb] w fun en w'=>∃m:Mg,en=.returned (.tuple #[.agg m.ms.cells.toArray,.int .i64 (decS (strL sb)).2])∧m.pure=(decS (strL sb)).1∧m.ok∧m.At w'∧m.Bk (fun b=>w.heap.size≤b)∧Below w.heap.size w w':=by
 obtain⟨zc,hzc,hzl,hz1,hzr,hb0⟩:∃z:List Value,Hid (z=Mg.none.ms.cells)∧z.length=119∧(∀v∈z,v.oneCell'=true)∧(∀w:World,(zeroValue 52).run prog w=.ok (.agg z.toArray) w)∧∀w:World,(Instr.build 52 #[]).run prog w=.ok (.agg z.toArray) w:=⟨_,hide rfl,Mg.none_ok.ms.len,Mg.none_ok.ms.one,zeroM,zge⟩
 have hiz:(prog.info? 52).map (·.size)=some zc.length:=by rw[hzl];exact iszM
 have cn:=fun w0=>zi0 sb (by omega) w0
 have cr:=fun Q R w0 h0=>rmsgS Q R (strL sb,0,false) w0 h0 (by show(strL sb).length≤40000;rw[zad];exact hs)
 have hs':(sb.size:Int)≤4194304:=by omega
 unfold decS
 generalize strL sb=zs at cn cr ⊢
 generalize mgS (zs,0,false)=p_ at cr ⊢
 obtain⟨mp,t⟩:=p_
 simp only at cr ⊢
 have cf:=fun Q R w0 h0=>faultS Q R t w0 h0
 generalize faE t=f at cf ⊢
 obtain⟨hB1,hr1,hs1⟩:=zu w zc 52
 have ht1:=zm w zc.toArray 52 (n:=119) (by simp[hzl])
 go_enter func30,ntmps30
 go_upto_region 0 with fail
 try simp only[Act.put]
 refine zb ?_
 refine zj (d:=some 2) (v:=.pointer (some ⟨w.heap.size,0,none⟩)) (w':=w.alloc (.cells zc.toArray 52)) (by rfl) (zr rfl (hzr _)) rfl ?_
 simp only[nz]
 refine pl_t 3 (?_) (by rfl) ?_ rfl ?_
 rotate_left
 ·go_simp
  try with_reducible rfl
 simp only[nz]
 refine za ?_
 obtain⟨W1,hW1⟩:∃W,w.alloc (.cells zc.toArray 52)=W:=⟨_,rfl⟩
 rw[hW1]at hB1 hr1 hs1 ht1 ⊢
 clear hW1 hr1
 go_upto_region 3 with fail
 try simp only[Act.put]
 refine zb ?_
 refine pl_t 11 (?_) (by rfl) ?_ rfl ?_
 rotate_left
 ·go_simp
  try with_reducible rfl
 simp only[nz]
 refine ze (d:=some 12) (by rfl) (by go_simp;first|done|exact⟨rfl,rfl⟩|with_reducible rfl) rfl ?_
 refine(cn W1).mono ?_
 rintro _ w2 ⟨Q,R,rfl,hRw,S2,hb2⟩
 refine⟨_,rfl,?_⟩
 simp only[nz]
 refine pl_t 4 (?_) (by rfl) ?_ rfl ?_
 rotate_left
 ·go_simp
  try with_reducible rfl
 simp only[nz]
 refine za ?_
 have hT2:=zq ht1 hb2 hs1
 have hRQ:=S2.mr.ne
 have hB2:=hB1.trans (hb2.mono hB1.size)
 have z2:=hb2.size
 clear cn
 go_upto_region 4 with fail
 try simp only[Act.put]
 refine zb ?_
 refine pl_t 13 (?_) (by rfl) ?_ rfl ?_
 rotate_left
 ·go_simp
  try with_reducible rfl
 simp only[nz]
 refine ze (d:=some 14) (by rfl) (by go_simp;first|done|exact⟨rfl,rfl⟩|with_reducible rfl) rfl ?_
 refine(cr Q R w2 S2).mono ?_
 rintro _ w3 ⟨m,rfl,hp,hmo,hA,hB,S3,k3⟩
 refine⟨_,rfl,?_⟩
 simp only[nz]
 have hql:=hmo.ms.len
 have hq1:=hmo.ms.one
 have hiq:(prog.info? 52).map (·.size)=some m.ms.cells.length:=by rw[hql];exact iszM
 obtain⟨q,hqq⟩:∃q,Hid (m.ms.cells=q):=⟨_,hide rfl⟩
 simp only[hqq.out]at hql hq1 hiq ⊢
 refine zj (d:=some 5) (v:=.pointer (some ⟨w3.heap.size,0,none⟩)) (w':=w3.alloc (.cells zc.toArray 52)) (by rfl) (zr rfl (hzr _)) rfl ?_
 simp only[nz]
 refine zf (w':=(w3.alloc (.cells zc.toArray 52)).setCells w3.heap.size 0 q) (by rfl) (zn (cs:=q.toArray) rfl rfl rfl (zm _ _ _ (by simp[hzl,hql])) (by simpa using hiq) (zo hq1)) rfl ?_
 refine za ?_
 obtain⟨r4,hF2,hF3,-⟩:=zA w3 zc.toArray 52 q (by simp[hzl,hql])
 have hT3:=zY hT2 (k3.block w.heap.size (by omega) (by omega) (by omega))
 have hB3:Below w.heap.size w w3:=k3.to hB2 (by omega) (by omega)
 have z3:=k3.size
 obtain⟨w4,hw4⟩:∃W,(w3.alloc (.cells zc.toArray 52)).setCells w3.heap.size 0 q=W:=⟨_,rfl⟩
 rw[hw4]at r4 hF2 hF3 ⊢
 clear hw4
 have S4:=S3.below hF2
 have hT4:=zq hT3 hF2 (by omega)
 have hB4:=hB3.trans (hF2.mono hB3.size)
 have hA4:=hA.below hF2
 have cf:=cf Q R
 have hBk:m.Bk (fun b=>w.heap.size<b):=⟨hB.1.mono (fun b hb=>by omega),hB.2.1.mono (fun b hb=>by omega),fun y hy=>(hB.2.2.1 y hy).mono (fun b hb=>by omega),hB.2.2.2.1.mono (fun b hb=>by omega),hB.2.2.2.2.1.mono (fun b hb=>by omega),hB.2.2.2.2.2.mono (fun b hb=>by omega)⟩
 have hBk0:m.Bk (fun b=>w.heap.size≤b):=⟨hB.1.mono (fun b hb=>by omega),hB.2.1.mono (fun b hb=>by omega),fun y hy=>(hB.2.2.1 y hy).mono (fun b hb=>by omega),hB.2.2.2.1.mono (fun b hb=>by omega),hB.2.2.2.2.1.mono (fun b hb=>by omega),hB.2.2.2.2.2.mono (fun b hb=>by omega)⟩
 have B9:=fun vs=>zi (Nat.le_refl w.heap.size) vs 0 _ hB4
 have A9:=fun vs=>Mg.At.put (o:=0) (vs:=vs) hA4 hBk
 have HM:=hide (show m.pure=mp∧m.ok∧m.Bk (fun b=>w.heap.size≤b) from⟨hp,hmo,hBk0⟩)
 clear hF2 hA hB hBk hBk0 hT3 hB3 S3 k3 hT2 hB2 hp hmo hA4 cr S2 hb2
 go_upto_region 5 with fail
 try simp only[Act.put]
 refine zb ?_
 refine pl_t 15 (?_) (by rfl) ?_ rfl ?_
 rotate_left
 ·go_simp
  try with_reducible rfl
 simp only[nz]
 refine ze (d:=some 16) (by rfl) (by go_simp;first|done|exact⟨rfl,rfl⟩|with_reducible rfl) rfl ?_
 refine(cf w4 S4).mono ?_
 rintro _ w5 ⟨rfl,hx⟩
 obtain rfl:=hx.symm
 clear hx
 refine⟨_,rfl,?_⟩
 simp only[nz]
 refine pl_t 6 (?_) (by rfl) ?_ rfl ?_
 rotate_left
 ·go_simp
  try with_reducible rfl
 simp only[nz]
 refine za ?_
 clear cf S4
 by_cases hf:f=0
 ·subst hf
  go_upto_region 8 with fail
  try simp only[Act.put]
  refine zb ?_
  refine pl_t 21 (.agg q.toArray) (by rfl) (zp rfl rfl r4 underlying52 rfl hiq) rfl ?_
  simp only[nz]
  refine zf (w':=w4.setCells w.heap.size 0 q) (by rfl) (zn (cs:=q.toArray) rfl rfl rfl (by simpa [hql]using hT4) (by simpa using hiq) (zo hq1)) rfl ?_
  refine pl_t 3 (?_) (by rfl) ?_ rfl ?_
  rotate_left
  ·go_simp
   try with_reducible rfl
  simp only[nz]
  refine za ?_
  have hrs:=run_loadVar_mid (P:=prog) (w4.setCells w.heap.size 0 q) w.heap.size 0 52 q _ (World.rangeAt_setCells_same w4 w.heap.size 0 q (by rw[hql];exact hT4)) underlying52 rfl hiq
  have HF:Hid (∃g:Mg,Ending.returned (.tuple #[.agg q.toArray,.int .i64 0])=.returned (.tuple #[.agg g.ms.cells.toArray,.int .i64 0])∧g.pure=mp∧g.ok∧g.At (w4.setCells w.heap.size 0 q)∧g.Bk (fun b=>w.heap.size≤b)∧Below w.heap.size w (w4.setCells w.heap.size 0 q)):=hide ⟨m,by rw[hqq.out],HM.out.1,HM.out.2.1,A9 q,HM.out.2.2,B9 q⟩
  clear HM A9 B9 r4 hT4 hB4 hqq
  go_wp2_with fail
  refine bodyPost_ret (zbm rfl _ _ _ rfl hrs) rfl ?_
  exact HF.out
 ·have hfb:(f !=0)=true:=by simpa using hf
  go_upto_region 7 with fail
  try simp only[Act.put]
  refine zb ?_
  refine pl_t 19 (.agg zc.toArray) (by rfl) (zR (parts:=[]) rfl rfl (hb0 _)) rfl ?_
  simp only[nz]
  refine pl_t 20 (?_) (by rfl) ?_ rfl ?_
  rotate_left
  ·go_simp
   try with_reducible rfl
  simp only[nz]
  refine zf (w':=w4.setCells w.heap.size 0 zc) (by rfl) (zn (cs:=zc.toArray) rfl rfl rfl (by simpa [hzl]using hT4) (by simpa using hiz) (zo hz1)) rfl ?_
  refine pl_t 3 (?_) (by rfl) ?_ rfl ?_
  rotate_left
  ·go_simp
   try with_reducible rfl
  simp only[nz]
  refine za ?_
  have hrs:=run_loadVar_mid (P:=prog) (w4.setCells w.heap.size 0 zc) w.heap.size 0 52 zc _ (World.rangeAt_setCells_same w4 w.heap.size 0 zc (by rw[hzl];exact hT4)) underlying52 rfl hiz
  have HF:Hid (∃g:Mg,Ending.returned (.tuple #[.agg zc.toArray,.int .i64 f])=.returned (.tuple #[.agg g.ms.cells.toArray,.int .i64 f])∧g.pure=Mp.none∧g.ok∧g.At (w4.setCells w.heap.size 0 zc)∧g.Bk (fun b=>w.heap.size≤b)∧Below w.heap.size w (w4.setCells w.heap.size 0 zc)):=hide ⟨Mg.none,by rw[hzc.out],rfl,Mg.none_ok,Mg.none_at _,⟨zh,zh,zai,zh,zh,zh⟩,B9 zc⟩
  clear HM A9 B9 r4 hT4 hB4 hqq hzc
  go_wp2_with fail
  refine bodyPost_ret (zbm rfl _ _ _ rfl hrs) rfl ?_
  first|exact HF.out|(rw[if_neg hf];exact HF.out)|(simp only[if_neg hf];exact HF.out)
def infoCl0:List Value:=[Value.int .i64 0,.string ⟨#[]⟩]++v8 (List.replicate 16 0)
theorem infoCl:(prog.info? 69).map (fun i=>(i.zero,i.size,i.bytes))=some (some (.agg infoCl0.toArray),18,40):=by kernel_rfl
theorem infoXc:(prog.info? 70).map (fun i=>(i.zero,i.size,i.bytes))=some (some (.agg infoCl0.toArray),18,40):=by kernel_rfl
theorem iszCls:(prog.info? 64).map (·.size)=some 1:=by kernel_rfl
theorem zeroClE (w:World):(zeroValue 69).run prog w=.ok (.agg ([Value.int .i64 0]++([Value.string ⟨#[]⟩]++v8 (List.replicate 16 0))).toArray) w:=by kernel_rfl
theorem zeroXcE (w:World):(zeroValue 70).run prog w=.ok (.agg ([Value.int .i64 0]++([Value.string ⟨#[]⟩]++v8 (List.replicate 16 0))).toArray) w:=by kernel_rfl
theorem zkC (n:Int) (b:ByteArray) (t:List Value) (ht:t.length=16) (w:World):(Instr.build 69 #[(0,.int .i64 n),(1,.string b),(2,.agg t.toArray)]).run prog w=.ok (.agg (.int .i64 n::.string b::t).toArray) w:=
 zbw (zs:=[Value.int .i64 0]++([Value.string ⟨#[]⟩]++v8 (List.replicate 16 0))) (pl:=#[(0,1),(1,1),(2,16)]) (zeroClE w) (by kernel_rfl) (by kernel_rfl) _ _ (zdx (c1:=[.int .i64 n]) (c2:=[.string b]) rfl rfl rfl rfl rfl rfl rfl rfl ht rfl rfl rfl)
theorem zdI (n:Int) (b:ByteArray) (t:List Value) (ht:t.length=16) (w:World):(Instr.build 70 #[(0,.int .i64 n),(1,.string b),(2,.agg t.toArray)]).run prog w=.ok (.agg (.int .i64 n::.string b::t).toArray) w:=
 zbw (zs:=[Value.int .i64 0]++([Value.string ⟨#[]⟩]++v8 (List.replicate 16 0))) (pl:=#[(0,1),(1,1),(2,16)]) (zeroXcE w) (by kernel_rfl) (by kernel_rfl) _ _ (zdx (c1:=[.int .i64 n]) (c2:=[.string b]) rfl rfl rfl rfl rfl rfl rfl rfl ht rfl rfl rfl)
theorem zj2 {P:Program} {o:Oper} {a:Act} {w:World} {s x:Operand} {t e:TypeId} {i:TypeInfo} {z:Value} {B cb k:Nat} {v:Value} {n:Nat} {xs u:List Value} (ho:o.op=.call {callee:=.builtin .append,args:=#[s,x],argTypes:=#[t,t]}) (hv:a.eval s=v) (hx:a.eval x=.slice (some ⟨cb,0,none⟩) 1 1)
    (ht:P.underlying t=some (.slice e)) (hi:P.info? e=some i) (hz:i.zero=some z) (hs:i.size=k) (hb:i.bytes≤1000) (hty:o.type=t)
    (hown:w.ownsRow B e k v n xs) (hB:B≤w.heap.size) (hr:w.rangeAt cb 0 u) (hu:u.length=k) (h1:∀y∈u,y.oneCell'=true) (hn:n≤1000000000) (hzk:z.cells.size=k):
    ∃v' w',(execOp a.eval o).run P w=.ok (.value v') w'∧(w'.ownsRow B e k v' (n+1) (xs++u)∧w.grownBy w' v.ownBlock∧∀g,v'.ownBlock=some g→v.ownBlock=some g∨w.heap.size≤g):=by
  have hsrc:Src P k t (.slice (some ⟨cb,0,none⟩) 1 1) 1 u w:=Src.ofSlice _ ht ⟨cb,0,none⟩ 1 1 _ (by simpa using hu) (fun j y hy=>by have:=hr j y hy;rw[Addr.add_mid];exact this) h1
  obtain⟨v',w',hrun,ho2,hg,hap⟩:=zbM (P:=P) w B t t o.type e i _ k i.bytes ht hi hz hs rfl (by rw[hzk]) v n xs hown _ 1 u hsrc (by unfold maxLen;omega) (Nat.le_trans (Nat.mul_le_mul (show n+1≤1000000001 by omega) hb) (by decide)) hB
  exact⟨v',w',zbu ho hv hx hrun,ho2,hg,fun g hg'=>(hap g hg').imp id (fun e=>by omega)⟩
theorem zdm {w w':World} {B k n:Nat} {t:TypeId} {v:Value} {xs:List Value} (h:w.ownsRow B t k v n xs) (hb:∀g,v.ownBlock=some g→w'.heap[g]? =w.heap[g]?):w'.ownsRow B t k v n xs:=by
 refine⟨h.1,?_⟩
 rcases h.2 with hn|⟨g,cap,cur,rfl,hb1,hgg,rest⟩
 ·exact .inl hn
 ·refine .inr ⟨g,cap,cur,rfl,hb1,?_,rest⟩
  rw[hb g rfl]
  exact hgg
theorem ziC {w:World} {B k n:Nat} {t:TypeId} {v:Value} {xs:List Value} (h:w.ownsRow B t k v n xs):v.cells=#[v]∧v.oneCell'=true:=by
 rcases h.2 with⟨rfl,_⟩|⟨g,cap,cur,rfl,_⟩<;>exact⟨rfl,rfl⟩
structure OutC (w:World) (O:Nat) (v:Value) (cs:List Ev):Prop where
 lt:O<w.heap.size
 c0:w.cell? ⟨O,0,none⟩=some v
 th:w.there O 0 1
 own:w.ownsRow (O+1) 69 18 v cs.length (cs.flatMap Ev.cells)
 ok:∀c∈cs,c.ok
theorem OutC.on {w w':World} {O:Nat} {v:Value} {cs:List Ev} (h:OutC w O v cs) (hs:w.heap.size≤w'.heap.size) (hO:w'.heap[O]? =w.heap[O]?) (hv:∀g,v.ownBlock=some g→w'.heap[g]? =w.heap[g]?):OutC w' O v cs:=
 ⟨Nat.lt_of_lt_of_le h.lt hs,(zO hO).1.trans h.c0,zY h.th hO,zdm h.own hv,h.ok⟩
theorem OutC.below {w w':World} {O:Nat} {v:Value} {cs:List Ev} (h:OutC w O v cs) (hb:Below w.heap.size w w'):OutC w' O v cs:=
 h.on hb.size (hb.block O h.lt) (fun g hg=>hb.block g (h.own.lt g hg).2)
structure Grow (w w':World) (O:Nat) (v v':Value):Prop where
 os:w'.os=w.os
 tape:w'.tape=w.tape
 output:w'.output=w.output
 size:w.heap.size≤w'.heap.size
 block:∀i,i<w.heap.size→i≠O→v.ownBlock≠some i→w'.heap[i]? =w.heap[i]?
 own:∀g,v'.ownBlock=some g→v.ownBlock=some g∨w.heap.size≤g
theorem Grow.refl (w:World) (O:Nat) (v:Value):Grow w w O v v:=⟨rfl,rfl,rfl,Nat.le_refl _,fun _ _ _ _=>rfl,fun _ h=>.inl h⟩
theorem Grow.of {w w':World} (hb:Below w.heap.size w w') (O:Nat) (v:Value):Grow w w' O v v:=⟨hb.os,hb.tape,hb.output,hb.size,fun i hi _ _=>hb.block i hi,fun _ h=>.inl h⟩
theorem Grow.trans {a b c:World} {O:Nat} {v v' v'':Value} (h:Grow a b O v v') (k:Grow b c O v' v''):Grow a c O v v'' where
 os:=k.os.trans h.os
 tape:=k.tape.trans h.tape
 output:=k.output.trans h.output
 size:=Nat.le_trans h.size k.size
 block:=fun i hi h1 h2=>(k.block i (Nat.lt_of_lt_of_le hi h.size) h1 (fun e=>by
  rcases h.own i e with e|e
  ·exact h2 e
  ·omega)).trans (h.block i hi h1 h2)
 own:=fun g hg=>by
  rcases k.own g hg with e|e
  ·exact h.own g e
  ·exact .inr (Nat.le_trans h.size e)
def Clr (O:Nat) (v:Value) (b:Nat):Prop:=b≠O∧v.ownBlock≠some b
theorem Grow.keep {w w':World} {O:Nat} {v v':Value} (h:Grow w w' O v v') {b:Nat} (hb:b<w.heap.size) (hc:Clr O v b):w'.heap[b]? =w.heap[b]? ∧Clr O v' b:=by
 refine⟨h.block b hb hc.1 hc.2,hc.1,fun e=>?_⟩
 rcases h.own b e with e|e
 ·exact hc.2 e
 ·omega
theorem Sl.At.grow {α:Type} {E:El α} {w w':World} {O:Nat} {v v':Value} {x:Sl α} (h:x.At E w) (k:Grow w w' O v v') (hb:x.Bk (Clr O v)):x.At E w':=
 h.on k.size hb (fun b hP hlt=>k.block b hlt hP.1 hP.2)
theorem Sl.Bk.grow {α:Type} {E:El α} {w w':World} {O:Nat} {v v':Value} {x:Sl α} (h:x.At E w) (k:Grow w w' O v v') (hb:x.Bk (Clr O v)):x.Bk (Clr O v'):=fun b h1 h2=>by
 rcases h.2.2 with q|⟨c,off,e,hlt,_⟩
 ·exact absurd q h1
 ·have hc:=hb b h1 h2
  rw[e]at h2
  cases h2
  exact(k.keep hlt hc).2
theorem zcF (O:Nat) (v:Value) (cs:List Ev) (e:Ev) (w:World) (h:OutC w O v cs) (he:e.ok) (hn:cs.length≤1000000000):
  Calls prog 52 #[.int .i64 e.n,.string e.s,.agg (v8 e.t).toArray,.pointer (some ⟨O,0,none⟩)] w fun en w'=>en=.returned (.tuple #[])∧∃v',OutC w' O v' (cs++[e])∧Grow w w' O v v':=by
 obtain⟨i1,hi1,hiz,his,hib⟩:=zT infoCl
 have hzk:(Value.agg (infoCl0).toArray).cells.size=18:=by decide
 have it16:(prog.info? 23).map (·.size)=some (v8 e.t).length:=by rw[v8_length,he.tl];exact iszT
 have hbc:=fun w0=>zkC e.n e.s (v8 e.t) (by rw[v8_length,he.tl]) w0
 obtain⟨B1,r1,s1⟩:=zu w (v8 e.t) 23
 have h1:=h.below B1
 have hul:e.cells.length=18:=EvE.len e he
 have hone:∀y∈e.cells,y.oneCell'=true:=EvE.one e
 have hflat:(cs++[e]).flatMap Ev.cells=cs.flatMap Ev.cells++e.cells:=by simp
 have hok:∀c∈cs++[e],c.ok:=fun c hc=>by
  rcases List.mem_append.1 hc with hc|hc
  ·exact h.ok c hc
  ·rw[List.mem_singleton.1 hc];exact he
 have hlen:(cs++[e]).length=cs.length+1:=by simp
 obtain⟨u,hu⟩:∃u,Hid (e.cells=u):=⟨_,hide rfl⟩
 have hbc:∀w0,(Instr.build 69 #[(0,.int .i64 e.n),(1,.string e.s),(2,.agg (v8 e.t).toArray)]).run prog w0=.ok (.agg u.toArray) w0:=fun w0=>by rw[←hu.out];exact hbc w0
 rw[hu.out]at hul hone hflat
 obtain⟨tg,htg⟩:∃t,v8 e.t=t:=⟨_,rfl⟩
 rw[htg]at it16 B1 r1 s1 h1
 simp only[htg]at hbc ⊢
 clear htg
 obtain⟨id,hid⟩:∃x,e.n=x:=⟨_,rfl⟩
 obtain⟨bd,hbd⟩:∃x,e.s=x:=⟨_,rfl⟩
 simp only[hid,hbd]at hbc ⊢
 clear hid hbd
 go_enter func52,ntmps52
 go_upto_region 1 with fail
 obtain⟨W,hW⟩:∃W,w.alloc (.cells tg.toArray 23)=W:=⟨_,rfl⟩
 rw[hW]at B1 r1 s1 h1 ⊢
 clear hW
 have B2:Below W.heap.size W (W.alloc (.cells u.toArray 69)):=(Below.refl _ _).alloc (Nat.le_refl _) _
 have r2:(W.alloc (.cells u.toArray 69)).rangeAt W.heap.size 0 u:=by simpa using zy W u.toArray 69
 have h2:=h1.below B2
 try simp only[Act.put]
 refine zb ?_
 refine pl_t 7 (v) (by rfl) (zg rfl rfl h1.c0 underlying64 rfl) rfl ?_
 simp only[nz]
 refine pl_t 8 (?_) (by rfl) ?_ rfl ?_
 rotate_left
 ·go_simp
  try with_reducible rfl
 simp only[nz]
 refine pl_t 9 (?_) (by rfl) ?_ rfl ?_
 rotate_left
 ·go_simp
  try with_reducible rfl
 simp only[nz]
 refine pl_t 10 (.agg tg.toArray) (by rfl) (zp rfl rfl r1 underlying23 rfl it16) rfl ?_
 simp only[nz]
 refine pl_t 11 (.agg u.toArray) (by rfl) (zR (parts:=[(0,.tmp 8),(1,.tmp 9),(2,.tmp 10)]) (vs:=[(0,.int .i64 id),(1,.string bd),(2,.agg tg.toArray)]) rfl (by first|with_reducible rfl|rfl|simp[Act.eval]) (hbc _)) rfl ?_
 simp only[nz]
 refine zj (d:=some 12) (v:=.slice (some ⟨W.heap.size,0,none⟩) 1 1) (w':=W.alloc (.cells u.toArray 69)) (by rfl) (zaB rfl rfl (zaQ 64 69 i1 _ u underlying64 hi1 hiz (by rw[his,hul]) (by omega) (by omega) _)) rfl ?_
 simp only[nz]
 obtain⟨W2,hW2⟩:∃X,W.alloc (.cells u.toArray 69)=X:=⟨_,rfl⟩
 rw[hW2]at B2 r2 h2 ⊢
 clear hW2
 refine za2 (d:=some 13) (by rfl) rfl (zj2 rfl rfl rfl underlying64 hi1 hiz his (by rw[hib];decide) rfl h2.own (by have:=h2.lt;omega) r2 hul hone hn hzk) ?_
 rintro v6 w6 ⟨o6,g6,gb6⟩
 simp only[nz]
 have hv6:=ziC o6
 have hX:w6.heap[O]? =W2.heap[O]? :=g6.block O h2.lt (fun q=>by have:=(h2.own.lt O q.symm).1;omega)
 have th6:=zY h2.th hX
 refine zf (w':=w6.setCells O 0 [v6]) (by rfl) (zC (n:=1) rfl rfl rfl th6 (by decide) iszCls hv6.1 hv6.2) rfl ?_
 refine za ?_
 have hoth:∀i,i≠O→(w6.setCells O 0 [v6]).heap[i]? =w6.heap[i]? :=fun i hi=>zaS hi
 have r7:(w6.setCells O 0 [v6]).rangeAt O 0 [v6]:=World.rangeAt_setCells_same w6 O 0 [v6] th6
 have HO:Hid (OutC (w6.setCells O 0 [v6]) O v6 (cs++[e])):=hide ⟨by rw[zH];exact Nat.lt_of_lt_of_le h2.lt g6.size,by simpa using r7 0 _ rfl,World.there_setCells th6 _ _ _,by
  rw[hlen,hflat]
  exact zdm o6 (fun g hg=>hoth g (fun q=>by have:=(o6.lt g hg).1;omega)),hok⟩
 have HG:Hid (Grow w (w6.setCells O 0 [v6]) O v v6):=hide ⟨(zM w6 O [v6] 0).os.trans (g6.os.trans (B2.os.trans B1.os)),(zM w6 O [v6] 0).tape.trans (g6.tape.trans (B2.tape.trans B1.tape)),(zM w6 O [v6] 0).output.trans (g6.output.trans (B2.output.trans B1.output)),by rw[zH];exact Nat.le_trans B1.size (Nat.le_trans B2.size g6.size),fun i hi h3 h4=>by
  rw[hoth i h3,g6.block i (Nat.lt_of_lt_of_le hi (Nat.le_trans B1.size B2.size)) (fun q=>h4 q.symm),B2.block i (Nat.lt_of_lt_of_le hi B1.size),B1.block i hi],fun g hg=>(gb6 g hg).imp (fun q=>q) (fun q=>Nat.le_trans (Nat.le_trans B1.size B2.size) q)⟩
 clear r7 hoth th6 hX hv6 gb6 g6 o6 r2 h2 B2 h1 r1 B1 h hbc
 go_wp2_with fail
 go_end0
 exact⟨rfl,v6,HO.out,HG.out⟩
end Go.Proofs.YtcbpbkefggekmaaGreatDoor
namespace Go.Proofs.YtcbpbkefggekmaaGreatDoor.Qs
open Go.RowKit
open Sha
end Go.Proofs.YtcbpbkefggekmaaGreatDoor.Qs
namespace Go.Proofs.YtcbpbkefggekmaaGreatDoor.Sha
open Go.Proofs.YtcbpbkefggekmaaGreatDoor.Qs
open Go.RowKit
open Sha
def macKey (zs:List Int):List Int:=if 64<zs.length then sha zs else zs
def macBlock (zs:List Int):List Int:=macKey zs++List.replicate (64 - (macKey zs).length) 0
end Go.Proofs.YtcbpbkefggekmaaGreatDoor.Sha
namespace Go.Proofs.YtcbpbkefggekmaaGreatDoor.Qs
open Go.RowKit
open Sha
theorem isz52:(prog.info? 169).map (·.size)=some 64:=by kernel_rfl
theorem zjj (zs:List Int):(macKey zs).length≤64:=by
 unfold macKey
 split
 ·rw[zbj];omega
 ·omega
theorem zdp (zs:List Int):(macBlock zs).length=64:=by
 have:=zjj zs
 simp[macBlock];omega
theorem new64 (w:World):(w.alloc (.cells (Array.replicate 64 (.int .u8 0)) 169)).rangeAt w.heap.size 0 (v8 (List.replicate 64 (0:Int)))∧(w.alloc (.cells (Array.replicate 64 (.int .u8 0)) 169)).there w.heap.size 0 64:=zaM w 64 169
theorem zfX (w:World) (B:Nat) (a:Option Addr) (cap:Nat) (ks:List Int) (hl:ks.length≤64) (h:RowAt w a ks) (hT:w.there B 0 64) (hz:w.rangeAt B 0 (v8 (List.replicate 64 (0:Int)))):
  ∃w',(Builtin.copy_ #[59,59] 3 #[.slice (some ⟨B,0,none⟩) 64 64,.slice a ks.length cap]).run prog w=.ok (goInt ks.length) w'∧w'.rangeAt B 0 (v8 (ks++List.replicate (64 - ks.length) (0:Int)))∧w'=w.setCells B 0 (v8 ks):=by
 rcases h.2.2 with rfl|⟨b,off,rfl,hb,hr⟩
 ·exact⟨w,run_copy_none (P:=prog) w 59 59 3 5 _ a 64 64 0 cap underlying59 isz8 rfl,by simpa using hz,rfl⟩
 ·refine⟨w.setCells B 0 (v8 ks),?_,?_,rfl⟩
  ·have:=run_copy_cells (P:=prog) w 59 59 3 5 B 0 64 64 ⟨b,off,none⟩ ks.length cap (v8 ks) underlying59 isz8 (by rw[v8_length];exact(Nat.min_eq_left hl).symm) (fun j v hv=>by rw[Addr.add_mid];exact hr j v hv) (fun j hj=>by rw[v8_length]at hj;exact(hT j (by omega)).1) (fun j hj=>by rw[v8_length]at hj;exact(hT j (by omega)).2) (zI _)
   rw[v8_length]at this
   exact this
  ·have e0:List.replicate 64 (0:Int)=[]++List.replicate ks.length (0:Int)++List.replicate (64 - ks.length) (0:Int):=by
    rw[List.nil_append,List.replicate_append_replicate];congr 1;omega
   rw[e0,zav,zav]at hz
   have:=zeR (vs:=v8 ks) hz (by simp) (by
    rw[v8_length]
    have:=zan hT 0 ks.length (by omega)
    simpa [v8]using this)
   rw[←zav,←zav]at this
   simpa [v8]using this
theorem zkG (a:Option Addr) (cap:Nat) (zs:List Int) (w:World) (hG:Glob w) (h:RowAt w a zs) (hc:zs.length≤cap) (hm:cap≤maxLen) (hl:zs.length≤1000000):
   Calls prog 105 #[.slice a zs.length cap] w fun e w'=>e=.returned (.agg (v8 (macBlock zs)).toArray)∧Below w.heap.size w w':=by
  go_enter func105,ntmps105
  go_upto_region 2 with fail
  go_name_world w1 hw1
  obtain⟨hB1,hZ,hT,hT0,hz1⟩:Below w.heap.size w w1∧w1.rangeAt (w.heap.size+1) 0 (v8 (List.replicate 64 (0:Int)))∧w1.there (w.heap.size+1) 0 64∧w1.there w.heap.size 0 64∧w1.heap.size=w.heap.size+2:=by
    have q:=new64 (w.alloc (.cells (Array.replicate 64 (.int .u8 0)) 169))
    have q2:=World.there_alloc (new64 w).2 (.cells (Array.replicate 64 (.int .u8 0)) 169)
    have es:(w.alloc (.cells (Array.replicate 64 (.int .u8 0)) 169)).heap.size=w.heap.size+1:=by simp
    have hB:Below w.heap.size w ((w.alloc (.cells (Array.replicate 64 (.int .u8 0)) 169)).alloc (.cells (Array.replicate 64 (.int .u8 0)) 169)):=((Below.refl _ _).alloc (Nat.le_refl _) _).alloc (by simp) _
    have hs:((w.alloc (.cells (Array.replicate 64 (.int .u8 0)) 169)).alloc (.cells (Array.replicate 64 (.int .u8 0)) 169)).heap.size=w.heap.size+2:=by simp
    rw[es]at q
    rw[show(w.alloc (.cells (Array.replicate 64 (.int .u8 0)) 169)).alloc (.cells (Array.replicate 64 (.int .u8 0)) 169)=w1 from hw1]at q q2 hB hs
    exact⟨hB,q.1,q.2,q2,hs⟩
  clear hw1
  have HZ1:Hid (w1.heap.size=w.heap.size+2):=hz1
  clear hz1
  have fin:∀(w3:World) (ks:List Int),ks=macKey zs→w3.rangeAt (w.heap.size+1) 0 (v8 (ks++List.replicate (64 - ks.length) (0:Int)))→w3.rangeAt (w.heap.size+1) 0 (v8 (macBlock zs)):=fun w3 ks e hr=>by rw[e]at hr;exact hr
  by_cases hlt:64<zs.length
  · have hltI:(64:Int)<zs.length:=by omega
    have ek:macKey zs=sha zs:=by unfold macKey;rw[if_pos hlt]
    have hat:(⟨a,cap,zs⟩:Part).at w1:=Part.at.below (w:=w) ⟨h,hc,hm⟩ hB1
    have hP:=zcq w1 #[.slice a zs.length cap] ⟨a,cap,zs⟩ hat rfl
    have hBp:Below w.heap.size w (w1.alloc (.cells #[.slice a zs.length cap] 59)):=hB1.alloc hB1.size _
    have hcz:cat [(⟨a,cap,zs⟩:Part)]=zs:=by simp[cat]
    have c1:=zc4 _ 1 _ _ (hG.below hBp) hP (by rw[hcz];omega)
    rw[hcz]at c1
    simp only[List.length_cons,List.length_nil,Nat.zero_add]at c1
    have hBq:Below w1.heap.size w1 (w1.alloc (.cells #[.slice a zs.length cap] 59)):=(Below.refl _ _).alloc (Nat.le_refl _) _
    obtain⟨d,hd⟩:∃d,Hid (sha zs=d):=⟨_,rfl⟩
    have hdl:d.length=32:=by rw[←hd.out];exact zbj zs
    have hdo:∀z∈d,0≤z∧z<256:=by rw[←hd.out];exact zcg zs
    rw[hd.out]at c1 ek
    clear hP hat hcz
    go_wp2_with fail
    refine c1.mono ?_
    rintro e w2 ⟨rfl,hw2⟩
    have hw2':Below w1.heap.size w1 w2:=hBq.trans (hw2.mono hBq.size)
    clear c1 hw2 hBq hBp
    have hd1:(v8 d).length=32:=by rw[v8_length,hdl]
    have F:=zA w2 (Array.replicate 32 (.int .u8 0)) 41 (v8 d) (by rw[hd1];rfl)
    have hi24:(prog.info? 41).map (·.size)=some (v8 d).toArray.size:=by rw[List.size_toArray,hd1];exact isz24
    have hN24:(w2.alloc (.cells (Array.replicate 32 (.int .u8 0)) 41)).there w2.heap.size 0 (v8 d).toArray.size:=by
      have e:(v8 d).toArray.size=32:=by rw[List.size_toArray,hd1]
      rw[e];exact(zaM w2 32 41).2
    have h1d:=all_oneCell_toArray (zI d)
    go_upto_region 4 with(refine wpList_store_mid (op:=⟨none,.store 41 (.tmp 4) (.tmp 10),_,_,_,none⟩) rfl 41 _ _ rfl _ _ (v8 d).toArray rfl rfl hN24 hi24 h1d ?_)
    go_name_world w4 hw4
    rw[show(w2.alloc (.cells (Array.replicate 32 (.int .u8 0)) 41)).setCells w2.heap.size 0 (v8 d)=w4 from hw4]at F
    obtain⟨hRd,hBd,hzd,_⟩:=F
    have hw4':Below w1.heap.size w1 w4:=hw2'.trans (hBd.mono hw2'.size)
    have hB4:Below w.heap.size w w4:=hB1.trans (hw4'.mono hB1.size)
    have hZ4:=zd hZ hw4' (by have:=HZ1.out;omega)
    have hT4:=zq hT hw4' (by have:=HZ1.out;omega)
    have hT04:=zq hT0 hw4' (by have:=HZ1.out;omega)
    have hrow:RowAt w4 (some ⟨w2.heap.size,0,none⟩) d:=⟨by rw[hdl];unfold maxLen;omega,hdo,Or.inr ⟨_,_,rfl,by omega,hRd⟩⟩
    obtain⟨w3,hcp,hr3,hw3⟩:=zfX w4 (w.heap.size+1) (some ⟨w2.heap.size,0,none⟩) 32 d (by omega) hrow hT4 hZ4
    have hsl:=zbi (w:=w4) underlying169 isz8 (w.heap.size+1) 0 (by omega)
    have hsl2:=zbi (w:=w4) underlying41 isz8 w2.heap.size 0 (by omega)
    have hR3:=fin w3 d ek.symm hr3
    have hB3:Below w.heap.size w w3:=by rw[hw3];exact zi (Nat.le_succ _) _ _ _ hB4
    have hT3:w3.there w.heap.size 0 64:=by rw[hw3];exact World.there_setCells hT04 _ _ _
    have hml:=zdp zs
    rw[hdl]at hcp
    clear fin hr3 ek hw4 hN24 hi24 h1d hd1 hZ hT hT0 hB1
    simp only[Act.put]
    go_upto_region 6 with fail
    rw[←hw3]
    obtain⟨cs,hcs⟩:∃cs,Hid (v8 (macBlock zs)=cs):=⟨_,rfl⟩
    have hcl:cs.length=64:=by rw[←hcs.out,v8_length,hml]
    have h1c:∀v∈cs,v.oneCell'=true:=by rw[←hcs.out];exact zI _
    rw[hcs.out]at hR3
    have hi:(prog.info? 169).map (·.size)=some cs.length:=by rw[hcl];exact isz52
    clear hw3
    refine wp_region_list ?_
    refine wpList_load_mid rfl 169 _ rfl _ _ rfl cs _ hR3 underlying169 rfl hi ?_
    refine wpList_store_mid rfl 169 _ _ rfl _ _ cs.toArray rfl rfl (by simpa [hcl]using hT3) (by simpa using hi) (all_oneCell_toArray h1c) ?_
    have hRr:=World.rangeAt_setCells_same w3 w.heap.size 0 cs (by rw[hcl];exact hT3)
    have hBl:=zi (Nat.le_refl w.heap.size) cs 0 w3 hB3
    generalize w3.setCells w.heap.size 0 cs=wx at *
    have hrs:=run_loadVar_mid (P:=prog) wx w.heap.size 0 169 cs _ hRr underlying169 rfl hi
    clear hi
    go_wp2_with fail
    refine bodyPost_ret (v:=.agg cs.toArray) (by simp[results,results105,Act.put,asAddr,hrs]) rfl ⟨by rw[hcs.out],hBl⟩
  · have hltI:¬(64:Int)<zs.length:=by omega
    have ek:macKey zs=zs:=by unfold macKey;rw[if_neg hlt]
    obtain⟨w3,hcp,hr3,hw3⟩:=zfX w1 (w.heap.size+1) a cap zs (by omega) (h.below hB1) hT hZ
    have hsl:=zbi (w:=w1) underlying169 isz8 (w.heap.size+1) 0 (by omega)
    have hR3:=fin w3 zs ek.symm hr3
    have hB3:Below w.heap.size w w3:=by rw[hw3];exact zi (Nat.le_succ _) _ _ _ hB1
    have hT3:w3.there w.heap.size 0 64:=by rw[hw3];exact World.there_setCells hT0 _ _ _
    have hml:=zdp zs
    clear fin hr3 ek
    go_upto_region 6 with fail
    rw[←hw3]
    obtain⟨cs,hcs⟩:∃cs,Hid (v8 (macBlock zs)=cs):=⟨_,rfl⟩
    have hcl:cs.length=64:=by rw[←hcs.out,v8_length,hml]
    have h1c:∀v∈cs,v.oneCell'=true:=by rw[←hcs.out];exact zI _
    rw[hcs.out]at hR3
    have hi:(prog.info? 169).map (·.size)=some cs.length:=by rw[hcl];exact isz52
    clear hw3
    refine wp_region_list ?_
    refine wpList_load_mid rfl 169 _ rfl _ _ rfl cs _ hR3 underlying169 rfl hi ?_
    refine wpList_store_mid rfl 169 _ _ rfl _ _ cs.toArray rfl rfl (by simpa [hcl]using hT3) (by simpa using hi) (all_oneCell_toArray h1c) ?_
    have hRr:=World.rangeAt_setCells_same w3 w.heap.size 0 cs (by rw[hcl];exact hT3)
    have hBl:=zi (Nat.le_refl w.heap.size) cs 0 w3 hB3
    generalize w3.setCells w.heap.size 0 cs=wx at *
    have hrs:=run_loadVar_mid (P:=prog) wx w.heap.size 0 169 cs _ hRr underlying169 rfl hi
    clear hi
    go_wp2_with fail
    refine bodyPost_ret (v:=.agg cs.toArray) (by simp[results,results105,asAddr,hrs]) rfl ⟨by rw[hcs.out],hBl⟩
def xorB (x z:Int):Int:=bits .xor .u8 z x
theorem zgy (x z:Int):0≤xorB x z∧xorB x z<256:=by
 unfold xorB
 show 0≤IntKind.u8.wrap _∧IntKind.u8.wrap _<256
 rw[IntKind.wrap_u8];omega
def xorL (x:Int) (zs:List Int):List Int:=zs.map (xorB x)
theorem zgx (x:Int) (zs:List Int):∀z∈xorL x zs,0≤z∧z<256:=fun z hz=>by
 obtain⟨u,_,rfl⟩:=List.mem_map.1 hz;exact zgy x u
theorem zb2 (x:Int) (zs:List Int):(xorL x zs).length=zs.length:=by simp[xorL]
theorem zit {w:World} {a:Option Addr} {ps:List Part} (h:PartsAt w a ps) (cap:Nat):Src prog 1 166 (.slice a ps.length cap) ps.length (ps.map Part.val) w:=by
 have one:∀u∈ps.map Part.val,u.oneCell'=true:=fun u hu=>by
  obtain⟨p,_,rfl⟩:=List.mem_map.1 hu;rfl
 cases a with
 |none=>
  have:ps=[]:=by
   rcases h.2.2 with q|⟨b,off,hx,_⟩
   ·exact q
   ·cases hx
  subst this
  exact Src.ofNil w underlying166 cap
 |some y=>
  refine Src.ofSlice w underlying166 y ps.length cap _ (by simp) (fun j u hu=>?_) one
  rcases h.2.2 with rfl|⟨b,off,hx,_,hr⟩
  ·simp at hu
  ·cases hx
   rw[Addr.add_mid]
   exact hr j u hu
theorem zfm (x:Int) (K:Nat) (kb:List Int) (a:Option Addr) (cap:Nat) (ps:List Part) (w:World) (hG:Glob w) (hkl:kb.length=64) (hK:w.rangeAt K 0 (v8 kb)) (hKs:K<w.heap.size) (h:PartsAt w a ps) (hn:(cat ps).length<1000000) (hpl:ps.length≤100000):
   Calls prog 106 #[.int .u8 x,.slice a ps.length cap,.pointer (some ⟨K,0,none⟩)] w fun e w'=>e=.returned (.agg (v8 (sha (xorL x kb++cat ps))).toArray)∧Below w.heap.size w w':=by
  have hBr:Below w.heap.size w (w.alloc (.cells (Array.replicate 32 (.int .u8 0)) 41)):=(Below.refl _ _).alloc (Nat.le_refl _) _
  have hT0:=(zaM w 32 41).2
  have hK1:=zd hK hBr hKs
  have hvl:(v8 kb).length=64:=by rw[v8_length,hkl]
  have hi:(prog.info? 169).map (·.size)=some (v8 kb).length:=by rw[hvl];exact isz52
  have hi':(prog.info? 169).map (·.size)=some (v8 kb).toArray.size:=by rw[List.size_toArray];exact hi
  have hN:=(new64 (w.alloc (.cells (Array.replicate 32 (.int .u8 0)) 41))).2
  have hN':((w.alloc (.cells (Array.replicate 32 (.int .u8 0)) 41)).alloc (.cells (Array.replicate 64 (.int .u8 0)) 169)).there (w.heap.size+1) 0 (v8 kb).toArray.size:=by
    have e:(v8 kb).toArray.size=64:=by rw[List.size_toArray,hvl]
    rw[e]
    have es:(w.alloc (.cells (Array.replicate 32 (.int .u8 0)) 41)).heap.size=w.heap.size+1:=by simp
    rw[es]at hN
    exact hN
  have h1c:=all_oneCell_toArray (zI kb)
  have F:=zA (w.alloc (.cells (Array.replicate 32 (.int .u8 0)) 41)) (Array.replicate 64 (.int .u8 0)) 169 (v8 kb) (by rw[hvl];rfl)
  have es:(w.alloc (.cells (Array.replicate 32 (.int .u8 0)) 41)).heap.size=w.heap.size+1:=by simp
  rw[es]at F
  clear hN
  go_enter func106,ntmps106
  go_upto_region 2 with(first|refine wpList_load_mid (op:=⟨some 9,.load 169 (.tmp 2),_,_,_,none⟩) rfl 169 _ rfl _ _ rfl (v8 kb) _ hK1 underlying169 rfl hi ?_|refine wpList_store_mid (op:=⟨none,.store 169 (.tmp 6) (.tmp 9),_,_,_,none⟩) rfl 169 _ _ rfl _ _ (v8 kb).toArray rfl rfl hN' hi' h1c ?_)
  go_name_world w1 hw1
  rw[show((w.alloc (.cells (Array.replicate 32 (.int .u8 0)) 41)).alloc (.cells (Array.replicate 64 (.int .u8 0)) 169)).setCells (w.heap.size+1) 0 (v8 kb)=w1 from hw1]at F
  obtain⟨hR1,hB1',hz1,hT1⟩:=F
  have hB1:Below w.heap.size w w1:=hBr.trans (hB1'.mono (by omega))
  have hT01:=zq hT0 hB1' (by omega)
  have hT1':w1.there (w.heap.size+1) 0 64:=by simpa using hT1
  clear hw1 hB1' hT1 hN' hi hi' h1c hvl hK1 hT0 hBr es hz1
  simp only[Act.put]
  go_wp2_with fail
  go_loopw [10] (fun i wr=>∃k:Nat,k≤64∧i=.int .i64 (k:Int)∧wr.rangeAt (w.heap.size+1) 0 (v8 (xorL x (kb.take k)++kb.drop k))∧wr.there (w.heap.size+1) 0 64∧wr.there w.heap.size 0 32∧Below w.heap.size w wr∧w.heap.size+1<wr.heap.size) (fun i _=>64 - (intOf i).toNat)
  case atStart => exact ⟨0, by omega, rfl, by simpa [xorL] using hR1, hT1', hT01, hB1, World.block_lt_of_cell? w1 _ (hR1 0 (.int .u8 (kb.getD 0 0)) (by
      have h0:0<kb.length:=by omega
      simp[v8,List.getElem?_eq_getElem h0]))⟩
  case round=>
    clear hR1 hT1' hT01 hB1
    obtain⟨k,hk,rfl,hR,hT,hT0,hB,hsz⟩:=hrel
    by_cases hlt:k<64
    · have hlk:k<kb.length:=by omega
      obtain⟨z,hz⟩:∃z,Hid (kb[k]=z):=⟨kb[k],(rfl:kb[k]=kb[k])⟩
      have hcell:wr.cell? ⟨w.heap.size+1,k,none⟩=some (.int .u8 z):=by
        have:=hR k (.int .u8 z) (by
          unfold v8
          rw[List.map_append,List.getElem?_append_right (by rw[List.length_map,zb2,List.length_take];omega),List.length_map,zb2,List.length_take_of_le (by omega),Nat.sub_self,List.getElem?_map,List.getElem?_drop,Nat.add_zero,List.getElem?_eq_getElem hlk,hz.out]
          rfl)
        rwa [Nat.zero_add]at this
      have hf:=(hT k (by omega)).2
      rw[Nat.zero_add]at hf
      have HE:Hid (bits .xor .u8 z x=xorB x z):=rfl
      go_wp2_with fail
      rw[HE.out]
      go_roundw
      case rel=>
        refine⟨k+1,by omega,by go_num,?_,zaf hT _ _,zaf hT0 _ _,hB.setCell (p:=⟨w.heap.size+1,k,none⟩) (by simp) _,by simpa using hsz⟩
        have:=zap hR k (.int .u8 (xorB x z))
        rw[Nat.zero_add,zb8]at this
        have e1:(xorL x (kb.take k)++kb.drop k).set k (xorB x z)=xorL x (kb.take (k+1))++kb.drop (k+1):=by
          have hl:(xorL x (kb.take k)).length=k:=by rw[zb2,List.length_take_of_le (by omega)]
          rw[List.set_append_right _ _ (by omega),hl,Nat.sub_self,List.drop_eq_getElem_cons hlk,hz.out,List.set_cons_zero,List.take_succ_eq_append_getElem hlk,hz.out]
          simp[xorL]
        rw[e1]at this
        exact this
      case measure=>simp[intOf];omega
    · have hk64:k=64:=by omega
      have hkI:¬(k:Int)<64:=by omega
      have hR64:wr.rangeAt (w.heap.size+1) 0 (v8 (xorL x kb)):=by
        rw[List.take_of_length_le (by omega),List.drop_eq_nil_of_le (by omega),List.append_nil]at hR
        exact hR
      clear hR hk64
      have hPw:=h.below hB
      obtain⟨i0,hi,hz0,hz1,hz2⟩:=zT infoP
      obtain⟨w3,hmk,hown3,hgr3⟩:=run_makeSlice_owned (P:=prog) wr (w.heap.size+2) 166 59 i0 (.slice none 0 0) 1 underlying166 hi hz0 hz1 .i64 .i64 (1+ps.length) (by omega) (by rw[hz2];omega) (by unfold maxLen;omega) (by omega)
      have hmk':(Instr.makeSlice 166 (.int .i64 0) (.int .i64 (1+(ps.length:Int)))).run prog wr=.ok (.slice (some ⟨wr.heap.size,0,none⟩) 0 (1+ps.length)) w3:=by
        have:=hmk
        rw[show((1+ps.length:Nat):Int)=1+(ps.length:Int) by omega]at this
        exact this
      have hw3:Below (w.heap.size+2) wr w3:=(Below.refl _ _).grown hgr3 (by omega) (fun _ h=>by cases h)
      have hs3:wr.heap.size≤w3.heap.size:=hw3.size
      clear hmk hgr3
      obtain⟨c0,hc0⟩:∃c0,Hid (1+ps.length=c0):=⟨_,rfl⟩
      have hown4:=ziv hown3 ((Below.refl w3.heap.size w3).alloc (Nat.le_refl _) (.cells #[.slice (some ⟨w.heap.size+1,0,none⟩) 64 64] 59))
      have hB4:Below (w.heap.size+2) wr (w3.alloc (.cells #[.slice (some ⟨w.heap.size+1,0,none⟩) 64 64] 59)):=hw3.alloc (by omega) _
      have hxl:(xorL x kb).length=64:=by rw[zb2,hkl]
      have hsrc:Src prog 1 166 (.slice (some ⟨w3.heap.size,0,none⟩) 1 1) 1 [.slice (some ⟨w.heap.size+1,0,none⟩) 64 64] (w3.alloc (.cells #[.slice (some ⟨w.heap.size+1,0,none⟩) 64 64] 59)):=by
        have:=ziN w3 ⟨some ⟨w.heap.size+1,0,none⟩,64,xorL x kb⟩
        unfold Part.val at this
        rw[hxl]at this
        exact this
      have hsl:=zbi (w:=w3) underlying169 isz8 (w.heap.size+1) 0 (by omega)
      go_wp2_with (at_builtin;refine zac _ rfl _ _ 166 166 rfl (w.heap.size+2) 59 i0 (.slice none 0 0) 1 24 underlying166 hi hz0 hz1 hz2 rfl _ 0 _ rfl hown4 _ 1 _ rfl hsrc ?c1 ?c2 ?c3 ?_)
      case c1=>unfold maxLen;omega
      case c3=>omega
      intro v5 w5 hown5 hgr5
      have hB5:=zau hB4 (by simp;omega) hown4 hgr5
      have hown5':w5.ownsRow (w.heap.size+2) 59 1 v5 1 [.slice (some ⟨w.heap.size+1,0,none⟩) 64 64]:=by simpa using hown5
      have hs5:wr.heap.size≤w5.heap.size:=hB5.size
      have hBw5:Below w.heap.size w w5:=hB.trans (hB5.mono (by omega))
      have hP5:=h.below hBw5
      have hsrc5:=zit hP5 cap
      clear hown4 hB4 hsrc hgr5 hown3 hmk' hsl hw3 hown5
      obtain⟨va,vc,rfl⟩:∃a c,v5=.slice a 1 c:=by
        rcases zaV hown5' with⟨_,h0,_⟩|⟨g,c,e,_⟩
        · omega
        · exact⟨_,c,e⟩
      go_wp2_with (at_builtin;refine zac _ rfl _ _ 166 166 rfl (w.heap.size+2) 59 i0 (.slice none 0 0) 1 24 underlying166 hi hz0 hz1 hz2 rfl _ 1 _ rfl hown5' _ ps.length _ rfl hsrc5 ?d1 ?d2 ?d3 ?_)
      case d1=>unfold maxLen;omega
      case d2=>omega
      case d3=>omega
      intro v6 w6 hown6 hgr6
      have hB6:=zau hB5 (by omega) hown5' hgr6
      have hBw6:Below w.heap.size w w6:=hB.trans (hB6.mono (by omega))
      have hs6:wr.heap.size≤w6.heap.size:=hB6.size
      have hR6:=zd hR64 hB6 (by omega)
      have hT6:=zq hT0 hB6 (by omega)
      have hat:(⟨some ⟨w.heap.size+1,0,none⟩,64,xorL x kb⟩:Part).at w6:=⟨⟨by rw[hxl];unfold maxLen;omega,zgx x kb,Or.inr ⟨_,_,rfl,by omega,hR6⟩⟩,by show(xorL x kb).length≤64;omega,by show 64≤maxLen;unfold maxLen;omega⟩
      have hown7:w6.ownsRow (w.heap.size+2) 59 1 v6 ((⟨some ⟨w.heap.size+1,0,none⟩,64,xorL x kb⟩:Part)::ps).length (((⟨some ⟨w.heap.size+1,0,none⟩,64,xorL x kb⟩:Part)::ps).map Part.val):=by
        have e:((⟨some ⟨w.heap.size+1,0,none⟩,64,xorL x kb⟩:Part)::ps).map Part.val=[.slice (some ⟨w.heap.size+1,0,none⟩) 64 64]++ps.map Part.val:=by
          simp only[List.map_cons,Part.val,hxl];rfl
        rw[e,List.length_cons,Nat.add_comm ps.length 1]
        exact hown6
      obtain⟨av,cv,rfl,hPA⟩:=ziA hown7 (fun p hp=>by
        rcases List.mem_cons.1 hp with rfl|hp
        · exact hat
        · exact(h.2.1 p hp).below hBw6) (by simp;unfold maxLen;omega)
      have hcat:cat ((⟨some ⟨w.heap.size+1,0,none⟩,64,xorL x kb⟩:Part)::ps)=xorL x kb++cat ps:=by simp[cat]
      have c1:=zc4 av cv _ w6 (hG.below hBw6) hPA (by rw[hcat,List.length_append,hxl];omega)
      rw[hcat]at c1
      have hlen:((⟨some ⟨w.heap.size+1,0,none⟩,64,xorL x kb⟩:Part)::ps).length=1+ps.length:=by simp;omega
      rw[hlen]at c1 ⊢
      obtain⟨d,hd⟩:∃d,Hid (v8 (sha (xorL x kb++cat ps))=d):=⟨_,rfl⟩
      have hdl:d.length=32:=by rw[←hd.out,v8_length,zbj]
      have h1d:∀v∈d,v.oneCell'=true:=by rw[←hd.out];exact zI _
      rw[hd.out]at c1
      clear hown6 hown7 hPA hcat hlen hgr6 hB6 hB5 hown5' hsrc5 hP5 hat hR6
      go_wp2_with fail
      refine c1.mono ?_
      rintro e w7 ⟨rfl,hw7⟩
      have hB7:=hBw6.trans (hw7.mono hBw6.size)
      have hT7:=zq hT6 hw7 (by omega)
      have hi24:(prog.info? 41).map (·.size)=some d.toArray.size:=by rw[List.size_toArray,hdl];exact isz24
      have hsz24:d.toArray.size=32:=by rw[List.size_toArray,hdl]
      have hT7':w7.there w.heap.size 0 d.toArray.size:=by rw[hsz24];exact hT7
      clear c1 hw7
      go_wp2_with (refine wpList_store_mid (op:=⟨none,.store 41 (.tmp 5) (.tmp 31),_,_,_,none⟩) rfl 41 _ _ rfl _ _ d.toArray rfl rfl hT7' hi24 (all_oneCell_toArray h1d) ?_)
      have hRr:=World.rangeAt_setCells_same w7 w.heap.size 0 d (by rw[hdl];exact hT7)
      have hBl:=zi (Nat.le_refl w.heap.size) d 0 w7 hB7
      have hrs:=run_loadVar_mid (P:=prog) (w7.setCells w.heap.size 0 d) w.heap.size 0 41 d _ hRr underlying41 rfl (by rw[hdl];exact isz24)
      refine bodyPost_ret (v:=.agg d.toArray) (by simp[results,results106,Act.put,asAddr,hrs]) rfl ⟨by rw[hd.out],hBl⟩
end Go.Proofs.YtcbpbkefggekmaaGreatDoor.Qs
namespace Go.Proofs.YtcbpbkefggekmaaGreatDoor.Sha
open Go.Proofs.YtcbpbkefggekmaaGreatDoor.Qs
open Go.RowKit
open Sha
def mac (key zs:List Int):List Int:=sha (xorL 92 (macBlock key)++sha (xorL 54 (macBlock key)++zs))
end Go.Proofs.YtcbpbkefggekmaaGreatDoor.Sha
namespace Go.Proofs.YtcbpbkefggekmaaGreatDoor.Qs
open Go.RowKit
open Sha
theorem zfl (key zs:List Int):(mac key zs).length=32:=zbj _
theorem zjh (key zs:List Int):∀z∈mac key zs,0≤z∧z<256:=zcg _
theorem there24 (w:World) (d:List Int) (hd:d.length=32):(w.alloc (.cells (Array.replicate 32 (.int .u8 0)) 41)).there w.heap.size 0 (v8 d).toArray.size:=by
 have e:(v8 d).toArray.size=32:=by rw[List.size_toArray,v8_length,hd]
 rw[e];exact(zaM w 32 41).2
theorem info24 (d:List Int) (hd:d.length=32):(prog.info? 41).map (·.size)=some (v8 d).toArray.size:=by rw[List.size_toArray,v8_length,hd];exact isz24
theorem zji (ka:Option Addr) (kc:Nat) (key:List Int) (a:Option Addr) (cap:Nat) (ps:List Part) (w:World) (hG:Glob w) (hk:RowAt w ka key) (hkc:key.length≤kc) (hkm:kc≤maxLen) (hkl:key.length≤1000000) (h:PartsAt w a ps) (hn:(cat ps).length<1000000) (hpl:ps.length≤100000):
   Calls prog 64 #[.slice ka key.length kc,.slice a ps.length cap] w fun e w'=>e=.returned (.agg (v8 (mac key (cat ps))).toArray)∧Below w.heap.size w w':=by
  have hB0:Below w.heap.size w (w.alloc (.cells (Array.replicate 32 (.int .u8 0)) 41)):=(Below.refl _ _).alloc (Nat.le_refl _) _
  have hT0:=(zaM w 32 41).2
  have cb:=zkG ka kc key _ (hG.below hB0) (hk.below hB0) hkc hkm hkl
  obtain⟨kb,hkb⟩:∃kb,Hid (macBlock key=kb):=⟨_,rfl⟩
  have hbl:kb.length=64:=by rw[←hkb.out];exact zdp key
  have HM:Hid (mac key (cat ps)=sha (xorL 92 kb++sha (xorL 54 kb++cat ps))):=by rw[←hkb.out];rfl
  rw[hkb.out]at cb
  clear hkb
  have hsb:(v8 kb).length=64:=by rw[v8_length,hbl]
  go_enter func64,ntmps64
  go_wp2_with fail
  refine cb.mono ?_
  rintro e w1 ⟨rfl,hw1⟩
  clear cb
  have hB1:=hB0.trans (hw1.mono hB0.size)
  have hs1:=hw1.size
  simp only[World.size_alloc]at hs1
  have hT1:=zq hT0 hw1 (by simp)
  have F:=zA w1 (Array.replicate 64 (.int .u8 0)) 169 (v8 kb) (by rw[hsb];rfl)
  have hN:(w1.alloc (.cells (Array.replicate 64 (.int .u8 0)) 169)).there w1.heap.size 0 (v8 kb).toArray.size:=by
    have e:(v8 kb).toArray.size=64:=by rw[List.size_toArray,hsb]
    rw[e];exact(new64 w1).2
  have hi:(prog.info? 169).map (·.size)=some (v8 kb).toArray.size:=by rw[List.size_toArray,hsb];exact isz52
  have h1c:=all_oneCell_toArray (zI kb)
  go_upto_region 3 with(refine wpList_store_mid (op:=⟨none,.store 169 (.tmp 5) (.tmp 9),_,_,_,none⟩) rfl 169 _ _ rfl _ _ (v8 kb).toArray rfl rfl hN hi h1c ?_)
  go_name_world w2 hw2
  rw[show(w1.alloc (.cells (Array.replicate 64 (.int .u8 0)) 169)).setCells w1.heap.size 0 (v8 kb)=w2 from hw2]at F
  obtain⟨hR2,hB2',hz2',_⟩:=F
  have hz2:w1.heap.size<w2.heap.size:=by omega
  clear hz2'
  clear hw2 hN hi h1c hw1 hT0 hB0
  have hB2:=hB1.trans (hB2'.mono hB1.size)
  have hT2:=zq hT1 hB2' (by omega)
  have c1:=zfm 54 w1.heap.size kb a cap ps w2 (hG.below hB2) hbl hR2 (by omega) (h.below hB2) hn hpl
  obtain⟨d,hd⟩:∃d,Hid (sha (xorL 54 kb++cat ps)=d):=⟨_,rfl⟩
  have hdl:d.length=32:=by rw[←hd.out];exact zbj _
  have hdo:∀z∈d,0≤z∧z<256:=by rw[←hd.out];exact zcg _
  rw[hd.out]at c1 HM
  clear hd hB1 hT1
  try simp only[Act.put]
  go_wp2_with fail
  refine c1.mono ?_
  rintro e w3 ⟨rfl,hw3⟩
  clear c1
  have hB3:=hB2.trans (hw3.mono hB2.size)
  have hT3:=zq hT2 hw3 (by omega)
  have hR3:=zd hR2 hw3 (by omega)
  have hs3:=hw3.size
  have F:=zA w3 (Array.replicate 32 (.int .u8 0)) 41 (v8 d) (by rw[v8_length,hdl];rfl)
  have hN:=there24 w3 d hdl
  have hi:=info24 d hdl
  have h1c:=all_oneCell_toArray (zI d)
  go_upto_region 4 with(refine wpList_store_mid (op:=⟨none,.store 41 (.tmp 7) (.tmp 13),_,_,_,none⟩) rfl 41 _ _ rfl _ _ (v8 d).toArray rfl rfl hN hi h1c ?_)
  go_name_world w4 hw4
  rw[show(w3.alloc (.cells (Array.replicate 32 (.int .u8 0)) 41)).setCells w3.heap.size 0 (v8 d)=w4 from hw4]at F
  obtain⟨hR4,hB4',hz4',_⟩:=F
  have hz4:w3.heap.size<w4.heap.size:=by omega
  clear hz4'
  clear hw4 hN hi h1c hw3 hR2 hT2
  have hB4:=hB3.trans (hB4'.mono hB3.size)
  have hT4:=zq hT3 hB4' (by omega)
  have hR4k:=zd hR3 hB4' (by omega)
  have hsl:=zbi (w:=w4) underlying41 isz8 w3.heap.size 0 (by omega)
  have hat:(⟨some ⟨w3.heap.size,0,none⟩,32,d⟩:Part).at w4:=⟨⟨by rw[hdl];unfold maxLen;omega,hdo,Or.inr ⟨_,_,rfl,by omega,hR4⟩⟩,by show d.length≤32;omega,by show 32≤maxLen;unfold maxLen;omega⟩
  have hP:=zcq w4 #[.slice (some ⟨w3.heap.size,0,none⟩) 32 32] ⟨some ⟨w3.heap.size,0,none⟩,32,d⟩ hat (by simp only[Part.val,hdl])
  have hBp:Below w.heap.size w (w4.alloc (.cells #[.slice (some ⟨w3.heap.size,0,none⟩) 32 32] 59)):=hB4.alloc hB4.size _
  have hBq:Below w4.heap.size w4 (w4.alloc (.cells #[.slice (some ⟨w3.heap.size,0,none⟩) 32 32] 59)):=(Below.refl _ _).alloc (Nat.le_refl _) _
  have hcz:cat [(⟨some ⟨w3.heap.size,0,none⟩,32,d⟩:Part)]=d:=by simp[cat]
  have c2:=zfm 92 w1.heap.size kb _ 1 _ _ (hG.below hBp) hbl (zd hR4k hBq (by omega)) (by simp;omega) hP (by rw[hcz];omega) (by simp)
  rw[hcz]at c2
  simp only[List.length_cons,List.length_nil,Nat.zero_add]at c2
  obtain⟨m,hm⟩:∃m,Hid (sha (xorL 92 kb++d)=m):=⟨_,rfl⟩
  have hml:m.length=32:=by rw[←hm.out];exact zbj _
  rw[hm.out]at c2 HM
  clear hP hat hcz hm
  try simp only[Act.put]
  go_wp2_with fail
  refine c2.mono ?_
  rintro e w5 ⟨rfl,hw5⟩
  clear c2
  have hB5:=hBp.trans (hw5.mono hBp.size)
  have hT5':=zq (zq hT4 hBq (by omega)) hw5 (by simp;omega)
  have hT5:w5.there w.heap.size 0 (v8 m).toArray.size:=by
    have e:(v8 m).toArray.size=32:=by rw[List.size_toArray,v8_length,hml]
    rw[e];exact hT5'
  have hi:=info24 m hml
  have h1c:=all_oneCell_toArray (zI m)
  clear hw5 hBq hBp
  go_wp2_with (refine wpList_store_mid (op:=⟨none,.store 41 (.tmp 4) (.tmp 17),_,_,_,none⟩) rfl 41 _ _ rfl _ _ (v8 m).toArray rfl rfl hT5 hi h1c ?_)
  have hRr:=World.rangeAt_setCells_same w5 w.heap.size 0 (v8 m) (by rw[v8_length,hml];exact hT5')
  have hBl:=zi (Nat.le_refl w.heap.size) (v8 m) 0 w5 hB5
  have hrs:=run_loadVar_mid (P:=prog) (w5.setCells w.heap.size 0 (v8 m)) w.heap.size 0 41 (v8 m) _ hRr underlying41 rfl (by simpa using hi)
  refine bodyPost_ret (v:=.agg (v8 m).toArray) (by simp[results,results64,Act.put,asAddr,hrs]) rfl ⟨by rw[HM.out],hBl⟩
end Go.Proofs.YtcbpbkefggekmaaGreatDoor.Qs
namespace Go.Proofs.YtcbpbkefggekmaaGreatDoor.Rk
open Qs
open Go.RowKit
open Sha Tal
def bodyL (c n:Int) (s:ByteArray):List Int:=[82]++putL c++putL n++textL s
theorem zjf (c n m:Int) (s:ByteArray) (t:List Int) (w:World):
   Calls prog 61 #[.agg (reqL c n s t).toArray,.int .i64 m] w fun e w'=>e=.returned (.bool (decide (0≤c∧c<m∧1≤n∧n≤1099511627776∧s.size≤64)))∧Below w.heap.size w w':=by
  have hB1:Below w.heap.size w (w.alloc (.cells (reqL c n s t).toArray 81)):=(Below.refl _ _).alloc (Nat.le_refl _) _
  obtain⟨h0,h1,h2⟩:=zbo (zbN w c n s t)
  generalize reqL c n s t=q at *
  by_cases a1:c<0
  · have e:decide (0≤c∧c<m∧1≤n∧n≤1099511627776∧s.size≤64)=false:=by simp;omega
    rw[e];clear e
    go_enter func61,ntmps61
    go_wp2
    go_ret
    exact⟨rfl,hB1⟩
  · by_cases a2:m≤c
    · have e:decide (0≤c∧c<m∧1≤n∧n≤1099511627776∧s.size≤64)=false:=by simp;omega
      rw[e];clear e
      go_enter func61,ntmps61
      go_wp2
      go_ret
      exact⟨rfl,hB1⟩
    · by_cases a3:n<1
      · have e:decide (0≤c∧c<m∧1≤n∧n≤1099511627776∧s.size≤64)=false:=by simp;omega
        rw[e];clear e
        go_enter func61,ntmps61
        go_wp2
        go_ret
        exact⟨rfl,hB1⟩
      · by_cases a4:1099511627776<n
        · have e:decide (0≤c∧c<m∧1≤n∧n≤1099511627776∧s.size≤64)=false:=by simp;omega
          rw[e];clear e
          go_enter func61,ntmps61
          go_wp2
          go_ret
          exact⟨rfl,hB1⟩
        · have e : decide (0 ≤ c ∧ c < m ∧ 1 ≤ n ∧ n ≤ 1099511627776 ∧ s.size ≤ 64) = decide ((s.size : Int) ≤ 64) := by
            rw[decide_eq_decide];omega
          rw[e];clear e
          go_enter func61,ntmps61
          go_wp2
          go_ret
          exact⟨rfl,hB1⟩
end Go.Proofs.YtcbpbkefggekmaaGreatDoor.Rk
namespace Go.Proofs.YtcbpbkefggekmaaGreatDoor.Qs
open Go.RowKit
open Sha Tal
theorem zhv (s:ByteArray) (w:World) (hs:s.size≤1000000):∃cap w',(convert 9 59 (.string s)).run prog w=.ok (.slice (some ⟨w.heap.size,0,none⟩) s.size cap) w'∧RowAt w' (some ⟨w.heap.size,0,none⟩) (strL s)∧s.size≤cap∧cap≤maxLen∧Below w.heap.size w w'∧w.heap.size<w'.heap.size:=by
 refine⟨_,_,run_bytes_of_string w 9 59 5 s underlying9 underlying59 underlying5,?_,grownCap_ge _ _ _ _,grownCap_le_maxLen _ _ _ _ (by unfold maxLen;omega),((Below.refl _ _).drew).alloc (Nat.le_refl _) _,by simp⟩
 refine⟨by rw[zad];unfold maxLen;omega,zbz s,Or.inr ⟨_,0,rfl,by simp,?_⟩⟩
 have:=zil w.drew (bytesRow s (grownCap w s.size 0 5)) 5 ((bytesRow s (grownCap w s.size 0 5)).size,(bytesRow s (grownCap w s.size 0 5)).size+1)
 have e:(bytesRow s (grownCap w s.size 0 5)).toList=v8 (strL s)++List.replicate (grownCap w s.size 0 5 - s.size) (.int .u8 0):=by
  simp[bytesRow,v8,strL]
 rw[e]at this
 exact zP this
def KeysAt (w:World) (p:Option Addr) (ds:List (List Int)):Prop:=
 (p=none∧ds=[])∨∃K a cap,p=some ⟨K,0,none⟩∧K<w.heap.size∧w.cell? ⟨K,0,none⟩=some (.slice a ds.length cap)∧ds.length≤4096∧(∀d∈ds,d.length=32∧∀z∈d,0≤z∧z<256)∧
  (ds=[]∨∃D,a=some ⟨D,0,none⟩∧D<w.heap.size∧∀i d,ds[i]? =some d→w.rangeAt D (i*32) (v8 d))
theorem KeysAt.below {w w':World} {p:Option Addr} {ds:List (List Int)} (h:KeysAt w p ds) (hb:Below w.heap.size w w'):KeysAt w' p ds:=by
 rcases h with h|⟨K,a,cap,rfl,hK,hc,hl,hd,hr⟩
 ·exact .inl h
 ·refine .inr ⟨K,a,cap,rfl,Nat.lt_of_lt_of_le hK hb.size,(hb.cell (p:=⟨K,0,none⟩) hK).trans hc,hl,hd,?_⟩
  rcases hr with hr|⟨D,rfl,hD,hr⟩
  ·exact .inl hr
  ·exact .inr ⟨D,rfl,Nat.lt_of_lt_of_le hD hb.size,fun i d hi=>zd (hr i d hi) hb hD⟩
theorem KeysAt.len {w:World} {p:Option Addr} {ds:List (List Int)} (h:KeysAt w p ds):ds.length≤4096:=by
 rcases h with⟨_,rfl⟩|⟨K,a,cap,_,_,_,hl,_⟩
 ·simp
 ·exact hl
theorem zcx (p:Option Addr) (ds:List (List Int)) (w:World) (h:KeysAt w p ds):Calls prog 28 #[.pointer p] w fun e w'=>e=.returned (.int .i64 (ds.length:Int))∧w'=w:=by
 rcases h with⟨rfl,rfl⟩|⟨K,a,cap,rfl,hK,hc,hl,hd,hr⟩
 ·go_enter func28,ntmps28
  go_wp2
  go_ret
  exact⟨rfl,rfl⟩
 ·clear hr hd
  go_enter func28,ntmps28
  go_wp2
  go_ret
  exact⟨rfl,rfl⟩
def signOf (ds:List (List Int)) (id:Int) (body:ByteArray):List Int ×Int:=
 if ds=[]then(zeros16,1)else if id<0∨(ds.length:Int)≤id then(zeros16,2)else((mac (ds.getD id.toNat []) (strL body)).take 16,0)
theorem zcf (ds:List (List Int)) (id:Int) (body:ByteArray):(signOf ds id body).1.length=16:=by
 unfold signOf
 split
 ·rfl
 ·split
  ·rfl
  ·simp[zfl]
theorem zhC (ds:List (List Int)) (id:Int) (body:ByteArray):∀z∈(signOf ds id body).1,0≤z∧z<256:=by
 unfold signOf
 split
 ·decide
 ·split
  ·decide
  ·intro z hz;exact zjh _ _ z (List.mem_of_mem_take hz)
theorem arr16 (b:Nat) (w:World):(Instr.arrayAt 23 (.slice (some ⟨b,0,none⟩) 16 32)).run prog w=.ok (.pointer (some ⟨b,0,none⟩)) w:=by kernel_rfl
theorem info16 (t:List Int) (h:t.length=16):(prog.info? 23).map (·.size)=some (v8 t).toArray.size:=by rw[List.size_toArray,v8_length,h];exact iszT
theorem load16 {w:World} {b o:Nat} {t:List Int} (h:t.length=16) (hr:w.rangeAt b o (v8 t)):(loadVar 23 ⟨b,o,none⟩).run prog w=.ok (.agg (v8 t).toArray) w:=
 run_loadVar_mid (P:=prog) w b o 23 (v8 t) _ hr underlying23 rfl (by simpa using info16 t h)
theorem zfp (p:Option Addr) (ds:List (List Int)) (id:Int) (body:ByteArray) (w:World) (hG:Glob w) (h:KeysAt w p ds) (hb:ds=[]∨body.size≤100000):
    Calls prog 29 #[.pointer p,.int .i64 id,.string body] w fun e w'=>e=.returned (.tuple #[.agg (v8 (signOf ds id body).1).toArray,.int .i64 (signOf ds id body).2])∧Below w.heap.size w w':=by
  have hB0:Below w.heap.size w (w.alloc (.cells (Array.replicate 16 (.int .u8 0)) 23)):=(Below.refl _ _).alloc (Nat.le_refl _) _
  have cl:=zcx p ds _ (h.below hB0)
  have hR0:(w.alloc (.cells (Array.replicate 16 (.int .u8 0)) 23)).rangeAt w.heap.size 0 (v8 zeros16):=(zaM w 16 23).1
  have hrs:=load16 (t:=zeros16) rfl hR0
  by_cases h0:ds=[]
  · subst h0
    have HS:Hid (signOf [] id body=(zeros16,1)):=by show _=_;simp[signOf]
    rw[HS.out]
    clear HS
    go_enter func29,ntmps29
    go_wp2_with (go_at_call 28;refine cl.mono ?_;rintro e w1 ⟨rfl,rfl⟩)
    exact bodyPost_ret (v:=.tuple #[.agg (v8 zeros16).toArray,.int .i64 1]) (by simp[results,results29,asAddr,hrs]) rfl ⟨rfl,hB0⟩
  · have hb:=hb.resolve_left h0
    have hpos:0<ds.length:=List.length_pos_iff.2 h0
    have hne:((ds.length:Int)==0)=false:=by simp;omega
    have h4:=h.len
    by_cases h1:id<0∨(ds.length:Int)≤id
    · have HS:Hid (signOf ds id body=(zeros16,2)):=by show _=_;simp[signOf,h0,h1]
      rw[HS.out]
      clear HS
      rcases h1 with h1|h1
      · clear h0 h
        go_enter func29,ntmps29
        go_wp2_with (go_at_call 28;refine cl.mono ?_;rintro e w1 ⟨rfl,hx⟩;obtain rfl:=hx.symm;clear hx)
        exact bodyPost_ret (v:=.tuple #[.agg (v8 zeros16).toArray,.int .i64 2]) (by simp[results,results29,asAddr,hrs]) rfl ⟨rfl,hB0⟩
      · have h1':¬id<0:=by omega
        clear h0 h
        go_enter func29,ntmps29
        go_wp2_with (go_at_call 28;refine cl.mono ?_;rintro e w1 ⟨rfl,hx⟩;obtain rfl:=hx.symm;clear hx)
        exact bodyPost_ret (v:=.tuple #[.agg (v8 zeros16).toArray,.int .i64 2]) (by simp[results,results29,asAddr,hrs]) rfl ⟨rfl,hB0⟩
    · obtain⟨k,rfl⟩:=Int.eq_ofNat_of_zero_le (show 0≤id by omega)
      have hk:k<ds.length:=by omega
      have h1a:¬(k:Int)<0:=by omega
      have h1b:(k:Int)<ds.length:=by omega
      have HS:Hid (signOf ds (k:Int) body=((mac ds[k] (strL body)).take 16,0)):=by
        show _=_
        simp only[signOf,h0,h1,if_false,Int.toNat_natCast,List.getD_eq_getElem?_getD,List.getElem?_eq_getElem hk,Option.getD_some]
      rw[HS.out]
      clear HS h1
      obtain ⟨K, a, cap, rfl, hK, hc, _, hd, hr⟩ : ∃ K a cap, p = some ⟨K, 0, none⟩ ∧ K < w.heap.size ∧ w.cell? ⟨K, 0, none⟩ = some (.slice a ds.length cap) ∧ ds.length ≤ 4096 ∧ (∀ d ∈ ds, d.length = 32 ∧ ∀ z ∈ d, 0 ≤ z ∧ z < 256) ∧
          (ds=[]∨∃D,a=some ⟨D,0,none⟩∧D<w.heap.size∧∀i d,ds[i]? =some d→w.rangeAt D (i*32) (v8 d)):=by
        rcases h with⟨_,e⟩|q
        · exact absurd e h0
        · exact q
      obtain⟨D,rfl,hD,hr⟩:=hr.resolve_left h0
      have hrk:=hr k ds[k] (List.getElem?_eq_getElem hk)
      obtain⟨hdl,hdo⟩:=hd ds[k] (List.getElem_mem hk)
      obtain⟨d,hd'⟩:∃d,Hid (ds[k]=d):=⟨_,hide rfl⟩
      rw[hd'.out]at hrk hdl hdo ⊢
      clear hr hd h0 h
      have hc1:=(hB0.cell (p:=⟨K,0,none⟩) hK).trans hc
      clear hrs hR0
      have hT0:=(zaM w 16 23).2
      obtain⟨cap2,w2,hcv,hrow2,hc2a,hc2b,hw2,hs2⟩:=zhv body (w.alloc (.cells (Array.replicate 16 (.int .u8 0)) 23)) (by omega)
      simp only[World.size_alloc]at hcv hrow2 hw2 hs2
      have hB2:Below w.heap.size w w2:=hB0.trans (hw2.mono (by omega))
      have hT2:=zq hT0 hw2 (by omega)
      have hat:(⟨some ⟨w.heap.size+1,0,none⟩,cap2,strL body⟩:Part).at w2:=⟨hrow2,by show(strL body).length≤cap2;rw[zad];exact hc2a,hc2b⟩
      have hP:=zcq w2 #[.slice (some ⟨w.heap.size+1,0,none⟩) body.size cap2] _ hat (by simp only[Part.val,zad])
      have hBp:Below w2.heap.size w2 (w2.alloc (.cells #[.slice (some ⟨w.heap.size+1,0,none⟩) body.size cap2] 59)):=(Below.refl _ _).alloc (Nat.le_refl _) _
      have hB3:=hB2.trans (hBp.mono hB2.size)
      have hkr:RowAt w (some ⟨D,k*32,none⟩) d:=⟨by rw[hdl];unfold maxLen;omega,hdo,Or.inr ⟨_,_,rfl,hD,hrk⟩⟩
      have ec:cat [(⟨some ⟨w.heap.size+1,0,none⟩,cap2,strL body⟩:Part)]=strL body:=by simp[cat]
      have cm:=zji (some ⟨D,k*32,none⟩) 32 d _ 1 _ _ (hG.below hB3) (hkr.below hB3) (by omega) (by unfold maxLen;omega) (by omega) hP (by rw[ec,zad];omega) (by simp)
      rw[ec,hdl]at cm
      simp only[List.length_cons,List.length_nil,Nat.zero_add]at cm
      obtain⟨m,hm⟩:∃m,Hid (mac d (strL body)=m):=⟨_,hide rfl⟩
      have hml:m.length=32:=by rw[←hm.out];exact zfl _ _
      rw[hm.out]at cm ⊢
      clear hP hat ec hkr hrk hdo hrow2 hw2
      go_enter func29,ntmps29
      go_wp2_with (first|(go_at_call 28;refine cl.mono ?_;rintro e w1 ⟨rfl,hx⟩;obtain rfl:=hx.symm;clear hx))
      refine cm.mono ?_
      rintro e w3 ⟨rfl,hw3⟩
      clear cm cl hcv
      have hB4:=hB3.trans (hw3.mono hB3.size)
      have hT3:=zq (zq hT2 hBp (by omega)) hw3 (by simp;omega)
      have hs3:=hw3.size
      simp only[World.size_alloc]at hs3
      have F:=zA w3 (Array.replicate 32 (.int .u8 0)) 41 (v8 m) (by rw[v8_length,hml];rfl)
      have hN:=there24 w3 m hml
      have hi:=info24 m hml
      have h1c:=all_oneCell_toArray (zI m)
      go_upto_region 6 with(refine wpList_store_mid (op:=⟨none,.store 41 (.tmp 8) (.tmp 32),_,_,_,none⟩) rfl 41 _ _ rfl _ _ (v8 m).toArray rfl rfl hN hi h1c ?_)
      go_name_world w4 hw4
      rw[show(w3.alloc (.cells (Array.replicate 32 (.int .u8 0)) 41)).setCells w3.heap.size 0 (v8 m)=w4 from hw4]at F
      obtain⟨hR4,hB4',hz4',_⟩:=F
      have hz4:w3.heap.size<w4.heap.size:=by omega
      clear hz4' hw4 hN hi h1c hw3
      have hB5:=hB4.trans (hB4'.mono hB4.size)
      have hT4:=zq hT3 hB4' (by omega)
      have hsl:=zeq (w:=w4) underlying41 isz8 w3.heap.size 0 16 16 rfl (by omega) (by omega)
      obtain⟨t,ht⟩:∃t,Hid (m.take 16=t):=⟨_,hide rfl⟩
      have htl:t.length=16:=by rw[←ht.out,List.length_take];omega
      have hRt:w4.rangeAt w3.heap.size 0 (v8 t):=by
        have e:v8 m=v8 t++v8 (m.drop 16):=by rw[←zav,←ht.out,List.take_append_drop]
        rw[e]at hR4;exact zP hR4
      try simp only[Act.put]
      have hl16:(prog.info? 23).map (·.size)=some (v8 t).length:=by simpa using info16 t htl
      have hT4':w4.there w.heap.size 0 (v8 t).toArray.size:=by
        have e:(v8 t).toArray.size=16:=by rw[List.size_toArray,v8_length,htl]
        rw[e];exact hT4
      have h1t:=all_oneCell_toArray (zI t)
      have hit:=info16 t htl
      have hap:=arr16 w3.heap.size w4
      refine wp_region_list ?_
      refine wpList_plain rfl fun K hK=>?_
      go_simp
      refine hK _ _ ?_
      clear hK K
      refine wpList_plain rfl fun K hK=>?_
      go_simp
      refine hK _ _ ?_
      clear hK K
      refine wpList_load_mid rfl 23 _ rfl _ _ rfl (v8 t) _ hRt underlying23 rfl hl16 ?_
      refine wpList_store_mid rfl 23 _ _ rfl _ _ (v8 t).toArray rfl rfl hT4' hit h1t ?_
      go_wp2
      have hRr:=World.rangeAt_setCells_same w4 w.heap.size 0 (v8 t) (by rw[v8_length,htl];exact hT4)
      have hBl:=zi (Nat.le_refl w.heap.size) (v8 t) 0 w4 hB5
      have hrs:=load16 htl hRr
      exact bodyPost_ret (v:=.tuple #[.agg (v8 t).toArray,.int .i64 0]) (by simp[results,results29,asAddr,hrs]) rfl ⟨by rw[ht.out],hBl⟩
theorem eql16 (xs ys:List Int) (hx:xs.length=16) (hy:ys.length=16) (w:World):(binOp .eql 23 (.agg (v8 xs).toArray) (.agg (v8 ys).toArray)).run prog w=.ok (.bool (xs==ys)) w:=by
 rw[run_eql_struct,zbl w 9998 23 5 16 underlying23 underlying5 isz8 xs ys hx hy];rfl
end Go.Proofs.YtcbpbkefggekmaaGreatDoor.Qs
namespace Go.Proofs.YtcbpbkefggekmaaGreatDoor.Rk
open Qs
open Go.RowKit
open Sha Tal
theorem ziO (w:World):RowAt (w.alloc (.cells #[.int .u8 82] 5 (1,2))) (some ⟨w.heap.size,0,none⟩) [82]:=
 ⟨by unfold maxLen;simp,by decide,Or.inr ⟨w.heap.size,0,rfl,by simp,fun j v hv=>by
  rw[World.cell?_alloc_mark,Nat.zero_add]
  simpa [v8]using hv⟩⟩
theorem ziQ (w:World):RowAt (w.alloc (.cells #[.int .u8 82] 5)) (some ⟨w.heap.size,0,none⟩) [82]:=
 ⟨by unfold maxLen;simp,by decide,Or.inr ⟨w.heap.size,0,rfl,by simp,zy w #[.int .u8 82] 5⟩⟩
theorem zcI (c n:Int) (s:ByteArray) (hc:c≤9223372036854775807) (hn:n≤9223372036854775807) (hs:s.size≤100000):(bodyL c n s).length≤200000:=by
 have h1:=zab c (by omega)
 have h2:=zab n (by omega)
 have h3:=zab s.size (by omega)
 simp only[bodyL,textL,List.length_append,zad,List.length_cons,List.length_nil]
 omega
theorem zgj (c n:Int) (s:ByteArray) (t:List Int) (w:World) (ht:t.length=16) (hc:c≤9223372036854775807) (hn:n≤9223372036854775807) (hs:s.size≤100000):
   Calls prog 101 #[.agg (reqL c n s t).toArray] w fun e w'=>e=.returned (.string (strOf (bodyL c n s)))∧Below w.heap.size w w':=by
  have hB1:Below w.heap.size w (w.alloc (.cells (reqL c n s t).toArray 81)):=(Below.refl _ _).alloc (Nat.le_refl _) _
  have hR1:=zbN w c n s t
  have hz1:w.heap.size<(w.alloc (.cells (reqL c n s t).toArray 81)).heap.size:=by simp
  have hi:(prog.info? 81).map (·.size)=some (reqL c n s t).length:=by rw[zaI c n s t ht];exact iszR
  have cf:=fun a cap w0 h=>zfL a cap [82] c n s t w0 h (by simp) hc hn (by omega)
  have hbl:=zcI c n s hc hn hs
  obtain⟨q,hq⟩:∃q,Hid (reqL c n s t=q):=⟨_,rfl⟩
  rw[hq.out]at hB1 hz1 hi ⊢
  rw[hq.out]at hR1
  simp only[hq.out]at cf
  have eb:[82]++putL c++putL n++textL s=bodyL c n s:=rfl
  simp only[eb]at cf
  obtain⟨bl,hb⟩:∃bl,Hid (bodyL c n s=bl):=⟨_,rfl⟩
  simp only[hb.out]at cf
  rw[hb.out]at hbl ⊢
  obtain⟨st,hst⟩:∃st,Hid (strOf bl=st):=⟨_,rfl⟩
  rw[hst.out]
  clear eb
  go_enter func101,ntmps101
  go_upto_region 1 with fail
  go_name_world w1 hw1
  rw[show w.alloc (.cells q.toArray 81)=w1 from hw1]at hB1 hR1 hz1
  clear hw1
  have hB2':Below w1.heap.size w1 (w1.alloc (.cells #[.int .u8 82] 5)):=(Below.refl _ _).alloc (Nat.le_refl _) _
  have hB2:=hB1.trans (hB2'.mono hB1.size)
  have hR2:=zd hR1 hB2' hz1
  have c2:=cf _ 1 _ (ziQ w1)
  simp only[List.length_cons,List.length_nil,Nat.zero_add]at c2
  clear cf hB1 hR1 hB2'
  obtain⟨X,hX⟩:∃X,Hid (w.heap.size=X):=⟨_,rfl⟩
  rw[hX.out]at hR2
  rw[hX.out]
  go_wp2_with (refine wpList_load_mid rfl 81 _ rfl _ 0 rfl q _ hR2 underlying81 rfl hi ?_)
  refine c2.mono ?_
  rintro e w3 ⟨v3,rfl,hM3,hw3⟩
  have hfin:=hB2.trans (hw3.mono hB2.size)
  obtain⟨a3,cap3,rfl,_,_,hrow3⟩:=hM3.rowAt (by unfold maxLen;omega)
  have hstr:=zdc hrow3 cap3
  rw[hst.out]at hstr
  clear c2 hM3 hw3 hrow3 hR2 hB2 hbl
  generalize bl.length=nb at *
  go_wp2
  go_ret
  rw[←hX.out]
  exact⟨rfl,hfin⟩
theorem zid (c n:Int) (s:ByteArray) (t:List Int) (w:World) (hc:c≤9223372036854775807) (hn:n≤9223372036854775807) (hs:s.size≤100000):
   Calls prog 128 #[.agg (reqL c n s t).toArray] w fun e w'=>e=.returned (.string (strOf (bodyL c n s)))∧Below w.heap.size w w':=by
  have hB1:Below w.heap.size w (w.alloc (.cells (reqL c n s t).toArray 81)):=(Below.refl _ _).alloc (Nat.le_refl _) _
  have hR1:=zbN w c n s t
  have hz1:w.heap.size<(w.alloc (.cells (reqL c n s t).toArray 81)).heap.size:=by simp
  have hbl:=zcI c n s hc hn hs
  have hlc:=zab c (by omega)
  have hln:=zab n (by omega)
  obtain⟨q,hq⟩:∃q,Hid (reqL c n s t=q):=⟨_,rfl⟩
  rw[hq.out]at hB1 hz1 ⊢
  rw[hq.out]at hR1
  obtain⟨z1,hz1'⟩:∃z1,Hid ([(82:Int)]++putL c=z1):=⟨_,hide rfl⟩
  obtain⟨z2,hz2'⟩:∃z2,Hid (z1++putL n=z2):=⟨_,rfl⟩
  have hbz:Hid (z2++textL s=bodyL c n s):=by rw[←hz2'.out,←hz1'.out];rfl
  have l1:z1.length≤1000009:=by rw[←hz1'.out,List.length_append];simp;omega
  have l2:z2.length≤1000018:=by rw[←hz2'.out,List.length_append];omega
  obtain⟨bl,hb⟩:∃bl,Hid (bodyL c n s=bl):=⟨_,rfl⟩
  rw[hb.out]at hbl hbz ⊢
  obtain⟨st,hst⟩:∃st,Hid (strOf bl=st):=⟨_,rfl⟩
  rw[hst.out]
  clear hlc hln
  go_enter func128,ntmps128
  go_wp2_with fail
  go_name_world w1 hw1
  rw[show w.alloc (.cells q.toArray 81)=w1 from hw1]at hB1 hR1 hz1
  clear hw1
  have hB4:=hB1.drew
  have hR4:w1.drew.rangeAt w.heap.size 0 q:=(World.rangeAt_drew _ _ _ _).2 hR1
  have hz4:w.heap.size<w1.drew.heap.size:=hz1
  clear hB1 hR1 hz1
  obtain⟨X,hX⟩:∃X,Hid (w.heap.size=X):=⟨_,rfl⟩
  rw[hX.out]at hR4 hz4 ⊢
  obtain⟨w5,hw5⟩:∃w5,w1.drew=w5:=⟨_,rfl⟩
  rw[hw5]at hB4 hR4 hz4
  have cells:∀w',Below w5.heap.size w5 w'→w'.cell? ⟨X,0,none⟩=some (.int .i64 c)∧w'.cell? ⟨X,1,none⟩=some (.int .i64 n)∧w'.cell? ⟨X,2,none⟩=some (.string s):=fun w' hw'=>by
    have:=zd hR4 hw' hz4
    rw[←hq.out]at this
    exact zbo this
  refine zG (S:=(Below w5.heap.size w5)) 13 rfl (by kernel_rfl) ?_
  rw[hw5]
  clear hw5 hR4
  have hS:(Below w5.heap.size w5) w5:=Below.refl _ _
  refine hs_t 2 5 (?_) rfl (by kernel_rfl) (by kernel_rfl) (by kernel_rfl) (by rfl) ?_ hS rfl ?_
  rotate_left
  · intro w' hw
    go_simp
    try with_reducible rfl
  simp only[nz]
  refine hs_t 3 6 (?_) rfl (by kernel_rfl) (by kernel_rfl) (by kernel_rfl) (by rfl) ?_ hS rfl ?_
  rotate_left
  · intro w' hw
    have hc:=(cells w' hw).1
    go_simp
    try with_reducible rfl
  simp only[nz]
  refine hs_t 5 8 (?_) rfl (by kernel_rfl) (by kernel_rfl) (by kernel_rfl) (by rfl) ?_ hS rfl ?_
  rotate_left
  · intro w' hw
    go_simp
    try with_reducible rfl
  simp only[nz]
  refine hs_t 6 9 (?_) rfl (by kernel_rfl) (by kernel_rfl) (by kernel_rfl) (by rfl) ?_ hS rfl ?_
  rotate_left
  · intro w' hw
    have hc:=(cells w' hw).2.1
    go_simp
    try with_reducible rfl
  simp only[nz]
  refine hs_t 8 11 (?_) rfl (by kernel_rfl) (by kernel_rfl) (by kernel_rfl) (by rfl) ?_ hS rfl ?_
  rotate_left
  · intro w' hw
    go_simp
    try with_reducible rfl
  simp only[nz]
  refine hs_t 9 12 (?_) rfl (by kernel_rfl) (by kernel_rfl) (by kernel_rfl) (by rfl) ?_ hS rfl ?_
  rotate_left
  · intro w' hw
    have hc:=(cells w' hw).2.2
    go_simp
    try with_reducible rfl
  simp only[nz]
  clear cells
  have hS:(Below w5.heap.size w5) (w5.alloc (.cells #[.int .u8 82] 5)):=(Below.refl _ _).alloc (Nat.le_refl _) _
  refine zaa (i:=0) (d:=some 3) (v:=.slice (some ⟨w5.heap.size,0,none⟩) 1 1) (w':=(w5.alloc (.cells #[.int .u8 82] 5))) rfl (by kernel_rfl) (by rfl) (by go_simp;try with_reducible rfl) rfl hS ?_
  simp only[nz]
  have hcv:=Lib.run_convert_bytes_const (P:=prog) w5 59 5 #[.int .u8 82] 1 1 underlying59 underlying5
  have hS:(Below w5.heap.size w5) (w5.alloc (.cells #[.int .u8 82] 5 (1,2))):=(Below.refl _ _).alloc (Nat.le_refl _) _
  refine zaa (i:=1) (d:=some 4) (v:=.slice (some ⟨w5.heap.size,0,none⟩) 1 1) (w':=(w5.alloc (.cells #[.int .u8 82] 5 (1,2)))) rfl (by kernel_rfl) (by rfl) (by go_simp;try with_reducible rfl) rfl hS ?_
  simp only[nz]
  clear hcv
  have h6:=ziO w5
  obtain⟨Y,hY⟩:∃Y,Hid (w5.heap.size=Y):=⟨_,hide rfl⟩
  rw[hY.out]at h6
  generalize w5.alloc (.cells #[.int .u8 82] 5 (1,2))=w6 at hS h6 ⊢
  have c6:=zbO (some ⟨w5.heap.size,0,none⟩) 1 [82] c w6 (by rw[hY.out];exact h6) (by simp) hc
  rw[hz1'.out]at c6
  refine zx (i:=4) (d:=some 7) rfl (by kernel_rfl) (by rfl) (by go_simp;first|done|exact⟨rfl,rfl⟩|with_reducible rfl) rfl ?_
  refine(c6).mono ?_
  rintro e' w7 ⟨v7,rfl,hM7,hw7⟩
  have hS:(Below w5.heap.size w5) w7:=hS.trans (hw7.mono hS.size)
  refine⟨_,rfl,hS,?_⟩
  simp only[nz]
  obtain⟨a7,cap7,rfl,_,_,hrow7⟩:=hM7.rowAt (by unfold maxLen;omega)
  clear c6 hM7 hw7
  have c7:=zbO a7 cap7 z1 n w7 hrow7 (by omega) hn
  rw[hz2'.out]at c7
  refine zx (i:=7) (d:=some 10) rfl (by kernel_rfl) (by rfl) (by go_simp;first|done|exact⟨rfl,rfl⟩|with_reducible rfl) rfl ?_
  refine(c7).mono ?_
  rintro e' w8 ⟨v8,rfl,hM8,hw8⟩
  have hS:(Below w5.heap.size w5) w8:=hS.trans (hw8.mono hS.size)
  refine⟨_,rfl,hS,?_⟩
  simp only[nz]
  obtain⟨a8,cap8,rfl,_,_,hrow8⟩:=hM8.rowAt (by unfold maxLen;omega)
  clear c7 hM8 hw8 hrow7
  have c8:=zib a8 cap8 z2 s w8 hrow8 (by omega) (by omega)
  rw[hbz.out]at c8
  refine zx (i:=10) (d:=some 13) rfl (by kernel_rfl) (by rfl) (by go_simp;first|done|exact⟨rfl,rfl⟩|with_reducible rfl) rfl ?_
  refine(c8).mono ?_
  rintro e' w9 ⟨v9,rfl,hM9,hw9⟩
  have hS:(Below w5.heap.size w5) w9:=hS.trans (hw9.mono hS.size)
  refine⟨_,rfl,hS,?_⟩
  simp only[nz]
  obtain⟨a9,cap9,rfl,_,_,hrow9⟩:=hM9.rowAt (by unfold maxLen;omega)
  have hstr:=fun w' (hw:Below w9.heap.size w9 w')=>zdc (hrow9.below hw) cap9
  have hs1:=hstr w9 (Below.refl _ _)
  rw[hst.out]at hs1
  have hfin:=hB4.trans (hS.mono hB4.size)
  clear c8 hM9 hw9 hrow8 hstr hrow9 hbl
  refine zaa (i:=11) (d:=some 14) (v:=.string st) (w':=w9) rfl (by kernel_rfl) (by rfl) (by go_simp;try with_reducible rfl) rfl hS ?_
  simp only[nz]
  refine hs_t 12 2 (?_) rfl (by kernel_rfl) (by kernel_rfl) (by kernel_rfl) (by rfl) ?_ hS rfl ?_
  rotate_left
  · intro w' hw
    go_simp
    try with_reducible rfl
  simp only[nz]
  refine zE (by kernel_rfl) ?_
  go_wp2
  go_ret
  rw[←hX.out]
  exact⟨rfl,hfin⟩
end Go.Proofs.YtcbpbkefggekmaaGreatDoor.Rk
namespace Go.Proofs.YtcbpbkefggekmaaGreatDoor.Qs
open Go.RowKit
open Sha Tal
def keyOf (seed:ByteArray) (id:Nat):List Int:=sha (textL seed++putL (id:Int))
def keysOf (seed:ByteArray) (n:Nat):List (List Int):=(List.range n).map (keyOf seed)
theorem zdq (seed:ByteArray) (n:Nat):(keysOf seed n).length=n:=by simp[keysOf]
theorem zjq (seed:ByteArray) (n i:Nat) (d:List Int) (h:(keysOf seed n)[i]? =some d):i<n∧d=keyOf seed i:=by
 have hi:i<n:=by have:=(List.getElem?_eq_some_iff.1 h).1;simpa [keysOf]using this
 refine⟨hi,?_⟩
 simp[keysOf,List.getElem?_map,List.getElem?_range hi]at h
 exact h.symm
theorem zdr (seed:ByteArray) (id:Nat):(keyOf seed id).length=32:=zbj _
theorem zjs (seed:ByteArray) (id:Nat):∀z∈keyOf seed id,0≤z∧z<256:=zcg _
theorem info32:(prog.info? 41).map (fun i=>(i.zero,i.size,i.bytes))=some (some (.agg (Array.replicate 32 (.int .u8 0))),32,32):=by kernel_rfl
theorem ziy {w:World} {base:Nat} {e:TypeId} {size g n:Nat} {xs:List Value} (h:w.ownsRow base e size (.slice (some ⟨g,0,none⟩) n n) n xs):w.there g 0 (n*size):=by
 rcases h.2 with⟨hv,_⟩|⟨g',cap,cur,hv,hb,hg,h1,h2,h3,h4⟩
 ·cases hv
 ·injection hv with ha hl hc
  simp only[Option.some.injEq,Addr.mk.injEq]at ha
  obtain⟨rfl,_⟩:=ha
  subst hc
  intro j hj
  rw[Nat.zero_add]
  have hj':j<cur.size:=by rw[h3];exact hj
  constructor
  ·simp[World.cell?,hg,hj']
  ·simp[World.frozen?,hg]
theorem zhf {w:World} {g o n i m:Nat} (h:w.there g o n) (hm:i+m≤n):w.there g (o+i) m:=zan h i m hm
theorem zin (n:Int) (h:0≤n):0<(putL n).length:=by
 unfold putL;rw[if_neg (by omega)];simp[numB]
theorem zko (seed:ByteArray) (n:Nat) (w:World) (hG:Glob w) (hn1:1≤n) (hn2:n≤4096) (hs:seed.size≤64):
    Calls prog 27 #[.string seed,.int .i64 (n:Int)] w fun e w'=>∃p,e=.returned (.pointer p)∧p≠none∧KeysAt w' p (keysOf seed n)∧Below w.heap.size w w':=by
  have t1:¬(n:Int)<1:=by omega
  have t2:¬(4096:Int)<n:=by omega
  have t3:¬(64:Int)<seed.size:=by omega
  obtain⟨i0,hi,hz0,hz1,hz2⟩:=zT info32
  obtain⟨w1,hmk,hown1,hgr1⟩:=run_makeSlice_full (P:=prog) w w.heap.size 121 41 i0 _ 32 underlying121 hi hz0 hz1 .i64 .i64 n (by omega) (by rw[hz2];omega) (by unfold maxLen;omega) (Nat.le_refl _)
  have hT1:=ziy hown1
  have hB1:Below w.heap.size w w1:=(Below.refl _ _).grown hgr1 (Nat.le_refl _) (fun _ h=>by cases h)
  have hs1:w.heap.size<w1.heap.size:=by
    have:=(hT1 0 (by omega)).1
    obtain⟨u,hu⟩:=Option.isSome_iff_exists.1 this
    exact World.block_lt_of_cell? w1 _ hu
  clear hown1 hgr1 hi hz0 hz1 hz2
  have hB2':Below w1.heap.size w1 (w1.alloc (.cells #[.slice (some ⟨w.heap.size,0,none⟩) n n] 123)):=(Below.refl _ _).alloc (Nat.le_refl _) _
  have hB2:=hB1.trans (hB2'.mono hB1.size)
  have hT2:=zq hT1 hB2' hs1
  have hK2:(w1.alloc (.cells #[.slice (some ⟨w.heap.size,0,none⟩) n n] 123)).cell? ⟨w1.heap.size,0,none⟩=some (.slice (some ⟨w.heap.size,0,none⟩) n n):=by
    rw[World.cell?_alloc_at _ _ _ _ rfl];rfl
  have ct:=ze1 none 0 [] seed (w1.alloc (.cells #[.slice (some ⟨w.heap.size,0,none⟩) n n] 123)) (zaR _) (by simp) (by omega)
  rw[List.nil_append]at ct
  have htl:(textL seed).length≤73∧0<(textL seed).length:=by
    unfold textL
    have h1:=zab (seed.size:Int) (by omega)
    have h2:=zin (seed.size:Int) (by omega)
    rw[List.length_append,zad];omega
  have HK:Hid (∀i,keyOf seed i=sha (textL seed++putL (i:Int))):=fun i=>rfl
  generalize textL seed=ts at *
  go_enter func27,ntmps27
  go_wp2_with fail
  refine ct.mono ?_
  rintro e w3 ⟨v3,rfl,hM3,hw3⟩
  clear ct hmk
  have hB3:=hB2.trans (hw3.mono hB2.size)
  have hT3:=zq hT2 hw3 (by simp;omega)
  have hK3:=(hw3.cell (p:=⟨w1.heap.size,0,none⟩) (by simp)).trans hK2
  have hs3:=hw3.size
  simp only[World.size_alloc]at hs3 hM3
  obtain⟨a,cap,rfl,hca,hcm,hrow⟩:=hM3.rowAt (by unfold maxLen;omega)
  obtain⟨b,off,rfl,hbl,hbr,hbn⟩:∃b off,a=some ⟨b,off,none⟩∧b<w3.heap.size∧w3.rangeAt b off (v8 ts)∧w1.heap.size+1≤b:=by
    rcases hrow.2.2 with h0|⟨b,off,rfl,hb,hr⟩
    · have:=htl.2;rw[h0]at this;simp at this
    · exact⟨b,off,rfl,hb,hr,(hM3.1.lt b rfl).1⟩
  have hto:=hM3.2
  obtain⟨D,hD⟩:∃D,w.heap.size=D:=⟨_,rfl⟩
  obtain⟨K,hKe⟩:∃K,w1.heap.size=K:=⟨_,rfl⟩
  rw[hD]at hT3 hK3
  rw[hKe]at hK3
  have hDK:D<K:=by omega
  have hKs:K<w3.heap.size:=by omega
  have hDb:D<b:=by omega
  have hKb:K<b:=by omega
  have hwD:w.heap.size≤D:=by omega
  clear hM3 hrow hw3 hT2 hK2 hB2 hB2' hT1 hB1
  rw[hD,hKe]
  clear hD hKe hs1 hs3 hbn
  go_wp2_with fail
  go_loopw [26] (fun i wr=>∃k:Nat,k≤n∧i=.int .i64 (k:Int)∧wr.cell? ⟨K,0,none⟩=some (.slice (some ⟨D,0,none⟩) n n)∧wr.there D 0 (n*32)∧(∀j,j<k→wr.rangeAt D (j*32) (v8 (keyOf seed j)))∧wr.rangeAt b off (v8 ts)∧b<wr.heap.size∧Below w.heap.size w wr) (fun i _=>n - (intOf i).toNat)
  case atStart=>exact⟨0,by omega,rfl,hK3,hT3,fun j h=>by omega,hbr,hbl,hB3⟩
  case round=>
    clear hK3 hT3 hbr hbl hB3 hKs
    obtain⟨k,hk,rfl,hK,hT,hR,hbr,hbl,hB⟩:=hrel
    by_cases hlt:k<n
    · have hltI:(k:Int)<n:=by omega
      have HR:=hide hR
      clear hR
      go_wp2_with fail
      refine zG (S:=(fun W:World=>W.cell? ⟨K,0,none⟩=some (.slice (some ⟨D,0,none⟩) n n))) 12 rfl (by kernel_rfl) ?_
      have hS:(fun W:World=>W.cell? ⟨K,0,none⟩=some (.slice (some ⟨D,0,none⟩) n n)) wr.drew:=hK
      have hB5:Below w.heap.size w wr.drew:=hB.drew
      have hT5:wr.drew.there D 0 (n*32):=hT
      have hR5:∀j,j<k→wr.drew.rangeAt D (j*32) (v8 (keyOf seed j)):=HR.out
      have hb5:wr.drew.rangeAt b off (v8 ts):=hbr
      have hl5:b<wr.drew.heap.size:=hbl
      generalize wr.drew=w5 at hS hB5 hT5 hR5 hb5 hl5 ⊢
      have HR5:=hide hR5
      clear HR hbr hbl hT hK hB hR5
      refine hs_t 0 29 (?_) rfl (by kernel_rfl) (by kernel_rfl) (by kernel_rfl) (by rfl) ?_ hS rfl ?_
      rotate_left
      · intro w' hw
        go_simp
        try with_reducible rfl
      simp only[nz]
      refine hs_t 1 30 (?_) rfl (by kernel_rfl) (by kernel_rfl) (by kernel_rfl) (by rfl) ?_ hS rfl ?_
      rotate_left
      · intro w' hw
        go_simp
        try with_reducible rfl
      simp only[nz]
      refine hs_t 2 31 (?_) rfl (by kernel_rfl) (by kernel_rfl) (by kernel_rfl) (by rfl) ?_ hS rfl ?_
      rotate_left
      · intro w' hw
        go_simp
        try with_reducible rfl
      simp only[nz]
      refine hs_t 3 32 (?_) rfl (by kernel_rfl) (by kernel_rfl) (by kernel_rfl) (by rfl) ?_ hS rfl ?_
      rotate_left
      · intro w' hw
        go_simp
        try with_reducible rfl
      simp only[nz]
      refine hs_t 4 33 (?_) rfl (by kernel_rfl) (by kernel_rfl) (by kernel_rfl) (by rfl) ?_ hS rfl ?_
      rotate_left
      · intro w' hw
        go_simp
        try with_reducible rfl
      simp only[nz]
      refine hs_t 5 34 (?_) rfl (by kernel_rfl) (by kernel_rfl) (by kernel_rfl) (by rfl) ?_ hS rfl ?_
      rotate_left
      · intro w' hw
        go_simp
        try with_reducible rfl
      simp only[nz]
      refine hs_t 6 35 (?_) rfl (by kernel_rfl) (by kernel_rfl) (by kernel_rfl) (by rfl) ?_ hS rfl ?_
      rotate_left
      · intro w' hw
        go_simp
        try with_reducible rfl
      simp only[nz]
      have hrow5:RowAt w5 (some ⟨b,off,none⟩) ts:=⟨by unfold maxLen;omega,hto,Or.inr ⟨_,_,rfl,hl5,hb5⟩⟩
      have cp:=zbq (some ⟨b,off,none⟩) cap ts (k:Int) w5 hrow5 (by omega) (by omega)
      have hpl:=zab (k:Int) (by omega)
      refine zx (i:=7) (d:=some 36) rfl (by kernel_rfl) (by rfl) (by go_simp;first|done|exact⟨rfl,rfl⟩|with_reducible rfl) rfl ?_
      refine(cp).mono ?_
      rintro e' w6 ⟨v6,rfl,hM6,hw6⟩
      have hS:(fun W:World=>W.cell? ⟨K,0,none⟩=some (.slice (some ⟨D,0,none⟩) n n)) w6:=(hw6.cell (p:=⟨K,0,none⟩) (show K<w5.heap.size by omega)).trans hS
      refine⟨_,rfl,hS,?_⟩
      simp only[nz]
      obtain⟨a6,cap6,rfl,hc6,hm6,hrow6⟩:=hM6.rowAt (by rw[List.length_append];unfold maxLen;omega)
      clear cp hM6
      have hs6:=hw6.size
      have hB7':Below w6.heap.size w6 (w6.alloc (.cells #[.slice a6 (ts++putL (k:Int)).length cap6] 59)):=(Below.refl _ _).alloc (Nat.le_refl _) _
      have hP:=zcq w6 #[.slice a6 (ts++putL (k:Int)).length cap6] ⟨a6,cap6,ts++putL (k:Int)⟩ ⟨hrow6,hc6,hm6⟩ rfl
      have hw7:=hw6.trans (hB7'.mono hw6.size)
      have hS:(fun W:World=>W.cell? ⟨K,0,none⟩=some (.slice (some ⟨D,0,none⟩) n n)) (w6.alloc (.cells #[.slice a6 (ts++putL (k:Int)).length cap6] 59)):=(hB7'.cell (p:=⟨K,0,none⟩) (show K<w6.heap.size by omega)).trans hS
      refine zaa (i:=8) (d:=some 37) (v:=.slice (some ⟨w6.heap.size,0,none⟩) 1 1) (w':=(w6.alloc (.cells #[.slice a6 (ts++putL (k:Int)).length cap6] 59))) rfl (by kernel_rfl) (by rfl) (by go_simp;try with_reducible rfl) rfl hS ?_
      simp only[nz]
      have ec:cat [(⟨a6,cap6,ts++putL (k:Int)⟩:Part)]=ts++putL (k:Int):=by simp[cat]
      have hB7:=hB5.trans (hw7.mono hB5.size)
      have csum:=zc4 _ 1 _ _ (hG.below hB7) hP (by rw[ec,List.length_append];omega)
      rw[ec,←HK.out k]at csum
      simp only[List.length_cons,List.length_nil,Nat.zero_add]at csum
      clear hP ec hrow6
      generalize w6.alloc (.cells #[.slice a6 (ts++putL (k:Int)).length cap6] 59)=w7 at *
      refine zx (i:=9) (d:=some 38) rfl (by kernel_rfl) (by rfl) (by go_simp;first|done|exact⟨rfl,rfl⟩|with_reducible rfl) rfl ?_
      refine(csum).mono ?_
      rintro e' w8 ⟨rfl,hw8⟩
      have hS:(fun W:World=>W.cell? ⟨K,0,none⟩=some (.slice (some ⟨D,0,none⟩) n n)) w8:=(hw8.cell (p:=⟨K,0,none⟩) (show K<w7.heap.size by have:=hw7.size;omega)).trans hS
      refine⟨_,rfl,hS,?_⟩
      simp only[nz]
      have hW8:=hw7.trans (hw8.mono hw7.size)
      have hB8:=hB5.trans (hW8.mono hB5.size)
      have hT8:=zq hT5 hW8 (by omega)
      have hb8:=zd hb5 hW8 hl5
      have hR8:∀j,j<k→w8.rangeAt D (j*32) (v8 (keyOf seed j)):=fun j hj=>zd (HR5.out j hj) hW8 (by omega)
      have hl8:b<w8.heap.size:=by have:=hW8.size;omega
      clear csum hw8 hw7 hw6 hB7' hB7 HR5 hb5 hT5 hB5 hW8
      obtain⟨d,hd⟩:∃d,Hid (keyOf seed k=d):=⟨_,hide rfl⟩
      have hdl:d.length=32:=by rw[←hd.out];exact zdr _ _
      rw[hd.out]
      refine hs_t 10 39 (?_) rfl (by kernel_rfl) (by kernel_rfl) (by kernel_rfl) (by rfl) ?_ hS rfl ?_
      rotate_left
      · intro w' hw
        go_simp
        try with_reducible rfl
      simp only[nz]
      have hTk:w8.there D (k*32) 32:=by have:=zhf hT8 (i:=k*32) (m:=32) (by omega);rwa [Nat.zero_add]at this
      have hTk':w8.there D (k*32) (v8 d).toArray.size:=by
        have e:(v8 d).toArray.size=32:=by rw[List.size_toArray,v8_length,hdl]
        rw[e];exact hTk
      have hst:=run_storeVar_mid (P:=prog) w8 D (k*32) 41 (v8 d).toArray hTk' (info24 d hdl) (all_oneCell_toArray (zI d))
      have hRn:=World.rangeAt_setCells_same w8 D (k*32) (v8 d) (by rw[v8_length,hdl];exact hTk)
      have hSn:(w8.setCells D (k*32) (v8 d)).cell? ⟨K,0,none⟩=some (.slice (some ⟨D,0,none⟩) n n):=by
        have:=World.rangeAt_setCells_apart (b':=K) (o':=0) (cs:=[.slice (some ⟨D,0,none⟩) n n]) (w:=w8) (fun j v hv=>by
          match j,hv with
          |0,hv=>simp at hv;subst hv;exact hS) D (k*32) (v8 d) (Or.inl (by omega))
        exact this 0 _ rfl
      have hbn:=World.rangeAt_setCells_apart hb8 D (k*32) (v8 d) (Or.inl (by omega))
      have hTn:=World.there_setCells hT8 D (k*32) (v8 d)
      have hBn:=zi hwD (v8 d) (k*32) w8 hB8
      have hRp:∀j,j<k→(w8.setCells D (k*32) (v8 d)).rangeAt D (j*32) (v8 (keyOf seed j)):=fun j hj=>World.rangeAt_setCells_apart (hR8 j hj) D (k*32) (v8 d) (Or.inr (Or.inl (by rw[v8_length,zdr];omega)))
      have hln:b<(w8.setCells D (k*32) (v8 d)).heap.size:=by rw[zH];exact hl8
      refine zU (i:=11) (w':=w8.setCells D (k*32) (v8 d)) rfl (by kernel_rfl) (by rfl) (zbg rfl rfl rfl hst) rfl hSn ?_
      refine zE (by kernel_rfl) ?_
      generalize w8.setCells D (k*32) (v8 d)=w9 at *
      clear hst hTk hTk' hS hb8 hT8 hR8
      have HRn:=hide hRn
      have HRp:=hide hRp
      clear hRn hRp
      go_wp2_with fail
      go_roundw
      case rel=>
        refine⟨k+1,by omega,by go_num,hSn,hTn,fun j hj=>?_,hbn,hln,hBn⟩
        rcases Nat.lt_or_eq_of_le (Nat.lt_succ_iff.1 hj)with h|rfl
        · exact HRp.out j h
        · rw[hd.out];exact HRn.out
      case measure=>simp[intOf];omega
    · obtain rfl:k=n:=by omega
      have HR:=hide hR
      clear hR
      have hKs:K<wr.heap.size:=World.block_lt_of_cell? wr _ hK
      have hDs:D<wr.heap.size:=by omega
      go_wp2
      go_ret
      refine⟨_,rfl,by simp,.inr ⟨K,_,_,rfl,hKs,by rw[zdq];exact hK,by rw[zdq];exact hn2,fun d hd=>?_,.inr ⟨D,rfl,hDs,fun i d hi=>?_⟩⟩,hB⟩
      · obtain⟨i,_,rfl⟩:=List.mem_map.1 hd
        exact⟨zdr _ _,zjs _ _⟩
      · obtain⟨hi',rfl⟩:=zjq seed k i d hi
        exact HR.out i hi'
def checkOf (r:List Int ×Int) (t:List Int):Bool:=(r.2==0)&&(r.1==t)
theorem zic (seed:ByteArray) (n:Int) (w:World) (h1:¬n<1) (h2:¬4096<n) (h3:seed.size≤64):
  Calls prog 26 #[.string seed,.int .i64 n] w fun e w'=>e=.returned (.tuple #[.agg #[.string seed,.int .i64 n],.bool true])∧Below w.heap.size w w':=by
 have h3':¬(64:Int)<seed.size:=by omega
 go_enter func26,ntmps26
 go_wp2
 exact bodyPost_ret (v:=.tuple #[.agg #[.string seed,.int .i64 n],.bool true]) (by simp[results,results26,go_sem]) rfl ⟨rfl,(Below.refl _ _).alloc (Nat.le_refl _) _⟩
end Go.Proofs.YtcbpbkefggekmaaGreatDoor.Qs
