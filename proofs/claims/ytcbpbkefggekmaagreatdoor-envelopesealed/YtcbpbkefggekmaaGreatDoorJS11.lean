/- messages that are not too much; a good message that is not too much is fine; the reader's tags and digests; A region that draws its order: what only reads is ta -/
import Derived.Test.YtcbpbkefggekmaaGreatDoorJS0
import Derived.Test.YtcbpbkefggekmaaGreatDoorJS10
import Derived.Test.YtcbpbkefggekmaaGreatDoorJS8
import Derived.Deep.Cut
import Derived.Deep.DeepCutAuto
import Derived.Test.YtcbpbkefggekmaaGreatDoorJS4
import Derived.WalkKit
import Derived.Deep.RegionHeld3
set_option maxHeartbeats 1600000
set_option maxRecDepth 100000
open Go.Proofs.Tryz
namespace Go.Proofs.YtcbpbkefggekmaaGreatDoor
open Go.RowKit
open Sha Tal
set_option linter.unusedVariables false
set_option linter.unusedSimpArgs false
def wtE (xs:List Ev):Nat:=(xs.map fun g=>g.s.size).sum
theorem zia (xs:List Ev) (k:Nat) (hk:k<xs.length):wtE (xs.take (k+1))=wtE (xs.take k)+xs[k].s.size:=by
 unfold wtE
 rw[List.take_succ_eq_append_getElem hk]
 simp only[List.map_append,List.map_cons,List.map_nil,List.sum_append,List.sum_cons,List.sum_nil]
 omega
def Mg.light (m:Mg):Prop:=m.st.size≤6000∧m.cs.xs.length≤100∧wtE m.ne.xs≤6000
def LightS (m:Mg) (w:World) (e:Ending) (w':World):Prop:=∃b:Bool,e=.returned (.bool b)∧Below w.heap.size w w'∧(b=true→m.light)
theorem zfL (q:Bool) (a:Option Addr) (n c:Nat) (w:World):(Instr.buildSlice 148 1 #[(0,.agg #[.bool q,.slice a n c])]).run prog w=.ok (.slice (some ⟨w.heap.size,0,none⟩) 1 1) (w.alloc (.cells #[.bool q,.slice a n c] 39)):=by kernel_rfl
theorem zgK (q:Bool) (x:Sl Rq) (w:World) (hx:x.At RqE w):Calls prog 55 #[.slice (some ⟨w.heap.size,0,none⟩) 1 1] (w.alloc (.cells #[.bool q,.slice x.a x.xs.length x.cap] 39)) fun e w'=>∃b:Bool,e=.returned (.bool b)∧Below w.heap.size w w':=by
 have hB:Below w.heap.size w (w.alloc (.cells #[.bool q,.slice x.a x.xs.length x.cap] 39)):=(Below.refl _ _).alloc (Nat.le_refl _) _
 have hR:=zC w #[.bool q,.slice x.a x.xs.length x.cap] 39
 have c:=zk5 w.heap.size 1 [⟨q,x.a,x.cap,x.xs.map BRq.of⟩] _ ⟨by simp,fun y hy=>by
  simp only[List.mem_singleton]at hy
  subst hy
  exact⟨zfX (Sl.At.below hx hB),trivial,trivial⟩,by simp,by simpa [Bat.cells]using hR⟩
 refine c.mono ?_
 rintro e w' (⟨rfl,hb⟩|⟨rfl,hb,-⟩)
 ·exact⟨false,rfl,hB.trans (hb.mono hB.size)⟩
 ·exact⟨true,rfl,hB.trans (hb.mono hB.size)⟩
def zaX (n m:Int):Int:=if n+m≤6000 then n+m else 6001
theorem znx (n m:Int) (w:World) (h0:0≤n) (h1:n≤6001) (h2:0≤m) (h3:m≤9223372036854775807):
  Calls prog 56 #[.int .i64 n,.int .i64 m,.int .i64 6000] w fun e w'=>e=.returned (.int .i64 (zaX n m))∧w'=w:=by
 by_cases c1:6000<n
 ·have HA:Hid (zaX n m=6001):=by show _=_;unfold zaX;rw[if_neg (by omega)]
  rw[HA.out]
  go_enter func56,ntmps56
  go_wp2
  go_ret
  exact⟨rfl,rfl⟩
 ·by_cases c2:6000<m
  ·have HA:Hid (zaX n m=6001):=by show _=_;unfold zaX;rw[if_neg (by omega)]
   rw[HA.out]
   go_enter func56,ntmps56
   go_wp2
   go_ret
   exact⟨rfl,rfl⟩
  ·by_cases c3:6000 - m<n
   ·have HA:Hid (zaX n m=6001):=by show _=_;unfold zaX;rw[if_neg (by omega)]
    rw[HA.out]
    go_enter func56,ntmps56
    go_wp2
    go_ret
    exact⟨rfl,rfl⟩
   ·have HA:Hid (zaX n m=n+m):=by show _=_;unfold zaX;rw[if_pos (by omega)]
    rw[HA.out]
    go_enter func56,ntmps56
    go_wp2
    go_ret
    exact⟨rfl,rfl⟩
theorem zk6 (m:Mg) (w:World) (om:m.ok) (am:m.At w):Calls prog 21 #[.agg m.ms.cells.toArray] w fun e w'=>LightS m w e w':=by
 obtain⟨ha,hha⟩:∃a,Hid (m.he.a=a):=⟨_,hide rfl⟩
 obtain⟨na,hna⟩:∃a,Hid (m.ne.a=a):=⟨_,hide rfl⟩
 have hhe:∀w',Below w.heap.size w w'→RowsAt HdE w' ha m.he.xs:=fun w' h=>by rw[←hha.out];exact(am.he.below h).1
 have hne:∀w',Below w.heap.size w w'→RowsAt EvE w' na m.ne.xs:=fun w' h=>by rw[←hna.out];exact am.ne.below h
 have hat:∀{w':World} {b:Nat},w'.rangeAt b 0 m.ms.cells→m.ms.at w' b:=fun hr=>om.ms.at hr
 obtain⟨q,hq⟩:∃q,Hid (m.ms.cells=q):=⟨_,hide rfl⟩
 rw[hq.out]
 simp only[hq.out]at hat
 clear hq
 obtain⟨p1,hp1⟩:∃p,Hid (decide (6000<(m.st.size:Int))=p):=⟨_,hide rfl⟩
 obtain⟨p2,hp2⟩:∃p,Hid (decide (100<(m.sg.xs.length:Int))=p):=⟨_,hide rfl⟩
 obtain⟨p3,hp3⟩:∃p,Hid (decide (100<(m.cs.xs.length:Int))=p):=⟨_,hide rfl⟩
 obtain⟨p4,hp4⟩:∃p,Hid (decide (20<(m.he.xs.length:Int))=p):=⟨_,hide rfl⟩
 obtain⟨p5,hp5⟩:∃p,Hid (decide (100<(m.ne.xs.length:Int))=p):=⟨_,hide rfl⟩
 obtain⟨hB1,hR1,hs1⟩:=zA w q 52
 go_enter func21,ntmps21
 go_upto_region 1 with fail
 obtain⟨W,hW⟩:∃W,w.alloc (.cells q.toArray 52)=W:=⟨_,rfl⟩
 rw[hW]at hB1 hR1 hs1 ⊢
 clear hW
 have MA:=hat hR1
 have rB:=zkP MA
 have aR:=am.rs.below hB1
 have c117:W.cell? ⟨w.heap.size,117,none⟩=some (.string m.st):=MA.st
 have c118:W.cell? ⟨w.heap.size,118,none⟩=some (.slice m.sg.a m.sg.xs.length m.sg.cap):=MA.sg
 have c46:W.cell? ⟨w.heap.size,46,none⟩=some (.slice ha m.he.xs.length m.he.cap):=by rw[←hha.out];exact MA.he
 have c47:W.cell? ⟨w.heap.size,47,none⟩=some (.slice na m.ne.xs.length m.ne.cap):=by rw[←hna.out];exact MA.ne
 have c116:W.cell? ⟨w.heap.size,116,none⟩=some (.slice m.cs.a m.cs.xs.length m.cs.cap):=MA.ct 36 _ (by rw[List.getElem?_append_right (by show m.ct.cells.length≤36;rw[om.ct.len];exact Nat.le_refl _)];show[m.cs.val][36 - m.ct.cells.length]? =_;rw[om.ct.len];rfl)
 have hhl:=(hhe W hB1).1
 have hnl:=(hne W hB1).1
 unfold maxLen at hhl hnl
 clear MA hha hna
 refine pl_b ?_
 refine pl_a 8 ?_
 refine pl_v 9 (.agg ([.bool m.q,m.rs.val]:List Value).toArray) (zm rfl rfl rB underlying39 rfl iszBa) ?_
 refine pl_r 10 (.slice (some ⟨W.heap.size,0,none⟩) 1 1) (W.alloc (.cells #[.bool m.q,.slice m.rs.a m.rs.xs.length m.rs.cap] 39)) (zav rfl rfl (zfL _ _ _ _ _)) ?_
 refine pl_c 11 ?_
 refine(zgK m.q m.rs W aR).mono ?_
 rintro _ w9 ⟨b0,rfl,HS⟩
 refine⟨_,rfl,?_⟩
 simp only[nz]
 cases b0
 ·refine pl_a 12 ?_
  refine pl_a 13 ?_
  refine pl_k 14 ?_
  refine pl_k 15 ?_
  refine pl_k 16 ?_
  refine pl_k 17 ?_
  refine pl_a 18 ?_
  refine pl_a 19 ?_
  refine pl_k 20 ?_
  refine pl_k 21 ?_
  refine pl_k 22 ?_
  refine pl_k 23 ?_
  refine pl_a 24 ?_
  refine pl_a 25 ?_
  refine pl_k 26 ?_
  refine pl_k 27 ?_
  refine pl_k 28 ?_
  refine pl_k 29 ?_
  refine pl_k 30 ?_
  refine pl_a 31 ?_
  refine pl_a 32 ?_
  refine pl_k 33 ?_
  refine pl_k 34 ?_
  refine pl_k 35 ?_
  refine pl_k 36 ?_
  refine pl_k 37 ?_
  refine pl_a 38 ?_
  refine pl_a 39 ?_
  refine pl_k 40 ?_
  refine pl_k 41 ?_
  refine pl_k 42 ?_
  refine pl_k 43 ?_
  refine pl_a 44 ?_
  refine zb ?_
  go_wp2_with fail
  go_ret
  exact⟨false,rfl,hB1.trans (HS.mono hB1.size),fun h=>by cases h⟩
 ·refine pl_a 12 ?_
  refine pl_a 13 ?_
  refine pl_a 14 ?_
  refine pl_v 15 (.string m.st) (zf rfl rfl ((HS.cell (p:=⟨w.heap.size,117,none⟩) hs1).trans c117) underlying9 rfl) ?_
  refine pl_a 16 ?_
  refine pl_v 17 (.bool p1) (by rw[←hp1.out];go_simp) ?_
  cases p1
  ·refine pl_a 18 ?_
   refine pl_a 19 ?_
   refine pl_a 20 ?_
   refine pl_v 21 (.slice m.sg.a m.sg.xs.length m.sg.cap) (zf rfl rfl ((HS.cell (p:=⟨w.heap.size,118,none⟩) hs1).trans c118) underlying48 rfl) ?_
   refine pl_a 22 ?_
   refine pl_v 23 (.bool p2) (by rw[←hp2.out];go_simp) ?_
   cases p2
   ·refine pl_a 24 ?_
    refine pl_a 25 ?_
    refine pl_a 26 ?_
    refine pl_a 27 ?_
    refine pl_v 28 (.slice m.cs.a m.cs.xs.length m.cs.cap) (zf rfl rfl ((HS.cell (p:=⟨w.heap.size,116,none⟩) hs1).trans c116) underlying48 rfl) ?_
    refine pl_a 29 ?_
    refine pl_v 30 (.bool p3) (by rw[←hp3.out];go_simp) ?_
    cases p3
    ·refine pl_a 31 ?_
     refine pl_a 32 ?_
     refine pl_a 33 ?_
     refine pl_a 34 ?_
     refine pl_v 35 (.slice ha m.he.xs.length m.he.cap) (zf rfl rfl ((HS.cell (p:=⟨w.heap.size,46,none⟩) hs1).trans c46) underlying44 rfl) ?_
     refine pl_a 36 ?_
     refine pl_v 37 (.bool p4) (by rw[←hp4.out];go_simp) ?_
     cases p4
     ·refine pl_a 38 ?_
      refine pl_a 39 ?_
      refine pl_a 40 ?_
      refine pl_v 41 (.slice na m.ne.xs.length m.ne.cap) (zf rfl rfl ((HS.cell (p:=⟨w.heap.size,47,none⟩) hs1).trans c47) underlying47 rfl) ?_
      refine pl_a 42 ?_
      refine pl_v 43 (.bool p5) (by rw[←hp5.out];go_simp) ?_
      cases p5
      ·refine pl_a 44 ?_
       refine zb ?_
       obtain⟨V,hVV⟩:∃V,w9=V:=⟨_,rfl⟩
       rw[hVV]at HS ⊢
       clear hVV
       have hst:m.st.size≤6000:=by have:=of_decide_eq_false hp1.out;omega
       have hcs:m.cs.xs.length≤100:=by have:=of_decide_eq_false hp3.out;omega
       have hBV:=hB1.trans (HS.mono hB1.size)
       have hRV:=za hR1 HS hs1
       have cH:=(HS.cell (p:=⟨w.heap.size,46,none⟩) hs1).trans c46
       have cNV:=(HS.cell (p:=⟨w.heap.size,47,none⟩) hs1).trans c47
       have hsV:=Nat.lt_of_lt_of_le hs1 HS.size
       clear hp1 hp2 hp3 hp4 hp5 c117 c118 c116 c46 c47 rB aR hB1 hR1 HS
       obtain⟨zh,hzl,hzh⟩:=zeroHd
       go_upto_region 4 with fail
       refine pl_b ?_
       refine pl_a 45 ?_
       refine pl_a 46 ?_
       refine pl_v 47 (.slice ha m.he.xs.length m.he.cap) (zf rfl rfl cH underlying44 rfl) ?_
       refine pl_a 48 ?_
       refine pl_a 49 ?_
       refine zb ?_
       have HK0:Hid (Below V.heap.size V V):=hide (Below.refl _ _)
       go_wp2_with fail
       go_loopw [49] (fun iv wr=>∃k:Nat,k≤m.he.xs.length∧iv=.int .i64 (k:Int)∧Hid (Below V.heap.size V wr)) (fun iv _=>m.he.xs.length - (intOf iv).toNat)
       case atStart=>exact⟨0,by omega,rfl,HK0⟩
       case round=>
        clear HK0
        obtain⟨k,hk,rfl,HK⟩:=hrel
        have hBr:=HK.out
        clear HK
        have hBw:=hBV.trans (hBr.mono hBV.size)
        by_cases hlt:k<m.he.xs.length
        ·have k1:(k:Int)<m.he.xs.length:=by omega
         have hgat:=(am.he.below hBw).2 _ (List.getElem_mem hlt)
         have hok:=(hhe wr hBw).2.1 _ (List.getElem_mem hlt)
         obtain⟨b,off,rfl,hbb,hre⟩:=RowsAt.elem (hhe wr hBw) k hlt
         have hre:wr.rangeAt b (off+k*39) (HdE.f m.he.xs[k]):=hre
         have hiq:(prog.info? 113).map (·.size)=some (HdE.f m.he.xs[k]).length:=by rw[HdE.len _ hok];exact iszH
         have hq1:=HdE.one m.he.xs[k]
         have hql:(HdE.f m.he.xs[k]).length=39:=HdE.len _ hok
         obtain⟨g,hgg⟩:∃g,Hid (m.he.xs[k]=g):=⟨_,hide rfl⟩
         rw[hgg.out]at hre hiq hq1 hql hok hgat
         clear hgg
         have hok:g.vt.ok:=hok
         obtain⟨q1,hqq⟩:∃q,Hid (HdE.f g=q):=⟨_,hide rfl⟩
         rw[hqq.out]at hre hiq hq1 hql
         go_upto_region 6 with fail
         refine pl_b ?_
         refine pl_a 51 ?_
         refine pl_v 52 (.agg q1.toArray) (zm rfl rfl hre underlying113 rfl hiq) ?_
         refine pl_r 5 (.pointer (some ⟨wr.heap.size,0,none⟩)) (wr.alloc (.cells zh.toArray 113)) (zr rfl (hzh _)) ?_
         refine pl_s ((wr.alloc (.cells zh.toArray 113)).setCells wr.heap.size 0 q1) (zo (cs:=q1.toArray) rfl rfl rfl (zn _ _ _ (by simp[hzl,hql])) (by simpa using hiq) (zp hq1)) ?_
         refine zb ?_
         obtain⟨hF1,hF2,hF3,-⟩:=zq wr zh.toArray 113 q1 (by simp[hzl,hql])
         have hs5:wr.heap.size<((wr.alloc (.cells zh.toArray 113)).setCells wr.heap.size 0 q1).heap.size:=by rw[zB];simp
         obtain⟨w5,hw5⟩:∃W,(wr.alloc (.cells zh.toArray 113)).setCells wr.heap.size 0 q1=W:=⟨_,rfl⟩
         rw[hw5]at hF1 hF2 hF3 hs5 ⊢
         clear hw5
         rw[←hqq.out]at hF1
         have hF1:w5.rangeAt wr.heap.size 0 g.cells:=hF1
         have rG:=(zgZ hok hF1).1
         have rGc:=(zgZ hok hF1).2
         have cg:w5.cell? ⟨wr.heap.size,38,none⟩=some (.slice g.sg.a g.sg.xs.length g.sg.cap):=rGc 36 _ (by unfold certL;rw[List.getElem?_append_right (by rw[hok.len];exact Nat.le_refl _),hok.len];rfl)
         have hV5:=hBr.trans (hF2.mono hBr.size)
         have hB5:=hBw.trans (hF2.mono hBw.size)
         have aG:=hgat.1.below hF2
         obtain⟨p6,hp6⟩:∃p,Hid (decide (100<(g.sg.xs.length:Int))=p):=⟨_,hide rfl⟩
         clear hqq hF1 hF2 hF3 hre hiq hq1 hql hBr hgat rGc
         go_upto_region 7 with fail
         refine pl_b ?_
         refine pl_a 53 ?_
         refine pl_v 54 (.agg ([.bool g.q,g.rs.val]:List Value).toArray) (zm rfl rfl rG underlying39 rfl iszBa) ?_
         refine pl_r 55 (.slice (some ⟨w5.heap.size,0,none⟩) 1 1) (w5.alloc (.cells #[.bool g.q,.slice g.rs.a g.rs.xs.length g.rs.cap] 39)) (zav rfl rfl (zfL _ _ _ _ _)) ?_
         refine pl_c 56 ?_
         refine(zgK g.q g.rs w5 aG).mono ?_
         rintro _ w9 ⟨b0,rfl,HS⟩
         refine⟨_,rfl,?_⟩
         simp only[nz]
         cases b0
         ·refine pl_a 57 ?_
          refine pl_a 58 ?_
          refine pl_k 59 ?_
          refine pl_k 60 ?_
          refine pl_k 61 ?_
          refine pl_k 62 ?_
          refine pl_k 63 ?_
          refine pl_a 64 ?_
          refine zb ?_
          go_wp2_with fail
          go_ret
          exact⟨false,rfl,hB5.trans (HS.mono hB5.size),fun h=>by cases h⟩
         ·refine pl_a 57 ?_
          refine pl_a 58 ?_
          refine pl_a 59 ?_
          refine pl_a 60 ?_
          refine pl_v 61 (.slice g.sg.a g.sg.xs.length g.sg.cap) (zf rfl rfl ((HS.cell (p:=⟨wr.heap.size,38,none⟩) hs5).trans cg) underlying48 rfl) ?_
          refine pl_a 62 ?_
          refine pl_v 63 (.bool p6) (by rw[←hp6.out];go_simp) ?_
          cases p6
          ·refine pl_a 64 ?_
           refine zb ?_
           have HN:Hid (Below V.heap.size V w9):=hide (hV5.trans (HS.mono hV5.size))
           clear HS hV5 hB5 cg aG rG
           go_wp2_with fail
           go_roundw
           case rel=>exact⟨k+1,by omega,by go_num,HN⟩
           case measure=>simp[intOf];omega
          ·refine pl_a 64 ?_
           refine zb ?_
           go_wp2_with fail
           go_ret
           exact⟨false,rfl,hB5.trans (HS.mono hB5.size),fun h=>by cases h⟩
        ·obtain rfl:k=m.he.xs.length:=by omega
         have cN:=(hBr.cell (p:=⟨w.heap.size,47,none⟩) hsV).trans cNV
         clear hzl hzh zh cH cNV hRV
         obtain⟨U,hUU⟩:∃U,wr=U:=⟨_,rfl⟩
         rw[hUU]at hBr hBw cN ⊢
         clear hUU
         have hBU:=hBw
         obtain⟨ze,hzel,hze⟩:=zeroEv
         go_upto_region 10 with fail
         refine pl_b ?_
         refine pl_a 66 ?_
         refine pl_v 67 (.slice na m.ne.xs.length m.ne.cap) (zf rfl rfl cN underlying47 rfl) ?_
         refine pl_a 68 ?_
         refine pl_a 69 ?_
         refine zb ?_
         have HE0:Hid (wtE (m.ne.xs.take 0)≤6000∧Below U.heap.size U U):=hide ⟨by simp[wtE],Below.refl _ _⟩
         go_wp2_with fail
         go_loopw [3,69] (fun nv iv wr=>∃k:Nat,k≤m.ne.xs.length∧iv=.int .i64 (k:Int)∧nv=.int .i64 (wtE (m.ne.xs.take k):Int)∧Hid (wtE (m.ne.xs.take k)≤6000∧Below U.heap.size U wr)) (fun _ iv _=>m.ne.xs.length - (intOf iv).toNat)
         case atStart=>exact⟨0,by omega,rfl,by simp[wtE],HE0⟩
         case round=>
          clear HE0
          obtain⟨k,hk,rfl,rfl,HK⟩:=hrel
          obtain⟨hwk,hBr⟩:=HK.out
          clear HK
          have hBw:=hBU.trans (hBr.mono hBU.size)
          by_cases hlt:k<m.ne.xs.length
          ·have k1:(k:Int)<m.ne.xs.length:=by omega
           have HW:=hide (zia m.ne.xs k hlt)
           have hok:=(hne wr hBw).2.1 _ (List.getElem_mem hlt)
           obtain⟨b,off,rfl,hbb,hre⟩:=RowsAt.elem (hne wr hBw) k hlt
           have hre:wr.rangeAt b (off+k*18) (EvE.f m.ne.xs[k]):=hre
           have hiq:(prog.info? 25).map (·.size)=some (EvE.f m.ne.xs[k]).length:=by rw[EvE.len _ hok];exact iszEv
           have hq1:=EvE.one m.ne.xs[k]
           have hql:(EvE.f m.ne.xs[k]).length=18:=EvE.len _ hok
           have hsl:m.ne.xs[k].s.size≤maxLen:=hok.sl
           unfold maxLen at hsl
           obtain⟨g,hgg⟩:∃g,Hid (m.ne.xs[k]=g):=⟨_,hide rfl⟩
           rw[hgg.out]at hre hiq hq1 hql HW hsl
           clear hgg hok
           obtain⟨q1,hqq⟩:∃q,Hid (EvE.f g=q):=⟨_,hide rfl⟩
           rw[hqq.out]at hre hiq hq1 hql
           go_upto_region 12 with fail
           refine pl_b ?_
           refine pl_a 71 ?_
           refine pl_v 72 (.agg q1.toArray) (zm rfl rfl hre underlying25 rfl hiq) ?_
           refine pl_r 7 (.pointer (some ⟨wr.heap.size,0,none⟩)) (wr.alloc (.cells ze.toArray 25)) (zr rfl (hze _)) ?_
           refine pl_s ((wr.alloc (.cells ze.toArray 25)).setCells wr.heap.size 0 q1) (zo (cs:=q1.toArray) rfl rfl rfl (zn _ _ _ (by simp[hzel,hql])) (by simpa using hiq) (zp hq1)) ?_
           refine zb ?_
           obtain⟨hF1,hF2,hF3,-⟩:=zq wr ze.toArray 25 q1 (by simp[hzel,hql])
           obtain⟨w5,hw5⟩:∃W,(wr.alloc (.cells ze.toArray 25)).setCells wr.heap.size 0 q1=W:=⟨_,rfl⟩
           rw[hw5]at hF1 hF2 hF3 ⊢
           clear hw5
           rw[←hqq.out]at hF1
           have cgs:w5.cell? ⟨wr.heap.size,1,none⟩=some (.string g.s):=by have:=hF1 1 _ rfl;exact this
           have hU5:=hBr.trans (hF2.mono hBr.size)
           clear hqq hF1 hF2 hF3 hre hiq hq1 hql hBr
           have cA:=fun w0=>znx (wtE (m.ne.xs.take k):Int) (g.s.size:Int) w0 (by omega) (by omega) (by omega) (by omega)
           obtain⟨p,hp⟩:∃p,Hid (zaX (wtE (m.ne.xs.take k):Int) (g.s.size:Int)=p):=⟨_,hide rfl⟩
           simp only[hp.out]at cA
           obtain⟨t1,ht1⟩:∃t,Hid (decide (6000<p)=t):=⟨_,hide rfl⟩
           go_upto_region 13 with fail
           refine pl_b ?_
           refine pl_a 73 ?_
           refine pl_a 74 ?_
           refine pl_v 75 (.string g.s) (zf rfl rfl cgs underlying9 rfl) ?_
           refine pl_a 76 ?_
           refine pl_c 77 ?_
           refine(cA w5).mono ?_
           rintro _ w9 ⟨rfl,hx⟩
           obtain rfl:=hx.symm
           clear hx
           refine⟨_,rfl,?_⟩
           simp only[nz]
           refine pl_a 3 ?_
           refine zb ?_
           go_upto_region 14 with fail
           refine pl_b ?_
           refine pl_a 78 ?_
           refine pl_v 79 (.bool t1) (by rw[←ht1.out];go_simp) ?_
           refine zb ?_
           cases t1
           ·have hp6:p≤6000:=by have:=of_decide_eq_false ht1.out;omega
            have HP:Hid (p=(wtE (m.ne.xs.take (k+1)):Int)∧wtE (m.ne.xs.take (k+1))≤6000∧Below U.heap.size U w5):=by
             have h1:=hp.out
             have h2:=HW.out
             unfold zaX at h1
             split at h1
             ·exact hide ⟨by omega,by omega,hU5⟩
             ·omega
            clear hp ht1 HW cA cgs hU5 hp6
            go_wp2_with fail
            go_roundw
            case rel=>exact⟨k+1,by omega,by go_num,congrArg (Value.int .i64) HP.out.1,hide HP.out.2⟩
            case measure=>simp[intOf];omega
           ·have hB5:=hBU.trans (hU5.mono hBU.size)
            clear hp HW cA cgs
            go_wp2_with fail
            go_ret
            exact⟨false,rfl,hB5,fun h=>by cases h⟩
          ·obtain rfl:k=m.ne.xs.length:=by omega
           rw[List.take_length]at hwk
           have HF:Hid (LightS m w (.returned (.bool true)) wr):=hide ⟨true,rfl,hBw,fun _=>⟨hst,hcs,hwk⟩⟩
           go_wp2_with fail
           go_ret
           exact HF.out
      ·refine pl_a 44 ?_
       refine zb ?_
       go_wp2_with fail
       go_ret
       exact⟨false,rfl,hB1.trans (HS.mono hB1.size),fun h=>by cases h⟩
     ·refine pl_a 38 ?_
      refine pl_a 39 ?_
      refine pl_k 40 ?_
      refine pl_k 41 ?_
      refine pl_k 42 ?_
      refine pl_k 43 ?_
      refine pl_a 44 ?_
      refine zb ?_
      go_wp2_with fail
      go_ret
      exact⟨false,rfl,hB1.trans (HS.mono hB1.size),fun h=>by cases h⟩
    ·refine pl_a 31 ?_
     refine pl_a 32 ?_
     refine pl_k 33 ?_
     refine pl_k 34 ?_
     refine pl_k 35 ?_
     refine pl_k 36 ?_
     refine pl_k 37 ?_
     refine pl_a 38 ?_
     refine pl_a 39 ?_
     refine pl_k 40 ?_
     refine pl_k 41 ?_
     refine pl_k 42 ?_
     refine pl_k 43 ?_
     refine pl_a 44 ?_
     refine zb ?_
     go_wp2_with fail
     go_ret
     exact⟨false,rfl,hB1.trans (HS.mono hB1.size),fun h=>by cases h⟩
   ·refine pl_a 24 ?_
    refine pl_a 25 ?_
    refine pl_k 26 ?_
    refine pl_k 27 ?_
    refine pl_k 28 ?_
    refine pl_k 29 ?_
    refine pl_k 30 ?_
    refine pl_a 31 ?_
    refine pl_a 32 ?_
    refine pl_k 33 ?_
    refine pl_k 34 ?_
    refine pl_k 35 ?_
    refine pl_k 36 ?_
    refine pl_k 37 ?_
    refine pl_a 38 ?_
    refine pl_a 39 ?_
    refine pl_k 40 ?_
    refine pl_k 41 ?_
    refine pl_k 42 ?_
    refine pl_k 43 ?_
    refine pl_a 44 ?_
    refine zb ?_
    go_wp2_with fail
    go_ret
    exact⟨false,rfl,hB1.trans (HS.mono hB1.size),fun h=>by cases h⟩
  ·refine pl_a 18 ?_
   refine pl_a 19 ?_
   refine pl_k 20 ?_
   refine pl_k 21 ?_
   refine pl_k 22 ?_
   refine pl_k 23 ?_
   refine pl_a 24 ?_
   refine pl_a 25 ?_
   refine pl_k 26 ?_
   refine pl_k 27 ?_
   refine pl_k 28 ?_
   refine pl_k 29 ?_
   refine pl_k 30 ?_
   refine pl_a 31 ?_
   refine pl_a 32 ?_
   refine pl_k 33 ?_
   refine pl_k 34 ?_
   refine pl_k 35 ?_
   refine pl_k 36 ?_
   refine pl_k 37 ?_
   refine pl_a 38 ?_
   refine pl_a 39 ?_
   refine pl_k 40 ?_
   refine pl_k 41 ?_
   refine pl_k 42 ?_
   refine pl_k 43 ?_
   refine pl_a 44 ?_
   refine zb ?_
   go_wp2_with fail
   go_ret
   exact⟨false,rfl,hB1.trans (HS.mono hB1.size),fun h=>by cases h⟩
theorem zdk {α:Type} {f:α→List Int} {K:Nat}:∀(xs:List α),(∀x∈xs,(f x).length≤K)→(xs.flatMap f).length≤xs.length*K
  |[],_=>by simp
  |x::xs,h=>by
    have h1:=h x (by simp)
    have h2:=zdk xs (fun y hy=>h y (by simp[hy]))
    simp only[List.flatMap_cons,List.length_append,List.length_cons,Nat.add_mul,Nat.one_mul]
    omega
theorem zbE {n m:Int} (h:inB n m=true):0≤n∧n≤m:=by
 unfold inB at h
 exact of_decide_eq_true h
theorem zeF {q:Bool} {x:Sl Rq} (h:batMay q x=true):x.xs.length≤4∧∀r∈x.xs,r.s.size≤64:=by
 unfold batMay at h
 split at h
 ·have:=of_decide_eq_true h
  have e:x.xs=[]:=List.eq_nil_of_length_eq_zero this
  rw[e]
  simp
 ·unfold mayL at h
  rw[Bool.and_eq_true]at h
  have h1:=of_decide_eq_true h.1
  refine⟨by omega,fun r hr=>?_⟩
  have h2:=List.all_eq_true.1 h.2 r hr
  unfold Rq.may at h2
  rw[Bool.and_eq_true,Bool.and_eq_true]at h2
  have:=of_decide_eq_true h2.2.2
  omega
theorem zjR {r:Rq} (h:r.ok) (hs:r.s.size≤64):(BRq.of r).bytes.length≤120:=by
 have h1:=zah r.c h.ch
 have h2:=zah r.n h.nh
 have h3:=zah (r.s.size:Int) (by omega)
 have h4:=h.tl
 simp only[BRq.of,BRq.bytes,textL,List.length_append,zN]
 omega
theorem zhO {q:Bool} {x:Sl Rq} {w:World} (hx:x.At RqE w) (hm:batMay q x=true):(batL q (x.xs.map BRq.of)).length≤500:=by
 obtain⟨h1,h2⟩:=zeF hm
 unfold batL
 split
 ·have:=zah 0 (by omega);omega
 ·have k:=zdk (f:=BRq.bytes) (K:=120) (x.xs.map BRq.of) (fun y hy=>by
   obtain⟨r,hr,rfl⟩:=List.mem_map.1 hy
   exact zjR (hx.2.1 r hr) (h2 r hr))
  rw[List.length_map]at k
  have p:=zah (((x.xs.map BRq.of).length:Int)+1) (by rw[List.length_map];omega)
  rw[List.length_append]
  omega
theorem zfz {xs:List Sg} (h:∀g∈xs,g.ok) (hn:xs.length≤100):(sgsL xs).length≤2600:=by
 have k:=zdk (f:=sgL) (K:=25) xs (fun g hg=>by
  have h1:=zah g.n (h g hg).nh
  have h2:=(h g hg).tl
  unfold sgL
  rw[List.length_append]
  omega)
 have p:=zah (xs.length:Int) (by omega)
 unfold sgsL
 rw[List.length_append]
 omega
theorem ze5 {x:Vt} (h:x.ok):(vtL x).length≤68:=by
 have h1:=zah x.k h.k
 have h2:=zah x.e h.e
 have h3:=zah x.v h.v
 have h4:=zah x.s h.s
 have h5:=h.dl
 simp only[vtL,List.flatMap_cons,List.flatMap_nil,List.append_nil,List.length_append]
 omega
theorem zhp {x:Vt} {xs:List Sg} (hx:x.ok) (h:∀g∈xs,g.ok) (hn:xs.length≤100):(ctL x xs).length≤2700:=by
 have h1:=ze5 hx
 have h2:=zfz h hn
 unfold ctL
 rw[List.length_append]
 omega
theorem zfB {x:Sl Sg} (h:sgsMay x=true):x.xs.length≤64:=by
 unfold sgsMay mayL at h
 rw[Bool.and_eq_true]at h
 have:=of_decide_eq_true h.1
 omega
theorem zlu {g:Hd} {w:World} (ho:g.vt.ok) (ha:g.At w) (hm:g.may=true):(hdL g).length≤3200∧g.sg.xs.length≤64∧g.rs.xs.length≤4∧∀r∈g.rs.xs,r.s.size≤64:=by
 unfold Hd.may certMay at hm
 rw[Bool.and_eq_true,Bool.and_eq_true]at hm
 obtain⟨h1,_,h3⟩:=hm
 have hs:=zfB h3
 have k1:=zhO ha.1 h1
 have k2:=zhp ho (ha.2.2.1) (by omega:g.sg.xs.length≤100)
 obtain⟨b1,b2⟩:=zeF h1
 refine⟨?_,hs,b1,b2⟩
 unfold hdL
 rw[List.length_append]
 omega
theorem zhh:∀(xs:List Ev),(∀g∈xs,g.ok)→(∀g∈xs,g.s.size≤6000)→(xs.flatMap evL).length≤xs.length*34+wtE xs
  |[],_,_=>by simp
  |x::xs,h,hs=>by
    have h2:=zhh xs (fun y hy=>h y (by simp[hy])) (fun y hy=>hs y (by simp[hy]))
    have h0:=h x (by simp)
    have h1:=zah x.n h0.nh
    have h4:=hs x (by simp)
    have h3:=zah (x.s.size:Int) (by omega)
    have h5:=h0.tl
    have hw:wtE (x::xs)=x.s.size+wtE xs:=by simp[wtE]
    rw[hw]
    simp only[List.flatMap_cons,List.length_append,List.length_cons,Nat.add_mul,Nat.one_mul,evL,textL,zN]
    omega
theorem zeU:∀{xs:List Ev} {g:Ev},g∈xs→g.s.size≤wtE xs
  |x::xs,g,h=>by
    have hw:wtE (x::xs)=x.s.size+wtE xs:=by simp[wtE]
    rcases List.mem_cons.1 h with rfl|h
    · omega
    · have:=zeU h;omega
theorem zg6 {m:Mg} {w:World} (om:m.ok) (am:m.At w) (hg:m.good=true) (hl:m.light):m.Fine:=by
 obtain⟨h1,h8⟩:=Mg.good_k hg
 obtain⟨l1,l2,l3⟩:=hl
 unfold Mg.good at hg
 rw[Bool.and_eq_true,Bool.and_eq_true]at hg
 have hm:=hg.2.2
 clear hg
 unfold Mg.may Mg.mayL chgMay at hm
 simp only[Bool.and_eq_true]at hm
 obtain⟨⟨a1,a2⟩,⟨a3,a4⟩,a5,a6,a7,⟨⟨c1,c2,c3⟩,c4⟩,a9,a10,a11⟩:=hm
 have e1:=zbE a1
 have e2:=zbE a2
 have e3:=zbE a3
 have e4:=zbE a4
 have e5:=zbE c1
 have e6:=zbE c2
 have e7:=zbE c3
 clear a1 a2 a3 a4 a5 a6 c1 c2 c3
 obtain⟨b1,b2⟩:=zeF a7
 have b3:=zhO am.rs a7
 have s1:=zfB a11
 have s2:=zfz am.sg.2.1 (by omega:m.sg.xs.length≤100)
 have s3:=zhp om.ct am.cs.2.1 l2
 unfold mayL at c4 a9
 rw[Bool.and_eq_true]at c4 a9
 have d1:=of_decide_eq_true c4.1
 have d2:=of_decide_eq_true a9.1
 have hh:=fun g (hgm:g∈m.he.xs)=>zlu (am.he.1.2.1 g hgm) (am.he.2 g hgm) (List.all_eq_true.1 c4.2 g hgm)
 have f1:=zdk (f:=hdL) (K:=3200) m.he.xs (fun g hgm=>(hh g hgm).1)
 have hs:=fun g (hgm:g∈m.ne.xs)=>Nat.le_trans (zeU hgm) l3
 have f2:=zhh m.ne.xs am.ne.2.1 hs
 have f3:=ze5 om.vt
 have p (n:Int) (hn:n≤9223372036854775807):=zah n hn
 have pk:=p m.k (by omega)
 have pe:=p m.e (by omega)
 have ps:=p m.s (by omega)
 have pl:=p m.l (by omega)
 have pv:=p m.v (by omega)
 have pc:=p m.ce (by omega)
 have pd:=p m.cl (by omega)
 have pf:=p m.cv (by omega)
 have ph:=p (m.he.xs.length:Int) (by omega)
 have pn:=p (m.ne.xs.length:Int) (by omega)
 have pt:=p (m.st.size:Int) (by omega)
 have dl:=om.dl
 refine⟨by omega,by omega,by omega,by omega,by omega,by omega,by omega,by omega,fun r hr=>by have:=b2 r hr;omega,by omega,fun g hgm=>?_,by omega,fun g hgm=>by have:=hs g hgm;omega,by omega,by omega,by omega,?_⟩
 ·obtain⟨_,q1,q2,q3⟩:=hh g hgm
  exact⟨by omega,by omega,fun r hr=>by have:=q3 r hr;omega⟩
 ·unfold Mg.bytes
  rw[List.length_append]
  have hk:m.body.length≤39000:=by
   unfold Mg.body
   split
   ·simp only[List.flatMap_cons,List.flatMap_nil,List.append_nil,List.length_append];omega
   split
   ·omega
   split
   ·simp only[hdsL,List.flatMap_cons,List.flatMap_nil,List.append_nil,List.length_append];omega
   split
   ·simp only[evsL,List.flatMap_cons,List.flatMap_nil,List.append_nil,List.length_append];omega
   split
   ·simp only[List.length_append];omega
   split
   ·simp only[List.flatMap_cons,List.flatMap_nil,List.append_nil,List.length_append];omega
   split
   ·simp only[List.length_append];omega
   ·simp only[textL,zN,List.length_append];omega
  omega
theorem zdV (R:Nat) (rest:List Int) (e n:Int) (w:World) (h:St w R rest e) (hl:rest.length≤40000):
  Calls prog 41 #[.pointer (some ⟨R,0,none⟩),.int .i64 n] w fun en w'=>∃v,en=.returned v∧Mine w' w.heap.size v (rawS rest e n).1∧St w' R (rawS rest e n).2.1 (rawS rest e n).2.2∧w.grownBy w' (some R):=by
 by_cases he:e=0
 ·subst he
  by_cases hn:n<0
  ·have HS:Hid (rawS rest 0 n=([],rest,2)):=by show _=_;unfold rawS;rw[if_pos rfl,if_pos hn]
   go_enter func41,ntmps41
   go_wp2_with fail
   refine(zaw R 0 w h.1).mono ?_
   rintro en w1 ⟨rfl,rfl⟩
   go_wp2_with fail
   refine(zcq R 0 2 w1 h.1).mono ?_
   rintro en w2 ⟨rfl,hE2,hg2⟩
   go_wp2_with fail
   go_ret
   rw[HS.out]
   exact⟨_,rfl,Mine.nil _ _,⟨hE2,fun h=>by cases h⟩,hg2⟩
  ·by_cases hf:(rest.length:Int)<n
   ·have HS:Hid (rawS rest 0 n=([],rest,10)):=by show _=_;unfold rawS;rw[if_pos rfl,if_neg hn,if_pos hf]
    go_enter func41,ntmps41
    go_wp2_with fail
    refine(zaw R 0 w h.1).mono ?_
    rintro en w1 ⟨rfl,rfl⟩
    go_wp2_with fail
    refine(zgC R rest n w1 h hf).mono ?_
    rintro en w2 ⟨rfl,hS2,hg2⟩
    have cc:=zez none 0 [] w2 (zaR w2) (by simp)
    simp only[List.length_nil]at cc
    go_wp2_with fail
    refine cc.mono ?_
    rintro en w3 ⟨v,rfl,hm,hb⟩
    go_wp2_with fail
    go_ret
    rw[HS.out]
    exact⟨_,rfl,hm.mono' hg2.size,hS2.below hb,zJ hg2 (zba hb _)⟩
   ·have HS:Hid (rawS rest 0 n=(rest.take n.toNat,rest.drop n.toNat,0)):=by show _=_;unfold rawS;rw[if_pos rfl,if_neg hn,if_neg hf]
    go_enter func41,ntmps41
    go_wp2_with fail
    refine(zaw R 0 w h.1).mono ?_
    rintro en w1 ⟨rfl,rfl⟩
    go_wp2_with fail
    refine(zgB R rest n w1 h (by omega) (by omega)).mono ?_
    rintro en w2 ⟨a,cap,rfl,hca,hra,hS2,hg2⟩
    have cc:=zez a cap (rest.take n.toNat) w2 hra (by rw[List.length_take];omega)
    rw[List.length_take_of_le (by omega)]at cc
    go_wp2_with fail
    refine cc.mono ?_
    rintro en w3 ⟨v,rfl,hm,hb⟩
    go_wp2_with fail
    go_ret
    rw[HS.out]
    exact⟨_,rfl,hm.mono' hg2.size,hS2.below hb,zJ hg2 (zba hb _)⟩
 ·have HS:Hid (rawS rest e n=([],rest,e)):=by show _=_;unfold rawS;rw[if_neg he]
  have he':(e==0)=false:=by simpa using he
  go_enter func41,ntmps41
  go_wp2_with fail
  refine(zaw R e w h.1).mono ?_
  rintro en w1 ⟨rfl,rfl⟩
  go_wp2_with fail
  go_ret
  rw[HS.out]
  exact⟨_,rfl,Mine.nil _ _,h,zbp _ _⟩
theorem zac {w W W':World} {R B:Nat} (h:w.grownBy W (some R)) (hb:Below B W W') (hB:w.heap.size≤B):w.grownBy W' (some R):=
 ⟨hb.os.trans h.os,hb.tape.trans h.tape,hb.output.trans h.output,Nat.le_trans h.size hb.size,fun i hi hr=>(hb.block i (by omega)).trans (h.block i hi hr)⟩
theorem zau (W:World) (b:Nat):∀(vs:List Value) (o:Nat),W.grownBy (W.setCells b o vs) (some b):=by
  intro vs
  induction vs generalizing W with
  |nil=>intro o;exact zbp _ _
  |cons v vs ih=>intro o;exact zJ (zaD W b o v) (ih _ (o+1))
theorem zdZ {w w':World} {R b:Nat} {cs:List Value} (h:w.rangeAt b 0 cs) (hg:w.grownBy w' (some R)) (hb:b<w.heap.size) (hne:b≠R):w'.rangeAt b 0 cs:=fun j v hv=>by
 rw[(@zZ w w' b (0+j) (hg.block b hb (by intro q;injection q with q;exact hne q))).1]
 exact h j v hv
theorem zax {w w':World} {R b n:Nat} (h:w.there b 0 n) (hg:w.grownBy w' (some R)) (hb:b<w.heap.size) (hne:b≠R):w'.there b 0 n:=fun j hj=>by
 have hk:=@zZ w w' b (0+j) (hg.block b hb (by intro q;injection q with q;exact hne q))
 exact⟨by rw[hk.1];exact(h j hj).1,by rw[hk.2];exact(h j hj).2⟩
theorem zep {P:Program} {o:Oper} {a:Act} {w w':World} {s x:Operand} {t tx:TypeId} {v xv v':Value} (ho:o.op=.call {callee:=.builtin .copy,args:=#[s,x],argTypes:=#[t,tx]}) (hv:a.eval s=v) (hx:a.eval x=xv)
    (hr:(Builtin.copy_ #[t,tx] o.type #[v,xv]).run P w=.ok v' w'):(execOp a.eval o).run P w=.ok (.value v') w':=by
  unfold execOp
  simp only[ho,resolve,invoke,builtin,Sem.run_bind,Sem.run_pure,Result.andThen_ok,List.map_toArray,List.map_cons,List.map_nil,hv,hx,hr]
theorem zai (rest:List Int) (e most:Int):(numS rest e most).2.1.length≤rest.length:=by
 unfold numS
 split
 ·split
  ·split
   ·exact Nat.le_refl _
   ·show(rest.drop _).length≤_;rw[List.length_drop];omega
  ·exact Nat.le_refl _
 ·exact Nat.le_refl _
theorem zcL (rest:List Int) (e most:Int):(textS rest e most).2.1.length≤rest.length:=by
 have h:=zai rest e 9223372036854775807
 unfold textS
 split
 ·split
  ·exact Nat.le_refl _
  ·split
   ·exact Nat.le_refl _
   ·show((numS rest e 9223372036854775807).2.1.drop _).length≤_;rw[List.length_drop];omega
 ·exact Nat.le_refl _
def padN (n:Nat) (zs:List Int):List Int:=if zs.length=n then zs else List.replicate n 0
theorem zcU (rest:List Int) (e n:Int):(rawS rest e n).2.1.length≤rest.length:=by
 unfold rawS
 split
 ·split
  ·exact Nat.le_refl _
  ·split
   ·exact Nat.le_refl _
   ·show(rest.drop _).length≤_;rw[List.length_drop];omega
 ·exact Nat.le_refl _
theorem zcV (rest:List Int) (e:Int) (n:Nat):(rawS rest e n).1.length=n∨(rawS rest e n).1=[]:=by
 unfold rawS
 split
 ·split
  ·exact .inr rfl
  ·split
   ·exact .inr rfl
   ·left;show(rest.take _).length=n;rw[List.length_take];omega
 ·exact .inr rfl
theorem zhq {w:World} {B n:Nat} {a:Option Addr} {cap:Nat} {t:List Int} (h0:0<n) (hT:w.there B 0 n) (hz:w.rangeAt B 0 (v8 (List.replicate n (0:Int)))) (hrow:RowAt w a t) (ht:t.length=n∨t=[]):
  ∃w',(Builtin.copy_ #[59,59] 3 #[.slice (some ⟨B,0,none⟩) n n,.slice a t.length cap]).run prog w=.ok (goInt t.length) w'∧w'.rangeAt B 0 (v8 (padN n t))∧w'=w.setCells B 0 (v8 t):=by
 rcases ht with ht|rfl
 ·rcases hrow.2.2 with rfl|⟨b,off,rfl,hb,hr⟩
  ·exfalso;simp at ht;omega
  ·refine⟨_,?_,?_,rfl⟩
   ·have:=run_copy_cells (P:=prog) w 59 59 3 5 B 0 n n ⟨b,off,none⟩ t.length cap (v8 t) underlying59 isz8 (by rw[v8_length,ht];exact(Nat.min_self _).symm) (fun j v hv=>by rw[Addr.add_mid];exact hr j v hv) (fun j hj=>by rw[v8_length]at hj;exact(hT j (by omega)).1) (fun j hj=>by rw[v8_length]at hj;exact(hT j (by omega)).2) (zy _)
    rw[v8_length]at this
    exact this
   ·unfold padN
    rw[if_pos ht]
    exact World.rangeAt_setCells_same w B 0 (v8 t) (by rw[v8_length,ht];exact hT)
 ·refine⟨w,run_copy_none (P:=prog) w 59 59 3 5 _ a n n 0 cap underlying59 isz8 (by simp),?_,rfl⟩
  unfold padN
  rw[if_neg (by simp;omega)]
  exact hz
theorem zaV (n:Nat) (zs:List Int):(padN n zs).length=n:=by
 unfold padN
 split
 ·assumption
 ·simp
theorem zb8 {w w':World} {b n:Nat} (h:w.there b 0 n) (hb:Below w.heap.size w w') (hlt:b<w.heap.size):w'.there b 0 n:=zY h (hb.block b hlt)
theorem za5 {w:World} {b q o:Nat} {vs:List Value} (h:q≠b):(w.setCells b o vs).heap[q]? =w.heap[q]? :=by
 by_cases hq:q<w.heap.size
 ·exact(zau w b vs o).block q hq (by intro e;injection e with e;exact h e)
 ·have h1:w.heap.size≤q:=by omega
  rw[Array.getElem?_eq_none (by rw[zB];exact h1),Array.getElem?_eq_none h1]
theorem zfN (Q R:Nat) (z:Bool) (rest:List Int) (e:Int) (w:World) (h:St w R rest e) (hq:MrAt w Q R z) (hl:rest.length≤40000):Calls prog 157 #[.pointer (some ⟨Q,0,none⟩)] w fun en w'=>en=.returned (.agg (v8 (padN 16 (rawS rest e 16).1)).toArray)∧St w' R (rawS rest e 16).2.1 (rawS rest e 16).2.2∧w.grownBy w' (some R):=by
 obtain⟨zc,hzc,hzr⟩:∃zc:List Value,Hid (zc=v8 (List.replicate 16 (0:Int)))∧∀w':World,(zeroValue 23).run prog w'=.ok (.agg zc.toArray) w':=⟨_,hide rfl,fun w=>by kernel_rfl⟩
 have hRw:=h.1.1
 have hQw:=hq.lt
 obtain⟨hB1,hr1,hs1⟩:=zA w zc 23
 have ht1:=zn w zc.toArray 23 (n:=16) (by rw[hzc.out];simp)
 have hip:(prog.info? 23).map (·.size)=some (v8 (padN 16 (rawS rest e 16).1)).length:=by rw[v8_length,zaV];kernel_rfl
 have hp1:=zy (padN 16 (rawS rest e 16).1)
 have hpl:(v8 (padN 16 (rawS rest e 16).1)).length=16:=by rw[v8_length,zaV]
 obtain⟨pc,hpc⟩:∃p,Hid (v8 (padN 16 (rawS rest e 16).1)=p):=⟨_,hide rfl⟩
 rw[hpc.out]at hip hp1 hpl ⊢
 go_enter func157,ntmps157
 go_upto_region 0 with fail
 refine pl_b ?_
 refine pl_r 2 (.pointer (some ⟨w.heap.size,0,none⟩)) (w.alloc (.cells zc.toArray 23)) (zr rfl (hzr _)) ?_
 refine zb ?_
 obtain⟨W1,hW1⟩:∃W,w.alloc (.cells zc.toArray 23)=W:=⟨_,rfl⟩
 rw[hW1]at hB1 hr1 hs1 ht1 ⊢
 clear hW1
 obtain⟨hB2,hr2,hs2⟩:=zA W1 zc 23
 have ht2:=zn W1 zc.toArray 23 (n:=16) (by rw[hzc.out];simp)
 go_upto_region 1 with fail
 refine pl_b ?_
 refine pl_r 3 (.pointer (some ⟨W1.heap.size,0,none⟩)) (W1.alloc (.cells zc.toArray 23)) (zr rfl (hzr _)) ?_
 refine zb ?_
 obtain⟨W2,hW2⟩:∃W,W1.alloc (.cells zc.toArray 23)=W:=⟨_,rfl⟩
 rw[hW2]at hB2 hr2 hs2 ht2 ⊢
 clear hW2
 rw[hzc.out]at hr2
 have thA0:=zb8 ht1 hB2 hs1
 have hBW:=hB1.trans (hB2.mono hB1.size)
 clear hr1 ht1 hzr hzc
 go_upto_region 2 with fail
 have hB8:Below w.heap.size w W2.drew:=hBW.drew
 have rz8:W2.drew.rangeAt W1.heap.size 0 _:=(World.rangeAt_drew _ _ _ _).2 hr2
 have th8:W2.drew.there W1.heap.size 0 16:=ht2
 have thA8:W2.drew.there w.heap.size 0 16:=thA0
 have hB1':W1.heap.size<W2.drew.heap.size:=hs2
 refine zw (S:=(fun W'=>MrAt W' Q R z)) 7 rfl (by kernel_rfl) ?_
 obtain⟨w8,hw8⟩:∃W,W2.drew=W:=⟨_,rfl⟩
 rw[hw8]at hB8 rz8 th8 thA8 hB1' ⊢
 clear hw8 hr2 ht2 thA0 hBW hs2 hB2
 have st8:=h.below hB8
 have hq8:=hq.below hB8
 have hne1:W1.heap.size≠R:=by omega
 have hS:(fun W'=>MrAt W' Q R z) w8:=hq8
 refine hs_a 0 4 hS ?_
 refine hs_a 1 5 hS ?_
 refine hs_a 2 6 hS ?_
 refine hs_a 3 7 hS ?_
 refine hs_v 4 8 (.pointer (some ⟨R,0,none⟩)) rfl (fun w' hw=>zf rfl rfl hw.c0 underlying98 rfl) hS ?_
 refine hs_c 5 9 ?_
 refine(zdV R rest e 16 w8 st8 hl).mono ?_
 rintro _ w9 ⟨v9,rfl,m9,st9,g9⟩
 have hS:(fun W'=>MrAt W' Q R z) w9:=hq8.gb g9
 refine⟨_,rfl,hS,?_⟩
 obtain⟨av,cv,hve,_,_,row9⟩:=m9.rowAt (by unfold maxLen;have hN:(rawS rest e 16).1.length=16∨(rawS rest e 16).1=[]:=zcV rest e 16;rcases hN with h|h<;>(rw[h];simp))
 rw[hve]
 obtain⟨wc,hcp,hrc,hwc⟩:=zhq (n:=16) (cap:=cv) (by decide) (zax th8 g9 hB1' hne1) (zdZ rz8 g9 hB1' hne1) row9 (zcV rest e 16)
 clear hve
 simp only[nz]
 have hSc:(fun W'=>MrAt W' Q R z) wc:=by rw[hwc];exact(hq8.gb g9).at (za5 (by omega)) (by rw[zB];exact Nat.le_refl _)
 refine zbo (i:=6) (d:=some 10) (v:=goInt (rawS rest e 16).1.length) (w':=wc) rfl (by kernel_rfl) (by rfl) (zep rfl rfl rfl hcp) rfl hSc ?_
 simp only[nz]
 refine zv (by kernel_rfl) ?_
 have g8:w.grownBy w8 (some R):=zba hB8 _
 have g9':=zJ g8 g9
 have hlow:Below w.heap.size w9 wc:=by rw[hwc];exact zi (by omega) _ _ _ (Below.refl _ _)
 have thA:wc.there w.heap.size 0 16:=by rw[hwc];exact World.there_setCells (zax thA8 g9 (by omega) (by omega)) _ _ _
 have gc:=zac g9' hlow (Nat.le_refl _)
 have sc:St wc R _ _:=st9.belowN hlow hRw
 rw[hpc.out]at hrc
 clear hwc hcp m9 row9 st8 hq8 g9 g8 st9 hlow hS rz8 th8 thA8 hB8 hpc
 go_upto_region 3 with fail
 refine pl_b ?_
 refine pl_v 11 (.agg pc.toArray) (zm rfl rfl hrc underlying23 rfl hip) ?_
 refine pl_s (wc.setCells w.heap.size 0 pc) (zo (cs:=pc.toArray) rfl rfl rfl (by simpa [hpl]using thA) (by simpa using hip) (zp hp1)) ?_
 refine zb ?_
 have hrs:=run_loadVar_mid (P:=prog) (wc.setCells w.heap.size 0 pc) w.heap.size 0 23 pc _ (World.rangeAt_setCells_same wc w.heap.size 0 pc (by rw[hpl];exact thA)) underlying23 rfl hip
 have gf:=zac gc (zi (B:=w.heap.size) (b:=w.heap.size) (Nat.le_refl _) pc 0 _ (Below.refl _ wc)) (Nat.le_refl _)
 have sf:St (wc.setCells w.heap.size 0 pc) R _ _:=sc.belowN (n:=w.heap.size) (zi (Nat.le_refl _) pc 0 _ (Below.refl _ wc)) hRw
 clear sc gc
 go_wp2_with fail
 refine bodyPost_ret (v:=.agg pc.toArray) ?_ rfl ?_
 ·simp[results,results157,Act.put,asAddr,hrs]
 ·exact⟨rfl,sf,gf⟩
theorem zf0 (Q R:Nat) (z:Bool) (rest:List Int) (e:Int) (w:World) (h:St w R rest e) (hq:MrAt w Q R z) (hl:rest.length≤40000):Calls prog 113 #[.pointer (some ⟨Q,0,none⟩)] w fun en w'=>en=.returned (.agg (v8 (padN 32 (rawS rest e 32).1)).toArray)∧St w' R (rawS rest e 32).2.1 (rawS rest e 32).2.2∧w.grownBy w' (some R):=by
 obtain⟨zc,hzc,hzr⟩:∃zc:List Value,Hid (zc=v8 (List.replicate 32 (0:Int)))∧∀w':World,(zeroValue 41).run prog w'=.ok (.agg zc.toArray) w':=⟨_,hide rfl,fun w=>by kernel_rfl⟩
 have hRw:=h.1.1
 have hQw:=hq.lt
 obtain⟨hB1,hr1,hs1⟩:=zA w zc 41
 have ht1:=zn w zc.toArray 41 (n:=32) (by rw[hzc.out];simp)
 have hip:(prog.info? 41).map (·.size)=some (v8 (padN 32 (rawS rest e 32).1)).length:=by rw[v8_length,zaV];kernel_rfl
 have hp1:=zy (padN 32 (rawS rest e 32).1)
 have hpl:(v8 (padN 32 (rawS rest e 32).1)).length=32:=by rw[v8_length,zaV]
 obtain⟨pc,hpc⟩:∃p,Hid (v8 (padN 32 (rawS rest e 32).1)=p):=⟨_,hide rfl⟩
 rw[hpc.out]at hip hp1 hpl ⊢
 go_enter func113,ntmps113
 go_upto_region 0 with fail
 refine pl_b ?_
 refine pl_r 2 (.pointer (some ⟨w.heap.size,0,none⟩)) (w.alloc (.cells zc.toArray 41)) (zr rfl (hzr _)) ?_
 refine zb ?_
 obtain⟨W1,hW1⟩:∃W,w.alloc (.cells zc.toArray 41)=W:=⟨_,rfl⟩
 rw[hW1]at hB1 hr1 hs1 ht1 ⊢
 clear hW1
 obtain⟨hB2,hr2,hs2⟩:=zA W1 zc 41
 have ht2:=zn W1 zc.toArray 41 (n:=32) (by rw[hzc.out];simp)
 go_upto_region 1 with fail
 refine pl_b ?_
 refine pl_r 3 (.pointer (some ⟨W1.heap.size,0,none⟩)) (W1.alloc (.cells zc.toArray 41)) (zr rfl (hzr _)) ?_
 refine zb ?_
 obtain⟨W2,hW2⟩:∃W,W1.alloc (.cells zc.toArray 41)=W:=⟨_,rfl⟩
 rw[hW2]at hB2 hr2 hs2 ht2 ⊢
 clear hW2
 rw[hzc.out]at hr2
 have thA0:=zb8 ht1 hB2 hs1
 have hBW:=hB1.trans (hB2.mono hB1.size)
 clear hr1 ht1 hzr hzc
 go_upto_region 2 with fail
 have hB8:Below w.heap.size w W2.drew:=hBW.drew
 have rz8:W2.drew.rangeAt W1.heap.size 0 _:=(World.rangeAt_drew _ _ _ _).2 hr2
 have th8:W2.drew.there W1.heap.size 0 32:=ht2
 have thA8:W2.drew.there w.heap.size 0 32:=thA0
 have hB1':W1.heap.size<W2.drew.heap.size:=hs2
 refine zw (S:=(fun W'=>MrAt W' Q R z)) 7 rfl (by kernel_rfl) ?_
 obtain⟨w8,hw8⟩:∃W,W2.drew=W:=⟨_,rfl⟩
 rw[hw8]at hB8 rz8 th8 thA8 hB1' ⊢
 clear hw8 hr2 ht2 thA0 hBW hs2 hB2
 have st8:=h.below hB8
 have hq8:=hq.below hB8
 have hne1:W1.heap.size≠R:=by omega
 have hS:(fun W'=>MrAt W' Q R z) w8:=hq8
 refine hs_a 0 4 hS ?_
 refine hs_a 1 5 hS ?_
 refine hs_a 2 6 hS ?_
 refine hs_a 3 7 hS ?_
 refine hs_v 4 8 (.pointer (some ⟨R,0,none⟩)) rfl (fun w' hw=>zf rfl rfl hw.c0 underlying98 rfl) hS ?_
 refine hs_c 5 9 ?_
 refine(zdV R rest e 32 w8 st8 hl).mono ?_
 rintro _ w9 ⟨v9,rfl,m9,st9,g9⟩
 have hS:(fun W'=>MrAt W' Q R z) w9:=hq8.gb g9
 refine⟨_,rfl,hS,?_⟩
 obtain⟨av,cv,hve,_,_,row9⟩:=m9.rowAt (by unfold maxLen;have hN:(rawS rest e 32).1.length=32∨(rawS rest e 32).1=[]:=zcV rest e 32;rcases hN with h|h<;>(rw[h];simp))
 rw[hve]
 obtain⟨wc,hcp,hrc,hwc⟩:=zhq (n:=32) (cap:=cv) (by decide) (zax th8 g9 hB1' hne1) (zdZ rz8 g9 hB1' hne1) row9 (zcV rest e 32)
 clear hve
 simp only[nz]
 have hSc:(fun W'=>MrAt W' Q R z) wc:=by rw[hwc];exact(hq8.gb g9).at (za5 (by omega)) (by rw[zB];exact Nat.le_refl _)
 refine zbo (i:=6) (d:=some 10) (v:=goInt (rawS rest e 32).1.length) (w':=wc) rfl (by kernel_rfl) (by rfl) (zep rfl rfl rfl hcp) rfl hSc ?_
 simp only[nz]
 refine zv (by kernel_rfl) ?_
 have g8:w.grownBy w8 (some R):=zba hB8 _
 have g9':=zJ g8 g9
 have hlow:Below w.heap.size w9 wc:=by rw[hwc];exact zi (by omega) _ _ _ (Below.refl _ _)
 have thA:wc.there w.heap.size 0 32:=by rw[hwc];exact World.there_setCells (zax thA8 g9 (by omega) (by omega)) _ _ _
 have gc:=zac g9' hlow (Nat.le_refl _)
 have sc:St wc R _ _:=st9.belowN hlow hRw
 rw[hpc.out]at hrc
 clear hwc hcp m9 row9 st8 hq8 g9 g8 st9 hlow hS rz8 th8 thA8 hB8 hpc
 go_upto_region 3 with fail
 refine pl_b ?_
 refine pl_v 11 (.agg pc.toArray) (zm rfl rfl hrc underlying41 rfl hip) ?_
 refine pl_s (wc.setCells w.heap.size 0 pc) (zo (cs:=pc.toArray) rfl rfl rfl (by simpa [hpl]using thA) (by simpa using hip) (zp hp1)) ?_
 refine zb ?_
 have hrs:=run_loadVar_mid (P:=prog) (wc.setCells w.heap.size 0 pc) w.heap.size 0 41 pc _ (World.rangeAt_setCells_same wc w.heap.size 0 pc (by rw[hpl];exact thA)) underlying41 rfl hip
 have gf:=zac gc (zi (B:=w.heap.size) (b:=w.heap.size) (Nat.le_refl _) pc 0 _ (Below.refl _ wc)) (Nat.le_refl _)
 have sf:St (wc.setCells w.heap.size 0 pc) R _ _:=sc.belowN (n:=w.heap.size) (zi (Nat.le_refl _) pc 0 _ (Below.refl _ wc)) hRw
 clear sc gc
 go_wp2_with fail
 refine bodyPost_ret (v:=.agg pc.toArray) ?_ rfl ?_
 ·simp[results,results113,Act.put,asAddr,hrs]
 ·exact⟨rfl,sf,gf⟩
open Go Go.RowKit
section
variable {P : Program} {ops : Array Oper} {Q : Exit → Act → World → Prop} {md : Region.Mode}
theorem zhd {o:Oper} {a:Act} {w w':World} {s x:Operand} {t tx:TypeId} {v xv v':Value} (ho:o.op=.call {callee:=.builtin .append,args:=#[s,x],argTypes:=#[t,tx]}) (hs:a.eval s=v) (hx:a.eval x=xv)
    (hr:(Builtin.append_ #[t,tx] o.type #[v,xv]).run P w=.ok v' w'):(execOp a.eval o).run P w=.ok (.value v') w':=by
  unfold execOp
  simp only[ho,resolve,invoke,builtin,Sem.run_bind,Sem.run_pure,Result.andThen_ok,List.map_toArray,List.map_cons,List.map_nil,hs,hx,hr]
end
end Go.Proofs.YtcbpbkefggekmaaGreatDoor
namespace Go.Proofs.YtcbpbkefggekmaaGreatDoor
open Go.RowKit
open Sha Tal
theorem RdE.gb {w w':World} {R:Nat} {e:Int} {r:Option Nat} (h:RdE w R e) (hg:w.grownBy w' r) (hr:some R≠r):RdE w' R e:=
 h.below (hg.block R h.1 hr) hg.size
theorem St.gb {w w':World} {R g:Nat} {rest:List Int} {e:Int} (h:St w R rest e) (hg:w.grownBy w' (some g)) (hr:R<g):St w' R rest e:=by
 refine⟨h.1.gb hg (by intro q;injection q with q;omega),fun he=>?_⟩
 obtain⟨a,cap,h0,hc,hm,hrow,hlt⟩:=h.2 he
 refine⟨a,cap,(zZ (hg.block R h.1.1 (by intro q;injection q with q;omega))).1.trans h0,hc,hm,hrow.gb hg (.inr (fun x hx=>by have:=hlt x hx;omega)),hlt⟩
structure Kept (w:World) (R X:Nat) (W:World):Prop where
 os:W.os=w.os
 tape:W.tape=w.tape
 output:W.output=w.output
 size:w.heap.size≤W.heap.size
 block:∀k,k<w.heap.size→k≠R→k≠X→W.heap[k]? =w.heap[k]?
theorem Kept.refl (w:World) (R X:Nat):Kept w R X w:=⟨rfl,rfl,rfl,Nat.le_refl _,fun _ _ _ _=>rfl⟩
theorem Kept.gb {w W W':World} {R X g:Nat} (h:Kept w R X W) (hg:W.grownBy W' (some g)) (hr:g=R∨g=X∨w.heap.size≤g):Kept w R X W':=
 ⟨hg.os.trans h.os,hg.tape.trans h.tape,hg.output.trans h.output,Nat.le_trans h.size hg.size,fun k hk k1 k2=>(hg.block k (Nat.lt_of_lt_of_le hk h.size) (by intro q;injection q with q;omega)).trans (h.block k hk k1 k2)⟩
theorem Kept.below {w W W':World} {R X:Nat} (h:Kept w R X W) (hb:Below W.heap.size W W'):Kept w R X W':=
 ⟨hb.os.trans h.os,hb.tape.trans h.tape,hb.output.trans h.output,Nat.le_trans h.size hb.size,fun k hk k1 k2=>(hb.block k (Nat.lt_of_lt_of_le hk h.size)).trans (h.block k hk k1 k2)⟩
theorem Kept.to {w0 w W:World} {R X:Nat} (h:Kept w R X W) (hb:Below w0.heap.size w0 w) (hR:w0.heap.size≤R) (hX:w0.heap.size≤X):Below w0.heap.size w0 W:=
 ⟨h.os.trans hb.os,h.tape.trans hb.tape,h.output.trans hb.output,Nat.le_trans hb.size h.size,fun k hk=>(h.block k (Nat.lt_of_lt_of_le hk hb.size) (by omega) (by omega)).trans (hb.block k hk)⟩
structure Two (B:Nat) (w:World) (R X:Nat) (W:World) (rest:List Int) (e:Int):Prop where
 own:St W R rest e
 doc:RSt B W X rest e
 kept:Kept w R X W
theorem zgz (zs:List Int) (hz:∀z∈zs,0≤z∧z<256):0≤(numR zs).1:=by
  cases zs with
  |nil=>simp[numR]
  |cons k tl=>
    simp only[numR]
    split
    · simp
    · split
      · simp
      · split
        · have hb:=zb4 (tl.take k.toNat) (fun z hzz=>hz z (List.mem_cons_of_mem _ (List.mem_of_mem_take hzz)))
          simp only[valR]
          split
          · simp
          · exact hb.1
        · simp
theorem St.pos {w:World} {R:Nat} {rest:List Int} {e:Int} (h:St w R rest e):0≤(numS rest e 9223372036854775807).1:=by
 unfold numS
 by_cases he:e=0
 ·rw[if_pos he]
  obtain⟨a,cap,h0,hc,hm,hrow,hlt⟩:=h.2 he
  have:=zgz rest hrow.2.1
  split
  ·split
   ·simp
   ·exact this
  ·simp
 ·rw[if_neg he];simp
open Go.RowKit
open Sha Tal
set_option linter.unusedVariables false
set_option linter.unusedSimpArgs false
theorem zcv {P:Program} {t:TypeId} {zs:List Value} {pl:Array (Nat ×Nat)} {w:World} (hz:(zeroValue t).run P w=.ok (.agg zs.toArray) w) (hu:P.underlying t=some (.struct (P.fieldsOf t)))
  (hp:(((P.fieldsOf t).mapM fun f=>do pure (f.offset,←sizeOf f.type):Sem (Array (Nat ×Nat)))).run P w=.ok pl w) (parts:Array (Nat ×Value)) (cs:List Value) (h:Instr.fill (pl[·]?) zs.toArray parts.toList=some cs.toArray):(Instr.build t parts).run P w=.ok (.agg cs.toArray) w:=by
 unfold Instr.build
 simp only[Sem.run_bind,hz,Result.andThen_ok,run_underlying hu]
 rw[hp]
 simp only[Result.andThen_ok,Value.cells]
 rw[h]
 rfl
theorem zeo {pl:Array (Nat ×Nat)} {n m:Nat} {z1 z2 c1 c2:List Value} {v1 v2:Value} (h0:pl[0]? =some (0,n)) (h1:pl[1]? =some (n,m)) (l1:z1.length=n) (l2:z2.length=m) (k1:c1.length=n) (k2:c2.length=m) (e1:v1.cells=c1.toArray) (e2:v2.cells=c2.toArray):
  Instr.fill (pl[·]?) (z1++z2).toArray [(0,v1),(1,v2)]=some (c1++c2).toArray:=by
 have s1:z1++z2=[]++(z1++z2):=rfl
 rw[s1,zbq (off:=0) (n:=n) (vs:=c1) h0 l1 rfl e1 k1]
 have s2:[]++(c1++z2)=c1++(z2++[]):=by simp
 rw[s2,zbq (off:=n) (n:=m) (vs:=c2) h1 l2 k1 e2 k2]
 simp[Instr.fill]
theorem zeroSgE (w:World):(zeroValue 133).run prog w=.ok (.agg ([Value.int .i64 0]++v8 (List.replicate 16 0)).toArray) w:=by kernel_rfl
theorem zmY (n:Int) (t:List Value) (ht:t.length=16) (w:World):(Instr.build 133 #[(0,.int .i64 n),(1,.agg t.toArray)]).run prog w=.ok (.agg (.int .i64 n::t).toArray) w:=
 zcv (zs:=[Value.int .i64 0]++v8 (List.replicate 16 0)) (pl:=#[(0,1),(1,16)]) (zeroSgE w) (by kernel_rfl) (by kernel_rfl) _ _ (zeo (c1:=[.int .i64 n]) rfl rfl rfl rfl rfl ht rfl rfl)
theorem zT {P:Program} {o:Oper} {a:Act} {w:World} {t:TypeId} {parts:List (Nat ×Operand)} {vs:List (Nat ×Value)} {v:Value} (ho:o.op=.build t parts.toArray) (hv:(parts.map fun(x:Nat ×Operand)=>(x.1,a.eval x.2))=vs)
  (hr:(Instr.build t vs.toArray).run P w=.ok v w):(execOp a.eval o).run P w=.ok (.value v) w:=by
 subst hv
 have e:Array.map (fun(x:Nat ×Operand)=>(x.1,a.eval x.2)) parts.toArray=(parts.map fun(x:Nat ×Operand)=>(x.1,a.eval x.2)).toArray:=by simp
 unfold execOp
 simp only[ho]
 rw[show(Instr.build t (Array.map (fun x=>match x with|(i,x)=>(i,a.eval x)) parts.toArray))=Instr.build t (parts.map fun(x:Nat ×Operand)=>(x.1,a.eval x.2)).toArray from congrArg _ e]
 simp only[Sem.run_bind,hr,Result.andThen_ok,Sem.run_pure]
theorem zeroEvE (w:World):(zeroValue 25).run prog w=.ok (.agg ([Value.int .i64 0]++([Value.string ⟨#[]⟩]++v8 (List.replicate 16 0))).toArray) w:=by kernel_rfl
theorem zg7 {pl:Array (Nat ×Nat)} {n m k:Nat} {z1 z2 z3 c1 c2 c3:List Value} {v1 v2 v3:Value} (h0:pl[0]? =some (0,n)) (h1:pl[1]? =some (n,m)) (h2:pl[2]? =some (n+m,k)) (l1:z1.length=n) (l2:z2.length=m) (l3:z3.length=k) (k1:c1.length=n) (k2:c2.length=m) (k3:c3.length=k) (e1:v1.cells=c1.toArray) (e2:v2.cells=c2.toArray) (e3:v3.cells=c3.toArray):
  Instr.fill (pl[·]?) (z1++(z2++z3)).toArray [(0,v1),(1,v2),(2,v3)]=some (c1++(c2++c3)).toArray:=by
 have s1:z1++(z2++z3)=[]++(z1++(z2++z3)):=rfl
 rw[s1,zbq (off:=0) (n:=n) (vs:=c1) h0 l1 rfl e1 k1]
 have s2:[]++(c1++(z2++z3))=c1++(z2++z3):=by simp
 rw[s2,zbq (off:=n) (n:=m) (vs:=c2) h1 l2 k1 e2 k2]
 have s3:c1++(c2++z3)=(c1++c2)++(z3++[]):=by simp
 rw[s3,zbq (off:=n+m) (n:=k) (vs:=c3) h2 l3 (by simp[k1,k2]) e3 k3]
 simp[Instr.fill]
theorem zhI (n:Int) (b:ByteArray) (t:List Value) (ht:t.length=16) (w:World):(Instr.build 25 #[(0,.int .i64 n),(1,.string b),(2,.agg t.toArray)]).run prog w=.ok (.agg (.int .i64 n::.string b::t).toArray) w:=
 zcv (zs:=[Value.int .i64 0]++([Value.string ⟨#[]⟩]++v8 (List.replicate 16 0))) (pl:=#[(0,1),(1,1),(2,16)]) (zeroEvE w) (by kernel_rfl) (by kernel_rfl) _ _ (zg7 (c1:=[.int .i64 n]) (c2:=[.string b]) rfl rfl rfl rfl rfl rfl rfl rfl ht rfl rfl rfl)
def sgS (rest:List Int) (e:Int):Sg ×List Int ×Int:=
 let x1:=numS rest e 64
 let x2:=rawS x1.2.1 x1.2.2 16
 (⟨x1.1,padN 16 x2.1⟩,x2.2.1,x2.2.2)
def evS (rest:List Int) (e:Int):Ev ×List Int ×Int:=
 let x1:=numS rest e 64
 let x2:=textS x1.2.1 x1.2.2 4194304
 let x3:=rawS x2.2.1 x2.2.2 16
 (⟨x1.1,strOf x2.1,padN 16 x3.1⟩,x3.2.1,x3.2.2)
theorem zja (rest:List Int) (e:Int):(sgS rest e).2.1.length≤rest.length:=Nat.le_trans (zcU _ _ _) (zai _ _ _)
theorem zl5 (rest:List Int) (e:Int):(evS rest e).2.1.length≤rest.length:=Nat.le_trans (zcU _ _ _) (Nat.le_trans (zcL _ _ _) (zai _ _ _))
theorem zjp (Q R:Nat) (z:Bool) (rest:List Int) (e:Int) (w:World) (h:St w R rest e) (hq:MrAt w Q R z) (hl:rest.length≤40000):Calls prog 116 #[.pointer (some ⟨Q,0,none⟩)] w fun en w'=>en=.returned (.agg (sgS rest e).1.cells.toArray)∧St w' R (sgS rest e).2.1 (sgS rest e).2.2∧w.grownBy w' (some R):=by
 obtain⟨zc,hzl,hzr⟩:=zeroSg
 have hRw:=h.1.1
 have hQw:=hq.lt
 have l1:=zai rest e 64
 have cn:=fun w0 h0=>zaK R rest e 64 w0 h0
 show Calls prog 116 _ w fun en w'=>en=.returned (.agg (Value.int .i64 (numS rest e 64).1::v8 (padN 16 (rawS (numS rest e 64).2.1 (numS rest e 64).2.2 16).1)).toArray)∧St w' R (rawS (numS rest e 64).2.1 (numS rest e 64).2.2 16).2.1 (rawS (numS rest e 64).2.1 (numS rest e 64).2.2 16).2.2∧w.grownBy w' (some R)
 obtain⟨v1,hv1⟩:∃x,(numS rest e 64).1=x:=⟨_,rfl⟩
 obtain⟨r1,hr1'⟩:∃x,(numS rest e 64).2.1=x:=⟨_,rfl⟩
 obtain⟨e1,he1⟩:∃x,(numS rest e 64).2.2=x:=⟨_,rfl⟩
 simp only[hv1,hr1',he1]at l1 cn ⊢
 clear hv1 hr1' he1
 have ct:=fun w0 h0 hq0=>zfN Q R z r1 e1 w0 h0 hq0 (by omega)
 have htl:(v8 (padN 16 (rawS r1 e1 16).1)).length=16:=by rw[v8_length,zaV]
 have hp1:∀v∈(Value.int .i64 v1::v8 (padN 16 (rawS r1 e1 16).1)),v.oneCell'=true:=SgE.one ⟨v1,padN 16 (rawS r1 e1 16).1⟩
 obtain⟨t,htt⟩:∃t,v8 (padN 16 (rawS r1 e1 16).1)=t:=⟨_,rfl⟩
 obtain⟨r2,hr2'⟩:∃x,(rawS r1 e1 16).2.1=x:=⟨_,rfl⟩
 obtain⟨e2,he2⟩:∃x,(rawS r1 e1 16).2.2=x:=⟨_,rfl⟩
 simp only[htt,hr2',he2]at ct htl hp1 ⊢
 clear htt hr2' he2
 have hbs:=fun w0=>zmY v1 t htl w0
 have hip:(prog.info? 133).map (·.size)=some (Value.int .i64 v1::t).length:=by simp only[List.length_cons,htl];exact iszSg
 have hpl:(Value.int .i64 v1::t).length=17:=by simp only[List.length_cons,htl]
 obtain⟨pc,hpc⟩:∃p,Value.int .i64 v1::t=p:=⟨_,rfl⟩
 simp only[hpc]at hbs hip hp1 hpl ⊢
 clear hpc htl
 obtain⟨hB1,hr1,hs1⟩:=zA w zc 133
 have ht1:=zn w zc.toArray 133 (n:=17) (by simp[hzl])
 go_enter func116,ntmps116
 go_upto_region 0 with fail
 refine pl_b ?_
 refine pl_r 2 (.pointer (some ⟨w.heap.size,0,none⟩)) (w.alloc (.cells zc.toArray 133)) (zr rfl (hzr _)) ?_
 refine zb ?_
 obtain⟨W1,hW1⟩:∃W,w.alloc (.cells zc.toArray 133)=W:=⟨_,rfl⟩
 rw[hW1]at hB1 hr1 hs1 ht1 ⊢
 clear hW1 hr1 hzr hzl
 have st1:=h.below hB1
 have hq1:=hq.below hB1
 have g1:w.grownBy W1 (some R):=zba hB1 _
 go_upto_region 1 with fail
 refine pl_b ?_
 refine pl_a 3 ?_
 refine pl_a 4 ?_
 refine pl_a 5 ?_
 refine pl_v 6 (.pointer (some ⟨R,0,none⟩)) (zf rfl rfl hq1.c0 underlying98 rfl) ?_
 refine pl_c 7 ?_
 refine(cn W1 st1).mono ?_
 rintro _ w2 ⟨rfl,st2,g2⟩
 refine⟨_,rfl,?_⟩
 simp only[nz]
 refine pl_a 8 ?_
 refine pl_c 9 ?_
 refine(ct w2 st2 (hq1.gb g2)).mono ?_
 rintro _ w3 ⟨rfl,st3,g3⟩
 refine⟨_,rfl,?_⟩
 simp only[nz]
 refine pl_v 10 (.agg pc.toArray) (zT (parts:=[(0,.tmp 7),(1,.tmp 9)]) rfl rfl (hbs _)) ?_
 have g23:=zJ g2 g3
 have thA:w3.there w.heap.size 0 17:=zax ht1 g23 hs1 (by omega)
 have gc:=zJ g1 g23
 have sc:=st3
 refine pl_s (w3.setCells w.heap.size 0 pc) (zo (cs:=pc.toArray) rfl rfl rfl (by simpa [hpl]using thA) (by simpa using hip) (zp hp1)) ?_
 refine zb ?_
 have gf:=zac gc (zi (B:=w.heap.size) (b:=w.heap.size) (Nat.le_refl _) pc 0 _ (Below.refl _ w3)) (Nat.le_refl _)
 have sf:St (w3.setCells w.heap.size 0 pc) R _ _:=sc.belowN (n:=w.heap.size) (zi (Nat.le_refl _) pc 0 _ (Below.refl _ w3)) hRw
 have hrs:=run_loadVar_mid (P:=prog) (w3.setCells w.heap.size 0 pc) w.heap.size 0 133 pc _ (World.rangeAt_setCells_same w3 w.heap.size 0 pc (by rw[hpl];exact thA)) underlying133 rfl hip
 clear sc gc
 go_wp2_with fail
 refine bodyPost_ret (v:=.agg pc.toArray) ?_ rfl ?_
 ·simp[results,results116,Act.put,asAddr,hrs]
 ·exact⟨rfl,sf,gf⟩
theorem zjU (Q R:Nat) (z:Bool) (rest:List Int) (e:Int) (w:World) (h:St w R rest e) (hq:MrAt w Q R z) (hl:rest.length≤40000):Calls prog 112 #[.pointer (some ⟨Q,0,none⟩)] w fun en w'=>en=.returned (.agg (evS rest e).1.cells.toArray)∧St w' R (evS rest e).2.1 (evS rest e).2.2∧w.grownBy w' (some R):=by
 obtain⟨zc,hzl,hzr⟩:=zeroEv
 have hRw:=h.1.1
 have hQw:=hq.lt
 have l1:=zai rest e 64
 have cn:=fun w0 h0=>zaK R rest e 64 w0 h0
 have l2:=zcL (numS rest e 64).2.1 (numS rest e 64).2.2 4194304
 have cx:=fun w0 h0=>zdE R (numS rest e 64).2.1 (numS rest e 64).2.2 4194304 w0 h0 h0.pos
 show Calls prog 112 _ w fun en w'=>en=.returned (.agg (Value.int .i64 (numS rest e 64).1::.string (strOf (textS (numS rest e 64).2.1 (numS rest e 64).2.2 4194304).1)::v8 (padN 16 (rawS (textS (numS rest e 64).2.1 (numS rest e 64).2.2 4194304).2.1 (textS (numS rest e 64).2.1 (numS rest e 64).2.2 4194304).2.2 16).1)).toArray)∧St w' R (rawS (textS (numS rest e 64).2.1 (numS rest e 64).2.2 4194304).2.1 (textS (numS rest e 64).2.1 (numS rest e 64).2.2 4194304).2.2 16).2.1 (rawS (textS (numS rest e 64).2.1 (numS rest e 64).2.2 4194304).2.1 (textS (numS rest e 64).2.1 (numS rest e 64).2.2 4194304).2.2 16).2.2∧w.grownBy w' (some R)
 obtain⟨v1,hv1⟩:∃x,(numS rest e 64).1=x:=⟨_,rfl⟩
 obtain⟨r1,hr1'⟩:∃x,(numS rest e 64).2.1=x:=⟨_,rfl⟩
 obtain⟨e1,he1⟩:∃x,(numS rest e 64).2.2=x:=⟨_,rfl⟩
 simp only[hv1,hr1',he1]at l1 cn l2 cx ⊢
 clear hv1 hr1' he1
 obtain⟨v2,hv2⟩:∃x,strOf (textS r1 e1 4194304).1=x:=⟨_,rfl⟩
 obtain⟨r2,hr2'⟩:∃x,(textS r1 e1 4194304).2.1=x:=⟨_,rfl⟩
 obtain⟨e2,he2⟩:∃x,(textS r1 e1 4194304).2.2=x:=⟨_,rfl⟩
 simp only[hv2,hr2',he2]at l2 cx ⊢
 clear hv2 hr2' he2
 have ct:=fun w0 h0 hq0=>zfN Q R z r2 e2 w0 h0 hq0 (by omega)
 have htl:(v8 (padN 16 (rawS r2 e2 16).1)).length=16:=by rw[v8_length,zaV]
 have hp1:∀v∈(Value.int .i64 v1::.string v2::v8 (padN 16 (rawS r2 e2 16).1)),v.oneCell'=true:=EvE.one ⟨v1,v2,padN 16 (rawS r2 e2 16).1⟩
 obtain⟨t,htt⟩:∃t,v8 (padN 16 (rawS r2 e2 16).1)=t:=⟨_,rfl⟩
 obtain⟨r3,hr3'⟩:∃x,(rawS r2 e2 16).2.1=x:=⟨_,rfl⟩
 obtain⟨e3,he3⟩:∃x,(rawS r2 e2 16).2.2=x:=⟨_,rfl⟩
 simp only[htt,hr3',he3]at ct htl hp1 ⊢
 clear htt hr3' he3
 have hbs:=fun w0=>zhI v1 v2 t htl w0
 have hip:(prog.info? 25).map (·.size)=some (Value.int .i64 v1::.string v2::t).length:=by simp only[List.length_cons,htl];exact iszEv
 have hpl:(Value.int .i64 v1::.string v2::t).length=18:=by simp only[List.length_cons,htl]
 obtain⟨pc,hpc⟩:∃p,Value.int .i64 v1::.string v2::t=p:=⟨_,rfl⟩
 simp only[hpc]at hbs hip hp1 hpl ⊢
 clear hpc htl
 obtain⟨hB1,hr1,hs1⟩:=zA w zc 25
 have ht1:=zn w zc.toArray 25 (n:=18) (by simp[hzl])
 go_enter func112,ntmps112
 go_upto_region 0 with fail
 refine pl_b ?_
 refine pl_r 2 (.pointer (some ⟨w.heap.size,0,none⟩)) (w.alloc (.cells zc.toArray 25)) (zr rfl (hzr _)) ?_
 refine zb ?_
 obtain⟨W1,hW1⟩:∃W,w.alloc (.cells zc.toArray 25)=W:=⟨_,rfl⟩
 rw[hW1]at hB1 hr1 hs1 ht1 ⊢
 clear hW1 hr1 hzr hzl
 go_upto_region 1 with fail
 have hB8:=hB1.drew
 have ht8:W1.drew.there w.heap.size 0 18:=ht1
 have hs8:w.heap.size<W1.drew.heap.size:=hs1
 refine zw (S:=(fun W'=>MrAt W' Q R z)) 14 rfl (by kernel_rfl) ?_
 obtain⟨w8,hw8⟩:∃W,W1.drew=W:=⟨_,rfl⟩
 rw[hw8]at hB8 ht8 hs8 ⊢
 clear hw8
 have st8:=h.below hB8
 have g8:w.grownBy w8 (some R):=zba hB8 _
 have hS:(fun W'=>MrAt W' Q R z) w8:=hq.below hB8
 refine hs_a 0 3 hS ?_
 refine hs_a 1 4 hS ?_
 refine hs_a 2 5 hS ?_
 refine hs_v 3 6 (.pointer (some ⟨R,0,none⟩)) rfl (fun w' hw=>zf rfl rfl hw.c0 underlying98 rfl) hS ?_
 refine hs_a 5 8 hS ?_
 refine hs_a 6 9 hS ?_
 refine hs_a 7 10 hS ?_
 refine hs_v 8 11 (.pointer (some ⟨R,0,none⟩)) rfl (fun w' hw=>zf rfl rfl hw.c0 underlying98 rfl) hS ?_
 refine hs_a 10 13 hS ?_
 refine hs_c 4 7 ?_
 refine(cn w8 st8).mono ?_
 rintro _ w2 ⟨rfl,st2,g2⟩
 have hS:(fun W'=>MrAt W' Q R z) w2:=hS.gb g2
 refine⟨_,rfl,hS,?_⟩
 simp only[nz]
 refine hs_c 9 12 ?_
 refine(cx w2 st2).mono ?_
 rintro _ w3 ⟨rfl,st3,g3⟩
 have hS:(fun W'=>MrAt W' Q R z) w3:=hS.gb g3
 refine⟨_,rfl,hS,?_⟩
 simp only[nz]
 refine hs_c 11 14 ?_
 refine(ct w3 st3 hS).mono ?_
 rintro _ w4 ⟨rfl,st4,g4⟩
 have hS:(fun W'=>MrAt W' Q R z) w4:=hS.gb g4
 refine⟨_,rfl,hS,?_⟩
 simp only[nz]
 refine hs_v 12 15 (.agg pc.toArray) rfl (fun w' hw=>zT (parts:=[(0,.tmp 7),(1,.tmp 12),(2,.tmp 14)]) rfl rfl (hbs _)) hS ?_
 have g24:=zJ (zJ g2 g3) g4
 have thA:w4.there w.heap.size 0 18:=zax ht8 g24 hs8 (by omega)
 have gc:=zJ g8 g24
 have sc:=st4
 have hSE:(fun W'=>MrAt W' Q R z) (w4.setCells w.heap.size 0 pc):=hS.at (za5 (by omega)) (by rw[zB];exact Nat.le_refl _)
 refine zG (i:=13) (w':=w4.setCells w.heap.size 0 pc) rfl (by kernel_rfl) (by rfl) (zo (cs:=pc.toArray) rfl rfl rfl (by simpa [hpl]using thA) (by simpa using hip) (zp hp1)) rfl hSE ?_
 refine zv (by kernel_rfl) ?_
 have gf:=zac gc (zi (B:=w.heap.size) (b:=w.heap.size) (Nat.le_refl _) pc 0 _ (Below.refl _ w4)) (Nat.le_refl _)
 have sf:St (w4.setCells w.heap.size 0 pc) R _ _:=sc.belowN (n:=w.heap.size) (zi (Nat.le_refl _) pc 0 _ (Below.refl _ w4)) hRw
 have hrs:=run_loadVar_mid (P:=prog) (w4.setCells w.heap.size 0 pc) w.heap.size 0 25 pc _ (World.rangeAt_setCells_same w4 w.heap.size 0 pc (by rw[hpl];exact thA)) underlying25 rfl hip
 clear sc gc
 go_wp2_with fail
 refine bodyPost_ret (v:=.agg pc.toArray) ?_ rfl ?_
 ·simp[results,results112,Act.put,asAddr,hrs]
 ·exact⟨rfl,sf,gf⟩
open Go.RowKit
open Sha Tal
set_option linter.unusedVariables false
set_option linter.unusedSimpArgs false
theorem zcJ {w:World} {b n o m:Nat} (h:w.there b 0 n) (hm:o+m≤n):w.there b o m:=fun j hj=>by
 have:=h (o+j) (by omega)
 rwa [Nat.zero_add]at this
theorem zX {P:Program} {o:Oper} {a:Act} {w:World} {ty:TypeId} {x y:Operand} {b off n:Nat} {v:Value} (ho:o.op=.store ty x y) (hx:a.eval x=.pointer (some ⟨b,off,none⟩)) (hy:a.eval y=v) (ht:w.there b 0 n) (hn:off<n) (hi:(P.info? ty).map (·.size)=some 1) (hvc:v.cells=#[v]) (h1:v.oneCell'=true):(execOp a.eval o).run P w=.ok .skip (w.setCells b off [v]):=by
 refine zbG ho hx hy ?_
 have e:storeVar ty ⟨b,off,none⟩ v=storeVar ty ⟨b,off,none⟩ (.agg #[v]):=by unfold storeVar;rw[hvc];rfl
 rw[e,run_storeVar_mid w b off ty #[v] (zcJ ht (by simp;omega)) hi (by simpa using h1)]
theorem Kept.of {w W:World} {R Q:Nat} (hg:w.grownBy W (some R)):Kept w R Q W:=(Kept.refl w R Q).gb hg (.inl rfl)
theorem Kept.trans {w W W':World} {R Q:Nat} (h:Kept w R Q W) (k:Kept W R Q W'):Kept w R Q W':=
 ⟨k.os.trans h.os,k.tape.trans h.tape,k.output.trans h.output,Nat.le_trans h.size k.size,fun i hi k1 k2=>(k.block i (Nat.lt_of_lt_of_le hi h.size) k1 k2).trans (h.block i hi k1 k2)⟩
theorem Kept.newSets {w W:World} {R Q b:Nat} (h:Kept w R Q W) (hb:w.heap.size≤b) (o:Nat) (vs:List Value):Kept w R Q (W.setCells b o vs):=
 h.gb (zau W b vs o) (.inr (.inr hb))
theorem MrAt.zero {w:World} {Q R:Nat} {z:Bool} (h:MrAt w Q R z):MrAt (w.setCells Q 1 [.bool true]) Q R true:=by
  have h1:=h.lt
  have hT:w.there Q 1 [Value.bool true].length:=fun j hj=>by
    obtain rfl:j=0:=by simp at hj;omega
    exact⟨by show(w.cell? ⟨Q,1,none⟩).isSome=true;rw[h.c1];rfl,h.f1⟩
  refine⟨by rw[zB];exact h1,h.ne,?_,?_,?_⟩
  · have hr : w.rangeAt Q 0 [.pointer (some ⟨R, 0, none⟩)] := fun j v hv => by
      match j,hv with
      |0,hv=>cases hv;exact h.c0
    exact(World.rangeAt_setCells_apart hr Q 1 [.bool true] (.inr (.inl (by simp)))) 0 _ rfl
  · exact World.rangeAt_setCells_same w Q 1 [.bool true] hT 0 _ rfl
  · exact(World.there_setCells hT Q 1 [.bool true] 0 (by simp)).2
def kdZ (rest:List Int) (e most:Int) (z:Bool):Bool:=if(numS rest e most).1==0 then(if(numS rest e most).2.2==0 then true else z)else z
theorem zfW (Q R:Nat) (z:Bool) (rest:List Int) (e most:Int) (w:World) (h:St w R rest e) (hq:MrAt w Q R z) (thQ0:w.there Q 0 2):Calls prog 107 #[.pointer (some ⟨Q,0,none⟩),.int .i64 most] w fun en w'=>en=.returned (.int .i64 (numS rest e most).1)∧St w' R (numS rest e most).2.1 (numS rest e most).2.2∧MrAt w' Q R (kdZ rest e most z)∧Kept w R Q w'∧w'.there Q 0 2:=by
 have cn:=zaK R rest e most w h
 unfold kdZ
 obtain⟨v1,hv1⟩:∃x,(numS rest e most).1=x:=⟨_,rfl⟩
 obtain⟨r1,hr1⟩:∃x,(numS rest e most).2.1=x:=⟨_,rfl⟩
 obtain⟨e1,he1⟩:∃x,(numS rest e most).2.2=x:=⟨_,rfl⟩
 simp only[hv1,hr1,he1]at cn ⊢
 clear hv1 hr1 he1
 obtain⟨b0,hb0⟩:∃b,Hid ((v1==0)=b):=⟨_,hide rfl⟩
 obtain⟨b1,hb1⟩:∃b,Hid ((e1==0)=b):=⟨_,hide rfl⟩
 rw[hb0.out,hb1.out]
 obtain⟨zz,hzz⟩:∃x:Bool,Hid ((if b0=true then(if b1=true then true else z)else z)=x):=⟨_,hide rfl⟩
 rw[hzz.out]
 have hQl:=hq.lt
 have hne:=hq.ne
 go_enter func107,ntmps107
 go_upto_region 1 with fail
 refine pl_b ?_
 refine pl_a 6 ?_
 refine pl_a 7 ?_
 refine pl_a 8 ?_
 refine pl_v 9 (.pointer (some ⟨R,0,none⟩)) (zf rfl rfl hq.c0 underlying98 rfl) ?_
 refine pl_a 10 ?_
 refine pl_c 11 ?_
 refine(cn).mono ?_
 rintro _ w2 ⟨rfl,st2,g2⟩
 refine⟨_,rfl,?_⟩
 simp only[nz]
 refine pl_a 5 ?_
 refine zb ?_
 have hq2:=hq.gb g2
 have thQ:=zax thQ0 g2 hQl (by omega)
 clear cn
 go_upto_region 2 with fail
 refine pl_b ?_
 refine pl_a 12 ?_
 refine pl_v 13 (.bool b0) (by rw[←hb0.out];go_simp) ?_
 cases b0
 ·refine pl_a 14 ?_
  refine pl_k 15 ?_
  refine pl_k 16 ?_
  refine pl_k 17 ?_
  refine pl_k 18 ?_
  refine pl_k 19 ?_
  refine pl_k 20 ?_
  refine pl_a 21 ?_
  refine zb ?_
  have HF:Hid (St w2 R r1 e1∧MrAt w2 Q R z∧Kept w R Q w2∧w2.there Q 0 2):=hide ⟨st2,hq2,Kept.of g2,thQ⟩
  go_wp2_with fail
  go_ret
  have e:=hzz.out;simp at e;subst e;exact⟨rfl,HF.out⟩
 ·refine pl_a 14 ?_
  refine pl_a 15 ?_
  refine pl_a 16 ?_
  refine pl_a 17 ?_
  refine pl_v 18 (.pointer (some ⟨R,0,none⟩)) (zf rfl rfl hq2.c0 underlying98 rfl) ?_
  refine pl_c 19 ?_
  refine(zaw R e1 w2 st2.1).mono ?_
  rintro _ w3 ⟨rfl,hx⟩
  obtain rfl:=hx.symm
  clear hx
  refine⟨_,rfl,?_⟩
  simp only[nz]
  refine pl_v 20 (.bool b1) (by rw[←hb1.out];go_simp) ?_
  cases b1
  ·refine pl_a 21 ?_
   refine zb ?_
   have HF:Hid (St w2 R r1 e1∧MrAt w2 Q R z∧Kept w R Q w2∧w2.there Q 0 2):=hide ⟨st2,hq2,Kept.of g2,thQ⟩
   go_wp2_with fail
   go_ret
   have e:=hzz.out;simp at e;subst e;exact⟨rfl,HF.out⟩
  ·refine pl_a 21 ?_
   refine zb ?_
   go_upto_region 3 with fail
   refine pl_b ?_
   refine pl_a 22 ?_
   refine pl_a 23 ?_
   refine pl_a 24 ?_
   refine pl_s (w2.setCells Q 1 [.bool true]) (zX (n:=2) rfl rfl rfl thQ (by decide) (by kernel_rfl) rfl rfl) ?_
   refine zb ?_
   have HF:Hid (St (w2.setCells Q 1 [.bool true]) R r1 e1∧MrAt (w2.setCells Q 1 [.bool true]) Q R true∧Kept w R Q (w2.setCells Q 1 [.bool true])∧(w2.setCells Q 1 [.bool true]).there Q 0 2):=hide ⟨st2.gb (zau w2 Q _ _) hq2.ne,hq2.zero,(Kept.of g2).gb (zau w2 Q _ _) (.inr (.inl rfl)),World.there_setCells thQ _ _ _⟩
   go_wp2_with fail
   go_ret
   have e:=hzz.out;simp at e;subst e;exact⟨rfl,HF.out⟩
end Go.Proofs.YtcbpbkefggekmaaGreatDoor
