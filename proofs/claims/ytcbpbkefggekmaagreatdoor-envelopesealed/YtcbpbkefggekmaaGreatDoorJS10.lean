/- fieldsMay; Good; Encode, the program's and the document's; batches that are not too much -/
import Derived.Test.YtcbpbkefggekmaaGreatDoorJS0
import Derived.Test.YtcbpbkefggekmaaGreatDoorJS9
import Derived.Test.YtcbpbkefggekmaaGreatDoorJS7
import Derived.Test.YtcbpbkefggekmaaGreatDoorJS4
import Derived.Test.YtcbpbkefggekmaaGreatDoorJS6
set_option maxHeartbeats 8000000
set_option maxRecDepth 100000
open Go.Proofs.Tryz
namespace Go.Proofs.YtcbpbkefggekmaaGreatDoor
open Go.RowKit
open Sha Tal
def Mg.mayL (m:Mg):Bool:=batMay m.q m.rs&&(chgMay m.ce m.cl m.cv m.he&&(Go.Proofs.YtcbpbkefggekmaaGreatDoor.mayL 64 Ev.may m.ne.xs&&(decide ((m.st.size:Int)≤4194304)&&sgsMay m.sg)))
def Mg.may (m:Mg):Bool:=(inB m.e 1048576&&inB m.l 64)&&((inB m.v 1099511627776&&inB m.s 1099511627776)&&((if m.k=2 then m.vt.may else true)&&((if m.k=7 then certMay m.ct m.cs else true)&&m.mayL)))
theorem zg9 (m:Mg) (w:World) (om:m.ok) (am:m.At w):Calls prog 86 #[.agg m.ms.cells.toArray] w fun er w'=>er=.returned (.bool m.may)∧Below w.heap.size w w':=by
 have hA:(w.alloc (.cells m.ms.cells.toArray 52)).rangeAt w.heap.size 0 m.ms.cells:=by simpa using zC w m.ms.cells.toArray 52
 have hB:Below w.heap.size w (w.alloc (.cells m.ms.cells.toArray 52)):=(Below.refl _ _).alloc (Nat.le_refl _) _
 have hs:w.heap.size<(w.alloc (.cells m.ms.cells.toArray 52)).heap.size:=by simp
 have a1:=am.below hB
 obtain⟨W,hW⟩:∃W,Hid (w.alloc (.cells m.ms.cells.toArray 52)=W):=⟨_,hide rfl⟩
 rw[hW.out]at hA hB hs a1
 have M:=om.ms.at hA
 have ix:(prog.info? 43).map (·.size)=some m.vt.cells.length:=by rw[om.vt.len];exact iszV
 have ic:(prog.info? 50).map (·.size)=some (certL m.ct m.cs).length:=by rw[show(certL m.ct m.cs).length=37 by simp[certL,om.ct.len]];exact iszC
 have cK:W.cell? ⟨w.heap.size,0,none⟩=some (.int .i64 m.k):=M.k
 have cE:W.cell? ⟨w.heap.size,1,none⟩=some (.int .i64 m.e):=M.e
 have cL:W.cell? ⟨w.heap.size,2,none⟩=some (.int .i64 m.l):=M.l
 have cV:W.cell? ⟨w.heap.size,3,none⟩=some (.int .i64 m.v):=M.v
 have cS:W.cell? ⟨w.heap.size,4,none⟩=some (.int .i64 m.s):=M.s
 have cQ:W.cell? ⟨w.heap.size,5,none⟩=some (.bool m.q):=M.q
 have cR:W.cell? ⟨w.heap.size,6,none⟩=some (.slice m.rs.a m.rs.xs.length m.rs.cap):=M.rs
 have c1:W.cell? ⟨w.heap.size,43,none⟩=some (.int .i64 m.ce):=M.ce
 have c2:W.cell? ⟨w.heap.size,44,none⟩=some (.int .i64 m.cl):=M.cl
 have c3:W.cell? ⟨w.heap.size,45,none⟩=some (.int .i64 m.cv):=M.cv
 have cH:W.cell? ⟨w.heap.size,46,none⟩=some (.slice m.he.a m.he.xs.length m.he.cap):=M.he
 have cN:W.cell? ⟨w.heap.size,47,none⟩=some (.slice m.ne.a m.ne.xs.length m.ne.cap):=M.ne
 have cT:W.cell? ⟨w.heap.size,117,none⟩=some (.string m.st):=M.st
 have cG:W.cell? ⟨w.heap.size,118,none⟩=some (.slice m.sg.a m.sg.xs.length m.sg.cap):=M.sg
 have rV:W.rangeAt (w.heap.size) 7 m.vt.cells:=M.vt
 have rC:W.rangeAt (w.heap.size) 80 (certL m.ct m.cs):=M.ct
 have gE:=fun w0=>zaf m.e 1048576 w0
 have gL:=fun w0=>zaf m.l 64 w0
 have gV:=fun w0=>zaf m.v 1099511627776 w0
 have gS:=fun w0=>zaf m.s 1099511627776 w0
 have gX:=fun w0=>zdx m.vt w0
 have gT:=fun(w0:World) (h0:Below W.heap.size W w0)=>zhu m.ct m.cs w0 om.ct (a1.cs.below h0)
 have gB:=fun(w0:World) (h0:Below W.heap.size W w0)=>zhR m.q m.rs w0 (a1.rs.below h0)
 have gC:=fun(w0:World) (h0:Below W.heap.size W w0)=>zmJ m.ce m.cl m.cv m.he w0 (a1.he.below h0)
 have gN:=fun(w0:World) (h0:Below W.heap.size W w0)=>znw m.ne 64 Ev.may w0 (a1.ne.below h0) (fun y _ w1 _=>zl6 y w1)
 have gG:=fun(w0:World) (h0:Below W.heap.size W w0)=>zfC m.sg w0 (a1.sg.below h0)
 unfold chgL at gC
 simp only[Sl.val]at gB gC gN gG
 unfold Mg.may Mg.mayL
 clear hA M om am a1
 generalize inB m.e 1048576=be at *
 generalize inB m.l 64=bl at *
 generalize inB m.v 1099511627776=bv at *
 generalize inB m.s 1099511627776=bs at *
 generalize m.vt.may=bx at *
 generalize certMay m.ct m.cs=bt at *
 generalize batMay m.q m.rs=b1 at *
 generalize chgMay m.ce m.cl m.cv m.he=b2 at *
 generalize Go.Proofs.YtcbpbkefggekmaaGreatDoor.mayL 64 Ev.may m.ne.xs=b3 at *
 generalize sgsMay m.sg=b5 at *
 generalize m.ms.cells=q at *
 generalize m.vt.cells=u at *
 generalize certL m.ct m.cs=uc at *
 obtain⟨k,e,l,v,s,qq,⟨ra,rc,rx⟩,vt,ce,cl,cv,⟨ha,hc,hx⟩,⟨na,nc,nx⟩,d,ct,cs,st,⟨ga,gc,gx⟩⟩:=m
 simp only at *
 by_cases hst:(st.size:Int)≤4194304
 rotate_left
 ·rw[decide_eq_false hst]
  have hst':(4194304:Int)<st.size:=by omega
  have hst2:decide ((st.size:Int)≤4194304)=false:=decide_eq_false hst
  by_cases h2:k=2
  ·rw[if_pos h2,if_neg (by omega)]
   subst h2
   go_enter func86,ntmps86
   go_upto_region 1 with fail
   go_name_world w1 hw1
   obtain rfl:W=w1:=hW.out.symm.trans hw1
   clear hw1 hW
   have HB:=hB
   have HW:Below W.heap.size W W:=Below.refl _ _
   go_wp2_with fail
   refine(gE _).mono ?_
   rintro e1 w1 ⟨rfl,hx0⟩
   obtain rfl:=hx0.symm
   clear hx0
   clear gE
   cases be
   ·go_wp2
    go_ret
    exact⟨by simp,HB⟩
   ·go_wp2_with fail
    refine(gL _).mono ?_
    rintro e1 w1 ⟨rfl,hx0⟩
    obtain rfl:=hx0.symm
    clear hx0
    clear gL
    cases bl
    ·go_wp2
     go_ret
     exact⟨by simp,HB⟩
    ·go_wp2_with fail
     refine(gV _).mono ?_
     rintro e1 w1 ⟨rfl,hx0⟩
     obtain rfl:=hx0.symm
     clear hx0
     clear gV
     cases bv
     ·go_wp2
      go_ret
      exact⟨by simp,HB⟩
     ·go_wp2_with fail
      refine(gS _).mono ?_
      rintro e1 w1 ⟨rfl,hx0⟩
      obtain rfl:=hx0.symm
      clear hx0
      clear gS
      cases bs
      ·go_wp2
       go_ret
       exact⟨by simp,HB⟩
      ·go_wp2_with (refine zM (by rfl) 43 _ rfl _ _ rfl u _ rV underlying43 rfl ix ?_)
       refine(gX _).mono ?_
       rintro e5 w5 ⟨rfl,hb5⟩
       have up:=fun i v (h:W.cell? ⟨w.heap.size,i,none⟩=some v)=>(hb5.cell (p:=⟨w.heap.size,i,none⟩) hs).trans h
       replace cK:=up _ _ cK
       replace cQ:=up _ _ cQ
       replace cR:=up _ _ cR
       replace c1:=up _ _ c1
       replace c2:=up _ _ c2
       replace c3:=up _ _ c3
       replace cH:=up _ _ cH
       replace cN:=up _ _ cN
       replace cT:=up _ _ cT
       replace cG:=up _ _ cG
       clear up
       replace HB:=HB.trans (hb5.mono (by omega))
       replace HW:=HW.trans (hb5.mono HW.size)
       replace hs:=Nat.lt_of_lt_of_le hs hb5.size
       clear hb5 gX
       cases bx
       ·go_wp2
        go_ret
        exact⟨by simp,HB⟩
       ·go_wp2_with fail
        refine(gB _ HW).mono ?_
        rintro e6 w6 ⟨rfl,hb6⟩
        have up:=fun i v (h:w5.cell? ⟨w.heap.size,i,none⟩=some v)=>(hb6.cell (p:=⟨w.heap.size,i,none⟩) hs).trans h
        replace c1:=up _ _ c1
        replace c2:=up _ _ c2
        replace c3:=up _ _ c3
        replace cH:=up _ _ cH
        replace cN:=up _ _ cN
        replace cT:=up _ _ cT
        replace cG:=up _ _ cG
        clear up
        replace HB:=HB.trans (hb6.mono (by omega))
        replace HW:=HW.trans (hb6.mono HW.size)
        replace hs:=Nat.lt_of_lt_of_le hs hb6.size
        clear hb6 gB
        cases b1
        ·go_wp2
         go_ret
         exact⟨by simp,HB⟩
        ·go_wp2_with fail
         refine(gC _ HW).mono ?_
         rintro e7 w7 ⟨rfl,hb7⟩
         have up:=fun i v (h:w6.cell? ⟨w.heap.size,i,none⟩=some v)=>(hb7.cell (p:=⟨w.heap.size,i,none⟩) hs).trans h
         replace cN:=up _ _ cN
         replace cT:=up _ _ cT
         replace cG:=up _ _ cG
         clear up
         replace HB:=HB.trans (hb7.mono (by omega))
         replace HW:=HW.trans (hb7.mono HW.size)
         replace hs:=Nat.lt_of_lt_of_le hs hb7.size
         clear hb7 gC
         cases b2
         ·go_wp2
          go_ret
          exact⟨by simp,HB⟩
         ·go_wp2_with fail
          refine(gN _ HW).mono ?_
          rintro e8 w8 ⟨rfl,hb8⟩
          have up:=fun i v (h:w7.cell? ⟨w.heap.size,i,none⟩=some v)=>(hb8.cell (p:=⟨w.heap.size,i,none⟩) hs).trans h
          replace cT:=up _ _ cT
          replace cG:=up _ _ cG
          clear up
          replace HB:=HB.trans (hb8.mono (by omega))
          replace HW:=HW.trans (hb8.mono HW.size)
          replace hs:=Nat.lt_of_lt_of_le hs hb8.size
          clear hb8 gN
          cases b3
          ·go_wp2
           go_ret
           exact⟨by simp,HB⟩
          ·clear gG
           go_wp2
           go_ret
           exact⟨by simp,HB⟩
  ·by_cases h7:k=7
   ·rw[if_neg h2,if_pos h7]
    subst h7
    clear h2
    go_enter func86,ntmps86
    go_upto_region 1 with fail
    go_name_world w1 hw1
    obtain rfl:W=w1:=hW.out.symm.trans hw1
    clear hw1 hW
    have HB:=hB
    have HW:Below W.heap.size W W:=Below.refl _ _
    go_wp2_with fail
    refine(gE _).mono ?_
    rintro e1 w1 ⟨rfl,hx0⟩
    obtain rfl:=hx0.symm
    clear hx0
    clear gE
    cases be
    ·go_wp2
     go_ret
     exact⟨by simp,HB⟩
    ·go_wp2_with fail
     refine(gL _).mono ?_
     rintro e1 w1 ⟨rfl,hx0⟩
     obtain rfl:=hx0.symm
     clear hx0
     clear gL
     cases bl
     ·go_wp2
      go_ret
      exact⟨by simp,HB⟩
     ·go_wp2_with fail
      refine(gV _).mono ?_
      rintro e1 w1 ⟨rfl,hx0⟩
      obtain rfl:=hx0.symm
      clear hx0
      clear gV
      cases bv
      ·go_wp2
       go_ret
       exact⟨by simp,HB⟩
      ·go_wp2_with fail
       refine(gS _).mono ?_
       rintro e1 w1 ⟨rfl,hx0⟩
       obtain rfl:=hx0.symm
       clear hx0
       clear gS
       cases bs
       ·go_wp2
        go_ret
        exact⟨by simp,HB⟩
       ·go_wp2_with (refine zM (by rfl) 50 _ rfl _ _ rfl uc _ rC underlying50 rfl ic ?_)
        refine(gT _ HW).mono ?_
        rintro e5 w5 ⟨rfl,hb5⟩
        have up:=fun i v (h:W.cell? ⟨w.heap.size,i,none⟩=some v)=>(hb5.cell (p:=⟨w.heap.size,i,none⟩) hs).trans h
        replace cQ:=up _ _ cQ
        replace cR:=up _ _ cR
        replace c1:=up _ _ c1
        replace c2:=up _ _ c2
        replace c3:=up _ _ c3
        replace cH:=up _ _ cH
        replace cN:=up _ _ cN
        replace cT:=up _ _ cT
        replace cG:=up _ _ cG
        clear up
        replace HB:=HB.trans (hb5.mono (by omega))
        replace HW:=HW.trans (hb5.mono HW.size)
        replace hs:=Nat.lt_of_lt_of_le hs hb5.size
        clear hb5 gT
        cases bt
        ·go_wp2
         go_ret
         exact⟨by simp,HB⟩
        ·go_wp2_with fail
         refine(gB _ HW).mono ?_
         rintro e6 w6 ⟨rfl,hb6⟩
         have up:=fun i v (h:w5.cell? ⟨w.heap.size,i,none⟩=some v)=>(hb6.cell (p:=⟨w.heap.size,i,none⟩) hs).trans h
         replace c1:=up _ _ c1
         replace c2:=up _ _ c2
         replace c3:=up _ _ c3
         replace cH:=up _ _ cH
         replace cN:=up _ _ cN
         replace cT:=up _ _ cT
         replace cG:=up _ _ cG
         clear up
         replace HB:=HB.trans (hb6.mono (by omega))
         replace HW:=HW.trans (hb6.mono HW.size)
         replace hs:=Nat.lt_of_lt_of_le hs hb6.size
         clear hb6 gB
         cases b1
         ·go_wp2
          go_ret
          exact⟨by simp,HB⟩
         ·go_wp2_with fail
          refine(gC _ HW).mono ?_
          rintro e7 w7 ⟨rfl,hb7⟩
          have up:=fun i v (h:w6.cell? ⟨w.heap.size,i,none⟩=some v)=>(hb7.cell (p:=⟨w.heap.size,i,none⟩) hs).trans h
          replace cN:=up _ _ cN
          replace cT:=up _ _ cT
          replace cG:=up _ _ cG
          clear up
          replace HB:=HB.trans (hb7.mono (by omega))
          replace HW:=HW.trans (hb7.mono HW.size)
          replace hs:=Nat.lt_of_lt_of_le hs hb7.size
          clear hb7 gC
          cases b2
          ·go_wp2
           go_ret
           exact⟨by simp,HB⟩
          ·go_wp2_with fail
           refine(gN _ HW).mono ?_
           rintro e8 w8 ⟨rfl,hb8⟩
           have up:=fun i v (h:w7.cell? ⟨w.heap.size,i,none⟩=some v)=>(hb8.cell (p:=⟨w.heap.size,i,none⟩) hs).trans h
           replace cT:=up _ _ cT
           replace cG:=up _ _ cG
           clear up
           replace HB:=HB.trans (hb8.mono (by omega))
           replace HW:=HW.trans (hb8.mono HW.size)
           replace hs:=Nat.lt_of_lt_of_le hs hb8.size
           clear hb8 gN
           cases b3
           ·go_wp2
            go_ret
            exact⟨by simp,HB⟩
           ·clear gG
            go_wp2
            go_ret
            exact⟨by simp,HB⟩
   ·rw[if_neg h2,if_neg h7]
    have n2:(k==2)=false:=beq_eq_false_iff_ne.2 h2
    have n7:(k==7)=false:=beq_eq_false_iff_ne.2 h7
    clear h2 h7
    go_enter func86,ntmps86
    go_upto_region 1 with fail
    go_name_world w1 hw1
    obtain rfl:W=w1:=hW.out.symm.trans hw1
    clear hw1 hW
    have HB:=hB
    have HW:Below W.heap.size W W:=Below.refl _ _
    go_wp2_with fail
    refine(gE _).mono ?_
    rintro e1 w1 ⟨rfl,hx0⟩
    obtain rfl:=hx0.symm
    clear hx0
    clear gE
    cases be
    ·go_wp2
     go_ret
     exact⟨by simp,HB⟩
    ·go_wp2_with fail
     refine(gL _).mono ?_
     rintro e1 w1 ⟨rfl,hx0⟩
     obtain rfl:=hx0.symm
     clear hx0
     clear gL
     cases bl
     ·go_wp2
      go_ret
      exact⟨by simp,HB⟩
     ·go_wp2_with fail
      refine(gV _).mono ?_
      rintro e1 w1 ⟨rfl,hx0⟩
      obtain rfl:=hx0.symm
      clear hx0
      clear gV
      cases bv
      ·go_wp2
       go_ret
       exact⟨by simp,HB⟩
      ·go_wp2_with fail
       refine(gS _).mono ?_
       rintro e1 w1 ⟨rfl,hx0⟩
       obtain rfl:=hx0.symm
       clear hx0
       clear gS
       cases bs
       ·go_wp2
        go_ret
        exact⟨by simp,HB⟩
       ·go_wp2_with fail
        refine(gB _ HW).mono ?_
        rintro e6 w6 ⟨rfl,hb6⟩
        have up:=fun i v (h:W.cell? ⟨w.heap.size,i,none⟩=some v)=>(hb6.cell (p:=⟨w.heap.size,i,none⟩) hs).trans h
        replace c1:=up _ _ c1
        replace c2:=up _ _ c2
        replace c3:=up _ _ c3
        replace cH:=up _ _ cH
        replace cN:=up _ _ cN
        replace cT:=up _ _ cT
        replace cG:=up _ _ cG
        clear up
        replace HB:=HB.trans (hb6.mono (by omega))
        replace HW:=HW.trans (hb6.mono HW.size)
        replace hs:=Nat.lt_of_lt_of_le hs hb6.size
        clear hb6 gB
        cases b1
        ·go_wp2
         go_ret
         exact⟨by simp,HB⟩
        ·go_wp2_with fail
         refine(gC _ HW).mono ?_
         rintro e7 w7 ⟨rfl,hb7⟩
         have up:=fun i v (h:w6.cell? ⟨w.heap.size,i,none⟩=some v)=>(hb7.cell (p:=⟨w.heap.size,i,none⟩) hs).trans h
         replace cN:=up _ _ cN
         replace cT:=up _ _ cT
         replace cG:=up _ _ cG
         clear up
         replace HB:=HB.trans (hb7.mono (by omega))
         replace HW:=HW.trans (hb7.mono HW.size)
         replace hs:=Nat.lt_of_lt_of_le hs hb7.size
         clear hb7 gC
         cases b2
         ·go_wp2
          go_ret
          exact⟨by simp,HB⟩
         ·go_wp2_with fail
          refine(gN _ HW).mono ?_
          rintro e8 w8 ⟨rfl,hb8⟩
          have up:=fun i v (h:w7.cell? ⟨w.heap.size,i,none⟩=some v)=>(hb8.cell (p:=⟨w.heap.size,i,none⟩) hs).trans h
          replace cT:=up _ _ cT
          replace cG:=up _ _ cG
          clear up
          replace HB:=HB.trans (hb8.mono (by omega))
          replace HW:=HW.trans (hb8.mono HW.size)
          replace hs:=Nat.lt_of_lt_of_le hs hb8.size
          clear hb8 gN
          cases b3
          ·go_wp2
           go_ret
           exact⟨by simp,HB⟩
          ·clear gG
           go_wp2
           go_ret
           exact⟨by simp,HB⟩
 ·rw[decide_eq_true hst]
  by_cases h2:k=2
  ·rw[if_pos h2,if_neg (by omega)]
   subst h2
   go_enter func86,ntmps86
   go_upto_region 1 with fail
   go_name_world w1 hw1
   obtain rfl:W=w1:=hW.out.symm.trans hw1
   clear hw1 hW
   have HB:=hB
   have HW:Below W.heap.size W W:=Below.refl _ _
   go_wp2_with fail
   refine(gE _).mono ?_
   rintro e1 w1 ⟨rfl,hx0⟩
   obtain rfl:=hx0.symm
   clear hx0
   clear gE
   cases be
   ·go_wp2
    go_ret
    exact⟨by simp,HB⟩
   ·go_wp2_with fail
    refine(gL _).mono ?_
    rintro e1 w1 ⟨rfl,hx0⟩
    obtain rfl:=hx0.symm
    clear hx0
    clear gL
    cases bl
    ·go_wp2
     go_ret
     exact⟨by simp,HB⟩
    ·go_wp2_with fail
     refine(gV _).mono ?_
     rintro e1 w1 ⟨rfl,hx0⟩
     obtain rfl:=hx0.symm
     clear hx0
     clear gV
     cases bv
     ·go_wp2
      go_ret
      exact⟨by simp,HB⟩
     ·go_wp2_with fail
      refine(gS _).mono ?_
      rintro e1 w1 ⟨rfl,hx0⟩
      obtain rfl:=hx0.symm
      clear hx0
      clear gS
      cases bs
      ·go_wp2
       go_ret
       exact⟨by simp,HB⟩
      ·go_wp2_with (refine zM (by rfl) 43 _ rfl _ _ rfl u _ rV underlying43 rfl ix ?_)
       refine(gX _).mono ?_
       rintro e5 w5 ⟨rfl,hb5⟩
       have up:=fun i v (h:W.cell? ⟨w.heap.size,i,none⟩=some v)=>(hb5.cell (p:=⟨w.heap.size,i,none⟩) hs).trans h
       replace cK:=up _ _ cK
       replace cQ:=up _ _ cQ
       replace cR:=up _ _ cR
       replace c1:=up _ _ c1
       replace c2:=up _ _ c2
       replace c3:=up _ _ c3
       replace cH:=up _ _ cH
       replace cN:=up _ _ cN
       replace cT:=up _ _ cT
       replace cG:=up _ _ cG
       clear up
       replace HB:=HB.trans (hb5.mono (by omega))
       replace HW:=HW.trans (hb5.mono HW.size)
       replace hs:=Nat.lt_of_lt_of_le hs hb5.size
       clear hb5 gX
       cases bx
       ·go_wp2
        go_ret
        exact⟨by simp,HB⟩
       ·go_wp2_with fail
        refine(gB _ HW).mono ?_
        rintro e6 w6 ⟨rfl,hb6⟩
        have up:=fun i v (h:w5.cell? ⟨w.heap.size,i,none⟩=some v)=>(hb6.cell (p:=⟨w.heap.size,i,none⟩) hs).trans h
        replace c1:=up _ _ c1
        replace c2:=up _ _ c2
        replace c3:=up _ _ c3
        replace cH:=up _ _ cH
        replace cN:=up _ _ cN
        replace cT:=up _ _ cT
        replace cG:=up _ _ cG
        clear up
        replace HB:=HB.trans (hb6.mono (by omega))
        replace HW:=HW.trans (hb6.mono HW.size)
        replace hs:=Nat.lt_of_lt_of_le hs hb6.size
        clear hb6 gB
        cases b1
        ·go_wp2
         go_ret
         exact⟨by simp,HB⟩
        ·go_wp2_with fail
         refine(gC _ HW).mono ?_
         rintro e7 w7 ⟨rfl,hb7⟩
         have up:=fun i v (h:w6.cell? ⟨w.heap.size,i,none⟩=some v)=>(hb7.cell (p:=⟨w.heap.size,i,none⟩) hs).trans h
         replace cN:=up _ _ cN
         replace cT:=up _ _ cT
         replace cG:=up _ _ cG
         clear up
         replace HB:=HB.trans (hb7.mono (by omega))
         replace HW:=HW.trans (hb7.mono HW.size)
         replace hs:=Nat.lt_of_lt_of_le hs hb7.size
         clear hb7 gC
         cases b2
         ·go_wp2
          go_ret
          exact⟨by simp,HB⟩
         ·go_wp2_with fail
          refine(gN _ HW).mono ?_
          rintro e8 w8 ⟨rfl,hb8⟩
          have up:=fun i v (h:w7.cell? ⟨w.heap.size,i,none⟩=some v)=>(hb8.cell (p:=⟨w.heap.size,i,none⟩) hs).trans h
          replace cT:=up _ _ cT
          replace cG:=up _ _ cG
          clear up
          replace HB:=HB.trans (hb8.mono (by omega))
          replace HW:=HW.trans (hb8.mono HW.size)
          replace hs:=Nat.lt_of_lt_of_le hs hb8.size
          clear hb8 gN
          cases b3
          ·go_wp2
           go_ret
           exact⟨by simp,HB⟩
          ·go_wp2_with fail
           refine(gG _ HW).mono ?_
           rintro e9 w9 ⟨rfl,hb9⟩
           replace HB:=HB.trans (hb9.mono (by omega))
           clear hb9 gG
           cases b5
           all_goals
            go_wp2
            go_ret
            exact⟨by first|rfl|simp,HB⟩
  ·by_cases h7:k=7
   ·rw[if_neg h2,if_pos h7]
    subst h7
    clear h2
    go_enter func86,ntmps86
    go_upto_region 1 with fail
    go_name_world w1 hw1
    obtain rfl:W=w1:=hW.out.symm.trans hw1
    clear hw1 hW
    have HB:=hB
    have HW:Below W.heap.size W W:=Below.refl _ _
    go_wp2_with fail
    refine(gE _).mono ?_
    rintro e1 w1 ⟨rfl,hx0⟩
    obtain rfl:=hx0.symm
    clear hx0
    clear gE
    cases be
    ·go_wp2
     go_ret
     exact⟨by simp,HB⟩
    ·go_wp2_with fail
     refine(gL _).mono ?_
     rintro e1 w1 ⟨rfl,hx0⟩
     obtain rfl:=hx0.symm
     clear hx0
     clear gL
     cases bl
     ·go_wp2
      go_ret
      exact⟨by simp,HB⟩
     ·go_wp2_with fail
      refine(gV _).mono ?_
      rintro e1 w1 ⟨rfl,hx0⟩
      obtain rfl:=hx0.symm
      clear hx0
      clear gV
      cases bv
      ·go_wp2
       go_ret
       exact⟨by simp,HB⟩
      ·go_wp2_with fail
       refine(gS _).mono ?_
       rintro e1 w1 ⟨rfl,hx0⟩
       obtain rfl:=hx0.symm
       clear hx0
       clear gS
       cases bs
       ·go_wp2
        go_ret
        exact⟨by simp,HB⟩
       ·go_wp2_with (refine zM (by rfl) 50 _ rfl _ _ rfl uc _ rC underlying50 rfl ic ?_)
        refine(gT _ HW).mono ?_
        rintro e5 w5 ⟨rfl,hb5⟩
        have up:=fun i v (h:W.cell? ⟨w.heap.size,i,none⟩=some v)=>(hb5.cell (p:=⟨w.heap.size,i,none⟩) hs).trans h
        replace cQ:=up _ _ cQ
        replace cR:=up _ _ cR
        replace c1:=up _ _ c1
        replace c2:=up _ _ c2
        replace c3:=up _ _ c3
        replace cH:=up _ _ cH
        replace cN:=up _ _ cN
        replace cT:=up _ _ cT
        replace cG:=up _ _ cG
        clear up
        replace HB:=HB.trans (hb5.mono (by omega))
        replace HW:=HW.trans (hb5.mono HW.size)
        replace hs:=Nat.lt_of_lt_of_le hs hb5.size
        clear hb5 gT
        cases bt
        ·go_wp2
         go_ret
         exact⟨by simp,HB⟩
        ·go_wp2_with fail
         refine(gB _ HW).mono ?_
         rintro e6 w6 ⟨rfl,hb6⟩
         have up:=fun i v (h:w5.cell? ⟨w.heap.size,i,none⟩=some v)=>(hb6.cell (p:=⟨w.heap.size,i,none⟩) hs).trans h
         replace c1:=up _ _ c1
         replace c2:=up _ _ c2
         replace c3:=up _ _ c3
         replace cH:=up _ _ cH
         replace cN:=up _ _ cN
         replace cT:=up _ _ cT
         replace cG:=up _ _ cG
         clear up
         replace HB:=HB.trans (hb6.mono (by omega))
         replace HW:=HW.trans (hb6.mono HW.size)
         replace hs:=Nat.lt_of_lt_of_le hs hb6.size
         clear hb6 gB
         cases b1
         ·go_wp2
          go_ret
          exact⟨by simp,HB⟩
         ·go_wp2_with fail
          refine(gC _ HW).mono ?_
          rintro e7 w7 ⟨rfl,hb7⟩
          have up:=fun i v (h:w6.cell? ⟨w.heap.size,i,none⟩=some v)=>(hb7.cell (p:=⟨w.heap.size,i,none⟩) hs).trans h
          replace cN:=up _ _ cN
          replace cT:=up _ _ cT
          replace cG:=up _ _ cG
          clear up
          replace HB:=HB.trans (hb7.mono (by omega))
          replace HW:=HW.trans (hb7.mono HW.size)
          replace hs:=Nat.lt_of_lt_of_le hs hb7.size
          clear hb7 gC
          cases b2
          ·go_wp2
           go_ret
           exact⟨by simp,HB⟩
          ·go_wp2_with fail
           refine(gN _ HW).mono ?_
           rintro e8 w8 ⟨rfl,hb8⟩
           have up:=fun i v (h:w7.cell? ⟨w.heap.size,i,none⟩=some v)=>(hb8.cell (p:=⟨w.heap.size,i,none⟩) hs).trans h
           replace cT:=up _ _ cT
           replace cG:=up _ _ cG
           clear up
           replace HB:=HB.trans (hb8.mono (by omega))
           replace HW:=HW.trans (hb8.mono HW.size)
           replace hs:=Nat.lt_of_lt_of_le hs hb8.size
           clear hb8 gN
           cases b3
           ·go_wp2
            go_ret
            exact⟨by simp,HB⟩
           ·go_wp2_with fail
            refine(gG _ HW).mono ?_
            rintro e9 w9 ⟨rfl,hb9⟩
            replace HB:=HB.trans (hb9.mono (by omega))
            clear hb9 gG
            cases b5
            all_goals
             go_wp2
             go_ret
             exact⟨by first|rfl|simp,HB⟩
   ·rw[if_neg h2,if_neg h7]
    have n2:(k==2)=false:=beq_eq_false_iff_ne.2 h2
    have n7:(k==7)=false:=beq_eq_false_iff_ne.2 h7
    clear h2 h7
    go_enter func86,ntmps86
    go_upto_region 1 with fail
    go_name_world w1 hw1
    obtain rfl:W=w1:=hW.out.symm.trans hw1
    clear hw1 hW
    have HB:=hB
    have HW:Below W.heap.size W W:=Below.refl _ _
    go_wp2_with fail
    refine(gE _).mono ?_
    rintro e1 w1 ⟨rfl,hx0⟩
    obtain rfl:=hx0.symm
    clear hx0
    clear gE
    cases be
    ·go_wp2
     go_ret
     exact⟨by simp,HB⟩
    ·go_wp2_with fail
     refine(gL _).mono ?_
     rintro e1 w1 ⟨rfl,hx0⟩
     obtain rfl:=hx0.symm
     clear hx0
     clear gL
     cases bl
     ·go_wp2
      go_ret
      exact⟨by simp,HB⟩
     ·go_wp2_with fail
      refine(gV _).mono ?_
      rintro e1 w1 ⟨rfl,hx0⟩
      obtain rfl:=hx0.symm
      clear hx0
      clear gV
      cases bv
      ·go_wp2
       go_ret
       exact⟨by simp,HB⟩
      ·go_wp2_with fail
       refine(gS _).mono ?_
       rintro e1 w1 ⟨rfl,hx0⟩
       obtain rfl:=hx0.symm
       clear hx0
       clear gS
       cases bs
       ·go_wp2
        go_ret
        exact⟨by simp,HB⟩
       ·go_wp2_with fail
        refine(gB _ HW).mono ?_
        rintro e6 w6 ⟨rfl,hb6⟩
        have up:=fun i v (h:W.cell? ⟨w.heap.size,i,none⟩=some v)=>(hb6.cell (p:=⟨w.heap.size,i,none⟩) hs).trans h
        replace c1:=up _ _ c1
        replace c2:=up _ _ c2
        replace c3:=up _ _ c3
        replace cH:=up _ _ cH
        replace cN:=up _ _ cN
        replace cT:=up _ _ cT
        replace cG:=up _ _ cG
        clear up
        replace HB:=HB.trans (hb6.mono (by omega))
        replace HW:=HW.trans (hb6.mono HW.size)
        replace hs:=Nat.lt_of_lt_of_le hs hb6.size
        clear hb6 gB
        cases b1
        ·go_wp2
         go_ret
         exact⟨by simp,HB⟩
        ·go_wp2_with fail
         refine(gC _ HW).mono ?_
         rintro e7 w7 ⟨rfl,hb7⟩
         have up:=fun i v (h:w6.cell? ⟨w.heap.size,i,none⟩=some v)=>(hb7.cell (p:=⟨w.heap.size,i,none⟩) hs).trans h
         replace cN:=up _ _ cN
         replace cT:=up _ _ cT
         replace cG:=up _ _ cG
         clear up
         replace HB:=HB.trans (hb7.mono (by omega))
         replace HW:=HW.trans (hb7.mono HW.size)
         replace hs:=Nat.lt_of_lt_of_le hs hb7.size
         clear hb7 gC
         cases b2
         ·go_wp2
          go_ret
          exact⟨by simp,HB⟩
         ·go_wp2_with fail
          refine(gN _ HW).mono ?_
          rintro e8 w8 ⟨rfl,hb8⟩
          have up:=fun i v (h:w7.cell? ⟨w.heap.size,i,none⟩=some v)=>(hb8.cell (p:=⟨w.heap.size,i,none⟩) hs).trans h
          replace cT:=up _ _ cT
          replace cG:=up _ _ cG
          clear up
          replace HB:=HB.trans (hb8.mono (by omega))
          replace HW:=HW.trans (hb8.mono HW.size)
          replace hs:=Nat.lt_of_lt_of_le hs hb8.size
          clear hb8 gN
          cases b3
          ·go_wp2
           go_ret
           exact⟨by simp,HB⟩
          ·go_wp2_with fail
           refine(gG _ HW).mono ?_
           rintro e9 w9 ⟨rfl,hb9⟩
           replace HB:=HB.trans (hb9.mono (by omega))
           clear hb9 gG
           cases b5
           all_goals
            go_wp2
            go_ret
            exact⟨by first|rfl|simp,HB⟩
def Mg.plain (k:Int):Mg:=⟨k,0,0,0,0,false,⟨none,0,[]⟩,Vt.zero,0,0,0,⟨none,0,[]⟩,⟨none,0,[]⟩,zd,Vt.zero,⟨none,0,[]⟩,⟨#[]⟩,⟨none,0,[]⟩⟩
theorem Mg.plain_ok (k:Int):(Mg.plain k).ok:=⟨Vt.zero_ok,Vt.zero_ok,zt,zx⟩
theorem zan {w:World}:HdsAt w ⟨none,0,[]⟩:=⟨RowsAt.none,fun _ h=>by cases h⟩
def Mg.bare (m:Mg):Mg:=
 if m.k=1 then {Mg.plain 1 with q:=m.q,rs:=m.rs,e:=m.e,s:=m.s}
 else if m.k=2 then {Mg.plain 2 with vt:=m.vt}
 else if m.k=3 then {Mg.plain 3 with ce:=m.ce,cl:=m.cl,cv:=m.cv,he:=m.he}
 else if m.k=4 then {Mg.plain 4 with e:=m.e,l:=m.l,v:=m.v,ne:=m.ne}
 else if m.k=5 then {Mg.plain 5 with e:=m.e,d:=m.d}
 else if m.k=6 then {Mg.plain 6 with e:=m.e,s:=m.s}
 else if m.k=7 then {Mg.plain 7 with q:=m.q,rs:=m.rs,ct:=m.ct,cs:=m.cs}
 else if m.k=8 then {Mg.plain 8 with st:=m.st,sg:=m.sg}
 else Mg.plain m.k
theorem Mg.bare_1 {m:Mg} (h:m.k=1):m.bare={Mg.plain 1 with q:=m.q,rs:=m.rs,e:=m.e,s:=m.s}:=by unfold Mg.bare;rw[h];rfl
theorem Mg.bare_2 {m:Mg} (h:m.k=2):m.bare={Mg.plain 2 with vt:=m.vt}:=by unfold Mg.bare;rw[h];rfl
theorem Mg.bare_3 {m:Mg} (h:m.k=3):m.bare={Mg.plain 3 with ce:=m.ce,cl:=m.cl,cv:=m.cv,he:=m.he}:=by unfold Mg.bare;rw[h];rfl
theorem Mg.bare_4 {m:Mg} (h:m.k=4):m.bare={Mg.plain 4 with e:=m.e,l:=m.l,v:=m.v,ne:=m.ne}:=by unfold Mg.bare;rw[h];rfl
theorem Mg.bare_5 {m:Mg} (h:m.k=5):m.bare={Mg.plain 5 with e:=m.e,d:=m.d}:=by unfold Mg.bare;rw[h];rfl
theorem Mg.bare_6 {m:Mg} (h:m.k=6):m.bare={Mg.plain 6 with e:=m.e,s:=m.s}:=by unfold Mg.bare;rw[h];rfl
theorem Mg.bare_7 {m:Mg} (h:m.k=7):m.bare={Mg.plain 7 with q:=m.q,rs:=m.rs,ct:=m.ct,cs:=m.cs}:=by unfold Mg.bare;rw[h];rfl
theorem Mg.bare_8 {m:Mg} (h:m.k=8):m.bare={Mg.plain 8 with st:=m.st,sg:=m.sg}:=by unfold Mg.bare;rw[h];rfl
theorem Mg.bare_ok {m:Mg} (h:m.ok) (h1:1≤m.k) (h8:m.k≤8):m.bare.ok:=by
 have hk:m.k=1∨m.k=2∨m.k=3∨m.k=4∨m.k=5∨m.k=6∨m.k=7∨m.k=8:=by omega
 have p:=fun k=>Mg.plain_ok k
 rcases hk with hk|hk|hk|hk|hk|hk|hk|hk
 ·rw[Mg.bare_1 hk];exact⟨by first|exact h.vt|exact(p 0).vt,by first|exact h.ct|exact(p 0).ct,by first|exact h.dl|exact(p 0).dl,by first|exact h.db|exact(p 0).db⟩
 ·rw[Mg.bare_2 hk];exact⟨by first|exact h.vt|exact(p 0).vt,by first|exact h.ct|exact(p 0).ct,by first|exact h.dl|exact(p 0).dl,by first|exact h.db|exact(p 0).db⟩
 ·rw[Mg.bare_3 hk];exact⟨by first|exact h.vt|exact(p 0).vt,by first|exact h.ct|exact(p 0).ct,by first|exact h.dl|exact(p 0).dl,by first|exact h.db|exact(p 0).db⟩
 ·rw[Mg.bare_4 hk];exact⟨by first|exact h.vt|exact(p 0).vt,by first|exact h.ct|exact(p 0).ct,by first|exact h.dl|exact(p 0).dl,by first|exact h.db|exact(p 0).db⟩
 ·rw[Mg.bare_5 hk];exact⟨by first|exact h.vt|exact(p 0).vt,by first|exact h.ct|exact(p 0).ct,by first|exact h.dl|exact(p 0).dl,by first|exact h.db|exact(p 0).db⟩
 ·rw[Mg.bare_6 hk];exact⟨by first|exact h.vt|exact(p 0).vt,by first|exact h.ct|exact(p 0).ct,by first|exact h.dl|exact(p 0).dl,by first|exact h.db|exact(p 0).db⟩
 ·rw[Mg.bare_7 hk];exact⟨by first|exact h.vt|exact(p 0).vt,by first|exact h.ct|exact(p 0).ct,by first|exact h.dl|exact(p 0).dl,by first|exact h.db|exact(p 0).db⟩
 ·rw[Mg.bare_8 hk];exact⟨by first|exact h.vt|exact(p 0).vt,by first|exact h.ct|exact(p 0).ct,by first|exact h.dl|exact(p 0).dl,by first|exact h.db|exact(p 0).db⟩
theorem Mg.bare_at {m:Mg} {w:World} (h:m.At w) (h1:1≤m.k) (h8:m.k≤8):m.bare.At w:=by
 have hk:m.k=1∨m.k=2∨m.k=3∨m.k=4∨m.k=5∨m.k=6∨m.k=7∨m.k=8:=by omega
 rcases hk with hk|hk|hk|hk|hk|hk|hk|hk
 ·rw[Mg.bare_1 hk];exact⟨by first|exact h.rs|exact RowsAt.none,by first|exact h.he|exact zan,by first|exact h.ne|exact RowsAt.none,by first|exact h.cs|exact RowsAt.none,by first|exact h.sg|exact RowsAt.none⟩
 ·rw[Mg.bare_2 hk];exact⟨by first|exact h.rs|exact RowsAt.none,by first|exact h.he|exact zan,by first|exact h.ne|exact RowsAt.none,by first|exact h.cs|exact RowsAt.none,by first|exact h.sg|exact RowsAt.none⟩
 ·rw[Mg.bare_3 hk];exact⟨by first|exact h.rs|exact RowsAt.none,by first|exact h.he|exact zan,by first|exact h.ne|exact RowsAt.none,by first|exact h.cs|exact RowsAt.none,by first|exact h.sg|exact RowsAt.none⟩
 ·rw[Mg.bare_4 hk];exact⟨by first|exact h.rs|exact RowsAt.none,by first|exact h.he|exact zan,by first|exact h.ne|exact RowsAt.none,by first|exact h.cs|exact RowsAt.none,by first|exact h.sg|exact RowsAt.none⟩
 ·rw[Mg.bare_5 hk];exact⟨by first|exact h.rs|exact RowsAt.none,by first|exact h.he|exact zan,by first|exact h.ne|exact RowsAt.none,by first|exact h.cs|exact RowsAt.none,by first|exact h.sg|exact RowsAt.none⟩
 ·rw[Mg.bare_6 hk];exact⟨by first|exact h.rs|exact RowsAt.none,by first|exact h.he|exact zan,by first|exact h.ne|exact RowsAt.none,by first|exact h.cs|exact RowsAt.none,by first|exact h.sg|exact RowsAt.none⟩
 ·rw[Mg.bare_7 hk];exact⟨by first|exact h.rs|exact RowsAt.none,by first|exact h.he|exact zan,by first|exact h.ne|exact RowsAt.none,by first|exact h.cs|exact RowsAt.none,by first|exact h.sg|exact RowsAt.none⟩
 ·rw[Mg.bare_8 hk];exact⟨by first|exact h.rs|exact RowsAt.none,by first|exact h.he|exact zan,by first|exact h.ne|exact RowsAt.none,by first|exact h.cs|exact RowsAt.none,by first|exact h.sg|exact RowsAt.none⟩
theorem znj (m:Mg) (om:m.ok) (h1:1≤m.k) (h8:m.k≤8) (w:World):Calls prog 85 #[.agg m.ms.cells.toArray] w (BareOk w m.bare.ms.cells):=by
 have hk:m.k=1∨m.k=2∨m.k=3∨m.k=4∨m.k=5∨m.k=6∨m.k=7∨m.k=8:=by omega
 rcases hk with hk|hk|hk|hk|hk|hk|hk|hk
 ·rw[Mg.bare_1 hk];exact zhU m.ms om.ms hk w
 ·rw[Mg.bare_2 hk];exact znq m.ms om.ms hk w
 ·rw[Mg.bare_3 hk];exact znp m.ms om.ms hk w
 ·rw[Mg.bare_4 hk];exact zno m.ms om.ms hk w
 ·rw[Mg.bare_5 hk];exact znn m.ms om.ms hk w
 ·rw[Mg.bare_6 hk];exact znm m.ms om.ms hk w
 ·rw[Mg.bare_7 hk];exact znl m.ms om.ms hk w
 ·rw[Mg.bare_8 hk];exact znk m.ms om.ms hk w
def Mg.good (m:Mg):Bool:=decide (1≤m.k∧m.k≤8)&&(Mg.B m m.bare&&m.may)
theorem goodW (q q':List Value) (k:Int) (b1 b2:Bool) (w:World) (hq:q.length=119) (h0:q[0]? =some (.int .i64 k))
  (kb:1≤k→k≤8→∀w0,Below w.heap.size w w0→Calls prog 85 #[.agg q.toArray] w0 (BareOk w0 q'))
  (ks:1≤k→k≤8→∀w0,Below w.heap.size w w0→Calls prog 84 #[.agg q.toArray,.agg q'.toArray] w0 fun e w'=>e=.returned (.bool b1)∧Below w0.heap.size w0 w')
  (kf:∀w0,Below w.heap.size w w0→Calls prog 86 #[.agg q.toArray] w0 fun e w'=>e=.returned (.bool b2)∧Below w0.heap.size w0 w'):
  Calls prog 57 #[.agg q.toArray] w fun e w'=>e=.returned (.bool (decide (1≤k∧k≤8)&&(b1&&b2)))∧Below w.heap.size w w':=by
 have hB:Below w.heap.size w (w.alloc (.cells q.toArray 52)):=(Below.refl _ _).alloc (Nat.le_refl _) _
 have hs:w.heap.size<(w.alloc (.cells q.toArray 52)).heap.size:=by simp
 have hA:(w.alloc (.cells q.toArray 52)).rangeAt w.heap.size 0 q:=by simpa using zC w q.toArray 52
 have c0:=hA 0 _ h0
 simp only[Nat.add_zero]at c0
 have iq:(prog.info? 52).map (·.size)=some q.length:=by rw[hq];exact iszM
 clear hq h0
 by_cases hk:1≤k∧k≤8
 ·rw[decide_eq_true hk,Bool.true_and]
  replace kb:=kb hk.1 hk.2
  replace ks:=ks hk.1 hk.2
  obtain⟨h1,h8⟩:=hk
  cases b1
  ·rw[Bool.false_and]
   go_enter func57,ntmps57
   go_upto_region 2 with fail
   obtain⟨w8,hw8⟩:∃w8,(w.alloc (.cells q.toArray 52)).drew=w8:=⟨_,rfl⟩
   have hB8:Below w.heap.size w w8:=by rw[←hw8];exact hB.drew
   have hA8:w8.rangeAt w.heap.size 0 q:=by rw[←hw8];exact(World.rangeAt_drew _ _ _ _).2 hA
   have hs8:w.heap.size<w8.heap.size:=by rw[←hw8];exact hs
   have gb:=fun w0 (h0:Below w8.heap.size w8 w0)=>kb w0 (hB8.trans (h0.mono hB8.size))
   have gs:=fun w0 (h0:Below w8.heap.size w8 w0)=>ks w0 (hB8.trans (h0.mono hB8.size))
   have gf:=fun w0 (h0:Below w8.heap.size w8 w0)=>kf w0 (hB8.trans (h0.mono hB8.size))
   refine zw (S:=(Below w8.heap.size w8)) 12 rfl (by kernel_rfl) ?_
   rw[hw8]
   clear hw8 hA hB hs c0 kb ks kf
   have hS:(Below w8.heap.size w8) w8:=Below.refl _ _
   refine hs_a 0 12 hS ?_
   refine hs_a 1 13 hS ?_
   refine hs_v 2 14 (.agg q.toArray) rfl (fun w' hw=>zu rfl rfl (run_loadVar_mid (P:=prog) w' w.heap.size 0 52 q _ (za hA8 hw hs8) underlying52 rfl iq)) hS ?_
   refine hs_v 3 15 (.agg q.toArray) rfl (fun w' hw=>zu rfl rfl (run_loadVar_mid (P:=prog) w' w.heap.size 0 52 q _ (za hA8 hw hs8) underlying52 rfl iq)) hS ?_
   refine hs_c 4 16 ?_
   refine(gb _ hS).mono ?_
   rintro e' wn1 ⟨rfl,hb1⟩
   have hS:(Below w8.heap.size w8) wn1:=hS.trans (hb1.mono hS.size)
   refine⟨_,rfl,hS,?_⟩
   simp only[nz]
   refine hs_c 5 17 ?_
   refine(gs _ hS).mono ?_
   rintro e' wn2 ⟨rfl,hb2⟩
   have hS:(Below w8.heap.size w8) wn2:=hS.trans (hb2.mono hS.size)
   refine⟨_,rfl,hS,?_⟩
   simp only[nz]
   refine hs_a 6 18 hS ?_
   refine hs_a 7 19 hS ?_
   refine hs_k 8 20 hS ?_
   refine hs_k 9 21 hS ?_
   refine hs_a 10 22 hS ?_
   refine hs_a 11 2 hS ?_
   refine zv (by kernel_rfl) ?_
   go_wp2
   go_ret
   exact⟨rfl,hB8.trans (hS.mono hB8.size)⟩
  ·rw[Bool.true_and]
   go_enter func57,ntmps57
   go_upto_region 2 with fail
   obtain⟨w8,hw8⟩:∃w8,(w.alloc (.cells q.toArray 52)).drew=w8:=⟨_,rfl⟩
   have hB8:Below w.heap.size w w8:=by rw[←hw8];exact hB.drew
   have hA8:w8.rangeAt w.heap.size 0 q:=by rw[←hw8];exact(World.rangeAt_drew _ _ _ _).2 hA
   have hs8:w.heap.size<w8.heap.size:=by rw[←hw8];exact hs
   have gb:=fun w0 (h0:Below w8.heap.size w8 w0)=>kb w0 (hB8.trans (h0.mono hB8.size))
   have gs:=fun w0 (h0:Below w8.heap.size w8 w0)=>ks w0 (hB8.trans (h0.mono hB8.size))
   have gf:=fun w0 (h0:Below w8.heap.size w8 w0)=>kf w0 (hB8.trans (h0.mono hB8.size))
   refine zw (S:=(Below w8.heap.size w8)) 12 rfl (by kernel_rfl) ?_
   rw[hw8]
   clear hw8 hA hB hs c0 kb ks kf
   have hS:(Below w8.heap.size w8) w8:=Below.refl _ _
   refine hs_a 0 12 hS ?_
   refine hs_a 1 13 hS ?_
   refine hs_v 2 14 (.agg q.toArray) rfl (fun w' hw=>zu rfl rfl (run_loadVar_mid (P:=prog) w' w.heap.size 0 52 q _ (za hA8 hw hs8) underlying52 rfl iq)) hS ?_
   refine hs_v 3 15 (.agg q.toArray) rfl (fun w' hw=>zu rfl rfl (run_loadVar_mid (P:=prog) w' w.heap.size 0 52 q _ (za hA8 hw hs8) underlying52 rfl iq)) hS ?_
   refine hs_c 4 16 ?_
   refine(gb _ hS).mono ?_
   rintro e' wn1 ⟨rfl,hb1⟩
   have hS:(Below w8.heap.size w8) wn1:=hS.trans (hb1.mono hS.size)
   refine⟨_,rfl,hS,?_⟩
   simp only[nz]
   refine hs_c 5 17 ?_
   refine(gs _ hS).mono ?_
   rintro e' wn2 ⟨rfl,hb2⟩
   have hS:(Below w8.heap.size w8) wn2:=hS.trans (hb2.mono hS.size)
   refine⟨_,rfl,hS,?_⟩
   simp only[nz]
   refine hs_a 6 18 hS ?_
   refine hs_a 7 19 hS ?_
   refine hs_v 8 20 (.agg q.toArray) rfl (fun w' hw=>zu rfl rfl (run_loadVar_mid (P:=prog) w' w.heap.size 0 52 q _ (za hA8 hw hs8) underlying52 rfl iq)) hS ?_
   refine hs_c 9 21 ?_
   refine(gf _ hS).mono ?_
   rintro e' wn3 ⟨rfl,hb3⟩
   have hS:(Below w8.heap.size w8) wn3:=hS.trans (hb3.mono hS.size)
   refine⟨_,rfl,hS,?_⟩
   simp only[nz]
   refine hs_a 10 22 hS ?_
   refine hs_a 11 2 hS ?_
   refine zv (by kernel_rfl) ?_
   go_wp2
   go_ret
   exact⟨rfl,hB8.trans (hS.mono hB8.size)⟩
 ·rw[decide_eq_false hk,Bool.false_and]
  have hk':k<1∨(1≤k∧8<k):=by omega
  clear hk kb ks kf
  have kb:∀w0,Below w.heap.size w w0→True:=fun _ _=>trivial
  have ks:=kb
  have kf:=kb
  rcases hk' with hk|⟨hk,hk2⟩
  ·have n1:¬1≤k:=by omega
   go_enter func57,ntmps57
   go_upto_region 2 with fail
   obtain⟨w8,hw8⟩:∃w8,(w.alloc (.cells q.toArray 52)).drew=w8:=⟨_,rfl⟩
   have hB8:Below w.heap.size w w8:=by rw[←hw8];exact hB.drew
   have hA8:w8.rangeAt w.heap.size 0 q:=by rw[←hw8];exact(World.rangeAt_drew _ _ _ _).2 hA
   have hs8:w.heap.size<w8.heap.size:=by rw[←hw8];exact hs
   have gb:=fun w0 (h0:Below w8.heap.size w8 w0)=>kb w0 (hB8.trans (h0.mono hB8.size))
   have gs:=fun w0 (h0:Below w8.heap.size w8 w0)=>ks w0 (hB8.trans (h0.mono hB8.size))
   have gf:=fun w0 (h0:Below w8.heap.size w8 w0)=>kf w0 (hB8.trans (h0.mono hB8.size))
   refine zw (S:=(Below w8.heap.size w8)) 12 rfl (by kernel_rfl) ?_
   rw[hw8]
   clear hw8 hA hB hs c0 kb ks kf
   have hS:(Below w8.heap.size w8) w8:=Below.refl _ _
   refine hs_a 0 12 hS ?_
   refine hs_a 1 13 hS ?_
   refine hs_k 2 14 hS ?_
   refine hs_k 3 15 hS ?_
   refine hs_k 4 16 hS ?_
   refine hs_k 5 17 hS ?_
   refine hs_a 6 18 hS ?_
   refine hs_a 7 19 hS ?_
   refine hs_k 8 20 hS ?_
   refine hs_k 9 21 hS ?_
   refine hs_a 10 22 hS ?_
   refine hs_a 11 2 hS ?_
   refine zv (by kernel_rfl) ?_
   go_wp2
   go_ret
   exact⟨rfl,hB8.trans (hS.mono hB8.size)⟩
  ·have n1:¬k≤8:=by omega
   go_enter func57,ntmps57
   go_upto_region 2 with fail
   obtain⟨w8,hw8⟩:∃w8,(w.alloc (.cells q.toArray 52)).drew=w8:=⟨_,rfl⟩
   have hB8:Below w.heap.size w w8:=by rw[←hw8];exact hB.drew
   have hA8:w8.rangeAt w.heap.size 0 q:=by rw[←hw8];exact(World.rangeAt_drew _ _ _ _).2 hA
   have hs8:w.heap.size<w8.heap.size:=by rw[←hw8];exact hs
   have gb:=fun w0 (h0:Below w8.heap.size w8 w0)=>kb w0 (hB8.trans (h0.mono hB8.size))
   have gs:=fun w0 (h0:Below w8.heap.size w8 w0)=>ks w0 (hB8.trans (h0.mono hB8.size))
   have gf:=fun w0 (h0:Below w8.heap.size w8 w0)=>kf w0 (hB8.trans (h0.mono hB8.size))
   refine zw (S:=(Below w8.heap.size w8)) 12 rfl (by kernel_rfl) ?_
   rw[hw8]
   clear hw8 hA hB hs c0 kb ks kf
   have hS:(Below w8.heap.size w8) w8:=Below.refl _ _
   refine hs_a 0 12 hS ?_
   refine hs_a 1 13 hS ?_
   refine hs_k 2 14 hS ?_
   refine hs_k 3 15 hS ?_
   refine hs_k 4 16 hS ?_
   refine hs_k 5 17 hS ?_
   refine hs_a 6 18 hS ?_
   refine hs_a 7 19 hS ?_
   refine hs_k 8 20 hS ?_
   refine hs_k 9 21 hS ?_
   refine hs_a 10 22 hS ?_
   refine hs_a 11 2 hS ?_
   refine zv (by kernel_rfl) ?_
   go_wp2
   go_ret
   exact⟨rfl,hB8.trans (hS.mono hB8.size)⟩
theorem zlx (m:Mg) (w:World) (om:m.ok) (am:m.At w):Calls prog 57 #[.agg m.ms.cells.toArray] w fun e w'=>e=.returned (.bool m.good)∧Below w.heap.size w w':=
 goodW m.ms.cells m.bare.ms.cells m.k (Mg.B m m.bare) m.may w om.ms.len rfl (fun h1 h8 w0 _=>znj m om h1 h8 w0) (fun h1 h8 w0 h0=>zgF m m.bare w0 om (Mg.bare_ok om h1 h8) (am.below h0) ((Mg.bare_at am h1 h8).below h0)) (fun w0 h0=>zg9 m w0 om (am.below h0))
set_option linter.unusedVariables false
set_option linter.unusedSimpArgs false
theorem enc1 (q:List Value) (b:Bool) (zs:List Int) (w:World) (hq:q.length=119)
  (hg:∀w0,Below w.heap.size w w0→Calls prog 57 #[.agg q.toArray] w0 fun e w'=>e=.returned (.bool b)∧Below w0.heap.size w0 w') (hw:b=true→∀(X:Nat) (w0:World),Below w.heap.size w w0→w.heap.size≤X→WrAt w0 X (.slice none 0 0) [] false→Calls prog 58 #[.pointer (some ⟨X,0,none⟩),.agg q.toArray] w0 fun e w'=>WrOn X (.slice none 0 0) [] zs w0 e w'):
  Calls prog 22 #[.agg q.toArray] w fun e w'=>e=.returned (encV b zs)∧Below w.heap.size w w':=by
 have hB:Below w.heap.size w (w.alloc (.cells q.toArray 52)):=(Below.refl _ _).alloc (Nat.le_refl _) _
 have hs:w.heap.size<(w.alloc (.cells q.toArray 52)).heap.size:=by simp
 have hA:(w.alloc (.cells q.toArray 52)).rangeAt w.heap.size 0 q:=by simpa using zC w q.toArray 52
 have iq:(prog.info? 52).map (·.size)=some q.length:=by rw[hq];exact iszM
 clear hq
 cases b
 ·show Calls prog 22 #[.agg q.toArray] w fun e w'=>e=.returned (.tuple #[.string ⟨#[]⟩,.int .i64 130])∧Below w.heap.size w w'
  clear hw
  go_enter func22,ntmps22
  go_upto_region 1 with fail
  go_name_world w1 hw1
  rw[show w.alloc (.cells q.toArray 52)=w1 from hw1]at hB hs hA
  clear hw1
  go_wp2_with (refine wpList_load_mid rfl 52 _ rfl _ _ rfl q _ hA underlying52 rfl iq ?_)
  refine(hg _ hB).mono ?_
  rintro e2 w2 ⟨rfl,hb2⟩
  have hB2:=hB.trans (hb2.mono (by omega))
  clear hA hg hB hb2
  go_wp2
  go_ret2
  exact⟨rfl,hB2⟩
 ·show Calls prog 22 #[.agg q.toArray] w fun e w'=>e=.returned (.tuple #[.string (strOf zs),.int .i64 0])∧Below w.heap.size w w'
  replace hw:=hw rfl
  obtain⟨sz,hsz⟩:∃sz,Hid (strOf zs=sz):=⟨_,hide rfl⟩
  rw[hsz.out]
  go_enter func22,ntmps22
  go_upto_region 1 with fail
  go_name_world w1 hw1
  rw[show w.alloc (.cells q.toArray 52)=w1 from hw1]at hB hs hA
  clear hw1
  go_wp2_with (refine wpList_load_mid rfl 52 _ rfl _ _ rfl q _ hA underlying52 rfl iq ?_)
  refine(hg _ hB).mono ?_
  rintro e2 w2 ⟨rfl,hb2⟩
  have hB2:=hB.trans (hb2.mono (by omega))
  have hA2:=za hA hb2 hs
  have hs2:=Nat.lt_of_lt_of_le hs hb2.size
  clear hA hg hB hb2 hs
  go_upto_region 4 with fail
  have hN:=zeX w2
  have hB3:Below w2.heap.size w2 (w2.alloc (.cells #[.slice none 0 0,.bool false] 116)):=(Below.refl _ _).alloc (Nat.le_refl _) _
  go_name_world w3 hw3
  rw[show w2.alloc (.cells #[.slice none 0 0,.bool false] 116)=w3 from hw3]at hN hB3
  clear hw3
  have hA3:=za hA2 hB3 hs2
  have hB4:=hB2.trans (hB3.mono (by omega))
  have cw:=hw w2.heap.size w3 hB4 hB2.size hN
  have hs3:=hN.lt
  clear hA2 hB2 hB3 hw hN
  go_wp2_with (refine wpList_load_mid rfl 52 _ rfl _ _ rfl q _ hA3 underlying52 rfl iq ?_)
  refine cw.mono ?_
  rintro e5 w5 ⟨v5,rfl,hW5,hO5,_⟩
  rw[List.nil_append]at hW5
  have c0:=hW5.c0
  have c1:=hW5.c1
  have hcs:=zgG hW5.me
  have hB5:=hB4.trans (hO5.below (n:=w.heap.size) (by omega) (fun b hb hf=>by
   rcases hf with hf|hf
   ·omega
   ·cases hf))
  obtain⟨a5,cap5,rfl⟩:∃a cap,v5=.slice a zs.length cap:=by
   rcases za7 hW5.me.1 with⟨rfl,h0,_⟩|⟨g,cap,rfl,_⟩
   ·exact⟨none,0,by rw[h0]⟩
   ·exact⟨_,cap,rfl⟩
  rw[hsz.out]at hcs
  clear hsz cw hW5 hO5 hA3 hB4
  go_wp2
  go_ret2
  exact⟨rfl,hB5⟩
theorem Mg.good_k {m:Mg} (h:m.good=true):1≤m.k∧m.k≤8:=by
 unfold Mg.good at h
 rw[Bool.and_eq_true]at h
 exact of_decide_eq_true h.1
theorem zmi (m:Mg) (w:World) (om:m.ok) (am:m.At w) (hf:m.good=true→m.Fine):Calls prog 22 #[.agg m.ms.cells.toArray] w fun e w'=>e=.returned (encV m.good m.bytes)∧Below w.heap.size w w':=
 enc1 m.ms.cells m.good m.bytes w om.ms.len (fun w0 h0=>zlx m w0 om (am.below h0)) (fun hg X w0 h0 hX hW=>zil X _ [] m w w0 om am (hf hg) (Mg.good_k hg).1 (Mg.good_k hg).2 h0 hX hW (by simp))
def zR (n m:Int):Int:=if n+m≤4000 then n+m else 4001
theorem zeK (n m:Int) (w:World) (h0:0≤n) (h1:n≤4001) (h2:0≤m) (h3:m≤9223372036854775807):
  Calls prog 56 #[.int .i64 n,.int .i64 m,.int .i64 4000] w fun e w'=>e=.returned (.int .i64 (zR n m))∧w'=w:=by
 by_cases c1:4000<n
 ·have HA:Hid (zR n m=4001):=by show _=_;unfold zR;rw[if_neg (by omega)]
  rw[HA.out]
  go_enter func56,ntmps56
  go_wp2
  go_ret
  exact⟨rfl,rfl⟩
 ·by_cases c2:4000<m
  ·have HA:Hid (zR n m=4001):=by show _=_;unfold zR;rw[if_neg (by omega)]
   rw[HA.out]
   go_enter func56,ntmps56
   go_wp2
   go_ret
   exact⟨rfl,rfl⟩
  ·by_cases c3:4000 - m<n
   ·have HA:Hid (zR n m=4001):=by show _=_;unfold zR;rw[if_neg (by omega)]
    rw[HA.out]
    go_enter func56,ntmps56
    go_wp2
    go_ret
    exact⟨rfl,rfl⟩
   ·have HA:Hid (zR n m=n+m):=by show _=_;unfold zR;rw[if_pos (by omega)]
    rw[HA.out]
    go_enter func56,ntmps56
    go_wp2
    go_ret
    exact⟨rfl,rfl⟩
structure Bat where
 q:Bool
 a:Option Addr
 cap:Nat
 rs:List BRq
def Bat.cells (x:Bat):List Value:=[.bool x.q,.slice x.a x.rs.length x.cap]
def Bat.at (x:Bat) (w:World):Prop:=ReqsAt w x.a x.rs∧True∧True
theorem Bat.at.below {x:Bat} {w w':World} (h:x.at w) (hb:Below w.heap.size w w'):x.at w':=⟨h.1.below hb,h.2.1,h.2.2⟩
def BatsAt (w:World) (b:Nat) (xs:List Bat):Prop:=xs.length≤2∧(∀x∈xs,x.at w)∧b<w.heap.size∧w.rangeAt b 0 (xs.flatMap Bat.cells)
theorem BatsAt.below {w w':World} {b:Nat} {xs:List Bat} (h:BatsAt w b xs) (hb:Below w.heap.size w w'):BatsAt w' b xs:=
 ⟨h.1,fun x hx=>(h.2.1 x hx).below hb,Nat.lt_of_lt_of_le h.2.2.1 hb.size,za h.2.2.2 hb h.2.2.1⟩
theorem BatsAt.cell {w:World} {b:Nat} {xs:List Bat} (h:BatsAt w b xs) (k:Nat) (hk:k<xs.length):w.cell? ⟨b,k*2+1,none⟩=some (.slice xs[k].a xs[k].rs.length xs[k].cap):=by
  have h4:=h.2.2.2
  have h1:=h.1
  match xs,k,hk,h4 with
  |[x],0,_,h4=>exact h4 1 _ rfl
  |[x,y],0,_,h4=>exact h4 1 _ rfl
  |[x,y],1,_,h4=>exact h4 3 _ rfl
  |x::y::z::l,_,_,_=>simp at h1
def wtR (rs:List BRq):Nat:=(rs.map fun r=>20+r.s.size).sum
def wt (xs:List Bat):Nat:=(xs.map fun x=>5+wtR x.rs).sum
theorem zh9 (rs:List BRq) (k:Nat) (hk:k<rs.length):wtR (rs.take (k+1))=wtR (rs.take k)+(20+rs[k].s.size):=by
 unfold wtR
 rw[List.take_succ_eq_append_getElem hk]
 simp only[List.map_append,List.map_cons,List.map_nil,List.sum_append,List.sum_cons,List.sum_nil]
 omega
theorem zh8 (xs:List Bat) (k:Nat) (hk:k<xs.length):wt (xs.take (k+1))=wt (xs.take k)+(5+wtR xs[k].rs):=by
 unfold wt
 rw[List.take_succ_eq_append_getElem hk]
 simp only[List.map_append,List.map_cons,List.map_nil,List.sum_append,List.sum_cons,List.sum_nil]
 omega
theorem zk5 (b cap:Nat) (xs:List Bat) (w:World) (h:BatsAt w b xs):
  Calls prog 55 #[.slice (some ⟨b,0,none⟩) xs.length cap] w fun e w'=>(e=.returned (.bool false)∧Below w.heap.size w w')∨(e=.returned (.bool true)∧Below w.heap.size w w'∧wt xs≤4000):=by
 have hxl:=h.1
 go_enter func55,ntmps55
 go_wp2
 go_loopw [3,4] (fun nv iv wr=>∃(k:Nat) (n:Int),k≤xs.length∧iv=.int .i64 (k:Int)∧nv=.int .i64 n∧0≤n∧n≤4001∧Hid (n≤4000→n=wt (xs.take k))∧Below w.heap.size w wr) (fun _ iv _=>xs.length - (intOf iv).toNat)
 case atStart=>exact⟨0,0,by omega,rfl,rfl,by omega,by omega,hide (fun _=>by simp[wt]),Below.refl _ _⟩
 case round=>
  obtain⟨k,n,hk,rfl,rfl,h0,h1,HL,hbel⟩:=hrel
  obtain⟨wo,rfl⟩:∃wo,wo=wr:=⟨_,rfl⟩
  by_cases hlt:k<xs.length
  ·by_cases hn:n≤4000
   ·have hW:=h.below hbel
    have hc:=hW.cell k hlt
    have hrow:=(hW.2.1 xs[k] (List.getElem_mem hlt)).1
    have HT:=hide (zh8 xs k hlt)
    obtain⟨xa,hxa⟩:∃xa,Hid (xs[k].a=xa):=⟨_,hide rfl⟩
    obtain⟨xc,hxc⟩:∃xc,Hid (xs[k].cap=xc):=⟨_,hide rfl⟩
    obtain⟨xr,hxr⟩:∃xr,Hid (xs[k].rs=xr):=⟨_,hide rfl⟩
    rw[hxa.out,hxc.out,hxr.out]at hc
    rw[hxa.out,hxr.out]at hrow
    rw[hxr.out]at HT
    clear hxa hxc hxr
    have hrl:=hrow.1
    unfold maxLen at hrl
    have hbw:=hW.2.2.1
    have k1:(k:Int)<xs.length:=by omega
    have ca:=zeK n 5 wo h0 h1 (by omega) (by omega)
    have HA:Hid (zR n 5≤4001∧0≤zR n 5∧(zR n 5≤4000→zR n 5=wt (xs.take k)+5)):=by
     unfold zR
     have:=HL.out hn
     split
     ·refine⟨by omega,by omega,fun _=>by omega⟩
     ·refine⟨by omega,by omega,fun h=>by omega⟩
    obtain⟨p,hp⟩:∃p,Hid (zR n 5=p):=⟨_,hide rfl⟩
    rw[hp.out]at ca HA
    clear hp
    go_wp2_with fail
    refine ca.mono ?_
    rintro e w1 ⟨rfl,hx⟩
    obtain rfl:=hx.symm
    clear hx ca
    go_wp2
    go_loopw [3,5] (fun nv jv wq=>∃(j:Nat) (m:Int),j≤xr.length∧jv=.int .i64 (j:Int)∧nv=.int .i64 m∧0≤m∧m≤4001∧Hid (m≤4000→m=wt (xs.take k)+5+wtR (xr.take j))∧Below wo.heap.size wo wq) (fun _ jv _=>xr.length - (intOf jv).toNat)
    case atStart=>exact⟨0,p,by omega,rfl,rfl,HA.out.2.1,HA.out.1,hide (fun q=>by have:=HA.out.2.2 q;simp[wtR];omega),Below.refl _ _⟩
    case round=>
     obtain⟨j,m,hj,rfl,rfl,m0,m1,HM,hbq⟩:=hrel
     have hcq:=(hbq.cell (p:=⟨b,k*2+1,none⟩) hbw).trans hc
     by_cases hjl:j<xr.length
     ·have j1:(j:Int)<xr.length:=by omega
      by_cases hm:m≤4000
      ·obtain⟨rb,off,rfl,hrb,hre⟩:=hrow.elem j hjl
       have HT2:=hide (zh9 xr j hjl)
       obtain⟨r,hr⟩:∃r,Hid (xr[j]=r):=⟨_,hide rfl⟩
       have hrs:r.s.size≤maxLen:=by rw[←hr.out];exact(hrow.2.1 _ (List.getElem_mem hjl)).sl
       unfold maxLen at hrs
       rw[hr.out]at hre HT2
       have hre2:wo.cell? ⟨rb,off+j*19+2,none⟩=some (.string r.s):=hre 2 _ rfl
       clear hre hr
       have HA2:Hid (zR m 20≤4001∧0≤zR m 20∧(zR m 20≤4000→zR m 20=wt (xs.take k)+5+wtR (xr.take j)+20)):=by
        unfold zR
        have:=HM.out hm
        split
        ·refine⟨by omega,by omega,fun _=>by omega⟩
        ·refine⟨by omega,by omega,fun h=>by omega⟩
       have ca:=fun w0=>zeK m 20 w0 m0 m1 (by omega) (by omega)
       obtain⟨p2,hp2⟩:∃p,Hid (zR m 20=p):=⟨_,hide rfl⟩
       simp only[hp2.out]at ca
       rw[hp2.out]at HA2
       have cb:=fun w0=>zeK p2 (r.s.size:Int) w0 HA2.out.2.1 HA2.out.1 (by omega) (by omega)
       have HA3:Hid (zR p2 r.s.size≤4001∧0≤zR p2 r.s.size∧(zR p2 r.s.size≤4000→zR p2 r.s.size=wt (xs.take k)+5+wtR (xr.take (j+1)))):=by
        unfold zR
        have:=HA2.out
        have:=HT2.out
        split
        ·refine⟨by omega,by omega,fun _=>by have:=HA2.out.2.2 (by omega);omega⟩
        ·refine⟨by omega,by omega,fun h=>by omega⟩
       obtain⟨p3,hp3⟩:∃p,Hid (zR p2 r.s.size=p):=⟨_,hide rfl⟩
       simp only[hp3.out]at cb
       rw[hp3.out]at HA3
       clear hp2 hp3 HT2 HA2
       go_wp2_with fail
       obtain⟨w5,hw5⟩:∃w5,wr.drew=w5:=⟨_,rfl⟩
       have hB5:Below wo.heap.size wo w5:=by rw[←hw5];exact hbq.drew
       have c1:∀w',Below w5.heap.size w5 w'→w'.cell? ⟨b,k*2+1,none⟩=some (.slice (some ⟨rb,off,none⟩) xr.length xc):=fun w' hw'=>((hB5.trans (hw'.mono hB5.size)).cell (p:=⟨b,k*2+1,none⟩) hbw).trans hc
       have c2:∀w',Below w5.heap.size w5 w'→w'.cell? ⟨rb,off+j*19+2,none⟩=some (.string r.s):=fun w' hw'=>((hB5.trans (hw'.mono hB5.size)).cell (p:=⟨rb,off+j*19+2,none⟩) hrb).trans hre2
       refine zw (S:=(Below w5.heap.size w5)) 14 rfl (by kernel_rfl) ?_
       rw[hw5]
       clear hw5 hcq hbq
       have hS:(Below w5.heap.size w5) w5:=Below.refl _ _
       refine hs_a 0 32 hS ?_
       refine hs_a 2 34 hS ?_
       refine hs_a 3 35 hS ?_
       refine hs_a 4 36 hS ?_
       refine hs_a 5 37 hS ?_
       refine hs_t 6 38 (?_) rfl (by kernel_rfl) (by kernel_rfl) (by kernel_rfl) (by rfl) ?_ hS rfl ?_
       rotate_left
       ·intro w' hw
        have hc:=c1 w' hw
        go_simp
        try with_reducible rfl
       simp only[nz]
       refine hs_a 7 39 hS ?_
       refine hs_a 8 40 hS ?_
       refine hs_a 9 41 hS ?_
       refine hs_t 10 42 (?_) rfl (by kernel_rfl) (by kernel_rfl) (by kernel_rfl) (by rfl) ?_ hS rfl ?_
       rotate_left
       ·intro w' hw
        have hc:=c2 w' hw
        go_simp
        try with_reducible rfl
       simp only[nz]
       refine hs_a 11 43 hS ?_
       refine hs_c 1 33 ?_
       refine(ca w5).mono ?_
       rintro e' w6 ⟨rfl,hx⟩
       obtain rfl:=hx.symm
       refine⟨_,rfl,hS,?_⟩
       simp only[nz]
       refine hs_c 12 44 ?_
       refine(cb w5).mono ?_
       rintro e' w7 ⟨rfl,hx⟩
       obtain rfl:=hx.symm
       refine⟨_,rfl,hS,?_⟩
       simp only[nz]
       refine hs_a 13 3 hS ?_
       refine zv (by kernel_rfl) ?_
       go_wp2
       go_roundw
       case rel=>exact⟨j+1,p3,by omega,by go_num,rfl,HA3.out.2.1,HA3.out.1,hide HA3.out.2.2,hB5⟩
       case measure=>simp[intOf];omega
      ·go_wp2
       go_roundw
       case rel=>exact⟨k+1,m,by omega,by go_num,rfl,m0,m1,hide (fun q=>absurd q hm),hbel.trans (hbq.mono hbel.size)⟩
       case measure=>simp[intOf];omega
     ·have hj':j=xr.length:=by omega
      have HF:Hid (m≤4000→m=wt (xs.take (k+1))):=by
       intro hm
       have h1:=HM.out hm
       have h2:=HT.out
       rw[hj',List.take_length]at h1
       omega
      have j1:¬(j:Int)<xr.length:=by omega
      clear HM
      go_wp2
      go_roundw
      case rel=>exact⟨k+1,m,by omega,by go_num,rfl,m0,m1,HF,hbel.trans (hbq.mono hbel.size)⟩
      case measure=>simp[intOf];omega
   ·go_wp2
    go_ret
    exact .inl ⟨rfl,hbel⟩
  ·have hk':k=xs.length:=by omega
   have HF:Hid (n≤4000→wt xs≤4000):=by
    intro hn
    have:=HL.out hn
    rw[hk',List.take_length]at this
    omega
   have k1:¬(k:Int)<xs.length:=by omega
   clear HL
   by_cases hn:n≤4000
   ·go_wp2
    go_ret
    exact .inr ⟨rfl,hbel,HF.out hn⟩
   ·go_wp2
    go_ret
    exact .inl ⟨rfl,hbel⟩
end Go.Proofs.YtcbpbkefggekmaaGreatDoor
