/- the document's Same, with lists; fields of a message that are laid one by one; message.bare at each kind; allMay; which requests, signs, envelopes, batches, cer -/
import Derived.Test.YtcbpbkefggekmaaGreatDoorJF0
import Derived.Test.YtcbpbkefggekmaaGreatDoorJF6
set_option maxHeartbeats 8000000
set_option maxRecDepth 100000
open Go.Proofs.Tryz
namespace Go.Proofs.YtcbpbkefggekmaaGreatDoor
open Go.RowKit
open Sha Tal
theorem zhI (a b:Mg) (w:World) (oa:a.ok) (ob:b.ok) (ha:a.At w) (hb:b.At w):Calls prog 14 #[.agg a.ms.cells.toArray,.agg b.ms.cells.toArray] w fun er w'=>er=.returned (.bool (Mg.B a b))∧Below w.heap.size w w':=by
 obtain⟨hA,hA',hB,hs⟩:=zbM a.ms.cells b.ms.cells 52 w
 obtain⟨W,hW⟩:∃W,Hid ((w.alloc (.cells a.ms.cells.toArray 52)).alloc (.cells b.ms.cells.toArray 52)=W):=⟨_,hide rfl⟩
 rw[hW.out]at hA hA' hB hs
 have M:=oa.ms.at hA
 have M':=ob.ms.at hA'
 have ix:(prog.info? 43).map (·.size)=some a.vt.cells.length:=by rw[oa.vt.len];exact iszV
 have iy:(prog.info? 43).map (·.size)=some b.vt.cells.length:=by rw[ob.vt.len];exact iszV
 have id:(prog.info? 41).map (·.size)=some (v8 a.d).length:=by rw[v8_length,oa.dl];exact iszD
 have id':(prog.info? 41).map (·.size)=some (v8 b.d).length:=by rw[v8_length,ob.dl];exact iszD
 have ic:(prog.info? 50).map (·.size)=some (certL a.ct a.cs).length:=by rw[show(certL a.ct a.cs).length=37 by simp[certL,oa.ct.len]];exact iszC
 have ic':(prog.info? 50).map (·.size)=some (certL b.ct b.cs).length:=by rw[show(certL b.ct b.cs).length=37 by simp[certL,ob.ct.len]];exact iszC
 have hq:=eqInV a.vt b.vt oa.vt.dl ob.vt.dl
 have hq2:=eqInD a.d b.d oa.dl ob.dl
 have gB:=fun w0 k1 k2=>zeG a.q a.rs b.q b.rs w0 k1 k2
 have gC:=fun w0 k1 k2=>zhZ a.he b.he w0 k1 k2
 have gN:=fun w0 k1 k2=>zhX a.ne.a a.ne.cap a.ne.xs b.ne.a b.ne.cap b.ne.xs w0 k1 k2
 have gT:=fun w0 k1 k2=>zeD a.ct b.ct a.cs b.cs w0 oa.ct ob.ct k1 k2
 have gS:=fun w0 k1 k2=>zeE a.sg.a a.sg.cap a.sg.xs b.sg.a b.sg.cap b.sg.xs w0 k1 k2
 have a1:=ha.below hB
 have b1:=hb.below hB
 have cK:W.cell? ⟨w.heap.size,0,none⟩=some (.int .i64 a.k):=M.k
 have cE:W.cell? ⟨w.heap.size,1,none⟩=some (.int .i64 a.e):=M.e
 have cL:W.cell? ⟨w.heap.size,2,none⟩=some (.int .i64 a.l):=M.l
 have cV:W.cell? ⟨w.heap.size,3,none⟩=some (.int .i64 a.v):=M.v
 have cS:W.cell? ⟨w.heap.size,4,none⟩=some (.int .i64 a.s):=M.s
 have cQ:W.cell? ⟨w.heap.size,5,none⟩=some (.bool a.q):=M.q
 have cR:W.cell? ⟨w.heap.size,6,none⟩=some (.slice a.rs.a a.rs.xs.length a.rs.cap):=M.rs
 have c1:W.cell? ⟨w.heap.size,43,none⟩=some (.int .i64 a.ce):=M.ce
 have c2:W.cell? ⟨w.heap.size,44,none⟩=some (.int .i64 a.cl):=M.cl
 have c3:W.cell? ⟨w.heap.size,45,none⟩=some (.int .i64 a.cv):=M.cv
 have cH:W.cell? ⟨w.heap.size,46,none⟩=some (.slice a.he.a a.he.xs.length a.he.cap):=M.he
 have cN:W.cell? ⟨w.heap.size,47,none⟩=some (.slice a.ne.a a.ne.xs.length a.ne.cap):=M.ne
 have cT:W.cell? ⟨w.heap.size,117,none⟩=some (.string a.st):=M.st
 have cG:W.cell? ⟨w.heap.size,118,none⟩=some (.slice a.sg.a a.sg.xs.length a.sg.cap):=M.sg
 have rV:W.rangeAt (w.heap.size) 7 a.vt.cells:=M.vt
 have rD:W.rangeAt (w.heap.size) 48 (v8 a.d):=M.d
 have rC:W.rangeAt (w.heap.size) 80 (certL a.ct a.cs):=M.ct
 have cK':W.cell? ⟨w.heap.size+1,0,none⟩=some (.int .i64 b.k):=M'.k
 have cE':W.cell? ⟨w.heap.size+1,1,none⟩=some (.int .i64 b.e):=M'.e
 have cL':W.cell? ⟨w.heap.size+1,2,none⟩=some (.int .i64 b.l):=M'.l
 have cV':W.cell? ⟨w.heap.size+1,3,none⟩=some (.int .i64 b.v):=M'.v
 have cS':W.cell? ⟨w.heap.size+1,4,none⟩=some (.int .i64 b.s):=M'.s
 have cQ':W.cell? ⟨w.heap.size+1,5,none⟩=some (.bool b.q):=M'.q
 have cR':W.cell? ⟨w.heap.size+1,6,none⟩=some (.slice b.rs.a b.rs.xs.length b.rs.cap):=M'.rs
 have c1':W.cell? ⟨w.heap.size+1,43,none⟩=some (.int .i64 b.ce):=M'.ce
 have c2':W.cell? ⟨w.heap.size+1,44,none⟩=some (.int .i64 b.cl):=M'.cl
 have c3':W.cell? ⟨w.heap.size+1,45,none⟩=some (.int .i64 b.cv):=M'.cv
 have cH':W.cell? ⟨w.heap.size+1,46,none⟩=some (.slice b.he.a b.he.xs.length b.he.cap):=M'.he
 have cN':W.cell? ⟨w.heap.size+1,47,none⟩=some (.slice b.ne.a b.ne.xs.length b.ne.cap):=M'.ne
 have cT':W.cell? ⟨w.heap.size+1,117,none⟩=some (.string b.st):=M'.st
 have cG':W.cell? ⟨w.heap.size+1,118,none⟩=some (.slice b.sg.a b.sg.xs.length b.sg.cap):=M'.sg
 have rV':W.rangeAt (w.heap.size+1) 7 b.vt.cells:=M'.vt
 have rD':W.rangeAt (w.heap.size+1) 48 (v8 b.d):=M'.d
 have rC':W.rangeAt (w.heap.size+1) 80 (certL b.ct b.cs):=M'.ct
 simp only[Sl.val]at gB gC
 unfold Mg.B Mg.nB Mg.fB Mg.lB chgB
 have A1:=a1.rs
 have A2:=a1.he
 have A3:RowsAt EvE W a.ne.a a.ne.xs:=a1.ne
 have A4:=a1.cs
 have A5:RowsAt SgE W a.sg.a a.sg.xs:=a1.sg
 have B1:=b1.rs
 have B2:=b1.he
 have B3:RowsAt EvE W b.ne.a b.ne.xs:=b1.ne
 have B4:=b1.cs
 have B5:RowsAt SgE W b.sg.a b.sg.xs:=b1.sg
 clear hA hA' M M' oa ob ha hb a1 b1
 generalize batB a.q a.rs b.q b.rs=b1 at *
 generalize sameL Hd.B a.he.xs b.he.xs=b2 at *
 generalize sameL Ev.B a.ne.xs b.ne.xs=b3 at *
 generalize certB a.ct a.cs b.ct b.cs=b4 at *
 generalize sameL Sg.B a.sg.xs b.sg.xs=b5 at *
 generalize a.ms.cells=q at *
 generalize b.ms.cells=q' at *
 generalize hgu:a.vt.cells=u at *
 generalize hgu':b.vt.cells=u' at *
 generalize hgd:v8 a.d=ud at *
 generalize hgd':v8 b.d=ud' at *
 generalize certL a.ct a.cs=uc at *
 generalize certL b.ct b.cs=uc' at *
 generalize vtB a.vt b.vt=vb at *
 generalize (a.d==b.d)=db at *
 clear hgu hgu' hgd hgd'
 obtain⟨k,e,l,v,s,qq,⟨ra,rc,rx⟩,vt,ce,cl,cv,⟨ha,hc,hx⟩,⟨na,nc,nx⟩,d,ct,cs,st,⟨ga,gc,gx⟩⟩:=a
 obtain⟨k',e',l',v',s',qq',⟨ra',rc',rx'⟩,vt',ce',cl',cv',⟨ha',hc',hx'⟩,⟨na',nc',nx'⟩,d',ct',cs',st',⟨ga',gc',gx'⟩⟩:=b
 simp only at *
 go_enter func14,ntmps14
 go_upto_region 1 with fail
 go_name_world w1 hw1
 obtain rfl:W=w1:=hW.out.symm.trans hw1
 clear hw1 hW
 try simp only[Act.put]
 refine wp_region_list ?_
 refine wpList_step fun K hK=>?_
 go_simp
 refine hK _ _ ?_
 clear hK K
 refine wpList_step fun K hK=>?_
 go_simp
 refine hK _ _ ?_
 clear hK K
 refine wpList_step fun K hK=>?_
 go_simp
 refine hK _ _ ?_
 clear hK K
 refine wpList_step fun K hK=>?_
 go_simp
 refine hK _ _ ?_
 clear hK K
 by_cases h_k:k=k'
 rotate_left
 ·have n_k:(k !=k')=true:=bne_iff_ne.2 h_k
  have E_k:=hide (show(k==k')=false from beq_eq_false_iff_ne.2 h_k)
  clear h_k rV rV' rD rD' cT cT' hq hq2 ix iy id id'
  clear gB gC gN gT gS A1 A2 A3 A4 A5 B1 B2 B3 B4 B5 rC rC' cQ cR cQ' cR' c1 c2 c3 cH c1' c2' c3' cH' cN cN' cG cG' ic ic'
  go_wp2
  go_ret
  exact⟨by rw[E_k.out];simp,hB⟩
 ·have n_k:(k !=k')=false:=by rw[h_k];simp
  have E_k:=hide (show(k==k')=true from beq_iff_eq.2 h_k)
  clear h_k
  refine wpList_step fun K hK=>?_
  go_simp
  refine hK _ _ ?_
  clear hK K
  refine wpList_step fun K hK=>?_
  go_simp
  refine hK _ _ ?_
  clear hK K
  refine wpList_step fun K hK=>?_
  go_simp
  refine hK _ _ ?_
  clear hK K
  refine wpList_step fun K hK=>?_
  go_simp
  refine hK _ _ ?_
  clear hK K
  refine wpList_step fun K hK=>?_
  go_simp
  refine hK _ _ ?_
  clear hK K
  refine wpList_step fun K hK=>?_
  go_simp
  refine hK _ _ ?_
  clear hK K
  by_cases h_e:e=e'
  rotate_left
  ·have n_e:(e !=e')=true:=bne_iff_ne.2 h_e
   have E_e:=hide (show(e==e')=false from beq_eq_false_iff_ne.2 h_e)
   clear h_e rV rV' rD rD' cT cT' hq hq2 ix iy id id'
   clear gB gC gN gT gS A1 A2 A3 A4 A5 B1 B2 B3 B4 B5 rC rC' cQ cR cQ' cR' c1 c2 c3 cH c1' c2' c3' cH' cN cN' cG cG' ic ic'
   go_wp2
   go_ret
   exact⟨by rw[E_e.out];simp,hB⟩
  ·have n_e:(e !=e')=false:=by rw[h_e];simp
   have E_e:=hide (show(e==e')=true from beq_iff_eq.2 h_e)
   clear h_e
   refine wpList_step fun K hK=>?_
   go_simp
   refine hK _ _ ?_
   clear hK K
   refine wpList_step fun K hK=>?_
   go_simp
   refine hK _ _ ?_
   clear hK K
   refine wpList_step fun K hK=>?_
   go_simp
   refine hK _ _ ?_
   clear hK K
   refine wpList_step fun K hK=>?_
   go_simp
   refine hK _ _ ?_
   clear hK K
   refine wpList_step fun K hK=>?_
   go_simp
   refine hK _ _ ?_
   clear hK K
   refine wpList_step fun K hK=>?_
   go_simp
   refine hK _ _ ?_
   clear hK K
   refine wpList_step fun K hK=>?_
   go_simp
   refine hK _ _ ?_
   clear hK K
   by_cases h_l:l=l'
   rotate_left
   ·have n_l:(l !=l')=true:=bne_iff_ne.2 h_l
    have E_l:=hide (show(l==l')=false from beq_eq_false_iff_ne.2 h_l)
    clear h_l rV rV' rD rD' cT cT' hq hq2 ix iy id id'
    clear gB gC gN gT gS A1 A2 A3 A4 A5 B1 B2 B3 B4 B5 rC rC' cQ cR cQ' cR' c1 c2 c3 cH c1' c2' c3' cH' cN cN' cG cG' ic ic'
    go_wp2
    go_ret
    exact⟨by rw[E_l.out];simp,hB⟩
   ·have n_l:(l !=l')=false:=by rw[h_l];simp
    have E_l:=hide (show(l==l')=true from beq_iff_eq.2 h_l)
    clear h_l
    refine wpList_step fun K hK=>?_
    go_simp
    refine hK _ _ ?_
    clear hK K
    refine wpList_step fun K hK=>?_
    go_simp
    refine hK _ _ ?_
    clear hK K
    refine wpList_step fun K hK=>?_
    go_simp
    refine hK _ _ ?_
    clear hK K
    refine wpList_step fun K hK=>?_
    go_simp
    refine hK _ _ ?_
    clear hK K
    refine wpList_step fun K hK=>?_
    go_simp
    refine hK _ _ ?_
    clear hK K
    refine wpList_step fun K hK=>?_
    go_simp
    refine hK _ _ ?_
    clear hK K
    refine wpList_step fun K hK=>?_
    go_simp
    refine hK _ _ ?_
    clear hK K
    by_cases h_v:v=v'
    rotate_left
    ·have n_v:(v !=v')=true:=bne_iff_ne.2 h_v
     have E_v:=hide (show(v==v')=false from beq_eq_false_iff_ne.2 h_v)
     clear h_v rV rV' rD rD' cT cT' hq hq2 ix iy id id'
     clear gB gC gN gT gS A1 A2 A3 A4 A5 B1 B2 B3 B4 B5 rC rC' cQ cR cQ' cR' c1 c2 c3 cH c1' c2' c3' cH' cN cN' cG cG' ic ic'
     go_wp2
     go_ret
     exact⟨by rw[E_v.out];simp,hB⟩
    ·have n_v:(v !=v')=false:=by rw[h_v];simp
     have E_v:=hide (show(v==v')=true from beq_iff_eq.2 h_v)
     clear h_v
     refine wpList_step fun K hK=>?_
     go_simp
     refine hK _ _ ?_
     clear hK K
     refine wpList_step fun K hK=>?_
     go_simp
     refine hK _ _ ?_
     clear hK K
     refine wpList_step fun K hK=>?_
     go_simp
     refine hK _ _ ?_
     clear hK K
     refine wpList_step fun K hK=>?_
     go_simp
     refine hK _ _ ?_
     clear hK K
     refine wpList_step fun K hK=>?_
     go_simp
     refine hK _ _ ?_
     clear hK K
     refine wpList_step fun K hK=>?_
     go_simp
     refine hK _ _ ?_
     clear hK K
     refine wpList_step fun K hK=>?_
     go_simp
     refine hK _ _ ?_
     clear hK K
     by_cases h_s:s=s'
     rotate_left
     ·have n_s:(s !=s')=true:=bne_iff_ne.2 h_s
      have E_s:=hide (show(s==s')=false from beq_eq_false_iff_ne.2 h_s)
      clear h_s rV rV' rD rD' cT cT' hq hq2 ix iy id id'
      clear gB gC gN gT gS A1 A2 A3 A4 A5 B1 B2 B3 B4 B5 rC rC' cQ cR cQ' cR' c1 c2 c3 cH c1' c2' c3' cH' cN cN' cG cG' ic ic'
      go_wp2
      go_ret
      exact⟨by rw[E_s.out];simp,hB⟩
     ·have n_s:(s !=s')=false:=by rw[h_s];simp
      have E_s:=hide (show(s==s')=true from beq_iff_eq.2 h_s)
      clear h_s
      refine wpList_step fun K hK=>?_
      go_simp
      refine hK _ _ ?_
      clear hK K
      refine wpList_step fun K hK=>?_
      go_simp
      refine hK _ _ ?_
      clear hK K
      refine wpList_step fun K hK=>?_
      go_simp
      refine hK _ _ ?_
      clear hK K
      refine wpList_step fun K hK=>?_
      go_simp
      refine hK _ _ ?_
      clear hK K
      refine zQ (by rfl) 43 _ rfl _ _ rfl u _ rV underlying43 rfl ix ?_
      refine wpList_step fun K hK=>?_
      go_simp
      refine hK _ _ ?_
      clear hK K
      refine zQ (by rfl) 43 _ rfl _ _ rfl u' _ rV' underlying43 rfl iy ?_
      cases vb
      ·clear rD rD' cT cT' hq2 id id'
       clear gB gC gN gT gS A1 A2 A3 A4 A5 B1 B2 B3 B4 B5 rC rC' cQ cR cQ' cR' c1 c2 c3 cH c1' c2' c3' cH' cN cN' cG cG' ic ic'
       refine wpList_step fun K hK=>?_
       go_simp
       try rw[hq]
       try go_simp
       refine hK _ _ ?_
       clear hK K
       go_wp2
       go_ret
       exact⟨by simp,hB⟩
      ·refine wpList_step fun K hK=>?_
       go_simp
       try rw[hq]
       try go_simp
       refine hK _ _ ?_
       clear hK K
       refine wpList_step fun K hK=>?_
       go_simp
       refine hK _ _ ?_
       clear hK K
       refine wpList_step fun K hK=>?_
       go_simp
       refine hK _ _ ?_
       clear hK K
       refine wpList_step fun K hK=>?_
       go_simp
       refine hK _ _ ?_
       clear hK K
       refine zQ (by rfl) 41 _ rfl _ _ rfl ud _ rD underlying41 rfl id ?_
       refine wpList_step fun K hK=>?_
       go_simp
       refine hK _ _ ?_
       clear hK K
       refine zQ (by rfl) 41 _ rfl _ _ rfl ud' _ rD' underlying41 rfl id' ?_
       cases db
       ·clear cT cT'
        clear gB gC gN gT gS A1 A2 A3 A4 A5 B1 B2 B3 B4 B5 rC rC' cQ cR cQ' cR' c1 c2 c3 cH c1' c2' c3' cH' cN cN' cG cG' ic ic'
        refine wpList_step fun K hK=>?_
        go_simp
        try rw[hq2]
        try go_simp
        refine hK _ _ ?_
        clear hK K
        go_wp2
        go_ret
        exact⟨by simp,hB⟩
       ·refine wpList_step fun K hK=>?_
        go_simp
        try rw[hq2]
        try go_simp
        refine hK _ _ ?_
        clear hK K
        refine wpList_step fun K hK=>?_
        go_simp
        refine hK _ _ ?_
        clear hK K
        refine wpList_step fun K hK=>?_
        go_simp
        refine hK _ _ ?_
        clear hK K
        refine wpList_step fun K hK=>?_
        go_simp
        refine hK _ _ ?_
        clear hK K
        refine wpList_step fun K hK=>?_
        go_simp
        refine hK _ _ ?_
        clear hK K
        refine wpList_step fun K hK=>?_
        go_simp
        refine hK _ _ ?_
        clear hK K
        refine wpList_step fun K hK=>?_
        go_simp
        refine hK _ _ ?_
        clear hK K
        by_cases h_st:st.toList=st'.toList
        rotate_left
        ·have hst:(st.toList !=st'.toList)=true:=bne_iff_ne.2 h_st
         have E_st:=hide (show(st.toList==st'.toList)=false from beq_eq_false_iff_ne.2 h_st)
         clear h_st
         clear gB gC gN gT gS A1 A2 A3 A4 A5 B1 B2 B3 B4 B5 rC rC' cQ cR cQ' cR' c1 c2 c3 cH c1' c2' c3' cH' cN cN' cG cG' ic ic'
         refine zcv (by rfl) _ _ _ _ rfl st st' rfl rfl true hst ?_
         go_wp2
         go_ret
         exact⟨by rw[E_st.out];simp,hB⟩
        ·have hst:(st.toList !=st'.toList)=false:=by rw[h_st];simp
         have E_st:=hide (show(st.toList==st'.toList)=true from beq_iff_eq.2 h_st)
         clear h_st
         refine zcv (by rfl) _ _ _ _ rfl st st' rfl rfl false hst ?_
         refine wpList_step fun K hK=>?_
         go_simp
         refine hK _ _ ?_
         clear hK K
         go_upto_region 3 with fail
         clear cK cE cL cV cS cK' cE' cL' cV' cS' rV rV' rD rD' cT cT' hq hq2 hst ix iy id id'
         obtain⟨r2,hb2,hz2,_⟩:=zt W #[.int .i64 0,.int .i64 0,.int .i64 0,.slice none 0 0] 46 [.int .i64 ce,.int .i64 cl,.int .i64 cv,.slice ha hx.length hc] rfl
         have hT2:=zK W #[.int .i64 0,.int .i64 0,.int .i64 0,.slice none 0 0] 46
         go_upto_region 4 with(refine wpList_store_mid rfl 46 _ _ rfl _ _ #[.int .i64 ce,.int .i64 cl,.int .i64 cv,.slice ha hx.length hc] rfl rfl hT2 zgG (by simp[Value.oneCell']) ?_)
         go_name_world w2 hw2
         rw[show(W.alloc (.cells #[.int .i64 0,.int .i64 0,.int .i64 0,.slice none 0 0] 46)).setCells W.heap.size 0 [.int .i64 ce,.int .i64 cl,.int .i64 cv,.slice ha hx.length hc]=w2 from hw2]at r2 hb2 hz2
         have hs2:W.heap.size<w2.heap.size:=by omega
         clear hw2 hz2 hT2
         have up:=fun i v (h:W.cell? ⟨w.heap.size,i,none⟩=some v)=>(hb2.cell (p:=⟨w.heap.size,i,none⟩) (show w.heap.size<W.heap.size by omega)).trans h
         replace c1:=up _ _ c1
         replace c2:=up _ _ c2
         replace c3:=up _ _ c3
         replace cH:=up _ _ cH
         replace cQ:=up _ _ cQ
         replace cR:=up _ _ cR
         replace cN:=up _ _ cN
         replace cG:=up _ _ cG
         replace rC:=zd rC hb2 (by omega)
         clear up
         have up':=fun i v (h:W.cell? ⟨w.heap.size+1,i,none⟩=some v)=>(hb2.cell (p:=⟨w.heap.size+1,i,none⟩) (show w.heap.size+1<W.heap.size by omega)).trans h
         replace c1':=up' _ _ c1'
         replace c2':=up' _ _ c2'
         replace c3':=up' _ _ c3'
         replace cH':=up' _ _ cH'
         replace cQ':=up' _ _ cQ'
         replace cR':=up' _ _ cR'
         replace cN':=up' _ _ cN'
         replace cG':=up' _ _ cG'
         replace rC':=zd rC' hb2 (by omega)
         clear up'
         have hBa:=hB.trans (hb2.mono (by omega))
         clear hB
         obtain⟨r3,hb3,hz3,_⟩:=zt w2 #[.int .i64 0,.int .i64 0,.int .i64 0,.slice none 0 0] 46 [.int .i64 ce',.int .i64 cl',.int .i64 cv',.slice ha' hx'.length hc'] rfl
         have hT3:=zK w2 #[.int .i64 0,.int .i64 0,.int .i64 0,.slice none 0 0] 46
         go_upto_region 5 with(refine wpList_store_mid rfl 46 _ _ rfl _ _ #[.int .i64 ce',.int .i64 cl',.int .i64 cv',.slice ha' hx'.length hc'] rfl rfl hT3 zgG (by simp[Value.oneCell']) ?_)
         go_name_world w3 hw3
         rw[show(w2.alloc (.cells #[.int .i64 0,.int .i64 0,.int .i64 0,.slice none 0 0] 46)).setCells w2.heap.size 0 [.int .i64 ce',.int .i64 cl',.int .i64 cv',.slice ha' hx'.length hc']=w3 from hw3]at r3 hb3 hz3
         have hs3:w2.heap.size<w3.heap.size:=by omega
         clear hw3 hz3 hT3
         have up:=fun i v (h:w2.cell? ⟨w.heap.size,i,none⟩=some v)=>(hb3.cell (p:=⟨w.heap.size,i,none⟩) (show w.heap.size<w2.heap.size by omega)).trans h
         replace cQ:=up _ _ cQ
         replace cR:=up _ _ cR
         replace cN:=up _ _ cN
         replace cG:=up _ _ cG
         replace rC:=zd rC hb3 (by omega)
         clear up
         have up':=fun i v (h:w2.cell? ⟨w.heap.size+1,i,none⟩=some v)=>(hb3.cell (p:=⟨w.heap.size+1,i,none⟩) (show w.heap.size+1<w2.heap.size by omega)).trans h
         replace cQ':=up' _ _ cQ'
         replace cR':=up' _ _ cR'
         replace cN':=up' _ _ cN'
         replace cG':=up' _ _ cG'
         replace rC':=zd rC' hb3 (by omega)
         clear up'
         have hBb:=hBa.trans (hb3.mono (by omega))
         have d0:=zd r2 hb3 (by omega) 0 _ rfl
         have d1:=zd r2 hb3 (by omega) 1 _ rfl
         have d2:=zd r2 hb3 (by omega) 2 _ rfl
         have d3:=zd r2 hb3 (by omega) 3 _ rfl
         have f0:=r3 0 _ rfl
         have f1:=r3 1 _ rfl
         have f2:=r3 2 _ rfl
         have f3:=r3 3 _ rfl
         simp only[Nat.zero_add,Nat.add_zero]at d0 d1 d2 d3 f0 f1 f2 f3
         have hs4:w.heap.size+2≤w3.heap.size:=by omega
         have hBW:Below W.heap.size W w3:=hb2.trans (hb3.mono (by omega))
         clear r2 r3 hb2 hb3 hBa c1 c2 c3 cH c1' c2' c3' cH' hs hs2 hs3
         by_cases h_ce:ce=ce'
         rotate_left
         ·have n_ce:(ce !=ce')=true:=bne_iff_ne.2 h_ce
          have E_ce:=hide (show(ce==ce')=false from beq_eq_false_iff_ne.2 h_ce)
          clear h_ce gB gC gN gT gS A1 A2 A3 A4 A5 B1 B2 B3 B4 B5 rC rC' cQ cR cQ' cR' cN cN' cG cG'
          go_wp2
          go_ret
          exact⟨by rw[E_ce.out];simp,hBb⟩
         ·have n_ce:(ce !=ce')=false:=by rw[h_ce];simp
          have E_ce:=hide (show(ce==ce')=true from beq_iff_eq.2 h_ce)
          clear h_ce
          by_cases h_cl:cl=cl'
          rotate_left
          ·have n_cl:(cl !=cl')=true:=bne_iff_ne.2 h_cl
           have E_cl:=hide (show(cl==cl')=false from beq_eq_false_iff_ne.2 h_cl)
           clear h_cl gB gC gN gT gS A1 A2 A3 A4 A5 B1 B2 B3 B4 B5 rC rC' cQ cR cQ' cR' cN cN' cG cG'
           go_wp2
           go_ret
           exact⟨by rw[E_cl.out];simp,hBb⟩
          ·have n_cl:(cl !=cl')=false:=by rw[h_cl];simp
           have E_cl:=hide (show(cl==cl')=true from beq_iff_eq.2 h_cl)
           clear h_cl
           by_cases h_cv:cv=cv'
           rotate_left
           ·have n_cv:(cv !=cv')=true:=bne_iff_ne.2 h_cv
            have E_cv:=hide (show(cv==cv')=false from beq_eq_false_iff_ne.2 h_cv)
            clear h_cv gB gC gN gT gS A1 A2 A3 A4 A5 B1 B2 B3 B4 B5 rC rC' cQ cR cQ' cR' cN cN' cG cG'
            go_wp2
            go_ret
            exact⟨by rw[E_cv.out];simp,hBb⟩
           ·have n_cv:(cv !=cv')=false:=by rw[h_cv];simp
            have E_cv:=hide (show(cv==cv')=true from beq_iff_eq.2 h_cv)
            clear h_cv
            replace A1:=A1.below hBW
            replace B1:=B1.below hBW
            replace A2:=A2.below hBW
            replace B2:=B2.below hBW
            replace A3:=A3.below hBW
            replace B3:=B3.below hBW
            replace A4:=A4.below hBW
            replace B4:=B4.below hBW
            replace A5:=A5.below hBW
            replace B5:=B5.below hBW
            have G2:=gC w3 A2 B2
            clear hBW
            go_wp2_with fail
            refine G2.mono ?_
            rintro e5 w5 ⟨rfl,hb5⟩
            have up:=fun i v (h:w3.cell? ⟨w.heap.size,i,none⟩=some v)=>(hb5.cell (p:=⟨w.heap.size,i,none⟩) (show w.heap.size<w3.heap.size by omega)).trans h
            replace cQ:=up _ _ cQ
            replace cR:=up _ _ cR
            replace cN:=up _ _ cN
            replace cG:=up _ _ cG
            replace rC:=zd rC hb5 (by omega)
            clear up
            have up':=fun i v (h:w3.cell? ⟨w.heap.size+1,i,none⟩=some v)=>(hb5.cell (p:=⟨w.heap.size+1,i,none⟩) (show w.heap.size+1<w3.heap.size by omega)).trans h
            replace cQ':=up' _ _ cQ'
            replace cR':=up' _ _ cR'
            replace cN':=up' _ _ cN'
            replace cG':=up' _ _ cG'
            replace rC':=zd rC' hb5 (by omega)
            clear up'
            have hs5:=Nat.le_trans hs4 hb5.size
            have hB5:=hBb.trans (hb5.mono (by omega))
            replace A1:=A1.below hb5
            replace B1:=B1.below hb5
            replace A3:=A3.below hb5
            replace B3:=B3.below hb5
            replace A4:=A4.below hb5
            replace B4:=B4.below hb5
            replace A5:=A5.below hb5
            replace B5:=B5.below hb5
            have G1:=gB w5 A1 B1
            clear hb5 hBb hs4 G2 gC A2 B2 gB A1 B1 d0 d1 d2 d3 f0 f1 f2 f3
            cases b2
            ·clear G1 gN gT gS A3 A4 A5 B3 B4 B5
             go_wp2
             go_ret
             exact⟨by rw[E_k.out,E_e.out,E_l.out,E_v.out,E_s.out,E_st.out,E_ce.out,E_cl.out,E_cv.out];simp,hB5⟩
            ·go_upto_region 7 with fail
             go_wp2_with fail
             refine G1.mono ?_
             rintro e6 w6 ⟨rfl,hb6⟩
             have up:=fun i v (h:w5.cell? ⟨w.heap.size,i,none⟩=some v)=>(hb6.cell (p:=⟨w.heap.size,i,none⟩) (show w.heap.size<w5.heap.size by omega)).trans h
             replace cN:=up _ _ cN
             replace cG:=up _ _ cG
             replace rC:=zd rC hb6 (by omega)
             clear up
             have up':=fun i v (h:w5.cell? ⟨w.heap.size+1,i,none⟩=some v)=>(hb6.cell (p:=⟨w.heap.size+1,i,none⟩) (show w.heap.size+1<w5.heap.size by omega)).trans h
             replace cN':=up' _ _ cN'
             replace cG':=up' _ _ cG'
             replace rC':=zd rC' hb6 (by omega)
             clear up'
             have hs6:=Nat.le_trans hs5 hb6.size
             have hB6:=hB5.trans (hb6.mono (by omega))
             have G3:=gN w6 (A3.below hb6) (B3.below hb6)
             replace A4:=A4.below hb6
             replace B4:=B4.below hb6
             replace A5:=A5.below hb6
             replace B5:=B5.below hb6
             clear hb6 hB5 hs5 G1 gN A3 B3 cQ cR cQ' cR'
             cases b1
             ·clear G3 gT gS A4 A5 B4 B5
              go_wp2
              go_ret
              exact⟨by rw[E_k.out,E_e.out,E_l.out,E_v.out,E_s.out,E_st.out,E_ce.out,E_cl.out,E_cv.out];simp,hB6⟩
             ·go_wp2_with fail
              refine G3.mono ?_
              rintro e7 w7 ⟨rfl,hb7⟩
              have up:=fun i v (h:w6.cell? ⟨w.heap.size,i,none⟩=some v)=>(hb7.cell (p:=⟨w.heap.size,i,none⟩) (show w.heap.size<w6.heap.size by omega)).trans h
              replace cG:=up _ _ cG
              replace rC:=zd rC hb7 (by omega)
              clear up
              have up':=fun i v (h:w6.cell? ⟨w.heap.size+1,i,none⟩=some v)=>(hb7.cell (p:=⟨w.heap.size+1,i,none⟩) (show w.heap.size+1<w6.heap.size by omega)).trans h
              replace cG':=up' _ _ cG'
              replace rC':=zd rC' hb7 (by omega)
              clear up'
              have hs7:=Nat.le_trans hs6 hb7.size
              have hB7:=hB6.trans (hb7.mono (by omega))
              have G4:=gT w7 (A4.below hb7) (B4.below hb7)
              replace A5:=A5.below hb7
              replace B5:=B5.below hb7
              clear hb7 hB6 hs6 G3 gT A4 B4 cN cN'
              cases b3
              ·clear G4 gS A5 B5
               go_wp2
               go_ret
               exact⟨by rw[E_k.out,E_e.out,E_l.out,E_v.out,E_s.out,E_st.out,E_ce.out,E_cl.out,E_cv.out];simp,hB7⟩
              ·go_wp2_with (first|(refine zQ (by rfl) 50 _ rfl _ _ rfl uc _ rC underlying50 rfl ic ?_)|(refine zQ (by rfl) 50 _ rfl _ _ rfl uc' _ rC' underlying50 rfl ic' ?_))
               refine G4.mono ?_
               rintro e8 w8 ⟨rfl,hb8⟩
               have up:=fun i v (h:w7.cell? ⟨w.heap.size,i,none⟩=some v)=>(hb8.cell (p:=⟨w.heap.size,i,none⟩) (show w.heap.size<w7.heap.size by omega)).trans h
               replace cG:=up _ _ cG
               clear up
               have up':=fun i v (h:w7.cell? ⟨w.heap.size+1,i,none⟩=some v)=>(hb8.cell (p:=⟨w.heap.size+1,i,none⟩) (show w.heap.size+1<w7.heap.size by omega)).trans h
               replace cG':=up' _ _ cG'
               clear up'
               have hB8:=hB7.trans (hb8.mono (by omega))
               have G5:=gS w8 (A5.below hb8) (B5.below hb8)
               clear hb8 hB7 G4 gS A5 B5 rC rC'
               cases b4
               ·clear G5
                go_wp2
                go_ret
                exact⟨by rw[E_k.out,E_e.out,E_l.out,E_v.out,E_s.out,E_st.out,E_ce.out,E_cl.out,E_cv.out];simp,hB8⟩
               ·go_wp2_with fail
                refine G5.mono ?_
                rintro e9 w9 ⟨rfl,hb9⟩
                have hB9:=hB8.trans (hb9.mono hB8.size)
                clear hb9
                cases b5
                ·go_wp2
                 go_ret
                 exact⟨by rw[E_k.out,E_e.out,E_l.out,E_v.out,E_s.out,E_st.out,E_ce.out,E_cl.out,E_cv.out];simp,hB9⟩
                ·go_wp2
                 go_ret
                 exact⟨by rw[E_k.out,E_e.out,E_l.out,E_v.out,E_s.out,E_st.out,E_ce.out,E_cl.out,E_cv.out];simp,hB9⟩
structure Bst (w X:World) (b2:Nat) (q:List Value):Prop where
 A:X.rangeAt w.heap.size 0 q
 T:X.there b2 0 119
 T1:X.there (w.heap.size+1) 0 119
 B:Below w.heap.size w X
 h2:w.heap.size+2≤b2
 hs:b2<X.heap.size
theorem Bst.put {w X:World} {b2:Nat} {q:List Value} (h:Bst w X b2 q) (o:Nat) (vs:List Value):Bst w (X.setCells b2 o vs) b2 q:=
 ⟨World.rangeAt_setCells_apart h.A _ _ _ (.inl (by have:=h.h2;omega)),World.there_setCells h.T _ _ _,World.there_setCells h.T1 _ _ _,ze (by have:=h.h2;omega) vs o _ h.B,h.h2,by rw[zF];exact h.hs⟩
theorem Bst.below {w X Y:World} {b2:Nat} {q:List Value} (h:Bst w X b2 q) (hb:Below X.heap.size X Y):Bst w Y b2 q:=
 ⟨zd h.A hb (by have:=h.h2;have:=h.hs;omega),zj h.T hb h.hs,zj h.T1 hb (by have:=h.h2;have:=h.hs;omega),h.B.trans (hb.mono h.B.size),h.h2,Nat.lt_of_lt_of_le h.hs hb.size⟩
theorem Bst.part {w X:World} {b2:Nat} {q:List Value} (h:Bst w X b2 q) (o n:Nat) (hn:o+n≤119):X.there b2 o n:=by
 have:=zar h.T o n hn
 rwa [Nat.zero_add]at this
theorem za9 {c:Ms} {X:World} {b:Nat} (x:Int) (r:X.rangeAt b 0 c.cells) (ht:X.there b 1 1):(X.setCells b 1 [.int .i64 x]).rangeAt b 0 {c with e:=x}.cells:=
 zaG (pre:=[Value.int .i64 c.k]) (mid:=[.int .i64 c.e]) (vs:=[.int .i64 x]) r 1 rfl ht rfl
theorem zfS {c:Ms} {X:World} {b:Nat} (x:Int) (r:X.rangeAt b 0 c.cells) (ht:X.there b 2 1):(X.setCells b 2 [.int .i64 x]).rangeAt b 0 {c with l:=x}.cells:=
 zaG (pre:=[Value.int .i64 c.k,Value.int .i64 c.e]) (mid:=[.int .i64 c.l]) (vs:=[.int .i64 x]) r 2 rfl ht rfl
theorem zfO {c:Ms} {X:World} {b:Nat} (x:Int) (r:X.rangeAt b 0 c.cells) (ht:X.there b 3 1):(X.setCells b 3 [.int .i64 x]).rangeAt b 0 {c with v:=x}.cells:=
 zaG (pre:=[Value.int .i64 c.k,Value.int .i64 c.e,Value.int .i64 c.l]) (mid:=[.int .i64 c.v]) (vs:=[.int .i64 x]) r 3 rfl ht rfl
theorem zcb {c:Ms} {X:World} {b:Nat} (x:Int) (r:X.rangeAt b 0 c.cells) (ht:X.there b 4 1):(X.setCells b 4 [.int .i64 x]).rangeAt b 0 {c with s:=x}.cells:=
 zaG (pre:=[Value.int .i64 c.k,Value.int .i64 c.e,Value.int .i64 c.l,Value.int .i64 c.v]) (mid:=[.int .i64 c.s]) (vs:=[.int .i64 x]) r 4 rfl ht rfl
theorem zcc {c:Ms} {X:World} {b:Nat} (x:Bool) (y:Value) (r:X.rangeAt b 0 c.cells) (ht:X.there b 5 2):(X.setCells b 5 [.bool x,y]).rangeAt b 0 {c with q:=x,rs:=y}.cells:=
 zaG (pre:=[Value.int .i64 c.k,.int .i64 c.e,.int .i64 c.l,.int .i64 c.v,.int .i64 c.s]) (mid:=[.bool c.q,c.rs]) (vs:=[.bool x,y]) r 5 rfl ht rfl
theorem zfN {c:Ms} {X:World} {b:Nat} (x:Vt) (hx:x.ok) (hc:c.vt.ok) (r:X.rangeAt b 0 c.cells) (ht:X.there b 7 36):(X.setCells b 7 x.cells).rangeAt b 0 {c with vt:=x}.cells:=
 zaG (pre:=[.int .i64 c.k,.int .i64 c.e,.int .i64 c.l,.int .i64 c.v,.int .i64 c.s,.bool c.q,c.rs]) (mid:=c.vt.cells) (vs:=x.cells) r 7 rfl (by rw[hx.len];exact ht) (by rw[hx.len,hc.len])
theorem zfV {c:Ms} {X:World} {b:Nat} (x y z:Int) (u:Value) (hc:c.vt.ok) (r:X.rangeAt b 0 c.cells) (ht:X.there b 43 4):(X.setCells b 43 [.int .i64 x,.int .i64 y,.int .i64 z,u]).rangeAt b 0 {c with ce:=x,cl:=y,cv:=z,he:=u}.cells:=by
 have h:=zaG (pre:=[.int .i64 c.k,.int .i64 c.e,.int .i64 c.l,.int .i64 c.v,.int .i64 c.s,.bool c.q,c.rs]++c.vt.cells) (mid:=[.int .i64 c.ce,.int .i64 c.cl,.int .i64 c.cv,c.he]) (vs:=[.int .i64 x,.int .i64 y,.int .i64 z,u]) (post:=c.ne::(v8 c.d++(c.ct.cells++[c.cs,.string c.st,c.sg]))) (by simpa [Ms.cells,List.append_assoc]using r) 43 (by simp[hc.len]) ht rfl
 simpa [Ms.cells,List.append_assoc]using h
theorem zfR {c:Ms} {X:World} {b:Nat} (x:Value) (hc:c.vt.ok) (r:X.rangeAt b 0 c.cells) (ht:X.there b 47 1):(X.setCells b 47 [x]).rangeAt b 0 {c with ne:=x}.cells:=by
 have h:=zaG (pre:=[.int .i64 c.k,.int .i64 c.e,.int .i64 c.l,.int .i64 c.v,.int .i64 c.s,.bool c.q,c.rs]++c.vt.cells++[.int .i64 c.ce,.int .i64 c.cl,.int .i64 c.cv,c.he]) (mid:=[c.ne]) (vs:=[x]) (post:=v8 c.d++(c.ct.cells++[c.cs,.string c.st,c.sg])) (by simpa [Ms.cells,List.append_assoc]using r) 47 (by simp[hc.len]) ht rfl
 simpa [Ms.cells,List.append_assoc]using h
theorem zfT {c:Ms} {X:World} {b:Nat} (x:List Int) (hx:x.length=32) (hd:c.d.length=32) (hc:c.vt.ok) (r:X.rangeAt b 0 c.cells) (ht:X.there b 48 32):(X.setCells b 48 (v8 x)).rangeAt b 0 {c with d:=x}.cells:=by
 have h:=zaG (pre:=[.int .i64 c.k,.int .i64 c.e,.int .i64 c.l,.int .i64 c.v,.int .i64 c.s,.bool c.q,c.rs]++c.vt.cells++[.int .i64 c.ce,.int .i64 c.cl,.int .i64 c.cv,c.he,c.ne]) (mid:=v8 c.d) (vs:=v8 x) (post:=c.ct.cells++[c.cs,.string c.st,c.sg]) (by simpa [Ms.cells,List.append_assoc]using r) 48 (by simp[hc.len]) (by rw[v8_length,hx];exact ht) (by rw[v8_length,v8_length,hx,hd])
 simpa [Ms.cells,List.append_assoc]using h
theorem zfU {c:Ms} {X:World} {b:Nat} (x:Vt) (y:Value) (hx:x.ok) (hy:c.ct.ok) (hd:c.d.length=32) (hc:c.vt.ok) (r:X.rangeAt b 0 c.cells) (ht:X.there b 80 37):(X.setCells b 80 (x.cells++[y])).rangeAt b 0 {c with ct:=x,cs:=y}.cells:=by
 have h:=zaG (pre:=[.int .i64 c.k,.int .i64 c.e,.int .i64 c.l,.int .i64 c.v,.int .i64 c.s,.bool c.q,c.rs]++c.vt.cells++[.int .i64 c.ce,.int .i64 c.cl,.int .i64 c.cv,c.he,c.ne]++v8 c.d) (mid:=c.ct.cells++[c.cs]) (vs:=x.cells++[y]) (post:=[.string c.st,c.sg]) (by simpa [Ms.cells,List.append_assoc]using r) 80 (by simp[hc.len,hd]) (by simp[hx.len];exact ht) (by simp[hx.len,hy.len])
 simpa [Ms.cells,List.append_assoc]using h
theorem zfP {c:Ms} {X:World} {b:Nat} (x:ByteArray) (hy:c.ct.ok) (hd:c.d.length=32) (hc:c.vt.ok) (r:X.rangeAt b 0 c.cells) (ht:X.there b 117 1):(X.setCells b 117 [.string x]).rangeAt b 0 {c with st:=x}.cells:=by
 have h:=zaG (pre:=[.int .i64 c.k,.int .i64 c.e,.int .i64 c.l,.int .i64 c.v,.int .i64 c.s,.bool c.q,c.rs]++c.vt.cells++[.int .i64 c.ce,.int .i64 c.cl,.int .i64 c.cv,c.he,c.ne]++v8 c.d++(c.ct.cells++[c.cs])) (mid:=[.string c.st]) (vs:=[.string x]) (post:=[c.sg]) (by simpa [Ms.cells,List.append_assoc]using r) 117 (by simp[hc.len,hd,hy.len]) ht rfl
 simpa [Ms.cells,List.append_assoc]using h
theorem zfQ {c:Ms} {X:World} {b:Nat} (x:Value) (hy:c.ct.ok) (hd:c.d.length=32) (hc:c.vt.ok) (r:X.rangeAt b 0 c.cells) (ht:X.there b 118 1):(X.setCells b 118 [x]).rangeAt b 0 {c with sg:=x}.cells:=by
 have h:=zaG (pre:=[.int .i64 c.k,.int .i64 c.e,.int .i64 c.l,.int .i64 c.v,.int .i64 c.s,.bool c.q,c.rs]++c.vt.cells++[.int .i64 c.ce,.int .i64 c.cl,.int .i64 c.cv,c.he,c.ne]++v8 c.d++(c.ct.cells++[c.cs,.string c.st])) (mid:=[c.sg]) (vs:=[x]) (post:=[]) (by simpa [Ms.cells,List.append_assoc]using r) 118 (by simp[hc.len,hd,hy.len]) ht rfl
 simpa [Ms.cells,List.append_assoc]using h
theorem loadC {P:Program} (w:World) {b o:Nat} {ty:TypeId} {v:Value} {d:TypeDesc} (hc:w.cell? ⟨b,o,none⟩=some v) (hu:P.underlying ty=some d) (hd:d.isRow=false):(loadVar ty ⟨b,o,none⟩).run P w=.ok v w:=by
 simp only[loadVar,isAgg,run_underlying hu,Sem.run_bind,Result.andThen_ok]
 cases d<;>first|(simp[TypeDesc.isRow]at hd;done)|simp[go_sem,hc]
def Ms.bare1 (m:Ms):Ms:={Ms.plain 1 0 0 Vt.zero zb with q:=m.q,rs:=m.rs,e:=m.e,s:=m.s}
theorem Ms.bare1_ok {m:Ms} (hm:m.ok):m.bare1.ok:=by
 have oc:=Ms.plain_ok 1 0 0 Vt.zero_ok zw zG
 exact⟨by first|exact hm.vt|exact oc.vt,by first|exact hm.ct|exact oc.ct,by first|exact hm.dl|exact oc.dl,by first|exact hm.db|exact oc.db,by first|exact hm.rs|rfl,by first|exact hm.he|rfl,by first|exact hm.ne|rfl,by first|exact hm.cs|rfl,by first|exact hm.sg|rfl⟩
theorem zmF (m:Ms) (hm:m.ok) (hk:m.k=1) (w:World):Calls prog 85 #[.agg m.cells.toArray] w (BareOk w m.bare1.cells):=by
  have oc:=Ms.plain_ok 1 0 0 Vt.zero_ok zw zG
  have hz0:Ms.zero.ok:=Ms.plain_ok 0 0 0 Vt.zero_ok zw zG
  have od:=Ms.bare1_ok hm
  have lk:=oc.len
  have lz:=hz0.len
  have ld:=od.len
  have ok:=all_oneCell_toArray oc.one
  have om:=all_oneCell_toArray od.one
  have hz:=zeroM
  have hbk:=zaO 1
  have hat:∀(w':World) b,w'.rangeAt b 0 m.cells→w'.cell? ⟨b,0,none⟩=some (.int .i64 1)∧w'.rangeAt b 5 ([.bool m.q,m.rs])∧w'.cell? ⟨b,1,none⟩=some (.int .i64 m.e)∧w'.cell? ⟨b,4,none⟩=some (.int .i64 m.s):=fun w' b h=>by
    have M:=hm.at h
    exact⟨(by rw[←hk];exact M.k),(fun j v hj=>by
    match j,hj with
    |0,hj=>cases hj;exact M.q
    |1,hj=>cases hj;exact M.rs),M.e,M.s⟩
  have hput1:∀(X:World) b,X.rangeAt b 0 (Ms.plain 1 0 0 Vt.zero zb).cells→X.there b 0 119→(X.setCells b 5 ([.bool m.q,m.rs])).rangeAt b 0 ({(Ms.plain 1 0 0 Vt.zero zb)with q:=m.q,rs:=m.rs}:Ms).cells:=fun X b r0 t0=>by
    have t1:X.there b 5 2:=by have:=zar t0 5 2 (by omega);rwa [Nat.zero_add]at this
    exact zcc m.q m.rs r0 t1
  have hput2:∀(X:World) b,X.rangeAt b 0 ({(Ms.plain 1 0 0 Vt.zero zb)with q:=m.q,rs:=m.rs}:Ms).cells→X.there b 0 119→(X.setCells b 1 ([.int .i64 m.e])).rangeAt b 0 ({({(Ms.plain 1 0 0 Vt.zero zb)with q:=m.q,rs:=m.rs}:Ms)with e:=m.e}:Ms).cells:=fun X b r0 t0=>by
    have t1:X.there b 1 1:=by have:=zar t0 1 1 (by omega);rwa [Nat.zero_add]at this
    exact za9 m.e r0 t1
  have hput3:∀(X:World) b,X.rangeAt b 0 ({({(Ms.plain 1 0 0 Vt.zero zb)with q:=m.q,rs:=m.rs}:Ms)with e:=m.e}:Ms).cells→X.there b 0 119→(X.setCells b 4 ([.int .i64 m.s])).rangeAt b 0 m.bare1.cells:=fun X b r0 t0=>by
    have t1:X.there b 4 1:=by have:=zar t0 4 1 (by omega);rwa [Nat.zero_add]at this
    exact zcb m.s r0 t1
  have im:(prog.info? 52).map (·.size)=some m.bare1.cells.length:=by rw[ld];exact iszM
  have im':(prog.info? 52).map (·.size)=some m.bare1.cells.toArray.size:=by rw[List.size_toArray,ld];exact iszM
  have ik':(prog.info? 52).map (·.size)=some (Ms.plain 1 0 0 Vt.zero zb).cells.toArray.size:=by rw[List.size_toArray,lk];exact iszM
  have l_b:([.bool m.q,m.rs]).length=2:=rfl
  have o_b:=all_oneCell_toArray (cs:=[.bool m.q,m.rs]) (fun v hv=>by simp only[List.mem_cons,List.not_mem_nil,or_false]at hv;rcases hv with rfl|rfl<;>first|rfl|exact hm.rs)
  have i_b:(prog.info? 39).map (·.size)=some ([.bool m.q,m.rs]).length:=by rw[l_b];exact iszB
  have j_b:(prog.info? 39).map (·.size)=some ([.bool m.q,m.rs]).toArray.size:=by rw[List.size_toArray,l_b];exact iszB
  clear oc hz0 od hm hk
  generalize m.bare1.cells=qr at *
  generalize ({(Ms.plain 1 0 0 Vt.zero zb)with q:=m.q,rs:=m.rs}:Ms).cells=C1 at *
  generalize ({({(Ms.plain 1 0 0 Vt.zero zb)with q:=m.q,rs:=m.rs}:Ms)with e:=m.e}:Ms).cells=C2 at *
  generalize m.cells=q at *
  generalize (Ms.plain 1 0 0 Vt.zero zb).cells=qk at *
  generalize Ms.zero.cells=z at *
  generalize ([.bool m.q,m.rs])=u_b at *
  generalize m.e=x_e at *
  generalize m.s=x_s at *
  obtain⟨hA,hT,hB,hs⟩:=zhB q z w lz
  go_enter func85,ntmps85
  go_upto_region 1 with fail
  go_name_world w1 hw1
  rw[show(w.alloc (.cells q.toArray 52)).alloc (.cells z.toArray 52)=w1 from hw1]at hA hT hB hs
  clear hw1
  have c0:=(hat _ _ hA).1
  obtain⟨r2,hB2,hs2,hT2⟩:=zt w1 z.toArray 52 qk (by rw[List.size_toArray,lz,lk])
  rw[show z.toArray.size=119 by simpa using lz]at hT2
  have hTz:(w1.alloc (.cells z.toArray 52)).there w1.heap.size 0 qk.toArray.size:=by
    have:=zK w1 z.toArray 52
    rw[show z.toArray.size=119 by simpa using lz]at this
    rw[show qk.toArray.size=119 by simpa using lk]
    exact this
  go_upto_region 2 with(first|(refine zdh rfl 52 [(0,.tmp 5)] rfl [(0,.int .i64 1)] _ rfl (hbk _) ?_)|refine wpList_store_mid rfl 52 _ _ rfl _ _ qk.toArray rfl rfl hTz ik' ok ?_)
  go_name_world w2 hw2
  rw[show(w1.alloc (.cells z.toArray 52)).setCells w1.heap.size 0 qk=w2 from hw2]at r2 hB2 hs2 hT2
  have hs2':w1.heap.size<w2.heap.size:=by omega
  clear hw2 hs2 hTz
  have H:Bst w w2 w1.heap.size q:=⟨zd hA hB2 (by omega),hT2,zj hT hB2 (by omega),hB.trans (hB2.mono (by omega)),hs,hs2'⟩
  clear hA hT hB hB2 c0 hT2
  have F_b:=(hat _ _ H.A).2.1
  have ck:=(hat _ _ H.A).1
  have P_b:=H.part 5 2 (by omega)
  have Q_b:w2.there w1.heap.size 5 u_b.toArray.size:=by rw[show u_b.toArray.size=2 by simpa using l_b];exact P_b
  go_upto_region 12 with(first|(refine wpList_load_mid rfl 39 _ rfl _ _ rfl u_b _ F_b underlying39 rfl i_b ?_)|(refine wpList_store_mid rfl 39 _ _ rfl _ _ u_b.toArray rfl rfl Q_b j_b o_b ?_))
  have r2:=hput1 _ _ r2 H.T
  replace H:=H.put 5 (u_b)
  clear F_b P_b Q_b
  obtain⟨w5,hw5⟩:∃w5,((w2).setCells w1.heap.size 5 (u_b)).drew=w5:=⟨_,rfl⟩
  have hBd:Below ((w2).setCells w1.heap.size 5 (u_b)).heap.size ((w2).setCells w1.heap.size 5 (u_b)) w5:=by rw[←hw5];exact(Below.refl _ _).drew
  have r2:=zd r2 hBd H.hs
  replace H:=H.below hBd
  refine zC (S:=fun w'=>w'.rangeAt w.heap.size 0 q) 8 rfl (by kernel_rfl) ?_
  rw[hw5]
  have hS:=H.A
  have h02:=H.h2
  refine hs_a 0 28 hS ?_
  refine hs_v 1 29 (.int .i64 x_e) rfl (fun w' hw=>zH rfl rfl (loadC w' ((hat _ _ hw).2.2.1) underlying3 rfl)) hS ?_
  refine hs_a 2 30 hS ?_
  refine hs_v 3 31 (.int .i64 x_s) rfl (fun w' hw=>zH rfl rfl (loadC w' ((hat _ _ hw).2.2.2) underlying3 rfl)) hS ?_
  refine hs_a 4 32 hS ?_
  refine zS (i:=5) (w':=(w5).setCells w1.heap.size 1 ([.int .i64 x_e])) rfl (by kernel_rfl) (by rfl) (zg5 rfl rfl rfl (ze9 _ _ _ _ (.int .i64 x_e) (H.part 1 1 (by omega)) iszI rfl rfl)) rfl (H.put 1 ([.int .i64 x_e])).A ?_
  have r2:=hput2 _ _ r2 H.T
  replace H:=H.put 1 ([.int .i64 x_e])
  have hS:=H.A
  refine hs_a 6 33 hS ?_
  refine zS (i:=7) (w':=((w5).setCells w1.heap.size 1 ([.int .i64 x_e])).setCells w1.heap.size 4 ([.int .i64 x_s])) rfl (by kernel_rfl) (by rfl) (zg5 rfl rfl rfl (ze9 _ _ _ _ (.int .i64 x_s) (H.part 4 1 (by omega)) iszI rfl rfl)) rfl (H.put 4 ([.int .i64 x_s])).A ?_
  have r2:=hput3 _ _ r2 H.T
  replace H:=H.put 4 ([.int .i64 x_s])
  have hS:=H.A
  refine zv (by kernel_rfl) ?_
  clear hBd
  go_upto_region 20 with fail
  go_name_world w3 hw3
  rw[show((w5).setCells w1.heap.size 1 ([.int .i64 x_e])).setCells w1.heap.size 4 ([.int .i64 x_s])=w3 from hw3]at r2 H
  clear hw3
  have hT3:w3.there (w.heap.size+1) 0 qr.toArray.size:=by
    rw[show qr.toArray.size=119 by simpa using ld]
    exact H.T1
  have hB3:=H.B
  have r4:=World.rangeAt_setCells_same w3 (w.heap.size+1) 0 qr (by have:=hT3;rwa [List.size_toArray]at this)
  have hB4:=ze (show w.heap.size≤w.heap.size+1 by omega) qr 0 _ hB3
  have hrs:=run_loadVar_mid (P:=prog) _ (w.heap.size+1) 0 52 qr _ r4 underlying52 rfl im
  go_wp2_with (first|(refine wpList_load_mid rfl 52 _ rfl _ _ rfl qr _ r2 underlying52 rfl im ?_)|(refine wpList_store_mid rfl 52 _ _ rfl _ _ qr.toArray rfl rfl hT3 im' om ?_))
  exact bodyPost_ret (v:=.agg qr.toArray) (by simp[results,results85,asAddr,hrs,Act.put]) rfl ⟨rfl,hB4⟩
def Ms.bare2 (m:Ms):Ms:={Ms.plain 2 0 0 Vt.zero zb with vt:=m.vt}
def Sg.zero:Sg:=⟨0,List.replicate 16 0⟩
def Ev.zero:Ev:=⟨0,⟨#[]⟩,List.replicate 16 0⟩
def Rq.zero:Rq:=⟨0,0,⟨#[]⟩,List.replicate 16 0⟩
def mayL {α:Type} (most:Int) (p:α→Bool) (xs:List α):Bool:=decide ((xs.length:Int)≤most)&&xs.all p
theorem zmI (x:Sl Sg) (most:Int) (p:Sg→Bool) (w:World) (hx:x.At SgE w) (hp:∀y∈x.xs,∀w0,Below w.heap.size w w0→Calls prog 170 #[.agg y.cells.toArray] w0 fun e w'=>e=.returned (.bool (p y))∧Below w0.heap.size w0 w'):
  Calls prog 169 #[x.val,.int .i64 most,.func (.func 170) #[] #[]] w fun e w'=>e=.returned (.bool (mayL most p x.xs))∧Below w.heap.size w w':=by
 obtain⟨a,cap,xs⟩:=x
 have hml:xs.length≤maxLen:=hx.1
 unfold maxLen at hml
 simp only[Sl.val]
 unfold mayL
 by_cases hlen:(xs.length:Int)≤most
 rotate_left
 ·rw[decide_eq_false hlen,Bool.false_and]
  have k0:most<(xs.length:Int):=by omega
  clear hlen hp
  go_enter func169,ntmps169
  go_wp2
  go_ret
  exact⟨rfl,Below.refl _ _⟩
 ·rw[decide_eq_true hlen,Bool.true_and]
  have k0:¬most<(xs.length:Int):=by omega
  clear hlen
  obtain⟨sb,hsb⟩:∃sb,Hid (xs.all p=sb):=⟨_,hide rfl⟩
  rw[hsb.out]
  go_enter func169,ntmps169
  go_wp2
  go_loopw [15] (fun iv wr'=>∃k:Nat,k≤xs.length∧iv=.int .i64 (k:Int)∧Hid (∀j (hj:j<xs.length),j<k→p xs[j]=true)∧Below w.heap.size w wr') (fun iv _=>xs.length - (intOf iv).toNat)
  case atStart=>exact⟨0,by omega,rfl,hide (fun j _ hj=>absurd hj (by omega)),Below.refl _ _⟩
  case round=>
   clear k0
   obtain⟨k,hk,rfl,HM,hB⟩:=hrel
   by_cases hlt:k<xs.length
   ·have k1:(k:Int)<xs.length:=by omega
    obtain⟨b,off,rfl,hb,hre⟩:=RowsAt.elem (hx.below hB) k hlt
    have hre:wr.rangeAt b (off+k*17) xs[k].cells:=hre
    have okx:SgE.ok xs[k]:=hx.2.1 _ (List.getElem_mem hlt)
    have hpk:=fun w0 h0=>hp xs[k] (List.getElem_mem hlt) w0 h0
    have HT:Hid (p xs[k]=true→∀j (hj:j<xs.length),j<k+1→p xs[j]=true):=hide (fun h j hj hjk=>by
     by_cases e:j=k
     ·subst e;exact h
     ·exact HM.out j hj (by omega))
    have HF:Hid (p xs[k]=false→sb=false):=hide (fun h=>by
     rw[←hsb.out]
     rw[List.all_eq_false]
     exact⟨xs[k],List.getElem_mem hlt,by rw[h];simp⟩)
    obtain⟨gx,hX⟩:∃g,Hid (xs[k]=g):=⟨_,hide rfl⟩
    rw[hX.out]at hre okx hpk HT HF
    clear hX HM
    have lu:gx.cells.length=17:=SgE.len _ okx
    have ou:gx.cells.toArray.all (·.oneCell')=true:=all_oneCell_toArray (SgE.one gx)
    generalize gx.cells=u at *
    generalize p gx=pb at *
    clear okx
    have iu:(prog.info? 133).map (·.size)=some u.length:=by rw[lu];kernel_rfl
    have iA:(prog.info? 133).map (·.size)=some u.toArray.size:=by rw[List.size_toArray,lu];kernel_rfl
    have zl:Sg.zero.cells.toArray.size=17:=rfl
    obtain⟨r5,hB5,hs5,_⟩:=zt wr Sg.zero.cells.toArray 133 u (by rw[lu];rfl)
    have hT5:(wr.alloc (.cells Sg.zero.cells.toArray 133)).there wr.heap.size 0 u.toArray.size:=by
     have:=zK wr Sg.zero.cells.toArray 133
     rw[zl]at this
     rw[show u.toArray.size=17 by simpa using lu]
     exact this
    go_upto_region 6 with(first|(refine wpList_load_mid rfl 133 _ rfl _ _ rfl u _ hre underlying133 rfl iu ?_)|(refine wpList_store_mid rfl 133 _ _ rfl _ _ u.toArray rfl rfl hT5 iA ou ?_))
    go_name_world w5 hw5
    rw[show(wr.alloc (.cells Sg.zero.cells.toArray 133)).setCells wr.heap.size 0 u=w5 from hw5]at r5 hB5 hs5
    have hB6:=hB.trans (hB5.mono hB.size)
    have c7:=hpk w5 hB6
    clear hw5 hs5 hT5 hre hpk hB5
    go_wp2_with (refine wpList_load_mid rfl 133 _ rfl _ _ rfl u _ r5 underlying133 rfl iu ?_)
    refine c7.mono ?_
    rintro e8 w8 ⟨rfl,hb8⟩
    have hB8:=hB6.trans (hb8.mono hB6.size)
    clear c7 hb8 r5 hB6
    cases pb
    ·have HF':=hide (HF.out rfl)
     clear HF HT hsb
     go_wp2
     go_ret
     exact⟨by rw[HF'.out];rfl,hB8⟩
    ·have HT':=hide (HT.out rfl)
     clear HF HT
     go_wp2
     go_roundw
     case rel=>exact⟨k+1,by omega,by go_num,HT',hB8⟩
     case measure=>simp[intOf];omega
   ·have k1:¬(k:Int)<xs.length:=by omega
    have HE:Hid (sb=true):=hide (by
     rw[←hsb.out]
     rw[List.all_eq_true]
     intro y hy
     obtain⟨j,hj,rfl⟩:=List.mem_iff_getElem.1 hy
     exact HM.out j hj (by omega))
    clear HM hsb
    go_wp2
    go_ret
    exact⟨by rw[HE.out];rfl,hB⟩
theorem zmL (x:Sl Ev) (most:Int) (p:Ev→Bool) (w:World) (hx:x.At EvE w) (hp:∀y∈x.xs,∀w0,Below w.heap.size w w0→Calls prog 141 #[.agg y.cells.toArray] w0 fun e w'=>e=.returned (.bool (p y))∧Below w0.heap.size w0 w'):
  Calls prog 140 #[x.val,.int .i64 most,.func (.func 141) #[] #[]] w fun e w'=>e=.returned (.bool (mayL most p x.xs))∧Below w.heap.size w w':=by
 obtain⟨a,cap,xs⟩:=x
 have hml:xs.length≤maxLen:=hx.1
 unfold maxLen at hml
 simp only[Sl.val]
 unfold mayL
 by_cases hlen:(xs.length:Int)≤most
 rotate_left
 ·rw[decide_eq_false hlen,Bool.false_and]
  have k0:most<(xs.length:Int):=by omega
  clear hlen hp
  go_enter func140,ntmps140
  go_wp2
  go_ret
  exact⟨rfl,Below.refl _ _⟩
 ·rw[decide_eq_true hlen,Bool.true_and]
  have k0:¬most<(xs.length:Int):=by omega
  clear hlen
  obtain⟨sb,hsb⟩:∃sb,Hid (xs.all p=sb):=⟨_,hide rfl⟩
  rw[hsb.out]
  go_enter func140,ntmps140
  go_wp2
  go_loopw [15] (fun iv wr'=>∃k:Nat,k≤xs.length∧iv=.int .i64 (k:Int)∧Hid (∀j (hj:j<xs.length),j<k→p xs[j]=true)∧Below w.heap.size w wr') (fun iv _=>xs.length - (intOf iv).toNat)
  case atStart=>exact⟨0,by omega,rfl,hide (fun j _ hj=>absurd hj (by omega)),Below.refl _ _⟩
  case round=>
   clear k0
   obtain⟨k,hk,rfl,HM,hB⟩:=hrel
   by_cases hlt:k<xs.length
   ·have k1:(k:Int)<xs.length:=by omega
    obtain⟨b,off,rfl,hb,hre⟩:=RowsAt.elem (hx.below hB) k hlt
    have hre:wr.rangeAt b (off+k*18) xs[k].cells:=hre
    have okx:EvE.ok xs[k]:=hx.2.1 _ (List.getElem_mem hlt)
    have hpk:=fun w0 h0=>hp xs[k] (List.getElem_mem hlt) w0 h0
    have HT:Hid (p xs[k]=true→∀j (hj:j<xs.length),j<k+1→p xs[j]=true):=hide (fun h j hj hjk=>by
     by_cases e:j=k
     ·subst e;exact h
     ·exact HM.out j hj (by omega))
    have HF:Hid (p xs[k]=false→sb=false):=hide (fun h=>by
     rw[←hsb.out]
     rw[List.all_eq_false]
     exact⟨xs[k],List.getElem_mem hlt,by rw[h];simp⟩)
    obtain⟨gx,hX⟩:∃g,Hid (xs[k]=g):=⟨_,hide rfl⟩
    rw[hX.out]at hre okx hpk HT HF
    clear hX HM
    have lu:gx.cells.length=18:=EvE.len _ okx
    have ou:gx.cells.toArray.all (·.oneCell')=true:=all_oneCell_toArray (EvE.one gx)
    generalize gx.cells=u at *
    generalize p gx=pb at *
    clear okx
    have iu:(prog.info? 25).map (·.size)=some u.length:=by rw[lu];kernel_rfl
    have iA:(prog.info? 25).map (·.size)=some u.toArray.size:=by rw[List.size_toArray,lu];kernel_rfl
    have zl:Ev.zero.cells.toArray.size=18:=rfl
    obtain⟨r5,hB5,hs5,_⟩:=zt wr Ev.zero.cells.toArray 25 u (by rw[lu];rfl)
    have hT5:(wr.alloc (.cells Ev.zero.cells.toArray 25)).there wr.heap.size 0 u.toArray.size:=by
     have:=zK wr Ev.zero.cells.toArray 25
     rw[zl]at this
     rw[show u.toArray.size=18 by simpa using lu]
     exact this
    go_upto_region 6 with(first|(refine wpList_load_mid rfl 25 _ rfl _ _ rfl u _ hre underlying25 rfl iu ?_)|(refine wpList_store_mid rfl 25 _ _ rfl _ _ u.toArray rfl rfl hT5 iA ou ?_))
    go_name_world w5 hw5
    rw[show(wr.alloc (.cells Ev.zero.cells.toArray 25)).setCells wr.heap.size 0 u=w5 from hw5]at r5 hB5 hs5
    have hB6:=hB.trans (hB5.mono hB.size)
    have c7:=hpk w5 hB6
    clear hw5 hs5 hT5 hre hpk hB5
    go_wp2_with (refine wpList_load_mid rfl 25 _ rfl _ _ rfl u _ r5 underlying25 rfl iu ?_)
    refine c7.mono ?_
    rintro e8 w8 ⟨rfl,hb8⟩
    have hB8:=hB6.trans (hb8.mono hB6.size)
    clear c7 hb8 r5 hB6
    cases pb
    ·have HF':=hide (HF.out rfl)
     clear HF HT hsb
     go_wp2
     go_ret
     exact⟨by rw[HF'.out];rfl,hB8⟩
    ·have HT':=hide (HT.out rfl)
     clear HF HT
     go_wp2
     go_roundw
     case rel=>exact⟨k+1,by omega,by go_num,HT',hB8⟩
     case measure=>simp[intOf];omega
   ·have k1:¬(k:Int)<xs.length:=by omega
    have HE:Hid (sb=true):=hide (by
     rw[←hsb.out]
     rw[List.all_eq_true]
     intro y hy
     obtain⟨j,hj,rfl⟩:=List.mem_iff_getElem.1 hy
     exact HM.out j hj (by omega))
    clear HM hsb
    go_wp2
    go_ret
    exact⟨by rw[HE.out];rfl,hB⟩
theorem zmJ (x:Sl Rq) (most:Int) (p:Rq→Bool) (w:World) (hx:x.At RqE w) (hp:∀y∈x.xs,∀w0,Below w.heap.size w w0→Calls prog 166 #[.agg y.cells.toArray] w0 fun e w'=>e=.returned (.bool (p y))∧Below w0.heap.size w0 w'):
  Calls prog 165 #[x.val,.int .i64 most,.func (.func 166) #[] #[]] w fun e w'=>e=.returned (.bool (mayL most p x.xs))∧Below w.heap.size w w':=by
 obtain⟨a,cap,xs⟩:=x
 have hml:xs.length≤maxLen:=hx.1
 unfold maxLen at hml
 simp only[Sl.val]
 unfold mayL
 by_cases hlen:(xs.length:Int)≤most
 rotate_left
 ·rw[decide_eq_false hlen,Bool.false_and]
  have k0:most<(xs.length:Int):=by omega
  clear hlen hp
  go_enter func165,ntmps165
  go_wp2
  go_ret
  exact⟨rfl,Below.refl _ _⟩
 ·rw[decide_eq_true hlen,Bool.true_and]
  have k0:¬most<(xs.length:Int):=by omega
  clear hlen
  obtain⟨sb,hsb⟩:∃sb,Hid (xs.all p=sb):=⟨_,hide rfl⟩
  rw[hsb.out]
  go_enter func165,ntmps165
  go_wp2
  go_loopw [15] (fun iv wr'=>∃k:Nat,k≤xs.length∧iv=.int .i64 (k:Int)∧Hid (∀j (hj:j<xs.length),j<k→p xs[j]=true)∧Below w.heap.size w wr') (fun iv _=>xs.length - (intOf iv).toNat)
  case atStart=>exact⟨0,by omega,rfl,hide (fun j _ hj=>absurd hj (by omega)),Below.refl _ _⟩
  case round=>
   clear k0
   obtain⟨k,hk,rfl,HM,hB⟩:=hrel
   by_cases hlt:k<xs.length
   ·have k1:(k:Int)<xs.length:=by omega
    obtain⟨b,off,rfl,hb,hre⟩:=RowsAt.elem (hx.below hB) k hlt
    have hre:wr.rangeAt b (off+k*19) xs[k].cells:=hre
    have okx:RqE.ok xs[k]:=hx.2.1 _ (List.getElem_mem hlt)
    have hpk:=fun w0 h0=>hp xs[k] (List.getElem_mem hlt) w0 h0
    have HT:Hid (p xs[k]=true→∀j (hj:j<xs.length),j<k+1→p xs[j]=true):=hide (fun h j hj hjk=>by
     by_cases e:j=k
     ·subst e;exact h
     ·exact HM.out j hj (by omega))
    have HF:Hid (p xs[k]=false→sb=false):=hide (fun h=>by
     rw[←hsb.out]
     rw[List.all_eq_false]
     exact⟨xs[k],List.getElem_mem hlt,by rw[h];simp⟩)
    obtain⟨gx,hX⟩:∃g,Hid (xs[k]=g):=⟨_,hide rfl⟩
    rw[hX.out]at hre okx hpk HT HF
    clear hX HM
    have lu:gx.cells.length=19:=RqE.len _ okx
    have ou:gx.cells.toArray.all (·.oneCell')=true:=all_oneCell_toArray (RqE.one gx)
    generalize gx.cells=u at *
    generalize p gx=pb at *
    clear okx
    have iu:(prog.info? 81).map (·.size)=some u.length:=by rw[lu];kernel_rfl
    have iA:(prog.info? 81).map (·.size)=some u.toArray.size:=by rw[List.size_toArray,lu];kernel_rfl
    have zl:Rq.zero.cells.toArray.size=19:=rfl
    obtain⟨r5,hB5,hs5,_⟩:=zt wr Rq.zero.cells.toArray 81 u (by rw[lu];rfl)
    have hT5:(wr.alloc (.cells Rq.zero.cells.toArray 81)).there wr.heap.size 0 u.toArray.size:=by
     have:=zK wr Rq.zero.cells.toArray 81
     rw[zl]at this
     rw[show u.toArray.size=19 by simpa using lu]
     exact this
    go_upto_region 6 with(first|(refine wpList_load_mid rfl 81 _ rfl _ _ rfl u _ hre underlying81 rfl iu ?_)|(refine wpList_store_mid rfl 81 _ _ rfl _ _ u.toArray rfl rfl hT5 iA ou ?_))
    go_name_world w5 hw5
    rw[show(wr.alloc (.cells Rq.zero.cells.toArray 81)).setCells wr.heap.size 0 u=w5 from hw5]at r5 hB5 hs5
    have hB6:=hB.trans (hB5.mono hB.size)
    have c7:=hpk w5 hB6
    clear hw5 hs5 hT5 hre hpk hB5
    go_wp2_with (refine wpList_load_mid rfl 81 _ rfl _ _ rfl u _ r5 underlying81 rfl iu ?_)
    refine c7.mono ?_
    rintro e8 w8 ⟨rfl,hb8⟩
    have hB8:=hB6.trans (hb8.mono hB6.size)
    clear c7 hb8 r5 hB6
    cases pb
    ·have HF':=hide (HF.out rfl)
     clear HF HT hsb
     go_wp2
     go_ret
     exact⟨by rw[HF'.out];rfl,hB8⟩
    ·have HT':=hide (HT.out rfl)
     clear HF HT
     go_wp2
     go_roundw
     case rel=>exact⟨k+1,by omega,by go_num,HT',hB8⟩
     case measure=>simp[intOf];omega
   ·have k1:¬(k:Int)<xs.length:=by omega
    have HE:Hid (sb=true):=hide (by
     rw[←hsb.out]
     rw[List.all_eq_true]
     intro y hy
     obtain⟨j,hj,rfl⟩:=List.mem_iff_getElem.1 hy
     exact HM.out j hj (by omega))
    clear HM hsb
    go_wp2
    go_ret
    exact⟨by rw[HE.out];rfl,hB⟩
theorem zmK (x:Sl Hd) (most:Int) (p:Hd→Bool) (w:World) (hx:x.At HdE w) (hp:∀y∈x.xs,∀w0,Below w.heap.size w w0→Calls prog 168 #[.agg y.cells.toArray] w0 fun e w'=>e=.returned (.bool (p y))∧Below w0.heap.size w0 w'):
  Calls prog 167 #[x.val,.int .i64 most,.func (.func 168) #[] #[]] w fun e w'=>e=.returned (.bool (mayL most p x.xs))∧Below w.heap.size w w':=by
 obtain⟨a,cap,xs⟩:=x
 have hml:xs.length≤maxLen:=hx.1
 unfold maxLen at hml
 simp only[Sl.val]
 unfold mayL
 by_cases hlen:(xs.length:Int)≤most
 rotate_left
 ·rw[decide_eq_false hlen,Bool.false_and]
  have k0:most<(xs.length:Int):=by omega
  clear hlen hp
  go_enter func167,ntmps167
  go_wp2
  go_ret
  exact⟨rfl,Below.refl _ _⟩
 ·rw[decide_eq_true hlen,Bool.true_and]
  have k0:¬most<(xs.length:Int):=by omega
  clear hlen
  obtain⟨sb,hsb⟩:∃sb,Hid (xs.all p=sb):=⟨_,hide rfl⟩
  rw[hsb.out]
  go_enter func167,ntmps167
  go_wp2
  go_loopw [15] (fun iv wr'=>∃k:Nat,k≤xs.length∧iv=.int .i64 (k:Int)∧Hid (∀j (hj:j<xs.length),j<k→p xs[j]=true)∧Below w.heap.size w wr') (fun iv _=>xs.length - (intOf iv).toNat)
  case atStart=>exact⟨0,by omega,rfl,hide (fun j _ hj=>absurd hj (by omega)),Below.refl _ _⟩
  case round=>
   clear k0
   obtain⟨k,hk,rfl,HM,hB⟩:=hrel
   by_cases hlt:k<xs.length
   ·have k1:(k:Int)<xs.length:=by omega
    obtain⟨b,off,rfl,hb,hre⟩:=RowsAt.elem (hx.below hB) k hlt
    have hre:wr.rangeAt b (off+k*39) xs[k].cells:=hre
    have okx:HdE.ok xs[k]:=hx.2.1 _ (List.getElem_mem hlt)
    have hpk:=fun w0 h0=>hp xs[k] (List.getElem_mem hlt) w0 h0
    have HT:Hid (p xs[k]=true→∀j (hj:j<xs.length),j<k+1→p xs[j]=true):=hide (fun h j hj hjk=>by
     by_cases e:j=k
     ·subst e;exact h
     ·exact HM.out j hj (by omega))
    have HF:Hid (p xs[k]=false→sb=false):=hide (fun h=>by
     rw[←hsb.out]
     rw[List.all_eq_false]
     exact⟨xs[k],List.getElem_mem hlt,by rw[h];simp⟩)
    obtain⟨gx,hX⟩:∃g,Hid (xs[k]=g):=⟨_,hide rfl⟩
    rw[hX.out]at hre okx hpk HT HF
    clear hX HM
    have lu:gx.cells.length=39:=HdE.len _ okx
    have ou:gx.cells.toArray.all (·.oneCell')=true:=all_oneCell_toArray (HdE.one gx)
    generalize gx.cells=u at *
    generalize p gx=pb at *
    clear okx
    have iu:(prog.info? 113).map (·.size)=some u.length:=by rw[lu];kernel_rfl
    have iA:(prog.info? 113).map (·.size)=some u.toArray.size:=by rw[List.size_toArray,lu];kernel_rfl
    have zl:Hd.zero.cells.toArray.size=39:=rfl
    obtain⟨r5,hB5,hs5,_⟩:=zt wr Hd.zero.cells.toArray 113 u (by rw[lu];rfl)
    have hT5:(wr.alloc (.cells Hd.zero.cells.toArray 113)).there wr.heap.size 0 u.toArray.size:=by
     have:=zK wr Hd.zero.cells.toArray 113
     rw[zl]at this
     rw[show u.toArray.size=39 by simpa using lu]
     exact this
    go_upto_region 6 with(first|(refine wpList_load_mid rfl 113 _ rfl _ _ rfl u _ hre underlying113 rfl iu ?_)|(refine wpList_store_mid rfl 113 _ _ rfl _ _ u.toArray rfl rfl hT5 iA ou ?_))
    go_name_world w5 hw5
    rw[show(wr.alloc (.cells Hd.zero.cells.toArray 113)).setCells wr.heap.size 0 u=w5 from hw5]at r5 hB5 hs5
    have hB6:=hB.trans (hB5.mono hB.size)
    have c7:=hpk w5 hB6
    clear hw5 hs5 hT5 hre hpk hB5
    go_wp2_with (refine wpList_load_mid rfl 113 _ rfl _ _ rfl u _ r5 underlying113 rfl iu ?_)
    refine c7.mono ?_
    rintro e8 w8 ⟨rfl,hb8⟩
    have hB8:=hB6.trans (hb8.mono hB6.size)
    clear c7 hb8 r5 hB6
    cases pb
    ·have HF':=hide (HF.out rfl)
     clear HF HT hsb
     go_wp2
     go_ret
     exact⟨by rw[HF'.out];rfl,hB8⟩
    ·have HT':=hide (HT.out rfl)
     clear HF HT
     go_wp2
     go_roundw
     case rel=>exact⟨k+1,by omega,by go_num,HT',hB8⟩
     case measure=>simp[intOf];omega
   ·have k1:¬(k:Int)<xs.length:=by omega
    have HE:Hid (sb=true):=hide (by
     rw[←hsb.out]
     rw[List.all_eq_true]
     intro y hy
     obtain⟨j,hj,rfl⟩:=List.mem_iff_getElem.1 hy
     exact HM.out j hj (by omega))
    clear HM hsb
    go_wp2
    go_ret
    exact⟨by rw[HE.out];rfl,hB⟩
def Sg.may (g:Sg):Bool:=inB g.n 64
def Ev.may (g:Ev):Bool:=inB g.n 64&&decide ((g.s.size:Int)≤4194304)
def Rq.may (g:Rq):Bool:=inB g.c 8&&(inB g.n 1099511627776&&decide ((g.s.size:Int)≤64))
theorem zd8 {α:Type} (E:El α) (y:α) (t:TypeId) (w:World):(w.alloc (.cells (E.f y).toArray t)).rangeAt w.heap.size 0 (E.f y)∧Below w.heap.size w (w.alloc (.cells (E.f y).toArray t)):=
 ⟨by simpa using zA w (E.f y).toArray t,(Below.refl _ _).alloc (Nat.le_refl _) _⟩
theorem ziU (g:Sg) (w:World):Calls prog 170 #[.agg g.cells.toArray] w fun e w'=>e=.returned (.bool g.may)∧Below w.heap.size w w':=by
 obtain⟨hA,hB⟩:=zd8 SgE g 133 w
 have c0:=hA 0 _ rfl
 simp only[Nat.add_zero]at c0
 change World.cell? (w.alloc (.cells g.cells.toArray 133)) _=_ at c0
 change Below _ _ (w.alloc (.cells g.cells.toArray 133))at hB
 unfold Sg.may
 generalize g.cells=q at *
 generalize g.n=n at *
 clear hA
 go_enter func170,ntmps170
 go_wp2_with (go_at_call 135;refine(zaj _ _ _).mono ?_;rintro e1 w1 ⟨rfl,hx⟩;obtain rfl:=hx.symm;clear hx)
 go_ret
 exact⟨rfl,hB⟩
theorem zlF (g:Ev) (w:World):Calls prog 141 #[.agg g.cells.toArray] w fun e w'=>e=.returned (.bool g.may)∧Below w.heap.size w w':=by
 obtain⟨hA,hB⟩:=zd8 EvE g 25 w
 have c0:=hA 0 _ rfl
 have c1:=hA 1 _ rfl
 simp only[Nat.add_zero,Nat.zero_add]at c0 c1
 change World.cell? (w.alloc (.cells g.cells.toArray 25)) _=_ at c0 c1
 change Below _ _ (w.alloc (.cells g.cells.toArray 25))at hB
 unfold Ev.may
 generalize g.cells=q at *
 generalize g.n=n at *
 generalize g.s=s at *
 clear hA
 cases hn:inB n 64
 ·rw[Bool.false_and]
  go_enter func141,ntmps141
  go_wp2_with (go_at_call 135;refine(zaj _ _ _).mono ?_;rintro e1 w1 ⟨rfl,hx⟩;obtain rfl:=hx.symm;clear hx;rw[hn])
  go_ret
  exact⟨rfl,hB⟩
 ·rw[Bool.true_and]
  go_enter func141,ntmps141
  go_wp2_with (go_at_call 135;refine(zaj _ _ _).mono ?_;rintro e1 w1 ⟨rfl,hx⟩;obtain rfl:=hx.symm;clear hx;rw[hn])
  go_ret
  exact⟨rfl,hB⟩
theorem zja (g:Rq) (w:World):Calls prog 166 #[.agg g.cells.toArray] w fun e w'=>e=.returned (.bool g.may)∧Below w.heap.size w w':=by
 obtain⟨hA,hB⟩:=zd8 RqE g 81 w
 have c0:=hA 0 _ rfl
 have c1:=hA 1 _ rfl
 have c2:=hA 2 _ rfl
 simp only[Nat.add_zero,Nat.zero_add]at c0 c1 c2
 change World.cell? (w.alloc (.cells g.cells.toArray 81)) _=_ at c0 c1 c2
 change Below _ _ (w.alloc (.cells g.cells.toArray 81))at hB
 unfold Rq.may
 generalize g.cells=q at *
 generalize g.c=c at *
 generalize g.n=n at *
 generalize g.s=s at *
 clear hA
 cases hc:inB c 8
 ·rw[Bool.false_and]
  go_enter func166,ntmps166
  go_wp2_with (go_at_call 135;refine(zaj _ _ _).mono ?_;rintro e1 w1 ⟨rfl,hx⟩;obtain rfl:=hx.symm;clear hx;rw[hc])
  go_ret
  exact⟨rfl,hB⟩
 ·rw[Bool.true_and]
  cases hn:inB n 1099511627776
  ·rw[Bool.false_and]
   go_enter func166,ntmps166
   go_wp2_with (go_at_call 135;refine(zaj _ _ _).mono ?_;rintro e1 w1 ⟨rfl,hx⟩;obtain rfl:=hx.symm;clear hx;(first|rw[hc]|rw[hn]))
   go_ret
   exact⟨rfl,hB⟩
  ·rw[Bool.true_and]
   go_enter func166,ntmps166
   go_wp2_with (go_at_call 135;refine(zaj _ _ _).mono ?_;rintro e1 w1 ⟨rfl,hx⟩;obtain rfl:=hx.symm;clear hx;(first|rw[hc]|rw[hn]))
   go_ret
   exact⟨rfl,hB⟩
def sgsMay (x:Sl Sg):Bool:=mayL 64 Sg.may x.xs
def batMay (q:Bool) (x:Sl Rq):Bool:=if q then decide (x.xs.length=0)else mayL 4 Rq.may x.xs
theorem zfm (x:Sl Sg) (w:World) (hx:x.At SgE w):Calls prog 142 #[x.val] w fun e w'=>e=.returned (.bool (sgsMay x))∧Below w.heap.size w w':=by
 have ca:=zmI x 64 Sg.may w hx (fun y _ w0 _=>ziU y w0)
 unfold sgsMay
 generalize mayL 64 Sg.may x.xs=b at *
 obtain⟨a,cap,xs⟩:=x
 simp only[Sl.val]at ca ⊢
 clear hx
 go_enter func142,ntmps142
 go_wp2_with fail
 refine ca.mono ?_
 rintro e1 w1 ⟨rfl,hb⟩
 clear ca
 go_wp2
 go_ret
 exact⟨rfl,hb⟩
theorem zhz (q:Bool) (x:Sl Rq) (w:World) (hx:x.At RqE w):Calls prog 138 #[.agg #[.bool q,x.val]] w fun e w'=>e=.returned (.bool (batMay q x))∧Below w.heap.size w w':=by
 have hB:Below w.heap.size w (w.alloc (.cells #[.bool q,x.val] 39)):=(Below.refl _ w).alloc (Nat.le_refl _) _
 have ca:=zmJ x 4 Rq.may _ (hx.below hB) (fun y _ w0 _=>zja y w0)
 have hml:x.xs.length≤maxLen:=hx.1
 unfold maxLen at hml
 unfold batMay
 generalize mayL 4 Rq.may x.xs=b at *
 obtain⟨a,cap,xs⟩:=x
 simp only[Sl.val]at ca hB hml ⊢
 clear hx
 cases q
 ·rw[if_neg (by simp)]
  go_enter func138,ntmps138
  go_wp2_with fail
  refine ca.mono ?_
  rintro e1 w1 ⟨rfl,hb⟩
  have hB1:=hB.trans (hb.mono hB.size)
  clear ca hb
  go_wp2
  go_ret
  exact⟨rfl,hB1⟩
 ·rw[if_pos rfl]
  clear ca
  by_cases h0:xs.length=0
  ·rw[decide_eq_true h0]
   have e0:((xs.length:Int)==0)=true:=by rw[h0];rfl
   clear h0
   go_enter func138,ntmps138
   go_wp2
   go_ret
   exact⟨by simp_all,hB⟩
  ·rw[decide_eq_false h0]
   have e0:((xs.length:Int)==0)=false:=beq_eq_false_iff_ne.2 (by omega)
   clear h0
   go_enter func138,ntmps138
   go_wp2
   go_ret
   exact⟨by simp_all,hB⟩
def certMay (x:Vt) (s:Sl Sg):Bool:=x.may&&sgsMay s
def Hd.may (h:Hd):Bool:=batMay h.q h.rs&&certMay h.vt h.sg
def chgMay (a b c:Int) (x:Sl Hd):Bool:=(inB a 1048576&&(inB b 64&&inB c 1099511627776))&&mayL 4 Hd.may x.xs
theorem zhg (x:Vt) (s:Sl Sg) (w:World) (hx:x.ok) (hs:s.At SgE w):Calls prog 137 #[.agg (certL x s).toArray] w fun e w'=>e=.returned (.bool (certMay x s))∧Below w.heap.size w w':=by
 have hA:(w.alloc (.cells (certL x s).toArray 50)).rangeAt w.heap.size 0 (certL x s):=by simpa using zA w (certL x s).toArray 50
 have hB:Below w.heap.size w (w.alloc (.cells (certL x s).toArray 50)):=(Below.refl _ _).alloc (Nat.le_refl _) _
 have hz:w.heap.size<(w.alloc (.cells (certL x s).toArray 50)).heap.size:=by simp
 have r1:=zP hA
 have c1:=zZ hA 0 _ rfl
 rw[hx.len]at c1
 simp only[Nat.zero_add,Nat.add_zero]at c1
 have ix:(prog.info? 43).map (·.size)=some x.cells.length:=by rw[hx.len];exact iszV
 have cv:=fun w0=>zdk x w0
 have cs:=fun(w0:World) (h0:s.At SgE w0)=>zfm s w0 h0
 have s1:=hs.below hB
 unfold certMay
 obtain⟨W,hW⟩:∃W,Hid (w.alloc (.cells (certL x s).toArray 50)=W):=⟨_,hide rfl⟩
 rw[hW.out]at r1 c1 hB hz s1
 generalize certL x s=q at *
 generalize x.cells=u at *
 generalize x.may=b1 at *
 generalize sgsMay s=b2 at *
 have S2:=fun(w0:World) (h0:Below W.heap.size W w0)=>cs w0 (s1.below h0)
 obtain⟨a,cap,xs⟩:=s
 simp only[Sl.val]at c1 S2
 clear hA hx hs cs s1
 cases b1
 ·go_enter func137,ntmps137
  go_upto_region 1 with fail
  go_name_world w1 hw1
  obtain rfl:W=w1:=hW.out.symm.trans hw1
  clear hw1 hW S2
  go_wp2_with (refine wpList_load_mid rfl 43 _ rfl _ _ rfl u _ r1 underlying43 rfl ix ?_)
  refine(cv _).mono ?_
  rintro e2 w2 ⟨rfl,hb2⟩
  have hB2:=hB.trans (hb2.mono (by omega))
  clear cv r1 c1 hb2
  go_wp2
  go_ret
  exact⟨rfl,hB2⟩
 ·rw[Bool.true_and]
  go_enter func137,ntmps137
  go_upto_region 1 with fail
  go_name_world w1 hw1
  obtain rfl:W=w1:=hW.out.symm.trans hw1
  clear hw1 hW
  go_wp2_with (refine wpList_load_mid rfl 43 _ rfl _ _ rfl u _ r1 underlying43 rfl ix ?_)
  refine(cv _).mono ?_
  rintro e2 w2 ⟨rfl,hb2⟩
  have hB2:=hB.trans (hb2.mono (by omega))
  have c2:=(hb2.cell (p:=⟨w.heap.size,36,none⟩) hz).trans c1
  have C2:=S2 w2 hb2
  clear cv r1 c1 hb2 S2
  go_wp2_with fail
  refine C2.mono ?_
  rintro e3 w3 ⟨rfl,hb3⟩
  have hB3:=hB2.trans (hb3.mono hB2.size)
  clear C2 hb3
  go_wp2
  go_ret
  exact⟨rfl,hB3⟩
theorem zla (h:Hd) (w:World) (kh:h.vt.ok) (ah:h.At w):Calls prog 168 #[.agg h.cells.toArray] w fun e w'=>e=.returned (.bool h.may)∧Below w.heap.size w w':=by
 have hA:(w.alloc (.cells h.cells.toArray 113)).rangeAt w.heap.size 0 h.cells:=by simpa using zA w h.cells.toArray 113
 have hB:Below w.heap.size w (w.alloc (.cells h.cells.toArray 113)):=(Below.refl _ _).alloc (Nat.le_refl _) _
 have hz:w.heap.size<(w.alloc (.cells h.cells.toArray 113)).heap.size:=by simp
 have c0:=hA 0 _ rfl
 have c1:=hA 1 _ rfl
 simp only[Nat.zero_add,Nat.add_zero]at c0 c1
 have rc:World.rangeAt _ w.heap.size 2 (certL h.vt h.sg):=zZ (cs:=[.bool h.q,h.rs.val]) hA
 have ic:(prog.info? 50).map (·.size)=some (certL h.vt h.sg).length:=by rw[show(certL h.vt h.sg).length=37 by simp[certL,kh.len]];exact iszC
 have h1:=ah.below hB
 have cb:=fun(w0:World) k1=>zhz h.q h.rs w0 k1
 have cc:=fun(w0:World) k1=>zhg h.vt h.sg w0 kh k1
 unfold Hd.may
 obtain⟨W,hW⟩:∃W,Hid (w.alloc (.cells h.cells.toArray 113)=W):=⟨_,hide rfl⟩
 rw[hW.out]at c0 c1 rc hB hz h1
 generalize h.cells=q at *
 generalize certL h.vt h.sg=u at *
 generalize batMay h.q h.rs=b1 at *
 generalize certMay h.vt h.sg=b2 at *
 have B1:=cb W h1.1
 have C2:=fun(w0:World) (h0:Below W.heap.size W w0)=>cc w0 (h1.2.below h0)
 obtain⟨_,⟨a,cap,rs⟩,_,sg⟩:=h
 simp only[Sl.val]at c1 B1
 clear hA kh ah cb cc h1
 cases b1
 ·go_enter func168,ntmps168
  go_upto_region 1 with fail
  go_name_world w1 hw1
  obtain rfl:W=w1:=hW.out.symm.trans hw1
  clear hw1 hW C2
  go_wp2_with fail
  refine B1.mono ?_
  rintro e2 w2 ⟨rfl,hb2⟩
  have hB2:=hB.trans (hb2.mono (by omega))
  clear B1 c0 c1 rc hb2
  go_wp2
  go_ret
  exact⟨rfl,hB2⟩
 ·rw[Bool.true_and]
  go_enter func168,ntmps168
  go_upto_region 1 with fail
  go_name_world w1 hw1
  obtain rfl:W=w1:=hW.out.symm.trans hw1
  clear hw1 hW
  go_wp2_with fail
  refine B1.mono ?_
  rintro e2 w2 ⟨rfl,hb2⟩
  have hB2:=hB.trans (hb2.mono (by omega))
  have rc2:=zd rc hb2 hz
  have D2:=C2 w2 hb2
  clear B1 c0 c1 rc hb2 C2
  go_wp2_with (refine zQ (by rfl) 50 _ rfl _ _ rfl u _ rc2 underlying50 rfl ic ?_)
  refine D2.mono ?_
  rintro e3 w3 ⟨rfl,hb3⟩
  have hB3:=hB2.trans (hb3.mono hB2.size)
  clear D2 rc2 hb3
  go_wp2
  go_ret
  exact⟨rfl,hB3⟩
theorem zmb (a b c:Int) (x:Sl Hd) (w:World) (hx:HdsAt w x):Calls prog 139 #[.agg (chgL a b c x)] w fun e w'=>e=.returned (.bool (chgMay a b c x))∧Below w.heap.size w w':=by
 have hB:Below w.heap.size w (w.alloc (.cells (chgL a b c x) 46)):=(Below.refl _ w).alloc (Nat.le_refl _) _
 have ca:=zmK x 4 Hd.may _ (hx.1.below hB) (fun y hy w0 h0=>zla y w0 (hx.1.2.1 y hy) ((hx.2 y hy).below (hB.trans (h0.mono hB.size))))
 unfold chgMay
 unfold chgL at hB ca ⊢
 generalize mayL 4 Hd.may x.xs=sb at *
 obtain⟨xa,xc,xs⟩:=x
 simp only[Sl.val]at hB ca ⊢
 clear hx
 cases h1:inB a 1048576
 ·rw[Bool.false_and,Bool.false_and]
  clear ca
  go_enter func139,ntmps139
  go_wp2_with (go_at_call 135;refine(zaj _ _ _).mono ?_;rintro e1 w1 ⟨rfl,hx⟩;obtain rfl:=hx.symm;clear hx;rw[h1])
  go_ret
  exact⟨rfl,hB⟩
 ·rw[Bool.true_and]
  cases h2:inB b 64
  ·rw[Bool.false_and,Bool.false_and]
   clear ca
   go_enter func139,ntmps139
   go_wp2_with (go_at_call 135;refine(zaj _ _ _).mono ?_;rintro e1 w1 ⟨rfl,hx⟩;obtain rfl:=hx.symm;clear hx;(first|rw[h1]|rw[h2]))
   go_ret
   exact⟨rfl,hB⟩
  ·rw[Bool.true_and]
   cases h3:inB c 1099511627776
   ·rw[Bool.false_and]
    clear ca
    go_enter func139,ntmps139
    go_wp2_with (go_at_call 135;refine(zaj _ _ _).mono ?_;rintro e1 w1 ⟨rfl,hx⟩;obtain rfl:=hx.symm;clear hx;(first|rw[h1]|rw[h2]|rw[h3]))
    go_ret
    exact⟨rfl,hB⟩
   ·rw[Bool.true_and]
    go_enter func139,ntmps139
    go_wp2_with (go_at_call 135;refine(zaj _ _ _).mono ?_;rintro e1 w1 ⟨rfl,hx⟩;obtain rfl:=hx.symm;clear hx;(first|rw[h1]|rw[h2]|rw[h3]))
    refine ca.mono ?_
    rintro e2 w2 ⟨rfl,hb2⟩
    have hB2:=hB.trans (hb2.mono hB.size)
    clear ca hb2
    go_wp2
    go_ret
    exact⟨rfl,hB2⟩
def Mg.mayL (m:Mg):Bool:=batMay m.q m.rs&&(chgMay m.ce m.cl m.cv m.he&&(Go.Proofs.YtcbpbkefggekmaaGreatDoor.mayL 64 Ev.may m.ne.xs&&(decide ((m.st.size:Int)≤4194304)&&sgsMay m.sg)))
def Mg.may (m:Mg):Bool:=(inB m.e 1048576&&inB m.l 64)&&((inB m.v 1099511627776&&inB m.s 1099511627776)&&((if m.k=2 then m.vt.may else true)&&((if m.k=7 then certMay m.ct m.cs else true)&&m.mayL)))
theorem zlu (m:Mg) (w:World) (om:m.ok) (am:m.At w):Calls prog 86 #[.agg m.ms.cells.toArray] w fun er w'=>er=.returned (.bool m.may)∧Below w.heap.size w w':=by
 have hA:(w.alloc (.cells m.ms.cells.toArray 52)).rangeAt w.heap.size 0 m.ms.cells:=by simpa using zA w m.ms.cells.toArray 52
 have hB:Below w.heap.size w (w.alloc (.cells m.ms.cells.toArray 52)):=(Below.refl _ _).alloc (Nat.le_refl _) _
 have hs:w.heap.size<(w.alloc (.cells m.ms.cells.toArray 52)).heap.size:=by simp
 have a1:=am.below hB
 obtain⟨W,hW⟩:∃W,Hid (w.alloc (.cells m.ms.cells.toArray 52)=W):=⟨_,hide rfl⟩
 rw[hW.out]at hA hB hs a1
 have M:=om.ms.at hA
 have ix:(prog.info? 43).map (·.size)=some m.vt.cells.length:=by rw[om.vt.len];exact iszV
 have ic:(prog.info? 50).map (·.size)=some (certL m.ct m.cs).length:=by rw[show(certL m.ct m.cs).length=37 by simp[certL,om.ct.len]];exact iszC
 have cK:W.cell? ⟨w.heap.size,0,none⟩=some (.int .i64 m.k):=M.k
 have cE:W.cell? ⟨w.heap.size,1,none⟩=some (.int .i64 m.e):=M.e
 have cL:W.cell? ⟨w.heap.size,2,none⟩=some (.int .i64 m.l):=M.l
 have cV:W.cell? ⟨w.heap.size,3,none⟩=some (.int .i64 m.v):=M.v
 have cS:W.cell? ⟨w.heap.size,4,none⟩=some (.int .i64 m.s):=M.s
 have cQ:W.cell? ⟨w.heap.size,5,none⟩=some (.bool m.q):=M.q
 have cR:W.cell? ⟨w.heap.size,6,none⟩=some (.slice m.rs.a m.rs.xs.length m.rs.cap):=M.rs
 have c1:W.cell? ⟨w.heap.size,43,none⟩=some (.int .i64 m.ce):=M.ce
 have c2:W.cell? ⟨w.heap.size,44,none⟩=some (.int .i64 m.cl):=M.cl
 have c3:W.cell? ⟨w.heap.size,45,none⟩=some (.int .i64 m.cv):=M.cv
 have cH:W.cell? ⟨w.heap.size,46,none⟩=some (.slice m.he.a m.he.xs.length m.he.cap):=M.he
 have cN:W.cell? ⟨w.heap.size,47,none⟩=some (.slice m.ne.a m.ne.xs.length m.ne.cap):=M.ne
 have cT:W.cell? ⟨w.heap.size,117,none⟩=some (.string m.st):=M.st
 have cG:W.cell? ⟨w.heap.size,118,none⟩=some (.slice m.sg.a m.sg.xs.length m.sg.cap):=M.sg
 have rV:W.rangeAt (w.heap.size) 7 m.vt.cells:=M.vt
 have rC:W.rangeAt (w.heap.size) 80 (certL m.ct m.cs):=M.ct
 have gE:=fun w0=>zaj m.e 1048576 w0
 have gL:=fun w0=>zaj m.l 64 w0
 have gV:=fun w0=>zaj m.v 1099511627776 w0
 have gS:=fun w0=>zaj m.s 1099511627776 w0
 have gX:=fun w0=>zdk m.vt w0
 have gT:=fun(w0:World) (h0:Below W.heap.size W w0)=>zhg m.ct m.cs w0 om.ct (a1.cs.below h0)
 have gB:=fun(w0:World) (h0:Below W.heap.size W w0)=>zhz m.q m.rs w0 (a1.rs.below h0)
 have gC:=fun(w0:World) (h0:Below W.heap.size W w0)=>zmb m.ce m.cl m.cv m.he w0 (a1.he.below h0)
 have gN:=fun(w0:World) (h0:Below W.heap.size W w0)=>zmL m.ne 64 Ev.may w0 (a1.ne.below h0) (fun y _ w1 _=>zlF y w1)
 have gG:=fun(w0:World) (h0:Below W.heap.size W w0)=>zfm m.sg w0 (a1.sg.below h0)
 unfold chgL at gC
 simp only[Sl.val]at gB gC gN gG
 unfold Mg.may Mg.mayL
 clear hA M om am a1
 generalize inB m.e 1048576=be at *
 generalize inB m.l 64=bl at *
 generalize inB m.v 1099511627776=bv at *
 generalize inB m.s 1099511627776=bs at *
 generalize m.vt.may=bx at *
 generalize certMay m.ct m.cs=bt at *
 generalize batMay m.q m.rs=b1 at *
 generalize chgMay m.ce m.cl m.cv m.he=b2 at *
 generalize Go.Proofs.YtcbpbkefggekmaaGreatDoor.mayL 64 Ev.may m.ne.xs=b3 at *
 generalize sgsMay m.sg=b5 at *
 generalize m.ms.cells=q at *
 generalize m.vt.cells=u at *
 generalize certL m.ct m.cs=uc at *
 obtain⟨k,e,l,v,s,qq,⟨ra,rc,rx⟩,vt,ce,cl,cv,⟨ha,hc,hx⟩,⟨na,nc,nx⟩,d,ct,cs,st,⟨ga,gc,gx⟩⟩:=m
 simp only at *
 by_cases hst:(st.size:Int)≤4194304
 rotate_left
 ·rw[decide_eq_false hst]
  have hst':(4194304:Int)<st.size:=by omega
  have hst2:decide ((st.size:Int)≤4194304)=false:=decide_eq_false hst
  by_cases h2:k=2
  ·rw[if_pos h2,if_neg (by omega)]
   subst h2
   go_enter func86,ntmps86
   go_upto_region 1 with fail
   go_name_world w1 hw1
   obtain rfl:W=w1:=hW.out.symm.trans hw1
   clear hw1 hW
   have HB:=hB
   have HW:Below W.heap.size W W:=Below.refl _ _
   go_wp2_with fail
   refine(gE _).mono ?_
   rintro e1 w1 ⟨rfl,hx0⟩
   obtain rfl:=hx0.symm
   clear hx0
   clear gE
   cases be
   ·go_wp2
    go_ret
    exact⟨by simp,HB⟩
   ·go_wp2_with fail
    refine(gL _).mono ?_
    rintro e1 w1 ⟨rfl,hx0⟩
    obtain rfl:=hx0.symm
    clear hx0
    clear gL
    cases bl
    ·go_wp2
     go_ret
     exact⟨by simp,HB⟩
    ·go_wp2_with fail
     refine(gV _).mono ?_
     rintro e1 w1 ⟨rfl,hx0⟩
     obtain rfl:=hx0.symm
     clear hx0
     clear gV
     cases bv
     ·go_wp2
      go_ret
      exact⟨by simp,HB⟩
     ·go_wp2_with fail
      refine(gS _).mono ?_
      rintro e1 w1 ⟨rfl,hx0⟩
      obtain rfl:=hx0.symm
      clear hx0
      clear gS
      cases bs
      ·go_wp2
       go_ret
       exact⟨by simp,HB⟩
      ·go_wp2_with (refine zQ (by rfl) 43 _ rfl _ _ rfl u _ rV underlying43 rfl ix ?_)
       refine(gX _).mono ?_
       rintro e5 w5 ⟨rfl,hb5⟩
       have up:=fun i v (h:W.cell? ⟨w.heap.size,i,none⟩=some v)=>(hb5.cell (p:=⟨w.heap.size,i,none⟩) hs).trans h
       replace cK:=up _ _ cK
       replace cQ:=up _ _ cQ
       replace cR:=up _ _ cR
       replace c1:=up _ _ c1
       replace c2:=up _ _ c2
       replace c3:=up _ _ c3
       replace cH:=up _ _ cH
       replace cN:=up _ _ cN
       replace cT:=up _ _ cT
       replace cG:=up _ _ cG
       clear up
       replace HB:=HB.trans (hb5.mono (by omega))
       replace HW:=HW.trans (hb5.mono HW.size)
       replace hs:=Nat.lt_of_lt_of_le hs hb5.size
       clear hb5 gX
       cases bx
       ·go_wp2
        go_ret
        exact⟨by simp,HB⟩
       ·go_wp2_with fail
        refine(gB _ HW).mono ?_
        rintro e6 w6 ⟨rfl,hb6⟩
        have up:=fun i v (h:w5.cell? ⟨w.heap.size,i,none⟩=some v)=>(hb6.cell (p:=⟨w.heap.size,i,none⟩) hs).trans h
        replace c1:=up _ _ c1
        replace c2:=up _ _ c2
        replace c3:=up _ _ c3
        replace cH:=up _ _ cH
        replace cN:=up _ _ cN
        replace cT:=up _ _ cT
        replace cG:=up _ _ cG
        clear up
        replace HB:=HB.trans (hb6.mono (by omega))
        replace HW:=HW.trans (hb6.mono HW.size)
        replace hs:=Nat.lt_of_lt_of_le hs hb6.size
        clear hb6 gB
        cases b1
        ·go_wp2
         go_ret
         exact⟨by simp,HB⟩
        ·go_wp2_with fail
         refine(gC _ HW).mono ?_
         rintro e7 w7 ⟨rfl,hb7⟩
         have up:=fun i v (h:w6.cell? ⟨w.heap.size,i,none⟩=some v)=>(hb7.cell (p:=⟨w.heap.size,i,none⟩) hs).trans h
         replace cN:=up _ _ cN
         replace cT:=up _ _ cT
         replace cG:=up _ _ cG
         clear up
         replace HB:=HB.trans (hb7.mono (by omega))
         replace HW:=HW.trans (hb7.mono HW.size)
         replace hs:=Nat.lt_of_lt_of_le hs hb7.size
         clear hb7 gC
         cases b2
         ·go_wp2
          go_ret
          exact⟨by simp,HB⟩
         ·go_wp2_with fail
          refine(gN _ HW).mono ?_
          rintro e8 w8 ⟨rfl,hb8⟩
          have up:=fun i v (h:w7.cell? ⟨w.heap.size,i,none⟩=some v)=>(hb8.cell (p:=⟨w.heap.size,i,none⟩) hs).trans h
          replace cT:=up _ _ cT
          replace cG:=up _ _ cG
          clear up
          replace HB:=HB.trans (hb8.mono (by omega))
          replace HW:=HW.trans (hb8.mono HW.size)
          replace hs:=Nat.lt_of_lt_of_le hs hb8.size
          clear hb8 gN
          cases b3
          ·go_wp2
           go_ret
           exact⟨by simp,HB⟩
          ·clear gG
           go_wp2
           go_ret
           exact⟨by simp,HB⟩
  ·by_cases h7:k=7
   ·rw[if_neg h2,if_pos h7]
    subst h7
    clear h2
    go_enter func86,ntmps86
    go_upto_region 1 with fail
    go_name_world w1 hw1
    obtain rfl:W=w1:=hW.out.symm.trans hw1
    clear hw1 hW
    have HB:=hB
    have HW:Below W.heap.size W W:=Below.refl _ _
    go_wp2_with fail
    refine(gE _).mono ?_
    rintro e1 w1 ⟨rfl,hx0⟩
    obtain rfl:=hx0.symm
    clear hx0
    clear gE
    cases be
    ·go_wp2
     go_ret
     exact⟨by simp,HB⟩
    ·go_wp2_with fail
     refine(gL _).mono ?_
     rintro e1 w1 ⟨rfl,hx0⟩
     obtain rfl:=hx0.symm
     clear hx0
     clear gL
     cases bl
     ·go_wp2
      go_ret
      exact⟨by simp,HB⟩
     ·go_wp2_with fail
      refine(gV _).mono ?_
      rintro e1 w1 ⟨rfl,hx0⟩
      obtain rfl:=hx0.symm
      clear hx0
      clear gV
      cases bv
      ·go_wp2
       go_ret
       exact⟨by simp,HB⟩
      ·go_wp2_with fail
       refine(gS _).mono ?_
       rintro e1 w1 ⟨rfl,hx0⟩
       obtain rfl:=hx0.symm
       clear hx0
       clear gS
       cases bs
       ·go_wp2
        go_ret
        exact⟨by simp,HB⟩
       ·go_wp2_with (refine zQ (by rfl) 50 _ rfl _ _ rfl uc _ rC underlying50 rfl ic ?_)
        refine(gT _ HW).mono ?_
        rintro e5 w5 ⟨rfl,hb5⟩
        have up:=fun i v (h:W.cell? ⟨w.heap.size,i,none⟩=some v)=>(hb5.cell (p:=⟨w.heap.size,i,none⟩) hs).trans h
        replace cQ:=up _ _ cQ
        replace cR:=up _ _ cR
        replace c1:=up _ _ c1
        replace c2:=up _ _ c2
        replace c3:=up _ _ c3
        replace cH:=up _ _ cH
        replace cN:=up _ _ cN
        replace cT:=up _ _ cT
        replace cG:=up _ _ cG
        clear up
        replace HB:=HB.trans (hb5.mono (by omega))
        replace HW:=HW.trans (hb5.mono HW.size)
        replace hs:=Nat.lt_of_lt_of_le hs hb5.size
        clear hb5 gT
        cases bt
        ·go_wp2
         go_ret
         exact⟨by simp,HB⟩
        ·go_wp2_with fail
         refine(gB _ HW).mono ?_
         rintro e6 w6 ⟨rfl,hb6⟩
         have up:=fun i v (h:w5.cell? ⟨w.heap.size,i,none⟩=some v)=>(hb6.cell (p:=⟨w.heap.size,i,none⟩) hs).trans h
         replace c1:=up _ _ c1
         replace c2:=up _ _ c2
         replace c3:=up _ _ c3
         replace cH:=up _ _ cH
         replace cN:=up _ _ cN
         replace cT:=up _ _ cT
         replace cG:=up _ _ cG
         clear up
         replace HB:=HB.trans (hb6.mono (by omega))
         replace HW:=HW.trans (hb6.mono HW.size)
         replace hs:=Nat.lt_of_lt_of_le hs hb6.size
         clear hb6 gB
         cases b1
         ·go_wp2
          go_ret
          exact⟨by simp,HB⟩
         ·go_wp2_with fail
          refine(gC _ HW).mono ?_
          rintro e7 w7 ⟨rfl,hb7⟩
          have up:=fun i v (h:w6.cell? ⟨w.heap.size,i,none⟩=some v)=>(hb7.cell (p:=⟨w.heap.size,i,none⟩) hs).trans h
          replace cN:=up _ _ cN
          replace cT:=up _ _ cT
          replace cG:=up _ _ cG
          clear up
          replace HB:=HB.trans (hb7.mono (by omega))
          replace HW:=HW.trans (hb7.mono HW.size)
          replace hs:=Nat.lt_of_lt_of_le hs hb7.size
          clear hb7 gC
          cases b2
          ·go_wp2
           go_ret
           exact⟨by simp,HB⟩
          ·go_wp2_with fail
           refine(gN _ HW).mono ?_
           rintro e8 w8 ⟨rfl,hb8⟩
           have up:=fun i v (h:w7.cell? ⟨w.heap.size,i,none⟩=some v)=>(hb8.cell (p:=⟨w.heap.size,i,none⟩) hs).trans h
           replace cT:=up _ _ cT
           replace cG:=up _ _ cG
           clear up
           replace HB:=HB.trans (hb8.mono (by omega))
           replace HW:=HW.trans (hb8.mono HW.size)
           replace hs:=Nat.lt_of_lt_of_le hs hb8.size
           clear hb8 gN
           cases b3
           ·go_wp2
            go_ret
            exact⟨by simp,HB⟩
           ·clear gG
            go_wp2
            go_ret
            exact⟨by simp,HB⟩
   ·rw[if_neg h2,if_neg h7]
    have n2:(k==2)=false:=beq_eq_false_iff_ne.2 h2
    have n7:(k==7)=false:=beq_eq_false_iff_ne.2 h7
    clear h2 h7
    go_enter func86,ntmps86
    go_upto_region 1 with fail
    go_name_world w1 hw1
    obtain rfl:W=w1:=hW.out.symm.trans hw1
    clear hw1 hW
    have HB:=hB
    have HW:Below W.heap.size W W:=Below.refl _ _
    go_wp2_with fail
    refine(gE _).mono ?_
    rintro e1 w1 ⟨rfl,hx0⟩
    obtain rfl:=hx0.symm
    clear hx0
    clear gE
    cases be
    ·go_wp2
     go_ret
     exact⟨by simp,HB⟩
    ·go_wp2_with fail
     refine(gL _).mono ?_
     rintro e1 w1 ⟨rfl,hx0⟩
     obtain rfl:=hx0.symm
     clear hx0
     clear gL
     cases bl
     ·go_wp2
      go_ret
      exact⟨by simp,HB⟩
     ·go_wp2_with fail
      refine(gV _).mono ?_
      rintro e1 w1 ⟨rfl,hx0⟩
      obtain rfl:=hx0.symm
      clear hx0
      clear gV
      cases bv
      ·go_wp2
       go_ret
       exact⟨by simp,HB⟩
      ·go_wp2_with fail
       refine(gS _).mono ?_
       rintro e1 w1 ⟨rfl,hx0⟩
       obtain rfl:=hx0.symm
       clear hx0
       clear gS
       cases bs
       ·go_wp2
        go_ret
        exact⟨by simp,HB⟩
       ·go_wp2_with fail
        refine(gB _ HW).mono ?_
        rintro e6 w6 ⟨rfl,hb6⟩
        have up:=fun i v (h:W.cell? ⟨w.heap.size,i,none⟩=some v)=>(hb6.cell (p:=⟨w.heap.size,i,none⟩) hs).trans h
        replace c1:=up _ _ c1
        replace c2:=up _ _ c2
        replace c3:=up _ _ c3
        replace cH:=up _ _ cH
        replace cN:=up _ _ cN
        replace cT:=up _ _ cT
        replace cG:=up _ _ cG
        clear up
        replace HB:=HB.trans (hb6.mono (by omega))
        replace HW:=HW.trans (hb6.mono HW.size)
        replace hs:=Nat.lt_of_lt_of_le hs hb6.size
        clear hb6 gB
        cases b1
        ·go_wp2
         go_ret
         exact⟨by simp,HB⟩
        ·go_wp2_with fail
         refine(gC _ HW).mono ?_
         rintro e7 w7 ⟨rfl,hb7⟩
         have up:=fun i v (h:w6.cell? ⟨w.heap.size,i,none⟩=some v)=>(hb7.cell (p:=⟨w.heap.size,i,none⟩) hs).trans h
         replace cN:=up _ _ cN
         replace cT:=up _ _ cT
         replace cG:=up _ _ cG
         clear up
         replace HB:=HB.trans (hb7.mono (by omega))
         replace HW:=HW.trans (hb7.mono HW.size)
         replace hs:=Nat.lt_of_lt_of_le hs hb7.size
         clear hb7 gC
         cases b2
         ·go_wp2
          go_ret
          exact⟨by simp,HB⟩
         ·go_wp2_with fail
          refine(gN _ HW).mono ?_
          rintro e8 w8 ⟨rfl,hb8⟩
          have up:=fun i v (h:w7.cell? ⟨w.heap.size,i,none⟩=some v)=>(hb8.cell (p:=⟨w.heap.size,i,none⟩) hs).trans h
          replace cT:=up _ _ cT
          replace cG:=up _ _ cG
          clear up
          replace HB:=HB.trans (hb8.mono (by omega))
          replace HW:=HW.trans (hb8.mono HW.size)
          replace hs:=Nat.lt_of_lt_of_le hs hb8.size
          clear hb8 gN
          cases b3
          ·go_wp2
           go_ret
           exact⟨by simp,HB⟩
          ·clear gG
           go_wp2
           go_ret
           exact⟨by simp,HB⟩
 ·rw[decide_eq_true hst]
  by_cases h2:k=2
  ·rw[if_pos h2,if_neg (by omega)]
   subst h2
   go_enter func86,ntmps86
   go_upto_region 1 with fail
   go_name_world w1 hw1
   obtain rfl:W=w1:=hW.out.symm.trans hw1
   clear hw1 hW
   have HB:=hB
   have HW:Below W.heap.size W W:=Below.refl _ _
   go_wp2_with fail
   refine(gE _).mono ?_
   rintro e1 w1 ⟨rfl,hx0⟩
   obtain rfl:=hx0.symm
   clear hx0
   clear gE
   cases be
   ·go_wp2
    go_ret
    exact⟨by simp,HB⟩
   ·go_wp2_with fail
    refine(gL _).mono ?_
    rintro e1 w1 ⟨rfl,hx0⟩
    obtain rfl:=hx0.symm
    clear hx0
    clear gL
    cases bl
    ·go_wp2
     go_ret
     exact⟨by simp,HB⟩
    ·go_wp2_with fail
     refine(gV _).mono ?_
     rintro e1 w1 ⟨rfl,hx0⟩
     obtain rfl:=hx0.symm
     clear hx0
     clear gV
     cases bv
     ·go_wp2
      go_ret
      exact⟨by simp,HB⟩
     ·go_wp2_with fail
      refine(gS _).mono ?_
      rintro e1 w1 ⟨rfl,hx0⟩
      obtain rfl:=hx0.symm
      clear hx0
      clear gS
      cases bs
      ·go_wp2
       go_ret
       exact⟨by simp,HB⟩
      ·go_wp2_with (refine zQ (by rfl) 43 _ rfl _ _ rfl u _ rV underlying43 rfl ix ?_)
       refine(gX _).mono ?_
       rintro e5 w5 ⟨rfl,hb5⟩
       have up:=fun i v (h:W.cell? ⟨w.heap.size,i,none⟩=some v)=>(hb5.cell (p:=⟨w.heap.size,i,none⟩) hs).trans h
       replace cK:=up _ _ cK
       replace cQ:=up _ _ cQ
       replace cR:=up _ _ cR
       replace c1:=up _ _ c1
       replace c2:=up _ _ c2
       replace c3:=up _ _ c3
       replace cH:=up _ _ cH
       replace cN:=up _ _ cN
       replace cT:=up _ _ cT
       replace cG:=up _ _ cG
       clear up
       replace HB:=HB.trans (hb5.mono (by omega))
       replace HW:=HW.trans (hb5.mono HW.size)
       replace hs:=Nat.lt_of_lt_of_le hs hb5.size
       clear hb5 gX
       cases bx
       ·go_wp2
        go_ret
        exact⟨by simp,HB⟩
       ·go_wp2_with fail
        refine(gB _ HW).mono ?_
        rintro e6 w6 ⟨rfl,hb6⟩
        have up:=fun i v (h:w5.cell? ⟨w.heap.size,i,none⟩=some v)=>(hb6.cell (p:=⟨w.heap.size,i,none⟩) hs).trans h
        replace c1:=up _ _ c1
        replace c2:=up _ _ c2
        replace c3:=up _ _ c3
        replace cH:=up _ _ cH
        replace cN:=up _ _ cN
        replace cT:=up _ _ cT
        replace cG:=up _ _ cG
        clear up
        replace HB:=HB.trans (hb6.mono (by omega))
        replace HW:=HW.trans (hb6.mono HW.size)
        replace hs:=Nat.lt_of_lt_of_le hs hb6.size
        clear hb6 gB
        cases b1
        ·go_wp2
         go_ret
         exact⟨by simp,HB⟩
        ·go_wp2_with fail
         refine(gC _ HW).mono ?_
         rintro e7 w7 ⟨rfl,hb7⟩
         have up:=fun i v (h:w6.cell? ⟨w.heap.size,i,none⟩=some v)=>(hb7.cell (p:=⟨w.heap.size,i,none⟩) hs).trans h
         replace cN:=up _ _ cN
         replace cT:=up _ _ cT
         replace cG:=up _ _ cG
         clear up
         replace HB:=HB.trans (hb7.mono (by omega))
         replace HW:=HW.trans (hb7.mono HW.size)
         replace hs:=Nat.lt_of_lt_of_le hs hb7.size
         clear hb7 gC
         cases b2
         ·go_wp2
          go_ret
          exact⟨by simp,HB⟩
         ·go_wp2_with fail
          refine(gN _ HW).mono ?_
          rintro e8 w8 ⟨rfl,hb8⟩
          have up:=fun i v (h:w7.cell? ⟨w.heap.size,i,none⟩=some v)=>(hb8.cell (p:=⟨w.heap.size,i,none⟩) hs).trans h
          replace cT:=up _ _ cT
          replace cG:=up _ _ cG
          clear up
          replace HB:=HB.trans (hb8.mono (by omega))
          replace HW:=HW.trans (hb8.mono HW.size)
          replace hs:=Nat.lt_of_lt_of_le hs hb8.size
          clear hb8 gN
          cases b3
          ·go_wp2
           go_ret
           exact⟨by simp,HB⟩
          ·go_wp2_with fail
           refine(gG _ HW).mono ?_
           rintro e9 w9 ⟨rfl,hb9⟩
           replace HB:=HB.trans (hb9.mono (by omega))
           clear hb9 gG
           cases b5
           all_goals
            go_wp2
            go_ret
            exact⟨by first|rfl|simp,HB⟩
  ·by_cases h7:k=7
   ·rw[if_neg h2,if_pos h7]
    subst h7
    clear h2
    go_enter func86,ntmps86
    go_upto_region 1 with fail
    go_name_world w1 hw1
    obtain rfl:W=w1:=hW.out.symm.trans hw1
    clear hw1 hW
    have HB:=hB
    have HW:Below W.heap.size W W:=Below.refl _ _
    go_wp2_with fail
    refine(gE _).mono ?_
    rintro e1 w1 ⟨rfl,hx0⟩
    obtain rfl:=hx0.symm
    clear hx0
    clear gE
    cases be
    ·go_wp2
     go_ret
     exact⟨by simp,HB⟩
    ·go_wp2_with fail
     refine(gL _).mono ?_
     rintro e1 w1 ⟨rfl,hx0⟩
     obtain rfl:=hx0.symm
     clear hx0
     clear gL
     cases bl
     ·go_wp2
      go_ret
      exact⟨by simp,HB⟩
     ·go_wp2_with fail
      refine(gV _).mono ?_
      rintro e1 w1 ⟨rfl,hx0⟩
      obtain rfl:=hx0.symm
      clear hx0
      clear gV
      cases bv
      ·go_wp2
       go_ret
       exact⟨by simp,HB⟩
      ·go_wp2_with fail
       refine(gS _).mono ?_
       rintro e1 w1 ⟨rfl,hx0⟩
       obtain rfl:=hx0.symm
       clear hx0
       clear gS
       cases bs
       ·go_wp2
        go_ret
        exact⟨by simp,HB⟩
       ·go_wp2_with (refine zQ (by rfl) 50 _ rfl _ _ rfl uc _ rC underlying50 rfl ic ?_)
        refine(gT _ HW).mono ?_
        rintro e5 w5 ⟨rfl,hb5⟩
        have up:=fun i v (h:W.cell? ⟨w.heap.size,i,none⟩=some v)=>(hb5.cell (p:=⟨w.heap.size,i,none⟩) hs).trans h
        replace cQ:=up _ _ cQ
        replace cR:=up _ _ cR
        replace c1:=up _ _ c1
        replace c2:=up _ _ c2
        replace c3:=up _ _ c3
        replace cH:=up _ _ cH
        replace cN:=up _ _ cN
        replace cT:=up _ _ cT
        replace cG:=up _ _ cG
        clear up
        replace HB:=HB.trans (hb5.mono (by omega))
        replace HW:=HW.trans (hb5.mono HW.size)
        replace hs:=Nat.lt_of_lt_of_le hs hb5.size
        clear hb5 gT
        cases bt
        ·go_wp2
         go_ret
         exact⟨by simp,HB⟩
        ·go_wp2_with fail
         refine(gB _ HW).mono ?_
         rintro e6 w6 ⟨rfl,hb6⟩
         have up:=fun i v (h:w5.cell? ⟨w.heap.size,i,none⟩=some v)=>(hb6.cell (p:=⟨w.heap.size,i,none⟩) hs).trans h
         replace c1:=up _ _ c1
         replace c2:=up _ _ c2
         replace c3:=up _ _ c3
         replace cH:=up _ _ cH
         replace cN:=up _ _ cN
         replace cT:=up _ _ cT
         replace cG:=up _ _ cG
         clear up
         replace HB:=HB.trans (hb6.mono (by omega))
         replace HW:=HW.trans (hb6.mono HW.size)
         replace hs:=Nat.lt_of_lt_of_le hs hb6.size
         clear hb6 gB
         cases b1
         ·go_wp2
          go_ret
          exact⟨by simp,HB⟩
         ·go_wp2_with fail
          refine(gC _ HW).mono ?_
          rintro e7 w7 ⟨rfl,hb7⟩
          have up:=fun i v (h:w6.cell? ⟨w.heap.size,i,none⟩=some v)=>(hb7.cell (p:=⟨w.heap.size,i,none⟩) hs).trans h
          replace cN:=up _ _ cN
          replace cT:=up _ _ cT
          replace cG:=up _ _ cG
          clear up
          replace HB:=HB.trans (hb7.mono (by omega))
          replace HW:=HW.trans (hb7.mono HW.size)
          replace hs:=Nat.lt_of_lt_of_le hs hb7.size
          clear hb7 gC
          cases b2
          ·go_wp2
           go_ret
           exact⟨by simp,HB⟩
          ·go_wp2_with fail
           refine(gN _ HW).mono ?_
           rintro e8 w8 ⟨rfl,hb8⟩
           have up:=fun i v (h:w7.cell? ⟨w.heap.size,i,none⟩=some v)=>(hb8.cell (p:=⟨w.heap.size,i,none⟩) hs).trans h
           replace cT:=up _ _ cT
           replace cG:=up _ _ cG
           clear up
           replace HB:=HB.trans (hb8.mono (by omega))
           replace HW:=HW.trans (hb8.mono HW.size)
           replace hs:=Nat.lt_of_lt_of_le hs hb8.size
           clear hb8 gN
           cases b3
           ·go_wp2
            go_ret
            exact⟨by simp,HB⟩
           ·go_wp2_with fail
            refine(gG _ HW).mono ?_
            rintro e9 w9 ⟨rfl,hb9⟩
            replace HB:=HB.trans (hb9.mono (by omega))
            clear hb9 gG
            cases b5
            all_goals
             go_wp2
             go_ret
             exact⟨by first|rfl|simp,HB⟩
   ·rw[if_neg h2,if_neg h7]
    have n2:(k==2)=false:=beq_eq_false_iff_ne.2 h2
    have n7:(k==7)=false:=beq_eq_false_iff_ne.2 h7
    clear h2 h7
    go_enter func86,ntmps86
    go_upto_region 1 with fail
    go_name_world w1 hw1
    obtain rfl:W=w1:=hW.out.symm.trans hw1
    clear hw1 hW
    have HB:=hB
    have HW:Below W.heap.size W W:=Below.refl _ _
    go_wp2_with fail
    refine(gE _).mono ?_
    rintro e1 w1 ⟨rfl,hx0⟩
    obtain rfl:=hx0.symm
    clear hx0
    clear gE
    cases be
    ·go_wp2
     go_ret
     exact⟨by simp,HB⟩
    ·go_wp2_with fail
     refine(gL _).mono ?_
     rintro e1 w1 ⟨rfl,hx0⟩
     obtain rfl:=hx0.symm
     clear hx0
     clear gL
     cases bl
     ·go_wp2
      go_ret
      exact⟨by simp,HB⟩
     ·go_wp2_with fail
      refine(gV _).mono ?_
      rintro e1 w1 ⟨rfl,hx0⟩
      obtain rfl:=hx0.symm
      clear hx0
      clear gV
      cases bv
      ·go_wp2
       go_ret
       exact⟨by simp,HB⟩
      ·go_wp2_with fail
       refine(gS _).mono ?_
       rintro e1 w1 ⟨rfl,hx0⟩
       obtain rfl:=hx0.symm
       clear hx0
       clear gS
       cases bs
       ·go_wp2
        go_ret
        exact⟨by simp,HB⟩
       ·go_wp2_with fail
        refine(gB _ HW).mono ?_
        rintro e6 w6 ⟨rfl,hb6⟩
        have up:=fun i v (h:W.cell? ⟨w.heap.size,i,none⟩=some v)=>(hb6.cell (p:=⟨w.heap.size,i,none⟩) hs).trans h
        replace c1:=up _ _ c1
        replace c2:=up _ _ c2
        replace c3:=up _ _ c3
        replace cH:=up _ _ cH
        replace cN:=up _ _ cN
        replace cT:=up _ _ cT
        replace cG:=up _ _ cG
        clear up
        replace HB:=HB.trans (hb6.mono (by omega))
        replace HW:=HW.trans (hb6.mono HW.size)
        replace hs:=Nat.lt_of_lt_of_le hs hb6.size
        clear hb6 gB
        cases b1
        ·go_wp2
         go_ret
         exact⟨by simp,HB⟩
        ·go_wp2_with fail
         refine(gC _ HW).mono ?_
         rintro e7 w7 ⟨rfl,hb7⟩
         have up:=fun i v (h:w6.cell? ⟨w.heap.size,i,none⟩=some v)=>(hb7.cell (p:=⟨w.heap.size,i,none⟩) hs).trans h
         replace cN:=up _ _ cN
         replace cT:=up _ _ cT
         replace cG:=up _ _ cG
         clear up
         replace HB:=HB.trans (hb7.mono (by omega))
         replace HW:=HW.trans (hb7.mono HW.size)
         replace hs:=Nat.lt_of_lt_of_le hs hb7.size
         clear hb7 gC
         cases b2
         ·go_wp2
          go_ret
          exact⟨by simp,HB⟩
         ·go_wp2_with fail
          refine(gN _ HW).mono ?_
          rintro e8 w8 ⟨rfl,hb8⟩
          have up:=fun i v (h:w7.cell? ⟨w.heap.size,i,none⟩=some v)=>(hb8.cell (p:=⟨w.heap.size,i,none⟩) hs).trans h
          replace cT:=up _ _ cT
          replace cG:=up _ _ cG
          clear up
          replace HB:=HB.trans (hb8.mono (by omega))
          replace HW:=HW.trans (hb8.mono HW.size)
          replace hs:=Nat.lt_of_lt_of_le hs hb8.size
          clear hb8 gN
          cases b3
          ·go_wp2
           go_ret
           exact⟨by simp,HB⟩
          ·go_wp2_with fail
           refine(gG _ HW).mono ?_
           rintro e9 w9 ⟨rfl,hb9⟩
           replace HB:=HB.trans (hb9.mono (by omega))
           clear hb9 gG
           cases b5
           all_goals
            go_wp2
            go_ret
            exact⟨by first|rfl|simp,HB⟩
end Go.Proofs.YtcbpbkefggekmaaGreatDoor
