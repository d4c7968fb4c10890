/- messages with lists; Same; message's writer: messages of all kinds; the document's bytes: tags, signs, certs; the document's comparisons of lists; the document' -/
import Derived.Test.YtcbpbkefggekmaaGreatDoorJF0
import Derived.Test.YtcbpbkefggekmaaGreatDoorJF5
import Derived.Test.YtcbpbkefggekmaaGreatDoorJF4
set_option maxHeartbeats 8000000
set_option maxRecDepth 100000
open Go.Proofs.Tryz
namespace Go.Proofs.YtcbpbkefggekmaaGreatDoor
open Go.RowKit
open Sha Tal
theorem zcv {P:Program} {ops:Array Oper} {rest:List Oper} {op:Oper} {a:Act} {w:World} {Q:Exit→Act→World→Prop} (hgd:Region.wanted op (yielded ops a.tmps)=true) (t t2:TypeId) (x y:Operand) (ho:op.op=.binOp .neq t x y t2) (sa sb:ByteArray) (hx:a.eval x=.string sa) (hy:a.eval y=.string sb) (b:Bool) (hb:(sa.toList !=sb.toList)=b)
  (h:wpList P ops Q rest (a.put op.dst (.bool b)) w):wpList P ops Q (op::rest) a w:=
 wpList_step fun K hK=>by
  rw[if_pos hgd]
  unfold Oper.wp execOp
  subst hb
  simp only[ho,hx,hy,binOp_string_neq,Sem.run_bind,Sem.run_pure]
  exact hK _ _ h
structure Mg where
 k:Int
 e:Int
 l:Int
 v:Int
 s:Int
 q:Bool
 rs:Sl Rq
 vt:Vt
 ce:Int
 cl:Int
 cv:Int
 he:Sl Hd
 ne:Sl Ev
 d:List Int
 ct:Vt
 cs:Sl Sg
 st:ByteArray
 sg:Sl Sg
def Mg.ms (m:Mg):Ms:=⟨m.k,m.e,m.l,m.v,m.s,m.q,m.rs.val,m.vt,m.ce,m.cl,m.cv,m.he.val,m.ne.val,m.d,m.ct,m.cs.val,m.st,m.sg.val⟩
structure Mg.ok (m:Mg):Prop where
 vt:m.vt.ok
 ct:m.ct.ok
 dl:m.d.length=32
 db:∀z∈m.d,0≤z∧z<256
theorem Mg.ok.ms {m:Mg} (h:m.ok):m.ms.ok:=⟨h.vt,h.ct,h.dl,h.db,rfl,rfl,rfl,rfl,rfl⟩
structure Mg.At (m:Mg) (w:World):Prop where
 rs:m.rs.At RqE w
 he:HdsAt w m.he
 ne:m.ne.At EvE w
 cs:m.cs.At SgE w
 sg:m.sg.At SgE w
theorem Mg.At.below {m:Mg} {w w':World} (h:m.At w) (hb:Below w.heap.size w w'):m.At w':=⟨h.rs.below hb,h.he.below hb,h.ne.below hb,h.cs.below hb,h.sg.below hb⟩
def Mg.nB (a b:Mg):Bool:=(a.k==b.k)&&((a.e==b.e)&&((a.l==b.l)&&((a.v==b.v)&&(a.s==b.s))))
def Mg.fB (a b:Mg):Bool:=vtB a.vt b.vt&&((a.d==b.d)&&(a.st.toList==b.st.toList))
def Mg.lB (a b:Mg):Bool:=batB a.q a.rs b.q b.rs&&(chgB a.ce a.cl a.cv a.he b.ce b.cl b.cv b.he&&(sameL Ev.B a.ne.xs b.ne.xs&&(certB a.ct a.cs b.ct b.cs&&sameL Sg.B a.sg.xs b.sg.xs)))
def Mg.B (a b:Mg):Bool:=Mg.nB a b&&(Mg.fB a b&&Mg.lB a b)
theorem zkv (a b:Mg) (w:World) (oa:a.ok) (ob:b.ok) (ha:a.At w) (hb:b.At w):Calls prog 84 #[.agg a.ms.cells.toArray,.agg b.ms.cells.toArray] w fun er w'=>er=.returned (.bool (Mg.B a b))∧Below w.heap.size w w':=by
 obtain⟨hA,hA',hB,hs⟩:=zbM a.ms.cells b.ms.cells 52 w
 obtain⟨W,hW⟩:∃W,Hid ((w.alloc (.cells a.ms.cells.toArray 52)).alloc (.cells b.ms.cells.toArray 52)=W):=⟨_,hide rfl⟩
 rw[hW.out]at hA hA' hB hs
 have M:=oa.ms.at hA
 have M':=ob.ms.at hA'
 have ix:(prog.info? 43).map (·.size)=some a.vt.cells.length:=by rw[oa.vt.len];exact iszV
 have iy:(prog.info? 43).map (·.size)=some b.vt.cells.length:=by rw[ob.vt.len];exact iszV
 have id:(prog.info? 41).map (·.size)=some (v8 a.d).length:=by rw[v8_length,oa.dl];exact iszD
 have id':(prog.info? 41).map (·.size)=some (v8 b.d).length:=by rw[v8_length,ob.dl];exact iszD
 have ic:(prog.info? 50).map (·.size)=some (certL a.ct a.cs).length:=by rw[show(certL a.ct a.cs).length=37 by simp[certL,oa.ct.len]];exact iszC
 have ic':(prog.info? 50).map (·.size)=some (certL b.ct b.cs).length:=by rw[show(certL b.ct b.cs).length=37 by simp[certL,ob.ct.len]];exact iszC
 have hq:=eqInV a.vt b.vt oa.vt.dl ob.vt.dl
 have hq2:=eqInD a.d b.d oa.dl ob.dl
 have gB:=fun w0 k1 k2=>zhu a.q a.rs b.q b.rs w0 k1 k2
 have gC:=fun w0 k1 k2=>ziZ a.ce a.cl a.cv a.he b.ce b.cl b.cv b.he w0 k1 k2
 have gN:=fun w0 k1 k2=>zlJ a.ne.a a.ne.cap a.ne.xs b.ne.a b.ne.cap b.ne.xs w0 k1 k2
 have gT:=fun w0 k1 k2=>zfp a.ct b.ct a.cs b.cs w0 oa.ct ob.ct k1 k2
 have gS:=fun w0 k1 k2=>zg7 a.sg.a a.sg.cap a.sg.xs b.sg.a b.sg.cap b.sg.xs w0 k1 k2
 have a1:=ha.below hB
 have b1:=hb.below hB
 have cK:W.cell? ⟨w.heap.size,0,none⟩=some (.int .i64 a.k):=M.k
 have cE:W.cell? ⟨w.heap.size,1,none⟩=some (.int .i64 a.e):=M.e
 have cL:W.cell? ⟨w.heap.size,2,none⟩=some (.int .i64 a.l):=M.l
 have cV:W.cell? ⟨w.heap.size,3,none⟩=some (.int .i64 a.v):=M.v
 have cS:W.cell? ⟨w.heap.size,4,none⟩=some (.int .i64 a.s):=M.s
 have cQ:W.cell? ⟨w.heap.size,5,none⟩=some (.bool a.q):=M.q
 have cR:W.cell? ⟨w.heap.size,6,none⟩=some (.slice a.rs.a a.rs.xs.length a.rs.cap):=M.rs
 have c1:W.cell? ⟨w.heap.size,43,none⟩=some (.int .i64 a.ce):=M.ce
 have c2:W.cell? ⟨w.heap.size,44,none⟩=some (.int .i64 a.cl):=M.cl
 have c3:W.cell? ⟨w.heap.size,45,none⟩=some (.int .i64 a.cv):=M.cv
 have cH:W.cell? ⟨w.heap.size,46,none⟩=some (.slice a.he.a a.he.xs.length a.he.cap):=M.he
 have cN:W.cell? ⟨w.heap.size,47,none⟩=some (.slice a.ne.a a.ne.xs.length a.ne.cap):=M.ne
 have cT:W.cell? ⟨w.heap.size,117,none⟩=some (.string a.st):=M.st
 have cG:W.cell? ⟨w.heap.size,118,none⟩=some (.slice a.sg.a a.sg.xs.length a.sg.cap):=M.sg
 have rV:W.rangeAt (w.heap.size) 7 a.vt.cells:=M.vt
 have rD:W.rangeAt (w.heap.size) 48 (v8 a.d):=M.d
 have rC:W.rangeAt (w.heap.size) 80 (certL a.ct a.cs):=M.ct
 have cK':W.cell? ⟨w.heap.size+1,0,none⟩=some (.int .i64 b.k):=M'.k
 have cE':W.cell? ⟨w.heap.size+1,1,none⟩=some (.int .i64 b.e):=M'.e
 have cL':W.cell? ⟨w.heap.size+1,2,none⟩=some (.int .i64 b.l):=M'.l
 have cV':W.cell? ⟨w.heap.size+1,3,none⟩=some (.int .i64 b.v):=M'.v
 have cS':W.cell? ⟨w.heap.size+1,4,none⟩=some (.int .i64 b.s):=M'.s
 have cQ':W.cell? ⟨w.heap.size+1,5,none⟩=some (.bool b.q):=M'.q
 have cR':W.cell? ⟨w.heap.size+1,6,none⟩=some (.slice b.rs.a b.rs.xs.length b.rs.cap):=M'.rs
 have c1':W.cell? ⟨w.heap.size+1,43,none⟩=some (.int .i64 b.ce):=M'.ce
 have c2':W.cell? ⟨w.heap.size+1,44,none⟩=some (.int .i64 b.cl):=M'.cl
 have c3':W.cell? ⟨w.heap.size+1,45,none⟩=some (.int .i64 b.cv):=M'.cv
 have cH':W.cell? ⟨w.heap.size+1,46,none⟩=some (.slice b.he.a b.he.xs.length b.he.cap):=M'.he
 have cN':W.cell? ⟨w.heap.size+1,47,none⟩=some (.slice b.ne.a b.ne.xs.length b.ne.cap):=M'.ne
 have cT':W.cell? ⟨w.heap.size+1,117,none⟩=some (.string b.st):=M'.st
 have cG':W.cell? ⟨w.heap.size+1,118,none⟩=some (.slice b.sg.a b.sg.xs.length b.sg.cap):=M'.sg
 have rV':W.rangeAt (w.heap.size+1) 7 b.vt.cells:=M'.vt
 have rD':W.rangeAt (w.heap.size+1) 48 (v8 b.d):=M'.d
 have rC':W.rangeAt (w.heap.size+1) 80 (certL b.ct b.cs):=M'.ct
 unfold chgL at gC
 simp only[Sl.val]at gB gC
 unfold Mg.B Mg.nB Mg.fB Mg.lB
 have A1:=a1.rs
 have A2:=a1.he
 have A3:RowsAt EvE W a.ne.a a.ne.xs:=a1.ne
 have A4:=a1.cs
 have A5:RowsAt SgE W a.sg.a a.sg.xs:=a1.sg
 have B1:=b1.rs
 have B2:=b1.he
 have B3:RowsAt EvE W b.ne.a b.ne.xs:=b1.ne
 have B4:=b1.cs
 have B5:RowsAt SgE W b.sg.a b.sg.xs:=b1.sg
 clear hA hA' M M' oa ob ha hb a1 b1
 generalize batB a.q a.rs b.q b.rs=b1 at *
 generalize chgB a.ce a.cl a.cv a.he b.ce b.cl b.cv b.he=b2 at *
 generalize sameL Ev.B a.ne.xs b.ne.xs=b3 at *
 generalize certB a.ct a.cs b.ct b.cs=b4 at *
 generalize sameL Sg.B a.sg.xs b.sg.xs=b5 at *
 generalize a.ms.cells=q at *
 generalize b.ms.cells=q' at *
 generalize hgu:a.vt.cells=u at *
 generalize hgu':b.vt.cells=u' at *
 generalize hgd:v8 a.d=ud at *
 generalize hgd':v8 b.d=ud' at *
 generalize certL a.ct a.cs=uc at *
 generalize certL b.ct b.cs=uc' at *
 generalize vtB a.vt b.vt=vb at *
 generalize (a.d==b.d)=db at *
 clear hgu hgu' hgd hgd'
 obtain⟨k,e,l,v,s,qq,⟨ra,rc,rx⟩,vt,ce,cl,cv,⟨ha,hc,hx⟩,⟨na,nc,nx⟩,d,ct,cs,st,⟨ga,gc,gx⟩⟩:=a
 obtain⟨k',e',l',v',s',qq',⟨ra',rc',rx'⟩,vt',ce',cl',cv',⟨ha',hc',hx'⟩,⟨na',nc',nx'⟩,d',ct',cs',st',⟨ga',gc',gx'⟩⟩:=b
 simp only at *
 by_cases h_k:k=k'
 rotate_left
 ·rw[show(k==k')=false from beq_eq_false_iff_ne.2 h_k]
  have n1:(k !=k')=true:=bne_iff_ne.2 h_k
  clear h_k rV rV' rD rD' cT cT' hq hq2 ix iy id id'
  clear gB gC gN gT gS A1 A2 A3 A4 A5 B1 B2 B3 B4 B5 rC rC' cQ cR cQ' cR' c1 c2 c3 cH c1' c2' c3' cH' cN cN' cG cG' ic ic'
  go_enter func84,ntmps84
  go_upto_region 1 with fail
  go_name_world w1 hw1
  obtain rfl:W=w1:=hW.out.symm.trans hw1
  clear hw1 hW
  go_wp2
  go_ret
  exact⟨by simp,hB⟩
 ·subst h_k
  by_cases h_e:e=e'
  rotate_left
  ·rw[show(e==e')=false from beq_eq_false_iff_ne.2 h_e]
   have n1:(e !=e')=true:=bne_iff_ne.2 h_e
   clear h_e rV rV' rD rD' cT cT' hq hq2 ix iy id id'
   clear gB gC gN gT gS A1 A2 A3 A4 A5 B1 B2 B3 B4 B5 rC rC' cQ cR cQ' cR' c1 c2 c3 cH c1' c2' c3' cH' cN cN' cG cG' ic ic'
   go_enter func84,ntmps84
   go_upto_region 1 with fail
   go_name_world w1 hw1
   obtain rfl:W=w1:=hW.out.symm.trans hw1
   clear hw1 hW
   go_wp2
   go_ret
   exact⟨by simp,hB⟩
  ·subst h_e
   by_cases h_l:l=l'
   rotate_left
   ·rw[show(l==l')=false from beq_eq_false_iff_ne.2 h_l]
    have n1:(l !=l')=true:=bne_iff_ne.2 h_l
    clear h_l rV rV' rD rD' cT cT' hq hq2 ix iy id id'
    clear gB gC gN gT gS A1 A2 A3 A4 A5 B1 B2 B3 B4 B5 rC rC' cQ cR cQ' cR' c1 c2 c3 cH c1' c2' c3' cH' cN cN' cG cG' ic ic'
    go_enter func84,ntmps84
    go_upto_region 1 with fail
    go_name_world w1 hw1
    obtain rfl:W=w1:=hW.out.symm.trans hw1
    clear hw1 hW
    go_wp2
    go_ret
    exact⟨by simp,hB⟩
   ·subst h_l
    by_cases h_v:v=v'
    rotate_left
    ·rw[show(v==v')=false from beq_eq_false_iff_ne.2 h_v]
     have n1:(v !=v')=true:=bne_iff_ne.2 h_v
     clear h_v rV rV' rD rD' cT cT' hq hq2 ix iy id id'
     clear gB gC gN gT gS A1 A2 A3 A4 A5 B1 B2 B3 B4 B5 rC rC' cQ cR cQ' cR' c1 c2 c3 cH c1' c2' c3' cH' cN cN' cG cG' ic ic'
     go_enter func84,ntmps84
     go_upto_region 1 with fail
     go_name_world w1 hw1
     obtain rfl:W=w1:=hW.out.symm.trans hw1
     clear hw1 hW
     go_wp2
     go_ret
     exact⟨by simp,hB⟩
    ·subst h_v
     by_cases h_s:s=s'
     rotate_left
     ·rw[show(s==s')=false from beq_eq_false_iff_ne.2 h_s]
      have n1:(s !=s')=true:=bne_iff_ne.2 h_s
      clear h_s rV rV' rD rD' cT cT' hq hq2 ix iy id id'
      clear gB gC gN gT gS A1 A2 A3 A4 A5 B1 B2 B3 B4 B5 rC rC' cQ cR cQ' cR' c1 c2 c3 cH c1' c2' c3' cH' cN cN' cG cG' ic ic'
      go_enter func84,ntmps84
      go_upto_region 1 with fail
      go_name_world w1 hw1
      obtain rfl:W=w1:=hW.out.symm.trans hw1
      clear hw1 hW
      go_wp2
      go_ret
      exact⟨by simp,hB⟩
     ·subst h_s
      have EN:((k==k)&&((e==e)&&((l==l)&&((v==v)&&(s==s)))))=true:=by simp
      rw[EN,Bool.true_and]
      clear EN
      cases vb
      ·rw[Bool.false_and,Bool.false_and]
       clear cT cT' hq2 id id' rD rD'
       clear gB gC gN gT gS A1 A2 A3 A4 A5 B1 B2 B3 B4 B5 rC rC' cQ cR cQ' cR' c1 c2 c3 cH c1' c2' c3' cH' cN cN' cG cG' ic ic'
       go_enter func84,ntmps84
       go_upto_region 1 with fail
       go_name_world w1 hw1
       obtain rfl:W=w1:=hW.out.symm.trans hw1
       clear hw1 hW
       go_upto_region 3 with fail
       try simp only[Act.put]
       refine wp_region_list ?_
       refine wpList_step fun K hK=>?_
       go_simp
       refine hK _ _ ?_
       clear hK K
       refine wpList_load_mid rfl 43 _ rfl _ _ rfl u _ rV underlying43 rfl ix ?_
       refine wpList_step fun K hK=>?_
       go_simp
       refine hK _ _ ?_
       clear hK K
       refine wpList_load_mid rfl 43 _ rfl _ _ rfl u' _ rV' underlying43 rfl iy ?_
       refine wpList_step fun K hK=>?_
       go_simp
       try rw[hq]
       try go_simp
       refine hK _ _ ?_
       clear hK K
       refine wpList_step fun K hK=>?_
       go_simp
       refine hK _ _ ?_
       clear hK K
       refine wpList_step fun K hK=>?_
       go_simp
       refine hK _ _ ?_
       clear hK K
       refine wpList_step fun K hK=>?_
       go_simp
       refine hK _ _ ?_
       clear hK K
       refine wpList_step fun K hK=>?_
       go_simp
       refine hK _ _ ?_
       clear hK K
       refine wpList_step fun K hK=>?_
       go_simp
       refine hK _ _ ?_
       clear hK K
       refine wpList_step fun K hK=>?_
       go_simp
       refine hK _ _ ?_
       clear hK K
       refine wpList_step fun K hK=>?_
       go_simp
       refine hK _ _ ?_
       clear hK K
       refine wpList_step fun K hK=>?_
       go_simp
       refine hK _ _ ?_
       clear hK K
       refine wpList_step fun K hK=>?_
       go_simp
       refine hK _ _ ?_
       clear hK K
       refine wpList_step fun K hK=>?_
       go_simp
       refine hK _ _ ?_
       clear hK K
       refine wpList_step fun K hK=>?_
       go_simp
       refine hK _ _ ?_
       clear hK K
       refine wpList_step fun K hK=>?_
       go_simp
       refine hK _ _ ?_
       clear hK K
       refine wpList_step fun K hK=>?_
       go_simp
       refine hK _ _ ?_
       clear hK K
       refine wpList_step fun K hK=>?_
       go_simp
       refine hK _ _ ?_
       clear hK K
       refine wpList_step fun K hK=>?_
       go_simp
       refine hK _ _ ?_
       clear hK K
       go_wp2
       go_ret
       exact⟨rfl,hB⟩
      ·rw[Bool.true_and]
       cases db
       ·rw[Bool.false_and,Bool.false_and]
        clear cT cT'
        clear gB gC gN gT gS A1 A2 A3 A4 A5 B1 B2 B3 B4 B5 rC rC' cQ cR cQ' cR' c1 c2 c3 cH c1' c2' c3' cH' cN cN' cG cG' ic ic'
        go_enter func84,ntmps84
        go_upto_region 1 with fail
        go_name_world w1 hw1
        obtain rfl:W=w1:=hW.out.symm.trans hw1
        clear hw1 hW
        go_upto_region 3 with fail
        try simp only[Act.put]
        refine wp_region_list ?_
        refine wpList_step fun K hK=>?_
        go_simp
        refine hK _ _ ?_
        clear hK K
        refine wpList_load_mid rfl 43 _ rfl _ _ rfl u _ rV underlying43 rfl ix ?_
        refine wpList_step fun K hK=>?_
        go_simp
        refine hK _ _ ?_
        clear hK K
        refine wpList_load_mid rfl 43 _ rfl _ _ rfl u' _ rV' underlying43 rfl iy ?_
        refine wpList_step fun K hK=>?_
        go_simp
        try rw[hq]
        try go_simp
        refine hK _ _ ?_
        clear hK K
        refine wpList_step fun K hK=>?_
        go_simp
        refine hK _ _ ?_
        clear hK K
        refine wpList_step fun K hK=>?_
        go_simp
        refine hK _ _ ?_
        clear hK K
        refine zQ (by rfl) 41 _ rfl _ _ rfl ud _ rD underlying41 rfl id ?_
        refine wpList_step fun K hK=>?_
        go_simp
        refine hK _ _ ?_
        clear hK K
        refine zQ (by rfl) 41 _ rfl _ _ rfl ud' _ rD' underlying41 rfl id' ?_
        refine wpList_step fun K hK=>?_
        go_simp
        try rw[hq2]
        try go_simp
        refine hK _ _ ?_
        clear hK K
        refine wpList_step fun K hK=>?_
        go_simp
        refine hK _ _ ?_
        clear hK K
        refine wpList_step fun K hK=>?_
        go_simp
        refine hK _ _ ?_
        clear hK K
        refine wpList_step fun K hK=>?_
        go_simp
        refine hK _ _ ?_
        clear hK K
        refine wpList_step fun K hK=>?_
        go_simp
        refine hK _ _ ?_
        clear hK K
        refine wpList_step fun K hK=>?_
        go_simp
        refine hK _ _ ?_
        clear hK K
        refine wpList_step fun K hK=>?_
        go_simp
        refine hK _ _ ?_
        clear hK K
        refine wpList_step fun K hK=>?_
        go_simp
        refine hK _ _ ?_
        clear hK K
        refine wpList_step fun K hK=>?_
        go_simp
        refine hK _ _ ?_
        clear hK K
        refine wpList_step fun K hK=>?_
        go_simp
        refine hK _ _ ?_
        clear hK K
        go_wp2
        go_ret
        exact⟨rfl,hB⟩
       ·rw[Bool.true_and]
        by_cases h_st:st.toList=st'.toList
        rotate_left
        ·rw[show(st.toList==st'.toList)=false from beq_eq_false_iff_ne.2 h_st,Bool.false_and]
         have hst:(st.toList !=st'.toList)=true:=bne_iff_ne.2 h_st
         clear h_st
         clear gB gC gN gT gS A1 A2 A3 A4 A5 B1 B2 B3 B4 B5 rC rC' cQ cR cQ' cR' c1 c2 c3 cH c1' c2' c3' cH' cN cN' cG cG' ic ic'
         go_enter func84,ntmps84
         go_upto_region 1 with fail
         go_name_world w1 hw1
         obtain rfl:W=w1:=hW.out.symm.trans hw1
         clear hw1 hW
         go_upto_region 3 with fail
         try simp only[Act.put]
         refine wp_region_list ?_
         refine wpList_step fun K hK=>?_
         go_simp
         refine hK _ _ ?_
         clear hK K
         refine wpList_load_mid rfl 43 _ rfl _ _ rfl u _ rV underlying43 rfl ix ?_
         refine wpList_step fun K hK=>?_
         go_simp
         refine hK _ _ ?_
         clear hK K
         refine wpList_load_mid rfl 43 _ rfl _ _ rfl u' _ rV' underlying43 rfl iy ?_
         refine wpList_step fun K hK=>?_
         go_simp
         try rw[hq]
         try go_simp
         refine hK _ _ ?_
         clear hK K
         refine wpList_step fun K hK=>?_
         go_simp
         refine hK _ _ ?_
         clear hK K
         refine wpList_step fun K hK=>?_
         go_simp
         refine hK _ _ ?_
         clear hK K
         refine zQ (by rfl) 41 _ rfl _ _ rfl ud _ rD underlying41 rfl id ?_
         refine wpList_step fun K hK=>?_
         go_simp
         refine hK _ _ ?_
         clear hK K
         refine zQ (by rfl) 41 _ rfl _ _ rfl ud' _ rD' underlying41 rfl id' ?_
         refine wpList_step fun K hK=>?_
         go_simp
         try rw[hq2]
         try go_simp
         refine hK _ _ ?_
         clear hK K
         refine wpList_step fun K hK=>?_
         go_simp
         refine hK _ _ ?_
         clear hK K
         refine wpList_step fun K hK=>?_
         go_simp
         refine hK _ _ ?_
         clear hK K
         refine wpList_step fun K hK=>?_
         go_simp
         refine hK _ _ ?_
         clear hK K
         refine wpList_step fun K hK=>?_
         go_simp
         refine hK _ _ ?_
         clear hK K
         refine wpList_step fun K hK=>?_
         go_simp
         refine hK _ _ ?_
         clear hK K
         refine wpList_step fun K hK=>?_
         go_simp
         refine hK _ _ ?_
         clear hK K
         refine zcv (by rfl) _ _ _ _ rfl st st' rfl rfl true hst ?_
         refine wpList_step fun K hK=>?_
         go_simp
         refine hK _ _ ?_
         clear hK K
         refine wpList_step fun K hK=>?_
         go_simp
         refine hK _ _ ?_
         clear hK K
         go_wp2
         go_ret
         exact⟨rfl,hB⟩
        ·rw[show(st.toList==st'.toList)=true from beq_iff_eq.2 h_st,Bool.true_and]
         have hst:(st.toList !=st'.toList)=false:=by rw[h_st];simp
         clear h_st
         go_enter func84,ntmps84
         go_upto_region 1 with fail
         go_name_world w1 hw1
         obtain rfl:W=w1:=hW.out.symm.trans hw1
         clear hw1 hW
         go_upto_region 3 with fail
         try simp only[Act.put]
         refine wp_region_list ?_
         refine wpList_step fun K hK=>?_
         go_simp
         refine hK _ _ ?_
         clear hK K
         refine wpList_load_mid rfl 43 _ rfl _ _ rfl u _ rV underlying43 rfl ix ?_
         refine wpList_step fun K hK=>?_
         go_simp
         refine hK _ _ ?_
         clear hK K
         refine wpList_load_mid rfl 43 _ rfl _ _ rfl u' _ rV' underlying43 rfl iy ?_
         refine wpList_step fun K hK=>?_
         go_simp
         try rw[hq]
         try go_simp
         refine hK _ _ ?_
         clear hK K
         refine wpList_step fun K hK=>?_
         go_simp
         refine hK _ _ ?_
         clear hK K
         refine wpList_step fun K hK=>?_
         go_simp
         refine hK _ _ ?_
         clear hK K
         refine zQ (by rfl) 41 _ rfl _ _ rfl ud _ rD underlying41 rfl id ?_
         refine wpList_step fun K hK=>?_
         go_simp
         refine hK _ _ ?_
         clear hK K
         refine zQ (by rfl) 41 _ rfl _ _ rfl ud' _ rD' underlying41 rfl id' ?_
         refine wpList_step fun K hK=>?_
         go_simp
         try rw[hq2]
         try go_simp
         refine hK _ _ ?_
         clear hK K
         refine wpList_step fun K hK=>?_
         go_simp
         refine hK _ _ ?_
         clear hK K
         refine wpList_step fun K hK=>?_
         go_simp
         refine hK _ _ ?_
         clear hK K
         refine wpList_step fun K hK=>?_
         go_simp
         refine hK _ _ ?_
         clear hK K
         refine wpList_step fun K hK=>?_
         go_simp
         refine hK _ _ ?_
         clear hK K
         refine wpList_step fun K hK=>?_
         go_simp
         refine hK _ _ ?_
         clear hK K
         refine wpList_step fun K hK=>?_
         go_simp
         refine hK _ _ ?_
         clear hK K
         refine zcv (by rfl) _ _ _ _ rfl st st' rfl rfl false hst ?_
         refine wpList_step fun K hK=>?_
         go_simp
         refine hK _ _ ?_
         clear hK K
         refine wpList_step fun K hK=>?_
         go_simp
         refine hK _ _ ?_
         clear hK K
         go_upto_region 5 with fail
         clear cK cE cL cV cS cK' cE' cL' cV' cS' rV rV' rD rD' cT cT' hq hq2 hst ix iy id id'
         have G1:=gB W A1 B1
         go_wp2_with fail
         refine G1.mono ?_
         rintro e2 w2 ⟨rfl,hb2⟩
         have up:=fun i v (h:W.cell? ⟨w.heap.size,i,none⟩=some v)=>(hb2.cell (p:=⟨w.heap.size,i,none⟩) (show w.heap.size<W.heap.size by omega)).trans h
         replace c1:=up _ _ c1
         replace c2:=up _ _ c2
         replace c3:=up _ _ c3
         replace cH:=up _ _ cH
         replace cN:=up _ _ cN
         replace cG:=up _ _ cG
         replace rC:=zd rC hb2 (by omega)
         clear up
         have up':=fun i v (h:W.cell? ⟨w.heap.size+1,i,none⟩=some v)=>(hb2.cell (p:=⟨w.heap.size+1,i,none⟩) (show w.heap.size+1<W.heap.size by omega)).trans h
         replace c1':=up' _ _ c1'
         replace c2':=up' _ _ c2'
         replace c3':=up' _ _ c3'
         replace cH':=up' _ _ cH'
         replace cN':=up' _ _ cN'
         replace cG':=up' _ _ cG'
         replace rC':=zd rC' hb2 (by omega)
         clear up'
         have hs2:=Nat.le_trans hs hb2.size
         have hB2:=hB.trans (hb2.mono (by omega))
         have G2:=gC w2 (A2.below hb2) (B2.below hb2)
         replace A3:=A3.below hb2
         replace B3:=B3.below hb2
         replace A4:=A4.below hb2
         replace B4:=B4.below hb2
         replace A5:=A5.below hb2
         replace B5:=B5.below hb2
         clear cQ cR cQ' cR' hb2 hs hB G1 gB gC A1 B1 A2 B2
         cases b1
         ·clear gN gT gS A3 A4 A5 B3 B4 B5 G2
          go_wp2
          go_ret
          exact⟨rfl,hB2⟩
         ·go_wp2_with fail
          refine G2.mono ?_
          rintro e3 w3 ⟨rfl,hb3⟩
          have up:=fun i v (h:w2.cell? ⟨w.heap.size,i,none⟩=some v)=>(hb3.cell (p:=⟨w.heap.size,i,none⟩) (show w.heap.size<w2.heap.size by omega)).trans h
          replace cN:=up _ _ cN
          replace cG:=up _ _ cG
          replace rC:=zd rC hb3 (by omega)
          clear up
          have up':=fun i v (h:w2.cell? ⟨w.heap.size+1,i,none⟩=some v)=>(hb3.cell (p:=⟨w.heap.size+1,i,none⟩) (show w.heap.size+1<w2.heap.size by omega)).trans h
          replace cN':=up' _ _ cN'
          replace cG':=up' _ _ cG'
          replace rC':=zd rC' hb3 (by omega)
          clear up'
          have hs3:=Nat.le_trans hs2 hb3.size
          have hB3:=hB2.trans (hb3.mono (by omega))
          have G3:=gN w3 (A3.below hb3) (B3.below hb3)
          replace A4:=A4.below hb3
          replace B4:=B4.below hb3
          replace A5:=A5.below hb3
          replace B5:=B5.below hb3
          clear hb3 hB2 hs2 G2 gN A3 B3 c1 c2 c3 cH c1' c2' c3' cH'
          cases b2
          ·clear G3 gT gS A4 A5 B4 B5
           go_wp2
           go_ret
           exact⟨rfl,hB3⟩
          ·go_wp2_with fail
           refine G3.mono ?_
           rintro e4 w4 ⟨rfl,hb4⟩
           have up:=fun i v (h:w3.cell? ⟨w.heap.size,i,none⟩=some v)=>(hb4.cell (p:=⟨w.heap.size,i,none⟩) (show w.heap.size<w3.heap.size by omega)).trans h
           replace cG:=up _ _ cG
           replace rC:=zd rC hb4 (by omega)
           clear up
           have up':=fun i v (h:w3.cell? ⟨w.heap.size+1,i,none⟩=some v)=>(hb4.cell (p:=⟨w.heap.size+1,i,none⟩) (show w.heap.size+1<w3.heap.size by omega)).trans h
           replace cG':=up' _ _ cG'
           replace rC':=zd rC' hb4 (by omega)
           clear up'
           have hs4:=Nat.le_trans hs3 hb4.size
           have hB4:=hB3.trans (hb4.mono (by omega))
           have G4:=gT w4 (A4.below hb4) (B4.below hb4)
           replace A5:=A5.below hb4
           replace B5:=B5.below hb4
           clear hb4 hB3 hs3 G3 gT A4 B4 cN cN'
           cases b3
           ·clear G4 gS A5 B5
            go_wp2
            go_ret
            exact⟨rfl,hB4⟩
           ·go_wp2_with (first|(refine zQ (by rfl) 50 _ rfl _ _ rfl uc _ rC underlying50 rfl ic ?_)|(refine zQ (by rfl) 50 _ rfl _ _ rfl uc' _ rC' underlying50 rfl ic' ?_))
            refine G4.mono ?_
            rintro e5 w5 ⟨rfl,hb5⟩
            have up:=fun i v (h:w4.cell? ⟨w.heap.size,i,none⟩=some v)=>(hb5.cell (p:=⟨w.heap.size,i,none⟩) (show w.heap.size<w4.heap.size by omega)).trans h
            replace cG:=up _ _ cG
            clear up
            have up':=fun i v (h:w4.cell? ⟨w.heap.size+1,i,none⟩=some v)=>(hb5.cell (p:=⟨w.heap.size+1,i,none⟩) (show w.heap.size+1<w4.heap.size by omega)).trans h
            replace cG':=up' _ _ cG'
            clear up'
            have hB5:=hB4.trans (hb5.mono (by omega))
            have G5:=gS w5 (A5.below hb5) (B5.below hb5)
            clear hb5 hB4 G4 gS A5 B5 rC rC'
            cases b4
            ·clear G5
             go_wp2
             go_ret
             exact⟨rfl,hB5⟩
            ·go_wp2_with fail
             refine G5.mono ?_
             rintro e6 w6 ⟨rfl,hb6⟩
             have hB6:=hB5.trans (hb6.mono hB5.size)
             clear hb6
             cases b5
             ·go_wp2
              go_ret
              exact⟨rfl,hB6⟩
             ·go_wp2
              go_ret
              exact⟨rfl,hB6⟩
set_option linter.unusedVariables false
set_option linter.unusedSimpArgs false
def Mg.body (m:Mg):List Int:=
 if m.k=1 then[m.e,m.s].flatMap putL++batL m.q (m.rs.xs.map BRq.of)
 else if m.k=2 then vtL m.vt
 else if m.k=3 then[m.ce,m.cl,m.cv].flatMap putL++hdsL m.he.xs
 else if m.k=4 then[m.e,m.l,m.v].flatMap putL++evsL m.ne.xs
 else if m.k=5 then putL m.e++m.d
 else if m.k=6 then[m.e,m.s].flatMap putL
 else if m.k=7 then batL m.q (m.rs.xs.map BRq.of)++ctL m.ct m.cs.xs
 else textL m.st++sgsL m.sg.xs
def Mg.bytes (m:Mg):List Int:=putL m.k++m.body
structure Mg.Fine (m:Mg):Prop where
 e:m.e≤9223372036854775807
 l:m.l≤9223372036854775807
 v:m.v≤9223372036854775807
 s:m.s≤9223372036854775807
 ce:m.ce≤9223372036854775807
 cl:m.cl≤9223372036854775807
 cv:m.cv≤9223372036854775807
 rn:m.rs.xs.length≤200
 rs:∀r∈m.rs.xs,r.s.size≤4000
 hn:m.he.xs.length≤1000
 he:∀g∈m.he.xs,g.sg.xs.length≤1000∧g.rs.xs.length≤200∧∀r∈g.rs.xs,r.s.size≤4000
 nn:m.ne.xs.length≤1000
 ne:∀g∈m.ne.xs,g.s.size≤1000000
 cn:m.cs.xs.length≤1000
 gn:m.sg.xs.length≤1000
 st:m.st.size≤1000000
 all:m.bytes.length≤40000
theorem zie (X:Nat) (v:Value) (zs:List Int) (m:Mg) (w0 w:World) (om:m.ok) (am:m.At w0) (hf:m.Fine) (hk:m.k=1) (hb:Below w0.heap.size w0 w) (hX:w0.heap.size≤X) (h:WrAt w X v zs false) (hz:zs.length≤100000):Calls prog 58 #[.pointer (some ⟨X,0,none⟩),.agg m.ms.cells.toArray] w fun e w'=>WrOn X v zs m.bytes w e w':=by
 have hall:=hf.all
 have hbd:m.bytes=putL 1++m.body:=by unfold Mg.bytes;rw[hk]
 rw[hbd,List.length_append]at hall
 rw[hbd]
 clear hbd
 have hat:∀{w':World} {b:Nat},w'.rangeAt b 0 m.ms.cells→m.ms.at w' b:=fun hr=>om.ms.at hr
 have hkk:m.ms.k=1:=hk
 have hbody:m.body=[m.e,m.s].flatMap putL++batL m.q (m.rs.xs.map BRq.of):=by unfold Mg.body;rw[hk];rfl
 rw[hbody,List.length_append]at hall
 obtain⟨q,hq⟩:∃q,Hid (m.ms.cells=q):=⟨_,hide rfl⟩
 rw[hq.out]
 simp only[hq.out]at hat
 clear hq
 obtain⟨hB1,hR1,hs1⟩:=zq w q 52
 go_enter func58,ntmps58
 go_upto_region 1 with fail
 obtain⟨w1,hw1⟩:∃W,w.alloc (.cells q.toArray 52)=W:=⟨_,rfl⟩
 rw[hw1]at hB1 hR1 hs1 ⊢
 have h1:=h.below hB1
 have hXl:=h.lt
 clear hw1
 have MA:=hat hR1
 have ck:=MA.k
 rw[hkk]at ck
 refine pl_b ?_
 refine pl_a 4 ?_
 refine pl_a 5 ?_
 refine pl_v 6 (.int .i64 1) (zg rfl rfl ck underlying3 rfl) ?_
 refine pl_r 7 (.slice (some ⟨w1.heap.size,0,none⟩) 1 1) (w1.alloc (.cells #[.int .i64 1] 3)) (zlB rfl rfl (zi7 1 _)) ?_
 refine pl_c 8 ?_
 refine(zgf X v zs [1] _ 1 w1 h1 rfl rfl (by omega) (zgd (by decide)) (by simp;omega)).mono ?_
 rintro _ w2 ⟨v2,rfl,hW2,hO2,hr2⟩
 refine⟨_,rfl,?_⟩
 simp only[nz]
 refine za ?_
 have hR2:=zeK h hs1 hO2 hR1
 have T:=zaP (Off.of_below hB1) (zfz w v) hO2 hr2
 have hb2:=hb.trans (zeJ h hX T.1)
 have hW2:WrAt w2 X v2 (zs++putL 1) false:=by simpa using hW2
 have MA:=hat hR2
 have ck:=MA.k
 rw[hkk]at ck
 have HF0:∀{v':Value} {e':Ending} {w' wz:World},Off (WrF X v) w wz→RowOn w v v'→WrOn X v' (zs++putL 1++[m.e,m.s].flatMap putL) (batL m.q (m.rs.xs.map BRq.of)) wz e' w'→WrOn X v zs (putL 1++m.body) w e' w':=fun o r q=>by
  rw[hbody,←List.append_assoc]
  rw[List.append_assoc zs]at q
  exact WrOn.next o r q
 have cN:=zgf X v2 (zs++putL 1) [m.e,m.s] #[.int .i64 m.e,.int .i64 m.s] 2 w2 hW2 rfl rfl (by omega) (zis hf.e hf.s) (by rw[List.length_append];omega)
 have cB:=fun v' w' (hb':Below w0.heap.size w0 w') (h':WrAt w' X v' (zs++putL 1++[m.e,m.s].flatMap putL) false)=>zig X v' (zs++putL 1++[m.e,m.s].flatMap putL) m.q m.rs w' (am.rs.below hb') h' hf.rn hf.rs (by simp only[List.length_append];omega)
 have de:=MA.e
 have ds:=MA.s
 go_upto_region 4 with fail
 refine pl_b ?_
 refine pl_a 13 ?_
 refine pl_a 14 ?_
 refine pl_v 15 (.int .i64 m.e) (zg rfl rfl de underlying3 rfl) ?_
 refine pl_a 16 ?_
 refine pl_v 17 (.int .i64 m.s) (zg rfl rfl ds underlying3 rfl) ?_
 refine pl_r 18 (.slice (some ⟨w2.heap.size,0,none⟩) 2 2) (w2.alloc (.cells #[.int .i64 m.e,.int .i64 m.s] 3)) (zlA rfl rfl rfl (zi6 m.e m.s _)) ?_
 refine pl_c 19 ?_
 refine(cN).mono ?_
 rintro _ w3 ⟨v3,rfl,hW3,hO3,hr3⟩
 refine⟨_,rfl,?_⟩
 simp only[nz]
 refine za ?_
 have T12:=zaP hO2 hr2 hO3 hr3
 have hR3:=zeK h hs1 T12.1 hR1
 have T:=zaP T.1 T.2 hO3 hr3
 have hb3:=hb.trans (zeJ h hX T.1)
 have MA:=hat hR3
 have cB3:=cB v3 w3 hb3 hW3
 have rb:w3.rangeAt w.heap.size 5 [.bool m.q,m.rs.val]:=fun j u hj=>by
  rcases j with _|_|j
  ·cases hj;exact MA.q
  ·cases hj;exact MA.rs
  ·cases hj
 clear cB cN
 go_upto_region 5 with fail
 refine pl_b ?_
 refine pl_a 20 ?_
 refine pl_a 21 ?_
 refine pl_v 22 (.agg [.bool m.q,m.rs.val].toArray) (zp rfl rfl rb underlying39 rfl iszBa) ?_
 refine pl_c 23 ?_
 refine(cB3).mono ?_
 rintro _ w4 hfin
 have HF:=hide (HF0 T.1 T.2 hfin)
 obtain⟨v9,rfl,g1,g2,g3⟩:=hfin
 refine⟨_,rfl,?_⟩
 simp only[nz]
 refine za ?_
 go_wp2_with fail
 go_end0
 exact HF.out
def FOn (zs bs:List Int) (w:World) (e:Ending) (w':World):Prop:=∃v,e=.returned v∧Mine w' w.heap.size v (zs++bs)∧Below w.heap.size w w'
theorem zhW (a:Option Addr) (cap:Nat) (rs:List Sg) (a':Option Addr) (cap':Nat) (rs':List Sg) (w:World) (h:RowsAt SgE w a rs) (h':RowsAt SgE w a' rs'):
  Calls prog 37 #[.slice a rs.length cap,.slice a' rs'.length cap'] w fun e w'=>((e=.returned (.bool true)∧rs=rs')∨(e=.returned (.bool false)∧¬rs=rs'))∧Below w.heap.size w w':=by
 have hml:=h.1
 have hml':=h'.1
 unfold maxLen at hml hml'
 have hall:=h.2.1
 have hall':=h'.2.1
 by_cases hlen:rs.length=rs'.length
 rotate_left
 ·have e0:((rs.length:Int)==rs'.length)=false:=by simp;omega
  have HL:=hide hlen
  clear hlen
  go_enter func37,ntmps37
  go_wp2
  go_ret
  exact⟨.inr ⟨rfl,fun hh=>HL.out (by rw[hh])⟩,Below.refl _ _⟩
 ·have e0:((rs.length:Int)==rs'.length)=true:=by simp;omega
  have HL:=hide hlen
  clear hlen
  go_enter func37,ntmps37
  go_wp2
  go_loopw [5] (fun iv wr=>∃k:Nat,k≤rs.length∧iv=.int .i64 (k:Int)∧Hid (∀j (hj:j<rs.length) (hj':j<rs'.length),j<k→rs[j]=rs'[j])∧Below w.heap.size w wr) (fun iv _=>rs.length - (intOf iv).toNat)
  case atStart=>exact⟨0,by omega,rfl,hide (fun j _ _ hj=>absurd hj (by omega)),Below.refl _ _⟩
  case round=>
   clear e0
   obtain⟨k,hk,rfl,HM,hB⟩:=hrel
   by_cases hlt:k<rs.length
   ·have k1:(k:Int)<rs.length:=by omega
    have hlt':k<rs'.length:=by have:=HL.out;omega
    have k1':(k:Int)<rs'.length:=by omega
    obtain⟨b,off,rfl,hb,hre⟩:=(h.below hB).elem k hlt
    have hre:wr.rangeAt b (off+k*17) rs[k].cells:=hre
    obtain⟨b',off',rfl,hb',hre'⟩:=(h'.below hB).elem k hlt'
    have hre':wr.rangeAt b' (off'+k*17) rs'[k].cells:=hre'
    obtain⟨r,hr⟩:∃r,Hid (rs[k]=r):=⟨_,hide rfl⟩
    obtain⟨r',hr'⟩:∃r',Hid (rs'[k]=r'):=⟨_,hide rfl⟩
    have hok:r.ok:=by rw[←hr.out];exact hall _ (List.getElem_mem hlt)
    have hok':r'.ok:=by rw[←hr'.out];exact hall' _ (List.getElem_mem hlt')
    rw[hr.out]at hre
    rw[hr'.out]at hre'
    have HM':Hid (r=r'→∀j (hj:j<rs.length) (hj':j<rs'.length),j<k+1→rs[j]=rs'[j]):=hide (fun hp j hj hj' hjk=>by
     by_cases e:j=k
     ·subst e;rw[hr.out,hr'.out];exact hp
     ·exact HM.out j hj hj' (by omega))
    have HN':Hid (r≠r'→rs≠rs'):=hide (fun hp he=>by
     apply hp
     rw[←hr.out,←hr'.out]
     subst he
     rfl)
    clear hr hr' HM
    have hiu:(prog.info? 133).map (·.size)=some r.cells.length:=by rw[show r.cells.length=17 from SgE.len r hok];kernel_rfl
    have hiu':(prog.info? 133).map (·.size)=some r'.cells.length:=by rw[show r'.cells.length=17 from SgE.len r' hok'];kernel_rfl
    have hne:=fun w0=>Sg.eq10 r r' hok hok' w0
    obtain⟨u,hu⟩:∃u,Hid (r.cells=u):=⟨_,hide rfl⟩
    obtain⟨u',hu'⟩:∃u',Hid (r'.cells=u'):=⟨_,hide rfl⟩
    rw[hu.out]at hre hiu
    rw[hu'.out]at hre' hiu'
    simp only[hu.out,hu'.out]at hne
    clear hu hu' hok hok'
    by_cases hrr:r=r'
    ·have e1:Sg.B r r'=true:=Sg.B_iff.2 hrr
     rw[e1]at hne
     have HR:=hide hrr
     clear hrr e1
     go_upto_region 6 with fail
     obtain⟨w5,hw5⟩:∃w5,wr.drew=w5:=⟨_,rfl⟩
     have hB5:Below w.heap.size w w5:=by rw[←hw5];exact hB.drew
     have hre5:w5.rangeAt b (off+k*17) u:=by rw[←hw5];exact(World.rangeAt_drew _ _ _ _).2 hre
     have hre5':w5.rangeAt b' (off'+k*17) u':=by rw[←hw5];exact(World.rangeAt_drew _ _ _ _).2 hre'
     have hb5:b<w5.heap.size:=by rw[←hw5];exact hb
     have hb5':b'<w5.heap.size:=by rw[←hw5];exact hb'
     refine zC (S:=(Below w5.heap.size w5)) 9 rfl (by kernel_rfl) ?_
     rw[hw5]
     clear hw5 hB hre hre' hb hb'
     have hS:(Below w5.heap.size w5) w5:=Below.refl _ _
     refine hs_a 0 17 hS ?_
     refine hs_a 1 18 hS ?_
     refine hs_a 2 19 hS ?_
     refine hs_v 3 20 (.agg u.toArray) rfl (fun w' hw=>zH rfl rfl (run_loadVar_mid (P:=prog) w' b (off+k*17) 133 u _ (zd hre5 hw hb5) underlying133 rfl hiu)) hS ?_
     refine hs_a 4 21 hS ?_
     refine hs_a 5 22 hS ?_
     refine hs_a 6 23 hS ?_
     refine hs_v 7 24 (.agg u'.toArray) rfl (fun w' hw=>zH rfl rfl (run_loadVar_mid (P:=prog) w' b' (off'+k*17) 133 u' _ (zd hre5' hw hb5') underlying133 rfl hiu')) hS ?_
     refine hs_v 8 25 (.bool false) rfl (fun w' hw=>by have hc:=hne w';go_simp) hS ?_
     refine zv (by kernel_rfl) ?_
     go_wp2
     go_roundw
     case rel=>exact⟨k+1,by omega,by go_num,hide (HM'.out HR.out),hB5⟩
     case measure=>simp[intOf];omega
    ·have e1:Sg.B r r'=false:=by
      cases hx:Sg.B r r'
      ·rfl
      ·exact absurd (Sg.B_iff.1 hx) hrr
     rw[e1]at hne
     have HR:=hide hrr
     clear hrr e1
     go_upto_region 6 with fail
     obtain⟨w5,hw5⟩:∃w5,wr.drew=w5:=⟨_,rfl⟩
     have hB5:Below w.heap.size w w5:=by rw[←hw5];exact hB.drew
     have hre5:w5.rangeAt b (off+k*17) u:=by rw[←hw5];exact(World.rangeAt_drew _ _ _ _).2 hre
     have hre5':w5.rangeAt b' (off'+k*17) u':=by rw[←hw5];exact(World.rangeAt_drew _ _ _ _).2 hre'
     have hb5:b<w5.heap.size:=by rw[←hw5];exact hb
     have hb5':b'<w5.heap.size:=by rw[←hw5];exact hb'
     refine zC (S:=(Below w5.heap.size w5)) 9 rfl (by kernel_rfl) ?_
     rw[hw5]
     clear hw5 hB hre hre' hb hb'
     have hS:(Below w5.heap.size w5) w5:=Below.refl _ _
     refine hs_a 0 17 hS ?_
     refine hs_a 1 18 hS ?_
     refine hs_a 2 19 hS ?_
     refine hs_v 3 20 (.agg u.toArray) rfl (fun w' hw=>zH rfl rfl (run_loadVar_mid (P:=prog) w' b (off+k*17) 133 u _ (zd hre5 hw hb5) underlying133 rfl hiu)) hS ?_
     refine hs_a 4 21 hS ?_
     refine hs_a 5 22 hS ?_
     refine hs_a 6 23 hS ?_
     refine hs_v 7 24 (.agg u'.toArray) rfl (fun w' hw=>zH rfl rfl (run_loadVar_mid (P:=prog) w' b' (off'+k*17) 133 u' _ (zd hre5' hw hb5') underlying133 rfl hiu')) hS ?_
     refine hs_v 8 25 (.bool true) rfl (fun w' hw=>by have hc:=hne w';go_simp) hS ?_
     refine zv (by kernel_rfl) ?_
     go_wp2
     go_ret
     exact⟨.inr ⟨rfl,fun hh=>HN'.out HR.out hh⟩,hB5⟩
   ·have k1:¬(k:Int)<rs.length:=by omega
    have HE:Hid (rs=rs'):=hide (List.ext_getElem HL.out (fun j hj hj'=>HM.out j hj hj' (by omega)))
    clear HM
    go_wp2
    go_ret
    exact⟨.inl ⟨rfl,HE.out⟩,hB⟩
theorem zeE (a:Option Addr) (cap:Nat) (rs:List Sg) (a':Option Addr) (cap':Nat) (rs':List Sg) (w:World) (h:RowsAt SgE w a rs) (h':RowsAt SgE w a' rs'):
  Calls prog 37 #[.slice a rs.length cap,.slice a' rs'.length cap'] w fun e w'=>e=.returned (.bool (sameL Sg.B rs rs'))∧Below w.heap.size w w':=by
 refine(zhW a cap rs a' cap' rs' w h h').mono ?_
 rintro e w1 ⟨hc,hb⟩
 have I:=zaR (fun x y=>Sg.B_iff (x:=x) (y:=y)) rs rs'
 refine⟨?_,hb⟩
 rcases hc with⟨rfl,he⟩|⟨rfl,he⟩
 ·rw[I.2 he]
 ·cases hq:sameL Sg.B rs rs'
  ·rfl
  ·exact absurd (I.1 hq) he
theorem zhY (a:Option Addr) (cap:Nat) (rs:List Ev) (a':Option Addr) (cap':Nat) (rs':List Ev) (w:World) (h:RowsAt EvE w a rs) (h':RowsAt EvE w a' rs'):
  Calls prog 35 #[.slice a rs.length cap,.slice a' rs'.length cap'] w fun e w'=>((e=.returned (.bool true)∧rs=rs')∨(e=.returned (.bool false)∧¬rs=rs'))∧Below w.heap.size w w':=by
 have hml:=h.1
 have hml':=h'.1
 unfold maxLen at hml hml'
 have hall:=h.2.1
 have hall':=h'.2.1
 by_cases hlen:rs.length=rs'.length
 rotate_left
 ·have e0:((rs.length:Int)==rs'.length)=false:=by simp;omega
  have HL:=hide hlen
  clear hlen
  go_enter func35,ntmps35
  go_wp2
  go_ret
  exact⟨.inr ⟨rfl,fun hh=>HL.out (by rw[hh])⟩,Below.refl _ _⟩
 ·have e0:((rs.length:Int)==rs'.length)=true:=by simp;omega
  have HL:=hide hlen
  clear hlen
  go_enter func35,ntmps35
  go_wp2
  go_loopw [5] (fun iv wr=>∃k:Nat,k≤rs.length∧iv=.int .i64 (k:Int)∧Hid (∀j (hj:j<rs.length) (hj':j<rs'.length),j<k→rs[j]=rs'[j])∧Below w.heap.size w wr) (fun iv _=>rs.length - (intOf iv).toNat)
  case atStart=>exact⟨0,by omega,rfl,hide (fun j _ _ hj=>absurd hj (by omega)),Below.refl _ _⟩
  case round=>
   clear e0
   obtain⟨k,hk,rfl,HM,hB⟩:=hrel
   by_cases hlt:k<rs.length
   ·have k1:(k:Int)<rs.length:=by omega
    have hlt':k<rs'.length:=by have:=HL.out;omega
    have k1':(k:Int)<rs'.length:=by omega
    obtain⟨b,off,rfl,hb,hre⟩:=(h.below hB).elem k hlt
    have hre:wr.rangeAt b (off+k*18) rs[k].cells:=hre
    obtain⟨b',off',rfl,hb',hre'⟩:=(h'.below hB).elem k hlt'
    have hre':wr.rangeAt b' (off'+k*18) rs'[k].cells:=hre'
    obtain⟨r,hr⟩:∃r,Hid (rs[k]=r):=⟨_,hide rfl⟩
    obtain⟨r',hr'⟩:∃r',Hid (rs'[k]=r'):=⟨_,hide rfl⟩
    have hok:r.ok:=by rw[←hr.out];exact hall _ (List.getElem_mem hlt)
    have hok':r'.ok:=by rw[←hr'.out];exact hall' _ (List.getElem_mem hlt')
    rw[hr.out]at hre
    rw[hr'.out]at hre'
    have HM':Hid (r=r'→∀j (hj:j<rs.length) (hj':j<rs'.length),j<k+1→rs[j]=rs'[j]):=hide (fun hp j hj hj' hjk=>by
     by_cases e:j=k
     ·subst e;rw[hr.out,hr'.out];exact hp
     ·exact HM.out j hj hj' (by omega))
    have HN':Hid (r≠r'→rs≠rs'):=hide (fun hp he=>by
     apply hp
     rw[←hr.out,←hr'.out]
     subst he
     rfl)
    clear hr hr' HM
    have hiu:(prog.info? 25).map (·.size)=some r.cells.length:=by rw[show r.cells.length=18 from EvE.len r hok];kernel_rfl
    have hiu':(prog.info? 25).map (·.size)=some r'.cells.length:=by rw[show r'.cells.length=18 from EvE.len r' hok'];kernel_rfl
    have hne:=fun w0=>Ev.eq10 r r' hok hok' w0
    obtain⟨u,hu⟩:∃u,Hid (r.cells=u):=⟨_,hide rfl⟩
    obtain⟨u',hu'⟩:∃u',Hid (r'.cells=u'):=⟨_,hide rfl⟩
    rw[hu.out]at hre hiu
    rw[hu'.out]at hre' hiu'
    simp only[hu.out,hu'.out]at hne
    clear hu hu' hok hok'
    by_cases hrr:r=r'
    ·have e1:Ev.B r r'=true:=Ev.B_iff.2 hrr
     rw[e1]at hne
     have HR:=hide hrr
     clear hrr e1
     go_upto_region 6 with fail
     obtain⟨w5,hw5⟩:∃w5,wr.drew=w5:=⟨_,rfl⟩
     have hB5:Below w.heap.size w w5:=by rw[←hw5];exact hB.drew
     have hre5:w5.rangeAt b (off+k*18) u:=by rw[←hw5];exact(World.rangeAt_drew _ _ _ _).2 hre
     have hre5':w5.rangeAt b' (off'+k*18) u':=by rw[←hw5];exact(World.rangeAt_drew _ _ _ _).2 hre'
     have hb5:b<w5.heap.size:=by rw[←hw5];exact hb
     have hb5':b'<w5.heap.size:=by rw[←hw5];exact hb'
     refine zC (S:=(Below w5.heap.size w5)) 9 rfl (by kernel_rfl) ?_
     rw[hw5]
     clear hw5 hB hre hre' hb hb'
     have hS:(Below w5.heap.size w5) w5:=Below.refl _ _
     refine hs_a 0 17 hS ?_
     refine hs_a 1 18 hS ?_
     refine hs_a 2 19 hS ?_
     refine hs_v 3 20 (.agg u.toArray) rfl (fun w' hw=>zH rfl rfl (run_loadVar_mid (P:=prog) w' b (off+k*18) 25 u _ (zd hre5 hw hb5) underlying25 rfl hiu)) hS ?_
     refine hs_a 4 21 hS ?_
     refine hs_a 5 22 hS ?_
     refine hs_a 6 23 hS ?_
     refine hs_v 7 24 (.agg u'.toArray) rfl (fun w' hw=>zH rfl rfl (run_loadVar_mid (P:=prog) w' b' (off'+k*18) 25 u' _ (zd hre5' hw hb5') underlying25 rfl hiu')) hS ?_
     refine hs_v 8 25 (.bool false) rfl (fun w' hw=>by have hc:=hne w';go_simp) hS ?_
     refine zv (by kernel_rfl) ?_
     go_wp2
     go_roundw
     case rel=>exact⟨k+1,by omega,by go_num,hide (HM'.out HR.out),hB5⟩
     case measure=>simp[intOf];omega
    ·have e1:Ev.B r r'=false:=by
      cases hx:Ev.B r r'
      ·rfl
      ·exact absurd (Ev.B_iff.1 hx) hrr
     rw[e1]at hne
     have HR:=hide hrr
     clear hrr e1
     go_upto_region 6 with fail
     obtain⟨w5,hw5⟩:∃w5,wr.drew=w5:=⟨_,rfl⟩
     have hB5:Below w.heap.size w w5:=by rw[←hw5];exact hB.drew
     have hre5:w5.rangeAt b (off+k*18) u:=by rw[←hw5];exact(World.rangeAt_drew _ _ _ _).2 hre
     have hre5':w5.rangeAt b' (off'+k*18) u':=by rw[←hw5];exact(World.rangeAt_drew _ _ _ _).2 hre'
     have hb5:b<w5.heap.size:=by rw[←hw5];exact hb
     have hb5':b'<w5.heap.size:=by rw[←hw5];exact hb'
     refine zC (S:=(Below w5.heap.size w5)) 9 rfl (by kernel_rfl) ?_
     rw[hw5]
     clear hw5 hB hre hre' hb hb'
     have hS:(Below w5.heap.size w5) w5:=Below.refl _ _
     refine hs_a 0 17 hS ?_
     refine hs_a 1 18 hS ?_
     refine hs_a 2 19 hS ?_
     refine hs_v 3 20 (.agg u.toArray) rfl (fun w' hw=>zH rfl rfl (run_loadVar_mid (P:=prog) w' b (off+k*18) 25 u _ (zd hre5 hw hb5) underlying25 rfl hiu)) hS ?_
     refine hs_a 4 21 hS ?_
     refine hs_a 5 22 hS ?_
     refine hs_a 6 23 hS ?_
     refine hs_v 7 24 (.agg u'.toArray) rfl (fun w' hw=>zH rfl rfl (run_loadVar_mid (P:=prog) w' b' (off'+k*18) 25 u' _ (zd hre5' hw hb5') underlying25 rfl hiu')) hS ?_
     refine hs_v 8 25 (.bool true) rfl (fun w' hw=>by have hc:=hne w';go_simp) hS ?_
     refine zv (by kernel_rfl) ?_
     go_wp2
     go_ret
     exact⟨.inr ⟨rfl,fun hh=>HN'.out HR.out hh⟩,hB5⟩
   ·have k1:¬(k:Int)<rs.length:=by omega
    have HE:Hid (rs=rs'):=hide (List.ext_getElem HL.out (fun j hj hj'=>HM.out j hj hj' (by omega)))
    clear HM
    go_wp2
    go_ret
    exact⟨.inl ⟨rfl,HE.out⟩,hB⟩
theorem zhX (a:Option Addr) (cap:Nat) (rs:List Ev) (a':Option Addr) (cap':Nat) (rs':List Ev) (w:World) (h:RowsAt EvE w a rs) (h':RowsAt EvE w a' rs'):
  Calls prog 35 #[.slice a rs.length cap,.slice a' rs'.length cap'] w fun e w'=>e=.returned (.bool (sameL Ev.B rs rs'))∧Below w.heap.size w w':=by
 refine(zhY a cap rs a' cap' rs' w h h').mono ?_
 rintro e w1 ⟨hc,hb⟩
 have I:=zaR (fun x y=>Ev.B_iff (x:=x) (y:=y)) rs rs'
 refine⟨?_,hb⟩
 rcases hc with⟨rfl,he⟩|⟨rfl,he⟩
 ·rw[I.2 he]
 ·cases hq:sameL Ev.B rs rs'
  ·rfl
  ·exact absurd (I.1 hq) he
theorem zeD (x y:Vt) (s t:Sl Sg) (w:World) (hx:x.ok) (hy:y.ok) (hs:s.At SgE w) (ht:t.At SgE w):Calls prog 36 #[.agg (certL x s).toArray,.agg (certL y t).toArray] w fun e w'=>e=.returned (.bool (certB x s y t))∧Below w.heap.size w w':=by
 obtain⟨hA,hA',hB,hz⟩:=zbM (certL x s) (certL y t) 50 w
 have r1:=zP hA
 have r1':=zP hA'
 have c1:=zZ hA 0 _ rfl
 have c1':=zZ hA' 0 _ rfl
 rw[hx.len]at c1
 rw[hy.len]at c1'
 simp only[Nat.zero_add,Nat.add_zero]at c1 c1'
 have ix:(prog.info? 43).map (·.size)=some x.cells.length:=by rw[hx.len];exact iszV
 have iy:(prog.info? 43).map (·.size)=some y.cells.length:=by rw[hy.len];exact iszV
 have hq:=eqInV x y hx.dl hy.dl
 obtain⟨a,cap,rs⟩:=s
 obtain⟨a',cap',rs'⟩:=t
 have ce:=fun w0 h0 h1=>zeE a cap rs a' cap' rs' w0 h0 h1
 have h1:RowsAt SgE _ a rs:=RowsAt.below hs hB
 have h1':RowsAt SgE _ a' rs':=RowsAt.below ht hB
 have E:certB x ⟨a,cap,rs⟩ y ⟨a',cap',rs'⟩=(vtB x y&&sameL Sg.B rs rs'):=rfl
 rw[E]
 simp only[Sl.val]at c1 c1'
 clear hA hA' hz hx hy E hs ht
 generalize certL x ⟨a,cap,rs⟩=q at *
 generalize certL y ⟨a',cap',rs'⟩=q' at *
 generalize x.cells=u at *
 generalize y.cells=u' at *
 generalize vtB x y=vb at *
 generalize sameL Sg.B rs rs'=sb at *
 cases vb
 ·go_enter func36,ntmps36
  go_upto_region 1 with fail
  go_name_world w1 hw1
  rw[show(w.alloc (.cells q.toArray 50)).alloc (.cells q'.toArray 50)=w1 from hw1]at r1 r1' c1 c1' hB h1 h1'
  clear hw1 ce
  go_wp2_with (first|(refine wpList_load_mid rfl 43 _ rfl _ _ rfl u _ r1 underlying43 rfl ix ?_)|(refine wpList_load_mid rfl 43 _ rfl _ _ rfl u' _ r1' underlying43 rfl iy ?_))
  go_ret
  exact⟨rfl,hB⟩
 ·cases sb
  all_goals
   go_enter func36,ntmps36
   go_upto_region 1 with fail
   go_name_world w1 hw1
   rw[show(w.alloc (.cells q.toArray 50)).alloc (.cells q'.toArray 50)=w1 from hw1]at r1 r1' c1 c1' hB h1 h1'
   clear hw1
   go_wp2_with (first|(refine wpList_load_mid rfl 43 _ rfl _ _ rfl u _ r1 underlying43 rfl ix ?_)|(refine wpList_load_mid rfl 43 _ rfl _ _ rfl u' _ r1' underlying43 rfl iy ?_))
   refine(ce _ h1 h1').mono ?_
   rintro e2 w2 ⟨rfl,hb2⟩
   have hB2:=hB.trans (hb2.mono hB.size)
   clear ce h1 h1' hb2 c1 c1' r1 r1'
   go_wp2
   go_ret
   exact⟨rfl,hB2⟩
theorem zeG (q:Bool) (x:Sl Rq) (q':Bool) (x':Sl Rq) (w:World) (h:x.At RqE w) (h':x'.At RqE w):
    Calls prog 34 #[.agg #[.bool q,x.val],.agg #[.bool q',x'.val]] w fun e w'=>e=.returned (.bool (batB q x q' x'))∧Below w.heap.size w w':=by
  obtain⟨a,cap,rs⟩:=x
  obtain⟨a',cap',rs'⟩:=x'
  have hB0:Below w.heap.size w ((w.alloc (.cells #[.bool q,.slice a rs.length cap] 39)).alloc (.cells #[.bool q',.slice a' rs'.length cap'] 39)):=((Below.refl _ w).alloc (Nat.le_refl _) _).alloc (by simp) _
  obtain⟨hA,hA',_,hz⟩:=zbM [.bool q,.slice a rs.length cap] [.bool q',.slice a' rs'.length cap'] 39 w
  have c0:=hA 0 _ rfl
  have c1:=hA 1 _ rfl
  have c0':=hA' 0 _ rfl
  have c1':=hA' 1 _ rfl
  simp only[Nat.zero_add,Nat.add_zero]at c0 c1 c0' c1'
  have h1:RowsAt RqE _ a rs:=RowsAt.below h hB0
  have h1':RowsAt RqE _ a' rs':=RowsAt.below h' hB0
  have hml:rs.length≤maxLen:=h1.1
  have hml':rs'.length≤maxLen:=h1'.1
  unfold maxLen at hml hml'
  have E:batB q ⟨a,cap,rs⟩ q' ⟨a',cap',rs'⟩=((q==q')&&sameL Rq.B rs rs'):=rfl
  rw[E]
  have hall:=h1.2.1
  have hall':=h1'.2.1
  clear E h h' hA hA'
  simp only[Sl.val]
  obtain⟨W,hW⟩:∃W,Hid ((w.alloc (.cells #[.bool q,.slice a rs.length cap] 39)).alloc (.cells #[.bool q',.slice a' rs'.length cap'] 39)=W):=⟨_,hide rfl⟩
  rw[hW.out]at hB0 h1 h1'
  change World.cell? ((w.alloc (.cells #[.bool q,.slice a rs.length cap] 39)).alloc (.cells #[.bool q',.slice a' rs'.length cap'] 39)) _=_ at c0 c1 c0' c1'
  change w.heap.size+2≤((w.alloc (.cells #[.bool q,.slice a rs.length cap] 39)).alloc (.cells #[.bool q',.slice a' rs'.length cap'] 39)).heap.size at hz
  rw[hW.out]at c0 c1 c0' c1' hz
  have ENTER:True:=trivial
  by_cases hqq:q=q'
  rotate_left
  · have n1:(q==q')=false:=beq_eq_false_iff_ne.2 hqq
    rw[n1,Bool.false_and]
    clear ENTER
    cases q<;>cases q'
    case false.false|true.true=>exact absurd rfl hqq
    all_goals
      clear hqq n1
      go_enter func34,ntmps34
      go_upto_region 1 with fail
      go_name_world w1 hw1
      obtain rfl:W=w1:=hW.out.symm.trans hw1
      clear hw1 hW
      go_wp2
      go_ret
      exact⟨rfl,hB0⟩
  · subst hqq
    rw[show(q==q)=true by simp,Bool.true_and]
    clear ENTER
    by_cases hlen:rs.length=rs'.length
    rotate_left
    · rw[zcF hlen]
      have e0:((rs.length:Int)==rs'.length)=false:=by simp;omega
      clear hlen
      cases q
      all_goals
        go_enter func34,ntmps34
        go_upto_region 1 with fail
        go_name_world w1 hw1
        obtain rfl:W=w1:=hW.out.symm.trans hw1
        clear hw1 hW
        go_wp2
        go_ret
        exact⟨rfl,hB0⟩
    · have e0:((rs.length:Int)==rs'.length)=true:=by simp;omega
      have HL:=hide hlen
      clear hlen
      obtain⟨sb,hsb⟩:∃sb,Hid (sameL Rq.B rs rs'=sb):=⟨_,hide rfl⟩
      rw[hsb.out]
      have I:=hide (zaR (fun x y=>Rq.B_iff (x:=x) (y:=y)) rs rs')
      cases q
      all_goals
        go_enter func34,ntmps34
        go_upto_region 1 with fail
        go_name_world w1 hw1
        obtain rfl:W=w1:=hW.out.symm.trans hw1
        clear hw1 hW
        go_wp2
        go_loopw [5] (fun iv wr'=>∃k:Nat,k≤rs.length∧iv=.int .i64 (k:Int)∧Hid (∀j (hj:j<rs.length) (hj':j<rs'.length),j<k→rs[j]=rs'[j])∧Below W.heap.size W wr') (fun iv _=>rs.length - (intOf iv).toNat)
        case atStart=>exact⟨0,by omega,rfl,hide (fun j _ _ hj=>absurd hj (by omega)),Below.refl _ _⟩
        case round=>
          clear e0
          rename ((rs.length:Int) !=(rs'.length:Int))=false=>hne0
          clear hne0
          obtain⟨k,hk,rfl,HM,hBr⟩:=hrel
          have hB:=hB0.trans (hBr.mono (by omega))
          have hzr:=Nat.le_trans hz hBr.size
          have e1:=(hBr.cell (p:=⟨w.heap.size,1,none⟩) (show w.heap.size<W.heap.size by omega)).trans c1
          have e1':=(hBr.cell (p:=⟨w.heap.size+1,1,none⟩) (show w.heap.size+1<W.heap.size by omega)).trans c1'
          by_cases hlt:k<rs.length
          · have k1:(k:Int)<rs.length:=by omega
            have hlt':k<rs'.length:=by have:=HL.out;omega
            have k1':(k:Int)<rs'.length:=by omega
            obtain⟨b,off,rfl,hb,hre⟩:=(h1.below hBr).elem k hlt
            have hre:wr.rangeAt b (off+k*19) rs[k].cells:=hre
            obtain⟨b',off',rfl,hb',hre'⟩:=(h1'.below hBr).elem k hlt'
            have hre':wr.rangeAt b' (off'+k*19) rs'[k].cells:=hre'
            obtain⟨r,hr⟩:∃r,Hid (rs[k]=r):=⟨_,hide rfl⟩
            obtain⟨r',hr'⟩:∃r',Hid (rs'[k]=r'):=⟨_,hide rfl⟩
            have hok:r.ok:=by rw[←hr.out];exact hall _ (List.getElem_mem hlt)
            have hok':r'.ok:=by rw[←hr'.out];exact hall' _ (List.getElem_mem hlt')
            rw[hr.out]at hre
            rw[hr'.out]at hre'
            have HM':Hid (r=r'→∀j (hj:j<rs.length) (hj':j<rs'.length),j<k+1→rs[j]=rs'[j]):=hide (fun hp j hj hj' hjk=>by
              by_cases e:j=k
              · subst e;rw[hr.out,hr'.out];exact hp
              · exact HM.out j hj hj' (by omega))
            have HN':Hid (r≠r'→sb=false):=hide (fun hp=>by
              cases hsbv:sb
              · rfl
              · have:rs=rs':=I.out.1 (hsb.out.trans hsbv)
                exact absurd (by rw[←hr.out,←hr'.out];subst this;rfl) hp)
            clear hr hr' HM
            have hiu:(prog.info? 81).map (·.size)=some r.cells.length:=by rw[show r.cells.length=19 from RqE.len r hok];kernel_rfl
            have hiu':(prog.info? 81).map (·.size)=some r'.cells.length:=by rw[show r'.cells.length=19 from RqE.len r' hok'];kernel_rfl
            have hne:=fun w0=>Rq.eq10 r r' hok hok' w0
            generalize r.cells=u at *
            generalize r'.cells=u' at *
            clear hok hok'
            by_cases hrr:r=r'
            · rw[Rq.B_iff.2 hrr]at hne
              have HT':=hide (HM'.out hrr)
              clear hrr HM' HN'
              go_upto_region 6 with fail
              obtain⟨w5,hw5⟩:∃w5,wr.drew=w5:=⟨_,rfl⟩
              have hBd:Below wr.heap.size wr w5:=by rw[←hw5];exact(Below.refl _ _).drew
              have hB5:=hB.trans (hBd.mono (by omega))
              have hre5:=zd hre hBd hb
              have hre5':=zd hre' hBd hb'
              have hb5:b<w5.heap.size:=Nat.lt_of_lt_of_le hb hBd.size
              have hb5':b'<w5.heap.size:=Nat.lt_of_lt_of_le hb' hBd.size
              have d1:=(hBd.cell (p:=⟨w.heap.size,1,none⟩) (show w.heap.size<wr.heap.size by omega)).trans e1
              have d1':=(hBd.cell (p:=⟨w.heap.size+1,1,none⟩) (show w.heap.size+1<wr.heap.size by omega)).trans e1'
              have hz5:=Nat.le_trans hzr hBd.size
              have HBX:Hid (Below wr.heap.size wr w5):=hide hBd
              refine zC (S:=(Below w5.heap.size w5)) 11 rfl (by kernel_rfl) ?_
              rw[hw5]
              clear hw5 hre hre' hb hb' hBd e1 e1' hB hzr
              have hS:(Below w5.heap.size w5) w5:=Below.refl _ _
              refine hs_a 0 27 hS ?_
              refine hs_t 1 28 (?_) rfl (by kernel_rfl) (by kernel_rfl) (by kernel_rfl) (by rfl) ?_ hS rfl ?_
              rotate_left
              · intro w' hw
                have:=(hw.cell (p:=⟨w.heap.size,1,none⟩) (show w.heap.size<w5.heap.size by omega)).trans d1
                go_simp
                try with_reducible rfl
              simp only[nz]
              refine hs_a 2 29 hS ?_
              refine hs_a 3 30 hS ?_
              refine hs_v 4 31 (.agg u.toArray) rfl (fun w' hw=>zH rfl rfl (run_loadVar_mid (P:=prog) w' b (off+k*19) 81 u _ (zd hre5 hw hb5) underlying81 rfl hiu)) hS ?_
              refine hs_a 5 32 hS ?_
              refine hs_t 6 33 (?_) rfl (by kernel_rfl) (by kernel_rfl) (by kernel_rfl) (by rfl) ?_ hS rfl ?_
              rotate_left
              · intro w' hw
                have:=(hw.cell (p:=⟨w.heap.size+1,1,none⟩) (show w.heap.size+1<w5.heap.size by omega)).trans d1'
                go_simp
                try with_reducible rfl
              simp only[nz]
              refine hs_a 7 34 hS ?_
              refine hs_a 8 35 hS ?_
              refine hs_v 9 36 (.agg u'.toArray) rfl (fun w' hw=>zH rfl rfl (run_loadVar_mid (P:=prog) w' b' (off'+k*19) 81 u' _ (zd hre5' hw hb5') underlying81 rfl hiu')) hS ?_
              refine hs_v 10 37 (.bool false) rfl (fun w' hw=>by have hc:=hne w';go_simp) hS ?_
              refine zv (by kernel_rfl) ?_
              go_wp2
              go_roundw
              case rel=>exact⟨k+1,by omega,by go_num,HT',hBr.trans (HBX.out.mono hBr.size)⟩
              case measure=>simp[intOf];omega
            · have hbf : Rq.B r r' = false := by
                cases hx:Rq.B r r'
                · rfl
                · exact absurd (Rq.B_iff.1 hx) hrr
              rw[hbf]at hne
              have HF':=HN'.out hrr
              clear hrr HM' HN' hbf hsb I
              go_upto_region 6 with fail
              obtain⟨w5,hw5⟩:∃w5,wr.drew=w5:=⟨_,rfl⟩
              have hBd:Below wr.heap.size wr w5:=by rw[←hw5];exact(Below.refl _ _).drew
              have hB5:=hB.trans (hBd.mono (by omega))
              have hre5:=zd hre hBd hb
              have hre5':=zd hre' hBd hb'
              have hb5:b<w5.heap.size:=Nat.lt_of_lt_of_le hb hBd.size
              have hb5':b'<w5.heap.size:=Nat.lt_of_lt_of_le hb' hBd.size
              have d1:=(hBd.cell (p:=⟨w.heap.size,1,none⟩) (show w.heap.size<wr.heap.size by omega)).trans e1
              have d1':=(hBd.cell (p:=⟨w.heap.size+1,1,none⟩) (show w.heap.size+1<wr.heap.size by omega)).trans e1'
              have hz5:=Nat.le_trans hzr hBd.size
              have HBX:Hid (Below wr.heap.size wr w5):=hide hBd
              refine zC (S:=(Below w5.heap.size w5)) 11 rfl (by kernel_rfl) ?_
              rw[hw5]
              clear hw5 hre hre' hb hb' hBd e1 e1' hB hzr
              have hS:(Below w5.heap.size w5) w5:=Below.refl _ _
              refine hs_a 0 27 hS ?_
              refine hs_t 1 28 (?_) rfl (by kernel_rfl) (by kernel_rfl) (by kernel_rfl) (by rfl) ?_ hS rfl ?_
              rotate_left
              · intro w' hw
                have:=(hw.cell (p:=⟨w.heap.size,1,none⟩) (show w.heap.size<w5.heap.size by omega)).trans d1
                go_simp
                try with_reducible rfl
              simp only[nz]
              refine hs_a 2 29 hS ?_
              refine hs_a 3 30 hS ?_
              refine hs_v 4 31 (.agg u.toArray) rfl (fun w' hw=>zH rfl rfl (run_loadVar_mid (P:=prog) w' b (off+k*19) 81 u _ (zd hre5 hw hb5) underlying81 rfl hiu)) hS ?_
              refine hs_a 5 32 hS ?_
              refine hs_t 6 33 (?_) rfl (by kernel_rfl) (by kernel_rfl) (by kernel_rfl) (by rfl) ?_ hS rfl ?_
              rotate_left
              · intro w' hw
                have:=(hw.cell (p:=⟨w.heap.size+1,1,none⟩) (show w.heap.size+1<w5.heap.size by omega)).trans d1'
                go_simp
                try with_reducible rfl
              simp only[nz]
              refine hs_a 7 34 hS ?_
              refine hs_a 8 35 hS ?_
              refine hs_v 9 36 (.agg u'.toArray) rfl (fun w' hw=>zH rfl rfl (run_loadVar_mid (P:=prog) w' b' (off'+k*19) 81 u' _ (zd hre5' hw hb5') underlying81 rfl hiu')) hS ?_
              refine hs_v 10 37 (.bool true) rfl (fun w' hw=>by have hc:=hne w';go_simp) hS ?_
              refine zv (by kernel_rfl) ?_
              go_wp2
              go_ret
              exact⟨by rw[HF'];rfl,hB5⟩
          · have k1:¬(k:Int)<rs.length:=by omega
            have HE:Hid (sb=true):=hide (by
              rw[←hsb.out]
              exact I.out.2 (List.ext_getElem HL.out (fun j hj hj'=>HM.out j hj hj' (by omega))))
            clear HM hsb I
            go_wp2
            go_ret
            exact⟨by rw[HE.out];rfl,hB⟩
theorem zhZ (x y:Sl Hd) (w:World) (hx:HdsAt w x) (hy:HdsAt w y):
  Calls prog 33 #[x.val,y.val] w fun e w'=>e=.returned (.bool (sameL Hd.B x.xs y.xs))∧Below w.heap.size w w':=by
 obtain⟨a,cap,xs⟩:=x
 obtain⟨a',cap',ys⟩:=y
 have hml:xs.length≤maxLen:=hx.1.1
 have hml':ys.length≤maxLen:=hy.1.1
 unfold maxLen at hml hml'
 simp only[Sl.val]
 by_cases hlen:xs.length=ys.length
 rotate_left
 ·rw[zcF hlen]
  have e0:((xs.length:Int)==ys.length)=false:=by simp;omega
  clear hlen
  go_enter func33,ntmps33
  go_wp2
  go_ret
  exact⟨rfl,Below.refl _ _⟩
 ·have e0:((xs.length:Int)==ys.length)=true:=by simp;omega
  have HL:=hide hlen
  clear hlen
  obtain⟨sb,hsb⟩:∃sb,Hid (sameL Hd.B xs ys=sb):=⟨_,hide rfl⟩
  rw[hsb.out]
  go_enter func33,ntmps33
  go_wp2
  go_loopw [5] (fun iv wr'=>∃k:Nat,k≤xs.length∧iv=.int .i64 (k:Int)∧Hid (∀j,j<k→Hd.B (xs.getD j default) (ys.getD j default)=true)∧Below w.heap.size w wr') (fun iv _=>xs.length - (intOf iv).toNat)
  case atStart=>exact⟨0,by omega,rfl,hide (fun j hj=>absurd hj (by omega)),Below.refl _ _⟩
  case round=>
   clear e0
   rename ((xs.length:Int) !=(ys.length:Int))=false=>hne0
   clear hne0
   obtain⟨k,hk,rfl,HM,hB⟩:=hrel
   by_cases hlt:k<xs.length
   ·have k1:(k:Int)<xs.length:=by omega
    have hlt':k<ys.length:=by have:=HL.out;omega
    have k1':(k:Int)<ys.length:=by omega
    obtain⟨b,off,rfl,hb,hre⟩:=RowsAt.elem (hx.1.below hB) k hlt
    obtain⟨b',off',rfl,hb',hre'⟩:=RowsAt.elem (hy.1.below hB) k hlt'
    have hre:wr.rangeAt b (off+k*39) xs[k].cells:=hre
    have hre':wr.rangeAt b' (off'+k*39) ys[k].cells:=hre'
    have hgx:xs.getD k default=xs[k]:=by rw[List.getD_eq_getElem?_getD,List.getElem?_eq_getElem hlt];rfl
    have hgy:ys.getD k default=ys[k]:=by rw[List.getD_eq_getElem?_getD,List.getElem?_eq_getElem hlt'];rfl
    have okx:xs[k].vt.ok:=hx.1.2.1 _ (List.getElem_mem hlt)
    have oky:ys[k].vt.ok:=hy.1.2.1 _ (List.getElem_mem hlt')
    have atx:=(hx.2 _ (List.getElem_mem hlt)).below hB
    have aty:=(hy.2 _ (List.getElem_mem hlt')).below hB
    obtain⟨gx,hX⟩:∃g,Hid (xs[k]=g):=⟨_,hide rfl⟩
    obtain⟨gy,hY⟩:∃g,Hid (ys[k]=g):=⟨_,hide rfl⟩
    rw[hX.out]at hre hgx okx atx
    rw[hY.out]at hre' hgy oky aty
    clear hX hY
    have HT:Hid (Hd.B gx gy=true→∀j,j<k+1→Hd.B (xs.getD j default) (ys.getD j default)=true):=hide (fun hp j hj=>by
     by_cases e:j=k
     ·subst e;rw[hgx,hgy];exact hp
     ·exact HM.out j (by omega))
    have HF:Hid (Hd.B gx gy=false→sb=false):=hide (fun hp=>by
     rw[←hsb.out]
     exact zdC k hlt HL.out (by rw[hgx,hgy];exact hp))
    have rb:wr.rangeAt b (off+k*39) (#[.bool gx.q,.slice gx.rs.a gx.rs.xs.length gx.rs.cap]:Array Value).toList:=zP (cs:=[.bool gx.q,gx.rs.val]) hre
    have rb':wr.rangeAt b' (off'+k*39) (#[.bool gy.q,.slice gy.rs.a gy.rs.xs.length gy.rs.cap]:Array Value).toList:=zP (cs:=[.bool gy.q,gy.rs.val]) hre'
    have rc:wr.rangeAt b (off+k*39+2) (certL gx.vt gx.sg):=zZ (cs:=[.bool gx.q,gx.rs.val]) hre
    have rc':wr.rangeAt b' (off'+k*39+2) (certL gy.vt gy.sg):=zZ (cs:=[.bool gy.q,gy.rs.val]) hre'
    have ic:(prog.info? 50).map (·.size)=some (certL gx.vt gx.sg).length:=by rw[show(certL gx.vt gx.sg).length=37 by simp[certL,okx.len]];exact iszC
    have ic':(prog.info? 50).map (·.size)=some (certL gy.vt gy.sg).length:=by rw[show(certL gy.vt gy.sg).length=37 by simp[certL,oky.len]];exact iszC
    have g1:=fun(w0:World) (h0:Below wr.heap.size wr w0)=>zeG gx.q gx.rs gy.q gy.rs w0 (atx.below h0).1 (aty.below h0).1
    have g2:=fun(w0:World) (h0:Below wr.heap.size wr w0)=>zeD gx.vt gy.vt gx.sg gy.sg w0 okx oky (atx.below h0).2 (aty.below h0).2
    simp only[Sl.val]at g1
    unfold Hd.B at HT HF
    have iB:(prog.info? 39).map (·.size)=some (#[.bool gx.q,.slice gx.rs.a gx.rs.xs.length gx.rs.cap]:Array Value).toList.length:=iszB
    have iB':(prog.info? 39).map (·.size)=some (#[.bool gy.q,.slice gy.rs.a gy.rs.xs.length gy.rs.cap]:Array Value).toList.length:=iszB
    generalize batB gx.q gx.rs gy.q gy.rs=b1 at *
    generalize certB gx.vt gx.sg gy.vt gy.sg=b2 at *
    generalize certL gx.vt gx.sg=u at *
    generalize certL gy.vt gy.sg=u' at *
    generalize (#[.bool gx.q,.slice gx.rs.a gx.rs.xs.length gx.rs.cap]:Array Value)=vb at *
    generalize (#[.bool gy.q,.slice gy.rs.a gy.rs.xs.length gy.rs.cap]:Array Value)=vb' at *
    clear hgx hgy HM okx oky atx aty hre hre'
    cases b1
    ·have HF':=hide (HF.out (Bool.false_and _))
     clear HF HT hsb
     go_upto_region 6 with fail
     obtain⟨w5,hw5⟩:∃w5,wr.drew=w5:=⟨_,rfl⟩
     have hBd:Below wr.heap.size wr w5:=by rw[←hw5];exact(Below.refl _ _).drew
     have hB5:=hB.trans (hBd.mono hB.size)
     have rb5:=zd rb hBd hb
     have rb5':=zd rb' hBd hb'
     have rc5:=zd rc hBd hb
     have rc5':=zd rc' hBd hb'
     have hb5:b<w5.heap.size:=Nat.lt_of_lt_of_le hb hBd.size
     have hb5':b'<w5.heap.size:=Nat.lt_of_lt_of_le hb' hBd.size
     have G1:=fun w0 (h0:Below w5.heap.size w5 w0)=>g1 w0 (hBd.trans (h0.mono hBd.size))
     have G2:=fun w0 (h0:Below w5.heap.size w5 w0)=>g2 w0 (hBd.trans (h0.mono hBd.size))
     refine zC (S:=(Below w5.heap.size w5)) 26 rfl (by kernel_rfl) ?_
     rw[hw5]
     clear hw5 rb rb' rc rc' hb hb' hBd hB g1 g2
     have hS:(Below w5.heap.size w5) w5:=Below.refl _ _
     refine hs_a 0 17 hS ?_
     refine hs_a 1 18 hS ?_
     refine hs_a 2 19 hS ?_
     refine hs_a 3 20 hS ?_
     refine hs_v 4 21 (.agg vb) rfl (fun w' hw=>zH rfl rfl (run_loadVar_mid (P:=prog) w' b (off+k*39) 39 vb.toList _ (zd rb5 hw hb5) underlying39 rfl iB)) hS ?_
     refine hs_a 5 22 hS ?_
     refine hs_a 6 23 hS ?_
     refine hs_a 7 24 hS ?_
     refine hs_a 8 25 hS ?_
     refine hs_v 9 26 (.agg vb') rfl (fun w' hw=>zH rfl rfl (run_loadVar_mid (P:=prog) w' b' (off'+k*39) 39 vb'.toList _ (zd rb5' hw hb5') underlying39 rfl iB')) hS ?_
     refine hs_c 10 27 ?_
     refine(G1 w5 hS).mono ?_
     rintro e' wn1 ⟨rfl,hb1⟩
     have hS:(Below w5.heap.size w5) wn1:=hS.trans (hb1.mono hS.size)
     refine⟨_,rfl,hS,?_⟩
     simp only[nz]
     refine hs_a 11 28 hS ?_
     refine hs_a 12 29 hS ?_
     refine hs_k 13 30 hS ?_
     refine hs_k 14 31 hS ?_
     refine hs_k 15 32 hS ?_
     refine hs_k 16 33 hS ?_
     refine hs_k 17 34 hS ?_
     refine hs_k 18 35 hS ?_
     refine hs_k 19 36 hS ?_
     refine hs_k 20 37 hS ?_
     refine hs_k 21 38 hS ?_
     refine hs_k 22 39 hS ?_
     refine hs_k 23 40 hS ?_
     refine hs_k 24 41 hS ?_
     refine hs_a 25 42 hS ?_
     refine zv (by kernel_rfl) ?_
     go_wp2
     go_ret
     exact⟨by rw[HF'.out];rfl,hB5.trans (hS.mono hB5.size)⟩
    ·cases b2
     ·have HF':=hide (HF.out (Bool.true_and _))
      clear HF HT hsb
      go_upto_region 6 with fail
      obtain⟨w5,hw5⟩:∃w5,wr.drew=w5:=⟨_,rfl⟩
      have hBd:Below wr.heap.size wr w5:=by rw[←hw5];exact(Below.refl _ _).drew
      have hB5:=hB.trans (hBd.mono hB.size)
      have rb5:=zd rb hBd hb
      have rb5':=zd rb' hBd hb'
      have rc5:=zd rc hBd hb
      have rc5':=zd rc' hBd hb'
      have hb5:b<w5.heap.size:=Nat.lt_of_lt_of_le hb hBd.size
      have hb5':b'<w5.heap.size:=Nat.lt_of_lt_of_le hb' hBd.size
      have G1:=fun w0 (h0:Below w5.heap.size w5 w0)=>g1 w0 (hBd.trans (h0.mono hBd.size))
      have G2:=fun w0 (h0:Below w5.heap.size w5 w0)=>g2 w0 (hBd.trans (h0.mono hBd.size))
      refine zC (S:=(Below w5.heap.size w5)) 26 rfl (by kernel_rfl) ?_
      rw[hw5]
      clear hw5 rb rb' rc rc' hb hb' hBd hB g1 g2
      have hS:(Below w5.heap.size w5) w5:=Below.refl _ _
      refine hs_a 0 17 hS ?_
      refine hs_a 1 18 hS ?_
      refine hs_a 2 19 hS ?_
      refine hs_a 3 20 hS ?_
      refine hs_v 4 21 (.agg vb) rfl (fun w' hw=>zH rfl rfl (run_loadVar_mid (P:=prog) w' b (off+k*39) 39 vb.toList _ (zd rb5 hw hb5) underlying39 rfl iB)) hS ?_
      refine hs_a 5 22 hS ?_
      refine hs_a 6 23 hS ?_
      refine hs_a 7 24 hS ?_
      refine hs_a 8 25 hS ?_
      refine hs_v 9 26 (.agg vb') rfl (fun w' hw=>zH rfl rfl (run_loadVar_mid (P:=prog) w' b' (off'+k*39) 39 vb'.toList _ (zd rb5' hw hb5') underlying39 rfl iB')) hS ?_
      refine hs_c 10 27 ?_
      refine(G1 w5 hS).mono ?_
      rintro e' wn1 ⟨rfl,hb1⟩
      have hS:(Below w5.heap.size w5) wn1:=hS.trans (hb1.mono hS.size)
      refine⟨_,rfl,hS,?_⟩
      simp only[nz]
      refine hs_a 11 28 hS ?_
      refine hs_a 12 29 hS ?_
      refine hs_a 13 30 hS ?_
      refine hs_a 14 31 hS ?_
      refine hs_a 15 32 hS ?_
      refine hs_a 16 33 hS ?_
      refine hs_v 17 34 (.agg u.toArray) rfl (fun w' hw=>zH rfl rfl (run_loadVar_mid (P:=prog) w' b (off+k*39+2) 50 u _ (zd rc5 hw hb5) underlying50 rfl ic)) hS ?_
      refine hs_a 18 35 hS ?_
      refine hs_a 19 36 hS ?_
      refine hs_a 20 37 hS ?_
      refine hs_a 21 38 hS ?_
      refine hs_v 22 39 (.agg u'.toArray) rfl (fun w' hw=>zH rfl rfl (run_loadVar_mid (P:=prog) w' b' (off'+k*39+2) 50 u' _ (zd rc5' hw hb5') underlying50 rfl ic')) hS ?_
      refine hs_c 23 40 ?_
      refine(G2 wn1 hb1).mono ?_
      rintro e' wn2 ⟨rfl,hb2⟩
      have hS:(Below w5.heap.size w5) wn2:=hS.trans (hb2.mono hS.size)
      refine⟨_,rfl,hS,?_⟩
      simp only[nz]
      refine hs_a 24 41 hS ?_
      refine hs_a 25 42 hS ?_
      refine zv (by kernel_rfl) ?_
      go_wp2
      go_ret
      exact⟨by rw[HF'.out];rfl,hB5.trans (hS.mono hB5.size)⟩
     ·have HT':=hide (HT.out (Bool.true_and _))
      clear HF HT
      go_upto_region 6 with fail
      obtain⟨w5,hw5⟩:∃w5,wr.drew=w5:=⟨_,rfl⟩
      have hBd:Below wr.heap.size wr w5:=by rw[←hw5];exact(Below.refl _ _).drew
      have hB5:=hB.trans (hBd.mono hB.size)
      have rb5:=zd rb hBd hb
      have rb5':=zd rb' hBd hb'
      have rc5:=zd rc hBd hb
      have rc5':=zd rc' hBd hb'
      have hb5:b<w5.heap.size:=Nat.lt_of_lt_of_le hb hBd.size
      have hb5':b'<w5.heap.size:=Nat.lt_of_lt_of_le hb' hBd.size
      have G1:=fun w0 (h0:Below w5.heap.size w5 w0)=>g1 w0 (hBd.trans (h0.mono hBd.size))
      have G2:=fun w0 (h0:Below w5.heap.size w5 w0)=>g2 w0 (hBd.trans (h0.mono hBd.size))
      refine zC (S:=(Below w5.heap.size w5)) 26 rfl (by kernel_rfl) ?_
      rw[hw5]
      clear hw5 rb rb' rc rc' hb hb' hBd hB g1 g2
      have hS:(Below w5.heap.size w5) w5:=Below.refl _ _
      refine hs_a 0 17 hS ?_
      refine hs_a 1 18 hS ?_
      refine hs_a 2 19 hS ?_
      refine hs_a 3 20 hS ?_
      refine hs_v 4 21 (.agg vb) rfl (fun w' hw=>zH rfl rfl (run_loadVar_mid (P:=prog) w' b (off+k*39) 39 vb.toList _ (zd rb5 hw hb5) underlying39 rfl iB)) hS ?_
      refine hs_a 5 22 hS ?_
      refine hs_a 6 23 hS ?_
      refine hs_a 7 24 hS ?_
      refine hs_a 8 25 hS ?_
      refine hs_v 9 26 (.agg vb') rfl (fun w' hw=>zH rfl rfl (run_loadVar_mid (P:=prog) w' b' (off'+k*39) 39 vb'.toList _ (zd rb5' hw hb5') underlying39 rfl iB')) hS ?_
      refine hs_c 10 27 ?_
      refine(G1 w5 hS).mono ?_
      rintro e' wn1 ⟨rfl,hb1⟩
      have hS:(Below w5.heap.size w5) wn1:=hS.trans (hb1.mono hS.size)
      refine⟨_,rfl,hS,?_⟩
      simp only[nz]
      refine hs_a 11 28 hS ?_
      refine hs_a 12 29 hS ?_
      refine hs_a 13 30 hS ?_
      refine hs_a 14 31 hS ?_
      refine hs_a 15 32 hS ?_
      refine hs_a 16 33 hS ?_
      refine hs_v 17 34 (.agg u.toArray) rfl (fun w' hw=>zH rfl rfl (run_loadVar_mid (P:=prog) w' b (off+k*39+2) 50 u _ (zd rc5 hw hb5) underlying50 rfl ic)) hS ?_
      refine hs_a 18 35 hS ?_
      refine hs_a 19 36 hS ?_
      refine hs_a 20 37 hS ?_
      refine hs_a 21 38 hS ?_
      refine hs_v 22 39 (.agg u'.toArray) rfl (fun w' hw=>zH rfl rfl (run_loadVar_mid (P:=prog) w' b' (off'+k*39+2) 50 u' _ (zd rc5' hw hb5') underlying50 rfl ic')) hS ?_
      refine hs_c 23 40 ?_
      refine(G2 wn1 hb1).mono ?_
      rintro e' wn2 ⟨rfl,hb2⟩
      have hS:(Below w5.heap.size w5) wn2:=hS.trans (hb2.mono hS.size)
      refine⟨_,rfl,hS,?_⟩
      simp only[nz]
      refine hs_a 24 41 hS ?_
      refine hs_a 25 42 hS ?_
      refine zv (by kernel_rfl) ?_
      have hBe:=hB5.trans (hS.mono hB5.size)
      go_wp2
      go_roundw
      case rel=>exact⟨k+1,by omega,by go_num,HT',hBe⟩
      case measure=>simp[intOf];omega
   ·have k1:¬(k:Int)<xs.length:=by omega
    have HE:Hid (sb=true):=hide (by
     rw[←hsb.out]
     exact zdD HL.out (fun j hj=>HM.out j (by omega)))
    clear HM hsb
    go_wp2
    go_ret
    exact⟨by rw[HE.out];rfl,hB⟩
end Go.Proofs.YtcbpbkefggekmaaGreatDoor
