/- certs and messages without lists against themselves; fieldsMay and Good at messages without lists; Good of a message that is its own bare one; Encode; message.V -/
import Derived.Test.YtcbpbkefggekmaaGreatDoorJE0
import Derived.Test.YtcbpbkefggekmaaGreatDoorJE2
import Derived.Test.YtcbpbkefggekmaaGreatDoorJE1
set_option maxHeartbeats 4000000
set_option maxRecDepth 100000
open Go.Proofs.Tryz
namespace Go.Proofs.YtcbpbkefggekmaaGreatDoor
open Go.RowKit
open Sha Tal
theorem zS {P:Program} {ops:Array Oper} {rest:List Oper} {op:Oper} {a:Act} {w:World} {Q:Exit→Act→World→Prop} (hgd:Region.wanted op (yielded ops a.tmps)=true) (ty:TypeId) (x:Operand) (ho:op.op=.load ty x)
  (b o:Nat) (hx:a.eval x=.pointer (some ⟨b,o,none⟩)) (cs:List Value) (d:TypeDesc) (hc:w.rangeAt b o cs)
  (hu:P.underlying ty=some d) (hd:d.isRow=true) (hi:(P.info? ty).map (·.size)=some cs.length)
  (h:wpList P ops Q rest (a.put op.dst (.agg cs.toArray)) w):wpList P ops Q (op::rest) a w:=
 wpList_step fun _ hK=>by rw[if_pos hgd];exact wp_load_mid ty x ho b o hx cs d hc hu hd hi (hK _ _ h)
theorem iszC:(prog.info? 50).map (·.size)=some 37:=by kernel_rfl
def cert0 (x:Vt):List Value:=x.cells++[.slice none 0 0]
theorem zca (q:List Value) (t:TypeId) (w:World):((w.alloc (.cells q.toArray t)).alloc (.cells q.toArray t)).rangeAt w.heap.size 0 q∧((w.alloc (.cells q.toArray t)).alloc (.cells q.toArray t)).rangeAt (w.heap.size+1) 0 q∧Below w.heap.size w ((w.alloc (.cells q.toArray t)).alloc (.cells q.toArray t))∧w.heap.size+2≤((w.alloc (.cells q.toArray t)).alloc (.cells q.toArray t)).heap.size:=by
 have hB:Below w.heap.size w (w.alloc (.cells q.toArray t)):=(Below.refl _ _).alloc (Nat.le_refl _) _
 have hB2:Below (w.alloc (.cells q.toArray t)).heap.size (w.alloc (.cells q.toArray t)) ((w.alloc (.cells q.toArray t)).alloc (.cells q.toArray t)):=(Below.refl _ _).alloc (Nat.le_refl _) _
 have h1:=zy w q.toArray t
 have h2:=zy (w.alloc (.cells q.toArray t)) q.toArray t
 rw[World.size_alloc]at h2
 exact⟨zd (by simpa using h1) hB2 (by simp),by simpa using h2,hB.trans (hB2.mono (by simp)),by simp⟩
theorem scert0 (x:Vt) (hx:x.ok) (w:World):Calls prog 133 #[.agg (cert0 x).toArray,.agg (cert0 x).toArray] w fun e w'=>e=.returned (.bool true)∧Below w.heap.size w w':=by
 obtain⟨hA,hA',hB,hs⟩:=zca (cert0 x) 50 w
 have r1:=zP hA
 have r1':=zP hA'
 have c1:=zZ hA 0 _ rfl
 have c1':=zZ hA' 0 _ rfl
 rw[hx.len]at c1 c1'
 simp only[Nat.zero_add,Nat.add_zero]at c1 c1'
 have ix:(prog.info? 43).map (·.size)=some x.cells.length:=by rw[hx.len];exact iszV
 have hq:=eqInV x x hx.dl hx.dl
 rw[zb6]at hq
 clear hA hA' hs hx
 generalize cert0 x=q at *
 generalize x.cells=u at *
 go_enter func133,ntmps133
 go_upto_region 1 with fail
 go_name_world w1 hw1
 rw[show(w.alloc (.cells q.toArray 50)).alloc (.cells q.toArray 50)=w1 from hw1]at r1 r1' c1 c1' hB
 clear hw1
 go_wp2_with (first|(refine wpList_load_mid rfl 43 _ rfl _ _ rfl u _ r1 underlying43 rfl ix ?_)|(refine wpList_load_mid rfl 43 _ rfl _ _ rfl u _ r1' underlying43 rfl ix ?_)|(go_at_call 134;refine(eqS0 _).mono ?_;rintro e1 w2 ⟨rfl,hx⟩;obtain rfl:=hx.symm;clear hx))
 go_ret
 exact⟨rfl,hB⟩
theorem xscert0 (x:Vt) (hx:x.ok) (w:World):Calls prog 36 #[.agg (cert0 x).toArray,.agg (cert0 x).toArray] w fun e w'=>e=.returned (.bool true)∧Below w.heap.size w w':=by
 obtain⟨hA,hA',hB,hs⟩:=zca (cert0 x) 50 w
 have r1:=zP hA
 have r1':=zP hA'
 have c1:=zZ hA 0 _ rfl
 have c1':=zZ hA' 0 _ rfl
 rw[hx.len]at c1 c1'
 simp only[Nat.zero_add,Nat.add_zero]at c1 c1'
 have ix:(prog.info? 43).map (·.size)=some x.cells.length:=by rw[hx.len];exact iszV
 have hq:=eqInV x x hx.dl hx.dl
 rw[zb6]at hq
 clear hA hA' hs hx
 generalize cert0 x=q at *
 generalize x.cells=u at *
 go_enter func36,ntmps36
 go_upto_region 1 with fail
 go_name_world w1 hw1
 rw[show(w.alloc (.cells q.toArray 50)).alloc (.cells q.toArray 50)=w1 from hw1]at r1 r1' c1 c1' hB
 clear hw1
 go_wp2_with (first|(refine wpList_load_mid rfl 43 _ rfl _ _ rfl u _ r1 underlying43 rfl ix ?_)|(refine wpList_load_mid rfl 43 _ rfl _ _ rfl u _ r1' underlying43 rfl ix ?_)|(go_at_call 37;refine(xsS0 _).mono ?_;rintro e1 w2 ⟨rfl,hx⟩;obtain rfl:=hx.symm;clear hx))
 go_ret
 exact⟨rfl,hB⟩
theorem msame0 (k e s:Int) (x:Vt) (d:List Int) (hx:x.ok) (hd:d.length=32) (hdb:∀z∈d,0≤z∧z<256) (w:World):Calls prog 84 #[.agg (Ms.plain k e s x d).cells.toArray,.agg (Ms.plain k e s x d).cells.toArray] w fun e w'=>e=.returned (.bool true)∧Below w.heap.size w w':=by
 have hm:=Ms.plain_ok k e s hx hd hdb
 obtain⟨hA,hA',hB,hs⟩:=zca (Ms.plain k e s x d).cells 52 w
 obtain⟨W,hW⟩:∃W,Hid ((w.alloc (.cells (Ms.plain k e s x d).cells.toArray 52)).alloc (.cells (Ms.plain k e s x d).cells.toArray 52)=W):=⟨_,hide rfl⟩
 rw[hW.out]at hA hA' hB hs
 have M:=hm.at hA
 have M':=hm.at hA'
 have ix:(prog.info? 43).map (·.size)=some x.cells.length:=by rw[hx.len];exact iszV
 have id:(prog.info? 41).map (·.size)=some (v8 d).length:=by rw[v8_length,hd];exact iszD
 have ic:(prog.info? 50).map (·.size)=some (cert0 Vt.zero).length:=by rw[show(cert0 Vt.zero).length=37 from rfl];exact iszC
 have hq:=eqInV x x hx.dl hx.dl
 have hq2:=eqInD d d hd hd
 rw[zb6]at hq
 rw[show(d==d)=true by simp]at hq2
 have cC:=fun w0=>scert0 Vt.zero Vt.zero_ok w0
 have cK:W.cell? ⟨w.heap.size,0,none⟩=some (.int .i64 k):=M.k
 have cE:W.cell? ⟨w.heap.size,1,none⟩=some (.int .i64 e):=M.e
 have cL:W.cell? ⟨w.heap.size,2,none⟩=some (.int .i64 0):=M.l
 have cV:W.cell? ⟨w.heap.size,3,none⟩=some (.int .i64 0):=M.v
 have cS:W.cell? ⟨w.heap.size,4,none⟩=some (.int .i64 s):=M.s
 have cQ:W.cell? ⟨w.heap.size,5,none⟩=some (.bool false):=M.q
 have cR:W.cell? ⟨w.heap.size,6,none⟩=some (.slice none 0 0):=M.rs
 have c1:W.cell? ⟨w.heap.size,43,none⟩=some (.int .i64 0):=M.ce
 have c2:W.cell? ⟨w.heap.size,44,none⟩=some (.int .i64 0):=M.cl
 have c3:W.cell? ⟨w.heap.size,45,none⟩=some (.int .i64 0):=M.cv
 have cH:W.cell? ⟨w.heap.size,46,none⟩=some (.slice none 0 0):=M.he
 have cN:W.cell? ⟨w.heap.size,47,none⟩=some (.slice none 0 0):=M.ne
 have cT:W.cell? ⟨w.heap.size,117,none⟩=some (.string ⟨#[]⟩):=M.st
 have cG:W.cell? ⟨w.heap.size,118,none⟩=some (.slice none 0 0):=M.sg
 have rV:W.rangeAt (w.heap.size) 7 x.cells:=M.vt
 have rD:W.rangeAt (w.heap.size) 48 (v8 d):=M.d
 have rC:W.rangeAt (w.heap.size) 80 (cert0 Vt.zero):=M.ct
 have cK':W.cell? ⟨w.heap.size+1,0,none⟩=some (.int .i64 k):=M'.k
 have cE':W.cell? ⟨w.heap.size+1,1,none⟩=some (.int .i64 e):=M'.e
 have cL':W.cell? ⟨w.heap.size+1,2,none⟩=some (.int .i64 0):=M'.l
 have cV':W.cell? ⟨w.heap.size+1,3,none⟩=some (.int .i64 0):=M'.v
 have cS':W.cell? ⟨w.heap.size+1,4,none⟩=some (.int .i64 s):=M'.s
 have cQ':W.cell? ⟨w.heap.size+1,5,none⟩=some (.bool false):=M'.q
 have cR':W.cell? ⟨w.heap.size+1,6,none⟩=some (.slice none 0 0):=M'.rs
 have c1':W.cell? ⟨w.heap.size+1,43,none⟩=some (.int .i64 0):=M'.ce
 have c2':W.cell? ⟨w.heap.size+1,44,none⟩=some (.int .i64 0):=M'.cl
 have c3':W.cell? ⟨w.heap.size+1,45,none⟩=some (.int .i64 0):=M'.cv
 have cH':W.cell? ⟨w.heap.size+1,46,none⟩=some (.slice none 0 0):=M'.he
 have cN':W.cell? ⟨w.heap.size+1,47,none⟩=some (.slice none 0 0):=M'.ne
 have cT':W.cell? ⟨w.heap.size+1,117,none⟩=some (.string ⟨#[]⟩):=M'.st
 have cG':W.cell? ⟨w.heap.size+1,118,none⟩=some (.slice none 0 0):=M'.sg
 have rV':W.rangeAt (w.heap.size+1) 7 x.cells:=M'.vt
 have rD':W.rangeAt (w.heap.size+1) 48 (v8 d):=M'.d
 have rC':W.rangeAt (w.heap.size+1) 80 (cert0 Vt.zero):=M'.ct
 clear hA hA' hm M M' hx hd hdb
 generalize (Ms.plain k e s x d).cells=q at *
 generalize x.cells=u at *
 generalize v8 d=ud at *
 generalize cert0 Vt.zero=uc at *
 go_enter func84,ntmps84
 go_upto_region 1 with fail
 go_name_world w1 hw1
 obtain rfl:W=w1:=hW.out.symm.trans hw1
 clear hw1 hW
 go_upto_region 3 with fail
 try simp only[Act.put]
 refine wp_region_list ?_
 refine wpList_step fun K hK=>?_
 go_simp
 refine hK _ _ ?_
 clear hK K
 refine wpList_load_mid rfl 43 _ rfl _ _ rfl u _ rV underlying43 rfl ix ?_
 refine wpList_step fun K hK=>?_
 go_simp
 refine hK _ _ ?_
 clear hK K
 refine wpList_load_mid rfl 43 _ rfl _ _ rfl u _ rV' underlying43 rfl ix ?_
 refine wpList_step fun K hK=>?_
 go_simp
 try rw[hq]
 try go_simp
 refine hK _ _ ?_
 clear hK K
 refine wpList_step fun K hK=>?_
 go_simp
 refine hK _ _ ?_
 clear hK K
 refine wpList_step fun K hK=>?_
 go_simp
 refine hK _ _ ?_
 clear hK K
 refine zS (by rfl) 41 _ rfl _ _ rfl ud _ rD underlying41 rfl id ?_
 refine wpList_step fun K hK=>?_
 go_simp
 refine hK _ _ ?_
 clear hK K
 refine zS (by rfl) 41 _ rfl _ _ rfl ud _ rD' underlying41 rfl id ?_
 refine wpList_step fun K hK=>?_
 go_simp
 try rw[hq2]
 try go_simp
 refine hK _ _ ?_
 clear hK K
 refine wpList_step fun K hK=>?_
 go_simp
 refine hK _ _ ?_
 clear hK K
 refine wpList_step fun K hK=>?_
 go_simp
 refine hK _ _ ?_
 clear hK K
 refine wpList_step fun K hK=>?_
 go_simp
 refine hK _ _ ?_
 clear hK K
 refine wpList_step fun K hK=>?_
 go_simp
 refine hK _ _ ?_
 clear hK K
 refine wpList_step fun K hK=>?_
 go_simp
 refine hK _ _ ?_
 clear hK K
 refine wpList_step fun K hK=>?_
 go_simp
 refine hK _ _ ?_
 clear hK K
 refine wpList_step fun K hK=>?_
 go_simp
 refine hK _ _ ?_
 clear hK K
 refine wpList_step fun K hK=>?_
 go_simp
 refine hK _ _ ?_
 clear hK K
 refine wpList_step fun K hK=>?_
 go_simp
 refine hK _ _ ?_
 clear hK K
 go_upto_region 5 with fail
 clear cK cE cL cV cS cK' cE' cL' cV' cS' rV rV' rD rD' cT cT' hq hq2
 go_wp2_with fail
 refine(bsame0 false _).mono ?_
 rintro e2 w2 ⟨rfl,hb2⟩
 have up:=fun i v (h:W.cell? ⟨w.heap.size,i,none⟩=some v)=>(hb2.cell (p:=⟨w.heap.size,i,none⟩) (show w.heap.size<W.heap.size by omega)).trans h
 replace c1:=up _ _ c1
 replace c2:=up _ _ c2
 replace c3:=up _ _ c3
 replace cH:=up _ _ cH
 replace cN:=up _ _ cN
 replace cG:=up _ _ cG
 replace rC:=zd rC hb2 (by omega)
 clear up
 have up':=fun i v (h:W.cell? ⟨w.heap.size+1,i,none⟩=some v)=>(hb2.cell (p:=⟨w.heap.size+1,i,none⟩) (show w.heap.size+1<W.heap.size by omega)).trans h
 replace c1':=up' _ _ c1'
 replace c2':=up' _ _ c2'
 replace c3':=up' _ _ c3'
 replace cH':=up' _ _ cH'
 replace cN':=up' _ _ cN'
 replace cG':=up' _ _ cG'
 replace rC':=zd rC' hb2 (by omega)
 clear up'
 have hs2:=Nat.le_trans hs hb2.size
 have hB2:=hB.trans (hb2.mono (by omega))
 clear cQ cR cQ' cR' hb2 hs hB
 go_wp2_with fail
 refine(schg0 _).mono ?_
 rintro e3 w3 ⟨rfl,hb3⟩
 have up:=fun i v (h:w2.cell? ⟨w.heap.size,i,none⟩=some v)=>(hb3.cell (p:=⟨w.heap.size,i,none⟩) (show w.heap.size<w2.heap.size by omega)).trans h
 replace cN:=up _ _ cN
 replace cG:=up _ _ cG
 replace rC:=zd rC hb3 (by omega)
 clear up
 have up':=fun i v (h:w2.cell? ⟨w.heap.size+1,i,none⟩=some v)=>(hb3.cell (p:=⟨w.heap.size+1,i,none⟩) (show w.heap.size+1<w2.heap.size by omega)).trans h
 replace cN':=up' _ _ cN'
 replace cG':=up' _ _ cG'
 replace rC':=zd rC' hb3 (by omega)
 clear up'
 have hs3:=Nat.le_trans hs2 hb3.size
 have hB3:=hB2.trans (hb3.mono (by omega))
 clear c1 c2 c3 cH c1' c2' c3' cH' hb3 hs2 hB2
 go_wp2_with fail
 refine(eqE0 _).mono ?_
 rintro e4 w4 ⟨rfl,hx⟩
 obtain rfl:=hx.symm
 clear hx cN cN'
 go_wp2_with (first|(refine zS (by rfl) 50 _ rfl _ _ rfl uc _ rC underlying50 rfl ic ?_)|(refine zS (by rfl) 50 _ rfl _ _ rfl uc _ rC' underlying50 rfl ic ?_))
 refine(cC _).mono ?_
 rintro e5 w5 ⟨rfl,hb5⟩
 have up:=fun i v (h:w3.cell? ⟨w.heap.size,i,none⟩=some v)=>(hb5.cell (p:=⟨w.heap.size,i,none⟩) (show w.heap.size<w3.heap.size by omega)).trans h
 replace cG:=up _ _ cG
 clear up
 have up':=fun i v (h:w3.cell? ⟨w.heap.size+1,i,none⟩=some v)=>(hb5.cell (p:=⟨w.heap.size+1,i,none⟩) (show w.heap.size+1<w3.heap.size by omega)).trans h
 replace cG':=up' _ _ cG'
 clear up'
 have hB5:=hB3.trans (hb5.mono (by omega))
 clear rC rC' hb5 hs3 hB3 cC
 go_wp2_with fail
 refine(eqS0 _).mono ?_
 rintro e6 w6 ⟨rfl,hx⟩
 obtain rfl:=hx.symm
 clear hx cG cG'
 go_wp2_with fail
 go_ret
 exact⟨rfl,hB5⟩
theorem iszH4:(prog.info? 46).map (·.size)=some 4:=by kernel_rfl
theorem one4:(#[Value.int .i64 0,.int .i64 0,.int .i64 0,.slice none 0 0]:Array Value).all (·.oneCell')=true:=by simp[Value.oneCell']
theorem xsame0 (k e s:Int) (x:Vt) (d:List Int) (hx:x.ok) (hd:d.length=32) (hdb:∀z∈d,0≤z∧z<256) (w:World):Calls prog 14 #[.agg (Ms.plain k e s x d).cells.toArray,.agg (Ms.plain k e s x d).cells.toArray] w fun e w'=>e=.returned (.bool true)∧Below w.heap.size w w':=by
 have hm:=Ms.plain_ok k e s hx hd hdb
 obtain⟨hA,hA',hB,hs⟩:=zca (Ms.plain k e s x d).cells 52 w
 obtain⟨W,hW⟩:∃W,Hid ((w.alloc (.cells (Ms.plain k e s x d).cells.toArray 52)).alloc (.cells (Ms.plain k e s x d).cells.toArray 52)=W):=⟨_,hide rfl⟩
 rw[hW.out]at hA hA' hB hs
 have M:=hm.at hA
 have M':=hm.at hA'
 have ix:(prog.info? 43).map (·.size)=some x.cells.length:=by rw[hx.len];exact iszV
 have id:(prog.info? 41).map (·.size)=some (v8 d).length:=by rw[v8_length,hd];exact iszD
 have ic:(prog.info? 50).map (·.size)=some (cert0 Vt.zero).length:=by rw[show(cert0 Vt.zero).length=37 from rfl];exact iszC
 have hq:=eqInV x x hx.dl hx.dl
 have hq2:=eqInD d d hd hd
 rw[zb6]at hq
 rw[show(d==d)=true by simp]at hq2
 have cC:=fun w0=>xscert0 Vt.zero Vt.zero_ok w0
 have cK:W.cell? ⟨w.heap.size,0,none⟩=some (.int .i64 k):=M.k
 have cE:W.cell? ⟨w.heap.size,1,none⟩=some (.int .i64 e):=M.e
 have cL:W.cell? ⟨w.heap.size,2,none⟩=some (.int .i64 0):=M.l
 have cV:W.cell? ⟨w.heap.size,3,none⟩=some (.int .i64 0):=M.v
 have cS:W.cell? ⟨w.heap.size,4,none⟩=some (.int .i64 s):=M.s
 have cQ:W.cell? ⟨w.heap.size,5,none⟩=some (.bool false):=M.q
 have cR:W.cell? ⟨w.heap.size,6,none⟩=some (.slice none 0 0):=M.rs
 have c1:W.cell? ⟨w.heap.size,43,none⟩=some (.int .i64 0):=M.ce
 have c2:W.cell? ⟨w.heap.size,44,none⟩=some (.int .i64 0):=M.cl
 have c3:W.cell? ⟨w.heap.size,45,none⟩=some (.int .i64 0):=M.cv
 have cH:W.cell? ⟨w.heap.size,46,none⟩=some (.slice none 0 0):=M.he
 have cN:W.cell? ⟨w.heap.size,47,none⟩=some (.slice none 0 0):=M.ne
 have cT:W.cell? ⟨w.heap.size,117,none⟩=some (.string ⟨#[]⟩):=M.st
 have cG:W.cell? ⟨w.heap.size,118,none⟩=some (.slice none 0 0):=M.sg
 have rV:W.rangeAt (w.heap.size) 7 x.cells:=M.vt
 have rD:W.rangeAt (w.heap.size) 48 (v8 d):=M.d
 have rC:W.rangeAt (w.heap.size) 80 (cert0 Vt.zero):=M.ct
 have cK':W.cell? ⟨w.heap.size+1,0,none⟩=some (.int .i64 k):=M'.k
 have cE':W.cell? ⟨w.heap.size+1,1,none⟩=some (.int .i64 e):=M'.e
 have cL':W.cell? ⟨w.heap.size+1,2,none⟩=some (.int .i64 0):=M'.l
 have cV':W.cell? ⟨w.heap.size+1,3,none⟩=some (.int .i64 0):=M'.v
 have cS':W.cell? ⟨w.heap.size+1,4,none⟩=some (.int .i64 s):=M'.s
 have cQ':W.cell? ⟨w.heap.size+1,5,none⟩=some (.bool false):=M'.q
 have cR':W.cell? ⟨w.heap.size+1,6,none⟩=some (.slice none 0 0):=M'.rs
 have c1':W.cell? ⟨w.heap.size+1,43,none⟩=some (.int .i64 0):=M'.ce
 have c2':W.cell? ⟨w.heap.size+1,44,none⟩=some (.int .i64 0):=M'.cl
 have c3':W.cell? ⟨w.heap.size+1,45,none⟩=some (.int .i64 0):=M'.cv
 have cH':W.cell? ⟨w.heap.size+1,46,none⟩=some (.slice none 0 0):=M'.he
 have cN':W.cell? ⟨w.heap.size+1,47,none⟩=some (.slice none 0 0):=M'.ne
 have cT':W.cell? ⟨w.heap.size+1,117,none⟩=some (.string ⟨#[]⟩):=M'.st
 have cG':W.cell? ⟨w.heap.size+1,118,none⟩=some (.slice none 0 0):=M'.sg
 have rV':W.rangeAt (w.heap.size+1) 7 x.cells:=M'.vt
 have rD':W.rangeAt (w.heap.size+1) 48 (v8 d):=M'.d
 have rC':W.rangeAt (w.heap.size+1) 80 (cert0 Vt.zero):=M'.ct
 clear hA hA' hm M M' hx hd hdb
 generalize (Ms.plain k e s x d).cells=q at *
 generalize x.cells=u at *
 generalize v8 d=ud at *
 generalize cert0 Vt.zero=uc at *
 go_enter func14,ntmps14
 go_upto_region 1 with fail
 go_name_world w1 hw1
 obtain rfl:W=w1:=hW.out.symm.trans hw1
 clear hw1 hW
 try simp only[Act.put]
 refine wp_region_list ?_
 refine wpList_step fun K hK=>?_
 go_simp
 refine hK _ _ ?_
 clear hK K
 refine wpList_step fun K hK=>?_
 go_simp
 refine hK _ _ ?_
 clear hK K
 refine wpList_step fun K hK=>?_
 go_simp
 refine hK _ _ ?_
 clear hK K
 refine wpList_step fun K hK=>?_
 go_simp
 refine hK _ _ ?_
 clear hK K
 refine wpList_step fun K hK=>?_
 go_simp
 refine hK _ _ ?_
 clear hK K
 refine wpList_step fun K hK=>?_
 go_simp
 refine hK _ _ ?_
 clear hK K
 refine wpList_step fun K hK=>?_
 go_simp
 refine hK _ _ ?_
 clear hK K
 refine wpList_step fun K hK=>?_
 go_simp
 refine hK _ _ ?_
 clear hK K
 refine wpList_step fun K hK=>?_
 go_simp
 refine hK _ _ ?_
 clear hK K
 refine wpList_step fun K hK=>?_
 go_simp
 refine hK _ _ ?_
 clear hK K
 refine wpList_step fun K hK=>?_
 go_simp
 refine hK _ _ ?_
 clear hK K
 refine wpList_step fun K hK=>?_
 go_simp
 refine hK _ _ ?_
 clear hK K
 refine wpList_step fun K hK=>?_
 go_simp
 refine hK _ _ ?_
 clear hK K
 refine wpList_step fun K hK=>?_
 go_simp
 refine hK _ _ ?_
 clear hK K
 refine wpList_step fun K hK=>?_
 go_simp
 refine hK _ _ ?_
 clear hK K
 refine wpList_step fun K hK=>?_
 go_simp
 refine hK _ _ ?_
 clear hK K
 refine wpList_step fun K hK=>?_
 go_simp
 refine hK _ _ ?_
 clear hK K
 refine wpList_step fun K hK=>?_
 go_simp
 refine hK _ _ ?_
 clear hK K
 refine wpList_step fun K hK=>?_
 go_simp
 refine hK _ _ ?_
 clear hK K
 refine wpList_step fun K hK=>?_
 go_simp
 refine hK _ _ ?_
 clear hK K
 refine wpList_step fun K hK=>?_
 go_simp
 refine hK _ _ ?_
 clear hK K
 refine wpList_step fun K hK=>?_
 go_simp
 refine hK _ _ ?_
 clear hK K
 refine wpList_step fun K hK=>?_
 go_simp
 refine hK _ _ ?_
 clear hK K
 refine wpList_step fun K hK=>?_
 go_simp
 refine hK _ _ ?_
 clear hK K
 refine wpList_step fun K hK=>?_
 go_simp
 refine hK _ _ ?_
 clear hK K
 refine wpList_step fun K hK=>?_
 go_simp
 refine hK _ _ ?_
 clear hK K
 refine wpList_step fun K hK=>?_
 go_simp
 refine hK _ _ ?_
 clear hK K
 refine wpList_step fun K hK=>?_
 go_simp
 refine hK _ _ ?_
 clear hK K
 refine wpList_step fun K hK=>?_
 go_simp
 refine hK _ _ ?_
 clear hK K
 refine wpList_step fun K hK=>?_
 go_simp
 refine hK _ _ ?_
 clear hK K
 refine wpList_step fun K hK=>?_
 go_simp
 refine hK _ _ ?_
 clear hK K
 refine wpList_step fun K hK=>?_
 go_simp
 refine hK _ _ ?_
 clear hK K
 refine wpList_step fun K hK=>?_
 go_simp
 refine hK _ _ ?_
 clear hK K
 refine wpList_step fun K hK=>?_
 go_simp
 refine hK _ _ ?_
 clear hK K
 refine wpList_step fun K hK=>?_
 go_simp
 refine hK _ _ ?_
 clear hK K
 refine zS (by rfl) 43 _ rfl _ _ rfl u _ rV underlying43 rfl ix ?_
 refine wpList_step fun K hK=>?_
 go_simp
 refine hK _ _ ?_
 clear hK K
 refine zS (by rfl) 43 _ rfl _ _ rfl u _ rV' underlying43 rfl ix ?_
 refine wpList_step fun K hK=>?_
 go_simp
 try rw[hq]
 try go_simp
 refine hK _ _ ?_
 clear hK K
 refine wpList_step fun K hK=>?_
 go_simp
 refine hK _ _ ?_
 clear hK K
 refine wpList_step fun K hK=>?_
 go_simp
 refine hK _ _ ?_
 clear hK K
 refine wpList_step fun K hK=>?_
 go_simp
 refine hK _ _ ?_
 clear hK K
 refine zS (by rfl) 41 _ rfl _ _ rfl ud _ rD underlying41 rfl id ?_
 refine wpList_step fun K hK=>?_
 go_simp
 refine hK _ _ ?_
 clear hK K
 refine zS (by rfl) 41 _ rfl _ _ rfl ud _ rD' underlying41 rfl id ?_
 refine wpList_step fun K hK=>?_
 go_simp
 try rw[hq2]
 try go_simp
 refine hK _ _ ?_
 clear hK K
 refine wpList_step fun K hK=>?_
 go_simp
 refine hK _ _ ?_
 clear hK K
 refine wpList_step fun K hK=>?_
 go_simp
 refine hK _ _ ?_
 clear hK K
 refine wpList_step fun K hK=>?_
 go_simp
 refine hK _ _ ?_
 clear hK K
 refine wpList_step fun K hK=>?_
 go_simp
 refine hK _ _ ?_
 clear hK K
 refine wpList_step fun K hK=>?_
 go_simp
 refine hK _ _ ?_
 clear hK K
 refine wpList_step fun K hK=>?_
 go_simp
 refine hK _ _ ?_
 clear hK K
 refine wpList_step fun K hK=>?_
 go_simp
 refine hK _ _ ?_
 clear hK K
 refine wpList_step fun K hK=>?_
 go_simp
 refine hK _ _ ?_
 clear hK K
 go_upto_region 3 with fail
 clear cK cE cL cV cS cK' cE' cL' cV' cS' rV rV' rD rD' cT cT' hq hq2
 obtain⟨r2,hb2,hz2,_⟩:=zA W #[.int .i64 0,.int .i64 0,.int .i64 0,.slice none 0 0] 46 [.int .i64 0,.int .i64 0,.int .i64 0,.slice none 0 0] rfl
 have hT2:=zK W #[.int .i64 0,.int .i64 0,.int .i64 0,.slice none 0 0] 46
 go_upto_region 4 with(refine wpList_store_mid rfl 46 _ _ rfl _ _ #[.int .i64 0,.int .i64 0,.int .i64 0,.slice none 0 0] rfl rfl hT2 iszH4 one4 ?_)
 go_name_world w2 hw2
 rw[show(W.alloc (.cells #[.int .i64 0,.int .i64 0,.int .i64 0,.slice none 0 0] 46)).setCells W.heap.size 0 [.int .i64 0,.int .i64 0,.int .i64 0,.slice none 0 0]=w2 from hw2]at r2 hb2 hz2
 have hs2:W.heap.size<w2.heap.size:=by omega
 clear hw2 hz2 hT2
 have up:=fun i v (h:W.cell? ⟨w.heap.size,i,none⟩=some v)=>(hb2.cell (p:=⟨w.heap.size,i,none⟩) (show w.heap.size<W.heap.size by omega)).trans h
 replace c1:=up _ _ c1
 replace c2:=up _ _ c2
 replace c3:=up _ _ c3
 replace cH:=up _ _ cH
 replace cQ:=up _ _ cQ
 replace cR:=up _ _ cR
 replace cN:=up _ _ cN
 replace cG:=up _ _ cG
 replace rC:=zd rC hb2 (by omega)
 clear up
 have up':=fun i v (h:W.cell? ⟨w.heap.size+1,i,none⟩=some v)=>(hb2.cell (p:=⟨w.heap.size+1,i,none⟩) (show w.heap.size+1<W.heap.size by omega)).trans h
 replace c1':=up' _ _ c1'
 replace c2':=up' _ _ c2'
 replace c3':=up' _ _ c3'
 replace cH':=up' _ _ cH'
 replace cQ':=up' _ _ cQ'
 replace cR':=up' _ _ cR'
 replace cN':=up' _ _ cN'
 replace cG':=up' _ _ cG'
 replace rC':=zd rC' hb2 (by omega)
 clear up'
 have hBa:=hB.trans (hb2.mono (by omega))
 clear hB
 obtain⟨r3,hb3,hz3,_⟩:=zA w2 #[.int .i64 0,.int .i64 0,.int .i64 0,.slice none 0 0] 46 [.int .i64 0,.int .i64 0,.int .i64 0,.slice none 0 0] rfl
 have hT3:=zK w2 #[.int .i64 0,.int .i64 0,.int .i64 0,.slice none 0 0] 46
 go_upto_region 5 with(refine wpList_store_mid rfl 46 _ _ rfl _ _ #[.int .i64 0,.int .i64 0,.int .i64 0,.slice none 0 0] rfl rfl hT3 iszH4 one4 ?_)
 go_name_world w3 hw3
 rw[show(w2.alloc (.cells #[.int .i64 0,.int .i64 0,.int .i64 0,.slice none 0 0] 46)).setCells w2.heap.size 0 [.int .i64 0,.int .i64 0,.int .i64 0,.slice none 0 0]=w3 from hw3]at r3 hb3 hz3
 have hs3:w2.heap.size<w3.heap.size:=by omega
 clear hw3 hz3 hT3
 have up:=fun i v (h:w2.cell? ⟨w.heap.size,i,none⟩=some v)=>(hb3.cell (p:=⟨w.heap.size,i,none⟩) (show w.heap.size<w2.heap.size by omega)).trans h
 replace cQ:=up _ _ cQ
 replace cR:=up _ _ cR
 replace cN:=up _ _ cN
 replace cG:=up _ _ cG
 replace rC:=zd rC hb3 (by omega)
 clear up
 have up':=fun i v (h:w2.cell? ⟨w.heap.size+1,i,none⟩=some v)=>(hb3.cell (p:=⟨w.heap.size+1,i,none⟩) (show w.heap.size+1<w2.heap.size by omega)).trans h
 replace cQ':=up' _ _ cQ'
 replace cR':=up' _ _ cR'
 replace cN':=up' _ _ cN'
 replace cG':=up' _ _ cG'
 replace rC':=zd rC' hb3 (by omega)
 clear up'
 have hBb:=hBa.trans (hb3.mono (by omega))
 have d0:=zd r2 hb3 (by omega) 0 _ rfl
 have d1:=zd r2 hb3 (by omega) 1 _ rfl
 have d2:=zd r2 hb3 (by omega) 2 _ rfl
 have d3:=zd r2 hb3 (by omega) 3 _ rfl
 have f0:=r3 0 _ rfl
 have f1:=r3 1 _ rfl
 have f2:=r3 2 _ rfl
 have f3:=r3 3 _ rfl
 simp only[Nat.zero_add,Nat.add_zero]at d0 d1 d2 d3 f0 f1 f2 f3
 have hs4:w.heap.size+2≤w3.heap.size:=by omega
 clear r2 r3 hb2 hb3 hBa c1 c2 c3 cH c1' c2' c3' cH' hs hs2 hs3
 go_wp2_with fail
 refine(xsH0 _).mono ?_
 rintro e4 w4 ⟨rfl,hx⟩
 obtain rfl:=hx.symm
 clear hx d0 d1 d2 d3 f0 f1 f2 f3
 go_upto_region 7 with fail
 go_wp2_with fail
 refine(xbsame0 false _).mono ?_
 rintro e5 w5 ⟨rfl,hb5⟩
 have up:=fun i v (h:w3.cell? ⟨w.heap.size,i,none⟩=some v)=>(hb5.cell (p:=⟨w.heap.size,i,none⟩) (show w.heap.size<w3.heap.size by omega)).trans h
 replace cN:=up _ _ cN
 replace cG:=up _ _ cG
 replace rC:=zd rC hb5 (by omega)
 clear up
 have up':=fun i v (h:w3.cell? ⟨w.heap.size+1,i,none⟩=some v)=>(hb5.cell (p:=⟨w.heap.size+1,i,none⟩) (show w.heap.size+1<w3.heap.size by omega)).trans h
 replace cN':=up' _ _ cN'
 replace cG':=up' _ _ cG'
 replace rC':=zd rC' hb5 (by omega)
 clear up'
 have hs5:=Nat.le_trans hs4 hb5.size
 have hB5:=hBb.trans (hb5.mono (by omega))
 clear cQ cR cQ' cR' hb5 hs4 hBb
 go_wp2_with fail
 refine(xsN0 _).mono ?_
 rintro e6 w6 ⟨rfl,hx⟩
 obtain rfl:=hx.symm
 clear hx cN cN'
 go_wp2_with (first|(refine zS (by rfl) 50 _ rfl _ _ rfl uc _ rC underlying50 rfl ic ?_)|(refine zS (by rfl) 50 _ rfl _ _ rfl uc _ rC' underlying50 rfl ic ?_))
 refine(cC _).mono ?_
 rintro e7 w7 ⟨rfl,hb7⟩
 have up:=fun i v (h:w5.cell? ⟨w.heap.size,i,none⟩=some v)=>(hb7.cell (p:=⟨w.heap.size,i,none⟩) (show w.heap.size<w5.heap.size by omega)).trans h
 replace cG:=up _ _ cG
 clear up
 have up':=fun i v (h:w5.cell? ⟨w.heap.size+1,i,none⟩=some v)=>(hb7.cell (p:=⟨w.heap.size+1,i,none⟩) (show w.heap.size+1<w5.heap.size by omega)).trans h
 replace cG':=up' _ _ cG'
 clear up'
 have hB7:=hB5.trans (hb7.mono (by omega))
 clear rC rC' hb7 hs5 hB5 cC
 go_wp2_with fail
 refine(xsS0 _).mono ?_
 rintro e8 w8 ⟨rfl,hx⟩
 obtain rfl:=hx.symm
 clear hx cG cG'
 go_wp2_with fail
 go_ret
 exact⟨rfl,hB7⟩
theorem zba {x:Vt} (hx:x.ok):(Ms.plain 2 0 0 x zeros32).ok:=Ms.plain_ok 2 0 0 hx zv zD
theorem fmay2 (x:Vt) (hx:x.ok) (w:World):Calls prog 86 #[.agg (Ms.plain 2 0 0 x zeros32).cells.toArray] w fun e w'=>e=.returned (.bool x.may)∧Below w.heap.size w w':=by
 have hm:(Ms.plain 2 0 0 x zeros32).ok:=zba hx
 have hB:Below w.heap.size w (w.alloc (.cells (Ms.plain 2 0 0 x zeros32).cells.toArray 52)):=(Below.refl _ _).alloc (Nat.le_refl _) _
 have hs:w.heap.size<(w.alloc (.cells (Ms.plain 2 0 0 x zeros32).cells.toArray 52)).heap.size:=by simp
 have M:=(Ms.plain 2 0 0 x zeros32).box hm w
 obtain⟨W,hW⟩:∃W,Hid (w.alloc (.cells (Ms.plain 2 0 0 x zeros32).cells.toArray 52)=W):=⟨_,hide rfl⟩
 rw[hW.out]at hB hs M
 have cK:W.cell? ⟨w.heap.size,0,none⟩=some (.int .i64 2):=M.k
 have cE:W.cell? ⟨w.heap.size,1,none⟩=some (.int .i64 0):=M.e
 have cL:W.cell? ⟨w.heap.size,2,none⟩=some (.int .i64 0):=M.l
 have cV:W.cell? ⟨w.heap.size,3,none⟩=some (.int .i64 0):=M.v
 have cS:W.cell? ⟨w.heap.size,4,none⟩=some (.int .i64 0):=M.s
 have cQ:W.cell? ⟨w.heap.size,5,none⟩=some (.bool false):=M.q
 have cR:W.cell? ⟨w.heap.size,6,none⟩=some (.slice none 0 0):=M.rs
 have c1:W.cell? ⟨w.heap.size,43,none⟩=some (.int .i64 0):=M.ce
 have c2:W.cell? ⟨w.heap.size,44,none⟩=some (.int .i64 0):=M.cl
 have c3:W.cell? ⟨w.heap.size,45,none⟩=some (.int .i64 0):=M.cv
 have cH:W.cell? ⟨w.heap.size,46,none⟩=some (.slice none 0 0):=M.he
 have cN:W.cell? ⟨w.heap.size,47,none⟩=some (.slice none 0 0):=M.ne
 have cT:W.cell? ⟨w.heap.size,117,none⟩=some (.string ⟨#[]⟩):=M.st
 have cG:W.cell? ⟨w.heap.size,118,none⟩=some (.slice none 0 0):=M.sg
 have rV:W.rangeAt w.heap.size 7 x.cells:=M.vt
 have ix:(prog.info? 43).map (·.size)=some x.cells.length:=by rw[hx.len];exact iszV
 have i1:inB 0 1048576=true:=rfl
 have i2:inB 0 64=true:=rfl
 have i3:inB 0 1099511627776=true:=rfl
 have i4:=i3
 have i5:=i3
 have cv:=fun w0=>zcQ x w0
 generalize x.may=b at *
 generalize (Ms.plain 2 0 0 x zeros32).cells=q at *
 generalize x.cells=u at *
 clear hm M hx
 go_enter func86,ntmps86
 go_upto_region 1 with fail
 go_name_world w1 hw1
 obtain rfl:W=w1:=hW.out.symm.trans hw1
 clear hw1 hW
 go_upto_region 5 with(go_at_call 135;refine(zak _ _ _).mono ?_;rintro e1 w1 ⟨rfl,hx⟩;obtain rfl:=hx.symm;clear hx;(first|rw[i1]|rw[i2]|rw[i3]|rw[i4]|rw[i5]))
 go_wp2_with (refine zS (by rfl) 43 _ rfl _ _ rfl u _ rV underlying43 rfl ix ?_)
 refine(cv _).mono ?_
 rintro e2 w2 ⟨rfl,hb2⟩
 have up:=fun i v (h:W.cell? ⟨w.heap.size,i,none⟩=some v)=>(hb2.cell (p:=⟨w.heap.size,i,none⟩) (show w.heap.size<W.heap.size by omega)).trans h
 replace cK:=up _ _ cK
 replace cQ:=up _ _ cQ
 replace cR:=up _ _ cR
 replace c1:=up _ _ c1
 replace c2:=up _ _ c2
 replace c3:=up _ _ c3
 replace cH:=up _ _ cH
 replace cN:=up _ _ cN
 replace cT:=up _ _ cT
 replace cG:=up _ _ cG
 clear up
 replace hB:=hB.trans (hb2.mono (by omega))
 replace hs:=Nat.lt_of_lt_of_le hs hb2.size
 clear cE cL cV cS rV cv hb2
 cases b
 ·go_wp2
  go_ret
  exact⟨rfl,hB⟩
 ·go_wp2_with fail
  refine(batMay0 false _).mono ?_
  rintro e3 w3 ⟨rfl,hb3⟩
  have up:=fun i v (h:w2.cell? ⟨w.heap.size,i,none⟩=some v)=>(hb3.cell (p:=⟨w.heap.size,i,none⟩) (show w.heap.size<w2.heap.size by omega)).trans h
  replace c1:=up _ _ c1
  replace c2:=up _ _ c2
  replace c3:=up _ _ c3
  replace cH:=up _ _ cH
  replace cN:=up _ _ cN
  replace cT:=up _ _ cT
  replace cG:=up _ _ cG
  clear up
  have hs3:=Nat.lt_of_lt_of_le hs hb3.size
  have hB3:=hB.trans (hb3.mono (by omega))
  clear cQ cR hb3 hB hs
  go_wp2_with fail
  refine(chgMay0 _).mono ?_
  rintro e4 w4 ⟨rfl,hb4⟩
  have up:=fun i v (h:w3.cell? ⟨w.heap.size,i,none⟩=some v)=>(hb4.cell (p:=⟨w.heap.size,i,none⟩) (show w.heap.size<w3.heap.size by omega)).trans h
  replace cN:=up _ _ cN
  replace cT:=up _ _ cT
  replace cG:=up _ _ cG
  clear up
  have hs4:=Nat.lt_of_lt_of_le hs3 hb4.size
  have hB4:=hB3.trans (hb4.mono (by omega))
  clear c1 c2 c3 cH hb4 hB3 hs3
  go_wp2_with fail
  refine(amE0 _ _ (by omega) _).mono ?_
  rintro e5 w5 ⟨rfl,hx⟩
  obtain rfl:=hx.symm
  clear hx cN
  go_wp2_with fail
  refine(sigMay0 _).mono ?_
  rintro e6 w6 ⟨rfl,hx⟩
  obtain rfl:=hx.symm
  clear hx cT cG
  go_wp2_with fail
  go_ret
  exact⟨rfl,hB4⟩
theorem good0 (q:List Value) (k:Int) (b:Bool) (w:World) (hq:q.length=119) (h0:q[0]? =some (.int .i64 k)) (h1:1≤k) (h8:k≤8)
  (hb:∀w,Calls prog 85 #[.agg q.toArray] w (BareOk w q))
  (hsm:∀w,Calls prog 84 #[.agg q.toArray,.agg q.toArray] w fun e w'=>e=.returned (.bool true)∧Below w.heap.size w w')
  (hf:∀w,Calls prog 86 #[.agg q.toArray] w fun e w'=>e=.returned (.bool b)∧Below w.heap.size w w'):
  Calls prog 57 #[.agg q.toArray] w fun e w'=>e=.returned (.bool b)∧Below w.heap.size w w':=by
 have hB:Below w.heap.size w (w.alloc (.cells q.toArray 52)):=(Below.refl _ _).alloc (Nat.le_refl _) _
 have hs:w.heap.size<(w.alloc (.cells q.toArray 52)).heap.size:=by simp
 have hA:(w.alloc (.cells q.toArray 52)).rangeAt w.heap.size 0 q:=by simpa using zy w q.toArray 52
 have c0:=hA 0 _ h0
 simp only[Nat.add_zero]at c0
 have iq:(prog.info? 52).map (·.size)=some q.length:=by rw[hq];exact iszM
 clear hq h0
 go_enter func57,ntmps57
 go_upto_region 2 with fail
 obtain⟨w8,hw8⟩:∃w8,(w.alloc (.cells q.toArray 52)).drew=w8:=⟨_,rfl⟩
 have hB8:Below w.heap.size w w8:=by rw[←hw8];exact hB.drew
 have hA8:w8.rangeAt w.heap.size 0 q:=by rw[←hw8];exact(World.rangeAt_drew _ _ _ _).2 hA
 have hs8:w.heap.size<w8.heap.size:=by rw[←hw8];exact hs
 refine zG (S:=(Below w8.heap.size w8)) 12 rfl (by kernel_rfl) ?_
 rw[hw8]
 clear hw8 hA hB hs c0
 have hS:(Below w8.heap.size w8) w8:=Below.refl _ _
 refine hs_t 0 12 (?_) rfl (by kernel_rfl) (by kernel_rfl) (by kernel_rfl) (by rfl) ?_ hS rfl ?_
 rotate_left
 ·intro w' hw
  go_simp
  try with_reducible rfl
 simp only[nz]
 refine hs_t 1 13 (?_) rfl (by kernel_rfl) (by kernel_rfl) (by kernel_rfl) (by rfl) ?_ hS rfl ?_
 rotate_left
 ·intro w' hw
  go_simp
  try with_reducible rfl
 simp only[nz]
 refine hs_t 2 14 (.agg q.toArray) rfl (by kernel_rfl) (by kernel_rfl) (by kernel_rfl) (by rfl) (fun w' hw=>zX rfl rfl (run_loadVar_mid (P:=prog) w' w.heap.size 0 52 q _ (zd hA8 hw hs8) underlying52 rfl iq)) hS rfl ?_
 simp only[nz]
 refine hs_t 3 15 (.agg q.toArray) rfl (by kernel_rfl) (by kernel_rfl) (by kernel_rfl) (by rfl) (fun w' hw=>zX rfl rfl (run_loadVar_mid (P:=prog) w' w.heap.size 0 52 q _ (zd hA8 hw hs8) underlying52 rfl iq)) hS rfl ?_
 simp only[nz]
 refine zx (i:=4) (d:=some 16) rfl (by kernel_rfl) (by rfl) (by go_simp;first|done|exact⟨rfl,rfl⟩|with_reducible rfl) rfl ?_
 refine(hb _).mono ?_
 rintro e' wn1 ⟨rfl,hb1⟩
 have hS:(Below w8.heap.size w8) wn1:=hS.trans (hb1.mono hS.size)
 refine⟨_,rfl,hS,?_⟩
 simp only[nz]
 refine zx (i:=5) (d:=some 17) rfl (by kernel_rfl) (by rfl) (by go_simp;first|done|exact⟨rfl,rfl⟩|with_reducible rfl) rfl ?_
 refine(hsm _).mono ?_
 rintro e' wn2 ⟨rfl,hb2⟩
 have hS:(Below w8.heap.size w8) wn2:=hS.trans (hb2.mono hS.size)
 refine⟨_,rfl,hS,?_⟩
 simp only[nz]
 refine hs_t 6 18 (?_) rfl (by kernel_rfl) (by kernel_rfl) (by kernel_rfl) (by rfl) ?_ hS rfl ?_
 rotate_left
 ·intro w' hw
  go_simp
  try with_reducible rfl
 simp only[nz]
 refine hs_t 7 19 (?_) rfl (by kernel_rfl) (by kernel_rfl) (by kernel_rfl) (by rfl) ?_ hS rfl ?_
 rotate_left
 ·intro w' hw
  go_simp
  try with_reducible rfl
 simp only[nz]
 refine hs_t 8 20 (.agg q.toArray) rfl (by kernel_rfl) (by kernel_rfl) (by kernel_rfl) (by rfl) (fun w' hw=>zX rfl rfl (run_loadVar_mid (P:=prog) w' w.heap.size 0 52 q _ (zd hA8 hw hs8) underlying52 rfl iq)) hS rfl ?_
 simp only[nz]
 refine zx (i:=9) (d:=some 21) rfl (by kernel_rfl) (by rfl) (by go_simp;first|done|exact⟨rfl,rfl⟩|with_reducible rfl) rfl ?_
 refine(hf _).mono ?_
 rintro e' wn3 ⟨rfl,hb3⟩
 have hS:(Below w8.heap.size w8) wn3:=hS.trans (hb3.mono hS.size)
 refine⟨_,rfl,hS,?_⟩
 simp only[nz]
 refine hs_t 10 22 (?_) rfl (by kernel_rfl) (by kernel_rfl) (by kernel_rfl) (by rfl) ?_ hS rfl ?_
 rotate_left
 ·intro w' hw
  go_simp
  try with_reducible rfl
 simp only[nz]
 refine hs_t 11 2 (?_) rfl (by kernel_rfl) (by kernel_rfl) (by kernel_rfl) (by rfl) ?_ hS rfl ?_
 rotate_left
 ·intro w' hw
  go_simp
  try with_reducible rfl
 simp only[nz]
 refine zE (by kernel_rfl) ?_
 go_wp2
 go_ret
 exact⟨rfl,hB8.trans (hS.mono (by omega))⟩
theorem ziZ (w:World):(convert 59 9 (.slice none 0 0)).run prog w=.ok (.string (strOf [])) w:=by kernel_rfl
theorem zdo {w:World} {B:Nat} {v:Value} {zs:List Int} (h:Mine w B v zs):(convert 59 9 v).run prog w=.ok (.string (strOf zs)) w:=by
 rcases zaV h.1 with⟨rfl,h0,_⟩|⟨g,cap,rfl,_,_,_,_,hr⟩
 ·have:zs=[]:=List.eq_nil_of_length_eq_zero h0
  subst this
  exact ziZ w
 ·exact zeJ hr
theorem zdY (w:World):WrAt (w.alloc (.cells #[.slice none 0 0,.bool false] 116)) w.heap.size (.slice none 0 0) [] false where
 lt:=by simp
 c0:=by have:=zy w #[.slice none 0 0,.bool false] 116 0 _ rfl;exact this
 c1:=by have:=zy w #[.slice none 0 0,.bool false] 116 1 _ rfl;exact this
 th:=zK w #[.slice none 0 0,.bool false] 116
 me:=⟨World.ownsRow_nil _ _ _ _,by simp⟩
def encV (b:Bool) (zs:List Int):Value:=if b then .tuple #[.string (strOf zs),.int .i64 0]else .tuple #[.string ⟨#[]⟩,.int .i64 130]
def Writes (q:List Value) (zs:List Int):Prop:=∀(X:Nat) (w:World),WrAt w X (.slice none 0 0) [] false→Calls prog 58 #[.pointer (some ⟨X,0,none⟩),.agg q.toArray] w fun e w'=>∃v',e=.returned (.tuple #[])∧WrAt w' X v' zs false∧Off (WrF X (.slice none 0 0)) w w'∧RowOn w (.slice none 0 0) v'
theorem enc0 (q:List Value) (b:Bool) (zs:List Int) (w:World) (hq:q.length=119)
  (hg:∀w,Calls prog 57 #[.agg q.toArray] w fun e w'=>e=.returned (.bool b)∧Below w.heap.size w w') (hw:b=true→Writes q zs):
  Calls prog 22 #[.agg q.toArray] w fun e w'=>e=.returned (encV b zs)∧Below w.heap.size w w':=by
 have hB:Below w.heap.size w (w.alloc (.cells q.toArray 52)):=(Below.refl _ _).alloc (Nat.le_refl _) _
 have hs:w.heap.size<(w.alloc (.cells q.toArray 52)).heap.size:=by simp
 have hA:(w.alloc (.cells q.toArray 52)).rangeAt w.heap.size 0 q:=by simpa using zy w q.toArray 52
 have iq:(prog.info? 52).map (·.size)=some q.length:=by rw[hq];exact iszM
 clear hq
 cases b
 ·show Calls prog 22 #[.agg q.toArray] w fun e w'=>e=.returned (.tuple #[.string ⟨#[]⟩,.int .i64 130])∧Below w.heap.size w w'
  clear hw
  go_enter func22,ntmps22
  go_upto_region 1 with fail
  go_name_world w1 hw1
  rw[show w.alloc (.cells q.toArray 52)=w1 from hw1]at hB hs hA
  clear hw1
  go_wp2_with (refine wpList_load_mid rfl 52 _ rfl _ _ rfl q _ hA underlying52 rfl iq ?_)
  refine(hg _).mono ?_
  rintro e2 w2 ⟨rfl,hb2⟩
  have hB2:=hB.trans (hb2.mono (by omega))
  clear hA hg hB hb2
  go_wp2
  go_ret2
  exact⟨rfl,hB2⟩
 ·show Calls prog 22 #[.agg q.toArray] w fun e w'=>e=.returned (.tuple #[.string (strOf zs),.int .i64 0])∧Below w.heap.size w w'
  replace hw:=hw rfl
  obtain⟨sz,hsz⟩:∃sz,Hid (strOf zs=sz):=⟨_,hide rfl⟩
  rw[hsz.out]
  go_enter func22,ntmps22
  go_upto_region 1 with fail
  go_name_world w1 hw1
  rw[show w.alloc (.cells q.toArray 52)=w1 from hw1]at hB hs hA
  clear hw1
  go_wp2_with (refine wpList_load_mid rfl 52 _ rfl _ _ rfl q _ hA underlying52 rfl iq ?_)
  refine(hg _).mono ?_
  rintro e2 w2 ⟨rfl,hb2⟩
  have hB2:=hB.trans (hb2.mono (by omega))
  have hA2:=zd hA hb2 hs
  have hs2:=Nat.lt_of_lt_of_le hs hb2.size
  clear hA hg hB hb2 hs
  go_upto_region 4 with fail
  have hN:=zdY w2
  have hB3:Below w2.heap.size w2 (w2.alloc (.cells #[.slice none 0 0,.bool false] 116)):=(Below.refl _ _).alloc (Nat.le_refl _) _
  go_name_world w3 hw3
  rw[show w2.alloc (.cells #[.slice none 0 0,.bool false] 116)=w3 from hw3]at hN hB3
  clear hw3
  have hA3:=zd hA2 hB3 hs2
  have hB4:=hB2.trans (hB3.mono (by omega))
  have cw:=hw w2.heap.size w3 hN
  have hs3:=hN.lt
  clear hA2 hB2 hB3 hw hN
  go_wp2_with (refine wpList_load_mid rfl 52 _ rfl _ _ rfl q _ hA3 underlying52 rfl iq ?_)
  refine cw.mono ?_
  rintro e5 w5 ⟨v5,rfl,hW5,hO5,_⟩
  have c0:=hW5.c0
  have c1:=hW5.c1
  have hcs:=zdo hW5.me
  have hB5:=hB4.trans (hO5.below (n:=w.heap.size) (by omega) (fun b hb hf=>by
   rcases hf with hf|hf
   ·omega
   ·cases hf))
  obtain⟨a5,cap5,rfl⟩:∃a cap,v5=.slice a zs.length cap:=by
   rcases zaV hW5.me.1 with⟨rfl,h0,_⟩|⟨g,cap,rfl,_⟩
   ·exact⟨none,0,by rw[h0]⟩
   ·exact⟨_,cap,rfl⟩
  rw[hsz.out]at hcs
  clear hsz cw hW5 hO5 hA3 hB4
  go_wp2
  go_ret2
  exact⟨rfl,hB5⟩
theorem zbx {zs bs:List Int} (h:zs.length+bs.length≤4194304):wrS (zs,false) bs=(zs++bs,false):=by
 have e:fullB false bs.length zs=false:=by
  unfold fullB
  rw[Bool.false_or]
  exact decide_eq_false (by omega)
 unfold wrS
 simp only[e,zbH]
theorem zae {n:Int} (h:n≤9223372036854775807):(putL n).length≤9:=zab n (by omega)
theorem wrN1 {zs:List Int} {a:Int} (ha:a≤9223372036854775807) (hz:zs.length≤1000):wrN (zs,false) [a]=(zs++putL a,false):=by
 have:=zae ha
 show wrS (zs,false) (putL a)=_
 rw[zbx (by omega)]
theorem wrN4 {zs:List Int} {a b c d:Int} (ha:a≤9223372036854775807) (hb:b≤9223372036854775807) (hc:c≤9223372036854775807) (hd:d≤9223372036854775807) (hz:zs.length≤1000):wrN (zs,false) [a,b,c,d]=(zs++putL a++putL b++putL c++putL d,false):=by
 have h1:=zae ha
 have h2:=zae hb
 have h3:=zae hc
 have h4:=zae hd
 show wrS (wrS (wrS (wrS (zs,false) (putL a)) (putL b)) (putL c)) (putL d)=_
 rw[zbx (by omega),zbx (by rw[List.length_append];omega),zbx (by simp only[List.length_append];omega),zbx (by simp only[List.length_append];omega)]
def voteL (x:Vt):List Int:=putL 2++putL x.k++putL x.e++putL x.v++putL x.s++x.d
theorem writes2 {x:Vt} (hx:x.ok):Writes (Ms.plain 2 0 0 x zeros32).cells (voteL x):=fun X w h=>by
 have:=wmsg2 X (.slice none 0 0) ([],false) (Ms.plain 2 0 0 x zeros32) w (zba hx) rfl h (by simp)
 have e:wrS (wrN (wrN ([],false) [2]) [x.k,x.e,x.v,x.s]) x.d=(voteL x,false):=by
  have p:=@zae 2 (by omega)
  have h1:=zae hx.k
  have h2:=zae hx.e
  have h3:=zae hx.v
  have h4:=zae hx.s
  have h5:=hx.dl
  rw[wrN1 (by omega) (by simp),List.nil_append,wrN4 hx.k hx.e hx.v hx.s (by omega),zbx (by simp only[List.length_append];omega)]
  rfl
 show Calls _ _ _ w _
 have e1:(wrS (wrN (wrN ([],false) [2]) [(Ms.plain 2 0 0 x zeros32).vt.k,(Ms.plain 2 0 0 x zeros32).vt.e,(Ms.plain 2 0 0 x zeros32).vt.v,(Ms.plain 2 0 0 x zeros32).vt.s]) (Ms.plain 2 0 0 x zeros32).vt.d)=(voteL x,false):=e
 rw[e1]at this
 exact this
theorem good2 (x:Vt) (hx:x.ok) (w:World):Calls prog 57 #[.agg (Ms.plain 2 0 0 x zeros32).cells.toArray] w fun e w'=>e=.returned (.bool x.may)∧Below w.heap.size w w':=
 good0 _ 2 x.may w (zba hx).len rfl (by omega) (by omega) (fun w=>bare2 x hx w) (fun w=>msame0 2 0 0 x zeros32 hx zv zD w) (fun w=>fmay2 x hx w)
theorem enc2 (x:Vt) (hx:x.ok) (w:World):Calls prog 22 #[.agg (Ms.plain 2 0 0 x zeros32).cells.toArray] w fun e w'=>e=.returned (encV x.may (voteL x))∧Below w.heap.size w w':=
 enc0 _ _ _ w (zba hx).len (fun w=>good2 x hx w) (fun _=>writes2 hx)
def optS (b:Bool) (zs:List Int):ByteArray:=if b then strOf zs else⟨#[]⟩
theorem zfQ (b:Bool) (zs:List Int):∃n:Int,encV b zs=.tuple #[.string (optS b zs),.int .i64 n]:=by
 cases b
 ·exact⟨130,rfl⟩
 ·exact⟨0,rfl⟩
theorem bytesOf0 (q:List Value) (b:Bool) (zs:List Int) (w:World) (hq:q.length=119) (he:∀w,Calls prog 22 #[.agg q.toArray] w fun e w'=>e=.returned (encV b zs)∧Below w.heap.size w w'):
  Calls prog 160 #[.agg q.toArray] w fun e w'=>e=.returned (.string (optS b zs))∧Below w.heap.size w w':=by
 have hB:Below w.heap.size w (w.alloc (.cells q.toArray 52)):=(Below.refl _ _).alloc (Nat.le_refl _) _
 have hA:(w.alloc (.cells q.toArray 52)).rangeAt w.heap.size 0 q:=by simpa using zy w q.toArray 52
 have iq:(prog.info? 52).map (·.size)=some q.length:=by rw[hq];exact iszM
 obtain⟨n,hn⟩:=zfQ b zs
 rw[hn]at he
 clear hq hn
 generalize optS b zs=sz at *
 go_enter func160,ntmps160
 go_upto_region 1 with fail
 go_name_world w1 hw1
 rw[show w.alloc (.cells q.toArray 52)=w1 from hw1]at hB hA
 clear hw1
 go_wp2_with (refine wpList_load_mid rfl 52 _ rfl _ _ rfl q _ hA underlying52 rfl iq ?_)
 refine(he _).mono ?_
 rintro e2 w2 ⟨rfl,hb2⟩
 have hB2:=hB.trans (hb2.mono hB.size)
 clear hA he hB hb2
 go_wp2
 go_ret
 exact⟨rfl,hB2⟩
theorem zg5 (x:Vt) (hx:x.ok) (w:World):Calls prog 127 #[.agg x.cells.toArray] w fun e w'=>e=.returned (.string (optS x.may (voteL x)))∧Below w.heap.size w w':=by
 have hB:Below w.heap.size w (w.alloc (.cells x.cells.toArray 43)):=(Below.refl _ _).alloc (Nat.le_refl _) _
 have hA:=Vt.box w x
 have ix:(prog.info? 43).map (·.size)=some x.cells.length:=by rw[hx.len];exact iszV
 have hb:=zgc x hx
 have cb:=fun w=>bytesOf0 _ _ _ w (zba hx).len (fun w=>enc2 x hx w)
 clear hx
 generalize optS x.may (voteL x)=sz at *
 generalize (Ms.plain 2 0 0 x zeros32).cells=q at *
 generalize x.cells=u at *
 go_enter func127,ntmps127
 go_upto_region 1 with fail
 go_name_world w1 hw1
 rw[show w.alloc (.cells u.toArray 43)=w1 from hw1]at hB hA
 clear hw1
 go_wp2_with (first|(refine wpList_load_mid rfl 43 _ rfl _ _ rfl u _ hA underlying43 rfl ix ?_)|(refine zbI rfl 52 [(0,.const (.int .i64 2)),(6,.tmp 3)] rfl [(0,.int .i64 2),(6,.agg u.toArray)] _ rfl (hb _) ?_))
 refine(cb _).mono ?_
 rintro e2 w2 ⟨rfl,hb2⟩
 have hB2:=hB.trans (hb2.mono hB.size)
 clear hA cb hB hb2
 go_wp2
 go_ret
 exact⟨rfl,hB2⟩
theorem only2 (x:Vt) (hx:x.ok) (w:World):Calls prog 182 #[.agg (Ms.plain 2 0 0 x zeros32).cells.toArray] w (BareOk w (Ms.plain 2 0 0 x zeros32).cells):=by
 have hm:(Ms.plain 2 0 0 x zeros32).ok:=Ms.plain_ok 2 0 0 hx zv zD
 have hk:(Ms.plain 2 0 0 Vt.zero zeros32).ok:=Ms.plain_ok 2 0 0 Vt.zero_ok zv zD
 have hz0:Ms.zero.ok:=Ms.plain_ok 0 0 0 Vt.zero_ok zv zD
 have lm:=hm.len
 have lk:=hk.len
 have lz:=hz0.len
 have lx:=hx.len
 have om:=all_oneCell_toArray hm.one
 have ok:=all_oneCell_toArray hk.one
 have ox:=all_oneCell_toArray x.one
 have hz:=zeroM
 have hbk:=zaG 2
 have hat:∀(w':World) b,w'.rangeAt b 0 (Ms.plain 2 0 0 x zeros32).cells→w'.cell? ⟨b,0,none⟩=some (.int .i64 2)∧w'.rangeAt b 7 x.cells:=fun w' b h=>⟨(hm.at h).k,(hm.at h).vt⟩
 have hput:∀(w':World) b,w'.rangeAt b 0 (Ms.plain 2 0 0 Vt.zero zeros32).cells→w'.there b 7 36→(w'.setCells b 7 x.cells).rangeAt b 0 (Ms.plain 2 0 0 x zeros32).cells:=fun w' b h ht=>zay (mid:=Vt.zero.cells) h 7 rfl (by rw[lx];exact ht) (by rw[lx,Vt.zero_ok.len])
 have im:(prog.info? 52).map (·.size)=some (Ms.plain 2 0 0 x zeros32).cells.length:=by rw[lm];exact iszM
 have im':(prog.info? 52).map (·.size)=some (Ms.plain 2 0 0 x zeros32).cells.toArray.size:=by rw[List.size_toArray,lm];exact iszM
 have ik':(prog.info? 52).map (·.size)=some (Ms.plain 2 0 0 Vt.zero zeros32).cells.toArray.size:=by rw[List.size_toArray,lk];exact iszM
 have ix:(prog.info? 43).map (·.size)=some x.cells.length:=by rw[lx];exact iszV
 have ix':(prog.info? 43).map (·.size)=some x.cells.toArray.size:=by rw[List.size_toArray,lx];exact iszV
 clear hm hk hz0 hx
 generalize (Ms.plain 2 0 0 x zeros32).cells=q at *
 generalize (Ms.plain 2 0 0 Vt.zero zeros32).cells=qk at *
 generalize Ms.zero.cells=z at *
 generalize x.cells=u at *
 obtain⟨hA,hT,hB,hs⟩:=zdK q z w lz
 go_enter func182,ntmps182
 go_upto_region 1 with fail
 go_name_world w1 hw1
 rw[show(w.alloc (.cells q.toArray 52)).alloc (.cells z.toArray 52)=w1 from hw1]at hA hT hB hs
 clear hw1
 have c0:=(hat _ _ hA).1
 obtain⟨r2,hB2,hs2,hT2⟩:=zA w1 z.toArray 52 qk (by rw[List.size_toArray,lz,lk])
 rw[show z.toArray.size=119 by simpa using lz]at hT2
 have hTz:(w1.alloc (.cells z.toArray 52)).there w1.heap.size 0 qk.toArray.size:=by
  have:=zK w1 z.toArray 52
  rw[show z.toArray.size=119 by simpa using lz]at this
  rw[show qk.toArray.size=119 by simpa using lk]
  exact this
 go_upto_region 2 with(first|(refine zbI rfl 52 [(0,.tmp 5)] rfl [(0,.int .i64 2)] _ rfl (hbk _) ?_)|refine wpList_store_mid rfl 52 _ _ rfl _ _ qk.toArray rfl rfl hTz ik' ok ?_)
 go_name_world w2 hw2
 rw[show(w1.alloc (.cells z.toArray 52)).setCells w1.heap.size 0 qk=w2 from hw2]at r2 hB2 hs2 hT2
 have hs2':w1.heap.size<w2.heap.size:=by omega
 clear hw2 hs2 hTz
 have hA2:=zd hA hB2 (by omega)
 have hT1:=zq hT hB2 (by omega)
 have hBw:=hB.trans (hB2.mono (by omega))
 obtain⟨c2,v2⟩:=hat _ _ hA2
 have hTv:w2.there w1.heap.size 7 u.toArray.size:=by
  rw[show u.toArray.size=36 by simpa using lx]
  have:=zan hT2 7 36 (by omega)
  rwa [Nat.zero_add]at this
 have r3:=hput _ _ r2 (by have:=zan hT2 7 36 (by omega);rwa [Nat.zero_add]at this)
 have hT3:(w2.setCells w1.heap.size 7 u).there (w.heap.size+1) 0 q.toArray.size:=by
  rw[show q.toArray.size=119 by simpa using lm]
  exact World.there_setCells hT1 _ _ _
 have hB3:=zi (show w.heap.size≤w1.heap.size by omega) u 7 _ hBw
 clear hA hT hB hB2 hA2 hT1 hBw c0 r2 hT2
 go_upto_region 28 with(first|(refine wpList_load_mid rfl 43 _ rfl _ _ rfl u _ v2 underlying43 rfl ix ?_)|(refine wpList_store_mid rfl 43 _ _ rfl _ _ u.toArray rfl rfl hTv ix' ox ?_))
 go_name_world w3 hw3
 rw[show w2.setCells w1.heap.size 7 u=w3 from hw3]at r3 hT3 hB3
 clear hw3 hTv v2 c2
 have r4:=World.rangeAt_setCells_same w3 (w.heap.size+1) 0 q (by have:=hT3;rwa [List.size_toArray]at this)
 have hB4:=zi (show w.heap.size≤w.heap.size+1 by omega) q 0 _ hB3
 have hrs:=run_loadVar_mid (P:=prog) _ (w.heap.size+1) 0 52 q _ r4 underlying52 rfl im
 go_wp2_with (first|(refine wpList_load_mid rfl 52 _ rfl _ _ rfl q _ r3 underlying52 rfl im ?_)|(refine wpList_store_mid rfl 52 _ _ rfl _ _ q.toArray rfl rfl hT3 im' om ?_))
 exact bodyPost_ret (v:=.agg q.toArray) (by simp[results,results182,asAddr,hrs,Act.put]) rfl ⟨rfl,hB4⟩
theorem xgood2 (x:Vt) (hx:x.ok) (w:World):Calls prog 177 #[.agg (Ms.plain 2 0 0 x zeros32).cells.toArray] w fun er w'=>er=.returned (.bool x.may)∧Below w.heap.size w w':=by
 have hm:(Ms.plain 2 0 0 x zeros32).ok:=zba hx
 have hB:Below w.heap.size w (w.alloc (.cells (Ms.plain 2 0 0 x zeros32).cells.toArray 52)):=(Below.refl _ _).alloc (Nat.le_refl _) _
 have hs:w.heap.size<(w.alloc (.cells (Ms.plain 2 0 0 x zeros32).cells.toArray 52)).heap.size:=by simp
 have hA:(w.alloc (.cells (Ms.plain 2 0 0 x zeros32).cells.toArray 52)).rangeAt w.heap.size 0 (Ms.plain 2 0 0 x zeros32).cells:=by simpa using zy w (Ms.plain 2 0 0 x zeros32).cells.toArray 52
 have iq:(prog.info? 52).map (·.size)=some (Ms.plain 2 0 0 x zeros32).cells.length:=by rw[hm.len];exact iszM
 have hon:=fun w0=>only2 x hx w0
 have hsm:=fun w0=>xsame0 2 0 0 x zeros32 hx zv zD w0
 obtain⟨W,hW⟩:∃W,Hid (w.alloc (.cells (Ms.plain 2 0 0 x zeros32).cells.toArray 52)=W):=⟨_,hide rfl⟩
 rw[hW.out]at hB hs hA
 have M:=hm.at hA
 have cK:W.cell? ⟨w.heap.size,0,none⟩=some (.int .i64 2):=M.k
 have cE:W.cell? ⟨w.heap.size,1,none⟩=some (.int .i64 0):=M.e
 have cL:W.cell? ⟨w.heap.size,2,none⟩=some (.int .i64 0):=M.l
 have cV:W.cell? ⟨w.heap.size,3,none⟩=some (.int .i64 0):=M.v
 have cS:W.cell? ⟨w.heap.size,4,none⟩=some (.int .i64 0):=M.s
 have cQ:W.cell? ⟨w.heap.size,5,none⟩=some (.bool false):=M.q
 have cR:W.cell? ⟨w.heap.size,6,none⟩=some (.slice none 0 0):=M.rs
 have c1:W.cell? ⟨w.heap.size,43,none⟩=some (.int .i64 0):=M.ce
 have c2:W.cell? ⟨w.heap.size,44,none⟩=some (.int .i64 0):=M.cl
 have c3:W.cell? ⟨w.heap.size,45,none⟩=some (.int .i64 0):=M.cv
 have cH:W.cell? ⟨w.heap.size,46,none⟩=some (.slice none 0 0):=M.he
 have cN:W.cell? ⟨w.heap.size,47,none⟩=some (.slice none 0 0):=M.ne
 have cT:W.cell? ⟨w.heap.size,117,none⟩=some (.string ⟨#[]⟩):=M.st
 have cG:W.cell? ⟨w.heap.size,118,none⟩=some (.slice none 0 0):=M.sg
 have rV:W.rangeAt w.heap.size 7 x.cells:=M.vt
 have ix:(prog.info? 43).map (·.size)=some x.cells.length:=by rw[hx.len];exact iszV
 have cv:=fun w0=>zgs x w0
 generalize x.may=b at *
 have i1:inB 0 1048576=true:=rfl
 have i2:inB 0 64=true:=rfl
 have i3:inB 0 1099511627776=true:=rfl
 clear hm M hx
 generalize (Ms.plain 2 0 0 x zeros32).cells=q at *
 go_enter func177,ntmps177
 go_upto_region 1 with fail
 rw[show w.alloc (.cells q.toArray 52)=W from hW.out]
 clear hW
 obtain⟨w8,hw8⟩:∃w8,W.drew=w8:=⟨_,rfl⟩
 have hB8:Below w.heap.size w w8:=by rw[←hw8];exact hB.drew
 have hA8:w8.rangeAt w.heap.size 0 q:=by rw[←hw8];exact(World.rangeAt_drew _ _ _ _).2 hA
 have hs8:w.heap.size<w8.heap.size:=by rw[←hw8];exact hs
 have dr:∀i v,W.cell? ⟨w.heap.size,i,none⟩=some v→w8.cell? ⟨w.heap.size,i,none⟩=some v:=fun i v h=>by rw[←hw8];exact h
 replace cK:=dr _ _ cK
 replace cE:=dr _ _ cE
 replace cL:=dr _ _ cL
 replace cV:=dr _ _ cV
 replace cS:=dr _ _ cS
 replace cQ:=dr _ _ cQ
 replace cR:=dr _ _ cR
 replace c1:=dr _ _ c1
 replace c2:=dr _ _ c2
 replace c3:=dr _ _ c3
 replace cH:=dr _ _ cH
 replace cN:=dr _ _ cN
 replace cT:=dr _ _ cT
 replace cG:=dr _ _ cG
 replace rV:w8.rangeAt w.heap.size 7 x.cells:=by rw[←hw8];exact(World.rangeAt_drew _ _ _ _).2 rV
 refine zG (S:=(Below w8.heap.size w8)) 15 rfl (by kernel_rfl) ?_
 rw[hw8]
 clear hw8 hA hB hs dr
 have hS:(Below w8.heap.size w8) w8:=Below.refl _ _
 refine hs_t 0 5 (?_) rfl (by kernel_rfl) (by kernel_rfl) (by kernel_rfl) (by rfl) ?_ hS rfl ?_
 rotate_left
 ·intro w' hw
  go_simp
  try with_reducible rfl
 simp only[nz]
 refine hs_t 1 6 (?_) rfl (by kernel_rfl) (by kernel_rfl) (by kernel_rfl) (by rfl) ?_ hS rfl ?_
 rotate_left
 ·intro w' hw
  have:=(hw.cell (p:=⟨w.heap.size,0,none⟩) hs8).trans cK
  go_simp
  try with_reducible rfl
 simp only[nz]
 refine hs_t 2 7 (?_) rfl (by kernel_rfl) (by kernel_rfl) (by kernel_rfl) (by rfl) ?_ hS rfl ?_
 rotate_left
 ·intro w' hw
  go_simp
  try with_reducible rfl
 simp only[nz]
 refine hs_t 3 8 (?_) rfl (by kernel_rfl) (by kernel_rfl) (by kernel_rfl) (by rfl) ?_ hS rfl ?_
 rotate_left
 ·intro w' hw
  go_simp
  try with_reducible rfl
 simp only[nz]
 refine hs_t 4 9 (?_) rfl (by kernel_rfl) (by kernel_rfl) (by kernel_rfl) (by rfl) ?_ hS rfl ?_
 rotate_left
 ·intro w' hw
  go_simp
  try with_reducible rfl
 simp only[nz]
 refine hs_t 5 10 (?_) rfl (by kernel_rfl) (by kernel_rfl) (by kernel_rfl) (by rfl) ?_ hS rfl ?_
 rotate_left
 ·intro w' hw
  have:=(hw.cell (p:=⟨w.heap.size,0,none⟩) hs8).trans cK
  go_simp
  try with_reducible rfl
 simp only[nz]
 refine hs_t 6 11 (?_) rfl (by kernel_rfl) (by kernel_rfl) (by kernel_rfl) (by rfl) ?_ hS rfl ?_
 rotate_left
 ·intro w' hw
  go_simp
  try with_reducible rfl
 simp only[nz]
 refine hs_t 7 12 (?_) rfl (by kernel_rfl) (by kernel_rfl) (by kernel_rfl) (by rfl) ?_ hS rfl ?_
 rotate_left
 ·intro w' hw
  go_simp
  try with_reducible rfl
 simp only[nz]
 refine hs_t 8 13 (?_) rfl (by kernel_rfl) (by kernel_rfl) (by kernel_rfl) (by rfl) ?_ hS rfl ?_
 rotate_left
 ·intro w' hw
  go_simp
  try with_reducible rfl
 simp only[nz]
 refine hs_t 9 14 (.agg q.toArray) rfl (by kernel_rfl) (by kernel_rfl) (by kernel_rfl) (by rfl) (fun w' hw=>zX rfl rfl (run_loadVar_mid (P:=prog) w' w.heap.size 0 52 q _ (zd hA8 hw hs8) underlying52 rfl iq)) hS rfl ?_
 simp only[nz]
 refine hs_t 10 15 (.agg q.toArray) rfl (by kernel_rfl) (by kernel_rfl) (by kernel_rfl) (by rfl) (fun w' hw=>zX rfl rfl (run_loadVar_mid (P:=prog) w' w.heap.size 0 52 q _ (zd hA8 hw hs8) underlying52 rfl iq)) hS rfl ?_
 simp only[nz]
 refine zx (i:=11) (d:=some 16) rfl (by kernel_rfl) (by rfl) (by go_simp;first|done|exact⟨rfl,rfl⟩|with_reducible rfl) rfl ?_
 refine(hon _).mono ?_
 rintro e' wn1 ⟨rfl,hb1⟩
 have hS:(Below w8.heap.size w8) wn1:=hS.trans (hb1.mono hS.size)
 refine⟨_,rfl,hS,?_⟩
 simp only[nz]
 refine zx (i:=12) (d:=some 17) rfl (by kernel_rfl) (by rfl) (by go_simp;first|done|exact⟨rfl,rfl⟩|with_reducible rfl) rfl ?_
 refine(hsm _).mono ?_
 rintro e' wn2 ⟨rfl,hb2⟩
 have hS:(Below w8.heap.size w8) wn2:=hS.trans (hb2.mono hS.size)
 refine⟨_,rfl,hS,?_⟩
 simp only[nz]
 refine hs_t 13 18 (?_) rfl (by kernel_rfl) (by kernel_rfl) (by kernel_rfl) (by rfl) ?_ hS rfl ?_
 rotate_left
 ·intro w' hw
  go_simp
  try with_reducible rfl
 simp only[nz]
 refine hs_t 14 19 (?_) rfl (by kernel_rfl) (by kernel_rfl) (by kernel_rfl) (by rfl) ?_ hS rfl ?_
 rotate_left
 ·intro w' hw
  go_simp
  try with_reducible rfl
 simp only[nz]
 refine zE (by kernel_rfl) ?_
 have up:=fun i v (h:w8.cell? ⟨w.heap.size,i,none⟩=some v)=>(hS.cell (p:=⟨w.heap.size,i,none⟩) hs8).trans h
 replace cK:=up _ _ cK
 replace cE:=up _ _ cE
 replace cL:=up _ _ cL
 replace cV:=up _ _ cV
 replace cS:=up _ _ cS
 replace cQ:=up _ _ cQ
 replace cR:=up _ _ cR
 replace c1:=up _ _ c1
 replace c2:=up _ _ c2
 replace c3:=up _ _ c3
 replace cH:=up _ _ cH
 replace cN:=up _ _ cN
 replace cT:=up _ _ cT
 replace cG:=up _ _ cG
 replace rV:=zd rV hS hs8
 clear up
 have hsn:=Nat.lt_of_lt_of_le hs8 hS.size
 have hBn:=hB8.trans (hS.mono (by omega))
 clear hA8 hS hb1 hb2 hs8 hB8 hon hsm iq
 generalize x.cells=u at *
 go_upto_region 4 with(go_at_call 183;refine(zbJ _ _ _).mono ?_;rintro e1 w1 ⟨rfl,hx⟩;obtain rfl:=hx.symm;clear hx;(first|rw[i1]|rw[i2]|rw[i3]))
 obtain⟨r3,hb3,hz3,_⟩:=zA wn2 #[.int .i64 0,.int .i64 0,.int .i64 0,.slice none 0 0] 46 [.int .i64 0,.int .i64 0,.int .i64 0,.slice none 0 0] rfl
 have hT3:=zK wn2 #[.int .i64 0,.int .i64 0,.int .i64 0,.slice none 0 0] 46
 go_upto_region 5 with(refine wpList_store_mid rfl 46 _ _ rfl _ _ #[.int .i64 0,.int .i64 0,.int .i64 0,.slice none 0 0] rfl rfl hT3 iszH4 one4 ?_)
 go_name_world w3 hw3
 rw[show(wn2.alloc (.cells #[.int .i64 0,.int .i64 0,.int .i64 0,.slice none 0 0] 46)).setCells wn2.heap.size 0 [.int .i64 0,.int .i64 0,.int .i64 0,.slice none 0 0]=w3 from hw3]at r3 hb3 hz3
 clear hw3 hz3 hT3
 have up:=fun i v (h:wn2.cell? ⟨w.heap.size,i,none⟩=some v)=>(hb3.cell (p:=⟨w.heap.size,i,none⟩) hsn).trans h
 replace cK:=up _ _ cK
 replace cQ:=up _ _ cQ
 replace cR:=up _ _ cR
 replace cN:=up _ _ cN
 replace cT:=up _ _ cT
 replace cG:=up _ _ cG
 replace rV:=zd rV hb3 hsn
 clear up
 have hs3:=Nat.lt_of_lt_of_le hsn hb3.size
 have hB3:=hBn.trans (hb3.mono (by omega))
 have d0:=r3 0 _ rfl
 have d1:=r3 1 _ rfl
 have d2:=r3 2 _ rfl
 have d3:=r3 3 _ rfl
 simp only[Nat.zero_add,Nat.add_zero]at d0 d1 d2 d3
 clear r3 hb3 hBn hsn cE cL cV cS c1 c2 c3 cH
 go_upto_region 6 with(first|(go_at_call 183;refine(zbJ _ _ _).mono ?_;rintro e1 w1 ⟨rfl,hx⟩;obtain rfl:=hx.symm;clear hx;(first|rw[i1]|rw[i2]|rw[i3]))|(go_at_call 184;refine(xh0 _).mono ?_;rintro e1 w1 ⟨rfl,hx⟩;obtain rfl:=hx.symm;clear hx))
 clear d0 d1 d2 d3
 go_wp2_with fail
 refine(plain0 false _).mono ?_
 rintro e4 w4 ⟨rfl,hb4⟩
 have up:=fun i v (h:w3.cell? ⟨w.heap.size,i,none⟩=some v)=>(hb4.cell (p:=⟨w.heap.size,i,none⟩) hs3).trans h
 replace cK:=up _ _ cK
 replace cN:=up _ _ cN
 replace cT:=up _ _ cT
 replace cG:=up _ _ cG
 replace rV:=zd rV hb4 hs3
 clear up
 have hs4:=Nat.lt_of_lt_of_le hs3 hb4.size
 have hB4:=hB3.trans (hb4.mono (by omega))
 clear hb4 hB3 hs3 cQ cR
 go_upto_region 7 with(first|(go_at_call 186;refine(xn0 _).mono ?_;rintro e1 w1 ⟨rfl,hx⟩;obtain rfl:=hx.symm;clear hx)|(go_at_call 187;refine(xg0 _).mono ?_;rintro e1 w1 ⟨rfl,hx⟩;obtain rfl:=hx.symm;clear hx))
 clear cN cT cG
 go_wp2_with (refine zS (by rfl) 43 _ rfl _ _ rfl u _ rV underlying43 rfl ix ?_)
 refine(cv _).mono ?_
 rintro e5 w5 ⟨rfl,hb5⟩
 have hB5:=hB4.trans (hb5.mono (by omega))
 clear rV cv hb5 hB4
 cases b
 all_goals
  go_wp2
  go_ret
  exact⟨rfl,hB5⟩
def ownF (v:Value):Nat→Prop:=fun b=>v.ownBlock=some b
theorem zix {v v1 v2:Value} {w w1 w2:World} (h:Off (ownF v) w w1) (r:RowOn w v v1) (h':Off (ownF v1) w1 w2) (r':RowOn w1 v1 v2):Off (ownF v) w w2∧RowOn w v v2:=by
 refine⟨h.trans h' (fun b hb hf=>?_),fun g hg=>?_⟩
 ·rcases r b hf with e|e
  ·exact e
  ·omega
 ·rcases r' g hg with e|e
  ·exact r g e
  ·exact .inr (Nat.le_trans h.size e)
theorem zgO (B:Nat) (v:Value) (zs d:List Int) (w:World) (h:Mine w B v zs) (hB:B≤w.heap.size) (hz:zs.length≤10000000) (hd:d.length=32) (hdb:∀z∈d,0≤z∧z<256):
  Calls prog 195 #[v,.agg (v8 d).toArray] w fun e w'=>∃v',e=.returned v'∧Mine w' B v' (zs++d)∧Off (ownF v) w w'∧RowOn w v v':=by
 obtain⟨i0,hi,hz0,hz1,hz2⟩:=zT info8
 have hB1:Below w.heap.size w (w.alloc (.cells (v8 d).toArray 41)):=(Below.refl _ _).alloc (Nat.le_refl _) _
 have hR1:=zgi w d 41
 have hs1:w.heap.size<(w.alloc (.cells (v8 d).toArray 41)).heap.size:=by simp
 have hown:=h.from
 have h1:=h.below hB1
 have hO1:Off (ownF v) w (w.alloc (.cells (v8 d).toArray 41)):=Off.of_below hB1
 obtain⟨w1,hw1⟩:∃w1,Hid (w.alloc (.cells (v8 d).toArray 41)=w1):=⟨_,hide rfl⟩
 rw[hw1.out]at hB1 hR1 hs1 h1 hO1
 generalize hu:(v8 d).toArray=u at *
 go_enter func195,ntmps195
 go_upto_region 1 with fail
 rw[show w.alloc (.cells u 41)=w1 from hw1.out]
 clear hw1 hu h
 go_wp2_with fail
 go_loopw [0,5] (fun oo iv wr'=>∃(k:Nat) (o:Value),k≤32∧iv=.int .i64 (k:Int)∧o=oo∧Hid (Mine wr' B o (zs++d.take k)∧Off (ownF v) w1 wr'∧RowOn w1 v o)) (fun _ iv _=>32 - (intOf iv).toNat)
 case atStart=>exact⟨0,_,by omega,rfl,rfl,hide ⟨by simpa using h1,Off.refl _ _,fun g hg=>.inl hg⟩⟩
 case round=>
  clear h1
  obtain⟨k,o,hk,rfl,ho,HK⟩:=hrel
  subst ho
  by_cases hlt:k<32
  ·have k1:(k:Int)<32:=by omega
   obtain⟨hM,hO,hRo⟩:=HK.out
   clear HK
   have hrow:=zbD hR1 (hO.2 _ hs1 (fun hf=>by have:=(hown _ hf).2;omega))
   have ck:wr.cell? ⟨w.heap.size,k,none⟩=some (.int .u8 (d.getD k 0)):=by
    have:=hrow k (.int .u8 (d.getD k 0)) (by simp[v8,List.getElem?_eq_getElem (show k<d.length by omega)])
    rwa [Nat.zero_add]at this
   have hzk:0≤d.getD k 0∧d.getD k 0<256:=hdb _ (by simp[List.getElem?_eq_getElem (show k<d.length by omega)])
   have HT:Hid (d.take (k+1)=d.take k++[d.getD k 0]):=hide (by
    rw[List.take_add_one];simp[List.getElem?_eq_getElem (show k<d.length by omega),List.getD_eq_getElem?_getD])
   have hlt2:(d.take k).length=k:=by rw[List.length_take];omega
   obtain⟨z,hzz⟩:∃z,Hid (d.getD k 0=z):=⟨_,hide rfl⟩
   rw[hzz.out]at ck HT hzk
   obtain⟨ys,hys⟩:∃ys,Hid (zs++d.take k=ys):=⟨_,hide rfl⟩
   have hyl:ys.length≤10000032:=by rw[←hys.out,List.length_append,hlt2];omega
   rw[hys.out]at hM
   have HY:Hid (zs++d.take (k+1)=ys++[z]):=hide (by rw[HT.out,←List.append_assoc,hys.out])
   have hBr:B≤wr.heap.size:=by have:=hO.size;omega
   clear hzz hys HT hlt2 hrow
   go_wp2_with (at_builtin;refine zd3 _ rfl _ _ 59 59 rfl B 5 i0 (.int .u8 0) 1 1 underlying59 hi hz0 hz1 hz2 rfl _ _ _ rfl (hM.1.alloc _) _ 1 _ rfl (zcK _ _) ?c1 ?c2 ?c3 ?_)
   case c1=>unfold maxLen;omega
   case c2=>omega
   case c3=>simp;omega
   intro v5 w5 hown5 hgrow5 hon5
   have hM5:Mine w5 B v5 (ys++[z]):=Mine.mk' _ hown5 (by simp) (by simp) (fun x hx=>by
    rcases List.mem_append.1 hx with hx|hx
    ·exact hM.2 x hx
    ·rw[List.mem_singleton.1 hx];exact hzk)
   have hBA:Below wr.heap.size wr (wr.alloc (.cells #[.int .u8 z] 5)):=(Below.refl _ _).alloc (Nat.le_refl _) _
   have hO5:Off (ownF o) wr w5:=(Off.of_below (F:=ownF o) hBA).trans (Off.of_grown (F:=ownF o) hgrow5 (fun k hk=>hk)) (fun _ _ q=>q)
   have hR5:RowOn wr o v5:=fun g hg=>by
    rcases hon5 g hg with e|e
    ·exact .inl e
    ·have:=hBA.size;exact .inr (by omega)
   have T:=zix hO hRo hO5 hR5
   have T':=hide (And.intro hM5 T)
   clear hown5 hgrow5 hon5 hM5 hO5 hR5 T hM hO hRo hBA ck
   go_wp2_with fail
   go_roundw
   case rel=>exact⟨k+1,_,by omega,by go_num,rfl,hide ⟨by rw[HY.out];exact T'.out.1,T'.out.2.1,T'.out.2.2⟩⟩
   case measure=>simp[intOf];omega
  ·obtain rfl:k=32:=by omega
   obtain⟨hM,hO,hRo⟩:=HK.out
   clear HK
   go_wp2_with fail
   go_ret
   rw[List.take_of_length_le (by omega)]at hM
   refine⟨_,rfl,hM,hO1.trans hO (fun _ _ q=>q),fun g hg=>?_⟩
   rcases hRo g hg with e|e
   ·exact .inl e
   ·exact .inr (by omega)
def numsL (ns:List Int):List Int:=ns.flatMap putL
theorem zgB (a:Option Addr) (cap:Nat) (zs:List Int) (b off cap2:Nat) (ns:List Int) (w:World) (h:RowAt w a zs) (hz:zs.length≤1000000) (h0:0<ns.length) (hl:ns.length≤10) (hn:∀n∈ns,n≤9223372036854775807) (hb:b<w.heap.size) (hr:w.rangeAt b off (ns.map (Value.int .i64))):
    Calls prog 191 #[.slice a zs.length cap,.slice (some ⟨b,off,none⟩) ns.length cap2] w fun e w'=>∃v,e=.returned v∧Mine w' w.heap.size v (zs++numsL ns)∧Below w.heap.size w w':=by
  go_enter func191,ntmps191
  go_wp2_with fail
  go_loopw [0,5] (fun o iv wr'=>∃k:Nat,k≤ns.length∧iv=.int .i64 (k:Int)∧Hid ((∃a' cap',o=.slice a' (zs++numsL (ns.take k)).length cap'∧RowAt wr' a' (zs++numsL (ns.take k)))∧(0<k→Mine wr' w.heap.size o (zs++numsL (ns.take k)))∧Below w.heap.size w wr')) (fun _ iv _=>ns.length - (intOf iv).toNat)
  case atStart=>exact⟨0,by omega,rfl,hide ⟨⟨a,cap,by simp[numsL],by simpa [numsL]using h⟩,fun q=>absurd q (by omega),Below.refl _ _⟩⟩
  case round=>
    obtain⟨k,hk,rfl,HK⟩:=hrel
    by_cases hlt:k<ns.length
    · have k1:(k:Int)<ns.length:=by omega
      obtain⟨⟨a',cap',rfl,hra⟩,_,hBr⟩:=HK.out
      clear HK
      have ck:wr.cell? ⟨b,off+k,none⟩=some (.int .i64 (ns.getD k 0)):=zd hr hBr hb k (.int .i64 (ns.getD k 0)) (by simp[List.getElem?_eq_getElem hlt])
      have hnk:ns.getD k 0≤9223372036854775807:=hn _ (by simp[List.getElem?_eq_getElem hlt])
      have HT:Hid (numsL (ns.take (k+1))=numsL (ns.take k)++putL (ns.getD k 0)):=hide (by
        have:ns.take (k+1)=ns.take k++[ns.getD k 0]:=by
          rw[List.take_add_one];simp[List.getElem?_eq_getElem hlt,List.getD_eq_getElem?_getD]
        rw[this];simp[numsL])
      have hll:∀j,j≤ns.length→(numsL (ns.take j)).length≤9*j:=by
        intro j
        induction j with
        |zero=>intro _;simp[numsL]
        |succ j ih=>
          intro hj
          have:=ih (by omega)
          have hjl:j<ns.length:=by omega
          have e:ns.take (j+1)=ns.take j++[ns.getD j 0]:=by
            rw[List.take_add_one];simp[List.getElem?_eq_getElem hjl,List.getD_eq_getElem?_getD]
          have hp:=zab (ns.getD j 0) (by have:=hn (ns.getD j 0) (by simp[List.getElem?_eq_getElem hjl]);omega)
          rw[e,numsL,List.flatMap_append,List.length_append]
          simp only[List.flatMap_cons,List.flatMap_nil,List.append_nil]
          have q:(List.flatMap putL (ns.take j)).length≤9*j:=this
          omega
      have hyl0:=hll k (by omega)
      obtain⟨n,hnn⟩:∃n,Hid (ns.getD k 0=n):=⟨_,hide rfl⟩
      rw[hnn.out]at ck HT hnk
      obtain⟨ys,hys⟩:∃ys,Hid (zs++numsL (ns.take k)=ys):=⟨_,hide rfl⟩
      have hyl:ys.length≤1000090:=by rw[←hys.out,List.length_append];omega
      rw[hys.out]at hra ⊢
      have HY:Hid (zs++numsL (ns.take (k+1))=ys++putL n):=hide (by rw[HT.out,←List.append_assoc,hys.out])
      have cp:=zbO a' cap' ys n wr hra (by omega) hnk
      have hpl:=zab n (by omega)
      clear hnn hys HT hll hyl0
      go_wp2_with fail
      refine cp.mono ?_
      rintro e1 w1 ⟨v1,rfl,hM1,hb1⟩
      obtain⟨a1,cap1,rfl,_,_,hr1⟩:=hM1.rowAt (by rw[List.length_append];unfold maxLen;omega)
      have hB1:=hBr.trans (hb1.mono hBr.size)
      have hM1':Mine w1 w.heap.size (.slice a1 (ys++putL n).length cap1) (ys++putL n):=by
        refine⟨?_,hM1.2⟩
        refine⟨hM1.1.1,?_⟩
        rcases hM1.1.2 with q|⟨g,c,cur,q1,q2,q3⟩
        · exact .inl q
        · exact .inr ⟨g,c,cur,q1,Nat.le_trans hBr.size q2,q3⟩
      have T:=hide (And.intro hr1 (And.intro hM1' hB1))
      clear cp hM1 hr1 hM1' hB1 hb1 hra ck
      go_wp2_with fail
      go_roundw
      case rel=>exact⟨k+1,by omega,by go_num,hide ⟨⟨a1,cap1,by rw[HY.out,List.length_append],by rw[HY.out];exact T.out.1⟩,fun _=>by rw[HY.out];have:=T.out.2.1;rwa [List.length_append]at this,T.out.2.2⟩⟩
      case measure=>simp[intOf];omega
    · obtain rfl:k=ns.length:=by omega
      obtain⟨_,hM,hBr⟩:=HK.out
      have hM:=hM h0
      clear HK
      go_wp2_with fail
      go_ret
      rw[List.take_length]at hM
      exact⟨_,rfl,hM,hBr⟩
theorem Mine.base {w:World} {B B':Nat} {v:Value} {zs:List Int} (h:Mine w B v zs) (hB:B'≤B):Mine w B' v zs:=by
 refine⟨⟨h.1.1,?_⟩,h.2⟩
 rcases h.1.2 with q|⟨g,c,cur,q1,q2,q3⟩
 ·exact .inl q
 ·exact .inr ⟨g,c,cur,q1,Nat.le_trans hB q2,q3⟩
theorem zgA (a:Option Addr) (cap:Nat) (zs ns:List Int) (arr:Array Value) (n:Nat) (w:World) (h:RowAt w a zs) (ha:arr=(ns.map (Value.int .i64)).toArray) (hc:ns.length=n) (hz:zs.length≤1000000) (h0:0<n) (hl:n≤10) (hn:∀n∈ns,n≤9223372036854775807):
  Calls prog 191 #[.slice a zs.length cap,.slice (some ⟨w.heap.size,0,none⟩) n n] (w.alloc (.cells arr 3)) fun e w'=>∃v,e=.returned v∧Mine w' w.heap.size v (zs++numsL ns)∧Below w.heap.size w w':=by
 subst ha hc
 have hB:Below w.heap.size w (w.alloc (.cells (ns.map (Value.int .i64)).toArray 3)):=(Below.refl _ _).alloc (Nat.le_refl _) _
 have hR:(w.alloc (.cells (ns.map (Value.int .i64)).toArray 3)).rangeAt w.heap.size 0 (ns.map (Value.int .i64)):=by
  have:=zy w (ns.map (Value.int .i64)).toArray 3
  simpa using this
 refine(zgB a cap zs w.heap.size 0 ns.length ns _ (h.below hB) hz h0 hl hn (by simp) hR).mono ?_
 rintro e w' ⟨v,rfl,h1,h2⟩
 exact⟨v,rfl,h1.base hB.size,hB.trans (h2.mono hB.size)⟩
theorem zjN {a b c d:Int} (h1:a≤9223372036854775807) (h2:b≤9223372036854775807) (h3:c≤9223372036854775807) (h4:d≤9223372036854775807):∀z∈[a,b,c,d],z≤9223372036854775807:=by
 intro z hz
 simp only[List.mem_cons,List.not_mem_nil,or_false]at hz
 rcases hz with rfl|rfl|rfl|rfl
 ·exact h1
 ·exact h2
 ·exact h3
 ·exact h4
theorem ziR {w w':World} {B n:Nat} {v:Value} {zs:List Int} (h:Off (ownF v) w w') (hM:Mine w B v zs) (hn:n≤B) (hs:n≤w.heap.size):Below n w w':=
 h.below hs (fun b hb hf=>by have:=(hM.from b hf).1;omega)
theorem zgw (a:Option Addr) (cap:Nat) (zs:List Int) (x:Vt) (w:World) (h:RowAt w a zs) (hz:zs.length≤1000000) (hx:x.ok):
  Calls prog 192 #[.slice a zs.length cap,.agg x.cells.toArray] w fun e w'=>∃v,e=.returned v∧Mine w' w.heap.size v (zs++numsL [x.k,x.e,x.v,x.s]++x.d)∧Below w.heap.size w w':=by
 obtain⟨k,ep,vi,sl,d⟩:=x
 have hk:=hx.k
 have he:=hx.e
 have hv:=hx.v
 have hs:=hx.s
 have hd:d.length=32:=hx.dl
 have hdb:∀z∈d,0≤z∧z<256:=hx.db
 have hn4:=zjN hk he hv hs
 simp only at hk he hv hs hn4
 have hB1:Below w.heap.size w (w.alloc (.cells (Vt.mk k ep vi sl d).cells.toArray 43)):=(Below.refl _ _).alloc (Nat.le_refl _) _
 have hR1:=Vt.box w ⟨k,ep,vi,sl,d⟩
 obtain⟨c0,c1,c2,c3⟩:=Vt.four hR1
 simp only[Nat.zero_add]at c0 c1 c2 c3
 have hrd:(w.alloc (.cells (Vt.mk k ep vi sl d).cells.toArray 43)).rangeAt w.heap.size 4 (v8 d):=fun j u hj=>by
  have:=hR1 (4+j) u (by rw[Nat.add_comm];exact hj)
  rwa [Nat.zero_add]at this
 have hsz:w.heap.size<(w.alloc (.cells (Vt.mk k ep vi sl d).cells.toArray 43)).heap.size:=by simp
 have id:(prog.info? 41).map (·.size)=some (v8 d).length:=by rw[v8_length,hd];exact iszD
 clear hR1 hx
 generalize (Vt.mk k ep vi sl d).cells=q at *
 show Calls prog 192 _ w fun e w'=>∃v,e=.returned v∧Mine w' w.heap.size v (zs++numsL [k,ep,vi,sl]++d)∧Below w.heap.size w w'
 go_enter func192,ntmps192
 go_upto_region 1 with fail
 obtain⟨w8,hw8⟩:∃w8,(w.alloc (.cells q.toArray 43)).drew=w8:=⟨_,rfl⟩
 have hB8:Below w.heap.size w w8:=by rw[←hw8];exact hB1.drew
 have hs8:w.heap.size<w8.heap.size:=by rw[←hw8];exact hsz
 have hra8:RowAt w8 a zs:=h.below hB8
 have dr:∀i v,(w.alloc (.cells q.toArray 43)).cell? ⟨w.heap.size,i,none⟩=some v→w8.cell? ⟨w.heap.size,i,none⟩=some v:=fun i v h=>by rw[←hw8];exact h
 replace c0:=dr _ _ c0
 replace c1:=dr _ _ c1
 replace c2:=dr _ _ c2
 replace c3:=dr _ _ c3
 have rd8:w8.rangeAt w.heap.size 4 (v8 d):=by rw[←hw8];exact(World.rangeAt_drew _ _ _ _).2 hrd
 have hld:∀w',Below w8.heap.size w8 w'→(loadVar 41 ⟨w.heap.size,4,none⟩).run prog w'=.ok (.agg (v8 d).toArray) w':=fun w' hw=>run_loadVar_mid (P:=prog) w' w.heap.size 4 41 (v8 d) _ (zd rd8 hw hs8) underlying41 rfl id
 obtain⟨u,hu⟩:∃u,Hid ((v8 d).toArray=u):=⟨_,hide rfl⟩
 rw[hu.out]at hld
 refine zG (S:=(Below w8.heap.size w8)) 15 rfl (by kernel_rfl) ?_
 rw[hw8]
 clear hw8 dr hB1 hsz hrd rd8 id h
 have hS:(Below w8.heap.size w8) w8:=Below.refl _ _
 refine hs_t 0 5 (?_) rfl (by kernel_rfl) (by kernel_rfl) (by kernel_rfl) (by rfl) ?_ hS rfl ?_
 rotate_left
 ·intro w' hw
  go_simp
  try with_reducible rfl
 simp only[nz]
 refine hs_t 1 6 (?_) rfl (by kernel_rfl) (by kernel_rfl) (by kernel_rfl) (by rfl) ?_ hS rfl ?_
 rotate_left
 ·intro w' hw
  go_simp
  try with_reducible rfl
 simp only[nz]
 refine hs_t 2 7 (?_) rfl (by kernel_rfl) (by kernel_rfl) (by kernel_rfl) (by rfl) ?_ hS rfl ?_
 rotate_left
 ·intro w' hw
  have:=(hw.cell (p:=⟨w.heap.size,0,none⟩) hs8).trans c0
  go_simp
  try with_reducible rfl
 simp only[nz]
 refine hs_t 3 8 (?_) rfl (by kernel_rfl) (by kernel_rfl) (by kernel_rfl) (by rfl) ?_ hS rfl ?_
 rotate_left
 ·intro w' hw
  go_simp
  try with_reducible rfl
 simp only[nz]
 refine hs_t 4 9 (?_) rfl (by kernel_rfl) (by kernel_rfl) (by kernel_rfl) (by rfl) ?_ hS rfl ?_
 rotate_left
 ·intro w' hw
  have:=(hw.cell (p:=⟨w.heap.size,1,none⟩) hs8).trans c1
  go_simp
  try with_reducible rfl
 simp only[nz]
 refine hs_t 5 10 (?_) rfl (by kernel_rfl) (by kernel_rfl) (by kernel_rfl) (by rfl) ?_ hS rfl ?_
 rotate_left
 ·intro w' hw
  go_simp
  try with_reducible rfl
 simp only[nz]
 refine hs_t 6 11 (?_) rfl (by kernel_rfl) (by kernel_rfl) (by kernel_rfl) (by rfl) ?_ hS rfl ?_
 rotate_left
 ·intro w' hw
  have:=(hw.cell (p:=⟨w.heap.size,2,none⟩) hs8).trans c2
  go_simp
  try with_reducible rfl
 simp only[nz]
 refine hs_t 7 12 (?_) rfl (by kernel_rfl) (by kernel_rfl) (by kernel_rfl) (by rfl) ?_ hS rfl ?_
 rotate_left
 ·intro w' hw
  go_simp
  try with_reducible rfl
 simp only[nz]
 refine hs_t 8 13 (?_) rfl (by kernel_rfl) (by kernel_rfl) (by kernel_rfl) (by rfl) ?_ hS rfl ?_
 rotate_left
 ·intro w' hw
  have:=(hw.cell (p:=⟨w.heap.size,3,none⟩) hs8).trans c3
  go_simp
  try with_reducible rfl
 simp only[nz]
 refine hs_t 11 16 (?_) rfl (by kernel_rfl) (by kernel_rfl) (by kernel_rfl) (by rfl) ?_ hS rfl ?_
 rotate_left
 ·intro w' hw
  go_simp
  try with_reducible rfl
 simp only[nz]
 refine hs_t 12 17 (.agg u) rfl (by kernel_rfl) (by kernel_rfl) (by kernel_rfl) (by rfl) (fun w' hw=>zX rfl rfl (hld w' hw)) hS rfl ?_
 simp only[nz]
 have hS:(Below w8.heap.size w8) (w8.alloc (.cells #[.int .i64 k,.int .i64 ep,.int .i64 vi,.int .i64 sl] 3)):=(Below.refl _ _).alloc (Nat.le_refl _) _
 refine zaa (i:=9) (d:=some 14) (v:=.slice (some ⟨w8.heap.size,0,none⟩) 4 4) (w':=(w8.alloc (.cells #[.int .i64 k,.int .i64 ep,.int .i64 vi,.int .i64 sl] 3))) rfl (by kernel_rfl) (by rfl) (by go_simp;first|done|with_reducible rfl) rfl hS ?_
 simp only[nz]
 have cn:=zgA a cap zs [k,ep,vi,sl] #[.int .i64 k,.int .i64 ep,.int .i64 vi,.int .i64 sl] 4 w8 hra8 rfl rfl hz (by omega) (by omega) hn4
 refine zx (i:=10) (d:=some 15) rfl (by kernel_rfl) (by rfl) (by go_simp;first|done|exact⟨rfl,rfl⟩|with_reducible rfl) rfl ?_
 refine(cn).mono ?_
 rintro e' wn1 ⟨v1,rfl,hM1,hb1⟩
 have hS:(Below w8.heap.size w8) wn1:=hb1
 refine⟨_,rfl,hS,?_⟩
 simp only[nz]
 have hl1:(zs++numsL [k,ep,vi,sl]).length≤10000000:=by
  have:=zae hk
  have:=zae he
  have:=zae hv
  have:=zae hs
  simp only[numsL,List.flatMap_cons,List.flatMap_nil,List.append_nil,List.length_append]
  omega
 have cd:=zgO w8.heap.size v1 (zs++numsL [k,ep,vi,sl]) d wn1 hM1 hb1.size hl1 hd hdb
 rw[hu.out]at cd
 refine zx (i:=13) (d:=some 18) rfl (by kernel_rfl) (by rfl) (by go_simp;first|done|exact⟨rfl,rfl⟩|with_reducible rfl) rfl ?_
 refine(cd).mono ?_
 rintro e' wn2 ⟨v2,rfl,hM2,hO2,hr2⟩
 have hS:(Below w8.heap.size w8) wn2:=hb1.trans (ziR hO2 hM1 (Nat.le_refl _) hb1.size)
 refine⟨_,rfl,hS,?_⟩
 simp only[nz]
 refine hs_t 14 4 (?_) rfl (by kernel_rfl) (by kernel_rfl) (by kernel_rfl) (by rfl) ?_ hS rfl ?_
 rotate_left
 ·intro w' hw
  go_simp
  try with_reducible rfl
 simp only[nz]
 refine zE (by kernel_rfl) ?_
 have hM3:=hM2.base (B':=w.heap.size) (by omega)
 have hB3:=hB8.trans (hS.mono (by omega))
 clear hM2 hO2 hr2 hM1 hb1 cn cd hld
 go_wp2_with fail
 go_ret
 exact⟨_,rfl,hM3,hB3⟩
theorem zg4 (x:Vt):putL 2++numsL [x.k,x.e,x.v,x.s]++x.d=voteL x:=by
 simp[numsL,voteL,List.append_assoc]
def Tells (q:List Value) (zs:List Int):Prop:=∀w,Calls prog 178 #[.agg q.toArray] w fun e w'=>∃v,e=.returned v∧Mine w' w.heap.size v zs∧Below w.heap.size w w'
theorem xbytes2 {x:Vt} (hx:x.ok):Tells (Ms.plain 2 0 0 x zeros32).cells (voteL x):=fun w=>by
 have hm:=zba hx
 have hB1:Below w.heap.size w (w.alloc (.cells (Ms.plain 2 0 0 x zeros32).cells.toArray 52)):=(Below.refl _ _).alloc (Nat.le_refl _) _
 have hsz:w.heap.size<(w.alloc (.cells (Ms.plain 2 0 0 x zeros32).cells.toArray 52)).heap.size:=by simp
 have M:=(Ms.plain 2 0 0 x zeros32).box hm w
 have ck:_root_.Go.World.cell? _ ⟨w.heap.size,0,none⟩=some (.int .i64 2):=M.k
 have rv:_root_.Go.World.rangeAt _ w.heap.size 7 x.cells:=M.vt
 have ix:(prog.info? 43).map (·.size)=some x.cells.length:=by rw[hx.len];exact iszV
 have HV:=hide (zg4 x)
 have cv:=fun a cap zs w0 h hz=>zgw a cap zs x w0 h hz hx
 have hpl:=@zae 2 (by omega)
 obtain⟨vl,hvl⟩:∃vl,Hid (numsL [x.k,x.e,x.v,x.s]=vl):=⟨_,hide rfl⟩
 rw[hvl.out]at HV
 simp only[hvl.out]at cv
 rw[←HV.out]
 clear hx hm M HV hvl
 generalize (Ms.plain 2 0 0 x zeros32).cells=q at *
 generalize x.cells=u at *
 generalize x.d=d at *
 have cp:=fun w0=>zbO none 0 [] 2 w0 (zaR w0) (by simp) (by omega)
 simp only[List.nil_append,List.length_nil]at cp
 generalize putL 2=p2 at *
 go_enter func178,ntmps178
 go_upto_region 1 with fail
 go_name_world w1 hw1
 rw[show w.alloc (.cells q.toArray 52)=w1 from hw1]at hB1 ck rv hsz
 clear hw1
 go_wp2_with fail
 refine(cp _).mono ?_
 rintro e2 w2 ⟨v2,rfl,hM2,hb2⟩
 obtain⟨a2,cap2,rfl,_,_,hr2⟩:=hM2.rowAt (by unfold maxLen;omega)
 have hB2:=hB1.trans (hb2.mono hB1.size)
 have ck2:=(hb2.cell (p:=⟨w.heap.size,0,none⟩) hsz).trans ck
 have rv2:=zd rv hb2 hsz
 have c6:=cv a2 cap2 p2 w2 hr2 (by omega)
 clear cp cv hM2 hb2 hB1 ck rv hr2
 go_wp2_with (refine wpList_load_mid rfl 43 _ rfl _ _ rfl u _ rv2 underlying43 rfl ix ?_)
 refine c6.mono ?_
 rintro e3 w3 ⟨v3,rfl,hM3,hb3⟩
 have hM4:=hM3.base (B':=w.heap.size) (by have:=hB2.size;omega)
 have hB3:=hB2.trans (hb3.mono hB2.size)
 clear c6 hM3 hb3 hB2 rv2
 go_wp2_with fail
 go_ret
 exact⟨_,rfl,hM4,hB3⟩
theorem xenc0 (q:List Value) (b:Bool) (zs:List Int) (w:World) (hq:q.length=119) (hl:zs.length≤1000)
  (hg:∀w,Calls prog 177 #[.agg q.toArray] w fun e w'=>e=.returned (.bool b)∧Below w.heap.size w w') (ht:Tells q zs):
  Calls prog 161 #[.agg q.toArray] w fun e w'=>e=.returned (encV b zs)∧Below w.heap.size w w':=by
 have hB:Below w.heap.size w (w.alloc (.cells q.toArray 52)):=(Below.refl _ _).alloc (Nat.le_refl _) _
 have hs:w.heap.size<(w.alloc (.cells q.toArray 52)).heap.size:=by simp
 have hA:(w.alloc (.cells q.toArray 52)).rangeAt w.heap.size 0 q:=by simpa using zy w q.toArray 52
 have iq:(prog.info? 52).map (·.size)=some q.length:=by rw[hq];exact iszM
 clear hq
 cases b
 ·show Calls prog 161 #[.agg q.toArray] w fun e w'=>e=.returned (.tuple #[.string ⟨#[]⟩,.int .i64 130])∧Below w.heap.size w w'
  clear ht
  go_enter func161,ntmps161
  go_upto_region 1 with fail
  go_name_world w1 hw1
  rw[show w.alloc (.cells q.toArray 52)=w1 from hw1]at hB hs hA
  clear hw1
  go_wp2_with (refine wpList_load_mid rfl 52 _ rfl _ _ rfl q _ hA underlying52 rfl iq ?_)
  refine(hg _).mono ?_
  rintro e2 w2 ⟨rfl,hb2⟩
  have hB2:=hB.trans (hb2.mono (by omega))
  clear hA hg hB hb2
  go_wp2
  go_ret2
  exact⟨rfl,hB2⟩
 ·show Calls prog 161 #[.agg q.toArray] w fun e w'=>e=.returned (.tuple #[.string (strOf zs),.int .i64 0])∧Below w.heap.size w w'
  obtain⟨sz,hsz⟩:∃sz,Hid (strOf zs=sz):=⟨_,hide rfl⟩
  rw[hsz.out]
  go_enter func161,ntmps161
  go_upto_region 1 with fail
  go_name_world w1 hw1
  rw[show w.alloc (.cells q.toArray 52)=w1 from hw1]at hB hs hA
  clear hw1
  go_wp2_with (refine wpList_load_mid rfl 52 _ rfl _ _ rfl q _ hA underlying52 rfl iq ?_)
  refine(hg _).mono ?_
  rintro e2 w2 ⟨rfl,hb2⟩
  have hB2:=hB.trans (hb2.mono (by omega))
  have hA2:=zd hA hb2 hs
  have hs2:=Nat.lt_of_lt_of_le hs hb2.size
  clear hA hg hB hb2 hs
  go_wp2_with (refine wpList_load_mid rfl 52 _ rfl _ _ rfl q _ hA2 underlying52 rfl iq ?_)
  refine(ht _).mono ?_
  rintro e3 w3 ⟨v3,rfl,hM3,hb3⟩
  have hcs:=zdo hM3
  rw[hsz.out]at hcs
  have hB3:=hB2.trans (hb3.mono (by omega))
  obtain⟨a5,cap5,rfl⟩:∃a cap,v3=.slice a zs.length cap:=by
   rcases zaV hM3.1 with⟨rfl,h0,_⟩|⟨g,cap,rfl,_⟩
   ·exact⟨none,0,by rw[h0]⟩
   ·exact⟨_,cap,rfl⟩
  have hl':(zs.length:Int)≤1000:=by omega
  clear hsz hM3 hb3 hA2 hB2 ht
  go_wp2
  go_ret2
  exact⟨rfl,hB3⟩
theorem zd6 {x:Vt} (hx:x.ok):(voteL x).length≤1000:=by
 have p:=@zae 2 (by omega)
 have h1:=zae hx.k
 have h2:=zae hx.e
 have h3:=zae hx.v
 have h4:=zae hx.s
 have h5:=hx.dl
 simp only[voteL,List.length_append]
 omega
theorem zgt (x:Vt) (hx:x.ok) (w:World):Calls prog 129 #[.agg x.cells.toArray] w fun e w'=>e=.returned (.string (optS x.may (voteL x)))∧Below w.heap.size w w':=by
 have hB:Below w.heap.size w (w.alloc (.cells x.cells.toArray 43)):=(Below.refl _ _).alloc (Nat.le_refl _) _
 have hA:=Vt.box w x
 have ix:(prog.info? 43).map (·.size)=some x.cells.length:=by rw[hx.len];exact iszV
 have hb:=zgc x hx
 have cb:=fun w=>xenc0 _ _ _ w (zba hx).len (zd6 hx) (fun w=>xgood2 x hx w) (xbytes2 hx)
 obtain⟨n,hn⟩:=zfQ x.may (voteL x)
 simp only[hn]at cb
 clear hx hn
 generalize optS x.may (voteL x)=sz at *
 generalize (Ms.plain 2 0 0 x zeros32).cells=q at *
 generalize x.cells=u at *
 go_enter func129,ntmps129
 go_upto_region 1 with fail
 go_name_world w1 hw1
 rw[show w.alloc (.cells u.toArray 43)=w1 from hw1]at hB hA
 clear hw1
 go_wp2_with (first|(refine wpList_load_mid rfl 43 _ rfl _ _ rfl u _ hA underlying43 rfl ix ?_)|(refine zbI rfl 52 [(0,.const (.int .i64 2)),(6,.tmp 6)] rfl [(0,.int .i64 2),(6,.agg u.toArray)] _ rfl (hb _) ?_))
 refine(cb _).mono ?_
 rintro e2 w2 ⟨rfl,hb2⟩
 have hB2:=hB.trans (hb2.mono hB.size)
 clear hA cb hB hb2
 go_wp2
 go_ret
 exact⟨rfl,hB2⟩
theorem zdc {w:World} {a:Option Addr} {zs:List Int} (h:RowAt w a zs) (cap:Nat):(convert 59 9 (.slice a zs.length cap)).run prog w=.ok (.string (strOf zs)) w:=by
 rcases h.2.2 with rfl|⟨b,off,rfl,_,hr⟩
 ·rw[List.length_nil,run_convert_bytes_string w 59 9 5 a 0 cap underlying59 underlying5 underlying9]
  cases a<;>rfl
 ·exact zeJ hr
def RdE (w:World) (R:Nat) (e:Int):Prop:=
 R<w.heap.size∧(∃a n c,w.cell? ⟨R,0,none⟩=some (.slice a n c))∧w.cell? ⟨R,1,none⟩=some (.bool true)∧w.cell? ⟨R,2,none⟩=some (.int .i64 e)∧
 w.frozen? ⟨R,0,none⟩=false∧w.frozen? ⟨R,1,none⟩=false∧w.frozen? ⟨R,2,none⟩=false
def Rest (w:World) (R:Nat) (rest:List Int):Prop:=
 ∃a cap,w.cell? ⟨R,0,none⟩=some (.slice a rest.length cap)∧rest.length≤cap∧cap≤maxLen∧RowAt w a rest∧∀x,a=some x→x.block<R
def St (w:World) (R:Nat) (rest:List Int) (e:Int):Prop:=RdE w R e∧(e=0→Rest w R rest)
theorem RdE.set0 {w:World} {R:Nat} {e:Int} (h:RdE w R e) (a:Option Addr) (n c:Nat):RdE (w.setCell ⟨R,0,none⟩ (.slice a n c)) R e:=by
 obtain⟨hR,⟨a',n',c',h0⟩,h1,h2,f0,f1,f2⟩:=h
 refine⟨by simpa [World.setCell]using hR,⟨a,n,c,World.cell?_setCell_same _ _ _ h0⟩,(World.cell?_setCell_other _ _ _ _ (by simp)).trans h1,(World.cell?_setCell_other _ _ _ _ (by simp)).trans h2,
  (World.frozen?_setCell _ _ _ _).trans f0,(World.frozen?_setCell _ _ _ _).trans f1,(World.frozen?_setCell _ _ _ _).trans f2⟩
theorem RdE.set2 {w:World} {R:Nat} {e:Int} (h:RdE w R e) (e':Int):RdE (w.setCell ⟨R,2,none⟩ (.int .i64 e')) R e':=by
 obtain⟨hR,⟨a',n',c',h0⟩,h1,h2,f0,f1,f2⟩:=h
 refine⟨by simpa [World.setCell]using hR,⟨a',n',c',(World.cell?_setCell_other _ _ _ _ (by simp)).trans h0⟩,(World.cell?_setCell_other _ _ _ _ (by simp)).trans h1,World.cell?_setCell_same _ _ _ h2,
  (World.frozen?_setCell _ _ _ _).trans f0,(World.frozen?_setCell _ _ _ _).trans f1,(World.frozen?_setCell _ _ _ _).trans f2⟩
theorem RowAt.get {w:World} {a:Option Addr} {zs:List Int} (h:RowAt w a zs) (k:Nat) (hk:k<zs.length):∃b off,a=some ⟨b,off,none⟩∧b<w.heap.size∧w.cell? ⟨b,off+k,none⟩=some (.int .u8 (zs.getD k 0))∧0≤zs.getD k 0∧zs.getD k 0<256:=by
 rcases h.2.2 with rfl|⟨b,off,rfl,hb,hr⟩
 ·simp at hk
 ·refine⟨b,off,rfl,hb,get8 hr hk,?_⟩
  rw[List.getD_eq_getElem?_getD,List.getElem?_eq_getElem hk]
  exact h.2.1 _ (List.getElem_mem hk)
theorem zdF {a:Option Addr} {R cap n:Nat} (h:∀x,a=some x→x.block<R):∀x,cutA a cap n=some x→x.block<R:=by
  intro x hx
  unfold cutA at hx
  split at hx
  · exact h x hx
  · cases a with
    |none=>simp at hx
    |some y=>
      simp only[Option.map_some,Option.some.injEq]at hx
      subst hx
      have:=h y rfl
      unfold Addr.add
      split<;>exact this
theorem zfn {a:Option Addr} {R:Nat} (h:∀x,a=some x→x.block<R):∀x,a=some x→x.block≠R:=fun x hx=>Nat.ne_of_lt (h x hx)
theorem zat (R:Nat) (e:Int) (w:World) (h:RdE w R e):
  Calls prog 70 #[.pointer (some ⟨R,0,none⟩)] w fun en w'=>en=.returned (.int .i64 e)∧w'=w:=by
 obtain⟨hR,⟨a,n,c,h0⟩,h1,h2,f0,f1,f2⟩:=h
 go_enter func70,ntmps70
 go_wp2
 go_ret
 exact⟨rfl,rfl⟩
theorem zbs (R:Nat) (a:Option Addr) (n c:Nat) (w:World) (h0:w.cell? ⟨R,0,none⟩=some (.slice a n c)):
  Calls prog 74 #[.pointer (some ⟨R,0,none⟩)] w fun en w'=>en=.returned (.int .i64 (n:Int))∧w'=w:=by
 go_enter func74,ntmps74
 go_wp2
 go_ret
 exact⟨rfl,rfl⟩
theorem zc3 (R:Nat) (a:Option Addr) (n len c:Nat) (w:World) (h0:w.cell? ⟨R,0,none⟩=some (.slice a len c)) (f0:w.frozen? ⟨R,0,none⟩=false) (hn:n≤len) (hc:len≤c) (hm:c≤maxLen):
  Calls prog 124 #[.pointer (some ⟨R,0,none⟩),.int .i64 (n:Int)] w fun en w'=>en=.returned (.slice a n c)∧w'=w.setCell ⟨R,0,none⟩ (.slice (cutA a c n) (len - n) (c - n)):=by
 unfold maxLen at hm
 by_cases h:c=n
 ·subst h
  obtain rfl:len=c:=by omega
  go_enter func124,ntmps124
  go_wp2
  go_ret
  exact⟨rfl,by simp[cutA]⟩
 ·go_enter func124,ntmps124
  go_wp2
  go_ret
  exact⟨rfl,by simp[cutA,h]⟩
theorem zbZ (R:Nat) (e0 e:Int) (w:World) (h:RdE w R e0):
  Calls prog 72 #[.pointer (some ⟨R,0,none⟩),.int .i64 e] w fun en w'=>en=.returned (.tuple #[])∧RdE w' R e∧w.grownBy w' (some R):=by
 have hE:=(h.set2 e).set0 none 0 0
 have hg:=zt (zN w R 2 (.int .i64 e)) (zN (w.setCell ⟨R,2,none⟩ (.int .i64 e)) R 0 (.slice none 0 0))
 obtain⟨hR,⟨a,n,c,h0⟩,h1,h2,f0,f1,f2⟩:=h
 go_enter func72,ntmps72
 go_wp2
 go_end0
 exact⟨rfl,hE,hg⟩
theorem zaZ (l:List Int) (h:∀z∈l,0≤z∧z<256):0≤val l∧val l<256^l.length:=by
  have:∀k,k≤l.length→0≤val (l.take k)∧val (l.take k)<256^k:=by
    intro k
    induction k with
    |zero=>intro _;simp[val]
    |succ k ih=>
      intro hk
      have hlt:k<l.length:=by omega
      obtain⟨i1,i2⟩:=ih (by omega)
      have hz:=h l[k] (List.getElem_mem hlt)
      rw[List.take_succ_eq_append_getElem hlt,zcS,Int.pow_succ]
      omega
  have:=this l.length (Nat.le_refl _)
  rwa [List.take_length]at this
theorem zb7 (l:List Int) (k:Nat) (h:k<l.length):val (l.take (k+1))=val (l.take k)*256+l.getD k 0:=by
 rw[List.take_succ_eq_append_getElem h,zcS,List.getD_eq_getElem?_getD,List.getElem?_eq_getElem h];rfl
theorem ziL (x d:Int) (h0:0≤x) (h1:x<72057594037927936) (h2:0≤d) (h3:d<256):bits .or .u64 (x*256) d=x*256+d:=by
 obtain⟨m,rfl⟩:=Int.eq_ofNat_of_zero_le h0
 obtain⟨q,rfl⟩:=Int.eq_ofNat_of_zero_le h2
 have e:((m:Int)*256)=((m*256:Nat):Int):=by omega
 rw[e,u64_or_nat _ _ (by omega) (by omega),nat_join 8 _ _ (by omega) (by omega)]
 omega
def valR (ds:List Int):Int ×Int:=if ds.head? =some 0∨9223372036854775807<val ds then(0,11)else(val ds,0)
theorem zg6 (a:Option Addr) (cap:Nat) (ds:List Int) (w:World) (h:RowAt w a ds) (hl:ds.length≤8):
    Calls prog 125 #[.slice a ds.length cap] w fun en w'=>en=.returned (.tuple #[.int .i64 (valR ds).1,.int .i64 (valR ds).2])∧w'=w:=by
  by_cases hh:ds.head? =some 0
  · have HV:Hid (valR ds=(0,11)):=by show _=_;simp[valR,hh]
    obtain⟨tl,rfl⟩:∃tl,ds=0::tl:=by
      cases ds with
      |nil=>simp at hh
      |cons x tl=>simp at hh;exact⟨tl,by rw[hh]⟩
    obtain⟨b,off,rfl,hb,hc,_⟩:=h.get 0 (by simp)
    have hc':w.cell? ⟨b,off,none⟩=some (.int .u8 0):=by simpa using hc
    have hp:(0:Int)<((0::tl:List Int).length:Int):=by simp
    generalize (0::tl:List Int)=ds at *
    go_enter func125,ntmps125
    go_wp2
    go_ret2
    rw[HV.out]
    exact⟨rfl,rfl⟩
  · have hz:=h.2.1
    have hstart:ds=[]∨∃b off z,a=some ⟨b,off,none⟩∧w.cell? ⟨b,off,none⟩=some (.int .u8 z)∧(z==0)=false∧0<ds.length:=by
      cases ds with
      |nil=>exact Or.inl rfl
      |cons x tl=>
        obtain⟨b,off,rfl,hb,hc,_⟩:=h.get 0 (by simp)
        exact Or.inr ⟨b,off,x,rfl,by simpa using hc,by simpa using hh,by simp⟩
    have hval:=zaZ ds hz
    rcases hstart with rfl|⟨b,off,z0,rfl,hc0,hne,hpos⟩
    · go_enter func125,ntmps125
      go_wp2
      refine wp_loop_rounds 1 ?_
      rw[rounds_succ]
      go_wp2
      go_ret2
      exact⟨rfl,rfl⟩
    · have hp:(0:Int)<(ds.length:Int):=by omega
      have hc:∀j,j<ds.length→w.cell? ⟨b,off+j,none⟩=some (.int .u8 (ds.getD j 0)):=by
        obtain⟨_,_,hd|⟨b',off',hx,_,hc⟩⟩:=h
        · rw[hd]at hpos;simp at hpos
        · simp only[Option.some.injEq,Addr.mk.injEq]at hx
          obtain⟨rfl,rfl,_⟩:=hx
          exact fun j hj=>get8 hc hj
      have HC:Hid (∀j,j<ds.length→w.cell? ⟨b,off+j,none⟩=some (.int .u8 (ds.getD j 0))):=hc
      have HR:Hid (valR ds=if 9223372036854775807<val ds then(0,11)else(val ds,0)):=by show _=_;simp[valR,hh]
      clear hc h hh
      go_enter func125,ntmps125
      go_wp2
      go_loop [4,17] (fun n i=>∃k:Nat,k≤ds.length∧i=.int .i64 k∧n=.int .u64 (val (ds.take k))) (fun _ i=>ds.length - (intOf i).toNat)
      case atStart=>exact⟨0,by omega,rfl,rfl⟩
      case round=>
        obtain⟨k,hk,rfl,rfl⟩:=hrel
        by_cases hlt:k<ds.length
        · obtain ⟨z, hcx, hz0, hz1, HV⟩ : ∃ z, w.cell? ⟨b, off + k, none⟩ = some (.int .u8 z) ∧ 0 ≤ z ∧ z < 256 ∧ Hid (val (ds.take (k + 1)) = val (ds.take k) * 256 + z) := by
            refine⟨ds.getD k 0,HC.out k hlt,?_,?_,zb7 ds k hlt⟩<;>rw[List.getD_eq_getElem?_getD,List.getElem?_eq_getElem hlt]
            · exact(hz _ (List.getElem_mem hlt)).1
            · exact(hz _ (List.getElem_mem hlt)).2
          have hb7:0≤val (ds.take k)∧val (ds.take k)<72057594037927936:=by
            have:=zaZ (ds.take k) (fun z hz'=>hz z (List.mem_of_mem_take hz'))
            rw[List.length_take_of_le (by omega)]at this
            have h7:256^k≤72057594037927936:=Nat.le_trans (Nat.pow_le_pow_right (by omega) (show k≤7 by omega)) (by decide)
            have e7:((256^k:Nat):Int)=(256:Int)^k:=Int.natCast_pow 256 k
            rw[←e7]at this
            omega
          obtain⟨hx0,hx1⟩:=hb7
          have ej:=ziL (val (ds.take k)) z hx0 hx1 hz0 hz1
          generalize val (ds.take k)=X at *
          go_wp2
          go_round
          case rel=>exact⟨k+1,by omega,by go_num,by rw[HV.out]⟩
          case measure=>simp[intOf];omega
        · obtain rfl:k=ds.length:=by omega
          rw[List.take_length]
          by_cases hbig:9223372036854775807<val ds
          · go_wp2
            go_ret2
            rw[HR.out,if_pos hbig]
            exact⟨rfl,rfl⟩
          · go_wp2
            go_ret2
            rw[HR.out,if_neg (by omega)]
            exact⟨rfl,rfl⟩
def numR:List Int→Int ×Nat ×Int
  |[]=>(0,0,10)
  | k :: tl => if 8 < k then (0, 0, 11) else if (tl.length : Int) < k then (0, 0, 10) else
      if(valR (tl.take k.toNat)).2=0 then((valR (tl.take k.toNat)).1,1+k.toNat,0)else(0,0,(valR (tl.take k.toNat)).2)
theorem zg9 (ds:List Int) (h:(valR ds).2≠0):valR ds=(0,11):=by
 unfold valR at h ⊢
 split
 ·rfl
 ·rename_i hh;rw[if_neg hh]at h;exact absurd rfl h
theorem ziS (R:Nat) (e0:Int) (rest:List Int) (w:World) (hE:RdE w R e0) (hR:Rest w R rest):
  Calls prog 71 #[.pointer (some ⟨R,0,none⟩)] w fun en w'=>en=.returned (.tuple #[.int .i64 (numR rest).1,.int .i64 (numR rest).2.2])∧RdE w' R e0∧w.grownBy w' (some R)∧((numR rest).2.2=0→Rest w' R (rest.drop (numR rest).2.1)):=by
 obtain⟨a,cap,h0,hc,hm,hrow,hlt⟩:=hR
 have hne:=zfn hlt
 have f0:=hE.2.2.2.2.1
 cases rest with
 |nil=>
  have h0':w.cell? ⟨R,0,none⟩=some (.slice a 0 cap):=h0
  go_enter func71,ntmps71
  go_wp2_with fail
  refine(zbs R a 0 cap w h0').mono ?_
  rintro e w1 ⟨rfl,rfl⟩
  go_wp2
  go_ret2
  exact⟨rfl,hE,zaF _ _,fun h=>by cases h⟩
 |cons k tl=>
  obtain⟨b,off,rfl,hb,hcb,hk0,hk1⟩:=hrow.get 0 (by simp)
  have hk:(k::tl).getD 0 0=k:=rfl
  rw[hk]at hcb hk0 hk1
  have hbR:b≠R:=hne _ rfl
  have hcb1:(w.setCell ⟨R,0,none⟩ (.slice (cutA (some ⟨b,off,none⟩) cap 1) ((k::tl).length - 1) (cap - 1))).cell? ⟨b,off,none⟩=some (.int .u8 k):=
   (World.cell?_setCell_other _ _ _ _ (by intro hx;injection hx with hx1;exact hbR hx1.symm)).trans (by simpa using hcb)
  have hE1:=hE.set0 (cutA (some ⟨b,off,none⟩) cap 1) ((k::tl).length - 1) (cap - 1)
  have hg1:=zN w R 0 (.slice (cutA (some ⟨b,off,none⟩) cap 1) ((k::tl).length - 1) (cap - 1))
  have hr1:=(hrow.drop 1 cap (by simp) hc).gb hg1 (.inr (zbv hne))
  have h01:(w.setCell ⟨R,0,none⟩ (.slice (cutA (some ⟨b,off,none⟩) cap 1) ((k::tl).length - 1) (cap - 1))).cell? ⟨R,0,none⟩=some (.slice (cutA (some ⟨b,off,none⟩) cap 1) ((k::tl).length - 1) (cap - 1)):=World.cell?_setCell_same _ _ _ h0
  have hlen:(k::tl).length - 1=tl.length:=by simp
  rw[hlen]at hE1 hg1 hr1 h01 hcb1
  generalize hW1:w.setCell ⟨R,0,none⟩ (.slice (cutA (some ⟨b,off,none⟩) cap 1) tl.length (cap - 1))=W1 at *
  have c1:=zc3 R (some ⟨b,off,none⟩) 1 (k::tl).length cap w h0 f0 (by simp) hc hm
  rw[hlen,hW1]at c1
  have HW1:Hid (w.setCell ⟨R,0,none⟩ (.slice (cutA (some ⟨b,off,none⟩) cap 1) tl.length (cap - 1))=W1):=hW1
  clear hW1
  have hpos:(((k::tl).length:Int)==0)=false:=by simp;omega
  have hnm:=zbv (cap:=cap) (n:=1) hne
  have hltm:=zdF (cap:=cap) (n:=1) hlt
  generalize hA1:cutA (some ⟨b,off,none⟩) cap 1=A1 at *
  clear hA1
  have cl:=zbs R (some ⟨b,off,none⟩) (k::tl).length cap w h0
  go_enter func71,ntmps71
  go_wp2_with fail
  refine cl.mono ?_
  rintro e w1 ⟨rfl,rfl⟩
  clear cl
  go_wp2_with fail
  refine c1.mono ?_
  rintro e w2 ⟨rfl,rfl⟩
  clear c1
  by_cases hk8:8<k
  ·have HN:Hid (numR (k::tl)=(0,0,11)):=by show _=_;simp[numR,hk8]
   go_wp2_with fail
   go_ret2
   rw[HN.out]
   exact⟨rfl,hE1,hg1,fun h=>by cases h⟩
  ·by_cases hkl:(tl.length:Int)<k
   ·have HN:Hid (numR (k::tl)=(0,0,10)):=by show _=_;simp[numR,hk8,hkl]
    go_wp2_with fail
    refine(zbs R A1 tl.length (cap - 1) w2 h01).mono ?_
    rintro e w3 ⟨rfl,rfl⟩
    go_wp2_with fail
    go_ret2
    rw[HN.out]
    exact⟨rfl,hE1,hg1,fun h=>by cases h⟩
   ·obtain⟨q,hqk⟩:∃q:Nat,k.toNat=q:=⟨_,rfl⟩
    have hkq:(q:Int)=k:=by omega
    have hq:q≤tl.length:=by omega
    have hcl:tl.length≤cap - 1:=by simp at hc;omega
    have c2:=zc3 R A1 q tl.length (cap - 1) w2 h01 hE1.2.2.2.2.1 hq hcl (by omega)
    rw[hkq]at c2
    have hE2:=hE1.set0 (cutA A1 (cap - 1) q) (tl.length - q) (cap - 1 - q)
    have hg2:=zN w2 R 0 (.slice (cutA A1 (cap - 1) q) (tl.length - q) (cap - 1 - q))
    have hr1':RowAt w2 A1 tl:=by simpa using hr1
    have hr2:=(hr1'.take q).gb hg2 (.inr hnm)
    have hr3:=(hr1'.drop q (cap - 1) hq hcl)
    have h02:(w2.setCell ⟨R,0,none⟩ (.slice (cutA A1 (cap - 1) q) (tl.length - q) (cap - 1 - q))).cell? ⟨R,0,none⟩=some (.slice (cutA A1 (cap - 1) q) (tl.length - q) (cap - 1 - q)):=World.cell?_setCell_same _ _ _ h01
    have hRest:Rest (w2.setCell ⟨R,0,none⟩ (.slice (cutA A1 (cap - 1) q) (tl.length - q) (cap - 1 - q))) R (tl.drop q):=by
     refine⟨cutA A1 (cap - 1) q,cap - 1 - q,by rw[List.length_drop];exact h02,by rw[List.length_drop];omega,by omega,?_,?_⟩
     ·exact hr3.gb hg2 (.inr (zbv hnm))
     ·exact zdF hltm
    generalize w2.setCell ⟨R,0,none⟩ (.slice (cutA A1 (cap - 1) q) (tl.length - q) (cap - 1 - q))=W2 at *
    have hqt:(tl.take q).length=q:=List.length_take_of_le hq
    have c3:=zg6 A1 (cap - 1) (tl.take q) W2 hr2 (by omega)
    rw[hqt]at c3
    have HN:Hid (numR (k::tl)=if(valR (tl.take q)).2=0 then((valR (tl.take q)).1,1+q,0)else(0,0,(valR (tl.take q)).2)):=by
     show _=_
     simp only[numR,if_neg hk8,if_neg hkl,hqk]
    clear hr1 hr2 hr3 hqt hqk hkq
    go_wp2_with fail
    refine(zbs R A1 tl.length (cap - 1) w2 h01).mono ?_
    rintro e w3 ⟨rfl,rfl⟩
    go_wp2_with fail
    refine c2.mono ?_
    rintro e w4 ⟨rfl,rfl⟩
    clear c2
    go_wp2_with fail
    refine c3.mono ?_
    rintro e w5 ⟨rfl,rfl⟩
    clear c3
    go_wp2_with fail
    go_ret2
    refine⟨?_,hE2,zt hg1 hg2,?_⟩
    ·rw[HN.out]
     by_cases hv:(valR (tl.take q)).2=0
     ·rw[if_pos hv,hv];exact rfl
     ·rw[if_neg hv,zg9 _ hv];exact rfl
    ·rw[HN.out]
     by_cases hv:(valR (tl.take q)).2=0
     ·rw[if_pos hv];intro _;rw[Nat.add_comm];exact hRest
     ·rw[if_neg hv];intro h;exact absurd h hv
def numS (rest:List Int) (e most:Int):Int ×List Int ×Int:=
 if e=0 then
  if(numR rest).2.2=0 then
   if most<(numR rest).1 then(0,rest,3)else((numR rest).1,rest.drop (numR rest).2.1,0)
  else(0,rest,(numR rest).2.2)
 else(0,rest,e)
theorem zaD (R:Nat) (rest:List Int) (e most:Int) (w:World) (h:St w R rest e):
  Calls prog 39 #[.pointer (some ⟨R,0,none⟩),.int .i64 most] w fun en w'=>en=.returned (.int .i64 (numS rest e most).1)∧St w' R (numS rest e most).2.1 (numS rest e most).2.2∧w.grownBy w' (some R):=by
 obtain⟨hE,hR⟩:=h
 by_cases he:e=0
 ·subst he
  have hR:=hR rfl
  have cn:=ziS R 0 rest w hE hR
  have HS:Hid (numS rest 0 most=if(numR rest).2.2=0 then(if most<(numR rest).1 then(0,rest,3)else((numR rest).1,rest.drop (numR rest).2.1,0))else(0,rest,(numR rest).2.2)):=by show _=_;simp[numS]
  generalize (numR rest).1=v at *
  generalize (numR rest).2.1=c at *
  generalize (numR rest).2.2=er at *
  by_cases her:er=0
  ·subst her
   rw[if_pos rfl]at HS
   by_cases hmost:most<v
   ·rw[if_pos hmost]at HS
    go_enter func39,ntmps39
    go_wp2_with fail
    refine(zat R 0 w hE).mono ?_
    rintro e w1 ⟨rfl,rfl⟩
    go_wp2_with fail
    refine cn.mono ?_
    rintro e w2 ⟨rfl,hE2,hg2,hR2⟩
    go_wp2_with fail
    refine(zbZ R 0 3 w2 hE2).mono ?_
    rintro e w3 ⟨rfl,hE3,hg3⟩
    go_wp2_with fail
    go_ret
    rw[HS.out]
    exact⟨rfl,⟨hE3,fun h=>by cases h⟩,zt hg2 hg3⟩
   ·rw[if_neg hmost]at HS
    go_enter func39,ntmps39
    go_wp2_with fail
    refine(zat R 0 w hE).mono ?_
    rintro e w1 ⟨rfl,rfl⟩
    go_wp2_with fail
    refine cn.mono ?_
    rintro e w2 ⟨rfl,hE2,hg2,hR2⟩
    have hR3:=hR2 (by trivial)
    clear hR2 cn
    go_wp2_with fail
    go_ret
    rw[HS.out]
    exact⟨rfl,⟨hE2,fun _=>hR3⟩,hg2⟩
  ·have her':(er==0)=false:=by simpa using her
   rw[if_neg her]at HS
   go_enter func39,ntmps39
   go_wp2_with fail
   refine(zat R 0 w hE).mono ?_
   rintro e w1 ⟨rfl,rfl⟩
   go_wp2_with fail
   refine cn.mono ?_
   rintro e w2 ⟨rfl,hE2,hg2,hR2⟩
   clear hR2 cn
   go_wp2_with fail
   refine(zbZ R 0 er w2 hE2).mono ?_
   rintro e w3 ⟨rfl,hE3,hg3⟩
   go_wp2_with fail
   go_ret
   rw[HS.out]
   exact⟨rfl,⟨hE3,fun h=>absurd h her⟩,zt hg2 hg3⟩
 ·have HS:Hid (numS rest e most=(0,rest,e)):=by show _=_;simp[numS,he]
  have he':(e==0)=false:=by simpa using he
  go_enter func39,ntmps39
  go_wp2_with fail
  refine(zat R e w hE).mono ?_
  rintro en w1 ⟨rfl,rfl⟩
  go_wp2_with fail
  go_ret
  rw[HS.out]
  exact⟨rfl,⟨hE,fun h=>absurd h he⟩,zaF _ _⟩
theorem RowAt.none_nil {w:World} {zs:List Int} (h:RowAt w none zs):zs=[]:=by
 rcases h.2.2 with h|⟨b,off,hx,_⟩
 ·exact h
 ·cases hx
theorem RowAt.str {w:World} {a:Option Addr} {zs:List Int} (h:RowAt w a zs) (cap:Nat):(convert 59 9 (.slice a zs.length cap)).run prog w=.ok (.string (strOf zs)) w:=zdc h cap
theorem zdG (a:Option Addr) (cap:Nat) (zs:List Int) (w:World) (h:RowAt w a zs) (hm:zs.length≤549755813888):
  Calls prog 69 #[.slice a zs.length cap] w fun e w'=>∃v,e=.returned v∧Mine w' w.heap.size v zs∧Below w.heap.size w w':=by
 obtain⟨i0,hi,hz0,hz1,hz2⟩:=zT info8
 cases a with
 |none=>
  obtain rfl:=h.none_nil
  have hn:=fun w=>Lib.run_eql_slice_nil (P:=prog) w 59 5 none 0 cap 0 0 underlying59
  go_enter func69,ntmps69
  go_wp2
  go_ret
  exact⟨_,rfl,⟨World.ownsRow_nil _ _ _ _,by simp⟩,Below.refl _ _⟩
 |some x=>
  have hn:=fun w=>Lib.run_eql_slice_nil (P:=prog) w 59 5 (some x) zs.length cap 0 0 underlying59
  go_enter func69,ntmps69
  go_wp2_with (at_builtin;refine zac _ rfl _ _ 59 59 rfl w.heap.size 5 i0 (.int .u8 0) 1 1 underlying59 hi hz0 hz1 hz2 rfl _ 0 [] rfl (World.ownsRow_made w #[] 0 (Nat.le_refl _) (by simp) (by simp)) (.slice (some x) zs.length cap) zs.length (zs.map (Value.int .u8)) rfl ((h.below ((Below.refl _ _).alloc (Nat.le_refl _) _)).src cap) ?c1 ?c2 ?c3 ?_)
  case c1=>unfold maxLen;omega
  case c2=>omega
  case c3=>simp
  intro v' w1 hown hgrow
  have hb1:Below w.heap.size w w1:=((Below.refl _ _).alloc (Nat.le_refl _) _).grown hgrow (by simp) (fun k hk=>by simp[Value.ownBlock]at hk;omega)
  go_wp2
  go_ret
  exact⟨_,rfl,⟨by simpa using hown,h.2.1⟩,hb1⟩
theorem zif (a:Option Addr) (cap:Nat) (zs:List Int) (w:World) (h:RowAt w a zs) (hm:zs.length≤549755813888):
  Calls prog 38 #[.slice a zs.length cap] w fun e w'=>∃R,e=.returned (.pointer (some ⟨R,0,none⟩))∧w.heap.size≤R∧St w' R zs 0∧Below w.heap.size w w':=by
 go_enter func38,ntmps38
 go_wp2_with fail
 refine(zdG a cap zs w h hm).mono ?_
 rintro e w1 ⟨v,rfl,hmine,hb⟩
 obtain⟨a',cap',rfl,hc1,hc2,hr⟩:=hmine.rowAt (by unfold maxLen;omega)
 have hblk:∀x,a'=some x→x.block<w1.heap.size:=fun x hx=>(hmine.1.lt x.block (by simp[hx,Value.ownBlock])).2
 have hb2:Below w1.heap.size w1 (w1.alloc (.cells #[.slice a' zs.length cap',.bool true,.int .i64 0] 138)):=(Below.refl _ _).alloc (Nat.le_refl _) _
 have hSt:St (w1.alloc (.cells #[.slice a' zs.length cap',.bool true,.int .i64 0] 138)) w1.heap.size zs 0:=by
  have cs:∀j,(w1.alloc (.cells #[.slice a' zs.length cap',.bool true,.int .i64 0] 138)).cell? ⟨w1.heap.size,j,none⟩=(#[.slice a' zs.length cap',.bool true,.int .i64 0]:Array Value)[j]? :=fun j=>World.cell?_alloc_at _ _ _ _ rfl
  have fs:∀j,(w1.alloc (.cells #[.slice a' zs.length cap',.bool true,.int .i64 0] 138)).frozen? ⟨w1.heap.size,j,none⟩=false:=fun j=>World.frozen?_alloc_at _ _ _ _ rfl
  exact⟨⟨by simp,⟨a',zs.length,cap',cs 0⟩,cs 1,cs 2,fs 0,fs 1,fs 2⟩,fun _=>⟨a',cap',cs 0,hc1,hc2,hr.below hb2,hblk⟩⟩
 go_wp2_with fail
 go_ret
 exact⟨_,rfl,hb.size,hSt,hb.trans (hb2.mono hb.size)⟩
theorem zfc (R:Nat) (rest:List Int) (n:Int) (w:World) (h:St w R rest 0) (hn:(rest.length:Int)<n):
  Calls prog 73 #[.pointer (some ⟨R,0,none⟩),.int .i64 n] w fun en w'=>en=.returned (.slice none 0 0)∧St w' R rest 10∧w.grownBy w' (some R):=by
 obtain⟨hE,hR⟩:=h
 obtain⟨a,cap,h0,hc,hm,hrow,hne⟩:=hR rfl
 go_enter func73,ntmps73
 go_wp2_with fail
 refine(zbs R a rest.length cap w h0).mono ?_
 rintro en w1 ⟨rfl,rfl⟩
 go_wp2_with fail
 refine(zbZ R 0 10 w1 hE).mono ?_
 rintro en w2 ⟨rfl,hE2,hg2⟩
 go_wp2_with fail
 go_ret
 exact⟨rfl,⟨hE2,fun h=>by cases h⟩,hg2⟩
theorem zfb (R:Nat) (rest:List Int) (n:Int) (w:World) (h:St w R rest 0) (hn0:0≤n) (hn:n≤(rest.length:Int)):
  Calls prog 73 #[.pointer (some ⟨R,0,none⟩),.int .i64 n] w fun en w'=>∃a cap,en=.returned (.slice a n.toNat cap)∧n.toNat≤cap∧RowAt w' a (rest.take n.toNat)∧St w' R (rest.drop n.toNat) 0∧w.grownBy w' (some R):=by
 obtain⟨hE,hR⟩:=h
 obtain⟨a,cap,h0,hc,hm,hrow,hlt⟩:=hR rfl
 have hne:=zfn hlt
 obtain⟨q,hq⟩:∃q:Nat,n.toNat=q:=⟨_,rfl⟩
 have hqn:(q:Int)=n:=by omega
 rw[hq]
 have ct:=zc3 R a q rest.length cap w h0 hE.2.2.2.2.1 (by omega) hc hm
 rw[hqn]at ct
 have hE2:=hE.set0 (cutA a cap q) (rest.length - q) (cap - q)
 have hg2:=zN w R 0 (.slice (cutA a cap q) (rest.length - q) (cap - q))
 have hr2:=(hrow.take q).gb hg2 (.inr hne)
 have h02:(w.setCell ⟨R,0,none⟩ (.slice (cutA a cap q) (rest.length - q) (cap - q))).cell? ⟨R,0,none⟩=some (.slice (cutA a cap q) (rest.length - q) (cap - q)):=World.cell?_setCell_same _ _ _ h0
 have hRest:Rest (w.setCell ⟨R,0,none⟩ (.slice (cutA a cap q) (rest.length - q) (cap - q))) R (rest.drop q):=
  ⟨cutA a cap q,cap - q,by rw[List.length_drop];exact h02,by rw[List.length_drop];omega,by omega,(hrow.drop q cap (by omega) hc).gb hg2 (.inr (zbv hne)),zdF hlt⟩
 have hqc:q≤cap:=by omega
 generalize w.setCell ⟨R,0,none⟩ (.slice (cutA a cap q) (rest.length - q) (cap - q))=W2 at *
 have hnn:¬((rest.length:Int)<n):=by omega
 clear hq hqn
 go_enter func73,ntmps73
 go_wp2_with fail
 refine(zbs R a rest.length cap w h0).mono ?_
 rintro en w1 ⟨rfl,rfl⟩
 go_wp2_with fail
 refine ct.mono ?_
 rintro en w2 ⟨rfl,rfl⟩
 go_wp2_with fail
 go_ret
 exact⟨a,cap,rfl,hqc,hr2,⟨hE2,fun _=>hRest⟩,hg2⟩
def textS (rest:List Int) (e most:Int):List Int ×List Int ×Int:=
 if(numS rest e 9223372036854775807).2.2=0 then
  if most<(numS rest e 9223372036854775807).1 then([],rest,3)
  else if((numS rest e 9223372036854775807).2.1.length:Int)<(numS rest e 9223372036854775807).1 then([],rest,10)
  else((numS rest e 9223372036854775807).2.1.take (numS rest e 9223372036854775807).1.toNat,(numS rest e 9223372036854775807).2.1.drop (numS rest e 9223372036854775807).1.toNat,0)
 else([],rest,(numS rest e 9223372036854775807).2.2)
theorem St.other {w:World} {R:Nat} {rest:List Int} {e:Int} (h:St w R rest e) (he:e≠0) (rest':List Int):St w R rest' e:=⟨h.1,fun h0=>absurd h0 he⟩
theorem zcZ (R:Nat) (rest:List Int) (e most:Int) (w:World) (h:St w R rest e) (hpos:0≤(numS rest e 9223372036854775807).1):
  Calls prog 40 #[.pointer (some ⟨R,0,none⟩),.int .i64 most] w fun en w'=>en=.returned (.string (strOf (textS rest e most).1))∧St w' R (textS rest e most).2.1 (textS rest e most).2.2∧w.grownBy w' (some R):=by
 have cn:=zaD R rest e 9223372036854775807 w h
 have HT:Hid (textS rest e most=if(numS rest e 9223372036854775807).2.2=0 then
  (if most<(numS rest e 9223372036854775807).1 then([],rest,3)
  else if((numS rest e 9223372036854775807).2.1.length:Int)<(numS rest e 9223372036854775807).1 then([],rest,10)
  else((numS rest e 9223372036854775807).2.1.take (numS rest e 9223372036854775807).1.toNat,(numS rest e 9223372036854775807).2.1.drop (numS rest e 9223372036854775807).1.toNat,0))
  else([],rest,(numS rest e 9223372036854775807).2.2)):=rfl
 generalize (numS rest e 9223372036854775807).1=n at *
 generalize (numS rest e 9223372036854775807).2.1=r1 at *
 generalize (numS rest e 9223372036854775807).2.2=e1 at *
 have hs0:strOf []=⟨#[]⟩:=rfl
 by_cases he:e1=0
 ·subst he
  rw[if_pos rfl]at HT
  by_cases hmost:most<n
  ·rw[if_pos hmost]at HT
   go_enter func40,ntmps40
   go_wp2_with fail
   refine cn.mono ?_
   rintro en w1 ⟨rfl,hS1,hg1⟩
   clear cn
   go_wp2_with fail
   refine(zat R 0 w1 hS1.1).mono ?_
   rintro en w2 ⟨rfl,rfl⟩
   go_wp2_with fail
   refine(zbZ R 0 3 w2 hS1.1).mono ?_
   rintro en w3 ⟨rfl,hE3,hg3⟩
   go_wp2_with fail
   go_ret
   rw[HT.out]
   exact⟨rfl,⟨hE3,fun h=>by cases h⟩,zt hg1 hg3⟩
  ·rw[if_neg hmost]at HT
   by_cases hlen:(r1.length:Int)<n
   ·rw[if_pos hlen]at HT
    have sn:∀w:World,(convert 59 9 (.slice none 0 0)).run prog w=.ok (.string ⟨#[]⟩) w:=fun w=>(zaR w).str 0
    go_enter func40,ntmps40
    go_wp2_with fail
    refine cn.mono ?_
    rintro en w1 ⟨rfl,hS1,hg1⟩
    clear cn
    go_wp2_with fail
    refine(zat R 0 w1 hS1.1).mono ?_
    rintro en w2 ⟨rfl,rfl⟩
    go_wp2_with fail
    refine(zfc R r1 n w2 hS1 hlen).mono ?_
    rintro en w3 ⟨rfl,hS3,hg3⟩
    have s3:=sn w3
    go_wp2_with fail
    go_ret
    rw[HT.out]
    exact⟨rfl,hS3.other (by omega) _,zt hg1 hg3⟩
   ·rw[if_neg hlen]at HT
    go_enter func40,ntmps40
    go_wp2_with fail
    refine cn.mono ?_
    rintro en w1 ⟨rfl,hS1,hg1⟩
    clear cn
    go_wp2_with fail
    refine(zat R 0 w1 hS1.1).mono ?_
    rintro en w2 ⟨rfl,rfl⟩
    go_wp2_with fail
    refine(zfb R r1 n w2 hS1 hpos (by omega)).mono ?_
    rintro en w3 ⟨a,cap,rfl,hca,hra,hS3,hg3⟩
    have s3:=hra.str cap
    rw[List.length_take_of_le (by omega)]at s3
    go_wp2_with fail
    go_ret
    rw[HT.out]
    exact⟨rfl,hS3,zt hg1 hg3⟩
 ·rw[if_neg he]at HT
  have he':(e1==0)=false:=by simpa using he
  go_enter func40,ntmps40
  go_wp2_with fail
  refine cn.mono ?_
  rintro en w1 ⟨rfl,hS1,hg1⟩
  clear cn
  go_wp2_with fail
  refine(zat R e1 w1 hS1.1).mono ?_
  rintro en w2 ⟨rfl,rfl⟩
  go_wp2_with fail
  go_ret
  rw[HT.out]
  exact⟨rfl,hS1.other he _,hg1⟩
end Go.Proofs.YtcbpbkefggekmaaGreatDoor
