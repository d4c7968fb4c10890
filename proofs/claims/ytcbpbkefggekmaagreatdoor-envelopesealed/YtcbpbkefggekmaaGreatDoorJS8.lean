/- the document's SameHeld; the document's Same, with lists; fields of a message that are laid one by one -/
import Derived.Test.YtcbpbkefggekmaaGreatDoorJS0
import Derived.Test.YtcbpbkefggekmaaGreatDoorJS7
set_option maxHeartbeats 8000000
set_option maxRecDepth 100000
open Go.Proofs.Tryz
namespace Go.Proofs.YtcbpbkefggekmaaGreatDoor
open Go.RowKit
open Sha Tal
theorem zh7 (x y:Sl Hd) (w:World) (hx:HdsAt w x) (hy:HdsAt w y):
  Calls prog 33 #[x.val,y.val] w fun e w'=>e=.returned (.bool (sameL Hd.B x.xs y.xs))∧Below w.heap.size w w':=by
 obtain⟨a,cap,xs⟩:=x
 obtain⟨a',cap',ys⟩:=y
 have hml:xs.length≤maxLen:=hx.1.1
 have hml':ys.length≤maxLen:=hy.1.1
 unfold maxLen at hml hml'
 simp only[Sl.val]
 by_cases hlen:xs.length=ys.length
 rotate_left
 ·rw[zcQ hlen]
  have e0:((xs.length:Int)==ys.length)=false:=by simp;omega
  clear hlen
  go_enter func33,ntmps33
  go_wp2
  go_ret
  exact⟨rfl,Below.refl _ _⟩
 ·have e0:((xs.length:Int)==ys.length)=true:=by simp;omega
  have HL:=hide hlen
  clear hlen
  obtain⟨sb,hsb⟩:∃sb,Hid (sameL Hd.B xs ys=sb):=⟨_,hide rfl⟩
  rw[hsb.out]
  go_enter func33,ntmps33
  go_wp2
  go_loopw [5] (fun iv wr'=>∃k:Nat,k≤xs.length∧iv=.int .i64 (k:Int)∧Hid (∀j,j<k→Hd.B (xs.getD j default) (ys.getD j default)=true)∧Below w.heap.size w wr') (fun iv _=>xs.length - (intOf iv).toNat)
  case atStart=>exact⟨0,by omega,rfl,hide (fun j hj=>absurd hj (by omega)),Below.refl _ _⟩
  case round=>
   clear e0
   rename ((xs.length:Int) !=(ys.length:Int))=false=>hne0
   clear hne0
   obtain⟨k,hk,rfl,HM,hB⟩:=hrel
   by_cases hlt:k<xs.length
   ·have k1:(k:Int)<xs.length:=by omega
    have hlt':k<ys.length:=by have:=HL.out;omega
    have k1':(k:Int)<ys.length:=by omega
    obtain⟨b,off,rfl,hb,hre⟩:=RowsAt.elem (hx.1.below hB) k hlt
    obtain⟨b',off',rfl,hb',hre'⟩:=RowsAt.elem (hy.1.below hB) k hlt'
    have hre:wr.rangeAt b (off+k*39) xs[k].cells:=hre
    have hre':wr.rangeAt b' (off'+k*39) ys[k].cells:=hre'
    have hgx:xs.getD k default=xs[k]:=by rw[List.getD_eq_getElem?_getD,List.getElem?_eq_getElem hlt];rfl
    have hgy:ys.getD k default=ys[k]:=by rw[List.getD_eq_getElem?_getD,List.getElem?_eq_getElem hlt'];rfl
    have okx:xs[k].vt.ok:=hx.1.2.1 _ (List.getElem_mem hlt)
    have oky:ys[k].vt.ok:=hy.1.2.1 _ (List.getElem_mem hlt')
    have atx:=(hx.2 _ (List.getElem_mem hlt)).below hB
    have aty:=(hy.2 _ (List.getElem_mem hlt')).below hB
    obtain⟨gx,hX⟩:∃g,Hid (xs[k]=g):=⟨_,hide rfl⟩
    obtain⟨gy,hY⟩:∃g,Hid (ys[k]=g):=⟨_,hide rfl⟩
    rw[hX.out]at hre hgx okx atx
    rw[hY.out]at hre' hgy oky aty
    clear hX hY
    have HT:Hid (Hd.B gx gy=true→∀j,j<k+1→Hd.B (xs.getD j default) (ys.getD j default)=true):=hide (fun hp j hj=>by
     by_cases e:j=k
     ·subst e;rw[hgx,hgy];exact hp
     ·exact HM.out j (by omega))
    have HF:Hid (Hd.B gx gy=false→sb=false):=hide (fun hp=>by
     rw[←hsb.out]
     exact zdQ k hlt HL.out (by rw[hgx,hgy];exact hp))
    have rb:wr.rangeAt b (off+k*39) (#[.bool gx.q,.slice gx.rs.a gx.rs.xs.length gx.rs.cap]:Array Value).toList:=zI (cs:=[.bool gx.q,gx.rs.val]) hre
    have rb':wr.rangeAt b' (off'+k*39) (#[.bool gy.q,.slice gy.rs.a gy.rs.xs.length gy.rs.cap]:Array Value).toList:=zI (cs:=[.bool gy.q,gy.rs.val]) hre'
    have rc:wr.rangeAt b (off+k*39+2) (certL gx.vt gx.sg):=zO (cs:=[.bool gx.q,gx.rs.val]) hre
    have rc':wr.rangeAt b' (off'+k*39+2) (certL gy.vt gy.sg):=zO (cs:=[.bool gy.q,gy.rs.val]) hre'
    have ic:(prog.info? 50).map (·.size)=some (certL gx.vt gx.sg).length:=by rw[show(certL gx.vt gx.sg).length=37 by simp[certL,okx.len]];exact iszC
    have ic':(prog.info? 50).map (·.size)=some (certL gy.vt gy.sg).length:=by rw[show(certL gy.vt gy.sg).length=37 by simp[certL,oky.len]];exact iszC
    have g1:=fun(w0:World) (h0:Below wr.heap.size wr w0)=>zeQ gx.q gx.rs gy.q gy.rs w0 (atx.below h0).1 (aty.below h0).1
    have g2:=fun(w0:World) (h0:Below wr.heap.size wr w0)=>zeO gx.vt gy.vt gx.sg gy.sg w0 okx oky (atx.below h0).2 (aty.below h0).2
    simp only[Sl.val]at g1
    unfold Hd.B at HT HF
    have iB:(prog.info? 39).map (·.size)=some (#[.bool gx.q,.slice gx.rs.a gx.rs.xs.length gx.rs.cap]:Array Value).toList.length:=iszB
    have iB':(prog.info? 39).map (·.size)=some (#[.bool gy.q,.slice gy.rs.a gy.rs.xs.length gy.rs.cap]:Array Value).toList.length:=iszB
    generalize batB gx.q gx.rs gy.q gy.rs=b1 at *
    generalize certB gx.vt gx.sg gy.vt gy.sg=b2 at *
    generalize certL gx.vt gx.sg=u at *
    generalize certL gy.vt gy.sg=u' at *
    generalize (#[.bool gx.q,.slice gx.rs.a gx.rs.xs.length gx.rs.cap]:Array Value)=vb at *
    generalize (#[.bool gy.q,.slice gy.rs.a gy.rs.xs.length gy.rs.cap]:Array Value)=vb' at *
    clear hgx hgy HM okx oky atx aty hre hre'
    cases b1
    ·have HF':=hide (HF.out (Bool.false_and _))
     clear HF HT hsb
     go_upto_region 6 with fail
     obtain⟨w5,hw5⟩:∃w5,wr.drew=w5:=⟨_,rfl⟩
     have hBd:Below wr.heap.size wr w5:=by rw[←hw5];exact(Below.refl _ _).drew
     have hB5:=hB.trans (hBd.mono hB.size)
     have rb5:=za rb hBd hb
     have rb5':=za rb' hBd hb'
     have rc5:=za rc hBd hb
     have rc5':=za rc' hBd hb'
     have hb5:b<w5.heap.size:=Nat.lt_of_lt_of_le hb hBd.size
     have hb5':b'<w5.heap.size:=Nat.lt_of_lt_of_le hb' hBd.size
     have G1:=fun w0 (h0:Below w5.heap.size w5 w0)=>g1 w0 (hBd.trans (h0.mono hBd.size))
     have G2:=fun w0 (h0:Below w5.heap.size w5 w0)=>g2 w0 (hBd.trans (h0.mono hBd.size))
     refine zw (S:=(Below w5.heap.size w5)) 26 rfl (by kernel_rfl) ?_
     rw[hw5]
     clear hw5 rb rb' rc rc' hb hb' hBd hB g1 g2
     have hS:(Below w5.heap.size w5) w5:=Below.refl _ _
     refine hs_a 0 17 hS ?_
     refine hs_a 1 18 hS ?_
     refine hs_a 2 19 hS ?_
     refine hs_a 3 20 hS ?_
     refine hs_v 4 21 (.agg vb) rfl (fun w' hw=>zu rfl rfl (run_loadVar_mid (P:=prog) w' b (off+k*39) 39 vb.toList _ (za rb5 hw hb5) underlying39 rfl iB)) hS ?_
     refine hs_a 5 22 hS ?_
     refine hs_a 6 23 hS ?_
     refine hs_a 7 24 hS ?_
     refine hs_a 8 25 hS ?_
     refine hs_v 9 26 (.agg vb') rfl (fun w' hw=>zu rfl rfl (run_loadVar_mid (P:=prog) w' b' (off'+k*39) 39 vb'.toList _ (za rb5' hw hb5') underlying39 rfl iB')) hS ?_
     refine hs_c 10 27 ?_
     refine(G1 w5 hS).mono ?_
     rintro e' wn1 ⟨rfl,hb1⟩
     have hS:(Below w5.heap.size w5) wn1:=hS.trans (hb1.mono hS.size)
     refine⟨_,rfl,hS,?_⟩
     simp only[nz]
     refine hs_a 11 28 hS ?_
     refine hs_a 12 29 hS ?_
     refine hs_k 13 30 hS ?_
     refine hs_k 14 31 hS ?_
     refine hs_k 15 32 hS ?_
     refine hs_k 16 33 hS ?_
     refine hs_k 17 34 hS ?_
     refine hs_k 18 35 hS ?_
     refine hs_k 19 36 hS ?_
     refine hs_k 20 37 hS ?_
     refine hs_k 21 38 hS ?_
     refine hs_k 22 39 hS ?_
     refine hs_k 23 40 hS ?_
     refine hs_k 24 41 hS ?_
     refine hs_a 25 42 hS ?_
     refine zv (by kernel_rfl) ?_
     go_wp2
     go_ret
     exact⟨by rw[HF'.out];rfl,hB5.trans (hS.mono hB5.size)⟩
    ·cases b2
     ·have HF':=hide (HF.out (Bool.true_and _))
      clear HF HT hsb
      go_upto_region 6 with fail
      obtain⟨w5,hw5⟩:∃w5,wr.drew=w5:=⟨_,rfl⟩
      have hBd:Below wr.heap.size wr w5:=by rw[←hw5];exact(Below.refl _ _).drew
      have hB5:=hB.trans (hBd.mono hB.size)
      have rb5:=za rb hBd hb
      have rb5':=za rb' hBd hb'
      have rc5:=za rc hBd hb
      have rc5':=za rc' hBd hb'
      have hb5:b<w5.heap.size:=Nat.lt_of_lt_of_le hb hBd.size
      have hb5':b'<w5.heap.size:=Nat.lt_of_lt_of_le hb' hBd.size
      have G1:=fun w0 (h0:Below w5.heap.size w5 w0)=>g1 w0 (hBd.trans (h0.mono hBd.size))
      have G2:=fun w0 (h0:Below w5.heap.size w5 w0)=>g2 w0 (hBd.trans (h0.mono hBd.size))
      refine zw (S:=(Below w5.heap.size w5)) 26 rfl (by kernel_rfl) ?_
      rw[hw5]
      clear hw5 rb rb' rc rc' hb hb' hBd hB g1 g2
      have hS:(Below w5.heap.size w5) w5:=Below.refl _ _
      refine hs_a 0 17 hS ?_
      refine hs_a 1 18 hS ?_
      refine hs_a 2 19 hS ?_
      refine hs_a 3 20 hS ?_
      refine hs_v 4 21 (.agg vb) rfl (fun w' hw=>zu rfl rfl (run_loadVar_mid (P:=prog) w' b (off+k*39) 39 vb.toList _ (za rb5 hw hb5) underlying39 rfl iB)) hS ?_
      refine hs_a 5 22 hS ?_
      refine hs_a 6 23 hS ?_
      refine hs_a 7 24 hS ?_
      refine hs_a 8 25 hS ?_
      refine hs_v 9 26 (.agg vb') rfl (fun w' hw=>zu rfl rfl (run_loadVar_mid (P:=prog) w' b' (off'+k*39) 39 vb'.toList _ (za rb5' hw hb5') underlying39 rfl iB')) hS ?_
      refine hs_c 10 27 ?_
      refine(G1 w5 hS).mono ?_
      rintro e' wn1 ⟨rfl,hb1⟩
      have hS:(Below w5.heap.size w5) wn1:=hS.trans (hb1.mono hS.size)
      refine⟨_,rfl,hS,?_⟩
      simp only[nz]
      refine hs_a 11 28 hS ?_
      refine hs_a 12 29 hS ?_
      refine hs_a 13 30 hS ?_
      refine hs_a 14 31 hS ?_
      refine hs_a 15 32 hS ?_
      refine hs_a 16 33 hS ?_
      refine hs_v 17 34 (.agg u.toArray) rfl (fun w' hw=>zu rfl rfl (run_loadVar_mid (P:=prog) w' b (off+k*39+2) 50 u _ (za rc5 hw hb5) underlying50 rfl ic)) hS ?_
      refine hs_a 18 35 hS ?_
      refine hs_a 19 36 hS ?_
      refine hs_a 20 37 hS ?_
      refine hs_a 21 38 hS ?_
      refine hs_v 22 39 (.agg u'.toArray) rfl (fun w' hw=>zu rfl rfl (run_loadVar_mid (P:=prog) w' b' (off'+k*39+2) 50 u' _ (za rc5' hw hb5') underlying50 rfl ic')) hS ?_
      refine hs_c 23 40 ?_
      refine(G2 wn1 hb1).mono ?_
      rintro e' wn2 ⟨rfl,hb2⟩
      have hS:(Below w5.heap.size w5) wn2:=hS.trans (hb2.mono hS.size)
      refine⟨_,rfl,hS,?_⟩
      simp only[nz]
      refine hs_a 24 41 hS ?_
      refine hs_a 25 42 hS ?_
      refine zv (by kernel_rfl) ?_
      go_wp2
      go_ret
      exact⟨by rw[HF'.out];rfl,hB5.trans (hS.mono hB5.size)⟩
     ·have HT':=hide (HT.out (Bool.true_and _))
      clear HF HT
      go_upto_region 6 with fail
      obtain⟨w5,hw5⟩:∃w5,wr.drew=w5:=⟨_,rfl⟩
      have hBd:Below wr.heap.size wr w5:=by rw[←hw5];exact(Below.refl _ _).drew
      have hB5:=hB.trans (hBd.mono hB.size)
      have rb5:=za rb hBd hb
      have rb5':=za rb' hBd hb'
      have rc5:=za rc hBd hb
      have rc5':=za rc' hBd hb'
      have hb5:b<w5.heap.size:=Nat.lt_of_lt_of_le hb hBd.size
      have hb5':b'<w5.heap.size:=Nat.lt_of_lt_of_le hb' hBd.size
      have G1:=fun w0 (h0:Below w5.heap.size w5 w0)=>g1 w0 (hBd.trans (h0.mono hBd.size))
      have G2:=fun w0 (h0:Below w5.heap.size w5 w0)=>g2 w0 (hBd.trans (h0.mono hBd.size))
      refine zw (S:=(Below w5.heap.size w5)) 26 rfl (by kernel_rfl) ?_
      rw[hw5]
      clear hw5 rb rb' rc rc' hb hb' hBd hB g1 g2
      have hS:(Below w5.heap.size w5) w5:=Below.refl _ _
      refine hs_a 0 17 hS ?_
      refine hs_a 1 18 hS ?_
      refine hs_a 2 19 hS ?_
      refine hs_a 3 20 hS ?_
      refine hs_v 4 21 (.agg vb) rfl (fun w' hw=>zu rfl rfl (run_loadVar_mid (P:=prog) w' b (off+k*39) 39 vb.toList _ (za rb5 hw hb5) underlying39 rfl iB)) hS ?_
      refine hs_a 5 22 hS ?_
      refine hs_a 6 23 hS ?_
      refine hs_a 7 24 hS ?_
      refine hs_a 8 25 hS ?_
      refine hs_v 9 26 (.agg vb') rfl (fun w' hw=>zu rfl rfl (run_loadVar_mid (P:=prog) w' b' (off'+k*39) 39 vb'.toList _ (za rb5' hw hb5') underlying39 rfl iB')) hS ?_
      refine hs_c 10 27 ?_
      refine(G1 w5 hS).mono ?_
      rintro e' wn1 ⟨rfl,hb1⟩
      have hS:(Below w5.heap.size w5) wn1:=hS.trans (hb1.mono hS.size)
      refine⟨_,rfl,hS,?_⟩
      simp only[nz]
      refine hs_a 11 28 hS ?_
      refine hs_a 12 29 hS ?_
      refine hs_a 13 30 hS ?_
      refine hs_a 14 31 hS ?_
      refine hs_a 15 32 hS ?_
      refine hs_a 16 33 hS ?_
      refine hs_v 17 34 (.agg u.toArray) rfl (fun w' hw=>zu rfl rfl (run_loadVar_mid (P:=prog) w' b (off+k*39+2) 50 u _ (za rc5 hw hb5) underlying50 rfl ic)) hS ?_
      refine hs_a 18 35 hS ?_
      refine hs_a 19 36 hS ?_
      refine hs_a 20 37 hS ?_
      refine hs_a 21 38 hS ?_
      refine hs_v 22 39 (.agg u'.toArray) rfl (fun w' hw=>zu rfl rfl (run_loadVar_mid (P:=prog) w' b' (off'+k*39+2) 50 u' _ (za rc5' hw hb5') underlying50 rfl ic')) hS ?_
      refine hs_c 23 40 ?_
      refine(G2 wn1 hb1).mono ?_
      rintro e' wn2 ⟨rfl,hb2⟩
      have hS:(Below w5.heap.size w5) wn2:=hS.trans (hb2.mono hS.size)
      refine⟨_,rfl,hS,?_⟩
      simp only[nz]
      refine hs_a 24 41 hS ?_
      refine hs_a 25 42 hS ?_
      refine zv (by kernel_rfl) ?_
      have hBe:=hB5.trans (hS.mono hB5.size)
      go_wp2
      go_roundw
      case rel=>exact⟨k+1,by omega,by go_num,HT',hBe⟩
      case measure=>simp[intOf];omega
   ·have k1:¬(k:Int)<xs.length:=by omega
    have HE:Hid (sb=true):=hide (by
     rw[←hsb.out]
     exact zdR HL.out (fun j hj=>HM.out j (by omega)))
    clear HM hsb
    go_wp2
    go_ret
    exact⟨by rw[HE.out];rfl,hB⟩
theorem zh2 (a b:Mg) (w:World) (oa:a.ok) (ob:b.ok) (ha:a.At w) (hb:b.At w):Calls prog 14 #[.agg a.ms.cells.toArray,.agg b.ms.cells.toArray] w fun er w'=>er=.returned (.bool (Mg.B a b))∧Below w.heap.size w w':=by
 obtain⟨hA,hA',hB,hs⟩:=zbN a.ms.cells b.ms.cells 52 w
 obtain⟨W,hW⟩:∃W,Hid ((w.alloc (.cells a.ms.cells.toArray 52)).alloc (.cells b.ms.cells.toArray 52)=W):=⟨_,hide rfl⟩
 rw[hW.out]at hA hA' hB hs
 have M:=oa.ms.at hA
 have M':=ob.ms.at hA'
 have ix:(prog.info? 43).map (·.size)=some a.vt.cells.length:=by rw[oa.vt.len];exact iszV
 have iy:(prog.info? 43).map (·.size)=some b.vt.cells.length:=by rw[ob.vt.len];exact iszV
 have id:(prog.info? 41).map (·.size)=some (v8 a.d).length:=by rw[v8_length,oa.dl];exact iszD
 have id':(prog.info? 41).map (·.size)=some (v8 b.d).length:=by rw[v8_length,ob.dl];exact iszD
 have ic:(prog.info? 50).map (·.size)=some (certL a.ct a.cs).length:=by rw[show(certL a.ct a.cs).length=37 by simp[certL,oa.ct.len]];exact iszC
 have ic':(prog.info? 50).map (·.size)=some (certL b.ct b.cs).length:=by rw[show(certL b.ct b.cs).length=37 by simp[certL,ob.ct.len]];exact iszC
 have hq:=eqInV a.vt b.vt oa.vt.dl ob.vt.dl
 have hq2:=eqInD a.d b.d oa.dl ob.dl
 have gB:=fun w0 k1 k2=>zeQ a.q a.rs b.q b.rs w0 k1 k2
 have gC:=fun w0 k1 k2=>zh7 a.he b.he w0 k1 k2
 have gN:=fun w0 k1 k2=>zh5 a.ne.a a.ne.cap a.ne.xs b.ne.a b.ne.cap b.ne.xs w0 k1 k2
 have gT:=fun w0 k1 k2=>zeO a.ct b.ct a.cs b.cs w0 oa.ct ob.ct k1 k2
 have gS:=fun w0 k1 k2=>zeP a.sg.a a.sg.cap a.sg.xs b.sg.a b.sg.cap b.sg.xs w0 k1 k2
 have a1:=ha.below hB
 have b1:=hb.below hB
 have cK:W.cell? ⟨w.heap.size,0,none⟩=some (.int .i64 a.k):=M.k
 have cE:W.cell? ⟨w.heap.size,1,none⟩=some (.int .i64 a.e):=M.e
 have cL:W.cell? ⟨w.heap.size,2,none⟩=some (.int .i64 a.l):=M.l
 have cV:W.cell? ⟨w.heap.size,3,none⟩=some (.int .i64 a.v):=M.v
 have cS:W.cell? ⟨w.heap.size,4,none⟩=some (.int .i64 a.s):=M.s
 have cQ:W.cell? ⟨w.heap.size,5,none⟩=some (.bool a.q):=M.q
 have cR:W.cell? ⟨w.heap.size,6,none⟩=some (.slice a.rs.a a.rs.xs.length a.rs.cap):=M.rs
 have c1:W.cell? ⟨w.heap.size,43,none⟩=some (.int .i64 a.ce):=M.ce
 have c2:W.cell? ⟨w.heap.size,44,none⟩=some (.int .i64 a.cl):=M.cl
 have c3:W.cell? ⟨w.heap.size,45,none⟩=some (.int .i64 a.cv):=M.cv
 have cH:W.cell? ⟨w.heap.size,46,none⟩=some (.slice a.he.a a.he.xs.length a.he.cap):=M.he
 have cN:W.cell? ⟨w.heap.size,47,none⟩=some (.slice a.ne.a a.ne.xs.length a.ne.cap):=M.ne
 have cT:W.cell? ⟨w.heap.size,117,none⟩=some (.string a.st):=M.st
 have cG:W.cell? ⟨w.heap.size,118,none⟩=some (.slice a.sg.a a.sg.xs.length a.sg.cap):=M.sg
 have rV:W.rangeAt (w.heap.size) 7 a.vt.cells:=M.vt
 have rD:W.rangeAt (w.heap.size) 48 (v8 a.d):=M.d
 have rC:W.rangeAt (w.heap.size) 80 (certL a.ct a.cs):=M.ct
 have cK':W.cell? ⟨w.heap.size+1,0,none⟩=some (.int .i64 b.k):=M'.k
 have cE':W.cell? ⟨w.heap.size+1,1,none⟩=some (.int .i64 b.e):=M'.e
 have cL':W.cell? ⟨w.heap.size+1,2,none⟩=some (.int .i64 b.l):=M'.l
 have cV':W.cell? ⟨w.heap.size+1,3,none⟩=some (.int .i64 b.v):=M'.v
 have cS':W.cell? ⟨w.heap.size+1,4,none⟩=some (.int .i64 b.s):=M'.s
 have cQ':W.cell? ⟨w.heap.size+1,5,none⟩=some (.bool b.q):=M'.q
 have cR':W.cell? ⟨w.heap.size+1,6,none⟩=some (.slice b.rs.a b.rs.xs.length b.rs.cap):=M'.rs
 have c1':W.cell? ⟨w.heap.size+1,43,none⟩=some (.int .i64 b.ce):=M'.ce
 have c2':W.cell? ⟨w.heap.size+1,44,none⟩=some (.int .i64 b.cl):=M'.cl
 have c3':W.cell? ⟨w.heap.size+1,45,none⟩=some (.int .i64 b.cv):=M'.cv
 have cH':W.cell? ⟨w.heap.size+1,46,none⟩=some (.slice b.he.a b.he.xs.length b.he.cap):=M'.he
 have cN':W.cell? ⟨w.heap.size+1,47,none⟩=some (.slice b.ne.a b.ne.xs.length b.ne.cap):=M'.ne
 have cT':W.cell? ⟨w.heap.size+1,117,none⟩=some (.string b.st):=M'.st
 have cG':W.cell? ⟨w.heap.size+1,118,none⟩=some (.slice b.sg.a b.sg.xs.length b.sg.cap):=M'.sg
 have rV':W.rangeAt (w.heap.size+1) 7 b.vt.cells:=M'.vt
 have rD':W.rangeAt (w.heap.size+1) 48 (v8 b.d):=M'.d
 have rC':W.rangeAt (w.heap.size+1) 80 (certL b.ct b.cs):=M'.ct
 simp only[Sl.val]at gB gC
 unfold Mg.B Mg.nB Mg.fB Mg.lB chgB
 have A1:=a1.rs
 have A2:=a1.he
 have A3:RowsAt EvE W a.ne.a a.ne.xs:=a1.ne
 have A4:=a1.cs
 have A5:RowsAt SgE W a.sg.a a.sg.xs:=a1.sg
 have B1:=b1.rs
 have B2:=b1.he
 have B3:RowsAt EvE W b.ne.a b.ne.xs:=b1.ne
 have B4:=b1.cs
 have B5:RowsAt SgE W b.sg.a b.sg.xs:=b1.sg
 clear hA hA' M M' oa ob ha hb a1 b1
 generalize batB a.q a.rs b.q b.rs=b1 at *
 generalize sameL Hd.B a.he.xs b.he.xs=b2 at *
 generalize sameL Ev.B a.ne.xs b.ne.xs=b3 at *
 generalize certB a.ct a.cs b.ct b.cs=b4 at *
 generalize sameL Sg.B a.sg.xs b.sg.xs=b5 at *
 generalize a.ms.cells=q at *
 generalize b.ms.cells=q' at *
 generalize hgu:a.vt.cells=u at *
 generalize hgu':b.vt.cells=u' at *
 generalize hgd:v8 a.d=ud at *
 generalize hgd':v8 b.d=ud' at *
 generalize certL a.ct a.cs=uc at *
 generalize certL b.ct b.cs=uc' at *
 generalize vtB a.vt b.vt=vb at *
 generalize (a.d==b.d)=db at *
 clear hgu hgu' hgd hgd'
 obtain⟨k,e,l,v,s,qq,⟨ra,rc,rx⟩,vt,ce,cl,cv,⟨ha,hc,hx⟩,⟨na,nc,nx⟩,d,ct,cs,st,⟨ga,gc,gx⟩⟩:=a
 obtain⟨k',e',l',v',s',qq',⟨ra',rc',rx'⟩,vt',ce',cl',cv',⟨ha',hc',hx'⟩,⟨na',nc',nx'⟩,d',ct',cs',st',⟨ga',gc',gx'⟩⟩:=b
 simp only at *
 go_enter func14,ntmps14
 go_upto_region 1 with fail
 go_name_world w1 hw1
 obtain rfl:W=w1:=hW.out.symm.trans hw1
 clear hw1 hW
 try simp only[Act.put]
 refine wp_region_list ?_
 refine wpList_step fun K hK=>?_
 go_simp
 refine hK _ _ ?_
 clear hK K
 refine wpList_step fun K hK=>?_
 go_simp
 refine hK _ _ ?_
 clear hK K
 refine wpList_step fun K hK=>?_
 go_simp
 refine hK _ _ ?_
 clear hK K
 refine wpList_step fun K hK=>?_
 go_simp
 refine hK _ _ ?_
 clear hK K
 by_cases h_k:k=k'
 rotate_left
 ·have n_k:(k !=k')=true:=bne_iff_ne.2 h_k
  have E_k:=hide (show(k==k')=false from beq_eq_false_iff_ne.2 h_k)
  clear h_k rV rV' rD rD' cT cT' hq hq2 ix iy id id'
  clear gB gC gN gT gS A1 A2 A3 A4 A5 B1 B2 B3 B4 B5 rC rC' cQ cR cQ' cR' c1 c2 c3 cH c1' c2' c3' cH' cN cN' cG cG' ic ic'
  go_wp2
  go_ret
  exact⟨by rw[E_k.out];simp,hB⟩
 ·have n_k:(k !=k')=false:=by rw[h_k];simp
  have E_k:=hide (show(k==k')=true from beq_iff_eq.2 h_k)
  clear h_k
  refine wpList_step fun K hK=>?_
  go_simp
  refine hK _ _ ?_
  clear hK K
  refine wpList_step fun K hK=>?_
  go_simp
  refine hK _ _ ?_
  clear hK K
  refine wpList_step fun K hK=>?_
  go_simp
  refine hK _ _ ?_
  clear hK K
  refine wpList_step fun K hK=>?_
  go_simp
  refine hK _ _ ?_
  clear hK K
  refine wpList_step fun K hK=>?_
  go_simp
  refine hK _ _ ?_
  clear hK K
  refine wpList_step fun K hK=>?_
  go_simp
  refine hK _ _ ?_
  clear hK K
  by_cases h_e:e=e'
  rotate_left
  ·have n_e:(e !=e')=true:=bne_iff_ne.2 h_e
   have E_e:=hide (show(e==e')=false from beq_eq_false_iff_ne.2 h_e)
   clear h_e rV rV' rD rD' cT cT' hq hq2 ix iy id id'
   clear gB gC gN gT gS A1 A2 A3 A4 A5 B1 B2 B3 B4 B5 rC rC' cQ cR cQ' cR' c1 c2 c3 cH c1' c2' c3' cH' cN cN' cG cG' ic ic'
   go_wp2
   go_ret
   exact⟨by rw[E_e.out];simp,hB⟩
  ·have n_e:(e !=e')=false:=by rw[h_e];simp
   have E_e:=hide (show(e==e')=true from beq_iff_eq.2 h_e)
   clear h_e
   refine wpList_step fun K hK=>?_
   go_simp
   refine hK _ _ ?_
   clear hK K
   refine wpList_step fun K hK=>?_
   go_simp
   refine hK _ _ ?_
   clear hK K
   refine wpList_step fun K hK=>?_
   go_simp
   refine hK _ _ ?_
   clear hK K
   refine wpList_step fun K hK=>?_
   go_simp
   refine hK _ _ ?_
   clear hK K
   refine wpList_step fun K hK=>?_
   go_simp
   refine hK _ _ ?_
   clear hK K
   refine wpList_step fun K hK=>?_
   go_simp
   refine hK _ _ ?_
   clear hK K
   refine wpList_step fun K hK=>?_
   go_simp
   refine hK _ _ ?_
   clear hK K
   by_cases h_l:l=l'
   rotate_left
   ·have n_l:(l !=l')=true:=bne_iff_ne.2 h_l
    have E_l:=hide (show(l==l')=false from beq_eq_false_iff_ne.2 h_l)
    clear h_l rV rV' rD rD' cT cT' hq hq2 ix iy id id'
    clear gB gC gN gT gS A1 A2 A3 A4 A5 B1 B2 B3 B4 B5 rC rC' cQ cR cQ' cR' c1 c2 c3 cH c1' c2' c3' cH' cN cN' cG cG' ic ic'
    go_wp2
    go_ret
    exact⟨by rw[E_l.out];simp,hB⟩
   ·have n_l:(l !=l')=false:=by rw[h_l];simp
    have E_l:=hide (show(l==l')=true from beq_iff_eq.2 h_l)
    clear h_l
    refine wpList_step fun K hK=>?_
    go_simp
    refine hK _ _ ?_
    clear hK K
    refine wpList_step fun K hK=>?_
    go_simp
    refine hK _ _ ?_
    clear hK K
    refine wpList_step fun K hK=>?_
    go_simp
    refine hK _ _ ?_
    clear hK K
    refine wpList_step fun K hK=>?_
    go_simp
    refine hK _ _ ?_
    clear hK K
    refine wpList_step fun K hK=>?_
    go_simp
    refine hK _ _ ?_
    clear hK K
    refine wpList_step fun K hK=>?_
    go_simp
    refine hK _ _ ?_
    clear hK K
    refine wpList_step fun K hK=>?_
    go_simp
    refine hK _ _ ?_
    clear hK K
    by_cases h_v:v=v'
    rotate_left
    ·have n_v:(v !=v')=true:=bne_iff_ne.2 h_v
     have E_v:=hide (show(v==v')=false from beq_eq_false_iff_ne.2 h_v)
     clear h_v rV rV' rD rD' cT cT' hq hq2 ix iy id id'
     clear gB gC gN gT gS A1 A2 A3 A4 A5 B1 B2 B3 B4 B5 rC rC' cQ cR cQ' cR' c1 c2 c3 cH c1' c2' c3' cH' cN cN' cG cG' ic ic'
     go_wp2
     go_ret
     exact⟨by rw[E_v.out];simp,hB⟩
    ·have n_v:(v !=v')=false:=by rw[h_v];simp
     have E_v:=hide (show(v==v')=true from beq_iff_eq.2 h_v)
     clear h_v
     refine wpList_step fun K hK=>?_
     go_simp
     refine hK _ _ ?_
     clear hK K
     refine wpList_step fun K hK=>?_
     go_simp
     refine hK _ _ ?_
     clear hK K
     refine wpList_step fun K hK=>?_
     go_simp
     refine hK _ _ ?_
     clear hK K
     refine wpList_step fun K hK=>?_
     go_simp
     refine hK _ _ ?_
     clear hK K
     refine wpList_step fun K hK=>?_
     go_simp
     refine hK _ _ ?_
     clear hK K
     refine wpList_step fun K hK=>?_
     go_simp
     refine hK _ _ ?_
     clear hK K
     refine wpList_step fun K hK=>?_
     go_simp
     refine hK _ _ ?_
     clear hK K
     by_cases h_s:s=s'
     rotate_left
     ·have n_s:(s !=s')=true:=bne_iff_ne.2 h_s
      have E_s:=hide (show(s==s')=false from beq_eq_false_iff_ne.2 h_s)
      clear h_s rV rV' rD rD' cT cT' hq hq2 ix iy id id'
      clear gB gC gN gT gS A1 A2 A3 A4 A5 B1 B2 B3 B4 B5 rC rC' cQ cR cQ' cR' c1 c2 c3 cH c1' c2' c3' cH' cN cN' cG cG' ic ic'
      go_wp2
      go_ret
      exact⟨by rw[E_s.out];simp,hB⟩
     ·have n_s:(s !=s')=false:=by rw[h_s];simp
      have E_s:=hide (show(s==s')=true from beq_iff_eq.2 h_s)
      clear h_s
      refine wpList_step fun K hK=>?_
      go_simp
      refine hK _ _ ?_
      clear hK K
      refine wpList_step fun K hK=>?_
      go_simp
      refine hK _ _ ?_
      clear hK K
      refine wpList_step fun K hK=>?_
      go_simp
      refine hK _ _ ?_
      clear hK K
      refine wpList_step fun K hK=>?_
      go_simp
      refine hK _ _ ?_
      clear hK K
      refine zM (by rfl) 43 _ rfl _ _ rfl u _ rV underlying43 rfl ix ?_
      refine wpList_step fun K hK=>?_
      go_simp
      refine hK _ _ ?_
      clear hK K
      refine zM (by rfl) 43 _ rfl _ _ rfl u' _ rV' underlying43 rfl iy ?_
      cases vb
      ·clear rD rD' cT cT' hq2 id id'
       clear gB gC gN gT gS A1 A2 A3 A4 A5 B1 B2 B3 B4 B5 rC rC' cQ cR cQ' cR' c1 c2 c3 cH c1' c2' c3' cH' cN cN' cG cG' ic ic'
       refine wpList_step fun K hK=>?_
       go_simp
       try rw[hq]
       try go_simp
       refine hK _ _ ?_
       clear hK K
       go_wp2
       go_ret
       exact⟨by simp,hB⟩
      ·refine wpList_step fun K hK=>?_
       go_simp
       try rw[hq]
       try go_simp
       refine hK _ _ ?_
       clear hK K
       refine wpList_step fun K hK=>?_
       go_simp
       refine hK _ _ ?_
       clear hK K
       refine wpList_step fun K hK=>?_
       go_simp
       refine hK _ _ ?_
       clear hK K
       refine wpList_step fun K hK=>?_
       go_simp
       refine hK _ _ ?_
       clear hK K
       refine zM (by rfl) 41 _ rfl _ _ rfl ud _ rD underlying41 rfl id ?_
       refine wpList_step fun K hK=>?_
       go_simp
       refine hK _ _ ?_
       clear hK K
       refine zM (by rfl) 41 _ rfl _ _ rfl ud' _ rD' underlying41 rfl id' ?_
       cases db
       ·clear cT cT'
        clear gB gC gN gT gS A1 A2 A3 A4 A5 B1 B2 B3 B4 B5 rC rC' cQ cR cQ' cR' c1 c2 c3 cH c1' c2' c3' cH' cN cN' cG cG' ic ic'
        refine wpList_step fun K hK=>?_
        go_simp
        try rw[hq2]
        try go_simp
        refine hK _ _ ?_
        clear hK K
        go_wp2
        go_ret
        exact⟨by simp,hB⟩
       ·refine wpList_step fun K hK=>?_
        go_simp
        try rw[hq2]
        try go_simp
        refine hK _ _ ?_
        clear hK K
        refine wpList_step fun K hK=>?_
        go_simp
        refine hK _ _ ?_
        clear hK K
        refine wpList_step fun K hK=>?_
        go_simp
        refine hK _ _ ?_
        clear hK K
        refine wpList_step fun K hK=>?_
        go_simp
        refine hK _ _ ?_
        clear hK K
        refine wpList_step fun K hK=>?_
        go_simp
        refine hK _ _ ?_
        clear hK K
        refine wpList_step fun K hK=>?_
        go_simp
        refine hK _ _ ?_
        clear hK K
        refine wpList_step fun K hK=>?_
        go_simp
        refine hK _ _ ?_
        clear hK K
        by_cases h_st:st.toList=st'.toList
        rotate_left
        ·have hst:(st.toList !=st'.toList)=true:=bne_iff_ne.2 h_st
         have E_st:=hide (show(st.toList==st'.toList)=false from beq_eq_false_iff_ne.2 h_st)
         clear h_st
         clear gB gC gN gT gS A1 A2 A3 A4 A5 B1 B2 B3 B4 B5 rC rC' cQ cR cQ' cR' c1 c2 c3 cH c1' c2' c3' cH' cN cN' cG cG' ic ic'
         refine zcE (by rfl) _ _ _ _ rfl st st' rfl rfl true hst ?_
         go_wp2
         go_ret
         exact⟨by rw[E_st.out];simp,hB⟩
        ·have hst:(st.toList !=st'.toList)=false:=by rw[h_st];simp
         have E_st:=hide (show(st.toList==st'.toList)=true from beq_iff_eq.2 h_st)
         clear h_st
         refine zcE (by rfl) _ _ _ _ rfl st st' rfl rfl false hst ?_
         refine wpList_step fun K hK=>?_
         go_simp
         refine hK _ _ ?_
         clear hK K
         go_upto_region 3 with fail
         clear cK cE cL cV cS cK' cE' cL' cV' cS' rV rV' rD rD' cT cT' hq hq2 hst ix iy id id'
         obtain⟨r2,hb2,hz2,_⟩:=zq W #[.int .i64 0,.int .i64 0,.int .i64 0,.slice none 0 0] 46 [.int .i64 ce,.int .i64 cl,.int .i64 cv,.slice ha hx.length hc] rfl
         have hT2:=zE W #[.int .i64 0,.int .i64 0,.int .i64 0,.slice none 0 0] 46
         go_upto_region 4 with(refine wpList_store_mid rfl 46 _ _ rfl _ _ #[.int .i64 ce,.int .i64 cl,.int .i64 cv,.slice ha hx.length hc] rfl rfl hT2 zdg (by simp[Value.oneCell']) ?_)
         go_name_world w2 hw2
         rw[show(W.alloc (.cells #[.int .i64 0,.int .i64 0,.int .i64 0,.slice none 0 0] 46)).setCells W.heap.size 0 [.int .i64 ce,.int .i64 cl,.int .i64 cv,.slice ha hx.length hc]=w2 from hw2]at r2 hb2 hz2
         have hs2:W.heap.size<w2.heap.size:=by omega
         clear hw2 hz2 hT2
         have up:=fun i v (h:W.cell? ⟨w.heap.size,i,none⟩=some v)=>(hb2.cell (p:=⟨w.heap.size,i,none⟩) (show w.heap.size<W.heap.size by omega)).trans h
         replace c1:=up _ _ c1
         replace c2:=up _ _ c2
         replace c3:=up _ _ c3
         replace cH:=up _ _ cH
         replace cQ:=up _ _ cQ
         replace cR:=up _ _ cR
         replace cN:=up _ _ cN
         replace cG:=up _ _ cG
         replace rC:=za rC hb2 (by omega)
         clear up
         have up':=fun i v (h:W.cell? ⟨w.heap.size+1,i,none⟩=some v)=>(hb2.cell (p:=⟨w.heap.size+1,i,none⟩) (show w.heap.size+1<W.heap.size by omega)).trans h
         replace c1':=up' _ _ c1'
         replace c2':=up' _ _ c2'
         replace c3':=up' _ _ c3'
         replace cH':=up' _ _ cH'
         replace cQ':=up' _ _ cQ'
         replace cR':=up' _ _ cR'
         replace cN':=up' _ _ cN'
         replace cG':=up' _ _ cG'
         replace rC':=za rC' hb2 (by omega)
         clear up'
         have hBa:=hB.trans (hb2.mono (by omega))
         clear hB
         obtain⟨r3,hb3,hz3,_⟩:=zq w2 #[.int .i64 0,.int .i64 0,.int .i64 0,.slice none 0 0] 46 [.int .i64 ce',.int .i64 cl',.int .i64 cv',.slice ha' hx'.length hc'] rfl
         have hT3:=zE w2 #[.int .i64 0,.int .i64 0,.int .i64 0,.slice none 0 0] 46
         go_upto_region 5 with(refine wpList_store_mid rfl 46 _ _ rfl _ _ #[.int .i64 ce',.int .i64 cl',.int .i64 cv',.slice ha' hx'.length hc'] rfl rfl hT3 zdg (by simp[Value.oneCell']) ?_)
         go_name_world w3 hw3
         rw[show(w2.alloc (.cells #[.int .i64 0,.int .i64 0,.int .i64 0,.slice none 0 0] 46)).setCells w2.heap.size 0 [.int .i64 ce',.int .i64 cl',.int .i64 cv',.slice ha' hx'.length hc']=w3 from hw3]at r3 hb3 hz3
         have hs3:w2.heap.size<w3.heap.size:=by omega
         clear hw3 hz3 hT3
         have up:=fun i v (h:w2.cell? ⟨w.heap.size,i,none⟩=some v)=>(hb3.cell (p:=⟨w.heap.size,i,none⟩) (show w.heap.size<w2.heap.size by omega)).trans h
         replace cQ:=up _ _ cQ
         replace cR:=up _ _ cR
         replace cN:=up _ _ cN
         replace cG:=up _ _ cG
         replace rC:=za rC hb3 (by omega)
         clear up
         have up':=fun i v (h:w2.cell? ⟨w.heap.size+1,i,none⟩=some v)=>(hb3.cell (p:=⟨w.heap.size+1,i,none⟩) (show w.heap.size+1<w2.heap.size by omega)).trans h
         replace cQ':=up' _ _ cQ'
         replace cR':=up' _ _ cR'
         replace cN':=up' _ _ cN'
         replace cG':=up' _ _ cG'
         replace rC':=za rC' hb3 (by omega)
         clear up'
         have hBb:=hBa.trans (hb3.mono (by omega))
         have d0:=za r2 hb3 (by omega) 0 _ rfl
         have d1:=za r2 hb3 (by omega) 1 _ rfl
         have d2:=za r2 hb3 (by omega) 2 _ rfl
         have d3:=za r2 hb3 (by omega) 3 _ rfl
         have f0:=r3 0 _ rfl
         have f1:=r3 1 _ rfl
         have f2:=r3 2 _ rfl
         have f3:=r3 3 _ rfl
         simp only[Nat.zero_add,Nat.add_zero]at d0 d1 d2 d3 f0 f1 f2 f3
         have hs4:w.heap.size+2≤w3.heap.size:=by omega
         have hBW:Below W.heap.size W w3:=hb2.trans (hb3.mono (by omega))
         clear r2 r3 hb2 hb3 hBa c1 c2 c3 cH c1' c2' c3' cH' hs hs2 hs3
         by_cases h_ce:ce=ce'
         rotate_left
         ·have n_ce:(ce !=ce')=true:=bne_iff_ne.2 h_ce
          have E_ce:=hide (show(ce==ce')=false from beq_eq_false_iff_ne.2 h_ce)
          clear h_ce gB gC gN gT gS A1 A2 A3 A4 A5 B1 B2 B3 B4 B5 rC rC' cQ cR cQ' cR' cN cN' cG cG'
          go_wp2
          go_ret
          exact⟨by rw[E_ce.out];simp,hBb⟩
         ·have n_ce:(ce !=ce')=false:=by rw[h_ce];simp
          have E_ce:=hide (show(ce==ce')=true from beq_iff_eq.2 h_ce)
          clear h_ce
          by_cases h_cl:cl=cl'
          rotate_left
          ·have n_cl:(cl !=cl')=true:=bne_iff_ne.2 h_cl
           have E_cl:=hide (show(cl==cl')=false from beq_eq_false_iff_ne.2 h_cl)
           clear h_cl gB gC gN gT gS A1 A2 A3 A4 A5 B1 B2 B3 B4 B5 rC rC' cQ cR cQ' cR' cN cN' cG cG'
           go_wp2
           go_ret
           exact⟨by rw[E_cl.out];simp,hBb⟩
          ·have n_cl:(cl !=cl')=false:=by rw[h_cl];simp
           have E_cl:=hide (show(cl==cl')=true from beq_iff_eq.2 h_cl)
           clear h_cl
           by_cases h_cv:cv=cv'
           rotate_left
           ·have n_cv:(cv !=cv')=true:=bne_iff_ne.2 h_cv
            have E_cv:=hide (show(cv==cv')=false from beq_eq_false_iff_ne.2 h_cv)
            clear h_cv gB gC gN gT gS A1 A2 A3 A4 A5 B1 B2 B3 B4 B5 rC rC' cQ cR cQ' cR' cN cN' cG cG'
            go_wp2
            go_ret
            exact⟨by rw[E_cv.out];simp,hBb⟩
           ·have n_cv:(cv !=cv')=false:=by rw[h_cv];simp
            have E_cv:=hide (show(cv==cv')=true from beq_iff_eq.2 h_cv)
            clear h_cv
            replace A1:=A1.below hBW
            replace B1:=B1.below hBW
            replace A2:=A2.below hBW
            replace B2:=B2.below hBW
            replace A3:=A3.below hBW
            replace B3:=B3.below hBW
            replace A4:=A4.below hBW
            replace B4:=B4.below hBW
            replace A5:=A5.below hBW
            replace B5:=B5.below hBW
            have G2:=gC w3 A2 B2
            clear hBW
            go_wp2_with fail
            refine G2.mono ?_
            rintro e5 w5 ⟨rfl,hb5⟩
            have up:=fun i v (h:w3.cell? ⟨w.heap.size,i,none⟩=some v)=>(hb5.cell (p:=⟨w.heap.size,i,none⟩) (show w.heap.size<w3.heap.size by omega)).trans h
            replace cQ:=up _ _ cQ
            replace cR:=up _ _ cR
            replace cN:=up _ _ cN
            replace cG:=up _ _ cG
            replace rC:=za rC hb5 (by omega)
            clear up
            have up':=fun i v (h:w3.cell? ⟨w.heap.size+1,i,none⟩=some v)=>(hb5.cell (p:=⟨w.heap.size+1,i,none⟩) (show w.heap.size+1<w3.heap.size by omega)).trans h
            replace cQ':=up' _ _ cQ'
            replace cR':=up' _ _ cR'
            replace cN':=up' _ _ cN'
            replace cG':=up' _ _ cG'
            replace rC':=za rC' hb5 (by omega)
            clear up'
            have hs5:=Nat.le_trans hs4 hb5.size
            have hB5:=hBb.trans (hb5.mono (by omega))
            replace A1:=A1.below hb5
            replace B1:=B1.below hb5
            replace A3:=A3.below hb5
            replace B3:=B3.below hb5
            replace A4:=A4.below hb5
            replace B4:=B4.below hb5
            replace A5:=A5.below hb5
            replace B5:=B5.below hb5
            have G1:=gB w5 A1 B1
            clear hb5 hBb hs4 G2 gC A2 B2 gB A1 B1 d0 d1 d2 d3 f0 f1 f2 f3
            cases b2
            ·clear G1 gN gT gS A3 A4 A5 B3 B4 B5
             go_wp2
             go_ret
             exact⟨by rw[E_k.out,E_e.out,E_l.out,E_v.out,E_s.out,E_st.out,E_ce.out,E_cl.out,E_cv.out];simp,hB5⟩
            ·go_upto_region 7 with fail
             go_wp2_with fail
             refine G1.mono ?_
             rintro e6 w6 ⟨rfl,hb6⟩
             have up:=fun i v (h:w5.cell? ⟨w.heap.size,i,none⟩=some v)=>(hb6.cell (p:=⟨w.heap.size,i,none⟩) (show w.heap.size<w5.heap.size by omega)).trans h
             replace cN:=up _ _ cN
             replace cG:=up _ _ cG
             replace rC:=za rC hb6 (by omega)
             clear up
             have up':=fun i v (h:w5.cell? ⟨w.heap.size+1,i,none⟩=some v)=>(hb6.cell (p:=⟨w.heap.size+1,i,none⟩) (show w.heap.size+1<w5.heap.size by omega)).trans h
             replace cN':=up' _ _ cN'
             replace cG':=up' _ _ cG'
             replace rC':=za rC' hb6 (by omega)
             clear up'
             have hs6:=Nat.le_trans hs5 hb6.size
             have hB6:=hB5.trans (hb6.mono (by omega))
             have G3:=gN w6 (A3.below hb6) (B3.below hb6)
             replace A4:=A4.below hb6
             replace B4:=B4.below hb6
             replace A5:=A5.below hb6
             replace B5:=B5.below hb6
             clear hb6 hB5 hs5 G1 gN A3 B3 cQ cR cQ' cR'
             cases b1
             ·clear G3 gT gS A4 A5 B4 B5
              go_wp2
              go_ret
              exact⟨by rw[E_k.out,E_e.out,E_l.out,E_v.out,E_s.out,E_st.out,E_ce.out,E_cl.out,E_cv.out];simp,hB6⟩
             ·go_wp2_with fail
              refine G3.mono ?_
              rintro e7 w7 ⟨rfl,hb7⟩
              have up:=fun i v (h:w6.cell? ⟨w.heap.size,i,none⟩=some v)=>(hb7.cell (p:=⟨w.heap.size,i,none⟩) (show w.heap.size<w6.heap.size by omega)).trans h
              replace cG:=up _ _ cG
              replace rC:=za rC hb7 (by omega)
              clear up
              have up':=fun i v (h:w6.cell? ⟨w.heap.size+1,i,none⟩=some v)=>(hb7.cell (p:=⟨w.heap.size+1,i,none⟩) (show w.heap.size+1<w6.heap.size by omega)).trans h
              replace cG':=up' _ _ cG'
              replace rC':=za rC' hb7 (by omega)
              clear up'
              have hs7:=Nat.le_trans hs6 hb7.size
              have hB7:=hB6.trans (hb7.mono (by omega))
              have G4:=gT w7 (A4.below hb7) (B4.below hb7)
              replace A5:=A5.below hb7
              replace B5:=B5.below hb7
              clear hb7 hB6 hs6 G3 gT A4 B4 cN cN'
              cases b3
              ·clear G4 gS A5 B5
               go_wp2
               go_ret
               exact⟨by rw[E_k.out,E_e.out,E_l.out,E_v.out,E_s.out,E_st.out,E_ce.out,E_cl.out,E_cv.out];simp,hB7⟩
              ·go_wp2_with (first|(refine zM (by rfl) 50 _ rfl _ _ rfl uc _ rC underlying50 rfl ic ?_)|(refine zM (by rfl) 50 _ rfl _ _ rfl uc' _ rC' underlying50 rfl ic' ?_))
               refine G4.mono ?_
               rintro e8 w8 ⟨rfl,hb8⟩
               have up:=fun i v (h:w7.cell? ⟨w.heap.size,i,none⟩=some v)=>(hb8.cell (p:=⟨w.heap.size,i,none⟩) (show w.heap.size<w7.heap.size by omega)).trans h
               replace cG:=up _ _ cG
               clear up
               have up':=fun i v (h:w7.cell? ⟨w.heap.size+1,i,none⟩=some v)=>(hb8.cell (p:=⟨w.heap.size+1,i,none⟩) (show w.heap.size+1<w7.heap.size by omega)).trans h
               replace cG':=up' _ _ cG'
               clear up'
               have hB8:=hB7.trans (hb8.mono (by omega))
               have G5:=gS w8 (A5.below hb8) (B5.below hb8)
               clear hb8 hB7 G4 gS A5 B5 rC rC'
               cases b4
               ·clear G5
                go_wp2
                go_ret
                exact⟨by rw[E_k.out,E_e.out,E_l.out,E_v.out,E_s.out,E_st.out,E_ce.out,E_cl.out,E_cv.out];simp,hB8⟩
               ·go_wp2_with fail
                refine G5.mono ?_
                rintro e9 w9 ⟨rfl,hb9⟩
                have hB9:=hB8.trans (hb9.mono hB8.size)
                clear hb9
                cases b5
                ·go_wp2
                 go_ret
                 exact⟨by rw[E_k.out,E_e.out,E_l.out,E_v.out,E_s.out,E_st.out,E_ce.out,E_cl.out,E_cv.out];simp,hB9⟩
                ·go_wp2
                 go_ret
                 exact⟨by rw[E_k.out,E_e.out,E_l.out,E_v.out,E_s.out,E_st.out,E_ce.out,E_cl.out,E_cv.out];simp,hB9⟩
structure Bst (w X:World) (b2:Nat) (q:List Value):Prop where
 A:X.rangeAt w.heap.size 0 q
 T:X.there b2 0 119
 T1:X.there (w.heap.size+1) 0 119
 B:Below w.heap.size w X
 h2:w.heap.size+2≤b2
 hs:b2<X.heap.size
theorem Bst.put {w X:World} {b2:Nat} {q:List Value} (h:Bst w X b2 q) (o:Nat) (vs:List Value):Bst w (X.setCells b2 o vs) b2 q:=
 ⟨World.rangeAt_setCells_apart h.A _ _ _ (.inl (by have:=h.h2;omega)),World.there_setCells h.T _ _ _,World.there_setCells h.T1 _ _ _,zi (by have:=h.h2;omega) vs o _ h.B,h.h2,by rw[zB];exact h.hs⟩
theorem Bst.below {w X Y:World} {b2:Nat} {q:List Value} (h:Bst w X b2 q) (hb:Below X.heap.size X Y):Bst w Y b2 q:=
 ⟨za h.A hb (by have:=h.h2;have:=h.hs;omega),zg h.T hb h.hs,zg h.T1 hb (by have:=h.h2;have:=h.hs;omega),h.B.trans (hb.mono h.B.size),h.h2,Nat.lt_of_lt_of_le h.hs hb.size⟩
theorem Bst.part {w X:World} {b2:Nat} {q:List Value} (h:Bst w X b2 q) (o n:Nat) (hn:o+n≤119):X.there b2 o n:=by
 have:=zL h.T o n hn
 rwa [Nat.zero_add]at this
theorem zbi {c:Ms} {X:World} {b:Nat} (x:Int) (r:X.rangeAt b 0 c.cells) (ht:X.there b 1 1):(X.setCells b 1 [.int .i64 x]).rangeAt b 0 {c with e:=x}.cells:=
 zaH (pre:=[Value.int .i64 c.k]) (mid:=[.int .i64 c.e]) (vs:=[.int .i64 x]) r 1 rfl ht rfl
theorem zf9 {c:Ms} {X:World} {b:Nat} (x:Int) (r:X.rangeAt b 0 c.cells) (ht:X.there b 2 1):(X.setCells b 2 [.int .i64 x]).rangeAt b 0 {c with l:=x}.cells:=
 zaH (pre:=[Value.int .i64 c.k,Value.int .i64 c.e]) (mid:=[.int .i64 c.l]) (vs:=[.int .i64 x]) r 2 rfl ht rfl
theorem zf5 {c:Ms} {X:World} {b:Nat} (x:Int) (r:X.rangeAt b 0 c.cells) (ht:X.there b 3 1):(X.setCells b 3 [.int .i64 x]).rangeAt b 0 {c with v:=x}.cells:=
 zaH (pre:=[Value.int .i64 c.k,Value.int .i64 c.e,Value.int .i64 c.l]) (mid:=[.int .i64 c.v]) (vs:=[.int .i64 x]) r 3 rfl ht rfl
theorem zcW {c:Ms} {X:World} {b:Nat} (x:Int) (r:X.rangeAt b 0 c.cells) (ht:X.there b 4 1):(X.setCells b 4 [.int .i64 x]).rangeAt b 0 {c with s:=x}.cells:=
 zaH (pre:=[Value.int .i64 c.k,Value.int .i64 c.e,Value.int .i64 c.l,Value.int .i64 c.v]) (mid:=[.int .i64 c.s]) (vs:=[.int .i64 x]) r 4 rfl ht rfl
theorem zcX {c:Ms} {X:World} {b:Nat} (x:Bool) (y:Value) (r:X.rangeAt b 0 c.cells) (ht:X.there b 5 2):(X.setCells b 5 [.bool x,y]).rangeAt b 0 {c with q:=x,rs:=y}.cells:=
 zaH (pre:=[Value.int .i64 c.k,.int .i64 c.e,.int .i64 c.l,.int .i64 c.v,.int .i64 c.s]) (mid:=[.bool c.q,c.rs]) (vs:=[.bool x,y]) r 5 rfl ht rfl
theorem zf4 {c:Ms} {X:World} {b:Nat} (x:Vt) (hx:x.ok) (hc:c.vt.ok) (r:X.rangeAt b 0 c.cells) (ht:X.there b 7 36):(X.setCells b 7 x.cells).rangeAt b 0 {c with vt:=x}.cells:=
 zaH (pre:=[.int .i64 c.k,.int .i64 c.e,.int .i64 c.l,.int .i64 c.v,.int .i64 c.s,.bool c.q,c.rs]) (mid:=c.vt.cells) (vs:=x.cells) r 7 rfl (by rw[hx.len];exact ht) (by rw[hx.len,hc.len])
theorem zgc {c:Ms} {X:World} {b:Nat} (x y z:Int) (u:Value) (hc:c.vt.ok) (r:X.rangeAt b 0 c.cells) (ht:X.there b 43 4):(X.setCells b 43 [.int .i64 x,.int .i64 y,.int .i64 z,u]).rangeAt b 0 {c with ce:=x,cl:=y,cv:=z,he:=u}.cells:=by
 have h:=zaH (pre:=[.int .i64 c.k,.int .i64 c.e,.int .i64 c.l,.int .i64 c.v,.int .i64 c.s,.bool c.q,c.rs]++c.vt.cells) (mid:=[.int .i64 c.ce,.int .i64 c.cl,.int .i64 c.cv,c.he]) (vs:=[.int .i64 x,.int .i64 y,.int .i64 z,u]) (post:=c.ne::(v8 c.d++(c.ct.cells++[c.cs,.string c.st,c.sg]))) (by simpa [Ms.cells,List.append_assoc]using r) 43 (by simp[hc.len]) ht rfl
 simpa [Ms.cells,List.append_assoc]using h
theorem zf8 {c:Ms} {X:World} {b:Nat} (x:Value) (hc:c.vt.ok) (r:X.rangeAt b 0 c.cells) (ht:X.there b 47 1):(X.setCells b 47 [x]).rangeAt b 0 {c with ne:=x}.cells:=by
 have h:=zaH (pre:=[.int .i64 c.k,.int .i64 c.e,.int .i64 c.l,.int .i64 c.v,.int .i64 c.s,.bool c.q,c.rs]++c.vt.cells++[.int .i64 c.ce,.int .i64 c.cl,.int .i64 c.cv,c.he]) (mid:=[c.ne]) (vs:=[x]) (post:=v8 c.d++(c.ct.cells++[c.cs,.string c.st,c.sg])) (by simpa [Ms.cells,List.append_assoc]using r) 47 (by simp[hc.len]) ht rfl
 simpa [Ms.cells,List.append_assoc]using h
theorem zga {c:Ms} {X:World} {b:Nat} (x:List Int) (hx:x.length=32) (hd:c.d.length=32) (hc:c.vt.ok) (r:X.rangeAt b 0 c.cells) (ht:X.there b 48 32):(X.setCells b 48 (v8 x)).rangeAt b 0 {c with d:=x}.cells:=by
 have h:=zaH (pre:=[.int .i64 c.k,.int .i64 c.e,.int .i64 c.l,.int .i64 c.v,.int .i64 c.s,.bool c.q,c.rs]++c.vt.cells++[.int .i64 c.ce,.int .i64 c.cl,.int .i64 c.cv,c.he,c.ne]) (mid:=v8 c.d) (vs:=v8 x) (post:=c.ct.cells++[c.cs,.string c.st,c.sg]) (by simpa [Ms.cells,List.append_assoc]using r) 48 (by simp[hc.len]) (by rw[v8_length,hx];exact ht) (by rw[v8_length,v8_length,hx,hd])
 simpa [Ms.cells,List.append_assoc]using h
theorem zgb {c:Ms} {X:World} {b:Nat} (x:Vt) (y:Value) (hx:x.ok) (hy:c.ct.ok) (hd:c.d.length=32) (hc:c.vt.ok) (r:X.rangeAt b 0 c.cells) (ht:X.there b 80 37):(X.setCells b 80 (x.cells++[y])).rangeAt b 0 {c with ct:=x,cs:=y}.cells:=by
 have h:=zaH (pre:=[.int .i64 c.k,.int .i64 c.e,.int .i64 c.l,.int .i64 c.v,.int .i64 c.s,.bool c.q,c.rs]++c.vt.cells++[.int .i64 c.ce,.int .i64 c.cl,.int .i64 c.cv,c.he,c.ne]++v8 c.d) (mid:=c.ct.cells++[c.cs]) (vs:=x.cells++[y]) (post:=[.string c.st,c.sg]) (by simpa [Ms.cells,List.append_assoc]using r) 80 (by simp[hc.len,hd]) (by simp[hx.len];exact ht) (by simp[hx.len,hy.len])
 simpa [Ms.cells,List.append_assoc]using h
theorem zf6 {c:Ms} {X:World} {b:Nat} (x:ByteArray) (hy:c.ct.ok) (hd:c.d.length=32) (hc:c.vt.ok) (r:X.rangeAt b 0 c.cells) (ht:X.there b 117 1):(X.setCells b 117 [.string x]).rangeAt b 0 {c with st:=x}.cells:=by
 have h:=zaH (pre:=[.int .i64 c.k,.int .i64 c.e,.int .i64 c.l,.int .i64 c.v,.int .i64 c.s,.bool c.q,c.rs]++c.vt.cells++[.int .i64 c.ce,.int .i64 c.cl,.int .i64 c.cv,c.he,c.ne]++v8 c.d++(c.ct.cells++[c.cs])) (mid:=[.string c.st]) (vs:=[.string x]) (post:=[c.sg]) (by simpa [Ms.cells,List.append_assoc]using r) 117 (by simp[hc.len,hd,hy.len]) ht rfl
 simpa [Ms.cells,List.append_assoc]using h
theorem zf7 {c:Ms} {X:World} {b:Nat} (x:Value) (hy:c.ct.ok) (hd:c.d.length=32) (hc:c.vt.ok) (r:X.rangeAt b 0 c.cells) (ht:X.there b 118 1):(X.setCells b 118 [x]).rangeAt b 0 {c with sg:=x}.cells:=by
 have h:=zaH (pre:=[.int .i64 c.k,.int .i64 c.e,.int .i64 c.l,.int .i64 c.v,.int .i64 c.s,.bool c.q,c.rs]++c.vt.cells++[.int .i64 c.ce,.int .i64 c.cl,.int .i64 c.cv,c.he,c.ne]++v8 c.d++(c.ct.cells++[c.cs,.string c.st])) (mid:=[c.sg]) (vs:=[x]) (post:=[]) (by simpa [Ms.cells,List.append_assoc]using r) 118 (by simp[hc.len,hd,hy.len]) ht rfl
 simpa [Ms.cells,List.append_assoc]using h
end Go.Proofs.YtcbpbkefggekmaaGreatDoor
